/- Stores: Near of a nil store. -/
import Derived.Test.YtmnmmbeageddkaaStG
set_option linter.unusedVariables false
set_option linter.unusedSimpArgs false
namespace Go.Proofs.Ytmnmmbeageddkaa
open Go.RowKit Go.Sort Go.Shelf

set_option maxRecDepth 100000 in
set_option maxHeartbeats 8000000 in
theorem st_near_nil (t : Int) (W : World) :
    Calls Try.prog 17 #[.pointer none, .int .i64 t] W fun e w' => e = .returned (.tuple #[IV Sk.zI, IV Sk.zI, .bool false, .bool false]) ∧ Below W.heap.size W w' := by
  have b0 : Below W.heap.size W (W.alloc (.cells #[.int .i64 0, .int .i64 0, .int .i64 0, .int .i64 0, .string ⟨#[]⟩] 36)) := (Below.refl _ _).alloc (Nat.le_refl _) _
  have K0 := Blk.new W 36 #[.int .i64 0, .int .i64 0, .int .i64 0, .int .i64 0, .string ⟨#[]⟩]
  have b1 : Below (W.alloc (.cells #[.int .i64 0, .int .i64 0, .int .i64 0, .int .i64 0, .string ⟨#[]⟩] 36)).heap.size (W.alloc (.cells #[.int .i64 0, .int .i64 0, .int .i64 0, .int .i64 0, .string ⟨#[]⟩] 36)) ((W.alloc (.cells #[.int .i64 0, .int .i64 0, .int .i64 0, .int .i64 0, .string ⟨#[]⟩] 36)).alloc (.cells #[.int .i64 0, .int .i64 0, .int .i64 0, .int .i64 0, .string ⟨#[]⟩] 36)) := (Below.refl _ _).alloc (Nat.le_refl _) _
  have K4 := Lib.hid (K0.on b1)
  have K5 := Lib.hid (show Blk ((W.alloc (.cells #[.int .i64 0, .int .i64 0, .int .i64 0, .int .i64 0, .string ⟨#[]⟩] 36)).alloc (.cells #[.int .i64 0, .int .i64 0, .int .i64 0, .int .i64 0, .string ⟨#[]⟩] 36)) (W.heap.size + 1) 36 #[.int .i64 0, .int .i64 0, .int .i64 0, .int .i64 0, .string ⟨#[]⟩] from Blk.newAt _ _ (by simp))
  have B1 := Lib.hid (below_step b0 b1)
  clear b0 b1 K0
  go_enter Try.func17, Try.ntmps17
  go_upto_region 1 with (fail)
  generalize (W.alloc (.cells #[.int .i64 0, .int .i64 0, .int .i64 0, .int .i64 0, .string ⟨#[]⟩] 36)).alloc (.cells #[.int .i64 0, .int .i64 0, .int .i64 0, .int .i64 0, .string ⟨#[]⟩] 36) = w1 at *
  go_wp2_with fail
  refine (st_at_nil t _).mono ?_
  rintro e w2 ⟨rfl, b2⟩
  have B2 := Lib.hid (below_step B1.out b2); have L4 := Lib.hid (K4.out.on b2); have L5 := Lib.hid (K5.out.on b2)
  clear b2 K4 K5 B1
  go_wp2_with fail
  refine (st_len_nil _).mono ?_
  rintro e wc ⟨rfl, b4⟩
  have K4 := Lib.hid (L4.out.on b4); have K5 := Lib.hid (L5.out.on b4); have B5 := Lib.hid (below_step B2.out b4)
  clear b4 L4 L5 B2
  go_upto_region 8 with (fail)
  have f0 := K4.out.frozen 0; have f1 := K4.out.frozen 1; have f2 := K4.out.frozen 2; have f3 := K4.out.frozen 3; have f4 := K4.out.frozen 4; have hb4 := K4.out.lt
  have c0 := K4.out.c0; have c1 := K4.out.c1; have c2 := K4.out.c2; have c3 := K4.out.c3; have c4 := K4.out.c4
  have g0 := K5.out.frozen 0; have g1 := K5.out.frozen 1; have g2 := K5.out.frozen 2; have g3 := K5.out.frozen 3; have g4 := K5.out.frozen 4; have hb5 := K5.out.lt
  have d0 := K5.out.c0; have d1 := K5.out.c1; have d2 := K5.out.c2; have d3 := K5.out.c3; have d4 := K5.out.c4
  have O1 := Lib.hid (show ∀ w9, w9 = ((((((((((wc.setCell ⟨W.heap.size, 0, none⟩ (.int .i64 0)).setCell ⟨W.heap.size, 1, none⟩ (.int .i64 0)).setCell ⟨W.heap.size, 2, none⟩ (.int .i64 0)).setCell ⟨W.heap.size, 3, none⟩ (.int .i64 0)).setCell ⟨W.heap.size, 4, none⟩ (.string ⟨#[]⟩)).setCell ⟨W.heap.size + 1, 0, none⟩ (.int .i64 0)).setCell ⟨W.heap.size + 1, 1, none⟩ (.int .i64 0)).setCell ⟨W.heap.size + 1, 2, none⟩ (.int .i64 0)).setCell ⟨W.heap.size + 1, 3, none⟩ (.int .i64 0)).setCell ⟨W.heap.size + 1, 4, none⟩ (.string ⟨#[]⟩)) →
      Blk w9 W.heap.size 36 #[.int .i64 0, .int .i64 0, .int .i64 0, .int .i64 0, .string ⟨#[]⟩] ∧ Blk w9 (W.heap.size + 1) 36 #[.int .i64 0, .int .i64 0, .int .i64 0, .int .i64 0, .string ⟨#[]⟩] ∧ Below W.heap.size W w9 from by
    rintro w9 rfl
    have P := set_five K4.out (.int .i64 0) (.int .i64 0) (.int .i64 0) (.int .i64 0) (.string ⟨#[]⟩)
    have P2 := set_five (K5.out.kept P.2 (by intro e; have := Option.some.inj e; omega)) (.int .i64 0) (.int .i64 0) (.int .i64 0) (.int .i64 0) (.string ⟨#[]⟩)
    refine ⟨P.1.kept P2.2 (by intro e; have := Option.some.inj e; omega), P2.1, ?_⟩
    exact (B5.out.trans (below_grown P.2 B5.out.size (by intro g e; cases e; exact Nat.le_refl _))).trans (below_grown P2.2 (Nat.le_trans B5.out.size P.2.size) (by intro g e; cases e; exact Nat.le_succ _)))
  go_cut [6, 7] from 44 to 47 (fun a b wx => a = .bool false ∧ b = .bool false ∧ Blk wx W.heap.size 36 #[.int .i64 0, .int .i64 0, .int .i64 0, .int .i64 0, .string ⟨#[]⟩] ∧ Blk wx (W.heap.size + 1) 36 #[.int .i64 0, .int .i64 0, .int .i64 0, .int .i64 0, .string ⟨#[]⟩] ∧ Below W.heap.size W wx)
  case first =>
    go_region_with (fail)
    all_goals
      go_wp2_with fail
      go_meet
      (case rel =>
        refine ⟨rfl, rfl, ?_⟩
        refine blk2_drew ?_
        exact O1.out _ rfl)
  case rest =>
    obtain ⟨rfl, rfl, K4, K5, B6⟩ := hcut
    clear f0 f1 f2 f3 f4 hb4 c0 c1 c2 c3 c4 g0 g1 g2 g3 g4 hb5 d0 d1 d2 d3 d4
    have c0 := K4.c0; have c1 := K4.c1; have c2 := K4.c2; have c3 := K4.c3; have c4 := K4.c4
    have d0 := K5.c0; have d1 := K5.c1; have d2 := K5.c2; have d3 := K5.c3; have d4 := K5.c4
    have B7 := Lib.hid B6
    clear K4 K5 B6
    go_wp2_with fail
    refine bodyPost_ret (v := .tuple #[IV Sk.zI, IV Sk.zI, .bool false, .bool false]) (by simp [results, Try.results17, go_sem, c0, c1, c2, c3, c4, d0, d1, d2, d3, d4]) rfl ⟨rfl, ?_⟩
    exact B7.out
end Go.Proofs.Ytmnmmbeageddkaa
