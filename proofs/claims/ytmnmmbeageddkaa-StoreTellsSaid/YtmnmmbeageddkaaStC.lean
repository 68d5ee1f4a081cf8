/- Stores: Find and List. -/
import Derived.Test.YtmnmmbeageddkaaStB
import Derived.Test.YtmnmmbeageddkaaIfE
set_option linter.unusedVariables false
set_option linter.unusedSimpArgs false
namespace Go.Proofs.Ytmnmmbeageddkaa
open Go.RowKit Go.Sort Go.Shelf

namespace Sk
/-- The one at a second's place, if that has it. -/
def fnd (t : Int) (l : List If.I) : If.I := match l[pl t l]? with | some x => if Sp.hs x.1 x.2.1 t then x else (0, 0, 0, 0, ⟨#[]⟩) | none => (0, 0, 0, 0, ⟨#[]⟩)
theorem fnd_at (t : Int) (l : List If.I) (h : has t l = true) : fnd t l = l[pl t l]'(has_lt h) := by
  have hl := has_lt h
  rw [has_at t l hl] at h
  unfold fnd
  rw [List.getElem?_eq_getElem hl]
  dsimp only
  rw [if_pos h]
theorem fnd_no (t : Int) (l : List If.I) (h : has t l = false) : fnd t l = (0, 0, 0, 0, ⟨#[]⟩) := by
  unfold fnd
  unfold has at h
  cases hx : l[pl t l]? with
  | none => rfl
  | some x => rw [hx] at h; dsimp only at h ⊢; rw [if_neg (by rw [h]; decide)]
end Sk
/-- An info as a value. -/
abbrev IV (x : If.I) : Value := .agg #[.int .i64 x.1, .int .i64 x.2.1, .int .i64 x.2.2.1, .int .i64 x.2.2.2.1, .string x.2.2.2.2]
set_option maxRecDepth 100000 in
set_option maxHeartbeats 8000000 in
theorem st_find {W : World} {N p : Nat} {room : Int} {V : Value} {qs : List Nat} {l : List If.I} (h : StM W N p room V qs l) (hk : Sk.Kept l) (hn : l.length ≤ 100000) (t : Int) :
    Calls Try.prog 15 #[.pointer (some ⟨p, 0, none⟩), .int .i64 t] W fun e w' => e = .returned (.tuple #[IV (Sk.fnd t l), .bool (Sk.has t l)]) ∧ Below W.heap.size W w' := by
  obtain ⟨A, c, rfl⟩ := h.form
  have b0 : Below W.heap.size W (W.alloc (.cells #[.int .i64 0, .int .i64 0, .int .i64 0, .int .i64 0, .string ⟨#[]⟩] 36)) := (Below.refl _ _).alloc (Nat.le_refl _) _
  have K0 := Lib.hid (Blk.new W 36 #[.int .i64 0, .int .i64 0, .int .i64 0, .int .i64 0, .string ⟨#[]⟩])
  have H0 := Lib.hid (h.on b0)
  have B0 := Lib.hid b0
  have HK := Lib.hid hk
  have HN := Lib.hid hn
  clear h hk hn b0
  obtain ⟨b, hb⟩ : ∃ b, Sk.has t l = b := ⟨_, rfl⟩
  have PB := Lib.hid hb
  obtain ⟨k, hk⟩ : ∃ k, Sk.pl t l = k := ⟨_, rfl⟩
  have PK := Lib.hid hk
  clear hk
  obtain ⟨⟨r0, r1, r2, r3, r4⟩, hr⟩ : ∃ r, Sk.fnd t l = r := ⟨_, rfl⟩
  have PR := Lib.hid hr
  rw [hb, hr]
  clear hb hr
  go_enter Try.func15, Try.ntmps15
  go_upto_region 1 with (fail)
  generalize W.alloc (.cells #[.int .i64 0, .int .i64 0, .int .i64 0, .int .i64 0, .string ⟨#[]⟩] 36) = w1 at *
  go_wp2_with fail
  refine (st_at H0.out HK.out HN.out t).mono ?_
  rw [PB.out, PK.out]
  rintro e w2 ⟨rfl, b2⟩
  have H2 := Lib.hid (H0.out.on b2); have K2 := Lib.hid (K0.out.on b2); have B2 := Lib.hid (below_step B0.out b2)
  clear b2 H0 K0 B0
  have c0 := K2.out.c0; have c1 := K2.out.c1; have c2 := K2.out.c2; have c3 := K2.out.c3; have c4 := K2.out.c4
  have f0 := K2.out.frozen 0; have f1 := K2.out.frozen 1; have f2 := K2.out.frozen 2; have f3 := K2.out.frozen 3; have f4 := K2.out.frozen 4; have hb := K2.out.lt
  cases b
  · have e := PR.out
    rw [Sk.fnd_no t l PB.out] at e
    simp only [Prod.mk.injEq] at e
    obtain ⟨rfl, rfl, rfl, rfl, rfl⟩ := e
    go_wp2_with fail
    refine bodyPost_ret (v := .tuple #[IV (0, 0, 0, 0, ⟨#[]⟩), .bool false]) (by simp [results, Try.results15, go_sem, f0, f1, f2, f3, f4, c0, c1, c2, c3, c4, hb]) rfl ⟨rfl, ?_⟩
    repeat (first | refine Below.setCell ?_ (by first | (simp; done) | (simp; omega) | omega) _ | refine below_drewN ?_ _ | refine Below.drew ?_)
    exact B2.out
  · have e := PR.out
    rw [Sk.fnd_at t l PB.out] at e
    obtain ⟨hlt, e⟩ : ∃ h : k < l.length, l[k] = (r0, r1, r2, r3, r4) := by
      have hp := PK.out
      subst hp
      exact ⟨Sk.has_lt PB.out, e⟩
    obtain ⟨a, q, rfl, g1, g2⟩ := H2.out.get k hlt
    have i1 : (k : Int) < l.length := by omega
    have d1 := H2.out.blk.c1
    rw [e] at g2
    have p0 := g2.c0; have p1 := g2.c1; have p2 := g2.c2; have p3 := g2.c3; have p4 := g2.c4
    clear g2 e
    dsimp only at p0 p1 p2 p3 p4
    go_wp2_with fail
    refine bodyPost_ret (v := .tuple #[IV (r0, r1, r2, r3, r4), .bool true]) (by simp [results, Try.results15, go_sem, f0, f1, f2, f3, f4, c0, c1, c2, c3, c4, hb]) rfl ⟨rfl, ?_⟩
    repeat (first | refine Below.setCell ?_ (by first | (simp; done) | (simp; omega) | omega) _ | refine below_drewN ?_ _ | refine Below.drew ?_)
    exact B2.out
set_option maxRecDepth 100000 in
set_option maxHeartbeats 8000000 in
theorem st_list {W : World} {N p : Nat} {room : Int} {V : Value} {qs : List Nat} {l : List If.I} (h : StM W N p room V qs l) (hn : l.length ≤ 100000) :
    Calls Try.prog 21 #[.pointer (some ⟨p, 0, none⟩)] W fun e w' => ∃ v, e = .returned v ∧ w'.ownsRow W.heap.size 36 5 v l.length (If.ifc l) ∧ Below W.heap.size W w' := by
  obtain ⟨i0, hi, hz0, hz1, hz2⟩ := info_parts info_inf
  obtain ⟨A, c, rfl⟩ := h.form
  have H0 := Lib.hid h
  have HN := Lib.hid hn
  obtain ⟨n, hnn⟩ : ∃ n, l.length = n := ⟨_, rfl⟩
  have HE := Lib.hid hnn
  have O0 := Lib.hid (World.ownsRow_nil W W.heap.size 36 5)
  clear h hn
  go_enter Try.func21, Try.ntmps21
  go_wp2_with fail
  refine (st_all H0.out).mono ?_
  rintro e w1 ⟨rfl, b1⟩
  have B1 := Lib.hid b1
  have O1 := Lib.hid (show w1.ownsRow W.heap.size 36 5 (.slice none 0 0) (l.take 0).length (If.ifc (l.take 0)) from World.ownsRow_nil _ _ _ _)
  clear b1 O0
  rw [hnn] at HN H0 ⊢
  clear hnn
  go_wp2_with fail
  go_loopw [3, 9] (fun u i wr => ∃ (k : Nat), k ≤ n ∧ i = .int .i64 k ∧ Hid (wr.ownsRow W.heap.size 36 5 u (l.take k).length (If.ifc (l.take k))) ∧ Hid (Below W.heap.size W wr)) (fun _ i _ => n - (intOf i).toNat)
  case atStart => exact ⟨0, Nat.zero_le _, rfl, O1, B1⟩
  case round =>
    rename World => w2
    obtain ⟨k, hk, rfl, O, B⟩ := hrel
    have H := Lib.hid (H0.out.on B.out)
    by_cases hlt : k < n
    · have hkl : k < l.length := by rw [HE.out]; exact hlt
      obtain ⟨a, q, rfl, g1, g2⟩ := H.out.get k hkl
      have T := Lib.hid (show If.ifc (l.take (k + 1)) = If.ifc (l.take k) ++ If.ifc [l[k]] by rw [List.take_succ_eq_append_getElem hkl, If.ifc_app])
      have TL := Lib.hid (show (l.take k).length = k ∧ (l.take (k + 1)).length = k + 1 by rw [List.length_take, List.length_take]; omega)
      have p0 := g2.c0; have p1 := g2.c1; have p2 := g2.c2; have p3 := g2.c3; have p4 := g2.c4
      clear g2
      generalize hx : l[k] = x at *
      obtain ⟨x0, x1, x2, x3, x4⟩ := x
      dsimp only at p0 p1 p2 p3 p4
      clear hx
      have i1 : (k : Int) < n := by omega
      have hkn : k ≤ 100000 := by have := HN.out; omega
      have i2 : (k : Int) ≤ 100000 := by omega
      rw [TL.out.1] at O
      have Bx := Lib.hid (show Below W.heap.size W (w2.alloc (.cells #[.int .i64 x0, .int .i64 x1, .int .i64 x2, .int .i64 x3, .string x4] 36)) from B.out.alloc B.out.size _)
      have Ox := Lib.hid (O.out.alloc (.cells #[.int .i64 x0, .int .i64 x1, .int .i64 x2, .int .i64 x3, .string x4] 36))
      have Px := Lib.hid (Blk.new w2 36 #[.int .i64 x0, .int .i64 x1, .int .i64 x2, .int .i64 x3, .string x4])
      clear B O H
      go_wp2_with (at_builtin; refine wpList_append_own _ rfl _ _ 46 rfl W.heap.size 36 i0 (.agg #[.int .i64 0, .int .i64 0, .int .i64 0, .int .i64 0, .string ⟨#[]⟩]) 5 48 Try.underlying46 hi hz0 hz1 hz2 rfl (by decide) _ k (If.ifc (l.take k)) rfl Ox.out ⟨w2.heap.size, 0, none⟩ 1 1 (If.ifc [(x0, x1, x2, x3, x4)]) rfl rfl (five_cells Px.out.c0 Px.out.c1 Px.out.c2 Px.out.c3 Px.out.c4) (If.ifc_one _) (by unfold maxLen; omega) (by omega) (by have := Bx.out.size; exact this) ?_)
      intro v6 w6 own6 grow6 _
      have B6 := Lib.hid (show Below W.heap.size W w6 from Bx.out.trans (below_grown grow6 Bx.out.size (own_row Ox.out)))
      have O6 := Lib.hid (show w6.ownsRow W.heap.size 36 5 v6 (l.take (k + 1)).length (If.ifc (l.take (k + 1))) by rw [TL.out.2, T.out]; exact own6)
      go_wp2
      go_roundw
      case rel => exact ⟨k + 1, by omega, by go_num, O6, B6⟩
      case measure => simp [intOf]; omega
    · have E2 : l.take k = l := List.take_of_length_le (by rw [HE.out]; omega)
      rw [E2] at O
      obtain ⟨A2, c2, rfl⟩ := po_form O.out
      have O2 := Lib.hid O.out
      rw [HE.out] at O2
      clear E2 O
      go_wp2
      go_ret
      exact ⟨_, rfl, by rw [HE.out]; exact O2.out, B.out⟩
end Go.Proofs.Ytmnmmbeageddkaa
