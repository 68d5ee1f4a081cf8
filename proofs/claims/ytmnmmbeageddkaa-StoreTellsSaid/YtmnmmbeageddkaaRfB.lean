/- The reference's stores: Drop. -/
import Derived.Test.YtmnmmbeageddkaaRfA
import Derived.Test.YtmnmmbeageddkaaIfE
set_option linter.unusedVariables false
set_option linter.unusedSimpArgs false
namespace Go.Proofs.Ytmnmmbeageddkaa
open Go.RowKit Go.Sort Go.Shelf

theorem own_weak38 {W : World} {N B size n : Nat} {e : TypeId} {v : Value} {xs : List Value} (hB : B ≤ N) (h : W.ownsRow N e size v n xs) : W.ownsRow B e size v n xs := by
  refine ⟨h.1, ?_⟩
  rcases h.2 with h | ⟨g, cap, cur, h1, h2, h3⟩
  · exact .inl h
  · exact .inr ⟨g, cap, cur, h1, Nat.le_trans hB h2, h3⟩
/-- What a turn of the reference's store answers. -/
def AnsRf (N m : Nat) (room : Int) (q : Int × List If.I) (W : World) (e : Ending) (w' : World) : Prop :=
  e = .returned (.int .i64 q.1) ∧ Fr W w' m none ∧ ∃ V', RfM w' N m room V' q.2
/-- A new list is laid into the store. -/
theorem rf_laid {W w1 : World} {N m : Nat} {room : Int} {V V' : Value} {l l' : List If.I} (h : RfM W N m room V l) (hN : N ≤ W.heap.size) (b : Below W.heap.size W w1) (own : w1.ownsRow W.heap.size 36 5 V' l'.length (If.ifc l')) :
    Fr W (w1.setCell ⟨m, 1, none⟩ V') m none ∧ ∃ V'', RfM (w1.setCell ⟨m, 1, none⟩ V') N m room V'' l' := by
  have D := (h.on b).blk
  refine ⟨⟨b.os, b.tape, b.output, Nat.le_trans b.size (by simp), fun k hk h1 h2 => ?_⟩, V', h.base, blk_set D V', ?_⟩
  · exact ((gr_set w1 m 1 V').block k (Nat.lt_of_lt_of_le hk b.size) (fun e => h1 (Option.some.inj e))).trans (b.block k hk)
  · exact (own_weak38 hN own).kept (gr_set w1 m 1 V') (.inr (D.not_row (by decide) own).symm)
set_option maxRecDepth 100000 in
set_option maxHeartbeats 8000000 in
theorem rf_drop {W : World} {N m : Nat} {room : Int} {V : Value} {l : List If.I} (h : RfM W N m room V l) (hn : l.length ≤ 90000) (hN : N ≤ W.heap.size) (t : Int) :
    Calls Try.prog 14 #[.pointer (some ⟨m, 0, none⟩), .int .i64 t] W (AnsRf N m room (Rf.drop t l) W) := by
  obtain ⟨i0, hi, hz0, hz1, hz2⟩ := info_parts info_inf
  obtain ⟨A, c, rfl⟩ := h.form
  have H0 := Lib.hid h
  have HI := Lib.hid h.inv
  have HNN := Lib.hid hN
  obtain ⟨⟨q1, q2⟩, hq⟩ : ∃ q, Rf.drop t l = q := ⟨_, rfl⟩
  rw [hq]
  have PQ := Lib.hid hq
  obtain ⟨n, hnn⟩ : ∃ n, l.length = n := ⟨_, rfl⟩
  rw [hnn] at HI hn
  have HE := Lib.hid hnn
  have d1 := H0.out.blk.c1
  rw [hnn] at d1
  clear h hq hN
  have O0 := Lib.hid (show W.ownsRow W.heap.size 36 5 (.slice none 0 0) (Rf.left t (l.take 0)).length (If.ifc (Rf.left t (l.take 0))) from World.ownsRow_nil _ _ _ _)
  clear hnn
  go_enter Try.func14, Try.ntmps14
  go_wp2_with fail
  clear d1
  go_loopw [5, 13] (fun u i wr => ∃ (k : Nat), k ≤ n ∧ i = .int .i64 k ∧ Hid (wr.ownsRow W.heap.size 36 5 u (Rf.left t (l.take k)).length (If.ifc (Rf.left t (l.take k)))) ∧ Hid (Below W.heap.size W wr)) (fun _ i _ => n - (intOf i).toNat)
  case atStart => exact ⟨0, Nat.zero_le _, rfl, O0, Lib.hid (Below.refl _ _)⟩
  case round =>
    rename World => w2
    obtain ⟨k, hk, rfl, O, B⟩ := hrel
    obtain ⟨AO, cO, rfl⟩ := po_form O.out
    by_cases hlt : k < n
    · have hkl : k < l.length := by rw [HE.out]; exact hlt
      obtain ⟨a, rfl, hab, g1, g2, g3, g4, g5⟩ := (HI.out.on B.out).get k hkl
      have T := Lib.hid (Rf.left_take t l k hkl)
      have TL := Lib.hid (show (Rf.left t (l.take k)).length ≤ 90000 by have := Rf.left_len t (l.take k); rw [List.length_take] at this; omega)
      generalize l[k] = x at *
      obtain ⟨x0, x1, x2, x3, x4⟩ := x
      dsimp only at g1 g2 g3 g4 g5
      have i1 : (k : Int) < n := by omega
      have kn : k ≤ 90000 := by omega
      go_upto_region 5 with (fail)
      have X3 := Lib.hid (Blk.new w2 36 #[.int .i64 x0, .int .i64 x1, .int .i64 x2, .int .i64 x3, .string x4])
      have bq : Below w2.heap.size w2 (w2.alloc (.cells #[.int .i64 x0, .int .i64 x1, .int .i64 x2, .int .i64 x3, .string x4] 36)) := (Below.refl _ _).alloc (Nat.le_refl _) _
      have B3 := Lib.hid (below_step B.out bq); have O3 := Lib.hid (own_on O.out bq)
      clear bq B O g1 g2 g3 g4 g5 hab
      generalize w2.alloc (.cells #[.int .i64 x0, .int .i64 x1, .int .i64 x2, .int .i64 x3, .string x4] 36) = w3 at *
      generalize w2.heap.size = gx at *
      have c0 := X3.out.c0; have c1 := X3.out.c1
      go_wp2_with fail
      refine (noontideref10_has x0 x1 t _).mono ?_
      rintro e w4 ⟨rfl, b4⟩
      have B4 := Lib.hid (below_step B3.out b4); have X4 := Lib.hid (X3.out.on b4); have O4 := Lib.hid (own_on O3.out b4)
      clear b4 B3 X3 O3 c0 c1
      cases hh : Sp.hs x0 x1 t
      · have E := Lib.hid (show Rf.left t (l.take (k + 1)) = Rf.left t (l.take k) ++ [(x0, x1, x2, x3, x4)] by have := T.out; rw [hh] at this; simpa using this)
        clear hh T
        have c0 := X4.out.c0; have c1 := X4.out.c1; have c2 := X4.out.c2; have c3 := X4.out.c3; have c4 := X4.out.c4
        have Bx := Lib.hid (show Below W.heap.size W (w4.alloc (.cells #[.int .i64 x0, .int .i64 x1, .int .i64 x2, .int .i64 x3, .string x4] 36)) from B4.out.alloc B4.out.size _)
        have Ox := Lib.hid (O4.out.alloc (.cells #[.int .i64 x0, .int .i64 x1, .int .i64 x2, .int .i64 x3, .string x4] 36))
        have Px := Lib.hid (Blk.new w4 36 #[.int .i64 x0, .int .i64 x1, .int .i64 x2, .int .i64 x3, .string x4])
        clear O4 B4
        go_wp2_with (at_builtin; refine wpList_append_own _ rfl _ _ 46 rfl W.heap.size 36 i0 (.agg #[.int .i64 0, .int .i64 0, .int .i64 0, .int .i64 0, .string ⟨#[]⟩]) 5 48 Try.underlying46 hi hz0 hz1 hz2 rfl (by decide) _ _ (If.ifc (Rf.left t (l.take k))) rfl Ox.out ⟨w4.heap.size, 0, none⟩ 1 1 (If.ifc [(x0, x1, x2, x3, x4)]) rfl rfl (five_cells Px.out.c0 Px.out.c1 Px.out.c2 Px.out.c3 Px.out.c4) (If.ifc_one _) (by have := TL.out; unfold maxLen; omega) (by have := TL.out; omega) Bx.out.size ?_)
        intro v6 w6 own6 grow6 _
        have B6 := Lib.hid (show Below W.heap.size W w6 from Bx.out.trans (below_grown grow6 Bx.out.size (own_row Ox.out)))
        have O6 := Lib.hid (show w6.ownsRow W.heap.size 36 5 v6 (Rf.left t (l.take (k + 1))).length (If.ifc (Rf.left t (l.take (k + 1)))) by rw [E.out, If.ifc_app, List.length_append]; exact own6)
        go_wp2
        go_roundw
        case rel => exact ⟨k + 1, by omega, by go_num, O6, B6⟩
        case measure => simp [intOf]; omega
      · have E := Lib.hid (show Rf.left t (l.take (k + 1)) = Rf.left t (l.take k) by have := T.out; rw [hh] at this; simpa using this)
        clear hh T
        have O6 := Lib.hid (show w4.ownsRow W.heap.size 36 5 (.slice AO (Rf.left t (l.take k)).length cO) (Rf.left t (l.take (k + 1))).length (If.ifc (Rf.left t (l.take (k + 1)))) by rw [E.out]; exact O4.out)
        go_wp2
        go_roundw
        case rel => exact ⟨k + 1, by omega, by go_num, O6, B4⟩
        case measure => simp [intOf]; omega
    · have E2 : l.take k = l := List.take_of_length_le (by rw [HE.out]; omega)
      rw [E2] at O ⊢
      have i1 : ¬ (k : Int) < n := by omega
      have D2 := Lib.hid (H0.out.on B.out)
      have d1 := D2.out.blk.c1
      rw [HE.out] at d1
      have df := D2.out.blk.frozen 1; have dl := D2.out.blk.lt
      obtain ⟨nl, hnl⟩ : ∃ nl, (Rf.left t l).length = nl := ⟨_, rfl⟩
      have NL := Lib.hid hnl
      rw [hnl] at O ⊢
      clear hnl E2
      by_cases he : nl = n
      · have Q := Lib.hid (show q1 = 12 ∧ q2 = l by have := PQ.out; unfold Rf.drop at this; rw [NL.out, HE.out, if_pos he] at this; simpa [eq_comm] using this)
        have h2 : (nl : Int) = n := by omega
        have h3 : ((nl : Int) == n) = true := by simpa using h2
        go_wp2
        go_ret
        exact ⟨by rw [Q.out.1]; rfl, Fr.of B.out, _, by rw [Q.out.2]; exact D2.out⟩
      · have Q := Lib.hid (show q1 = 0 ∧ q2 = Rf.left t l by have := PQ.out; unfold Rf.drop at this; rw [NL.out, HE.out, if_neg he] at this; simpa [eq_comm] using this)
        have h2 : ¬ (nl : Int) = n := by omega
        have h3 : ((nl : Int) == n) = false := by rw [beq_eq_false_iff_ne]; exact h2
        have RL := Lib.hid (rf_laid (l' := Rf.left t l) H0.out HNN.out B.out (by rw [NL.out]; exact O.out))
        go_wp2
        go_ret
        exact ⟨by rw [Q.out.1]; rfl, RL.out.1, by rw [Q.out.2]; exact RL.out.2⟩
end Go.Proofs.Ytmnmmbeageddkaa
