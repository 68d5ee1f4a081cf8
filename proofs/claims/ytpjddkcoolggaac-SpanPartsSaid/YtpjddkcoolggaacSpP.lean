/- The walk of SpanParts: whatever is handed in, the law answers true; nothing old turns. -/
import Derived.Test.YtpjddkcoolggaacSpT
set_option linter.unusedVariables false
set_option linter.unusedSimpArgs false
namespace Go.Proofs.Ytpjddkcoolggaac
open Go.RowKit Go.Sort

namespace Sp
def tot (l : List (Int × Int)) : Int := (l.map fun p => p.2 - p.1).sum
theorem tot_app (l k : List (Int × Int)) : tot (l ++ k) = tot l + tot k := by unfold tot; rw [List.map_append, List.sum_append]
theorem tot_one {x y : Int} (h : x ≤ y) : tot (one x y) = y - x := by
  unfold one
  cases hr : rb x y
  · unfold rb at hr; rw [decide_eq_false_iff_not] at hr
    rw [if_neg (by decide)]
    show (0 : Int) = _
    omega
  · rw [if_pos rfl]; unfold tot; simp
theorem one_in {x y : Int} {p : Int × Int} (hp : p ∈ one x y) : p = (x, y) ∧ x < y := by
  unfold one at hp
  cases hr : rb x y
  · rw [hr] at hp; simp at hp
  · rw [hr] at hp; simp at hp; exact ⟨hp, of_decide_eq_true hr⟩
theorem less_in {x0 x1 y0 y1 : Int} {p : Int × Int} (h : p ∈ less x0 x1 y0 y1) : x0 ≤ p.1 ∧ p.1 < p.2 ∧ p.2 ≤ x1 := by
  unfold less at h
  cases hm : mt x0 x1 y0 y1
  · rw [hm, if_neg (by decide)] at h
    obtain ⟨rfl, h'⟩ := one_in h
    exact ⟨by simp, h', by simp⟩
  · have hm' := of_decide_eq_true hm
    rw [hm, if_pos rfl] at h
    rcases List.mem_append.1 h with h | h
    · obtain ⟨rfl, h'⟩ := one_in h
      exact ⟨by simp, h', by simp only; omega⟩
    · obtain ⟨rfl, h'⟩ := one_in h
      exact ⟨by simp only; omega, h', by simp⟩
theorem less_tot {x0 x1 y0 y1 : Int} (h : x0 < x1) : tot (less x0 x1 y0 y1) = if mt x0 x1 y0 y1 then (x1 - x0) - (min x1 y1 - max x0 y0) else x1 - x0 := by
  unfold less
  cases hm : mt x0 x1 y0 y1
  · rw [if_neg (by decide), if_neg (by decide), tot_one (by omega)]
  · have hm' := of_decide_eq_true hm
    rw [if_pos rfl, if_pos rfl, tot_app, tot_one (by omega), tot_one (by omega)]
    omega
theorem tot_snoc (l : List (Int × Int)) (k : Nat) (h : k < l.length) : tot (l.take (k + 1)) = tot (l.take k) + (l[k].2 - l[k].1) := by
  rw [List.take_succ_eq_append_getElem h, tot_app]
  congr 1
  unfold tot; simp
theorem tot_take {l : List (Int × Int)} (h : ∀ p ∈ l, p.1 < p.2) (k : Nat) : 0 ≤ tot (l.take k) ∧ tot (l.take k) ≤ tot l := by
  have pos : ∀ l : List (Int × Int), (∀ p ∈ l, p.1 < p.2) → 0 ≤ tot l := by
    intro l hl
    induction l with
    | nil => unfold tot; simp
    | cons p l ih =>
      have e : tot (p :: l) = (p.2 - p.1) + tot l := by unfold tot; simp
      have := hl p (by simp)
      have := ih (fun q hq => hl q (by simp [hq]))
      omega
  have e : tot l = tot (l.take k) + tot (l.drop k) := by rw [← tot_app, List.take_append_drop]
  have a := pos (l.take k) (fun p hp => h p (List.mem_of_mem_take hp))
  have b := pos (l.drop k) (fun p hp => h p (List.mem_of_mem_drop hp))
  omega
theorem ln_mv (x0 x1 n : Int) : ln (x0 + n) (x1 + n) = ln x0 x1 ∧ lw (x0 + n) (x1 + n) = lw x0 x1 := by
  unfold ln lw rb
  have e1 : decide (x0 + n < x1 + n) = decide (x0 < x1) := by rw [Bool.eq_iff_iff]; simp
  have e2 : x1 + n - (x0 + n) = x1 - x0 := by omega
  rw [e1, e2]; exact ⟨rfl, rfl⟩
theorem ln_ok {x0 x1 : Int} (h : x0 < x1) (h2 : x1 - x0 ≤ 9223372036854775807) : ln x0 x1 = x1 - x0 ∧ lw x0 x1 = 0 := by
  unfold ln lw
  rw [show rb x0 x1 = true from decide_eq_true h, if_pos rfl, if_pos rfl]
  exact Nm.ok_yes (by omega) h2
theorem lw_0 {x0 x1 : Int} (h : lw x0 x1 = 0) : x0 < x1 ∧ x1 - x0 ≤ 9223372036854775807 := by
  unfold lw at h
  cases hr : rb x0 x1
  · rw [hr, if_neg (by decide)] at h; exact absurd h (by decide)
  · have hr' := of_decide_eq_true hr
    rw [hr, if_pos rfl] at h
    unfold Nm.okw at h
    cases hf : Nm.fits (x1 - x0)
    · rw [hf, if_neg (by decide)] at h; exact absurd h (by decide)
    · exact ⟨hr', (Nm.fits_true.1 hf).2⟩
theorem mv_back {x0 x1 n : Int} (h : mv x0 x1 n = true) (hx0 : -9223372036854775808 ≤ x0 ∧ x0 ≤ 9223372036854775807) (hx1 : -9223372036854775808 ≤ x1 ∧ x1 ≤ 9223372036854775807) : mv (x0 + n) (x1 + n) (-n) = true ∧ (-9223372036854775808 ≤ x0 + n ∧ x0 + n ≤ 9223372036854775807) ∧ (-9223372036854775808 ≤ x1 + n ∧ x1 + n ≤ 9223372036854775807) := by
  unfold mv at h ⊢
  rw [Bool.and_eq_true, Bool.and_eq_true] at h
  obtain ⟨⟨a, b⟩, c⟩ := h
  have a' := of_decide_eq_true a
  refine ⟨?_, Nm.fits_true.1 b, Nm.fits_true.1 c⟩
  rw [Bool.and_eq_true, Bool.and_eq_true]
  exact ⟨⟨decide_eq_true (by omega), Nm.fits_true.2 (by omega)⟩, Nm.fits_true.2 (by omega)⟩
end Sp
theorem less_len3 (x0 x1 y0 y1 : Int) : (Sp.less x0 x1 y0 y1).length ≤ 2 := by
  have h1 : ∀ x y, (Sp.one x y).length ≤ 1 := by intro x y; unfold Sp.one; split <;> simp
  unfold Sp.less
  split
  · rw [List.length_append]; have a := h1 x0 (max x0 y0); have b := h1 (min x1 y1) x1; omega
  · have a := h1 x0 x1; omega
-- WALKS
set_option maxHeartbeats 8000000 in
set_option maxRecDepth 100000 in
theorem sparts_no_a (x0 x1 y0 y1 n : Int) (w : World) (hx0 : -9223372036854775808 ≤ x0 ∧ x0 ≤ 9223372036854775807) (hx1 : -9223372036854775808 ≤ x1 ∧ x1 ≤ 9223372036854775807) (hn : -9223372036854775808 ≤ n ∧ n ≤ 9223372036854775807) (hw : Sp.lw x0 x1 ≠ 0) (hv : Sp.mv x0 x1 n = false) :
    Calls Try.prog 3 #[.agg #[.int .i64 x0, .int .i64 x1], .agg #[.int .i64 y0, .int .i64 y1], .int .i64 n] w fun e w' => e = .returned (.bool true) ∧ Below w.heap.size w w' := by
  have HX := Lib.hid (And.intro hx0 hx1)
  have HN := Lib.hid hn
  have HLM := Lib.hid (Sp.ln_mv x0 x1 n)
  have HV := Lib.hid hv; clear hv
  obtain ⟨q, hq⟩ : ∃ q, Sp.lw x0 x1 = q := ⟨_, rfl⟩
  have HQ := Lib.hid hq
  rw [hq] at hw
  have tq : (q == 0) = false := beq_eq_false_iff_ne.2 hw
  clear hw hq hx0 hx1 hn
  go_enter Try.func3, Try.ntmps3
  go_wp2_with fail
  refine (lives10 _).mono ?_; rintro e w1 ⟨rfl, b1⟩
  have d1 : Below w.heap.size w w1 := below_step (by repeat (first | exact Below.refl _ _ | refine below_drewN ?_ _ | refine Below.drew ?_ | refine Below.setCell ?_ (by first | (simp; done) | (simp; omega) | omega) _ | refine Below.alloc ?_ (by first | (simp; done) | (simp; omega) | omega) _)) b1
  have B1 := Lib.hid d1
  have A1 : Bk2 w1 (w.heap.size) (.int .i64 x0) (.int .i64 x1) := Bk2.of b1 (by simp <;> omega) (by intro j; simp [go_sem]) (by simp [go_sem]) (by simp [go_sem])
  have Bb1 : Bk2 w1 (w.heap.size + 1) (.int .i64 y0) (.int .i64 y1) := Bk2.of b1 (by simp <;> omega) (by intro j; simp [go_sem]) (by simp [go_sem]) (by simp [go_sem])
  clear b1 d1
  have cA_b := A1.hb
  have cA_f := A1.fz
  have cA_0 := A1.k0
  have cA_1 := A1.k1
  have cBb_b := Bb1.hb
  have cBb_f := Bb1.fz
  have cBb_0 := Bb1.k0
  have cBb_1 := Bb1.k1
  go_wp2_with fail
  clear cA_b cA_f cA_0 cA_1 cBb_b cBb_f cBb_0 cBb_1
  refine (span_len x0 x1 _ HX.out.1.1 HX.out.1.2 HX.out.2.1 HX.out.2.2).mono ?_; rintro e w2 ⟨rfl, b2⟩
  have d2 : Below w1.heap.size w1 w2 := below_step (by repeat (first | exact Below.refl _ _ | refine below_drewN ?_ _ | refine Below.drew ?_ | refine Below.setCell ?_ (by first | (simp; done) | (simp; omega) | omega) _ | refine Below.alloc ?_ (by first | (simp; done) | (simp; omega) | omega) _)) b2
  have B2 := Lib.hid (below_step B1.out d2)
  have A2 := A1.keep d2
  have Bb2 := Bb1.keep d2
  clear A1 Bb1 b2 d2 B1
  rw [HQ.out]
  generalize Sp.ln x0 x1 = m at *
  have cA_b := A2.hb
  have cA_f := A2.fz
  have cA_0 := A2.k0
  have cA_1 := A2.k1
  have cBb_b := Bb2.hb
  have cBb_f := Bb2.fz
  have cBb_0 := Bb2.k0
  have cBb_1 := Bb2.k1
  go_wp2_with fail
  clear cA_b cA_f cA_0 cA_1 cBb_b cBb_f cBb_0 cBb_1
  refine (span_move x0 x1 n _ HX.out.1.1 HX.out.1.2 HX.out.2.1 HX.out.2.2 HN.out.1 HN.out.2).mono ?_; rintro e w3 ⟨rfl, b3⟩
  have d3 : Below w2.heap.size w2 w3 := below_step (by repeat (first | exact Below.refl _ _ | refine below_drewN ?_ _ | refine Below.drew ?_ | refine Below.setCell ?_ (by first | (simp; done) | (simp; omega) | omega) _ | refine Below.alloc ?_ (by first | (simp; done) | (simp; omega) | omega) _)) b3
  have B3 := Lib.hid (below_step B2.out d3)
  have A3 := A2.keep d3
  have Bb3 := Bb2.keep d3
  clear A2 Bb2 b3 d3 B2
  rw [HV.out]
  simp only [Sp.bz, Sp.why, if_true, Bool.false_eq_true, if_false]
  have cA_b := A3.hb
  have cA_f := A3.fz
  have cA_0 := A3.k0
  have cA_1 := A3.k1
  have cBb_b := Bb3.hb
  have cBb_f := Bb3.fz
  have cBb_0 := Bb3.k0
  have cBb_1 := Bb3.k1
  go_wp2_with fail
  clear cA_b cA_f cA_0 cA_1 cBb_b cBb_f cBb_0 cBb_1
  go_ret
  exact ⟨rfl, (by have hz := B3.out.size; repeat (first | exact B3.out | refine below_drewN ?_ _ | refine Below.drew ?_ | refine Below.setCell ?_ (by first | omega | (simp; done) | (simp; omega)) _ | refine Below.alloc ?_ (by first | omega | (simp; done) | (simp; omega)) _))⟩
set_option maxHeartbeats 8000000 in
set_option maxRecDepth 100000 in
theorem sparts_no_b (x0 x1 y0 y1 n : Int) (w : World) (hx0 : -9223372036854775808 ≤ x0 ∧ x0 ≤ 9223372036854775807) (hx1 : -9223372036854775808 ≤ x1 ∧ x1 ≤ 9223372036854775807) (hn : -9223372036854775808 ≤ n ∧ n ≤ 9223372036854775807) (hw : Sp.lw x0 x1 ≠ 0) (hv : Sp.mv x0 x1 n = true) (he : n = -9223372036854775808) :
    Calls Try.prog 3 #[.agg #[.int .i64 x0, .int .i64 x1], .agg #[.int .i64 y0, .int .i64 y1], .int .i64 n] w fun e w' => e = .returned (.bool true) ∧ Below w.heap.size w w' := by
  have HX := Lib.hid (And.intro hx0 hx1)
  have HN := Lib.hid hn
  have HLM := Lib.hid (Sp.ln_mv x0 x1 n)
  have HV := Lib.hid hv; have HE : Hid ((n == -9223372036854775808) = true) := Lib.hid (beq_iff_eq.2 he); clear hv he
  obtain ⟨q, hq⟩ : ∃ q, Sp.lw x0 x1 = q := ⟨_, rfl⟩
  have HQ := Lib.hid hq
  rw [hq] at hw
  have tq : (q == 0) = false := beq_eq_false_iff_ne.2 hw
  clear hw hq hx0 hx1 hn
  go_enter Try.func3, Try.ntmps3
  go_wp2_with fail
  refine (lives10 _).mono ?_; rintro e w1 ⟨rfl, b1⟩
  have d1 : Below w.heap.size w w1 := below_step (by repeat (first | exact Below.refl _ _ | refine below_drewN ?_ _ | refine Below.drew ?_ | refine Below.setCell ?_ (by first | (simp; done) | (simp; omega) | omega) _ | refine Below.alloc ?_ (by first | (simp; done) | (simp; omega) | omega) _)) b1
  have B1 := Lib.hid d1
  have A1 : Bk2 w1 (w.heap.size) (.int .i64 x0) (.int .i64 x1) := Bk2.of b1 (by simp <;> omega) (by intro j; simp [go_sem]) (by simp [go_sem]) (by simp [go_sem])
  have Bb1 : Bk2 w1 (w.heap.size + 1) (.int .i64 y0) (.int .i64 y1) := Bk2.of b1 (by simp <;> omega) (by intro j; simp [go_sem]) (by simp [go_sem]) (by simp [go_sem])
  clear b1 d1
  have cA_b := A1.hb
  have cA_f := A1.fz
  have cA_0 := A1.k0
  have cA_1 := A1.k1
  have cBb_b := Bb1.hb
  have cBb_f := Bb1.fz
  have cBb_0 := Bb1.k0
  have cBb_1 := Bb1.k1
  go_wp2_with fail
  clear cA_b cA_f cA_0 cA_1 cBb_b cBb_f cBb_0 cBb_1
  refine (span_len x0 x1 _ HX.out.1.1 HX.out.1.2 HX.out.2.1 HX.out.2.2).mono ?_; rintro e w2 ⟨rfl, b2⟩
  have d2 : Below w1.heap.size w1 w2 := below_step (by repeat (first | exact Below.refl _ _ | refine below_drewN ?_ _ | refine Below.drew ?_ | refine Below.setCell ?_ (by first | (simp; done) | (simp; omega) | omega) _ | refine Below.alloc ?_ (by first | (simp; done) | (simp; omega) | omega) _)) b2
  have B2 := Lib.hid (below_step B1.out d2)
  have A2 := A1.keep d2
  have Bb2 := Bb1.keep d2
  clear A1 Bb1 b2 d2 B1
  rw [HQ.out]
  generalize Sp.ln x0 x1 = m at *
  have cA_b := A2.hb
  have cA_f := A2.fz
  have cA_0 := A2.k0
  have cA_1 := A2.k1
  have cBb_b := Bb2.hb
  have cBb_f := Bb2.fz
  have cBb_0 := Bb2.k0
  have cBb_1 := Bb2.k1
  go_wp2_with fail
  clear cA_b cA_f cA_0 cA_1 cBb_b cBb_f cBb_0 cBb_1
  refine (span_move x0 x1 n _ HX.out.1.1 HX.out.1.2 HX.out.2.1 HX.out.2.2 HN.out.1 HN.out.2).mono ?_; rintro e w3 ⟨rfl, b3⟩
  have d3 : Below w2.heap.size w2 w3 := below_step (by repeat (first | exact Below.refl _ _ | refine below_drewN ?_ _ | refine Below.drew ?_ | refine Below.setCell ?_ (by first | (simp; done) | (simp; omega) | omega) _ | refine Below.alloc ?_ (by first | (simp; done) | (simp; omega) | omega) _)) b3
  have B3 := Lib.hid (below_step B2.out d3)
  have A3 := A2.keep d3
  have Bb3 := Bb2.keep d3
  clear A2 Bb2 b3 d3 B2
  rw [HV.out]
  simp only [Sp.bz, Sp.why, if_true, Bool.false_eq_true, if_false]
  have tn := HE.out
  have cA_b := A3.hb
  have cA_f := A3.fz
  have cA_0 := A3.k0
  have cA_1 := A3.k1
  have cBb_b := Bb3.hb
  have cBb_f := Bb3.fz
  have cBb_0 := Bb3.k0
  have cBb_1 := Bb3.k1
  go_wp2_with fail
  clear cA_b cA_f cA_0 cA_1 cBb_b cBb_f cBb_0 cBb_1
  go_ret
  exact ⟨rfl, (by have hz := B3.out.size; repeat (first | exact B3.out | refine below_drewN ?_ _ | refine Below.drew ?_ | refine Below.setCell ?_ (by first | omega | (simp; done) | (simp; omega)) _ | refine Below.alloc ?_ (by first | omega | (simp; done) | (simp; omega)) _))⟩
set_option maxHeartbeats 8000000 in
set_option maxRecDepth 100000 in
theorem sparts_no_c (x0 x1 y0 y1 n : Int) (w : World) (hx0 : -9223372036854775808 ≤ x0 ∧ x0 ≤ 9223372036854775807) (hx1 : -9223372036854775808 ≤ x1 ∧ x1 ≤ 9223372036854775807) (hn : -9223372036854775808 ≤ n ∧ n ≤ 9223372036854775807) (hw : Sp.lw x0 x1 ≠ 0) (hv : Sp.mv x0 x1 n = true) (he : n ≠ -9223372036854775808) :
    Calls Try.prog 3 #[.agg #[.int .i64 x0, .int .i64 x1], .agg #[.int .i64 y0, .int .i64 y1], .int .i64 n] w fun e w' => e = .returned (.bool true) ∧ Below w.heap.size w w' := by
  have HX := Lib.hid (And.intro hx0 hx1)
  have HN := Lib.hid hn
  have HLM := Lib.hid (Sp.ln_mv x0 x1 n)
  have HV := Lib.hid hv; have HE : Hid ((n == -9223372036854775808) = false) := Lib.hid (beq_eq_false_iff_ne.2 he); have HE2 : Hid (-9223372036854775807 ≤ n) := Lib.hid (by omega); have HG : Hid (-9223372036854775808 ≤ -n ∧ -n ≤ 9223372036854775807) := Lib.hid (by omega); have HK := Lib.hid (Sp.mv_back hv hx0 hx1); have HW : Hid (x0 + n + -n = x0 ∧ x1 + n + -n = x1) := Lib.hid (by omega); clear hv he
  obtain ⟨q, hq⟩ : ∃ q, Sp.lw x0 x1 = q := ⟨_, rfl⟩
  have HQ := Lib.hid hq
  rw [hq] at hw
  have tq : (q == 0) = false := beq_eq_false_iff_ne.2 hw
  clear hw hq hx0 hx1 hn
  go_enter Try.func3, Try.ntmps3
  go_wp2_with fail
  refine (lives10 _).mono ?_; rintro e w1 ⟨rfl, b1⟩
  have d1 : Below w.heap.size w w1 := below_step (by repeat (first | exact Below.refl _ _ | refine below_drewN ?_ _ | refine Below.drew ?_ | refine Below.setCell ?_ (by first | (simp; done) | (simp; omega) | omega) _ | refine Below.alloc ?_ (by first | (simp; done) | (simp; omega) | omega) _)) b1
  have B1 := Lib.hid d1
  have A1 : Bk2 w1 (w.heap.size) (.int .i64 x0) (.int .i64 x1) := Bk2.of b1 (by simp <;> omega) (by intro j; simp [go_sem]) (by simp [go_sem]) (by simp [go_sem])
  have Bb1 : Bk2 w1 (w.heap.size + 1) (.int .i64 y0) (.int .i64 y1) := Bk2.of b1 (by simp <;> omega) (by intro j; simp [go_sem]) (by simp [go_sem]) (by simp [go_sem])
  clear b1 d1
  have cA_b := A1.hb
  have cA_f := A1.fz
  have cA_0 := A1.k0
  have cA_1 := A1.k1
  have cBb_b := Bb1.hb
  have cBb_f := Bb1.fz
  have cBb_0 := Bb1.k0
  have cBb_1 := Bb1.k1
  go_wp2_with fail
  clear cA_b cA_f cA_0 cA_1 cBb_b cBb_f cBb_0 cBb_1
  refine (span_len x0 x1 _ HX.out.1.1 HX.out.1.2 HX.out.2.1 HX.out.2.2).mono ?_; rintro e w2 ⟨rfl, b2⟩
  have d2 : Below w1.heap.size w1 w2 := below_step (by repeat (first | exact Below.refl _ _ | refine below_drewN ?_ _ | refine Below.drew ?_ | refine Below.setCell ?_ (by first | (simp; done) | (simp; omega) | omega) _ | refine Below.alloc ?_ (by first | (simp; done) | (simp; omega) | omega) _)) b2
  have B2 := Lib.hid (below_step B1.out d2)
  have A2 := A1.keep d2
  have Bb2 := Bb1.keep d2
  clear A1 Bb1 b2 d2 B1
  rw [HQ.out]
  generalize Sp.ln x0 x1 = m at *
  have cA_b := A2.hb
  have cA_f := A2.fz
  have cA_0 := A2.k0
  have cA_1 := A2.k1
  have cBb_b := Bb2.hb
  have cBb_f := Bb2.fz
  have cBb_0 := Bb2.k0
  have cBb_1 := Bb2.k1
  go_wp2_with fail
  clear cA_b cA_f cA_0 cA_1 cBb_b cBb_f cBb_0 cBb_1
  refine (span_move x0 x1 n _ HX.out.1.1 HX.out.1.2 HX.out.2.1 HX.out.2.2 HN.out.1 HN.out.2).mono ?_; rintro e w3 ⟨rfl, b3⟩
  have d3 : Below w2.heap.size w2 w3 := below_step (by repeat (first | exact Below.refl _ _ | refine below_drewN ?_ _ | refine Below.drew ?_ | refine Below.setCell ?_ (by first | (simp; done) | (simp; omega) | omega) _ | refine Below.alloc ?_ (by first | (simp; done) | (simp; omega) | omega) _)) b3
  have B3 := Lib.hid (below_step B2.out d3)
  have A3 := A2.keep d3
  have Bb3 := Bb2.keep d3
  clear A2 Bb2 b3 d3 B2
  rw [HV.out]
  simp only [Sp.bz, Sp.why, if_true]
  have tn := HE.out
  have tn2 : -9223372036854775807 ≤ n := HE2.out
  have tn3 : n ≤ 9223372036854775807 := HN.out.2
  have cA_b := A3.hb
  have cA_f := A3.fz
  have cA_0 := A3.k0
  have cA_1 := A3.k1
  have cBb_b := Bb3.hb
  have cBb_f := Bb3.fz
  have cBb_0 := Bb3.k0
  have cBb_1 := Bb3.k1
  go_wp2_with fail
  clear cA_b cA_f cA_0 cA_1 cBb_b cBb_f cBb_0 cBb_1
  refine (span_move (x0 + n) (x1 + n) (-n) _ HK.out.2.1.1 HK.out.2.1.2 HK.out.2.2.1 HK.out.2.2.2 HG.out.1 HG.out.2).mono ?_; rintro e w4 ⟨rfl, b4⟩
  have d4 : Below w3.heap.size w3 w4 := below_step (by repeat (first | exact Below.refl _ _ | refine below_drewN ?_ _ | refine Below.drew ?_ | refine Below.setCell ?_ (by first | (simp; done) | (simp; omega) | omega) _ | refine Below.alloc ?_ (by first | (simp; done) | (simp; omega) | omega) _)) b4
  have B4 := Lib.hid (below_step B3.out d4)
  have A4 := A3.keep d4
  have Bb4 := Bb3.keep d4
  have aM := B3.out.size
  have nMA := Nat.ne_of_lt A3.hb
  have oMA := Nat.ne_of_gt A3.hb
  have nMBb := Nat.ne_of_lt Bb3.hb
  have oMBb := Nat.ne_of_gt Bb3.hb
  have M4 : Bk2 w4 (w3.heap.size) (.int .i64 (x0 + n)) (.int .i64 (x1 + n)) := Bk2.of b4 (by simp <;> omega) (by intro j; simp [go_sem]) (by simp [go_sem]) (by simp [go_sem])
  clear A3 Bb3 b4 d4 B3
  clear tn tn2 tn3
  rw [HK.out.1]
  simp only [Sp.bz, Sp.why, if_true]
  rw [HW.out.1, HW.out.2]
  have cA_b := A4.hb
  have cA_f := A4.fz
  have cA_0 := A4.k0
  have cA_1 := A4.k1
  have cBb_b := Bb4.hb
  have cBb_f := Bb4.fz
  have cBb_0 := Bb4.k0
  have cBb_1 := Bb4.k1
  have cM_b := M4.hb
  have cM_f := M4.fz
  have cM_0 := M4.k0
  have cM_1 := M4.k1
  go_wp2_with fail
  clear cA_b cA_f cA_0 cA_1 cBb_b cBb_f cBb_0 cBb_1 cM_b cM_f cM_0 cM_1
  refine (span_len (x0 + n) (x1 + n) _ HK.out.2.1.1 HK.out.2.1.2 HK.out.2.2.1 HK.out.2.2.2).mono ?_; rintro e w5 ⟨rfl, b5⟩
  have d5 : Below w4.heap.size w4 w5 := below_step (by repeat (first | exact Below.refl _ _ | refine below_drewN ?_ _ | refine Below.drew ?_ | refine Below.setCell ?_ (by first | (simp; done) | (simp; omega) | omega) _ | refine Below.alloc ?_ (by first | (simp; done) | (simp; omega) | omega) _)) b5
  have B5 := Lib.hid (below_step B4.out d5)
  have A5 := A4.keep d5
  have Bb5 := Bb4.keep d5
  have M5 := M4.keep d5
  have aZ := B4.out.size
  have nZA := Nat.ne_of_lt A4.hb
  have oZA := Nat.ne_of_gt A4.hb
  have nZBb := Nat.ne_of_lt Bb4.hb
  have oZBb := Nat.ne_of_gt Bb4.hb
  have nZM := Nat.ne_of_lt M4.hb
  have oZM := Nat.ne_of_gt M4.hb
  have Z5 : Bk2 w5 (w4.heap.size) (.int .i64 x0) (.int .i64 x1) := Bk2.of b5 (by simp <;> omega) (by intro j; simp [go_sem]) (by simp [go_sem]) (by simp [go_sem])
  clear A4 Bb4 M4 b5 d5 B4
  rw [HLM.out.1, HLM.out.2]
  rw [HQ.out]
  have cA_b := A5.hb
  have cA_f := A5.fz
  have cA_0 := A5.k0
  have cA_1 := A5.k1
  have cBb_b := Bb5.hb
  have cBb_f := Bb5.fz
  have cBb_0 := Bb5.k0
  have cBb_1 := Bb5.k1
  have cM_b := M5.hb
  have cM_f := M5.fz
  have cM_0 := M5.k0
  have cM_1 := M5.k1
  have cZ_b := Z5.hb
  have cZ_f := Z5.fz
  have cZ_0 := Z5.k0
  have cZ_1 := Z5.k1
  go_wp2_with fail
  clear cA_b cA_f cA_0 cA_1 cBb_b cBb_f cBb_0 cBb_1 cM_b cM_f cM_0 cM_1 cZ_b cZ_f cZ_0 cZ_1
  go_ret
  exact ⟨rfl, (by have hz := B5.out.size; repeat (first | exact B5.out | refine below_drewN ?_ _ | refine Below.drew ?_ | refine Below.setCell ?_ (by first | omega | (simp; done) | (simp; omega)) _ | refine Below.alloc ?_ (by first | omega | (simp; done) | (simp; omega)) _))⟩
set_option maxHeartbeats 8000000 in
set_option maxRecDepth 100000 in
theorem sparts_mt_a (x0 x1 y0 y1 n : Int) (w : World) (hx0 : -9223372036854775808 ≤ x0 ∧ x0 ≤ 9223372036854775807) (hx1 : -9223372036854775808 ≤ x1 ∧ x1 ≤ 9223372036854775807) (hn : -9223372036854775808 ≤ n ∧ n ≤ 9223372036854775807) (hw : Sp.lw x0 x1 = 0) (hm : Sp.mt x0 x1 y0 y1 = true) (hv : Sp.mv x0 x1 n = false) :
    Calls Try.prog 3 #[.agg #[.int .i64 x0, .int .i64 x1], .agg #[.int .i64 y0, .int .i64 y1], .int .i64 n] w fun e w' => e = .returned (.bool true) ∧ Below w.heap.size w w' := by
  have HX := Lib.hid (And.intro hx0 hx1)
  have HN := Lib.hid hn
  have HLM := Lib.hid (Sp.ln_mv x0 x1 n)
  have HV := Lib.hid hv; clear hv
  have HQ := Lib.hid hw
  obtain ⟨hr, hd⟩ := Sp.lw_0 hw
  have HLN := Lib.hid (Sp.ln_ok hr hd).1
  have HM := Lib.hid hm
  have LI : Hid (∀ p ∈ Sp.less x0 x1 y0 y1, x0 ≤ p.1 ∧ p.1 < p.2 ∧ p.2 ≤ x1) := Lib.hid (fun p hp => Sp.less_in hp)
  have LT := Lib.hid (Sp.less_tot (y0 := y0) (y1 := y1) hr)
  have HL2 := Lib.hid (less_len3 x0 x1 y0 y1)
  have SL := Lib.hid (sless_any x0 x1 y0 y1)
  generalize Sp.less x0 x1 y0 y1 = l at LI LT HL2 SL
  have HD := Lib.hid (And.intro hr hd)
  have hm' := of_decide_eq_true hm
  have HB : Hid ((-9223372036854775808 ≤ max x0 y0 ∧ max x0 y0 ≤ 9223372036854775807) ∧ (-9223372036854775808 ≤ min x1 y1 ∧ min x1 y1 ≤ 9223372036854775807)) := Lib.hid (by omega)
  have HBL := Lib.hid (Sp.ln_ok hm' (by omega)).1
  have HT : Hid (min x1 y1 - max x0 y0 + Sp.tot l = x1 - x0 ∧ 0 ≤ min x1 y1 - max x0 y0) := Lib.hid (by have := LT.out; rw [hm, if_pos rfl] at this; omega)
  clear hm'
  obtain ⟨d, hd2⟩ : ∃ d, min x1 y1 - max x0 y0 = d := ⟨_, rfl⟩
  rw [hd2] at HBL HT
  have d0 : 0 ≤ d := HT.out.2
  have d1 : d ≤ 9223372036854775807 := by have := HT.out.1; have := (Sp.tot_take (l := l) (fun p hp => (LI.out p hp).2.1) 0).2; simp [Sp.tot] at this; have h3 : 0 ≤ Sp.tot l := this; omega
  clear hd2
  clear hr hd hw hm hx0 hx1 hn LT
  go_enter Try.func3, Try.ntmps3
  go_wp2_with fail
  refine (lives10 _).mono ?_; rintro e w1 ⟨rfl, b1⟩
  have d1 : Below w.heap.size w w1 := below_step (by repeat (first | exact Below.refl _ _ | refine below_drewN ?_ _ | refine Below.drew ?_ | refine Below.setCell ?_ (by first | (simp; done) | (simp; omega) | omega) _ | refine Below.alloc ?_ (by first | (simp; done) | (simp; omega) | omega) _)) b1
  have B1 := Lib.hid d1
  have A1 : Bk2 w1 (w.heap.size) (.int .i64 x0) (.int .i64 x1) := Bk2.of b1 (by simp <;> omega) (by intro j; simp [go_sem]) (by simp [go_sem]) (by simp [go_sem])
  have Bb1 : Bk2 w1 (w.heap.size + 1) (.int .i64 y0) (.int .i64 y1) := Bk2.of b1 (by simp <;> omega) (by intro j; simp [go_sem]) (by simp [go_sem]) (by simp [go_sem])
  clear b1 d1
  have cA_b := A1.hb
  have cA_f := A1.fz
  have cA_0 := A1.k0
  have cA_1 := A1.k1
  have cBb_b := Bb1.hb
  have cBb_f := Bb1.fz
  have cBb_0 := Bb1.k0
  have cBb_1 := Bb1.k1
  go_wp2_with fail
  clear cA_b cA_f cA_0 cA_1 cBb_b cBb_f cBb_0 cBb_1
  refine (span_len x0 x1 _ HX.out.1.1 HX.out.1.2 HX.out.2.1 HX.out.2.2).mono ?_; rintro e w2 ⟨rfl, b2⟩
  have d2 : Below w1.heap.size w1 w2 := below_step (by repeat (first | exact Below.refl _ _ | refine below_drewN ?_ _ | refine Below.drew ?_ | refine Below.setCell ?_ (by first | (simp; done) | (simp; omega) | omega) _ | refine Below.alloc ?_ (by first | (simp; done) | (simp; omega) | omega) _)) b2
  have B2 := Lib.hid (below_step B1.out d2)
  have A2 := A1.keep d2
  have Bb2 := Bb1.keep d2
  clear A1 Bb1 b2 d2 B1
  rw [HQ.out, HLN.out]
  have cA_b := A2.hb
  have cA_f := A2.fz
  have cA_0 := A2.k0
  have cA_1 := A2.k1
  have cBb_b := Bb2.hb
  have cBb_f := Bb2.fz
  have cBb_0 := Bb2.k0
  have cBb_1 := Bb2.k1
  go_wp2_with fail
  clear cA_b cA_f cA_0 cA_1 cBb_b cBb_f cBb_0 cBb_1
  refine (span_both x0 x1 y0 y1 _).mono ?_; rintro e w3 ⟨rfl, b3⟩
  have d3 : Below w2.heap.size w2 w3 := below_step (by repeat (first | exact Below.refl _ _ | refine below_drewN ?_ _ | refine Below.drew ?_ | refine Below.setCell ?_ (by first | (simp; done) | (simp; omega) | omega) _ | refine Below.alloc ?_ (by first | (simp; done) | (simp; omega) | omega) _)) b3
  have B3 := Lib.hid (below_step B2.out d3)
  have A3 := A2.keep d3
  have Bb3 := Bb2.keep d3
  clear A2 Bb2 b3 d3 B2
  rw [HM.out]
  simp only [Sp.bz, if_true, Bool.false_eq_true, if_false]
  have cA_b := A3.hb
  have cA_f := A3.fz
  have cA_0 := A3.k0
  have cA_1 := A3.k1
  have cBb_b := Bb3.hb
  have cBb_f := Bb3.fz
  have cBb_0 := Bb3.k0
  have cBb_1 := Bb3.k1
  go_wp2_with fail
  clear cA_b cA_f cA_0 cA_1 cBb_b cBb_f cBb_0 cBb_1
  refine (span_len (max x0 y0) (min x1 y1) _ HB.out.1.1 HB.out.1.2 HB.out.2.1 HB.out.2.2).mono ?_; rintro e w4 ⟨rfl, b4⟩
  have d4 : Below w3.heap.size w3 w4 := below_step (by repeat (first | exact Below.refl _ _ | refine below_drewN ?_ _ | refine Below.drew ?_ | refine Below.setCell ?_ (by first | (simp; done) | (simp; omega) | omega) _ | refine Below.alloc ?_ (by first | (simp; done) | (simp; omega) | omega) _)) b4
  have B4 := Lib.hid (below_step B3.out d4)
  have A4 := A3.keep d4
  have Bb4 := Bb3.keep d4
  have aX := B3.out.size
  have nXA := Nat.ne_of_lt A3.hb
  have oXA := Nat.ne_of_gt A3.hb
  have nXBb := Nat.ne_of_lt Bb3.hb
  have oXBb := Nat.ne_of_gt Bb3.hb
  have X4 : Bk2 w4 (w3.heap.size) (.int .i64 (max x0 y0)) (.int .i64 (min x1 y1)) := Bk2.of b4 (by simp <;> omega) (by intro j; simp [go_sem]) (by simp [go_sem]) (by simp [go_sem])
  clear A3 Bb3 b4 d4 B3
  rw [HBL.out]
  generalize Sp.lw (max x0 y0) (min x1 y1) = q2
  clear X4 aX
  have cA_b := A4.hb
  have cA_f := A4.fz
  have cA_0 := A4.k0
  have cA_1 := A4.k1
  have cBb_b := Bb4.hb
  have cBb_f := Bb4.fz
  have cBb_0 := Bb4.k0
  have cBb_1 := Bb4.k1
  go_wp2_with fail
  clear cA_b cA_f cA_0 cA_1 cBb_b cBb_f cBb_0 cBb_1
  refine (SL.out _).mono ?_; rintro e w5 ⟨_, sp, rfl, b5⟩
  have Sp_5 := Lib.hid sp; obtain ⟨Ap, cp, rfl, -⟩ := sp
  have d5 : Below w4.heap.size w4 w5 := below_step (by repeat (first | exact Below.refl _ _ | refine below_drewN ?_ _ | refine Below.drew ?_ | refine Below.setCell ?_ (by first | (simp; done) | (simp; omega) | omega) _ | refine Below.alloc ?_ (by first | (simp; done) | (simp; omega) | omega) _)) b5
  have B5 := Lib.hid (below_step B4.out d5)
  have A5 := A4.keep d5
  have Bb5 := Bb4.keep d5
  clear A4 Bb4 b5 d5 B4
  clear Bb5
  have hl2 := HL2.out
  go_wp2_with fail
  have BW := Lib.hid B5.out
  go_loopw [9, 52] (fun c i w50 => ∃ k : Nat, k ≤ l.length ∧ i = .int .i64 k ∧ c = .int .i64 (d + Sp.tot (l.take k)) ∧ Below w.heap.size w w50 ∧ SpV w50 (.slice Ap l.length cp) l ∧ Bk2 w50 w.heap.size (.int .i64 x0) (.int .i64 x1)) (fun _ i _ => l.length - (intOf i).toNat)
  case atStart => exact ⟨0, Nat.zero_le _, rfl, by simp [Sp.tot], BW.out, Sp_5.out, A5⟩
  case round =>
    obtain ⟨k, hk, rfl, rfl, hb, hs, A50⟩ := hrel
    obtain ⟨w50, hw50⟩ : ∃ W, W = wr := ⟨_, rfl⟩
    subst hw50
    have B50 := Lib.hid hb
    have HS := Lib.hid hs
    clear hb hs
    have tk := Sp.tot_take (l := l) (fun p hp => (LI.out p hp).2.1) k
    have tk2 := Sp.tot_take (l := l) (fun p hp => (LI.out p hp).2.1) (k + 1)
    by_cases hlt : k < l.length
    · obtain ⟨a, rfl, -, g1, g2⟩ := HS.out.get k hlt
      have ht := HT.out
      have sn := Sp.tot_snoc l k hlt
      have SN := Lib.hid sn
      have pin := LI.out l[k] (List.getElem_mem hlt)
      generalize l[k].1 = u at *
      generalize l[k].2 = v at *
      generalize Sp.tot (l.take k) = c at *
      have c0 : 0 ≤ d + c := by omega
      have c1 : d + c ≤ 9223372036854775807 := by have := HD.out; omega
      have v0 : 0 ≤ v - u := by omega
      have v1 : v - u ≤ 9223372036854775807 := by have := HD.out; omega
      have s1 : d + c + (v - u) ≤ 9223372036854775807 := by have := HD.out; omega
      have PB : Hid ((-9223372036854775808 ≤ u ∧ u ≤ 9223372036854775807) ∧ (-9223372036854775808 ≤ v ∧ v ≤ 9223372036854775807)) := Lib.hid (by have := HX.out; omega)
      have UL := Lib.hid (Sp.ln_ok pin.2.1 v1).1
      have i0 : (0 : Int) ≤ k := by omega
      have i1 : (k : Int) < l.length := by omega
      clear pin sn ht tk tk2
      go_wp2_with fail
      refine (span_len u v _ PB.out.1.1 PB.out.1.2 PB.out.2.1 PB.out.2.2).mono ?_; rintro e v1' ⟨rfl, b1⟩
      rw [UL.out]
      have DD1 := Lib.hid (show Below w50.heap.size w50 v1' from below_step (by repeat (first | exact Below.refl _ _ | refine Below.setCell ?_ (by first | (simp; done) | (simp; omega)) _ | refine Below.alloc ?_ (by first | (simp; done) | (simp; omega)) _)) b1)
      clear b1
      generalize Sp.lw u v = q3
      obtain ⟨z, hz⟩ : ∃ z, v - u = z := ⟨_, rfl⟩
      rw [hz] at v0 v1 s1 SN ⊢
      clear hz
      go_wp2
      go_roundw
      case rel => exact ⟨k + 1, by omega, by go_num, by rw [SN.out]; exact congrArg (Value.int .i64) (by omega), below_step B50.out DD1.out, HS.out.on DD1.out, A50.keep DD1.out⟩
      case measure => simp [intOf]; omega
    · have hkk : k = l.length := by omega
      have e : d + Sp.tot (l.take k) = x1 - x0 := by rw [hkk, List.take_length]; exact HT.out.1
      rw [e]
      clear e tk tk2
      generalize x1 - x0 = dd at *
      clear Sp_5
      have cA_b := A50.hb
      have cA_f := A50.fz
      have cA_0 := A50.k0
      have cA_1 := A50.k1
      go_wp2_with fail
      clear cA_b cA_f cA_0 cA_1
      refine (span_move x0 x1 n _ HX.out.1.1 HX.out.1.2 HX.out.2.1 HX.out.2.2 HN.out.1 HN.out.2).mono ?_; rintro e w51 ⟨rfl, b51⟩
      have d51 : Below w50.heap.size w50 w51 := below_step (by repeat (first | exact Below.refl _ _ | refine below_drewN ?_ _ | refine Below.drew ?_ | refine Below.setCell ?_ (by first | (simp; done) | (simp; omega) | omega) _ | refine Below.alloc ?_ (by first | (simp; done) | (simp; omega) | omega) _)) b51
      have B51 := Lib.hid (below_step B50.out d51)
      have A51 := A50.keep d51
      clear A50 b51 d51 B50
      rw [HV.out]
      simp only [Sp.bz, Sp.why, if_true, Bool.false_eq_true, if_false]
      have cA_b := A51.hb
      have cA_f := A51.fz
      have cA_0 := A51.k0
      have cA_1 := A51.k1
      go_wp2_with fail
      clear cA_b cA_f cA_0 cA_1
      go_ret
      exact ⟨rfl, (by have hz := B51.out.size; repeat (first | exact B51.out | refine below_drewN ?_ _ | refine Below.drew ?_ | refine Below.setCell ?_ (by first | omega | (simp; done) | (simp; omega)) _ | refine Below.alloc ?_ (by first | omega | (simp; done) | (simp; omega)) _))⟩
set_option maxHeartbeats 8000000 in
set_option maxRecDepth 100000 in
theorem sparts_mt_b (x0 x1 y0 y1 n : Int) (w : World) (hx0 : -9223372036854775808 ≤ x0 ∧ x0 ≤ 9223372036854775807) (hx1 : -9223372036854775808 ≤ x1 ∧ x1 ≤ 9223372036854775807) (hn : -9223372036854775808 ≤ n ∧ n ≤ 9223372036854775807) (hw : Sp.lw x0 x1 = 0) (hm : Sp.mt x0 x1 y0 y1 = true) (hv : Sp.mv x0 x1 n = true) (he : n = -9223372036854775808) :
    Calls Try.prog 3 #[.agg #[.int .i64 x0, .int .i64 x1], .agg #[.int .i64 y0, .int .i64 y1], .int .i64 n] w fun e w' => e = .returned (.bool true) ∧ Below w.heap.size w w' := by
  have HX := Lib.hid (And.intro hx0 hx1)
  have HN := Lib.hid hn
  have HLM := Lib.hid (Sp.ln_mv x0 x1 n)
  have HV := Lib.hid hv; have HE : Hid ((n == -9223372036854775808) = true) := Lib.hid (beq_iff_eq.2 he); clear hv he
  have HQ := Lib.hid hw
  obtain ⟨hr, hd⟩ := Sp.lw_0 hw
  have HLN := Lib.hid (Sp.ln_ok hr hd).1
  have HM := Lib.hid hm
  have LI : Hid (∀ p ∈ Sp.less x0 x1 y0 y1, x0 ≤ p.1 ∧ p.1 < p.2 ∧ p.2 ≤ x1) := Lib.hid (fun p hp => Sp.less_in hp)
  have LT := Lib.hid (Sp.less_tot (y0 := y0) (y1 := y1) hr)
  have HL2 := Lib.hid (less_len3 x0 x1 y0 y1)
  have SL := Lib.hid (sless_any x0 x1 y0 y1)
  generalize Sp.less x0 x1 y0 y1 = l at LI LT HL2 SL
  have HD := Lib.hid (And.intro hr hd)
  have hm' := of_decide_eq_true hm
  have HB : Hid ((-9223372036854775808 ≤ max x0 y0 ∧ max x0 y0 ≤ 9223372036854775807) ∧ (-9223372036854775808 ≤ min x1 y1 ∧ min x1 y1 ≤ 9223372036854775807)) := Lib.hid (by omega)
  have HBL := Lib.hid (Sp.ln_ok hm' (by omega)).1
  have HT : Hid (min x1 y1 - max x0 y0 + Sp.tot l = x1 - x0 ∧ 0 ≤ min x1 y1 - max x0 y0) := Lib.hid (by have := LT.out; rw [hm, if_pos rfl] at this; omega)
  clear hm'
  obtain ⟨d, hd2⟩ : ∃ d, min x1 y1 - max x0 y0 = d := ⟨_, rfl⟩
  rw [hd2] at HBL HT
  have d0 : 0 ≤ d := HT.out.2
  have d1 : d ≤ 9223372036854775807 := by have := HT.out.1; have := (Sp.tot_take (l := l) (fun p hp => (LI.out p hp).2.1) 0).2; simp [Sp.tot] at this; have h3 : 0 ≤ Sp.tot l := this; omega
  clear hd2
  clear hr hd hw hm hx0 hx1 hn LT
  go_enter Try.func3, Try.ntmps3
  go_wp2_with fail
  refine (lives10 _).mono ?_; rintro e w1 ⟨rfl, b1⟩
  have d1 : Below w.heap.size w w1 := below_step (by repeat (first | exact Below.refl _ _ | refine below_drewN ?_ _ | refine Below.drew ?_ | refine Below.setCell ?_ (by first | (simp; done) | (simp; omega) | omega) _ | refine Below.alloc ?_ (by first | (simp; done) | (simp; omega) | omega) _)) b1
  have B1 := Lib.hid d1
  have A1 : Bk2 w1 (w.heap.size) (.int .i64 x0) (.int .i64 x1) := Bk2.of b1 (by simp <;> omega) (by intro j; simp [go_sem]) (by simp [go_sem]) (by simp [go_sem])
  have Bb1 : Bk2 w1 (w.heap.size + 1) (.int .i64 y0) (.int .i64 y1) := Bk2.of b1 (by simp <;> omega) (by intro j; simp [go_sem]) (by simp [go_sem]) (by simp [go_sem])
  clear b1 d1
  have cA_b := A1.hb
  have cA_f := A1.fz
  have cA_0 := A1.k0
  have cA_1 := A1.k1
  have cBb_b := Bb1.hb
  have cBb_f := Bb1.fz
  have cBb_0 := Bb1.k0
  have cBb_1 := Bb1.k1
  go_wp2_with fail
  clear cA_b cA_f cA_0 cA_1 cBb_b cBb_f cBb_0 cBb_1
  refine (span_len x0 x1 _ HX.out.1.1 HX.out.1.2 HX.out.2.1 HX.out.2.2).mono ?_; rintro e w2 ⟨rfl, b2⟩
  have d2 : Below w1.heap.size w1 w2 := below_step (by repeat (first | exact Below.refl _ _ | refine below_drewN ?_ _ | refine Below.drew ?_ | refine Below.setCell ?_ (by first | (simp; done) | (simp; omega) | omega) _ | refine Below.alloc ?_ (by first | (simp; done) | (simp; omega) | omega) _)) b2
  have B2 := Lib.hid (below_step B1.out d2)
  have A2 := A1.keep d2
  have Bb2 := Bb1.keep d2
  clear A1 Bb1 b2 d2 B1
  rw [HQ.out, HLN.out]
  have cA_b := A2.hb
  have cA_f := A2.fz
  have cA_0 := A2.k0
  have cA_1 := A2.k1
  have cBb_b := Bb2.hb
  have cBb_f := Bb2.fz
  have cBb_0 := Bb2.k0
  have cBb_1 := Bb2.k1
  go_wp2_with fail
  clear cA_b cA_f cA_0 cA_1 cBb_b cBb_f cBb_0 cBb_1
  refine (span_both x0 x1 y0 y1 _).mono ?_; rintro e w3 ⟨rfl, b3⟩
  have d3 : Below w2.heap.size w2 w3 := below_step (by repeat (first | exact Below.refl _ _ | refine below_drewN ?_ _ | refine Below.drew ?_ | refine Below.setCell ?_ (by first | (simp; done) | (simp; omega) | omega) _ | refine Below.alloc ?_ (by first | (simp; done) | (simp; omega) | omega) _)) b3
  have B3 := Lib.hid (below_step B2.out d3)
  have A3 := A2.keep d3
  have Bb3 := Bb2.keep d3
  clear A2 Bb2 b3 d3 B2
  rw [HM.out]
  simp only [Sp.bz, if_true, Bool.false_eq_true, if_false]
  have cA_b := A3.hb
  have cA_f := A3.fz
  have cA_0 := A3.k0
  have cA_1 := A3.k1
  have cBb_b := Bb3.hb
  have cBb_f := Bb3.fz
  have cBb_0 := Bb3.k0
  have cBb_1 := Bb3.k1
  go_wp2_with fail
  clear cA_b cA_f cA_0 cA_1 cBb_b cBb_f cBb_0 cBb_1
  refine (span_len (max x0 y0) (min x1 y1) _ HB.out.1.1 HB.out.1.2 HB.out.2.1 HB.out.2.2).mono ?_; rintro e w4 ⟨rfl, b4⟩
  have d4 : Below w3.heap.size w3 w4 := below_step (by repeat (first | exact Below.refl _ _ | refine below_drewN ?_ _ | refine Below.drew ?_ | refine Below.setCell ?_ (by first | (simp; done) | (simp; omega) | omega) _ | refine Below.alloc ?_ (by first | (simp; done) | (simp; omega) | omega) _)) b4
  have B4 := Lib.hid (below_step B3.out d4)
  have A4 := A3.keep d4
  have Bb4 := Bb3.keep d4
  have aX := B3.out.size
  have nXA := Nat.ne_of_lt A3.hb
  have oXA := Nat.ne_of_gt A3.hb
  have nXBb := Nat.ne_of_lt Bb3.hb
  have oXBb := Nat.ne_of_gt Bb3.hb
  have X4 : Bk2 w4 (w3.heap.size) (.int .i64 (max x0 y0)) (.int .i64 (min x1 y1)) := Bk2.of b4 (by simp <;> omega) (by intro j; simp [go_sem]) (by simp [go_sem]) (by simp [go_sem])
  clear A3 Bb3 b4 d4 B3
  rw [HBL.out]
  generalize Sp.lw (max x0 y0) (min x1 y1) = q2
  clear X4 aX
  have cA_b := A4.hb
  have cA_f := A4.fz
  have cA_0 := A4.k0
  have cA_1 := A4.k1
  have cBb_b := Bb4.hb
  have cBb_f := Bb4.fz
  have cBb_0 := Bb4.k0
  have cBb_1 := Bb4.k1
  go_wp2_with fail
  clear cA_b cA_f cA_0 cA_1 cBb_b cBb_f cBb_0 cBb_1
  refine (SL.out _).mono ?_; rintro e w5 ⟨_, sp, rfl, b5⟩
  have Sp_5 := Lib.hid sp; obtain ⟨Ap, cp, rfl, -⟩ := sp
  have d5 : Below w4.heap.size w4 w5 := below_step (by repeat (first | exact Below.refl _ _ | refine below_drewN ?_ _ | refine Below.drew ?_ | refine Below.setCell ?_ (by first | (simp; done) | (simp; omega) | omega) _ | refine Below.alloc ?_ (by first | (simp; done) | (simp; omega) | omega) _)) b5
  have B5 := Lib.hid (below_step B4.out d5)
  have A5 := A4.keep d5
  have Bb5 := Bb4.keep d5
  clear A4 Bb4 b5 d5 B4
  clear Bb5
  have hl2 := HL2.out
  go_wp2_with fail
  have BW := Lib.hid B5.out
  go_loopw [9, 52] (fun c i w50 => ∃ k : Nat, k ≤ l.length ∧ i = .int .i64 k ∧ c = .int .i64 (d + Sp.tot (l.take k)) ∧ Below w.heap.size w w50 ∧ SpV w50 (.slice Ap l.length cp) l ∧ Bk2 w50 w.heap.size (.int .i64 x0) (.int .i64 x1)) (fun _ i _ => l.length - (intOf i).toNat)
  case atStart => exact ⟨0, Nat.zero_le _, rfl, by simp [Sp.tot], BW.out, Sp_5.out, A5⟩
  case round =>
    obtain ⟨k, hk, rfl, rfl, hb, hs, A50⟩ := hrel
    obtain ⟨w50, hw50⟩ : ∃ W, W = wr := ⟨_, rfl⟩
    subst hw50
    have B50 := Lib.hid hb
    have HS := Lib.hid hs
    clear hb hs
    have tk := Sp.tot_take (l := l) (fun p hp => (LI.out p hp).2.1) k
    have tk2 := Sp.tot_take (l := l) (fun p hp => (LI.out p hp).2.1) (k + 1)
    by_cases hlt : k < l.length
    · obtain ⟨a, rfl, -, g1, g2⟩ := HS.out.get k hlt
      have ht := HT.out
      have sn := Sp.tot_snoc l k hlt
      have SN := Lib.hid sn
      have pin := LI.out l[k] (List.getElem_mem hlt)
      generalize l[k].1 = u at *
      generalize l[k].2 = v at *
      generalize Sp.tot (l.take k) = c at *
      have c0 : 0 ≤ d + c := by omega
      have c1 : d + c ≤ 9223372036854775807 := by have := HD.out; omega
      have v0 : 0 ≤ v - u := by omega
      have v1 : v - u ≤ 9223372036854775807 := by have := HD.out; omega
      have s1 : d + c + (v - u) ≤ 9223372036854775807 := by have := HD.out; omega
      have PB : Hid ((-9223372036854775808 ≤ u ∧ u ≤ 9223372036854775807) ∧ (-9223372036854775808 ≤ v ∧ v ≤ 9223372036854775807)) := Lib.hid (by have := HX.out; omega)
      have UL := Lib.hid (Sp.ln_ok pin.2.1 v1).1
      have i0 : (0 : Int) ≤ k := by omega
      have i1 : (k : Int) < l.length := by omega
      clear pin sn ht tk tk2
      go_wp2_with fail
      refine (span_len u v _ PB.out.1.1 PB.out.1.2 PB.out.2.1 PB.out.2.2).mono ?_; rintro e v1' ⟨rfl, b1⟩
      rw [UL.out]
      have DD1 := Lib.hid (show Below w50.heap.size w50 v1' from below_step (by repeat (first | exact Below.refl _ _ | refine Below.setCell ?_ (by first | (simp; done) | (simp; omega)) _ | refine Below.alloc ?_ (by first | (simp; done) | (simp; omega)) _)) b1)
      clear b1
      generalize Sp.lw u v = q3
      obtain ⟨z, hz⟩ : ∃ z, v - u = z := ⟨_, rfl⟩
      rw [hz] at v0 v1 s1 SN ⊢
      clear hz
      go_wp2
      go_roundw
      case rel => exact ⟨k + 1, by omega, by go_num, by rw [SN.out]; exact congrArg (Value.int .i64) (by omega), below_step B50.out DD1.out, HS.out.on DD1.out, A50.keep DD1.out⟩
      case measure => simp [intOf]; omega
    · have hkk : k = l.length := by omega
      have e : d + Sp.tot (l.take k) = x1 - x0 := by rw [hkk, List.take_length]; exact HT.out.1
      rw [e]
      clear e tk tk2
      generalize x1 - x0 = dd at *
      clear Sp_5
      have cA_b := A50.hb
      have cA_f := A50.fz
      have cA_0 := A50.k0
      have cA_1 := A50.k1
      go_wp2_with fail
      clear cA_b cA_f cA_0 cA_1
      refine (span_move x0 x1 n _ HX.out.1.1 HX.out.1.2 HX.out.2.1 HX.out.2.2 HN.out.1 HN.out.2).mono ?_; rintro e w51 ⟨rfl, b51⟩
      have d51 : Below w50.heap.size w50 w51 := below_step (by repeat (first | exact Below.refl _ _ | refine below_drewN ?_ _ | refine Below.drew ?_ | refine Below.setCell ?_ (by first | (simp; done) | (simp; omega) | omega) _ | refine Below.alloc ?_ (by first | (simp; done) | (simp; omega) | omega) _)) b51
      have B51 := Lib.hid (below_step B50.out d51)
      have A51 := A50.keep d51
      clear A50 b51 d51 B50
      rw [HV.out]
      simp only [Sp.bz, Sp.why, if_true, Bool.false_eq_true, if_false]
      have tn := HE.out
      have cA_b := A51.hb
      have cA_f := A51.fz
      have cA_0 := A51.k0
      have cA_1 := A51.k1
      go_wp2_with fail
      clear cA_b cA_f cA_0 cA_1
      go_ret
      exact ⟨rfl, (by have hz := B51.out.size; repeat (first | exact B51.out | refine below_drewN ?_ _ | refine Below.drew ?_ | refine Below.setCell ?_ (by first | omega | (simp; done) | (simp; omega)) _ | refine Below.alloc ?_ (by first | omega | (simp; done) | (simp; omega)) _))⟩
set_option maxHeartbeats 8000000 in
set_option maxRecDepth 100000 in
theorem sparts_mt_c (x0 x1 y0 y1 n : Int) (w : World) (hx0 : -9223372036854775808 ≤ x0 ∧ x0 ≤ 9223372036854775807) (hx1 : -9223372036854775808 ≤ x1 ∧ x1 ≤ 9223372036854775807) (hn : -9223372036854775808 ≤ n ∧ n ≤ 9223372036854775807) (hw : Sp.lw x0 x1 = 0) (hm : Sp.mt x0 x1 y0 y1 = true) (hv : Sp.mv x0 x1 n = true) (he : n ≠ -9223372036854775808) :
    Calls Try.prog 3 #[.agg #[.int .i64 x0, .int .i64 x1], .agg #[.int .i64 y0, .int .i64 y1], .int .i64 n] w fun e w' => e = .returned (.bool true) ∧ Below w.heap.size w w' := by
  have HX := Lib.hid (And.intro hx0 hx1)
  have HN := Lib.hid hn
  have HLM := Lib.hid (Sp.ln_mv x0 x1 n)
  have HV := Lib.hid hv; have HE : Hid ((n == -9223372036854775808) = false) := Lib.hid (beq_eq_false_iff_ne.2 he); have HE2 : Hid (-9223372036854775807 ≤ n) := Lib.hid (by omega); have HG : Hid (-9223372036854775808 ≤ -n ∧ -n ≤ 9223372036854775807) := Lib.hid (by omega); have HK := Lib.hid (Sp.mv_back hv hx0 hx1); have HW : Hid (x0 + n + -n = x0 ∧ x1 + n + -n = x1) := Lib.hid (by omega); clear hv he
  have HQ := Lib.hid hw
  obtain ⟨hr, hd⟩ := Sp.lw_0 hw
  have HLN := Lib.hid (Sp.ln_ok hr hd).1
  have HM := Lib.hid hm
  have LI : Hid (∀ p ∈ Sp.less x0 x1 y0 y1, x0 ≤ p.1 ∧ p.1 < p.2 ∧ p.2 ≤ x1) := Lib.hid (fun p hp => Sp.less_in hp)
  have LT := Lib.hid (Sp.less_tot (y0 := y0) (y1 := y1) hr)
  have HL2 := Lib.hid (less_len3 x0 x1 y0 y1)
  have SL := Lib.hid (sless_any x0 x1 y0 y1)
  generalize Sp.less x0 x1 y0 y1 = l at LI LT HL2 SL
  have HD := Lib.hid (And.intro hr hd)
  have hm' := of_decide_eq_true hm
  have HB : Hid ((-9223372036854775808 ≤ max x0 y0 ∧ max x0 y0 ≤ 9223372036854775807) ∧ (-9223372036854775808 ≤ min x1 y1 ∧ min x1 y1 ≤ 9223372036854775807)) := Lib.hid (by omega)
  have HBL := Lib.hid (Sp.ln_ok hm' (by omega)).1
  have HT : Hid (min x1 y1 - max x0 y0 + Sp.tot l = x1 - x0 ∧ 0 ≤ min x1 y1 - max x0 y0) := Lib.hid (by have := LT.out; rw [hm, if_pos rfl] at this; omega)
  clear hm'
  obtain ⟨d, hd2⟩ : ∃ d, min x1 y1 - max x0 y0 = d := ⟨_, rfl⟩
  rw [hd2] at HBL HT
  have d0 : 0 ≤ d := HT.out.2
  have d1 : d ≤ 9223372036854775807 := by have := HT.out.1; have := (Sp.tot_take (l := l) (fun p hp => (LI.out p hp).2.1) 0).2; simp [Sp.tot] at this; have h3 : 0 ≤ Sp.tot l := this; omega
  clear hd2
  clear hr hd hw hm hx0 hx1 hn LT
  go_enter Try.func3, Try.ntmps3
  go_wp2_with fail
  refine (lives10 _).mono ?_; rintro e w1 ⟨rfl, b1⟩
  have d1 : Below w.heap.size w w1 := below_step (by repeat (first | exact Below.refl _ _ | refine below_drewN ?_ _ | refine Below.drew ?_ | refine Below.setCell ?_ (by first | (simp; done) | (simp; omega) | omega) _ | refine Below.alloc ?_ (by first | (simp; done) | (simp; omega) | omega) _)) b1
  have B1 := Lib.hid d1
  have A1 : Bk2 w1 (w.heap.size) (.int .i64 x0) (.int .i64 x1) := Bk2.of b1 (by simp <;> omega) (by intro j; simp [go_sem]) (by simp [go_sem]) (by simp [go_sem])
  have Bb1 : Bk2 w1 (w.heap.size + 1) (.int .i64 y0) (.int .i64 y1) := Bk2.of b1 (by simp <;> omega) (by intro j; simp [go_sem]) (by simp [go_sem]) (by simp [go_sem])
  clear b1 d1
  have cA_b := A1.hb
  have cA_f := A1.fz
  have cA_0 := A1.k0
  have cA_1 := A1.k1
  have cBb_b := Bb1.hb
  have cBb_f := Bb1.fz
  have cBb_0 := Bb1.k0
  have cBb_1 := Bb1.k1
  go_wp2_with fail
  clear cA_b cA_f cA_0 cA_1 cBb_b cBb_f cBb_0 cBb_1
  refine (span_len x0 x1 _ HX.out.1.1 HX.out.1.2 HX.out.2.1 HX.out.2.2).mono ?_; rintro e w2 ⟨rfl, b2⟩
  have d2 : Below w1.heap.size w1 w2 := below_step (by repeat (first | exact Below.refl _ _ | refine below_drewN ?_ _ | refine Below.drew ?_ | refine Below.setCell ?_ (by first | (simp; done) | (simp; omega) | omega) _ | refine Below.alloc ?_ (by first | (simp; done) | (simp; omega) | omega) _)) b2
  have B2 := Lib.hid (below_step B1.out d2)
  have A2 := A1.keep d2
  have Bb2 := Bb1.keep d2
  clear A1 Bb1 b2 d2 B1
  rw [HQ.out, HLN.out]
  have cA_b := A2.hb
  have cA_f := A2.fz
  have cA_0 := A2.k0
  have cA_1 := A2.k1
  have cBb_b := Bb2.hb
  have cBb_f := Bb2.fz
  have cBb_0 := Bb2.k0
  have cBb_1 := Bb2.k1
  go_wp2_with fail
  clear cA_b cA_f cA_0 cA_1 cBb_b cBb_f cBb_0 cBb_1
  refine (span_both x0 x1 y0 y1 _).mono ?_; rintro e w3 ⟨rfl, b3⟩
  have d3 : Below w2.heap.size w2 w3 := below_step (by repeat (first | exact Below.refl _ _ | refine below_drewN ?_ _ | refine Below.drew ?_ | refine Below.setCell ?_ (by first | (simp; done) | (simp; omega) | omega) _ | refine Below.alloc ?_ (by first | (simp; done) | (simp; omega) | omega) _)) b3
  have B3 := Lib.hid (below_step B2.out d3)
  have A3 := A2.keep d3
  have Bb3 := Bb2.keep d3
  clear A2 Bb2 b3 d3 B2
  rw [HM.out]
  simp only [Sp.bz, if_true, Bool.false_eq_true, if_false]
  have cA_b := A3.hb
  have cA_f := A3.fz
  have cA_0 := A3.k0
  have cA_1 := A3.k1
  have cBb_b := Bb3.hb
  have cBb_f := Bb3.fz
  have cBb_0 := Bb3.k0
  have cBb_1 := Bb3.k1
  go_wp2_with fail
  clear cA_b cA_f cA_0 cA_1 cBb_b cBb_f cBb_0 cBb_1
  refine (span_len (max x0 y0) (min x1 y1) _ HB.out.1.1 HB.out.1.2 HB.out.2.1 HB.out.2.2).mono ?_; rintro e w4 ⟨rfl, b4⟩
  have d4 : Below w3.heap.size w3 w4 := below_step (by repeat (first | exact Below.refl _ _ | refine below_drewN ?_ _ | refine Below.drew ?_ | refine Below.setCell ?_ (by first | (simp; done) | (simp; omega) | omega) _ | refine Below.alloc ?_ (by first | (simp; done) | (simp; omega) | omega) _)) b4
  have B4 := Lib.hid (below_step B3.out d4)
  have A4 := A3.keep d4
  have Bb4 := Bb3.keep d4
  have aX := B3.out.size
  have nXA := Nat.ne_of_lt A3.hb
  have oXA := Nat.ne_of_gt A3.hb
  have nXBb := Nat.ne_of_lt Bb3.hb
  have oXBb := Nat.ne_of_gt Bb3.hb
  have X4 : Bk2 w4 (w3.heap.size) (.int .i64 (max x0 y0)) (.int .i64 (min x1 y1)) := Bk2.of b4 (by simp <;> omega) (by intro j; simp [go_sem]) (by simp [go_sem]) (by simp [go_sem])
  clear A3 Bb3 b4 d4 B3
  rw [HBL.out]
  generalize Sp.lw (max x0 y0) (min x1 y1) = q2
  clear X4 aX
  have cA_b := A4.hb
  have cA_f := A4.fz
  have cA_0 := A4.k0
  have cA_1 := A4.k1
  have cBb_b := Bb4.hb
  have cBb_f := Bb4.fz
  have cBb_0 := Bb4.k0
  have cBb_1 := Bb4.k1
  go_wp2_with fail
  clear cA_b cA_f cA_0 cA_1 cBb_b cBb_f cBb_0 cBb_1
  refine (SL.out _).mono ?_; rintro e w5 ⟨_, sp, rfl, b5⟩
  have Sp_5 := Lib.hid sp; obtain ⟨Ap, cp, rfl, -⟩ := sp
  have d5 : Below w4.heap.size w4 w5 := below_step (by repeat (first | exact Below.refl _ _ | refine below_drewN ?_ _ | refine Below.drew ?_ | refine Below.setCell ?_ (by first | (simp; done) | (simp; omega) | omega) _ | refine Below.alloc ?_ (by first | (simp; done) | (simp; omega) | omega) _)) b5
  have B5 := Lib.hid (below_step B4.out d5)
  have A5 := A4.keep d5
  have Bb5 := Bb4.keep d5
  clear A4 Bb4 b5 d5 B4
  clear Bb5
  have hl2 := HL2.out
  go_wp2_with fail
  have BW := Lib.hid B5.out
  go_loopw [9, 52] (fun c i w50 => ∃ k : Nat, k ≤ l.length ∧ i = .int .i64 k ∧ c = .int .i64 (d + Sp.tot (l.take k)) ∧ Below w.heap.size w w50 ∧ SpV w50 (.slice Ap l.length cp) l ∧ Bk2 w50 w.heap.size (.int .i64 x0) (.int .i64 x1)) (fun _ i _ => l.length - (intOf i).toNat)
  case atStart => exact ⟨0, Nat.zero_le _, rfl, by simp [Sp.tot], BW.out, Sp_5.out, A5⟩
  case round =>
    obtain ⟨k, hk, rfl, rfl, hb, hs, A50⟩ := hrel
    obtain ⟨w50, hw50⟩ : ∃ W, W = wr := ⟨_, rfl⟩
    subst hw50
    have B50 := Lib.hid hb
    have HS := Lib.hid hs
    clear hb hs
    have tk := Sp.tot_take (l := l) (fun p hp => (LI.out p hp).2.1) k
    have tk2 := Sp.tot_take (l := l) (fun p hp => (LI.out p hp).2.1) (k + 1)
    by_cases hlt : k < l.length
    · obtain ⟨a, rfl, -, g1, g2⟩ := HS.out.get k hlt
      have ht := HT.out
      have sn := Sp.tot_snoc l k hlt
      have SN := Lib.hid sn
      have pin := LI.out l[k] (List.getElem_mem hlt)
      generalize l[k].1 = u at *
      generalize l[k].2 = v at *
      generalize Sp.tot (l.take k) = c at *
      have c0 : 0 ≤ d + c := by omega
      have c1 : d + c ≤ 9223372036854775807 := by have := HD.out; omega
      have v0 : 0 ≤ v - u := by omega
      have v1 : v - u ≤ 9223372036854775807 := by have := HD.out; omega
      have s1 : d + c + (v - u) ≤ 9223372036854775807 := by have := HD.out; omega
      have PB : Hid ((-9223372036854775808 ≤ u ∧ u ≤ 9223372036854775807) ∧ (-9223372036854775808 ≤ v ∧ v ≤ 9223372036854775807)) := Lib.hid (by have := HX.out; omega)
      have UL := Lib.hid (Sp.ln_ok pin.2.1 v1).1
      have i0 : (0 : Int) ≤ k := by omega
      have i1 : (k : Int) < l.length := by omega
      clear pin sn ht tk tk2
      go_wp2_with fail
      refine (span_len u v _ PB.out.1.1 PB.out.1.2 PB.out.2.1 PB.out.2.2).mono ?_; rintro e v1' ⟨rfl, b1⟩
      rw [UL.out]
      have DD1 := Lib.hid (show Below w50.heap.size w50 v1' from below_step (by repeat (first | exact Below.refl _ _ | refine Below.setCell ?_ (by first | (simp; done) | (simp; omega)) _ | refine Below.alloc ?_ (by first | (simp; done) | (simp; omega)) _)) b1)
      clear b1
      generalize Sp.lw u v = q3
      obtain ⟨z, hz⟩ : ∃ z, v - u = z := ⟨_, rfl⟩
      rw [hz] at v0 v1 s1 SN ⊢
      clear hz
      go_wp2
      go_roundw
      case rel => exact ⟨k + 1, by omega, by go_num, by rw [SN.out]; exact congrArg (Value.int .i64) (by omega), below_step B50.out DD1.out, HS.out.on DD1.out, A50.keep DD1.out⟩
      case measure => simp [intOf]; omega
    · have hkk : k = l.length := by omega
      have e : d + Sp.tot (l.take k) = x1 - x0 := by rw [hkk, List.take_length]; exact HT.out.1
      rw [e]
      clear e tk tk2
      generalize x1 - x0 = dd at *
      clear Sp_5
      have cA_b := A50.hb
      have cA_f := A50.fz
      have cA_0 := A50.k0
      have cA_1 := A50.k1
      go_wp2_with fail
      clear cA_b cA_f cA_0 cA_1
      refine (span_move x0 x1 n _ HX.out.1.1 HX.out.1.2 HX.out.2.1 HX.out.2.2 HN.out.1 HN.out.2).mono ?_; rintro e w51 ⟨rfl, b51⟩
      have d51 : Below w50.heap.size w50 w51 := below_step (by repeat (first | exact Below.refl _ _ | refine below_drewN ?_ _ | refine Below.drew ?_ | refine Below.setCell ?_ (by first | (simp; done) | (simp; omega) | omega) _ | refine Below.alloc ?_ (by first | (simp; done) | (simp; omega) | omega) _)) b51
      have B51 := Lib.hid (below_step B50.out d51)
      have A51 := A50.keep d51
      clear A50 b51 d51 B50
      rw [HV.out]
      simp only [Sp.bz, Sp.why, if_true]
      have tn := HE.out
      have tn2 : -9223372036854775807 ≤ n := HE2.out
      have tn3 : n ≤ 9223372036854775807 := HN.out.2
      have cA_b := A51.hb
      have cA_f := A51.fz
      have cA_0 := A51.k0
      have cA_1 := A51.k1
      go_wp2_with fail
      clear cA_b cA_f cA_0 cA_1
      refine (span_move (x0 + n) (x1 + n) (-n) _ HK.out.2.1.1 HK.out.2.1.2 HK.out.2.2.1 HK.out.2.2.2 HG.out.1 HG.out.2).mono ?_; rintro e w52 ⟨rfl, b52⟩
      have d52 : Below w51.heap.size w51 w52 := below_step (by repeat (first | exact Below.refl _ _ | refine below_drewN ?_ _ | refine Below.drew ?_ | refine Below.setCell ?_ (by first | (simp; done) | (simp; omega) | omega) _ | refine Below.alloc ?_ (by first | (simp; done) | (simp; omega) | omega) _)) b52
      have B52 := Lib.hid (below_step B51.out d52)
      have A52 := A51.keep d52
      have aM := B51.out.size
      have nMA := Nat.ne_of_lt A51.hb
      have oMA := Nat.ne_of_gt A51.hb
      have M52 : Bk2 w52 (w51.heap.size) (.int .i64 (x0 + n)) (.int .i64 (x1 + n)) := Bk2.of b52 (by simp <;> omega) (by intro j; simp [go_sem]) (by simp [go_sem]) (by simp [go_sem])
      clear A51 b52 d52 B51
      clear tn tn2 tn3
      rw [HK.out.1]
      simp only [Sp.bz, Sp.why, if_true]
      rw [HW.out.1, HW.out.2]
      have cA_b := A52.hb
      have cA_f := A52.fz
      have cA_0 := A52.k0
      have cA_1 := A52.k1
      have cM_b := M52.hb
      have cM_f := M52.fz
      have cM_0 := M52.k0
      have cM_1 := M52.k1
      go_wp2_with fail
      clear cA_b cA_f cA_0 cA_1 cM_b cM_f cM_0 cM_1
      refine (span_len (x0 + n) (x1 + n) _ HK.out.2.1.1 HK.out.2.1.2 HK.out.2.2.1 HK.out.2.2.2).mono ?_; rintro e w53 ⟨rfl, b53⟩
      have d53 : Below w52.heap.size w52 w53 := below_step (by repeat (first | exact Below.refl _ _ | refine below_drewN ?_ _ | refine Below.drew ?_ | refine Below.setCell ?_ (by first | (simp; done) | (simp; omega) | omega) _ | refine Below.alloc ?_ (by first | (simp; done) | (simp; omega) | omega) _)) b53
      have B53 := Lib.hid (below_step B52.out d53)
      have A53 := A52.keep d53
      have M53 := M52.keep d53
      have aZ := B52.out.size
      have nZA := Nat.ne_of_lt A52.hb
      have oZA := Nat.ne_of_gt A52.hb
      have nZM := Nat.ne_of_lt M52.hb
      have oZM := Nat.ne_of_gt M52.hb
      have Z53 : Bk2 w53 (w52.heap.size) (.int .i64 x0) (.int .i64 x1) := Bk2.of b53 (by simp <;> omega) (by intro j; simp [go_sem]) (by simp [go_sem]) (by simp [go_sem])
      clear A52 M52 b53 d53 B52
      rw [HLM.out.1, HLM.out.2]
      rw [HQ.out, HLN.out]
      have cA_b := A53.hb
      have cA_f := A53.fz
      have cA_0 := A53.k0
      have cA_1 := A53.k1
      have cM_b := M53.hb
      have cM_f := M53.fz
      have cM_0 := M53.k0
      have cM_1 := M53.k1
      have cZ_b := Z53.hb
      have cZ_f := Z53.fz
      have cZ_0 := Z53.k0
      have cZ_1 := Z53.k1
      go_wp2_with fail
      clear cA_b cA_f cA_0 cA_1 cM_b cM_f cM_0 cM_1 cZ_b cZ_f cZ_0 cZ_1
      go_ret
      exact ⟨rfl, (by have hz := B53.out.size; repeat (first | exact B53.out | refine below_drewN ?_ _ | refine Below.drew ?_ | refine Below.setCell ?_ (by first | omega | (simp; done) | (simp; omega)) _ | refine Below.alloc ?_ (by first | omega | (simp; done) | (simp; omega)) _))⟩
set_option maxHeartbeats 8000000 in
set_option maxRecDepth 100000 in
theorem sparts_mf_a (x0 x1 y0 y1 n : Int) (w : World) (hx0 : -9223372036854775808 ≤ x0 ∧ x0 ≤ 9223372036854775807) (hx1 : -9223372036854775808 ≤ x1 ∧ x1 ≤ 9223372036854775807) (hn : -9223372036854775808 ≤ n ∧ n ≤ 9223372036854775807) (hw : Sp.lw x0 x1 = 0) (hm : Sp.mt x0 x1 y0 y1 = false) (hv : Sp.mv x0 x1 n = false) :
    Calls Try.prog 3 #[.agg #[.int .i64 x0, .int .i64 x1], .agg #[.int .i64 y0, .int .i64 y1], .int .i64 n] w fun e w' => e = .returned (.bool true) ∧ Below w.heap.size w w' := by
  have HX := Lib.hid (And.intro hx0 hx1)
  have HN := Lib.hid hn
  have HLM := Lib.hid (Sp.ln_mv x0 x1 n)
  have HV := Lib.hid hv; clear hv
  have HQ := Lib.hid hw
  obtain ⟨hr, hd⟩ := Sp.lw_0 hw
  have HLN := Lib.hid (Sp.ln_ok hr hd).1
  have HM := Lib.hid hm
  have LI : Hid (∀ p ∈ Sp.less x0 x1 y0 y1, x0 ≤ p.1 ∧ p.1 < p.2 ∧ p.2 ≤ x1) := Lib.hid (fun p hp => Sp.less_in hp)
  have LT := Lib.hid (Sp.less_tot (y0 := y0) (y1 := y1) hr)
  have HL2 := Lib.hid (less_len3 x0 x1 y0 y1)
  have SL := Lib.hid (sless_any x0 x1 y0 y1)
  generalize Sp.less x0 x1 y0 y1 = l at LI LT HL2 SL
  have HD := Lib.hid (And.intro hr hd)
  have HT : Hid (0 + Sp.tot l = x1 - x0 ∧ (0 : Int) ≤ 0) := Lib.hid (by have := LT.out; rw [hm, if_neg (by decide)] at this; omega)
  clear hr hd hw hm hx0 hx1 hn LT
  go_enter Try.func3, Try.ntmps3
  go_wp2_with fail
  refine (lives10 _).mono ?_; rintro e w1 ⟨rfl, b1⟩
  have d1 : Below w.heap.size w w1 := below_step (by repeat (first | exact Below.refl _ _ | refine below_drewN ?_ _ | refine Below.drew ?_ | refine Below.setCell ?_ (by first | (simp; done) | (simp; omega) | omega) _ | refine Below.alloc ?_ (by first | (simp; done) | (simp; omega) | omega) _)) b1
  have B1 := Lib.hid d1
  have A1 : Bk2 w1 (w.heap.size) (.int .i64 x0) (.int .i64 x1) := Bk2.of b1 (by simp <;> omega) (by intro j; simp [go_sem]) (by simp [go_sem]) (by simp [go_sem])
  have Bb1 : Bk2 w1 (w.heap.size + 1) (.int .i64 y0) (.int .i64 y1) := Bk2.of b1 (by simp <;> omega) (by intro j; simp [go_sem]) (by simp [go_sem]) (by simp [go_sem])
  clear b1 d1
  have cA_b := A1.hb
  have cA_f := A1.fz
  have cA_0 := A1.k0
  have cA_1 := A1.k1
  have cBb_b := Bb1.hb
  have cBb_f := Bb1.fz
  have cBb_0 := Bb1.k0
  have cBb_1 := Bb1.k1
  go_wp2_with fail
  clear cA_b cA_f cA_0 cA_1 cBb_b cBb_f cBb_0 cBb_1
  refine (span_len x0 x1 _ HX.out.1.1 HX.out.1.2 HX.out.2.1 HX.out.2.2).mono ?_; rintro e w2 ⟨rfl, b2⟩
  have d2 : Below w1.heap.size w1 w2 := below_step (by repeat (first | exact Below.refl _ _ | refine below_drewN ?_ _ | refine Below.drew ?_ | refine Below.setCell ?_ (by first | (simp; done) | (simp; omega) | omega) _ | refine Below.alloc ?_ (by first | (simp; done) | (simp; omega) | omega) _)) b2
  have B2 := Lib.hid (below_step B1.out d2)
  have A2 := A1.keep d2
  have Bb2 := Bb1.keep d2
  clear A1 Bb1 b2 d2 B1
  rw [HQ.out, HLN.out]
  have cA_b := A2.hb
  have cA_f := A2.fz
  have cA_0 := A2.k0
  have cA_1 := A2.k1
  have cBb_b := Bb2.hb
  have cBb_f := Bb2.fz
  have cBb_0 := Bb2.k0
  have cBb_1 := Bb2.k1
  go_wp2_with fail
  clear cA_b cA_f cA_0 cA_1 cBb_b cBb_f cBb_0 cBb_1
  refine (span_both x0 x1 y0 y1 _).mono ?_; rintro e w3 ⟨rfl, b3⟩
  have d3 : Below w2.heap.size w2 w3 := below_step (by repeat (first | exact Below.refl _ _ | refine below_drewN ?_ _ | refine Below.drew ?_ | refine Below.setCell ?_ (by first | (simp; done) | (simp; omega) | omega) _ | refine Below.alloc ?_ (by first | (simp; done) | (simp; omega) | omega) _)) b3
  have B3 := Lib.hid (below_step B2.out d3)
  have A3 := A2.keep d3
  have Bb3 := Bb2.keep d3
  clear A2 Bb2 b3 d3 B2
  rw [HM.out]
  simp only [Sp.bz, if_true, Bool.false_eq_true, if_false]
  have cA_b := A3.hb
  have cA_f := A3.fz
  have cA_0 := A3.k0
  have cA_1 := A3.k1
  have cBb_b := Bb3.hb
  have cBb_f := Bb3.fz
  have cBb_0 := Bb3.k0
  have cBb_1 := Bb3.k1
  go_wp2_with fail
  clear cA_b cA_f cA_0 cA_1 cBb_b cBb_f cBb_0 cBb_1
  refine (SL.out _).mono ?_; rintro e w4 ⟨_, sp, rfl, b4⟩
  have Sp_4 := Lib.hid sp; obtain ⟨Ap, cp, rfl, -⟩ := sp
  have d4 : Below w3.heap.size w3 w4 := below_step (by repeat (first | exact Below.refl _ _ | refine below_drewN ?_ _ | refine Below.drew ?_ | refine Below.setCell ?_ (by first | (simp; done) | (simp; omega) | omega) _ | refine Below.alloc ?_ (by first | (simp; done) | (simp; omega) | omega) _)) b4
  have B4 := Lib.hid (below_step B3.out d4)
  have A4 := A3.keep d4
  have Bb4 := Bb3.keep d4
  have aX := B3.out.size
  have nXA := Nat.ne_of_lt A3.hb
  have oXA := Nat.ne_of_gt A3.hb
  have nXBb := Nat.ne_of_lt Bb3.hb
  have oXBb := Nat.ne_of_gt Bb3.hb
  have X4 : Bk2 w4 (w3.heap.size) (.int .i64 0) (.int .i64 0) := Bk2.of b4 (by simp <;> omega) (by intro j; simp [go_sem]) (by simp [go_sem]) (by simp [go_sem])
  clear A3 Bb3 b4 d4 B3
  clear Bb4
  have hl2 := HL2.out
  clear X4 aX
  go_wp2_with fail
  have BW := Lib.hid B4.out
  go_loopw [9, 52] (fun c i w50 => ∃ k : Nat, k ≤ l.length ∧ i = .int .i64 k ∧ c = .int .i64 (0 + Sp.tot (l.take k)) ∧ Below w.heap.size w w50 ∧ SpV w50 (.slice Ap l.length cp) l ∧ Bk2 w50 w.heap.size (.int .i64 x0) (.int .i64 x1)) (fun _ i _ => l.length - (intOf i).toNat)
  case atStart => exact ⟨0, Nat.zero_le _, rfl, by simp [Sp.tot], BW.out, Sp_4.out, A4⟩
  case round =>
    obtain ⟨k, hk, rfl, rfl, hb, hs, A50⟩ := hrel
    obtain ⟨w50, hw50⟩ : ∃ W, W = wr := ⟨_, rfl⟩
    subst hw50
    have B50 := Lib.hid hb
    have HS := Lib.hid hs
    clear hb hs
    have tk := Sp.tot_take (l := l) (fun p hp => (LI.out p hp).2.1) k
    have tk2 := Sp.tot_take (l := l) (fun p hp => (LI.out p hp).2.1) (k + 1)
    by_cases hlt : k < l.length
    · obtain ⟨a, rfl, -, g1, g2⟩ := HS.out.get k hlt
      have ht := HT.out
      have sn := Sp.tot_snoc l k hlt
      have SN := Lib.hid sn
      have pin := LI.out l[k] (List.getElem_mem hlt)
      generalize l[k].1 = u at *
      generalize l[k].2 = v at *
      generalize Sp.tot (l.take k) = c at *
      have c0 : 0 ≤ 0 + c := by omega
      have c1 : 0 + c ≤ 9223372036854775807 := by have := HD.out; omega
      have v0 : 0 ≤ v - u := by omega
      have v1 : v - u ≤ 9223372036854775807 := by have := HD.out; omega
      have s1 : 0 + c + (v - u) ≤ 9223372036854775807 := by have := HD.out; omega
      have PB : Hid ((-9223372036854775808 ≤ u ∧ u ≤ 9223372036854775807) ∧ (-9223372036854775808 ≤ v ∧ v ≤ 9223372036854775807)) := Lib.hid (by have := HX.out; omega)
      have UL := Lib.hid (Sp.ln_ok pin.2.1 v1).1
      have i0 : (0 : Int) ≤ k := by omega
      have i1 : (k : Int) < l.length := by omega
      clear pin sn ht tk tk2
      go_wp2_with fail
      refine (span_len u v _ PB.out.1.1 PB.out.1.2 PB.out.2.1 PB.out.2.2).mono ?_; rintro e v1' ⟨rfl, b1⟩
      rw [UL.out]
      have DD1 := Lib.hid (show Below w50.heap.size w50 v1' from below_step (by repeat (first | exact Below.refl _ _ | refine Below.setCell ?_ (by first | (simp; done) | (simp; omega)) _ | refine Below.alloc ?_ (by first | (simp; done) | (simp; omega)) _)) b1)
      clear b1
      generalize Sp.lw u v = q3
      obtain ⟨z, hz⟩ : ∃ z, v - u = z := ⟨_, rfl⟩
      rw [hz] at v0 v1 s1 SN ⊢
      clear hz
      go_wp2
      go_roundw
      case rel => exact ⟨k + 1, by omega, by go_num, by rw [SN.out]; exact congrArg (Value.int .i64) (by omega), below_step B50.out DD1.out, HS.out.on DD1.out, A50.keep DD1.out⟩
      case measure => simp [intOf]; omega
    · have hkk : k = l.length := by omega
      have e : 0 + Sp.tot (l.take k) = x1 - x0 := by rw [hkk, List.take_length]; exact HT.out.1
      rw [e]
      clear e tk tk2
      generalize x1 - x0 = dd at *
      clear Sp_4
      have cA_b := A50.hb
      have cA_f := A50.fz
      have cA_0 := A50.k0
      have cA_1 := A50.k1
      go_wp2_with fail
      clear cA_b cA_f cA_0 cA_1
      refine (span_move x0 x1 n _ HX.out.1.1 HX.out.1.2 HX.out.2.1 HX.out.2.2 HN.out.1 HN.out.2).mono ?_; rintro e w51 ⟨rfl, b51⟩
      have d51 : Below w50.heap.size w50 w51 := below_step (by repeat (first | exact Below.refl _ _ | refine below_drewN ?_ _ | refine Below.drew ?_ | refine Below.setCell ?_ (by first | (simp; done) | (simp; omega) | omega) _ | refine Below.alloc ?_ (by first | (simp; done) | (simp; omega) | omega) _)) b51
      have B51 := Lib.hid (below_step B50.out d51)
      have A51 := A50.keep d51
      clear A50 b51 d51 B50
      rw [HV.out]
      simp only [Sp.bz, Sp.why, if_true, Bool.false_eq_true, if_false]
      have cA_b := A51.hb
      have cA_f := A51.fz
      have cA_0 := A51.k0
      have cA_1 := A51.k1
      go_wp2_with fail
      clear cA_b cA_f cA_0 cA_1
      go_ret
      exact ⟨rfl, (by have hz := B51.out.size; repeat (first | exact B51.out | refine below_drewN ?_ _ | refine Below.drew ?_ | refine Below.setCell ?_ (by first | omega | (simp; done) | (simp; omega)) _ | refine Below.alloc ?_ (by first | omega | (simp; done) | (simp; omega)) _))⟩
set_option maxHeartbeats 8000000 in
set_option maxRecDepth 100000 in
theorem sparts_mf_b (x0 x1 y0 y1 n : Int) (w : World) (hx0 : -9223372036854775808 ≤ x0 ∧ x0 ≤ 9223372036854775807) (hx1 : -9223372036854775808 ≤ x1 ∧ x1 ≤ 9223372036854775807) (hn : -9223372036854775808 ≤ n ∧ n ≤ 9223372036854775807) (hw : Sp.lw x0 x1 = 0) (hm : Sp.mt x0 x1 y0 y1 = false) (hv : Sp.mv x0 x1 n = true) (he : n = -9223372036854775808) :
    Calls Try.prog 3 #[.agg #[.int .i64 x0, .int .i64 x1], .agg #[.int .i64 y0, .int .i64 y1], .int .i64 n] w fun e w' => e = .returned (.bool true) ∧ Below w.heap.size w w' := by
  have HX := Lib.hid (And.intro hx0 hx1)
  have HN := Lib.hid hn
  have HLM := Lib.hid (Sp.ln_mv x0 x1 n)
  have HV := Lib.hid hv; have HE : Hid ((n == -9223372036854775808) = true) := Lib.hid (beq_iff_eq.2 he); clear hv he
  have HQ := Lib.hid hw
  obtain ⟨hr, hd⟩ := Sp.lw_0 hw
  have HLN := Lib.hid (Sp.ln_ok hr hd).1
  have HM := Lib.hid hm
  have LI : Hid (∀ p ∈ Sp.less x0 x1 y0 y1, x0 ≤ p.1 ∧ p.1 < p.2 ∧ p.2 ≤ x1) := Lib.hid (fun p hp => Sp.less_in hp)
  have LT := Lib.hid (Sp.less_tot (y0 := y0) (y1 := y1) hr)
  have HL2 := Lib.hid (less_len3 x0 x1 y0 y1)
  have SL := Lib.hid (sless_any x0 x1 y0 y1)
  generalize Sp.less x0 x1 y0 y1 = l at LI LT HL2 SL
  have HD := Lib.hid (And.intro hr hd)
  have HT : Hid (0 + Sp.tot l = x1 - x0 ∧ (0 : Int) ≤ 0) := Lib.hid (by have := LT.out; rw [hm, if_neg (by decide)] at this; omega)
  clear hr hd hw hm hx0 hx1 hn LT
  go_enter Try.func3, Try.ntmps3
  go_wp2_with fail
  refine (lives10 _).mono ?_; rintro e w1 ⟨rfl, b1⟩
  have d1 : Below w.heap.size w w1 := below_step (by repeat (first | exact Below.refl _ _ | refine below_drewN ?_ _ | refine Below.drew ?_ | refine Below.setCell ?_ (by first | (simp; done) | (simp; omega) | omega) _ | refine Below.alloc ?_ (by first | (simp; done) | (simp; omega) | omega) _)) b1
  have B1 := Lib.hid d1
  have A1 : Bk2 w1 (w.heap.size) (.int .i64 x0) (.int .i64 x1) := Bk2.of b1 (by simp <;> omega) (by intro j; simp [go_sem]) (by simp [go_sem]) (by simp [go_sem])
  have Bb1 : Bk2 w1 (w.heap.size + 1) (.int .i64 y0) (.int .i64 y1) := Bk2.of b1 (by simp <;> omega) (by intro j; simp [go_sem]) (by simp [go_sem]) (by simp [go_sem])
  clear b1 d1
  have cA_b := A1.hb
  have cA_f := A1.fz
  have cA_0 := A1.k0
  have cA_1 := A1.k1
  have cBb_b := Bb1.hb
  have cBb_f := Bb1.fz
  have cBb_0 := Bb1.k0
  have cBb_1 := Bb1.k1
  go_wp2_with fail
  clear cA_b cA_f cA_0 cA_1 cBb_b cBb_f cBb_0 cBb_1
  refine (span_len x0 x1 _ HX.out.1.1 HX.out.1.2 HX.out.2.1 HX.out.2.2).mono ?_; rintro e w2 ⟨rfl, b2⟩
  have d2 : Below w1.heap.size w1 w2 := below_step (by repeat (first | exact Below.refl _ _ | refine below_drewN ?_ _ | refine Below.drew ?_ | refine Below.setCell ?_ (by first | (simp; done) | (simp; omega) | omega) _ | refine Below.alloc ?_ (by first | (simp; done) | (simp; omega) | omega) _)) b2
  have B2 := Lib.hid (below_step B1.out d2)
  have A2 := A1.keep d2
  have Bb2 := Bb1.keep d2
  clear A1 Bb1 b2 d2 B1
  rw [HQ.out, HLN.out]
  have cA_b := A2.hb
  have cA_f := A2.fz
  have cA_0 := A2.k0
  have cA_1 := A2.k1
  have cBb_b := Bb2.hb
  have cBb_f := Bb2.fz
  have cBb_0 := Bb2.k0
  have cBb_1 := Bb2.k1
  go_wp2_with fail
  clear cA_b cA_f cA_0 cA_1 cBb_b cBb_f cBb_0 cBb_1
  refine (span_both x0 x1 y0 y1 _).mono ?_; rintro e w3 ⟨rfl, b3⟩
  have d3 : Below w2.heap.size w2 w3 := below_step (by repeat (first | exact Below.refl _ _ | refine below_drewN ?_ _ | refine Below.drew ?_ | refine Below.setCell ?_ (by first | (simp; done) | (simp; omega) | omega) _ | refine Below.alloc ?_ (by first | (simp; done) | (simp; omega) | omega) _)) b3
  have B3 := Lib.hid (below_step B2.out d3)
  have A3 := A2.keep d3
  have Bb3 := Bb2.keep d3
  clear A2 Bb2 b3 d3 B2
  rw [HM.out]
  simp only [Sp.bz, if_true, Bool.false_eq_true, if_false]
  have cA_b := A3.hb
  have cA_f := A3.fz
  have cA_0 := A3.k0
  have cA_1 := A3.k1
  have cBb_b := Bb3.hb
  have cBb_f := Bb3.fz
  have cBb_0 := Bb3.k0
  have cBb_1 := Bb3.k1
  go_wp2_with fail
  clear cA_b cA_f cA_0 cA_1 cBb_b cBb_f cBb_0 cBb_1
  refine (SL.out _).mono ?_; rintro e w4 ⟨_, sp, rfl, b4⟩
  have Sp_4 := Lib.hid sp; obtain ⟨Ap, cp, rfl, -⟩ := sp
  have d4 : Below w3.heap.size w3 w4 := below_step (by repeat (first | exact Below.refl _ _ | refine below_drewN ?_ _ | refine Below.drew ?_ | refine Below.setCell ?_ (by first | (simp; done) | (simp; omega) | omega) _ | refine Below.alloc ?_ (by first | (simp; done) | (simp; omega) | omega) _)) b4
  have B4 := Lib.hid (below_step B3.out d4)
  have A4 := A3.keep d4
  have Bb4 := Bb3.keep d4
  have aX := B3.out.size
  have nXA := Nat.ne_of_lt A3.hb
  have oXA := Nat.ne_of_gt A3.hb
  have nXBb := Nat.ne_of_lt Bb3.hb
  have oXBb := Nat.ne_of_gt Bb3.hb
  have X4 : Bk2 w4 (w3.heap.size) (.int .i64 0) (.int .i64 0) := Bk2.of b4 (by simp <;> omega) (by intro j; simp [go_sem]) (by simp [go_sem]) (by simp [go_sem])
  clear A3 Bb3 b4 d4 B3
  clear Bb4
  have hl2 := HL2.out
  clear X4 aX
  go_wp2_with fail
  have BW := Lib.hid B4.out
  go_loopw [9, 52] (fun c i w50 => ∃ k : Nat, k ≤ l.length ∧ i = .int .i64 k ∧ c = .int .i64 (0 + Sp.tot (l.take k)) ∧ Below w.heap.size w w50 ∧ SpV w50 (.slice Ap l.length cp) l ∧ Bk2 w50 w.heap.size (.int .i64 x0) (.int .i64 x1)) (fun _ i _ => l.length - (intOf i).toNat)
  case atStart => exact ⟨0, Nat.zero_le _, rfl, by simp [Sp.tot], BW.out, Sp_4.out, A4⟩
  case round =>
    obtain ⟨k, hk, rfl, rfl, hb, hs, A50⟩ := hrel
    obtain ⟨w50, hw50⟩ : ∃ W, W = wr := ⟨_, rfl⟩
    subst hw50
    have B50 := Lib.hid hb
    have HS := Lib.hid hs
    clear hb hs
    have tk := Sp.tot_take (l := l) (fun p hp => (LI.out p hp).2.1) k
    have tk2 := Sp.tot_take (l := l) (fun p hp => (LI.out p hp).2.1) (k + 1)
    by_cases hlt : k < l.length
    · obtain ⟨a, rfl, -, g1, g2⟩ := HS.out.get k hlt
      have ht := HT.out
      have sn := Sp.tot_snoc l k hlt
      have SN := Lib.hid sn
      have pin := LI.out l[k] (List.getElem_mem hlt)
      generalize l[k].1 = u at *
      generalize l[k].2 = v at *
      generalize Sp.tot (l.take k) = c at *
      have c0 : 0 ≤ 0 + c := by omega
      have c1 : 0 + c ≤ 9223372036854775807 := by have := HD.out; omega
      have v0 : 0 ≤ v - u := by omega
      have v1 : v - u ≤ 9223372036854775807 := by have := HD.out; omega
      have s1 : 0 + c + (v - u) ≤ 9223372036854775807 := by have := HD.out; omega
      have PB : Hid ((-9223372036854775808 ≤ u ∧ u ≤ 9223372036854775807) ∧ (-9223372036854775808 ≤ v ∧ v ≤ 9223372036854775807)) := Lib.hid (by have := HX.out; omega)
      have UL := Lib.hid (Sp.ln_ok pin.2.1 v1).1
      have i0 : (0 : Int) ≤ k := by omega
      have i1 : (k : Int) < l.length := by omega
      clear pin sn ht tk tk2
      go_wp2_with fail
      refine (span_len u v _ PB.out.1.1 PB.out.1.2 PB.out.2.1 PB.out.2.2).mono ?_; rintro e v1' ⟨rfl, b1⟩
      rw [UL.out]
      have DD1 := Lib.hid (show Below w50.heap.size w50 v1' from below_step (by repeat (first | exact Below.refl _ _ | refine Below.setCell ?_ (by first | (simp; done) | (simp; omega)) _ | refine Below.alloc ?_ (by first | (simp; done) | (simp; omega)) _)) b1)
      clear b1
      generalize Sp.lw u v = q3
      obtain ⟨z, hz⟩ : ∃ z, v - u = z := ⟨_, rfl⟩
      rw [hz] at v0 v1 s1 SN ⊢
      clear hz
      go_wp2
      go_roundw
      case rel => exact ⟨k + 1, by omega, by go_num, by rw [SN.out]; exact congrArg (Value.int .i64) (by omega), below_step B50.out DD1.out, HS.out.on DD1.out, A50.keep DD1.out⟩
      case measure => simp [intOf]; omega
    · have hkk : k = l.length := by omega
      have e : 0 + Sp.tot (l.take k) = x1 - x0 := by rw [hkk, List.take_length]; exact HT.out.1
      rw [e]
      clear e tk tk2
      generalize x1 - x0 = dd at *
      clear Sp_4
      have cA_b := A50.hb
      have cA_f := A50.fz
      have cA_0 := A50.k0
      have cA_1 := A50.k1
      go_wp2_with fail
      clear cA_b cA_f cA_0 cA_1
      refine (span_move x0 x1 n _ HX.out.1.1 HX.out.1.2 HX.out.2.1 HX.out.2.2 HN.out.1 HN.out.2).mono ?_; rintro e w51 ⟨rfl, b51⟩
      have d51 : Below w50.heap.size w50 w51 := below_step (by repeat (first | exact Below.refl _ _ | refine below_drewN ?_ _ | refine Below.drew ?_ | refine Below.setCell ?_ (by first | (simp; done) | (simp; omega) | omega) _ | refine Below.alloc ?_ (by first | (simp; done) | (simp; omega) | omega) _)) b51
      have B51 := Lib.hid (below_step B50.out d51)
      have A51 := A50.keep d51
      clear A50 b51 d51 B50
      rw [HV.out]
      simp only [Sp.bz, Sp.why, if_true, Bool.false_eq_true, if_false]
      have tn := HE.out
      have cA_b := A51.hb
      have cA_f := A51.fz
      have cA_0 := A51.k0
      have cA_1 := A51.k1
      go_wp2_with fail
      clear cA_b cA_f cA_0 cA_1
      go_ret
      exact ⟨rfl, (by have hz := B51.out.size; repeat (first | exact B51.out | refine below_drewN ?_ _ | refine Below.drew ?_ | refine Below.setCell ?_ (by first | omega | (simp; done) | (simp; omega)) _ | refine Below.alloc ?_ (by first | omega | (simp; done) | (simp; omega)) _))⟩
set_option maxHeartbeats 8000000 in
set_option maxRecDepth 100000 in
theorem sparts_mf_c (x0 x1 y0 y1 n : Int) (w : World) (hx0 : -9223372036854775808 ≤ x0 ∧ x0 ≤ 9223372036854775807) (hx1 : -9223372036854775808 ≤ x1 ∧ x1 ≤ 9223372036854775807) (hn : -9223372036854775808 ≤ n ∧ n ≤ 9223372036854775807) (hw : Sp.lw x0 x1 = 0) (hm : Sp.mt x0 x1 y0 y1 = false) (hv : Sp.mv x0 x1 n = true) (he : n ≠ -9223372036854775808) :
    Calls Try.prog 3 #[.agg #[.int .i64 x0, .int .i64 x1], .agg #[.int .i64 y0, .int .i64 y1], .int .i64 n] w fun e w' => e = .returned (.bool true) ∧ Below w.heap.size w w' := by
  have HX := Lib.hid (And.intro hx0 hx1)
  have HN := Lib.hid hn
  have HLM := Lib.hid (Sp.ln_mv x0 x1 n)
  have HV := Lib.hid hv; have HE : Hid ((n == -9223372036854775808) = false) := Lib.hid (beq_eq_false_iff_ne.2 he); have HE2 : Hid (-9223372036854775807 ≤ n) := Lib.hid (by omega); have HG : Hid (-9223372036854775808 ≤ -n ∧ -n ≤ 9223372036854775807) := Lib.hid (by omega); have HK := Lib.hid (Sp.mv_back hv hx0 hx1); have HW : Hid (x0 + n + -n = x0 ∧ x1 + n + -n = x1) := Lib.hid (by omega); clear hv he
  have HQ := Lib.hid hw
  obtain ⟨hr, hd⟩ := Sp.lw_0 hw
  have HLN := Lib.hid (Sp.ln_ok hr hd).1
  have HM := Lib.hid hm
  have LI : Hid (∀ p ∈ Sp.less x0 x1 y0 y1, x0 ≤ p.1 ∧ p.1 < p.2 ∧ p.2 ≤ x1) := Lib.hid (fun p hp => Sp.less_in hp)
  have LT := Lib.hid (Sp.less_tot (y0 := y0) (y1 := y1) hr)
  have HL2 := Lib.hid (less_len3 x0 x1 y0 y1)
  have SL := Lib.hid (sless_any x0 x1 y0 y1)
  generalize Sp.less x0 x1 y0 y1 = l at LI LT HL2 SL
  have HD := Lib.hid (And.intro hr hd)
  have HT : Hid (0 + Sp.tot l = x1 - x0 ∧ (0 : Int) ≤ 0) := Lib.hid (by have := LT.out; rw [hm, if_neg (by decide)] at this; omega)
  clear hr hd hw hm hx0 hx1 hn LT
  go_enter Try.func3, Try.ntmps3
  go_wp2_with fail
  refine (lives10 _).mono ?_; rintro e w1 ⟨rfl, b1⟩
  have d1 : Below w.heap.size w w1 := below_step (by repeat (first | exact Below.refl _ _ | refine below_drewN ?_ _ | refine Below.drew ?_ | refine Below.setCell ?_ (by first | (simp; done) | (simp; omega) | omega) _ | refine Below.alloc ?_ (by first | (simp; done) | (simp; omega) | omega) _)) b1
  have B1 := Lib.hid d1
  have A1 : Bk2 w1 (w.heap.size) (.int .i64 x0) (.int .i64 x1) := Bk2.of b1 (by simp <;> omega) (by intro j; simp [go_sem]) (by simp [go_sem]) (by simp [go_sem])
  have Bb1 : Bk2 w1 (w.heap.size + 1) (.int .i64 y0) (.int .i64 y1) := Bk2.of b1 (by simp <;> omega) (by intro j; simp [go_sem]) (by simp [go_sem]) (by simp [go_sem])
  clear b1 d1
  have cA_b := A1.hb
  have cA_f := A1.fz
  have cA_0 := A1.k0
  have cA_1 := A1.k1
  have cBb_b := Bb1.hb
  have cBb_f := Bb1.fz
  have cBb_0 := Bb1.k0
  have cBb_1 := Bb1.k1
  go_wp2_with fail
  clear cA_b cA_f cA_0 cA_1 cBb_b cBb_f cBb_0 cBb_1
  refine (span_len x0 x1 _ HX.out.1.1 HX.out.1.2 HX.out.2.1 HX.out.2.2).mono ?_; rintro e w2 ⟨rfl, b2⟩
  have d2 : Below w1.heap.size w1 w2 := below_step (by repeat (first | exact Below.refl _ _ | refine below_drewN ?_ _ | refine Below.drew ?_ | refine Below.setCell ?_ (by first | (simp; done) | (simp; omega) | omega) _ | refine Below.alloc ?_ (by first | (simp; done) | (simp; omega) | omega) _)) b2
  have B2 := Lib.hid (below_step B1.out d2)
  have A2 := A1.keep d2
  have Bb2 := Bb1.keep d2
  clear A1 Bb1 b2 d2 B1
  rw [HQ.out, HLN.out]
  have cA_b := A2.hb
  have cA_f := A2.fz
  have cA_0 := A2.k0
  have cA_1 := A2.k1
  have cBb_b := Bb2.hb
  have cBb_f := Bb2.fz
  have cBb_0 := Bb2.k0
  have cBb_1 := Bb2.k1
  go_wp2_with fail
  clear cA_b cA_f cA_0 cA_1 cBb_b cBb_f cBb_0 cBb_1
  refine (span_both x0 x1 y0 y1 _).mono ?_; rintro e w3 ⟨rfl, b3⟩
  have d3 : Below w2.heap.size w2 w3 := below_step (by repeat (first | exact Below.refl _ _ | refine below_drewN ?_ _ | refine Below.drew ?_ | refine Below.setCell ?_ (by first | (simp; done) | (simp; omega) | omega) _ | refine Below.alloc ?_ (by first | (simp; done) | (simp; omega) | omega) _)) b3
  have B3 := Lib.hid (below_step B2.out d3)
  have A3 := A2.keep d3
  have Bb3 := Bb2.keep d3
  clear A2 Bb2 b3 d3 B2
  rw [HM.out]
  simp only [Sp.bz, if_true, Bool.false_eq_true, if_false]
  have cA_b := A3.hb
  have cA_f := A3.fz
  have cA_0 := A3.k0
  have cA_1 := A3.k1
  have cBb_b := Bb3.hb
  have cBb_f := Bb3.fz
  have cBb_0 := Bb3.k0
  have cBb_1 := Bb3.k1
  go_wp2_with fail
  clear cA_b cA_f cA_0 cA_1 cBb_b cBb_f cBb_0 cBb_1
  refine (SL.out _).mono ?_; rintro e w4 ⟨_, sp, rfl, b4⟩
  have Sp_4 := Lib.hid sp; obtain ⟨Ap, cp, rfl, -⟩ := sp
  have d4 : Below w3.heap.size w3 w4 := below_step (by repeat (first | exact Below.refl _ _ | refine below_drewN ?_ _ | refine Below.drew ?_ | refine Below.setCell ?_ (by first | (simp; done) | (simp; omega) | omega) _ | refine Below.alloc ?_ (by first | (simp; done) | (simp; omega) | omega) _)) b4
  have B4 := Lib.hid (below_step B3.out d4)
  have A4 := A3.keep d4
  have Bb4 := Bb3.keep d4
  have aX := B3.out.size
  have nXA := Nat.ne_of_lt A3.hb
  have oXA := Nat.ne_of_gt A3.hb
  have nXBb := Nat.ne_of_lt Bb3.hb
  have oXBb := Nat.ne_of_gt Bb3.hb
  have X4 : Bk2 w4 (w3.heap.size) (.int .i64 0) (.int .i64 0) := Bk2.of b4 (by simp <;> omega) (by intro j; simp [go_sem]) (by simp [go_sem]) (by simp [go_sem])
  clear A3 Bb3 b4 d4 B3
  clear Bb4
  have hl2 := HL2.out
  clear X4 aX
  go_wp2_with fail
  have BW := Lib.hid B4.out
  go_loopw [9, 52] (fun c i w50 => ∃ k : Nat, k ≤ l.length ∧ i = .int .i64 k ∧ c = .int .i64 (0 + Sp.tot (l.take k)) ∧ Below w.heap.size w w50 ∧ SpV w50 (.slice Ap l.length cp) l ∧ Bk2 w50 w.heap.size (.int .i64 x0) (.int .i64 x1)) (fun _ i _ => l.length - (intOf i).toNat)
  case atStart => exact ⟨0, Nat.zero_le _, rfl, by simp [Sp.tot], BW.out, Sp_4.out, A4⟩
  case round =>
    obtain ⟨k, hk, rfl, rfl, hb, hs, A50⟩ := hrel
    obtain ⟨w50, hw50⟩ : ∃ W, W = wr := ⟨_, rfl⟩
    subst hw50
    have B50 := Lib.hid hb
    have HS := Lib.hid hs
    clear hb hs
    have tk := Sp.tot_take (l := l) (fun p hp => (LI.out p hp).2.1) k
    have tk2 := Sp.tot_take (l := l) (fun p hp => (LI.out p hp).2.1) (k + 1)
    by_cases hlt : k < l.length
    · obtain ⟨a, rfl, -, g1, g2⟩ := HS.out.get k hlt
      have ht := HT.out
      have sn := Sp.tot_snoc l k hlt
      have SN := Lib.hid sn
      have pin := LI.out l[k] (List.getElem_mem hlt)
      generalize l[k].1 = u at *
      generalize l[k].2 = v at *
      generalize Sp.tot (l.take k) = c at *
      have c0 : 0 ≤ 0 + c := by omega
      have c1 : 0 + c ≤ 9223372036854775807 := by have := HD.out; omega
      have v0 : 0 ≤ v - u := by omega
      have v1 : v - u ≤ 9223372036854775807 := by have := HD.out; omega
      have s1 : 0 + c + (v - u) ≤ 9223372036854775807 := by have := HD.out; omega
      have PB : Hid ((-9223372036854775808 ≤ u ∧ u ≤ 9223372036854775807) ∧ (-9223372036854775808 ≤ v ∧ v ≤ 9223372036854775807)) := Lib.hid (by have := HX.out; omega)
      have UL := Lib.hid (Sp.ln_ok pin.2.1 v1).1
      have i0 : (0 : Int) ≤ k := by omega
      have i1 : (k : Int) < l.length := by omega
      clear pin sn ht tk tk2
      go_wp2_with fail
      refine (span_len u v _ PB.out.1.1 PB.out.1.2 PB.out.2.1 PB.out.2.2).mono ?_; rintro e v1' ⟨rfl, b1⟩
      rw [UL.out]
      have DD1 := Lib.hid (show Below w50.heap.size w50 v1' from below_step (by repeat (first | exact Below.refl _ _ | refine Below.setCell ?_ (by first | (simp; done) | (simp; omega)) _ | refine Below.alloc ?_ (by first | (simp; done) | (simp; omega)) _)) b1)
      clear b1
      generalize Sp.lw u v = q3
      obtain ⟨z, hz⟩ : ∃ z, v - u = z := ⟨_, rfl⟩
      rw [hz] at v0 v1 s1 SN ⊢
      clear hz
      go_wp2
      go_roundw
      case rel => exact ⟨k + 1, by omega, by go_num, by rw [SN.out]; exact congrArg (Value.int .i64) (by omega), below_step B50.out DD1.out, HS.out.on DD1.out, A50.keep DD1.out⟩
      case measure => simp [intOf]; omega
    · have hkk : k = l.length := by omega
      have e : 0 + Sp.tot (l.take k) = x1 - x0 := by rw [hkk, List.take_length]; exact HT.out.1
      rw [e]
      clear e tk tk2
      generalize x1 - x0 = dd at *
      clear Sp_4
      have cA_b := A50.hb
      have cA_f := A50.fz
      have cA_0 := A50.k0
      have cA_1 := A50.k1
      go_wp2_with fail
      clear cA_b cA_f cA_0 cA_1
      refine (span_move x0 x1 n _ HX.out.1.1 HX.out.1.2 HX.out.2.1 HX.out.2.2 HN.out.1 HN.out.2).mono ?_; rintro e w51 ⟨rfl, b51⟩
      have d51 : Below w50.heap.size w50 w51 := below_step (by repeat (first | exact Below.refl _ _ | refine below_drewN ?_ _ | refine Below.drew ?_ | refine Below.setCell ?_ (by first | (simp; done) | (simp; omega) | omega) _ | refine Below.alloc ?_ (by first | (simp; done) | (simp; omega) | omega) _)) b51
      have B51 := Lib.hid (below_step B50.out d51)
      have A51 := A50.keep d51
      clear A50 b51 d51 B50
      rw [HV.out]
      simp only [Sp.bz, Sp.why, if_true]
      have tn := HE.out
      have tn2 : -9223372036854775807 ≤ n := HE2.out
      have tn3 : n ≤ 9223372036854775807 := HN.out.2
      have cA_b := A51.hb
      have cA_f := A51.fz
      have cA_0 := A51.k0
      have cA_1 := A51.k1
      go_wp2_with fail
      clear cA_b cA_f cA_0 cA_1
      refine (span_move (x0 + n) (x1 + n) (-n) _ HK.out.2.1.1 HK.out.2.1.2 HK.out.2.2.1 HK.out.2.2.2 HG.out.1 HG.out.2).mono ?_; rintro e w52 ⟨rfl, b52⟩
      have d52 : Below w51.heap.size w51 w52 := below_step (by repeat (first | exact Below.refl _ _ | refine below_drewN ?_ _ | refine Below.drew ?_ | refine Below.setCell ?_ (by first | (simp; done) | (simp; omega) | omega) _ | refine Below.alloc ?_ (by first | (simp; done) | (simp; omega) | omega) _)) b52
      have B52 := Lib.hid (below_step B51.out d52)
      have A52 := A51.keep d52
      have aM := B51.out.size
      have nMA := Nat.ne_of_lt A51.hb
      have oMA := Nat.ne_of_gt A51.hb
      have M52 : Bk2 w52 (w51.heap.size) (.int .i64 (x0 + n)) (.int .i64 (x1 + n)) := Bk2.of b52 (by simp <;> omega) (by intro j; simp [go_sem]) (by simp [go_sem]) (by simp [go_sem])
      clear A51 b52 d52 B51
      clear tn tn2 tn3
      rw [HK.out.1]
      simp only [Sp.bz, Sp.why, if_true]
      rw [HW.out.1, HW.out.2]
      have cA_b := A52.hb
      have cA_f := A52.fz
      have cA_0 := A52.k0
      have cA_1 := A52.k1
      have cM_b := M52.hb
      have cM_f := M52.fz
      have cM_0 := M52.k0
      have cM_1 := M52.k1
      go_wp2_with fail
      clear cA_b cA_f cA_0 cA_1 cM_b cM_f cM_0 cM_1
      refine (span_len (x0 + n) (x1 + n) _ HK.out.2.1.1 HK.out.2.1.2 HK.out.2.2.1 HK.out.2.2.2).mono ?_; rintro e w53 ⟨rfl, b53⟩
      have d53 : Below w52.heap.size w52 w53 := below_step (by repeat (first | exact Below.refl _ _ | refine below_drewN ?_ _ | refine Below.drew ?_ | refine Below.setCell ?_ (by first | (simp; done) | (simp; omega) | omega) _ | refine Below.alloc ?_ (by first | (simp; done) | (simp; omega) | omega) _)) b53
      have B53 := Lib.hid (below_step B52.out d53)
      have A53 := A52.keep d53
      have M53 := M52.keep d53
      have aZ := B52.out.size
      have nZA := Nat.ne_of_lt A52.hb
      have oZA := Nat.ne_of_gt A52.hb
      have nZM := Nat.ne_of_lt M52.hb
      have oZM := Nat.ne_of_gt M52.hb
      have Z53 : Bk2 w53 (w52.heap.size) (.int .i64 x0) (.int .i64 x1) := Bk2.of b53 (by simp <;> omega) (by intro j; simp [go_sem]) (by simp [go_sem]) (by simp [go_sem])
      clear A52 M52 b53 d53 B52
      rw [HLM.out.1, HLM.out.2]
      rw [HQ.out, HLN.out]
      have cA_b := A53.hb
      have cA_f := A53.fz
      have cA_0 := A53.k0
      have cA_1 := A53.k1
      have cM_b := M53.hb
      have cM_f := M53.fz
      have cM_0 := M53.k0
      have cM_1 := M53.k1
      have cZ_b := Z53.hb
      have cZ_f := Z53.fz
      have cZ_0 := Z53.k0
      have cZ_1 := Z53.k1
      go_wp2_with fail
      clear cA_b cA_f cA_0 cA_1 cM_b cM_f cM_0 cM_1 cZ_b cZ_f cZ_0 cZ_1
      go_ret
      exact ⟨rfl, (by have hz := B53.out.size; repeat (first | exact B53.out | refine below_drewN ?_ _ | refine Below.drew ?_ | refine Below.setCell ?_ (by first | omega | (simp; done) | (simp; omega)) _ | refine Below.alloc ?_ (by first | omega | (simp; done) | (simp; omega)) _))⟩
theorem sparts_walk (x0 x1 y0 y1 n : Int) (w : World) (hx0 : -9223372036854775808 ≤ x0 ∧ x0 ≤ 9223372036854775807) (hx1 : -9223372036854775808 ≤ x1 ∧ x1 ≤ 9223372036854775807) (hn : -9223372036854775808 ≤ n ∧ n ≤ 9223372036854775807) :
    Calls Try.prog 3 #[.agg #[.int .i64 x0, .int .i64 x1], .agg #[.int .i64 y0, .int .i64 y1], .int .i64 n] w fun e w' => e = .returned (.bool true) ∧ Below w.heap.size w w' := by
  by_cases hw : Sp.lw x0 x1 = 0
  · cases hm : Sp.mt x0 x1 y0 y1 <;> cases hv : Sp.mv x0 x1 n
    · exact sparts_mf_a x0 x1 y0 y1 n w hx0 hx1 hn hw hm hv
    · by_cases he : n = -9223372036854775808
      · exact sparts_mf_b x0 x1 y0 y1 n w hx0 hx1 hn hw hm hv he
      · exact sparts_mf_c x0 x1 y0 y1 n w hx0 hx1 hn hw hm hv he
    · exact sparts_mt_a x0 x1 y0 y1 n w hx0 hx1 hn hw hm hv
    · by_cases he : n = -9223372036854775808
      · exact sparts_mt_b x0 x1 y0 y1 n w hx0 hx1 hn hw hm hv he
      · exact sparts_mt_c x0 x1 y0 y1 n w hx0 hx1 hn hw hm hv he
  · cases hv : Sp.mv x0 x1 n
    · exact sparts_no_a x0 x1 y0 y1 n w hx0 hx1 hn hw hv
    · by_cases he : n = -9223372036854775808
      · exact sparts_no_b x0 x1 y0 y1 n w hx0 hx1 hn hw hv he
      · exact sparts_no_c x0 x1 y0 y1 n w hx0 hx1 hn hw hv he
end Go.Proofs.Ytpjddkcoolggaac

