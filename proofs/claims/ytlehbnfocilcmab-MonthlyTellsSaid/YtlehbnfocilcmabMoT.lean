/- The contract of the reference's Between. -/
import Derived.Test.YtlehbnfocilcmabMoS
import Derived.Test.YtlehbnfocilcmabMoC
set_option linter.unusedVariables false
set_option linter.unusedSimpArgs false
namespace Go.Proofs.Ytlehbnfocilcmab
open Go.RowKit Go.Sort

set_option maxHeartbeats 2000000 in
theorem rbet_no (ay am ad bY bm bd : Int) (w : World) (h : rightB ay am ad = false ∨ rightB ay am ad = true ∧ rightB bY bm bd = false) :
    Calls Try.prog 31 #[.agg #[.int .i64 ay, .int .i64 am, .int .i64 ad], .agg #[.int .i64 bY, .int .i64 bm, .int .i64 bd]] w fun e w' => e = .returned (.tuple #[.int .i64 0, .int .i64 1]) ∧ Below w.heap.size w w' := by
  rcases h with h | ⟨h, h2⟩
  · have H := Lib.hid h; clear h
    go_enter Try.func31, Try.ntmps31
    go_wp2_with fail
    refine (rright_any ay am ad _).mono ?_; rintro e w1 ⟨rfl, b1⟩
    have d1 : Below w.heap.size w w1 := below_step (by repeat (first | exact Below.refl _ _ | refine below_drewN ?_ _ | refine Below.drew ?_ | refine Below.setCell ?_ (by simp) _ | refine Below.alloc ?_ (by simp) _)) b1
    have B1 := Lib.hid d1
    have A1 : Bk3 w1 (w.heap.size) (.int .i64 ay) (.int .i64 am) (.int .i64 ad) := Bk3.of b1 (by simp <;> omega) (by intro j; simp [go_sem]) (by simp [go_sem]) (by simp [go_sem]) (by simp [go_sem])
    have C1 : Bk3 w1 (w.heap.size + 1) (.int .i64 bY) (.int .i64 bm) (.int .i64 bd) := Bk3.of b1 (by simp <;> omega) (by intro j; simp [go_sem]) (by simp [go_sem]) (by simp [go_sem]) (by simp [go_sem])
    clear b1 d1
    rw [H.out]
    have cA_b := A1.hb
    have cA_f := A1.fz
    have cA_0 := A1.k0
    have cA_1 := A1.k1
    have cA_2 := A1.k2
    have cC_b := C1.hb
    have cC_f := C1.fz
    have cC_0 := C1.k0
    have cC_1 := C1.k1
    have cC_2 := C1.k2
    go_wp2_with fail
    clear cA_b cA_f cA_0 cA_1 cA_2 cC_b cC_f cC_0 cC_1 cC_2
    go_ret2
    exact ⟨rfl, (by have hz := B1.out.size; repeat (first | exact B1.out | refine below_drewN ?_ _ | refine Below.drew ?_ | refine Below.setCell ?_ (by first | omega | (simp; done) | (simp; omega)) _ | refine Below.alloc ?_ (by first | omega | (simp; done) | (simp; omega)) _))⟩
  · have H := Lib.hid h; have H2 := Lib.hid h2; clear h h2
    go_enter Try.func31, Try.ntmps31
    go_wp2_with fail
    refine (rright_any ay am ad _).mono ?_; rintro e w1 ⟨rfl, b1⟩
    have d1 : Below w.heap.size w w1 := below_step (by repeat (first | exact Below.refl _ _ | refine below_drewN ?_ _ | refine Below.drew ?_ | refine Below.setCell ?_ (by simp) _ | refine Below.alloc ?_ (by simp) _)) b1
    have B1 := Lib.hid d1
    have A1 : Bk3 w1 (w.heap.size) (.int .i64 ay) (.int .i64 am) (.int .i64 ad) := Bk3.of b1 (by simp <;> omega) (by intro j; simp [go_sem]) (by simp [go_sem]) (by simp [go_sem]) (by simp [go_sem])
    have C1 : Bk3 w1 (w.heap.size + 1) (.int .i64 bY) (.int .i64 bm) (.int .i64 bd) := Bk3.of b1 (by simp <;> omega) (by intro j; simp [go_sem]) (by simp [go_sem]) (by simp [go_sem]) (by simp [go_sem])
    clear b1 d1
    rw [H.out]
    have cA_b := A1.hb
    have cA_f := A1.fz
    have cA_0 := A1.k0
    have cA_1 := A1.k1
    have cA_2 := A1.k2
    have cC_b := C1.hb
    have cC_f := C1.fz
    have cC_0 := C1.k0
    have cC_1 := C1.k1
    have cC_2 := C1.k2
    go_wp2_with fail
    clear cA_b cA_f cA_0 cA_1 cA_2 cC_b cC_f cC_0 cC_1 cC_2
    refine (rright_any bY bm bd _).mono ?_; rintro e w2 ⟨rfl, b2⟩
    have d2 : Below w1.heap.size w1 w2 := below_step (by repeat (first | exact Below.refl _ _ | refine below_drewN ?_ _ | refine Below.drew ?_ | refine Below.setCell ?_ (by simp) _ | refine Below.alloc ?_ (by simp) _)) b2
    have B2 := Lib.hid (below_step B1.out d2)
    have A2 := A1.keep d2
    have C2 := C1.keep d2
    clear A1 C1 b2 d2 B1
    rw [H2.out]
    have cA_b := A2.hb
    have cA_f := A2.fz
    have cA_0 := A2.k0
    have cA_1 := A2.k1
    have cA_2 := A2.k2
    have cC_b := C2.hb
    have cC_f := C2.fz
    have cC_0 := C2.k0
    have cC_1 := C2.k1
    have cC_2 := C2.k2
    go_wp2_with fail
    clear cA_b cA_f cA_0 cA_1 cA_2 cC_b cC_f cC_0 cC_1 cC_2
    go_ret2
    exact ⟨rfl, (by have hz := B2.out.size; repeat (first | exact B2.out | refine below_drewN ?_ _ | refine Below.drew ?_ | refine Below.setCell ?_ (by first | omega | (simp; done) | (simp; omega)) _ | refine Below.alloc ?_ (by first | omega | (simp; done) | (simp; omega)) _))⟩
set_option maxHeartbeats 2000000 in
theorem rbet_yy_true (ay am ad bY bm bd : Int) (w : World) (ha : rightB ay am ad = true) (hb : rightB bY bm bd = true) (hl : Mo.late ad bY bm bd = true) (h1 : Mo.mok ay am ad (Mo.bn ay am ad bY bm bd) = true) (h2 : Mo.mok ay am ad (Mo.bn ay am ad bY bm bd + 1) = true) :
    Calls Try.prog 31 #[.agg #[.int .i64 ay, .int .i64 am, .int .i64 ad], .agg #[.int .i64 bY, .int .i64 bm, .int .i64 bd]] w fun e w' => e = .returned (.tuple #[.int .i64 (Mo.bn ay am ad bY bm bd), .int .i64 0]) ∧ Below w.heap.size w w' := by
  have M := Lib.hid (Mo.at_b ha hb)
  have a := right_true.1 ha; have b := right_true.1 hb
  obtain ⟨am1, am2⟩ := Cal.month_of a
  obtain ⟨bm1, bm2⟩ := Cal.month_of b
  have ay1 := a.y0; have ay2 := a.y1; have by1 := b.y0; have by2 := b.y1
  have n1 : -2000000 ≤ Mo.n0 ay am bY bm := by unfold Mo.n0; omega
  have n2 : Mo.n0 ay am bY bm ≤ 2000000 := by unfold Mo.n0; omega
  have NN := Lib.hid (show (bY - ay) * 12 + (bm - am) = Mo.n0 ay am bY bm by unfold Mo.n0; omega)
  have HA := Lib.hid ha; have HB := Lib.hid hb
  have LC := Lib.hid ((Mo.late_cmp ad bY bm bd).trans hl)
  have E := Lib.hid (show Mo.bn ay am ad bY bm bd = Mo.n0 ay am bY bm - 1 by unfold Mo.bn; rw [hl]; rfl)
  have E2 := Lib.hid (show Mo.bn ay am ad bY bm bd + 1 = Mo.n0 ay am bY bm by unfold Mo.bn; rw [hl]; simp)
  have H1 := Lib.hid h1
  have H2 := Lib.hid h2; clear h2
  clear a b ha hb h1 hl
  go_enter Try.func31, Try.ntmps31
  go_wp2_with fail
  refine (rright_any ay am ad _).mono ?_; rintro e w1 ⟨rfl, b1⟩
  have d1 : Below w.heap.size w w1 := below_step (by repeat (first | exact Below.refl _ _ | refine below_drewN ?_ _ | refine Below.drew ?_ | refine Below.setCell ?_ (by simp) _ | refine Below.alloc ?_ (by simp) _)) b1
  have B1 := Lib.hid d1
  have A1 : Bk3 w1 (w.heap.size) (.int .i64 ay) (.int .i64 am) (.int .i64 ad) := Bk3.of b1 (by simp <;> omega) (by intro j; simp [go_sem]) (by simp [go_sem]) (by simp [go_sem]) (by simp [go_sem])
  have C1 : Bk3 w1 (w.heap.size + 1) (.int .i64 bY) (.int .i64 bm) (.int .i64 bd) := Bk3.of b1 (by simp <;> omega) (by intro j; simp [go_sem]) (by simp [go_sem]) (by simp [go_sem]) (by simp [go_sem])
  clear b1 d1
  rw [HA.out]
  have cA_b := A1.hb
  have cA_f := A1.fz
  have cA_0 := A1.k0
  have cA_1 := A1.k1
  have cA_2 := A1.k2
  have cC_b := C1.hb
  have cC_f := C1.fz
  have cC_0 := C1.k0
  have cC_1 := C1.k1
  have cC_2 := C1.k2
  go_wp2_with fail
  clear cA_b cA_f cA_0 cA_1 cA_2 cC_b cC_f cC_0 cC_1 cC_2
  refine (rright_any bY bm bd _).mono ?_; rintro e w2 ⟨rfl, b2⟩
  have d2 : Below w1.heap.size w1 w2 := below_step (by repeat (first | exact Below.refl _ _ | refine below_drewN ?_ _ | refine Below.drew ?_ | refine Below.setCell ?_ (by simp) _ | refine Below.alloc ?_ (by simp) _)) b2
  have B2 := Lib.hid (below_step B1.out d2)
  have A2 := A1.keep d2
  have C2 := C1.keep d2
  clear A1 C1 b2 d2 B1
  rw [HB.out]
  have cA_b := A2.hb
  have cA_f := A2.fz
  have cA_0 := A2.k0
  have cA_1 := A2.k1
  have cA_2 := A2.k2
  have cC_b := C2.hb
  have cC_f := C2.fz
  have cC_0 := C2.k0
  have cC_1 := C2.k1
  have cC_2 := C2.k2
  go_wp2_with fail
  clear cA_b cA_f cA_0 cA_1 cA_2 cC_b cC_f cC_0 cC_1 cC_2
  rw [NN.out]
  refine (radd_any ay am ad (Mo.n0 ay am bY bm) _).mono ?_; rintro e w3 ⟨rfl, b3⟩
  have d3 : Below w2.heap.size w2 w3 := below_step (by repeat (first | exact Below.refl _ _ | refine below_drewN ?_ _ | refine Below.drew ?_ | refine Below.setCell ?_ (by simp) _ | refine Below.alloc ?_ (by simp) _)) b3
  have B3 := Lib.hid (below_step B2.out d3)
  have A3 := A2.keep d3
  have C3 := C2.keep d3
  clear A2 C2 b3 d3 B2
  rw [M.out.1, M.out.2.1, M.out.2.2.1, M.out.2.2.2]
  simp only [Cal.orz, Cal.why, if_true]
  have cA_b := A3.hb
  have cA_f := A3.fz
  have cA_0 := A3.k0
  have cA_1 := A3.k1
  have cA_2 := A3.k2
  have cC_b := C3.hb
  have cC_f := C3.fz
  have cC_0 := C3.k0
  have cC_1 := C3.k1
  have cC_2 := C3.k2
  go_wp2_with fail
  clear cA_b cA_f cA_0 cA_1 cA_2 cC_b cC_f cC_0 cC_1 cC_2
  refine (rcompare _ _ _ _ _ _ _).mono ?_; rintro e w4 ⟨rfl, b4⟩
  have d4 : Below w3.heap.size w3 w4 := below_step (by repeat (first | exact Below.refl _ _ | refine below_drewN ?_ _ | refine Below.drew ?_ | refine Below.setCell ?_ (by simp) _ | refine Below.alloc ?_ (by simp) _)) b4
  have B4 := Lib.hid (below_step B3.out d4)
  have A4 := A3.keep d4
  have C4 := C3.keep d4
  have aQ := B3.out.size
  have nQA := Nat.ne_of_lt A3.hb
  have oQA := Nat.ne_of_gt A3.hb
  have nQC := Nat.ne_of_lt C3.hb
  have oQC := Nat.ne_of_gt C3.hb
  have Q4 : Bk3 w4 (w3.heap.size) (.int .i64 bY) (.int .i64 bm) (.int .i64 (min ad (Cal.len bY bm))) := Bk3.of b4 (by simp <;> omega) (by intro j; simp [go_sem]) (by simp [go_sem]) (by simp [go_sem]) (by simp [go_sem])
  clear A3 C3 b4 d4 B3
  have lc := LC.out
  have cA_b := A4.hb
  have cA_f := A4.fz
  have cA_0 := A4.k0
  have cA_1 := A4.k1
  have cA_2 := A4.k2
  have cC_b := C4.hb
  have cC_f := C4.fz
  have cC_0 := C4.k0
  have cC_1 := C4.k1
  have cC_2 := C4.k2
  have cQ_b := Q4.hb
  have cQ_f := Q4.fz
  have cQ_0 := Q4.k0
  have cQ_1 := Q4.k1
  have cQ_2 := Q4.k2
  go_wp2_with fail
  clear cA_b cA_f cA_0 cA_1 cA_2 cC_b cC_f cC_0 cC_1 cC_2 cQ_b cQ_f cQ_0 cQ_1 cQ_2
  refine (radd_any ay am ad (Mo.n0 ay am bY bm - 1) _).mono ?_; rintro e w5 ⟨rfl, b5⟩
  have d5 : Below w4.heap.size w4 w5 := below_step (by repeat (first | exact Below.refl _ _ | refine below_drewN ?_ _ | refine Below.drew ?_ | refine Below.setCell ?_ (by simp) _ | refine Below.alloc ?_ (by simp) _)) b5
  have B5 := Lib.hid (below_step B4.out d5)
  have A5 := A4.keep d5
  have C5 := C4.keep d5
  have Q5 := Q4.keep d5
  clear A4 C4 Q4 b5 d5 B4
  clear lc
  rw [show Mo.mok ay am ad (Mo.n0 ay am bY bm - 1) = Mo.mok ay am ad (Mo.bn ay am ad bY bm bd) by rw [E.out], H1.out]
  simp only [Cal.orz, Cal.why, if_true, Bool.false_eq_true, if_false]
  have cA_b := A5.hb
  have cA_f := A5.fz
  have cA_0 := A5.k0
  have cA_1 := A5.k1
  have cA_2 := A5.k2
  have cC_b := C5.hb
  have cC_f := C5.fz
  have cC_0 := C5.k0
  have cC_1 := C5.k1
  have cC_2 := C5.k2
  have cQ_b := Q5.hb
  have cQ_f := Q5.fz
  have cQ_0 := Q5.k0
  have cQ_1 := Q5.k1
  have cQ_2 := Q5.k2
  go_wp2_with fail
  clear cA_b cA_f cA_0 cA_1 cA_2 cC_b cC_f cC_0 cC_1 cC_2 cQ_b cQ_f cQ_0 cQ_1 cQ_2
  refine (radd_any ay am ad (Mo.n0 ay am bY bm) _).mono ?_; rintro e w6 ⟨rfl, b6⟩
  have d6 : Below w5.heap.size w5 w6 := below_step (by repeat (first | exact Below.refl _ _ | refine below_drewN ?_ _ | refine Below.drew ?_ | refine Below.setCell ?_ (by simp) _ | refine Below.alloc ?_ (by simp) _)) b6
  have B6 := Lib.hid (below_step B5.out d6)
  have A6 := A5.keep d6
  have C6 := C5.keep d6
  have Q6 := Q5.keep d6
  clear A5 C5 Q5 b6 d6 B5
  rw [show Mo.mok ay am ad (Mo.n0 ay am bY bm) = Mo.mok ay am ad (Mo.bn ay am ad bY bm bd + 1) by rw [E2.out]]
  rw [H2.out]; simp only [Cal.orz, Cal.why, if_true, Bool.false_eq_true, if_false]
  have cA_b := A6.hb
  have cA_f := A6.fz
  have cA_0 := A6.k0
  have cA_1 := A6.k1
  have cA_2 := A6.k2
  have cC_b := C6.hb
  have cC_f := C6.fz
  have cC_0 := C6.k0
  have cC_1 := C6.k1
  have cC_2 := C6.k2
  have cQ_b := Q6.hb
  have cQ_f := Q6.fz
  have cQ_0 := Q6.k0
  have cQ_1 := Q6.k1
  have cQ_2 := Q6.k2
  go_wp2_with fail
  clear cA_b cA_f cA_0 cA_1 cA_2 cC_b cC_f cC_0 cC_1 cC_2 cQ_b cQ_f cQ_0 cQ_1 cQ_2
  go_ret2
  rw [E.out]
  refine ⟨rfl, ?_⟩
  exact (by have hz := B6.out.size; repeat (first | exact B6.out | refine below_drewN ?_ _ | refine Below.drew ?_ | refine Below.setCell ?_ (by first | omega | (simp; done) | (simp; omega)) _ | refine Below.alloc ?_ (by first | omega | (simp; done) | (simp; omega)) _))
set_option maxHeartbeats 2000000 in
theorem rbet_yn_true (ay am ad bY bm bd : Int) (w : World) (ha : rightB ay am ad = true) (hb : rightB bY bm bd = true) (hl : Mo.late ad bY bm bd = true) (h1 : Mo.mok ay am ad (Mo.bn ay am ad bY bm bd) = true) (h2 : Mo.mok ay am ad (Mo.bn ay am ad bY bm bd + 1) = false) :
    Calls Try.prog 31 #[.agg #[.int .i64 ay, .int .i64 am, .int .i64 ad], .agg #[.int .i64 bY, .int .i64 bm, .int .i64 bd]] w fun e w' => e = .returned (.tuple #[.int .i64 0, .int .i64 1]) ∧ Below w.heap.size w w' := by
  have M := Lib.hid (Mo.at_b ha hb)
  have a := right_true.1 ha; have b := right_true.1 hb
  obtain ⟨am1, am2⟩ := Cal.month_of a
  obtain ⟨bm1, bm2⟩ := Cal.month_of b
  have ay1 := a.y0; have ay2 := a.y1; have by1 := b.y0; have by2 := b.y1
  have n1 : -2000000 ≤ Mo.n0 ay am bY bm := by unfold Mo.n0; omega
  have n2 : Mo.n0 ay am bY bm ≤ 2000000 := by unfold Mo.n0; omega
  have NN := Lib.hid (show (bY - ay) * 12 + (bm - am) = Mo.n0 ay am bY bm by unfold Mo.n0; omega)
  have HA := Lib.hid ha; have HB := Lib.hid hb
  have LC := Lib.hid ((Mo.late_cmp ad bY bm bd).trans hl)
  have E := Lib.hid (show Mo.bn ay am ad bY bm bd = Mo.n0 ay am bY bm - 1 by unfold Mo.bn; rw [hl]; rfl)
  have E2 := Lib.hid (show Mo.bn ay am ad bY bm bd + 1 = Mo.n0 ay am bY bm by unfold Mo.bn; rw [hl]; simp)
  have H1 := Lib.hid h1
  have H2 := Lib.hid h2; clear h2
  clear a b ha hb h1 hl
  go_enter Try.func31, Try.ntmps31
  go_wp2_with fail
  refine (rright_any ay am ad _).mono ?_; rintro e w1 ⟨rfl, b1⟩
  have d1 : Below w.heap.size w w1 := below_step (by repeat (first | exact Below.refl _ _ | refine below_drewN ?_ _ | refine Below.drew ?_ | refine Below.setCell ?_ (by simp) _ | refine Below.alloc ?_ (by simp) _)) b1
  have B1 := Lib.hid d1
  have A1 : Bk3 w1 (w.heap.size) (.int .i64 ay) (.int .i64 am) (.int .i64 ad) := Bk3.of b1 (by simp <;> omega) (by intro j; simp [go_sem]) (by simp [go_sem]) (by simp [go_sem]) (by simp [go_sem])
  have C1 : Bk3 w1 (w.heap.size + 1) (.int .i64 bY) (.int .i64 bm) (.int .i64 bd) := Bk3.of b1 (by simp <;> omega) (by intro j; simp [go_sem]) (by simp [go_sem]) (by simp [go_sem]) (by simp [go_sem])
  clear b1 d1
  rw [HA.out]
  have cA_b := A1.hb
  have cA_f := A1.fz
  have cA_0 := A1.k0
  have cA_1 := A1.k1
  have cA_2 := A1.k2
  have cC_b := C1.hb
  have cC_f := C1.fz
  have cC_0 := C1.k0
  have cC_1 := C1.k1
  have cC_2 := C1.k2
  go_wp2_with fail
  clear cA_b cA_f cA_0 cA_1 cA_2 cC_b cC_f cC_0 cC_1 cC_2
  refine (rright_any bY bm bd _).mono ?_; rintro e w2 ⟨rfl, b2⟩
  have d2 : Below w1.heap.size w1 w2 := below_step (by repeat (first | exact Below.refl _ _ | refine below_drewN ?_ _ | refine Below.drew ?_ | refine Below.setCell ?_ (by simp) _ | refine Below.alloc ?_ (by simp) _)) b2
  have B2 := Lib.hid (below_step B1.out d2)
  have A2 := A1.keep d2
  have C2 := C1.keep d2
  clear A1 C1 b2 d2 B1
  rw [HB.out]
  have cA_b := A2.hb
  have cA_f := A2.fz
  have cA_0 := A2.k0
  have cA_1 := A2.k1
  have cA_2 := A2.k2
  have cC_b := C2.hb
  have cC_f := C2.fz
  have cC_0 := C2.k0
  have cC_1 := C2.k1
  have cC_2 := C2.k2
  go_wp2_with fail
  clear cA_b cA_f cA_0 cA_1 cA_2 cC_b cC_f cC_0 cC_1 cC_2
  rw [NN.out]
  refine (radd_any ay am ad (Mo.n0 ay am bY bm) _).mono ?_; rintro e w3 ⟨rfl, b3⟩
  have d3 : Below w2.heap.size w2 w3 := below_step (by repeat (first | exact Below.refl _ _ | refine below_drewN ?_ _ | refine Below.drew ?_ | refine Below.setCell ?_ (by simp) _ | refine Below.alloc ?_ (by simp) _)) b3
  have B3 := Lib.hid (below_step B2.out d3)
  have A3 := A2.keep d3
  have C3 := C2.keep d3
  clear A2 C2 b3 d3 B2
  rw [M.out.1, M.out.2.1, M.out.2.2.1, M.out.2.2.2]
  simp only [Cal.orz, Cal.why, if_true]
  have cA_b := A3.hb
  have cA_f := A3.fz
  have cA_0 := A3.k0
  have cA_1 := A3.k1
  have cA_2 := A3.k2
  have cC_b := C3.hb
  have cC_f := C3.fz
  have cC_0 := C3.k0
  have cC_1 := C3.k1
  have cC_2 := C3.k2
  go_wp2_with fail
  clear cA_b cA_f cA_0 cA_1 cA_2 cC_b cC_f cC_0 cC_1 cC_2
  refine (rcompare _ _ _ _ _ _ _).mono ?_; rintro e w4 ⟨rfl, b4⟩
  have d4 : Below w3.heap.size w3 w4 := below_step (by repeat (first | exact Below.refl _ _ | refine below_drewN ?_ _ | refine Below.drew ?_ | refine Below.setCell ?_ (by simp) _ | refine Below.alloc ?_ (by simp) _)) b4
  have B4 := Lib.hid (below_step B3.out d4)
  have A4 := A3.keep d4
  have C4 := C3.keep d4
  have aQ := B3.out.size
  have nQA := Nat.ne_of_lt A3.hb
  have oQA := Nat.ne_of_gt A3.hb
  have nQC := Nat.ne_of_lt C3.hb
  have oQC := Nat.ne_of_gt C3.hb
  have Q4 : Bk3 w4 (w3.heap.size) (.int .i64 bY) (.int .i64 bm) (.int .i64 (min ad (Cal.len bY bm))) := Bk3.of b4 (by simp <;> omega) (by intro j; simp [go_sem]) (by simp [go_sem]) (by simp [go_sem]) (by simp [go_sem])
  clear A3 C3 b4 d4 B3
  have lc := LC.out
  have cA_b := A4.hb
  have cA_f := A4.fz
  have cA_0 := A4.k0
  have cA_1 := A4.k1
  have cA_2 := A4.k2
  have cC_b := C4.hb
  have cC_f := C4.fz
  have cC_0 := C4.k0
  have cC_1 := C4.k1
  have cC_2 := C4.k2
  have cQ_b := Q4.hb
  have cQ_f := Q4.fz
  have cQ_0 := Q4.k0
  have cQ_1 := Q4.k1
  have cQ_2 := Q4.k2
  go_wp2_with fail
  clear cA_b cA_f cA_0 cA_1 cA_2 cC_b cC_f cC_0 cC_1 cC_2 cQ_b cQ_f cQ_0 cQ_1 cQ_2
  refine (radd_any ay am ad (Mo.n0 ay am bY bm - 1) _).mono ?_; rintro e w5 ⟨rfl, b5⟩
  have d5 : Below w4.heap.size w4 w5 := below_step (by repeat (first | exact Below.refl _ _ | refine below_drewN ?_ _ | refine Below.drew ?_ | refine Below.setCell ?_ (by simp) _ | refine Below.alloc ?_ (by simp) _)) b5
  have B5 := Lib.hid (below_step B4.out d5)
  have A5 := A4.keep d5
  have C5 := C4.keep d5
  have Q5 := Q4.keep d5
  clear A4 C4 Q4 b5 d5 B4
  clear lc
  rw [show Mo.mok ay am ad (Mo.n0 ay am bY bm - 1) = Mo.mok ay am ad (Mo.bn ay am ad bY bm bd) by rw [E.out], H1.out]
  simp only [Cal.orz, Cal.why, if_true, Bool.false_eq_true, if_false]
  have cA_b := A5.hb
  have cA_f := A5.fz
  have cA_0 := A5.k0
  have cA_1 := A5.k1
  have cA_2 := A5.k2
  have cC_b := C5.hb
  have cC_f := C5.fz
  have cC_0 := C5.k0
  have cC_1 := C5.k1
  have cC_2 := C5.k2
  have cQ_b := Q5.hb
  have cQ_f := Q5.fz
  have cQ_0 := Q5.k0
  have cQ_1 := Q5.k1
  have cQ_2 := Q5.k2
  go_wp2_with fail
  clear cA_b cA_f cA_0 cA_1 cA_2 cC_b cC_f cC_0 cC_1 cC_2 cQ_b cQ_f cQ_0 cQ_1 cQ_2
  refine (radd_any ay am ad (Mo.n0 ay am bY bm) _).mono ?_; rintro e w6 ⟨rfl, b6⟩
  have d6 : Below w5.heap.size w5 w6 := below_step (by repeat (first | exact Below.refl _ _ | refine below_drewN ?_ _ | refine Below.drew ?_ | refine Below.setCell ?_ (by simp) _ | refine Below.alloc ?_ (by simp) _)) b6
  have B6 := Lib.hid (below_step B5.out d6)
  have A6 := A5.keep d6
  have C6 := C5.keep d6
  have Q6 := Q5.keep d6
  clear A5 C5 Q5 b6 d6 B5
  rw [show Mo.mok ay am ad (Mo.n0 ay am bY bm) = Mo.mok ay am ad (Mo.bn ay am ad bY bm bd + 1) by rw [E2.out]]
  rw [H2.out]; simp only [Cal.orz, Cal.why, if_true, Bool.false_eq_true, if_false]
  have cA_b := A6.hb
  have cA_f := A6.fz
  have cA_0 := A6.k0
  have cA_1 := A6.k1
  have cA_2 := A6.k2
  have cC_b := C6.hb
  have cC_f := C6.fz
  have cC_0 := C6.k0
  have cC_1 := C6.k1
  have cC_2 := C6.k2
  have cQ_b := Q6.hb
  have cQ_f := Q6.fz
  have cQ_0 := Q6.k0
  have cQ_1 := Q6.k1
  have cQ_2 := Q6.k2
  go_wp2_with fail
  clear cA_b cA_f cA_0 cA_1 cA_2 cC_b cC_f cC_0 cC_1 cC_2 cQ_b cQ_f cQ_0 cQ_1 cQ_2
  go_ret2
  skip
  refine ⟨rfl, ?_⟩
  exact (by have hz := B6.out.size; repeat (first | exact B6.out | refine below_drewN ?_ _ | refine Below.drew ?_ | refine Below.setCell ?_ (by first | omega | (simp; done) | (simp; omega)) _ | refine Below.alloc ?_ (by first | omega | (simp; done) | (simp; omega)) _))
set_option maxHeartbeats 2000000 in
theorem rbet_n_true (ay am ad bY bm bd : Int) (w : World) (ha : rightB ay am ad = true) (hb : rightB bY bm bd = true) (hl : Mo.late ad bY bm bd = true) (h1 : Mo.mok ay am ad (Mo.bn ay am ad bY bm bd) = false) :
    Calls Try.prog 31 #[.agg #[.int .i64 ay, .int .i64 am, .int .i64 ad], .agg #[.int .i64 bY, .int .i64 bm, .int .i64 bd]] w fun e w' => e = .returned (.tuple #[.int .i64 0, .int .i64 1]) ∧ Below w.heap.size w w' := by
  have M := Lib.hid (Mo.at_b ha hb)
  have a := right_true.1 ha; have b := right_true.1 hb
  obtain ⟨am1, am2⟩ := Cal.month_of a
  obtain ⟨bm1, bm2⟩ := Cal.month_of b
  have ay1 := a.y0; have ay2 := a.y1; have by1 := b.y0; have by2 := b.y1
  have n1 : -2000000 ≤ Mo.n0 ay am bY bm := by unfold Mo.n0; omega
  have n2 : Mo.n0 ay am bY bm ≤ 2000000 := by unfold Mo.n0; omega
  have NN := Lib.hid (show (bY - ay) * 12 + (bm - am) = Mo.n0 ay am bY bm by unfold Mo.n0; omega)
  have HA := Lib.hid ha; have HB := Lib.hid hb
  have LC := Lib.hid ((Mo.late_cmp ad bY bm bd).trans hl)
  have E := Lib.hid (show Mo.bn ay am ad bY bm bd = Mo.n0 ay am bY bm - 1 by unfold Mo.bn; rw [hl]; rfl)
  have E2 := Lib.hid (show Mo.bn ay am ad bY bm bd + 1 = Mo.n0 ay am bY bm by unfold Mo.bn; rw [hl]; simp)
  have H1 := Lib.hid h1
  skip
  clear a b ha hb h1 hl
  go_enter Try.func31, Try.ntmps31
  go_wp2_with fail
  refine (rright_any ay am ad _).mono ?_; rintro e w1 ⟨rfl, b1⟩
  have d1 : Below w.heap.size w w1 := below_step (by repeat (first | exact Below.refl _ _ | refine below_drewN ?_ _ | refine Below.drew ?_ | refine Below.setCell ?_ (by simp) _ | refine Below.alloc ?_ (by simp) _)) b1
  have B1 := Lib.hid d1
  have A1 : Bk3 w1 (w.heap.size) (.int .i64 ay) (.int .i64 am) (.int .i64 ad) := Bk3.of b1 (by simp <;> omega) (by intro j; simp [go_sem]) (by simp [go_sem]) (by simp [go_sem]) (by simp [go_sem])
  have C1 : Bk3 w1 (w.heap.size + 1) (.int .i64 bY) (.int .i64 bm) (.int .i64 bd) := Bk3.of b1 (by simp <;> omega) (by intro j; simp [go_sem]) (by simp [go_sem]) (by simp [go_sem]) (by simp [go_sem])
  clear b1 d1
  rw [HA.out]
  have cA_b := A1.hb
  have cA_f := A1.fz
  have cA_0 := A1.k0
  have cA_1 := A1.k1
  have cA_2 := A1.k2
  have cC_b := C1.hb
  have cC_f := C1.fz
  have cC_0 := C1.k0
  have cC_1 := C1.k1
  have cC_2 := C1.k2
  go_wp2_with fail
  clear cA_b cA_f cA_0 cA_1 cA_2 cC_b cC_f cC_0 cC_1 cC_2
  refine (rright_any bY bm bd _).mono ?_; rintro e w2 ⟨rfl, b2⟩
  have d2 : Below w1.heap.size w1 w2 := below_step (by repeat (first | exact Below.refl _ _ | refine below_drewN ?_ _ | refine Below.drew ?_ | refine Below.setCell ?_ (by simp) _ | refine Below.alloc ?_ (by simp) _)) b2
  have B2 := Lib.hid (below_step B1.out d2)
  have A2 := A1.keep d2
  have C2 := C1.keep d2
  clear A1 C1 b2 d2 B1
  rw [HB.out]
  have cA_b := A2.hb
  have cA_f := A2.fz
  have cA_0 := A2.k0
  have cA_1 := A2.k1
  have cA_2 := A2.k2
  have cC_b := C2.hb
  have cC_f := C2.fz
  have cC_0 := C2.k0
  have cC_1 := C2.k1
  have cC_2 := C2.k2
  go_wp2_with fail
  clear cA_b cA_f cA_0 cA_1 cA_2 cC_b cC_f cC_0 cC_1 cC_2
  rw [NN.out]
  refine (radd_any ay am ad (Mo.n0 ay am bY bm) _).mono ?_; rintro e w3 ⟨rfl, b3⟩
  have d3 : Below w2.heap.size w2 w3 := below_step (by repeat (first | exact Below.refl _ _ | refine below_drewN ?_ _ | refine Below.drew ?_ | refine Below.setCell ?_ (by simp) _ | refine Below.alloc ?_ (by simp) _)) b3
  have B3 := Lib.hid (below_step B2.out d3)
  have A3 := A2.keep d3
  have C3 := C2.keep d3
  clear A2 C2 b3 d3 B2
  rw [M.out.1, M.out.2.1, M.out.2.2.1, M.out.2.2.2]
  simp only [Cal.orz, Cal.why, if_true]
  have cA_b := A3.hb
  have cA_f := A3.fz
  have cA_0 := A3.k0
  have cA_1 := A3.k1
  have cA_2 := A3.k2
  have cC_b := C3.hb
  have cC_f := C3.fz
  have cC_0 := C3.k0
  have cC_1 := C3.k1
  have cC_2 := C3.k2
  go_wp2_with fail
  clear cA_b cA_f cA_0 cA_1 cA_2 cC_b cC_f cC_0 cC_1 cC_2
  refine (rcompare _ _ _ _ _ _ _).mono ?_; rintro e w4 ⟨rfl, b4⟩
  have d4 : Below w3.heap.size w3 w4 := below_step (by repeat (first | exact Below.refl _ _ | refine below_drewN ?_ _ | refine Below.drew ?_ | refine Below.setCell ?_ (by simp) _ | refine Below.alloc ?_ (by simp) _)) b4
  have B4 := Lib.hid (below_step B3.out d4)
  have A4 := A3.keep d4
  have C4 := C3.keep d4
  have aQ := B3.out.size
  have nQA := Nat.ne_of_lt A3.hb
  have oQA := Nat.ne_of_gt A3.hb
  have nQC := Nat.ne_of_lt C3.hb
  have oQC := Nat.ne_of_gt C3.hb
  have Q4 : Bk3 w4 (w3.heap.size) (.int .i64 bY) (.int .i64 bm) (.int .i64 (min ad (Cal.len bY bm))) := Bk3.of b4 (by simp <;> omega) (by intro j; simp [go_sem]) (by simp [go_sem]) (by simp [go_sem]) (by simp [go_sem])
  clear A3 C3 b4 d4 B3
  have lc := LC.out
  have cA_b := A4.hb
  have cA_f := A4.fz
  have cA_0 := A4.k0
  have cA_1 := A4.k1
  have cA_2 := A4.k2
  have cC_b := C4.hb
  have cC_f := C4.fz
  have cC_0 := C4.k0
  have cC_1 := C4.k1
  have cC_2 := C4.k2
  have cQ_b := Q4.hb
  have cQ_f := Q4.fz
  have cQ_0 := Q4.k0
  have cQ_1 := Q4.k1
  have cQ_2 := Q4.k2
  go_wp2_with fail
  clear cA_b cA_f cA_0 cA_1 cA_2 cC_b cC_f cC_0 cC_1 cC_2 cQ_b cQ_f cQ_0 cQ_1 cQ_2
  refine (radd_any ay am ad (Mo.n0 ay am bY bm - 1) _).mono ?_; rintro e w5 ⟨rfl, b5⟩
  have d5 : Below w4.heap.size w4 w5 := below_step (by repeat (first | exact Below.refl _ _ | refine below_drewN ?_ _ | refine Below.drew ?_ | refine Below.setCell ?_ (by simp) _ | refine Below.alloc ?_ (by simp) _)) b5
  have B5 := Lib.hid (below_step B4.out d5)
  have A5 := A4.keep d5
  have C5 := C4.keep d5
  have Q5 := Q4.keep d5
  clear A4 C4 Q4 b5 d5 B4
  clear lc
  rw [show Mo.mok ay am ad (Mo.n0 ay am bY bm - 1) = Mo.mok ay am ad (Mo.bn ay am ad bY bm bd) by rw [E.out], H1.out]
  simp only [Cal.orz, Cal.why, if_true, Bool.false_eq_true, if_false]
  have cA_b := A5.hb
  have cA_f := A5.fz
  have cA_0 := A5.k0
  have cA_1 := A5.k1
  have cA_2 := A5.k2
  have cC_b := C5.hb
  have cC_f := C5.fz
  have cC_0 := C5.k0
  have cC_1 := C5.k1
  have cC_2 := C5.k2
  have cQ_b := Q5.hb
  have cQ_f := Q5.fz
  have cQ_0 := Q5.k0
  have cQ_1 := Q5.k1
  have cQ_2 := Q5.k2
  go_wp2_with fail
  clear cA_b cA_f cA_0 cA_1 cA_2 cC_b cC_f cC_0 cC_1 cC_2 cQ_b cQ_f cQ_0 cQ_1 cQ_2
  refine (radd_any ay am ad (Mo.n0 ay am bY bm) _).mono ?_; rintro e w6 ⟨rfl, b6⟩
  have d6 : Below w5.heap.size w5 w6 := below_step (by repeat (first | exact Below.refl _ _ | refine below_drewN ?_ _ | refine Below.drew ?_ | refine Below.setCell ?_ (by simp) _ | refine Below.alloc ?_ (by simp) _)) b6
  have B6 := Lib.hid (below_step B5.out d6)
  have A6 := A5.keep d6
  have C6 := C5.keep d6
  have Q6 := Q5.keep d6
  clear A5 C5 Q5 b6 d6 B5
  rw [show Mo.mok ay am ad (Mo.n0 ay am bY bm) = Mo.mok ay am ad (Mo.bn ay am ad bY bm bd + 1) by rw [E2.out]]
  skip
  have cA_b := A6.hb
  have cA_f := A6.fz
  have cA_0 := A6.k0
  have cA_1 := A6.k1
  have cA_2 := A6.k2
  have cC_b := C6.hb
  have cC_f := C6.fz
  have cC_0 := C6.k0
  have cC_1 := C6.k1
  have cC_2 := C6.k2
  have cQ_b := Q6.hb
  have cQ_f := Q6.fz
  have cQ_0 := Q6.k0
  have cQ_1 := Q6.k1
  have cQ_2 := Q6.k2
  go_wp2_with fail
  clear cA_b cA_f cA_0 cA_1 cA_2 cC_b cC_f cC_0 cC_1 cC_2 cQ_b cQ_f cQ_0 cQ_1 cQ_2
  go_ret2
  skip
  refine ⟨rfl, ?_⟩
  exact (by have hz := B6.out.size; repeat (first | exact B6.out | refine below_drewN ?_ _ | refine Below.drew ?_ | refine Below.setCell ?_ (by first | omega | (simp; done) | (simp; omega)) _ | refine Below.alloc ?_ (by first | omega | (simp; done) | (simp; omega)) _))
set_option maxHeartbeats 2000000 in
theorem rbet_yy_false (ay am ad bY bm bd : Int) (w : World) (ha : rightB ay am ad = true) (hb : rightB bY bm bd = true) (hl : Mo.late ad bY bm bd = false) (h1 : Mo.mok ay am ad (Mo.bn ay am ad bY bm bd) = true) (h2 : Mo.mok ay am ad (Mo.bn ay am ad bY bm bd + 1) = true) :
    Calls Try.prog 31 #[.agg #[.int .i64 ay, .int .i64 am, .int .i64 ad], .agg #[.int .i64 bY, .int .i64 bm, .int .i64 bd]] w fun e w' => e = .returned (.tuple #[.int .i64 (Mo.bn ay am ad bY bm bd), .int .i64 0]) ∧ Below w.heap.size w w' := by
  have M := Lib.hid (Mo.at_b ha hb)
  have a := right_true.1 ha; have b := right_true.1 hb
  obtain ⟨am1, am2⟩ := Cal.month_of a
  obtain ⟨bm1, bm2⟩ := Cal.month_of b
  have ay1 := a.y0; have ay2 := a.y1; have by1 := b.y0; have by2 := b.y1
  have n1 : -2000000 ≤ Mo.n0 ay am bY bm := by unfold Mo.n0; omega
  have n2 : Mo.n0 ay am bY bm ≤ 2000000 := by unfold Mo.n0; omega
  have NN := Lib.hid (show (bY - ay) * 12 + (bm - am) = Mo.n0 ay am bY bm by unfold Mo.n0; omega)
  have HA := Lib.hid ha; have HB := Lib.hid hb
  have LC := Lib.hid ((Mo.late_cmp ad bY bm bd).trans hl)
  have E := Lib.hid (show Mo.bn ay am ad bY bm bd = Mo.n0 ay am bY bm by unfold Mo.bn; rw [hl]; rfl)
  have E2 := Lib.hid (show Mo.bn ay am ad bY bm bd + 1 = Mo.n0 ay am bY bm + 1 by unfold Mo.bn; rw [hl]; simp)
  have H1 := Lib.hid h1
  have H2 := Lib.hid h2; clear h2
  clear a b ha hb h1 hl
  go_enter Try.func31, Try.ntmps31
  go_wp2_with fail
  refine (rright_any ay am ad _).mono ?_; rintro e w1 ⟨rfl, b1⟩
  have d1 : Below w.heap.size w w1 := below_step (by repeat (first | exact Below.refl _ _ | refine below_drewN ?_ _ | refine Below.drew ?_ | refine Below.setCell ?_ (by simp) _ | refine Below.alloc ?_ (by simp) _)) b1
  have B1 := Lib.hid d1
  have A1 : Bk3 w1 (w.heap.size) (.int .i64 ay) (.int .i64 am) (.int .i64 ad) := Bk3.of b1 (by simp <;> omega) (by intro j; simp [go_sem]) (by simp [go_sem]) (by simp [go_sem]) (by simp [go_sem])
  have C1 : Bk3 w1 (w.heap.size + 1) (.int .i64 bY) (.int .i64 bm) (.int .i64 bd) := Bk3.of b1 (by simp <;> omega) (by intro j; simp [go_sem]) (by simp [go_sem]) (by simp [go_sem]) (by simp [go_sem])
  clear b1 d1
  rw [HA.out]
  have cA_b := A1.hb
  have cA_f := A1.fz
  have cA_0 := A1.k0
  have cA_1 := A1.k1
  have cA_2 := A1.k2
  have cC_b := C1.hb
  have cC_f := C1.fz
  have cC_0 := C1.k0
  have cC_1 := C1.k1
  have cC_2 := C1.k2
  go_wp2_with fail
  clear cA_b cA_f cA_0 cA_1 cA_2 cC_b cC_f cC_0 cC_1 cC_2
  refine (rright_any bY bm bd _).mono ?_; rintro e w2 ⟨rfl, b2⟩
  have d2 : Below w1.heap.size w1 w2 := below_step (by repeat (first | exact Below.refl _ _ | refine below_drewN ?_ _ | refine Below.drew ?_ | refine Below.setCell ?_ (by simp) _ | refine Below.alloc ?_ (by simp) _)) b2
  have B2 := Lib.hid (below_step B1.out d2)
  have A2 := A1.keep d2
  have C2 := C1.keep d2
  clear A1 C1 b2 d2 B1
  rw [HB.out]
  have cA_b := A2.hb
  have cA_f := A2.fz
  have cA_0 := A2.k0
  have cA_1 := A2.k1
  have cA_2 := A2.k2
  have cC_b := C2.hb
  have cC_f := C2.fz
  have cC_0 := C2.k0
  have cC_1 := C2.k1
  have cC_2 := C2.k2
  go_wp2_with fail
  clear cA_b cA_f cA_0 cA_1 cA_2 cC_b cC_f cC_0 cC_1 cC_2
  rw [NN.out]
  refine (radd_any ay am ad (Mo.n0 ay am bY bm) _).mono ?_; rintro e w3 ⟨rfl, b3⟩
  have d3 : Below w2.heap.size w2 w3 := below_step (by repeat (first | exact Below.refl _ _ | refine below_drewN ?_ _ | refine Below.drew ?_ | refine Below.setCell ?_ (by simp) _ | refine Below.alloc ?_ (by simp) _)) b3
  have B3 := Lib.hid (below_step B2.out d3)
  have A3 := A2.keep d3
  have C3 := C2.keep d3
  clear A2 C2 b3 d3 B2
  rw [M.out.1, M.out.2.1, M.out.2.2.1, M.out.2.2.2]
  simp only [Cal.orz, Cal.why, if_true]
  have cA_b := A3.hb
  have cA_f := A3.fz
  have cA_0 := A3.k0
  have cA_1 := A3.k1
  have cA_2 := A3.k2
  have cC_b := C3.hb
  have cC_f := C3.fz
  have cC_0 := C3.k0
  have cC_1 := C3.k1
  have cC_2 := C3.k2
  go_wp2_with fail
  clear cA_b cA_f cA_0 cA_1 cA_2 cC_b cC_f cC_0 cC_1 cC_2
  refine (rcompare _ _ _ _ _ _ _).mono ?_; rintro e w4 ⟨rfl, b4⟩
  have d4 : Below w3.heap.size w3 w4 := below_step (by repeat (first | exact Below.refl _ _ | refine below_drewN ?_ _ | refine Below.drew ?_ | refine Below.setCell ?_ (by simp) _ | refine Below.alloc ?_ (by simp) _)) b4
  have B4 := Lib.hid (below_step B3.out d4)
  have A4 := A3.keep d4
  have C4 := C3.keep d4
  have aQ := B3.out.size
  have nQA := Nat.ne_of_lt A3.hb
  have oQA := Nat.ne_of_gt A3.hb
  have nQC := Nat.ne_of_lt C3.hb
  have oQC := Nat.ne_of_gt C3.hb
  have Q4 : Bk3 w4 (w3.heap.size) (.int .i64 bY) (.int .i64 bm) (.int .i64 (min ad (Cal.len bY bm))) := Bk3.of b4 (by simp <;> omega) (by intro j; simp [go_sem]) (by simp [go_sem]) (by simp [go_sem]) (by simp [go_sem])
  clear A3 C3 b4 d4 B3
  have lc := LC.out
  have cA_b := A4.hb
  have cA_f := A4.fz
  have cA_0 := A4.k0
  have cA_1 := A4.k1
  have cA_2 := A4.k2
  have cC_b := C4.hb
  have cC_f := C4.fz
  have cC_0 := C4.k0
  have cC_1 := C4.k1
  have cC_2 := C4.k2
  have cQ_b := Q4.hb
  have cQ_f := Q4.fz
  have cQ_0 := Q4.k0
  have cQ_1 := Q4.k1
  have cQ_2 := Q4.k2
  go_wp2_with fail
  clear cA_b cA_f cA_0 cA_1 cA_2 cC_b cC_f cC_0 cC_1 cC_2 cQ_b cQ_f cQ_0 cQ_1 cQ_2
  refine (radd_any ay am ad (Mo.n0 ay am bY bm) _).mono ?_; rintro e w5 ⟨rfl, b5⟩
  have d5 : Below w4.heap.size w4 w5 := below_step (by repeat (first | exact Below.refl _ _ | refine below_drewN ?_ _ | refine Below.drew ?_ | refine Below.setCell ?_ (by simp) _ | refine Below.alloc ?_ (by simp) _)) b5
  have B5 := Lib.hid (below_step B4.out d5)
  have A5 := A4.keep d5
  have C5 := C4.keep d5
  have Q5 := Q4.keep d5
  clear A4 C4 Q4 b5 d5 B4
  clear lc
  rw [show Mo.mok ay am ad (Mo.n0 ay am bY bm) = Mo.mok ay am ad (Mo.bn ay am ad bY bm bd) by rw [E.out], H1.out]
  simp only [Cal.orz, Cal.why, if_true, Bool.false_eq_true, if_false]
  have cA_b := A5.hb
  have cA_f := A5.fz
  have cA_0 := A5.k0
  have cA_1 := A5.k1
  have cA_2 := A5.k2
  have cC_b := C5.hb
  have cC_f := C5.fz
  have cC_0 := C5.k0
  have cC_1 := C5.k1
  have cC_2 := C5.k2
  have cQ_b := Q5.hb
  have cQ_f := Q5.fz
  have cQ_0 := Q5.k0
  have cQ_1 := Q5.k1
  have cQ_2 := Q5.k2
  go_wp2_with fail
  clear cA_b cA_f cA_0 cA_1 cA_2 cC_b cC_f cC_0 cC_1 cC_2 cQ_b cQ_f cQ_0 cQ_1 cQ_2
  refine (radd_any ay am ad (Mo.n0 ay am bY bm + 1) _).mono ?_; rintro e w6 ⟨rfl, b6⟩
  have d6 : Below w5.heap.size w5 w6 := below_step (by repeat (first | exact Below.refl _ _ | refine below_drewN ?_ _ | refine Below.drew ?_ | refine Below.setCell ?_ (by simp) _ | refine Below.alloc ?_ (by simp) _)) b6
  have B6 := Lib.hid (below_step B5.out d6)
  have A6 := A5.keep d6
  have C6 := C5.keep d6
  have Q6 := Q5.keep d6
  clear A5 C5 Q5 b6 d6 B5
  rw [show Mo.mok ay am ad (Mo.n0 ay am bY bm + 1) = Mo.mok ay am ad (Mo.bn ay am ad bY bm bd + 1) by rw [E2.out]]
  rw [H2.out]; simp only [Cal.orz, Cal.why, if_true, Bool.false_eq_true, if_false]
  have cA_b := A6.hb
  have cA_f := A6.fz
  have cA_0 := A6.k0
  have cA_1 := A6.k1
  have cA_2 := A6.k2
  have cC_b := C6.hb
  have cC_f := C6.fz
  have cC_0 := C6.k0
  have cC_1 := C6.k1
  have cC_2 := C6.k2
  have cQ_b := Q6.hb
  have cQ_f := Q6.fz
  have cQ_0 := Q6.k0
  have cQ_1 := Q6.k1
  have cQ_2 := Q6.k2
  go_wp2_with fail
  clear cA_b cA_f cA_0 cA_1 cA_2 cC_b cC_f cC_0 cC_1 cC_2 cQ_b cQ_f cQ_0 cQ_1 cQ_2
  go_ret2
  rw [E.out]
  refine ⟨rfl, ?_⟩
  exact (by have hz := B6.out.size; repeat (first | exact B6.out | refine below_drewN ?_ _ | refine Below.drew ?_ | refine Below.setCell ?_ (by first | omega | (simp; done) | (simp; omega)) _ | refine Below.alloc ?_ (by first | omega | (simp; done) | (simp; omega)) _))
set_option maxHeartbeats 2000000 in
theorem rbet_yn_false (ay am ad bY bm bd : Int) (w : World) (ha : rightB ay am ad = true) (hb : rightB bY bm bd = true) (hl : Mo.late ad bY bm bd = false) (h1 : Mo.mok ay am ad (Mo.bn ay am ad bY bm bd) = true) (h2 : Mo.mok ay am ad (Mo.bn ay am ad bY bm bd + 1) = false) :
    Calls Try.prog 31 #[.agg #[.int .i64 ay, .int .i64 am, .int .i64 ad], .agg #[.int .i64 bY, .int .i64 bm, .int .i64 bd]] w fun e w' => e = .returned (.tuple #[.int .i64 0, .int .i64 1]) ∧ Below w.heap.size w w' := by
  have M := Lib.hid (Mo.at_b ha hb)
  have a := right_true.1 ha; have b := right_true.1 hb
  obtain ⟨am1, am2⟩ := Cal.month_of a
  obtain ⟨bm1, bm2⟩ := Cal.month_of b
  have ay1 := a.y0; have ay2 := a.y1; have by1 := b.y0; have by2 := b.y1
  have n1 : -2000000 ≤ Mo.n0 ay am bY bm := by unfold Mo.n0; omega
  have n2 : Mo.n0 ay am bY bm ≤ 2000000 := by unfold Mo.n0; omega
  have NN := Lib.hid (show (bY - ay) * 12 + (bm - am) = Mo.n0 ay am bY bm by unfold Mo.n0; omega)
  have HA := Lib.hid ha; have HB := Lib.hid hb
  have LC := Lib.hid ((Mo.late_cmp ad bY bm bd).trans hl)
  have E := Lib.hid (show Mo.bn ay am ad bY bm bd = Mo.n0 ay am bY bm by unfold Mo.bn; rw [hl]; rfl)
  have E2 := Lib.hid (show Mo.bn ay am ad bY bm bd + 1 = Mo.n0 ay am bY bm + 1 by unfold Mo.bn; rw [hl]; simp)
  have H1 := Lib.hid h1
  have H2 := Lib.hid h2; clear h2
  clear a b ha hb h1 hl
  go_enter Try.func31, Try.ntmps31
  go_wp2_with fail
  refine (rright_any ay am ad _).mono ?_; rintro e w1 ⟨rfl, b1⟩
  have d1 : Below w.heap.size w w1 := below_step (by repeat (first | exact Below.refl _ _ | refine below_drewN ?_ _ | refine Below.drew ?_ | refine Below.setCell ?_ (by simp) _ | refine Below.alloc ?_ (by simp) _)) b1
  have B1 := Lib.hid d1
  have A1 : Bk3 w1 (w.heap.size) (.int .i64 ay) (.int .i64 am) (.int .i64 ad) := Bk3.of b1 (by simp <;> omega) (by intro j; simp [go_sem]) (by simp [go_sem]) (by simp [go_sem]) (by simp [go_sem])
  have C1 : Bk3 w1 (w.heap.size + 1) (.int .i64 bY) (.int .i64 bm) (.int .i64 bd) := Bk3.of b1 (by simp <;> omega) (by intro j; simp [go_sem]) (by simp [go_sem]) (by simp [go_sem]) (by simp [go_sem])
  clear b1 d1
  rw [HA.out]
  have cA_b := A1.hb
  have cA_f := A1.fz
  have cA_0 := A1.k0
  have cA_1 := A1.k1
  have cA_2 := A1.k2
  have cC_b := C1.hb
  have cC_f := C1.fz
  have cC_0 := C1.k0
  have cC_1 := C1.k1
  have cC_2 := C1.k2
  go_wp2_with fail
  clear cA_b cA_f cA_0 cA_1 cA_2 cC_b cC_f cC_0 cC_1 cC_2
  refine (rright_any bY bm bd _).mono ?_; rintro e w2 ⟨rfl, b2⟩
  have d2 : Below w1.heap.size w1 w2 := below_step (by repeat (first | exact Below.refl _ _ | refine below_drewN ?_ _ | refine Below.drew ?_ | refine Below.setCell ?_ (by simp) _ | refine Below.alloc ?_ (by simp) _)) b2
  have B2 := Lib.hid (below_step B1.out d2)
  have A2 := A1.keep d2
  have C2 := C1.keep d2
  clear A1 C1 b2 d2 B1
  rw [HB.out]
  have cA_b := A2.hb
  have cA_f := A2.fz
  have cA_0 := A2.k0
  have cA_1 := A2.k1
  have cA_2 := A2.k2
  have cC_b := C2.hb
  have cC_f := C2.fz
  have cC_0 := C2.k0
  have cC_1 := C2.k1
  have cC_2 := C2.k2
  go_wp2_with fail
  clear cA_b cA_f cA_0 cA_1 cA_2 cC_b cC_f cC_0 cC_1 cC_2
  rw [NN.out]
  refine (radd_any ay am ad (Mo.n0 ay am bY bm) _).mono ?_; rintro e w3 ⟨rfl, b3⟩
  have d3 : Below w2.heap.size w2 w3 := below_step (by repeat (first | exact Below.refl _ _ | refine below_drewN ?_ _ | refine Below.drew ?_ | refine Below.setCell ?_ (by simp) _ | refine Below.alloc ?_ (by simp) _)) b3
  have B3 := Lib.hid (below_step B2.out d3)
  have A3 := A2.keep d3
  have C3 := C2.keep d3
  clear A2 C2 b3 d3 B2
  rw [M.out.1, M.out.2.1, M.out.2.2.1, M.out.2.2.2]
  simp only [Cal.orz, Cal.why, if_true]
  have cA_b := A3.hb
  have cA_f := A3.fz
  have cA_0 := A3.k0
  have cA_1 := A3.k1
  have cA_2 := A3.k2
  have cC_b := C3.hb
  have cC_f := C3.fz
  have cC_0 := C3.k0
  have cC_1 := C3.k1
  have cC_2 := C3.k2
  go_wp2_with fail
  clear cA_b cA_f cA_0 cA_1 cA_2 cC_b cC_f cC_0 cC_1 cC_2
  refine (rcompare _ _ _ _ _ _ _).mono ?_; rintro e w4 ⟨rfl, b4⟩
  have d4 : Below w3.heap.size w3 w4 := below_step (by repeat (first | exact Below.refl _ _ | refine below_drewN ?_ _ | refine Below.drew ?_ | refine Below.setCell ?_ (by simp) _ | refine Below.alloc ?_ (by simp) _)) b4
  have B4 := Lib.hid (below_step B3.out d4)
  have A4 := A3.keep d4
  have C4 := C3.keep d4
  have aQ := B3.out.size
  have nQA := Nat.ne_of_lt A3.hb
  have oQA := Nat.ne_of_gt A3.hb
  have nQC := Nat.ne_of_lt C3.hb
  have oQC := Nat.ne_of_gt C3.hb
  have Q4 : Bk3 w4 (w3.heap.size) (.int .i64 bY) (.int .i64 bm) (.int .i64 (min ad (Cal.len bY bm))) := Bk3.of b4 (by simp <;> omega) (by intro j; simp [go_sem]) (by simp [go_sem]) (by simp [go_sem]) (by simp [go_sem])
  clear A3 C3 b4 d4 B3
  have lc := LC.out
  have cA_b := A4.hb
  have cA_f := A4.fz
  have cA_0 := A4.k0
  have cA_1 := A4.k1
  have cA_2 := A4.k2
  have cC_b := C4.hb
  have cC_f := C4.fz
  have cC_0 := C4.k0
  have cC_1 := C4.k1
  have cC_2 := C4.k2
  have cQ_b := Q4.hb
  have cQ_f := Q4.fz
  have cQ_0 := Q4.k0
  have cQ_1 := Q4.k1
  have cQ_2 := Q4.k2
  go_wp2_with fail
  clear cA_b cA_f cA_0 cA_1 cA_2 cC_b cC_f cC_0 cC_1 cC_2 cQ_b cQ_f cQ_0 cQ_1 cQ_2
  refine (radd_any ay am ad (Mo.n0 ay am bY bm) _).mono ?_; rintro e w5 ⟨rfl, b5⟩
  have d5 : Below w4.heap.size w4 w5 := below_step (by repeat (first | exact Below.refl _ _ | refine below_drewN ?_ _ | refine Below.drew ?_ | refine Below.setCell ?_ (by simp) _ | refine Below.alloc ?_ (by simp) _)) b5
  have B5 := Lib.hid (below_step B4.out d5)
  have A5 := A4.keep d5
  have C5 := C4.keep d5
  have Q5 := Q4.keep d5
  clear A4 C4 Q4 b5 d5 B4
  clear lc
  rw [show Mo.mok ay am ad (Mo.n0 ay am bY bm) = Mo.mok ay am ad (Mo.bn ay am ad bY bm bd) by rw [E.out], H1.out]
  simp only [Cal.orz, Cal.why, if_true, Bool.false_eq_true, if_false]
  have cA_b := A5.hb
  have cA_f := A5.fz
  have cA_0 := A5.k0
  have cA_1 := A5.k1
  have cA_2 := A5.k2
  have cC_b := C5.hb
  have cC_f := C5.fz
  have cC_0 := C5.k0
  have cC_1 := C5.k1
  have cC_2 := C5.k2
  have cQ_b := Q5.hb
  have cQ_f := Q5.fz
  have cQ_0 := Q5.k0
  have cQ_1 := Q5.k1
  have cQ_2 := Q5.k2
  go_wp2_with fail
  clear cA_b cA_f cA_0 cA_1 cA_2 cC_b cC_f cC_0 cC_1 cC_2 cQ_b cQ_f cQ_0 cQ_1 cQ_2
  refine (radd_any ay am ad (Mo.n0 ay am bY bm + 1) _).mono ?_; rintro e w6 ⟨rfl, b6⟩
  have d6 : Below w5.heap.size w5 w6 := below_step (by repeat (first | exact Below.refl _ _ | refine below_drewN ?_ _ | refine Below.drew ?_ | refine Below.setCell ?_ (by simp) _ | refine Below.alloc ?_ (by simp) _)) b6
  have B6 := Lib.hid (below_step B5.out d6)
  have A6 := A5.keep d6
  have C6 := C5.keep d6
  have Q6 := Q5.keep d6
  clear A5 C5 Q5 b6 d6 B5
  rw [show Mo.mok ay am ad (Mo.n0 ay am bY bm + 1) = Mo.mok ay am ad (Mo.bn ay am ad bY bm bd + 1) by rw [E2.out]]
  rw [H2.out]; simp only [Cal.orz, Cal.why, if_true, Bool.false_eq_true, if_false]
  have cA_b := A6.hb
  have cA_f := A6.fz
  have cA_0 := A6.k0
  have cA_1 := A6.k1
  have cA_2 := A6.k2
  have cC_b := C6.hb
  have cC_f := C6.fz
  have cC_0 := C6.k0
  have cC_1 := C6.k1
  have cC_2 := C6.k2
  have cQ_b := Q6.hb
  have cQ_f := Q6.fz
  have cQ_0 := Q6.k0
  have cQ_1 := Q6.k1
  have cQ_2 := Q6.k2
  go_wp2_with fail
  clear cA_b cA_f cA_0 cA_1 cA_2 cC_b cC_f cC_0 cC_1 cC_2 cQ_b cQ_f cQ_0 cQ_1 cQ_2
  go_ret2
  skip
  refine ⟨rfl, ?_⟩
  exact (by have hz := B6.out.size; repeat (first | exact B6.out | refine below_drewN ?_ _ | refine Below.drew ?_ | refine Below.setCell ?_ (by first | omega | (simp; done) | (simp; omega)) _ | refine Below.alloc ?_ (by first | omega | (simp; done) | (simp; omega)) _))
set_option maxHeartbeats 2000000 in
theorem rbet_n_false (ay am ad bY bm bd : Int) (w : World) (ha : rightB ay am ad = true) (hb : rightB bY bm bd = true) (hl : Mo.late ad bY bm bd = false) (h1 : Mo.mok ay am ad (Mo.bn ay am ad bY bm bd) = false) :
    Calls Try.prog 31 #[.agg #[.int .i64 ay, .int .i64 am, .int .i64 ad], .agg #[.int .i64 bY, .int .i64 bm, .int .i64 bd]] w fun e w' => e = .returned (.tuple #[.int .i64 0, .int .i64 1]) ∧ Below w.heap.size w w' := by
  have M := Lib.hid (Mo.at_b ha hb)
  have a := right_true.1 ha; have b := right_true.1 hb
  obtain ⟨am1, am2⟩ := Cal.month_of a
  obtain ⟨bm1, bm2⟩ := Cal.month_of b
  have ay1 := a.y0; have ay2 := a.y1; have by1 := b.y0; have by2 := b.y1
  have n1 : -2000000 ≤ Mo.n0 ay am bY bm := by unfold Mo.n0; omega
  have n2 : Mo.n0 ay am bY bm ≤ 2000000 := by unfold Mo.n0; omega
  have NN := Lib.hid (show (bY - ay) * 12 + (bm - am) = Mo.n0 ay am bY bm by unfold Mo.n0; omega)
  have HA := Lib.hid ha; have HB := Lib.hid hb
  have LC := Lib.hid ((Mo.late_cmp ad bY bm bd).trans hl)
  have E := Lib.hid (show Mo.bn ay am ad bY bm bd = Mo.n0 ay am bY bm by unfold Mo.bn; rw [hl]; rfl)
  have E2 := Lib.hid (show Mo.bn ay am ad bY bm bd + 1 = Mo.n0 ay am bY bm + 1 by unfold Mo.bn; rw [hl]; simp)
  have H1 := Lib.hid h1
  skip
  clear a b ha hb h1 hl
  go_enter Try.func31, Try.ntmps31
  go_wp2_with fail
  refine (rright_any ay am ad _).mono ?_; rintro e w1 ⟨rfl, b1⟩
  have d1 : Below w.heap.size w w1 := below_step (by repeat (first | exact Below.refl _ _ | refine below_drewN ?_ _ | refine Below.drew ?_ | refine Below.setCell ?_ (by simp) _ | refine Below.alloc ?_ (by simp) _)) b1
  have B1 := Lib.hid d1
  have A1 : Bk3 w1 (w.heap.size) (.int .i64 ay) (.int .i64 am) (.int .i64 ad) := Bk3.of b1 (by simp <;> omega) (by intro j; simp [go_sem]) (by simp [go_sem]) (by simp [go_sem]) (by simp [go_sem])
  have C1 : Bk3 w1 (w.heap.size + 1) (.int .i64 bY) (.int .i64 bm) (.int .i64 bd) := Bk3.of b1 (by simp <;> omega) (by intro j; simp [go_sem]) (by simp [go_sem]) (by simp [go_sem]) (by simp [go_sem])
  clear b1 d1
  rw [HA.out]
  have cA_b := A1.hb
  have cA_f := A1.fz
  have cA_0 := A1.k0
  have cA_1 := A1.k1
  have cA_2 := A1.k2
  have cC_b := C1.hb
  have cC_f := C1.fz
  have cC_0 := C1.k0
  have cC_1 := C1.k1
  have cC_2 := C1.k2
  go_wp2_with fail
  clear cA_b cA_f cA_0 cA_1 cA_2 cC_b cC_f cC_0 cC_1 cC_2
  refine (rright_any bY bm bd _).mono ?_; rintro e w2 ⟨rfl, b2⟩
  have d2 : Below w1.heap.size w1 w2 := below_step (by repeat (first | exact Below.refl _ _ | refine below_drewN ?_ _ | refine Below.drew ?_ | refine Below.setCell ?_ (by simp) _ | refine Below.alloc ?_ (by simp) _)) b2
  have B2 := Lib.hid (below_step B1.out d2)
  have A2 := A1.keep d2
  have C2 := C1.keep d2
  clear A1 C1 b2 d2 B1
  rw [HB.out]
  have cA_b := A2.hb
  have cA_f := A2.fz
  have cA_0 := A2.k0
  have cA_1 := A2.k1
  have cA_2 := A2.k2
  have cC_b := C2.hb
  have cC_f := C2.fz
  have cC_0 := C2.k0
  have cC_1 := C2.k1
  have cC_2 := C2.k2
  go_wp2_with fail
  clear cA_b cA_f cA_0 cA_1 cA_2 cC_b cC_f cC_0 cC_1 cC_2
  rw [NN.out]
  refine (radd_any ay am ad (Mo.n0 ay am bY bm) _).mono ?_; rintro e w3 ⟨rfl, b3⟩
  have d3 : Below w2.heap.size w2 w3 := below_step (by repeat (first | exact Below.refl _ _ | refine below_drewN ?_ _ | refine Below.drew ?_ | refine Below.setCell ?_ (by simp) _ | refine Below.alloc ?_ (by simp) _)) b3
  have B3 := Lib.hid (below_step B2.out d3)
  have A3 := A2.keep d3
  have C3 := C2.keep d3
  clear A2 C2 b3 d3 B2
  rw [M.out.1, M.out.2.1, M.out.2.2.1, M.out.2.2.2]
  simp only [Cal.orz, Cal.why, if_true]
  have cA_b := A3.hb
  have cA_f := A3.fz
  have cA_0 := A3.k0
  have cA_1 := A3.k1
  have cA_2 := A3.k2
  have cC_b := C3.hb
  have cC_f := C3.fz
  have cC_0 := C3.k0
  have cC_1 := C3.k1
  have cC_2 := C3.k2
  go_wp2_with fail
  clear cA_b cA_f cA_0 cA_1 cA_2 cC_b cC_f cC_0 cC_1 cC_2
  refine (rcompare _ _ _ _ _ _ _).mono ?_; rintro e w4 ⟨rfl, b4⟩
  have d4 : Below w3.heap.size w3 w4 := below_step (by repeat (first | exact Below.refl _ _ | refine below_drewN ?_ _ | refine Below.drew ?_ | refine Below.setCell ?_ (by simp) _ | refine Below.alloc ?_ (by simp) _)) b4
  have B4 := Lib.hid (below_step B3.out d4)
  have A4 := A3.keep d4
  have C4 := C3.keep d4
  have aQ := B3.out.size
  have nQA := Nat.ne_of_lt A3.hb
  have oQA := Nat.ne_of_gt A3.hb
  have nQC := Nat.ne_of_lt C3.hb
  have oQC := Nat.ne_of_gt C3.hb
  have Q4 : Bk3 w4 (w3.heap.size) (.int .i64 bY) (.int .i64 bm) (.int .i64 (min ad (Cal.len bY bm))) := Bk3.of b4 (by simp <;> omega) (by intro j; simp [go_sem]) (by simp [go_sem]) (by simp [go_sem]) (by simp [go_sem])
  clear A3 C3 b4 d4 B3
  have lc := LC.out
  have cA_b := A4.hb
  have cA_f := A4.fz
  have cA_0 := A4.k0
  have cA_1 := A4.k1
  have cA_2 := A4.k2
  have cC_b := C4.hb
  have cC_f := C4.fz
  have cC_0 := C4.k0
  have cC_1 := C4.k1
  have cC_2 := C4.k2
  have cQ_b := Q4.hb
  have cQ_f := Q4.fz
  have cQ_0 := Q4.k0
  have cQ_1 := Q4.k1
  have cQ_2 := Q4.k2
  go_wp2_with fail
  clear cA_b cA_f cA_0 cA_1 cA_2 cC_b cC_f cC_0 cC_1 cC_2 cQ_b cQ_f cQ_0 cQ_1 cQ_2
  refine (radd_any ay am ad (Mo.n0 ay am bY bm) _).mono ?_; rintro e w5 ⟨rfl, b5⟩
  have d5 : Below w4.heap.size w4 w5 := below_step (by repeat (first | exact Below.refl _ _ | refine below_drewN ?_ _ | refine Below.drew ?_ | refine Below.setCell ?_ (by simp) _ | refine Below.alloc ?_ (by simp) _)) b5
  have B5 := Lib.hid (below_step B4.out d5)
  have A5 := A4.keep d5
  have C5 := C4.keep d5
  have Q5 := Q4.keep d5
  clear A4 C4 Q4 b5 d5 B4
  clear lc
  rw [show Mo.mok ay am ad (Mo.n0 ay am bY bm) = Mo.mok ay am ad (Mo.bn ay am ad bY bm bd) by rw [E.out], H1.out]
  simp only [Cal.orz, Cal.why, if_true, Bool.false_eq_true, if_false]
  have cA_b := A5.hb
  have cA_f := A5.fz
  have cA_0 := A5.k0
  have cA_1 := A5.k1
  have cA_2 := A5.k2
  have cC_b := C5.hb
  have cC_f := C5.fz
  have cC_0 := C5.k0
  have cC_1 := C5.k1
  have cC_2 := C5.k2
  have cQ_b := Q5.hb
  have cQ_f := Q5.fz
  have cQ_0 := Q5.k0
  have cQ_1 := Q5.k1
  have cQ_2 := Q5.k2
  go_wp2_with fail
  clear cA_b cA_f cA_0 cA_1 cA_2 cC_b cC_f cC_0 cC_1 cC_2 cQ_b cQ_f cQ_0 cQ_1 cQ_2
  refine (radd_any ay am ad (Mo.n0 ay am bY bm + 1) _).mono ?_; rintro e w6 ⟨rfl, b6⟩
  have d6 : Below w5.heap.size w5 w6 := below_step (by repeat (first | exact Below.refl _ _ | refine below_drewN ?_ _ | refine Below.drew ?_ | refine Below.setCell ?_ (by simp) _ | refine Below.alloc ?_ (by simp) _)) b6
  have B6 := Lib.hid (below_step B5.out d6)
  have A6 := A5.keep d6
  have C6 := C5.keep d6
  have Q6 := Q5.keep d6
  clear A5 C5 Q5 b6 d6 B5
  rw [show Mo.mok ay am ad (Mo.n0 ay am bY bm + 1) = Mo.mok ay am ad (Mo.bn ay am ad bY bm bd + 1) by rw [E2.out]]
  skip
  have cA_b := A6.hb
  have cA_f := A6.fz
  have cA_0 := A6.k0
  have cA_1 := A6.k1
  have cA_2 := A6.k2
  have cC_b := C6.hb
  have cC_f := C6.fz
  have cC_0 := C6.k0
  have cC_1 := C6.k1
  have cC_2 := C6.k2
  have cQ_b := Q6.hb
  have cQ_f := Q6.fz
  have cQ_0 := Q6.k0
  have cQ_1 := Q6.k1
  have cQ_2 := Q6.k2
  go_wp2_with fail
  clear cA_b cA_f cA_0 cA_1 cA_2 cC_b cC_f cC_0 cC_1 cC_2 cQ_b cQ_f cQ_0 cQ_1 cQ_2
  go_ret2
  skip
  refine ⟨rfl, ?_⟩
  exact (by have hz := B6.out.size; repeat (first | exact B6.out | refine below_drewN ?_ _ | refine Below.drew ?_ | refine Below.setCell ?_ (by first | omega | (simp; done) | (simp; omega)) _ | refine Below.alloc ?_ (by first | omega | (simp; done) | (simp; omega)) _))
theorem rbet_any (ay am ad bY bm bd : Int) (w : World) :
    Calls Try.prog 31 #[.agg #[.int .i64 ay, .int .i64 am, .int .i64 ad], .agg #[.int .i64 bY, .int .i64 bm, .int .i64 bd]] w fun e w' => e = .returned (.tuple #[.int .i64 (Cal.orz (Mo.bok ay am ad bY bm bd) (Mo.bn ay am ad bY bm bd)), .int .i64 (Cal.why (Mo.bok ay am ad bY bm bd))]) ∧ Below w.heap.size w w' := by
  cases ha : rightB ay am ad
  · have e : Mo.bok ay am ad bY bm bd = false := by unfold Mo.bok; rw [ha]; rfl
    rw [e]; exact rbet_no ay am ad bY bm bd w (.inl ha)
  · cases hb : rightB bY bm bd
    · have e : Mo.bok ay am ad bY bm bd = false := by unfold Mo.bok; rw [ha, hb]; rfl
      rw [e]; exact rbet_no ay am ad bY bm bd w (.inr ⟨ha, hb⟩)
    · cases h1 : Mo.mok ay am ad (Mo.bn ay am ad bY bm bd)
      · have e : Mo.bok ay am ad bY bm bd = false := by unfold Mo.bok; rw [ha, hb, h1]; rfl
        rw [e]
        cases hl : Mo.late ad bY bm bd
        · exact rbet_n_false ay am ad bY bm bd w ha hb hl h1
        · exact rbet_n_true ay am ad bY bm bd w ha hb hl h1
      · cases h2 : Mo.mok ay am ad (Mo.bn ay am ad bY bm bd + 1)
        · have e : Mo.bok ay am ad bY bm bd = false := by unfold Mo.bok; rw [ha, hb, h1, h2]; rfl
          rw [e]
          cases hl : Mo.late ad bY bm bd
          · exact rbet_yn_false ay am ad bY bm bd w ha hb hl h1 h2
          · exact rbet_yn_true ay am ad bY bm bd w ha hb hl h1 h2
        · have e : Mo.bok ay am ad bY bm bd = true := by unfold Mo.bok; rw [ha, hb, h1, h2]; rfl
          rw [e]
          cases hl : Mo.late ad bY bm bd
          · exact rbet_yy_false ay am ad bY bm bd w ha hb hl h1 h2
          · exact rbet_yy_true ay am ad bY bm bd w ha hb hl h1 h2
end Go.Proofs.Ytlehbnfocilcmab

