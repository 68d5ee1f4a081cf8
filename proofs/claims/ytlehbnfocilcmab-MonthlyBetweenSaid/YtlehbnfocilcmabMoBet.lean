/- The walk of MonthlyBetween: whatever is handed in, the law answers true; nothing old turns. -/
import Derived.Test.YtlehbnfocilcmabLiv6
set_option linter.unusedVariables false
set_option linter.unusedSimpArgs false
namespace Go.Proofs.Ytlehbnfocilcmab
open Go.RowKit Go.Sort

theorem cmpI_cases3 (x z : Int) : (cmpI x z = -1 ∧ x < z) ∨ (cmpI x z = 0 ∧ x = z) ∨ (cmpI x z = 1 ∧ z < x) := by
  unfold cmpI
  rcases Int.lt_trichotomy x z with h | h | h
  · left; rw [if_pos h]; exact ⟨rfl, h⟩
  · right; left; rw [if_neg (by omega), if_neg (by omega)]; exact ⟨rfl, h⟩
  · right; right; rw [if_neg (by omega), if_pos h]; exact ⟨rfl, h⟩
theorem cmpD_cases3 (y m d y' m' d' : Int) : (cmpD y m d y' m' d' = -1 ∧ Cal.Lt y m d y' m' d') ∨ (cmpD y m d y' m' d' = 0 ∧ y = y' ∧ m = m' ∧ d = d') ∨ (cmpD y m d y' m' d' = 1 ∧ Cal.Lt y' m' d' y m d) := by
  unfold cmpD orI Cal.Lt
  rcases cmpI_cases3 y y' with ⟨e1, h1⟩ | ⟨e1, h1⟩ | ⟨e1, h1⟩ <;> rcases cmpI_cases3 m m' with ⟨e2, h2⟩ | ⟨e2, h2⟩ | ⟨e2, h2⟩ <;> rcases cmpI_cases3 d d' with ⟨e3, h3⟩ | ⟨e3, h3⟩ | ⟨e3, h3⟩ <;> rw [e1, e2, e3] <;> simp <;> omega
set_option maxHeartbeats 2000000 in
set_option maxRecDepth 100000 in
theorem mlbet_no (ay am ad bY bm bd : Int) (w : World) (h : Mo.bok ay am ad bY bm bd = false) :
    Calls Try.prog 9 #[.agg #[.int .i64 ay, .int .i64 am, .int .i64 ad], .agg #[.int .i64 bY, .int .i64 bm, .int .i64 bd]] w fun e w' => e = .returned (.bool true) ∧ Below w.heap.size w w' := by
  have O := Lib.hid h; clear h
  go_enter Try.func9, Try.ntmps9
  go_wp2_with fail
  refine (lives6 _).mono ?_; rintro e w1 ⟨rfl, b1⟩
  have d1 : Below w.heap.size w w1 := below_step (by repeat (first | exact Below.refl _ _ | refine below_drewN ?_ _ | refine Below.drew ?_ | refine Below.setCell ?_ (by simp) _ | refine Below.alloc ?_ (by simp) _)) b1
  have B1 := Lib.hid d1
  have A1 : Bk3 w1 (w.heap.size) (.int .i64 ay) (.int .i64 am) (.int .i64 ad) := Bk3.of b1 (by simp <;> omega) (by intro j; simp [go_sem]) (by simp [go_sem]) (by simp [go_sem]) (by simp [go_sem])
  have C1 : Bk3 w1 (w.heap.size + 1) (.int .i64 bY) (.int .i64 bm) (.int .i64 bd) := Bk3.of b1 (by simp <;> omega) (by intro j; simp [go_sem]) (by simp [go_sem]) (by simp [go_sem]) (by simp [go_sem])
  clear b1 d1
  have cA_b := A1.hb
  have cA_f := A1.fz
  have cA_0 := A1.k0
  have cA_1 := A1.k1
  have cA_2 := A1.k2
  have cC_b := C1.hb
  have cC_f := C1.fz
  have cC_0 := C1.k0
  have cC_1 := C1.k1
  have cC_2 := C1.k2
  go_wp2_with fail
  clear cA_b cA_f cA_0 cA_1 cA_2 cC_b cC_f cC_0 cC_1 cC_2
  refine (mbet_any ay am ad bY bm bd _).mono ?_; rintro e w2 ⟨rfl, b2⟩
  have d2 : Below w1.heap.size w1 w2 := below_step (by repeat (first | exact Below.refl _ _ | refine below_drewN ?_ _ | refine Below.drew ?_ | refine Below.setCell ?_ (by simp) _ | refine Below.alloc ?_ (by simp) _)) b2
  have B2 := Lib.hid (below_step B1.out d2)
  have A2 := A1.keep d2
  have C2 := C1.keep d2
  clear A1 C1 b2 d2 B1
  rw [O.out]
  simp only [Cal.orz, Cal.why, Bool.false_eq_true, if_false]
  have cA_b := A2.hb
  have cA_f := A2.fz
  have cA_0 := A2.k0
  have cA_1 := A2.k1
  have cA_2 := A2.k2
  have cC_b := C2.hb
  have cC_f := C2.fz
  have cC_0 := C2.k0
  have cC_1 := C2.k1
  have cC_2 := C2.k2
  go_wp2_with fail
  clear cA_b cA_f cA_0 cA_1 cA_2 cC_b cC_f cC_0 cC_1 cC_2
  go_ret
  exact ⟨rfl, (by have hz := B2.out.size; repeat (first | exact B2.out | refine below_drewN ?_ _ | refine Below.drew ?_ | refine Below.setCell ?_ (by first | omega | (simp; done) | (simp; omega)) _ | refine Below.alloc ?_ (by first | omega | (simp; done) | (simp; omega)) _))⟩
set_option maxHeartbeats 2000000 in
set_option maxRecDepth 100000 in
theorem mlbet_yes (ay am ad bY bm bd n : Int) (w : World) (h : Mo.bok ay am ad bY bm bd = true) (hn : Mo.bn ay am ad bY bm bd = n) (n0 : -3000000 ≤ n) (n1 : n ≤ 3000000) (ok1 : Mo.mok ay am ad n = true) (ok2 : Mo.mok ay am ad (n + 1) = true)
    (c1 : cmpD (Mo.mY ay am n) (Mo.mM ay am n) (Mo.mD ay am ad n) bY bm bd ≤ 0) (c2 : 0 < cmpD (Mo.mY ay am (n + 1)) (Mo.mM ay am (n + 1)) (Mo.mD ay am ad (n + 1)) bY bm bd) :
    Calls Try.prog 9 #[.agg #[.int .i64 ay, .int .i64 am, .int .i64 ad], .agg #[.int .i64 bY, .int .i64 bm, .int .i64 bd]] w fun e w' => e = .returned (.bool true) ∧ Below w.heap.size w w' := by
  have O := Lib.hid h; have HN := Lib.hid hn; have O1 := Lib.hid ok1; have O2 := Lib.hid ok2; clear h hn ok1 ok2
  go_enter Try.func9, Try.ntmps9
  go_wp2_with fail
  refine (lives6 _).mono ?_; rintro e w1 ⟨rfl, b1⟩
  have d1 : Below w.heap.size w w1 := below_step (by repeat (first | exact Below.refl _ _ | refine below_drewN ?_ _ | refine Below.drew ?_ | refine Below.setCell ?_ (by simp) _ | refine Below.alloc ?_ (by simp) _)) b1
  have B1 := Lib.hid d1
  have A1 : Bk3 w1 (w.heap.size) (.int .i64 ay) (.int .i64 am) (.int .i64 ad) := Bk3.of b1 (by simp <;> omega) (by intro j; simp [go_sem]) (by simp [go_sem]) (by simp [go_sem]) (by simp [go_sem])
  have C1 : Bk3 w1 (w.heap.size + 1) (.int .i64 bY) (.int .i64 bm) (.int .i64 bd) := Bk3.of b1 (by simp <;> omega) (by intro j; simp [go_sem]) (by simp [go_sem]) (by simp [go_sem]) (by simp [go_sem])
  clear b1 d1
  have cA_b := A1.hb
  have cA_f := A1.fz
  have cA_0 := A1.k0
  have cA_1 := A1.k1
  have cA_2 := A1.k2
  have cC_b := C1.hb
  have cC_f := C1.fz
  have cC_0 := C1.k0
  have cC_1 := C1.k1
  have cC_2 := C1.k2
  go_wp2_with fail
  clear cA_b cA_f cA_0 cA_1 cA_2 cC_b cC_f cC_0 cC_1 cC_2
  refine (mbet_any ay am ad bY bm bd _).mono ?_; rintro e w2 ⟨rfl, b2⟩
  have d2 : Below w1.heap.size w1 w2 := below_step (by repeat (first | exact Below.refl _ _ | refine below_drewN ?_ _ | refine Below.drew ?_ | refine Below.setCell ?_ (by simp) _ | refine Below.alloc ?_ (by simp) _)) b2
  have B2 := Lib.hid (below_step B1.out d2)
  have A2 := A1.keep d2
  have C2 := C1.keep d2
  clear A1 C1 b2 d2 B1
  rw [O.out, HN.out]
  simp only [Cal.orz, Cal.why, if_true]
  have cA_b := A2.hb
  have cA_f := A2.fz
  have cA_0 := A2.k0
  have cA_1 := A2.k1
  have cA_2 := A2.k2
  have cC_b := C2.hb
  have cC_f := C2.fz
  have cC_0 := C2.k0
  have cC_1 := C2.k1
  have cC_2 := C2.k2
  go_wp2_with fail
  clear cA_b cA_f cA_0 cA_1 cA_2 cC_b cC_f cC_0 cC_1 cC_2
  refine (madd_any ay am ad n _ (by omega) (by omega)).mono ?_; rintro e w3 ⟨rfl, b3⟩
  have d3 : Below w2.heap.size w2 w3 := below_step (by repeat (first | exact Below.refl _ _ | refine below_drewN ?_ _ | refine Below.drew ?_ | refine Below.setCell ?_ (by simp) _ | refine Below.alloc ?_ (by simp) _)) b3
  have B3 := Lib.hid (below_step B2.out d3)
  have A3 := A2.keep d3
  have C3 := C2.keep d3
  clear A2 C2 b3 d3 B2
  rw [O1.out]
  simp only [Cal.orz, Cal.why, if_true]
  have cA_b := A3.hb
  have cA_f := A3.fz
  have cA_0 := A3.k0
  have cA_1 := A3.k1
  have cA_2 := A3.k2
  have cC_b := C3.hb
  have cC_f := C3.fz
  have cC_0 := C3.k0
  have cC_1 := C3.k1
  have cC_2 := C3.k2
  go_wp2_with fail
  clear cA_b cA_f cA_0 cA_1 cA_2 cC_b cC_f cC_0 cC_1 cC_2
  refine (madd_any ay am ad (n + 1) _ (by omega) (by omega)).mono ?_; rintro e w4 ⟨rfl, b4⟩
  have d4 : Below w3.heap.size w3 w4 := below_step (by repeat (first | exact Below.refl _ _ | refine below_drewN ?_ _ | refine Below.drew ?_ | refine Below.setCell ?_ (by simp) _ | refine Below.alloc ?_ (by simp) _)) b4
  have B4 := Lib.hid (below_step B3.out d4)
  have A4 := A3.keep d4
  have C4 := C3.keep d4
  have aX := B3.out.size
  have nXA := Nat.ne_of_lt A3.hb
  have oXA := Nat.ne_of_gt A3.hb
  have nXC := Nat.ne_of_lt C3.hb
  have oXC := Nat.ne_of_gt C3.hb
  have X4 : Bk3 w4 (w3.heap.size) (.int .i64 (Mo.mY ay am n)) (.int .i64 (Mo.mM ay am n)) (.int .i64 (Mo.mD ay am ad n)) := Bk3.of b4 (by simp <;> omega) (by intro j; simp [go_sem]) (by simp [go_sem]) (by simp [go_sem]) (by simp [go_sem])
  clear A3 C3 b4 d4 B3
  rw [O2.out]
  simp only [Cal.orz, Cal.why, if_true]
  have cA_b := A4.hb
  have cA_f := A4.fz
  have cA_0 := A4.k0
  have cA_1 := A4.k1
  have cA_2 := A4.k2
  have cC_b := C4.hb
  have cC_f := C4.fz
  have cC_0 := C4.k0
  have cC_1 := C4.k1
  have cC_2 := C4.k2
  have cX_b := X4.hb
  have cX_f := X4.fz
  have cX_0 := X4.k0
  have cX_1 := X4.k1
  have cX_2 := X4.k2
  go_wp2_with fail
  clear cA_b cA_f cA_0 cA_1 cA_2 cC_b cC_f cC_0 cC_1 cC_2 cX_b cX_f cX_0 cX_1 cX_2
  refine (dcompare _ _ _ _ _ _ _).mono ?_; rintro e w5 ⟨rfl, b5⟩
  have d5 : Below w4.heap.size w4 w5 := below_step (by repeat (first | exact Below.refl _ _ | refine below_drewN ?_ _ | refine Below.drew ?_ | refine Below.setCell ?_ (by simp) _ | refine Below.alloc ?_ (by simp) _)) b5
  have B5 := Lib.hid (below_step B4.out d5)
  have A5 := A4.keep d5
  have C5 := C4.keep d5
  have X5 := X4.keep d5
  have aY := B4.out.size
  have nYA := Nat.ne_of_lt A4.hb
  have oYA := Nat.ne_of_gt A4.hb
  have nYC := Nat.ne_of_lt C4.hb
  have oYC := Nat.ne_of_gt C4.hb
  have nYX := Nat.ne_of_lt X4.hb
  have oYX := Nat.ne_of_gt X4.hb
  have Y5 : Bk3 w5 (w4.heap.size) (.int .i64 (Mo.mY ay am (n + 1))) (.int .i64 (Mo.mM ay am (n + 1))) (.int .i64 (Mo.mD ay am ad (n + 1))) := Bk3.of b5 (by simp <;> omega) (by intro j; simp [go_sem]) (by simp [go_sem]) (by simp [go_sem]) (by simp [go_sem])
  clear A4 C4 X4 b5 d5 B4
  have cA_b := A5.hb
  have cA_f := A5.fz
  have cA_0 := A5.k0
  have cA_1 := A5.k1
  have cA_2 := A5.k2
  have cC_b := C5.hb
  have cC_f := C5.fz
  have cC_0 := C5.k0
  have cC_1 := C5.k1
  have cC_2 := C5.k2
  have cX_b := X5.hb
  have cX_f := X5.fz
  have cX_0 := X5.k0
  have cX_1 := X5.k1
  have cX_2 := X5.k2
  have cY_b := Y5.hb
  have cY_f := Y5.fz
  have cY_0 := Y5.k0
  have cY_1 := Y5.k1
  have cY_2 := Y5.k2
  go_wp2_with fail
  clear cA_b cA_f cA_0 cA_1 cA_2 cC_b cC_f cC_0 cC_1 cC_2 cX_b cX_f cX_0 cX_1 cX_2 cY_b cY_f cY_0 cY_1 cY_2
  refine (dcompare _ _ _ _ _ _ _).mono ?_; rintro e w6 ⟨rfl, b6⟩
  have d6 : Below w5.heap.size w5 w6 := below_step (by repeat (first | exact Below.refl _ _ | refine below_drewN ?_ _ | refine Below.drew ?_ | refine Below.setCell ?_ (by simp) _ | refine Below.alloc ?_ (by simp) _)) b6
  have B6 := Lib.hid (below_step B5.out d6)
  have A6 := A5.keep d6
  have C6 := C5.keep d6
  have X6 := X5.keep d6
  have Y6 := Y5.keep d6
  clear A5 C5 X5 Y5 b6 d6 B5
  have cA_b := A6.hb
  have cA_f := A6.fz
  have cA_0 := A6.k0
  have cA_1 := A6.k1
  have cA_2 := A6.k2
  have cC_b := C6.hb
  have cC_f := C6.fz
  have cC_0 := C6.k0
  have cC_1 := C6.k1
  have cC_2 := C6.k2
  have cX_b := X6.hb
  have cX_f := X6.fz
  have cX_0 := X6.k0
  have cX_1 := X6.k1
  have cX_2 := X6.k2
  have cY_b := Y6.hb
  have cY_f := Y6.fz
  have cY_0 := Y6.k0
  have cY_1 := Y6.k1
  have cY_2 := Y6.k2
  go_wp2_with fail
  clear cA_b cA_f cA_0 cA_1 cA_2 cC_b cC_f cC_0 cC_1 cC_2 cX_b cX_f cX_0 cX_1 cX_2 cY_b cY_f cY_0 cY_1 cY_2
  go_ret
  exact ⟨rfl, (by have hz := B6.out.size; repeat (first | exact B6.out | refine below_drewN ?_ _ | refine Below.drew ?_ | refine Below.setCell ?_ (by first | omega | (simp; done) | (simp; omega)) _ | refine Below.alloc ?_ (by first | omega | (simp; done) | (simp; omega)) _))⟩
theorem mlbet_walk (ay am ad bY bm bd : Int) (w : World) :
    Calls Try.prog 9 #[.agg #[.int .i64 ay, .int .i64 am, .int .i64 ad], .agg #[.int .i64 bY, .int .i64 bm, .int .i64 bd]] w fun e w' => e = .returned (.bool true) ∧ Below w.heap.size w w' := by
  cases h : Mo.bok ay am ad bY bm bd
  · exact mlbet_no ay am ad bY bm bd w h
  · have h' := h
    unfold Mo.bok at h'
    rw [Bool.and_eq_true, Bool.and_eq_true, Bool.and_eq_true] at h'
    obtain ⟨ha, hb, ok1, ok2⟩ := h'
    have a := right_true.1 ha; have b := right_true.1 hb
    obtain ⟨am1, am2⟩ := Cal.month_of a
    obtain ⟨bm1, bm2⟩ := Cal.month_of b
    have := a.y0; have := a.y1; have := b.y0; have := b.y1
    have M := Mo.at_b ha hb
    have hbd := b.d1
    refine mlbet_yes ay am ad bY bm bd _ w h rfl (by unfold Mo.bn Mo.n0; split <;> omega) (by unfold Mo.bn Mo.n0; split <;> omega) ok1 ok2 ?_ ?_
    · unfold Mo.bn
      cases hl : Mo.late ad bY bm bd
      · simp only [Bool.false_eq_true, if_false]
        rw [M.1, M.2.1, M.2.2.1, Mo.cmpD_same]
        have : ¬ bd < min ad (Cal.len bY bm) := by unfold Mo.late at hl; simpa using hl
        rcases cmpI_cases3 (min ad (Cal.len bY bm)) bd with ⟨e, _⟩ | ⟨e, _⟩ | ⟨e, g⟩
        · rw [e]; decide
        · rw [e]; decide
        · omega
      · simp only [if_true]
        have : Cal.Lt (Mo.mY ay am (Mo.n0 ay am bY bm - 1)) (Mo.mM ay am (Mo.n0 ay am bY bm - 1)) (Mo.mD ay am ad (Mo.n0 ay am bY bm - 1)) bY bm bd := by
          unfold Cal.Lt Mo.mY Mo.mM Mo.mN Mo.n0; omega
        rcases cmpD_cases3 (Mo.mY ay am (Mo.n0 ay am bY bm - 1)) (Mo.mM ay am (Mo.n0 ay am bY bm - 1)) (Mo.mD ay am ad (Mo.n0 ay am bY bm - 1)) bY bm bd with ⟨e, _⟩ | ⟨_, x, y, z⟩ | ⟨_, g⟩
        · omega
        · unfold Cal.Lt at this; omega
        · unfold Cal.Lt at this g; omega
    · unfold Mo.bn
      cases hl : Mo.late ad bY bm bd
      · simp only [Bool.false_eq_true, if_false]
        have : Cal.Lt bY bm bd (Mo.mY ay am (Mo.n0 ay am bY bm + 1)) (Mo.mM ay am (Mo.n0 ay am bY bm + 1)) (Mo.mD ay am ad (Mo.n0 ay am bY bm + 1)) := by
          unfold Cal.Lt Mo.mY Mo.mM Mo.mN Mo.n0; omega
        rcases cmpD_cases3 (Mo.mY ay am (Mo.n0 ay am bY bm + 1)) (Mo.mM ay am (Mo.n0 ay am bY bm + 1)) (Mo.mD ay am ad (Mo.n0 ay am bY bm + 1)) bY bm bd with ⟨e, g⟩ | ⟨_, x, y, z⟩ | ⟨e, _⟩
        · unfold Cal.Lt at this g; omega
        · unfold Cal.Lt at this; omega
        · omega
      · simp only [if_true]
        rw [show Mo.n0 ay am bY bm - 1 + 1 = Mo.n0 ay am bY bm by omega, M.1, M.2.1, M.2.2.1, Mo.cmpD_same]
        have : bd < min ad (Cal.len bY bm) := by unfold Mo.late at hl; simpa using hl
        unfold cmpI; rw [if_neg (by omega), if_pos this]; decide
end Go.Proofs.Ytlehbnfocilcmab

