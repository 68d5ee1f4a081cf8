/- The walk of MonthlyOrder: whatever is handed in, the law answers true; nothing old turns. -/
import Derived.Test.YtlehbnfocilcmabLiv6
set_option linter.unusedVariables false
set_option linter.unusedSimpArgs false
namespace Go.Proofs.Ytlehbnfocilcmab
open Go.RowKit Go.Sort

theorem cmpI_cases (x z : Int) : (cmpI x z = -1 ∧ x < z) ∨ (cmpI x z = 0 ∧ x = z) ∨ (cmpI x z = 1 ∧ z < x) := by
  unfold cmpI
  rcases Int.lt_trichotomy x z with h | h | h
  · left; rw [if_pos h]; exact ⟨rfl, h⟩
  · right; left; rw [if_neg (by omega), if_neg (by omega)]; exact ⟨rfl, h⟩
  · right; right; rw [if_neg (by omega), if_pos h]; exact ⟨rfl, h⟩
theorem cmpD_cases (y m d y' m' d' : Int) : (cmpD y m d y' m' d' = -1 ∧ Cal.Lt y m d y' m' d') ∨ (cmpD y m d y' m' d' = 0 ∧ y = y' ∧ m = m' ∧ d = d') ∨ (cmpD y m d y' m' d' = 1 ∧ Cal.Lt y' m' d' y m d) := by
  unfold cmpD orI Cal.Lt
  rcases cmpI_cases y y' with ⟨e1, h1⟩ | ⟨e1, h1⟩ | ⟨e1, h1⟩ <;> rcases cmpI_cases m m' with ⟨e2, h2⟩ | ⟨e2, h2⟩ | ⟨e2, h2⟩ <;> rcases cmpI_cases d d' with ⟨e3, h3⟩ | ⟨e3, h3⟩ | ⟨e3, h3⟩ <;> rw [e1, e2, e3] <;> simp <;> omega
namespace Mo
theorem lt_months {y m n : Int} {y' m' n' : Int} (h : mN y m n < mN y' m' n') (d d' : Int) : Cal.Lt (mY y m n) (mM y m n) d (mY y' m' n') (mM y' m' n') d' := by
  unfold Cal.Lt mY mM; omega
theorem cmp_lt {y m d y' m' d' : Int} (h : Cal.Lt y m d y' m' d') : cmpD y m d y' m' d' = -1 := by
  rcases cmpD_cases y m d y' m' d' with ⟨e, _⟩ | ⟨_, a, b, c⟩ | ⟨_, g⟩
  · exact e
  · unfold Cal.Lt at h; omega
  · unfold Cal.Lt at h g; omega
theorem cmp_same (y m d : Int) : cmpD y m d y m d = 0 := by rw [cmpD_same, cmpI_self]
/-- Two dates, moved by the same, stay in their order. -/
theorem order {ay am ad bY bm bd n : Int} (ha : mok ay am ad n = true) (hb : mok bY bm bd n = true) (h : cmpD ay am ad bY bm bd ≤ 0) : cmpD (mY ay am n) (mM ay am n) (mD ay am ad n) (mY bY bm n) (mM bY bm n) (mD bY bm bd n) ≤ 0 := by
  obtain ⟨m1, m2⟩ := Cal.month_of (right_true.1 (mok_true.1 ha).1)
  obtain ⟨k1, k2⟩ := Cal.month_of (right_true.1 (mok_true.1 hb).1)
  rcases cmpD_cases ay am ad bY bm bd with ⟨_, hl⟩ | ⟨_, rfl, rfl, rfl⟩ | ⟨e, _⟩
  · unfold Cal.Lt at hl
    by_cases hm : ay * 12 + am < bY * 12 + bm
    · have : mN ay am n < mN bY bm n := by unfold mN; omega
      rw [cmp_lt (lt_months this _ _)]; decide
    · obtain rfl : ay = bY := by omega
      obtain rfl : am = bm := by omega
      rw [cmpD_same]
      unfold cmpI mD
      split
      · decide
      · split <;> omega
  · rw [cmp_same]; decide
  · omega
end Mo
set_option maxHeartbeats 2000000 in
set_option maxRecDepth 100000 in
theorem morder_no (ay am ad bY bm bd n k : Int) (w : World) (n0 : -9223372036854775808 ≤ n) (n1 : n ≤ 9223372036854775807) (k0 : -9223372036854775808 ≤ k) (k1 : k ≤ 9223372036854775807) (ok1 : Mo.mok ay am ad n = false) :
    Calls Try.prog 7 #[.agg #[.int .i64 ay, .int .i64 am, .int .i64 ad], .agg #[.int .i64 bY, .int .i64 bm, .int .i64 bd], .int .i64 n, .int .i64 k] w fun e w' => e = .returned (.bool true) ∧ Below w.heap.size w w' := by
  have O1 := Lib.hid ok1; clear ok1
  go_enter Try.func7, Try.ntmps7
  go_wp2_with fail
  refine (lives6 _).mono ?_; rintro e w1 ⟨rfl, b1⟩
  have d1 : Below w.heap.size w w1 := below_step (by repeat (first | exact Below.refl _ _ | refine below_drewN ?_ _ | refine Below.drew ?_ | refine Below.setCell ?_ (by simp) _ | refine Below.alloc ?_ (by simp) _)) b1
  have B1 := Lib.hid d1
  have A1 : Bk3 w1 (w.heap.size) (.int .i64 ay) (.int .i64 am) (.int .i64 ad) := Bk3.of b1 (by simp <;> omega) (by intro j; simp [go_sem]) (by simp [go_sem]) (by simp [go_sem]) (by simp [go_sem])
  have C1 : Bk3 w1 (w.heap.size + 1) (.int .i64 bY) (.int .i64 bm) (.int .i64 bd) := Bk3.of b1 (by simp <;> omega) (by intro j; simp [go_sem]) (by simp [go_sem]) (by simp [go_sem]) (by simp [go_sem])
  clear b1 d1
  have cA_b := A1.hb
  have cA_f := A1.fz
  have cA_0 := A1.k0
  have cA_1 := A1.k1
  have cA_2 := A1.k2
  have cC_b := C1.hb
  have cC_f := C1.fz
  have cC_0 := C1.k0
  have cC_1 := C1.k1
  have cC_2 := C1.k2
  go_wp2_with fail
  clear cA_b cA_f cA_0 cA_1 cA_2 cC_b cC_f cC_0 cC_1 cC_2
  refine (madd_any ay am ad n _ n0 n1).mono ?_; rintro e w2 ⟨rfl, b2⟩
  have d2 : Below w1.heap.size w1 w2 := below_step (by repeat (first | exact Below.refl _ _ | refine below_drewN ?_ _ | refine Below.drew ?_ | refine Below.setCell ?_ (by simp) _ | refine Below.alloc ?_ (by simp) _)) b2
  have B2 := Lib.hid (below_step B1.out d2)
  have A2 := A1.keep d2
  have C2 := C1.keep d2
  clear A1 C1 b2 d2 B1
  rw [O1.out]
  simp only [Cal.orz, Cal.why, Bool.false_eq_true, if_false]
  have cA_b := A2.hb
  have cA_f := A2.fz
  have cA_0 := A2.k0
  have cA_1 := A2.k1
  have cA_2 := A2.k2
  have cC_b := C2.hb
  have cC_f := C2.fz
  have cC_0 := C2.k0
  have cC_1 := C2.k1
  have cC_2 := C2.k2
  go_wp2_with fail
  clear cA_b cA_f cA_0 cA_1 cA_2 cC_b cC_f cC_0 cC_1 cC_2
  refine (madd_any ay am ad k _ k0 k1).mono ?_; rintro e w3 ⟨rfl, b3⟩
  have d3 : Below w2.heap.size w2 w3 := below_step (by repeat (first | exact Below.refl _ _ | refine below_drewN ?_ _ | refine Below.drew ?_ | refine Below.setCell ?_ (by simp) _ | refine Below.alloc ?_ (by simp) _)) b3
  have B3 := Lib.hid (below_step B2.out d3)
  have A3 := A2.keep d3
  have C3 := C2.keep d3
  clear A2 C2 b3 d3 B2
  have cA_b := A3.hb
  have cA_f := A3.fz
  have cA_0 := A3.k0
  have cA_1 := A3.k1
  have cA_2 := A3.k2
  have cC_b := C3.hb
  have cC_f := C3.fz
  have cC_0 := C3.k0
  have cC_1 := C3.k1
  have cC_2 := C3.k2
  go_wp2_with fail
  clear cA_b cA_f cA_0 cA_1 cA_2 cC_b cC_f cC_0 cC_1 cC_2
  refine (madd_any bY bm bd n _ n0 n1).mono ?_; rintro e w4 ⟨rfl, b4⟩
  have d4 : Below w3.heap.size w3 w4 := below_step (by repeat (first | exact Below.refl _ _ | refine below_drewN ?_ _ | refine Below.drew ?_ | refine Below.setCell ?_ (by simp) _ | refine Below.alloc ?_ (by simp) _)) b4
  have B4 := Lib.hid (below_step B3.out d4)
  have A4 := A3.keep d4
  have C4 := C3.keep d4
  clear A3 C3 b4 d4 B3
  have cA_b := A4.hb
  have cA_f := A4.fz
  have cA_0 := A4.k0
  have cA_1 := A4.k1
  have cA_2 := A4.k2
  have cC_b := C4.hb
  have cC_f := C4.fz
  have cC_0 := C4.k0
  have cC_1 := C4.k1
  have cC_2 := C4.k2
  go_wp2_with fail
  clear cA_b cA_f cA_0 cA_1 cA_2 cC_b cC_f cC_0 cC_1 cC_2
  go_ret
  exact ⟨rfl, (by have hz := B4.out.size; repeat (first | exact B4.out | refine below_drewN ?_ _ | refine Below.drew ?_ | refine Below.setCell ?_ (by first | omega | (simp; done) | (simp; omega)) _ | refine Below.alloc ?_ (by first | omega | (simp; done) | (simp; omega)) _))⟩
set_option maxHeartbeats 2000000 in
set_option maxRecDepth 100000 in
theorem morder_lt_no (ay am ad bY bm bd n k : Int) (w : World) (n0 : -9223372036854775808 ≤ n) (n1 : n ≤ 9223372036854775807) (k0 : -9223372036854775808 ≤ k) (k1 : k ≤ 9223372036854775807) (ok1 : Mo.mok ay am ad n = true) (hn : n < k) (hc : cmpD (Mo.mY ay am n) (Mo.mM ay am n) (Mo.mD ay am ad n) (Mo.mY ay am k) (Mo.mM ay am k) (Mo.mD ay am ad k) = -1) (ok2 : Mo.mok ay am ad k = true) (ok3 : Mo.mok bY bm bd n = false) :
    Calls Try.prog 7 #[.agg #[.int .i64 ay, .int .i64 am, .int .i64 ad], .agg #[.int .i64 bY, .int .i64 bm, .int .i64 bd], .int .i64 n, .int .i64 k] w fun e w' => e = .returned (.bool true) ∧ Below w.heap.size w w' := by
  have O1 := Lib.hid ok1; have O2 := Lib.hid ok2; have O3 := Lib.hid ok3
  clear ok1 ok2 ok3
  have HC := Lib.hid hc; clear hc
  go_enter Try.func7, Try.ntmps7
  go_wp2_with fail
  refine (lives6 _).mono ?_; rintro e w1 ⟨rfl, b1⟩
  have d1 : Below w.heap.size w w1 := below_step (by repeat (first | exact Below.refl _ _ | refine below_drewN ?_ _ | refine Below.drew ?_ | refine Below.setCell ?_ (by simp) _ | refine Below.alloc ?_ (by simp) _)) b1
  have B1 := Lib.hid d1
  have A1 : Bk3 w1 (w.heap.size) (.int .i64 ay) (.int .i64 am) (.int .i64 ad) := Bk3.of b1 (by simp <;> omega) (by intro j; simp [go_sem]) (by simp [go_sem]) (by simp [go_sem]) (by simp [go_sem])
  have C1 : Bk3 w1 (w.heap.size + 1) (.int .i64 bY) (.int .i64 bm) (.int .i64 bd) := Bk3.of b1 (by simp <;> omega) (by intro j; simp [go_sem]) (by simp [go_sem]) (by simp [go_sem]) (by simp [go_sem])
  clear b1 d1
  have cA_b := A1.hb
  have cA_f := A1.fz
  have cA_0 := A1.k0
  have cA_1 := A1.k1
  have cA_2 := A1.k2
  have cC_b := C1.hb
  have cC_f := C1.fz
  have cC_0 := C1.k0
  have cC_1 := C1.k1
  have cC_2 := C1.k2
  go_wp2_with fail
  clear cA_b cA_f cA_0 cA_1 cA_2 cC_b cC_f cC_0 cC_1 cC_2
  refine (madd_any ay am ad n _ n0 n1).mono ?_; rintro e w2 ⟨rfl, b2⟩
  have d2 : Below w1.heap.size w1 w2 := below_step (by repeat (first | exact Below.refl _ _ | refine below_drewN ?_ _ | refine Below.drew ?_ | refine Below.setCell ?_ (by simp) _ | refine Below.alloc ?_ (by simp) _)) b2
  have B2 := Lib.hid (below_step B1.out d2)
  have A2 := A1.keep d2
  have C2 := C1.keep d2
  clear A1 C1 b2 d2 B1
  rw [O1.out]
  simp only [Cal.orz, Cal.why, Bool.false_eq_true, if_false, if_true]
  have cA_b := A2.hb
  have cA_f := A2.fz
  have cA_0 := A2.k0
  have cA_1 := A2.k1
  have cA_2 := A2.k2
  have cC_b := C2.hb
  have cC_f := C2.fz
  have cC_0 := C2.k0
  have cC_1 := C2.k1
  have cC_2 := C2.k2
  go_wp2_with fail
  clear cA_b cA_f cA_0 cA_1 cA_2 cC_b cC_f cC_0 cC_1 cC_2
  refine (madd_any ay am ad k _ k0 k1).mono ?_; rintro e w3 ⟨rfl, b3⟩
  have d3 : Below w2.heap.size w2 w3 := below_step (by repeat (first | exact Below.refl _ _ | refine below_drewN ?_ _ | refine Below.drew ?_ | refine Below.setCell ?_ (by simp) _ | refine Below.alloc ?_ (by simp) _)) b3
  have B3 := Lib.hid (below_step B2.out d3)
  have A3 := A2.keep d3
  have C3 := C2.keep d3
  have aX := B2.out.size
  have nXA := Nat.ne_of_lt A2.hb
  have oXA := Nat.ne_of_gt A2.hb
  have nXC := Nat.ne_of_lt C2.hb
  have oXC := Nat.ne_of_gt C2.hb
  have X3 : Bk3 w3 (w2.heap.size) (.int .i64 (Mo.mY ay am n)) (.int .i64 (Mo.mM ay am n)) (.int .i64 (Mo.mD ay am ad n)) := Bk3.of b3 (by simp <;> omega) (by intro j; simp [go_sem]) (by simp [go_sem]) (by simp [go_sem]) (by simp [go_sem])
  clear A2 C2 b3 d3 B2
  rw [O2.out]
  simp only [Cal.orz, Cal.why, Bool.false_eq_true, if_false, if_true]
  have cA_b := A3.hb
  have cA_f := A3.fz
  have cA_0 := A3.k0
  have cA_1 := A3.k1
  have cA_2 := A3.k2
  have cC_b := C3.hb
  have cC_f := C3.fz
  have cC_0 := C3.k0
  have cC_1 := C3.k1
  have cC_2 := C3.k2
  have cX_b := X3.hb
  have cX_f := X3.fz
  have cX_0 := X3.k0
  have cX_1 := X3.k1
  have cX_2 := X3.k2
  go_wp2_with fail
  clear cA_b cA_f cA_0 cA_1 cA_2 cC_b cC_f cC_0 cC_1 cC_2 cX_b cX_f cX_0 cX_1 cX_2
  refine (madd_any bY bm bd n _ n0 n1).mono ?_; rintro e w4 ⟨rfl, b4⟩
  have d4 : Below w3.heap.size w3 w4 := below_step (by repeat (first | exact Below.refl _ _ | refine below_drewN ?_ _ | refine Below.drew ?_ | refine Below.setCell ?_ (by simp) _ | refine Below.alloc ?_ (by simp) _)) b4
  have B4 := Lib.hid (below_step B3.out d4)
  have A4 := A3.keep d4
  have C4 := C3.keep d4
  have X4 := X3.keep d4
  have aY := B3.out.size
  have nYA := Nat.ne_of_lt A3.hb
  have oYA := Nat.ne_of_gt A3.hb
  have nYC := Nat.ne_of_lt C3.hb
  have oYC := Nat.ne_of_gt C3.hb
  have nYX := Nat.ne_of_lt X3.hb
  have oYX := Nat.ne_of_gt X3.hb
  have Y4 : Bk3 w4 (w3.heap.size) (.int .i64 (Mo.mY ay am k)) (.int .i64 (Mo.mM ay am k)) (.int .i64 (Mo.mD ay am ad k)) := Bk3.of b4 (by simp <;> omega) (by intro j; simp [go_sem]) (by simp [go_sem]) (by simp [go_sem]) (by simp [go_sem])
  clear A3 C3 X3 b4 d4 B3
  rw [O3.out]
  simp only [Cal.orz, Cal.why, Bool.false_eq_true, if_false, if_true]
  have cA_b := A4.hb
  have cA_f := A4.fz
  have cA_0 := A4.k0
  have cA_1 := A4.k1
  have cA_2 := A4.k2
  have cC_b := C4.hb
  have cC_f := C4.fz
  have cC_0 := C4.k0
  have cC_1 := C4.k1
  have cC_2 := C4.k2
  have cX_b := X4.hb
  have cX_f := X4.fz
  have cX_0 := X4.k0
  have cX_1 := X4.k1
  have cX_2 := X4.k2
  have cY_b := Y4.hb
  have cY_f := Y4.fz
  have cY_0 := Y4.k0
  have cY_1 := Y4.k1
  have cY_2 := Y4.k2
  go_wp2_with fail
  clear cA_b cA_f cA_0 cA_1 cA_2 cC_b cC_f cC_0 cC_1 cC_2 cX_b cX_f cX_0 cX_1 cX_2 cY_b cY_f cY_0 cY_1 cY_2
  refine (dcompare _ _ _ _ _ _ _).mono ?_; rintro e w5 ⟨rfl, b5⟩
  have d5 : Below w4.heap.size w4 w5 := below_step (by repeat (first | exact Below.refl _ _ | refine below_drewN ?_ _ | refine Below.drew ?_ | refine Below.setCell ?_ (by simp) _ | refine Below.alloc ?_ (by simp) _)) b5
  have B5 := Lib.hid (below_step B4.out d5)
  have A5 := A4.keep d5
  have C5 := C4.keep d5
  have X5 := X4.keep d5
  have Y5 := Y4.keep d5
  have aZ := B4.out.size
  have nZA := Nat.ne_of_lt A4.hb
  have oZA := Nat.ne_of_gt A4.hb
  have nZC := Nat.ne_of_lt C4.hb
  have oZC := Nat.ne_of_gt C4.hb
  have nZX := Nat.ne_of_lt X4.hb
  have oZX := Nat.ne_of_gt X4.hb
  have nZY := Nat.ne_of_lt Y4.hb
  have oZY := Nat.ne_of_gt Y4.hb
  have Z5 : Bk3 w5 (w4.heap.size) (.int .i64 0) (.int .i64 0) (.int .i64 0) := Bk3.of b5 (by simp <;> omega) (by intro j; simp [go_sem]) (by simp [go_sem]) (by simp [go_sem]) (by simp [go_sem])
  clear A4 C4 X4 Y4 b5 d5 B4
  rw [HC.out]
  have cA_b := A5.hb
  have cA_f := A5.fz
  have cA_0 := A5.k0
  have cA_1 := A5.k1
  have cA_2 := A5.k2
  have cC_b := C5.hb
  have cC_f := C5.fz
  have cC_0 := C5.k0
  have cC_1 := C5.k1
  have cC_2 := C5.k2
  have cX_b := X5.hb
  have cX_f := X5.fz
  have cX_0 := X5.k0
  have cX_1 := X5.k1
  have cX_2 := X5.k2
  have cY_b := Y5.hb
  have cY_f := Y5.fz
  have cY_0 := Y5.k0
  have cY_1 := Y5.k1
  have cY_2 := Y5.k2
  have cZ_b := Z5.hb
  have cZ_f := Z5.fz
  have cZ_0 := Z5.k0
  have cZ_1 := Z5.k1
  have cZ_2 := Z5.k2
  go_wp2_with fail
  clear cA_b cA_f cA_0 cA_1 cA_2 cC_b cC_f cC_0 cC_1 cC_2 cX_b cX_f cX_0 cX_1 cX_2 cY_b cY_f cY_0 cY_1 cY_2 cZ_b cZ_f cZ_0 cZ_1 cZ_2
  refine (dcompare _ _ _ _ _ _ _).mono ?_; rintro e w6 ⟨rfl, b6⟩
  have d6 : Below w5.heap.size w5 w6 := below_step (by repeat (first | exact Below.refl _ _ | refine below_drewN ?_ _ | refine Below.drew ?_ | refine Below.setCell ?_ (by simp) _ | refine Below.alloc ?_ (by simp) _)) b6
  have B6 := Lib.hid (below_step B5.out d6)
  have A6 := A5.keep d6
  have C6 := C5.keep d6
  have X6 := X5.keep d6
  have Y6 := Y5.keep d6
  have Z6 := Z5.keep d6
  clear A5 C5 X5 Y5 Z5 b6 d6 B5
  rw [HC.out]
  
  
  have cA_b := A6.hb
  have cA_f := A6.fz
  have cA_0 := A6.k0
  have cA_1 := A6.k1
  have cA_2 := A6.k2
  have cC_b := C6.hb
  have cC_f := C6.fz
  have cC_0 := C6.k0
  have cC_1 := C6.k1
  have cC_2 := C6.k2
  have cX_b := X6.hb
  have cX_f := X6.fz
  have cX_0 := X6.k0
  have cX_1 := X6.k1
  have cX_2 := X6.k2
  have cY_b := Y6.hb
  have cY_f := Y6.fz
  have cY_0 := Y6.k0
  have cY_1 := Y6.k1
  have cY_2 := Y6.k2
  have cZ_b := Z6.hb
  have cZ_f := Z6.fz
  have cZ_0 := Z6.k0
  have cZ_1 := Z6.k1
  have cZ_2 := Z6.k2
  go_wp2_with fail
  clear cA_b cA_f cA_0 cA_1 cA_2 cC_b cC_f cC_0 cC_1 cC_2 cX_b cX_f cX_0 cX_1 cX_2 cY_b cY_f cY_0 cY_1 cY_2 cZ_b cZ_f cZ_0 cZ_1 cZ_2
  go_ret
  exact ⟨rfl, (by have hz := B6.out.size; repeat (first | exact B6.out | refine below_drewN ?_ _ | refine Below.drew ?_ | refine Below.setCell ?_ (by first | omega | (simp; done) | (simp; omega)) _ | refine Below.alloc ?_ (by first | omega | (simp; done) | (simp; omega)) _))⟩
set_option maxHeartbeats 2000000 in
set_option maxRecDepth 100000 in
theorem morder_lt_gt (ay am ad bY bm bd n k : Int) (w : World) (n0 : -9223372036854775808 ≤ n) (n1 : n ≤ 9223372036854775807) (k0 : -9223372036854775808 ≤ k) (k1 : k ≤ 9223372036854775807) (ok1 : Mo.mok ay am ad n = true) (hn : n < k) (hc : cmpD (Mo.mY ay am n) (Mo.mM ay am n) (Mo.mD ay am ad n) (Mo.mY ay am k) (Mo.mM ay am k) (Mo.mD ay am ad k) = -1) (ok2 : Mo.mok ay am ad k = true) (ok3 : Mo.mok bY bm bd n = true) (hd : 0 < cmpD ay am ad bY bm bd) :
    Calls Try.prog 7 #[.agg #[.int .i64 ay, .int .i64 am, .int .i64 ad], .agg #[.int .i64 bY, .int .i64 bm, .int .i64 bd], .int .i64 n, .int .i64 k] w fun e w' => e = .returned (.bool true) ∧ Below w.heap.size w w' := by
  have O1 := Lib.hid ok1; have O2 := Lib.hid ok2; have O3 := Lib.hid ok3
  clear ok1 ok2 ok3
  have HC := Lib.hid hc; clear hc
  go_enter Try.func7, Try.ntmps7
  go_wp2_with fail
  refine (lives6 _).mono ?_; rintro e w1 ⟨rfl, b1⟩
  have d1 : Below w.heap.size w w1 := below_step (by repeat (first | exact Below.refl _ _ | refine below_drewN ?_ _ | refine Below.drew ?_ | refine Below.setCell ?_ (by simp) _ | refine Below.alloc ?_ (by simp) _)) b1
  have B1 := Lib.hid d1
  have A1 : Bk3 w1 (w.heap.size) (.int .i64 ay) (.int .i64 am) (.int .i64 ad) := Bk3.of b1 (by simp <;> omega) (by intro j; simp [go_sem]) (by simp [go_sem]) (by simp [go_sem]) (by simp [go_sem])
  have C1 : Bk3 w1 (w.heap.size + 1) (.int .i64 bY) (.int .i64 bm) (.int .i64 bd) := Bk3.of b1 (by simp <;> omega) (by intro j; simp [go_sem]) (by simp [go_sem]) (by simp [go_sem]) (by simp [go_sem])
  clear b1 d1
  have cA_b := A1.hb
  have cA_f := A1.fz
  have cA_0 := A1.k0
  have cA_1 := A1.k1
  have cA_2 := A1.k2
  have cC_b := C1.hb
  have cC_f := C1.fz
  have cC_0 := C1.k0
  have cC_1 := C1.k1
  have cC_2 := C1.k2
  go_wp2_with fail
  clear cA_b cA_f cA_0 cA_1 cA_2 cC_b cC_f cC_0 cC_1 cC_2
  refine (madd_any ay am ad n _ n0 n1).mono ?_; rintro e w2 ⟨rfl, b2⟩
  have d2 : Below w1.heap.size w1 w2 := below_step (by repeat (first | exact Below.refl _ _ | refine below_drewN ?_ _ | refine Below.drew ?_ | refine Below.setCell ?_ (by simp) _ | refine Below.alloc ?_ (by simp) _)) b2
  have B2 := Lib.hid (below_step B1.out d2)
  have A2 := A1.keep d2
  have C2 := C1.keep d2
  clear A1 C1 b2 d2 B1
  rw [O1.out]
  simp only [Cal.orz, Cal.why, Bool.false_eq_true, if_false, if_true]
  have cA_b := A2.hb
  have cA_f := A2.fz
  have cA_0 := A2.k0
  have cA_1 := A2.k1
  have cA_2 := A2.k2
  have cC_b := C2.hb
  have cC_f := C2.fz
  have cC_0 := C2.k0
  have cC_1 := C2.k1
  have cC_2 := C2.k2
  go_wp2_with fail
  clear cA_b cA_f cA_0 cA_1 cA_2 cC_b cC_f cC_0 cC_1 cC_2
  refine (madd_any ay am ad k _ k0 k1).mono ?_; rintro e w3 ⟨rfl, b3⟩
  have d3 : Below w2.heap.size w2 w3 := below_step (by repeat (first | exact Below.refl _ _ | refine below_drewN ?_ _ | refine Below.drew ?_ | refine Below.setCell ?_ (by simp) _ | refine Below.alloc ?_ (by simp) _)) b3
  have B3 := Lib.hid (below_step B2.out d3)
  have A3 := A2.keep d3
  have C3 := C2.keep d3
  have aX := B2.out.size
  have nXA := Nat.ne_of_lt A2.hb
  have oXA := Nat.ne_of_gt A2.hb
  have nXC := Nat.ne_of_lt C2.hb
  have oXC := Nat.ne_of_gt C2.hb
  have X3 : Bk3 w3 (w2.heap.size) (.int .i64 (Mo.mY ay am n)) (.int .i64 (Mo.mM ay am n)) (.int .i64 (Mo.mD ay am ad n)) := Bk3.of b3 (by simp <;> omega) (by intro j; simp [go_sem]) (by simp [go_sem]) (by simp [go_sem]) (by simp [go_sem])
  clear A2 C2 b3 d3 B2
  rw [O2.out]
  simp only [Cal.orz, Cal.why, Bool.false_eq_true, if_false, if_true]
  have cA_b := A3.hb
  have cA_f := A3.fz
  have cA_0 := A3.k0
  have cA_1 := A3.k1
  have cA_2 := A3.k2
  have cC_b := C3.hb
  have cC_f := C3.fz
  have cC_0 := C3.k0
  have cC_1 := C3.k1
  have cC_2 := C3.k2
  have cX_b := X3.hb
  have cX_f := X3.fz
  have cX_0 := X3.k0
  have cX_1 := X3.k1
  have cX_2 := X3.k2
  go_wp2_with fail
  clear cA_b cA_f cA_0 cA_1 cA_2 cC_b cC_f cC_0 cC_1 cC_2 cX_b cX_f cX_0 cX_1 cX_2
  refine (madd_any bY bm bd n _ n0 n1).mono ?_; rintro e w4 ⟨rfl, b4⟩
  have d4 : Below w3.heap.size w3 w4 := below_step (by repeat (first | exact Below.refl _ _ | refine below_drewN ?_ _ | refine Below.drew ?_ | refine Below.setCell ?_ (by simp) _ | refine Below.alloc ?_ (by simp) _)) b4
  have B4 := Lib.hid (below_step B3.out d4)
  have A4 := A3.keep d4
  have C4 := C3.keep d4
  have X4 := X3.keep d4
  have aY := B3.out.size
  have nYA := Nat.ne_of_lt A3.hb
  have oYA := Nat.ne_of_gt A3.hb
  have nYC := Nat.ne_of_lt C3.hb
  have oYC := Nat.ne_of_gt C3.hb
  have nYX := Nat.ne_of_lt X3.hb
  have oYX := Nat.ne_of_gt X3.hb
  have Y4 : Bk3 w4 (w3.heap.size) (.int .i64 (Mo.mY ay am k)) (.int .i64 (Mo.mM ay am k)) (.int .i64 (Mo.mD ay am ad k)) := Bk3.of b4 (by simp <;> omega) (by intro j; simp [go_sem]) (by simp [go_sem]) (by simp [go_sem]) (by simp [go_sem])
  clear A3 C3 X3 b4 d4 B3
  rw [O3.out]
  simp only [Cal.orz, Cal.why, Bool.false_eq_true, if_false, if_true]
  have cA_b := A4.hb
  have cA_f := A4.fz
  have cA_0 := A4.k0
  have cA_1 := A4.k1
  have cA_2 := A4.k2
  have cC_b := C4.hb
  have cC_f := C4.fz
  have cC_0 := C4.k0
  have cC_1 := C4.k1
  have cC_2 := C4.k2
  have cX_b := X4.hb
  have cX_f := X4.fz
  have cX_0 := X4.k0
  have cX_1 := X4.k1
  have cX_2 := X4.k2
  have cY_b := Y4.hb
  have cY_f := Y4.fz
  have cY_0 := Y4.k0
  have cY_1 := Y4.k1
  have cY_2 := Y4.k2
  go_wp2_with fail
  clear cA_b cA_f cA_0 cA_1 cA_2 cC_b cC_f cC_0 cC_1 cC_2 cX_b cX_f cX_0 cX_1 cX_2 cY_b cY_f cY_0 cY_1 cY_2
  refine (dcompare _ _ _ _ _ _ _).mono ?_; rintro e w5 ⟨rfl, b5⟩
  have d5 : Below w4.heap.size w4 w5 := below_step (by repeat (first | exact Below.refl _ _ | refine below_drewN ?_ _ | refine Below.drew ?_ | refine Below.setCell ?_ (by simp) _ | refine Below.alloc ?_ (by simp) _)) b5
  have B5 := Lib.hid (below_step B4.out d5)
  have A5 := A4.keep d5
  have C5 := C4.keep d5
  have X5 := X4.keep d5
  have Y5 := Y4.keep d5
  have aZ := B4.out.size
  have nZA := Nat.ne_of_lt A4.hb
  have oZA := Nat.ne_of_gt A4.hb
  have nZC := Nat.ne_of_lt C4.hb
  have oZC := Nat.ne_of_gt C4.hb
  have nZX := Nat.ne_of_lt X4.hb
  have oZX := Nat.ne_of_gt X4.hb
  have nZY := Nat.ne_of_lt Y4.hb
  have oZY := Nat.ne_of_gt Y4.hb
  have Z5 : Bk3 w5 (w4.heap.size) (.int .i64 (Mo.mY bY bm n)) (.int .i64 (Mo.mM bY bm n)) (.int .i64 (Mo.mD bY bm bd n)) := Bk3.of b5 (by simp <;> omega) (by intro j; simp [go_sem]) (by simp [go_sem]) (by simp [go_sem]) (by simp [go_sem])
  clear A4 C4 X4 Y4 b5 d5 B4
  rw [HC.out]
  have cA_b := A5.hb
  have cA_f := A5.fz
  have cA_0 := A5.k0
  have cA_1 := A5.k1
  have cA_2 := A5.k2
  have cC_b := C5.hb
  have cC_f := C5.fz
  have cC_0 := C5.k0
  have cC_1 := C5.k1
  have cC_2 := C5.k2
  have cX_b := X5.hb
  have cX_f := X5.fz
  have cX_0 := X5.k0
  have cX_1 := X5.k1
  have cX_2 := X5.k2
  have cY_b := Y5.hb
  have cY_f := Y5.fz
  have cY_0 := Y5.k0
  have cY_1 := Y5.k1
  have cY_2 := Y5.k2
  have cZ_b := Z5.hb
  have cZ_f := Z5.fz
  have cZ_0 := Z5.k0
  have cZ_1 := Z5.k1
  have cZ_2 := Z5.k2
  go_wp2_with fail
  clear cA_b cA_f cA_0 cA_1 cA_2 cC_b cC_f cC_0 cC_1 cC_2 cX_b cX_f cX_0 cX_1 cX_2 cY_b cY_f cY_0 cY_1 cY_2 cZ_b cZ_f cZ_0 cZ_1 cZ_2
  refine (dcompare _ _ _ _ _ _ _).mono ?_; rintro e w6 ⟨rfl, b6⟩
  have d6 : Below w5.heap.size w5 w6 := below_step (by repeat (first | exact Below.refl _ _ | refine below_drewN ?_ _ | refine Below.drew ?_ | refine Below.setCell ?_ (by simp) _ | refine Below.alloc ?_ (by simp) _)) b6
  have B6 := Lib.hid (below_step B5.out d6)
  have A6 := A5.keep d6
  have C6 := C5.keep d6
  have X6 := X5.keep d6
  have Y6 := Y5.keep d6
  have Z6 := Z5.keep d6
  clear A5 C5 X5 Y5 Z5 b6 d6 B5
  rw [HC.out]
  have cA_b := A6.hb
  have cA_f := A6.fz
  have cA_0 := A6.k0
  have cA_1 := A6.k1
  have cA_2 := A6.k2
  have cC_b := C6.hb
  have cC_f := C6.fz
  have cC_0 := C6.k0
  have cC_1 := C6.k1
  have cC_2 := C6.k2
  have cX_b := X6.hb
  have cX_f := X6.fz
  have cX_0 := X6.k0
  have cX_1 := X6.k1
  have cX_2 := X6.k2
  have cY_b := Y6.hb
  have cY_f := Y6.fz
  have cY_0 := Y6.k0
  have cY_1 := Y6.k1
  have cY_2 := Y6.k2
  have cZ_b := Z6.hb
  have cZ_f := Z6.fz
  have cZ_0 := Z6.k0
  have cZ_1 := Z6.k1
  have cZ_2 := Z6.k2
  go_wp2_with fail
  clear cA_b cA_f cA_0 cA_1 cA_2 cC_b cC_f cC_0 cC_1 cC_2 cX_b cX_f cX_0 cX_1 cX_2 cY_b cY_f cY_0 cY_1 cY_2 cZ_b cZ_f cZ_0 cZ_1 cZ_2
  refine (dcompare _ _ _ _ _ _ _).mono ?_; rintro e w7 ⟨rfl, b7⟩
  have d7 : Below w6.heap.size w6 w7 := below_step (by repeat (first | exact Below.refl _ _ | refine below_drewN ?_ _ | refine Below.drew ?_ | refine Below.setCell ?_ (by simp) _ | refine Below.alloc ?_ (by simp) _)) b7
  have B7 := Lib.hid (below_step B6.out d7)
  have A7 := A6.keep d7
  have C7 := C6.keep d7
  have X7 := X6.keep d7
  have Y7 := Y6.keep d7
  have Z7 := Z6.keep d7
  clear A6 C6 X6 Y6 Z6 b7 d7 B6
  
  have cA_b := A7.hb
  have cA_f := A7.fz
  have cA_0 := A7.k0
  have cA_1 := A7.k1
  have cA_2 := A7.k2
  have cC_b := C7.hb
  have cC_f := C7.fz
  have cC_0 := C7.k0
  have cC_1 := C7.k1
  have cC_2 := C7.k2
  have cX_b := X7.hb
  have cX_f := X7.fz
  have cX_0 := X7.k0
  have cX_1 := X7.k1
  have cX_2 := X7.k2
  have cY_b := Y7.hb
  have cY_f := Y7.fz
  have cY_0 := Y7.k0
  have cY_1 := Y7.k1
  have cY_2 := Y7.k2
  have cZ_b := Z7.hb
  have cZ_f := Z7.fz
  have cZ_0 := Z7.k0
  have cZ_1 := Z7.k1
  have cZ_2 := Z7.k2
  go_wp2_with fail
  clear cA_b cA_f cA_0 cA_1 cA_2 cC_b cC_f cC_0 cC_1 cC_2 cX_b cX_f cX_0 cX_1 cX_2 cY_b cY_f cY_0 cY_1 cY_2 cZ_b cZ_f cZ_0 cZ_1 cZ_2
  go_ret
  exact ⟨rfl, (by have hz := B7.out.size; repeat (first | exact B7.out | refine below_drewN ?_ _ | refine Below.drew ?_ | refine Below.setCell ?_ (by first | omega | (simp; done) | (simp; omega)) _ | refine Below.alloc ?_ (by first | omega | (simp; done) | (simp; omega)) _))⟩
set_option maxHeartbeats 2000000 in
set_option maxRecDepth 100000 in
theorem morder_lt_le (ay am ad bY bm bd n k : Int) (w : World) (n0 : -9223372036854775808 ≤ n) (n1 : n ≤ 9223372036854775807) (k0 : -9223372036854775808 ≤ k) (k1 : k ≤ 9223372036854775807) (ok1 : Mo.mok ay am ad n = true) (hn : n < k) (hc : cmpD (Mo.mY ay am n) (Mo.mM ay am n) (Mo.mD ay am ad n) (Mo.mY ay am k) (Mo.mM ay am k) (Mo.mD ay am ad k) = -1) (ok2 : Mo.mok ay am ad k = true) (ok3 : Mo.mok bY bm bd n = true) (hd : cmpD ay am ad bY bm bd ≤ 0) (hf : cmpD (Mo.mY ay am n) (Mo.mM ay am n) (Mo.mD ay am ad n) (Mo.mY bY bm n) (Mo.mM bY bm n) (Mo.mD bY bm bd n) ≤ 0) :
    Calls Try.prog 7 #[.agg #[.int .i64 ay, .int .i64 am, .int .i64 ad], .agg #[.int .i64 bY, .int .i64 bm, .int .i64 bd], .int .i64 n, .int .i64 k] w fun e w' => e = .returned (.bool true) ∧ Below w.heap.size w w' := by
  have O1 := Lib.hid ok1; have O2 := Lib.hid ok2; have O3 := Lib.hid ok3
  clear ok1 ok2 ok3
  have HC := Lib.hid hc; clear hc
  go_enter Try.func7, Try.ntmps7
  go_wp2_with fail
  refine (lives6 _).mono ?_; rintro e w1 ⟨rfl, b1⟩
  have d1 : Below w.heap.size w w1 := below_step (by repeat (first | exact Below.refl _ _ | refine below_drewN ?_ _ | refine Below.drew ?_ | refine Below.setCell ?_ (by simp) _ | refine Below.alloc ?_ (by simp) _)) b1
  have B1 := Lib.hid d1
  have A1 : Bk3 w1 (w.heap.size) (.int .i64 ay) (.int .i64 am) (.int .i64 ad) := Bk3.of b1 (by simp <;> omega) (by intro j; simp [go_sem]) (by simp [go_sem]) (by simp [go_sem]) (by simp [go_sem])
  have C1 : Bk3 w1 (w.heap.size + 1) (.int .i64 bY) (.int .i64 bm) (.int .i64 bd) := Bk3.of b1 (by simp <;> omega) (by intro j; simp [go_sem]) (by simp [go_sem]) (by simp [go_sem]) (by simp [go_sem])
  clear b1 d1
  have cA_b := A1.hb
  have cA_f := A1.fz
  have cA_0 := A1.k0
  have cA_1 := A1.k1
  have cA_2 := A1.k2
  have cC_b := C1.hb
  have cC_f := C1.fz
  have cC_0 := C1.k0
  have cC_1 := C1.k1
  have cC_2 := C1.k2
  go_wp2_with fail
  clear cA_b cA_f cA_0 cA_1 cA_2 cC_b cC_f cC_0 cC_1 cC_2
  refine (madd_any ay am ad n _ n0 n1).mono ?_; rintro e w2 ⟨rfl, b2⟩
  have d2 : Below w1.heap.size w1 w2 := below_step (by repeat (first | exact Below.refl _ _ | refine below_drewN ?_ _ | refine Below.drew ?_ | refine Below.setCell ?_ (by simp) _ | refine Below.alloc ?_ (by simp) _)) b2
  have B2 := Lib.hid (below_step B1.out d2)
  have A2 := A1.keep d2
  have C2 := C1.keep d2
  clear A1 C1 b2 d2 B1
  rw [O1.out]
  simp only [Cal.orz, Cal.why, Bool.false_eq_true, if_false, if_true]
  have cA_b := A2.hb
  have cA_f := A2.fz
  have cA_0 := A2.k0
  have cA_1 := A2.k1
  have cA_2 := A2.k2
  have cC_b := C2.hb
  have cC_f := C2.fz
  have cC_0 := C2.k0
  have cC_1 := C2.k1
  have cC_2 := C2.k2
  go_wp2_with fail
  clear cA_b cA_f cA_0 cA_1 cA_2 cC_b cC_f cC_0 cC_1 cC_2
  refine (madd_any ay am ad k _ k0 k1).mono ?_; rintro e w3 ⟨rfl, b3⟩
  have d3 : Below w2.heap.size w2 w3 := below_step (by repeat (first | exact Below.refl _ _ | refine below_drewN ?_ _ | refine Below.drew ?_ | refine Below.setCell ?_ (by simp) _ | refine Below.alloc ?_ (by simp) _)) b3
  have B3 := Lib.hid (below_step B2.out d3)
  have A3 := A2.keep d3
  have C3 := C2.keep d3
  have aX := B2.out.size
  have nXA := Nat.ne_of_lt A2.hb
  have oXA := Nat.ne_of_gt A2.hb
  have nXC := Nat.ne_of_lt C2.hb
  have oXC := Nat.ne_of_gt C2.hb
  have X3 : Bk3 w3 (w2.heap.size) (.int .i64 (Mo.mY ay am n)) (.int .i64 (Mo.mM ay am n)) (.int .i64 (Mo.mD ay am ad n)) := Bk3.of b3 (by simp <;> omega) (by intro j; simp [go_sem]) (by simp [go_sem]) (by simp [go_sem]) (by simp [go_sem])
  clear A2 C2 b3 d3 B2
  rw [O2.out]
  simp only [Cal.orz, Cal.why, Bool.false_eq_true, if_false, if_true]
  have cA_b := A3.hb
  have cA_f := A3.fz
  have cA_0 := A3.k0
  have cA_1 := A3.k1
  have cA_2 := A3.k2
  have cC_b := C3.hb
  have cC_f := C3.fz
  have cC_0 := C3.k0
  have cC_1 := C3.k1
  have cC_2 := C3.k2
  have cX_b := X3.hb
  have cX_f := X3.fz
  have cX_0 := X3.k0
  have cX_1 := X3.k1
  have cX_2 := X3.k2
  go_wp2_with fail
  clear cA_b cA_f cA_0 cA_1 cA_2 cC_b cC_f cC_0 cC_1 cC_2 cX_b cX_f cX_0 cX_1 cX_2
  refine (madd_any bY bm bd n _ n0 n1).mono ?_; rintro e w4 ⟨rfl, b4⟩
  have d4 : Below w3.heap.size w3 w4 := below_step (by repeat (first | exact Below.refl _ _ | refine below_drewN ?_ _ | refine Below.drew ?_ | refine Below.setCell ?_ (by simp) _ | refine Below.alloc ?_ (by simp) _)) b4
  have B4 := Lib.hid (below_step B3.out d4)
  have A4 := A3.keep d4
  have C4 := C3.keep d4
  have X4 := X3.keep d4
  have aY := B3.out.size
  have nYA := Nat.ne_of_lt A3.hb
  have oYA := Nat.ne_of_gt A3.hb
  have nYC := Nat.ne_of_lt C3.hb
  have oYC := Nat.ne_of_gt C3.hb
  have nYX := Nat.ne_of_lt X3.hb
  have oYX := Nat.ne_of_gt X3.hb
  have Y4 : Bk3 w4 (w3.heap.size) (.int .i64 (Mo.mY ay am k)) (.int .i64 (Mo.mM ay am k)) (.int .i64 (Mo.mD ay am ad k)) := Bk3.of b4 (by simp <;> omega) (by intro j; simp [go_sem]) (by simp [go_sem]) (by simp [go_sem]) (by simp [go_sem])
  clear A3 C3 X3 b4 d4 B3
  rw [O3.out]
  simp only [Cal.orz, Cal.why, Bool.false_eq_true, if_false, if_true]
  have cA_b := A4.hb
  have cA_f := A4.fz
  have cA_0 := A4.k0
  have cA_1 := A4.k1
  have cA_2 := A4.k2
  have cC_b := C4.hb
  have cC_f := C4.fz
  have cC_0 := C4.k0
  have cC_1 := C4.k1
  have cC_2 := C4.k2
  have cX_b := X4.hb
  have cX_f := X4.fz
  have cX_0 := X4.k0
  have cX_1 := X4.k1
  have cX_2 := X4.k2
  have cY_b := Y4.hb
  have cY_f := Y4.fz
  have cY_0 := Y4.k0
  have cY_1 := Y4.k1
  have cY_2 := Y4.k2
  go_wp2_with fail
  clear cA_b cA_f cA_0 cA_1 cA_2 cC_b cC_f cC_0 cC_1 cC_2 cX_b cX_f cX_0 cX_1 cX_2 cY_b cY_f cY_0 cY_1 cY_2
  refine (dcompare _ _ _ _ _ _ _).mono ?_; rintro e w5 ⟨rfl, b5⟩
  have d5 : Below w4.heap.size w4 w5 := below_step (by repeat (first | exact Below.refl _ _ | refine below_drewN ?_ _ | refine Below.drew ?_ | refine Below.setCell ?_ (by simp) _ | refine Below.alloc ?_ (by simp) _)) b5
  have B5 := Lib.hid (below_step B4.out d5)
  have A5 := A4.keep d5
  have C5 := C4.keep d5
  have X5 := X4.keep d5
  have Y5 := Y4.keep d5
  have aZ := B4.out.size
  have nZA := Nat.ne_of_lt A4.hb
  have oZA := Nat.ne_of_gt A4.hb
  have nZC := Nat.ne_of_lt C4.hb
  have oZC := Nat.ne_of_gt C4.hb
  have nZX := Nat.ne_of_lt X4.hb
  have oZX := Nat.ne_of_gt X4.hb
  have nZY := Nat.ne_of_lt Y4.hb
  have oZY := Nat.ne_of_gt Y4.hb
  have Z5 : Bk3 w5 (w4.heap.size) (.int .i64 (Mo.mY bY bm n)) (.int .i64 (Mo.mM bY bm n)) (.int .i64 (Mo.mD bY bm bd n)) := Bk3.of b5 (by simp <;> omega) (by intro j; simp [go_sem]) (by simp [go_sem]) (by simp [go_sem]) (by simp [go_sem])
  clear A4 C4 X4 Y4 b5 d5 B4
  rw [HC.out]
  have cA_b := A5.hb
  have cA_f := A5.fz
  have cA_0 := A5.k0
  have cA_1 := A5.k1
  have cA_2 := A5.k2
  have cC_b := C5.hb
  have cC_f := C5.fz
  have cC_0 := C5.k0
  have cC_1 := C5.k1
  have cC_2 := C5.k2
  have cX_b := X5.hb
  have cX_f := X5.fz
  have cX_0 := X5.k0
  have cX_1 := X5.k1
  have cX_2 := X5.k2
  have cY_b := Y5.hb
  have cY_f := Y5.fz
  have cY_0 := Y5.k0
  have cY_1 := Y5.k1
  have cY_2 := Y5.k2
  have cZ_b := Z5.hb
  have cZ_f := Z5.fz
  have cZ_0 := Z5.k0
  have cZ_1 := Z5.k1
  have cZ_2 := Z5.k2
  go_wp2_with fail
  clear cA_b cA_f cA_0 cA_1 cA_2 cC_b cC_f cC_0 cC_1 cC_2 cX_b cX_f cX_0 cX_1 cX_2 cY_b cY_f cY_0 cY_1 cY_2 cZ_b cZ_f cZ_0 cZ_1 cZ_2
  refine (dcompare _ _ _ _ _ _ _).mono ?_; rintro e w6 ⟨rfl, b6⟩
  have d6 : Below w5.heap.size w5 w6 := below_step (by repeat (first | exact Below.refl _ _ | refine below_drewN ?_ _ | refine Below.drew ?_ | refine Below.setCell ?_ (by simp) _ | refine Below.alloc ?_ (by simp) _)) b6
  have B6 := Lib.hid (below_step B5.out d6)
  have A6 := A5.keep d6
  have C6 := C5.keep d6
  have X6 := X5.keep d6
  have Y6 := Y5.keep d6
  have Z6 := Z5.keep d6
  clear A5 C5 X5 Y5 Z5 b6 d6 B5
  rw [HC.out]
  have cA_b := A6.hb
  have cA_f := A6.fz
  have cA_0 := A6.k0
  have cA_1 := A6.k1
  have cA_2 := A6.k2
  have cC_b := C6.hb
  have cC_f := C6.fz
  have cC_0 := C6.k0
  have cC_1 := C6.k1
  have cC_2 := C6.k2
  have cX_b := X6.hb
  have cX_f := X6.fz
  have cX_0 := X6.k0
  have cX_1 := X6.k1
  have cX_2 := X6.k2
  have cY_b := Y6.hb
  have cY_f := Y6.fz
  have cY_0 := Y6.k0
  have cY_1 := Y6.k1
  have cY_2 := Y6.k2
  have cZ_b := Z6.hb
  have cZ_f := Z6.fz
  have cZ_0 := Z6.k0
  have cZ_1 := Z6.k1
  have cZ_2 := Z6.k2
  go_wp2_with fail
  clear cA_b cA_f cA_0 cA_1 cA_2 cC_b cC_f cC_0 cC_1 cC_2 cX_b cX_f cX_0 cX_1 cX_2 cY_b cY_f cY_0 cY_1 cY_2 cZ_b cZ_f cZ_0 cZ_1 cZ_2
  refine (dcompare _ _ _ _ _ _ _).mono ?_; rintro e w7 ⟨rfl, b7⟩
  have d7 : Below w6.heap.size w6 w7 := below_step (by repeat (first | exact Below.refl _ _ | refine below_drewN ?_ _ | refine Below.drew ?_ | refine Below.setCell ?_ (by simp) _ | refine Below.alloc ?_ (by simp) _)) b7
  have B7 := Lib.hid (below_step B6.out d7)
  have A7 := A6.keep d7
  have C7 := C6.keep d7
  have X7 := X6.keep d7
  have Y7 := Y6.keep d7
  have Z7 := Z6.keep d7
  clear A6 C6 X6 Y6 Z6 b7 d7 B6
  have cA_b := A7.hb
  have cA_f := A7.fz
  have cA_0 := A7.k0
  have cA_1 := A7.k1
  have cA_2 := A7.k2
  have cC_b := C7.hb
  have cC_f := C7.fz
  have cC_0 := C7.k0
  have cC_1 := C7.k1
  have cC_2 := C7.k2
  have cX_b := X7.hb
  have cX_f := X7.fz
  have cX_0 := X7.k0
  have cX_1 := X7.k1
  have cX_2 := X7.k2
  have cY_b := Y7.hb
  have cY_f := Y7.fz
  have cY_0 := Y7.k0
  have cY_1 := Y7.k1
  have cY_2 := Y7.k2
  have cZ_b := Z7.hb
  have cZ_f := Z7.fz
  have cZ_0 := Z7.k0
  have cZ_1 := Z7.k1
  have cZ_2 := Z7.k2
  go_wp2_with fail
  clear cA_b cA_f cA_0 cA_1 cA_2 cC_b cC_f cC_0 cC_1 cC_2 cX_b cX_f cX_0 cX_1 cX_2 cY_b cY_f cY_0 cY_1 cY_2 cZ_b cZ_f cZ_0 cZ_1 cZ_2
  refine (dcompare _ _ _ _ _ _ _).mono ?_; rintro e w8 ⟨rfl, b8⟩
  have d8 : Below w7.heap.size w7 w8 := below_step (by repeat (first | exact Below.refl _ _ | refine below_drewN ?_ _ | refine Below.drew ?_ | refine Below.setCell ?_ (by simp) _ | refine Below.alloc ?_ (by simp) _)) b8
  have B8 := Lib.hid (below_step B7.out d8)
  have A8 := A7.keep d8
  have C8 := C7.keep d8
  have X8 := X7.keep d8
  have Y8 := Y7.keep d8
  have Z8 := Z7.keep d8
  clear A7 C7 X7 Y7 Z7 b8 d8 B7
  have cA_b := A8.hb
  have cA_f := A8.fz
  have cA_0 := A8.k0
  have cA_1 := A8.k1
  have cA_2 := A8.k2
  have cC_b := C8.hb
  have cC_f := C8.fz
  have cC_0 := C8.k0
  have cC_1 := C8.k1
  have cC_2 := C8.k2
  have cX_b := X8.hb
  have cX_f := X8.fz
  have cX_0 := X8.k0
  have cX_1 := X8.k1
  have cX_2 := X8.k2
  have cY_b := Y8.hb
  have cY_f := Y8.fz
  have cY_0 := Y8.k0
  have cY_1 := Y8.k1
  have cY_2 := Y8.k2
  have cZ_b := Z8.hb
  have cZ_f := Z8.fz
  have cZ_0 := Z8.k0
  have cZ_1 := Z8.k1
  have cZ_2 := Z8.k2
  go_wp2_with fail
  clear cA_b cA_f cA_0 cA_1 cA_2 cC_b cC_f cC_0 cC_1 cC_2 cX_b cX_f cX_0 cX_1 cX_2 cY_b cY_f cY_0 cY_1 cY_2 cZ_b cZ_f cZ_0 cZ_1 cZ_2
  go_ret
  exact ⟨rfl, (by have hz := B8.out.size; repeat (first | exact B8.out | refine below_drewN ?_ _ | refine Below.drew ?_ | refine Below.setCell ?_ (by first | omega | (simp; done) | (simp; omega)) _ | refine Below.alloc ?_ (by first | omega | (simp; done) | (simp; omega)) _))⟩
set_option maxHeartbeats 2000000 in
set_option maxRecDepth 100000 in
theorem morder_eq_no (ay am ad bY bm bd n k : Int) (w : World) (n0 : -9223372036854775808 ≤ n) (n1 : n ≤ 9223372036854775807) (k0 : -9223372036854775808 ≤ k) (k1 : k ≤ 9223372036854775807) (ok1 : Mo.mok ay am ad n = true) (hn : n ≤ k) (hn2 : k ≤ n) (hc : cmpD (Mo.mY ay am n) (Mo.mM ay am n) (Mo.mD ay am ad n) (Mo.mY ay am k) (Mo.mM ay am k) (Mo.mD ay am ad k) = 0) (ok2 : Mo.mok ay am ad k = true) (ok3 : Mo.mok bY bm bd n = false) :
    Calls Try.prog 7 #[.agg #[.int .i64 ay, .int .i64 am, .int .i64 ad], .agg #[.int .i64 bY, .int .i64 bm, .int .i64 bd], .int .i64 n, .int .i64 k] w fun e w' => e = .returned (.bool true) ∧ Below w.heap.size w w' := by
  have O1 := Lib.hid ok1; have O2 := Lib.hid ok2; have O3 := Lib.hid ok3
  clear ok1 ok2 ok3
  have HC := Lib.hid hc; clear hc
  go_enter Try.func7, Try.ntmps7
  go_wp2_with fail
  refine (lives6 _).mono ?_; rintro e w1 ⟨rfl, b1⟩
  have d1 : Below w.heap.size w w1 := below_step (by repeat (first | exact Below.refl _ _ | refine below_drewN ?_ _ | refine Below.drew ?_ | refine Below.setCell ?_ (by simp) _ | refine Below.alloc ?_ (by simp) _)) b1
  have B1 := Lib.hid d1
  have A1 : Bk3 w1 (w.heap.size) (.int .i64 ay) (.int .i64 am) (.int .i64 ad) := Bk3.of b1 (by simp <;> omega) (by intro j; simp [go_sem]) (by simp [go_sem]) (by simp [go_sem]) (by simp [go_sem])
  have C1 : Bk3 w1 (w.heap.size + 1) (.int .i64 bY) (.int .i64 bm) (.int .i64 bd) := Bk3.of b1 (by simp <;> omega) (by intro j; simp [go_sem]) (by simp [go_sem]) (by simp [go_sem]) (by simp [go_sem])
  clear b1 d1
  have cA_b := A1.hb
  have cA_f := A1.fz
  have cA_0 := A1.k0
  have cA_1 := A1.k1
  have cA_2 := A1.k2
  have cC_b := C1.hb
  have cC_f := C1.fz
  have cC_0 := C1.k0
  have cC_1 := C1.k1
  have cC_2 := C1.k2
  go_wp2_with fail
  clear cA_b cA_f cA_0 cA_1 cA_2 cC_b cC_f cC_0 cC_1 cC_2
  refine (madd_any ay am ad n _ n0 n1).mono ?_; rintro e w2 ⟨rfl, b2⟩
  have d2 : Below w1.heap.size w1 w2 := below_step (by repeat (first | exact Below.refl _ _ | refine below_drewN ?_ _ | refine Below.drew ?_ | refine Below.setCell ?_ (by simp) _ | refine Below.alloc ?_ (by simp) _)) b2
  have B2 := Lib.hid (below_step B1.out d2)
  have A2 := A1.keep d2
  have C2 := C1.keep d2
  clear A1 C1 b2 d2 B1
  rw [O1.out]
  simp only [Cal.orz, Cal.why, Bool.false_eq_true, if_false, if_true]
  have cA_b := A2.hb
  have cA_f := A2.fz
  have cA_0 := A2.k0
  have cA_1 := A2.k1
  have cA_2 := A2.k2
  have cC_b := C2.hb
  have cC_f := C2.fz
  have cC_0 := C2.k0
  have cC_1 := C2.k1
  have cC_2 := C2.k2
  go_wp2_with fail
  clear cA_b cA_f cA_0 cA_1 cA_2 cC_b cC_f cC_0 cC_1 cC_2
  refine (madd_any ay am ad k _ k0 k1).mono ?_; rintro e w3 ⟨rfl, b3⟩
  have d3 : Below w2.heap.size w2 w3 := below_step (by repeat (first | exact Below.refl _ _ | refine below_drewN ?_ _ | refine Below.drew ?_ | refine Below.setCell ?_ (by simp) _ | refine Below.alloc ?_ (by simp) _)) b3
  have B3 := Lib.hid (below_step B2.out d3)
  have A3 := A2.keep d3
  have C3 := C2.keep d3
  have aX := B2.out.size
  have nXA := Nat.ne_of_lt A2.hb
  have oXA := Nat.ne_of_gt A2.hb
  have nXC := Nat.ne_of_lt C2.hb
  have oXC := Nat.ne_of_gt C2.hb
  have X3 : Bk3 w3 (w2.heap.size) (.int .i64 (Mo.mY ay am n)) (.int .i64 (Mo.mM ay am n)) (.int .i64 (Mo.mD ay am ad n)) := Bk3.of b3 (by simp <;> omega) (by intro j; simp [go_sem]) (by simp [go_sem]) (by simp [go_sem]) (by simp [go_sem])
  clear A2 C2 b3 d3 B2
  rw [O2.out]
  simp only [Cal.orz, Cal.why, Bool.false_eq_true, if_false, if_true]
  have cA_b := A3.hb
  have cA_f := A3.fz
  have cA_0 := A3.k0
  have cA_1 := A3.k1
  have cA_2 := A3.k2
  have cC_b := C3.hb
  have cC_f := C3.fz
  have cC_0 := C3.k0
  have cC_1 := C3.k1
  have cC_2 := C3.k2
  have cX_b := X3.hb
  have cX_f := X3.fz
  have cX_0 := X3.k0
  have cX_1 := X3.k1
  have cX_2 := X3.k2
  go_wp2_with fail
  clear cA_b cA_f cA_0 cA_1 cA_2 cC_b cC_f cC_0 cC_1 cC_2 cX_b cX_f cX_0 cX_1 cX_2
  refine (madd_any bY bm bd n _ n0 n1).mono ?_; rintro e w4 ⟨rfl, b4⟩
  have d4 : Below w3.heap.size w3 w4 := below_step (by repeat (first | exact Below.refl _ _ | refine below_drewN ?_ _ | refine Below.drew ?_ | refine Below.setCell ?_ (by simp) _ | refine Below.alloc ?_ (by simp) _)) b4
  have B4 := Lib.hid (below_step B3.out d4)
  have A4 := A3.keep d4
  have C4 := C3.keep d4
  have X4 := X3.keep d4
  have aY := B3.out.size
  have nYA := Nat.ne_of_lt A3.hb
  have oYA := Nat.ne_of_gt A3.hb
  have nYC := Nat.ne_of_lt C3.hb
  have oYC := Nat.ne_of_gt C3.hb
  have nYX := Nat.ne_of_lt X3.hb
  have oYX := Nat.ne_of_gt X3.hb
  have Y4 : Bk3 w4 (w3.heap.size) (.int .i64 (Mo.mY ay am k)) (.int .i64 (Mo.mM ay am k)) (.int .i64 (Mo.mD ay am ad k)) := Bk3.of b4 (by simp <;> omega) (by intro j; simp [go_sem]) (by simp [go_sem]) (by simp [go_sem]) (by simp [go_sem])
  clear A3 C3 X3 b4 d4 B3
  rw [O3.out]
  simp only [Cal.orz, Cal.why, Bool.false_eq_true, if_false, if_true]
  have cA_b := A4.hb
  have cA_f := A4.fz
  have cA_0 := A4.k0
  have cA_1 := A4.k1
  have cA_2 := A4.k2
  have cC_b := C4.hb
  have cC_f := C4.fz
  have cC_0 := C4.k0
  have cC_1 := C4.k1
  have cC_2 := C4.k2
  have cX_b := X4.hb
  have cX_f := X4.fz
  have cX_0 := X4.k0
  have cX_1 := X4.k1
  have cX_2 := X4.k2
  have cY_b := Y4.hb
  have cY_f := Y4.fz
  have cY_0 := Y4.k0
  have cY_1 := Y4.k1
  have cY_2 := Y4.k2
  go_wp2_with fail
  clear cA_b cA_f cA_0 cA_1 cA_2 cC_b cC_f cC_0 cC_1 cC_2 cX_b cX_f cX_0 cX_1 cX_2 cY_b cY_f cY_0 cY_1 cY_2
  refine (dcompare _ _ _ _ _ _ _).mono ?_; rintro e w5 ⟨rfl, b5⟩
  have d5 : Below w4.heap.size w4 w5 := below_step (by repeat (first | exact Below.refl _ _ | refine below_drewN ?_ _ | refine Below.drew ?_ | refine Below.setCell ?_ (by simp) _ | refine Below.alloc ?_ (by simp) _)) b5
  have B5 := Lib.hid (below_step B4.out d5)
  have A5 := A4.keep d5
  have C5 := C4.keep d5
  have X5 := X4.keep d5
  have Y5 := Y4.keep d5
  have aZ := B4.out.size
  have nZA := Nat.ne_of_lt A4.hb
  have oZA := Nat.ne_of_gt A4.hb
  have nZC := Nat.ne_of_lt C4.hb
  have oZC := Nat.ne_of_gt C4.hb
  have nZX := Nat.ne_of_lt X4.hb
  have oZX := Nat.ne_of_gt X4.hb
  have nZY := Nat.ne_of_lt Y4.hb
  have oZY := Nat.ne_of_gt Y4.hb
  have Z5 : Bk3 w5 (w4.heap.size) (.int .i64 0) (.int .i64 0) (.int .i64 0) := Bk3.of b5 (by simp <;> omega) (by intro j; simp [go_sem]) (by simp [go_sem]) (by simp [go_sem]) (by simp [go_sem])
  clear A4 C4 X4 Y4 b5 d5 B4
  rw [HC.out]
  
  skip
  
  
  have cA_b := A5.hb
  have cA_f := A5.fz
  have cA_0 := A5.k0
  have cA_1 := A5.k1
  have cA_2 := A5.k2
  have cC_b := C5.hb
  have cC_f := C5.fz
  have cC_0 := C5.k0
  have cC_1 := C5.k1
  have cC_2 := C5.k2
  have cX_b := X5.hb
  have cX_f := X5.fz
  have cX_0 := X5.k0
  have cX_1 := X5.k1
  have cX_2 := X5.k2
  have cY_b := Y5.hb
  have cY_f := Y5.fz
  have cY_0 := Y5.k0
  have cY_1 := Y5.k1
  have cY_2 := Y5.k2
  have cZ_b := Z5.hb
  have cZ_f := Z5.fz
  have cZ_0 := Z5.k0
  have cZ_1 := Z5.k1
  have cZ_2 := Z5.k2
  go_wp2_with fail
  clear cA_b cA_f cA_0 cA_1 cA_2 cC_b cC_f cC_0 cC_1 cC_2 cX_b cX_f cX_0 cX_1 cX_2 cY_b cY_f cY_0 cY_1 cY_2 cZ_b cZ_f cZ_0 cZ_1 cZ_2
  go_ret
  exact ⟨rfl, (by have hz := B5.out.size; repeat (first | exact B5.out | refine below_drewN ?_ _ | refine Below.drew ?_ | refine Below.setCell ?_ (by first | omega | (simp; done) | (simp; omega)) _ | refine Below.alloc ?_ (by first | omega | (simp; done) | (simp; omega)) _))⟩
set_option maxHeartbeats 2000000 in
set_option maxRecDepth 100000 in
theorem morder_eq_gt (ay am ad bY bm bd n k : Int) (w : World) (n0 : -9223372036854775808 ≤ n) (n1 : n ≤ 9223372036854775807) (k0 : -9223372036854775808 ≤ k) (k1 : k ≤ 9223372036854775807) (ok1 : Mo.mok ay am ad n = true) (hn : n ≤ k) (hn2 : k ≤ n) (hc : cmpD (Mo.mY ay am n) (Mo.mM ay am n) (Mo.mD ay am ad n) (Mo.mY ay am k) (Mo.mM ay am k) (Mo.mD ay am ad k) = 0) (ok2 : Mo.mok ay am ad k = true) (ok3 : Mo.mok bY bm bd n = true) (hd : 0 < cmpD ay am ad bY bm bd) :
    Calls Try.prog 7 #[.agg #[.int .i64 ay, .int .i64 am, .int .i64 ad], .agg #[.int .i64 bY, .int .i64 bm, .int .i64 bd], .int .i64 n, .int .i64 k] w fun e w' => e = .returned (.bool true) ∧ Below w.heap.size w w' := by
  have O1 := Lib.hid ok1; have O2 := Lib.hid ok2; have O3 := Lib.hid ok3
  clear ok1 ok2 ok3
  have HC := Lib.hid hc; clear hc
  go_enter Try.func7, Try.ntmps7
  go_wp2_with fail
  refine (lives6 _).mono ?_; rintro e w1 ⟨rfl, b1⟩
  have d1 : Below w.heap.size w w1 := below_step (by repeat (first | exact Below.refl _ _ | refine below_drewN ?_ _ | refine Below.drew ?_ | refine Below.setCell ?_ (by simp) _ | refine Below.alloc ?_ (by simp) _)) b1
  have B1 := Lib.hid d1
  have A1 : Bk3 w1 (w.heap.size) (.int .i64 ay) (.int .i64 am) (.int .i64 ad) := Bk3.of b1 (by simp <;> omega) (by intro j; simp [go_sem]) (by simp [go_sem]) (by simp [go_sem]) (by simp [go_sem])
  have C1 : Bk3 w1 (w.heap.size + 1) (.int .i64 bY) (.int .i64 bm) (.int .i64 bd) := Bk3.of b1 (by simp <;> omega) (by intro j; simp [go_sem]) (by simp [go_sem]) (by simp [go_sem]) (by simp [go_sem])
  clear b1 d1
  have cA_b := A1.hb
  have cA_f := A1.fz
  have cA_0 := A1.k0
  have cA_1 := A1.k1
  have cA_2 := A1.k2
  have cC_b := C1.hb
  have cC_f := C1.fz
  have cC_0 := C1.k0
  have cC_1 := C1.k1
  have cC_2 := C1.k2
  go_wp2_with fail
  clear cA_b cA_f cA_0 cA_1 cA_2 cC_b cC_f cC_0 cC_1 cC_2
  refine (madd_any ay am ad n _ n0 n1).mono ?_; rintro e w2 ⟨rfl, b2⟩
  have d2 : Below w1.heap.size w1 w2 := below_step (by repeat (first | exact Below.refl _ _ | refine below_drewN ?_ _ | refine Below.drew ?_ | refine Below.setCell ?_ (by simp) _ | refine Below.alloc ?_ (by simp) _)) b2
  have B2 := Lib.hid (below_step B1.out d2)
  have A2 := A1.keep d2
  have C2 := C1.keep d2
  clear A1 C1 b2 d2 B1
  rw [O1.out]
  simp only [Cal.orz, Cal.why, Bool.false_eq_true, if_false, if_true]
  have cA_b := A2.hb
  have cA_f := A2.fz
  have cA_0 := A2.k0
  have cA_1 := A2.k1
  have cA_2 := A2.k2
  have cC_b := C2.hb
  have cC_f := C2.fz
  have cC_0 := C2.k0
  have cC_1 := C2.k1
  have cC_2 := C2.k2
  go_wp2_with fail
  clear cA_b cA_f cA_0 cA_1 cA_2 cC_b cC_f cC_0 cC_1 cC_2
  refine (madd_any ay am ad k _ k0 k1).mono ?_; rintro e w3 ⟨rfl, b3⟩
  have d3 : Below w2.heap.size w2 w3 := below_step (by repeat (first | exact Below.refl _ _ | refine below_drewN ?_ _ | refine Below.drew ?_ | refine Below.setCell ?_ (by simp) _ | refine Below.alloc ?_ (by simp) _)) b3
  have B3 := Lib.hid (below_step B2.out d3)
  have A3 := A2.keep d3
  have C3 := C2.keep d3
  have aX := B2.out.size
  have nXA := Nat.ne_of_lt A2.hb
  have oXA := Nat.ne_of_gt A2.hb
  have nXC := Nat.ne_of_lt C2.hb
  have oXC := Nat.ne_of_gt C2.hb
  have X3 : Bk3 w3 (w2.heap.size) (.int .i64 (Mo.mY ay am n)) (.int .i64 (Mo.mM ay am n)) (.int .i64 (Mo.mD ay am ad n)) := Bk3.of b3 (by simp <;> omega) (by intro j; simp [go_sem]) (by simp [go_sem]) (by simp [go_sem]) (by simp [go_sem])
  clear A2 C2 b3 d3 B2
  rw [O2.out]
  simp only [Cal.orz, Cal.why, Bool.false_eq_true, if_false, if_true]
  have cA_b := A3.hb
  have cA_f := A3.fz
  have cA_0 := A3.k0
  have cA_1 := A3.k1
  have cA_2 := A3.k2
  have cC_b := C3.hb
  have cC_f := C3.fz
  have cC_0 := C3.k0
  have cC_1 := C3.k1
  have cC_2 := C3.k2
  have cX_b := X3.hb
  have cX_f := X3.fz
  have cX_0 := X3.k0
  have cX_1 := X3.k1
  have cX_2 := X3.k2
  go_wp2_with fail
  clear cA_b cA_f cA_0 cA_1 cA_2 cC_b cC_f cC_0 cC_1 cC_2 cX_b cX_f cX_0 cX_1 cX_2
  refine (madd_any bY bm bd n _ n0 n1).mono ?_; rintro e w4 ⟨rfl, b4⟩
  have d4 : Below w3.heap.size w3 w4 := below_step (by repeat (first | exact Below.refl _ _ | refine below_drewN ?_ _ | refine Below.drew ?_ | refine Below.setCell ?_ (by simp) _ | refine Below.alloc ?_ (by simp) _)) b4
  have B4 := Lib.hid (below_step B3.out d4)
  have A4 := A3.keep d4
  have C4 := C3.keep d4
  have X4 := X3.keep d4
  have aY := B3.out.size
  have nYA := Nat.ne_of_lt A3.hb
  have oYA := Nat.ne_of_gt A3.hb
  have nYC := Nat.ne_of_lt C3.hb
  have oYC := Nat.ne_of_gt C3.hb
  have nYX := Nat.ne_of_lt X3.hb
  have oYX := Nat.ne_of_gt X3.hb
  have Y4 : Bk3 w4 (w3.heap.size) (.int .i64 (Mo.mY ay am k)) (.int .i64 (Mo.mM ay am k)) (.int .i64 (Mo.mD ay am ad k)) := Bk3.of b4 (by simp <;> omega) (by intro j; simp [go_sem]) (by simp [go_sem]) (by simp [go_sem]) (by simp [go_sem])
  clear A3 C3 X3 b4 d4 B3
  rw [O3.out]
  simp only [Cal.orz, Cal.why, Bool.false_eq_true, if_false, if_true]
  have cA_b := A4.hb
  have cA_f := A4.fz
  have cA_0 := A4.k0
  have cA_1 := A4.k1
  have cA_2 := A4.k2
  have cC_b := C4.hb
  have cC_f := C4.fz
  have cC_0 := C4.k0
  have cC_1 := C4.k1
  have cC_2 := C4.k2
  have cX_b := X4.hb
  have cX_f := X4.fz
  have cX_0 := X4.k0
  have cX_1 := X4.k1
  have cX_2 := X4.k2
  have cY_b := Y4.hb
  have cY_f := Y4.fz
  have cY_0 := Y4.k0
  have cY_1 := Y4.k1
  have cY_2 := Y4.k2
  go_wp2_with fail
  clear cA_b cA_f cA_0 cA_1 cA_2 cC_b cC_f cC_0 cC_1 cC_2 cX_b cX_f cX_0 cX_1 cX_2 cY_b cY_f cY_0 cY_1 cY_2
  refine (dcompare _ _ _ _ _ _ _).mono ?_; rintro e w5 ⟨rfl, b5⟩
  have d5 : Below w4.heap.size w4 w5 := below_step (by repeat (first | exact Below.refl _ _ | refine below_drewN ?_ _ | refine Below.drew ?_ | refine Below.setCell ?_ (by simp) _ | refine Below.alloc ?_ (by simp) _)) b5
  have B5 := Lib.hid (below_step B4.out d5)
  have A5 := A4.keep d5
  have C5 := C4.keep d5
  have X5 := X4.keep d5
  have Y5 := Y4.keep d5
  have aZ := B4.out.size
  have nZA := Nat.ne_of_lt A4.hb
  have oZA := Nat.ne_of_gt A4.hb
  have nZC := Nat.ne_of_lt C4.hb
  have oZC := Nat.ne_of_gt C4.hb
  have nZX := Nat.ne_of_lt X4.hb
  have oZX := Nat.ne_of_gt X4.hb
  have nZY := Nat.ne_of_lt Y4.hb
  have oZY := Nat.ne_of_gt Y4.hb
  have Z5 : Bk3 w5 (w4.heap.size) (.int .i64 (Mo.mY bY bm n)) (.int .i64 (Mo.mM bY bm n)) (.int .i64 (Mo.mD bY bm bd n)) := Bk3.of b5 (by simp <;> omega) (by intro j; simp [go_sem]) (by simp [go_sem]) (by simp [go_sem]) (by simp [go_sem])
  clear A4 C4 X4 Y4 b5 d5 B4
  rw [HC.out]
  
  skip
  have cA_b := A5.hb
  have cA_f := A5.fz
  have cA_0 := A5.k0
  have cA_1 := A5.k1
  have cA_2 := A5.k2
  have cC_b := C5.hb
  have cC_f := C5.fz
  have cC_0 := C5.k0
  have cC_1 := C5.k1
  have cC_2 := C5.k2
  have cX_b := X5.hb
  have cX_f := X5.fz
  have cX_0 := X5.k0
  have cX_1 := X5.k1
  have cX_2 := X5.k2
  have cY_b := Y5.hb
  have cY_f := Y5.fz
  have cY_0 := Y5.k0
  have cY_1 := Y5.k1
  have cY_2 := Y5.k2
  have cZ_b := Z5.hb
  have cZ_f := Z5.fz
  have cZ_0 := Z5.k0
  have cZ_1 := Z5.k1
  have cZ_2 := Z5.k2
  go_wp2_with fail
  clear cA_b cA_f cA_0 cA_1 cA_2 cC_b cC_f cC_0 cC_1 cC_2 cX_b cX_f cX_0 cX_1 cX_2 cY_b cY_f cY_0 cY_1 cY_2 cZ_b cZ_f cZ_0 cZ_1 cZ_2
  refine (dcompare _ _ _ _ _ _ _).mono ?_; rintro e w6 ⟨rfl, b6⟩
  have d6 : Below w5.heap.size w5 w6 := below_step (by repeat (first | exact Below.refl _ _ | refine below_drewN ?_ _ | refine Below.drew ?_ | refine Below.setCell ?_ (by simp) _ | refine Below.alloc ?_ (by simp) _)) b6
  have B6 := Lib.hid (below_step B5.out d6)
  have A6 := A5.keep d6
  have C6 := C5.keep d6
  have X6 := X5.keep d6
  have Y6 := Y5.keep d6
  have Z6 := Z5.keep d6
  clear A5 C5 X5 Y5 Z5 b6 d6 B5
  
  have cA_b := A6.hb
  have cA_f := A6.fz
  have cA_0 := A6.k0
  have cA_1 := A6.k1
  have cA_2 := A6.k2
  have cC_b := C6.hb
  have cC_f := C6.fz
  have cC_0 := C6.k0
  have cC_1 := C6.k1
  have cC_2 := C6.k2
  have cX_b := X6.hb
  have cX_f := X6.fz
  have cX_0 := X6.k0
  have cX_1 := X6.k1
  have cX_2 := X6.k2
  have cY_b := Y6.hb
  have cY_f := Y6.fz
  have cY_0 := Y6.k0
  have cY_1 := Y6.k1
  have cY_2 := Y6.k2
  have cZ_b := Z6.hb
  have cZ_f := Z6.fz
  have cZ_0 := Z6.k0
  have cZ_1 := Z6.k1
  have cZ_2 := Z6.k2
  go_wp2_with fail
  clear cA_b cA_f cA_0 cA_1 cA_2 cC_b cC_f cC_0 cC_1 cC_2 cX_b cX_f cX_0 cX_1 cX_2 cY_b cY_f cY_0 cY_1 cY_2 cZ_b cZ_f cZ_0 cZ_1 cZ_2
  go_ret
  exact ⟨rfl, (by have hz := B6.out.size; repeat (first | exact B6.out | refine below_drewN ?_ _ | refine Below.drew ?_ | refine Below.setCell ?_ (by first | omega | (simp; done) | (simp; omega)) _ | refine Below.alloc ?_ (by first | omega | (simp; done) | (simp; omega)) _))⟩
set_option maxHeartbeats 2000000 in
set_option maxRecDepth 100000 in
theorem morder_eq_le (ay am ad bY bm bd n k : Int) (w : World) (n0 : -9223372036854775808 ≤ n) (n1 : n ≤ 9223372036854775807) (k0 : -9223372036854775808 ≤ k) (k1 : k ≤ 9223372036854775807) (ok1 : Mo.mok ay am ad n = true) (hn : n ≤ k) (hn2 : k ≤ n) (hc : cmpD (Mo.mY ay am n) (Mo.mM ay am n) (Mo.mD ay am ad n) (Mo.mY ay am k) (Mo.mM ay am k) (Mo.mD ay am ad k) = 0) (ok2 : Mo.mok ay am ad k = true) (ok3 : Mo.mok bY bm bd n = true) (hd : cmpD ay am ad bY bm bd ≤ 0) (hf : cmpD (Mo.mY ay am n) (Mo.mM ay am n) (Mo.mD ay am ad n) (Mo.mY bY bm n) (Mo.mM bY bm n) (Mo.mD bY bm bd n) ≤ 0) :
    Calls Try.prog 7 #[.agg #[.int .i64 ay, .int .i64 am, .int .i64 ad], .agg #[.int .i64 bY, .int .i64 bm, .int .i64 bd], .int .i64 n, .int .i64 k] w fun e w' => e = .returned (.bool true) ∧ Below w.heap.size w w' := by
  have O1 := Lib.hid ok1; have O2 := Lib.hid ok2; have O3 := Lib.hid ok3
  clear ok1 ok2 ok3
  have HC := Lib.hid hc; clear hc
  go_enter Try.func7, Try.ntmps7
  go_wp2_with fail
  refine (lives6 _).mono ?_; rintro e w1 ⟨rfl, b1⟩
  have d1 : Below w.heap.size w w1 := below_step (by repeat (first | exact Below.refl _ _ | refine below_drewN ?_ _ | refine Below.drew ?_ | refine Below.setCell ?_ (by simp) _ | refine Below.alloc ?_ (by simp) _)) b1
  have B1 := Lib.hid d1
  have A1 : Bk3 w1 (w.heap.size) (.int .i64 ay) (.int .i64 am) (.int .i64 ad) := Bk3.of b1 (by simp <;> omega) (by intro j; simp [go_sem]) (by simp [go_sem]) (by simp [go_sem]) (by simp [go_sem])
  have C1 : Bk3 w1 (w.heap.size + 1) (.int .i64 bY) (.int .i64 bm) (.int .i64 bd) := Bk3.of b1 (by simp <;> omega) (by intro j; simp [go_sem]) (by simp [go_sem]) (by simp [go_sem]) (by simp [go_sem])
  clear b1 d1
  have cA_b := A1.hb
  have cA_f := A1.fz
  have cA_0 := A1.k0
  have cA_1 := A1.k1
  have cA_2 := A1.k2
  have cC_b := C1.hb
  have cC_f := C1.fz
  have cC_0 := C1.k0
  have cC_1 := C1.k1
  have cC_2 := C1.k2
  go_wp2_with fail
  clear cA_b cA_f cA_0 cA_1 cA_2 cC_b cC_f cC_0 cC_1 cC_2
  refine (madd_any ay am ad n _ n0 n1).mono ?_; rintro e w2 ⟨rfl, b2⟩
  have d2 : Below w1.heap.size w1 w2 := below_step (by repeat (first | exact Below.refl _ _ | refine below_drewN ?_ _ | refine Below.drew ?_ | refine Below.setCell ?_ (by simp) _ | refine Below.alloc ?_ (by simp) _)) b2
  have B2 := Lib.hid (below_step B1.out d2)
  have A2 := A1.keep d2
  have C2 := C1.keep d2
  clear A1 C1 b2 d2 B1
  rw [O1.out]
  simp only [Cal.orz, Cal.why, Bool.false_eq_true, if_false, if_true]
  have cA_b := A2.hb
  have cA_f := A2.fz
  have cA_0 := A2.k0
  have cA_1 := A2.k1
  have cA_2 := A2.k2
  have cC_b := C2.hb
  have cC_f := C2.fz
  have cC_0 := C2.k0
  have cC_1 := C2.k1
  have cC_2 := C2.k2
  go_wp2_with fail
  clear cA_b cA_f cA_0 cA_1 cA_2 cC_b cC_f cC_0 cC_1 cC_2
  refine (madd_any ay am ad k _ k0 k1).mono ?_; rintro e w3 ⟨rfl, b3⟩
  have d3 : Below w2.heap.size w2 w3 := below_step (by repeat (first | exact Below.refl _ _ | refine below_drewN ?_ _ | refine Below.drew ?_ | refine Below.setCell ?_ (by simp) _ | refine Below.alloc ?_ (by simp) _)) b3
  have B3 := Lib.hid (below_step B2.out d3)
  have A3 := A2.keep d3
  have C3 := C2.keep d3
  have aX := B2.out.size
  have nXA := Nat.ne_of_lt A2.hb
  have oXA := Nat.ne_of_gt A2.hb
  have nXC := Nat.ne_of_lt C2.hb
  have oXC := Nat.ne_of_gt C2.hb
  have X3 : Bk3 w3 (w2.heap.size) (.int .i64 (Mo.mY ay am n)) (.int .i64 (Mo.mM ay am n)) (.int .i64 (Mo.mD ay am ad n)) := Bk3.of b3 (by simp <;> omega) (by intro j; simp [go_sem]) (by simp [go_sem]) (by simp [go_sem]) (by simp [go_sem])
  clear A2 C2 b3 d3 B2
  rw [O2.out]
  simp only [Cal.orz, Cal.why, Bool.false_eq_true, if_false, if_true]
  have cA_b := A3.hb
  have cA_f := A3.fz
  have cA_0 := A3.k0
  have cA_1 := A3.k1
  have cA_2 := A3.k2
  have cC_b := C3.hb
  have cC_f := C3.fz
  have cC_0 := C3.k0
  have cC_1 := C3.k1
  have cC_2 := C3.k2
  have cX_b := X3.hb
  have cX_f := X3.fz
  have cX_0 := X3.k0
  have cX_1 := X3.k1
  have cX_2 := X3.k2
  go_wp2_with fail
  clear cA_b cA_f cA_0 cA_1 cA_2 cC_b cC_f cC_0 cC_1 cC_2 cX_b cX_f cX_0 cX_1 cX_2
  refine (madd_any bY bm bd n _ n0 n1).mono ?_; rintro e w4 ⟨rfl, b4⟩
  have d4 : Below w3.heap.size w3 w4 := below_step (by repeat (first | exact Below.refl _ _ | refine below_drewN ?_ _ | refine Below.drew ?_ | refine Below.setCell ?_ (by simp) _ | refine Below.alloc ?_ (by simp) _)) b4
  have B4 := Lib.hid (below_step B3.out d4)
  have A4 := A3.keep d4
  have C4 := C3.keep d4
  have X4 := X3.keep d4
  have aY := B3.out.size
  have nYA := Nat.ne_of_lt A3.hb
  have oYA := Nat.ne_of_gt A3.hb
  have nYC := Nat.ne_of_lt C3.hb
  have oYC := Nat.ne_of_gt C3.hb
  have nYX := Nat.ne_of_lt X3.hb
  have oYX := Nat.ne_of_gt X3.hb
  have Y4 : Bk3 w4 (w3.heap.size) (.int .i64 (Mo.mY ay am k)) (.int .i64 (Mo.mM ay am k)) (.int .i64 (Mo.mD ay am ad k)) := Bk3.of b4 (by simp <;> omega) (by intro j; simp [go_sem]) (by simp [go_sem]) (by simp [go_sem]) (by simp [go_sem])
  clear A3 C3 X3 b4 d4 B3
  rw [O3.out]
  simp only [Cal.orz, Cal.why, Bool.false_eq_true, if_false, if_true]
  have cA_b := A4.hb
  have cA_f := A4.fz
  have cA_0 := A4.k0
  have cA_1 := A4.k1
  have cA_2 := A4.k2
  have cC_b := C4.hb
  have cC_f := C4.fz
  have cC_0 := C4.k0
  have cC_1 := C4.k1
  have cC_2 := C4.k2
  have cX_b := X4.hb
  have cX_f := X4.fz
  have cX_0 := X4.k0
  have cX_1 := X4.k1
  have cX_2 := X4.k2
  have cY_b := Y4.hb
  have cY_f := Y4.fz
  have cY_0 := Y4.k0
  have cY_1 := Y4.k1
  have cY_2 := Y4.k2
  go_wp2_with fail
  clear cA_b cA_f cA_0 cA_1 cA_2 cC_b cC_f cC_0 cC_1 cC_2 cX_b cX_f cX_0 cX_1 cX_2 cY_b cY_f cY_0 cY_1 cY_2
  refine (dcompare _ _ _ _ _ _ _).mono ?_; rintro e w5 ⟨rfl, b5⟩
  have d5 : Below w4.heap.size w4 w5 := below_step (by repeat (first | exact Below.refl _ _ | refine below_drewN ?_ _ | refine Below.drew ?_ | refine Below.setCell ?_ (by simp) _ | refine Below.alloc ?_ (by simp) _)) b5
  have B5 := Lib.hid (below_step B4.out d5)
  have A5 := A4.keep d5
  have C5 := C4.keep d5
  have X5 := X4.keep d5
  have Y5 := Y4.keep d5
  have aZ := B4.out.size
  have nZA := Nat.ne_of_lt A4.hb
  have oZA := Nat.ne_of_gt A4.hb
  have nZC := Nat.ne_of_lt C4.hb
  have oZC := Nat.ne_of_gt C4.hb
  have nZX := Nat.ne_of_lt X4.hb
  have oZX := Nat.ne_of_gt X4.hb
  have nZY := Nat.ne_of_lt Y4.hb
  have oZY := Nat.ne_of_gt Y4.hb
  have Z5 : Bk3 w5 (w4.heap.size) (.int .i64 (Mo.mY bY bm n)) (.int .i64 (Mo.mM bY bm n)) (.int .i64 (Mo.mD bY bm bd n)) := Bk3.of b5 (by simp <;> omega) (by intro j; simp [go_sem]) (by simp [go_sem]) (by simp [go_sem]) (by simp [go_sem])
  clear A4 C4 X4 Y4 b5 d5 B4
  rw [HC.out]
  
  skip
  have cA_b := A5.hb
  have cA_f := A5.fz
  have cA_0 := A5.k0
  have cA_1 := A5.k1
  have cA_2 := A5.k2
  have cC_b := C5.hb
  have cC_f := C5.fz
  have cC_0 := C5.k0
  have cC_1 := C5.k1
  have cC_2 := C5.k2
  have cX_b := X5.hb
  have cX_f := X5.fz
  have cX_0 := X5.k0
  have cX_1 := X5.k1
  have cX_2 := X5.k2
  have cY_b := Y5.hb
  have cY_f := Y5.fz
  have cY_0 := Y5.k0
  have cY_1 := Y5.k1
  have cY_2 := Y5.k2
  have cZ_b := Z5.hb
  have cZ_f := Z5.fz
  have cZ_0 := Z5.k0
  have cZ_1 := Z5.k1
  have cZ_2 := Z5.k2
  go_wp2_with fail
  clear cA_b cA_f cA_0 cA_1 cA_2 cC_b cC_f cC_0 cC_1 cC_2 cX_b cX_f cX_0 cX_1 cX_2 cY_b cY_f cY_0 cY_1 cY_2 cZ_b cZ_f cZ_0 cZ_1 cZ_2
  refine (dcompare _ _ _ _ _ _ _).mono ?_; rintro e w6 ⟨rfl, b6⟩
  have d6 : Below w5.heap.size w5 w6 := below_step (by repeat (first | exact Below.refl _ _ | refine below_drewN ?_ _ | refine Below.drew ?_ | refine Below.setCell ?_ (by simp) _ | refine Below.alloc ?_ (by simp) _)) b6
  have B6 := Lib.hid (below_step B5.out d6)
  have A6 := A5.keep d6
  have C6 := C5.keep d6
  have X6 := X5.keep d6
  have Y6 := Y5.keep d6
  have Z6 := Z5.keep d6
  clear A5 C5 X5 Y5 Z5 b6 d6 B5
  have cA_b := A6.hb
  have cA_f := A6.fz
  have cA_0 := A6.k0
  have cA_1 := A6.k1
  have cA_2 := A6.k2
  have cC_b := C6.hb
  have cC_f := C6.fz
  have cC_0 := C6.k0
  have cC_1 := C6.k1
  have cC_2 := C6.k2
  have cX_b := X6.hb
  have cX_f := X6.fz
  have cX_0 := X6.k0
  have cX_1 := X6.k1
  have cX_2 := X6.k2
  have cY_b := Y6.hb
  have cY_f := Y6.fz
  have cY_0 := Y6.k0
  have cY_1 := Y6.k1
  have cY_2 := Y6.k2
  have cZ_b := Z6.hb
  have cZ_f := Z6.fz
  have cZ_0 := Z6.k0
  have cZ_1 := Z6.k1
  have cZ_2 := Z6.k2
  go_wp2_with fail
  clear cA_b cA_f cA_0 cA_1 cA_2 cC_b cC_f cC_0 cC_1 cC_2 cX_b cX_f cX_0 cX_1 cX_2 cY_b cY_f cY_0 cY_1 cY_2 cZ_b cZ_f cZ_0 cZ_1 cZ_2
  refine (dcompare _ _ _ _ _ _ _).mono ?_; rintro e w7 ⟨rfl, b7⟩
  have d7 : Below w6.heap.size w6 w7 := below_step (by repeat (first | exact Below.refl _ _ | refine below_drewN ?_ _ | refine Below.drew ?_ | refine Below.setCell ?_ (by simp) _ | refine Below.alloc ?_ (by simp) _)) b7
  have B7 := Lib.hid (below_step B6.out d7)
  have A7 := A6.keep d7
  have C7 := C6.keep d7
  have X7 := X6.keep d7
  have Y7 := Y6.keep d7
  have Z7 := Z6.keep d7
  clear A6 C6 X6 Y6 Z6 b7 d7 B6
  have cA_b := A7.hb
  have cA_f := A7.fz
  have cA_0 := A7.k0
  have cA_1 := A7.k1
  have cA_2 := A7.k2
  have cC_b := C7.hb
  have cC_f := C7.fz
  have cC_0 := C7.k0
  have cC_1 := C7.k1
  have cC_2 := C7.k2
  have cX_b := X7.hb
  have cX_f := X7.fz
  have cX_0 := X7.k0
  have cX_1 := X7.k1
  have cX_2 := X7.k2
  have cY_b := Y7.hb
  have cY_f := Y7.fz
  have cY_0 := Y7.k0
  have cY_1 := Y7.k1
  have cY_2 := Y7.k2
  have cZ_b := Z7.hb
  have cZ_f := Z7.fz
  have cZ_0 := Z7.k0
  have cZ_1 := Z7.k1
  have cZ_2 := Z7.k2
  go_wp2_with fail
  clear cA_b cA_f cA_0 cA_1 cA_2 cC_b cC_f cC_0 cC_1 cC_2 cX_b cX_f cX_0 cX_1 cX_2 cY_b cY_f cY_0 cY_1 cY_2 cZ_b cZ_f cZ_0 cZ_1 cZ_2
  go_ret
  exact ⟨rfl, (by have hz := B7.out.size; repeat (first | exact B7.out | refine below_drewN ?_ _ | refine Below.drew ?_ | refine Below.setCell ?_ (by first | omega | (simp; done) | (simp; omega)) _ | refine Below.alloc ?_ (by first | omega | (simp; done) | (simp; omega)) _))⟩
set_option maxHeartbeats 2000000 in
set_option maxRecDepth 100000 in
theorem morder_gt_no (ay am ad bY bm bd n k : Int) (w : World) (n0 : -9223372036854775808 ≤ n) (n1 : n ≤ 9223372036854775807) (k0 : -9223372036854775808 ≤ k) (k1 : k ≤ 9223372036854775807) (ok1 : Mo.mok ay am ad n = true) (hn : k < n) (ok2 : Mo.mok ay am ad k = true) (ok3 : Mo.mok bY bm bd n = false) :
    Calls Try.prog 7 #[.agg #[.int .i64 ay, .int .i64 am, .int .i64 ad], .agg #[.int .i64 bY, .int .i64 bm, .int .i64 bd], .int .i64 n, .int .i64 k] w fun e w' => e = .returned (.bool true) ∧ Below w.heap.size w w' := by
  have O1 := Lib.hid ok1; have O2 := Lib.hid ok2; have O3 := Lib.hid ok3
  clear ok1 ok2 ok3
  skip
  go_enter Try.func7, Try.ntmps7
  go_wp2_with fail
  refine (lives6 _).mono ?_; rintro e w1 ⟨rfl, b1⟩
  have d1 : Below w.heap.size w w1 := below_step (by repeat (first | exact Below.refl _ _ | refine below_drewN ?_ _ | refine Below.drew ?_ | refine Below.setCell ?_ (by simp) _ | refine Below.alloc ?_ (by simp) _)) b1
  have B1 := Lib.hid d1
  have A1 : Bk3 w1 (w.heap.size) (.int .i64 ay) (.int .i64 am) (.int .i64 ad) := Bk3.of b1 (by simp <;> omega) (by intro j; simp [go_sem]) (by simp [go_sem]) (by simp [go_sem]) (by simp [go_sem])
  have C1 : Bk3 w1 (w.heap.size + 1) (.int .i64 bY) (.int .i64 bm) (.int .i64 bd) := Bk3.of b1 (by simp <;> omega) (by intro j; simp [go_sem]) (by simp [go_sem]) (by simp [go_sem]) (by simp [go_sem])
  clear b1 d1
  have cA_b := A1.hb
  have cA_f := A1.fz
  have cA_0 := A1.k0
  have cA_1 := A1.k1
  have cA_2 := A1.k2
  have cC_b := C1.hb
  have cC_f := C1.fz
  have cC_0 := C1.k0
  have cC_1 := C1.k1
  have cC_2 := C1.k2
  go_wp2_with fail
  clear cA_b cA_f cA_0 cA_1 cA_2 cC_b cC_f cC_0 cC_1 cC_2
  refine (madd_any ay am ad n _ n0 n1).mono ?_; rintro e w2 ⟨rfl, b2⟩
  have d2 : Below w1.heap.size w1 w2 := below_step (by repeat (first | exact Below.refl _ _ | refine below_drewN ?_ _ | refine Below.drew ?_ | refine Below.setCell ?_ (by simp) _ | refine Below.alloc ?_ (by simp) _)) b2
  have B2 := Lib.hid (below_step B1.out d2)
  have A2 := A1.keep d2
  have C2 := C1.keep d2
  clear A1 C1 b2 d2 B1
  rw [O1.out]
  simp only [Cal.orz, Cal.why, Bool.false_eq_true, if_false, if_true]
  have cA_b := A2.hb
  have cA_f := A2.fz
  have cA_0 := A2.k0
  have cA_1 := A2.k1
  have cA_2 := A2.k2
  have cC_b := C2.hb
  have cC_f := C2.fz
  have cC_0 := C2.k0
  have cC_1 := C2.k1
  have cC_2 := C2.k2
  go_wp2_with fail
  clear cA_b cA_f cA_0 cA_1 cA_2 cC_b cC_f cC_0 cC_1 cC_2
  refine (madd_any ay am ad k _ k0 k1).mono ?_; rintro e w3 ⟨rfl, b3⟩
  have d3 : Below w2.heap.size w2 w3 := below_step (by repeat (first | exact Below.refl _ _ | refine below_drewN ?_ _ | refine Below.drew ?_ | refine Below.setCell ?_ (by simp) _ | refine Below.alloc ?_ (by simp) _)) b3
  have B3 := Lib.hid (below_step B2.out d3)
  have A3 := A2.keep d3
  have C3 := C2.keep d3
  have aX := B2.out.size
  have nXA := Nat.ne_of_lt A2.hb
  have oXA := Nat.ne_of_gt A2.hb
  have nXC := Nat.ne_of_lt C2.hb
  have oXC := Nat.ne_of_gt C2.hb
  have X3 : Bk3 w3 (w2.heap.size) (.int .i64 (Mo.mY ay am n)) (.int .i64 (Mo.mM ay am n)) (.int .i64 (Mo.mD ay am ad n)) := Bk3.of b3 (by simp <;> omega) (by intro j; simp [go_sem]) (by simp [go_sem]) (by simp [go_sem]) (by simp [go_sem])
  clear A2 C2 b3 d3 B2
  rw [O2.out]
  simp only [Cal.orz, Cal.why, Bool.false_eq_true, if_false, if_true]
  have cA_b := A3.hb
  have cA_f := A3.fz
  have cA_0 := A3.k0
  have cA_1 := A3.k1
  have cA_2 := A3.k2
  have cC_b := C3.hb
  have cC_f := C3.fz
  have cC_0 := C3.k0
  have cC_1 := C3.k1
  have cC_2 := C3.k2
  have cX_b := X3.hb
  have cX_f := X3.fz
  have cX_0 := X3.k0
  have cX_1 := X3.k1
  have cX_2 := X3.k2
  go_wp2_with fail
  clear cA_b cA_f cA_0 cA_1 cA_2 cC_b cC_f cC_0 cC_1 cC_2 cX_b cX_f cX_0 cX_1 cX_2
  refine (madd_any bY bm bd n _ n0 n1).mono ?_; rintro e w4 ⟨rfl, b4⟩
  have d4 : Below w3.heap.size w3 w4 := below_step (by repeat (first | exact Below.refl _ _ | refine below_drewN ?_ _ | refine Below.drew ?_ | refine Below.setCell ?_ (by simp) _ | refine Below.alloc ?_ (by simp) _)) b4
  have B4 := Lib.hid (below_step B3.out d4)
  have A4 := A3.keep d4
  have C4 := C3.keep d4
  have X4 := X3.keep d4
  have aY := B3.out.size
  have nYA := Nat.ne_of_lt A3.hb
  have oYA := Nat.ne_of_gt A3.hb
  have nYC := Nat.ne_of_lt C3.hb
  have oYC := Nat.ne_of_gt C3.hb
  have nYX := Nat.ne_of_lt X3.hb
  have oYX := Nat.ne_of_gt X3.hb
  have Y4 : Bk3 w4 (w3.heap.size) (.int .i64 (Mo.mY ay am k)) (.int .i64 (Mo.mM ay am k)) (.int .i64 (Mo.mD ay am ad k)) := Bk3.of b4 (by simp <;> omega) (by intro j; simp [go_sem]) (by simp [go_sem]) (by simp [go_sem]) (by simp [go_sem])
  clear A3 C3 X3 b4 d4 B3
  rw [O3.out]
  simp only [Cal.orz, Cal.why, Bool.false_eq_true, if_false, if_true]
  
  skip
  
  skip
  
  
  have cA_b := A4.hb
  have cA_f := A4.fz
  have cA_0 := A4.k0
  have cA_1 := A4.k1
  have cA_2 := A4.k2
  have cC_b := C4.hb
  have cC_f := C4.fz
  have cC_0 := C4.k0
  have cC_1 := C4.k1
  have cC_2 := C4.k2
  have cX_b := X4.hb
  have cX_f := X4.fz
  have cX_0 := X4.k0
  have cX_1 := X4.k1
  have cX_2 := X4.k2
  have cY_b := Y4.hb
  have cY_f := Y4.fz
  have cY_0 := Y4.k0
  have cY_1 := Y4.k1
  have cY_2 := Y4.k2
  go_wp2_with fail
  clear cA_b cA_f cA_0 cA_1 cA_2 cC_b cC_f cC_0 cC_1 cC_2 cX_b cX_f cX_0 cX_1 cX_2 cY_b cY_f cY_0 cY_1 cY_2
  go_ret
  exact ⟨rfl, (by have hz := B4.out.size; repeat (first | exact B4.out | refine below_drewN ?_ _ | refine Below.drew ?_ | refine Below.setCell ?_ (by first | omega | (simp; done) | (simp; omega)) _ | refine Below.alloc ?_ (by first | omega | (simp; done) | (simp; omega)) _))⟩
set_option maxHeartbeats 2000000 in
set_option maxRecDepth 100000 in
theorem morder_gt_gt (ay am ad bY bm bd n k : Int) (w : World) (n0 : -9223372036854775808 ≤ n) (n1 : n ≤ 9223372036854775807) (k0 : -9223372036854775808 ≤ k) (k1 : k ≤ 9223372036854775807) (ok1 : Mo.mok ay am ad n = true) (hn : k < n) (ok2 : Mo.mok ay am ad k = true) (ok3 : Mo.mok bY bm bd n = true) (hd : 0 < cmpD ay am ad bY bm bd) :
    Calls Try.prog 7 #[.agg #[.int .i64 ay, .int .i64 am, .int .i64 ad], .agg #[.int .i64 bY, .int .i64 bm, .int .i64 bd], .int .i64 n, .int .i64 k] w fun e w' => e = .returned (.bool true) ∧ Below w.heap.size w w' := by
  have O1 := Lib.hid ok1; have O2 := Lib.hid ok2; have O3 := Lib.hid ok3
  clear ok1 ok2 ok3
  skip
  go_enter Try.func7, Try.ntmps7
  go_wp2_with fail
  refine (lives6 _).mono ?_; rintro e w1 ⟨rfl, b1⟩
  have d1 : Below w.heap.size w w1 := below_step (by repeat (first | exact Below.refl _ _ | refine below_drewN ?_ _ | refine Below.drew ?_ | refine Below.setCell ?_ (by simp) _ | refine Below.alloc ?_ (by simp) _)) b1
  have B1 := Lib.hid d1
  have A1 : Bk3 w1 (w.heap.size) (.int .i64 ay) (.int .i64 am) (.int .i64 ad) := Bk3.of b1 (by simp <;> omega) (by intro j; simp [go_sem]) (by simp [go_sem]) (by simp [go_sem]) (by simp [go_sem])
  have C1 : Bk3 w1 (w.heap.size + 1) (.int .i64 bY) (.int .i64 bm) (.int .i64 bd) := Bk3.of b1 (by simp <;> omega) (by intro j; simp [go_sem]) (by simp [go_sem]) (by simp [go_sem]) (by simp [go_sem])
  clear b1 d1
  have cA_b := A1.hb
  have cA_f := A1.fz
  have cA_0 := A1.k0
  have cA_1 := A1.k1
  have cA_2 := A1.k2
  have cC_b := C1.hb
  have cC_f := C1.fz
  have cC_0 := C1.k0
  have cC_1 := C1.k1
  have cC_2 := C1.k2
  go_wp2_with fail
  clear cA_b cA_f cA_0 cA_1 cA_2 cC_b cC_f cC_0 cC_1 cC_2
  refine (madd_any ay am ad n _ n0 n1).mono ?_; rintro e w2 ⟨rfl, b2⟩
  have d2 : Below w1.heap.size w1 w2 := below_step (by repeat (first | exact Below.refl _ _ | refine below_drewN ?_ _ | refine Below.drew ?_ | refine Below.setCell ?_ (by simp) _ | refine Below.alloc ?_ (by simp) _)) b2
  have B2 := Lib.hid (below_step B1.out d2)
  have A2 := A1.keep d2
  have C2 := C1.keep d2
  clear A1 C1 b2 d2 B1
  rw [O1.out]
  simp only [Cal.orz, Cal.why, Bool.false_eq_true, if_false, if_true]
  have cA_b := A2.hb
  have cA_f := A2.fz
  have cA_0 := A2.k0
  have cA_1 := A2.k1
  have cA_2 := A2.k2
  have cC_b := C2.hb
  have cC_f := C2.fz
  have cC_0 := C2.k0
  have cC_1 := C2.k1
  have cC_2 := C2.k2
  go_wp2_with fail
  clear cA_b cA_f cA_0 cA_1 cA_2 cC_b cC_f cC_0 cC_1 cC_2
  refine (madd_any ay am ad k _ k0 k1).mono ?_; rintro e w3 ⟨rfl, b3⟩
  have d3 : Below w2.heap.size w2 w3 := below_step (by repeat (first | exact Below.refl _ _ | refine below_drewN ?_ _ | refine Below.drew ?_ | refine Below.setCell ?_ (by simp) _ | refine Below.alloc ?_ (by simp) _)) b3
  have B3 := Lib.hid (below_step B2.out d3)
  have A3 := A2.keep d3
  have C3 := C2.keep d3
  have aX := B2.out.size
  have nXA := Nat.ne_of_lt A2.hb
  have oXA := Nat.ne_of_gt A2.hb
  have nXC := Nat.ne_of_lt C2.hb
  have oXC := Nat.ne_of_gt C2.hb
  have X3 : Bk3 w3 (w2.heap.size) (.int .i64 (Mo.mY ay am n)) (.int .i64 (Mo.mM ay am n)) (.int .i64 (Mo.mD ay am ad n)) := Bk3.of b3 (by simp <;> omega) (by intro j; simp [go_sem]) (by simp [go_sem]) (by simp [go_sem]) (by simp [go_sem])
  clear A2 C2 b3 d3 B2
  rw [O2.out]
  simp only [Cal.orz, Cal.why, Bool.false_eq_true, if_false, if_true]
  have cA_b := A3.hb
  have cA_f := A3.fz
  have cA_0 := A3.k0
  have cA_1 := A3.k1
  have cA_2 := A3.k2
  have cC_b := C3.hb
  have cC_f := C3.fz
  have cC_0 := C3.k0
  have cC_1 := C3.k1
  have cC_2 := C3.k2
  have cX_b := X3.hb
  have cX_f := X3.fz
  have cX_0 := X3.k0
  have cX_1 := X3.k1
  have cX_2 := X3.k2
  go_wp2_with fail
  clear cA_b cA_f cA_0 cA_1 cA_2 cC_b cC_f cC_0 cC_1 cC_2 cX_b cX_f cX_0 cX_1 cX_2
  refine (madd_any bY bm bd n _ n0 n1).mono ?_; rintro e w4 ⟨rfl, b4⟩
  have d4 : Below w3.heap.size w3 w4 := below_step (by repeat (first | exact Below.refl _ _ | refine below_drewN ?_ _ | refine Below.drew ?_ | refine Below.setCell ?_ (by simp) _ | refine Below.alloc ?_ (by simp) _)) b4
  have B4 := Lib.hid (below_step B3.out d4)
  have A4 := A3.keep d4
  have C4 := C3.keep d4
  have X4 := X3.keep d4
  have aY := B3.out.size
  have nYA := Nat.ne_of_lt A3.hb
  have oYA := Nat.ne_of_gt A3.hb
  have nYC := Nat.ne_of_lt C3.hb
  have oYC := Nat.ne_of_gt C3.hb
  have nYX := Nat.ne_of_lt X3.hb
  have oYX := Nat.ne_of_gt X3.hb
  have Y4 : Bk3 w4 (w3.heap.size) (.int .i64 (Mo.mY ay am k)) (.int .i64 (Mo.mM ay am k)) (.int .i64 (Mo.mD ay am ad k)) := Bk3.of b4 (by simp <;> omega) (by intro j; simp [go_sem]) (by simp [go_sem]) (by simp [go_sem]) (by simp [go_sem])
  clear A3 C3 X3 b4 d4 B3
  rw [O3.out]
  simp only [Cal.orz, Cal.why, Bool.false_eq_true, if_false, if_true]
  
  skip
  
  skip
  have cA_b := A4.hb
  have cA_f := A4.fz
  have cA_0 := A4.k0
  have cA_1 := A4.k1
  have cA_2 := A4.k2
  have cC_b := C4.hb
  have cC_f := C4.fz
  have cC_0 := C4.k0
  have cC_1 := C4.k1
  have cC_2 := C4.k2
  have cX_b := X4.hb
  have cX_f := X4.fz
  have cX_0 := X4.k0
  have cX_1 := X4.k1
  have cX_2 := X4.k2
  have cY_b := Y4.hb
  have cY_f := Y4.fz
  have cY_0 := Y4.k0
  have cY_1 := Y4.k1
  have cY_2 := Y4.k2
  go_wp2_with fail
  clear cA_b cA_f cA_0 cA_1 cA_2 cC_b cC_f cC_0 cC_1 cC_2 cX_b cX_f cX_0 cX_1 cX_2 cY_b cY_f cY_0 cY_1 cY_2
  refine (dcompare _ _ _ _ _ _ _).mono ?_; rintro e w5 ⟨rfl, b5⟩
  have d5 : Below w4.heap.size w4 w5 := below_step (by repeat (first | exact Below.refl _ _ | refine below_drewN ?_ _ | refine Below.drew ?_ | refine Below.setCell ?_ (by simp) _ | refine Below.alloc ?_ (by simp) _)) b5
  have B5 := Lib.hid (below_step B4.out d5)
  have A5 := A4.keep d5
  have C5 := C4.keep d5
  have X5 := X4.keep d5
  have Y5 := Y4.keep d5
  have aZ := B4.out.size
  have nZA := Nat.ne_of_lt A4.hb
  have oZA := Nat.ne_of_gt A4.hb
  have nZC := Nat.ne_of_lt C4.hb
  have oZC := Nat.ne_of_gt C4.hb
  have nZX := Nat.ne_of_lt X4.hb
  have oZX := Nat.ne_of_gt X4.hb
  have nZY := Nat.ne_of_lt Y4.hb
  have oZY := Nat.ne_of_gt Y4.hb
  have Z5 : Bk3 w5 (w4.heap.size) (.int .i64 (Mo.mY bY bm n)) (.int .i64 (Mo.mM bY bm n)) (.int .i64 (Mo.mD bY bm bd n)) := Bk3.of b5 (by simp <;> omega) (by intro j; simp [go_sem]) (by simp [go_sem]) (by simp [go_sem]) (by simp [go_sem])
  clear A4 C4 X4 Y4 b5 d5 B4
  
  have cA_b := A5.hb
  have cA_f := A5.fz
  have cA_0 := A5.k0
  have cA_1 := A5.k1
  have cA_2 := A5.k2
  have cC_b := C5.hb
  have cC_f := C5.fz
  have cC_0 := C5.k0
  have cC_1 := C5.k1
  have cC_2 := C5.k2
  have cX_b := X5.hb
  have cX_f := X5.fz
  have cX_0 := X5.k0
  have cX_1 := X5.k1
  have cX_2 := X5.k2
  have cY_b := Y5.hb
  have cY_f := Y5.fz
  have cY_0 := Y5.k0
  have cY_1 := Y5.k1
  have cY_2 := Y5.k2
  have cZ_b := Z5.hb
  have cZ_f := Z5.fz
  have cZ_0 := Z5.k0
  have cZ_1 := Z5.k1
  have cZ_2 := Z5.k2
  go_wp2_with fail
  clear cA_b cA_f cA_0 cA_1 cA_2 cC_b cC_f cC_0 cC_1 cC_2 cX_b cX_f cX_0 cX_1 cX_2 cY_b cY_f cY_0 cY_1 cY_2 cZ_b cZ_f cZ_0 cZ_1 cZ_2
  go_ret
  exact ⟨rfl, (by have hz := B5.out.size; repeat (first | exact B5.out | refine below_drewN ?_ _ | refine Below.drew ?_ | refine Below.setCell ?_ (by first | omega | (simp; done) | (simp; omega)) _ | refine Below.alloc ?_ (by first | omega | (simp; done) | (simp; omega)) _))⟩
set_option maxHeartbeats 2000000 in
set_option maxRecDepth 100000 in
theorem morder_gt_le (ay am ad bY bm bd n k : Int) (w : World) (n0 : -9223372036854775808 ≤ n) (n1 : n ≤ 9223372036854775807) (k0 : -9223372036854775808 ≤ k) (k1 : k ≤ 9223372036854775807) (ok1 : Mo.mok ay am ad n = true) (hn : k < n) (ok2 : Mo.mok ay am ad k = true) (ok3 : Mo.mok bY bm bd n = true) (hd : cmpD ay am ad bY bm bd ≤ 0) (hf : cmpD (Mo.mY ay am n) (Mo.mM ay am n) (Mo.mD ay am ad n) (Mo.mY bY bm n) (Mo.mM bY bm n) (Mo.mD bY bm bd n) ≤ 0) :
    Calls Try.prog 7 #[.agg #[.int .i64 ay, .int .i64 am, .int .i64 ad], .agg #[.int .i64 bY, .int .i64 bm, .int .i64 bd], .int .i64 n, .int .i64 k] w fun e w' => e = .returned (.bool true) ∧ Below w.heap.size w w' := by
  have O1 := Lib.hid ok1; have O2 := Lib.hid ok2; have O3 := Lib.hid ok3
  clear ok1 ok2 ok3
  skip
  go_enter Try.func7, Try.ntmps7
  go_wp2_with fail
  refine (lives6 _).mono ?_; rintro e w1 ⟨rfl, b1⟩
  have d1 : Below w.heap.size w w1 := below_step (by repeat (first | exact Below.refl _ _ | refine below_drewN ?_ _ | refine Below.drew ?_ | refine Below.setCell ?_ (by simp) _ | refine Below.alloc ?_ (by simp) _)) b1
  have B1 := Lib.hid d1
  have A1 : Bk3 w1 (w.heap.size) (.int .i64 ay) (.int .i64 am) (.int .i64 ad) := Bk3.of b1 (by simp <;> omega) (by intro j; simp [go_sem]) (by simp [go_sem]) (by simp [go_sem]) (by simp [go_sem])
  have C1 : Bk3 w1 (w.heap.size + 1) (.int .i64 bY) (.int .i64 bm) (.int .i64 bd) := Bk3.of b1 (by simp <;> omega) (by intro j; simp [go_sem]) (by simp [go_sem]) (by simp [go_sem]) (by simp [go_sem])
  clear b1 d1
  have cA_b := A1.hb
  have cA_f := A1.fz
  have cA_0 := A1.k0
  have cA_1 := A1.k1
  have cA_2 := A1.k2
  have cC_b := C1.hb
  have cC_f := C1.fz
  have cC_0 := C1.k0
  have cC_1 := C1.k1
  have cC_2 := C1.k2
  go_wp2_with fail
  clear cA_b cA_f cA_0 cA_1 cA_2 cC_b cC_f cC_0 cC_1 cC_2
  refine (madd_any ay am ad n _ n0 n1).mono ?_; rintro e w2 ⟨rfl, b2⟩
  have d2 : Below w1.heap.size w1 w2 := below_step (by repeat (first | exact Below.refl _ _ | refine below_drewN ?_ _ | refine Below.drew ?_ | refine Below.setCell ?_ (by simp) _ | refine Below.alloc ?_ (by simp) _)) b2
  have B2 := Lib.hid (below_step B1.out d2)
  have A2 := A1.keep d2
  have C2 := C1.keep d2
  clear A1 C1 b2 d2 B1
  rw [O1.out]
  simp only [Cal.orz, Cal.why, Bool.false_eq_true, if_false, if_true]
  have cA_b := A2.hb
  have cA_f := A2.fz
  have cA_0 := A2.k0
  have cA_1 := A2.k1
  have cA_2 := A2.k2
  have cC_b := C2.hb
  have cC_f := C2.fz
  have cC_0 := C2.k0
  have cC_1 := C2.k1
  have cC_2 := C2.k2
  go_wp2_with fail
  clear cA_b cA_f cA_0 cA_1 cA_2 cC_b cC_f cC_0 cC_1 cC_2
  refine (madd_any ay am ad k _ k0 k1).mono ?_; rintro e w3 ⟨rfl, b3⟩
  have d3 : Below w2.heap.size w2 w3 := below_step (by repeat (first | exact Below.refl _ _ | refine below_drewN ?_ _ | refine Below.drew ?_ | refine Below.setCell ?_ (by simp) _ | refine Below.alloc ?_ (by simp) _)) b3
  have B3 := Lib.hid (below_step B2.out d3)
  have A3 := A2.keep d3
  have C3 := C2.keep d3
  have aX := B2.out.size
  have nXA := Nat.ne_of_lt A2.hb
  have oXA := Nat.ne_of_gt A2.hb
  have nXC := Nat.ne_of_lt C2.hb
  have oXC := Nat.ne_of_gt C2.hb
  have X3 : Bk3 w3 (w2.heap.size) (.int .i64 (Mo.mY ay am n)) (.int .i64 (Mo.mM ay am n)) (.int .i64 (Mo.mD ay am ad n)) := Bk3.of b3 (by simp <;> omega) (by intro j; simp [go_sem]) (by simp [go_sem]) (by simp [go_sem]) (by simp [go_sem])
  clear A2 C2 b3 d3 B2
  rw [O2.out]
  simp only [Cal.orz, Cal.why, Bool.false_eq_true, if_false, if_true]
  have cA_b := A3.hb
  have cA_f := A3.fz
  have cA_0 := A3.k0
  have cA_1 := A3.k1
  have cA_2 := A3.k2
  have cC_b := C3.hb
  have cC_f := C3.fz
  have cC_0 := C3.k0
  have cC_1 := C3.k1
  have cC_2 := C3.k2
  have cX_b := X3.hb
  have cX_f := X3.fz
  have cX_0 := X3.k0
  have cX_1 := X3.k1
  have cX_2 := X3.k2
  go_wp2_with fail
  clear cA_b cA_f cA_0 cA_1 cA_2 cC_b cC_f cC_0 cC_1 cC_2 cX_b cX_f cX_0 cX_1 cX_2
  refine (madd_any bY bm bd n _ n0 n1).mono ?_; rintro e w4 ⟨rfl, b4⟩
  have d4 : Below w3.heap.size w3 w4 := below_step (by repeat (first | exact Below.refl _ _ | refine below_drewN ?_ _ | refine Below.drew ?_ | refine Below.setCell ?_ (by simp) _ | refine Below.alloc ?_ (by simp) _)) b4
  have B4 := Lib.hid (below_step B3.out d4)
  have A4 := A3.keep d4
  have C4 := C3.keep d4
  have X4 := X3.keep d4
  have aY := B3.out.size
  have nYA := Nat.ne_of_lt A3.hb
  have oYA := Nat.ne_of_gt A3.hb
  have nYC := Nat.ne_of_lt C3.hb
  have oYC := Nat.ne_of_gt C3.hb
  have nYX := Nat.ne_of_lt X3.hb
  have oYX := Nat.ne_of_gt X3.hb
  have Y4 : Bk3 w4 (w3.heap.size) (.int .i64 (Mo.mY ay am k)) (.int .i64 (Mo.mM ay am k)) (.int .i64 (Mo.mD ay am ad k)) := Bk3.of b4 (by simp <;> omega) (by intro j; simp [go_sem]) (by simp [go_sem]) (by simp [go_sem]) (by simp [go_sem])
  clear A3 C3 X3 b4 d4 B3
  rw [O3.out]
  simp only [Cal.orz, Cal.why, Bool.false_eq_true, if_false, if_true]
  
  skip
  
  skip
  have cA_b := A4.hb
  have cA_f := A4.fz
  have cA_0 := A4.k0
  have cA_1 := A4.k1
  have cA_2 := A4.k2
  have cC_b := C4.hb
  have cC_f := C4.fz
  have cC_0 := C4.k0
  have cC_1 := C4.k1
  have cC_2 := C4.k2
  have cX_b := X4.hb
  have cX_f := X4.fz
  have cX_0 := X4.k0
  have cX_1 := X4.k1
  have cX_2 := X4.k2
  have cY_b := Y4.hb
  have cY_f := Y4.fz
  have cY_0 := Y4.k0
  have cY_1 := Y4.k1
  have cY_2 := Y4.k2
  go_wp2_with fail
  clear cA_b cA_f cA_0 cA_1 cA_2 cC_b cC_f cC_0 cC_1 cC_2 cX_b cX_f cX_0 cX_1 cX_2 cY_b cY_f cY_0 cY_1 cY_2
  refine (dcompare _ _ _ _ _ _ _).mono ?_; rintro e w5 ⟨rfl, b5⟩
  have d5 : Below w4.heap.size w4 w5 := below_step (by repeat (first | exact Below.refl _ _ | refine below_drewN ?_ _ | refine Below.drew ?_ | refine Below.setCell ?_ (by simp) _ | refine Below.alloc ?_ (by simp) _)) b5
  have B5 := Lib.hid (below_step B4.out d5)
  have A5 := A4.keep d5
  have C5 := C4.keep d5
  have X5 := X4.keep d5
  have Y5 := Y4.keep d5
  have aZ := B4.out.size
  have nZA := Nat.ne_of_lt A4.hb
  have oZA := Nat.ne_of_gt A4.hb
  have nZC := Nat.ne_of_lt C4.hb
  have oZC := Nat.ne_of_gt C4.hb
  have nZX := Nat.ne_of_lt X4.hb
  have oZX := Nat.ne_of_gt X4.hb
  have nZY := Nat.ne_of_lt Y4.hb
  have oZY := Nat.ne_of_gt Y4.hb
  have Z5 : Bk3 w5 (w4.heap.size) (.int .i64 (Mo.mY bY bm n)) (.int .i64 (Mo.mM bY bm n)) (.int .i64 (Mo.mD bY bm bd n)) := Bk3.of b5 (by simp <;> omega) (by intro j; simp [go_sem]) (by simp [go_sem]) (by simp [go_sem]) (by simp [go_sem])
  clear A4 C4 X4 Y4 b5 d5 B4
  have cA_b := A5.hb
  have cA_f := A5.fz
  have cA_0 := A5.k0
  have cA_1 := A5.k1
  have cA_2 := A5.k2
  have cC_b := C5.hb
  have cC_f := C5.fz
  have cC_0 := C5.k0
  have cC_1 := C5.k1
  have cC_2 := C5.k2
  have cX_b := X5.hb
  have cX_f := X5.fz
  have cX_0 := X5.k0
  have cX_1 := X5.k1
  have cX_2 := X5.k2
  have cY_b := Y5.hb
  have cY_f := Y5.fz
  have cY_0 := Y5.k0
  have cY_1 := Y5.k1
  have cY_2 := Y5.k2
  have cZ_b := Z5.hb
  have cZ_f := Z5.fz
  have cZ_0 := Z5.k0
  have cZ_1 := Z5.k1
  have cZ_2 := Z5.k2
  go_wp2_with fail
  clear cA_b cA_f cA_0 cA_1 cA_2 cC_b cC_f cC_0 cC_1 cC_2 cX_b cX_f cX_0 cX_1 cX_2 cY_b cY_f cY_0 cY_1 cY_2 cZ_b cZ_f cZ_0 cZ_1 cZ_2
  refine (dcompare _ _ _ _ _ _ _).mono ?_; rintro e w6 ⟨rfl, b6⟩
  have d6 : Below w5.heap.size w5 w6 := below_step (by repeat (first | exact Below.refl _ _ | refine below_drewN ?_ _ | refine Below.drew ?_ | refine Below.setCell ?_ (by simp) _ | refine Below.alloc ?_ (by simp) _)) b6
  have B6 := Lib.hid (below_step B5.out d6)
  have A6 := A5.keep d6
  have C6 := C5.keep d6
  have X6 := X5.keep d6
  have Y6 := Y5.keep d6
  have Z6 := Z5.keep d6
  clear A5 C5 X5 Y5 Z5 b6 d6 B5
  have cA_b := A6.hb
  have cA_f := A6.fz
  have cA_0 := A6.k0
  have cA_1 := A6.k1
  have cA_2 := A6.k2
  have cC_b := C6.hb
  have cC_f := C6.fz
  have cC_0 := C6.k0
  have cC_1 := C6.k1
  have cC_2 := C6.k2
  have cX_b := X6.hb
  have cX_f := X6.fz
  have cX_0 := X6.k0
  have cX_1 := X6.k1
  have cX_2 := X6.k2
  have cY_b := Y6.hb
  have cY_f := Y6.fz
  have cY_0 := Y6.k0
  have cY_1 := Y6.k1
  have cY_2 := Y6.k2
  have cZ_b := Z6.hb
  have cZ_f := Z6.fz
  have cZ_0 := Z6.k0
  have cZ_1 := Z6.k1
  have cZ_2 := Z6.k2
  go_wp2_with fail
  clear cA_b cA_f cA_0 cA_1 cA_2 cC_b cC_f cC_0 cC_1 cC_2 cX_b cX_f cX_0 cX_1 cX_2 cY_b cY_f cY_0 cY_1 cY_2 cZ_b cZ_f cZ_0 cZ_1 cZ_2
  go_ret
  exact ⟨rfl, (by have hz := B6.out.size; repeat (first | exact B6.out | refine below_drewN ?_ _ | refine Below.drew ?_ | refine Below.setCell ?_ (by first | omega | (simp; done) | (simp; omega)) _ | refine Below.alloc ?_ (by first | omega | (simp; done) | (simp; omega)) _))⟩
set_option maxHeartbeats 2000000 in
set_option maxRecDepth 100000 in
theorem morder_no_no (ay am ad bY bm bd n k : Int) (w : World) (n0 : -9223372036854775808 ≤ n) (n1 : n ≤ 9223372036854775807) (k0 : -9223372036854775808 ≤ k) (k1 : k ≤ 9223372036854775807) (ok1 : Mo.mok ay am ad n = true) (ok2 : Mo.mok ay am ad k = false) (ok3 : Mo.mok bY bm bd n = false) :
    Calls Try.prog 7 #[.agg #[.int .i64 ay, .int .i64 am, .int .i64 ad], .agg #[.int .i64 bY, .int .i64 bm, .int .i64 bd], .int .i64 n, .int .i64 k] w fun e w' => e = .returned (.bool true) ∧ Below w.heap.size w w' := by
  have O1 := Lib.hid ok1; have O2 := Lib.hid ok2; have O3 := Lib.hid ok3
  clear ok1 ok2 ok3
  skip
  go_enter Try.func7, Try.ntmps7
  go_wp2_with fail
  refine (lives6 _).mono ?_; rintro e w1 ⟨rfl, b1⟩
  have d1 : Below w.heap.size w w1 := below_step (by repeat (first | exact Below.refl _ _ | refine below_drewN ?_ _ | refine Below.drew ?_ | refine Below.setCell ?_ (by simp) _ | refine Below.alloc ?_ (by simp) _)) b1
  have B1 := Lib.hid d1
  have A1 : Bk3 w1 (w.heap.size) (.int .i64 ay) (.int .i64 am) (.int .i64 ad) := Bk3.of b1 (by simp <;> omega) (by intro j; simp [go_sem]) (by simp [go_sem]) (by simp [go_sem]) (by simp [go_sem])
  have C1 : Bk3 w1 (w.heap.size + 1) (.int .i64 bY) (.int .i64 bm) (.int .i64 bd) := Bk3.of b1 (by simp <;> omega) (by intro j; simp [go_sem]) (by simp [go_sem]) (by simp [go_sem]) (by simp [go_sem])
  clear b1 d1
  have cA_b := A1.hb
  have cA_f := A1.fz
  have cA_0 := A1.k0
  have cA_1 := A1.k1
  have cA_2 := A1.k2
  have cC_b := C1.hb
  have cC_f := C1.fz
  have cC_0 := C1.k0
  have cC_1 := C1.k1
  have cC_2 := C1.k2
  go_wp2_with fail
  clear cA_b cA_f cA_0 cA_1 cA_2 cC_b cC_f cC_0 cC_1 cC_2
  refine (madd_any ay am ad n _ n0 n1).mono ?_; rintro e w2 ⟨rfl, b2⟩
  have d2 : Below w1.heap.size w1 w2 := below_step (by repeat (first | exact Below.refl _ _ | refine below_drewN ?_ _ | refine Below.drew ?_ | refine Below.setCell ?_ (by simp) _ | refine Below.alloc ?_ (by simp) _)) b2
  have B2 := Lib.hid (below_step B1.out d2)
  have A2 := A1.keep d2
  have C2 := C1.keep d2
  clear A1 C1 b2 d2 B1
  rw [O1.out]
  simp only [Cal.orz, Cal.why, Bool.false_eq_true, if_false, if_true]
  have cA_b := A2.hb
  have cA_f := A2.fz
  have cA_0 := A2.k0
  have cA_1 := A2.k1
  have cA_2 := A2.k2
  have cC_b := C2.hb
  have cC_f := C2.fz
  have cC_0 := C2.k0
  have cC_1 := C2.k1
  have cC_2 := C2.k2
  go_wp2_with fail
  clear cA_b cA_f cA_0 cA_1 cA_2 cC_b cC_f cC_0 cC_1 cC_2
  refine (madd_any ay am ad k _ k0 k1).mono ?_; rintro e w3 ⟨rfl, b3⟩
  have d3 : Below w2.heap.size w2 w3 := below_step (by repeat (first | exact Below.refl _ _ | refine below_drewN ?_ _ | refine Below.drew ?_ | refine Below.setCell ?_ (by simp) _ | refine Below.alloc ?_ (by simp) _)) b3
  have B3 := Lib.hid (below_step B2.out d3)
  have A3 := A2.keep d3
  have C3 := C2.keep d3
  have aX := B2.out.size
  have nXA := Nat.ne_of_lt A2.hb
  have oXA := Nat.ne_of_gt A2.hb
  have nXC := Nat.ne_of_lt C2.hb
  have oXC := Nat.ne_of_gt C2.hb
  have X3 : Bk3 w3 (w2.heap.size) (.int .i64 (Mo.mY ay am n)) (.int .i64 (Mo.mM ay am n)) (.int .i64 (Mo.mD ay am ad n)) := Bk3.of b3 (by simp <;> omega) (by intro j; simp [go_sem]) (by simp [go_sem]) (by simp [go_sem]) (by simp [go_sem])
  clear A2 C2 b3 d3 B2
  rw [O2.out]
  simp only [Cal.orz, Cal.why, Bool.false_eq_true, if_false, if_true]
  have cA_b := A3.hb
  have cA_f := A3.fz
  have cA_0 := A3.k0
  have cA_1 := A3.k1
  have cA_2 := A3.k2
  have cC_b := C3.hb
  have cC_f := C3.fz
  have cC_0 := C3.k0
  have cC_1 := C3.k1
  have cC_2 := C3.k2
  have cX_b := X3.hb
  have cX_f := X3.fz
  have cX_0 := X3.k0
  have cX_1 := X3.k1
  have cX_2 := X3.k2
  go_wp2_with fail
  clear cA_b cA_f cA_0 cA_1 cA_2 cC_b cC_f cC_0 cC_1 cC_2 cX_b cX_f cX_0 cX_1 cX_2
  refine (madd_any bY bm bd n _ n0 n1).mono ?_; rintro e w4 ⟨rfl, b4⟩
  have d4 : Below w3.heap.size w3 w4 := below_step (by repeat (first | exact Below.refl _ _ | refine below_drewN ?_ _ | refine Below.drew ?_ | refine Below.setCell ?_ (by simp) _ | refine Below.alloc ?_ (by simp) _)) b4
  have B4 := Lib.hid (below_step B3.out d4)
  have A4 := A3.keep d4
  have C4 := C3.keep d4
  have X4 := X3.keep d4
  have aY := B3.out.size
  have nYA := Nat.ne_of_lt A3.hb
  have oYA := Nat.ne_of_gt A3.hb
  have nYC := Nat.ne_of_lt C3.hb
  have oYC := Nat.ne_of_gt C3.hb
  have nYX := Nat.ne_of_lt X3.hb
  have oYX := Nat.ne_of_gt X3.hb
  have Y4 : Bk3 w4 (w3.heap.size) (.int .i64 0) (.int .i64 0) (.int .i64 0) := Bk3.of b4 (by simp <;> omega) (by intro j; simp [go_sem]) (by simp [go_sem]) (by simp [go_sem]) (by simp [go_sem])
  clear A3 C3 X3 b4 d4 B3
  rw [O3.out]
  simp only [Cal.orz, Cal.why, Bool.false_eq_true, if_false, if_true]
  
  skip
  
  skip
  
  
  have cA_b := A4.hb
  have cA_f := A4.fz
  have cA_0 := A4.k0
  have cA_1 := A4.k1
  have cA_2 := A4.k2
  have cC_b := C4.hb
  have cC_f := C4.fz
  have cC_0 := C4.k0
  have cC_1 := C4.k1
  have cC_2 := C4.k2
  have cX_b := X4.hb
  have cX_f := X4.fz
  have cX_0 := X4.k0
  have cX_1 := X4.k1
  have cX_2 := X4.k2
  have cY_b := Y4.hb
  have cY_f := Y4.fz
  have cY_0 := Y4.k0
  have cY_1 := Y4.k1
  have cY_2 := Y4.k2
  go_wp2_with fail
  clear cA_b cA_f cA_0 cA_1 cA_2 cC_b cC_f cC_0 cC_1 cC_2 cX_b cX_f cX_0 cX_1 cX_2 cY_b cY_f cY_0 cY_1 cY_2
  go_ret
  exact ⟨rfl, (by have hz := B4.out.size; repeat (first | exact B4.out | refine below_drewN ?_ _ | refine Below.drew ?_ | refine Below.setCell ?_ (by first | omega | (simp; done) | (simp; omega)) _ | refine Below.alloc ?_ (by first | omega | (simp; done) | (simp; omega)) _))⟩
set_option maxHeartbeats 2000000 in
set_option maxRecDepth 100000 in
theorem morder_no_gt (ay am ad bY bm bd n k : Int) (w : World) (n0 : -9223372036854775808 ≤ n) (n1 : n ≤ 9223372036854775807) (k0 : -9223372036854775808 ≤ k) (k1 : k ≤ 9223372036854775807) (ok1 : Mo.mok ay am ad n = true) (ok2 : Mo.mok ay am ad k = false) (ok3 : Mo.mok bY bm bd n = true) (hd : 0 < cmpD ay am ad bY bm bd) :
    Calls Try.prog 7 #[.agg #[.int .i64 ay, .int .i64 am, .int .i64 ad], .agg #[.int .i64 bY, .int .i64 bm, .int .i64 bd], .int .i64 n, .int .i64 k] w fun e w' => e = .returned (.bool true) ∧ Below w.heap.size w w' := by
  have O1 := Lib.hid ok1; have O2 := Lib.hid ok2; have O3 := Lib.hid ok3
  clear ok1 ok2 ok3
  skip
  go_enter Try.func7, Try.ntmps7
  go_wp2_with fail
  refine (lives6 _).mono ?_; rintro e w1 ⟨rfl, b1⟩
  have d1 : Below w.heap.size w w1 := below_step (by repeat (first | exact Below.refl _ _ | refine below_drewN ?_ _ | refine Below.drew ?_ | refine Below.setCell ?_ (by simp) _ | refine Below.alloc ?_ (by simp) _)) b1
  have B1 := Lib.hid d1
  have A1 : Bk3 w1 (w.heap.size) (.int .i64 ay) (.int .i64 am) (.int .i64 ad) := Bk3.of b1 (by simp <;> omega) (by intro j; simp [go_sem]) (by simp [go_sem]) (by simp [go_sem]) (by simp [go_sem])
  have C1 : Bk3 w1 (w.heap.size + 1) (.int .i64 bY) (.int .i64 bm) (.int .i64 bd) := Bk3.of b1 (by simp <;> omega) (by intro j; simp [go_sem]) (by simp [go_sem]) (by simp [go_sem]) (by simp [go_sem])
  clear b1 d1
  have cA_b := A1.hb
  have cA_f := A1.fz
  have cA_0 := A1.k0
  have cA_1 := A1.k1
  have cA_2 := A1.k2
  have cC_b := C1.hb
  have cC_f := C1.fz
  have cC_0 := C1.k0
  have cC_1 := C1.k1
  have cC_2 := C1.k2
  go_wp2_with fail
  clear cA_b cA_f cA_0 cA_1 cA_2 cC_b cC_f cC_0 cC_1 cC_2
  refine (madd_any ay am ad n _ n0 n1).mono ?_; rintro e w2 ⟨rfl, b2⟩
  have d2 : Below w1.heap.size w1 w2 := below_step (by repeat (first | exact Below.refl _ _ | refine below_drewN ?_ _ | refine Below.drew ?_ | refine Below.setCell ?_ (by simp) _ | refine Below.alloc ?_ (by simp) _)) b2
  have B2 := Lib.hid (below_step B1.out d2)
  have A2 := A1.keep d2
  have C2 := C1.keep d2
  clear A1 C1 b2 d2 B1
  rw [O1.out]
  simp only [Cal.orz, Cal.why, Bool.false_eq_true, if_false, if_true]
  have cA_b := A2.hb
  have cA_f := A2.fz
  have cA_0 := A2.k0
  have cA_1 := A2.k1
  have cA_2 := A2.k2
  have cC_b := C2.hb
  have cC_f := C2.fz
  have cC_0 := C2.k0
  have cC_1 := C2.k1
  have cC_2 := C2.k2
  go_wp2_with fail
  clear cA_b cA_f cA_0 cA_1 cA_2 cC_b cC_f cC_0 cC_1 cC_2
  refine (madd_any ay am ad k _ k0 k1).mono ?_; rintro e w3 ⟨rfl, b3⟩
  have d3 : Below w2.heap.size w2 w3 := below_step (by repeat (first | exact Below.refl _ _ | refine below_drewN ?_ _ | refine Below.drew ?_ | refine Below.setCell ?_ (by simp) _ | refine Below.alloc ?_ (by simp) _)) b3
  have B3 := Lib.hid (below_step B2.out d3)
  have A3 := A2.keep d3
  have C3 := C2.keep d3
  have aX := B2.out.size
  have nXA := Nat.ne_of_lt A2.hb
  have oXA := Nat.ne_of_gt A2.hb
  have nXC := Nat.ne_of_lt C2.hb
  have oXC := Nat.ne_of_gt C2.hb
  have X3 : Bk3 w3 (w2.heap.size) (.int .i64 (Mo.mY ay am n)) (.int .i64 (Mo.mM ay am n)) (.int .i64 (Mo.mD ay am ad n)) := Bk3.of b3 (by simp <;> omega) (by intro j; simp [go_sem]) (by simp [go_sem]) (by simp [go_sem]) (by simp [go_sem])
  clear A2 C2 b3 d3 B2
  rw [O2.out]
  simp only [Cal.orz, Cal.why, Bool.false_eq_true, if_false, if_true]
  have cA_b := A3.hb
  have cA_f := A3.fz
  have cA_0 := A3.k0
  have cA_1 := A3.k1
  have cA_2 := A3.k2
  have cC_b := C3.hb
  have cC_f := C3.fz
  have cC_0 := C3.k0
  have cC_1 := C3.k1
  have cC_2 := C3.k2
  have cX_b := X3.hb
  have cX_f := X3.fz
  have cX_0 := X3.k0
  have cX_1 := X3.k1
  have cX_2 := X3.k2
  go_wp2_with fail
  clear cA_b cA_f cA_0 cA_1 cA_2 cC_b cC_f cC_0 cC_1 cC_2 cX_b cX_f cX_0 cX_1 cX_2
  refine (madd_any bY bm bd n _ n0 n1).mono ?_; rintro e w4 ⟨rfl, b4⟩
  have d4 : Below w3.heap.size w3 w4 := below_step (by repeat (first | exact Below.refl _ _ | refine below_drewN ?_ _ | refine Below.drew ?_ | refine Below.setCell ?_ (by simp) _ | refine Below.alloc ?_ (by simp) _)) b4
  have B4 := Lib.hid (below_step B3.out d4)
  have A4 := A3.keep d4
  have C4 := C3.keep d4
  have X4 := X3.keep d4
  have aY := B3.out.size
  have nYA := Nat.ne_of_lt A3.hb
  have oYA := Nat.ne_of_gt A3.hb
  have nYC := Nat.ne_of_lt C3.hb
  have oYC := Nat.ne_of_gt C3.hb
  have nYX := Nat.ne_of_lt X3.hb
  have oYX := Nat.ne_of_gt X3.hb
  have Y4 : Bk3 w4 (w3.heap.size) (.int .i64 0) (.int .i64 0) (.int .i64 0) := Bk3.of b4 (by simp <;> omega) (by intro j; simp [go_sem]) (by simp [go_sem]) (by simp [go_sem]) (by simp [go_sem])
  clear A3 C3 X3 b4 d4 B3
  rw [O3.out]
  simp only [Cal.orz, Cal.why, Bool.false_eq_true, if_false, if_true]
  
  skip
  
  skip
  have cA_b := A4.hb
  have cA_f := A4.fz
  have cA_0 := A4.k0
  have cA_1 := A4.k1
  have cA_2 := A4.k2
  have cC_b := C4.hb
  have cC_f := C4.fz
  have cC_0 := C4.k0
  have cC_1 := C4.k1
  have cC_2 := C4.k2
  have cX_b := X4.hb
  have cX_f := X4.fz
  have cX_0 := X4.k0
  have cX_1 := X4.k1
  have cX_2 := X4.k2
  have cY_b := Y4.hb
  have cY_f := Y4.fz
  have cY_0 := Y4.k0
  have cY_1 := Y4.k1
  have cY_2 := Y4.k2
  go_wp2_with fail
  clear cA_b cA_f cA_0 cA_1 cA_2 cC_b cC_f cC_0 cC_1 cC_2 cX_b cX_f cX_0 cX_1 cX_2 cY_b cY_f cY_0 cY_1 cY_2
  refine (dcompare _ _ _ _ _ _ _).mono ?_; rintro e w5 ⟨rfl, b5⟩
  have d5 : Below w4.heap.size w4 w5 := below_step (by repeat (first | exact Below.refl _ _ | refine below_drewN ?_ _ | refine Below.drew ?_ | refine Below.setCell ?_ (by simp) _ | refine Below.alloc ?_ (by simp) _)) b5
  have B5 := Lib.hid (below_step B4.out d5)
  have A5 := A4.keep d5
  have C5 := C4.keep d5
  have X5 := X4.keep d5
  have Y5 := Y4.keep d5
  have aZ := B4.out.size
  have nZA := Nat.ne_of_lt A4.hb
  have oZA := Nat.ne_of_gt A4.hb
  have nZC := Nat.ne_of_lt C4.hb
  have oZC := Nat.ne_of_gt C4.hb
  have nZX := Nat.ne_of_lt X4.hb
  have oZX := Nat.ne_of_gt X4.hb
  have nZY := Nat.ne_of_lt Y4.hb
  have oZY := Nat.ne_of_gt Y4.hb
  have Z5 : Bk3 w5 (w4.heap.size) (.int .i64 (Mo.mY bY bm n)) (.int .i64 (Mo.mM bY bm n)) (.int .i64 (Mo.mD bY bm bd n)) := Bk3.of b5 (by simp <;> omega) (by intro j; simp [go_sem]) (by simp [go_sem]) (by simp [go_sem]) (by simp [go_sem])
  clear A4 C4 X4 Y4 b5 d5 B4
  
  have cA_b := A5.hb
  have cA_f := A5.fz
  have cA_0 := A5.k0
  have cA_1 := A5.k1
  have cA_2 := A5.k2
  have cC_b := C5.hb
  have cC_f := C5.fz
  have cC_0 := C5.k0
  have cC_1 := C5.k1
  have cC_2 := C5.k2
  have cX_b := X5.hb
  have cX_f := X5.fz
  have cX_0 := X5.k0
  have cX_1 := X5.k1
  have cX_2 := X5.k2
  have cY_b := Y5.hb
  have cY_f := Y5.fz
  have cY_0 := Y5.k0
  have cY_1 := Y5.k1
  have cY_2 := Y5.k2
  have cZ_b := Z5.hb
  have cZ_f := Z5.fz
  have cZ_0 := Z5.k0
  have cZ_1 := Z5.k1
  have cZ_2 := Z5.k2
  go_wp2_with fail
  clear cA_b cA_f cA_0 cA_1 cA_2 cC_b cC_f cC_0 cC_1 cC_2 cX_b cX_f cX_0 cX_1 cX_2 cY_b cY_f cY_0 cY_1 cY_2 cZ_b cZ_f cZ_0 cZ_1 cZ_2
  go_ret
  exact ⟨rfl, (by have hz := B5.out.size; repeat (first | exact B5.out | refine below_drewN ?_ _ | refine Below.drew ?_ | refine Below.setCell ?_ (by first | omega | (simp; done) | (simp; omega)) _ | refine Below.alloc ?_ (by first | omega | (simp; done) | (simp; omega)) _))⟩
set_option maxHeartbeats 2000000 in
set_option maxRecDepth 100000 in
theorem morder_no_le (ay am ad bY bm bd n k : Int) (w : World) (n0 : -9223372036854775808 ≤ n) (n1 : n ≤ 9223372036854775807) (k0 : -9223372036854775808 ≤ k) (k1 : k ≤ 9223372036854775807) (ok1 : Mo.mok ay am ad n = true) (ok2 : Mo.mok ay am ad k = false) (ok3 : Mo.mok bY bm bd n = true) (hd : cmpD ay am ad bY bm bd ≤ 0) (hf : cmpD (Mo.mY ay am n) (Mo.mM ay am n) (Mo.mD ay am ad n) (Mo.mY bY bm n) (Mo.mM bY bm n) (Mo.mD bY bm bd n) ≤ 0) :
    Calls Try.prog 7 #[.agg #[.int .i64 ay, .int .i64 am, .int .i64 ad], .agg #[.int .i64 bY, .int .i64 bm, .int .i64 bd], .int .i64 n, .int .i64 k] w fun e w' => e = .returned (.bool true) ∧ Below w.heap.size w w' := by
  have O1 := Lib.hid ok1; have O2 := Lib.hid ok2; have O3 := Lib.hid ok3
  clear ok1 ok2 ok3
  skip
  go_enter Try.func7, Try.ntmps7
  go_wp2_with fail
  refine (lives6 _).mono ?_; rintro e w1 ⟨rfl, b1⟩
  have d1 : Below w.heap.size w w1 := below_step (by repeat (first | exact Below.refl _ _ | refine below_drewN ?_ _ | refine Below.drew ?_ | refine Below.setCell ?_ (by simp) _ | refine Below.alloc ?_ (by simp) _)) b1
  have B1 := Lib.hid d1
  have A1 : Bk3 w1 (w.heap.size) (.int .i64 ay) (.int .i64 am) (.int .i64 ad) := Bk3.of b1 (by simp <;> omega) (by intro j; simp [go_sem]) (by simp [go_sem]) (by simp [go_sem]) (by simp [go_sem])
  have C1 : Bk3 w1 (w.heap.size + 1) (.int .i64 bY) (.int .i64 bm) (.int .i64 bd) := Bk3.of b1 (by simp <;> omega) (by intro j; simp [go_sem]) (by simp [go_sem]) (by simp [go_sem]) (by simp [go_sem])
  clear b1 d1
  have cA_b := A1.hb
  have cA_f := A1.fz
  have cA_0 := A1.k0
  have cA_1 := A1.k1
  have cA_2 := A1.k2
  have cC_b := C1.hb
  have cC_f := C1.fz
  have cC_0 := C1.k0
  have cC_1 := C1.k1
  have cC_2 := C1.k2
  go_wp2_with fail
  clear cA_b cA_f cA_0 cA_1 cA_2 cC_b cC_f cC_0 cC_1 cC_2
  refine (madd_any ay am ad n _ n0 n1).mono ?_; rintro e w2 ⟨rfl, b2⟩
  have d2 : Below w1.heap.size w1 w2 := below_step (by repeat (first | exact Below.refl _ _ | refine below_drewN ?_ _ | refine Below.drew ?_ | refine Below.setCell ?_ (by simp) _ | refine Below.alloc ?_ (by simp) _)) b2
  have B2 := Lib.hid (below_step B1.out d2)
  have A2 := A1.keep d2
  have C2 := C1.keep d2
  clear A1 C1 b2 d2 B1
  rw [O1.out]
  simp only [Cal.orz, Cal.why, Bool.false_eq_true, if_false, if_true]
  have cA_b := A2.hb
  have cA_f := A2.fz
  have cA_0 := A2.k0
  have cA_1 := A2.k1
  have cA_2 := A2.k2
  have cC_b := C2.hb
  have cC_f := C2.fz
  have cC_0 := C2.k0
  have cC_1 := C2.k1
  have cC_2 := C2.k2
  go_wp2_with fail
  clear cA_b cA_f cA_0 cA_1 cA_2 cC_b cC_f cC_0 cC_1 cC_2
  refine (madd_any ay am ad k _ k0 k1).mono ?_; rintro e w3 ⟨rfl, b3⟩
  have d3 : Below w2.heap.size w2 w3 := below_step (by repeat (first | exact Below.refl _ _ | refine below_drewN ?_ _ | refine Below.drew ?_ | refine Below.setCell ?_ (by simp) _ | refine Below.alloc ?_ (by simp) _)) b3
  have B3 := Lib.hid (below_step B2.out d3)
  have A3 := A2.keep d3
  have C3 := C2.keep d3
  have aX := B2.out.size
  have nXA := Nat.ne_of_lt A2.hb
  have oXA := Nat.ne_of_gt A2.hb
  have nXC := Nat.ne_of_lt C2.hb
  have oXC := Nat.ne_of_gt C2.hb
  have X3 : Bk3 w3 (w2.heap.size) (.int .i64 (Mo.mY ay am n)) (.int .i64 (Mo.mM ay am n)) (.int .i64 (Mo.mD ay am ad n)) := Bk3.of b3 (by simp <;> omega) (by intro j; simp [go_sem]) (by simp [go_sem]) (by simp [go_sem]) (by simp [go_sem])
  clear A2 C2 b3 d3 B2
  rw [O2.out]
  simp only [Cal.orz, Cal.why, Bool.false_eq_true, if_false, if_true]
  have cA_b := A3.hb
  have cA_f := A3.fz
  have cA_0 := A3.k0
  have cA_1 := A3.k1
  have cA_2 := A3.k2
  have cC_b := C3.hb
  have cC_f := C3.fz
  have cC_0 := C3.k0
  have cC_1 := C3.k1
  have cC_2 := C3.k2
  have cX_b := X3.hb
  have cX_f := X3.fz
  have cX_0 := X3.k0
  have cX_1 := X3.k1
  have cX_2 := X3.k2
  go_wp2_with fail
  clear cA_b cA_f cA_0 cA_1 cA_2 cC_b cC_f cC_0 cC_1 cC_2 cX_b cX_f cX_0 cX_1 cX_2
  refine (madd_any bY bm bd n _ n0 n1).mono ?_; rintro e w4 ⟨rfl, b4⟩
  have d4 : Below w3.heap.size w3 w4 := below_step (by repeat (first | exact Below.refl _ _ | refine below_drewN ?_ _ | refine Below.drew ?_ | refine Below.setCell ?_ (by simp) _ | refine Below.alloc ?_ (by simp) _)) b4
  have B4 := Lib.hid (below_step B3.out d4)
  have A4 := A3.keep d4
  have C4 := C3.keep d4
  have X4 := X3.keep d4
  have aY := B3.out.size
  have nYA := Nat.ne_of_lt A3.hb
  have oYA := Nat.ne_of_gt A3.hb
  have nYC := Nat.ne_of_lt C3.hb
  have oYC := Nat.ne_of_gt C3.hb
  have nYX := Nat.ne_of_lt X3.hb
  have oYX := Nat.ne_of_gt X3.hb
  have Y4 : Bk3 w4 (w3.heap.size) (.int .i64 0) (.int .i64 0) (.int .i64 0) := Bk3.of b4 (by simp <;> omega) (by intro j; simp [go_sem]) (by simp [go_sem]) (by simp [go_sem]) (by simp [go_sem])
  clear A3 C3 X3 b4 d4 B3
  rw [O3.out]
  simp only [Cal.orz, Cal.why, Bool.false_eq_true, if_false, if_true]
  
  skip
  
  skip
  have cA_b := A4.hb
  have cA_f := A4.fz
  have cA_0 := A4.k0
  have cA_1 := A4.k1
  have cA_2 := A4.k2
  have cC_b := C4.hb
  have cC_f := C4.fz
  have cC_0 := C4.k0
  have cC_1 := C4.k1
  have cC_2 := C4.k2
  have cX_b := X4.hb
  have cX_f := X4.fz
  have cX_0 := X4.k0
  have cX_1 := X4.k1
  have cX_2 := X4.k2
  have cY_b := Y4.hb
  have cY_f := Y4.fz
  have cY_0 := Y4.k0
  have cY_1 := Y4.k1
  have cY_2 := Y4.k2
  go_wp2_with fail
  clear cA_b cA_f cA_0 cA_1 cA_2 cC_b cC_f cC_0 cC_1 cC_2 cX_b cX_f cX_0 cX_1 cX_2 cY_b cY_f cY_0 cY_1 cY_2
  refine (dcompare _ _ _ _ _ _ _).mono ?_; rintro e w5 ⟨rfl, b5⟩
  have d5 : Below w4.heap.size w4 w5 := below_step (by repeat (first | exact Below.refl _ _ | refine below_drewN ?_ _ | refine Below.drew ?_ | refine Below.setCell ?_ (by simp) _ | refine Below.alloc ?_ (by simp) _)) b5
  have B5 := Lib.hid (below_step B4.out d5)
  have A5 := A4.keep d5
  have C5 := C4.keep d5
  have X5 := X4.keep d5
  have Y5 := Y4.keep d5
  have aZ := B4.out.size
  have nZA := Nat.ne_of_lt A4.hb
  have oZA := Nat.ne_of_gt A4.hb
  have nZC := Nat.ne_of_lt C4.hb
  have oZC := Nat.ne_of_gt C4.hb
  have nZX := Nat.ne_of_lt X4.hb
  have oZX := Nat.ne_of_gt X4.hb
  have nZY := Nat.ne_of_lt Y4.hb
  have oZY := Nat.ne_of_gt Y4.hb
  have Z5 : Bk3 w5 (w4.heap.size) (.int .i64 (Mo.mY bY bm n)) (.int .i64 (Mo.mM bY bm n)) (.int .i64 (Mo.mD bY bm bd n)) := Bk3.of b5 (by simp <;> omega) (by intro j; simp [go_sem]) (by simp [go_sem]) (by simp [go_sem]) (by simp [go_sem])
  clear A4 C4 X4 Y4 b5 d5 B4
  have cA_b := A5.hb
  have cA_f := A5.fz
  have cA_0 := A5.k0
  have cA_1 := A5.k1
  have cA_2 := A5.k2
  have cC_b := C5.hb
  have cC_f := C5.fz
  have cC_0 := C5.k0
  have cC_1 := C5.k1
  have cC_2 := C5.k2
  have cX_b := X5.hb
  have cX_f := X5.fz
  have cX_0 := X5.k0
  have cX_1 := X5.k1
  have cX_2 := X5.k2
  have cY_b := Y5.hb
  have cY_f := Y5.fz
  have cY_0 := Y5.k0
  have cY_1 := Y5.k1
  have cY_2 := Y5.k2
  have cZ_b := Z5.hb
  have cZ_f := Z5.fz
  have cZ_0 := Z5.k0
  have cZ_1 := Z5.k1
  have cZ_2 := Z5.k2
  go_wp2_with fail
  clear cA_b cA_f cA_0 cA_1 cA_2 cC_b cC_f cC_0 cC_1 cC_2 cX_b cX_f cX_0 cX_1 cX_2 cY_b cY_f cY_0 cY_1 cY_2 cZ_b cZ_f cZ_0 cZ_1 cZ_2
  refine (dcompare _ _ _ _ _ _ _).mono ?_; rintro e w6 ⟨rfl, b6⟩
  have d6 : Below w5.heap.size w5 w6 := below_step (by repeat (first | exact Below.refl _ _ | refine below_drewN ?_ _ | refine Below.drew ?_ | refine Below.setCell ?_ (by simp) _ | refine Below.alloc ?_ (by simp) _)) b6
  have B6 := Lib.hid (below_step B5.out d6)
  have A6 := A5.keep d6
  have C6 := C5.keep d6
  have X6 := X5.keep d6
  have Y6 := Y5.keep d6
  have Z6 := Z5.keep d6
  clear A5 C5 X5 Y5 Z5 b6 d6 B5
  have cA_b := A6.hb
  have cA_f := A6.fz
  have cA_0 := A6.k0
  have cA_1 := A6.k1
  have cA_2 := A6.k2
  have cC_b := C6.hb
  have cC_f := C6.fz
  have cC_0 := C6.k0
  have cC_1 := C6.k1
  have cC_2 := C6.k2
  have cX_b := X6.hb
  have cX_f := X6.fz
  have cX_0 := X6.k0
  have cX_1 := X6.k1
  have cX_2 := X6.k2
  have cY_b := Y6.hb
  have cY_f := Y6.fz
  have cY_0 := Y6.k0
  have cY_1 := Y6.k1
  have cY_2 := Y6.k2
  have cZ_b := Z6.hb
  have cZ_f := Z6.fz
  have cZ_0 := Z6.k0
  have cZ_1 := Z6.k1
  have cZ_2 := Z6.k2
  go_wp2_with fail
  clear cA_b cA_f cA_0 cA_1 cA_2 cC_b cC_f cC_0 cC_1 cC_2 cX_b cX_f cX_0 cX_1 cX_2 cY_b cY_f cY_0 cY_1 cY_2 cZ_b cZ_f cZ_0 cZ_1 cZ_2
  go_ret
  exact ⟨rfl, (by have hz := B6.out.size; repeat (first | exact B6.out | refine below_drewN ?_ _ | refine Below.drew ?_ | refine Below.setCell ?_ (by first | omega | (simp; done) | (simp; omega)) _ | refine Below.alloc ?_ (by first | omega | (simp; done) | (simp; omega)) _))⟩
theorem morder_walk (ay am ad bY bm bd n k : Int) (w : World) (hn : -9223372036854775808 ≤ n ∧ n ≤ 9223372036854775807) (hk : -9223372036854775808 ≤ k ∧ k ≤ 9223372036854775807) :
    Calls Try.prog 7 #[.agg #[.int .i64 ay, .int .i64 am, .int .i64 ad], .agg #[.int .i64 bY, .int .i64 bm, .int .i64 bd], .int .i64 n, .int .i64 k] w fun e w' => e = .returned (.bool true) ∧ Below w.heap.size w w' := by
  cases ok1 : Mo.mok ay am ad n
  · exact morder_no ay am ad bY bm bd n k w hn.1 hn.2 hk.1 hk.2 ok1
  · have c1 : n < k → cmpD (Mo.mY ay am n) (Mo.mM ay am n) (Mo.mD ay am ad n) (Mo.mY ay am k) (Mo.mM ay am k) (Mo.mD ay am ad k) = -1 := fun h => Mo.cmp_lt (Mo.lt_months (by unfold Mo.mN; omega) _ _)
    have c2 : n = k → cmpD (Mo.mY ay am n) (Mo.mM ay am n) (Mo.mD ay am ad n) (Mo.mY ay am k) (Mo.mM ay am k) (Mo.mD ay am ad k) = 0 := fun h => by rw [h]; exact Mo.cmp_same _ _ _
    cases ok3 : Mo.mok bY bm bd n
    · cases ok2 : Mo.mok ay am ad k
      · exact morder_no_no ay am ad bY bm bd n k w hn.1 hn.2 hk.1 hk.2 ok1 ok2 ok3
      · rcases Int.lt_trichotomy n k with h | h | h
        · exact morder_lt_no ay am ad bY bm bd n k w hn.1 hn.2 hk.1 hk.2 ok1 h (c1 h) ok2 ok3
        · exact morder_eq_no ay am ad bY bm bd n k w hn.1 hn.2 hk.1 hk.2 ok1 (by omega) (by omega) (c2 h) ok2 ok3
        · exact morder_gt_no ay am ad bY bm bd n k w hn.1 hn.2 hk.1 hk.2 ok1 h ok2 ok3
    · by_cases hd : cmpD ay am ad bY bm bd ≤ 0
      · have hf := Mo.order ok1 ok3 hd
        cases ok2 : Mo.mok ay am ad k
        · exact morder_no_le ay am ad bY bm bd n k w hn.1 hn.2 hk.1 hk.2 ok1 ok2 ok3 hd hf
        · rcases Int.lt_trichotomy n k with h | h | h
          · exact morder_lt_le ay am ad bY bm bd n k w hn.1 hn.2 hk.1 hk.2 ok1 h (c1 h) ok2 ok3 hd hf
          · exact morder_eq_le ay am ad bY bm bd n k w hn.1 hn.2 hk.1 hk.2 ok1 (by omega) (by omega) (c2 h) ok2 ok3 hd hf
          · exact morder_gt_le ay am ad bY bm bd n k w hn.1 hn.2 hk.1 hk.2 ok1 h ok2 ok3 hd hf
      · have hd : 0 < cmpD ay am ad bY bm bd := by omega
        cases ok2 : Mo.mok ay am ad k
        · exact morder_no_gt ay am ad bY bm bd n k w hn.1 hn.2 hk.1 hk.2 ok1 ok2 ok3 hd
        · rcases Int.lt_trichotomy n k with h | h | h
          · exact morder_lt_gt ay am ad bY bm bd n k w hn.1 hn.2 hk.1 hk.2 ok1 h (c1 h) ok2 ok3 hd
          · exact morder_eq_gt ay am ad bY bm bd n k w hn.1 hn.2 hk.1 hk.2 ok1 (by omega) (by omega) (c2 h) ok2 ok3 hd
          · exact morder_gt_gt ay am ad bY bm bd n k w hn.1 hn.2 hk.1 hk.2 ok1 h ok2 ok3 hd
end Go.Proofs.Ytlehbnfocilcmab

