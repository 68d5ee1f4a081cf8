/- The walk of MonthlyBack: whatever is handed in, the law answers true; nothing old turns. -/
import Derived.Test.YtlehbnfocilcmabLiv6
set_option linter.unusedVariables false
set_option linter.unusedSimpArgs false
namespace Go.Proofs.Ytlehbnfocilcmab
open Go.RowKit Go.Sort

namespace Mo
theorem mN_back (y m n : Int) (k : Int) : mN (mY y m n) (mM y m n) k = mN y m (n + k) := by unfold mY mM mN; omega
theorem mYk (y m n k : Int) : mY (mY y m n) (mM y m n) k = mY y m (n + k) := by unfold mY; rw [show mN y m n / 12 = mY y m n from rfl, mN_back]
theorem mMk (y m n k : Int) : mM (mY y m n) (mM y m n) k = mM y m (n + k) := by
  have := mN_back y m n k
  unfold mM at this ⊢; rw [this]
theorem at_0 {y m : Int} (h1 : 1 ≤ m) (h2 : m ≤ 12) : mY y m 0 = y ∧ mM y m 0 = m := by unfold mY mM mN; omega
/-- A day up to 28 is kept. -/
theorem mD_28 {y m d n : Int} (h : d ≤ 28) : mD y m d n = d := by
  obtain ⟨a, b⟩ := mM_bd y m n
  have := (len_pos (y := mY y m n) a b).1
  unfold mD; omega
theorem back {y m d n k : Int} (h : mok y m d n = true) (hd : d ≤ 28) :
    mok (mY y m n) (mM y m n) d k = mok y m d (n + k) ∧ mD (mY y m n) (mM y m n) d k = mD y m d (n + k) := by
  have r := moved_right h
  rw [mD_28 hd] at r
  have h1 := (mok_true.1 h).1
  constructor
  · unfold mok; rw [mYk, r, h1]
  · rw [mD_28 hd, mD_28 hd]
theorem back_0 {y m d : Int} (h : rightB y m d = true) : mok y m d 0 = true ∧ mY y m 0 = y ∧ mM y m 0 = m := by
  have r := right_true.1 h
  obtain ⟨m1, m2⟩ := Cal.month_of r
  obtain ⟨a, b⟩ := at_0 (y := y) m1 m2
  exact ⟨mok_true.2 ⟨h, by rw [a]; exact ⟨r.y0, r.y1⟩⟩, a, b⟩
theorem dback {y m d n : Int} (h : dok y m d n = true) : rightB (Cal.dY (Cal.num y m d + n)) (Cal.dM (Cal.num y m d + n)) (Cal.dD (Cal.num y m d + n)) = true ∧
    Cal.num (Cal.dY (Cal.num y m d + n)) (Cal.dM (Cal.num y m d + n)) (Cal.dD (Cal.num y m d + n)) + -n = Cal.num y m d ∧
    dok (Cal.dY (Cal.num y m d + n)) (Cal.dM (Cal.num y m d + n)) (Cal.dD (Cal.num y m d + n)) (-n) = true ∧ Cal.dY (Cal.num y m d) = y ∧ Cal.dM (Cal.num y m d) = m ∧ Cal.dD (Cal.num y m d) = d := by
  unfold dok at h
  rw [Bool.and_eq_true] at h
  obtain ⟨h1, h2⟩ := h
  have r := Cal.hasD_true.1 h2
  have a := right_true.2 (Cal.date_right _ r.1 r.2)
  have b := Cal.date_num (Cal.num y m d + n)
  have e : Cal.num (Cal.dY (Cal.num y m d + n)) (Cal.dM (Cal.num y m d + n)) (Cal.dD (Cal.num y m d + n)) + -n = Cal.num y m d := by rw [b]; omega
  refine ⟨a, e, ?_, Cal.date_of_num (right_true.1 h1)⟩
  unfold dok
  rw [a, e]
  have := Cal.num_range (right_true.1 h1)
  rw [Cal.hasD_true.2 this]; rfl
end Mo
set_option maxHeartbeats 2000000 in
set_option maxRecDepth 100000 in
theorem mback_out (y m d n k : Int) (w : World) (h : 1099511627776 < n ∨ n < -1099511627776 ∨ 1099511627776 < k ∨ k < -1099511627776) :
    Calls Try.prog 8 #[.agg #[.int .i64 y, .int .i64 m, .int .i64 d], .int .i64 n, .int .i64 k] w fun e w' => e = .returned (.bool true) ∧ Below w.heap.size w w' := by
  have h' : 1099511627776 < n ∨ (¬ 1099511627776 < n ∧ n < -1099511627776) ∨ (¬ 1099511627776 < n ∧ ¬ n < -1099511627776 ∧ 1099511627776 < k) ∨ (¬ 1099511627776 < n ∧ ¬ n < -1099511627776 ∧ ¬ 1099511627776 < k ∧ k < -1099511627776) := by omega
  clear h
  rcases h' with h1 | ⟨h1, h2⟩ | ⟨h1, h2, h3⟩ | ⟨h1, h2, h3, h4⟩
  all_goals
    go_enter Try.func8, Try.ntmps8
    go_wp2_with fail
    refine (lives6 _).mono ?_; rintro e w1 ⟨rfl, b1⟩
    have d1 : Below w.heap.size w w1 := below_step (by repeat (first | exact Below.refl _ _ | refine below_drewN ?_ _ | refine Below.drew ?_ | refine Below.setCell ?_ (by simp) _ | refine Below.alloc ?_ (by simp) _)) b1
    have B1 := Lib.hid d1
    have A1 : Bk3 w1 (w.heap.size) (.int .i64 y) (.int .i64 m) (.int .i64 d) := Bk3.of b1 (by simp <;> omega) (by intro j; simp [go_sem]) (by simp [go_sem]) (by simp [go_sem]) (by simp [go_sem])
    clear b1 d1
    have cA_b := A1.hb
    have cA_f := A1.fz
    have cA_0 := A1.k0
    have cA_1 := A1.k1
    have cA_2 := A1.k2
    go_wp2_with fail
    clear cA_b cA_f cA_0 cA_1 cA_2
    go_ret
    exact ⟨rfl, (by have hz := B1.out.size; repeat (first | exact B1.out | refine below_drewN ?_ _ | refine Below.drew ?_ | refine Below.setCell ?_ (by first | omega | (simp; done) | (simp; omega)) _ | refine Below.alloc ?_ (by first | omega | (simp; done) | (simp; omega)) _))⟩
set_option maxHeartbeats 4000000 in
set_option maxRecDepth 100000 in
theorem mback_no_no (y m d n k : Int) (w : World) (n0 : -1099511627776 ≤ n) (n1 : n ≤ 1099511627776) (k0 : -1099511627776 ≤ k) (k1 : k ≤ 1099511627776) (hq : Mo.mok y m d n = false) (ho : Mo.dok y m d n = false) :
    Calls Try.prog 8 #[.agg #[.int .i64 y, .int .i64 m, .int .i64 d], .int .i64 n, .int .i64 k] w fun e w' => e = .returned (.bool true) ∧ Below w.heap.size w w' := by
  skip
  skip
  have HQ := Lib.hid hq; have HO := Lib.hid ho
  clear hq ho
  go_enter Try.func8, Try.ntmps8
  go_wp2_with fail
  refine (lives6 _).mono ?_; rintro e w1 ⟨rfl, b1⟩
  have d1 : Below w.heap.size w w1 := below_step (by repeat (first | exact Below.refl _ _ | refine below_drewN ?_ _ | refine Below.drew ?_ | refine Below.setCell ?_ (by simp) _ | refine Below.alloc ?_ (by simp) _)) b1
  have B1 := Lib.hid d1
  have A1 : Bk3 w1 (w.heap.size) (.int .i64 y) (.int .i64 m) (.int .i64 d) := Bk3.of b1 (by simp <;> omega) (by intro j; simp [go_sem]) (by simp [go_sem]) (by simp [go_sem]) (by simp [go_sem])
  clear b1 d1
  have cA_b := A1.hb
  have cA_f := A1.fz
  have cA_0 := A1.k0
  have cA_1 := A1.k1
  have cA_2 := A1.k2
  go_wp2_with fail
  clear cA_b cA_f cA_0 cA_1 cA_2
  refine (madd_any y m d n _ (by omega) (by omega)).mono ?_; rintro e w2 ⟨rfl, b2⟩
  have d2 : Below w1.heap.size w1 w2 := below_step (by repeat (first | exact Below.refl _ _ | refine below_drewN ?_ _ | refine Below.drew ?_ | refine Below.setCell ?_ (by simp) _ | refine Below.alloc ?_ (by simp) _)) b2
  have B2 := Lib.hid (below_step B1.out d2)
  have A2 := A1.keep d2
  clear A1 b2 d2 B1
  rw [HQ.out]
  simp only [Cal.orz, Cal.why, Bool.false_eq_true, if_false, if_true]
  skip
  
  
  skip
  
  
  skip
  
  
  skip
  have cA_b := A2.hb
  have cA_f := A2.fz
  have cA_0 := A2.k0
  have cA_1 := A2.k1
  have cA_2 := A2.k2
  go_wp2_with fail
  clear cA_b cA_f cA_0 cA_1 cA_2
  refine (mdays_any y m d n _ (by omega) (by omega)).mono ?_; rintro e w3 ⟨rfl, b3⟩
  have d3 : Below w2.heap.size w2 w3 := below_step (by repeat (first | exact Below.refl _ _ | refine below_drewN ?_ _ | refine Below.drew ?_ | refine Below.setCell ?_ (by simp) _ | refine Below.alloc ?_ (by simp) _)) b3
  have B3 := Lib.hid (below_step B2.out d3)
  have A3 := A2.keep d3
  clear A2 b3 d3 B2
  rw [HO.out]
  simp only [Cal.orz, Cal.why, Bool.false_eq_true, if_false, if_true]
  skip
  
  
  skip
  have cA_b := A3.hb
  have cA_f := A3.fz
  have cA_0 := A3.k0
  have cA_1 := A3.k1
  have cA_2 := A3.k2
  go_wp2_with fail
  clear cA_b cA_f cA_0 cA_1 cA_2
  go_ret
  exact ⟨rfl, (by have hz := B3.out.size; repeat (first | exact B3.out | refine below_drewN ?_ _ | refine Below.drew ?_ | refine Below.setCell ?_ (by first | omega | (simp; done) | (simp; omega)) _ | refine Below.alloc ?_ (by first | omega | (simp; done) | (simp; omega)) _))⟩
set_option maxHeartbeats 4000000 in
set_option maxRecDepth 100000 in
theorem mback_no_yes (y m d n k : Int) (w : World) (n0 : -1099511627776 ≤ n) (n1 : n ≤ 1099511627776) (k0 : -1099511627776 ≤ k) (k1 : k ≤ 1099511627776) (hq : Mo.mok y m d n = false) (ho : Mo.dok y m d n = true) :
    Calls Try.prog 8 #[.agg #[.int .i64 y, .int .i64 m, .int .i64 d], .int .i64 n, .int .i64 k] w fun e w' => e = .returned (.bool true) ∧ Below w.heap.size w w' := by
  have DB := Lib.hid (Mo.dback ho)
  skip
  have HQ := Lib.hid hq; have HO := Lib.hid ho
  clear hq ho
  go_enter Try.func8, Try.ntmps8
  go_wp2_with fail
  refine (lives6 _).mono ?_; rintro e w1 ⟨rfl, b1⟩
  have d1 : Below w.heap.size w w1 := below_step (by repeat (first | exact Below.refl _ _ | refine below_drewN ?_ _ | refine Below.drew ?_ | refine Below.setCell ?_ (by simp) _ | refine Below.alloc ?_ (by simp) _)) b1
  have B1 := Lib.hid d1
  have A1 : Bk3 w1 (w.heap.size) (.int .i64 y) (.int .i64 m) (.int .i64 d) := Bk3.of b1 (by simp <;> omega) (by intro j; simp [go_sem]) (by simp [go_sem]) (by simp [go_sem]) (by simp [go_sem])
  clear b1 d1
  have cA_b := A1.hb
  have cA_f := A1.fz
  have cA_0 := A1.k0
  have cA_1 := A1.k1
  have cA_2 := A1.k2
  go_wp2_with fail
  clear cA_b cA_f cA_0 cA_1 cA_2
  refine (madd_any y m d n _ (by omega) (by omega)).mono ?_; rintro e w2 ⟨rfl, b2⟩
  have d2 : Below w1.heap.size w1 w2 := below_step (by repeat (first | exact Below.refl _ _ | refine below_drewN ?_ _ | refine Below.drew ?_ | refine Below.setCell ?_ (by simp) _ | refine Below.alloc ?_ (by simp) _)) b2
  have B2 := Lib.hid (below_step B1.out d2)
  have A2 := A1.keep d2
  clear A1 b2 d2 B1
  rw [HQ.out]
  simp only [Cal.orz, Cal.why, Bool.false_eq_true, if_false, if_true]
  skip
  
  
  skip
  
  
  skip
  
  
  skip
  have cA_b := A2.hb
  have cA_f := A2.fz
  have cA_0 := A2.k0
  have cA_1 := A2.k1
  have cA_2 := A2.k2
  go_wp2_with fail
  clear cA_b cA_f cA_0 cA_1 cA_2
  refine (mdays_any y m d n _ (by omega) (by omega)).mono ?_; rintro e w3 ⟨rfl, b3⟩
  have d3 : Below w2.heap.size w2 w3 := below_step (by repeat (first | exact Below.refl _ _ | refine below_drewN ?_ _ | refine Below.drew ?_ | refine Below.setCell ?_ (by simp) _ | refine Below.alloc ?_ (by simp) _)) b3
  have B3 := Lib.hid (below_step B2.out d3)
  have A3 := A2.keep d3
  clear A2 b3 d3 B2
  rw [HO.out]
  simp only [Cal.orz, Cal.why, Bool.false_eq_true, if_false, if_true]
  skip
  have cA_b := A3.hb
  have cA_f := A3.fz
  have cA_0 := A3.k0
  have cA_1 := A3.k1
  have cA_2 := A3.k2
  go_wp2_with fail
  clear cA_b cA_f cA_0 cA_1 cA_2
  refine (mdays_any (Cal.dY (Cal.num y m d + n)) (Cal.dM (Cal.num y m d + n)) (Cal.dD (Cal.num y m d + n)) (-n) _ (by omega) (by omega)).mono ?_; rintro e w4 ⟨rfl, b4⟩
  have d4 : Below w3.heap.size w3 w4 := below_step (by repeat (first | exact Below.refl _ _ | refine below_drewN ?_ _ | refine Below.drew ?_ | refine Below.setCell ?_ (by simp) _ | refine Below.alloc ?_ (by simp) _)) b4
  have B4 := Lib.hid (below_step B3.out d4)
  have A4 := A3.keep d4
  have aP := B3.out.size
  have nPA := Nat.ne_of_lt A3.hb
  have oPA := Nat.ne_of_gt A3.hb
  have P4 : Bk3 w4 (w3.heap.size) (.int .i64 (Cal.dY (Cal.num y m d + n))) (.int .i64 (Cal.dM (Cal.num y m d + n))) (.int .i64 (Cal.dD (Cal.num y m d + n))) := Bk3.of b4 (by simp <;> omega) (by intro j; simp [go_sem]) (by simp [go_sem]) (by simp [go_sem]) (by simp [go_sem])
  clear A3 b4 d4 B3
  rw [DB.out.2.2.1, DB.out.2.1, DB.out.2.2.2.1, DB.out.2.2.2.2.1, DB.out.2.2.2.2.2]; simp only [Cal.orz, Cal.why, if_true]
  have cA_b := A4.hb
  have cA_f := A4.fz
  have cA_0 := A4.k0
  have cA_1 := A4.k1
  have cA_2 := A4.k2
  have cP_b := P4.hb
  have cP_f := P4.fz
  have cP_0 := P4.k0
  have cP_1 := P4.k1
  have cP_2 := P4.k2
  go_wp2_with fail
  clear cA_b cA_f cA_0 cA_1 cA_2 cP_b cP_f cP_0 cP_1 cP_2
  go_ret
  exact ⟨rfl, (by have hz := B4.out.size; repeat (first | exact B4.out | refine below_drewN ?_ _ | refine Below.drew ?_ | refine Below.setCell ?_ (by first | omega | (simp; done) | (simp; omega)) _ | refine Below.alloc ?_ (by first | omega | (simp; done) | (simp; omega)) _))⟩
set_option maxHeartbeats 4000000 in
set_option maxRecDepth 100000 in
theorem mback_big_no (y m d n k : Int) (w : World) (n0 : -1099511627776 ≤ n) (n1 : n ≤ 1099511627776) (k0 : -1099511627776 ≤ k) (k1 : k ≤ 1099511627776) (hq : Mo.mok y m d n = true) (hq2 : 28 < d) (ho : Mo.dok y m d n = false) :
    Calls Try.prog 8 #[.agg #[.int .i64 y, .int .i64 m, .int .i64 d], .int .i64 n, .int .i64 k] w fun e w' => e = .returned (.bool true) ∧ Below w.heap.size w w' := by
  skip
  skip
  have HQ := Lib.hid hq; have HO := Lib.hid ho
  clear hq ho
  go_enter Try.func8, Try.ntmps8
  go_wp2_with fail
  refine (lives6 _).mono ?_; rintro e w1 ⟨rfl, b1⟩
  have d1 : Below w.heap.size w w1 := below_step (by repeat (first | exact Below.refl _ _ | refine below_drewN ?_ _ | refine Below.drew ?_ | refine Below.setCell ?_ (by simp) _ | refine Below.alloc ?_ (by simp) _)) b1
  have B1 := Lib.hid d1
  have A1 : Bk3 w1 (w.heap.size) (.int .i64 y) (.int .i64 m) (.int .i64 d) := Bk3.of b1 (by simp <;> omega) (by intro j; simp [go_sem]) (by simp [go_sem]) (by simp [go_sem]) (by simp [go_sem])
  clear b1 d1
  have cA_b := A1.hb
  have cA_f := A1.fz
  have cA_0 := A1.k0
  have cA_1 := A1.k1
  have cA_2 := A1.k2
  go_wp2_with fail
  clear cA_b cA_f cA_0 cA_1 cA_2
  refine (madd_any y m d n _ (by omega) (by omega)).mono ?_; rintro e w2 ⟨rfl, b2⟩
  have d2 : Below w1.heap.size w1 w2 := below_step (by repeat (first | exact Below.refl _ _ | refine below_drewN ?_ _ | refine Below.drew ?_ | refine Below.setCell ?_ (by simp) _ | refine Below.alloc ?_ (by simp) _)) b2
  have B2 := Lib.hid (below_step B1.out d2)
  have A2 := A1.keep d2
  clear A1 b2 d2 B1
  rw [HQ.out]
  simp only [Cal.orz, Cal.why, Bool.false_eq_true, if_false, if_true]
  skip
  
  
  skip
  
  
  skip
  
  
  skip
  have cA_b := A2.hb
  have cA_f := A2.fz
  have cA_0 := A2.k0
  have cA_1 := A2.k1
  have cA_2 := A2.k2
  go_wp2_with fail
  clear cA_b cA_f cA_0 cA_1 cA_2
  refine (mdays_any y m d n _ (by omega) (by omega)).mono ?_; rintro e w3 ⟨rfl, b3⟩
  have d3 : Below w2.heap.size w2 w3 := below_step (by repeat (first | exact Below.refl _ _ | refine below_drewN ?_ _ | refine Below.drew ?_ | refine Below.setCell ?_ (by simp) _ | refine Below.alloc ?_ (by simp) _)) b3
  have B3 := Lib.hid (below_step B2.out d3)
  have A3 := A2.keep d3
  clear A2 b3 d3 B2
  rw [HO.out]
  simp only [Cal.orz, Cal.why, Bool.false_eq_true, if_false, if_true]
  skip
  
  
  skip
  have cA_b := A3.hb
  have cA_f := A3.fz
  have cA_0 := A3.k0
  have cA_1 := A3.k1
  have cA_2 := A3.k2
  go_wp2_with fail
  clear cA_b cA_f cA_0 cA_1 cA_2
  go_ret
  exact ⟨rfl, (by have hz := B3.out.size; repeat (first | exact B3.out | refine below_drewN ?_ _ | refine Below.drew ?_ | refine Below.setCell ?_ (by first | omega | (simp; done) | (simp; omega)) _ | refine Below.alloc ?_ (by first | omega | (simp; done) | (simp; omega)) _))⟩
set_option maxHeartbeats 4000000 in
set_option maxRecDepth 100000 in
theorem mback_big_yes (y m d n k : Int) (w : World) (n0 : -1099511627776 ≤ n) (n1 : n ≤ 1099511627776) (k0 : -1099511627776 ≤ k) (k1 : k ≤ 1099511627776) (hq : Mo.mok y m d n = true) (hq2 : 28 < d) (ho : Mo.dok y m d n = true) :
    Calls Try.prog 8 #[.agg #[.int .i64 y, .int .i64 m, .int .i64 d], .int .i64 n, .int .i64 k] w fun e w' => e = .returned (.bool true) ∧ Below w.heap.size w w' := by
  have DB := Lib.hid (Mo.dback ho)
  skip
  have HQ := Lib.hid hq; have HO := Lib.hid ho
  clear hq ho
  go_enter Try.func8, Try.ntmps8
  go_wp2_with fail
  refine (lives6 _).mono ?_; rintro e w1 ⟨rfl, b1⟩
  have d1 : Below w.heap.size w w1 := below_step (by repeat (first | exact Below.refl _ _ | refine below_drewN ?_ _ | refine Below.drew ?_ | refine Below.setCell ?_ (by simp) _ | refine Below.alloc ?_ (by simp) _)) b1
  have B1 := Lib.hid d1
  have A1 : Bk3 w1 (w.heap.size) (.int .i64 y) (.int .i64 m) (.int .i64 d) := Bk3.of b1 (by simp <;> omega) (by intro j; simp [go_sem]) (by simp [go_sem]) (by simp [go_sem]) (by simp [go_sem])
  clear b1 d1
  have cA_b := A1.hb
  have cA_f := A1.fz
  have cA_0 := A1.k0
  have cA_1 := A1.k1
  have cA_2 := A1.k2
  go_wp2_with fail
  clear cA_b cA_f cA_0 cA_1 cA_2
  refine (madd_any y m d n _ (by omega) (by omega)).mono ?_; rintro e w2 ⟨rfl, b2⟩
  have d2 : Below w1.heap.size w1 w2 := below_step (by repeat (first | exact Below.refl _ _ | refine below_drewN ?_ _ | refine Below.drew ?_ | refine Below.setCell ?_ (by simp) _ | refine Below.alloc ?_ (by simp) _)) b2
  have B2 := Lib.hid (below_step B1.out d2)
  have A2 := A1.keep d2
  clear A1 b2 d2 B1
  rw [HQ.out]
  simp only [Cal.orz, Cal.why, Bool.false_eq_true, if_false, if_true]
  skip
  
  
  skip
  
  
  skip
  
  
  skip
  have cA_b := A2.hb
  have cA_f := A2.fz
  have cA_0 := A2.k0
  have cA_1 := A2.k1
  have cA_2 := A2.k2
  go_wp2_with fail
  clear cA_b cA_f cA_0 cA_1 cA_2
  refine (mdays_any y m d n _ (by omega) (by omega)).mono ?_; rintro e w3 ⟨rfl, b3⟩
  have d3 : Below w2.heap.size w2 w3 := below_step (by repeat (first | exact Below.refl _ _ | refine below_drewN ?_ _ | refine Below.drew ?_ | refine Below.setCell ?_ (by simp) _ | refine Below.alloc ?_ (by simp) _)) b3
  have B3 := Lib.hid (below_step B2.out d3)
  have A3 := A2.keep d3
  clear A2 b3 d3 B2
  rw [HO.out]
  simp only [Cal.orz, Cal.why, Bool.false_eq_true, if_false, if_true]
  skip
  have cA_b := A3.hb
  have cA_f := A3.fz
  have cA_0 := A3.k0
  have cA_1 := A3.k1
  have cA_2 := A3.k2
  go_wp2_with fail
  clear cA_b cA_f cA_0 cA_1 cA_2
  refine (mdays_any (Cal.dY (Cal.num y m d + n)) (Cal.dM (Cal.num y m d + n)) (Cal.dD (Cal.num y m d + n)) (-n) _ (by omega) (by omega)).mono ?_; rintro e w4 ⟨rfl, b4⟩
  have d4 : Below w3.heap.size w3 w4 := below_step (by repeat (first | exact Below.refl _ _ | refine below_drewN ?_ _ | refine Below.drew ?_ | refine Below.setCell ?_ (by simp) _ | refine Below.alloc ?_ (by simp) _)) b4
  have B4 := Lib.hid (below_step B3.out d4)
  have A4 := A3.keep d4
  have aP := B3.out.size
  have nPA := Nat.ne_of_lt A3.hb
  have oPA := Nat.ne_of_gt A3.hb
  have P4 : Bk3 w4 (w3.heap.size) (.int .i64 (Cal.dY (Cal.num y m d + n))) (.int .i64 (Cal.dM (Cal.num y m d + n))) (.int .i64 (Cal.dD (Cal.num y m d + n))) := Bk3.of b4 (by simp <;> omega) (by intro j; simp [go_sem]) (by simp [go_sem]) (by simp [go_sem]) (by simp [go_sem])
  clear A3 b4 d4 B3
  rw [DB.out.2.2.1, DB.out.2.1, DB.out.2.2.2.1, DB.out.2.2.2.2.1, DB.out.2.2.2.2.2]; simp only [Cal.orz, Cal.why, if_true]
  have cA_b := A4.hb
  have cA_f := A4.fz
  have cA_0 := A4.k0
  have cA_1 := A4.k1
  have cA_2 := A4.k2
  have cP_b := P4.hb
  have cP_f := P4.fz
  have cP_0 := P4.k0
  have cP_1 := P4.k1
  have cP_2 := P4.k2
  go_wp2_with fail
  clear cA_b cA_f cA_0 cA_1 cA_2 cP_b cP_f cP_0 cP_1 cP_2
  go_ret
  exact ⟨rfl, (by have hz := B4.out.size; repeat (first | exact B4.out | refine below_drewN ?_ _ | refine Below.drew ?_ | refine Below.setCell ?_ (by first | omega | (simp; done) | (simp; omega)) _ | refine Below.alloc ?_ (by first | omega | (simp; done) | (simp; omega)) _))⟩
set_option maxHeartbeats 4000000 in
set_option maxRecDepth 100000 in
theorem mback_smt_no (y m d n k : Int) (w : World) (n0 : -1099511627776 ≤ n) (n1 : n ≤ 1099511627776) (k0 : -1099511627776 ≤ k) (k1 : k ≤ 1099511627776) (hq : Mo.mok y m d n = true) (hq2 : d ≤ 28) (hk : Mo.mok y m d (n + k) = true) (ho : Mo.dok y m d n = false) :
    Calls Try.prog 8 #[.agg #[.int .i64 y, .int .i64 m, .int .i64 d], .int .i64 n, .int .i64 k] w fun e w' => e = .returned (.bool true) ∧ Below w.heap.size w w' := by
  skip
  have hr := (Mo.mok_true.1 hq).1; have Z := Lib.hid (Mo.back_0 hr); have K1 := Lib.hid (Mo.back (k := -n) hq hq2); have K2 := Lib.hid (Mo.back (k := k) hq hq2); have D28 := Lib.hid hq2; clear hr; have HK := Lib.hid hk; clear hk
  have HQ := Lib.hid hq; have HO := Lib.hid ho
  clear hq ho
  go_enter Try.func8, Try.ntmps8
  go_wp2_with fail
  refine (lives6 _).mono ?_; rintro e w1 ⟨rfl, b1⟩
  have d1 : Below w.heap.size w w1 := below_step (by repeat (first | exact Below.refl _ _ | refine below_drewN ?_ _ | refine Below.drew ?_ | refine Below.setCell ?_ (by simp) _ | refine Below.alloc ?_ (by simp) _)) b1
  have B1 := Lib.hid d1
  have A1 : Bk3 w1 (w.heap.size) (.int .i64 y) (.int .i64 m) (.int .i64 d) := Bk3.of b1 (by simp <;> omega) (by intro j; simp [go_sem]) (by simp [go_sem]) (by simp [go_sem]) (by simp [go_sem])
  clear b1 d1
  have cA_b := A1.hb
  have cA_f := A1.fz
  have cA_0 := A1.k0
  have cA_1 := A1.k1
  have cA_2 := A1.k2
  go_wp2_with fail
  clear cA_b cA_f cA_0 cA_1 cA_2
  refine (madd_any y m d n _ (by omega) (by omega)).mono ?_; rintro e w2 ⟨rfl, b2⟩
  have d2 : Below w1.heap.size w1 w2 := below_step (by repeat (first | exact Below.refl _ _ | refine below_drewN ?_ _ | refine Below.drew ?_ | refine Below.setCell ?_ (by simp) _ | refine Below.alloc ?_ (by simp) _)) b2
  have B2 := Lib.hid (below_step B1.out d2)
  have A2 := A1.keep d2
  clear A1 b2 d2 B1
  rw [HQ.out]
  simp only [Cal.orz, Cal.why, Bool.false_eq_true, if_false, if_true]
  rw [Mo.mD_28 D28.out]
  have cA_b := A2.hb
  have cA_f := A2.fz
  have cA_0 := A2.k0
  have cA_1 := A2.k1
  have cA_2 := A2.k2
  go_wp2_with fail
  clear cA_b cA_f cA_0 cA_1 cA_2
  refine (madd_any (Mo.mY y m n) (Mo.mM y m n) d (-n) _ (by omega) (by omega)).mono ?_; rintro e w3 ⟨rfl, b3⟩
  have d3 : Below w2.heap.size w2 w3 := below_step (by repeat (first | exact Below.refl _ _ | refine below_drewN ?_ _ | refine Below.drew ?_ | refine Below.setCell ?_ (by simp) _ | refine Below.alloc ?_ (by simp) _)) b3
  have B3 := Lib.hid (below_step B2.out d3)
  have A3 := A2.keep d3
  have aX := B2.out.size
  have nXA := Nat.ne_of_lt A2.hb
  have oXA := Nat.ne_of_gt A2.hb
  have X3 : Bk3 w3 (w2.heap.size) (.int .i64 (Mo.mY y m n)) (.int .i64 (Mo.mM y m n)) (.int .i64 d) := Bk3.of b3 (by simp <;> omega) (by intro j; simp [go_sem]) (by simp [go_sem]) (by simp [go_sem]) (by simp [go_sem])
  clear A2 b3 d3 B2
  rw [K1.out.1, show n + -n = 0 by omega, Z.out.1, Mo.mYk, Mo.mMk, K1.out.2, show n + -n = 0 by omega, Z.out.2.1, Z.out.2.2, Mo.mD_28 D28.out]; simp only [Cal.orz, Cal.why, if_true]
  have cA_b := A3.hb
  have cA_f := A3.fz
  have cA_0 := A3.k0
  have cA_1 := A3.k1
  have cA_2 := A3.k2
  have cX_b := X3.hb
  have cX_f := X3.fz
  have cX_0 := X3.k0
  have cX_1 := X3.k1
  have cX_2 := X3.k2
  go_wp2_with fail
  clear cA_b cA_f cA_0 cA_1 cA_2 cX_b cX_f cX_0 cX_1 cX_2
  refine (madd_any (Mo.mY y m n) (Mo.mM y m n) d k _ (by omega) (by omega)).mono ?_; rintro e w4 ⟨rfl, b4⟩
  have d4 : Below w3.heap.size w3 w4 := below_step (by repeat (first | exact Below.refl _ _ | refine below_drewN ?_ _ | refine Below.drew ?_ | refine Below.setCell ?_ (by simp) _ | refine Below.alloc ?_ (by simp) _)) b4
  have B4 := Lib.hid (below_step B3.out d4)
  have A4 := A3.keep d4
  have X4 := X3.keep d4
  have aY := B3.out.size
  have nYA := Nat.ne_of_lt A3.hb
  have oYA := Nat.ne_of_gt A3.hb
  have nYX := Nat.ne_of_lt X3.hb
  have oYX := Nat.ne_of_gt X3.hb
  have Y4 : Bk3 w4 (w3.heap.size) (.int .i64 y) (.int .i64 m) (.int .i64 d) := Bk3.of b4 (by simp <;> omega) (by intro j; simp [go_sem]) (by simp [go_sem]) (by simp [go_sem]) (by simp [go_sem])
  clear A3 X3 b4 d4 B3
  rw [K2.out.1, Mo.mYk, Mo.mMk, K2.out.2, HK.out]; simp only [Cal.orz, Cal.why, Bool.false_eq_true, if_false, if_true]
  have cA_b := A4.hb
  have cA_f := A4.fz
  have cA_0 := A4.k0
  have cA_1 := A4.k1
  have cA_2 := A4.k2
  have cX_b := X4.hb
  have cX_f := X4.fz
  have cX_0 := X4.k0
  have cX_1 := X4.k1
  have cX_2 := X4.k2
  have cY_b := Y4.hb
  have cY_f := Y4.fz
  have cY_0 := Y4.k0
  have cY_1 := Y4.k1
  have cY_2 := Y4.k2
  go_wp2_with fail
  clear cA_b cA_f cA_0 cA_1 cA_2 cX_b cX_f cX_0 cX_1 cX_2 cY_b cY_f cY_0 cY_1 cY_2
  refine (madd_any y m d (n + k) _ (by omega) (by omega)).mono ?_; rintro e w5 ⟨rfl, b5⟩
  have d5 : Below w4.heap.size w4 w5 := below_step (by repeat (first | exact Below.refl _ _ | refine below_drewN ?_ _ | refine Below.drew ?_ | refine Below.setCell ?_ (by simp) _ | refine Below.alloc ?_ (by simp) _)) b5
  have B5 := Lib.hid (below_step B4.out d5)
  have A5 := A4.keep d5
  have X5 := X4.keep d5
  have Y5 := Y4.keep d5
  have aZ := B4.out.size
  have nZA := Nat.ne_of_lt A4.hb
  have oZA := Nat.ne_of_gt A4.hb
  have nZX := Nat.ne_of_lt X4.hb
  have oZX := Nat.ne_of_gt X4.hb
  have nZY := Nat.ne_of_lt Y4.hb
  have oZY := Nat.ne_of_gt Y4.hb
  have Z5 : Bk3 w5 (w4.heap.size) (.int .i64 (Mo.mY y m (n + k))) (.int .i64 (Mo.mM y m (n + k))) (.int .i64 (Mo.mD y m d (n + k))) := Bk3.of b5 (by simp <;> omega) (by intro j; simp [go_sem]) (by simp [go_sem]) (by simp [go_sem]) (by simp [go_sem])
  clear A4 X4 Y4 b5 d5 B4
  rw [HK.out]; simp only [Cal.orz, Cal.why, Bool.false_eq_true, if_false, if_true]
  have cA_b := A5.hb
  have cA_f := A5.fz
  have cA_0 := A5.k0
  have cA_1 := A5.k1
  have cA_2 := A5.k2
  have cX_b := X5.hb
  have cX_f := X5.fz
  have cX_0 := X5.k0
  have cX_1 := X5.k1
  have cX_2 := X5.k2
  have cY_b := Y5.hb
  have cY_f := Y5.fz
  have cY_0 := Y5.k0
  have cY_1 := Y5.k1
  have cY_2 := Y5.k2
  have cZ_b := Z5.hb
  have cZ_f := Z5.fz
  have cZ_0 := Z5.k0
  have cZ_1 := Z5.k1
  have cZ_2 := Z5.k2
  go_wp2_with fail
  clear cA_b cA_f cA_0 cA_1 cA_2 cX_b cX_f cX_0 cX_1 cX_2 cY_b cY_f cY_0 cY_1 cY_2 cZ_b cZ_f cZ_0 cZ_1 cZ_2
  refine (mdays_any y m d n _ (by omega) (by omega)).mono ?_; rintro e w6 ⟨rfl, b6⟩
  have d6 : Below w5.heap.size w5 w6 := below_step (by repeat (first | exact Below.refl _ _ | refine below_drewN ?_ _ | refine Below.drew ?_ | refine Below.setCell ?_ (by simp) _ | refine Below.alloc ?_ (by simp) _)) b6
  have B6 := Lib.hid (below_step B5.out d6)
  have A6 := A5.keep d6
  have X6 := X5.keep d6
  have Y6 := Y5.keep d6
  have Z6 := Z5.keep d6
  clear A5 X5 Y5 Z5 b6 d6 B5
  rw [HO.out]
  simp only [Cal.orz, Cal.why, Bool.false_eq_true, if_false, if_true]
  skip
  
  
  skip
  have cA_b := A6.hb
  have cA_f := A6.fz
  have cA_0 := A6.k0
  have cA_1 := A6.k1
  have cA_2 := A6.k2
  have cX_b := X6.hb
  have cX_f := X6.fz
  have cX_0 := X6.k0
  have cX_1 := X6.k1
  have cX_2 := X6.k2
  have cY_b := Y6.hb
  have cY_f := Y6.fz
  have cY_0 := Y6.k0
  have cY_1 := Y6.k1
  have cY_2 := Y6.k2
  have cZ_b := Z6.hb
  have cZ_f := Z6.fz
  have cZ_0 := Z6.k0
  have cZ_1 := Z6.k1
  have cZ_2 := Z6.k2
  go_wp2_with fail
  clear cA_b cA_f cA_0 cA_1 cA_2 cX_b cX_f cX_0 cX_1 cX_2 cY_b cY_f cY_0 cY_1 cY_2 cZ_b cZ_f cZ_0 cZ_1 cZ_2
  go_ret
  exact ⟨rfl, (by have hz := B6.out.size; repeat (first | exact B6.out | refine below_drewN ?_ _ | refine Below.drew ?_ | refine Below.setCell ?_ (by first | omega | (simp; done) | (simp; omega)) _ | refine Below.alloc ?_ (by first | omega | (simp; done) | (simp; omega)) _))⟩
set_option maxHeartbeats 4000000 in
set_option maxRecDepth 100000 in
theorem mback_smt_yes (y m d n k : Int) (w : World) (n0 : -1099511627776 ≤ n) (n1 : n ≤ 1099511627776) (k0 : -1099511627776 ≤ k) (k1 : k ≤ 1099511627776) (hq : Mo.mok y m d n = true) (hq2 : d ≤ 28) (hk : Mo.mok y m d (n + k) = true) (ho : Mo.dok y m d n = true) :
    Calls Try.prog 8 #[.agg #[.int .i64 y, .int .i64 m, .int .i64 d], .int .i64 n, .int .i64 k] w fun e w' => e = .returned (.bool true) ∧ Below w.heap.size w w' := by
  have DB := Lib.hid (Mo.dback ho)
  have hr := (Mo.mok_true.1 hq).1; have Z := Lib.hid (Mo.back_0 hr); have K1 := Lib.hid (Mo.back (k := -n) hq hq2); have K2 := Lib.hid (Mo.back (k := k) hq hq2); have D28 := Lib.hid hq2; clear hr; have HK := Lib.hid hk; clear hk
  have HQ := Lib.hid hq; have HO := Lib.hid ho
  clear hq ho
  go_enter Try.func8, Try.ntmps8
  go_wp2_with fail
  refine (lives6 _).mono ?_; rintro e w1 ⟨rfl, b1⟩
  have d1 : Below w.heap.size w w1 := below_step (by repeat (first | exact Below.refl _ _ | refine below_drewN ?_ _ | refine Below.drew ?_ | refine Below.setCell ?_ (by simp) _ | refine Below.alloc ?_ (by simp) _)) b1
  have B1 := Lib.hid d1
  have A1 : Bk3 w1 (w.heap.size) (.int .i64 y) (.int .i64 m) (.int .i64 d) := Bk3.of b1 (by simp <;> omega) (by intro j; simp [go_sem]) (by simp [go_sem]) (by simp [go_sem]) (by simp [go_sem])
  clear b1 d1
  have cA_b := A1.hb
  have cA_f := A1.fz
  have cA_0 := A1.k0
  have cA_1 := A1.k1
  have cA_2 := A1.k2
  go_wp2_with fail
  clear cA_b cA_f cA_0 cA_1 cA_2
  refine (madd_any y m d n _ (by omega) (by omega)).mono ?_; rintro e w2 ⟨rfl, b2⟩
  have d2 : Below w1.heap.size w1 w2 := below_step (by repeat (first | exact Below.refl _ _ | refine below_drewN ?_ _ | refine Below.drew ?_ | refine Below.setCell ?_ (by simp) _ | refine Below.alloc ?_ (by simp) _)) b2
  have B2 := Lib.hid (below_step B1.out d2)
  have A2 := A1.keep d2
  clear A1 b2 d2 B1
  rw [HQ.out]
  simp only [Cal.orz, Cal.why, Bool.false_eq_true, if_false, if_true]
  rw [Mo.mD_28 D28.out]
  have cA_b := A2.hb
  have cA_f := A2.fz
  have cA_0 := A2.k0
  have cA_1 := A2.k1
  have cA_2 := A2.k2
  go_wp2_with fail
  clear cA_b cA_f cA_0 cA_1 cA_2
  refine (madd_any (Mo.mY y m n) (Mo.mM y m n) d (-n) _ (by omega) (by omega)).mono ?_; rintro e w3 ⟨rfl, b3⟩
  have d3 : Below w2.heap.size w2 w3 := below_step (by repeat (first | exact Below.refl _ _ | refine below_drewN ?_ _ | refine Below.drew ?_ | refine Below.setCell ?_ (by simp) _ | refine Below.alloc ?_ (by simp) _)) b3
  have B3 := Lib.hid (below_step B2.out d3)
  have A3 := A2.keep d3
  have aX := B2.out.size
  have nXA := Nat.ne_of_lt A2.hb
  have oXA := Nat.ne_of_gt A2.hb
  have X3 : Bk3 w3 (w2.heap.size) (.int .i64 (Mo.mY y m n)) (.int .i64 (Mo.mM y m n)) (.int .i64 d) := Bk3.of b3 (by simp <;> omega) (by intro j; simp [go_sem]) (by simp [go_sem]) (by simp [go_sem]) (by simp [go_sem])
  clear A2 b3 d3 B2
  rw [K1.out.1, show n + -n = 0 by omega, Z.out.1, Mo.mYk, Mo.mMk, K1.out.2, show n + -n = 0 by omega, Z.out.2.1, Z.out.2.2, Mo.mD_28 D28.out]; simp only [Cal.orz, Cal.why, if_true]
  have cA_b := A3.hb
  have cA_f := A3.fz
  have cA_0 := A3.k0
  have cA_1 := A3.k1
  have cA_2 := A3.k2
  have cX_b := X3.hb
  have cX_f := X3.fz
  have cX_0 := X3.k0
  have cX_1 := X3.k1
  have cX_2 := X3.k2
  go_wp2_with fail
  clear cA_b cA_f cA_0 cA_1 cA_2 cX_b cX_f cX_0 cX_1 cX_2
  refine (madd_any (Mo.mY y m n) (Mo.mM y m n) d k _ (by omega) (by omega)).mono ?_; rintro e w4 ⟨rfl, b4⟩
  have d4 : Below w3.heap.size w3 w4 := below_step (by repeat (first | exact Below.refl _ _ | refine below_drewN ?_ _ | refine Below.drew ?_ | refine Below.setCell ?_ (by simp) _ | refine Below.alloc ?_ (by simp) _)) b4
  have B4 := Lib.hid (below_step B3.out d4)
  have A4 := A3.keep d4
  have X4 := X3.keep d4
  have aY := B3.out.size
  have nYA := Nat.ne_of_lt A3.hb
  have oYA := Nat.ne_of_gt A3.hb
  have nYX := Nat.ne_of_lt X3.hb
  have oYX := Nat.ne_of_gt X3.hb
  have Y4 : Bk3 w4 (w3.heap.size) (.int .i64 y) (.int .i64 m) (.int .i64 d) := Bk3.of b4 (by simp <;> omega) (by intro j; simp [go_sem]) (by simp [go_sem]) (by simp [go_sem]) (by simp [go_sem])
  clear A3 X3 b4 d4 B3
  rw [K2.out.1, Mo.mYk, Mo.mMk, K2.out.2, HK.out]; simp only [Cal.orz, Cal.why, Bool.false_eq_true, if_false, if_true]
  have cA_b := A4.hb
  have cA_f := A4.fz
  have cA_0 := A4.k0
  have cA_1 := A4.k1
  have cA_2 := A4.k2
  have cX_b := X4.hb
  have cX_f := X4.fz
  have cX_0 := X4.k0
  have cX_1 := X4.k1
  have cX_2 := X4.k2
  have cY_b := Y4.hb
  have cY_f := Y4.fz
  have cY_0 := Y4.k0
  have cY_1 := Y4.k1
  have cY_2 := Y4.k2
  go_wp2_with fail
  clear cA_b cA_f cA_0 cA_1 cA_2 cX_b cX_f cX_0 cX_1 cX_2 cY_b cY_f cY_0 cY_1 cY_2
  refine (madd_any y m d (n + k) _ (by omega) (by omega)).mono ?_; rintro e w5 ⟨rfl, b5⟩
  have d5 : Below w4.heap.size w4 w5 := below_step (by repeat (first | exact Below.refl _ _ | refine below_drewN ?_ _ | refine Below.drew ?_ | refine Below.setCell ?_ (by simp) _ | refine Below.alloc ?_ (by simp) _)) b5
  have B5 := Lib.hid (below_step B4.out d5)
  have A5 := A4.keep d5
  have X5 := X4.keep d5
  have Y5 := Y4.keep d5
  have aZ := B4.out.size
  have nZA := Nat.ne_of_lt A4.hb
  have oZA := Nat.ne_of_gt A4.hb
  have nZX := Nat.ne_of_lt X4.hb
  have oZX := Nat.ne_of_gt X4.hb
  have nZY := Nat.ne_of_lt Y4.hb
  have oZY := Nat.ne_of_gt Y4.hb
  have Z5 : Bk3 w5 (w4.heap.size) (.int .i64 (Mo.mY y m (n + k))) (.int .i64 (Mo.mM y m (n + k))) (.int .i64 (Mo.mD y m d (n + k))) := Bk3.of b5 (by simp <;> omega) (by intro j; simp [go_sem]) (by simp [go_sem]) (by simp [go_sem]) (by simp [go_sem])
  clear A4 X4 Y4 b5 d5 B4
  rw [HK.out]; simp only [Cal.orz, Cal.why, Bool.false_eq_true, if_false, if_true]
  have cA_b := A5.hb
  have cA_f := A5.fz
  have cA_0 := A5.k0
  have cA_1 := A5.k1
  have cA_2 := A5.k2
  have cX_b := X5.hb
  have cX_f := X5.fz
  have cX_0 := X5.k0
  have cX_1 := X5.k1
  have cX_2 := X5.k2
  have cY_b := Y5.hb
  have cY_f := Y5.fz
  have cY_0 := Y5.k0
  have cY_1 := Y5.k1
  have cY_2 := Y5.k2
  have cZ_b := Z5.hb
  have cZ_f := Z5.fz
  have cZ_0 := Z5.k0
  have cZ_1 := Z5.k1
  have cZ_2 := Z5.k2
  go_wp2_with fail
  clear cA_b cA_f cA_0 cA_1 cA_2 cX_b cX_f cX_0 cX_1 cX_2 cY_b cY_f cY_0 cY_1 cY_2 cZ_b cZ_f cZ_0 cZ_1 cZ_2
  refine (mdays_any y m d n _ (by omega) (by omega)).mono ?_; rintro e w6 ⟨rfl, b6⟩
  have d6 : Below w5.heap.size w5 w6 := below_step (by repeat (first | exact Below.refl _ _ | refine below_drewN ?_ _ | refine Below.drew ?_ | refine Below.setCell ?_ (by simp) _ | refine Below.alloc ?_ (by simp) _)) b6
  have B6 := Lib.hid (below_step B5.out d6)
  have A6 := A5.keep d6
  have X6 := X5.keep d6
  have Y6 := Y5.keep d6
  have Z6 := Z5.keep d6
  clear A5 X5 Y5 Z5 b6 d6 B5
  rw [HO.out]
  simp only [Cal.orz, Cal.why, Bool.false_eq_true, if_false, if_true]
  skip
  have cA_b := A6.hb
  have cA_f := A6.fz
  have cA_0 := A6.k0
  have cA_1 := A6.k1
  have cA_2 := A6.k2
  have cX_b := X6.hb
  have cX_f := X6.fz
  have cX_0 := X6.k0
  have cX_1 := X6.k1
  have cX_2 := X6.k2
  have cY_b := Y6.hb
  have cY_f := Y6.fz
  have cY_0 := Y6.k0
  have cY_1 := Y6.k1
  have cY_2 := Y6.k2
  have cZ_b := Z6.hb
  have cZ_f := Z6.fz
  have cZ_0 := Z6.k0
  have cZ_1 := Z6.k1
  have cZ_2 := Z6.k2
  go_wp2_with fail
  clear cA_b cA_f cA_0 cA_1 cA_2 cX_b cX_f cX_0 cX_1 cX_2 cY_b cY_f cY_0 cY_1 cY_2 cZ_b cZ_f cZ_0 cZ_1 cZ_2
  refine (mdays_any (Cal.dY (Cal.num y m d + n)) (Cal.dM (Cal.num y m d + n)) (Cal.dD (Cal.num y m d + n)) (-n) _ (by omega) (by omega)).mono ?_; rintro e w7 ⟨rfl, b7⟩
  have d7 : Below w6.heap.size w6 w7 := below_step (by repeat (first | exact Below.refl _ _ | refine below_drewN ?_ _ | refine Below.drew ?_ | refine Below.setCell ?_ (by simp) _ | refine Below.alloc ?_ (by simp) _)) b7
  have B7 := Lib.hid (below_step B6.out d7)
  have A7 := A6.keep d7
  have X7 := X6.keep d7
  have Y7 := Y6.keep d7
  have Z7 := Z6.keep d7
  have aP := B6.out.size
  have nPA := Nat.ne_of_lt A6.hb
  have oPA := Nat.ne_of_gt A6.hb
  have nPX := Nat.ne_of_lt X6.hb
  have oPX := Nat.ne_of_gt X6.hb
  have nPY := Nat.ne_of_lt Y6.hb
  have oPY := Nat.ne_of_gt Y6.hb
  have nPZ := Nat.ne_of_lt Z6.hb
  have oPZ := Nat.ne_of_gt Z6.hb
  have P7 : Bk3 w7 (w6.heap.size) (.int .i64 (Cal.dY (Cal.num y m d + n))) (.int .i64 (Cal.dM (Cal.num y m d + n))) (.int .i64 (Cal.dD (Cal.num y m d + n))) := Bk3.of b7 (by simp <;> omega) (by intro j; simp [go_sem]) (by simp [go_sem]) (by simp [go_sem]) (by simp [go_sem])
  clear A6 X6 Y6 Z6 b7 d7 B6
  rw [DB.out.2.2.1, DB.out.2.1, DB.out.2.2.2.1, DB.out.2.2.2.2.1, DB.out.2.2.2.2.2]; simp only [Cal.orz, Cal.why, if_true]
  have cA_b := A7.hb
  have cA_f := A7.fz
  have cA_0 := A7.k0
  have cA_1 := A7.k1
  have cA_2 := A7.k2
  have cX_b := X7.hb
  have cX_f := X7.fz
  have cX_0 := X7.k0
  have cX_1 := X7.k1
  have cX_2 := X7.k2
  have cY_b := Y7.hb
  have cY_f := Y7.fz
  have cY_0 := Y7.k0
  have cY_1 := Y7.k1
  have cY_2 := Y7.k2
  have cZ_b := Z7.hb
  have cZ_f := Z7.fz
  have cZ_0 := Z7.k0
  have cZ_1 := Z7.k1
  have cZ_2 := Z7.k2
  have cP_b := P7.hb
  have cP_f := P7.fz
  have cP_0 := P7.k0
  have cP_1 := P7.k1
  have cP_2 := P7.k2
  go_wp2_with fail
  clear cA_b cA_f cA_0 cA_1 cA_2 cX_b cX_f cX_0 cX_1 cX_2 cY_b cY_f cY_0 cY_1 cY_2 cZ_b cZ_f cZ_0 cZ_1 cZ_2 cP_b cP_f cP_0 cP_1 cP_2
  go_ret
  exact ⟨rfl, (by have hz := B7.out.size; repeat (first | exact B7.out | refine below_drewN ?_ _ | refine Below.drew ?_ | refine Below.setCell ?_ (by first | omega | (simp; done) | (simp; omega)) _ | refine Below.alloc ?_ (by first | omega | (simp; done) | (simp; omega)) _))⟩
set_option maxHeartbeats 4000000 in
set_option maxRecDepth 100000 in
theorem mback_smf_no (y m d n k : Int) (w : World) (n0 : -1099511627776 ≤ n) (n1 : n ≤ 1099511627776) (k0 : -1099511627776 ≤ k) (k1 : k ≤ 1099511627776) (hq : Mo.mok y m d n = true) (hq2 : d ≤ 28) (hk : Mo.mok y m d (n + k) = false) (ho : Mo.dok y m d n = false) :
    Calls Try.prog 8 #[.agg #[.int .i64 y, .int .i64 m, .int .i64 d], .int .i64 n, .int .i64 k] w fun e w' => e = .returned (.bool true) ∧ Below w.heap.size w w' := by
  skip
  have hr := (Mo.mok_true.1 hq).1; have Z := Lib.hid (Mo.back_0 hr); have K1 := Lib.hid (Mo.back (k := -n) hq hq2); have K2 := Lib.hid (Mo.back (k := k) hq hq2); have D28 := Lib.hid hq2; clear hr; have HK := Lib.hid hk; clear hk
  have HQ := Lib.hid hq; have HO := Lib.hid ho
  clear hq ho
  go_enter Try.func8, Try.ntmps8
  go_wp2_with fail
  refine (lives6 _).mono ?_; rintro e w1 ⟨rfl, b1⟩
  have d1 : Below w.heap.size w w1 := below_step (by repeat (first | exact Below.refl _ _ | refine below_drewN ?_ _ | refine Below.drew ?_ | refine Below.setCell ?_ (by simp) _ | refine Below.alloc ?_ (by simp) _)) b1
  have B1 := Lib.hid d1
  have A1 : Bk3 w1 (w.heap.size) (.int .i64 y) (.int .i64 m) (.int .i64 d) := Bk3.of b1 (by simp <;> omega) (by intro j; simp [go_sem]) (by simp [go_sem]) (by simp [go_sem]) (by simp [go_sem])
  clear b1 d1
  have cA_b := A1.hb
  have cA_f := A1.fz
  have cA_0 := A1.k0
  have cA_1 := A1.k1
  have cA_2 := A1.k2
  go_wp2_with fail
  clear cA_b cA_f cA_0 cA_1 cA_2
  refine (madd_any y m d n _ (by omega) (by omega)).mono ?_; rintro e w2 ⟨rfl, b2⟩
  have d2 : Below w1.heap.size w1 w2 := below_step (by repeat (first | exact Below.refl _ _ | refine below_drewN ?_ _ | refine Below.drew ?_ | refine Below.setCell ?_ (by simp) _ | refine Below.alloc ?_ (by simp) _)) b2
  have B2 := Lib.hid (below_step B1.out d2)
  have A2 := A1.keep d2
  clear A1 b2 d2 B1
  rw [HQ.out]
  simp only [Cal.orz, Cal.why, Bool.false_eq_true, if_false, if_true]
  rw [Mo.mD_28 D28.out]
  have cA_b := A2.hb
  have cA_f := A2.fz
  have cA_0 := A2.k0
  have cA_1 := A2.k1
  have cA_2 := A2.k2
  go_wp2_with fail
  clear cA_b cA_f cA_0 cA_1 cA_2
  refine (madd_any (Mo.mY y m n) (Mo.mM y m n) d (-n) _ (by omega) (by omega)).mono ?_; rintro e w3 ⟨rfl, b3⟩
  have d3 : Below w2.heap.size w2 w3 := below_step (by repeat (first | exact Below.refl _ _ | refine below_drewN ?_ _ | refine Below.drew ?_ | refine Below.setCell ?_ (by simp) _ | refine Below.alloc ?_ (by simp) _)) b3
  have B3 := Lib.hid (below_step B2.out d3)
  have A3 := A2.keep d3
  have aX := B2.out.size
  have nXA := Nat.ne_of_lt A2.hb
  have oXA := Nat.ne_of_gt A2.hb
  have X3 : Bk3 w3 (w2.heap.size) (.int .i64 (Mo.mY y m n)) (.int .i64 (Mo.mM y m n)) (.int .i64 d) := Bk3.of b3 (by simp <;> omega) (by intro j; simp [go_sem]) (by simp [go_sem]) (by simp [go_sem]) (by simp [go_sem])
  clear A2 b3 d3 B2
  rw [K1.out.1, show n + -n = 0 by omega, Z.out.1, Mo.mYk, Mo.mMk, K1.out.2, show n + -n = 0 by omega, Z.out.2.1, Z.out.2.2, Mo.mD_28 D28.out]; simp only [Cal.orz, Cal.why, if_true]
  have cA_b := A3.hb
  have cA_f := A3.fz
  have cA_0 := A3.k0
  have cA_1 := A3.k1
  have cA_2 := A3.k2
  have cX_b := X3.hb
  have cX_f := X3.fz
  have cX_0 := X3.k0
  have cX_1 := X3.k1
  have cX_2 := X3.k2
  go_wp2_with fail
  clear cA_b cA_f cA_0 cA_1 cA_2 cX_b cX_f cX_0 cX_1 cX_2
  refine (madd_any (Mo.mY y m n) (Mo.mM y m n) d k _ (by omega) (by omega)).mono ?_; rintro e w4 ⟨rfl, b4⟩
  have d4 : Below w3.heap.size w3 w4 := below_step (by repeat (first | exact Below.refl _ _ | refine below_drewN ?_ _ | refine Below.drew ?_ | refine Below.setCell ?_ (by simp) _ | refine Below.alloc ?_ (by simp) _)) b4
  have B4 := Lib.hid (below_step B3.out d4)
  have A4 := A3.keep d4
  have X4 := X3.keep d4
  have aY := B3.out.size
  have nYA := Nat.ne_of_lt A3.hb
  have oYA := Nat.ne_of_gt A3.hb
  have nYX := Nat.ne_of_lt X3.hb
  have oYX := Nat.ne_of_gt X3.hb
  have Y4 : Bk3 w4 (w3.heap.size) (.int .i64 y) (.int .i64 m) (.int .i64 d) := Bk3.of b4 (by simp <;> omega) (by intro j; simp [go_sem]) (by simp [go_sem]) (by simp [go_sem]) (by simp [go_sem])
  clear A3 X3 b4 d4 B3
  rw [K2.out.1, Mo.mYk, Mo.mMk, K2.out.2, HK.out]; simp only [Cal.orz, Cal.why, Bool.false_eq_true, if_false, if_true]
  have cA_b := A4.hb
  have cA_f := A4.fz
  have cA_0 := A4.k0
  have cA_1 := A4.k1
  have cA_2 := A4.k2
  have cX_b := X4.hb
  have cX_f := X4.fz
  have cX_0 := X4.k0
  have cX_1 := X4.k1
  have cX_2 := X4.k2
  have cY_b := Y4.hb
  have cY_f := Y4.fz
  have cY_0 := Y4.k0
  have cY_1 := Y4.k1
  have cY_2 := Y4.k2
  go_wp2_with fail
  clear cA_b cA_f cA_0 cA_1 cA_2 cX_b cX_f cX_0 cX_1 cX_2 cY_b cY_f cY_0 cY_1 cY_2
  refine (madd_any y m d (n + k) _ (by omega) (by omega)).mono ?_; rintro e w5 ⟨rfl, b5⟩
  have d5 : Below w4.heap.size w4 w5 := below_step (by repeat (first | exact Below.refl _ _ | refine below_drewN ?_ _ | refine Below.drew ?_ | refine Below.setCell ?_ (by simp) _ | refine Below.alloc ?_ (by simp) _)) b5
  have B5 := Lib.hid (below_step B4.out d5)
  have A5 := A4.keep d5
  have X5 := X4.keep d5
  have Y5 := Y4.keep d5
  have aZ := B4.out.size
  have nZA := Nat.ne_of_lt A4.hb
  have oZA := Nat.ne_of_gt A4.hb
  have nZX := Nat.ne_of_lt X4.hb
  have oZX := Nat.ne_of_gt X4.hb
  have nZY := Nat.ne_of_lt Y4.hb
  have oZY := Nat.ne_of_gt Y4.hb
  have Z5 : Bk3 w5 (w4.heap.size) (.int .i64 0) (.int .i64 0) (.int .i64 0) := Bk3.of b5 (by simp <;> omega) (by intro j; simp [go_sem]) (by simp [go_sem]) (by simp [go_sem]) (by simp [go_sem])
  clear A4 X4 Y4 b5 d5 B4
  rw [HK.out]; simp only [Cal.orz, Cal.why, Bool.false_eq_true, if_false, if_true]
  have cA_b := A5.hb
  have cA_f := A5.fz
  have cA_0 := A5.k0
  have cA_1 := A5.k1
  have cA_2 := A5.k2
  have cX_b := X5.hb
  have cX_f := X5.fz
  have cX_0 := X5.k0
  have cX_1 := X5.k1
  have cX_2 := X5.k2
  have cY_b := Y5.hb
  have cY_f := Y5.fz
  have cY_0 := Y5.k0
  have cY_1 := Y5.k1
  have cY_2 := Y5.k2
  have cZ_b := Z5.hb
  have cZ_f := Z5.fz
  have cZ_0 := Z5.k0
  have cZ_1 := Z5.k1
  have cZ_2 := Z5.k2
  go_wp2_with fail
  clear cA_b cA_f cA_0 cA_1 cA_2 cX_b cX_f cX_0 cX_1 cX_2 cY_b cY_f cY_0 cY_1 cY_2 cZ_b cZ_f cZ_0 cZ_1 cZ_2
  refine (mdays_any y m d n _ (by omega) (by omega)).mono ?_; rintro e w6 ⟨rfl, b6⟩
  have d6 : Below w5.heap.size w5 w6 := below_step (by repeat (first | exact Below.refl _ _ | refine below_drewN ?_ _ | refine Below.drew ?_ | refine Below.setCell ?_ (by simp) _ | refine Below.alloc ?_ (by simp) _)) b6
  have B6 := Lib.hid (below_step B5.out d6)
  have A6 := A5.keep d6
  have X6 := X5.keep d6
  have Y6 := Y5.keep d6
  have Z6 := Z5.keep d6
  clear A5 X5 Y5 Z5 b6 d6 B5
  rw [HO.out]
  simp only [Cal.orz, Cal.why, Bool.false_eq_true, if_false, if_true]
  skip
  
  
  skip
  have cA_b := A6.hb
  have cA_f := A6.fz
  have cA_0 := A6.k0
  have cA_1 := A6.k1
  have cA_2 := A6.k2
  have cX_b := X6.hb
  have cX_f := X6.fz
  have cX_0 := X6.k0
  have cX_1 := X6.k1
  have cX_2 := X6.k2
  have cY_b := Y6.hb
  have cY_f := Y6.fz
  have cY_0 := Y6.k0
  have cY_1 := Y6.k1
  have cY_2 := Y6.k2
  have cZ_b := Z6.hb
  have cZ_f := Z6.fz
  have cZ_0 := Z6.k0
  have cZ_1 := Z6.k1
  have cZ_2 := Z6.k2
  go_wp2_with fail
  clear cA_b cA_f cA_0 cA_1 cA_2 cX_b cX_f cX_0 cX_1 cX_2 cY_b cY_f cY_0 cY_1 cY_2 cZ_b cZ_f cZ_0 cZ_1 cZ_2
  go_ret
  exact ⟨rfl, (by have hz := B6.out.size; repeat (first | exact B6.out | refine below_drewN ?_ _ | refine Below.drew ?_ | refine Below.setCell ?_ (by first | omega | (simp; done) | (simp; omega)) _ | refine Below.alloc ?_ (by first | omega | (simp; done) | (simp; omega)) _))⟩
set_option maxHeartbeats 4000000 in
set_option maxRecDepth 100000 in
theorem mback_smf_yes (y m d n k : Int) (w : World) (n0 : -1099511627776 ≤ n) (n1 : n ≤ 1099511627776) (k0 : -1099511627776 ≤ k) (k1 : k ≤ 1099511627776) (hq : Mo.mok y m d n = true) (hq2 : d ≤ 28) (hk : Mo.mok y m d (n + k) = false) (ho : Mo.dok y m d n = true) :
    Calls Try.prog 8 #[.agg #[.int .i64 y, .int .i64 m, .int .i64 d], .int .i64 n, .int .i64 k] w fun e w' => e = .returned (.bool true) ∧ Below w.heap.size w w' := by
  have DB := Lib.hid (Mo.dback ho)
  have hr := (Mo.mok_true.1 hq).1; have Z := Lib.hid (Mo.back_0 hr); have K1 := Lib.hid (Mo.back (k := -n) hq hq2); have K2 := Lib.hid (Mo.back (k := k) hq hq2); have D28 := Lib.hid hq2; clear hr; have HK := Lib.hid hk; clear hk
  have HQ := Lib.hid hq; have HO := Lib.hid ho
  clear hq ho
  go_enter Try.func8, Try.ntmps8
  go_wp2_with fail
  refine (lives6 _).mono ?_; rintro e w1 ⟨rfl, b1⟩
  have d1 : Below w.heap.size w w1 := below_step (by repeat (first | exact Below.refl _ _ | refine below_drewN ?_ _ | refine Below.drew ?_ | refine Below.setCell ?_ (by simp) _ | refine Below.alloc ?_ (by simp) _)) b1
  have B1 := Lib.hid d1
  have A1 : Bk3 w1 (w.heap.size) (.int .i64 y) (.int .i64 m) (.int .i64 d) := Bk3.of b1 (by simp <;> omega) (by intro j; simp [go_sem]) (by simp [go_sem]) (by simp [go_sem]) (by simp [go_sem])
  clear b1 d1
  have cA_b := A1.hb
  have cA_f := A1.fz
  have cA_0 := A1.k0
  have cA_1 := A1.k1
  have cA_2 := A1.k2
  go_wp2_with fail
  clear cA_b cA_f cA_0 cA_1 cA_2
  refine (madd_any y m d n _ (by omega) (by omega)).mono ?_; rintro e w2 ⟨rfl, b2⟩
  have d2 : Below w1.heap.size w1 w2 := below_step (by repeat (first | exact Below.refl _ _ | refine below_drewN ?_ _ | refine Below.drew ?_ | refine Below.setCell ?_ (by simp) _ | refine Below.alloc ?_ (by simp) _)) b2
  have B2 := Lib.hid (below_step B1.out d2)
  have A2 := A1.keep d2
  clear A1 b2 d2 B1
  rw [HQ.out]
  simp only [Cal.orz, Cal.why, Bool.false_eq_true, if_false, if_true]
  rw [Mo.mD_28 D28.out]
  have cA_b := A2.hb
  have cA_f := A2.fz
  have cA_0 := A2.k0
  have cA_1 := A2.k1
  have cA_2 := A2.k2
  go_wp2_with fail
  clear cA_b cA_f cA_0 cA_1 cA_2
  refine (madd_any (Mo.mY y m n) (Mo.mM y m n) d (-n) _ (by omega) (by omega)).mono ?_; rintro e w3 ⟨rfl, b3⟩
  have d3 : Below w2.heap.size w2 w3 := below_step (by repeat (first | exact Below.refl _ _ | refine below_drewN ?_ _ | refine Below.drew ?_ | refine Below.setCell ?_ (by simp) _ | refine Below.alloc ?_ (by simp) _)) b3
  have B3 := Lib.hid (below_step B2.out d3)
  have A3 := A2.keep d3
  have aX := B2.out.size
  have nXA := Nat.ne_of_lt A2.hb
  have oXA := Nat.ne_of_gt A2.hb
  have X3 : Bk3 w3 (w2.heap.size) (.int .i64 (Mo.mY y m n)) (.int .i64 (Mo.mM y m n)) (.int .i64 d) := Bk3.of b3 (by simp <;> omega) (by intro j; simp [go_sem]) (by simp [go_sem]) (by simp [go_sem]) (by simp [go_sem])
  clear A2 b3 d3 B2
  rw [K1.out.1, show n + -n = 0 by omega, Z.out.1, Mo.mYk, Mo.mMk, K1.out.2, show n + -n = 0 by omega, Z.out.2.1, Z.out.2.2, Mo.mD_28 D28.out]; simp only [Cal.orz, Cal.why, if_true]
  have cA_b := A3.hb
  have cA_f := A3.fz
  have cA_0 := A3.k0
  have cA_1 := A3.k1
  have cA_2 := A3.k2
  have cX_b := X3.hb
  have cX_f := X3.fz
  have cX_0 := X3.k0
  have cX_1 := X3.k1
  have cX_2 := X3.k2
  go_wp2_with fail
  clear cA_b cA_f cA_0 cA_1 cA_2 cX_b cX_f cX_0 cX_1 cX_2
  refine (madd_any (Mo.mY y m n) (Mo.mM y m n) d k _ (by omega) (by omega)).mono ?_; rintro e w4 ⟨rfl, b4⟩
  have d4 : Below w3.heap.size w3 w4 := below_step (by repeat (first | exact Below.refl _ _ | refine below_drewN ?_ _ | refine Below.drew ?_ | refine Below.setCell ?_ (by simp) _ | refine Below.alloc ?_ (by simp) _)) b4
  have B4 := Lib.hid (below_step B3.out d4)
  have A4 := A3.keep d4
  have X4 := X3.keep d4
  have aY := B3.out.size
  have nYA := Nat.ne_of_lt A3.hb
  have oYA := Nat.ne_of_gt A3.hb
  have nYX := Nat.ne_of_lt X3.hb
  have oYX := Nat.ne_of_gt X3.hb
  have Y4 : Bk3 w4 (w3.heap.size) (.int .i64 y) (.int .i64 m) (.int .i64 d) := Bk3.of b4 (by simp <;> omega) (by intro j; simp [go_sem]) (by simp [go_sem]) (by simp [go_sem]) (by simp [go_sem])
  clear A3 X3 b4 d4 B3
  rw [K2.out.1, Mo.mYk, Mo.mMk, K2.out.2, HK.out]; simp only [Cal.orz, Cal.why, Bool.false_eq_true, if_false, if_true]
  have cA_b := A4.hb
  have cA_f := A4.fz
  have cA_0 := A4.k0
  have cA_1 := A4.k1
  have cA_2 := A4.k2
  have cX_b := X4.hb
  have cX_f := X4.fz
  have cX_0 := X4.k0
  have cX_1 := X4.k1
  have cX_2 := X4.k2
  have cY_b := Y4.hb
  have cY_f := Y4.fz
  have cY_0 := Y4.k0
  have cY_1 := Y4.k1
  have cY_2 := Y4.k2
  go_wp2_with fail
  clear cA_b cA_f cA_0 cA_1 cA_2 cX_b cX_f cX_0 cX_1 cX_2 cY_b cY_f cY_0 cY_1 cY_2
  refine (madd_any y m d (n + k) _ (by omega) (by omega)).mono ?_; rintro e w5 ⟨rfl, b5⟩
  have d5 : Below w4.heap.size w4 w5 := below_step (by repeat (first | exact Below.refl _ _ | refine below_drewN ?_ _ | refine Below.drew ?_ | refine Below.setCell ?_ (by simp) _ | refine Below.alloc ?_ (by simp) _)) b5
  have B5 := Lib.hid (below_step B4.out d5)
  have A5 := A4.keep d5
  have X5 := X4.keep d5
  have Y5 := Y4.keep d5
  have aZ := B4.out.size
  have nZA := Nat.ne_of_lt A4.hb
  have oZA := Nat.ne_of_gt A4.hb
  have nZX := Nat.ne_of_lt X4.hb
  have oZX := Nat.ne_of_gt X4.hb
  have nZY := Nat.ne_of_lt Y4.hb
  have oZY := Nat.ne_of_gt Y4.hb
  have Z5 : Bk3 w5 (w4.heap.size) (.int .i64 0) (.int .i64 0) (.int .i64 0) := Bk3.of b5 (by simp <;> omega) (by intro j; simp [go_sem]) (by simp [go_sem]) (by simp [go_sem]) (by simp [go_sem])
  clear A4 X4 Y4 b5 d5 B4
  rw [HK.out]; simp only [Cal.orz, Cal.why, Bool.false_eq_true, if_false, if_true]
  have cA_b := A5.hb
  have cA_f := A5.fz
  have cA_0 := A5.k0
  have cA_1 := A5.k1
  have cA_2 := A5.k2
  have cX_b := X5.hb
  have cX_f := X5.fz
  have cX_0 := X5.k0
  have cX_1 := X5.k1
  have cX_2 := X5.k2
  have cY_b := Y5.hb
  have cY_f := Y5.fz
  have cY_0 := Y5.k0
  have cY_1 := Y5.k1
  have cY_2 := Y5.k2
  have cZ_b := Z5.hb
  have cZ_f := Z5.fz
  have cZ_0 := Z5.k0
  have cZ_1 := Z5.k1
  have cZ_2 := Z5.k2
  go_wp2_with fail
  clear cA_b cA_f cA_0 cA_1 cA_2 cX_b cX_f cX_0 cX_1 cX_2 cY_b cY_f cY_0 cY_1 cY_2 cZ_b cZ_f cZ_0 cZ_1 cZ_2
  refine (mdays_any y m d n _ (by omega) (by omega)).mono ?_; rintro e w6 ⟨rfl, b6⟩
  have d6 : Below w5.heap.size w5 w6 := below_step (by repeat (first | exact Below.refl _ _ | refine below_drewN ?_ _ | refine Below.drew ?_ | refine Below.setCell ?_ (by simp) _ | refine Below.alloc ?_ (by simp) _)) b6
  have B6 := Lib.hid (below_step B5.out d6)
  have A6 := A5.keep d6
  have X6 := X5.keep d6
  have Y6 := Y5.keep d6
  have Z6 := Z5.keep d6
  clear A5 X5 Y5 Z5 b6 d6 B5
  rw [HO.out]
  simp only [Cal.orz, Cal.why, Bool.false_eq_true, if_false, if_true]
  skip
  have cA_b := A6.hb
  have cA_f := A6.fz
  have cA_0 := A6.k0
  have cA_1 := A6.k1
  have cA_2 := A6.k2
  have cX_b := X6.hb
  have cX_f := X6.fz
  have cX_0 := X6.k0
  have cX_1 := X6.k1
  have cX_2 := X6.k2
  have cY_b := Y6.hb
  have cY_f := Y6.fz
  have cY_0 := Y6.k0
  have cY_1 := Y6.k1
  have cY_2 := Y6.k2
  have cZ_b := Z6.hb
  have cZ_f := Z6.fz
  have cZ_0 := Z6.k0
  have cZ_1 := Z6.k1
  have cZ_2 := Z6.k2
  go_wp2_with fail
  clear cA_b cA_f cA_0 cA_1 cA_2 cX_b cX_f cX_0 cX_1 cX_2 cY_b cY_f cY_0 cY_1 cY_2 cZ_b cZ_f cZ_0 cZ_1 cZ_2
  refine (mdays_any (Cal.dY (Cal.num y m d + n)) (Cal.dM (Cal.num y m d + n)) (Cal.dD (Cal.num y m d + n)) (-n) _ (by omega) (by omega)).mono ?_; rintro e w7 ⟨rfl, b7⟩
  have d7 : Below w6.heap.size w6 w7 := below_step (by repeat (first | exact Below.refl _ _ | refine below_drewN ?_ _ | refine Below.drew ?_ | refine Below.setCell ?_ (by simp) _ | refine Below.alloc ?_ (by simp) _)) b7
  have B7 := Lib.hid (below_step B6.out d7)
  have A7 := A6.keep d7
  have X7 := X6.keep d7
  have Y7 := Y6.keep d7
  have Z7 := Z6.keep d7
  have aP := B6.out.size
  have nPA := Nat.ne_of_lt A6.hb
  have oPA := Nat.ne_of_gt A6.hb
  have nPX := Nat.ne_of_lt X6.hb
  have oPX := Nat.ne_of_gt X6.hb
  have nPY := Nat.ne_of_lt Y6.hb
  have oPY := Nat.ne_of_gt Y6.hb
  have nPZ := Nat.ne_of_lt Z6.hb
  have oPZ := Nat.ne_of_gt Z6.hb
  have P7 : Bk3 w7 (w6.heap.size) (.int .i64 (Cal.dY (Cal.num y m d + n))) (.int .i64 (Cal.dM (Cal.num y m d + n))) (.int .i64 (Cal.dD (Cal.num y m d + n))) := Bk3.of b7 (by simp <;> omega) (by intro j; simp [go_sem]) (by simp [go_sem]) (by simp [go_sem]) (by simp [go_sem])
  clear A6 X6 Y6 Z6 b7 d7 B6
  rw [DB.out.2.2.1, DB.out.2.1, DB.out.2.2.2.1, DB.out.2.2.2.2.1, DB.out.2.2.2.2.2]; simp only [Cal.orz, Cal.why, if_true]
  have cA_b := A7.hb
  have cA_f := A7.fz
  have cA_0 := A7.k0
  have cA_1 := A7.k1
  have cA_2 := A7.k2
  have cX_b := X7.hb
  have cX_f := X7.fz
  have cX_0 := X7.k0
  have cX_1 := X7.k1
  have cX_2 := X7.k2
  have cY_b := Y7.hb
  have cY_f := Y7.fz
  have cY_0 := Y7.k0
  have cY_1 := Y7.k1
  have cY_2 := Y7.k2
  have cZ_b := Z7.hb
  have cZ_f := Z7.fz
  have cZ_0 := Z7.k0
  have cZ_1 := Z7.k1
  have cZ_2 := Z7.k2
  have cP_b := P7.hb
  have cP_f := P7.fz
  have cP_0 := P7.k0
  have cP_1 := P7.k1
  have cP_2 := P7.k2
  go_wp2_with fail
  clear cA_b cA_f cA_0 cA_1 cA_2 cX_b cX_f cX_0 cX_1 cX_2 cY_b cY_f cY_0 cY_1 cY_2 cZ_b cZ_f cZ_0 cZ_1 cZ_2 cP_b cP_f cP_0 cP_1 cP_2
  go_ret
  exact ⟨rfl, (by have hz := B7.out.size; repeat (first | exact B7.out | refine below_drewN ?_ _ | refine Below.drew ?_ | refine Below.setCell ?_ (by first | omega | (simp; done) | (simp; omega)) _ | refine Below.alloc ?_ (by first | omega | (simp; done) | (simp; omega)) _))⟩
theorem mback_walk (y m d n k : Int) (w : World) :
    Calls Try.prog 8 #[.agg #[.int .i64 y, .int .i64 m, .int .i64 d], .int .i64 n, .int .i64 k] w fun e w' => e = .returned (.bool true) ∧ Below w.heap.size w w' := by
  by_cases h : 1099511627776 < n ∨ n < -1099511627776 ∨ 1099511627776 < k ∨ k < -1099511627776
  · exact mback_out y m d n k w h
  · cases hq : Mo.mok y m d n
    · cases ho : Mo.dok y m d n
      · exact mback_no_no y m d n k w (by omega) (by omega) (by omega) (by omega) hq ho
      · exact mback_no_yes y m d n k w (by omega) (by omega) (by omega) (by omega) hq ho
    · by_cases hd : d ≤ 28
      · cases ho : Mo.dok y m d n
        · cases hk : Mo.mok y m d (n + k)
          · exact mback_smf_no y m d n k w (by omega) (by omega) (by omega) (by omega) hq hd hk ho
          · exact mback_smt_no y m d n k w (by omega) (by omega) (by omega) (by omega) hq hd hk ho
        · cases hk : Mo.mok y m d (n + k)
          · exact mback_smf_yes y m d n k w (by omega) (by omega) (by omega) (by omega) hq hd hk ho
          · exact mback_smt_yes y m d n k w (by omega) (by omega) (by omega) (by omega) hq hd hk ho
      · cases ho : Mo.dok y m d n
        · exact mback_big_no y m d n k w (by omega) (by omega) (by omega) (by omega) hq (by omega) ho
        · exact mback_big_yes y m d n k w (by omega) (by omega) (by omega) (by omega) hq (by omega) ho
end Go.Proofs.Ytlehbnfocilcmab

