/- Months added, in plain arithmetic, and the contracts of monthly.monthOf, monthly.Add. -/
import Derived.Test.YtlehbnfocilcmabNumG
import Derived.Test.YtlehbnfocilcmabCivT
import Derived.Test.YtlehbnfocilcmabCmp
import Derived.StillTailTactics
import Derived.Lib.MinMax
set_option linter.unusedVariables false
set_option linter.unusedSimpArgs false
namespace Go.Proofs.Ytlehbnfocilcmab
open Go.RowKit Go.Sort

namespace Mo
/-- The month's number, n months later. -/
def mN (y m n : Int) : Int := y * 12 + m - 1 + n
def mY (y m n : Int) : Int := mN y m n / 12
def mM (y m n : Int) : Int := mN y m n % 12 + 1
def mD (y m d n : Int) : Int := min d (Cal.len (mY y m n) (mM y m n))
/-- May a date be moved so far? -/
def mok (y m d n : Int) : Bool := rightB y m d && decide (-40000 ≤ mY y m n ∧ mY y m n ≤ 40000)
theorem mok_true {y m d n : Int} : mok y m d n = true ↔ rightB y m d = true ∧ -40000 ≤ mY y m n ∧ mY y m n ≤ 40000 := by unfold mok; simp
theorem mM_bd (y m n : Int) : 1 ≤ mM y m n ∧ mM y m n ≤ 12 := by unfold mM; omega
theorem len_pos {y m : Int} (h1 : 1 ≤ m) (h2 : m ≤ 12) : 28 ≤ Cal.len y m ∧ Cal.len y m ≤ 31 := by
  have := Cal.lp_01 y
  rcases Cal.twelve h1 h2 with rfl | rfl | rfl | rfl | rfl | rfl | rfl | rfl | rfl | rfl | rfl | rfl <;> simp [Cal.len] <;> omega
theorem moved_right {y m d n : Int} (h : mok y m d n = true) : rightB (mY y m n) (mM y m n) (mD y m d n) = true := by
  obtain ⟨a, b, c⟩ := mok_true.1 h
  have a := right_true.1 a
  obtain ⟨m1, m2⟩ := mM_bd y m n
  have l := len_pos (y := mY y m n) m1 m2
  have d0 := a.d0
  refine right_true.2 ⟨b, c, ?_, ?_⟩ <;> (unfold mD; omega)
end Mo

theorem ndiv_b (a b : Int) (w : World) (ha : -9223372036854775808 ≤ a) (ha' : a ≤ 9223372036854775807) (hb : 1 ≤ b) (hb' : b ≤ 1000000) :
    Calls Try.prog 47 #[.int .i64 a, .int .i64 b] w fun e w' => e = .returned (.tuple #[.int .i64 (a / b), .int .i64 (a % b), .int .i64 0]) ∧ Below w.heap.size w w' :=
  (div_pos a b w ha ha' hb hb').mono fun _ _ ⟨h, n, e⟩ => ⟨h, by rw [e]; exact below_draw _ _⟩
set_option maxHeartbeats 1000000 in
theorem monthOf_any (y m d : Int) (w : World) (y0 : -100000 ≤ y) (y1 : y ≤ 100000) (m0 : 0 ≤ m) (m1 : m ≤ 100) :
    Calls Try.prog 52 #[.agg #[.int .i64 y, .int .i64 m, .int .i64 d]] w fun e w' => e = .returned (.int .i64 (y * 12 + m - 1)) ∧ Below w.heap.size w w' := by
  go_enter Try.func52, Try.ntmps52
  go_wp2
  go_ret
  exact ⟨rfl, by go_grown⟩

set_option maxHeartbeats 1000000 in
theorem madd_notright (y m d n : Int) (w : World) (h : rightB y m d = false) :
    Calls Try.prog 24 #[.agg #[.int .i64 y, .int .i64 m, .int .i64 d], .int .i64 n] w fun e w' => e = .returned (.tuple #[.agg #[.int .i64 0, .int .i64 0, .int .i64 0], .int .i64 1]) ∧ Below w.heap.size w w' := by
  have H := Lib.hid h; clear h
  go_enter Try.func24, Try.ntmps24
  go_wp2_with fail
  refine (right_any y m d _).mono ?_; rintro e w1 ⟨rfl, b1⟩
  have d1 : Below w.heap.size w w1 := below_step (by repeat (first | exact Below.refl _ _ | refine below_drewN ?_ _ | refine Below.drew ?_ | refine Below.setCell ?_ (by simp) _ | refine Below.alloc ?_ (by simp) _)) b1
  have B1 := Lib.hid d1
  have D1 : Bk3 w1 (w.heap.size) (.int .i64 y) (.int .i64 m) (.int .i64 d) := Bk3.of b1 (by simp <;> omega) (by intro j; simp [go_sem]) (by simp [go_sem]) (by simp [go_sem]) (by simp [go_sem])
  have R1 : Bk3 w1 (w.heap.size + 1) (.int .i64 0) (.int .i64 0) (.int .i64 0) := Bk3.of b1 (by simp <;> omega) (by intro j; simp [go_sem]) (by simp [go_sem]) (by simp [go_sem]) (by simp [go_sem])
  clear b1 d1
  rw [H.out]
  have cD_b := D1.hb
  have cD_f := D1.fz
  have cD_0 := D1.k0
  have cD_1 := D1.k1
  have cD_2 := D1.k2
  have cR_b := R1.hb
  have cR_f := R1.fz
  have cR_0 := R1.k0
  have cR_1 := R1.k1
  have cR_2 := R1.k2
  go_wp2_with fail
  refine bodyPost_ret (v := .tuple #[.agg #[.int .i64 0, .int .i64 0, .int .i64 0], .int .i64 1]) (by simp [results, Try.results24, go_sem, cD_b, cD_f, cD_0, cD_1, cD_2, cR_b, cR_f, cR_0, cR_1, cR_2]) rfl ⟨rfl, ?_⟩
  clear cD_b cD_f cD_0 cD_1 cD_2 cR_b cR_f cR_0 cR_1 cR_2
  exact (by have hz := B1.out.size; repeat (first | exact B1.out | refine below_drewN ?_ _ | refine Below.drew ?_ | refine Below.setCell ?_ (by simp <;> omega) _ | refine Below.alloc ?_ (by simp <;> omega) _))
set_option maxHeartbeats 1000000 in
theorem madd_over (y m d n : Int) (w : World) (h : rightB y m d = true) (n0 : -9223372036854775808 ≤ n) (n1 : n ≤ 9223372036854775807) (ho : y * 12 + m - 1 + n < -9223372036854775808 ∨ 9223372036854775807 < y * 12 + m - 1 + n) :
    Calls Try.prog 24 #[.agg #[.int .i64 y, .int .i64 m, .int .i64 d], .int .i64 n] w fun e w' => e = .returned (.tuple #[.agg #[.int .i64 0, .int .i64 0, .int .i64 0], .int .i64 1]) ∧ Below w.heap.size w w' := by
  have hr := right_true.1 h
  obtain ⟨m1, m2⟩ := Cal.month_of hr
  have y1 := hr.y0; have y2 := hr.y1
  have H := Lib.hid h
  have E := Lib.hid (Nm.ok_no ho)
  clear h hr ho
  go_enter Try.func24, Try.ntmps24
  go_wp2_with fail
  refine (right_any y m d _).mono ?_; rintro e w1 ⟨rfl, b1⟩
  have d1 : Below w.heap.size w w1 := below_step (by repeat (first | exact Below.refl _ _ | refine below_drewN ?_ _ | refine Below.drew ?_ | refine Below.setCell ?_ (by simp) _ | refine Below.alloc ?_ (by simp) _)) b1
  have B1 := Lib.hid d1
  have D1 : Bk3 w1 (w.heap.size) (.int .i64 y) (.int .i64 m) (.int .i64 d) := Bk3.of b1 (by simp <;> omega) (by intro j; simp [go_sem]) (by simp [go_sem]) (by simp [go_sem]) (by simp [go_sem])
  have R1 : Bk3 w1 (w.heap.size + 1) (.int .i64 0) (.int .i64 0) (.int .i64 0) := Bk3.of b1 (by simp <;> omega) (by intro j; simp [go_sem]) (by simp [go_sem]) (by simp [go_sem]) (by simp [go_sem])
  clear b1 d1
  rw [H.out]
  have cD_b := D1.hb
  have cD_f := D1.fz
  have cD_0 := D1.k0
  have cD_1 := D1.k1
  have cD_2 := D1.k2
  have cR_b := R1.hb
  have cR_f := R1.fz
  have cR_0 := R1.k0
  have cR_1 := R1.k1
  have cR_2 := R1.k2
  go_wp2_with fail
  clear cD_b cD_f cD_0 cD_1 cD_2 cR_b cR_f cR_0 cR_1 cR_2
  refine (monthOf_any y m d _ (by omega) (by omega) (by omega) (by omega)).mono ?_; rintro e w2 ⟨rfl, b2⟩
  have d2 : Below w1.heap.size w1 w2 := below_step (by repeat (first | exact Below.refl _ _ | refine below_drewN ?_ _ | refine Below.drew ?_ | refine Below.setCell ?_ (by simp) _ | refine Below.alloc ?_ (by simp) _)) b2
  have B2 := Lib.hid (below_step B1.out d2)
  have D2 := D1.keep d2
  have R2 := R1.keep d2
  clear D1 R1 b2 d2 B1
  have cD_b := D2.hb
  have cD_f := D2.fz
  have cD_0 := D2.k0
  have cD_1 := D2.k1
  have cD_2 := D2.k2
  have cR_b := R2.hb
  have cR_f := R2.fz
  have cR_0 := R2.k0
  have cR_1 := R2.k1
  have cR_2 := R2.k2
  go_wp2_with fail
  clear cD_b cD_f cD_0 cD_1 cD_2 cR_b cR_f cR_0 cR_1 cR_2
  refine (nadd_b (y * 12 + m - 1) n _ (by omega) (by omega) n0 n1).mono ?_; rintro e w3 ⟨rfl, b3⟩
  have d3 : Below w2.heap.size w2 w3 := below_step (by repeat (first | exact Below.refl _ _ | refine below_drewN ?_ _ | refine Below.drew ?_ | refine Below.setCell ?_ (by simp) _ | refine Below.alloc ?_ (by simp) _)) b3
  have B3 := Lib.hid (below_step B2.out d3)
  have D3 := D2.keep d3
  have R3 := R2.keep d3
  clear D2 R2 b3 d3 B2
  rw [E.out.1, E.out.2]
  have cD_b := D3.hb
  have cD_f := D3.fz
  have cD_0 := D3.k0
  have cD_1 := D3.k1
  have cD_2 := D3.k2
  have cR_b := R3.hb
  have cR_f := R3.fz
  have cR_0 := R3.k0
  have cR_1 := R3.k1
  have cR_2 := R3.k2
  go_wp2_with fail
  refine bodyPost_ret (v := .tuple #[.agg #[.int .i64 0, .int .i64 0, .int .i64 0], .int .i64 1]) (by simp [results, Try.results24, go_sem, cD_b, cD_f, cD_0, cD_1, cD_2, cR_b, cR_f, cR_0, cR_1, cR_2]) rfl ⟨rfl, ?_⟩
  clear cD_b cD_f cD_0 cD_1 cD_2 cR_b cR_f cR_0 cR_1 cR_2
  exact (by have hz := B3.out.size; repeat (first | exact B3.out | refine below_drewN ?_ _ | refine Below.drew ?_ | refine Below.setCell ?_ (by simp <;> omega) _ | refine Below.alloc ?_ (by simp <;> omega) _))
set_option maxHeartbeats 2000000 in
theorem madd_no (y m d n : Int) (w : World) (h : rightB y m d = true) (n0 : -9223372036854775808 ≤ y * 12 + m - 1 + n) (n1 : y * 12 + m - 1 + n ≤ 9223372036854775807) (k0 : -9223372036854775808 ≤ n) (k1 : n ≤ 9223372036854775807) (hok : rightB (Mo.mY y m n) (Mo.mM y m n) (Mo.mD y m d n) = false) :
    Calls Try.prog 24 #[.agg #[.int .i64 y, .int .i64 m, .int .i64 d], .int .i64 n] w fun e w' => e = .returned (.tuple #[.agg #[.int .i64 0, .int .i64 0, .int .i64 0], .int .i64 1]) ∧ Below w.heap.size w w' := by
  have hr := right_true.1 h
  obtain ⟨m1, m2⟩ := Cal.month_of hr
  have y1 := hr.y0; have y2 := hr.y1
  have H := Lib.hid h
  have E := Lib.hid (Nm.ok_yes n0 n1)
  have HOK := Lib.hid hok
  clear h hr hok
  go_enter Try.func24, Try.ntmps24
  go_wp2_with fail
  refine (right_any y m d _).mono ?_; rintro e w1 ⟨rfl, b1⟩
  have d1 : Below w.heap.size w w1 := below_step (by repeat (first | exact Below.refl _ _ | refine below_drewN ?_ _ | refine Below.drew ?_ | refine Below.setCell ?_ (by simp) _ | refine Below.alloc ?_ (by simp) _)) b1
  have B1 := Lib.hid d1
  have D1 : Bk3 w1 (w.heap.size) (.int .i64 y) (.int .i64 m) (.int .i64 d) := Bk3.of b1 (by simp <;> omega) (by intro j; simp [go_sem]) (by simp [go_sem]) (by simp [go_sem]) (by simp [go_sem])
  have R1 : Bk3 w1 (w.heap.size + 1) (.int .i64 0) (.int .i64 0) (.int .i64 0) := Bk3.of b1 (by simp <;> omega) (by intro j; simp [go_sem]) (by simp [go_sem]) (by simp [go_sem]) (by simp [go_sem])
  clear b1 d1
  rw [H.out]
  have cD_b := D1.hb
  have cD_f := D1.fz
  have cD_0 := D1.k0
  have cD_1 := D1.k1
  have cD_2 := D1.k2
  have cR_b := R1.hb
  have cR_f := R1.fz
  have cR_0 := R1.k0
  have cR_1 := R1.k1
  have cR_2 := R1.k2
  go_wp2_with fail
  clear cD_b cD_f cD_0 cD_1 cD_2 cR_b cR_f cR_0 cR_1 cR_2
  refine (monthOf_any y m d _ (by omega) (by omega) (by omega) (by omega)).mono ?_; rintro e w2 ⟨rfl, b2⟩
  have d2 : Below w1.heap.size w1 w2 := below_step (by repeat (first | exact Below.refl _ _ | refine below_drewN ?_ _ | refine Below.drew ?_ | refine Below.setCell ?_ (by simp) _ | refine Below.alloc ?_ (by simp) _)) b2
  have B2 := Lib.hid (below_step B1.out d2)
  have D2 := D1.keep d2
  have R2 := R1.keep d2
  clear D1 R1 b2 d2 B1
  have cD_b := D2.hb
  have cD_f := D2.fz
  have cD_0 := D2.k0
  have cD_1 := D2.k1
  have cD_2 := D2.k2
  have cR_b := R2.hb
  have cR_f := R2.fz
  have cR_0 := R2.k0
  have cR_1 := R2.k1
  have cR_2 := R2.k2
  go_wp2_with fail
  clear cD_b cD_f cD_0 cD_1 cD_2 cR_b cR_f cR_0 cR_1 cR_2
  refine (nadd_b (y * 12 + m - 1) n _ (by omega) (by omega) k0 k1).mono ?_; rintro e w3 ⟨rfl, b3⟩
  have d3 : Below w2.heap.size w2 w3 := below_step (by repeat (first | exact Below.refl _ _ | refine below_drewN ?_ _ | refine Below.drew ?_ | refine Below.setCell ?_ (by simp) _ | refine Below.alloc ?_ (by simp) _)) b3
  have B3 := Lib.hid (below_step B2.out d3)
  have D3 := D2.keep d3
  have R3 := R2.keep d3
  clear D2 R2 b3 d3 B2
  rw [E.out.1, E.out.2]
  have cD_b := D3.hb
  have cD_f := D3.fz
  have cD_0 := D3.k0
  have cD_1 := D3.k1
  have cD_2 := D3.k2
  have cR_b := R3.hb
  have cR_f := R3.fz
  have cR_0 := R3.k0
  have cR_1 := R3.k1
  have cR_2 := R3.k2
  go_wp2_with fail
  clear cD_b cD_f cD_0 cD_1 cD_2 cR_b cR_f cR_0 cR_1 cR_2
  refine (ndiv_b (y * 12 + m - 1 + n) 12 _ n0 n1 (by decide) (by decide)).mono ?_; rintro e w4 ⟨rfl, b4⟩
  have d4 : Below w3.heap.size w3 w4 := below_step (by repeat (first | exact Below.refl _ _ | refine below_drewN ?_ _ | refine Below.drew ?_ | refine Below.setCell ?_ (by simp) _ | refine Below.alloc ?_ (by simp) _)) b4
  have B4 := Lib.hid (below_step B3.out d4)
  have D4 := D3.keep d4
  have R4 := R3.keep d4
  clear D3 R3 b4 d4 B3
  rw [show (y * 12 + m - 1 + n) / 12 = Mo.mY y m n from rfl]
  have q0 : 0 ≤ (y * 12 + m - 1 + n) % 12 := by omega
  have q1 : (y * 12 + m - 1 + n) % 12 < 12 := by omega
  have MM := Lib.hid (show (y * 12 + m - 1 + n) % 12 + 1 = Mo.mM y m n from rfl)
  generalize (y * 12 + m - 1 + n) % 12 = q at q0 q1 MM ⊢
  have cD_b := D4.hb
  have cD_f := D4.fz
  have cD_0 := D4.k0
  have cD_1 := D4.k1
  have cD_2 := D4.k2
  have cR_b := R4.hb
  have cR_f := R4.fz
  have cR_0 := R4.k0
  have cR_1 := R4.k1
  have cR_2 := R4.k2
  go_wp2_with fail
  clear cD_b cD_f cD_0 cD_1 cD_2 cR_b cR_f cR_0 cR_1 cR_2
  refine wp_named ?_; intro w5 hw5
  have d5 : Below w4.heap.size w4 w5 := by rw [hw5]; exact (by repeat (first | exact Below.refl _ _ | refine below_drewN ?_ _ | refine Below.drew ?_ | refine Below.setCell ?_ (by simp) _ | refine Below.alloc ?_ (by simp) _))
  have B5 := Lib.hid (below_step B4.out d5)
  have D5 := D4.keep d5
  have R5 := R4.keep d5
  have aM := B4.out.size
  have nMD := Nat.ne_of_lt D4.hb
  have oMD := Nat.ne_of_gt D4.hb
  have nMR := Nat.ne_of_lt R4.hb
  have oMR := Nat.ne_of_gt R4.hb
  have M5 : Bk3 w5 (w4.heap.size) (.int .i64 (Mo.mY y m n)) (.int .i64 (q + 1)) (.int .i64 0) := by rw [hw5]; exact ⟨by simp <;> omega, by intro j; simp [go_sem], by simp [go_sem], by simp [go_sem], by simp [go_sem]⟩
  clear D4 R4 d5 hw5 B4
  have cD_b := D5.hb
  have cD_f := D5.fz
  have cD_0 := D5.k0
  have cD_1 := D5.k1
  have cD_2 := D5.k2
  have cR_b := R5.hb
  have cR_f := R5.fz
  have cR_0 := R5.k0
  have cR_1 := R5.k1
  have cR_2 := R5.k2
  have cM_b := M5.hb
  have cM_f := M5.fz
  have cM_0 := M5.k0
  have cM_1 := M5.k1
  have cM_2 := M5.k2
  go_still_tail 9, (by kernel_rfl)
  still_call ((len_any _ _ _).mono fun _ _ ⟨a, b⟩ => ⟨a, b.symm⟩)
  repeat still_step
  refine wpStill_nil ?_
  go_wp2_with fail
  refine (right_any (Mo.mY y m n) (q + 1) (min d (Cal.len (Mo.mY y m n) (q + 1))) _).mono ?_; rintro e w6 ⟨rfl, b6⟩
  have hz := B5.out.size
  have B6 := Lib.hid (show Below w.heap.size w w6 from below_step (by repeat (first | exact B5.out | refine below_drewN ?_ _ | refine Below.drew ?_ | refine Below.setCell ?_ (by simp <;> omega) _ | refine Below.alloc ?_ (by simp <;> omega) _)) b6)
  have D6 : Bk3 w6 (w.heap.size) (.int .i64 y) (.int .i64 m) (.int .i64 d) := Bk3.of b6 (by simp <;> omega) (by intro j; simp [go_sem, cD_b, cD_f, cD_0, cD_1, cD_2, cR_b, cR_f, cR_0, cR_1, cR_2, cM_b, cM_f, cM_0, cM_1, cM_2, nMD, oMD, nMR, oMR]) (by simp [go_sem, cD_b, cD_f, cD_0, cD_1, cD_2, cR_b, cR_f, cR_0, cR_1, cR_2, cM_b, cM_f, cM_0, cM_1, cM_2, nMD, oMD, nMR, oMR]) (by simp [go_sem, cD_b, cD_f, cD_0, cD_1, cD_2, cR_b, cR_f, cR_0, cR_1, cR_2, cM_b, cM_f, cM_0, cM_1, cM_2, nMD, oMD, nMR, oMR]) (by simp [go_sem, cD_b, cD_f, cD_0, cD_1, cD_2, cR_b, cR_f, cR_0, cR_1, cR_2, cM_b, cM_f, cM_0, cM_1, cM_2, nMD, oMD, nMR, oMR])
  have R6 : Bk3 w6 (w.heap.size + 1) (.int .i64 0) (.int .i64 0) (.int .i64 0) := Bk3.of b6 (by simp <;> omega) (by intro j; simp [go_sem, cD_b, cD_f, cD_0, cD_1, cD_2, cR_b, cR_f, cR_0, cR_1, cR_2, cM_b, cM_f, cM_0, cM_1, cM_2, nMD, oMD, nMR, oMR]) (by simp [go_sem, cD_b, cD_f, cD_0, cD_1, cD_2, cR_b, cR_f, cR_0, cR_1, cR_2, cM_b, cM_f, cM_0, cM_1, cM_2, nMD, oMD, nMR, oMR]) (by simp [go_sem, cD_b, cD_f, cD_0, cD_1, cD_2, cR_b, cR_f, cR_0, cR_1, cR_2, cM_b, cM_f, cM_0, cM_1, cM_2, nMD, oMD, nMR, oMR]) (by simp [go_sem, cD_b, cD_f, cD_0, cD_1, cD_2, cR_b, cR_f, cR_0, cR_1, cR_2, cM_b, cM_f, cM_0, cM_1, cM_2, nMD, oMD, nMR, oMR])
  have M6 : Bk3 w6 (w4.heap.size) (.int .i64 (Mo.mY y m n)) (.int .i64 (q + 1)) (.int .i64 (min d (Cal.len (Mo.mY y m n) (q + 1)))) := Bk3.of b6 (by simp <;> omega) (by intro j; simp [go_sem, cD_b, cD_f, cD_0, cD_1, cD_2, cR_b, cR_f, cR_0, cR_1, cR_2, cM_b, cM_f, cM_0, cM_1, cM_2, nMD, oMD, nMR, oMR]) (by simp [go_sem, cD_b, cD_f, cD_0, cD_1, cD_2, cR_b, cR_f, cR_0, cR_1, cR_2, cM_b, cM_f, cM_0, cM_1, cM_2, nMD, oMD, nMR, oMR]) (by simp [go_sem, cD_b, cD_f, cD_0, cD_1, cD_2, cR_b, cR_f, cR_0, cR_1, cR_2, cM_b, cM_f, cM_0, cM_1, cM_2, nMD, oMD, nMR, oMR]) (by simp [go_sem, cD_b, cD_f, cD_0, cD_1, cD_2, cR_b, cR_f, cR_0, cR_1, cR_2, cM_b, cM_f, cM_0, cM_1, cM_2, nMD, oMD, nMR, oMR])
  clear b6 hz B5 D5 R5 M5 cD_b cD_f cD_0 cD_1 cD_2 cR_b cR_f cR_0 cR_1 cR_2 cM_b cM_f cM_0 cM_1 cM_2
  rw [MM.out] at M6 ⊢
  rw [show min d (Cal.len (Mo.mY y m n) (Mo.mM y m n)) = Mo.mD y m d n from rfl] at M6 ⊢
  rw [HOK.out]
  have cD_b := D6.hb
  have cD_f := D6.fz
  have cD_0 := D6.k0
  have cD_1 := D6.k1
  have cD_2 := D6.k2
  have cR_b := R6.hb
  have cR_f := R6.fz
  have cR_0 := R6.k0
  have cR_1 := R6.k1
  have cR_2 := R6.k2
  have cM_b := M6.hb
  have cM_f := M6.fz
  have cM_0 := M6.k0
  have cM_1 := M6.k1
  have cM_2 := M6.k2
  go_wp2_with fail
  refine bodyPost_ret (v := .tuple #[.agg #[.int .i64 0, .int .i64 0, .int .i64 0], .int .i64 1]) (by simp [results, Try.results24, go_sem, cD_b, cD_f, cD_0, cD_1, cD_2, cR_b, cR_f, cR_0, cR_1, cR_2, cM_b, cM_f, cM_0, cM_1, cM_2]) rfl ⟨rfl, ?_⟩
  clear cD_b cD_f cD_0 cD_1 cD_2 cR_b cR_f cR_0 cR_1 cR_2 cM_b cM_f cM_0 cM_1 cM_2
  exact (by have hz := B6.out.size; repeat (first | exact B6.out | refine below_drewN ?_ _ | refine Below.drew ?_ | refine Below.setCell ?_ (by simp <;> omega) _ | refine Below.alloc ?_ (by simp <;> omega) _))
set_option maxHeartbeats 2000000 in
theorem madd_yes (y m d n : Int) (w : World) (h : rightB y m d = true) (n0 : -9223372036854775808 ≤ y * 12 + m - 1 + n) (n1 : y * 12 + m - 1 + n ≤ 9223372036854775807) (k0 : -9223372036854775808 ≤ n) (k1 : n ≤ 9223372036854775807) (hok : rightB (Mo.mY y m n) (Mo.mM y m n) (Mo.mD y m d n) = true) :
    Calls Try.prog 24 #[.agg #[.int .i64 y, .int .i64 m, .int .i64 d], .int .i64 n] w fun e w' => e = .returned (.tuple #[.agg #[.int .i64 (Mo.mY y m n), .int .i64 (Mo.mM y m n), .int .i64 (Mo.mD y m d n)], .int .i64 0]) ∧ Below w.heap.size w w' := by
  have hr := right_true.1 h
  obtain ⟨m1, m2⟩ := Cal.month_of hr
  have y1 := hr.y0; have y2 := hr.y1
  have H := Lib.hid h
  have E := Lib.hid (Nm.ok_yes n0 n1)
  have HOK := Lib.hid hok
  clear h hr hok
  go_enter Try.func24, Try.ntmps24
  go_wp2_with fail
  refine (right_any y m d _).mono ?_; rintro e w1 ⟨rfl, b1⟩
  have d1 : Below w.heap.size w w1 := below_step (by repeat (first | exact Below.refl _ _ | refine below_drewN ?_ _ | refine Below.drew ?_ | refine Below.setCell ?_ (by simp) _ | refine Below.alloc ?_ (by simp) _)) b1
  have B1 := Lib.hid d1
  have D1 : Bk3 w1 (w.heap.size) (.int .i64 y) (.int .i64 m) (.int .i64 d) := Bk3.of b1 (by simp <;> omega) (by intro j; simp [go_sem]) (by simp [go_sem]) (by simp [go_sem]) (by simp [go_sem])
  have R1 : Bk3 w1 (w.heap.size + 1) (.int .i64 0) (.int .i64 0) (.int .i64 0) := Bk3.of b1 (by simp <;> omega) (by intro j; simp [go_sem]) (by simp [go_sem]) (by simp [go_sem]) (by simp [go_sem])
  clear b1 d1
  rw [H.out]
  have cD_b := D1.hb
  have cD_f := D1.fz
  have cD_0 := D1.k0
  have cD_1 := D1.k1
  have cD_2 := D1.k2
  have cR_b := R1.hb
  have cR_f := R1.fz
  have cR_0 := R1.k0
  have cR_1 := R1.k1
  have cR_2 := R1.k2
  go_wp2_with fail
  clear cD_b cD_f cD_0 cD_1 cD_2 cR_b cR_f cR_0 cR_1 cR_2
  refine (monthOf_any y m d _ (by omega) (by omega) (by omega) (by omega)).mono ?_; rintro e w2 ⟨rfl, b2⟩
  have d2 : Below w1.heap.size w1 w2 := below_step (by repeat (first | exact Below.refl _ _ | refine below_drewN ?_ _ | refine Below.drew ?_ | refine Below.setCell ?_ (by simp) _ | refine Below.alloc ?_ (by simp) _)) b2
  have B2 := Lib.hid (below_step B1.out d2)
  have D2 := D1.keep d2
  have R2 := R1.keep d2
  clear D1 R1 b2 d2 B1
  have cD_b := D2.hb
  have cD_f := D2.fz
  have cD_0 := D2.k0
  have cD_1 := D2.k1
  have cD_2 := D2.k2
  have cR_b := R2.hb
  have cR_f := R2.fz
  have cR_0 := R2.k0
  have cR_1 := R2.k1
  have cR_2 := R2.k2
  go_wp2_with fail
  clear cD_b cD_f cD_0 cD_1 cD_2 cR_b cR_f cR_0 cR_1 cR_2
  refine (nadd_b (y * 12 + m - 1) n _ (by omega) (by omega) k0 k1).mono ?_; rintro e w3 ⟨rfl, b3⟩
  have d3 : Below w2.heap.size w2 w3 := below_step (by repeat (first | exact Below.refl _ _ | refine below_drewN ?_ _ | refine Below.drew ?_ | refine Below.setCell ?_ (by simp) _ | refine Below.alloc ?_ (by simp) _)) b3
  have B3 := Lib.hid (below_step B2.out d3)
  have D3 := D2.keep d3
  have R3 := R2.keep d3
  clear D2 R2 b3 d3 B2
  rw [E.out.1, E.out.2]
  have cD_b := D3.hb
  have cD_f := D3.fz
  have cD_0 := D3.k0
  have cD_1 := D3.k1
  have cD_2 := D3.k2
  have cR_b := R3.hb
  have cR_f := R3.fz
  have cR_0 := R3.k0
  have cR_1 := R3.k1
  have cR_2 := R3.k2
  go_wp2_with fail
  clear cD_b cD_f cD_0 cD_1 cD_2 cR_b cR_f cR_0 cR_1 cR_2
  refine (ndiv_b (y * 12 + m - 1 + n) 12 _ n0 n1 (by decide) (by decide)).mono ?_; rintro e w4 ⟨rfl, b4⟩
  have d4 : Below w3.heap.size w3 w4 := below_step (by repeat (first | exact Below.refl _ _ | refine below_drewN ?_ _ | refine Below.drew ?_ | refine Below.setCell ?_ (by simp) _ | refine Below.alloc ?_ (by simp) _)) b4
  have B4 := Lib.hid (below_step B3.out d4)
  have D4 := D3.keep d4
  have R4 := R3.keep d4
  clear D3 R3 b4 d4 B3
  rw [show (y * 12 + m - 1 + n) / 12 = Mo.mY y m n from rfl]
  have q0 : 0 ≤ (y * 12 + m - 1 + n) % 12 := by omega
  have q1 : (y * 12 + m - 1 + n) % 12 < 12 := by omega
  have MM := Lib.hid (show (y * 12 + m - 1 + n) % 12 + 1 = Mo.mM y m n from rfl)
  generalize (y * 12 + m - 1 + n) % 12 = q at q0 q1 MM ⊢
  have cD_b := D4.hb
  have cD_f := D4.fz
  have cD_0 := D4.k0
  have cD_1 := D4.k1
  have cD_2 := D4.k2
  have cR_b := R4.hb
  have cR_f := R4.fz
  have cR_0 := R4.k0
  have cR_1 := R4.k1
  have cR_2 := R4.k2
  go_wp2_with fail
  clear cD_b cD_f cD_0 cD_1 cD_2 cR_b cR_f cR_0 cR_1 cR_2
  refine wp_named ?_; intro w5 hw5
  have d5 : Below w4.heap.size w4 w5 := by rw [hw5]; exact (by repeat (first | exact Below.refl _ _ | refine below_drewN ?_ _ | refine Below.drew ?_ | refine Below.setCell ?_ (by simp) _ | refine Below.alloc ?_ (by simp) _))
  have B5 := Lib.hid (below_step B4.out d5)
  have D5 := D4.keep d5
  have R5 := R4.keep d5
  have aM := B4.out.size
  have nMD := Nat.ne_of_lt D4.hb
  have oMD := Nat.ne_of_gt D4.hb
  have nMR := Nat.ne_of_lt R4.hb
  have oMR := Nat.ne_of_gt R4.hb
  have M5 : Bk3 w5 (w4.heap.size) (.int .i64 (Mo.mY y m n)) (.int .i64 (q + 1)) (.int .i64 0) := by rw [hw5]; exact ⟨by simp <;> omega, by intro j; simp [go_sem], by simp [go_sem], by simp [go_sem], by simp [go_sem]⟩
  clear D4 R4 d5 hw5 B4
  have cD_b := D5.hb
  have cD_f := D5.fz
  have cD_0 := D5.k0
  have cD_1 := D5.k1
  have cD_2 := D5.k2
  have cR_b := R5.hb
  have cR_f := R5.fz
  have cR_0 := R5.k0
  have cR_1 := R5.k1
  have cR_2 := R5.k2
  have cM_b := M5.hb
  have cM_f := M5.fz
  have cM_0 := M5.k0
  have cM_1 := M5.k1
  have cM_2 := M5.k2
  go_still_tail 9, (by kernel_rfl)
  still_call ((len_any _ _ _).mono fun _ _ ⟨a, b⟩ => ⟨a, b.symm⟩)
  repeat still_step
  refine wpStill_nil ?_
  go_wp2_with fail
  refine (right_any (Mo.mY y m n) (q + 1) (min d (Cal.len (Mo.mY y m n) (q + 1))) _).mono ?_; rintro e w6 ⟨rfl, b6⟩
  have hz := B5.out.size
  have B6 := Lib.hid (show Below w.heap.size w w6 from below_step (by repeat (first | exact B5.out | refine below_drewN ?_ _ | refine Below.drew ?_ | refine Below.setCell ?_ (by simp <;> omega) _ | refine Below.alloc ?_ (by simp <;> omega) _)) b6)
  have D6 : Bk3 w6 (w.heap.size) (.int .i64 y) (.int .i64 m) (.int .i64 d) := Bk3.of b6 (by simp <;> omega) (by intro j; simp [go_sem, cD_b, cD_f, cD_0, cD_1, cD_2, cR_b, cR_f, cR_0, cR_1, cR_2, cM_b, cM_f, cM_0, cM_1, cM_2, nMD, oMD, nMR, oMR]) (by simp [go_sem, cD_b, cD_f, cD_0, cD_1, cD_2, cR_b, cR_f, cR_0, cR_1, cR_2, cM_b, cM_f, cM_0, cM_1, cM_2, nMD, oMD, nMR, oMR]) (by simp [go_sem, cD_b, cD_f, cD_0, cD_1, cD_2, cR_b, cR_f, cR_0, cR_1, cR_2, cM_b, cM_f, cM_0, cM_1, cM_2, nMD, oMD, nMR, oMR]) (by simp [go_sem, cD_b, cD_f, cD_0, cD_1, cD_2, cR_b, cR_f, cR_0, cR_1, cR_2, cM_b, cM_f, cM_0, cM_1, cM_2, nMD, oMD, nMR, oMR])
  have R6 : Bk3 w6 (w.heap.size + 1) (.int .i64 0) (.int .i64 0) (.int .i64 0) := Bk3.of b6 (by simp <;> omega) (by intro j; simp [go_sem, cD_b, cD_f, cD_0, cD_1, cD_2, cR_b, cR_f, cR_0, cR_1, cR_2, cM_b, cM_f, cM_0, cM_1, cM_2, nMD, oMD, nMR, oMR]) (by simp [go_sem, cD_b, cD_f, cD_0, cD_1, cD_2, cR_b, cR_f, cR_0, cR_1, cR_2, cM_b, cM_f, cM_0, cM_1, cM_2, nMD, oMD, nMR, oMR]) (by simp [go_sem, cD_b, cD_f, cD_0, cD_1, cD_2, cR_b, cR_f, cR_0, cR_1, cR_2, cM_b, cM_f, cM_0, cM_1, cM_2, nMD, oMD, nMR, oMR]) (by simp [go_sem, cD_b, cD_f, cD_0, cD_1, cD_2, cR_b, cR_f, cR_0, cR_1, cR_2, cM_b, cM_f, cM_0, cM_1, cM_2, nMD, oMD, nMR, oMR])
  have M6 : Bk3 w6 (w4.heap.size) (.int .i64 (Mo.mY y m n)) (.int .i64 (q + 1)) (.int .i64 (min d (Cal.len (Mo.mY y m n) (q + 1)))) := Bk3.of b6 (by simp <;> omega) (by intro j; simp [go_sem, cD_b, cD_f, cD_0, cD_1, cD_2, cR_b, cR_f, cR_0, cR_1, cR_2, cM_b, cM_f, cM_0, cM_1, cM_2, nMD, oMD, nMR, oMR]) (by simp [go_sem, cD_b, cD_f, cD_0, cD_1, cD_2, cR_b, cR_f, cR_0, cR_1, cR_2, cM_b, cM_f, cM_0, cM_1, cM_2, nMD, oMD, nMR, oMR]) (by simp [go_sem, cD_b, cD_f, cD_0, cD_1, cD_2, cR_b, cR_f, cR_0, cR_1, cR_2, cM_b, cM_f, cM_0, cM_1, cM_2, nMD, oMD, nMR, oMR]) (by simp [go_sem, cD_b, cD_f, cD_0, cD_1, cD_2, cR_b, cR_f, cR_0, cR_1, cR_2, cM_b, cM_f, cM_0, cM_1, cM_2, nMD, oMD, nMR, oMR])
  clear b6 hz B5 D5 R5 M5 cD_b cD_f cD_0 cD_1 cD_2 cR_b cR_f cR_0 cR_1 cR_2 cM_b cM_f cM_0 cM_1 cM_2
  rw [MM.out] at M6 ⊢
  rw [show min d (Cal.len (Mo.mY y m n) (Mo.mM y m n)) = Mo.mD y m d n from rfl] at M6 ⊢
  rw [HOK.out]
  have cD_b := D6.hb
  have cD_f := D6.fz
  have cD_0 := D6.k0
  have cD_1 := D6.k1
  have cD_2 := D6.k2
  have cR_b := R6.hb
  have cR_f := R6.fz
  have cR_0 := R6.k0
  have cR_1 := R6.k1
  have cR_2 := R6.k2
  have cM_b := M6.hb
  have cM_f := M6.fz
  have cM_0 := M6.k0
  have cM_1 := M6.k1
  have cM_2 := M6.k2
  go_wp2_with fail
  refine bodyPost_ret (v := .tuple #[.agg #[.int .i64 (Mo.mY y m n), .int .i64 (Mo.mM y m n), .int .i64 (Mo.mD y m d n)], .int .i64 0]) (by simp [results, Try.results24, go_sem, cD_b, cD_f, cD_0, cD_1, cD_2, cR_b, cR_f, cR_0, cR_1, cR_2, cM_b, cM_f, cM_0, cM_1, cM_2]) rfl ⟨rfl, ?_⟩
  clear cD_b cD_f cD_0 cD_1 cD_2 cR_b cR_f cR_0 cR_1 cR_2 cM_b cM_f cM_0 cM_1 cM_2
  exact (by have hz := B6.out.size; repeat (first | exact B6.out | refine below_drewN ?_ _ | refine Below.drew ?_ | refine Below.setCell ?_ (by simp <;> omega) _ | refine Below.alloc ?_ (by simp <;> omega) _))

theorem madd_any (y m d n : Int) (w : World) (k0 : -9223372036854775808 ≤ n) (k1 : n ≤ 9223372036854775807) :
    Calls Try.prog 24 #[.agg #[.int .i64 y, .int .i64 m, .int .i64 d], .int .i64 n] w fun e w' => e = .returned (.tuple #[.agg #[.int .i64 (Cal.orz (Mo.mok y m d n) (Mo.mY y m n)), .int .i64 (Cal.orz (Mo.mok y m d n) (Mo.mM y m n)), .int .i64 (Cal.orz (Mo.mok y m d n) (Mo.mD y m d n))], .int .i64 (Cal.why (Mo.mok y m d n))]) ∧ Below w.heap.size w w' := by
  cases hr : rightB y m d
  · have e : Mo.mok y m d n = false := by unfold Mo.mok; rw [hr]; rfl
    rw [e]
    exact madd_notright y m d n w hr
  · by_cases ho : y * 12 + m - 1 + n < -9223372036854775808 ∨ 9223372036854775807 < y * 12 + m - 1 + n
    · have e : Mo.mok y m d n = false := by
        cases h : Mo.mok y m d n
        · rfl
        · have := Mo.mok_true.1 h
          unfold Mo.mY Mo.mN at this; omega
      rw [e]
      exact madd_over y m d n w hr k0 k1 ho
    · cases h : Mo.mok y m d n
      · refine madd_no y m d n w hr (by omega) (by omega) k0 k1 ?_
        cases h2 : rightB (Mo.mY y m n) (Mo.mM y m n) (Mo.mD y m d n)
        · rfl
        · have := right_true.1 h2
          have : Mo.mok y m d n = true := Mo.mok_true.2 ⟨hr, this.y0, this.y1⟩
          rw [h] at this; cases this
      · exact madd_yes y m d n w hr (by omega) (by omega) k0 k1 (Mo.moved_right h)
end Go.Proofs.Ytlehbnfocilcmab

