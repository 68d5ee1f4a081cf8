/- The contract of week.Of. -/
import Derived.Test.YtfcabofhlgmkjaaDoorWkA
import Derived.Test.YtfcabofhlgmkjaaDoorCivY
set_option linter.unusedVariables false
set_option linter.unusedSimpArgs false
namespace Go.Proofs.YtfcabofhlgmkjaaDoor
open Go.RowKit Go.Sort

namespace Wk
/-- The Thursday of a day's week. -/
def mid (n : Int) : Int := n + (4 - dow n)
def yd (n : Int) : Int := Cal.cum (Cal.dY n) (Cal.dM n) + Cal.dD n
def wy (n : Int) : Int := Cal.dY (mid n)
def wk (n : Int) : Int := (yd (mid n) - 1) / 7 + 1
def wok (y m d : Int) : Bool := rightB y m d && (Cal.hasD (mid (Cal.num y m d)) && rB (wy (Cal.num y m d)) (wk (Cal.num y m d)) (dow (Cal.num y m d)))
theorem mid_bd (n : Int) : n - 3 ≤ mid n ∧ mid n ≤ n + 3 := by have := dow_bd n; unfold mid; omega
theorem yd_bd {n : Int} (h : Cal.hasD n = true) : 1 ≤ yd n ∧ yd n ≤ 366 := by
  obtain ⟨a, b⟩ := Cal.hasD_true.1 h
  have r := Cal.date_right n a b
  obtain ⟨m1, m2⟩ := Cal.month_of r
  have := Cal.cum_bd (Cal.dY n) (Cal.dM n) m1 m2
  have := r.d0; have := r.d1; have := Cal.lp_01 (Cal.dY n)
  unfold yd; omega
end Wk

set_option maxHeartbeats 1000000 in
theorem wof_no (y m d : Int) (w : World) (h : rightB y m d = false) :
    Calls Tryd.prog 12 #[.agg #[.int .i64 y, .int .i64 m, .int .i64 d]] w fun e w' => e = .returned (.tuple #[.agg #[.int .i64 0, .int .i64 0, .int .i64 0], .int .i64 1]) ∧ Below w.heap.size w w' := by
  have H := Lib.hid h; clear h
  go_enter Tryd.func12, Tryd.ntmps12
  go_wp2_with fail
  refine (days_no y m d _ H.out).mono ?_; rintro e w1 ⟨rfl, b1⟩
  have d1 : Below w.heap.size w w1 := below_step (by repeat (first | exact Below.refl _ _ | refine below_drewN ?_ _ | refine Below.drew ?_ | refine Below.setCell ?_ (by first | (simp; done) | (simp; omega) | omega) _ | refine Below.alloc ?_ (by first | (simp; done) | (simp; omega) | omega) _)) b1
  have B1 := Lib.hid d1
  have D1 : Bk3 w1 (w.heap.size) (.int .i64 y) (.int .i64 m) (.int .i64 d) := Bk3.of b1 (by simp <;> omega) (by intro j; simp [go_sem]) (by simp [go_sem]) (by simp [go_sem]) (by simp [go_sem])
  have R1 : Bk3 w1 (w.heap.size + 1) (.int .i64 0) (.int .i64 0) (.int .i64 0) := Bk3.of b1 (by simp <;> omega) (by intro j; simp [go_sem]) (by simp [go_sem]) (by simp [go_sem]) (by simp [go_sem])
  clear b1 d1
  have cD_b := D1.hb
  have cD_f := D1.fz
  have cD_0 := D1.k0
  have cD_1 := D1.k1
  have cD_2 := D1.k2
  have cR_b := R1.hb
  have cR_f := R1.fz
  have cR_0 := R1.k0
  have cR_1 := R1.k1
  have cR_2 := R1.k2
  go_wp2_with fail
  refine bodyPost_ret (v := .tuple #[.agg #[.int .i64 0, .int .i64 0, .int .i64 0], .int .i64 1]) (by simp [results, Tryd.results12, go_sem, cD_b, cD_f, cD_0, cD_1, cD_2, cR_b, cR_f, cR_0, cR_1, cR_2]) rfl ⟨rfl, ?_⟩
  clear cD_b cD_f cD_0 cD_1 cD_2 cR_b cR_f cR_0 cR_1 cR_2
  exact (by have hz := B1.out.size; repeat (first | exact B1.out | refine below_drewN ?_ _ | refine Below.drew ?_ | refine Below.setCell ?_ (by first | omega | (simp; done) | (simp; omega)) _ | refine Below.alloc ?_ (by first | omega | (simp; done) | (simp; omega)) _))
set_option maxHeartbeats 1000000 in
theorem wof_out (y m d : Int) (w : World) (h : rightB y m d = true) (h2 : Cal.hasD (Wk.mid (Cal.num y m d)) = false) :
    Calls Tryd.prog 12 #[.agg #[.int .i64 y, .int .i64 m, .int .i64 d]] w fun e w' => e = .returned (.tuple #[.agg #[.int .i64 0, .int .i64 0, .int .i64 0], .int .i64 1]) ∧ Below w.heap.size w w' := by
  have r := Cal.num_range (right_true.1 h)
  have q := Wk.dow_bd (Cal.num y m d)
  have H := Lib.hid h; have H2 := Lib.hid h2
  clear h h2
  have M := Lib.hid (show Cal.num y m d + (4 - Wk.dow (Cal.num y m d)) = Wk.mid (Cal.num y m d) from rfl)
  go_enter Tryd.func12, Tryd.ntmps12
  go_wp2_with fail
  refine (days_yes y m d _ H.out).mono ?_; rintro e w1 ⟨rfl, b1⟩
  have d1 : Below w.heap.size w w1 := below_step (by repeat (first | exact Below.refl _ _ | refine below_drewN ?_ _ | refine Below.drew ?_ | refine Below.setCell ?_ (by first | (simp; done) | (simp; omega) | omega) _ | refine Below.alloc ?_ (by first | (simp; done) | (simp; omega) | omega) _)) b1
  have B1 := Lib.hid d1
  have D1 : Bk3 w1 (w.heap.size) (.int .i64 y) (.int .i64 m) (.int .i64 d) := Bk3.of b1 (by simp <;> omega) (by intro j; simp [go_sem]) (by simp [go_sem]) (by simp [go_sem]) (by simp [go_sem])
  have R1 : Bk3 w1 (w.heap.size + 1) (.int .i64 0) (.int .i64 0) (.int .i64 0) := Bk3.of b1 (by simp <;> omega) (by intro j; simp [go_sem]) (by simp [go_sem]) (by simp [go_sem]) (by simp [go_sem])
  clear b1 d1
  have cD_b := D1.hb
  have cD_f := D1.fz
  have cD_0 := D1.k0
  have cD_1 := D1.k1
  have cD_2 := D1.k2
  have cR_b := R1.hb
  have cR_f := R1.fz
  have cR_0 := R1.k0
  have cR_1 := R1.k1
  have cR_2 := R1.k2
  go_wp2_with fail
  clear cD_b cD_f cD_0 cD_1 cD_2 cR_b cR_f cR_0 cR_1 cR_2
  refine (dayOf_any (Cal.num y m d) _ (by omega) (by omega)).mono ?_; rintro e w2 ⟨rfl, b2⟩
  have d2 : Below w1.heap.size w1 w2 := below_step (by repeat (first | exact Below.refl _ _ | refine below_drewN ?_ _ | refine Below.drew ?_ | refine Below.setCell ?_ (by first | (simp; done) | (simp; omega) | omega) _ | refine Below.alloc ?_ (by first | (simp; done) | (simp; omega) | omega) _)) b2
  have B2 := Lib.hid (below_step B1.out d2)
  have D2 := D1.keep d2
  have R2 := R1.keep d2
  clear D1 R1 b2 d2 B1
  have cD_b := D2.hb
  have cD_f := D2.fz
  have cD_0 := D2.k0
  have cD_1 := D2.k1
  have cD_2 := D2.k2
  have cR_b := R2.hb
  have cR_f := R2.fz
  have cR_0 := R2.k0
  have cR_1 := R2.k1
  have cR_2 := R2.k2
  go_wp2_with fail
  clear cD_b cD_f cD_0 cD_1 cD_2 cR_b cR_f cR_0 cR_1 cR_2
  rw [M.out]
  refine (date_any (Wk.mid (Cal.num y m d)) _).mono ?_; rintro e w3 ⟨rfl, b3⟩
  have d3 : Below w2.heap.size w2 w3 := below_step (by repeat (first | exact Below.refl _ _ | refine below_drewN ?_ _ | refine Below.drew ?_ | refine Below.setCell ?_ (by first | (simp; done) | (simp; omega) | omega) _ | refine Below.alloc ?_ (by first | (simp; done) | (simp; omega) | omega) _)) b3
  have B3 := Lib.hid (below_step B2.out d3)
  have D3 := D2.keep d3
  have R3 := R2.keep d3
  clear D2 R2 b3 d3 B2
  rw [H2.out]
  simp only [Cal.orz, Cal.why, Bool.false_eq_true, if_false]
  have cD_b := D3.hb
  have cD_f := D3.fz
  have cD_0 := D3.k0
  have cD_1 := D3.k1
  have cD_2 := D3.k2
  have cR_b := R3.hb
  have cR_f := R3.fz
  have cR_0 := R3.k0
  have cR_1 := R3.k1
  have cR_2 := R3.k2
  go_wp2_with fail
  refine bodyPost_ret (v := .tuple #[.agg #[.int .i64 0, .int .i64 0, .int .i64 0], .int .i64 1]) (by simp [results, Tryd.results12, go_sem, cD_b, cD_f, cD_0, cD_1, cD_2, cR_b, cR_f, cR_0, cR_1, cR_2]) rfl ⟨rfl, ?_⟩
  clear cD_b cD_f cD_0 cD_1 cD_2 cR_b cR_f cR_0 cR_1 cR_2
  exact (by have hz := B3.out.size; repeat (first | exact B3.out | refine below_drewN ?_ _ | refine Below.drew ?_ | refine Below.setCell ?_ (by first | omega | (simp; done) | (simp; omega)) _ | refine Below.alloc ?_ (by first | omega | (simp; done) | (simp; omega)) _))
set_option maxHeartbeats 2000000 in
theorem wof_true (y m d : Int) (w : World) (h : rightB y m d = true) (h2 : Cal.hasD (Wk.mid (Cal.num y m d)) = true) (h3 : Wk.rB (Wk.wy (Cal.num y m d)) (Wk.wk (Cal.num y m d)) (Wk.dow (Cal.num y m d)) = true) :
    Calls Tryd.prog 12 #[.agg #[.int .i64 y, .int .i64 m, .int .i64 d]] w fun e w' => e = .returned (.tuple #[.agg #[.int .i64 (Cal.dY (Wk.mid (Cal.num y m d))), .int .i64 ((Wk.yd (Wk.mid (Cal.num y m d)) - 1) / 7 + 1), .int .i64 (Wk.dow (Cal.num y m d))], .int .i64 0]) ∧ Below w.heap.size w w' := by
  have r := Cal.num_range (right_true.1 h)
  have q := Wk.dow_bd (Cal.num y m d)
  have g := Cal.hasD_true.1 h2
  have X := Lib.hid (right_true.2 (Cal.date_right _ g.1 g.2))
  have yb := Wk.yd_bd h2
  have H := Lib.hid h; have H2 := Lib.hid h2; have H3 := Lib.hid h3
  clear h h2 h3
  have M := Lib.hid (show Cal.num y m d + (4 - Wk.dow (Cal.num y m d)) = Wk.mid (Cal.num y m d) from rfl)
  have YD := Lib.hid (show Cal.cum (Cal.dY (Wk.mid (Cal.num y m d))) (Cal.dM (Wk.mid (Cal.num y m d))) + Cal.dD (Wk.mid (Cal.num y m d)) = Wk.yd (Wk.mid (Cal.num y m d)) from rfl)
  have WK := Lib.hid (show (Wk.yd (Wk.mid (Cal.num y m d)) - 1) / 7 + 1 = Wk.wk (Cal.num y m d) from rfl)
  have WY := Lib.hid (show Cal.dY (Wk.mid (Cal.num y m d)) = Wk.wy (Cal.num y m d) from rfl)
  go_enter Tryd.func12, Tryd.ntmps12
  go_wp2_with fail
  refine (days_yes y m d _ H.out).mono ?_; rintro e w1 ⟨rfl, b1⟩
  have d1 : Below w.heap.size w w1 := below_step (by repeat (first | exact Below.refl _ _ | refine below_drewN ?_ _ | refine Below.drew ?_ | refine Below.setCell ?_ (by first | (simp; done) | (simp; omega) | omega) _ | refine Below.alloc ?_ (by first | (simp; done) | (simp; omega) | omega) _)) b1
  have B1 := Lib.hid d1
  have D1 : Bk3 w1 (w.heap.size) (.int .i64 y) (.int .i64 m) (.int .i64 d) := Bk3.of b1 (by simp <;> omega) (by intro j; simp [go_sem]) (by simp [go_sem]) (by simp [go_sem]) (by simp [go_sem])
  have R1 : Bk3 w1 (w.heap.size + 1) (.int .i64 0) (.int .i64 0) (.int .i64 0) := Bk3.of b1 (by simp <;> omega) (by intro j; simp [go_sem]) (by simp [go_sem]) (by simp [go_sem]) (by simp [go_sem])
  clear b1 d1
  have cD_b := D1.hb
  have cD_f := D1.fz
  have cD_0 := D1.k0
  have cD_1 := D1.k1
  have cD_2 := D1.k2
  have cR_b := R1.hb
  have cR_f := R1.fz
  have cR_0 := R1.k0
  have cR_1 := R1.k1
  have cR_2 := R1.k2
  go_wp2_with fail
  clear cD_b cD_f cD_0 cD_1 cD_2 cR_b cR_f cR_0 cR_1 cR_2
  refine (dayOf_any (Cal.num y m d) _ (by omega) (by omega)).mono ?_; rintro e w2 ⟨rfl, b2⟩
  have d2 : Below w1.heap.size w1 w2 := below_step (by repeat (first | exact Below.refl _ _ | refine below_drewN ?_ _ | refine Below.drew ?_ | refine Below.setCell ?_ (by first | (simp; done) | (simp; omega) | omega) _ | refine Below.alloc ?_ (by first | (simp; done) | (simp; omega) | omega) _)) b2
  have B2 := Lib.hid (below_step B1.out d2)
  have D2 := D1.keep d2
  have R2 := R1.keep d2
  clear D1 R1 b2 d2 B1
  have cD_b := D2.hb
  have cD_f := D2.fz
  have cD_0 := D2.k0
  have cD_1 := D2.k1
  have cD_2 := D2.k2
  have cR_b := R2.hb
  have cR_f := R2.fz
  have cR_0 := R2.k0
  have cR_1 := R2.k1
  have cR_2 := R2.k2
  go_wp2_with fail
  clear cD_b cD_f cD_0 cD_1 cD_2 cR_b cR_f cR_0 cR_1 cR_2
  rw [M.out]
  refine (date_any (Wk.mid (Cal.num y m d)) _).mono ?_; rintro e w3 ⟨rfl, b3⟩
  have d3 : Below w2.heap.size w2 w3 := below_step (by repeat (first | exact Below.refl _ _ | refine below_drewN ?_ _ | refine Below.drew ?_ | refine Below.setCell ?_ (by first | (simp; done) | (simp; omega) | omega) _ | refine Below.alloc ?_ (by first | (simp; done) | (simp; omega) | omega) _)) b3
  have B3 := Lib.hid (below_step B2.out d3)
  have D3 := D2.keep d3
  have R3 := R2.keep d3
  clear D2 R2 b3 d3 B2
  rw [H2.out]
  simp only [Cal.orz, Cal.why, if_true]
  have cD_b := D3.hb
  have cD_f := D3.fz
  have cD_0 := D3.k0
  have cD_1 := D3.k1
  have cD_2 := D3.k2
  have cR_b := R3.hb
  have cR_f := R3.fz
  have cR_0 := R3.k0
  have cR_1 := R3.k1
  have cR_2 := R3.k2
  go_wp2_with fail
  clear cD_b cD_f cD_0 cD_1 cD_2 cR_b cR_f cR_0 cR_1 cR_2
  refine (yearDay_yes _ _ _ _ X.out).mono ?_; rintro e w4 ⟨rfl, b4⟩
  have d4 : Below w3.heap.size w3 w4 := below_step (by repeat (first | exact Below.refl _ _ | refine below_drewN ?_ _ | refine Below.drew ?_ | refine Below.setCell ?_ (by first | (simp; done) | (simp; omega) | omega) _ | refine Below.alloc ?_ (by first | (simp; done) | (simp; omega) | omega) _)) b4
  have B4 := Lib.hid (below_step B3.out d4)
  have D4 := D3.keep d4
  have R4 := R3.keep d4
  have aX := B3.out.size
  have nXD := Nat.ne_of_lt D3.hb
  have oXD := Nat.ne_of_gt D3.hb
  have nXR := Nat.ne_of_lt R3.hb
  have oXR := Nat.ne_of_gt R3.hb
  have X4 : Bk3 w4 (w3.heap.size) (.int .i64 (Cal.dY (Wk.mid (Cal.num y m d)))) (.int .i64 (Cal.dM (Wk.mid (Cal.num y m d)))) (.int .i64 (Cal.dD (Wk.mid (Cal.num y m d)))) := Bk3.of b4 (by simp <;> omega) (by intro j; simp [go_sem]) (by simp [go_sem]) (by simp [go_sem]) (by simp [go_sem])
  clear D3 R3 b4 d4 B3
  rw [YD.out]
  have cD_b := D4.hb
  have cD_f := D4.fz
  have cD_0 := D4.k0
  have cD_1 := D4.k1
  have cD_2 := D4.k2
  have cR_b := R4.hb
  have cR_f := R4.fz
  have cR_0 := R4.k0
  have cR_1 := R4.k1
  have cR_2 := R4.k2
  have cX_b := X4.hb
  have cX_f := X4.fz
  have cX_0 := X4.k0
  have cX_1 := X4.k1
  have cX_2 := X4.k2
  go_wp2_with fail
  clear cD_b cD_f cD_0 cD_1 cD_2 cR_b cR_f cR_0 cR_1 cR_2 cX_b cX_f cX_0 cX_1 cX_2
  refine (wright_any (Cal.dY (Wk.mid (Cal.num y m d))) ((Wk.yd (Wk.mid (Cal.num y m d)) - 1) / 7 + 1) (Wk.dow (Cal.num y m d)) _).mono ?_; rintro e w5 ⟨rfl, b5⟩
  have d5 : Below w4.heap.size w4 w5 := below_step (by repeat (first | exact Below.refl _ _ | refine below_drewN ?_ _ | refine Below.drew ?_ | refine Below.setCell ?_ (by first | (simp; done) | (simp; omega) | omega) _ | refine Below.alloc ?_ (by first | (simp; done) | (simp; omega) | omega) _)) b5
  have B5 := Lib.hid (below_step B4.out d5)
  have D5 := D4.keep d5
  have R5 := R4.keep d5
  have X5 := X4.keep d5
  have aW := B4.out.size
  have nWD := Nat.ne_of_lt D4.hb
  have oWD := Nat.ne_of_gt D4.hb
  have nWR := Nat.ne_of_lt R4.hb
  have oWR := Nat.ne_of_gt R4.hb
  have nWX := Nat.ne_of_lt X4.hb
  have oWX := Nat.ne_of_gt X4.hb
  have W5 : Bk3 w5 (w4.heap.size) (.int .i64 (Cal.dY (Wk.mid (Cal.num y m d)))) (.int .i64 ((Wk.yd (Wk.mid (Cal.num y m d)) - 1) / 7 + 1)) (.int .i64 (Wk.dow (Cal.num y m d))) := Bk3.of b5 (by simp <;> omega) (by intro j; simp [go_sem]) (by simp [go_sem]) (by simp [go_sem]) (by simp [go_sem])
  clear D4 R4 X4 b5 d5 B4
  rw [show Wk.rB (Cal.dY (Wk.mid (Cal.num y m d))) ((Wk.yd (Wk.mid (Cal.num y m d)) - 1) / 7 + 1) (Wk.dow (Cal.num y m d)) = true from H3.out]
  have cD_b := D5.hb
  have cD_f := D5.fz
  have cD_0 := D5.k0
  have cD_1 := D5.k1
  have cD_2 := D5.k2
  have cR_b := R5.hb
  have cR_f := R5.fz
  have cR_0 := R5.k0
  have cR_1 := R5.k1
  have cR_2 := R5.k2
  have cX_b := X5.hb
  have cX_f := X5.fz
  have cX_0 := X5.k0
  have cX_1 := X5.k1
  have cX_2 := X5.k2
  have cW_b := W5.hb
  have cW_f := W5.fz
  have cW_0 := W5.k0
  have cW_1 := W5.k1
  have cW_2 := W5.k2
  go_wp2_with fail
  refine bodyPost_ret (v := .tuple #[.agg #[.int .i64 (Cal.dY (Wk.mid (Cal.num y m d))), .int .i64 ((Wk.yd (Wk.mid (Cal.num y m d)) - 1) / 7 + 1), .int .i64 (Wk.dow (Cal.num y m d))], .int .i64 0]) (by simp [results, Tryd.results12, go_sem, cD_b, cD_f, cD_0, cD_1, cD_2, cR_b, cR_f, cR_0, cR_1, cR_2, cX_b, cX_f, cX_0, cX_1, cX_2, cW_b, cW_f, cW_0, cW_1, cW_2]) rfl ⟨rfl, ?_⟩
  clear cD_b cD_f cD_0 cD_1 cD_2 cR_b cR_f cR_0 cR_1 cR_2 cX_b cX_f cX_0 cX_1 cX_2 cW_b cW_f cW_0 cW_1 cW_2
  exact (by have hz := B5.out.size; repeat (first | exact B5.out | refine below_drewN ?_ _ | refine Below.drew ?_ | refine Below.setCell ?_ (by first | omega | (simp; done) | (simp; omega)) _ | refine Below.alloc ?_ (by first | omega | (simp; done) | (simp; omega)) _))
set_option maxHeartbeats 2000000 in
theorem wof_false (y m d : Int) (w : World) (h : rightB y m d = true) (h2 : Cal.hasD (Wk.mid (Cal.num y m d)) = true) (h3 : Wk.rB (Wk.wy (Cal.num y m d)) (Wk.wk (Cal.num y m d)) (Wk.dow (Cal.num y m d)) = false) :
    Calls Tryd.prog 12 #[.agg #[.int .i64 y, .int .i64 m, .int .i64 d]] w fun e w' => e = .returned (.tuple #[.agg #[.int .i64 0, .int .i64 0, .int .i64 0], .int .i64 1]) ∧ Below w.heap.size w w' := by
  have r := Cal.num_range (right_true.1 h)
  have q := Wk.dow_bd (Cal.num y m d)
  have g := Cal.hasD_true.1 h2
  have X := Lib.hid (right_true.2 (Cal.date_right _ g.1 g.2))
  have yb := Wk.yd_bd h2
  have H := Lib.hid h; have H2 := Lib.hid h2; have H3 := Lib.hid h3
  clear h h2 h3
  have M := Lib.hid (show Cal.num y m d + (4 - Wk.dow (Cal.num y m d)) = Wk.mid (Cal.num y m d) from rfl)
  have YD := Lib.hid (show Cal.cum (Cal.dY (Wk.mid (Cal.num y m d))) (Cal.dM (Wk.mid (Cal.num y m d))) + Cal.dD (Wk.mid (Cal.num y m d)) = Wk.yd (Wk.mid (Cal.num y m d)) from rfl)
  have WK := Lib.hid (show (Wk.yd (Wk.mid (Cal.num y m d)) - 1) / 7 + 1 = Wk.wk (Cal.num y m d) from rfl)
  have WY := Lib.hid (show Cal.dY (Wk.mid (Cal.num y m d)) = Wk.wy (Cal.num y m d) from rfl)
  go_enter Tryd.func12, Tryd.ntmps12
  go_wp2_with fail
  refine (days_yes y m d _ H.out).mono ?_; rintro e w1 ⟨rfl, b1⟩
  have d1 : Below w.heap.size w w1 := below_step (by repeat (first | exact Below.refl _ _ | refine below_drewN ?_ _ | refine Below.drew ?_ | refine Below.setCell ?_ (by first | (simp; done) | (simp; omega) | omega) _ | refine Below.alloc ?_ (by first | (simp; done) | (simp; omega) | omega) _)) b1
  have B1 := Lib.hid d1
  have D1 : Bk3 w1 (w.heap.size) (.int .i64 y) (.int .i64 m) (.int .i64 d) := Bk3.of b1 (by simp <;> omega) (by intro j; simp [go_sem]) (by simp [go_sem]) (by simp [go_sem]) (by simp [go_sem])
  have R1 : Bk3 w1 (w.heap.size + 1) (.int .i64 0) (.int .i64 0) (.int .i64 0) := Bk3.of b1 (by simp <;> omega) (by intro j; simp [go_sem]) (by simp [go_sem]) (by simp [go_sem]) (by simp [go_sem])
  clear b1 d1
  have cD_b := D1.hb
  have cD_f := D1.fz
  have cD_0 := D1.k0
  have cD_1 := D1.k1
  have cD_2 := D1.k2
  have cR_b := R1.hb
  have cR_f := R1.fz
  have cR_0 := R1.k0
  have cR_1 := R1.k1
  have cR_2 := R1.k2
  go_wp2_with fail
  clear cD_b cD_f cD_0 cD_1 cD_2 cR_b cR_f cR_0 cR_1 cR_2
  refine (dayOf_any (Cal.num y m d) _ (by omega) (by omega)).mono ?_; rintro e w2 ⟨rfl, b2⟩
  have d2 : Below w1.heap.size w1 w2 := below_step (by repeat (first | exact Below.refl _ _ | refine below_drewN ?_ _ | refine Below.drew ?_ | refine Below.setCell ?_ (by first | (simp; done) | (simp; omega) | omega) _ | refine Below.alloc ?_ (by first | (simp; done) | (simp; omega) | omega) _)) b2
  have B2 := Lib.hid (below_step B1.out d2)
  have D2 := D1.keep d2
  have R2 := R1.keep d2
  clear D1 R1 b2 d2 B1
  have cD_b := D2.hb
  have cD_f := D2.fz
  have cD_0 := D2.k0
  have cD_1 := D2.k1
  have cD_2 := D2.k2
  have cR_b := R2.hb
  have cR_f := R2.fz
  have cR_0 := R2.k0
  have cR_1 := R2.k1
  have cR_2 := R2.k2
  go_wp2_with fail
  clear cD_b cD_f cD_0 cD_1 cD_2 cR_b cR_f cR_0 cR_1 cR_2
  rw [M.out]
  refine (date_any (Wk.mid (Cal.num y m d)) _).mono ?_; rintro e w3 ⟨rfl, b3⟩
  have d3 : Below w2.heap.size w2 w3 := below_step (by repeat (first | exact Below.refl _ _ | refine below_drewN ?_ _ | refine Below.drew ?_ | refine Below.setCell ?_ (by first | (simp; done) | (simp; omega) | omega) _ | refine Below.alloc ?_ (by first | (simp; done) | (simp; omega) | omega) _)) b3
  have B3 := Lib.hid (below_step B2.out d3)
  have D3 := D2.keep d3
  have R3 := R2.keep d3
  clear D2 R2 b3 d3 B2
  rw [H2.out]
  simp only [Cal.orz, Cal.why, if_true]
  have cD_b := D3.hb
  have cD_f := D3.fz
  have cD_0 := D3.k0
  have cD_1 := D3.k1
  have cD_2 := D3.k2
  have cR_b := R3.hb
  have cR_f := R3.fz
  have cR_0 := R3.k0
  have cR_1 := R3.k1
  have cR_2 := R3.k2
  go_wp2_with fail
  clear cD_b cD_f cD_0 cD_1 cD_2 cR_b cR_f cR_0 cR_1 cR_2
  refine (yearDay_yes _ _ _ _ X.out).mono ?_; rintro e w4 ⟨rfl, b4⟩
  have d4 : Below w3.heap.size w3 w4 := below_step (by repeat (first | exact Below.refl _ _ | refine below_drewN ?_ _ | refine Below.drew ?_ | refine Below.setCell ?_ (by first | (simp; done) | (simp; omega) | omega) _ | refine Below.alloc ?_ (by first | (simp; done) | (simp; omega) | omega) _)) b4
  have B4 := Lib.hid (below_step B3.out d4)
  have D4 := D3.keep d4
  have R4 := R3.keep d4
  have aX := B3.out.size
  have nXD := Nat.ne_of_lt D3.hb
  have oXD := Nat.ne_of_gt D3.hb
  have nXR := Nat.ne_of_lt R3.hb
  have oXR := Nat.ne_of_gt R3.hb
  have X4 : Bk3 w4 (w3.heap.size) (.int .i64 (Cal.dY (Wk.mid (Cal.num y m d)))) (.int .i64 (Cal.dM (Wk.mid (Cal.num y m d)))) (.int .i64 (Cal.dD (Wk.mid (Cal.num y m d)))) := Bk3.of b4 (by simp <;> omega) (by intro j; simp [go_sem]) (by simp [go_sem]) (by simp [go_sem]) (by simp [go_sem])
  clear D3 R3 b4 d4 B3
  rw [YD.out]
  have cD_b := D4.hb
  have cD_f := D4.fz
  have cD_0 := D4.k0
  have cD_1 := D4.k1
  have cD_2 := D4.k2
  have cR_b := R4.hb
  have cR_f := R4.fz
  have cR_0 := R4.k0
  have cR_1 := R4.k1
  have cR_2 := R4.k2
  have cX_b := X4.hb
  have cX_f := X4.fz
  have cX_0 := X4.k0
  have cX_1 := X4.k1
  have cX_2 := X4.k2
  go_wp2_with fail
  clear cD_b cD_f cD_0 cD_1 cD_2 cR_b cR_f cR_0 cR_1 cR_2 cX_b cX_f cX_0 cX_1 cX_2
  refine (wright_any (Cal.dY (Wk.mid (Cal.num y m d))) ((Wk.yd (Wk.mid (Cal.num y m d)) - 1) / 7 + 1) (Wk.dow (Cal.num y m d)) _).mono ?_; rintro e w5 ⟨rfl, b5⟩
  have d5 : Below w4.heap.size w4 w5 := below_step (by repeat (first | exact Below.refl _ _ | refine below_drewN ?_ _ | refine Below.drew ?_ | refine Below.setCell ?_ (by first | (simp; done) | (simp; omega) | omega) _ | refine Below.alloc ?_ (by first | (simp; done) | (simp; omega) | omega) _)) b5
  have B5 := Lib.hid (below_step B4.out d5)
  have D5 := D4.keep d5
  have R5 := R4.keep d5
  have X5 := X4.keep d5
  have aW := B4.out.size
  have nWD := Nat.ne_of_lt D4.hb
  have oWD := Nat.ne_of_gt D4.hb
  have nWR := Nat.ne_of_lt R4.hb
  have oWR := Nat.ne_of_gt R4.hb
  have nWX := Nat.ne_of_lt X4.hb
  have oWX := Nat.ne_of_gt X4.hb
  have W5 : Bk3 w5 (w4.heap.size) (.int .i64 (Cal.dY (Wk.mid (Cal.num y m d)))) (.int .i64 ((Wk.yd (Wk.mid (Cal.num y m d)) - 1) / 7 + 1)) (.int .i64 (Wk.dow (Cal.num y m d))) := Bk3.of b5 (by simp <;> omega) (by intro j; simp [go_sem]) (by simp [go_sem]) (by simp [go_sem]) (by simp [go_sem])
  clear D4 R4 X4 b5 d5 B4
  rw [show Wk.rB (Cal.dY (Wk.mid (Cal.num y m d))) ((Wk.yd (Wk.mid (Cal.num y m d)) - 1) / 7 + 1) (Wk.dow (Cal.num y m d)) = false from H3.out]
  have cD_b := D5.hb
  have cD_f := D5.fz
  have cD_0 := D5.k0
  have cD_1 := D5.k1
  have cD_2 := D5.k2
  have cR_b := R5.hb
  have cR_f := R5.fz
  have cR_0 := R5.k0
  have cR_1 := R5.k1
  have cR_2 := R5.k2
  have cX_b := X5.hb
  have cX_f := X5.fz
  have cX_0 := X5.k0
  have cX_1 := X5.k1
  have cX_2 := X5.k2
  have cW_b := W5.hb
  have cW_f := W5.fz
  have cW_0 := W5.k0
  have cW_1 := W5.k1
  have cW_2 := W5.k2
  go_wp2_with fail
  refine bodyPost_ret (v := .tuple #[.agg #[.int .i64 0, .int .i64 0, .int .i64 0], .int .i64 1]) (by simp [results, Tryd.results12, go_sem, cD_b, cD_f, cD_0, cD_1, cD_2, cR_b, cR_f, cR_0, cR_1, cR_2, cX_b, cX_f, cX_0, cX_1, cX_2, cW_b, cW_f, cW_0, cW_1, cW_2]) rfl ⟨rfl, ?_⟩
  clear cD_b cD_f cD_0 cD_1 cD_2 cR_b cR_f cR_0 cR_1 cR_2 cX_b cX_f cX_0 cX_1 cX_2 cW_b cW_f cW_0 cW_1 cW_2
  exact (by have hz := B5.out.size; repeat (first | exact B5.out | refine below_drewN ?_ _ | refine Below.drew ?_ | refine Below.setCell ?_ (by first | omega | (simp; done) | (simp; omega)) _ | refine Below.alloc ?_ (by first | omega | (simp; done) | (simp; omega)) _))
theorem wof_any (y m d : Int) (w : World) :
    Calls Tryd.prog 12 #[.agg #[.int .i64 y, .int .i64 m, .int .i64 d]] w fun e w' => e = .returned (.tuple #[.agg #[.int .i64 (Cal.orz (Wk.wok y m d) (Wk.wy (Cal.num y m d))), .int .i64 (Cal.orz (Wk.wok y m d) (Wk.wk (Cal.num y m d))), .int .i64 (Cal.orz (Wk.wok y m d) (Wk.dow (Cal.num y m d)))], .int .i64 (Cal.why (Wk.wok y m d))]) ∧ Below w.heap.size w w' := by
  cases h : rightB y m d
  · have e : Wk.wok y m d = false := by unfold Wk.wok; rw [h]; rfl
    rw [e]; exact wof_no y m d w h
  · cases h2 : Cal.hasD (Wk.mid (Cal.num y m d))
    · have e : Wk.wok y m d = false := by unfold Wk.wok; rw [h, h2]; rfl
      rw [e]; exact wof_out y m d w h h2
    · cases h3 : Wk.rB (Wk.wy (Cal.num y m d)) (Wk.wk (Cal.num y m d)) (Wk.dow (Cal.num y m d))
      · have e : Wk.wok y m d = false := by unfold Wk.wok; rw [h, h2, h3]; rfl
        rw [e]; exact wof_false y m d w h h2 h3
      · have e : Wk.wok y m d = true := by unfold Wk.wok; rw [h, h2, h3]; rfl
        rw [e]; exact wof_true y m d w h h2 h3
end Go.Proofs.YtfcabofhlgmkjaaDoor

