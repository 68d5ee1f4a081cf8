/- Spans of seconds: the contract of the reference's Move. -/
import Derived.Test.YtcmnfbbccacpcaaSpB
set_option linter.unusedVariables false
set_option linter.unusedSimpArgs false
namespace Go.Proofs.Ytcmnfbbccacpcaa
open Go.RowKit Go.Sort

set_option maxHeartbeats 1000000 in
theorem refmove_r (x0 x1 n : Int) (w : World) (h0 : -9223372036854775808 ≤ x0) (h1 : x0 ≤ 9223372036854775807) (k0 : -9223372036854775808 ≤ x1) (k1 : x1 ≤ 9223372036854775807) (n0 : -9223372036854775808 ≤ n) (n1 : n ≤ 9223372036854775807) (h : Sp.rb x0 x1 = false)  :
    Calls Try.prog 31 #[.agg #[.int .i64 x0, .int .i64 x1], .int .i64 n] w fun e w' => e = .returned (.tuple #[.agg #[.int .i64 0, .int .i64 0], .int .i64 1]) ∧ Below w.heap.size w w' := by
  have H := Lib.hid h; clear h
  skip
  go_enter Try.func31, Try.ntmps31
  go_wp2_with fail
  refine (ref_add x0 n _ h0 h1 n0 n1).mono ?_; rintro e w1 ⟨rfl, b1⟩
  have d1 : Below w.heap.size w w1 := below_step (by repeat (first | exact Below.refl _ _ | refine below_drewN ?_ _ | refine Below.drew ?_ | refine Below.setCell ?_ (by first | (simp; done) | (simp; omega) | omega) _ | refine Below.alloc ?_ (by first | (simp; done) | (simp; omega) | omega) _)) b1
  have B1 := Lib.hid d1
  have A1 : Bk2 w1 (w.heap.size) (.int .i64 x0) (.int .i64 x1) := Bk2.of b1 (by simp <;> omega) (by intro j; simp [go_sem]) (by simp [go_sem]) (by simp [go_sem])
  have R1 : Bk2 w1 (w.heap.size + 1) (.int .i64 0) (.int .i64 0) := Bk2.of b1 (by simp <;> omega) (by intro j; simp [go_sem]) (by simp [go_sem]) (by simp [go_sem])
  clear b1 d1
  generalize Nm.okv (x0 + n) = v1; generalize Nm.okw (x0 + n) = v2
  have cA_b := A1.hb
  have cA_f := A1.fz
  have cA_0 := A1.k0
  have cA_1 := A1.k1
  have cR_b := R1.hb
  have cR_f := R1.fz
  have cR_0 := R1.k0
  have cR_1 := R1.k1
  go_wp2_with fail
  clear cA_b cA_f cA_0 cA_1 cR_b cR_f cR_0 cR_1
  refine (ref_add x1 n _ k0 k1 n0 n1).mono ?_; rintro e w2 ⟨rfl, b2⟩
  have d2 : Below w1.heap.size w1 w2 := below_step (by repeat (first | exact Below.refl _ _ | refine below_drewN ?_ _ | refine Below.drew ?_ | refine Below.setCell ?_ (by first | (simp; done) | (simp; omega) | omega) _ | refine Below.alloc ?_ (by first | (simp; done) | (simp; omega) | omega) _)) b2
  have B2 := Lib.hid (below_step B1.out d2)
  have A2 := A1.keep d2
  have R2 := R1.keep d2
  clear A1 R1 b2 d2 B1
  generalize Nm.okv (x1 + n) = v3; generalize Nm.okw (x1 + n) = v4
  have cA_b := A2.hb
  have cA_f := A2.fz
  have cA_0 := A2.k0
  have cA_1 := A2.k1
  have cR_b := R2.hb
  have cR_f := R2.fz
  have cR_0 := R2.k0
  have cR_1 := R2.k1
  go_wp2_with fail
  clear cA_b cA_f cA_0 cA_1 cR_b cR_f cR_0 cR_1
  refine (noontideref10_right x0 x1 _).mono ?_; rintro e w3 ⟨rfl, b3⟩
  have d3 : Below w2.heap.size w2 w3 := below_step (by repeat (first | exact Below.refl _ _ | refine below_drewN ?_ _ | refine Below.drew ?_ | refine Below.setCell ?_ (by first | (simp; done) | (simp; omega) | omega) _ | refine Below.alloc ?_ (by first | (simp; done) | (simp; omega) | omega) _)) b3
  have B3 := Lib.hid (below_step B2.out d3)
  have A3 := A2.keep d3
  have R3 := R2.keep d3
  clear A2 R2 b3 d3 B2
  rw [H.out]
  have cA_b := A3.hb
  have cA_f := A3.fz
  have cA_0 := A3.k0
  have cA_1 := A3.k1
  have cR_b := R3.hb
  have cR_f := R3.fz
  have cR_0 := R3.k0
  have cR_1 := R3.k1
  go_wp2_with fail
  refine bodyPost_ret (v := .tuple #[.agg #[.int .i64 0, .int .i64 0], .int .i64 1]) (by simp [results, Try.results31, go_sem, cA_b, cA_f, cA_0, cA_1, cR_b, cR_f, cR_0, cR_1]) rfl ⟨rfl, ?_⟩
  clear cA_b cA_f cA_0 cA_1 cR_b cR_f cR_0 cR_1
  exact (by have hz := B3.out.size; repeat (first | exact B3.out | refine below_drewN ?_ _ | refine Below.drew ?_ | refine Below.setCell ?_ (by first | omega | (simp; done) | (simp; omega)) _ | refine Below.alloc ?_ (by first | omega | (simp; done) | (simp; omega)) _))
set_option maxHeartbeats 1000000 in
theorem refmove_1 (x0 x1 n : Int) (w : World) (h0 : -9223372036854775808 ≤ x0) (h1 : x0 ≤ 9223372036854775807) (k0 : -9223372036854775808 ≤ x1) (k1 : x1 ≤ 9223372036854775807) (n0 : -9223372036854775808 ≤ n) (n1 : n ≤ 9223372036854775807) (h : Sp.rb x0 x1 = true) (hn : Nm.okw (x0 + n) = 1) :
    Calls Try.prog 31 #[.agg #[.int .i64 x0, .int .i64 x1], .int .i64 n] w fun e w' => e = .returned (.tuple #[.agg #[.int .i64 0, .int .i64 0], .int .i64 1]) ∧ Below w.heap.size w w' := by
  have H := Lib.hid h; clear h
  have HN := Lib.hid (show (Nm.okw (x0 + n) = 1) from hn); clear hn
  go_enter Try.func31, Try.ntmps31
  go_wp2_with fail
  refine (ref_add x0 n _ h0 h1 n0 n1).mono ?_; rintro e w1 ⟨rfl, b1⟩
  have d1 : Below w.heap.size w w1 := below_step (by repeat (first | exact Below.refl _ _ | refine below_drewN ?_ _ | refine Below.drew ?_ | refine Below.setCell ?_ (by first | (simp; done) | (simp; omega) | omega) _ | refine Below.alloc ?_ (by first | (simp; done) | (simp; omega) | omega) _)) b1
  have B1 := Lib.hid d1
  have A1 : Bk2 w1 (w.heap.size) (.int .i64 x0) (.int .i64 x1) := Bk2.of b1 (by simp <;> omega) (by intro j; simp [go_sem]) (by simp [go_sem]) (by simp [go_sem])
  have R1 : Bk2 w1 (w.heap.size + 1) (.int .i64 0) (.int .i64 0) := Bk2.of b1 (by simp <;> omega) (by intro j; simp [go_sem]) (by simp [go_sem]) (by simp [go_sem])
  clear b1 d1
  rw [HN.out]; generalize Nm.okv (x0 + n) = v1
  have cA_b := A1.hb
  have cA_f := A1.fz
  have cA_0 := A1.k0
  have cA_1 := A1.k1
  have cR_b := R1.hb
  have cR_f := R1.fz
  have cR_0 := R1.k0
  have cR_1 := R1.k1
  go_wp2_with fail
  clear cA_b cA_f cA_0 cA_1 cR_b cR_f cR_0 cR_1
  refine (ref_add x1 n _ k0 k1 n0 n1).mono ?_; rintro e w2 ⟨rfl, b2⟩
  have d2 : Below w1.heap.size w1 w2 := below_step (by repeat (first | exact Below.refl _ _ | refine below_drewN ?_ _ | refine Below.drew ?_ | refine Below.setCell ?_ (by first | (simp; done) | (simp; omega) | omega) _ | refine Below.alloc ?_ (by first | (simp; done) | (simp; omega) | omega) _)) b2
  have B2 := Lib.hid (below_step B1.out d2)
  have A2 := A1.keep d2
  have R2 := R1.keep d2
  clear A1 R1 b2 d2 B1
  generalize Nm.okv (x1 + n) = v3; generalize Nm.okw (x1 + n) = v4
  have cA_b := A2.hb
  have cA_f := A2.fz
  have cA_0 := A2.k0
  have cA_1 := A2.k1
  have cR_b := R2.hb
  have cR_f := R2.fz
  have cR_0 := R2.k0
  have cR_1 := R2.k1
  go_wp2_with fail
  clear cA_b cA_f cA_0 cA_1 cR_b cR_f cR_0 cR_1
  refine (noontideref10_right x0 x1 _).mono ?_; rintro e w3 ⟨rfl, b3⟩
  have d3 : Below w2.heap.size w2 w3 := below_step (by repeat (first | exact Below.refl _ _ | refine below_drewN ?_ _ | refine Below.drew ?_ | refine Below.setCell ?_ (by first | (simp; done) | (simp; omega) | omega) _ | refine Below.alloc ?_ (by first | (simp; done) | (simp; omega) | omega) _)) b3
  have B3 := Lib.hid (below_step B2.out d3)
  have A3 := A2.keep d3
  have R3 := R2.keep d3
  clear A2 R2 b3 d3 B2
  rw [H.out]
  have cA_b := A3.hb
  have cA_f := A3.fz
  have cA_0 := A3.k0
  have cA_1 := A3.k1
  have cR_b := R3.hb
  have cR_f := R3.fz
  have cR_0 := R3.k0
  have cR_1 := R3.k1
  go_wp2_with fail
  refine bodyPost_ret (v := .tuple #[.agg #[.int .i64 0, .int .i64 0], .int .i64 1]) (by simp [results, Try.results31, go_sem, cA_b, cA_f, cA_0, cA_1, cR_b, cR_f, cR_0, cR_1]) rfl ⟨rfl, ?_⟩
  clear cA_b cA_f cA_0 cA_1 cR_b cR_f cR_0 cR_1
  exact (by have hz := B3.out.size; repeat (first | exact B3.out | refine below_drewN ?_ _ | refine Below.drew ?_ | refine Below.setCell ?_ (by first | omega | (simp; done) | (simp; omega)) _ | refine Below.alloc ?_ (by first | omega | (simp; done) | (simp; omega)) _))
set_option maxHeartbeats 1000000 in
theorem refmove_2 (x0 x1 n : Int) (w : World) (h0 : -9223372036854775808 ≤ x0) (h1 : x0 ≤ 9223372036854775807) (k0 : -9223372036854775808 ≤ x1) (k1 : x1 ≤ 9223372036854775807) (n0 : -9223372036854775808 ≤ n) (n1 : n ≤ 9223372036854775807) (h : Sp.rb x0 x1 = true) (hn : Nm.okw (x0 + n) = 0) (hm : Nm.okw (x1 + n) = 1) :
    Calls Try.prog 31 #[.agg #[.int .i64 x0, .int .i64 x1], .int .i64 n] w fun e w' => e = .returned (.tuple #[.agg #[.int .i64 0, .int .i64 0], .int .i64 1]) ∧ Below w.heap.size w w' := by
  have H := Lib.hid h; clear h
  have HN := Lib.hid hn; have HM := Lib.hid hm; clear hn hm
  go_enter Try.func31, Try.ntmps31
  go_wp2_with fail
  refine (ref_add x0 n _ h0 h1 n0 n1).mono ?_; rintro e w1 ⟨rfl, b1⟩
  have d1 : Below w.heap.size w w1 := below_step (by repeat (first | exact Below.refl _ _ | refine below_drewN ?_ _ | refine Below.drew ?_ | refine Below.setCell ?_ (by first | (simp; done) | (simp; omega) | omega) _ | refine Below.alloc ?_ (by first | (simp; done) | (simp; omega) | omega) _)) b1
  have B1 := Lib.hid d1
  have A1 : Bk2 w1 (w.heap.size) (.int .i64 x0) (.int .i64 x1) := Bk2.of b1 (by simp <;> omega) (by intro j; simp [go_sem]) (by simp [go_sem]) (by simp [go_sem])
  have R1 : Bk2 w1 (w.heap.size + 1) (.int .i64 0) (.int .i64 0) := Bk2.of b1 (by simp <;> omega) (by intro j; simp [go_sem]) (by simp [go_sem]) (by simp [go_sem])
  clear b1 d1
  rw [HN.out]; generalize Nm.okv (x0 + n) = v1
  have cA_b := A1.hb
  have cA_f := A1.fz
  have cA_0 := A1.k0
  have cA_1 := A1.k1
  have cR_b := R1.hb
  have cR_f := R1.fz
  have cR_0 := R1.k0
  have cR_1 := R1.k1
  go_wp2_with fail
  clear cA_b cA_f cA_0 cA_1 cR_b cR_f cR_0 cR_1
  refine (ref_add x1 n _ k0 k1 n0 n1).mono ?_; rintro e w2 ⟨rfl, b2⟩
  have d2 : Below w1.heap.size w1 w2 := below_step (by repeat (first | exact Below.refl _ _ | refine below_drewN ?_ _ | refine Below.drew ?_ | refine Below.setCell ?_ (by first | (simp; done) | (simp; omega) | omega) _ | refine Below.alloc ?_ (by first | (simp; done) | (simp; omega) | omega) _)) b2
  have B2 := Lib.hid (below_step B1.out d2)
  have A2 := A1.keep d2
  have R2 := R1.keep d2
  clear A1 R1 b2 d2 B1
  rw [HM.out]; generalize Nm.okv (x1 + n) = v3
  have cA_b := A2.hb
  have cA_f := A2.fz
  have cA_0 := A2.k0
  have cA_1 := A2.k1
  have cR_b := R2.hb
  have cR_f := R2.fz
  have cR_0 := R2.k0
  have cR_1 := R2.k1
  go_wp2_with fail
  clear cA_b cA_f cA_0 cA_1 cR_b cR_f cR_0 cR_1
  refine (noontideref10_right x0 x1 _).mono ?_; rintro e w3 ⟨rfl, b3⟩
  have d3 : Below w2.heap.size w2 w3 := below_step (by repeat (first | exact Below.refl _ _ | refine below_drewN ?_ _ | refine Below.drew ?_ | refine Below.setCell ?_ (by first | (simp; done) | (simp; omega) | omega) _ | refine Below.alloc ?_ (by first | (simp; done) | (simp; omega) | omega) _)) b3
  have B3 := Lib.hid (below_step B2.out d3)
  have A3 := A2.keep d3
  have R3 := R2.keep d3
  clear A2 R2 b3 d3 B2
  rw [H.out]
  have cA_b := A3.hb
  have cA_f := A3.fz
  have cA_0 := A3.k0
  have cA_1 := A3.k1
  have cR_b := R3.hb
  have cR_f := R3.fz
  have cR_0 := R3.k0
  have cR_1 := R3.k1
  go_wp2_with fail
  refine bodyPost_ret (v := .tuple #[.agg #[.int .i64 0, .int .i64 0], .int .i64 1]) (by simp [results, Try.results31, go_sem, cA_b, cA_f, cA_0, cA_1, cR_b, cR_f, cR_0, cR_1]) rfl ⟨rfl, ?_⟩
  clear cA_b cA_f cA_0 cA_1 cR_b cR_f cR_0 cR_1
  exact (by have hz := B3.out.size; repeat (first | exact B3.out | refine below_drewN ?_ _ | refine Below.drew ?_ | refine Below.setCell ?_ (by first | omega | (simp; done) | (simp; omega)) _ | refine Below.alloc ?_ (by first | omega | (simp; done) | (simp; omega)) _))
set_option maxHeartbeats 1000000 in
theorem refmove_3 (x0 x1 n : Int) (w : World) (h0 : -9223372036854775808 ≤ x0) (h1 : x0 ≤ 9223372036854775807) (k0 : -9223372036854775808 ≤ x1) (k1 : x1 ≤ 9223372036854775807) (n0 : -9223372036854775808 ≤ n) (n1 : n ≤ 9223372036854775807) (h : Sp.rb x0 x1 = true) (hn : Nm.okv (x0 + n) = x0 + n ∧ Nm.okw (x0 + n) = 0) (hm : Nm.okv (x1 + n) = x1 + n ∧ Nm.okw (x1 + n) = 0) :
    Calls Try.prog 31 #[.agg #[.int .i64 x0, .int .i64 x1], .int .i64 n] w fun e w' => e = .returned (.tuple #[.agg #[.int .i64 (x0 + n), .int .i64 (x1 + n)], .int .i64 0]) ∧ Below w.heap.size w w' := by
  have H := Lib.hid h; clear h
  have HN := Lib.hid hn; have HM := Lib.hid hm; clear hn hm
  go_enter Try.func31, Try.ntmps31
  go_wp2_with fail
  refine (ref_add x0 n _ h0 h1 n0 n1).mono ?_; rintro e w1 ⟨rfl, b1⟩
  have d1 : Below w.heap.size w w1 := below_step (by repeat (first | exact Below.refl _ _ | refine below_drewN ?_ _ | refine Below.drew ?_ | refine Below.setCell ?_ (by first | (simp; done) | (simp; omega) | omega) _ | refine Below.alloc ?_ (by first | (simp; done) | (simp; omega) | omega) _)) b1
  have B1 := Lib.hid d1
  have A1 : Bk2 w1 (w.heap.size) (.int .i64 x0) (.int .i64 x1) := Bk2.of b1 (by simp <;> omega) (by intro j; simp [go_sem]) (by simp [go_sem]) (by simp [go_sem])
  have R1 : Bk2 w1 (w.heap.size + 1) (.int .i64 0) (.int .i64 0) := Bk2.of b1 (by simp <;> omega) (by intro j; simp [go_sem]) (by simp [go_sem]) (by simp [go_sem])
  clear b1 d1
  rw [HN.out.1, HN.out.2]
  have cA_b := A1.hb
  have cA_f := A1.fz
  have cA_0 := A1.k0
  have cA_1 := A1.k1
  have cR_b := R1.hb
  have cR_f := R1.fz
  have cR_0 := R1.k0
  have cR_1 := R1.k1
  go_wp2_with fail
  clear cA_b cA_f cA_0 cA_1 cR_b cR_f cR_0 cR_1
  refine (ref_add x1 n _ k0 k1 n0 n1).mono ?_; rintro e w2 ⟨rfl, b2⟩
  have d2 : Below w1.heap.size w1 w2 := below_step (by repeat (first | exact Below.refl _ _ | refine below_drewN ?_ _ | refine Below.drew ?_ | refine Below.setCell ?_ (by first | (simp; done) | (simp; omega) | omega) _ | refine Below.alloc ?_ (by first | (simp; done) | (simp; omega) | omega) _)) b2
  have B2 := Lib.hid (below_step B1.out d2)
  have A2 := A1.keep d2
  have R2 := R1.keep d2
  clear A1 R1 b2 d2 B1
  rw [HM.out.1, HM.out.2]
  have cA_b := A2.hb
  have cA_f := A2.fz
  have cA_0 := A2.k0
  have cA_1 := A2.k1
  have cR_b := R2.hb
  have cR_f := R2.fz
  have cR_0 := R2.k0
  have cR_1 := R2.k1
  go_wp2_with fail
  clear cA_b cA_f cA_0 cA_1 cR_b cR_f cR_0 cR_1
  refine (noontideref10_right x0 x1 _).mono ?_; rintro e w3 ⟨rfl, b3⟩
  have d3 : Below w2.heap.size w2 w3 := below_step (by repeat (first | exact Below.refl _ _ | refine below_drewN ?_ _ | refine Below.drew ?_ | refine Below.setCell ?_ (by first | (simp; done) | (simp; omega) | omega) _ | refine Below.alloc ?_ (by first | (simp; done) | (simp; omega) | omega) _)) b3
  have B3 := Lib.hid (below_step B2.out d3)
  have A3 := A2.keep d3
  have R3 := R2.keep d3
  clear A2 R2 b3 d3 B2
  rw [H.out]
  have cA_b := A3.hb
  have cA_f := A3.fz
  have cA_0 := A3.k0
  have cA_1 := A3.k1
  have cR_b := R3.hb
  have cR_f := R3.fz
  have cR_0 := R3.k0
  have cR_1 := R3.k1
  go_wp2_with fail
  refine bodyPost_ret (v := .tuple #[.agg #[.int .i64 (x0 + n), .int .i64 (x1 + n)], .int .i64 0]) (by simp [results, Try.results31, go_sem, cA_b, cA_f, cA_0, cA_1, cR_b, cR_f, cR_0, cR_1]) rfl ⟨rfl, ?_⟩
  clear cA_b cA_f cA_0 cA_1 cR_b cR_f cR_0 cR_1
  exact (by have hz := B3.out.size; repeat (first | exact B3.out | refine below_drewN ?_ _ | refine Below.drew ?_ | refine Below.setCell ?_ (by first | omega | (simp; done) | (simp; omega)) _ | refine Below.alloc ?_ (by first | omega | (simp; done) | (simp; omega)) _))
theorem noontideref10_move (x0 x1 n : Int) (w : World) (h0 : -9223372036854775808 ≤ x0) (h1 : x0 ≤ 9223372036854775807) (k0 : -9223372036854775808 ≤ x1) (k1 : x1 ≤ 9223372036854775807) (n0 : -9223372036854775808 ≤ n) (n1 : n ≤ 9223372036854775807) :
    Calls Try.prog 31 #[.agg #[.int .i64 x0, .int .i64 x1], .int .i64 n] w fun e w' => e = .returned (.tuple #[.agg #[.int .i64 (Sp.bz (Sp.mv x0 x1 n) (x0 + n)), .int .i64 (Sp.bz (Sp.mv x0 x1 n) (x1 + n))], .int .i64 (Sp.why (Sp.mv x0 x1 n))]) ∧ Below w.heap.size w w' := by
  cases h : Sp.rb x0 x1
  · rw [show Sp.mv x0 x1 n = false by unfold Sp.mv; rw [h]; rfl]
    exact refmove_r x0 x1 n w h0 h1 k0 k1 n0 n1 h
  · rcases okw_01 (x0 + n) with ⟨f, e⟩ | ⟨f, e⟩
    · rcases okw_01 (x1 + n) with ⟨f2, e2⟩ | ⟨f2, e2⟩
      · rw [show Sp.mv x0 x1 n = true by unfold Sp.mv; rw [h, f, f2]; rfl]
        exact refmove_3 x0 x1 n w h0 h1 k0 k1 n0 n1 h e e2
      · rw [show Sp.mv x0 x1 n = false by unfold Sp.mv; rw [h, f, f2]; rfl]
        exact refmove_2 x0 x1 n w h0 h1 k0 k1 n0 n1 h e.2 e2
    · rw [show Sp.mv x0 x1 n = false by unfold Sp.mv; rw [h, f]; rfl]
      exact refmove_1 x0 x1 n w h0 h1 k0 k1 n0 n1 h e
end Go.Proofs.Ytcmnfbbccacpcaa

