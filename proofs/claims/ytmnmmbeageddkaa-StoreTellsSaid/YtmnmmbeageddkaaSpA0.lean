/- Spans of seconds: the contracts of span's Right, Has, Both. -/
import Derived.Test.YtmnmmbeageddkaaBk
import Derived.Lib.MinMax
set_option linter.unusedVariables false
set_option linter.unusedSimpArgs false
namespace Go.Proofs.Ytmnmmbeageddkaa
open Go.RowKit Go.Sort

namespace Sp
def rb (a b : Int) : Bool := decide (a < b)
def hs (a b t : Int) : Bool := decide (a ≤ t ∧ t < b)
/-- A second lies in both. -/
def mt (x0 x1 y0 y1 : Int) : Bool := decide (max x0 y0 < min x1 y1)
def tc (x0 x1 y0 y1 : Int) : Bool := decide (x0 < x1 ∧ y0 < y1 ∧ (x1 = y0 ∨ y1 = x0))
def bz (m : Bool) (x : Int) : Int := if m then x else 0
end Sp
set_option maxHeartbeats 1000000 in
theorem span_right (x0 x1 : Int) (w : World) :
    Calls Try.prog 37 #[.agg #[.int .i64 x0, .int .i64 x1]] w fun e w' => e = .returned (.bool (Sp.rb x0 x1)) ∧ Below w.heap.size w w' := by
  go_enter Try.func37, Try.ntmps37
  go_wp2
  go_ret
  exact ⟨rfl, by go_grown⟩
set_option maxHeartbeats 1000000 in
theorem noontideref10_right (x0 x1 : Int) (w : World) :
    Calls Try.prog 41 #[.agg #[.int .i64 x0, .int .i64 x1]] w fun e w' => e = .returned (.bool (Sp.rb x0 x1)) ∧ Below w.heap.size w w' := by
  go_enter Try.func41, Try.ntmps41
  go_wp2
  go_ret
  exact ⟨rfl, by go_grown⟩
set_option maxHeartbeats 1000000 in
theorem span_has (x0 x1 t : Int) (w : World) :
    Calls Try.prog 35 #[.agg #[.int .i64 x0, .int .i64 x1], .int .i64 t] w fun e w' => e = .returned (.bool (Sp.hs x0 x1 t)) ∧ Below w.heap.size w w' := by
  by_cases h : x0 ≤ t
  · by_cases h2 : t < x1
    · rw [show Sp.hs x0 x1 t = true from decide_eq_true ⟨h, h2⟩]
      go_enter Try.func35, Try.ntmps35
      go_wp2
      go_ret
      exact ⟨rfl, by go_grown⟩
    · rw [show Sp.hs x0 x1 t = false from decide_eq_false (by omega)]
      have h3 : decide (t < x1) = false := decide_eq_false h2
      clear h2
      go_enter Try.func35, Try.ntmps35
      go_wp2
      go_ret
      exact ⟨rfl, by go_grown⟩
  · rw [show Sp.hs x0 x1 t = false from decide_eq_false (by omega)]
    have h3 : decide (x0 ≤ t) = false := decide_eq_false h
    clear h
    go_enter Try.func35, Try.ntmps35
    go_wp2
    go_ret
    exact ⟨rfl, by go_grown⟩
set_option maxHeartbeats 1000000 in
theorem span_both_false (x0 x1 y0 y1 : Int) (w : World) (h : Sp.mt x0 x1 y0 y1 = false) :
    Calls Try.prog 59 #[.agg #[.int .i64 x0, .int .i64 x1], .agg #[.int .i64 y0, .int .i64 y1]] w fun e w' => e = .returned (.tuple #[.agg #[.int .i64 0, .int .i64 0], .bool false]) ∧ Below w.heap.size w w' := by
  have H := Lib.hid h; clear h
  go_enter Try.func59, Try.ntmps59
  go_wp2_with fail
  refine (span_right (max x0 y0) (min x1 y1) _).mono ?_; rintro e w1 ⟨rfl, b1⟩
  have d1 : Below w.heap.size w w1 := below_step (by repeat (first | exact Below.refl _ _ | refine below_drewN ?_ _ | refine Below.drew ?_ | refine Below.setCell ?_ (by first | (simp; done) | (simp; omega) | omega) _ | refine Below.alloc ?_ (by first | (simp; done) | (simp; omega) | omega) _)) b1
  have B1 := Lib.hid d1
  have A1 : Bk2 w1 (w.heap.size) (.int .i64 x0) (.int .i64 x1) := Bk2.of b1 (by simp <;> omega) (by intro j; simp [go_sem]) (by simp [go_sem]) (by simp [go_sem])
  have Bb1 : Bk2 w1 (w.heap.size + 1) (.int .i64 y0) (.int .i64 y1) := Bk2.of b1 (by simp <;> omega) (by intro j; simp [go_sem]) (by simp [go_sem]) (by simp [go_sem])
  have R1 : Bk2 w1 (w.heap.size + 2) (.int .i64 0) (.int .i64 0) := Bk2.of b1 (by simp <;> omega) (by intro j; simp [go_sem]) (by simp [go_sem]) (by simp [go_sem])
  have L1 : Bk2 w1 (w.heap.size + 3) (.int .i64 (max x0 y0)) (.int .i64 (min x1 y1)) := Bk2.of b1 (by simp <;> omega) (by intro j; simp [go_sem]) (by simp [go_sem]) (by simp [go_sem])
  clear b1 d1
  rw [show Sp.rb (max x0 y0) (min x1 y1) = false from H.out]
  have cA_b := A1.hb
  have cA_f := A1.fz
  have cA_0 := A1.k0
  have cA_1 := A1.k1
  have cBb_b := Bb1.hb
  have cBb_f := Bb1.fz
  have cBb_0 := Bb1.k0
  have cBb_1 := Bb1.k1
  have cR_b := R1.hb
  have cR_f := R1.fz
  have cR_0 := R1.k0
  have cR_1 := R1.k1
  have cL_b := L1.hb
  have cL_f := L1.fz
  have cL_0 := L1.k0
  have cL_1 := L1.k1
  go_wp2_with fail
  refine bodyPost_ret (v := .tuple #[.agg #[.int .i64 0, .int .i64 0], .bool false]) (by simp [results, Try.results59, go_sem, cA_b, cA_f, cA_0, cA_1, cBb_b, cBb_f, cBb_0, cBb_1, cR_b, cR_f, cR_0, cR_1, cL_b, cL_f, cL_0, cL_1]) rfl ⟨rfl, ?_⟩
  clear cA_b cA_f cA_0 cA_1 cBb_b cBb_f cBb_0 cBb_1 cR_b cR_f cR_0 cR_1 cL_b cL_f cL_0 cL_1
  exact (by have hz := B1.out.size; repeat (first | exact B1.out | refine below_drewN ?_ _ | refine Below.drew ?_ | refine Below.setCell ?_ (by first | omega | (simp; done) | (simp; omega)) _ | refine Below.alloc ?_ (by first | omega | (simp; done) | (simp; omega)) _))
set_option maxHeartbeats 1000000 in
theorem span_both_true (x0 x1 y0 y1 : Int) (w : World) (h : Sp.mt x0 x1 y0 y1 = true) :
    Calls Try.prog 59 #[.agg #[.int .i64 x0, .int .i64 x1], .agg #[.int .i64 y0, .int .i64 y1]] w fun e w' => e = .returned (.tuple #[.agg #[.int .i64 (max x0 y0), .int .i64 (min x1 y1)], .bool true]) ∧ Below w.heap.size w w' := by
  have H := Lib.hid h; clear h
  go_enter Try.func59, Try.ntmps59
  go_wp2_with fail
  refine (span_right (max x0 y0) (min x1 y1) _).mono ?_; rintro e w1 ⟨rfl, b1⟩
  have d1 : Below w.heap.size w w1 := below_step (by repeat (first | exact Below.refl _ _ | refine below_drewN ?_ _ | refine Below.drew ?_ | refine Below.setCell ?_ (by first | (simp; done) | (simp; omega) | omega) _ | refine Below.alloc ?_ (by first | (simp; done) | (simp; omega) | omega) _)) b1
  have B1 := Lib.hid d1
  have A1 : Bk2 w1 (w.heap.size) (.int .i64 x0) (.int .i64 x1) := Bk2.of b1 (by simp <;> omega) (by intro j; simp [go_sem]) (by simp [go_sem]) (by simp [go_sem])
  have Bb1 : Bk2 w1 (w.heap.size + 1) (.int .i64 y0) (.int .i64 y1) := Bk2.of b1 (by simp <;> omega) (by intro j; simp [go_sem]) (by simp [go_sem]) (by simp [go_sem])
  have R1 : Bk2 w1 (w.heap.size + 2) (.int .i64 0) (.int .i64 0) := Bk2.of b1 (by simp <;> omega) (by intro j; simp [go_sem]) (by simp [go_sem]) (by simp [go_sem])
  have L1 : Bk2 w1 (w.heap.size + 3) (.int .i64 (max x0 y0)) (.int .i64 (min x1 y1)) := Bk2.of b1 (by simp <;> omega) (by intro j; simp [go_sem]) (by simp [go_sem]) (by simp [go_sem])
  clear b1 d1
  rw [show Sp.rb (max x0 y0) (min x1 y1) = true from H.out]
  have cA_b := A1.hb
  have cA_f := A1.fz
  have cA_0 := A1.k0
  have cA_1 := A1.k1
  have cBb_b := Bb1.hb
  have cBb_f := Bb1.fz
  have cBb_0 := Bb1.k0
  have cBb_1 := Bb1.k1
  have cR_b := R1.hb
  have cR_f := R1.fz
  have cR_0 := R1.k0
  have cR_1 := R1.k1
  have cL_b := L1.hb
  have cL_f := L1.fz
  have cL_0 := L1.k0
  have cL_1 := L1.k1
  go_wp2_with fail
  refine bodyPost_ret (v := .tuple #[.agg #[.int .i64 (max x0 y0), .int .i64 (min x1 y1)], .bool true]) (by simp [results, Try.results59, go_sem, cA_b, cA_f, cA_0, cA_1, cBb_b, cBb_f, cBb_0, cBb_1, cR_b, cR_f, cR_0, cR_1, cL_b, cL_f, cL_0, cL_1]) rfl ⟨rfl, ?_⟩
  clear cA_b cA_f cA_0 cA_1 cBb_b cBb_f cBb_0 cBb_1 cR_b cR_f cR_0 cR_1 cL_b cL_f cL_0 cL_1
  exact (by have hz := B1.out.size; repeat (first | exact B1.out | refine below_drewN ?_ _ | refine Below.drew ?_ | refine Below.setCell ?_ (by first | omega | (simp; done) | (simp; omega)) _ | refine Below.alloc ?_ (by first | omega | (simp; done) | (simp; omega)) _))
theorem span_both (x0 x1 y0 y1 : Int) (w : World) :
    Calls Try.prog 59 #[.agg #[.int .i64 x0, .int .i64 x1], .agg #[.int .i64 y0, .int .i64 y1]] w fun e w' => e = .returned (.tuple #[.agg #[.int .i64 (Sp.bz (Sp.mt x0 x1 y0 y1) (max x0 y0)), .int .i64 (Sp.bz (Sp.mt x0 x1 y0 y1) (min x1 y1))], .bool (Sp.mt x0 x1 y0 y1)]) ∧ Below w.heap.size w w' := by
  cases h : Sp.mt x0 x1 y0 y1
  · exact span_both_false x0 x1 y0 y1 w h
  · exact span_both_true x0 x1 y0 y1 w h
end Go.Proofs.Ytmnmmbeageddkaa

