/- Spans of seconds: the contracts of the reference's Has, Touch, Meet, Both, Join. -/
import Derived.Test.YtmnmmbeageddkaaSpA0
import Derived.Test.YtmnmmbeageddkaaNumG
set_option linter.unusedVariables false
set_option linter.unusedSimpArgs false
namespace Go.Proofs.Ytmnmmbeageddkaa
open Go.RowKit Go.Sort

namespace Sp
theorem mt_no1 {x0 x1 y0 y1 : Int} (h : ¬ x0 < x1) : mt x0 x1 y0 y1 = false := decide_eq_false (by omega)
theorem mt_no2 {x0 x1 y0 y1 : Int} (h : ¬ y0 < y1) : mt x0 x1 y0 y1 = false := decide_eq_false (by omega)
theorem mt_hs {x0 x1 y0 y1 : Int} (h : x0 < x1) (k : y0 < y1) : mt x0 x1 y0 y1 = (hs x0 x1 y0 || hs y0 y1 x0) := by
  unfold mt hs; rw [Bool.eq_iff_iff]; simp; omega
def ln (x0 x1 : Int) : Int := if rb x0 x1 then Nm.okv (x1 - x0) else 0
def lw (x0 x1 : Int) : Int := if rb x0 x1 then Nm.okw (x1 - x0) else 1
/-- May a span be moved so far? -/
def mv (x0 x1 n : Int) : Bool := rb x0 x1 && Nm.fits (x0 + n) && Nm.fits (x1 + n)
def why (b : Bool) : Int := if b then 0 else 1
def jn (x0 x1 y0 y1 : Int) : Bool := mt x0 x1 y0 y1 || tc x0 x1 y0 y1
end Sp
set_option maxHeartbeats 1000000 in
theorem noontideref10_has (x0 x1 t : Int) (w : World) :
    Calls Try.prog 45 #[.agg #[.int .i64 x0, .int .i64 x1], .int .i64 t] w fun e w' => e = .returned (.bool (Sp.hs x0 x1 t)) ∧ Below w.heap.size w w' := by
  by_cases h : x0 ≤ t
  · by_cases h2 : t < x1
    · rw [show Sp.hs x0 x1 t = true from decide_eq_true ⟨h, h2⟩]
      go_enter Try.func45, Try.ntmps45
      go_wp2
      go_ret
      exact ⟨rfl, by go_grown⟩
    · rw [show Sp.hs x0 x1 t = false from decide_eq_false (by omega)]
      have h3 : decide (t < x1) = false := decide_eq_false h2
      clear h2
      go_enter Try.func45, Try.ntmps45
      go_wp2
      go_ret
      exact ⟨rfl, by go_grown⟩
  · rw [show Sp.hs x0 x1 t = false from decide_eq_false (by omega)]
    have h3 : decide (x0 ≤ t) = false := decide_eq_false h
    clear h
    go_enter Try.func45, Try.ntmps45
    go_wp2
    go_ret
    exact ⟨rfl, by go_grown⟩
set_option maxHeartbeats 2000000 in
theorem noontideref10_touch (x0 x1 y0 y1 : Int) (w : World) :
    Calls Try.prog 96 #[.agg #[.int .i64 x0, .int .i64 x1], .agg #[.int .i64 y0, .int .i64 y1]] w fun e w' => e = .returned (.bool (Sp.tc x0 x1 y0 y1)) ∧ Below w.heap.size w w' := by
  by_cases ha : x0 < x1
  · have HA := Lib.hid (show Sp.rb x0 x1 = true from decide_eq_true ha)
    by_cases hb : y0 < y1
    · have HB := Lib.hid (show Sp.rb y0 y1 = true from decide_eq_true hb)
      by_cases h1 : x1 = y0
      · rw [show Sp.tc x0 x1 y0 y1 = true from decide_eq_true ⟨ha, hb, .inl h1⟩]
        have t1 : (x1 == y0) = true := beq_iff_eq.2 h1
        clear ha hb h1
        go_enter Try.func96, Try.ntmps96
        go_wp2_with fail
        refine (noontideref10_right x0 x1 _).mono ?_; rintro e w1 ⟨rfl, b1⟩
        have d1 : Below w.heap.size w w1 := below_step (by repeat (first | exact Below.refl _ _ | refine below_drewN ?_ _ | refine Below.drew ?_ | refine Below.setCell ?_ (by first | (simp; done) | (simp; omega) | omega) _ | refine Below.alloc ?_ (by first | (simp; done) | (simp; omega) | omega) _)) b1
        have B1 := Lib.hid d1
        have A1 : Bk2 w1 (w.heap.size) (.int .i64 x0) (.int .i64 x1) := Bk2.of b1 (by simp <;> omega) (by intro j; simp [go_sem]) (by simp [go_sem]) (by simp [go_sem])
        have Bb1 : Bk2 w1 (w.heap.size + 1) (.int .i64 y0) (.int .i64 y1) := Bk2.of b1 (by simp <;> omega) (by intro j; simp [go_sem]) (by simp [go_sem]) (by simp [go_sem])
        clear b1 d1
        rw [HA.out]
        have cA_b := A1.hb
        have cA_f := A1.fz
        have cA_0 := A1.k0
        have cA_1 := A1.k1
        have cBb_b := Bb1.hb
        have cBb_f := Bb1.fz
        have cBb_0 := Bb1.k0
        have cBb_1 := Bb1.k1
        go_wp2_with fail
        clear cA_b cA_f cA_0 cA_1 cBb_b cBb_f cBb_0 cBb_1
        refine (noontideref10_right y0 y1 _).mono ?_; rintro e w2 ⟨rfl, b2⟩
        have d2 : Below w1.heap.size w1 w2 := below_step (by repeat (first | exact Below.refl _ _ | refine below_drewN ?_ _ | refine Below.drew ?_ | refine Below.setCell ?_ (by first | (simp; done) | (simp; omega) | omega) _ | refine Below.alloc ?_ (by first | (simp; done) | (simp; omega) | omega) _)) b2
        have B2 := Lib.hid (below_step B1.out d2)
        have A2 := A1.keep d2
        have Bb2 := Bb1.keep d2
        clear A1 Bb1 b2 d2 B1
        rw [HB.out]
        have cA_b := A2.hb
        have cA_f := A2.fz
        have cA_0 := A2.k0
        have cA_1 := A2.k1
        have cBb_b := Bb2.hb
        have cBb_f := Bb2.fz
        have cBb_0 := Bb2.k0
        have cBb_1 := Bb2.k1
        go_wp2_with fail
        clear cA_b cA_f cA_0 cA_1 cBb_b cBb_f cBb_0 cBb_1
        go_ret
        exact ⟨rfl, (by have hz := B2.out.size; repeat (first | exact B2.out | refine below_drewN ?_ _ | refine Below.drew ?_ | refine Below.setCell ?_ (by first | omega | (simp; done) | (simp; omega)) _ | refine Below.alloc ?_ (by first | omega | (simp; done) | (simp; omega)) _))⟩
      · have t1 : (x1 == y0) = false := by rw [beq_eq_false_iff_ne]; exact h1
        have e : Sp.tc x0 x1 y0 y1 = (y1 == x0) := by unfold Sp.tc; rw [Bool.eq_iff_iff]; simp; omega
        rw [e]
        clear ha hb h1 e
        go_enter Try.func96, Try.ntmps96
        go_wp2_with fail
        refine (noontideref10_right x0 x1 _).mono ?_; rintro e w1 ⟨rfl, b1⟩
        have d1 : Below w.heap.size w w1 := below_step (by repeat (first | exact Below.refl _ _ | refine below_drewN ?_ _ | refine Below.drew ?_ | refine Below.setCell ?_ (by first | (simp; done) | (simp; omega) | omega) _ | refine Below.alloc ?_ (by first | (simp; done) | (simp; omega) | omega) _)) b1
        have B1 := Lib.hid d1
        have A1 : Bk2 w1 (w.heap.size) (.int .i64 x0) (.int .i64 x1) := Bk2.of b1 (by simp <;> omega) (by intro j; simp [go_sem]) (by simp [go_sem]) (by simp [go_sem])
        have Bb1 : Bk2 w1 (w.heap.size + 1) (.int .i64 y0) (.int .i64 y1) := Bk2.of b1 (by simp <;> omega) (by intro j; simp [go_sem]) (by simp [go_sem]) (by simp [go_sem])
        clear b1 d1
        rw [HA.out]
        have cA_b := A1.hb
        have cA_f := A1.fz
        have cA_0 := A1.k0
        have cA_1 := A1.k1
        have cBb_b := Bb1.hb
        have cBb_f := Bb1.fz
        have cBb_0 := Bb1.k0
        have cBb_1 := Bb1.k1
        go_wp2_with fail
        clear cA_b cA_f cA_0 cA_1 cBb_b cBb_f cBb_0 cBb_1
        refine (noontideref10_right y0 y1 _).mono ?_; rintro e w2 ⟨rfl, b2⟩
        have d2 : Below w1.heap.size w1 w2 := below_step (by repeat (first | exact Below.refl _ _ | refine below_drewN ?_ _ | refine Below.drew ?_ | refine Below.setCell ?_ (by first | (simp; done) | (simp; omega) | omega) _ | refine Below.alloc ?_ (by first | (simp; done) | (simp; omega) | omega) _)) b2
        have B2 := Lib.hid (below_step B1.out d2)
        have A2 := A1.keep d2
        have Bb2 := Bb1.keep d2
        clear A1 Bb1 b2 d2 B1
        rw [HB.out]
        have cA_b := A2.hb
        have cA_f := A2.fz
        have cA_0 := A2.k0
        have cA_1 := A2.k1
        have cBb_b := Bb2.hb
        have cBb_f := Bb2.fz
        have cBb_0 := Bb2.k0
        have cBb_1 := Bb2.k1
        go_wp2_with fail
        clear cA_b cA_f cA_0 cA_1 cBb_b cBb_f cBb_0 cBb_1
        go_ret
        exact ⟨rfl, (by have hz := B2.out.size; repeat (first | exact B2.out | refine below_drewN ?_ _ | refine Below.drew ?_ | refine Below.setCell ?_ (by first | omega | (simp; done) | (simp; omega)) _ | refine Below.alloc ?_ (by first | omega | (simp; done) | (simp; omega)) _))⟩
    · have HB := Lib.hid (show Sp.rb y0 y1 = false from decide_eq_false hb)
      rw [show Sp.tc x0 x1 y0 y1 = false from decide_eq_false (by omega)]
      clear ha hb
      go_enter Try.func96, Try.ntmps96
      go_wp2_with fail
      refine (noontideref10_right x0 x1 _).mono ?_; rintro e w1 ⟨rfl, b1⟩
      have d1 : Below w.heap.size w w1 := below_step (by repeat (first | exact Below.refl _ _ | refine below_drewN ?_ _ | refine Below.drew ?_ | refine Below.setCell ?_ (by first | (simp; done) | (simp; omega) | omega) _ | refine Below.alloc ?_ (by first | (simp; done) | (simp; omega) | omega) _)) b1
      have B1 := Lib.hid d1
      have A1 : Bk2 w1 (w.heap.size) (.int .i64 x0) (.int .i64 x1) := Bk2.of b1 (by simp <;> omega) (by intro j; simp [go_sem]) (by simp [go_sem]) (by simp [go_sem])
      have Bb1 : Bk2 w1 (w.heap.size + 1) (.int .i64 y0) (.int .i64 y1) := Bk2.of b1 (by simp <;> omega) (by intro j; simp [go_sem]) (by simp [go_sem]) (by simp [go_sem])
      clear b1 d1
      rw [HA.out]
      have cA_b := A1.hb
      have cA_f := A1.fz
      have cA_0 := A1.k0
      have cA_1 := A1.k1
      have cBb_b := Bb1.hb
      have cBb_f := Bb1.fz
      have cBb_0 := Bb1.k0
      have cBb_1 := Bb1.k1
      go_wp2_with fail
      clear cA_b cA_f cA_0 cA_1 cBb_b cBb_f cBb_0 cBb_1
      refine (noontideref10_right y0 y1 _).mono ?_; rintro e w2 ⟨rfl, b2⟩
      have d2 : Below w1.heap.size w1 w2 := below_step (by repeat (first | exact Below.refl _ _ | refine below_drewN ?_ _ | refine Below.drew ?_ | refine Below.setCell ?_ (by first | (simp; done) | (simp; omega) | omega) _ | refine Below.alloc ?_ (by first | (simp; done) | (simp; omega) | omega) _)) b2
      have B2 := Lib.hid (below_step B1.out d2)
      have A2 := A1.keep d2
      have Bb2 := Bb1.keep d2
      clear A1 Bb1 b2 d2 B1
      rw [HB.out]
      have cA_b := A2.hb
      have cA_f := A2.fz
      have cA_0 := A2.k0
      have cA_1 := A2.k1
      have cBb_b := Bb2.hb
      have cBb_f := Bb2.fz
      have cBb_0 := Bb2.k0
      have cBb_1 := Bb2.k1
      go_wp2_with fail
      clear cA_b cA_f cA_0 cA_1 cBb_b cBb_f cBb_0 cBb_1
      go_ret
      exact ⟨rfl, (by have hz := B2.out.size; repeat (first | exact B2.out | refine below_drewN ?_ _ | refine Below.drew ?_ | refine Below.setCell ?_ (by first | omega | (simp; done) | (simp; omega)) _ | refine Below.alloc ?_ (by first | omega | (simp; done) | (simp; omega)) _))⟩
  · have HA := Lib.hid (show Sp.rb x0 x1 = false from decide_eq_false ha)
    rw [show Sp.tc x0 x1 y0 y1 = false from decide_eq_false (by omega)]
    clear ha
    go_enter Try.func96, Try.ntmps96
    go_wp2_with fail
    refine (noontideref10_right x0 x1 _).mono ?_; rintro e w1 ⟨rfl, b1⟩
    have d1 : Below w.heap.size w w1 := below_step (by repeat (first | exact Below.refl _ _ | refine below_drewN ?_ _ | refine Below.drew ?_ | refine Below.setCell ?_ (by first | (simp; done) | (simp; omega) | omega) _ | refine Below.alloc ?_ (by first | (simp; done) | (simp; omega) | omega) _)) b1
    have B1 := Lib.hid d1
    have A1 : Bk2 w1 (w.heap.size) (.int .i64 x0) (.int .i64 x1) := Bk2.of b1 (by simp <;> omega) (by intro j; simp [go_sem]) (by simp [go_sem]) (by simp [go_sem])
    have Bb1 : Bk2 w1 (w.heap.size + 1) (.int .i64 y0) (.int .i64 y1) := Bk2.of b1 (by simp <;> omega) (by intro j; simp [go_sem]) (by simp [go_sem]) (by simp [go_sem])
    clear b1 d1
    rw [HA.out]
    have cA_b := A1.hb
    have cA_f := A1.fz
    have cA_0 := A1.k0
    have cA_1 := A1.k1
    have cBb_b := Bb1.hb
    have cBb_f := Bb1.fz
    have cBb_0 := Bb1.k0
    have cBb_1 := Bb1.k1
    go_wp2_with fail
    clear cA_b cA_f cA_0 cA_1 cBb_b cBb_f cBb_0 cBb_1
    go_ret
    exact ⟨rfl, (by have hz := B1.out.size; repeat (first | exact B1.out | refine below_drewN ?_ _ | refine Below.drew ?_ | refine Below.setCell ?_ (by first | omega | (simp; done) | (simp; omega)) _ | refine Below.alloc ?_ (by first | omega | (simp; done) | (simp; omega)) _))⟩
set_option maxHeartbeats 2000000 in
theorem noontideref10_meet (x0 x1 y0 y1 : Int) (w : World) :
    Calls Try.prog 42 #[.agg #[.int .i64 x0, .int .i64 x1], .agg #[.int .i64 y0, .int .i64 y1]] w fun e w' => e = .returned (.bool (Sp.mt x0 x1 y0 y1)) ∧ Below w.heap.size w w' := by
  by_cases ha : x0 < x1
  · have HA := Lib.hid (show Sp.rb x0 x1 = true from decide_eq_true ha)
    by_cases hb : y0 < y1
    · have HB := Lib.hid (show Sp.rb y0 y1 = true from decide_eq_true hb)
      rw [Sp.mt_hs ha hb]
      cases h1 : Sp.hs x0 x1 y0
      · have H1 := Lib.hid h1
        rw [Bool.false_or]
        clear ha hb h1
        go_enter Try.func42, Try.ntmps42
        go_wp2_with fail
        refine (noontideref10_right x0 x1 _).mono ?_; rintro e w1 ⟨rfl, b1⟩
        have d1 : Below w.heap.size w w1 := below_step (by repeat (first | exact Below.refl _ _ | refine below_drewN ?_ _ | refine Below.drew ?_ | refine Below.setCell ?_ (by first | (simp; done) | (simp; omega) | omega) _ | refine Below.alloc ?_ (by first | (simp; done) | (simp; omega) | omega) _)) b1
        have B1 := Lib.hid d1
        have A1 : Bk2 w1 (w.heap.size) (.int .i64 x0) (.int .i64 x1) := Bk2.of b1 (by simp <;> omega) (by intro j; simp [go_sem]) (by simp [go_sem]) (by simp [go_sem])
        have Bb1 : Bk2 w1 (w.heap.size + 1) (.int .i64 y0) (.int .i64 y1) := Bk2.of b1 (by simp <;> omega) (by intro j; simp [go_sem]) (by simp [go_sem]) (by simp [go_sem])
        clear b1 d1
        rw [HA.out]
        have cA_b := A1.hb
        have cA_f := A1.fz
        have cA_0 := A1.k0
        have cA_1 := A1.k1
        have cBb_b := Bb1.hb
        have cBb_f := Bb1.fz
        have cBb_0 := Bb1.k0
        have cBb_1 := Bb1.k1
        go_wp2_with fail
        clear cA_b cA_f cA_0 cA_1 cBb_b cBb_f cBb_0 cBb_1
        refine (noontideref10_right y0 y1 _).mono ?_; rintro e w2 ⟨rfl, b2⟩
        have d2 : Below w1.heap.size w1 w2 := below_step (by repeat (first | exact Below.refl _ _ | refine below_drewN ?_ _ | refine Below.drew ?_ | refine Below.setCell ?_ (by first | (simp; done) | (simp; omega) | omega) _ | refine Below.alloc ?_ (by first | (simp; done) | (simp; omega) | omega) _)) b2
        have B2 := Lib.hid (below_step B1.out d2)
        have A2 := A1.keep d2
        have Bb2 := Bb1.keep d2
        clear A1 Bb1 b2 d2 B1
        rw [HB.out]
        have cA_b := A2.hb
        have cA_f := A2.fz
        have cA_0 := A2.k0
        have cA_1 := A2.k1
        have cBb_b := Bb2.hb
        have cBb_f := Bb2.fz
        have cBb_0 := Bb2.k0
        have cBb_1 := Bb2.k1
        go_wp2_with fail
        clear cA_b cA_f cA_0 cA_1 cBb_b cBb_f cBb_0 cBb_1
        refine (noontideref10_has x0 x1 y0 _).mono ?_; rintro e w3 ⟨rfl, b3⟩
        have d3 : Below w2.heap.size w2 w3 := below_step (by repeat (first | exact Below.refl _ _ | refine below_drewN ?_ _ | refine Below.drew ?_ | refine Below.setCell ?_ (by first | (simp; done) | (simp; omega) | omega) _ | refine Below.alloc ?_ (by first | (simp; done) | (simp; omega) | omega) _)) b3
        have B3 := Lib.hid (below_step B2.out d3)
        have A3 := A2.keep d3
        have Bb3 := Bb2.keep d3
        clear A2 Bb2 b3 d3 B2
        rw [H1.out]
        have cA_b := A3.hb
        have cA_f := A3.fz
        have cA_0 := A3.k0
        have cA_1 := A3.k1
        have cBb_b := Bb3.hb
        have cBb_f := Bb3.fz
        have cBb_0 := Bb3.k0
        have cBb_1 := Bb3.k1
        go_wp2_with fail
        clear cA_b cA_f cA_0 cA_1 cBb_b cBb_f cBb_0 cBb_1
        refine (noontideref10_has y0 y1 x0 _).mono ?_; rintro e w4 ⟨rfl, b4⟩
        have d4 : Below w3.heap.size w3 w4 := below_step (by repeat (first | exact Below.refl _ _ | refine below_drewN ?_ _ | refine Below.drew ?_ | refine Below.setCell ?_ (by first | (simp; done) | (simp; omega) | omega) _ | refine Below.alloc ?_ (by first | (simp; done) | (simp; omega) | omega) _)) b4
        have B4 := Lib.hid (below_step B3.out d4)
        have A4 := A3.keep d4
        have Bb4 := Bb3.keep d4
        clear A3 Bb3 b4 d4 B3
        have cA_b := A4.hb
        have cA_f := A4.fz
        have cA_0 := A4.k0
        have cA_1 := A4.k1
        have cBb_b := Bb4.hb
        have cBb_f := Bb4.fz
        have cBb_0 := Bb4.k0
        have cBb_1 := Bb4.k1
        go_wp2_with fail
        clear cA_b cA_f cA_0 cA_1 cBb_b cBb_f cBb_0 cBb_1
        go_ret
        exact ⟨rfl, (by have hz := B4.out.size; repeat (first | exact B4.out | refine below_drewN ?_ _ | refine Below.drew ?_ | refine Below.setCell ?_ (by first | omega | (simp; done) | (simp; omega)) _ | refine Below.alloc ?_ (by first | omega | (simp; done) | (simp; omega)) _))⟩
      · have H1 := Lib.hid h1
        rw [Bool.true_or]
        clear ha hb h1
        go_enter Try.func42, Try.ntmps42
        go_wp2_with fail
        refine (noontideref10_right x0 x1 _).mono ?_; rintro e w1 ⟨rfl, b1⟩
        have d1 : Below w.heap.size w w1 := below_step (by repeat (first | exact Below.refl _ _ | refine below_drewN ?_ _ | refine Below.drew ?_ | refine Below.setCell ?_ (by first | (simp; done) | (simp; omega) | omega) _ | refine Below.alloc ?_ (by first | (simp; done) | (simp; omega) | omega) _)) b1
        have B1 := Lib.hid d1
        have A1 : Bk2 w1 (w.heap.size) (.int .i64 x0) (.int .i64 x1) := Bk2.of b1 (by simp <;> omega) (by intro j; simp [go_sem]) (by simp [go_sem]) (by simp [go_sem])
        have Bb1 : Bk2 w1 (w.heap.size + 1) (.int .i64 y0) (.int .i64 y1) := Bk2.of b1 (by simp <;> omega) (by intro j; simp [go_sem]) (by simp [go_sem]) (by simp [go_sem])
        clear b1 d1
        rw [HA.out]
        have cA_b := A1.hb
        have cA_f := A1.fz
        have cA_0 := A1.k0
        have cA_1 := A1.k1
        have cBb_b := Bb1.hb
        have cBb_f := Bb1.fz
        have cBb_0 := Bb1.k0
        have cBb_1 := Bb1.k1
        go_wp2_with fail
        clear cA_b cA_f cA_0 cA_1 cBb_b cBb_f cBb_0 cBb_1
        refine (noontideref10_right y0 y1 _).mono ?_; rintro e w2 ⟨rfl, b2⟩
        have d2 : Below w1.heap.size w1 w2 := below_step (by repeat (first | exact Below.refl _ _ | refine below_drewN ?_ _ | refine Below.drew ?_ | refine Below.setCell ?_ (by first | (simp; done) | (simp; omega) | omega) _ | refine Below.alloc ?_ (by first | (simp; done) | (simp; omega) | omega) _)) b2
        have B2 := Lib.hid (below_step B1.out d2)
        have A2 := A1.keep d2
        have Bb2 := Bb1.keep d2
        clear A1 Bb1 b2 d2 B1
        rw [HB.out]
        have cA_b := A2.hb
        have cA_f := A2.fz
        have cA_0 := A2.k0
        have cA_1 := A2.k1
        have cBb_b := Bb2.hb
        have cBb_f := Bb2.fz
        have cBb_0 := Bb2.k0
        have cBb_1 := Bb2.k1
        go_wp2_with fail
        clear cA_b cA_f cA_0 cA_1 cBb_b cBb_f cBb_0 cBb_1
        refine (noontideref10_has x0 x1 y0 _).mono ?_; rintro e w3 ⟨rfl, b3⟩
        have d3 : Below w2.heap.size w2 w3 := below_step (by repeat (first | exact Below.refl _ _ | refine below_drewN ?_ _ | refine Below.drew ?_ | refine Below.setCell ?_ (by first | (simp; done) | (simp; omega) | omega) _ | refine Below.alloc ?_ (by first | (simp; done) | (simp; omega) | omega) _)) b3
        have B3 := Lib.hid (below_step B2.out d3)
        have A3 := A2.keep d3
        have Bb3 := Bb2.keep d3
        clear A2 Bb2 b3 d3 B2
        rw [H1.out]
        have cA_b := A3.hb
        have cA_f := A3.fz
        have cA_0 := A3.k0
        have cA_1 := A3.k1
        have cBb_b := Bb3.hb
        have cBb_f := Bb3.fz
        have cBb_0 := Bb3.k0
        have cBb_1 := Bb3.k1
        go_wp2_with fail
        clear cA_b cA_f cA_0 cA_1 cBb_b cBb_f cBb_0 cBb_1
        go_ret
        exact ⟨rfl, (by have hz := B3.out.size; repeat (first | exact B3.out | refine below_drewN ?_ _ | refine Below.drew ?_ | refine Below.setCell ?_ (by first | omega | (simp; done) | (simp; omega)) _ | refine Below.alloc ?_ (by first | omega | (simp; done) | (simp; omega)) _))⟩
    · have HB := Lib.hid (show Sp.rb y0 y1 = false from decide_eq_false hb)
      rw [Sp.mt_no2 hb]
      clear ha hb
      go_enter Try.func42, Try.ntmps42
      go_wp2_with fail
      refine (noontideref10_right x0 x1 _).mono ?_; rintro e w1 ⟨rfl, b1⟩
      have d1 : Below w.heap.size w w1 := below_step (by repeat (first | exact Below.refl _ _ | refine below_drewN ?_ _ | refine Below.drew ?_ | refine Below.setCell ?_ (by first | (simp; done) | (simp; omega) | omega) _ | refine Below.alloc ?_ (by first | (simp; done) | (simp; omega) | omega) _)) b1
      have B1 := Lib.hid d1
      have A1 : Bk2 w1 (w.heap.size) (.int .i64 x0) (.int .i64 x1) := Bk2.of b1 (by simp <;> omega) (by intro j; simp [go_sem]) (by simp [go_sem]) (by simp [go_sem])
      have Bb1 : Bk2 w1 (w.heap.size + 1) (.int .i64 y0) (.int .i64 y1) := Bk2.of b1 (by simp <;> omega) (by intro j; simp [go_sem]) (by simp [go_sem]) (by simp [go_sem])
      clear b1 d1
      rw [HA.out]
      have cA_b := A1.hb
      have cA_f := A1.fz
      have cA_0 := A1.k0
      have cA_1 := A1.k1
      have cBb_b := Bb1.hb
      have cBb_f := Bb1.fz
      have cBb_0 := Bb1.k0
      have cBb_1 := Bb1.k1
      go_wp2_with fail
      clear cA_b cA_f cA_0 cA_1 cBb_b cBb_f cBb_0 cBb_1
      refine (noontideref10_right y0 y1 _).mono ?_; rintro e w2 ⟨rfl, b2⟩
      have d2 : Below w1.heap.size w1 w2 := below_step (by repeat (first | exact Below.refl _ _ | refine below_drewN ?_ _ | refine Below.drew ?_ | refine Below.setCell ?_ (by first | (simp; done) | (simp; omega) | omega) _ | refine Below.alloc ?_ (by first | (simp; done) | (simp; omega) | omega) _)) b2
      have B2 := Lib.hid (below_step B1.out d2)
      have A2 := A1.keep d2
      have Bb2 := Bb1.keep d2
      clear A1 Bb1 b2 d2 B1
      rw [HB.out]
      have cA_b := A2.hb
      have cA_f := A2.fz
      have cA_0 := A2.k0
      have cA_1 := A2.k1
      have cBb_b := Bb2.hb
      have cBb_f := Bb2.fz
      have cBb_0 := Bb2.k0
      have cBb_1 := Bb2.k1
      go_wp2_with fail
      clear cA_b cA_f cA_0 cA_1 cBb_b cBb_f cBb_0 cBb_1
      go_ret
      exact ⟨rfl, (by have hz := B2.out.size; repeat (first | exact B2.out | refine below_drewN ?_ _ | refine Below.drew ?_ | refine Below.setCell ?_ (by first | omega | (simp; done) | (simp; omega)) _ | refine Below.alloc ?_ (by first | omega | (simp; done) | (simp; omega)) _))⟩
  · have HA := Lib.hid (show Sp.rb x0 x1 = false from decide_eq_false ha)
    rw [Sp.mt_no1 ha]
    clear ha
    go_enter Try.func42, Try.ntmps42
    go_wp2_with fail
    refine (noontideref10_right x0 x1 _).mono ?_; rintro e w1 ⟨rfl, b1⟩
    have d1 : Below w.heap.size w w1 := below_step (by repeat (first | exact Below.refl _ _ | refine below_drewN ?_ _ | refine Below.drew ?_ | refine Below.setCell ?_ (by first | (simp; done) | (simp; omega) | omega) _ | refine Below.alloc ?_ (by first | (simp; done) | (simp; omega) | omega) _)) b1
    have B1 := Lib.hid d1
    have A1 : Bk2 w1 (w.heap.size) (.int .i64 x0) (.int .i64 x1) := Bk2.of b1 (by simp <;> omega) (by intro j; simp [go_sem]) (by simp [go_sem]) (by simp [go_sem])
    have Bb1 : Bk2 w1 (w.heap.size + 1) (.int .i64 y0) (.int .i64 y1) := Bk2.of b1 (by simp <;> omega) (by intro j; simp [go_sem]) (by simp [go_sem]) (by simp [go_sem])
    clear b1 d1
    rw [HA.out]
    have cA_b := A1.hb
    have cA_f := A1.fz
    have cA_0 := A1.k0
    have cA_1 := A1.k1
    have cBb_b := Bb1.hb
    have cBb_f := Bb1.fz
    have cBb_0 := Bb1.k0
    have cBb_1 := Bb1.k1
    go_wp2_with fail
    clear cA_b cA_f cA_0 cA_1 cBb_b cBb_f cBb_0 cBb_1
    go_ret
    exact ⟨rfl, (by have hz := B1.out.size; repeat (first | exact B1.out | refine below_drewN ?_ _ | refine Below.drew ?_ | refine Below.setCell ?_ (by first | omega | (simp; done) | (simp; omega)) _ | refine Below.alloc ?_ (by first | omega | (simp; done) | (simp; omega)) _))⟩
set_option maxHeartbeats 1000000 in
theorem refboth_false (x0 x1 y0 y1 : Int) (w : World) (h : Sp.mt x0 x1 y0 y1 = false) :
    Calls Try.prog 60 #[.agg #[.int .i64 x0, .int .i64 x1], .agg #[.int .i64 y0, .int .i64 y1]] w fun e w' => e = .returned (.tuple #[.agg #[.int .i64 0, .int .i64 0], .bool false]) ∧ Below w.heap.size w w' := by
  have H := Lib.hid h; clear h
  go_enter Try.func60, Try.ntmps60
  go_wp2_with fail
  refine (noontideref10_meet x0 x1 y0 y1 _).mono ?_; rintro e w1 ⟨rfl, b1⟩
  have d1 : Below w.heap.size w w1 := below_step (by repeat (first | exact Below.refl _ _ | refine below_drewN ?_ _ | refine Below.drew ?_ | refine Below.setCell ?_ (by first | (simp; done) | (simp; omega) | omega) _ | refine Below.alloc ?_ (by first | (simp; done) | (simp; omega) | omega) _)) b1
  have B1 := Lib.hid d1
  have A1 : Bk2 w1 (w.heap.size) (.int .i64 x0) (.int .i64 x1) := Bk2.of b1 (by simp <;> omega) (by intro j; simp [go_sem]) (by simp [go_sem]) (by simp [go_sem])
  have Bb1 : Bk2 w1 (w.heap.size + 1) (.int .i64 y0) (.int .i64 y1) := Bk2.of b1 (by simp <;> omega) (by intro j; simp [go_sem]) (by simp [go_sem]) (by simp [go_sem])
  have R1 : Bk2 w1 (w.heap.size + 2) (.int .i64 0) (.int .i64 0) := Bk2.of b1 (by simp <;> omega) (by intro j; simp [go_sem]) (by simp [go_sem]) (by simp [go_sem])
  clear b1 d1
  rw [H.out]
  have cA_b := A1.hb
  have cA_f := A1.fz
  have cA_0 := A1.k0
  have cA_1 := A1.k1
  have cBb_b := Bb1.hb
  have cBb_f := Bb1.fz
  have cBb_0 := Bb1.k0
  have cBb_1 := Bb1.k1
  have cR_b := R1.hb
  have cR_f := R1.fz
  have cR_0 := R1.k0
  have cR_1 := R1.k1
  go_wp2_with fail
  refine bodyPost_ret (v := .tuple #[.agg #[.int .i64 0, .int .i64 0], .bool false]) (by simp [results, Try.results60, go_sem, cA_b, cA_f, cA_0, cA_1, cBb_b, cBb_f, cBb_0, cBb_1, cR_b, cR_f, cR_0, cR_1]) rfl ⟨rfl, ?_⟩
  clear cA_b cA_f cA_0 cA_1 cBb_b cBb_f cBb_0 cBb_1 cR_b cR_f cR_0 cR_1
  exact (by have hz := B1.out.size; repeat (first | exact B1.out | refine below_drewN ?_ _ | refine Below.drew ?_ | refine Below.setCell ?_ (by first | omega | (simp; done) | (simp; omega)) _ | refine Below.alloc ?_ (by first | omega | (simp; done) | (simp; omega)) _))
set_option maxHeartbeats 1000000 in
theorem refboth_true (x0 x1 y0 y1 : Int) (w : World) (h : Sp.mt x0 x1 y0 y1 = true) :
    Calls Try.prog 60 #[.agg #[.int .i64 x0, .int .i64 x1], .agg #[.int .i64 y0, .int .i64 y1]] w fun e w' => e = .returned (.tuple #[.agg #[.int .i64 (max x0 y0), .int .i64 (min x1 y1)], .bool true]) ∧ Below w.heap.size w w' := by
  have H := Lib.hid h; clear h
  go_enter Try.func60, Try.ntmps60
  go_wp2_with fail
  refine (noontideref10_meet x0 x1 y0 y1 _).mono ?_; rintro e w1 ⟨rfl, b1⟩
  have d1 : Below w.heap.size w w1 := below_step (by repeat (first | exact Below.refl _ _ | refine below_drewN ?_ _ | refine Below.drew ?_ | refine Below.setCell ?_ (by first | (simp; done) | (simp; omega) | omega) _ | refine Below.alloc ?_ (by first | (simp; done) | (simp; omega) | omega) _)) b1
  have B1 := Lib.hid d1
  have A1 : Bk2 w1 (w.heap.size) (.int .i64 x0) (.int .i64 x1) := Bk2.of b1 (by simp <;> omega) (by intro j; simp [go_sem]) (by simp [go_sem]) (by simp [go_sem])
  have Bb1 : Bk2 w1 (w.heap.size + 1) (.int .i64 y0) (.int .i64 y1) := Bk2.of b1 (by simp <;> omega) (by intro j; simp [go_sem]) (by simp [go_sem]) (by simp [go_sem])
  have R1 : Bk2 w1 (w.heap.size + 2) (.int .i64 0) (.int .i64 0) := Bk2.of b1 (by simp <;> omega) (by intro j; simp [go_sem]) (by simp [go_sem]) (by simp [go_sem])
  clear b1 d1
  rw [H.out]
  have cA_b := A1.hb
  have cA_f := A1.fz
  have cA_0 := A1.k0
  have cA_1 := A1.k1
  have cBb_b := Bb1.hb
  have cBb_f := Bb1.fz
  have cBb_0 := Bb1.k0
  have cBb_1 := Bb1.k1
  have cR_b := R1.hb
  have cR_f := R1.fz
  have cR_0 := R1.k0
  have cR_1 := R1.k1
  go_wp2_with fail
  refine bodyPost_ret (v := .tuple #[.agg #[.int .i64 (max x0 y0), .int .i64 (min x1 y1)], .bool true]) (by simp [results, Try.results60, go_sem, cA_b, cA_f, cA_0, cA_1, cBb_b, cBb_f, cBb_0, cBb_1, cR_b, cR_f, cR_0, cR_1]) rfl ⟨rfl, ?_⟩
  clear cA_b cA_f cA_0 cA_1 cBb_b cBb_f cBb_0 cBb_1 cR_b cR_f cR_0 cR_1
  exact (by have hz := B1.out.size; repeat (first | exact B1.out | refine below_drewN ?_ _ | refine Below.drew ?_ | refine Below.setCell ?_ (by first | omega | (simp; done) | (simp; omega)) _ | refine Below.alloc ?_ (by first | omega | (simp; done) | (simp; omega)) _))
theorem noontideref10_both (x0 x1 y0 y1 : Int) (w : World) :
    Calls Try.prog 60 #[.agg #[.int .i64 x0, .int .i64 x1], .agg #[.int .i64 y0, .int .i64 y1]] w fun e w' => e = .returned (.tuple #[.agg #[.int .i64 (Sp.bz (Sp.mt x0 x1 y0 y1) (max x0 y0)), .int .i64 (Sp.bz (Sp.mt x0 x1 y0 y1) (min x1 y1))], .bool (Sp.mt x0 x1 y0 y1)]) ∧ Below w.heap.size w w' := by
  cases h : Sp.mt x0 x1 y0 y1
  · exact refboth_false x0 x1 y0 y1 w h
  · exact refboth_true x0 x1 y0 y1 w h
set_option maxHeartbeats 1000000 in
theorem noontideref10_join_m (x0 x1 y0 y1 : Int) (w : World) (h : Sp.mt x0 x1 y0 y1 = true) :
    Calls Try.prog 86 #[.agg #[.int .i64 x0, .int .i64 x1], .agg #[.int .i64 y0, .int .i64 y1]] w fun e w' => e = .returned (.tuple #[.agg #[.int .i64 (min x0 y0), .int .i64 (max x1 y1)], .bool true]) ∧ Below w.heap.size w w' := by
  have H := Lib.hid h; clear h
  go_enter Try.func86, Try.ntmps86
  go_wp2_with fail
  refine (noontideref10_meet x0 x1 y0 y1 _).mono ?_; rintro e w1 ⟨rfl, b1⟩
  have d1 : Below w.heap.size w w1 := below_step (by repeat (first | exact Below.refl _ _ | refine below_drewN ?_ _ | refine Below.drew ?_ | refine Below.setCell ?_ (by first | (simp; done) | (simp; omega) | omega) _ | refine Below.alloc ?_ (by first | (simp; done) | (simp; omega) | omega) _)) b1
  have B1 := Lib.hid d1
  have A1 : Bk2 w1 (w.heap.size) (.int .i64 x0) (.int .i64 x1) := Bk2.of b1 (by simp <;> omega) (by intro j; simp [go_sem]) (by simp [go_sem]) (by simp [go_sem])
  have Bb1 : Bk2 w1 (w.heap.size + 1) (.int .i64 y0) (.int .i64 y1) := Bk2.of b1 (by simp <;> omega) (by intro j; simp [go_sem]) (by simp [go_sem]) (by simp [go_sem])
  have R1 : Bk2 w1 (w.heap.size + 2) (.int .i64 0) (.int .i64 0) := Bk2.of b1 (by simp <;> omega) (by intro j; simp [go_sem]) (by simp [go_sem]) (by simp [go_sem])
  clear b1 d1
  rw [H.out]
  have cA_b := A1.hb
  have cA_f := A1.fz
  have cA_0 := A1.k0
  have cA_1 := A1.k1
  have cBb_b := Bb1.hb
  have cBb_f := Bb1.fz
  have cBb_0 := Bb1.k0
  have cBb_1 := Bb1.k1
  have cR_b := R1.hb
  have cR_f := R1.fz
  have cR_0 := R1.k0
  have cR_1 := R1.k1
  go_wp2_with fail
  refine bodyPost_ret (v := .tuple #[.agg #[.int .i64 (min x0 y0), .int .i64 (max x1 y1)], .bool true]) (by simp [results, Try.results86, go_sem, cA_b, cA_f, cA_0, cA_1, cBb_b, cBb_f, cBb_0, cBb_1, cR_b, cR_f, cR_0, cR_1]) rfl ⟨rfl, ?_⟩
  clear cA_b cA_f cA_0 cA_1 cBb_b cBb_f cBb_0 cBb_1 cR_b cR_f cR_0 cR_1
  exact (by have hz := B1.out.size; repeat (first | exact B1.out | refine below_drewN ?_ _ | refine Below.drew ?_ | refine Below.setCell ?_ (by first | omega | (simp; done) | (simp; omega)) _ | refine Below.alloc ?_ (by first | omega | (simp; done) | (simp; omega)) _))
set_option maxHeartbeats 1000000 in
theorem noontideref10_join_false (x0 x1 y0 y1 : Int) (w : World) (h : Sp.mt x0 x1 y0 y1 = false) (h2 : Sp.tc x0 x1 y0 y1 = false) :
    Calls Try.prog 86 #[.agg #[.int .i64 x0, .int .i64 x1], .agg #[.int .i64 y0, .int .i64 y1]] w fun e w' => e = .returned (.tuple #[.agg #[.int .i64 0, .int .i64 0], .bool false]) ∧ Below w.heap.size w w' := by
  have H := Lib.hid h; clear h
  have H2 := Lib.hid h2; clear h2
  go_enter Try.func86, Try.ntmps86
  go_wp2_with fail
  refine (noontideref10_meet x0 x1 y0 y1 _).mono ?_; rintro e w1 ⟨rfl, b1⟩
  have d1 : Below w.heap.size w w1 := below_step (by repeat (first | exact Below.refl _ _ | refine below_drewN ?_ _ | refine Below.drew ?_ | refine Below.setCell ?_ (by first | (simp; done) | (simp; omega) | omega) _ | refine Below.alloc ?_ (by first | (simp; done) | (simp; omega) | omega) _)) b1
  have B1 := Lib.hid d1
  have A1 : Bk2 w1 (w.heap.size) (.int .i64 x0) (.int .i64 x1) := Bk2.of b1 (by simp <;> omega) (by intro j; simp [go_sem]) (by simp [go_sem]) (by simp [go_sem])
  have Bb1 : Bk2 w1 (w.heap.size + 1) (.int .i64 y0) (.int .i64 y1) := Bk2.of b1 (by simp <;> omega) (by intro j; simp [go_sem]) (by simp [go_sem]) (by simp [go_sem])
  have R1 : Bk2 w1 (w.heap.size + 2) (.int .i64 0) (.int .i64 0) := Bk2.of b1 (by simp <;> omega) (by intro j; simp [go_sem]) (by simp [go_sem]) (by simp [go_sem])
  clear b1 d1
  rw [H.out]
  have cA_b := A1.hb
  have cA_f := A1.fz
  have cA_0 := A1.k0
  have cA_1 := A1.k1
  have cBb_b := Bb1.hb
  have cBb_f := Bb1.fz
  have cBb_0 := Bb1.k0
  have cBb_1 := Bb1.k1
  have cR_b := R1.hb
  have cR_f := R1.fz
  have cR_0 := R1.k0
  have cR_1 := R1.k1
  go_wp2_with fail
  clear cA_b cA_f cA_0 cA_1 cBb_b cBb_f cBb_0 cBb_1 cR_b cR_f cR_0 cR_1
  refine (noontideref10_touch x0 x1 y0 y1 _).mono ?_; rintro e w2 ⟨rfl, b2⟩
  have d2 : Below w1.heap.size w1 w2 := below_step (by repeat (first | exact Below.refl _ _ | refine below_drewN ?_ _ | refine Below.drew ?_ | refine Below.setCell ?_ (by first | (simp; done) | (simp; omega) | omega) _ | refine Below.alloc ?_ (by first | (simp; done) | (simp; omega) | omega) _)) b2
  have B2 := Lib.hid (below_step B1.out d2)
  have A2 := A1.keep d2
  have Bb2 := Bb1.keep d2
  have R2 := R1.keep d2
  clear A1 Bb1 R1 b2 d2 B1
  rw [H2.out]
  have cA_b := A2.hb
  have cA_f := A2.fz
  have cA_0 := A2.k0
  have cA_1 := A2.k1
  have cBb_b := Bb2.hb
  have cBb_f := Bb2.fz
  have cBb_0 := Bb2.k0
  have cBb_1 := Bb2.k1
  have cR_b := R2.hb
  have cR_f := R2.fz
  have cR_0 := R2.k0
  have cR_1 := R2.k1
  go_wp2_with fail
  refine bodyPost_ret (v := .tuple #[.agg #[.int .i64 0, .int .i64 0], .bool false]) (by simp [results, Try.results86, go_sem, cA_b, cA_f, cA_0, cA_1, cBb_b, cBb_f, cBb_0, cBb_1, cR_b, cR_f, cR_0, cR_1]) rfl ⟨rfl, ?_⟩
  clear cA_b cA_f cA_0 cA_1 cBb_b cBb_f cBb_0 cBb_1 cR_b cR_f cR_0 cR_1
  exact (by have hz := B2.out.size; repeat (first | exact B2.out | refine below_drewN ?_ _ | refine Below.drew ?_ | refine Below.setCell ?_ (by first | omega | (simp; done) | (simp; omega)) _ | refine Below.alloc ?_ (by first | omega | (simp; done) | (simp; omega)) _))
set_option maxHeartbeats 1000000 in
theorem noontideref10_join_true (x0 x1 y0 y1 : Int) (w : World) (h : Sp.mt x0 x1 y0 y1 = false) (h2 : Sp.tc x0 x1 y0 y1 = true) :
    Calls Try.prog 86 #[.agg #[.int .i64 x0, .int .i64 x1], .agg #[.int .i64 y0, .int .i64 y1]] w fun e w' => e = .returned (.tuple #[.agg #[.int .i64 (min x0 y0), .int .i64 (max x1 y1)], .bool true]) ∧ Below w.heap.size w w' := by
  have H := Lib.hid h; clear h
  have H2 := Lib.hid h2; clear h2
  go_enter Try.func86, Try.ntmps86
  go_wp2_with fail
  refine (noontideref10_meet x0 x1 y0 y1 _).mono ?_; rintro e w1 ⟨rfl, b1⟩
  have d1 : Below w.heap.size w w1 := below_step (by repeat (first | exact Below.refl _ _ | refine below_drewN ?_ _ | refine Below.drew ?_ | refine Below.setCell ?_ (by first | (simp; done) | (simp; omega) | omega) _ | refine Below.alloc ?_ (by first | (simp; done) | (simp; omega) | omega) _)) b1
  have B1 := Lib.hid d1
  have A1 : Bk2 w1 (w.heap.size) (.int .i64 x0) (.int .i64 x1) := Bk2.of b1 (by simp <;> omega) (by intro j; simp [go_sem]) (by simp [go_sem]) (by simp [go_sem])
  have Bb1 : Bk2 w1 (w.heap.size + 1) (.int .i64 y0) (.int .i64 y1) := Bk2.of b1 (by simp <;> omega) (by intro j; simp [go_sem]) (by simp [go_sem]) (by simp [go_sem])
  have R1 : Bk2 w1 (w.heap.size + 2) (.int .i64 0) (.int .i64 0) := Bk2.of b1 (by simp <;> omega) (by intro j; simp [go_sem]) (by simp [go_sem]) (by simp [go_sem])
  clear b1 d1
  rw [H.out]
  have cA_b := A1.hb
  have cA_f := A1.fz
  have cA_0 := A1.k0
  have cA_1 := A1.k1
  have cBb_b := Bb1.hb
  have cBb_f := Bb1.fz
  have cBb_0 := Bb1.k0
  have cBb_1 := Bb1.k1
  have cR_b := R1.hb
  have cR_f := R1.fz
  have cR_0 := R1.k0
  have cR_1 := R1.k1
  go_wp2_with fail
  clear cA_b cA_f cA_0 cA_1 cBb_b cBb_f cBb_0 cBb_1 cR_b cR_f cR_0 cR_1
  refine (noontideref10_touch x0 x1 y0 y1 _).mono ?_; rintro e w2 ⟨rfl, b2⟩
  have d2 : Below w1.heap.size w1 w2 := below_step (by repeat (first | exact Below.refl _ _ | refine below_drewN ?_ _ | refine Below.drew ?_ | refine Below.setCell ?_ (by first | (simp; done) | (simp; omega) | omega) _ | refine Below.alloc ?_ (by first | (simp; done) | (simp; omega) | omega) _)) b2
  have B2 := Lib.hid (below_step B1.out d2)
  have A2 := A1.keep d2
  have Bb2 := Bb1.keep d2
  have R2 := R1.keep d2
  clear A1 Bb1 R1 b2 d2 B1
  rw [H2.out]
  have cA_b := A2.hb
  have cA_f := A2.fz
  have cA_0 := A2.k0
  have cA_1 := A2.k1
  have cBb_b := Bb2.hb
  have cBb_f := Bb2.fz
  have cBb_0 := Bb2.k0
  have cBb_1 := Bb2.k1
  have cR_b := R2.hb
  have cR_f := R2.fz
  have cR_0 := R2.k0
  have cR_1 := R2.k1
  go_wp2_with fail
  refine bodyPost_ret (v := .tuple #[.agg #[.int .i64 (min x0 y0), .int .i64 (max x1 y1)], .bool true]) (by simp [results, Try.results86, go_sem, cA_b, cA_f, cA_0, cA_1, cBb_b, cBb_f, cBb_0, cBb_1, cR_b, cR_f, cR_0, cR_1]) rfl ⟨rfl, ?_⟩
  clear cA_b cA_f cA_0 cA_1 cBb_b cBb_f cBb_0 cBb_1 cR_b cR_f cR_0 cR_1
  exact (by have hz := B2.out.size; repeat (first | exact B2.out | refine below_drewN ?_ _ | refine Below.drew ?_ | refine Below.setCell ?_ (by first | omega | (simp; done) | (simp; omega)) _ | refine Below.alloc ?_ (by first | omega | (simp; done) | (simp; omega)) _))
theorem noontideref10_join (x0 x1 y0 y1 : Int) (w : World) :
    Calls Try.prog 86 #[.agg #[.int .i64 x0, .int .i64 x1], .agg #[.int .i64 y0, .int .i64 y1]] w fun e w' => e = .returned (.tuple #[.agg #[.int .i64 (Sp.bz (Sp.jn x0 x1 y0 y1) (min x0 y0)), .int .i64 (Sp.bz (Sp.jn x0 x1 y0 y1) (max x1 y1))], .bool (Sp.jn x0 x1 y0 y1)]) ∧ Below w.heap.size w w' := by
  cases h : Sp.mt x0 x1 y0 y1
  · cases h2 : Sp.tc x0 x1 y0 y1
    · rw [show Sp.jn x0 x1 y0 y1 = false by unfold Sp.jn; rw [h, h2]; rfl]
      exact noontideref10_join_false x0 x1 y0 y1 w h h2
    · rw [show Sp.jn x0 x1 y0 y1 = true by unfold Sp.jn; rw [h, h2]; rfl]
      exact noontideref10_join_true x0 x1 y0 y1 w h h2
  · rw [show Sp.jn x0 x1 y0 y1 = true by unfold Sp.jn; rw [h]; rfl]
    exact noontideref10_join_m x0 x1 y0 y1 w h
end Go.Proofs.Ytmnmmbeageddkaa

