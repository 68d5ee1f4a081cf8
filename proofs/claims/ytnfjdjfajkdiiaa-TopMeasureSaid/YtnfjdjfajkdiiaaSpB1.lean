/- Spans of seconds: the contracts of Len. -/
import Derived.Test.YtnfjdjfajkdiiaaSpB0
import Derived.Test.YtnfjdjfajkdiiaaNumH
set_option linter.unusedVariables false
set_option linter.unusedSimpArgs false
namespace Go.Proofs.Ytnfjdjfajkdiiaa
open Go.RowKit Go.Sort

set_option maxHeartbeats 1000000 in
theorem span_len (x0 x1 : Int) (w : World) (h0 : -9223372036854775808 ≤ x0) (h1 : x0 ≤ 9223372036854775807) (k0 : -9223372036854775808 ≤ x1) (k1 : x1 ≤ 9223372036854775807) :
    Calls Try.prog 27 #[.agg #[.int .i64 x0, .int .i64 x1]] w fun e w' => e = .returned (.tuple #[.int .i64 (Sp.ln x0 x1), .int .i64 (Sp.lw x0 x1)]) ∧ Below w.heap.size w w' := by
  cases h : Sp.rb x0 x1
  · have H := Lib.hid h
    rw [show Sp.ln x0 x1 = 0 by unfold Sp.ln; rw [h]; rfl, show Sp.lw x0 x1 = 1 by unfold Sp.lw; rw [h]; rfl]
    clear h
    go_enter Try.func27, Try.ntmps27
    go_wp2_with fail
    refine (span_right x0 x1 _).mono ?_; rintro e w1 ⟨rfl, b1⟩
    have d1 : Below w.heap.size w w1 := below_step (by repeat (first | exact Below.refl _ _ | refine below_drewN ?_ _ | refine Below.drew ?_ | refine Below.setCell ?_ (by first | (simp; done) | (simp; omega) | omega) _ | refine Below.alloc ?_ (by first | (simp; done) | (simp; omega) | omega) _)) b1
    have B1 := Lib.hid d1
    have A1 : Bk2 w1 (w.heap.size) (.int .i64 x0) (.int .i64 x1) := Bk2.of b1 (by simp <;> omega) (by intro j; simp [go_sem]) (by simp [go_sem]) (by simp [go_sem])
    clear b1 d1
    rw [H.out]
    have cA_b := A1.hb
    have cA_f := A1.fz
    have cA_0 := A1.k0
    have cA_1 := A1.k1
    go_wp2_with fail
    clear cA_b cA_f cA_0 cA_1
    go_ret2
    exact ⟨rfl, (by have hz := B1.out.size; repeat (first | exact B1.out | refine below_drewN ?_ _ | refine Below.drew ?_ | refine Below.setCell ?_ (by first | omega | (simp; done) | (simp; omega)) _ | refine Below.alloc ?_ (by first | omega | (simp; done) | (simp; omega)) _))⟩
  · have H := Lib.hid h
    rw [show Sp.ln x0 x1 = Nm.okv (x1 - x0) by unfold Sp.ln; rw [h]; rfl, show Sp.lw x0 x1 = Nm.okw (x1 - x0) by unfold Sp.lw; rw [h]; rfl]
    clear h
    go_enter Try.func27, Try.ntmps27
    go_wp2_with fail
    refine (span_right x0 x1 _).mono ?_; rintro e w1 ⟨rfl, b1⟩
    have d1 : Below w.heap.size w w1 := below_step (by repeat (first | exact Below.refl _ _ | refine below_drewN ?_ _ | refine Below.drew ?_ | refine Below.setCell ?_ (by first | (simp; done) | (simp; omega) | omega) _ | refine Below.alloc ?_ (by first | (simp; done) | (simp; omega) | omega) _)) b1
    have B1 := Lib.hid d1
    have A1 : Bk2 w1 (w.heap.size) (.int .i64 x0) (.int .i64 x1) := Bk2.of b1 (by simp <;> omega) (by intro j; simp [go_sem]) (by simp [go_sem]) (by simp [go_sem])
    clear b1 d1
    rw [H.out]
    have cA_b := A1.hb
    have cA_f := A1.fz
    have cA_0 := A1.k0
    have cA_1 := A1.k1
    go_wp2_with fail
    clear cA_b cA_f cA_0 cA_1
    refine (num_sub x1 x0 _ k0 k1 h0 h1).mono ?_; rintro e w2 ⟨rfl, b2⟩
    have d2 : Below w1.heap.size w1 w2 := below_step (by repeat (first | exact Below.refl _ _ | refine below_drewN ?_ _ | refine Below.drew ?_ | refine Below.setCell ?_ (by first | (simp; done) | (simp; omega) | omega) _ | refine Below.alloc ?_ (by first | (simp; done) | (simp; omega) | omega) _)) b2
    have B2 := Lib.hid (below_step B1.out d2)
    have A2 := A1.keep d2
    clear A1 b2 d2 B1
    have cA_b := A2.hb
    have cA_f := A2.fz
    have cA_0 := A2.k0
    have cA_1 := A2.k1
    go_wp2_with fail
    clear cA_b cA_f cA_0 cA_1
    go_ret2
    exact ⟨rfl, (by have hz := B2.out.size; repeat (first | exact B2.out | refine below_drewN ?_ _ | refine Below.drew ?_ | refine Below.setCell ?_ (by first | omega | (simp; done) | (simp; omega)) _ | refine Below.alloc ?_ (by first | omega | (simp; done) | (simp; omega)) _))⟩
set_option maxHeartbeats 1000000 in
theorem noontideref10_len (x0 x1 : Int) (w : World) (h0 : -9223372036854775808 ≤ x0) (h1 : x0 ≤ 9223372036854775807) (k0 : -9223372036854775808 ≤ x1) (k1 : x1 ≤ 9223372036854775807) :
    Calls Try.prog 31 #[.agg #[.int .i64 x0, .int .i64 x1]] w fun e w' => e = .returned (.tuple #[.int .i64 (Sp.ln x0 x1), .int .i64 (Sp.lw x0 x1)]) ∧ Below w.heap.size w w' := by
  cases h : Sp.rb x0 x1
  · have H := Lib.hid h
    rw [show Sp.ln x0 x1 = 0 by unfold Sp.ln; rw [h]; rfl, show Sp.lw x0 x1 = 1 by unfold Sp.lw; rw [h]; rfl]
    clear h
    go_enter Try.func31, Try.ntmps31
    go_wp2_with fail
    refine (noontideref10_right x0 x1 _).mono ?_; rintro e w1 ⟨rfl, b1⟩
    have d1 : Below w.heap.size w w1 := below_step (by repeat (first | exact Below.refl _ _ | refine below_drewN ?_ _ | refine Below.drew ?_ | refine Below.setCell ?_ (by first | (simp; done) | (simp; omega) | omega) _ | refine Below.alloc ?_ (by first | (simp; done) | (simp; omega) | omega) _)) b1
    have B1 := Lib.hid d1
    have A1 : Bk2 w1 (w.heap.size) (.int .i64 x0) (.int .i64 x1) := Bk2.of b1 (by simp <;> omega) (by intro j; simp [go_sem]) (by simp [go_sem]) (by simp [go_sem])
    clear b1 d1
    rw [H.out]
    have cA_b := A1.hb
    have cA_f := A1.fz
    have cA_0 := A1.k0
    have cA_1 := A1.k1
    go_wp2_with fail
    clear cA_b cA_f cA_0 cA_1
    go_ret2
    exact ⟨rfl, (by have hz := B1.out.size; repeat (first | exact B1.out | refine below_drewN ?_ _ | refine Below.drew ?_ | refine Below.setCell ?_ (by first | omega | (simp; done) | (simp; omega)) _ | refine Below.alloc ?_ (by first | omega | (simp; done) | (simp; omega)) _))⟩
  · have H := Lib.hid h
    rw [show Sp.ln x0 x1 = Nm.okv (x1 - x0) by unfold Sp.ln; rw [h]; rfl, show Sp.lw x0 x1 = Nm.okw (x1 - x0) by unfold Sp.lw; rw [h]; rfl]
    clear h
    go_enter Try.func31, Try.ntmps31
    go_wp2_with fail
    refine (noontideref10_right x0 x1 _).mono ?_; rintro e w1 ⟨rfl, b1⟩
    have d1 : Below w.heap.size w w1 := below_step (by repeat (first | exact Below.refl _ _ | refine below_drewN ?_ _ | refine Below.drew ?_ | refine Below.setCell ?_ (by first | (simp; done) | (simp; omega) | omega) _ | refine Below.alloc ?_ (by first | (simp; done) | (simp; omega) | omega) _)) b1
    have B1 := Lib.hid d1
    have A1 : Bk2 w1 (w.heap.size) (.int .i64 x0) (.int .i64 x1) := Bk2.of b1 (by simp <;> omega) (by intro j; simp [go_sem]) (by simp [go_sem]) (by simp [go_sem])
    clear b1 d1
    rw [H.out]
    have cA_b := A1.hb
    have cA_f := A1.fz
    have cA_0 := A1.k0
    have cA_1 := A1.k1
    go_wp2_with fail
    clear cA_b cA_f cA_0 cA_1
    refine (noontideref01_sub x1 x0 _ k0 k1 h0 h1).mono ?_; rintro e w2 ⟨rfl, b2⟩
    have d2 : Below w1.heap.size w1 w2 := below_step (by repeat (first | exact Below.refl _ _ | refine below_drewN ?_ _ | refine Below.drew ?_ | refine Below.setCell ?_ (by first | (simp; done) | (simp; omega) | omega) _ | refine Below.alloc ?_ (by first | (simp; done) | (simp; omega) | omega) _)) b2
    have B2 := Lib.hid (below_step B1.out d2)
    have A2 := A1.keep d2
    clear A1 b2 d2 B1
    have cA_b := A2.hb
    have cA_f := A2.fz
    have cA_0 := A2.k0
    have cA_1 := A2.k1
    go_wp2_with fail
    clear cA_b cA_f cA_0 cA_1
    go_ret2
    exact ⟨rfl, (by have hz := B2.out.size; repeat (first | exact B2.out | refine below_drewN ?_ _ | refine Below.drew ?_ | refine Below.setCell ?_ (by first | omega | (simp; done) | (simp; omega)) _ | refine Below.alloc ?_ (by first | omega | (simp; done) | (simp; omega)) _))⟩
end Go.Proofs.Ytnfjdjfajkdiiaa

