/- The contract of the reference's Fits. -/
import Derived.Test.YtlehbnfocilcmabDrR
set_option linter.unusedVariables false
set_option linter.unusedSimpArgs false
namespace Go.Proofs.Ytlehbnfocilcmab
open Go.RowKit Go.Sort

theorem roright_b (k wk d : Int) (b : Bool) (w : World) (h : Dr.onR k wk d = b) :
    Calls Try.prog 17 #[.agg #[.int .i64 k, .int .i64 wk, .int .i64 d]] w fun e w' => e = .returned (.bool b) ∧ Below w.heap.size w w' := by
  rw [← h]; exact roright_any k wk d w
set_option maxHeartbeats 2000000 in
theorem rofits_any (k wk d m : Int) (w : World) :
    Calls Try.prog 19 #[.agg #[.int .i64 k, .int .i64 wk, .int .i64 d], .int .i64 m] w fun e w' => e = .returned (.bool (Dr.onF k wk d m)) ∧ Below w.heap.size w w' := by
  cases hr : Dr.onR k wk d
  · have HR := Lib.hid hr; clear hr
    go_enter Try.func19, Try.ntmps19
    go_wp2_with fail
    refine wp_named ?_; intro w1 hw1
    have d1 : Below w.heap.size w w1 := by rw [hw1]; exact (by repeat (first | exact Below.refl _ _ | refine below_drewN ?_ _ | refine Below.drew ?_ | refine Below.setCell ?_ (by simp) _ | refine Below.alloc ?_ (by simp) _))
    have B1 := Lib.hid d1
    have O1 : Bk3 w1 (w.heap.size) (.int .i64 k) (.int .i64 wk) (.int .i64 d) := by rw [hw1]; exact ⟨by simp <;> omega, by simp [go_sem], by simp [go_sem], by simp [go_sem]⟩
    clear d1 hw1
    have qO_0 := cell_regrown O1.k0
    have qO_1 := cell_regrown O1.k1
    have qO_2 := cell_regrown O1.k2
    refine wp_region_qb (w := w1) (by kernel_rfl) (by kernel_rfl) (by repeat (first | exact Below.refl _ _ | refine below_drewN ?_ _ | refine Below.drew ?_ | refine Below.setCell ?_ (by simp) _ | refine Below.alloc ?_ (by simp) _)) ?_
    repeat (any_goals (first | go_big_quiet_step (first | (go_at_call 17; exact Calls.regrown_of (roright_b k wk d false _ HR.out))) | quiet_step (first | (go_at_call 17; exact Calls.regrown_of (roright_b k wk d false _ HR.out)))))
    refine wpQuiet_nil ?_
    intro w2 hq
    have b2 : Below w1.heap.size w1 w2 := by obtain ⟨p, hq⟩ := hq; rw [hq]; exact below_regrown _ _ _
    clear hq qO_0 qO_1 qO_2
    have d2 : Below w1.heap.size w1 w2 := below_step (by repeat (first | exact Below.refl _ _ | refine below_drewN ?_ _ | refine Below.drew ?_ | refine Below.setCell ?_ (by simp) _ | refine Below.alloc ?_ (by simp) _)) b2
    have B2 := Lib.hid (below_step B1.out d2)
    have O2 := O1.keep d2
    clear O1 b2 d2 B1
    go_wp2
    go_ret
    refine ⟨fits_br (by rw [Dr.onF_true]; simp [HR.out]), ?_⟩
    exact below_step B2.out (by repeat (first | exact Below.refl _ _ | refine below_drewN ?_ _ | refine Below.drew ?_ | refine Below.setCell ?_ (by simp) _ | refine Below.alloc ?_ (by simp) _))
  · have HR := Lib.hid hr; clear hr
    by_cases h1 : 1 ≤ m
    · by_cases h2 : m ≤ 12
      · go_enter Try.func19, Try.ntmps19
        go_wp2_with fail
        refine wp_named ?_; intro w1 hw1
        have d1 : Below w.heap.size w w1 := by rw [hw1]; exact (by repeat (first | exact Below.refl _ _ | refine below_drewN ?_ _ | refine Below.drew ?_ | refine Below.setCell ?_ (by simp) _ | refine Below.alloc ?_ (by simp) _))
        have B1 := Lib.hid d1
        have O1 : Bk3 w1 (w.heap.size) (.int .i64 k) (.int .i64 wk) (.int .i64 d) := by rw [hw1]; exact ⟨by simp <;> omega, by simp [go_sem], by simp [go_sem], by simp [go_sem]⟩
        clear d1 hw1
        have qO_0 := cell_regrown O1.k0
        have qO_1 := cell_regrown O1.k1
        have qO_2 := cell_regrown O1.k2
        refine wp_region_qb (w := w1) (by kernel_rfl) (by kernel_rfl) (by repeat (first | exact Below.refl _ _ | refine below_drewN ?_ _ | refine Below.drew ?_ | refine Below.setCell ?_ (by simp) _ | refine Below.alloc ?_ (by simp) _)) ?_
        repeat (any_goals (first | go_big_quiet_step (first | (go_at_call 17; exact Calls.regrown_of (roright_b k wk d true _ HR.out)) | (go_at_call 42; exact Calls.regrown_of (rlen_any _ _ _))) | quiet_step (first | (go_at_call 17; exact Calls.regrown_of (roright_b k wk d true _ HR.out)) | (go_at_call 42; exact Calls.regrown_of (rlen_any _ _ _)))))
        refine wpQuiet_nil ?_
        intro w2 hq
        have b2 : Below w1.heap.size w1 w2 := by obtain ⟨p, hq⟩ := hq; rw [hq]; exact below_regrown _ _ _
        clear hq qO_0 qO_1 qO_2
        have d2 : Below w1.heap.size w1 w2 := below_step (by repeat (first | exact Below.refl _ _ | refine below_drewN ?_ _ | refine Below.drew ?_ | refine Below.setCell ?_ (by simp) _ | refine Below.alloc ?_ (by simp) _)) b2
        have B2 := Lib.hid (below_step B1.out d2)
        have O2 := O1.keep d2
        clear O1 b2 d2 B1
        go_wp2
        go_ret
        refine ⟨fits_br (by rw [Dr.onF_true]; simp [HR.out]; omega), ?_⟩
        exact below_step B2.out (by repeat (first | exact Below.refl _ _ | refine below_drewN ?_ _ | refine Below.drew ?_ | refine Below.setCell ?_ (by simp) _ | refine Below.alloc ?_ (by simp) _))
      · have h2' : decide (m ≤ 12) = false := by simpa using h2
        go_enter Try.func19, Try.ntmps19
        go_wp2_with fail
        refine wp_named ?_; intro w1 hw1
        have d1 : Below w.heap.size w w1 := by rw [hw1]; exact (by repeat (first | exact Below.refl _ _ | refine below_drewN ?_ _ | refine Below.drew ?_ | refine Below.setCell ?_ (by simp) _ | refine Below.alloc ?_ (by simp) _))
        have B1 := Lib.hid d1
        have O1 : Bk3 w1 (w.heap.size) (.int .i64 k) (.int .i64 wk) (.int .i64 d) := by rw [hw1]; exact ⟨by simp <;> omega, by simp [go_sem], by simp [go_sem], by simp [go_sem]⟩
        clear d1 hw1
        have qO_0 := cell_regrown O1.k0
        have qO_1 := cell_regrown O1.k1
        have qO_2 := cell_regrown O1.k2
        refine wp_region_qb (w := w1) (by kernel_rfl) (by kernel_rfl) (by repeat (first | exact Below.refl _ _ | refine below_drewN ?_ _ | refine Below.drew ?_ | refine Below.setCell ?_ (by simp) _ | refine Below.alloc ?_ (by simp) _)) ?_
        repeat (any_goals (first | go_big_quiet_step (first | (go_at_call 17; exact Calls.regrown_of (roright_b k wk d true _ HR.out))) | quiet_step (first | (go_at_call 17; exact Calls.regrown_of (roright_b k wk d true _ HR.out)))))
        refine wpQuiet_nil ?_
        intro w2 hq
        have b2 : Below w1.heap.size w1 w2 := by obtain ⟨p, hq⟩ := hq; rw [hq]; exact below_regrown _ _ _
        clear hq qO_0 qO_1 qO_2
        have d2 : Below w1.heap.size w1 w2 := below_step (by repeat (first | exact Below.refl _ _ | refine below_drewN ?_ _ | refine Below.drew ?_ | refine Below.setCell ?_ (by simp) _ | refine Below.alloc ?_ (by simp) _)) b2
        have B2 := Lib.hid (below_step B1.out d2)
        have O2 := O1.keep d2
        clear O1 b2 d2 B1
        go_wp2
        go_ret
        refine ⟨fits_br (by rw [Dr.onF_true]; simp [HR.out]; omega), ?_⟩
        exact below_step B2.out (by repeat (first | exact Below.refl _ _ | refine below_drewN ?_ _ | refine Below.drew ?_ | refine Below.setCell ?_ (by simp) _ | refine Below.alloc ?_ (by simp) _))
    · have h1' : decide (1 ≤ m) = false := by simpa using h1
      go_enter Try.func19, Try.ntmps19
      go_wp2_with fail
      refine wp_named ?_; intro w1 hw1
      have d1 : Below w.heap.size w w1 := by rw [hw1]; exact (by repeat (first | exact Below.refl _ _ | refine below_drewN ?_ _ | refine Below.drew ?_ | refine Below.setCell ?_ (by simp) _ | refine Below.alloc ?_ (by simp) _))
      have B1 := Lib.hid d1
      have O1 : Bk3 w1 (w.heap.size) (.int .i64 k) (.int .i64 wk) (.int .i64 d) := by rw [hw1]; exact ⟨by simp <;> omega, by simp [go_sem], by simp [go_sem], by simp [go_sem]⟩
      clear d1 hw1
      have qO_0 := cell_regrown O1.k0
      have qO_1 := cell_regrown O1.k1
      have qO_2 := cell_regrown O1.k2
      refine wp_region_qb (w := w1) (by kernel_rfl) (by kernel_rfl) (by repeat (first | exact Below.refl _ _ | refine below_drewN ?_ _ | refine Below.drew ?_ | refine Below.setCell ?_ (by simp) _ | refine Below.alloc ?_ (by simp) _)) ?_
      repeat (any_goals (first | go_big_quiet_step (first | (go_at_call 17; exact Calls.regrown_of (roright_b k wk d true _ HR.out))) | quiet_step (first | (go_at_call 17; exact Calls.regrown_of (roright_b k wk d true _ HR.out)))))
      refine wpQuiet_nil ?_
      intro w2 hq
      have b2 : Below w1.heap.size w1 w2 := by obtain ⟨p, hq⟩ := hq; rw [hq]; exact below_regrown _ _ _
      clear hq qO_0 qO_1 qO_2
      have d2 : Below w1.heap.size w1 w2 := below_step (by repeat (first | exact Below.refl _ _ | refine below_drewN ?_ _ | refine Below.drew ?_ | refine Below.setCell ?_ (by simp) _ | refine Below.alloc ?_ (by simp) _)) b2
      have B2 := Lib.hid (below_step B1.out d2)
      have O2 := O1.keep d2
      clear O1 b2 d2 B1
      go_wp2
      go_ret
      refine ⟨fits_br (by rw [Dr.onF_true]; simp [HR.out]; omega), ?_⟩
      exact below_step B2.out (by repeat (first | exact Below.refl _ _ | refine below_drewN ?_ _ | refine Below.drew ?_ | refine Below.setCell ?_ (by simp) _ | refine Below.alloc ?_ (by simp) _))
end Go.Proofs.Ytlehbnfocilcmab

