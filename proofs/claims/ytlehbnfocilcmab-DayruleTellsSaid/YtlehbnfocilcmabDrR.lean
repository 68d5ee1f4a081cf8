/- The contracts of the reference's functions on names of days: Right, Fits, Days, Window. -/
import Derived.Test.YtlehbnfocilcmabDrC
import Derived.Test.YtlehbnfocilcmabCivT
import Derived.Test.YtlehbnfocilcmabRefB
set_option linter.unusedVariables false
set_option linter.unusedSimpArgs false
namespace Go.Proofs.Ytlehbnfocilcmab
open Go.RowKit

set_option maxHeartbeats 1000000 in
theorem roright_any (k wk d : Int) (w : World) :
    Calls Try.prog 17 #[.agg #[.int .i64 k, .int .i64 wk, .int .i64 d]] w fun e w' => e = .returned (.bool (Dr.onR k wk d)) ∧ Below w.heap.size w w' := by
  by_cases h1 : 1 ≤ d
  · by_cases h2 : 0 ≤ wk
    · by_cases hk : k = 0 ∨ k = 1 ∨ k = 2 ∨ k = 3
      · rcases hk with rfl | rfl | rfl | rfl
        all_goals
          go_enter Try.func17, Try.ntmps17
          go_wp2
          all_goals
            go_ret
            refine ⟨?_, by go_grown⟩
            exact on_br (by rw [Dr.onR_true]; simp; omega)
      · have b0 : (k == 0) = false := by simp; omega
        have b1 : (k == 1) = false := by simp; omega
        have b2 : (k == 2) = false := by simp; omega
        have b3 : (k == 3) = false := by simp; omega
        go_enter Try.func17, Try.ntmps17
        go_wp2
        all_goals
          go_ret
          refine ⟨?_, by go_grown⟩
          exact on_br (by rw [Dr.onR_true]; simp; omega)
    · have h2' : decide (0 ≤ wk) = false := by simpa using h2
      by_cases hk : k = 0 ∨ k = 1 ∨ k = 2 ∨ k = 3
      · rcases hk with rfl | rfl | rfl | rfl
        all_goals
          go_enter Try.func17, Try.ntmps17
          go_wp2
          all_goals
            go_ret
            refine ⟨?_, by go_grown⟩
            exact on_br (by rw [Dr.onR_true]; simp; omega)
      · have b0 : (k == 0) = false := by simp; omega
        have b1 : (k == 1) = false := by simp; omega
        have b2 : (k == 2) = false := by simp; omega
        have b3 : (k == 3) = false := by simp; omega
        go_enter Try.func17, Try.ntmps17
        go_wp2
        all_goals
          go_ret
          refine ⟨?_, by go_grown⟩
          exact on_br (by rw [Dr.onR_true]; simp; omega)
  · have h1' : decide (1 ≤ d) = false := by simpa using h1
    by_cases h2 : 0 ≤ wk
    · by_cases hk : k = 0 ∨ k = 1 ∨ k = 2 ∨ k = 3
      · rcases hk with rfl | rfl | rfl | rfl
        all_goals
          go_enter Try.func17, Try.ntmps17
          go_wp2
          all_goals
            go_ret
            refine ⟨?_, by go_grown⟩
            exact on_br (by rw [Dr.onR_true]; simp; omega)
      · have b0 : (k == 0) = false := by simp; omega
        have b1 : (k == 1) = false := by simp; omega
        have b2 : (k == 2) = false := by simp; omega
        have b3 : (k == 3) = false := by simp; omega
        go_enter Try.func17, Try.ntmps17
        go_wp2
        all_goals
          go_ret
          refine ⟨?_, by go_grown⟩
          exact on_br (by rw [Dr.onR_true]; simp; omega)
    · have h2' : decide (0 ≤ wk) = false := by simpa using h2
      by_cases hk : k = 0 ∨ k = 1 ∨ k = 2 ∨ k = 3
      · rcases hk with rfl | rfl | rfl | rfl
        all_goals
          go_enter Try.func17, Try.ntmps17
          go_wp2
          all_goals
            go_ret
            refine ⟨?_, by go_grown⟩
            exact on_br (by rw [Dr.onR_true]; simp; omega)
      · have b0 : (k == 0) = false := by simp; omega
        have b1 : (k == 1) = false := by simp; omega
        have b2 : (k == 2) = false := by simp; omega
        have b3 : (k == 3) = false := by simp; omega
        go_enter Try.func17, Try.ntmps17
        go_wp2
        all_goals
          go_ret
          refine ⟨?_, by go_grown⟩
          exact on_br (by rw [Dr.onR_true]; simp; omega)

end Go.Proofs.Ytlehbnfocilcmab

