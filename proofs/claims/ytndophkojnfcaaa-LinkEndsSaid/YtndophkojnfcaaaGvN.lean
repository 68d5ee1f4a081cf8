/- giveup: For. -/
import Derived.Test.YtndophkojnfcaaaGvN0
set_option linter.unusedVariables false
set_option linter.unusedSimpArgs false
namespace Go.Proofs.Ytndophkojnfcaaa
open Go.RowKit

theorem for_yes (w : World) : Calls Try.prog 67 #[.int .i64 0] w fun e w' => e = .returned (.tuple #[]) ∧ w = w' := by
  go_enter Try.func67, Try.ntmps67
  go_wp2_with fail
  refine (need_yes 0 _).mono ?_; rintro e w1 ⟨rfl, rfl⟩
  go_wp2_with fail
  simp [bodyPost, results, Try.results67]
theorem for_no (why : Int) (w : World) (h : why ≠ 0) : Calls Try.prog 67 #[.int .i64 why] w fun e w' => e = .panicked (gvP why) ∧ w = w' := by
  have g : (why == 0) = false := by rw [beq_eq_false_iff_ne]; exact h
  clear h
  go_enter Try.func67, Try.ntmps67
  go_wp2_with fail
  refine (need_no why _).mono ?_; rintro e w1 ⟨rfl, rfl⟩
  refine (show bodyPost _ _ _ (Exit.panic (gvP why)) _ _ from ?_)
  simp [bodyPost]
end Go.Proofs.Ytndophkojnfcaaa
