/- giveup: what is panicked with; NeedAt, Need: they hand on, or give up. -/
import Derived.Test.YtndophkojnfcaaaBase
import Derived.Tactics
import Derived.Tactics2
import Derived.Defers
import Derived.Recover
import Derived.Laws.Pointers
set_option linter.unusedVariables false
set_option linter.unusedSimpArgs false
namespace Go.Proofs.Ytndophkojnfcaaa
open Go.RowKit

/-- What is panicked with: the line, why. -/
def gvV (line why : Int) : Value := .iface 119 (.agg #[.int .i64 line, .int .i64 why])
def gvL (line why : Int) : List PanicEntry := [{ v := gvV line why, recovered := false }]
abbrev gvP (why : Int) : List PanicEntry := gvL 0 why
theorem needat_yes (line why : Int) (w : World) : Calls Try.prog 89 #[.bool true, .int .i64 line, .int .i64 why] w fun e w' => e = .returned (.tuple #[]) ∧ w = w' := by
  go_enter Try.func89, Try.ntmps89
  go_wp2_with fail
  simp [bodyPost, results, Try.results89]
theorem gv_build (line why : Int) (W : World) : Sem.run Try.prog (Instr.build 119 #[(0, .agg #[.int .i64 line, .int .i64 why])]) W = .ok (.agg #[.int .i64 line, .int .i64 why]) W := by kernel_rfl
theorem needat_no (line why : Int) (w : World) : Calls Try.prog 89 #[.bool false, .int .i64 line, .int .i64 why] w fun e w' => e = .panicked (gvL line why) ∧ w = w' := by
  have hgb := gv_build line why
  go_enter Try.func89, Try.ntmps89
  go_wp2_with fail
  simp [bodyPost, gvL, gvV]
theorem need_yes (why : Int) (w : World) : Calls Try.prog 66 #[.bool true, .int .i64 why] w fun e w' => e = .returned (.tuple #[]) ∧ w = w' := by
  go_enter Try.func66, Try.ntmps66
  go_wp2_with fail
  refine (needat_yes 0 why _).mono ?_; rintro e w1 ⟨rfl, rfl⟩
  go_wp2_with fail
  simp [bodyPost, results, Try.results66]
theorem need_no (why : Int) (w : World) : Calls Try.prog 66 #[.bool false, .int .i64 why] w fun e w' => e = .panicked (gvP why) ∧ w = w' := by
  go_enter Try.func66, Try.ntmps66
  go_wp2_with fail
  refine (needat_no 0 why _).mono ?_; rintro e w1 ⟨rfl, rfl⟩
  refine (show bodyPost _ _ _ (Exit.panic (gvP why)) _ _ from ?_)
  simp [bodyPost]
end Go.Proofs.Ytndophkojnfcaaa
