/- giveup: what is panicked with; NeedAt, Need: they hand on, or give up. -/
import Derived.Test.YtnkmpchonlajpaaDoorBase
import Derived.Tactics
import Derived.Tactics2
import Derived.Defers
import Derived.Recover
import Derived.Laws.Pointers
set_option linter.unusedVariables false
set_option linter.unusedSimpArgs false
namespace Go.Proofs.YtnkmpchonlajpaaDoor
open Go.RowKit

/-- What is panicked with: the line, why. -/
def gvV (line why : Int) : Value := .iface 72 (.agg #[.int .i64 line, .int .i64 why])
def gvL (line why : Int) : List PanicEntry := [{ v := gvV line why, recovered := false }]
abbrev gvP (why : Int) : List PanicEntry := gvL 0 why
theorem needat_yes (line why : Int) (w : World) : Calls Tryd.prog 47 #[.bool true, .int .i64 line, .int .i64 why] w fun e w' => e = .returned (.tuple #[]) ∧ w = w' := by
  go_enter Tryd.func47, Tryd.ntmps47
  go_wp2_with fail
  simp [bodyPost, results, Tryd.results47]
theorem gv_build (line why : Int) (W : World) : Sem.run Tryd.prog (Instr.build 72 #[(0, .agg #[.int .i64 line, .int .i64 why])]) W = .ok (.agg #[.int .i64 line, .int .i64 why]) W := by kernel_rfl
theorem needat_no (line why : Int) (w : World) : Calls Tryd.prog 47 #[.bool false, .int .i64 line, .int .i64 why] w fun e w' => e = .panicked (gvL line why) ∧ w = w' := by
  have hgb := gv_build line why
  go_enter Tryd.func47, Tryd.ntmps47
  go_wp2_with fail
  simp [bodyPost, gvL, gvV]
theorem need_yes (why : Int) (w : World) : Calls Tryd.prog 33 #[.bool true, .int .i64 why] w fun e w' => e = .returned (.tuple #[]) ∧ w = w' := by
  go_enter Tryd.func33, Tryd.ntmps33
  go_wp2_with fail
  refine (needat_yes 0 why _).mono ?_; rintro e w1 ⟨rfl, rfl⟩
  go_wp2_with fail
  simp [bodyPost, results, Tryd.results33]
theorem need_no (why : Int) (w : World) : Calls Tryd.prog 33 #[.bool false, .int .i64 why] w fun e w' => e = .panicked (gvP why) ∧ w = w' := by
  go_enter Tryd.func33, Tryd.ntmps33
  go_wp2_with fail
  refine (needat_no 0 why _).mono ?_; rintro e w1 ⟨rfl, rfl⟩
  refine (show bodyPost _ _ _ (Exit.panic (gvP why)) _ _ from ?_)
  simp [bodyPost]
end Go.Proofs.YtnkmpchonlajpaaDoor
