/- Whether a span is right, its answer told ahead. -/
import Derived.Test.YtmnmmbeageddkaaSpA0
import Derived.Test.YtmnmmbeageddkaaSl
set_option linter.unusedVariables false
set_option linter.unusedSimpArgs false
namespace Go.Proofs.Ytmnmmbeageddkaa
open Go.RowKit Go.Sort

theorem span_right_on (x0 x1 : Int) (b : Bool) (h : Sp.rb x0 x1 = b) (w : World) :
    Calls Try.prog 37 #[.agg #[.int .i64 x0, .int .i64 x1]] w fun e w' => e = .returned (.bool b) ∧ Below w.heap.size w w' := by
  rw [← h]; exact span_right x0 x1 w
theorem noontideref10_right_on (x0 x1 : Int) (b : Bool) (h : Sp.rb x0 x1 = b) (w : World) :
    Calls Try.prog 41 #[.agg #[.int .i64 x0, .int .i64 x1]] w fun e w' => e = .returned (.bool b) ∧ Below w.heap.size w w' := by
  rw [← h]; exact noontideref10_right x0 x1 w
end Go.Proofs.Ytmnmmbeageddkaa

