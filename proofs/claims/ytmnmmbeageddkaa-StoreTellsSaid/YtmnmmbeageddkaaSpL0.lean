/- Lists of spans: what one leaves of another, as lists; a call that answers a list. -/
import Derived.Test.YtmnmmbeageddkaaSpB0
import Derived.Test.YtmnmmbeageddkaaSl
set_option linter.unusedVariables false
set_option linter.unusedSimpArgs false
namespace Go.Proofs.Ytmnmmbeageddkaa
open Go.RowKit Go.Sort

namespace Sp
def one (x y : Int) : List (Int × Int) := if rb x y then [(x, y)] else []
/-- What is left of one span without another. -/
def less (x0 x1 y0 y1 : Int) : List (Int × Int) := if mt x0 x1 y0 y1 then one x0 (max x0 y0) ++ one (min x1 y1) x1 else one x0 x1
end Sp
theorem info_span : (Try.prog.info? 32).map (fun i => (i.zero, i.size, i.bytes)) = some (some (.agg #[.int .i64 0, .int .i64 0]), 2, 16) := by kernel_rfl
/-- A call that answers a list of spans, and turns nothing old. -/
def AnsS (l : List (Int × Int)) (w : World) (e : Ending) (w' : World) : Prop := ∃ v, SpV w' v l ∧ e = .returned v ∧ Below w.heap.size w w'
end Go.Proofs.Ytmnmmbeageddkaa

