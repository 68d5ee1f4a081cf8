/- giveup: the reason that a deferred call finds. -/
import Derived.Test.YtndophkojnfcaaaGvN
import Derived.Test.YtndophkojnfcaaaBk
set_option linter.unusedVariables false
set_option linter.unusedSimpArgs false
namespace Go.Proofs.Ytndophkojnfcaaa
open Go.RowKit

theorem gv_assert (line why : Int) (W : World) : Sem.run Try.prog (Instr.typeAssert (Value.iface 119 (Value.agg #[Value.int IntKind.i64 line, Value.int IntKind.i64 why])) 20 119 true) W = .ok (.tuple #[.agg #[.int .i64 line, .int .i64 why], .bool true]) W := by
  kernel_rfl
end Go.Proofs.Ytndophkojnfcaaa
