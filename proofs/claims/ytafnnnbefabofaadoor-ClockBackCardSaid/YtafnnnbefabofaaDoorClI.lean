/- The walk of ClockBack: whatever time of day, the law answers true; nothing old turns. -/
import Derived.Test.YtafnnnbefabofaaDoorClG
import Derived.Test.YtafnnnbefabofaaDoorClH
set_option linter.unusedVariables false
set_option linter.unusedSimpArgs false
namespace Go.Proofs.YtafnnnbefabofaaDoor
open Go.RowKit Go.Sort

theorem clback_walk (n b : Int) (w : World) (y : Int) (T : Cl.Tab w) (hm : w.cell? ⟨5, 0, none⟩ = some (.int .i64 y)) (htab : Lib.TabIs Tryd.prog w "internal/strconv.uint64pow10" .u64 Lib.pow10Tab) :
    Calls Tryd.prog 3 #[.agg #[.int .i64 n, .int .i64 b]] w fun e w' => e = .returned (.bool true) ∧ Below w.heap.size w w' := by
  cases hr : Cl.rB n b
  · exact clback_no n b w y T hm htab hr
  · obtain ⟨n0, n1, b0, b1⟩ := rB_iff.1 hr
    obtain rfl | rfl | rfl : b = 0 ∨ b = 1 ∨ b = 2 := by omega
    · exact clback_0 n w y T hm htab n0 n1
    · exact clback_1 n w y T hm htab n0 n1
    · exact clback_2 n w y T hm htab n0 n1
end Go.Proofs.YtafnnnbefabofaaDoor

