/- real.Kind at 0.5. -/
import Derived.Test.YtlonbjllgiebhaaDoorBase
set_option linter.unusedVariables false
set_option linter.unusedSimpArgs false
namespace Go.Proofs.YtlonbjllgiebhaaDoor
open Go.RowKit

set_option maxHeartbeats 1000000 in
set_option maxRecDepth 100000 in
theorem rank_half (w : World) : Calls Tryd.prog 17 #[.float .f64 4602678819172646912] w fun e w' => e = .returned (.int .u64 13826050856027422720) ∧ w = w' := by
  have hb : ∀ w, (callFunc 26 #[.float .f64 4602678819172646912]).run Tryd.prog w = .ok (.value (.int .u64 4602678819172646912)) w := fun _ => by kernel_rfl
  go_enter Tryd.func17, Tryd.ntmps17
  go_wp2
  go_ret
  refine ⟨?_, rfl⟩
  show Ending.returned (.int .u64 (bits BinOp.or IntKind.u64 4602678819172646912 9223372036854775808)) = _
  rw [show bits BinOp.or IntKind.u64 4602678819172646912 9223372036854775808 = 13826050856027422720 by kernel_rfl]

set_option maxHeartbeats 1000000 in
set_option maxRecDepth 100000 in
theorem kind_half (w : World) : Calls Tryd.prog 11 #[.float .f64 4602678819172646912] w fun e w' => e = .returned (.int .i64 5) ∧ Below w.heap.size w w' := by
  go_enter Tryd.func11, Tryd.ntmps11
  go_wp2_with fail
  refine (rank_half _).mono ?_; rintro e w1 ⟨rfl, rfl⟩
  go_wp2_with fail
  go_ret
  exact ⟨rfl, Below.refl _ _⟩
end Go.Proofs.YtlonbjllgiebhaaDoor
