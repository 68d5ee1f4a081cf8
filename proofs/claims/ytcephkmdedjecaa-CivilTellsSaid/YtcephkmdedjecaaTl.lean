/- What the walk of CivilTells needs of weekdays. -/
import Derived.Test.YtcephkmdedjecaaLiv3
import Derived.Test.YtcephkmdedjecaaRefC
import Derived.Test.YtcephkmdedjecaaRefD
set_option linter.unusedVariables false
set_option linter.unusedSimpArgs false
namespace Go.Proofs.Ytcephkmdedjecaa
open Go.RowKit

theorem weekday_b (n : Int) (w : World) (ha : -9223372036854775808 ≤ n) (ha' : n ≤ 9223372036854775807) :
    Calls Try.prog 37 #[.int .i64 n] w fun e w' => e = .returned (.int .i64 ((n + 4) % 7)) ∧ Below w.heap.size w w' :=
  (weekday_any n w ha ha').mono fun _ _ ⟨h, k, e⟩ => ⟨h, by rw [e]; exact below_draw _ _⟩
theorem rweekday_b (n : Int) (w : World) (ha : -9223372036854775808 ≤ n) (ha' : n ≤ 9223372036854775807) :
    Calls Try.prog 38 #[.int .i64 n] w fun e w' => e = .returned (.int .i64 ((n + 4) % 7)) ∧ Below w.heap.size w w' :=
  (rweekday_any n w ha ha').mono fun _ _ ⟨h, k, e⟩ => ⟨h, by rw [e]; exact below_draw _ _⟩
end Go.Proofs.Ytcephkmdedjecaa
