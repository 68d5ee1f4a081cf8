/- The contracts of num.Add and num.Sub at any numbers: what fits is told, what does not is refused. -/
import Derived.Test.YtmnmmbeageddkaaBk
set_option linter.unusedVariables false
set_option linter.unusedSimpArgs false
namespace Go.Proofs.Ytmnmmbeageddkaa
open Go.RowKit

namespace Nm
def fits (n : Int) : Bool := decide (-9223372036854775808 ≤ n ∧ n ≤ 9223372036854775807)
def okv (n : Int) : Int := if fits n then n else 0
def okw (n : Int) : Int := if fits n then 0 else 1
theorem fits_true {n : Int} : fits n = true ↔ -9223372036854775808 ≤ n ∧ n ≤ 9223372036854775807 := by unfold fits; simp
theorem ok_yes {n : Int} (h0 : -9223372036854775808 ≤ n) (h1 : n ≤ 9223372036854775807) : okv n = n ∧ okw n = 0 := by
  unfold okv okw; rw [fits_true.2 ⟨h0, h1⟩]; exact ⟨rfl, rfl⟩
theorem ok_no {n : Int} (h : n < -9223372036854775808 ∨ 9223372036854775807 < n) : okv n = 0 ∧ okw n = 1 := by
  have : fits n = false := by
    cases hf : fits n
    · rfl
    · have := fits_true.1 hf; omega
  unfold okv okw; rw [this]; exact ⟨rfl, rfl⟩
end Nm
end Go.Proofs.Ytmnmmbeageddkaa
