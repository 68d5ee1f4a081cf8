/- Kinds of numbers, and their order, as plain definitions. -/
import Derived.Test.YtnfjdjfajkdiiaaBk
import Derived.Test.YtnfjdjfajkdiiaaFlB
set_option linter.unusedVariables false
set_option linter.unusedSimpArgs false
namespace Go.Proofs.Ytnfjdjfajkdiiaa
open Go.RowKit

namespace Fl
/-- A kind, by its rank. -/
def kd (r : Nat) : Int := if r = 0 then 0 else if r = 4503599627370495 then 1 else if r < 9223372036854775807 then 2 else if r = 9223372036854775807 then 3 else if r = 9223372036854775808 then 4 else if r < 18442240474082181120 then 5 else 6
def sameB (a b : Nat) : Bool := rk a == rk b
def lessB (a b : Nat) : Bool := decide (rk a < rk b)
end Fl
end Go.Proofs.Ytnfjdjfajkdiiaa
