/- May a stamp be? Its text. -/
import Derived.Test.YtfcabofhlgmkjaaDoorCivT
import Derived.Test.YtfcabofhlgmkjaaDoorTx
set_option linter.unusedVariables false
namespace Go.Proofs.YtfcabofhlgmkjaaDoor
open Go.RowKit

namespace St
/-- May a stamp be? -/
def rB (y m d h i s : Int) : Bool := rightB y m d && (decide (0 ≤ h) && (decide (h < 24) && (decide (0 ≤ i) && (decide (i < 60) && (decide (0 ≤ s) && decide (s < 60))))))
theorem rB_true {y m d h i s : Int} : rB y m d h i s = true ↔ rightB y m d = true ∧ 0 ≤ h ∧ h < 24 ∧ 0 ≤ i ∧ i < 60 ∧ 0 ≤ s ∧ s < 60 := by unfold rB; simp
end St
namespace St
/-- A stamp's text; nothing of one that may not be. -/
def tx (y m d h i s : Int) : List UInt8 := if rB y m d h i s then Tx.txt y m d h i s else []
end St
end Go.Proofs.YtfcabofhlgmkjaaDoor
