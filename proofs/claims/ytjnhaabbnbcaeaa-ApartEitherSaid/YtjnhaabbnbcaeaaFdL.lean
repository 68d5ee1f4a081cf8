/- Fields, in plain lists: marks, blanks, a field's text. -/
import Derived.Test.YtjnhaabbnbcaeaaBase
set_option linter.unusedVariables false
set_option linter.unusedSimpArgs false
namespace Go.Proofs.Ytjnhaabbnbcaeaa
namespace Fd
/-- A mark; a blank. -/
def isK (r : Nat) : Bool := (decide (r = 32) || decide (r = 9)) || (decide (r = 34) || decide (r = 35))
def isW (r : Nat) : Bool := decide (r = 32) || decide (r = 9)
def mkB (c : UInt8) : Bool := isK c.toNat
/-- A field's text. -/
def tx (l : List UInt8) : List UInt8 × Int := if l.contains 34 = true then ([], 8) else if l = [] ∨ l.any mkB = true then (34 :: (l ++ [34]), 0) else (l, 0)
end Fd
end Go.Proofs.Ytjnhaabbnbcaeaa
