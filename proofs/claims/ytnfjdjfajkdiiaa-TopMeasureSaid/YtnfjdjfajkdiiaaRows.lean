/-
  No cell of these rows narrows 'for every input' (looked for: loops, veiled, ifaces, maps, wideKeys, modest, calm, conditions, laid).
  DERIVED. THE GIVEN ROWS OF THIS SEAT. 4 by the template 'for every input the law returns true; each argument reads behind the call as it read before'; 0 by the template 'total and deterministic' (their statements: YtnfjdjfajkdiiaaTotals.lean).
  GIVEN WITH THE SEED: the statements are not yours to turn. If you find one false, say at which input.
  Laid BY PROGRAM, IN A SANDBOX (cutbox-rows.mjs): the forced cells as the released guide's own fill.sh prints them over the translation 0189b8bc7d9520e8… (all of the seat's roots in one cut). By AI agents, Wed Nov 11 2026. No macro, syntax, notation, axiom, sorry.
-/
import Derived.Test.YtnfjdjfajkdiiaaChecked
import GoSem.Claim
import GoSem.ClaimJoined
import GoSem.ClaimMapViews
import Derived.JoinedTies
import Derived.KernelRfl
namespace Go.Proofs.Ytnfjdjfajkdiiaa
/- THE CELL 'sum', in the pinned program and in every row, IS THE sha256 OF THE DUMP (.gsa) THAT YtnfjdjfajkdiiaaProg.lean LOADS. Nothing in Lean hashes anything: it is a label: what it is worth is what the hold of that sum in a sandbox is worth. -/
noncomputable def Try.pinned : Pinned := { name := "ytnfjdjfajkdiiaa", sum := "0189b8bc7d9520e8fb4ee4ad7295e4ba71c2214879f87da3bae7818ee623ebd1", checked := Try.checked }
namespace Rows
def none {H : Type} : Left H := { results := [], args := [] }

/-- 'noontidelaw11.SpansTell': WHATEVER THE INPUT: true; the input reads as it did. -/
def spansTellSpec : ChangeSpec := { name := "spansTell", fn := fun _ => fun
  | [d1, d2, d3, d4] => { results := [.lit (.bool true)], args := [d1, d2, d3, d4] }
  | _ => none }
def spansTellRow : OpenClaim := { program := "ytnfjdjfajkdiiaa", sum := "0189b8bc7d9520e8fb4ee4ad7295e4ba71c2214879f87da3bae7818ee623ebd1", func := "noontide/noontidelaw11.SpansTell", spec := "spansTell", unfollowed := true, recurses := true, apart := false }
def SpansTellSaid : Prop := spansTellRow.holds Try.pinned (OpenSpec.ofChange spansTellSpec)

/-- ITS FALSE NEIGHBOUR: 'it returns false'. Refute it at one input. -/
def spansTellWrong : ChangeSpec := { name := "spansTell", fn := fun _ => fun
  | [d1, d2, d3, d4] => { results := [.lit (.bool false)], args := [d1, d2, d3, d4] }
  | _ => none }
def SpansTellWrongFalsely : Prop := spansTellRow.holds Try.pinned (OpenSpec.ofChange spansTellWrong)

/-- 'noontidelaw11.SpansSeconds': WHATEVER THE INPUT: true; the input reads as it did. -/
def spansSecondsSpec : ChangeSpec := { name := "spansSeconds", fn := fun _ => fun
  | [d1, d2, d3, d4] => { results := [.lit (.bool true)], args := [d1, d2, d3, d4] }
  | _ => none }
def spansSecondsRow : OpenClaim := { program := "ytnfjdjfajkdiiaa", sum := "0189b8bc7d9520e8fb4ee4ad7295e4ba71c2214879f87da3bae7818ee623ebd1", func := "noontide/noontidelaw11.SpansSeconds", spec := "spansSeconds", unfollowed := true, recurses := true, apart := false }
def SpansSecondsSaid : Prop := spansSecondsRow.holds Try.pinned (OpenSpec.ofChange spansSecondsSpec)

/-- ITS FALSE NEIGHBOUR: 'it returns false'. Refute it at one input. -/
def spansSecondsWrong : ChangeSpec := { name := "spansSeconds", fn := fun _ => fun
  | [d1, d2, d3, d4] => { results := [.lit (.bool false)], args := [d1, d2, d3, d4] }
  | _ => none }
def SpansSecondsWrongFalsely : Prop := spansSecondsRow.holds Try.pinned (OpenSpec.ofChange spansSecondsWrong)

/-- 'noontidelaw11.SpansAlgebra': WHATEVER THE INPUT: true; the input reads as it did. -/
def spansAlgebraSpec : ChangeSpec := { name := "spansAlgebra", fn := fun _ => fun
  | [d1, d2] => { results := [.lit (.bool true)], args := [d1, d2] }
  | _ => none }
def spansAlgebraRow : OpenClaim := { program := "ytnfjdjfajkdiiaa", sum := "0189b8bc7d9520e8fb4ee4ad7295e4ba71c2214879f87da3bae7818ee623ebd1", func := "noontide/noontidelaw11.SpansAlgebra", spec := "spansAlgebra", unfollowed := true, recurses := true, apart := false }
def SpansAlgebraSaid : Prop := spansAlgebraRow.holds Try.pinned (OpenSpec.ofChange spansAlgebraSpec)

/-- ITS FALSE NEIGHBOUR: 'it returns false'. Refute it at one input. -/
def spansAlgebraWrong : ChangeSpec := { name := "spansAlgebra", fn := fun _ => fun
  | [d1, d2] => { results := [.lit (.bool false)], args := [d1, d2] }
  | _ => none }
def SpansAlgebraWrongFalsely : Prop := spansAlgebraRow.holds Try.pinned (OpenSpec.ofChange spansAlgebraWrong)

/-- 'noontidetop.TopMeasure': WHATEVER THE INPUT: true; the input reads as it did. -/
def topMeasureSpec : ChangeSpec := { name := "topMeasure", fn := fun _ => fun
  | [d1, d2] => { results := [.lit (.bool true)], args := [d1, d2] }
  | _ => none }
def topMeasureRow : OpenClaim := { program := "ytnfjdjfajkdiiaa", sum := "0189b8bc7d9520e8fb4ee4ad7295e4ba71c2214879f87da3bae7818ee623ebd1", func := "noontide/noontidetop.TopMeasure", spec := "topMeasure", unfollowed := true, recurses := true, apart := false }
def TopMeasureSaid : Prop := topMeasureRow.holds Try.pinned (OpenSpec.ofChange topMeasureSpec)

/-- ITS FALSE NEIGHBOUR: 'it returns false'. Refute it at one input. -/
def topMeasureWrong : ChangeSpec := { name := "topMeasure", fn := fun _ => fun
  | [d1, d2] => { results := [.lit (.bool false)], args := [d1, d2] }
  | _ => none }
def TopMeasureWrongFalsely : Prop := topMeasureRow.holds Try.pinned (OpenSpec.ofChange topMeasureWrong)

/- THE SECOND FORM. 'bulk': how many values and letters a reading holds, each counted each time it is reached (what is shared counts as often as it is met; a slice's spare places count too). A statement '..UptoSaid' is the law's where the arguments, and the package variables that the reading takes, are together of bulk at most 1048576: NARROWER than '..Said'. Prove '..Said' where nothing that the law and all that it calls make is longer than what came in: it says more and counts as full. Else prove '..UptoSaid'. A law counts once. -/
mutual
def uptoBulk {H : Type} : DataW H → Nat
  | .lit (.string bytes) => bytes.length + 1
  | .lit _ => 1
  | .nil => 1
  | .ptr d => uptoBulk d + 1
  | .slice elems spare => uptoBulkAll elems + uptoBulkAll spare + 1
  | .agg parts => uptoBulkAll parts + 1
  | .iface _ d => uptoBulk d + 1
  | .map entries => uptoBulkEntries entries + 1
  | .held _ => 1
def uptoBulkAll {H : Type} : List (DataW H) → Nat
  | [] => 0
  | d :: r => uptoBulk d + uptoBulkAll r
def uptoBulkEntries {H : Type} : List (Lit × DataW H) → Nat
  | [] => 0
  | x :: r => uptoBulkEntry x + uptoBulkEntries r
def uptoBulkEntry {H : Type} : Lit × DataW H → Nat
  | (.string bytes, d) => bytes.length + uptoBulk d + 1
  | (_, d) => uptoBulk d + 1
 end
def uptoSmall : (H : Type) → List (DataW H) → Bool := fun _ ds => decide (uptoBulkAll ds ≤ 1048576)
def OpenSpec.upto (s : _root_.Go.ChangeSpec) : _root_.Go.OpenSpec := { _root_.Go.OpenSpec.ofChange s with cond := some uptoSmall }

/-- 'noontidelaw11.SpansTell', WHERE WHAT IT READS IS OF BULK AT MOST 1048576: true; the input reads as it did. -/
def spansTellUptoRow : OpenClaim := { program := "ytnfjdjfajkdiiaa", sum := "0189b8bc7d9520e8fb4ee4ad7295e4ba71c2214879f87da3bae7818ee623ebd1", func := "noontide/noontidelaw11.SpansTell", spec := "spansTell", unfollowed := true, recurses := true, apart := false, narrowed := true }
def SpansTellUptoSaid : Prop := spansTellUptoRow.holds Try.pinned (OpenSpec.upto spansTellSpec)

/-- 'noontidelaw11.SpansSeconds', WHERE WHAT IT READS IS OF BULK AT MOST 1048576: true; the input reads as it did. -/
def spansSecondsUptoRow : OpenClaim := { program := "ytnfjdjfajkdiiaa", sum := "0189b8bc7d9520e8fb4ee4ad7295e4ba71c2214879f87da3bae7818ee623ebd1", func := "noontide/noontidelaw11.SpansSeconds", spec := "spansSeconds", unfollowed := true, recurses := true, apart := false, narrowed := true }
def SpansSecondsUptoSaid : Prop := spansSecondsUptoRow.holds Try.pinned (OpenSpec.upto spansSecondsSpec)

/-- 'noontidelaw11.SpansAlgebra', WHERE WHAT IT READS IS OF BULK AT MOST 1048576: true; the input reads as it did. -/
def spansAlgebraUptoRow : OpenClaim := { program := "ytnfjdjfajkdiiaa", sum := "0189b8bc7d9520e8fb4ee4ad7295e4ba71c2214879f87da3bae7818ee623ebd1", func := "noontide/noontidelaw11.SpansAlgebra", spec := "spansAlgebra", unfollowed := true, recurses := true, apart := false, narrowed := true }
def SpansAlgebraUptoSaid : Prop := spansAlgebraUptoRow.holds Try.pinned (OpenSpec.upto spansAlgebraSpec)

/-- 'noontidetop.TopMeasure', WHERE WHAT IT READS IS OF BULK AT MOST 1048576: true; the input reads as it did. -/
def topMeasureUptoRow : OpenClaim := { program := "ytnfjdjfajkdiiaa", sum := "0189b8bc7d9520e8fb4ee4ad7295e4ba71c2214879f87da3bae7818ee623ebd1", func := "noontide/noontidetop.TopMeasure", spec := "topMeasure", unfollowed := true, recurses := true, apart := false, narrowed := true }
def TopMeasureUptoSaid : Prop := topMeasureUptoRow.holds Try.pinned (OpenSpec.upto topMeasureSpec)

end Rows
end Go.Proofs.Ytnfjdjfajkdiiaa
