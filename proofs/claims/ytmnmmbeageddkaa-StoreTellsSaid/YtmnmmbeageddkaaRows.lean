/-
  No cell of these rows narrows 'for every input' (looked for: loops, veiled, ifaces, maps, wideKeys, modest, calm, conditions, laid).
  DERIVED. THE GIVEN ROWS OF THIS SEAT. 5 by the template 'for every input the law returns true; each argument reads behind the call as it read before'; 0 by the template 'total and deterministic' (their statements: YtmnmmbeageddkaaTotals.lean).
  GIVEN WITH THE SEED: the statements are not yours to turn. If you find one false, say at which input.
  Laid BY PROGRAM, IN A SANDBOX (cutbox-rows.mjs): the forced cells as the released guide's own fill.sh prints them over the translation 4e1ddcaf271db0aa… (all of the seat's roots in one cut). By AI agents, Wed Nov 11 2026. No macro, syntax, notation, axiom, sorry.
-/
import Derived.Test.YtmnmmbeageddkaaChecked
import GoSem.Claim
import GoSem.ClaimJoined
import GoSem.ClaimMapViews
import Derived.JoinedTies
import Derived.KernelRfl
namespace Go.Proofs.Ytmnmmbeageddkaa
/- THE CELL 'sum', in the pinned program and in every row, IS THE sha256 OF THE DUMP (.gsa) THAT YtmnmmbeageddkaaProg.lean LOADS. Nothing in Lean hashes anything: it is a label: what it is worth is what the hold of that sum in a sandbox is worth. -/
noncomputable def Try.pinned : Pinned := { name := "ytmnmmbeageddkaa", sum := "4e1ddcaf271db0aad47783f1bec1c771de9aced1f348154b006b9d0d0900266a", checked := Try.checked }
namespace Rows
def none {H : Type} : Left H := { results := [], args := [] }

/-- 'noontidelaw38.StoreTells': WHATEVER THE INPUT: true; the input reads as it did. -/
def storeTellsSpec : ChangeSpec := { name := "storeTells", fn := fun _ => fun
  | [d1, d2] => { results := [.lit (.bool true)], args := [d1, d2] }
  | _ => none }
def storeTellsRow : OpenClaim := { program := "ytmnmmbeageddkaa", sum := "4e1ddcaf271db0aad47783f1bec1c771de9aced1f348154b006b9d0d0900266a", func := "noontide/noontidelaw38.StoreTells", spec := "storeTells", inPlace := ["slices.overlaps[*noontide/api.Info]"], unfollowed := true, recurses := true, apart := false }
def StoreTellsSaid : Prop := storeTellsRow.holds Try.pinned (OpenSpec.ofChange storeTellsSpec)

/-- ITS FALSE NEIGHBOUR: 'it returns false'. Refute it at one input. -/
def storeTellsWrong : ChangeSpec := { name := "storeTells", fn := fun _ => fun
  | [d1, d2] => { results := [.lit (.bool false)], args := [d1, d2] }
  | _ => none }
def StoreTellsWrongFalsely : Prop := storeTellsRow.holds Try.pinned (OpenSpec.ofChange storeTellsWrong)

/-- 'noontidelaw38.StoreOrder': WHATEVER THE INPUT: true; the input reads as it did. -/
def storeOrderSpec : ChangeSpec := { name := "storeOrder", fn := fun _ => fun
  | [d1, d2, d3] => { results := [.lit (.bool true)], args := [d1, d2, d3] }
  | _ => none }
def storeOrderRow : OpenClaim := { program := "ytmnmmbeageddkaa", sum := "4e1ddcaf271db0aad47783f1bec1c771de9aced1f348154b006b9d0d0900266a", func := "noontide/noontidelaw38.StoreOrder", spec := "storeOrder", inPlace := ["slices.overlaps[*noontide/api.Info]"], unfollowed := true, recurses := true, apart := false }
def StoreOrderSaid : Prop := storeOrderRow.holds Try.pinned (OpenSpec.ofChange storeOrderSpec)

/-- ITS FALSE NEIGHBOUR: 'it returns false'. Refute it at one input. -/
def storeOrderWrong : ChangeSpec := { name := "storeOrder", fn := fun _ => fun
  | [d1, d2, d3] => { results := [.lit (.bool false)], args := [d1, d2, d3] }
  | _ => none }
def StoreOrderWrongFalsely : Prop := storeOrderRow.holds Try.pinned (OpenSpec.ofChange storeOrderWrong)

/-- 'noontidelaw39.SeamTells': WHATEVER THE INPUT: true; the input reads as it did. -/
def seamTellsSpec : ChangeSpec := { name := "seamTells", fn := fun _ => fun
  | [d1, d2, d3] => { results := [.lit (.bool true)], args := [d1, d2, d3] }
  | _ => none }
def seamTellsRow : OpenClaim := { program := "ytmnmmbeageddkaa", sum := "4e1ddcaf271db0aad47783f1bec1c771de9aced1f348154b006b9d0d0900266a", func := "noontide/noontidelaw39.SeamTells", spec := "seamTells", unfollowed := true, recurses := true, apart := false }
def SeamTellsSaid : Prop := seamTellsRow.holds Try.pinned (OpenSpec.ofChange seamTellsSpec)

/-- ITS FALSE NEIGHBOUR: 'it returns false'. Refute it at one input. -/
def seamTellsWrong : ChangeSpec := { name := "seamTells", fn := fun _ => fun
  | [d1, d2, d3] => { results := [.lit (.bool false)], args := [d1, d2, d3] }
  | _ => none }
def SeamTellsWrongFalsely : Prop := seamTellsRow.holds Try.pinned (OpenSpec.ofChange seamTellsWrong)

/-- 'noontidelaw39.SeamSeconds': WHATEVER THE INPUT: true; the input reads as it did. -/
def seamSecondsSpec : ChangeSpec := { name := "seamSeconds", fn := fun _ => fun
  | [d1, d2, d3, d4] => { results := [.lit (.bool true)], args := [d1, d2, d3, d4] }
  | _ => none }
def seamSecondsRow : OpenClaim := { program := "ytmnmmbeageddkaa", sum := "4e1ddcaf271db0aad47783f1bec1c771de9aced1f348154b006b9d0d0900266a", func := "noontide/noontidelaw39.SeamSeconds", spec := "seamSeconds", unfollowed := true, recurses := true, apart := false }
def SeamSecondsSaid : Prop := seamSecondsRow.holds Try.pinned (OpenSpec.ofChange seamSecondsSpec)

/-- ITS FALSE NEIGHBOUR: 'it returns false'. Refute it at one input. -/
def seamSecondsWrong : ChangeSpec := { name := "seamSeconds", fn := fun _ => fun
  | [d1, d2, d3, d4] => { results := [.lit (.bool false)], args := [d1, d2, d3, d4] }
  | _ => none }
def SeamSecondsWrongFalsely : Prop := seamSecondsRow.holds Try.pinned (OpenSpec.ofChange seamSecondsWrong)

/-- 'noontidelaw39.SeamEither': WHATEVER THE INPUT: true; the input reads as it did. -/
def seamEitherSpec : ChangeSpec := { name := "seamEither", fn := fun _ => fun
  | [d1, d2, d3] => { results := [.lit (.bool true)], args := [d1, d2, d3] }
  | _ => none }
def seamEitherRow : OpenClaim := { program := "ytmnmmbeageddkaa", sum := "4e1ddcaf271db0aad47783f1bec1c771de9aced1f348154b006b9d0d0900266a", func := "noontide/noontidelaw39.SeamEither", spec := "seamEither", unfollowed := true, recurses := true, apart := false }
def SeamEitherSaid : Prop := seamEitherRow.holds Try.pinned (OpenSpec.ofChange seamEitherSpec)

/-- ITS FALSE NEIGHBOUR: 'it returns false'. Refute it at one input. -/
def seamEitherWrong : ChangeSpec := { name := "seamEither", fn := fun _ => fun
  | [d1, d2, d3] => { results := [.lit (.bool false)], args := [d1, d2, d3] }
  | _ => none }
def SeamEitherWrongFalsely : Prop := seamEitherRow.holds Try.pinned (OpenSpec.ofChange seamEitherWrong)

/- THE SECOND FORM. 'bulk': how many values and letters a reading holds, each counted each time it is reached (what is shared counts as often as it is met; a slice's spare places count too). A statement '..UptoSaid' is the law's where the arguments, and the package variables that the reading takes, are together of bulk at most 1048576: NARROWER than '..Said'. Prove '..Said' where nothing that the law and all that it calls make is longer than what came in: it says more and counts as full. Else prove '..UptoSaid'. A law counts once. -/
mutual
def uptoBulk {H : Type} : DataW H → Nat
  | .lit (.string bytes) => bytes.length + 1
  | .lit _ => 1
  | .nil => 1
  | .ptr d => uptoBulk d + 1
  | .slice elems spare => uptoBulkAll elems + uptoBulkAll spare + 1
  | .agg parts => uptoBulkAll parts + 1
  | .iface _ d => uptoBulk d + 1
  | .map entries => uptoBulkEntries entries + 1
  | .held _ => 1
def uptoBulkAll {H : Type} : List (DataW H) → Nat
  | [] => 0
  | d :: r => uptoBulk d + uptoBulkAll r
def uptoBulkEntries {H : Type} : List (Lit × DataW H) → Nat
  | [] => 0
  | x :: r => uptoBulkEntry x + uptoBulkEntries r
def uptoBulkEntry {H : Type} : Lit × DataW H → Nat
  | (.string bytes, d) => bytes.length + uptoBulk d + 1
  | (_, d) => uptoBulk d + 1
 end
def uptoSmall : (H : Type) → List (DataW H) → Bool := fun _ ds => decide (uptoBulkAll ds ≤ 1048576)
def OpenSpec.upto (s : _root_.Go.ChangeSpec) : _root_.Go.OpenSpec := { _root_.Go.OpenSpec.ofChange s with cond := some uptoSmall }

/-- 'noontidelaw38.StoreTells', WHERE WHAT IT READS IS OF BULK AT MOST 1048576: true; the input reads as it did. -/
def storeTellsUptoRow : OpenClaim := { program := "ytmnmmbeageddkaa", sum := "4e1ddcaf271db0aad47783f1bec1c771de9aced1f348154b006b9d0d0900266a", func := "noontide/noontidelaw38.StoreTells", spec := "storeTells", inPlace := ["slices.overlaps[*noontide/api.Info]"], unfollowed := true, recurses := true, apart := false, narrowed := true }
def StoreTellsUptoSaid : Prop := storeTellsUptoRow.holds Try.pinned (OpenSpec.upto storeTellsSpec)

/-- 'noontidelaw38.StoreOrder', WHERE WHAT IT READS IS OF BULK AT MOST 1048576: true; the input reads as it did. -/
def storeOrderUptoRow : OpenClaim := { program := "ytmnmmbeageddkaa", sum := "4e1ddcaf271db0aad47783f1bec1c771de9aced1f348154b006b9d0d0900266a", func := "noontide/noontidelaw38.StoreOrder", spec := "storeOrder", inPlace := ["slices.overlaps[*noontide/api.Info]"], unfollowed := true, recurses := true, apart := false, narrowed := true }
def StoreOrderUptoSaid : Prop := storeOrderUptoRow.holds Try.pinned (OpenSpec.upto storeOrderSpec)

/-- 'noontidelaw39.SeamTells', WHERE WHAT IT READS IS OF BULK AT MOST 1048576: true; the input reads as it did. -/
def seamTellsUptoRow : OpenClaim := { program := "ytmnmmbeageddkaa", sum := "4e1ddcaf271db0aad47783f1bec1c771de9aced1f348154b006b9d0d0900266a", func := "noontide/noontidelaw39.SeamTells", spec := "seamTells", unfollowed := true, recurses := true, apart := false, narrowed := true }
def SeamTellsUptoSaid : Prop := seamTellsUptoRow.holds Try.pinned (OpenSpec.upto seamTellsSpec)

/-- 'noontidelaw39.SeamSeconds', WHERE WHAT IT READS IS OF BULK AT MOST 1048576: true; the input reads as it did. -/
def seamSecondsUptoRow : OpenClaim := { program := "ytmnmmbeageddkaa", sum := "4e1ddcaf271db0aad47783f1bec1c771de9aced1f348154b006b9d0d0900266a", func := "noontide/noontidelaw39.SeamSeconds", spec := "seamSeconds", unfollowed := true, recurses := true, apart := false, narrowed := true }
def SeamSecondsUptoSaid : Prop := seamSecondsUptoRow.holds Try.pinned (OpenSpec.upto seamSecondsSpec)

/-- 'noontidelaw39.SeamEither', WHERE WHAT IT READS IS OF BULK AT MOST 1048576: true; the input reads as it did. -/
def seamEitherUptoRow : OpenClaim := { program := "ytmnmmbeageddkaa", sum := "4e1ddcaf271db0aad47783f1bec1c771de9aced1f348154b006b9d0d0900266a", func := "noontide/noontidelaw39.SeamEither", spec := "seamEither", unfollowed := true, recurses := true, apart := false, narrowed := true }
def SeamEitherUptoSaid : Prop := seamEitherUptoRow.holds Try.pinned (OpenSpec.upto seamEitherSpec)

end Rows
end Go.Proofs.Ytmnmmbeageddkaa
