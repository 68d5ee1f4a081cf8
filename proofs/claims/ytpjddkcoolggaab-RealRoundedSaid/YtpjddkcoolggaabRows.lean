/-
  No cell of these rows narrows 'for every input' (looked for: loops, veiled, ifaces, maps, wideKeys, modest, calm, conditions, laid).
  DERIVED. THE GIVEN ROWS OF THIS SEAT. 9 by the template 'for every input the law returns true; each argument reads behind the call as it read before'; 0 by the template 'total and deterministic' (their statements: YtpjddkcoolggaabTotals.lean).
  GIVEN WITH THE SEED: the statements are not yours to turn. If you find one false, say at which input.
  Laid BY PROGRAM, IN A SANDBOX (cutbox-rows.mjs): the forced cells as the released guide's own fill.sh prints them over the translation 0f392b3b25913bf7… (all of the seat's roots in one cut). By AI agents, Wed Nov 11 2026. No macro, syntax, notation, axiom, sorry.
-/
import Derived.Test.YtpjddkcoolggaabChecked
import GoSem.Claim
import GoSem.ClaimJoined
import GoSem.ClaimMapViews
import Derived.JoinedTies
import Derived.KernelRfl
namespace Go.Proofs.Ytpjddkcoolggaab
/- THE CELL 'sum', in the pinned program and in every row, IS THE sha256 OF THE DUMP (.gsa) THAT YtpjddkcoolggaabProg.lean LOADS. Nothing in Lean hashes anything: it is a label: what it is worth is what the hold of that sum in a sandbox is worth. -/
noncomputable def Try.pinned : Pinned := { name := "ytpjddkcoolggaab", sum := "0f392b3b25913bf775d25d79e583cfd0cffd3e11d6adf7b4256cf9f257a4788f", checked := Try.checked }
namespace Rows
def none {H : Type} : Left H := { results := [], args := [] }

/-- 'noontidelaw02.RealTells': WHATEVER THE INPUT: true; the input reads as it did. -/
def realTellsSpec : ChangeSpec := { name := "realTells", fn := fun _ => fun
  | [d1, d2, d3, d4, d5] => { results := [.lit (.bool true)], args := [d1, d2, d3, d4, d5] }
  | _ => none }
def realTellsRow : OpenClaim := { program := "ytpjddkcoolggaab", sum := "0f392b3b25913bf775d25d79e583cfd0cffd3e11d6adf7b4256cf9f257a4788f", func := "noontide/noontidelaw02.RealTells", spec := "realTells", inPlace := ["math.Float64bits", "math.archFloor", "math.Float64frombits", "math.archTrunc", "math.archCeil", "math.RoundToEven"], unfollowed := true, recurses := true, apart := false }
def RealTellsSaid : Prop := realTellsRow.holds Try.pinned (OpenSpec.ofChange realTellsSpec)

/-- ITS FALSE NEIGHBOUR: 'it returns false'. Refute it at one input. -/
def realTellsWrong : ChangeSpec := { name := "realTells", fn := fun _ => fun
  | [d1, d2, d3, d4, d5] => { results := [.lit (.bool false)], args := [d1, d2, d3, d4, d5] }
  | _ => none }
def RealTellsWrongFalsely : Prop := realTellsRow.holds Try.pinned (OpenSpec.ofChange realTellsWrong)

/-- 'noontidelaw02.RealOrder': WHATEVER THE INPUT: true; the input reads as it did. -/
def realOrderSpec : ChangeSpec := { name := "realOrder", fn := fun _ => fun
  | [d1, d2, d3] => { results := [.lit (.bool true)], args := [d1, d2, d3] }
  | _ => none }
def realOrderRow : OpenClaim := { program := "ytpjddkcoolggaab", sum := "0f392b3b25913bf775d25d79e583cfd0cffd3e11d6adf7b4256cf9f257a4788f", func := "noontide/noontidelaw02.RealOrder", spec := "realOrder", inPlace := ["math.Float64bits", "math.archFloor", "math.Float64frombits", "math.archTrunc", "math.archCeil", "math.RoundToEven"], unfollowed := true, recurses := true, apart := false }
def RealOrderSaid : Prop := realOrderRow.holds Try.pinned (OpenSpec.ofChange realOrderSpec)

/-- ITS FALSE NEIGHBOUR: 'it returns false'. Refute it at one input. -/
def realOrderWrong : ChangeSpec := { name := "realOrder", fn := fun _ => fun
  | [d1, d2, d3] => { results := [.lit (.bool false)], args := [d1, d2, d3] }
  | _ => none }
def RealOrderWrongFalsely : Prop := realOrderRow.holds Try.pinned (OpenSpec.ofChange realOrderWrong)

/-- 'noontidelaw02.RealRounded': WHATEVER THE INPUT: true; the input reads as it did. -/
def realRoundedSpec : ChangeSpec := { name := "realRounded", fn := fun _ => fun
  | [d1, d2] => { results := [.lit (.bool true)], args := [d1, d2] }
  | _ => none }
def realRoundedRow : OpenClaim := { program := "ytpjddkcoolggaab", sum := "0f392b3b25913bf775d25d79e583cfd0cffd3e11d6adf7b4256cf9f257a4788f", func := "noontide/noontidelaw02.RealRounded", spec := "realRounded", inPlace := ["math.Float64bits", "math.archFloor", "math.Float64frombits", "math.archTrunc", "math.archCeil", "math.RoundToEven"], unfollowed := true, recurses := true, apart := false }
def RealRoundedSaid : Prop := realRoundedRow.holds Try.pinned (OpenSpec.ofChange realRoundedSpec)

/-- ITS FALSE NEIGHBOUR: 'it returns false'. Refute it at one input. -/
def realRoundedWrong : ChangeSpec := { name := "realRounded", fn := fun _ => fun
  | [d1, d2] => { results := [.lit (.bool false)], args := [d1, d2] }
  | _ => none }
def RealRoundedWrongFalsely : Prop := realRoundedRow.holds Try.pinned (OpenSpec.ofChange realRoundedWrong)

/-- 'noontidelaw08.JulianTells': WHATEVER THE INPUT: true; the input reads as it did. -/
def julianTellsSpec : ChangeSpec := { name := "julianTells", fn := fun _ => fun
  | [d1, d2, d3] => { results := [.lit (.bool true)], args := [d1, d2, d3] }
  | _ => none }
def julianTellsRow : OpenClaim := { program := "ytpjddkcoolggaab", sum := "0f392b3b25913bf775d25d79e583cfd0cffd3e11d6adf7b4256cf9f257a4788f", func := "noontide/noontidelaw08.JulianTells", spec := "julianTells", inPlace := ["math.archFloor", "math.Float64bits", "math.Float64frombits", "math.archTrunc", "math.archCeil", "math.RoundToEven"], apart := false }
def JulianTellsSaid : Prop := julianTellsRow.holds Try.pinned (OpenSpec.ofChange julianTellsSpec)

/-- ITS FALSE NEIGHBOUR: 'it returns false'. Refute it at one input. -/
def julianTellsWrong : ChangeSpec := { name := "julianTells", fn := fun _ => fun
  | [d1, d2, d3] => { results := [.lit (.bool false)], args := [d1, d2, d3] }
  | _ => none }
def JulianTellsWrongFalsely : Prop := julianTellsRow.holds Try.pinned (OpenSpec.ofChange julianTellsWrong)

/-- 'noontidelaw09.LonTells': WHATEVER THE INPUT: true; the input reads as it did. -/
def lonTellsSpec : ChangeSpec := { name := "lonTells", fn := fun _ => fun
  | [d1, d2, d3] => { results := [.lit (.bool true)], args := [d1, d2, d3] }
  | _ => none }
def lonTellsRow : OpenClaim := { program := "ytpjddkcoolggaab", sum := "0f392b3b25913bf775d25d79e583cfd0cffd3e11d6adf7b4256cf9f257a4788f", func := "noontide/noontidelaw09.LonTells", spec := "lonTells", inPlace := ["math.archFloor", "math.Float64bits", "math.Float64frombits", "math.archTrunc", "math.archCeil", "math.RoundToEven"], apart := false }
def LonTellsSaid : Prop := lonTellsRow.holds Try.pinned (OpenSpec.ofChange lonTellsSpec)

/-- ITS FALSE NEIGHBOUR: 'it returns false'. Refute it at one input. -/
def lonTellsWrong : ChangeSpec := { name := "lonTells", fn := fun _ => fun
  | [d1, d2, d3] => { results := [.lit (.bool false)], args := [d1, d2, d3] }
  | _ => none }
def LonTellsWrongFalsely : Prop := lonTellsRow.holds Try.pinned (OpenSpec.ofChange lonTellsWrong)

/-- 'noontidetop.TopHours': WHATEVER THE INPUT: true; the input reads as it did. -/
def topHoursSpec : ChangeSpec := { name := "topHours", fn := fun _ => fun
  | [d1, d2, d3] => { results := [.lit (.bool true)], args := [d1, d2, d3] }
  | _ => none }
def topHoursRow : OpenClaim := { program := "ytpjddkcoolggaab", sum := "0f392b3b25913bf775d25d79e583cfd0cffd3e11d6adf7b4256cf9f257a4788f", func := "noontide/noontidetop.TopHours", spec := "topHours", inPlace := ["math.archFloor", "math.Float64bits", "math.Float64frombits", "math.archTrunc", "math.archCeil", "math.RoundToEven"], apart := false }
def TopHoursSaid : Prop := topHoursRow.holds Try.pinned (OpenSpec.ofChange topHoursSpec)

/-- ITS FALSE NEIGHBOUR: 'it returns false'. Refute it at one input. -/
def topHoursWrong : ChangeSpec := { name := "topHours", fn := fun _ => fun
  | [d1, d2, d3] => { results := [.lit (.bool false)], args := [d1, d2, d3] }
  | _ => none }
def TopHoursWrongFalsely : Prop := topHoursRow.holds Try.pinned (OpenSpec.ofChange topHoursWrong)

/-- 'noontidetop.TopWeekdays': WHATEVER THE INPUT: true; the input reads as it did. -/
def topWeekdaysSpec : ChangeSpec := { name := "topWeekdays", fn := fun _ => fun
  | [d] => { results := [.lit (.bool true)], args := [d] }
  | _ => none }
def topWeekdaysRow : OpenClaim := { program := "ytpjddkcoolggaab", sum := "0f392b3b25913bf775d25d79e583cfd0cffd3e11d6adf7b4256cf9f257a4788f", func := "noontide/noontidetop.TopWeekdays", spec := "topWeekdays", inPlace := ["math.archFloor", "math.Float64bits", "math.Float64frombits", "math.archTrunc", "math.archCeil", "math.RoundToEven"], apart := false }
def TopWeekdaysSaid : Prop := topWeekdaysRow.holds Try.pinned (OpenSpec.ofChange topWeekdaysSpec)

/-- ITS FALSE NEIGHBOUR: 'it returns false'. Refute it at one input. -/
def topWeekdaysWrong : ChangeSpec := { name := "topWeekdays", fn := fun _ => fun
  | [d] => { results := [.lit (.bool false)], args := [d] }
  | _ => none }
def TopWeekdaysWrongFalsely : Prop := topWeekdaysRow.holds Try.pinned (OpenSpec.ofChange topWeekdaysWrong)

/-- 'noontidelaw10.SpanTells': WHATEVER THE INPUT: true; the input reads as it did. -/
def spanTellsSpec : ChangeSpec := { name := "spanTells", fn := fun _ => fun
  | [d1, d2, d3] => { results := [.lit (.bool true)], args := [d1, d2, d3] }
  | _ => none }
def spanTellsRow : OpenClaim := { program := "ytpjddkcoolggaab", sum := "0f392b3b25913bf775d25d79e583cfd0cffd3e11d6adf7b4256cf9f257a4788f", func := "noontide/noontidelaw10.SpanTells", spec := "spanTells", apart := false }
def SpanTellsSaid : Prop := spanTellsRow.holds Try.pinned (OpenSpec.ofChange spanTellsSpec)

/-- ITS FALSE NEIGHBOUR: 'it returns false'. Refute it at one input. -/
def spanTellsWrong : ChangeSpec := { name := "spanTells", fn := fun _ => fun
  | [d1, d2, d3] => { results := [.lit (.bool false)], args := [d1, d2, d3] }
  | _ => none }
def SpanTellsWrongFalsely : Prop := spanTellsRow.holds Try.pinned (OpenSpec.ofChange spanTellsWrong)

/-- 'noontidelaw10.SpanSeconds': WHATEVER THE INPUT: true; the input reads as it did. -/
def spanSecondsSpec : ChangeSpec := { name := "spanSeconds", fn := fun _ => fun
  | [d1, d2, d3] => { results := [.lit (.bool true)], args := [d1, d2, d3] }
  | _ => none }
def spanSecondsRow : OpenClaim := { program := "ytpjddkcoolggaab", sum := "0f392b3b25913bf775d25d79e583cfd0cffd3e11d6adf7b4256cf9f257a4788f", func := "noontide/noontidelaw10.SpanSeconds", spec := "spanSeconds", apart := false }
def SpanSecondsSaid : Prop := spanSecondsRow.holds Try.pinned (OpenSpec.ofChange spanSecondsSpec)

/-- ITS FALSE NEIGHBOUR: 'it returns false'. Refute it at one input. -/
def spanSecondsWrong : ChangeSpec := { name := "spanSeconds", fn := fun _ => fun
  | [d1, d2, d3] => { results := [.lit (.bool false)], args := [d1, d2, d3] }
  | _ => none }
def SpanSecondsWrongFalsely : Prop := spanSecondsRow.holds Try.pinned (OpenSpec.ofChange spanSecondsWrong)

/- THE SECOND FORM. 'bulk': how many values and letters a reading holds, each counted each time it is reached (what is shared counts as often as it is met; a slice's spare places count too). A statement '..UptoSaid' is the law's where the arguments, and the package variables that the reading takes, are together of bulk at most 1048576: NARROWER than '..Said'. Prove '..Said' where nothing that the law and all that it calls make is longer than what came in: it says more and counts as full. Else prove '..UptoSaid'. A law counts once. -/
mutual
def uptoBulk {H : Type} : DataW H → Nat
  | .lit (.string bytes) => bytes.length + 1
  | .lit _ => 1
  | .nil => 1
  | .ptr d => uptoBulk d + 1
  | .slice elems spare => uptoBulkAll elems + uptoBulkAll spare + 1
  | .agg parts => uptoBulkAll parts + 1
  | .iface _ d => uptoBulk d + 1
  | .map entries => uptoBulkEntries entries + 1
  | .held _ => 1
def uptoBulkAll {H : Type} : List (DataW H) → Nat
  | [] => 0
  | d :: r => uptoBulk d + uptoBulkAll r
def uptoBulkEntries {H : Type} : List (Lit × DataW H) → Nat
  | [] => 0
  | x :: r => uptoBulkEntry x + uptoBulkEntries r
def uptoBulkEntry {H : Type} : Lit × DataW H → Nat
  | (.string bytes, d) => bytes.length + uptoBulk d + 1
  | (_, d) => uptoBulk d + 1
 end
def uptoSmall : (H : Type) → List (DataW H) → Bool := fun _ ds => decide (uptoBulkAll ds ≤ 1048576)
def OpenSpec.upto (s : _root_.Go.ChangeSpec) : _root_.Go.OpenSpec := { _root_.Go.OpenSpec.ofChange s with cond := some uptoSmall }

/-- 'noontidelaw02.RealTells', WHERE WHAT IT READS IS OF BULK AT MOST 1048576: true; the input reads as it did. -/
def realTellsUptoRow : OpenClaim := { program := "ytpjddkcoolggaab", sum := "0f392b3b25913bf775d25d79e583cfd0cffd3e11d6adf7b4256cf9f257a4788f", func := "noontide/noontidelaw02.RealTells", spec := "realTells", inPlace := ["math.Float64bits", "math.archFloor", "math.Float64frombits", "math.archTrunc", "math.archCeil", "math.RoundToEven"], unfollowed := true, recurses := true, apart := false, narrowed := true }
def RealTellsUptoSaid : Prop := realTellsUptoRow.holds Try.pinned (OpenSpec.upto realTellsSpec)

/-- 'noontidelaw02.RealOrder', WHERE WHAT IT READS IS OF BULK AT MOST 1048576: true; the input reads as it did. -/
def realOrderUptoRow : OpenClaim := { program := "ytpjddkcoolggaab", sum := "0f392b3b25913bf775d25d79e583cfd0cffd3e11d6adf7b4256cf9f257a4788f", func := "noontide/noontidelaw02.RealOrder", spec := "realOrder", inPlace := ["math.Float64bits", "math.archFloor", "math.Float64frombits", "math.archTrunc", "math.archCeil", "math.RoundToEven"], unfollowed := true, recurses := true, apart := false, narrowed := true }
def RealOrderUptoSaid : Prop := realOrderUptoRow.holds Try.pinned (OpenSpec.upto realOrderSpec)

/-- 'noontidelaw02.RealRounded', WHERE WHAT IT READS IS OF BULK AT MOST 1048576: true; the input reads as it did. -/
def realRoundedUptoRow : OpenClaim := { program := "ytpjddkcoolggaab", sum := "0f392b3b25913bf775d25d79e583cfd0cffd3e11d6adf7b4256cf9f257a4788f", func := "noontide/noontidelaw02.RealRounded", spec := "realRounded", inPlace := ["math.Float64bits", "math.archFloor", "math.Float64frombits", "math.archTrunc", "math.archCeil", "math.RoundToEven"], unfollowed := true, recurses := true, apart := false, narrowed := true }
def RealRoundedUptoSaid : Prop := realRoundedUptoRow.holds Try.pinned (OpenSpec.upto realRoundedSpec)

/-- 'noontidelaw08.JulianTells', WHERE WHAT IT READS IS OF BULK AT MOST 1048576: true; the input reads as it did. -/
def julianTellsUptoRow : OpenClaim := { program := "ytpjddkcoolggaab", sum := "0f392b3b25913bf775d25d79e583cfd0cffd3e11d6adf7b4256cf9f257a4788f", func := "noontide/noontidelaw08.JulianTells", spec := "julianTells", inPlace := ["math.archFloor", "math.Float64bits", "math.Float64frombits", "math.archTrunc", "math.archCeil", "math.RoundToEven"], apart := false, narrowed := true }
def JulianTellsUptoSaid : Prop := julianTellsUptoRow.holds Try.pinned (OpenSpec.upto julianTellsSpec)

/-- 'noontidelaw09.LonTells', WHERE WHAT IT READS IS OF BULK AT MOST 1048576: true; the input reads as it did. -/
def lonTellsUptoRow : OpenClaim := { program := "ytpjddkcoolggaab", sum := "0f392b3b25913bf775d25d79e583cfd0cffd3e11d6adf7b4256cf9f257a4788f", func := "noontide/noontidelaw09.LonTells", spec := "lonTells", inPlace := ["math.archFloor", "math.Float64bits", "math.Float64frombits", "math.archTrunc", "math.archCeil", "math.RoundToEven"], apart := false, narrowed := true }
def LonTellsUptoSaid : Prop := lonTellsUptoRow.holds Try.pinned (OpenSpec.upto lonTellsSpec)

/-- 'noontidetop.TopHours', WHERE WHAT IT READS IS OF BULK AT MOST 1048576: true; the input reads as it did. -/
def topHoursUptoRow : OpenClaim := { program := "ytpjddkcoolggaab", sum := "0f392b3b25913bf775d25d79e583cfd0cffd3e11d6adf7b4256cf9f257a4788f", func := "noontide/noontidetop.TopHours", spec := "topHours", inPlace := ["math.archFloor", "math.Float64bits", "math.Float64frombits", "math.archTrunc", "math.archCeil", "math.RoundToEven"], apart := false, narrowed := true }
def TopHoursUptoSaid : Prop := topHoursUptoRow.holds Try.pinned (OpenSpec.upto topHoursSpec)

/-- 'noontidetop.TopWeekdays', WHERE WHAT IT READS IS OF BULK AT MOST 1048576: true; the input reads as it did. -/
def topWeekdaysUptoRow : OpenClaim := { program := "ytpjddkcoolggaab", sum := "0f392b3b25913bf775d25d79e583cfd0cffd3e11d6adf7b4256cf9f257a4788f", func := "noontide/noontidetop.TopWeekdays", spec := "topWeekdays", inPlace := ["math.archFloor", "math.Float64bits", "math.Float64frombits", "math.archTrunc", "math.archCeil", "math.RoundToEven"], apart := false, narrowed := true }
def TopWeekdaysUptoSaid : Prop := topWeekdaysUptoRow.holds Try.pinned (OpenSpec.upto topWeekdaysSpec)

/-- 'noontidelaw10.SpanTells', WHERE WHAT IT READS IS OF BULK AT MOST 1048576: true; the input reads as it did. -/
def spanTellsUptoRow : OpenClaim := { program := "ytpjddkcoolggaab", sum := "0f392b3b25913bf775d25d79e583cfd0cffd3e11d6adf7b4256cf9f257a4788f", func := "noontide/noontidelaw10.SpanTells", spec := "spanTells", apart := false, narrowed := true }
def SpanTellsUptoSaid : Prop := spanTellsUptoRow.holds Try.pinned (OpenSpec.upto spanTellsSpec)

/-- 'noontidelaw10.SpanSeconds', WHERE WHAT IT READS IS OF BULK AT MOST 1048576: true; the input reads as it did. -/
def spanSecondsUptoRow : OpenClaim := { program := "ytpjddkcoolggaab", sum := "0f392b3b25913bf775d25d79e583cfd0cffd3e11d6adf7b4256cf9f257a4788f", func := "noontide/noontidelaw10.SpanSeconds", spec := "spanSeconds", apart := false, narrowed := true }
def SpanSecondsUptoSaid : Prop := spanSecondsUptoRow.holds Try.pinned (OpenSpec.upto spanSecondsSpec)

end Rows
end Go.Proofs.Ytpjddkcoolggaab
