/-
  No cell of these rows narrows 'for every input' (looked for: loops, veiled, ifaces, maps, wideKeys, modest, calm, conditions, laid).
  DERIVED. THE GIVEN ROWS OF THIS SEAT. 9 by the template 'for every input the law returns true; each argument reads behind the call as it read before'; 0 by the template 'total and deterministic' (their statements: YtlehbnfocilcmabTotals.lean).
  GIVEN WITH THE SEED: the statements are not yours to turn. If you find one false, say at which input.
  Laid BY PROGRAM, IN A SANDBOX (cutbox-rows.mjs): the forced cells as the released guide's own fill.sh prints them over the translation 3a3e8306d810017f… (all of the seat's roots in one cut). By AI agents, Wed Nov 11 2026. No macro, syntax, notation, axiom, sorry.
-/
import Derived.Test.YtlehbnfocilcmabChecked
import GoSem.Claim
import GoSem.ClaimJoined
import GoSem.ClaimMapViews
import Derived.JoinedTies
import Derived.KernelRfl
namespace Go.Proofs.Ytlehbnfocilcmab
/- THE CELL 'sum', in the pinned program and in every row, IS THE sha256 OF THE DUMP (.gsa) THAT YtlehbnfocilcmabProg.lean LOADS. Nothing in Lean hashes anything: it is a label: what it is worth is what the hold of that sum in a sandbox is worth. -/
noncomputable def Try.pinned : Pinned := { name := "ytlehbnfocilcmab", sum := "3a3e8306d810017fb536266f430daa46b8224429e9114cb1d2c75c1b9e58fa5b", checked := Try.checked }
namespace Rows
def none {H : Type} : Left H := { results := [], args := [] }

/-- 'noontidelaw05.DayruleTells': WHATEVER THE INPUT: true; the input reads as it did. -/
def dayruleTellsSpec : ChangeSpec := { name := "dayruleTells", fn := fun _ => fun
  | [d1, d2, d3] => { results := [.lit (.bool true)], args := [d1, d2, d3] }
  | _ => none }
def dayruleTellsRow : OpenClaim := { program := "ytlehbnfocilcmab", sum := "3a3e8306d810017fb536266f430daa46b8224429e9114cb1d2c75c1b9e58fa5b", func := "noontide/noontidelaw05.DayruleTells", spec := "dayruleTells", apart := false }
def DayruleTellsSaid : Prop := dayruleTellsRow.holds Try.pinned (OpenSpec.ofChange dayruleTellsSpec)

/-- ITS FALSE NEIGHBOUR: 'it returns false'. Refute it at one input. -/
def dayruleTellsWrong : ChangeSpec := { name := "dayruleTells", fn := fun _ => fun
  | [d1, d2, d3] => { results := [.lit (.bool false)], args := [d1, d2, d3] }
  | _ => none }
def DayruleTellsWrongFalsely : Prop := dayruleTellsRow.holds Try.pinned (OpenSpec.ofChange dayruleTellsWrong)

/-- 'noontidelaw05.DayruleLies': WHATEVER THE INPUT: true; the input reads as it did. -/
def dayruleLiesSpec : ChangeSpec := { name := "dayruleLies", fn := fun _ => fun
  | [d1, d2, d3] => { results := [.lit (.bool true)], args := [d1, d2, d3] }
  | _ => none }
def dayruleLiesRow : OpenClaim := { program := "ytlehbnfocilcmab", sum := "3a3e8306d810017fb536266f430daa46b8224429e9114cb1d2c75c1b9e58fa5b", func := "noontide/noontidelaw05.DayruleLies", spec := "dayruleLies", apart := false }
def DayruleLiesSaid : Prop := dayruleLiesRow.holds Try.pinned (OpenSpec.ofChange dayruleLiesSpec)

/-- ITS FALSE NEIGHBOUR: 'it returns false'. Refute it at one input. -/
def dayruleLiesWrong : ChangeSpec := { name := "dayruleLies", fn := fun _ => fun
  | [d1, d2, d3] => { results := [.lit (.bool false)], args := [d1, d2, d3] }
  | _ => none }
def DayruleLiesWrongFalsely : Prop := dayruleLiesRow.holds Try.pinned (OpenSpec.ofChange dayruleLiesWrong)

/-- 'noontidelaw05.DayruleWeek': WHATEVER THE INPUT: true; the input reads as it did. -/
def dayruleWeekSpec : ChangeSpec := { name := "dayruleWeek", fn := fun _ => fun
  | [d1, d2, d3, d4] => { results := [.lit (.bool true)], args := [d1, d2, d3, d4] }
  | _ => none }
def dayruleWeekRow : OpenClaim := { program := "ytlehbnfocilcmab", sum := "3a3e8306d810017fb536266f430daa46b8224429e9114cb1d2c75c1b9e58fa5b", func := "noontide/noontidelaw05.DayruleWeek", spec := "dayruleWeek", apart := false }
def DayruleWeekSaid : Prop := dayruleWeekRow.holds Try.pinned (OpenSpec.ofChange dayruleWeekSpec)

/-- ITS FALSE NEIGHBOUR: 'it returns false'. Refute it at one input. -/
def dayruleWeekWrong : ChangeSpec := { name := "dayruleWeek", fn := fun _ => fun
  | [d1, d2, d3, d4] => { results := [.lit (.bool false)], args := [d1, d2, d3, d4] }
  | _ => none }
def DayruleWeekWrongFalsely : Prop := dayruleWeekRow.holds Try.pinned (OpenSpec.ofChange dayruleWeekWrong)

/-- 'noontidelaw06.MonthlyTells': WHATEVER THE INPUT: true; the input reads as it did. -/
def monthlyTellsSpec : ChangeSpec := { name := "monthlyTells", fn := fun _ => fun
  | [d1, d2, d3] => { results := [.lit (.bool true)], args := [d1, d2, d3] }
  | _ => none }
def monthlyTellsRow : OpenClaim := { program := "ytlehbnfocilcmab", sum := "3a3e8306d810017fb536266f430daa46b8224429e9114cb1d2c75c1b9e58fa5b", func := "noontide/noontidelaw06.MonthlyTells", spec := "monthlyTells", apart := false }
def MonthlyTellsSaid : Prop := monthlyTellsRow.holds Try.pinned (OpenSpec.ofChange monthlyTellsSpec)

/-- ITS FALSE NEIGHBOUR: 'it returns false'. Refute it at one input. -/
def monthlyTellsWrong : ChangeSpec := { name := "monthlyTells", fn := fun _ => fun
  | [d1, d2, d3] => { results := [.lit (.bool false)], args := [d1, d2, d3] }
  | _ => none }
def MonthlyTellsWrongFalsely : Prop := monthlyTellsRow.holds Try.pinned (OpenSpec.ofChange monthlyTellsWrong)

/-- 'noontidelaw06.MonthlyOrder': WHATEVER THE INPUT: true; the input reads as it did. -/
def monthlyOrderSpec : ChangeSpec := { name := "monthlyOrder", fn := fun _ => fun
  | [d1, d2, d3, d4] => { results := [.lit (.bool true)], args := [d1, d2, d3, d4] }
  | _ => none }
def monthlyOrderRow : OpenClaim := { program := "ytlehbnfocilcmab", sum := "3a3e8306d810017fb536266f430daa46b8224429e9114cb1d2c75c1b9e58fa5b", func := "noontide/noontidelaw06.MonthlyOrder", spec := "monthlyOrder", apart := false }
def MonthlyOrderSaid : Prop := monthlyOrderRow.holds Try.pinned (OpenSpec.ofChange monthlyOrderSpec)

/-- ITS FALSE NEIGHBOUR: 'it returns false'. Refute it at one input. -/
def monthlyOrderWrong : ChangeSpec := { name := "monthlyOrder", fn := fun _ => fun
  | [d1, d2, d3, d4] => { results := [.lit (.bool false)], args := [d1, d2, d3, d4] }
  | _ => none }
def MonthlyOrderWrongFalsely : Prop := monthlyOrderRow.holds Try.pinned (OpenSpec.ofChange monthlyOrderWrong)

/-- 'noontidelaw06.MonthlyBack': WHATEVER THE INPUT: true; the input reads as it did. -/
def monthlyBackSpec : ChangeSpec := { name := "monthlyBack", fn := fun _ => fun
  | [d1, d2, d3] => { results := [.lit (.bool true)], args := [d1, d2, d3] }
  | _ => none }
def monthlyBackRow : OpenClaim := { program := "ytlehbnfocilcmab", sum := "3a3e8306d810017fb536266f430daa46b8224429e9114cb1d2c75c1b9e58fa5b", func := "noontide/noontidelaw06.MonthlyBack", spec := "monthlyBack", apart := false }
def MonthlyBackSaid : Prop := monthlyBackRow.holds Try.pinned (OpenSpec.ofChange monthlyBackSpec)

/-- ITS FALSE NEIGHBOUR: 'it returns false'. Refute it at one input. -/
def monthlyBackWrong : ChangeSpec := { name := "monthlyBack", fn := fun _ => fun
  | [d1, d2, d3] => { results := [.lit (.bool false)], args := [d1, d2, d3] }
  | _ => none }
def MonthlyBackWrongFalsely : Prop := monthlyBackRow.holds Try.pinned (OpenSpec.ofChange monthlyBackWrong)

/-- 'noontidelaw06.MonthlyBetween': WHATEVER THE INPUT: true; the input reads as it did. -/
def monthlyBetweenSpec : ChangeSpec := { name := "monthlyBetween", fn := fun _ => fun
  | [d1, d2] => { results := [.lit (.bool true)], args := [d1, d2] }
  | _ => none }
def monthlyBetweenRow : OpenClaim := { program := "ytlehbnfocilcmab", sum := "3a3e8306d810017fb536266f430daa46b8224429e9114cb1d2c75c1b9e58fa5b", func := "noontide/noontidelaw06.MonthlyBetween", spec := "monthlyBetween", apart := false }
def MonthlyBetweenSaid : Prop := monthlyBetweenRow.holds Try.pinned (OpenSpec.ofChange monthlyBetweenSpec)

/-- ITS FALSE NEIGHBOUR: 'it returns false'. Refute it at one input. -/
def monthlyBetweenWrong : ChangeSpec := { name := "monthlyBetween", fn := fun _ => fun
  | [d1, d2] => { results := [.lit (.bool false)], args := [d1, d2] }
  | _ => none }
def MonthlyBetweenWrongFalsely : Prop := monthlyBetweenRow.holds Try.pinned (OpenSpec.ofChange monthlyBetweenWrong)

/-- 'noontidetop.TopWeeks': WHATEVER THE INPUT: true; the input reads as it did. -/
def topWeeksSpec : ChangeSpec := { name := "topWeeks", fn := fun _ => fun
  | [d1, d2, d3] => { results := [.lit (.bool true)], args := [d1, d2, d3] }
  | _ => none }
def topWeeksRow : OpenClaim := { program := "ytlehbnfocilcmab", sum := "3a3e8306d810017fb536266f430daa46b8224429e9114cb1d2c75c1b9e58fa5b", func := "noontide/noontidetop.TopWeeks", spec := "topWeeks", apart := false }
def TopWeeksSaid : Prop := topWeeksRow.holds Try.pinned (OpenSpec.ofChange topWeeksSpec)

/-- ITS FALSE NEIGHBOUR: 'it returns false'. Refute it at one input. -/
def topWeeksWrong : ChangeSpec := { name := "topWeeks", fn := fun _ => fun
  | [d1, d2, d3] => { results := [.lit (.bool false)], args := [d1, d2, d3] }
  | _ => none }
def TopWeeksWrongFalsely : Prop := topWeeksRow.holds Try.pinned (OpenSpec.ofChange topWeeksWrong)

/-- 'noontidetop.TopWeekdays': WHATEVER THE INPUT: true; the input reads as it did. -/
def topWeekdaysSpec : ChangeSpec := { name := "topWeekdays", fn := fun _ => fun
  | [d] => { results := [.lit (.bool true)], args := [d] }
  | _ => none }
def topWeekdaysRow : OpenClaim := { program := "ytlehbnfocilcmab", sum := "3a3e8306d810017fb536266f430daa46b8224429e9114cb1d2c75c1b9e58fa5b", func := "noontide/noontidetop.TopWeekdays", spec := "topWeekdays", inPlace := ["math.archFloor", "math.Float64bits", "math.Float64frombits", "math.archTrunc", "math.archCeil", "math.RoundToEven"], apart := false }
def TopWeekdaysSaid : Prop := topWeekdaysRow.holds Try.pinned (OpenSpec.ofChange topWeekdaysSpec)

/-- ITS FALSE NEIGHBOUR: 'it returns false'. Refute it at one input. -/
def topWeekdaysWrong : ChangeSpec := { name := "topWeekdays", fn := fun _ => fun
  | [d] => { results := [.lit (.bool false)], args := [d] }
  | _ => none }
def TopWeekdaysWrongFalsely : Prop := topWeekdaysRow.holds Try.pinned (OpenSpec.ofChange topWeekdaysWrong)

/- THE SECOND FORM. 'bulk': how many values and letters a reading holds, each counted each time it is reached (what is shared counts as often as it is met; a slice's spare places count too). A statement '..UptoSaid' is the law's where the arguments, and the package variables that the reading takes, are together of bulk at most 1048576: NARROWER than '..Said'. Prove '..Said' where nothing that the law and all that it calls make is longer than what came in: it says more and counts as full. Else prove '..UptoSaid'. A law counts once. -/
mutual
def uptoBulk {H : Type} : DataW H → Nat
  | .lit (.string bytes) => bytes.length + 1
  | .lit _ => 1
  | .nil => 1
  | .ptr d => uptoBulk d + 1
  | .slice elems spare => uptoBulkAll elems + uptoBulkAll spare + 1
  | .agg parts => uptoBulkAll parts + 1
  | .iface _ d => uptoBulk d + 1
  | .map entries => uptoBulkEntries entries + 1
  | .held _ => 1
def uptoBulkAll {H : Type} : List (DataW H) → Nat
  | [] => 0
  | d :: r => uptoBulk d + uptoBulkAll r
def uptoBulkEntries {H : Type} : List (Lit × DataW H) → Nat
  | [] => 0
  | x :: r => uptoBulkEntry x + uptoBulkEntries r
def uptoBulkEntry {H : Type} : Lit × DataW H → Nat
  | (.string bytes, d) => bytes.length + uptoBulk d + 1
  | (_, d) => uptoBulk d + 1
 end
def uptoSmall : (H : Type) → List (DataW H) → Bool := fun _ ds => decide (uptoBulkAll ds ≤ 1048576)
def OpenSpec.upto (s : _root_.Go.ChangeSpec) : _root_.Go.OpenSpec := { _root_.Go.OpenSpec.ofChange s with cond := some uptoSmall }

/-- 'noontidelaw05.DayruleTells', WHERE WHAT IT READS IS OF BULK AT MOST 1048576: true; the input reads as it did. -/
def dayruleTellsUptoRow : OpenClaim := { program := "ytlehbnfocilcmab", sum := "3a3e8306d810017fb536266f430daa46b8224429e9114cb1d2c75c1b9e58fa5b", func := "noontide/noontidelaw05.DayruleTells", spec := "dayruleTells", apart := false, narrowed := true }
def DayruleTellsUptoSaid : Prop := dayruleTellsUptoRow.holds Try.pinned (OpenSpec.upto dayruleTellsSpec)

/-- 'noontidelaw05.DayruleLies', WHERE WHAT IT READS IS OF BULK AT MOST 1048576: true; the input reads as it did. -/
def dayruleLiesUptoRow : OpenClaim := { program := "ytlehbnfocilcmab", sum := "3a3e8306d810017fb536266f430daa46b8224429e9114cb1d2c75c1b9e58fa5b", func := "noontide/noontidelaw05.DayruleLies", spec := "dayruleLies", apart := false, narrowed := true }
def DayruleLiesUptoSaid : Prop := dayruleLiesUptoRow.holds Try.pinned (OpenSpec.upto dayruleLiesSpec)

/-- 'noontidelaw05.DayruleWeek', WHERE WHAT IT READS IS OF BULK AT MOST 1048576: true; the input reads as it did. -/
def dayruleWeekUptoRow : OpenClaim := { program := "ytlehbnfocilcmab", sum := "3a3e8306d810017fb536266f430daa46b8224429e9114cb1d2c75c1b9e58fa5b", func := "noontide/noontidelaw05.DayruleWeek", spec := "dayruleWeek", apart := false, narrowed := true }
def DayruleWeekUptoSaid : Prop := dayruleWeekUptoRow.holds Try.pinned (OpenSpec.upto dayruleWeekSpec)

/-- 'noontidelaw06.MonthlyTells', WHERE WHAT IT READS IS OF BULK AT MOST 1048576: true; the input reads as it did. -/
def monthlyTellsUptoRow : OpenClaim := { program := "ytlehbnfocilcmab", sum := "3a3e8306d810017fb536266f430daa46b8224429e9114cb1d2c75c1b9e58fa5b", func := "noontide/noontidelaw06.MonthlyTells", spec := "monthlyTells", apart := false, narrowed := true }
def MonthlyTellsUptoSaid : Prop := monthlyTellsUptoRow.holds Try.pinned (OpenSpec.upto monthlyTellsSpec)

/-- 'noontidelaw06.MonthlyOrder', WHERE WHAT IT READS IS OF BULK AT MOST 1048576: true; the input reads as it did. -/
def monthlyOrderUptoRow : OpenClaim := { program := "ytlehbnfocilcmab", sum := "3a3e8306d810017fb536266f430daa46b8224429e9114cb1d2c75c1b9e58fa5b", func := "noontide/noontidelaw06.MonthlyOrder", spec := "monthlyOrder", apart := false, narrowed := true }
def MonthlyOrderUptoSaid : Prop := monthlyOrderUptoRow.holds Try.pinned (OpenSpec.upto monthlyOrderSpec)

/-- 'noontidelaw06.MonthlyBack', WHERE WHAT IT READS IS OF BULK AT MOST 1048576: true; the input reads as it did. -/
def monthlyBackUptoRow : OpenClaim := { program := "ytlehbnfocilcmab", sum := "3a3e8306d810017fb536266f430daa46b8224429e9114cb1d2c75c1b9e58fa5b", func := "noontide/noontidelaw06.MonthlyBack", spec := "monthlyBack", apart := false, narrowed := true }
def MonthlyBackUptoSaid : Prop := monthlyBackUptoRow.holds Try.pinned (OpenSpec.upto monthlyBackSpec)

/-- 'noontidelaw06.MonthlyBetween', WHERE WHAT IT READS IS OF BULK AT MOST 1048576: true; the input reads as it did. -/
def monthlyBetweenUptoRow : OpenClaim := { program := "ytlehbnfocilcmab", sum := "3a3e8306d810017fb536266f430daa46b8224429e9114cb1d2c75c1b9e58fa5b", func := "noontide/noontidelaw06.MonthlyBetween", spec := "monthlyBetween", apart := false, narrowed := true }
def MonthlyBetweenUptoSaid : Prop := monthlyBetweenUptoRow.holds Try.pinned (OpenSpec.upto monthlyBetweenSpec)

/-- 'noontidetop.TopWeeks', WHERE WHAT IT READS IS OF BULK AT MOST 1048576: true; the input reads as it did. -/
def topWeeksUptoRow : OpenClaim := { program := "ytlehbnfocilcmab", sum := "3a3e8306d810017fb536266f430daa46b8224429e9114cb1d2c75c1b9e58fa5b", func := "noontide/noontidetop.TopWeeks", spec := "topWeeks", apart := false, narrowed := true }
def TopWeeksUptoSaid : Prop := topWeeksUptoRow.holds Try.pinned (OpenSpec.upto topWeeksSpec)

/-- 'noontidetop.TopWeekdays', WHERE WHAT IT READS IS OF BULK AT MOST 1048576: true; the input reads as it did. -/
def topWeekdaysUptoRow : OpenClaim := { program := "ytlehbnfocilcmab", sum := "3a3e8306d810017fb536266f430daa46b8224429e9114cb1d2c75c1b9e58fa5b", func := "noontide/noontidetop.TopWeekdays", spec := "topWeekdays", inPlace := ["math.archFloor", "math.Float64bits", "math.Float64frombits", "math.archTrunc", "math.archCeil", "math.RoundToEven"], apart := false, narrowed := true }
def TopWeekdaysUptoSaid : Prop := topWeekdaysUptoRow.holds Try.pinned (OpenSpec.upto topWeekdaysSpec)

end Rows
end Go.Proofs.Ytlehbnfocilcmab
