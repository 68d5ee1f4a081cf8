/-
  DERIVED. GIVEN WITH THE SEED: THE CARDS: each row of YtpggfhmnhbnefaaGreatDoorRows.lean that lists a variable, with what it lists TIED to the program's text (the seventh form; the later family's looks); each row that meets fmt, with fmt's text TOLD by the authors' own Lean function (tested against real Go, not proved from fmt's source: count such statements apart). THE CARD IS WHAT COUNTS. Prove the row's statement (the work); the ties are given (YtpggfhmnhbnefaaGreatDoorTie.lean); close each card by the builder's one call (the guide's Derived/Test/ToyasCard.lean, 'card_holds'). Laid BY PROGRAM, IN A SANDBOX (cutbox-door.mjs). By AI agents, Wed Nov 11 2026. No macro, syntax, notation, axiom, sorry.
-/
import Derived.Test.YtpggfhmnhbnefaaGreatDoorRows
import GoSem.ClaimSeven
namespace Go.Proofs.YtpggfhmnhbnefaaGreatDoor
namespace Rows

/-- THE TIED CARD OF 'noontidelaw21.RuleTells'. -/
def ruleTellsCard : Claim7 := { stood := { row := ruleTellsRow, standIns := [], harness := (true, "416724826a4a9daa45cc8b5875b9faddd63f44b7494315faac836c43ee8588d9"), looks := true }, kinds := [], alts := [], laidByText := true, laidKinds := [.data, .data, .data, .data, .data, .data, .sentinel, .sentinel, .data, .pinned], laidTests := true, laidLooks := .later }
def RuleTellsCardSaid : Prop := Claim7.holds Tryz.pinned (.plain (OpenSpec.ofChange ruleTellsSpec)) ruleTellsCard

/-- THE TIED CARD OF 'noontidelaw21.RuleBack'. -/
def ruleBackCard : Claim7 := { stood := { row := ruleBackRow, standIns := [], harness := (true, "416724826a4a9daa45cc8b5875b9faddd63f44b7494315faac836c43ee8588d9"), looks := true }, kinds := [], alts := [], laidByText := true, laidKinds := [.data, .data, .data, .data, .data, .data, .sentinel, .sentinel, .data, .pinned], laidTests := true, laidLooks := .later }
def RuleBackCardSaid : Prop := Claim7.holds Tryz.pinned (.plain (OpenSpec.ofChange ruleBackSpec)) ruleBackCard

/-- THE TIED CARD OF 'noontidelaw22.EraTells'. -/
def eraTellsCard : Claim7 := { stood := { row := eraTellsRow, standIns := [], harness := (true, "416724826a4a9daa45cc8b5875b9faddd63f44b7494315faac836c43ee8588d9"), looks := true }, kinds := [], alts := [], laidByText := true, laidKinds := [.data, .data, .data, .data, .data, .data, .sentinel, .sentinel, .data, .pinned], laidTests := true, laidLooks := .later }
def EraTellsCardSaid : Prop := Claim7.holds Tryz.pinned (.plain (OpenSpec.ofChange eraTellsSpec)) eraTellsCard

/-- THE TIED CARD OF 'noontidelaw22.EraBack'. -/
def eraBackCard : Claim7 := { stood := { row := eraBackRow, standIns := [], harness := (true, "416724826a4a9daa45cc8b5875b9faddd63f44b7494315faac836c43ee8588d9"), looks := true }, kinds := [], alts := [], laidByText := true, laidKinds := [.data, .data, .data, .data, .data, .data, .sentinel, .sentinel, .data, .pinned], laidTests := true, laidLooks := .later }
def EraBackCardSaid : Prop := Claim7.holds Tryz.pinned (.plain (OpenSpec.ofChange eraBackSpec)) eraBackCard

/-- THE SECOND FORM's CARD OF 'noontidelaw21.RuleTells'. -/
def ruleTellsUptoCard : Claim7 := { stood := { row := ruleTellsUptoRow, standIns := [], harness := (true, "416724826a4a9daa45cc8b5875b9faddd63f44b7494315faac836c43ee8588d9"), looks := true }, kinds := [], alts := [], laidByText := true, laidKinds := [.data, .data, .data, .data, .data, .data, .sentinel, .sentinel, .data, .pinned], laidTests := true, laidLooks := .later }
def RuleTellsUptoCardSaid : Prop := Claim7.holds Tryz.pinned (.plain (OpenSpec.upto ruleTellsSpec)) ruleTellsUptoCard

/-- THE SECOND FORM's CARD OF 'noontidelaw21.RuleBack'. -/
def ruleBackUptoCard : Claim7 := { stood := { row := ruleBackUptoRow, standIns := [], harness := (true, "416724826a4a9daa45cc8b5875b9faddd63f44b7494315faac836c43ee8588d9"), looks := true }, kinds := [], alts := [], laidByText := true, laidKinds := [.data, .data, .data, .data, .data, .data, .sentinel, .sentinel, .data, .pinned], laidTests := true, laidLooks := .later }
def RuleBackUptoCardSaid : Prop := Claim7.holds Tryz.pinned (.plain (OpenSpec.upto ruleBackSpec)) ruleBackUptoCard

/-- THE SECOND FORM's CARD OF 'noontidelaw22.EraTells'. -/
def eraTellsUptoCard : Claim7 := { stood := { row := eraTellsUptoRow, standIns := [], harness := (true, "416724826a4a9daa45cc8b5875b9faddd63f44b7494315faac836c43ee8588d9"), looks := true }, kinds := [], alts := [], laidByText := true, laidKinds := [.data, .data, .data, .data, .data, .data, .sentinel, .sentinel, .data, .pinned], laidTests := true, laidLooks := .later }
def EraTellsUptoCardSaid : Prop := Claim7.holds Tryz.pinned (.plain (OpenSpec.upto eraTellsSpec)) eraTellsUptoCard

/-- THE SECOND FORM's CARD OF 'noontidelaw22.EraBack'. -/
def eraBackUptoCard : Claim7 := { stood := { row := eraBackUptoRow, standIns := [], harness := (true, "416724826a4a9daa45cc8b5875b9faddd63f44b7494315faac836c43ee8588d9"), looks := true }, kinds := [], alts := [], laidByText := true, laidKinds := [.data, .data, .data, .data, .data, .data, .sentinel, .sentinel, .data, .pinned], laidTests := true, laidLooks := .later }
def EraBackUptoCardSaid : Prop := Claim7.holds Tryz.pinned (.plain (OpenSpec.upto eraBackSpec)) eraBackUptoCard
end Rows
end Go.Proofs.YtpggfhmnhbnefaaGreatDoor
