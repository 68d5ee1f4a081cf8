/-
  DERIVED. GIVEN WITH THE SEED: THE CARDS: each row of YtafnnnbefabofaaDoorRows.lean that lists a variable, with what it lists TIED to the program's text (the seventh form; the later family's looks); each row that meets fmt, with fmt's text TOLD by the authors' own Lean function (tested against real Go, not proved from fmt's source: count such statements apart). THE CARD IS WHAT COUNTS. Prove the row's statement (the work); the ties are given (YtafnnnbefabofaaDoorTie.lean); close each card by the builder's one call (the guide's Derived/Test/ToyasCard.lean, 'card_holds'). Laid BY PROGRAM, IN A SANDBOX (cutbox-door.mjs). By AI agents, Wed Nov 11 2026. No macro, syntax, notation, axiom, sorry.
-/
import Derived.Test.YtafnnnbefabofaaDoorRows
import GoSem.ClaimSeven
namespace Go.Proofs.YtafnnnbefabofaaDoor
namespace Rows

/-- THE TIED CARD OF 'noontidelaw19.ClockBack'. -/
def clockBackCard : Claim7 := { stood := { row := clockBackRow, standIns := [], harness := (true, "230975908bb11fcafa1004f9b30494aee607966f869cff149cac8cd5994626d6"), looks := true }, kinds := [], alts := [], laidByText := true, laidKinds := [.data, .data, .data, .data, .data, .pinned], laidTests := true, laidLooks := .later }
def ClockBackCardSaid : Prop := Claim7.holds Tryd.pinned (.plain (OpenSpec.ofChange clockBackSpec)) clockBackCard

/-- THE TIED CARD OF 'noontidelaw17.YearBack'. -/
def yearBackCard : Claim7 := { stood := { row := yearBackRow, standIns := [], harness := (true, "230975908bb11fcafa1004f9b30494aee607966f869cff149cac8cd5994626d6"), looks := true }, kinds := [], alts := [], laidByText := true, laidKinds := [.data, .data, .data, .sentinel, .sentinel], laidTests := true, laidLooks := .later }
def YearBackCardSaid : Prop := Claim7.holds Tryd.pinned (.plain (OpenSpec.ofChange yearBackSpec)) yearBackCard

/-- THE TIED CARD OF 'noontidelaw01.NumTells'. -/
def numTellsCard : Claim7 := { stood := { row := numTellsRow, standIns := [], harness := (true, "230975908bb11fcafa1004f9b30494aee607966f869cff149cac8cd5994626d6"), looks := true }, kinds := [], alts := [], laidByText := true, laidKinds := [.data, .data, .data, .sentinel, .sentinel], laidTests := true, laidLooks := .later }
def NumTellsCardSaid : Prop := Claim7.holds Tryd.pinned (.plain (OpenSpec.ofChange numTellsSpec)) numTellsCard

/-- THE TIED CARD OF 'noontidelaw04.StampTells'. -/
def stampTellsCard : Claim7 := { stood := { row := stampTellsRow, standIns := [], harness := (true, "230975908bb11fcafa1004f9b30494aee607966f869cff149cac8cd5994626d6"), looks := true }, kinds := [], alts := [], laidByText := true, laidKinds := [.data, .data, .data], laidTests := true, laidLooks := .later }
def StampTellsCardSaid : Prop := Claim7.holds Tryd.pinned (.plain (OpenSpec.ofChange stampTellsSpec)) stampTellsCard

/-- THE TIED CARD OF 'noontidelaw07.WeekTells'. -/
def weekTellsCard : Claim7 := { stood := { row := weekTellsRow, standIns := [], harness := (true, "230975908bb11fcafa1004f9b30494aee607966f869cff149cac8cd5994626d6"), looks := true }, kinds := [], alts := [], laidByText := true, laidKinds := [.data, .data, .data], laidTests := true, laidLooks := .later }
def WeekTellsCardSaid : Prop := Claim7.holds Tryd.pinned (.plain (OpenSpec.ofChange weekTellsSpec)) weekTellsCard

/-- THE TIED CARD OF 'noontidelaw16.AmountTells'. -/
def amountTellsCard : Claim7 := { stood := { row := amountTellsRow, standIns := [], harness := (true, "230975908bb11fcafa1004f9b30494aee607966f869cff149cac8cd5994626d6"), looks := true }, kinds := [], alts := [], laidByText := true, laidKinds := [.data, .data, .data, .data, .pinned], laidTests := true, laidLooks := .later }
def AmountTellsCardSaid : Prop := Claim7.holds Tryd.pinned (.plain (OpenSpec.ofChange amountTellsSpec)) amountTellsCard

/-- THE TIED CARD OF 'noontidelaw19.ClockTells'. -/
def clockTellsCard : Claim7 := { stood := { row := clockTellsRow, standIns := [], harness := (true, "230975908bb11fcafa1004f9b30494aee607966f869cff149cac8cd5994626d6"), looks := true }, kinds := [], alts := [], laidByText := true, laidKinds := [.data, .data, .data, .data, .data, .pinned], laidTests := true, laidLooks := .later }
def ClockTellsCardSaid : Prop := Claim7.holds Tryd.pinned (.plain (OpenSpec.ofChange clockTellsSpec)) clockTellsCard

/-- THE TIED CARD OF 'noontidelaw17.YearTells'. -/
def yearTellsCard : Claim7 := { stood := { row := yearTellsRow, standIns := [], harness := (true, "230975908bb11fcafa1004f9b30494aee607966f869cff149cac8cd5994626d6"), looks := true }, kinds := [], alts := [], laidByText := true, laidKinds := [.data, .data, .data, .sentinel, .sentinel], laidTests := true, laidLooks := .later }
def YearTellsCardSaid : Prop := Claim7.holds Tryd.pinned (.plain (OpenSpec.ofChange yearTellsSpec)) yearTellsCard

/-- THE TIED CARD OF 'noontidelaw18.DayspecBack'. -/
def dayspecBackCard : Claim7 := { stood := { row := dayspecBackRow, standIns := [], harness := (true, "230975908bb11fcafa1004f9b30494aee607966f869cff149cac8cd5994626d6"), looks := true }, kinds := [], alts := [], laidByText := true, laidKinds := [.data, .data, .data, .data, .sentinel, .sentinel], laidTests := true, laidLooks := .later }
def DayspecBackCardSaid : Prop := Claim7.holds Tryd.pinned (.plain (OpenSpec.ofChange dayspecBackSpec)) dayspecBackCard

/-- THE TIED CARD OF 'noontidelaw18.DayspecTells'. -/
def dayspecTellsCard : Claim7 := { stood := { row := dayspecTellsRow, standIns := [], harness := (true, "230975908bb11fcafa1004f9b30494aee607966f869cff149cac8cd5994626d6"), looks := true }, kinds := [], alts := [], laidByText := true, laidKinds := [.data, .data, .data, .data, .sentinel, .sentinel], laidTests := true, laidLooks := .later }
def DayspecTellsCardSaid : Prop := Claim7.holds Tryd.pinned (.plain (OpenSpec.ofChange dayspecTellsSpec)) dayspecTellsCard

/-- THE SECOND FORM's CARD OF 'noontidelaw19.ClockBack'. -/
def clockBackUptoCard : Claim7 := { stood := { row := clockBackUptoRow, standIns := [], harness := (true, "230975908bb11fcafa1004f9b30494aee607966f869cff149cac8cd5994626d6"), looks := true }, kinds := [], alts := [], laidByText := true, laidKinds := [.data, .data, .data, .data, .data, .pinned], laidTests := true, laidLooks := .later }
def ClockBackUptoCardSaid : Prop := Claim7.holds Tryd.pinned (.plain (OpenSpec.upto clockBackSpec)) clockBackUptoCard

/-- THE SECOND FORM's CARD OF 'noontidelaw17.YearBack'. -/
def yearBackUptoCard : Claim7 := { stood := { row := yearBackUptoRow, standIns := [], harness := (true, "230975908bb11fcafa1004f9b30494aee607966f869cff149cac8cd5994626d6"), looks := true }, kinds := [], alts := [], laidByText := true, laidKinds := [.data, .data, .data, .sentinel, .sentinel], laidTests := true, laidLooks := .later }
def YearBackUptoCardSaid : Prop := Claim7.holds Tryd.pinned (.plain (OpenSpec.upto yearBackSpec)) yearBackUptoCard

/-- THE SECOND FORM's CARD OF 'noontidelaw01.NumTells'. -/
def numTellsUptoCard : Claim7 := { stood := { row := numTellsUptoRow, standIns := [], harness := (true, "230975908bb11fcafa1004f9b30494aee607966f869cff149cac8cd5994626d6"), looks := true }, kinds := [], alts := [], laidByText := true, laidKinds := [.data, .data, .data, .sentinel, .sentinel], laidTests := true, laidLooks := .later }
def NumTellsUptoCardSaid : Prop := Claim7.holds Tryd.pinned (.plain (OpenSpec.upto numTellsSpec)) numTellsUptoCard

/-- THE SECOND FORM's CARD OF 'noontidelaw04.StampTells'. -/
def stampTellsUptoCard : Claim7 := { stood := { row := stampTellsUptoRow, standIns := [], harness := (true, "230975908bb11fcafa1004f9b30494aee607966f869cff149cac8cd5994626d6"), looks := true }, kinds := [], alts := [], laidByText := true, laidKinds := [.data, .data, .data], laidTests := true, laidLooks := .later }
def StampTellsUptoCardSaid : Prop := Claim7.holds Tryd.pinned (.plain (OpenSpec.upto stampTellsSpec)) stampTellsUptoCard

/-- THE SECOND FORM's CARD OF 'noontidelaw07.WeekTells'. -/
def weekTellsUptoCard : Claim7 := { stood := { row := weekTellsUptoRow, standIns := [], harness := (true, "230975908bb11fcafa1004f9b30494aee607966f869cff149cac8cd5994626d6"), looks := true }, kinds := [], alts := [], laidByText := true, laidKinds := [.data, .data, .data], laidTests := true, laidLooks := .later }
def WeekTellsUptoCardSaid : Prop := Claim7.holds Tryd.pinned (.plain (OpenSpec.upto weekTellsSpec)) weekTellsUptoCard

/-- THE SECOND FORM's CARD OF 'noontidelaw16.AmountTells'. -/
def amountTellsUptoCard : Claim7 := { stood := { row := amountTellsUptoRow, standIns := [], harness := (true, "230975908bb11fcafa1004f9b30494aee607966f869cff149cac8cd5994626d6"), looks := true }, kinds := [], alts := [], laidByText := true, laidKinds := [.data, .data, .data, .data, .pinned], laidTests := true, laidLooks := .later }
def AmountTellsUptoCardSaid : Prop := Claim7.holds Tryd.pinned (.plain (OpenSpec.upto amountTellsSpec)) amountTellsUptoCard

/-- THE SECOND FORM's CARD OF 'noontidelaw19.ClockTells'. -/
def clockTellsUptoCard : Claim7 := { stood := { row := clockTellsUptoRow, standIns := [], harness := (true, "230975908bb11fcafa1004f9b30494aee607966f869cff149cac8cd5994626d6"), looks := true }, kinds := [], alts := [], laidByText := true, laidKinds := [.data, .data, .data, .data, .data, .pinned], laidTests := true, laidLooks := .later }
def ClockTellsUptoCardSaid : Prop := Claim7.holds Tryd.pinned (.plain (OpenSpec.upto clockTellsSpec)) clockTellsUptoCard

/-- THE SECOND FORM's CARD OF 'noontidelaw17.YearTells'. -/
def yearTellsUptoCard : Claim7 := { stood := { row := yearTellsUptoRow, standIns := [], harness := (true, "230975908bb11fcafa1004f9b30494aee607966f869cff149cac8cd5994626d6"), looks := true }, kinds := [], alts := [], laidByText := true, laidKinds := [.data, .data, .data, .sentinel, .sentinel], laidTests := true, laidLooks := .later }
def YearTellsUptoCardSaid : Prop := Claim7.holds Tryd.pinned (.plain (OpenSpec.upto yearTellsSpec)) yearTellsUptoCard

/-- THE SECOND FORM's CARD OF 'noontidelaw18.DayspecBack'. -/
def dayspecBackUptoCard : Claim7 := { stood := { row := dayspecBackUptoRow, standIns := [], harness := (true, "230975908bb11fcafa1004f9b30494aee607966f869cff149cac8cd5994626d6"), looks := true }, kinds := [], alts := [], laidByText := true, laidKinds := [.data, .data, .data, .data, .sentinel, .sentinel], laidTests := true, laidLooks := .later }
def DayspecBackUptoCardSaid : Prop := Claim7.holds Tryd.pinned (.plain (OpenSpec.upto dayspecBackSpec)) dayspecBackUptoCard

/-- THE SECOND FORM's CARD OF 'noontidelaw18.DayspecTells'. -/
def dayspecTellsUptoCard : Claim7 := { stood := { row := dayspecTellsUptoRow, standIns := [], harness := (true, "230975908bb11fcafa1004f9b30494aee607966f869cff149cac8cd5994626d6"), looks := true }, kinds := [], alts := [], laidByText := true, laidKinds := [.data, .data, .data, .data, .sentinel, .sentinel], laidTests := true, laidLooks := .later }
def DayspecTellsUptoCardSaid : Prop := Claim7.holds Tryd.pinned (.plain (OpenSpec.upto dayspecTellsSpec)) dayspecTellsUptoCard
end Rows
end Go.Proofs.YtafnnnbefabofaaDoor
