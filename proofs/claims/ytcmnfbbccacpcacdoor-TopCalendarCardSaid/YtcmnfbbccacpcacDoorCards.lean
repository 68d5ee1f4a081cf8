/-
  DERIVED. GIVEN WITH THE SEED: THE CARDS: each row of YtcmnfbbccacpcacDoorRows.lean that lists a variable, with what it lists TIED to the program's text (the seventh form; the later family's looks); each row that meets fmt, with fmt's text TOLD by the authors' own Lean function (tested against real Go, not proved from fmt's source: count such statements apart). THE CARD IS WHAT COUNTS. Prove the row's statement (the work); the ties are given (YtcmnfbbccacpcacDoorTie.lean); close each card by the builder's one call (the guide's Derived/Test/ToyasCard.lean, 'card_holds'). Laid BY PROGRAM, IN A SANDBOX (cutbox-door.mjs). By AI agents, Wed Nov 11 2026. No macro, syntax, notation, axiom, sorry.
-/
import Derived.Test.YtcmnfbbccacpcacDoorRows
import GoSem.ClaimSeven
namespace Go.Proofs.YtcmnfbbccacpcacDoor
namespace Rows

/-- THE TIED CARD OF 'noontidelaw16.AmountBack'. -/
def amountBackCard : Claim7 := { stood := { row := amountBackRow, standIns := [], harness := (true, "6f712b2edc6e5e7815387a0826b244abd88a9dc211d75272dda92e0ce9b03f57"), looks := true }, kinds := [], alts := [], laidByText := true, laidKinds := [.data, .data, .data, .data, .pinned], laidTests := true, laidLooks := .later }
def AmountBackCardSaid : Prop := Claim7.holds Tryd.pinned (.plain (OpenSpec.ofChange amountBackSpec)) amountBackCard

/-- THE TIED CARD OF 'noontidelaw16.AmountParts'. -/
def amountPartsCard : Claim7 := { stood := { row := amountPartsRow, standIns := [], harness := (true, "6f712b2edc6e5e7815387a0826b244abd88a9dc211d75272dda92e0ce9b03f57"), looks := true }, kinds := [], alts := [], laidByText := true, laidKinds := [.data, .data, .data, .data, .pinned], laidTests := true, laidLooks := .later }
def AmountPartsCardSaid : Prop := Claim7.holds Tryd.pinned (.plain (OpenSpec.ofChange amountPartsSpec)) amountPartsCard

/-- THE TIED CARD OF 'noontidetop.TopWhole'. -/
def topWholeCard : Claim7 := { stood := { row := topWholeRow, standIns := [], harness := (true, "6f712b2edc6e5e7815387a0826b244abd88a9dc211d75272dda92e0ce9b03f57"), looks := true }, kinds := [], alts := [], laidByText := true, laidKinds := [.data, .data, .data, .sentinel, .sentinel], laidTests := true, laidLooks := .later }
def TopWholeCardSaid : Prop := Claim7.holds Tryd.pinned (.plain (OpenSpec.ofChange topWholeSpec)) topWholeCard

/-- THE TIED CARD OF 'noontidetop.TopCalendar'. -/
def topCalendarCard : Claim7 := { stood := { row := topCalendarRow, standIns := [], harness := (true, "6f712b2edc6e5e7815387a0826b244abd88a9dc211d75272dda92e0ce9b03f57"), looks := true }, kinds := [], alts := [], laidByText := true, laidKinds := [.data, .data, .data], laidTests := true, laidLooks := .later }
def TopCalendarCardSaid : Prop := Claim7.holds Tryd.pinned (.plain (OpenSpec.ofChange topCalendarSpec)) topCalendarCard

/-- THE TIED CARD OF 'noontidetop.TopRows'. -/
def topRowsCard : Claim7 := { stood := { row := topRowsRow, standIns := [], harness := (true, "6f712b2edc6e5e7815387a0826b244abd88a9dc211d75272dda92e0ce9b03f57"), looks := true }, kinds := [], alts := [], laidByText := true, laidKinds := [.data, .pinned], laidTests := true, laidLooks := .later }
def TopRowsCardSaid : Prop := Claim7.holds Tryd.pinned (.plain (OpenSpec.ofChange topRowsSpec)) topRowsCard

/-- THE SECOND FORM's CARD OF 'noontidelaw16.AmountBack'. -/
def amountBackUptoCard : Claim7 := { stood := { row := amountBackUptoRow, standIns := [], harness := (true, "6f712b2edc6e5e7815387a0826b244abd88a9dc211d75272dda92e0ce9b03f57"), looks := true }, kinds := [], alts := [], laidByText := true, laidKinds := [.data, .data, .data, .data, .pinned], laidTests := true, laidLooks := .later }
def AmountBackUptoCardSaid : Prop := Claim7.holds Tryd.pinned (.plain (OpenSpec.upto amountBackSpec)) amountBackUptoCard

/-- THE SECOND FORM's CARD OF 'noontidelaw16.AmountParts'. -/
def amountPartsUptoCard : Claim7 := { stood := { row := amountPartsUptoRow, standIns := [], harness := (true, "6f712b2edc6e5e7815387a0826b244abd88a9dc211d75272dda92e0ce9b03f57"), looks := true }, kinds := [], alts := [], laidByText := true, laidKinds := [.data, .data, .data, .data, .pinned], laidTests := true, laidLooks := .later }
def AmountPartsUptoCardSaid : Prop := Claim7.holds Tryd.pinned (.plain (OpenSpec.upto amountPartsSpec)) amountPartsUptoCard

/-- THE SECOND FORM's CARD OF 'noontidetop.TopWhole'. -/
def topWholeUptoCard : Claim7 := { stood := { row := topWholeUptoRow, standIns := [], harness := (true, "6f712b2edc6e5e7815387a0826b244abd88a9dc211d75272dda92e0ce9b03f57"), looks := true }, kinds := [], alts := [], laidByText := true, laidKinds := [.data, .data, .data, .sentinel, .sentinel], laidTests := true, laidLooks := .later }
def TopWholeUptoCardSaid : Prop := Claim7.holds Tryd.pinned (.plain (OpenSpec.upto topWholeSpec)) topWholeUptoCard

/-- THE SECOND FORM's CARD OF 'noontidetop.TopCalendar'. -/
def topCalendarUptoCard : Claim7 := { stood := { row := topCalendarUptoRow, standIns := [], harness := (true, "6f712b2edc6e5e7815387a0826b244abd88a9dc211d75272dda92e0ce9b03f57"), looks := true }, kinds := [], alts := [], laidByText := true, laidKinds := [.data, .data, .data], laidTests := true, laidLooks := .later }
def TopCalendarUptoCardSaid : Prop := Claim7.holds Tryd.pinned (.plain (OpenSpec.upto topCalendarSpec)) topCalendarUptoCard

/-- THE SECOND FORM's CARD OF 'noontidetop.TopRows'. -/
def topRowsUptoCard : Claim7 := { stood := { row := topRowsUptoRow, standIns := [], harness := (true, "6f712b2edc6e5e7815387a0826b244abd88a9dc211d75272dda92e0ce9b03f57"), looks := true }, kinds := [], alts := [], laidByText := true, laidKinds := [.data, .pinned], laidTests := true, laidLooks := .later }
def TopRowsUptoCardSaid : Prop := Claim7.holds Tryd.pinned (.plain (OpenSpec.upto topRowsSpec)) topRowsUptoCard
end Rows
end Go.Proofs.YtcmnfbbccacpcacDoor
