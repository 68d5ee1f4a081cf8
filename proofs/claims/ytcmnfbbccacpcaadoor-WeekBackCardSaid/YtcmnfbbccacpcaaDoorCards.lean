/-
  DERIVED. GIVEN WITH THE SEED: THE CARDS: each row of YtcmnfbbccacpcaaDoorRows.lean that lists a variable, with what it lists TIED to the program's text (the seventh form; the later family's looks); each row that meets fmt, with fmt's text TOLD by the authors' own Lean function (tested against real Go, not proved from fmt's source: count such statements apart). THE CARD IS WHAT COUNTS. Prove the row's statement (the work); the ties are given (YtcmnfbbccacpcaaDoorTie.lean); close each card by the builder's one call (the guide's Derived/Test/ToyasCard.lean, 'card_holds'). Laid BY PROGRAM, IN A SANDBOX (cutbox-door.mjs). By AI agents, Wed Nov 11 2026. No macro, syntax, notation, axiom, sorry.
-/
import Derived.Test.YtcmnfbbccacpcaaDoorRows
import GoSem.ClaimSeven
namespace Go.Proofs.YtcmnfbbccacpcaaDoor
namespace Rows

/-- THE TIED CARD OF 'noontidelaw01.NumTells'. -/
def numTellsCard : Claim7 := { stood := { row := numTellsRow, standIns := [], harness := (true, "ab31a85d8e1d814cc205b09daf831bee37f9361241f4dfec4cd25221c15a269b"), looks := true }, kinds := [], alts := [], laidByText := true, laidKinds := [.data, .data, .data, .sentinel, .sentinel], laidTests := true, laidLooks := .later }
def NumTellsCardSaid : Prop := Claim7.holds Tryd.pinned (.plain (OpenSpec.ofChange numTellsSpec)) numTellsCard

/-- THE TIED CARD OF 'noontidelaw04.StampTells'. -/
def stampTellsCard : Claim7 := { stood := { row := stampTellsRow, standIns := [], harness := (true, "ab31a85d8e1d814cc205b09daf831bee37f9361241f4dfec4cd25221c15a269b"), looks := true }, kinds := [], alts := [], laidByText := true, laidKinds := [.data, .data, .data], laidTests := true, laidLooks := .later }
def StampTellsCardSaid : Prop := Claim7.holds Tryd.pinned (.plain (OpenSpec.ofChange stampTellsSpec)) stampTellsCard

/-- THE TIED CARD OF 'noontidelaw04.StampBack'. -/
def stampBackCard : Claim7 := { stood := { row := stampBackRow, standIns := [], harness := (true, "ab31a85d8e1d814cc205b09daf831bee37f9361241f4dfec4cd25221c15a269b"), looks := true }, kinds := [], alts := [], laidByText := true, laidKinds := [.data, .data, .data], laidTests := true, laidLooks := .later }
def StampBackCardSaid : Prop := Claim7.holds Tryd.pinned (.plain (OpenSpec.ofChange stampBackSpec)) stampBackCard

/-- THE TIED CARD OF 'noontidelaw04.StampOrder'. -/
def stampOrderCard : Claim7 := { stood := { row := stampOrderRow, standIns := [], harness := (true, "ab31a85d8e1d814cc205b09daf831bee37f9361241f4dfec4cd25221c15a269b"), looks := true }, kinds := [], alts := [], laidByText := true, laidKinds := [.data, .data, .data], laidTests := true, laidLooks := .later }
def StampOrderCardSaid : Prop := Claim7.holds Tryd.pinned (.plain (OpenSpec.ofChange stampOrderSpec)) stampOrderCard

/-- THE TIED CARD OF 'noontidelaw07.WeekTells'. -/
def weekTellsCard : Claim7 := { stood := { row := weekTellsRow, standIns := [], harness := (true, "ab31a85d8e1d814cc205b09daf831bee37f9361241f4dfec4cd25221c15a269b"), looks := true }, kinds := [], alts := [], laidByText := true, laidKinds := [.data, .data, .data], laidTests := true, laidLooks := .later }
def WeekTellsCardSaid : Prop := Claim7.holds Tryd.pinned (.plain (OpenSpec.ofChange weekTellsSpec)) weekTellsCard

/-- THE TIED CARD OF 'noontidelaw07.WeekBack'. -/
def weekBackCard : Claim7 := { stood := { row := weekBackRow, standIns := [], harness := (true, "ab31a85d8e1d814cc205b09daf831bee37f9361241f4dfec4cd25221c15a269b"), looks := true }, kinds := [], alts := [], laidByText := true, laidKinds := [.data, .data, .data], laidTests := true, laidLooks := .later }
def WeekBackCardSaid : Prop := Claim7.holds Tryd.pinned (.plain (OpenSpec.ofChange weekBackSpec)) weekBackCard

/-- THE TIED CARD OF 'noontidelaw07.WeekSteps'. -/
def weekStepsCard : Claim7 := { stood := { row := weekStepsRow, standIns := [], harness := (true, "ab31a85d8e1d814cc205b09daf831bee37f9361241f4dfec4cd25221c15a269b"), looks := true }, kinds := [], alts := [], laidByText := true, laidKinds := [.data, .data, .data], laidTests := true, laidLooks := .later }
def WeekStepsCardSaid : Prop := Claim7.holds Tryd.pinned (.plain (OpenSpec.ofChange weekStepsSpec)) weekStepsCard

/-- THE SECOND FORM's CARD OF 'noontidelaw01.NumTells'. -/
def numTellsUptoCard : Claim7 := { stood := { row := numTellsUptoRow, standIns := [], harness := (true, "ab31a85d8e1d814cc205b09daf831bee37f9361241f4dfec4cd25221c15a269b"), looks := true }, kinds := [], alts := [], laidByText := true, laidKinds := [.data, .data, .data, .sentinel, .sentinel], laidTests := true, laidLooks := .later }
def NumTellsUptoCardSaid : Prop := Claim7.holds Tryd.pinned (.plain (OpenSpec.upto numTellsSpec)) numTellsUptoCard

/-- THE SECOND FORM's CARD OF 'noontidelaw04.StampTells'. -/
def stampTellsUptoCard : Claim7 := { stood := { row := stampTellsUptoRow, standIns := [], harness := (true, "ab31a85d8e1d814cc205b09daf831bee37f9361241f4dfec4cd25221c15a269b"), looks := true }, kinds := [], alts := [], laidByText := true, laidKinds := [.data, .data, .data], laidTests := true, laidLooks := .later }
def StampTellsUptoCardSaid : Prop := Claim7.holds Tryd.pinned (.plain (OpenSpec.upto stampTellsSpec)) stampTellsUptoCard

/-- THE SECOND FORM's CARD OF 'noontidelaw04.StampBack'. -/
def stampBackUptoCard : Claim7 := { stood := { row := stampBackUptoRow, standIns := [], harness := (true, "ab31a85d8e1d814cc205b09daf831bee37f9361241f4dfec4cd25221c15a269b"), looks := true }, kinds := [], alts := [], laidByText := true, laidKinds := [.data, .data, .data], laidTests := true, laidLooks := .later }
def StampBackUptoCardSaid : Prop := Claim7.holds Tryd.pinned (.plain (OpenSpec.upto stampBackSpec)) stampBackUptoCard

/-- THE SECOND FORM's CARD OF 'noontidelaw04.StampOrder'. -/
def stampOrderUptoCard : Claim7 := { stood := { row := stampOrderUptoRow, standIns := [], harness := (true, "ab31a85d8e1d814cc205b09daf831bee37f9361241f4dfec4cd25221c15a269b"), looks := true }, kinds := [], alts := [], laidByText := true, laidKinds := [.data, .data, .data], laidTests := true, laidLooks := .later }
def StampOrderUptoCardSaid : Prop := Claim7.holds Tryd.pinned (.plain (OpenSpec.upto stampOrderSpec)) stampOrderUptoCard

/-- THE SECOND FORM's CARD OF 'noontidelaw07.WeekTells'. -/
def weekTellsUptoCard : Claim7 := { stood := { row := weekTellsUptoRow, standIns := [], harness := (true, "ab31a85d8e1d814cc205b09daf831bee37f9361241f4dfec4cd25221c15a269b"), looks := true }, kinds := [], alts := [], laidByText := true, laidKinds := [.data, .data, .data], laidTests := true, laidLooks := .later }
def WeekTellsUptoCardSaid : Prop := Claim7.holds Tryd.pinned (.plain (OpenSpec.upto weekTellsSpec)) weekTellsUptoCard

/-- THE SECOND FORM's CARD OF 'noontidelaw07.WeekBack'. -/
def weekBackUptoCard : Claim7 := { stood := { row := weekBackUptoRow, standIns := [], harness := (true, "ab31a85d8e1d814cc205b09daf831bee37f9361241f4dfec4cd25221c15a269b"), looks := true }, kinds := [], alts := [], laidByText := true, laidKinds := [.data, .data, .data], laidTests := true, laidLooks := .later }
def WeekBackUptoCardSaid : Prop := Claim7.holds Tryd.pinned (.plain (OpenSpec.upto weekBackSpec)) weekBackUptoCard

/-- THE SECOND FORM's CARD OF 'noontidelaw07.WeekSteps'. -/
def weekStepsUptoCard : Claim7 := { stood := { row := weekStepsUptoRow, standIns := [], harness := (true, "ab31a85d8e1d814cc205b09daf831bee37f9361241f4dfec4cd25221c15a269b"), looks := true }, kinds := [], alts := [], laidByText := true, laidKinds := [.data, .data, .data], laidTests := true, laidLooks := .later }
def WeekStepsUptoCardSaid : Prop := Claim7.holds Tryd.pinned (.plain (OpenSpec.upto weekStepsSpec)) weekStepsUptoCard
end Rows
end Go.Proofs.YtcmnfbbccacpcaaDoor
