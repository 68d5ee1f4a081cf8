/-
  DERIVED. GIVEN WITH THE SEED: THE CARDS: each row of YtfcabofhlgmkjaaDoorRows.lean that lists a variable, with what it lists TIED to the program's text (the seventh form; the later family's looks); each row that meets fmt, with fmt's text TOLD by the authors' own Lean function (tested against real Go, not proved from fmt's source: count such statements apart). THE CARD IS WHAT COUNTS. Prove the row's statement (the work); the ties are given (YtfcabofhlgmkjaaDoorTie.lean); close each card by the builder's one call (the guide's Derived/Test/ToyasCard.lean, 'card_holds'). Laid BY PROGRAM, IN A SANDBOX (cutbox-door.mjs). By AI agents, Wed Nov 11 2026. No macro, syntax, notation, axiom, sorry.
-/
import Derived.Test.YtfcabofhlgmkjaaDoorRows
import GoSem.ClaimSeven
namespace Go.Proofs.YtfcabofhlgmkjaaDoor
namespace Rows

/-- THE TIED CARD OF 'noontidelaw07.WeekTells'. -/
def weekTellsCard : Claim7 := { stood := { row := weekTellsRow, standIns := [], harness := (true, "d7a14df72d6fba75abd8d8dd86a2142e4ffcd32ef7c36a3bf868f216a402f1c1"), looks := true }, kinds := [], alts := [], laidByText := true, laidKinds := [.data, .data, .data], laidTests := true, laidLooks := .later }
def WeekTellsCardSaid : Prop := Claim7.holds Tryd.pinned (.plain (OpenSpec.ofChange weekTellsSpec)) weekTellsCard

/-- THE TIED CARD OF 'noontidelaw04.StampTells'. -/
def stampTellsCard : Claim7 := { stood := { row := stampTellsRow, standIns := [], harness := (true, "d7a14df72d6fba75abd8d8dd86a2142e4ffcd32ef7c36a3bf868f216a402f1c1"), looks := true }, kinds := [], alts := [], laidByText := true, laidKinds := [.data, .data, .data], laidTests := true, laidLooks := .later }
def StampTellsCardSaid : Prop := Claim7.holds Tryd.pinned (.plain (OpenSpec.ofChange stampTellsSpec)) stampTellsCard

/-- THE TIED CARD OF 'noontidelaw13.LinesTell'. -/
def linesTellCard : Claim7 := { stood := { row := linesTellRow, standIns := [], harness := (true, "d7a14df72d6fba75abd8d8dd86a2142e4ffcd32ef7c36a3bf868f216a402f1c1"), looks := true }, kinds := [], alts := [], laidByText := true, laidKinds := [.data, .pinned], laidTests := true, laidLooks := .later }
def LinesTellCardSaid : Prop := Claim7.holds Tryd.pinned (.plain (OpenSpec.ofChange linesTellSpec)) linesTellCard

/-- THE TIED CARD OF 'noontidelaw13.LinesBack'. -/
def linesBackCard : Claim7 := { stood := { row := linesBackRow, standIns := [], harness := (true, "d7a14df72d6fba75abd8d8dd86a2142e4ffcd32ef7c36a3bf868f216a402f1c1"), looks := true }, kinds := [], alts := [], laidByText := true, laidKinds := [.data, .pinned], laidTests := true, laidLooks := .later }
def LinesBackCardSaid : Prop := Claim7.holds Tryd.pinned (.plain (OpenSpec.ofChange linesBackSpec)) linesBackCard

/-- THE TIED CARD OF 'noontidelaw13.LinesLong'. -/
def linesLongCard : Claim7 := { stood := { row := linesLongRow, standIns := [], harness := (true, "d7a14df72d6fba75abd8d8dd86a2142e4ffcd32ef7c36a3bf868f216a402f1c1"), looks := true }, kinds := [], alts := [], laidByText := true, laidKinds := [.data, .pinned], laidTests := true, laidLooks := .later }
def LinesLongCardSaid : Prop := Claim7.holds Tryd.pinned (.plain (OpenSpec.ofChange linesLongSpec)) linesLongCard

/-- THE TIED CARD OF 'noontidetop.TopRows'. -/
def topRowsCard : Claim7 := { stood := { row := topRowsRow, standIns := [], harness := (true, "d7a14df72d6fba75abd8d8dd86a2142e4ffcd32ef7c36a3bf868f216a402f1c1"), looks := true }, kinds := [], alts := [], laidByText := true, laidKinds := [.data, .pinned], laidTests := true, laidLooks := .later }
def TopRowsCardSaid : Prop := Claim7.holds Tryd.pinned (.plain (OpenSpec.ofChange topRowsSpec)) topRowsCard

/-- THE TIED CARD OF 'noontidelaw20.FormatTells'. -/
def formatTellsCard : Claim7 := { stood := { row := formatTellsRow, standIns := [], harness := (true, "d7a14df72d6fba75abd8d8dd86a2142e4ffcd32ef7c36a3bf868f216a402f1c1"), looks := true }, kinds := [], alts := [], laidByText := true, laidKinds := [.data, .data, .data, .data, .pinned], laidTests := true, laidLooks := .later }
def FormatTellsCardSaid : Prop := Claim7.holds Tryd.pinned (.plain (OpenSpec.ofChange formatTellsSpec)) formatTellsCard

/-- THE TIED CARD OF 'noontidelaw20.FormatHangs'. -/
def formatHangsCard : Claim7 := { stood := { row := formatHangsRow, standIns := [], harness := (true, "d7a14df72d6fba75abd8d8dd86a2142e4ffcd32ef7c36a3bf868f216a402f1c1"), looks := true }, kinds := [], alts := [], laidByText := true, laidKinds := [.data, .data, .data, .data, .pinned], laidTests := true, laidLooks := .later }
def FormatHangsCardSaid : Prop := Claim7.holds Tryd.pinned (.plain (OpenSpec.ofChange formatHangsSpec)) formatHangsCard

/-- THE TIED CARD OF 'noontidetop.TopCalled'. -/
def topCalledCard : Claim7 := { stood := { row := topCalledRow, standIns := [], harness := (true, "d7a14df72d6fba75abd8d8dd86a2142e4ffcd32ef7c36a3bf868f216a402f1c1"), looks := true }, kinds := [], alts := [], laidByText := true, laidKinds := [.data, .data, .data, .data, .data, .pinned], laidTests := true, laidLooks := .later }
def TopCalledCardSaid : Prop := Claim7.holds Tryd.pinned (.plain (OpenSpec.ofChange topCalledSpec)) topCalledCard

/-- THE SECOND FORM's CARD OF 'noontidelaw07.WeekTells'. -/
def weekTellsUptoCard : Claim7 := { stood := { row := weekTellsUptoRow, standIns := [], harness := (true, "d7a14df72d6fba75abd8d8dd86a2142e4ffcd32ef7c36a3bf868f216a402f1c1"), looks := true }, kinds := [], alts := [], laidByText := true, laidKinds := [.data, .data, .data], laidTests := true, laidLooks := .later }
def WeekTellsUptoCardSaid : Prop := Claim7.holds Tryd.pinned (.plain (OpenSpec.upto weekTellsSpec)) weekTellsUptoCard

/-- THE SECOND FORM's CARD OF 'noontidelaw04.StampTells'. -/
def stampTellsUptoCard : Claim7 := { stood := { row := stampTellsUptoRow, standIns := [], harness := (true, "d7a14df72d6fba75abd8d8dd86a2142e4ffcd32ef7c36a3bf868f216a402f1c1"), looks := true }, kinds := [], alts := [], laidByText := true, laidKinds := [.data, .data, .data], laidTests := true, laidLooks := .later }
def StampTellsUptoCardSaid : Prop := Claim7.holds Tryd.pinned (.plain (OpenSpec.upto stampTellsSpec)) stampTellsUptoCard

/-- THE SECOND FORM's CARD OF 'noontidelaw13.LinesTell'. -/
def linesTellUptoCard : Claim7 := { stood := { row := linesTellUptoRow, standIns := [], harness := (true, "d7a14df72d6fba75abd8d8dd86a2142e4ffcd32ef7c36a3bf868f216a402f1c1"), looks := true }, kinds := [], alts := [], laidByText := true, laidKinds := [.data, .pinned], laidTests := true, laidLooks := .later }
def LinesTellUptoCardSaid : Prop := Claim7.holds Tryd.pinned (.plain (OpenSpec.upto linesTellSpec)) linesTellUptoCard

/-- THE SECOND FORM's CARD OF 'noontidelaw13.LinesBack'. -/
def linesBackUptoCard : Claim7 := { stood := { row := linesBackUptoRow, standIns := [], harness := (true, "d7a14df72d6fba75abd8d8dd86a2142e4ffcd32ef7c36a3bf868f216a402f1c1"), looks := true }, kinds := [], alts := [], laidByText := true, laidKinds := [.data, .pinned], laidTests := true, laidLooks := .later }
def LinesBackUptoCardSaid : Prop := Claim7.holds Tryd.pinned (.plain (OpenSpec.upto linesBackSpec)) linesBackUptoCard

/-- THE SECOND FORM's CARD OF 'noontidelaw13.LinesLong'. -/
def linesLongUptoCard : Claim7 := { stood := { row := linesLongUptoRow, standIns := [], harness := (true, "d7a14df72d6fba75abd8d8dd86a2142e4ffcd32ef7c36a3bf868f216a402f1c1"), looks := true }, kinds := [], alts := [], laidByText := true, laidKinds := [.data, .pinned], laidTests := true, laidLooks := .later }
def LinesLongUptoCardSaid : Prop := Claim7.holds Tryd.pinned (.plain (OpenSpec.upto linesLongSpec)) linesLongUptoCard

/-- THE SECOND FORM's CARD OF 'noontidetop.TopRows'. -/
def topRowsUptoCard : Claim7 := { stood := { row := topRowsUptoRow, standIns := [], harness := (true, "d7a14df72d6fba75abd8d8dd86a2142e4ffcd32ef7c36a3bf868f216a402f1c1"), looks := true }, kinds := [], alts := [], laidByText := true, laidKinds := [.data, .pinned], laidTests := true, laidLooks := .later }
def TopRowsUptoCardSaid : Prop := Claim7.holds Tryd.pinned (.plain (OpenSpec.upto topRowsSpec)) topRowsUptoCard

/-- THE SECOND FORM's CARD OF 'noontidelaw20.FormatTells'. -/
def formatTellsUptoCard : Claim7 := { stood := { row := formatTellsUptoRow, standIns := [], harness := (true, "d7a14df72d6fba75abd8d8dd86a2142e4ffcd32ef7c36a3bf868f216a402f1c1"), looks := true }, kinds := [], alts := [], laidByText := true, laidKinds := [.data, .data, .data, .data, .pinned], laidTests := true, laidLooks := .later }
def FormatTellsUptoCardSaid : Prop := Claim7.holds Tryd.pinned (.plain (OpenSpec.upto formatTellsSpec)) formatTellsUptoCard

/-- THE SECOND FORM's CARD OF 'noontidelaw20.FormatHangs'. -/
def formatHangsUptoCard : Claim7 := { stood := { row := formatHangsUptoRow, standIns := [], harness := (true, "d7a14df72d6fba75abd8d8dd86a2142e4ffcd32ef7c36a3bf868f216a402f1c1"), looks := true }, kinds := [], alts := [], laidByText := true, laidKinds := [.data, .data, .data, .data, .pinned], laidTests := true, laidLooks := .later }
def FormatHangsUptoCardSaid : Prop := Claim7.holds Tryd.pinned (.plain (OpenSpec.upto formatHangsSpec)) formatHangsUptoCard

/-- THE SECOND FORM's CARD OF 'noontidetop.TopCalled'. -/
def topCalledUptoCard : Claim7 := { stood := { row := topCalledUptoRow, standIns := [], harness := (true, "d7a14df72d6fba75abd8d8dd86a2142e4ffcd32ef7c36a3bf868f216a402f1c1"), looks := true }, kinds := [], alts := [], laidByText := true, laidKinds := [.data, .data, .data, .data, .data, .pinned], laidTests := true, laidLooks := .later }
def TopCalledUptoCardSaid : Prop := Claim7.holds Tryd.pinned (.plain (OpenSpec.upto topCalledSpec)) topCalledUptoCard
end Rows
end Go.Proofs.YtfcabofhlgmkjaaDoor
