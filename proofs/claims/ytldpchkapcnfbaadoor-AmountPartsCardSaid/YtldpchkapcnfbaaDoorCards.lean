/-
  DERIVED. GIVEN WITH THE SEED: THE CARDS: each row of YtldpchkapcnfbaaDoorRows.lean that lists a variable, with what it lists TIED to the program's text (the seventh form; the later family's looks); each row that meets fmt, with fmt's text TOLD by the authors' own Lean function (tested against real Go, not proved from fmt's source: count such statements apart). THE CARD IS WHAT COUNTS. Prove the row's statement (the work); the ties are given (YtldpchkapcnfbaaDoorTie.lean); close each card by the builder's one call (the guide's Derived/Test/ToyasCard.lean, 'card_holds'). Laid BY PROGRAM, IN A SANDBOX (cutbox-door.mjs). By AI agents, Wed Nov 11 2026. No macro, syntax, notation, axiom, sorry.
-/
import Derived.Test.YtldpchkapcnfbaaDoorRows
import GoSem.ClaimSeven
namespace Go.Proofs.YtldpchkapcnfbaaDoor
namespace Rows

/-- THE TIED CARD OF 'noontidelaw15.WordsMore'. -/
def wordsMoreCard : Claim7 := { stood := { row := wordsMoreRow, standIns := [], harness := (true, "0df602d652a98072b7f9e5f22d2d4201bb5c18671f88e569554a17fd9a2be2df"), looks := true }, kinds := [], alts := [], laidByText := true, laidKinds := [.data, .data], laidTests := true, laidLooks := .later }
def WordsMoreCardSaid : Prop := Claim7.holds Tryd.pinned (.plain (OpenSpec.ofChange wordsMoreSpec)) wordsMoreCard

/-- THE TIED CARD OF 'noontidelaw04.StampOrder'. -/
def stampOrderCard : Claim7 := { stood := { row := stampOrderRow, standIns := [], harness := (true, "0df602d652a98072b7f9e5f22d2d4201bb5c18671f88e569554a17fd9a2be2df"), looks := true }, kinds := [], alts := [], laidByText := true, laidKinds := [.data, .data, .data], laidTests := true, laidLooks := .later }
def StampOrderCardSaid : Prop := Claim7.holds Tryd.pinned (.plain (OpenSpec.ofChange stampOrderSpec)) stampOrderCard

/-- THE TIED CARD OF 'noontidelaw04.StampBack'. -/
def stampBackCard : Claim7 := { stood := { row := stampBackRow, standIns := [], harness := (true, "0df602d652a98072b7f9e5f22d2d4201bb5c18671f88e569554a17fd9a2be2df"), looks := true }, kinds := [], alts := [], laidByText := true, laidKinds := [.data, .data, .data], laidTests := true, laidLooks := .later }
def StampBackCardSaid : Prop := Claim7.holds Tryd.pinned (.plain (OpenSpec.ofChange stampBackSpec)) stampBackCard

/-- THE TIED CARD OF 'noontidelaw16.AmountBack'. -/
def amountBackCard : Claim7 := { stood := { row := amountBackRow, standIns := [], harness := (true, "0df602d652a98072b7f9e5f22d2d4201bb5c18671f88e569554a17fd9a2be2df"), looks := true }, kinds := [], alts := [], laidByText := true, laidKinds := [.data, .data, .data, .data, .pinned], laidTests := true, laidLooks := .later }
def AmountBackCardSaid : Prop := Claim7.holds Tryd.pinned (.plain (OpenSpec.ofChange amountBackSpec)) amountBackCard

/-- THE TIED CARD OF 'noontidelaw16.AmountParts'. -/
def amountPartsCard : Claim7 := { stood := { row := amountPartsRow, standIns := [], harness := (true, "0df602d652a98072b7f9e5f22d2d4201bb5c18671f88e569554a17fd9a2be2df"), looks := true }, kinds := [], alts := [], laidByText := true, laidKinds := [.data, .data, .data, .data, .pinned], laidTests := true, laidLooks := .later }
def AmountPartsCardSaid : Prop := Claim7.holds Tryd.pinned (.plain (OpenSpec.ofChange amountPartsSpec)) amountPartsCard

/-- THE TIED CARD OF 'noontidelaw16.AmountTells'. -/
def amountTellsCard : Claim7 := { stood := { row := amountTellsRow, standIns := [], harness := (true, "0df602d652a98072b7f9e5f22d2d4201bb5c18671f88e569554a17fd9a2be2df"), looks := true }, kinds := [], alts := [], laidByText := true, laidKinds := [.data, .data, .data, .data, .pinned], laidTests := true, laidLooks := .later }
def AmountTellsCardSaid : Prop := Claim7.holds Tryd.pinned (.plain (OpenSpec.ofChange amountTellsSpec)) amountTellsCard

/-- THE TIED CARD OF 'noontidelaw01.NumTells'. -/
def numTellsCard : Claim7 := { stood := { row := numTellsRow, standIns := [], harness := (true, "0df602d652a98072b7f9e5f22d2d4201bb5c18671f88e569554a17fd9a2be2df"), looks := true }, kinds := [], alts := [], laidByText := true, laidKinds := [.data, .data, .data, .sentinel, .sentinel], laidTests := true, laidLooks := .later }
def NumTellsCardSaid : Prop := Claim7.holds Tryd.pinned (.plain (OpenSpec.ofChange numTellsSpec)) numTellsCard

/-- THE TIED CARD OF 'noontidelaw04.StampTells'. -/
def stampTellsCard : Claim7 := { stood := { row := stampTellsRow, standIns := [], harness := (true, "0df602d652a98072b7f9e5f22d2d4201bb5c18671f88e569554a17fd9a2be2df"), looks := true }, kinds := [], alts := [], laidByText := true, laidKinds := [.data, .data, .data], laidTests := true, laidLooks := .later }
def StampTellsCardSaid : Prop := Claim7.holds Tryd.pinned (.plain (OpenSpec.ofChange stampTellsSpec)) stampTellsCard

/-- THE TIED CARD OF 'noontidelaw07.WeekTells'. -/
def weekTellsCard : Claim7 := { stood := { row := weekTellsRow, standIns := [], harness := (true, "0df602d652a98072b7f9e5f22d2d4201bb5c18671f88e569554a17fd9a2be2df"), looks := true }, kinds := [], alts := [], laidByText := true, laidKinds := [.data, .data, .data], laidTests := true, laidLooks := .later }
def WeekTellsCardSaid : Prop := Claim7.holds Tryd.pinned (.plain (OpenSpec.ofChange weekTellsSpec)) weekTellsCard

/-- THE TIED CARD OF 'noontidelaw17.YearBack'. -/
def yearBackCard : Claim7 := { stood := { row := yearBackRow, standIns := [], harness := (true, "0df602d652a98072b7f9e5f22d2d4201bb5c18671f88e569554a17fd9a2be2df"), looks := true }, kinds := [], alts := [], laidByText := true, laidKinds := [.data, .data, .data, .sentinel, .sentinel], laidTests := true, laidLooks := .later }
def YearBackCardSaid : Prop := Claim7.holds Tryd.pinned (.plain (OpenSpec.ofChange yearBackSpec)) yearBackCard

/-- THE TIED CARD OF 'noontidelaw19.ClockBack'. -/
def clockBackCard : Claim7 := { stood := { row := clockBackRow, standIns := [], harness := (true, "0df602d652a98072b7f9e5f22d2d4201bb5c18671f88e569554a17fd9a2be2df"), looks := true }, kinds := [], alts := [], laidByText := true, laidKinds := [.data, .data, .data, .data, .data, .pinned], laidTests := true, laidLooks := .later }
def ClockBackCardSaid : Prop := Claim7.holds Tryd.pinned (.plain (OpenSpec.ofChange clockBackSpec)) clockBackCard

/-- THE SECOND FORM's CARD OF 'noontidelaw15.WordsMore'. -/
def wordsMoreUptoCard : Claim7 := { stood := { row := wordsMoreUptoRow, standIns := [], harness := (true, "0df602d652a98072b7f9e5f22d2d4201bb5c18671f88e569554a17fd9a2be2df"), looks := true }, kinds := [], alts := [], laidByText := true, laidKinds := [.data, .data], laidTests := true, laidLooks := .later }
def WordsMoreUptoCardSaid : Prop := Claim7.holds Tryd.pinned (.plain (OpenSpec.upto wordsMoreSpec)) wordsMoreUptoCard

/-- THE SECOND FORM's CARD OF 'noontidelaw04.StampOrder'. -/
def stampOrderUptoCard : Claim7 := { stood := { row := stampOrderUptoRow, standIns := [], harness := (true, "0df602d652a98072b7f9e5f22d2d4201bb5c18671f88e569554a17fd9a2be2df"), looks := true }, kinds := [], alts := [], laidByText := true, laidKinds := [.data, .data, .data], laidTests := true, laidLooks := .later }
def StampOrderUptoCardSaid : Prop := Claim7.holds Tryd.pinned (.plain (OpenSpec.upto stampOrderSpec)) stampOrderUptoCard

/-- THE SECOND FORM's CARD OF 'noontidelaw04.StampBack'. -/
def stampBackUptoCard : Claim7 := { stood := { row := stampBackUptoRow, standIns := [], harness := (true, "0df602d652a98072b7f9e5f22d2d4201bb5c18671f88e569554a17fd9a2be2df"), looks := true }, kinds := [], alts := [], laidByText := true, laidKinds := [.data, .data, .data], laidTests := true, laidLooks := .later }
def StampBackUptoCardSaid : Prop := Claim7.holds Tryd.pinned (.plain (OpenSpec.upto stampBackSpec)) stampBackUptoCard

/-- THE SECOND FORM's CARD OF 'noontidelaw16.AmountBack'. -/
def amountBackUptoCard : Claim7 := { stood := { row := amountBackUptoRow, standIns := [], harness := (true, "0df602d652a98072b7f9e5f22d2d4201bb5c18671f88e569554a17fd9a2be2df"), looks := true }, kinds := [], alts := [], laidByText := true, laidKinds := [.data, .data, .data, .data, .pinned], laidTests := true, laidLooks := .later }
def AmountBackUptoCardSaid : Prop := Claim7.holds Tryd.pinned (.plain (OpenSpec.upto amountBackSpec)) amountBackUptoCard

/-- THE SECOND FORM's CARD OF 'noontidelaw16.AmountParts'. -/
def amountPartsUptoCard : Claim7 := { stood := { row := amountPartsUptoRow, standIns := [], harness := (true, "0df602d652a98072b7f9e5f22d2d4201bb5c18671f88e569554a17fd9a2be2df"), looks := true }, kinds := [], alts := [], laidByText := true, laidKinds := [.data, .data, .data, .data, .pinned], laidTests := true, laidLooks := .later }
def AmountPartsUptoCardSaid : Prop := Claim7.holds Tryd.pinned (.plain (OpenSpec.upto amountPartsSpec)) amountPartsUptoCard

/-- THE SECOND FORM's CARD OF 'noontidelaw16.AmountTells'. -/
def amountTellsUptoCard : Claim7 := { stood := { row := amountTellsUptoRow, standIns := [], harness := (true, "0df602d652a98072b7f9e5f22d2d4201bb5c18671f88e569554a17fd9a2be2df"), looks := true }, kinds := [], alts := [], laidByText := true, laidKinds := [.data, .data, .data, .data, .pinned], laidTests := true, laidLooks := .later }
def AmountTellsUptoCardSaid : Prop := Claim7.holds Tryd.pinned (.plain (OpenSpec.upto amountTellsSpec)) amountTellsUptoCard

/-- THE SECOND FORM's CARD OF 'noontidelaw01.NumTells'. -/
def numTellsUptoCard : Claim7 := { stood := { row := numTellsUptoRow, standIns := [], harness := (true, "0df602d652a98072b7f9e5f22d2d4201bb5c18671f88e569554a17fd9a2be2df"), looks := true }, kinds := [], alts := [], laidByText := true, laidKinds := [.data, .data, .data, .sentinel, .sentinel], laidTests := true, laidLooks := .later }
def NumTellsUptoCardSaid : Prop := Claim7.holds Tryd.pinned (.plain (OpenSpec.upto numTellsSpec)) numTellsUptoCard

/-- THE SECOND FORM's CARD OF 'noontidelaw04.StampTells'. -/
def stampTellsUptoCard : Claim7 := { stood := { row := stampTellsUptoRow, standIns := [], harness := (true, "0df602d652a98072b7f9e5f22d2d4201bb5c18671f88e569554a17fd9a2be2df"), looks := true }, kinds := [], alts := [], laidByText := true, laidKinds := [.data, .data, .data], laidTests := true, laidLooks := .later }
def StampTellsUptoCardSaid : Prop := Claim7.holds Tryd.pinned (.plain (OpenSpec.upto stampTellsSpec)) stampTellsUptoCard

/-- THE SECOND FORM's CARD OF 'noontidelaw07.WeekTells'. -/
def weekTellsUptoCard : Claim7 := { stood := { row := weekTellsUptoRow, standIns := [], harness := (true, "0df602d652a98072b7f9e5f22d2d4201bb5c18671f88e569554a17fd9a2be2df"), looks := true }, kinds := [], alts := [], laidByText := true, laidKinds := [.data, .data, .data], laidTests := true, laidLooks := .later }
def WeekTellsUptoCardSaid : Prop := Claim7.holds Tryd.pinned (.plain (OpenSpec.upto weekTellsSpec)) weekTellsUptoCard

/-- THE SECOND FORM's CARD OF 'noontidelaw17.YearBack'. -/
def yearBackUptoCard : Claim7 := { stood := { row := yearBackUptoRow, standIns := [], harness := (true, "0df602d652a98072b7f9e5f22d2d4201bb5c18671f88e569554a17fd9a2be2df"), looks := true }, kinds := [], alts := [], laidByText := true, laidKinds := [.data, .data, .data, .sentinel, .sentinel], laidTests := true, laidLooks := .later }
def YearBackUptoCardSaid : Prop := Claim7.holds Tryd.pinned (.plain (OpenSpec.upto yearBackSpec)) yearBackUptoCard

/-- THE SECOND FORM's CARD OF 'noontidelaw19.ClockBack'. -/
def clockBackUptoCard : Claim7 := { stood := { row := clockBackUptoRow, standIns := [], harness := (true, "0df602d652a98072b7f9e5f22d2d4201bb5c18671f88e569554a17fd9a2be2df"), looks := true }, kinds := [], alts := [], laidByText := true, laidKinds := [.data, .data, .data, .data, .data, .pinned], laidTests := true, laidLooks := .later }
def ClockBackUptoCardSaid : Prop := Claim7.holds Tryd.pinned (.plain (OpenSpec.upto clockBackSpec)) clockBackUptoCard
end Rows
end Go.Proofs.YtldpchkapcnfbaaDoor
