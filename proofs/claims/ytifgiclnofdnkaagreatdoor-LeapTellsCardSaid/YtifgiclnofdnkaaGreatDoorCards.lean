/-
  DERIVED. GIVEN WITH THE SEED: THE CARDS: each row of YtifgiclnofdnkaaGreatDoorRows.lean that lists a variable, with what it lists TIED to the program's text (the seventh form; the later family's looks); each row that meets fmt, with fmt's text TOLD by the authors' own Lean function (tested against real Go, not proved from fmt's source: count such statements apart). THE CARD IS WHAT COUNTS. Prove the row's statement (the work); the ties are given (YtifgiclnofdnkaaGreatDoorTie.lean); close each card by the builder's one call (the guide's Derived/Test/ToyasCard.lean, 'card_holds'). Laid BY PROGRAM, IN A SANDBOX (cutbox-door.mjs). By AI agents, Wed Nov 11 2026. No macro, syntax, notation, axiom, sorry.
-/
import Derived.Test.YtifgiclnofdnkaaGreatDoorRows
import GoSem.ClaimSeven
namespace Go.Proofs.YtifgiclnofdnkaaGreatDoor
namespace Rows

/-- THE TIED CARD OF 'noontidelaw53.LeapTells'. -/
def leapTellsCard : Claim7 := { stood := { row := leapTellsRow, standIns := [], harness := (true, "131c09fff1ee3c91524cc5718cb80fe2a3631a5cbf014ac0f8c64b05714988aa"), looks := true }, kinds := [], alts := [], laidByText := true, laidKinds := [.data, .data, .data, .data, .pinned], laidTests := true, laidLooks := .later }
def LeapTellsCardSaid : Prop := Claim7.holds Tryz.pinned (.plain (OpenSpec.ofChange leapTellsSpec)) leapTellsCard

/-- THE TIED CARD OF 'noontidelaw53.LeapBack'. -/
def leapBackCard : Claim7 := { stood := { row := leapBackRow, standIns := [], harness := (true, "131c09fff1ee3c91524cc5718cb80fe2a3631a5cbf014ac0f8c64b05714988aa"), looks := true }, kinds := [], alts := [], laidByText := true, laidKinds := [.data, .data, .data, .data, .pinned], laidTests := true, laidLooks := .later }
def LeapBackCardSaid : Prop := Claim7.holds Tryz.pinned (.plain (OpenSpec.ofChange leapBackSpec)) leapBackCard

/-- THE SECOND FORM's CARD OF 'noontidelaw53.LeapTells'. -/
def leapTellsUptoCard : Claim7 := { stood := { row := leapTellsUptoRow, standIns := [], harness := (true, "131c09fff1ee3c91524cc5718cb80fe2a3631a5cbf014ac0f8c64b05714988aa"), looks := true }, kinds := [], alts := [], laidByText := true, laidKinds := [.data, .data, .data, .data, .pinned], laidTests := true, laidLooks := .later }
def LeapTellsUptoCardSaid : Prop := Claim7.holds Tryz.pinned (.plain (OpenSpec.upto leapTellsSpec)) leapTellsUptoCard

/-- THE SECOND FORM's CARD OF 'noontidelaw53.LeapBack'. -/
def leapBackUptoCard : Claim7 := { stood := { row := leapBackUptoRow, standIns := [], harness := (true, "131c09fff1ee3c91524cc5718cb80fe2a3631a5cbf014ac0f8c64b05714988aa"), looks := true }, kinds := [], alts := [], laidByText := true, laidKinds := [.data, .data, .data, .data, .pinned], laidTests := true, laidLooks := .later }
def LeapBackUptoCardSaid : Prop := Claim7.holds Tryz.pinned (.plain (OpenSpec.upto leapBackSpec)) leapBackUptoCard
end Rows
end Go.Proofs.YtifgiclnofdnkaaGreatDoor
