/- Clocks: a text cut from its clock's letter. -/
import Derived.Test.YtfcabofhlgmkjaaDoorAmC
import Derived.Test.YtfcabofhlgmkjaaDoorLaid3
import Derived.Shelf.Small.Strs
set_option linter.unusedVariables false
set_option linter.unusedSimpArgs false
namespace Go.Proofs.YtfcabofhlgmkjaaDoor
open Go.RowKit Go.Sort

namespace Cl
def let_ : List (List UInt8) := [[119, 87], [115, 83], [117, 85, 103, 71, 122, 90]]
/-- The letters of clocks lie in memory as they are written. -/
structure Tab (w : World) : Prop where
  c0 : w.cell? ⟨0, 0, none⟩ = some (.string ⟨#[119, 87]⟩)
  c1 : w.cell? ⟨0, 1, none⟩ = some (.string ⟨#[115, 83]⟩)
  c2 : w.cell? ⟨0, 2, none⟩ = some (.string ⟨#[117, 85, 103, 71, 122, 90]⟩)
theorem Tab.on {w w' : World} (h : Tab w) (k : Below w.heap.size w w') : Tab w' := ⟨(k.cell (World.block_lt_of_cell? _ _ h.c0)).trans h.c0, (k.cell (World.block_lt_of_cell? _ _ h.c1)).trans h.c1, (k.cell (World.block_lt_of_cell? _ _ h.c2)).trans h.c2⟩
/-- Which clock a letter means (3: none). -/
def base (c : UInt8) : Nat := if c = 119 ∨ c = 87 then 0 else if c = 115 ∨ c = 83 then 1 else if c = 117 ∨ c = 85 ∨ c = 103 ∨ c = 71 ∨ c = 122 ∨ c = 90 then 2 else 3
/-- Its place among a clock's letters (below 0: none). -/
theorem base_tab : ∀ n : Fin 256, ((decide (0 ≤ Lib.indexByte [119, 87] (UInt8.ofNat n.val)) == decide (base (UInt8.ofNat n.val) = 0)) && ((decide (0 ≤ Lib.indexByte [115, 83] (UInt8.ofNat n.val)) == decide (base (UInt8.ofNat n.val) = 1)) && (decide (0 ≤ Lib.indexByte [117, 85, 103, 71, 122, 90] (UInt8.ofNat n.val)) == decide (base (UInt8.ofNat n.val) = 2)))) = true := by decide +kernel
theorem base_at (c : UInt8) : (0 ≤ Lib.indexByte [119, 87] c ↔ base c = 0) ∧ (0 ≤ Lib.indexByte [115, 83] c ↔ base c = 1) ∧ (0 ≤ Lib.indexByte [117, 85, 103, 71, 122, 90] c ↔ base c = 2) := by
  have h := base_tab ⟨c.toNat, c.toNat_lt⟩
  have e : UInt8.ofNat c.toNat = c := UInt8.ofNat_toNat
  simp only [e, Bool.and_eq_true, beq_iff_eq, decide_eq_decide] at h
  exact h
/-- What stands ahead of the clock's letter; the clock. -/
def cutL (s : ByteArray) : ByteArray × Int := if h : 0 < s.size then (if base s[s.size - 1] = 3 then (s, 0) else (s.extract 0 (s.size - 1), (base s[s.size - 1] : Int))) else (s, 0)
end Cl
theorem ixb (s : ByteArray) (c : UInt8) (w : World) : Calls Tryd.prog 149 #[.string s, .int .u8 (c.toNat : Int)] w fun e w' => e = .returned (.int .i64 (Lib.indexByte s.data.toList c)) ∧ w = w' :=
  (Any.strings_IndexByte Tryd.lays137 s (c.toNat : Int) w).mono fun _ _ ⟨h, e⟩ => ⟨by rw [h]; simp, e.symm⟩
end Go.Proofs.YtfcabofhlgmkjaaDoor
