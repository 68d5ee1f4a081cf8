/- Words: what Match can answer. -/
import Derived.Test.YtafnnnbefabofaaDoorWdB
set_option linter.unusedVariables false
set_option linter.unusedSimpArgs false
namespace Go.Proofs.YtafnnnbefabofaaDoor
open Go.RowKit Go.Sort

namespace Wd
theorem run_bd (s : List UInt8) (all : List ByteArray) (N : Nat) : ∀ (r : List ByteArray) (k : Nat) (f : Int) (sv : Bool), k + r.length ≤ N → f < N →
    0 ≤ (run s all r k f sv).1 ∧ (run s all r k f sv).1 ≤ N ∧ ((run s all r k f sv).2 = 0 ∨ (run s all r k f sv).2 = 3 ∧ (run s all r k f sv).1 = 0) := by
  intro r
  induction r with
  | nil =>
    intro k f sv h1 h2
    rw [run_nil]
    split
    · simp
    · rename_i h
      have : ¬ f < 0 := fun hh => h (.inl hh)
      simp; omega
  | cons x r ih =>
    intro k f sv h1 h2
    have h3 : k + 1 + r.length ≤ N := by simp at h1; omega
    have h4 : (k : Int) < N := by simp at h1; omega
    unfold run
    split
    · simp; omega
    · split
      · exact ih _ _ _ h3 h2
      · split
        · exact ih _ _ _ h3 h4
        · split
          · exact ih _ _ _ h3 h2
          · exact ih _ _ _ h3 h2
theorem mat_bd (s : List UInt8) (all : List ByteArray) : 0 ≤ (mat s all).1 ∧ (mat s all).1 ≤ all.length ∧ ((mat s all).2 = 0 ∨ (mat s all).2 = 3 ∧ (mat s all).1 = 0) := by
  unfold mat
  split
  · simp
  · rename_i h
    have hN : (-1 : Int) < (all.length : Int) := by omega
    exact run_bd s all all.length all 0 (-1) false (by omega) hN
def days : List ByteArray := [⟨#[83, 117, 110, 100, 97, 121]⟩, ⟨#[77, 111, 110, 100, 97, 121]⟩, ⟨#[84, 117, 101, 115, 100, 97, 121]⟩, ⟨#[87, 101, 100, 110, 101, 115, 100, 97, 121]⟩, ⟨#[84, 104, 117, 114, 115, 100, 97, 121]⟩, ⟨#[70, 114, 105, 100, 97, 121]⟩, ⟨#[83, 97, 116, 117, 114, 100, 97, 121]⟩]
/-- What a table's word means: one more than its place. -/
def up (p : Int × Int) : Int := if p.2 = 0 then p.1 + 1 else 0
/-- The first three letters of a word of a table; nothing of none. -/
def t3 (l : List ByteArray) (i : Int) : ByteArray := if 0 ≤ i ∧ i < l.length then (l.getD i.toNat ByteArray.empty).extract 0 3 else ByteArray.empty
end Wd
end Go.Proofs.YtafnnnbefabofaaDoor
