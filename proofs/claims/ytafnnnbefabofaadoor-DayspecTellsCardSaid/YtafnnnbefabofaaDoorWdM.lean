/- Words by their beginnings, in plain lists of bytes. -/
import Derived.Test.YtafnnnbefabofaaDoorProg
set_option linter.unusedVariables false
set_option linter.unusedSimpArgs false
namespace Go.Proofs.YtafnnnbefabofaaDoor.Wd
open Go

/-- A byte as a small letter. -/
def sm (b : UInt8) : Int := if 65 ≤ (b.toNat : Int) ∧ (b.toNat : Int) ≤ 90 then (b.toNat : Int) + 32 else b.toNat
theorem sm_bd (b : UInt8) : 0 ≤ sm b ∧ sm b ≤ 255 := by
  have := b.toNat_lt
  unfold sm; split <;> omega
/-- Does a word begin so? -/
def beg : List UInt8 → List UInt8 → Bool
  | _, [] => true
  | [], _ :: _ => false
  | w :: ws, s :: ss => decide (sm w = sm s) && beg ws ss
def same (a b : List UInt8) : Bool := decide (a.length = b.length) && beg a b
theorem beg_short : ∀ {a b : List UInt8}, a.length < b.length → beg a b = false := by
  intro a
  induction a with
  | nil => intro b h; cases b with
    | nil => simp at h
    | cons x b => rfl
  | cons w a ih => intro b h; cases b with
    | nil => simp at h
    | cons x b => simp only [beg, ih (by simpa using h), Bool.and_false]
theorem beg_iff : ∀ {a b : List UInt8}, beg a b = true ↔ b.length ≤ a.length ∧ ∀ i (h1 : i < a.length) (h2 : i < b.length), sm a[i] = sm b[i] := by
  intro a
  induction a with
  | nil => intro b; cases b with
    | nil => simp [beg]
    | cons x b => simp [beg]
  | cons w a ih => intro b; cases b with
    | nil => simp [beg]
    | cons x b =>
      simp only [beg, Bool.and_eq_true, decide_eq_true_eq, ih, List.length_cons]
      constructor
      · rintro ⟨h, hl, hi⟩
        refine ⟨by omega, ?_⟩
        intro i h1 h2
        cases i with
        | zero => exact h
        | succ i => exact hi i (by omega) (by omega)
      · rintro ⟨hl, hi⟩
        exact ⟨hi 0 (by omega) (by omega), by omega, fun i h1 h2 => hi (i + 1) (by omega) (by omega)⟩
theorem beg_no {a b : List UInt8} {i : Nat} (h1 : i < a.length) (h2 : i < b.length) (h : sm a[i] ≠ sm b[i]) : beg a b = false := by
  cases hb : beg a b
  · rfl
  · exact absurd ((beg_iff.1 hb).2 i h1 h2) h
theorem beg_yes {a b : List UInt8} (hl : b.length ≤ a.length) (h : ∀ i (h1 : i < a.length) (h2 : i < b.length), sm a[i] = sm b[i]) : beg a b = true := beg_iff.2 ⟨hl, h⟩
theorem same_iff {a b : List UInt8} : same a b = true ↔ a.length = b.length ∧ ∀ i (h1 : i < a.length) (h2 : i < b.length), sm a[i] = sm b[i] := by
  unfold same
  rw [Bool.and_eq_true, decide_eq_true_eq, beg_iff]
  constructor
  · rintro ⟨h, -, hi⟩; exact ⟨h, hi⟩
  · rintro ⟨h, hi⟩; exact ⟨h, by omega, hi⟩
theorem same_comm (a b : List UInt8) : same a b = same b a := by
  rw [Bool.eq_iff_iff, same_iff, same_iff]
  constructor <;> rintro ⟨h, hi⟩ <;> exact ⟨h.symm, fun i h1 h2 => (hi i h2 h1).symm⟩
theorem same_refl (a : List UInt8) : same a a = true := same_iff.2 ⟨rfl, fun _ _ _ => rfl⟩
theorem same_trans {a b c : List UInt8} (h : same a b = true) (h2 : same b c = true) : same a c = true := by
  obtain ⟨l1, i1⟩ := same_iff.1 h
  obtain ⟨l2, i2⟩ := same_iff.1 h2
  exact same_iff.2 ⟨by omega, fun i k1 k2 => (i1 i k1 (by omega)).trans (i2 i (by omega) k2)⟩

/-- The first word that is it. -/
def exact : List (List UInt8) → Nat → List UInt8 → Option Nat
  | [], _, _ => none
  | w :: ws, i, s => if same w s then some i else exact ws (i + 1) s
/-- The first word that begins so. -/
def first : List (List UInt8) → Nat → List UInt8 → Option Nat
  | [], _, _ => none
  | w :: ws, i, s => if beg w s then some i else first ws (i + 1) s
/-- What is meant: the place, or none. -/
def mt (s : List UInt8) (ws : List (List UInt8)) : Option Nat :=
  if s = [] then none else
  match exact ws 0 s with
  | some i => some i
  | none => match first ws 0 s with
    | none => none
    | some i => if ws.all (fun w => !beg w s || same (ws.getD i []) w) then some i else none
end Go.Proofs.YtafnnnbefabofaaDoor.Wd
