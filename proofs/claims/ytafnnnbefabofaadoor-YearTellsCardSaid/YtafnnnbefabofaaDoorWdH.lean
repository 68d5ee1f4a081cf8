/- Words: Match, exact first, in plain lists. -/
import Derived.Test.YtafnnnbefabofaaDoorWdCb
set_option linter.unusedVariables false
set_option linter.unusedSimpArgs false
namespace Go.Proofs.YtafnnnbefabofaaDoor
open Go.RowKit Go.Sort

namespace Wd
def ref2 (s : List UInt8) (all : List ByteArray) : List ByteArray → Nat → Int → Int × Int
  | [], _, f => if f < 0 then (0, 3) else (f, 0)
  | x :: r, i, f => if beg x.data.toList s = false then ref2 s all r (i + 1) f else if f < 0 then ref2 s all r (i + 1) (i : Int)
    else if same (all.getD f.toNat ByteArray.empty).data.toList x.data.toList = true then ref2 s all r (i + 1) f else (0, 3)
def ref1 (s : List UInt8) (all : List ByteArray) : List ByteArray → Nat → Int × Int
  | [], _ => ref2 s all all 0 (-1)
  | x :: r, i => if same x.data.toList s = true then ((i : Int), 0) else ref1 s all r (i + 1)
theorem ref2_step {s : List UInt8} {all : List ByteArray} {k : Nat} {f : Int} (h : k < all.length) : ref2 s all (all.drop k) k f =
    if beg all[k].data.toList s = false then ref2 s all (all.drop (k + 1)) (k + 1) f else if f < 0 then ref2 s all (all.drop (k + 1)) (k + 1) (k : Int)
    else if same (all.getD f.toNat ByteArray.empty).data.toList all[k].data.toList = true then ref2 s all (all.drop (k + 1)) (k + 1) f else (0, 3) := by
  rw [List.drop_eq_getElem_cons h]
  rfl
theorem ref1_step {s : List UInt8} {all : List ByteArray} {k : Nat} (h : k < all.length) : ref1 s all (all.drop k) k = if same all[k].data.toList s = true then ((k : Int), 0) else ref1 s all (all.drop (k + 1)) (k + 1) := by
  rw [List.drop_eq_getElem_cons h]
  rfl
theorem run_exact {s : List UInt8} {all : List ByteArray} : ∀ (r : List ByteArray) (i : Nat) (f : Int) (sv : Bool), (∃ x ∈ r, same x.data.toList s = true) → run s all r i f sv = ref1 s all r i := by
  intro r
  induction r with
  | nil => intro i f sv ⟨x, hx, _⟩; cases hx
  | cons y r ih =>
    intro i f sv hex
    unfold run ref1
    by_cases h : same y.data.toList s = true
    · rw [if_pos h, if_pos h]
    · rw [if_neg h, if_neg h]
      have hr : ∃ x ∈ r, same x.data.toList s = true := by
        obtain ⟨x, hx, he⟩ := hex
        rcases List.mem_cons.1 hx with rfl | hx
        · exact absurd he h
        · exact ⟨x, hx, he⟩
      split
      · exact ih _ _ _ hr
      · split
        · exact ih _ _ _ hr
        · split <;> exact ih _ _ _ hr
theorem run_many {s : List UInt8} {all : List ByteArray} : ∀ (r : List ByteArray) (i : Nat) (f : Int), (∀ x ∈ r, ¬ same x.data.toList s = true) → run s all r i f true = (0, 3) := by
  intro r
  induction r with
  | nil => intro i f _; rw [run_nil, if_pos (.inr rfl)]
  | cons y r ih =>
    intro i f hno
    have hr : ∀ x ∈ r, ¬ same x.data.toList s = true := fun x hx => hno x (List.mem_cons_of_mem _ hx)
    unfold run
    rw [if_neg (hno y (List.mem_cons_self ..))]
    split
    · exact ih _ _ hr
    · split
      · exact ih _ _ hr
      · split <;> exact ih _ _ hr
theorem run_ref2 {s : List UInt8} {all : List ByteArray} : ∀ (r : List ByteArray) (i : Nat) (f : Int), (∀ x ∈ r, ¬ same x.data.toList s = true) → run s all r i f false = ref2 s all r i f := by
  intro r
  induction r with
  | nil => intro i f _; rw [run_nil]; unfold ref2; simp
  | cons y r ih =>
    intro i f hno
    have hr : ∀ x ∈ r, ¬ same x.data.toList s = true := fun x hx => hno x (List.mem_cons_of_mem _ hx)
    unfold run ref2
    rw [if_neg (hno y (List.mem_cons_self ..))]
    split
    · exact ih _ _ hr
    · split
      · exact ih _ _ hr
      · rw [same_comm]
        split
        · exact ih _ _ hr
        · exact run_many _ _ _ hr
theorem ref1_no {s : List UInt8} {all : List ByteArray} : ∀ (r : List ByteArray) (i : Nat), (∀ x ∈ r, ¬ same x.data.toList s = true) → ref1 s all r i = ref2 s all all 0 (-1) := by
  intro r
  induction r with
  | nil => intro i _; rfl
  | cons y r ih =>
    intro i hno
    unfold ref1
    rw [if_neg (hno y (List.mem_cons_self ..))]
    exact ih _ (fun x hx => hno x (List.mem_cons_of_mem _ hx))
theorem mat_ref {s : List UInt8} {all : List ByteArray} (h : s ≠ []) : mat s all = ref1 s all all 0 := by
  unfold mat
  rw [if_neg h]
  by_cases hex : ∃ x ∈ all, same x.data.toList s = true
  · exact run_exact _ _ _ _ hex
  · have hno : ∀ x ∈ all, ¬ same x.data.toList s = true := fun x hx he => hex ⟨x, hx, he⟩
    rw [run_ref2 _ _ _ hno, ref1_no _ _ hno]
end Wd
end Go.Proofs.YtafnnnbefabofaaDoor
