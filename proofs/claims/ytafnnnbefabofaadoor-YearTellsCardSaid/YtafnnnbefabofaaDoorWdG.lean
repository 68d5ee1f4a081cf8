/- Words: what Match means, in plain lists: who is found begins so, alone but for its equals; one letter more; one word more. -/
import Derived.Test.YtafnnnbefabofaaDoorWdH
set_option linter.unusedVariables false
set_option linter.unusedSimpArgs false
namespace Go.Proofs.YtafnnnbefabofaaDoor
open Go.RowKit Go.Sort

theorem ifc {c d : Prop} [Decidable c] [Decidable d] {α : Type} {a b : α} (h : c ↔ d) : (if c then a else b) = if d then a else b := by
  by_cases hc : c
  · rw [if_pos hc, if_pos (h.1 hc)]
  · rw [if_neg hc, if_neg (fun x => hc (h.2 x))]
namespace Wd
theorem ref2_set {s : List UInt8} {all : List ByteArray} : ∀ (r : List ByteArray) (i j : Nat), ref2 s all r i (j : Int) = if (∀ x ∈ r, beg x.data.toList s = true → same (all.getD j ByteArray.empty).data.toList x.data.toList = true) then ((j : Int), 0) else (0, 3) := by
  intro r
  induction r with
  | nil => intro i j; unfold ref2; rw [if_neg (by omega), if_pos (by intro x hx; cases hx)]
  | cons y r ih =>
    intro i j
    unfold ref2
    by_cases h : beg y.data.toList s = false
    · rw [if_pos h, ih]
      refine ifc ?_
      constructor
      · intro H x hx hb
        rcases List.mem_cons.1 hx with rfl | hx
        · rw [h] at hb; cases hb
        · exact H x hx hb
      · intro H x hx hb
        exact H x (List.mem_cons_of_mem _ hx) hb
    · rw [if_neg h, if_neg (by omega)]
      have hb : beg y.data.toList s = true := by simpa using h
      simp only [Int.toNat_natCast]
      by_cases h2 : same (all.getD j ByteArray.empty).data.toList y.data.toList = true
      · rw [if_pos h2, ih]
        refine ifc ?_
        constructor
        · intro H x hx hb
          rcases List.mem_cons.1 hx with rfl | hx
          · exact h2
          · exact H x hx hb
        · intro H x hx hb
          exact H x (List.mem_cons_of_mem _ hx) hb
      · rw [if_neg h2, if_neg (fun H => h2 (H y (List.mem_cons_self ..) hb))]
theorem ref2_open {s : List UInt8} {all : List ByteArray} : ∀ (r pre : List ByteArray), all = pre ++ r →
    (ref2 s all r pre.length (-1) = (0, 3) ∧ ∀ x ∈ r, beg x.data.toList s = false) ∨
    ∃ (k : Nat) (hk : k < all.length), beg all[k].data.toList s = true ∧ ref2 s all r pre.length (-1) = if (∀ x ∈ r, beg x.data.toList s = true → same all[k].data.toList x.data.toList = true) then ((k : Int), 0) else (0, 3) := by
  intro r
  induction r with
  | nil => intro pre _; left; exact ⟨by unfold ref2; rfl, by intro x hx; cases hx⟩
  | cons y r ih =>
    intro pre hall
    by_cases h : beg y.data.toList s = false
    · have e : ref2 s all (y :: r) pre.length (-1) = ref2 s all r (pre ++ [y]).length (-1) := by
        conv => lhs; unfold ref2
        rw [if_pos h]; simp
      rw [e]
      rcases ih (pre ++ [y]) (by rw [hall]; simp) with ⟨a, b⟩ | ⟨k, hk, a, b⟩
      · left
        refine ⟨a, ?_⟩
        intro x hx
        rcases List.mem_cons.1 hx with rfl | hx
        · exact h
        · exact b x hx
      · right
        refine ⟨k, hk, a, ?_⟩
        rw [b]
        refine ifc ?_
        constructor
        · intro H x hx hb
          rcases List.mem_cons.1 hx with rfl | hx
          · rw [h] at hb; cases hb
          · exact H x hx hb
        · intro H x hx hb
          exact H x (List.mem_cons_of_mem _ hx) hb
    · have hb : beg y.data.toList s = true := by simpa using h
      right
      have hk : pre.length < all.length := by rw [hall]; simp
      have hy : all[pre.length] = y := by subst hall; simp
      refine ⟨pre.length, hk, by rw [hy]; exact hb, ?_⟩
      have e : ref2 s all (y :: r) pre.length (-1) = ref2 s all r (pre.length + 1) (pre.length : Int) := by
        conv => lhs; unfold ref2
        rw [if_neg h, if_pos (by omega)]
      rw [e, ref2_set]
      have g : all.getD pre.length ByteArray.empty = y := by rw [List.getD_eq_getElem?_getD, List.getElem?_eq_getElem hk, hy]; rfl
      rw [g, hy]
      refine ifc ?_
      constructor
      · intro H x hx hb
        rcases List.mem_cons.1 hx with rfl | hx
        · exact same_refl _
        · exact H x hx hb
      · intro H x hx hb
        exact H x (List.mem_cons_of_mem _ hx) hb
theorem mat_no_exact {s : List UInt8} {all : List ByteArray} (hs : s ≠ []) (hno : ∀ x ∈ all, ¬ same x.data.toList s = true) :
    (mat s all = (0, 3) ∧ ∀ x ∈ all, beg x.data.toList s = false) ∨
    ∃ (k : Nat) (hk : k < all.length), beg all[k].data.toList s = true ∧ mat s all = if (∀ x ∈ all, beg x.data.toList s = true → same all[k].data.toList x.data.toList = true) then ((k : Int), 0) else (0, 3) := by
  have e : mat s all = ref2 s all all ([] : List ByteArray).length (-1) := by
    unfold mat
    rw [if_neg hs, run_ref2 _ _ _ hno]; rfl
  rw [e]
  exact ref2_open all [] rfl
theorem ref1_exact {s : List UInt8} {all : List ByteArray} : ∀ (r pre : List ByteArray), all = pre ++ r → (∃ x ∈ r, same x.data.toList s = true) →
    ∃ (k : Nat) (hk : k < all.length), ref1 s all r pre.length = ((k : Int), 0) ∧ same all[k].data.toList s = true := by
  intro r
  induction r with
  | nil => intro pre _ ⟨x, hx, _⟩; cases hx
  | cons y r ih =>
    intro pre hall hex
    by_cases h : same y.data.toList s = true
    · have hk : pre.length < all.length := by rw [hall]; simp
      have hy : all[pre.length] = y := by subst hall; simp
      exact ⟨pre.length, hk, by unfold ref1; rw [if_pos h], by rw [hy]; exact h⟩
    · have e : ref1 s all (y :: r) pre.length = ref1 s all r (pre ++ [y]).length := by
        conv => lhs; unfold ref1
        rw [if_neg h]; simp
      rw [e]
      refine ih (pre ++ [y]) (by rw [hall]; simp) ?_
      obtain ⟨x, hx, he⟩ := hex
      rcases List.mem_cons.1 hx with rfl | hx
      · exact absurd he h
      · exact ⟨x, hx, he⟩
theorem mat_exact {s : List UInt8} {all : List ByteArray} (hs : s ≠ []) (hex : ∃ x ∈ all, same x.data.toList s = true) :
    ∃ (k : Nat) (hk : k < all.length), mat s all = ((k : Int), 0) ∧ same all[k].data.toList s = true := by
  rw [mat_ref hs]
  exact ref1_exact all [] rfl hex
theorem same_beg {a b : List UInt8} (h : same a b = true) : beg a b = true := by
  unfold same at h
  rw [Bool.and_eq_true] at h
  exact h.2
theorem beg_left {w s t : List UInt8} (h : beg w (s ++ t) = true) : beg w s = true := by
  obtain ⟨hl, hi⟩ := beg_iff.1 h
  rw [List.length_append] at hl
  refine beg_iff.2 ⟨by omega, fun i h1 h2 => ?_⟩
  have := hi i h1 (by rw [List.length_append]; omega)
  rw [List.getElem_append_left h2] at this
  exact this
theorem beg_next {w s : List UInt8} (h : beg w s = true) (hl : s.length < w.length) : beg w (s ++ [w[s.length]]) = true := by
  obtain ⟨h1, hi⟩ := beg_iff.1 h
  refine beg_iff.2 ⟨by simp; omega, fun i k1 k2 => ?_⟩
  by_cases hlt : i < s.length
  · rw [List.getElem_append_left hlt]; exact hi i k1 hlt
  · have hil : i = s.length := by simp at k2; omega
    subst hil
    simp
/-- What is told when a word is found. -/
theorem mat_ok {s : List UInt8} {all : List ByteArray} (h : (mat s all).2 = 0) :
    ∃ (k : Nat) (hk : k < all.length), mat s all = ((k : Int), 0) ∧ s ≠ [] ∧ (same all[k].data.toList s = true ∨ (∀ x ∈ all, ¬ same x.data.toList s = true) ∧ beg all[k].data.toList s = true ∧ ∀ x ∈ all, beg x.data.toList s = true → same all[k].data.toList x.data.toList = true) := by
  have hs : s ≠ [] := by
    rintro rfl
    unfold mat at h
    rw [if_pos rfl] at h
    cases h
  by_cases hex : ∃ x ∈ all, same x.data.toList s = true
  · obtain ⟨k, hk, e, hm⟩ := mat_exact hs hex
    exact ⟨k, hk, e, hs, .inl hm⟩
  · have hno : ∀ x ∈ all, ¬ same x.data.toList s = true := fun x hx he => hex ⟨x, hx, he⟩
    rcases mat_no_exact hs hno with ⟨e, -⟩ | ⟨k, hk, hb, e⟩
    · rw [e] at h; cases h
    · by_cases hc : ∀ x ∈ all, beg x.data.toList s = true → same all[k].data.toList x.data.toList = true
      · rw [if_pos hc] at e
        exact ⟨k, hk, e, hs, .inr ⟨hno, hb, hc⟩⟩
      · rw [if_neg hc] at e
        rw [e] at h; cases h
/-- One letter more of who is found. -/
theorem mat_more {s t : List UInt8} {all : List ByteArray} {k : Nat} (hk : k < all.length) (hs : s ≠ []) (ht : beg all[k].data.toList (s ++ t) = true)
    (hc : ∀ x ∈ all, beg x.data.toList s = true → same all[k].data.toList x.data.toList = true) :
    ∃ (j : Nat) (hj : j < all.length), mat (s ++ t) all = ((j : Int), 0) ∧ same all[j].data.toList all[k].data.toList = true := by
  have hs' : s ++ t ≠ [] := by simp [hs]
  by_cases hex : ∃ x ∈ all, same x.data.toList (s ++ t) = true
  · obtain ⟨j, hj, e, hm⟩ := mat_exact hs' hex
    exact ⟨j, hj, e, by rw [same_comm]; exact hc _ (List.getElem_mem hj) (beg_left (same_beg hm))⟩
  · have hno : ∀ x ∈ all, ¬ same x.data.toList (s ++ t) = true := fun x hx he => hex ⟨x, hx, he⟩
    rcases mat_no_exact hs' hno with ⟨-, hn⟩ | ⟨j, hj, hb, e⟩
    · have := hn _ (List.getElem_mem hk)
      rw [ht] at this; cases this
    · have hjk := hc _ (List.getElem_mem hj) (beg_left hb)
      have hjk2 : same all[j].data.toList all[k].data.toList = true := by rw [same_comm]; exact hjk
      rw [if_pos (fun x hx hxb => same_trans hjk2 (hc x hx (beg_left hxb)))] at e
      exact ⟨j, hj, e, hjk2⟩
/-- One word more, that goes on behind who is found. -/
theorem mat_also {s : List UInt8} {all : List ByteArray} {k : Nat} (hk : k < all.length) (hs : s ≠ []) (y : ByteArray) (hl : all[k].data.toList.length < y.data.toList.length) (hb : beg all[k].data.toList s = true) (hy : beg y.data.toList s = true)
    (hno : ∀ x ∈ all, ¬ same x.data.toList s = true) : mat s (all ++ [y]) = (0, 3) := by
  have hn : ∀ x ∈ all ++ [y], ¬ same x.data.toList s = true := by
    intro x hx
    rcases List.mem_append.1 hx with hx | hx
    · exact hno x hx
    · simp only [List.mem_singleton] at hx
      subst hx
      intro h
      have h1 := (same_iff.1 h).1
      have h2 := (beg_iff.1 hb).1
      omega
  have m1 : all[k] ∈ all ++ [y] := List.mem_append_left _ (List.getElem_mem hk)
  have m2 : y ∈ all ++ [y] := by simp
  rcases mat_no_exact hs hn with ⟨-, h⟩ | ⟨j, hj, -, e⟩
  · have := h _ m1
    rw [hb] at this; cases this
  · rw [e, if_neg]
    intro H
    have a := H _ m1 hb
    have b := H _ m2 hy
    have c := (same_iff.1 a).1
    have d := (same_iff.1 b).1
    omega
/-- A word with something behind it begins as it does. -/
theorem beg_longer {w t s : List UInt8} (h : beg w s = true) : beg (w ++ t) s = true := by
  obtain ⟨hl, hi⟩ := beg_iff.1 h
  refine beg_iff.2 ⟨by rw [List.length_append]; omega, fun i h1 h2 => ?_⟩
  rw [List.getElem_append_left (by omega)]
  exact hi i (by omega) h2
end Wd
theorem bytes_app (a b : ByteArray) : (a ++ b).data.toList = a.data.toList ++ b.data.toList := by
  rw [ByteArray.data_append, Array.toList_append]
theorem bytes_cut1 (x : ByteArray) (n : Nat) (h : n < x.data.toList.length) : (x.extract n (n + 1)).data.toList = [x.data.toList[n]] := by
  rw [ByteArray.data_extract, Array.toList_extract]
  simp [List.extract_eq_take_drop, List.take_one, h]
end Go.Proofs.YtafnnnbefabofaaDoor
