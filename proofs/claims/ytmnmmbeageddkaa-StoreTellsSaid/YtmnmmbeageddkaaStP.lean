/- Stores in plain lists: what is kept is in order; what is found. -/
import Derived.Test.YtmnmmbeageddkaaStG
import Derived.Test.YtmnmmbeageddkaaStE
set_option linter.unusedVariables false
set_option linter.unusedSimpArgs false
namespace Go.Proofs.Ytmnmmbeageddkaa
open Go.RowKit Go.Sort Go.Shelf

namespace Sk
theorem pair_at {l : List If.I} (h : Kept l) (i j : Nat) (hi : i < l.length) (hj : j < l.length) (hij : i < j) : l[i].2.1 ≤ l[j].1 := List.pairwise_iff_getElem.1 h.2 i j hi hj hij
/-- The one that has a second is at its place. -/
theorem at_mem {t : Int} {l : List If.I} (h : Kept l) {x : If.I} (hx : x ∈ l) (ht : Sp.hs x.1 x.2.1 t = true) : has t l = true ∧ fnd t l = x := by
  obtain ⟨j, hj, rfl⟩ := List.mem_iff_getElem.1 hx
  have h0 : l[j].1 ≤ t ∧ t < l[j].2.1 := by simpa [Sp.hs] using ht
  have e : pl t l = j := by
    have h1 := pl_lt (t := t) h j hj
    rcases Nat.lt_trichotomy (pl t l) j with g | g | g
    · exfalso
      have h2 := pl_lt (t := t) h (pl t l) (by omega)
      have h3 := pair_at h (pl t l) j (by omega) hj g
      omega
    · exact g
    · exfalso; omega
  have hh : has t l = true := by rw [has_at t l (by omega)]; simp only [e]; exact ht
  refine ⟨hh, ?_⟩
  rw [fnd_at t l hh]
  simp only [e]
theorem fnd_in {t : Int} {l : List If.I} (h : has t l = true) : fnd t l ∈ l ∧ Sp.hs (fnd t l).1 (fnd t l).2.1 t = true := by
  rw [fnd_at t l h]
  exact ⟨List.getElem_mem _, by have := h; rw [has_at t l (has_lt h)] at this; exact this⟩
theorem mem_ins38 (k : Nat) (i x : If.I) (l : List If.I) : x ∈ ins k i l ↔ x = i ∨ x ∈ l := by
  unfold ins
  rw [List.mem_append, List.mem_cons]
  constructor
  · rintro (h | h | h)
    · exact .inr (List.mem_of_mem_take h)
    · exact .inl h
    · exact .inr (List.mem_of_mem_drop h)
  · rintro (h | h)
    · exact .inr (.inl h)
    · rw [← List.take_append_drop k l, List.mem_append] at h
      exact h.elim .inl (fun h => .inr (.inr h))
theorem kept_ins {i : If.I} {l : List If.I} (h : Kept l) (hi : i.1 < i.2.1) (hm : ∀ hk : pl i.1 l < l.length, Sp.mt l[pl i.1 l].1 l[pl i.1 l].2.1 i.1 i.2.1 = false) : Kept (ins (pl i.1 l) i l) := by
  refine ⟨fun x hx => ?_, ?_⟩
  · rcases (mem_ins38 _ _ _ _).1 hx with rfl | hx
    · exact hi
    · exact h.1 x hx
  · unfold ins
    have hs := h.2
    rw [← List.take_append_drop (pl i.1 l) l] at hs
    obtain ⟨s1, s2, s3⟩ := List.pairwise_append.1 hs
    have ahead : ∀ x ∈ l.take (pl i.1 l), x.2.1 ≤ i.1 := by
      intro x hx
      obtain ⟨j, hj, rfl⟩ := List.mem_iff_getElem.1 hx
      rw [List.length_take] at hj
      rw [List.getElem_take]
      exact (pl_lt h j (by omega)).1 (by omega)
    have behind : ∀ x ∈ l.drop (pl i.1 l), i.2.1 ≤ x.1 := by
      intro x hx
      obtain ⟨j, hj, rfl⟩ := List.mem_iff_getElem.1 hx
      rw [List.length_drop] at hj
      rw [List.getElem_drop]
      have hk : pl i.1 l < l.length := by omega
      have g1 := hm hk
      have g2 := pl_lt (t := i.1) h (pl i.1 l) hk
      have g3 := h.1 _ (List.getElem_mem hk)
      have g4 : i.2.1 ≤ l[pl i.1 l].1 := by
        simp [Sp.mt] at g1
        omega
      rcases Nat.eq_zero_or_pos j with e | e
      · subst e; exact g4
      · have g5 := pair_at h (pl i.1 l) (pl i.1 l + j) hk (by omega) (by omega)
        omega
    refine List.pairwise_append.2 ⟨s1, List.pairwise_cons.2 ⟨behind, s2⟩, fun x hx y hy => ?_⟩
    rcases List.mem_cons.1 hy with rfl | hy
    · exact ahead x hx
    · exact s3 x hx y hy
theorem put_all (room : Int) (i : If.I) (l : List If.I) (h : Kept l) : Kept (put room i l).2 ∧ (∀ x, x ∈ l → x ∈ (put room i l).2) ∧ (∀ x, x ∈ (put room i l).2 → x = i ∨ x ∈ l) ∧ (((put room i l).1 = 0 ∧ (put room i l).2.length = l.length + 1) ∨ ((put room i l).1 ≠ 0 ∧ (put room i l).2.length = l.length)) := by
  have same : ∀ q : Int, q ≠ 0 → put room i l = (q, l) → Kept (put room i l).2 ∧ (∀ x, x ∈ l → x ∈ (put room i l).2) ∧ (∀ x, x ∈ (put room i l).2 → x = i ∨ x ∈ l) ∧ (((put room i l).1 = 0 ∧ (put room i l).2.length = l.length + 1) ∨ ((put room i l).1 ≠ 0 ∧ (put room i l).2.length = l.length)) := by
    intro q hq e
    rw [e]
    exact ⟨h, fun x hx => hx, fun x hx => .inr hx, .inr ⟨hq, rfl⟩⟩
  have more : i.1 < i.2.1 → (∀ hk : pl i.1 l < l.length, Sp.mt l[pl i.1 l].1 l[pl i.1 l].2.1 i.1 i.2.1 = false) → put room i l = (0, ins (pl i.1 l) i l) → Kept (put room i l).2 ∧ (∀ x, x ∈ l → x ∈ (put room i l).2) ∧ (∀ x, x ∈ (put room i l).2 → x = i ∨ x ∈ l) ∧ (((put room i l).1 = 0 ∧ (put room i l).2.length = l.length + 1) ∨ ((put room i l).1 ≠ 0 ∧ (put room i l).2.length = l.length)) := by
    intro hi hm e
    rw [e]
    refine ⟨kept_ins h hi hm, fun x hx => (mem_ins38 _ _ _ _).2 (.inr hx), fun x hx => (mem_ins38 _ _ _ _).1 hx, .inl ⟨rfl, ?_⟩⟩
    have := pl_len i.1 l
    unfold ins
    rw [List.length_append, List.length_cons, List.length_take, List.length_drop]; omega
  rcases hr : Sp.rb i.1 i.2.1 with _ | _
  · exact same 4 (by decide) (by unfold put; rw [hr]; rfl)
  · have hi : i.1 < i.2.1 := by simpa [Sp.rb] using hr
    by_cases hk : pl i.1 l < l.length
    · have e : put room i l = (if l[pl i.1 l] = i then (11, l) else if Sp.mt l[pl i.1 l].1 l[pl i.1 l].2.1 i.1 i.2.1 then (21, l) else if (l.length : Int) = room then (17, l) else (0, ins (pl i.1 l) i l)) := by
        unfold put; rw [hr, List.getElem?_eq_getElem hk]; rfl
      by_cases h1 : l[pl i.1 l] = i
      · exact same 11 (by decide) (by rw [e, if_pos h1])
      · rcases h2 : Sp.mt l[pl i.1 l].1 l[pl i.1 l].2.1 i.1 i.2.1 with _ | _
        · by_cases h3 : (l.length : Int) = room
          · exact same 17 (by decide) (by rw [e, if_neg h1, if_neg (by rw [h2]; decide), if_pos h3])
          · exact more hi (fun _ => h2) (by rw [e, if_neg h1, if_neg (by rw [h2]; decide), if_neg h3])
        · exact same 21 (by decide) (by rw [e, if_neg h1, if_pos h2])
    · have e : put room i l = (if (l.length : Int) = room then (17, l) else (0, ins (pl i.1 l) i l)) := by
        unfold put; rw [hr, List.getElem?_eq_none (by omega)]; rfl
      by_cases h3 : (l.length : Int) = room
      · exact same 17 (by decide) (by rw [e, if_pos h3])
      · exact more hi (fun hk' => absurd hk' hk) (by rw [e, if_neg h3])
/-- What Near tells lies around the second. -/
theorem near_all (t : Int) (l : List If.I) (h : Kept l) : ((nearA t l).2 = true → (nearA t l).1.2.1 ≤ t) ∧ ((nearB t l).2 = true → t < (nearB t l).1.1) ∧ ((nearA t l).2 = true → (nearB t l).2 = true → (nearA t l).1.2.1 ≤ (nearB t l).1.1) := by
  have hp := pl_len t l
  have hB' : ∀ m, nb t l = m → ∀ hb : m < l.length, t < l[m].1 ∧ pl t l ≤ m := by
    intro m hm hb
    unfold nb at hm
    cases hh : has t l
    · rw [hh] at hm
      have e : pl t l = m := hm
      subst e
      have h1 := has_at t l hb
      rw [hh] at h1
      have h2 := pl_lt (t := t) h (pl t l) hb
      simp [Sp.hs] at h1
      exact ⟨by omega, Nat.le_refl _⟩
    · rw [hh] at hm
      have e : pl t l + 1 = m := hm
      subst e
      have h1 := has_at t l (by omega)
      rw [hh] at h1
      simp [Sp.hs] at h1
      have h2 := pair_at h (pl t l) (pl t l + 1) (by omega) hb (by omega)
      exact ⟨by omega, by omega⟩
  have hB : ∀ hb : nb t l < l.length, t < l[nb t l].1 ∧ pl t l ≤ nb t l := fun hb => hB' _ rfl hb
  have hA : ∀ h0 : 0 < pl t l, l[pl t l - 1].2.1 ≤ t := fun h0 => (pl_lt h (pl t l - 1) (by omega)).1 (by omega)
  unfold nearA nearB
  by_cases h0 : 0 < pl t l
  · rw [if_pos h0, gt_at _ _ (by omega)]
    by_cases hb : nb t l < l.length
    · rw [if_pos hb, gt_at _ _ hb]
      refine ⟨fun _ => hA h0, fun _ => (hB hb).1, fun _ _ => ?_⟩
      have g1 := (hB hb).1; have g2 := hA h0
      show l[pl t l - 1].2.1 ≤ l[nb t l].1
      exact Int.le_trans g2 (Int.le_of_lt g1)
    · rw [if_neg hb]
      exact ⟨fun _ => hA h0, (fun e => by cases e), (fun _ e => by cases e)⟩
  · rw [if_neg h0]
    by_cases hb : nb t l < l.length
    · rw [if_pos hb, gt_at _ _ hb]
      exact ⟨(fun e => by cases e), fun _ => (hB hb).1, (fun e => by cases e)⟩
    · rw [if_neg hb]
      exact ⟨(fun e => by cases e), (fun e => by cases e), (fun e => by cases e)⟩
end Sk
end Go.Proofs.Ytmnmmbeageddkaa
