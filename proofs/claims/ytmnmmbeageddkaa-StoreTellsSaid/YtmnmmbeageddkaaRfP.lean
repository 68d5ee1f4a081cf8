/- What the reference's stores tell, and keep, is what the program's do: in plain lists. -/
import Derived.Test.YtmnmmbeageddkaaStP
import Derived.Test.YtmnmmbeageddkaaStF
import Derived.Test.YtmnmmbeageddkaaRfC
import Derived.Test.YtmnmmbeageddkaaRfE
set_option linter.unusedVariables false
set_option linter.unusedSimpArgs false
namespace Go.Proofs.Ytmnmmbeageddkaa
open Go.RowKit Go.Sort Go.Shelf

namespace Rf
open Sk
theorem fd_cases (t : Int) (l : List If.I) : (∃ x ∈ l, Sp.hs x.1 x.2.1 t = true ∧ fd t l = (x, true)) ∨ ((∀ x ∈ l, Sp.hs x.1 x.2.1 t = false) ∧ fd t l = (zI, false)) := by
  induction l with
  | nil => exact .inr ⟨fun x hx => (by cases hx), rfl⟩
  | cons p r ih =>
    unfold fd
    cases hp : Sp.hs p.1 p.2.1 t
    · rcases ih with ⟨x, hx, h1, h2⟩ | ⟨h1, h2⟩
      · exact .inl ⟨x, List.mem_cons_of_mem _ hx, h1, by simpa using h2⟩
      · refine .inr ⟨fun x hx => ?_, by simpa using h2⟩
        rcases List.mem_cons.1 hx with rfl | hx
        · exact hp
        · exact h1 x hx
    · exact .inl ⟨p, List.mem_cons_self, hp, by simp⟩
theorem has_no {t : Int} {l : List If.I} (hk : Kept l) (h : has t l = false) : ∀ x ∈ l, Sp.hs x.1 x.2.1 t = false := by
  intro x hx
  cases hh : Sp.hs x.1 x.2.1 t
  · rfl
  · have := (at_mem hk hx hh).1
    rw [h] at this; cases this
theorem fd_eq {t : Int} {l : List If.I} (hk : Kept l) : fd t l = (fnd t l, has t l) := by
  rcases fd_cases t l with ⟨x, hx, h1, h2⟩ | ⟨h1, h2⟩
  · obtain ⟨h3, h4⟩ := at_mem hk hx h1
    rw [h2, h3, h4]
  · have h3 : has t l = false := by
      cases h : has t l
      · rfl
      · have := fnd_in h
        rw [h1 _ this.1] at this
        cases this.2
    rw [h2, h3, fnd_no t l h3]
theorem left_all {t : Int} {l : List If.I} (h : ∀ x ∈ l, Sp.hs x.1 x.2.1 t = false) : left t l = l := by
  unfold left
  rw [List.filter_eq_self]
  intro x hx
  rw [h x hx]; rfl
theorem drop_eq {t : Int} {l : List If.I} (hk : Kept l) : Rf.drop t l = Sk.drop t l := by
  unfold Rf.drop Sk.drop
  cases hh : has t l
  · rw [left_all (has_no hk hh), if_pos rfl]; rfl
  · have hlt := has_lt hh
    have h1 := has_at t l hlt
    rw [hh] at h1
    have h2 : l[pl t l].1 ≤ t ∧ t < l[pl t l].2.1 := by simpa [Sp.hs] using h1.symm
    have e : left t l = l.take (pl t l) ++ l.drop (pl t l + 1) := by
      have a1 : left t (l.take (pl t l)) = l.take (pl t l) := left_all (fun x hx => by
        obtain ⟨j, hj, rfl⟩ := List.mem_iff_getElem.1 hx
        rw [List.length_take] at hj
        rw [List.getElem_take]
        have := (pl_lt hk j (by omega) (t := t)).1 (by omega)
        simp [Sp.hs]; omega)
      have a2 : left t (l.drop (pl t l + 1)) = l.drop (pl t l + 1) := left_all (fun x hx => by
        obtain ⟨j, hj, rfl⟩ := List.mem_iff_getElem.1 hx
        rw [List.length_drop] at hj
        rw [List.getElem_drop]
        have := pair_at hk (pl t l) (pl t l + 1 + j) hlt (by omega) (by omega)
        simp [Sp.hs]; omega)
      have a3 : left t l = left t (l.take (pl t l)) ++ left t (l.drop (pl t l)) := by
        conv => lhs; rw [← List.take_append_drop (pl t l) l]
        unfold left; rw [List.filter_append]
      have a4 : left t (l.drop (pl t l)) = left t (l.drop (pl t l + 1)) := by
        rw [List.drop_eq_getElem_cons hlt]
        unfold left
        rw [List.filter_cons, ← h1]
        rfl
      rw [a3, a4, a1, a2]
    have hne : ¬ (left t l).length = l.length := by
      rw [e, List.length_append, List.length_take, List.length_drop]; omega
    rw [if_neg hne, e]
    rfl
theorem nr_A (t : Int) (l : List If.I) (A B : If.I × Bool) : ((nr t l A B).1 = A ∧ ∀ k, (h : k < l.length) → ¬ l[k].2.1 ≤ t) ∨ ∃ k, ∃ h : k < l.length, (nr t l A B).1 = (l[k], true) ∧ l[k].2.1 ≤ t ∧ ∀ j, (h : j < l.length) → k < j → ¬ l[j].2.1 ≤ t := by
  induction l generalizing A B with
  | nil => exact .inl ⟨rfl, fun k h => absurd h (by simp)⟩
  | cons p r ih =>
    unfold nr
    rcases ih (if p.2.1 ≤ t then (p, true) else A) (if t < p.1 ∧ B.2 = false then (p, true) else B) with ⟨h1, h2⟩ | ⟨k, hk, h1, h2, h3⟩
    · by_cases hp : p.2.1 ≤ t
      · refine .inr ⟨0, by simp, by rw [h1, if_pos hp]; rfl, hp, fun j hj h0 => ?_⟩
        cases j with
        | zero => omega
        | succ j => exact h2 j (by simpa using hj)
      · refine .inl ⟨by rw [h1, if_neg hp], fun k hk => ?_⟩
        cases k with
        | zero => exact hp
        | succ k => exact h2 k (by simpa using hk)
    · refine .inr ⟨k + 1, by simpa using hk, by rw [h1]; rfl, h2, fun j hj h0 => ?_⟩
      cases j with
      | zero => omega
      | succ j => exact h3 j (by simpa using hj) (by omega)
theorem nr_keep (t : Int) (l : List If.I) (A B : If.I × Bool) (h : B.2 = true) : (nr t l A B).2 = B := by
  induction l generalizing A with
  | nil => rfl
  | cons p r ih =>
    unfold nr
    have e : (if t < p.1 ∧ B.2 = false then (p, true) else B) = B := if_neg (fun e => by rw [h] at e; cases e.2)
    rw [e]
    exact ih _
theorem nr_B (t : Int) (l : List If.I) (A B : If.I × Bool) (hB : B.2 = false) : ((nr t l A B).2 = B ∧ ∀ k, (h : k < l.length) → ¬ t < l[k].1) ∨ ∃ k, ∃ h : k < l.length, (nr t l A B).2 = (l[k], true) ∧ t < l[k].1 ∧ ∀ j, (h : j < l.length) → j < k → ¬ t < l[j].1 := by
  induction l generalizing A with
  | nil => exact .inl ⟨rfl, fun k h => absurd h (by simp)⟩
  | cons p r ih =>
    unfold nr
    by_cases hp : t < p.1
    · refine .inr ⟨0, by simp, ?_, hp, fun j _ h => absurd h (by omega)⟩
      have e : (if t < p.1 ∧ B.2 = false then (p, true) else B) = (p, true) := if_pos ⟨hp, hB⟩
      rw [e]
      exact nr_keep _ _ _ _ rfl
    · have e : (if t < p.1 ∧ B.2 = false then (p, true) else B) = B := if_neg (fun e => hp e.1)
      rw [e]
      rcases ih (if p.2.1 ≤ t then (p, true) else A) with ⟨h1, h2⟩ | ⟨k, hk, h1, h2, h3⟩
      · refine .inl ⟨h1, fun k hk => ?_⟩
        cases k with
        | zero => exact hp
        | succ k => exact h2 k (by simpa using hk)
      · refine .inr ⟨k + 1, by simpa using hk, by rw [h1]; rfl, h2, fun j hj h0 => ?_⟩
        cases j with
        | zero => exact hp
        | succ j => exact h3 j (by simpa using hj) (by omega)
theorem nr_eq {t : Int} {l : List If.I} (hk : Kept l) : nr t l (zI, false) (zI, false) = (nearA t l, nearB t l) := by
  have hp := pl_len t l
  have e1 : (nr t l (zI, false) (zI, false)).1 = nearA t l := by
    unfold nearA
    rcases nr_A t l (zI, false) (zI, false) with ⟨h1, h2⟩ | ⟨k, hl, h1, h2, h3⟩
    · rw [h1, if_neg]
      intro h0
      exact h2 0 (by omega) ((pl_lt hk 0 (by omega)).1 h0)
    · have g1 := (pl_lt hk k hl).2 h2
      have g2 : pl t l = k + 1 := by
        rcases Nat.lt_or_ge (k + 1) (pl t l) with g | g
        · exact absurd ((pl_lt hk (k + 1) (by omega)).1 g) (h3 (k + 1) (by omega) (by omega))
        · omega
      rw [h1, g2, if_pos (by omega), gt_at _ _ (by omega)]
      rfl
  have e2 : (nr t l (zI, false) (zI, false)).2 = nearB t l := by
    have hat : ∀ h : pl t l < l.length, has t l = true → l[pl t l].1 ≤ t ∧ t < l[pl t l].2.1 := fun h h' => by
      rw [has_at t l h] at h'
      simpa [Sp.hs] using h'
    have hnot : ∀ h : pl t l < l.length, ¬ l[pl t l].2.1 ≤ t := fun h h' => by
      have := (pl_lt hk (pl t l) h).2 h'; omega
    have hb : ∀ h : pl t l < l.length, l[pl t l].1 ≤ t → has t l = true := fun h h' => by
      rw [has_at t l h]
      have := hnot h
      simp [Sp.hs]; omega
    unfold nearB
    rcases nr_B t l (zI, false) (zI, false) rfl with ⟨h1, h2⟩ | ⟨k, hl, h1, h2, h3⟩
    · rw [h1, if_neg]
      intro h0
      unfold nb at h0
      cases hh : has t l
      · rw [hh] at h0
        have h0' : pl t l < l.length := h0
        have := hb h0' (by have := h2 _ h0'; omega)
        rw [hh] at this; cases this
      · rw [hh] at h0
        have h0' : pl t l + 1 < l.length := h0
        have g1 := hat (by omega) hh
        have g2 := pair_at hk (pl t l) (pl t l + 1) (by omega) h0' (by omega)
        exact h2 _ h0' (by omega)
    · have hw := hk.1 _ (List.getElem_mem hl)
      have g1 : pl t l ≤ k := by
        rcases Nat.lt_or_ge k (pl t l) with g | g
        · have := (pl_lt hk k hl).1 g; omega
        · exact g
      have g2 : nb t l = k := by
        unfold nb
        cases hh : has t l
        · show pl t l = k
          rcases Nat.lt_or_ge (pl t l) k with g | g
          · have := hb (by omega) (by have := h3 _ (by omega) g; omega)
            rw [hh] at this; cases this
          · omega
        · show pl t l + 1 = k
          have g3 := hat (by omega) hh
          rcases Nat.lt_or_ge (pl t l) k with g | g
          · rcases Nat.lt_or_ge (pl t l + 1) k with g' | g'
            · have g4 := pair_at hk (pl t l) (pl t l + 1) (by omega) (by omega) (by omega)
              exact absurd (by omega) (h3 (pl t l + 1) (by omega) g')
            · omega
          · have e : pl t l = k := by omega
            subst e
            omega
      rw [h1, g2, if_pos hl, gt_at _ _ hl]
  exact Prod.ext e1 e2
theorem put_eq {room : Int} {i : If.I} {l : List If.I} (hk : Kept l) (hr : (l.length : Int) ≤ room) : Rf.put room i l = Sk.put room i l := by
  unfold Rf.put Sk.put
  cases hb : Sp.rb i.1 i.2.1
  · rfl
  have hi : i.1 < i.2.1 := by simpa [Sp.rb] using hb
  rw [if_pos rfl, if_pos rfl]
  have hlen : room ≤ (l.length : Int) ↔ (l.length : Int) = room := by omega
  have meet : ∀ x : If.I, x.1 < x.2.1 → (Sp.mt x.1 x.2.1 i.1 i.2.1 = true ↔ x.1 < i.2.1 ∧ i.1 < x.2.1) := fun x hx => by
    simp only [Sp.mt, decide_eq_true_eq]; omega
  have into : (∀ hl : pl i.1 l < l.length, Sp.mt l[pl i.1 l].1 l[pl i.1 l].2.1 i.1 i.2.1 = false) → If.ins i l = Sk.ins (pl i.1 l) i l := fun hm => by
    refine If.ins_at i l _ (pl_len _ _) (fun j hj h => ?_) (fun h => ?_)
    · have g1 := (pl_lt hk j hj).1 h
      have g2 := hk.1 _ (List.getElem_mem hj)
      omega
    · have g1 := hk.1 _ (List.getElem_mem h)
      have g2 : ¬ l[pl i.1 l].2.1 ≤ i.1 := fun e => by have := (pl_lt hk _ h).2 e; omega
      have g3 := hm h
      have g4 : ¬ (l[pl i.1 l].1 < i.2.1 ∧ i.1 < l[pl i.1 l].2.1) := fun e => by rw [(meet _ g1).2 e] at g3; cases g3
      omega
  have any : anyM i l = true → ∃ hl : pl i.1 l < l.length, Sp.mt l[pl i.1 l].1 l[pl i.1 l].2.1 i.1 i.2.1 = true := fun h => by
    unfold anyM at h
    obtain ⟨x, hx, h1⟩ := List.any_eq_true.1 h
    obtain ⟨j, hj, rfl⟩ := List.mem_iff_getElem.1 hx
    have g0 := hk.1 _ hx
    have g1 := (meet _ g0).1 h1
    have g2 : pl i.1 l ≤ j := by
      rcases Nat.lt_or_ge j (pl i.1 l) with g | g
      · have := (pl_lt hk j hj).1 g; omega
      · exact g
    have hl : pl i.1 l < l.length := by omega
    have g3 := hk.1 _ (List.getElem_mem hl)
    have g4 : ¬ l[pl i.1 l].2.1 ≤ i.1 := fun e => by have := (pl_lt hk _ hl).2 e; omega
    refine ⟨hl, (meet _ g3).2 ⟨?_, by omega⟩⟩
    rcases Nat.lt_or_ge (pl i.1 l) j with g | g
    · have := pair_at hk _ j hl hj g; omega
    · have e : pl i.1 l = j := by omega
      subst e
      exact g1.1
  have isat : If.isin i l = true → ∃ hl : pl i.1 l < l.length, l[pl i.1 l] = i := fun h => by
    have hm := (If.isin_iff i l).1 h
    obtain ⟨h1, h2⟩ := at_mem (t := i.1) hk hm (by simp [Sp.hs]; omega)
    exact ⟨has_lt h1, by rw [← fnd_at i.1 l h1]; exact h2⟩
  by_cases hl : pl i.1 l < l.length
  · rw [List.getElem?_eq_getElem hl]
    dsimp only
    by_cases h1 : l[pl i.1 l] = i
    · rw [if_pos h1, if_pos ((If.isin_iff i l).2 (h1 ▸ List.getElem_mem hl))]
    · have n1 : ¬ If.isin i l = true := fun h => by obtain ⟨_, e⟩ := isat h; exact h1 e
      rw [if_neg n1, if_neg h1]
      cases h2 : Sp.mt l[pl i.1 l].1 l[pl i.1 l].2.1 i.1 i.2.1
      · have n2 : ¬ anyM i l = true := fun h => by obtain ⟨_, e⟩ := any h; rw [h2] at e; cases e
        rw [if_neg n2, if_neg (show ¬ (false = true) by decide), into (fun _ => h2)]
        by_cases h3 : (l.length : Int) = room
        · rw [if_pos (hlen.2 h3), if_pos h3]
        · rw [if_neg (fun e => h3 (hlen.1 e)), if_neg h3]
      · have y2 : anyM i l = true := List.any_eq_true.2 ⟨_, List.getElem_mem hl, h2⟩
        rw [if_pos y2, if_pos rfl]
  · rw [List.getElem?_eq_none (by omega)]
    dsimp only
    have n1 : ¬ If.isin i l = true := fun h => by obtain ⟨h', _⟩ := isat h; exact hl h'
    have n2 : ¬ anyM i l = true := fun h => by obtain ⟨h', _⟩ := any h; exact hl h'
    rw [if_neg n1, if_neg n2, into (fun h' => absurd h' hl)]
    by_cases h3 : (l.length : Int) = room
    · rw [if_pos (hlen.2 h3), if_pos h3]
    · rw [if_neg (fun e => h3 (hlen.1 e)), if_neg h3]
theorem kept_drop {t : Int} {l : List If.I} (hk : Kept l) : Kept (Sk.drop t l).2 ∧ (Sk.drop t l).2.length ≤ l.length := by
  unfold Sk.drop
  split
  · have e : (l.take (pl t l) ++ l.drop (pl t l + 1)).Sublist l := by
      conv => rhs; rw [← List.take_append_drop (pl t l) l]
      exact (List.Sublist.refl _).append ((List.drop_sublist_drop_left l (Nat.le_succ _)))
    exact ⟨⟨fun x hx => hk.1 x (e.subset hx), hk.2.sublist e⟩, e.length_le⟩
  · exact ⟨hk, Nat.le_refl _⟩
end Rf
end Go.Proofs.Ytmnmmbeageddkaa
