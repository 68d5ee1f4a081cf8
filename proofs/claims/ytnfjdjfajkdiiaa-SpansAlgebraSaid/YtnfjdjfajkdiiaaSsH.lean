/- Sets of spans: how many seconds a set has, counted; what that says of totals. -/
import Derived.Test.YtnfjdjfajkdiiaaSsF
set_option linter.unusedVariables false
set_option linter.unusedSimpArgs false
namespace Go.Proofs.Ytnfjdjfajkdiiaa
open Go.RowKit Go.Sort Go.Shelf

namespace Ss
/-- All seconds, span by span. -/
def ln : List S → Int
  | [] => 0
  | s :: l => (s.2 - s.1) + ln l
/-- How many of n seconds from lo on have a mark. -/
def cn (f : Int → Bool) (lo : Int) : Nat → Int
  | 0 => 0
  | n + 1 => cn f lo n + cond (f (lo + n)) 1 0
theorem cn_nn (f : Int → Bool) (lo : Int) (n : Nat) : 0 ≤ cn f lo n := by
  induction n with
  | zero => exact Int.le_refl _
  | succ n ih => rw [cn]; cases f (lo + n) <;> simp <;> omega
theorem cn_or (f g : Int → Bool) (lo : Int) (n : Nat) : cn (fun t => f t || g t) lo n + cn (fun t => f t && g t) lo n = cn f lo n + cn g lo n := by
  induction n with
  | zero => rfl
  | succ n ih => simp only [cn]; cases f (lo + n) <;> cases g (lo + n) <;> simp <;> omega
theorem cn_le {f g : Int → Bool} (h : ∀ t, f t = true → g t = true) (lo : Int) (n : Nat) : cn f lo n ≤ cn g lo n := by
  induction n with
  | zero => exact Int.le_refl _
  | succ n ih =>
    simp only [cn]
    have := h (lo + n)
    cases hf : f (lo + n) <;> cases hg : g (lo + n) <;> simp_all <;> omega
theorem cn_congr {f g : Int → Bool} (h : ∀ t, f t = g t) (lo : Int) (n : Nat) : cn f lo n = cn g lo n := by
  rw [show f = g from funext h]
theorem cn_no {f : Int → Bool} (h : ∀ t, f t = false) (lo : Int) (n : Nat) : cn f lo n = 0 := by
  induction n with
  | zero => rfl
  | succ n ih => simp only [cn, ih, h]; rfl
theorem cn_hs (a b lo : Int) (h1 : lo ≤ a) (h2 : a ≤ b) (n : Nat) : cn (fun t => Sp.hs a b t) lo n = max 0 (min b (lo + n) - a) := by
  induction n with
  | zero => simp only [cn]; omega
  | succ n ih =>
    simp only [cn, ih]
    cases hh : Sp.hs a b (lo + n)
    · simp [Sp.hs] at hh; simp; omega
    · simp [Sp.hs] at hh; simp; omega
theorem cn_ln (lo : Int) (n : Nat) : ∀ l : List S, Rs l → (∀ s ∈ l, lo ≤ s.1 ∧ s.2 ≤ lo + n) → cn (inl l) lo n = ln l := by
  intro l
  induction l with
  | nil => intro _ _; exact cn_no (fun _ => rfl) lo n
  | cons s l ih =>
    intro h hb
    obtain ⟨p1, p2⟩ := List.pairwise_cons.1 h.1
    have h0 := h.2 s (List.mem_cons_self ..)
    have h3 := hb s (List.mem_cons_self ..)
    have hl := ih ⟨p2, fun x hx => h.2 x (List.mem_cons_of_mem _ hx)⟩ (fun x hx => hb x (List.mem_cons_of_mem _ hx))
    have e := cn_or (fun t => Sp.hs s.1 s.2 t) (inl l) lo n
    have z : cn (fun t => Sp.hs s.1 s.2 t && inl l t) lo n = 0 := by
      refine cn_no (fun t => ?_) lo n
      cases hi : inl l t
      · exact Bool.and_false _
      · obtain ⟨v, hv, c, d⟩ := inl_lt hi
        have := p1 v hv
        simp [Sp.hs]; omega
    have i : cn (inl (s :: l)) lo n = cn (fun t => Sp.hs s.1 s.2 t || inl l t) lo n := rfl
    rw [i, ln, ← hl]
    have q := cn_hs s.1 s.2 lo h3.1 (by omega) n
    omega
theorem bounds (l : List S) : ∃ lo hi, lo ≤ hi ∧ ∀ s ∈ l, lo ≤ s.1 ∧ s.2 ≤ hi := by
  induction l with
  | nil => exact ⟨0, 0, Int.le_refl _, fun s hs => absurd hs (by simp)⟩
  | cons s l ih =>
    obtain ⟨lo, hi, h, ih⟩ := ih
    refine ⟨min lo s.1, max hi s.2, by omega, fun x hx => ?_⟩
    rcases List.mem_cons.1 hx with rfl | hx
    · omega
    · have := ih x hx; omega
/-- What is in one at least, and what is in both: together as much as both. -/
theorem ln_or {l k o n : List S} (hl : Rs l) (hk : Rs k) (ho : Rs o) (hn : Rs n) (eo : ∀ t, inl o t = (inl l t || inl k t)) (en : ∀ t, inl n t = (inl l t && inl k t)) : ln o + ln n = ln l + ln k := by
  obtain ⟨lo, hi, h, hb⟩ := bounds (l ++ k ++ o ++ n)
  obtain ⟨m, hm⟩ : ∃ m : Nat, hi = lo + m := ⟨(hi - lo).toNat, by omega⟩
  subst hm
  have c := fun (x : List S) (hx : Rs x) (hs : ∀ s ∈ x, s ∈ l ++ k ++ o ++ n) => cn_ln lo m x hx fun s q => hb s (hs s q)
  rw [← c l hl fun s q => by simp [q], ← c k hk fun s q => by simp [q], ← c o ho fun s q => by simp [q], ← c n hn fun s q => by simp [q], cn_congr eo, cn_congr en]
  exact cn_or _ _ _ _
theorem ln_nn {l : List S} (h : Rs l) : 0 ≤ ln l := by
  induction l with
  | nil => exact Int.le_refl _
  | cons s l ih =>
    have := h.2 s (List.mem_cons_self ..)
    have := ih ⟨(List.pairwise_cons.1 h.1).2, fun x hx => h.2 x (List.mem_cons_of_mem _ hx)⟩
    rw [ln]; omega
/-- A total is told just if it is one of 64 bits. -/
theorem tot_eq (l : List S) : ∀ acc : Int, 0 ≤ acc → Rs l → tot acc l = if l = [] ∨ acc + ln l ≤ 9223372036854775807 then (acc + ln l, 0) else (0, 1) := by
  induction l with
  | nil => intro acc _ _; simp [tot, ln]
  | cons s l ih =>
    intro acc ha h
    have h0 := h.2 s (List.mem_cons_self ..)
    have hr : Rs l := ⟨(List.pairwise_cons.1 h.1).2, fun x hx => h.2 x (List.mem_cons_of_mem _ hx)⟩
    have hn := ln_nn hr
    rw [tot, ih _ (by omega) hr]
    simp only [ln, reduceCtorEq, false_or]
    by_cases hf : Nm.fits (s.2 - s.1) && Nm.fits (acc + (s.2 - s.1))
    · rw [if_pos hf]
      by_cases hl : l = []
      · subst hl
        rw [if_pos (.inl rfl), if_pos]
        · simp [ln]
        · simp [Nm.fits] at hf; simp [ln]; omega
      · simp only [hl, false_or]
        rw [show acc + (s.2 - s.1) + ln l = acc + (s.2 - s.1 + ln l) by omega]
    · rw [if_neg hf, if_neg]
      simp [Nm.fits] at hf
      omega
end Ss
end Go.Proofs.Ytnfjdjfajkdiiaa
