/- The reference's formats, in plain lists: the places of '%' and '/' tell the kind. -/
import Derived.Test.YtfcabofhlgmkjaaDoorFpA
import Derived.Test.YtfcabofhlgmkjaaDoorFoD
set_option linter.unusedVariables false
set_option linter.unusedSimpArgs false
namespace Go.Proofs.YtfcabofhlgmkjaaDoor
open Go Go.Lib

namespace Fp
theorem fr_ge (c : UInt8) : ∀ (l : List UInt8) (at_ k : Int), 0 ≤ at_ → fr c at_ l k = if l.count c = 0 then at_ else -2
  | [], at_, k, h => by rw [if_pos (by simp)]; rfl
  | b :: t, at_, k, h => by
    unfold fr
    by_cases e : b = c
    · rw [if_pos e, if_pos h, if_neg (by rw [e, List.count_cons_self]; omega)]
    · rw [if_neg e, fr_ge c t at_ (k + 1) h, List.count_cons_of_ne (by simpa using e)]
theorem fr_cases (c : UInt8) : ∀ (l : List UInt8) (k : Int), 0 ≤ k → (l.count c = 0 ∧ fr c (-1) l k = -1) ∨ (∃ a b, l = a ++ c :: b ∧ l.count c = 1 ∧ a.count c = 0 ∧ b.count c = 0 ∧ fr c (-1) l k = k + a.length) ∨ (2 ≤ l.count c ∧ fr c (-1) l k = -2)
  | [], k, h => .inl ⟨by simp, rfl⟩
  | x :: t, k, h => by
    by_cases e : x = c
    · subst e
      have hf : fr x (-1) (x :: t) k = if t.count x = 0 then k else -2 := by
        conv => lhs; unfold fr
        rw [if_pos rfl, if_neg (by omega), fr_ge x t k (k + 1) h]
      rw [hf, List.count_cons_self]
      by_cases h0 : t.count x = 0
      · right; left
        exact ⟨[], t, rfl, by omega, by simp, h0, by rw [if_pos h0]; simp⟩
      · right; right
        exact ⟨by omega, if_neg h0⟩
    · have hf : fr c (-1) (x :: t) k = fr c (-1) t (k + 1) := by
        conv => lhs; unfold fr
        rw [if_neg e]
      have hc : (x :: t).count c = t.count c := List.count_cons_of_ne (by simpa using e)
      rw [hf, hc]
      rcases fr_cases c t (k + 1) (by omega) with h1 | ⟨a, b, h1, h2, h3, h4, h5⟩ | h1
      · exact .inl h1
      · refine .inr (.inl ⟨x :: a, b, by rw [h1]; rfl, h2, ?_, h4, ?_⟩)
        · rw [List.count_cons_of_ne (by simpa using e)]; exact h3
        · rw [h5, List.length_cons]; omega
      · exact .inr (.inr h1)
theorem pre_s (c : UInt8) (l : List UInt8) : ([37, 115] : List UInt8).isPrefixOf (c :: l) = ((37 == c) && (l.head? == some 115)) := by
  rw [List.isPrefixOf]
  congr 1
  cases l with
  | nil => rfl
  | cons d l =>
    rw [List.isPrefixOf, List.isPrefixOf, Bool.and_true]
    show (115 == d) = (some d == some 115)
    rw [Bool.eq_iff_iff, beq_iff_eq, beq_iff_eq]
    exact ⟨fun h => by rw [h], fun h => (Option.some.inj h).symm⟩
theorem ixs_none : ∀ l : List UInt8, l.count 37 = 0 → index l [37, 115] = -1 := by
  intro l
  induction l with
  | nil => intro _; rfl
  | cons c l ih =>
    intro h
    have hc : c ≠ 37 := fun e => by rw [e, List.count_cons_self] at h; omega
    have h1 : (37 == c) = false := by rw [beq_eq_false_iff_ne]; exact fun e => hc e.symm
    rw [List.count_cons_of_ne (by simpa using hc)] at h
    unfold index
    rw [pre_s, h1, ih h]
    rfl
theorem ixs_at : ∀ (a b : List UInt8), a.count 37 = 0 → b.count 37 = 0 → index (a ++ 37 :: b) [37, 115] = if b.head? = some 115 then (a.length : Int) else -1 := by
  intro a
  induction a with
  | nil =>
    intro b _ hb
    rw [List.nil_append]
    unfold index
    rw [pre_s, ixs_none b hb]
    by_cases h : b.head? = some 115
    · rw [if_pos h, h]; rfl
    · rw [if_neg h]
      have : (b.head? == some 115) = false := by rw [beq_eq_false_iff_ne]; exact h
      rw [this]; rfl
  | cons c a ih =>
    intro b ha hb
    have hc : c ≠ 37 := fun e => by rw [e, List.count_cons_self] at ha; omega
    have h1 : (37 == c) = false := by rw [beq_eq_false_iff_ne]; exact fun e => hc e.symm
    rw [List.count_cons_of_ne (by simpa using hc)] at ha
    rw [List.cons_append]
    unfold index
    rw [pre_s, h1, ih b ha hb]
    by_cases h : b.head? = some 115
    · have h3 : ((a.length : Int) == -1) = false := by rw [beq_eq_false_iff_ne]; omega
      rw [if_pos h, if_pos h, h3]; simp
    · rw [if_neg h, if_neg h]; rfl
theorem ix47 : ∀ (a b : List UInt8), a.count 47 = 0 → index (a ++ 47 :: b) [47] = (a.length : Int) := by
  intro a
  have pre : ∀ (c : UInt8) (l : List UInt8), ([47] : List UInt8).isPrefixOf (c :: l) = (47 == c) := fun c l => by rw [List.isPrefixOf, List.isPrefixOf, Bool.and_true]
  induction a with
  | nil => intro b _; rw [List.nil_append]; unfold index; rw [pre]; rfl
  | cons c a ih =>
    intro b ha
    have hc : c ≠ 47 := fun e => by rw [e, List.count_cons_self] at ha; omega
    have h1 : (47 == c) = false := by rw [beq_eq_false_iff_ne]; exact fun e => hc e.symm
    rw [List.count_cons_of_ne (by simpa using hc)] at ha
    have h3 : ((a.length : Int) == -1) = false := by rw [beq_eq_false_iff_ne]; omega
    rw [List.cons_append]
    unfold index
    rw [pre, h1, ih b ha, h3]
    simp
theorem pre47 (a b : List UInt8) (ha : a.count 47 = 0) : hasPrefix (a ++ 47 :: b) [47] = decide (a = []) := by
  cases a with
  | nil => simp [hasPrefix, List.isPrefixOf]
  | cons c a =>
    have hc : c ≠ 47 := fun e => by rw [e, List.count_cons_self] at ha; omega
    have h1 : (47 == c) = false := by rw [beq_eq_false_iff_ne]; exact fun e => hc e.symm
    unfold hasPrefix
    rw [List.cons_append, List.isPrefixOf, h1]; simp
theorem suf47 (a b : List UInt8) (hb : b.count 47 = 0) : hasSuffix (a ++ 47 :: b) [47] = decide (b = []) := by
  unfold hasSuffix
  rw [Bool.eq_iff_iff, List.isSuffixOf_iff_suffix, decide_eq_true_eq]
  constructor
  · rintro ⟨t, ht⟩
    rcases List.eq_nil_or_concat b with h | ⟨b', x, h⟩
    · exact h
    · exfalso
      have := congrArg List.getLast? ht
      rw [h, List.concat_eq_append] at this hb
      rw [show a ++ 47 :: (b' ++ [x]) = (a ++ 47 :: b') ++ [x] by simp, List.getLast?_concat, List.getLast?_concat] at this
      have := Option.some.inj this
      rw [← this] at hb
      simp at hb
  · rintro rfl
    exact ⟨a, rfl⟩
theorem rep (a t L : List UInt8) (ha : a.count 37 = 0) (ht : t.count 37 = 0) : Lib.replace (a ++ 37 :: 115 :: t) [37, 115] L 1 = a ++ L ++ t := by
  have hi : index (a ++ 37 :: 115 :: t) [37, 115] = (a.length : Int) := by
    rw [ixs_at a (115 :: t) ha (by rw [List.count_cons_of_ne (by decide)]; exact ht)]; exact if_pos rfl
  unfold Lib.replace
  by_cases h : (([37, 115] : List UInt8) == L) = true
  · rw [if_pos h, ← (beq_iff_eq.1 h)]; simp
  · rw [if_neg h]
    have hn : replaceNum (a ++ 37 :: 115 :: t) [37, 115] 1 = 1 := by
      unfold replaceNum
      have hc : 1 ≤ Lib.count (a ++ 37 :: 115 :: t) [37, 115] := by
        have h3 : ((a.length : Int) == -1) = false := by rw [beq_eq_false_iff_ne]; omega
        unfold Lib.count countFrom
        rw [hi, h3]
        simp
      rw [if_neg (by omega)]; rfl
    rw [hn, replaceK_hit _ _ 0 _ a.length hi]
    simp [replaceK]
theorem made_ok {l : List UInt8} (hall : Fo.mdA [43, 45, 37, 47] l = true) (hn : l ≠ []) : Fo.made [43, 45, 37, 47] l = true := by
  unfold Fo.made
  rw [hall]
  cases l with
  | nil => exact absurd rfl hn
  | cons _ _ => rfl
/-- The kind, by the counts. -/
theorem kd_of {l : List UInt8} (h16 : ¬ 16 < l.length) (hall : Fo.mdA [43, 45, 37, 47] l = true) (hn : l ≠ []) : Fo.kd l =
    if l.count 37 = 0 ∧ l.count 47 = 0 then (0, 0)
    else if (l.count 37 = 1 ∧ l.count 47 = 0) ∧ Lib.contains l [37, 115] = true then (1, 0)
    else if (l == [37, 122]) = true then (2, 0)
    else if (l.count 37 = 0 ∧ l.count 47 = 1) ∧ Lib.hasPrefix l [47] = false ∧ Lib.hasSuffix l [47] = false then (3, 0) else (0, 4) := by
  unfold Fo.kd
  rw [if_neg h16, if_neg (by rw [made_ok hall hn]; decide)]
theorem ne_z {l : List UInt8} (h : l.count 37 ≠ 1 ∨ l.count 47 ≠ 0) : l ≠ [37, 122] := fun e => by
  rw [e] at h
  rcases h with h | h
  · exact h (by decide)
  · exact h (by decide)
theorem nz {l : List UInt8} (h : l ≠ [37, 122]) : ¬ (l == [37, 122]) = true := fun e => h (beq_iff_eq.1 e)
theorem cls (l : List UInt8) (h16 : ¬ 16 < l.length) (hall : Fo.mdA [43, 45, 37, 47] l = true) (p q : Int) (hp : p = fr 37 (-1) l 0) (hq : q = fr 47 (-1) l 0) :
    (l = [] ∧ p = -1 ∧ q = -1 ∧ Fo.kd l = (0, 4)) ∨
    (l ≠ [] ∧ p = -1 ∧ q = -1 ∧ l ≠ [37, 122] ∧ Fo.kd l = (0, 0)) ∨
    (p = -1 ∧ ∃ a b, l = a ++ 47 :: b ∧ q = a.length ∧ l ≠ [37, 122] ∧ ((a ≠ [] ∧ b ≠ [] ∧ Fo.kd l = (3, 0) ∧ Lib.cut l [47] = (a, b, true)) ∨ ((a = [] ∨ b = []) ∧ Fo.kd l = (0, 4)))) ∨
    (p = -1 ∧ q = -2 ∧ l ≠ [37, 122] ∧ Fo.kd l = (0, 4)) ∨
    (q = -1 ∧ ∃ a b, l = a ++ 37 :: b ∧ p = a.length ∧ ((∃ t, b = 115 :: t ∧ Fo.kd l = (1, 0) ∧ l ≠ [37, 122] ∧ ∀ L, Lib.replace l [37, 115] L 1 = a ++ L ++ t) ∨ (b.head? ≠ some 115 ∧ ((l = [37, 122] ∧ Fo.kd l = (2, 0)) ∨ (l ≠ [37, 122] ∧ Fo.kd l = (0, 4)))))) ∨
    ((∃ a b, l = a ++ 37 :: b ∧ p = a.length) ∧ q ≠ -1 ∧ l ≠ [37, 122] ∧ Fo.kd l = (0, 4)) ∨
    (p = -2 ∧ l ≠ [37, 122] ∧ Fo.kd l = (0, 4)) := by
  by_cases hn : l = []
  · subst hn; left; exact ⟨rfl, hp, hq, rfl⟩
  · right
    have K := kd_of h16 hall hn
    rcases fr_cases 37 l 0 (by omega) with ⟨c1, f1⟩ | ⟨a, b, e1, c1, ca, cb, f1⟩ | ⟨c1, f1⟩
    · rw [f1] at hp
      have Z := ne_z (l := l) (.inl (by omega))
      rcases fr_cases 47 l 0 (by omega) with ⟨c2, f2⟩ | ⟨a, b, e2, c2, ca, cb, f2⟩ | ⟨c2, f2⟩
      · left
        rw [f2] at hq
        exact ⟨hn, hp, hq, Z, by rw [K, if_pos ⟨c1, c2⟩]⟩
      · right; left
        rw [f2, Int.zero_add] at hq
        refine ⟨hp, a, b, e2, hq, Z, ?_⟩
        rw [if_neg (by omega), if_neg (fun h => by omega), if_neg (nz Z)] at K
        have P1 : Lib.hasPrefix l [47] = decide (a = []) := by rw [e2]; exact pre47 a b ca
        have S1 : Lib.hasSuffix l [47] = decide (b = []) := by rw [e2]; exact suf47 a b cb
        rw [P1, S1] at K
        by_cases ha : a = []
        · right; exact ⟨.inl ha, by rw [K, if_neg (fun h => by have := of_decide_eq_false h.2.1; exact this ha)]⟩
        · by_cases hb : b = []
          · right; exact ⟨.inr hb, by rw [K, if_neg (fun h => by have := of_decide_eq_false h.2.2; exact this hb)]⟩
          · left
            refine ⟨ha, hb, by rw [K, if_pos ⟨⟨c1, c2⟩, decide_eq_false ha, decide_eq_false hb⟩], ?_⟩
            unfold Lib.cut
            rw [e2, ix47 a b ca, if_pos (by omega)]
            simp
      · right; right; left
        rw [f2] at hq
        exact ⟨hp, hq, Z, by rw [K, if_neg (by omega), if_neg (fun h => by omega), if_neg (nz Z), if_neg (fun h => by omega)]⟩
    · right; right; right
      rw [f1, Int.zero_add] at hp
      rcases fr_cases 47 l 0 (by omega) with ⟨c2, f2⟩ | hrest
      · left
        rw [f2] at hq
        refine ⟨hq, a, b, e1, hp, ?_⟩
        have C : Lib.contains l [37, 115] = decide (b.head? = some 115) := by
          unfold Lib.contains
          rw [e1, ixs_at a b ca cb]
          by_cases h : b.head? = some 115
          · rw [if_pos h]; simp [h]
          · rw [if_neg h]; simp [h]
        rw [C, if_neg (by omega)] at K
        by_cases h : b.head? = some 115
        · left
          obtain ⟨t, ht⟩ : ∃ t, b = 115 :: t := by
            cases b with
            | nil => cases h
            | cons x t => exact ⟨t, by rw [Option.some.inj h]⟩
          rw [if_pos ⟨⟨c1, c2⟩, decide_eq_true h⟩] at K
          subst ht
          refine ⟨t, rfl, K, fun e => ?_, fun L => ?_⟩
          · rw [e] at e1
            cases a with
            | nil => cases e1
            | cons x a =>
              have := congrArg List.length e1
              simp at this
              omega
          · rw [e1]; exact rep a t L ca (by rw [List.count_cons_of_ne (by decide)] at cb; exact cb)
        · right
          refine ⟨h, ?_⟩
          rw [if_neg (fun x => h (of_decide_eq_true x.2))] at K
          by_cases hz : l = [37, 122]
          · left; exact ⟨hz, by rw [K, if_pos (beq_iff_eq.2 hz)]⟩
          · right; exact ⟨hz, by rw [K, if_neg (nz hz), if_neg (fun h => by omega)]⟩
      · right; left
        have c2 : l.count 47 ≠ 0 ∧ q ≠ -1 := by
          rcases hrest with ⟨a, b, -, c2, -, -, f2⟩ | ⟨c2, f2⟩
          · exact ⟨by omega, by rw [hq, f2]; omega⟩
          · exact ⟨by omega, by rw [hq, f2]; omega⟩
        have Z := ne_z (l := l) (.inr c2.1)
        exact ⟨⟨a, b, e1, hp⟩, c2.2, Z, by rw [K, if_neg (by omega), if_neg (fun h => by omega), if_neg (nz Z), if_neg (fun h => by omega)]⟩
    · right; right; right; right; right
      rw [f1] at hp
      have Z := ne_z (l := l) (.inl (by omega))
      exact ⟨hp, Z, by rw [K, if_neg (by omega), if_neg (fun h => by omega), if_neg (nz Z), if_neg (fun h => by omega)]⟩
end Fp
end Go.Proofs.YtfcabofhlgmkjaaDoor
