/- Joined: NumN, Tx, RdM. -/
import Derived.Test.YtlelpeocbgjmhaaGreatDoorBz02
import Derived.Lib.ItoaLen
/- Numbers' texts, in plain arithmetic: what is read is written as it was; what is no text. -/
set_option linter.unusedVariables false
namespace Go.Proofs.YtlelpeocbgjmhaaGreatDoor.Num
open Go Go.Lib

theorem isT_nought {l : List UInt8} (h : l ≠ []) : isT (48 :: l) = false := by
  unfold isT
  rw [hp_cons, tp_other 48 l (by decide)]
  cases l with
  | nil => exact absurd rfl h
  | cons c r =>
    show numT ((48 : UInt8) == 45) (48 :: c :: r) = false
    unfold numT
    show (!((48 : UInt8) == 48 && (_ || !(c :: r).isEmpty)) && (48 :: c :: r).all dig) = false
    simp
theorem isT_minus (l : List UInt8) : isT (45 :: 45 :: l) = false := by
  unfold isT
  rw [hp_cons, tp_minus]
  show (!((45 : UInt8) == 48 && (((45 : UInt8) == 45) || !l.isEmpty)) && (45 :: l).all dig) = false
  have : dig 45 = false := by decide
  simp [this]
theorem itoa_ne (n : Int) : itoa n ≠ [] := by
  unfold itoa
  split
  · simp
  · exact (dec_all n.toNat n.toNat (Nat.le_refl _)).2.1
/-- What numT says of a text. -/
theorem numT_yes {b : Bool} {d : List UInt8} (h : numT b d = true) : d ≠ [] ∧ d.all dig = true ∧ (∀ c r, d = c :: r → r ≠ [] → c ≠ 48) ∧ (b = true → ∀ c r, d = c :: r → c ≠ 48) := by
  cases d with
  | nil => have h2 : false = true := h; cases h2
  | cons c r =>
    have h' : (!(c == 48 && (b || !r.isEmpty)) && (c :: r).all dig) = true := h
    rw [Bool.and_eq_true] at h'
    obtain ⟨h1, h2⟩ := h'
    refine ⟨by simp, h2, ?_, ?_⟩
    · intro c' r' e hr hc
      injection e with e1 e2
      subst e1 e2
      rw [hc] at h1
      have : r.isEmpty = false := by simpa using hr
      rw [this] at h1; simp at h1
    · intro hb c' r' e hc
      injection e with e1 e2
      subst e1 e2
      rw [hc, hb] at h1; simp at h1
theorem parseU (d : List UInt8) (h : d ≠ []) (ha : d.all dig = true) : parseUintB 64 d = .ok (val 0 d) ∨ parseUintB 64 d = .range := by
  unfold parseUintB
  rw [if_neg h]
  exact parse_all _ d 0 ha
theorem val_pos {d : List UInt8} (h : d ≠ []) (ha : d.all dig = true) (hz : ∀ c r, d = c :: r → c ≠ 48) : 1 ≤ val 0 d := by
  cases d with
  | nil => exact absurd rfl h
  | cons c r =>
    have hc := hz c r rfl
    have hd : 48 ≤ c.toNat ∧ c.toNat ≤ 57 := by
      simp only [List.all_cons, Bool.and_eq_true, dig, decide_eq_true_eq] at ha; exact ha.1
    have hc' : c.toNat ≠ 48 := fun e => hc (UInt8.toNat_inj.1 (by rw [e]; rfl))
    have hs : 1 ≤ stp 0 c := by rw [stp_eq]; omega
    rw [val_cons]; exact Nat.le_trans hs (val_ge r _)
/-- A number's text has a number, or one that is too far; what is read is written as it was. -/
theorem isT_read {l : List UInt8} (h : isT l = true) : parseIntB 64 l = .range ∨ ∃ x, parseIntB 64 l = .ok x ∧ itoa x = l ∧ -9223372036854775808 ≤ x ∧ x ≤ 9223372036854775807 := by
  cases l with
  | nil => exact absurd h (by decide)
  | cons c d =>
    by_cases hc : c = 45
    · subst hc
      unfold isT at h
      rw [hp_cons, tp_minus] at h
      obtain ⟨a, b, e, f⟩ := numT_yes h
      have f := f rfl
      have hp := val_pos a b f
      have hv := dec_of_val d b a e
      unfold parseIntB
      simp only [show (45 : UInt8).toNat = 45 from rfl, or_true, if_true]
      rcases parseU d a b with hu | hu
      · rw [hu]
        simp only [not_true_eq_false, false_and, if_false, true_and]
        by_cases hb : 2 ^ (64 - 1) < val 0 d
        · left; rw [if_pos hb]
        · right
          rw [if_neg hb]
          have hb2 : val 0 d ≤ 9223372036854775808 := by
            have : (2 : Nat) ^ (64 - 1) = 9223372036854775808 := by decide
            omega
          refine ⟨_, rfl, ?_, by omega, by omega⟩
          unfold itoa
          rw [if_pos (by omega), Int.natAbs_neg, Int.natAbs_natCast, hv]
      · left; rw [hu]
    · unfold isT at h
      rw [hp_cons, tp_other c d hc] at h
      obtain ⟨a, b, e, _⟩ := numT_yes h
      have hv := dec_of_val (c :: d) b a e
      have hd : 48 ≤ c.toNat ∧ c.toNat ≤ 57 := by
        simp only [List.all_cons, Bool.and_eq_true, dig, decide_eq_true_eq] at b; exact b.1
      have n43 : ¬ (c.toNat = 43 ∨ c.toNat = 45) := by omega
      have n45 : ¬ c.toNat = 45 := by omega
      unfold parseIntB
      simp only [if_neg n43]
      rcases parseU (c :: d) a b with hu | hu
      · rw [hu]
        simp only [n45, not_false_eq_true, true_and, false_and, if_false]
        by_cases hb : 2 ^ (64 - 1) ≤ val 0 (c :: d)
        · left; rw [if_pos hb]
        · right
          rw [if_neg hb]
          have hb2 : val 0 (c :: d) < 9223372036854775808 := by
            have : (2 : Nat) ^ (64 - 1) = 9223372036854775808 := by decide
            omega
          refine ⟨_, rfl, ?_, by omega, by omega⟩
          unfold itoa
          rw [if_neg (by omega), Int.toNat_natCast, hv]
      · left; rw [hu]
end Go.Proofs.YtlelpeocbgjmhaaGreatDoor.Num

/- Stamps' texts, in plain lists of bytes. -/
set_option linter.unusedVariables false
set_option linter.unusedSimpArgs false
namespace Go.Proofs.YtlelpeocbgjmhaaGreatDoor.Tx
open Go Go.Lib

/-- A number's digits, so many at least. -/
def dg (k : Nat) (n : Int) : List UInt8 := List.replicate (k - (itoa n).length) 48 ++ itoa n
def beh (m d h i s : Int) : List UInt8 := 45 :: (dg 2 m ++ (45 :: (dg 2 d ++ (84 :: (dg 2 h ++ (58 :: (dg 2 i ++ (58 :: dg 2 s))))))))
def yr (y : Int) : List UInt8 := if y < 0 then 45 :: dg 4 (-y) else dg 4 y
def txt (y m d h i s : Int) : List UInt8 := yr y ++ beh m d h i s
theorem two_tab : ∀ n : Fin 100, (dg 2 (n.val : Int)).length = 2 := by decide +kernel
theorem dg_two {n : Int} (h0 : 0 ≤ n) (h1 : n < 100) : (dg 2 n).length = 2 := by
  have := two_tab ⟨n.toNat, by omega⟩
  rwa [show ((n.toNat : Nat) : Int) = n by omega] at this
theorem beh_len {m d h i s : Int} (m0 : 0 ≤ m) (m1 : m < 100) (d0 : 0 ≤ d) (d1 : d < 100) (h0 : 0 ≤ h) (h1 : h < 100) (i0 : 0 ≤ i) (i1 : i < 100) (s0 : 0 ≤ s) (s1 : s < 100) : (beh m d h i s).length = 15 := by
  unfold beh
  simp [dg_two m0 m1, dg_two d0 d1, dg_two h0 h1, dg_two i0 i1, dg_two s0 s1]
theorem dg_len (k : Nat) (n : Int) (h0 : -9223372036854775808 ≤ n) (h1 : n ≤ 9223372036854775807) : (dg k n).length ≤ k + 21 := by
  have := itoa_length_le n h0 h1
  unfold dg; simp; omega
theorem dg_ne (k : Nat) (n : Int) : dg k n ≠ [] := by
  unfold dg
  intro h
  exact Num.itoa_ne n (List.append_eq_nil_iff.1 h).2
theorem yr_ne (y : Int) : yr y ≠ [] := by unfold yr; split <;> simp [dg_ne]
theorem yr_len (y : Int) (h0 : -9223372036854775807 ≤ y) (h1 : y ≤ 9223372036854775807) : 1 ≤ (yr y).length ∧ (yr y).length ≤ 30 := by
  refine ⟨List.length_pos_iff.2 (yr_ne y), ?_⟩
  unfold yr
  split
  · have := dg_len 4 (-y) (by omega) (by omega); simp; omega
  · have := dg_len 4 y (by omega) (by omega); omega
theorem txt_drop (y m d h i s : Int) (hl : (beh m d h i s).length = 15) : (txt y m d h i s).drop ((txt y m d h i s).length - 15) = beh m d h i s := by
  unfold txt
  rw [List.length_append, hl, Nat.add_sub_cancel, List.drop_left]
theorem trim_app (a p : List UInt8) : trimSuffix (a ++ p) p = a := by
  have h : hasSuffix (a ++ p) p = true := by unfold hasSuffix; simp
  unfold trimSuffix
  rw [if_pos h]; simp
theorem new_year : beh 1 1 0 0 0 = [45, 48, 49, 45, 48, 49, 84, 48, 48, 58, 48, 48, 58, 48, 48] := by decide +kernel
theorem trim_year (y : Int) : trimSuffix (txt y 1 1 0 0 0) [45, 48, 49, 45, 48, 49, 84, 48, 48, 58, 48, 48, 58, 48, 48] = yr y := by
  unfold txt; rw [new_year]; exact trim_app _ _
end Go.Proofs.YtlelpeocbgjmhaaGreatDoor.Tx

/- Stamps that are read, in plain lists of bytes. -/
set_option linter.unusedVariables false
set_option linter.unusedSimpArgs false
namespace Go.Proofs.YtlelpeocbgjmhaaGreatDoor
open Go Go.Lib

namespace Num
theorem val_zeros (l : List UInt8) : ∀ k, val 0 (List.replicate k 48 ++ l) = val 0 l := by
  intro k
  induction k with
  | zero => rfl
  | succ k ih =>
    rw [List.replicate_succ, List.cons_append, val_cons, show stp 0 48 = 0 by rw [stp_eq]; rfl]
    exact ih
theorem dec_len : ∀ (j u : Nat), u < 10 ^ (j + 1) → (decDigits u).length ≤ j + 1 := by
  intro j
  induction j with
  | zero => intro u h; rw [dec_small (by simpa using h)]; simp
  | succ j ih =>
    intro u h
    by_cases h10 : u < 10
    · rw [dec_small h10]; simp
    · rw [dec_step h10, List.length_append]
      have := ih (u / 10) (by rw [Nat.pow_succ] at h; omega)
      simp; omega
theorem val_lt : ∀ (l : List UInt8) (a : Nat), l.all dig = true → val a l < (a + 1) * 10 ^ l.length := by
  intro l
  induction l with
  | nil => intro a _; rw [val_nil]; simp
  | cons c r ih =>
    intro a h
    simp only [List.all_cons, Bool.and_eq_true] at h
    have hc : 48 ≤ c.toNat ∧ c.toNat ≤ 57 := by have := h.1; unfold dig at this; exact of_decide_eq_true this
    have := ih (stp a c) h.2
    rw [val_cons, List.length_cons, Nat.pow_succ]
    have h1 : stp a c + 1 ≤ (a + 1) * 10 := by rw [stp_eq]; omega
    have h2 := Nat.mul_le_mul_right (10 ^ r.length) h1
    calc val (stp a c) r < (stp a c + 1) * 10 ^ r.length := this
      _ ≤ (a + 1) * 10 * 10 ^ r.length := h2
      _ = (a + 1) * (10 ^ r.length * 10) := by rw [Nat.mul_assoc, Nat.mul_comm 10]
theorem val_bd {l : List UInt8} {k : Nat} (hd : l.all dig = true) (hl : l.length ≤ k) : val 0 l < 10 ^ k := by
  have := val_lt l 0 hd
  have h2 := Nat.pow_le_pow_right (n := 10) (by omega) hl
  omega
theorem itoa_nat (n : Int) (h : 0 ≤ n) : itoa n = decDigits n.toNat := by unfold itoa; rw [if_neg (by omega)]
end Num
namespace Tx
theorem dg_dig (k : Nat) (n : Int) (h : 0 ≤ n) : (dg k n).all Num.dig = true := by
  unfold dg
  rw [Num.itoa_nat n h, List.all_append, (Num.dec_all n.toNat n.toNat (Nat.le_refl _)).1, Bool.and_true]
  rw [List.all_eq_true]
  intro x hx
  rw [List.eq_of_mem_replicate hx]; decide
theorem dg_val (k : Nat) (n : Int) (h : 0 ≤ n) : (Num.val 0 (dg k n) : Int) = n := by
  unfold dg
  rw [Num.val_zeros, Num.itoa_nat n h, (Num.dec_all n.toNat n.toNat (Nat.le_refl _)).2.2.1]
  omega
theorem dg_ge (k : Nat) (n : Int) : k ≤ (dg k n).length := by unfold dg; simp; omega
theorem dg_le (k j : Nat) (n : Int) (h0 : 0 ≤ n) (h : n.toNat < 10 ^ (j + 1)) (hk : k ≤ j + 1) : (dg k n).length ≤ j + 1 := by
  have := Num.dec_len j n.toNat h
  unfold dg
  rw [Num.itoa_nat n h0]; simp; omega
theorem dg_head (k : Nat) (n : Int) (h : 0 ≤ n) (hk : 1 ≤ k) (hl : k < (dg k n).length) : (dg k n).head? ≠ some 48 := by
  unfold dg at hl ⊢
  rw [Num.itoa_nat n h] at hl ⊢
  have hl2 : k < (decDigits n.toNat).length := by simp at hl; omega
  rw [show k - (decDigits n.toNat).length = 0 by omega, List.replicate_zero, List.nil_append]
  by_cases h10 : n.toNat < 10
  · rw [Num.dec_small h10] at hl2; simp at hl2; omega
  · obtain ⟨c, r, e, hc⟩ := (Num.dec_all n.toNat n.toNat (Nat.le_refl _)).2.2.2 (by omega)
    rw [e]
    simp only [List.head?_cons, ne_eq, Option.some.injEq]
    rintro rfl
    exact absurd hc (by decide)
/-- Digits are what the number that they mean is written as. -/
theorem dg_back : ∀ (k : Nat) (l : List UInt8), l.length = k + 1 → l.all Num.dig = true → dg (k + 1) (Num.val 0 l) = l := by
  intro k
  induction k with
  | zero =>
    intro l hl hd
    have e := Num.dec_of_val l hd (by intro h; subst h; cases hl) (by intro c r e hr; subst e; simp at hl; exact absurd hl hr)
    unfold dg
    rw [Num.itoa_nat _ (by omega), Int.toNat_natCast, e, hl]; rfl
  | succ k ih =>
    intro l hl hd
    cases l with
    | nil => cases hl
    | cons c r =>
      have hr : r.length = k + 1 := by simpa using hl
      by_cases hc : c = 48
      · subst hc
        have hv : Num.val 0 (48 :: r) = Num.val 0 r := Num.val_zeros r 1
        have hdr : r.all Num.dig = true := by simp only [List.all_cons, Bool.and_eq_true] at hd; exact hd.2
        have h := ih r hr hdr
        rw [hv]
        have hlen : (itoa (Num.val 0 r : Int)).length ≤ k + 1 := by
          have := congrArg List.length h
          unfold dg at this
          rw [hr] at this; simp at this; omega
        unfold dg at h ⊢
        rw [show k + 1 + 1 - (itoa (Num.val 0 r : Int)).length = (k + 1 - (itoa (Num.val 0 r : Int)).length) + 1 by omega, List.replicate_succ, List.cons_append, h]
      · have e := Num.dec_of_val (c :: r) hd (by simp) (by intro c' r' e _; injection e with e1 _; subst e1; exact hc)
        unfold dg
        rw [Num.itoa_nat _ (by omega), Int.toNat_natCast, e, hl]
        simp
theorem dg_back' (k : Nat) (l : List UInt8) (hl : k < l.length) (hd : l.all Num.dig = true) (hh : l.head? ≠ some 48) : dg k (Num.val 0 l) = l := by
  have e := Num.dec_of_val l hd (by intro h; subst h; cases hl) (by intro c r e _; subst e; intro h; exact hh (by rw [h]; rfl))
  unfold dg
  rw [Num.itoa_nat _ (by omega), Int.toNat_natCast, e, show k - l.length = 0 by omega]; rfl
theorem dg4 {l : List UInt8} (hd : l.all Num.dig = true) (hl : 4 ≤ l.length) (hh : 4 < l.length → l.head? ≠ some 48) : dg 4 (Num.val 0 l) = l := by
  by_cases h : l.length = 4
  · exact dg_back 3 l h hd
  · exact dg_back' 4 l (by omega) hd (hh (by omega))
end Tx
namespace Rd
/-- Is it a year's text? -/
def isY (l : List UInt8) : Bool :=
  !(decide ((trimPrefix l [45]).length < 4)) && (!(decide (4 < (trimPrefix l [45]).length) && ((trimPrefix l [45]).head? == some 48)) && ((trimPrefix l [45]).all Num.dig && !(hasPrefix l [45] && ((trimPrefix l [45]) == [48, 48, 48, 48]))))
/-- The year that is meant. -/
def yv (l : List UInt8) : Int := if hasPrefix l [45] then -(Num.val 0 (trimPrefix l [45]) : Int) else (Num.val 0 (trimPrefix l [45]) : Int)
def yl (l : List UInt8) : Bool := decide ((trimPrefix l [45]).length ≤ 5)
def sg : List UInt8 := [45, 45, 84, 58, 58]
def pOk (l : List UInt8) (k : Nat) : Bool := decide (l.getD (3 * k) 0 = sg.getD k 0) && (((l.drop (3 * k + 1)).take 2).all Num.dig)
def pV (l : List UInt8) (k : Nat) : Int := (Num.val 0 ((l.drop (3 * k + 1)).take 2) : Int)
def bOk (l : List UInt8) : Bool := pOk l 0 && (pOk l 1 && (pOk l 2 && (pOk l 3 && pOk l 4)))
def hd (t : List UInt8) : List UInt8 := t.take (t.length - 15)
def tl (t : List UInt8) : List UInt8 := t.drop (t.length - 15)
/-- A text that has a stamp's form. -/
def form (t : List UInt8) : Bool := decide (15 ≤ t.length) && (isY (hd t) && bOk (tl t))
theorem isY_iff {l : List UInt8} : isY l = true ↔ 4 ≤ (trimPrefix l [45]).length ∧ (4 < (trimPrefix l [45]).length → (trimPrefix l [45]).head? ≠ some 48) ∧ (trimPrefix l [45]).all Num.dig = true ∧ (hasPrefix l [45] = true → trimPrefix l [45] ≠ [48, 48, 48, 48]) := by
  unfold isY
  simp only [Bool.and_eq_true, Bool.not_eq_true', decide_eq_false_iff_not, Bool.and_eq_false_iff, beq_eq_false_iff_ne]
  constructor
  · rintro ⟨a, b, c, d⟩
    refine ⟨by omega, fun h => ?_, c, fun h => ?_⟩
    · rcases b with b | b
      · exact absurd h b
      · exact b
    · rcases d with d | d
      · rw [h] at d; cases d
      · exact d
  · rintro ⟨a, b, c, d⟩
    refine ⟨by omega, ?_, c, ?_⟩
    · by_cases h : 4 < (trimPrefix l [45]).length
      · exact .inr (b h)
      · exact .inl h
    · cases h : hasPrefix l [45]
      · exact .inl rfl
      · exact .inr (d h)
theorem tp_dig {l : List UInt8} (h : l.all Num.dig = true) (hn : l ≠ []) : trimPrefix l [45] = l ∧ hasPrefix l [45] = false := by
  cases l with
  | nil => exact absurd rfl hn
  | cons c r =>
    have hc : Num.dig c = true := by simp only [List.all_cons, Bool.and_eq_true] at h; exact h.1
    have := (Num.dig_ne hc).1
    exact ⟨Num.tp_other c r this, by rw [Num.hp_cons]; simpa using this⟩
theorem isY_yr {y : Int} (h0 : -100000 < y) (h1 : y < 100000) : isY (Tx.yr y) = true ∧ yv (Tx.yr y) = y ∧ yl (Tx.yr y) = true := by
  unfold Tx.yr
  by_cases hy : y < 0
  · rw [if_pos hy]
    have e : trimPrefix (45 :: Tx.dg 4 (-y)) [45] = Tx.dg 4 (-y) := Num.tp_minus _
    have hp : hasPrefix (45 :: Tx.dg 4 (-y)) [45] = true := by rw [Num.hp_cons]; rfl
    have hv := Tx.dg_val 4 (-y) (by omega)
    refine ⟨isY_iff.2 ⟨by rw [e]; exact Tx.dg_ge 4 _, fun h => by rw [e] at h ⊢; exact Tx.dg_head 4 _ (by omega) (by omega) h, by rw [e]; exact Tx.dg_dig 4 _ (by omega), fun _ => ?_⟩, ?_, ?_⟩
    · rw [e]
      intro h
      rw [h, show Num.val 0 [48, 48, 48, 48] = 0 from Num.val_zeros [] 4] at hv
      omega
    · unfold yv; rw [hp, if_pos rfl, e, hv]; omega
    · unfold yl; rw [e]; exact decide_eq_true (Tx.dg_le 4 4 _ (by omega) (by omega) (by omega))
  · rw [if_neg hy]
    obtain ⟨e, hp⟩ := tp_dig (Tx.dg_dig 4 y (by omega)) (Tx.dg_ne 4 y)
    refine ⟨isY_iff.2 ⟨by rw [e]; exact Tx.dg_ge 4 _, fun h => by rw [e] at h ⊢; exact Tx.dg_head 4 _ (by omega) (by omega) h, by rw [e]; exact Tx.dg_dig 4 _ (by omega), fun h => ?_⟩, ?_, ?_⟩
    · rw [hp] at h; cases h
    · unfold yv; rw [hp, e]; exact Tx.dg_val 4 y (by omega)
    · unfold yl; rw [e]; exact decide_eq_true (Tx.dg_le 4 4 _ (by omega) (by omega) (by omega))
theorem hp_split {l : List UInt8} (h : hasPrefix l [45] = true) : l = 45 :: trimPrefix l [45] := by
  cases l with
  | nil => cases h
  | cons c r =>
    rw [Num.hp_cons] at h
    have : c = 45 := by simpa using h
    subst this
    rw [Num.tp_minus]
theorem hp_none {l : List UInt8} (h : hasPrefix l [45] = false) : trimPrefix l [45] = l := by
  cases l with
  | nil => rfl
  | cons c r =>
    rw [Num.hp_cons] at h
    exact Num.tp_other c r (by simpa using h)
theorem val_zero {l : List UInt8} (hd : l.all Num.dig = true) (h : Num.val 0 l = 0) : ∀ c ∈ l, c = 48 := by
  induction l with
  | nil => intro c hc; cases hc
  | cons x r ih =>
    simp only [List.all_cons, Bool.and_eq_true] at hd
    rw [Num.val_cons] at h
    have hx : Num.stp 0 x = 0 := by have := Num.val_ge r (Num.stp 0 x); omega
    have hxd : 48 ≤ x.toNat ∧ x.toNat ≤ 57 := by have := hd.1; unfold Num.dig at this; exact of_decide_eq_true this
    have : x = 48 := by
      rw [Num.stp_eq] at hx
      exact UInt8.toNat_inj.1 (by show x.toNat = 48; omega)
    subst this
    intro c hc
    rcases List.mem_cons.1 hc with rfl | hc
    · rfl
    · rw [hx] at h; exact ih hd.2 h c hc
theorem yr_back {l : List UInt8} (h : isY l = true) : Tx.yr (yv l) = l := by
  obtain ⟨a, b, c, d⟩ := isY_iff.1 h
  have e := Tx.dg4 c a b
  cases hp : hasPrefix l [45]
  · rw [hp_none hp] at a b c d e
    unfold Tx.yr yv
    rw [hp, hp_none hp]
    simp only [Bool.false_eq_true, if_false]
    rw [if_neg (by omega), e]
  · have hpos : Num.val 0 (trimPrefix l [45]) ≠ 0 := by
      intro h0
      have hz := val_zero c h0
      by_cases h4 : 4 < (trimPrefix l [45]).length
      · refine b h4 ?_
        cases ht : trimPrefix l [45] with
        | nil => rw [ht] at h4; cases h4
        | cons x r => rw [hz x (by rw [ht]; exact List.mem_cons_self ..)]; rfl
      · refine d hp ?_
        have : trimPrefix l [45] = List.replicate 4 48 := List.eq_replicate_iff.2 ⟨by omega, hz⟩
        exact this
    unfold Tx.yr yv
    rw [hp]
    simp only [if_true]
    rw [if_pos (by omega), Int.neg_neg, e]
    exact (hp_split hp).symm
end Rd
end Go.Proofs.YtlelpeocbgjmhaaGreatDoor
