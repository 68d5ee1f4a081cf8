/- Joined: NumM, NumN, Tx, RdM, RnM, AnP. -/
import Derived.Lib.ItoaNum
import Derived.Lib.ParseIntB
import Derived.Lib.Strings
import Derived.Lib.ItoaLen
import Derived.Test.YtifgiclnofdnkaaGreatDoorBy01
set_option linter.unusedVariables false
namespace Go.Proofs.YtifgiclnofdnkaaGreatDoor.Num
open Go Go.Lib
def dig (c : UInt8) : Bool := decide (48 ≤ c.toNat ∧ c.toNat ≤ 57)
@[irreducible] def stp (acc : Nat) (c : UInt8) : Nat := acc * 10 + (c.toNat - 48)
theorem stp_eq (acc : Nat) (c : UInt8) : stp acc c = acc * 10 + (c.toNat - 48) := by unfold stp; rfl
def val (acc : Nat) (l : List UInt8) : Nat := l.foldl stp acc
theorem val_cons (acc : Nat) (c : UInt8) (r : List UInt8) : val acc (c :: r) = val (stp acc c) r := rfl
theorem val_nil (acc : Nat) : val acc [] = acc := rfl
theorem val_ge (l : List UInt8) : ∀ (acc : Nat), acc ≤ val acc l := by
 induction l with
 | nil => intro acc; exact Nat.le_refl _
 | cons c r ih =>
  intro acc
  rw [val_cons]
  exact Nat.le_trans (by rw [stp_eq]; omega) (ih _)
theorem val_append (l : List UInt8) (acc : Nat) (c : UInt8) : val acc (l ++ [c]) = val acc l * 10 + (c.toNat - 48) := by
 unfold val
 rw [List.foldl_append]
 exact stp_eq _ _
theorem parse_nil (M acc : Nat) : parseUintM M acc [] = .ok acc := by rw [parseUintM]
theorem parse_step (M acc : Nat) (c : UInt8) (r : List UInt8) (hc : 48 ≤ c.toNat ∧ c.toNat ≤ 57) (h0 : ¬ 1844674407370955162 ≤ acc) (h1 : ¬ M < stp acc c) :
  parseUintM M acc (c :: r) = parseUintM M (stp acc c) r := by
 rw [stp_eq] at h1 ⊢
 rw [parseUintM, if_pos hc, if_neg h0, if_neg h1]
def Small (M : Nat) : Prop := M < 18446744073709551616
theorem small_of {M acc : Nat} {c : UInt8} (hM : Small M) (h : stp acc c ≤ M) : ¬ 1844674407370955162 ≤ acc := by rw [stp_eq] at h; unfold Small at hM; omega
theorem parse_ok (M : Nat) (hM : Small M) (l : List UInt8) : ∀ (acc : Nat), l.all dig = true → val acc l ≤ M → parseUintM M acc l = .ok (val acc l) := by
 induction l with
 | nil => intro acc ha hv; exact parse_nil M acc
 | cons c r ih =>
  intro acc hd hv
  simp only [List.all_cons, Bool.and_eq_true, dig, decide_eq_true_eq] at hd
  obtain ⟨hc, hr⟩ := hd
  rw [val_cons] at hv ⊢
  have h2 : stp acc c ≤ M := Nat.le_trans (val_ge r _) hv
  rw [parse_step M acc c r hc (small_of hM h2) (Nat.not_lt.2 h2)]
  exact ih _ hr hv
theorem toNat_ofNat_dig {k : Nat} (h : k < 10) : (UInt8.ofNat (48 + k)).toNat = 48 + k := by
 rw [UInt8.toNat_ofNat']; omega
theorem dec_small {u : Nat} (h : u < 10) : decDigits u = [UInt8.ofNat (48 + u)] := decDigits_one h
theorem dec_step {u : Nat} (h : ¬ u < 10) : decDigits u = decDigits (u / 10) ++ [UInt8.ofNat (48 + u % 10)] := by
 rw [decDigits, dif_neg h]
theorem dec_all : ∀ (n u : Nat), u ≤ n → (decDigits u).all dig = true ∧ decDigits u ≠ [] ∧ val 0 (decDigits u) = u ∧ (10 ≤ u → ∃ c r, decDigits u = c :: r ∧ 49 ≤ c.toNat) := by
 intro n
 induction n with
 | zero =>
  intro u hu
  have : u = 0 := by omega
  subst this
  rw [dec_small (by omega)]
  exact ⟨by decide, by simp, by rw [val_cons, val_nil, stp_eq]; decide, by omega⟩
 | succ n ih =>
  intro u hu
  by_cases h : u < 10
  ·
   rw [dec_small h]
   have e := toNat_ofNat_dig h
   refine ⟨by simp only [List.all_cons, List.all_nil, dig, e, Bool.and_true, decide_eq_true_eq]; omega, by simp, by rw [val_cons, val_nil, stp_eq, e]; omega, by omega⟩
  ·
   obtain ⟨a, b, c, d⟩ := ih (u / 10) (by omega)
   have e := toNat_ofNat_dig (k := u % 10) (by omega)
   rw [dec_step h]
   refine ⟨by rw [List.all_append, a]; simp only [List.all_cons, List.all_nil, dig, e, Bool.and_true, Bool.true_and, decide_eq_true_eq]; omega, by simp, by rw [val_append, c, e]; omega, fun _ => ?_⟩
   by_cases h2 : u / 10 < 10
   ·
    rw [dec_small h2]
    have e2 := toNat_ofNat_dig h2
    exact ⟨_, _, rfl, by rw [e2]; omega⟩
   ·
    obtain ⟨x, r, hx, hc⟩ := d (by omega)
    rw [hx]
    exact ⟨x, _, rfl, hc⟩
def numT (b : Bool) (l : List UInt8) : Bool :=
 match l with
 | [] => false
 | c :: r => !(c == 48 && (b || !r.isEmpty)) && (c :: r).all dig
def isT (l : List UInt8) : Bool := numT (hasPrefix l [45]) (trimPrefix l [45])
theorem hp_cons (c : UInt8) (r : List UInt8) : hasPrefix (c :: r) [45] = (c == 45) := by
 unfold hasPrefix
 rw [List.isPrefixOf, List.isPrefixOf, Bool.and_true]
 by_cases h : c = 45
 ·
  subst h; rfl
 ·
  rw [show (c == 45) = false by simpa using h, beq_eq_false_iff_ne]
  exact fun e => h e.symm
theorem tp_minus (r : List UInt8) : trimPrefix (45 :: r) [45] = r := by simp [trimPrefix, hasPrefix, List.isPrefixOf]
theorem tp_other (c : UInt8) (r : List UInt8) (h : c ≠ 45) : trimPrefix (c :: r) [45] = c :: r := by
 unfold trimPrefix; rw [hp_cons]; simp [h]
theorem numT_dec (u : Nat) : numT false (decDigits u) = true := by
 obtain ⟨a, b, c, d⟩ := dec_all u u (Nat.le_refl _)
 by_cases h : u < 10
 ·
  rw [dec_small h] at a ⊢
  simp only [numT, a]; simp
 ·
  obtain ⟨x, r, hx, hc⟩ := d (by omega)
  rw [hx] at a ⊢
  have : (x == 48) = false := by
   rw [beq_eq_false_iff_ne]; intro e; rw [e] at hc; exact absurd hc (by decide)
  simp only [numT, a, this]; simp
theorem numT_dec_neg (u : Nat) (h1 : 1 ≤ u) : numT true (decDigits u) = true := by
 obtain ⟨a, b, c, d⟩ := dec_all u u (Nat.le_refl _)
 by_cases h : u < 10
 ·
  rw [dec_small h] at a ⊢
  have e := toNat_ofNat_dig h
  have : (UInt8.ofNat (48 + u) == 48) = false := by
   rw [beq_eq_false_iff_ne]; intro e2; rw [e2] at e; have : (48 : UInt8).toNat = 48 := rfl; omega
  simp only [numT, a, this]; simp
 ·
  obtain ⟨x, r, hx, hc⟩ := d (by omega)
  rw [hx] at a ⊢
  have : (x == 48) = false := by
   rw [beq_eq_false_iff_ne]; intro e; rw [e] at hc; exact absurd hc (by decide)
  simp only [numT, a, this]; simp
theorem dec_head (u : Nat) : ∃ c r, decDigits u = c :: r ∧ dig c = true := by
 obtain ⟨a, b, _, _⟩ := dec_all u u (Nat.le_refl _)
 cases h : decDigits u with
 | nil => exact absurd h b
 | cons c r => rw [h] at a; simp only [List.all_cons, Bool.and_eq_true] at a; exact ⟨c, r, rfl, a.1⟩
theorem dig_ne {c : UInt8} (h : dig c = true) : c ≠ 45 ∧ c ≠ 43 := by
 simp only [dig, decide_eq_true_eq] at h
 constructor <;> (intro e; rw [e] at h; exact absurd h (by decide))
theorem isT_itoa (n : Int) : isT (itoa n) = true := by
 unfold isT itoa
 by_cases h : n < 0
 ·
  rw [if_pos h, hp_cons, tp_minus]
  exact numT_dec_neg _ (by omega)
 ·
  rw [if_neg h]
  obtain ⟨c, r, e, hd⟩ := dec_head n.toNat
  have hne := (dig_ne hd).1
  rw [e, hp_cons, tp_other c r hne, show (c == 45) = false by simpa using hne, ← e]
  exact numT_dec _
theorem parse_dec (u : Nat) (h : u < 18446744073709551616) : parseUintB 64 (decDigits u) = .ok u := by
 obtain ⟨a, b, c, _⟩ := dec_all u u (Nat.le_refl _)
 unfold parseUintB
 rw [if_neg b]
 have := parse_ok (2 ^ 64 - 1) (by unfold Small; decide) (decDigits u) 0 a (by rw [c]; omega)
 rw [this, c]
theorem parse_itoa (n : Int) (h0 : -9223372036854775808 ≤ n) (h1 : n ≤ 9223372036854775807) : parseIntB 64 (itoa n) = .ok n := by
 unfold itoa
 by_cases h : n < 0
 ·
  rw [if_pos h]
  unfold parseIntB
  have e := parse_dec n.natAbs (by omega)
  simp only [show (45 : UInt8).toNat = 45 from rfl, or_true, if_true, e]
  rw [if_neg (by simp), if_neg (by simp; omega)]
  simp; omega
 ·
  rw [if_neg h]
  obtain ⟨c, r, e, hd⟩ := dec_head n.toNat
  have e2 := parse_dec n.toNat (by omega)
  rw [e] at e2 ⊢
  simp only [dig, decide_eq_true_eq] at hd
  unfold parseIntB
  have n43 : ¬ (c.toNat = 43 ∨ c.toNat = 45) := by omega
  have n45 : ¬ c.toNat = 45 := by omega
  simp only [if_neg n43, e2]
  simp only [n45, not_false_eq_true, true_and, false_and, if_false]
  have hlt : ¬ 2 ^ (64 - 1) ≤ n.toNat := by
   have : (2 : Nat) ^ (64 - 1) = 9223372036854775808 := by decide
   rw [this]; omega
  rw [if_neg hlt]
  congr 1
  exact Int.toNat_of_nonneg (by omega)
theorem itoa_ne (n : Int) : itoa n ≠ [] := by
 unfold itoa
 split
 ·
  simp
 ·
  exact (dec_all n.toNat n.toNat (Nat.le_refl _)).2.1
end Go.Proofs.YtifgiclnofdnkaaGreatDoor.Num
set_option linter.unusedVariables false
set_option linter.unusedSimpArgs false
namespace Go.Proofs.YtifgiclnofdnkaaGreatDoor.Tx
open Go Go.Lib
def dg (k : Nat) (n : Int) : List UInt8 := List.replicate (k - (itoa n).length) 48 ++ itoa n
def beh (m d h i s : Int) : List UInt8 := 45 :: (dg 2 m ++ (45 :: (dg 2 d ++ (84 :: (dg 2 h ++ (58 :: (dg 2 i ++ (58 :: dg 2 s))))))))
def yr (y : Int) : List UInt8 := if y < 0 then 45 :: dg 4 (-y) else dg 4 y
def txt (y m d h i s : Int) : List UInt8 := yr y ++ beh m d h i s
theorem two_tab : ∀ n : Fin 100, (dg 2 (n.val : Int)).length = 2 := by decide +kernel
theorem dg_two {n : Int} (h0 : 0 ≤ n) (h1 : n < 100) : (dg 2 n).length = 2 := by
 have := two_tab ⟨n.toNat, by omega⟩
 rwa [show ((n.toNat : Nat) : Int) = n by omega] at this
theorem beh_len {m d h i s : Int} (m0 : 0 ≤ m) (m1 : m < 100) (d0 : 0 ≤ d) (d1 : d < 100) (h0 : 0 ≤ h) (h1 : h < 100) (i0 : 0 ≤ i) (i1 : i < 100) (s0 : 0 ≤ s) (s1 : s < 100) : (beh m d h i s).length = 15 := by
 unfold beh
 simp [dg_two m0 m1, dg_two d0 d1, dg_two h0 h1, dg_two i0 i1, dg_two s0 s1]
theorem dg_len (k : Nat) (n : Int) (h0 : -9223372036854775808 ≤ n) (h1 : n ≤ 9223372036854775807) : (dg k n).length ≤ k + 21 := by
 have := itoa_length_le n h0 h1
 unfold dg; simp; omega
theorem dg_ne (k : Nat) (n : Int) : dg k n ≠ [] := by
 unfold dg
 intro h
 exact Num.itoa_ne n (List.append_eq_nil_iff.1 h).2
theorem yr_ne (y : Int) : yr y ≠ [] := by unfold yr; split <;> simp [dg_ne]
theorem yr_len (y : Int) (h0 : -9223372036854775807 ≤ y) (h1 : y ≤ 9223372036854775807) : 1 ≤ (yr y).length ∧ (yr y).length ≤ 30 := by
 refine ⟨List.length_pos_iff.2 (yr_ne y), ?_⟩
 unfold yr
 split
 ·
  have := dg_len 4 (-y) (by omega) (by omega); simp; omega
 ·
  have := dg_len 4 y (by omega) (by omega); omega
theorem txt_drop (y m d h i s : Int) (hl : (beh m d h i s).length = 15) : (txt y m d h i s).drop ((txt y m d h i s).length - 15) = beh m d h i s := by
 unfold txt
 rw [List.length_append, hl, Nat.add_sub_cancel, List.drop_left]
end Go.Proofs.YtifgiclnofdnkaaGreatDoor.Tx
set_option linter.unusedVariables false
set_option linter.unusedSimpArgs false
namespace Go.Proofs.YtifgiclnofdnkaaGreatDoor
open Go Go.Lib
namespace Num
theorem val_zeros (l : List UInt8) : ∀ k, val 0 (List.replicate k 48 ++ l) = val 0 l := by
 intro k
 induction k with
 | zero => rfl
 | succ k ih =>
  rw [List.replicate_succ, List.cons_append, val_cons, show stp 0 48 = 0 by rw [stp_eq]; rfl]
  exact ih
theorem dec_len : ∀ (j u : Nat), u < 10 ^ (j + 1) → (decDigits u).length ≤ j + 1 := by
 intro j
 induction j with
 | zero => intro u h; rw [dec_small (by simpa using h)]; simp
 | succ j ih =>
  intro u h
  by_cases h10 : u < 10
  ·
   rw [dec_small h10]; simp
  ·
   rw [dec_step h10, List.length_append]
   have := ih (u / 10) (by rw [Nat.pow_succ] at h; omega)
   simp; omega
theorem val_lt : ∀ (l : List UInt8) (a : Nat), l.all dig = true → val a l < (a + 1) * 10 ^ l.length := by
 intro l
 induction l with
 | nil => intro a _; rw [val_nil]; simp
 | cons c r ih =>
  intro a h
  simp only [List.all_cons, Bool.and_eq_true] at h
  have hc : 48 ≤ c.toNat ∧ c.toNat ≤ 57 := by have := h.1; unfold dig at this; exact of_decide_eq_true this
  have := ih (stp a c) h.2
  rw [val_cons, List.length_cons, Nat.pow_succ]
  have h1 : stp a c + 1 ≤ (a + 1) * 10 := by rw [stp_eq]; omega
  have h2 := Nat.mul_le_mul_right (10 ^ r.length) h1
  calc val (stp a c) r < (stp a c + 1) * 10 ^ r.length := this
   _ ≤ (a + 1) * 10 * 10 ^ r.length := h2
   _ = (a + 1) * (10 ^ r.length * 10) := by rw [Nat.mul_assoc, Nat.mul_comm 10]
theorem val_bd {l : List UInt8} {k : Nat} (hd : l.all dig = true) (hl : l.length ≤ k) : val 0 l < 10 ^ k := by
 have := val_lt l 0 hd
 have h2 := Nat.pow_le_pow_right (n := 10) (by omega) hl
 omega
theorem itoa_nat (n : Int) (h : 0 ≤ n) : itoa n = decDigits n.toNat := by unfold itoa; rw [if_neg (by omega)]
end Num
namespace Tx
theorem dg_dig (k : Nat) (n : Int) (h : 0 ≤ n) : (dg k n).all Num.dig = true := by
 unfold dg
 rw [Num.itoa_nat n h, List.all_append, (Num.dec_all n.toNat n.toNat (Nat.le_refl _)).1, Bool.and_true]
 rw [List.all_eq_true]
 intro x hx
 rw [List.eq_of_mem_replicate hx]; decide
theorem dg_val (k : Nat) (n : Int) (h : 0 ≤ n) : (Num.val 0 (dg k n) : Int) = n := by
 unfold dg
 rw [Num.val_zeros, Num.itoa_nat n h, (Num.dec_all n.toNat n.toNat (Nat.le_refl _)).2.2.1]
 omega
theorem dg_ge (k : Nat) (n : Int) : k ≤ (dg k n).length := by unfold dg; simp; omega
theorem dg_le (k j : Nat) (n : Int) (h0 : 0 ≤ n) (h : n.toNat < 10 ^ (j + 1)) (hk : k ≤ j + 1) : (dg k n).length ≤ j + 1 := by
 have := Num.dec_len j n.toNat h
 unfold dg
 rw [Num.itoa_nat n h0]; simp; omega
theorem dg_head (k : Nat) (n : Int) (h : 0 ≤ n) (hk : 1 ≤ k) (hl : k < (dg k n).length) : (dg k n).head? ≠ some 48 := by
 unfold dg at hl ⊢
 rw [Num.itoa_nat n h] at hl ⊢
 have hl2 : k < (decDigits n.toNat).length := by simp at hl; omega
 rw [show k - (decDigits n.toNat).length = 0 by omega, List.replicate_zero, List.nil_append]
 by_cases h10 : n.toNat < 10
 ·
  rw [Num.dec_small h10] at hl2; simp at hl2; omega
 ·
  obtain ⟨c, r, e, hc⟩ := (Num.dec_all n.toNat n.toNat (Nat.le_refl _)).2.2.2 (by omega)
  rw [e]
  simp only [List.head?_cons, ne_eq, Option.some.injEq]
  rintro rfl
  exact absurd hc (by decide)
end Tx
namespace Rd
def isY (l : List UInt8) : Bool :=
 !(decide ((trimPrefix l [45]).length < 4)) && (!(decide (4 < (trimPrefix l [45]).length) && ((trimPrefix l [45]).head? == some 48)) && ((trimPrefix l [45]).all Num.dig && !(hasPrefix l [45] && ((trimPrefix l [45]) == [48, 48, 48, 48]))))
def yv (l : List UInt8) : Int := if hasPrefix l [45] then -(Num.val 0 (trimPrefix l [45]) : Int) else (Num.val 0 (trimPrefix l [45]) : Int)
def yl (l : List UInt8) : Bool := decide ((trimPrefix l [45]).length ≤ 5)
def sg : List UInt8 := [45, 45, 84, 58, 58]
def pOk (l : List UInt8) (k : Nat) : Bool := decide (l.getD (3 * k) 0 = sg.getD k 0) && (((l.drop (3 * k + 1)).take 2).all Num.dig)
def pV (l : List UInt8) (k : Nat) : Int := (Num.val 0 ((l.drop (3 * k + 1)).take 2) : Int)
def bOk (l : List UInt8) : Bool := pOk l 0 && (pOk l 1 && (pOk l 2 && (pOk l 3 && pOk l 4)))
def hd (t : List UInt8) : List UInt8 := t.take (t.length - 15)
def tl (t : List UInt8) : List UInt8 := t.drop (t.length - 15)
def form (t : List UInt8) : Bool := decide (15 ≤ t.length) && (isY (hd t) && bOk (tl t))
theorem isY_iff {l : List UInt8} : isY l = true ↔ 4 ≤ (trimPrefix l [45]).length ∧ (4 < (trimPrefix l [45]).length → (trimPrefix l [45]).head? ≠ some 48) ∧ (trimPrefix l [45]).all Num.dig = true ∧ (hasPrefix l [45] = true → trimPrefix l [45] ≠ [48, 48, 48, 48]) := by
 unfold isY
 simp only [Bool.and_eq_true, Bool.not_eq_true', decide_eq_false_iff_not, Bool.and_eq_false_iff, beq_eq_false_iff_ne]
 constructor
 ·
  rintro ⟨a, b, c, d⟩
  refine ⟨by omega, fun h => ?_, c, fun h => ?_⟩
  ·
   rcases b with b | b
   ·
    exact absurd h b
   ·
    exact b
  ·
   rcases d with d | d
   ·
    rw [h] at d; cases d
   ·
    exact d
 ·
  rintro ⟨a, b, c, d⟩
  refine ⟨by omega, ?_, c, ?_⟩
  ·
   by_cases h : 4 < (trimPrefix l [45]).length
   ·
    exact .inr (b h)
   ·
    exact .inl h
  ·
   cases h : hasPrefix l [45]
   ·
    exact .inl rfl
   ·
    exact .inr (d h)
theorem tp_dig {l : List UInt8} (h : l.all Num.dig = true) (hn : l ≠ []) : trimPrefix l [45] = l ∧ hasPrefix l [45] = false := by
 cases l with
 | nil => exact absurd rfl hn
 | cons c r =>
  have hc : Num.dig c = true := by simp only [List.all_cons, Bool.and_eq_true] at h; exact h.1
  have := (Num.dig_ne hc).1
  exact ⟨Num.tp_other c r this, by rw [Num.hp_cons]; simpa using this⟩
theorem isY_yr {y : Int} (h0 : -100000 < y) (h1 : y < 100000) : isY (Tx.yr y) = true ∧ yv (Tx.yr y) = y ∧ yl (Tx.yr y) = true := by
 unfold Tx.yr
 by_cases hy : y < 0
 ·
  rw [if_pos hy]
  have e : trimPrefix (45 :: Tx.dg 4 (-y)) [45] = Tx.dg 4 (-y) := Num.tp_minus _
  have hp : hasPrefix (45 :: Tx.dg 4 (-y)) [45] = true := by rw [Num.hp_cons]; rfl
  have hv := Tx.dg_val 4 (-y) (by omega)
  refine ⟨isY_iff.2 ⟨by rw [e]; exact Tx.dg_ge 4 _, fun h => by rw [e] at h ⊢; exact Tx.dg_head 4 _ (by omega) (by omega) h, by rw [e]; exact Tx.dg_dig 4 _ (by omega), fun _ => ?_⟩, ?_, ?_⟩
  ·
   rw [e]
   intro h
   rw [h, show Num.val 0 [48, 48, 48, 48] = 0 from Num.val_zeros [] 4] at hv
   omega
  ·
   unfold yv; rw [hp, if_pos rfl, e, hv]; omega
  ·
   unfold yl; rw [e]; exact decide_eq_true (Tx.dg_le 4 4 _ (by omega) (by omega) (by omega))
 ·
  rw [if_neg hy]
  obtain ⟨e, hp⟩ := tp_dig (Tx.dg_dig 4 y (by omega)) (Tx.dg_ne 4 y)
  refine ⟨isY_iff.2 ⟨by rw [e]; exact Tx.dg_ge 4 _, fun h => by rw [e] at h ⊢; exact Tx.dg_head 4 _ (by omega) (by omega) h, by rw [e]; exact Tx.dg_dig 4 _ (by omega), fun h => ?_⟩, ?_, ?_⟩
  ·
   rw [hp] at h; cases h
  ·
   unfold yv; rw [hp, e]; exact Tx.dg_val 4 y (by omega)
  ·
   unfold yl; rw [e]; exact decide_eq_true (Tx.dg_le 4 4 _ (by omega) (by omega) (by omega))
end Rd
end Go.Proofs.YtifgiclnofdnkaaGreatDoor
set_option linter.unusedVariables false
namespace Go.Proofs.YtifgiclnofdnkaaGreatDoor.Num
open Go.RowKit Go.Lib
theorem rn_len (a : ByteArray) : a.data.toList.length = a.size := Array.length_toList
theorem rn_drop (a : ByteArray) (k : Nat) (h : k < a.size) : a.data.toList.drop k = a[k] :: a.data.toList.drop (k + 1) := by
 rw [List.drop_eq_getElem_cons (by rw [rn_len]; exact h)]
 rfl
theorem rn_dig (c : UInt8) : dig c = (decide (48 ≤ (c.toNat : Int)) && decide ((c.toNat : Int) ≤ 57)) := by
 unfold dig
 by_cases h1 : 48 ≤ c.toNat <;> by_cases h2 : c.toNat ≤ 57 <;> simp [h1, h2] <;> omega
def rd (l : List UInt8) : Int × Int := if isT l then (match parseIntB 64 l with | .ok v => (v, 0) | _ => (0, 1)) else (0, 2)
theorem dec_short (u : Nat) (h : u < 18446744073709551616) : (decDigits u).length ≤ 20 := by
 have e : (10 : Nat) ^ (19 + 1) = 100000000000000000000 := by decide
 exact dec_len 19 u (by rw [e]; omega)
end Go.Proofs.YtifgiclnofdnkaaGreatDoor.Num
set_option linter.unusedVariables false
set_option linter.unusedSimpArgs false
namespace Go.Proofs.YtifgiclnofdnkaaGreatDoor
namespace An
abbrev I := Int × Int × Int × Int × ByteArray
def I0 : I := (0, 0, 0, 0, ⟨#[]⟩)
def tl (i : I) : List (List UInt8) := [Lib.itoa i.1, Lib.itoa i.2.1, Lib.itoa i.2.2.1, Lib.itoa i.2.2.2.1, i.2.2.2.2.data.toList]
def inf (i : I) : List UInt8 × Int := Fd.jn (tl i)
def w4 (a b c d : List UInt8) : Int := if (Num.rd a).2 ≠ 0 then (Num.rd a).2 else if (Num.rd b).2 ≠ 0 then (Num.rd b).2 else if (Num.rd c).2 ≠ 0 then (Num.rd c).2 else (Num.rd d).2
def both (i j : I) : List UInt8 × Int := if (inf i).2 ≠ 0 then ([], (inf i).2) else if (inf j).2 ≠ 0 then ([], (inf j).2) else ((inf i).1 ++ [32, 47, 32] ++ (inf j).1, 0)
theorem numT_all {b : Bool} {l : List UInt8} (h : Num.numT b l = true) : ∀ c ∈ l, Num.dig c = true := by
 cases l with
 | nil => intro c hc; cases hc
 | cons x r =>
  unfold Num.numT at h
  rw [Bool.and_eq_true] at h
  exact List.all_eq_true.1 h.2
theorem itoa_ch (n : Int) : ∀ c ∈ Lib.itoa n, c = 45 ∨ Num.dig c = true := by
 have h := Num.isT_itoa n
 generalize Lib.itoa n = l at h
 intro c hc
 unfold Num.isT at h
 cases l with
 | nil => cases hc
 | cons x r =>
  by_cases hx : x = 45
  ·
   subst hx
   rw [Num.tp_minus] at h
   rcases List.mem_cons.1 hc with rfl | hr
   ·
    exact .inl rfl
   ·
    exact .inr (numT_all h c hr)
  ·
   rw [Num.tp_other _ _ hx] at h
   exact .inr (numT_all h c hc)
theorem tx_num (n : Int) : Fd.tx (Lib.itoa n) = (Lib.itoa n, 0) := by
 have h := itoa_ch n
 have hne := Num.itoa_ne n
 generalize Lib.itoa n = l at *
 have g : ∀ c ∈ l, Fd.mkB c = false ∧ c ≠ 34 := by
  intro c hc
  rcases h c hc with rfl | hd
  ·
   exact ⟨by decide, by decide⟩
  ·
   have hd : 48 ≤ c.toNat ∧ c.toNat ≤ 57 := by simpa [Num.dig] using hd
   refine ⟨?_, fun e => by subst e; revert hd; decide⟩
   unfold Fd.mkB Fd.isK
   simp
   omega
 unfold Fd.tx
 rw [if_neg, if_neg]
 ·
  rintro (e | e)
  ·
   exact hne e
  ·
   obtain ⟨c, hc, hb⟩ := List.any_eq_true.1 e
   rw [(g c hc).1] at hb; cases hb
 ·
  intro e
  have : (34 : UInt8) ∈ l := by simpa using e
  exact (g _ this).2 rfl
theorem rd_num {n : Int} (n0 : -9223372036854775808 ≤ n) (n1 : n ≤ 9223372036854775807) : Num.rd (Lib.itoa n) = (n, 0) := by
 unfold Num.rd
 rw [Num.isT_itoa, Num.parse_itoa n n0 n1]; rfl
def bd (n : Int) : Prop := -9223372036854775808 ≤ n ∧ n ≤ 9223372036854775807
end An
end Go.Proofs.YtifgiclnofdnkaaGreatDoor
