/- Joined: RdM, RnM, AnP. -/
import Derived.Test.YtlelpeocbgjmhaaGreatDoorCa02
import Derived.Test.YtlelpeocbgjmhaaGreatDoorCa01
/- Stamps that are read, in plain lists of bytes. -/
set_option linter.unusedVariables false
set_option linter.unusedSimpArgs false
namespace Go.Proofs.YtlelpeocbgjmhaaGreatDoor
open Go Go.Lib

namespace Num
theorem val_zeros (l : List UInt8) : ∀ k, val 0 (List.replicate k 48 ++ l) = val 0 l := by
  intro k
  induction k with
  | zero => rfl
  | succ k ih =>
    rw [List.replicate_succ, List.cons_append, val_cons, show stp 0 48 = 0 by rw [stp_eq]; rfl]
    exact ih
theorem dec_len : ∀ (j u : Nat), u < 10 ^ (j + 1) → (decDigits u).length ≤ j + 1 := by
  intro j
  induction j with
  | zero => intro u h; rw [dec_small (by simpa using h)]; simp
  | succ j ih =>
    intro u h
    by_cases h10 : u < 10
    · rw [dec_small h10]; simp
    · rw [dec_step h10, List.length_append]
      have := ih (u / 10) (by rw [Nat.pow_succ] at h; omega)
      simp; omega
theorem val_lt : ∀ (l : List UInt8) (a : Nat), l.all dig = true → val a l < (a + 1) * 10 ^ l.length := by
  intro l
  induction l with
  | nil => intro a _; rw [val_nil]; simp
  | cons c r ih =>
    intro a h
    simp only [List.all_cons, Bool.and_eq_true] at h
    have hc : 48 ≤ c.toNat ∧ c.toNat ≤ 57 := by have := h.1; unfold dig at this; exact of_decide_eq_true this
    have := ih (stp a c) h.2
    rw [val_cons, List.length_cons, Nat.pow_succ]
    have h1 : stp a c + 1 ≤ (a + 1) * 10 := by rw [stp_eq]; omega
    have h2 := Nat.mul_le_mul_right (10 ^ r.length) h1
    calc val (stp a c) r < (stp a c + 1) * 10 ^ r.length := this
      _ ≤ (a + 1) * 10 * 10 ^ r.length := h2
      _ = (a + 1) * (10 ^ r.length * 10) := by rw [Nat.mul_assoc, Nat.mul_comm 10]
theorem val_bd {l : List UInt8} {k : Nat} (hd : l.all dig = true) (hl : l.length ≤ k) : val 0 l < 10 ^ k := by
  have := val_lt l 0 hd
  have h2 := Nat.pow_le_pow_right (n := 10) (by omega) hl
  omega
theorem itoa_nat (n : Int) (h : 0 ≤ n) : itoa n = decDigits n.toNat := by unfold itoa; rw [if_neg (by omega)]
end Num
namespace Tx
theorem dg_dig (k : Nat) (n : Int) (h : 0 ≤ n) : (dg k n).all Num.dig = true := by
  unfold dg
  rw [Num.itoa_nat n h, List.all_append, (Num.dec_all n.toNat n.toNat (Nat.le_refl _)).1, Bool.and_true]
  rw [List.all_eq_true]
  intro x hx
  rw [List.eq_of_mem_replicate hx]; decide
theorem dg_val (k : Nat) (n : Int) (h : 0 ≤ n) : (Num.val 0 (dg k n) : Int) = n := by
  unfold dg
  rw [Num.val_zeros, Num.itoa_nat n h, (Num.dec_all n.toNat n.toNat (Nat.le_refl _)).2.2.1]
  omega
theorem dg_ge (k : Nat) (n : Int) : k ≤ (dg k n).length := by unfold dg; simp; omega
theorem dg_le (k j : Nat) (n : Int) (h0 : 0 ≤ n) (h : n.toNat < 10 ^ (j + 1)) (hk : k ≤ j + 1) : (dg k n).length ≤ j + 1 := by
  have := Num.dec_len j n.toNat h
  unfold dg
  rw [Num.itoa_nat n h0]; simp; omega
theorem dg_head (k : Nat) (n : Int) (h : 0 ≤ n) (hk : 1 ≤ k) (hl : k < (dg k n).length) : (dg k n).head? ≠ some 48 := by
  unfold dg at hl ⊢
  rw [Num.itoa_nat n h] at hl ⊢
  have hl2 : k < (decDigits n.toNat).length := by simp at hl; omega
  rw [show k - (decDigits n.toNat).length = 0 by omega, List.replicate_zero, List.nil_append]
  by_cases h10 : n.toNat < 10
  · rw [Num.dec_small h10] at hl2; simp at hl2; omega
  · obtain ⟨c, r, e, hc⟩ := (Num.dec_all n.toNat n.toNat (Nat.le_refl _)).2.2.2 (by omega)
    rw [e]
    simp only [List.head?_cons, ne_eq, Option.some.injEq]
    rintro rfl
    exact absurd hc (by decide)
/-- Digits are what the number that they mean is written as. -/
theorem dg_back : ∀ (k : Nat) (l : List UInt8), l.length = k + 1 → l.all Num.dig = true → dg (k + 1) (Num.val 0 l) = l := by
  intro k
  induction k with
  | zero =>
    intro l hl hd
    have e := Num.dec_of_val l hd (by intro h; subst h; cases hl) (by intro c r e hr; subst e; simp at hl; exact absurd hl hr)
    unfold dg
    rw [Num.itoa_nat _ (by omega), Int.toNat_natCast, e, hl]; rfl
  | succ k ih =>
    intro l hl hd
    cases l with
    | nil => cases hl
    | cons c r =>
      have hr : r.length = k + 1 := by simpa using hl
      by_cases hc : c = 48
      · subst hc
        have hv : Num.val 0 (48 :: r) = Num.val 0 r := Num.val_zeros r 1
        have hdr : r.all Num.dig = true := by simp only [List.all_cons, Bool.and_eq_true] at hd; exact hd.2
        have h := ih r hr hdr
        rw [hv]
        have hlen : (itoa (Num.val 0 r : Int)).length ≤ k + 1 := by
          have := congrArg List.length h
          unfold dg at this
          rw [hr] at this; simp at this; omega
        unfold dg at h ⊢
        rw [show k + 1 + 1 - (itoa (Num.val 0 r : Int)).length = (k + 1 - (itoa (Num.val 0 r : Int)).length) + 1 by omega, List.replicate_succ, List.cons_append, h]
      · have e := Num.dec_of_val (c :: r) hd (by simp) (by intro c' r' e _; injection e with e1 _; subst e1; exact hc)
        unfold dg
        rw [Num.itoa_nat _ (by omega), Int.toNat_natCast, e, hl]
        simp
theorem dg_back' (k : Nat) (l : List UInt8) (hl : k < l.length) (hd : l.all Num.dig = true) (hh : l.head? ≠ some 48) : dg k (Num.val 0 l) = l := by
  have e := Num.dec_of_val l hd (by intro h; subst h; cases hl) (by intro c r e _; subst e; intro h; exact hh (by rw [h]; rfl))
  unfold dg
  rw [Num.itoa_nat _ (by omega), Int.toNat_natCast, e, show k - l.length = 0 by omega]; rfl
theorem dg4 {l : List UInt8} (hd : l.all Num.dig = true) (hl : 4 ≤ l.length) (hh : 4 < l.length → l.head? ≠ some 48) : dg 4 (Num.val 0 l) = l := by
  by_cases h : l.length = 4
  · exact dg_back 3 l h hd
  · exact dg_back' 4 l (by omega) hd (hh (by omega))
end Tx
namespace Rd
/-- Is it a year's text? -/
def isY (l : List UInt8) : Bool :=
  !(decide ((trimPrefix l [45]).length < 4)) && (!(decide (4 < (trimPrefix l [45]).length) && ((trimPrefix l [45]).head? == some 48)) && ((trimPrefix l [45]).all Num.dig && !(hasPrefix l [45] && ((trimPrefix l [45]) == [48, 48, 48, 48]))))
/-- The year that is meant. -/
def yv (l : List UInt8) : Int := if hasPrefix l [45] then -(Num.val 0 (trimPrefix l [45]) : Int) else (Num.val 0 (trimPrefix l [45]) : Int)
def yl (l : List UInt8) : Bool := decide ((trimPrefix l [45]).length ≤ 5)
def sg : List UInt8 := [45, 45, 84, 58, 58]
def pOk (l : List UInt8) (k : Nat) : Bool := decide (l.getD (3 * k) 0 = sg.getD k 0) && (((l.drop (3 * k + 1)).take 2).all Num.dig)
def pV (l : List UInt8) (k : Nat) : Int := (Num.val 0 ((l.drop (3 * k + 1)).take 2) : Int)
def bOk (l : List UInt8) : Bool := pOk l 0 && (pOk l 1 && (pOk l 2 && (pOk l 3 && pOk l 4)))
def hd (t : List UInt8) : List UInt8 := t.take (t.length - 15)
def tl (t : List UInt8) : List UInt8 := t.drop (t.length - 15)
/-- A text that has a stamp's form. -/
def form (t : List UInt8) : Bool := decide (15 ≤ t.length) && (isY (hd t) && bOk (tl t))
theorem isY_iff {l : List UInt8} : isY l = true ↔ 4 ≤ (trimPrefix l [45]).length ∧ (4 < (trimPrefix l [45]).length → (trimPrefix l [45]).head? ≠ some 48) ∧ (trimPrefix l [45]).all Num.dig = true ∧ (hasPrefix l [45] = true → trimPrefix l [45] ≠ [48, 48, 48, 48]) := by
  unfold isY
  simp only [Bool.and_eq_true, Bool.not_eq_true', decide_eq_false_iff_not, Bool.and_eq_false_iff, beq_eq_false_iff_ne]
  constructor
  · rintro ⟨a, b, c, d⟩
    refine ⟨by omega, fun h => ?_, c, fun h => ?_⟩
    · rcases b with b | b
      · exact absurd h b
      · exact b
    · rcases d with d | d
      · rw [h] at d; cases d
      · exact d
  · rintro ⟨a, b, c, d⟩
    refine ⟨by omega, ?_, c, ?_⟩
    · by_cases h : 4 < (trimPrefix l [45]).length
      · exact .inr (b h)
      · exact .inl h
    · cases h : hasPrefix l [45]
      · exact .inl rfl
      · exact .inr (d h)
theorem tp_dig {l : List UInt8} (h : l.all Num.dig = true) (hn : l ≠ []) : trimPrefix l [45] = l ∧ hasPrefix l [45] = false := by
  cases l with
  | nil => exact absurd rfl hn
  | cons c r =>
    have hc : Num.dig c = true := by simp only [List.all_cons, Bool.and_eq_true] at h; exact h.1
    have := (Num.dig_ne hc).1
    exact ⟨Num.tp_other c r this, by rw [Num.hp_cons]; simpa using this⟩
theorem isY_yr {y : Int} (h0 : -100000 < y) (h1 : y < 100000) : isY (Tx.yr y) = true ∧ yv (Tx.yr y) = y ∧ yl (Tx.yr y) = true := by
  unfold Tx.yr
  by_cases hy : y < 0
  · rw [if_pos hy]
    have e : trimPrefix (45 :: Tx.dg 4 (-y)) [45] = Tx.dg 4 (-y) := Num.tp_minus _
    have hp : hasPrefix (45 :: Tx.dg 4 (-y)) [45] = true := by rw [Num.hp_cons]; rfl
    have hv := Tx.dg_val 4 (-y) (by omega)
    refine ⟨isY_iff.2 ⟨by rw [e]; exact Tx.dg_ge 4 _, fun h => by rw [e] at h ⊢; exact Tx.dg_head 4 _ (by omega) (by omega) h, by rw [e]; exact Tx.dg_dig 4 _ (by omega), fun _ => ?_⟩, ?_, ?_⟩
    · rw [e]
      intro h
      rw [h, show Num.val 0 [48, 48, 48, 48] = 0 from Num.val_zeros [] 4] at hv
      omega
    · unfold yv; rw [hp, if_pos rfl, e, hv]; omega
    · unfold yl; rw [e]; exact decide_eq_true (Tx.dg_le 4 4 _ (by omega) (by omega) (by omega))
  · rw [if_neg hy]
    obtain ⟨e, hp⟩ := tp_dig (Tx.dg_dig 4 y (by omega)) (Tx.dg_ne 4 y)
    refine ⟨isY_iff.2 ⟨by rw [e]; exact Tx.dg_ge 4 _, fun h => by rw [e] at h ⊢; exact Tx.dg_head 4 _ (by omega) (by omega) h, by rw [e]; exact Tx.dg_dig 4 _ (by omega), fun h => ?_⟩, ?_, ?_⟩
    · rw [hp] at h; cases h
    · unfold yv; rw [hp, e]; exact Tx.dg_val 4 y (by omega)
    · unfold yl; rw [e]; exact decide_eq_true (Tx.dg_le 4 4 _ (by omega) (by omega) (by omega))
theorem hp_split {l : List UInt8} (h : hasPrefix l [45] = true) : l = 45 :: trimPrefix l [45] := by
  cases l with
  | nil => cases h
  | cons c r =>
    rw [Num.hp_cons] at h
    have : c = 45 := by simpa using h
    subst this
    rw [Num.tp_minus]
theorem hp_none {l : List UInt8} (h : hasPrefix l [45] = false) : trimPrefix l [45] = l := by
  cases l with
  | nil => rfl
  | cons c r =>
    rw [Num.hp_cons] at h
    exact Num.tp_other c r (by simpa using h)
theorem val_zero {l : List UInt8} (hd : l.all Num.dig = true) (h : Num.val 0 l = 0) : ∀ c ∈ l, c = 48 := by
  induction l with
  | nil => intro c hc; cases hc
  | cons x r ih =>
    simp only [List.all_cons, Bool.and_eq_true] at hd
    rw [Num.val_cons] at h
    have hx : Num.stp 0 x = 0 := by have := Num.val_ge r (Num.stp 0 x); omega
    have hxd : 48 ≤ x.toNat ∧ x.toNat ≤ 57 := by have := hd.1; unfold Num.dig at this; exact of_decide_eq_true this
    have : x = 48 := by
      rw [Num.stp_eq] at hx
      exact UInt8.toNat_inj.1 (by show x.toNat = 48; omega)
    subst this
    intro c hc
    rcases List.mem_cons.1 hc with rfl | hc
    · rfl
    · rw [hx] at h; exact ih hd.2 h c hc
theorem yr_back {l : List UInt8} (h : isY l = true) : Tx.yr (yv l) = l := by
  obtain ⟨a, b, c, d⟩ := isY_iff.1 h
  have e := Tx.dg4 c a b
  cases hp : hasPrefix l [45]
  · rw [hp_none hp] at a b c d e
    unfold Tx.yr yv
    rw [hp, hp_none hp]
    simp only [Bool.false_eq_true, if_false]
    rw [if_neg (by omega), e]
  · have hpos : Num.val 0 (trimPrefix l [45]) ≠ 0 := by
      intro h0
      have hz := val_zero c h0
      by_cases h4 : 4 < (trimPrefix l [45]).length
      · refine b h4 ?_
        cases ht : trimPrefix l [45] with
        | nil => rw [ht] at h4; cases h4
        | cons x r => rw [hz x (by rw [ht]; exact List.mem_cons_self ..)]; rfl
      · refine d hp ?_
        have : trimPrefix l [45] = List.replicate 4 48 := List.eq_replicate_iff.2 ⟨by omega, hz⟩
        exact this
    unfold Tx.yr yv
    rw [hp]
    simp only [if_true]
    rw [if_pos (by omega), Int.neg_neg, e]
    exact (hp_split hp).symm
end Rd
end Go.Proofs.YtlelpeocbgjmhaaGreatDoor

/- Numbers' texts that are read, in plain arithmetic: by their digits alone. -/
set_option linter.unusedVariables false
namespace Go.Proofs.YtlelpeocbgjmhaaGreatDoor.Num
open Go.RowKit Go.Lib

theorem rn_len (a : ByteArray) : a.data.toList.length = a.size := Array.length_toList
theorem rn_drop (a : ByteArray) (k : Nat) (h : k < a.size) : a.data.toList.drop k = a[k] :: a.data.toList.drop (k + 1) := by
  rw [List.drop_eq_getElem_cons (by rw [rn_len]; exact h)]
  rfl
theorem rn_dig (c : UInt8) : dig c = (decide (48 ≤ (c.toNat : Int)) && decide ((c.toNat : Int) ≤ 57)) := by
  unfold dig
  by_cases h1 : 48 ≤ c.toNat <;> by_cases h2 : c.toNat ≤ 57 <;> simp [h1, h2] <;> omega
theorem parse_le (M : Nat) (l : List UInt8) : ∀ (acc v : Nat), acc ≤ M → parseUintM M acc l = .ok v → v ≤ M := by
  induction l with
  | nil => intro acc v h e; rw [parse_nil] at e; injection e with e; omega
  | cons c r ih =>
    intro acc v h e
    rw [parseUintM] at e
    split at e
    · split at e
      · cases e
      · split at e
        · cases e
        · exact ih _ v (by omega) e
    · cases e
theorem val_le (l : List UInt8) : ∀ (a : Nat), a * 10 ^ l.length ≤ val a l := by
  induction l with
  | nil => intro a; rw [val_nil]; simp
  | cons c r ih =>
    intro a
    rw [val_cons]
    refine Nat.le_trans ?_ (ih (stp a c))
    rw [stp_eq, List.length_cons, Nat.pow_succ, Nat.mul_comm (10 ^ r.length) 10, ← Nat.mul_assoc]
    exact Nat.mul_le_mul_right _ (by omega)
/-- A text of more than 19 digits, no nought ahead, is too far. -/
theorem val_far {d : List UInt8} (ha : d.all dig = true) (hz : ∀ c r, d = c :: r → r ≠ [] → c ≠ 48) (hl : 19 < d.length) : 10000000000000000000 ≤ val 0 d := by
  cases d with
  | nil => simp at hl
  | cons c r =>
    have hr : 19 ≤ r.length := by simp at hl; omega
    have hc := hz c r rfl (by intro e; rw [e] at hr; simp at hr)
    have hd : 48 ≤ c.toNat ∧ c.toNat ≤ 57 := by
      simp only [List.all_cons, Bool.and_eq_true, dig, decide_eq_true_eq] at ha; exact ha.1
    have hc' : c.toNat ≠ 48 := fun e => hc (UInt8.toNat_inj.1 (by rw [e]; rfl))
    rw [val_cons]
    have h1 := val_le r (stp 0 c)
    have h2 : 1 ≤ stp 0 c := by rw [stp_eq]; omega
    have h3 := Nat.pow_le_pow_right (n := 10) (by omega) hr
    have h4 := Nat.mul_le_mul h2 h3
    have h5 : (1 : Nat) * 10 ^ 19 = 10000000000000000000 := by decide
    omega
theorem val_near {d : List UInt8} (ha : d.all dig = true) (hl : d.length ≤ 19) : val 0 d < 10000000000000000000 := val_bd (k := 19) ha hl
/-- What a text is read as: the number, the error's. -/
def rd (l : List UInt8) : Int × Int := if isT l then (match parseIntB 64 l with | .ok v => (v, 0) | _ => (0, 1)) else (0, 2)
/-- The like, by its digits. -/
def rdD (b : Bool) (d : List UInt8) : Int × Int :=
  if numT b d then (if 19 < d.length then (0, 1) else if b then (if 9223372036854775808 < val 0 d then (0, 1) else (-(val 0 d : Int), 0)) else (if 9223372036854775807 < val 0 d then (0, 1) else ((val 0 d : Int), 0))) else (0, 2)
theorem parseU_at (d : List UInt8) (h : d ≠ []) (ha : d.all dig = true) : parseUintB 64 d = if val 0 d ≤ 18446744073709551615 then .ok (val 0 d) else .range := by
  have e : (2 : Nat) ^ 64 - 1 = 18446744073709551615 := by decide
  split
  · rename_i hv
    unfold parseUintB
    rw [if_neg h, e]
    exact parse_ok _ (by unfold Small; decide) d 0 ha hv
  · rename_i hv
    rcases parseU d h ha with hu | hu
    · exfalso
      unfold parseUintB at hu
      rw [if_neg h, e] at hu
      exact hv (parse_le _ d 0 _ (by omega) hu)
    · exact hu
theorem rd_eq (l : List UInt8) : rd l = rdD (hasPrefix l [45]) (trimPrefix l [45]) := by
  unfold rd rdD
  show (if isT l = true then _ else _) = (if isT l = true then _ else _)
  by_cases h : isT l = true
  · rw [if_pos h, if_pos h]
    cases l with
    | nil => exact absurd h (by decide)
    | cons c d =>
      have e63 : (2 : Nat) ^ (64 - 1) = 9223372036854775808 := by decide
      by_cases hc : c = 45
      · subst hc
        unfold isT at h
        rw [hp_cons, tp_minus] at h ⊢
        obtain ⟨a, b, e, f⟩ := numT_yes h
        have hu := parseU_at d a b
        rw [if_pos (show (45 == (45 : UInt8)) = true from rfl)]
        unfold parseIntB
        simp only [show (45 : UInt8).toNat = 45 from rfl, or_true, if_true, hu, e63]
        by_cases hv : val 0 d ≤ 18446744073709551615
        · rw [if_pos hv]
          simp only [not_true_eq_false, false_and, if_false, true_and]
          by_cases hf : 9223372036854775808 < val 0 d
          · rw [if_pos hf, if_pos hf]
            by_cases hl : 19 < d.length
            · rw [if_pos hl]
            · rw [if_neg hl]
          · rw [if_neg hf, if_neg hf, if_neg (fun hl => by have := val_far b e hl; omega)]
        · rw [if_neg hv]
          by_cases hl : 19 < d.length
          · rw [if_pos hl]
          · rw [if_neg hl, if_pos (by omega)]
      · unfold isT at h
        rw [hp_cons, tp_other c d hc] at h ⊢
        obtain ⟨a, b, e, _⟩ := numT_yes h
        have hd : 48 ≤ c.toNat ∧ c.toNat ≤ 57 := by
          simp only [List.all_cons, Bool.and_eq_true, dig, decide_eq_true_eq] at b; exact b.1
        have n43 : ¬ (c.toNat = 43 ∨ c.toNat = 45) := by omega
        have n45 : ¬ c.toNat = 45 := by omega
        have hu := parseU_at (c :: d) a b
        rw [if_neg (show ¬ (c == (45 : UInt8)) = true by simpa using hc)]
        unfold parseIntB
        simp only [if_neg n43, hu, e63]
        by_cases hv : val 0 (c :: d) ≤ 18446744073709551615
        · rw [if_pos hv]
          simp only [n45, not_false_eq_true, true_and, false_and, if_false]
          by_cases hf : 9223372036854775808 ≤ val 0 (c :: d)
          · rw [if_pos hf, if_pos (show 9223372036854775807 < val 0 (c :: d) by omega)]
            by_cases hl : 19 < (c :: d).length
            · rw [if_pos hl]
            · rw [if_neg hl]
          · rw [if_neg hf, if_neg (show ¬ 9223372036854775807 < val 0 (c :: d) by omega), if_neg (fun hl => by have := val_far b e hl; omega)]
        · rw [if_neg hv]
          by_cases hl : 19 < (c :: d).length
          · rw [if_pos hl]
          · rw [if_neg hl, if_pos (by omega)]
  · rw [if_neg h, if_neg h]
/-- Numbers' texts are short. -/
theorem dec_short (u : Nat) (h : u < 18446744073709551616) : (decDigits u).length ≤ 20 := by
  have e : (10 : Nat) ^ (19 + 1) = 100000000000000000000 := by decide
  exact dec_len 19 u (by rw [e]; omega)
end Go.Proofs.YtlelpeocbgjmhaaGreatDoor.Num

/- Answers, in plain lists: how an info is written and read; what a local time's text is. -/
set_option linter.unusedVariables false
set_option linter.unusedSimpArgs false
namespace Go.Proofs.YtlelpeocbgjmhaaGreatDoor
namespace An
/-- An info: from when, to when, what is added, what is saved, what it is called. -/
abbrev I := Int × Int × Int × Int × ByteArray
def I0 : I := (0, 0, 0, 0, ⟨#[]⟩)
def tl (i : I) : List (List UInt8) := [Lib.itoa i.1, Lib.itoa i.2.1, Lib.itoa i.2.2.1, Lib.itoa i.2.2.2.1, i.2.2.2.2.data.toList]
/-- An info's text, and why there is none. -/
def inf (i : I) : List UInt8 × Int := Fd.jn (tl i)
/-- The first thing that is wrong with four numbers. -/
def w4 (a b c d : List UInt8) : Int := if (Num.rd a).2 ≠ 0 then (Num.rd a).2 else if (Num.rd b).2 ≠ 0 then (Num.rd b).2 else if (Num.rd c).2 ≠ 0 then (Num.rd c).2 else (Num.rd d).2
def rdL : List (List UInt8) → I × Int
  | [a, b, c, d, x] => if w4 a b c d ≠ 0 then (I0, w4 a b c d) else (((Num.rd a).1, (Num.rd b).1, (Num.rd c).1, (Num.rd d).1, ⟨x.toArray⟩), 0)
  | l => (I0, if l.length < 5 then 5 else 6)
/-- The info of a text. -/
def rdi (s : List UInt8) : I × Int := if (Fd.of s).2 ≠ 0 then (I0, (Fd.of s).2) else rdL (Fd.of s).1
def both (i j : I) : List UInt8 × Int := if (inf i).2 ≠ 0 then ([], (inf i).2) else if (inf j).2 ≠ 0 then ([], (inf j).2) else ((inf i).1 ++ [32, 47, 32] ++ (inf j).1, 0)
/-- A local time's text. -/
def loc (k : Int) (i j : I) : List UInt8 × Int :=
  if k = 1 then (if (inf i).2 ≠ 0 then ([], (inf i).2) else ([111, 110, 101, 32] ++ (inf i).1, 0))
  else if k = 2 then (if (both i j).2 ≠ 0 then ([], (both i j).2) else ([110, 111, 110, 101, 32] ++ (both i j).1, 0))
  else if k = 3 then (if (both i j).2 ≠ 0 then ([], (both i j).2) else ([116, 119, 111, 32] ++ (both i j).1, 0))
  else ([], 4)
theorem numT_all {b : Bool} {l : List UInt8} (h : Num.numT b l = true) : ∀ c ∈ l, Num.dig c = true := by
  cases l with
  | nil => intro c hc; cases hc
  | cons x r =>
    unfold Num.numT at h
    rw [Bool.and_eq_true] at h
    exact List.all_eq_true.1 h.2
theorem itoa_ch (n : Int) : ∀ c ∈ Lib.itoa n, c = 45 ∨ Num.dig c = true := by
  have h := Num.isT_itoa n
  generalize Lib.itoa n = l at h
  intro c hc
  unfold Num.isT at h
  cases l with
  | nil => cases hc
  | cons x r =>
    by_cases hx : x = 45
    · subst hx
      rw [Num.tp_minus] at h
      rcases List.mem_cons.1 hc with rfl | hr
      · exact .inl rfl
      · exact .inr (numT_all h c hr)
    · rw [Num.tp_other _ _ hx] at h
      exact .inr (numT_all h c hc)
theorem rdL_five (a b c d x : List UInt8) : rdL [a, b, c, d, x] = if w4 a b c d ≠ 0 then (I0, w4 a b c d) else (((Num.rd a).1, (Num.rd b).1, (Num.rd c).1, (Num.rd d).1, ⟨x.toArray⟩), 0) := rfl
theorem rdL_few (l : List (List UInt8)) (h : l.length < 5) : rdL l = (I0, 5) := by
  match l, h with
  | [], _ => rfl
  | [_], _ => rfl
  | [_, _], _ => rfl
  | [_, _, _], _ => rfl
  | [_, _, _, _], _ => rfl
theorem rdL_many (l : List (List UInt8)) (h : 5 < l.length) : rdL l = (I0, 6) := by
  match l, h with
  | a :: b :: c :: d :: x :: y :: r, h =>
    show (I0, if (a :: b :: c :: d :: x :: y :: r).length < 5 then (5 : Int) else 6) = _
    rw [if_neg (by simp)]
theorem tx_num (n : Int) : Fd.tx (Lib.itoa n) = (Lib.itoa n, 0) := by
  have h := itoa_ch n
  have hne := Num.itoa_ne n
  generalize Lib.itoa n = l at *
  have g : ∀ c ∈ l, Fd.mkB c = false ∧ c ≠ 34 := by
    intro c hc
    rcases h c hc with rfl | hd
    · exact ⟨by decide, by decide⟩
    · have hd : 48 ≤ c.toNat ∧ c.toNat ≤ 57 := by simpa [Num.dig] using hd
      refine ⟨?_, fun e => by subst e; revert hd; decide⟩
      unfold Fd.mkB Fd.isK
      simp
      omega
  unfold Fd.tx
  rw [if_neg, if_neg]
  · rintro (e | e)
    · exact hne e
    · obtain ⟨c, hc, hb⟩ := List.any_eq_true.1 e
      rw [(g c hc).1] at hb; cases hb
  · intro e
    have : (34 : UInt8) ∈ l := by simpa using e
    exact (g _ this).2 rfl
theorem inf_eq (a b c d : Int) (x : ByteArray) : inf (a, b, c, d, x) = if (Fd.tx x.data.toList).2 = 0 then (Lib.itoa a ++ 32 :: (Lib.itoa b ++ 32 :: (Lib.itoa c ++ 32 :: (Lib.itoa d ++ 32 :: (Fd.tx x.data.toList).1))), 0) else ([], (Fd.tx x.data.toList).2) := by
  unfold inf tl Fd.jn
  rw [if_neg (by simp)]
  simp only [Fd.jr, tx_num, if_true]
  by_cases h : (Fd.tx x.data.toList).2 = 0
  · rw [if_pos h, if_pos h]; simp
  · rw [if_neg h, if_neg h]
theorem rd_num {n : Int} (n0 : -9223372036854775808 ≤ n) (n1 : n ≤ 9223372036854775807) : Num.rd (Lib.itoa n) = (n, 0) := by
  unfold Num.rd
  rw [Num.isT_itoa, Num.parse_itoa n n0 n1]; rfl
def bd (n : Int) : Prop := -9223372036854775808 ≤ n ∧ n ≤ 9223372036854775807
/-- What is written is read as it is. -/
theorem rdi_inf (i : I) (h1 : bd i.1) (h2 : bd i.2.1) (h3 : bd i.2.2.1) (h4 : bd i.2.2.2.1) (h : (inf i).2 = 0) : rdi (inf i).1 = (i, 0) := by
  obtain ⟨a, b, c, d, x⟩ := i
  have e : Fd.jn (tl (a, b, c, d, x)) = ((inf (a, b, c, d, x)).1, 0) := by rw [← h]; rfl
  have := Fd.of_jn _ _ e
  unfold rdi
  rw [this]
  rw [if_neg (by simp)]
  show rdL [Lib.itoa a, Lib.itoa b, Lib.itoa c, Lib.itoa d, x.data.toList] = _
  rw [rdL_five]
  unfold w4
  have r1 := rd_num h1.1 h1.2
  have r2 := rd_num h2.1 h2.2
  have r3 := rd_num h3.1 h3.2
  have r4 := rd_num h4.1 h4.2
  dsimp only at r1 r2 r3 r4
  rw [r1, r2, r3, r4]
  simp
theorem rd_bd {l : List UInt8} : bd (Num.rd l).1 := by
  unfold Num.rd bd
  cases ht : Num.isT l
  · simp
  · rcases Num.isT_read ht with h | ⟨x, h, -, h1, h2⟩
    · rw [h]; simp
    · rw [h]; exact ⟨h1, h2⟩
/-- What is read is written so that it is read the same. -/
theorem inf_rdi {s : List UInt8} (h : (rdi s).2 = 0) : (inf (rdi s).1).2 = 0 ∧ bd (rdi s).1.1 ∧ bd (rdi s).1.2.1 ∧ bd (rdi s).1.2.2.1 ∧ bd (rdi s).1.2.2.2.1 := by
  unfold rdi at h ⊢
  by_cases hy : (Fd.of s).2 = 0
  · rw [if_neg (by simp [hy])] at h ⊢
    have hn : ∀ x ∈ (Fd.of s).1, (34 : UInt8) ∉ x := by
      unfold Fd.of Fd.told at hy ⊢
      cases hg : Fd.go [] [] false false s with
      | none => rw [hg] at hy; simp at hy
      | some P =>
        rw [hg] at hy
        dsimp only at hy ⊢
        split at hy
        · simp at hy
        · rename_i h16
          rw [if_neg h16]
          exact Fd.go_no34 s [] [] false false P hg (by simp) (by simp)
    generalize (Fd.of s).1 = P at h hn
    match P, h with
    | [a, b, c, d, x], h =>
      rw [rdL_five] at h ⊢
      by_cases hw : w4 a b c d = 0
      · rw [if_neg (by simp [hw])]
        dsimp only
        refine ⟨?_, rd_bd, rd_bd, rd_bd, rd_bd⟩
        rw [inf_eq, if_pos]
        have := Fd.tx_ok (x := x) (hn x (by simp))
        simpa using this
      · rw [if_pos hw] at h; exact absurd h hw
    | [], h => simp [rdL] at h
    | [_], h => simp [rdL] at h
    | [_, _], h => simp [rdL] at h
    | [_, _, _], h => simp [rdL] at h
    | [_, _, _, _], h => simp [rdL] at h
    | _ :: _ :: _ :: _ :: _ :: _ :: r, h => simp [rdL] at h; split at h <;> omega
  · rw [if_pos hy] at h; exact absurd h hy
end An
end Go.Proofs.YtlelpeocbgjmhaaGreatDoor
