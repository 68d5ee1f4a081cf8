/- Joined: NumM, NumN, Tx. -/
import Derived.Lib.ItoaNum
import Derived.Lib.ParseIntB
import Derived.Lib.Strings
import Derived.Lib.ItoaLen
set_option linter.unusedVariables false
namespace Go.Proofs.YtbcbggdbojonmaaGreatDoor.Num
open Go Go.Lib
def dig (c : UInt8) : Bool := decide (48 ≤ c.toNat ∧ c.toNat ≤ 57)
@[irreducible] def stp (acc : Nat) (c : UInt8) : Nat := acc * 10 + (c.toNat - 48)
theorem stp_eq (acc : Nat) (c : UInt8) : stp acc c = acc * 10 + (c.toNat - 48) := by unfold stp; rfl
def val (acc : Nat) (l : List UInt8) : Nat := l.foldl stp acc
theorem val_cons (acc : Nat) (c : UInt8) (r : List UInt8) : val acc (c :: r) = val (stp acc c) r := rfl
theorem val_nil (acc : Nat) : val acc [] = acc := rfl
theorem val_ge (l : List UInt8) : ∀ (acc : Nat), acc ≤ val acc l := by
 induction l with
 | nil => intro acc; exact Nat.le_refl _
 | cons c r ih =>
  intro acc
  rw [val_cons]
  exact Nat.le_trans (by rw [stp_eq]; omega) (ih _)
theorem val_append (l : List UInt8) (acc : Nat) (c : UInt8) : val acc (l ++ [c]) = val acc l * 10 + (c.toNat - 48) := by
 unfold val
 rw [List.foldl_append]
 exact stp_eq _ _
theorem parse_nil (M acc : Nat) : parseUintM M acc [] = .ok acc := by rw [parseUintM]
theorem parse_step (M acc : Nat) (c : UInt8) (r : List UInt8) (hc : 48 ≤ c.toNat ∧ c.toNat ≤ 57) (h0 : ¬ 1844674407370955162 ≤ acc) (h1 : ¬ M < stp acc c) :
  parseUintM M acc (c :: r) = parseUintM M (stp acc c) r := by
 rw [stp_eq] at h1 ⊢
 rw [parseUintM, if_pos hc, if_neg h0, if_neg h1]
def Small (M : Nat) : Prop := M < 18446744073709551616
theorem small_of {M acc : Nat} {c : UInt8} (hM : Small M) (h : stp acc c ≤ M) : ¬ 1844674407370955162 ≤ acc := by rw [stp_eq] at h; unfold Small at hM; omega
theorem parse_ok (M : Nat) (hM : Small M) (l : List UInt8) : ∀ (acc : Nat), l.all dig = true → val acc l ≤ M → parseUintM M acc l = .ok (val acc l) := by
 induction l with
 | nil => intro acc ha hv; exact parse_nil M acc
 | cons c r ih =>
  intro acc hd hv
  simp only [List.all_cons, Bool.and_eq_true, dig, decide_eq_true_eq] at hd
  obtain ⟨hc, hr⟩ := hd
  rw [val_cons] at hv ⊢
  have h2 : stp acc c ≤ M := Nat.le_trans (val_ge r _) hv
  rw [parse_step M acc c r hc (small_of hM h2) (Nat.not_lt.2 h2)]
  exact ih _ hr hv
theorem parse_all (M : Nat) (l : List UInt8) : ∀ (acc : Nat), l.all dig = true → parseUintM M acc l = .ok (val acc l) ∨ parseUintM M acc l = .range := by
 induction l with
 | nil => intro acc _; exact .inl (parse_nil M acc)
 | cons c r ih =>
  intro acc hd
  simp only [List.all_cons, Bool.and_eq_true, dig, decide_eq_true_eq] at hd
  by_cases h0 : 1844674407370955162 ≤ acc
  ·
   right; rw [parseUintM, if_pos hd.1, if_pos h0]
  ·
   by_cases h1 : M < stp acc c
   ·
    right; rw [stp_eq] at h1; rw [parseUintM, if_pos hd.1, if_neg h0, if_pos h1]
   ·
    rw [parse_step M acc c r hd.1 h0 h1, val_cons]
    exact ih _ hd.2
theorem toNat_ofNat_dig {k : Nat} (h : k < 10) : (UInt8.ofNat (48 + k)).toNat = 48 + k := by
 rw [UInt8.toNat_ofNat']; omega
theorem dec_small {u : Nat} (h : u < 10) : decDigits u = [UInt8.ofNat (48 + u)] := decDigits_one h
theorem dec_step {u : Nat} (h : ¬ u < 10) : decDigits u = decDigits (u / 10) ++ [UInt8.ofNat (48 + u % 10)] := by
 rw [decDigits, dif_neg h]
theorem dec_all : ∀ (n u : Nat), u ≤ n → (decDigits u).all dig = true ∧ decDigits u ≠ [] ∧ val 0 (decDigits u) = u ∧ (10 ≤ u → ∃ c r, decDigits u = c :: r ∧ 49 ≤ c.toNat) := by
 intro n
 induction n with
 | zero =>
  intro u hu
  have : u = 0 := by omega
  subst this
  rw [dec_small (by omega)]
  exact ⟨by decide, by simp, by rw [val_cons, val_nil, stp_eq]; decide, by omega⟩
 | succ n ih =>
  intro u hu
  by_cases h : u < 10
  ·
   rw [dec_small h]
   have e := toNat_ofNat_dig h
   refine ⟨by simp only [List.all_cons, List.all_nil, dig, e, Bool.and_true, decide_eq_true_eq]; omega, by simp, by rw [val_cons, val_nil, stp_eq, e]; omega, by omega⟩
  ·
   obtain ⟨a, b, c, d⟩ := ih (u / 10) (by omega)
   have e := toNat_ofNat_dig (k := u % 10) (by omega)
   rw [dec_step h]
   refine ⟨by rw [List.all_append, a]; simp only [List.all_cons, List.all_nil, dig, e, Bool.and_true, Bool.true_and, decide_eq_true_eq]; omega, by simp, by rw [val_append, c, e]; omega, fun _ => ?_⟩
   by_cases h2 : u / 10 < 10
   ·
    rw [dec_small h2]
    have e2 := toNat_ofNat_dig h2
    exact ⟨_, _, rfl, by rw [e2]; omega⟩
   ·
    obtain ⟨x, r, hx, hc⟩ := d (by omega)
    rw [hx]
    exact ⟨x, _, rfl, hc⟩
def numT (b : Bool) (l : List UInt8) : Bool :=
 match l with
 | [] => false
 | c :: r => !(c == 48 && (b || !r.isEmpty)) && (c :: r).all dig
theorem dec_of_val (l : List UInt8) : l.all dig = true → l ≠ [] → (∀ c r, l = c :: r → r ≠ [] → c ≠ 48) → decDigits (val 0 l) = l := by
 induction h : l.length generalizing l with
 | zero => intro _ hn; exact absurd (List.eq_nil_of_length_eq_zero h) hn
 | succ k ih =>
  intro ha hn hz
  obtain ⟨q, c, rfl⟩ : ∃ q c, l = q ++ [c] := ⟨l.dropLast, l.getLast hn, (List.dropLast_concat_getLast hn).symm⟩
  rw [List.all_append] at ha
  simp only [Bool.and_eq_true, List.all_cons, List.all_nil, Bool.and_true, dig, decide_eq_true_eq] at ha
  have hc : UInt8.ofNat (48 + (c.toNat - 48)) = c := by
   apply UInt8.toNat_inj.1; rw [UInt8.toNat_ofNat']; omega
  by_cases hq : q = []
  ·
   subst hq
   rw [List.nil_append, val_cons, val_nil, stp_eq, dec_small (by omega), Nat.zero_mul, Nat.zero_add, hc]
  ·
   have hlen : q.length = k := by simp at h; exact h
   have hr := ih q hlen ha.1 hq (fun x r e hr => hz x (r ++ [c]) (by rw [e]; rfl) (by simp))
   rw [val_append]
   -- the first digit is no nought: so the number of what is ahead is not 0
   have hpos : 1 ≤ val 0 q := by
    obtain ⟨x, r, rfl⟩ : ∃ x r, q = x :: r := by cases q with
     | nil => exact absurd rfl hq
     | cons x r => exact ⟨x, r, rfl⟩
    have hx := hz x (r ++ [c]) rfl (by simp)
    have hd : 48 ≤ x.toNat ∧ x.toNat ≤ 57 := by
     have := ha.1; simp only [List.all_cons, Bool.and_eq_true, dig, decide_eq_true_eq] at this; exact this.1
    have hx' : x.toNat ≠ 48 := fun e => hx (UInt8.toNat_inj.1 (by rw [e]; rfl))
    have hs : 1 ≤ stp 0 x := by rw [stp_eq]; omega
    rw [val_cons]; exact Nat.le_trans hs (val_ge r _)
   rw [dec_step (by omega)]
   have e1 : (val 0 q * 10 + (c.toNat - 48)) / 10 = val 0 q := by omega
   have e2 : (val 0 q * 10 + (c.toNat - 48)) % 10 = c.toNat - 48 := by omega
   rw [e1, e2, hr, hc]
def isT (l : List UInt8) : Bool := numT (hasPrefix l [45]) (trimPrefix l [45])
theorem hp_cons (c : UInt8) (r : List UInt8) : hasPrefix (c :: r) [45] = (c == 45) := by
 unfold hasPrefix
 rw [List.isPrefixOf, List.isPrefixOf, Bool.and_true]
 by_cases h : c = 45
 ·
  subst h; rfl
 ·
  rw [show (c == 45) = false by simpa using h, beq_eq_false_iff_ne]
  exact fun e => h e.symm
theorem tp_minus (r : List UInt8) : trimPrefix (45 :: r) [45] = r := by simp [trimPrefix, hasPrefix, List.isPrefixOf]
theorem tp_other (c : UInt8) (r : List UInt8) (h : c ≠ 45) : trimPrefix (c :: r) [45] = c :: r := by
 unfold trimPrefix; rw [hp_cons]; simp [h]
theorem numT_dec (u : Nat) : numT false (decDigits u) = true := by
 obtain ⟨a, b, c, d⟩ := dec_all u u (Nat.le_refl _)
 by_cases h : u < 10
 ·
  rw [dec_small h] at a ⊢
  simp only [numT, a]; simp
 ·
  obtain ⟨x, r, hx, hc⟩ := d (by omega)
  rw [hx] at a ⊢
  have : (x == 48) = false := by
   rw [beq_eq_false_iff_ne]; intro e; rw [e] at hc; exact absurd hc (by decide)
  simp only [numT, a, this]; simp
theorem numT_dec_neg (u : Nat) (h1 : 1 ≤ u) : numT true (decDigits u) = true := by
 obtain ⟨a, b, c, d⟩ := dec_all u u (Nat.le_refl _)
 by_cases h : u < 10
 ·
  rw [dec_small h] at a ⊢
  have e := toNat_ofNat_dig h
  have : (UInt8.ofNat (48 + u) == 48) = false := by
   rw [beq_eq_false_iff_ne]; intro e2; rw [e2] at e; have : (48 : UInt8).toNat = 48 := rfl; omega
  simp only [numT, a, this]; simp
 ·
  obtain ⟨x, r, hx, hc⟩ := d (by omega)
  rw [hx] at a ⊢
  have : (x == 48) = false := by
   rw [beq_eq_false_iff_ne]; intro e; rw [e] at hc; exact absurd hc (by decide)
  simp only [numT, a, this]; simp
theorem dec_head (u : Nat) : ∃ c r, decDigits u = c :: r ∧ dig c = true := by
 obtain ⟨a, b, _, _⟩ := dec_all u u (Nat.le_refl _)
 cases h : decDigits u with
 | nil => exact absurd h b
 | cons c r => rw [h] at a; simp only [List.all_cons, Bool.and_eq_true] at a; exact ⟨c, r, rfl, a.1⟩
theorem dig_ne {c : UInt8} (h : dig c = true) : c ≠ 45 ∧ c ≠ 43 := by
 simp only [dig, decide_eq_true_eq] at h
 constructor <;> (intro e; rw [e] at h; exact absurd h (by decide))
theorem isT_itoa (n : Int) : isT (itoa n) = true := by
 unfold isT itoa
 by_cases h : n < 0
 ·
  rw [if_pos h, hp_cons, tp_minus]
  exact numT_dec_neg _ (by omega)
 ·
  rw [if_neg h]
  obtain ⟨c, r, e, hd⟩ := dec_head n.toNat
  have hne := (dig_ne hd).1
  rw [e, hp_cons, tp_other c r hne, show (c == 45) = false by simpa using hne, ← e]
  exact numT_dec _
theorem parse_dec (u : Nat) (h : u < 18446744073709551616) : parseUintB 64 (decDigits u) = .ok u := by
 obtain ⟨a, b, c, _⟩ := dec_all u u (Nat.le_refl _)
 unfold parseUintB
 rw [if_neg b]
 have := parse_ok (2 ^ 64 - 1) (by unfold Small; decide) (decDigits u) 0 a (by rw [c]; omega)
 rw [this, c]
theorem parse_itoa (n : Int) (h0 : -9223372036854775808 ≤ n) (h1 : n ≤ 9223372036854775807) : parseIntB 64 (itoa n) = .ok n := by
 unfold itoa
 by_cases h : n < 0
 ·
  rw [if_pos h]
  unfold parseIntB
  have e := parse_dec n.natAbs (by omega)
  simp only [show (45 : UInt8).toNat = 45 from rfl, or_true, if_true, e]
  rw [if_neg (by simp), if_neg (by simp; omega)]
  simp; omega
 ·
  rw [if_neg h]
  obtain ⟨c, r, e, hd⟩ := dec_head n.toNat
  have e2 := parse_dec n.toNat (by omega)
  rw [e] at e2 ⊢
  simp only [dig, decide_eq_true_eq] at hd
  unfold parseIntB
  have n43 : ¬ (c.toNat = 43 ∨ c.toNat = 45) := by omega
  have n45 : ¬ c.toNat = 45 := by omega
  simp only [if_neg n43, e2]
  simp only [n45, not_false_eq_true, true_and, false_and, if_false]
  have hlt : ¬ 2 ^ (64 - 1) ≤ n.toNat := by
   have : (2 : Nat) ^ (64 - 1) = 9223372036854775808 := by decide
   rw [this]; omega
  rw [if_neg hlt]
  congr 1
  exact Int.toNat_of_nonneg (by omega)
theorem itoa_ne (n : Int) : itoa n ≠ [] := by
 unfold itoa
 split
 ·
  simp
 ·
  exact (dec_all n.toNat n.toNat (Nat.le_refl _)).2.1
theorem numT_yes {b : Bool} {d : List UInt8} (h : numT b d = true) : d ≠ [] ∧ d.all dig = true ∧ (∀ c r, d = c :: r → r ≠ [] → c ≠ 48) ∧ (b = true → ∀ c r, d = c :: r → c ≠ 48) := by
 cases d with
 | nil => have h2 : false = true := h; cases h2
 | cons c r =>
  have h' : (!(c == 48 && (b || !r.isEmpty)) && (c :: r).all dig) = true := h
  rw [Bool.and_eq_true] at h'
  obtain ⟨h1, h2⟩ := h'
  refine ⟨by simp, h2, ?_, ?_⟩
  ·
   intro c' r' e hr hc
   injection e with e1 e2
   subst e1 e2
   rw [hc] at h1
   have : r.isEmpty = false := by simpa using hr
   rw [this] at h1; simp at h1
  ·
   intro hb c' r' e hc
   injection e with e1 e2
   subst e1 e2
   rw [hc, hb] at h1; simp at h1
theorem parseU (d : List UInt8) (h : d ≠ []) (ha : d.all dig = true) : parseUintB 64 d = .ok (val 0 d) ∨ parseUintB 64 d = .range := by
 unfold parseUintB
 rw [if_neg h]
 exact parse_all _ d 0 ha
theorem val_pos {d : List UInt8} (h : d ≠ []) (ha : d.all dig = true) (hz : ∀ c r, d = c :: r → c ≠ 48) : 1 ≤ val 0 d := by
 cases d with
 | nil => exact absurd rfl h
 | cons c r =>
  have hc := hz c r rfl
  have hd : 48 ≤ c.toNat ∧ c.toNat ≤ 57 := by
   simp only [List.all_cons, Bool.and_eq_true, dig, decide_eq_true_eq] at ha; exact ha.1
  have hc' : c.toNat ≠ 48 := fun e => hc (UInt8.toNat_inj.1 (by rw [e]; rfl))
  have hs : 1 ≤ stp 0 c := by rw [stp_eq]; omega
  rw [val_cons]; exact Nat.le_trans hs (val_ge r _)
theorem isT_read {l : List UInt8} (h : isT l = true) : parseIntB 64 l = .range ∨ ∃ x, parseIntB 64 l = .ok x ∧ itoa x = l ∧ -9223372036854775808 ≤ x ∧ x ≤ 9223372036854775807 := by
 cases l with
 | nil => exact absurd h (by decide)
 | cons c d =>
  by_cases hc : c = 45
  ·
   subst hc
   unfold isT at h
   rw [hp_cons, tp_minus] at h
   obtain ⟨a, b, e, f⟩ := numT_yes h
   have f := f rfl
   have hp := val_pos a b f
   have hv := dec_of_val d b a e
   unfold parseIntB
   simp only [show (45 : UInt8).toNat = 45 from rfl, or_true, if_true]
   rcases parseU d a b with hu | hu
   ·
    rw [hu]
    simp only [not_true_eq_false, false_and, if_false, true_and]
    by_cases hb : 2 ^ (64 - 1) < val 0 d
    ·
     left; rw [if_pos hb]
    ·
     right
     rw [if_neg hb]
     have hb2 : val 0 d ≤ 9223372036854775808 := by
      have : (2 : Nat) ^ (64 - 1) = 9223372036854775808 := by decide
      omega
     refine ⟨_, rfl, ?_, by omega, by omega⟩
     unfold itoa
     rw [if_pos (by omega), Int.natAbs_neg, Int.natAbs_natCast, hv]
   ·
    left; rw [hu]
  ·
   unfold isT at h
   rw [hp_cons, tp_other c d hc] at h
   obtain ⟨a, b, e, _⟩ := numT_yes h
   have hv := dec_of_val (c :: d) b a e
   have hd : 48 ≤ c.toNat ∧ c.toNat ≤ 57 := by
    simp only [List.all_cons, Bool.and_eq_true, dig, decide_eq_true_eq] at b; exact b.1
   have n43 : ¬ (c.toNat = 43 ∨ c.toNat = 45) := by omega
   have n45 : ¬ c.toNat = 45 := by omega
   unfold parseIntB
   simp only [if_neg n43]
   rcases parseU (c :: d) a b with hu | hu
   ·
    rw [hu]
    simp only [n45, not_false_eq_true, true_and, false_and, if_false]
    by_cases hb : 2 ^ (64 - 1) ≤ val 0 (c :: d)
    ·
     left; rw [if_pos hb]
    ·
     right
     rw [if_neg hb]
     have hb2 : val 0 (c :: d) < 9223372036854775808 := by
      have : (2 : Nat) ^ (64 - 1) = 9223372036854775808 := by decide
      omega
     refine ⟨_, rfl, ?_, by omega, by omega⟩
     unfold itoa
     rw [if_neg (by omega), Int.toNat_natCast, hv]
   ·
    left; rw [hu]
end Go.Proofs.YtbcbggdbojonmaaGreatDoor.Num
set_option linter.unusedVariables false
set_option linter.unusedSimpArgs false
namespace Go.Proofs.YtbcbggdbojonmaaGreatDoor.Tx
open Go Go.Lib
def dg (k : Nat) (n : Int) : List UInt8 := List.replicate (k - (itoa n).length) 48 ++ itoa n
def beh (m d h i s : Int) : List UInt8 := 45 :: (dg 2 m ++ (45 :: (dg 2 d ++ (84 :: (dg 2 h ++ (58 :: (dg 2 i ++ (58 :: dg 2 s))))))))
def yr (y : Int) : List UInt8 := if y < 0 then 45 :: dg 4 (-y) else dg 4 y
def txt (y m d h i s : Int) : List UInt8 := yr y ++ beh m d h i s
theorem two_tab : ∀ n : Fin 100, (dg 2 (n.val : Int)).length = 2 := by decide +kernel
theorem dg_two {n : Int} (h0 : 0 ≤ n) (h1 : n < 100) : (dg 2 n).length = 2 := by
 have := two_tab ⟨n.toNat, by omega⟩
 rwa [show ((n.toNat : Nat) : Int) = n by omega] at this
theorem beh_len {m d h i s : Int} (m0 : 0 ≤ m) (m1 : m < 100) (d0 : 0 ≤ d) (d1 : d < 100) (h0 : 0 ≤ h) (h1 : h < 100) (i0 : 0 ≤ i) (i1 : i < 100) (s0 : 0 ≤ s) (s1 : s < 100) : (beh m d h i s).length = 15 := by
 unfold beh
 simp [dg_two m0 m1, dg_two d0 d1, dg_two h0 h1, dg_two i0 i1, dg_two s0 s1]
theorem dg_len (k : Nat) (n : Int) (h0 : -9223372036854775808 ≤ n) (h1 : n ≤ 9223372036854775807) : (dg k n).length ≤ k + 21 := by
 have := itoa_length_le n h0 h1
 unfold dg; simp; omega
theorem dg_ne (k : Nat) (n : Int) : dg k n ≠ [] := by
 unfold dg
 intro h
 exact Num.itoa_ne n (List.append_eq_nil_iff.1 h).2
theorem yr_ne (y : Int) : yr y ≠ [] := by unfold yr; split <;> simp [dg_ne]
theorem yr_len (y : Int) (h0 : -9223372036854775807 ≤ y) (h1 : y ≤ 9223372036854775807) : 1 ≤ (yr y).length ∧ (yr y).length ≤ 30 := by
 refine ⟨List.length_pos_iff.2 (yr_ne y), ?_⟩
 unfold yr
 split
 ·
  have := dg_len 4 (-y) (by omega) (by omega); simp; omega
 ·
  have := dg_len 4 y (by omega) (by omega); omega
theorem txt_drop (y m d h i s : Int) (hl : (beh m d h i s).length = 15) : (txt y m d h i s).drop ((txt y m d h i s).length - 15) = beh m d h i s := by
 unfold txt
 rw [List.length_append, hl, Nat.add_sub_cancel, List.drop_left]
end Go.Proofs.YtbcbggdbojonmaaGreatDoor.Tx
