/- Joined: Shelf, NumM, NumA, Byt, NumN, Tx, RdM. -/
import Derived.Shelf.Strconv.Itoa4
import Derived.Shelf.Small.Wraps
import Derived.Lib.AppendIntMem
import Derived.Lib.AtoiErrMem
import Derived.Test.YtpggfhmnhbnefaaGreatDoorProg
import Derived.Test.YtpggfhmnhbnefaaGreatDoorLaid
import Derived.Lib.ItoaNum
import Derived.Lib.ParseIntB
import Derived.Lib.Strings
import Derived.Test.YtpggfhmnhbnefaaGreatDoorBe01
import Derived.Test.YtpggfhmnhbnefaaGreatDoorBe03
import Derived.Lib.ItoaLen
set_option linter.unusedVariables false
namespace Go.Proofs
open Go.Shelf
theorem Tryz.formatInt (n : Int) (h0 : -9223372036854775808 ≤ n) (h1 : n ≤ 9223372036854775807) (w : World) (htab : Lib.TabIs Tryz.prog w "internal/strconv.uint64pow10" .u64 Lib.pow10Tab) :
  Calls Tryz.prog 149 #[.int .i64 n, .int .i64 10] w fun e w' => e = .returned (.string ⟨(Lib.itoa n).toArray⟩) ∧ RowKit.Below w.heap.size w w' :=
 (Any.strconv_FormatInt_10 Tryz.laysM173 n h0 h1 w htab).mono fun _ _ ⟨h, k, os, e⟩ => ⟨h, by rw [e]; exact Lib.below_grow _ _ (Nat.le_refl _) _ _⟩
end Go.Proofs
set_option linter.unusedVariables false
namespace Go.Proofs.YtpggfhmnhbnefaaGreatDoor.Num
open Go Go.Lib
def dig (c : UInt8) : Bool := decide (48 ≤ c.toNat ∧ c.toNat ≤ 57)
@[irreducible] def stp (acc : Nat) (c : UInt8) : Nat := acc * 10 + (c.toNat - 48)
theorem stp_eq (acc : Nat) (c : UInt8) : stp acc c = acc * 10 + (c.toNat - 48) := by unfold stp; rfl
def val (acc : Nat) (l : List UInt8) : Nat := l.foldl stp acc
theorem val_cons (acc : Nat) (c : UInt8) (r : List UInt8) : val acc (c :: r) = val (stp acc c) r := rfl
theorem val_nil (acc : Nat) : val acc [] = acc := rfl
theorem val_ge (l : List UInt8) : ∀ (acc : Nat), acc ≤ val acc l := by
 induction l with
 | nil => intro acc; exact Nat.le_refl _
 | cons c r ih =>
  intro acc
  rw [val_cons]
  exact Nat.le_trans (by rw [stp_eq]; omega) (ih _)
theorem val_append (l : List UInt8) (acc : Nat) (c : UInt8) : val acc (l ++ [c]) = val acc l * 10 + (c.toNat - 48) := by
 unfold val
 rw [List.foldl_append]
 exact stp_eq _ _
theorem parse_nil (M acc : Nat) : parseUintM M acc [] = .ok acc := by rw [parseUintM]
theorem parse_step (M acc : Nat) (c : UInt8) (r : List UInt8) (hc : 48 ≤ c.toNat ∧ c.toNat ≤ 57) (h0 : ¬ 1844674407370955162 ≤ acc) (h1 : ¬ M < stp acc c) :
  parseUintM M acc (c :: r) = parseUintM M (stp acc c) r := by
 rw [stp_eq] at h1 ⊢
 rw [parseUintM, if_pos hc, if_neg h0, if_neg h1]
def Small (M : Nat) : Prop := M < 18446744073709551616
theorem small_of {M acc : Nat} {c : UInt8} (hM : Small M) (h : stp acc c ≤ M) : ¬ 1844674407370955162 ≤ acc := by rw [stp_eq] at h; unfold Small at hM; omega
theorem parse_ok (M : Nat) (hM : Small M) (l : List UInt8) : ∀ (acc : Nat), l.all dig = true → val acc l ≤ M → parseUintM M acc l = .ok (val acc l) := by
 induction l with
 | nil => intro acc ha hv; exact parse_nil M acc
 | cons c r ih =>
  intro acc hd hv
  simp only [List.all_cons, Bool.and_eq_true, dig, decide_eq_true_eq] at hd
  obtain ⟨hc, hr⟩ := hd
  rw [val_cons] at hv ⊢
  have h2 : stp acc c ≤ M := Nat.le_trans (val_ge r _) hv
  rw [parse_step M acc c r hc (small_of hM h2) (Nat.not_lt.2 h2)]
  exact ih _ hr hv
theorem parse_all (M : Nat) (l : List UInt8) : ∀ (acc : Nat), l.all dig = true → parseUintM M acc l = .ok (val acc l) ∨ parseUintM M acc l = .range := by
 induction l with
 | nil => intro acc _; exact .inl (parse_nil M acc)
 | cons c r ih =>
  intro acc hd
  simp only [List.all_cons, Bool.and_eq_true, dig, decide_eq_true_eq] at hd
  by_cases h0 : 1844674407370955162 ≤ acc
  ·
   right; rw [parseUintM, if_pos hd.1, if_pos h0]
  ·
   by_cases h1 : M < stp acc c
   ·
    right; rw [stp_eq] at h1; rw [parseUintM, if_pos hd.1, if_neg h0, if_pos h1]
   ·
    rw [parse_step M acc c r hd.1 h0 h1, val_cons]
    exact ih _ hd.2
theorem toNat_ofNat_dig {k : Nat} (h : k < 10) : (UInt8.ofNat (48 + k)).toNat = 48 + k := by
 rw [UInt8.toNat_ofNat']; omega
theorem dec_small {u : Nat} (h : u < 10) : decDigits u = [UInt8.ofNat (48 + u)] := decDigits_one h
theorem dec_step {u : Nat} (h : ¬ u < 10) : decDigits u = decDigits (u / 10) ++ [UInt8.ofNat (48 + u % 10)] := by
 rw [decDigits, dif_neg h]
theorem dec_all : ∀ (n u : Nat), u ≤ n → (decDigits u).all dig = true ∧ decDigits u ≠ [] ∧ val 0 (decDigits u) = u ∧ (10 ≤ u → ∃ c r, decDigits u = c :: r ∧ 49 ≤ c.toNat) := by
 intro n
 induction n with
 | zero =>
  intro u hu
  have : u = 0 := by omega
  subst this
  rw [dec_small (by omega)]
  exact ⟨by decide, by simp, by rw [val_cons, val_nil, stp_eq]; decide, by omega⟩
 | succ n ih =>
  intro u hu
  by_cases h : u < 10
  ·
   rw [dec_small h]
   have e := toNat_ofNat_dig h
   refine ⟨by simp only [List.all_cons, List.all_nil, dig, e, Bool.and_true, decide_eq_true_eq]; omega, by simp, by rw [val_cons, val_nil, stp_eq, e]; omega, by omega⟩
  ·
   obtain ⟨a, b, c, d⟩ := ih (u / 10) (by omega)
   have e := toNat_ofNat_dig (k := u % 10) (by omega)
   rw [dec_step h]
   refine ⟨by rw [List.all_append, a]; simp only [List.all_cons, List.all_nil, dig, e, Bool.and_true, Bool.true_and, decide_eq_true_eq]; omega, by simp, by rw [val_append, c, e]; omega, fun _ => ?_⟩
   by_cases h2 : u / 10 < 10
   ·
    rw [dec_small h2]
    have e2 := toNat_ofNat_dig h2
    exact ⟨_, _, rfl, by rw [e2]; omega⟩
   ·
    obtain ⟨x, r, hx, hc⟩ := d (by omega)
    rw [hx]
    exact ⟨x, _, rfl, hc⟩
def numT (b : Bool) (l : List UInt8) : Bool :=
 match l with
 | [] => false
 | c :: r => !(c == 48 && (b || !r.isEmpty)) && (c :: r).all dig
theorem dec_of_val (l : List UInt8) : l.all dig = true → l ≠ [] → (∀ c r, l = c :: r → r ≠ [] → c ≠ 48) → decDigits (val 0 l) = l := by
 induction h : l.length generalizing l with
 | zero => intro _ hn; exact absurd (List.eq_nil_of_length_eq_zero h) hn
 | succ k ih =>
  intro ha hn hz
  obtain ⟨q, c, rfl⟩ : ∃ q c, l = q ++ [c] := ⟨l.dropLast, l.getLast hn, (List.dropLast_concat_getLast hn).symm⟩
  rw [List.all_append] at ha
  simp only [Bool.and_eq_true, List.all_cons, List.all_nil, Bool.and_true, dig, decide_eq_true_eq] at ha
  have hc : UInt8.ofNat (48 + (c.toNat - 48)) = c := by
   apply UInt8.toNat_inj.1; rw [UInt8.toNat_ofNat']; omega
  by_cases hq : q = []
  ·
   subst hq
   rw [List.nil_append, val_cons, val_nil, stp_eq, dec_small (by omega), Nat.zero_mul, Nat.zero_add, hc]
  ·
   have hlen : q.length = k := by simp at h; exact h
   have hr := ih q hlen ha.1 hq (fun x r e hr => hz x (r ++ [c]) (by rw [e]; rfl) (by simp))
   rw [val_append]
   -- the first digit is no nought: so the number of what is ahead is not 0
   have hpos : 1 ≤ val 0 q := by
    obtain ⟨x, r, rfl⟩ : ∃ x r, q = x :: r := by cases q with
     | nil => exact absurd rfl hq
     | cons x r => exact ⟨x, r, rfl⟩
    have hx := hz x (r ++ [c]) rfl (by simp)
    have hd : 48 ≤ x.toNat ∧ x.toNat ≤ 57 := by
     have := ha.1; simp only [List.all_cons, Bool.and_eq_true, dig, decide_eq_true_eq] at this; exact this.1
    have hx' : x.toNat ≠ 48 := fun e => hx (UInt8.toNat_inj.1 (by rw [e]; rfl))
    have hs : 1 ≤ stp 0 x := by rw [stp_eq]; omega
    rw [val_cons]; exact Nat.le_trans hs (val_ge r _)
   rw [dec_step (by omega)]
   have e1 : (val 0 q * 10 + (c.toNat - 48)) / 10 = val 0 q := by omega
   have e2 : (val 0 q * 10 + (c.toNat - 48)) % 10 = c.toNat - 48 := by omega
   rw [e1, e2, hr, hc]
def isT (l : List UInt8) : Bool := numT (hasPrefix l [45]) (trimPrefix l [45])
theorem hp_cons (c : UInt8) (r : List UInt8) : hasPrefix (c :: r) [45] = (c == 45) := by
 unfold hasPrefix
 rw [List.isPrefixOf, List.isPrefixOf, Bool.and_true]
 by_cases h : c = 45
 ·
  subst h; rfl
 ·
  rw [show (c == 45) = false by simpa using h, beq_eq_false_iff_ne]
  exact fun e => h e.symm
theorem tp_minus (r : List UInt8) : trimPrefix (45 :: r) [45] = r := by simp [trimPrefix, hasPrefix, List.isPrefixOf]
theorem tp_other (c : UInt8) (r : List UInt8) (h : c ≠ 45) : trimPrefix (c :: r) [45] = c :: r := by
 unfold trimPrefix; rw [hp_cons]; simp [h]
theorem numT_dec (u : Nat) : numT false (decDigits u) = true := by
 obtain ⟨a, b, c, d⟩ := dec_all u u (Nat.le_refl _)
 by_cases h : u < 10
 ·
  rw [dec_small h] at a ⊢
  simp only [numT, a]; simp
 ·
  obtain ⟨x, r, hx, hc⟩ := d (by omega)
  rw [hx] at a ⊢
  have : (x == 48) = false := by
   rw [beq_eq_false_iff_ne]; intro e; rw [e] at hc; exact absurd hc (by decide)
  simp only [numT, a, this]; simp
theorem numT_dec_neg (u : Nat) (h1 : 1 ≤ u) : numT true (decDigits u) = true := by
 obtain ⟨a, b, c, d⟩ := dec_all u u (Nat.le_refl _)
 by_cases h : u < 10
 ·
  rw [dec_small h] at a ⊢
  have e := toNat_ofNat_dig h
  have : (UInt8.ofNat (48 + u) == 48) = false := by
   rw [beq_eq_false_iff_ne]; intro e2; rw [e2] at e; have : (48 : UInt8).toNat = 48 := rfl; omega
  simp only [numT, a, this]; simp
 ·
  obtain ⟨x, r, hx, hc⟩ := d (by omega)
  rw [hx] at a ⊢
  have : (x == 48) = false := by
   rw [beq_eq_false_iff_ne]; intro e; rw [e] at hc; exact absurd hc (by decide)
  simp only [numT, a, this]; simp
theorem dec_head (u : Nat) : ∃ c r, decDigits u = c :: r ∧ dig c = true := by
 obtain ⟨a, b, _, _⟩ := dec_all u u (Nat.le_refl _)
 cases h : decDigits u with
 | nil => exact absurd h b
 | cons c r => rw [h] at a; simp only [List.all_cons, Bool.and_eq_true] at a; exact ⟨c, r, rfl, a.1⟩
theorem dig_ne {c : UInt8} (h : dig c = true) : c ≠ 45 ∧ c ≠ 43 := by
 simp only [dig, decide_eq_true_eq] at h
 constructor <;> (intro e; rw [e] at h; exact absurd h (by decide))
theorem isT_itoa (n : Int) : isT (itoa n) = true := by
 unfold isT itoa
 by_cases h : n < 0
 ·
  rw [if_pos h, hp_cons, tp_minus]
  exact numT_dec_neg _ (by omega)
 ·
  rw [if_neg h]
  obtain ⟨c, r, e, hd⟩ := dec_head n.toNat
  have hne := (dig_ne hd).1
  rw [e, hp_cons, tp_other c r hne, show (c == 45) = false by simpa using hne, ← e]
  exact numT_dec _
theorem parse_dec (u : Nat) (h : u < 18446744073709551616) : parseUintB 64 (decDigits u) = .ok u := by
 obtain ⟨a, b, c, _⟩ := dec_all u u (Nat.le_refl _)
 unfold parseUintB
 rw [if_neg b]
 have := parse_ok (2 ^ 64 - 1) (by unfold Small; decide) (decDigits u) 0 a (by rw [c]; omega)
 rw [this, c]
theorem parse_itoa (n : Int) (h0 : -9223372036854775808 ≤ n) (h1 : n ≤ 9223372036854775807) : parseIntB 64 (itoa n) = .ok n := by
 unfold itoa
 by_cases h : n < 0
 ·
  rw [if_pos h]
  unfold parseIntB
  have e := parse_dec n.natAbs (by omega)
  simp only [show (45 : UInt8).toNat = 45 from rfl, or_true, if_true, e]
  rw [if_neg (by simp), if_neg (by simp; omega)]
  simp; omega
 ·
  rw [if_neg h]
  obtain ⟨c, r, e, hd⟩ := dec_head n.toNat
  have e2 := parse_dec n.toNat (by omega)
  rw [e] at e2 ⊢
  simp only [dig, decide_eq_true_eq] at hd
  unfold parseIntB
  have n43 : ¬ (c.toNat = 43 ∨ c.toNat = 45) := by omega
  have n45 : ¬ c.toNat = 45 := by omega
  simp only [if_neg n43, e2]
  simp only [n45, not_false_eq_true, true_and, false_and, if_false]
  have hlt : ¬ 2 ^ (64 - 1) ≤ n.toNat := by
   have : (2 : Nat) ^ (64 - 1) = 9223372036854775808 := by decide
   rw [this]; omega
  rw [if_neg hlt]
  congr 1
  exact Int.toNat_of_nonneg (by omega)
end Go.Proofs.YtpggfhmnhbnefaaGreatDoor.Num
set_option linter.unusedVariables false
set_option linter.unusedSimpArgs false
namespace Go.Proofs.YtpggfhmnhbnefaaGreatDoor
open Go.RowKit
theorem cutPrefix (s p : ByteArray) (w : World) :
  Calls Tryz.prog 140 #[.string s, .string p] w fun e w' => e = .returned (.tuple #[.string ⟨(Lib.trimPrefix s.data.toList p.data.toList).toArray⟩, .bool (Lib.hasPrefix s.data.toList p.data.toList)]) ∧ w = w' :=
 (Any.strings_CutPrefix Tryz.lays103 s p w).mono fun _ _ ⟨h, e⟩ => ⟨h, e.symm⟩
set_option maxHeartbeats 400000 in
theorem text_any (n : Int) (w : World) (h0 : -9223372036854775808 ≤ n) (h1 : n ≤ 9223372036854775807) (htab : Lib.TabIs Tryz.prog w "internal/strconv.uint64pow10" .u64 Lib.pow10Tab) :
  Calls Tryz.prog 99 #[.int .i64 n] w fun e w' => e = .returned (.string ⟨(Lib.itoa n).toArray⟩) ∧ Below w.heap.size w w' := by
 have HT := Lib.hid htab; clear htab
 go_enter Tryz.func99, Tryz.ntmps99
 go_wp2_with fail
 refine (Tryz.formatInt n h0 h1 _ HT.out).mono ?_; rintro e w1 ⟨rfl, b1⟩
 go_wp2_with fail
 go_ret
 exact ⟨rfl, b1⟩
theorem dlen (ds : ByteArray) : ds.data.toList.length = ds.size := Array.length_toList
theorem dget {ds : ByteArray} {k : Nat} (h : k < ds.size) : ds.data.toList[k]'(by rw [dlen]; exact h) = ds[k] := rfl
theorem dhead {ds : ByteArray} (h : 0 < ds.size) : ∃ r, ds.data.toList = ds[0] :: r ∧ (r = [] ↔ ds.size = 1) := by
 have hl := dlen ds
 cases hd : ds.data.toList with
 | nil => rw [hd] at hl; simp at hl; omega
 | cons c r =>
  have e : ds[0] = c := by rw [← dget h]; simp [hd]
  refine ⟨r, by rw [e], ?_⟩
  rw [hd] at hl
  simp at hl
  rw [← List.length_eq_zero_iff]; omega
theorem not_all {ds : ByteArray} {k : Nat} (h : k < ds.size) (hd : ¬ (48 ≤ ds[k].toNat ∧ ds[k].toNat ≤ 57)) : ds.data.toList.all Num.dig = false := by
 rw [Bool.eq_false_iff]
 intro ha
 have := List.all_eq_true.1 ha ds[k] (by rw [← dget h]; exact List.getElem_mem _)
 simp only [Num.dig, decide_eq_true_eq] at this
 exact hd this
theorem take_all {ds : ByteArray} {k : Nat} (h : k < ds.size) (ha : (ds.data.toList.take k).all Num.dig = true) (hd : 48 ≤ ds[k].toNat ∧ ds[k].toNat ≤ 57) : (ds.data.toList.take (k + 1)).all Num.dig = true := by
 rw [List.take_succ_eq_append_getElem (by rw [dlen]; exact h), List.all_append, ha, dget h]
 simp [Num.dig, hd]
theorem front {ds : ByteArray} {b : Bool} (h : 0 < ds.size) (hf : ds[0].toNat = 48 → b = false ∧ ds.size = 1) : Num.numT b ds.data.toList = ds.data.toList.all Num.dig := by
 obtain ⟨r, e, hr⟩ := dhead h
 rw [e]
 unfold Num.numT
 by_cases h48 : ds[0].toNat = 48
 ·
  obtain ⟨hb, h1⟩ := hf h48
  rw [hb, hr.2 h1]; simp
 ·
  have : (ds[0] == 48) = false := by rw [beq_eq_false_iff_ne]; intro e2; rw [e2] at h48; exact h48 rfl
  show (!(ds[0] == 48 && (b || !r.isEmpty)) && (ds[0] :: r).all Num.dig) = _
  rw [this]; simp
theorem front_no {ds : ByteArray} {b : Bool} (h : 0 < ds.size) (h48 : ds[0].toNat = 48) (hf : b = true ∨ 1 < ds.size) : Num.numT b ds.data.toList = false := by
 obtain ⟨r, e, hr⟩ := dhead h
 rw [e]
 unfold Num.numT
 have : (ds[0] == 48) = true := by rw [beq_iff_eq]; exact UInt8.toNat_inj.1 h48
 show (!(ds[0] == 48 && (b || !r.isEmpty)) && (ds[0] :: r).all Num.dig) = _
 rw [this]
 rcases hf with hb | hz
 ·
  rw [hb]; simp
 ·
  have : r ≠ [] := fun e2 => by have := hr.1 e2; omega
  have : r.isEmpty = false := by simpa using this
  rw [this]; simp
theorem var_keep {P : Program} {W W' : World} {n : String} {cs : Array Value} (h : Below W.heap.size W W') (hv : W.var? P n = some cs) : W'.var? P n = some cs := by
 unfold World.var? at hv ⊢
 cases hg : P.globalNamed n with
 | none => rw [hg] at hv; simp at hv
 | some g =>
  rw [hg] at hv
  simp only [Option.bind_some] at hv ⊢
  have hgB : g < W.heap.size := by
   by_cases hh : g < W.heap.size
   ·
    exact hh
   ·
    exfalso
    have e : W.heap[g]? = none := by simp; omega
    rw [e] at hv; simp at hv
  rw [h.block g hgB]
  exact hv
theorem ab_dig (c : UInt8) : Num.dig c = (decide (48 ≤ (c.toNat : Int)) && decide ((c.toNat : Int) ≤ 57)) := by
 unfold Num.dig
 by_cases h1 : 48 ≤ c.toNat <;> by_cases h2 : c.toNat ≤ 57 <;> simp [h1, h2] <;> omega
theorem ab_trim (l p : List UInt8) : (Lib.trimPrefix l p).length ≤ l.length := by
 unfold Lib.trimPrefix
 split
 ·
  rw [List.length_drop]; omega
 ·
  omega
theorem ab_val_lt : ∀ (l : List UInt8) (a : Nat), l.all Num.dig = true → Num.val a l < (a + 1) * 10 ^ l.length := by
 intro l
 induction l with
 | nil => intro a _; rw [Num.val_nil]; simp
 | cons c r ih =>
  intro a h
  simp only [List.all_cons, Bool.and_eq_true] at h
  have hc : 48 ≤ c.toNat ∧ c.toNat ≤ 57 := by have := h.1; unfold Num.dig at this; exact of_decide_eq_true this
  have := ih (Num.stp a c) h.2
  rw [Num.val_cons, List.length_cons, Nat.pow_succ]
  have h1 : Num.stp a c + 1 ≤ (a + 1) * 10 := by rw [Num.stp_eq]; omega
  have h2 := Nat.mul_le_mul_right (10 ^ r.length) h1
  calc Num.val (Num.stp a c) r < (Num.stp a c + 1) * 10 ^ r.length := this
   _ ≤ (a + 1) * 10 * 10 ^ r.length := h2
   _ = (a + 1) * (10 ^ r.length * 10) := by rw [Nat.mul_assoc, Nat.mul_comm 10]
theorem ab_val_bd {l : List UInt8} {k : Nat} (hd : l.all Num.dig = true) (hl : l.length ≤ k) : Num.val 0 l < 10 ^ k := by
 have := ab_val_lt l 0 hd
 have h2 := Nat.pow_le_pow_right (n := 10) (by omega) hl
 omega
end Go.Proofs.YtpggfhmnhbnefaaGreatDoor
set_option linter.unusedVariables false
namespace Go.Proofs.YtpggfhmnhbnefaaGreatDoor.Num
open Go Go.Lib
theorem itoa_ne (n : Int) : itoa n ≠ [] := by
 unfold itoa
 split
 ·
  simp
 ·
  exact (dec_all n.toNat n.toNat (Nat.le_refl _)).2.1
theorem numT_yes {b : Bool} {d : List UInt8} (h : numT b d = true) : d ≠ [] ∧ d.all dig = true ∧ (∀ c r, d = c :: r → r ≠ [] → c ≠ 48) ∧ (b = true → ∀ c r, d = c :: r → c ≠ 48) := by
 cases d with
 | nil => have h2 : false = true := h; cases h2
 | cons c r =>
  have h' : (!(c == 48 && (b || !r.isEmpty)) && (c :: r).all dig) = true := h
  rw [Bool.and_eq_true] at h'
  obtain ⟨h1, h2⟩ := h'
  refine ⟨by simp, h2, ?_, ?_⟩
  ·
   intro c' r' e hr hc
   injection e with e1 e2
   subst e1 e2
   rw [hc] at h1
   have : r.isEmpty = false := by simpa using hr
   rw [this] at h1; simp at h1
  ·
   intro hb c' r' e hc
   injection e with e1 e2
   subst e1 e2
   rw [hc, hb] at h1; simp at h1
theorem parseU (d : List UInt8) (h : d ≠ []) (ha : d.all dig = true) : parseUintB 64 d = .ok (val 0 d) ∨ parseUintB 64 d = .range := by
 unfold parseUintB
 rw [if_neg h]
 exact parse_all _ d 0 ha
theorem val_pos {d : List UInt8} (h : d ≠ []) (ha : d.all dig = true) (hz : ∀ c r, d = c :: r → c ≠ 48) : 1 ≤ val 0 d := by
 cases d with
 | nil => exact absurd rfl h
 | cons c r =>
  have hc := hz c r rfl
  have hd : 48 ≤ c.toNat ∧ c.toNat ≤ 57 := by
   simp only [List.all_cons, Bool.and_eq_true, dig, decide_eq_true_eq] at ha; exact ha.1
  have hc' : c.toNat ≠ 48 := fun e => hc (UInt8.toNat_inj.1 (by rw [e]; rfl))
  have hs : 1 ≤ stp 0 c := by rw [stp_eq]; omega
  rw [val_cons]; exact Nat.le_trans hs (val_ge r _)
theorem isT_read {l : List UInt8} (h : isT l = true) : parseIntB 64 l = .range ∨ ∃ x, parseIntB 64 l = .ok x ∧ itoa x = l ∧ -9223372036854775808 ≤ x ∧ x ≤ 9223372036854775807 := by
 cases l with
 | nil => exact absurd h (by decide)
 | cons c d =>
  by_cases hc : c = 45
  ·
   subst hc
   unfold isT at h
   rw [hp_cons, tp_minus] at h
   obtain ⟨a, b, e, f⟩ := numT_yes h
   have f := f rfl
   have hp := val_pos a b f
   have hv := dec_of_val d b a e
   unfold parseIntB
   simp only [show (45 : UInt8).toNat = 45 from rfl, or_true, if_true]
   rcases parseU d a b with hu | hu
   ·
    rw [hu]
    simp only [not_true_eq_false, false_and, if_false, true_and]
    by_cases hb : 2 ^ (64 - 1) < val 0 d
    ·
     left; rw [if_pos hb]
    ·
     right
     rw [if_neg hb]
     have hb2 : val 0 d ≤ 9223372036854775808 := by
      have : (2 : Nat) ^ (64 - 1) = 9223372036854775808 := by decide
      omega
     refine ⟨_, rfl, ?_, by omega, by omega⟩
     unfold itoa
     rw [if_pos (by omega), Int.natAbs_neg, Int.natAbs_natCast, hv]
   ·
    left; rw [hu]
  ·
   unfold isT at h
   rw [hp_cons, tp_other c d hc] at h
   obtain ⟨a, b, e, _⟩ := numT_yes h
   have hv := dec_of_val (c :: d) b a e
   have hd : 48 ≤ c.toNat ∧ c.toNat ≤ 57 := by
    simp only [List.all_cons, Bool.and_eq_true, dig, decide_eq_true_eq] at b; exact b.1
   have n43 : ¬ (c.toNat = 43 ∨ c.toNat = 45) := by omega
   have n45 : ¬ c.toNat = 45 := by omega
   unfold parseIntB
   simp only [if_neg n43]
   rcases parseU (c :: d) a b with hu | hu
   ·
    rw [hu]
    simp only [n45, not_false_eq_true, true_and, false_and, if_false]
    by_cases hb : 2 ^ (64 - 1) ≤ val 0 (c :: d)
    ·
     left; rw [if_pos hb]
    ·
     right
     rw [if_neg hb]
     have hb2 : val 0 (c :: d) < 9223372036854775808 := by
      have : (2 : Nat) ^ (64 - 1) = 9223372036854775808 := by decide
      omega
     refine ⟨_, rfl, ?_, by omega, by omega⟩
     unfold itoa
     rw [if_neg (by omega), Int.toNat_natCast, hv]
   ·
    left; rw [hu]
end Go.Proofs.YtpggfhmnhbnefaaGreatDoor.Num
set_option linter.unusedVariables false
set_option linter.unusedSimpArgs false
namespace Go.Proofs.YtpggfhmnhbnefaaGreatDoor.Tx
open Go Go.Lib
def dg (k : Nat) (n : Int) : List UInt8 := List.replicate (k - (itoa n).length) 48 ++ itoa n
def yr (y : Int) : List UInt8 := if y < 0 then 45 :: dg 4 (-y) else dg 4 y
end Go.Proofs.YtpggfhmnhbnefaaGreatDoor.Tx
set_option linter.unusedVariables false
set_option linter.unusedSimpArgs false
namespace Go.Proofs.YtpggfhmnhbnefaaGreatDoor
open Go Go.Lib
namespace Num
theorem val_zeros (l : List UInt8) : ∀ k, val 0 (List.replicate k 48 ++ l) = val 0 l := by
 intro k
 induction k with
 | zero => rfl
 | succ k ih =>
  rw [List.replicate_succ, List.cons_append, val_cons, show stp 0 48 = 0 by rw [stp_eq]; rfl]
  exact ih
theorem itoa_nat (n : Int) (h : 0 ≤ n) : itoa n = decDigits n.toNat := by unfold itoa; rw [if_neg (by omega)]
end Num
namespace Tx
theorem dg_back : ∀ (k : Nat) (l : List UInt8), l.length = k + 1 → l.all Num.dig = true → dg (k + 1) (Num.val 0 l) = l := by
 intro k
 induction k with
 | zero =>
  intro l hl hd
  have e := Num.dec_of_val l hd (by intro h; subst h; cases hl) (by intro c r e hr; subst e; simp at hl; exact absurd hl hr)
  unfold dg
  rw [Num.itoa_nat _ (by omega), Int.toNat_natCast, e, hl]; rfl
 | succ k ih =>
  intro l hl hd
  cases l with
  | nil => cases hl
  | cons c r =>
   have hr : r.length = k + 1 := by simpa using hl
   by_cases hc : c = 48
   ·
    subst hc
    have hv : Num.val 0 (48 :: r) = Num.val 0 r := Num.val_zeros r 1
    have hdr : r.all Num.dig = true := by simp only [List.all_cons, Bool.and_eq_true] at hd; exact hd.2
    have h := ih r hr hdr
    rw [hv]
    have hlen : (itoa (Num.val 0 r : Int)).length ≤ k + 1 := by
     have := congrArg List.length h
     unfold dg at this
     rw [hr] at this; simp at this; omega
    unfold dg at h ⊢
    rw [show k + 1 + 1 - (itoa (Num.val 0 r : Int)).length = (k + 1 - (itoa (Num.val 0 r : Int)).length) + 1 by omega, List.replicate_succ, List.cons_append, h]
   ·
    have e := Num.dec_of_val (c :: r) hd (by simp) (by intro c' r' e _; injection e with e1 _; subst e1; exact hc)
    unfold dg
    rw [Num.itoa_nat _ (by omega), Int.toNat_natCast, e, hl]
    simp
theorem dg_back' (k : Nat) (l : List UInt8) (hl : k < l.length) (hd : l.all Num.dig = true) (hh : l.head? ≠ some 48) : dg k (Num.val 0 l) = l := by
 have e := Num.dec_of_val l hd (by intro h; subst h; cases hl) (by intro c r e _; subst e; intro h; exact hh (by rw [h]; rfl))
 unfold dg
 rw [Num.itoa_nat _ (by omega), Int.toNat_natCast, e, show k - l.length = 0 by omega]; rfl
theorem dg4 {l : List UInt8} (hd : l.all Num.dig = true) (hl : 4 ≤ l.length) (hh : 4 < l.length → l.head? ≠ some 48) : dg 4 (Num.val 0 l) = l := by
 by_cases h : l.length = 4
 ·
  exact dg_back 3 l h hd
 ·
  exact dg_back' 4 l (by omega) hd (hh (by omega))
end Tx
namespace Rd
def isY (l : List UInt8) : Bool :=
 !(decide ((trimPrefix l [45]).length < 4)) && (!(decide (4 < (trimPrefix l [45]).length) && ((trimPrefix l [45]).head? == some 48)) && ((trimPrefix l [45]).all Num.dig && !(hasPrefix l [45] && ((trimPrefix l [45]) == [48, 48, 48, 48]))))
def yv (l : List UInt8) : Int := if hasPrefix l [45] then -(Num.val 0 (trimPrefix l [45]) : Int) else (Num.val 0 (trimPrefix l [45]) : Int)
def sg : List UInt8 := [45, 45, 84, 58, 58]
def pOk (l : List UInt8) (k : Nat) : Bool := decide (l.getD (3 * k) 0 = sg.getD k 0) && (((l.drop (3 * k + 1)).take 2).all Num.dig)
def bOk (l : List UInt8) : Bool := pOk l 0 && (pOk l 1 && (pOk l 2 && (pOk l 3 && pOk l 4)))
def hd (t : List UInt8) : List UInt8 := t.take (t.length - 15)
def tl (t : List UInt8) : List UInt8 := t.drop (t.length - 15)
def form (t : List UInt8) : Bool := decide (15 ≤ t.length) && (isY (hd t) && bOk (tl t))
theorem isY_iff {l : List UInt8} : isY l = true ↔ 4 ≤ (trimPrefix l [45]).length ∧ (4 < (trimPrefix l [45]).length → (trimPrefix l [45]).head? ≠ some 48) ∧ (trimPrefix l [45]).all Num.dig = true ∧ (hasPrefix l [45] = true → trimPrefix l [45] ≠ [48, 48, 48, 48]) := by
 unfold isY
 simp only [Bool.and_eq_true, Bool.not_eq_true', decide_eq_false_iff_not, Bool.and_eq_false_iff, beq_eq_false_iff_ne]
 constructor
 ·
  rintro ⟨a, b, c, d⟩
  refine ⟨by omega, fun h => ?_, c, fun h => ?_⟩
  ·
   rcases b with b | b
   ·
    exact absurd h b
   ·
    exact b
  ·
   rcases d with d | d
   ·
    rw [h] at d; cases d
   ·
    exact d
 ·
  rintro ⟨a, b, c, d⟩
  refine ⟨by omega, ?_, c, ?_⟩
  ·
   by_cases h : 4 < (trimPrefix l [45]).length
   ·
    exact .inr (b h)
   ·
    exact .inl h
  ·
   cases h : hasPrefix l [45]
   ·
    exact .inl rfl
   ·
    exact .inr (d h)
theorem hp_split {l : List UInt8} (h : hasPrefix l [45] = true) : l = 45 :: trimPrefix l [45] := by
 cases l with
 | nil => cases h
 | cons c r =>
  rw [Num.hp_cons] at h
  have : c = 45 := by simpa using h
  subst this
  rw [Num.tp_minus]
theorem hp_none {l : List UInt8} (h : hasPrefix l [45] = false) : trimPrefix l [45] = l := by
 cases l with
 | nil => rfl
 | cons c r =>
  rw [Num.hp_cons] at h
  exact Num.tp_other c r (by simpa using h)
theorem val_zero {l : List UInt8} (hd : l.all Num.dig = true) (h : Num.val 0 l = 0) : ∀ c ∈ l, c = 48 := by
 induction l with
 | nil => intro c hc; cases hc
 | cons x r ih =>
  simp only [List.all_cons, Bool.and_eq_true] at hd
  rw [Num.val_cons] at h
  have hx : Num.stp 0 x = 0 := by have := Num.val_ge r (Num.stp 0 x); omega
  have hxd : 48 ≤ x.toNat ∧ x.toNat ≤ 57 := by have := hd.1; unfold Num.dig at this; exact of_decide_eq_true this
  have : x = 48 := by
   rw [Num.stp_eq] at hx
   exact UInt8.toNat_inj.1 (by show x.toNat = 48; omega)
  subst this
  intro c hc
  rcases List.mem_cons.1 hc with rfl | hc
  ·
   rfl
  ·
   rw [hx] at h; exact ih hd.2 h c hc
theorem yr_back {l : List UInt8} (h : isY l = true) : Tx.yr (yv l) = l := by
 obtain ⟨a, b, c, d⟩ := isY_iff.1 h
 have e := Tx.dg4 c a b
 cases hp : hasPrefix l [45]
 ·
  rw [hp_none hp] at a b c d e
  unfold Tx.yr yv
  rw [hp, hp_none hp]
  simp only [Bool.false_eq_true, if_false]
  rw [if_neg (by omega), e]
 ·
  have hpos : Num.val 0 (trimPrefix l [45]) ≠ 0 := by
   intro h0
   have hz := val_zero c h0
   by_cases h4 : 4 < (trimPrefix l [45]).length
   ·
    refine b h4 ?_
    cases ht : trimPrefix l [45] with
    | nil => rw [ht] at h4; cases h4
    | cons x r => rw [hz x (by rw [ht]; exact List.mem_cons_self ..)]; rfl
   ·
    refine d hp ?_
    have : trimPrefix l [45] = List.replicate 4 48 := List.eq_replicate_iff.2 ⟨by omega, hz⟩
    exact this
  unfold Tx.yr yv
  rw [hp]
  simp only [if_true]
  rw [if_pos (by omega), Int.neg_neg, e]
  exact (hp_split hp).symm
end Rd
end Go.Proofs.YtpggfhmnhbnefaaGreatDoor
