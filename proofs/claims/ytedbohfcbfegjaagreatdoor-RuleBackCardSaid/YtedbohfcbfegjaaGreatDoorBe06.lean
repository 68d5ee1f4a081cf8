/- Joined: Shelf, NumM, NumA, Byt, AmA. -/
import Derived.Shelf.Strconv.Itoa4
import Derived.Shelf.Small.Wraps
import Derived.Lib.AppendIntMem
import Derived.Lib.AtoiErrMem
import Derived.Test.YtedbohfcbfegjaaGreatDoorProg
import Derived.Test.YtedbohfcbfegjaaGreatDoorLaid
import Derived.Lib.ItoaNum
import Derived.Lib.ParseIntB
import Derived.Lib.Strings
import Derived.Test.YtedbohfcbfegjaaGreatDoorBe01
import Derived.Test.YtedbohfcbfegjaaGreatDoorBe02
import Derived.Lib.OthersKept
import Derived.Laws.RangeAny
/- The library's contract of FormatInt at base 10, laid at this translation. -/
set_option linter.unusedVariables false
namespace Go.Proofs
open Go.Shelf

theorem Tryz.formatInt (n : Int) (h0 : -9223372036854775808 ≤ n) (h1 : n ≤ 9223372036854775807) (w : World) (htab : Lib.TabIs Tryz.prog w "internal/strconv.uint64pow10" .u64 Lib.pow10Tab) :
    Calls Tryz.prog 149 #[.int .i64 n, .int .i64 10] w fun e w' => e = .returned (.string ⟨(Lib.itoa n).toArray⟩) ∧ RowKit.Below w.heap.size w w' :=
  (Any.strconv_FormatInt_10 Tryz.laysM173 n h0 h1 w htab).mono fun _ _ ⟨h, k, os, e⟩ => ⟨h, by rw [e]; exact Lib.below_grow _ _ (Nat.le_refl _) _ _⟩
end Go.Proofs

/- Numbers' texts, in plain arithmetic: the digits of a number, and the number of digits. -/
set_option linter.unusedVariables false
namespace Go.Proofs.YtedbohfcbfegjaaGreatDoor.Num
open Go Go.Lib

def dig (c : UInt8) : Bool := decide (48 ≤ c.toNat ∧ c.toNat ≤ 57)
/-- One digit more. -/
@[irreducible] def stp (acc : Nat) (c : UInt8) : Nat := acc * 10 + (c.toNat - 48)
theorem stp_eq (acc : Nat) (c : UInt8) : stp acc c = acc * 10 + (c.toNat - 48) := by unfold stp; rfl
/-- The number of digits, behind acc. -/
def val (acc : Nat) (l : List UInt8) : Nat := l.foldl stp acc
theorem val_cons (acc : Nat) (c : UInt8) (r : List UInt8) : val acc (c :: r) = val (stp acc c) r := rfl
theorem val_nil (acc : Nat) : val acc [] = acc := rfl
theorem val_ge (l : List UInt8) : ∀ (acc : Nat), acc ≤ val acc l := by
  induction l with
  | nil => intro acc; exact Nat.le_refl _
  | cons c r ih =>
    intro acc
    rw [val_cons]
    exact Nat.le_trans (by rw [stp_eq]; omega) (ih _)
theorem val_append (l : List UInt8) (acc : Nat) (c : UInt8) : val acc (l ++ [c]) = val acc l * 10 + (c.toNat - 48) := by
  unfold val
  rw [List.foldl_append]
  exact stp_eq _ _
theorem parse_nil (M acc : Nat) : parseUintM M acc [] = .ok acc := by rw [parseUintM]
theorem parse_step (M acc : Nat) (c : UInt8) (r : List UInt8) (hc : 48 ≤ c.toNat ∧ c.toNat ≤ 57) (h0 : ¬ 1844674407370955162 ≤ acc) (h1 : ¬ M < stp acc c) :
    parseUintM M acc (c :: r) = parseUintM M (stp acc c) r := by
  rw [stp_eq] at h1 ⊢
  rw [parseUintM, if_pos hc, if_neg h0, if_neg h1]
/-- It fits 64 bits. -/
def Small (M : Nat) : Prop := M < 18446744073709551616
theorem small_of {M acc : Nat} {c : UInt8} (hM : Small M) (h : stp acc c ≤ M) : ¬ 1844674407370955162 ≤ acc := by rw [stp_eq] at h; unfold Small at hM; omega
theorem parse_ok (M : Nat) (hM : Small M) (l : List UInt8) : ∀ (acc : Nat), l.all dig = true → val acc l ≤ M → parseUintM M acc l = .ok (val acc l) := by
  induction l with
  | nil => intro acc ha hv; exact parse_nil M acc
  | cons c r ih =>
    intro acc hd hv
    simp only [List.all_cons, Bool.and_eq_true, dig, decide_eq_true_eq] at hd
    obtain ⟨hc, hr⟩ := hd
    rw [val_cons] at hv ⊢
    have h2 : stp acc c ≤ M := Nat.le_trans (val_ge r _) hv
    rw [parse_step M acc c r hc (small_of hM h2) (Nat.not_lt.2 h2)]
    exact ih _ hr hv
theorem parse_all (M : Nat) (l : List UInt8) : ∀ (acc : Nat), l.all dig = true → parseUintM M acc l = .ok (val acc l) ∨ parseUintM M acc l = .range := by
  induction l with
  | nil => intro acc _; exact .inl (parse_nil M acc)
  | cons c r ih =>
    intro acc hd
    simp only [List.all_cons, Bool.and_eq_true, dig, decide_eq_true_eq] at hd
    by_cases h0 : 1844674407370955162 ≤ acc
    · right; rw [parseUintM, if_pos hd.1, if_pos h0]
    · by_cases h1 : M < stp acc c
      · right; rw [stp_eq] at h1; rw [parseUintM, if_pos hd.1, if_neg h0, if_pos h1]
      · rw [parse_step M acc c r hd.1 h0 h1, val_cons]
        exact ih _ hd.2

theorem toNat_ofNat_dig {k : Nat} (h : k < 10) : (UInt8.ofNat (48 + k)).toNat = 48 + k := by
  rw [UInt8.toNat_ofNat']; omega
theorem dec_small {u : Nat} (h : u < 10) : decDigits u = [UInt8.ofNat (48 + u)] := decDigits_one h
theorem dec_step {u : Nat} (h : ¬ u < 10) : decDigits u = decDigits (u / 10) ++ [UInt8.ofNat (48 + u % 10)] := by
  rw [decDigits, dif_neg h]
theorem dec_all : ∀ (n u : Nat), u ≤ n → (decDigits u).all dig = true ∧ decDigits u ≠ [] ∧ val 0 (decDigits u) = u ∧ (10 ≤ u → ∃ c r, decDigits u = c :: r ∧ 49 ≤ c.toNat) := by
  intro n
  induction n with
  | zero =>
    intro u hu
    have : u = 0 := by omega
    subst this
    rw [dec_small (by omega)]
    exact ⟨by decide, by simp, by rw [val_cons, val_nil, stp_eq]; decide, by omega⟩
  | succ n ih =>
    intro u hu
    by_cases h : u < 10
    · rw [dec_small h]
      have e := toNat_ofNat_dig h
      refine ⟨by simp only [List.all_cons, List.all_nil, dig, e, Bool.and_true, decide_eq_true_eq]; omega, by simp, by rw [val_cons, val_nil, stp_eq, e]; omega, by omega⟩
    · obtain ⟨a, b, c, d⟩ := ih (u / 10) (by omega)
      have e := toNat_ofNat_dig (k := u % 10) (by omega)
      rw [dec_step h]
      refine ⟨by rw [List.all_append, a]; simp only [List.all_cons, List.all_nil, dig, e, Bool.and_true, Bool.true_and, decide_eq_true_eq]; omega, by simp, by rw [val_append, c, e]; omega, fun _ => ?_⟩
      by_cases h2 : u / 10 < 10
      · rw [dec_small h2]
        have e2 := toNat_ofNat_dig h2
        exact ⟨_, _, rfl, by rw [e2]; omega⟩
      · obtain ⟨x, r, hx, hc⟩ := d (by omega)
        rw [hx]
        exact ⟨x, _, rfl, hc⟩

/-- Digits alone, one at least, without a nought ahead of another one; behind a sign no nought at all. -/
def numT (b : Bool) (l : List UInt8) : Bool :=
  match l with
  | [] => false
  | c :: r => !(c == 48 && (b || !r.isEmpty)) && (c :: r).all dig

theorem dec_of_val (l : List UInt8) : l.all dig = true → l ≠ [] → (∀ c r, l = c :: r → r ≠ [] → c ≠ 48) → decDigits (val 0 l) = l := by
  induction h : l.length generalizing l with
  | zero => intro _ hn; exact absurd (List.eq_nil_of_length_eq_zero h) hn
  | succ k ih =>
    intro ha hn hz
    obtain ⟨q, c, rfl⟩ : ∃ q c, l = q ++ [c] := ⟨l.dropLast, l.getLast hn, (List.dropLast_concat_getLast hn).symm⟩
    rw [List.all_append] at ha
    simp only [Bool.and_eq_true, List.all_cons, List.all_nil, Bool.and_true, dig, decide_eq_true_eq] at ha
    have hc : UInt8.ofNat (48 + (c.toNat - 48)) = c := by
      apply UInt8.toNat_inj.1; rw [UInt8.toNat_ofNat']; omega
    by_cases hq : q = []
    · subst hq
      rw [List.nil_append, val_cons, val_nil, stp_eq, dec_small (by omega), Nat.zero_mul, Nat.zero_add, hc]
    · have hlen : q.length = k := by simp at h; exact h
      have hr := ih q hlen ha.1 hq (fun x r e hr => hz x (r ++ [c]) (by rw [e]; rfl) (by simp))
      rw [val_append]
      -- the first digit is no nought: so the number of what is ahead is not 0
      have hpos : 1 ≤ val 0 q := by
        obtain ⟨x, r, rfl⟩ : ∃ x r, q = x :: r := by cases q with
          | nil => exact absurd rfl hq
          | cons x r => exact ⟨x, r, rfl⟩
        have hx := hz x (r ++ [c]) rfl (by simp)
        have hd : 48 ≤ x.toNat ∧ x.toNat ≤ 57 := by
          have := ha.1; simp only [List.all_cons, Bool.and_eq_true, dig, decide_eq_true_eq] at this; exact this.1
        have hx' : x.toNat ≠ 48 := fun e => hx (UInt8.toNat_inj.1 (by rw [e]; rfl))
        have hs : 1 ≤ stp 0 x := by rw [stp_eq]; omega
        rw [val_cons]; exact Nat.le_trans hs (val_ge r _)
      rw [dec_step (by omega)]
      have e1 : (val 0 q * 10 + (c.toNat - 48)) / 10 = val 0 q := by omega
      have e2 : (val 0 q * 10 + (c.toNat - 48)) % 10 = c.toNat - 48 := by omega
      rw [e1, e2, hr, hc]

/-- A number's text, as a list of bytes. -/
def isT (l : List UInt8) : Bool := numT (hasPrefix l [45]) (trimPrefix l [45])
theorem hp_cons (c : UInt8) (r : List UInt8) : hasPrefix (c :: r) [45] = (c == 45) := by
  unfold hasPrefix
  rw [List.isPrefixOf, List.isPrefixOf, Bool.and_true]
  by_cases h : c = 45
  · subst h; rfl
  · rw [show (c == 45) = false by simpa using h, beq_eq_false_iff_ne]
    exact fun e => h e.symm
theorem tp_minus (r : List UInt8) : trimPrefix (45 :: r) [45] = r := by simp [trimPrefix, hasPrefix, List.isPrefixOf]
theorem tp_other (c : UInt8) (r : List UInt8) (h : c ≠ 45) : trimPrefix (c :: r) [45] = c :: r := by
  unfold trimPrefix; rw [hp_cons]; simp [h]
theorem numT_dec (u : Nat) : numT false (decDigits u) = true := by
  obtain ⟨a, b, c, d⟩ := dec_all u u (Nat.le_refl _)
  by_cases h : u < 10
  · rw [dec_small h] at a ⊢
    simp only [numT, a]; simp
  · obtain ⟨x, r, hx, hc⟩ := d (by omega)
    rw [hx] at a ⊢
    have : (x == 48) = false := by
      rw [beq_eq_false_iff_ne]; intro e; rw [e] at hc; exact absurd hc (by decide)
    simp only [numT, a, this]; simp
theorem numT_dec_neg (u : Nat) (h1 : 1 ≤ u) : numT true (decDigits u) = true := by
  obtain ⟨a, b, c, d⟩ := dec_all u u (Nat.le_refl _)
  by_cases h : u < 10
  · rw [dec_small h] at a ⊢
    have e := toNat_ofNat_dig h
    have : (UInt8.ofNat (48 + u) == 48) = false := by
      rw [beq_eq_false_iff_ne]; intro e2; rw [e2] at e; have : (48 : UInt8).toNat = 48 := rfl; omega
    simp only [numT, a, this]; simp
  · obtain ⟨x, r, hx, hc⟩ := d (by omega)
    rw [hx] at a ⊢
    have : (x == 48) = false := by
      rw [beq_eq_false_iff_ne]; intro e; rw [e] at hc; exact absurd hc (by decide)
    simp only [numT, a, this]; simp
theorem dec_head (u : Nat) : ∃ c r, decDigits u = c :: r ∧ dig c = true := by
  obtain ⟨a, b, _, _⟩ := dec_all u u (Nat.le_refl _)
  cases h : decDigits u with
  | nil => exact absurd h b
  | cons c r => rw [h] at a; simp only [List.all_cons, Bool.and_eq_true] at a; exact ⟨c, r, rfl, a.1⟩
theorem dig_ne {c : UInt8} (h : dig c = true) : c ≠ 45 ∧ c ≠ 43 := by
  simp only [dig, decide_eq_true_eq] at h
  constructor <;> (intro e; rw [e] at h; exact absurd h (by decide))
/-- The text of a number is one. -/
theorem isT_itoa (n : Int) : isT (itoa n) = true := by
  unfold isT itoa
  by_cases h : n < 0
  · rw [if_pos h, hp_cons, tp_minus]
    exact numT_dec_neg _ (by omega)
  · rw [if_neg h]
    obtain ⟨c, r, e, hd⟩ := dec_head n.toNat
    have hne := (dig_ne hd).1
    rw [e, hp_cons, tp_other c r hne, show (c == 45) = false by simpa using hne, ← e]
    exact numT_dec _
theorem parse_dec (u : Nat) (h : u < 18446744073709551616) : parseUintB 64 (decDigits u) = .ok u := by
  obtain ⟨a, b, c, _⟩ := dec_all u u (Nat.le_refl _)
  unfold parseUintB
  rw [if_neg b]
  have := parse_ok (2 ^ 64 - 1) (by unfold Small; decide) (decDigits u) 0 a (by rw [c]; omega)
  rw [this, c]
/-- The number of a number's text is the number. -/
theorem parse_itoa (n : Int) (h0 : -9223372036854775808 ≤ n) (h1 : n ≤ 9223372036854775807) : parseIntB 64 (itoa n) = .ok n := by
  unfold itoa
  by_cases h : n < 0
  · rw [if_pos h]
    unfold parseIntB
    have e := parse_dec n.natAbs (by omega)
    simp only [show (45 : UInt8).toNat = 45 from rfl, or_true, if_true, e]
    rw [if_neg (by simp), if_neg (by simp; omega)]
    simp; omega
  · rw [if_neg h]
    obtain ⟨c, r, e, hd⟩ := dec_head n.toNat
    have e2 := parse_dec n.toNat (by omega)
    rw [e] at e2 ⊢
    simp only [dig, decide_eq_true_eq] at hd
    unfold parseIntB
    have n43 : ¬ (c.toNat = 43 ∨ c.toNat = 45) := by omega
    have n45 : ¬ c.toNat = 45 := by omega
    simp only [if_neg n43, e2]
    simp only [n45, not_false_eq_true, true_and, false_and, if_false]
    have hlt : ¬ 2 ^ (64 - 1) ≤ n.toNat := by
      have : (2 : Nat) ^ (64 - 1) = 9223372036854775808 := by decide
      rw [this]; omega
    rw [if_neg hlt]
    congr 1
    exact Int.toNat_of_nonneg (by omega)
end Go.Proofs.YtedbohfcbfegjaaGreatDoor.Num

/- The contracts of num.Text, and texts of numbers. -/
set_option linter.unusedVariables false
set_option linter.unusedSimpArgs false
namespace Go.Proofs.YtedbohfcbfegjaaGreatDoor
open Go.RowKit

theorem cutPrefix (s p : ByteArray) (w : World) :
    Calls Tryz.prog 140 #[.string s, .string p] w fun e w' => e = .returned (.tuple #[.string ⟨(Lib.trimPrefix s.data.toList p.data.toList).toArray⟩, .bool (Lib.hasPrefix s.data.toList p.data.toList)]) ∧ w = w' :=
  (Any.strings_CutPrefix Tryz.lays103 s p w).mono fun _ _ ⟨h, e⟩ => ⟨h, e.symm⟩

set_option maxHeartbeats 400000 in
theorem text_any (n : Int) (w : World) (h0 : -9223372036854775808 ≤ n) (h1 : n ≤ 9223372036854775807) (htab : Lib.TabIs Tryz.prog w "internal/strconv.uint64pow10" .u64 Lib.pow10Tab) :
    Calls Tryz.prog 99 #[.int .i64 n] w fun e w' => e = .returned (.string ⟨(Lib.itoa n).toArray⟩) ∧ Below w.heap.size w w' := by
  have HT := Lib.hid htab; clear htab
  go_enter Tryz.func99, Tryz.ntmps99
  go_wp2_with fail
  refine (Tryz.formatInt n h0 h1 _ HT.out).mono ?_; rintro e w1 ⟨rfl, b1⟩
  go_wp2_with fail
  go_ret
  exact ⟨rfl, b1⟩

theorem dlen (ds : ByteArray) : ds.data.toList.length = ds.size := Array.length_toList
theorem dget {ds : ByteArray} {k : Nat} (h : k < ds.size) : ds.data.toList[k]'(by rw [dlen]; exact h) = ds[k] := rfl
theorem dhead {ds : ByteArray} (h : 0 < ds.size) : ∃ r, ds.data.toList = ds[0] :: r ∧ (r = [] ↔ ds.size = 1) := by
  have hl := dlen ds
  cases hd : ds.data.toList with
  | nil => rw [hd] at hl; simp at hl; omega
  | cons c r =>
    have e : ds[0] = c := by rw [← dget h]; simp [hd]
    refine ⟨r, by rw [e], ?_⟩
    rw [hd] at hl
    simp at hl
    rw [← List.length_eq_zero_iff]; omega
theorem not_all {ds : ByteArray} {k : Nat} (h : k < ds.size) (hd : ¬ (48 ≤ ds[k].toNat ∧ ds[k].toNat ≤ 57)) : ds.data.toList.all Num.dig = false := by
  rw [Bool.eq_false_iff]
  intro ha
  have := List.all_eq_true.1 ha ds[k] (by rw [← dget h]; exact List.getElem_mem _)
  simp only [Num.dig, decide_eq_true_eq] at this
  exact hd this
theorem take_all {ds : ByteArray} {k : Nat} (h : k < ds.size) (ha : (ds.data.toList.take k).all Num.dig = true) (hd : 48 ≤ ds[k].toNat ∧ ds[k].toNat ≤ 57) : (ds.data.toList.take (k + 1)).all Num.dig = true := by
  rw [List.take_succ_eq_append_getElem (by rw [dlen]; exact h), List.all_append, ha, dget h]
  simp [Num.dig, hd]
theorem front {ds : ByteArray} {b : Bool} (h : 0 < ds.size) (hf : ds[0].toNat = 48 → b = false ∧ ds.size = 1) : Num.numT b ds.data.toList = ds.data.toList.all Num.dig := by
  obtain ⟨r, e, hr⟩ := dhead h
  rw [e]
  unfold Num.numT
  by_cases h48 : ds[0].toNat = 48
  · obtain ⟨hb, h1⟩ := hf h48
    rw [hb, hr.2 h1]; simp
  · have : (ds[0] == 48) = false := by rw [beq_eq_false_iff_ne]; intro e2; rw [e2] at h48; exact h48 rfl
    show (!(ds[0] == 48 && (b || !r.isEmpty)) && (ds[0] :: r).all Num.dig) = _
    rw [this]; simp
theorem front_no {ds : ByteArray} {b : Bool} (h : 0 < ds.size) (h48 : ds[0].toNat = 48) (hf : b = true ∨ 1 < ds.size) : Num.numT b ds.data.toList = false := by
  obtain ⟨r, e, hr⟩ := dhead h
  rw [e]
  unfold Num.numT
  have : (ds[0] == 48) = true := by rw [beq_iff_eq]; exact UInt8.toNat_inj.1 h48
  show (!(ds[0] == 48 && (b || !r.isEmpty)) && (ds[0] :: r).all Num.dig) = _
  rw [this]
  rcases hf with hb | hz
  · rw [hb]; simp
  · have : r ≠ [] := fun e2 => by have := hr.1 e2; omega
    have : r.isEmpty = false := by simpa using this
    rw [this]; simp

/-- A variable holds behind a call what it held. -/
theorem var_keep {P : Program} {W W' : World} {n : String} {cs : Array Value} (h : Below W.heap.size W W') (hv : W.var? P n = some cs) : W'.var? P n = some cs := by
  unfold World.var? at hv ⊢
  cases hg : P.globalNamed n with
  | none => rw [hg] at hv; simp at hv
  | some g =>
    rw [hg] at hv
    simp only [Option.bind_some] at hv ⊢
    have hgB : g < W.heap.size := by
      by_cases hh : g < W.heap.size
      · exact hh
      · exfalso
        have e : W.heap[g]? = none := by simp; omega
        rw [e] at hv; simp at hv
    rw [h.block g hgB]
    exact hv
end Go.Proofs.YtedbohfcbfegjaaGreatDoor

/- Texts as bytes: their lists, digits, what stands behind a sign. -/
set_option linter.unusedVariables false
set_option linter.unusedSimpArgs false
namespace Go.Proofs.YtedbohfcbfegjaaGreatDoor
open Go.RowKit

theorem ab_dig (c : UInt8) : Num.dig c = (decide (48 ≤ (c.toNat : Int)) && decide ((c.toNat : Int) ≤ 57)) := by
  unfold Num.dig
  by_cases h1 : 48 ≤ c.toNat <;> by_cases h2 : c.toNat ≤ 57 <;> simp [h1, h2] <;> omega
theorem ab_trim (l p : List UInt8) : (Lib.trimPrefix l p).length ≤ l.length := by
  unfold Lib.trimPrefix
  split
  · rw [List.length_drop]; omega
  · omega
theorem ab_val_lt : ∀ (l : List UInt8) (a : Nat), l.all Num.dig = true → Num.val a l < (a + 1) * 10 ^ l.length := by
  intro l
  induction l with
  | nil => intro a _; rw [Num.val_nil]; simp
  | cons c r ih =>
    intro a h
    simp only [List.all_cons, Bool.and_eq_true] at h
    have hc : 48 ≤ c.toNat ∧ c.toNat ≤ 57 := by have := h.1; unfold Num.dig at this; exact of_decide_eq_true this
    have := ih (Num.stp a c) h.2
    rw [Num.val_cons, List.length_cons, Nat.pow_succ]
    have h1 : Num.stp a c + 1 ≤ (a + 1) * 10 := by rw [Num.stp_eq]; omega
    have h2 := Nat.mul_le_mul_right (10 ^ r.length) h1
    calc Num.val (Num.stp a c) r < (Num.stp a c + 1) * 10 ^ r.length := this
      _ ≤ (a + 1) * 10 * 10 ^ r.length := h2
      _ = (a + 1) * (10 ^ r.length * 10) := by rw [Nat.mul_assoc, Nat.mul_comm 10]
theorem ab_val_bd {l : List UInt8} {k : Nat} (hd : l.all Num.dig = true) (hl : l.length ≤ k) : Num.val 0 l < 10 ^ k := by
  have := ab_val_lt l 0 hd
  have h2 := Nat.pow_le_pow_right (n := 10) (by omega) hl
  omega
end Go.Proofs.YtedbohfcbfegjaaGreatDoor

/- Amounts: parts of texts, and what they mean. -/
set_option linter.unusedVariables false
set_option linter.unusedSimpArgs false
namespace Go.Proofs.YtedbohfcbfegjaaGreatDoor
open Go.RowKit

namespace Am
/-- Is it a part of an amount's text, the first one (0) or another? -/
def isP (i : Int) (l : List UInt8) : Bool := l.all Num.dig && (if i = 0 then decide (1 ≤ l.length ∧ l.length ≤ 3) else decide (l.length = 2))
end Am
set_option maxHeartbeats 2000000 in
set_option maxRecDepth 100000 in
theorem ispart_any (i : Int) (s : ByteArray) (w : World) (hs : s.size ≤ maxLen) :
    Calls Tryz.prog 179 #[.int .i64 i, .string s] w fun e w' => e = .returned (.bool (Am.isP i s.data.toList)) ∧ Below w.heap.size w w' := by
  unfold maxLen at hs
  obtain ⟨ans, hans⟩ : ∃ ans, ans = Am.isP i s.data.toList := ⟨_, rfl⟩
  rw [← hans]
  obtain ⟨D, hD⟩ : ∃ D, D = s.data.toList.all Num.dig := ⟨_, rfl⟩
  have HQ := Lib.hid (show ans = (D && if i = 0 then decide (1 ≤ s.size ∧ s.size ≤ 3) else decide (s.size = 2)) by rw [hans, hD]; unfold Am.isP; rw [ab_len])
  have HA := Lib.hid hD; clear hD hans
  go_enter Tryz.func179, Tryz.ntmps179
  go_wp2_with fail
  go_loopw [] (fun wr => ∃ pos : Nat, pos ≤ s.size ∧ wr.heap[w.heap.size]? = some (.stringIter s pos) ∧ Hid ((s.data.toList.drop pos).all Num.dig = D) ∧ Hid (Below w.heap.size w wr)) (fun wr => s.size - wr.iterPos w.heap.size)
  case atStart =>
    refine ⟨0, Nat.zero_le _, ?_, HA.out.symm, (Below.refl _ _).alloc (Nat.le_refl _) _⟩
    have := World.iter_heap w s 0
    simpa using this
  case round =>
    obtain ⟨pos, hk, hit, hr, hbw⟩ := hrel
    by_cases hp : pos < s.size
    · have hb := s[pos].toNat_lt
      have hd := ab_dig s[pos]
      have hn : (Num.dig s[pos] && (s.data.toList.drop (pos + 1)).all Num.dig) = D := by rw [← hr.out, ab_drop s pos hp]; rfl
      by_cases ha : s[pos].toNat < 128
      · have hnx : ∀ ty, (Instr.next (.pointer (some ⟨w.heap.size, 0, none⟩)) true ty).run Tryz.prog wr = _ := fun ty => Lib.run_next_ascii_at wr w.heap.size s pos ty hit hp ha
        have hit2 := Lib.iterAt_heap wr w.heap.size s pos (pos + 1) hit
        have hbw2 := Lib.hid (Lib.below_iterAt hbw.out (k := w.heap.size) (Nat.le_refl _) s (pos + 1))
        generalize hc : (s[pos].toNat : Int) = c at hnx hd
        by_cases c1 : c < 48
        · have hno := Lib.hid (show ans = false by rw [HQ.out, show D = false by rw [← hn, hd, decide_eq_false (by omega)]; rfl]; rfl)
          clear hn hd hb
          go_wp2_with fail
          go_ret
          exact ⟨by rw [hno.out]; rfl, hbw2.out⟩
        · by_cases c2 : 57 < c
          · have hno := Lib.hid (show ans = false by rw [HQ.out, show D = false by rw [← hn, hd, decide_eq_false (show ¬ c ≤ 57 by omega)]; simp]; rfl)
            clear hn hd hb
            go_wp2_with fail
            go_ret
            exact ⟨by rw [hno.out]; rfl, hbw2.out⟩
          · have hyes := Lib.hid (show (s.data.toList.drop (pos + 1)).all Num.dig = D by rw [← hn, hd, decide_eq_true (show 48 ≤ c by omega), decide_eq_true (show c ≤ 57 by omega)]; rfl)
            clear hn hd hb
            go_wp2_with fail
            go_roundw
            case rel => exact ⟨pos + 1, by omega, hit2, hyes, hbw2⟩
            case measure =>
              simp only [World.iterPos, hit2, hit]
              omega
      · have hnx : ∀ ty, (Instr.next (.pointer (some ⟨w.heap.size, 0, none⟩)) true ty).run Tryz.prog wr = _ := fun ty => Lib.run_next_any_at wr w.heap.size s pos ty hit hp
        obtain ⟨r1, r2⟩ := decode_high s pos hp (by omega)
        have hbw2 := Lib.hid (Lib.below_iterAt hbw.out (k := w.heap.size) (Nat.le_refl _) s (pos + (Utf8.decode s pos).2))
        have r3 := decode_le s pos
        have hno := Lib.hid (show ans = false by rw [HQ.out, show D = false by rw [← hn, hd, decide_eq_false (show ¬ (s[pos].toNat : Int) ≤ 57 by omega)]; simp]; rfl)
        clear hn hd hb
        generalize (Utf8.decode s pos).1 = rn at hnx r1 r3
        generalize (Utf8.decode s pos).2 = wd at hnx hbw2 r2
        have c1 : ¬ (rn : Int) < 48 := by omega
        have c2 : 57 < (rn : Int) := by omega
        go_wp2_with fail
        go_ret
        exact ⟨by rw [hno.out]; rfl, hbw2.out⟩
    · have hnx : ∀ ty, (Instr.next (.pointer (some ⟨w.heap.size, 0, none⟩)) true ty).run Tryz.prog wr = _ := fun ty => Lib.run_next_end_at wr w.heap.size s pos ty hit hp
      have hyes := Lib.hid (show D = true by rw [← hr.out, List.drop_of_length_le (by rw [ab_len]; omega)]; rfl)
      have HQ2 := Lib.hid (show ans = if i = 0 then decide (1 ≤ s.size ∧ s.size ≤ 3) else decide (s.size = 2) by rw [HQ.out, hyes.out]; rfl)
      clear HQ
      by_cases hi : i = 0
      · subst hi
        by_cases z1 : 1 ≤ (s.size : Int)
        · by_cases z2 : (s.size : Int) ≤ 3
          · have e := Lib.hid (show ans = true by rw [HQ2.out, if_pos rfl]; exact decide_eq_true (by omega))
            clear HQ2
            go_wp2_with fail
            go_ret
            exact ⟨by rw [e.out]; rfl, hbw.out⟩
          · have e := Lib.hid (show ans = false by rw [HQ2.out, if_pos rfl]; exact decide_eq_false (by omega))
            clear HQ2
            go_wp2_with fail
            go_ret
            exact ⟨by rw [e.out]; rfl, hbw.out⟩
        · have e := Lib.hid (show ans = false by rw [HQ2.out, if_pos rfl]; exact decide_eq_false (by omega))
          clear HQ2
          go_wp2_with fail
          go_ret
          exact ⟨by rw [e.out]; rfl, hbw.out⟩
      · have gi : (i == 0) = false := by rw [beq_eq_false_iff_ne]; exact hi
        by_cases z1 : s.size = 2
        · have e := Lib.hid (show ans = true by rw [HQ2.out, if_neg hi]; exact decide_eq_true z1)
          have z2 : ((s.size : Int) == 2) = true := by rw [beq_iff_eq]; omega
          clear hi HQ2
          go_wp2_with fail
          go_ret
          exact ⟨by rw [e.out]; rfl, hbw.out⟩
        · have e := Lib.hid (show ans = false by rw [HQ2.out, if_neg hi]; exact decide_eq_false z1)
          have z2 : ((s.size : Int) == 2) = false := by rw [beq_eq_false_iff_ne]; omega
          clear hi HQ2
          go_wp2_with fail
          go_ret
          exact ⟨by rw [e.out]; rfl, hbw.out⟩
set_option maxHeartbeats 2000000 in
set_option maxRecDepth 100000 in
theorem aval_any (s : ByteArray) (w : World) (hs : s.size ≤ 5) (hd : s.data.toList.all Num.dig = true) :
    Calls Tryz.prog 180 #[.string s] w fun e w' => e = .returned (.int .i64 (Num.val 0 s.data.toList)) ∧ Below w.heap.size w w' := by
  obtain ⟨ans, hans⟩ : ∃ ans, ans = Num.val 0 s.data.toList := ⟨_, rfl⟩
  rw [← hans]
  have HA := Lib.hid hans; clear hans
  have HD := Lib.hid hd; clear hd
  go_enter Tryz.func180, Tryz.ntmps180
  go_wp2_with fail
  go_loopw [3] (fun n wr => ∃ pos a : Nat, pos ≤ s.size ∧ n = .int .i64 a ∧ wr.heap[w.heap.size]? = some (.stringIter s pos) ∧ Hid (a + 1 ≤ 10 ^ pos) ∧ Hid (Num.val a (s.data.toList.drop pos) = ans) ∧ Hid (Below w.heap.size w wr)) (fun _ wr => s.size - wr.iterPos w.heap.size)
  case atStart =>
    refine ⟨0, 0, Nat.zero_le _, rfl, ?_, Nat.le_refl 1, HA.out.symm, (Below.refl _ _).alloc (Nat.le_refl _) _⟩
    have := World.iter_heap w s 0
    simpa using this
  case round =>
    obtain ⟨pos, a, hk, rfl, hit, hp', hr, hbw⟩ := hrel
    by_cases hp : pos < s.size
    · have hdk : Num.dig s[pos] = true := by
        have h := HD.out
        have := List.all_eq_true.1 h s[pos] (by
          have e : s[pos] = s.data.toList[pos]'(by rw [ab_len]; exact hp) := rfl
          rw [e]; exact List.getElem_mem _)
        exact this
      obtain ⟨l48, l57⟩ : 48 ≤ s[pos].toNat ∧ s[pos].toNat ≤ 57 := by unfold Num.dig at hdk; exact of_decide_eq_true hdk
      have hnx : ∀ ty, (Instr.next (.pointer (some ⟨w.heap.size, 0, none⟩)) true ty).run Tryz.prog wr = _ := fun ty => Lib.run_next_ascii_at wr w.heap.size s pos ty hit hp (by omega)
      have hit2 := Lib.iterAt_heap wr w.heap.size s pos (pos + 1) hit
      have hbw2 := Lib.hid (Lib.below_iterAt hbw.out (k := w.heap.size) (Nat.le_refl _) s (pos + 1))
      have ha : a ≤ 99999 := by
        have h := hp'.out
        have := Nat.pow_le_pow_right (n := 10) (by omega) (show pos ≤ 5 by omega)
        omega
      have hp2 := Lib.hid (show Num.stp a s[pos] + 1 ≤ 10 ^ (pos + 1) by rw [Num.stp_eq, Nat.pow_succ]; have := hp'.out; omega)
      have hr2 := Lib.hid (show Num.val (Num.stp a s[pos]) (s.data.toList.drop (pos + 1)) = ans by rw [← hr.out, ab_drop s pos hp, Num.val_cons])
      have hs2 := Lib.hid (show (a : Int) * 10 + ((s[pos].toNat : Int) - 48) = (Num.stp a s[pos] : Int) by rw [Num.stp_eq]; omega)
      have b48 : (48 : Int) ≤ (s[pos].toNat : Int) := by omega
      have b57 : (s[pos].toNat : Int) ≤ 57 := by omega
      clear hdk
      generalize (s[pos].toNat : Int) = c at hnx hs2 b48 b57
      generalize Num.stp a s[pos] = a2 at hp2 hr2 hs2
      clear l48 l57
      go_wp2_with fail
      go_roundw
      case rel => exact ⟨pos + 1, a2, by omega, by first | (rw [← hs2.out]; done) | (rw [← hs2.out]; rfl), hit2, hp2, hr2, hbw2⟩
      case measure =>
        simp only [World.iterPos, hit2, hit]
        omega
    · have hnx : ∀ ty, (Instr.next (.pointer (some ⟨w.heap.size, 0, none⟩)) true ty).run Tryz.prog wr = _ := fun ty => Lib.run_next_end_at wr w.heap.size s pos ty hit hp
      have hyes := Lib.hid (show a = ans by rw [← hr.out, List.drop_of_length_le (by rw [ab_len]; omega)]; rfl)
      go_wp2_with fail
      go_ret
      exact ⟨by rw [hyes.out]; rfl, hbw.out⟩
end Go.Proofs.YtedbohfcbfegjaaGreatDoor
