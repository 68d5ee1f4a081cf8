/- Joined: NumN, Tx, RdM, RnM, RnD, RnE, RnF, ShelfP, NumAr, RnG, WdM, WdA. -/
import Derived.Test.YtjggjkeopbcmoaaGreatDoorBt03
import Derived.Lib.ItoaLen
import Derived.Test.YtjggjkeopbcmoaaGreatDoorBt04
import Derived.Test.YtjggjkeopbcmoaaGreatDoorBt02
import Derived.Shelf.Strconv.ParseIntPublic10
import Derived.Shelf.Strconv.ErrVarParseInt
import Derived.Test.YtjggjkeopbcmoaaGreatDoorProg
import Derived.Test.YtjggjkeopbcmoaaGreatDoorBt01
import Derived.Deep.QuietTactic
set_option linter.unusedVariables false
namespace Go.Proofs.YtjggjkeopbcmoaaGreatDoor.Num
open Go Go.Lib
theorem itoa_ne (n : Int) : itoa n ≠ [] := by
 unfold itoa
 split
 ·
  simp
 ·
  exact (dec_all n.toNat n.toNat (Nat.le_refl _)).2.1
theorem numT_yes {b : Bool} {d : List UInt8} (h : numT b d = true) : d ≠ [] ∧ d.all dig = true ∧ (∀ c r, d = c :: r → r ≠ [] → c ≠ 48) ∧ (b = true → ∀ c r, d = c :: r → c ≠ 48) := by
 cases d with
 | nil => have h2 : false = true := h; cases h2
 | cons c r =>
  have h' : (!(c == 48 && (b || !r.isEmpty)) && (c :: r).all dig) = true := h
  rw [Bool.and_eq_true] at h'
  obtain ⟨h1, h2⟩ := h'
  refine ⟨by simp, h2, ?_, ?_⟩
  ·
   intro c' r' e hr hc
   injection e with e1 e2
   subst e1 e2
   rw [hc] at h1
   have : r.isEmpty = false := by simpa using hr
   rw [this] at h1; simp at h1
  ·
   intro hb c' r' e hc
   injection e with e1 e2
   subst e1 e2
   rw [hc, hb] at h1; simp at h1
theorem parseU (d : List UInt8) (h : d ≠ []) (ha : d.all dig = true) : parseUintB 64 d = .ok (val 0 d) ∨ parseUintB 64 d = .range := by
 unfold parseUintB
 rw [if_neg h]
 exact parse_all _ d 0 ha
theorem val_pos {d : List UInt8} (h : d ≠ []) (ha : d.all dig = true) (hz : ∀ c r, d = c :: r → c ≠ 48) : 1 ≤ val 0 d := by
 cases d with
 | nil => exact absurd rfl h
 | cons c r =>
  have hc := hz c r rfl
  have hd : 48 ≤ c.toNat ∧ c.toNat ≤ 57 := by
   simp only [List.all_cons, Bool.and_eq_true, dig, decide_eq_true_eq] at ha; exact ha.1
  have hc' : c.toNat ≠ 48 := fun e => hc (UInt8.toNat_inj.1 (by rw [e]; rfl))
  have hs : 1 ≤ stp 0 c := by rw [stp_eq]; omega
  rw [val_cons]; exact Nat.le_trans hs (val_ge r _)
theorem isT_read {l : List UInt8} (h : isT l = true) : parseIntB 64 l = .range ∨ ∃ x, parseIntB 64 l = .ok x ∧ itoa x = l ∧ -9223372036854775808 ≤ x ∧ x ≤ 9223372036854775807 := by
 cases l with
 | nil => exact absurd h (by decide)
 | cons c d =>
  by_cases hc : c = 45
  ·
   subst hc
   unfold isT at h
   rw [hp_cons, tp_minus] at h
   obtain ⟨a, b, e, f⟩ := numT_yes h
   have f := f rfl
   have hp := val_pos a b f
   have hv := dec_of_val d b a e
   unfold parseIntB
   simp only [show (45 : UInt8).toNat = 45 from rfl, or_true, if_true]
   rcases parseU d a b with hu | hu
   ·
    rw [hu]
    simp only [not_true_eq_false, false_and, if_false, true_and]
    by_cases hb : 2 ^ (64 - 1) < val 0 d
    ·
     left; rw [if_pos hb]
    ·
     right
     rw [if_neg hb]
     have hb2 : val 0 d ≤ 9223372036854775808 := by
      have : (2 : Nat) ^ (64 - 1) = 9223372036854775808 := by decide
      omega
     refine ⟨_, rfl, ?_, by omega, by omega⟩
     unfold itoa
     rw [if_pos (by omega), Int.natAbs_neg, Int.natAbs_natCast, hv]
   ·
    left; rw [hu]
  ·
   unfold isT at h
   rw [hp_cons, tp_other c d hc] at h
   obtain ⟨a, b, e, _⟩ := numT_yes h
   have hv := dec_of_val (c :: d) b a e
   have hd : 48 ≤ c.toNat ∧ c.toNat ≤ 57 := by
    simp only [List.all_cons, Bool.and_eq_true, dig, decide_eq_true_eq] at b; exact b.1
   have n43 : ¬ (c.toNat = 43 ∨ c.toNat = 45) := by omega
   have n45 : ¬ c.toNat = 45 := by omega
   unfold parseIntB
   simp only [if_neg n43]
   rcases parseU (c :: d) a b with hu | hu
   ·
    rw [hu]
    simp only [n45, not_false_eq_true, true_and, false_and, if_false]
    by_cases hb : 2 ^ (64 - 1) ≤ val 0 (c :: d)
    ·
     left; rw [if_pos hb]
    ·
     right
     rw [if_neg hb]
     have hb2 : val 0 (c :: d) < 9223372036854775808 := by
      have : (2 : Nat) ^ (64 - 1) = 9223372036854775808 := by decide
      omega
     refine ⟨_, rfl, ?_, by omega, by omega⟩
     unfold itoa
     rw [if_neg (by omega), Int.toNat_natCast, hv]
   ·
    left; rw [hu]
end Go.Proofs.YtjggjkeopbcmoaaGreatDoor.Num
set_option linter.unusedVariables false
set_option linter.unusedSimpArgs false
namespace Go.Proofs.YtjggjkeopbcmoaaGreatDoor.Tx
open Go Go.Lib
def dg (k : Nat) (n : Int) : List UInt8 := List.replicate (k - (itoa n).length) 48 ++ itoa n
def yr (y : Int) : List UInt8 := if y < 0 then 45 :: dg 4 (-y) else dg 4 y
end Go.Proofs.YtjggjkeopbcmoaaGreatDoor.Tx
set_option linter.unusedVariables false
set_option linter.unusedSimpArgs false
namespace Go.Proofs.YtjggjkeopbcmoaaGreatDoor
open Go Go.Lib
namespace Num
theorem val_zeros (l : List UInt8) : ∀ k, val 0 (List.replicate k 48 ++ l) = val 0 l := by
 intro k
 induction k with
 | zero => rfl
 | succ k ih =>
  rw [List.replicate_succ, List.cons_append, val_cons, show stp 0 48 = 0 by rw [stp_eq]; rfl]
  exact ih
theorem itoa_nat (n : Int) (h : 0 ≤ n) : itoa n = decDigits n.toNat := by unfold itoa; rw [if_neg (by omega)]
end Num
namespace Tx
theorem dg_back : ∀ (k : Nat) (l : List UInt8), l.length = k + 1 → l.all Num.dig = true → dg (k + 1) (Num.val 0 l) = l := by
 intro k
 induction k with
 | zero =>
  intro l hl hd
  have e := Num.dec_of_val l hd (by intro h; subst h; cases hl) (by intro c r e hr; subst e; simp at hl; exact absurd hl hr)
  unfold dg
  rw [Num.itoa_nat _ (by omega), Int.toNat_natCast, e, hl]; rfl
 | succ k ih =>
  intro l hl hd
  cases l with
  | nil => cases hl
  | cons c r =>
   have hr : r.length = k + 1 := by simpa using hl
   by_cases hc : c = 48
   ·
    subst hc
    have hv : Num.val 0 (48 :: r) = Num.val 0 r := Num.val_zeros r 1
    have hdr : r.all Num.dig = true := by simp only [List.all_cons, Bool.and_eq_true] at hd; exact hd.2
    have h := ih r hr hdr
    rw [hv]
    have hlen : (itoa (Num.val 0 r : Int)).length ≤ k + 1 := by
     have := congrArg List.length h
     unfold dg at this
     rw [hr] at this; simp at this; omega
    unfold dg at h ⊢
    rw [show k + 1 + 1 - (itoa (Num.val 0 r : Int)).length = (k + 1 - (itoa (Num.val 0 r : Int)).length) + 1 by omega, List.replicate_succ, List.cons_append, h]
   ·
    have e := Num.dec_of_val (c :: r) hd (by simp) (by intro c' r' e _; injection e with e1 _; subst e1; exact hc)
    unfold dg
    rw [Num.itoa_nat _ (by omega), Int.toNat_natCast, e, hl]
    simp
theorem dg_back' (k : Nat) (l : List UInt8) (hl : k < l.length) (hd : l.all Num.dig = true) (hh : l.head? ≠ some 48) : dg k (Num.val 0 l) = l := by
 have e := Num.dec_of_val l hd (by intro h; subst h; cases hl) (by intro c r e _; subst e; intro h; exact hh (by rw [h]; rfl))
 unfold dg
 rw [Num.itoa_nat _ (by omega), Int.toNat_natCast, e, show k - l.length = 0 by omega]; rfl
theorem dg4 {l : List UInt8} (hd : l.all Num.dig = true) (hl : 4 ≤ l.length) (hh : 4 < l.length → l.head? ≠ some 48) : dg 4 (Num.val 0 l) = l := by
 by_cases h : l.length = 4
 ·
  exact dg_back 3 l h hd
 ·
  exact dg_back' 4 l (by omega) hd (hh (by omega))
end Tx
namespace Rd
def isY (l : List UInt8) : Bool :=
 !(decide ((trimPrefix l [45]).length < 4)) && (!(decide (4 < (trimPrefix l [45]).length) && ((trimPrefix l [45]).head? == some 48)) && ((trimPrefix l [45]).all Num.dig && !(hasPrefix l [45] && ((trimPrefix l [45]) == [48, 48, 48, 48]))))
def yv (l : List UInt8) : Int := if hasPrefix l [45] then -(Num.val 0 (trimPrefix l [45]) : Int) else (Num.val 0 (trimPrefix l [45]) : Int)
def sg : List UInt8 := [45, 45, 84, 58, 58]
def pOk (l : List UInt8) (k : Nat) : Bool := decide (l.getD (3 * k) 0 = sg.getD k 0) && (((l.drop (3 * k + 1)).take 2).all Num.dig)
def bOk (l : List UInt8) : Bool := pOk l 0 && (pOk l 1 && (pOk l 2 && (pOk l 3 && pOk l 4)))
def hd (t : List UInt8) : List UInt8 := t.take (t.length - 15)
def tl (t : List UInt8) : List UInt8 := t.drop (t.length - 15)
def form (t : List UInt8) : Bool := decide (15 ≤ t.length) && (isY (hd t) && bOk (tl t))
theorem isY_iff {l : List UInt8} : isY l = true ↔ 4 ≤ (trimPrefix l [45]).length ∧ (4 < (trimPrefix l [45]).length → (trimPrefix l [45]).head? ≠ some 48) ∧ (trimPrefix l [45]).all Num.dig = true ∧ (hasPrefix l [45] = true → trimPrefix l [45] ≠ [48, 48, 48, 48]) := by
 unfold isY
 simp only [Bool.and_eq_true, Bool.not_eq_true', decide_eq_false_iff_not, Bool.and_eq_false_iff, beq_eq_false_iff_ne]
 constructor
 ·
  rintro ⟨a, b, c, d⟩
  refine ⟨by omega, fun h => ?_, c, fun h => ?_⟩
  ·
   rcases b with b | b
   ·
    exact absurd h b
   ·
    exact b
  ·
   rcases d with d | d
   ·
    rw [h] at d; cases d
   ·
    exact d
 ·
  rintro ⟨a, b, c, d⟩
  refine ⟨by omega, ?_, c, ?_⟩
  ·
   by_cases h : 4 < (trimPrefix l [45]).length
   ·
    exact .inr (b h)
   ·
    exact .inl h
  ·
   cases h : hasPrefix l [45]
   ·
    exact .inl rfl
   ·
    exact .inr (d h)
theorem hp_split {l : List UInt8} (h : hasPrefix l [45] = true) : l = 45 :: trimPrefix l [45] := by
 cases l with
 | nil => cases h
 | cons c r =>
  rw [Num.hp_cons] at h
  have : c = 45 := by simpa using h
  subst this
  rw [Num.tp_minus]
theorem hp_none {l : List UInt8} (h : hasPrefix l [45] = false) : trimPrefix l [45] = l := by
 cases l with
 | nil => rfl
 | cons c r =>
  rw [Num.hp_cons] at h
  exact Num.tp_other c r (by simpa using h)
theorem val_zero {l : List UInt8} (hd : l.all Num.dig = true) (h : Num.val 0 l = 0) : ∀ c ∈ l, c = 48 := by
 induction l with
 | nil => intro c hc; cases hc
 | cons x r ih =>
  simp only [List.all_cons, Bool.and_eq_true] at hd
  rw [Num.val_cons] at h
  have hx : Num.stp 0 x = 0 := by have := Num.val_ge r (Num.stp 0 x); omega
  have hxd : 48 ≤ x.toNat ∧ x.toNat ≤ 57 := by have := hd.1; unfold Num.dig at this; exact of_decide_eq_true this
  have : x = 48 := by
   rw [Num.stp_eq] at hx
   exact UInt8.toNat_inj.1 (by show x.toNat = 48; omega)
  subst this
  intro c hc
  rcases List.mem_cons.1 hc with rfl | hc
  ·
   rfl
  ·
   rw [hx] at h; exact ih hd.2 h c hc
theorem yr_back {l : List UInt8} (h : isY l = true) : Tx.yr (yv l) = l := by
 obtain ⟨a, b, c, d⟩ := isY_iff.1 h
 have e := Tx.dg4 c a b
 cases hp : hasPrefix l [45]
 ·
  rw [hp_none hp] at a b c d e
  unfold Tx.yr yv
  rw [hp, hp_none hp]
  simp only [Bool.false_eq_true, if_false]
  rw [if_neg (by omega), e]
 ·
  have hpos : Num.val 0 (trimPrefix l [45]) ≠ 0 := by
   intro h0
   have hz := val_zero c h0
   by_cases h4 : 4 < (trimPrefix l [45]).length
   ·
    refine b h4 ?_
    cases ht : trimPrefix l [45] with
    | nil => rw [ht] at h4; cases h4
    | cons x r => rw [hz x (by rw [ht]; exact List.mem_cons_self ..)]; rfl
   ·
    refine d hp ?_
    have : trimPrefix l [45] = List.replicate 4 48 := List.eq_replicate_iff.2 ⟨by omega, hz⟩
    exact this
  unfold Tx.yr yv
  rw [hp]
  simp only [if_true]
  rw [if_pos (by omega), Int.neg_neg, e]
  exact (hp_split hp).symm
end Rd
end Go.Proofs.YtjggjkeopbcmoaaGreatDoor
set_option linter.unusedVariables false
namespace Go.Proofs.YtjggjkeopbcmoaaGreatDoor.Num
open Go.RowKit Go.Lib
def rd (l : List UInt8) : Int × Int := if isT l then (match parseIntB 64 l with | .ok v => (v, 0) | _ => (0, 1)) else (0, 2)
end Go.Proofs.YtjggjkeopbcmoaaGreatDoor.Num
set_option linter.unusedVariables false
set_option linter.unusedSimpArgs false
namespace Go.Proofs.YtjggjkeopbcmoaaGreatDoor
open Go.RowKit
namespace Num
end Num
end Go.Proofs.YtjggjkeopbcmoaaGreatDoor
set_option linter.unusedVariables false
namespace Go.Proofs
open Go.Shelf
theorem Tryz.parseInt_ok (s : ByteArray) (hmax : s.size ≤ 9223372036854775806) (v : Int) (h : Lib.parseIntB 64 s.data.toList = .ok v) (w : World) :
  Calls Tryz.prog 163 #[.string s, .int .i64 10, .int .i64 64] w fun e w' => e = .returned (.tuple #[.int .i64 v, .nilIface]) ∧ RowKit.Below w.heap.size w w' :=
 (Any.strconv_ParseInt_10_at64_ok Tryz.laysC174 s hmax v h w).mono fun _ _ ⟨h, k⟩ => ⟨h, by
  rcases k with e | ⟨t, e⟩
  ·
   rw [e]; exact RowKit.Below.refl _ _
  ·
   rw [e]; exact Lib.bytesWorld_below _ _ _⟩
theorem Tryz.parseInt_range (s : ByteArray) (hlim : s.size ≤ 281474976710656) (h : Lib.parseIntB 64 s.data.toList = .range) (tp : TypeId) (p : Value) (w : World) (hvar : w.var? Tryz.prog "strconv.ErrRange" = some #[.iface tp p]) :
  Calls Tryz.prog 163 #[.string s, .int .i64 10, .int .i64 64] w fun e w' => (∃ N, e = .returned (.tuple #[.int .i64 (Lib.intSat 64 s.data.toList), .iface 200 (.pointer (some ⟨N, 0, none⟩))])) ∧ RowKit.Below w.heap.size w w' :=
 (Any.strconv_ParseInt_10_at64_range_var Tryz.laysC174 s hlim h tp p w hvar).mono fun _ _ ⟨N, h, _, _, b⟩ => ⟨⟨N, h⟩, b⟩
end Go.Proofs
set_option linter.unusedVariables false
set_option linter.unusedSimpArgs false
namespace Go.Proofs.YtjggjkeopbcmoaaGreatDoor
open Go.RowKit
set_option maxHeartbeats 4000000 in
theorem isText_any (s : ByteArray) (w : World) (hs : s.size ≤ maxLen) :
  Calls Tryz.prog 162 #[.string s] w fun e w' => e = .returned (.bool (Num.isT s.data.toList)) ∧ ∃ k, w' = w.drewN k := by
 rw [show Num.isT s.data.toList = Num.numT (Lib.hasPrefix s.data.toList [45]) (Lib.trimPrefix s.data.toList [45]) from rfl]
 have hl : (Lib.trimPrefix s.data.toList [45]).length ≤ s.size := by
  unfold Lib.trimPrefix
  have : s.data.toList.length = s.size := by simp
  split
  ·
   rw [List.length_drop]; omega
  ·
   omega
 obtain ⟨b, hb⟩ : ∃ b, Lib.hasPrefix s.data.toList [45] = b := ⟨_, rfl⟩
 obtain ⟨l, hl2⟩ : ∃ l, Lib.trimPrefix s.data.toList [45] = l := ⟨_, rfl⟩
 rw [hl2] at hl
 rw [hb, hl2]
 have HB := Lib.hid hb; have HL := Lib.hid hl2; clear hb hl2
 obtain ⟨ds, hds⟩ : ∃ ds : ByteArray, ds = ⟨l.toArray⟩ := ⟨_, rfl⟩
 have hdl : l = ds.data.toList := by rw [hds]
 have hsz : ds.size ≤ s.size := by rw [hds]; show l.toArray.size ≤ s.size; rw [List.size_toArray]; exact hl
 have HD := Lib.hid hds; clear hds
 unfold maxLen at hs
 rw [hdl]
 have HDL := Lib.hid hdl; clear hdl hl
 rcases Nat.eq_zero_or_pos ds.size with hz | hz
 ·
  have hnil : ds.data.toList = [] := by rw [← List.length_eq_zero_iff, dlen]; exact hz
  have ht : ds.toList = [] := by rw [ByteArray.toList_eq]; exact hnil
  have hte : ds.toList.isEmpty = true := by rw [ht]; rfl
  rw [hnil]
  have HZ := Lib.hid hz; clear hz hnil
  go_enter Tryz.func162, Tryz.ntmps162
  go_wp2_with fail
  refine (cutPrefix _ _ _).mono ?_; rintro e w1 ⟨rfl, rfl⟩
  rw [show (⟨#[45]⟩ : ByteArray).data.toList = [45] from rfl, HB.out, HL.out, ← HD.out]
  clear HB HL
  go_wp2_with fail
  go_ret
  exact ⟨rfl, 0, rfl⟩
 ·
  obtain ⟨t1, t2⟩ := dne hz
  by_cases h48 : ds[0].toNat = 48
  ·
   have h48' : ((ds[0].toNat : Int) == 48) = true := by rw [beq_iff_eq]; omega
   cases hbb : b
   ·
    by_cases h1 : 1 < ds.size
    ·
     have h1i : (1 : Int) < (ds.size : Int) := by omega
     have hno := front_no (b := false) hz h48 (.inr h1)
     have HN := Lib.hid hno; clear hno
     rw [hbb] at HB
     clear hbb
     have H48 := Lib.hid h48; clear h48
     go_enter Tryz.func162, Tryz.ntmps162
     go_wp2_with fail
     refine (cutPrefix _ _ _).mono ?_; rintro e w1 ⟨rfl, rfl⟩
     rw [show (⟨#[45]⟩ : ByteArray).data.toList = [45] from rfl, HB.out, HL.out, ← HD.out]
     clear HB HL
     go_wp2_with fail
     go_ret
     refine ⟨?_, 0, rfl⟩
     rw [HN.out]
     all_goals rfl
    ·
     have h1i : (ds.size : Int) ≤ 1 := by omega
     have hf := front (b := false) hz (fun _ => ⟨rfl, by omega⟩)
     have HF := Lib.hid hf; clear hf
     rw [hbb] at HB
     clear hbb
     have H48 := Lib.hid h48; clear h48
     go_enter Tryz.func162, Tryz.ntmps162
     go_wp2_with fail
     refine (cutPrefix _ _ _).mono ?_; rintro e w1 ⟨rfl, rfl⟩
     rw [show (⟨#[45]⟩ : ByteArray).data.toList = [45] from rfl, HB.out, HL.out, ← HD.out]
     clear HB HL
     go_wp2_with fail
     go_loop [28] (fun i => ∃ k : Nat, k ≤ ds.size ∧ i = .int .i64 k ∧ (ds.data.toList.take k).all Num.dig = true) (fun i => ds.size - (intOf i).toNat)
     case atStart => exact ⟨0, Nat.zero_le _, rfl, rfl⟩
     case round =>
      obtain ⟨k, hk, rfl, hall⟩ := hrel
      have HA := Lib.hid hall; clear hall
      by_cases hlt : k < ds.size
      ·
       by_cases h1 : (ds[k].toNat : Int) < 48
       ·
        have hno : ds.data.toList.all Num.dig = false := not_all hlt (by omega)
        have HN := Lib.hid hno; clear hno
        go_wp2
        go_ret
        refine ⟨?_, 0, rfl⟩
        rw [HF.out, HN.out]
        all_goals rfl
       ·
        by_cases h2 : 57 < (ds[k].toNat : Int)
        ·
         have hno : ds.data.toList.all Num.dig = false := not_all hlt (by omega)
         have HN := Lib.hid hno; clear hno
         go_wp2
         go_ret
         refine ⟨?_, 0, rfl⟩
         rw [HF.out, HN.out]
         all_goals rfl
        ·
         have hst : (ds.data.toList.take (k + 1)).all Num.dig = true := take_all hlt HA.out (by omega)
         have HS := Lib.hid hst; clear hst
         go_wp2
         go_round
         case rel => exact ⟨k + 1, by omega, by go_num, HS.out⟩
         case measure => simp [intOf]; omega
      ·
       have hend : ds.data.toList.all Num.dig = true := by
        have := HA.out
        rwa [List.take_of_length_le (by rw [dlen]; omega)] at this
       have HE := Lib.hid hend; clear hend
       go_wp2
       go_ret
       refine ⟨?_, 0, rfl⟩
       rw [HF.out, HE.out]
       all_goals rfl
   ·
    have hno := front_no (b := true) hz h48 (.inl rfl)
    have HN := Lib.hid hno; clear hno
    rw [hbb] at HB
    clear hbb
    have H48 := Lib.hid h48; clear h48
    go_enter Tryz.func162, Tryz.ntmps162
    go_wp2_with fail
    refine (cutPrefix _ _ _).mono ?_; rintro e w1 ⟨rfl, rfl⟩
    rw [show (⟨#[45]⟩ : ByteArray).data.toList = [45] from rfl, HB.out, HL.out, ← HD.out]
    clear HB HL
    go_wp2_with fail
    go_ret
    refine ⟨?_, 0, rfl⟩
    rw [HN.out]
    all_goals rfl
  ·
   have h48' : ((ds[0].toNat : Int) == 48) = false := by rw [beq_eq_false_iff_ne]; omega
   have hf := front (b := b) hz (fun h => absurd h h48)
   have HF := Lib.hid hf; clear hf
   clear h48
   go_enter Tryz.func162, Tryz.ntmps162
   go_wp2_with fail
   refine (cutPrefix _ _ _).mono ?_; rintro e w1 ⟨rfl, rfl⟩
   rw [show (⟨#[45]⟩ : ByteArray).data.toList = [45] from rfl, HB.out, HL.out, ← HD.out]
   clear HB HL
   go_wp2_with fail
   go_loop [28] (fun i => ∃ k : Nat, k ≤ ds.size ∧ i = .int .i64 k ∧ (ds.data.toList.take k).all Num.dig = true) (fun i => ds.size - (intOf i).toNat)
   case atStart => exact ⟨0, Nat.zero_le _, rfl, rfl⟩
   case round =>
    obtain ⟨k, hk, rfl, hall⟩ := hrel
    have HA := Lib.hid hall; clear hall
    by_cases hlt : k < ds.size
    ·
     by_cases h1 : (ds[k].toNat : Int) < 48
     ·
      have hno : ds.data.toList.all Num.dig = false := not_all hlt (by omega)
      have HN := Lib.hid hno; clear hno
      go_wp2
      go_ret
      refine ⟨?_, 0, rfl⟩
      rw [HF.out, HN.out]
      all_goals rfl
     ·
      by_cases h2 : 57 < (ds[k].toNat : Int)
      ·
       have hno : ds.data.toList.all Num.dig = false := not_all hlt (by omega)
       have HN := Lib.hid hno; clear hno
       go_wp2
       go_ret
       refine ⟨?_, 0, rfl⟩
       rw [HF.out, HN.out]
       all_goals rfl
      ·
       have hst : (ds.data.toList.take (k + 1)).all Num.dig = true := take_all hlt HA.out (by omega)
       have HS := Lib.hid hst; clear hst
       go_wp2
       go_round
       case rel => exact ⟨k + 1, by omega, by go_num, HS.out⟩
       case measure => simp [intOf]; omega
    ·
     have hend : ds.data.toList.all Num.dig = true := by
      have := HA.out
      rwa [List.take_of_length_le (by rw [dlen]; omega)] at this
     have HE := Lib.hid hend; clear hend
     go_wp2
     go_ret
     refine ⟨?_, 0, rfl⟩
     rw [HF.out, HE.out]
     all_goals rfl
set_option maxHeartbeats 1000000 in
theorem read_no (s : ByteArray) (w : World) (hs : s.size ≤ maxLen) (ht : Num.isT s.data.toList = false) :
  Calls Tryz.prog 134 #[.string s] w fun e w' => e = .returned (.tuple #[.int .i64 0, .int .i64 2]) ∧ Below w.heap.size w w' := by
 have HT := Lib.hid ht; clear ht
 go_enter Tryz.func134, Tryz.ntmps134
 go_wp2_with fail
 refine (isText_any _ _ hs).mono ?_; rintro e w1 ⟨rfl, k, rfl⟩
 rw [HT.out]
 go_wp2_with fail
 go_ret2
 exact ⟨rfl, below_draw _ _⟩
set_option maxHeartbeats 1000000 in
theorem read_ok (s : ByteArray) (v : Int) (w : World) (hs : s.size ≤ maxLen) (ht : Num.isT s.data.toList = true) (h : Lib.parseIntB 64 s.data.toList = .ok v) (hm : s.size ≤ 9223372036854775806) :
  Calls Tryz.prog 134 #[.string s] w fun e w' => e = .returned (.tuple #[.int .i64 v, .int .i64 0]) ∧ Below w.heap.size w w' := by
 have HT := Lib.hid ht; have H := Lib.hid h; have HM := Lib.hid hm; clear ht h hm
 go_enter Tryz.func134, Tryz.ntmps134
 go_wp2_with fail
 refine (isText_any _ _ hs).mono ?_; rintro e w1 ⟨rfl, k, rfl⟩
 rw [HT.out]
 go_wp2_with fail
 refine (Tryz.parseInt_ok _ HM.out v H.out _).mono ?_; rintro e w2 ⟨rfl, b2⟩
 have B2 := Lib.hid (below_step (below_draw w k) b2)
 clear b2
 go_wp2_with fail
 go_ret2
 exact ⟨rfl, B2.out⟩
set_option maxHeartbeats 1000000 in
theorem read_range (s : ByteArray) (w : World) (hs : s.size ≤ maxLen) (ht : Num.isT s.data.toList = true) (h : Lib.parseIntB 64 s.data.toList = .range) (hm : s.size ≤ 281474976710656) (tp : TypeId) (p : Value) (hvar : w.var? Tryz.prog "strconv.ErrRange" = some #[.iface tp p]) :
  Calls Tryz.prog 134 #[.string s] w fun e w' => e = .returned (.tuple #[.int .i64 0, .int .i64 1]) ∧ Below w.heap.size w w' := by
 have HT := Lib.hid ht; have H := Lib.hid h; have HM := Lib.hid hm; have HV := Lib.hid hvar; clear ht h hm hvar
 go_enter Tryz.func134, Tryz.ntmps134
 go_wp2_with fail
 refine (isText_any _ _ hs).mono ?_; rintro e w1 ⟨rfl, k, rfl⟩
 rw [HT.out]
 go_wp2_with fail
 refine (Tryz.parseInt_range _ HM.out H.out tp p _ (var_keep (below_draw w k) HV.out)).mono ?_; rintro e w2 ⟨⟨N, rfl⟩, b2⟩
 have B2 := Lib.hid (below_step (below_draw w k) b2)
 clear b2
 go_wp2_with fail
 go_ret2
 exact ⟨rfl, B2.out⟩
namespace Num
end Num
theorem read_any (s : ByteArray) (w : World) (hs : s.size ≤ 1000) (tp : TypeId) (p : Value) (hvar : w.var? Tryz.prog "strconv.ErrRange" = some #[.iface tp p]) :
  Calls Tryz.prog 134 #[.string s] w fun e w' => e = .returned (.tuple #[.int .i64 (Num.rd s.data.toList).1, .int .i64 (Num.rd s.data.toList).2]) ∧ Below w.heap.size w w' := by
 have hml : s.size ≤ maxLen := by unfold maxLen; omega
 unfold Num.rd
 cases ht : Num.isT s.data.toList
 ·
  exact read_no s w hml ht
 ·
  rcases Num.isT_read ht with h | ⟨x, h, -⟩
  ·
   rw [h]; exact read_range s w hml ht h (by omega) tp p hvar
  ·
   rw [h]; exact read_ok s x w hml ht h (by omega)
end Go.Proofs.YtjggjkeopbcmoaaGreatDoor
set_option linter.unusedVariables false
set_option linter.unusedSimpArgs false
namespace Go.Proofs.YtjggjkeopbcmoaaGreatDoor.Wd
open Go
def sm (b : UInt8) : Int := if 65 ≤ (b.toNat : Int) ∧ (b.toNat : Int) ≤ 90 then (b.toNat : Int) + 32 else b.toNat
def beg : List UInt8 → List UInt8 → Bool
 | _, [] => true
 | [], _ :: _ => false
 | w :: ws, s :: ss => decide (sm w = sm s) && beg ws ss
def same (a b : List UInt8) : Bool := decide (a.length = b.length) && beg a b
theorem beg_short : ∀ {a b : List UInt8}, a.length < b.length → beg a b = false := by
 intro a
 induction a with
 | nil => intro b h; cases b with
  | nil => simp at h
  | cons x b => rfl
 | cons w a ih => intro b h; cases b with
  | nil => simp at h
  | cons x b => simp only [beg, ih (by simpa using h), Bool.and_false]
theorem beg_iff : ∀ {a b : List UInt8}, beg a b = true ↔ b.length ≤ a.length ∧ ∀ i (h1 : i < a.length) (h2 : i < b.length), sm a[i] = sm b[i] := by
 intro a
 induction a with
 | nil => intro b; cases b with
  | nil => simp [beg]
  | cons x b => simp [beg]
 | cons w a ih => intro b; cases b with
  | nil => simp [beg]
  | cons x b =>
   simp only [beg, Bool.and_eq_true, decide_eq_true_eq, ih, List.length_cons]
   constructor
   ·
    rintro ⟨h, hl, hi⟩
    refine ⟨by omega, ?_⟩
    intro i h1 h2
    cases i with
    | zero => exact h
    | succ i => exact hi i (by omega) (by omega)
   ·
    rintro ⟨hl, hi⟩
    exact ⟨hi 0 (by omega) (by omega), by omega, fun i h1 h2 => hi (i + 1) (by omega) (by omega)⟩
theorem beg_no {a b : List UInt8} {i : Nat} (h1 : i < a.length) (h2 : i < b.length) (h : sm a[i] ≠ sm b[i]) : beg a b = false := by
 cases hb : beg a b
 ·
  rfl
 ·
  exact absurd ((beg_iff.1 hb).2 i h1 h2) h
theorem beg_yes {a b : List UInt8} (hl : b.length ≤ a.length) (h : ∀ i (h1 : i < a.length) (h2 : i < b.length), sm a[i] = sm b[i]) : beg a b = true := beg_iff.2 ⟨hl, h⟩
theorem same_iff {a b : List UInt8} : same a b = true ↔ a.length = b.length ∧ ∀ i (h1 : i < a.length) (h2 : i < b.length), sm a[i] = sm b[i] := by
 unfold same
 rw [Bool.and_eq_true, decide_eq_true_eq, beg_iff]
 constructor
 ·
  rintro ⟨h, -, hi⟩; exact ⟨h, hi⟩
 ·
  rintro ⟨h, hi⟩; exact ⟨h, by omega, hi⟩
theorem same_comm (a b : List UInt8) : same a b = same b a := by
 rw [Bool.eq_iff_iff, same_iff, same_iff]
 constructor <;> rintro ⟨h, hi⟩ <;> exact ⟨h.symm, fun i h1 h2 => (hi i h2 h1).symm⟩
theorem same_refl (a : List UInt8) : same a a = true := same_iff.2 ⟨rfl, fun _ _ _ => rfl⟩
def exact : List (List UInt8) → Nat → List UInt8 → Option Nat
 | [], _, _ => none
 | w :: ws, i, s => if same w s then some i else exact ws (i + 1) s
def first : List (List UInt8) → Nat → List UInt8 → Option Nat
 | [], _, _ => none
 | w :: ws, i, s => if beg w s then some i else first ws (i + 1) s
def mt (s : List UInt8) (ws : List (List UInt8)) : Option Nat :=
 if s = [] then none else
 match exact ws 0 s with
 | some i => some i
 | none => match first ws 0 s with
  | none => none
  | some i => if ws.all (fun w => !beg w s || same (ws.getD i []) w) then some i else none
end Go.Proofs.YtjggjkeopbcmoaaGreatDoor.Wd
set_option linter.unusedVariables false
set_option linter.unusedSimpArgs false
namespace Go.Proofs.YtjggjkeopbcmoaaGreatDoor
open Go.RowKit
theorem blen (a : ByteArray) : a.data.toList.length = a.size := Array.length_toList
theorem bget {a : ByteArray} {k : Nat} (h : k < a.size) : a.data.toList[k]'(by rw [blen]; exact h) = a[k] := rfl
set_option maxHeartbeats 1000000 in
theorem small_any (b : UInt8) (w : World) : Calls Tryz.prog 164 #[.int .u8 b.toNat] w fun e w' => e = .returned (.int .u8 (Wd.sm b)) ∧ w = w' := by
 have hb := b.toNat_lt
 obtain ⟨n, hn⟩ : ∃ n : Int, n = b.toNat := ⟨_, rfl⟩
 have E : Wd.sm b = if 65 ≤ n ∧ n ≤ 90 then n + 32 else n := by unfold Wd.sm; rw [hn]
 rw [E, ← hn]
 have n0 : 0 ≤ n := by omega
 have n1 : n < 256 := by omega
 clear E hn hb
 by_cases c1 : 65 ≤ n
 ·
  by_cases c2 : n ≤ 90
  ·
   rw [if_pos ⟨c1, c2⟩]
   go_enter Tryz.func164, Tryz.ntmps164
   go_wp2
   go_ret
   exact ⟨by first | rfl | (show Ending.returned (.int .u8 (n - 65 + 97)) = _; rw [show n - 65 + 97 = n + 32 by omega]), rfl⟩
  ·
   rw [if_neg (fun h => c2 h.2)]
   have g : decide (n ≤ 90) = false := decide_eq_false c2
   go_enter Tryz.func164, Tryz.ntmps164
   go_wp2
   go_ret
   exact ⟨rfl, rfl⟩
 ·
  rw [if_neg (fun h => c1 h.1)]
  have g : decide (65 ≤ n) = false := decide_eq_false c1
  go_enter Tryz.func164, Tryz.ntmps164
  go_wp2
  go_ret
  exact ⟨rfl, rfl⟩
set_option maxHeartbeats 2000000 in
set_option maxRecDepth 100000 in
theorem begins_any (a b : ByteArray) (w : World) (ha : a.size ≤ maxLen) (hb : b.size ≤ maxLen) :
  Calls Tryz.prog 136 #[.string a, .string b] w fun e w' => e = .returned (.bool (Wd.beg a.data.toList b.data.toList)) ∧ ∃ k, w' = w.drewN k := by
 unfold maxLen at ha hb
 by_cases hs : (a.size : Int) < (b.size : Int)
 ·
  rw [Wd.beg_short (by rw [blen, blen]; omega)]
  go_enter Tryz.func136, Tryz.ntmps136
  go_wp2
  go_ret
  exact ⟨rfl, 0, rfl⟩
 ·
  obtain ⟨ans, hans⟩ : ∃ ans, ans = Wd.beg a.data.toList b.data.toList := ⟨_, rfl⟩
  rw [← hans]
  have HA := Lib.hid hans; clear hans
  go_enter Tryz.func136, Tryz.ntmps136
  go_wp2_with fail
  go_loopw [13] (fun i wr => ∃ k j : Nat, k ≤ b.size ∧ i = .int .i64 k ∧ (∀ i (h1 : i < a.data.toList.length) (h2 : i < b.data.toList.length), i < k → Wd.sm a.data.toList[i] = Wd.sm b.data.toList[i]) ∧ wr = w.drewN j) (fun i _ => b.size - (intOf i).toNat)
  case atStart => exact ⟨0, 0, Nat.zero_le _, rfl, fun i _ _ h => absurd h (Nat.not_lt_zero _), rfl⟩
  case round =>
   obtain ⟨k, j, hk, rfl, hall, hw⟩ := hrel
   have HL := Lib.hid hall; have HW := Lib.hid hw; clear hall hw
   by_cases hlt : k < b.size
   ·
    have hlta : k < a.size := by omega
    by_cases he : Wd.sm a[k] = Wd.sm b[k]
    ·
     have HE := Lib.hid he
     have g : (Wd.sm a[k] == Wd.sm b[k]) = true := by rw [beq_iff_eq]; exact he
     clear he
     go_wp2_with fail
     go_quiet ((go_at_call 164; exact Calls.quiet_of_same ((small_any _ _).mono fun _ _ ⟨h1, h2⟩ => ⟨h1, h2.symm⟩)))
     go_wp2_with fail
     go_roundw
     case rel =>
      refine ⟨k + 1, _, by omega, by go_num, ?_, by rw [HW.out, World.drewN_drewN]⟩
      intro i h1 h2 h3
      by_cases hik : i = k
      ·
       subst hik; exact HE.out
      ·
       exact HL.out i h1 h2 (by omega)
     case measure => simp [intOf]; omega
    ·
     have g : (Wd.sm a[k] == Wd.sm b[k]) = false := by rw [beq_eq_false_iff_ne]; exact he
     have hno : ans = false := by
      rw [HA.out]
      exact Wd.beg_no (i := k) (by rw [blen]; exact hlta) (by rw [blen]; exact hlt) (by rw [bget hlta, bget hlt]; exact he)
     have HN := Lib.hid hno
     clear hno he
     go_wp2_with fail
     go_quiet ((go_at_call 164; exact Calls.quiet_of_same ((small_any _ _).mono fun _ _ ⟨h1, h2⟩ => ⟨h1, h2.symm⟩)))
     go_wp2_with fail
     go_ret
     exact ⟨by rw [HN.out]; rfl, _, by rw [HW.out, World.drewN_drewN]⟩
   ·
    have hyes : ans = true := by
     rw [HA.out]
     exact Wd.beg_yes (by rw [blen, blen]; omega) (fun i h1 h2 => HL.out i h1 h2 (by rw [blen] at h2; omega))
    have HY := Lib.hid hyes; clear hyes
    go_wp2_with fail
    go_ret
    exact ⟨by rw [HY.out]; rfl, _, HW.out⟩
set_option maxHeartbeats 1000000 in
theorem wsame_any (a b : ByteArray) (w : World) (ha : a.size ≤ maxLen) (hb : b.size ≤ maxLen) :
  Calls Tryz.prog 135 #[.string a, .string b] w fun e w' => e = .returned (.bool (Wd.same a.data.toList b.data.toList)) ∧ ∃ k, w' = w.drewN k := by
 have C := Lib.hid (fun w => begins_any a b w ha hb)
 have E := Lib.hid (show Wd.same a.data.toList b.data.toList = (decide (a.size = b.size) && Wd.beg a.data.toList b.data.toList) by unfold Wd.same; rw [blen, blen])
 generalize Wd.same a.data.toList b.data.toList = ans at E
 generalize Wd.beg a.data.toList b.data.toList = bg at C E
 by_cases hs : a.size = b.size
 ·
  have g : ((a.size : Int) == (b.size : Int)) = true := by rw [beq_iff_eq]; omega
  have E2 := Lib.hid (show ans = bg by rw [E.out, hs]; simp)
  clear E hs
  go_enter Tryz.func135, Tryz.ntmps135
  go_wp2_with fail
  refine (C.out _).mono ?_; rintro e w1 ⟨rfl, k, rfl⟩
  go_wp2_with fail
  go_ret
  exact ⟨by rw [E2.out]; rfl, k, rfl⟩
 ·
  have g : ((a.size : Int) == (b.size : Int)) = false := by rw [beq_eq_false_iff_ne]; omega
  have E2 := Lib.hid (show ans = false by rw [E.out, decide_eq_false hs]; rfl)
  clear E hs
  go_enter Tryz.func135, Tryz.ntmps135
  go_wp2_with fail
  go_ret
  exact ⟨by rw [E2.out]; rfl, 0, rfl⟩
end Go.Proofs.YtjggjkeopbcmoaaGreatDoor
