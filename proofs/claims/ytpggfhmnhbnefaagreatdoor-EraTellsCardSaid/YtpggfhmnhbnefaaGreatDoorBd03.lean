/- Joined: By0, FoA, Shelf, NumM, NumA, Byt, NumN, Tx, RdM, RnM, RnD. -/
import Derived.Test.YtpggfhmnhbnefaaGreatDoorBd01
import Derived.Test.YtpggfhmnhbnefaaGreatDoorLaidK
import Derived.Laws.RangeAny
import Derived.Shelf.Small.Strs
import Derived.Shelf.Strconv.Itoa4
import Derived.Shelf.Small.Wraps
import Derived.Lib.AppendIntMem
import Derived.Lib.AtoiErrMem
import Derived.Test.YtpggfhmnhbnefaaGreatDoorProg
import Derived.Test.YtpggfhmnhbnefaaGreatDoorLaid
import Derived.Lib.ItoaNum
import Derived.Lib.ParseIntB
import Derived.Lib.Strings
import Derived.Lib.ItoaLen
set_option linter.unusedVariables false
set_option linter.unusedSimpArgs false
namespace Go.Proofs.YtpggfhmnhbnefaaGreatDoor
open Go.RowKit
theorem ab_len (a : ByteArray) : a.data.toList.length = a.size := Array.length_toList
theorem ab_drop (a : ByteArray) (k : Nat) (h : k < a.size) : a.data.toList.drop k = a[k] :: a.data.toList.drop (k + 1) := by
 rw [List.drop_eq_getElem_cons (by rw [ab_len]; exact h)]
 rfl
theorem dne {ds : ByteArray} (h : 0 < ds.size) : ds.toList.isEmpty = false ∧ ¬ ds.toList = [] := by
 have : ds.toList ≠ [] := by
  intro e
  have hl := ab_len ds
  rw [← ByteArray.toList_eq] at hl
  rw [e] at hl; simp at hl; omega
 exact ⟨by simpa using this, this⟩
theorem rn_ix (a : ByteArray) (k : Nat) (h : k < a.size) (w : World) : Sem.run Tryz.prog (Instr.index 9 (.string a) (.int .i64 (k : Int))) w = .ok (.int .u8 a[k].toNat) w := by
 rw [run_index_string w _ _ _ _ Tryz.underlying9, dif_pos ⟨by omega, by omega⟩]
 simp
namespace Fo
def isL (c : Int) : Bool := (decide (65 ≤ c) && decide (c ≤ 90)) || ((decide (97 ≤ c) && decide (c ≤ 122)) || (decide (48 ≤ c) && decide (c ≤ 57)))
def isB (c : UInt8) : Bool := isL (c.toNat : Int)
def mdA (sg : List UInt8) (l : List UInt8) : Bool := l.all fun c => isB c || sg.contains c
def made (sg : List UInt8) (l : List UInt8) : Bool := mdA sg l && !l.isEmpty
theorem ix_key (c : UInt8) : ∀ l : List UInt8, (Lib.indexByte l c = -1 ∧ l.contains c = false) ∨ (0 ≤ Lib.indexByte l c ∧ l.contains c = true)
 | [] => .inl ⟨rfl, rfl⟩
 | b :: r => by
  unfold Lib.indexByte
  by_cases h : b = c
  ·
   subst h; right; simp
  ·
   have h2 : (b == c) = false := by rw [beq_eq_false_iff_ne]; exact h
   have h3 : (c == b) = false := by rw [beq_eq_false_iff_ne]; exact fun e => h e.symm
   rw [h2, List.contains_cons, h3, Bool.false_or]
   rcases ix_key c r with ⟨a, d⟩ | ⟨a, d⟩
   ·
    left; rw [a]; exact ⟨rfl, d⟩
   ·
    right
    have h4 : (Lib.indexByte r c == -1) = false := by rw [beq_eq_false_iff_ne]; omega
    rw [h4]
    refine ⟨?_, d⟩
    show 0 ≤ Lib.indexByte r c + 1
    omega
theorem ix_neg (sg : List UInt8) (c : UInt8) : decide (Lib.indexByte sg c < 0) = !(sg.contains c) := by
 rcases ix_key c sg with ⟨a, d⟩ | ⟨a, d⟩
 ·
  rw [a, d]; rfl
 ·
  rw [d, decide_eq_false (by omega)]; rfl
end Fo
set_option maxHeartbeats 2000000 in
theorem isLD_any (c : Int) (w : World) (h0 : 0 ≤ c) (h1 : c ≤ 255) :
  Calls Tryz.prog 181 #[.int .u8 c] w fun e w' => e = .returned (.bool (Fo.isL c)) ∧ w = w' := by
 unfold Fo.isL
 by_cases a0 : 65 ≤ c <;> by_cases a1 : c ≤ 90 <;> by_cases b0 : 97 ≤ c <;> by_cases b1 : c ≤ 122 <;> by_cases d0 : 48 ≤ c <;> by_cases d1 : c ≤ 57
 all_goals try (exfalso; omega)
 all_goals
  go_enter Tryz.func181, Tryz.ntmps181
  go_wp2_with fail
  all_goals first | (exfalso; omega) | (go_ret; exact ⟨by simp [a0, a1, b0, b1, d0, d1], rfl⟩)
set_option maxHeartbeats 4000000 in
set_option maxRecDepth 100000 in
theorem made_any (s sg : ByteArray) (w : World) (hs : s.size ≤ 100000) :
  Calls Tryz.prog 142 #[.string s, .string sg] w fun e w' => e = .returned (.bool (Fo.made sg.data.toList s.data.toList)) ∧ w = w' := by
 obtain ⟨ans, hans⟩ : ∃ ans, ans = Fo.made sg.data.toList s.data.toList := ⟨_, rfl⟩
 rw [← hans]
 have HA := Lib.hid (show ans = (Fo.mdA sg.data.toList s.data.toList && !s.data.toList.isEmpty) from hans)
 have HE : Hid (0 < s.size → (!s.data.toList.isEmpty) = true) := fun h => by
  have := ab_len s
  cases hl : s.data.toList with
  | nil => rw [hl] at this; simp at this; omega
  | cons _ _ => rfl
 have HZ : Hid (s.size = 0 → (!s.data.toList.isEmpty) = false ∧ s = ⟨#[]⟩) := fun h => by
  have e : s.data.toList = [] := by rw [← List.length_eq_zero_iff, ab_len]; exact h
  exact ⟨by rw [e]; rfl, by apply ByteArray.ext; apply Array.toList_inj.1; rw [e]⟩
 clear hans
 go_enter Tryz.func142, Tryz.ntmps142
 go_wp2_with fail
 go_loopw [8] (fun i wr => ∃ k : Nat, k ≤ s.size ∧ i = .int .i64 k ∧ Hid (Fo.mdA sg.data.toList (s.data.toList.drop k) = Fo.mdA sg.data.toList s.data.toList) ∧ wr = w) (fun i _ => s.size - (intOf i).toNat)
 case atStart => exact ⟨0, Nat.zero_le _, rfl, Lib.hid rfl, rfl⟩
 case round =>
  obtain ⟨k, hk, rfl, hr, hw⟩ := hrel
  obtain rfl : w = wr := hw.symm
  by_cases hlt : k < s.size
  ·
   have IX := fun W => rn_ix s k hlt W
   have hn : ((Fo.isB s[k] || sg.data.toList.contains s[k]) && Fo.mdA sg.data.toList (s.data.toList.drop (k + 1))) = Fo.mdA sg.data.toList s.data.toList := by rw [← hr.out, ab_drop s k hlt]; rfl
   have hc := s[k].toNat_lt
   have CL : Hid (∀ W, Calls Tryz.prog 181 #[.int .u8 (s[k].toNat : Int)] W fun e w' => e = .returned (.bool (Fo.isB s[k])) ∧ W = w') := fun W => isLD_any _ W (by omega) (by omega)
   have CI : Hid (∀ W, Calls Tryz.prog 156 #[.string sg, .int .u8 (s[k].toNat : Int)] W fun e w' => e = .returned (.int .i64 (Lib.indexByte sg.data.toList s[k])) ∧ W = w') := fun W =>
    (Any.strings_IndexByte Tryz.lays137 sg (s[k].toNat : Int) W).mono fun e w' ⟨h, h2⟩ => ⟨by rw [h]; congr 3; simp, h2.symm⟩
   have hx := Fo.ix_neg sg.data.toList s[k]
   generalize sg.data.toList.contains s[k] = b2 at hn hx
   generalize Lib.indexByte sg.data.toList s[k] = ix at CI hx
   generalize Fo.isB s[k] = b1 at hn CL
   have HN := Lib.hid hn
   clear hn
   cases b1
   ·
    cases b2
    ·
     have hno := Lib.hid (show ans = false by rw [HA.out, ← HN.out]; rfl)
     have hxx : ix < 0 := of_decide_eq_true hx
     clear HN hx
     go_wp2_with fail
     refine (CL.out _).mono ?_; rintro e w1 ⟨rfl, rfl⟩
     go_wp2_with fail
     refine (CI.out _).mono ?_; rintro e w1 ⟨rfl, rfl⟩
     go_wp2_with fail
     go_ret
     exact ⟨by rw [hno.out]; rfl, rfl⟩
    ·
     have hxx : ¬ ix < 0 := of_decide_eq_false hx
     have HN2 := Lib.hid (show Fo.mdA sg.data.toList (s.data.toList.drop (k + 1)) = Fo.mdA sg.data.toList s.data.toList by rw [← HN.out]; rfl)
     clear HN hx
     go_wp2_with fail
     refine (CL.out _).mono ?_; rintro e w1 ⟨rfl, rfl⟩
     go_wp2_with fail
     refine (CI.out _).mono ?_; rintro e w1 ⟨rfl, rfl⟩
     go_wp2_with fail
     go_roundw
     case rel => exact ⟨k + 1, by omega, by go_num, HN2, by first | rfl | trivial⟩
     case measure => simp [intOf]; omega
   ·
    have HN2 := Lib.hid (show Fo.mdA sg.data.toList (s.data.toList.drop (k + 1)) = Fo.mdA sg.data.toList s.data.toList by rw [← HN.out]; simp)
    clear HN hx CI
    go_wp2_with fail
    refine (CL.out _).mono ?_; rintro e w1 ⟨rfl, rfl⟩
    go_wp2_with fail
    go_roundw
    case rel => exact ⟨k + 1, by omega, by go_num, HN2, by first | rfl | trivial⟩
    case measure => simp [intOf]; omega
  ·
   have hall := Lib.hid (show Fo.mdA sg.data.toList s.data.toList = true by rw [← hr.out, List.drop_of_length_le (by rw [ab_len]; omega)]; rfl)
   rcases Nat.eq_zero_or_pos s.size with h0 | h0
   ·
    obtain ⟨e1, e2⟩ := HZ.out h0
    have hans := Lib.hid (show ans = false by rw [HA.out, e1, Bool.and_false])
    clear HA HE HZ hr hall e1
    subst e2
    go_wp2_with fail
    go_ret
    exact ⟨by rw [hans.out]; rfl, rfl⟩
   ·
    have hans := Lib.hid (show ans = true by rw [HA.out, hall.out, HE.out h0]; rfl)
    obtain ⟨n1, n2⟩ := dne h0
    clear HA HE HZ hr hall
    go_wp2_with fail
    go_ret
    exact ⟨by rw [hans.out]; rfl, rfl⟩
end Go.Proofs.YtpggfhmnhbnefaaGreatDoor
set_option linter.unusedVariables false
namespace Go.Proofs
open Go.Shelf
theorem Tryz.formatInt (n : Int) (h0 : -9223372036854775808 ≤ n) (h1 : n ≤ 9223372036854775807) (w : World) (htab : Lib.TabIs Tryz.prog w "internal/strconv.uint64pow10" .u64 Lib.pow10Tab) :
  Calls Tryz.prog 149 #[.int .i64 n, .int .i64 10] w fun e w' => e = .returned (.string ⟨(Lib.itoa n).toArray⟩) ∧ RowKit.Below w.heap.size w w' :=
 (Any.strconv_FormatInt_10 Tryz.laysM173 n h0 h1 w htab).mono fun _ _ ⟨h, k, os, e⟩ => ⟨h, by rw [e]; exact Lib.below_grow _ _ (Nat.le_refl _) _ _⟩
end Go.Proofs
set_option linter.unusedVariables false
namespace Go.Proofs.YtpggfhmnhbnefaaGreatDoor.Num
open Go Go.Lib
def dig (c : UInt8) : Bool := decide (48 ≤ c.toNat ∧ c.toNat ≤ 57)
@[irreducible] def stp (acc : Nat) (c : UInt8) : Nat := acc * 10 + (c.toNat - 48)
theorem stp_eq (acc : Nat) (c : UInt8) : stp acc c = acc * 10 + (c.toNat - 48) := by unfold stp; rfl
def val (acc : Nat) (l : List UInt8) : Nat := l.foldl stp acc
theorem val_cons (acc : Nat) (c : UInt8) (r : List UInt8) : val acc (c :: r) = val (stp acc c) r := rfl
theorem val_nil (acc : Nat) : val acc [] = acc := rfl
theorem val_ge (l : List UInt8) : ∀ (acc : Nat), acc ≤ val acc l := by
 induction l with
 | nil => intro acc; exact Nat.le_refl _
 | cons c r ih =>
  intro acc
  rw [val_cons]
  exact Nat.le_trans (by rw [stp_eq]; omega) (ih _)
theorem val_append (l : List UInt8) (acc : Nat) (c : UInt8) : val acc (l ++ [c]) = val acc l * 10 + (c.toNat - 48) := by
 unfold val
 rw [List.foldl_append]
 exact stp_eq _ _
theorem parse_nil (M acc : Nat) : parseUintM M acc [] = .ok acc := by rw [parseUintM]
theorem parse_step (M acc : Nat) (c : UInt8) (r : List UInt8) (hc : 48 ≤ c.toNat ∧ c.toNat ≤ 57) (h0 : ¬ 1844674407370955162 ≤ acc) (h1 : ¬ M < stp acc c) :
  parseUintM M acc (c :: r) = parseUintM M (stp acc c) r := by
 rw [stp_eq] at h1 ⊢
 rw [parseUintM, if_pos hc, if_neg h0, if_neg h1]
def Small (M : Nat) : Prop := M < 18446744073709551616
theorem small_of {M acc : Nat} {c : UInt8} (hM : Small M) (h : stp acc c ≤ M) : ¬ 1844674407370955162 ≤ acc := by rw [stp_eq] at h; unfold Small at hM; omega
theorem parse_ok (M : Nat) (hM : Small M) (l : List UInt8) : ∀ (acc : Nat), l.all dig = true → val acc l ≤ M → parseUintM M acc l = .ok (val acc l) := by
 induction l with
 | nil => intro acc ha hv; exact parse_nil M acc
 | cons c r ih =>
  intro acc hd hv
  simp only [List.all_cons, Bool.and_eq_true, dig, decide_eq_true_eq] at hd
  obtain ⟨hc, hr⟩ := hd
  rw [val_cons] at hv ⊢
  have h2 : stp acc c ≤ M := Nat.le_trans (val_ge r _) hv
  rw [parse_step M acc c r hc (small_of hM h2) (Nat.not_lt.2 h2)]
  exact ih _ hr hv
theorem parse_all (M : Nat) (l : List UInt8) : ∀ (acc : Nat), l.all dig = true → parseUintM M acc l = .ok (val acc l) ∨ parseUintM M acc l = .range := by
 induction l with
 | nil => intro acc _; exact .inl (parse_nil M acc)
 | cons c r ih =>
  intro acc hd
  simp only [List.all_cons, Bool.and_eq_true, dig, decide_eq_true_eq] at hd
  by_cases h0 : 1844674407370955162 ≤ acc
  ·
   right; rw [parseUintM, if_pos hd.1, if_pos h0]
  ·
   by_cases h1 : M < stp acc c
   ·
    right; rw [stp_eq] at h1; rw [parseUintM, if_pos hd.1, if_neg h0, if_pos h1]
   ·
    rw [parse_step M acc c r hd.1 h0 h1, val_cons]
    exact ih _ hd.2
theorem dec_small {u : Nat} (h : u < 10) : decDigits u = [UInt8.ofNat (48 + u)] := decDigits_one h
theorem dec_step {u : Nat} (h : ¬ u < 10) : decDigits u = decDigits (u / 10) ++ [UInt8.ofNat (48 + u % 10)] := by
 rw [decDigits, dif_neg h]
def numT (b : Bool) (l : List UInt8) : Bool :=
 match l with
 | [] => false
 | c :: r => !(c == 48 && (b || !r.isEmpty)) && (c :: r).all dig
theorem dec_of_val (l : List UInt8) : l.all dig = true → l ≠ [] → (∀ c r, l = c :: r → r ≠ [] → c ≠ 48) → decDigits (val 0 l) = l := by
 induction h : l.length generalizing l with
 | zero => intro _ hn; exact absurd (List.eq_nil_of_length_eq_zero h) hn
 | succ k ih =>
  intro ha hn hz
  obtain ⟨q, c, rfl⟩ : ∃ q c, l = q ++ [c] := ⟨l.dropLast, l.getLast hn, (List.dropLast_concat_getLast hn).symm⟩
  rw [List.all_append] at ha
  simp only [Bool.and_eq_true, List.all_cons, List.all_nil, Bool.and_true, dig, decide_eq_true_eq] at ha
  have hc : UInt8.ofNat (48 + (c.toNat - 48)) = c := by
   apply UInt8.toNat_inj.1; rw [UInt8.toNat_ofNat']; omega
  by_cases hq : q = []
  ·
   subst hq
   rw [List.nil_append, val_cons, val_nil, stp_eq, dec_small (by omega), Nat.zero_mul, Nat.zero_add, hc]
  ·
   have hlen : q.length = k := by simp at h; exact h
   have hr := ih q hlen ha.1 hq (fun x r e hr => hz x (r ++ [c]) (by rw [e]; rfl) (by simp))
   rw [val_append]
   -- the first digit is no nought: so the number of what is ahead is not 0
   have hpos : 1 ≤ val 0 q := by
    obtain ⟨x, r, rfl⟩ : ∃ x r, q = x :: r := by cases q with
     | nil => exact absurd rfl hq
     | cons x r => exact ⟨x, r, rfl⟩
    have hx := hz x (r ++ [c]) rfl (by simp)
    have hd : 48 ≤ x.toNat ∧ x.toNat ≤ 57 := by
     have := ha.1; simp only [List.all_cons, Bool.and_eq_true, dig, decide_eq_true_eq] at this; exact this.1
    have hx' : x.toNat ≠ 48 := fun e => hx (UInt8.toNat_inj.1 (by rw [e]; rfl))
    have hs : 1 ≤ stp 0 x := by rw [stp_eq]; omega
    rw [val_cons]; exact Nat.le_trans hs (val_ge r _)
   rw [dec_step (by omega)]
   have e1 : (val 0 q * 10 + (c.toNat - 48)) / 10 = val 0 q := by omega
   have e2 : (val 0 q * 10 + (c.toNat - 48)) % 10 = c.toNat - 48 := by omega
   rw [e1, e2, hr, hc]
def isT (l : List UInt8) : Bool := numT (hasPrefix l [45]) (trimPrefix l [45])
theorem hp_cons (c : UInt8) (r : List UInt8) : hasPrefix (c :: r) [45] = (c == 45) := by
 unfold hasPrefix
 rw [List.isPrefixOf, List.isPrefixOf, Bool.and_true]
 by_cases h : c = 45
 ·
  subst h; rfl
 ·
  rw [show (c == 45) = false by simpa using h, beq_eq_false_iff_ne]
  exact fun e => h e.symm
theorem tp_minus (r : List UInt8) : trimPrefix (45 :: r) [45] = r := by simp [trimPrefix, hasPrefix, List.isPrefixOf]
theorem tp_other (c : UInt8) (r : List UInt8) (h : c ≠ 45) : trimPrefix (c :: r) [45] = c :: r := by
 unfold trimPrefix; rw [hp_cons]; simp [h]
end Go.Proofs.YtpggfhmnhbnefaaGreatDoor.Num
set_option linter.unusedVariables false
set_option linter.unusedSimpArgs false
namespace Go.Proofs.YtpggfhmnhbnefaaGreatDoor
open Go.RowKit
theorem cutPrefix (s p : ByteArray) (w : World) :
  Calls Tryz.prog 140 #[.string s, .string p] w fun e w' => e = .returned (.tuple #[.string ⟨(Lib.trimPrefix s.data.toList p.data.toList).toArray⟩, .bool (Lib.hasPrefix s.data.toList p.data.toList)]) ∧ w = w' :=
 (Any.strings_CutPrefix Tryz.lays103 s p w).mono fun _ _ ⟨h, e⟩ => ⟨h, e.symm⟩
set_option maxHeartbeats 400000 in
theorem text_any (n : Int) (w : World) (h0 : -9223372036854775808 ≤ n) (h1 : n ≤ 9223372036854775807) (htab : Lib.TabIs Tryz.prog w "internal/strconv.uint64pow10" .u64 Lib.pow10Tab) :
  Calls Tryz.prog 99 #[.int .i64 n] w fun e w' => e = .returned (.string ⟨(Lib.itoa n).toArray⟩) ∧ Below w.heap.size w w' := by
 have HT := Lib.hid htab; clear htab
 go_enter Tryz.func99, Tryz.ntmps99
 go_wp2_with fail
 refine (Tryz.formatInt n h0 h1 _ HT.out).mono ?_; rintro e w1 ⟨rfl, b1⟩
 go_wp2_with fail
 go_ret
 exact ⟨rfl, b1⟩
theorem dlen (ds : ByteArray) : ds.data.toList.length = ds.size := Array.length_toList
theorem dget {ds : ByteArray} {k : Nat} (h : k < ds.size) : ds.data.toList[k]'(by rw [dlen]; exact h) = ds[k] := rfl
theorem dhead {ds : ByteArray} (h : 0 < ds.size) : ∃ r, ds.data.toList = ds[0] :: r ∧ (r = [] ↔ ds.size = 1) := by
 have hl := dlen ds
 cases hd : ds.data.toList with
 | nil => rw [hd] at hl; simp at hl; omega
 | cons c r =>
  have e : ds[0] = c := by rw [← dget h]; simp [hd]
  refine ⟨r, by rw [e], ?_⟩
  rw [hd] at hl
  simp at hl
  rw [← List.length_eq_zero_iff]; omega
theorem not_all {ds : ByteArray} {k : Nat} (h : k < ds.size) (hd : ¬ (48 ≤ ds[k].toNat ∧ ds[k].toNat ≤ 57)) : ds.data.toList.all Num.dig = false := by
 rw [Bool.eq_false_iff]
 intro ha
 have := List.all_eq_true.1 ha ds[k] (by rw [← dget h]; exact List.getElem_mem _)
 simp only [Num.dig, decide_eq_true_eq] at this
 exact hd this
theorem take_all {ds : ByteArray} {k : Nat} (h : k < ds.size) (ha : (ds.data.toList.take k).all Num.dig = true) (hd : 48 ≤ ds[k].toNat ∧ ds[k].toNat ≤ 57) : (ds.data.toList.take (k + 1)).all Num.dig = true := by
 rw [List.take_succ_eq_append_getElem (by rw [dlen]; exact h), List.all_append, ha, dget h]
 simp [Num.dig, hd]
theorem front {ds : ByteArray} {b : Bool} (h : 0 < ds.size) (hf : ds[0].toNat = 48 → b = false ∧ ds.size = 1) : Num.numT b ds.data.toList = ds.data.toList.all Num.dig := by
 obtain ⟨r, e, hr⟩ := dhead h
 rw [e]
 unfold Num.numT
 by_cases h48 : ds[0].toNat = 48
 ·
  obtain ⟨hb, h1⟩ := hf h48
  rw [hb, hr.2 h1]; simp
 ·
  have : (ds[0] == 48) = false := by rw [beq_eq_false_iff_ne]; intro e2; rw [e2] at h48; exact h48 rfl
  show (!(ds[0] == 48 && (b || !r.isEmpty)) && (ds[0] :: r).all Num.dig) = _
  rw [this]; simp
theorem front_no {ds : ByteArray} {b : Bool} (h : 0 < ds.size) (h48 : ds[0].toNat = 48) (hf : b = true ∨ 1 < ds.size) : Num.numT b ds.data.toList = false := by
 obtain ⟨r, e, hr⟩ := dhead h
 rw [e]
 unfold Num.numT
 have : (ds[0] == 48) = true := by rw [beq_iff_eq]; exact UInt8.toNat_inj.1 h48
 show (!(ds[0] == 48 && (b || !r.isEmpty)) && (ds[0] :: r).all Num.dig) = _
 rw [this]
 rcases hf with hb | hz
 ·
  rw [hb]; simp
 ·
  have : r ≠ [] := fun e2 => by have := hr.1 e2; omega
  have : r.isEmpty = false := by simpa using this
  rw [this]; simp
theorem var_keep {P : Program} {W W' : World} {n : String} {cs : Array Value} (h : Below W.heap.size W W') (hv : W.var? P n = some cs) : W'.var? P n = some cs := by
 unfold World.var? at hv ⊢
 cases hg : P.globalNamed n with
 | none => rw [hg] at hv; simp at hv
 | some g =>
  rw [hg] at hv
  simp only [Option.bind_some] at hv ⊢
  have hgB : g < W.heap.size := by
   by_cases hh : g < W.heap.size
   ·
    exact hh
   ·
    exfalso
    have e : W.heap[g]? = none := by simp; omega
    rw [e] at hv; simp at hv
  rw [h.block g hgB]
  exact hv
theorem ab_dig (c : UInt8) : Num.dig c = (decide (48 ≤ (c.toNat : Int)) && decide ((c.toNat : Int) ≤ 57)) := by
 unfold Num.dig
 by_cases h1 : 48 ≤ c.toNat <;> by_cases h2 : c.toNat ≤ 57 <;> simp [h1, h2] <;> omega
theorem ab_trim (l p : List UInt8) : (Lib.trimPrefix l p).length ≤ l.length := by
 unfold Lib.trimPrefix
 split
 ·
  rw [List.length_drop]; omega
 ·
  omega
theorem ab_val_lt : ∀ (l : List UInt8) (a : Nat), l.all Num.dig = true → Num.val a l < (a + 1) * 10 ^ l.length := by
 intro l
 induction l with
 | nil => intro a _; rw [Num.val_nil]; simp
 | cons c r ih =>
  intro a h
  simp only [List.all_cons, Bool.and_eq_true] at h
  have hc : 48 ≤ c.toNat ∧ c.toNat ≤ 57 := by have := h.1; unfold Num.dig at this; exact of_decide_eq_true this
  have := ih (Num.stp a c) h.2
  rw [Num.val_cons, List.length_cons, Nat.pow_succ]
  have h1 : Num.stp a c + 1 ≤ (a + 1) * 10 := by rw [Num.stp_eq]; omega
  have h2 := Nat.mul_le_mul_right (10 ^ r.length) h1
  calc Num.val (Num.stp a c) r < (Num.stp a c + 1) * 10 ^ r.length := this
   _ ≤ (a + 1) * 10 * 10 ^ r.length := h2
   _ = (a + 1) * (10 ^ r.length * 10) := by rw [Nat.mul_assoc, Nat.mul_comm 10]
theorem ab_val_bd {l : List UInt8} {k : Nat} (hd : l.all Num.dig = true) (hl : l.length ≤ k) : Num.val 0 l < 10 ^ k := by
 have := ab_val_lt l 0 hd
 have h2 := Nat.pow_le_pow_right (n := 10) (by omega) hl
 omega
end Go.Proofs.YtpggfhmnhbnefaaGreatDoor
set_option linter.unusedVariables false
namespace Go.Proofs.YtpggfhmnhbnefaaGreatDoor.Num
open Go Go.Lib
theorem numT_yes {b : Bool} {d : List UInt8} (h : numT b d = true) : d ≠ [] ∧ d.all dig = true ∧ (∀ c r, d = c :: r → r ≠ [] → c ≠ 48) ∧ (b = true → ∀ c r, d = c :: r → c ≠ 48) := by
 cases d with
 | nil => have h2 : false = true := h; cases h2
 | cons c r =>
  have h' : (!(c == 48 && (b || !r.isEmpty)) && (c :: r).all dig) = true := h
  rw [Bool.and_eq_true] at h'
  obtain ⟨h1, h2⟩ := h'
  refine ⟨by simp, h2, ?_, ?_⟩
  ·
   intro c' r' e hr hc
   injection e with e1 e2
   subst e1 e2
   rw [hc] at h1
   have : r.isEmpty = false := by simpa using hr
   rw [this] at h1; simp at h1
  ·
   intro hb c' r' e hc
   injection e with e1 e2
   subst e1 e2
   rw [hc, hb] at h1; simp at h1
theorem parseU (d : List UInt8) (h : d ≠ []) (ha : d.all dig = true) : parseUintB 64 d = .ok (val 0 d) ∨ parseUintB 64 d = .range := by
 unfold parseUintB
 rw [if_neg h]
 exact parse_all _ d 0 ha
theorem val_pos {d : List UInt8} (h : d ≠ []) (ha : d.all dig = true) (hz : ∀ c r, d = c :: r → c ≠ 48) : 1 ≤ val 0 d := by
 cases d with
 | nil => exact absurd rfl h
 | cons c r =>
  have hc := hz c r rfl
  have hd : 48 ≤ c.toNat ∧ c.toNat ≤ 57 := by
   simp only [List.all_cons, Bool.and_eq_true, dig, decide_eq_true_eq] at ha; exact ha.1
  have hc' : c.toNat ≠ 48 := fun e => hc (UInt8.toNat_inj.1 (by rw [e]; rfl))
  have hs : 1 ≤ stp 0 c := by rw [stp_eq]; omega
  rw [val_cons]; exact Nat.le_trans hs (val_ge r _)
theorem isT_read {l : List UInt8} (h : isT l = true) : parseIntB 64 l = .range ∨ ∃ x, parseIntB 64 l = .ok x ∧ itoa x = l ∧ -9223372036854775808 ≤ x ∧ x ≤ 9223372036854775807 := by
 cases l with
 | nil => exact absurd h (by decide)
 | cons c d =>
  by_cases hc : c = 45
  ·
   subst hc
   unfold isT at h
   rw [hp_cons, tp_minus] at h
   obtain ⟨a, b, e, f⟩ := numT_yes h
   have f := f rfl
   have hp := val_pos a b f
   have hv := dec_of_val d b a e
   unfold parseIntB
   simp only [show (45 : UInt8).toNat = 45 from rfl, or_true, if_true]
   rcases parseU d a b with hu | hu
   ·
    rw [hu]
    simp only [not_true_eq_false, false_and, if_false, true_and]
    by_cases hb : 2 ^ (64 - 1) < val 0 d
    ·
     left; rw [if_pos hb]
    ·
     right
     rw [if_neg hb]
     have hb2 : val 0 d ≤ 9223372036854775808 := by
      have : (2 : Nat) ^ (64 - 1) = 9223372036854775808 := by decide
      omega
     refine ⟨_, rfl, ?_, by omega, by omega⟩
     unfold itoa
     rw [if_pos (by omega), Int.natAbs_neg, Int.natAbs_natCast, hv]
   ·
    left; rw [hu]
  ·
   unfold isT at h
   rw [hp_cons, tp_other c d hc] at h
   obtain ⟨a, b, e, _⟩ := numT_yes h
   have hv := dec_of_val (c :: d) b a e
   have hd : 48 ≤ c.toNat ∧ c.toNat ≤ 57 := by
    simp only [List.all_cons, Bool.and_eq_true, dig, decide_eq_true_eq] at b; exact b.1
   have n43 : ¬ (c.toNat = 43 ∨ c.toNat = 45) := by omega
   have n45 : ¬ c.toNat = 45 := by omega
   unfold parseIntB
   simp only [if_neg n43]
   rcases parseU (c :: d) a b with hu | hu
   ·
    rw [hu]
    simp only [n45, not_false_eq_true, true_and, false_and, if_false]
    by_cases hb : 2 ^ (64 - 1) ≤ val 0 (c :: d)
    ·
     left; rw [if_pos hb]
    ·
     right
     rw [if_neg hb]
     have hb2 : val 0 (c :: d) < 9223372036854775808 := by
      have : (2 : Nat) ^ (64 - 1) = 9223372036854775808 := by decide
      omega
     refine ⟨_, rfl, ?_, by omega, by omega⟩
     unfold itoa
     rw [if_neg (by omega), Int.toNat_natCast, hv]
   ·
    left; rw [hu]
end Go.Proofs.YtpggfhmnhbnefaaGreatDoor.Num
set_option linter.unusedVariables false
set_option linter.unusedSimpArgs false
namespace Go.Proofs.YtpggfhmnhbnefaaGreatDoor.Tx
open Go Go.Lib
def dg (k : Nat) (n : Int) : List UInt8 := List.replicate (k - (itoa n).length) 48 ++ itoa n
def yr (y : Int) : List UInt8 := if y < 0 then 45 :: dg 4 (-y) else dg 4 y
theorem two_tab : ∀ n : Fin 100, (dg 2 (n.val : Int)).length = 2 := by decide +kernel
end Go.Proofs.YtpggfhmnhbnefaaGreatDoor.Tx
set_option linter.unusedVariables false
set_option linter.unusedSimpArgs false
namespace Go.Proofs.YtpggfhmnhbnefaaGreatDoor
open Go Go.Lib
namespace Num
theorem dec_len : ∀ (j u : Nat), u < 10 ^ (j + 1) → (decDigits u).length ≤ j + 1 := by
 intro j
 induction j with
 | zero => intro u h; rw [dec_small (by simpa using h)]; simp
 | succ j ih =>
  intro u h
  by_cases h10 : u < 10
  ·
   rw [dec_small h10]; simp
  ·
   rw [dec_step h10, List.length_append]
   have := ih (u / 10) (by rw [Nat.pow_succ] at h; omega)
   simp; omega
end Num
namespace Tx
end Tx
namespace Rd
def isY (l : List UInt8) : Bool :=
 !(decide ((trimPrefix l [45]).length < 4)) && (!(decide (4 < (trimPrefix l [45]).length) && ((trimPrefix l [45]).head? == some 48)) && ((trimPrefix l [45]).all Num.dig && !(hasPrefix l [45] && ((trimPrefix l [45]) == [48, 48, 48, 48]))))
def sg : List UInt8 := [45, 45, 84, 58, 58]
def pOk (l : List UInt8) (k : Nat) : Bool := decide (l.getD (3 * k) 0 = sg.getD k 0) && (((l.drop (3 * k + 1)).take 2).all Num.dig)
def bOk (l : List UInt8) : Bool := pOk l 0 && (pOk l 1 && (pOk l 2 && (pOk l 3 && pOk l 4)))
def hd (t : List UInt8) : List UInt8 := t.take (t.length - 15)
def tl (t : List UInt8) : List UInt8 := t.drop (t.length - 15)
def form (t : List UInt8) : Bool := decide (15 ≤ t.length) && (isY (hd t) && bOk (tl t))
end Rd
end Go.Proofs.YtpggfhmnhbnefaaGreatDoor
set_option linter.unusedVariables false
namespace Go.Proofs.YtpggfhmnhbnefaaGreatDoor.Num
open Go.RowKit Go.Lib
theorem rn_len (a : ByteArray) : a.data.toList.length = a.size := Array.length_toList
theorem rn_drop (a : ByteArray) (k : Nat) (h : k < a.size) : a.data.toList.drop k = a[k] :: a.data.toList.drop (k + 1) := by
 rw [List.drop_eq_getElem_cons (by rw [rn_len]; exact h)]
 rfl
theorem rn_dig (c : UInt8) : dig c = (decide (48 ≤ (c.toNat : Int)) && decide ((c.toNat : Int) ≤ 57)) := by
 unfold dig
 by_cases h1 : 48 ≤ c.toNat <;> by_cases h2 : c.toNat ≤ 57 <;> simp [h1, h2] <;> omega
theorem parse_le (M : Nat) (l : List UInt8) : ∀ (acc v : Nat), acc ≤ M → parseUintM M acc l = .ok v → v ≤ M := by
 induction l with
 | nil => intro acc v h e; rw [parse_nil] at e; injection e with e; omega
 | cons c r ih =>
  intro acc v h e
  rw [parseUintM] at e
  split at e
  ·
   split at e
   ·
    cases e
   ·
    split at e
    ·
     cases e
    ·
     exact ih _ v (by omega) e
  ·
   cases e
theorem val_le (l : List UInt8) : ∀ (a : Nat), a * 10 ^ l.length ≤ val a l := by
 induction l with
 | nil => intro a; rw [val_nil]; simp
 | cons c r ih =>
  intro a
  rw [val_cons]
  refine Nat.le_trans ?_ (ih (stp a c))
  rw [stp_eq, List.length_cons, Nat.pow_succ, Nat.mul_comm (10 ^ r.length) 10, ← Nat.mul_assoc]
  exact Nat.mul_le_mul_right _ (by omega)
theorem val_far {d : List UInt8} (ha : d.all dig = true) (hz : ∀ c r, d = c :: r → r ≠ [] → c ≠ 48) (hl : 19 < d.length) : 10000000000000000000 ≤ val 0 d := by
 cases d with
 | nil => simp at hl
 | cons c r =>
  have hr : 19 ≤ r.length := by simp at hl; omega
  have hc := hz c r rfl (by intro e; rw [e] at hr; simp at hr)
  have hd : 48 ≤ c.toNat ∧ c.toNat ≤ 57 := by
   simp only [List.all_cons, Bool.and_eq_true, dig, decide_eq_true_eq] at ha; exact ha.1
  have hc' : c.toNat ≠ 48 := fun e => hc (UInt8.toNat_inj.1 (by rw [e]; rfl))
  rw [val_cons]
  have h1 := val_le r (stp 0 c)
  have h2 : 1 ≤ stp 0 c := by rw [stp_eq]; omega
  have h3 := Nat.pow_le_pow_right (n := 10) (by omega) hr
  have h4 := Nat.mul_le_mul h2 h3
  have h5 : (1 : Nat) * 10 ^ 19 = 10000000000000000000 := by decide
  omega
def rd (l : List UInt8) : Int × Int := if isT l then (match parseIntB 64 l with | .ok v => (v, 0) | _ => (0, 1)) else (0, 2)
def rdD (b : Bool) (d : List UInt8) : Int × Int :=
 if numT b d then (if 19 < d.length then (0, 1) else if b then (if 9223372036854775808 < val 0 d then (0, 1) else (-(val 0 d : Int), 0)) else (if 9223372036854775807 < val 0 d then (0, 1) else ((val 0 d : Int), 0))) else (0, 2)
theorem parseU_at (d : List UInt8) (h : d ≠ []) (ha : d.all dig = true) : parseUintB 64 d = if val 0 d ≤ 18446744073709551615 then .ok (val 0 d) else .range := by
 have e : (2 : Nat) ^ 64 - 1 = 18446744073709551615 := by decide
 split
 ·
  rename_i hv
  unfold parseUintB
  rw [if_neg h, e]
  exact parse_ok _ (by unfold Small; decide) d 0 ha hv
 ·
  rename_i hv
  rcases parseU d h ha with hu | hu
  ·
   exfalso
   unfold parseUintB at hu
   rw [if_neg h, e] at hu
   exact hv (parse_le _ d 0 _ (by omega) hu)
  ·
   exact hu
theorem rd_eq (l : List UInt8) : rd l = rdD (hasPrefix l [45]) (trimPrefix l [45]) := by
 unfold rd rdD
 show (if isT l = true then _ else _) = (if isT l = true then _ else _)
 by_cases h : isT l = true
 ·
  rw [if_pos h, if_pos h]
  cases l with
  | nil => exact absurd h (by decide)
  | cons c d =>
   have e63 : (2 : Nat) ^ (64 - 1) = 9223372036854775808 := by decide
   by_cases hc : c = 45
   ·
    subst hc
    unfold isT at h
    rw [hp_cons, tp_minus] at h ⊢
    obtain ⟨a, b, e, f⟩ := numT_yes h
    have hu := parseU_at d a b
    rw [if_pos (show (45 == (45 : UInt8)) = true from rfl)]
    unfold parseIntB
    simp only [show (45 : UInt8).toNat = 45 from rfl, or_true, if_true, hu, e63]
    by_cases hv : val 0 d ≤ 18446744073709551615
    ·
     rw [if_pos hv]
     simp only [not_true_eq_false, false_and, if_false, true_and]
     by_cases hf : 9223372036854775808 < val 0 d
     ·
      rw [if_pos hf, if_pos hf]
      by_cases hl : 19 < d.length
      ·
       rw [if_pos hl]
      ·
       rw [if_neg hl]
     ·
      rw [if_neg hf, if_neg hf, if_neg (fun hl => by have := val_far b e hl; omega)]
    ·
     rw [if_neg hv]
     by_cases hl : 19 < d.length
     ·
      rw [if_pos hl]
     ·
      rw [if_neg hl, if_pos (by omega)]
   ·
    unfold isT at h
    rw [hp_cons, tp_other c d hc] at h ⊢
    obtain ⟨a, b, e, _⟩ := numT_yes h
    have hd : 48 ≤ c.toNat ∧ c.toNat ≤ 57 := by
     simp only [List.all_cons, Bool.and_eq_true, dig, decide_eq_true_eq] at b; exact b.1
    have n43 : ¬ (c.toNat = 43 ∨ c.toNat = 45) := by omega
    have n45 : ¬ c.toNat = 45 := by omega
    have hu := parseU_at (c :: d) a b
    rw [if_neg (show ¬ (c == (45 : UInt8)) = true by simpa using hc)]
    unfold parseIntB
    simp only [if_neg n43, hu, e63]
    by_cases hv : val 0 (c :: d) ≤ 18446744073709551615
    ·
     rw [if_pos hv]
     simp only [n45, not_false_eq_true, true_and, false_and, if_false]
     by_cases hf : 9223372036854775808 ≤ val 0 (c :: d)
     ·
      rw [if_pos hf, if_pos (show 9223372036854775807 < val 0 (c :: d) by omega)]
      by_cases hl : 19 < (c :: d).length
      ·
       rw [if_pos hl]
      ·
       rw [if_neg hl]
     ·
      rw [if_neg hf, if_neg (show ¬ 9223372036854775807 < val 0 (c :: d) by omega), if_neg (fun hl => by have := val_far b e hl; omega)]
    ·
     rw [if_neg hv]
     by_cases hl : 19 < (c :: d).length
     ·
      rw [if_pos hl]
     ·
      rw [if_neg hl, if_pos (by omega)]
 ·
  rw [if_neg h, if_neg h]
theorem dec_short (u : Nat) (h : u < 18446744073709551616) : (decDigits u).length ≤ 20 := by
 have e : (10 : Nat) ^ (19 + 1) = 100000000000000000000 := by decide
 exact dec_len 19 u (by rw [e]; omega)
end Go.Proofs.YtpggfhmnhbnefaaGreatDoor.Num
set_option linter.unusedVariables false
set_option linter.unusedSimpArgs false
namespace Go.Proofs.YtpggfhmnhbnefaaGreatDoor
open Go.RowKit
theorem rn_cut (s : ByteArray) (a : Nat) (ha : a ≤ s.size) (w : World) : Sem.run Tryz.prog (Instr.slice 9 (.string s) (some (.int .i64 (a : Int))) none none) w = .ok (.string (s.extract a s.size)) w := by
 rw [run_slice_string_l w 9 s Tryz.underlying9 .i64 _ (by omega) (by omega)]
 simp
namespace Num
def dgs (l : List UInt8) : Bool := l.all dig && !l.isEmpty
end Num
set_option maxHeartbeats 2000000 in
set_option maxRecDepth 100000 in
theorem rdigs_nil (w : World) :
  Calls Tryz.prog 162 #[.string ⟨#[]⟩] w fun e w' => e = .returned (.bool false) ∧ w = w' := by
 go_enter Tryz.func162, Tryz.ntmps162
 go_wp2_with fail
 refine wp_loop_rounds 1 ?_
 rw [rounds_succ]
 go_wp2_with fail
 go_ret
 exact ⟨rfl, rfl⟩
set_option maxHeartbeats 2000000 in
set_option maxRecDepth 100000 in
theorem rdigs_ne (s : ByteArray) (w : World) (hz : 0 < s.size) (hs : s.size ≤ maxLen) :
  Calls Tryz.prog 162 #[.string s] w fun e w' => e = .returned (.bool (s.data.toList.all Num.dig)) ∧ w = w' := by
 unfold maxLen at hs
 obtain ⟨hn1, hn2⟩ := dne hz
 obtain ⟨ans, hans⟩ : ∃ ans, ans = s.data.toList.all Num.dig := ⟨_, rfl⟩
 rw [← hans]
 have HA := Lib.hid hans; clear hans
 go_enter Tryz.func162, Tryz.ntmps162
 go_wp2_with fail
 go_loopw [3] (fun i wr => ∃ k : Nat, k ≤ s.size ∧ i = .int .i64 k ∧ Hid ((s.data.toList.drop k).all Num.dig = ans) ∧ wr = w) (fun i _ => s.size - (intOf i).toNat)
 case atStart => exact ⟨0, Nat.zero_le _, rfl, HA.out.symm, rfl⟩
 case round =>
  obtain ⟨k, hk, rfl, hr, hw⟩ := hrel
  obtain rfl : w = wr := hw.symm
  by_cases hlt : k < s.size
  ·
   have hb := s[k].toNat_lt
   have hd := Num.rn_dig s[k]
   have hn : (Num.dig s[k] && (s.data.toList.drop (k + 1)).all Num.dig) = ans := by rw [← hr.out, Num.rn_drop s k hlt]; rfl
   by_cases c1 : (s[k].toNat : Int) < 48
   ·
    have hno := Lib.hid (show ans = false by rw [← hn, hd, decide_eq_false (by omega)]; rfl)
    clear hn hd
    go_wp2_with fail
    go_ret
    exact ⟨by rw [hno.out]; rfl, rfl⟩
   ·
    by_cases c2 : 57 < (s[k].toNat : Int)
    ·
     have hno := Lib.hid (show ans = false by rw [← hn, hd, decide_eq_false (show ¬ (s[k].toNat : Int) ≤ 57 by omega)]; simp)
     clear hn hd
     go_wp2_with fail
     go_ret
     exact ⟨by rw [hno.out]; rfl, rfl⟩
    ·
     have hyes := Lib.hid (show (s.data.toList.drop (k + 1)).all Num.dig = ans by rw [← hn, hd, decide_eq_true (show 48 ≤ (s[k].toNat : Int) by omega), decide_eq_true (show (s[k].toNat : Int) ≤ 57 by omega)]; rfl)
     clear hn hd
     go_wp2_with fail
     go_roundw
     case rel => exact ⟨k + 1, by omega, by go_num, hyes, by first | rfl | trivial⟩
     case measure => simp [intOf]; omega
  ·
   have hyes := Lib.hid (show ans = true by rw [← hr.out, List.drop_of_length_le (by rw [Num.rn_len]; omega)]; rfl)
   go_wp2_with fail
   go_ret
   exact ⟨by rw [hyes.out]; rfl, rfl⟩
theorem rdigs_any (s : ByteArray) (w : World) (hs : s.size ≤ maxLen) :
  Calls Tryz.prog 162 #[.string s] w fun e w' => e = .returned (.bool (Num.dgs s.data.toList)) ∧ w = w' := by
 rcases Nat.eq_zero_or_pos s.size with hz | hz
 ·
  have hl : s.data.toList = [] := by rw [← List.length_eq_zero_iff, Num.rn_len]; exact hz
  have e : s = ⟨#[]⟩ := by apply ByteArray.ext; apply Array.toList_inj.1; rw [hl]
  rw [e]
  exact rdigs_nil w
 ·
  have hl : s.data.toList.isEmpty = false := by
   cases h : s.data.toList with
   | nil => have := Num.rn_len s; rw [h] at this; simp at this; omega
   | cons c r => rfl
  have e : Num.dgs s.data.toList = s.data.toList.all Num.dig := by unfold Num.dgs; rw [hl]; simp
  rw [e]
  exact rdigs_ne s w hz hs
end Go.Proofs.YtpggfhmnhbnefaaGreatDoor
