/- Joined: LkA, By0, Shelf, NumA, Byt, LnA, RnD, StV. -/
import Derived.Test.YtifgiclnofdnkaaGreatDoorBy07
import Derived.Test.YtifgiclnofdnkaaGreatDoorLaidK
import Derived.Lib.IndexAny
import Derived.Shelf.Small.Strs
import Derived.Test.YtifgiclnofdnkaaGreatDoorBy01
import Derived.Shelf.Strconv.Itoa4
import Derived.Shelf.Small.Wraps
import Derived.Lib.AppendIntMem
import Derived.Lib.AtoiErrMem
import Derived.Test.YtifgiclnofdnkaaGreatDoorProg
import Derived.Test.YtifgiclnofdnkaaGreatDoorLaid
import Derived.Test.YtifgiclnofdnkaaGreatDoorBy02
import Derived.Test.YtifgiclnofdnkaaGreatDoorLaid6
import Derived.Shelf.GgClosure.StringsIndexFuncTop
import Derived.Laws.RangeAny
import Derived.Deep.QuietTactic
set_option linter.unusedVariables false
set_option linter.unusedSimpArgs false
namespace Go.Proofs.YtifgiclnofdnkaaGreatDoor
open Go.RowKit Go.Sort
namespace Lk
def bg (c : Nat) : Bool := (decide (65 ≤ c) && decide (c ≤ 90)) || (decide (97 ≤ c) && decide (c ≤ 122)) || decide (c = 95)
def dg (c : Nat) : Bool := decide (48 ≤ c) && decide (c ≤ 57)
def sg (c : Nat) : Bool := decide (c = 45) || decide (c = 43) || decide (c = 47) || decide (c = 46)
def gn (c : Nat) : Bool := bg c || dg c || sg c
def bgB (c : UInt8) : Bool := bg c.toNat
def gnB (c : UInt8) : Bool := gn c.toNat
def isN (l : List UInt8) : Bool := l.all gnB && (match l with | [] => false | c :: _ => bgB c)
def nm (l : List UInt8) : Int := if 64 < l.length then 9 else if isN l = true then 0 else 10
end Lk
end Go.Proofs.YtifgiclnofdnkaaGreatDoor
set_option linter.unusedVariables false
set_option linter.unusedSimpArgs false
namespace Go.Proofs.YtifgiclnofdnkaaGreatDoor
open Go.RowKit
theorem ab_len (a : ByteArray) : a.data.toList.length = a.size := Array.length_toList
theorem ab_drop (a : ByteArray) (k : Nat) (h : k < a.size) : a.data.toList.drop k = a[k] :: a.data.toList.drop (k + 1) := by
 rw [List.drop_eq_getElem_cons (by rw [ab_len]; exact h)]
 rfl
theorem dne {ds : ByteArray} (h : 0 < ds.size) : ds.toList.isEmpty = false ∧ ¬ ds.toList = [] := by
 have : ds.toList ≠ [] := by
  intro e
  have hl := ab_len ds
  rw [← ByteArray.toList_eq] at hl
  rw [e] at hl; simp at hl; omega
 exact ⟨by simpa using this, this⟩
theorem rn_ix (a : ByteArray) (k : Nat) (h : k < a.size) (w : World) : Sem.run Tryz.prog (Instr.index 9 (.string a) (.int .i64 (k : Int))) w = .ok (.int .u8 a[k].toNat) w := by
 rw [run_index_string w _ _ _ _ Tryz.underlying9, dif_pos ⟨by omega, by omega⟩]
 simp
end Go.Proofs.YtifgiclnofdnkaaGreatDoor
set_option linter.unusedVariables false
namespace Go.Proofs
open Go.Shelf
theorem Tryz.formatInt (n : Int) (h0 : -9223372036854775808 ≤ n) (h1 : n ≤ 9223372036854775807) (w : World) (htab : Lib.TabIs Tryz.prog w "internal/strconv.uint64pow10" .u64 Lib.pow10Tab) :
  Calls Tryz.prog 107 #[.int .i64 n, .int .i64 10] w fun e w' => e = .returned (.string ⟨(Lib.itoa n).toArray⟩) ∧ RowKit.Below w.heap.size w w' :=
 (Any.strconv_FormatInt_10 Tryz.laysM173 n h0 h1 w htab).mono fun _ _ ⟨h, k, os, e⟩ => ⟨h, by rw [e]; exact Lib.below_grow _ _ (Nat.le_refl _) _ _⟩
end Go.Proofs
set_option linter.unusedVariables false
set_option linter.unusedSimpArgs false
namespace Go.Proofs.YtifgiclnofdnkaaGreatDoor
open Go.RowKit
theorem cutPrefix (s p : ByteArray) (w : World) :
  Calls Tryz.prog 117 #[.string s, .string p] w fun e w' => e = .returned (.tuple #[.string ⟨(Lib.trimPrefix s.data.toList p.data.toList).toArray⟩, .bool (Lib.hasPrefix s.data.toList p.data.toList)]) ∧ w = w' :=
 (Any.strings_CutPrefix Tryz.lays103 s p w).mono fun _ _ ⟨h, e⟩ => ⟨h, e.symm⟩
set_option maxHeartbeats 400000 in
theorem text_any (n : Int) (w : World) (h0 : -9223372036854775808 ≤ n) (h1 : n ≤ 9223372036854775807) (htab : Lib.TabIs Tryz.prog w "internal/strconv.uint64pow10" .u64 Lib.pow10Tab) :
  Calls Tryz.prog 81 #[.int .i64 n] w fun e w' => e = .returned (.string ⟨(Lib.itoa n).toArray⟩) ∧ Below w.heap.size w w' := by
 have HT := Lib.hid htab; clear htab
 go_enter Tryz.func81, Tryz.ntmps81
 go_wp2_with fail
 refine (Tryz.formatInt n h0 h1 _ HT.out).mono ?_; rintro e w1 ⟨rfl, b1⟩
 go_wp2_with fail
 go_ret
 exact ⟨rfl, b1⟩
theorem var_keep {P : Program} {W W' : World} {n : String} {cs : Array Value} (h : Below W.heap.size W W') (hv : W.var? P n = some cs) : W'.var? P n = some cs := by
 unfold World.var? at hv ⊢
 cases hg : P.globalNamed n with
 | none => rw [hg] at hv; simp at hv
 | some g =>
  rw [hg] at hv
  simp only [Option.bind_some] at hv ⊢
  have hgB : g < W.heap.size := by
   by_cases hh : g < W.heap.size
   ·
    exact hh
   ·
    exfalso
    have e : W.heap[g]? = none := by simp; omega
    rw [e] at hv; simp at hv
  rw [h.block g hgB]
  exact hv
namespace Ln
def okB (c : UInt8) : Bool := decide (c.toNat = 9) || (decide (32 ≤ c.toNat) && decide (c.toNat ≤ 126))
def wrC (r : Nat) : Bool := !(decide (r = 9)) && (decide (r < 32) || decide (126 < r))
def chk (l : List UInt8) : Int := if 511 < l.length then 9 else if l.all okB then 0 else 7
theorem decode_low (s : ByteArray) (pos : Nat) (h : pos < s.size) (ha : (s[pos]'h).toNat < 128) : Utf8.decode s pos = ((s[pos]'h).toNat, 1) := by
 simp only [Utf8.decode, get_at s pos h, ha, if_true]
theorem ok_wr (c : UInt8) : okB c = !(wrC c.toNat) := by
 unfold okB wrC
 by_cases h1 : c.toNat = 9 <;> by_cases h2 : c.toNat < 32 <;> by_cases h3 : 126 < c.toNat
 all_goals simp [h1, h2, h3]
 all_goals omega
theorem idx_wr (s : ByteArray) : ∀ (f pos : Nat), s.size - pos ≤ f → decide (0 ≤ Lib.idxFuncFrom wrC true s f pos) = !((s.data.toList.drop pos).all okB)
 | 0, pos, h => by
  rw [List.drop_of_length_le (by rw [ab_len]; omega)]
  rfl
 | f + 1, pos, h => by
  unfold Lib.idxFuncFrom
  by_cases hp : pos < s.size
  ·
   rw [if_pos hp, ab_drop s pos hp, List.all_cons]
   by_cases ha : (s[pos]'hp).toNat < 128
   ·
    rw [decode_low s pos hp ha, ok_wr]
    cases hw : wrC (s[pos]'hp).toNat
    ·
     rw [if_neg (by simp)]
     rw [idx_wr s f (pos + 1) (by omega)]; simp
    ·
     rw [if_pos rfl, decide_eq_true (by omega)]; rfl
   ·
    obtain ⟨r1, r2⟩ := decode_high s pos hp (by omega)
    have hw : wrC (Utf8.decode s pos).1 = true := by unfold wrC; rw [decide_eq_false (by omega), decide_eq_true (show 126 < (Utf8.decode s pos).1 by omega)]; simp
    have ho : okB (s[pos]'hp) = false := by unfold okB; rw [decide_eq_false (by omega), decide_eq_false (show ¬ (s[pos]'hp).toNat ≤ 126 by omega)]; simp
    rw [if_pos hw, decide_eq_true (by omega), ho]; rfl
  ·
   rw [if_neg hp, List.drop_of_length_le (by rw [ab_len]; omega)]
   rfl
theorem idx_all (s : ByteArray) : decide (0 ≤ Lib.idxFunc wrC true s) = !(s.data.toList.all okB) := idx_wr s s.size 0 (by omega)
end Ln
theorem isWrong_at (w : World) : PredAt Tryz.prog 88 #[] encR Ln.wrC w := fun W r _ => by
 unfold FnGives
 by_cases h1 : r = 9 <;> by_cases h2 : r < 32 <;> by_cases h3 : 126 < r
 all_goals
  have z1 : ((r : Int) == 9) = decide (r = 9) := by rw [Bool.eq_iff_iff, beq_iff_eq, decide_eq_true_eq]; omega
  have z2 : (r : Int) < 32 ↔ r < 32 := by omega
  have z3 : 126 < (r : Int) ↔ 126 < r := by omega
  have z4 : ((r : Int) != 9) = !decide (r = 9) := by unfold bne; rw [z1]
  go_enter Tryz.func88, Tryz.ntmps88
  go_wp2
  all_goals first | (exfalso; omega) | (go_ret; exact ⟨by simp [Ln.wrC, h1, h2, h3], 0, rfl⟩)
theorem containsWrong (s : ByteArray) (w : World) :
  Calls Tryz.prog 76 #[.string s, .func (.func 88) #[] #[]] w fun e w' => e = .returned (.bool (!(s.data.toList.all Ln.okB))) ∧ Below w.heap.size w w' := by
 rw [← Ln.idx_all]
 exact (Any.strings_ContainsFunc Tryz.laysGw17 88 #[] (enters_of Tryz.func88 (by kernel_rfl) rfl) Ln.wrC s w (isWrong_at w)).mono fun _ _ ⟨a, h⟩ => ⟨a, h⟩
theorem rn_cut (s : ByteArray) (a : Nat) (ha : a ≤ s.size) (w : World) : Sem.run Tryz.prog (Instr.slice 9 (.string s) (some (.int .i64 (a : Int))) none none) w = .ok (.string (s.extract a s.size)) w := by
 rw [run_slice_string_l w 9 s Tryz.underlying9 .i64 _ (by omega) (by omega)]
 simp
namespace Num
def dgs (l : List UInt8) : Bool := l.all dig && !l.isEmpty
end Num
set_option maxHeartbeats 2000000 in
set_option maxRecDepth 100000 in
theorem rdigs_nil (w : World) :
  Calls Tryz.prog 97 #[.string ⟨#[]⟩] w fun e w' => e = .returned (.bool false) ∧ w = w' := by
 go_enter Tryz.func97, Tryz.ntmps97
 go_wp2_with fail
 refine wp_loop_rounds 1 ?_
 rw [rounds_succ]
 go_wp2_with fail
 go_ret
 exact ⟨rfl, rfl⟩
set_option maxHeartbeats 2000000 in
set_option maxRecDepth 100000 in
theorem rdigs_ne (s : ByteArray) (w : World) (hz : 0 < s.size) (hs : s.size ≤ maxLen) :
  Calls Tryz.prog 97 #[.string s] w fun e w' => e = .returned (.bool (s.data.toList.all Num.dig)) ∧ w = w' := by
 unfold maxLen at hs
 obtain ⟨hn1, hn2⟩ := dne hz
 obtain ⟨ans, hans⟩ : ∃ ans, ans = s.data.toList.all Num.dig := ⟨_, rfl⟩
 rw [← hans]
 have HA := Lib.hid hans; clear hans
 go_enter Tryz.func97, Tryz.ntmps97
 go_wp2_with fail
 go_loopw [3] (fun i wr => ∃ k : Nat, k ≤ s.size ∧ i = .int .i64 k ∧ Hid ((s.data.toList.drop k).all Num.dig = ans) ∧ wr = w) (fun i _ => s.size - (intOf i).toNat)
 case atStart => exact ⟨0, Nat.zero_le _, rfl, HA.out.symm, rfl⟩
 case round =>
  obtain ⟨k, hk, rfl, hr, hw⟩ := hrel
  obtain rfl : w = wr := hw.symm
  by_cases hlt : k < s.size
  ·
   have hb := s[k].toNat_lt
   have hd := Num.rn_dig s[k]
   have hn : (Num.dig s[k] && (s.data.toList.drop (k + 1)).all Num.dig) = ans := by rw [← hr.out, Num.rn_drop s k hlt]; rfl
   by_cases c1 : (s[k].toNat : Int) < 48
   ·
    have hno := Lib.hid (show ans = false by rw [← hn, hd, decide_eq_false (by omega)]; rfl)
    clear hn hd
    go_wp2_with fail
    go_ret
    exact ⟨by rw [hno.out]; rfl, rfl⟩
   ·
    by_cases c2 : 57 < (s[k].toNat : Int)
    ·
     have hno := Lib.hid (show ans = false by rw [← hn, hd, decide_eq_false (show ¬ (s[k].toNat : Int) ≤ 57 by omega)]; simp)
     clear hn hd
     go_wp2_with fail
     go_ret
     exact ⟨by rw [hno.out]; rfl, rfl⟩
    ·
     have hyes := Lib.hid (show (s.data.toList.drop (k + 1)).all Num.dig = ans by rw [← hn, hd, decide_eq_true (show 48 ≤ (s[k].toNat : Int) by omega), decide_eq_true (show (s[k].toNat : Int) ≤ 57 by omega)]; rfl)
     clear hn hd
     go_wp2_with fail
     go_roundw
     case rel => exact ⟨k + 1, by omega, by go_num, hyes, by first | rfl | trivial⟩
     case measure => simp [intOf]; omega
  ·
   have hyes := Lib.hid (show ans = true by rw [← hr.out, List.drop_of_length_le (by rw [Num.rn_len]; omega)]; rfl)
   go_wp2_with fail
   go_ret
   exact ⟨by rw [hyes.out]; rfl, rfl⟩
theorem rdigs_any (s : ByteArray) (w : World) (hs : s.size ≤ maxLen) :
  Calls Tryz.prog 97 #[.string s] w fun e w' => e = .returned (.bool (Num.dgs s.data.toList)) ∧ w = w' := by
 rcases Nat.eq_zero_or_pos s.size with hz | hz
 ·
  have hl : s.data.toList = [] := by rw [← List.length_eq_zero_iff, Num.rn_len]; exact hz
  have e : s = ⟨#[]⟩ := by apply ByteArray.ext; apply Array.toList_inj.1; rw [hl]
  rw [e]
  exact rdigs_nil w
 ·
  have hl : s.data.toList.isEmpty = false := by
   cases h : s.data.toList with
   | nil => have := Num.rn_len s; rw [h] at this; simp at this; omega
   | cons c r => rfl
  have e : Num.dgs s.data.toList = s.data.toList.all Num.dig := by unfold Num.dgs; rw [hl]; simp
  rw [e]
  exact rdigs_ne s w hz hs
theorem bl_len (a : ByteArray) : a.data.toList.length = a.size := Array.length_toList
theorem bl_drop (a : ByteArray) (k : Nat) (h : k < a.size) : a.data.toList.drop k = a[k] :: a.data.toList.drop (k + 1) := by
 rw [List.drop_eq_getElem_cons (by rw [bl_len]; exact h)]
 rfl
theorem dig_b (c : UInt8) : Num.dig c = (decide (48 ≤ (c.toNat : Int)) && decide ((c.toNat : Int) ≤ 57)) := by
 unfold Num.dig
 by_cases h1 : 48 ≤ c.toNat <;> by_cases h2 : c.toNat ≤ 57 <;> simp [h1, h2] <;> omega
set_option maxHeartbeats 2000000 in
set_option maxRecDepth 100000 in
theorem sdig_any (s : ByteArray) (w : World) (hs : s.size ≤ maxLen) :
  Calls Tryz.prog 118 #[.string s] w fun e w' => e = .returned (.bool (s.data.toList.all Num.dig)) ∧ w = w' := by
 unfold maxLen at hs
 obtain ⟨ans, hans⟩ : ∃ ans, ans = s.data.toList.all Num.dig := ⟨_, rfl⟩
 rw [← hans]
 have HA := Lib.hid hans; clear hans
 go_enter Tryz.func118, Tryz.ntmps118
 go_wp2_with fail
 go_loopw [6] (fun i wr => ∃ k : Nat, k ≤ s.size ∧ i = .int .i64 k ∧ Hid ((s.data.toList.drop k).all Num.dig = ans) ∧ wr = w) (fun i _ => s.size - (intOf i).toNat)
 case atStart => exact ⟨0, Nat.zero_le _, rfl, HA.out.symm, rfl⟩
 case round =>
  obtain ⟨k, hk, rfl, hr, hw⟩ := hrel
  obtain rfl : w = wr := hw.symm
  by_cases hlt : k < s.size
  ·
   have hb := s[k].toNat_lt
   have hd := dig_b s[k]
   have hn : (Num.dig s[k] && (s.data.toList.drop (k + 1)).all Num.dig) = ans := by rw [← hr.out, bl_drop s k hlt]; rfl
   by_cases c1 : (s[k].toNat : Int) < 48
   ·
    have hno := Lib.hid (show ans = false by rw [← hn, hd, decide_eq_false (by omega)]; rfl)
    clear hn hd
    go_wp2_with fail
    go_ret
    exact ⟨by rw [hno.out]; rfl, rfl⟩
   ·
    by_cases c2 : 57 < (s[k].toNat : Int)
    ·
     have hno := Lib.hid (show ans = false by rw [← hn, hd, decide_eq_false (show ¬ (s[k].toNat : Int) ≤ 57 by omega)]; simp)
     clear hn hd
     go_wp2_with fail
     go_ret
     exact ⟨by rw [hno.out]; rfl, rfl⟩
    ·
     have hyes := Lib.hid (show (s.data.toList.drop (k + 1)).all Num.dig = ans by rw [← hn, hd, decide_eq_true (show 48 ≤ (s[k].toNat : Int) by omega), decide_eq_true (show (s[k].toNat : Int) ≤ 57 by omega)]; rfl)
     clear hn hd
     go_wp2_with fail
     go_roundw
     case rel => exact ⟨k + 1, by omega, by go_num, hyes, by first | rfl | trivial⟩
     case measure => simp [intOf]; omega
  ·
   have hyes := Lib.hid (show ans = true by rw [← hr.out, List.drop_of_length_le (by rw [bl_len]; omega)]; rfl)
   go_wp2_with fail
   go_ret
   exact ⟨by rw [hyes.out]; rfl, rfl⟩
set_option maxHeartbeats 2000000 in
set_option maxRecDepth 100000 in
theorem sval_any (s : ByteArray) (w : World) (hs : s.size ≤ 5) (hd : s.data.toList.all Num.dig = true) :
  Calls Tryz.prog 119 #[.string s] w fun e w' => e = .returned (.int .i64 (Num.val 0 s.data.toList)) ∧ w = w' := by
 obtain ⟨ans, hans⟩ : ∃ ans, ans = Num.val 0 s.data.toList := ⟨_, rfl⟩
 rw [← hans]
 have HA := Lib.hid hans; clear hans
 have HD := Lib.hid hd; clear hd
 go_enter Tryz.func119, Tryz.ntmps119
 go_wp2_with fail
 go_loopw [3, 7] (fun n i wr => ∃ k a : Nat, k ≤ s.size ∧ i = .int .i64 k ∧ n = .int .i64 a ∧ Hid (a + 1 ≤ 10 ^ k) ∧ Hid (Num.val a (s.data.toList.drop k) = ans) ∧ wr = w) (fun _ i _ => s.size - (intOf i).toNat)
 case atStart => exact ⟨0, 0, Nat.zero_le _, rfl, rfl, Nat.le_refl 1, HA.out.symm, rfl⟩
 case round =>
  obtain ⟨k, a, hk, rfl, rfl, hp, hr, hw⟩ := hrel
  obtain rfl : w = wr := hw.symm
  by_cases hlt : k < s.size
  ·
   have hb := s[k].toNat_lt
   have hdk : Num.dig s[k] = true := by
    have h := HD.out
    have := List.all_eq_true.1 h s[k] (by
     have e : s[k] = s.data.toList[k]'(by rw [bl_len]; exact hlt) := rfl
     rw [e]; exact List.getElem_mem _)
    exact this
   have h48 : 48 ≤ s[k].toNat ∧ s[k].toNat ≤ 57 := by unfold Num.dig at hdk; exact of_decide_eq_true hdk
   obtain ⟨l48, l57⟩ := h48
   have ha : a ≤ 99999 := by
    have h := hp.out
    have := Nat.pow_le_pow_right (n := 10) (by omega) (show k ≤ 5 by omega)
    omega
   have hp' := Lib.hid (show Num.stp a s[k] + 1 ≤ 10 ^ (k + 1) by rw [Num.stp_eq, Nat.pow_succ]; have := hp.out; omega)
   have hr' := Lib.hid (show Num.val (Num.stp a s[k]) (s.data.toList.drop (k + 1)) = ans by rw [← hr.out, bl_drop s k hlt, Num.val_cons])
   have hs' := Lib.hid (show (a : Int) * 10 + ((s[k].toNat : Int) - 48) = (Num.stp a s[k] : Int) by rw [Num.stp_eq]; omega)
   clear hdk hp hr
   go_wp2_with fail
   go_roundw
   case rel => exact ⟨k + 1, Num.stp a s[k], by omega, by go_num, by first | (rw [← hs'.out]; done) | (rw [← hs'.out]; rfl) | (congr 1; rw [← hs'.out]), hp', hr', by first | rfl | trivial⟩
   case measure => simp [intOf]; omega
  ·
   have hyes := Lib.hid (show a = ans by rw [← hr.out, List.drop_of_length_le (by rw [bl_len]; omega)]; rfl)
   go_wp2_with fail
   go_ret
   exact ⟨by rw [hyes.out]; rfl, rfl⟩
end Go.Proofs.YtifgiclnofdnkaaGreatDoor
