/- Joined: LnA, RnD, StV, RsD. -/
import Derived.Test.YtbcbggdbojonmaaGreatDoorLaid6
import Derived.Test.YtbcbggdbojonmaaGreatDoorBy03
import Derived.Shelf.GgClosure.StringsIndexFuncTop
import Derived.Laws.RangeAny
import Derived.Test.YtbcbggdbojonmaaGreatDoorBy02
import Derived.Deep.QuietTactic
set_option linter.unusedVariables false
set_option linter.unusedSimpArgs false
namespace Go.Proofs.YtbcbggdbojonmaaGreatDoor
open Go.RowKit
namespace Ln
def okB (c : UInt8) : Bool := decide (c.toNat = 9) || (decide (32 ≤ c.toNat) && decide (c.toNat ≤ 126))
def wrC (r : Nat) : Bool := !(decide (r = 9)) && (decide (r < 32) || decide (126 < r))
def chk (l : List UInt8) : Int := if 511 < l.length then 9 else if l.all okB then 0 else 7
theorem decode_low (s : ByteArray) (pos : Nat) (h : pos < s.size) (ha : (s[pos]'h).toNat < 128) : Utf8.decode s pos = ((s[pos]'h).toNat, 1) := by
 simp only [Utf8.decode, get_at s pos h, ha, if_true]
theorem ok_wr (c : UInt8) : okB c = !(wrC c.toNat) := by
 unfold okB wrC
 by_cases h1 : c.toNat = 9 <;> by_cases h2 : c.toNat < 32 <;> by_cases h3 : 126 < c.toNat
 all_goals simp [h1, h2, h3]
 all_goals omega
theorem idx_wr (s : ByteArray) : ∀ (f pos : Nat), s.size - pos ≤ f → decide (0 ≤ Lib.idxFuncFrom wrC true s f pos) = !((s.data.toList.drop pos).all okB)
 | 0, pos, h => by
  rw [List.drop_of_length_le (by rw [ab_len]; omega)]
  rfl
 | f + 1, pos, h => by
  unfold Lib.idxFuncFrom
  by_cases hp : pos < s.size
  ·
   rw [if_pos hp, ab_drop s pos hp, List.all_cons]
   by_cases ha : (s[pos]'hp).toNat < 128
   ·
    rw [decode_low s pos hp ha, ok_wr]
    cases hw : wrC (s[pos]'hp).toNat
    ·
     rw [if_neg (by simp)]
     rw [idx_wr s f (pos + 1) (by omega)]; simp
    ·
     rw [if_pos rfl, decide_eq_true (by omega)]; rfl
   ·
    obtain ⟨r1, r2⟩ := decode_high s pos hp (by omega)
    have hw : wrC (Utf8.decode s pos).1 = true := by unfold wrC; rw [decide_eq_false (by omega), decide_eq_true (show 126 < (Utf8.decode s pos).1 by omega)]; simp
    have ho : okB (s[pos]'hp) = false := by unfold okB; rw [decide_eq_false (by omega), decide_eq_false (show ¬ (s[pos]'hp).toNat ≤ 126 by omega)]; simp
    rw [if_pos hw, decide_eq_true (by omega), ho]; rfl
  ·
   rw [if_neg hp, List.drop_of_length_le (by rw [ab_len]; omega)]
   rfl
theorem idx_all (s : ByteArray) : decide (0 ≤ Lib.idxFunc wrC true s) = !(s.data.toList.all okB) := idx_wr s s.size 0 (by omega)
end Ln
theorem isWrong_at (w : World) : PredAt Tryz.prog 44 #[] encR Ln.wrC w := fun W r _ => by
 unfold FnGives
 by_cases h1 : r = 9 <;> by_cases h2 : r < 32 <;> by_cases h3 : 126 < r
 all_goals
  have z1 : ((r : Int) == 9) = decide (r = 9) := by rw [Bool.eq_iff_iff, beq_iff_eq, decide_eq_true_eq]; omega
  have z2 : (r : Int) < 32 ↔ r < 32 := by omega
  have z3 : 126 < (r : Int) ↔ 126 < r := by omega
  have z4 : ((r : Int) != 9) = !decide (r = 9) := by unfold bne; rw [z1]
  go_enter Tryz.func44, Tryz.ntmps44
  go_wp2
  all_goals first | (exfalso; omega) | (go_ret; exact ⟨by simp [Ln.wrC, h1, h2, h3], 0, rfl⟩)
theorem containsWrong (s : ByteArray) (w : World) :
  Calls Tryz.prog 43 #[.string s, .func (.func 44) #[] #[]] w fun e w' => e = .returned (.bool (!(s.data.toList.all Ln.okB))) ∧ Below w.heap.size w w' := by
 rw [← Ln.idx_all]
 exact (Any.strings_ContainsFunc Tryz.laysGw17 44 #[] (enters_of Tryz.func44 (by kernel_rfl) rfl) Ln.wrC s w (isWrong_at w)).mono fun _ _ ⟨a, h⟩ => ⟨a, h⟩
theorem rn_cut (s : ByteArray) (a : Nat) (ha : a ≤ s.size) (w : World) : Sem.run Tryz.prog (Instr.slice 9 (.string s) (some (.int .i64 (a : Int))) none none) w = .ok (.string (s.extract a s.size)) w := by
 rw [run_slice_string_l w 9 s Tryz.underlying9 .i64 _ (by omega) (by omega)]
 simp
namespace Num
def dgs (l : List UInt8) : Bool := l.all dig && !l.isEmpty
end Num
set_option maxHeartbeats 2000000 in
set_option maxRecDepth 100000 in
theorem rdigs_nil (w : World) :
  Calls Tryz.prog 58 #[.string ⟨#[]⟩] w fun e w' => e = .returned (.bool false) ∧ w = w' := by
 go_enter Tryz.func58, Tryz.ntmps58
 go_wp2_with fail
 refine wp_loop_rounds 1 ?_
 rw [rounds_succ]
 go_wp2_with fail
 go_ret
 exact ⟨rfl, rfl⟩
set_option maxHeartbeats 2000000 in
set_option maxRecDepth 100000 in
theorem rdigs_ne (s : ByteArray) (w : World) (hz : 0 < s.size) (hs : s.size ≤ maxLen) :
  Calls Tryz.prog 58 #[.string s] w fun e w' => e = .returned (.bool (s.data.toList.all Num.dig)) ∧ w = w' := by
 unfold maxLen at hs
 obtain ⟨hn1, hn2⟩ := dne hz
 obtain ⟨ans, hans⟩ : ∃ ans, ans = s.data.toList.all Num.dig := ⟨_, rfl⟩
 rw [← hans]
 have HA := Lib.hid hans; clear hans
 go_enter Tryz.func58, Tryz.ntmps58
 go_wp2_with fail
 go_loopw [3] (fun i wr => ∃ k : Nat, k ≤ s.size ∧ i = .int .i64 k ∧ Hid ((s.data.toList.drop k).all Num.dig = ans) ∧ wr = w) (fun i _ => s.size - (intOf i).toNat)
 case atStart => exact ⟨0, Nat.zero_le _, rfl, HA.out.symm, rfl⟩
 case round =>
  obtain ⟨k, hk, rfl, hr, hw⟩ := hrel
  obtain rfl : w = wr := hw.symm
  by_cases hlt : k < s.size
  ·
   have hb := s[k].toNat_lt
   have hd := Num.rn_dig s[k]
   have hn : (Num.dig s[k] && (s.data.toList.drop (k + 1)).all Num.dig) = ans := by rw [← hr.out, Num.rn_drop s k hlt]; rfl
   by_cases c1 : (s[k].toNat : Int) < 48
   ·
    have hno := Lib.hid (show ans = false by rw [← hn, hd, decide_eq_false (by omega)]; rfl)
    clear hn hd
    go_wp2_with fail
    go_ret
    exact ⟨by rw [hno.out]; rfl, rfl⟩
   ·
    by_cases c2 : 57 < (s[k].toNat : Int)
    ·
     have hno := Lib.hid (show ans = false by rw [← hn, hd, decide_eq_false (show ¬ (s[k].toNat : Int) ≤ 57 by omega)]; simp)
     clear hn hd
     go_wp2_with fail
     go_ret
     exact ⟨by rw [hno.out]; rfl, rfl⟩
    ·
     have hyes := Lib.hid (show (s.data.toList.drop (k + 1)).all Num.dig = ans by rw [← hn, hd, decide_eq_true (show 48 ≤ (s[k].toNat : Int) by omega), decide_eq_true (show (s[k].toNat : Int) ≤ 57 by omega)]; rfl)
     clear hn hd
     go_wp2_with fail
     go_roundw
     case rel => exact ⟨k + 1, by omega, by go_num, hyes, by first | rfl | trivial⟩
     case measure => simp [intOf]; omega
  ·
   have hyes := Lib.hid (show ans = true by rw [← hr.out, List.drop_of_length_le (by rw [Num.rn_len]; omega)]; rfl)
   go_wp2_with fail
   go_ret
   exact ⟨by rw [hyes.out]; rfl, rfl⟩
theorem rdigs_any (s : ByteArray) (w : World) (hs : s.size ≤ maxLen) :
  Calls Tryz.prog 58 #[.string s] w fun e w' => e = .returned (.bool (Num.dgs s.data.toList)) ∧ w = w' := by
 rcases Nat.eq_zero_or_pos s.size with hz | hz
 ·
  have hl : s.data.toList = [] := by rw [← List.length_eq_zero_iff, Num.rn_len]; exact hz
  have e : s = ⟨#[]⟩ := by apply ByteArray.ext; apply Array.toList_inj.1; rw [hl]
  rw [e]
  exact rdigs_nil w
 ·
  have hl : s.data.toList.isEmpty = false := by
   cases h : s.data.toList with
   | nil => have := Num.rn_len s; rw [h] at this; simp at this; omega
   | cons c r => rfl
  have e : Num.dgs s.data.toList = s.data.toList.all Num.dig := by unfold Num.dgs; rw [hl]; simp
  rw [e]
  exact rdigs_ne s w hz hs
theorem bl_len (a : ByteArray) : a.data.toList.length = a.size := Array.length_toList
theorem bl_drop (a : ByteArray) (k : Nat) (h : k < a.size) : a.data.toList.drop k = a[k] :: a.data.toList.drop (k + 1) := by
 rw [List.drop_eq_getElem_cons (by rw [bl_len]; exact h)]
 rfl
theorem dig_b (c : UInt8) : Num.dig c = (decide (48 ≤ (c.toNat : Int)) && decide ((c.toNat : Int) ≤ 57)) := by
 unfold Num.dig
 by_cases h1 : 48 ≤ c.toNat <;> by_cases h2 : c.toNat ≤ 57 <;> simp [h1, h2] <;> omega
set_option maxHeartbeats 2000000 in
set_option maxRecDepth 100000 in
theorem sdig_any (s : ByteArray) (w : World) (hs : s.size ≤ maxLen) :
  Calls Tryz.prog 134 #[.string s] w fun e w' => e = .returned (.bool (s.data.toList.all Num.dig)) ∧ w = w' := by
 unfold maxLen at hs
 obtain ⟨ans, hans⟩ : ∃ ans, ans = s.data.toList.all Num.dig := ⟨_, rfl⟩
 rw [← hans]
 have HA := Lib.hid hans; clear hans
 go_enter Tryz.func134, Tryz.ntmps134
 go_wp2_with fail
 go_loopw [6] (fun i wr => ∃ k : Nat, k ≤ s.size ∧ i = .int .i64 k ∧ Hid ((s.data.toList.drop k).all Num.dig = ans) ∧ wr = w) (fun i _ => s.size - (intOf i).toNat)
 case atStart => exact ⟨0, Nat.zero_le _, rfl, HA.out.symm, rfl⟩
 case round =>
  obtain ⟨k, hk, rfl, hr, hw⟩ := hrel
  obtain rfl : w = wr := hw.symm
  by_cases hlt : k < s.size
  ·
   have hb := s[k].toNat_lt
   have hd := dig_b s[k]
   have hn : (Num.dig s[k] && (s.data.toList.drop (k + 1)).all Num.dig) = ans := by rw [← hr.out, bl_drop s k hlt]; rfl
   by_cases c1 : (s[k].toNat : Int) < 48
   ·
    have hno := Lib.hid (show ans = false by rw [← hn, hd, decide_eq_false (by omega)]; rfl)
    clear hn hd
    go_wp2_with fail
    go_ret
    exact ⟨by rw [hno.out]; rfl, rfl⟩
   ·
    by_cases c2 : 57 < (s[k].toNat : Int)
    ·
     have hno := Lib.hid (show ans = false by rw [← hn, hd, decide_eq_false (show ¬ (s[k].toNat : Int) ≤ 57 by omega)]; simp)
     clear hn hd
     go_wp2_with fail
     go_ret
     exact ⟨by rw [hno.out]; rfl, rfl⟩
    ·
     have hyes := Lib.hid (show (s.data.toList.drop (k + 1)).all Num.dig = ans by rw [← hn, hd, decide_eq_true (show 48 ≤ (s[k].toNat : Int) by omega), decide_eq_true (show (s[k].toNat : Int) ≤ 57 by omega)]; rfl)
     clear hn hd
     go_wp2_with fail
     go_roundw
     case rel => exact ⟨k + 1, by omega, by go_num, hyes, by first | rfl | trivial⟩
     case measure => simp [intOf]; omega
  ·
   have hyes := Lib.hid (show ans = true by rw [← hr.out, List.drop_of_length_le (by rw [bl_len]; omega)]; rfl)
   go_wp2_with fail
   go_ret
   exact ⟨by rw [hyes.out]; rfl, rfl⟩
set_option maxHeartbeats 2000000 in
set_option maxRecDepth 100000 in
theorem sval_any (s : ByteArray) (w : World) (hs : s.size ≤ 5) (hd : s.data.toList.all Num.dig = true) :
  Calls Tryz.prog 135 #[.string s] w fun e w' => e = .returned (.int .i64 (Num.val 0 s.data.toList)) ∧ w = w' := by
 obtain ⟨ans, hans⟩ : ∃ ans, ans = Num.val 0 s.data.toList := ⟨_, rfl⟩
 rw [← hans]
 have HA := Lib.hid hans; clear hans
 have HD := Lib.hid hd; clear hd
 go_enter Tryz.func135, Tryz.ntmps135
 go_wp2_with fail
 go_loopw [3, 7] (fun n i wr => ∃ k a : Nat, k ≤ s.size ∧ i = .int .i64 k ∧ n = .int .i64 a ∧ Hid (a + 1 ≤ 10 ^ k) ∧ Hid (Num.val a (s.data.toList.drop k) = ans) ∧ wr = w) (fun _ i _ => s.size - (intOf i).toNat)
 case atStart => exact ⟨0, 0, Nat.zero_le _, rfl, rfl, Nat.le_refl 1, HA.out.symm, rfl⟩
 case round =>
  obtain ⟨k, a, hk, rfl, rfl, hp, hr, hw⟩ := hrel
  obtain rfl : w = wr := hw.symm
  by_cases hlt : k < s.size
  ·
   have hb := s[k].toNat_lt
   have hdk : Num.dig s[k] = true := by
    have h := HD.out
    have := List.all_eq_true.1 h s[k] (by
     have e : s[k] = s.data.toList[k]'(by rw [bl_len]; exact hlt) := rfl
     rw [e]; exact List.getElem_mem _)
    exact this
   have h48 : 48 ≤ s[k].toNat ∧ s[k].toNat ≤ 57 := by unfold Num.dig at hdk; exact of_decide_eq_true hdk
   obtain ⟨l48, l57⟩ := h48
   have ha : a ≤ 99999 := by
    have h := hp.out
    have := Nat.pow_le_pow_right (n := 10) (by omega) (show k ≤ 5 by omega)
    omega
   have hp' := Lib.hid (show Num.stp a s[k] + 1 ≤ 10 ^ (k + 1) by rw [Num.stp_eq, Nat.pow_succ]; have := hp.out; omega)
   have hr' := Lib.hid (show Num.val (Num.stp a s[k]) (s.data.toList.drop (k + 1)) = ans by rw [← hr.out, bl_drop s k hlt, Num.val_cons])
   have hs' := Lib.hid (show (a : Int) * 10 + ((s[k].toNat : Int) - 48) = (Num.stp a s[k] : Int) by rw [Num.stp_eq]; omega)
   clear hdk hp hr
   go_wp2_with fail
   go_roundw
   case rel => exact ⟨k + 1, Num.stp a s[k], by omega, by go_num, by first | (rw [← hs'.out]; done) | (rw [← hs'.out]; rfl) | (congr 1; rw [← hs'.out]), hp', hr', by first | rfl | trivial⟩
   case measure => simp [intOf]; omega
  ·
   have hyes := Lib.hid (show a = ans by rw [← hr.out, List.drop_of_length_le (by rw [bl_len]; omega)]; rfl)
   go_wp2_with fail
   go_ret
   exact ⟨by rw [hyes.out]; rfl, rfl⟩
set_option maxHeartbeats 2000000 in
set_option maxRecDepth 100000 in
theorem two_any (s : ByteArray) (c0 c1 : Int) (w : World) (IX0 : ∀ W, Sem.run Tryz.prog (Instr.index 9 (.string s) (.int .i64 0)) W = .ok (.int .u8 c0) W) (IX1 : ∀ W, Sem.run Tryz.prog (Instr.index 9 (.string s) (.int .i64 1)) W = .ok (.int .u8 c1) W) (a0 : 48 ≤ c0) (a1 : c0 ≤ 57) (b0 : 48 ≤ c1) (b1 : c1 ≤ 57) :
  Calls Tryz.prog 86 #[.string s] w fun e w' => e = .returned (.int .i64 ((c0 - 48) * 10 + (c1 - 48))) ∧ ∃ n, w' = w.drewN n := by
 go_enter Tryz.func86, Tryz.ntmps86
 go_wp2_with fail
 go_quiet (fail)
 go_wp2_with fail
 go_ret
 exact ⟨rfl, _, rfl⟩
theorem ry4_nil (w : World) :
  Calls Tryz.prog 87 #[.string ⟨#[]⟩] w fun e w' => e = .returned (.tuple #[.int .i64 0, .int .i64 4]) ∧ w = w' := by
 go_enter Tryz.func87, Tryz.ntmps87
 go_wp2_with fail
 go_ret2
 exact ⟨rfl, rfl⟩
theorem ry4_mz (w : World) :
  Calls Tryz.prog 87 #[.string ⟨#[45, 48, 48, 48, 48]⟩] w fun e w' => e = .returned (.tuple #[.int .i64 0, .int .i64 4]) ∧ w = w' := by
 have CD := Lib.hid (fun W => rdigs_ne ⟨#[48, 48, 48, 48]⟩ W (by decide) (by decide))
 have IX : ∀ W, Sem.run Tryz.prog (Instr.index 9 (.string ⟨#[45, 48, 48, 48, 48]⟩) (.int .i64 0)) W = .ok (.int .u8 45) W := fun W => rn_ix ⟨#[45, 48, 48, 48, 48]⟩ 0 (by decide) W
 have sl : ∀ W, Sem.run Tryz.prog (Instr.slice 9 (.string ⟨#[45, 48, 48, 48, 48]⟩) (some (.int .i64 1)) none none) W = .ok (.string ⟨#[48, 48, 48, 48]⟩) W := fun W => rn_cut ⟨#[45, 48, 48, 48, 48]⟩ 1 (by decide) W
 go_enter Tryz.func87, Tryz.ntmps87
 go_wp2_with fail
 refine (CD.out _).mono ?_; rintro e w1 ⟨rfl, rfl⟩
 go_wp2_with fail
 go_ret2
 exact ⟨rfl, rfl⟩
theorem ry4_yshort (s d : ByteArray) (c x : Int) (g : Bool) (w : World) (ls : 1 ≤ (s.size : Int)) (lm : s.size ≤ 1000) (ld : (d.size : Int) + 1 = (s.size : Int)) (IX : (∀ W, Sem.run Tryz.prog (Instr.index 9 (.string s) (.int .i64 0)) W = .ok (.int .u8 c) W)) (hc : (c == 45) = true) (sl : (∀ W, Sem.run Tryz.prog (Instr.slice 9 (.string s) (some (.int .i64 1)) none none) W = .ok (.string d) W)) (CD : Hid (∀ W, Calls Tryz.prog 58 #[.string d] W fun e w' => e = .returned (.bool g) ∧ W = w')) (h4 : (d.size : Int) < 4) :
  Calls Tryz.prog 87 #[.string s] w fun e w' => e = .returned (.tuple #[.int .i64 0, .int .i64 4]) ∧ w = w' := by
 clear CD
 go_enter Tryz.func87, Tryz.ntmps87
 go_wp2_with fail
 go_ret2
 exact ⟨rfl, rfl⟩
theorem ry4_yno (s d : ByteArray) (c x : Int) (g : Bool) (w : World) (ls : 1 ≤ (s.size : Int)) (lm : s.size ≤ 1000) (ld : (d.size : Int) + 1 = (s.size : Int)) (IX : (∀ W, Sem.run Tryz.prog (Instr.index 9 (.string s) (.int .i64 0)) W = .ok (.int .u8 c) W)) (hc : (c == 45) = true) (sl : (∀ W, Sem.run Tryz.prog (Instr.slice 9 (.string s) (some (.int .i64 1)) none none) W = .ok (.string d) W)) (CD : Hid (∀ W, Calls Tryz.prog 58 #[.string d] W fun e w' => e = .returned (.bool g) ∧ W = w')) (h4 : ¬ (d.size : Int) < 4) (hg : g = false) :
  Calls Tryz.prog 87 #[.string s] w fun e w' => e = .returned (.tuple #[.int .i64 0, .int .i64 4]) ∧ w = w' := by
 subst hg
 go_enter Tryz.func87, Tryz.ntmps87
 go_wp2_with fail
 refine (CD.out _).mono ?_; rintro e w1 ⟨rfl, rfl⟩
 go_wp2_with fail
 go_ret2
 exact ⟨rfl, rfl⟩
theorem ry4_yzero (s d : ByteArray) (c x : Int) (g : Bool) (w : World) (ls : 1 ≤ (s.size : Int)) (lm : s.size ≤ 1000) (ld : (d.size : Int) + 1 = (s.size : Int)) (IX : (∀ W, Sem.run Tryz.prog (Instr.index 9 (.string s) (.int .i64 0)) W = .ok (.int .u8 c) W)) (hc : (c == 45) = true) (sl : (∀ W, Sem.run Tryz.prog (Instr.slice 9 (.string s) (some (.int .i64 1)) none none) W = .ok (.string d) W)) (CD : Hid (∀ W, Calls Tryz.prog 58 #[.string d] W fun e w' => e = .returned (.bool g) ∧ W = w')) (ID : (∀ W, Sem.run Tryz.prog (Instr.index 9 (.string d) (.int .i64 0)) W = .ok (.int .u8 x) W)) (h4 : ¬ (d.size : Int) < 4) (hg : g = true) (h1 : 4 < (d.size : Int)) (hx : (x == 48) = true) :
  Calls Tryz.prog 87 #[.string s] w fun e w' => e = .returned (.tuple #[.int .i64 0, .int .i64 4]) ∧ w = w' := by
 subst hg
 go_enter Tryz.func87, Tryz.ntmps87
 go_wp2_with fail
 refine (CD.out _).mono ?_; rintro e w1 ⟨rfl, rfl⟩
 go_wp2_with fail
 go_ret2
 exact ⟨rfl, rfl⟩
theorem ry4_yfar (s d : ByteArray) (c x : Int) (g : Bool) (w : World) (ls : 1 ≤ (s.size : Int)) (lm : s.size ≤ 1000) (ld : (d.size : Int) + 1 = (s.size : Int)) (IX : (∀ W, Sem.run Tryz.prog (Instr.index 9 (.string s) (.int .i64 0)) W = .ok (.int .u8 c) W)) (hc : (c == 45) = true) (sl : (∀ W, Sem.run Tryz.prog (Instr.slice 9 (.string s) (some (.int .i64 1)) none none) W = .ok (.string d) W)) (CD : Hid (∀ W, Calls Tryz.prog 58 #[.string d] W fun e w' => e = .returned (.bool g) ∧ W = w')) (ID : (∀ W, Sem.run Tryz.prog (Instr.index 9 (.string d) (.int .i64 0)) W = .ok (.int .u8 x) W)) (h4 : ¬ (d.size : Int) < 4) (hg : g = true) (h1 : 5 < (d.size : Int)) (hx : (x == 48) = false) (hs : (s.toList == [45, 48, 48, 48, 48]) = false) :
  Calls Tryz.prog 87 #[.string s] w fun e w' => e = .returned (.tuple #[.int .i64 0, .int .i64 1]) ∧ w = w' := by
 subst hg
 go_enter Tryz.func87, Tryz.ntmps87
 go_wp2_with fail
 refine (CD.out _).mono ?_; rintro e w1 ⟨rfl, rfl⟩
 go_wp2_with fail
 go_ret2
 exact ⟨rfl, rfl⟩
theorem ry4_nshort (s : ByteArray) (c : Int) (g : Bool) (w : World) (ls : 1 ≤ (s.size : Int)) (lm : s.size ≤ 1000) (IX : (∀ W, Sem.run Tryz.prog (Instr.index 9 (.string s) (.int .i64 0)) W = .ok (.int .u8 c) W)) (hc : (c == 45) = false) (CD : Hid (∀ W, Calls Tryz.prog 58 #[.string s] W fun e w' => e = .returned (.bool g) ∧ W = w')) (h4 : (s.size : Int) < 4) :
  Calls Tryz.prog 87 #[.string s] w fun e w' => e = .returned (.tuple #[.int .i64 0, .int .i64 4]) ∧ w = w' := by
 clear CD
 go_enter Tryz.func87, Tryz.ntmps87
 go_wp2_with fail
 go_ret2
 exact ⟨rfl, rfl⟩
theorem ry4_nno (s : ByteArray) (c : Int) (g : Bool) (w : World) (ls : 1 ≤ (s.size : Int)) (lm : s.size ≤ 1000) (IX : (∀ W, Sem.run Tryz.prog (Instr.index 9 (.string s) (.int .i64 0)) W = .ok (.int .u8 c) W)) (hc : (c == 45) = false) (CD : Hid (∀ W, Calls Tryz.prog 58 #[.string s] W fun e w' => e = .returned (.bool g) ∧ W = w')) (h4 : ¬ (s.size : Int) < 4) (hg : g = false) :
  Calls Tryz.prog 87 #[.string s] w fun e w' => e = .returned (.tuple #[.int .i64 0, .int .i64 4]) ∧ w = w' := by
 subst hg
 go_enter Tryz.func87, Tryz.ntmps87
 go_wp2_with fail
 refine (CD.out _).mono ?_; rintro e w1 ⟨rfl, rfl⟩
 go_wp2_with fail
 go_ret2
 exact ⟨rfl, rfl⟩
theorem ry4_nzero (s : ByteArray) (c : Int) (g : Bool) (w : World) (ls : 1 ≤ (s.size : Int)) (lm : s.size ≤ 1000) (IX : (∀ W, Sem.run Tryz.prog (Instr.index 9 (.string s) (.int .i64 0)) W = .ok (.int .u8 c) W)) (hc : (c == 45) = false) (CD : Hid (∀ W, Calls Tryz.prog 58 #[.string s] W fun e w' => e = .returned (.bool g) ∧ W = w'))  (h4 : ¬ (s.size : Int) < 4) (hg : g = true) (h1 : 4 < (s.size : Int)) (hx : (c == 48) = true) :
  Calls Tryz.prog 87 #[.string s] w fun e w' => e = .returned (.tuple #[.int .i64 0, .int .i64 4]) ∧ w = w' := by
 subst hg
 go_enter Tryz.func87, Tryz.ntmps87
 go_wp2_with fail
 refine (CD.out _).mono ?_; rintro e w1 ⟨rfl, rfl⟩
 go_wp2_with fail
 go_ret2
 exact ⟨rfl, rfl⟩
theorem ry4_nfar (s : ByteArray) (c : Int) (g : Bool) (w : World) (ls : 1 ≤ (s.size : Int)) (lm : s.size ≤ 1000) (IX : (∀ W, Sem.run Tryz.prog (Instr.index 9 (.string s) (.int .i64 0)) W = .ok (.int .u8 c) W)) (hc : (c == 45) = false) (CD : Hid (∀ W, Calls Tryz.prog 58 #[.string s] W fun e w' => e = .returned (.bool g) ∧ W = w'))  (h4 : ¬ (s.size : Int) < 4) (hg : g = true) (h1 : 5 < (s.size : Int)) (hx : (c == 48) = false) (hs : (s.toList == [45, 48, 48, 48, 48]) = false) :
  Calls Tryz.prog 87 #[.string s] w fun e w' => e = .returned (.tuple #[.int .i64 0, .int .i64 1]) ∧ w = w' := by
 subst hg
 go_enter Tryz.func87, Tryz.ntmps87
 go_wp2_with fail
 refine (CD.out _).mono ?_; rintro e w1 ⟨rfl, rfl⟩
 go_wp2_with fail
 go_ret2
 exact ⟨rfl, rfl⟩
set_option maxHeartbeats 2000000 in
set_option maxRecDepth 100000 in
theorem ry4_yvaly (s d : ByteArray) (c x : Int) (g : Bool) (w : World) (ls : 1 ≤ (s.size : Int)) (lm : s.size ≤ 1000) (ld : (d.size : Int) + 1 = (s.size : Int)) (IX : (∀ W, Sem.run Tryz.prog (Instr.index 9 (.string s) (.int .i64 0)) W = .ok (.int .u8 c) W)) (hc : (c == 45) = true) (sl : (∀ W, Sem.run Tryz.prog (Instr.slice 9 (.string s) (some (.int .i64 1)) none none) W = .ok (.string d) W)) (CD : Hid (∀ W, Calls Tryz.prog 58 #[.string d] W fun e w' => e = .returned (.bool g) ∧ W = w')) (ID : (∀ W, Sem.run Tryz.prog (Instr.index 9 (.string d) (.int .i64 0)) W = .ok (.int .u8 x) W)) (h1 : ¬ 4 < (d.size : Int)) (h4 : ¬ (d.size : Int) < 4) (h5 : ¬ 5 < (d.size : Int)) (hg : g = true) (hs : (s.toList == [45, 48, 48, 48, 48]) = false) (hd : d.data.toList.all Num.dig = true) :
  Calls Tryz.prog 87 #[.string s] w fun e w' => e = .returned (.tuple #[.int .i64 (-(Num.val 0 d.data.toList : Int)), .int .i64 0]) ∧ w = w' := by
 subst hg
 obtain ⟨ans, hans⟩ : ∃ ans, ans = Num.val 0 d.data.toList := ⟨_, rfl⟩
 rw [← hans]
 have HA := Lib.hid hans
 have HD := Lib.hid hd; clear hd
 clear hans
 go_enter Tryz.func87, Tryz.ntmps87
 go_wp2_with fail
 refine (CD.out _).mono ?_; rintro e w1 ⟨rfl, rfl⟩
 go_wp2_with fail
 go_loopw [5, 6] (fun n i wr => ∃ k a : Nat, k ≤ d.size ∧ i = .int .i64 k ∧ n = .int .i64 a ∧ Hid (a + 1 ≤ 10 ^ k) ∧ Hid (Num.val a (d.data.toList.drop k) = ans) ∧ wr = w) (fun _ i _ => d.size - (intOf i).toNat)
 case atStart => exact ⟨0, 0, Nat.zero_le _, rfl, rfl, Nat.le_refl 1, HA.out.symm, rfl⟩
 case round =>
  obtain ⟨k, a, hk, rfl, rfl, hp, hr, hw⟩ := hrel
  obtain rfl : w = wr := hw.symm
  by_cases hlt : k < d.size
  ·
   have hb := d[k].toNat_lt
   have hdk : Num.dig d[k] = true := by
    have h := HD.out
    have := List.all_eq_true.1 h d[k] (by
     have e : d[k] = d.data.toList[k]'(by rw [Num.rn_len]; exact hlt) := rfl
     rw [e]; exact List.getElem_mem _)
    exact this
   have h48 : 48 ≤ d[k].toNat ∧ d[k].toNat ≤ 57 := by unfold Num.dig at hdk; exact of_decide_eq_true hdk
   obtain ⟨l48, l57⟩ := h48
   have ha : a ≤ 9999 := by
    have h := hp.out
    have := Nat.pow_le_pow_right (n := 10) (by omega) (show k ≤ 4 by omega)
    omega
   have hp' := Lib.hid (show Num.stp a d[k] + 1 ≤ 10 ^ (k + 1) by rw [Num.stp_eq, Nat.pow_succ]; have := hp.out; omega)
   have hr' := Lib.hid (show Num.val (Num.stp a d[k]) (d.data.toList.drop (k + 1)) = ans by rw [← hr.out, Num.rn_drop d k hlt, Num.val_cons])
   have hs' := Lib.hid (show 10 * (a : Int) + ((d[k].toNat : Int) - 48) = (Num.stp a d[k] : Int) by rw [Num.stp_eq]; omega)
   clear hdk hp hr
   go_wp2_with fail
   go_roundw
   case rel => exact ⟨k + 1, Num.stp a d[k], by omega, by go_num, by first | (rw [← hs'.out]; done) | (rw [← hs'.out]; rfl) | (congr 1; rw [← hs'.out]), hp', hr', by first | rfl | trivial⟩
   case measure => simp [intOf]; omega
  ·
   have hyes := Lib.hid (show a = ans by rw [← hr.out, List.drop_of_length_le (by rw [Num.rn_len]; omega)]; rfl)
   have hbd : a ≤ 99999 := by
    have h := hp.out
    have := Nat.pow_le_pow_right (n := 10) (by omega) (show k ≤ 5 by omega)
    omega
   clear hp hr
   go_wp2_with fail
   go_ret2
   exact ⟨by rw [← hyes.out]; rfl, rfl⟩
set_option maxHeartbeats 2000000 in
set_option maxRecDepth 100000 in
theorem ry4_yvaln (s d : ByteArray) (c x : Int) (g : Bool) (w : World) (ls : 1 ≤ (s.size : Int)) (lm : s.size ≤ 1000) (ld : (d.size : Int) + 1 = (s.size : Int)) (IX : (∀ W, Sem.run Tryz.prog (Instr.index 9 (.string s) (.int .i64 0)) W = .ok (.int .u8 c) W)) (hc : (c == 45) = true) (sl : (∀ W, Sem.run Tryz.prog (Instr.slice 9 (.string s) (some (.int .i64 1)) none none) W = .ok (.string d) W)) (CD : Hid (∀ W, Calls Tryz.prog 58 #[.string d] W fun e w' => e = .returned (.bool g) ∧ W = w')) (ID : (∀ W, Sem.run Tryz.prog (Instr.index 9 (.string d) (.int .i64 0)) W = .ok (.int .u8 x) W)) (h1 : 4 < (d.size : Int)) (hx : (x == 48) = false) (h4 : ¬ (d.size : Int) < 4) (h5 : ¬ 5 < (d.size : Int)) (hg : g = true) (hs : (s.toList == [45, 48, 48, 48, 48]) = false) (hd : d.data.toList.all Num.dig = true) :
  Calls Tryz.prog 87 #[.string s] w fun e w' => e = .returned (.tuple #[.int .i64 (-(Num.val 0 d.data.toList : Int)), .int .i64 0]) ∧ w = w' := by
 subst hg
 obtain ⟨ans, hans⟩ : ∃ ans, ans = Num.val 0 d.data.toList := ⟨_, rfl⟩
 rw [← hans]
 have HA := Lib.hid hans
 have HD := Lib.hid hd; clear hd
 clear hans
 go_enter Tryz.func87, Tryz.ntmps87
 go_wp2_with fail
 refine (CD.out _).mono ?_; rintro e w1 ⟨rfl, rfl⟩
 go_wp2_with fail
 go_loopw [5, 6] (fun n i wr => ∃ k a : Nat, k ≤ d.size ∧ i = .int .i64 k ∧ n = .int .i64 a ∧ Hid (a + 1 ≤ 10 ^ k) ∧ Hid (Num.val a (d.data.toList.drop k) = ans) ∧ wr = w) (fun _ i _ => d.size - (intOf i).toNat)
 case atStart => exact ⟨0, 0, Nat.zero_le _, rfl, rfl, Nat.le_refl 1, HA.out.symm, rfl⟩
 case round =>
  obtain ⟨k, a, hk, rfl, rfl, hp, hr, hw⟩ := hrel
  obtain rfl : w = wr := hw.symm
  by_cases hlt : k < d.size
  ·
   have hb := d[k].toNat_lt
   have hdk : Num.dig d[k] = true := by
    have h := HD.out
    have := List.all_eq_true.1 h d[k] (by
     have e : d[k] = d.data.toList[k]'(by rw [Num.rn_len]; exact hlt) := rfl
     rw [e]; exact List.getElem_mem _)
    exact this
   have h48 : 48 ≤ d[k].toNat ∧ d[k].toNat ≤ 57 := by unfold Num.dig at hdk; exact of_decide_eq_true hdk
   obtain ⟨l48, l57⟩ := h48
   have ha : a ≤ 9999 := by
    have h := hp.out
    have := Nat.pow_le_pow_right (n := 10) (by omega) (show k ≤ 4 by omega)
    omega
   have hp' := Lib.hid (show Num.stp a d[k] + 1 ≤ 10 ^ (k + 1) by rw [Num.stp_eq, Nat.pow_succ]; have := hp.out; omega)
   have hr' := Lib.hid (show Num.val (Num.stp a d[k]) (d.data.toList.drop (k + 1)) = ans by rw [← hr.out, Num.rn_drop d k hlt, Num.val_cons])
   have hs' := Lib.hid (show 10 * (a : Int) + ((d[k].toNat : Int) - 48) = (Num.stp a d[k] : Int) by rw [Num.stp_eq]; omega)
   clear hdk hp hr
   go_wp2_with fail
   go_roundw
   case rel => exact ⟨k + 1, Num.stp a d[k], by omega, by go_num, by first | (rw [← hs'.out]; done) | (rw [← hs'.out]; rfl) | (congr 1; rw [← hs'.out]), hp', hr', by first | rfl | trivial⟩
   case measure => simp [intOf]; omega
  ·
   have hyes := Lib.hid (show a = ans by rw [← hr.out, List.drop_of_length_le (by rw [Num.rn_len]; omega)]; rfl)
   have hbd : a ≤ 99999 := by
    have h := hp.out
    have := Nat.pow_le_pow_right (n := 10) (by omega) (show k ≤ 5 by omega)
    omega
   clear hp hr
   go_wp2_with fail
   go_ret2
   exact ⟨by rw [← hyes.out]; rfl, rfl⟩
set_option maxHeartbeats 2000000 in
set_option maxRecDepth 100000 in
theorem ry4_nvaly (s : ByteArray) (c : Int) (g : Bool) (w : World) (ls : 1 ≤ (s.size : Int)) (lm : s.size ≤ 1000) (IX : (∀ W, Sem.run Tryz.prog (Instr.index 9 (.string s) (.int .i64 0)) W = .ok (.int .u8 c) W)) (hc : (c == 45) = false) (CD : Hid (∀ W, Calls Tryz.prog 58 #[.string s] W fun e w' => e = .returned (.bool g) ∧ W = w'))  (h1 : ¬ 4 < (s.size : Int)) (h4 : ¬ (s.size : Int) < 4) (h5 : ¬ 5 < (s.size : Int)) (hg : g = true) (hs : (s.toList == [45, 48, 48, 48, 48]) = false) (hd : s.data.toList.all Num.dig = true) :
  Calls Tryz.prog 87 #[.string s] w fun e w' => e = .returned (.tuple #[.int .i64 (Num.val 0 s.data.toList : Int), .int .i64 0]) ∧ w = w' := by
 subst hg
 obtain ⟨ans, hans⟩ : ∃ ans, ans = Num.val 0 s.data.toList := ⟨_, rfl⟩
 rw [← hans]
 have HA := Lib.hid hans
 have HD := Lib.hid hd; clear hd
 clear hans
 go_enter Tryz.func87, Tryz.ntmps87
 go_wp2_with fail
 refine (CD.out _).mono ?_; rintro e w1 ⟨rfl, rfl⟩
 go_wp2_with fail
 go_loopw [5, 6] (fun n i wr => ∃ k a : Nat, k ≤ s.size ∧ i = .int .i64 k ∧ n = .int .i64 a ∧ Hid (a + 1 ≤ 10 ^ k) ∧ Hid (Num.val a (s.data.toList.drop k) = ans) ∧ wr = w) (fun _ i _ => s.size - (intOf i).toNat)
 case atStart => exact ⟨0, 0, Nat.zero_le _, rfl, rfl, Nat.le_refl 1, HA.out.symm, rfl⟩
 case round =>
  obtain ⟨k, a, hk, rfl, rfl, hp, hr, hw⟩ := hrel
  obtain rfl : w = wr := hw.symm
  by_cases hlt : k < s.size
  ·
   have hb := s[k].toNat_lt
   have hdk : Num.dig s[k] = true := by
    have h := HD.out
    have := List.all_eq_true.1 h s[k] (by
     have e : s[k] = s.data.toList[k]'(by rw [Num.rn_len]; exact hlt) := rfl
     rw [e]; exact List.getElem_mem _)
    exact this
   have h48 : 48 ≤ s[k].toNat ∧ s[k].toNat ≤ 57 := by unfold Num.dig at hdk; exact of_decide_eq_true hdk
   obtain ⟨l48, l57⟩ := h48
   have ha : a ≤ 9999 := by
    have h := hp.out
    have := Nat.pow_le_pow_right (n := 10) (by omega) (show k ≤ 4 by omega)
    omega
   have hp' := Lib.hid (show Num.stp a s[k] + 1 ≤ 10 ^ (k + 1) by rw [Num.stp_eq, Nat.pow_succ]; have := hp.out; omega)
   have hr' := Lib.hid (show Num.val (Num.stp a s[k]) (s.data.toList.drop (k + 1)) = ans by rw [← hr.out, Num.rn_drop s k hlt, Num.val_cons])
   have hs' := Lib.hid (show 10 * (a : Int) + ((s[k].toNat : Int) - 48) = (Num.stp a s[k] : Int) by rw [Num.stp_eq]; omega)
   clear hdk hp hr
   go_wp2_with fail
   go_roundw
   case rel => exact ⟨k + 1, Num.stp a s[k], by omega, by go_num, by first | (rw [← hs'.out]; done) | (rw [← hs'.out]; rfl) | (congr 1; rw [← hs'.out]), hp', hr', by first | rfl | trivial⟩
   case measure => simp [intOf]; omega
  ·
   have hyes := Lib.hid (show a = ans by rw [← hr.out, List.drop_of_length_le (by rw [Num.rn_len]; omega)]; rfl)
   have hbd : a ≤ 99999 := by
    have h := hp.out
    have := Nat.pow_le_pow_right (n := 10) (by omega) (show k ≤ 5 by omega)
    omega
   clear hp hr
   go_wp2_with fail
   go_ret2
   exact ⟨by rw [← hyes.out]; rfl, rfl⟩
set_option maxHeartbeats 2000000 in
set_option maxRecDepth 100000 in
theorem ry4_nvaln (s : ByteArray) (c : Int) (g : Bool) (w : World) (ls : 1 ≤ (s.size : Int)) (lm : s.size ≤ 1000) (IX : (∀ W, Sem.run Tryz.prog (Instr.index 9 (.string s) (.int .i64 0)) W = .ok (.int .u8 c) W)) (hc : (c == 45) = false) (CD : Hid (∀ W, Calls Tryz.prog 58 #[.string s] W fun e w' => e = .returned (.bool g) ∧ W = w'))  (h1 : 4 < (s.size : Int)) (hx : (c == 48) = false) (h4 : ¬ (s.size : Int) < 4) (h5 : ¬ 5 < (s.size : Int)) (hg : g = true) (hs : (s.toList == [45, 48, 48, 48, 48]) = false) (hd : s.data.toList.all Num.dig = true) :
  Calls Tryz.prog 87 #[.string s] w fun e w' => e = .returned (.tuple #[.int .i64 (Num.val 0 s.data.toList : Int), .int .i64 0]) ∧ w = w' := by
 subst hg
 obtain ⟨ans, hans⟩ : ∃ ans, ans = Num.val 0 s.data.toList := ⟨_, rfl⟩
 rw [← hans]
 have HA := Lib.hid hans
 have HD := Lib.hid hd; clear hd
 clear hans
 go_enter Tryz.func87, Tryz.ntmps87
 go_wp2_with fail
 refine (CD.out _).mono ?_; rintro e w1 ⟨rfl, rfl⟩
 go_wp2_with fail
 go_loopw [5, 6] (fun n i wr => ∃ k a : Nat, k ≤ s.size ∧ i = .int .i64 k ∧ n = .int .i64 a ∧ Hid (a + 1 ≤ 10 ^ k) ∧ Hid (Num.val a (s.data.toList.drop k) = ans) ∧ wr = w) (fun _ i _ => s.size - (intOf i).toNat)
 case atStart => exact ⟨0, 0, Nat.zero_le _, rfl, rfl, Nat.le_refl 1, HA.out.symm, rfl⟩
 case round =>
  obtain ⟨k, a, hk, rfl, rfl, hp, hr, hw⟩ := hrel
  obtain rfl : w = wr := hw.symm
  by_cases hlt : k < s.size
  ·
   have hb := s[k].toNat_lt
   have hdk : Num.dig s[k] = true := by
    have h := HD.out
    have := List.all_eq_true.1 h s[k] (by
     have e : s[k] = s.data.toList[k]'(by rw [Num.rn_len]; exact hlt) := rfl
     rw [e]; exact List.getElem_mem _)
    exact this
   have h48 : 48 ≤ s[k].toNat ∧ s[k].toNat ≤ 57 := by unfold Num.dig at hdk; exact of_decide_eq_true hdk
   obtain ⟨l48, l57⟩ := h48
   have ha : a ≤ 9999 := by
    have h := hp.out
    have := Nat.pow_le_pow_right (n := 10) (by omega) (show k ≤ 4 by omega)
    omega
   have hp' := Lib.hid (show Num.stp a s[k] + 1 ≤ 10 ^ (k + 1) by rw [Num.stp_eq, Nat.pow_succ]; have := hp.out; omega)
   have hr' := Lib.hid (show Num.val (Num.stp a s[k]) (s.data.toList.drop (k + 1)) = ans by rw [← hr.out, Num.rn_drop s k hlt, Num.val_cons])
   have hs' := Lib.hid (show 10 * (a : Int) + ((s[k].toNat : Int) - 48) = (Num.stp a s[k] : Int) by rw [Num.stp_eq]; omega)
   clear hdk hp hr
   go_wp2_with fail
   go_roundw
   case rel => exact ⟨k + 1, Num.stp a s[k], by omega, by go_num, by first | (rw [← hs'.out]; done) | (rw [← hs'.out]; rfl) | (congr 1; rw [← hs'.out]), hp', hr', by first | rfl | trivial⟩
   case measure => simp [intOf]; omega
  ·
   have hyes := Lib.hid (show a = ans by rw [← hr.out, List.drop_of_length_le (by rw [Num.rn_len]; omega)]; rfl)
   have hbd : a ≤ 99999 := by
    have h := hp.out
    have := Nat.pow_le_pow_right (n := 10) (by omega) (show k ≤ 5 by omega)
    omega
   clear hp hr
   go_wp2_with fail
   go_ret2
   exact ⟨by rw [← hyes.out]; rfl, rfl⟩
end Go.Proofs.YtbcbggdbojonmaaGreatDoor
