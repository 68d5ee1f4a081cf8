/- Joined: RnF, RnG, Qt, AnE, LnB, GvQ. -/
import Derived.Test.YtbcbggdbojonmaaGreatDoorBy17
import Derived.Test.YtbcbggdbojonmaaGreatDoorBy10
import Derived.Test.YtbcbggdbojonmaaGreatDoorBy01
import Derived.StillTail
import Derived.Lib.QuietBelow
import Derived.Test.YtbcbggdbojonmaaGreatDoorBy02
import Derived.Test.YtbcbggdbojonmaaGreatDoorBy04
set_option linter.unusedVariables false
set_option linter.unusedSimpArgs false
namespace Go.Proofs.YtbcbggdbojonmaaGreatDoor
open Go.RowKit
set_option maxHeartbeats 2000000 in
set_option maxRecDepth 100000 in
theorem rread_yvaly (s d : ByteArray) (c x : Int) (w : World) (ls : 1 ≤ (s.size : Int)) (lm : s.size ≤ 1000) (ld : (d.size : Int) + 1 = (s.size : Int)) (IX : (∀ W, Sem.run Tryz.prog (Instr.index 9 (.string s) (.int .i64 0)) W = .ok (.int .u8 c) W)) (hc : (c == 45) = true) (sl : (∀ W, Sem.run Tryz.prog (Instr.slice 9 (.string s) (some (.int .i64 1)) none none) W = .ok (.string d) W)) (CD : Hid (∀ W, Calls Tryz.prog 58 #[.string d] W fun e w' => e = .returned (.bool true) ∧ W = w')) (ID : (∀ W, Sem.run Tryz.prog (Instr.index 9 (.string d) (.int .i64 0)) W = .ok (.int .u8 x) W)) (h1 : ¬ 1 < (d.size : Int)) (h19 : ¬ 19 < (d.size : Int)) (hs : (s.toList == [45, 48]) = false) (hd : d.data.toList.all Num.dig = true) (m1 : 1 ≤ Num.val 0 d.data.toList) :
  Calls Tryz.prog 28 #[.string s] w fun e w' => e = .returned (.tuple #[.int .i64 (if 9223372036854775808 < Num.val 0 d.data.toList then ((0 : Int), (1 : Int)) else (-(Num.val 0 d.data.toList : Int), 0)).1, .int .i64 (if 9223372036854775808 < Num.val 0 d.data.toList then ((0 : Int), (1 : Int)) else (-(Num.val 0 d.data.toList : Int), 0)).2]) ∧ w = w' := by
 obtain ⟨R, hR⟩ : ∃ R : Int × Int, R = (if 9223372036854775808 < Num.val 0 d.data.toList then ((0 : Int), (1 : Int)) else (-(Num.val 0 d.data.toList : Int), 0)) := ⟨_, rfl⟩
 rw [← hR]
 obtain ⟨ans, hans⟩ : ∃ ans, ans = Num.val 0 d.data.toList := ⟨_, rfl⟩
 rw [← hans] at hR
 have HR := Lib.hid hR; clear hR
 have HA := Lib.hid hans
 have HD := Lib.hid hd; clear hd
 have M1 := Lib.hid (show 9223372036854775808 = 9223372036854775808 → 1 ≤ ans by intro hh; first | (exact absurd hh (by decide)) | (rw [hans]; exact m1))
 clear hans
 try clear m1
 go_enter Tryz.func28, Tryz.ntmps28
 go_wp2_with fail
 refine (CD.out _).mono ?_; rintro e w1 ⟨rfl, rfl⟩
 go_wp2_with fail
 go_loopw [5, 6] (fun n i wr => ∃ k a : Nat, k ≤ d.size ∧ i = .int .i64 k ∧ n = .int .u64 a ∧ Hid (a + 1 ≤ 10 ^ k) ∧ Hid (Num.val a (d.data.toList.drop k) = ans) ∧ wr = w) (fun _ i _ => d.size - (intOf i).toNat)
 case atStart => exact ⟨0, 0, Nat.zero_le _, rfl, rfl, Nat.le_refl 1, HA.out.symm, rfl⟩
 case round =>
  obtain ⟨k, a, hk, rfl, rfl, hp, hr, hw⟩ := hrel
  obtain rfl : w = wr := hw.symm
  by_cases hlt : k < d.size
  ·
   have hb := d[k].toNat_lt
   have hdk : Num.dig d[k] = true := by
    have h := HD.out
    have := List.all_eq_true.1 h d[k] (by
     have e : d[k] = d.data.toList[k]'(by rw [Num.rn_len]; exact hlt) := rfl
     rw [e]; exact List.getElem_mem _)
    exact this
   have h48 : 48 ≤ d[k].toNat ∧ d[k].toNat ≤ 57 := by unfold Num.dig at hdk; exact of_decide_eq_true hdk
   obtain ⟨l48, l57⟩ := h48
   have ha : a ≤ 999999999999999999 := by
    have h := hp.out
    have := Nat.pow_le_pow_right (n := 10) (by omega) (show k ≤ 18 by omega)
    omega
   have hp' := Lib.hid (show Num.stp a d[k] + 1 ≤ 10 ^ (k + 1) by rw [Num.stp_eq, Nat.pow_succ]; have := hp.out; omega)
   have hr' := Lib.hid (show Num.val (Num.stp a d[k]) (d.data.toList.drop (k + 1)) = ans by rw [← hr.out, Num.rn_drop d k hlt, Num.val_cons])
   have hs' := Lib.hid (show 10 * (a : Int) + ((d[k].toNat : Int) - 48) = (Num.stp a d[k] : Int) by rw [Num.stp_eq]; omega)
   clear hdk hp hr
   go_wp2_with fail
   go_roundw
   case rel => exact ⟨k + 1, Num.stp a d[k], by omega, by go_num, by first | (rw [← hs'.out]; done) | (rw [← hs'.out]; rfl) | (congr 1; rw [← hs'.out]), hp', hr', by first | rfl | trivial⟩
   case measure => simp [intOf]; omega
  ·
   have hyes := Lib.hid (show a = ans by rw [← hr.out, List.drop_of_length_le (by rw [Num.rn_len]; omega)]; rfl)
   have hbd : a ≤ 9999999999999999999 := by
    have h := hp.out
    have := Nat.pow_le_pow_right (n := 10) (by omega) (show k ≤ 19 by omega)
    omega
   have hm : 9223372036854775808 = 9223372036854775808 → 1 ≤ a := by intro hh; first | (exact absurd hh (by decide)) | (rw [hyes.out]; exact M1.out (by first | trivial | exact hh))
   clear hp hr M1
   by_cases hf : 9223372036854775808 < a
   ·
    have hv := Lib.hid (show 9223372036854775808 < ans by rw [← hyes.out]; exact hf)
    have hfi : (9223372036854775808 : Int) < (a : Int) := by omega
    clear hf hm
    go_wp2_with fail
    go_ret2
    exact ⟨by rw [HR.out, if_pos hv.out]; rfl, rfl⟩
   ·
    have hv := Lib.hid hf
    have hm1 : 9223372036854775808 = 9223372036854775808 → 1 ≤ (a : Int) := fun h => by have := hm h; omega
    clear hm
    simp at hm1
    have hfi : ¬ (9223372036854775808 : Int) < (a : Int) := by omega
    clear hf
    have hv2 := Lib.hid (show (-((a : Int) - 1) - 1) = -(a : Int) by omega)
    go_wp2_with fail
    go_ret2
    exact ⟨by rw [HR.out, if_neg (by rw [← hyes.out]; exact hv.out), ← hyes.out]; first | rfl | (rw [← hv2.out]; rfl), rfl⟩
set_option maxHeartbeats 2000000 in
set_option maxRecDepth 100000 in
theorem rread_yvaln (s d : ByteArray) (c x : Int) (w : World) (ls : 1 ≤ (s.size : Int)) (lm : s.size ≤ 1000) (ld : (d.size : Int) + 1 = (s.size : Int)) (IX : (∀ W, Sem.run Tryz.prog (Instr.index 9 (.string s) (.int .i64 0)) W = .ok (.int .u8 c) W)) (hc : (c == 45) = true) (sl : (∀ W, Sem.run Tryz.prog (Instr.slice 9 (.string s) (some (.int .i64 1)) none none) W = .ok (.string d) W)) (CD : Hid (∀ W, Calls Tryz.prog 58 #[.string d] W fun e w' => e = .returned (.bool true) ∧ W = w')) (ID : (∀ W, Sem.run Tryz.prog (Instr.index 9 (.string d) (.int .i64 0)) W = .ok (.int .u8 x) W)) (h1 : 1 < (d.size : Int)) (hx : (x == 48) = false) (h19 : ¬ 19 < (d.size : Int)) (hs : (s.toList == [45, 48]) = false) (hd : d.data.toList.all Num.dig = true) (m1 : 1 ≤ Num.val 0 d.data.toList) :
  Calls Tryz.prog 28 #[.string s] w fun e w' => e = .returned (.tuple #[.int .i64 (if 9223372036854775808 < Num.val 0 d.data.toList then ((0 : Int), (1 : Int)) else (-(Num.val 0 d.data.toList : Int), 0)).1, .int .i64 (if 9223372036854775808 < Num.val 0 d.data.toList then ((0 : Int), (1 : Int)) else (-(Num.val 0 d.data.toList : Int), 0)).2]) ∧ w = w' := by
 obtain ⟨R, hR⟩ : ∃ R : Int × Int, R = (if 9223372036854775808 < Num.val 0 d.data.toList then ((0 : Int), (1 : Int)) else (-(Num.val 0 d.data.toList : Int), 0)) := ⟨_, rfl⟩
 rw [← hR]
 obtain ⟨ans, hans⟩ : ∃ ans, ans = Num.val 0 d.data.toList := ⟨_, rfl⟩
 rw [← hans] at hR
 have HR := Lib.hid hR; clear hR
 have HA := Lib.hid hans
 have HD := Lib.hid hd; clear hd
 have M1 := Lib.hid (show 9223372036854775808 = 9223372036854775808 → 1 ≤ ans by intro hh; first | (exact absurd hh (by decide)) | (rw [hans]; exact m1))
 clear hans
 try clear m1
 go_enter Tryz.func28, Tryz.ntmps28
 go_wp2_with fail
 refine (CD.out _).mono ?_; rintro e w1 ⟨rfl, rfl⟩
 go_wp2_with fail
 go_loopw [5, 6] (fun n i wr => ∃ k a : Nat, k ≤ d.size ∧ i = .int .i64 k ∧ n = .int .u64 a ∧ Hid (a + 1 ≤ 10 ^ k) ∧ Hid (Num.val a (d.data.toList.drop k) = ans) ∧ wr = w) (fun _ i _ => d.size - (intOf i).toNat)
 case atStart => exact ⟨0, 0, Nat.zero_le _, rfl, rfl, Nat.le_refl 1, HA.out.symm, rfl⟩
 case round =>
  obtain ⟨k, a, hk, rfl, rfl, hp, hr, hw⟩ := hrel
  obtain rfl : w = wr := hw.symm
  by_cases hlt : k < d.size
  ·
   have hb := d[k].toNat_lt
   have hdk : Num.dig d[k] = true := by
    have h := HD.out
    have := List.all_eq_true.1 h d[k] (by
     have e : d[k] = d.data.toList[k]'(by rw [Num.rn_len]; exact hlt) := rfl
     rw [e]; exact List.getElem_mem _)
    exact this
   have h48 : 48 ≤ d[k].toNat ∧ d[k].toNat ≤ 57 := by unfold Num.dig at hdk; exact of_decide_eq_true hdk
   obtain ⟨l48, l57⟩ := h48
   have ha : a ≤ 999999999999999999 := by
    have h := hp.out
    have := Nat.pow_le_pow_right (n := 10) (by omega) (show k ≤ 18 by omega)
    omega
   have hp' := Lib.hid (show Num.stp a d[k] + 1 ≤ 10 ^ (k + 1) by rw [Num.stp_eq, Nat.pow_succ]; have := hp.out; omega)
   have hr' := Lib.hid (show Num.val (Num.stp a d[k]) (d.data.toList.drop (k + 1)) = ans by rw [← hr.out, Num.rn_drop d k hlt, Num.val_cons])
   have hs' := Lib.hid (show 10 * (a : Int) + ((d[k].toNat : Int) - 48) = (Num.stp a d[k] : Int) by rw [Num.stp_eq]; omega)
   clear hdk hp hr
   go_wp2_with fail
   go_roundw
   case rel => exact ⟨k + 1, Num.stp a d[k], by omega, by go_num, by first | (rw [← hs'.out]; done) | (rw [← hs'.out]; rfl) | (congr 1; rw [← hs'.out]), hp', hr', by first | rfl | trivial⟩
   case measure => simp [intOf]; omega
  ·
   have hyes := Lib.hid (show a = ans by rw [← hr.out, List.drop_of_length_le (by rw [Num.rn_len]; omega)]; rfl)
   have hbd : a ≤ 9999999999999999999 := by
    have h := hp.out
    have := Nat.pow_le_pow_right (n := 10) (by omega) (show k ≤ 19 by omega)
    omega
   have hm : 9223372036854775808 = 9223372036854775808 → 1 ≤ a := by intro hh; first | (exact absurd hh (by decide)) | (rw [hyes.out]; exact M1.out (by first | trivial | exact hh))
   clear hp hr M1
   by_cases hf : 9223372036854775808 < a
   ·
    have hv := Lib.hid (show 9223372036854775808 < ans by rw [← hyes.out]; exact hf)
    have hfi : (9223372036854775808 : Int) < (a : Int) := by omega
    clear hf hm
    go_wp2_with fail
    go_ret2
    exact ⟨by rw [HR.out, if_pos hv.out]; rfl, rfl⟩
   ·
    have hv := Lib.hid hf
    have hm1 : 9223372036854775808 = 9223372036854775808 → 1 ≤ (a : Int) := fun h => by have := hm h; omega
    clear hm
    simp at hm1
    have hfi : ¬ (9223372036854775808 : Int) < (a : Int) := by omega
    clear hf
    have hv2 := Lib.hid (show (-((a : Int) - 1) - 1) = -(a : Int) by omega)
    go_wp2_with fail
    go_ret2
    exact ⟨by rw [HR.out, if_neg (by rw [← hyes.out]; exact hv.out), ← hyes.out]; first | rfl | (rw [← hv2.out]; rfl), rfl⟩
set_option maxHeartbeats 2000000 in
set_option maxRecDepth 100000 in
theorem rread_nvaly (s : ByteArray) (c : Int) (w : World) (ls : 1 ≤ (s.size : Int)) (lm : s.size ≤ 1000) (IX : (∀ W, Sem.run Tryz.prog (Instr.index 9 (.string s) (.int .i64 0)) W = .ok (.int .u8 c) W)) (hc : (c == 45) = false) (CD : Hid (∀ W, Calls Tryz.prog 58 #[.string s] W fun e w' => e = .returned (.bool true) ∧ W = w'))  (h1 : ¬ 1 < (s.size : Int)) (h19 : ¬ 19 < (s.size : Int)) (hs : (s.toList == [45, 48]) = false) (hd : s.data.toList.all Num.dig = true)  :
  Calls Tryz.prog 28 #[.string s] w fun e w' => e = .returned (.tuple #[.int .i64 (if 9223372036854775807 < Num.val 0 s.data.toList then ((0 : Int), (1 : Int)) else ((Num.val 0 s.data.toList : Int), 0)).1, .int .i64 (if 9223372036854775807 < Num.val 0 s.data.toList then ((0 : Int), (1 : Int)) else ((Num.val 0 s.data.toList : Int), 0)).2]) ∧ w = w' := by
 obtain ⟨R, hR⟩ : ∃ R : Int × Int, R = (if 9223372036854775807 < Num.val 0 s.data.toList then ((0 : Int), (1 : Int)) else ((Num.val 0 s.data.toList : Int), 0)) := ⟨_, rfl⟩
 rw [← hR]
 obtain ⟨ans, hans⟩ : ∃ ans, ans = Num.val 0 s.data.toList := ⟨_, rfl⟩
 rw [← hans] at hR
 have HR := Lib.hid hR; clear hR
 have HA := Lib.hid hans
 have HD := Lib.hid hd; clear hd
 have M1 := Lib.hid (show 9223372036854775807 = 9223372036854775808 → 1 ≤ ans by intro hh; first | (exact absurd hh (by decide)) | (rw [hans]; exact m1))
 clear hans
 try clear m1
 go_enter Tryz.func28, Tryz.ntmps28
 go_wp2_with fail
 refine (CD.out _).mono ?_; rintro e w1 ⟨rfl, rfl⟩
 go_wp2_with fail
 go_loopw [5, 6] (fun n i wr => ∃ k a : Nat, k ≤ s.size ∧ i = .int .i64 k ∧ n = .int .u64 a ∧ Hid (a + 1 ≤ 10 ^ k) ∧ Hid (Num.val a (s.data.toList.drop k) = ans) ∧ wr = w) (fun _ i _ => s.size - (intOf i).toNat)
 case atStart => exact ⟨0, 0, Nat.zero_le _, rfl, rfl, Nat.le_refl 1, HA.out.symm, rfl⟩
 case round =>
  obtain ⟨k, a, hk, rfl, rfl, hp, hr, hw⟩ := hrel
  obtain rfl : w = wr := hw.symm
  by_cases hlt : k < s.size
  ·
   have hb := s[k].toNat_lt
   have hdk : Num.dig s[k] = true := by
    have h := HD.out
    have := List.all_eq_true.1 h s[k] (by
     have e : s[k] = s.data.toList[k]'(by rw [Num.rn_len]; exact hlt) := rfl
     rw [e]; exact List.getElem_mem _)
    exact this
   have h48 : 48 ≤ s[k].toNat ∧ s[k].toNat ≤ 57 := by unfold Num.dig at hdk; exact of_decide_eq_true hdk
   obtain ⟨l48, l57⟩ := h48
   have ha : a ≤ 999999999999999999 := by
    have h := hp.out
    have := Nat.pow_le_pow_right (n := 10) (by omega) (show k ≤ 18 by omega)
    omega
   have hp' := Lib.hid (show Num.stp a s[k] + 1 ≤ 10 ^ (k + 1) by rw [Num.stp_eq, Nat.pow_succ]; have := hp.out; omega)
   have hr' := Lib.hid (show Num.val (Num.stp a s[k]) (s.data.toList.drop (k + 1)) = ans by rw [← hr.out, Num.rn_drop s k hlt, Num.val_cons])
   have hs' := Lib.hid (show 10 * (a : Int) + ((s[k].toNat : Int) - 48) = (Num.stp a s[k] : Int) by rw [Num.stp_eq]; omega)
   clear hdk hp hr
   go_wp2_with fail
   go_roundw
   case rel => exact ⟨k + 1, Num.stp a s[k], by omega, by go_num, by first | (rw [← hs'.out]; done) | (rw [← hs'.out]; rfl) | (congr 1; rw [← hs'.out]), hp', hr', by first | rfl | trivial⟩
   case measure => simp [intOf]; omega
  ·
   have hyes := Lib.hid (show a = ans by rw [← hr.out, List.drop_of_length_le (by rw [Num.rn_len]; omega)]; rfl)
   have hbd : a ≤ 9999999999999999999 := by
    have h := hp.out
    have := Nat.pow_le_pow_right (n := 10) (by omega) (show k ≤ 19 by omega)
    omega
   have hm : 9223372036854775807 = 9223372036854775808 → 1 ≤ a := by intro hh; first | (exact absurd hh (by decide)) | (rw [hyes.out]; exact M1.out (by first | trivial | exact hh))
   clear hp hr M1
   by_cases hf : 9223372036854775807 < a
   ·
    have hv := Lib.hid (show 9223372036854775807 < ans by rw [← hyes.out]; exact hf)
    have hfi : (9223372036854775807 : Int) < (a : Int) := by omega
    clear hf hm
    go_wp2_with fail
    go_ret2
    exact ⟨by rw [HR.out, if_pos hv.out]; rfl, rfl⟩
   ·
    have hv := Lib.hid hf
    have hm1 : 9223372036854775807 = 9223372036854775808 → 1 ≤ (a : Int) := fun h => by have := hm h; omega
    clear hm
    simp at hm1
    have hfi : ¬ (9223372036854775807 : Int) < (a : Int) := by omega
    clear hf
    have hv2 := Lib.hid (show (a : Int) = (a : Int) from rfl)
    go_wp2_with fail
    go_ret2
    exact ⟨by rw [HR.out, if_neg (by rw [← hyes.out]; exact hv.out), ← hyes.out]; first | rfl | (rw [← hv2.out]; rfl), rfl⟩
set_option maxHeartbeats 2000000 in
set_option maxRecDepth 100000 in
theorem rread_nvaln (s : ByteArray) (c : Int) (w : World) (ls : 1 ≤ (s.size : Int)) (lm : s.size ≤ 1000) (IX : (∀ W, Sem.run Tryz.prog (Instr.index 9 (.string s) (.int .i64 0)) W = .ok (.int .u8 c) W)) (hc : (c == 45) = false) (CD : Hid (∀ W, Calls Tryz.prog 58 #[.string s] W fun e w' => e = .returned (.bool true) ∧ W = w'))  (h1 : 1 < (s.size : Int)) (hx : (c == 48) = false) (h19 : ¬ 19 < (s.size : Int)) (hs : (s.toList == [45, 48]) = false) (hd : s.data.toList.all Num.dig = true)  :
  Calls Tryz.prog 28 #[.string s] w fun e w' => e = .returned (.tuple #[.int .i64 (if 9223372036854775807 < Num.val 0 s.data.toList then ((0 : Int), (1 : Int)) else ((Num.val 0 s.data.toList : Int), 0)).1, .int .i64 (if 9223372036854775807 < Num.val 0 s.data.toList then ((0 : Int), (1 : Int)) else ((Num.val 0 s.data.toList : Int), 0)).2]) ∧ w = w' := by
 obtain ⟨R, hR⟩ : ∃ R : Int × Int, R = (if 9223372036854775807 < Num.val 0 s.data.toList then ((0 : Int), (1 : Int)) else ((Num.val 0 s.data.toList : Int), 0)) := ⟨_, rfl⟩
 rw [← hR]
 obtain ⟨ans, hans⟩ : ∃ ans, ans = Num.val 0 s.data.toList := ⟨_, rfl⟩
 rw [← hans] at hR
 have HR := Lib.hid hR; clear hR
 have HA := Lib.hid hans
 have HD := Lib.hid hd; clear hd
 have M1 := Lib.hid (show 9223372036854775807 = 9223372036854775808 → 1 ≤ ans by intro hh; first | (exact absurd hh (by decide)) | (rw [hans]; exact m1))
 clear hans
 try clear m1
 go_enter Tryz.func28, Tryz.ntmps28
 go_wp2_with fail
 refine (CD.out _).mono ?_; rintro e w1 ⟨rfl, rfl⟩
 go_wp2_with fail
 go_loopw [5, 6] (fun n i wr => ∃ k a : Nat, k ≤ s.size ∧ i = .int .i64 k ∧ n = .int .u64 a ∧ Hid (a + 1 ≤ 10 ^ k) ∧ Hid (Num.val a (s.data.toList.drop k) = ans) ∧ wr = w) (fun _ i _ => s.size - (intOf i).toNat)
 case atStart => exact ⟨0, 0, Nat.zero_le _, rfl, rfl, Nat.le_refl 1, HA.out.symm, rfl⟩
 case round =>
  obtain ⟨k, a, hk, rfl, rfl, hp, hr, hw⟩ := hrel
  obtain rfl : w = wr := hw.symm
  by_cases hlt : k < s.size
  ·
   have hb := s[k].toNat_lt
   have hdk : Num.dig s[k] = true := by
    have h := HD.out
    have := List.all_eq_true.1 h s[k] (by
     have e : s[k] = s.data.toList[k]'(by rw [Num.rn_len]; exact hlt) := rfl
     rw [e]; exact List.getElem_mem _)
    exact this
   have h48 : 48 ≤ s[k].toNat ∧ s[k].toNat ≤ 57 := by unfold Num.dig at hdk; exact of_decide_eq_true hdk
   obtain ⟨l48, l57⟩ := h48
   have ha : a ≤ 999999999999999999 := by
    have h := hp.out
    have := Nat.pow_le_pow_right (n := 10) (by omega) (show k ≤ 18 by omega)
    omega
   have hp' := Lib.hid (show Num.stp a s[k] + 1 ≤ 10 ^ (k + 1) by rw [Num.stp_eq, Nat.pow_succ]; have := hp.out; omega)
   have hr' := Lib.hid (show Num.val (Num.stp a s[k]) (s.data.toList.drop (k + 1)) = ans by rw [← hr.out, Num.rn_drop s k hlt, Num.val_cons])
   have hs' := Lib.hid (show 10 * (a : Int) + ((s[k].toNat : Int) - 48) = (Num.stp a s[k] : Int) by rw [Num.stp_eq]; omega)
   clear hdk hp hr
   go_wp2_with fail
   go_roundw
   case rel => exact ⟨k + 1, Num.stp a s[k], by omega, by go_num, by first | (rw [← hs'.out]; done) | (rw [← hs'.out]; rfl) | (congr 1; rw [← hs'.out]), hp', hr', by first | rfl | trivial⟩
   case measure => simp [intOf]; omega
  ·
   have hyes := Lib.hid (show a = ans by rw [← hr.out, List.drop_of_length_le (by rw [Num.rn_len]; omega)]; rfl)
   have hbd : a ≤ 9999999999999999999 := by
    have h := hp.out
    have := Nat.pow_le_pow_right (n := 10) (by omega) (show k ≤ 19 by omega)
    omega
   have hm : 9223372036854775807 = 9223372036854775808 → 1 ≤ a := by intro hh; first | (exact absurd hh (by decide)) | (rw [hyes.out]; exact M1.out (by first | trivial | exact hh))
   clear hp hr M1
   by_cases hf : 9223372036854775807 < a
   ·
    have hv := Lib.hid (show 9223372036854775807 < ans by rw [← hyes.out]; exact hf)
    have hfi : (9223372036854775807 : Int) < (a : Int) := by omega
    clear hf hm
    go_wp2_with fail
    go_ret2
    exact ⟨by rw [HR.out, if_pos hv.out]; rfl, rfl⟩
   ·
    have hv := Lib.hid hf
    have hm1 : 9223372036854775807 = 9223372036854775808 → 1 ≤ (a : Int) := fun h => by have := hm h; omega
    clear hm
    simp at hm1
    have hfi : ¬ (9223372036854775807 : Int) < (a : Int) := by omega
    clear hf
    have hv2 := Lib.hid (show (a : Int) = (a : Int) from rfl)
    go_wp2_with fail
    go_ret2
    exact ⟨by rw [HR.out, if_neg (by rw [← hyes.out]; exact hv.out), ← hyes.out]; first | rfl | (rw [← hv2.out]; rfl), rfl⟩
namespace Num
theorem mz_no {s : ByteArray} (h : s.data.toList ≠ [45, 48]) : (s.toList == [45, 48]) = false := by
 rw [ByteArray.toList_eq]
 simpa using h
theorem ext1 (s : ByteArray) (r : List UInt8) (h : s.data.toList = 45 :: r) : (s.extract 1 s.size).data.toList = r := by
 rw [ByteArray.data_extract, Array.toList_extract, h]
 have hl := rn_len s
 rw [h, List.length_cons] at hl
 show ((45 :: r).drop 1).take (s.size - 1) = r
 rw [List.drop_one, List.tail_cons, List.take_of_length_le (by omega)]
theorem numT_dgs {b : Bool} {d : List UInt8} : numT b d = (dgs d && !(decide (d.head? = some 48) && (b || decide (1 < d.length)))) := by
 cases d with
 | nil => rfl
 | cons c r =>
  unfold numT dgs
  cases hr : r with
  | nil => cases hb : b <;> cases hc : decide (c = 48) <;> simp_all
  | cons x y => cases hb : b <;> cases hc : decide (c = 48) <;> simp_all
end Num
theorem rread_any (s : ByteArray) (w : World) (hs : s.size ≤ 1000) :
  Calls Tryz.prog 28 #[.string s] w fun e w' => e = .returned (.tuple #[.int .i64 (Num.rd s.data.toList).1, .int .i64 (Num.rd s.data.toList).2]) ∧ w = w' := by
 rw [Num.rd_eq]
 have hl := Num.rn_len s
 have hml : s.size ≤ maxLen := by unfold maxLen; omega
 cases hsl : s.data.toList with
 | nil =>
  have e : s = ⟨#[]⟩ := by apply ByteArray.ext; apply Array.toList_inj.1; rw [hsl]
  rw [e]
  exact rread_nil w
 | cons c r =>
  have hpos : 0 < s.size := by rw [← hl, hsl]; simp
  have hc0 : s[0] = c := by
   have e : s[0] = s.data.toList[0]'(by rw [Num.rn_len]; exact hpos) := rfl
   rw [e]; simp [hsl]
  have IX : ∀ W, Sem.run Tryz.prog (Instr.index 9 (.string s) (.int .i64 0)) W = .ok (.int .u8 (c.toNat : Int)) W := fun W => by rw [← hc0]; exact rn_ix s 0 hpos W
  by_cases h45 : c = 45
  ·
   subst h45
   rw [Num.hp_cons, Num.tp_minus, show (45 == (45 : UInt8)) = true from rfl]
   have hd := Num.ext1 s r hsl
   have sl : ∀ W, Sem.run Tryz.prog (Instr.slice 9 (.string s) (some (.int .i64 1)) none none) W = .ok (.string (s.extract 1 s.size)) W := fun W => rn_cut s 1 hpos W
   obtain ⟨d, hdd⟩ : ∃ d, s.extract 1 s.size = d := ⟨_, rfl⟩
   rw [hdd] at hd sl
   have hdl := Num.rn_len d
   have ld : (d.size : Int) + 1 = (s.size : Int) := by
    have : s.data.toList.length = r.length + 1 := by rw [hsl]; rfl
    rw [hd] at hdl; omega
   have CD : Hid (∀ W, Calls Tryz.prog 58 #[.string d] W fun e w' => e = .returned (.bool (Num.dgs r)) ∧ W = w') := fun W => by rw [← hd]; exact rdigs_any d W (by unfold maxLen; omega)
   unfold Num.rdD
   rw [Num.numT_dgs]
   cases hg : Num.dgs r
   ·
    exact rread_yno s d _ 0 false w (by omega) hs ld IX (by decide) sl (by rw [← hg]; exact CD) rfl
   ·
    rw [hg] at CD
    have hne : r ≠ [] := by intro e; rw [e] at hg; exact absurd hg (by decide)
    have hall : r.all Num.dig = true := by unfold Num.dgs at hg; rw [Bool.and_eq_true] at hg; exact hg.1
    cases r with
    | nil => exact absurd rfl hne
    | cons x y =>
     have hdp : 0 < d.size := by rw [← hdl, hd]; simp
     have hx0 : d[0] = x := by
      have e : d[0] = d.data.toList[0]'(by rw [Num.rn_len]; exact hdp) := rfl
      rw [e]; simp [hd]
     have ID : ∀ W, Sem.run Tryz.prog (Instr.index 9 (.string d) (.int .i64 0)) W = .ok (.int .u8 (x.toNat : Int)) W := fun W => by rw [← hx0]; exact rn_ix d 0 hdp W
     by_cases h48 : x = 48
     ·
      subst h48
      have e : (true && !(decide ((48 :: y).head? = some 48) && (true || decide (1 < (48 :: y).length)))) = false := by simp
      rw [e]
      by_cases hy : y = []
      ·
       have es : s = ⟨#[45, 48]⟩ := by apply ByteArray.ext; apply Array.toList_inj.1; rw [hsl, hy]
       rw [es]
       exact rread_mz w
      ·
       have : 1 < d.size := by
        rw [← hdl, hd]
        cases y with
        | nil => exact absurd rfl hy
        | cons _ _ => simp
       exact rread_yzero s d _ _ true w (by omega) hs ld IX (by decide) sl CD ID rfl (by omega) (by decide)
     ·
      have e : (true && !(decide ((x :: y).head? = some 48) && (true || decide (1 < (x :: y).length)))) = true := by simp [h48]
      rw [e]
      have hx : (((x.toNat : Nat) : Int) == 48) = false := by
       rw [beq_eq_false_iff_ne]
       intro h; exact h48 (UInt8.toNat_inj.1 (by rw [show (48 : UInt8).toNat = 48 from rfl]; omega))
      have hmz : (s.toList == [45, 48]) = false := Num.mz_no (by rw [hsl]; intro h; injection h with _ h; injection h with h _; exact h48 h)
      have hlen : (x :: y).length = d.size := by rw [← hd]; exact hdl
      rw [hlen]
      by_cases hf : 19 < d.size
      ·
       rw [if_pos hf]
       exact rread_yfar s d _ _ true w (by omega) hs ld IX (by decide) sl CD ID rfl (by omega) hx hmz
      ·
       rw [if_neg hf]
       have hp := Num.val_pos (d := x :: y) (by simp) hall (by intro c' r' h; injection h with h _; rw [← h]; exact h48)
       rw [← hd] at hp hall ⊢
       by_cases h1 : 1 < (d.size : Int)
       ·
        exact rread_yvaln s d _ _ w (by omega) hs ld IX (by decide) sl CD ID h1 hx (by omega) hmz hall hp
       ·
        exact rread_yvaly s d _ _ w (by omega) hs ld IX (by decide) sl CD ID h1 (by omega) hmz hall hp
  ·
   rw [Num.hp_cons, Num.tp_other c r h45, show (c == 45) = false by simpa using h45]
   have hc45 : (((c.toNat : Nat) : Int) == 45) = false := by
    rw [beq_eq_false_iff_ne]
    intro h; exact h45 (UInt8.toNat_inj.1 (by rw [show (45 : UInt8).toNat = 45 from rfl]; omega))
   have CD : Hid (∀ W, Calls Tryz.prog 58 #[.string s] W fun e w' => e = .returned (.bool (Num.dgs (c :: r))) ∧ W = w') := fun W => by rw [← hsl]; exact rdigs_any s W hml
   unfold Num.rdD
   rw [Num.numT_dgs]
   cases hg : Num.dgs (c :: r)
   ·
    exact rread_nno s _ false w (by omega) hs IX hc45 (by rw [← hg]; exact CD) rfl
   ·
    rw [hg] at CD
    have hall : (c :: r).all Num.dig = true := by unfold Num.dgs at hg; rw [Bool.and_eq_true] at hg; exact hg.1
    have hlen : (c :: r).length = s.size := by rw [← hsl]; exact hl
    have hmz : (s.toList == [45, 48]) = false := Num.mz_no (by rw [hsl]; intro h; injection h with h _; exact h45 h)
    rw [hlen]
    by_cases hz : c = 48 ∧ 1 < s.size
    ·
     obtain ⟨rfl, h1⟩ := hz
     have e : (true && !(decide ((48 :: r).head? = some 48) && (false || decide (1 < s.size)))) = false := by simp [h1]
     rw [e]
     exact rread_nzero s _ true w (by omega) hs IX hc45 CD rfl (by omega) (by decide)
    ·
     have e : (true && !(decide ((c :: r).head? = some 48) && (false || decide (1 < s.size)))) = true := by
      by_cases hc : c = 48
      ·
       have : ¬ 1 < s.size := fun h => hz ⟨hc, h⟩
       simp [this]
      ·
       simp [hc]
     rw [e]
     have hx : 1 < s.size → (((c.toNat : Nat) : Int) == 48) = false := fun h1 => by
      rw [beq_eq_false_iff_ne]
      intro h; exact hz ⟨UInt8.toNat_inj.1 (by rw [show (48 : UInt8).toNat = 48 from rfl]; omega), h1⟩
     by_cases hf : 19 < s.size
     ·
      rw [if_pos hf]
      exact rread_nfar s _ true w (by omega) hs IX hc45 CD rfl (by omega) (hx (by omega)) hmz
     ·
      rw [if_neg hf]
      rw [← hsl] at hall ⊢
      by_cases h1 : 1 < (s.size : Int)
      ·
       exact rread_nvaln s _ w (by omega) hs IX hc45 CD h1 (hx (by omega)) (by omega) hmz hall
      ·
       exact rread_nvaly s _ w (by omega) hs IX hc45 CD h1 (by omega) hmz hall
end Go.Proofs.YtbcbggdbojonmaaGreatDoor
set_option linter.unusedVariables false
set_option linter.unusedSimpArgs false
namespace Go.Proofs.YtbcbggdbojonmaaGreatDoor
open Go Go.RowKit Go.Sort
section
variable {P : Program} {ops : Array Oper} {md : Region.Mode} {C : World → Prop}
/-! A region that draws, one of whose calls panics: all that does not wait for it reads and calls. -/
def PanAt (P : Program) (C : World → Prop) (ch : List PanicEntry) (w : World) : Result Next → Prop
 | .ok (.enter f args) w' => w' = w ∧ Calls P f args w (fun e w'' => e = .panicked ch ∧ C w'')
 | _ => False
def PanicsIn (P : Program) (ops : Array Oper) (C : World → Prop) (ch : List PanicEntry) (o : Oper) (a : Act) : Prop :=
 Region.wanted o (yielded ops a.tmps) = true ∧ ∀ w, C w → PanAt P C ch w ((execOp a.eval o).run P w)
theorem PanicsIn.wp {o : Oper} {ch : List PanicEntry} {a : Act} {K : Act → World → Prop} {Q : Exit → Act → World → Prop} {w : World} (hC : C w) (hQ : ∀ w, C w → Q (.panic ch) a w) (h : PanicsIn P ops C ch o a) : o.wp P a w K Q := by
 have h3 := h.2 w hC
 unfold Oper.wp
 generalize (execOp a.eval o).run P w = r at *
 cases r with
 | ok n w' =>
  cases n <;> simp only [PanAt] at h3
  case enter f args =>
   obtain ⟨e1, hc⟩ := h3
   rw [e1]
   exact hc.mono fun e w'' ⟨he, hw''⟩ => by subst he; exact hQ _ hw''
 | halt x w' => simp only [PanAt] at h3
end
end Go.Proofs.YtbcbggdbojonmaaGreatDoor
set_option linter.unusedVariables false
set_option linter.unusedSimpArgs false
namespace Go.Proofs.YtbcbggdbojonmaaGreatDoor
open Go.RowKit Go.Sort
theorem mustl_yes (v : Value) (w : World) : Calls Tryz.prog 19 #[v, .int .i64 0] w fun e w' => e = .returned v ∧ w = w' := by
 go_enter Tryz.func19, Tryz.ntmps19
 go_wp2_with fail
 refine (for_yes _).mono ?_; rintro e w1 ⟨rfl, rfl⟩
 go_wp2_with fail
 go_ret
 exact ⟨rfl, rfl⟩
theorem mustl_no (v : Value) (why : Int) (w : World) (h : why ≠ 0) : Calls Tryz.prog 19 #[v, .int .i64 why] w fun e w' => e = .panicked (gvP why) ∧ w = w' := by
 go_enter Tryz.func19, Tryz.ntmps19
 go_wp2_with fail
 refine (for_no why _ h).mono ?_; rintro e w1 ⟨rfl, rfl⟩
 refine (show bodyPost _ _ _ (Exit.panic (gvP why)) _ _ from ?_)
 simp [bodyPost]
theorem An.sm_mem : ∀ (l : List (List UInt8)) (x : List UInt8), x ∈ l → x.length ≤ Fd.sm l := by
 intro l
 induction l with
 | nil => intro x h; cases h
 | cons y l ih =>
  intro x h
  rw [Fd.sm_cons]
  rcases List.mem_cons.1 h with rfl | h
  ·
   omega
  ·
   have := ih x h; omega
theorem An.field_len (s : ByteArray) (l : List ByteArray) (h : l.map (·.data.toList) = (Fd.of s.data.toList).1) : ∀ x ∈ l, x.size ≤ s.size := by
 intro x hx
 have h1 := (Fd.of_len s.data.toList).1
 rw [← h] at h1
 have h2 := An.sm_mem _ _ (List.mem_map_of_mem hx (f := fun x : ByteArray => x.data.toList))
 have e1 : x.data.toList.length = x.size := Array.length_toList
 have e2 : s.data.toList.length = s.size := Array.length_toList
 try dsimp only at h2
 omega
end Go.Proofs.YtbcbggdbojonmaaGreatDoor
set_option linter.unusedVariables false
set_option linter.unusedSimpArgs false
namespace Go.Proofs.YtbcbggdbojonmaaGreatDoor
open Go.RowKit
set_option maxHeartbeats 2000000 in
theorem lcheck_any (s : ByteArray) (w : World) (hs : s.size ≤ maxLen) :
  Calls Tryz.prog 17 #[.string s] w fun e w' => e = .returned (.int .i64 (Ln.chk s.data.toList)) ∧ Below w.heap.size w w' := by
 unfold maxLen at hs
 unfold Ln.chk
 rw [ab_len]
 by_cases h : 511 < s.size
 ·
  rw [if_pos h]
  have h1 : 511 < (s.size : Int) := by omega
  clear h
  go_enter Tryz.func17, Tryz.ntmps17
  go_wp2_with fail
  go_ret
  exact ⟨rfl, Below.refl _ _⟩
 ·
  rw [if_neg h]
  have h1 : ¬ 511 < (s.size : Int) := by omega
  have C := Lib.hid (fun W => containsWrong s W)
  generalize s.data.toList.all Ln.okB = b at C ⊢
  clear h
  cases b
  ·
   go_enter Tryz.func17, Tryz.ntmps17
   go_wp2_with fail
   refine (C.out _).mono ?_; rintro e w1 ⟨rfl, b1⟩
   go_wp2_with fail
   go_ret
   exact ⟨rfl, b1⟩
  ·
   go_enter Tryz.func17, Tryz.ntmps17
   go_wp2_with fail
   refine (C.out _).mono ?_; rintro e w1 ⟨rfl, b1⟩
   go_wp2_with fail
   go_ret
   exact ⟨rfl, b1⟩
set_option maxHeartbeats 4000000 in
set_option maxRecDepth 100000 in
theorem rlcheck_any (s : ByteArray) (w : World) (hs : s.size ≤ maxLen) :
  Calls Tryz.prog 21 #[.string s] w fun e w' => e = .returned (.int .i64 (Ln.chk s.data.toList)) ∧ Below w.heap.size w w' := by
 unfold maxLen at hs
 unfold Ln.chk
 rw [ab_len]
 by_cases h : 511 < s.size
 ·
  rw [if_pos h]
  have h1 : 511 < (s.size : Int) := by omega
  clear h
  go_enter Tryz.func21, Tryz.ntmps21
  go_wp2_with fail
  go_ret
  exact ⟨rfl, Below.refl _ _⟩
 ·
  rw [if_neg h]
  have h1 : ¬ 511 < (s.size : Int) := by omega
  clear h
  obtain ⟨b, hb⟩ : ∃ b, b = s.data.toList.all Ln.okB := ⟨_, rfl⟩
  rw [← hb]
  have HB := Lib.hid hb; clear hb
  obtain ⟨ans, hans⟩ : ∃ a : Int, a = (if b = true then 0 else 7) := ⟨_, rfl⟩
  rw [← hans]
  have HA := Lib.hid hans; clear hans
  go_enter Tryz.func21, Tryz.ntmps21
  go_wp2_with fail
  go_loopw [3] (fun i wr => ∃ k : Nat, k ≤ s.size ∧ i = .int .i64 k ∧ Hid ((s.data.toList.drop k).all Ln.okB = b) ∧ Hid (Below w.heap.size w wr)) (fun i _ => s.size - (intOf i).toNat)
  case atStart => exact ⟨0, Nat.zero_le _, rfl, HB.out.symm, Below.refl _ _⟩
  case round =>
   obtain ⟨k, hk, rfl, hr, hbw⟩ := hrel
   by_cases hlt : k < s.size
   ·
    have IX := fun W => rn_ix s k hlt W
    have hn : (Ln.okB s[k] && (s.data.toList.drop (k + 1)).all Ln.okB) = b := by rw [← hr.out, ab_drop s k hlt]; rfl
    have hc := s[k].toNat_lt
    unfold Ln.okB at hn
    obtain ⟨c, hce⟩ : ∃ c : Nat, c = s[k].toNat := ⟨_, rfl⟩
    rw [← hce] at IX hn hc
    clear hce
    by_cases c9 : c = 9
    ·
     have HY := Lib.hid (show (s.data.toList.drop (k + 1)).all Ln.okB = b by rw [← hn, decide_eq_true c9]; rfl)
     subst c9
     have IX : ∀ W, Sem.run Tryz.prog (Instr.index 9 (.string s) (.int .i64 (k : Int))) W = .ok (.int .u8 9) W := IX
     clear hn
     go_wp2_with fail
     go_roundw
     case rel => exact ⟨k + 1, by omega, by go_num, HY, hbw⟩
     case measure => simp [intOf]; omega
    ·
     have g9 : ((c : Int) == 9) = false := by rw [beq_eq_false_iff_ne]; omega
     have n9 : ((c : Int) != 9) = true := by unfold bne; rw [g9]; rfl
     by_cases c32 : c < 32
     ·
      have e := Lib.hid (show b = false by rw [← hn, decide_eq_false c9, decide_eq_false (by omega)]; rfl)
      have g : decide ((c : Int) < 32) = true := decide_eq_true (by omega)
      have g' : (c : Int) < 32 := by omega
      clear hn c9
      go_wp2_with fail
      go_ret
      refine ⟨by rw [HA.out, e.out]; rfl, ?_⟩
      exact hbw.out
     ·
      have g : decide ((c : Int) < 32) = false := decide_eq_false (by omega)
      by_cases c126 : 126 < c
      ·
       have e := Lib.hid (show b = false by rw [← hn, decide_eq_false c9, decide_eq_false (show ¬ c ≤ 126 by omega)]; simp)
       have g2 : 126 < (c : Int) := by omega
       clear hn c9
       go_wp2_with fail
       go_ret
       refine ⟨by rw [HA.out, e.out]; rfl, ?_⟩
       exact hbw.out
      ·
       have HY := Lib.hid (show (s.data.toList.drop (k + 1)).all Ln.okB = b by rw [← hn, decide_eq_false c9, decide_eq_true (show 32 ≤ c by omega), decide_eq_true (show c ≤ 126 by omega)]; rfl)
       have g2 : decide (126 < (c : Int)) = false := decide_eq_false (by omega)
       clear hn c9
       go_wp2_with fail
       go_roundw
       case rel => exact ⟨k + 1, by omega, by go_num, HY, hbw⟩
       case measure => simp [intOf]; omega
   ·
    have hyes := Lib.hid (show b = true by rw [← hr.out, List.drop_of_length_le (by rw [ab_len]; omega)]; rfl)
    go_wp2_with fail
    go_ret
    exact ⟨by rw [HA.out, hyes.out]; rfl, hbw.out⟩
theorem gv_assert (line why : Int) (W : World) : Sem.run Tryz.prog (Instr.typeAssert (Value.iface 110 (Value.agg #[Value.int IntKind.i64 line, Value.int IntKind.i64 why])) 20 110 true) W = .ok (.tuple #[.agg #[.int .i64 line, .int .i64 why], .bool true]) W := by
 kernel_rfl
end Go.Proofs.YtbcbggdbojonmaaGreatDoor
