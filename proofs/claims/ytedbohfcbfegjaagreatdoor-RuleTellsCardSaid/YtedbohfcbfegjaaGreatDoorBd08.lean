/- Joined: RnF, ShelfP, NumAr. -/
import Derived.Test.YtedbohfcbfegjaaGreatDoorBd07
import Derived.Shelf.Strconv.ParseIntPublic10
import Derived.Shelf.Strconv.ErrVarParseInt
import Derived.Test.YtedbohfcbfegjaaGreatDoorBd04
/- The contract of the reference's Read: digits that are read. -/
set_option linter.unusedVariables false
set_option linter.unusedSimpArgs false
namespace Go.Proofs.YtedbohfcbfegjaaGreatDoor
open Go.RowKit

set_option maxHeartbeats 2000000 in
set_option maxRecDepth 100000 in
theorem rread_yvaly (s d : ByteArray) (c x : Int) (w : World) (ls : 1 ≤ (s.size : Int)) (lm : s.size ≤ 1000) (ld : (d.size : Int) + 1 = (s.size : Int)) (IX : (∀ W, Sem.run Tryz.prog (Instr.index 9 (.string s) (.int .i64 0)) W = .ok (.int .u8 c) W)) (hc : (c == 45) = true) (sl : (∀ W, Sem.run Tryz.prog (Instr.slice 9 (.string s) (some (.int .i64 1)) none none) W = .ok (.string d) W)) (CD : Hid (∀ W, Calls Tryz.prog 162 #[.string d] W fun e w' => e = .returned (.bool true) ∧ W = w')) (ID : (∀ W, Sem.run Tryz.prog (Instr.index 9 (.string d) (.int .i64 0)) W = .ok (.int .u8 x) W)) (h1 : ¬ 1 < (d.size : Int)) (h19 : ¬ 19 < (d.size : Int)) (hs : (s.toList == [45, 48]) = false) (hd : d.data.toList.all Num.dig = true) (m1 : 1 ≤ Num.val 0 d.data.toList) :
    Calls Tryz.prog 119 #[.string s] w fun e w' => e = .returned (.tuple #[.int .i64 (if 9223372036854775808 < Num.val 0 d.data.toList then ((0 : Int), (1 : Int)) else (-(Num.val 0 d.data.toList : Int), 0)).1, .int .i64 (if 9223372036854775808 < Num.val 0 d.data.toList then ((0 : Int), (1 : Int)) else (-(Num.val 0 d.data.toList : Int), 0)).2]) ∧ w = w' := by
  obtain ⟨R, hR⟩ : ∃ R : Int × Int, R = (if 9223372036854775808 < Num.val 0 d.data.toList then ((0 : Int), (1 : Int)) else (-(Num.val 0 d.data.toList : Int), 0)) := ⟨_, rfl⟩
  rw [← hR]
  obtain ⟨ans, hans⟩ : ∃ ans, ans = Num.val 0 d.data.toList := ⟨_, rfl⟩
  rw [← hans] at hR
  have HR := Lib.hid hR; clear hR
  have HA := Lib.hid hans
  have HD := Lib.hid hd; clear hd
  have M1 := Lib.hid (show 9223372036854775808 = 9223372036854775808 → 1 ≤ ans by intro hh; first | (exact absurd hh (by decide)) | (rw [hans]; exact m1))
  clear hans
  try clear m1
  go_enter Tryz.func119, Tryz.ntmps119
  go_wp2_with fail
  refine (CD.out _).mono ?_; rintro e w1 ⟨rfl, rfl⟩
  go_wp2_with fail
  go_loopw [5, 6] (fun n i wr => ∃ k a : Nat, k ≤ d.size ∧ i = .int .i64 k ∧ n = .int .u64 a ∧ Hid (a + 1 ≤ 10 ^ k) ∧ Hid (Num.val a (d.data.toList.drop k) = ans) ∧ wr = w) (fun _ i _ => d.size - (intOf i).toNat)
  case atStart => exact ⟨0, 0, Nat.zero_le _, rfl, rfl, Nat.le_refl 1, HA.out.symm, rfl⟩
  case round =>
    obtain ⟨k, a, hk, rfl, rfl, hp, hr, hw⟩ := hrel
    obtain rfl : w = wr := hw.symm
    by_cases hlt : k < d.size
    · have hb := d[k].toNat_lt
      have hdk : Num.dig d[k] = true := by
        have h := HD.out
        have := List.all_eq_true.1 h d[k] (by
          have e : d[k] = d.data.toList[k]'(by rw [Num.rn_len]; exact hlt) := rfl
          rw [e]; exact List.getElem_mem _)
        exact this
      have h48 : 48 ≤ d[k].toNat ∧ d[k].toNat ≤ 57 := by unfold Num.dig at hdk; exact of_decide_eq_true hdk
      obtain ⟨l48, l57⟩ := h48
      have ha : a ≤ 999999999999999999 := by
        have h := hp.out
        have := Nat.pow_le_pow_right (n := 10) (by omega) (show k ≤ 18 by omega)
        omega
      have hp' := Lib.hid (show Num.stp a d[k] + 1 ≤ 10 ^ (k + 1) by rw [Num.stp_eq, Nat.pow_succ]; have := hp.out; omega)
      have hr' := Lib.hid (show Num.val (Num.stp a d[k]) (d.data.toList.drop (k + 1)) = ans by rw [← hr.out, Num.rn_drop d k hlt, Num.val_cons])
      have hs' := Lib.hid (show 10 * (a : Int) + ((d[k].toNat : Int) - 48) = (Num.stp a d[k] : Int) by rw [Num.stp_eq]; omega)
      clear hdk hp hr
      go_wp2_with fail
      go_roundw
      case rel => exact ⟨k + 1, Num.stp a d[k], by omega, by go_num, by first | (rw [← hs'.out]; done) | (rw [← hs'.out]; rfl) | (congr 1; rw [← hs'.out]), hp', hr', by first | rfl | trivial⟩
      case measure => simp [intOf]; omega
    · have hyes := Lib.hid (show a = ans by rw [← hr.out, List.drop_of_length_le (by rw [Num.rn_len]; omega)]; rfl)
      have hbd : a ≤ 9999999999999999999 := by
        have h := hp.out
        have := Nat.pow_le_pow_right (n := 10) (by omega) (show k ≤ 19 by omega)
        omega
      have hm : 9223372036854775808 = 9223372036854775808 → 1 ≤ a := by intro hh; first | (exact absurd hh (by decide)) | (rw [hyes.out]; exact M1.out (by first | trivial | exact hh))
      clear hp hr M1
      by_cases hf : 9223372036854775808 < a
      · have hv := Lib.hid (show 9223372036854775808 < ans by rw [← hyes.out]; exact hf)
        have hfi : (9223372036854775808 : Int) < (a : Int) := by omega
        clear hf hm
        go_wp2_with fail
        go_ret2
        exact ⟨by rw [HR.out, if_pos hv.out]; rfl, rfl⟩
      · have hv := Lib.hid hf
        have hm1 : 9223372036854775808 = 9223372036854775808 → 1 ≤ (a : Int) := fun h => by have := hm h; omega
        clear hm
        simp at hm1
        have hfi : ¬ (9223372036854775808 : Int) < (a : Int) := by omega
        clear hf
        have hv2 := Lib.hid (show (-((a : Int) - 1) - 1) = -(a : Int) by omega)
        go_wp2_with fail
        go_ret2
        exact ⟨by rw [HR.out, if_neg (by rw [← hyes.out]; exact hv.out), ← hyes.out]; first | rfl | (rw [← hv2.out]; rfl), rfl⟩
set_option maxHeartbeats 2000000 in
set_option maxRecDepth 100000 in
theorem rread_yvaln (s d : ByteArray) (c x : Int) (w : World) (ls : 1 ≤ (s.size : Int)) (lm : s.size ≤ 1000) (ld : (d.size : Int) + 1 = (s.size : Int)) (IX : (∀ W, Sem.run Tryz.prog (Instr.index 9 (.string s) (.int .i64 0)) W = .ok (.int .u8 c) W)) (hc : (c == 45) = true) (sl : (∀ W, Sem.run Tryz.prog (Instr.slice 9 (.string s) (some (.int .i64 1)) none none) W = .ok (.string d) W)) (CD : Hid (∀ W, Calls Tryz.prog 162 #[.string d] W fun e w' => e = .returned (.bool true) ∧ W = w')) (ID : (∀ W, Sem.run Tryz.prog (Instr.index 9 (.string d) (.int .i64 0)) W = .ok (.int .u8 x) W)) (h1 : 1 < (d.size : Int)) (hx : (x == 48) = false) (h19 : ¬ 19 < (d.size : Int)) (hs : (s.toList == [45, 48]) = false) (hd : d.data.toList.all Num.dig = true) (m1 : 1 ≤ Num.val 0 d.data.toList) :
    Calls Tryz.prog 119 #[.string s] w fun e w' => e = .returned (.tuple #[.int .i64 (if 9223372036854775808 < Num.val 0 d.data.toList then ((0 : Int), (1 : Int)) else (-(Num.val 0 d.data.toList : Int), 0)).1, .int .i64 (if 9223372036854775808 < Num.val 0 d.data.toList then ((0 : Int), (1 : Int)) else (-(Num.val 0 d.data.toList : Int), 0)).2]) ∧ w = w' := by
  obtain ⟨R, hR⟩ : ∃ R : Int × Int, R = (if 9223372036854775808 < Num.val 0 d.data.toList then ((0 : Int), (1 : Int)) else (-(Num.val 0 d.data.toList : Int), 0)) := ⟨_, rfl⟩
  rw [← hR]
  obtain ⟨ans, hans⟩ : ∃ ans, ans = Num.val 0 d.data.toList := ⟨_, rfl⟩
  rw [← hans] at hR
  have HR := Lib.hid hR; clear hR
  have HA := Lib.hid hans
  have HD := Lib.hid hd; clear hd
  have M1 := Lib.hid (show 9223372036854775808 = 9223372036854775808 → 1 ≤ ans by intro hh; first | (exact absurd hh (by decide)) | (rw [hans]; exact m1))
  clear hans
  try clear m1
  go_enter Tryz.func119, Tryz.ntmps119
  go_wp2_with fail
  refine (CD.out _).mono ?_; rintro e w1 ⟨rfl, rfl⟩
  go_wp2_with fail
  go_loopw [5, 6] (fun n i wr => ∃ k a : Nat, k ≤ d.size ∧ i = .int .i64 k ∧ n = .int .u64 a ∧ Hid (a + 1 ≤ 10 ^ k) ∧ Hid (Num.val a (d.data.toList.drop k) = ans) ∧ wr = w) (fun _ i _ => d.size - (intOf i).toNat)
  case atStart => exact ⟨0, 0, Nat.zero_le _, rfl, rfl, Nat.le_refl 1, HA.out.symm, rfl⟩
  case round =>
    obtain ⟨k, a, hk, rfl, rfl, hp, hr, hw⟩ := hrel
    obtain rfl : w = wr := hw.symm
    by_cases hlt : k < d.size
    · have hb := d[k].toNat_lt
      have hdk : Num.dig d[k] = true := by
        have h := HD.out
        have := List.all_eq_true.1 h d[k] (by
          have e : d[k] = d.data.toList[k]'(by rw [Num.rn_len]; exact hlt) := rfl
          rw [e]; exact List.getElem_mem _)
        exact this
      have h48 : 48 ≤ d[k].toNat ∧ d[k].toNat ≤ 57 := by unfold Num.dig at hdk; exact of_decide_eq_true hdk
      obtain ⟨l48, l57⟩ := h48
      have ha : a ≤ 999999999999999999 := by
        have h := hp.out
        have := Nat.pow_le_pow_right (n := 10) (by omega) (show k ≤ 18 by omega)
        omega
      have hp' := Lib.hid (show Num.stp a d[k] + 1 ≤ 10 ^ (k + 1) by rw [Num.stp_eq, Nat.pow_succ]; have := hp.out; omega)
      have hr' := Lib.hid (show Num.val (Num.stp a d[k]) (d.data.toList.drop (k + 1)) = ans by rw [← hr.out, Num.rn_drop d k hlt, Num.val_cons])
      have hs' := Lib.hid (show 10 * (a : Int) + ((d[k].toNat : Int) - 48) = (Num.stp a d[k] : Int) by rw [Num.stp_eq]; omega)
      clear hdk hp hr
      go_wp2_with fail
      go_roundw
      case rel => exact ⟨k + 1, Num.stp a d[k], by omega, by go_num, by first | (rw [← hs'.out]; done) | (rw [← hs'.out]; rfl) | (congr 1; rw [← hs'.out]), hp', hr', by first | rfl | trivial⟩
      case measure => simp [intOf]; omega
    · have hyes := Lib.hid (show a = ans by rw [← hr.out, List.drop_of_length_le (by rw [Num.rn_len]; omega)]; rfl)
      have hbd : a ≤ 9999999999999999999 := by
        have h := hp.out
        have := Nat.pow_le_pow_right (n := 10) (by omega) (show k ≤ 19 by omega)
        omega
      have hm : 9223372036854775808 = 9223372036854775808 → 1 ≤ a := by intro hh; first | (exact absurd hh (by decide)) | (rw [hyes.out]; exact M1.out (by first | trivial | exact hh))
      clear hp hr M1
      by_cases hf : 9223372036854775808 < a
      · have hv := Lib.hid (show 9223372036854775808 < ans by rw [← hyes.out]; exact hf)
        have hfi : (9223372036854775808 : Int) < (a : Int) := by omega
        clear hf hm
        go_wp2_with fail
        go_ret2
        exact ⟨by rw [HR.out, if_pos hv.out]; rfl, rfl⟩
      · have hv := Lib.hid hf
        have hm1 : 9223372036854775808 = 9223372036854775808 → 1 ≤ (a : Int) := fun h => by have := hm h; omega
        clear hm
        simp at hm1
        have hfi : ¬ (9223372036854775808 : Int) < (a : Int) := by omega
        clear hf
        have hv2 := Lib.hid (show (-((a : Int) - 1) - 1) = -(a : Int) by omega)
        go_wp2_with fail
        go_ret2
        exact ⟨by rw [HR.out, if_neg (by rw [← hyes.out]; exact hv.out), ← hyes.out]; first | rfl | (rw [← hv2.out]; rfl), rfl⟩
set_option maxHeartbeats 2000000 in
set_option maxRecDepth 100000 in
theorem rread_nvaly (s : ByteArray) (c : Int) (w : World) (ls : 1 ≤ (s.size : Int)) (lm : s.size ≤ 1000) (IX : (∀ W, Sem.run Tryz.prog (Instr.index 9 (.string s) (.int .i64 0)) W = .ok (.int .u8 c) W)) (hc : (c == 45) = false) (CD : Hid (∀ W, Calls Tryz.prog 162 #[.string s] W fun e w' => e = .returned (.bool true) ∧ W = w'))  (h1 : ¬ 1 < (s.size : Int)) (h19 : ¬ 19 < (s.size : Int)) (hs : (s.toList == [45, 48]) = false) (hd : s.data.toList.all Num.dig = true)  :
    Calls Tryz.prog 119 #[.string s] w fun e w' => e = .returned (.tuple #[.int .i64 (if 9223372036854775807 < Num.val 0 s.data.toList then ((0 : Int), (1 : Int)) else ((Num.val 0 s.data.toList : Int), 0)).1, .int .i64 (if 9223372036854775807 < Num.val 0 s.data.toList then ((0 : Int), (1 : Int)) else ((Num.val 0 s.data.toList : Int), 0)).2]) ∧ w = w' := by
  obtain ⟨R, hR⟩ : ∃ R : Int × Int, R = (if 9223372036854775807 < Num.val 0 s.data.toList then ((0 : Int), (1 : Int)) else ((Num.val 0 s.data.toList : Int), 0)) := ⟨_, rfl⟩
  rw [← hR]
  obtain ⟨ans, hans⟩ : ∃ ans, ans = Num.val 0 s.data.toList := ⟨_, rfl⟩
  rw [← hans] at hR
  have HR := Lib.hid hR; clear hR
  have HA := Lib.hid hans
  have HD := Lib.hid hd; clear hd
  have M1 := Lib.hid (show 9223372036854775807 = 9223372036854775808 → 1 ≤ ans by intro hh; first | (exact absurd hh (by decide)) | (rw [hans]; exact m1))
  clear hans
  try clear m1
  go_enter Tryz.func119, Tryz.ntmps119
  go_wp2_with fail
  refine (CD.out _).mono ?_; rintro e w1 ⟨rfl, rfl⟩
  go_wp2_with fail
  go_loopw [5, 6] (fun n i wr => ∃ k a : Nat, k ≤ s.size ∧ i = .int .i64 k ∧ n = .int .u64 a ∧ Hid (a + 1 ≤ 10 ^ k) ∧ Hid (Num.val a (s.data.toList.drop k) = ans) ∧ wr = w) (fun _ i _ => s.size - (intOf i).toNat)
  case atStart => exact ⟨0, 0, Nat.zero_le _, rfl, rfl, Nat.le_refl 1, HA.out.symm, rfl⟩
  case round =>
    obtain ⟨k, a, hk, rfl, rfl, hp, hr, hw⟩ := hrel
    obtain rfl : w = wr := hw.symm
    by_cases hlt : k < s.size
    · have hb := s[k].toNat_lt
      have hdk : Num.dig s[k] = true := by
        have h := HD.out
        have := List.all_eq_true.1 h s[k] (by
          have e : s[k] = s.data.toList[k]'(by rw [Num.rn_len]; exact hlt) := rfl
          rw [e]; exact List.getElem_mem _)
        exact this
      have h48 : 48 ≤ s[k].toNat ∧ s[k].toNat ≤ 57 := by unfold Num.dig at hdk; exact of_decide_eq_true hdk
      obtain ⟨l48, l57⟩ := h48
      have ha : a ≤ 999999999999999999 := by
        have h := hp.out
        have := Nat.pow_le_pow_right (n := 10) (by omega) (show k ≤ 18 by omega)
        omega
      have hp' := Lib.hid (show Num.stp a s[k] + 1 ≤ 10 ^ (k + 1) by rw [Num.stp_eq, Nat.pow_succ]; have := hp.out; omega)
      have hr' := Lib.hid (show Num.val (Num.stp a s[k]) (s.data.toList.drop (k + 1)) = ans by rw [← hr.out, Num.rn_drop s k hlt, Num.val_cons])
      have hs' := Lib.hid (show 10 * (a : Int) + ((s[k].toNat : Int) - 48) = (Num.stp a s[k] : Int) by rw [Num.stp_eq]; omega)
      clear hdk hp hr
      go_wp2_with fail
      go_roundw
      case rel => exact ⟨k + 1, Num.stp a s[k], by omega, by go_num, by first | (rw [← hs'.out]; done) | (rw [← hs'.out]; rfl) | (congr 1; rw [← hs'.out]), hp', hr', by first | rfl | trivial⟩
      case measure => simp [intOf]; omega
    · have hyes := Lib.hid (show a = ans by rw [← hr.out, List.drop_of_length_le (by rw [Num.rn_len]; omega)]; rfl)
      have hbd : a ≤ 9999999999999999999 := by
        have h := hp.out
        have := Nat.pow_le_pow_right (n := 10) (by omega) (show k ≤ 19 by omega)
        omega
      have hm : 9223372036854775807 = 9223372036854775808 → 1 ≤ a := by intro hh; first | (exact absurd hh (by decide)) | (rw [hyes.out]; exact M1.out (by first | trivial | exact hh))
      clear hp hr M1
      by_cases hf : 9223372036854775807 < a
      · have hv := Lib.hid (show 9223372036854775807 < ans by rw [← hyes.out]; exact hf)
        have hfi : (9223372036854775807 : Int) < (a : Int) := by omega
        clear hf hm
        go_wp2_with fail
        go_ret2
        exact ⟨by rw [HR.out, if_pos hv.out]; rfl, rfl⟩
      · have hv := Lib.hid hf
        have hm1 : 9223372036854775807 = 9223372036854775808 → 1 ≤ (a : Int) := fun h => by have := hm h; omega
        clear hm
        simp at hm1
        have hfi : ¬ (9223372036854775807 : Int) < (a : Int) := by omega
        clear hf
        have hv2 := Lib.hid (show (a : Int) = (a : Int) from rfl)
        go_wp2_with fail
        go_ret2
        exact ⟨by rw [HR.out, if_neg (by rw [← hyes.out]; exact hv.out), ← hyes.out]; first | rfl | (rw [← hv2.out]; rfl), rfl⟩
set_option maxHeartbeats 2000000 in
set_option maxRecDepth 100000 in
theorem rread_nvaln (s : ByteArray) (c : Int) (w : World) (ls : 1 ≤ (s.size : Int)) (lm : s.size ≤ 1000) (IX : (∀ W, Sem.run Tryz.prog (Instr.index 9 (.string s) (.int .i64 0)) W = .ok (.int .u8 c) W)) (hc : (c == 45) = false) (CD : Hid (∀ W, Calls Tryz.prog 162 #[.string s] W fun e w' => e = .returned (.bool true) ∧ W = w'))  (h1 : 1 < (s.size : Int)) (hx : (c == 48) = false) (h19 : ¬ 19 < (s.size : Int)) (hs : (s.toList == [45, 48]) = false) (hd : s.data.toList.all Num.dig = true)  :
    Calls Tryz.prog 119 #[.string s] w fun e w' => e = .returned (.tuple #[.int .i64 (if 9223372036854775807 < Num.val 0 s.data.toList then ((0 : Int), (1 : Int)) else ((Num.val 0 s.data.toList : Int), 0)).1, .int .i64 (if 9223372036854775807 < Num.val 0 s.data.toList then ((0 : Int), (1 : Int)) else ((Num.val 0 s.data.toList : Int), 0)).2]) ∧ w = w' := by
  obtain ⟨R, hR⟩ : ∃ R : Int × Int, R = (if 9223372036854775807 < Num.val 0 s.data.toList then ((0 : Int), (1 : Int)) else ((Num.val 0 s.data.toList : Int), 0)) := ⟨_, rfl⟩
  rw [← hR]
  obtain ⟨ans, hans⟩ : ∃ ans, ans = Num.val 0 s.data.toList := ⟨_, rfl⟩
  rw [← hans] at hR
  have HR := Lib.hid hR; clear hR
  have HA := Lib.hid hans
  have HD := Lib.hid hd; clear hd
  have M1 := Lib.hid (show 9223372036854775807 = 9223372036854775808 → 1 ≤ ans by intro hh; first | (exact absurd hh (by decide)) | (rw [hans]; exact m1))
  clear hans
  try clear m1
  go_enter Tryz.func119, Tryz.ntmps119
  go_wp2_with fail
  refine (CD.out _).mono ?_; rintro e w1 ⟨rfl, rfl⟩
  go_wp2_with fail
  go_loopw [5, 6] (fun n i wr => ∃ k a : Nat, k ≤ s.size ∧ i = .int .i64 k ∧ n = .int .u64 a ∧ Hid (a + 1 ≤ 10 ^ k) ∧ Hid (Num.val a (s.data.toList.drop k) = ans) ∧ wr = w) (fun _ i _ => s.size - (intOf i).toNat)
  case atStart => exact ⟨0, 0, Nat.zero_le _, rfl, rfl, Nat.le_refl 1, HA.out.symm, rfl⟩
  case round =>
    obtain ⟨k, a, hk, rfl, rfl, hp, hr, hw⟩ := hrel
    obtain rfl : w = wr := hw.symm
    by_cases hlt : k < s.size
    · have hb := s[k].toNat_lt
      have hdk : Num.dig s[k] = true := by
        have h := HD.out
        have := List.all_eq_true.1 h s[k] (by
          have e : s[k] = s.data.toList[k]'(by rw [Num.rn_len]; exact hlt) := rfl
          rw [e]; exact List.getElem_mem _)
        exact this
      have h48 : 48 ≤ s[k].toNat ∧ s[k].toNat ≤ 57 := by unfold Num.dig at hdk; exact of_decide_eq_true hdk
      obtain ⟨l48, l57⟩ := h48
      have ha : a ≤ 999999999999999999 := by
        have h := hp.out
        have := Nat.pow_le_pow_right (n := 10) (by omega) (show k ≤ 18 by omega)
        omega
      have hp' := Lib.hid (show Num.stp a s[k] + 1 ≤ 10 ^ (k + 1) by rw [Num.stp_eq, Nat.pow_succ]; have := hp.out; omega)
      have hr' := Lib.hid (show Num.val (Num.stp a s[k]) (s.data.toList.drop (k + 1)) = ans by rw [← hr.out, Num.rn_drop s k hlt, Num.val_cons])
      have hs' := Lib.hid (show 10 * (a : Int) + ((s[k].toNat : Int) - 48) = (Num.stp a s[k] : Int) by rw [Num.stp_eq]; omega)
      clear hdk hp hr
      go_wp2_with fail
      go_roundw
      case rel => exact ⟨k + 1, Num.stp a s[k], by omega, by go_num, by first | (rw [← hs'.out]; done) | (rw [← hs'.out]; rfl) | (congr 1; rw [← hs'.out]), hp', hr', by first | rfl | trivial⟩
      case measure => simp [intOf]; omega
    · have hyes := Lib.hid (show a = ans by rw [← hr.out, List.drop_of_length_le (by rw [Num.rn_len]; omega)]; rfl)
      have hbd : a ≤ 9999999999999999999 := by
        have h := hp.out
        have := Nat.pow_le_pow_right (n := 10) (by omega) (show k ≤ 19 by omega)
        omega
      have hm : 9223372036854775807 = 9223372036854775808 → 1 ≤ a := by intro hh; first | (exact absurd hh (by decide)) | (rw [hyes.out]; exact M1.out (by first | trivial | exact hh))
      clear hp hr M1
      by_cases hf : 9223372036854775807 < a
      · have hv := Lib.hid (show 9223372036854775807 < ans by rw [← hyes.out]; exact hf)
        have hfi : (9223372036854775807 : Int) < (a : Int) := by omega
        clear hf hm
        go_wp2_with fail
        go_ret2
        exact ⟨by rw [HR.out, if_pos hv.out]; rfl, rfl⟩
      · have hv := Lib.hid hf
        have hm1 : 9223372036854775807 = 9223372036854775808 → 1 ≤ (a : Int) := fun h => by have := hm h; omega
        clear hm
        simp at hm1
        have hfi : ¬ (9223372036854775807 : Int) < (a : Int) := by omega
        clear hf
        have hv2 := Lib.hid (show (a : Int) = (a : Int) from rfl)
        go_wp2_with fail
        go_ret2
        exact ⟨by rw [HR.out, if_neg (by rw [← hyes.out]; exact hv.out), ← hyes.out]; first | rfl | (rw [← hv2.out]; rfl), rfl⟩
end Go.Proofs.YtedbohfcbfegjaaGreatDoor

/- The library's contracts of ParseInt at base 10, laid at this translation. -/
set_option linter.unusedVariables false
namespace Go.Proofs
open Go.Shelf

theorem Tryz.parseInt_ok (s : ByteArray) (hmax : s.size ≤ 9223372036854775806) (v : Int) (h : Lib.parseIntB 64 s.data.toList = .ok v) (w : World) :
    Calls Tryz.prog 197 #[.string s, .int .i64 10, .int .i64 64] w fun e w' => e = .returned (.tuple #[.int .i64 v, .nilIface]) ∧ RowKit.Below w.heap.size w w' :=
  (Any.strconv_ParseInt_10_at64_ok Tryz.laysC174 s hmax v h w).mono fun _ _ ⟨h, k⟩ => ⟨h, by
    rcases k with e | ⟨t, e⟩
    · rw [e]; exact RowKit.Below.refl _ _
    · rw [e]; exact Lib.bytesWorld_below _ _ _⟩
theorem Tryz.parseInt_range (s : ByteArray) (hlim : s.size ≤ 281474976710656) (h : Lib.parseIntB 64 s.data.toList = .range) (tp : TypeId) (p : Value) (w : World) (hvar : w.var? Tryz.prog "strconv.ErrRange" = some #[.iface tp p]) :
    Calls Tryz.prog 197 #[.string s, .int .i64 10, .int .i64 64] w fun e w' => (∃ N, e = .returned (.tuple #[.int .i64 (Lib.intSat 64 s.data.toList), .iface 192 (.pointer (some ⟨N, 0, none⟩))])) ∧ RowKit.Below w.heap.size w w' :=
  (Any.strconv_ParseInt_10_at64_range_var Tryz.laysC174 s hlim h tp p w hvar).mono fun _ _ ⟨N, h, _, _, b⟩ => ⟨⟨N, h⟩, b⟩
end Go.Proofs

/- The contracts of num.isText and num.Read. -/
set_option linter.unusedVariables false
set_option linter.unusedSimpArgs false
namespace Go.Proofs.YtedbohfcbfegjaaGreatDoor
open Go.RowKit
set_option maxHeartbeats 4000000 in
theorem isText_any (s : ByteArray) (w : World) (hs : s.size ≤ maxLen) :
    Calls Tryz.prog 196 #[.string s] w fun e w' => e = .returned (.bool (Num.isT s.data.toList)) ∧ ∃ k, w' = w.drewN k := by
  rw [show Num.isT s.data.toList = Num.numT (Lib.hasPrefix s.data.toList [45]) (Lib.trimPrefix s.data.toList [45]) from rfl]
  have hl : (Lib.trimPrefix s.data.toList [45]).length ≤ s.size := by
    unfold Lib.trimPrefix
    have : s.data.toList.length = s.size := by simp
    split
    · rw [List.length_drop]; omega
    · omega
  obtain ⟨b, hb⟩ : ∃ b, Lib.hasPrefix s.data.toList [45] = b := ⟨_, rfl⟩
  obtain ⟨l, hl2⟩ : ∃ l, Lib.trimPrefix s.data.toList [45] = l := ⟨_, rfl⟩
  rw [hl2] at hl
  rw [hb, hl2]
  have HB := Lib.hid hb; have HL := Lib.hid hl2; clear hb hl2
  obtain ⟨ds, hds⟩ : ∃ ds : ByteArray, ds = ⟨l.toArray⟩ := ⟨_, rfl⟩
  have hdl : l = ds.data.toList := by rw [hds]
  have hsz : ds.size ≤ s.size := by rw [hds]; show l.toArray.size ≤ s.size; rw [List.size_toArray]; exact hl
  have HD := Lib.hid hds; clear hds
  unfold maxLen at hs
  rw [hdl]
  have HDL := Lib.hid hdl; clear hdl hl
  rcases Nat.eq_zero_or_pos ds.size with hz | hz
  · have hnil : ds.data.toList = [] := by rw [← List.length_eq_zero_iff, dlen]; exact hz
    have ht : ds.toList = [] := by rw [ByteArray.toList_eq]; exact hnil
    have hte : ds.toList.isEmpty = true := by rw [ht]; rfl
    rw [hnil]
    have HZ := Lib.hid hz; clear hz hnil
    go_enter Tryz.func196, Tryz.ntmps196
    go_wp2_with fail
    refine (cutPrefix _ _ _).mono ?_; rintro e w1 ⟨rfl, rfl⟩
    rw [show (⟨#[45]⟩ : ByteArray).data.toList = [45] from rfl, HB.out, HL.out, ← HD.out]
    clear HB HL
    go_wp2_with fail
    go_ret
    exact ⟨rfl, 0, rfl⟩
  · obtain ⟨t1, t2⟩ := dne hz
    by_cases h48 : ds[0].toNat = 48
    · have h48' : ((ds[0].toNat : Int) == 48) = true := by rw [beq_iff_eq]; omega
      cases hbb : b
      · by_cases h1 : 1 < ds.size
        · have h1i : (1 : Int) < (ds.size : Int) := by omega
          have hno := front_no (b := false) hz h48 (.inr h1)
          have HN := Lib.hid hno; clear hno
          rw [hbb] at HB
          clear hbb
          have H48 := Lib.hid h48; clear h48
          go_enter Tryz.func196, Tryz.ntmps196
          go_wp2_with fail
          refine (cutPrefix _ _ _).mono ?_; rintro e w1 ⟨rfl, rfl⟩
          rw [show (⟨#[45]⟩ : ByteArray).data.toList = [45] from rfl, HB.out, HL.out, ← HD.out]
          clear HB HL
          go_wp2_with fail
          go_ret
          refine ⟨?_, 0, rfl⟩
          rw [HN.out]
          all_goals rfl
        · have h1i : (ds.size : Int) ≤ 1 := by omega
          have hf := front (b := false) hz (fun _ => ⟨rfl, by omega⟩)
          have HF := Lib.hid hf; clear hf
          rw [hbb] at HB
          clear hbb
          have H48 := Lib.hid h48; clear h48
          go_enter Tryz.func196, Tryz.ntmps196
          go_wp2_with fail
          refine (cutPrefix _ _ _).mono ?_; rintro e w1 ⟨rfl, rfl⟩
          rw [show (⟨#[45]⟩ : ByteArray).data.toList = [45] from rfl, HB.out, HL.out, ← HD.out]
          clear HB HL
          go_wp2_with fail
          go_loop [28] (fun i => ∃ k : Nat, k ≤ ds.size ∧ i = .int .i64 k ∧ (ds.data.toList.take k).all Num.dig = true) (fun i => ds.size - (intOf i).toNat)
          case atStart => exact ⟨0, Nat.zero_le _, rfl, rfl⟩
          case round =>
            obtain ⟨k, hk, rfl, hall⟩ := hrel
            have HA := Lib.hid hall; clear hall
            by_cases hlt : k < ds.size
            · by_cases h1 : (ds[k].toNat : Int) < 48
              · have hno : ds.data.toList.all Num.dig = false := not_all hlt (by omega)
                have HN := Lib.hid hno; clear hno
                go_wp2
                go_ret
                refine ⟨?_, 0, rfl⟩
                rw [HF.out, HN.out]
                all_goals rfl
              · by_cases h2 : 57 < (ds[k].toNat : Int)
                · have hno : ds.data.toList.all Num.dig = false := not_all hlt (by omega)
                  have HN := Lib.hid hno; clear hno
                  go_wp2
                  go_ret
                  refine ⟨?_, 0, rfl⟩
                  rw [HF.out, HN.out]
                  all_goals rfl
                · have hst : (ds.data.toList.take (k + 1)).all Num.dig = true := take_all hlt HA.out (by omega)
                  have HS := Lib.hid hst; clear hst
                  go_wp2
                  go_round
                  case rel => exact ⟨k + 1, by omega, by go_num, HS.out⟩
                  case measure => simp [intOf]; omega
            · have hend : ds.data.toList.all Num.dig = true := by
                have := HA.out
                rwa [List.take_of_length_le (by rw [dlen]; omega)] at this
              have HE := Lib.hid hend; clear hend
              go_wp2
              go_ret
              refine ⟨?_, 0, rfl⟩
              rw [HF.out, HE.out]
              all_goals rfl
      · have hno := front_no (b := true) hz h48 (.inl rfl)
        have HN := Lib.hid hno; clear hno
        rw [hbb] at HB
        clear hbb
        have H48 := Lib.hid h48; clear h48
        go_enter Tryz.func196, Tryz.ntmps196
        go_wp2_with fail
        refine (cutPrefix _ _ _).mono ?_; rintro e w1 ⟨rfl, rfl⟩
        rw [show (⟨#[45]⟩ : ByteArray).data.toList = [45] from rfl, HB.out, HL.out, ← HD.out]
        clear HB HL
        go_wp2_with fail
        go_ret
        refine ⟨?_, 0, rfl⟩
        rw [HN.out]
        all_goals rfl
    · have h48' : ((ds[0].toNat : Int) == 48) = false := by rw [beq_eq_false_iff_ne]; omega
      have hf := front (b := b) hz (fun h => absurd h h48)
      have HF := Lib.hid hf; clear hf
      clear h48
      go_enter Tryz.func196, Tryz.ntmps196
      go_wp2_with fail
      refine (cutPrefix _ _ _).mono ?_; rintro e w1 ⟨rfl, rfl⟩
      rw [show (⟨#[45]⟩ : ByteArray).data.toList = [45] from rfl, HB.out, HL.out, ← HD.out]
      clear HB HL
      go_wp2_with fail
      go_loop [28] (fun i => ∃ k : Nat, k ≤ ds.size ∧ i = .int .i64 k ∧ (ds.data.toList.take k).all Num.dig = true) (fun i => ds.size - (intOf i).toNat)
      case atStart => exact ⟨0, Nat.zero_le _, rfl, rfl⟩
      case round =>
        obtain ⟨k, hk, rfl, hall⟩ := hrel
        have HA := Lib.hid hall; clear hall
        by_cases hlt : k < ds.size
        · by_cases h1 : (ds[k].toNat : Int) < 48
          · have hno : ds.data.toList.all Num.dig = false := not_all hlt (by omega)
            have HN := Lib.hid hno; clear hno
            go_wp2
            go_ret
            refine ⟨?_, 0, rfl⟩
            rw [HF.out, HN.out]
            all_goals rfl
          · by_cases h2 : 57 < (ds[k].toNat : Int)
            · have hno : ds.data.toList.all Num.dig = false := not_all hlt (by omega)
              have HN := Lib.hid hno; clear hno
              go_wp2
              go_ret
              refine ⟨?_, 0, rfl⟩
              rw [HF.out, HN.out]
              all_goals rfl
            · have hst : (ds.data.toList.take (k + 1)).all Num.dig = true := take_all hlt HA.out (by omega)
              have HS := Lib.hid hst; clear hst
              go_wp2
              go_round
              case rel => exact ⟨k + 1, by omega, by go_num, HS.out⟩
              case measure => simp [intOf]; omega
        · have hend : ds.data.toList.all Num.dig = true := by
            have := HA.out
            rwa [List.take_of_length_le (by rw [dlen]; omega)] at this
          have HE := Lib.hid hend; clear hend
          go_wp2
          go_ret
          refine ⟨?_, 0, rfl⟩
          rw [HF.out, HE.out]
          all_goals rfl

set_option maxHeartbeats 1000000 in
theorem read_no (s : ByteArray) (w : World) (hs : s.size ≤ maxLen) (ht : Num.isT s.data.toList = false) :
    Calls Tryz.prog 168 #[.string s] w fun e w' => e = .returned (.tuple #[.int .i64 0, .int .i64 2]) ∧ Below w.heap.size w w' := by
  have HT := Lib.hid ht; clear ht
  go_enter Tryz.func168, Tryz.ntmps168
  go_wp2_with fail
  refine (isText_any _ _ hs).mono ?_; rintro e w1 ⟨rfl, k, rfl⟩
  rw [HT.out]
  go_wp2_with fail
  go_ret2
  exact ⟨rfl, below_draw _ _⟩
set_option maxHeartbeats 1000000 in
theorem read_ok (s : ByteArray) (v : Int) (w : World) (hs : s.size ≤ maxLen) (ht : Num.isT s.data.toList = true) (h : Lib.parseIntB 64 s.data.toList = .ok v) (hm : s.size ≤ 9223372036854775806) :
    Calls Tryz.prog 168 #[.string s] w fun e w' => e = .returned (.tuple #[.int .i64 v, .int .i64 0]) ∧ Below w.heap.size w w' := by
  have HT := Lib.hid ht; have H := Lib.hid h; have HM := Lib.hid hm; clear ht h hm
  go_enter Tryz.func168, Tryz.ntmps168
  go_wp2_with fail
  refine (isText_any _ _ hs).mono ?_; rintro e w1 ⟨rfl, k, rfl⟩
  rw [HT.out]
  go_wp2_with fail
  refine (Tryz.parseInt_ok _ HM.out v H.out _).mono ?_; rintro e w2 ⟨rfl, b2⟩
  have B2 := Lib.hid (below_step (below_draw w k) b2)
  clear b2
  go_wp2_with fail
  go_ret2
  exact ⟨rfl, B2.out⟩
set_option maxHeartbeats 1000000 in
theorem read_range (s : ByteArray) (w : World) (hs : s.size ≤ maxLen) (ht : Num.isT s.data.toList = true) (h : Lib.parseIntB 64 s.data.toList = .range) (hm : s.size ≤ 281474976710656) (tp : TypeId) (p : Value) (hvar : w.var? Tryz.prog "strconv.ErrRange" = some #[.iface tp p]) :
    Calls Tryz.prog 168 #[.string s] w fun e w' => e = .returned (.tuple #[.int .i64 0, .int .i64 1]) ∧ Below w.heap.size w w' := by
  have HT := Lib.hid ht; have H := Lib.hid h; have HM := Lib.hid hm; have HV := Lib.hid hvar; clear ht h hm hvar
  go_enter Tryz.func168, Tryz.ntmps168
  go_wp2_with fail
  refine (isText_any _ _ hs).mono ?_; rintro e w1 ⟨rfl, k, rfl⟩
  rw [HT.out]
  go_wp2_with fail
  refine (Tryz.parseInt_range _ HM.out H.out tp p _ (var_keep (below_draw w k) HV.out)).mono ?_; rintro e w2 ⟨⟨N, rfl⟩, b2⟩
  have B2 := Lib.hid (below_step (below_draw w k) b2)
  clear b2
  go_wp2_with fail
  go_ret2
  exact ⟨rfl, B2.out⟩
end Go.Proofs.YtedbohfcbfegjaaGreatDoor
