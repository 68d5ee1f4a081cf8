/- Joined: RnE, RnF. -/
import Derived.Test.YtlelpeocbgjmhaaGreatDoorCa14
/- The contract of the reference's Read. -/
set_option linter.unusedVariables false
set_option linter.unusedSimpArgs false
namespace Go.Proofs.YtlelpeocbgjmhaaGreatDoor
open Go.RowKit

theorem rread_nil (w : World) :
    Calls Tryz.prog 34 #[.string ⟨#[]⟩] w fun e w' => e = .returned (.tuple #[.int .i64 0, .int .i64 2]) ∧ w = w' := by
  have CD := Lib.hid (fun W => rdigs_nil W)
  go_enter Tryz.func34, Tryz.ntmps34
  go_wp2_with fail
  refine (CD.out _).mono ?_; rintro e w1 ⟨rfl, rfl⟩
  go_wp2_with fail
  go_ret2
  exact ⟨rfl, rfl⟩
theorem rread_mz (w : World) :
    Calls Tryz.prog 34 #[.string ⟨#[45, 48]⟩] w fun e w' => e = .returned (.tuple #[.int .i64 0, .int .i64 2]) ∧ w = w' := by
  have CD := Lib.hid (fun W => rdigs_ne ⟨#[48]⟩ W (by decide) (by decide))
  have IX : ∀ W, Sem.run Tryz.prog (Instr.index 9 (.string ⟨#[45, 48]⟩) (.int .i64 0)) W = .ok (.int .u8 45) W := fun W => rn_ix ⟨#[45, 48]⟩ 0 (by decide) W
  have sl : ∀ W, Sem.run Tryz.prog (Instr.slice 9 (.string ⟨#[45, 48]⟩) (some (.int .i64 1)) none none) W = .ok (.string ⟨#[48]⟩) W := fun W => rn_cut ⟨#[45, 48]⟩ 1 (by decide) W
  go_enter Tryz.func34, Tryz.ntmps34
  go_wp2_with fail
  refine (CD.out _).mono ?_; rintro e w1 ⟨rfl, rfl⟩
  go_wp2_with fail
  go_ret2
  exact ⟨rfl, rfl⟩
theorem rread_yno (s d : ByteArray) (c x : Int) (g : Bool) (w : World) (ls : 1 ≤ (s.size : Int)) (lm : s.size ≤ 1000) (ld : (d.size : Int) + 1 = (s.size : Int)) (IX : (∀ W, Sem.run Tryz.prog (Instr.index 9 (.string s) (.int .i64 0)) W = .ok (.int .u8 c) W)) (hc : (c == 45) = true) (sl : (∀ W, Sem.run Tryz.prog (Instr.slice 9 (.string s) (some (.int .i64 1)) none none) W = .ok (.string d) W)) (CD : Hid (∀ W, Calls Tryz.prog 56 #[.string d] W fun e w' => e = .returned (.bool g) ∧ W = w')) (hg : g = false) :
    Calls Tryz.prog 34 #[.string s] w fun e w' => e = .returned (.tuple #[.int .i64 0, .int .i64 2]) ∧ w = w' := by
  subst hg
  go_enter Tryz.func34, Tryz.ntmps34
  go_wp2_with fail
  refine (CD.out _).mono ?_; rintro e w1 ⟨rfl, rfl⟩
  go_wp2_with fail
  go_ret2
  exact ⟨rfl, rfl⟩
theorem rread_yzero (s d : ByteArray) (c x : Int) (g : Bool) (w : World) (ls : 1 ≤ (s.size : Int)) (lm : s.size ≤ 1000) (ld : (d.size : Int) + 1 = (s.size : Int)) (IX : (∀ W, Sem.run Tryz.prog (Instr.index 9 (.string s) (.int .i64 0)) W = .ok (.int .u8 c) W)) (hc : (c == 45) = true) (sl : (∀ W, Sem.run Tryz.prog (Instr.slice 9 (.string s) (some (.int .i64 1)) none none) W = .ok (.string d) W)) (CD : Hid (∀ W, Calls Tryz.prog 56 #[.string d] W fun e w' => e = .returned (.bool g) ∧ W = w')) (ID : (∀ W, Sem.run Tryz.prog (Instr.index 9 (.string d) (.int .i64 0)) W = .ok (.int .u8 x) W)) (hg : g = true) (h1 : 1 < (d.size : Int)) (hx : (x == 48) = true) :
    Calls Tryz.prog 34 #[.string s] w fun e w' => e = .returned (.tuple #[.int .i64 0, .int .i64 2]) ∧ w = w' := by
  subst hg
  go_enter Tryz.func34, Tryz.ntmps34
  go_wp2_with fail
  refine (CD.out _).mono ?_; rintro e w1 ⟨rfl, rfl⟩
  go_wp2_with fail
  go_ret2
  exact ⟨rfl, rfl⟩
theorem rread_yfar (s d : ByteArray) (c x : Int) (g : Bool) (w : World) (ls : 1 ≤ (s.size : Int)) (lm : s.size ≤ 1000) (ld : (d.size : Int) + 1 = (s.size : Int)) (IX : (∀ W, Sem.run Tryz.prog (Instr.index 9 (.string s) (.int .i64 0)) W = .ok (.int .u8 c) W)) (hc : (c == 45) = true) (sl : (∀ W, Sem.run Tryz.prog (Instr.slice 9 (.string s) (some (.int .i64 1)) none none) W = .ok (.string d) W)) (CD : Hid (∀ W, Calls Tryz.prog 56 #[.string d] W fun e w' => e = .returned (.bool g) ∧ W = w')) (ID : (∀ W, Sem.run Tryz.prog (Instr.index 9 (.string d) (.int .i64 0)) W = .ok (.int .u8 x) W)) (hg : g = true) (h1 : 19 < (d.size : Int)) (hx : (x == 48) = false) (hs : (s.toList == [45, 48]) = false) :
    Calls Tryz.prog 34 #[.string s] w fun e w' => e = .returned (.tuple #[.int .i64 0, .int .i64 1]) ∧ w = w' := by
  subst hg
  go_enter Tryz.func34, Tryz.ntmps34
  go_wp2_with fail
  refine (CD.out _).mono ?_; rintro e w1 ⟨rfl, rfl⟩
  go_wp2_with fail
  go_ret2
  exact ⟨rfl, rfl⟩
theorem rread_nno (s : ByteArray) (c : Int) (g : Bool) (w : World) (ls : 1 ≤ (s.size : Int)) (lm : s.size ≤ 1000) (IX : (∀ W, Sem.run Tryz.prog (Instr.index 9 (.string s) (.int .i64 0)) W = .ok (.int .u8 c) W)) (hc : (c == 45) = false) (CD : Hid (∀ W, Calls Tryz.prog 56 #[.string s] W fun e w' => e = .returned (.bool g) ∧ W = w')) (hg : g = false) :
    Calls Tryz.prog 34 #[.string s] w fun e w' => e = .returned (.tuple #[.int .i64 0, .int .i64 2]) ∧ w = w' := by
  subst hg
  go_enter Tryz.func34, Tryz.ntmps34
  go_wp2_with fail
  refine (CD.out _).mono ?_; rintro e w1 ⟨rfl, rfl⟩
  go_wp2_with fail
  go_ret2
  exact ⟨rfl, rfl⟩
theorem rread_nzero (s : ByteArray) (c : Int) (g : Bool) (w : World) (ls : 1 ≤ (s.size : Int)) (lm : s.size ≤ 1000) (IX : (∀ W, Sem.run Tryz.prog (Instr.index 9 (.string s) (.int .i64 0)) W = .ok (.int .u8 c) W)) (hc : (c == 45) = false) (CD : Hid (∀ W, Calls Tryz.prog 56 #[.string s] W fun e w' => e = .returned (.bool g) ∧ W = w'))  (hg : g = true) (h1 : 1 < (s.size : Int)) (hx : (c == 48) = true) :
    Calls Tryz.prog 34 #[.string s] w fun e w' => e = .returned (.tuple #[.int .i64 0, .int .i64 2]) ∧ w = w' := by
  subst hg
  go_enter Tryz.func34, Tryz.ntmps34
  go_wp2_with fail
  refine (CD.out _).mono ?_; rintro e w1 ⟨rfl, rfl⟩
  go_wp2_with fail
  go_ret2
  exact ⟨rfl, rfl⟩
theorem rread_nfar (s : ByteArray) (c : Int) (g : Bool) (w : World) (ls : 1 ≤ (s.size : Int)) (lm : s.size ≤ 1000) (IX : (∀ W, Sem.run Tryz.prog (Instr.index 9 (.string s) (.int .i64 0)) W = .ok (.int .u8 c) W)) (hc : (c == 45) = false) (CD : Hid (∀ W, Calls Tryz.prog 56 #[.string s] W fun e w' => e = .returned (.bool g) ∧ W = w'))  (hg : g = true) (h1 : 19 < (s.size : Int)) (hx : (c == 48) = false) (hs : (s.toList == [45, 48]) = false) :
    Calls Tryz.prog 34 #[.string s] w fun e w' => e = .returned (.tuple #[.int .i64 0, .int .i64 1]) ∧ w = w' := by
  subst hg
  go_enter Tryz.func34, Tryz.ntmps34
  go_wp2_with fail
  refine (CD.out _).mono ?_; rintro e w1 ⟨rfl, rfl⟩
  go_wp2_with fail
  go_ret2
  exact ⟨rfl, rfl⟩
end Go.Proofs.YtlelpeocbgjmhaaGreatDoor

/- The contract of the reference's Read: digits that are read. -/
set_option linter.unusedVariables false
set_option linter.unusedSimpArgs false
namespace Go.Proofs.YtlelpeocbgjmhaaGreatDoor
open Go.RowKit

set_option maxHeartbeats 2000000 in
set_option maxRecDepth 100000 in
theorem rread_yvaly (s d : ByteArray) (c x : Int) (w : World) (ls : 1 ≤ (s.size : Int)) (lm : s.size ≤ 1000) (ld : (d.size : Int) + 1 = (s.size : Int)) (IX : (∀ W, Sem.run Tryz.prog (Instr.index 9 (.string s) (.int .i64 0)) W = .ok (.int .u8 c) W)) (hc : (c == 45) = true) (sl : (∀ W, Sem.run Tryz.prog (Instr.slice 9 (.string s) (some (.int .i64 1)) none none) W = .ok (.string d) W)) (CD : Hid (∀ W, Calls Tryz.prog 56 #[.string d] W fun e w' => e = .returned (.bool true) ∧ W = w')) (ID : (∀ W, Sem.run Tryz.prog (Instr.index 9 (.string d) (.int .i64 0)) W = .ok (.int .u8 x) W)) (h1 : ¬ 1 < (d.size : Int)) (h19 : ¬ 19 < (d.size : Int)) (hs : (s.toList == [45, 48]) = false) (hd : d.data.toList.all Num.dig = true) (m1 : 1 ≤ Num.val 0 d.data.toList) :
    Calls Tryz.prog 34 #[.string s] w fun e w' => e = .returned (.tuple #[.int .i64 (if 9223372036854775808 < Num.val 0 d.data.toList then ((0 : Int), (1 : Int)) else (-(Num.val 0 d.data.toList : Int), 0)).1, .int .i64 (if 9223372036854775808 < Num.val 0 d.data.toList then ((0 : Int), (1 : Int)) else (-(Num.val 0 d.data.toList : Int), 0)).2]) ∧ w = w' := by
  obtain ⟨R, hR⟩ : ∃ R : Int × Int, R = (if 9223372036854775808 < Num.val 0 d.data.toList then ((0 : Int), (1 : Int)) else (-(Num.val 0 d.data.toList : Int), 0)) := ⟨_, rfl⟩
  rw [← hR]
  obtain ⟨ans, hans⟩ : ∃ ans, ans = Num.val 0 d.data.toList := ⟨_, rfl⟩
  rw [← hans] at hR
  have HR := Lib.hid hR; clear hR
  have HA := Lib.hid hans
  have HD := Lib.hid hd; clear hd
  have M1 := Lib.hid (show 9223372036854775808 = 9223372036854775808 → 1 ≤ ans by intro hh; first | (exact absurd hh (by decide)) | (rw [hans]; exact m1))
  clear hans
  try clear m1
  go_enter Tryz.func34, Tryz.ntmps34
  go_wp2_with fail
  refine (CD.out _).mono ?_; rintro e w1 ⟨rfl, rfl⟩
  go_wp2_with fail
  go_loopw [5, 6] (fun n i wr => ∃ k a : Nat, k ≤ d.size ∧ i = .int .i64 k ∧ n = .int .u64 a ∧ Hid (a + 1 ≤ 10 ^ k) ∧ Hid (Num.val a (d.data.toList.drop k) = ans) ∧ wr = w) (fun _ i _ => d.size - (intOf i).toNat)
  case atStart => exact ⟨0, 0, Nat.zero_le _, rfl, rfl, Nat.le_refl 1, HA.out.symm, rfl⟩
  case round =>
    obtain ⟨k, a, hk, rfl, rfl, hp, hr, hw⟩ := hrel
    obtain rfl : w = wr := hw.symm
    by_cases hlt : k < d.size
    · have hb := d[k].toNat_lt
      have hdk : Num.dig d[k] = true := by
        have h := HD.out
        have := List.all_eq_true.1 h d[k] (by
          have e : d[k] = d.data.toList[k]'(by rw [Num.rn_len]; exact hlt) := rfl
          rw [e]; exact List.getElem_mem _)
        exact this
      have h48 : 48 ≤ d[k].toNat ∧ d[k].toNat ≤ 57 := by unfold Num.dig at hdk; exact of_decide_eq_true hdk
      obtain ⟨l48, l57⟩ := h48
      have ha : a ≤ 999999999999999999 := by
        have h := hp.out
        have := Nat.pow_le_pow_right (n := 10) (by omega) (show k ≤ 18 by omega)
        omega
      have hp' := Lib.hid (show Num.stp a d[k] + 1 ≤ 10 ^ (k + 1) by rw [Num.stp_eq, Nat.pow_succ]; have := hp.out; omega)
      have hr' := Lib.hid (show Num.val (Num.stp a d[k]) (d.data.toList.drop (k + 1)) = ans by rw [← hr.out, Num.rn_drop d k hlt, Num.val_cons])
      have hs' := Lib.hid (show 10 * (a : Int) + ((d[k].toNat : Int) - 48) = (Num.stp a d[k] : Int) by rw [Num.stp_eq]; omega)
      clear hdk hp hr
      go_wp2_with fail
      go_roundw
      case rel => exact ⟨k + 1, Num.stp a d[k], by omega, by go_num, by first | (rw [← hs'.out]; done) | (rw [← hs'.out]; rfl) | (congr 1; rw [← hs'.out]), hp', hr', by first | rfl | trivial⟩
      case measure => simp [intOf]; omega
    · have hyes := Lib.hid (show a = ans by rw [← hr.out, List.drop_of_length_le (by rw [Num.rn_len]; omega)]; rfl)
      have hbd : a ≤ 9999999999999999999 := by
        have h := hp.out
        have := Nat.pow_le_pow_right (n := 10) (by omega) (show k ≤ 19 by omega)
        omega
      have hm : 9223372036854775808 = 9223372036854775808 → 1 ≤ a := by intro hh; first | (exact absurd hh (by decide)) | (rw [hyes.out]; exact M1.out (by first | trivial | exact hh))
      clear hp hr M1
      by_cases hf : 9223372036854775808 < a
      · have hv := Lib.hid (show 9223372036854775808 < ans by rw [← hyes.out]; exact hf)
        have hfi : (9223372036854775808 : Int) < (a : Int) := by omega
        clear hf hm
        go_wp2_with fail
        go_ret2
        exact ⟨by rw [HR.out, if_pos hv.out]; rfl, rfl⟩
      · have hv := Lib.hid hf
        have hm1 : 9223372036854775808 = 9223372036854775808 → 1 ≤ (a : Int) := fun h => by have := hm h; omega
        clear hm
        simp at hm1
        have hfi : ¬ (9223372036854775808 : Int) < (a : Int) := by omega
        clear hf
        have hv2 := Lib.hid (show (-((a : Int) - 1) - 1) = -(a : Int) by omega)
        go_wp2_with fail
        go_ret2
        exact ⟨by rw [HR.out, if_neg (by rw [← hyes.out]; exact hv.out), ← hyes.out]; first | rfl | (rw [← hv2.out]; rfl), rfl⟩
set_option maxHeartbeats 2000000 in
set_option maxRecDepth 100000 in
theorem rread_yvaln (s d : ByteArray) (c x : Int) (w : World) (ls : 1 ≤ (s.size : Int)) (lm : s.size ≤ 1000) (ld : (d.size : Int) + 1 = (s.size : Int)) (IX : (∀ W, Sem.run Tryz.prog (Instr.index 9 (.string s) (.int .i64 0)) W = .ok (.int .u8 c) W)) (hc : (c == 45) = true) (sl : (∀ W, Sem.run Tryz.prog (Instr.slice 9 (.string s) (some (.int .i64 1)) none none) W = .ok (.string d) W)) (CD : Hid (∀ W, Calls Tryz.prog 56 #[.string d] W fun e w' => e = .returned (.bool true) ∧ W = w')) (ID : (∀ W, Sem.run Tryz.prog (Instr.index 9 (.string d) (.int .i64 0)) W = .ok (.int .u8 x) W)) (h1 : 1 < (d.size : Int)) (hx : (x == 48) = false) (h19 : ¬ 19 < (d.size : Int)) (hs : (s.toList == [45, 48]) = false) (hd : d.data.toList.all Num.dig = true) (m1 : 1 ≤ Num.val 0 d.data.toList) :
    Calls Tryz.prog 34 #[.string s] w fun e w' => e = .returned (.tuple #[.int .i64 (if 9223372036854775808 < Num.val 0 d.data.toList then ((0 : Int), (1 : Int)) else (-(Num.val 0 d.data.toList : Int), 0)).1, .int .i64 (if 9223372036854775808 < Num.val 0 d.data.toList then ((0 : Int), (1 : Int)) else (-(Num.val 0 d.data.toList : Int), 0)).2]) ∧ w = w' := by
  obtain ⟨R, hR⟩ : ∃ R : Int × Int, R = (if 9223372036854775808 < Num.val 0 d.data.toList then ((0 : Int), (1 : Int)) else (-(Num.val 0 d.data.toList : Int), 0)) := ⟨_, rfl⟩
  rw [← hR]
  obtain ⟨ans, hans⟩ : ∃ ans, ans = Num.val 0 d.data.toList := ⟨_, rfl⟩
  rw [← hans] at hR
  have HR := Lib.hid hR; clear hR
  have HA := Lib.hid hans
  have HD := Lib.hid hd; clear hd
  have M1 := Lib.hid (show 9223372036854775808 = 9223372036854775808 → 1 ≤ ans by intro hh; first | (exact absurd hh (by decide)) | (rw [hans]; exact m1))
  clear hans
  try clear m1
  go_enter Tryz.func34, Tryz.ntmps34
  go_wp2_with fail
  refine (CD.out _).mono ?_; rintro e w1 ⟨rfl, rfl⟩
  go_wp2_with fail
  go_loopw [5, 6] (fun n i wr => ∃ k a : Nat, k ≤ d.size ∧ i = .int .i64 k ∧ n = .int .u64 a ∧ Hid (a + 1 ≤ 10 ^ k) ∧ Hid (Num.val a (d.data.toList.drop k) = ans) ∧ wr = w) (fun _ i _ => d.size - (intOf i).toNat)
  case atStart => exact ⟨0, 0, Nat.zero_le _, rfl, rfl, Nat.le_refl 1, HA.out.symm, rfl⟩
  case round =>
    obtain ⟨k, a, hk, rfl, rfl, hp, hr, hw⟩ := hrel
    obtain rfl : w = wr := hw.symm
    by_cases hlt : k < d.size
    · have hb := d[k].toNat_lt
      have hdk : Num.dig d[k] = true := by
        have h := HD.out
        have := List.all_eq_true.1 h d[k] (by
          have e : d[k] = d.data.toList[k]'(by rw [Num.rn_len]; exact hlt) := rfl
          rw [e]; exact List.getElem_mem _)
        exact this
      have h48 : 48 ≤ d[k].toNat ∧ d[k].toNat ≤ 57 := by unfold Num.dig at hdk; exact of_decide_eq_true hdk
      obtain ⟨l48, l57⟩ := h48
      have ha : a ≤ 999999999999999999 := by
        have h := hp.out
        have := Nat.pow_le_pow_right (n := 10) (by omega) (show k ≤ 18 by omega)
        omega
      have hp' := Lib.hid (show Num.stp a d[k] + 1 ≤ 10 ^ (k + 1) by rw [Num.stp_eq, Nat.pow_succ]; have := hp.out; omega)
      have hr' := Lib.hid (show Num.val (Num.stp a d[k]) (d.data.toList.drop (k + 1)) = ans by rw [← hr.out, Num.rn_drop d k hlt, Num.val_cons])
      have hs' := Lib.hid (show 10 * (a : Int) + ((d[k].toNat : Int) - 48) = (Num.stp a d[k] : Int) by rw [Num.stp_eq]; omega)
      clear hdk hp hr
      go_wp2_with fail
      go_roundw
      case rel => exact ⟨k + 1, Num.stp a d[k], by omega, by go_num, by first | (rw [← hs'.out]; done) | (rw [← hs'.out]; rfl) | (congr 1; rw [← hs'.out]), hp', hr', by first | rfl | trivial⟩
      case measure => simp [intOf]; omega
    · have hyes := Lib.hid (show a = ans by rw [← hr.out, List.drop_of_length_le (by rw [Num.rn_len]; omega)]; rfl)
      have hbd : a ≤ 9999999999999999999 := by
        have h := hp.out
        have := Nat.pow_le_pow_right (n := 10) (by omega) (show k ≤ 19 by omega)
        omega
      have hm : 9223372036854775808 = 9223372036854775808 → 1 ≤ a := by intro hh; first | (exact absurd hh (by decide)) | (rw [hyes.out]; exact M1.out (by first | trivial | exact hh))
      clear hp hr M1
      by_cases hf : 9223372036854775808 < a
      · have hv := Lib.hid (show 9223372036854775808 < ans by rw [← hyes.out]; exact hf)
        have hfi : (9223372036854775808 : Int) < (a : Int) := by omega
        clear hf hm
        go_wp2_with fail
        go_ret2
        exact ⟨by rw [HR.out, if_pos hv.out]; rfl, rfl⟩
      · have hv := Lib.hid hf
        have hm1 : 9223372036854775808 = 9223372036854775808 → 1 ≤ (a : Int) := fun h => by have := hm h; omega
        clear hm
        simp at hm1
        have hfi : ¬ (9223372036854775808 : Int) < (a : Int) := by omega
        clear hf
        have hv2 := Lib.hid (show (-((a : Int) - 1) - 1) = -(a : Int) by omega)
        go_wp2_with fail
        go_ret2
        exact ⟨by rw [HR.out, if_neg (by rw [← hyes.out]; exact hv.out), ← hyes.out]; first | rfl | (rw [← hv2.out]; rfl), rfl⟩
set_option maxHeartbeats 2000000 in
set_option maxRecDepth 100000 in
theorem rread_nvaly (s : ByteArray) (c : Int) (w : World) (ls : 1 ≤ (s.size : Int)) (lm : s.size ≤ 1000) (IX : (∀ W, Sem.run Tryz.prog (Instr.index 9 (.string s) (.int .i64 0)) W = .ok (.int .u8 c) W)) (hc : (c == 45) = false) (CD : Hid (∀ W, Calls Tryz.prog 56 #[.string s] W fun e w' => e = .returned (.bool true) ∧ W = w'))  (h1 : ¬ 1 < (s.size : Int)) (h19 : ¬ 19 < (s.size : Int)) (hs : (s.toList == [45, 48]) = false) (hd : s.data.toList.all Num.dig = true)  :
    Calls Tryz.prog 34 #[.string s] w fun e w' => e = .returned (.tuple #[.int .i64 (if 9223372036854775807 < Num.val 0 s.data.toList then ((0 : Int), (1 : Int)) else ((Num.val 0 s.data.toList : Int), 0)).1, .int .i64 (if 9223372036854775807 < Num.val 0 s.data.toList then ((0 : Int), (1 : Int)) else ((Num.val 0 s.data.toList : Int), 0)).2]) ∧ w = w' := by
  obtain ⟨R, hR⟩ : ∃ R : Int × Int, R = (if 9223372036854775807 < Num.val 0 s.data.toList then ((0 : Int), (1 : Int)) else ((Num.val 0 s.data.toList : Int), 0)) := ⟨_, rfl⟩
  rw [← hR]
  obtain ⟨ans, hans⟩ : ∃ ans, ans = Num.val 0 s.data.toList := ⟨_, rfl⟩
  rw [← hans] at hR
  have HR := Lib.hid hR; clear hR
  have HA := Lib.hid hans
  have HD := Lib.hid hd; clear hd
  have M1 := Lib.hid (show 9223372036854775807 = 9223372036854775808 → 1 ≤ ans by intro hh; first | (exact absurd hh (by decide)) | (rw [hans]; exact m1))
  clear hans
  try clear m1
  go_enter Tryz.func34, Tryz.ntmps34
  go_wp2_with fail
  refine (CD.out _).mono ?_; rintro e w1 ⟨rfl, rfl⟩
  go_wp2_with fail
  go_loopw [5, 6] (fun n i wr => ∃ k a : Nat, k ≤ s.size ∧ i = .int .i64 k ∧ n = .int .u64 a ∧ Hid (a + 1 ≤ 10 ^ k) ∧ Hid (Num.val a (s.data.toList.drop k) = ans) ∧ wr = w) (fun _ i _ => s.size - (intOf i).toNat)
  case atStart => exact ⟨0, 0, Nat.zero_le _, rfl, rfl, Nat.le_refl 1, HA.out.symm, rfl⟩
  case round =>
    obtain ⟨k, a, hk, rfl, rfl, hp, hr, hw⟩ := hrel
    obtain rfl : w = wr := hw.symm
    by_cases hlt : k < s.size
    · have hb := s[k].toNat_lt
      have hdk : Num.dig s[k] = true := by
        have h := HD.out
        have := List.all_eq_true.1 h s[k] (by
          have e : s[k] = s.data.toList[k]'(by rw [Num.rn_len]; exact hlt) := rfl
          rw [e]; exact List.getElem_mem _)
        exact this
      have h48 : 48 ≤ s[k].toNat ∧ s[k].toNat ≤ 57 := by unfold Num.dig at hdk; exact of_decide_eq_true hdk
      obtain ⟨l48, l57⟩ := h48
      have ha : a ≤ 999999999999999999 := by
        have h := hp.out
        have := Nat.pow_le_pow_right (n := 10) (by omega) (show k ≤ 18 by omega)
        omega
      have hp' := Lib.hid (show Num.stp a s[k] + 1 ≤ 10 ^ (k + 1) by rw [Num.stp_eq, Nat.pow_succ]; have := hp.out; omega)
      have hr' := Lib.hid (show Num.val (Num.stp a s[k]) (s.data.toList.drop (k + 1)) = ans by rw [← hr.out, Num.rn_drop s k hlt, Num.val_cons])
      have hs' := Lib.hid (show 10 * (a : Int) + ((s[k].toNat : Int) - 48) = (Num.stp a s[k] : Int) by rw [Num.stp_eq]; omega)
      clear hdk hp hr
      go_wp2_with fail
      go_roundw
      case rel => exact ⟨k + 1, Num.stp a s[k], by omega, by go_num, by first | (rw [← hs'.out]; done) | (rw [← hs'.out]; rfl) | (congr 1; rw [← hs'.out]), hp', hr', by first | rfl | trivial⟩
      case measure => simp [intOf]; omega
    · have hyes := Lib.hid (show a = ans by rw [← hr.out, List.drop_of_length_le (by rw [Num.rn_len]; omega)]; rfl)
      have hbd : a ≤ 9999999999999999999 := by
        have h := hp.out
        have := Nat.pow_le_pow_right (n := 10) (by omega) (show k ≤ 19 by omega)
        omega
      have hm : 9223372036854775807 = 9223372036854775808 → 1 ≤ a := by intro hh; first | (exact absurd hh (by decide)) | (rw [hyes.out]; exact M1.out (by first | trivial | exact hh))
      clear hp hr M1
      by_cases hf : 9223372036854775807 < a
      · have hv := Lib.hid (show 9223372036854775807 < ans by rw [← hyes.out]; exact hf)
        have hfi : (9223372036854775807 : Int) < (a : Int) := by omega
        clear hf hm
        go_wp2_with fail
        go_ret2
        exact ⟨by rw [HR.out, if_pos hv.out]; rfl, rfl⟩
      · have hv := Lib.hid hf
        have hm1 : 9223372036854775807 = 9223372036854775808 → 1 ≤ (a : Int) := fun h => by have := hm h; omega
        clear hm
        simp at hm1
        have hfi : ¬ (9223372036854775807 : Int) < (a : Int) := by omega
        clear hf
        have hv2 := Lib.hid (show (a : Int) = (a : Int) from rfl)
        go_wp2_with fail
        go_ret2
        exact ⟨by rw [HR.out, if_neg (by rw [← hyes.out]; exact hv.out), ← hyes.out]; first | rfl | (rw [← hv2.out]; rfl), rfl⟩
set_option maxHeartbeats 2000000 in
set_option maxRecDepth 100000 in
theorem rread_nvaln (s : ByteArray) (c : Int) (w : World) (ls : 1 ≤ (s.size : Int)) (lm : s.size ≤ 1000) (IX : (∀ W, Sem.run Tryz.prog (Instr.index 9 (.string s) (.int .i64 0)) W = .ok (.int .u8 c) W)) (hc : (c == 45) = false) (CD : Hid (∀ W, Calls Tryz.prog 56 #[.string s] W fun e w' => e = .returned (.bool true) ∧ W = w'))  (h1 : 1 < (s.size : Int)) (hx : (c == 48) = false) (h19 : ¬ 19 < (s.size : Int)) (hs : (s.toList == [45, 48]) = false) (hd : s.data.toList.all Num.dig = true)  :
    Calls Tryz.prog 34 #[.string s] w fun e w' => e = .returned (.tuple #[.int .i64 (if 9223372036854775807 < Num.val 0 s.data.toList then ((0 : Int), (1 : Int)) else ((Num.val 0 s.data.toList : Int), 0)).1, .int .i64 (if 9223372036854775807 < Num.val 0 s.data.toList then ((0 : Int), (1 : Int)) else ((Num.val 0 s.data.toList : Int), 0)).2]) ∧ w = w' := by
  obtain ⟨R, hR⟩ : ∃ R : Int × Int, R = (if 9223372036854775807 < Num.val 0 s.data.toList then ((0 : Int), (1 : Int)) else ((Num.val 0 s.data.toList : Int), 0)) := ⟨_, rfl⟩
  rw [← hR]
  obtain ⟨ans, hans⟩ : ∃ ans, ans = Num.val 0 s.data.toList := ⟨_, rfl⟩
  rw [← hans] at hR
  have HR := Lib.hid hR; clear hR
  have HA := Lib.hid hans
  have HD := Lib.hid hd; clear hd
  have M1 := Lib.hid (show 9223372036854775807 = 9223372036854775808 → 1 ≤ ans by intro hh; first | (exact absurd hh (by decide)) | (rw [hans]; exact m1))
  clear hans
  try clear m1
  go_enter Tryz.func34, Tryz.ntmps34
  go_wp2_with fail
  refine (CD.out _).mono ?_; rintro e w1 ⟨rfl, rfl⟩
  go_wp2_with fail
  go_loopw [5, 6] (fun n i wr => ∃ k a : Nat, k ≤ s.size ∧ i = .int .i64 k ∧ n = .int .u64 a ∧ Hid (a + 1 ≤ 10 ^ k) ∧ Hid (Num.val a (s.data.toList.drop k) = ans) ∧ wr = w) (fun _ i _ => s.size - (intOf i).toNat)
  case atStart => exact ⟨0, 0, Nat.zero_le _, rfl, rfl, Nat.le_refl 1, HA.out.symm, rfl⟩
  case round =>
    obtain ⟨k, a, hk, rfl, rfl, hp, hr, hw⟩ := hrel
    obtain rfl : w = wr := hw.symm
    by_cases hlt : k < s.size
    · have hb := s[k].toNat_lt
      have hdk : Num.dig s[k] = true := by
        have h := HD.out
        have := List.all_eq_true.1 h s[k] (by
          have e : s[k] = s.data.toList[k]'(by rw [Num.rn_len]; exact hlt) := rfl
          rw [e]; exact List.getElem_mem _)
        exact this
      have h48 : 48 ≤ s[k].toNat ∧ s[k].toNat ≤ 57 := by unfold Num.dig at hdk; exact of_decide_eq_true hdk
      obtain ⟨l48, l57⟩ := h48
      have ha : a ≤ 999999999999999999 := by
        have h := hp.out
        have := Nat.pow_le_pow_right (n := 10) (by omega) (show k ≤ 18 by omega)
        omega
      have hp' := Lib.hid (show Num.stp a s[k] + 1 ≤ 10 ^ (k + 1) by rw [Num.stp_eq, Nat.pow_succ]; have := hp.out; omega)
      have hr' := Lib.hid (show Num.val (Num.stp a s[k]) (s.data.toList.drop (k + 1)) = ans by rw [← hr.out, Num.rn_drop s k hlt, Num.val_cons])
      have hs' := Lib.hid (show 10 * (a : Int) + ((s[k].toNat : Int) - 48) = (Num.stp a s[k] : Int) by rw [Num.stp_eq]; omega)
      clear hdk hp hr
      go_wp2_with fail
      go_roundw
      case rel => exact ⟨k + 1, Num.stp a s[k], by omega, by go_num, by first | (rw [← hs'.out]; done) | (rw [← hs'.out]; rfl) | (congr 1; rw [← hs'.out]), hp', hr', by first | rfl | trivial⟩
      case measure => simp [intOf]; omega
    · have hyes := Lib.hid (show a = ans by rw [← hr.out, List.drop_of_length_le (by rw [Num.rn_len]; omega)]; rfl)
      have hbd : a ≤ 9999999999999999999 := by
        have h := hp.out
        have := Nat.pow_le_pow_right (n := 10) (by omega) (show k ≤ 19 by omega)
        omega
      have hm : 9223372036854775807 = 9223372036854775808 → 1 ≤ a := by intro hh; first | (exact absurd hh (by decide)) | (rw [hyes.out]; exact M1.out (by first | trivial | exact hh))
      clear hp hr M1
      by_cases hf : 9223372036854775807 < a
      · have hv := Lib.hid (show 9223372036854775807 < ans by rw [← hyes.out]; exact hf)
        have hfi : (9223372036854775807 : Int) < (a : Int) := by omega
        clear hf hm
        go_wp2_with fail
        go_ret2
        exact ⟨by rw [HR.out, if_pos hv.out]; rfl, rfl⟩
      · have hv := Lib.hid hf
        have hm1 : 9223372036854775807 = 9223372036854775808 → 1 ≤ (a : Int) := fun h => by have := hm h; omega
        clear hm
        simp at hm1
        have hfi : ¬ (9223372036854775807 : Int) < (a : Int) := by omega
        clear hf
        have hv2 := Lib.hid (show (a : Int) = (a : Int) from rfl)
        go_wp2_with fail
        go_ret2
        exact ⟨by rw [HR.out, if_neg (by rw [← hyes.out]; exact hv.out), ← hyes.out]; first | rfl | (rw [← hv2.out]; rfl), rfl⟩
end Go.Proofs.YtlelpeocbgjmhaaGreatDoor
