/- Joined: RsD. -/
import Derived.Test.YtifgiclnofdnkaaGreatDoorBy08
set_option linter.unusedVariables false
set_option linter.unusedSimpArgs false
namespace Go.Proofs.YtifgiclnofdnkaaGreatDoor
open Go.RowKit
set_option maxHeartbeats 2000000 in
set_option maxRecDepth 100000 in
theorem two_any (s : ByteArray) (c0 c1 : Int) (w : World) (IX0 : ∀ W, Sem.run Tryz.prog (Instr.index 9 (.string s) (.int .i64 0)) W = .ok (.int .u8 c0) W) (IX1 : ∀ W, Sem.run Tryz.prog (Instr.index 9 (.string s) (.int .i64 1)) W = .ok (.int .u8 c1) W) (a0 : 48 ≤ c0) (a1 : c0 ≤ 57) (b0 : 48 ≤ c1) (b1 : c1 ≤ 57) :
  Calls Tryz.prog 98 #[.string s] w fun e w' => e = .returned (.int .i64 ((c0 - 48) * 10 + (c1 - 48))) ∧ ∃ n, w' = w.drewN n := by
 go_enter Tryz.func98, Tryz.ntmps98
 go_wp2_with fail
 go_quiet (fail)
 go_wp2_with fail
 go_ret
 exact ⟨rfl, _, rfl⟩
theorem ry4_nil (w : World) :
  Calls Tryz.prog 99 #[.string ⟨#[]⟩] w fun e w' => e = .returned (.tuple #[.int .i64 0, .int .i64 4]) ∧ w = w' := by
 go_enter Tryz.func99, Tryz.ntmps99
 go_wp2_with fail
 go_ret2
 exact ⟨rfl, rfl⟩
theorem ry4_mz (w : World) :
  Calls Tryz.prog 99 #[.string ⟨#[45, 48, 48, 48, 48]⟩] w fun e w' => e = .returned (.tuple #[.int .i64 0, .int .i64 4]) ∧ w = w' := by
 have CD := Lib.hid (fun W => rdigs_ne ⟨#[48, 48, 48, 48]⟩ W (by decide) (by decide))
 have IX : ∀ W, Sem.run Tryz.prog (Instr.index 9 (.string ⟨#[45, 48, 48, 48, 48]⟩) (.int .i64 0)) W = .ok (.int .u8 45) W := fun W => rn_ix ⟨#[45, 48, 48, 48, 48]⟩ 0 (by decide) W
 have sl : ∀ W, Sem.run Tryz.prog (Instr.slice 9 (.string ⟨#[45, 48, 48, 48, 48]⟩) (some (.int .i64 1)) none none) W = .ok (.string ⟨#[48, 48, 48, 48]⟩) W := fun W => rn_cut ⟨#[45, 48, 48, 48, 48]⟩ 1 (by decide) W
 go_enter Tryz.func99, Tryz.ntmps99
 go_wp2_with fail
 refine (CD.out _).mono ?_; rintro e w1 ⟨rfl, rfl⟩
 go_wp2_with fail
 go_ret2
 exact ⟨rfl, rfl⟩
theorem ry4_yshort (s d : ByteArray) (c x : Int) (g : Bool) (w : World) (ls : 1 ≤ (s.size : Int)) (lm : s.size ≤ 1000) (ld : (d.size : Int) + 1 = (s.size : Int)) (IX : (∀ W, Sem.run Tryz.prog (Instr.index 9 (.string s) (.int .i64 0)) W = .ok (.int .u8 c) W)) (hc : (c == 45) = true) (sl : (∀ W, Sem.run Tryz.prog (Instr.slice 9 (.string s) (some (.int .i64 1)) none none) W = .ok (.string d) W)) (CD : Hid (∀ W, Calls Tryz.prog 97 #[.string d] W fun e w' => e = .returned (.bool g) ∧ W = w')) (h4 : (d.size : Int) < 4) :
  Calls Tryz.prog 99 #[.string s] w fun e w' => e = .returned (.tuple #[.int .i64 0, .int .i64 4]) ∧ w = w' := by
 clear CD
 go_enter Tryz.func99, Tryz.ntmps99
 go_wp2_with fail
 go_ret2
 exact ⟨rfl, rfl⟩
theorem ry4_yno (s d : ByteArray) (c x : Int) (g : Bool) (w : World) (ls : 1 ≤ (s.size : Int)) (lm : s.size ≤ 1000) (ld : (d.size : Int) + 1 = (s.size : Int)) (IX : (∀ W, Sem.run Tryz.prog (Instr.index 9 (.string s) (.int .i64 0)) W = .ok (.int .u8 c) W)) (hc : (c == 45) = true) (sl : (∀ W, Sem.run Tryz.prog (Instr.slice 9 (.string s) (some (.int .i64 1)) none none) W = .ok (.string d) W)) (CD : Hid (∀ W, Calls Tryz.prog 97 #[.string d] W fun e w' => e = .returned (.bool g) ∧ W = w')) (h4 : ¬ (d.size : Int) < 4) (hg : g = false) :
  Calls Tryz.prog 99 #[.string s] w fun e w' => e = .returned (.tuple #[.int .i64 0, .int .i64 4]) ∧ w = w' := by
 subst hg
 go_enter Tryz.func99, Tryz.ntmps99
 go_wp2_with fail
 refine (CD.out _).mono ?_; rintro e w1 ⟨rfl, rfl⟩
 go_wp2_with fail
 go_ret2
 exact ⟨rfl, rfl⟩
theorem ry4_yzero (s d : ByteArray) (c x : Int) (g : Bool) (w : World) (ls : 1 ≤ (s.size : Int)) (lm : s.size ≤ 1000) (ld : (d.size : Int) + 1 = (s.size : Int)) (IX : (∀ W, Sem.run Tryz.prog (Instr.index 9 (.string s) (.int .i64 0)) W = .ok (.int .u8 c) W)) (hc : (c == 45) = true) (sl : (∀ W, Sem.run Tryz.prog (Instr.slice 9 (.string s) (some (.int .i64 1)) none none) W = .ok (.string d) W)) (CD : Hid (∀ W, Calls Tryz.prog 97 #[.string d] W fun e w' => e = .returned (.bool g) ∧ W = w')) (ID : (∀ W, Sem.run Tryz.prog (Instr.index 9 (.string d) (.int .i64 0)) W = .ok (.int .u8 x) W)) (h4 : ¬ (d.size : Int) < 4) (hg : g = true) (h1 : 4 < (d.size : Int)) (hx : (x == 48) = true) :
  Calls Tryz.prog 99 #[.string s] w fun e w' => e = .returned (.tuple #[.int .i64 0, .int .i64 4]) ∧ w = w' := by
 subst hg
 go_enter Tryz.func99, Tryz.ntmps99
 go_wp2_with fail
 refine (CD.out _).mono ?_; rintro e w1 ⟨rfl, rfl⟩
 go_wp2_with fail
 go_ret2
 exact ⟨rfl, rfl⟩
theorem ry4_yfar (s d : ByteArray) (c x : Int) (g : Bool) (w : World) (ls : 1 ≤ (s.size : Int)) (lm : s.size ≤ 1000) (ld : (d.size : Int) + 1 = (s.size : Int)) (IX : (∀ W, Sem.run Tryz.prog (Instr.index 9 (.string s) (.int .i64 0)) W = .ok (.int .u8 c) W)) (hc : (c == 45) = true) (sl : (∀ W, Sem.run Tryz.prog (Instr.slice 9 (.string s) (some (.int .i64 1)) none none) W = .ok (.string d) W)) (CD : Hid (∀ W, Calls Tryz.prog 97 #[.string d] W fun e w' => e = .returned (.bool g) ∧ W = w')) (ID : (∀ W, Sem.run Tryz.prog (Instr.index 9 (.string d) (.int .i64 0)) W = .ok (.int .u8 x) W)) (h4 : ¬ (d.size : Int) < 4) (hg : g = true) (h1 : 5 < (d.size : Int)) (hx : (x == 48) = false) (hs : (s.toList == [45, 48, 48, 48, 48]) = false) :
  Calls Tryz.prog 99 #[.string s] w fun e w' => e = .returned (.tuple #[.int .i64 0, .int .i64 1]) ∧ w = w' := by
 subst hg
 go_enter Tryz.func99, Tryz.ntmps99
 go_wp2_with fail
 refine (CD.out _).mono ?_; rintro e w1 ⟨rfl, rfl⟩
 go_wp2_with fail
 go_ret2
 exact ⟨rfl, rfl⟩
theorem ry4_nshort (s : ByteArray) (c : Int) (g : Bool) (w : World) (ls : 1 ≤ (s.size : Int)) (lm : s.size ≤ 1000) (IX : (∀ W, Sem.run Tryz.prog (Instr.index 9 (.string s) (.int .i64 0)) W = .ok (.int .u8 c) W)) (hc : (c == 45) = false) (CD : Hid (∀ W, Calls Tryz.prog 97 #[.string s] W fun e w' => e = .returned (.bool g) ∧ W = w')) (h4 : (s.size : Int) < 4) :
  Calls Tryz.prog 99 #[.string s] w fun e w' => e = .returned (.tuple #[.int .i64 0, .int .i64 4]) ∧ w = w' := by
 clear CD
 go_enter Tryz.func99, Tryz.ntmps99
 go_wp2_with fail
 go_ret2
 exact ⟨rfl, rfl⟩
theorem ry4_nno (s : ByteArray) (c : Int) (g : Bool) (w : World) (ls : 1 ≤ (s.size : Int)) (lm : s.size ≤ 1000) (IX : (∀ W, Sem.run Tryz.prog (Instr.index 9 (.string s) (.int .i64 0)) W = .ok (.int .u8 c) W)) (hc : (c == 45) = false) (CD : Hid (∀ W, Calls Tryz.prog 97 #[.string s] W fun e w' => e = .returned (.bool g) ∧ W = w')) (h4 : ¬ (s.size : Int) < 4) (hg : g = false) :
  Calls Tryz.prog 99 #[.string s] w fun e w' => e = .returned (.tuple #[.int .i64 0, .int .i64 4]) ∧ w = w' := by
 subst hg
 go_enter Tryz.func99, Tryz.ntmps99
 go_wp2_with fail
 refine (CD.out _).mono ?_; rintro e w1 ⟨rfl, rfl⟩
 go_wp2_with fail
 go_ret2
 exact ⟨rfl, rfl⟩
theorem ry4_nzero (s : ByteArray) (c : Int) (g : Bool) (w : World) (ls : 1 ≤ (s.size : Int)) (lm : s.size ≤ 1000) (IX : (∀ W, Sem.run Tryz.prog (Instr.index 9 (.string s) (.int .i64 0)) W = .ok (.int .u8 c) W)) (hc : (c == 45) = false) (CD : Hid (∀ W, Calls Tryz.prog 97 #[.string s] W fun e w' => e = .returned (.bool g) ∧ W = w'))  (h4 : ¬ (s.size : Int) < 4) (hg : g = true) (h1 : 4 < (s.size : Int)) (hx : (c == 48) = true) :
  Calls Tryz.prog 99 #[.string s] w fun e w' => e = .returned (.tuple #[.int .i64 0, .int .i64 4]) ∧ w = w' := by
 subst hg
 go_enter Tryz.func99, Tryz.ntmps99
 go_wp2_with fail
 refine (CD.out _).mono ?_; rintro e w1 ⟨rfl, rfl⟩
 go_wp2_with fail
 go_ret2
 exact ⟨rfl, rfl⟩
theorem ry4_nfar (s : ByteArray) (c : Int) (g : Bool) (w : World) (ls : 1 ≤ (s.size : Int)) (lm : s.size ≤ 1000) (IX : (∀ W, Sem.run Tryz.prog (Instr.index 9 (.string s) (.int .i64 0)) W = .ok (.int .u8 c) W)) (hc : (c == 45) = false) (CD : Hid (∀ W, Calls Tryz.prog 97 #[.string s] W fun e w' => e = .returned (.bool g) ∧ W = w'))  (h4 : ¬ (s.size : Int) < 4) (hg : g = true) (h1 : 5 < (s.size : Int)) (hx : (c == 48) = false) (hs : (s.toList == [45, 48, 48, 48, 48]) = false) :
  Calls Tryz.prog 99 #[.string s] w fun e w' => e = .returned (.tuple #[.int .i64 0, .int .i64 1]) ∧ w = w' := by
 subst hg
 go_enter Tryz.func99, Tryz.ntmps99
 go_wp2_with fail
 refine (CD.out _).mono ?_; rintro e w1 ⟨rfl, rfl⟩
 go_wp2_with fail
 go_ret2
 exact ⟨rfl, rfl⟩
set_option maxHeartbeats 2000000 in
set_option maxRecDepth 100000 in
theorem ry4_yvaly (s d : ByteArray) (c x : Int) (g : Bool) (w : World) (ls : 1 ≤ (s.size : Int)) (lm : s.size ≤ 1000) (ld : (d.size : Int) + 1 = (s.size : Int)) (IX : (∀ W, Sem.run Tryz.prog (Instr.index 9 (.string s) (.int .i64 0)) W = .ok (.int .u8 c) W)) (hc : (c == 45) = true) (sl : (∀ W, Sem.run Tryz.prog (Instr.slice 9 (.string s) (some (.int .i64 1)) none none) W = .ok (.string d) W)) (CD : Hid (∀ W, Calls Tryz.prog 97 #[.string d] W fun e w' => e = .returned (.bool g) ∧ W = w')) (ID : (∀ W, Sem.run Tryz.prog (Instr.index 9 (.string d) (.int .i64 0)) W = .ok (.int .u8 x) W)) (h1 : ¬ 4 < (d.size : Int)) (h4 : ¬ (d.size : Int) < 4) (h5 : ¬ 5 < (d.size : Int)) (hg : g = true) (hs : (s.toList == [45, 48, 48, 48, 48]) = false) (hd : d.data.toList.all Num.dig = true) :
  Calls Tryz.prog 99 #[.string s] w fun e w' => e = .returned (.tuple #[.int .i64 (-(Num.val 0 d.data.toList : Int)), .int .i64 0]) ∧ w = w' := by
 subst hg
 obtain ⟨ans, hans⟩ : ∃ ans, ans = Num.val 0 d.data.toList := ⟨_, rfl⟩
 rw [← hans]
 have HA := Lib.hid hans
 have HD := Lib.hid hd; clear hd
 clear hans
 go_enter Tryz.func99, Tryz.ntmps99
 go_wp2_with fail
 refine (CD.out _).mono ?_; rintro e w1 ⟨rfl, rfl⟩
 go_wp2_with fail
 go_loopw [5, 6] (fun n i wr => ∃ k a : Nat, k ≤ d.size ∧ i = .int .i64 k ∧ n = .int .i64 a ∧ Hid (a + 1 ≤ 10 ^ k) ∧ Hid (Num.val a (d.data.toList.drop k) = ans) ∧ wr = w) (fun _ i _ => d.size - (intOf i).toNat)
 case atStart => exact ⟨0, 0, Nat.zero_le _, rfl, rfl, Nat.le_refl 1, HA.out.symm, rfl⟩
 case round =>
  obtain ⟨k, a, hk, rfl, rfl, hp, hr, hw⟩ := hrel
  obtain rfl : w = wr := hw.symm
  by_cases hlt : k < d.size
  ·
   have hb := d[k].toNat_lt
   have hdk : Num.dig d[k] = true := by
    have h := HD.out
    have := List.all_eq_true.1 h d[k] (by
     have e : d[k] = d.data.toList[k]'(by rw [Num.rn_len]; exact hlt) := rfl
     rw [e]; exact List.getElem_mem _)
    exact this
   have h48 : 48 ≤ d[k].toNat ∧ d[k].toNat ≤ 57 := by unfold Num.dig at hdk; exact of_decide_eq_true hdk
   obtain ⟨l48, l57⟩ := h48
   have ha : a ≤ 9999 := by
    have h := hp.out
    have := Nat.pow_le_pow_right (n := 10) (by omega) (show k ≤ 4 by omega)
    omega
   have hp' := Lib.hid (show Num.stp a d[k] + 1 ≤ 10 ^ (k + 1) by rw [Num.stp_eq, Nat.pow_succ]; have := hp.out; omega)
   have hr' := Lib.hid (show Num.val (Num.stp a d[k]) (d.data.toList.drop (k + 1)) = ans by rw [← hr.out, Num.rn_drop d k hlt, Num.val_cons])
   have hs' := Lib.hid (show 10 * (a : Int) + ((d[k].toNat : Int) - 48) = (Num.stp a d[k] : Int) by rw [Num.stp_eq]; omega)
   clear hdk hp hr
   go_wp2_with fail
   go_roundw
   case rel => exact ⟨k + 1, Num.stp a d[k], by omega, by go_num, by first | (rw [← hs'.out]; done) | (rw [← hs'.out]; rfl) | (congr 1; rw [← hs'.out]), hp', hr', by first | rfl | trivial⟩
   case measure => simp [intOf]; omega
  ·
   have hyes := Lib.hid (show a = ans by rw [← hr.out, List.drop_of_length_le (by rw [Num.rn_len]; omega)]; rfl)
   have hbd : a ≤ 99999 := by
    have h := hp.out
    have := Nat.pow_le_pow_right (n := 10) (by omega) (show k ≤ 5 by omega)
    omega
   clear hp hr
   go_wp2_with fail
   go_ret2
   exact ⟨by rw [← hyes.out]; rfl, rfl⟩
set_option maxHeartbeats 2000000 in
set_option maxRecDepth 100000 in
theorem ry4_yvaln (s d : ByteArray) (c x : Int) (g : Bool) (w : World) (ls : 1 ≤ (s.size : Int)) (lm : s.size ≤ 1000) (ld : (d.size : Int) + 1 = (s.size : Int)) (IX : (∀ W, Sem.run Tryz.prog (Instr.index 9 (.string s) (.int .i64 0)) W = .ok (.int .u8 c) W)) (hc : (c == 45) = true) (sl : (∀ W, Sem.run Tryz.prog (Instr.slice 9 (.string s) (some (.int .i64 1)) none none) W = .ok (.string d) W)) (CD : Hid (∀ W, Calls Tryz.prog 97 #[.string d] W fun e w' => e = .returned (.bool g) ∧ W = w')) (ID : (∀ W, Sem.run Tryz.prog (Instr.index 9 (.string d) (.int .i64 0)) W = .ok (.int .u8 x) W)) (h1 : 4 < (d.size : Int)) (hx : (x == 48) = false) (h4 : ¬ (d.size : Int) < 4) (h5 : ¬ 5 < (d.size : Int)) (hg : g = true) (hs : (s.toList == [45, 48, 48, 48, 48]) = false) (hd : d.data.toList.all Num.dig = true) :
  Calls Tryz.prog 99 #[.string s] w fun e w' => e = .returned (.tuple #[.int .i64 (-(Num.val 0 d.data.toList : Int)), .int .i64 0]) ∧ w = w' := by
 subst hg
 obtain ⟨ans, hans⟩ : ∃ ans, ans = Num.val 0 d.data.toList := ⟨_, rfl⟩
 rw [← hans]
 have HA := Lib.hid hans
 have HD := Lib.hid hd; clear hd
 clear hans
 go_enter Tryz.func99, Tryz.ntmps99
 go_wp2_with fail
 refine (CD.out _).mono ?_; rintro e w1 ⟨rfl, rfl⟩
 go_wp2_with fail
 go_loopw [5, 6] (fun n i wr => ∃ k a : Nat, k ≤ d.size ∧ i = .int .i64 k ∧ n = .int .i64 a ∧ Hid (a + 1 ≤ 10 ^ k) ∧ Hid (Num.val a (d.data.toList.drop k) = ans) ∧ wr = w) (fun _ i _ => d.size - (intOf i).toNat)
 case atStart => exact ⟨0, 0, Nat.zero_le _, rfl, rfl, Nat.le_refl 1, HA.out.symm, rfl⟩
 case round =>
  obtain ⟨k, a, hk, rfl, rfl, hp, hr, hw⟩ := hrel
  obtain rfl : w = wr := hw.symm
  by_cases hlt : k < d.size
  ·
   have hb := d[k].toNat_lt
   have hdk : Num.dig d[k] = true := by
    have h := HD.out
    have := List.all_eq_true.1 h d[k] (by
     have e : d[k] = d.data.toList[k]'(by rw [Num.rn_len]; exact hlt) := rfl
     rw [e]; exact List.getElem_mem _)
    exact this
   have h48 : 48 ≤ d[k].toNat ∧ d[k].toNat ≤ 57 := by unfold Num.dig at hdk; exact of_decide_eq_true hdk
   obtain ⟨l48, l57⟩ := h48
   have ha : a ≤ 9999 := by
    have h := hp.out
    have := Nat.pow_le_pow_right (n := 10) (by omega) (show k ≤ 4 by omega)
    omega
   have hp' := Lib.hid (show Num.stp a d[k] + 1 ≤ 10 ^ (k + 1) by rw [Num.stp_eq, Nat.pow_succ]; have := hp.out; omega)
   have hr' := Lib.hid (show Num.val (Num.stp a d[k]) (d.data.toList.drop (k + 1)) = ans by rw [← hr.out, Num.rn_drop d k hlt, Num.val_cons])
   have hs' := Lib.hid (show 10 * (a : Int) + ((d[k].toNat : Int) - 48) = (Num.stp a d[k] : Int) by rw [Num.stp_eq]; omega)
   clear hdk hp hr
   go_wp2_with fail
   go_roundw
   case rel => exact ⟨k + 1, Num.stp a d[k], by omega, by go_num, by first | (rw [← hs'.out]; done) | (rw [← hs'.out]; rfl) | (congr 1; rw [← hs'.out]), hp', hr', by first | rfl | trivial⟩
   case measure => simp [intOf]; omega
  ·
   have hyes := Lib.hid (show a = ans by rw [← hr.out, List.drop_of_length_le (by rw [Num.rn_len]; omega)]; rfl)
   have hbd : a ≤ 99999 := by
    have h := hp.out
    have := Nat.pow_le_pow_right (n := 10) (by omega) (show k ≤ 5 by omega)
    omega
   clear hp hr
   go_wp2_with fail
   go_ret2
   exact ⟨by rw [← hyes.out]; rfl, rfl⟩
set_option maxHeartbeats 2000000 in
set_option maxRecDepth 100000 in
theorem ry4_nvaly (s : ByteArray) (c : Int) (g : Bool) (w : World) (ls : 1 ≤ (s.size : Int)) (lm : s.size ≤ 1000) (IX : (∀ W, Sem.run Tryz.prog (Instr.index 9 (.string s) (.int .i64 0)) W = .ok (.int .u8 c) W)) (hc : (c == 45) = false) (CD : Hid (∀ W, Calls Tryz.prog 97 #[.string s] W fun e w' => e = .returned (.bool g) ∧ W = w'))  (h1 : ¬ 4 < (s.size : Int)) (h4 : ¬ (s.size : Int) < 4) (h5 : ¬ 5 < (s.size : Int)) (hg : g = true) (hs : (s.toList == [45, 48, 48, 48, 48]) = false) (hd : s.data.toList.all Num.dig = true) :
  Calls Tryz.prog 99 #[.string s] w fun e w' => e = .returned (.tuple #[.int .i64 (Num.val 0 s.data.toList : Int), .int .i64 0]) ∧ w = w' := by
 subst hg
 obtain ⟨ans, hans⟩ : ∃ ans, ans = Num.val 0 s.data.toList := ⟨_, rfl⟩
 rw [← hans]
 have HA := Lib.hid hans
 have HD := Lib.hid hd; clear hd
 clear hans
 go_enter Tryz.func99, Tryz.ntmps99
 go_wp2_with fail
 refine (CD.out _).mono ?_; rintro e w1 ⟨rfl, rfl⟩
 go_wp2_with fail
 go_loopw [5, 6] (fun n i wr => ∃ k a : Nat, k ≤ s.size ∧ i = .int .i64 k ∧ n = .int .i64 a ∧ Hid (a + 1 ≤ 10 ^ k) ∧ Hid (Num.val a (s.data.toList.drop k) = ans) ∧ wr = w) (fun _ i _ => s.size - (intOf i).toNat)
 case atStart => exact ⟨0, 0, Nat.zero_le _, rfl, rfl, Nat.le_refl 1, HA.out.symm, rfl⟩
 case round =>
  obtain ⟨k, a, hk, rfl, rfl, hp, hr, hw⟩ := hrel
  obtain rfl : w = wr := hw.symm
  by_cases hlt : k < s.size
  ·
   have hb := s[k].toNat_lt
   have hdk : Num.dig s[k] = true := by
    have h := HD.out
    have := List.all_eq_true.1 h s[k] (by
     have e : s[k] = s.data.toList[k]'(by rw [Num.rn_len]; exact hlt) := rfl
     rw [e]; exact List.getElem_mem _)
    exact this
   have h48 : 48 ≤ s[k].toNat ∧ s[k].toNat ≤ 57 := by unfold Num.dig at hdk; exact of_decide_eq_true hdk
   obtain ⟨l48, l57⟩ := h48
   have ha : a ≤ 9999 := by
    have h := hp.out
    have := Nat.pow_le_pow_right (n := 10) (by omega) (show k ≤ 4 by omega)
    omega
   have hp' := Lib.hid (show Num.stp a s[k] + 1 ≤ 10 ^ (k + 1) by rw [Num.stp_eq, Nat.pow_succ]; have := hp.out; omega)
   have hr' := Lib.hid (show Num.val (Num.stp a s[k]) (s.data.toList.drop (k + 1)) = ans by rw [← hr.out, Num.rn_drop s k hlt, Num.val_cons])
   have hs' := Lib.hid (show 10 * (a : Int) + ((s[k].toNat : Int) - 48) = (Num.stp a s[k] : Int) by rw [Num.stp_eq]; omega)
   clear hdk hp hr
   go_wp2_with fail
   go_roundw
   case rel => exact ⟨k + 1, Num.stp a s[k], by omega, by go_num, by first | (rw [← hs'.out]; done) | (rw [← hs'.out]; rfl) | (congr 1; rw [← hs'.out]), hp', hr', by first | rfl | trivial⟩
   case measure => simp [intOf]; omega
  ·
   have hyes := Lib.hid (show a = ans by rw [← hr.out, List.drop_of_length_le (by rw [Num.rn_len]; omega)]; rfl)
   have hbd : a ≤ 99999 := by
    have h := hp.out
    have := Nat.pow_le_pow_right (n := 10) (by omega) (show k ≤ 5 by omega)
    omega
   clear hp hr
   go_wp2_with fail
   go_ret2
   exact ⟨by rw [← hyes.out]; rfl, rfl⟩
set_option maxHeartbeats 2000000 in
set_option maxRecDepth 100000 in
theorem ry4_nvaln (s : ByteArray) (c : Int) (g : Bool) (w : World) (ls : 1 ≤ (s.size : Int)) (lm : s.size ≤ 1000) (IX : (∀ W, Sem.run Tryz.prog (Instr.index 9 (.string s) (.int .i64 0)) W = .ok (.int .u8 c) W)) (hc : (c == 45) = false) (CD : Hid (∀ W, Calls Tryz.prog 97 #[.string s] W fun e w' => e = .returned (.bool g) ∧ W = w'))  (h1 : 4 < (s.size : Int)) (hx : (c == 48) = false) (h4 : ¬ (s.size : Int) < 4) (h5 : ¬ 5 < (s.size : Int)) (hg : g = true) (hs : (s.toList == [45, 48, 48, 48, 48]) = false) (hd : s.data.toList.all Num.dig = true) :
  Calls Tryz.prog 99 #[.string s] w fun e w' => e = .returned (.tuple #[.int .i64 (Num.val 0 s.data.toList : Int), .int .i64 0]) ∧ w = w' := by
 subst hg
 obtain ⟨ans, hans⟩ : ∃ ans, ans = Num.val 0 s.data.toList := ⟨_, rfl⟩
 rw [← hans]
 have HA := Lib.hid hans
 have HD := Lib.hid hd; clear hd
 clear hans
 go_enter Tryz.func99, Tryz.ntmps99
 go_wp2_with fail
 refine (CD.out _).mono ?_; rintro e w1 ⟨rfl, rfl⟩
 go_wp2_with fail
 go_loopw [5, 6] (fun n i wr => ∃ k a : Nat, k ≤ s.size ∧ i = .int .i64 k ∧ n = .int .i64 a ∧ Hid (a + 1 ≤ 10 ^ k) ∧ Hid (Num.val a (s.data.toList.drop k) = ans) ∧ wr = w) (fun _ i _ => s.size - (intOf i).toNat)
 case atStart => exact ⟨0, 0, Nat.zero_le _, rfl, rfl, Nat.le_refl 1, HA.out.symm, rfl⟩
 case round =>
  obtain ⟨k, a, hk, rfl, rfl, hp, hr, hw⟩ := hrel
  obtain rfl : w = wr := hw.symm
  by_cases hlt : k < s.size
  ·
   have hb := s[k].toNat_lt
   have hdk : Num.dig s[k] = true := by
    have h := HD.out
    have := List.all_eq_true.1 h s[k] (by
     have e : s[k] = s.data.toList[k]'(by rw [Num.rn_len]; exact hlt) := rfl
     rw [e]; exact List.getElem_mem _)
    exact this
   have h48 : 48 ≤ s[k].toNat ∧ s[k].toNat ≤ 57 := by unfold Num.dig at hdk; exact of_decide_eq_true hdk
   obtain ⟨l48, l57⟩ := h48
   have ha : a ≤ 9999 := by
    have h := hp.out
    have := Nat.pow_le_pow_right (n := 10) (by omega) (show k ≤ 4 by omega)
    omega
   have hp' := Lib.hid (show Num.stp a s[k] + 1 ≤ 10 ^ (k + 1) by rw [Num.stp_eq, Nat.pow_succ]; have := hp.out; omega)
   have hr' := Lib.hid (show Num.val (Num.stp a s[k]) (s.data.toList.drop (k + 1)) = ans by rw [← hr.out, Num.rn_drop s k hlt, Num.val_cons])
   have hs' := Lib.hid (show 10 * (a : Int) + ((s[k].toNat : Int) - 48) = (Num.stp a s[k] : Int) by rw [Num.stp_eq]; omega)
   clear hdk hp hr
   go_wp2_with fail
   go_roundw
   case rel => exact ⟨k + 1, Num.stp a s[k], by omega, by go_num, by first | (rw [← hs'.out]; done) | (rw [← hs'.out]; rfl) | (congr 1; rw [← hs'.out]), hp', hr', by first | rfl | trivial⟩
   case measure => simp [intOf]; omega
  ·
   have hyes := Lib.hid (show a = ans by rw [← hr.out, List.drop_of_length_le (by rw [Num.rn_len]; omega)]; rfl)
   have hbd : a ≤ 99999 := by
    have h := hp.out
    have := Nat.pow_le_pow_right (n := 10) (by omega) (show k ≤ 5 by omega)
    omega
   clear hp hr
   go_wp2_with fail
   go_ret2
   exact ⟨by rw [← hyes.out]; rfl, rfl⟩
end Go.Proofs.YtifgiclnofdnkaaGreatDoor
