/- Stamps that are read: digits, and what they mean. -/
import Derived.Test.YtfcabofhlgmkjaaDoorNumA
import Derived.Deep.QuietTactic
set_option linter.unusedVariables false
set_option linter.unusedSimpArgs false
namespace Go.Proofs.YtfcabofhlgmkjaaDoor
open Go.RowKit

theorem bl_len (a : ByteArray) : a.data.toList.length = a.size := Array.length_toList
theorem bl_drop (a : ByteArray) (k : Nat) (h : k < a.size) : a.data.toList.drop k = a[k] :: a.data.toList.drop (k + 1) := by
  rw [List.drop_eq_getElem_cons (by rw [bl_len]; exact h)]
  rfl
theorem dig_b (c : UInt8) : Num.dig c = (decide (48 ≤ (c.toNat : Int)) && decide ((c.toNat : Int) ≤ 57)) := by
  unfold Num.dig
  by_cases h1 : 48 ≤ c.toNat <;> by_cases h2 : c.toNat ≤ 57 <;> simp [h1, h2] <;> omega
set_option maxHeartbeats 2000000 in
set_option maxRecDepth 100000 in
theorem sdig_any (s : ByteArray) (w : World) (hs : s.size ≤ maxLen) :
    Calls Tryd.prog 123 #[.string s] w fun e w' => e = .returned (.bool (s.data.toList.all Num.dig)) ∧ w = w' := by
  unfold maxLen at hs
  obtain ⟨ans, hans⟩ : ∃ ans, ans = s.data.toList.all Num.dig := ⟨_, rfl⟩
  rw [← hans]
  have HA := Lib.hid hans; clear hans
  go_enter Tryd.func123, Tryd.ntmps123
  go_wp2_with fail
  go_loopw [6] (fun i wr => ∃ k : Nat, k ≤ s.size ∧ i = .int .i64 k ∧ Hid ((s.data.toList.drop k).all Num.dig = ans) ∧ wr = w) (fun i _ => s.size - (intOf i).toNat)
  case atStart => exact ⟨0, Nat.zero_le _, rfl, HA.out.symm, rfl⟩
  case round =>
    obtain ⟨k, hk, rfl, hr, hw⟩ := hrel
    obtain rfl : w = wr := hw.symm
    by_cases hlt : k < s.size
    · have hb := s[k].toNat_lt
      have hd := dig_b s[k]
      have hn : (Num.dig s[k] && (s.data.toList.drop (k + 1)).all Num.dig) = ans := by rw [← hr.out, bl_drop s k hlt]; rfl
      by_cases c1 : (s[k].toNat : Int) < 48
      · have hno := Lib.hid (show ans = false by rw [← hn, hd, decide_eq_false (by omega)]; rfl)
        clear hn hd
        go_wp2_with fail
        go_ret
        exact ⟨by rw [hno.out]; rfl, rfl⟩
      · by_cases c2 : 57 < (s[k].toNat : Int)
        · have hno := Lib.hid (show ans = false by rw [← hn, hd, decide_eq_false (show ¬ (s[k].toNat : Int) ≤ 57 by omega)]; simp)
          clear hn hd
          go_wp2_with fail
          go_ret
          exact ⟨by rw [hno.out]; rfl, rfl⟩
        · have hyes := Lib.hid (show (s.data.toList.drop (k + 1)).all Num.dig = ans by rw [← hn, hd, decide_eq_true (show 48 ≤ (s[k].toNat : Int) by omega), decide_eq_true (show (s[k].toNat : Int) ≤ 57 by omega)]; rfl)
          clear hn hd
          go_wp2_with fail
          go_roundw
          case rel => exact ⟨k + 1, by omega, by go_num, hyes, by first | rfl | trivial⟩
          case measure => simp [intOf]; omega
    · have hyes := Lib.hid (show ans = true by rw [← hr.out, List.drop_of_length_le (by rw [bl_len]; omega)]; rfl)
      go_wp2_with fail
      go_ret
      exact ⟨by rw [hyes.out]; rfl, rfl⟩
set_option maxHeartbeats 2000000 in
set_option maxRecDepth 100000 in
theorem sval_any (s : ByteArray) (w : World) (hs : s.size ≤ 5) (hd : s.data.toList.all Num.dig = true) :
    Calls Tryd.prog 124 #[.string s] w fun e w' => e = .returned (.int .i64 (Num.val 0 s.data.toList)) ∧ w = w' := by
  obtain ⟨ans, hans⟩ : ∃ ans, ans = Num.val 0 s.data.toList := ⟨_, rfl⟩
  rw [← hans]
  have HA := Lib.hid hans; clear hans
  have HD := Lib.hid hd; clear hd
  go_enter Tryd.func124, Tryd.ntmps124
  go_wp2_with fail
  go_loopw [3, 7] (fun n i wr => ∃ k a : Nat, k ≤ s.size ∧ i = .int .i64 k ∧ n = .int .i64 a ∧ Hid (a + 1 ≤ 10 ^ k) ∧ Hid (Num.val a (s.data.toList.drop k) = ans) ∧ wr = w) (fun _ i _ => s.size - (intOf i).toNat)
  case atStart => exact ⟨0, 0, Nat.zero_le _, rfl, rfl, Nat.le_refl 1, HA.out.symm, rfl⟩
  case round =>
    obtain ⟨k, a, hk, rfl, rfl, hp, hr, hw⟩ := hrel
    obtain rfl : w = wr := hw.symm
    by_cases hlt : k < s.size
    · have hb := s[k].toNat_lt
      have hdk : Num.dig s[k] = true := by
        have h := HD.out
        have := List.all_eq_true.1 h s[k] (by
          have e : s[k] = s.data.toList[k]'(by rw [bl_len]; exact hlt) := rfl
          rw [e]; exact List.getElem_mem _)
        exact this
      have h48 : 48 ≤ s[k].toNat ∧ s[k].toNat ≤ 57 := by unfold Num.dig at hdk; exact of_decide_eq_true hdk
      obtain ⟨l48, l57⟩ := h48
      have ha : a ≤ 99999 := by
        have h := hp.out
        have := Nat.pow_le_pow_right (n := 10) (by omega) (show k ≤ 5 by omega)
        omega
      have hp' := Lib.hid (show Num.stp a s[k] + 1 ≤ 10 ^ (k + 1) by rw [Num.stp_eq, Nat.pow_succ]; have := hp.out; omega)
      have hr' := Lib.hid (show Num.val (Num.stp a s[k]) (s.data.toList.drop (k + 1)) = ans by rw [← hr.out, bl_drop s k hlt, Num.val_cons])
      have hs' := Lib.hid (show (a : Int) * 10 + ((s[k].toNat : Int) - 48) = (Num.stp a s[k] : Int) by rw [Num.stp_eq]; omega)
      clear hdk hp hr
      go_wp2_with fail
      go_roundw
      case rel => exact ⟨k + 1, Num.stp a s[k], by omega, by go_num, by first | (rw [← hs'.out]; done) | (rw [← hs'.out]; rfl) | (congr 1; rw [← hs'.out]), hp', hr', by first | rfl | trivial⟩
      case measure => simp [intOf]; omega
    · have hyes := Lib.hid (show a = ans by rw [← hr.out, List.drop_of_length_le (by rw [bl_len]; omega)]; rfl)
      go_wp2_with fail
      go_ret
      exact ⟨by rw [hyes.out]; rfl, rfl⟩
end Go.Proofs.YtfcabofhlgmkjaaDoor
