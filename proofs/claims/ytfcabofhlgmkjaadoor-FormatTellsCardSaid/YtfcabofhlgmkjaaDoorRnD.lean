/- The contract of the reference's Digits, and of its Read. -/
import Derived.Test.YtfcabofhlgmkjaaDoorByt
import Derived.Test.YtfcabofhlgmkjaaDoorRnM
set_option linter.unusedVariables false
set_option linter.unusedSimpArgs false
namespace Go.Proofs.YtfcabofhlgmkjaaDoor
open Go.RowKit

theorem rn_ix (a : ByteArray) (k : Nat) (h : k < a.size) (w : World) : Sem.run Tryd.prog (Instr.index 9 (.string a) (.int .i64 (k : Int))) w = .ok (.int .u8 a[k].toNat) w := by
  rw [run_index_string w _ _ _ _ Tryd.underlying9, dif_pos ⟨by omega, by omega⟩]
  simp
theorem rn_cut (s : ByteArray) (a : Nat) (ha : a ≤ s.size) (w : World) : Sem.run Tryd.prog (Instr.slice 9 (.string s) (some (.int .i64 (a : Int))) none none) w = .ok (.string (s.extract a s.size)) w := by
  rw [run_slice_string_l w 9 s Tryd.underlying9 .i64 _ (by omega) (by omega)]
  simp
namespace Num
/-- Digits alone, one at least. -/
def dgs (l : List UInt8) : Bool := l.all dig && !l.isEmpty
end Num
set_option maxHeartbeats 2000000 in
set_option maxRecDepth 100000 in
theorem rdigs_nil (w : World) :
    Calls Tryd.prog 73 #[.string ⟨#[]⟩] w fun e w' => e = .returned (.bool false) ∧ w = w' := by
  go_enter Tryd.func73, Tryd.ntmps73
  go_wp2_with fail
  refine wp_loop_rounds 1 ?_
  rw [rounds_succ]
  go_wp2_with fail
  go_ret
  exact ⟨rfl, rfl⟩
set_option maxHeartbeats 2000000 in
set_option maxRecDepth 100000 in
theorem rdigs_ne (s : ByteArray) (w : World) (hz : 0 < s.size) (hs : s.size ≤ maxLen) :
    Calls Tryd.prog 73 #[.string s] w fun e w' => e = .returned (.bool (s.data.toList.all Num.dig)) ∧ w = w' := by
  unfold maxLen at hs
  obtain ⟨hn1, hn2⟩ := dne hz
  obtain ⟨ans, hans⟩ : ∃ ans, ans = s.data.toList.all Num.dig := ⟨_, rfl⟩
  rw [← hans]
  have HA := Lib.hid hans; clear hans
  go_enter Tryd.func73, Tryd.ntmps73
  go_wp2_with fail
  go_loopw [3] (fun i wr => ∃ k : Nat, k ≤ s.size ∧ i = .int .i64 k ∧ Hid ((s.data.toList.drop k).all Num.dig = ans) ∧ wr = w) (fun i _ => s.size - (intOf i).toNat)
  case atStart => exact ⟨0, Nat.zero_le _, rfl, HA.out.symm, rfl⟩
  case round =>
    obtain ⟨k, hk, rfl, hr, hw⟩ := hrel
    obtain rfl : w = wr := hw.symm
    by_cases hlt : k < s.size
    · have hb := s[k].toNat_lt
      have hd := Num.rn_dig s[k]
      have hn : (Num.dig s[k] && (s.data.toList.drop (k + 1)).all Num.dig) = ans := by rw [← hr.out, Num.rn_drop s k hlt]; rfl
      by_cases c1 : (s[k].toNat : Int) < 48
      · have hno := Lib.hid (show ans = false by rw [← hn, hd, decide_eq_false (by omega)]; rfl)
        clear hn hd
        go_wp2_with fail
        go_ret
        exact ⟨by rw [hno.out]; rfl, rfl⟩
      · by_cases c2 : 57 < (s[k].toNat : Int)
        · have hno := Lib.hid (show ans = false by rw [← hn, hd, decide_eq_false (show ¬ (s[k].toNat : Int) ≤ 57 by omega)]; simp)
          clear hn hd
          go_wp2_with fail
          go_ret
          exact ⟨by rw [hno.out]; rfl, rfl⟩
        · have hyes := Lib.hid (show (s.data.toList.drop (k + 1)).all Num.dig = ans by rw [← hn, hd, decide_eq_true (show 48 ≤ (s[k].toNat : Int) by omega), decide_eq_true (show (s[k].toNat : Int) ≤ 57 by omega)]; rfl)
          clear hn hd
          go_wp2_with fail
          go_roundw
          case rel => exact ⟨k + 1, by omega, by go_num, hyes, by first | rfl | trivial⟩
          case measure => simp [intOf]; omega
    · have hyes := Lib.hid (show ans = true by rw [← hr.out, List.drop_of_length_le (by rw [Num.rn_len]; omega)]; rfl)
      go_wp2_with fail
      go_ret
      exact ⟨by rw [hyes.out]; rfl, rfl⟩
theorem rdigs_any (s : ByteArray) (w : World) (hs : s.size ≤ maxLen) :
    Calls Tryd.prog 73 #[.string s] w fun e w' => e = .returned (.bool (Num.dgs s.data.toList)) ∧ w = w' := by
  rcases Nat.eq_zero_or_pos s.size with hz | hz
  · have hl : s.data.toList = [] := by rw [← List.length_eq_zero_iff, Num.rn_len]; exact hz
    have e : s = ⟨#[]⟩ := by apply ByteArray.ext; apply Array.toList_inj.1; rw [hl]
    rw [e]
    exact rdigs_nil w
  · have hl : s.data.toList.isEmpty = false := by
      cases h : s.data.toList with
      | nil => have := Num.rn_len s; rw [h] at this; simp at this; omega
      | cons c r => rfl
    have e : Num.dgs s.data.toList = s.data.toList.all Num.dig := by unfold Num.dgs; rw [hl]; simp
    rw [e]
    exact rdigs_ne s w hz hs
end Go.Proofs.YtfcabofhlgmkjaaDoor

