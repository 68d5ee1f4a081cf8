/- Words: the contracts of small, begins and Same, the program's and the reference's. -/
import Derived.Test.YtafnnnbefabofaaDoorWdM
import Derived.Test.YtafnnnbefabofaaDoorBase
import Derived.Deep.QuietTactic
set_option linter.unusedVariables false
set_option linter.unusedSimpArgs false
namespace Go.Proofs.YtafnnnbefabofaaDoor
open Go.RowKit

theorem blen (a : ByteArray) : a.data.toList.length = a.size := Array.length_toList
theorem bget {a : ByteArray} {k : Nat} (h : k < a.size) : a.data.toList[k]'(by rw [blen]; exact h) = a[k] := rfl
set_option maxHeartbeats 1000000 in
theorem small_any (b : UInt8) (w : World) : Calls Tryd.prog 213 #[.int .u8 b.toNat] w fun e w' => e = .returned (.int .u8 (Wd.sm b)) ∧ w = w' := by
  have hb := b.toNat_lt
  obtain ⟨n, hn⟩ : ∃ n : Int, n = b.toNat := ⟨_, rfl⟩
  have E : Wd.sm b = if 65 ≤ n ∧ n ≤ 90 then n + 32 else n := by unfold Wd.sm; rw [hn]
  rw [E, ← hn]
  have n0 : 0 ≤ n := by omega
  have n1 : n < 256 := by omega
  clear E hn hb
  by_cases c1 : 65 ≤ n
  · by_cases c2 : n ≤ 90
    · rw [if_pos ⟨c1, c2⟩]
      go_enter Tryd.func213, Tryd.ntmps213
      go_wp2
      go_ret
      exact ⟨by first | rfl | (show Ending.returned (.int .u8 (n - 65 + 97)) = _; rw [show n - 65 + 97 = n + 32 by omega]), rfl⟩
    · rw [if_neg (fun h => c2 h.2)]
      have g : decide (n ≤ 90) = false := decide_eq_false c2
      go_enter Tryd.func213, Tryd.ntmps213
      go_wp2
      go_ret
      exact ⟨rfl, rfl⟩
  · rw [if_neg (fun h => c1 h.1)]
    have g : decide (65 ≤ n) = false := decide_eq_false c1
    go_enter Tryd.func213, Tryd.ntmps213
    go_wp2
    go_ret
    exact ⟨rfl, rfl⟩
theorem at_index (a : ByteArray) (k : Nat) (h : k < a.size) (w : World) : Sem.run Tryd.prog (Instr.index 9 (.string a) (.int .i64 (k : Int))) w = .ok (.int .u8 a[k].toNat) w := by
  rw [run_index_string w _ _ _ _ Tryd.underlying9, dif_pos ⟨by omega, by omega⟩]
  simp
set_option maxHeartbeats 2000000 in
set_option maxRecDepth 100000 in
theorem begins_any (a b : ByteArray) (w : World) (ha : a.size ≤ maxLen) (hb : b.size ≤ maxLen) :
    Calls Tryd.prog 189 #[.string a, .string b] w fun e w' => e = .returned (.bool (Wd.beg a.data.toList b.data.toList)) ∧ ∃ k, w' = w.drewN k := by
  unfold maxLen at ha hb
  by_cases hs : (a.size : Int) < (b.size : Int)
  · rw [Wd.beg_short (by rw [blen, blen]; omega)]
    go_enter Tryd.func189, Tryd.ntmps189
    go_wp2
    go_ret
    exact ⟨rfl, 0, rfl⟩
  · obtain ⟨ans, hans⟩ : ∃ ans, ans = Wd.beg a.data.toList b.data.toList := ⟨_, rfl⟩
    rw [← hans]
    have HA := Lib.hid hans; clear hans
    go_enter Tryd.func189, Tryd.ntmps189
    go_wp2_with fail
    go_loopw [13] (fun i wr => ∃ k j : Nat, k ≤ b.size ∧ i = .int .i64 k ∧ (∀ i (h1 : i < a.data.toList.length) (h2 : i < b.data.toList.length), i < k → Wd.sm a.data.toList[i] = Wd.sm b.data.toList[i]) ∧ wr = w.drewN j) (fun i _ => b.size - (intOf i).toNat)
    case atStart => exact ⟨0, 0, Nat.zero_le _, rfl, fun i _ _ h => absurd h (Nat.not_lt_zero _), rfl⟩
    case round =>
      obtain ⟨k, j, hk, rfl, hall, hw⟩ := hrel
      have HL := Lib.hid hall; have HW := Lib.hid hw; clear hall hw
      by_cases hlt : k < b.size
      · have hlta : k < a.size := by omega
        by_cases he : Wd.sm a[k] = Wd.sm b[k]
        · have HE := Lib.hid he
          have g : (Wd.sm a[k] == Wd.sm b[k]) = true := by rw [beq_iff_eq]; exact he
          clear he
          go_wp2_with fail
          go_quiet ((go_at_call 213; exact Calls.quiet_of_same ((small_any _ _).mono fun _ _ ⟨h1, h2⟩ => ⟨h1, h2.symm⟩)))
          go_wp2_with fail
          go_roundw
          case rel =>
            refine ⟨k + 1, _, by omega, by go_num, ?_, by rw [HW.out, World.drewN_drewN]⟩
            intro i h1 h2 h3
            by_cases hik : i = k
            · subst hik; exact HE.out
            · exact HL.out i h1 h2 (by omega)
          case measure => simp [intOf]; omega
        · have g : (Wd.sm a[k] == Wd.sm b[k]) = false := by rw [beq_eq_false_iff_ne]; exact he
          have hno : ans = false := by
            rw [HA.out]
            exact Wd.beg_no (i := k) (by rw [blen]; exact hlta) (by rw [blen]; exact hlt) (by rw [bget hlta, bget hlt]; exact he)
          have HN := Lib.hid hno
          clear hno he
          go_wp2_with fail
          go_quiet ((go_at_call 213; exact Calls.quiet_of_same ((small_any _ _).mono fun _ _ ⟨h1, h2⟩ => ⟨h1, h2.symm⟩)))
          go_wp2_with fail
          go_ret
          exact ⟨by rw [HN.out]; rfl, _, by rw [HW.out, World.drewN_drewN]⟩
      · have hyes : ans = true := by
          rw [HA.out]
          exact Wd.beg_yes (by rw [blen, blen]; omega) (fun i h1 h2 => HL.out i h1 h2 (by rw [blen] at h2; omega))
        have HY := Lib.hid hyes; clear hyes
        go_wp2_with fail
        go_ret
        exact ⟨by rw [HY.out]; rfl, _, HW.out⟩
set_option maxHeartbeats 1000000 in
theorem wsame_any (a b : ByteArray) (w : World) (ha : a.size ≤ maxLen) (hb : b.size ≤ maxLen) :
    Calls Tryd.prog 188 #[.string a, .string b] w fun e w' => e = .returned (.bool (Wd.same a.data.toList b.data.toList)) ∧ ∃ k, w' = w.drewN k := by
  have C := Lib.hid (fun w => begins_any a b w ha hb)
  have E := Lib.hid (show Wd.same a.data.toList b.data.toList = (decide (a.size = b.size) && Wd.beg a.data.toList b.data.toList) by unfold Wd.same; rw [blen, blen])
  generalize Wd.same a.data.toList b.data.toList = ans at E
  generalize Wd.beg a.data.toList b.data.toList = bg at C E
  by_cases hs : a.size = b.size
  · have g : ((a.size : Int) == (b.size : Int)) = true := by rw [beq_iff_eq]; omega
    have E2 := Lib.hid (show ans = bg by rw [E.out, hs]; simp)
    clear E hs
    go_enter Tryd.func188, Tryd.ntmps188
    go_wp2_with fail
    refine (C.out _).mono ?_; rintro e w1 ⟨rfl, k, rfl⟩
    go_wp2_with fail
    go_ret
    exact ⟨by rw [E2.out]; rfl, k, rfl⟩
  · have g : ((a.size : Int) == (b.size : Int)) = false := by rw [beq_eq_false_iff_ne]; omega
    have E2 := Lib.hid (show ans = false by rw [E.out, decide_eq_false hs]; rfl)
    clear E hs
    go_enter Tryd.func188, Tryd.ntmps188
    go_wp2_with fail
    go_ret
    exact ⟨by rw [E2.out]; rfl, 0, rfl⟩
end Go.Proofs.YtafnnnbefabofaaDoor
