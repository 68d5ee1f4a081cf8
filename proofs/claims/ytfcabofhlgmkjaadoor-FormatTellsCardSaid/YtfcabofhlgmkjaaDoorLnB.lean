/- Lines: the contracts of Check, the program's and the reference's. -/
import Derived.Test.YtfcabofhlgmkjaaDoorLnA
import Derived.Test.YtfcabofhlgmkjaaDoorRnD
set_option linter.unusedVariables false
set_option linter.unusedSimpArgs false
namespace Go.Proofs.YtfcabofhlgmkjaaDoor
open Go.RowKit

set_option maxHeartbeats 2000000 in
theorem lcheck_any (s : ByteArray) (w : World) (hs : s.size ≤ maxLen) :
    Calls Tryd.prog 41 #[.string s] w fun e w' => e = .returned (.int .i64 (Ln.chk s.data.toList)) ∧ Below w.heap.size w w' := by
  unfold maxLen at hs
  unfold Ln.chk
  rw [ab_len]
  by_cases h : 511 < s.size
  · rw [if_pos h]
    have h1 : 511 < (s.size : Int) := by omega
    clear h
    go_enter Tryd.func41, Tryd.ntmps41
    go_wp2_with fail
    go_ret
    exact ⟨rfl, Below.refl _ _⟩
  · rw [if_neg h]
    have h1 : ¬ 511 < (s.size : Int) := by omega
    have C := Lib.hid (fun W => containsWrong s W)
    generalize s.data.toList.all Ln.okB = b at C ⊢
    clear h
    cases b
    · go_enter Tryd.func41, Tryd.ntmps41
      go_wp2_with fail
      refine (C.out _).mono ?_; rintro e w1 ⟨rfl, b1⟩
      go_wp2_with fail
      go_ret
      exact ⟨rfl, b1⟩
    · go_enter Tryd.func41, Tryd.ntmps41
      go_wp2_with fail
      refine (C.out _).mono ?_; rintro e w1 ⟨rfl, b1⟩
      go_wp2_with fail
      go_ret
      exact ⟨rfl, b1⟩
set_option maxHeartbeats 4000000 in
set_option maxRecDepth 100000 in
theorem rlcheck_any (s : ByteArray) (w : World) (hs : s.size ≤ maxLen) :
    Calls Tryd.prog 42 #[.string s] w fun e w' => e = .returned (.int .i64 (Ln.chk s.data.toList)) ∧ Below w.heap.size w w' := by
  unfold maxLen at hs
  unfold Ln.chk
  rw [ab_len]
  by_cases h : 511 < s.size
  · rw [if_pos h]
    have h1 : 511 < (s.size : Int) := by omega
    clear h
    go_enter Tryd.func42, Tryd.ntmps42
    go_wp2_with fail
    go_ret
    exact ⟨rfl, Below.refl _ _⟩
  · rw [if_neg h]
    have h1 : ¬ 511 < (s.size : Int) := by omega
    clear h
    obtain ⟨b, hb⟩ : ∃ b, b = s.data.toList.all Ln.okB := ⟨_, rfl⟩
    rw [← hb]
    have HB := Lib.hid hb; clear hb
    obtain ⟨ans, hans⟩ : ∃ a : Int, a = (if b = true then 0 else 7) := ⟨_, rfl⟩
    rw [← hans]
    have HA := Lib.hid hans; clear hans
    go_enter Tryd.func42, Tryd.ntmps42
    go_wp2_with fail
    go_loopw [3] (fun i wr => ∃ k : Nat, k ≤ s.size ∧ i = .int .i64 k ∧ Hid ((s.data.toList.drop k).all Ln.okB = b) ∧ Hid (Below w.heap.size w wr)) (fun i _ => s.size - (intOf i).toNat)
    case atStart => exact ⟨0, Nat.zero_le _, rfl, HB.out.symm, Below.refl _ _⟩
    case round =>
      obtain ⟨k, hk, rfl, hr, hbw⟩ := hrel
      by_cases hlt : k < s.size
      · have IX := fun W => rn_ix s k hlt W
        have hn : (Ln.okB s[k] && (s.data.toList.drop (k + 1)).all Ln.okB) = b := by rw [← hr.out, ab_drop s k hlt]; rfl
        have hc := s[k].toNat_lt
        unfold Ln.okB at hn
        obtain ⟨c, hce⟩ : ∃ c : Nat, c = s[k].toNat := ⟨_, rfl⟩
        rw [← hce] at IX hn hc
        clear hce
        by_cases c9 : c = 9
        · have HY := Lib.hid (show (s.data.toList.drop (k + 1)).all Ln.okB = b by rw [← hn, decide_eq_true c9]; rfl)
          subst c9
          have IX : ∀ W, Sem.run Tryd.prog (Instr.index 9 (.string s) (.int .i64 (k : Int))) W = .ok (.int .u8 9) W := IX
          clear hn
          go_wp2_with fail
          go_roundw
          case rel => exact ⟨k + 1, by omega, by go_num, HY, hbw⟩
          case measure => simp [intOf]; omega
        · have g9 : ((c : Int) == 9) = false := by rw [beq_eq_false_iff_ne]; omega
          have n9 : ((c : Int) != 9) = true := by unfold bne; rw [g9]; rfl
          by_cases c32 : c < 32
          · have e := Lib.hid (show b = false by rw [← hn, decide_eq_false c9, decide_eq_false (by omega)]; rfl)
            have g : decide ((c : Int) < 32) = true := decide_eq_true (by omega)
            have g' : (c : Int) < 32 := by omega
            clear hn c9
            go_wp2_with fail
            go_ret
            refine ⟨by rw [HA.out, e.out]; rfl, ?_⟩
            exact hbw.out
          · have g : decide ((c : Int) < 32) = false := decide_eq_false (by omega)
            by_cases c126 : 126 < c
            · have e := Lib.hid (show b = false by rw [← hn, decide_eq_false c9, decide_eq_false (show ¬ c ≤ 126 by omega)]; simp)
              have g2 : 126 < (c : Int) := by omega
              clear hn c9
              go_wp2_with fail
              go_ret
              refine ⟨by rw [HA.out, e.out]; rfl, ?_⟩
              exact hbw.out
            · have HY := Lib.hid (show (s.data.toList.drop (k + 1)).all Ln.okB = b by rw [← hn, decide_eq_false c9, decide_eq_true (show 32 ≤ c by omega), decide_eq_true (show c ≤ 126 by omega)]; rfl)
              have g2 : decide (126 < (c : Int)) = false := decide_eq_false (by omega)
              clear hn c9
              go_wp2_with fail
              go_roundw
              case rel => exact ⟨k + 1, by omega, by go_num, HY, hbw⟩
              case measure => simp [intOf]; omega
      · have hyes := Lib.hid (show b = true by rw [← hr.out, List.drop_of_length_le (by rw [ab_len]; omega)]; rfl)
        go_wp2_with fail
        go_ret
        exact ⟨by rw [HA.out, hyes.out]; rfl, hbw.out⟩
end Go.Proofs.YtfcabofhlgmkjaaDoor

