/- The contracts of num.Sub, and of the reference's Add and Sub, at any numbers: what fits is told, what does not is refused. -/
import Derived.Test.YtnfjdjfajkdiiaaNumG
set_option linter.unusedVariables false
set_option linter.unusedSimpArgs false
namespace Go.Proofs.Ytnfjdjfajkdiiaa
open Go.RowKit

set_option maxHeartbeats 1000000 in
theorem num_sub (a b : Int) (w : World) (a0 : -9223372036854775808 ≤ a) (a1 : a ≤ 9223372036854775807) (b0 : -9223372036854775808 ≤ b) (b1 : b ≤ 9223372036854775807) :
    Calls Try.prog 42 #[.int .i64 a, .int .i64 b] w fun e w' => e = .returned (.tuple #[.int .i64 (Nm.okv (a - b)), .int .i64 (Nm.okw (a - b))]) ∧ Below w.heap.size w w' := by
  by_cases h : -9223372036854775808 ≤ a - b ∧ a - b ≤ 9223372036854775807
  · obtain ⟨e1, e2⟩ := Nm.ok_yes h.1 h.2
    rw [e1, e2]; clear e1 e2
    obtain ⟨h0, h1⟩ := h
    by_cases hb : 0 < b
    · have c1 : decide (a < -9223372036854775808 + b) = false := by rw [decide_eq_false_iff_not]; omega
      have c3 : -9223372036854775808 + b ≤ a := by omega
      have c2 : decide (b < 0) = false := by rw [decide_eq_false_iff_not]; omega
      go_enter Try.func42, Try.ntmps42
      go_wp2
      go_ret2
      exact ⟨rfl, by go_grown⟩
    · have hb' : decide (0 < b) = false := by simpa using hb
      by_cases hn : b < 0
      · have c1 : decide (9223372036854775807 + b < a) = false := by rw [decide_eq_false_iff_not]; omega
        have c3 : a ≤ 9223372036854775807 + b := by omega
        go_enter Try.func42, Try.ntmps42
        go_wp2
        go_ret2
        exact ⟨rfl, by go_grown⟩
      · have hn' : decide (b < 0) = false := by simpa using hn
        go_enter Try.func42, Try.ntmps42
        go_wp2
        go_ret2
        exact ⟨rfl, by go_grown⟩
  · obtain ⟨e1, e2⟩ := Nm.ok_no (n := a - b) (by omega)
    rw [e1, e2]; clear e1 e2
    by_cases hb : 0 < b
    · have c1 : a < -9223372036854775808 + b := by omega
      have c2 : decide (b < 0) = false := by rw [decide_eq_false_iff_not]; omega
      clear h
      go_enter Try.func42, Try.ntmps42
      go_wp2
      go_ret2
      exact ⟨rfl, by go_grown⟩
    · have hb' : decide (0 < b) = false := by simpa using hb
      have hn : b < 0 := by omega
      have c1 : 9223372036854775807 + b < a := by omega
      clear h
      go_enter Try.func42, Try.ntmps42
      go_wp2
      go_ret2
      exact ⟨rfl, by go_grown⟩
set_option maxHeartbeats 1000000 in
theorem noontideref01_sub (a b : Int) (w : World) (a0 : -9223372036854775808 ≤ a) (a1 : a ≤ 9223372036854775807) (b0 : -9223372036854775808 ≤ b) (b1 : b ≤ 9223372036854775807) :
    Calls Try.prog 48 #[.int .i64 a, .int .i64 b] w fun e w' => e = .returned (.tuple #[.int .i64 (Nm.okv (a - b)), .int .i64 (Nm.okw (a - b))]) ∧ Below w.heap.size w w' := by
  by_cases h : -9223372036854775808 ≤ a - b ∧ a - b ≤ 9223372036854775807
  · obtain ⟨e1, e2⟩ := Nm.ok_yes h.1 h.2
    rw [e1, e2]; clear e1 e2
    obtain ⟨h0, h1⟩ := h
    by_cases hb : 0 < b
    · have c1 : decide (a < -9223372036854775808 + b) = false := by rw [decide_eq_false_iff_not]; omega
      have c3 : -9223372036854775808 + b ≤ a := by omega
      have c2 : decide (b < 0) = false := by rw [decide_eq_false_iff_not]; omega
      go_enter Try.func48, Try.ntmps48
      go_wp2
      go_ret2
      exact ⟨rfl, by go_grown⟩
    · have hb' : decide (0 < b) = false := by simpa using hb
      by_cases hn : b < 0
      · have c1 : decide (9223372036854775807 + b < a) = false := by rw [decide_eq_false_iff_not]; omega
        have c3 : a ≤ 9223372036854775807 + b := by omega
        go_enter Try.func48, Try.ntmps48
        go_wp2
        go_ret2
        exact ⟨rfl, by go_grown⟩
      · have hn' : decide (b < 0) = false := by simpa using hn
        go_enter Try.func48, Try.ntmps48
        go_wp2
        go_ret2
        exact ⟨rfl, by go_grown⟩
  · obtain ⟨e1, e2⟩ := Nm.ok_no (n := a - b) (by omega)
    rw [e1, e2]; clear e1 e2
    by_cases hb : 0 < b
    · have c1 : a < -9223372036854775808 + b := by omega
      have c2 : decide (b < 0) = false := by rw [decide_eq_false_iff_not]; omega
      clear h
      go_enter Try.func48, Try.ntmps48
      go_wp2
      go_ret2
      exact ⟨rfl, by go_grown⟩
    · have hb' : decide (0 < b) = false := by simpa using hb
      have hn : b < 0 := by omega
      have c1 : 9223372036854775807 + b < a := by omega
      clear h
      go_enter Try.func48, Try.ntmps48
      go_wp2
      go_ret2
      exact ⟨rfl, by go_grown⟩
set_option maxHeartbeats 1000000 in
theorem ref_add (a b : Int) (w : World) (a0 : -9223372036854775808 ≤ a) (a1 : a ≤ 9223372036854775807) (b0 : -9223372036854775808 ≤ b) (b1 : b ≤ 9223372036854775807) :
    Calls Try.prog 32 #[.int .i64 a, .int .i64 b] w fun e w' => e = .returned (.tuple #[.int .i64 (Nm.okv (a + b)), .int .i64 (Nm.okw (a + b))]) ∧ Below w.heap.size w w' := by
  by_cases h : -9223372036854775808 ≤ a + b ∧ a + b ≤ 9223372036854775807
  · obtain ⟨e1, e2⟩ := Nm.ok_yes h.1 h.2
    rw [e1, e2]; clear e1 e2
    obtain ⟨h0, h1⟩ := h
    by_cases hb : 0 < b
    · have c1 : a ≤ 9223372036854775807 - b := by omega
      have c2 : ¬ b < 0 := by omega
      go_enter Try.func32, Try.ntmps32
      go_wp2
      go_ret2
      exact ⟨rfl, by go_grown⟩
    · have hb' : decide (0 < b) = false := by simpa using hb
      by_cases hn : b < 0
      · have c1 : -9223372036854775808 - b ≤ a := by omega
        go_enter Try.func32, Try.ntmps32
        go_wp2
        go_ret2
        exact ⟨rfl, by go_grown⟩
      · have hn' : decide (b < 0) = false := by simpa using hn
        go_enter Try.func32, Try.ntmps32
        go_wp2
        go_ret2
        exact ⟨rfl, by go_grown⟩
  · obtain ⟨e1, e2⟩ := Nm.ok_no (n := a + b) (by omega)
    rw [e1, e2]; clear e1 e2
    by_cases hb : 0 < b
    · have c1 : 9223372036854775807 - b < a := by omega
      clear h
      go_enter Try.func32, Try.ntmps32
      go_wp2
      go_ret2
      exact ⟨rfl, by go_grown⟩
    · have hb' : decide (0 < b) = false := by simpa using hb
      have hn : b < 0 := by omega
      have c1 : a < -9223372036854775808 - b := by omega
      clear h
      go_enter Try.func32, Try.ntmps32
      go_wp2
      go_ret2
      exact ⟨rfl, by go_grown⟩
end Go.Proofs.Ytnfjdjfajkdiiaa

