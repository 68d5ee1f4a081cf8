/- The contracts of num.Add and num.Sub at any numbers: what fits is told, what does not is refused. -/
import Derived.Test.YtnfjdjfajkdiiaaBk
set_option linter.unusedVariables false
set_option linter.unusedSimpArgs false
namespace Go.Proofs.Ytnfjdjfajkdiiaa
open Go.RowKit

namespace Nm
def fits (n : Int) : Bool := decide (-9223372036854775808 ≤ n ∧ n ≤ 9223372036854775807)
def okv (n : Int) : Int := if fits n then n else 0
def okw (n : Int) : Int := if fits n then 0 else 1
theorem fits_true {n : Int} : fits n = true ↔ -9223372036854775808 ≤ n ∧ n ≤ 9223372036854775807 := by unfold fits; simp
theorem ok_yes {n : Int} (h0 : -9223372036854775808 ≤ n) (h1 : n ≤ 9223372036854775807) : okv n = n ∧ okw n = 0 := by
  unfold okv okw; rw [fits_true.2 ⟨h0, h1⟩]; exact ⟨rfl, rfl⟩
theorem ok_no {n : Int} (h : n < -9223372036854775808 ∨ 9223372036854775807 < n) : okv n = 0 ∧ okw n = 1 := by
  have : fits n = false := by
    cases hf : fits n
    · rfl
    · have := fits_true.1 hf; omega
  unfold okv okw; rw [this]; exact ⟨rfl, rfl⟩
end Nm
set_option maxHeartbeats 1000000 in
theorem nadd_any (a b : Int) (w : World) (a0 : -9223372036854775808 ≤ a) (a1 : a ≤ 9223372036854775807) (b0 : -9223372036854775808 ≤ b) (b1 : b ≤ 9223372036854775807) :
    Calls Try.prog 30 #[.int .i64 a, .int .i64 b] w fun e w' => e = .returned (.tuple #[.int .i64 (Nm.okv (a + b)), .int .i64 (Nm.okw (a + b))]) ∧ ∃ n, w' = w.drewN n := by
  by_cases h : -9223372036854775808 ≤ a + b ∧ a + b ≤ 9223372036854775807
  · obtain ⟨e1, e2⟩ := Nm.ok_yes h.1 h.2
    rw [e1, e2]; clear e1 e2
    obtain ⟨h0, h1⟩ := h
    by_cases hb : 0 < b
    · have c1 : a ≤ 9223372036854775807 - b := by omega
      have c2 : ¬ b < 0 := by omega
      go_enter Try.func30, Try.ntmps30
      go_wp2
      go_ret2
      exact ⟨rfl, 0, rfl⟩
    · have hb' : decide (0 < b) = false := by simpa using hb
      by_cases hn : b < 0
      · have c1 : -9223372036854775808 - b ≤ a := by omega
        go_enter Try.func30, Try.ntmps30
        go_wp2
        go_ret2
        exact ⟨rfl, 0, rfl⟩
      · have hn' : decide (b < 0) = false := by simpa using hn
        go_enter Try.func30, Try.ntmps30
        go_wp2
        go_ret2
        exact ⟨rfl, 0, rfl⟩
  · obtain ⟨e1, e2⟩ := Nm.ok_no (n := a + b) (by omega)
    rw [e1, e2]; clear e1 e2
    by_cases hb : 0 < b
    · have c1 : 9223372036854775807 - b < a := by omega
      clear h
      go_enter Try.func30, Try.ntmps30
      go_wp2
      go_ret2
      exact ⟨rfl, 0, rfl⟩
    · have hb' : decide (0 < b) = false := by simpa using hb
      have hn : b < 0 := by omega
      have c1 : a < -9223372036854775808 - b := by omega
      clear h
      go_enter Try.func30, Try.ntmps30
      go_wp2
      go_ret2
      exact ⟨rfl, 0, rfl⟩
theorem nadd_b (a b : Int) (w : World) (a0 : -9223372036854775808 ≤ a) (a1 : a ≤ 9223372036854775807) (b0 : -9223372036854775808 ≤ b) (b1 : b ≤ 9223372036854775807) :
    Calls Try.prog 30 #[.int .i64 a, .int .i64 b] w fun e w' => e = .returned (.tuple #[.int .i64 (Nm.okv (a + b)), .int .i64 (Nm.okw (a + b))]) ∧ Below w.heap.size w w' :=
  (nadd_any a b w a0 a1 b0 b1).mono fun _ _ ⟨h, n, e⟩ => ⟨h, by rw [e]; exact below_draw _ _⟩
end Go.Proofs.Ytnfjdjfajkdiiaa
