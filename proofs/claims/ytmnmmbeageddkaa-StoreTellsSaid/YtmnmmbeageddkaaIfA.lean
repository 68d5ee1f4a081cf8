/- Infos: whether one may come just behind another one. -/
import Derived.Test.YtmnmmbeageddkaaIfL
set_option linter.unusedVariables false
set_option linter.unusedSimpArgs false
namespace Go.Proofs.Ytmnmmbeageddkaa
open Go.RowKit Go.Sort

theorem str_ne {A B : ByteArray} (h : ¬ A = B) : ¬ A.toList = B.toList := fun e => h (by
  rw [ByteArray.toList_eq, ByteArray.toList_eq] at e
  exact ByteArray.ext (Array.toList_inj.1 e))
namespace If
def sm (a b : I) : Bool := decide (a.2.1 < b.1) || (a.2.1 == b.1 && !decide (a.2.2 = b.2.2))
end If
set_option maxRecDepth 100000 in
set_option maxHeartbeats 2000000 in
theorem seam_is (a0 a1 a2 a3 : Int) (a4 : ByteArray) (b0 b1 b2 b3 : Int) (b4 : ByteArray) (w : World) :
    Calls Try.prog 53 #[.agg #[.int .i64 a0, .int .i64 a1, .int .i64 a2, .int .i64 a3, .string a4], .agg #[.int .i64 b0, .int .i64 b1, .int .i64 b2, .int .i64 b3, .string b4]] w fun e w' => e = .returned (.bool (If.sm (a0, a1, a2, a3, a4) (b0, b1, b2, b3, b4))) ∧ Below w.heap.size w w' := by
  by_cases h : a1 < b0
  · have e : If.sm (a0, a1, a2, a3, a4) (b0, b1, b2, b3, b4) = true := by unfold If.sm; simp [h]
    rw [e]
    clear e
    go_enter Try.func53, Try.ntmps53
    go_wp2
    go_ret
    exact ⟨rfl, by go_grown⟩
  by_cases h2 : a1 = b0
  · subst h2
    by_cases h3 : a2 = b2
    · subst h3
      by_cases h4 : a3 = b3
      · subst h4
        by_cases h5 : a4 = b4
        · subst h5
          have e : If.sm (a0, a1, a2, a3, a4) (a1, b1, a2, a3, a4) = false := by unfold If.sm; simp
          rw [e]
          clear e
          go_enter Try.func53, Try.ntmps53
          go_wp2
          go_ret
          exact ⟨rfl, by go_grown⟩

        · have e : If.sm (a0, a1, a2, a3, a4) (a1, b1, a2, a3, b4) = true := by unfold If.sm; simp [h5]
          rw [e]
          have n1 := str_ne h5
          have n2 : (a4.toList == b4.toList) = false := by rw [beq_eq_false_iff_ne]; exact n1
          clear e
          go_enter Try.func53, Try.ntmps53
          go_wp2
          go_ret
          exact ⟨rfl, by go_grown⟩

      · have e : If.sm (a0, a1, a2, a3, a4) (a1, b1, a2, b3, b4) = true := by unfold If.sm; simp [h4]
        rw [e]
        have n2 : (a3 == b3) = false := by rw [beq_eq_false_iff_ne]; exact h4
        clear e
        go_enter Try.func53, Try.ntmps53
        go_wp2
        go_ret
        exact ⟨rfl, by go_grown⟩

    · have e : If.sm (a0, a1, a2, a3, a4) (a1, b1, b2, b3, b4) = true := by unfold If.sm; simp [h3]
      rw [e]
      have n2 : (a2 == b2) = false := by rw [beq_eq_false_iff_ne]; exact h3
      clear e
      go_enter Try.func53, Try.ntmps53
      go_wp2
      go_ret
      exact ⟨rfl, by go_grown⟩

  · have e : If.sm (a0, a1, a2, a3, a4) (b0, b1, b2, b3, b4) = false := by unfold If.sm; simp [h, h2]
    rw [e]
    have n2 : (a1 == b0) = false := by rw [beq_eq_false_iff_ne]; exact h2
    clear e
    go_enter Try.func53, Try.ntmps53
    go_wp2
    go_ret
    exact ⟨rfl, by go_grown⟩
end Go.Proofs.Ytmnmmbeageddkaa
