/- num's answers at the numbers that noontidelaw01.lives asks for. -/
import Derived.Test.YtafnnnbefabofaaDoorNumA
import Derived.Test.YtafnnnbefabofaaDoorDiv
set_option linter.unusedVariables false
set_option linter.unusedSimpArgs false
namespace Go.Proofs.YtafnnnbefabofaaDoor
open Go.RowKit

theorem div_b (a b : Int) (w : World) (ha : -9223372036854775808 ≤ a) (ha' : a ≤ 9223372036854775807) (hb : 1 ≤ b) (hb' : b ≤ 1000000) :
    Calls Tryd.prog 29 #[.int .i64 a, .int .i64 b] w fun e w' => e = .returned (.tuple #[.int .i64 (a / b), .int .i64 (a % b), .int .i64 0]) ∧ Below w.heap.size w w' :=
  (div_pos a b w ha ha' hb hb').mono fun _ _ ⟨h, n, e⟩ => ⟨h, by rw [e]; exact below_draw _ _⟩
set_option maxHeartbeats 1000000 in
theorem div_c1 (w : World) : Calls Tryd.prog 29 #[.int .i64 7, .int .i64 (-2)] w fun e w' => e = .returned (.tuple #[.int .i64 (-4), .int .i64 (-1), .int .i64 0]) ∧ Below w.heap.size w w' := by
  go_enter Tryd.func29, Tryd.ntmps29
  go_wp2
  go_quiet (fail)
  go_wp2
  go_ret3
  exact ⟨rfl, by first | exact Below.refl _ _ | exact below_draw _ _⟩
set_option maxHeartbeats 1000000 in
theorem div_c2 (w : World) : Calls Tryd.prog 29 #[.int .i64 (-9223372036854775808), .int .i64 (-1)] w fun e w' => e = .returned (.tuple #[.int .i64 0, .int .i64 0, .int .i64 1]) ∧ Below w.heap.size w w' := by
  go_enter Tryd.func29, Tryd.ntmps29
  go_wp2
  go_ret3
  exact ⟨rfl, by first | exact Below.refl _ _ | exact below_draw _ _⟩
set_option maxHeartbeats 1000000 in
theorem div_c3 (w : World) : Calls Tryd.prog 29 #[.int .i64 1, .int .i64 0] w fun e w' => e = .returned (.tuple #[.int .i64 0, .int .i64 0, .int .i64 1]) ∧ Below w.heap.size w w' := by
  go_enter Tryd.func29, Tryd.ntmps29
  go_wp2
  go_ret3
  exact ⟨rfl, by first | exact Below.refl _ _ | exact below_draw _ _⟩
set_option maxHeartbeats 1000000 in
theorem add_c1 (w : World) : Calls Tryd.prog 23 #[.int .i64 2, .int .i64 3] w fun e w' => e = .returned (.tuple #[.int .i64 5, .int .i64 0]) ∧ Below w.heap.size w w' := by
  go_enter Tryd.func23, Tryd.ntmps23
  go_wp2
  go_ret2
  exact ⟨rfl, by first | exact Below.refl _ _ | exact below_draw _ _⟩
set_option maxHeartbeats 1000000 in
theorem add_c2 (w : World) : Calls Tryd.prog 23 #[.int .i64 9223372036854775807, .int .i64 1] w fun e w' => e = .returned (.tuple #[.int .i64 0, .int .i64 1]) ∧ Below w.heap.size w w' := by
  go_enter Tryd.func23, Tryd.ntmps23
  go_wp2
  go_ret2
  exact ⟨rfl, by first | exact Below.refl _ _ | exact below_draw _ _⟩
set_option maxHeartbeats 1000000 in
theorem sub_c1 (w : World) : Calls Tryd.prog 25 #[.int .i64 2, .int .i64 3] w fun e w' => e = .returned (.tuple #[.int .i64 (-1), .int .i64 0]) ∧ Below w.heap.size w w' := by
  go_enter Tryd.func25, Tryd.ntmps25
  go_wp2
  go_ret2
  exact ⟨rfl, by first | exact Below.refl _ _ | exact below_draw _ _⟩
set_option maxHeartbeats 1000000 in
theorem sub_c2 (w : World) : Calls Tryd.prog 25 #[.int .i64 (-9223372036854775808), .int .i64 1] w fun e w' => e = .returned (.tuple #[.int .i64 0, .int .i64 1]) ∧ Below w.heap.size w w' := by
  go_enter Tryd.func25, Tryd.ntmps25
  go_wp2
  go_ret2
  exact ⟨rfl, by first | exact Below.refl _ _ | exact below_draw _ _⟩
set_option maxHeartbeats 1000000 in
theorem mul_c1 (w : World) : Calls Tryd.prog 27 #[.int .i64 (-3), .int .i64 4] w fun e w' => e = .returned (.tuple #[.int .i64 (-12), .int .i64 0]) ∧ Below w.heap.size w w' := by
  go_enter Tryd.func27, Tryd.ntmps27
  go_wp2
  go_ret2
  exact ⟨rfl, by first | exact Below.refl _ _ | exact below_draw _ _⟩
set_option maxHeartbeats 1000000 in
theorem mul_c2 (w : World) : Calls Tryd.prog 27 #[.int .i64 (-9223372036854775808), .int .i64 (-1)] w fun e w' => e = .returned (.tuple #[.int .i64 0, .int .i64 1]) ∧ Below w.heap.size w w' := by
  go_enter Tryd.func27, Tryd.ntmps27
  go_wp2
  go_ret2
  exact ⟨rfl, by first | exact Below.refl _ _ | exact below_draw _ _⟩
set_option maxHeartbeats 1000000 in
theorem clamp_c1 (w : World) : Calls Tryd.prog 35 #[.int .i64 5, .int .i64 1, .int .i64 3] w fun e w' => e = .returned (.int .i64 3) ∧ Below w.heap.size w w' := by
  go_enter Tryd.func35, Tryd.ntmps35
  go_wp2
  go_ret
  exact ⟨rfl, by first | exact Below.refl _ _ | exact below_draw _ _⟩
set_option maxHeartbeats 1000000 in
theorem clamp_c2 (w : World) : Calls Tryd.prog 35 #[.int .i64 5, .int .i64 7, .int .i64 3] w fun e w' => e = .returned (.int .i64 7) ∧ Below w.heap.size w w' := by
  go_enter Tryd.func35, Tryd.ntmps35
  go_wp2
  go_ret
  exact ⟨rfl, by first | exact Below.refl _ _ | exact below_draw _ _⟩
set_option maxHeartbeats 1000000 in
theorem clamp_c3 (w : World) : Calls Tryd.prog 35 #[.int .i64 2, .int .i64 1, .int .i64 3] w fun e w' => e = .returned (.int .i64 2) ∧ Below w.heap.size w w' := by
  go_enter Tryd.func35, Tryd.ntmps35
  go_wp2
  go_ret
  exact ⟨rfl, by first | exact Below.refl _ _ | exact below_draw _ _⟩
end Go.Proofs.YtafnnnbefabofaaDoor
