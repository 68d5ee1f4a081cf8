/- Times of day: which may be. -/
import Derived.Test.YtjnhaabbnbcaeaaBase
set_option linter.unusedVariables false
set_option linter.unusedSimpArgs false
namespace Go.Proofs.Ytjnhaabbnbcaeaa
open Go.RowKit

namespace Cl
def rB (n b : Int) : Bool := decide (0 ≤ n) && (decide (n ≤ 172800) && (decide (0 ≤ b) && decide (b < 3)))
end Cl
set_option maxHeartbeats 4000000 in
set_option maxRecDepth 100000 in
theorem clright_0 (n b : Int) (w : World) (c1 : ¬ 0 ≤ n) : Calls Try.prog 21 #[.agg #[.int .i64 n, .int .i64 b]] w fun e w' => e = .returned (.bool false) ∧ Below w.heap.size w w' := by
  go_enter Try.func21, Try.ntmps21
  go_wp2_with fail
  go_ret
  exact ⟨rfl, (by repeat (first | exact Below.refl _ _ | refine below_drewN ?_ _ | refine Below.drew ?_ | refine Below.setCell ?_ (by first | (simp; done) | (simp; omega) | omega) _ | refine Below.alloc ?_ (by first | (simp; done) | (simp; omega) | omega) _))⟩
set_option maxHeartbeats 4000000 in
set_option maxRecDepth 100000 in
theorem clright_1 (n b : Int) (w : World) (c1 : 0 ≤ n) (c2 : ¬ n ≤ 172800) : Calls Try.prog 21 #[.agg #[.int .i64 n, .int .i64 b]] w fun e w' => e = .returned (.bool false) ∧ Below w.heap.size w w' := by
  go_enter Try.func21, Try.ntmps21
  go_wp2_with fail
  go_ret
  exact ⟨rfl, (by repeat (first | exact Below.refl _ _ | refine below_drewN ?_ _ | refine Below.drew ?_ | refine Below.setCell ?_ (by first | (simp; done) | (simp; omega) | omega) _ | refine Below.alloc ?_ (by first | (simp; done) | (simp; omega) | omega) _))⟩
set_option maxHeartbeats 4000000 in
set_option maxRecDepth 100000 in
theorem clright_2 (n b : Int) (w : World) (c1 : 0 ≤ n) (c2 : n ≤ 172800) (c3 : ¬ 0 ≤ b) : Calls Try.prog 21 #[.agg #[.int .i64 n, .int .i64 b]] w fun e w' => e = .returned (.bool false) ∧ Below w.heap.size w w' := by
  go_enter Try.func21, Try.ntmps21
  go_wp2_with fail
  go_ret
  exact ⟨rfl, (by repeat (first | exact Below.refl _ _ | refine below_drewN ?_ _ | refine Below.drew ?_ | refine Below.setCell ?_ (by first | (simp; done) | (simp; omega) | omega) _ | refine Below.alloc ?_ (by first | (simp; done) | (simp; omega) | omega) _))⟩
set_option maxHeartbeats 4000000 in
set_option maxRecDepth 100000 in
theorem clright_3 (n b : Int) (w : World) (c1 : 0 ≤ n) (c2 : n ≤ 172800) (c3 : 0 ≤ b) (c4 : ¬ b < 3) : Calls Try.prog 21 #[.agg #[.int .i64 n, .int .i64 b]] w fun e w' => e = .returned (.bool false) ∧ Below w.heap.size w w' := by
  go_enter Try.func21, Try.ntmps21
  go_wp2_with fail
  go_ret
  exact ⟨rfl, (by repeat (first | exact Below.refl _ _ | refine below_drewN ?_ _ | refine Below.drew ?_ | refine Below.setCell ?_ (by first | (simp; done) | (simp; omega) | omega) _ | refine Below.alloc ?_ (by first | (simp; done) | (simp; omega) | omega) _))⟩
set_option maxHeartbeats 4000000 in
set_option maxRecDepth 100000 in
theorem clright_4 (n b : Int) (w : World) (c1 : 0 ≤ n) (c2 : n ≤ 172800) (c3 : 0 ≤ b) (c4 : b < 3) : Calls Try.prog 21 #[.agg #[.int .i64 n, .int .i64 b]] w fun e w' => e = .returned (.bool true) ∧ Below w.heap.size w w' := by
  go_enter Try.func21, Try.ntmps21
  go_wp2_with fail
  go_ret
  exact ⟨rfl, (by repeat (first | exact Below.refl _ _ | refine below_drewN ?_ _ | refine Below.drew ?_ | refine Below.setCell ?_ (by first | (simp; done) | (simp; omega) | omega) _ | refine Below.alloc ?_ (by first | (simp; done) | (simp; omega) | omega) _))⟩
theorem clright_any (n b : Int) (w : World) : Calls Try.prog 21 #[.agg #[.int .i64 n, .int .i64 b]] w fun e w' => e = .returned (.bool (Cl.rB n b)) ∧ Below w.heap.size w w' := by
  by_cases c1 : 0 ≤ n
  · by_cases c2 : n ≤ 172800
    · by_cases c3 : 0 ≤ b
      · by_cases c4 : b < 3
        · rw [show Cl.rB n b = true by unfold Cl.rB; simp [c1, c2, c3, c4]]; exact clright_4 n b w c1 c2 c3 c4
        · rw [show Cl.rB n b = false by unfold Cl.rB; simp [c1, c2, c3, c4]]; exact clright_3 n b w c1 c2 c3 c4
      · rw [show Cl.rB n b = false by unfold Cl.rB; simp [c1, c2, c3]]; exact clright_2 n b w c1 c2 c3
    · rw [show Cl.rB n b = false by unfold Cl.rB; simp [c1, c2]]; exact clright_1 n b w c1 c2
  · rw [show Cl.rB n b = false by unfold Cl.rB; simp [c1]]; exact clright_0 n b w c1
end Go.Proofs.Ytjnhaabbnbcaeaa
