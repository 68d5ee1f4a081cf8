/- The contract of num.Div where the divisor is above 0: rounded down. -/
import Derived.Test.YtjnhaabbnbcaeaaBase
set_option linter.unusedVariables false
set_option linter.unusedSimpArgs false
namespace Go.Proofs.Ytjnhaabbnbcaeaa
open Go.RowKit

theorem tdiv_lo {a b : Int} (hb : 1 ≤ b) (hs : a < 0) (hr : a % b = 0) : a.tdiv b = a / b ∧ a.tmod b = 0 := by
  have h : b ∣ a := Int.dvd_of_emod_eq_zero hr
  exact ⟨Int.tdiv_eq_ediv_of_dvd h, Int.tmod_eq_zero_of_dvd h⟩
theorem tdiv_mid {a b : Int} (hb : 1 ≤ b) (hs : a < 0) (hr : ¬ a % b = 0) : a.tdiv b = a / b + 1 ∧ a.tmod b = a % b - b := by
  have h1 : a.tdiv b = a / b + 1 := by
    rw [Int.tdiv_eq_ediv]
    have : ¬ (0 ≤ a ∨ b ∣ a) := by
      rintro (h | h)
      · omega
      · exact hr (Int.emod_eq_zero_of_dvd h)
    rw [if_neg this, Int.sign_eq_one_of_pos (by omega)]
  refine ⟨h1, ?_⟩
  have e1 := Int.tmod_def a b
  have e2 := Int.emod_def a b
  rw [h1] at e1
  rw [e1, e2, Int.mul_add]; omega

theorem ediv_ge {a b : Int} (ha : -9223372036854775808 ≤ a) (hs : a < 0) (hb : 1 ≤ b) : -9223372036854775808 ≤ a / b ∧ a / b < 0 := by
  refine ⟨?_, Int.ediv_neg_of_neg_of_pos hs (by omega)⟩
  have : a ≤ a / b := by
    rw [Int.le_ediv_iff_mul_le (by omega)]
    have h2 := Int.mul_le_mul_of_nonpos_left (a := a) (b := b) (c := 1) (by omega) hb
    omega
  omega

set_option maxHeartbeats 400000 in
theorem div_pos (a b : Int) (w : World) (ha : -9223372036854775808 ≤ a) (ha' : a ≤ 9223372036854775807) (hb : 1 ≤ b) (hb' : b ≤ 1000000) :
    Calls Try.prog 49 #[.int .i64 a, .int .i64 b] w fun e w' => e = .returned (.tuple #[.int .i64 (a / b), .int .i64 (a % b), .int .i64 0]) ∧ ∃ n, w' = w.drewN n := by
  have hb0 : (b == 0) = false := by simp; omega
  have hb1 : (b == -1) = false := by simp; omega
  have hm0 : 0 ≤ a % b := Int.emod_nonneg a (by omega)
  have hm1 : a % b < b := Int.emod_lt_of_pos a (by omega)
  have hq0 : 0 ≤ a → 0 ≤ a / b := fun h => Int.ediv_nonneg h (by omega)
  by_cases hs : 0 ≤ a
  · have ht : (!(decide (a % b < 0) == decide (b < 0))) = false := by
      rw [decide_eq_false (by omega), decide_eq_false (by omega)]; rfl
    clear hq0
    go_enter Try.func49, Try.ntmps49
    go_wp2
    all_goals (go_quiet (fail))
    all_goals (go_wp2)
    all_goals (go_ret3; refine ⟨?_, _, rfl⟩; first | rfl | simp [*])
  · clear hq0
    by_cases hr : a % b = 0
    · obtain ⟨e1, e2⟩ := tdiv_lo hb (by omega) hr
      obtain ⟨hq0, hq1⟩ := ediv_ge ha (by omega) hb
      obtain ⟨c, hc⟩ : ∃ c, (a == -9223372036854775808) = c := ⟨_, rfl⟩
      go_enter Try.func49, Try.ntmps49
      go_wp2
      all_goals (go_quiet (fail))
      all_goals (go_wp2)
      all_goals (go_ret3; refine ⟨?_, _, rfl⟩; first | rfl | simp [*])
    · obtain ⟨e1, e2⟩ := tdiv_mid hb (by omega) hr
      obtain ⟨c, hc⟩ : ∃ c, (a == -9223372036854775808) = c := ⟨_, rfl⟩
      have hm2 : 1 ≤ a % b := by omega
      obtain ⟨hq0, hq1⟩ := ediv_ge ha (by omega) hb
      have ht : (!(decide (a % b - b < 0) == decide (b < 0))) = true := by
        rw [decide_eq_true (by omega), decide_eq_false (by omega)]; rfl
      have hn : (a % b - b != 0) = true := by rw [bne_iff_ne]; omega
      go_enter Try.func49, Try.ntmps49
      go_wp2
      all_goals (go_quiet (fail))
      all_goals (go_wp2)
      all_goals (go_ret3; refine ⟨?_, _, rfl⟩; first | rfl | (simp [*]; omega))
end Go.Proofs.Ytjnhaabbnbcaeaa
