/- The contracts of civil's functions, the leaves first: Leap, Len. -/
import Derived.Test.YtjnhaabbnbcaeaaBase
import Derived.Test.YtjnhaabbnbcaeaaCal
set_option linter.unusedVariables false
set_option linter.unusedSimpArgs false
namespace Go.Proofs.Ytjnhaabbnbcaeaa
open Go.RowKit

/-- A leap year, as a Bool. -/
def lpB (y : Int) : Bool := decide (Cal.lp y = 1)

theorem tz (y k : Int) : y.tmod k = 0 ↔ y % k = 0 := by
  rw [← Int.dvd_iff_tmod_eq_zero, ← Int.dvd_iff_emod_eq_zero]
theorem tmod_zero (y k : Int) : (y.tmod k == 0) = (y % k == 0) := by
  rw [Bool.eq_iff_iff]; simp [← Int.dvd_iff_tmod_eq_zero, ← Int.dvd_iff_emod_eq_zero]

theorem lpB_eq (y : Int) : lpB y = (y % 4 == 0 && (y % 100 != 0 || y % 400 == 0)) := by
  unfold lpB Cal.lp
  rw [Bool.eq_iff_iff]; simp
theorem lp_true {y : Int} (h : lpB y = true) : Cal.lp y = 1 := by simpa [lpB] using h
theorem lp_false {y : Int} (h : lpB y = false) : Cal.lp y = 0 := by
  have := Cal.lp_01 y; have : ¬ Cal.lp y = 1 := by simpa [lpB] using h
  omega

set_option maxHeartbeats 400000 in
theorem leap_any (y : Int) (w : World) :
    Calls Try.prog 45 #[.int .i64 y] w fun e w' => e = .returned (.bool (lpB y)) ∧ w = w' := by
  have t4 := tmod_zero y 4
  have t100 := tmod_zero y 100
  have t400 := tmod_zero y 400
  go_enter Try.func45, Try.ntmps45
  go_wp2
  all_goals go_ret
  all_goals (refine ⟨?_, rfl⟩; rw [lpB_eq])
  · have h4 : y % 4 = 0 := by assumption
    have h100 : y % 100 = 0 := (tz y 100).1 (by assumption)
    simp [h4, h100]
  · have h4 : y % 4 = 0 := by assumption
    have h100 : ¬ y % 100 = 0 := fun h => absurd ((tz y 100).2 h) (by assumption)
    simp [h4, h100]
  · have h4 : ¬ y % 4 = 0 := by assumption
    simp [h4]


set_option maxHeartbeats 400000 in
theorem len_any (y m : Int) (w : World) :
    Calls Try.prog 34 #[.int .i64 y, .int .i64 m] w fun e w' => e = .returned (.int .i64 (Cal.len y m)) ∧ w = w' := by
  by_cases h2 : m = 2
  · subst h2
    have hl : Cal.len y 2 = 28 + Cal.lp y := by simp [Cal.len]
    rw [hl]; clear hl
    go_enter Try.func34, Try.ntmps34
    go_wp2_with (go_at_call 45; refine (leap_any _ _).mono ?_; rintro e w' ⟨rfl, rfl⟩)
    · have h : lpB y = true := by assumption
      go_ret; exact ⟨ret_int (by have := lp_true h; omega), rfl⟩
    · have h : lpB y = false := by simp_all
      go_ret; exact ⟨ret_int (by have := lp_false h; omega), rfl⟩
  · by_cases h : m = 1 ∨ m = 3 ∨ m = 4 ∨ m = 5 ∨ m = 6 ∨ m = 7 ∨ m = 8 ∨ m = 9 ∨ m = 10 ∨ m = 11 ∨ m = 12
    · rcases h with rfl | rfl | rfl | rfl | rfl | rfl | rfl | rfl | rfl | rfl | rfl
      all_goals
        go_enter Try.func34, Try.ntmps34
        go_wp2
        go_ret; exact ⟨rfl, rfl⟩
    · have hl : Cal.len y m = 0 := by unfold Cal.len; rw [if_neg (by omega), if_neg (by omega), if_neg h2]
      rw [hl]; clear hl
      have b1 : ¬ m = 1 := by omega
      have b3 : ¬ m = 3 := by omega
      have b4 : ¬ m = 4 := by omega
      have b5 : ¬ m = 5 := by omega
      have b6 : ¬ m = 6 := by omega
      have b7 : ¬ m = 7 := by omega
      have b8 : ¬ m = 8 := by omega
      have b9 : ¬ m = 9 := by omega
      have b10 : ¬ m = 10 := by omega
      have b11 : ¬ m = 11 := by omega
      have b12 : ¬ m = 12 := by omega
      clear h
      go_enter Try.func34, Try.ntmps34
      go_wp2
      go_ret; exact ⟨rfl, rfl⟩
end Go.Proofs.Ytjnhaabbnbcaeaa
