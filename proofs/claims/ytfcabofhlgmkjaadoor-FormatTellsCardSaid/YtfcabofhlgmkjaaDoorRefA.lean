/- The contracts of the reference's functions: Div, Floor, Rest, Leap, Len, leaps, Ahead, Weekday. -/
import Derived.Test.YtfcabofhlgmkjaaDoorCivC
set_option linter.unusedVariables false
set_option linter.unusedSimpArgs false
namespace Go.Proofs.YtfcabofhlgmkjaaDoor
open Go.RowKit

set_option maxHeartbeats 400000 in
theorem rdiv_pos (a b : Int) (w : World) (ha : -9223372036854775808 ≤ a) (ha' : a ≤ 9223372036854775807) (hb : 1 ≤ b) (hb' : b ≤ 1000000) :
    Calls Tryd.prog 77 #[.int .i64 a, .int .i64 b] w fun e w' => e = .returned (.tuple #[.int .i64 (a / b), .int .i64 (a % b), .int .i64 0]) ∧ ∃ n, w' = w.drewN n := by
  have hb0 : (b == 0) = false := by simp; omega
  have hb1 : (b == -1) = false := by simp; omega
  have hm0 : 0 ≤ a % b := Int.emod_nonneg a (by omega)
  have hm1 : a % b < b := Int.emod_lt_of_pos a (by omega)
  by_cases hs : 0 ≤ a
  · have ht : (!(decide (a % b < 0) == decide (b < 0))) = false := by
      rw [decide_eq_false (by omega), decide_eq_false (by omega)]; rfl
    go_enter Tryd.func77, Tryd.ntmps77
    go_wp2
    all_goals (go_ret3; refine ⟨?_, 0, rfl⟩; first | rfl | simp [*])
  · by_cases hr : a % b = 0
    · obtain ⟨e1, e2⟩ := tdiv_lo hb (by omega) hr
      obtain ⟨hq0, hq1⟩ := ediv_ge ha (by omega) hb
      obtain ⟨c, hc⟩ : ∃ c, (a == -9223372036854775808) = c := ⟨_, rfl⟩
      go_enter Tryd.func77, Tryd.ntmps77
      go_wp2
      all_goals (go_ret3; refine ⟨?_, 0, rfl⟩; first | rfl | simp [*])
    · obtain ⟨e1, e2⟩ := tdiv_mid hb (by omega) hr
      obtain ⟨c, hc⟩ : ∃ c, (a == -9223372036854775808) = c := ⟨_, rfl⟩
      have hm2 : 1 ≤ a % b := by omega
      obtain ⟨hq0, hq1⟩ := ediv_ge ha (by omega) hb
      have ht : (!(decide (a % b - b < 0) == decide (b < 0))) = true := by
        rw [decide_eq_true (by omega), decide_eq_false (by omega)]; rfl
      have hn : (a % b - b != 0) = true := by rw [bne_iff_ne]; omega
      go_enter Tryd.func77, Tryd.ntmps77
      go_wp2
      all_goals (go_ret3; refine ⟨?_, 0, rfl⟩; first | rfl | (simp [*]; done) | (simp [*]; omega))

set_option maxHeartbeats 400000 in
theorem floor_pos (a b : Int) (w : World) (ha : -9223372036854775808 ≤ a) (ha' : a ≤ 9223372036854775807) (hb : 1 ≤ b) (hb' : b ≤ 1000000) :
    Calls Tryd.prog 31 #[.int .i64 a, .int .i64 b] w fun e w' => e = .returned (.int .i64 (a / b)) ∧ ∃ n, w' = w.drewN n := by
  go_enter Tryd.func31, Tryd.ntmps31
  go_wp2_with (go_at_call 77; refine (rdiv_pos _ _ _ ha ha' hb hb').mono ?_; rintro e w' ⟨rfl, k, rfl⟩)
  go_ret
  exact ⟨rfl, _, rfl⟩
set_option maxHeartbeats 400000 in
theorem rest_pos (a b : Int) (w : World) (ha : -9223372036854775808 ≤ a) (ha' : a ≤ 9223372036854775807) (hb : 1 ≤ b) (hb' : b ≤ 1000000) :
    Calls Tryd.prog 32 #[.int .i64 a, .int .i64 b] w fun e w' => e = .returned (.int .i64 (a % b)) ∧ ∃ n, w' = w.drewN n := by
  go_enter Tryd.func32, Tryd.ntmps32
  go_wp2_with (go_at_call 77; refine (rdiv_pos _ _ _ ha ha' hb hb').mono ?_; rintro e w' ⟨rfl, k, rfl⟩)
  go_ret
  exact ⟨rfl, _, rfl⟩

set_option maxHeartbeats 400000 in
theorem rweekday_any (n : Int) (w : World) (ha : -9223372036854775808 ≤ n) (ha' : n ≤ 9223372036854775807) :
    Calls Tryd.prog 118 #[.int .i64 n] w fun e w' => e = .returned (.int .i64 ((n + 4) % 7)) ∧ ∃ k, w' = w.drewN k := by
  have h0 : 0 ≤ n % 7 := by omega
  have h1 : n % 7 < 7 := by omega
  go_enter Tryd.func118, Tryd.ntmps118
  go_wp2_with (go_at_call 32; refine (rest_pos _ _ _ ha ha' (by omega) (by omega)).mono ?_; rintro e w' ⟨rfl, k, rfl⟩)
  go_ret
  exact ⟨ret_int (by omega), _, rfl⟩

set_option maxHeartbeats 400000 in
theorem rleap_any (y : Int) (w : World) :
    Calls Tryd.prog 156 #[.int .i64 y] w fun e w' => e = .returned (.bool (lpB y)) ∧ w = w' := by
  have t4 := tmod_zero y 4
  have t100 := tmod_zero y 100
  have t400 := tmod_zero y 400
  go_enter Tryd.func156, Tryd.ntmps156
  go_wp2
  all_goals go_ret
  all_goals (refine ⟨?_, rfl⟩; rw [lpB_eq])
  · have h4 : y % 4 = 0 := by assumption
    have h100 : y % 100 = 0 := (tz y 100).1 (by assumption)
    simp [h4, h100]
  · have h4 : y % 4 = 0 := by assumption
    have h100 : ¬ y % 100 = 0 := fun h => absurd ((tz y 100).2 h) (by assumption)
    simp [h4, h100]
  · have h4 : ¬ y % 4 = 0 := by assumption
    have h400 : ¬ y % 400 = 0 := by omega
    rw [show (y % 4 == 0) = false by simpa using h4, show (y % 400 == 0) = false by simpa using h400]; rfl

set_option maxHeartbeats 400000 in
theorem leaps_any (y : Int) (w : World) (h0 : -1000000 ≤ y) (h1 : y ≤ 1000000) :
    Calls Tryd.prog 155 #[.int .i64 y] w fun e w' => e = .returned (.int .i64 (y / 4 - y / 100 + y / 400)) ∧ ∃ k, w' = w.drewN k := by
  have a0 : -250000 ≤ y / 4 := by omega
  have a1 : y / 4 ≤ 250000 := by omega
  have b0 : -10000 ≤ y / 100 := by omega
  have b1 : y / 100 ≤ 10000 := by omega
  have c0 : -2500 ≤ y / 400 := by omega
  have c1 : y / 400 ≤ 2500 := by omega
  go_enter Tryd.func155, Tryd.ntmps155
  go_wp2_with (go_at_call 31; refine (floor_pos _ _ _ (by omega) (by omega) (by omega) (by omega)).mono ?_; rintro e w' ⟨rfl, k, rfl⟩)
  go_ret
  exact ⟨rfl, _, rfl⟩

set_option maxHeartbeats 400000 in
theorem ahead_any (y : Int) (w : World) (h0 : -100000 ≤ y) (h1 : y ≤ 100000) :
    Calls Tryd.prog 117 #[.int .i64 y] w fun e w' => e = .returned (.int .i64 (Cal.ahead y)) ∧ ∃ k, w' = w.drewN k := by
  have a0 : -26000 ≤ (y - 1) / 4 := by omega
  have a1 : (y - 1) / 4 ≤ 26000 := by omega
  have b0 : -1100 ≤ (y - 1) / 100 := by omega
  have b1 : (y - 1) / 100 ≤ 1100 := by omega
  have c0 : -300 ≤ (y - 1) / 400 := by omega
  have c1 : (y - 1) / 400 ≤ 300 := by omega
  go_enter Tryd.func117, Tryd.ntmps117
  go_wp2_with fail
  refine (leaps_any _ _ (by omega) (by omega)).mono ?_; rintro e w1 ⟨rfl, k1, rfl⟩
  go_wp2_with fail
  refine (leaps_any 1969 _ (by omega) (by omega)).mono ?_; rintro e w1 ⟨rfl, k2, rfl⟩
  rw [show (1969 : Int) / 4 - 1969 / 100 + 1969 / 400 = 477 by decide]
  go_wp2_with fail
  go_ret
  exact ⟨rfl, _, rfl⟩
end Go.Proofs.YtfcabofhlgmkjaaDoor
