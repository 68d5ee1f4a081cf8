/- The walk of CivilSteps: all cases. -/
import Derived.Test.YtcephkmdedjecaaStA
import Derived.Test.YtcephkmdedjecaaStB
import Derived.Test.YtcephkmdedjecaaStC
import Derived.Test.YtcephkmdedjecaaStD
set_option linter.unusedVariables false
set_option linter.unusedSimpArgs false
namespace Go.Proofs.Ytcephkmdedjecaa
open Go.RowKit

set_option maxHeartbeats 4000000 in
set_option maxRecDepth 100000 in
theorem steps_walk (y m d y' m' d' : Int) (w : World) :
    Calls Try.prog 8 #[.agg #[.int .i64 y, .int .i64 m, .int .i64 d], .agg #[.int .i64 y', .int .i64 m', .int .i64 d']] w fun e w' => e = .returned (.bool true) ∧ Below w.heap.size w w' := by
  by_cases hd : rightB y m d = true
  · by_cases he : rightB y' m' d' = true
    · by_cases hl : d < Cal.len y m
      · exact steps_a y m d y' m' d' w hd he hl
      · by_cases hm : m < 12
        · exact steps_b y m d y' m' d' w hd he (by omega) hm
        · by_cases hy : y < 40000
          · exact steps_c y m d y' m' d' w hd he (by omega) (by omega) hy
          · exact steps_d y m d y' m' d' w hd he (by omega) (by omega) hy
    · have he' : rightB y' m' d' = false := by simpa using he
      go_enter Try.func8, Try.ntmps8
      go_wp2_with fail
      refine (lives3 _).mono ?_; rintro e w1 ⟨rfl, b1⟩
      have S1 : Dates w w1 w.heap.size (w.heap.size + 1) (.int .i64 y) (.int .i64 m) (.int .i64 d) (.int .i64 y') (.int .i64 m') (.int .i64 d') := Dates.keep ⟨by go_grown, by omega, by omega, (by simp; omega), by simp, by simp [go_sem], by simp [go_sem], by simp [go_sem], by simp [go_sem], by simp [go_sem], by simp [go_sem], by simp [go_sem], by simp [go_sem], by simp [go_sem]⟩ b1
      have k0 := S1.k0; have k1 := S1.k1; have k2 := S1.k2
      clear b1
      go_wp2_with fail
      refine (days_yes _ _ _ _ hd).mono ?_; rintro e w2 ⟨rfl, b2⟩
      have S2 := S1.keep b2
      clear S1 b2 k0 k1 k2
      have g0 := S2.g0; have g1 := S2.g1; have g2 := S2.g2
      go_wp2_with fail
      refine (days_no _ _ _ _ he').mono ?_; rintro e w3 ⟨rfl, b3⟩
      have S3 := S2.keep b3
      clear S2 b3 g0 g1 g2
      go_wp2_with fail
      go_ret
      exact ⟨rfl, S3.bel⟩
  · have hd' : rightB y m d = false := by simpa using hd
    go_enter Try.func8, Try.ntmps8
    go_wp2_with fail
    refine (lives3 _).mono ?_; rintro e w1 ⟨rfl, b1⟩
    have S1 : Dates w w1 w.heap.size (w.heap.size + 1) (.int .i64 y) (.int .i64 m) (.int .i64 d) (.int .i64 y') (.int .i64 m') (.int .i64 d') := Dates.keep ⟨by go_grown, by omega, by omega, (by simp; omega), by simp, by simp [go_sem], by simp [go_sem], by simp [go_sem], by simp [go_sem], by simp [go_sem], by simp [go_sem], by simp [go_sem], by simp [go_sem], by simp [go_sem]⟩ b1
    have k0 := S1.k0; have k1 := S1.k1; have k2 := S1.k2
    clear b1
    go_wp2_with fail
    refine (days_no _ _ _ _ hd').mono ?_; rintro e w2 ⟨rfl, b2⟩
    have S2 := S1.keep b2
    clear S1 b2 k0 k1 k2
    have g0 := S2.g0; have g1 := S2.g1; have g2 := S2.g2
    by_cases he : rightB y' m' d' = true
    · go_wp2_with fail
      refine (days_yes _ _ _ _ he).mono ?_; rintro e w3 ⟨rfl, b3⟩
      have S3 := S2.keep b3
      clear S2 b3 g0 g1 g2
      go_wp2_with fail
      go_ret
      exact ⟨rfl, S3.bel⟩
    · have he' : rightB y' m' d' = false := by simpa using he
      go_wp2_with fail
      refine (days_no _ _ _ _ he').mono ?_; rintro e w3 ⟨rfl, b3⟩
      have S3 := S2.keep b3
      clear S2 b3 g0 g1 g2
      go_wp2_with fail
      go_ret
      exact ⟨rfl, S3.bel⟩
end Go.Proofs.Ytcephkmdedjecaa
