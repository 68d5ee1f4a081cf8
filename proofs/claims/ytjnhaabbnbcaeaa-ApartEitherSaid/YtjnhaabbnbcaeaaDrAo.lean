/- The contracts of dayrule's functions: isDay, isWeekday, Right. -/
import Derived.Test.YtjnhaabbnbcaeaaCivA
import Derived.Test.YtjnhaabbnbcaeaaDrM
import Derived.Test.YtjnhaabbnbcaeaaOne
set_option linter.unusedVariables false
set_option linter.unusedSimpArgs false
namespace Go.Proofs.Ytjnhaabbnbcaeaa
open Go.RowKit

theorem bool_br {p : Prop} [Decidable p] {b : Bool} (h : p ↔ b = true) : Ending.returned (.bool b) = .returned (.bool (decide p)) := by
  congr 2; rw [Bool.eq_iff_iff]; simp [h]

set_option maxHeartbeats 400000 in
theorem isDay_any (d : Int) (w : World) : Calls Try.prog 46 #[.int .i64 d] w fun e w' => e = .returned (.bool (Dr.dayB d)) ∧ w = w' := by
  unfold Dr.dayB
  by_cases h1 : 1 ≤ d
  · go_enter Try.func46, Try.ntmps46
    go_wp2
    go_ret
    refine ⟨?_, rfl⟩; exact bool_br (by simp [h1])
  · have hd : decide (1 ≤ d) = false := by simpa using h1
    go_enter Try.func46, Try.ntmps46
    go_wp2
    go_ret
    refine ⟨?_, rfl⟩
    rfl
set_option maxHeartbeats 400000 in
theorem isWeek_any (d : Int) (w : World) : Calls Try.prog 47 #[.int .i64 d] w fun e w' => e = .returned (.bool (Dr.wkB d)) ∧ w = w' := by
  unfold Dr.wkB
  by_cases h1 : 0 ≤ d
  · go_enter Try.func47, Try.ntmps47
    go_wp2
    go_ret
    refine ⟨?_, rfl⟩; exact bool_br (by simp [h1]; omega)
  · have hd : decide (0 ≤ d) = false := by simpa using h1
    go_enter Try.func47, Try.ntmps47
    go_wp2
    go_ret
    refine ⟨?_, rfl⟩
    rfl

theorem on_br {k w d : Int} {b : Bool} (h : (Dr.onR k w d = true) ↔ b = true) : Ending.returned (.bool b) = .returned (.bool (Dr.onR k w d)) := by
  congr 2; rw [Bool.eq_iff_iff, h]

set_option maxHeartbeats 1000000 in
theorem oright_any (k wk d : Int) (w : World) :
    Calls Try.prog 35 #[.agg #[.int .i64 k, .int .i64 wk, .int .i64 d]] w fun e w' => e = .returned (.bool (Dr.onR k wk d)) ∧ Below w.heap.size w w' := by
  by_cases h0 : k = 0
  · subst h0
    by_cases hw : wk = 0
    · subst hw
      go_enter Try.func35, Try.ntmps35
      go_wp2_with (first
        | (go_at_call 46; refine (isDay_any _ _).mono ?_; rintro e w1 ⟨rfl, rfl⟩)
        | (go_at_call 47; refine (isWeek_any _ _).mono ?_; rintro e w1 ⟨rfl, rfl⟩))
      go_ret
      refine ⟨?_, by go_grown⟩; exact on_br (by rw [Dr.onR_true]; simp [Dr.dayB])
    · have hw' : (wk == 0) = false := by simpa using hw
      go_enter Try.func35, Try.ntmps35
      go_wp2_with (first
        | (go_at_call 46; refine (isDay_any _ _).mono ?_; rintro e w1 ⟨rfl, rfl⟩)
        | (go_at_call 47; refine (isWeek_any _ _).mono ?_; rintro e w1 ⟨rfl, rfl⟩))
      go_ret
      refine ⟨?_, by go_grown⟩; exact on_br (by rw [Dr.onR_true]; simp [hw])
  · by_cases h1 : k = 1
    · subst h1
      clear h0
      cases hw : Dr.wkB wk
      · go_enter Try.func35, Try.ntmps35
        go_wp2_with (first
          | (go_at_call 46; refine (isDay_any _ _).mono ?_; rintro e w1 ⟨rfl, rfl⟩)
          | (go_at_call 47; refine (isWeek_any _ _).mono ?_; rintro e w1 ⟨rfl, rfl⟩))
        go_ret
        refine ⟨?_, by go_grown⟩; exact on_br (by rw [Dr.onR_true]; simp [Dr.wkB] at hw; simp; omega)
      · go_enter Try.func35, Try.ntmps35
        go_wp2_with (first
          | (go_at_call 46; refine (isDay_any _ _).mono ?_; rintro e w1 ⟨rfl, rfl⟩)
          | (go_at_call 47; refine (isWeek_any _ _).mono ?_; rintro e w1 ⟨rfl, rfl⟩))
        go_ret
        refine ⟨?_, by go_grown⟩; exact on_br (by rw [Dr.onR_true]; simp [Dr.wkB] at hw; simp; omega)
    · by_cases h2 : k = 2 ∨ k = 3
      · rcases h2 with rfl | rfl
        all_goals
          clear h0 h1
          cases hw : Dr.wkB wk
          · go_enter Try.func35, Try.ntmps35
            go_wp2_with (first
              | (go_at_call 46; refine (isDay_any _ _).mono ?_; rintro e w1 ⟨rfl, rfl⟩)
              | (go_at_call 47; refine (isWeek_any _ _).mono ?_; rintro e w1 ⟨rfl, rfl⟩))
            go_ret
            refine ⟨?_, by go_grown⟩; exact on_br (by rw [Dr.onR_true]; simp [Dr.wkB] at hw; simp; omega)
          · go_enter Try.func35, Try.ntmps35
            go_wp2_with (first
              | (go_at_call 46; refine (isDay_any _ _).mono ?_; rintro e w1 ⟨rfl, rfl⟩)
              | (go_at_call 47; refine (isWeek_any _ _).mono ?_; rintro e w1 ⟨rfl, rfl⟩))
            go_ret
            refine ⟨?_, by go_grown⟩; exact on_br (by rw [Dr.onR_true]; simp [Dr.wkB] at hw; simp [Dr.dayB]; omega)
      · have b0 : (k == 0) = false := by simpa using h0
        have b1 : (k == 1) = false := by simpa using h1
        have b2 : (k == 2) = false := by simp; omega
        have b3 : (k == 3) = false := by simp; omega
        go_enter Try.func35, Try.ntmps35
        go_wp2
        go_ret
        refine ⟨?_, by go_grown⟩; exact on_br (by rw [Dr.onR_true]; simp; omega)

end Go.Proofs.Ytjnhaabbnbcaeaa
