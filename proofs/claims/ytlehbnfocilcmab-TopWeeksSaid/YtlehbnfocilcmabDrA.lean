/- The contracts of dayrule's functions: isDay, isWeekday, Right, Fits, behind. -/
import Derived.Test.YtlehbnfocilcmabCivC
import Derived.Test.YtlehbnfocilcmabDrM
import Derived.Test.YtlehbnfocilcmabOne
set_option linter.unusedVariables false
set_option linter.unusedSimpArgs false
namespace Go.Proofs.Ytlehbnfocilcmab
open Go.RowKit

theorem bool_br {p : Prop} [Decidable p] {b : Bool} (h : p ↔ b = true) : Ending.returned (.bool b) = .returned (.bool (decide p)) := by
  congr 2; rw [Bool.eq_iff_iff]; simp [h]

set_option maxHeartbeats 400000 in
theorem isDay_any (d : Int) (w : World) : Calls Try.prog 44 #[.int .i64 d] w fun e w' => e = .returned (.bool (Dr.dayB d)) ∧ w = w' := by
  unfold Dr.dayB
  by_cases h1 : 1 ≤ d
  · go_enter Try.func44, Try.ntmps44
    go_wp2
    go_ret
    refine ⟨?_, rfl⟩; exact bool_br (by simp [h1])
  · have hd : decide (1 ≤ d) = false := by simpa using h1
    go_enter Try.func44, Try.ntmps44
    go_wp2
    go_ret
    refine ⟨?_, rfl⟩
    rfl
set_option maxHeartbeats 400000 in
theorem isWeek_any (d : Int) (w : World) : Calls Try.prog 45 #[.int .i64 d] w fun e w' => e = .returned (.bool (Dr.wkB d)) ∧ w = w' := by
  unfold Dr.wkB
  by_cases h1 : 0 ≤ d
  · go_enter Try.func45, Try.ntmps45
    go_wp2
    go_ret
    refine ⟨?_, rfl⟩; exact bool_br (by simp [h1]; omega)
  · have hd : decide (0 ≤ d) = false := by simpa using h1
    go_enter Try.func45, Try.ntmps45
    go_wp2
    go_ret
    refine ⟨?_, rfl⟩
    rfl

theorem on_br {k w d : Int} {b : Bool} (h : (Dr.onR k w d = true) ↔ b = true) : Ending.returned (.bool b) = .returned (.bool (Dr.onR k w d)) := by
  congr 2; rw [Bool.eq_iff_iff, h]

set_option maxHeartbeats 1000000 in
theorem oright_any (k wk d : Int) (w : World) :
    Calls Try.prog 16 #[.agg #[.int .i64 k, .int .i64 wk, .int .i64 d]] w fun e w' => e = .returned (.bool (Dr.onR k wk d)) ∧ Below w.heap.size w w' := by
  by_cases h0 : k = 0
  · subst h0
    by_cases hw : wk = 0
    · subst hw
      go_enter Try.func16, Try.ntmps16
      go_wp2_with (first
        | (go_at_call 44; refine (isDay_any _ _).mono ?_; rintro e w1 ⟨rfl, rfl⟩)
        | (go_at_call 45; refine (isWeek_any _ _).mono ?_; rintro e w1 ⟨rfl, rfl⟩))
      go_ret
      refine ⟨?_, by go_grown⟩; exact on_br (by rw [Dr.onR_true]; simp [Dr.dayB])
    · have hw' : (wk == 0) = false := by simpa using hw
      go_enter Try.func16, Try.ntmps16
      go_wp2_with (first
        | (go_at_call 44; refine (isDay_any _ _).mono ?_; rintro e w1 ⟨rfl, rfl⟩)
        | (go_at_call 45; refine (isWeek_any _ _).mono ?_; rintro e w1 ⟨rfl, rfl⟩))
      go_ret
      refine ⟨?_, by go_grown⟩; exact on_br (by rw [Dr.onR_true]; simp [hw])
  · by_cases h1 : k = 1
    · subst h1
      clear h0
      cases hw : Dr.wkB wk
      · go_enter Try.func16, Try.ntmps16
        go_wp2_with (first
          | (go_at_call 44; refine (isDay_any _ _).mono ?_; rintro e w1 ⟨rfl, rfl⟩)
          | (go_at_call 45; refine (isWeek_any _ _).mono ?_; rintro e w1 ⟨rfl, rfl⟩))
        go_ret
        refine ⟨?_, by go_grown⟩; exact on_br (by rw [Dr.onR_true]; simp [Dr.wkB] at hw; simp; omega)
      · go_enter Try.func16, Try.ntmps16
        go_wp2_with (first
          | (go_at_call 44; refine (isDay_any _ _).mono ?_; rintro e w1 ⟨rfl, rfl⟩)
          | (go_at_call 45; refine (isWeek_any _ _).mono ?_; rintro e w1 ⟨rfl, rfl⟩))
        go_ret
        refine ⟨?_, by go_grown⟩; exact on_br (by rw [Dr.onR_true]; simp [Dr.wkB] at hw; simp; omega)
    · by_cases h2 : k = 2 ∨ k = 3
      · rcases h2 with rfl | rfl
        all_goals
          clear h0 h1
          cases hw : Dr.wkB wk
          · go_enter Try.func16, Try.ntmps16
            go_wp2_with (first
              | (go_at_call 44; refine (isDay_any _ _).mono ?_; rintro e w1 ⟨rfl, rfl⟩)
              | (go_at_call 45; refine (isWeek_any _ _).mono ?_; rintro e w1 ⟨rfl, rfl⟩))
            go_ret
            refine ⟨?_, by go_grown⟩; exact on_br (by rw [Dr.onR_true]; simp [Dr.wkB] at hw; simp; omega)
          · go_enter Try.func16, Try.ntmps16
            go_wp2_with (first
              | (go_at_call 44; refine (isDay_any _ _).mono ?_; rintro e w1 ⟨rfl, rfl⟩)
              | (go_at_call 45; refine (isWeek_any _ _).mono ?_; rintro e w1 ⟨rfl, rfl⟩))
            go_ret
            refine ⟨?_, by go_grown⟩; exact on_br (by rw [Dr.onR_true]; simp [Dr.wkB] at hw; simp [Dr.dayB]; omega)
      · have b0 : (k == 0) = false := by simpa using h0
        have b1 : (k == 1) = false := by simpa using h1
        have b2 : (k == 2) = false := by simp; omega
        have b3 : (k == 3) = false := by simp; omega
        go_enter Try.func16, Try.ntmps16
        go_wp2
        go_ret
        refine ⟨?_, by go_grown⟩; exact on_br (by rw [Dr.onR_true]; simp; omega)

theorem fits_br {k wk d m : Int} {b : Bool} (h : (Dr.onF k wk d m = true) ↔ b = true) : Ending.returned (.bool b) = .returned (.bool (Dr.onF k wk d m)) := by
  congr 2; rw [Bool.eq_iff_iff, h]

set_option maxHeartbeats 1000000 in
theorem ofits_any (k wk d m : Int) (w : World) :
    Calls Try.prog 18 #[.agg #[.int .i64 k, .int .i64 wk, .int .i64 d], .int .i64 m] w fun e w' => e = .returned (.bool (Dr.onF k wk d m)) ∧ Below w.heap.size w w' := by
  have O0 := One.new (t := 23) (v0 := .int .i64 k) (v1 := .int .i64 wk) (v2 := .int .i64 d) (Below.refl w.heap.size w)
  have hlen : 0 < Cal.len 2001 m ↔ 1 ≤ m ∧ m ≤ 12 := by
    constructor
    · intro h
      unfold Cal.len at h; omega
    · intro h; have := (Dr.len_2001 2001 m h.1 h.2).2.2.1; omega
  have HL := Lib.hid hlen; clear hlen
  cases hr : Dr.onR k wk d
  · go_enter Try.func18, Try.ntmps18
    go_wp2_with fail
    refine (len_any _ _ _).mono ?_; rintro e w1 ⟨rfl, rfl⟩
    go_wp2_with fail
    refine (oright_any _ _ _ _).mono ?_; rintro e w1 ⟨rfl, b1⟩
    rw [hr]
    go_wp2_with fail
    go_ret
    refine ⟨?_, below_step O0.bel b1⟩
    exact fits_br (by rw [Dr.onF_true]; simp [hr])
  · go_enter Try.func18, Try.ntmps18
    go_wp2_with fail
    refine (len_any _ _ _).mono ?_; rintro e w1 ⟨rfl, rfl⟩
    go_wp2_with fail
    refine (oright_any _ _ _ _).mono ?_; rintro e w1 ⟨rfl, b1⟩
    rw [hr]
    have O1 := O0.keep b1
    have k2 := O1.k2
    by_cases hp : 0 < Cal.len 2001 m
    · go_wp2_with fail
      go_ret
      refine ⟨?_, O1.bel⟩
      exact fits_br (by rw [Dr.onF_true]; have := HL.out.1 hp; simp [hr]; omega)
    · have hp' : decide (0 < Cal.len 2001 m) = false := by simpa using hp
      go_wp2_with fail
      go_ret
      refine ⟨?_, O1.bel⟩
      exact fits_br (by rw [Dr.onF_true]; have := mt HL.out.2 (by omega); simp [hr]; omega)

set_option maxHeartbeats 1000000 in
theorem behind_any (n wk : Int) (w : World) (h0 : -9223372036854775808 ≤ n) (h1 : n ≤ 9223372036854775807) (k0 : 0 ≤ wk) (k1 : wk ≤ 6) :
    Calls Try.prog 40 #[.int .i64 n, .int .i64 wk] w fun e w' => e = .returned (.int .i64 ((n + 4 - wk) % 7)) ∧ ∃ k, w' = w.drewN k := by
  have m0 : 0 ≤ (n + 4) % 7 := by omega
  have m1 : (n + 4) % 7 < 7 := by omega
  go_enter Try.func40, Try.ntmps40
  go_wp2_with fail
  refine (weekday_any n _ h0 h1).mono ?_; rintro e w1 ⟨rfl, k, rfl⟩
  go_wp2_with fail
  go_ret
  exact ⟨ret_int (by omega), _, rfl⟩
end Go.Proofs.Ytlehbnfocilcmab
