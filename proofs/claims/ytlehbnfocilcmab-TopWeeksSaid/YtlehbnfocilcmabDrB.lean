/- The contracts of dayrule's functions: Days, Window. -/
import Derived.Test.YtlehbnfocilcmabDrA
set_option linter.unusedVariables false
set_option linter.unusedSimpArgs false
namespace Go.Proofs.Ytlehbnfocilcmab
open Go.RowKit

set_option maxHeartbeats 1000000 in
theorem odays_form (k wk d y m : Int) (w : World) (h : Dr.onF k wk d m = false) :
    Calls Try.prog 12 #[.agg #[.int .i64 k, .int .i64 wk, .int .i64 d], .int .i64 y, .int .i64 m] w fun e w' => e = .returned (.tuple #[.int .i64 0, .int .i64 4]) ∧ Below w.heap.size w w' := by
  have O0 := One.new (t := 23) (v0 := .int .i64 k) (v1 := .int .i64 wk) (v2 := .int .i64 d) (Below.refl w.heap.size w)
  go_enter Try.func12, Try.ntmps12
  go_wp2_with fail
  refine (ofits_any _ _ _ _ _).mono ?_; rintro e w1 ⟨rfl, b1⟩
  rw [h]
  go_wp2_with fail
  go_ret2
  exact ⟨rfl, below_step O0.bel b1⟩
set_option maxHeartbeats 1000000 in
theorem odays_range (k wk d y m : Int) (w : World) (h : Dr.onF k wk d m = true) (hy : y < -39999 ∨ 39999 < y) :
    Calls Try.prog 12 #[.agg #[.int .i64 k, .int .i64 wk, .int .i64 d], .int .i64 y, .int .i64 m] w fun e w' => e = .returned (.tuple #[.int .i64 0, .int .i64 1]) ∧ Below w.heap.size w w' := by
  have O0 := One.new (t := 23) (v0 := .int .i64 k) (v1 := .int .i64 wk) (v2 := .int .i64 d) (Below.refl w.heap.size w)
  rcases hy with hy | hy
  · go_enter Try.func12, Try.ntmps12
    go_wp2_with fail
    refine (ofits_any _ _ _ _ _).mono ?_; rintro e w1 ⟨rfl, b1⟩
    rw [h]
    go_wp2_with fail
    go_ret2
    exact ⟨rfl, below_step O0.bel b1⟩
  · have hy' : ¬ y < -39999 := by omega
    go_enter Try.func12, Try.ntmps12
    go_wp2_with fail
    refine (ofits_any _ _ _ _ _).mono ?_; rintro e w1 ⟨rfl, b1⟩
    rw [h]
    go_wp2_with fail
    go_ret2
    exact ⟨rfl, below_step O0.bel b1⟩

set_option maxHeartbeats 2000000 in
theorem odays_yes (k wk d y m : Int) (w : World) (h : Dr.onF k wk d m = true) (hy0 : -39999 ≤ y) (hy1 : y ≤ 39999) :
    Calls Try.prog 12 #[.agg #[.int .i64 k, .int .i64 wk, .int .i64 d], .int .i64 y, .int .i64 m] w fun e w' => e = .returned (.tuple #[.int .i64 (Dr.onN k wk d y m), .int .i64 0]) ∧ Below w.heap.size w w' := by
  have O0 := One.new (t := 23) (v0 := .int .i64 k) (v1 := .int .i64 wk) (v2 := .int .i64 d) (Below.refl w.heap.size w)
  have hb := Dr.base_right h hy0 hy1
  have hr := right_true.2 hb
  obtain ⟨n0, n1⟩ := Cal.num_range hb
  obtain ⟨a, -, -, -⟩ := Dr.onF_true.1 h
  have a := Dr.onR_true.1 a
  have hn : Dr.onN k wk d y m = (let n := Cal.num y m (Dr.base k d y m); if k = 0 then n else if k = 2 then n + (wk - (n + 4)) % 7 else n - (n + 4 - wk) % 7) := rfl
  have H := Lib.hid h; clear h hb
  by_cases h0 : k = 0
  · subst h0
    have e : Dr.base 0 d y m = d := by simp [Dr.base]
    rw [e] at hn n0 n1 hr
    have hn : Dr.onN 0 wk d y m = Cal.num y m d := by rw [hn]; simp
    have HN := Lib.hid hn; clear hn e a
    go_enter Try.func12, Try.ntmps12
    go_wp2_with fail
    refine (ofits_any _ _ _ _ _).mono ?_; rintro e w1 ⟨rfl, b1⟩
    rw [H.out]
    have O1 := O0.keep b1
    have k0 := O1.k0; have k2 := O1.k2
    clear O0
    go_wp2_with fail
    refine (days_yes _ _ _ _ hr).mono ?_; rintro e w2 ⟨rfl, b2⟩
    have O2 := O1.keep b2
    clear k0 k2
    have k0 := O2.k0
    go_wp2_with fail
    go_ret2
    rw [HN.out]
    exact ⟨rfl, O2.bel⟩
  · by_cases h1 : k = 1
    · subst h1
      have e : Dr.base 1 d y m = Cal.len y m := by simp [Dr.base]
      rw [e] at hn n0 n1 hr
      have hn : Dr.onN 1 wk d y m = Cal.num y m (Cal.len y m) - (Cal.num y m (Cal.len y m) + 4 - wk) % 7 := by rw [hn]; simp
      have HN := Lib.hid hn; clear hn e h0
      have w0 : 0 ≤ wk ∧ wk ≤ 6 := by omega
      obtain ⟨w0, w6⟩ := w0
      clear a
      have m0 : 0 ≤ (Cal.num y m (Cal.len y m) + 4 - wk) % 7 := by omega
      have m1 : (Cal.num y m (Cal.len y m) + 4 - wk) % 7 < 7 := by omega
      go_enter Try.func12, Try.ntmps12
      go_wp2_with fail
      refine (ofits_any _ _ _ _ _).mono ?_; rintro e w1 ⟨rfl, b1⟩
      rw [H.out]
      have O1 := O0.keep b1
      have k0 := O1.k0; have k2 := O1.k2
      clear O0
      go_wp2_with fail
      refine (len_any _ _ _).mono ?_; rintro e w2 ⟨rfl, rfl⟩
      go_wp2_with fail
      refine (days_yes _ _ _ _ hr).mono ?_; rintro e w2 ⟨rfl, b2⟩
      have O2 := O1.keep b2
      clear k0 k2
      have k0 := O2.k0; have k1 := O2.k1
      go_wp2_with fail
      refine (behind_any _ _ _ (by omega) (by omega) w0 w6).mono ?_; rintro e w3 ⟨rfl, j, rfl⟩
      go_wp2_with fail
      go_ret2
      rw [HN.out]
      exact ⟨rfl, below_drewN O2.bel _⟩
    · have e : Dr.base k d y m = d := by simp [Dr.base, h1]
      rw [e] at hn n0 n1 hr
      have w0 : 0 ≤ wk ∧ wk ≤ 6 := by omega
      obtain ⟨w0, w6⟩ := w0
      by_cases h2 : k = 2
      · subst h2
        have hn : Dr.onN 2 wk d y m = Cal.num y m d + 6 - (Cal.num y m d + 6 + 4 - wk) % 7 := by rw [hn]; simp; omega
        have HN := Lib.hid hn; clear hn e h0 h1 a
        have m0 : 0 ≤ (Cal.num y m d + 6 + 4 - wk) % 7 := by omega
        have m1 : (Cal.num y m d + 6 + 4 - wk) % 7 < 7 := by omega
        go_enter Try.func12, Try.ntmps12
        go_wp2_with fail
        refine (ofits_any _ _ _ _ _).mono ?_; rintro e w1 ⟨rfl, b1⟩
        rw [H.out]
        have O1 := O0.keep b1
        have k0 := O1.k0; have k2 := O1.k2
        clear O0
        go_wp2_with fail
        refine (days_yes _ _ _ _ hr).mono ?_; rintro e w2 ⟨rfl, b2⟩
        have O2 := O1.keep b2
        clear k0 k2
        have k0 := O2.k0; have k1 := O2.k1
        go_wp2_with fail
        refine (behind_any _ _ _ (by omega) (by omega) w0 w6).mono ?_; rintro e w3 ⟨rfl, j, rfl⟩
        go_wp2_with fail
        go_ret2
        rw [HN.out]
        exact ⟨rfl, below_drewN O2.bel _⟩
      · have hk : k = 3 := by omega
        subst hk
        have hn : Dr.onN 3 wk d y m = Cal.num y m d - (Cal.num y m d + 4 - wk) % 7 := by rw [hn]; simp
        have HN := Lib.hid hn; clear hn e h0 h1 h2 a
        have m0 : 0 ≤ (Cal.num y m d + 4 - wk) % 7 := by omega
        have m1 : (Cal.num y m d + 4 - wk) % 7 < 7 := by omega
        go_enter Try.func12, Try.ntmps12
        go_wp2_with fail
        refine (ofits_any _ _ _ _ _).mono ?_; rintro e w1 ⟨rfl, b1⟩
        rw [H.out]
        have O1 := O0.keep b1
        have k0 := O1.k0; have k2 := O1.k2
        clear O0
        go_wp2_with fail
        refine (days_yes _ _ _ _ hr).mono ?_; rintro e w2 ⟨rfl, b2⟩
        have O2 := O1.keep b2
        clear k0 k2
        have k0 := O2.k0; have k1 := O2.k1
        go_wp2_with fail
        refine (behind_any _ _ _ (by omega) (by omega) w0 w6).mono ?_; rintro e w3 ⟨rfl, j, rfl⟩
        go_wp2_with fail
        go_ret2
        rw [HN.out]
        exact ⟨rfl, below_drewN O2.bel _⟩
end Go.Proofs.Ytlehbnfocilcmab
