/- dayrule's answers as functions of what is handed in: Days, Window. -/
import Derived.Test.YtjnhaabbnbcaeaaDrB
set_option linter.unusedVariables false
set_option linter.unusedSimpArgs false
namespace Go.Proofs.Ytjnhaabbnbcaeaa
open Go.RowKit

namespace Dr
def dw (k w d y m : Int) : Int := if onF k w d m = true then if -39999 ≤ y ∧ y ≤ 39999 then 0 else 1 else 4
def dn (k w d y m : Int) : Int := if dw k w d y m = 0 then onN k w d y m else 0
def ww (k w d m : Int) : Int := if onF k w d m = true then 0 else 4
def wl (k w d m : Int) : Int := if onF k w d m = true then low k d m else 0
def wh (k w d m : Int) : Int := if onF k w d m = true then high k d m else 0
end Dr

set_option maxHeartbeats 1000000 in
theorem owindow_any (k wk d m : Int) (w : World) :
    Calls Try.prog 24 #[.agg #[.int .i64 k, .int .i64 wk, .int .i64 d], .int .i64 m] w fun e w' => e = .returned (.tuple #[.int .i64 (Dr.wl k wk d m), .int .i64 (Dr.wh k wk d m), .int .i64 (Dr.ww k wk d m)]) ∧ Below w.heap.size w w' := by
  unfold Dr.wl Dr.wh Dr.ww
  have O0 := One.new (t := 23) (v0 := .int .i64 k) (v1 := .int .i64 wk) (v2 := .int .i64 d) (Below.refl w.heap.size w)
  by_cases h : Dr.onF k wk d m = true
  · rw [if_pos h, if_pos h, if_pos h]
    obtain ⟨a, b1, b2, -⟩ := Dr.onF_true.1 h
    have a := Dr.onR_true.1 a
    have d0 : 0 ≤ d := by omega
    have d1 : d ≤ 31 := by omega
    have H := Lib.hid h; clear h
    unfold Dr.low Dr.high
    by_cases h1 : k = 1
    · rw [if_pos h1, if_pos h1]
      obtain ⟨l0, l1⟩ := Cal.len_bd 2001 m
      subst h1; clear a
      go_enter Try.func24, Try.ntmps24
      go_wp2_with fail
      refine (ofits_any _ _ _ _ _).mono ?_; rintro e w1 ⟨rfl, b1⟩
      rw [H.out]
      have O1 := O0.keep b1
      have k0 := O1.k0; have k2 := O1.k2
      clear O0
      go_wp2_with (go_at_call 34; refine (len_any _ _ _).mono ?_; rintro e w2 ⟨rfl, rfl⟩)
      go_ret3
      exact ⟨rfl, O1.bel⟩
    · rw [if_neg h1, if_neg h1]
      by_cases h2 : k = 2
      · subst h2; clear a h1
        go_enter Try.func24, Try.ntmps24
        go_wp2_with fail
        refine (ofits_any _ _ _ _ _).mono ?_; rintro e w1 ⟨rfl, b1⟩
        rw [H.out]
        have O1 := O0.keep b1
        have k0 := O1.k0; have k2 := O1.k2
        clear O0
        go_wp2_with fail
        go_quiet (fail)
        go_wp2
        go_ret3
        exact ⟨rfl, below_drewN O1.bel _⟩
      · by_cases h3 : k = 3
        · rw [if_pos h3, if_neg h2]
          subst h3; clear a h1 h2
          go_enter Try.func24, Try.ntmps24
          go_wp2_with fail
          refine (ofits_any _ _ _ _ _).mono ?_; rintro e w1 ⟨rfl, b1⟩
          rw [H.out]
          have O1 := O0.keep b1
          have k0 := O1.k0; have k2 := O1.k2
          clear O0
          go_wp2_with fail
          go_quiet (fail)
          go_wp2
          go_ret3
          exact ⟨rfl, below_drewN O1.bel _⟩
        · rw [if_neg h3, if_neg h2]
          have h0 : k = 0 := by omega
          subst h0; clear a h1 h2 h3
          go_enter Try.func24, Try.ntmps24
          go_wp2_with fail
          refine (ofits_any _ _ _ _ _).mono ?_; rintro e w1 ⟨rfl, b1⟩
          rw [H.out]
          have O1 := O0.keep b1
          have k0 := O1.k0; have k2 := O1.k2
          clear O0
          go_wp2_with fail
          go_quiet (fail)
          go_wp2
          go_ret3
          exact ⟨rfl, below_drewN O1.bel _⟩
  · rw [if_neg h, if_neg h, if_neg h]
    have h' : Dr.onF k wk d m = false := by simpa using h
    clear h
    go_enter Try.func24, Try.ntmps24
    go_wp2_with fail
    refine (ofits_any _ _ _ _ _).mono ?_; rintro e w1 ⟨rfl, b1⟩
    rw [h']
    go_wp2_with fail
    go_ret3
    exact ⟨rfl, below_step O0.bel b1⟩
end Go.Proofs.Ytjnhaabbnbcaeaa
