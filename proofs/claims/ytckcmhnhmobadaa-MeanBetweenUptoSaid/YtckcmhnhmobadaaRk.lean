/- The contracts of real's functions that go by bits: rank, Kind, Same, Less. -/
import Derived.Test.YtckcmhnhmobadaaBk
import Derived.Test.YtckcmhnhmobadaaFlB
set_option linter.unusedVariables false
set_option linter.unusedSimpArgs false
namespace Go.Proofs.Ytckcmhnhmobadaa
open Go.RowKit

set_option maxHeartbeats 1000000 in
theorem rank_any (x : Nat) (hx : x < 18446744073709551616) (w : World) : Calls Try.prog 65 #[.float .f64 x] w fun e w' => e = .returned (.int .u64 (Fl.rk x)) ∧ w = w' := by
  have hb : ∀ w, (callFunc 74 #[.float .f64 x]).run Try.prog w = .ok (.value (.int .u64 x)) w := fun _ => by kernel_rfl
  have ho := Fl.ord_self x
  cases hn : Fl.nan x
  · rw [hn] at ho
    have ha := Fl.and_sign hx
    cases hg : Fl.ng x
    · rw [hg] at ha
      have e := Fl.or_sign hx hg
      have e2 : ((Fl.rk x : Nat) : Int) = ((9223372036854775808 + Fl.rg x : Nat) : Int) := by unfold Fl.rk; rw [hn, hg]; rfl
      have E := Lib.hid e; have E2 := Lib.hid e2
      clear e e2 hx hn hg
      go_enter Try.func65, Try.ntmps65
      go_wp2
      go_ret
      refine ⟨ret_int ?_, rfl⟩
      exact E.out.trans E2.out.symm
    · rw [hg] at ha
      have e := Fl.xor_sign hx hg
      have e2 : ((Fl.rk x : Nat) : Int) = ((9223372036854775807 - Fl.rg x : Nat) : Int) := by unfold Fl.rk; rw [hn, hg]; rfl
      have E := Lib.hid e; have E2 := Lib.hid e2
      clear e e2 hx hn hg
      go_enter Try.func65, Try.ntmps65
      go_wp2
      go_ret
      refine ⟨ret_int ?_, rfl⟩
      exact E.out.trans E2.out.symm
  · rw [hn] at ho
    have e2 : ((Fl.rk x : Nat) : Int) = 0 := by unfold Fl.rk; rw [hn]; rfl
    have E2 := Lib.hid e2
    clear e2 hx hn
    go_enter Try.func65, Try.ntmps65
    go_wp2
    go_ret
    exact ⟨ret_int E2.out.symm, rfl⟩

namespace Fl
/-- A kind, by its rank. -/
def kd (r : Nat) : Int := if r = 0 then 0 else if r = 4503599627370495 then 1 else if r < 9223372036854775807 then 2 else if r = 9223372036854775807 then 3 else if r = 9223372036854775808 then 4 else if r < 18442240474082181120 then 5 else 6
def sameB (a b : Nat) : Bool := rk a == rk b
def lessB (a b : Nat) : Bool := decide (rk a < rk b)
end Fl
set_option maxHeartbeats 1000000 in
theorem kind_any (x : Nat) (hx : x < 18446744073709551616) (w : World) : Calls Try.prog 43 #[.float .f64 x] w fun e w' => e = .returned (.int .i64 (Fl.kd (Fl.rk x))) ∧ w = w' := by
  have h := Fl.rk_lt hx
  generalize hr : Fl.rk x = r at h
  have HR := Lib.hid hr; clear hr
  have HX := Lib.hid hx; clear hx
  rcases Nat.lt_trichotomy r 0 with h0 | h0 | h0
  · omega
  · have e : Fl.kd r = 0 := by unfold Fl.kd; rw [if_pos h0]
    rw [e]; clear e; subst h0; clear h
    go_enter Try.func43, Try.ntmps43
    go_wp2_with fail
    refine (rank_any x HX.out _).mono ?_; rintro e w1 ⟨rfl, rfl⟩
    rw [HR.out]
    go_wp2
    go_ret
    exact ⟨rfl, rfl⟩
  · have t0 : ((r : Int) == 0) = false := by rw [beq_eq_false_iff_ne]; omega
    by_cases h1 : r = 4503599627370495
    · have e : Fl.kd r = 1 := by unfold Fl.kd; rw [if_neg (by omega), if_pos h1]
      rw [e]; clear e; subst h1; clear h h0 t0
      go_enter Try.func43, Try.ntmps43
      go_wp2_with fail
      refine (rank_any x HX.out _).mono ?_; rintro e w1 ⟨rfl, rfl⟩
      rw [HR.out]
      go_wp2
      go_ret
      exact ⟨rfl, rfl⟩
    · have t1 : ((r : Int) == 4503599627370495) = false := by rw [beq_eq_false_iff_ne]; omega
      by_cases h2 : r < 9223372036854775807
      · have e : Fl.kd r = 2 := by unfold Fl.kd; rw [if_neg (by omega), if_neg h1, if_pos h2]
        rw [e]; clear e
        have t2 : (r : Int) < 9223372036854775807 := by omega
        clear h h0 h1 h2
        go_enter Try.func43, Try.ntmps43
        go_wp2_with fail
        refine (rank_any x HX.out _).mono ?_; rintro e w1 ⟨rfl, rfl⟩
        rw [HR.out]
        go_wp2
        go_ret
        exact ⟨rfl, rfl⟩
      · have t2 : decide ((r : Int) < 9223372036854775807) = false := by rw [decide_eq_false_iff_not]; omega
        by_cases h3 : r = 9223372036854775807
        · have e : Fl.kd r = 3 := by unfold Fl.kd; rw [if_neg (by omega), if_neg h1, if_neg h2, if_pos h3]
          rw [e]; clear e; subst h3; clear h h0 t0 t1 t2 h1 h2
          go_enter Try.func43, Try.ntmps43
          go_wp2_with fail
          refine (rank_any x HX.out _).mono ?_; rintro e w1 ⟨rfl, rfl⟩
          rw [HR.out]
          go_wp2
          go_ret
          exact ⟨rfl, rfl⟩
        · have t3 : ((r : Int) == 9223372036854775807) = false := by rw [beq_eq_false_iff_ne]; omega
          by_cases h4 : r = 9223372036854775808
          · have e : Fl.kd r = 4 := by unfold Fl.kd; rw [if_neg (by omega), if_neg h1, if_neg h2, if_neg h3, if_pos h4]
            rw [e]; clear e; subst h4; clear h h0 t0 t1 t2 t3 h1 h2 h3
            go_enter Try.func43, Try.ntmps43
            go_wp2_with fail
            refine (rank_any x HX.out _).mono ?_; rintro e w1 ⟨rfl, rfl⟩
            rw [HR.out]
            go_wp2
            go_ret
            exact ⟨rfl, rfl⟩
          · have t4 : ((r : Int) == 9223372036854775808) = false := by rw [beq_eq_false_iff_ne]; omega
            by_cases h5 : r < 18442240474082181120
            · have e : Fl.kd r = 5 := by unfold Fl.kd; rw [if_neg (by omega), if_neg h1, if_neg h2, if_neg h3, if_neg h4, if_pos h5]
              rw [e]; clear e
              have t5 : (r : Int) < 18442240474082181120 := by omega
              clear h h0 h1 h2 h3 h4 h5
              go_enter Try.func43, Try.ntmps43
              go_wp2_with fail
              refine (rank_any x HX.out _).mono ?_; rintro e w1 ⟨rfl, rfl⟩
              rw [HR.out]
              go_wp2
              go_ret
              exact ⟨rfl, rfl⟩
            · have e : Fl.kd r = 6 := by unfold Fl.kd; rw [if_neg (by omega), if_neg h1, if_neg h2, if_neg h3, if_neg h4, if_neg h5]
              rw [e]; clear e
              have t5 : decide ((r : Int) < 18442240474082181120) = false := by rw [decide_eq_false_iff_not]; omega
              clear h h0 h1 h2 h3 h4 h5
              go_enter Try.func43, Try.ntmps43
              go_wp2_with fail
              refine (rank_any x HX.out _).mono ?_; rintro e w1 ⟨rfl, rfl⟩
              rw [HR.out]
              go_wp2
              go_ret
              exact ⟨rfl, rfl⟩
end Go.Proofs.Ytckcmhnhmobadaa
