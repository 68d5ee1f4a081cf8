/- The contract of the reference's Less. -/
import Derived.Test.YtndophkojnfcaaaR2A
set_option linter.unusedVariables false
set_option linter.unusedSimpArgs false
namespace Go.Proofs.Ytndophkojnfcaaa
open Go.RowKit

set_option maxHeartbeats 2000000 in
theorem lessr_any (a b : Nat) (ha : a < 18446744073709551616) (hb : b < 18446744073709551616) (w : World) : Calls Try.prog 21 #[.float .f64 a, .float .f64 b] w fun e w' => e = .returned (.bool (Fl.lessB a b)) ∧ w = w' := by
  have HA := Lib.hid ha; have HB := Lib.hid hb
  generalize hka : Fl.kd (Fl.rk a) = ka
  generalize hkb : Fl.kd (Fl.rk b) = kb
  have HKA := Lib.hid hka; have HKB := Lib.hid hkb
  rcases Int.lt_trichotomy ka kb with h | h | h
  · have e : Fl.lessB a b = true := decide_eq_true (Fl.kd_lt (by rw [hka, hkb]; exact h))
    rw [e]
    have t1 : decide (ka < kb) = true := decide_eq_true h
    clear ha hb hka hkb e
    go_enter Try.func21, Try.ntmps21
    go_wp2_with fail
    refine (kindr_any a HA.out _).mono ?_; rintro e w1 ⟨rfl, rfl⟩
    rw [HKA.out]
    go_wp2_with fail
    refine (kindr_any b HB.out _).mono ?_; rintro e w1 ⟨rfl, rfl⟩
    rw [HKB.out]
    go_wp2
    go_ret
    exact ⟨rfl, rfl⟩
  · subst h
    have t0 : decide (ka < ka) = false := decide_eq_false (by omega)
    by_cases h25 : ka = 2 ∨ ka = 5
    · obtain ⟨e1, e2⟩ := Fl.ord_same ha hb (hka.trans hkb.symm) (hka ▸ h25)
      generalize Fl.lessB a b = l at e2 ⊢
      generalize Fl.sameB a b = s at e1
      clear ha hb hka hkb e1
      rcases h25 with rfl | rfl
      all_goals
        clear t0
        go_enter Try.func21, Try.ntmps21
        go_wp2_with fail
        refine (kindr_any a HA.out _).mono ?_; rintro e w1 ⟨rfl, rfl⟩
        rw [HKA.out]
        go_wp2_with fail
        refine (kindr_any b HB.out _).mono ?_; rintro e w1 ⟨rfl, rfl⟩
        rw [HKB.out]
        go_wp2_with fail
        refine (kindr_any b HB.out _).mono ?_; rintro e w1 ⟨rfl, rfl⟩
        rw [HKB.out]
        go_wp2
        go_ret
        exact ⟨rfl, rfl⟩
    · have e : Fl.lessB a b = false := by
        unfold Fl.lessB
        rw [Fl.kd_eq (hka.trans hkb.symm) (by omega) (by omega)]; simp
      rw [e]
      have t1 : (ka == 2) = false := by rw [beq_eq_false_iff_ne]; omega
      have t2 : (ka == 5) = false := by rw [beq_eq_false_iff_ne]; omega
      clear ha hb hka hkb h25 e
      go_enter Try.func21, Try.ntmps21
      go_wp2_with fail
      refine (kindr_any a HA.out _).mono ?_; rintro e w1 ⟨rfl, rfl⟩
      rw [HKA.out]
      go_wp2_with fail
      refine (kindr_any b HB.out _).mono ?_; rintro e w1 ⟨rfl, rfl⟩
      rw [HKB.out]
      go_wp2_with fail
      refine (kindr_any b HB.out _).mono ?_; rintro e w1 ⟨rfl, rfl⟩
      rw [HKB.out]
      go_wp2
      go_ret
      exact ⟨rfl, rfl⟩
  · have e : Fl.lessB a b = false := by
      have := Fl.kd_lt (a := b) (b := a) (by rw [hka, hkb]; exact h)
      exact decide_eq_false (by omega)
    rw [e]
    have t0 : decide (ka < kb) = false := decide_eq_false (by omega)
    have t1 : (ka == kb) = false := by rw [beq_eq_false_iff_ne]; omega
    clear ha hb hka hkb h e
    go_enter Try.func21, Try.ntmps21
    go_wp2_with fail
    refine (kindr_any a HA.out _).mono ?_; rintro e w1 ⟨rfl, rfl⟩
    rw [HKA.out]
    go_wp2_with fail
    refine (kindr_any b HB.out _).mono ?_; rintro e w1 ⟨rfl, rfl⟩
    rw [HKB.out]
    go_wp2_with fail
    refine (kindr_any b HB.out _).mono ?_; rintro e w1 ⟨rfl, rfl⟩
    rw [HKB.out]
    go_wp2
    go_ret
    exact ⟨rfl, rfl⟩
end Go.Proofs.Ytndophkojnfcaaa
