/- The contracts of the reference's numbers with a floating point: Kind, Same, Less. -/
import Derived.Test.YtckcmhnhmobadaaFw
set_option linter.unusedVariables false
set_option linter.unusedSimpArgs false
namespace Go.Proofs.Ytckcmhnhmobadaa
open Go.RowKit

theorem quo_minus0 (w : World) : (binOp .quo 40 (.float .f64 4607182418800017408) (.float .f64 9223372036854775808)).run Try.prog w = .ok (.float .f64 18442240474082181120) w := run_float_arith w .quo _ .f64 _ _ _ (by decide +kernel)
set_option maxHeartbeats 1000000 in
theorem kindr_any (x : Nat) (hx : x < 18446744073709551616) (w : World) : Calls Try.prog 64 #[.float .f64 x] w fun e w' => e = .returned (.int .i64 (Fl.kd (Fl.rk x))) ∧ w = w' := by
  rcases Fl.five hx with h | rfl | rfl | rfl | rfl | ⟨hf, h0⟩
  · rw [Fl.kd_nan2 h]
    have t1 := (Fl.ord_self x).trans h
    clear h hx
    go_enter Try.func64, Try.ntmps64
    go_wp2
    go_ret
    exact ⟨rfl, rfl⟩
  · rw [show Fl.kd (Fl.rk 9218868437227405312) = 6 by decide +kernel]
    have t1 : (FloatKind.f64.format.order 9218868437227405312 9218868437227405312 != some Ordering.eq) = false := by decide +kernel
    have t2 : (FloatKind.f64.format.order 9218868437227405312 18442240474082181119 == some Ordering.lt) = false := by decide +kernel
    have t3 : (FloatKind.f64.format.order 9218868437227405312 0 == some Ordering.lt) = false := by decide +kernel
    have t4 : (FloatKind.f64.format.order 9218868437227405312 9218868437227405311 == some Ordering.gt) = true := by decide +kernel
    clear hx
    go_enter Try.func64, Try.ntmps64
    go_wp2
    go_ret
    exact ⟨rfl, rfl⟩
  · rw [show Fl.kd (Fl.rk 18442240474082181120) = 1 by decide +kernel]
    have t1 : (FloatKind.f64.format.order 18442240474082181120 18442240474082181120 != some Ordering.eq) = false := by decide +kernel
    have t2 : (FloatKind.f64.format.order 18442240474082181120 18442240474082181119 == some Ordering.lt) = true := by decide +kernel
    clear hx
    go_enter Try.func64, Try.ntmps64
    go_wp2
    go_ret
    exact ⟨rfl, rfl⟩
  · rw [show Fl.kd (Fl.rk 0) = 4 by decide +kernel]
    have t1 : (FloatKind.f64.format.order 0 0 != some Ordering.eq) = false := by decide +kernel
    have t2 : (FloatKind.f64.format.order 0 18442240474082181119 == some Ordering.lt) = false := by decide +kernel
    have t3 : (FloatKind.f64.format.order 0 0 == some Ordering.lt) = false := by decide +kernel
    have t4 : (FloatKind.f64.format.order 0 9218868437227405311 == some Ordering.gt) = false := by decide +kernel
    have t5 : (FloatKind.f64.format.order 0 0 == some Ordering.gt) = false := by decide +kernel
    have t6 : (FloatKind.f64.format.order 9218868437227405312 0 == some Ordering.lt) = false := by decide +kernel
    have r1 := quo_plus
    clear hx
    go_enter Try.func64, Try.ntmps64
    go_wp2
    go_ret
    exact ⟨rfl, rfl⟩
  · rw [show Fl.kd (Fl.rk 9223372036854775808) = 3 by decide +kernel]
    have t1 : (FloatKind.f64.format.order 9223372036854775808 9223372036854775808 != some Ordering.eq) = false := by decide +kernel
    have t2 : (FloatKind.f64.format.order 9223372036854775808 18442240474082181119 == some Ordering.lt) = false := by decide +kernel
    have t3 : (FloatKind.f64.format.order 9223372036854775808 0 == some Ordering.lt) = false := by decide +kernel
    have t4 : (FloatKind.f64.format.order 9223372036854775808 9218868437227405311 == some Ordering.gt) = false := by decide +kernel
    have t5 : (FloatKind.f64.format.order 9223372036854775808 0 == some Ordering.gt) = false := by decide +kernel
    have t6 : (FloatKind.f64.format.order 18442240474082181120 0 == some Ordering.lt) = true := by decide +kernel
    have r1 := quo_minus0
    clear hx
    go_enter Try.func64, Try.ntmps64
    go_wp2
    go_ret
    exact ⟨rfl, rfl⟩
  · have t1 := (Fl.ord_self x).trans (Fl.fin_nan hf)
    cases hg : Fl.ng x
    · rw [Fl.kd_5 hf hg h0]
      obtain ⟨t2, t3, t4, t5⟩ := Fl.kind_pos hf hg h0
      clear hf h0 hg hx
      go_enter Try.func64, Try.ntmps64
      go_wp2
      go_ret
      exact ⟨rfl, rfl⟩
    · rw [Fl.kd_2 hf hg h0]
      obtain ⟨t2, t3⟩ := Fl.kind_neg hf hg h0
      clear hf h0 hg hx
      go_enter Try.func64, Try.ntmps64
      go_wp2
      go_ret
      exact ⟨rfl, rfl⟩

set_option maxHeartbeats 1000000 in
theorem samer_any (a b : Nat) (ha : a < 18446744073709551616) (hb : b < 18446744073709551616) (w : World) : Calls Try.prog 37 #[.float .f64 a, .float .f64 b] w fun e w' => e = .returned (.bool (Fl.sameB a b)) ∧ w = w' := by
  have HA := Lib.hid ha; have HB := Lib.hid hb
  generalize hka : Fl.kd (Fl.rk a) = ka
  generalize hkb : Fl.kd (Fl.rk b) = kb
  have HKA := Lib.hid hka; have HKB := Lib.hid hkb
  by_cases h : ka = kb
  · subst h
    by_cases h25 : ka = 2 ∨ ka = 5
    · obtain ⟨e1, e2⟩ := Fl.ord_same ha hb (hka.trans hkb.symm) (hka ▸ h25)
      generalize Fl.sameB a b = s at e1 ⊢
      generalize Fl.lessB a b = l at e2
      clear ha hb hka hkb e2
      rcases h25 with rfl | rfl
      all_goals
        go_enter Try.func37, Try.ntmps37
        go_wp2_with fail
        refine (kindr_any a HA.out _).mono ?_; rintro e w1 ⟨rfl, rfl⟩
        rw [HKA.out]
        go_wp2_with fail
        refine (kindr_any b HB.out _).mono ?_; rintro e w1 ⟨rfl, rfl⟩
        rw [HKB.out]
        go_wp2
        go_ret
        exact ⟨rfl, rfl⟩
    · have e : Fl.sameB a b = true := by
        unfold Fl.sameB
        rw [Fl.kd_eq (hka.trans hkb.symm) (by omega) (by omega)]; simp
      rw [e]
      have t1 : (ka != 2) = true := by rw [bne_iff_ne]; omega
      have t2 : (ka != 5) = true := by rw [bne_iff_ne]; omega
      clear ha hb hka hkb h25 e
      go_enter Try.func37, Try.ntmps37
      go_wp2_with fail
      refine (kindr_any a HA.out _).mono ?_; rintro e w1 ⟨rfl, rfl⟩
      rw [HKA.out]
      go_wp2_with fail
      refine (kindr_any b HB.out _).mono ?_; rintro e w1 ⟨rfl, rfl⟩
      rw [HKB.out]
      go_wp2
      go_ret
      exact ⟨rfl, rfl⟩
  · have e : Fl.sameB a b = false := by
      unfold Fl.sameB
      rw [beq_eq_false_iff_ne]
      intro h2
      exact h (by rw [← hka, ← hkb, h2])
    rw [e]
    have t1 : (ka == kb) = false := by rw [beq_eq_false_iff_ne]; exact h
    clear ha hb hka hkb h e
    go_enter Try.func37, Try.ntmps37
    go_wp2_with fail
    refine (kindr_any a HA.out _).mono ?_; rintro e w1 ⟨rfl, rfl⟩
    rw [HKA.out]
    go_wp2_with fail
    refine (kindr_any b HB.out _).mono ?_; rintro e w1 ⟨rfl, rfl⟩
    rw [HKB.out]
    go_wp2
    go_ret
    exact ⟨rfl, rfl⟩
end Go.Proofs.Ytckcmhnhmobadaa
