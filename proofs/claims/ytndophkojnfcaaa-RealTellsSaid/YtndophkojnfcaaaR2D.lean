/- The contract of the reference's Whole. -/
import Derived.Test.YtndophkojnfcaaaR2C
set_option linter.unusedVariables false
set_option linter.unusedSimpArgs false
namespace Go.Proofs.Ytndophkojnfcaaa
open Go.RowKit

set_option maxHeartbeats 1000000 in
theorem wholer_no (x : Nat) (m : Int) (hm : m < 1 ∨ 4 < m) (w : World) : Calls Try.prog 13 #[.float .f64 x, .int .i64 m] w fun e w' => e = .returned (.tuple #[.int .i64 0, .int .i64 4]) ∧ w = w' := by
  go_enter Try.func13, Try.ntmps13
  go_wp2_with fail
  refine (roundr_no x m hm _).mono ?_; rintro e w1 ⟨rfl, rfl⟩
  go_wp2
  go_ret2
  exact ⟨rfl, rfl⟩
theorem kd_ne0 {y : Nat} (h : Fl.nan y = false) : (Fl.kd (Fl.rk y) == 0) = false := by
  rw [beq_eq_false_iff_ne]
  intro e
  have hi : Fl.inf = 9218868437227405312 := rfl
  have := Fl.nan_false.1 h
  have A := Fl.kd_cases (Fl.rk y) (Fl.rk_le y) (Fl.rk_gap y)
  cases hg : Fl.ng y
  · rw [Fl.rk_ps h hg] at A e; omega
  · rw [Fl.rk_ng h hg] at A e; omega
set_option maxHeartbeats 1000000 in
theorem wholer_any (x : Nat) (m : Int) (hx : x < 18446744073709551616) (h1 : 1 ≤ m) (h4 : m ≤ 4) (w : World) : Calls Try.prog 13 #[.float .f64 x, .int .i64 m] w fun e w' => e = .returned (.tuple #[.int .i64 (Fl.wv (Fl.wayOf m) x), .int .i64 (Fl.ww (Fl.wayOf m) x)]) ∧ w = w' := by
  generalize hw : Fl.wayOf m = way
  have HW := Lib.hid hw; clear hw
  have HX := Lib.hid hx; clear hx
  rcases Nat.lt_trichotomy (Fl.rg x) Fl.inf with h | h | h
  · have hn : Fl.nan x = false := Fl.nan_false.2 (by omega)
    have HH := Lib.hid h
    by_cases hr : -9223372036854775808 ≤ Fl.wn way x ∧ Fl.wn way x < 9223372036854775808
    · have e1 : Fl.ww way x = 0 := by unfold Fl.ww; rw [hn, if_neg (by decide), if_pos ⟨h, hr.1, hr.2⟩]
      have e2 : Fl.wv way x = Fl.wn way x := by unfold Fl.wv; rw [if_pos e1]
      rw [e1, e2]
      have HR := Lib.hid hr
      clear e1 e2 hn h hr
      go_enter Try.func13, Try.ntmps13
      go_wp2_with fail
      refine (roundr_ok x m HX.out h1 h4 _).mono ?_; rintro e w1 ⟨y, hy, rfl, rfl⟩
      rw [HW.out] at hy
      obtain ⟨f1, f2, f3, -, -⟩ := hy.fin HH.out
      have HL := Lib.hid hy.1
      have t1 := kd_ne0 f2
      have t2 := (Fl.ord_lo f1 f3).trans (decide_eq_false (by have := HR.out.1; omega))
      have t3 := (Fl.ord_hi f1 f3).1.trans (decide_eq_false (by have := HR.out.2; omega))
      have t4 := (Fl.ord_hi f1 f3).2.trans (decide_eq_false (by have := HR.out.2; omega))
      have t5 := conv_whole hy HH.out HR.out.1 HR.out.2
      clear hy f1 f2 f3
      go_wp2_with fail
      refine (kindr_any y HL.out _).mono ?_; rintro e w1 ⟨rfl, rfl⟩
      go_wp2
      go_ret2
      exact ⟨rfl, rfl⟩
    · have e1 : Fl.ww way x = 1 := by unfold Fl.ww; rw [hn, if_neg (by decide), if_neg (by omega)]
      have e2 : Fl.wv way x = 0 := by unfold Fl.wv; rw [if_neg (by rw [e1]; decide)]
      rw [e1, e2]
      have HR := Lib.hid hr
      clear e1 e2 hn h hr
      go_enter Try.func13, Try.ntmps13
      go_wp2_with fail
      refine (roundr_ok x m HX.out h1 h4 _).mono ?_; rintro e w1 ⟨y, hy, rfl, rfl⟩
      rw [HW.out] at hy
      obtain ⟨f1, f2, f3, -, -⟩ := hy.fin HH.out
      have HL := Lib.hid hy.1
      have t1 := kd_ne0 f2
      by_cases hhi : 9223372036854775808 < Fl.wn way x
      · have t3 := (Fl.ord_hi f1 f3).1.trans (decide_eq_true hhi)
        clear hy f1 f2 f3 hhi
        go_wp2_with fail
        refine (kindr_any y HL.out _).mono ?_; rintro e w1 ⟨rfl, rfl⟩
        go_wp2
        go_ret2
        exact ⟨rfl, rfl⟩
      · have t3 := (Fl.ord_hi f1 f3).1.trans (decide_eq_false hhi)
        by_cases heq : Fl.wn way x = 9223372036854775808
        · have t4 := (Fl.ord_hi f1 f3).2.trans (decide_eq_true heq)
          clear hy f1 f2 f3 hhi heq
          go_wp2_with fail
          refine (kindr_any y HL.out _).mono ?_; rintro e w1 ⟨rfl, rfl⟩
          go_wp2
          go_ret2
          exact ⟨rfl, rfl⟩
        · have t4 := (Fl.ord_hi f1 f3).2.trans (decide_eq_false heq)
          have t2 := (Fl.ord_lo f1 f3).trans (decide_eq_true (by have := HR.out; omega))
          clear hy f1 f2 f3 hhi heq
          go_wp2_with fail
          refine (kindr_any y HL.out _).mono ?_; rintro e w1 ⟨rfl, rfl⟩
          go_wp2
          go_ret2
          exact ⟨rfl, rfl⟩
  · have hn : Fl.nan x = false := Fl.nan_false.2 (by omega)
    have HH := Lib.hid h
    have e1 : Fl.ww way x = 1 := by unfold Fl.ww; rw [hn, if_neg (by decide), if_neg (by omega)]
    have e2 : Fl.wv way x = 0 := by unfold Fl.wv; rw [if_neg (by rw [e1]; decide)]
    rw [e1, e2]
    have t1 := kd_ne0 hn
    have t2 : (FloatKind.f64.format.order x 14114281232179134464 == some Ordering.lt) = Fl.ng x := by
      show (Ieee.double.order x 14114281232179134464 == some Ordering.lt) = _
      rw [Fl.order_inf1 h Fl.fin_lo]; cases Fl.ng x <;> rfl
    have t3 : (FloatKind.f64.format.order x 4890909195324358656 == some Ordering.gt) = !Fl.ng x := by
      show (Ieee.double.order x 4890909195324358656 == some Ordering.gt) = _
      rw [Fl.order_inf1 h Fl.fin_hi]; cases Fl.ng x <;> rfl
    have t4 : (FloatKind.f64.format.order x 4890909195324358656 == some Ordering.eq) = false := by
      show (Ieee.double.order x 4890909195324358656 == some Ordering.eq) = _
      rw [Fl.order_inf1 h Fl.fin_hi]; cases Fl.ng x <;> rfl
    clear e1 e2 hn h
    cases hg : Fl.ng x
    all_goals
      rw [hg] at t2 t3
      clear hg
      go_enter Try.func13, Try.ntmps13
      go_wp2_with fail
      refine (roundr_ok x m HX.out h1 h4 _).mono ?_; rintro e w1 ⟨y, hy, rfl, rfl⟩
      obtain rfl := hy.inf HX.out HH.out
      clear hy
      go_wp2_with fail
      refine (kindr_any y HX.out _).mono ?_; rintro e w1 ⟨rfl, rfl⟩
      go_wp2
      go_ret2
      exact ⟨rfl, rfl⟩
  · have hn : Fl.nan x = true := Fl.nan_true.2 h
    have e1 : Fl.ww way x = 18 := by unfold Fl.ww; rw [hn, if_pos rfl]
    have e2 : Fl.wv way x = 0 := by unfold Fl.wv; rw [if_neg (by rw [e1]; decide)]
    rw [e1, e2]
    have HN := Lib.hid hn
    clear e1 e2 hn h
    go_enter Try.func13, Try.ntmps13
    go_wp2_with fail
    refine (roundr_ok x m HX.out h1 h4 _).mono ?_; rintro e w1 ⟨y, hy, rfl, rfl⟩
    have HK := Lib.hid (Fl.kd_nan2 (hy.2.1 HN.out))
    have HL := Lib.hid hy.1
    clear hy
    go_wp2_with fail
    refine (kindr_any y HL.out _).mono ?_; rintro e w1 ⟨rfl, rfl⟩
    rw [HK.out]
    go_wp2
    go_ret2
    exact ⟨rfl, rfl⟩
end Go.Proofs.Ytndophkojnfcaaa
