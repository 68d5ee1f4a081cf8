/- The contracts of the reference's numbers with a floating point: Round, Whole. -/
import Derived.Test.YtndophkojnfcaaaR2B
set_option linter.unusedVariables false
set_option linter.unusedSimpArgs false
namespace Go.Proofs.Ytndophkojnfcaaa
open Go.RowKit

/-- What the reference's Round answers: a word made whole; the world stays. -/
def RoundR (way : Ieee.Toward) (x : Nat) (w : World) (e : Ending) (w' : World) : Prop := ∃ y, Fl.Rd way x y ∧ e = .returned (.tuple #[.float .f64 y, .int .i64 0]) ∧ w = w'
theorem RoundR.intro {way : Ieee.Toward} {x y : Nat} {w : World} (h : Fl.Rd way x y) : RoundR way x w (.returned (.tuple #[.float .f64 y, .int .i64 0])) w := ⟨y, h, rfl, rfl⟩
theorem mode_yes {m : Int} (h1 : 1 ≤ m) (h4 : m ≤ 4) : decide (1 ≤ m ∧ m ≤ 4) = true := decide_eq_true ⟨h1, h4⟩
set_option maxHeartbeats 1000000 in
theorem roundr_no (x : Nat) (m : Int) (hm : m < 1 ∨ 4 < m) (w : World) : Calls Try.prog 11 #[.float .f64 x, .int .i64 m] w fun e w' => e = .returned (.tuple #[.float .f64 0, .int .i64 4]) ∧ w = w' := by
  have H := Lib.hid (show decide (1 ≤ m ∧ m ≤ 4) = false from decide_eq_false (by omega))
  clear hm
  go_enter Try.func11, Try.ntmps11
  go_wp2_with fail
  refine (mode_any m _).mono ?_; rintro e w1 ⟨rfl, rfl⟩
  rw [H.out]
  go_wp2
  go_ret2
  exact ⟨rfl, rfl⟩
/-- A number of another kind than 2 and 5 stays. -/
theorem Rd_self {way : Ieee.Toward} {x : Nat} (hx : x < 18446744073709551616) (h : Fl.kd (Fl.rk x) ≠ 2 ∧ Fl.kd (Fl.rk x) ≠ 5) : Fl.Rd way x x := by
  refine ⟨hx, fun hn => hn, fun hn => ?_⟩
  rcases Fl.five hx with h1 | rfl | rfl | rfl | rfl | ⟨f, h0⟩
  · rw [hn] at h1; cases h1
  · exact (Fl.itg_inf (by decide) (by decide)).symm
  · exact (Fl.itg_inf (by decide) (by decide)).symm
  · exact (Fl.itg_self (by decide) Fl.fin_00 0 (by rw [show Fl.rg 0 = 0 by decide, Fl.val_0]; simp)).symm
  · exact (Fl.itg_self (by decide) (by unfold Fl.fin; decide) 0 (by rw [show Fl.rg 9223372036854775808 = 0 by decide, Fl.val_0]; simp)).symm
  · rcases Fl.kd_sign hx f h0 with ⟨k, _⟩ | ⟨k, _⟩
    · exact absurd k h.1
    · exact absurd k h.2
set_option maxHeartbeats 1000000 in
theorem roundr_self (x : Nat) (m : Int) (hx : x < 18446744073709551616) (h1 : 1 ≤ m) (h4 : m ≤ 4) (h : Fl.kd (Fl.rk x) ≠ 2 ∧ Fl.kd (Fl.rk x) ≠ 5) (w : World) : Calls Try.prog 11 #[.float .f64 x, .int .i64 m] w (RoundR (Fl.wayOf m) x w) := by
  have H := Lib.hid (mode_yes h1 h4)
  have R := Lib.hid (Rd_self (way := Fl.wayOf m) hx h)
  have HX := Lib.hid hx
  generalize hk : Fl.kd (Fl.rk x) = k at h
  have HK := Lib.hid hk
  have t1 : (k != 2) = true := by rw [bne_iff_ne]; exact h.1
  have t2 : (k != 5) = true := by rw [bne_iff_ne]; exact h.2
  clear h hx h1 h4 hk
  go_enter Try.func11, Try.ntmps11
  go_wp2_with fail
  refine (mode_any m _).mono ?_; rintro e w1 ⟨rfl, rfl⟩
  rw [H.out]
  go_wp2_with fail
  refine (kindr_any x HX.out _).mono ?_; rintro e w1 ⟨rfl, rfl⟩
  rw [HK.out]
  go_wp2
  go_ret2
  exact RoundR.intro R.out
set_option maxHeartbeats 2000000 in
theorem roundr_big (x : Nat) (m : Int) (hx : x < 18446744073709551616) (h1 : 1 ≤ m) (h4 : m ≤ 4) (hf : Fl.fin x) (h0 : Fl.rg x ≠ 0) (hb : 4503599627370496 * Fl.U ≤ Fl.val (Fl.rg x)) (w : World) : Calls Try.prog 11 #[.float .f64 x, .int .i64 m] w (RoundR (Fl.wayOf m) x w) := by
  have H := Lib.hid (mode_yes h1 h4)
  have R := Lib.hid (show Fl.Rd (Fl.wayOf m) x x from ⟨hx, fun hn => hn, fun _ => (Fl.itg_big hx hf hb).symm⟩)
  have HX := Lib.hid hx
  obtain ⟨v1, v2⟩ := Fl.V_52
  have g1 := Fl.ord_gt hf Fl.fin_52.1
  have g2 := Fl.ord_eq hf Fl.fin_52.1
  have g3 := Fl.ord_lt hf Fl.fin_52.2
  have g4 := Fl.ord_eq hf Fl.fin_52.2
  rw [v1] at g1 g2
  rw [v2] at g3 g4
  rcases Fl.kd_sign hx hf h0 with ⟨k, e⟩ | ⟨k, e⟩
  · have v : Fl.V x = -(Fl.val (Fl.rg x) : Int) := by unfold Fl.V; rw [e]; rfl
    rw [v] at g1 g2 g3 g4
    have p := Fl.val_pos h0
    have q1 := g1.trans (decide_eq_false (by omega))
    have q2 := g2.trans (decide_eq_false (by omega))
    have q3 : (FloatKind.f64.format.order x 14064741636278059008 == some Ordering.lt || FloatKind.f64.format.order x 14064741636278059008 == some Ordering.eq) = true := by rw [g3, g4]; simp; omega
    have HK := Lib.hid k
    clear g1 g2 g3 g4 v1 v2 v p e k hx h1 h4 hf h0 hb
    go_enter Try.func11, Try.ntmps11
    go_wp2_with fail
    refine (mode_any m _).mono ?_; rintro e w1 ⟨rfl, rfl⟩
    rw [H.out]
    go_wp2_with fail
    refine (kindr_any x HX.out _).mono ?_; rintro e w1 ⟨rfl, rfl⟩
    rw [HK.out]
    go_wp2
    go_ret2
    exact RoundR.intro R.out
  · have v : Fl.V x = (Fl.val (Fl.rg x) : Int) := by unfold Fl.V; rw [e]; rfl
    rw [v] at g1 g2 g3 g4
    have p := Fl.val_pos h0
    have q3 : (FloatKind.f64.format.order x 4841369599423283200 == some Ordering.gt || FloatKind.f64.format.order x 4841369599423283200 == some Ordering.eq) = true := by rw [g1, g2]; simp; omega
    have HK := Lib.hid k
    clear g1 g2 g3 g4 v1 v2 v p e k hx h1 h4 hf h0 hb
    go_enter Try.func11, Try.ntmps11
    go_wp2_with fail
    refine (mode_any m _).mono ?_; rintro e w1 ⟨rfl, rfl⟩
    rw [H.out]
    go_wp2_with fail
    refine (kindr_any x HX.out _).mono ?_; rintro e w1 ⟨rfl, rfl⟩
    rw [HK.out]
    go_wp2
    go_ret2
    exact RoundR.intro R.out
theorem neg_0 (w : World) : Sem.run Try.prog (Op.unary UnOp.neg (.float .f64 0)) w = .ok (.float .f64 9223372036854775808) w := by kernel_rfl
theorem nearest_0 : floatOfInt .f64 0 = 0 := by decide +kernel
set_option maxHeartbeats 2000000 in
theorem roundr_small (x : Nat) (m : Int) (hx : x < 18446744073709551616) (h1 : 1 ≤ m) (h4 : m ≤ 4) (hf : Fl.fin x) (h0 : Fl.rg x ≠ 0) (hb : Fl.val (Fl.rg x) < 4503599627370496 * Fl.U) (w : World) : Calls Try.prog 11 #[.float .f64 x, .int .i64 m] w (RoundR (Fl.wayOf m) x w) := by
  have H := Lib.hid (mode_yes h1 h4)
  have HX := Lib.hid hx
  have HF := Lib.hid hf
  have HB := Lib.hid hb
  have hq : Fl.val (Fl.rg x) / Fl.U < 4503599627370496 := by rw [Nat.div_lt_iff_lt_mul Fl.U_pos]; exact hb
  have wl := (Fl.whole_le (Fl.wayOf m) (Fl.ng x) (Fl.val (Fl.rg x))).2
  have wa := Fl.wn_abs (Fl.wayOf m) x
  have wi := Fl.itg_wn (way := Fl.wayOf m) hf (by omega) (by omega)
  obtain ⟨fn, vn⟩ := Fl.V_int (n := Fl.wn (Fl.wayOf m) x) (by omega) (by omega)
  have hN : FloatKind.f64.nearest (Fl.wn (Fl.wayOf m) x) < 18446744073709551616 := (Fl.near_int_fin (by omega) (by omega)).2
  have z1 := Fl.ord_eq fn Fl.fin_00
  rw [vn, Fl.V_00] at z1
  have hU := Fl.U_pos
  obtain ⟨v1, v2⟩ := Fl.V_52
  have g1 := Fl.ord_gt hf Fl.fin_52.1
  have g2 := Fl.ord_eq hf Fl.fin_52.1
  have g3 := Fl.ord_lt hf Fl.fin_52.2
  have g4 := Fl.ord_eq hf Fl.fin_52.2
  rw [v1] at g1 g2
  rw [v2] at g3 g4
  have vv := Fl.V_natAbs x
  have q1 := g1.trans (decide_eq_false (by omega))
  have q2 := g2.trans (decide_eq_false (by omega))
  have q3 := g3.trans (decide_eq_false (by omega))
  have q4 := g4.trans (decide_eq_false (by omega))
  have hW : Hid (∀ w, Calls Try.prog 48 #[.float .f64 x, .int .i64 m] w fun e w' => e = .returned (.int .i64 (Fl.wn (Fl.wayOf m) x)) ∧ w = w') := Lib.hid (fun w => whole_ref x m h1 h4 hf hb w)
  have hs := Fl.wn_sign (Fl.wayOf m) x
  generalize hn : Fl.wn (Fl.wayOf m) x = n at *
  have z2 : (FloatKind.f64.format.order (floatOfInt .f64 n) 0 == some Ordering.eq) = decide (n * (Fl.U : Int) = 0) := z1
  have WI := Lib.hid wi
  have HNN := Lib.hid hN
  clear wl wa wi fn vn z1 v1 v2 g1 g2 g3 g4 vv hb hq hN hf h1 h4
  by_cases hz : n = 0
  · subst hz
    have e0 := nearest_0
    have e1 := neg_0
    have z3 : (FloatKind.f64.format.order 0 0 == some Ordering.eq) = true := by decide +kernel
    rcases Fl.kd_sign hx HF.out h0 with ⟨k, e⟩ | ⟨k, e⟩
    · have R := Lib.hid (show Fl.Rd (Fl.wayOf m) x 9223372036854775808 from ⟨by decide, fun h => absurd h (by rw [Fl.fin_nan HF.out]; decide), fun _ => by rw [WI.out, if_pos rfl, e]; rfl⟩)
      have HK := Lib.hid k
      clear z2 k e hx h0 hs hU hn
      go_enter Try.func11, Try.ntmps11
      go_wp2_with fail
      refine (mode_any m _).mono ?_; rintro e w1 ⟨rfl, rfl⟩
      rw [H.out]
      go_wp2_with fail
      refine (kindr_any x HX.out _).mono ?_; rintro e w1 ⟨rfl, rfl⟩
      rw [HK.out]
      go_wp2_with fail
      refine (hW.out _).mono ?_; rintro e w1 ⟨rfl, rfl⟩
      go_wp2
      go_ret2
      exact RoundR.intro R.out
    · have R := Lib.hid (show Fl.Rd (Fl.wayOf m) x 0 from ⟨by decide, fun h => absurd h (by rw [Fl.fin_nan HF.out]; decide), fun _ => by rw [WI.out, if_pos rfl, e]; rfl⟩)
      have HK := Lib.hid k
      clear z2 k e hx h0 hs hU hn
      go_enter Try.func11, Try.ntmps11
      go_wp2_with fail
      refine (mode_any m _).mono ?_; rintro e w1 ⟨rfl, rfl⟩
      rw [H.out]
      go_wp2_with fail
      refine (kindr_any x HX.out _).mono ?_; rintro e w1 ⟨rfl, rfl⟩
      rw [HK.out]
      go_wp2_with fail
      refine (hW.out _).mono ?_; rintro e w1 ⟨rfl, rfl⟩
      go_wp2
      go_ret2
      exact RoundR.intro R.out
  · have z3 := z2.trans (decide_eq_false (show ¬ n * (Fl.U : Int) = 0 by
      intro h
      rcases Int.mul_eq_zero.1 h with h | h
      · exact hz h
      · omega))
    have R := Lib.hid (show Fl.Rd (Fl.wayOf m) x (floatOfInt .f64 n) from ⟨HNN.out, fun h => absurd h (by rw [Fl.fin_nan HF.out]; decide), fun _ => by rw [WI.out, if_neg hz]; rfl⟩)
    rcases Fl.kd_sign hx HF.out h0 with ⟨k, e⟩ | ⟨k, e⟩
    all_goals
      have HK := Lib.hid k
      clear z2 k e hx h0 hs hU hz hn
      go_enter Try.func11, Try.ntmps11
      go_wp2_with fail
      refine (mode_any m _).mono ?_; rintro e w1 ⟨rfl, rfl⟩
      rw [H.out]
      go_wp2_with fail
      refine (kindr_any x HX.out _).mono ?_; rintro e w1 ⟨rfl, rfl⟩
      rw [HK.out]
      go_wp2_with fail
      refine (hW.out _).mono ?_; rintro e w1 ⟨rfl, rfl⟩
      go_wp2
      go_ret2
      exact RoundR.intro R.out
theorem roundr_ok (x : Nat) (m : Int) (hx : x < 18446744073709551616) (h1 : 1 ≤ m) (h4 : m ≤ 4) (w : World) : Calls Try.prog 11 #[.float .f64 x, .int .i64 m] w (RoundR (Fl.wayOf m) x w) := by
  by_cases h : Fl.kd (Fl.rk x) = 2 ∨ Fl.kd (Fl.rk x) = 5
  · obtain ⟨f, h0⟩ := Fl.fin_25 hx h
    by_cases hb : 4503599627370496 * Fl.U ≤ Fl.val (Fl.rg x)
    · exact roundr_big x m hx h1 h4 f h0 hb w
    · exact roundr_small x m hx h1 h4 f h0 (by omega) w
  · exact roundr_self x m hx h1 h4 (by omega) w
end Go.Proofs.Ytndophkojnfcaaa
