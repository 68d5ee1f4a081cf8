/- The walk of RealTells: whatever is handed in, the law answers true; nothing old turns. -/
import Derived.Test.YtndophkojnfcaaaLiv2
import Derived.Test.YtndophkojnfcaaaRlC
set_option linter.unusedVariables false
set_option linter.unusedSimpArgs false
namespace Go.Proofs.Ytndophkojnfcaaa
open Go.RowKit Go.Sort Go.Pairs

theorem FlS.at_below {w W : World} {v : Value} {l : List Nat} (h : FlS w v l) (k : Below w.heap.size w W) : FlS W v l := h.on k
set_option maxHeartbeats 16000000 in
set_option maxRecDepth 100000 in
theorem rl_walk (a b : Nat) (m : Int) (A : Option Addr) (n c : Nat) (l : List Nat) (z : Int) (w : World) (ha : a < 18446744073709551616) (hb : b < 18446744073709551616) (h : FlS w (.slice A n c) l) (hc : n ≤ c) (hm : c ≤ maxLen) (hw : ∀ x ∈ l, x < 18446744073709551616)
    (hz0 : -9223372036854775808 ≤ z) (hz1 : z ≤ 9223372036854775807) :
    Calls Try.prog 3 #[.float .f64 a, .float .f64 b, .int .i64 m, .slice A n c, .int .i64 z] w fun e w' => e = .returned (.bool true) ∧ Below w.heap.size w w' := by
  have H := Lib.hid h
  have HA := Lib.hid ha
  have HB := Lib.hid hb
  have HW := Lib.hid hw
  have HC := Lib.hid hc
  have HM := Lib.hid hm
  have hn0 : (n : Int) ≤ 9223372036854775807 := by unfold maxLen at hm; omega
  have HZ : Hid (FloatKind.f64.nearest z < 18446744073709551616) := Lib.hid (Fl.near_int_fin hz0 hz1).2
  have SZ : Hid (Fl.sameB (FloatKind.f64.nearest z) (FloatKind.f64.nearest z) = true) := Lib.hid (by unfold Fl.sameB; simp)
  clear h ha hb hw hc hm
  by_cases hbig : 100 < n
  · have i1 : (100 : Int) < (n : Int) := by omega
    clear hbig
    go_enter Try.func3, Try.ntmps3
    go_wp2_with fail
    refine (lives2 _).mono ?_; rintro e w1 ⟨rfl, bel⟩
    have BB := Lib.hid bel
    clear bel
    go_wp2
    go_ret
    exact ⟨rfl, BB.out⟩
  · have i1 : decide ((100 : Int) < (n : Int)) = false := decide_eq_false (by omega)
    have i2 : decide (100 < n) = false := decide_eq_false (by omega)
    clear hbig
    go_enter Try.func3, Try.ntmps3
    go_wp2_with fail
    refine (round_all a m HA.out _).mono ?_; rintro e w1 ⟨y1, hy1, rfl, n1, rfl⟩
    have Y1 := Lib.hid hy1; clear hy1
    go_wp2_with fail
    refine (roundr_all a m HA.out _).mono ?_; rintro e w1 ⟨y2, hy2, rfl, n2, rfl⟩
    have Y2 := Lib.hid hy2; clear hy2
    go_wp2_with fail
    refine (whole_all a m HA.out _).mono ?_; rintro e w1 ⟨rfl, n3, rfl⟩
    go_wp2_with fail
    refine (wholer_all a m HA.out _).mono ?_; rintro e w1 ⟨rfl, n4, rfl⟩
    generalize Fl.rde m = re at *
    generalize Fl.wvm m a = wv at *
    generalize Fl.wwm m a = ww at *
    have S12 := Lib.hid (Fl.sameB_of Y1.out Y2.out)
    have Z1 := Lib.hid Y1.out.1
    have Z2 := Lib.hid Y2.out.1
    clear Y1 Y2
    go_wp2_with fail
    refine (least_all A n c l _ (H.out.on (by repeat (first | exact Below.refl _ _ | refine below_drewN ?_ _))) HC.out HM.out HW.out).mono ?_; rintro e w1 ⟨rfl, rfl⟩
    go_wp2_with fail
    refine (rleast_all A n c l _ (H.out.on (by repeat (first | exact Below.refl _ _ | refine below_drewN ?_ _))) HC.out HM.out HW.out).mono ?_; rintro e w1 ⟨rfl, rfl⟩
    have ZM : Hid (Fl.mn l < 18446744073709551616) := Lib.hid (by
      by_cases h0 : l = []
      · rw [h0]; decide
      · exact HW.out _ (Fl.mn_mem l h0).1)
    have SM : Hid (Fl.sameB (Fl.mn l) (Fl.mn l) = true) := Lib.hid (by unfold Fl.sameB; simp)
    generalize Fl.mn l = mm at *
    generalize decide (0 < n) = pp at *
    go_wp2_with fail
    refine (kind_any a HA.out _).mono ?_; rintro e w1 ⟨rfl, rfl⟩
    go_wp2_with fail
    refine (kindr_any a HA.out _).mono ?_; rintro e w1 ⟨rfl, rfl⟩
    generalize Fl.kd (Fl.rk a) = kk at *
    go_wp2_with fail
    refine (same_any a b HA.out HB.out _).mono ?_; rintro e w1 ⟨rfl, rfl⟩
    go_wp2_with fail
    refine (samer_any a b HA.out HB.out _).mono ?_; rintro e w1 ⟨rfl, rfl⟩
    generalize Fl.sameB a b = sab at *
    go_wp2_with fail
    refine (less_any a b HA.out HB.out _).mono ?_; rintro e w1 ⟨rfl, rfl⟩
    go_wp2_with fail
    refine (lessr_any a b HA.out HB.out _).mono ?_; rintro e w1 ⟨rfl, rfl⟩
    generalize Fl.lessB a b = lab at *
    go_wp2_with fail
    refine (samer_any y1 y2 Z1.out Z2.out _).mono ?_; rintro e w1 ⟨rfl, rfl⟩
    rw [S12.out]
    go_wp2_with fail
    refine (samer_any mm mm ZM.out ZM.out _).mono ?_; rintro e w1 ⟨rfl, rfl⟩
    rw [SM.out]
    go_wp2_with fail
    refine (sum_all A n c l _ (H.out.on (by repeat (first | exact Below.refl _ _ | refine below_drewN ?_ _))) HC.out HM.out HW.out).mono ?_; rintro e w1 ⟨r1, hr1, rfl, n5, rfl⟩
    have R1 := Lib.hid hr1; clear hr1
    go_wp2_with fail
    refine (rsum_all A n c l _ (H.out.on (by repeat (first | exact Below.refl _ _ | refine below_drewN ?_ _))) HC.out HM.out HW.out).mono ?_; rintro e w1 ⟨r2, hr2, rfl, n6, rfl⟩
    have R2 := Lib.hid hr2; clear hr2
    have SR := Lib.hid (Fl.sameB_of R1.out R2.out)
    have ZR1 := Lib.hid R1.out.1
    have ZR2 := Lib.hid R2.out.1
    clear R1 R2
    go_wp2_with fail
    refine (samer_any r1 r2 ZR1.out ZR2.out _).mono ?_; rintro e w1 ⟨rfl, rfl⟩
    rw [SR.out]
    go_wp2_with fail
    refine (real_of z _).mono ?_; rintro e w1 ⟨rfl, rfl⟩
    go_wp2_with fail
    refine (samer_any (FloatKind.f64.nearest z) (FloatKind.f64.nearest z) HZ.out HZ.out _).mono ?_; rintro e w1 ⟨rfl, rfl⟩
    rw [SZ.out]
    go_wp2_with fail
    refine (lives2 _).mono ?_; rintro e w1 ⟨rfl, bel⟩
    have BB := Lib.hid bel
    clear bel
    go_wp2
    go_ret
    exact ⟨rfl, below_step (by repeat (first | exact Below.refl _ _ | refine below_drewN ?_ _)) BB.out⟩
end Go.Proofs.Ytndophkojnfcaaa

