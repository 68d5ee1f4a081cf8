/- The walk of TopHours: whatever is handed in, the law answers true; nothing old turns. -/
import Derived.Test.YtpjddkcoolggaabLonC
import Derived.Test.YtpjddkcoolggaabSpB
import Derived.IntWalk
set_option linter.unusedVariables false
set_option linter.unusedSimpArgs false
namespace Go.Proofs.Ytpjddkcoolggaab
open Go.RowKit Go.Sort

namespace Th
def F (h : Int) : Nat := floatOfInt .f64 (15 * h)
set_option maxRecDepth 100000 in
theorem off_all : ∀ k : Fin 25, ∀ m : Fin 4, lonV (F ((k.val : Int) - 12)) (Fl.cop .mul (F ((k.val : Int) - 12)) c240) ((m.val : Int) + 1) = ((k.val : Int) - 12) * 3600 ∧ lonW (F ((k.val : Int) - 12)) (Fl.cop .mul (F ((k.val : Int) - 12)) c240) ((m.val : Int) + 1) = 0 := by decide +kernel
set_option maxRecDepth 100000 in
theorem hours_all : ∀ k : Fin 25, lonV (F ((k.val : Int) - 12)) (Fl.cop .quo (F ((k.val : Int) - 12)) c15) 4 = (k.val : Int) - 12 ∧ lonW (F ((k.val : Int) - 12)) (Fl.cop .quo (F ((k.val : Int) - 12)) c15) 4 = 0 ∧ cdeg (((k.val : Int) - 12) * 3600) = F ((k.val : Int) - 12) ∧ wdeg (((k.val : Int) - 12) * 3600) = 0 ∧ Fl.nan (F ((k.val : Int) - 12)) = false := by decide +kernel
theorem off_h {h m : Int} (h0 : -12 ≤ h) (h1 : h ≤ 12) (m0 : 1 ≤ m) (m1 : m ≤ 4) : lonV (F h) (Fl.cop .mul (F h) c240) m = h * 3600 ∧ lonW (F h) (Fl.cop .mul (F h) c240) m = 0 := by
  have e := off_all ⟨(h + 12).toNat, by omega⟩ ⟨(m - 1).toNat, by omega⟩
  have e1 : (((h + 12).toNat : Nat) : Int) - 12 = h := by omega
  have e2 : (((m - 1).toNat : Nat) : Int) + 1 = m := by omega
  simp only [e1, e2] at e
  exact e
theorem hours_h {h : Int} (h0 : -12 ≤ h) (h1 : h ≤ 12) : lonV (F h) (Fl.cop .quo (F h) c15) 4 = h ∧ lonW (F h) (Fl.cop .quo (F h) c15) 4 = 0 ∧ cdeg (h * 3600) = F h ∧ wdeg (h * 3600) = 0 ∧ Fl.nan (F h) = false := by
  have e := hours_all ⟨(h + 12).toNat, by omega⟩
  have e1 : (((h + 12).toNat : Nat) : Int) - 12 = h := by omega
  simp only [e1] at e
  exact e
theorem ln_moved (x0 x1 n : Int) : Sp.ln (x0 + n) (x1 + n) = Sp.ln x0 x1 ∧ Sp.lw (x0 + n) (x1 + n) = Sp.lw x0 x1 := by
  unfold Sp.ln Sp.lw Sp.rb
  have e1 : decide (x0 + n < x1 + n) = decide (x0 < x1) := by rw [Bool.eq_iff_iff]; simp
  have e2 : x1 + n - (x0 + n) = x1 - x0 := by omega
  rw [e1, e2]; exact ⟨rfl, rfl⟩
theorem hs_moved (x0 x1 t n : Int) : Sp.hs (x0 + n) (x1 + n) (t + n) = Sp.hs x0 x1 t := by
  unfold Sp.hs
  rw [Bool.eq_iff_iff]; simp <;> omega
end Th
set_option maxHeartbeats 4000000 in
set_option maxRecDepth 100000 in
theorem toph_a (h x0 x1 t : Int) (w : World) (hh : h < -12) :
    Calls Try.prog 8 #[.int .i64 h, .agg #[.int .i64 x0, .int .i64 x1], .int .i64 t] w fun e w' => e = .returned (.bool true) ∧ Below w.heap.size w w' := by
  go_enter Try.func8, Try.ntmps8
  go_wp2_with fail
  refine (lonoff_any 4624633867356078080 1 _).mono ?_; rintro e w1 ⟨rfl, k1, rfl⟩
  rw [show lonV 4624633867356078080 (Fl.cop .mul 4624633867356078080 c240) 1 = 3600 by decide +kernel, show lonW 4624633867356078080 (Fl.cop .mul 4624633867356078080 c240) 1 = 0 by decide +kernel]
  go_wp2
  go_ret
  exact ⟨rfl, by repeat (first | exact Below.refl _ _ | refine below_drewN ?_ _ | refine Below.alloc ?_ (by simp) _)⟩
set_option maxHeartbeats 4000000 in
set_option maxRecDepth 100000 in
theorem toph_b (h x0 x1 t : Int) (w : World) (h0 : -12 ≤ h) (hh : 12 < h) :
    Calls Try.prog 8 #[.int .i64 h, .agg #[.int .i64 x0, .int .i64 x1], .int .i64 t] w fun e w' => e = .returned (.bool true) ∧ Below w.heap.size w w' := by
  go_enter Try.func8, Try.ntmps8
  go_wp2_with fail
  refine (lonoff_any 4624633867356078080 1 _).mono ?_; rintro e w1 ⟨rfl, k1, rfl⟩
  rw [show lonV 4624633867356078080 (Fl.cop .mul 4624633867356078080 c240) 1 = 3600 by decide +kernel, show lonW 4624633867356078080 (Fl.cop .mul 4624633867356078080 c240) 1 = 0 by decide +kernel]
  go_wp2
  go_ret
  exact ⟨rfl, by repeat (first | exact Below.refl _ _ | refine below_drewN ?_ _ | refine Below.alloc ?_ (by simp) _)⟩
set_option maxHeartbeats 4000000 in
set_option maxRecDepth 100000 in
theorem toph_c (h x0 x1 t : Int) (w : World) (h0 : -12 ≤ h) (h1 : h ≤ 12) (hh : 1152921504606846976 < t) :
    Calls Try.prog 8 #[.int .i64 h, .agg #[.int .i64 x0, .int .i64 x1], .int .i64 t] w fun e w' => e = .returned (.bool true) ∧ Below w.heap.size w w' := by
  go_enter Try.func8, Try.ntmps8
  go_wp2_with fail
  refine (lonoff_any 4624633867356078080 1 _).mono ?_; rintro e w1 ⟨rfl, k1, rfl⟩
  rw [show lonV 4624633867356078080 (Fl.cop .mul 4624633867356078080 c240) 1 = 3600 by decide +kernel, show lonW 4624633867356078080 (Fl.cop .mul 4624633867356078080 c240) 1 = 0 by decide +kernel]
  go_wp2
  go_ret
  exact ⟨rfl, by repeat (first | exact Below.refl _ _ | refine below_drewN ?_ _ | refine Below.alloc ?_ (by simp) _)⟩
set_option maxHeartbeats 4000000 in
set_option maxRecDepth 100000 in
theorem toph_d (h x0 x1 t : Int) (w : World) (h0 : -12 ≤ h) (h1 : h ≤ 12) (t1 : t ≤ 1152921504606846976) (hh : t < -1152921504606846976) :
    Calls Try.prog 8 #[.int .i64 h, .agg #[.int .i64 x0, .int .i64 x1], .int .i64 t] w fun e w' => e = .returned (.bool true) ∧ Below w.heap.size w w' := by
  go_enter Try.func8, Try.ntmps8
  go_wp2_with fail
  refine (lonoff_any 4624633867356078080 1 _).mono ?_; rintro e w1 ⟨rfl, k1, rfl⟩
  rw [show lonV 4624633867356078080 (Fl.cop .mul 4624633867356078080 c240) 1 = 3600 by decide +kernel, show lonW 4624633867356078080 (Fl.cop .mul 4624633867356078080 c240) 1 = 0 by decide +kernel]
  go_wp2
  go_ret
  exact ⟨rfl, by repeat (first | exact Below.refl _ _ | refine below_drewN ?_ _ | refine Below.alloc ?_ (by simp) _)⟩
set_option maxHeartbeats 8000000 in
set_option maxRecDepth 100000 in
theorem toph_no (h x0 x1 t : Int) (w : World) (h0 : -12 ≤ h) (h1 : h ≤ 12) (t1 : t ≤ 1152921504606846976) (t0 : -1152921504606846976 ≤ t) (hx0 : -9223372036854775808 ≤ x0 ∧ x0 ≤ 9223372036854775807) (hx1 : -9223372036854775808 ≤ x1 ∧ x1 ≤ 9223372036854775807) (hm : Sp.mv x0 x1 (h * 3600) = false) :
    Calls Try.prog 8 #[.int .i64 h, .agg #[.int .i64 x0, .int .i64 x1], .int .i64 t] w fun e w' => e = .returned (.bool true) ∧ Below w.heap.size w w' := by
  have HM := Lib.hid hm
  have HX := Lib.hid (And.intro hx0 hx1)
  have HB : Hid (false = true → (-9223372036854775808 ≤ x0 + h * 3600 ∧ x0 + h * 3600 ≤ 9223372036854775807) ∧ (-9223372036854775808 ≤ x1 + h * 3600 ∧ x1 + h * 3600 ≤ 9223372036854775807)) := Lib.hid (by
    intro e
    rw [e] at hm
    unfold Sp.mv at hm
    rw [Bool.and_eq_true, Bool.and_eq_true] at hm
    exact ⟨Nm.fits_true.1 hm.1.2, Nm.fits_true.1 hm.2⟩)
  have O1 := Lib.hid (Th.off_h (m := 1) h0 h1 (by decide) (by decide))
  have O2 := Lib.hid (Th.off_h (m := 2) h0 h1 (by decide) (by decide))
  have O3 := Lib.hid (Th.off_h (m := 3) h0 h1 (by decide) (by decide))
  have O4 := Lib.hid (Th.off_h (m := 4) h0 h1 (by decide) (by decide))
  have HH := Lib.hid (Th.hours_h h0 h1)
  have HN := Lib.hid ((Fl.ord_self (Th.F h)).trans HH.out.2.2.2.2)
  have HL := Lib.hid (Th.ln_moved x0 x1 (h * 3600))
  have HS := Lib.hid (Th.hs_moved x0 x1 t (h * 3600))
  clear hm hx0 hx1
  go_enter Try.func8, Try.ntmps8
  go_wp2_with fail
  refine (lonoff_any 4624633867356078080 1 _).mono ?_; rintro e w1 ⟨rfl, k1, rfl⟩
  rw [show lonV 4624633867356078080 (Fl.cop .mul 4624633867356078080 c240) 1 = 3600 by decide +kernel, show lonW 4624633867356078080 (Fl.cop .mul 4624633867356078080 c240) 1 = 0 by decide +kernel]
  go_wp2_with fail
  refine wp_loop_rounds 5 ?_
  rw [rounds_succ]
  go_wp2_with fail
  rw [show floatOfInt .f64 (15 * h) = Th.F h from rfl]
  refine (lonoff_any (Th.F h) 1 _).mono ?_; rintro e v1 ⟨rfl, j1, rfl⟩
  rw [O1.out.1, O1.out.2]
  go_wp2_with fail
  rw [rounds_succ]
  go_wp2_with fail
  rw [show floatOfInt .f64 (15 * h) = Th.F h from rfl]
  refine (lonoff_any (Th.F h) 2 _).mono ?_; rintro e v2 ⟨rfl, j2, rfl⟩
  rw [O2.out.1, O2.out.2]
  go_wp2_with fail
  rw [rounds_succ]
  go_wp2_with fail
  rw [show floatOfInt .f64 (15 * h) = Th.F h from rfl]
  refine (lonoff_any (Th.F h) 3 _).mono ?_; rintro e v3 ⟨rfl, j3, rfl⟩
  rw [O3.out.1, O3.out.2]
  go_wp2_with fail
  rw [rounds_succ]
  go_wp2_with fail
  rw [show floatOfInt .f64 (15 * h) = Th.F h from rfl]
  refine (lonoff_any (Th.F h) 4 _).mono ?_; rintro e v4 ⟨rfl, j4, rfl⟩
  rw [O4.out.1, O4.out.2]
  go_wp2_with fail
  rw [rounds_succ]
  go_wp2_with fail
  rw [show floatOfInt .f64 (15 * h) = Th.F h from rfl]
  refine (lonhours_any (Th.F h) _).mono ?_; rintro e v5 ⟨rfl, j5, rfl⟩
  rw [HH.out.1, HH.out.2.1]
  go_wp2_with fail
  refine (lon_deg (h * 3600) _).mono ?_; rintro e v6 ⟨r6, h6, rfl, j6, rfl⟩
  rw [HH.out.2.2.1] at h6
  obtain rfl := Eqv_val h6 HH.out.2.2.2.2
  rw [HH.out.2.2.2.1]
  clear h6
  have hn : (FloatKind.f64.format.order (floatOfInt .f64 (15 * h)) (floatOfInt .f64 (15 * h)) != some Ordering.eq) = false := HN.out
  rw [show Th.F h = floatOfInt .f64 (15 * h) from rfl]
  go_wp2_with fail
  refine (span_move x0 x1 (h * 3600) _ HX.out.1.1 HX.out.1.2 HX.out.2.1 HX.out.2.2 (by omega) (by omega)).mono ?_; rintro e w1 ⟨rfl, b1⟩
  have d1 : Below w.heap.size w w1 := below_step (by repeat (first | exact Below.refl _ _ | refine below_drewN ?_ _ | refine Below.drew ?_ | refine Below.setCell ?_ (by first | (simp; done) | (simp; omega) | omega) _ | refine Below.alloc ?_ (by first | (simp; done) | (simp; omega) | omega) _)) b1
  have B1 := Lib.hid d1
  have S1 : Bk2 w1 (w.heap.size) (.int .i64 x0) (.int .i64 x1) := Bk2.of b1 (by simp <;> omega) (by intro j; simp [go_sem]) (by simp [go_sem]) (by simp [go_sem])
  clear b1 d1
  rw [HM.out]
  simp only [Sp.bz, Sp.why, if_true, Bool.false_eq_true, if_false]
  have cS_b := S1.hb
  have cS_f := S1.fz
  have cS_0 := S1.k0
  have cS_1 := S1.k1
  go_wp2_with fail
  clear cS_b cS_f cS_0 cS_1
  refine (span_len x0 x1 _ HX.out.1.1 HX.out.1.2 HX.out.2.1 HX.out.2.2).mono ?_; rintro e w2 ⟨rfl, b2⟩
  have d2 : Below w1.heap.size w1 w2 := below_step (by repeat (first | exact Below.refl _ _ | refine below_drewN ?_ _ | refine Below.drew ?_ | refine Below.setCell ?_ (by first | (simp; done) | (simp; omega) | omega) _ | refine Below.alloc ?_ (by first | (simp; done) | (simp; omega) | omega) _)) b2
  have B2 := Lib.hid (below_step B1.out d2)
  have S2 := S1.keep d2
  have aU := B1.out.size
  have nUS := Nat.ne_of_lt S1.hb
  have oUS := Nat.ne_of_gt S1.hb
  have U2 : Bk2 w2 (w1.heap.size) (.int .i64 0) (.int .i64 0) := Bk2.of b2 (by simp <;> omega) (by intro j; simp [go_sem]) (by simp [go_sem]) (by simp [go_sem])
  clear S1 b2 d2 B1
  have cS_b := S2.hb
  have cS_f := S2.fz
  have cS_0 := S2.k0
  have cS_1 := S2.k1
  have cU_b := U2.hb
  have cU_f := U2.fz
  have cU_0 := U2.k0
  have cU_1 := U2.k1
  go_wp2_with fail
  clear cS_b cS_f cS_0 cS_1 cU_b cU_f cU_0 cU_1
  refine (span_len 0 0 _ (by decide) (by decide) (by decide) (by decide)).mono ?_; rintro e w3 ⟨rfl, b3⟩
  have d3 : Below w2.heap.size w2 w3 := below_step (by repeat (first | exact Below.refl _ _ | refine below_drewN ?_ _ | refine Below.drew ?_ | refine Below.setCell ?_ (by first | (simp; done) | (simp; omega) | omega) _ | refine Below.alloc ?_ (by first | (simp; done) | (simp; omega) | omega) _)) b3
  have B3 := Lib.hid (below_step B2.out d3)
  have S3 := S2.keep d3
  have U3 := U2.keep d3
  clear S2 U2 b3 d3 B2
  generalize Sp.ln x0 x1 = n1; generalize Sp.lw x0 x1 = n2; rw [show Sp.ln 0 0 = 0 by decide, show Sp.lw 0 0 = 1 by decide]
  have cS_b := S3.hb
  have cS_f := S3.fz
  have cS_0 := S3.k0
  have cS_1 := S3.k1
  have cU_b := U3.hb
  have cU_f := U3.fz
  have cU_0 := U3.k0
  have cU_1 := U3.k1
  go_wp2_with fail
  clear cS_b cS_f cS_0 cS_1 cU_b cU_f cU_0 cU_1
  refine wp_named ?_; intro w4 hw4
  have d4 : Below w3.heap.size w3 w4 := by rw [hw4]; exact (by repeat (first | exact Below.refl _ _ | refine below_drewN ?_ _ | refine Below.drew ?_ | refine Below.setCell ?_ (by first | (simp; done) | (simp; omega) | omega) _ | refine Below.alloc ?_ (by first | (simp; done) | (simp; omega) | omega) _))
  have B4 := Lib.hid (below_step B3.out d4)
  have S4 := S3.keep d4
  have U4 := U3.keep d4
  clear S3 U3 d4 hw4 B3
  have s1 : IntKind.i64.wrap (h * 3600) = h * 3600 := IntWalk.i64_in _ (by omega)
  have s2 : IntKind.i64.wrap (t + h * 3600) = t + h * 3600 := IntWalk.i64_in _ (by omega)
  have cS_b := S4.hb
  have cS_f := S4.fz
  have cS_0 := S4.k0
  have cS_1 := S4.k1
  have cU_b := U4.hb
  have cU_f := U4.fz
  have cU_0 := U4.k0
  have cU_1 := U4.k1
  have qS_0 := cell_regrown S4.k0
  have qS_1 := cell_regrown S4.k1
  have qU_0 := cell_regrown U4.k0
  have qU_1 := cell_regrown U4.k1
  refine wp_region_qb (w := w4) (by kernel_rfl) (by kernel_rfl) (by repeat (first | exact Below.refl _ _ | refine below_drewN ?_ _ | refine Below.drew ?_ | refine Below.setCell ?_ (by first | (simp; done) | (simp; omega) | omega) _ | refine Below.alloc ?_ (by first | (simp; done) | (simp; omega) | omega) _)) ?_
  repeat (any_goals (first | go_big_quiet_step (fail) | quiet_step (fail)))
  refine wpQuiet_nil ?_
  intro w5 hq
  have b5 : Below w4.heap.size w4 w5 := by obtain ⟨p, hq⟩ := hq; rw [hq]; exact below_regrown _ _ _
  clear hq qS_0 qS_1 qU_0 qU_1
  have d5 : Below w4.heap.size w4 w5 := below_step (by repeat (first | exact Below.refl _ _ | refine below_drewN ?_ _ | refine Below.drew ?_ | refine Below.setCell ?_ (by first | (simp; done) | (simp; omega) | omega) _ | refine Below.alloc ?_ (by first | (simp; done) | (simp; omega) | omega) _)) b5
  have B5 := Lib.hid (below_step B4.out d5)
  have S5 := S4.keep d5
  have U5 := U4.keep d5
  clear S4 U4 b5 d5 B4
  clear cS_b cS_f cS_0 cS_1 cU_b cU_f cU_0 cU_1
  clear s1 s2
  skip
  have cS_b := S5.hb
  have cS_f := S5.fz
  have cS_0 := S5.k0
  have cS_1 := S5.k1
  have cU_b := U5.hb
  have cU_f := U5.fz
  have cU_0 := U5.k0
  have cU_1 := U5.k1
  go_wp2_with fail
  clear cS_b cS_f cS_0 cS_1 cU_b cU_f cU_0 cU_1
  go_ret
  exact ⟨rfl, (by have hz := B5.out.size; repeat (first | exact B5.out | refine below_drewN ?_ _ | refine Below.drew ?_ | refine Below.setCell ?_ (by first | omega | (simp; done) | (simp; omega)) _ | refine Below.alloc ?_ (by first | omega | (simp; done) | (simp; omega)) _))⟩
set_option maxHeartbeats 8000000 in
set_option maxRecDepth 100000 in
theorem toph_yes (h x0 x1 t : Int) (w : World) (h0 : -12 ≤ h) (h1 : h ≤ 12) (t1 : t ≤ 1152921504606846976) (t0 : -1152921504606846976 ≤ t) (hx0 : -9223372036854775808 ≤ x0 ∧ x0 ≤ 9223372036854775807) (hx1 : -9223372036854775808 ≤ x1 ∧ x1 ≤ 9223372036854775807) (hm : Sp.mv x0 x1 (h * 3600) = true) :
    Calls Try.prog 8 #[.int .i64 h, .agg #[.int .i64 x0, .int .i64 x1], .int .i64 t] w fun e w' => e = .returned (.bool true) ∧ Below w.heap.size w w' := by
  have HM := Lib.hid hm
  have HX := Lib.hid (And.intro hx0 hx1)
  have HB : Hid (true = true → (-9223372036854775808 ≤ x0 + h * 3600 ∧ x0 + h * 3600 ≤ 9223372036854775807) ∧ (-9223372036854775808 ≤ x1 + h * 3600 ∧ x1 + h * 3600 ≤ 9223372036854775807)) := Lib.hid (by
    intro e
    rw [e] at hm
    unfold Sp.mv at hm
    rw [Bool.and_eq_true, Bool.and_eq_true] at hm
    exact ⟨Nm.fits_true.1 hm.1.2, Nm.fits_true.1 hm.2⟩)
  have O1 := Lib.hid (Th.off_h (m := 1) h0 h1 (by decide) (by decide))
  have O2 := Lib.hid (Th.off_h (m := 2) h0 h1 (by decide) (by decide))
  have O3 := Lib.hid (Th.off_h (m := 3) h0 h1 (by decide) (by decide))
  have O4 := Lib.hid (Th.off_h (m := 4) h0 h1 (by decide) (by decide))
  have HH := Lib.hid (Th.hours_h h0 h1)
  have HN := Lib.hid ((Fl.ord_self (Th.F h)).trans HH.out.2.2.2.2)
  have HL := Lib.hid (Th.ln_moved x0 x1 (h * 3600))
  have HS := Lib.hid (Th.hs_moved x0 x1 t (h * 3600))
  clear hm hx0 hx1
  go_enter Try.func8, Try.ntmps8
  go_wp2_with fail
  refine (lonoff_any 4624633867356078080 1 _).mono ?_; rintro e w1 ⟨rfl, k1, rfl⟩
  rw [show lonV 4624633867356078080 (Fl.cop .mul 4624633867356078080 c240) 1 = 3600 by decide +kernel, show lonW 4624633867356078080 (Fl.cop .mul 4624633867356078080 c240) 1 = 0 by decide +kernel]
  go_wp2_with fail
  refine wp_loop_rounds 5 ?_
  rw [rounds_succ]
  go_wp2_with fail
  rw [show floatOfInt .f64 (15 * h) = Th.F h from rfl]
  refine (lonoff_any (Th.F h) 1 _).mono ?_; rintro e v1 ⟨rfl, j1, rfl⟩
  rw [O1.out.1, O1.out.2]
  go_wp2_with fail
  rw [rounds_succ]
  go_wp2_with fail
  rw [show floatOfInt .f64 (15 * h) = Th.F h from rfl]
  refine (lonoff_any (Th.F h) 2 _).mono ?_; rintro e v2 ⟨rfl, j2, rfl⟩
  rw [O2.out.1, O2.out.2]
  go_wp2_with fail
  rw [rounds_succ]
  go_wp2_with fail
  rw [show floatOfInt .f64 (15 * h) = Th.F h from rfl]
  refine (lonoff_any (Th.F h) 3 _).mono ?_; rintro e v3 ⟨rfl, j3, rfl⟩
  rw [O3.out.1, O3.out.2]
  go_wp2_with fail
  rw [rounds_succ]
  go_wp2_with fail
  rw [show floatOfInt .f64 (15 * h) = Th.F h from rfl]
  refine (lonoff_any (Th.F h) 4 _).mono ?_; rintro e v4 ⟨rfl, j4, rfl⟩
  rw [O4.out.1, O4.out.2]
  go_wp2_with fail
  rw [rounds_succ]
  go_wp2_with fail
  rw [show floatOfInt .f64 (15 * h) = Th.F h from rfl]
  refine (lonhours_any (Th.F h) _).mono ?_; rintro e v5 ⟨rfl, j5, rfl⟩
  rw [HH.out.1, HH.out.2.1]
  go_wp2_with fail
  refine (lon_deg (h * 3600) _).mono ?_; rintro e v6 ⟨r6, h6, rfl, j6, rfl⟩
  rw [HH.out.2.2.1] at h6
  obtain rfl := Eqv_val h6 HH.out.2.2.2.2
  rw [HH.out.2.2.2.1]
  clear h6
  have hn : (FloatKind.f64.format.order (floatOfInt .f64 (15 * h)) (floatOfInt .f64 (15 * h)) != some Ordering.eq) = false := HN.out
  rw [show Th.F h = floatOfInt .f64 (15 * h) from rfl]
  go_wp2_with fail
  refine (span_move x0 x1 (h * 3600) _ HX.out.1.1 HX.out.1.2 HX.out.2.1 HX.out.2.2 (by omega) (by omega)).mono ?_; rintro e w1 ⟨rfl, b1⟩
  have d1 : Below w.heap.size w w1 := below_step (by repeat (first | exact Below.refl _ _ | refine below_drewN ?_ _ | refine Below.drew ?_ | refine Below.setCell ?_ (by first | (simp; done) | (simp; omega) | omega) _ | refine Below.alloc ?_ (by first | (simp; done) | (simp; omega) | omega) _)) b1
  have B1 := Lib.hid d1
  have S1 : Bk2 w1 (w.heap.size) (.int .i64 x0) (.int .i64 x1) := Bk2.of b1 (by simp <;> omega) (by intro j; simp [go_sem]) (by simp [go_sem]) (by simp [go_sem])
  clear b1 d1
  rw [HM.out]
  simp only [Sp.bz, Sp.why, if_true, Bool.false_eq_true, if_false]
  have cS_b := S1.hb
  have cS_f := S1.fz
  have cS_0 := S1.k0
  have cS_1 := S1.k1
  go_wp2_with fail
  clear cS_b cS_f cS_0 cS_1
  refine (span_len x0 x1 _ HX.out.1.1 HX.out.1.2 HX.out.2.1 HX.out.2.2).mono ?_; rintro e w2 ⟨rfl, b2⟩
  have d2 : Below w1.heap.size w1 w2 := below_step (by repeat (first | exact Below.refl _ _ | refine below_drewN ?_ _ | refine Below.drew ?_ | refine Below.setCell ?_ (by first | (simp; done) | (simp; omega) | omega) _ | refine Below.alloc ?_ (by first | (simp; done) | (simp; omega) | omega) _)) b2
  have B2 := Lib.hid (below_step B1.out d2)
  have S2 := S1.keep d2
  have aU := B1.out.size
  have nUS := Nat.ne_of_lt S1.hb
  have oUS := Nat.ne_of_gt S1.hb
  have U2 : Bk2 w2 (w1.heap.size) (.int .i64 (x0 + h * 3600)) (.int .i64 (x1 + h * 3600)) := Bk2.of b2 (by simp <;> omega) (by intro j; simp [go_sem]) (by simp [go_sem]) (by simp [go_sem])
  clear S1 b2 d2 B1
  have cS_b := S2.hb
  have cS_f := S2.fz
  have cS_0 := S2.k0
  have cS_1 := S2.k1
  have cU_b := U2.hb
  have cU_f := U2.fz
  have cU_0 := U2.k0
  have cU_1 := U2.k1
  go_wp2_with fail
  clear cS_b cS_f cS_0 cS_1 cU_b cU_f cU_0 cU_1
  refine (span_len (x0 + h * 3600) (x1 + h * 3600) _ (HB.out trivial).1.1 (HB.out trivial).1.2 (HB.out trivial).2.1 (HB.out trivial).2.2).mono ?_; rintro e w3 ⟨rfl, b3⟩
  have d3 : Below w2.heap.size w2 w3 := below_step (by repeat (first | exact Below.refl _ _ | refine below_drewN ?_ _ | refine Below.drew ?_ | refine Below.setCell ?_ (by first | (simp; done) | (simp; omega) | omega) _ | refine Below.alloc ?_ (by first | (simp; done) | (simp; omega) | omega) _)) b3
  have B3 := Lib.hid (below_step B2.out d3)
  have S3 := S2.keep d3
  have U3 := U2.keep d3
  clear S2 U2 b3 d3 B2
  rw [HL.out.1, HL.out.2]; generalize Sp.ln x0 x1 = n1; generalize Sp.lw x0 x1 = n2
  have cS_b := S3.hb
  have cS_f := S3.fz
  have cS_0 := S3.k0
  have cS_1 := S3.k1
  have cU_b := U3.hb
  have cU_f := U3.fz
  have cU_0 := U3.k0
  have cU_1 := U3.k1
  go_wp2_with fail
  clear cS_b cS_f cS_0 cS_1 cU_b cU_f cU_0 cU_1
  refine wp_named ?_; intro w4 hw4
  have d4 : Below w3.heap.size w3 w4 := by rw [hw4]; exact (by repeat (first | exact Below.refl _ _ | refine below_drewN ?_ _ | refine Below.drew ?_ | refine Below.setCell ?_ (by first | (simp; done) | (simp; omega) | omega) _ | refine Below.alloc ?_ (by first | (simp; done) | (simp; omega) | omega) _))
  have B4 := Lib.hid (below_step B3.out d4)
  have S4 := S3.keep d4
  have U4 := U3.keep d4
  clear S3 U3 d4 hw4 B3
  have s1 : IntKind.i64.wrap (h * 3600) = h * 3600 := IntWalk.i64_in _ (by omega)
  have s2 : IntKind.i64.wrap (t + h * 3600) = t + h * 3600 := IntWalk.i64_in _ (by omega)
  have cS_b := S4.hb
  have cS_f := S4.fz
  have cS_0 := S4.k0
  have cS_1 := S4.k1
  have cU_b := U4.hb
  have cU_f := U4.fz
  have cU_0 := U4.k0
  have cU_1 := U4.k1
  have qS_0 := cell_regrown S4.k0
  have qS_1 := cell_regrown S4.k1
  have qU_0 := cell_regrown U4.k0
  have qU_1 := cell_regrown U4.k1
  refine wp_region_qb (w := w4) (by kernel_rfl) (by kernel_rfl) (by repeat (first | exact Below.refl _ _ | refine below_drewN ?_ _ | refine Below.drew ?_ | refine Below.setCell ?_ (by first | (simp; done) | (simp; omega) | omega) _ | refine Below.alloc ?_ (by first | (simp; done) | (simp; omega) | omega) _)) ?_
  repeat (any_goals (first | go_big_quiet_step (first | (go_at_call 48; exact Calls.regrown_of (span_has _ _ _ _))) | quiet_step (first | (go_at_call 48; exact Calls.regrown_of (span_has _ _ _ _)))))
  refine wpQuiet_nil ?_
  intro w5 hq
  have b5 : Below w4.heap.size w4 w5 := by obtain ⟨p, hq⟩ := hq; rw [hq]; exact below_regrown _ _ _
  clear hq qS_0 qS_1 qU_0 qU_1
  have d5 : Below w4.heap.size w4 w5 := below_step (by repeat (first | exact Below.refl _ _ | refine below_drewN ?_ _ | refine Below.drew ?_ | refine Below.setCell ?_ (by first | (simp; done) | (simp; omega) | omega) _ | refine Below.alloc ?_ (by first | (simp; done) | (simp; omega) | omega) _)) b5
  have B5 := Lib.hid (below_step B4.out d5)
  have S5 := S4.keep d5
  have U5 := U4.keep d5
  clear S4 U4 b5 d5 B4
  clear cS_b cS_f cS_0 cS_1 cU_b cU_f cU_0 cU_1
  clear s1 s2
  rw [HS.out, beq_self_eq_true]
  have cS_b := S5.hb
  have cS_f := S5.fz
  have cS_0 := S5.k0
  have cS_1 := S5.k1
  have cU_b := U5.hb
  have cU_f := U5.fz
  have cU_0 := U5.k0
  have cU_1 := U5.k1
  go_wp2_with fail
  clear cS_b cS_f cS_0 cS_1 cU_b cU_f cU_0 cU_1
  go_ret
  exact ⟨rfl, (by have hz := B5.out.size; repeat (first | exact B5.out | refine below_drewN ?_ _ | refine Below.drew ?_ | refine Below.setCell ?_ (by first | omega | (simp; done) | (simp; omega)) _ | refine Below.alloc ?_ (by first | omega | (simp; done) | (simp; omega)) _))⟩
theorem toph_walk (h x0 x1 t : Int) (w : World) (hx0 : -9223372036854775808 ≤ x0 ∧ x0 ≤ 9223372036854775807) (hx1 : -9223372036854775808 ≤ x1 ∧ x1 ≤ 9223372036854775807) :
    Calls Try.prog 8 #[.int .i64 h, .agg #[.int .i64 x0, .int .i64 x1], .int .i64 t] w fun e w' => e = .returned (.bool true) ∧ Below w.heap.size w w' := by
  by_cases h0 : h < -12
  · exact toph_a h x0 x1 t w h0
  by_cases h1 : 12 < h
  · exact toph_b h x0 x1 t w (by omega) h1
  by_cases t1 : 1152921504606846976 < t
  · exact toph_c h x0 x1 t w (by omega) (by omega) t1
  by_cases t0 : t < -1152921504606846976
  · exact toph_d h x0 x1 t w (by omega) (by omega) (by omega) t0
  cases hm : Sp.mv x0 x1 (h * 3600)
  · exact toph_no h x0 x1 t w (by omega) (by omega) (by omega) (by omega) hx0 hx1 hm
  · exact toph_yes h x0 x1 t w (by omega) (by omega) (by omega) (by omega) hx0 hx1 hm
end Go.Proofs.Ytpjddkcoolggaab

