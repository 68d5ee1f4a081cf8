/- The contract of week.Date. -/
import Derived.Test.YtfcabofhlgmkjaaDoorWkN
set_option linter.unusedVariables false
set_option linter.unusedSimpArgs false
namespace Go.Proofs.YtfcabofhlgmkjaaDoor
open Go.RowKit Go.Sort

theorem num14_right {y : Int} (h1 : -39999 ≤ y) (h2 : y ≤ 39999) : rightB y 1 4 = true := right_true.2 ⟨by omega, by omega, by omega, by simp [Cal.len]⟩
set_option maxHeartbeats 1000000 in
theorem wdate_no (y k d : Int) (w : World) (h : Wk.rB y k d = false) :
    Calls Tryd.prog 14 #[.agg #[.int .i64 y, .int .i64 k, .int .i64 d]] w fun e w' => e = .returned (.tuple #[.agg #[.int .i64 0, .int .i64 0, .int .i64 0], .int .i64 1]) ∧ Below w.heap.size w w' := by
  have H := Lib.hid h; clear h
  go_enter Tryd.func14, Tryd.ntmps14
  go_wp2_with fail
  refine (wright_any y k d _).mono ?_; rintro e w1 ⟨rfl, b1⟩
  have d1 : Below w.heap.size w w1 := below_step (by repeat (first | exact Below.refl _ _ | refine below_drewN ?_ _ | refine Below.drew ?_ | refine Below.setCell ?_ (by first | (simp; done) | (simp; omega) | omega) _ | refine Below.alloc ?_ (by first | (simp; done) | (simp; omega) | omega) _)) b1
  have B1 := Lib.hid d1
  have D1 : Bk3 w1 (w.heap.size) (.int .i64 y) (.int .i64 k) (.int .i64 d) := Bk3.of b1 (by simp <;> omega) (by intro j; simp [go_sem]) (by simp [go_sem]) (by simp [go_sem]) (by simp [go_sem])
  have R1 : Bk3 w1 (w.heap.size + 1) (.int .i64 0) (.int .i64 0) (.int .i64 0) := Bk3.of b1 (by simp <;> omega) (by intro j; simp [go_sem]) (by simp [go_sem]) (by simp [go_sem]) (by simp [go_sem])
  clear b1 d1
  rw [H.out]
  have cD_b := D1.hb
  have cD_f := D1.fz
  have cD_0 := D1.k0
  have cD_1 := D1.k1
  have cD_2 := D1.k2
  have cR_b := R1.hb
  have cR_f := R1.fz
  have cR_0 := R1.k0
  have cR_1 := R1.k1
  have cR_2 := R1.k2
  go_wp2_with fail
  refine bodyPost_ret (v := .tuple #[.agg #[.int .i64 0, .int .i64 0, .int .i64 0], .int .i64 1]) (by simp [results, Tryd.results14, go_sem, cD_b, cD_f, cD_0, cD_1, cD_2, cR_b, cR_f, cR_0, cR_1, cR_2]) rfl ⟨rfl, ?_⟩
  clear cD_b cD_f cD_0 cD_1 cD_2 cR_b cR_f cR_0 cR_1 cR_2
  exact (by have hz := B1.out.size; repeat (first | exact B1.out | refine below_drewN ?_ _ | refine Below.drew ?_ | refine Below.setCell ?_ (by first | omega | (simp; done) | (simp; omega)) _ | refine Below.alloc ?_ (by first | omega | (simp; done) | (simp; omega)) _))
set_option maxHeartbeats 2000000 in
theorem wdate_yes (y k d : Int) (w : World) (h : Wk.rB y k d = true) :
    Calls Tryd.prog 14 #[.agg #[.int .i64 y, .int .i64 k, .int .i64 d]] w fun e w' => e = .returned (.tuple #[.agg #[.int .i64 (Cal.dY (Wk.dn y k d)), .int .i64 (Cal.dM (Wk.dn y k d)), .int .i64 (Cal.dD (Wk.dn y k d))], .int .i64 0]) ∧ Below w.heap.size w w' := by
  have B0 := Wk.back_of h
  have G := Cal.hasD_true.1 B0.1
  have hh := h
  unfold Wk.rB at hh
  simp only [Bool.and_eq_true, decide_eq_true_eq] at hh
  obtain ⟨k0, k1, d0, d1⟩ := hh
  obtain ⟨y0, y1⟩ := Wk.wks_y k0 k1
  have kb : k ≤ 53 := by
    have := (Wk.wks_is y0 y1).1; omega
  have R4 := Lib.hid (num14_right y0 y1)
  have r := Cal.num_range (right_true.1 R4.out)
  have q := Wk.dow_bd (Cal.num y 1 4)
  have H := Lib.hid h; have H2 := Lib.hid B0.1
  clear h k1 B0
  have E := Lib.hid (show Cal.num y 1 4 - (Wk.dow (Cal.num y 1 4) - 1) + ((k - 1) * 7 + d - 1) = Wk.dn y k d from rfl)
  go_enter Tryd.func14, Tryd.ntmps14
  go_wp2_with fail
  refine (wright_any y k d _).mono ?_; rintro e w1 ⟨rfl, b1⟩
  have d1 : Below w.heap.size w w1 := below_step (by repeat (first | exact Below.refl _ _ | refine below_drewN ?_ _ | refine Below.drew ?_ | refine Below.setCell ?_ (by first | (simp; done) | (simp; omega) | omega) _ | refine Below.alloc ?_ (by first | (simp; done) | (simp; omega) | omega) _)) b1
  have B1 := Lib.hid d1
  have D1 : Bk3 w1 (w.heap.size) (.int .i64 y) (.int .i64 k) (.int .i64 d) := Bk3.of b1 (by simp <;> omega) (by intro j; simp [go_sem]) (by simp [go_sem]) (by simp [go_sem]) (by simp [go_sem])
  have R1 : Bk3 w1 (w.heap.size + 1) (.int .i64 0) (.int .i64 0) (.int .i64 0) := Bk3.of b1 (by simp <;> omega) (by intro j; simp [go_sem]) (by simp [go_sem]) (by simp [go_sem]) (by simp [go_sem])
  clear b1 d1
  rw [H.out]
  have cD_b := D1.hb
  have cD_f := D1.fz
  have cD_0 := D1.k0
  have cD_1 := D1.k1
  have cD_2 := D1.k2
  have cR_b := R1.hb
  have cR_f := R1.fz
  have cR_0 := R1.k0
  have cR_1 := R1.k1
  have cR_2 := R1.k2
  go_wp2_with fail
  clear cD_b cD_f cD_0 cD_1 cD_2 cR_b cR_f cR_0 cR_1 cR_2
  refine (days_yes y 1 4 _ R4.out).mono ?_; rintro e w2 ⟨rfl, b2⟩
  have d2 : Below w1.heap.size w1 w2 := below_step (by repeat (first | exact Below.refl _ _ | refine below_drewN ?_ _ | refine Below.drew ?_ | refine Below.setCell ?_ (by first | (simp; done) | (simp; omega) | omega) _ | refine Below.alloc ?_ (by first | (simp; done) | (simp; omega) | omega) _)) b2
  have B2 := Lib.hid (below_step B1.out d2)
  have D2 := D1.keep d2
  have R2 := R1.keep d2
  clear D1 R1 b2 d2 B1
  have cD_b := D2.hb
  have cD_f := D2.fz
  have cD_0 := D2.k0
  have cD_1 := D2.k1
  have cD_2 := D2.k2
  have cR_b := R2.hb
  have cR_f := R2.fz
  have cR_0 := R2.k0
  have cR_1 := R2.k1
  have cR_2 := R2.k2
  go_wp2_with fail
  clear cD_b cD_f cD_0 cD_1 cD_2 cR_b cR_f cR_0 cR_1 cR_2
  refine (dayOf_any (Cal.num y 1 4) _ (by omega) (by omega)).mono ?_; rintro e w3 ⟨rfl, b3⟩
  have d3 : Below w2.heap.size w2 w3 := below_step (by repeat (first | exact Below.refl _ _ | refine below_drewN ?_ _ | refine Below.drew ?_ | refine Below.setCell ?_ (by first | (simp; done) | (simp; omega) | omega) _ | refine Below.alloc ?_ (by first | (simp; done) | (simp; omega) | omega) _)) b3
  have B3 := Lib.hid (below_step B2.out d3)
  have D3 := D2.keep d3
  have R3 := R2.keep d3
  clear D2 R2 b3 d3 B2
  have cD_b := D3.hb
  have cD_f := D3.fz
  have cD_0 := D3.k0
  have cD_1 := D3.k1
  have cD_2 := D3.k2
  have cR_b := R3.hb
  have cR_f := R3.fz
  have cR_0 := R3.k0
  have cR_1 := R3.k1
  have cR_2 := R3.k2
  go_wp2_with fail
  clear cD_b cD_f cD_0 cD_1 cD_2 cR_b cR_f cR_0 cR_1 cR_2
  rw [E.out]
  refine (date_yes (Wk.dn y k d) _ G.1 G.2).mono ?_; rintro e w4 ⟨rfl, b4⟩
  have d4 : Below w3.heap.size w3 w4 := below_step (by repeat (first | exact Below.refl _ _ | refine below_drewN ?_ _ | refine Below.drew ?_ | refine Below.setCell ?_ (by first | (simp; done) | (simp; omega) | omega) _ | refine Below.alloc ?_ (by first | (simp; done) | (simp; omega) | omega) _)) b4
  have B4 := Lib.hid (below_step B3.out d4)
  have D4 := D3.keep d4
  have R4 := R3.keep d4
  clear D3 R3 b4 d4 B3
  have cD_b := D4.hb
  have cD_f := D4.fz
  have cD_0 := D4.k0
  have cD_1 := D4.k1
  have cD_2 := D4.k2
  have cR_b := R4.hb
  have cR_f := R4.fz
  have cR_0 := R4.k0
  have cR_1 := R4.k1
  have cR_2 := R4.k2
  go_wp2_with fail
  refine bodyPost_ret (v := .tuple #[.agg #[.int .i64 (Cal.dY (Wk.dn y k d)), .int .i64 (Cal.dM (Wk.dn y k d)), .int .i64 (Cal.dD (Wk.dn y k d))], .int .i64 0]) (by simp [results, Tryd.results14, go_sem, cD_b, cD_f, cD_0, cD_1, cD_2, cR_b, cR_f, cR_0, cR_1, cR_2]) rfl ⟨rfl, ?_⟩
  clear cD_b cD_f cD_0 cD_1 cD_2 cR_b cR_f cR_0 cR_1 cR_2
  exact (by have hz := B4.out.size; repeat (first | exact B4.out | refine below_drewN ?_ _ | refine Below.drew ?_ | refine Below.setCell ?_ (by first | omega | (simp; done) | (simp; omega)) _ | refine Below.alloc ?_ (by first | omega | (simp; done) | (simp; omega)) _))
theorem wdate_any (y k d : Int) (w : World) :
    Calls Tryd.prog 14 #[.agg #[.int .i64 y, .int .i64 k, .int .i64 d]] w fun e w' => e = .returned (.tuple #[.agg #[.int .i64 (Cal.orz (Wk.rB y k d) (Cal.dY (Wk.dn y k d))), .int .i64 (Cal.orz (Wk.rB y k d) (Cal.dM (Wk.dn y k d))), .int .i64 (Cal.orz (Wk.rB y k d) (Cal.dD (Wk.dn y k d)))], .int .i64 (Cal.why (Wk.rB y k d))]) ∧ Below w.heap.size w w' := by
  cases h : Wk.rB y k d
  · exact wdate_no y k d w h
  · exact wdate_yes y k d w h
end Go.Proofs.YtfcabofhlgmkjaaDoor

