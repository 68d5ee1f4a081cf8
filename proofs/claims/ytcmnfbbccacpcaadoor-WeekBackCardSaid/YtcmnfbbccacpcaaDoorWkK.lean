/- The walk of WeekBack: whatever date and day by its week, the law answers true; nothing old turns. -/
import Derived.Test.YtcmnfbbccacpcaaDoorLiv7
set_option linter.unusedVariables false
set_option linter.unusedSimpArgs false
namespace Go.Proofs.YtcmnfbbccacpcaaDoor
open Go.RowKit Go.Sort

theorem rB_day {y k d : Int} (h : Wk.rB y k d = true) : Wk.rB y k 4 = true := by
  unfold Wk.rB at h ⊢
  simp only [Bool.and_eq_true, decide_eq_true_eq] at h ⊢
  omega
theorem dn_day (y k d : Int) : Wk.dn y k 4 = Wk.dn y k d + (4 - d) := by unfold Wk.dn; omega
set_option maxHeartbeats 4000000 in
set_option maxRecDepth 100000 in
theorem wback_nn (y m d p q r : Int) (w : World) (htab : Lib.TabIs Tryd.prog w "internal/strconv.uint64pow10" .u64 Lib.pow10Tab) (h1 : Wk.wok y m d = false) (h2 : Wk.rB p q r = false) :
    Calls Tryd.prog 8 #[.agg #[.int .i64 y, .int .i64 m, .int .i64 d], .agg #[.int .i64 p, .int .i64 q, .int .i64 r]] w fun e w' => e = .returned (.bool true) ∧ Below w.heap.size w w' := by
  have L := Lib.hid (fun w h => lives7 w h)
  have T0 := Lib.hid htab
  have O := Lib.hid (wof_n y m d h1)
  have F := Lib.hid (fun w => wdate_no p q r w h2)
  have G := Lib.hid (wright_c p q r false h2)
  clear h1 h2 htab
  go_enter Tryd.func8, Tryd.ntmps8
  go_wp2_with fail
  refine (L.out _ (var_keep (by repeat (first | exact Below.refl _ _ | refine below_drewN ?_ _ | refine Below.drew ?_ | refine Below.setCell ?_ (by first | (simp; done) | (simp; omega) | omega) _ | refine Below.alloc ?_ (by first | (simp; done) | (simp; omega) | omega) _)) T0.out)).mono ?_; rintro e w1 ⟨rfl, b1⟩
  have d1 : Below w.heap.size w w1 := below_step (by repeat (first | exact Below.refl _ _ | refine below_drewN ?_ _ | refine Below.drew ?_ | refine Below.setCell ?_ (by first | (simp; done) | (simp; omega) | omega) _ | refine Below.alloc ?_ (by first | (simp; done) | (simp; omega) | omega) _)) b1
  have B1 := Lib.hid d1
  have Da1 : Bk3 w1 (w.heap.size) (.int .i64 y) (.int .i64 m) (.int .i64 d) := Bk3.of b1 (by simp <;> omega) (by intro j; simp [go_sem]) (by simp [go_sem]) (by simp [go_sem]) (by simp [go_sem])
  have Wa1 : Bk3 w1 (w.heap.size + 1) (.int .i64 p) (.int .i64 q) (.int .i64 r) := Bk3.of b1 (by simp <;> omega) (by intro j; simp [go_sem]) (by simp [go_sem]) (by simp [go_sem]) (by simp [go_sem])
  clear b1 d1
  have cDa_b := Da1.hb
  have cDa_f := Da1.fz
  have cDa_0 := Da1.k0
  have cDa_1 := Da1.k1
  have cDa_2 := Da1.k2
  have cWa_b := Wa1.hb
  have cWa_f := Wa1.fz
  have cWa_0 := Wa1.k0
  have cWa_1 := Wa1.k1
  have cWa_2 := Wa1.k2
  go_wp2_with fail
  clear cDa_b cDa_f cDa_0 cDa_1 cDa_2 cWa_b cWa_f cWa_0 cWa_1 cWa_2
  refine (O.out _).mono ?_; rintro e w2 ⟨rfl, b2⟩
  have d2 : Below w1.heap.size w1 w2 := below_step (by repeat (first | exact Below.refl _ _ | refine below_drewN ?_ _ | refine Below.drew ?_ | refine Below.setCell ?_ (by first | (simp; done) | (simp; omega) | omega) _ | refine Below.alloc ?_ (by first | (simp; done) | (simp; omega) | omega) _)) b2
  have B2 := Lib.hid (below_step B1.out d2)
  have Da2 := Da1.keep d2
  have Wa2 := Wa1.keep d2
  clear Da1 Wa1 b2 d2 B1
  have cDa_b := Da2.hb
  have cDa_f := Da2.fz
  have cDa_0 := Da2.k0
  have cDa_1 := Da2.k1
  have cDa_2 := Da2.k2
  have cWa_b := Wa2.hb
  have cWa_f := Wa2.fz
  have cWa_0 := Wa2.k0
  have cWa_1 := Wa2.k1
  have cWa_2 := Wa2.k2
  go_wp2_with fail
  clear cDa_b cDa_f cDa_0 cDa_1 cDa_2 cWa_b cWa_f cWa_0 cWa_1 cWa_2
  refine (F.out _).mono ?_; rintro e w3 ⟨rfl, b3⟩
  have d3 : Below w2.heap.size w2 w3 := below_step (by repeat (first | exact Below.refl _ _ | refine below_drewN ?_ _ | refine Below.drew ?_ | refine Below.setCell ?_ (by first | (simp; done) | (simp; omega) | omega) _ | refine Below.alloc ?_ (by first | (simp; done) | (simp; omega) | omega) _)) b3
  have B3 := Lib.hid (below_step B2.out d3)
  have Da3 := Da2.keep d3
  have Wa3 := Wa2.keep d3
  have aAa := B2.out.size
  have nAaDa := Nat.ne_of_lt Da2.hb
  have oAaDa := Nat.ne_of_gt Da2.hb
  have nAaWa := Nat.ne_of_lt Wa2.hb
  have oAaWa := Nat.ne_of_gt Wa2.hb
  have Aa3 : Bk3 w3 (w2.heap.size) (.int .i64 0) (.int .i64 0) (.int .i64 0) := Bk3.of b3 (by simp <;> omega) (by intro j; simp [go_sem]) (by simp [go_sem]) (by simp [go_sem]) (by simp [go_sem])
  clear Da2 Wa2 b3 d3 B2
  clear Aa3 aAa
  clear Da3
  have cWa_b := Wa3.hb
  have cWa_f := Wa3.fz
  have cWa_0 := Wa3.k0
  have cWa_1 := Wa3.k1
  have cWa_2 := Wa3.k2
  go_wp2_with fail
  clear cWa_b cWa_f cWa_0 cWa_1 cWa_2
  refine (G.out _).mono ?_; rintro e w4 ⟨rfl, b4⟩
  have d4 : Below w3.heap.size w3 w4 := below_step (by repeat (first | exact Below.refl _ _ | refine below_drewN ?_ _ | refine Below.drew ?_ | refine Below.setCell ?_ (by first | (simp; done) | (simp; omega) | omega) _ | refine Below.alloc ?_ (by first | (simp; done) | (simp; omega) | omega) _)) b4
  have B4 := Lib.hid (below_step B3.out d4)
  have Wa4 := Wa3.keep d4
  have aCc := B3.out.size
  have nCcWa := Nat.ne_of_lt Wa3.hb
  have oCcWa := Nat.ne_of_gt Wa3.hb
  have Cc4 : Bk3 w4 (w3.heap.size) (.int .i64 0) (.int .i64 0) (.int .i64 0) := Bk3.of b4 (by simp <;> omega) (by intro j; simp [go_sem]) (by simp [go_sem]) (by simp [go_sem]) (by simp [go_sem])
  clear Wa3 b4 d4 B3
  have cWa_b := Wa4.hb
  have cWa_f := Wa4.fz
  have cWa_0 := Wa4.k0
  have cWa_1 := Wa4.k1
  have cWa_2 := Wa4.k2
  have cCc_b := Cc4.hb
  have cCc_f := Cc4.fz
  have cCc_0 := Cc4.k0
  have cCc_1 := Cc4.k1
  have cCc_2 := Cc4.k2
  go_wp2_with fail
  clear cWa_b cWa_f cWa_0 cWa_1 cWa_2 cCc_b cCc_f cCc_0 cCc_1 cCc_2
  go_ret
  exact ⟨rfl, (by have hz := B4.out.size; repeat (first | exact B4.out | refine below_drewN ?_ _ | refine Below.drew ?_ | refine Below.setCell ?_ (by first | omega | (simp; done) | (simp; omega)) _ | refine Below.alloc ?_ (by first | omega | (simp; done) | (simp; omega)) _))⟩
set_option maxHeartbeats 4000000 in
set_option maxRecDepth 100000 in
theorem wback_ny (y m d p q r : Int) (w : World) (htab : Lib.TabIs Tryd.prog w "internal/strconv.uint64pow10" .u64 Lib.pow10Tab) (h1 : Wk.wok y m d = false) (h2 : Wk.rB p q r = true) :
    Calls Tryd.prog 8 #[.agg #[.int .i64 y, .int .i64 m, .int .i64 d], .agg #[.int .i64 p, .int .i64 q, .int .i64 r]] w fun e w' => e = .returned (.bool true) ∧ Below w.heap.size w w' := by
  have L := Lib.hid (fun w h => lives7 w h)
  have T0 := Lib.hid htab
  have O := Lib.hid (wof_n y m d h1)
  obtain ⟨hn, hm, ed, ey, ek⟩ := Wk.back_of h2
  have g0 := Cal.hasD_true.1 hn
  have R2 := Cal.date_right _ g0.1 g0.2
  have N2 := Cal.date_num (Wk.dn p q r)
  have G := Lib.hid (wright_c p q r true h2)
  obtain ⟨u0, u1, u2, F, K⟩ : ∃ u0 u1 u2, Hid (∀ w, Calls Tryd.prog 43 #[.agg #[.int .i64 p, .int .i64 q, .int .i64 r]] w fun e w' => e = .returned (.tuple #[.agg #[.int .i64 u0, .int .i64 u1, .int .i64 u2], .int .i64 0]) ∧ Below w.heap.size w w') ∧ Hid (∀ w, Calls Tryd.prog 41 #[.agg #[.int .i64 u0, .int .i64 u1, .int .i64 u2]] w fun e w' => e = .returned (.tuple #[.agg #[.int .i64 p, .int .i64 q, .int .i64 r], .int .i64 0]) ∧ Below w.heap.size w w') := by
    refine ⟨_, _, _, wdate_c p q r _ _ _ h2 rfl rfl rfl, ?_⟩
    refine wof_c _ _ _ _ _ _ ?_ (by rw [N2]; exact ey) (by rw [N2]; exact ek) (by rw [N2]; exact ed)
    unfold Wk.wok
    rw [N2, ey, ek, ed, right_true.2 R2, hm, h2]; rfl
  clear hn hm ed ey ek g0 R2 N2
  clear h1 h2 htab
  go_enter Tryd.func8, Tryd.ntmps8
  go_wp2_with fail
  refine (L.out _ (var_keep (by repeat (first | exact Below.refl _ _ | refine below_drewN ?_ _ | refine Below.drew ?_ | refine Below.setCell ?_ (by first | (simp; done) | (simp; omega) | omega) _ | refine Below.alloc ?_ (by first | (simp; done) | (simp; omega) | omega) _)) T0.out)).mono ?_; rintro e w1 ⟨rfl, b1⟩
  have d1 : Below w.heap.size w w1 := below_step (by repeat (first | exact Below.refl _ _ | refine below_drewN ?_ _ | refine Below.drew ?_ | refine Below.setCell ?_ (by first | (simp; done) | (simp; omega) | omega) _ | refine Below.alloc ?_ (by first | (simp; done) | (simp; omega) | omega) _)) b1
  have B1 := Lib.hid d1
  have Da1 : Bk3 w1 (w.heap.size) (.int .i64 y) (.int .i64 m) (.int .i64 d) := Bk3.of b1 (by simp <;> omega) (by intro j; simp [go_sem]) (by simp [go_sem]) (by simp [go_sem]) (by simp [go_sem])
  have Wa1 : Bk3 w1 (w.heap.size + 1) (.int .i64 p) (.int .i64 q) (.int .i64 r) := Bk3.of b1 (by simp <;> omega) (by intro j; simp [go_sem]) (by simp [go_sem]) (by simp [go_sem]) (by simp [go_sem])
  clear b1 d1
  have cDa_b := Da1.hb
  have cDa_f := Da1.fz
  have cDa_0 := Da1.k0
  have cDa_1 := Da1.k1
  have cDa_2 := Da1.k2
  have cWa_b := Wa1.hb
  have cWa_f := Wa1.fz
  have cWa_0 := Wa1.k0
  have cWa_1 := Wa1.k1
  have cWa_2 := Wa1.k2
  go_wp2_with fail
  clear cDa_b cDa_f cDa_0 cDa_1 cDa_2 cWa_b cWa_f cWa_0 cWa_1 cWa_2
  refine (O.out _).mono ?_; rintro e w2 ⟨rfl, b2⟩
  have d2 : Below w1.heap.size w1 w2 := below_step (by repeat (first | exact Below.refl _ _ | refine below_drewN ?_ _ | refine Below.drew ?_ | refine Below.setCell ?_ (by first | (simp; done) | (simp; omega) | omega) _ | refine Below.alloc ?_ (by first | (simp; done) | (simp; omega) | omega) _)) b2
  have B2 := Lib.hid (below_step B1.out d2)
  have Da2 := Da1.keep d2
  have Wa2 := Wa1.keep d2
  clear Da1 Wa1 b2 d2 B1
  have cDa_b := Da2.hb
  have cDa_f := Da2.fz
  have cDa_0 := Da2.k0
  have cDa_1 := Da2.k1
  have cDa_2 := Da2.k2
  have cWa_b := Wa2.hb
  have cWa_f := Wa2.fz
  have cWa_0 := Wa2.k0
  have cWa_1 := Wa2.k1
  have cWa_2 := Wa2.k2
  go_wp2_with fail
  clear cDa_b cDa_f cDa_0 cDa_1 cDa_2 cWa_b cWa_f cWa_0 cWa_1 cWa_2
  refine (F.out _).mono ?_; rintro e w3 ⟨rfl, b3⟩
  have d3 : Below w2.heap.size w2 w3 := below_step (by repeat (first | exact Below.refl _ _ | refine below_drewN ?_ _ | refine Below.drew ?_ | refine Below.setCell ?_ (by first | (simp; done) | (simp; omega) | omega) _ | refine Below.alloc ?_ (by first | (simp; done) | (simp; omega) | omega) _)) b3
  have B3 := Lib.hid (below_step B2.out d3)
  have Da3 := Da2.keep d3
  have Wa3 := Wa2.keep d3
  have aAa := B2.out.size
  have nAaDa := Nat.ne_of_lt Da2.hb
  have oAaDa := Nat.ne_of_gt Da2.hb
  have nAaWa := Nat.ne_of_lt Wa2.hb
  have oAaWa := Nat.ne_of_gt Wa2.hb
  have Aa3 : Bk3 w3 (w2.heap.size) (.int .i64 0) (.int .i64 0) (.int .i64 0) := Bk3.of b3 (by simp <;> omega) (by intro j; simp [go_sem]) (by simp [go_sem]) (by simp [go_sem]) (by simp [go_sem])
  clear Da2 Wa2 b3 d3 B2
  clear Aa3 aAa
  clear Da3
  have cWa_b := Wa3.hb
  have cWa_f := Wa3.fz
  have cWa_0 := Wa3.k0
  have cWa_1 := Wa3.k1
  have cWa_2 := Wa3.k2
  go_wp2_with fail
  clear cWa_b cWa_f cWa_0 cWa_1 cWa_2
  refine (G.out _).mono ?_; rintro e w4 ⟨rfl, b4⟩
  have d4 : Below w3.heap.size w3 w4 := below_step (by repeat (first | exact Below.refl _ _ | refine below_drewN ?_ _ | refine Below.drew ?_ | refine Below.setCell ?_ (by first | (simp; done) | (simp; omega) | omega) _ | refine Below.alloc ?_ (by first | (simp; done) | (simp; omega) | omega) _)) b4
  have B4 := Lib.hid (below_step B3.out d4)
  have Wa4 := Wa3.keep d4
  have aCc := B3.out.size
  have nCcWa := Nat.ne_of_lt Wa3.hb
  have oCcWa := Nat.ne_of_gt Wa3.hb
  have Cc4 : Bk3 w4 (w3.heap.size) (.int .i64 u0) (.int .i64 u1) (.int .i64 u2) := Bk3.of b4 (by simp <;> omega) (by intro j; simp [go_sem]) (by simp [go_sem]) (by simp [go_sem]) (by simp [go_sem])
  clear Wa3 b4 d4 B3
  have cWa_b := Wa4.hb
  have cWa_f := Wa4.fz
  have cWa_0 := Wa4.k0
  have cWa_1 := Wa4.k1
  have cWa_2 := Wa4.k2
  have cCc_b := Cc4.hb
  have cCc_f := Cc4.fz
  have cCc_0 := Cc4.k0
  have cCc_1 := Cc4.k1
  have cCc_2 := Cc4.k2
  go_wp2_with fail
  clear cWa_b cWa_f cWa_0 cWa_1 cWa_2 cCc_b cCc_f cCc_0 cCc_1 cCc_2
  refine (K.out _).mono ?_; rintro e w5 ⟨rfl, b5⟩
  have d5 : Below w4.heap.size w4 w5 := below_step (by repeat (first | exact Below.refl _ _ | refine below_drewN ?_ _ | refine Below.drew ?_ | refine Below.setCell ?_ (by first | (simp; done) | (simp; omega) | omega) _ | refine Below.alloc ?_ (by first | (simp; done) | (simp; omega) | omega) _)) b5
  have B5 := Lib.hid (below_step B4.out d5)
  have Wa5 := Wa4.keep d5
  have Cc5 := Cc4.keep d5
  clear Wa4 Cc4 b5 d5 B4
  have cWa_b := Wa5.hb
  have cWa_f := Wa5.fz
  have cWa_0 := Wa5.k0
  have cWa_1 := Wa5.k1
  have cWa_2 := Wa5.k2
  have cCc_b := Cc5.hb
  have cCc_f := Cc5.fz
  have cCc_0 := Cc5.k0
  have cCc_1 := Cc5.k1
  have cCc_2 := Cc5.k2
  go_wp2_with fail
  clear cWa_b cWa_f cWa_0 cWa_1 cWa_2 cCc_b cCc_f cCc_0 cCc_1 cCc_2
  go_ret
  exact ⟨rfl, (by have hz := B5.out.size; repeat (first | exact B5.out | refine below_drewN ?_ _ | refine Below.drew ?_ | refine Below.setCell ?_ (by first | omega | (simp; done) | (simp; omega)) _ | refine Below.alloc ?_ (by first | omega | (simp; done) | (simp; omega)) _))⟩
set_option maxHeartbeats 4000000 in
set_option maxRecDepth 100000 in
theorem wback_yn (y m d p q r : Int) (w : World) (htab : Lib.TabIs Tryd.prog w "internal/strconv.uint64pow10" .u64 Lib.pow10Tab) (h1 : Wk.wok y m d = true) (h2 : Wk.rB p q r = false) :
    Calls Tryd.prog 8 #[.agg #[.int .i64 y, .int .i64 m, .int .i64 d], .agg #[.int .i64 p, .int .i64 q, .int .i64 r]] w fun e w' => e = .returned (.bool true) ∧ Below w.heap.size w w' := by
  have L := Lib.hid (fun w h => lives7 w h)
  have T0 := Lib.hid htab
  have g1 := h1
  unfold Wk.wok at g1
  simp only [Bool.and_eq_true] at g1
  obtain ⟨rr, a1, a2⟩ := g1
  have R := right_true.1 rr
  have dn0 := Wk.dn_of a1
  have D0 := Cal.date_of_num R
  have m0 := Cal.hasD_true.1 a1
  obtain ⟨Y, k, D, t1, t2, O, E1, E2, E3, E4⟩ : ∃ Y k D t1 t2, Hid (∀ w, Calls Tryd.prog 41 #[.agg #[.int .i64 y, .int .i64 m, .int .i64 d]] w fun e w' => e = .returned (.tuple #[.agg #[.int .i64 Y, .int .i64 k, .int .i64 D], .int .i64 0]) ∧ Below w.heap.size w w') ∧ Hid (∀ w, Calls Tryd.prog 43 #[.agg #[.int .i64 Y, .int .i64 k, .int .i64 D]] w fun e w' => e = .returned (.tuple #[.agg #[.int .i64 y, .int .i64 m, .int .i64 d], .int .i64 0]) ∧ Below w.heap.size w w') ∧ Hid (∀ w, Calls Tryd.prog 43 #[.agg #[.int .i64 Y, .int .i64 k, .int .i64 4]] w fun e w' => e = .returned (.tuple #[.agg #[.int .i64 Y, .int .i64 t1, .int .i64 t2], .int .i64 0]) ∧ Below w.heap.size w w') ∧ Hid (∀ w, Calls Tryd.prog 39 #[.agg #[.int .i64 Y, .int .i64 t1, .int .i64 t2]] w fun e w' => e = .returned (.tuple #[.int .i64 (Wk.mid (Cal.num y m d)), .int .i64 0]) ∧ Below w.heap.size w w') ∧ Hid (∀ w, Calls Tryd.prog 52 #[.int .i64 (Wk.mid (Cal.num y m d))] w fun e w' => e = .returned (.int .i64 4) ∧ Below w.heap.size w w') := by
    refine ⟨Wk.wy (Cal.num y m d), Wk.wk (Cal.num y m d), Wk.dow (Cal.num y m d), Cal.dM (Wk.mid (Cal.num y m d)), Cal.dD (Wk.mid (Cal.num y m d)), wof_c y m d _ _ _ h1 rfl rfl rfl, ?_, ?_, ?_, ?_⟩
    · exact wdate_c _ _ _ _ _ _ a2 (by rw [dn0]; exact D0.1) (by rw [dn0]; exact D0.2.1) (by rw [dn0]; exact D0.2.2)
    · have e : Wk.dn (Wk.wy (Cal.num y m d)) (Wk.wk (Cal.num y m d)) 4 = Wk.mid (Cal.num y m d) := by rw [dn_day _ _ (Wk.dow (Cal.num y m d)), dn0]; rfl
      exact wdate_c _ _ _ _ _ _ (rB_day a2) (by rw [e]; rfl) (by rw [e]) (by rw [e])
    · intro w
      have := days_any (Wk.wy (Cal.num y m d)) (Cal.dM (Wk.mid (Cal.num y m d))) (Cal.dD (Wk.mid (Cal.num y m d))) w
      have hr : rightB (Wk.wy (Cal.num y m d)) (Cal.dM (Wk.mid (Cal.num y m d))) (Cal.dD (Wk.mid (Cal.num y m d))) = true := right_true.2 (Cal.date_right _ m0.1 m0.2)
      have hn : Cal.num (Wk.wy (Cal.num y m d)) (Cal.dM (Wk.mid (Cal.num y m d))) (Cal.dD (Wk.mid (Cal.num y m d))) = Wk.mid (Cal.num y m d) := Cal.date_num _
      rw [hr, hn] at this
      exact this
    · intro w
      have k4 := Wk.dow_mid (Cal.num y m d)
      have := weekday_b (Wk.mid (Cal.num y m d)) w (by omega) (by omega)
      rw [show (Wk.mid (Cal.num y m d) + 4) % 7 = 4 by unfold Wk.dow at k4; omega] at this
      exact this
  generalize Wk.mid (Cal.num y m d) = n at E3 E4
  clear rr a1 a2 R dn0 D0 m0
  have F := Lib.hid (fun w => wdate_no p q r w h2)
  have G := Lib.hid (wright_c p q r false h2)
  clear h1 h2 htab
  go_enter Tryd.func8, Tryd.ntmps8
  go_wp2_with fail
  refine (L.out _ (var_keep (by repeat (first | exact Below.refl _ _ | refine below_drewN ?_ _ | refine Below.drew ?_ | refine Below.setCell ?_ (by first | (simp; done) | (simp; omega) | omega) _ | refine Below.alloc ?_ (by first | (simp; done) | (simp; omega) | omega) _)) T0.out)).mono ?_; rintro e w1 ⟨rfl, b1⟩
  have d1 : Below w.heap.size w w1 := below_step (by repeat (first | exact Below.refl _ _ | refine below_drewN ?_ _ | refine Below.drew ?_ | refine Below.setCell ?_ (by first | (simp; done) | (simp; omega) | omega) _ | refine Below.alloc ?_ (by first | (simp; done) | (simp; omega) | omega) _)) b1
  have B1 := Lib.hid d1
  have Da1 : Bk3 w1 (w.heap.size) (.int .i64 y) (.int .i64 m) (.int .i64 d) := Bk3.of b1 (by simp <;> omega) (by intro j; simp [go_sem]) (by simp [go_sem]) (by simp [go_sem]) (by simp [go_sem])
  have Wa1 : Bk3 w1 (w.heap.size + 1) (.int .i64 p) (.int .i64 q) (.int .i64 r) := Bk3.of b1 (by simp <;> omega) (by intro j; simp [go_sem]) (by simp [go_sem]) (by simp [go_sem]) (by simp [go_sem])
  clear b1 d1
  have cDa_b := Da1.hb
  have cDa_f := Da1.fz
  have cDa_0 := Da1.k0
  have cDa_1 := Da1.k1
  have cDa_2 := Da1.k2
  have cWa_b := Wa1.hb
  have cWa_f := Wa1.fz
  have cWa_0 := Wa1.k0
  have cWa_1 := Wa1.k1
  have cWa_2 := Wa1.k2
  go_wp2_with fail
  clear cDa_b cDa_f cDa_0 cDa_1 cDa_2 cWa_b cWa_f cWa_0 cWa_1 cWa_2
  refine (O.out _).mono ?_; rintro e w2 ⟨rfl, b2⟩
  have d2 : Below w1.heap.size w1 w2 := below_step (by repeat (first | exact Below.refl _ _ | refine below_drewN ?_ _ | refine Below.drew ?_ | refine Below.setCell ?_ (by first | (simp; done) | (simp; omega) | omega) _ | refine Below.alloc ?_ (by first | (simp; done) | (simp; omega) | omega) _)) b2
  have B2 := Lib.hid (below_step B1.out d2)
  have Da2 := Da1.keep d2
  have Wa2 := Wa1.keep d2
  clear Da1 Wa1 b2 d2 B1
  have cDa_b := Da2.hb
  have cDa_f := Da2.fz
  have cDa_0 := Da2.k0
  have cDa_1 := Da2.k1
  have cDa_2 := Da2.k2
  have cWa_b := Wa2.hb
  have cWa_f := Wa2.fz
  have cWa_0 := Wa2.k0
  have cWa_1 := Wa2.k1
  have cWa_2 := Wa2.k2
  go_wp2_with fail
  clear cDa_b cDa_f cDa_0 cDa_1 cDa_2 cWa_b cWa_f cWa_0 cWa_1 cWa_2
  refine (E1.out _).mono ?_; rintro e w3 ⟨rfl, b3⟩
  have d3 : Below w2.heap.size w2 w3 := below_step (by repeat (first | exact Below.refl _ _ | refine below_drewN ?_ _ | refine Below.drew ?_ | refine Below.setCell ?_ (by first | (simp; done) | (simp; omega) | omega) _ | refine Below.alloc ?_ (by first | (simp; done) | (simp; omega) | omega) _)) b3
  have B3 := Lib.hid (below_step B2.out d3)
  have Da3 := Da2.keep d3
  have Wa3 := Wa2.keep d3
  have aAa := B2.out.size
  have nAaDa := Nat.ne_of_lt Da2.hb
  have oAaDa := Nat.ne_of_gt Da2.hb
  have nAaWa := Nat.ne_of_lt Wa2.hb
  have oAaWa := Nat.ne_of_gt Wa2.hb
  have Aa3 : Bk3 w3 (w2.heap.size) (.int .i64 Y) (.int .i64 k) (.int .i64 D) := Bk3.of b3 (by simp <;> omega) (by intro j; simp [go_sem]) (by simp [go_sem]) (by simp [go_sem]) (by simp [go_sem])
  clear Da2 Wa2 b3 d3 B2
  have cDa_b := Da3.hb
  have cDa_f := Da3.fz
  have cDa_0 := Da3.k0
  have cDa_1 := Da3.k1
  have cDa_2 := Da3.k2
  have cWa_b := Wa3.hb
  have cWa_f := Wa3.fz
  have cWa_0 := Wa3.k0
  have cWa_1 := Wa3.k1
  have cWa_2 := Wa3.k2
  have cAa_b := Aa3.hb
  have cAa_f := Aa3.fz
  have cAa_0 := Aa3.k0
  have cAa_1 := Aa3.k1
  have cAa_2 := Aa3.k2
  go_wp2_with fail
  clear cDa_b cDa_f cDa_0 cDa_1 cDa_2 cWa_b cWa_f cWa_0 cWa_1 cWa_2 cAa_b cAa_f cAa_0 cAa_1 cAa_2
  refine (E2.out _).mono ?_; rintro e w4 ⟨rfl, b4⟩
  have d4 : Below w3.heap.size w3 w4 := below_step (by repeat (first | exact Below.refl _ _ | refine below_drewN ?_ _ | refine Below.drew ?_ | refine Below.setCell ?_ (by first | (simp; done) | (simp; omega) | omega) _ | refine Below.alloc ?_ (by first | (simp; done) | (simp; omega) | omega) _)) b4
  have B4 := Lib.hid (below_step B3.out d4)
  have Da4 := Da3.keep d4
  have Wa4 := Wa3.keep d4
  have Aa4 := Aa3.keep d4
  have aBb := B3.out.size
  have nBbDa := Nat.ne_of_lt Da3.hb
  have oBbDa := Nat.ne_of_gt Da3.hb
  have nBbWa := Nat.ne_of_lt Wa3.hb
  have oBbWa := Nat.ne_of_gt Wa3.hb
  have nBbAa := Nat.ne_of_lt Aa3.hb
  have oBbAa := Nat.ne_of_gt Aa3.hb
  have Bb4 : Bk3 w4 (w3.heap.size) (.int .i64 y) (.int .i64 m) (.int .i64 d) := Bk3.of b4 (by simp <;> omega) (by intro j; simp [go_sem]) (by simp [go_sem]) (by simp [go_sem]) (by simp [go_sem])
  clear Da3 Wa3 Aa3 b4 d4 B3
  have cDa_b := Da4.hb
  have cDa_f := Da4.fz
  have cDa_0 := Da4.k0
  have cDa_1 := Da4.k1
  have cDa_2 := Da4.k2
  have cWa_b := Wa4.hb
  have cWa_f := Wa4.fz
  have cWa_0 := Wa4.k0
  have cWa_1 := Wa4.k1
  have cWa_2 := Wa4.k2
  have cAa_b := Aa4.hb
  have cAa_f := Aa4.fz
  have cAa_0 := Aa4.k0
  have cAa_1 := Aa4.k1
  have cAa_2 := Aa4.k2
  have cBb_b := Bb4.hb
  have cBb_f := Bb4.fz
  have cBb_0 := Bb4.k0
  have cBb_1 := Bb4.k1
  have cBb_2 := Bb4.k2
  go_wp2_with fail
  clear cDa_b cDa_f cDa_0 cDa_1 cDa_2 cWa_b cWa_f cWa_0 cWa_1 cWa_2 cAa_b cAa_f cAa_0 cAa_1 cAa_2 cBb_b cBb_f cBb_0 cBb_1 cBb_2
  refine (E3.out _).mono ?_; rintro e w5 ⟨rfl, b5⟩
  have d5 : Below w4.heap.size w4 w5 := below_step (by repeat (first | exact Below.refl _ _ | refine below_drewN ?_ _ | refine Below.drew ?_ | refine Below.setCell ?_ (by first | (simp; done) | (simp; omega) | omega) _ | refine Below.alloc ?_ (by first | (simp; done) | (simp; omega) | omega) _)) b5
  have B5 := Lib.hid (below_step B4.out d5)
  have Da5 := Da4.keep d5
  have Wa5 := Wa4.keep d5
  have Aa5 := Aa4.keep d5
  have Bb5 := Bb4.keep d5
  have aTt := B4.out.size
  have nTtDa := Nat.ne_of_lt Da4.hb
  have oTtDa := Nat.ne_of_gt Da4.hb
  have nTtWa := Nat.ne_of_lt Wa4.hb
  have oTtWa := Nat.ne_of_gt Wa4.hb
  have nTtAa := Nat.ne_of_lt Aa4.hb
  have oTtAa := Nat.ne_of_gt Aa4.hb
  have nTtBb := Nat.ne_of_lt Bb4.hb
  have oTtBb := Nat.ne_of_gt Bb4.hb
  have Tt5 : Bk3 w5 (w4.heap.size) (.int .i64 Y) (.int .i64 t1) (.int .i64 t2) := Bk3.of b5 (by simp <;> omega) (by intro j; simp [go_sem]) (by simp [go_sem]) (by simp [go_sem]) (by simp [go_sem])
  clear Da4 Wa4 Aa4 Bb4 b5 d5 B4
  have cDa_b := Da5.hb
  have cDa_f := Da5.fz
  have cDa_0 := Da5.k0
  have cDa_1 := Da5.k1
  have cDa_2 := Da5.k2
  have cWa_b := Wa5.hb
  have cWa_f := Wa5.fz
  have cWa_0 := Wa5.k0
  have cWa_1 := Wa5.k1
  have cWa_2 := Wa5.k2
  have cAa_b := Aa5.hb
  have cAa_f := Aa5.fz
  have cAa_0 := Aa5.k0
  have cAa_1 := Aa5.k1
  have cAa_2 := Aa5.k2
  have cBb_b := Bb5.hb
  have cBb_f := Bb5.fz
  have cBb_0 := Bb5.k0
  have cBb_1 := Bb5.k1
  have cBb_2 := Bb5.k2
  have cTt_b := Tt5.hb
  have cTt_f := Tt5.fz
  have cTt_0 := Tt5.k0
  have cTt_1 := Tt5.k1
  have cTt_2 := Tt5.k2
  go_wp2_with fail
  clear cDa_b cDa_f cDa_0 cDa_1 cDa_2 cWa_b cWa_f cWa_0 cWa_1 cWa_2 cAa_b cAa_f cAa_0 cAa_1 cAa_2 cBb_b cBb_f cBb_0 cBb_1 cBb_2 cTt_b cTt_f cTt_0 cTt_1 cTt_2
  refine (E4.out _).mono ?_; rintro e w6 ⟨rfl, b6⟩
  have d6 : Below w5.heap.size w5 w6 := below_step (by repeat (first | exact Below.refl _ _ | refine below_drewN ?_ _ | refine Below.drew ?_ | refine Below.setCell ?_ (by first | (simp; done) | (simp; omega) | omega) _ | refine Below.alloc ?_ (by first | (simp; done) | (simp; omega) | omega) _)) b6
  have B6 := Lib.hid (below_step B5.out d6)
  have Da6 := Da5.keep d6
  have Wa6 := Wa5.keep d6
  have Aa6 := Aa5.keep d6
  have Bb6 := Bb5.keep d6
  have Tt6 := Tt5.keep d6
  clear Da5 Wa5 Aa5 Bb5 Tt5 b6 d6 B5
  clear Aa6 aAa
  clear Bb6 aBb
  clear Tt6 aTt
  clear Da6
  have cWa_b := Wa6.hb
  have cWa_f := Wa6.fz
  have cWa_0 := Wa6.k0
  have cWa_1 := Wa6.k1
  have cWa_2 := Wa6.k2
  go_wp2_with fail
  clear cWa_b cWa_f cWa_0 cWa_1 cWa_2
  refine (F.out _).mono ?_; rintro e w7 ⟨rfl, b7⟩
  have d7 : Below w6.heap.size w6 w7 := below_step (by repeat (first | exact Below.refl _ _ | refine below_drewN ?_ _ | refine Below.drew ?_ | refine Below.setCell ?_ (by first | (simp; done) | (simp; omega) | omega) _ | refine Below.alloc ?_ (by first | (simp; done) | (simp; omega) | omega) _)) b7
  have B7 := Lib.hid (below_step B6.out d7)
  have Wa7 := Wa6.keep d7
  clear Wa6 b7 d7 B6
  have cWa_b := Wa7.hb
  have cWa_f := Wa7.fz
  have cWa_0 := Wa7.k0
  have cWa_1 := Wa7.k1
  have cWa_2 := Wa7.k2
  go_wp2_with fail
  clear cWa_b cWa_f cWa_0 cWa_1 cWa_2
  refine (G.out _).mono ?_; rintro e w8 ⟨rfl, b8⟩
  have d8 : Below w7.heap.size w7 w8 := below_step (by repeat (first | exact Below.refl _ _ | refine below_drewN ?_ _ | refine Below.drew ?_ | refine Below.setCell ?_ (by first | (simp; done) | (simp; omega) | omega) _ | refine Below.alloc ?_ (by first | (simp; done) | (simp; omega) | omega) _)) b8
  have B8 := Lib.hid (below_step B7.out d8)
  have Wa8 := Wa7.keep d8
  have aCc := B7.out.size
  have nCcWa := Nat.ne_of_lt Wa7.hb
  have oCcWa := Nat.ne_of_gt Wa7.hb
  have Cc8 : Bk3 w8 (w7.heap.size) (.int .i64 0) (.int .i64 0) (.int .i64 0) := Bk3.of b8 (by simp <;> omega) (by intro j; simp [go_sem]) (by simp [go_sem]) (by simp [go_sem]) (by simp [go_sem])
  clear Wa7 b8 d8 B7
  have cWa_b := Wa8.hb
  have cWa_f := Wa8.fz
  have cWa_0 := Wa8.k0
  have cWa_1 := Wa8.k1
  have cWa_2 := Wa8.k2
  have cCc_b := Cc8.hb
  have cCc_f := Cc8.fz
  have cCc_0 := Cc8.k0
  have cCc_1 := Cc8.k1
  have cCc_2 := Cc8.k2
  go_wp2_with fail
  clear cWa_b cWa_f cWa_0 cWa_1 cWa_2 cCc_b cCc_f cCc_0 cCc_1 cCc_2
  go_ret
  exact ⟨rfl, (by have hz := B8.out.size; repeat (first | exact B8.out | refine below_drewN ?_ _ | refine Below.drew ?_ | refine Below.setCell ?_ (by first | omega | (simp; done) | (simp; omega)) _ | refine Below.alloc ?_ (by first | omega | (simp; done) | (simp; omega)) _))⟩
set_option maxHeartbeats 4000000 in
set_option maxRecDepth 100000 in
theorem wback_yy (y m d p q r : Int) (w : World) (htab : Lib.TabIs Tryd.prog w "internal/strconv.uint64pow10" .u64 Lib.pow10Tab) (h1 : Wk.wok y m d = true) (h2 : Wk.rB p q r = true) :
    Calls Tryd.prog 8 #[.agg #[.int .i64 y, .int .i64 m, .int .i64 d], .agg #[.int .i64 p, .int .i64 q, .int .i64 r]] w fun e w' => e = .returned (.bool true) ∧ Below w.heap.size w w' := by
  have L := Lib.hid (fun w h => lives7 w h)
  have T0 := Lib.hid htab
  have g1 := h1
  unfold Wk.wok at g1
  simp only [Bool.and_eq_true] at g1
  obtain ⟨rr, a1, a2⟩ := g1
  have R := right_true.1 rr
  have dn0 := Wk.dn_of a1
  have D0 := Cal.date_of_num R
  have m0 := Cal.hasD_true.1 a1
  obtain ⟨Y, k, D, t1, t2, O, E1, E2, E3, E4⟩ : ∃ Y k D t1 t2, Hid (∀ w, Calls Tryd.prog 41 #[.agg #[.int .i64 y, .int .i64 m, .int .i64 d]] w fun e w' => e = .returned (.tuple #[.agg #[.int .i64 Y, .int .i64 k, .int .i64 D], .int .i64 0]) ∧ Below w.heap.size w w') ∧ Hid (∀ w, Calls Tryd.prog 43 #[.agg #[.int .i64 Y, .int .i64 k, .int .i64 D]] w fun e w' => e = .returned (.tuple #[.agg #[.int .i64 y, .int .i64 m, .int .i64 d], .int .i64 0]) ∧ Below w.heap.size w w') ∧ Hid (∀ w, Calls Tryd.prog 43 #[.agg #[.int .i64 Y, .int .i64 k, .int .i64 4]] w fun e w' => e = .returned (.tuple #[.agg #[.int .i64 Y, .int .i64 t1, .int .i64 t2], .int .i64 0]) ∧ Below w.heap.size w w') ∧ Hid (∀ w, Calls Tryd.prog 39 #[.agg #[.int .i64 Y, .int .i64 t1, .int .i64 t2]] w fun e w' => e = .returned (.tuple #[.int .i64 (Wk.mid (Cal.num y m d)), .int .i64 0]) ∧ Below w.heap.size w w') ∧ Hid (∀ w, Calls Tryd.prog 52 #[.int .i64 (Wk.mid (Cal.num y m d))] w fun e w' => e = .returned (.int .i64 4) ∧ Below w.heap.size w w') := by
    refine ⟨Wk.wy (Cal.num y m d), Wk.wk (Cal.num y m d), Wk.dow (Cal.num y m d), Cal.dM (Wk.mid (Cal.num y m d)), Cal.dD (Wk.mid (Cal.num y m d)), wof_c y m d _ _ _ h1 rfl rfl rfl, ?_, ?_, ?_, ?_⟩
    · exact wdate_c _ _ _ _ _ _ a2 (by rw [dn0]; exact D0.1) (by rw [dn0]; exact D0.2.1) (by rw [dn0]; exact D0.2.2)
    · have e : Wk.dn (Wk.wy (Cal.num y m d)) (Wk.wk (Cal.num y m d)) 4 = Wk.mid (Cal.num y m d) := by rw [dn_day _ _ (Wk.dow (Cal.num y m d)), dn0]; rfl
      exact wdate_c _ _ _ _ _ _ (rB_day a2) (by rw [e]; rfl) (by rw [e]) (by rw [e])
    · intro w
      have := days_any (Wk.wy (Cal.num y m d)) (Cal.dM (Wk.mid (Cal.num y m d))) (Cal.dD (Wk.mid (Cal.num y m d))) w
      have hr : rightB (Wk.wy (Cal.num y m d)) (Cal.dM (Wk.mid (Cal.num y m d))) (Cal.dD (Wk.mid (Cal.num y m d))) = true := right_true.2 (Cal.date_right _ m0.1 m0.2)
      have hn : Cal.num (Wk.wy (Cal.num y m d)) (Cal.dM (Wk.mid (Cal.num y m d))) (Cal.dD (Wk.mid (Cal.num y m d))) = Wk.mid (Cal.num y m d) := Cal.date_num _
      rw [hr, hn] at this
      exact this
    · intro w
      have k4 := Wk.dow_mid (Cal.num y m d)
      have := weekday_b (Wk.mid (Cal.num y m d)) w (by omega) (by omega)
      rw [show (Wk.mid (Cal.num y m d) + 4) % 7 = 4 by unfold Wk.dow at k4; omega] at this
      exact this
  generalize Wk.mid (Cal.num y m d) = n at E3 E4
  clear rr a1 a2 R dn0 D0 m0
  obtain ⟨hn, hm, ed, ey, ek⟩ := Wk.back_of h2
  have g0 := Cal.hasD_true.1 hn
  have R2 := Cal.date_right _ g0.1 g0.2
  have N2 := Cal.date_num (Wk.dn p q r)
  have G := Lib.hid (wright_c p q r true h2)
  obtain ⟨u0, u1, u2, F, K⟩ : ∃ u0 u1 u2, Hid (∀ w, Calls Tryd.prog 43 #[.agg #[.int .i64 p, .int .i64 q, .int .i64 r]] w fun e w' => e = .returned (.tuple #[.agg #[.int .i64 u0, .int .i64 u1, .int .i64 u2], .int .i64 0]) ∧ Below w.heap.size w w') ∧ Hid (∀ w, Calls Tryd.prog 41 #[.agg #[.int .i64 u0, .int .i64 u1, .int .i64 u2]] w fun e w' => e = .returned (.tuple #[.agg #[.int .i64 p, .int .i64 q, .int .i64 r], .int .i64 0]) ∧ Below w.heap.size w w') := by
    refine ⟨_, _, _, wdate_c p q r _ _ _ h2 rfl rfl rfl, ?_⟩
    refine wof_c _ _ _ _ _ _ ?_ (by rw [N2]; exact ey) (by rw [N2]; exact ek) (by rw [N2]; exact ed)
    unfold Wk.wok
    rw [N2, ey, ek, ed, right_true.2 R2, hm, h2]; rfl
  clear hn hm ed ey ek g0 R2 N2
  clear h1 h2 htab
  go_enter Tryd.func8, Tryd.ntmps8
  go_wp2_with fail
  refine (L.out _ (var_keep (by repeat (first | exact Below.refl _ _ | refine below_drewN ?_ _ | refine Below.drew ?_ | refine Below.setCell ?_ (by first | (simp; done) | (simp; omega) | omega) _ | refine Below.alloc ?_ (by first | (simp; done) | (simp; omega) | omega) _)) T0.out)).mono ?_; rintro e w1 ⟨rfl, b1⟩
  have d1 : Below w.heap.size w w1 := below_step (by repeat (first | exact Below.refl _ _ | refine below_drewN ?_ _ | refine Below.drew ?_ | refine Below.setCell ?_ (by first | (simp; done) | (simp; omega) | omega) _ | refine Below.alloc ?_ (by first | (simp; done) | (simp; omega) | omega) _)) b1
  have B1 := Lib.hid d1
  have Da1 : Bk3 w1 (w.heap.size) (.int .i64 y) (.int .i64 m) (.int .i64 d) := Bk3.of b1 (by simp <;> omega) (by intro j; simp [go_sem]) (by simp [go_sem]) (by simp [go_sem]) (by simp [go_sem])
  have Wa1 : Bk3 w1 (w.heap.size + 1) (.int .i64 p) (.int .i64 q) (.int .i64 r) := Bk3.of b1 (by simp <;> omega) (by intro j; simp [go_sem]) (by simp [go_sem]) (by simp [go_sem]) (by simp [go_sem])
  clear b1 d1
  have cDa_b := Da1.hb
  have cDa_f := Da1.fz
  have cDa_0 := Da1.k0
  have cDa_1 := Da1.k1
  have cDa_2 := Da1.k2
  have cWa_b := Wa1.hb
  have cWa_f := Wa1.fz
  have cWa_0 := Wa1.k0
  have cWa_1 := Wa1.k1
  have cWa_2 := Wa1.k2
  go_wp2_with fail
  clear cDa_b cDa_f cDa_0 cDa_1 cDa_2 cWa_b cWa_f cWa_0 cWa_1 cWa_2
  refine (O.out _).mono ?_; rintro e w2 ⟨rfl, b2⟩
  have d2 : Below w1.heap.size w1 w2 := below_step (by repeat (first | exact Below.refl _ _ | refine below_drewN ?_ _ | refine Below.drew ?_ | refine Below.setCell ?_ (by first | (simp; done) | (simp; omega) | omega) _ | refine Below.alloc ?_ (by first | (simp; done) | (simp; omega) | omega) _)) b2
  have B2 := Lib.hid (below_step B1.out d2)
  have Da2 := Da1.keep d2
  have Wa2 := Wa1.keep d2
  clear Da1 Wa1 b2 d2 B1
  have cDa_b := Da2.hb
  have cDa_f := Da2.fz
  have cDa_0 := Da2.k0
  have cDa_1 := Da2.k1
  have cDa_2 := Da2.k2
  have cWa_b := Wa2.hb
  have cWa_f := Wa2.fz
  have cWa_0 := Wa2.k0
  have cWa_1 := Wa2.k1
  have cWa_2 := Wa2.k2
  go_wp2_with fail
  clear cDa_b cDa_f cDa_0 cDa_1 cDa_2 cWa_b cWa_f cWa_0 cWa_1 cWa_2
  refine (E1.out _).mono ?_; rintro e w3 ⟨rfl, b3⟩
  have d3 : Below w2.heap.size w2 w3 := below_step (by repeat (first | exact Below.refl _ _ | refine below_drewN ?_ _ | refine Below.drew ?_ | refine Below.setCell ?_ (by first | (simp; done) | (simp; omega) | omega) _ | refine Below.alloc ?_ (by first | (simp; done) | (simp; omega) | omega) _)) b3
  have B3 := Lib.hid (below_step B2.out d3)
  have Da3 := Da2.keep d3
  have Wa3 := Wa2.keep d3
  have aAa := B2.out.size
  have nAaDa := Nat.ne_of_lt Da2.hb
  have oAaDa := Nat.ne_of_gt Da2.hb
  have nAaWa := Nat.ne_of_lt Wa2.hb
  have oAaWa := Nat.ne_of_gt Wa2.hb
  have Aa3 : Bk3 w3 (w2.heap.size) (.int .i64 Y) (.int .i64 k) (.int .i64 D) := Bk3.of b3 (by simp <;> omega) (by intro j; simp [go_sem]) (by simp [go_sem]) (by simp [go_sem]) (by simp [go_sem])
  clear Da2 Wa2 b3 d3 B2
  have cDa_b := Da3.hb
  have cDa_f := Da3.fz
  have cDa_0 := Da3.k0
  have cDa_1 := Da3.k1
  have cDa_2 := Da3.k2
  have cWa_b := Wa3.hb
  have cWa_f := Wa3.fz
  have cWa_0 := Wa3.k0
  have cWa_1 := Wa3.k1
  have cWa_2 := Wa3.k2
  have cAa_b := Aa3.hb
  have cAa_f := Aa3.fz
  have cAa_0 := Aa3.k0
  have cAa_1 := Aa3.k1
  have cAa_2 := Aa3.k2
  go_wp2_with fail
  clear cDa_b cDa_f cDa_0 cDa_1 cDa_2 cWa_b cWa_f cWa_0 cWa_1 cWa_2 cAa_b cAa_f cAa_0 cAa_1 cAa_2
  refine (E2.out _).mono ?_; rintro e w4 ⟨rfl, b4⟩
  have d4 : Below w3.heap.size w3 w4 := below_step (by repeat (first | exact Below.refl _ _ | refine below_drewN ?_ _ | refine Below.drew ?_ | refine Below.setCell ?_ (by first | (simp; done) | (simp; omega) | omega) _ | refine Below.alloc ?_ (by first | (simp; done) | (simp; omega) | omega) _)) b4
  have B4 := Lib.hid (below_step B3.out d4)
  have Da4 := Da3.keep d4
  have Wa4 := Wa3.keep d4
  have Aa4 := Aa3.keep d4
  have aBb := B3.out.size
  have nBbDa := Nat.ne_of_lt Da3.hb
  have oBbDa := Nat.ne_of_gt Da3.hb
  have nBbWa := Nat.ne_of_lt Wa3.hb
  have oBbWa := Nat.ne_of_gt Wa3.hb
  have nBbAa := Nat.ne_of_lt Aa3.hb
  have oBbAa := Nat.ne_of_gt Aa3.hb
  have Bb4 : Bk3 w4 (w3.heap.size) (.int .i64 y) (.int .i64 m) (.int .i64 d) := Bk3.of b4 (by simp <;> omega) (by intro j; simp [go_sem]) (by simp [go_sem]) (by simp [go_sem]) (by simp [go_sem])
  clear Da3 Wa3 Aa3 b4 d4 B3
  have cDa_b := Da4.hb
  have cDa_f := Da4.fz
  have cDa_0 := Da4.k0
  have cDa_1 := Da4.k1
  have cDa_2 := Da4.k2
  have cWa_b := Wa4.hb
  have cWa_f := Wa4.fz
  have cWa_0 := Wa4.k0
  have cWa_1 := Wa4.k1
  have cWa_2 := Wa4.k2
  have cAa_b := Aa4.hb
  have cAa_f := Aa4.fz
  have cAa_0 := Aa4.k0
  have cAa_1 := Aa4.k1
  have cAa_2 := Aa4.k2
  have cBb_b := Bb4.hb
  have cBb_f := Bb4.fz
  have cBb_0 := Bb4.k0
  have cBb_1 := Bb4.k1
  have cBb_2 := Bb4.k2
  go_wp2_with fail
  clear cDa_b cDa_f cDa_0 cDa_1 cDa_2 cWa_b cWa_f cWa_0 cWa_1 cWa_2 cAa_b cAa_f cAa_0 cAa_1 cAa_2 cBb_b cBb_f cBb_0 cBb_1 cBb_2
  refine (E3.out _).mono ?_; rintro e w5 ⟨rfl, b5⟩
  have d5 : Below w4.heap.size w4 w5 := below_step (by repeat (first | exact Below.refl _ _ | refine below_drewN ?_ _ | refine Below.drew ?_ | refine Below.setCell ?_ (by first | (simp; done) | (simp; omega) | omega) _ | refine Below.alloc ?_ (by first | (simp; done) | (simp; omega) | omega) _)) b5
  have B5 := Lib.hid (below_step B4.out d5)
  have Da5 := Da4.keep d5
  have Wa5 := Wa4.keep d5
  have Aa5 := Aa4.keep d5
  have Bb5 := Bb4.keep d5
  have aTt := B4.out.size
  have nTtDa := Nat.ne_of_lt Da4.hb
  have oTtDa := Nat.ne_of_gt Da4.hb
  have nTtWa := Nat.ne_of_lt Wa4.hb
  have oTtWa := Nat.ne_of_gt Wa4.hb
  have nTtAa := Nat.ne_of_lt Aa4.hb
  have oTtAa := Nat.ne_of_gt Aa4.hb
  have nTtBb := Nat.ne_of_lt Bb4.hb
  have oTtBb := Nat.ne_of_gt Bb4.hb
  have Tt5 : Bk3 w5 (w4.heap.size) (.int .i64 Y) (.int .i64 t1) (.int .i64 t2) := Bk3.of b5 (by simp <;> omega) (by intro j; simp [go_sem]) (by simp [go_sem]) (by simp [go_sem]) (by simp [go_sem])
  clear Da4 Wa4 Aa4 Bb4 b5 d5 B4
  have cDa_b := Da5.hb
  have cDa_f := Da5.fz
  have cDa_0 := Da5.k0
  have cDa_1 := Da5.k1
  have cDa_2 := Da5.k2
  have cWa_b := Wa5.hb
  have cWa_f := Wa5.fz
  have cWa_0 := Wa5.k0
  have cWa_1 := Wa5.k1
  have cWa_2 := Wa5.k2
  have cAa_b := Aa5.hb
  have cAa_f := Aa5.fz
  have cAa_0 := Aa5.k0
  have cAa_1 := Aa5.k1
  have cAa_2 := Aa5.k2
  have cBb_b := Bb5.hb
  have cBb_f := Bb5.fz
  have cBb_0 := Bb5.k0
  have cBb_1 := Bb5.k1
  have cBb_2 := Bb5.k2
  have cTt_b := Tt5.hb
  have cTt_f := Tt5.fz
  have cTt_0 := Tt5.k0
  have cTt_1 := Tt5.k1
  have cTt_2 := Tt5.k2
  go_wp2_with fail
  clear cDa_b cDa_f cDa_0 cDa_1 cDa_2 cWa_b cWa_f cWa_0 cWa_1 cWa_2 cAa_b cAa_f cAa_0 cAa_1 cAa_2 cBb_b cBb_f cBb_0 cBb_1 cBb_2 cTt_b cTt_f cTt_0 cTt_1 cTt_2
  refine (E4.out _).mono ?_; rintro e w6 ⟨rfl, b6⟩
  have d6 : Below w5.heap.size w5 w6 := below_step (by repeat (first | exact Below.refl _ _ | refine below_drewN ?_ _ | refine Below.drew ?_ | refine Below.setCell ?_ (by first | (simp; done) | (simp; omega) | omega) _ | refine Below.alloc ?_ (by first | (simp; done) | (simp; omega) | omega) _)) b6
  have B6 := Lib.hid (below_step B5.out d6)
  have Da6 := Da5.keep d6
  have Wa6 := Wa5.keep d6
  have Aa6 := Aa5.keep d6
  have Bb6 := Bb5.keep d6
  have Tt6 := Tt5.keep d6
  clear Da5 Wa5 Aa5 Bb5 Tt5 b6 d6 B5
  clear Aa6 aAa
  clear Bb6 aBb
  clear Tt6 aTt
  clear Da6
  have cWa_b := Wa6.hb
  have cWa_f := Wa6.fz
  have cWa_0 := Wa6.k0
  have cWa_1 := Wa6.k1
  have cWa_2 := Wa6.k2
  go_wp2_with fail
  clear cWa_b cWa_f cWa_0 cWa_1 cWa_2
  refine (F.out _).mono ?_; rintro e w7 ⟨rfl, b7⟩
  have d7 : Below w6.heap.size w6 w7 := below_step (by repeat (first | exact Below.refl _ _ | refine below_drewN ?_ _ | refine Below.drew ?_ | refine Below.setCell ?_ (by first | (simp; done) | (simp; omega) | omega) _ | refine Below.alloc ?_ (by first | (simp; done) | (simp; omega) | omega) _)) b7
  have B7 := Lib.hid (below_step B6.out d7)
  have Wa7 := Wa6.keep d7
  clear Wa6 b7 d7 B6
  have cWa_b := Wa7.hb
  have cWa_f := Wa7.fz
  have cWa_0 := Wa7.k0
  have cWa_1 := Wa7.k1
  have cWa_2 := Wa7.k2
  go_wp2_with fail
  clear cWa_b cWa_f cWa_0 cWa_1 cWa_2
  refine (G.out _).mono ?_; rintro e w8 ⟨rfl, b8⟩
  have d8 : Below w7.heap.size w7 w8 := below_step (by repeat (first | exact Below.refl _ _ | refine below_drewN ?_ _ | refine Below.drew ?_ | refine Below.setCell ?_ (by first | (simp; done) | (simp; omega) | omega) _ | refine Below.alloc ?_ (by first | (simp; done) | (simp; omega) | omega) _)) b8
  have B8 := Lib.hid (below_step B7.out d8)
  have Wa8 := Wa7.keep d8
  have aCc := B7.out.size
  have nCcWa := Nat.ne_of_lt Wa7.hb
  have oCcWa := Nat.ne_of_gt Wa7.hb
  have Cc8 : Bk3 w8 (w7.heap.size) (.int .i64 u0) (.int .i64 u1) (.int .i64 u2) := Bk3.of b8 (by simp <;> omega) (by intro j; simp [go_sem]) (by simp [go_sem]) (by simp [go_sem]) (by simp [go_sem])
  clear Wa7 b8 d8 B7
  have cWa_b := Wa8.hb
  have cWa_f := Wa8.fz
  have cWa_0 := Wa8.k0
  have cWa_1 := Wa8.k1
  have cWa_2 := Wa8.k2
  have cCc_b := Cc8.hb
  have cCc_f := Cc8.fz
  have cCc_0 := Cc8.k0
  have cCc_1 := Cc8.k1
  have cCc_2 := Cc8.k2
  go_wp2_with fail
  clear cWa_b cWa_f cWa_0 cWa_1 cWa_2 cCc_b cCc_f cCc_0 cCc_1 cCc_2
  refine (K.out _).mono ?_; rintro e w9 ⟨rfl, b9⟩
  have d9 : Below w8.heap.size w8 w9 := below_step (by repeat (first | exact Below.refl _ _ | refine below_drewN ?_ _ | refine Below.drew ?_ | refine Below.setCell ?_ (by first | (simp; done) | (simp; omega) | omega) _ | refine Below.alloc ?_ (by first | (simp; done) | (simp; omega) | omega) _)) b9
  have B9 := Lib.hid (below_step B8.out d9)
  have Wa9 := Wa8.keep d9
  have Cc9 := Cc8.keep d9
  clear Wa8 Cc8 b9 d9 B8
  have cWa_b := Wa9.hb
  have cWa_f := Wa9.fz
  have cWa_0 := Wa9.k0
  have cWa_1 := Wa9.k1
  have cWa_2 := Wa9.k2
  have cCc_b := Cc9.hb
  have cCc_f := Cc9.fz
  have cCc_0 := Cc9.k0
  have cCc_1 := Cc9.k1
  have cCc_2 := Cc9.k2
  go_wp2_with fail
  clear cWa_b cWa_f cWa_0 cWa_1 cWa_2 cCc_b cCc_f cCc_0 cCc_1 cCc_2
  go_ret
  exact ⟨rfl, (by have hz := B9.out.size; repeat (first | exact B9.out | refine below_drewN ?_ _ | refine Below.drew ?_ | refine Below.setCell ?_ (by first | omega | (simp; done) | (simp; omega)) _ | refine Below.alloc ?_ (by first | omega | (simp; done) | (simp; omega)) _))⟩
theorem wback_walk (y m d p q r : Int) (w : World) (htab : Lib.TabIs Tryd.prog w "internal/strconv.uint64pow10" .u64 Lib.pow10Tab) :
    Calls Tryd.prog 8 #[.agg #[.int .i64 y, .int .i64 m, .int .i64 d], .agg #[.int .i64 p, .int .i64 q, .int .i64 r]] w fun e w' => e = .returned (.bool true) ∧ Below w.heap.size w w' := by
  cases h1 : Wk.wok y m d <;> cases h2 : Wk.rB p q r
  · exact wback_nn y m d p q r w htab h1 h2
  · exact wback_ny y m d p q r w htab h1 h2
  · exact wback_yn y m d p q r w htab h1 h2
  · exact wback_yy y m d p q r w htab h1 h2
end Go.Proofs.YtcmnfbbccacpcaaDoor

