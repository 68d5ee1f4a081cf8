/- The walk of TopWeekdays: whatever is handed in, the law answers true; nothing old turns. -/
import Derived.Test.YtpjddkcoolggaabTopD
set_option linter.unusedVariables false
set_option linter.unusedSimpArgs false
namespace Go.Proofs.Ytpjddkcoolggaab
open Go.RowKit Go.Sort

set_option maxHeartbeats 2000000 in
theorem topd_a (n : Int) (w : World) (hh : n < -10000000) :
    Calls Try.prog 9 #[.int .i64 n] w fun e w' => e = .returned (.bool true) ∧ Below w.heap.size w w' := by
  have g0 : (FloatKind.f64.format.order 4702495533095190528 4702495533095190528 != some Ordering.eq) = false := by decide +kernel
  go_enter Try.func9, Try.ntmps9
  go_wp2_with fail
  refine (jul_of 0 (by decide) (by decide) _).mono ?_; rintro e w1 ⟨rfl, rfl⟩
  rw [show Fl.jdB 0 = 4702495533095190528 by decide +kernel]
  go_wp2
  go_ret
  exact ⟨rfl, by go_grown⟩
set_option maxHeartbeats 2000000 in
theorem topd_b (n : Int) (w : World) (h0 : -10000000 ≤ n) (hh : 10000000 < n) :
    Calls Try.prog 9 #[.int .i64 n] w fun e w' => e = .returned (.bool true) ∧ Below w.heap.size w w' := by
  have g0 : (FloatKind.f64.format.order 4702495533095190528 4702495533095190528 != some Ordering.eq) = false := by decide +kernel
  go_enter Try.func9, Try.ntmps9
  go_wp2_with fail
  refine (jul_of 0 (by decide) (by decide) _).mono ?_; rintro e w1 ⟨rfl, rfl⟩
  rw [show Fl.jdB 0 = 4702495533095190528 by decide +kernel]
  go_wp2
  go_ret
  exact ⟨rfl, by go_grown⟩
namespace Fl
theorem noon_all {n : Int} (h0 : -10000000 ≤ n) (h1 : n ≤ 10000000) : ∃ J s p, jdB (n * 86400 + 43200) = J ∧ J < 18446744073709551616 ∧ fin J ∧ itg .down J = J ∧ wn .down J = n + 2440588 ∧ floatBits .sub .f64 J J = some 0 ∧
    floatBits .sub .f64 J zero = some s ∧ floatBits .mul .f64 s day = some p ∧ wv (wayOf 3) p = n * 86400 + 43200 ∧ ww (wayOf 3) p = 0 := by
  obtain ⟨fJ, vJ⟩ := noon_jd h0 h1
  have hl := jd_fin (t := n * 86400 + 43200) (by omega) (by omega)
  obtain ⟨a, ha, hb⟩ := jd_some (t := n * 86400 + 43200) (by omega) (by omega)
  have hlt := some_lt hb
  obtain ⟨s, p, hs, hp, fp, vp⟩ := noon_back h0 h1 fJ vJ
  obtain ⟨e1, e2⟩ := ww_0 fp vp (wayOf 3) (by omega) (by omega)
  obtain ⟨e3, e4⟩ := V_wn fJ vJ .down
  exact ⟨_, s, p, rfl, hlt, fJ, itg_self hlt fJ _ e4, e3, sub_self fJ, hs, hp, e1, e2⟩
end Fl
theorem wok_n {n : Int} (h0 : -10000000 ≤ n) (h1 : n ≤ 10000000) : Cal.hasD n = true ∧ Wk.wok (Cal.dY n) (Cal.dM n) (Cal.dD n) = true ∧ Cal.num (Cal.dY n) (Cal.dM n) (Cal.dD n) = n := by
  have hn : Cal.hasD n = true := Cal.hasD_true.2 (by omega)
  have e := Cal.date_num n
  have hr := Cal.date_right n (by omega) (by omega)
  have mb := Wk.mid_bd n
  have hm : Cal.hasD (Wk.mid n) = true := Cal.hasD_true.2 (by omega)
  have yb := Wk.yd_bd hm
  have A := Wk.ahead_yd (Wk.mid n)
  unfold Cal.ahead at A
  refine ⟨hn, ?_, e⟩
  unfold Wk.wok
  rw [e, right_true.2 hr, hm, Wk.rB_of hm (by unfold Wk.wy; omega) (by unfold Wk.wy; omega)]
  rfl
set_option maxHeartbeats 4000000 in
set_option maxRecDepth 100000 in
theorem topd_p (n : Int) (w : World) (h0 : -10000000 ≤ n) (h1 : n ≤ 10000000) (hs : 0 ≤ n + 2440588 + 1) :
    Calls Try.prog 9 #[.int .i64 n] w fun e w' => e = .returned (.bool true) ∧ Below w.heap.size w w' := by
  have g0 : (FloatKind.f64.format.order 4702495533095190528 4702495533095190528 != some Ordering.eq) = false := by decide +kernel
  have g1 : (FloatKind.f64.format.order 0 0 != some Ordering.eq) = false := by decide +kernel
  obtain ⟨J, s, p, e1, e2, e3, e4, e5, e6, e7, e8, e9, e10⟩ := Fl.noon_all h0 h1
  have cv : ∀ w, (convert 22 2 (.float .f64 J)).run Try.prog w = .ok (.int .i64 (n + 2440588)) w := by
    intro w
    have h := conv_whole (way := .down) (x := J) (y := J) ⟨e2, fun h => h, fun _ => e4.symm⟩ e3 (by rw [e5]; omega) (by rw [e5]; omega) w
    rw [e5] at h
    exact h
  have EJ := Lib.hid e1
  have E := Lib.hid (And.intro e2 (And.intro (Fl.fin_nan e3) (And.intro e4 (And.intro e6 (And.intro e7 (And.intro e8 (And.intro e9 e10)))))))
  clear e1 e2 e3 e4 e5 e6 e7 e8 e9 e10
  have WO := Lib.hid (wok_n h0 h1)
  have DM := Lib.hid (Wk.dow_mod n)
  go_enter Try.func9, Try.ntmps9
  go_wp2_with fail
  refine (jul_of 0 (by decide) (by decide) _).mono ?_; rintro e w1 ⟨rfl, rfl⟩
  rw [show Fl.jdB 0 = 4702495533095190528 by decide +kernel]
  go_wp2_with fail
  refine (jul_of (n * 86400 + 43200) (by omega) (by omega) _).mono ?_; rintro e w1 ⟨rfl, rfl⟩
  rw [EJ.out]
  go_wp2_with fail
  refine (jul_parts J E.out.1 _).mono ?_; rintro e w1 ⟨y, r, k1, hy, hr, rfl, rfl⟩
  obtain rfl : y = J := (hy.2.2 E.out.2.1).trans E.out.2.2.1
  obtain rfl := hr.eq E.out.2.2.2.1
  clear hy hr
  go_wp2_with fail
  refine (jul_secs y 3 (by decide) (by decide) _).mono ?_; rintro e w1 ⟨s', p', k2, hs', hp', rfl, rfl⟩
  obtain rfl := hs'.eq E.out.2.2.2.2.1
  obtain rfl := hp'.eq E.out.2.2.2.2.2.1
  rw [E.out.2.2.2.2.2.2.1, E.out.2.2.2.2.2.2.2]
  clear hs' hp'
  generalize hW : World.drewN _ _ = w1
  have B1 := Lib.hid (show Below w.heap.size w w1 from by rw [← hW]; repeat (first | exact Below.refl _ _ | refine below_drewN ?_ _))
  clear hW
  go_wp2_with fail
  refine (weekday_b n _ (by omega) (by omega)).mono ?_; rintro e w2 ⟨rfl, b2⟩
  have d2 : Below w1.heap.size w1 w2 := below_step (by repeat (first | exact Below.refl _ _ | refine below_drewN ?_ _ | refine Below.drew ?_ | refine Below.setCell ?_ (by first | (simp; done) | (simp; omega) | omega) _ | refine Below.alloc ?_ (by first | (simp; done) | (simp; omega) | omega) _)) b2
  have B2 := Lib.hid (below_step B1.out d2)
  clear b2 d2 B1
  have d0 : 0 ≤ (n + 4) % 7 := by omega
  have d6 : (n + 4) % 7 ≤ 6 := by omega
  have f1 : (n + 2440588 + 1) % 7 = (n + 4) % 7 := by omega
  generalize (n + 4) % 7 = dd at *
  have f2 : (n + 2440589) % 7 = dd := by rw [show n + 2440589 = n + 2440588 + 1 by omega]; exact f1
  all_goals
    go_wp2_with fail
    refine (date_any n _).mono ?_; rintro e w3 ⟨rfl, b3⟩
    have d3 : Below w2.heap.size w2 w3 := below_step (by repeat (first | exact Below.refl _ _ | refine below_drewN ?_ _ | refine Below.drew ?_ | refine Below.setCell ?_ (by first | (simp; done) | (simp; omega) | omega) _ | refine Below.alloc ?_ (by first | (simp; done) | (simp; omega) | omega) _)) b3
    have B3 := Lib.hid (below_step B2.out d3)
    clear b3 d3 B2
    rw [WO.out.1]
    simp only [Cal.orz, Cal.why, if_true]
    go_wp2_with fail
    refine (wof_any (Cal.dY n) (Cal.dM n) (Cal.dD n) _).mono ?_; rintro e w4 ⟨rfl, b4⟩
    have d4 : Below w3.heap.size w3 w4 := below_step (by repeat (first | exact Below.refl _ _ | refine below_drewN ?_ _ | refine Below.drew ?_ | refine Below.setCell ?_ (by first | (simp; done) | (simp; omega) | omega) _ | refine Below.alloc ?_ (by first | (simp; done) | (simp; omega) | omega) _)) b4
    have B4 := Lib.hid (below_step B3.out d4)
    have aD := B3.out.size
    have D4 : Bk3 w4 (w3.heap.size) (.int .i64 (Cal.dY n)) (.int .i64 (Cal.dM n)) (.int .i64 (Cal.dD n)) := Bk3.of b4 (by simp <;> omega) (by intro j; simp [go_sem]) (by simp [go_sem]) (by simp [go_sem]) (by simp [go_sem])
    clear b4 d4 B3
    rw [WO.out.2.1, WO.out.2.2]
    simp only [Cal.orz, Cal.why, if_true]
    have dm := DM.out
    have db := Wk.dow_bd n
    generalize Wk.dow n = dn at *
    have db1 := db.1
    clear db
    have cD_b := D4.hb
    have cD_f := D4.fz
    have cD_0 := D4.k0
    have cD_1 := D4.k1
    have cD_2 := D4.k2
    go_wp2_with fail
    clear cD_b cD_f cD_0 cD_1 cD_2
    go_ret
    exact ⟨rfl, (by have hz := B4.out.size; repeat (first | exact B4.out | refine below_drewN ?_ _ | refine Below.drew ?_ | refine Below.setCell ?_ (by first | omega | (simp; done) | (simp; omega)) _ | refine Below.alloc ?_ (by first | omega | (simp; done) | (simp; omega)) _))⟩
set_option maxHeartbeats 4000000 in
set_option maxRecDepth 100000 in
theorem topd_m (n : Int) (w : World) (h0 : -10000000 ≤ n) (h1 : n ≤ 10000000) (hs : n + 2440588 + 1 < 0) :
    Calls Try.prog 9 #[.int .i64 n] w fun e w' => e = .returned (.bool true) ∧ Below w.heap.size w w' := by
  have g0 : (FloatKind.f64.format.order 4702495533095190528 4702495533095190528 != some Ordering.eq) = false := by decide +kernel
  have g1 : (FloatKind.f64.format.order 0 0 != some Ordering.eq) = false := by decide +kernel
  obtain ⟨J, s, p, e1, e2, e3, e4, e5, e6, e7, e8, e9, e10⟩ := Fl.noon_all h0 h1
  have cv : ∀ w, (convert 22 2 (.float .f64 J)).run Try.prog w = .ok (.int .i64 (n + 2440588)) w := by
    intro w
    have h := conv_whole (way := .down) (x := J) (y := J) ⟨e2, fun h => h, fun _ => e4.symm⟩ e3 (by rw [e5]; omega) (by rw [e5]; omega) w
    rw [e5] at h
    exact h
  have EJ := Lib.hid e1
  have E := Lib.hid (And.intro e2 (And.intro (Fl.fin_nan e3) (And.intro e4 (And.intro e6 (And.intro e7 (And.intro e8 (And.intro e9 e10)))))))
  clear e1 e2 e3 e4 e5 e6 e7 e8 e9 e10
  have WO := Lib.hid (wok_n h0 h1)
  have DM := Lib.hid (Wk.dow_mod n)
  go_enter Try.func9, Try.ntmps9
  go_wp2_with fail
  refine (jul_of 0 (by decide) (by decide) _).mono ?_; rintro e w1 ⟨rfl, rfl⟩
  rw [show Fl.jdB 0 = 4702495533095190528 by decide +kernel]
  go_wp2_with fail
  refine (jul_of (n * 86400 + 43200) (by omega) (by omega) _).mono ?_; rintro e w1 ⟨rfl, rfl⟩
  rw [EJ.out]
  go_wp2_with fail
  refine (jul_parts J E.out.1 _).mono ?_; rintro e w1 ⟨y, r, k1, hy, hr, rfl, rfl⟩
  obtain rfl : y = J := (hy.2.2 E.out.2.1).trans E.out.2.2.1
  obtain rfl := hr.eq E.out.2.2.2.1
  clear hy hr
  go_wp2_with fail
  refine (jul_secs y 3 (by decide) (by decide) _).mono ?_; rintro e w1 ⟨s', p', k2, hs', hp', rfl, rfl⟩
  obtain rfl := hs'.eq E.out.2.2.2.2.1
  obtain rfl := hp'.eq E.out.2.2.2.2.2.1
  rw [E.out.2.2.2.2.2.2.1, E.out.2.2.2.2.2.2.2]
  clear hs' hp'
  generalize hW : World.drewN _ _ = w1
  have B1 := Lib.hid (show Below w.heap.size w w1 from by rw [← hW]; repeat (first | exact Below.refl _ _ | refine below_drewN ?_ _))
  clear hW
  go_wp2_with fail
  refine (weekday_b n _ (by omega) (by omega)).mono ?_; rintro e w2 ⟨rfl, b2⟩
  have d2 : Below w1.heap.size w1 w2 := below_step (by repeat (first | exact Below.refl _ _ | refine below_drewN ?_ _ | refine Below.drew ?_ | refine Below.setCell ?_ (by first | (simp; done) | (simp; omega) | omega) _ | refine Below.alloc ?_ (by first | (simp; done) | (simp; omega) | omega) _)) b2
  have B2 := Lib.hid (below_step B1.out d2)
  clear b2 d2 B1
  have d0 : 0 ≤ (n + 4) % 7 := by omega
  have d6 : (n + 4) % 7 ≤ 6 := by omega
  have f1 : (n + 2440588 + 1).tmod 7 = if (n + 4) % 7 = 0 then 0 else (n + 4) % 7 - 7 := by (rw [show n + 2440588 + 1 = -(-(n + 2440589)) by omega, Int.neg_tmod, Int.tmod_eq_emod_of_nonneg (by omega)]; split <;> omega)
  generalize (n + 4) % 7 = dd at *
  rcases (by by_cases hz : dd = 0; exact .inl ⟨hz, by rw [f1, if_pos hz, hz], rfl⟩; exact .inr ⟨by omega, by rw [f1, if_neg hz], by rw [bne_iff_ne]; omega⟩ : (dd = 0 ∧ (n + 2440588 + 1).tmod 7 = dd ∧ true = true) ∨ (0 < dd ∧ (n + 2440588 + 1).tmod 7 = dd - 7 ∧ (dd - 7 != dd) = true)) with ⟨hz, f2, t1⟩ | ⟨hz, f2, t1⟩
  all_goals
    go_wp2_with fail
    refine (date_any n _).mono ?_; rintro e w3 ⟨rfl, b3⟩
    have d3 : Below w2.heap.size w2 w3 := below_step (by repeat (first | exact Below.refl _ _ | refine below_drewN ?_ _ | refine Below.drew ?_ | refine Below.setCell ?_ (by first | (simp; done) | (simp; omega) | omega) _ | refine Below.alloc ?_ (by first | (simp; done) | (simp; omega) | omega) _)) b3
    have B3 := Lib.hid (below_step B2.out d3)
    clear b3 d3 B2
    rw [WO.out.1]
    simp only [Cal.orz, Cal.why, if_true]
    go_wp2_with fail
    refine (wof_any (Cal.dY n) (Cal.dM n) (Cal.dD n) _).mono ?_; rintro e w4 ⟨rfl, b4⟩
    have d4 : Below w3.heap.size w3 w4 := below_step (by repeat (first | exact Below.refl _ _ | refine below_drewN ?_ _ | refine Below.drew ?_ | refine Below.setCell ?_ (by first | (simp; done) | (simp; omega) | omega) _ | refine Below.alloc ?_ (by first | (simp; done) | (simp; omega) | omega) _)) b4
    have B4 := Lib.hid (below_step B3.out d4)
    have aD := B3.out.size
    have D4 : Bk3 w4 (w3.heap.size) (.int .i64 (Cal.dY n)) (.int .i64 (Cal.dM n)) (.int .i64 (Cal.dD n)) := Bk3.of b4 (by simp <;> omega) (by intro j; simp [go_sem]) (by simp [go_sem]) (by simp [go_sem]) (by simp [go_sem])
    clear b4 d4 B3
    rw [WO.out.2.1, WO.out.2.2]
    simp only [Cal.orz, Cal.why, if_true]
    have dm := DM.out
    have db := Wk.dow_bd n
    generalize Wk.dow n = dn at *
    have db1 := db.1
    clear db
    have cD_b := D4.hb
    have cD_f := D4.fz
    have cD_0 := D4.k0
    have cD_1 := D4.k1
    have cD_2 := D4.k2
    go_wp2_with fail
    clear cD_b cD_f cD_0 cD_1 cD_2
    go_ret
    exact ⟨rfl, (by have hz := B4.out.size; repeat (first | exact B4.out | refine below_drewN ?_ _ | refine Below.drew ?_ | refine Below.setCell ?_ (by first | omega | (simp; done) | (simp; omega)) _ | refine Below.alloc ?_ (by first | omega | (simp; done) | (simp; omega)) _))⟩
theorem topd_walk (n : Int) (w : World) :
    Calls Try.prog 9 #[.int .i64 n] w fun e w' => e = .returned (.bool true) ∧ Below w.heap.size w w' := by
  by_cases h0 : n < -10000000
  · exact topd_a n w h0
  by_cases h1 : 10000000 < n
  · exact topd_b n w (by omega) h1
  by_cases hs : 0 ≤ n + 2440588 + 1
  · exact topd_p n w (by omega) (by omega) hs
  · exact topd_m n w (by omega) (by omega) (by omega)
end Go.Proofs.Ytpjddkcoolggaab

