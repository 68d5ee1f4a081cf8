/- The walk of TopWeeks: whatever is handed in, the law answers true; nothing old turns. -/
import Derived.Test.YtlehbnfocilcmabMoA
import Derived.Test.YtlehbnfocilcmabDrWeek
set_option linter.unusedVariables false
set_option linter.unusedSimpArgs false
namespace Go.Proofs.Ytlehbnfocilcmab
open Go.RowKit Go.Sort

set_option maxHeartbeats 2000000 in
theorem begins3 (w : World) :
    Calls Try.prog 34 #[] w fun e w' => e = .returned (.bool true) ∧ Below w.heap.size w w' := by
  go_enter Try.func34, Try.ntmps34
  go_wp2_with fail
  refine (odays_any 2 0 8 2024 3 _).mono ?_; rintro e w1 ⟨rfl, b1⟩
  have d1 : Below w.heap.size w w1 := below_step (by repeat (first | exact Below.refl _ _ | refine below_drewN ?_ _ | refine Below.drew ?_ | refine Below.setCell ?_ (by simp) _ | refine Below.alloc ?_ (by simp) _)) b1
  have B1 := Lib.hid d1
  clear b1 d1
  rw [show Dr.dn 2 0 8 2024 3 = 19792 by decide, show Dr.dw 2 0 8 2024 3 = 0 by decide]
  go_wp2_with fail
  go_ret
  exact ⟨rfl, (by have hz := B1.out.size; repeat (first | exact B1.out | refine below_drewN ?_ _ | refine Below.drew ?_ | refine Below.setCell ?_ (by first | omega | (simp; done) | (simp; omega)) _ | refine Below.alloc ?_ (by first | omega | (simp; done) | (simp; omega)) _))⟩
namespace Dr
/-- The first one from a day on, and the last one up to a day. -/
theorem from_to {wk y m d : Int} (d0 : 1 ≤ d) (d1 : d ≤ 22) (m0 : 1 ≤ m) (m1 : m ≤ 12) (y0 : -39999 ≤ y) (y1 : y ≤ 39999) (w0 : 0 ≤ wk) (w1 : wk ≤ 6) (F : Int) (hF : F = Cal.num y m 1) :
    (dn 2 wk d y m = F + (d - 1) + (wk - (F + (d - 1) + 4)) % 7 ∧ dw 2 wk d y m = 0) ∧ (dn 3 wk (d + 6) y m = F + (d - 1) + (wk - (F + (d - 1) + 4)) % 7 ∧ dw 3 wk (d + 6) y m = 0) := by
  have h := week_math d0 d1 m0 m1 y0 y1 w0 w1
  have e : Cal.num y m d = F + (d - 1) := by rw [hF]; unfold Cal.num; omega
  have ht : Dr.t wk d y m = (wk - (F + (d - 1) + 4)) % 7 := by unfold Dr.t; rw [e]
  rw [e, ht] at h
  exact ⟨h.1, h.2.1⟩
set_option maxHeartbeats 1000000 in
theorem weeks {wk y m : Int} (m0 : 1 ≤ m) (m1 : m ≤ 12) (y0 : -39999 ≤ y) (y1 : y ≤ 39998) (w0 : 0 ≤ wk) (w1 : wk ≤ 6) : ∃ a L F2, 
    (dn 2 wk 1 y m = a ∧ dw 2 wk 1 y m = 0 ∧ dn 3 wk 7 y m = a ∧ dw 3 wk 7 y m = 0) ∧ (dn 2 wk 8 y m = a + 7 ∧ dw 2 wk 8 y m = 0 ∧ dn 3 wk 14 y m = a + 7 ∧ dw 3 wk 14 y m = 0) ∧
    (dn 2 wk 15 y m = a + 14 ∧ dw 2 wk 15 y m = 0 ∧ dn 3 wk 21 y m = a + 14 ∧ dw 3 wk 21 y m = 0) ∧ (dn 2 wk 22 y m = a + 21 ∧ dw 2 wk 22 y m = 0 ∧ dn 3 wk 28 y m = a + 21 ∧ dw 3 wk 28 y m = 0) ∧
    (dn 1 wk 0 y m = L ∧ dw 1 wk 0 y m = 0) ∧ (Mo.mok y m 1 1 = true ∧ rightB (Mo.mY y m 1) (Mo.mM y m 1) (Mo.mD y m 1 1) = true ∧ Cal.num (Mo.mY y m 1) (Mo.mM y m 1) (Mo.mD y m 1 1) = F2) ∧
    (L = a + 21 ∨ L = a + 28) ∧ L < F2 ∧ F2 ≤ L + 7 ∧ -20000000 ≤ a ∧ a ≤ 20000000 ∧ -20000000 ≤ F2 ∧ F2 ≤ 20000000 := by
  obtain ⟨F, hF⟩ : ∃ F, F = Cal.num y m 1 := ⟨_, rfl⟩
  have k1 := from_to (wk := wk) (y := y) (m := m) (d := 1) (by omega) (by omega) m0 m1 y0 (by omega) w0 w1 F hF
  have k8 := from_to (wk := wk) (y := y) (m := m) (d := 8) (by omega) (by omega) m0 m1 y0 (by omega) w0 w1 F hF
  have k15 := from_to (wk := wk) (y := y) (m := m) (d := 15) (by omega) (by omega) m0 m1 y0 (by omega) w0 w1 F hF
  have k22 := from_to (wk := wk) (y := y) (m := m) (d := 22) (by omega) (by omega) m0 m1 y0 (by omega) w0 w1 F hF
  have l := len_2001 y m m0 m1
  have hf : onF 1 wk 0 m = true := onF_true.2 ⟨onR_true.2 (by omega), m0, m1, by omega⟩
  have kl := dw_ok hf y0 (show y ≤ 39999 by omega)
  have r1 : Cal.Right y m 1 := ⟨by omega, by omega, by omega, by omega⟩
  have hr := right_true.2 r1
  have fb := Cal.num_range r1
  have el : onN 1 wk 0 y m = F + (Cal.len y m - 1) - (F + (Cal.len y m - 1) + 4 - wk) % 7 := by
    have : Cal.num y m (Cal.len y m) = F + (Cal.len y m - 1) := by rw [hF]; unfold Cal.num; omega
    unfold onN base; simp [this]
  have hm : Mo.mok y m 1 1 = true := Mo.mok_true.2 ⟨hr, by unfold Mo.mY Mo.mN; omega, by unfold Mo.mY Mo.mN; omega⟩
  have hmr := Mo.moved_right hm
  have hmd : Mo.mD y m 1 1 = 1 := by
    obtain ⟨a, b⟩ := Mo.mM_bd y m 1
    have := (Mo.len_pos (y := Mo.mY y m 1) a b).1
    unfold Mo.mD; omega
  have hF2 : Cal.num (Mo.mY y m 1) (Mo.mM y m 1) 1 = F + Cal.len y m := by
    rw [hF]
    by_cases h12 : m = 12
    · subst h12
      have e1 : Mo.mY y 12 1 = y + 1 := by unfold Mo.mY Mo.mN; omega
      have e2 : Mo.mM y 12 1 = 1 := by unfold Mo.mM Mo.mN; omega
      rw [e1, e2]
      have := Cal.ahead_succ y
      have c := Cal.cum_succ y 12 (by omega) (by omega)
      have h13 : Cal.cum y (12 + 1) = 365 + Cal.lp y := rfl
      have c1 : Cal.cum (y + 1) 1 = 0 := rfl
      unfold Cal.num; omega
    · have e1 : Mo.mY y m 1 = y := by unfold Mo.mY Mo.mN; omega
      have e2 : Mo.mM y m 1 = m + 1 := by unfold Mo.mM Mo.mN; omega
      rw [e1, e2]
      have c := Cal.cum_succ y m m0 (by omega)
      unfold Cal.num; omega
  have sh : ∀ j : Int, F + 7 * j + (wk - (F + 7 * j + 4)) % 7 = F + (wk - (F + 4)) % 7 + 7 * j := by intro j; omega
  have s8 := sh 1; have s15 := sh 2; have s22 := sh 3
  have e8 : F + (8 - 1) + (wk - (F + (8 - 1) + 4)) % 7 = F + (wk - (F + 4)) % 7 + 7 := s8
  have e15 : F + (15 - 1) + (wk - (F + (15 - 1) + 4)) % 7 = F + (wk - (F + 4)) % 7 + 14 := s15
  have e22 : F + (22 - 1) + (wk - (F + (22 - 1) + 4)) % 7 = F + (wk - (F + 4)) % 7 + 21 := s22
  have e1 : F + (1 - 1) + (wk - (F + (1 - 1) + 4)) % 7 = F + (wk - (F + 4)) % 7 := by simp
  rw [e1] at k1; rw [e8] at k8; rw [e15] at k15; rw [e22] at k22
  have lb : 28 ≤ Cal.len y m ∧ Cal.len y m ≤ 31 := by omega
  have fin : ∀ (N : Int), 28 ≤ N → N ≤ 31 → ((F + (N - 1) - (F + (N - 1) + 4 - wk) % 7 = F + (wk - (F + 4)) % 7 + 21 ∨ F + (N - 1) - (F + (N - 1) + 4 - wk) % 7 = F + (wk - (F + 4)) % 7 + 28) ∧ F + (N - 1) - (F + (N - 1) + 4 - wk) % 7 < F + N ∧ F + N ≤ F + (N - 1) - (F + (N - 1) + 4 - wk) % 7 + 7) := by
    intro N h0 h1
    clear s8 s15 s22 e8 e15 e22 e1 k1 k8 k15 k22 sh
    omega
  have fn := fin _ lb.1 lb.2
  rw [← el] at fn
  refine ⟨F + (wk - (F + 4)) % 7, onN 1 wk 0 y m, F + Cal.len y m, ⟨k1.1.1, k1.1.2, k1.2.1, k1.2.2⟩, ⟨k8.1.1, k8.1.2, k8.2.1, k8.2.2⟩, ⟨k15.1.1, k15.1.2, k15.2.1, k15.2.2⟩, ⟨k22.1.1, k22.1.2, k22.2.1, k22.2.2⟩, ⟨kl.2, kl.1⟩, ⟨hm, hmr, by rw [hmd, hF2]⟩, fn.1, fn.2.1, fn.2.2, ?_, ?_, ?_, ?_⟩
  all_goals
    clear s8 s15 s22 e8 e15 e22 e1 k1 k8 k15 k22 sh fn fin kl el
    omega
end Dr
set_option maxHeartbeats 2000000 in
set_option maxRecDepth 100000 in
theorem tweeks_out (y m wk : Int) (w : World) (h : y < -39000 ∨ 39000 < y ∨ m < 1 ∨ 12 < m ∨ wk < 0 ∨ 6 < wk) :
    Calls Try.prog 10 #[.int .i64 y, .int .i64 m, .int .i64 wk] w fun e w' => e = .returned (.bool true) ∧ Below w.heap.size w w' := by
  have h' : y < -39000 ∨ (¬ y < -39000 ∧ 39000 < y) ∨ (¬ y < -39000 ∧ ¬ 39000 < y ∧ m < 1) ∨ (¬ y < -39000 ∧ ¬ 39000 < y ∧ ¬ m < 1 ∧ 12 < m) ∨ (¬ y < -39000 ∧ ¬ 39000 < y ∧ ¬ m < 1 ∧ ¬ 12 < m ∧ wk < 0) ∨ (¬ y < -39000 ∧ ¬ 39000 < y ∧ ¬ m < 1 ∧ ¬ 12 < m ∧ ¬ wk < 0 ∧ 6 < wk) := by omega
  clear h
  rcases h' with h1 | ⟨h1, h2⟩ | ⟨h1, h2, h3⟩ | ⟨h1, h2, h3, h4⟩ | ⟨h1, h2, h3, h4, h5⟩ | ⟨h1, h2, h3, h4, h5, h6⟩
  all_goals
    go_enter Try.func10, Try.ntmps10
    go_wp2_with fail
    refine (begins3 _).mono ?_; rintro e w1 ⟨rfl, b1⟩
    have d1 : Below w.heap.size w w1 := below_step (by repeat (first | exact Below.refl _ _ | refine below_drewN ?_ _ | refine Below.drew ?_ | refine Below.setCell ?_ (by simp) _ | refine Below.alloc ?_ (by simp) _)) b1
    have B1 := Lib.hid d1
    clear b1 d1
    go_wp2_with fail
    go_ret
    exact ⟨rfl, (by have hz := B1.out.size; repeat (first | exact B1.out | refine below_drewN ?_ _ | refine Below.drew ?_ | refine Below.setCell ?_ (by first | omega | (simp; done) | (simp; omega)) _ | refine Below.alloc ?_ (by first | omega | (simp; done) | (simp; omega)) _))⟩
set_option maxHeartbeats 4000000 in
set_option maxRecDepth 100000 in
theorem tweeks_in (y m wk : Int) (w : World) (y0 : -39000 ≤ y) (y1 : y ≤ 39000) (m0 : 1 ≤ m) (m1 : m ≤ 12) (w0 : 0 ≤ wk) (w1 : wk ≤ 6) :
    Calls Try.prog 10 #[.int .i64 y, .int .i64 m, .int .i64 wk] w fun e w' => e = .returned (.bool true) ∧ Below w.heap.size w w' := by
  obtain ⟨a, L, F2, k1, k2, k3, k4, kl, km, hl, f1, f2, a0, a1, g0, g1⟩ := Dr.weeks m0 m1 (show -39999 ≤ y by omega) (show y ≤ 39998 by omega) w0 w1
  have K1 := Lib.hid k1; have K2 := Lib.hid k2; have K3 := Lib.hid k3; have K4 := Lib.hid k4; have KL := Lib.hid kl; have KM := Lib.hid km
  clear k1 k2 k3 k4 kl km
  have HL := Lib.hid hl; clear hl
  go_enter Try.func10, Try.ntmps10
  go_wp2_with fail
  refine (begins3 _).mono ?_; rintro e w1 ⟨rfl, b1⟩
  have d1 : Below w.heap.size w w1 := below_step (by repeat (first | exact Below.refl _ _ | refine below_drewN ?_ _ | refine Below.drew ?_ | refine Below.setCell ?_ (by simp) _ | refine Below.alloc ?_ (by simp) _)) b1
  have B1 := Lib.hid d1
  clear b1 d1
  go_wp2_with fail
  refine wp_loop_rounds 5 ?_
  rw [rounds_succ]
  go_wp2_with fail
  refine (odays_any 2 wk 1 y m _).mono ?_; rintro e w2 ⟨rfl, b2⟩
  have d2 : Below w1.heap.size w1 w2 := below_step (by repeat (first | exact Below.refl _ _ | refine below_drewN ?_ _ | refine Below.drew ?_ | refine Below.setCell ?_ (by simp) _ | refine Below.alloc ?_ (by simp) _)) b2
  have B2 := Lib.hid (below_step B1.out d2)
  clear b2 d2 B1
  rw [K1.out.1, K1.out.2.1]
  go_wp2_with fail
  refine (odays_any 3 wk 7 y m _).mono ?_; rintro e w3 ⟨rfl, b3⟩
  have d3 : Below w2.heap.size w2 w3 := below_step (by repeat (first | exact Below.refl _ _ | refine below_drewN ?_ _ | refine Below.drew ?_ | refine Below.setCell ?_ (by simp) _ | refine Below.alloc ?_ (by simp) _)) b3
  have B3 := Lib.hid (below_step B2.out d3)
  clear b3 d3 B2
  rw [K1.out.2.2.1, K1.out.2.2.2]
  go_wp2_with fail
  rw [rounds_succ]
  go_wp2_with fail
  refine (odays_any 2 wk 8 y m _).mono ?_; rintro e w4 ⟨rfl, b4⟩
  have d4 : Below w3.heap.size w3 w4 := below_step (by repeat (first | exact Below.refl _ _ | refine below_drewN ?_ _ | refine Below.drew ?_ | refine Below.setCell ?_ (by simp) _ | refine Below.alloc ?_ (by simp) _)) b4
  have B4 := Lib.hid (below_step B3.out d4)
  clear b4 d4 B3
  rw [K2.out.1, K2.out.2.1]
  go_wp2_with fail
  refine (odays_any 3 wk 14 y m _).mono ?_; rintro e w5 ⟨rfl, b5⟩
  have d5 : Below w4.heap.size w4 w5 := below_step (by repeat (first | exact Below.refl _ _ | refine below_drewN ?_ _ | refine Below.drew ?_ | refine Below.setCell ?_ (by simp) _ | refine Below.alloc ?_ (by simp) _)) b5
  have B5 := Lib.hid (below_step B4.out d5)
  clear b5 d5 B4
  rw [K2.out.2.2.1, K2.out.2.2.2]
  go_wp2_with fail
  rw [rounds_succ]
  go_wp2_with fail
  refine (odays_any 2 wk 15 y m _).mono ?_; rintro e w6 ⟨rfl, b6⟩
  have d6 : Below w5.heap.size w5 w6 := below_step (by repeat (first | exact Below.refl _ _ | refine below_drewN ?_ _ | refine Below.drew ?_ | refine Below.setCell ?_ (by simp) _ | refine Below.alloc ?_ (by simp) _)) b6
  have B6 := Lib.hid (below_step B5.out d6)
  clear b6 d6 B5
  rw [K3.out.1, K3.out.2.1]
  go_wp2_with fail
  refine (odays_any 3 wk 21 y m _).mono ?_; rintro e w7 ⟨rfl, b7⟩
  have d7 : Below w6.heap.size w6 w7 := below_step (by repeat (first | exact Below.refl _ _ | refine below_drewN ?_ _ | refine Below.drew ?_ | refine Below.setCell ?_ (by simp) _ | refine Below.alloc ?_ (by simp) _)) b7
  have B7 := Lib.hid (below_step B6.out d7)
  clear b7 d7 B6
  rw [K3.out.2.2.1, K3.out.2.2.2]
  go_wp2_with fail
  rw [rounds_succ]
  go_wp2_with fail
  refine (odays_any 2 wk 22 y m _).mono ?_; rintro e w8 ⟨rfl, b8⟩
  have d8 : Below w7.heap.size w7 w8 := below_step (by repeat (first | exact Below.refl _ _ | refine below_drewN ?_ _ | refine Below.drew ?_ | refine Below.setCell ?_ (by simp) _ | refine Below.alloc ?_ (by simp) _)) b8
  have B8 := Lib.hid (below_step B7.out d8)
  clear b8 d8 B7
  rw [K4.out.1, K4.out.2.1]
  go_wp2_with fail
  refine (odays_any 3 wk 28 y m _).mono ?_; rintro e w9 ⟨rfl, b9⟩
  have d9 : Below w8.heap.size w8 w9 := below_step (by repeat (first | exact Below.refl _ _ | refine below_drewN ?_ _ | refine Below.drew ?_ | refine Below.setCell ?_ (by simp) _ | refine Below.alloc ?_ (by simp) _)) b9
  have B9 := Lib.hid (below_step B8.out d9)
  clear b9 d9 B8
  rw [K4.out.2.2.1, K4.out.2.2.2]
  go_wp2_with fail
  rw [rounds_succ]
  go_wp2_with fail
  refine (odays_any 1 wk 0 y m _).mono ?_; rintro e w10 ⟨rfl, b10⟩
  have d10 : Below w9.heap.size w9 w10 := below_step (by repeat (first | exact Below.refl _ _ | refine below_drewN ?_ _ | refine Below.drew ?_ | refine Below.setCell ?_ (by simp) _ | refine Below.alloc ?_ (by simp) _)) b10
  have B10 := Lib.hid (below_step B9.out d10)
  clear b10 d10 B9
  rw [KL.out.1, KL.out.2]
  go_wp2_with fail
  refine (madd_any y m 1 1 _ (by decide) (by decide)).mono ?_; rintro e w11 ⟨rfl, b11⟩
  have d11 : Below w10.heap.size w10 w11 := below_step (by repeat (first | exact Below.refl _ _ | refine below_drewN ?_ _ | refine Below.drew ?_ | refine Below.setCell ?_ (by simp) _ | refine Below.alloc ?_ (by simp) _)) b11
  have B11 := Lib.hid (below_step B10.out d11)
  clear b11 d11 B10
  rw [KM.out.1]
  simp only [Cal.orz, Cal.why, if_true]
  go_wp2_with fail
  refine (days_yes _ _ _ _ KM.out.2.1).mono ?_; rintro e w12 ⟨rfl, b12⟩
  have d12 : Below w11.heap.size w11 w12 := below_step (by repeat (first | exact Below.refl _ _ | refine below_drewN ?_ _ | refine Below.drew ?_ | refine Below.setCell ?_ (by simp) _ | refine Below.alloc ?_ (by simp) _)) b12
  have B12 := Lib.hid (below_step B11.out d12)
  have aQ := B11.out.size
  have Q12 : Bk3 w12 (w11.heap.size) (.int .i64 (Mo.mY y m 1)) (.int .i64 (Mo.mM y m 1)) (.int .i64 (Mo.mD y m 1 1)) := Bk3.of b12 (by simp <;> omega) (by intro j; simp [go_sem]) (by simp [go_sem]) (by simp [go_sem]) (by simp [go_sem])
  clear b12 d12 B11
  rw [KM.out.2.2]
  rcases HL.out with hl | hl
  · subst hl
    have f3 : F2 ≤ a + 21 + 7 := by omega
    have cQ_b := Q12.hb
    have cQ_f := Q12.fz
    have cQ_0 := Q12.k0
    have cQ_1 := Q12.k1
    have cQ_2 := Q12.k2
    go_wp2_with fail
    clear cQ_b cQ_f cQ_0 cQ_1 cQ_2
    go_ret
    refine ⟨rfl, ?_⟩
    exact (by have hz := B12.out.size; repeat (first | exact B12.out | refine below_drewN ?_ _ | refine Below.drew ?_ | refine Below.setCell ?_ (by first | omega | (simp; done) | (simp; omega)) _ | refine Below.alloc ?_ (by first | omega | (simp; done) | (simp; omega)) _))
  · subst hl
    have f3 : F2 ≤ a + 21 + 7 + 7 := (by omega); have f4 : a + 21 + 7 < F2 := (by omega); have f5 : a + 28 = a + 21 + 7 := (by omega); rw [f5] at f1 f2 ⊢; clear f5
    have cQ_b := Q12.hb
    have cQ_f := Q12.fz
    have cQ_0 := Q12.k0
    have cQ_1 := Q12.k1
    have cQ_2 := Q12.k2
    go_wp2_with fail
    clear cQ_b cQ_f cQ_0 cQ_1 cQ_2
    go_ret
    refine ⟨rfl, ?_⟩
    exact (by have hz := B12.out.size; repeat (first | exact B12.out | refine below_drewN ?_ _ | refine Below.drew ?_ | refine Below.setCell ?_ (by first | omega | (simp; done) | (simp; omega)) _ | refine Below.alloc ?_ (by first | omega | (simp; done) | (simp; omega)) _))
theorem tweeks_walk (y m wk : Int) (w : World) :
    Calls Try.prog 10 #[.int .i64 y, .int .i64 m, .int .i64 wk] w fun e w' => e = .returned (.bool true) ∧ Below w.heap.size w w' := by
  by_cases h : y < -39000 ∨ 39000 < y ∨ m < 1 ∨ 12 < m ∨ wk < 0 ∨ 6 < wk
  · exact tweeks_out y m wk w h
  · exact tweeks_in y m wk w (by omega) (by omega) (by omega) (by omega) (by omega) (by omega)
end Go.Proofs.Ytlehbnfocilcmab

