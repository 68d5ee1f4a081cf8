/- The walk of DayruleWeek: whatever is handed in, the law answers true; nothing old turns. -/
import Derived.Test.YtlehbnfocilcmabLiv5
import Derived.Test.YtlehbnfocilcmabCivT
set_option linter.unusedVariables false
set_option linter.unusedSimpArgs false
namespace Go.Proofs.Ytlehbnfocilcmab
open Go.RowKit

namespace Dr
/-- The first one of a weekday from a day on. -/
def t (wk d y m : Int) : Int := (wk - (Cal.num y m d + 4)) % 7
theorem t_bd (wk d y m : Int) : 0 ≤ t wk d y m ∧ t wk d y m ≤ 6 := by unfold t; omega
theorem num_add (y m d k : Int) : Cal.num y m (d + k) = Cal.num y m d + k := by unfold Cal.num; omega
theorem dw_ok {k wk d y m : Int} (h : onF k wk d m = true) (h0 : -39999 ≤ y) (h1 : y ≤ 39999) : dw k wk d y m = 0 ∧ dn k wk d y m = onN k wk d y m := by
  have e1 : dw k wk d y m = 0 := by unfold dw; rw [if_pos h, if_pos ⟨h0, h1⟩]
  exact ⟨e1, by unfold dn; rw [if_pos e1]⟩
theorem week_math {wk d y m : Int} (d0 : 1 ≤ d) (d1 : d ≤ 22) (m0 : 1 ≤ m) (m1 : m ≤ 12) (y0 : -39999 ≤ y) (y1 : y ≤ 39999) (w0 : 0 ≤ wk) (w1 : wk ≤ 6) :
    (dn 2 wk d y m = Cal.num y m d + t wk d y m ∧ dw 2 wk d y m = 0) ∧ (dn 3 wk (d + 6) y m = Cal.num y m d + t wk d y m ∧ dw 3 wk (d + 6) y m = 0) ∧
    (dn 2 wk (d + t wk d y m) y m = Cal.num y m d + t wk d y m ∧ dw 2 wk (d + t wk d y m) y m = 0) ∧
    (Cal.hasD (Cal.num y m d + t wk d y m) = true ∧ Cal.dY (Cal.num y m d + t wk d y m) = y ∧ Cal.dM (Cal.num y m d + t wk d y m) = m ∧ Cal.dD (Cal.num y m d + t wk d y m) = d + t wk d y m) := by
  have tb := t_bd wk d y m
  have l := (len_2001 y m m0 m1)
  have f : ∀ k x, (k = 2 ∨ k = 3) → 1 ≤ x → x ≤ 28 → onF k wk x m = true := by
    intro k x hk h0 h1
    exact onF_true.2 ⟨onR_true.2 (by omega), m0, m1, by omega⟩
  have a1 := dw_ok (f 2 d (.inl rfl) d0 (by omega)) y0 y1
  have a2 := dw_ok (f 3 (d + 6) (.inr rfl) (by omega) (by omega)) y0 y1
  have a3 := dw_ok (f 2 (d + t wk d y m) (.inl rfl) (by omega) (by omega)) y0 y1
  have hr : Cal.Right y m (d + t wk d y m) := ⟨by omega, by omega, by omega, by omega⟩
  have e := Cal.date_of_num hr
  have nr := Cal.num_range hr
  rw [num_add] at e nr
  have q1 : onN 2 wk d y m = Cal.num y m d + t wk d y m := by unfold onN t base; simp
  have q2 : onN 3 wk (d + 6) y m = Cal.num y m d + t wk d y m := by
    unfold onN base t; simp [num_add]; omega
  have q3 : onN 2 wk (d + t wk d y m) y m = Cal.num y m d + t wk d y m := by
    have h0 : (wk - (Cal.num y m d + t wk d y m + 4)) % 7 = 0 := by unfold t; omega
    unfold onN base; simp only [show ¬ (2 : Int) = 1 by decide, show ¬ (2 : Int) = 0 by decide, if_false, if_true]; rw [num_add, h0]; omega
  exact ⟨⟨a1.2.trans q1, a1.1⟩, ⟨a2.2.trans q2, a2.1⟩, ⟨a3.2.trans q3, a3.1⟩, Cal.hasD_true.2 nr, e⟩
end Dr

set_option maxHeartbeats 2000000 in
set_option maxRecDepth 100000 in
theorem dweek_out (wk d y m : Int) (w : World) (h : d < 1 ∨ 22 < d ∨ m < 1 ∨ 12 < m ∨ y < -39999 ∨ 39999 < y ∨ wk < 0 ∨ 6 < wk) :
    Calls Try.prog 5 #[.int .i64 wk, .int .i64 d, .int .i64 y, .int .i64 m] w fun e w' => e = .returned (.bool true) ∧ Below w.heap.size w w' := by
  have h' : d < 1 ∨ (¬ d < 1 ∧ 22 < d) ∨ (¬ d < 1 ∧ ¬ 22 < d ∧ m < 1) ∨ (¬ d < 1 ∧ ¬ 22 < d ∧ ¬ m < 1 ∧ 12 < m) ∨ (¬ d < 1 ∧ ¬ 22 < d ∧ ¬ m < 1 ∧ ¬ 12 < m ∧ y < -39999) ∨ (¬ d < 1 ∧ ¬ 22 < d ∧ ¬ m < 1 ∧ ¬ 12 < m ∧ ¬ y < -39999 ∧ 39999 < y) ∨ (¬ d < 1 ∧ ¬ 22 < d ∧ ¬ m < 1 ∧ ¬ 12 < m ∧ ¬ y < -39999 ∧ ¬ 39999 < y ∧ wk < 0) ∨ (¬ d < 1 ∧ ¬ 22 < d ∧ ¬ m < 1 ∧ ¬ 12 < m ∧ ¬ y < -39999 ∧ ¬ 39999 < y ∧ ¬ wk < 0 ∧ 6 < wk) := by omega
  clear h
  rcases h' with h1 | ⟨h1, h2⟩ | ⟨h1, h2, h3⟩ | ⟨h1, h2, h3, h4⟩ | ⟨h1, h2, h3, h4, h5⟩ | ⟨h1, h2, h3, h4, h5, h6⟩ | ⟨h1, h2, h3, h4, h5, h6, h7⟩ | ⟨h1, h2, h3, h4, h5, h6, h7, h8⟩
  all_goals
    go_enter Try.func5, Try.ntmps5
    go_wp2_with fail
    refine (lives5 _).mono ?_; rintro e w1 ⟨rfl, b1⟩
    have d1 : Below w.heap.size w w1 := below_step (by repeat (first | exact Below.refl _ _ | refine below_drewN ?_ _ | refine Below.drew ?_ | refine Below.setCell ?_ (by simp) _ | refine Below.alloc ?_ (by simp) _)) b1
    have B1 := Lib.hid d1
    clear b1 d1
    go_wp2_with fail
    go_ret
    exact ⟨rfl, (by have hz := B1.out.size; repeat (first | exact B1.out | refine below_drewN ?_ _ | refine Below.drew ?_ | refine Below.setCell ?_ (by first | omega | (simp; done) | (simp; omega)) _ | refine Below.alloc ?_ (by first | omega | (simp; done) | (simp; omega)) _))⟩

set_option maxHeartbeats 2000000 in
set_option maxRecDepth 100000 in
theorem dweek_in (wk d y m : Int) (w : World) (d0 : 1 ≤ d) (d1 : d ≤ 22) (m0 : 1 ≤ m) (m1 : m ≤ 12) (y0 : -39999 ≤ y) (y1 : y ≤ 39999) (w0 : 0 ≤ wk) (w1 : wk ≤ 6) :
    Calls Try.prog 5 #[.int .i64 wk, .int .i64 d, .int .i64 y, .int .i64 m] w fun e w' => e = .returned (.bool true) ∧ Below w.heap.size w w' := by
  have M := Lib.hid (Dr.week_math d0 d1 m0 m1 y0 y1 w0 w1)
  obtain ⟨t0, t6⟩ := Dr.t_bd wk d y m
  generalize Dr.t wk d y m = t at M t0 t6
  go_enter Try.func5, Try.ntmps5
  go_wp2_with fail
  refine (lives5 _).mono ?_; rintro e w1 ⟨rfl, b1⟩
  have d1 : Below w.heap.size w w1 := below_step (by repeat (first | exact Below.refl _ _ | refine below_drewN ?_ _ | refine Below.drew ?_ | refine Below.setCell ?_ (by simp) _ | refine Below.alloc ?_ (by simp) _)) b1
  have B1 := Lib.hid d1
  clear b1 d1
  go_wp2_with fail
  refine (odays_any 2 wk d y m _).mono ?_; rintro e w2 ⟨rfl, b2⟩
  have d2 : Below w1.heap.size w1 w2 := below_step (by repeat (first | exact Below.refl _ _ | refine below_drewN ?_ _ | refine Below.drew ?_ | refine Below.setCell ?_ (by simp) _ | refine Below.alloc ?_ (by simp) _)) b2
  have B2 := Lib.hid (below_step B1.out d2)
  clear b2 d2 B1
  rw [M.out.1.1, M.out.1.2]
  go_wp2_with fail
  refine (odays_any 3 wk (d + 6) y m _).mono ?_; rintro e w3 ⟨rfl, b3⟩
  have d3 : Below w2.heap.size w2 w3 := below_step (by repeat (first | exact Below.refl _ _ | refine below_drewN ?_ _ | refine Below.drew ?_ | refine Below.setCell ?_ (by simp) _ | refine Below.alloc ?_ (by simp) _)) b3
  have B3 := Lib.hid (below_step B2.out d3)
  clear b3 d3 B2
  rw [M.out.2.1.1, M.out.2.1.2]
  go_wp2_with fail
  refine (date_any (Cal.num y m d + t) _).mono ?_; rintro e w4 ⟨rfl, b4⟩
  have d4 : Below w3.heap.size w3 w4 := below_step (by repeat (first | exact Below.refl _ _ | refine below_drewN ?_ _ | refine Below.drew ?_ | refine Below.setCell ?_ (by simp) _ | refine Below.alloc ?_ (by simp) _)) b4
  have B4 := Lib.hid (below_step B3.out d4)
  clear b4 d4 B3
  rw [M.out.2.2.2.1, M.out.2.2.2.2.1, M.out.2.2.2.2.2.1, M.out.2.2.2.2.2.2]
  simp only [Cal.orz, Cal.why, if_true]
  go_wp2_with fail
  refine (odays_any 2 wk (d + t) y m _).mono ?_; rintro e w5 ⟨rfl, b5⟩
  have d5 : Below w4.heap.size w4 w5 := below_step (by repeat (first | exact Below.refl _ _ | refine below_drewN ?_ _ | refine Below.drew ?_ | refine Below.setCell ?_ (by simp) _ | refine Below.alloc ?_ (by simp) _)) b5
  have B5 := Lib.hid (below_step B4.out d5)
  have aD := B4.out.size
  have D5 : Bk3 w5 (w4.heap.size) (.int .i64 y) (.int .i64 m) (.int .i64 (d + t)) := Bk3.of b5 (by simp <;> omega) (by intro j; simp [go_sem]) (by simp [go_sem]) (by simp [go_sem]) (by simp [go_sem])
  clear b5 d5 B4
  rw [M.out.2.2.1.1, M.out.2.2.1.2]
  have cD_b := D5.hb
  have cD_f := D5.fz
  have cD_0 := D5.k0
  have cD_1 := D5.k1
  have cD_2 := D5.k2
  go_wp2_with fail
  clear cD_b cD_f cD_0 cD_1 cD_2
  go_ret
  exact ⟨rfl, (by have hz := B5.out.size; repeat (first | exact B5.out | refine below_drewN ?_ _ | refine Below.drew ?_ | refine Below.setCell ?_ (by first | omega | (simp; done) | (simp; omega)) _ | refine Below.alloc ?_ (by first | omega | (simp; done) | (simp; omega)) _))⟩
theorem dweek_walk (wk d y m : Int) (w : World) :
    Calls Try.prog 5 #[.int .i64 wk, .int .i64 d, .int .i64 y, .int .i64 m] w fun e w' => e = .returned (.bool true) ∧ Below w.heap.size w w' := by
  by_cases h : d < 1 ∨ 22 < d ∨ m < 1 ∨ 12 < m ∨ y < -39999 ∨ 39999 < y ∨ wk < 0 ∨ 6 < wk
  · exact dweek_out wk d y m w h
  · exact dweek_in wk d y m w (by omega) (by omega) (by omega) (by omega) (by omega) (by omega) (by omega) (by omega)
end Go.Proofs.Ytlehbnfocilcmab

