/- The walk of DayruleLies: whatever is handed in, the law answers true; nothing old turns. -/
import Derived.Test.YtlehbnfocilcmabDrWeek
set_option linter.unusedVariables false
set_option linter.unusedSimpArgs false
namespace Go.Proofs.Ytlehbnfocilcmab
open Go.RowKit

namespace Dr
/-- Where the day lies that is named. -/
theorem lies {k wk d y m : Int} (h : onF k wk d m = true) (y0 : -39999 ≤ y) (y1 : y ≤ 39999) :
    (low k d m ≤ onN k wk d y m - Cal.num y m 1 + 1 ∧ onN k wk d y m - Cal.num y m 1 + 1 ≤ high k d m) ∧ (k ≠ 0 → (onN k wk d y m + 4) % 7 = wk) ∧
    (Cal.hasD (onN k wk d y m + 7) = true) ∧ (k = 1 → ¬ (Cal.dM (onN k wk d y m + 7) = m ∧ Cal.dY (onN k wk d y m + 7) = y)) ∧
    (-15329300 ≤ onN k wk d y m ∧ onN k wk d y m ≤ 13890600) ∧ (-10 ≤ low k d m ∧ low k d m ≤ 40) ∧ (-10 ≤ high k d m ∧ high k d m ≤ 40) ∧ (-15329300 ≤ Cal.num y m 1 ∧ Cal.num y m 1 ≤ 13890600) := by
  obtain ⟨a, m0, m1, dl⟩ := onF_true.1 h
  have a := onR_true.1 a
  have l := len_2001 y m m0 m1
  have br := base_right h y0 y1
  have nb := Cal.num_bd br
  have aa : Cal.ahead (-39999) ≤ Cal.ahead y := by unfold Cal.ahead; omega
  have ab : Cal.ahead (y + 1) ≤ Cal.ahead 40000 := by unfold Cal.ahead; omega
  have ac : Cal.ahead (-39999) = -15328862 := by decide
  have ad : Cal.ahead 40000 = 13890172 := by decide
  have e1 : Cal.num y m (base k d y m) = Cal.num y m 1 + (base k d y m - 1) := by unfold Cal.num; omega
  have hb : (k = 1 ∧ base k d y m = Cal.len y m) ∨ (k ≠ 1 ∧ base k d y m = d) := by
    unfold base
    by_cases hk : k = 1
    · left; rw [if_pos hk]; exact ⟨hk, rfl⟩
    · right; rw [if_neg hk]; exact ⟨hk, rfl⟩
  have hn : (k = 0 ∧ onN k wk d y m = Cal.num y m (base k d y m)) ∨ (k = 2 ∧ onN k wk d y m = Cal.num y m (base k d y m) + (wk - (Cal.num y m (base k d y m) + 4)) % 7) ∨ ((k = 1 ∨ k = 3) ∧ onN k wk d y m = Cal.num y m (base k d y m) - (Cal.num y m (base k d y m) + 4 - wk) % 7) := by
    unfold onN
    simp only
    by_cases k0 : k = 0
    · left; rw [if_pos k0]; exact ⟨k0, rfl⟩
    · by_cases k2 : k = 2
      · right; left; rw [if_neg k0, if_pos k2]; exact ⟨k2, rfl⟩
      · right; right; rw [if_neg k0, if_neg k2]; exact ⟨by omega, rfl⟩
  have hl : (k = 1 ∧ low k d m = Cal.len 2001 m - 6 ∧ high k d m = Cal.len 2000 m) ∨ (k = 2 ∧ low k d m = d ∧ high k d m = d + 6) ∨ (k = 3 ∧ low k d m = d - 6 ∧ high k d m = d) ∨ (k = 0 ∧ low k d m = d ∧ high k d m = d) := by
    unfold low high
    rcases a with ⟨k0, _⟩ | ⟨k1, _⟩ | ⟨k2 | k3, _⟩ <;> simp [*]
  generalize onN k wk d y m = N at *
  generalize low k d m = lo at *
  generalize high k d m = hi at *
  generalize base k d y m = B at *
  have q1 : lo ≤ N - Cal.num y m 1 + 1 ∧ N - Cal.num y m 1 + 1 ≤ hi := by omega
  have q2 : k ≠ 0 → (N + 4) % 7 = wk := by omega
  have q3 : -15329228 ≤ N + 7 ∧ N + 7 ≤ 13890537 := by omega
  refine ⟨q1, q2, Cal.hasD_true.2 q3, ?_, by omega, by omega, by omega, by omega⟩
  intro hk ⟨hM, hY⟩
  have r := Cal.date_right (N + 7) q3.1 q3.2
  have e := Cal.date_num (N + 7)
  rw [hM, hY] at r e
  have d1 := r.d1
  have e2 : Cal.num y m (Cal.dD (N + 7)) = Cal.num y m 1 + (Cal.dD (N + 7) - 1) := by unfold Cal.num; omega
  omega
end Dr

set_option maxHeartbeats 2000000 in
set_option maxRecDepth 100000 in
theorem dlies_no (k wk d y m : Int) (w : World) (h : Dr.dw k wk d y m = 4 ∨ Dr.dw k wk d y m = 1) :
    Calls Try.prog 4 #[.agg #[.int .i64 k, .int .i64 wk, .int .i64 d], .int .i64 y, .int .i64 m] w fun e w' => e = .returned (.bool true) ∧ Below w.heap.size w w' := by
  have e2 : Dr.dn k wk d y m = 0 := by
    unfold Dr.dn; rw [if_neg]; omega
  have E2 := Lib.hid e2; clear e2
  rcases h with h | h
  all_goals
    have H := Lib.hid h; clear h
    go_enter Try.func4, Try.ntmps4
    go_wp2_with fail
    refine (lives5 _).mono ?_; rintro e w1 ⟨rfl, b1⟩
    have d1 : Below w.heap.size w w1 := below_step (by repeat (first | exact Below.refl _ _ | refine below_drewN ?_ _ | refine Below.drew ?_ | refine Below.setCell ?_ (by simp) _ | refine Below.alloc ?_ (by simp) _)) b1
    have B1 := Lib.hid d1
    have O1 : Bk3 w1 (w.heap.size) (.int .i64 k) (.int .i64 wk) (.int .i64 d) := Bk3.of b1 (by simp <;> omega) (by simp [go_sem]) (by simp [go_sem]) (by simp [go_sem])
    clear b1 d1
    have cO_b := O1.hb
    have cO_0 := O1.k0
    have cO_1 := O1.k1
    have cO_2 := O1.k2
    go_wp2_with fail
    clear cO_b cO_0 cO_1 cO_2
    refine (odays_any k wk d y m _).mono ?_; rintro e w2 ⟨rfl, b2⟩
    have d2 : Below w1.heap.size w1 w2 := below_step (by repeat (first | exact Below.refl _ _ | refine below_drewN ?_ _ | refine Below.drew ?_ | refine Below.setCell ?_ (by simp) _ | refine Below.alloc ?_ (by simp) _)) b2
    have B2 := Lib.hid (below_step B1.out d2)
    have O2 := O1.keep d2
    clear O1 b2 d2 B1
    rw [E2.out, H.out]
    have cO_b := O2.hb
    have cO_0 := O2.k0
    have cO_1 := O2.k1
    have cO_2 := O2.k2
    go_wp2_with fail
    clear cO_b cO_0 cO_1 cO_2
    refine (owindow_any k wk d m _).mono ?_; rintro e w3 ⟨rfl, b3⟩
    have d3 : Below w2.heap.size w2 w3 := below_step (by repeat (first | exact Below.refl _ _ | refine below_drewN ?_ _ | refine Below.drew ?_ | refine Below.setCell ?_ (by simp) _ | refine Below.alloc ?_ (by simp) _)) b3
    have B3 := Lib.hid (below_step B2.out d3)
    have O3 := O2.keep d3
    clear O2 b3 d3 B2
    have cO_b := O3.hb
    have cO_0 := O3.k0
    have cO_1 := O3.k1
    have cO_2 := O3.k2
    go_wp2_with fail
    clear cO_b cO_0 cO_1 cO_2
    refine (days_any y m 1 _).mono ?_; rintro e w4 ⟨rfl, b4⟩
    have d4 : Below w3.heap.size w3 w4 := below_step (by repeat (first | exact Below.refl _ _ | refine below_drewN ?_ _ | refine Below.drew ?_ | refine Below.setCell ?_ (by simp) _ | refine Below.alloc ?_ (by simp) _)) b4
    have B4 := Lib.hid (below_step B3.out d4)
    have O4 := O3.keep d4
    clear O3 b4 d4 B3
    have cO_b := O4.hb
    have cO_0 := O4.k0
    have cO_1 := O4.k1
    have cO_2 := O4.k2
    go_wp2_with fail
    clear cO_b cO_0 cO_1 cO_2
    go_ret
    exact ⟨rfl, below_step B4.out (by repeat (first | exact Below.refl _ _ | refine below_drewN ?_ _ | refine Below.drew ?_ | refine Below.setCell ?_ (by simp) _ | refine Below.alloc ?_ (by simp) _))⟩

set_option maxHeartbeats 2000000 in
set_option maxRecDepth 100000 in
theorem dlies_yes (k wk d y m : Int) (w : World) (h : Dr.onF k wk d m = true) (y0 : -39999 ≤ y) (y1 : y ≤ 39999) :
    Calls Try.prog 4 #[.agg #[.int .i64 k, .int .i64 wk, .int .i64 d], .int .i64 y, .int .i64 m] w fun e w' => e = .returned (.bool true) ∧ Below w.heap.size w w' := by
  have L := Dr.lies h y0 y1
  have E := Lib.hid (Dr.dw_ok h y0 y1)
  have a := Dr.onF_true.1 h
  have hR : rightB y m 1 = true := right_true.2 ⟨by omega, by omega, by omega, by have := (Dr.len_2001 y m a.2.1 a.2.2.1); omega⟩
  have kk : k = 0 ∨ k = 1 ∨ k = 2 ∨ k = 3 := by have := Dr.onR_true.1 a.1; omega
  have w1 : Dr.wl k wk d m = Dr.low k d m := by unfold Dr.wl; rw [if_pos h]
  have w2 : Dr.wh k wk d m = Dr.high k d m := by unfold Dr.wh; rw [if_pos h]
  have w3 : Dr.ww k wk d m = 0 := by unfold Dr.ww; rw [if_pos h]
  have WW := Lib.hid (show Dr.wl k wk d m = Dr.low k d m ∧ Dr.wh k wk d m = Dr.high k d m ∧ Dr.ww k wk d m = 0 from ⟨w1, w2, w3⟩)
  have HR := Lib.hid hR
  have HF := Lib.hid h
  clear hR h w1 w2 w3 a
  obtain ⟨⟨l1, l2⟩, hw, hd, hm, ⟨n0, n1⟩, ⟨lo0, lo1⟩, ⟨hi0, hi1⟩, f0, f1⟩ := L
  have HD := Lib.hid hd; have HW := Lib.hid hw; have HM := Lib.hid hm
  clear hd hw hm
  generalize Dr.onN k wk d y m = N at *
  generalize Dr.low k d m = lo at *
  generalize Dr.high k d m = hi at *
  generalize hF : Cal.num y m 1 = F at *
  have HFF := Lib.hid hF; clear hF
  rcases kk with rfl | rfl | rfl | rfl
  · go_enter Try.func4, Try.ntmps4
    go_wp2_with fail
    refine (lives5 _).mono ?_; rintro e w1 ⟨rfl, b1⟩
    have d1 : Below w.heap.size w w1 := below_step (by repeat (first | exact Below.refl _ _ | refine below_drewN ?_ _ | refine Below.drew ?_ | refine Below.setCell ?_ (by simp) _ | refine Below.alloc ?_ (by simp) _)) b1
    have B1 := Lib.hid d1
    have O1 : Bk3 w1 (w.heap.size) (.int .i64 0) (.int .i64 wk) (.int .i64 d) := Bk3.of b1 (by simp <;> omega) (by simp [go_sem]) (by simp [go_sem]) (by simp [go_sem])
    clear b1 d1
    have cO_b := O1.hb
    have cO_0 := O1.k0
    have cO_1 := O1.k1
    have cO_2 := O1.k2
    go_wp2_with fail
    clear cO_b cO_0 cO_1 cO_2
    refine (odays_any 0 wk d y m _).mono ?_; rintro e w2 ⟨rfl, b2⟩
    have d2 : Below w1.heap.size w1 w2 := below_step (by repeat (first | exact Below.refl _ _ | refine below_drewN ?_ _ | refine Below.drew ?_ | refine Below.setCell ?_ (by simp) _ | refine Below.alloc ?_ (by simp) _)) b2
    have B2 := Lib.hid (below_step B1.out d2)
    have O2 := O1.keep d2
    clear O1 b2 d2 B1
    rw [E.out.1, E.out.2]
    have cO_b := O2.hb
    have cO_0 := O2.k0
    have cO_1 := O2.k1
    have cO_2 := O2.k2
    go_wp2_with fail
    clear cO_b cO_0 cO_1 cO_2
    refine (owindow_any 0 wk d m _).mono ?_; rintro e w3 ⟨rfl, b3⟩
    have d3 : Below w2.heap.size w2 w3 := below_step (by repeat (first | exact Below.refl _ _ | refine below_drewN ?_ _ | refine Below.drew ?_ | refine Below.setCell ?_ (by simp) _ | refine Below.alloc ?_ (by simp) _)) b3
    have B3 := Lib.hid (below_step B2.out d3)
    have O3 := O2.keep d3
    clear O2 b3 d3 B2
    rw [WW.out.1, WW.out.2.1, WW.out.2.2]
    have cO_b := O3.hb
    have cO_0 := O3.k0
    have cO_1 := O3.k1
    have cO_2 := O3.k2
    go_wp2_with fail
    clear cO_b cO_0 cO_1 cO_2
    refine (days_any y m 1 _).mono ?_; rintro e w4 ⟨rfl, b4⟩
    have d4 : Below w3.heap.size w3 w4 := below_step (by repeat (first | exact Below.refl _ _ | refine below_drewN ?_ _ | refine Below.drew ?_ | refine Below.setCell ?_ (by simp) _ | refine Below.alloc ?_ (by simp) _)) b4
    have B4 := Lib.hid (below_step B3.out d4)
    have O4 := O3.keep d4
    clear O3 b4 d4 B3
    rw [HR.out, HFF.out]
    simp only [Cal.orz, Cal.why, if_true]
    have cO_b := O4.hb
    have cO_0 := O4.k0
    have cO_1 := O4.k1
    have cO_2 := O4.k2
    go_wp2_with fail
    clear cO_b cO_0 cO_1 cO_2
    refine (ofits_any 0 wk d m _).mono ?_; rintro e w5 ⟨rfl, b5⟩
    have d5 : Below w4.heap.size w4 w5 := below_step (by repeat (first | exact Below.refl _ _ | refine below_drewN ?_ _ | refine Below.drew ?_ | refine Below.setCell ?_ (by simp) _ | refine Below.alloc ?_ (by simp) _)) b5
    have B5 := Lib.hid (below_step B4.out d5)
    have O5 := O4.keep d5
    clear O4 b5 d5 B4
    rw [HF.out]
    have cO_b := O5.hb
    have cO_0 := O5.k0
    have cO_1 := O5.k1
    have cO_2 := O5.k2
    go_wp2_with fail
    clear cO_b cO_0 cO_1 cO_2
    refine (date_any (N + 7) _).mono ?_; rintro e w6 ⟨rfl, b6⟩
    have d6 : Below w5.heap.size w5 w6 := below_step (by repeat (first | exact Below.refl _ _ | refine below_drewN ?_ _ | refine Below.drew ?_ | refine Below.setCell ?_ (by simp) _ | refine Below.alloc ?_ (by simp) _)) b6
    have B6 := Lib.hid (below_step B5.out d6)
    have O6 := O5.keep d6
    clear O5 b6 d6 B5
    rw [HD.out]
    simp only [Cal.orz, Cal.why, if_true]
    have cO_b := O6.hb
    have cO_0 := O6.k0
    have cO_1 := O6.k1
    have cO_2 := O6.k2
    go_wp2_with fail
    go_quiet (fail)
    go_wp2
    clear cO_b cO_0 cO_1 cO_2
    go_ret
    refine ⟨rfl, ?_⟩
    exact below_step B6.out (by repeat (first | exact Below.refl _ _ | refine below_drewN ?_ _ | refine Below.drew ?_ | refine Below.setCell ?_ (by simp) _ | refine Below.alloc ?_ (by simp) _))
  · have hM := HM.out rfl
    have HW1 := HW.out (by decide)
    have HW2 := Lib.hid HW1; clear HW1 HW HM
    have hc : (Cal.dM (N + 7) == m) = false ∨ ((Cal.dM (N + 7) == m) = true ∧ (Cal.dY (N + 7) == y) = false) := by
      simp; omega
    have HC := Lib.hid hc; clear hc hM
    go_enter Try.func4, Try.ntmps4
    go_wp2_with fail
    refine (lives5 _).mono ?_; rintro e w1 ⟨rfl, b1⟩
    have d1 : Below w.heap.size w w1 := below_step (by repeat (first | exact Below.refl _ _ | refine below_drewN ?_ _ | refine Below.drew ?_ | refine Below.setCell ?_ (by simp) _ | refine Below.alloc ?_ (by simp) _)) b1
    have B1 := Lib.hid d1
    have O1 : Bk3 w1 (w.heap.size) (.int .i64 1) (.int .i64 wk) (.int .i64 d) := Bk3.of b1 (by simp <;> omega) (by simp [go_sem]) (by simp [go_sem]) (by simp [go_sem])
    clear b1 d1
    have cO_b := O1.hb
    have cO_0 := O1.k0
    have cO_1 := O1.k1
    have cO_2 := O1.k2
    go_wp2_with fail
    clear cO_b cO_0 cO_1 cO_2
    refine (odays_any 1 wk d y m _).mono ?_; rintro e w2 ⟨rfl, b2⟩
    have d2 : Below w1.heap.size w1 w2 := below_step (by repeat (first | exact Below.refl _ _ | refine below_drewN ?_ _ | refine Below.drew ?_ | refine Below.setCell ?_ (by simp) _ | refine Below.alloc ?_ (by simp) _)) b2
    have B2 := Lib.hid (below_step B1.out d2)
    have O2 := O1.keep d2
    clear O1 b2 d2 B1
    rw [E.out.1, E.out.2]
    have cO_b := O2.hb
    have cO_0 := O2.k0
    have cO_1 := O2.k1
    have cO_2 := O2.k2
    go_wp2_with fail
    clear cO_b cO_0 cO_1 cO_2
    refine (owindow_any 1 wk d m _).mono ?_; rintro e w3 ⟨rfl, b3⟩
    have d3 : Below w2.heap.size w2 w3 := below_step (by repeat (first | exact Below.refl _ _ | refine below_drewN ?_ _ | refine Below.drew ?_ | refine Below.setCell ?_ (by simp) _ | refine Below.alloc ?_ (by simp) _)) b3
    have B3 := Lib.hid (below_step B2.out d3)
    have O3 := O2.keep d3
    clear O2 b3 d3 B2
    rw [WW.out.1, WW.out.2.1, WW.out.2.2]
    have cO_b := O3.hb
    have cO_0 := O3.k0
    have cO_1 := O3.k1
    have cO_2 := O3.k2
    go_wp2_with fail
    clear cO_b cO_0 cO_1 cO_2
    refine (days_any y m 1 _).mono ?_; rintro e w4 ⟨rfl, b4⟩
    have d4 : Below w3.heap.size w3 w4 := below_step (by repeat (first | exact Below.refl _ _ | refine below_drewN ?_ _ | refine Below.drew ?_ | refine Below.setCell ?_ (by simp) _ | refine Below.alloc ?_ (by simp) _)) b4
    have B4 := Lib.hid (below_step B3.out d4)
    have O4 := O3.keep d4
    clear O3 b4 d4 B3
    rw [HR.out, HFF.out]
    simp only [Cal.orz, Cal.why, if_true]
    have cO_b := O4.hb
    have cO_0 := O4.k0
    have cO_1 := O4.k1
    have cO_2 := O4.k2
    go_wp2_with fail
    clear cO_b cO_0 cO_1 cO_2
    refine (ofits_any 1 wk d m _).mono ?_; rintro e w5 ⟨rfl, b5⟩
    have d5 : Below w4.heap.size w4 w5 := below_step (by repeat (first | exact Below.refl _ _ | refine below_drewN ?_ _ | refine Below.drew ?_ | refine Below.setCell ?_ (by simp) _ | refine Below.alloc ?_ (by simp) _)) b5
    have B5 := Lib.hid (below_step B4.out d5)
    have O5 := O4.keep d5
    clear O4 b5 d5 B4
    rw [HF.out]
    have cO_b := O5.hb
    have cO_0 := O5.k0
    have cO_1 := O5.k1
    have cO_2 := O5.k2
    go_wp2_with fail
    clear cO_b cO_0 cO_1 cO_2
    refine (date_any (N + 7) _).mono ?_; rintro e w6 ⟨rfl, b6⟩
    have d6 : Below w5.heap.size w5 w6 := below_step (by repeat (first | exact Below.refl _ _ | refine below_drewN ?_ _ | refine Below.drew ?_ | refine Below.setCell ?_ (by simp) _ | refine Below.alloc ?_ (by simp) _)) b6
    have B6 := Lib.hid (below_step B5.out d6)
    have O6 := O5.keep d6
    clear O5 b6 d6 B5
    rw [HD.out]
    simp only [Cal.orz, Cal.why, if_true]
    have cO_b := O6.hb
    have cO_0 := O6.k0
    have cO_1 := O6.k1
    have cO_2 := O6.k2
    rcases HC.out with hc | ⟨hc, hc2⟩
    all_goals
      go_wp2_with fail
      go_quiet ((go_at_call 23; exact q_draw (weekday_any _ _ (by omega) (by omega))))
      go_wp2
      go_ret
      rw [HW2.out]
      refine ⟨by simp, ?_⟩
      exact below_step B6.out (by repeat (first | exact Below.refl _ _ | refine below_drewN ?_ _ | refine Below.drew ?_ | refine Below.setCell ?_ (by simp) _ | refine Below.alloc ?_ (by simp) _))
  · have HW1 := HW.out (by decide)
    have HW2 := Lib.hid HW1; clear HW1 HW HM
    go_enter Try.func4, Try.ntmps4
    go_wp2_with fail
    refine (lives5 _).mono ?_; rintro e w1 ⟨rfl, b1⟩
    have d1 : Below w.heap.size w w1 := below_step (by repeat (first | exact Below.refl _ _ | refine below_drewN ?_ _ | refine Below.drew ?_ | refine Below.setCell ?_ (by simp) _ | refine Below.alloc ?_ (by simp) _)) b1
    have B1 := Lib.hid d1
    have O1 : Bk3 w1 (w.heap.size) (.int .i64 2) (.int .i64 wk) (.int .i64 d) := Bk3.of b1 (by simp <;> omega) (by simp [go_sem]) (by simp [go_sem]) (by simp [go_sem])
    clear b1 d1
    have cO_b := O1.hb
    have cO_0 := O1.k0
    have cO_1 := O1.k1
    have cO_2 := O1.k2
    go_wp2_with fail
    clear cO_b cO_0 cO_1 cO_2
    refine (odays_any 2 wk d y m _).mono ?_; rintro e w2 ⟨rfl, b2⟩
    have d2 : Below w1.heap.size w1 w2 := below_step (by repeat (first | exact Below.refl _ _ | refine below_drewN ?_ _ | refine Below.drew ?_ | refine Below.setCell ?_ (by simp) _ | refine Below.alloc ?_ (by simp) _)) b2
    have B2 := Lib.hid (below_step B1.out d2)
    have O2 := O1.keep d2
    clear O1 b2 d2 B1
    rw [E.out.1, E.out.2]
    have cO_b := O2.hb
    have cO_0 := O2.k0
    have cO_1 := O2.k1
    have cO_2 := O2.k2
    go_wp2_with fail
    clear cO_b cO_0 cO_1 cO_2
    refine (owindow_any 2 wk d m _).mono ?_; rintro e w3 ⟨rfl, b3⟩
    have d3 : Below w2.heap.size w2 w3 := below_step (by repeat (first | exact Below.refl _ _ | refine below_drewN ?_ _ | refine Below.drew ?_ | refine Below.setCell ?_ (by simp) _ | refine Below.alloc ?_ (by simp) _)) b3
    have B3 := Lib.hid (below_step B2.out d3)
    have O3 := O2.keep d3
    clear O2 b3 d3 B2
    rw [WW.out.1, WW.out.2.1, WW.out.2.2]
    have cO_b := O3.hb
    have cO_0 := O3.k0
    have cO_1 := O3.k1
    have cO_2 := O3.k2
    go_wp2_with fail
    clear cO_b cO_0 cO_1 cO_2
    refine (days_any y m 1 _).mono ?_; rintro e w4 ⟨rfl, b4⟩
    have d4 : Below w3.heap.size w3 w4 := below_step (by repeat (first | exact Below.refl _ _ | refine below_drewN ?_ _ | refine Below.drew ?_ | refine Below.setCell ?_ (by simp) _ | refine Below.alloc ?_ (by simp) _)) b4
    have B4 := Lib.hid (below_step B3.out d4)
    have O4 := O3.keep d4
    clear O3 b4 d4 B3
    rw [HR.out, HFF.out]
    simp only [Cal.orz, Cal.why, if_true]
    have cO_b := O4.hb
    have cO_0 := O4.k0
    have cO_1 := O4.k1
    have cO_2 := O4.k2
    go_wp2_with fail
    clear cO_b cO_0 cO_1 cO_2
    refine (ofits_any 2 wk d m _).mono ?_; rintro e w5 ⟨rfl, b5⟩
    have d5 : Below w4.heap.size w4 w5 := below_step (by repeat (first | exact Below.refl _ _ | refine below_drewN ?_ _ | refine Below.drew ?_ | refine Below.setCell ?_ (by simp) _ | refine Below.alloc ?_ (by simp) _)) b5
    have B5 := Lib.hid (below_step B4.out d5)
    have O5 := O4.keep d5
    clear O4 b5 d5 B4
    rw [HF.out]
    have cO_b := O5.hb
    have cO_0 := O5.k0
    have cO_1 := O5.k1
    have cO_2 := O5.k2
    go_wp2_with fail
    clear cO_b cO_0 cO_1 cO_2
    refine (date_any (N + 7) _).mono ?_; rintro e w6 ⟨rfl, b6⟩
    have d6 : Below w5.heap.size w5 w6 := below_step (by repeat (first | exact Below.refl _ _ | refine below_drewN ?_ _ | refine Below.drew ?_ | refine Below.setCell ?_ (by simp) _ | refine Below.alloc ?_ (by simp) _)) b6
    have B6 := Lib.hid (below_step B5.out d6)
    have O6 := O5.keep d6
    clear O5 b6 d6 B5
    rw [HD.out]
    simp only [Cal.orz, Cal.why, if_true]
    have cO_b := O6.hb
    have cO_0 := O6.k0
    have cO_1 := O6.k1
    have cO_2 := O6.k2
    go_wp2_with fail
    go_quiet ((go_at_call 23; exact q_draw (weekday_any _ _ (by omega) (by omega))))
    go_wp2
    go_ret
    rw [HW2.out]
    refine ⟨by simp, ?_⟩
    exact below_step B6.out (by repeat (first | exact Below.refl _ _ | refine below_drewN ?_ _ | refine Below.drew ?_ | refine Below.setCell ?_ (by simp) _ | refine Below.alloc ?_ (by simp) _))
  · have HW1 := HW.out (by decide)
    have HW2 := Lib.hid HW1; clear HW1 HW HM
    go_enter Try.func4, Try.ntmps4
    go_wp2_with fail
    refine (lives5 _).mono ?_; rintro e w1 ⟨rfl, b1⟩
    have d1 : Below w.heap.size w w1 := below_step (by repeat (first | exact Below.refl _ _ | refine below_drewN ?_ _ | refine Below.drew ?_ | refine Below.setCell ?_ (by simp) _ | refine Below.alloc ?_ (by simp) _)) b1
    have B1 := Lib.hid d1
    have O1 : Bk3 w1 (w.heap.size) (.int .i64 3) (.int .i64 wk) (.int .i64 d) := Bk3.of b1 (by simp <;> omega) (by simp [go_sem]) (by simp [go_sem]) (by simp [go_sem])
    clear b1 d1
    have cO_b := O1.hb
    have cO_0 := O1.k0
    have cO_1 := O1.k1
    have cO_2 := O1.k2
    go_wp2_with fail
    clear cO_b cO_0 cO_1 cO_2
    refine (odays_any 3 wk d y m _).mono ?_; rintro e w2 ⟨rfl, b2⟩
    have d2 : Below w1.heap.size w1 w2 := below_step (by repeat (first | exact Below.refl _ _ | refine below_drewN ?_ _ | refine Below.drew ?_ | refine Below.setCell ?_ (by simp) _ | refine Below.alloc ?_ (by simp) _)) b2
    have B2 := Lib.hid (below_step B1.out d2)
    have O2 := O1.keep d2
    clear O1 b2 d2 B1
    rw [E.out.1, E.out.2]
    have cO_b := O2.hb
    have cO_0 := O2.k0
    have cO_1 := O2.k1
    have cO_2 := O2.k2
    go_wp2_with fail
    clear cO_b cO_0 cO_1 cO_2
    refine (owindow_any 3 wk d m _).mono ?_; rintro e w3 ⟨rfl, b3⟩
    have d3 : Below w2.heap.size w2 w3 := below_step (by repeat (first | exact Below.refl _ _ | refine below_drewN ?_ _ | refine Below.drew ?_ | refine Below.setCell ?_ (by simp) _ | refine Below.alloc ?_ (by simp) _)) b3
    have B3 := Lib.hid (below_step B2.out d3)
    have O3 := O2.keep d3
    clear O2 b3 d3 B2
    rw [WW.out.1, WW.out.2.1, WW.out.2.2]
    have cO_b := O3.hb
    have cO_0 := O3.k0
    have cO_1 := O3.k1
    have cO_2 := O3.k2
    go_wp2_with fail
    clear cO_b cO_0 cO_1 cO_2
    refine (days_any y m 1 _).mono ?_; rintro e w4 ⟨rfl, b4⟩
    have d4 : Below w3.heap.size w3 w4 := below_step (by repeat (first | exact Below.refl _ _ | refine below_drewN ?_ _ | refine Below.drew ?_ | refine Below.setCell ?_ (by simp) _ | refine Below.alloc ?_ (by simp) _)) b4
    have B4 := Lib.hid (below_step B3.out d4)
    have O4 := O3.keep d4
    clear O3 b4 d4 B3
    rw [HR.out, HFF.out]
    simp only [Cal.orz, Cal.why, if_true]
    have cO_b := O4.hb
    have cO_0 := O4.k0
    have cO_1 := O4.k1
    have cO_2 := O4.k2
    go_wp2_with fail
    clear cO_b cO_0 cO_1 cO_2
    refine (ofits_any 3 wk d m _).mono ?_; rintro e w5 ⟨rfl, b5⟩
    have d5 : Below w4.heap.size w4 w5 := below_step (by repeat (first | exact Below.refl _ _ | refine below_drewN ?_ _ | refine Below.drew ?_ | refine Below.setCell ?_ (by simp) _ | refine Below.alloc ?_ (by simp) _)) b5
    have B5 := Lib.hid (below_step B4.out d5)
    have O5 := O4.keep d5
    clear O4 b5 d5 B4
    rw [HF.out]
    have cO_b := O5.hb
    have cO_0 := O5.k0
    have cO_1 := O5.k1
    have cO_2 := O5.k2
    go_wp2_with fail
    clear cO_b cO_0 cO_1 cO_2
    refine (date_any (N + 7) _).mono ?_; rintro e w6 ⟨rfl, b6⟩
    have d6 : Below w5.heap.size w5 w6 := below_step (by repeat (first | exact Below.refl _ _ | refine below_drewN ?_ _ | refine Below.drew ?_ | refine Below.setCell ?_ (by simp) _ | refine Below.alloc ?_ (by simp) _)) b6
    have B6 := Lib.hid (below_step B5.out d6)
    have O6 := O5.keep d6
    clear O5 b6 d6 B5
    rw [HD.out]
    simp only [Cal.orz, Cal.why, if_true]
    have cO_b := O6.hb
    have cO_0 := O6.k0
    have cO_1 := O6.k1
    have cO_2 := O6.k2
    go_wp2_with fail
    go_quiet ((go_at_call 23; exact q_draw (weekday_any _ _ (by omega) (by omega))))
    go_wp2
    go_ret
    rw [HW2.out]
    refine ⟨by simp, ?_⟩
    exact below_step B6.out (by repeat (first | exact Below.refl _ _ | refine below_drewN ?_ _ | refine Below.drew ?_ | refine Below.setCell ?_ (by simp) _ | refine Below.alloc ?_ (by simp) _))
theorem dlies_walk (k wk d y m : Int) (w : World) :
    Calls Try.prog 4 #[.agg #[.int .i64 k, .int .i64 wk, .int .i64 d], .int .i64 y, .int .i64 m] w fun e w' => e = .returned (.bool true) ∧ Below w.heap.size w w' := by
  by_cases h : Dr.onF k wk d m = true
  · by_cases hy : -39999 ≤ y ∧ y ≤ 39999
    · exact dlies_yes k wk d y m w h hy.1 hy.2
    · exact dlies_no k wk d y m w (by right; unfold Dr.dw; rw [if_pos h, if_neg hy])
  · exact dlies_no k wk d y m w (by left; unfold Dr.dw; rw [if_neg h])
end Go.Proofs.Ytlehbnfocilcmab

