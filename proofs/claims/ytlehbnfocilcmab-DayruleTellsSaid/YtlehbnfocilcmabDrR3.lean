/- The contracts of the reference's Days and Window. -/
import Derived.Test.YtlehbnfocilcmabDrR2
set_option linter.unusedVariables false
set_option linter.unusedSimpArgs false
namespace Go.Proofs.Ytlehbnfocilcmab
open Go.RowKit Go.Sort

set_option maxHeartbeats 1000000 in
theorem rodays_form (k wk d y m : Int) (w : World) (h : Dr.onF k wk d m = false) :
    Calls Try.prog 13 #[.agg #[.int .i64 k, .int .i64 wk, .int .i64 d], .int .i64 y, .int .i64 m] w fun e w' => e = .returned (.tuple #[.int .i64 0, .int .i64 4]) ∧ Below w.heap.size w w' := by
  go_enter Try.func13, Try.ntmps13
  go_wp2_with fail
  refine (rofits_any k wk d m _).mono ?_; rintro e w1 ⟨rfl, b1⟩
  have d1 : Below w.heap.size w w1 := below_step (by repeat (first | exact Below.refl _ _ | refine below_drewN ?_ _ | refine Below.drew ?_ | refine Below.setCell ?_ (by simp) _ | refine Below.alloc ?_ (by simp) _)) b1
  have B1 := Lib.hid d1
  have O1 : Bk3 w1 (w.heap.size) (.int .i64 k) (.int .i64 wk) (.int .i64 d) := Bk3.of b1 (by simp <;> omega) (by simp [go_sem]) (by simp [go_sem]) (by simp [go_sem])
  clear b1 d1
  rw [h]
  have cO_b := O1.hb
  have cO_0 := O1.k0
  have cO_1 := O1.k1
  have cO_2 := O1.k2
  go_wp2_with fail
  clear cO_b cO_0 cO_1 cO_2
  go_ret2
  exact ⟨rfl, below_step B1.out (by repeat (first | exact Below.refl _ _ | refine below_drewN ?_ _ | refine Below.drew ?_ | refine Below.setCell ?_ (by simp) _ | refine Below.alloc ?_ (by simp) _))⟩
set_option maxHeartbeats 1000000 in
theorem rodays_range (k wk d y m : Int) (w : World) (h : Dr.onF k wk d m = true) (hy : y < -39999 ∨ 39999 < y) :
    Calls Try.prog 13 #[.agg #[.int .i64 k, .int .i64 wk, .int .i64 d], .int .i64 y, .int .i64 m] w fun e w' => e = .returned (.tuple #[.int .i64 0, .int .i64 1]) ∧ Below w.heap.size w w' := by
  have hy' : y < -39999 ∨ (¬ y < -39999 ∧ 39999 < y) := by omega
  clear hy
  rcases hy' with hy | ⟨hy', hy⟩
  all_goals
    go_enter Try.func13, Try.ntmps13
    go_wp2_with fail
    refine (rofits_any k wk d m _).mono ?_; rintro e w1 ⟨rfl, b1⟩
    have d1 : Below w.heap.size w w1 := below_step (by repeat (first | exact Below.refl _ _ | refine below_drewN ?_ _ | refine Below.drew ?_ | refine Below.setCell ?_ (by simp) _ | refine Below.alloc ?_ (by simp) _)) b1
    have B1 := Lib.hid d1
    have O1 : Bk3 w1 (w.heap.size) (.int .i64 k) (.int .i64 wk) (.int .i64 d) := Bk3.of b1 (by simp <;> omega) (by simp [go_sem]) (by simp [go_sem]) (by simp [go_sem])
    clear b1 d1
    rw [h]
    have cO_b := O1.hb
    have cO_0 := O1.k0
    have cO_1 := O1.k1
    have cO_2 := O1.k2
    go_wp2_with fail
    clear cO_b cO_0 cO_1 cO_2
    go_ret2
    exact ⟨rfl, below_step B1.out (by repeat (first | exact Below.refl _ _ | refine below_drewN ?_ _ | refine Below.drew ?_ | refine Below.setCell ?_ (by simp) _ | refine Below.alloc ?_ (by simp) _))⟩
theorem first_num (y m d : Int) : Cal.num y m 1 + d - 1 = Cal.num y m d := by unfold Cal.num; omega

set_option maxHeartbeats 2000000 in
theorem rodays_yes (k wk d y m : Int) (w : World) (h : Dr.onF k wk d m = true) (hy0 : -39999 ≤ y) (hy1 : y ≤ 39999) :
    Calls Try.prog 13 #[.agg #[.int .i64 k, .int .i64 wk, .int .i64 d], .int .i64 y, .int .i64 m] w fun e w' => e = .returned (.tuple #[.int .i64 (Dr.onN k wk d y m), .int .i64 0]) ∧ Below w.heap.size w w' := by
  have a := Dr.onF_true.1 h
  obtain ⟨aR, am0, am1, -⟩ := a
  have aR := Dr.onR_true.1 aR
  have hR1 : Cal.Right y m 1 := ⟨by omega, by omega, by omega, by have := (Dr.len_2001 y m am0 am1); omega⟩
  have hr1 : rightB y m 1 = true := right_true.2 hR1
  obtain ⟨f0, f1⟩ := Cal.num_range hR1
  have hd := Dr.base_right h hy0 hy1
  obtain ⟨n0, n1⟩ := Cal.num_range hd
  obtain ⟨ln0, ln1⟩ := Cal.len_bd y m
  have hn : Dr.onN k wk d y m = (let n := Cal.num y m (Dr.base k d y m); if k = 0 then n else if k = 2 then n + (wk - (n + 4)) % 7 else n - (n + 4 - wk) % 7) := rfl
  have H := Lib.hid h
  have HR1 := Lib.hid hr1
  have d0 : 0 ≤ d := by omega
  have d31 : d ≤ 31 := by omega
  clear h hd hr1 hR1 am0 am1
  by_cases h0 : k = 0
  · subst h0
    have hn : Cal.num y m 1 + d - 1 = Dr.onN 0 wk d y m := by rw [first_num, hn]; simp [Dr.base]
    have HN := Lib.hid hn; clear hn aR n0 n1
    go_enter Try.func13, Try.ntmps13
    go_wp2_with fail
    refine (rofits_any 0 wk d m _).mono ?_; rintro e w1 ⟨rfl, b1⟩
    have d1 : Below w.heap.size w w1 := below_step (by repeat (first | exact Below.refl _ _ | refine below_drewN ?_ _ | refine Below.drew ?_ | refine Below.setCell ?_ (by simp) _ | refine Below.alloc ?_ (by simp) _)) b1
    have B1 := Lib.hid d1
    have O1 : Bk3 w1 (w.heap.size) (.int .i64 0) (.int .i64 wk) (.int .i64 d) := Bk3.of b1 (by simp <;> omega) (by simp [go_sem]) (by simp [go_sem]) (by simp [go_sem])
    clear b1 d1
    rw [H.out]
    have cO_b := O1.hb
    have cO_0 := O1.k0
    have cO_1 := O1.k1
    have cO_2 := O1.k2
    go_wp2_with fail
    clear cO_b cO_0 cO_1 cO_2
    refine (rdays_yes y m 1 _ HR1.out).mono ?_; rintro e w2 ⟨rfl, b2⟩
    have d2 : Below w1.heap.size w1 w2 := below_step (by repeat (first | exact Below.refl _ _ | refine below_drewN ?_ _ | refine Below.drew ?_ | refine Below.setCell ?_ (by simp) _ | refine Below.alloc ?_ (by simp) _)) b2
    have B2 := Lib.hid (below_step B1.out d2)
    have O2 := O1.keep d2
    clear O1 b2 d2 B1
    have cO_b := O2.hb
    have cO_0 := O2.k0
    have cO_1 := O2.k1
    have cO_2 := O2.k2
    go_wp2_with fail
    clear cO_b cO_0 cO_1 cO_2
    go_ret2
    rw [HN.out]
    refine ⟨rfl, ?_⟩
    exact below_step B2.out (by repeat (first | exact Below.refl _ _ | refine below_drewN ?_ _ | refine Below.drew ?_ | refine Below.setCell ?_ (by simp) _ | refine Below.alloc ?_ (by simp) _))
  · by_cases h2 : k = 2
    · subst h2
      have e1 : Cal.num y m 1 + d - 1 = Cal.num y m (Dr.base 2 d y m) := by rw [first_num]; simp [Dr.base]
      rw [← e1] at hn n0 n1
      have hn : Dr.onN 2 wk d y m = Cal.num y m 1 + d - 1 + (wk - (Cal.num y m 1 + d - 1 + 4)) % 7 := by rw [hn]; simp
      have w0 : 0 ≤ wk ∧ wk ≤ 6 := by omega
      obtain ⟨w0, w6⟩ := w0
      obtain ⟨T, hT⟩ : ∃ T, (wk - (Cal.num y m 1 + d - 1 + 4)) % 7 = T := ⟨_, rfl⟩
      have t0 : 0 ≤ T := by omega
      have t6 : T ≤ 6 := by omega
      rw [hT] at hn
      have HT := Lib.hid hT
      rw [hn]
      clear hn aR h0 e1 hT
      go_enter Try.func13, Try.ntmps13
      go_wp2_with fail
      refine (rofits_any 2 wk d m _).mono ?_; rintro e w1 ⟨rfl, b1⟩
      have d1 : Below w.heap.size w w1 := below_step (by repeat (first | exact Below.refl _ _ | refine below_drewN ?_ _ | refine Below.drew ?_ | refine Below.setCell ?_ (by simp) _ | refine Below.alloc ?_ (by simp) _)) b1
      have B1 := Lib.hid d1
      have O1 : Bk3 w1 (w.heap.size) (.int .i64 2) (.int .i64 wk) (.int .i64 d) := Bk3.of b1 (by simp <;> omega) (by simp [go_sem]) (by simp [go_sem]) (by simp [go_sem])
      clear b1 d1
      rw [H.out]
      have cO_b := O1.hb
      have cO_0 := O1.k0
      have cO_1 := O1.k1
      have cO_2 := O1.k2
      go_wp2_with fail
      clear cO_b cO_0 cO_1 cO_2
      refine (rdays_yes y m 1 _ HR1.out).mono ?_; rintro e w2 ⟨rfl, b2⟩
      have d2 : Below w1.heap.size w1 w2 := below_step (by repeat (first | exact Below.refl _ _ | refine below_drewN ?_ _ | refine Below.drew ?_ | refine Below.setCell ?_ (by simp) _ | refine Below.alloc ?_ (by simp) _)) b2
      have B2 := Lib.hid (below_step B1.out d2)
      have O2 := O1.keep d2
      clear O1 b2 d2 B1
      have cO_b := O2.hb
      have cO_0 := O2.k0
      have cO_1 := O2.k1
      have cO_2 := O2.k2
      go_wp2_with fail
      clear cO_b cO_0 cO_1 cO_2
      go_loopw [10] (fun v10 wr => ∃ j : Int, 0 ≤ j ∧ j ≤ T ∧ v10 = .int .i64 (Cal.num y m 1 + d - 1 + j) ∧ Bk3 wr w.heap.size (.int .i64 2) (.int .i64 wk) (.int .i64 d) ∧ Below w.heap.size w wr) (fun v10 _ => (Cal.num y m 1 + d - 1 + T - intOf v10).toNat)
      case atStart => exact ⟨0, by omega, t0, by simp, O2, B2.out⟩
      case round =>
        obtain ⟨j, j0, j1, rfl, O, hB⟩ := hrel
        have BB := Lib.hid hB; clear hB
        have k1 := O.k1
        have g0 : 0 ≤ (Cal.num y m 1 + d - 1 + j + 4) % 7 := by omega
        have g1 : (Cal.num y m 1 + d - 1 + j + 4) % 7 < 7 := by omega
        by_cases hj : j = T
        · have hc : ((Cal.num y m 1 + d - 1 + j + 4) % 7 != wk) = false := by
            have := HT.out
            simp; omega
          have HJ := Lib.hid hj; clear hj
          go_wp2_with fail
          go_quiet ((go_at_call 43; exact q_draw (rweekday_any _ _ (by omega) (by omega))))
          go_wp2
          go_ret2
          rw [HJ.out]
          exact ⟨rfl, below_drewN BB.out _⟩
        · have hc : ((Cal.num y m 1 + d - 1 + j + 4) % 7 != wk) = true := by
            have := HT.out
            rw [bne_iff_ne]; omega
          have hj2 : j + 1 ≤ T := by omega
          clear hj
          go_wp2_with fail
          go_quiet ((go_at_call 43; exact q_draw (rweekday_any _ _ (by omega) (by omega))))
          go_wp2
          go_roundw
          case rel => exact ⟨j + 1, by omega, hj2, by rw [← Int.add_assoc], O.keep (below_draw _ _), below_drewN BB.out _⟩
          case measure => simp [intOf]; omega
    · have b2 : (k != 2) = true := by rw [bne_iff_ne]; exact h2
      have b0 : (k == 0) = false := by simpa using h0
      have w0 : 0 ≤ wk ∧ wk ≤ 6 := by omega
      obtain ⟨w0, w6⟩ := w0
      have hk : k = 1 ∨ k = 3 := by omega
      obtain ⟨S, hS⟩ : ∃ S, Cal.num y m (Dr.base k d y m) = S := ⟨_, rfl⟩
      rw [hS] at hn n0 n1
      obtain ⟨T, hT⟩ : ∃ T, (S + 4 - wk) % 7 = T := ⟨_, rfl⟩
      have hn : Dr.onN k wk d y m = S - T := by rw [hn]; simp [h0, h2, hT]
      have t0 : 0 ≤ T := by omega
      have t6 : T ≤ 6 := by omega
      have HT := Lib.hid hT
      rw [hn]
      clear hn aR hT h0 h2
      rcases hk with rfl | rfl
      · have eS : Cal.num y m 1 + Cal.len y m - 1 = S := by rw [← hS]; simp [Dr.base, first_num]
        have ES := Lib.hid eS; clear eS hS
        go_enter Try.func13, Try.ntmps13
        go_wp2_with fail
        refine (rofits_any 1 wk d m _).mono ?_; rintro e w1 ⟨rfl, b1⟩
        have d1 : Below w.heap.size w w1 := below_step (by repeat (first | exact Below.refl _ _ | refine below_drewN ?_ _ | refine Below.drew ?_ | refine Below.setCell ?_ (by simp) _ | refine Below.alloc ?_ (by simp) _)) b1
        have B1 := Lib.hid d1
        have O1 : Bk3 w1 (w.heap.size) (.int .i64 1) (.int .i64 wk) (.int .i64 d) := Bk3.of b1 (by simp <;> omega) (by simp [go_sem]) (by simp [go_sem]) (by simp [go_sem])
        clear b1 d1
        rw [H.out]
        have cO_b := O1.hb
        have cO_0 := O1.k0
        have cO_1 := O1.k1
        have cO_2 := O1.k2
        go_wp2_with fail
        clear cO_b cO_0 cO_1 cO_2
        refine (rdays_yes y m 1 _ HR1.out).mono ?_; rintro e w2 ⟨rfl, b2⟩
        have d2 : Below w1.heap.size w1 w2 := below_step (by repeat (first | exact Below.refl _ _ | refine below_drewN ?_ _ | refine Below.drew ?_ | refine Below.setCell ?_ (by simp) _ | refine Below.alloc ?_ (by simp) _)) b2
        have B2 := Lib.hid (below_step B1.out d2)
        have O2 := O1.keep d2
        clear O1 b2 d2 B1
        have cO_b := O2.hb
        have cO_0 := O2.k0
        have cO_1 := O2.k1
        have cO_2 := O2.k2
        go_wp2_with fail
        clear cO_b cO_0 cO_1 cO_2
        refine (rlen_any y m _).mono ?_; rintro e w3 ⟨rfl, b3⟩
        have d3 : Below w2.heap.size w2 w3 := below_step (by repeat (first | exact Below.refl _ _ | refine below_drewN ?_ _ | refine Below.drew ?_ | refine Below.setCell ?_ (by simp) _ | refine Below.alloc ?_ (by simp) _)) b3
        have B3 := Lib.hid (below_step B2.out d3)
        have O3 := O2.keep d3
        clear O2 b3 d3 B2
        have cO_b := O3.hb
        have cO_0 := O3.k0
        have cO_1 := O3.k1
        have cO_2 := O3.k2
        go_wp2_with fail
        clear cO_b cO_0 cO_1 cO_2
        rw [ES.out]
        go_loopw [10] (fun v10 wr => ∃ j : Int, 0 ≤ j ∧ j ≤ T ∧ v10 = .int .i64 (S - j) ∧ Bk3 wr w.heap.size (.int .i64 1) (.int .i64 wk) (.int .i64 d) ∧ Below w.heap.size w wr) (fun v10 _ => (intOf v10 - (S - T)).toNat)
        case atStart => exact ⟨0, by omega, t0, by simp, O3, B3.out⟩
        case round =>
          obtain ⟨j, j0, j1, rfl, O, hB⟩ := hrel
          have BB := Lib.hid hB; clear hB
          have k1 := O.k1
          have g0 : 0 ≤ (S - j + 4) % 7 := by omega
          have g1 : (S - j + 4) % 7 < 7 := by omega
          by_cases hj : j = T
          · have hc : ((S - j + 4) % 7 != wk) = false := by
              have := HT.out
              simp; omega
            have HJ := Lib.hid hj; clear hj
            go_wp2_with fail
            go_quiet ((go_at_call 43; exact q_draw (rweekday_any _ _ (by omega) (by omega))))
            go_wp2
            go_ret2
            rw [HJ.out]
            exact ⟨rfl, below_drewN BB.out _⟩
          · have hc : ((S - j + 4) % 7 != wk) = true := by
              have := HT.out
              rw [bne_iff_ne]; omega
            have hj2 : j + 1 ≤ T := by omega
            clear hj
            go_wp2_with fail
            go_quiet ((go_at_call 43; exact q_draw (rweekday_any _ _ (by omega) (by omega))))
            go_wp2
            go_roundw
            case rel => exact ⟨j + 1, by omega, hj2, by rw [show S - (j + 1) = S - j + -1 by omega], O.keep (below_draw _ _), below_drewN BB.out _⟩
            case measure => simp [intOf]; omega
      · have eS : Cal.num y m 1 + d - 1 = S := by rw [← hS]; simp [Dr.base, first_num]
        have ES := Lib.hid eS; clear eS hS
        go_enter Try.func13, Try.ntmps13
        go_wp2_with fail
        refine (rofits_any 3 wk d m _).mono ?_; rintro e w1 ⟨rfl, b1⟩
        have d1 : Below w.heap.size w w1 := below_step (by repeat (first | exact Below.refl _ _ | refine below_drewN ?_ _ | refine Below.drew ?_ | refine Below.setCell ?_ (by simp) _ | refine Below.alloc ?_ (by simp) _)) b1
        have B1 := Lib.hid d1
        have O1 : Bk3 w1 (w.heap.size) (.int .i64 3) (.int .i64 wk) (.int .i64 d) := Bk3.of b1 (by simp <;> omega) (by simp [go_sem]) (by simp [go_sem]) (by simp [go_sem])
        clear b1 d1
        rw [H.out]
        have cO_b := O1.hb
        have cO_0 := O1.k0
        have cO_1 := O1.k1
        have cO_2 := O1.k2
        go_wp2_with fail
        clear cO_b cO_0 cO_1 cO_2
        refine (rdays_yes y m 1 _ HR1.out).mono ?_; rintro e w2 ⟨rfl, b2⟩
        have d2 : Below w1.heap.size w1 w2 := below_step (by repeat (first | exact Below.refl _ _ | refine below_drewN ?_ _ | refine Below.drew ?_ | refine Below.setCell ?_ (by simp) _ | refine Below.alloc ?_ (by simp) _)) b2
        have B2 := Lib.hid (below_step B1.out d2)
        have O2 := O1.keep d2
        clear O1 b2 d2 B1
        
        have cO_b := O2.hb
        have cO_0 := O2.k0
        have cO_1 := O2.k1
        have cO_2 := O2.k2
        go_wp2_with fail
        clear cO_b cO_0 cO_1 cO_2
        rw [ES.out]
        go_loopw [10] (fun v10 wr => ∃ j : Int, 0 ≤ j ∧ j ≤ T ∧ v10 = .int .i64 (S - j) ∧ Bk3 wr w.heap.size (.int .i64 3) (.int .i64 wk) (.int .i64 d) ∧ Below w.heap.size w wr) (fun v10 _ => (intOf v10 - (S - T)).toNat)
        case atStart => exact ⟨0, by omega, t0, by simp, O2, B2.out⟩
        case round =>
          obtain ⟨j, j0, j1, rfl, O, hB⟩ := hrel
          have BB := Lib.hid hB; clear hB
          have k1 := O.k1
          have g0 : 0 ≤ (S - j + 4) % 7 := by omega
          have g1 : (S - j + 4) % 7 < 7 := by omega
          by_cases hj : j = T
          · have hc : ((S - j + 4) % 7 != wk) = false := by
              have := HT.out
              simp; omega
            have HJ := Lib.hid hj; clear hj
            go_wp2_with fail
            go_quiet ((go_at_call 43; exact q_draw (rweekday_any _ _ (by omega) (by omega))))
            go_wp2
            go_ret2
            rw [HJ.out]
            exact ⟨rfl, below_drewN BB.out _⟩
          · have hc : ((S - j + 4) % 7 != wk) = true := by
              have := HT.out
              rw [bne_iff_ne]; omega
            have hj2 : j + 1 ≤ T := by omega
            clear hj
            go_wp2_with fail
            go_quiet ((go_at_call 43; exact q_draw (rweekday_any _ _ (by omega) (by omega))))
            go_wp2
            go_roundw
            case rel => exact ⟨j + 1, by omega, hj2, by rw [show S - (j + 1) = S - j + -1 by omega], O.keep (below_draw _ _), below_drewN BB.out _⟩
            case measure => simp [intOf]; omega
theorem rodays_any (k wk d y m : Int) (w : World) :
    Calls Try.prog 13 #[.agg #[.int .i64 k, .int .i64 wk, .int .i64 d], .int .i64 y, .int .i64 m] w fun e w' => e = .returned (.tuple #[.int .i64 (Dr.dn k wk d y m), .int .i64 (Dr.dw k wk d y m)]) ∧ Below w.heap.size w w' := by
  by_cases h : Dr.onF k wk d m = true
  · by_cases hy : -39999 ≤ y ∧ y ≤ 39999
    · have e1 : Dr.dw k wk d y m = 0 := by unfold Dr.dw; rw [if_pos h, if_pos hy]
      have e2 : Dr.dn k wk d y m = Dr.onN k wk d y m := by unfold Dr.dn; rw [if_pos e1]
      rw [e1, e2]
      exact rodays_yes k wk d y m w h hy.1 hy.2
    · have e1 : Dr.dw k wk d y m = 1 := by unfold Dr.dw; rw [if_pos h, if_neg hy]
      have e2 : Dr.dn k wk d y m = 0 := by unfold Dr.dn; rw [if_neg (by rw [e1]; decide)]
      rw [e1, e2]
      exact rodays_range k wk d y m w h (by omega)
  · have h' : Dr.onF k wk d m = false := by simpa using h
    have e1 : Dr.dw k wk d y m = 4 := by unfold Dr.dw; rw [if_neg h]
    have e2 : Dr.dn k wk d y m = 0 := by unfold Dr.dn; rw [if_neg (by rw [e1]; decide)]
    rw [e1, e2]
    exact rodays_form k wk d y m w h'
end Go.Proofs.Ytlehbnfocilcmab

