/- Joined: DrR4, AwI. -/
import Derived.Test.YtjnhaabbnbcaeaaBx19
import Derived.Test.YtjnhaabbnbcaeaaBx07
import Derived.Test.YtjnhaabbnbcaeaaBx20
/- The contract of the reference's Window. -/
set_option linter.unusedVariables false
set_option linter.unusedSimpArgs false
namespace Go.Proofs.Ytjnhaabbnbcaeaa
open Go.RowKit

set_option maxHeartbeats 1000000 in
theorem rowindow_any (k wk d m : Int) (w : World) :
    Calls Try.prog 28 #[.agg #[.int .i64 k, .int .i64 wk, .int .i64 d], .int .i64 m] w fun e w' => e = .returned (.tuple #[.int .i64 (Dr.wl k wk d m), .int .i64 (Dr.wh k wk d m), .int .i64 (Dr.ww k wk d m)]) ∧ Below w.heap.size w w' := by
  unfold Dr.wl Dr.wh Dr.ww
  have O0 := One.new (t := 23) (v0 := .int .i64 k) (v1 := .int .i64 wk) (v2 := .int .i64 d) (Below.refl w.heap.size w)
  by_cases h : Dr.onF k wk d m = true
  · rw [if_pos h, if_pos h, if_pos h]
    obtain ⟨a, b1, b2, -⟩ := Dr.onF_true.1 h
    have a := Dr.onR_true.1 a
    have d0 : 0 ≤ d := by omega
    have d1 : d ≤ 31 := by omega
    have H := Lib.hid h; clear h
    unfold Dr.low Dr.high
    by_cases h1 : k = 1
    · rw [if_pos h1, if_pos h1]
      obtain ⟨l0, l1⟩ := Cal.len_bd 2001 m
      subst h1; clear a
      go_enter Try.func28, Try.ntmps28
      go_wp2_with fail
      refine (rofits_any _ _ _ _ _).mono ?_; rintro e w1 ⟨rfl, b1⟩
      rw [H.out]
      have O1 := O0.keep b1
      have k0 := O1.k0; have k2 := O1.k2
      clear O0
      go_wp2_with fail
      refine (rlen_any _ _ _).mono ?_; rintro e w2 ⟨rfl, b2⟩
      go_wp2_with fail
      refine (rlen_any _ _ _).mono ?_; rintro e w3 ⟨rfl, b3⟩
      go_wp2_with fail
      go_ret3
      exact ⟨rfl, below_step (below_step O1.bel b2) b3⟩
    · rw [if_neg h1, if_neg h1]
      by_cases h2 : k = 2
      · subst h2; clear a h1
        go_enter Try.func28, Try.ntmps28
        go_wp2_with fail
        refine (rofits_any _ _ _ _ _).mono ?_; rintro e w1 ⟨rfl, b1⟩
        rw [H.out]
        have O1 := O0.keep b1
        have k0 := O1.k0; have k2 := O1.k2
        clear O0
        go_wp2_with fail
        go_quiet (fail)
        go_wp2
        go_ret3
        exact ⟨rfl, below_drewN O1.bel _⟩
      · by_cases h3 : k = 3
        · rw [if_pos h3, if_neg h2]
          subst h3; clear a h1 h2
          go_enter Try.func28, Try.ntmps28
          go_wp2_with fail
          refine (rofits_any _ _ _ _ _).mono ?_; rintro e w1 ⟨rfl, b1⟩
          rw [H.out]
          have O1 := O0.keep b1
          have k0 := O1.k0; have k2 := O1.k2
          clear O0
          go_wp2_with fail
          go_quiet (fail)
          go_wp2
          go_ret3
          exact ⟨rfl, below_drewN O1.bel _⟩
        · rw [if_neg h3, if_neg h2]
          have h0 : k = 0 := by omega
          subst h0; clear a h1 h2 h3
          go_enter Try.func28, Try.ntmps28
          go_wp2_with fail
          refine (rofits_any _ _ _ _ _).mono ?_; rintro e w1 ⟨rfl, b1⟩
          rw [H.out]
          have O1 := O0.keep b1
          have k0 := O1.k0; have k2 := O1.k2
          clear O0
          go_wp2_with fail
          go_quiet (fail)
          go_wp2
          go_ret3
          exact ⟨rfl, below_drewN O1.bel _⟩
  · rw [if_neg h, if_neg h, if_neg h]
    have h' : Dr.onF k wk d m = false := by simpa using h
    clear h
    go_enter Try.func28, Try.ntmps28
    go_wp2_with fail
    refine (rofits_any _ _ _ _ _).mono ?_; rintro e w1 ⟨rfl, b1⟩
    rw [h']
    go_wp2_with fail
    go_ret3
    exact ⟨rfl, below_step O0.bel b1⟩
end Go.Proofs.Ytjnhaabbnbcaeaa

/- Rules far enough from each other: windows, by the reference. -/
set_option linter.unusedVariables false
set_option linter.unusedSimpArgs false
namespace Go.Proofs.Ytjnhaabbnbcaeaa
open Go.RowKit Go.Sort
set_option maxHeartbeats 4000000 in
set_option maxRecDepth 100000 in
theorem rwindow27_any (s : ByteArray) (fy ty m k wk d sec base save : Int) (t : ByteArray) (w : World) (hs : s.size ≤ maxLen) (ht : t.size ≤ 100000) :
    Calls Try.prog 10 #[.agg #[.string s, .int .i64 fy, .int .i64 ty, .int .i64 m, .int .i64 k, .int .i64 wk, .int .i64 d, .int .i64 sec, .int .i64 base, .int .i64 save, .string t]] w fun e w' => e = .returned (.tuple #[.int .i64 (Aw.lo (s, fy, ty, m, k, wk, d, sec, base, save, t)), .int .i64 (Aw.hi (s, fy, ty, m, k, wk, d, sec, base, save, t)), .int .i64 (Aw.wy (s, fy, ty, m, k, wk, d, sec, base, save, t))]) ∧ Below w.heap.size w w' := by
  have RB := Lib.hid (fun W => rrright_any s t fy ty m k wk d sec base save W hs ht)
  cases hr : Ru.rB s t fy ty m k wk d sec base save
  · rw [hr] at RB
    have e0 : Aw.lo (s, fy, ty, m, k, wk, d, sec, base, save, t) = 0 := if_neg (by rw [hr]; decide)
    have e1 : Aw.hi (s, fy, ty, m, k, wk, d, sec, base, save, t) = 0 := if_neg (by rw [hr]; decide)
    have e2 : Aw.wy (s, fy, ty, m, k, wk, d, sec, base, save, t) = 4 := if_neg (by show ¬ Ru.rB s t fy ty m k wk d sec base save = true; rw [hr]; decide)
    rw [e0, e1, e2]
    clear e0 e1 e2 hr hs ht
    go_enter Try.func10, Try.ntmps10
    go_wp2_with fail
    refine (RB.out _).mono ?_; rintro e w1 ⟨rfl, b1⟩
    have d1 : Below w.heap.size w w1 := below_step (by repeat (first | exact Below.refl _ _ | refine below_drewN ?_ _ | refine Below.drew ?_ | refine Below.setCell ?_ (by first | (simp; done) | (simp; omega) | omega) _ | refine Below.alloc ?_ (by first | (simp; done) | (simp; omega) | omega) _)) b1
    have B1 := Lib.hid d1
    have X1 : Bk11 w1 (w.heap.size) (.string s) (.int .i64 fy) (.int .i64 ty) (.int .i64 m) (.int .i64 k) (.int .i64 wk) (.int .i64 d) (.int .i64 sec) (.int .i64 base) (.int .i64 save) (.string t) := Bk11.of b1 (by simp <;> omega) (by intro j; simp [go_sem]) (by simp [go_sem]) (by simp [go_sem]) (by simp [go_sem]) (by simp [go_sem]) (by simp [go_sem]) (by simp [go_sem]) (by simp [go_sem]) (by simp [go_sem]) (by simp [go_sem]) (by simp [go_sem]) (by simp [go_sem])
    clear b1 d1
    have cX_b := X1.hb
    have cX_f := X1.fz
    have cX_0 := X1.k0
    have cX_1 := X1.k1
    have cX_2 := X1.k2
    have cX_3 := X1.k3
    have cX_4 := X1.k4
    have cX_5 := X1.k5
    have cX_6 := X1.k6
    have cX_7 := X1.k7
    have cX_8 := X1.k8
    have cX_9 := X1.k9
    have cX_10 := X1.k10
    go_wp2_with fail
    clear cX_b cX_f cX_0 cX_1 cX_2 cX_3 cX_4 cX_5 cX_6 cX_7 cX_8 cX_9 cX_10
    go_ret3
    exact ⟨rfl, (by have hz := B1.out.size; repeat (first | exact B1.out | refine below_drewN ?_ _ | refine Below.drew ?_ | refine Below.setCell ?_ (by first | omega | (simp; done) | (simp; omega)) _ | refine Below.alloc ?_ (by first | omega | (simp; done) | (simp; omega)) _))⟩
  · rw [hr] at RB
    have e0 : Aw.lo (s, fy, ty, m, k, wk, d, sec, base, save, t) = (Cal.cum 2001 m + Dr.low k d m - 1) * 86400 + sec := if_pos hr
    have e1 : Aw.hi (s, fy, ty, m, k, wk, d, sec, base, save, t) = (Cal.cum 2001 m + Dr.high k d m - 1) * 86400 + sec := if_pos hr
    have e2 : Aw.wy (s, fy, ty, m, k, wk, d, sec, base, save, t) = 0 := if_pos hr
    have h2 := hr
    unfold Ru.rB at h2
    simp only [Bool.and_eq_true, decide_eq_true_eq] at h2
    obtain ⟨-, y0, y1, y2, of, cr, -⟩ := h2
    obtain ⟨o1, m1, m2, d2⟩ := Dr.onF_true.1 of
    have cb := Cal.cum_bd 2001 m m1 m2
    have ll := Dr.len_2001 2001 m m1 m2
    have lp : Cal.lp 2001 = 0 := by decide
    unfold Cl.rB at cr
    simp only [Bool.and_eq_true, decide_eq_true_eq] at cr
    have hl : -5 ≤ Dr.low k d m ∧ Dr.low k d m ≤ 31 := by
      rcases Dr.onR_true.1 o1 with ⟨rfl, -, a, b⟩ | ⟨rfl, -, -, -⟩ | ⟨rfl | rfl, -, -, a, b⟩ <;> simp [Dr.low] <;> omega
    have hh : 1 ≤ Dr.high k d m ∧ Dr.high k d m ≤ 37 := by
      rcases Dr.onR_true.1 o1 with ⟨rfl, -, a, b⟩ | ⟨rfl, -, -, -⟩ | ⟨rfl | rfl, -, -, a, b⟩ <;> simp [Dr.high] <;> omega
    have RW := Lib.hid (fun W => rowindow_any k wk d m W)
    rw [show Dr.wl k wk d m = Dr.low k d m from if_pos of, show Dr.wh k wk d m = Dr.high k d m from if_pos of, show Dr.ww k wk d m = 0 from if_pos of] at RW
    generalize Dr.low k d m = lw at *
    generalize Dr.high k d m = hg at *
    rw [e0, e1, e2]
    clear e0 e1 e2 hr hs ht of o1 d2 ll y0 y1 y2
    go_enter Try.func10, Try.ntmps10
    go_wp2_with fail
    refine (RB.out _).mono ?_; rintro e w1 ⟨rfl, b1⟩
    have d1 : Below w.heap.size w w1 := below_step (by repeat (first | exact Below.refl _ _ | refine below_drewN ?_ _ | refine Below.drew ?_ | refine Below.setCell ?_ (by first | (simp; done) | (simp; omega) | omega) _ | refine Below.alloc ?_ (by first | (simp; done) | (simp; omega) | omega) _)) b1
    have B1 := Lib.hid d1
    have X1 : Bk11 w1 (w.heap.size) (.string s) (.int .i64 fy) (.int .i64 ty) (.int .i64 m) (.int .i64 k) (.int .i64 wk) (.int .i64 d) (.int .i64 sec) (.int .i64 base) (.int .i64 save) (.string t) := Bk11.of b1 (by simp <;> omega) (by intro j; simp [go_sem]) (by simp [go_sem]) (by simp [go_sem]) (by simp [go_sem]) (by simp [go_sem]) (by simp [go_sem]) (by simp [go_sem]) (by simp [go_sem]) (by simp [go_sem]) (by simp [go_sem]) (by simp [go_sem]) (by simp [go_sem])
    clear b1 d1
    have cX_b := X1.hb
    have cX_f := X1.fz
    have cX_0 := X1.k0
    have cX_1 := X1.k1
    have cX_2 := X1.k2
    have cX_3 := X1.k3
    have cX_4 := X1.k4
    have cX_5 := X1.k5
    have cX_6 := X1.k6
    have cX_7 := X1.k7
    have cX_8 := X1.k8
    have cX_9 := X1.k9
    have cX_10 := X1.k10
    go_wp2_with fail
    clear cX_b cX_f cX_0 cX_1 cX_2 cX_3 cX_4 cX_5 cX_6 cX_7 cX_8 cX_9 cX_10
    clear RB
    go_loopw [5, 6] (fun v5 v6 wr => ∃ j : Int, 1 ≤ j ∧ j ≤ m ∧ v5 = .int .i64 (Cal.cum 2001 j) ∧ v6 = .int .i64 j ∧ Below w1.heap.size w1 wr) (fun _ v6 _ => (m - intOf v6).toNat)
    case atStart => exact ⟨1, by omega, by omega, by rw [show Cal.cum 2001 1 = 0 from rfl], rfl, Below.refl _ _⟩
    case round =>
      obtain ⟨j, hj0, hj1, rfl, rfl, hbw⟩ := hrel
      have Xr := X1.keep hbw
      have k3 := Xr.k3
      have cb2 := Cal.cum_bd 2001 j hj0 (by omega)
      obtain ⟨c0, c1⟩ := cb2
      have ln := Cal.len_bd 2001 j
      obtain ⟨l0, l1⟩ := ln
      have HB := Lib.hid hbw
      clear hbw
      by_cases hlt : j < m
      · have CS := Lib.hid (Cal.cum_succ 2001 j hj0 (by omega))
        go_wp2_with (go_at_call 27; refine (rlen_any _ _ _).mono ?_; rintro e w2 ⟨rfl, b2⟩)
        go_roundw
        case rel => exact ⟨j + 1, by omega, by omega, by rw [CS.out], rfl, below_step HB.out b2⟩
        case measure => simp [intOf]; omega
      · have hkm : j = m := by omega
        subst hkm
        have k0 := Xr.k0; have k1 := Xr.k1; have k2 := Xr.k2; have k4 := Xr.k4; have k5 := Xr.k5; have k6 := Xr.k6
        go_wp2_with fail
        refine (RW.out _).mono ?_; rintro e w3 ⟨rfl, b3⟩
        have Xs := Xr.keep b3
        have B3 := Lib.hid (below_step B1.out (below_step HB.out b3))
        clear k0 k1 k2 k3 k4 k5 k6 Xr
        have k7 := Xs.k7
        clear RW
        rw [lp] at c1
        obtain ⟨cr0, cr1, -, -⟩ := cr
        obtain ⟨hl0, hl1⟩ := hl
        obtain ⟨hh0, hh1⟩ := hh
        go_upto_region 9 with (fail)
        go_quiet (fail)
        go_wp2_with fail
        go_ret3
        exact ⟨rfl, below_drewN B3.out _⟩
end Go.Proofs.Ytjnhaabbnbcaeaa
