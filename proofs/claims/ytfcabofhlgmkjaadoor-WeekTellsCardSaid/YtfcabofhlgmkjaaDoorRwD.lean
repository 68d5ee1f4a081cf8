/- The contract of the reference's week.Of. -/
import Derived.Test.YtfcabofhlgmkjaaDoorRwB
set_option linter.unusedVariables false
set_option linter.unusedSimpArgs false
namespace Go.Proofs.YtfcabofhlgmkjaaDoor
open Go.RowKit Go.Sort

set_option maxHeartbeats 2000000 in
theorem rwof_no (y m d : Int) (w : World) (h : rightB y m d = false) :
    Calls Tryd.prog 13 #[.agg #[.int .i64 y, .int .i64 m, .int .i64 d]] w fun e w' => e = .returned (.tuple #[.agg #[.int .i64 0, .int .i64 0, .int .i64 0], .int .i64 1]) ∧ Below w.heap.size w w' := by
  have C : Hid (∀ W, Calls Tryd.prog 64 #[.agg #[.int .i64 y, .int .i64 m, .int .i64 d]] W fun e w' => e = .returned (.tuple #[.int .i64 0, .int .i64 1]) ∧ Below W.heap.size W w') := fun W => rdays_no y m d W h
  clear h
  go_enter Tryd.func13, Tryd.ntmps13
  go_wp2_with fail
  refine (C.out _).mono ?_; rintro e w1 ⟨rfl, b1⟩
  have d1 : Below w.heap.size w w1 := below_step (by repeat (first | exact Below.refl _ _ | refine below_drewN ?_ _ | refine Below.drew ?_ | refine Below.setCell ?_ (by first | (simp; done) | (simp; omega) | omega) _ | refine Below.alloc ?_ (by first | (simp; done) | (simp; omega) | omega) _)) b1
  have B1 := Lib.hid d1
  have D1 : Bk3 w1 (w.heap.size) (.int .i64 y) (.int .i64 m) (.int .i64 d) := Bk3.of b1 (by simp <;> omega) (by intro j; simp [go_sem]) (by simp [go_sem]) (by simp [go_sem]) (by simp [go_sem])
  have R1 : Bk3 w1 (w.heap.size + 1) (.int .i64 0) (.int .i64 0) (.int .i64 0) := Bk3.of b1 (by simp <;> omega) (by intro j; simp [go_sem]) (by simp [go_sem]) (by simp [go_sem]) (by simp [go_sem])
  clear b1 d1
  have cD_b := D1.hb
  have cD_f := D1.fz
  have cD_0 := D1.k0
  have cD_1 := D1.k1
  have cD_2 := D1.k2
  have cR_b := R1.hb
  have cR_f := R1.fz
  have cR_0 := R1.k0
  have cR_1 := R1.k1
  have cR_2 := R1.k2
  go_wp2_with fail
  refine bodyPost_ret (v := .tuple #[.agg #[.int .i64 0, .int .i64 0, .int .i64 0], .int .i64 1]) (by simp [results, Tryd.results13, go_sem, cD_b, cD_f, cD_0, cD_1, cD_2, cR_b, cR_f, cR_0, cR_1, cR_2]) rfl ⟨rfl, ?_⟩
  clear cD_b cD_f cD_0 cD_1 cD_2 cR_b cR_f cR_0 cR_1 cR_2
  exact (by have hz := B1.out.size; repeat (first | exact B1.out | refine below_drewN ?_ _ | refine Below.drew ?_ | refine Below.setCell ?_ (by first | omega | (simp; done) | (simp; omega)) _ | refine Below.alloc ?_ (by first | omega | (simp; done) | (simp; omega)) _))
set_option maxHeartbeats 8000000 in
set_option maxRecDepth 100000 in
theorem rwof_yes (y m d n : Int) (R : Value) (w : World) (y0 : -40000 ≤ y) (y1 : y ≤ 40000) (n0 : -15329228 ≤ n) (n1 : n ≤ 13890537)
    (C : Hid (∀ W, Calls Tryd.prog 64 #[.agg #[.int .i64 y, .int .i64 m, .int .i64 d]] W fun e w' => e = .returned (.tuple #[.int .i64 n, .int .i64 0]) ∧ Below W.heap.size W w'))
    (HY : Hid (∀ Y, Wk.M n Y → R = .tuple #[.agg #[.int .i64 Y, .int .i64 ((n - Wk.fst Y) / 7 + 1), .int .i64 ((n - Wk.fst Y) % 7 + 1)], .int .i64 0]))
    (HN : Hid ((∀ j : Nat, j < 3 → ¬ Wk.M n (y - 1 + j)) → R = .tuple #[.agg #[.int .i64 0, .int .i64 0, .int .i64 0], .int .i64 1])) :
    Calls Tryd.prog 13 #[.agg #[.int .i64 y, .int .i64 m, .int .i64 d]] w fun e w' => e = .returned R ∧ Below w.heap.size w w' := by
  go_enter Tryd.func13, Tryd.ntmps13
  go_wp2_with fail
  refine (C.out _).mono ?_; rintro e w1 ⟨rfl, b1⟩
  have d1 : Below w.heap.size w w1 := below_step (by repeat (first | exact Below.refl _ _ | refine below_drewN ?_ _ | refine Below.drew ?_ | refine Below.setCell ?_ (by first | (simp; done) | (simp; omega) | omega) _ | refine Below.alloc ?_ (by first | (simp; done) | (simp; omega) | omega) _)) b1
  have B1 := Lib.hid d1
  have D1 : Bk3 w1 (w.heap.size) (.int .i64 y) (.int .i64 m) (.int .i64 d) := Bk3.of b1 (by simp <;> omega) (by intro j; simp [go_sem]) (by simp [go_sem]) (by simp [go_sem]) (by simp [go_sem])
  have Z1 : Bk3 w1 (w.heap.size + 1) (.int .i64 0) (.int .i64 0) (.int .i64 0) := Bk3.of b1 (by simp <;> omega) (by intro j; simp [go_sem]) (by simp [go_sem]) (by simp [go_sem]) (by simp [go_sem])
  clear b1 d1
  clear C
  have cD_b := D1.hb
  have cD_f := D1.fz
  have cD_0 := D1.k0
  have cD_1 := D1.k1
  have cD_2 := D1.k2
  have cZ_b := Z1.hb
  have cZ_f := Z1.fz
  have cZ_0 := Z1.k0
  have cZ_1 := Z1.k1
  have cZ_2 := Z1.k2
  go_wp2_with fail
  clear cD_b cD_f cD_0 cD_1 cD_2 cZ_b cZ_f cZ_0 cZ_1 cZ_2
  go_loopw [6] (fun i wr => ∃ j : Nat, j ≤ 3 ∧ i = .int .i64 (y - 1 + j) ∧ Hid (∀ l : Nat, l < j → ¬ Wk.M n (y - 1 + l)) ∧ Hid (Bk3 wr w.heap.size (.int .i64 y) (.int .i64 m) (.int .i64 d)) ∧ Hid (Bk3 wr (w.heap.size + 1) (.int .i64 0) (.int .i64 0) (.int .i64 0)) ∧ Hid (Below w.heap.size w wr)) (fun i _ => (y + 2 - intOf i).toNat)
  case atStart => exact ⟨0, by omega, by simp, fun l hl => absurd hl (Nat.not_lt_zero _), D1, Z1, B1.out⟩
  case round =>
    clear D1 Z1 B1
    obtain ⟨j, hj, rfl, hno, hD, hZ, hB⟩ := hrel
    have DD : Bk3 wr w.heap.size (.int .i64 y) (.int .i64 m) (.int .i64 d) := hD.out
    have ZZ : Bk3 wr (w.heap.size + 1) (.int .i64 0) (.int .i64 0) (.int .i64 0) := hZ.out
    have k_b := DD.hb; have k_f := DD.fz; have k_0 := DD.k0; have k_1 := DD.k1; have k_2 := DD.k2
    have z_b := ZZ.hb; have z_f := ZZ.fz; have z_0 := ZZ.k0; have z_1 := ZZ.k1; have z_2 := ZZ.k2
    obtain ⟨Y, hYe⟩ : ∃ Y, Y = y - 1 + (j : Int) := ⟨_, rfl⟩
    rw [← hYe]
    have hYb : -40001 ≤ Y ∧ Y ≤ 40002 := by omega
    obtain ⟨Y0, Y1⟩ := hYb
    have HYe := Lib.hid hYe
    have j3 : Y ≤ y + 1 → j + 1 ≤ 3 := fun h => by omega
    have j3' : ¬ Y ≤ y + 1 → 3 ≤ j := fun h => by omega
    clear hYe
    by_cases h3 : Y ≤ y + 1
    · have j3 := j3 h3
      clear j3'
      have step : ¬ Wk.M n Y → ∀ l : Nat, l < j + 1 → ¬ Wk.M n (y - 1 + l) := fun hm l hl => by
        by_cases e : l = j
        · subst e; rw [← HYe.out]; exact hm
        · exact hno.out l (by omega)
      by_cases c0 : Y < -39999
      · have st := Lib.hid (step (fun h => by have := h.1; omega))
        clear step
        go_wp2_with fail
        go_roundw
        case rel => exact ⟨j + 1, j3, by have := HYe.out; congr 1; omega, st, hD, hZ, hB⟩
        case measure => simp [intOf]; omega
      · by_cases c1 : 39999 < Y
        · have st := Lib.hid (step (fun h => by have := h.2.1; omega))
          clear step
          go_wp2_with fail
          go_roundw
          case rel => exact ⟨j + 1, j3, by have := HYe.out; congr 1; omega, st, hD, hZ, hB⟩
          case measure => simp [intOf]; omega
        · have CF := Lib.hid (fun W => rfirst_any Y W (by omega) (by omega))
          have CG := Lib.hid (fun W => rfirst_any (Y + 1) W (by omega) (by omega))
          obtain ⟨f0, f1⟩ := Wk.fst_range (y := Y) (by omega) (by omega)
          obtain ⟨g0, g1⟩ := Wk.fst_range (y := Y + 1) (by omega) (by omega)
          have hM : Hid (Wk.fst Y ≤ n → n < Wk.fst (Y + 1) → Wk.M n Y) := fun a b => ⟨by omega, by omega, a, b⟩
          have hM2 : Hid (Wk.M n Y → Wk.fst Y ≤ n ∧ n < Wk.fst (Y + 1)) := fun h => ⟨h.2.2.1, h.2.2.2⟩
          have HYY := Lib.hid (HY.out Y)
          generalize Wk.fst Y = f at CF f0 f1 hM hM2 HYY
          generalize Wk.fst (Y + 1) = g at CG g0 g1 hM hM2
          by_cases c2 : n < f
          · have st := Lib.hid (step (fun h => by have := (hM2.out h).1; omega))
            clear step hM hM2 HYY
            go_wp2_with fail
            refine (CF.out _).mono ?_; rintro e w2 ⟨rfl, b2⟩
            have d2 : Below wr.heap.size wr w2 := below_step (by repeat (first | exact Below.refl _ _ | refine below_drewN ?_ _ | refine Below.drew ?_ | refine Below.setCell ?_ (by first | (simp; done) | (simp; omega) | omega) _ | refine Below.alloc ?_ (by first | (simp; done) | (simp; omega) | omega) _)) b2
            have D2 := Lib.hid (hD.out.keep d2); have Z2 := Lib.hid (hZ.out.keep d2); have B2 := Lib.hid (below_step hB.out d2)
            clear d2 b2
            go_wp2_with fail
            go_roundw
            case rel => exact ⟨j + 1, j3, by have := HYe.out; congr 1; omega, st, D2, Z2, B2⟩
            case measure => simp [intOf]; omega
          · by_cases c3 : g ≤ n
            · have st := Lib.hid (step (fun h => by have := (hM2.out h).2; omega))
              clear step hM hM2 HYY
              go_wp2_with fail
              refine (CF.out _).mono ?_; rintro e w2 ⟨rfl, b2⟩
              have d2 : Below wr.heap.size wr w2 := below_step (by repeat (first | exact Below.refl _ _ | refine below_drewN ?_ _ | refine Below.drew ?_ | refine Below.setCell ?_ (by first | (simp; done) | (simp; omega) | omega) _ | refine Below.alloc ?_ (by first | (simp; done) | (simp; omega) | omega) _)) b2
              have D2 := Lib.hid (hD.out.keep d2); have Z2 := Lib.hid (hZ.out.keep d2); have B2 := Lib.hid (below_step hB.out d2)
              clear d2 b2
              go_wp2_with fail
              refine (CG.out _).mono ?_; rintro e w3 ⟨rfl, b3⟩
              have d3 : Below w2.heap.size w2 w3 := below_step (by repeat (first | exact Below.refl _ _ | refine below_drewN ?_ _ | refine Below.drew ?_ | refine Below.setCell ?_ (by first | (simp; done) | (simp; omega) | omega) _ | refine Below.alloc ?_ (by first | (simp; done) | (simp; omega) | omega) _)) b3
              have D3 := Lib.hid (D2.out.keep d3); have Z3 := Lib.hid (Z2.out.keep d3); have B3 := Lib.hid (below_step B2.out d3)
              clear d3 b3
              go_wp2_with fail
              go_roundw
              case rel => exact ⟨j + 1, j3, by have := HYe.out; congr 1; omega, st, D3, Z3, B3⟩
              case measure => simp [intOf]; omega
            · have HR := Lib.hid (HYY.out (hM.out (by omega) (by omega)))
              have m0 : 0 ≤ n - f := by omega
              clear step hM hM2 HYY hno
              go_wp2_with fail
              refine (CF.out _).mono ?_; rintro e w2 ⟨rfl, b2⟩
              have d2 : Below wr.heap.size wr w2 := below_step (by repeat (first | exact Below.refl _ _ | refine below_drewN ?_ _ | refine Below.drew ?_ | refine Below.setCell ?_ (by first | (simp; done) | (simp; omega) | omega) _ | refine Below.alloc ?_ (by first | (simp; done) | (simp; omega) | omega) _)) b2
              have Z2 := Lib.hid (hZ.out.keep d2); have B2 := Lib.hid (below_step hB.out d2)
              clear d2 b2
              go_wp2_with fail
              refine (CG.out _).mono ?_; rintro e w3 ⟨rfl, b3⟩
              have d3 : Below w2.heap.size w2 w3 := below_step (by repeat (first | exact Below.refl _ _ | refine below_drewN ?_ _ | refine Below.drew ?_ | refine Below.setCell ?_ (by first | (simp; done) | (simp; omega) | omega) _ | refine Below.alloc ?_ (by first | (simp; done) | (simp; omega) | omega) _)) b3
              have Z3 := Lib.hid (Z2.out.keep d3); have B3 := Lib.hid (below_step B2.out d3)
              clear d3 b3
              go_wp2_with fail
              refine (CF.out _).mono ?_; rintro e w4 ⟨rfl, b4⟩
              have d4 : Below w3.heap.size w3 w4 := below_step (by repeat (first | exact Below.refl _ _ | refine below_drewN ?_ _ | refine Below.drew ?_ | refine Below.setCell ?_ (by first | (simp; done) | (simp; omega) | omega) _ | refine Below.alloc ?_ (by first | (simp; done) | (simp; omega) | omega) _)) b4
              have Z4 := Z3.out.keep d4; have B4 := Lib.hid (below_step B3.out d4)
              have q_b := Z4.hb; have q_f := Z4.fz; have q_0 := Z4.k0; have q_1 := Z4.k1; have q_2 := Z4.k2
              have r0 : 0 ≤ (n - f) % 7 := by omega
              clear d4 b4
              go_wp2_with fail
              refine bodyPost_ret (v := .tuple #[.agg #[.int .i64 Y, .int .i64 ((n - f) / 7 + 1), .int .i64 ((n - f) % 7 + 1)], .int .i64 0]) (by simp [results, Tryd.results13, go_sem, q_b, q_f, q_0, q_1, q_2]) rfl ⟨by rw [HR.out], ?_⟩
              have hz := B4.out.size
              repeat (first | exact B4.out | refine Below.setCell ?_ (by first | (simp; done) | (simp; omega) | omega) _ | refine below_drewN ?_ _ | refine Below.drew ?_)
    · have j3 := j3' h3
      have HR := Lib.hid (HN.out (fun l hl => hno.out l (by omega)))
      clear hno j3' j3
      go_wp2_with fail
      refine bodyPost_ret (v := .tuple #[.agg #[.int .i64 0, .int .i64 0, .int .i64 0], .int .i64 1]) (by simp [results, Tryd.results13, go_sem, z_b, z_f, z_0, z_1, z_2]) rfl ⟨by rw [HR.out], ?_⟩
      have hz := hB.out.size
      repeat (first | exact hB.out | refine Below.setCell ?_ (by first | (simp; done) | (simp; omega) | omega) _ | refine below_drewN ?_ _ | refine Below.drew ?_)
theorem rwof_any (y m d : Int) (w : World) :
    Calls Tryd.prog 13 #[.agg #[.int .i64 y, .int .i64 m, .int .i64 d]] w fun e w' => e = .returned (.tuple #[.agg #[.int .i64 (Cal.orz (Wk.wok y m d) (Wk.wy (Cal.num y m d))), .int .i64 (Cal.orz (Wk.wok y m d) (Wk.wk (Cal.num y m d))), .int .i64 (Cal.orz (Wk.wok y m d) (Wk.dow (Cal.num y m d)))], .int .i64 (Cal.why (Wk.wok y m d))]) ∧ Below w.heap.size w w' := by
  cases h : rightB y m d
  · have e : Wk.wok y m d = false := by unfold Wk.wok; rw [h]; rfl
    rw [e]; exact rwof_no y m d w h
  · obtain ⟨y0, y1, d0, d1⟩ := right_true.1 h
    obtain ⟨n0, n1⟩ := Cal.num_range (right_true.1 h)
    refine rwof_yes y m d (Cal.num y m d) _ w y0 y1 n0 n1 (fun W => rdays_yes y m d W h) (fun Y hM => ?_) (fun hN => ?_)
    · obtain ⟨a, b, c, e⟩ := Wk.wok_yes h hM
      rw [a, b, c, e]; rfl
    · rw [Wk.wok_none h hN]; rfl
end Go.Proofs.YtfcabofhlgmkjaaDoor

