/- Joined: AwB. -/
import Derived.Test.YtjnhaabbnbcaeaaBx08
import Derived.Test.YtjnhaabbnbcaeaaBx01
/- Rules far enough from each other: pairs, of the program. -/
set_option linter.unusedVariables false
set_option linter.unusedSimpArgs false
namespace Go.Proofs.Ytjnhaabbnbcaeaa
open Go.RowKit Go.Sort
set_option maxHeartbeats 4000000 in
set_option maxRecDepth 100000 in
theorem areach_any (s : ByteArray) (fy ty m k wk d sec base save : Int) (t : ByteArray) (w : World) (hs : s.size ≤ maxLen) (ht : t.size ≤ maxLen) :
    Calls Try.prog 17 #[.agg #[.string s, .int .i64 fy, .int .i64 ty, .int .i64 m, .int .i64 k, .int .i64 wk, .int .i64 d, .int .i64 sec, .int .i64 base, .int .i64 save, .string t]] w fun e w' => e = .returned (.agg #[.int .i64 fy, .int .i64 ty, .int .i64 (Aw.lo (s, fy, ty, m, k, wk, d, sec, base, save, t)), .int .i64 (Aw.hi (s, fy, ty, m, k, wk, d, sec, base, save, t)), .int .i64 (Aw.wy (s, fy, ty, m, k, wk, d, sec, base, save, t))]) ∧ Below w.heap.size w w' := by
  have AW := Lib.hid (fun W => awindow_any s fy ty m k wk d sec base save t W hs ht)
  generalize Aw.lo (s, fy, ty, m, k, wk, d, sec, base, save, t) = x2 at *
  generalize Aw.hi (s, fy, ty, m, k, wk, d, sec, base, save, t) = x3 at *
  generalize Aw.wy (s, fy, ty, m, k, wk, d, sec, base, save, t) = x4 at *
  clear hs ht
  go_enter Try.func17, Try.ntmps17
  go_wp2_with fail
  refine (AW.out _).mono ?_; rintro e w1 ⟨rfl, b1⟩
  have d1 : Below w.heap.size w w1 := below_step (by repeat (first | exact Below.refl _ _ | refine below_drewN ?_ _ | refine Below.drew ?_ | refine Below.setCell ?_ (by first | (simp; done) | (simp; omega) | omega) _ | refine Below.alloc ?_ (by first | (simp; done) | (simp; omega) | omega) _)) b1
  have B1 := Lib.hid d1
  have X1 : Bk11 w1 (w.heap.size) (.string s) (.int .i64 fy) (.int .i64 ty) (.int .i64 m) (.int .i64 k) (.int .i64 wk) (.int .i64 d) (.int .i64 sec) (.int .i64 base) (.int .i64 save) (.string t) := Bk11.of b1 (by simp <;> omega) (by intro j; simp [go_sem]) (by simp [go_sem]) (by simp [go_sem]) (by simp [go_sem]) (by simp [go_sem]) (by simp [go_sem]) (by simp [go_sem]) (by simp [go_sem]) (by simp [go_sem]) (by simp [go_sem]) (by simp [go_sem]) (by simp [go_sem])
  have Z1 : Bk5 w1 (w.heap.size + 1) (.int .i64 0) (.int .i64 0) (.int .i64 0) (.int .i64 0) (.int .i64 0) := Bk5.of b1 (by simp <;> omega) (by intro j; simp [go_sem]) (by simp [go_sem]) (by simp [go_sem]) (by simp [go_sem]) (by simp [go_sem]) (by simp [go_sem])
  clear b1 d1
  have cX_b := X1.hb
  have cX_f := X1.fz
  have cX_0 := X1.k0
  have cX_1 := X1.k1
  have cX_2 := X1.k2
  have cX_3 := X1.k3
  have cX_4 := X1.k4
  have cX_5 := X1.k5
  have cX_6 := X1.k6
  have cX_7 := X1.k7
  have cX_8 := X1.k8
  have cX_9 := X1.k9
  have cX_10 := X1.k10
  have cZ_b := Z1.hb
  have cZ_f := Z1.fz
  have cZ_0 := Z1.k0
  have cZ_1 := Z1.k1
  have cZ_2 := Z1.k2
  have cZ_3 := Z1.k3
  have cZ_4 := Z1.k4
  go_wp2_with fail
  clear cX_b cX_f cX_0 cX_1 cX_2 cX_3 cX_4 cX_5 cX_6 cX_7 cX_8 cX_9 cX_10 cZ_b cZ_f cZ_0 cZ_1 cZ_2 cZ_3 cZ_4
  exact bodyPost_ret (v := .agg #[.int .i64 fy, .int .i64 ty, .int .i64 x2, .int .i64 x3, .int .i64 x4]) (by have z_b := Z1.hb; have z_f := Z1.fz; have z_0 := Z1.k0; have z_1 := Z1.k1; have z_2 := Z1.k2; have z_3 := Z1.k3; have z_4 := Z1.k4; simp [results, Try.results17, go_sem, z_b, z_f, z_0, z_1, z_2, z_3, z_4]) rfl ⟨rfl, by have hz := B1.out.size; repeat (first | refine Below.setCell ?_ (by first | omega | (simp; done) | (simp; omega)) _ | exact B1.out)⟩
set_option maxHeartbeats 8000000 in
set_option maxRecDepth 100000 in
theorem apair_any (a0 a1 a2 a3 a4 b0 b1 b2 b3 b4 : Int) (w : World) (ha : Aw.Ok (a0, a1, a2, a3, a4)) (hb : Aw.Ok (b0, b1, b2, b3, b4)) :
    Calls Try.prog 16 #[.agg #[.int .i64 a0, .int .i64 a1, .int .i64 a2, .int .i64 a3, .int .i64 a4], .agg #[.int .i64 b0, .int .i64 b1, .int .i64 b2, .int .i64 b3, .int .i64 b4]] w fun e w' => e = .returned (.int .i64 (Aw.pr (a0, a1, a2, a3, a4) (b0, b1, b2, b3, b4))) ∧ Below w.heap.size w w' := by
  by_cases h0 : a4 = 0
  case neg =>
    have e : Aw.pr (a0, a1, a2, a3, a4) (b0, b1, b2, b3, b4) = 4 := if_neg (fun h => h0 h.1)
    rw [e]
    have g : (a4 == 0) = false := by rw [beq_eq_false_iff_ne]; exact h0
    clear ha hb e
    go_enter Try.func16, Try.ntmps16
    go_wp2_with fail
    go_ret
    exact ⟨rfl, by repeat (first | exact Below.refl _ _ | refine Below.setCell ?_ (by first | (simp; done) | (simp; omega) | omega) _ | refine Below.alloc ?_ (by first | (simp; done) | (simp; omega) | omega) _)⟩
  by_cases h1 : b4 = 0
  case neg =>
    have e : Aw.pr (a0, a1, a2, a3, a4) (b0, b1, b2, b3, b4) = 4 := if_neg (fun h => h1 h.2)
    rw [e]
    have g : (b4 == 0) = false := by rw [beq_eq_false_iff_ne]; exact h1
    subst h0
    clear ha hb e
    go_enter Try.func16, Try.ntmps16
    go_wp2_with fail
    go_ret
    exact ⟨rfl, by repeat (first | exact Below.refl _ _ | refine Below.setCell ?_ (by first | (simp; done) | (simp; omega) | omega) _ | refine Below.alloc ?_ (by first | (simp; done) | (simp; omega) | omega) _)⟩
  subst h0; subst h1
  obtain ⟨⟨p0, p1⟩, ⟨p2, p3⟩, ⟨p4, p5⟩, ⟨p6, p7⟩⟩ := ha rfl
  obtain ⟨⟨q0, q1⟩, ⟨q2, q3⟩, ⟨q4, q5⟩, ⟨q6, q7⟩⟩ := hb rfl
  dsimp only at p0 p1 p2 p3 p4 p5 p6 p7 q0 q1 q2 q3 q4 q5 q6 q7
  have I0 := Lib.hid (fun W => ainyear_any a0 a1 a2 a3 0 b0 b1 b2 b3 0 0 W (by omega) (by omega) (by omega) (by omega) (by omega) (by omega))
  have I1 := Lib.hid (fun W => ainyear_any a0 a1 a2 a3 0 b0 b1 b2 b3 0 1 W (by omega) (by omega) (by omega) (by omega) (by omega) (by omega))
  have I2 := Lib.hid (fun W => ainyear_any b0 b1 b2 b3 0 a0 a1 a2 a3 0 1 W (by omega) (by omega) (by omega) (by omega) (by omega) (by omega))
  have J0 := Lib.hid (fun W => abehind_any a0 a1 a2 a3 0 b0 b1 b2 b3 0 0 W (by omega) (by omega) (by omega) (by omega) (by omega) (by omega))
  have J1 := Lib.hid (fun W => abehind_any b0 b1 b2 b3 0 a0 a1 a2 a3 0 0 W (by omega) (by omega) (by omega) (by omega) (by omega) (by omega))
  have J2 := Lib.hid (fun W => abehind_any a0 a1 a2 a3 0 b0 b1 b2 b3 0 1 W (by omega) (by omega) (by omega) (by omega) (by omega) (by omega))
  have J3 := Lib.hid (fun W => abehind_any b0 b1 b2 b3 0 a0 a1 a2 a3 0 1 W (by omega) (by omega) (by omega) (by omega) (by omega) (by omega))
  have e : Aw.pr (a0, a1, a2, a3, 0) (b0, b1, b2, b3, 0) = if Aw.near (a0, a1, a2, a3, 0) (b0, b1, b2, b3, 0) then 15 else 0 := if_pos ⟨rfl, rfl⟩
  rw [e]
  unfold Aw.near
  generalize Aw.inY (a0, a1, a2, a3, 0) (b0, b1, b2, b3, 0) 0 = i0 at *
  generalize Aw.inY (a0, a1, a2, a3, 0) (b0, b1, b2, b3, 0) 1 = i1 at *
  generalize Aw.inY (b0, b1, b2, b3, 0) (a0, a1, a2, a3, 0) 1 = i2 at *
  generalize Aw.isB (a0, a1, a2, a3, 0) (b0, b1, b2, b3, 0) 0 = j0 at *
  generalize Aw.isB (b0, b1, b2, b3, 0) (a0, a1, a2, a3, 0) 0 = j1 at *
  generalize Aw.isB (a0, a1, a2, a3, 0) (b0, b1, b2, b3, 0) 1 = j2 at *
  generalize Aw.isB (b0, b1, b2, b3, 0) (a0, a1, a2, a3, 0) 1 = j3 at *
  clear ha hb e p0 p1 p2 p3 p4 p5 p6 p7 q0 q1 q2 q3 q4 q5 q6 q7
  obtain ⟨c0, hc0⟩ : ∃ b : Bool, b = (i0 && (!j0 && !j1)) := ⟨_, rfl⟩
  obtain ⟨c1, hc1⟩ : ∃ b : Bool, b = (i1 && !j2) := ⟨_, rfl⟩
  obtain ⟨c2, hc2⟩ : ∃ b : Bool, b = (i2 && !j3) := ⟨_, rfl⟩
  rw [← hc0, ← hc1, ← hc2]
  have H0 := Lib.hid hc0; have H1 := Lib.hid hc1; have H2 := Lib.hid hc2
  clear hc0 hc1 hc2
  go_enter Try.func16, Try.ntmps16
  go_upto_region 3 with (fail)
  refine wp_named ?_; intro w1 hw1
  have d1 : Below w.heap.size w w1 := by rw [hw1]; exact (by repeat (first | exact Below.refl _ _ | refine below_drewN ?_ _ | refine Below.drew ?_ | refine Below.setCell ?_ (by first | (simp; done) | (simp; omega) | omega) _ | refine Below.alloc ?_ (by first | (simp; done) | (simp; omega) | omega) _))
  have B1 := Lib.hid d1
  have X1 : Bk5 w1 (w.heap.size) (.int .i64 a0) (.int .i64 a1) (.int .i64 a2) (.int .i64 a3) (.int .i64 0) := by rw [hw1]; exact ⟨by simp <;> omega, by intro j; simp [go_sem], by simp [go_sem], by simp [go_sem], by simp [go_sem], by simp [go_sem], by simp [go_sem]⟩
  have Y1 : Bk5 w1 (w.heap.size + 1) (.int .i64 b0) (.int .i64 b1) (.int .i64 b2) (.int .i64 b3) (.int .i64 0) := by rw [hw1]; exact ⟨by simp <;> omega, by intro j; simp [go_sem], by simp [go_sem], by simp [go_sem], by simp [go_sem], by simp [go_sem], by simp [go_sem]⟩
  clear d1 hw1
  go_cut [14] from 15 (fun x wx => x = .bool c0 ∧ Below w.heap.size w wx ∧ Bk5 wx w.heap.size (.int .i64 a0) (.int .i64 a1) (.int .i64 a2) (.int .i64 a3) (.int .i64 0) ∧ Bk5 wx (w.heap.size + 1) (.int .i64 b0) (.int .i64 b1) (.int .i64 b2) (.int .i64 b3) (.int .i64 0))
  case first =>
    cases i0
    ·
      have cX_b := X1.hb
      have cX_f := X1.fz
      have cX_0 := X1.k0
      have cX_1 := X1.k1
      have cX_2 := X1.k2
      have cX_3 := X1.k3
      have cX_4 := X1.k4
      have cY_b := Y1.hb
      have cY_f := Y1.fz
      have cY_0 := Y1.k0
      have cY_1 := Y1.k1
      have cY_2 := Y1.k2
      have cY_3 := Y1.k3
      have cY_4 := Y1.k4
      go_wp2_with fail
      clear cX_b cX_f cX_0 cX_1 cX_2 cX_3 cX_4 cY_b cY_f cY_0 cY_1 cY_2 cY_3 cY_4
      refine (I0.out _).mono ?_; rintro e w2 ⟨rfl, b2⟩
      have d2 : Below w1.heap.size w1 w2 := below_step (by repeat (first | exact Below.refl _ _ | refine below_drewN ?_ _ | refine Below.drew ?_ | refine Below.setCell ?_ (by first | (simp; done) | (simp; omega) | omega) _ | refine Below.alloc ?_ (by first | (simp; done) | (simp; omega) | omega) _)) b2
      have B2 := Lib.hid (below_step B1.out d2)
      have X2 := X1.keep d2
      have Y2 := Y1.keep d2
      clear X1 Y1 b2 d2 B1
      have cX_b := X2.hb
      have cX_f := X2.fz
      have cX_0 := X2.k0
      have cX_1 := X2.k1
      have cX_2 := X2.k2
      have cX_3 := X2.k3
      have cX_4 := X2.k4
      have cY_b := Y2.hb
      have cY_f := Y2.fz
      have cY_0 := Y2.k0
      have cY_1 := Y2.k1
      have cY_2 := Y2.k2
      have cY_3 := Y2.k3
      have cY_4 := Y2.k4
      go_wp2_with fail
      clear cX_b cX_f cX_0 cX_1 cX_2 cX_3 cX_4 cY_b cY_f cY_0 cY_1 cY_2 cY_3 cY_4
      go_meet
      exact ⟨by rw [H0.out]; rfl, B2.out, X2, Y2⟩
    · cases j0
      · cases j1
        ·
          have cX_b := X1.hb
          have cX_f := X1.fz
          have cX_0 := X1.k0
          have cX_1 := X1.k1
          have cX_2 := X1.k2
          have cX_3 := X1.k3
          have cX_4 := X1.k4
          have cY_b := Y1.hb
          have cY_f := Y1.fz
          have cY_0 := Y1.k0
          have cY_1 := Y1.k1
          have cY_2 := Y1.k2
          have cY_3 := Y1.k3
          have cY_4 := Y1.k4
          go_wp2_with fail
          clear cX_b cX_f cX_0 cX_1 cX_2 cX_3 cX_4 cY_b cY_f cY_0 cY_1 cY_2 cY_3 cY_4
          refine (I0.out _).mono ?_; rintro e w2 ⟨rfl, b2⟩
          have d2 : Below w1.heap.size w1 w2 := below_step (by repeat (first | exact Below.refl _ _ | refine below_drewN ?_ _ | refine Below.drew ?_ | refine Below.setCell ?_ (by first | (simp; done) | (simp; omega) | omega) _ | refine Below.alloc ?_ (by first | (simp; done) | (simp; omega) | omega) _)) b2
          have B2 := Lib.hid (below_step B1.out d2)
          have X2 := X1.keep d2
          have Y2 := Y1.keep d2
          clear X1 Y1 b2 d2 B1
          have cX_b := X2.hb
          have cX_f := X2.fz
          have cX_0 := X2.k0
          have cX_1 := X2.k1
          have cX_2 := X2.k2
          have cX_3 := X2.k3
          have cX_4 := X2.k4
          have cY_b := Y2.hb
          have cY_f := Y2.fz
          have cY_0 := Y2.k0
          have cY_1 := Y2.k1
          have cY_2 := Y2.k2
          have cY_3 := Y2.k3
          have cY_4 := Y2.k4
          go_wp2_with fail
          clear cX_b cX_f cX_0 cX_1 cX_2 cX_3 cX_4 cY_b cY_f cY_0 cY_1 cY_2 cY_3 cY_4
          refine (J0.out _).mono ?_; rintro e w3 ⟨rfl, b3⟩
          have d3 : Below w2.heap.size w2 w3 := below_step (by repeat (first | exact Below.refl _ _ | refine below_drewN ?_ _ | refine Below.drew ?_ | refine Below.setCell ?_ (by first | (simp; done) | (simp; omega) | omega) _ | refine Below.alloc ?_ (by first | (simp; done) | (simp; omega) | omega) _)) b3
          have B3 := Lib.hid (below_step B2.out d3)
          have X3 := X2.keep d3
          have Y3 := Y2.keep d3
          clear X2 Y2 b3 d3 B2
          have cX_b := X3.hb
          have cX_f := X3.fz
          have cX_0 := X3.k0
          have cX_1 := X3.k1
          have cX_2 := X3.k2
          have cX_3 := X3.k3
          have cX_4 := X3.k4
          have cY_b := Y3.hb
          have cY_f := Y3.fz
          have cY_0 := Y3.k0
          have cY_1 := Y3.k1
          have cY_2 := Y3.k2
          have cY_3 := Y3.k3
          have cY_4 := Y3.k4
          go_wp2_with fail
          clear cX_b cX_f cX_0 cX_1 cX_2 cX_3 cX_4 cY_b cY_f cY_0 cY_1 cY_2 cY_3 cY_4
          refine (J1.out _).mono ?_; rintro e w4 ⟨rfl, b4⟩
          have d4 : Below w3.heap.size w3 w4 := below_step (by repeat (first | exact Below.refl _ _ | refine below_drewN ?_ _ | refine Below.drew ?_ | refine Below.setCell ?_ (by first | (simp; done) | (simp; omega) | omega) _ | refine Below.alloc ?_ (by first | (simp; done) | (simp; omega) | omega) _)) b4
          have B4 := Lib.hid (below_step B3.out d4)
          have X4 := X3.keep d4
          have Y4 := Y3.keep d4
          clear X3 Y3 b4 d4 B3
          have cX_b := X4.hb
          have cX_f := X4.fz
          have cX_0 := X4.k0
          have cX_1 := X4.k1
          have cX_2 := X4.k2
          have cX_3 := X4.k3
          have cX_4 := X4.k4
          have cY_b := Y4.hb
          have cY_f := Y4.fz
          have cY_0 := Y4.k0
          have cY_1 := Y4.k1
          have cY_2 := Y4.k2
          have cY_3 := Y4.k3
          have cY_4 := Y4.k4
          go_wp2_with fail
          clear cX_b cX_f cX_0 cX_1 cX_2 cX_3 cX_4 cY_b cY_f cY_0 cY_1 cY_2 cY_3 cY_4
          go_meet
          exact ⟨by rw [H0.out]; rfl, B4.out, X4, Y4⟩
        ·
          have cX_b := X1.hb
          have cX_f := X1.fz
          have cX_0 := X1.k0
          have cX_1 := X1.k1
          have cX_2 := X1.k2
          have cX_3 := X1.k3
          have cX_4 := X1.k4
          have cY_b := Y1.hb
          have cY_f := Y1.fz
          have cY_0 := Y1.k0
          have cY_1 := Y1.k1
          have cY_2 := Y1.k2
          have cY_3 := Y1.k3
          have cY_4 := Y1.k4
          go_wp2_with fail
          clear cX_b cX_f cX_0 cX_1 cX_2 cX_3 cX_4 cY_b cY_f cY_0 cY_1 cY_2 cY_3 cY_4
          refine (I0.out _).mono ?_; rintro e w2 ⟨rfl, b2⟩
          have d2 : Below w1.heap.size w1 w2 := below_step (by repeat (first | exact Below.refl _ _ | refine below_drewN ?_ _ | refine Below.drew ?_ | refine Below.setCell ?_ (by first | (simp; done) | (simp; omega) | omega) _ | refine Below.alloc ?_ (by first | (simp; done) | (simp; omega) | omega) _)) b2
          have B2 := Lib.hid (below_step B1.out d2)
          have X2 := X1.keep d2
          have Y2 := Y1.keep d2
          clear X1 Y1 b2 d2 B1
          have cX_b := X2.hb
          have cX_f := X2.fz
          have cX_0 := X2.k0
          have cX_1 := X2.k1
          have cX_2 := X2.k2
          have cX_3 := X2.k3
          have cX_4 := X2.k4
          have cY_b := Y2.hb
          have cY_f := Y2.fz
          have cY_0 := Y2.k0
          have cY_1 := Y2.k1
          have cY_2 := Y2.k2
          have cY_3 := Y2.k3
          have cY_4 := Y2.k4
          go_wp2_with fail
          clear cX_b cX_f cX_0 cX_1 cX_2 cX_3 cX_4 cY_b cY_f cY_0 cY_1 cY_2 cY_3 cY_4
          refine (J0.out _).mono ?_; rintro e w3 ⟨rfl, b3⟩
          have d3 : Below w2.heap.size w2 w3 := below_step (by repeat (first | exact Below.refl _ _ | refine below_drewN ?_ _ | refine Below.drew ?_ | refine Below.setCell ?_ (by first | (simp; done) | (simp; omega) | omega) _ | refine Below.alloc ?_ (by first | (simp; done) | (simp; omega) | omega) _)) b3
          have B3 := Lib.hid (below_step B2.out d3)
          have X3 := X2.keep d3
          have Y3 := Y2.keep d3
          clear X2 Y2 b3 d3 B2
          have cX_b := X3.hb
          have cX_f := X3.fz
          have cX_0 := X3.k0
          have cX_1 := X3.k1
          have cX_2 := X3.k2
          have cX_3 := X3.k3
          have cX_4 := X3.k4
          have cY_b := Y3.hb
          have cY_f := Y3.fz
          have cY_0 := Y3.k0
          have cY_1 := Y3.k1
          have cY_2 := Y3.k2
          have cY_3 := Y3.k3
          have cY_4 := Y3.k4
          go_wp2_with fail
          clear cX_b cX_f cX_0 cX_1 cX_2 cX_3 cX_4 cY_b cY_f cY_0 cY_1 cY_2 cY_3 cY_4
          refine (J1.out _).mono ?_; rintro e w4 ⟨rfl, b4⟩
          have d4 : Below w3.heap.size w3 w4 := below_step (by repeat (first | exact Below.refl _ _ | refine below_drewN ?_ _ | refine Below.drew ?_ | refine Below.setCell ?_ (by first | (simp; done) | (simp; omega) | omega) _ | refine Below.alloc ?_ (by first | (simp; done) | (simp; omega) | omega) _)) b4
          have B4 := Lib.hid (below_step B3.out d4)
          have X4 := X3.keep d4
          have Y4 := Y3.keep d4
          clear X3 Y3 b4 d4 B3
          have cX_b := X4.hb
          have cX_f := X4.fz
          have cX_0 := X4.k0
          have cX_1 := X4.k1
          have cX_2 := X4.k2
          have cX_3 := X4.k3
          have cX_4 := X4.k4
          have cY_b := Y4.hb
          have cY_f := Y4.fz
          have cY_0 := Y4.k0
          have cY_1 := Y4.k1
          have cY_2 := Y4.k2
          have cY_3 := Y4.k3
          have cY_4 := Y4.k4
          go_wp2_with fail
          clear cX_b cX_f cX_0 cX_1 cX_2 cX_3 cX_4 cY_b cY_f cY_0 cY_1 cY_2 cY_3 cY_4
          go_meet
          exact ⟨by rw [H0.out]; rfl, B4.out, X4, Y4⟩
      ·
        have cX_b := X1.hb
        have cX_f := X1.fz
        have cX_0 := X1.k0
        have cX_1 := X1.k1
        have cX_2 := X1.k2
        have cX_3 := X1.k3
        have cX_4 := X1.k4
        have cY_b := Y1.hb
        have cY_f := Y1.fz
        have cY_0 := Y1.k0
        have cY_1 := Y1.k1
        have cY_2 := Y1.k2
        have cY_3 := Y1.k3
        have cY_4 := Y1.k4
        go_wp2_with fail
        clear cX_b cX_f cX_0 cX_1 cX_2 cX_3 cX_4 cY_b cY_f cY_0 cY_1 cY_2 cY_3 cY_4
        refine (I0.out _).mono ?_; rintro e w2 ⟨rfl, b2⟩
        have d2 : Below w1.heap.size w1 w2 := below_step (by repeat (first | exact Below.refl _ _ | refine below_drewN ?_ _ | refine Below.drew ?_ | refine Below.setCell ?_ (by first | (simp; done) | (simp; omega) | omega) _ | refine Below.alloc ?_ (by first | (simp; done) | (simp; omega) | omega) _)) b2
        have B2 := Lib.hid (below_step B1.out d2)
        have X2 := X1.keep d2
        have Y2 := Y1.keep d2
        clear X1 Y1 b2 d2 B1
        have cX_b := X2.hb
        have cX_f := X2.fz
        have cX_0 := X2.k0
        have cX_1 := X2.k1
        have cX_2 := X2.k2
        have cX_3 := X2.k3
        have cX_4 := X2.k4
        have cY_b := Y2.hb
        have cY_f := Y2.fz
        have cY_0 := Y2.k0
        have cY_1 := Y2.k1
        have cY_2 := Y2.k2
        have cY_3 := Y2.k3
        have cY_4 := Y2.k4
        go_wp2_with fail
        clear cX_b cX_f cX_0 cX_1 cX_2 cX_3 cX_4 cY_b cY_f cY_0 cY_1 cY_2 cY_3 cY_4
        refine (J0.out _).mono ?_; rintro e w3 ⟨rfl, b3⟩
        have d3 : Below w2.heap.size w2 w3 := below_step (by repeat (first | exact Below.refl _ _ | refine below_drewN ?_ _ | refine Below.drew ?_ | refine Below.setCell ?_ (by first | (simp; done) | (simp; omega) | omega) _ | refine Below.alloc ?_ (by first | (simp; done) | (simp; omega) | omega) _)) b3
        have B3 := Lib.hid (below_step B2.out d3)
        have X3 := X2.keep d3
        have Y3 := Y2.keep d3
        clear X2 Y2 b3 d3 B2
        have cX_b := X3.hb
        have cX_f := X3.fz
        have cX_0 := X3.k0
        have cX_1 := X3.k1
        have cX_2 := X3.k2
        have cX_3 := X3.k3
        have cX_4 := X3.k4
        have cY_b := Y3.hb
        have cY_f := Y3.fz
        have cY_0 := Y3.k0
        have cY_1 := Y3.k1
        have cY_2 := Y3.k2
        have cY_3 := Y3.k3
        have cY_4 := Y3.k4
        go_wp2_with fail
        clear cX_b cX_f cX_0 cX_1 cX_2 cX_3 cX_4 cY_b cY_f cY_0 cY_1 cY_2 cY_3 cY_4
        go_meet
        exact ⟨by rw [H0.out]; rfl, B3.out, X3, Y3⟩
  obtain ⟨rfl, b20, X20, Y20⟩ := hcut
  have B20 := Lib.hid b20
  clear b20 X1 Y1 B1
  obtain ⟨w20, hw20⟩ : ∃ x, x = wc := ⟨_, rfl⟩
  subst hw20
  cases c0
  case true =>
    go_wp2_with fail
    go_ret
    exact ⟨by simp, B20.out⟩
  go_upto_region 4 with (fail)
  go_cut [14] from 15 (fun x wx => x = .bool c1 ∧ Below w.heap.size w wx ∧ Bk5 wx w.heap.size (.int .i64 a0) (.int .i64 a1) (.int .i64 a2) (.int .i64 a3) (.int .i64 0) ∧ Bk5 wx (w.heap.size + 1) (.int .i64 b0) (.int .i64 b1) (.int .i64 b2) (.int .i64 b3) (.int .i64 0))
  case first =>
    cases i1
    ·
      have cX_b := X20.hb
      have cX_f := X20.fz
      have cX_0 := X20.k0
      have cX_1 := X20.k1
      have cX_2 := X20.k2
      have cX_3 := X20.k3
      have cX_4 := X20.k4
      have cY_b := Y20.hb
      have cY_f := Y20.fz
      have cY_0 := Y20.k0
      have cY_1 := Y20.k1
      have cY_2 := Y20.k2
      have cY_3 := Y20.k3
      have cY_4 := Y20.k4
      go_wp2_with fail
      clear cX_b cX_f cX_0 cX_1 cX_2 cX_3 cX_4 cY_b cY_f cY_0 cY_1 cY_2 cY_3 cY_4
      refine (I1.out _).mono ?_; rintro e w21 ⟨rfl, b21⟩
      have d21 : Below w20.heap.size w20 w21 := below_step (by repeat (first | exact Below.refl _ _ | refine below_drewN ?_ _ | refine Below.drew ?_ | refine Below.setCell ?_ (by first | (simp; done) | (simp; omega) | omega) _ | refine Below.alloc ?_ (by first | (simp; done) | (simp; omega) | omega) _)) b21
      have B21 := Lib.hid (below_step B20.out d21)
      have X21 := X20.keep d21
      have Y21 := Y20.keep d21
      clear X20 Y20 b21 d21 B20
      have cX_b := X21.hb
      have cX_f := X21.fz
      have cX_0 := X21.k0
      have cX_1 := X21.k1
      have cX_2 := X21.k2
      have cX_3 := X21.k3
      have cX_4 := X21.k4
      have cY_b := Y21.hb
      have cY_f := Y21.fz
      have cY_0 := Y21.k0
      have cY_1 := Y21.k1
      have cY_2 := Y21.k2
      have cY_3 := Y21.k3
      have cY_4 := Y21.k4
      go_wp2_with fail
      clear cX_b cX_f cX_0 cX_1 cX_2 cX_3 cX_4 cY_b cY_f cY_0 cY_1 cY_2 cY_3 cY_4
      go_meet
      exact ⟨by rw [H1.out]; rfl, B21.out, X21, Y21⟩
    · cases j2
      ·
        have cX_b := X20.hb
        have cX_f := X20.fz
        have cX_0 := X20.k0
        have cX_1 := X20.k1
        have cX_2 := X20.k2
        have cX_3 := X20.k3
        have cX_4 := X20.k4
        have cY_b := Y20.hb
        have cY_f := Y20.fz
        have cY_0 := Y20.k0
        have cY_1 := Y20.k1
        have cY_2 := Y20.k2
        have cY_3 := Y20.k3
        have cY_4 := Y20.k4
        go_wp2_with fail
        clear cX_b cX_f cX_0 cX_1 cX_2 cX_3 cX_4 cY_b cY_f cY_0 cY_1 cY_2 cY_3 cY_4
        refine (I1.out _).mono ?_; rintro e w21 ⟨rfl, b21⟩
        have d21 : Below w20.heap.size w20 w21 := below_step (by repeat (first | exact Below.refl _ _ | refine below_drewN ?_ _ | refine Below.drew ?_ | refine Below.setCell ?_ (by first | (simp; done) | (simp; omega) | omega) _ | refine Below.alloc ?_ (by first | (simp; done) | (simp; omega) | omega) _)) b21
        have B21 := Lib.hid (below_step B20.out d21)
        have X21 := X20.keep d21
        have Y21 := Y20.keep d21
        clear X20 Y20 b21 d21 B20
        have cX_b := X21.hb
        have cX_f := X21.fz
        have cX_0 := X21.k0
        have cX_1 := X21.k1
        have cX_2 := X21.k2
        have cX_3 := X21.k3
        have cX_4 := X21.k4
        have cY_b := Y21.hb
        have cY_f := Y21.fz
        have cY_0 := Y21.k0
        have cY_1 := Y21.k1
        have cY_2 := Y21.k2
        have cY_3 := Y21.k3
        have cY_4 := Y21.k4
        go_wp2_with fail
        clear cX_b cX_f cX_0 cX_1 cX_2 cX_3 cX_4 cY_b cY_f cY_0 cY_1 cY_2 cY_3 cY_4
        refine (J2.out _).mono ?_; rintro e w22 ⟨rfl, b22⟩
        have d22 : Below w21.heap.size w21 w22 := below_step (by repeat (first | exact Below.refl _ _ | refine below_drewN ?_ _ | refine Below.drew ?_ | refine Below.setCell ?_ (by first | (simp; done) | (simp; omega) | omega) _ | refine Below.alloc ?_ (by first | (simp; done) | (simp; omega) | omega) _)) b22
        have B22 := Lib.hid (below_step B21.out d22)
        have X22 := X21.keep d22
        have Y22 := Y21.keep d22
        clear X21 Y21 b22 d22 B21
        have cX_b := X22.hb
        have cX_f := X22.fz
        have cX_0 := X22.k0
        have cX_1 := X22.k1
        have cX_2 := X22.k2
        have cX_3 := X22.k3
        have cX_4 := X22.k4
        have cY_b := Y22.hb
        have cY_f := Y22.fz
        have cY_0 := Y22.k0
        have cY_1 := Y22.k1
        have cY_2 := Y22.k2
        have cY_3 := Y22.k3
        have cY_4 := Y22.k4
        go_wp2_with fail
        clear cX_b cX_f cX_0 cX_1 cX_2 cX_3 cX_4 cY_b cY_f cY_0 cY_1 cY_2 cY_3 cY_4
        go_meet
        exact ⟨by rw [H1.out]; rfl, B22.out, X22, Y22⟩
      ·
        have cX_b := X20.hb
        have cX_f := X20.fz
        have cX_0 := X20.k0
        have cX_1 := X20.k1
        have cX_2 := X20.k2
        have cX_3 := X20.k3
        have cX_4 := X20.k4
        have cY_b := Y20.hb
        have cY_f := Y20.fz
        have cY_0 := Y20.k0
        have cY_1 := Y20.k1
        have cY_2 := Y20.k2
        have cY_3 := Y20.k3
        have cY_4 := Y20.k4
        go_wp2_with fail
        clear cX_b cX_f cX_0 cX_1 cX_2 cX_3 cX_4 cY_b cY_f cY_0 cY_1 cY_2 cY_3 cY_4
        refine (I1.out _).mono ?_; rintro e w21 ⟨rfl, b21⟩
        have d21 : Below w20.heap.size w20 w21 := below_step (by repeat (first | exact Below.refl _ _ | refine below_drewN ?_ _ | refine Below.drew ?_ | refine Below.setCell ?_ (by first | (simp; done) | (simp; omega) | omega) _ | refine Below.alloc ?_ (by first | (simp; done) | (simp; omega) | omega) _)) b21
        have B21 := Lib.hid (below_step B20.out d21)
        have X21 := X20.keep d21
        have Y21 := Y20.keep d21
        clear X20 Y20 b21 d21 B20
        have cX_b := X21.hb
        have cX_f := X21.fz
        have cX_0 := X21.k0
        have cX_1 := X21.k1
        have cX_2 := X21.k2
        have cX_3 := X21.k3
        have cX_4 := X21.k4
        have cY_b := Y21.hb
        have cY_f := Y21.fz
        have cY_0 := Y21.k0
        have cY_1 := Y21.k1
        have cY_2 := Y21.k2
        have cY_3 := Y21.k3
        have cY_4 := Y21.k4
        go_wp2_with fail
        clear cX_b cX_f cX_0 cX_1 cX_2 cX_3 cX_4 cY_b cY_f cY_0 cY_1 cY_2 cY_3 cY_4
        refine (J2.out _).mono ?_; rintro e w22 ⟨rfl, b22⟩
        have d22 : Below w21.heap.size w21 w22 := below_step (by repeat (first | exact Below.refl _ _ | refine below_drewN ?_ _ | refine Below.drew ?_ | refine Below.setCell ?_ (by first | (simp; done) | (simp; omega) | omega) _ | refine Below.alloc ?_ (by first | (simp; done) | (simp; omega) | omega) _)) b22
        have B22 := Lib.hid (below_step B21.out d22)
        have X22 := X21.keep d22
        have Y22 := Y21.keep d22
        clear X21 Y21 b22 d22 B21
        have cX_b := X22.hb
        have cX_f := X22.fz
        have cX_0 := X22.k0
        have cX_1 := X22.k1
        have cX_2 := X22.k2
        have cX_3 := X22.k3
        have cX_4 := X22.k4
        have cY_b := Y22.hb
        have cY_f := Y22.fz
        have cY_0 := Y22.k0
        have cY_1 := Y22.k1
        have cY_2 := Y22.k2
        have cY_3 := Y22.k3
        have cY_4 := Y22.k4
        go_wp2_with fail
        clear cX_b cX_f cX_0 cX_1 cX_2 cX_3 cX_4 cY_b cY_f cY_0 cY_1 cY_2 cY_3 cY_4
        go_meet
        exact ⟨by rw [H1.out]; rfl, B22.out, X22, Y22⟩
  obtain ⟨rfl, b30, X30, Y30⟩ := hcut
  have B30 := Lib.hid b30
  clear b30 X20 Y20 B20
  obtain ⟨w30, hw30⟩ : ∃ x, x = wc := ⟨_, rfl⟩
  subst hw30
  cases c1
  case true =>
    go_wp2_with fail
    go_ret
    exact ⟨by simp, B30.out⟩
  go_upto_region 5 with (fail)
  go_cut [14] from 15 (fun x wx => x = .bool c2 ∧ Below w.heap.size w wx ∧ Bk5 wx w.heap.size (.int .i64 a0) (.int .i64 a1) (.int .i64 a2) (.int .i64 a3) (.int .i64 0) ∧ Bk5 wx (w.heap.size + 1) (.int .i64 b0) (.int .i64 b1) (.int .i64 b2) (.int .i64 b3) (.int .i64 0))
  case first =>
    cases i2
    ·
      have cX_b := X30.hb
      have cX_f := X30.fz
      have cX_0 := X30.k0
      have cX_1 := X30.k1
      have cX_2 := X30.k2
      have cX_3 := X30.k3
      have cX_4 := X30.k4
      have cY_b := Y30.hb
      have cY_f := Y30.fz
      have cY_0 := Y30.k0
      have cY_1 := Y30.k1
      have cY_2 := Y30.k2
      have cY_3 := Y30.k3
      have cY_4 := Y30.k4
      go_wp2_with fail
      clear cX_b cX_f cX_0 cX_1 cX_2 cX_3 cX_4 cY_b cY_f cY_0 cY_1 cY_2 cY_3 cY_4
      refine (I2.out _).mono ?_; rintro e w31 ⟨rfl, b31⟩
      have d31 : Below w30.heap.size w30 w31 := below_step (by repeat (first | exact Below.refl _ _ | refine below_drewN ?_ _ | refine Below.drew ?_ | refine Below.setCell ?_ (by first | (simp; done) | (simp; omega) | omega) _ | refine Below.alloc ?_ (by first | (simp; done) | (simp; omega) | omega) _)) b31
      have B31 := Lib.hid (below_step B30.out d31)
      have X31 := X30.keep d31
      have Y31 := Y30.keep d31
      clear X30 Y30 b31 d31 B30
      have cX_b := X31.hb
      have cX_f := X31.fz
      have cX_0 := X31.k0
      have cX_1 := X31.k1
      have cX_2 := X31.k2
      have cX_3 := X31.k3
      have cX_4 := X31.k4
      have cY_b := Y31.hb
      have cY_f := Y31.fz
      have cY_0 := Y31.k0
      have cY_1 := Y31.k1
      have cY_2 := Y31.k2
      have cY_3 := Y31.k3
      have cY_4 := Y31.k4
      go_wp2_with fail
      clear cX_b cX_f cX_0 cX_1 cX_2 cX_3 cX_4 cY_b cY_f cY_0 cY_1 cY_2 cY_3 cY_4
      go_meet
      exact ⟨by rw [H2.out]; rfl, B31.out, X31, Y31⟩
    · cases j3
      ·
        have cX_b := X30.hb
        have cX_f := X30.fz
        have cX_0 := X30.k0
        have cX_1 := X30.k1
        have cX_2 := X30.k2
        have cX_3 := X30.k3
        have cX_4 := X30.k4
        have cY_b := Y30.hb
        have cY_f := Y30.fz
        have cY_0 := Y30.k0
        have cY_1 := Y30.k1
        have cY_2 := Y30.k2
        have cY_3 := Y30.k3
        have cY_4 := Y30.k4
        go_wp2_with fail
        clear cX_b cX_f cX_0 cX_1 cX_2 cX_3 cX_4 cY_b cY_f cY_0 cY_1 cY_2 cY_3 cY_4
        refine (I2.out _).mono ?_; rintro e w31 ⟨rfl, b31⟩
        have d31 : Below w30.heap.size w30 w31 := below_step (by repeat (first | exact Below.refl _ _ | refine below_drewN ?_ _ | refine Below.drew ?_ | refine Below.setCell ?_ (by first | (simp; done) | (simp; omega) | omega) _ | refine Below.alloc ?_ (by first | (simp; done) | (simp; omega) | omega) _)) b31
        have B31 := Lib.hid (below_step B30.out d31)
        have X31 := X30.keep d31
        have Y31 := Y30.keep d31
        clear X30 Y30 b31 d31 B30
        have cX_b := X31.hb
        have cX_f := X31.fz
        have cX_0 := X31.k0
        have cX_1 := X31.k1
        have cX_2 := X31.k2
        have cX_3 := X31.k3
        have cX_4 := X31.k4
        have cY_b := Y31.hb
        have cY_f := Y31.fz
        have cY_0 := Y31.k0
        have cY_1 := Y31.k1
        have cY_2 := Y31.k2
        have cY_3 := Y31.k3
        have cY_4 := Y31.k4
        go_wp2_with fail
        clear cX_b cX_f cX_0 cX_1 cX_2 cX_3 cX_4 cY_b cY_f cY_0 cY_1 cY_2 cY_3 cY_4
        refine (J3.out _).mono ?_; rintro e w32 ⟨rfl, b32⟩
        have d32 : Below w31.heap.size w31 w32 := below_step (by repeat (first | exact Below.refl _ _ | refine below_drewN ?_ _ | refine Below.drew ?_ | refine Below.setCell ?_ (by first | (simp; done) | (simp; omega) | omega) _ | refine Below.alloc ?_ (by first | (simp; done) | (simp; omega) | omega) _)) b32
        have B32 := Lib.hid (below_step B31.out d32)
        have X32 := X31.keep d32
        have Y32 := Y31.keep d32
        clear X31 Y31 b32 d32 B31
        have cX_b := X32.hb
        have cX_f := X32.fz
        have cX_0 := X32.k0
        have cX_1 := X32.k1
        have cX_2 := X32.k2
        have cX_3 := X32.k3
        have cX_4 := X32.k4
        have cY_b := Y32.hb
        have cY_f := Y32.fz
        have cY_0 := Y32.k0
        have cY_1 := Y32.k1
        have cY_2 := Y32.k2
        have cY_3 := Y32.k3
        have cY_4 := Y32.k4
        go_wp2_with fail
        clear cX_b cX_f cX_0 cX_1 cX_2 cX_3 cX_4 cY_b cY_f cY_0 cY_1 cY_2 cY_3 cY_4
        go_meet
        exact ⟨by rw [H2.out]; rfl, B32.out, X32, Y32⟩
      ·
        have cX_b := X30.hb
        have cX_f := X30.fz
        have cX_0 := X30.k0
        have cX_1 := X30.k1
        have cX_2 := X30.k2
        have cX_3 := X30.k3
        have cX_4 := X30.k4
        have cY_b := Y30.hb
        have cY_f := Y30.fz
        have cY_0 := Y30.k0
        have cY_1 := Y30.k1
        have cY_2 := Y30.k2
        have cY_3 := Y30.k3
        have cY_4 := Y30.k4
        go_wp2_with fail
        clear cX_b cX_f cX_0 cX_1 cX_2 cX_3 cX_4 cY_b cY_f cY_0 cY_1 cY_2 cY_3 cY_4
        refine (I2.out _).mono ?_; rintro e w31 ⟨rfl, b31⟩
        have d31 : Below w30.heap.size w30 w31 := below_step (by repeat (first | exact Below.refl _ _ | refine below_drewN ?_ _ | refine Below.drew ?_ | refine Below.setCell ?_ (by first | (simp; done) | (simp; omega) | omega) _ | refine Below.alloc ?_ (by first | (simp; done) | (simp; omega) | omega) _)) b31
        have B31 := Lib.hid (below_step B30.out d31)
        have X31 := X30.keep d31
        have Y31 := Y30.keep d31
        clear X30 Y30 b31 d31 B30
        have cX_b := X31.hb
        have cX_f := X31.fz
        have cX_0 := X31.k0
        have cX_1 := X31.k1
        have cX_2 := X31.k2
        have cX_3 := X31.k3
        have cX_4 := X31.k4
        have cY_b := Y31.hb
        have cY_f := Y31.fz
        have cY_0 := Y31.k0
        have cY_1 := Y31.k1
        have cY_2 := Y31.k2
        have cY_3 := Y31.k3
        have cY_4 := Y31.k4
        go_wp2_with fail
        clear cX_b cX_f cX_0 cX_1 cX_2 cX_3 cX_4 cY_b cY_f cY_0 cY_1 cY_2 cY_3 cY_4
        refine (J3.out _).mono ?_; rintro e w32 ⟨rfl, b32⟩
        have d32 : Below w31.heap.size w31 w32 := below_step (by repeat (first | exact Below.refl _ _ | refine below_drewN ?_ _ | refine Below.drew ?_ | refine Below.setCell ?_ (by first | (simp; done) | (simp; omega) | omega) _ | refine Below.alloc ?_ (by first | (simp; done) | (simp; omega) | omega) _)) b32
        have B32 := Lib.hid (below_step B31.out d32)
        have X32 := X31.keep d32
        have Y32 := Y31.keep d32
        clear X31 Y31 b32 d32 B31
        have cX_b := X32.hb
        have cX_f := X32.fz
        have cX_0 := X32.k0
        have cX_1 := X32.k1
        have cX_2 := X32.k2
        have cX_3 := X32.k3
        have cX_4 := X32.k4
        have cY_b := Y32.hb
        have cY_f := Y32.fz
        have cY_0 := Y32.k0
        have cY_1 := Y32.k1
        have cY_2 := Y32.k2
        have cY_3 := Y32.k3
        have cY_4 := Y32.k4
        go_wp2_with fail
        clear cX_b cX_f cX_0 cX_1 cX_2 cX_3 cX_4 cY_b cY_f cY_0 cY_1 cY_2 cY_3 cY_4
        go_meet
        exact ⟨by rw [H2.out]; rfl, B32.out, X32, Y32⟩
  obtain ⟨rfl, b40, X40, Y40⟩ := hcut
  have B40 := Lib.hid b40
  clear b40 X30 Y30 B30
  obtain ⟨w40, hw40⟩ : ∃ x, x = wc := ⟨_, rfl⟩
  subst hw40
  cases c2
  · go_wp2_with fail
    go_ret
    exact ⟨by simp, B40.out⟩
  · go_wp2_with fail
    go_ret
    exact ⟨by simp, B40.out⟩
set_option maxHeartbeats 4000000 in
set_option maxRecDepth 100000 in
theorem aPair_any (s : ByteArray) (fy ty m k wk d sec base save : Int) (t : ByteArray) (s' : ByteArray) (fy' ty' m' k' wk' d' sec' base' save' : Int) (t' : ByteArray) (w : World) (hs : s.size ≤ maxLen) (ht : t.size ≤ maxLen) (hs' : s'.size ≤ maxLen) (ht' : t'.size ≤ maxLen) :
    Calls Try.prog 7 #[.agg #[.string s, .int .i64 fy, .int .i64 ty, .int .i64 m, .int .i64 k, .int .i64 wk, .int .i64 d, .int .i64 sec, .int .i64 base, .int .i64 save, .string t], .agg #[.string s', .int .i64 fy', .int .i64 ty', .int .i64 m', .int .i64 k', .int .i64 wk', .int .i64 d', .int .i64 sec', .int .i64 base', .int .i64 save', .string t']] w fun e w' => e = .returned (.int .i64 (Aw.pr (Aw.rc (s, fy, ty, m, k, wk, d, sec, base, save, t)) (Aw.rc (s', fy', ty', m', k', wk', d', sec', base', save', t')))) ∧ Below w.heap.size w w' := by
  have AR := Lib.hid (fun W s fy ty m k wk d sec base save t h1 h2 => areach_any s fy ty m k wk d sec base save t W h1 h2)
  have PP := Lib.hid (fun W => apair_any fy ty (Aw.lo (s, fy, ty, m, k, wk, d, sec, base, save, t)) (Aw.hi (s, fy, ty, m, k, wk, d, sec, base, save, t)) (Aw.wy (s, fy, ty, m, k, wk, d, sec, base, save, t)) fy' ty' (Aw.lo (s', fy', ty', m', k', wk', d', sec', base', save', t')) (Aw.hi (s', fy', ty', m', k', wk', d', sec', base', save', t')) (Aw.wy (s', fy', ty', m', k', wk', d', sec', base', save', t')) W (Aw.ok_rc (s, fy, ty, m, k, wk, d, sec, base, save, t)) (Aw.ok_rc (s', fy', ty', m', k', wk', d', sec', base', save', t')))
  have e : Aw.pr (Aw.rc (s, fy, ty, m, k, wk, d, sec, base, save, t)) (Aw.rc (s', fy', ty', m', k', wk', d', sec', base', save', t')) = Aw.pr (fy, ty, Aw.lo (s, fy, ty, m, k, wk, d, sec, base, save, t), Aw.hi (s, fy, ty, m, k, wk, d, sec, base, save, t), Aw.wy (s, fy, ty, m, k, wk, d, sec, base, save, t)) (fy', ty', Aw.lo (s', fy', ty', m', k', wk', d', sec', base', save', t'), Aw.hi (s', fy', ty', m', k', wk', d', sec', base', save', t'), Aw.wy (s', fy', ty', m', k', wk', d', sec', base', save', t')) := rfl
  rw [e]
  generalize Aw.pr (fy, ty, Aw.lo (s, fy, ty, m, k, wk, d, sec, base, save, t), Aw.hi (s, fy, ty, m, k, wk, d, sec, base, save, t), Aw.wy (s, fy, ty, m, k, wk, d, sec, base, save, t)) (fy', ty', Aw.lo (s', fy', ty', m', k', wk', d', sec', base', save', t'), Aw.hi (s', fy', ty', m', k', wk', d', sec', base', save', t'), Aw.wy (s', fy', ty', m', k', wk', d', sec', base', save', t')) = q at *
  clear e
  go_enter Try.func7, Try.ntmps7
  go_upto_region 1 with (fail)
  refine wp_named ?_; intro w1 hw1
  have d1 : Below w.heap.size w w1 := by rw [hw1]; exact (by repeat (first | exact Below.refl _ _ | refine below_drewN ?_ _ | refine Below.drew ?_ | refine Below.setCell ?_ (by first | (simp; done) | (simp; omega) | omega) _ | refine Below.alloc ?_ (by first | (simp; done) | (simp; omega) | omega) _))
  have B1 := Lib.hid d1
  have X1 : Bk11 w1 (w.heap.size) (.string s) (.int .i64 fy) (.int .i64 ty) (.int .i64 m) (.int .i64 k) (.int .i64 wk) (.int .i64 d) (.int .i64 sec) (.int .i64 base) (.int .i64 save) (.string t) := by rw [hw1]; exact ⟨by simp <;> omega, by intro j; simp [go_sem], by simp [go_sem], by simp [go_sem], by simp [go_sem], by simp [go_sem], by simp [go_sem], by simp [go_sem], by simp [go_sem], by simp [go_sem], by simp [go_sem], by simp [go_sem], by simp [go_sem]⟩
  have Y1 : Bk11 w1 (w.heap.size + 1) (.string s') (.int .i64 fy') (.int .i64 ty') (.int .i64 m') (.int .i64 k') (.int .i64 wk') (.int .i64 d') (.int .i64 sec') (.int .i64 base') (.int .i64 save') (.string t') := by rw [hw1]; exact ⟨by simp <;> omega, by intro j; simp [go_sem], by simp [go_sem], by simp [go_sem], by simp [go_sem], by simp [go_sem], by simp [go_sem], by simp [go_sem], by simp [go_sem], by simp [go_sem], by simp [go_sem], by simp [go_sem], by simp [go_sem]⟩
  clear d1 hw1
  have cX_b := X1.hb
  have cX_f := X1.fz
  have cX_0 := X1.k0
  have cX_1 := X1.k1
  have cX_2 := X1.k2
  have cX_3 := X1.k3
  have cX_4 := X1.k4
  have cX_5 := X1.k5
  have cX_6 := X1.k6
  have cX_7 := X1.k7
  have cX_8 := X1.k8
  have cX_9 := X1.k9
  have cX_10 := X1.k10
  have cY_b := Y1.hb
  have cY_f := Y1.fz
  have cY_0 := Y1.k0
  have cY_1 := Y1.k1
  have cY_2 := Y1.k2
  have cY_3 := Y1.k3
  have cY_4 := Y1.k4
  have cY_5 := Y1.k5
  have cY_6 := Y1.k6
  have cY_7 := Y1.k7
  have cY_8 := Y1.k8
  have cY_9 := Y1.k9
  have cY_10 := Y1.k10
  go_wp2_with fail
  clear cX_b cX_f cX_0 cX_1 cX_2 cX_3 cX_4 cX_5 cX_6 cX_7 cX_8 cX_9 cX_10 cY_b cY_f cY_0 cY_1 cY_2 cY_3 cY_4 cY_5 cY_6 cY_7 cY_8 cY_9 cY_10
  have qX_0 := cell_regrown X1.k0
  have qX_1 := cell_regrown X1.k1
  have qX_2 := cell_regrown X1.k2
  have qX_3 := cell_regrown X1.k3
  have qX_4 := cell_regrown X1.k4
  have qX_5 := cell_regrown X1.k5
  have qX_6 := cell_regrown X1.k6
  have qX_7 := cell_regrown X1.k7
  have qX_8 := cell_regrown X1.k8
  have qX_9 := cell_regrown X1.k9
  have qX_10 := cell_regrown X1.k10
  have qY_0 := cell_regrown Y1.k0
  have qY_1 := cell_regrown Y1.k1
  have qY_2 := cell_regrown Y1.k2
  have qY_3 := cell_regrown Y1.k3
  have qY_4 := cell_regrown Y1.k4
  have qY_5 := cell_regrown Y1.k5
  have qY_6 := cell_regrown Y1.k6
  have qY_7 := cell_regrown Y1.k7
  have qY_8 := cell_regrown Y1.k8
  have qY_9 := cell_regrown Y1.k9
  have qY_10 := cell_regrown Y1.k10
  refine wp_region_qb (w := w1) (by kernel_rfl) (by kernel_rfl) (by repeat (first | exact Below.refl _ _ | refine below_drewN ?_ _ | refine Below.drew ?_ | refine Below.setCell ?_ (by first | (simp; done) | (simp; omega) | omega) _ | refine Below.alloc ?_ (by first | (simp; done) | (simp; omega) | omega) _)) ?_
  repeat (any_goals (first | go_big_quiet_step (first | (go_at_call 17; exact Calls.regrown_of (AR.out _ _ _ _ _ _ _ _ _ _ _ _ (by assumption) (by assumption))) | (go_at_call 16; exact Calls.regrown_of (PP.out _))) | quiet_step (first | (go_at_call 17; exact Calls.regrown_of (AR.out _ _ _ _ _ _ _ _ _ _ _ _ (by assumption) (by assumption))) | (go_at_call 16; exact Calls.regrown_of (PP.out _)))))
  refine wpQuiet_nil ?_
  intro w2 hq
  have b2 : Below w1.heap.size w1 w2 := by obtain ⟨p, hq⟩ := hq; rw [hq]; exact below_regrown _ _ _
  clear hq qX_0 qX_1 qX_2 qX_3 qX_4 qX_5 qX_6 qX_7 qX_8 qX_9 qX_10 qY_0 qY_1 qY_2 qY_3 qY_4 qY_5 qY_6 qY_7 qY_8 qY_9 qY_10
  have d2 : Below w1.heap.size w1 w2 := below_step (by repeat (first | exact Below.refl _ _ | refine below_drewN ?_ _ | refine Below.drew ?_ | refine Below.setCell ?_ (by first | (simp; done) | (simp; omega) | omega) _ | refine Below.alloc ?_ (by first | (simp; done) | (simp; omega) | omega) _)) b2
  have B2 := Lib.hid (below_step B1.out d2)
  have X2 := X1.keep d2
  have Y2 := Y1.keep d2
  clear X1 Y1 b2 d2 B1
  have cX_b := X2.hb
  have cX_f := X2.fz
  have cX_0 := X2.k0
  have cX_1 := X2.k1
  have cX_2 := X2.k2
  have cX_3 := X2.k3
  have cX_4 := X2.k4
  have cX_5 := X2.k5
  have cX_6 := X2.k6
  have cX_7 := X2.k7
  have cX_8 := X2.k8
  have cX_9 := X2.k9
  have cX_10 := X2.k10
  have cY_b := Y2.hb
  have cY_f := Y2.fz
  have cY_0 := Y2.k0
  have cY_1 := Y2.k1
  have cY_2 := Y2.k2
  have cY_3 := Y2.k3
  have cY_4 := Y2.k4
  have cY_5 := Y2.k5
  have cY_6 := Y2.k6
  have cY_7 := Y2.k7
  have cY_8 := Y2.k8
  have cY_9 := Y2.k9
  have cY_10 := Y2.k10
  go_wp2_with fail
  clear cX_b cX_f cX_0 cX_1 cX_2 cX_3 cX_4 cX_5 cX_6 cX_7 cX_8 cX_9 cX_10 cY_b cY_f cY_0 cY_1 cY_2 cY_3 cY_4 cY_5 cY_6 cY_7 cY_8 cY_9 cY_10
  go_ret
  exact ⟨rfl, (by have hz := B2.out.size; repeat (first | exact B2.out | refine below_drewN ?_ _ | refine Below.drew ?_ | refine Below.setCell ?_ (by first | omega | (simp; done) | (simp; omega)) _ | refine Below.alloc ?_ (by first | omega | (simp; done) | (simp; omega)) _))⟩
end Go.Proofs.Ytjnhaabbnbcaeaa
