/- Joined: AwW. -/
import Derived.Test.YtjnhaabbnbcaeaaBx11
import Derived.Test.YtjnhaabbnbcaeaaBx16
import Derived.Test.YtjnhaabbnbcaeaaBx23
/- Rules far enough from each other: ApartTells, the walk. -/
set_option linter.unusedVariables false
set_option linter.unusedSimpArgs false
namespace Go.Proofs.Ytjnhaabbnbcaeaa
open Go.RowKit Go.Sort
theorem Aw.light_true {l : List Aw.R} (h : Aw.light l = true) : l.length ≤ 12 ∧ ∀ r ∈ l, r.1.size ≤ 200 ∧ r.2.2.2.2.2.2.2.2.2.2.size ≤ 200 := by
  unfold Aw.light at h
  simp only [Bool.and_eq_true, decide_eq_true_eq, List.all_eq_true] at h
  refine ⟨h.1, fun r hr => ?_⟩
  have := h.2 r hr
  unfold Aw.lightOne at this
  simpa only [Bool.and_eq_true, decide_eq_true_eq] using this
set_option maxHeartbeats 8000000 in
set_option maxRecDepth 100000 in
theorem apart_tells (s : ByteArray) (fy ty m k wk d sec base save : Int) (t : ByteArray) (s' : ByteArray) (fy' ty' m' k' wk' d' sec' base' save' : Int) (t' : ByteArray) (v : Value) (l : List Aw.R) (w : World) (hs : s.size ≤ maxLen) (ht : t.size ≤ maxLen) (hs' : s'.size ≤ maxLen) (ht' : t'.size ≤ maxLen)
    (S : RuV w v l) (hz : ∀ r ∈ l, r.1.size ≤ maxLen ∧ r.2.2.2.2.2.2.2.2.2.2.size ≤ maxLen) (hlen : l.length ≤ maxLen) :
    Calls Try.prog 4 #[.agg #[.string s, .int .i64 fy, .int .i64 ty, .int .i64 m, .int .i64 k, .int .i64 wk, .int .i64 d, .int .i64 sec, .int .i64 base, .int .i64 save, .string t], .agg #[.string s', .int .i64 fy', .int .i64 ty', .int .i64 m', .int .i64 k', .int .i64 wk', .int .i64 d', .int .i64 sec', .int .i64 base', .int .i64 save', .string t'], v] w fun e w' => e = .returned (.bool true) ∧ Below w.heap.size w w' := by
  have LV := Lib.hid lives27
  have LT := Lib.hid (fun v W S => alight_any v [(s, fy, ty, m, k, wk, d, sec, base, save, t), (s', fy', ty', m', k', wk', d', sec', base', save', t')] W S (by intro r hr; simp at hr; rcases hr with rfl | rfl <;> exact ⟨by assumption, by assumption⟩) (by unfold maxLen; simp))
  have LL := Lib.hid (fun W S => alight_any v l W S hz hlen)
  have HS := Lib.hid (fun w0 W T h => two_rules w0 (s, fy, ty, m, k, wk, d, sec, base, save, t) (s', fy', ty', m', k', wk', d', sec', base', save', t') T W h)
  have U0 := Lib.hid S
  have B0 := Lib.hid (Below.refl w.heap.size w)
  have key : Aw.light [(s, fy, ty, m, k, wk, d, sec, base, save, t), (s', fy', ty', m', k', wk', d', sec', base', save', t')] = true → Aw.light l = true → (s.size ≤ 100000 ∧ t.size ≤ 100000) ∧ (s'.size ≤ 100000 ∧ t'.size ≤ 100000) ∧ l.length ≤ 1000000 ∧ ∀ r ∈ l, r.1.size ≤ maxLen ∧ r.2.2.2.2.2.2.2.2.2.2.size ≤ 100000 := by
    intro h1 h2
    have g1 := (Aw.light_true h1).2
    have g2 := Aw.light_true h2
    have ga := g1 (s, fy, ty, m, k, wk, d, sec, base, save, t) (by simp)
    have gb := g1 (s', fy', ty', m', k', wk', d', sec', base', save', t') (by simp)
    dsimp only at ga gb
    exact ⟨⟨by omega, by omega⟩, ⟨by omega, by omega⟩, by omega, fun r hr => ⟨(hz r hr).1, by have := (g2.2 r hr).2; omega⟩⟩
  generalize Aw.light [(s, fy, ty, m, k, wk, d, sec, base, save, t), (s', fy', ty', m', k', wk', d', sec', base', save', t')] = li at LT key
  generalize Aw.light l = lj at LL key
  clear S hlen
  cases li
  · clear key
    go_enter Try.func4, Try.ntmps4
    go_upto_region 1 with (fail)
    refine wp_named ?_; intro w1 hw1
    have d1 : Below w.heap.size w w1 := by rw [hw1]; exact (by repeat (first | exact Below.refl _ _ | refine below_drewN ?_ _ | refine Below.drew ?_ | refine Below.setCell ?_ (by first | (simp; done) | (simp; omega) | omega) _ | refine Below.alloc ?_ (by first | (simp; done) | (simp; omega) | omega) _))
    have B1 := Lib.hid d1
    have U1 := Lib.hid (U0.out.on d1)
    have X1 : Bk11 w1 w.heap.size (.string s) (.int .i64 fy) (.int .i64 ty) (.int .i64 m) (.int .i64 k) (.int .i64 wk) (.int .i64 d) (.int .i64 sec) (.int .i64 base) (.int .i64 save) (.string t) := by rw [hw1]; exact ⟨by simp <;> omega, by intro j; simp [go_sem], by simp [go_sem], by simp [go_sem], by simp [go_sem], by simp [go_sem], by simp [go_sem], by simp [go_sem], by simp [go_sem], by simp [go_sem], by simp [go_sem], by simp [go_sem], by simp [go_sem]⟩
    have Y1 : Bk11 w1 (w.heap.size + 1) (.string s') (.int .i64 fy') (.int .i64 ty') (.int .i64 m') (.int .i64 k') (.int .i64 wk') (.int .i64 d') (.int .i64 sec') (.int .i64 base') (.int .i64 save') (.string t') := by rw [hw1]; exact ⟨by simp <;> omega, by intro j; simp [go_sem], by simp [go_sem], by simp [go_sem], by simp [go_sem], by simp [go_sem], by simp [go_sem], by simp [go_sem], by simp [go_sem], by simp [go_sem], by simp [go_sem], by simp [go_sem], by simp [go_sem]⟩
    clear d1 hw1 B0 U0
    have cX_b := X1.hb
    have cX_f := X1.fz
    have cX_0 := X1.k0
    have cX_1 := X1.k1
    have cX_2 := X1.k2
    have cX_3 := X1.k3
    have cX_4 := X1.k4
    have cX_5 := X1.k5
    have cX_6 := X1.k6
    have cX_7 := X1.k7
    have cX_8 := X1.k8
    have cX_9 := X1.k9
    have cX_10 := X1.k10
    have cY_b := Y1.hb
    have cY_f := Y1.fz
    have cY_0 := Y1.k0
    have cY_1 := Y1.k1
    have cY_2 := Y1.k2
    have cY_3 := Y1.k3
    have cY_4 := Y1.k4
    have cY_5 := Y1.k5
    have cY_6 := Y1.k6
    have cY_7 := Y1.k7
    have cY_8 := Y1.k8
    have cY_9 := Y1.k9
    have cY_10 := Y1.k10
    go_wp2_with fail
    clear cX_b cX_f cX_0 cX_1 cX_2 cX_3 cX_4 cX_5 cX_6 cX_7 cX_8 cX_9 cX_10
    clear cY_b cY_f cY_0 cY_1 cY_2 cY_3 cY_4 cY_5 cY_6 cY_7 cY_8 cY_9 cY_10
    refine (LT.out _ _ (HS.out _ _ _ rfl)).mono ?_; rintro e w2 ⟨rfl, b2⟩
    have d2 : Below w1.heap.size w1 w2 := below_step (by repeat (first | exact Below.refl _ _ | refine below_drewN ?_ _ | refine Below.drew ?_ | refine Below.setCell ?_ (by first | (simp; done) | (simp; omega) | omega) _ | refine Below.alloc ?_ (by first | (simp; done) | (simp; omega) | omega) _)) b2
    have B2 := Lib.hid (below_step B1.out d2)
    have U2 := Lib.hid (U1.out.on d2)
    have X2 := X1.keep d2
    have Y2 := Y1.keep d2
    clear X1 Y1 b2 d2 B1 U1
    clear LT HS
    have cX_b := X2.hb
    have cX_f := X2.fz
    have cX_0 := X2.k0
    have cX_1 := X2.k1
    have cX_2 := X2.k2
    have cX_3 := X2.k3
    have cX_4 := X2.k4
    have cX_5 := X2.k5
    have cX_6 := X2.k6
    have cX_7 := X2.k7
    have cX_8 := X2.k8
    have cX_9 := X2.k9
    have cX_10 := X2.k10
    have cY_b := Y2.hb
    have cY_f := Y2.fz
    have cY_0 := Y2.k0
    have cY_1 := Y2.k1
    have cY_2 := Y2.k2
    have cY_3 := Y2.k3
    have cY_4 := Y2.k4
    have cY_5 := Y2.k5
    have cY_6 := Y2.k6
    have cY_7 := Y2.k7
    have cY_8 := Y2.k8
    have cY_9 := Y2.k9
    have cY_10 := Y2.k10
    go_wp2_with fail
    clear cX_b cX_f cX_0 cX_1 cX_2 cX_3 cX_4 cX_5 cX_6 cX_7 cX_8 cX_9 cX_10
    clear cY_b cY_f cY_0 cY_1 cY_2 cY_3 cY_4 cY_5 cY_6 cY_7 cY_8 cY_9 cY_10
    refine (LV.out _).mono ?_; rintro e w3 ⟨rfl, b3⟩
    have d3 : Below w2.heap.size w2 w3 := below_step (by repeat (first | exact Below.refl _ _ | refine below_drewN ?_ _ | refine Below.drew ?_ | refine Below.setCell ?_ (by first | (simp; done) | (simp; omega) | omega) _ | refine Below.alloc ?_ (by first | (simp; done) | (simp; omega) | omega) _)) b3
    have B3 := Lib.hid (below_step B2.out d3)
    have U3 := Lib.hid (U2.out.on d3)
    have X3 := X2.keep d3
    have Y3 := Y2.keep d3
    clear X2 Y2 b3 d3 B2 U2
    have cX_b := X3.hb
    have cX_f := X3.fz
    have cX_0 := X3.k0
    have cX_1 := X3.k1
    have cX_2 := X3.k2
    have cX_3 := X3.k3
    have cX_4 := X3.k4
    have cX_5 := X3.k5
    have cX_6 := X3.k6
    have cX_7 := X3.k7
    have cX_8 := X3.k8
    have cX_9 := X3.k9
    have cX_10 := X3.k10
    have cY_b := Y3.hb
    have cY_f := Y3.fz
    have cY_0 := Y3.k0
    have cY_1 := Y3.k1
    have cY_2 := Y3.k2
    have cY_3 := Y3.k3
    have cY_4 := Y3.k4
    have cY_5 := Y3.k5
    have cY_6 := Y3.k6
    have cY_7 := Y3.k7
    have cY_8 := Y3.k8
    have cY_9 := Y3.k9
    have cY_10 := Y3.k10
    go_wp2_with fail
    clear cX_b cX_f cX_0 cX_1 cX_2 cX_3 cX_4 cX_5 cX_6 cX_7 cX_8 cX_9 cX_10
    clear cY_b cY_f cY_0 cY_1 cY_2 cY_3 cY_4 cY_5 cY_6 cY_7 cY_8 cY_9 cY_10
    go_ret
    exact ⟨rfl, B3.out⟩
  · cases lj
    · clear key
      go_enter Try.func4, Try.ntmps4
      go_upto_region 1 with (fail)
      refine wp_named ?_; intro w1 hw1
      have d1 : Below w.heap.size w w1 := by rw [hw1]; exact (by repeat (first | exact Below.refl _ _ | refine below_drewN ?_ _ | refine Below.drew ?_ | refine Below.setCell ?_ (by first | (simp; done) | (simp; omega) | omega) _ | refine Below.alloc ?_ (by first | (simp; done) | (simp; omega) | omega) _))
      have B1 := Lib.hid d1
      have U1 := Lib.hid (U0.out.on d1)
      have X1 : Bk11 w1 w.heap.size (.string s) (.int .i64 fy) (.int .i64 ty) (.int .i64 m) (.int .i64 k) (.int .i64 wk) (.int .i64 d) (.int .i64 sec) (.int .i64 base) (.int .i64 save) (.string t) := by rw [hw1]; exact ⟨by simp <;> omega, by intro j; simp [go_sem], by simp [go_sem], by simp [go_sem], by simp [go_sem], by simp [go_sem], by simp [go_sem], by simp [go_sem], by simp [go_sem], by simp [go_sem], by simp [go_sem], by simp [go_sem], by simp [go_sem]⟩
      have Y1 : Bk11 w1 (w.heap.size + 1) (.string s') (.int .i64 fy') (.int .i64 ty') (.int .i64 m') (.int .i64 k') (.int .i64 wk') (.int .i64 d') (.int .i64 sec') (.int .i64 base') (.int .i64 save') (.string t') := by rw [hw1]; exact ⟨by simp <;> omega, by intro j; simp [go_sem], by simp [go_sem], by simp [go_sem], by simp [go_sem], by simp [go_sem], by simp [go_sem], by simp [go_sem], by simp [go_sem], by simp [go_sem], by simp [go_sem], by simp [go_sem], by simp [go_sem]⟩
      clear d1 hw1 B0 U0
      have cX_b := X1.hb
      have cX_f := X1.fz
      have cX_0 := X1.k0
      have cX_1 := X1.k1
      have cX_2 := X1.k2
      have cX_3 := X1.k3
      have cX_4 := X1.k4
      have cX_5 := X1.k5
      have cX_6 := X1.k6
      have cX_7 := X1.k7
      have cX_8 := X1.k8
      have cX_9 := X1.k9
      have cX_10 := X1.k10
      have cY_b := Y1.hb
      have cY_f := Y1.fz
      have cY_0 := Y1.k0
      have cY_1 := Y1.k1
      have cY_2 := Y1.k2
      have cY_3 := Y1.k3
      have cY_4 := Y1.k4
      have cY_5 := Y1.k5
      have cY_6 := Y1.k6
      have cY_7 := Y1.k7
      have cY_8 := Y1.k8
      have cY_9 := Y1.k9
      have cY_10 := Y1.k10
      go_wp2_with fail
      clear cX_b cX_f cX_0 cX_1 cX_2 cX_3 cX_4 cX_5 cX_6 cX_7 cX_8 cX_9 cX_10
      clear cY_b cY_f cY_0 cY_1 cY_2 cY_3 cY_4 cY_5 cY_6 cY_7 cY_8 cY_9 cY_10
      refine (LT.out _ _ (HS.out _ _ _ rfl)).mono ?_; rintro e w2 ⟨rfl, b2⟩
      have d2 : Below w1.heap.size w1 w2 := below_step (by repeat (first | exact Below.refl _ _ | refine below_drewN ?_ _ | refine Below.drew ?_ | refine Below.setCell ?_ (by first | (simp; done) | (simp; omega) | omega) _ | refine Below.alloc ?_ (by first | (simp; done) | (simp; omega) | omega) _)) b2
      have B2 := Lib.hid (below_step B1.out d2)
      have U2 := Lib.hid (U1.out.on d2)
      have X2 := X1.keep d2
      have Y2 := Y1.keep d2
      clear X1 Y1 b2 d2 B1 U1
      clear LT HS
      have cX_b := X2.hb
      have cX_f := X2.fz
      have cX_0 := X2.k0
      have cX_1 := X2.k1
      have cX_2 := X2.k2
      have cX_3 := X2.k3
      have cX_4 := X2.k4
      have cX_5 := X2.k5
      have cX_6 := X2.k6
      have cX_7 := X2.k7
      have cX_8 := X2.k8
      have cX_9 := X2.k9
      have cX_10 := X2.k10
      have cY_b := Y2.hb
      have cY_f := Y2.fz
      have cY_0 := Y2.k0
      have cY_1 := Y2.k1
      have cY_2 := Y2.k2
      have cY_3 := Y2.k3
      have cY_4 := Y2.k4
      have cY_5 := Y2.k5
      have cY_6 := Y2.k6
      have cY_7 := Y2.k7
      have cY_8 := Y2.k8
      have cY_9 := Y2.k9
      have cY_10 := Y2.k10
      go_wp2_with fail
      clear cX_b cX_f cX_0 cX_1 cX_2 cX_3 cX_4 cX_5 cX_6 cX_7 cX_8 cX_9 cX_10
      clear cY_b cY_f cY_0 cY_1 cY_2 cY_3 cY_4 cY_5 cY_6 cY_7 cY_8 cY_9 cY_10
      refine (LL.out _ (U2.out)).mono ?_; rintro e w3 ⟨rfl, b3⟩
      have d3 : Below w2.heap.size w2 w3 := below_step (by repeat (first | exact Below.refl _ _ | refine below_drewN ?_ _ | refine Below.drew ?_ | refine Below.setCell ?_ (by first | (simp; done) | (simp; omega) | omega) _ | refine Below.alloc ?_ (by first | (simp; done) | (simp; omega) | omega) _)) b3
      have B3 := Lib.hid (below_step B2.out d3)
      have U3 := Lib.hid (U2.out.on d3)
      have X3 := X2.keep d3
      have Y3 := Y2.keep d3
      clear X2 Y2 b3 d3 B2 U2
      have cX_b := X3.hb
      have cX_f := X3.fz
      have cX_0 := X3.k0
      have cX_1 := X3.k1
      have cX_2 := X3.k2
      have cX_3 := X3.k3
      have cX_4 := X3.k4
      have cX_5 := X3.k5
      have cX_6 := X3.k6
      have cX_7 := X3.k7
      have cX_8 := X3.k8
      have cX_9 := X3.k9
      have cX_10 := X3.k10
      have cY_b := Y3.hb
      have cY_f := Y3.fz
      have cY_0 := Y3.k0
      have cY_1 := Y3.k1
      have cY_2 := Y3.k2
      have cY_3 := Y3.k3
      have cY_4 := Y3.k4
      have cY_5 := Y3.k5
      have cY_6 := Y3.k6
      have cY_7 := Y3.k7
      have cY_8 := Y3.k8
      have cY_9 := Y3.k9
      have cY_10 := Y3.k10
      go_wp2_with fail
      clear cX_b cX_f cX_0 cX_1 cX_2 cX_3 cX_4 cX_5 cX_6 cX_7 cX_8 cX_9 cX_10
      clear cY_b cY_f cY_0 cY_1 cY_2 cY_3 cY_4 cY_5 cY_6 cY_7 cY_8 cY_9 cY_10
      refine (LV.out _).mono ?_; rintro e w4 ⟨rfl, b4⟩
      have d4 : Below w3.heap.size w3 w4 := below_step (by repeat (first | exact Below.refl _ _ | refine below_drewN ?_ _ | refine Below.drew ?_ | refine Below.setCell ?_ (by first | (simp; done) | (simp; omega) | omega) _ | refine Below.alloc ?_ (by first | (simp; done) | (simp; omega) | omega) _)) b4
      have B4 := Lib.hid (below_step B3.out d4)
      have U4 := Lib.hid (U3.out.on d4)
      have X4 := X3.keep d4
      have Y4 := Y3.keep d4
      clear X3 Y3 b4 d4 B3 U3
      have cX_b := X4.hb
      have cX_f := X4.fz
      have cX_0 := X4.k0
      have cX_1 := X4.k1
      have cX_2 := X4.k2
      have cX_3 := X4.k3
      have cX_4 := X4.k4
      have cX_5 := X4.k5
      have cX_6 := X4.k6
      have cX_7 := X4.k7
      have cX_8 := X4.k8
      have cX_9 := X4.k9
      have cX_10 := X4.k10
      have cY_b := Y4.hb
      have cY_f := Y4.fz
      have cY_0 := Y4.k0
      have cY_1 := Y4.k1
      have cY_2 := Y4.k2
      have cY_3 := Y4.k3
      have cY_4 := Y4.k4
      have cY_5 := Y4.k5
      have cY_6 := Y4.k6
      have cY_7 := Y4.k7
      have cY_8 := Y4.k8
      have cY_9 := Y4.k9
      have cY_10 := Y4.k10
      go_wp2_with fail
      clear cX_b cX_f cX_0 cX_1 cX_2 cX_3 cX_4 cX_5 cX_6 cX_7 cX_8 cX_9 cX_10
      clear cY_b cY_f cY_0 cY_1 cY_2 cY_3 cY_4 cY_5 cY_6 cY_7 cY_8 cY_9 cY_10
      go_ret
      exact ⟨rfl, B4.out⟩
    · obtain ⟨⟨-, zt⟩, ⟨-, zt2⟩, zl, zr⟩ := key rfl rfl
      have AW := Lib.hid (fun W => awindow_any s fy ty m k wk d sec base save t W hs ht)
      have RW := Lib.hid (fun W => rwindow27_any s fy ty m k wk d sec base save t W hs zt)
      have PA := Lib.hid (fun W => aPair_any s fy ty m k wk d sec base save t s' fy' ty' m' k' wk' d' sec' base' save' t' W hs ht hs' ht')
      have PB := Lib.hid (fun W => rpair27_any s fy ty m k wk d sec base save t s' fy' ty' m' k' wk' d' sec' base' save' t' W hs zt hs' zt2)
      have CA := Lib.hid (fun W S => acheck_any v l W S zl hz)
      have CB := Lib.hid (fun W S => rcheck27_any v l W S zl zr)
      generalize Aw.pr (Aw.rc (s, fy, ty, m, k, wk, d, sec, base, save, t)) (Aw.rc (s', fy', ty', m', k', wk', d', sec', base', save', t')) = p0 at PA PB
      generalize Aw.lo (s, fy, ty, m, k, wk, d, sec, base, save, t) = x2 at AW RW
      generalize Aw.hi (s, fy, ty, m, k, wk, d, sec, base, save, t) = x3 at AW RW
      generalize Aw.wy (s, fy, ty, m, k, wk, d, sec, base, save, t) = x4 at AW RW
      generalize (Aw.ck [] l).1 = c1 at CA CB
      generalize (Aw.ck [] l).2 = c2 at CA CB
      clear hs ht hs' ht' hz key zt zt2 zl zr
      go_enter Try.func4, Try.ntmps4
      go_upto_region 1 with (fail)
      refine wp_named ?_; intro w1 hw1
      have d1 : Below w.heap.size w w1 := by rw [hw1]; exact (by repeat (first | exact Below.refl _ _ | refine below_drewN ?_ _ | refine Below.drew ?_ | refine Below.setCell ?_ (by first | (simp; done) | (simp; omega) | omega) _ | refine Below.alloc ?_ (by first | (simp; done) | (simp; omega) | omega) _))
      have B1 := Lib.hid d1
      have U1 := Lib.hid (U0.out.on d1)
      have X1 : Bk11 w1 w.heap.size (.string s) (.int .i64 fy) (.int .i64 ty) (.int .i64 m) (.int .i64 k) (.int .i64 wk) (.int .i64 d) (.int .i64 sec) (.int .i64 base) (.int .i64 save) (.string t) := by rw [hw1]; exact ⟨by simp <;> omega, by intro j; simp [go_sem], by simp [go_sem], by simp [go_sem], by simp [go_sem], by simp [go_sem], by simp [go_sem], by simp [go_sem], by simp [go_sem], by simp [go_sem], by simp [go_sem], by simp [go_sem], by simp [go_sem]⟩
      have Y1 : Bk11 w1 (w.heap.size + 1) (.string s') (.int .i64 fy') (.int .i64 ty') (.int .i64 m') (.int .i64 k') (.int .i64 wk') (.int .i64 d') (.int .i64 sec') (.int .i64 base') (.int .i64 save') (.string t') := by rw [hw1]; exact ⟨by simp <;> omega, by intro j; simp [go_sem], by simp [go_sem], by simp [go_sem], by simp [go_sem], by simp [go_sem], by simp [go_sem], by simp [go_sem], by simp [go_sem], by simp [go_sem], by simp [go_sem], by simp [go_sem], by simp [go_sem]⟩
      clear d1 hw1 B0 U0
      have cX_b := X1.hb
      have cX_f := X1.fz
      have cX_0 := X1.k0
      have cX_1 := X1.k1
      have cX_2 := X1.k2
      have cX_3 := X1.k3
      have cX_4 := X1.k4
      have cX_5 := X1.k5
      have cX_6 := X1.k6
      have cX_7 := X1.k7
      have cX_8 := X1.k8
      have cX_9 := X1.k9
      have cX_10 := X1.k10
      have cY_b := Y1.hb
      have cY_f := Y1.fz
      have cY_0 := Y1.k0
      have cY_1 := Y1.k1
      have cY_2 := Y1.k2
      have cY_3 := Y1.k3
      have cY_4 := Y1.k4
      have cY_5 := Y1.k5
      have cY_6 := Y1.k6
      have cY_7 := Y1.k7
      have cY_8 := Y1.k8
      have cY_9 := Y1.k9
      have cY_10 := Y1.k10
      go_wp2_with fail
      clear cX_b cX_f cX_0 cX_1 cX_2 cX_3 cX_4 cX_5 cX_6 cX_7 cX_8 cX_9 cX_10
      clear cY_b cY_f cY_0 cY_1 cY_2 cY_3 cY_4 cY_5 cY_6 cY_7 cY_8 cY_9 cY_10
      refine (LT.out _ _ (HS.out _ _ _ rfl)).mono ?_; rintro e w2 ⟨rfl, b2⟩
      have d2 : Below w1.heap.size w1 w2 := below_step (by repeat (first | exact Below.refl _ _ | refine below_drewN ?_ _ | refine Below.drew ?_ | refine Below.setCell ?_ (by first | (simp; done) | (simp; omega) | omega) _ | refine Below.alloc ?_ (by first | (simp; done) | (simp; omega) | omega) _)) b2
      have B2 := Lib.hid (below_step B1.out d2)
      have U2 := Lib.hid (U1.out.on d2)
      have X2 := X1.keep d2
      have Y2 := Y1.keep d2
      clear X1 Y1 b2 d2 B1 U1
      clear LT HS
      have cX_b := X2.hb
      have cX_f := X2.fz
      have cX_0 := X2.k0
      have cX_1 := X2.k1
      have cX_2 := X2.k2
      have cX_3 := X2.k3
      have cX_4 := X2.k4
      have cX_5 := X2.k5
      have cX_6 := X2.k6
      have cX_7 := X2.k7
      have cX_8 := X2.k8
      have cX_9 := X2.k9
      have cX_10 := X2.k10
      have cY_b := Y2.hb
      have cY_f := Y2.fz
      have cY_0 := Y2.k0
      have cY_1 := Y2.k1
      have cY_2 := Y2.k2
      have cY_3 := Y2.k3
      have cY_4 := Y2.k4
      have cY_5 := Y2.k5
      have cY_6 := Y2.k6
      have cY_7 := Y2.k7
      have cY_8 := Y2.k8
      have cY_9 := Y2.k9
      have cY_10 := Y2.k10
      go_wp2_with fail
      clear cX_b cX_f cX_0 cX_1 cX_2 cX_3 cX_4 cX_5 cX_6 cX_7 cX_8 cX_9 cX_10
      clear cY_b cY_f cY_0 cY_1 cY_2 cY_3 cY_4 cY_5 cY_6 cY_7 cY_8 cY_9 cY_10
      refine (LL.out _ (U2.out)).mono ?_; rintro e w3 ⟨rfl, b3⟩
      have d3 : Below w2.heap.size w2 w3 := below_step (by repeat (first | exact Below.refl _ _ | refine below_drewN ?_ _ | refine Below.drew ?_ | refine Below.setCell ?_ (by first | (simp; done) | (simp; omega) | omega) _ | refine Below.alloc ?_ (by first | (simp; done) | (simp; omega) | omega) _)) b3
      have B3 := Lib.hid (below_step B2.out d3)
      have U3 := Lib.hid (U2.out.on d3)
      have X3 := X2.keep d3
      have Y3 := Y2.keep d3
      clear X2 Y2 b3 d3 B2 U2
      have cX_b := X3.hb
      have cX_f := X3.fz
      have cX_0 := X3.k0
      have cX_1 := X3.k1
      have cX_2 := X3.k2
      have cX_3 := X3.k3
      have cX_4 := X3.k4
      have cX_5 := X3.k5
      have cX_6 := X3.k6
      have cX_7 := X3.k7
      have cX_8 := X3.k8
      have cX_9 := X3.k9
      have cX_10 := X3.k10
      have cY_b := Y3.hb
      have cY_f := Y3.fz
      have cY_0 := Y3.k0
      have cY_1 := Y3.k1
      have cY_2 := Y3.k2
      have cY_3 := Y3.k3
      have cY_4 := Y3.k4
      have cY_5 := Y3.k5
      have cY_6 := Y3.k6
      have cY_7 := Y3.k7
      have cY_8 := Y3.k8
      have cY_9 := Y3.k9
      have cY_10 := Y3.k10
      go_wp2_with fail
      clear cX_b cX_f cX_0 cX_1 cX_2 cX_3 cX_4 cX_5 cX_6 cX_7 cX_8 cX_9 cX_10
      clear cY_b cY_f cY_0 cY_1 cY_2 cY_3 cY_4 cY_5 cY_6 cY_7 cY_8 cY_9 cY_10
      refine (AW.out _).mono ?_; rintro e w4 ⟨rfl, b4⟩
      have d4 : Below w3.heap.size w3 w4 := below_step (by repeat (first | exact Below.refl _ _ | refine below_drewN ?_ _ | refine Below.drew ?_ | refine Below.setCell ?_ (by first | (simp; done) | (simp; omega) | omega) _ | refine Below.alloc ?_ (by first | (simp; done) | (simp; omega) | omega) _)) b4
      have B4 := Lib.hid (below_step B3.out d4)
      have U4 := Lib.hid (U3.out.on d4)
      have X4 := X3.keep d4
      have Y4 := Y3.keep d4
      clear X3 Y3 b4 d4 B3 U3
      have cX_b := X4.hb
      have cX_f := X4.fz
      have cX_0 := X4.k0
      have cX_1 := X4.k1
      have cX_2 := X4.k2
      have cX_3 := X4.k3
      have cX_4 := X4.k4
      have cX_5 := X4.k5
      have cX_6 := X4.k6
      have cX_7 := X4.k7
      have cX_8 := X4.k8
      have cX_9 := X4.k9
      have cX_10 := X4.k10
      have cY_b := Y4.hb
      have cY_f := Y4.fz
      have cY_0 := Y4.k0
      have cY_1 := Y4.k1
      have cY_2 := Y4.k2
      have cY_3 := Y4.k3
      have cY_4 := Y4.k4
      have cY_5 := Y4.k5
      have cY_6 := Y4.k6
      have cY_7 := Y4.k7
      have cY_8 := Y4.k8
      have cY_9 := Y4.k9
      have cY_10 := Y4.k10
      go_wp2_with fail
      clear cX_b cX_f cX_0 cX_1 cX_2 cX_3 cX_4 cX_5 cX_6 cX_7 cX_8 cX_9 cX_10
      clear cY_b cY_f cY_0 cY_1 cY_2 cY_3 cY_4 cY_5 cY_6 cY_7 cY_8 cY_9 cY_10
      refine (RW.out _).mono ?_; rintro e w5 ⟨rfl, b5⟩
      have d5 : Below w4.heap.size w4 w5 := below_step (by repeat (first | exact Below.refl _ _ | refine below_drewN ?_ _ | refine Below.drew ?_ | refine Below.setCell ?_ (by first | (simp; done) | (simp; omega) | omega) _ | refine Below.alloc ?_ (by first | (simp; done) | (simp; omega) | omega) _)) b5
      have B5 := Lib.hid (below_step B4.out d5)
      have U5 := Lib.hid (U4.out.on d5)
      have X5 := X4.keep d5
      have Y5 := Y4.keep d5
      clear X4 Y4 b5 d5 B4 U4
      have cX_b := X5.hb
      have cX_f := X5.fz
      have cX_0 := X5.k0
      have cX_1 := X5.k1
      have cX_2 := X5.k2
      have cX_3 := X5.k3
      have cX_4 := X5.k4
      have cX_5 := X5.k5
      have cX_6 := X5.k6
      have cX_7 := X5.k7
      have cX_8 := X5.k8
      have cX_9 := X5.k9
      have cX_10 := X5.k10
      have cY_b := Y5.hb
      have cY_f := Y5.fz
      have cY_0 := Y5.k0
      have cY_1 := Y5.k1
      have cY_2 := Y5.k2
      have cY_3 := Y5.k3
      have cY_4 := Y5.k4
      have cY_5 := Y5.k5
      have cY_6 := Y5.k6
      have cY_7 := Y5.k7
      have cY_8 := Y5.k8
      have cY_9 := Y5.k9
      have cY_10 := Y5.k10
      go_wp2_with fail
      clear cX_b cX_f cX_0 cX_1 cX_2 cX_3 cX_4 cX_5 cX_6 cX_7 cX_8 cX_9 cX_10
      clear cY_b cY_f cY_0 cY_1 cY_2 cY_3 cY_4 cY_5 cY_6 cY_7 cY_8 cY_9 cY_10
      refine (CA.out _ (U5.out)).mono ?_; rintro e w6 ⟨rfl, b6⟩
      have d6 : Below w5.heap.size w5 w6 := below_step (by repeat (first | exact Below.refl _ _ | refine below_drewN ?_ _ | refine Below.drew ?_ | refine Below.setCell ?_ (by first | (simp; done) | (simp; omega) | omega) _ | refine Below.alloc ?_ (by first | (simp; done) | (simp; omega) | omega) _)) b6
      have B6 := Lib.hid (below_step B5.out d6)
      have U6 := Lib.hid (U5.out.on d6)
      have X6 := X5.keep d6
      have Y6 := Y5.keep d6
      clear X5 Y5 b6 d6 B5 U5
      have cX_b := X6.hb
      have cX_f := X6.fz
      have cX_0 := X6.k0
      have cX_1 := X6.k1
      have cX_2 := X6.k2
      have cX_3 := X6.k3
      have cX_4 := X6.k4
      have cX_5 := X6.k5
      have cX_6 := X6.k6
      have cX_7 := X6.k7
      have cX_8 := X6.k8
      have cX_9 := X6.k9
      have cX_10 := X6.k10
      have cY_b := Y6.hb
      have cY_f := Y6.fz
      have cY_0 := Y6.k0
      have cY_1 := Y6.k1
      have cY_2 := Y6.k2
      have cY_3 := Y6.k3
      have cY_4 := Y6.k4
      have cY_5 := Y6.k5
      have cY_6 := Y6.k6
      have cY_7 := Y6.k7
      have cY_8 := Y6.k8
      have cY_9 := Y6.k9
      have cY_10 := Y6.k10
      go_wp2_with fail
      clear cX_b cX_f cX_0 cX_1 cX_2 cX_3 cX_4 cX_5 cX_6 cX_7 cX_8 cX_9 cX_10
      clear cY_b cY_f cY_0 cY_1 cY_2 cY_3 cY_4 cY_5 cY_6 cY_7 cY_8 cY_9 cY_10
      refine (CB.out _ (U6.out)).mono ?_; rintro e w7 ⟨rfl, b7⟩
      have d7 : Below w6.heap.size w6 w7 := below_step (by repeat (first | exact Below.refl _ _ | refine below_drewN ?_ _ | refine Below.drew ?_ | refine Below.setCell ?_ (by first | (simp; done) | (simp; omega) | omega) _ | refine Below.alloc ?_ (by first | (simp; done) | (simp; omega) | omega) _)) b7
      have B7 := Lib.hid (below_step B6.out d7)
      have U7 := Lib.hid (U6.out.on d7)
      have X7 := X6.keep d7
      have Y7 := Y6.keep d7
      clear X6 Y6 b7 d7 B6 U6
      have cX_b := X7.hb
      have cX_f := X7.fz
      have cX_0 := X7.k0
      have cX_1 := X7.k1
      have cX_2 := X7.k2
      have cX_3 := X7.k3
      have cX_4 := X7.k4
      have cX_5 := X7.k5
      have cX_6 := X7.k6
      have cX_7 := X7.k7
      have cX_8 := X7.k8
      have cX_9 := X7.k9
      have cX_10 := X7.k10
      have cY_b := Y7.hb
      have cY_f := Y7.fz
      have cY_0 := Y7.k0
      have cY_1 := Y7.k1
      have cY_2 := Y7.k2
      have cY_3 := Y7.k3
      have cY_4 := Y7.k4
      have cY_5 := Y7.k5
      have cY_6 := Y7.k6
      have cY_7 := Y7.k7
      have cY_8 := Y7.k8
      have cY_9 := Y7.k9
      have cY_10 := Y7.k10
      go_upto_region 7 with (fail)
      clear cX_b cX_f cX_0 cX_1 cX_2 cX_3 cX_4 cX_5 cX_6 cX_7 cX_8 cX_9 cX_10
      clear cY_b cY_f cY_0 cY_1 cY_2 cY_3 cY_4 cY_5 cY_6 cY_7 cY_8 cY_9 cY_10
      have qX_0 := cell_regrown X7.k0
      have qX_1 := cell_regrown X7.k1
      have qX_2 := cell_regrown X7.k2
      have qX_3 := cell_regrown X7.k3
      have qX_4 := cell_regrown X7.k4
      have qX_5 := cell_regrown X7.k5
      have qX_6 := cell_regrown X7.k6
      have qX_7 := cell_regrown X7.k7
      have qX_8 := cell_regrown X7.k8
      have qX_9 := cell_regrown X7.k9
      have qX_10 := cell_regrown X7.k10
      have qY_0 := cell_regrown Y7.k0
      have qY_1 := cell_regrown Y7.k1
      have qY_2 := cell_regrown Y7.k2
      have qY_3 := cell_regrown Y7.k3
      have qY_4 := cell_regrown Y7.k4
      have qY_5 := cell_regrown Y7.k5
      have qY_6 := cell_regrown Y7.k6
      have qY_7 := cell_regrown Y7.k7
      have qY_8 := cell_regrown Y7.k8
      have qY_9 := cell_regrown Y7.k9
      have qY_10 := cell_regrown Y7.k10
      refine wp_region_qb (w := w7) (by kernel_rfl) (by kernel_rfl) (by repeat (first | exact Below.refl _ _ | refine below_drewN ?_ _ | refine Below.drew ?_ | refine Below.setCell ?_ (by first | (simp; done) | (simp; omega) | omega) _ | refine Below.alloc ?_ (by first | (simp; done) | (simp; omega) | omega) _)) ?_
      repeat (any_goals (first | go_big_quiet_step (first | (go_at_call 7; exact Calls.regrown_of (PA.out _)) | (go_at_call 13; exact Calls.regrown_of (PB.out _)) | (go_at_call 5; exact Calls.regrown_of (LV.out _))) | quiet_step (first | (go_at_call 7; exact Calls.regrown_of (PA.out _)) | (go_at_call 13; exact Calls.regrown_of (PB.out _)) | (go_at_call 5; exact Calls.regrown_of (LV.out _)))))
      refine wpQuiet_nil ?_
      intro w9 hq
      have b9 : Below w7.heap.size w7 w9 := by obtain ⟨p, hq⟩ := hq; rw [hq]; exact below_regrown _ _ _
      clear hq qX_0 qX_1 qX_2 qX_3 qX_4 qX_5 qX_6 qX_7 qX_8 qX_9 qX_10 qY_0 qY_1 qY_2 qY_3 qY_4 qY_5 qY_6 qY_7 qY_8 qY_9 qY_10
      go_wp2_with fail
      go_ret
      exact ⟨rfl, below_step B7.out b9⟩
end Go.Proofs.Ytjnhaabbnbcaeaa
