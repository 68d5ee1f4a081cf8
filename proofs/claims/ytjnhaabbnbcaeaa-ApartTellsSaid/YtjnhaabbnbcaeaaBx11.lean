/- Joined: AwF. -/
import Derived.Test.YtjnhaabbnbcaeaaBx09
import Derived.Test.YtjnhaabbnbcaeaaBx10
/- Rules far enough from each other: ApartEither, but for the life. -/
set_option linter.unusedVariables false
set_option linter.unusedSimpArgs false
namespace Go.Proofs.Ytjnhaabbnbcaeaa
open Go.RowKit Go.Sort
theorem Aw.pr_one (a b : Aw.C) : Aw.pr a b = 0 ∨ Aw.pr a b = 4 ∨ Aw.pr a b = 15 := by
  unfold Aw.pr
  split
  · split
    · exact .inr (.inr rfl)
    · exact .inl rfl
  · exact .inr (.inl rfl)
theorem Aw.rt_bd {s t : ByteArray} {fy ty m k wk d sec base save : Int} (h : Aw.rt (s, fy, ty, m, k, wk, d, sec, base, save, t) = true) : -32767 ≤ fy ∧ fy ≤ ty ∧ ty ≤ 32767 := by
  have h : Ru.rB s t fy ty m k wk d sec base save = true := h
  unfold Ru.rB at h
  simp only [Bool.and_eq_true, decide_eq_true_eq] at h
  exact ⟨h.2.1, h.2.2.1, h.2.2.2.1⟩
set_option maxRecDepth 100000 in
theorem two_rules (w : World) (a b : Aw.R) (t : TypeId) (W : World) (hW : W = w.alloc (.cells (Aw.enc a ++ Aw.enc b).toArray t)) : RuV W (.slice (some ⟨w.heap.size, 0, none⟩) 2 2) [a, b] := by
  have ad : ∀ i, (⟨w.heap.size, 0, none⟩ : Addr).add i = ⟨w.heap.size, i, none⟩ := fun i => by
    unfold Addr.add
    by_cases h : i = 0
    · subst h; rfl
    · simp [h]
  refine ⟨some ⟨w.heap.size, 0, none⟩, 2, rfl, fun _ => ⟨_, rfl, by rw [hW]; simp, fun j u hu => ?_⟩⟩
  have e : Aw.rcs [a, b] = Aw.enc a ++ Aw.enc b := by show Aw.enc a ++ (Aw.enc b ++ []) = _; rw [List.append_nil]
  rw [e] at hu
  have hb : W.heap[w.heap.size]? = some (.cells (Aw.enc a ++ Aw.enc b).toArray t (0, 0)) := by rw [hW]; exact Array.getElem?_push_size ..
  rw [ad, Lib.cell_of_heap hb]
  generalize Aw.enc a ++ Aw.enc b = xs at *
  rw [List.getElem?_toArray]; exact hu
set_option maxHeartbeats 8000000 in
set_option maxRecDepth 100000 in
theorem apart_either (s : ByteArray) (fy ty m k wk d sec base save : Int) (t : ByteArray) (s' : ByteArray) (fy' ty' m' k' wk' d' sec' base' save' : Int) (t' : ByteArray) (w : World) (hs : s.size ≤ maxLen) (ht : t.size ≤ maxLen) (hs' : s'.size ≤ maxLen) (ht' : t'.size ≤ maxLen)
    (LV : ∀ W, Calls Try.prog 5 #[] W fun e w' => e = .returned (.bool true) ∧ Below W.heap.size W w') :
    Calls Try.prog 3 #[.agg #[.string s, .int .i64 fy, .int .i64 ty, .int .i64 m, .int .i64 k, .int .i64 wk, .int .i64 d, .int .i64 sec, .int .i64 base, .int .i64 save, .string t], .agg #[.string s', .int .i64 fy', .int .i64 ty', .int .i64 m', .int .i64 k', .int .i64 wk', .int .i64 d', .int .i64 sec', .int .i64 base', .int .i64 save', .string t']] w fun e w' => e = .returned (.bool true) ∧ Below w.heap.size w w' := by
  have LV := Lib.hid LV
  have p4 := Aw.pr_4 (s, fy, ty, m, k, wk, d, sec, base, save, t) (s', fy', ty', m', k', wk', d', sec', base', save', t')
  have p15 := Aw.pr_15 (s, fy, ty, m, k, wk, d, sec, base, save, t) (s', fy', ty', m', k', wk', d', sec', base', save', t')
  have pn := Aw.pr_name (s, fy, ty, m, k, wk, d, sec, base, save, t) (s', fy', ty', m', k', wk', d', sec', base', save', t')
  have po := Aw.pr_one (Aw.rc (s, fy, ty, m, k, wk, d, sec, base, save, t)) (Aw.rc (s', fy', ty', m', k', wk', d', sec', base', save', t'))
  have bdA := @Aw.rt_bd s t fy ty m k wk d sec base save
  have bdB := @Aw.rt_bd s' t' fy' ty' m' k' wk' d' sec' base' save'
  have P1 : ∀ W, _ := fun W => aPair_any s fy ty m k wk d sec base save t s' fy' ty' m' k' wk' d' sec' base' save' t' W hs ht hs' ht'
  have P2 : ∀ W, _ := fun W => aPair_any s' fy' ty' m' k' wk' d' sec' base' save' t' s fy ty m k wk d sec base save t W hs' ht' hs ht
  have P3 : ∀ W, _ := fun W => aPair_any ⟨#[69, 108, 115, 101]⟩ fy ty m k wk d sec base save t s' fy' ty' m' k' wk' d' sec' base' save' t' W (by decide) ht hs' ht'
  have Q1 : ∀ W, _ := fun W => ruright_any s t fy ty m k wk d sec base save W hs (by unfold maxLen at ht; omega)
  have Q2 : ∀ W, _ := fun W => ruright_any s' t' fy' ty' m' k' wk' d' sec' base' save' W hs' (by unfold maxLen at ht'; omega)
  have LT := Lib.hid (fun v W S => alight_any v [(s, fy, ty, m, k, wk, d, sec, base, save, t), (s', fy', ty', m', k', wk', d', sec', base', save', t')] W S (by intro r hr; simp at hr; rcases hr with rfl | rfl <;> exact ⟨by assumption, by assumption⟩) (by unfold maxLen; simp))
  have HS := Lib.hid (fun w0 W T h => two_rules w0 (s, fy, ty, m, k, wk, d, sec, base, save, t) (s', fy', ty', m', k', wk', d', sec', base', save', t') T W h)
  have ecm := Aw.pr_comm (Aw.rc (s', fy', ty', m', k', wk', d', sec', base', save', t')) (Aw.rc (s, fy, ty, m, k, wk, d, sec, base, save, t))
  simp only [ecm] at P2
  obtain ⟨ra, era⟩ : ∃ b, b = Aw.rt (s, fy, ty, m, k, wk, d, sec, base, save, t) := ⟨_, rfl⟩
  obtain ⟨rb, erb⟩ : ∃ b, b = Aw.rt (s', fy', ty', m', k', wk', d', sec', base', save', t') := ⟨_, rfl⟩
  have era2 : Ru.rB s t fy ty m k wk d sec base save = ra := era.symm
  have erb2 : Ru.rB s' t' fy' ty' m' k' wk' d' sec' base' save' = rb := erb.symm
  rw [← era, ← erb] at p4
  rw [← era] at bdA
  rw [← erb] at bdB
  simp only [era2] at Q1
  simp only [erb2] at Q2
  have pn : Aw.pr (Aw.rc (s, fy, ty, m, k, wk, d, sec, base, save, t)) (Aw.rc (s', fy', ty', m', k', wk', d', sec', base', save', t')) ≠ 4 → Aw.pr (Aw.rc (⟨#[69, 108, 115, 101]⟩, fy, ty, m, k, wk, d, sec, base, save, t)) (Aw.rc (s', fy', ty', m', k', wk', d', sec', base', save', t')) = Aw.pr (Aw.rc (s, fy, ty, m, k, wk, d, sec, base, save, t)) (Aw.rc (s', fy', ty', m', k', wk', d', sec', base', save', t')) := pn
  generalize Aw.pr (Aw.rc (⟨#[69, 108, 115, 101]⟩, fy, ty, m, k, wk, d, sec, base, save, t)) (Aw.rc (s', fy', ty', m', k', wk', d', sec', base', save', t')) = z at pn P3
  have p15 : Aw.pr (Aw.rc (s, fy, ty, m, k, wk, d, sec, base, save, t)) (Aw.rc (s', fy', ty', m', k', wk', d', sec', base', save', t')) = 15 → fy ≤ ty' + 1 ∧ fy' ≤ ty + 1 := p15
  generalize Aw.pr (Aw.rc (s, fy, ty, m, k, wk, d, sec, base, save, t)) (Aw.rc (s', fy', ty', m', k', wk', d', sec', base', save', t')) = p at *
  generalize Aw.light [(s, fy, ty, m, k, wk, d, sec, base, save, t), (s', fy', ty', m', k', wk', d', sec', base', save', t')] = li at LT
  have P1 := Lib.hid P1; have P2 := Lib.hid P2; have P3 := Lib.hid P3; have Q1 := Lib.hid Q1; have Q2 := Lib.hid Q2
  clear ecm era erb era2 erb2 hs ht hs' ht'
  go_enter Try.func3, Try.ntmps3
  go_upto_region 1 with (fail)
  refine wp_named ?_; intro w1 hw1
  have d1 : Below w.heap.size w w1 := by rw [hw1]; exact (by repeat (first | exact Below.refl _ _ | refine below_drewN ?_ _ | refine Below.drew ?_ | refine Below.setCell ?_ (by first | (simp; done) | (simp; omega) | omega) _ | refine Below.alloc ?_ (by first | (simp; done) | (simp; omega) | omega) _))
  have B1 := Lib.hid d1
  have X1 : Bk11 w1 w.heap.size (.string s) (.int .i64 fy) (.int .i64 ty) (.int .i64 m) (.int .i64 k) (.int .i64 wk) (.int .i64 d) (.int .i64 sec) (.int .i64 base) (.int .i64 save) (.string t) := by rw [hw1]; exact ⟨by simp <;> omega, by intro j; simp [go_sem], by simp [go_sem], by simp [go_sem], by simp [go_sem], by simp [go_sem], by simp [go_sem], by simp [go_sem], by simp [go_sem], by simp [go_sem], by simp [go_sem], by simp [go_sem], by simp [go_sem]⟩
  have Y1 : Bk11 w1 (w.heap.size + 1) (.string s') (.int .i64 fy') (.int .i64 ty') (.int .i64 m') (.int .i64 k') (.int .i64 wk') (.int .i64 d') (.int .i64 sec') (.int .i64 base') (.int .i64 save') (.string t') := by rw [hw1]; exact ⟨by simp <;> omega, by intro j; simp [go_sem], by simp [go_sem], by simp [go_sem], by simp [go_sem], by simp [go_sem], by simp [go_sem], by simp [go_sem], by simp [go_sem], by simp [go_sem], by simp [go_sem], by simp [go_sem], by simp [go_sem]⟩
  clear d1 hw1
  have cX_b := X1.hb
  have cX_f := X1.fz
  have cX_0 := X1.k0
  have cX_1 := X1.k1
  have cX_2 := X1.k2
  have cX_3 := X1.k3
  have cX_4 := X1.k4
  have cX_5 := X1.k5
  have cX_6 := X1.k6
  have cX_7 := X1.k7
  have cX_8 := X1.k8
  have cX_9 := X1.k9
  have cX_10 := X1.k10
  have cY_b := Y1.hb
  have cY_f := Y1.fz
  have cY_0 := Y1.k0
  have cY_1 := Y1.k1
  have cY_2 := Y1.k2
  have cY_3 := Y1.k3
  have cY_4 := Y1.k4
  have cY_5 := Y1.k5
  have cY_6 := Y1.k6
  have cY_7 := Y1.k7
  have cY_8 := Y1.k8
  have cY_9 := Y1.k9
  have cY_10 := Y1.k10
  go_wp2_with fail
  clear cX_b cX_f cX_0 cX_1 cX_2 cX_3 cX_4 cX_5 cX_6 cX_7 cX_8 cX_9 cX_10
  clear cY_b cY_f cY_0 cY_1 cY_2 cY_3 cY_4 cY_5 cY_6 cY_7 cY_8 cY_9 cY_10
  refine (LV.out _).mono ?_; rintro e w2 ⟨rfl, b2⟩
  have d2 : Below w1.heap.size w1 w2 := below_step (by repeat (first | exact Below.refl _ _ | refine below_drewN ?_ _ | refine Below.drew ?_ | refine Below.setCell ?_ (by first | (simp; done) | (simp; omega) | omega) _ | refine Below.alloc ?_ (by first | (simp; done) | (simp; omega) | omega) _)) b2
  have B2 := Lib.hid (below_step B1.out d2)
  have X2 := X1.keep d2
  have Y2 := Y1.keep d2
  clear X1 Y1 b2 d2 B1
  have cX_b := X2.hb
  have cX_f := X2.fz
  have cX_0 := X2.k0
  have cX_1 := X2.k1
  have cX_2 := X2.k2
  have cX_3 := X2.k3
  have cX_4 := X2.k4
  have cX_5 := X2.k5
  have cX_6 := X2.k6
  have cX_7 := X2.k7
  have cX_8 := X2.k8
  have cX_9 := X2.k9
  have cX_10 := X2.k10
  have cY_b := Y2.hb
  have cY_f := Y2.fz
  have cY_0 := Y2.k0
  have cY_1 := Y2.k1
  have cY_2 := Y2.k2
  have cY_3 := Y2.k3
  have cY_4 := Y2.k4
  have cY_5 := Y2.k5
  have cY_6 := Y2.k6
  have cY_7 := Y2.k7
  have cY_8 := Y2.k8
  have cY_9 := Y2.k9
  have cY_10 := Y2.k10
  go_wp2_with fail
  clear cX_b cX_f cX_0 cX_1 cX_2 cX_3 cX_4 cX_5 cX_6 cX_7 cX_8 cX_9 cX_10
  clear cY_b cY_f cY_0 cY_1 cY_2 cY_3 cY_4 cY_5 cY_6 cY_7 cY_8 cY_9 cY_10
  refine (LT.out _ _ (HS.out _ _ _ rfl)).mono ?_; rintro e w3 ⟨rfl, b3⟩
  have d3 : Below w2.heap.size w2 w3 := below_step (by repeat (first | exact Below.refl _ _ | refine below_drewN ?_ _ | refine Below.drew ?_ | refine Below.setCell ?_ (by first | (simp; done) | (simp; omega) | omega) _ | refine Below.alloc ?_ (by first | (simp; done) | (simp; omega) | omega) _)) b3
  have B3 := Lib.hid (below_step B2.out d3)
  have X3 := X2.keep d3
  have Y3 := Y2.keep d3
  clear X2 Y2 b3 d3 B2
  cases li
  ·
    have cX_b := X3.hb
    have cX_f := X3.fz
    have cX_0 := X3.k0
    have cX_1 := X3.k1
    have cX_2 := X3.k2
    have cX_3 := X3.k3
    have cX_4 := X3.k4
    have cX_5 := X3.k5
    have cX_6 := X3.k6
    have cX_7 := X3.k7
    have cX_8 := X3.k8
    have cX_9 := X3.k9
    have cX_10 := X3.k10
    have cY_b := Y3.hb
    have cY_f := Y3.fz
    have cY_0 := Y3.k0
    have cY_1 := Y3.k1
    have cY_2 := Y3.k2
    have cY_3 := Y3.k3
    have cY_4 := Y3.k4
    have cY_5 := Y3.k5
    have cY_6 := Y3.k6
    have cY_7 := Y3.k7
    have cY_8 := Y3.k8
    have cY_9 := Y3.k9
    have cY_10 := Y3.k10
    go_wp2_with fail
    clear cX_b cX_f cX_0 cX_1 cX_2 cX_3 cX_4 cX_5 cX_6 cX_7 cX_8 cX_9 cX_10
    clear cY_b cY_f cY_0 cY_1 cY_2 cY_3 cY_4 cY_5 cY_6 cY_7 cY_8 cY_9 cY_10
    go_ret
    exact ⟨rfl, B3.out⟩
  ·
    have cX_b := X3.hb
    have cX_f := X3.fz
    have cX_0 := X3.k0
    have cX_1 := X3.k1
    have cX_2 := X3.k2
    have cX_3 := X3.k3
    have cX_4 := X3.k4
    have cX_5 := X3.k5
    have cX_6 := X3.k6
    have cX_7 := X3.k7
    have cX_8 := X3.k8
    have cX_9 := X3.k9
    have cX_10 := X3.k10
    have cY_b := Y3.hb
    have cY_f := Y3.fz
    have cY_0 := Y3.k0
    have cY_1 := Y3.k1
    have cY_2 := Y3.k2
    have cY_3 := Y3.k3
    have cY_4 := Y3.k4
    have cY_5 := Y3.k5
    have cY_6 := Y3.k6
    have cY_7 := Y3.k7
    have cY_8 := Y3.k8
    have cY_9 := Y3.k9
    have cY_10 := Y3.k10
    go_wp2_with fail
    clear cX_b cX_f cX_0 cX_1 cX_2 cX_3 cX_4 cX_5 cX_6 cX_7 cX_8 cX_9 cX_10
    clear cY_b cY_f cY_0 cY_1 cY_2 cY_3 cY_4 cY_5 cY_6 cY_7 cY_8 cY_9 cY_10
    refine (P1.out _).mono ?_; rintro e w4 ⟨rfl, b4⟩
    have d4 : Below w3.heap.size w3 w4 := below_step (by repeat (first | exact Below.refl _ _ | refine below_drewN ?_ _ | refine Below.drew ?_ | refine Below.setCell ?_ (by first | (simp; done) | (simp; omega) | omega) _ | refine Below.alloc ?_ (by first | (simp; done) | (simp; omega) | omega) _)) b4
    have B4 := Lib.hid (below_step B3.out d4)
    have X4 := X3.keep d4
    have Y4 := Y3.keep d4
    clear X3 Y3 b4 d4 B3
    have cX_b := X4.hb
    have cX_f := X4.fz
    have cX_0 := X4.k0
    have cX_1 := X4.k1
    have cX_2 := X4.k2
    have cX_3 := X4.k3
    have cX_4 := X4.k4
    have cX_5 := X4.k5
    have cX_6 := X4.k6
    have cX_7 := X4.k7
    have cX_8 := X4.k8
    have cX_9 := X4.k9
    have cX_10 := X4.k10
    have cY_b := Y4.hb
    have cY_f := Y4.fz
    have cY_0 := Y4.k0
    have cY_1 := Y4.k1
    have cY_2 := Y4.k2
    have cY_3 := Y4.k3
    have cY_4 := Y4.k4
    have cY_5 := Y4.k5
    have cY_6 := Y4.k6
    have cY_7 := Y4.k7
    have cY_8 := Y4.k8
    have cY_9 := Y4.k9
    have cY_10 := Y4.k10
    go_wp2_with fail
    clear cX_b cX_f cX_0 cX_1 cX_2 cX_3 cX_4 cX_5 cX_6 cX_7 cX_8 cX_9 cX_10
    clear cY_b cY_f cY_0 cY_1 cY_2 cY_3 cY_4 cY_5 cY_6 cY_7 cY_8 cY_9 cY_10
    refine (P2.out _).mono ?_; rintro e w5 ⟨rfl, b5⟩
    have d5 : Below w4.heap.size w4 w5 := below_step (by repeat (first | exact Below.refl _ _ | refine below_drewN ?_ _ | refine Below.drew ?_ | refine Below.setCell ?_ (by first | (simp; done) | (simp; omega) | omega) _ | refine Below.alloc ?_ (by first | (simp; done) | (simp; omega) | omega) _)) b5
    have B5 := Lib.hid (below_step B4.out d5)
    have X5 := X4.keep d5
    have Y5 := Y4.keep d5
    clear X4 Y4 b5 d5 B4
    rcases po with h0 | h4 | h15
    ·
      subst h0
      cases ra
      · exact absurd p4 (by cases rb <;> decide)
      ·
        cases rb
        · exact absurd p4 (by decide)
        ·
          have cX_b := X5.hb
          have cX_f := X5.fz
          have cX_0 := X5.k0
          have cX_1 := X5.k1
          have cX_2 := X5.k2
          have cX_3 := X5.k3
          have cX_4 := X5.k4
          have cX_5 := X5.k5
          have cX_6 := X5.k6
          have cX_7 := X5.k7
          have cX_8 := X5.k8
          have cX_9 := X5.k9
          have cX_10 := X5.k10
          have cY_b := Y5.hb
          have cY_f := Y5.fz
          have cY_0 := Y5.k0
          have cY_1 := Y5.k1
          have cY_2 := Y5.k2
          have cY_3 := Y5.k3
          have cY_4 := Y5.k4
          have cY_5 := Y5.k5
          have cY_6 := Y5.k6
          have cY_7 := Y5.k7
          have cY_8 := Y5.k8
          have cY_9 := Y5.k9
          have cY_10 := Y5.k10
          go_wp2_with fail
          clear cX_b cX_f cX_0 cX_1 cX_2 cX_3 cX_4 cX_5 cX_6 cX_7 cX_8 cX_9 cX_10
          clear cY_b cY_f cY_0 cY_1 cY_2 cY_3 cY_4 cY_5 cY_6 cY_7 cY_8 cY_9 cY_10
          refine (Q1.out _).mono ?_; rintro e w6 ⟨rfl, b6⟩
          have d6 : Below w5.heap.size w5 w6 := below_step (by repeat (first | exact Below.refl _ _ | refine below_drewN ?_ _ | refine Below.drew ?_ | refine Below.setCell ?_ (by first | (simp; done) | (simp; omega) | omega) _ | refine Below.alloc ?_ (by first | (simp; done) | (simp; omega) | omega) _)) b6
          have B6 := Lib.hid (below_step B5.out d6)
          have X6 := X5.keep d6
          have Y6 := Y5.keep d6
          clear X5 Y5 b6 d6 B5
          have cX_b := X6.hb
          have cX_f := X6.fz
          have cX_0 := X6.k0
          have cX_1 := X6.k1
          have cX_2 := X6.k2
          have cX_3 := X6.k3
          have cX_4 := X6.k4
          have cX_5 := X6.k5
          have cX_6 := X6.k6
          have cX_7 := X6.k7
          have cX_8 := X6.k8
          have cX_9 := X6.k9
          have cX_10 := X6.k10
          have cY_b := Y6.hb
          have cY_f := Y6.fz
          have cY_0 := Y6.k0
          have cY_1 := Y6.k1
          have cY_2 := Y6.k2
          have cY_3 := Y6.k3
          have cY_4 := Y6.k4
          have cY_5 := Y6.k5
          have cY_6 := Y6.k6
          have cY_7 := Y6.k7
          have cY_8 := Y6.k8
          have cY_9 := Y6.k9
          have cY_10 := Y6.k10
          go_wp2_with fail
          clear cX_b cX_f cX_0 cX_1 cX_2 cX_3 cX_4 cX_5 cX_6 cX_7 cX_8 cX_9 cX_10
          clear cY_b cY_f cY_0 cY_1 cY_2 cY_3 cY_4 cY_5 cY_6 cY_7 cY_8 cY_9 cY_10
          refine (Q2.out _).mono ?_; rintro e w7 ⟨rfl, b7⟩
          have d7 : Below w6.heap.size w6 w7 := below_step (by repeat (first | exact Below.refl _ _ | refine below_drewN ?_ _ | refine Below.drew ?_ | refine Below.setCell ?_ (by first | (simp; done) | (simp; omega) | omega) _ | refine Below.alloc ?_ (by first | (simp; done) | (simp; omega) | omega) _)) b7
          have B7 := Lib.hid (below_step B6.out d7)
          have X7 := X6.keep d7
          have Y7 := Y6.keep d7
          clear X6 Y6 b7 d7 B6
          have cX_b := X7.hb
          have cX_f := X7.fz
          have cX_0 := X7.k0
          have cX_1 := X7.k1
          have cX_2 := X7.k2
          have cX_3 := X7.k3
          have cX_4 := X7.k4
          have cX_5 := X7.k5
          have cX_6 := X7.k6
          have cX_7 := X7.k7
          have cX_8 := X7.k8
          have cX_9 := X7.k9
          have cX_10 := X7.k10
          have cY_b := Y7.hb
          have cY_f := Y7.fz
          have cY_0 := Y7.k0
          have cY_1 := Y7.k1
          have cY_2 := Y7.k2
          have cY_3 := Y7.k3
          have cY_4 := Y7.k4
          have cY_5 := Y7.k5
          have cY_6 := Y7.k6
          have cY_7 := Y7.k7
          have cY_8 := Y7.k8
          have cY_9 := Y7.k9
          have cY_10 := Y7.k10
          go_upto_region 10 with (fail)
          clear cX_b cX_f cX_0 cX_1 cX_2 cX_3 cX_4 cX_5 cX_6 cX_7 cX_8 cX_9 cX_10
          clear cY_b cY_f cY_0 cY_1 cY_2 cY_3 cY_4 cY_5 cY_6 cY_7 cY_8 cY_9 cY_10
          refine wp_named ?_; intro w8 hw8
          have d8 : Below w7.heap.size w7 w8 := by rw [hw8]; exact (by repeat (first | exact Below.refl _ _ | refine below_drewN ?_ _ | refine Below.drew ?_ | refine Below.setCell ?_ (by first | (simp; done) | (simp; omega) | omega) _ | refine Below.alloc ?_ (by first | (simp; done) | (simp; omega) | omega) _))
          have B8 := Lib.hid (below_step B7.out d8)
          have X8 := X7.keep d8
          have Y8 := Y7.keep d8
          have V8 : Bk11 w8 w7.heap.size (.string ⟨#[69, 108, 115, 101]⟩) (.int .i64 fy) (.int .i64 ty) (.int .i64 m) (.int .i64 k) (.int .i64 wk) (.int .i64 d) (.int .i64 sec) (.int .i64 base) (.int .i64 save) (.string t) := by rw [hw8]; exact ⟨by simp <;> omega, by intro j; simp [go_sem], by simp [go_sem], by simp [go_sem], by simp [go_sem], by simp [go_sem], by simp [go_sem], by simp [go_sem], by simp [go_sem], by simp [go_sem], by simp [go_sem], by simp [go_sem], by simp [go_sem]⟩
          clear X7 Y7 d8 hw8 B7
          obtain rfl : z = 0 := pn (by decide)
          have cX_b := X8.hb
          have cX_f := X8.fz
          have cX_0 := X8.k0
          have cX_1 := X8.k1
          have cX_2 := X8.k2
          have cX_3 := X8.k3
          have cX_4 := X8.k4
          have cX_5 := X8.k5
          have cX_6 := X8.k6
          have cX_7 := X8.k7
          have cX_8 := X8.k8
          have cX_9 := X8.k9
          have cX_10 := X8.k10
          have cY_b := Y8.hb
          have cY_f := Y8.fz
          have cY_0 := Y8.k0
          have cY_1 := Y8.k1
          have cY_2 := Y8.k2
          have cY_3 := Y8.k3
          have cY_4 := Y8.k4
          have cY_5 := Y8.k5
          have cY_6 := Y8.k6
          have cY_7 := Y8.k7
          have cY_8 := Y8.k8
          have cY_9 := Y8.k9
          have cY_10 := Y8.k10
          have cV_b := V8.hb
          have cV_f := V8.fz
          have cV_0 := V8.k0
          have cV_1 := V8.k1
          have cV_2 := V8.k2
          have cV_3 := V8.k3
          have cV_4 := V8.k4
          have cV_5 := V8.k5
          have cV_6 := V8.k6
          have cV_7 := V8.k7
          have cV_8 := V8.k8
          have cV_9 := V8.k9
          have cV_10 := V8.k10
          go_wp2_with fail
          clear cX_b cX_f cX_0 cX_1 cX_2 cX_3 cX_4 cX_5 cX_6 cX_7 cX_8 cX_9 cX_10
          clear cY_b cY_f cY_0 cY_1 cY_2 cY_3 cY_4 cY_5 cY_6 cY_7 cY_8 cY_9 cY_10
          clear cV_b cV_f cV_0 cV_1 cV_2 cV_3 cV_4 cV_5 cV_6 cV_7 cV_8 cV_9 cV_10
          refine (P3.out _).mono ?_; rintro e w9 ⟨rfl, b9⟩
          have d9 : Below w8.heap.size w8 w9 := below_step (by repeat (first | exact Below.refl _ _ | refine below_drewN ?_ _ | refine Below.drew ?_ | refine Below.setCell ?_ (by first | (simp; done) | (simp; omega) | omega) _ | refine Below.alloc ?_ (by first | (simp; done) | (simp; omega) | omega) _)) b9
          have B9 := Lib.hid (below_step B8.out d9)
          have X9 := X8.keep d9
          have Y9 := Y8.keep d9
          have V9 := V8.keep d9
          clear X8 Y8 V8 b9 d9 B8
          have cX_b := X9.hb
          have cX_f := X9.fz
          have cX_0 := X9.k0
          have cX_1 := X9.k1
          have cX_2 := X9.k2
          have cX_3 := X9.k3
          have cX_4 := X9.k4
          have cX_5 := X9.k5
          have cX_6 := X9.k6
          have cX_7 := X9.k7
          have cX_8 := X9.k8
          have cX_9 := X9.k9
          have cX_10 := X9.k10
          have cY_b := Y9.hb
          have cY_f := Y9.fz
          have cY_0 := Y9.k0
          have cY_1 := Y9.k1
          have cY_2 := Y9.k2
          have cY_3 := Y9.k3
          have cY_4 := Y9.k4
          have cY_5 := Y9.k5
          have cY_6 := Y9.k6
          have cY_7 := Y9.k7
          have cY_8 := Y9.k8
          have cY_9 := Y9.k9
          have cY_10 := Y9.k10
          have cV_b := V9.hb
          have cV_f := V9.fz
          have cV_0 := V9.k0
          have cV_1 := V9.k1
          have cV_2 := V9.k2
          have cV_3 := V9.k3
          have cV_4 := V9.k4
          have cV_5 := V9.k5
          have cV_6 := V9.k6
          have cV_7 := V9.k7
          have cV_8 := V9.k8
          have cV_9 := V9.k9
          have cV_10 := V9.k10
          go_wp2_with fail
          clear cX_b cX_f cX_0 cX_1 cX_2 cX_3 cX_4 cX_5 cX_6 cX_7 cX_8 cX_9 cX_10
          clear cY_b cY_f cY_0 cY_1 cY_2 cY_3 cY_4 cY_5 cY_6 cY_7 cY_8 cY_9 cY_10
          clear cV_b cV_f cV_0 cV_1 cV_2 cV_3 cV_4 cV_5 cV_6 cV_7 cV_8 cV_9 cV_10
          go_ret
          exact ⟨rfl, B9.out⟩
    ·
      subst h4
      cases ra
      ·
        have cX_b := X5.hb
        have cX_f := X5.fz
        have cX_0 := X5.k0
        have cX_1 := X5.k1
        have cX_2 := X5.k2
        have cX_3 := X5.k3
        have cX_4 := X5.k4
        have cX_5 := X5.k5
        have cX_6 := X5.k6
        have cX_7 := X5.k7
        have cX_8 := X5.k8
        have cX_9 := X5.k9
        have cX_10 := X5.k10
        have cY_b := Y5.hb
        have cY_f := Y5.fz
        have cY_0 := Y5.k0
        have cY_1 := Y5.k1
        have cY_2 := Y5.k2
        have cY_3 := Y5.k3
        have cY_4 := Y5.k4
        have cY_5 := Y5.k5
        have cY_6 := Y5.k6
        have cY_7 := Y5.k7
        have cY_8 := Y5.k8
        have cY_9 := Y5.k9
        have cY_10 := Y5.k10
        go_wp2_with fail
        clear cX_b cX_f cX_0 cX_1 cX_2 cX_3 cX_4 cX_5 cX_6 cX_7 cX_8 cX_9 cX_10
        clear cY_b cY_f cY_0 cY_1 cY_2 cY_3 cY_4 cY_5 cY_6 cY_7 cY_8 cY_9 cY_10
        refine (Q1.out _).mono ?_; rintro e w6 ⟨rfl, b6⟩
        have d6 : Below w5.heap.size w5 w6 := below_step (by repeat (first | exact Below.refl _ _ | refine below_drewN ?_ _ | refine Below.drew ?_ | refine Below.setCell ?_ (by first | (simp; done) | (simp; omega) | omega) _ | refine Below.alloc ?_ (by first | (simp; done) | (simp; omega) | omega) _)) b6
        have B6 := Lib.hid (below_step B5.out d6)
        have X6 := X5.keep d6
        have Y6 := Y5.keep d6
        clear X5 Y5 b6 d6 B5
        have cX_b := X6.hb
        have cX_f := X6.fz
        have cX_0 := X6.k0
        have cX_1 := X6.k1
        have cX_2 := X6.k2
        have cX_3 := X6.k3
        have cX_4 := X6.k4
        have cX_5 := X6.k5
        have cX_6 := X6.k6
        have cX_7 := X6.k7
        have cX_8 := X6.k8
        have cX_9 := X6.k9
        have cX_10 := X6.k10
        have cY_b := Y6.hb
        have cY_f := Y6.fz
        have cY_0 := Y6.k0
        have cY_1 := Y6.k1
        have cY_2 := Y6.k2
        have cY_3 := Y6.k3
        have cY_4 := Y6.k4
        have cY_5 := Y6.k5
        have cY_6 := Y6.k6
        have cY_7 := Y6.k7
        have cY_8 := Y6.k8
        have cY_9 := Y6.k9
        have cY_10 := Y6.k10
        go_upto_region 10 with (fail)
        clear cX_b cX_f cX_0 cX_1 cX_2 cX_3 cX_4 cX_5 cX_6 cX_7 cX_8 cX_9 cX_10
        clear cY_b cY_f cY_0 cY_1 cY_2 cY_3 cY_4 cY_5 cY_6 cY_7 cY_8 cY_9 cY_10
        refine wp_named ?_; intro w7 hw7
        have d7 : Below w6.heap.size w6 w7 := by rw [hw7]; exact (by repeat (first | exact Below.refl _ _ | refine below_drewN ?_ _ | refine Below.drew ?_ | refine Below.setCell ?_ (by first | (simp; done) | (simp; omega) | omega) _ | refine Below.alloc ?_ (by first | (simp; done) | (simp; omega) | omega) _))
        have B7 := Lib.hid (below_step B6.out d7)
        have X7 := X6.keep d7
        have Y7 := Y6.keep d7
        have V7 : Bk11 w7 w6.heap.size (.string ⟨#[69, 108, 115, 101]⟩) (.int .i64 fy) (.int .i64 ty) (.int .i64 m) (.int .i64 k) (.int .i64 wk) (.int .i64 d) (.int .i64 sec) (.int .i64 base) (.int .i64 save) (.string t) := by rw [hw7]; exact ⟨by simp <;> omega, by intro j; simp [go_sem], by simp [go_sem], by simp [go_sem], by simp [go_sem], by simp [go_sem], by simp [go_sem], by simp [go_sem], by simp [go_sem], by simp [go_sem], by simp [go_sem], by simp [go_sem], by simp [go_sem]⟩
        clear X6 Y6 d7 hw7 B6
        have cX_b := X7.hb
        have cX_f := X7.fz
        have cX_0 := X7.k0
        have cX_1 := X7.k1
        have cX_2 := X7.k2
        have cX_3 := X7.k3
        have cX_4 := X7.k4
        have cX_5 := X7.k5
        have cX_6 := X7.k6
        have cX_7 := X7.k7
        have cX_8 := X7.k8
        have cX_9 := X7.k9
        have cX_10 := X7.k10
        have cY_b := Y7.hb
        have cY_f := Y7.fz
        have cY_0 := Y7.k0
        have cY_1 := Y7.k1
        have cY_2 := Y7.k2
        have cY_3 := Y7.k3
        have cY_4 := Y7.k4
        have cY_5 := Y7.k5
        have cY_6 := Y7.k6
        have cY_7 := Y7.k7
        have cY_8 := Y7.k8
        have cY_9 := Y7.k9
        have cY_10 := Y7.k10
        have cV_b := V7.hb
        have cV_f := V7.fz
        have cV_0 := V7.k0
        have cV_1 := V7.k1
        have cV_2 := V7.k2
        have cV_3 := V7.k3
        have cV_4 := V7.k4
        have cV_5 := V7.k5
        have cV_6 := V7.k6
        have cV_7 := V7.k7
        have cV_8 := V7.k8
        have cV_9 := V7.k9
        have cV_10 := V7.k10
        go_wp2_with fail
        clear cX_b cX_f cX_0 cX_1 cX_2 cX_3 cX_4 cX_5 cX_6 cX_7 cX_8 cX_9 cX_10
        clear cY_b cY_f cY_0 cY_1 cY_2 cY_3 cY_4 cY_5 cY_6 cY_7 cY_8 cY_9 cY_10
        clear cV_b cV_f cV_0 cV_1 cV_2 cV_3 cV_4 cV_5 cV_6 cV_7 cV_8 cV_9 cV_10
        go_ret
        exact ⟨rfl, B7.out⟩
      ·
        cases rb
        ·
          have cX_b := X5.hb
          have cX_f := X5.fz
          have cX_0 := X5.k0
          have cX_1 := X5.k1
          have cX_2 := X5.k2
          have cX_3 := X5.k3
          have cX_4 := X5.k4
          have cX_5 := X5.k5
          have cX_6 := X5.k6
          have cX_7 := X5.k7
          have cX_8 := X5.k8
          have cX_9 := X5.k9
          have cX_10 := X5.k10
          have cY_b := Y5.hb
          have cY_f := Y5.fz
          have cY_0 := Y5.k0
          have cY_1 := Y5.k1
          have cY_2 := Y5.k2
          have cY_3 := Y5.k3
          have cY_4 := Y5.k4
          have cY_5 := Y5.k5
          have cY_6 := Y5.k6
          have cY_7 := Y5.k7
          have cY_8 := Y5.k8
          have cY_9 := Y5.k9
          have cY_10 := Y5.k10
          go_wp2_with fail
          clear cX_b cX_f cX_0 cX_1 cX_2 cX_3 cX_4 cX_5 cX_6 cX_7 cX_8 cX_9 cX_10
          clear cY_b cY_f cY_0 cY_1 cY_2 cY_3 cY_4 cY_5 cY_6 cY_7 cY_8 cY_9 cY_10
          refine (Q1.out _).mono ?_; rintro e w6 ⟨rfl, b6⟩
          have d6 : Below w5.heap.size w5 w6 := below_step (by repeat (first | exact Below.refl _ _ | refine below_drewN ?_ _ | refine Below.drew ?_ | refine Below.setCell ?_ (by first | (simp; done) | (simp; omega) | omega) _ | refine Below.alloc ?_ (by first | (simp; done) | (simp; omega) | omega) _)) b6
          have B6 := Lib.hid (below_step B5.out d6)
          have X6 := X5.keep d6
          have Y6 := Y5.keep d6
          clear X5 Y5 b6 d6 B5
          have cX_b := X6.hb
          have cX_f := X6.fz
          have cX_0 := X6.k0
          have cX_1 := X6.k1
          have cX_2 := X6.k2
          have cX_3 := X6.k3
          have cX_4 := X6.k4
          have cX_5 := X6.k5
          have cX_6 := X6.k6
          have cX_7 := X6.k7
          have cX_8 := X6.k8
          have cX_9 := X6.k9
          have cX_10 := X6.k10
          have cY_b := Y6.hb
          have cY_f := Y6.fz
          have cY_0 := Y6.k0
          have cY_1 := Y6.k1
          have cY_2 := Y6.k2
          have cY_3 := Y6.k3
          have cY_4 := Y6.k4
          have cY_5 := Y6.k5
          have cY_6 := Y6.k6
          have cY_7 := Y6.k7
          have cY_8 := Y6.k8
          have cY_9 := Y6.k9
          have cY_10 := Y6.k10
          go_wp2_with fail
          clear cX_b cX_f cX_0 cX_1 cX_2 cX_3 cX_4 cX_5 cX_6 cX_7 cX_8 cX_9 cX_10
          clear cY_b cY_f cY_0 cY_1 cY_2 cY_3 cY_4 cY_5 cY_6 cY_7 cY_8 cY_9 cY_10
          refine (Q2.out _).mono ?_; rintro e w7 ⟨rfl, b7⟩
          have d7 : Below w6.heap.size w6 w7 := below_step (by repeat (first | exact Below.refl _ _ | refine below_drewN ?_ _ | refine Below.drew ?_ | refine Below.setCell ?_ (by first | (simp; done) | (simp; omega) | omega) _ | refine Below.alloc ?_ (by first | (simp; done) | (simp; omega) | omega) _)) b7
          have B7 := Lib.hid (below_step B6.out d7)
          have X7 := X6.keep d7
          have Y7 := Y6.keep d7
          clear X6 Y6 b7 d7 B6
          have cX_b := X7.hb
          have cX_f := X7.fz
          have cX_0 := X7.k0
          have cX_1 := X7.k1
          have cX_2 := X7.k2
          have cX_3 := X7.k3
          have cX_4 := X7.k4
          have cX_5 := X7.k5
          have cX_6 := X7.k6
          have cX_7 := X7.k7
          have cX_8 := X7.k8
          have cX_9 := X7.k9
          have cX_10 := X7.k10
          have cY_b := Y7.hb
          have cY_f := Y7.fz
          have cY_0 := Y7.k0
          have cY_1 := Y7.k1
          have cY_2 := Y7.k2
          have cY_3 := Y7.k3
          have cY_4 := Y7.k4
          have cY_5 := Y7.k5
          have cY_6 := Y7.k6
          have cY_7 := Y7.k7
          have cY_8 := Y7.k8
          have cY_9 := Y7.k9
          have cY_10 := Y7.k10
          go_upto_region 10 with (fail)
          clear cX_b cX_f cX_0 cX_1 cX_2 cX_3 cX_4 cX_5 cX_6 cX_7 cX_8 cX_9 cX_10
          clear cY_b cY_f cY_0 cY_1 cY_2 cY_3 cY_4 cY_5 cY_6 cY_7 cY_8 cY_9 cY_10
          refine wp_named ?_; intro w8 hw8
          have d8 : Below w7.heap.size w7 w8 := by rw [hw8]; exact (by repeat (first | exact Below.refl _ _ | refine below_drewN ?_ _ | refine Below.drew ?_ | refine Below.setCell ?_ (by first | (simp; done) | (simp; omega) | omega) _ | refine Below.alloc ?_ (by first | (simp; done) | (simp; omega) | omega) _))
          have B8 := Lib.hid (below_step B7.out d8)
          have X8 := X7.keep d8
          have Y8 := Y7.keep d8
          have V8 : Bk11 w8 w7.heap.size (.string ⟨#[69, 108, 115, 101]⟩) (.int .i64 fy) (.int .i64 ty) (.int .i64 m) (.int .i64 k) (.int .i64 wk) (.int .i64 d) (.int .i64 sec) (.int .i64 base) (.int .i64 save) (.string t) := by rw [hw8]; exact ⟨by simp <;> omega, by intro j; simp [go_sem], by simp [go_sem], by simp [go_sem], by simp [go_sem], by simp [go_sem], by simp [go_sem], by simp [go_sem], by simp [go_sem], by simp [go_sem], by simp [go_sem], by simp [go_sem], by simp [go_sem]⟩
          clear X7 Y7 d8 hw8 B7
          have cX_b := X8.hb
          have cX_f := X8.fz
          have cX_0 := X8.k0
          have cX_1 := X8.k1
          have cX_2 := X8.k2
          have cX_3 := X8.k3
          have cX_4 := X8.k4
          have cX_5 := X8.k5
          have cX_6 := X8.k6
          have cX_7 := X8.k7
          have cX_8 := X8.k8
          have cX_9 := X8.k9
          have cX_10 := X8.k10
          have cY_b := Y8.hb
          have cY_f := Y8.fz
          have cY_0 := Y8.k0
          have cY_1 := Y8.k1
          have cY_2 := Y8.k2
          have cY_3 := Y8.k3
          have cY_4 := Y8.k4
          have cY_5 := Y8.k5
          have cY_6 := Y8.k6
          have cY_7 := Y8.k7
          have cY_8 := Y8.k8
          have cY_9 := Y8.k9
          have cY_10 := Y8.k10
          have cV_b := V8.hb
          have cV_f := V8.fz
          have cV_0 := V8.k0
          have cV_1 := V8.k1
          have cV_2 := V8.k2
          have cV_3 := V8.k3
          have cV_4 := V8.k4
          have cV_5 := V8.k5
          have cV_6 := V8.k6
          have cV_7 := V8.k7
          have cV_8 := V8.k8
          have cV_9 := V8.k9
          have cV_10 := V8.k10
          go_wp2_with fail
          clear cX_b cX_f cX_0 cX_1 cX_2 cX_3 cX_4 cX_5 cX_6 cX_7 cX_8 cX_9 cX_10
          clear cY_b cY_f cY_0 cY_1 cY_2 cY_3 cY_4 cY_5 cY_6 cY_7 cY_8 cY_9 cY_10
          clear cV_b cV_f cV_0 cV_1 cV_2 cV_3 cV_4 cV_5 cV_6 cV_7 cV_8 cV_9 cV_10
          go_ret
          exact ⟨rfl, B8.out⟩
        · cases p4
    ·
      subst h15
      cases ra
      · exact absurd p4 (by cases rb <;> decide)
      ·
        cases rb
        · exact absurd p4 (by decide)
        ·
          have cX_b := X5.hb
          have cX_f := X5.fz
          have cX_0 := X5.k0
          have cX_1 := X5.k1
          have cX_2 := X5.k2
          have cX_3 := X5.k3
          have cX_4 := X5.k4
          have cX_5 := X5.k5
          have cX_6 := X5.k6
          have cX_7 := X5.k7
          have cX_8 := X5.k8
          have cX_9 := X5.k9
          have cX_10 := X5.k10
          have cY_b := Y5.hb
          have cY_f := Y5.fz
          have cY_0 := Y5.k0
          have cY_1 := Y5.k1
          have cY_2 := Y5.k2
          have cY_3 := Y5.k3
          have cY_4 := Y5.k4
          have cY_5 := Y5.k5
          have cY_6 := Y5.k6
          have cY_7 := Y5.k7
          have cY_8 := Y5.k8
          have cY_9 := Y5.k9
          have cY_10 := Y5.k10
          go_wp2_with fail
          clear cX_b cX_f cX_0 cX_1 cX_2 cX_3 cX_4 cX_5 cX_6 cX_7 cX_8 cX_9 cX_10
          clear cY_b cY_f cY_0 cY_1 cY_2 cY_3 cY_4 cY_5 cY_6 cY_7 cY_8 cY_9 cY_10
          refine (Q1.out _).mono ?_; rintro e w6 ⟨rfl, b6⟩
          have d6 : Below w5.heap.size w5 w6 := below_step (by repeat (first | exact Below.refl _ _ | refine below_drewN ?_ _ | refine Below.drew ?_ | refine Below.setCell ?_ (by first | (simp; done) | (simp; omega) | omega) _ | refine Below.alloc ?_ (by first | (simp; done) | (simp; omega) | omega) _)) b6
          have B6 := Lib.hid (below_step B5.out d6)
          have X6 := X5.keep d6
          have Y6 := Y5.keep d6
          clear X5 Y5 b6 d6 B5
          have cX_b := X6.hb
          have cX_f := X6.fz
          have cX_0 := X6.k0
          have cX_1 := X6.k1
          have cX_2 := X6.k2
          have cX_3 := X6.k3
          have cX_4 := X6.k4
          have cX_5 := X6.k5
          have cX_6 := X6.k6
          have cX_7 := X6.k7
          have cX_8 := X6.k8
          have cX_9 := X6.k9
          have cX_10 := X6.k10
          have cY_b := Y6.hb
          have cY_f := Y6.fz
          have cY_0 := Y6.k0
          have cY_1 := Y6.k1
          have cY_2 := Y6.k2
          have cY_3 := Y6.k3
          have cY_4 := Y6.k4
          have cY_5 := Y6.k5
          have cY_6 := Y6.k6
          have cY_7 := Y6.k7
          have cY_8 := Y6.k8
          have cY_9 := Y6.k9
          have cY_10 := Y6.k10
          go_wp2_with fail
          clear cX_b cX_f cX_0 cX_1 cX_2 cX_3 cX_4 cX_5 cX_6 cX_7 cX_8 cX_9 cX_10
          clear cY_b cY_f cY_0 cY_1 cY_2 cY_3 cY_4 cY_5 cY_6 cY_7 cY_8 cY_9 cY_10
          refine (Q2.out _).mono ?_; rintro e w7 ⟨rfl, b7⟩
          have d7 : Below w6.heap.size w6 w7 := below_step (by repeat (first | exact Below.refl _ _ | refine below_drewN ?_ _ | refine Below.drew ?_ | refine Below.setCell ?_ (by first | (simp; done) | (simp; omega) | omega) _ | refine Below.alloc ?_ (by first | (simp; done) | (simp; omega) | omega) _)) b7
          have B7 := Lib.hid (below_step B6.out d7)
          have X7 := X6.keep d7
          have Y7 := Y6.keep d7
          clear X6 Y6 b7 d7 B6
          have cX_b := X7.hb
          have cX_f := X7.fz
          have cX_0 := X7.k0
          have cX_1 := X7.k1
          have cX_2 := X7.k2
          have cX_3 := X7.k3
          have cX_4 := X7.k4
          have cX_5 := X7.k5
          have cX_6 := X7.k6
          have cX_7 := X7.k7
          have cX_8 := X7.k8
          have cX_9 := X7.k9
          have cX_10 := X7.k10
          have cY_b := Y7.hb
          have cY_f := Y7.fz
          have cY_0 := Y7.k0
          have cY_1 := Y7.k1
          have cY_2 := Y7.k2
          have cY_3 := Y7.k3
          have cY_4 := Y7.k4
          have cY_5 := Y7.k5
          have cY_6 := Y7.k6
          have cY_7 := Y7.k7
          have cY_8 := Y7.k8
          have cY_9 := Y7.k9
          have cY_10 := Y7.k10
          go_upto_region 10 with (fail)
          clear cX_b cX_f cX_0 cX_1 cX_2 cX_3 cX_4 cX_5 cX_6 cX_7 cX_8 cX_9 cX_10
          clear cY_b cY_f cY_0 cY_1 cY_2 cY_3 cY_4 cY_5 cY_6 cY_7 cY_8 cY_9 cY_10
          refine wp_named ?_; intro w8 hw8
          have d8 : Below w7.heap.size w7 w8 := by rw [hw8]; exact (by repeat (first | exact Below.refl _ _ | refine below_drewN ?_ _ | refine Below.drew ?_ | refine Below.setCell ?_ (by first | (simp; done) | (simp; omega) | omega) _ | refine Below.alloc ?_ (by first | (simp; done) | (simp; omega) | omega) _))
          have B8 := Lib.hid (below_step B7.out d8)
          have X8 := X7.keep d8
          have Y8 := Y7.keep d8
          have V8 : Bk11 w8 w7.heap.size (.string ⟨#[69, 108, 115, 101]⟩) (.int .i64 fy) (.int .i64 ty) (.int .i64 m) (.int .i64 k) (.int .i64 wk) (.int .i64 d) (.int .i64 sec) (.int .i64 base) (.int .i64 save) (.string t) := by rw [hw8]; exact ⟨by simp <;> omega, by intro j; simp [go_sem], by simp [go_sem], by simp [go_sem], by simp [go_sem], by simp [go_sem], by simp [go_sem], by simp [go_sem], by simp [go_sem], by simp [go_sem], by simp [go_sem], by simp [go_sem], by simp [go_sem]⟩
          clear X7 Y7 d8 hw8 B7
          obtain rfl : z = 15 := pn (by decide)
          have cX_b := X8.hb
          have cX_f := X8.fz
          have cX_0 := X8.k0
          have cX_1 := X8.k1
          have cX_2 := X8.k2
          have cX_3 := X8.k3
          have cX_4 := X8.k4
          have cX_5 := X8.k5
          have cX_6 := X8.k6
          have cX_7 := X8.k7
          have cX_8 := X8.k8
          have cX_9 := X8.k9
          have cX_10 := X8.k10
          have cY_b := Y8.hb
          have cY_f := Y8.fz
          have cY_0 := Y8.k0
          have cY_1 := Y8.k1
          have cY_2 := Y8.k2
          have cY_3 := Y8.k3
          have cY_4 := Y8.k4
          have cY_5 := Y8.k5
          have cY_6 := Y8.k6
          have cY_7 := Y8.k7
          have cY_8 := Y8.k8
          have cY_9 := Y8.k9
          have cY_10 := Y8.k10
          have cV_b := V8.hb
          have cV_f := V8.fz
          have cV_0 := V8.k0
          have cV_1 := V8.k1
          have cV_2 := V8.k2
          have cV_3 := V8.k3
          have cV_4 := V8.k4
          have cV_5 := V8.k5
          have cV_6 := V8.k6
          have cV_7 := V8.k7
          have cV_8 := V8.k8
          have cV_9 := V8.k9
          have cV_10 := V8.k10
          go_wp2_with fail
          clear cX_b cX_f cX_0 cX_1 cX_2 cX_3 cX_4 cX_5 cX_6 cX_7 cX_8 cX_9 cX_10
          clear cY_b cY_f cY_0 cY_1 cY_2 cY_3 cY_4 cY_5 cY_6 cY_7 cY_8 cY_9 cY_10
          clear cV_b cV_f cV_0 cV_1 cV_2 cV_3 cV_4 cV_5 cV_6 cV_7 cV_8 cV_9 cV_10
          refine (P3.out _).mono ?_; rintro e w9 ⟨rfl, b9⟩
          have d9 : Below w8.heap.size w8 w9 := below_step (by repeat (first | exact Below.refl _ _ | refine below_drewN ?_ _ | refine Below.drew ?_ | refine Below.setCell ?_ (by first | (simp; done) | (simp; omega) | omega) _ | refine Below.alloc ?_ (by first | (simp; done) | (simp; omega) | omega) _)) b9
          have B9 := Lib.hid (below_step B8.out d9)
          have X9 := X8.keep d9
          have Y9 := Y8.keep d9
          have V9 := V8.keep d9
          clear X8 Y8 V8 b9 d9 B8
          obtain ⟨o1, o2⟩ := p15 (by first | rfl | trivial)
          obtain ⟨a1, a2, a3⟩ := bdA (by first | rfl | trivial)
          obtain ⟨a4, a5, a6⟩ := bdB (by first | rfl | trivial)
          have cX_b := X9.hb
          have cX_f := X9.fz
          have cX_0 := X9.k0
          have cX_1 := X9.k1
          have cX_2 := X9.k2
          have cX_3 := X9.k3
          have cX_4 := X9.k4
          have cX_5 := X9.k5
          have cX_6 := X9.k6
          have cX_7 := X9.k7
          have cX_8 := X9.k8
          have cX_9 := X9.k9
          have cX_10 := X9.k10
          have cY_b := Y9.hb
          have cY_f := Y9.fz
          have cY_0 := Y9.k0
          have cY_1 := Y9.k1
          have cY_2 := Y9.k2
          have cY_3 := Y9.k3
          have cY_4 := Y9.k4
          have cY_5 := Y9.k5
          have cY_6 := Y9.k6
          have cY_7 := Y9.k7
          have cY_8 := Y9.k8
          have cY_9 := Y9.k9
          have cY_10 := Y9.k10
          have cV_b := V9.hb
          have cV_f := V9.fz
          have cV_0 := V9.k0
          have cV_1 := V9.k1
          have cV_2 := V9.k2
          have cV_3 := V9.k3
          have cV_4 := V9.k4
          have cV_5 := V9.k5
          have cV_6 := V9.k6
          have cV_7 := V9.k7
          have cV_8 := V9.k8
          have cV_9 := V9.k9
          have cV_10 := V9.k10
          go_wp2_with fail
          clear cX_b cX_f cX_0 cX_1 cX_2 cX_3 cX_4 cX_5 cX_6 cX_7 cX_8 cX_9 cX_10
          clear cY_b cY_f cY_0 cY_1 cY_2 cY_3 cY_4 cY_5 cY_6 cY_7 cY_8 cY_9 cY_10
          clear cV_b cV_f cV_0 cV_1 cV_2 cV_3 cV_4 cV_5 cV_6 cV_7 cV_8 cV_9 cV_10
          go_ret
          exact ⟨rfl, B9.out⟩
end Go.Proofs.Ytjnhaabbnbcaeaa
