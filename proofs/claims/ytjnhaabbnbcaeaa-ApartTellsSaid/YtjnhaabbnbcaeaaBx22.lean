/- Joined: AwJ. -/
import Derived.Test.YtjnhaabbnbcaeaaBx21
import Derived.Test.YtjnhaabbnbcaeaaBx10
/- Rules far enough from each other: pairs, by the reference. -/
set_option linter.unusedVariables false
set_option linter.unusedSimpArgs false
namespace Go.Proofs.Ytjnhaabbnbcaeaa
open Go.RowKit Go.Sort
theorem Aw.pr_plain (fy ty x2 x3 fy' ty' y2 y3 : Int) : Aw.pr (fy, ty, x2, x3, 0) (fy', ty', y2, y3, 0) = if ((decide (max fy fy' ≤ min ty ty') && (decide (y2 - x3 < 345600) && decide (x2 - y3 < 345600))) || ((decide (max (fy + 1) fy' ≤ min (ty + 1) ty') && decide (31536000 + y2 - x3 < 345600)) || (decide (max (fy' + 1) fy ≤ min (ty' + 1) ty) && decide (31536000 + x2 - y3 < 345600)))) = true then 15 else 0 := by
  have e : ∀ a b c n : Int, (!decide (345600 ≤ b + n * 31536000 - c)) = decide (n * 31536000 + b - c < 345600) := fun a b c n => by
    rw [← decide_not]; exact decide_eq_decide.2 (by omega)
  have g : Aw.near (fy, ty, x2, x3, 0) (fy', ty', y2, y3, 0) = ((decide (max fy fy' ≤ min ty ty') && (decide (y2 - x3 < 345600) && decide (x2 - y3 < 345600))) || ((decide (max (fy + 1) fy' ≤ min (ty + 1) ty') && decide (31536000 + y2 - x3 < 345600)) || (decide (max (fy' + 1) fy ≤ min (ty' + 1) ty) && decide (31536000 + x2 - y3 < 345600)))) := by
    unfold Aw.near Aw.inY Aw.isB
    simp only [e 0]
    simp only [Int.add_zero, Int.zero_mul, Int.zero_add, Int.one_mul]
  unfold Aw.pr
  rw [if_pos ⟨rfl, rfl⟩, g]
set_option maxRecDepth 100000 in
theorem rfollows_any (s : ByteArray) (fy ty m k wk d sec base save : Int) (t : ByteArray) (s' : ByteArray) (fy' ty' m' k' wk' d' sec' base' save' : Int) (t' : ByteArray) (w : World) (h0 : -1000000000 ≤ fy) (h1 : fy ≤ 1000000000) (h2 : -1000000000 ≤ ty) (h3 : ty ≤ 1000000000) :
    Calls Try.prog 29 #[.agg #[.string s, .int .i64 fy, .int .i64 ty, .int .i64 m, .int .i64 k, .int .i64 wk, .int .i64 d, .int .i64 sec, .int .i64 base, .int .i64 save, .string t], .agg #[.string s', .int .i64 fy', .int .i64 ty', .int .i64 m', .int .i64 k', .int .i64 wk', .int .i64 d', .int .i64 sec', .int .i64 base', .int .i64 save', .string t']] w fun e w' => e = .returned (.bool (decide (max (fy + 1) fy' ≤ min (ty + 1) ty'))) ∧ Below w.heap.size w w' := by
  go_enter Try.func29, Try.ntmps29
  go_wp2_with fail
  go_ret
  exact ⟨rfl, by repeat (first | exact Below.refl _ _ | refine Below.setCell ?_ (by first | (simp; done) | (simp; omega) | omega) _ | refine Below.alloc ?_ (by first | (simp; done) | (simp; omega) | omega) _)⟩
set_option maxHeartbeats 4000000 in
set_option maxRecDepth 100000 in
theorem rpair27_any (s : ByteArray) (fy ty m k wk d sec base save : Int) (t : ByteArray) (s' : ByteArray) (fy' ty' m' k' wk' d' sec' base' save' : Int) (t' : ByteArray) (w : World) (hs : s.size ≤ maxLen) (ht : t.size ≤ 100000) (hs' : s'.size ≤ maxLen) (ht' : t'.size ≤ 100000) :
    Calls Try.prog 13 #[.agg #[.string s, .int .i64 fy, .int .i64 ty, .int .i64 m, .int .i64 k, .int .i64 wk, .int .i64 d, .int .i64 sec, .int .i64 base, .int .i64 save, .string t], .agg #[.string s', .int .i64 fy', .int .i64 ty', .int .i64 m', .int .i64 k', .int .i64 wk', .int .i64 d', .int .i64 sec', .int .i64 base', .int .i64 save', .string t']] w fun e w' => e = .returned (.int .i64 (Aw.pr (Aw.rc (s, fy, ty, m, k, wk, d, sec, base, save, t)) (Aw.rc (s', fy', ty', m', k', wk', d', sec', base', save', t')))) ∧ Below w.heap.size w w' := by
  have WA := Lib.hid (fun W => rwindow27_any s fy ty m k wk d sec base save t W hs ht)
  have WB := Lib.hid (fun W => rwindow27_any s' fy' ty' m' k' wk' d' sec' base' save' t' W hs' ht')
  have okA := Aw.ok_rc (s, fy, ty, m, k, wk, d, sec, base, save, t)
  have okB := Aw.ok_rc (s', fy', ty', m', k', wk', d', sec', base', save', t')
  unfold Aw.rc at okA okB ⊢
  dsimp only at okA okB ⊢
  generalize Aw.lo (s, fy, ty, m, k, wk, d, sec, base, save, t) = x2 at *
  generalize Aw.hi (s, fy, ty, m, k, wk, d, sec, base, save, t) = x3 at *
  generalize Aw.wy (s, fy, ty, m, k, wk, d, sec, base, save, t) = x4 at *
  generalize Aw.lo (s', fy', ty', m', k', wk', d', sec', base', save', t') = y2 at *
  generalize Aw.hi (s', fy', ty', m', k', wk', d', sec', base', save', t') = y3 at *
  generalize Aw.wy (s', fy', ty', m', k', wk', d', sec', base', save', t') = y4 at *
  clear hs ht hs' ht'
  by_cases hx : x4 = 0
  · subst hx
    by_cases hy : y4 = 0
    · subst hy
      obtain ⟨⟨a0, a1⟩, ⟨a2, a3⟩, ⟨a4, a5⟩, a6, a7⟩ := okA rfl
      obtain ⟨⟨b0, b1⟩, ⟨b2, b3⟩, ⟨b4, b5⟩, b6, b7⟩ := okB rfl
      dsimp only at a0 a1 a2 a3 a4 a5 a6 a7 b0 b1 b2 b3 b4 b5 b6 b7
      have FA := Lib.hid (fun W => rfollows_any s fy ty m k wk d sec base save t s' fy' ty' m' k' wk' d' sec' base' save' t' W (by omega) (by omega) (by omega) (by omega))
      have FB := Lib.hid (fun W => rfollows_any s' fy' ty' m' k' wk' d' sec' base' save' t' s fy ty m k wk d sec base save t W (by omega) (by omega) (by omega) (by omega))
      have pl := Lib.hid (Aw.pr_plain fy ty x2 x3 fy' ty' y2 y3)
      clear okA okB
      generalize Aw.pr (fy, ty, x2, x3, 0) (fy', ty', y2, y3, 0) = r at *
      generalize decide (max (fy + 1) fy' ≤ min (ty + 1) ty') = F1 at *
      generalize decide (max (fy' + 1) fy ≤ min (ty' + 1) ty) = F2 at *
      by_cases hT : max fy fy' ≤ min ty ty'
      · have gT : decide (max fy fy' ≤ min ty ty') = true := decide_eq_true hT
        by_cases p1 : y2 - x3 < 345600
        · by_cases p2 : x2 - y3 < 345600
          · skip
            obtain rfl : r = 15 := by rw [pl.out]; simp [*]
            clear pl
            go_enter Try.func13, Try.ntmps13
            go_wp2_with fail
            refine (WA.out _).mono ?_; rintro e w1 ⟨rfl, b1⟩
            have d1 : Below w.heap.size w w1 := below_step (by repeat (first | exact Below.refl _ _ | refine below_drewN ?_ _ | refine Below.drew ?_ | refine Below.setCell ?_ (by first | (simp; done) | (simp; omega) | omega) _ | refine Below.alloc ?_ (by first | (simp; done) | (simp; omega) | omega) _)) b1
            have B1 := Lib.hid d1
            have X1 : Bk11 w1 (w.heap.size) (.string s) (.int .i64 fy) (.int .i64 ty) (.int .i64 m) (.int .i64 k) (.int .i64 wk) (.int .i64 d) (.int .i64 sec) (.int .i64 base) (.int .i64 save) (.string t) := Bk11.of b1 (by simp <;> omega) (by intro j; simp [go_sem]) (by simp [go_sem]) (by simp [go_sem]) (by simp [go_sem]) (by simp [go_sem]) (by simp [go_sem]) (by simp [go_sem]) (by simp [go_sem]) (by simp [go_sem]) (by simp [go_sem]) (by simp [go_sem]) (by simp [go_sem])
            have Y1 : Bk11 w1 (w.heap.size + 1) (.string s') (.int .i64 fy') (.int .i64 ty') (.int .i64 m') (.int .i64 k') (.int .i64 wk') (.int .i64 d') (.int .i64 sec') (.int .i64 base') (.int .i64 save') (.string t') := Bk11.of b1 (by simp <;> omega) (by intro j; simp [go_sem]) (by simp [go_sem]) (by simp [go_sem]) (by simp [go_sem]) (by simp [go_sem]) (by simp [go_sem]) (by simp [go_sem]) (by simp [go_sem]) (by simp [go_sem]) (by simp [go_sem]) (by simp [go_sem]) (by simp [go_sem])
            clear b1 d1
            have cX_b := X1.hb
            have cX_f := X1.fz
            have cX_0 := X1.k0
            have cX_1 := X1.k1
            have cX_2 := X1.k2
            have cX_3 := X1.k3
            have cX_4 := X1.k4
            have cX_5 := X1.k5
            have cX_6 := X1.k6
            have cX_7 := X1.k7
            have cX_8 := X1.k8
            have cX_9 := X1.k9
            have cX_10 := X1.k10
            have cY_b := Y1.hb
            have cY_f := Y1.fz
            have cY_0 := Y1.k0
            have cY_1 := Y1.k1
            have cY_2 := Y1.k2
            have cY_3 := Y1.k3
            have cY_4 := Y1.k4
            have cY_5 := Y1.k5
            have cY_6 := Y1.k6
            have cY_7 := Y1.k7
            have cY_8 := Y1.k8
            have cY_9 := Y1.k9
            have cY_10 := Y1.k10
            go_wp2_with fail
            clear cX_b cX_f cX_0 cX_1 cX_2 cX_3 cX_4 cX_5 cX_6 cX_7 cX_8 cX_9 cX_10 cY_b cY_f cY_0 cY_1 cY_2 cY_3 cY_4 cY_5 cY_6 cY_7 cY_8 cY_9 cY_10
            refine (WB.out _).mono ?_; rintro e w2 ⟨rfl, b2⟩
            have d2 : Below w1.heap.size w1 w2 := below_step (by repeat (first | exact Below.refl _ _ | refine below_drewN ?_ _ | refine Below.drew ?_ | refine Below.setCell ?_ (by first | (simp; done) | (simp; omega) | omega) _ | refine Below.alloc ?_ (by first | (simp; done) | (simp; omega) | omega) _)) b2
            have B2 := Lib.hid (below_step B1.out d2)
            have X2 := X1.keep d2
            have Y2 := Y1.keep d2
            clear X1 Y1 b2 d2 B1
            have cX_b := X2.hb
            have cX_f := X2.fz
            have cX_0 := X2.k0
            have cX_1 := X2.k1
            have cX_2 := X2.k2
            have cX_3 := X2.k3
            have cX_4 := X2.k4
            have cX_5 := X2.k5
            have cX_6 := X2.k6
            have cX_7 := X2.k7
            have cX_8 := X2.k8
            have cX_9 := X2.k9
            have cX_10 := X2.k10
            have cY_b := Y2.hb
            have cY_f := Y2.fz
            have cY_0 := Y2.k0
            have cY_1 := Y2.k1
            have cY_2 := Y2.k2
            have cY_3 := Y2.k3
            have cY_4 := Y2.k4
            have cY_5 := Y2.k5
            have cY_6 := Y2.k6
            have cY_7 := Y2.k7
            have cY_8 := Y2.k8
            have cY_9 := Y2.k9
            have cY_10 := Y2.k10
            go_wp2_with fail
            clear cX_b cX_f cX_0 cX_1 cX_2 cX_3 cX_4 cX_5 cX_6 cX_7 cX_8 cX_9 cX_10 cY_b cY_f cY_0 cY_1 cY_2 cY_3 cY_4 cY_5 cY_6 cY_7 cY_8 cY_9 cY_10
            go_ret
            exact ⟨rfl, (by have hz := B2.out.size; repeat (first | exact B2.out | refine below_drewN ?_ _ | refine Below.drew ?_ | refine Below.setCell ?_ (by first | omega | (simp; done) | (simp; omega)) _ | refine Below.alloc ?_ (by first | omega | (simp; done) | (simp; omega)) _))⟩
          · skip
            cases F1
            · cases F2
              · skip
                obtain rfl : r = 0 := by rw [pl.out]; simp [*]
                clear pl
                go_enter Try.func13, Try.ntmps13
                go_wp2_with fail
                refine (WA.out _).mono ?_; rintro e w1 ⟨rfl, b1⟩
                have d1 : Below w.heap.size w w1 := below_step (by repeat (first | exact Below.refl _ _ | refine below_drewN ?_ _ | refine Below.drew ?_ | refine Below.setCell ?_ (by first | (simp; done) | (simp; omega) | omega) _ | refine Below.alloc ?_ (by first | (simp; done) | (simp; omega) | omega) _)) b1
                have B1 := Lib.hid d1
                have X1 : Bk11 w1 (w.heap.size) (.string s) (.int .i64 fy) (.int .i64 ty) (.int .i64 m) (.int .i64 k) (.int .i64 wk) (.int .i64 d) (.int .i64 sec) (.int .i64 base) (.int .i64 save) (.string t) := Bk11.of b1 (by simp <;> omega) (by intro j; simp [go_sem]) (by simp [go_sem]) (by simp [go_sem]) (by simp [go_sem]) (by simp [go_sem]) (by simp [go_sem]) (by simp [go_sem]) (by simp [go_sem]) (by simp [go_sem]) (by simp [go_sem]) (by simp [go_sem]) (by simp [go_sem])
                have Y1 : Bk11 w1 (w.heap.size + 1) (.string s') (.int .i64 fy') (.int .i64 ty') (.int .i64 m') (.int .i64 k') (.int .i64 wk') (.int .i64 d') (.int .i64 sec') (.int .i64 base') (.int .i64 save') (.string t') := Bk11.of b1 (by simp <;> omega) (by intro j; simp [go_sem]) (by simp [go_sem]) (by simp [go_sem]) (by simp [go_sem]) (by simp [go_sem]) (by simp [go_sem]) (by simp [go_sem]) (by simp [go_sem]) (by simp [go_sem]) (by simp [go_sem]) (by simp [go_sem]) (by simp [go_sem])
                clear b1 d1
                have cX_b := X1.hb
                have cX_f := X1.fz
                have cX_0 := X1.k0
                have cX_1 := X1.k1
                have cX_2 := X1.k2
                have cX_3 := X1.k3
                have cX_4 := X1.k4
                have cX_5 := X1.k5
                have cX_6 := X1.k6
                have cX_7 := X1.k7
                have cX_8 := X1.k8
                have cX_9 := X1.k9
                have cX_10 := X1.k10
                have cY_b := Y1.hb
                have cY_f := Y1.fz
                have cY_0 := Y1.k0
                have cY_1 := Y1.k1
                have cY_2 := Y1.k2
                have cY_3 := Y1.k3
                have cY_4 := Y1.k4
                have cY_5 := Y1.k5
                have cY_6 := Y1.k6
                have cY_7 := Y1.k7
                have cY_8 := Y1.k8
                have cY_9 := Y1.k9
                have cY_10 := Y1.k10
                go_wp2_with fail
                clear cX_b cX_f cX_0 cX_1 cX_2 cX_3 cX_4 cX_5 cX_6 cX_7 cX_8 cX_9 cX_10 cY_b cY_f cY_0 cY_1 cY_2 cY_3 cY_4 cY_5 cY_6 cY_7 cY_8 cY_9 cY_10
                refine (WB.out _).mono ?_; rintro e w2 ⟨rfl, b2⟩
                have d2 : Below w1.heap.size w1 w2 := below_step (by repeat (first | exact Below.refl _ _ | refine below_drewN ?_ _ | refine Below.drew ?_ | refine Below.setCell ?_ (by first | (simp; done) | (simp; omega) | omega) _ | refine Below.alloc ?_ (by first | (simp; done) | (simp; omega) | omega) _)) b2
                have B2 := Lib.hid (below_step B1.out d2)
                have X2 := X1.keep d2
                have Y2 := Y1.keep d2
                clear X1 Y1 b2 d2 B1
                have cX_b := X2.hb
                have cX_f := X2.fz
                have cX_0 := X2.k0
                have cX_1 := X2.k1
                have cX_2 := X2.k2
                have cX_3 := X2.k3
                have cX_4 := X2.k4
                have cX_5 := X2.k5
                have cX_6 := X2.k6
                have cX_7 := X2.k7
                have cX_8 := X2.k8
                have cX_9 := X2.k9
                have cX_10 := X2.k10
                have cY_b := Y2.hb
                have cY_f := Y2.fz
                have cY_0 := Y2.k0
                have cY_1 := Y2.k1
                have cY_2 := Y2.k2
                have cY_3 := Y2.k3
                have cY_4 := Y2.k4
                have cY_5 := Y2.k5
                have cY_6 := Y2.k6
                have cY_7 := Y2.k7
                have cY_8 := Y2.k8
                have cY_9 := Y2.k9
                have cY_10 := Y2.k10
                go_wp2_with fail
                clear cX_b cX_f cX_0 cX_1 cX_2 cX_3 cX_4 cX_5 cX_6 cX_7 cX_8 cX_9 cX_10 cY_b cY_f cY_0 cY_1 cY_2 cY_3 cY_4 cY_5 cY_6 cY_7 cY_8 cY_9 cY_10
                refine (FA.out _).mono ?_; rintro e w3 ⟨rfl, b3⟩
                have d3 : Below w2.heap.size w2 w3 := below_step (by repeat (first | exact Below.refl _ _ | refine below_drewN ?_ _ | refine Below.drew ?_ | refine Below.setCell ?_ (by first | (simp; done) | (simp; omega) | omega) _ | refine Below.alloc ?_ (by first | (simp; done) | (simp; omega) | omega) _)) b3
                have B3 := Lib.hid (below_step B2.out d3)
                have X3 := X2.keep d3
                have Y3 := Y2.keep d3
                clear X2 Y2 b3 d3 B2
                have cX_b := X3.hb
                have cX_f := X3.fz
                have cX_0 := X3.k0
                have cX_1 := X3.k1
                have cX_2 := X3.k2
                have cX_3 := X3.k3
                have cX_4 := X3.k4
                have cX_5 := X3.k5
                have cX_6 := X3.k6
                have cX_7 := X3.k7
                have cX_8 := X3.k8
                have cX_9 := X3.k9
                have cX_10 := X3.k10
                have cY_b := Y3.hb
                have cY_f := Y3.fz
                have cY_0 := Y3.k0
                have cY_1 := Y3.k1
                have cY_2 := Y3.k2
                have cY_3 := Y3.k3
                have cY_4 := Y3.k4
                have cY_5 := Y3.k5
                have cY_6 := Y3.k6
                have cY_7 := Y3.k7
                have cY_8 := Y3.k8
                have cY_9 := Y3.k9
                have cY_10 := Y3.k10
                go_wp2_with fail
                clear cX_b cX_f cX_0 cX_1 cX_2 cX_3 cX_4 cX_5 cX_6 cX_7 cX_8 cX_9 cX_10 cY_b cY_f cY_0 cY_1 cY_2 cY_3 cY_4 cY_5 cY_6 cY_7 cY_8 cY_9 cY_10
                refine (FB.out _).mono ?_; rintro e w4 ⟨rfl, b4⟩
                have d4 : Below w3.heap.size w3 w4 := below_step (by repeat (first | exact Below.refl _ _ | refine below_drewN ?_ _ | refine Below.drew ?_ | refine Below.setCell ?_ (by first | (simp; done) | (simp; omega) | omega) _ | refine Below.alloc ?_ (by first | (simp; done) | (simp; omega) | omega) _)) b4
                have B4 := Lib.hid (below_step B3.out d4)
                have X4 := X3.keep d4
                have Y4 := Y3.keep d4
                clear X3 Y3 b4 d4 B3
                have cX_b := X4.hb
                have cX_f := X4.fz
                have cX_0 := X4.k0
                have cX_1 := X4.k1
                have cX_2 := X4.k2
                have cX_3 := X4.k3
                have cX_4 := X4.k4
                have cX_5 := X4.k5
                have cX_6 := X4.k6
                have cX_7 := X4.k7
                have cX_8 := X4.k8
                have cX_9 := X4.k9
                have cX_10 := X4.k10
                have cY_b := Y4.hb
                have cY_f := Y4.fz
                have cY_0 := Y4.k0
                have cY_1 := Y4.k1
                have cY_2 := Y4.k2
                have cY_3 := Y4.k3
                have cY_4 := Y4.k4
                have cY_5 := Y4.k5
                have cY_6 := Y4.k6
                have cY_7 := Y4.k7
                have cY_8 := Y4.k8
                have cY_9 := Y4.k9
                have cY_10 := Y4.k10
                go_wp2_with fail
                clear cX_b cX_f cX_0 cX_1 cX_2 cX_3 cX_4 cX_5 cX_6 cX_7 cX_8 cX_9 cX_10 cY_b cY_f cY_0 cY_1 cY_2 cY_3 cY_4 cY_5 cY_6 cY_7 cY_8 cY_9 cY_10
                go_ret
                exact ⟨rfl, (by have hz := B4.out.size; repeat (first | exact B4.out | refine below_drewN ?_ _ | refine Below.drew ?_ | refine Below.setCell ?_ (by first | omega | (simp; done) | (simp; omega)) _ | refine Below.alloc ?_ (by first | omega | (simp; done) | (simp; omega)) _))⟩
              · by_cases q2 : 31536000 + x2 - y3 < 345600
                · exfalso; omega
                · skip
                  obtain rfl : r = 0 := by rw [pl.out]; simp [*]
                  clear pl
                  go_enter Try.func13, Try.ntmps13
                  go_wp2_with fail
                  refine (WA.out _).mono ?_; rintro e w1 ⟨rfl, b1⟩
                  have d1 : Below w.heap.size w w1 := below_step (by repeat (first | exact Below.refl _ _ | refine below_drewN ?_ _ | refine Below.drew ?_ | refine Below.setCell ?_ (by first | (simp; done) | (simp; omega) | omega) _ | refine Below.alloc ?_ (by first | (simp; done) | (simp; omega) | omega) _)) b1
                  have B1 := Lib.hid d1
                  have X1 : Bk11 w1 (w.heap.size) (.string s) (.int .i64 fy) (.int .i64 ty) (.int .i64 m) (.int .i64 k) (.int .i64 wk) (.int .i64 d) (.int .i64 sec) (.int .i64 base) (.int .i64 save) (.string t) := Bk11.of b1 (by simp <;> omega) (by intro j; simp [go_sem]) (by simp [go_sem]) (by simp [go_sem]) (by simp [go_sem]) (by simp [go_sem]) (by simp [go_sem]) (by simp [go_sem]) (by simp [go_sem]) (by simp [go_sem]) (by simp [go_sem]) (by simp [go_sem]) (by simp [go_sem])
                  have Y1 : Bk11 w1 (w.heap.size + 1) (.string s') (.int .i64 fy') (.int .i64 ty') (.int .i64 m') (.int .i64 k') (.int .i64 wk') (.int .i64 d') (.int .i64 sec') (.int .i64 base') (.int .i64 save') (.string t') := Bk11.of b1 (by simp <;> omega) (by intro j; simp [go_sem]) (by simp [go_sem]) (by simp [go_sem]) (by simp [go_sem]) (by simp [go_sem]) (by simp [go_sem]) (by simp [go_sem]) (by simp [go_sem]) (by simp [go_sem]) (by simp [go_sem]) (by simp [go_sem]) (by simp [go_sem])
                  clear b1 d1
                  have cX_b := X1.hb
                  have cX_f := X1.fz
                  have cX_0 := X1.k0
                  have cX_1 := X1.k1
                  have cX_2 := X1.k2
                  have cX_3 := X1.k3
                  have cX_4 := X1.k4
                  have cX_5 := X1.k5
                  have cX_6 := X1.k6
                  have cX_7 := X1.k7
                  have cX_8 := X1.k8
                  have cX_9 := X1.k9
                  have cX_10 := X1.k10
                  have cY_b := Y1.hb
                  have cY_f := Y1.fz
                  have cY_0 := Y1.k0
                  have cY_1 := Y1.k1
                  have cY_2 := Y1.k2
                  have cY_3 := Y1.k3
                  have cY_4 := Y1.k4
                  have cY_5 := Y1.k5
                  have cY_6 := Y1.k6
                  have cY_7 := Y1.k7
                  have cY_8 := Y1.k8
                  have cY_9 := Y1.k9
                  have cY_10 := Y1.k10
                  go_wp2_with fail
                  clear cX_b cX_f cX_0 cX_1 cX_2 cX_3 cX_4 cX_5 cX_6 cX_7 cX_8 cX_9 cX_10 cY_b cY_f cY_0 cY_1 cY_2 cY_3 cY_4 cY_5 cY_6 cY_7 cY_8 cY_9 cY_10
                  refine (WB.out _).mono ?_; rintro e w2 ⟨rfl, b2⟩
                  have d2 : Below w1.heap.size w1 w2 := below_step (by repeat (first | exact Below.refl _ _ | refine below_drewN ?_ _ | refine Below.drew ?_ | refine Below.setCell ?_ (by first | (simp; done) | (simp; omega) | omega) _ | refine Below.alloc ?_ (by first | (simp; done) | (simp; omega) | omega) _)) b2
                  have B2 := Lib.hid (below_step B1.out d2)
                  have X2 := X1.keep d2
                  have Y2 := Y1.keep d2
                  clear X1 Y1 b2 d2 B1
                  have cX_b := X2.hb
                  have cX_f := X2.fz
                  have cX_0 := X2.k0
                  have cX_1 := X2.k1
                  have cX_2 := X2.k2
                  have cX_3 := X2.k3
                  have cX_4 := X2.k4
                  have cX_5 := X2.k5
                  have cX_6 := X2.k6
                  have cX_7 := X2.k7
                  have cX_8 := X2.k8
                  have cX_9 := X2.k9
                  have cX_10 := X2.k10
                  have cY_b := Y2.hb
                  have cY_f := Y2.fz
                  have cY_0 := Y2.k0
                  have cY_1 := Y2.k1
                  have cY_2 := Y2.k2
                  have cY_3 := Y2.k3
                  have cY_4 := Y2.k4
                  have cY_5 := Y2.k5
                  have cY_6 := Y2.k6
                  have cY_7 := Y2.k7
                  have cY_8 := Y2.k8
                  have cY_9 := Y2.k9
                  have cY_10 := Y2.k10
                  go_wp2_with fail
                  clear cX_b cX_f cX_0 cX_1 cX_2 cX_3 cX_4 cX_5 cX_6 cX_7 cX_8 cX_9 cX_10 cY_b cY_f cY_0 cY_1 cY_2 cY_3 cY_4 cY_5 cY_6 cY_7 cY_8 cY_9 cY_10
                  refine (FA.out _).mono ?_; rintro e w3 ⟨rfl, b3⟩
                  have d3 : Below w2.heap.size w2 w3 := below_step (by repeat (first | exact Below.refl _ _ | refine below_drewN ?_ _ | refine Below.drew ?_ | refine Below.setCell ?_ (by first | (simp; done) | (simp; omega) | omega) _ | refine Below.alloc ?_ (by first | (simp; done) | (simp; omega) | omega) _)) b3
                  have B3 := Lib.hid (below_step B2.out d3)
                  have X3 := X2.keep d3
                  have Y3 := Y2.keep d3
                  clear X2 Y2 b3 d3 B2
                  have cX_b := X3.hb
                  have cX_f := X3.fz
                  have cX_0 := X3.k0
                  have cX_1 := X3.k1
                  have cX_2 := X3.k2
                  have cX_3 := X3.k3
                  have cX_4 := X3.k4
                  have cX_5 := X3.k5
                  have cX_6 := X3.k6
                  have cX_7 := X3.k7
                  have cX_8 := X3.k8
                  have cX_9 := X3.k9
                  have cX_10 := X3.k10
                  have cY_b := Y3.hb
                  have cY_f := Y3.fz
                  have cY_0 := Y3.k0
                  have cY_1 := Y3.k1
                  have cY_2 := Y3.k2
                  have cY_3 := Y3.k3
                  have cY_4 := Y3.k4
                  have cY_5 := Y3.k5
                  have cY_6 := Y3.k6
                  have cY_7 := Y3.k7
                  have cY_8 := Y3.k8
                  have cY_9 := Y3.k9
                  have cY_10 := Y3.k10
                  go_wp2_with fail
                  clear cX_b cX_f cX_0 cX_1 cX_2 cX_3 cX_4 cX_5 cX_6 cX_7 cX_8 cX_9 cX_10 cY_b cY_f cY_0 cY_1 cY_2 cY_3 cY_4 cY_5 cY_6 cY_7 cY_8 cY_9 cY_10
                  refine (FB.out _).mono ?_; rintro e w4 ⟨rfl, b4⟩
                  have d4 : Below w3.heap.size w3 w4 := below_step (by repeat (first | exact Below.refl _ _ | refine below_drewN ?_ _ | refine Below.drew ?_ | refine Below.setCell ?_ (by first | (simp; done) | (simp; omega) | omega) _ | refine Below.alloc ?_ (by first | (simp; done) | (simp; omega) | omega) _)) b4
                  have B4 := Lib.hid (below_step B3.out d4)
                  have X4 := X3.keep d4
                  have Y4 := Y3.keep d4
                  clear X3 Y3 b4 d4 B3
                  have cX_b := X4.hb
                  have cX_f := X4.fz
                  have cX_0 := X4.k0
                  have cX_1 := X4.k1
                  have cX_2 := X4.k2
                  have cX_3 := X4.k3
                  have cX_4 := X4.k4
                  have cX_5 := X4.k5
                  have cX_6 := X4.k6
                  have cX_7 := X4.k7
                  have cX_8 := X4.k8
                  have cX_9 := X4.k9
                  have cX_10 := X4.k10
                  have cY_b := Y4.hb
                  have cY_f := Y4.fz
                  have cY_0 := Y4.k0
                  have cY_1 := Y4.k1
                  have cY_2 := Y4.k2
                  have cY_3 := Y4.k3
                  have cY_4 := Y4.k4
                  have cY_5 := Y4.k5
                  have cY_6 := Y4.k6
                  have cY_7 := Y4.k7
                  have cY_8 := Y4.k8
                  have cY_9 := Y4.k9
                  have cY_10 := Y4.k10
                  go_wp2_with fail
                  clear cX_b cX_f cX_0 cX_1 cX_2 cX_3 cX_4 cX_5 cX_6 cX_7 cX_8 cX_9 cX_10 cY_b cY_f cY_0 cY_1 cY_2 cY_3 cY_4 cY_5 cY_6 cY_7 cY_8 cY_9 cY_10
                  go_ret
                  exact ⟨rfl, (by have hz := B4.out.size; repeat (first | exact B4.out | refine below_drewN ?_ _ | refine Below.drew ?_ | refine Below.setCell ?_ (by first | omega | (simp; done) | (simp; omega)) _ | refine Below.alloc ?_ (by first | omega | (simp; done) | (simp; omega)) _))⟩
            · by_cases q1 : 31536000 + y2 - x3 < 345600
              · skip
                obtain rfl : r = 15 := by rw [pl.out]; simp [*]
                clear pl
                go_enter Try.func13, Try.ntmps13
                go_wp2_with fail
                refine (WA.out _).mono ?_; rintro e w1 ⟨rfl, b1⟩
                have d1 : Below w.heap.size w w1 := below_step (by repeat (first | exact Below.refl _ _ | refine below_drewN ?_ _ | refine Below.drew ?_ | refine Below.setCell ?_ (by first | (simp; done) | (simp; omega) | omega) _ | refine Below.alloc ?_ (by first | (simp; done) | (simp; omega) | omega) _)) b1
                have B1 := Lib.hid d1
                have X1 : Bk11 w1 (w.heap.size) (.string s) (.int .i64 fy) (.int .i64 ty) (.int .i64 m) (.int .i64 k) (.int .i64 wk) (.int .i64 d) (.int .i64 sec) (.int .i64 base) (.int .i64 save) (.string t) := Bk11.of b1 (by simp <;> omega) (by intro j; simp [go_sem]) (by simp [go_sem]) (by simp [go_sem]) (by simp [go_sem]) (by simp [go_sem]) (by simp [go_sem]) (by simp [go_sem]) (by simp [go_sem]) (by simp [go_sem]) (by simp [go_sem]) (by simp [go_sem]) (by simp [go_sem])
                have Y1 : Bk11 w1 (w.heap.size + 1) (.string s') (.int .i64 fy') (.int .i64 ty') (.int .i64 m') (.int .i64 k') (.int .i64 wk') (.int .i64 d') (.int .i64 sec') (.int .i64 base') (.int .i64 save') (.string t') := Bk11.of b1 (by simp <;> omega) (by intro j; simp [go_sem]) (by simp [go_sem]) (by simp [go_sem]) (by simp [go_sem]) (by simp [go_sem]) (by simp [go_sem]) (by simp [go_sem]) (by simp [go_sem]) (by simp [go_sem]) (by simp [go_sem]) (by simp [go_sem]) (by simp [go_sem])
                clear b1 d1
                have cX_b := X1.hb
                have cX_f := X1.fz
                have cX_0 := X1.k0
                have cX_1 := X1.k1
                have cX_2 := X1.k2
                have cX_3 := X1.k3
                have cX_4 := X1.k4
                have cX_5 := X1.k5
                have cX_6 := X1.k6
                have cX_7 := X1.k7
                have cX_8 := X1.k8
                have cX_9 := X1.k9
                have cX_10 := X1.k10
                have cY_b := Y1.hb
                have cY_f := Y1.fz
                have cY_0 := Y1.k0
                have cY_1 := Y1.k1
                have cY_2 := Y1.k2
                have cY_3 := Y1.k3
                have cY_4 := Y1.k4
                have cY_5 := Y1.k5
                have cY_6 := Y1.k6
                have cY_7 := Y1.k7
                have cY_8 := Y1.k8
                have cY_9 := Y1.k9
                have cY_10 := Y1.k10
                go_wp2_with fail
                clear cX_b cX_f cX_0 cX_1 cX_2 cX_3 cX_4 cX_5 cX_6 cX_7 cX_8 cX_9 cX_10 cY_b cY_f cY_0 cY_1 cY_2 cY_3 cY_4 cY_5 cY_6 cY_7 cY_8 cY_9 cY_10
                refine (WB.out _).mono ?_; rintro e w2 ⟨rfl, b2⟩
                have d2 : Below w1.heap.size w1 w2 := below_step (by repeat (first | exact Below.refl _ _ | refine below_drewN ?_ _ | refine Below.drew ?_ | refine Below.setCell ?_ (by first | (simp; done) | (simp; omega) | omega) _ | refine Below.alloc ?_ (by first | (simp; done) | (simp; omega) | omega) _)) b2
                have B2 := Lib.hid (below_step B1.out d2)
                have X2 := X1.keep d2
                have Y2 := Y1.keep d2
                clear X1 Y1 b2 d2 B1
                have cX_b := X2.hb
                have cX_f := X2.fz
                have cX_0 := X2.k0
                have cX_1 := X2.k1
                have cX_2 := X2.k2
                have cX_3 := X2.k3
                have cX_4 := X2.k4
                have cX_5 := X2.k5
                have cX_6 := X2.k6
                have cX_7 := X2.k7
                have cX_8 := X2.k8
                have cX_9 := X2.k9
                have cX_10 := X2.k10
                have cY_b := Y2.hb
                have cY_f := Y2.fz
                have cY_0 := Y2.k0
                have cY_1 := Y2.k1
                have cY_2 := Y2.k2
                have cY_3 := Y2.k3
                have cY_4 := Y2.k4
                have cY_5 := Y2.k5
                have cY_6 := Y2.k6
                have cY_7 := Y2.k7
                have cY_8 := Y2.k8
                have cY_9 := Y2.k9
                have cY_10 := Y2.k10
                go_wp2_with fail
                clear cX_b cX_f cX_0 cX_1 cX_2 cX_3 cX_4 cX_5 cX_6 cX_7 cX_8 cX_9 cX_10 cY_b cY_f cY_0 cY_1 cY_2 cY_3 cY_4 cY_5 cY_6 cY_7 cY_8 cY_9 cY_10
                refine (FA.out _).mono ?_; rintro e w3 ⟨rfl, b3⟩
                have d3 : Below w2.heap.size w2 w3 := below_step (by repeat (first | exact Below.refl _ _ | refine below_drewN ?_ _ | refine Below.drew ?_ | refine Below.setCell ?_ (by first | (simp; done) | (simp; omega) | omega) _ | refine Below.alloc ?_ (by first | (simp; done) | (simp; omega) | omega) _)) b3
                have B3 := Lib.hid (below_step B2.out d3)
                have X3 := X2.keep d3
                have Y3 := Y2.keep d3
                clear X2 Y2 b3 d3 B2
                have cX_b := X3.hb
                have cX_f := X3.fz
                have cX_0 := X3.k0
                have cX_1 := X3.k1
                have cX_2 := X3.k2
                have cX_3 := X3.k3
                have cX_4 := X3.k4
                have cX_5 := X3.k5
                have cX_6 := X3.k6
                have cX_7 := X3.k7
                have cX_8 := X3.k8
                have cX_9 := X3.k9
                have cX_10 := X3.k10
                have cY_b := Y3.hb
                have cY_f := Y3.fz
                have cY_0 := Y3.k0
                have cY_1 := Y3.k1
                have cY_2 := Y3.k2
                have cY_3 := Y3.k3
                have cY_4 := Y3.k4
                have cY_5 := Y3.k5
                have cY_6 := Y3.k6
                have cY_7 := Y3.k7
                have cY_8 := Y3.k8
                have cY_9 := Y3.k9
                have cY_10 := Y3.k10
                go_wp2_with fail
                clear cX_b cX_f cX_0 cX_1 cX_2 cX_3 cX_4 cX_5 cX_6 cX_7 cX_8 cX_9 cX_10 cY_b cY_f cY_0 cY_1 cY_2 cY_3 cY_4 cY_5 cY_6 cY_7 cY_8 cY_9 cY_10
                go_ret
                exact ⟨rfl, (by have hz := B3.out.size; repeat (first | exact B3.out | refine below_drewN ?_ _ | refine Below.drew ?_ | refine Below.setCell ?_ (by first | omega | (simp; done) | (simp; omega)) _ | refine Below.alloc ?_ (by first | omega | (simp; done) | (simp; omega)) _))⟩
              · cases F2
                · skip
                  obtain rfl : r = 0 := by rw [pl.out]; simp [*]
                  clear pl
                  go_enter Try.func13, Try.ntmps13
                  go_wp2_with fail
                  refine (WA.out _).mono ?_; rintro e w1 ⟨rfl, b1⟩
                  have d1 : Below w.heap.size w w1 := below_step (by repeat (first | exact Below.refl _ _ | refine below_drewN ?_ _ | refine Below.drew ?_ | refine Below.setCell ?_ (by first | (simp; done) | (simp; omega) | omega) _ | refine Below.alloc ?_ (by first | (simp; done) | (simp; omega) | omega) _)) b1
                  have B1 := Lib.hid d1
                  have X1 : Bk11 w1 (w.heap.size) (.string s) (.int .i64 fy) (.int .i64 ty) (.int .i64 m) (.int .i64 k) (.int .i64 wk) (.int .i64 d) (.int .i64 sec) (.int .i64 base) (.int .i64 save) (.string t) := Bk11.of b1 (by simp <;> omega) (by intro j; simp [go_sem]) (by simp [go_sem]) (by simp [go_sem]) (by simp [go_sem]) (by simp [go_sem]) (by simp [go_sem]) (by simp [go_sem]) (by simp [go_sem]) (by simp [go_sem]) (by simp [go_sem]) (by simp [go_sem]) (by simp [go_sem])
                  have Y1 : Bk11 w1 (w.heap.size + 1) (.string s') (.int .i64 fy') (.int .i64 ty') (.int .i64 m') (.int .i64 k') (.int .i64 wk') (.int .i64 d') (.int .i64 sec') (.int .i64 base') (.int .i64 save') (.string t') := Bk11.of b1 (by simp <;> omega) (by intro j; simp [go_sem]) (by simp [go_sem]) (by simp [go_sem]) (by simp [go_sem]) (by simp [go_sem]) (by simp [go_sem]) (by simp [go_sem]) (by simp [go_sem]) (by simp [go_sem]) (by simp [go_sem]) (by simp [go_sem]) (by simp [go_sem])
                  clear b1 d1
                  have cX_b := X1.hb
                  have cX_f := X1.fz
                  have cX_0 := X1.k0
                  have cX_1 := X1.k1
                  have cX_2 := X1.k2
                  have cX_3 := X1.k3
                  have cX_4 := X1.k4
                  have cX_5 := X1.k5
                  have cX_6 := X1.k6
                  have cX_7 := X1.k7
                  have cX_8 := X1.k8
                  have cX_9 := X1.k9
                  have cX_10 := X1.k10
                  have cY_b := Y1.hb
                  have cY_f := Y1.fz
                  have cY_0 := Y1.k0
                  have cY_1 := Y1.k1
                  have cY_2 := Y1.k2
                  have cY_3 := Y1.k3
                  have cY_4 := Y1.k4
                  have cY_5 := Y1.k5
                  have cY_6 := Y1.k6
                  have cY_7 := Y1.k7
                  have cY_8 := Y1.k8
                  have cY_9 := Y1.k9
                  have cY_10 := Y1.k10
                  go_wp2_with fail
                  clear cX_b cX_f cX_0 cX_1 cX_2 cX_3 cX_4 cX_5 cX_6 cX_7 cX_8 cX_9 cX_10 cY_b cY_f cY_0 cY_1 cY_2 cY_3 cY_4 cY_5 cY_6 cY_7 cY_8 cY_9 cY_10
                  refine (WB.out _).mono ?_; rintro e w2 ⟨rfl, b2⟩
                  have d2 : Below w1.heap.size w1 w2 := below_step (by repeat (first | exact Below.refl _ _ | refine below_drewN ?_ _ | refine Below.drew ?_ | refine Below.setCell ?_ (by first | (simp; done) | (simp; omega) | omega) _ | refine Below.alloc ?_ (by first | (simp; done) | (simp; omega) | omega) _)) b2
                  have B2 := Lib.hid (below_step B1.out d2)
                  have X2 := X1.keep d2
                  have Y2 := Y1.keep d2
                  clear X1 Y1 b2 d2 B1
                  have cX_b := X2.hb
                  have cX_f := X2.fz
                  have cX_0 := X2.k0
                  have cX_1 := X2.k1
                  have cX_2 := X2.k2
                  have cX_3 := X2.k3
                  have cX_4 := X2.k4
                  have cX_5 := X2.k5
                  have cX_6 := X2.k6
                  have cX_7 := X2.k7
                  have cX_8 := X2.k8
                  have cX_9 := X2.k9
                  have cX_10 := X2.k10
                  have cY_b := Y2.hb
                  have cY_f := Y2.fz
                  have cY_0 := Y2.k0
                  have cY_1 := Y2.k1
                  have cY_2 := Y2.k2
                  have cY_3 := Y2.k3
                  have cY_4 := Y2.k4
                  have cY_5 := Y2.k5
                  have cY_6 := Y2.k6
                  have cY_7 := Y2.k7
                  have cY_8 := Y2.k8
                  have cY_9 := Y2.k9
                  have cY_10 := Y2.k10
                  go_wp2_with fail
                  clear cX_b cX_f cX_0 cX_1 cX_2 cX_3 cX_4 cX_5 cX_6 cX_7 cX_8 cX_9 cX_10 cY_b cY_f cY_0 cY_1 cY_2 cY_3 cY_4 cY_5 cY_6 cY_7 cY_8 cY_9 cY_10
                  refine (FA.out _).mono ?_; rintro e w3 ⟨rfl, b3⟩
                  have d3 : Below w2.heap.size w2 w3 := below_step (by repeat (first | exact Below.refl _ _ | refine below_drewN ?_ _ | refine Below.drew ?_ | refine Below.setCell ?_ (by first | (simp; done) | (simp; omega) | omega) _ | refine Below.alloc ?_ (by first | (simp; done) | (simp; omega) | omega) _)) b3
                  have B3 := Lib.hid (below_step B2.out d3)
                  have X3 := X2.keep d3
                  have Y3 := Y2.keep d3
                  clear X2 Y2 b3 d3 B2
                  have cX_b := X3.hb
                  have cX_f := X3.fz
                  have cX_0 := X3.k0
                  have cX_1 := X3.k1
                  have cX_2 := X3.k2
                  have cX_3 := X3.k3
                  have cX_4 := X3.k4
                  have cX_5 := X3.k5
                  have cX_6 := X3.k6
                  have cX_7 := X3.k7
                  have cX_8 := X3.k8
                  have cX_9 := X3.k9
                  have cX_10 := X3.k10
                  have cY_b := Y3.hb
                  have cY_f := Y3.fz
                  have cY_0 := Y3.k0
                  have cY_1 := Y3.k1
                  have cY_2 := Y3.k2
                  have cY_3 := Y3.k3
                  have cY_4 := Y3.k4
                  have cY_5 := Y3.k5
                  have cY_6 := Y3.k6
                  have cY_7 := Y3.k7
                  have cY_8 := Y3.k8
                  have cY_9 := Y3.k9
                  have cY_10 := Y3.k10
                  go_wp2_with fail
                  clear cX_b cX_f cX_0 cX_1 cX_2 cX_3 cX_4 cX_5 cX_6 cX_7 cX_8 cX_9 cX_10 cY_b cY_f cY_0 cY_1 cY_2 cY_3 cY_4 cY_5 cY_6 cY_7 cY_8 cY_9 cY_10
                  refine (FB.out _).mono ?_; rintro e w4 ⟨rfl, b4⟩
                  have d4 : Below w3.heap.size w3 w4 := below_step (by repeat (first | exact Below.refl _ _ | refine below_drewN ?_ _ | refine Below.drew ?_ | refine Below.setCell ?_ (by first | (simp; done) | (simp; omega) | omega) _ | refine Below.alloc ?_ (by first | (simp; done) | (simp; omega) | omega) _)) b4
                  have B4 := Lib.hid (below_step B3.out d4)
                  have X4 := X3.keep d4
                  have Y4 := Y3.keep d4
                  clear X3 Y3 b4 d4 B3
                  have cX_b := X4.hb
                  have cX_f := X4.fz
                  have cX_0 := X4.k0
                  have cX_1 := X4.k1
                  have cX_2 := X4.k2
                  have cX_3 := X4.k3
                  have cX_4 := X4.k4
                  have cX_5 := X4.k5
                  have cX_6 := X4.k6
                  have cX_7 := X4.k7
                  have cX_8 := X4.k8
                  have cX_9 := X4.k9
                  have cX_10 := X4.k10
                  have cY_b := Y4.hb
                  have cY_f := Y4.fz
                  have cY_0 := Y4.k0
                  have cY_1 := Y4.k1
                  have cY_2 := Y4.k2
                  have cY_3 := Y4.k3
                  have cY_4 := Y4.k4
                  have cY_5 := Y4.k5
                  have cY_6 := Y4.k6
                  have cY_7 := Y4.k7
                  have cY_8 := Y4.k8
                  have cY_9 := Y4.k9
                  have cY_10 := Y4.k10
                  go_wp2_with fail
                  clear cX_b cX_f cX_0 cX_1 cX_2 cX_3 cX_4 cX_5 cX_6 cX_7 cX_8 cX_9 cX_10 cY_b cY_f cY_0 cY_1 cY_2 cY_3 cY_4 cY_5 cY_6 cY_7 cY_8 cY_9 cY_10
                  go_ret
                  exact ⟨rfl, (by have hz := B4.out.size; repeat (first | exact B4.out | refine below_drewN ?_ _ | refine Below.drew ?_ | refine Below.setCell ?_ (by first | omega | (simp; done) | (simp; omega)) _ | refine Below.alloc ?_ (by first | omega | (simp; done) | (simp; omega)) _))⟩
                · by_cases q2 : 31536000 + x2 - y3 < 345600
                  · exfalso; omega
                  · skip
                    obtain rfl : r = 0 := by rw [pl.out]; simp [*]
                    clear pl
                    go_enter Try.func13, Try.ntmps13
                    go_wp2_with fail
                    refine (WA.out _).mono ?_; rintro e w1 ⟨rfl, b1⟩
                    have d1 : Below w.heap.size w w1 := below_step (by repeat (first | exact Below.refl _ _ | refine below_drewN ?_ _ | refine Below.drew ?_ | refine Below.setCell ?_ (by first | (simp; done) | (simp; omega) | omega) _ | refine Below.alloc ?_ (by first | (simp; done) | (simp; omega) | omega) _)) b1
                    have B1 := Lib.hid d1
                    have X1 : Bk11 w1 (w.heap.size) (.string s) (.int .i64 fy) (.int .i64 ty) (.int .i64 m) (.int .i64 k) (.int .i64 wk) (.int .i64 d) (.int .i64 sec) (.int .i64 base) (.int .i64 save) (.string t) := Bk11.of b1 (by simp <;> omega) (by intro j; simp [go_sem]) (by simp [go_sem]) (by simp [go_sem]) (by simp [go_sem]) (by simp [go_sem]) (by simp [go_sem]) (by simp [go_sem]) (by simp [go_sem]) (by simp [go_sem]) (by simp [go_sem]) (by simp [go_sem]) (by simp [go_sem])
                    have Y1 : Bk11 w1 (w.heap.size + 1) (.string s') (.int .i64 fy') (.int .i64 ty') (.int .i64 m') (.int .i64 k') (.int .i64 wk') (.int .i64 d') (.int .i64 sec') (.int .i64 base') (.int .i64 save') (.string t') := Bk11.of b1 (by simp <;> omega) (by intro j; simp [go_sem]) (by simp [go_sem]) (by simp [go_sem]) (by simp [go_sem]) (by simp [go_sem]) (by simp [go_sem]) (by simp [go_sem]) (by simp [go_sem]) (by simp [go_sem]) (by simp [go_sem]) (by simp [go_sem]) (by simp [go_sem])
                    clear b1 d1
                    have cX_b := X1.hb
                    have cX_f := X1.fz
                    have cX_0 := X1.k0
                    have cX_1 := X1.k1
                    have cX_2 := X1.k2
                    have cX_3 := X1.k3
                    have cX_4 := X1.k4
                    have cX_5 := X1.k5
                    have cX_6 := X1.k6
                    have cX_7 := X1.k7
                    have cX_8 := X1.k8
                    have cX_9 := X1.k9
                    have cX_10 := X1.k10
                    have cY_b := Y1.hb
                    have cY_f := Y1.fz
                    have cY_0 := Y1.k0
                    have cY_1 := Y1.k1
                    have cY_2 := Y1.k2
                    have cY_3 := Y1.k3
                    have cY_4 := Y1.k4
                    have cY_5 := Y1.k5
                    have cY_6 := Y1.k6
                    have cY_7 := Y1.k7
                    have cY_8 := Y1.k8
                    have cY_9 := Y1.k9
                    have cY_10 := Y1.k10
                    go_wp2_with fail
                    clear cX_b cX_f cX_0 cX_1 cX_2 cX_3 cX_4 cX_5 cX_6 cX_7 cX_8 cX_9 cX_10 cY_b cY_f cY_0 cY_1 cY_2 cY_3 cY_4 cY_5 cY_6 cY_7 cY_8 cY_9 cY_10
                    refine (WB.out _).mono ?_; rintro e w2 ⟨rfl, b2⟩
                    have d2 : Below w1.heap.size w1 w2 := below_step (by repeat (first | exact Below.refl _ _ | refine below_drewN ?_ _ | refine Below.drew ?_ | refine Below.setCell ?_ (by first | (simp; done) | (simp; omega) | omega) _ | refine Below.alloc ?_ (by first | (simp; done) | (simp; omega) | omega) _)) b2
                    have B2 := Lib.hid (below_step B1.out d2)
                    have X2 := X1.keep d2
                    have Y2 := Y1.keep d2
                    clear X1 Y1 b2 d2 B1
                    have cX_b := X2.hb
                    have cX_f := X2.fz
                    have cX_0 := X2.k0
                    have cX_1 := X2.k1
                    have cX_2 := X2.k2
                    have cX_3 := X2.k3
                    have cX_4 := X2.k4
                    have cX_5 := X2.k5
                    have cX_6 := X2.k6
                    have cX_7 := X2.k7
                    have cX_8 := X2.k8
                    have cX_9 := X2.k9
                    have cX_10 := X2.k10
                    have cY_b := Y2.hb
                    have cY_f := Y2.fz
                    have cY_0 := Y2.k0
                    have cY_1 := Y2.k1
                    have cY_2 := Y2.k2
                    have cY_3 := Y2.k3
                    have cY_4 := Y2.k4
                    have cY_5 := Y2.k5
                    have cY_6 := Y2.k6
                    have cY_7 := Y2.k7
                    have cY_8 := Y2.k8
                    have cY_9 := Y2.k9
                    have cY_10 := Y2.k10
                    go_wp2_with fail
                    clear cX_b cX_f cX_0 cX_1 cX_2 cX_3 cX_4 cX_5 cX_6 cX_7 cX_8 cX_9 cX_10 cY_b cY_f cY_0 cY_1 cY_2 cY_3 cY_4 cY_5 cY_6 cY_7 cY_8 cY_9 cY_10
                    refine (FA.out _).mono ?_; rintro e w3 ⟨rfl, b3⟩
                    have d3 : Below w2.heap.size w2 w3 := below_step (by repeat (first | exact Below.refl _ _ | refine below_drewN ?_ _ | refine Below.drew ?_ | refine Below.setCell ?_ (by first | (simp; done) | (simp; omega) | omega) _ | refine Below.alloc ?_ (by first | (simp; done) | (simp; omega) | omega) _)) b3
                    have B3 := Lib.hid (below_step B2.out d3)
                    have X3 := X2.keep d3
                    have Y3 := Y2.keep d3
                    clear X2 Y2 b3 d3 B2
                    have cX_b := X3.hb
                    have cX_f := X3.fz
                    have cX_0 := X3.k0
                    have cX_1 := X3.k1
                    have cX_2 := X3.k2
                    have cX_3 := X3.k3
                    have cX_4 := X3.k4
                    have cX_5 := X3.k5
                    have cX_6 := X3.k6
                    have cX_7 := X3.k7
                    have cX_8 := X3.k8
                    have cX_9 := X3.k9
                    have cX_10 := X3.k10
                    have cY_b := Y3.hb
                    have cY_f := Y3.fz
                    have cY_0 := Y3.k0
                    have cY_1 := Y3.k1
                    have cY_2 := Y3.k2
                    have cY_3 := Y3.k3
                    have cY_4 := Y3.k4
                    have cY_5 := Y3.k5
                    have cY_6 := Y3.k6
                    have cY_7 := Y3.k7
                    have cY_8 := Y3.k8
                    have cY_9 := Y3.k9
                    have cY_10 := Y3.k10
                    go_wp2_with fail
                    clear cX_b cX_f cX_0 cX_1 cX_2 cX_3 cX_4 cX_5 cX_6 cX_7 cX_8 cX_9 cX_10 cY_b cY_f cY_0 cY_1 cY_2 cY_3 cY_4 cY_5 cY_6 cY_7 cY_8 cY_9 cY_10
                    refine (FB.out _).mono ?_; rintro e w4 ⟨rfl, b4⟩
                    have d4 : Below w3.heap.size w3 w4 := below_step (by repeat (first | exact Below.refl _ _ | refine below_drewN ?_ _ | refine Below.drew ?_ | refine Below.setCell ?_ (by first | (simp; done) | (simp; omega) | omega) _ | refine Below.alloc ?_ (by first | (simp; done) | (simp; omega) | omega) _)) b4
                    have B4 := Lib.hid (below_step B3.out d4)
                    have X4 := X3.keep d4
                    have Y4 := Y3.keep d4
                    clear X3 Y3 b4 d4 B3
                    have cX_b := X4.hb
                    have cX_f := X4.fz
                    have cX_0 := X4.k0
                    have cX_1 := X4.k1
                    have cX_2 := X4.k2
                    have cX_3 := X4.k3
                    have cX_4 := X4.k4
                    have cX_5 := X4.k5
                    have cX_6 := X4.k6
                    have cX_7 := X4.k7
                    have cX_8 := X4.k8
                    have cX_9 := X4.k9
                    have cX_10 := X4.k10
                    have cY_b := Y4.hb
                    have cY_f := Y4.fz
                    have cY_0 := Y4.k0
                    have cY_1 := Y4.k1
                    have cY_2 := Y4.k2
                    have cY_3 := Y4.k3
                    have cY_4 := Y4.k4
                    have cY_5 := Y4.k5
                    have cY_6 := Y4.k6
                    have cY_7 := Y4.k7
                    have cY_8 := Y4.k8
                    have cY_9 := Y4.k9
                    have cY_10 := Y4.k10
                    go_wp2_with fail
                    clear cX_b cX_f cX_0 cX_1 cX_2 cX_3 cX_4 cX_5 cX_6 cX_7 cX_8 cX_9 cX_10 cY_b cY_f cY_0 cY_1 cY_2 cY_3 cY_4 cY_5 cY_6 cY_7 cY_8 cY_9 cY_10
                    go_ret
                    exact ⟨rfl, (by have hz := B4.out.size; repeat (first | exact B4.out | refine below_drewN ?_ _ | refine Below.drew ?_ | refine Below.setCell ?_ (by first | omega | (simp; done) | (simp; omega)) _ | refine Below.alloc ?_ (by first | omega | (simp; done) | (simp; omega)) _))⟩
        · skip
          cases F1
          · cases F2
            · skip
              obtain rfl : r = 0 := by rw [pl.out]; simp [*]
              clear pl
              go_enter Try.func13, Try.ntmps13
              go_wp2_with fail
              refine (WA.out _).mono ?_; rintro e w1 ⟨rfl, b1⟩
              have d1 : Below w.heap.size w w1 := below_step (by repeat (first | exact Below.refl _ _ | refine below_drewN ?_ _ | refine Below.drew ?_ | refine Below.setCell ?_ (by first | (simp; done) | (simp; omega) | omega) _ | refine Below.alloc ?_ (by first | (simp; done) | (simp; omega) | omega) _)) b1
              have B1 := Lib.hid d1
              have X1 : Bk11 w1 (w.heap.size) (.string s) (.int .i64 fy) (.int .i64 ty) (.int .i64 m) (.int .i64 k) (.int .i64 wk) (.int .i64 d) (.int .i64 sec) (.int .i64 base) (.int .i64 save) (.string t) := Bk11.of b1 (by simp <;> omega) (by intro j; simp [go_sem]) (by simp [go_sem]) (by simp [go_sem]) (by simp [go_sem]) (by simp [go_sem]) (by simp [go_sem]) (by simp [go_sem]) (by simp [go_sem]) (by simp [go_sem]) (by simp [go_sem]) (by simp [go_sem]) (by simp [go_sem])
              have Y1 : Bk11 w1 (w.heap.size + 1) (.string s') (.int .i64 fy') (.int .i64 ty') (.int .i64 m') (.int .i64 k') (.int .i64 wk') (.int .i64 d') (.int .i64 sec') (.int .i64 base') (.int .i64 save') (.string t') := Bk11.of b1 (by simp <;> omega) (by intro j; simp [go_sem]) (by simp [go_sem]) (by simp [go_sem]) (by simp [go_sem]) (by simp [go_sem]) (by simp [go_sem]) (by simp [go_sem]) (by simp [go_sem]) (by simp [go_sem]) (by simp [go_sem]) (by simp [go_sem]) (by simp [go_sem])
              clear b1 d1
              have cX_b := X1.hb
              have cX_f := X1.fz
              have cX_0 := X1.k0
              have cX_1 := X1.k1
              have cX_2 := X1.k2
              have cX_3 := X1.k3
              have cX_4 := X1.k4
              have cX_5 := X1.k5
              have cX_6 := X1.k6
              have cX_7 := X1.k7
              have cX_8 := X1.k8
              have cX_9 := X1.k9
              have cX_10 := X1.k10
              have cY_b := Y1.hb
              have cY_f := Y1.fz
              have cY_0 := Y1.k0
              have cY_1 := Y1.k1
              have cY_2 := Y1.k2
              have cY_3 := Y1.k3
              have cY_4 := Y1.k4
              have cY_5 := Y1.k5
              have cY_6 := Y1.k6
              have cY_7 := Y1.k7
              have cY_8 := Y1.k8
              have cY_9 := Y1.k9
              have cY_10 := Y1.k10
              go_wp2_with fail
              clear cX_b cX_f cX_0 cX_1 cX_2 cX_3 cX_4 cX_5 cX_6 cX_7 cX_8 cX_9 cX_10 cY_b cY_f cY_0 cY_1 cY_2 cY_3 cY_4 cY_5 cY_6 cY_7 cY_8 cY_9 cY_10
              refine (WB.out _).mono ?_; rintro e w2 ⟨rfl, b2⟩
              have d2 : Below w1.heap.size w1 w2 := below_step (by repeat (first | exact Below.refl _ _ | refine below_drewN ?_ _ | refine Below.drew ?_ | refine Below.setCell ?_ (by first | (simp; done) | (simp; omega) | omega) _ | refine Below.alloc ?_ (by first | (simp; done) | (simp; omega) | omega) _)) b2
              have B2 := Lib.hid (below_step B1.out d2)
              have X2 := X1.keep d2
              have Y2 := Y1.keep d2
              clear X1 Y1 b2 d2 B1
              have cX_b := X2.hb
              have cX_f := X2.fz
              have cX_0 := X2.k0
              have cX_1 := X2.k1
              have cX_2 := X2.k2
              have cX_3 := X2.k3
              have cX_4 := X2.k4
              have cX_5 := X2.k5
              have cX_6 := X2.k6
              have cX_7 := X2.k7
              have cX_8 := X2.k8
              have cX_9 := X2.k9
              have cX_10 := X2.k10
              have cY_b := Y2.hb
              have cY_f := Y2.fz
              have cY_0 := Y2.k0
              have cY_1 := Y2.k1
              have cY_2 := Y2.k2
              have cY_3 := Y2.k3
              have cY_4 := Y2.k4
              have cY_5 := Y2.k5
              have cY_6 := Y2.k6
              have cY_7 := Y2.k7
              have cY_8 := Y2.k8
              have cY_9 := Y2.k9
              have cY_10 := Y2.k10
              go_wp2_with fail
              clear cX_b cX_f cX_0 cX_1 cX_2 cX_3 cX_4 cX_5 cX_6 cX_7 cX_8 cX_9 cX_10 cY_b cY_f cY_0 cY_1 cY_2 cY_3 cY_4 cY_5 cY_6 cY_7 cY_8 cY_9 cY_10
              refine (FA.out _).mono ?_; rintro e w3 ⟨rfl, b3⟩
              have d3 : Below w2.heap.size w2 w3 := below_step (by repeat (first | exact Below.refl _ _ | refine below_drewN ?_ _ | refine Below.drew ?_ | refine Below.setCell ?_ (by first | (simp; done) | (simp; omega) | omega) _ | refine Below.alloc ?_ (by first | (simp; done) | (simp; omega) | omega) _)) b3
              have B3 := Lib.hid (below_step B2.out d3)
              have X3 := X2.keep d3
              have Y3 := Y2.keep d3
              clear X2 Y2 b3 d3 B2
              have cX_b := X3.hb
              have cX_f := X3.fz
              have cX_0 := X3.k0
              have cX_1 := X3.k1
              have cX_2 := X3.k2
              have cX_3 := X3.k3
              have cX_4 := X3.k4
              have cX_5 := X3.k5
              have cX_6 := X3.k6
              have cX_7 := X3.k7
              have cX_8 := X3.k8
              have cX_9 := X3.k9
              have cX_10 := X3.k10
              have cY_b := Y3.hb
              have cY_f := Y3.fz
              have cY_0 := Y3.k0
              have cY_1 := Y3.k1
              have cY_2 := Y3.k2
              have cY_3 := Y3.k3
              have cY_4 := Y3.k4
              have cY_5 := Y3.k5
              have cY_6 := Y3.k6
              have cY_7 := Y3.k7
              have cY_8 := Y3.k8
              have cY_9 := Y3.k9
              have cY_10 := Y3.k10
              go_wp2_with fail
              clear cX_b cX_f cX_0 cX_1 cX_2 cX_3 cX_4 cX_5 cX_6 cX_7 cX_8 cX_9 cX_10 cY_b cY_f cY_0 cY_1 cY_2 cY_3 cY_4 cY_5 cY_6 cY_7 cY_8 cY_9 cY_10
              refine (FB.out _).mono ?_; rintro e w4 ⟨rfl, b4⟩
              have d4 : Below w3.heap.size w3 w4 := below_step (by repeat (first | exact Below.refl _ _ | refine below_drewN ?_ _ | refine Below.drew ?_ | refine Below.setCell ?_ (by first | (simp; done) | (simp; omega) | omega) _ | refine Below.alloc ?_ (by first | (simp; done) | (simp; omega) | omega) _)) b4
              have B4 := Lib.hid (below_step B3.out d4)
              have X4 := X3.keep d4
              have Y4 := Y3.keep d4
              clear X3 Y3 b4 d4 B3
              have cX_b := X4.hb
              have cX_f := X4.fz
              have cX_0 := X4.k0
              have cX_1 := X4.k1
              have cX_2 := X4.k2
              have cX_3 := X4.k3
              have cX_4 := X4.k4
              have cX_5 := X4.k5
              have cX_6 := X4.k6
              have cX_7 := X4.k7
              have cX_8 := X4.k8
              have cX_9 := X4.k9
              have cX_10 := X4.k10
              have cY_b := Y4.hb
              have cY_f := Y4.fz
              have cY_0 := Y4.k0
              have cY_1 := Y4.k1
              have cY_2 := Y4.k2
              have cY_3 := Y4.k3
              have cY_4 := Y4.k4
              have cY_5 := Y4.k5
              have cY_6 := Y4.k6
              have cY_7 := Y4.k7
              have cY_8 := Y4.k8
              have cY_9 := Y4.k9
              have cY_10 := Y4.k10
              go_wp2_with fail
              clear cX_b cX_f cX_0 cX_1 cX_2 cX_3 cX_4 cX_5 cX_6 cX_7 cX_8 cX_9 cX_10 cY_b cY_f cY_0 cY_1 cY_2 cY_3 cY_4 cY_5 cY_6 cY_7 cY_8 cY_9 cY_10
              go_ret
              exact ⟨rfl, (by have hz := B4.out.size; repeat (first | exact B4.out | refine below_drewN ?_ _ | refine Below.drew ?_ | refine Below.setCell ?_ (by first | omega | (simp; done) | (simp; omega)) _ | refine Below.alloc ?_ (by first | omega | (simp; done) | (simp; omega)) _))⟩
            · by_cases q2 : 31536000 + x2 - y3 < 345600
              · skip
                obtain rfl : r = 15 := by rw [pl.out]; simp [*]
                clear pl
                go_enter Try.func13, Try.ntmps13
                go_wp2_with fail
                refine (WA.out _).mono ?_; rintro e w1 ⟨rfl, b1⟩
                have d1 : Below w.heap.size w w1 := below_step (by repeat (first | exact Below.refl _ _ | refine below_drewN ?_ _ | refine Below.drew ?_ | refine Below.setCell ?_ (by first | (simp; done) | (simp; omega) | omega) _ | refine Below.alloc ?_ (by first | (simp; done) | (simp; omega) | omega) _)) b1
                have B1 := Lib.hid d1
                have X1 : Bk11 w1 (w.heap.size) (.string s) (.int .i64 fy) (.int .i64 ty) (.int .i64 m) (.int .i64 k) (.int .i64 wk) (.int .i64 d) (.int .i64 sec) (.int .i64 base) (.int .i64 save) (.string t) := Bk11.of b1 (by simp <;> omega) (by intro j; simp [go_sem]) (by simp [go_sem]) (by simp [go_sem]) (by simp [go_sem]) (by simp [go_sem]) (by simp [go_sem]) (by simp [go_sem]) (by simp [go_sem]) (by simp [go_sem]) (by simp [go_sem]) (by simp [go_sem]) (by simp [go_sem])
                have Y1 : Bk11 w1 (w.heap.size + 1) (.string s') (.int .i64 fy') (.int .i64 ty') (.int .i64 m') (.int .i64 k') (.int .i64 wk') (.int .i64 d') (.int .i64 sec') (.int .i64 base') (.int .i64 save') (.string t') := Bk11.of b1 (by simp <;> omega) (by intro j; simp [go_sem]) (by simp [go_sem]) (by simp [go_sem]) (by simp [go_sem]) (by simp [go_sem]) (by simp [go_sem]) (by simp [go_sem]) (by simp [go_sem]) (by simp [go_sem]) (by simp [go_sem]) (by simp [go_sem]) (by simp [go_sem])
                clear b1 d1
                have cX_b := X1.hb
                have cX_f := X1.fz
                have cX_0 := X1.k0
                have cX_1 := X1.k1
                have cX_2 := X1.k2
                have cX_3 := X1.k3
                have cX_4 := X1.k4
                have cX_5 := X1.k5
                have cX_6 := X1.k6
                have cX_7 := X1.k7
                have cX_8 := X1.k8
                have cX_9 := X1.k9
                have cX_10 := X1.k10
                have cY_b := Y1.hb
                have cY_f := Y1.fz
                have cY_0 := Y1.k0
                have cY_1 := Y1.k1
                have cY_2 := Y1.k2
                have cY_3 := Y1.k3
                have cY_4 := Y1.k4
                have cY_5 := Y1.k5
                have cY_6 := Y1.k6
                have cY_7 := Y1.k7
                have cY_8 := Y1.k8
                have cY_9 := Y1.k9
                have cY_10 := Y1.k10
                go_wp2_with fail
                clear cX_b cX_f cX_0 cX_1 cX_2 cX_3 cX_4 cX_5 cX_6 cX_7 cX_8 cX_9 cX_10 cY_b cY_f cY_0 cY_1 cY_2 cY_3 cY_4 cY_5 cY_6 cY_7 cY_8 cY_9 cY_10
                refine (WB.out _).mono ?_; rintro e w2 ⟨rfl, b2⟩
                have d2 : Below w1.heap.size w1 w2 := below_step (by repeat (first | exact Below.refl _ _ | refine below_drewN ?_ _ | refine Below.drew ?_ | refine Below.setCell ?_ (by first | (simp; done) | (simp; omega) | omega) _ | refine Below.alloc ?_ (by first | (simp; done) | (simp; omega) | omega) _)) b2
                have B2 := Lib.hid (below_step B1.out d2)
                have X2 := X1.keep d2
                have Y2 := Y1.keep d2
                clear X1 Y1 b2 d2 B1
                have cX_b := X2.hb
                have cX_f := X2.fz
                have cX_0 := X2.k0
                have cX_1 := X2.k1
                have cX_2 := X2.k2
                have cX_3 := X2.k3
                have cX_4 := X2.k4
                have cX_5 := X2.k5
                have cX_6 := X2.k6
                have cX_7 := X2.k7
                have cX_8 := X2.k8
                have cX_9 := X2.k9
                have cX_10 := X2.k10
                have cY_b := Y2.hb
                have cY_f := Y2.fz
                have cY_0 := Y2.k0
                have cY_1 := Y2.k1
                have cY_2 := Y2.k2
                have cY_3 := Y2.k3
                have cY_4 := Y2.k4
                have cY_5 := Y2.k5
                have cY_6 := Y2.k6
                have cY_7 := Y2.k7
                have cY_8 := Y2.k8
                have cY_9 := Y2.k9
                have cY_10 := Y2.k10
                go_wp2_with fail
                clear cX_b cX_f cX_0 cX_1 cX_2 cX_3 cX_4 cX_5 cX_6 cX_7 cX_8 cX_9 cX_10 cY_b cY_f cY_0 cY_1 cY_2 cY_3 cY_4 cY_5 cY_6 cY_7 cY_8 cY_9 cY_10
                refine (FA.out _).mono ?_; rintro e w3 ⟨rfl, b3⟩
                have d3 : Below w2.heap.size w2 w3 := below_step (by repeat (first | exact Below.refl _ _ | refine below_drewN ?_ _ | refine Below.drew ?_ | refine Below.setCell ?_ (by first | (simp; done) | (simp; omega) | omega) _ | refine Below.alloc ?_ (by first | (simp; done) | (simp; omega) | omega) _)) b3
                have B3 := Lib.hid (below_step B2.out d3)
                have X3 := X2.keep d3
                have Y3 := Y2.keep d3
                clear X2 Y2 b3 d3 B2
                have cX_b := X3.hb
                have cX_f := X3.fz
                have cX_0 := X3.k0
                have cX_1 := X3.k1
                have cX_2 := X3.k2
                have cX_3 := X3.k3
                have cX_4 := X3.k4
                have cX_5 := X3.k5
                have cX_6 := X3.k6
                have cX_7 := X3.k7
                have cX_8 := X3.k8
                have cX_9 := X3.k9
                have cX_10 := X3.k10
                have cY_b := Y3.hb
                have cY_f := Y3.fz
                have cY_0 := Y3.k0
                have cY_1 := Y3.k1
                have cY_2 := Y3.k2
                have cY_3 := Y3.k3
                have cY_4 := Y3.k4
                have cY_5 := Y3.k5
                have cY_6 := Y3.k6
                have cY_7 := Y3.k7
                have cY_8 := Y3.k8
                have cY_9 := Y3.k9
                have cY_10 := Y3.k10
                go_wp2_with fail
                clear cX_b cX_f cX_0 cX_1 cX_2 cX_3 cX_4 cX_5 cX_6 cX_7 cX_8 cX_9 cX_10 cY_b cY_f cY_0 cY_1 cY_2 cY_3 cY_4 cY_5 cY_6 cY_7 cY_8 cY_9 cY_10
                refine (FB.out _).mono ?_; rintro e w4 ⟨rfl, b4⟩
                have d4 : Below w3.heap.size w3 w4 := below_step (by repeat (first | exact Below.refl _ _ | refine below_drewN ?_ _ | refine Below.drew ?_ | refine Below.setCell ?_ (by first | (simp; done) | (simp; omega) | omega) _ | refine Below.alloc ?_ (by first | (simp; done) | (simp; omega) | omega) _)) b4
                have B4 := Lib.hid (below_step B3.out d4)
                have X4 := X3.keep d4
                have Y4 := Y3.keep d4
                clear X3 Y3 b4 d4 B3
                have cX_b := X4.hb
                have cX_f := X4.fz
                have cX_0 := X4.k0
                have cX_1 := X4.k1
                have cX_2 := X4.k2
                have cX_3 := X4.k3
                have cX_4 := X4.k4
                have cX_5 := X4.k5
                have cX_6 := X4.k6
                have cX_7 := X4.k7
                have cX_8 := X4.k8
                have cX_9 := X4.k9
                have cX_10 := X4.k10
                have cY_b := Y4.hb
                have cY_f := Y4.fz
                have cY_0 := Y4.k0
                have cY_1 := Y4.k1
                have cY_2 := Y4.k2
                have cY_3 := Y4.k3
                have cY_4 := Y4.k4
                have cY_5 := Y4.k5
                have cY_6 := Y4.k6
                have cY_7 := Y4.k7
                have cY_8 := Y4.k8
                have cY_9 := Y4.k9
                have cY_10 := Y4.k10
                go_wp2_with fail
                clear cX_b cX_f cX_0 cX_1 cX_2 cX_3 cX_4 cX_5 cX_6 cX_7 cX_8 cX_9 cX_10 cY_b cY_f cY_0 cY_1 cY_2 cY_3 cY_4 cY_5 cY_6 cY_7 cY_8 cY_9 cY_10
                go_ret
                exact ⟨rfl, (by have hz := B4.out.size; repeat (first | exact B4.out | refine below_drewN ?_ _ | refine Below.drew ?_ | refine Below.setCell ?_ (by first | omega | (simp; done) | (simp; omega)) _ | refine Below.alloc ?_ (by first | omega | (simp; done) | (simp; omega)) _))⟩
              · skip
                obtain rfl : r = 0 := by rw [pl.out]; simp [*]
                clear pl
                go_enter Try.func13, Try.ntmps13
                go_wp2_with fail
                refine (WA.out _).mono ?_; rintro e w1 ⟨rfl, b1⟩
                have d1 : Below w.heap.size w w1 := below_step (by repeat (first | exact Below.refl _ _ | refine below_drewN ?_ _ | refine Below.drew ?_ | refine Below.setCell ?_ (by first | (simp; done) | (simp; omega) | omega) _ | refine Below.alloc ?_ (by first | (simp; done) | (simp; omega) | omega) _)) b1
                have B1 := Lib.hid d1
                have X1 : Bk11 w1 (w.heap.size) (.string s) (.int .i64 fy) (.int .i64 ty) (.int .i64 m) (.int .i64 k) (.int .i64 wk) (.int .i64 d) (.int .i64 sec) (.int .i64 base) (.int .i64 save) (.string t) := Bk11.of b1 (by simp <;> omega) (by intro j; simp [go_sem]) (by simp [go_sem]) (by simp [go_sem]) (by simp [go_sem]) (by simp [go_sem]) (by simp [go_sem]) (by simp [go_sem]) (by simp [go_sem]) (by simp [go_sem]) (by simp [go_sem]) (by simp [go_sem]) (by simp [go_sem])
                have Y1 : Bk11 w1 (w.heap.size + 1) (.string s') (.int .i64 fy') (.int .i64 ty') (.int .i64 m') (.int .i64 k') (.int .i64 wk') (.int .i64 d') (.int .i64 sec') (.int .i64 base') (.int .i64 save') (.string t') := Bk11.of b1 (by simp <;> omega) (by intro j; simp [go_sem]) (by simp [go_sem]) (by simp [go_sem]) (by simp [go_sem]) (by simp [go_sem]) (by simp [go_sem]) (by simp [go_sem]) (by simp [go_sem]) (by simp [go_sem]) (by simp [go_sem]) (by simp [go_sem]) (by simp [go_sem])
                clear b1 d1
                have cX_b := X1.hb
                have cX_f := X1.fz
                have cX_0 := X1.k0
                have cX_1 := X1.k1
                have cX_2 := X1.k2
                have cX_3 := X1.k3
                have cX_4 := X1.k4
                have cX_5 := X1.k5
                have cX_6 := X1.k6
                have cX_7 := X1.k7
                have cX_8 := X1.k8
                have cX_9 := X1.k9
                have cX_10 := X1.k10
                have cY_b := Y1.hb
                have cY_f := Y1.fz
                have cY_0 := Y1.k0
                have cY_1 := Y1.k1
                have cY_2 := Y1.k2
                have cY_3 := Y1.k3
                have cY_4 := Y1.k4
                have cY_5 := Y1.k5
                have cY_6 := Y1.k6
                have cY_7 := Y1.k7
                have cY_8 := Y1.k8
                have cY_9 := Y1.k9
                have cY_10 := Y1.k10
                go_wp2_with fail
                clear cX_b cX_f cX_0 cX_1 cX_2 cX_3 cX_4 cX_5 cX_6 cX_7 cX_8 cX_9 cX_10 cY_b cY_f cY_0 cY_1 cY_2 cY_3 cY_4 cY_5 cY_6 cY_7 cY_8 cY_9 cY_10
                refine (WB.out _).mono ?_; rintro e w2 ⟨rfl, b2⟩
                have d2 : Below w1.heap.size w1 w2 := below_step (by repeat (first | exact Below.refl _ _ | refine below_drewN ?_ _ | refine Below.drew ?_ | refine Below.setCell ?_ (by first | (simp; done) | (simp; omega) | omega) _ | refine Below.alloc ?_ (by first | (simp; done) | (simp; omega) | omega) _)) b2
                have B2 := Lib.hid (below_step B1.out d2)
                have X2 := X1.keep d2
                have Y2 := Y1.keep d2
                clear X1 Y1 b2 d2 B1
                have cX_b := X2.hb
                have cX_f := X2.fz
                have cX_0 := X2.k0
                have cX_1 := X2.k1
                have cX_2 := X2.k2
                have cX_3 := X2.k3
                have cX_4 := X2.k4
                have cX_5 := X2.k5
                have cX_6 := X2.k6
                have cX_7 := X2.k7
                have cX_8 := X2.k8
                have cX_9 := X2.k9
                have cX_10 := X2.k10
                have cY_b := Y2.hb
                have cY_f := Y2.fz
                have cY_0 := Y2.k0
                have cY_1 := Y2.k1
                have cY_2 := Y2.k2
                have cY_3 := Y2.k3
                have cY_4 := Y2.k4
                have cY_5 := Y2.k5
                have cY_6 := Y2.k6
                have cY_7 := Y2.k7
                have cY_8 := Y2.k8
                have cY_9 := Y2.k9
                have cY_10 := Y2.k10
                go_wp2_with fail
                clear cX_b cX_f cX_0 cX_1 cX_2 cX_3 cX_4 cX_5 cX_6 cX_7 cX_8 cX_9 cX_10 cY_b cY_f cY_0 cY_1 cY_2 cY_3 cY_4 cY_5 cY_6 cY_7 cY_8 cY_9 cY_10
                refine (FA.out _).mono ?_; rintro e w3 ⟨rfl, b3⟩
                have d3 : Below w2.heap.size w2 w3 := below_step (by repeat (first | exact Below.refl _ _ | refine below_drewN ?_ _ | refine Below.drew ?_ | refine Below.setCell ?_ (by first | (simp; done) | (simp; omega) | omega) _ | refine Below.alloc ?_ (by first | (simp; done) | (simp; omega) | omega) _)) b3
                have B3 := Lib.hid (below_step B2.out d3)
                have X3 := X2.keep d3
                have Y3 := Y2.keep d3
                clear X2 Y2 b3 d3 B2
                have cX_b := X3.hb
                have cX_f := X3.fz
                have cX_0 := X3.k0
                have cX_1 := X3.k1
                have cX_2 := X3.k2
                have cX_3 := X3.k3
                have cX_4 := X3.k4
                have cX_5 := X3.k5
                have cX_6 := X3.k6
                have cX_7 := X3.k7
                have cX_8 := X3.k8
                have cX_9 := X3.k9
                have cX_10 := X3.k10
                have cY_b := Y3.hb
                have cY_f := Y3.fz
                have cY_0 := Y3.k0
                have cY_1 := Y3.k1
                have cY_2 := Y3.k2
                have cY_3 := Y3.k3
                have cY_4 := Y3.k4
                have cY_5 := Y3.k5
                have cY_6 := Y3.k6
                have cY_7 := Y3.k7
                have cY_8 := Y3.k8
                have cY_9 := Y3.k9
                have cY_10 := Y3.k10
                go_wp2_with fail
                clear cX_b cX_f cX_0 cX_1 cX_2 cX_3 cX_4 cX_5 cX_6 cX_7 cX_8 cX_9 cX_10 cY_b cY_f cY_0 cY_1 cY_2 cY_3 cY_4 cY_5 cY_6 cY_7 cY_8 cY_9 cY_10
                refine (FB.out _).mono ?_; rintro e w4 ⟨rfl, b4⟩
                have d4 : Below w3.heap.size w3 w4 := below_step (by repeat (first | exact Below.refl _ _ | refine below_drewN ?_ _ | refine Below.drew ?_ | refine Below.setCell ?_ (by first | (simp; done) | (simp; omega) | omega) _ | refine Below.alloc ?_ (by first | (simp; done) | (simp; omega) | omega) _)) b4
                have B4 := Lib.hid (below_step B3.out d4)
                have X4 := X3.keep d4
                have Y4 := Y3.keep d4
                clear X3 Y3 b4 d4 B3
                have cX_b := X4.hb
                have cX_f := X4.fz
                have cX_0 := X4.k0
                have cX_1 := X4.k1
                have cX_2 := X4.k2
                have cX_3 := X4.k3
                have cX_4 := X4.k4
                have cX_5 := X4.k5
                have cX_6 := X4.k6
                have cX_7 := X4.k7
                have cX_8 := X4.k8
                have cX_9 := X4.k9
                have cX_10 := X4.k10
                have cY_b := Y4.hb
                have cY_f := Y4.fz
                have cY_0 := Y4.k0
                have cY_1 := Y4.k1
                have cY_2 := Y4.k2
                have cY_3 := Y4.k3
                have cY_4 := Y4.k4
                have cY_5 := Y4.k5
                have cY_6 := Y4.k6
                have cY_7 := Y4.k7
                have cY_8 := Y4.k8
                have cY_9 := Y4.k9
                have cY_10 := Y4.k10
                go_wp2_with fail
                clear cX_b cX_f cX_0 cX_1 cX_2 cX_3 cX_4 cX_5 cX_6 cX_7 cX_8 cX_9 cX_10 cY_b cY_f cY_0 cY_1 cY_2 cY_3 cY_4 cY_5 cY_6 cY_7 cY_8 cY_9 cY_10
                go_ret
                exact ⟨rfl, (by have hz := B4.out.size; repeat (first | exact B4.out | refine below_drewN ?_ _ | refine Below.drew ?_ | refine Below.setCell ?_ (by first | omega | (simp; done) | (simp; omega)) _ | refine Below.alloc ?_ (by first | omega | (simp; done) | (simp; omega)) _))⟩
          · by_cases q1 : 31536000 + y2 - x3 < 345600
            · exfalso; omega
            · cases F2
              · skip
                obtain rfl : r = 0 := by rw [pl.out]; simp [*]
                clear pl
                go_enter Try.func13, Try.ntmps13
                go_wp2_with fail
                refine (WA.out _).mono ?_; rintro e w1 ⟨rfl, b1⟩
                have d1 : Below w.heap.size w w1 := below_step (by repeat (first | exact Below.refl _ _ | refine below_drewN ?_ _ | refine Below.drew ?_ | refine Below.setCell ?_ (by first | (simp; done) | (simp; omega) | omega) _ | refine Below.alloc ?_ (by first | (simp; done) | (simp; omega) | omega) _)) b1
                have B1 := Lib.hid d1
                have X1 : Bk11 w1 (w.heap.size) (.string s) (.int .i64 fy) (.int .i64 ty) (.int .i64 m) (.int .i64 k) (.int .i64 wk) (.int .i64 d) (.int .i64 sec) (.int .i64 base) (.int .i64 save) (.string t) := Bk11.of b1 (by simp <;> omega) (by intro j; simp [go_sem]) (by simp [go_sem]) (by simp [go_sem]) (by simp [go_sem]) (by simp [go_sem]) (by simp [go_sem]) (by simp [go_sem]) (by simp [go_sem]) (by simp [go_sem]) (by simp [go_sem]) (by simp [go_sem]) (by simp [go_sem])
                have Y1 : Bk11 w1 (w.heap.size + 1) (.string s') (.int .i64 fy') (.int .i64 ty') (.int .i64 m') (.int .i64 k') (.int .i64 wk') (.int .i64 d') (.int .i64 sec') (.int .i64 base') (.int .i64 save') (.string t') := Bk11.of b1 (by simp <;> omega) (by intro j; simp [go_sem]) (by simp [go_sem]) (by simp [go_sem]) (by simp [go_sem]) (by simp [go_sem]) (by simp [go_sem]) (by simp [go_sem]) (by simp [go_sem]) (by simp [go_sem]) (by simp [go_sem]) (by simp [go_sem]) (by simp [go_sem])
                clear b1 d1
                have cX_b := X1.hb
                have cX_f := X1.fz
                have cX_0 := X1.k0
                have cX_1 := X1.k1
                have cX_2 := X1.k2
                have cX_3 := X1.k3
                have cX_4 := X1.k4
                have cX_5 := X1.k5
                have cX_6 := X1.k6
                have cX_7 := X1.k7
                have cX_8 := X1.k8
                have cX_9 := X1.k9
                have cX_10 := X1.k10
                have cY_b := Y1.hb
                have cY_f := Y1.fz
                have cY_0 := Y1.k0
                have cY_1 := Y1.k1
                have cY_2 := Y1.k2
                have cY_3 := Y1.k3
                have cY_4 := Y1.k4
                have cY_5 := Y1.k5
                have cY_6 := Y1.k6
                have cY_7 := Y1.k7
                have cY_8 := Y1.k8
                have cY_9 := Y1.k9
                have cY_10 := Y1.k10
                go_wp2_with fail
                clear cX_b cX_f cX_0 cX_1 cX_2 cX_3 cX_4 cX_5 cX_6 cX_7 cX_8 cX_9 cX_10 cY_b cY_f cY_0 cY_1 cY_2 cY_3 cY_4 cY_5 cY_6 cY_7 cY_8 cY_9 cY_10
                refine (WB.out _).mono ?_; rintro e w2 ⟨rfl, b2⟩
                have d2 : Below w1.heap.size w1 w2 := below_step (by repeat (first | exact Below.refl _ _ | refine below_drewN ?_ _ | refine Below.drew ?_ | refine Below.setCell ?_ (by first | (simp; done) | (simp; omega) | omega) _ | refine Below.alloc ?_ (by first | (simp; done) | (simp; omega) | omega) _)) b2
                have B2 := Lib.hid (below_step B1.out d2)
                have X2 := X1.keep d2
                have Y2 := Y1.keep d2
                clear X1 Y1 b2 d2 B1
                have cX_b := X2.hb
                have cX_f := X2.fz
                have cX_0 := X2.k0
                have cX_1 := X2.k1
                have cX_2 := X2.k2
                have cX_3 := X2.k3
                have cX_4 := X2.k4
                have cX_5 := X2.k5
                have cX_6 := X2.k6
                have cX_7 := X2.k7
                have cX_8 := X2.k8
                have cX_9 := X2.k9
                have cX_10 := X2.k10
                have cY_b := Y2.hb
                have cY_f := Y2.fz
                have cY_0 := Y2.k0
                have cY_1 := Y2.k1
                have cY_2 := Y2.k2
                have cY_3 := Y2.k3
                have cY_4 := Y2.k4
                have cY_5 := Y2.k5
                have cY_6 := Y2.k6
                have cY_7 := Y2.k7
                have cY_8 := Y2.k8
                have cY_9 := Y2.k9
                have cY_10 := Y2.k10
                go_wp2_with fail
                clear cX_b cX_f cX_0 cX_1 cX_2 cX_3 cX_4 cX_5 cX_6 cX_7 cX_8 cX_9 cX_10 cY_b cY_f cY_0 cY_1 cY_2 cY_3 cY_4 cY_5 cY_6 cY_7 cY_8 cY_9 cY_10
                refine (FA.out _).mono ?_; rintro e w3 ⟨rfl, b3⟩
                have d3 : Below w2.heap.size w2 w3 := below_step (by repeat (first | exact Below.refl _ _ | refine below_drewN ?_ _ | refine Below.drew ?_ | refine Below.setCell ?_ (by first | (simp; done) | (simp; omega) | omega) _ | refine Below.alloc ?_ (by first | (simp; done) | (simp; omega) | omega) _)) b3
                have B3 := Lib.hid (below_step B2.out d3)
                have X3 := X2.keep d3
                have Y3 := Y2.keep d3
                clear X2 Y2 b3 d3 B2
                have cX_b := X3.hb
                have cX_f := X3.fz
                have cX_0 := X3.k0
                have cX_1 := X3.k1
                have cX_2 := X3.k2
                have cX_3 := X3.k3
                have cX_4 := X3.k4
                have cX_5 := X3.k5
                have cX_6 := X3.k6
                have cX_7 := X3.k7
                have cX_8 := X3.k8
                have cX_9 := X3.k9
                have cX_10 := X3.k10
                have cY_b := Y3.hb
                have cY_f := Y3.fz
                have cY_0 := Y3.k0
                have cY_1 := Y3.k1
                have cY_2 := Y3.k2
                have cY_3 := Y3.k3
                have cY_4 := Y3.k4
                have cY_5 := Y3.k5
                have cY_6 := Y3.k6
                have cY_7 := Y3.k7
                have cY_8 := Y3.k8
                have cY_9 := Y3.k9
                have cY_10 := Y3.k10
                go_wp2_with fail
                clear cX_b cX_f cX_0 cX_1 cX_2 cX_3 cX_4 cX_5 cX_6 cX_7 cX_8 cX_9 cX_10 cY_b cY_f cY_0 cY_1 cY_2 cY_3 cY_4 cY_5 cY_6 cY_7 cY_8 cY_9 cY_10
                refine (FB.out _).mono ?_; rintro e w4 ⟨rfl, b4⟩
                have d4 : Below w3.heap.size w3 w4 := below_step (by repeat (first | exact Below.refl _ _ | refine below_drewN ?_ _ | refine Below.drew ?_ | refine Below.setCell ?_ (by first | (simp; done) | (simp; omega) | omega) _ | refine Below.alloc ?_ (by first | (simp; done) | (simp; omega) | omega) _)) b4
                have B4 := Lib.hid (below_step B3.out d4)
                have X4 := X3.keep d4
                have Y4 := Y3.keep d4
                clear X3 Y3 b4 d4 B3
                have cX_b := X4.hb
                have cX_f := X4.fz
                have cX_0 := X4.k0
                have cX_1 := X4.k1
                have cX_2 := X4.k2
                have cX_3 := X4.k3
                have cX_4 := X4.k4
                have cX_5 := X4.k5
                have cX_6 := X4.k6
                have cX_7 := X4.k7
                have cX_8 := X4.k8
                have cX_9 := X4.k9
                have cX_10 := X4.k10
                have cY_b := Y4.hb
                have cY_f := Y4.fz
                have cY_0 := Y4.k0
                have cY_1 := Y4.k1
                have cY_2 := Y4.k2
                have cY_3 := Y4.k3
                have cY_4 := Y4.k4
                have cY_5 := Y4.k5
                have cY_6 := Y4.k6
                have cY_7 := Y4.k7
                have cY_8 := Y4.k8
                have cY_9 := Y4.k9
                have cY_10 := Y4.k10
                go_wp2_with fail
                clear cX_b cX_f cX_0 cX_1 cX_2 cX_3 cX_4 cX_5 cX_6 cX_7 cX_8 cX_9 cX_10 cY_b cY_f cY_0 cY_1 cY_2 cY_3 cY_4 cY_5 cY_6 cY_7 cY_8 cY_9 cY_10
                go_ret
                exact ⟨rfl, (by have hz := B4.out.size; repeat (first | exact B4.out | refine below_drewN ?_ _ | refine Below.drew ?_ | refine Below.setCell ?_ (by first | omega | (simp; done) | (simp; omega)) _ | refine Below.alloc ?_ (by first | omega | (simp; done) | (simp; omega)) _))⟩
              · by_cases q2 : 31536000 + x2 - y3 < 345600
                · skip
                  obtain rfl : r = 15 := by rw [pl.out]; simp [*]
                  clear pl
                  go_enter Try.func13, Try.ntmps13
                  go_wp2_with fail
                  refine (WA.out _).mono ?_; rintro e w1 ⟨rfl, b1⟩
                  have d1 : Below w.heap.size w w1 := below_step (by repeat (first | exact Below.refl _ _ | refine below_drewN ?_ _ | refine Below.drew ?_ | refine Below.setCell ?_ (by first | (simp; done) | (simp; omega) | omega) _ | refine Below.alloc ?_ (by first | (simp; done) | (simp; omega) | omega) _)) b1
                  have B1 := Lib.hid d1
                  have X1 : Bk11 w1 (w.heap.size) (.string s) (.int .i64 fy) (.int .i64 ty) (.int .i64 m) (.int .i64 k) (.int .i64 wk) (.int .i64 d) (.int .i64 sec) (.int .i64 base) (.int .i64 save) (.string t) := Bk11.of b1 (by simp <;> omega) (by intro j; simp [go_sem]) (by simp [go_sem]) (by simp [go_sem]) (by simp [go_sem]) (by simp [go_sem]) (by simp [go_sem]) (by simp [go_sem]) (by simp [go_sem]) (by simp [go_sem]) (by simp [go_sem]) (by simp [go_sem]) (by simp [go_sem])
                  have Y1 : Bk11 w1 (w.heap.size + 1) (.string s') (.int .i64 fy') (.int .i64 ty') (.int .i64 m') (.int .i64 k') (.int .i64 wk') (.int .i64 d') (.int .i64 sec') (.int .i64 base') (.int .i64 save') (.string t') := Bk11.of b1 (by simp <;> omega) (by intro j; simp [go_sem]) (by simp [go_sem]) (by simp [go_sem]) (by simp [go_sem]) (by simp [go_sem]) (by simp [go_sem]) (by simp [go_sem]) (by simp [go_sem]) (by simp [go_sem]) (by simp [go_sem]) (by simp [go_sem]) (by simp [go_sem])
                  clear b1 d1
                  have cX_b := X1.hb
                  have cX_f := X1.fz
                  have cX_0 := X1.k0
                  have cX_1 := X1.k1
                  have cX_2 := X1.k2
                  have cX_3 := X1.k3
                  have cX_4 := X1.k4
                  have cX_5 := X1.k5
                  have cX_6 := X1.k6
                  have cX_7 := X1.k7
                  have cX_8 := X1.k8
                  have cX_9 := X1.k9
                  have cX_10 := X1.k10
                  have cY_b := Y1.hb
                  have cY_f := Y1.fz
                  have cY_0 := Y1.k0
                  have cY_1 := Y1.k1
                  have cY_2 := Y1.k2
                  have cY_3 := Y1.k3
                  have cY_4 := Y1.k4
                  have cY_5 := Y1.k5
                  have cY_6 := Y1.k6
                  have cY_7 := Y1.k7
                  have cY_8 := Y1.k8
                  have cY_9 := Y1.k9
                  have cY_10 := Y1.k10
                  go_wp2_with fail
                  clear cX_b cX_f cX_0 cX_1 cX_2 cX_3 cX_4 cX_5 cX_6 cX_7 cX_8 cX_9 cX_10 cY_b cY_f cY_0 cY_1 cY_2 cY_3 cY_4 cY_5 cY_6 cY_7 cY_8 cY_9 cY_10
                  refine (WB.out _).mono ?_; rintro e w2 ⟨rfl, b2⟩
                  have d2 : Below w1.heap.size w1 w2 := below_step (by repeat (first | exact Below.refl _ _ | refine below_drewN ?_ _ | refine Below.drew ?_ | refine Below.setCell ?_ (by first | (simp; done) | (simp; omega) | omega) _ | refine Below.alloc ?_ (by first | (simp; done) | (simp; omega) | omega) _)) b2
                  have B2 := Lib.hid (below_step B1.out d2)
                  have X2 := X1.keep d2
                  have Y2 := Y1.keep d2
                  clear X1 Y1 b2 d2 B1
                  have cX_b := X2.hb
                  have cX_f := X2.fz
                  have cX_0 := X2.k0
                  have cX_1 := X2.k1
                  have cX_2 := X2.k2
                  have cX_3 := X2.k3
                  have cX_4 := X2.k4
                  have cX_5 := X2.k5
                  have cX_6 := X2.k6
                  have cX_7 := X2.k7
                  have cX_8 := X2.k8
                  have cX_9 := X2.k9
                  have cX_10 := X2.k10
                  have cY_b := Y2.hb
                  have cY_f := Y2.fz
                  have cY_0 := Y2.k0
                  have cY_1 := Y2.k1
                  have cY_2 := Y2.k2
                  have cY_3 := Y2.k3
                  have cY_4 := Y2.k4
                  have cY_5 := Y2.k5
                  have cY_6 := Y2.k6
                  have cY_7 := Y2.k7
                  have cY_8 := Y2.k8
                  have cY_9 := Y2.k9
                  have cY_10 := Y2.k10
                  go_wp2_with fail
                  clear cX_b cX_f cX_0 cX_1 cX_2 cX_3 cX_4 cX_5 cX_6 cX_7 cX_8 cX_9 cX_10 cY_b cY_f cY_0 cY_1 cY_2 cY_3 cY_4 cY_5 cY_6 cY_7 cY_8 cY_9 cY_10
                  refine (FA.out _).mono ?_; rintro e w3 ⟨rfl, b3⟩
                  have d3 : Below w2.heap.size w2 w3 := below_step (by repeat (first | exact Below.refl _ _ | refine below_drewN ?_ _ | refine Below.drew ?_ | refine Below.setCell ?_ (by first | (simp; done) | (simp; omega) | omega) _ | refine Below.alloc ?_ (by first | (simp; done) | (simp; omega) | omega) _)) b3
                  have B3 := Lib.hid (below_step B2.out d3)
                  have X3 := X2.keep d3
                  have Y3 := Y2.keep d3
                  clear X2 Y2 b3 d3 B2
                  have cX_b := X3.hb
                  have cX_f := X3.fz
                  have cX_0 := X3.k0
                  have cX_1 := X3.k1
                  have cX_2 := X3.k2
                  have cX_3 := X3.k3
                  have cX_4 := X3.k4
                  have cX_5 := X3.k5
                  have cX_6 := X3.k6
                  have cX_7 := X3.k7
                  have cX_8 := X3.k8
                  have cX_9 := X3.k9
                  have cX_10 := X3.k10
                  have cY_b := Y3.hb
                  have cY_f := Y3.fz
                  have cY_0 := Y3.k0
                  have cY_1 := Y3.k1
                  have cY_2 := Y3.k2
                  have cY_3 := Y3.k3
                  have cY_4 := Y3.k4
                  have cY_5 := Y3.k5
                  have cY_6 := Y3.k6
                  have cY_7 := Y3.k7
                  have cY_8 := Y3.k8
                  have cY_9 := Y3.k9
                  have cY_10 := Y3.k10
                  go_wp2_with fail
                  clear cX_b cX_f cX_0 cX_1 cX_2 cX_3 cX_4 cX_5 cX_6 cX_7 cX_8 cX_9 cX_10 cY_b cY_f cY_0 cY_1 cY_2 cY_3 cY_4 cY_5 cY_6 cY_7 cY_8 cY_9 cY_10
                  refine (FB.out _).mono ?_; rintro e w4 ⟨rfl, b4⟩
                  have d4 : Below w3.heap.size w3 w4 := below_step (by repeat (first | exact Below.refl _ _ | refine below_drewN ?_ _ | refine Below.drew ?_ | refine Below.setCell ?_ (by first | (simp; done) | (simp; omega) | omega) _ | refine Below.alloc ?_ (by first | (simp; done) | (simp; omega) | omega) _)) b4
                  have B4 := Lib.hid (below_step B3.out d4)
                  have X4 := X3.keep d4
                  have Y4 := Y3.keep d4
                  clear X3 Y3 b4 d4 B3
                  have cX_b := X4.hb
                  have cX_f := X4.fz
                  have cX_0 := X4.k0
                  have cX_1 := X4.k1
                  have cX_2 := X4.k2
                  have cX_3 := X4.k3
                  have cX_4 := X4.k4
                  have cX_5 := X4.k5
                  have cX_6 := X4.k6
                  have cX_7 := X4.k7
                  have cX_8 := X4.k8
                  have cX_9 := X4.k9
                  have cX_10 := X4.k10
                  have cY_b := Y4.hb
                  have cY_f := Y4.fz
                  have cY_0 := Y4.k0
                  have cY_1 := Y4.k1
                  have cY_2 := Y4.k2
                  have cY_3 := Y4.k3
                  have cY_4 := Y4.k4
                  have cY_5 := Y4.k5
                  have cY_6 := Y4.k6
                  have cY_7 := Y4.k7
                  have cY_8 := Y4.k8
                  have cY_9 := Y4.k9
                  have cY_10 := Y4.k10
                  go_wp2_with fail
                  clear cX_b cX_f cX_0 cX_1 cX_2 cX_3 cX_4 cX_5 cX_6 cX_7 cX_8 cX_9 cX_10 cY_b cY_f cY_0 cY_1 cY_2 cY_3 cY_4 cY_5 cY_6 cY_7 cY_8 cY_9 cY_10
                  go_ret
                  exact ⟨rfl, (by have hz := B4.out.size; repeat (first | exact B4.out | refine below_drewN ?_ _ | refine Below.drew ?_ | refine Below.setCell ?_ (by first | omega | (simp; done) | (simp; omega)) _ | refine Below.alloc ?_ (by first | omega | (simp; done) | (simp; omega)) _))⟩
                · skip
                  obtain rfl : r = 0 := by rw [pl.out]; simp [*]
                  clear pl
                  go_enter Try.func13, Try.ntmps13
                  go_wp2_with fail
                  refine (WA.out _).mono ?_; rintro e w1 ⟨rfl, b1⟩
                  have d1 : Below w.heap.size w w1 := below_step (by repeat (first | exact Below.refl _ _ | refine below_drewN ?_ _ | refine Below.drew ?_ | refine Below.setCell ?_ (by first | (simp; done) | (simp; omega) | omega) _ | refine Below.alloc ?_ (by first | (simp; done) | (simp; omega) | omega) _)) b1
                  have B1 := Lib.hid d1
                  have X1 : Bk11 w1 (w.heap.size) (.string s) (.int .i64 fy) (.int .i64 ty) (.int .i64 m) (.int .i64 k) (.int .i64 wk) (.int .i64 d) (.int .i64 sec) (.int .i64 base) (.int .i64 save) (.string t) := Bk11.of b1 (by simp <;> omega) (by intro j; simp [go_sem]) (by simp [go_sem]) (by simp [go_sem]) (by simp [go_sem]) (by simp [go_sem]) (by simp [go_sem]) (by simp [go_sem]) (by simp [go_sem]) (by simp [go_sem]) (by simp [go_sem]) (by simp [go_sem]) (by simp [go_sem])
                  have Y1 : Bk11 w1 (w.heap.size + 1) (.string s') (.int .i64 fy') (.int .i64 ty') (.int .i64 m') (.int .i64 k') (.int .i64 wk') (.int .i64 d') (.int .i64 sec') (.int .i64 base') (.int .i64 save') (.string t') := Bk11.of b1 (by simp <;> omega) (by intro j; simp [go_sem]) (by simp [go_sem]) (by simp [go_sem]) (by simp [go_sem]) (by simp [go_sem]) (by simp [go_sem]) (by simp [go_sem]) (by simp [go_sem]) (by simp [go_sem]) (by simp [go_sem]) (by simp [go_sem]) (by simp [go_sem])
                  clear b1 d1
                  have cX_b := X1.hb
                  have cX_f := X1.fz
                  have cX_0 := X1.k0
                  have cX_1 := X1.k1
                  have cX_2 := X1.k2
                  have cX_3 := X1.k3
                  have cX_4 := X1.k4
                  have cX_5 := X1.k5
                  have cX_6 := X1.k6
                  have cX_7 := X1.k7
                  have cX_8 := X1.k8
                  have cX_9 := X1.k9
                  have cX_10 := X1.k10
                  have cY_b := Y1.hb
                  have cY_f := Y1.fz
                  have cY_0 := Y1.k0
                  have cY_1 := Y1.k1
                  have cY_2 := Y1.k2
                  have cY_3 := Y1.k3
                  have cY_4 := Y1.k4
                  have cY_5 := Y1.k5
                  have cY_6 := Y1.k6
                  have cY_7 := Y1.k7
                  have cY_8 := Y1.k8
                  have cY_9 := Y1.k9
                  have cY_10 := Y1.k10
                  go_wp2_with fail
                  clear cX_b cX_f cX_0 cX_1 cX_2 cX_3 cX_4 cX_5 cX_6 cX_7 cX_8 cX_9 cX_10 cY_b cY_f cY_0 cY_1 cY_2 cY_3 cY_4 cY_5 cY_6 cY_7 cY_8 cY_9 cY_10
                  refine (WB.out _).mono ?_; rintro e w2 ⟨rfl, b2⟩
                  have d2 : Below w1.heap.size w1 w2 := below_step (by repeat (first | exact Below.refl _ _ | refine below_drewN ?_ _ | refine Below.drew ?_ | refine Below.setCell ?_ (by first | (simp; done) | (simp; omega) | omega) _ | refine Below.alloc ?_ (by first | (simp; done) | (simp; omega) | omega) _)) b2
                  have B2 := Lib.hid (below_step B1.out d2)
                  have X2 := X1.keep d2
                  have Y2 := Y1.keep d2
                  clear X1 Y1 b2 d2 B1
                  have cX_b := X2.hb
                  have cX_f := X2.fz
                  have cX_0 := X2.k0
                  have cX_1 := X2.k1
                  have cX_2 := X2.k2
                  have cX_3 := X2.k3
                  have cX_4 := X2.k4
                  have cX_5 := X2.k5
                  have cX_6 := X2.k6
                  have cX_7 := X2.k7
                  have cX_8 := X2.k8
                  have cX_9 := X2.k9
                  have cX_10 := X2.k10
                  have cY_b := Y2.hb
                  have cY_f := Y2.fz
                  have cY_0 := Y2.k0
                  have cY_1 := Y2.k1
                  have cY_2 := Y2.k2
                  have cY_3 := Y2.k3
                  have cY_4 := Y2.k4
                  have cY_5 := Y2.k5
                  have cY_6 := Y2.k6
                  have cY_7 := Y2.k7
                  have cY_8 := Y2.k8
                  have cY_9 := Y2.k9
                  have cY_10 := Y2.k10
                  go_wp2_with fail
                  clear cX_b cX_f cX_0 cX_1 cX_2 cX_3 cX_4 cX_5 cX_6 cX_7 cX_8 cX_9 cX_10 cY_b cY_f cY_0 cY_1 cY_2 cY_3 cY_4 cY_5 cY_6 cY_7 cY_8 cY_9 cY_10
                  refine (FA.out _).mono ?_; rintro e w3 ⟨rfl, b3⟩
                  have d3 : Below w2.heap.size w2 w3 := below_step (by repeat (first | exact Below.refl _ _ | refine below_drewN ?_ _ | refine Below.drew ?_ | refine Below.setCell ?_ (by first | (simp; done) | (simp; omega) | omega) _ | refine Below.alloc ?_ (by first | (simp; done) | (simp; omega) | omega) _)) b3
                  have B3 := Lib.hid (below_step B2.out d3)
                  have X3 := X2.keep d3
                  have Y3 := Y2.keep d3
                  clear X2 Y2 b3 d3 B2
                  have cX_b := X3.hb
                  have cX_f := X3.fz
                  have cX_0 := X3.k0
                  have cX_1 := X3.k1
                  have cX_2 := X3.k2
                  have cX_3 := X3.k3
                  have cX_4 := X3.k4
                  have cX_5 := X3.k5
                  have cX_6 := X3.k6
                  have cX_7 := X3.k7
                  have cX_8 := X3.k8
                  have cX_9 := X3.k9
                  have cX_10 := X3.k10
                  have cY_b := Y3.hb
                  have cY_f := Y3.fz
                  have cY_0 := Y3.k0
                  have cY_1 := Y3.k1
                  have cY_2 := Y3.k2
                  have cY_3 := Y3.k3
                  have cY_4 := Y3.k4
                  have cY_5 := Y3.k5
                  have cY_6 := Y3.k6
                  have cY_7 := Y3.k7
                  have cY_8 := Y3.k8
                  have cY_9 := Y3.k9
                  have cY_10 := Y3.k10
                  go_wp2_with fail
                  clear cX_b cX_f cX_0 cX_1 cX_2 cX_3 cX_4 cX_5 cX_6 cX_7 cX_8 cX_9 cX_10 cY_b cY_f cY_0 cY_1 cY_2 cY_3 cY_4 cY_5 cY_6 cY_7 cY_8 cY_9 cY_10
                  refine (FB.out _).mono ?_; rintro e w4 ⟨rfl, b4⟩
                  have d4 : Below w3.heap.size w3 w4 := below_step (by repeat (first | exact Below.refl _ _ | refine below_drewN ?_ _ | refine Below.drew ?_ | refine Below.setCell ?_ (by first | (simp; done) | (simp; omega) | omega) _ | refine Below.alloc ?_ (by first | (simp; done) | (simp; omega) | omega) _)) b4
                  have B4 := Lib.hid (below_step B3.out d4)
                  have X4 := X3.keep d4
                  have Y4 := Y3.keep d4
                  clear X3 Y3 b4 d4 B3
                  have cX_b := X4.hb
                  have cX_f := X4.fz
                  have cX_0 := X4.k0
                  have cX_1 := X4.k1
                  have cX_2 := X4.k2
                  have cX_3 := X4.k3
                  have cX_4 := X4.k4
                  have cX_5 := X4.k5
                  have cX_6 := X4.k6
                  have cX_7 := X4.k7
                  have cX_8 := X4.k8
                  have cX_9 := X4.k9
                  have cX_10 := X4.k10
                  have cY_b := Y4.hb
                  have cY_f := Y4.fz
                  have cY_0 := Y4.k0
                  have cY_1 := Y4.k1
                  have cY_2 := Y4.k2
                  have cY_3 := Y4.k3
                  have cY_4 := Y4.k4
                  have cY_5 := Y4.k5
                  have cY_6 := Y4.k6
                  have cY_7 := Y4.k7
                  have cY_8 := Y4.k8
                  have cY_9 := Y4.k9
                  have cY_10 := Y4.k10
                  go_wp2_with fail
                  clear cX_b cX_f cX_0 cX_1 cX_2 cX_3 cX_4 cX_5 cX_6 cX_7 cX_8 cX_9 cX_10 cY_b cY_f cY_0 cY_1 cY_2 cY_3 cY_4 cY_5 cY_6 cY_7 cY_8 cY_9 cY_10
                  go_ret
                  exact ⟨rfl, (by have hz := B4.out.size; repeat (first | exact B4.out | refine below_drewN ?_ _ | refine Below.drew ?_ | refine Below.setCell ?_ (by first | omega | (simp; done) | (simp; omega)) _ | refine Below.alloc ?_ (by first | omega | (simp; done) | (simp; omega)) _))⟩
      · have gT : decide (max fy fy' ≤ min ty ty') = false := decide_eq_false hT
        cases F1
        · cases F2
          · skip
            obtain rfl : r = 0 := by rw [pl.out]; simp [*]
            clear pl
            go_enter Try.func13, Try.ntmps13
            go_wp2_with fail
            refine (WA.out _).mono ?_; rintro e w1 ⟨rfl, b1⟩
            have d1 : Below w.heap.size w w1 := below_step (by repeat (first | exact Below.refl _ _ | refine below_drewN ?_ _ | refine Below.drew ?_ | refine Below.setCell ?_ (by first | (simp; done) | (simp; omega) | omega) _ | refine Below.alloc ?_ (by first | (simp; done) | (simp; omega) | omega) _)) b1
            have B1 := Lib.hid d1
            have X1 : Bk11 w1 (w.heap.size) (.string s) (.int .i64 fy) (.int .i64 ty) (.int .i64 m) (.int .i64 k) (.int .i64 wk) (.int .i64 d) (.int .i64 sec) (.int .i64 base) (.int .i64 save) (.string t) := Bk11.of b1 (by simp <;> omega) (by intro j; simp [go_sem]) (by simp [go_sem]) (by simp [go_sem]) (by simp [go_sem]) (by simp [go_sem]) (by simp [go_sem]) (by simp [go_sem]) (by simp [go_sem]) (by simp [go_sem]) (by simp [go_sem]) (by simp [go_sem]) (by simp [go_sem])
            have Y1 : Bk11 w1 (w.heap.size + 1) (.string s') (.int .i64 fy') (.int .i64 ty') (.int .i64 m') (.int .i64 k') (.int .i64 wk') (.int .i64 d') (.int .i64 sec') (.int .i64 base') (.int .i64 save') (.string t') := Bk11.of b1 (by simp <;> omega) (by intro j; simp [go_sem]) (by simp [go_sem]) (by simp [go_sem]) (by simp [go_sem]) (by simp [go_sem]) (by simp [go_sem]) (by simp [go_sem]) (by simp [go_sem]) (by simp [go_sem]) (by simp [go_sem]) (by simp [go_sem]) (by simp [go_sem])
            clear b1 d1
            have cX_b := X1.hb
            have cX_f := X1.fz
            have cX_0 := X1.k0
            have cX_1 := X1.k1
            have cX_2 := X1.k2
            have cX_3 := X1.k3
            have cX_4 := X1.k4
            have cX_5 := X1.k5
            have cX_6 := X1.k6
            have cX_7 := X1.k7
            have cX_8 := X1.k8
            have cX_9 := X1.k9
            have cX_10 := X1.k10
            have cY_b := Y1.hb
            have cY_f := Y1.fz
            have cY_0 := Y1.k0
            have cY_1 := Y1.k1
            have cY_2 := Y1.k2
            have cY_3 := Y1.k3
            have cY_4 := Y1.k4
            have cY_5 := Y1.k5
            have cY_6 := Y1.k6
            have cY_7 := Y1.k7
            have cY_8 := Y1.k8
            have cY_9 := Y1.k9
            have cY_10 := Y1.k10
            go_wp2_with fail
            clear cX_b cX_f cX_0 cX_1 cX_2 cX_3 cX_4 cX_5 cX_6 cX_7 cX_8 cX_9 cX_10 cY_b cY_f cY_0 cY_1 cY_2 cY_3 cY_4 cY_5 cY_6 cY_7 cY_8 cY_9 cY_10
            refine (WB.out _).mono ?_; rintro e w2 ⟨rfl, b2⟩
            have d2 : Below w1.heap.size w1 w2 := below_step (by repeat (first | exact Below.refl _ _ | refine below_drewN ?_ _ | refine Below.drew ?_ | refine Below.setCell ?_ (by first | (simp; done) | (simp; omega) | omega) _ | refine Below.alloc ?_ (by first | (simp; done) | (simp; omega) | omega) _)) b2
            have B2 := Lib.hid (below_step B1.out d2)
            have X2 := X1.keep d2
            have Y2 := Y1.keep d2
            clear X1 Y1 b2 d2 B1
            have cX_b := X2.hb
            have cX_f := X2.fz
            have cX_0 := X2.k0
            have cX_1 := X2.k1
            have cX_2 := X2.k2
            have cX_3 := X2.k3
            have cX_4 := X2.k4
            have cX_5 := X2.k5
            have cX_6 := X2.k6
            have cX_7 := X2.k7
            have cX_8 := X2.k8
            have cX_9 := X2.k9
            have cX_10 := X2.k10
            have cY_b := Y2.hb
            have cY_f := Y2.fz
            have cY_0 := Y2.k0
            have cY_1 := Y2.k1
            have cY_2 := Y2.k2
            have cY_3 := Y2.k3
            have cY_4 := Y2.k4
            have cY_5 := Y2.k5
            have cY_6 := Y2.k6
            have cY_7 := Y2.k7
            have cY_8 := Y2.k8
            have cY_9 := Y2.k9
            have cY_10 := Y2.k10
            go_wp2_with fail
            clear cX_b cX_f cX_0 cX_1 cX_2 cX_3 cX_4 cX_5 cX_6 cX_7 cX_8 cX_9 cX_10 cY_b cY_f cY_0 cY_1 cY_2 cY_3 cY_4 cY_5 cY_6 cY_7 cY_8 cY_9 cY_10
            refine (FA.out _).mono ?_; rintro e w3 ⟨rfl, b3⟩
            have d3 : Below w2.heap.size w2 w3 := below_step (by repeat (first | exact Below.refl _ _ | refine below_drewN ?_ _ | refine Below.drew ?_ | refine Below.setCell ?_ (by first | (simp; done) | (simp; omega) | omega) _ | refine Below.alloc ?_ (by first | (simp; done) | (simp; omega) | omega) _)) b3
            have B3 := Lib.hid (below_step B2.out d3)
            have X3 := X2.keep d3
            have Y3 := Y2.keep d3
            clear X2 Y2 b3 d3 B2
            have cX_b := X3.hb
            have cX_f := X3.fz
            have cX_0 := X3.k0
            have cX_1 := X3.k1
            have cX_2 := X3.k2
            have cX_3 := X3.k3
            have cX_4 := X3.k4
            have cX_5 := X3.k5
            have cX_6 := X3.k6
            have cX_7 := X3.k7
            have cX_8 := X3.k8
            have cX_9 := X3.k9
            have cX_10 := X3.k10
            have cY_b := Y3.hb
            have cY_f := Y3.fz
            have cY_0 := Y3.k0
            have cY_1 := Y3.k1
            have cY_2 := Y3.k2
            have cY_3 := Y3.k3
            have cY_4 := Y3.k4
            have cY_5 := Y3.k5
            have cY_6 := Y3.k6
            have cY_7 := Y3.k7
            have cY_8 := Y3.k8
            have cY_9 := Y3.k9
            have cY_10 := Y3.k10
            go_wp2_with fail
            clear cX_b cX_f cX_0 cX_1 cX_2 cX_3 cX_4 cX_5 cX_6 cX_7 cX_8 cX_9 cX_10 cY_b cY_f cY_0 cY_1 cY_2 cY_3 cY_4 cY_5 cY_6 cY_7 cY_8 cY_9 cY_10
            refine (FB.out _).mono ?_; rintro e w4 ⟨rfl, b4⟩
            have d4 : Below w3.heap.size w3 w4 := below_step (by repeat (first | exact Below.refl _ _ | refine below_drewN ?_ _ | refine Below.drew ?_ | refine Below.setCell ?_ (by first | (simp; done) | (simp; omega) | omega) _ | refine Below.alloc ?_ (by first | (simp; done) | (simp; omega) | omega) _)) b4
            have B4 := Lib.hid (below_step B3.out d4)
            have X4 := X3.keep d4
            have Y4 := Y3.keep d4
            clear X3 Y3 b4 d4 B3
            have cX_b := X4.hb
            have cX_f := X4.fz
            have cX_0 := X4.k0
            have cX_1 := X4.k1
            have cX_2 := X4.k2
            have cX_3 := X4.k3
            have cX_4 := X4.k4
            have cX_5 := X4.k5
            have cX_6 := X4.k6
            have cX_7 := X4.k7
            have cX_8 := X4.k8
            have cX_9 := X4.k9
            have cX_10 := X4.k10
            have cY_b := Y4.hb
            have cY_f := Y4.fz
            have cY_0 := Y4.k0
            have cY_1 := Y4.k1
            have cY_2 := Y4.k2
            have cY_3 := Y4.k3
            have cY_4 := Y4.k4
            have cY_5 := Y4.k5
            have cY_6 := Y4.k6
            have cY_7 := Y4.k7
            have cY_8 := Y4.k8
            have cY_9 := Y4.k9
            have cY_10 := Y4.k10
            go_wp2_with fail
            clear cX_b cX_f cX_0 cX_1 cX_2 cX_3 cX_4 cX_5 cX_6 cX_7 cX_8 cX_9 cX_10 cY_b cY_f cY_0 cY_1 cY_2 cY_3 cY_4 cY_5 cY_6 cY_7 cY_8 cY_9 cY_10
            go_ret
            exact ⟨rfl, (by have hz := B4.out.size; repeat (first | exact B4.out | refine below_drewN ?_ _ | refine Below.drew ?_ | refine Below.setCell ?_ (by first | omega | (simp; done) | (simp; omega)) _ | refine Below.alloc ?_ (by first | omega | (simp; done) | (simp; omega)) _))⟩
          · by_cases q2 : 31536000 + x2 - y3 < 345600
            · skip
              obtain rfl : r = 15 := by rw [pl.out]; simp [*]
              clear pl
              go_enter Try.func13, Try.ntmps13
              go_wp2_with fail
              refine (WA.out _).mono ?_; rintro e w1 ⟨rfl, b1⟩
              have d1 : Below w.heap.size w w1 := below_step (by repeat (first | exact Below.refl _ _ | refine below_drewN ?_ _ | refine Below.drew ?_ | refine Below.setCell ?_ (by first | (simp; done) | (simp; omega) | omega) _ | refine Below.alloc ?_ (by first | (simp; done) | (simp; omega) | omega) _)) b1
              have B1 := Lib.hid d1
              have X1 : Bk11 w1 (w.heap.size) (.string s) (.int .i64 fy) (.int .i64 ty) (.int .i64 m) (.int .i64 k) (.int .i64 wk) (.int .i64 d) (.int .i64 sec) (.int .i64 base) (.int .i64 save) (.string t) := Bk11.of b1 (by simp <;> omega) (by intro j; simp [go_sem]) (by simp [go_sem]) (by simp [go_sem]) (by simp [go_sem]) (by simp [go_sem]) (by simp [go_sem]) (by simp [go_sem]) (by simp [go_sem]) (by simp [go_sem]) (by simp [go_sem]) (by simp [go_sem]) (by simp [go_sem])
              have Y1 : Bk11 w1 (w.heap.size + 1) (.string s') (.int .i64 fy') (.int .i64 ty') (.int .i64 m') (.int .i64 k') (.int .i64 wk') (.int .i64 d') (.int .i64 sec') (.int .i64 base') (.int .i64 save') (.string t') := Bk11.of b1 (by simp <;> omega) (by intro j; simp [go_sem]) (by simp [go_sem]) (by simp [go_sem]) (by simp [go_sem]) (by simp [go_sem]) (by simp [go_sem]) (by simp [go_sem]) (by simp [go_sem]) (by simp [go_sem]) (by simp [go_sem]) (by simp [go_sem]) (by simp [go_sem])
              clear b1 d1
              have cX_b := X1.hb
              have cX_f := X1.fz
              have cX_0 := X1.k0
              have cX_1 := X1.k1
              have cX_2 := X1.k2
              have cX_3 := X1.k3
              have cX_4 := X1.k4
              have cX_5 := X1.k5
              have cX_6 := X1.k6
              have cX_7 := X1.k7
              have cX_8 := X1.k8
              have cX_9 := X1.k9
              have cX_10 := X1.k10
              have cY_b := Y1.hb
              have cY_f := Y1.fz
              have cY_0 := Y1.k0
              have cY_1 := Y1.k1
              have cY_2 := Y1.k2
              have cY_3 := Y1.k3
              have cY_4 := Y1.k4
              have cY_5 := Y1.k5
              have cY_6 := Y1.k6
              have cY_7 := Y1.k7
              have cY_8 := Y1.k8
              have cY_9 := Y1.k9
              have cY_10 := Y1.k10
              go_wp2_with fail
              clear cX_b cX_f cX_0 cX_1 cX_2 cX_3 cX_4 cX_5 cX_6 cX_7 cX_8 cX_9 cX_10 cY_b cY_f cY_0 cY_1 cY_2 cY_3 cY_4 cY_5 cY_6 cY_7 cY_8 cY_9 cY_10
              refine (WB.out _).mono ?_; rintro e w2 ⟨rfl, b2⟩
              have d2 : Below w1.heap.size w1 w2 := below_step (by repeat (first | exact Below.refl _ _ | refine below_drewN ?_ _ | refine Below.drew ?_ | refine Below.setCell ?_ (by first | (simp; done) | (simp; omega) | omega) _ | refine Below.alloc ?_ (by first | (simp; done) | (simp; omega) | omega) _)) b2
              have B2 := Lib.hid (below_step B1.out d2)
              have X2 := X1.keep d2
              have Y2 := Y1.keep d2
              clear X1 Y1 b2 d2 B1
              have cX_b := X2.hb
              have cX_f := X2.fz
              have cX_0 := X2.k0
              have cX_1 := X2.k1
              have cX_2 := X2.k2
              have cX_3 := X2.k3
              have cX_4 := X2.k4
              have cX_5 := X2.k5
              have cX_6 := X2.k6
              have cX_7 := X2.k7
              have cX_8 := X2.k8
              have cX_9 := X2.k9
              have cX_10 := X2.k10
              have cY_b := Y2.hb
              have cY_f := Y2.fz
              have cY_0 := Y2.k0
              have cY_1 := Y2.k1
              have cY_2 := Y2.k2
              have cY_3 := Y2.k3
              have cY_4 := Y2.k4
              have cY_5 := Y2.k5
              have cY_6 := Y2.k6
              have cY_7 := Y2.k7
              have cY_8 := Y2.k8
              have cY_9 := Y2.k9
              have cY_10 := Y2.k10
              go_wp2_with fail
              clear cX_b cX_f cX_0 cX_1 cX_2 cX_3 cX_4 cX_5 cX_6 cX_7 cX_8 cX_9 cX_10 cY_b cY_f cY_0 cY_1 cY_2 cY_3 cY_4 cY_5 cY_6 cY_7 cY_8 cY_9 cY_10
              refine (FA.out _).mono ?_; rintro e w3 ⟨rfl, b3⟩
              have d3 : Below w2.heap.size w2 w3 := below_step (by repeat (first | exact Below.refl _ _ | refine below_drewN ?_ _ | refine Below.drew ?_ | refine Below.setCell ?_ (by first | (simp; done) | (simp; omega) | omega) _ | refine Below.alloc ?_ (by first | (simp; done) | (simp; omega) | omega) _)) b3
              have B3 := Lib.hid (below_step B2.out d3)
              have X3 := X2.keep d3
              have Y3 := Y2.keep d3
              clear X2 Y2 b3 d3 B2
              have cX_b := X3.hb
              have cX_f := X3.fz
              have cX_0 := X3.k0
              have cX_1 := X3.k1
              have cX_2 := X3.k2
              have cX_3 := X3.k3
              have cX_4 := X3.k4
              have cX_5 := X3.k5
              have cX_6 := X3.k6
              have cX_7 := X3.k7
              have cX_8 := X3.k8
              have cX_9 := X3.k9
              have cX_10 := X3.k10
              have cY_b := Y3.hb
              have cY_f := Y3.fz
              have cY_0 := Y3.k0
              have cY_1 := Y3.k1
              have cY_2 := Y3.k2
              have cY_3 := Y3.k3
              have cY_4 := Y3.k4
              have cY_5 := Y3.k5
              have cY_6 := Y3.k6
              have cY_7 := Y3.k7
              have cY_8 := Y3.k8
              have cY_9 := Y3.k9
              have cY_10 := Y3.k10
              go_wp2_with fail
              clear cX_b cX_f cX_0 cX_1 cX_2 cX_3 cX_4 cX_5 cX_6 cX_7 cX_8 cX_9 cX_10 cY_b cY_f cY_0 cY_1 cY_2 cY_3 cY_4 cY_5 cY_6 cY_7 cY_8 cY_9 cY_10
              refine (FB.out _).mono ?_; rintro e w4 ⟨rfl, b4⟩
              have d4 : Below w3.heap.size w3 w4 := below_step (by repeat (first | exact Below.refl _ _ | refine below_drewN ?_ _ | refine Below.drew ?_ | refine Below.setCell ?_ (by first | (simp; done) | (simp; omega) | omega) _ | refine Below.alloc ?_ (by first | (simp; done) | (simp; omega) | omega) _)) b4
              have B4 := Lib.hid (below_step B3.out d4)
              have X4 := X3.keep d4
              have Y4 := Y3.keep d4
              clear X3 Y3 b4 d4 B3
              have cX_b := X4.hb
              have cX_f := X4.fz
              have cX_0 := X4.k0
              have cX_1 := X4.k1
              have cX_2 := X4.k2
              have cX_3 := X4.k3
              have cX_4 := X4.k4
              have cX_5 := X4.k5
              have cX_6 := X4.k6
              have cX_7 := X4.k7
              have cX_8 := X4.k8
              have cX_9 := X4.k9
              have cX_10 := X4.k10
              have cY_b := Y4.hb
              have cY_f := Y4.fz
              have cY_0 := Y4.k0
              have cY_1 := Y4.k1
              have cY_2 := Y4.k2
              have cY_3 := Y4.k3
              have cY_4 := Y4.k4
              have cY_5 := Y4.k5
              have cY_6 := Y4.k6
              have cY_7 := Y4.k7
              have cY_8 := Y4.k8
              have cY_9 := Y4.k9
              have cY_10 := Y4.k10
              go_wp2_with fail
              clear cX_b cX_f cX_0 cX_1 cX_2 cX_3 cX_4 cX_5 cX_6 cX_7 cX_8 cX_9 cX_10 cY_b cY_f cY_0 cY_1 cY_2 cY_3 cY_4 cY_5 cY_6 cY_7 cY_8 cY_9 cY_10
              go_ret
              exact ⟨rfl, (by have hz := B4.out.size; repeat (first | exact B4.out | refine below_drewN ?_ _ | refine Below.drew ?_ | refine Below.setCell ?_ (by first | omega | (simp; done) | (simp; omega)) _ | refine Below.alloc ?_ (by first | omega | (simp; done) | (simp; omega)) _))⟩
            · skip
              obtain rfl : r = 0 := by rw [pl.out]; simp [*]
              clear pl
              go_enter Try.func13, Try.ntmps13
              go_wp2_with fail
              refine (WA.out _).mono ?_; rintro e w1 ⟨rfl, b1⟩
              have d1 : Below w.heap.size w w1 := below_step (by repeat (first | exact Below.refl _ _ | refine below_drewN ?_ _ | refine Below.drew ?_ | refine Below.setCell ?_ (by first | (simp; done) | (simp; omega) | omega) _ | refine Below.alloc ?_ (by first | (simp; done) | (simp; omega) | omega) _)) b1
              have B1 := Lib.hid d1
              have X1 : Bk11 w1 (w.heap.size) (.string s) (.int .i64 fy) (.int .i64 ty) (.int .i64 m) (.int .i64 k) (.int .i64 wk) (.int .i64 d) (.int .i64 sec) (.int .i64 base) (.int .i64 save) (.string t) := Bk11.of b1 (by simp <;> omega) (by intro j; simp [go_sem]) (by simp [go_sem]) (by simp [go_sem]) (by simp [go_sem]) (by simp [go_sem]) (by simp [go_sem]) (by simp [go_sem]) (by simp [go_sem]) (by simp [go_sem]) (by simp [go_sem]) (by simp [go_sem]) (by simp [go_sem])
              have Y1 : Bk11 w1 (w.heap.size + 1) (.string s') (.int .i64 fy') (.int .i64 ty') (.int .i64 m') (.int .i64 k') (.int .i64 wk') (.int .i64 d') (.int .i64 sec') (.int .i64 base') (.int .i64 save') (.string t') := Bk11.of b1 (by simp <;> omega) (by intro j; simp [go_sem]) (by simp [go_sem]) (by simp [go_sem]) (by simp [go_sem]) (by simp [go_sem]) (by simp [go_sem]) (by simp [go_sem]) (by simp [go_sem]) (by simp [go_sem]) (by simp [go_sem]) (by simp [go_sem]) (by simp [go_sem])
              clear b1 d1
              have cX_b := X1.hb
              have cX_f := X1.fz
              have cX_0 := X1.k0
              have cX_1 := X1.k1
              have cX_2 := X1.k2
              have cX_3 := X1.k3
              have cX_4 := X1.k4
              have cX_5 := X1.k5
              have cX_6 := X1.k6
              have cX_7 := X1.k7
              have cX_8 := X1.k8
              have cX_9 := X1.k9
              have cX_10 := X1.k10
              have cY_b := Y1.hb
              have cY_f := Y1.fz
              have cY_0 := Y1.k0
              have cY_1 := Y1.k1
              have cY_2 := Y1.k2
              have cY_3 := Y1.k3
              have cY_4 := Y1.k4
              have cY_5 := Y1.k5
              have cY_6 := Y1.k6
              have cY_7 := Y1.k7
              have cY_8 := Y1.k8
              have cY_9 := Y1.k9
              have cY_10 := Y1.k10
              go_wp2_with fail
              clear cX_b cX_f cX_0 cX_1 cX_2 cX_3 cX_4 cX_5 cX_6 cX_7 cX_8 cX_9 cX_10 cY_b cY_f cY_0 cY_1 cY_2 cY_3 cY_4 cY_5 cY_6 cY_7 cY_8 cY_9 cY_10
              refine (WB.out _).mono ?_; rintro e w2 ⟨rfl, b2⟩
              have d2 : Below w1.heap.size w1 w2 := below_step (by repeat (first | exact Below.refl _ _ | refine below_drewN ?_ _ | refine Below.drew ?_ | refine Below.setCell ?_ (by first | (simp; done) | (simp; omega) | omega) _ | refine Below.alloc ?_ (by first | (simp; done) | (simp; omega) | omega) _)) b2
              have B2 := Lib.hid (below_step B1.out d2)
              have X2 := X1.keep d2
              have Y2 := Y1.keep d2
              clear X1 Y1 b2 d2 B1
              have cX_b := X2.hb
              have cX_f := X2.fz
              have cX_0 := X2.k0
              have cX_1 := X2.k1
              have cX_2 := X2.k2
              have cX_3 := X2.k3
              have cX_4 := X2.k4
              have cX_5 := X2.k5
              have cX_6 := X2.k6
              have cX_7 := X2.k7
              have cX_8 := X2.k8
              have cX_9 := X2.k9
              have cX_10 := X2.k10
              have cY_b := Y2.hb
              have cY_f := Y2.fz
              have cY_0 := Y2.k0
              have cY_1 := Y2.k1
              have cY_2 := Y2.k2
              have cY_3 := Y2.k3
              have cY_4 := Y2.k4
              have cY_5 := Y2.k5
              have cY_6 := Y2.k6
              have cY_7 := Y2.k7
              have cY_8 := Y2.k8
              have cY_9 := Y2.k9
              have cY_10 := Y2.k10
              go_wp2_with fail
              clear cX_b cX_f cX_0 cX_1 cX_2 cX_3 cX_4 cX_5 cX_6 cX_7 cX_8 cX_9 cX_10 cY_b cY_f cY_0 cY_1 cY_2 cY_3 cY_4 cY_5 cY_6 cY_7 cY_8 cY_9 cY_10
              refine (FA.out _).mono ?_; rintro e w3 ⟨rfl, b3⟩
              have d3 : Below w2.heap.size w2 w3 := below_step (by repeat (first | exact Below.refl _ _ | refine below_drewN ?_ _ | refine Below.drew ?_ | refine Below.setCell ?_ (by first | (simp; done) | (simp; omega) | omega) _ | refine Below.alloc ?_ (by first | (simp; done) | (simp; omega) | omega) _)) b3
              have B3 := Lib.hid (below_step B2.out d3)
              have X3 := X2.keep d3
              have Y3 := Y2.keep d3
              clear X2 Y2 b3 d3 B2
              have cX_b := X3.hb
              have cX_f := X3.fz
              have cX_0 := X3.k0
              have cX_1 := X3.k1
              have cX_2 := X3.k2
              have cX_3 := X3.k3
              have cX_4 := X3.k4
              have cX_5 := X3.k5
              have cX_6 := X3.k6
              have cX_7 := X3.k7
              have cX_8 := X3.k8
              have cX_9 := X3.k9
              have cX_10 := X3.k10
              have cY_b := Y3.hb
              have cY_f := Y3.fz
              have cY_0 := Y3.k0
              have cY_1 := Y3.k1
              have cY_2 := Y3.k2
              have cY_3 := Y3.k3
              have cY_4 := Y3.k4
              have cY_5 := Y3.k5
              have cY_6 := Y3.k6
              have cY_7 := Y3.k7
              have cY_8 := Y3.k8
              have cY_9 := Y3.k9
              have cY_10 := Y3.k10
              go_wp2_with fail
              clear cX_b cX_f cX_0 cX_1 cX_2 cX_3 cX_4 cX_5 cX_6 cX_7 cX_8 cX_9 cX_10 cY_b cY_f cY_0 cY_1 cY_2 cY_3 cY_4 cY_5 cY_6 cY_7 cY_8 cY_9 cY_10
              refine (FB.out _).mono ?_; rintro e w4 ⟨rfl, b4⟩
              have d4 : Below w3.heap.size w3 w4 := below_step (by repeat (first | exact Below.refl _ _ | refine below_drewN ?_ _ | refine Below.drew ?_ | refine Below.setCell ?_ (by first | (simp; done) | (simp; omega) | omega) _ | refine Below.alloc ?_ (by first | (simp; done) | (simp; omega) | omega) _)) b4
              have B4 := Lib.hid (below_step B3.out d4)
              have X4 := X3.keep d4
              have Y4 := Y3.keep d4
              clear X3 Y3 b4 d4 B3
              have cX_b := X4.hb
              have cX_f := X4.fz
              have cX_0 := X4.k0
              have cX_1 := X4.k1
              have cX_2 := X4.k2
              have cX_3 := X4.k3
              have cX_4 := X4.k4
              have cX_5 := X4.k5
              have cX_6 := X4.k6
              have cX_7 := X4.k7
              have cX_8 := X4.k8
              have cX_9 := X4.k9
              have cX_10 := X4.k10
              have cY_b := Y4.hb
              have cY_f := Y4.fz
              have cY_0 := Y4.k0
              have cY_1 := Y4.k1
              have cY_2 := Y4.k2
              have cY_3 := Y4.k3
              have cY_4 := Y4.k4
              have cY_5 := Y4.k5
              have cY_6 := Y4.k6
              have cY_7 := Y4.k7
              have cY_8 := Y4.k8
              have cY_9 := Y4.k9
              have cY_10 := Y4.k10
              go_wp2_with fail
              clear cX_b cX_f cX_0 cX_1 cX_2 cX_3 cX_4 cX_5 cX_6 cX_7 cX_8 cX_9 cX_10 cY_b cY_f cY_0 cY_1 cY_2 cY_3 cY_4 cY_5 cY_6 cY_7 cY_8 cY_9 cY_10
              go_ret
              exact ⟨rfl, (by have hz := B4.out.size; repeat (first | exact B4.out | refine below_drewN ?_ _ | refine Below.drew ?_ | refine Below.setCell ?_ (by first | omega | (simp; done) | (simp; omega)) _ | refine Below.alloc ?_ (by first | omega | (simp; done) | (simp; omega)) _))⟩
        · by_cases q1 : 31536000 + y2 - x3 < 345600
          · skip
            obtain rfl : r = 15 := by rw [pl.out]; simp [*]
            clear pl
            go_enter Try.func13, Try.ntmps13
            go_wp2_with fail
            refine (WA.out _).mono ?_; rintro e w1 ⟨rfl, b1⟩
            have d1 : Below w.heap.size w w1 := below_step (by repeat (first | exact Below.refl _ _ | refine below_drewN ?_ _ | refine Below.drew ?_ | refine Below.setCell ?_ (by first | (simp; done) | (simp; omega) | omega) _ | refine Below.alloc ?_ (by first | (simp; done) | (simp; omega) | omega) _)) b1
            have B1 := Lib.hid d1
            have X1 : Bk11 w1 (w.heap.size) (.string s) (.int .i64 fy) (.int .i64 ty) (.int .i64 m) (.int .i64 k) (.int .i64 wk) (.int .i64 d) (.int .i64 sec) (.int .i64 base) (.int .i64 save) (.string t) := Bk11.of b1 (by simp <;> omega) (by intro j; simp [go_sem]) (by simp [go_sem]) (by simp [go_sem]) (by simp [go_sem]) (by simp [go_sem]) (by simp [go_sem]) (by simp [go_sem]) (by simp [go_sem]) (by simp [go_sem]) (by simp [go_sem]) (by simp [go_sem]) (by simp [go_sem])
            have Y1 : Bk11 w1 (w.heap.size + 1) (.string s') (.int .i64 fy') (.int .i64 ty') (.int .i64 m') (.int .i64 k') (.int .i64 wk') (.int .i64 d') (.int .i64 sec') (.int .i64 base') (.int .i64 save') (.string t') := Bk11.of b1 (by simp <;> omega) (by intro j; simp [go_sem]) (by simp [go_sem]) (by simp [go_sem]) (by simp [go_sem]) (by simp [go_sem]) (by simp [go_sem]) (by simp [go_sem]) (by simp [go_sem]) (by simp [go_sem]) (by simp [go_sem]) (by simp [go_sem]) (by simp [go_sem])
            clear b1 d1
            have cX_b := X1.hb
            have cX_f := X1.fz
            have cX_0 := X1.k0
            have cX_1 := X1.k1
            have cX_2 := X1.k2
            have cX_3 := X1.k3
            have cX_4 := X1.k4
            have cX_5 := X1.k5
            have cX_6 := X1.k6
            have cX_7 := X1.k7
            have cX_8 := X1.k8
            have cX_9 := X1.k9
            have cX_10 := X1.k10
            have cY_b := Y1.hb
            have cY_f := Y1.fz
            have cY_0 := Y1.k0
            have cY_1 := Y1.k1
            have cY_2 := Y1.k2
            have cY_3 := Y1.k3
            have cY_4 := Y1.k4
            have cY_5 := Y1.k5
            have cY_6 := Y1.k6
            have cY_7 := Y1.k7
            have cY_8 := Y1.k8
            have cY_9 := Y1.k9
            have cY_10 := Y1.k10
            go_wp2_with fail
            clear cX_b cX_f cX_0 cX_1 cX_2 cX_3 cX_4 cX_5 cX_6 cX_7 cX_8 cX_9 cX_10 cY_b cY_f cY_0 cY_1 cY_2 cY_3 cY_4 cY_5 cY_6 cY_7 cY_8 cY_9 cY_10
            refine (WB.out _).mono ?_; rintro e w2 ⟨rfl, b2⟩
            have d2 : Below w1.heap.size w1 w2 := below_step (by repeat (first | exact Below.refl _ _ | refine below_drewN ?_ _ | refine Below.drew ?_ | refine Below.setCell ?_ (by first | (simp; done) | (simp; omega) | omega) _ | refine Below.alloc ?_ (by first | (simp; done) | (simp; omega) | omega) _)) b2
            have B2 := Lib.hid (below_step B1.out d2)
            have X2 := X1.keep d2
            have Y2 := Y1.keep d2
            clear X1 Y1 b2 d2 B1
            have cX_b := X2.hb
            have cX_f := X2.fz
            have cX_0 := X2.k0
            have cX_1 := X2.k1
            have cX_2 := X2.k2
            have cX_3 := X2.k3
            have cX_4 := X2.k4
            have cX_5 := X2.k5
            have cX_6 := X2.k6
            have cX_7 := X2.k7
            have cX_8 := X2.k8
            have cX_9 := X2.k9
            have cX_10 := X2.k10
            have cY_b := Y2.hb
            have cY_f := Y2.fz
            have cY_0 := Y2.k0
            have cY_1 := Y2.k1
            have cY_2 := Y2.k2
            have cY_3 := Y2.k3
            have cY_4 := Y2.k4
            have cY_5 := Y2.k5
            have cY_6 := Y2.k6
            have cY_7 := Y2.k7
            have cY_8 := Y2.k8
            have cY_9 := Y2.k9
            have cY_10 := Y2.k10
            go_wp2_with fail
            clear cX_b cX_f cX_0 cX_1 cX_2 cX_3 cX_4 cX_5 cX_6 cX_7 cX_8 cX_9 cX_10 cY_b cY_f cY_0 cY_1 cY_2 cY_3 cY_4 cY_5 cY_6 cY_7 cY_8 cY_9 cY_10
            refine (FA.out _).mono ?_; rintro e w3 ⟨rfl, b3⟩
            have d3 : Below w2.heap.size w2 w3 := below_step (by repeat (first | exact Below.refl _ _ | refine below_drewN ?_ _ | refine Below.drew ?_ | refine Below.setCell ?_ (by first | (simp; done) | (simp; omega) | omega) _ | refine Below.alloc ?_ (by first | (simp; done) | (simp; omega) | omega) _)) b3
            have B3 := Lib.hid (below_step B2.out d3)
            have X3 := X2.keep d3
            have Y3 := Y2.keep d3
            clear X2 Y2 b3 d3 B2
            have cX_b := X3.hb
            have cX_f := X3.fz
            have cX_0 := X3.k0
            have cX_1 := X3.k1
            have cX_2 := X3.k2
            have cX_3 := X3.k3
            have cX_4 := X3.k4
            have cX_5 := X3.k5
            have cX_6 := X3.k6
            have cX_7 := X3.k7
            have cX_8 := X3.k8
            have cX_9 := X3.k9
            have cX_10 := X3.k10
            have cY_b := Y3.hb
            have cY_f := Y3.fz
            have cY_0 := Y3.k0
            have cY_1 := Y3.k1
            have cY_2 := Y3.k2
            have cY_3 := Y3.k3
            have cY_4 := Y3.k4
            have cY_5 := Y3.k5
            have cY_6 := Y3.k6
            have cY_7 := Y3.k7
            have cY_8 := Y3.k8
            have cY_9 := Y3.k9
            have cY_10 := Y3.k10
            go_wp2_with fail
            clear cX_b cX_f cX_0 cX_1 cX_2 cX_3 cX_4 cX_5 cX_6 cX_7 cX_8 cX_9 cX_10 cY_b cY_f cY_0 cY_1 cY_2 cY_3 cY_4 cY_5 cY_6 cY_7 cY_8 cY_9 cY_10
            go_ret
            exact ⟨rfl, (by have hz := B3.out.size; repeat (first | exact B3.out | refine below_drewN ?_ _ | refine Below.drew ?_ | refine Below.setCell ?_ (by first | omega | (simp; done) | (simp; omega)) _ | refine Below.alloc ?_ (by first | omega | (simp; done) | (simp; omega)) _))⟩
          · cases F2
            · skip
              obtain rfl : r = 0 := by rw [pl.out]; simp [*]
              clear pl
              go_enter Try.func13, Try.ntmps13
              go_wp2_with fail
              refine (WA.out _).mono ?_; rintro e w1 ⟨rfl, b1⟩
              have d1 : Below w.heap.size w w1 := below_step (by repeat (first | exact Below.refl _ _ | refine below_drewN ?_ _ | refine Below.drew ?_ | refine Below.setCell ?_ (by first | (simp; done) | (simp; omega) | omega) _ | refine Below.alloc ?_ (by first | (simp; done) | (simp; omega) | omega) _)) b1
              have B1 := Lib.hid d1
              have X1 : Bk11 w1 (w.heap.size) (.string s) (.int .i64 fy) (.int .i64 ty) (.int .i64 m) (.int .i64 k) (.int .i64 wk) (.int .i64 d) (.int .i64 sec) (.int .i64 base) (.int .i64 save) (.string t) := Bk11.of b1 (by simp <;> omega) (by intro j; simp [go_sem]) (by simp [go_sem]) (by simp [go_sem]) (by simp [go_sem]) (by simp [go_sem]) (by simp [go_sem]) (by simp [go_sem]) (by simp [go_sem]) (by simp [go_sem]) (by simp [go_sem]) (by simp [go_sem]) (by simp [go_sem])
              have Y1 : Bk11 w1 (w.heap.size + 1) (.string s') (.int .i64 fy') (.int .i64 ty') (.int .i64 m') (.int .i64 k') (.int .i64 wk') (.int .i64 d') (.int .i64 sec') (.int .i64 base') (.int .i64 save') (.string t') := Bk11.of b1 (by simp <;> omega) (by intro j; simp [go_sem]) (by simp [go_sem]) (by simp [go_sem]) (by simp [go_sem]) (by simp [go_sem]) (by simp [go_sem]) (by simp [go_sem]) (by simp [go_sem]) (by simp [go_sem]) (by simp [go_sem]) (by simp [go_sem]) (by simp [go_sem])
              clear b1 d1
              have cX_b := X1.hb
              have cX_f := X1.fz
              have cX_0 := X1.k0
              have cX_1 := X1.k1
              have cX_2 := X1.k2
              have cX_3 := X1.k3
              have cX_4 := X1.k4
              have cX_5 := X1.k5
              have cX_6 := X1.k6
              have cX_7 := X1.k7
              have cX_8 := X1.k8
              have cX_9 := X1.k9
              have cX_10 := X1.k10
              have cY_b := Y1.hb
              have cY_f := Y1.fz
              have cY_0 := Y1.k0
              have cY_1 := Y1.k1
              have cY_2 := Y1.k2
              have cY_3 := Y1.k3
              have cY_4 := Y1.k4
              have cY_5 := Y1.k5
              have cY_6 := Y1.k6
              have cY_7 := Y1.k7
              have cY_8 := Y1.k8
              have cY_9 := Y1.k9
              have cY_10 := Y1.k10
              go_wp2_with fail
              clear cX_b cX_f cX_0 cX_1 cX_2 cX_3 cX_4 cX_5 cX_6 cX_7 cX_8 cX_9 cX_10 cY_b cY_f cY_0 cY_1 cY_2 cY_3 cY_4 cY_5 cY_6 cY_7 cY_8 cY_9 cY_10
              refine (WB.out _).mono ?_; rintro e w2 ⟨rfl, b2⟩
              have d2 : Below w1.heap.size w1 w2 := below_step (by repeat (first | exact Below.refl _ _ | refine below_drewN ?_ _ | refine Below.drew ?_ | refine Below.setCell ?_ (by first | (simp; done) | (simp; omega) | omega) _ | refine Below.alloc ?_ (by first | (simp; done) | (simp; omega) | omega) _)) b2
              have B2 := Lib.hid (below_step B1.out d2)
              have X2 := X1.keep d2
              have Y2 := Y1.keep d2
              clear X1 Y1 b2 d2 B1
              have cX_b := X2.hb
              have cX_f := X2.fz
              have cX_0 := X2.k0
              have cX_1 := X2.k1
              have cX_2 := X2.k2
              have cX_3 := X2.k3
              have cX_4 := X2.k4
              have cX_5 := X2.k5
              have cX_6 := X2.k6
              have cX_7 := X2.k7
              have cX_8 := X2.k8
              have cX_9 := X2.k9
              have cX_10 := X2.k10
              have cY_b := Y2.hb
              have cY_f := Y2.fz
              have cY_0 := Y2.k0
              have cY_1 := Y2.k1
              have cY_2 := Y2.k2
              have cY_3 := Y2.k3
              have cY_4 := Y2.k4
              have cY_5 := Y2.k5
              have cY_6 := Y2.k6
              have cY_7 := Y2.k7
              have cY_8 := Y2.k8
              have cY_9 := Y2.k9
              have cY_10 := Y2.k10
              go_wp2_with fail
              clear cX_b cX_f cX_0 cX_1 cX_2 cX_3 cX_4 cX_5 cX_6 cX_7 cX_8 cX_9 cX_10 cY_b cY_f cY_0 cY_1 cY_2 cY_3 cY_4 cY_5 cY_6 cY_7 cY_8 cY_9 cY_10
              refine (FA.out _).mono ?_; rintro e w3 ⟨rfl, b3⟩
              have d3 : Below w2.heap.size w2 w3 := below_step (by repeat (first | exact Below.refl _ _ | refine below_drewN ?_ _ | refine Below.drew ?_ | refine Below.setCell ?_ (by first | (simp; done) | (simp; omega) | omega) _ | refine Below.alloc ?_ (by first | (simp; done) | (simp; omega) | omega) _)) b3
              have B3 := Lib.hid (below_step B2.out d3)
              have X3 := X2.keep d3
              have Y3 := Y2.keep d3
              clear X2 Y2 b3 d3 B2
              have cX_b := X3.hb
              have cX_f := X3.fz
              have cX_0 := X3.k0
              have cX_1 := X3.k1
              have cX_2 := X3.k2
              have cX_3 := X3.k3
              have cX_4 := X3.k4
              have cX_5 := X3.k5
              have cX_6 := X3.k6
              have cX_7 := X3.k7
              have cX_8 := X3.k8
              have cX_9 := X3.k9
              have cX_10 := X3.k10
              have cY_b := Y3.hb
              have cY_f := Y3.fz
              have cY_0 := Y3.k0
              have cY_1 := Y3.k1
              have cY_2 := Y3.k2
              have cY_3 := Y3.k3
              have cY_4 := Y3.k4
              have cY_5 := Y3.k5
              have cY_6 := Y3.k6
              have cY_7 := Y3.k7
              have cY_8 := Y3.k8
              have cY_9 := Y3.k9
              have cY_10 := Y3.k10
              go_wp2_with fail
              clear cX_b cX_f cX_0 cX_1 cX_2 cX_3 cX_4 cX_5 cX_6 cX_7 cX_8 cX_9 cX_10 cY_b cY_f cY_0 cY_1 cY_2 cY_3 cY_4 cY_5 cY_6 cY_7 cY_8 cY_9 cY_10
              refine (FB.out _).mono ?_; rintro e w4 ⟨rfl, b4⟩
              have d4 : Below w3.heap.size w3 w4 := below_step (by repeat (first | exact Below.refl _ _ | refine below_drewN ?_ _ | refine Below.drew ?_ | refine Below.setCell ?_ (by first | (simp; done) | (simp; omega) | omega) _ | refine Below.alloc ?_ (by first | (simp; done) | (simp; omega) | omega) _)) b4
              have B4 := Lib.hid (below_step B3.out d4)
              have X4 := X3.keep d4
              have Y4 := Y3.keep d4
              clear X3 Y3 b4 d4 B3
              have cX_b := X4.hb
              have cX_f := X4.fz
              have cX_0 := X4.k0
              have cX_1 := X4.k1
              have cX_2 := X4.k2
              have cX_3 := X4.k3
              have cX_4 := X4.k4
              have cX_5 := X4.k5
              have cX_6 := X4.k6
              have cX_7 := X4.k7
              have cX_8 := X4.k8
              have cX_9 := X4.k9
              have cX_10 := X4.k10
              have cY_b := Y4.hb
              have cY_f := Y4.fz
              have cY_0 := Y4.k0
              have cY_1 := Y4.k1
              have cY_2 := Y4.k2
              have cY_3 := Y4.k3
              have cY_4 := Y4.k4
              have cY_5 := Y4.k5
              have cY_6 := Y4.k6
              have cY_7 := Y4.k7
              have cY_8 := Y4.k8
              have cY_9 := Y4.k9
              have cY_10 := Y4.k10
              go_wp2_with fail
              clear cX_b cX_f cX_0 cX_1 cX_2 cX_3 cX_4 cX_5 cX_6 cX_7 cX_8 cX_9 cX_10 cY_b cY_f cY_0 cY_1 cY_2 cY_3 cY_4 cY_5 cY_6 cY_7 cY_8 cY_9 cY_10
              go_ret
              exact ⟨rfl, (by have hz := B4.out.size; repeat (first | exact B4.out | refine below_drewN ?_ _ | refine Below.drew ?_ | refine Below.setCell ?_ (by first | omega | (simp; done) | (simp; omega)) _ | refine Below.alloc ?_ (by first | omega | (simp; done) | (simp; omega)) _))⟩
            · by_cases q2 : 31536000 + x2 - y3 < 345600
              · skip
                obtain rfl : r = 15 := by rw [pl.out]; simp [*]
                clear pl
                go_enter Try.func13, Try.ntmps13
                go_wp2_with fail
                refine (WA.out _).mono ?_; rintro e w1 ⟨rfl, b1⟩
                have d1 : Below w.heap.size w w1 := below_step (by repeat (first | exact Below.refl _ _ | refine below_drewN ?_ _ | refine Below.drew ?_ | refine Below.setCell ?_ (by first | (simp; done) | (simp; omega) | omega) _ | refine Below.alloc ?_ (by first | (simp; done) | (simp; omega) | omega) _)) b1
                have B1 := Lib.hid d1
                have X1 : Bk11 w1 (w.heap.size) (.string s) (.int .i64 fy) (.int .i64 ty) (.int .i64 m) (.int .i64 k) (.int .i64 wk) (.int .i64 d) (.int .i64 sec) (.int .i64 base) (.int .i64 save) (.string t) := Bk11.of b1 (by simp <;> omega) (by intro j; simp [go_sem]) (by simp [go_sem]) (by simp [go_sem]) (by simp [go_sem]) (by simp [go_sem]) (by simp [go_sem]) (by simp [go_sem]) (by simp [go_sem]) (by simp [go_sem]) (by simp [go_sem]) (by simp [go_sem]) (by simp [go_sem])
                have Y1 : Bk11 w1 (w.heap.size + 1) (.string s') (.int .i64 fy') (.int .i64 ty') (.int .i64 m') (.int .i64 k') (.int .i64 wk') (.int .i64 d') (.int .i64 sec') (.int .i64 base') (.int .i64 save') (.string t') := Bk11.of b1 (by simp <;> omega) (by intro j; simp [go_sem]) (by simp [go_sem]) (by simp [go_sem]) (by simp [go_sem]) (by simp [go_sem]) (by simp [go_sem]) (by simp [go_sem]) (by simp [go_sem]) (by simp [go_sem]) (by simp [go_sem]) (by simp [go_sem]) (by simp [go_sem])
                clear b1 d1
                have cX_b := X1.hb
                have cX_f := X1.fz
                have cX_0 := X1.k0
                have cX_1 := X1.k1
                have cX_2 := X1.k2
                have cX_3 := X1.k3
                have cX_4 := X1.k4
                have cX_5 := X1.k5
                have cX_6 := X1.k6
                have cX_7 := X1.k7
                have cX_8 := X1.k8
                have cX_9 := X1.k9
                have cX_10 := X1.k10
                have cY_b := Y1.hb
                have cY_f := Y1.fz
                have cY_0 := Y1.k0
                have cY_1 := Y1.k1
                have cY_2 := Y1.k2
                have cY_3 := Y1.k3
                have cY_4 := Y1.k4
                have cY_5 := Y1.k5
                have cY_6 := Y1.k6
                have cY_7 := Y1.k7
                have cY_8 := Y1.k8
                have cY_9 := Y1.k9
                have cY_10 := Y1.k10
                go_wp2_with fail
                clear cX_b cX_f cX_0 cX_1 cX_2 cX_3 cX_4 cX_5 cX_6 cX_7 cX_8 cX_9 cX_10 cY_b cY_f cY_0 cY_1 cY_2 cY_3 cY_4 cY_5 cY_6 cY_7 cY_8 cY_9 cY_10
                refine (WB.out _).mono ?_; rintro e w2 ⟨rfl, b2⟩
                have d2 : Below w1.heap.size w1 w2 := below_step (by repeat (first | exact Below.refl _ _ | refine below_drewN ?_ _ | refine Below.drew ?_ | refine Below.setCell ?_ (by first | (simp; done) | (simp; omega) | omega) _ | refine Below.alloc ?_ (by first | (simp; done) | (simp; omega) | omega) _)) b2
                have B2 := Lib.hid (below_step B1.out d2)
                have X2 := X1.keep d2
                have Y2 := Y1.keep d2
                clear X1 Y1 b2 d2 B1
                have cX_b := X2.hb
                have cX_f := X2.fz
                have cX_0 := X2.k0
                have cX_1 := X2.k1
                have cX_2 := X2.k2
                have cX_3 := X2.k3
                have cX_4 := X2.k4
                have cX_5 := X2.k5
                have cX_6 := X2.k6
                have cX_7 := X2.k7
                have cX_8 := X2.k8
                have cX_9 := X2.k9
                have cX_10 := X2.k10
                have cY_b := Y2.hb
                have cY_f := Y2.fz
                have cY_0 := Y2.k0
                have cY_1 := Y2.k1
                have cY_2 := Y2.k2
                have cY_3 := Y2.k3
                have cY_4 := Y2.k4
                have cY_5 := Y2.k5
                have cY_6 := Y2.k6
                have cY_7 := Y2.k7
                have cY_8 := Y2.k8
                have cY_9 := Y2.k9
                have cY_10 := Y2.k10
                go_wp2_with fail
                clear cX_b cX_f cX_0 cX_1 cX_2 cX_3 cX_4 cX_5 cX_6 cX_7 cX_8 cX_9 cX_10 cY_b cY_f cY_0 cY_1 cY_2 cY_3 cY_4 cY_5 cY_6 cY_7 cY_8 cY_9 cY_10
                refine (FA.out _).mono ?_; rintro e w3 ⟨rfl, b3⟩
                have d3 : Below w2.heap.size w2 w3 := below_step (by repeat (first | exact Below.refl _ _ | refine below_drewN ?_ _ | refine Below.drew ?_ | refine Below.setCell ?_ (by first | (simp; done) | (simp; omega) | omega) _ | refine Below.alloc ?_ (by first | (simp; done) | (simp; omega) | omega) _)) b3
                have B3 := Lib.hid (below_step B2.out d3)
                have X3 := X2.keep d3
                have Y3 := Y2.keep d3
                clear X2 Y2 b3 d3 B2
                have cX_b := X3.hb
                have cX_f := X3.fz
                have cX_0 := X3.k0
                have cX_1 := X3.k1
                have cX_2 := X3.k2
                have cX_3 := X3.k3
                have cX_4 := X3.k4
                have cX_5 := X3.k5
                have cX_6 := X3.k6
                have cX_7 := X3.k7
                have cX_8 := X3.k8
                have cX_9 := X3.k9
                have cX_10 := X3.k10
                have cY_b := Y3.hb
                have cY_f := Y3.fz
                have cY_0 := Y3.k0
                have cY_1 := Y3.k1
                have cY_2 := Y3.k2
                have cY_3 := Y3.k3
                have cY_4 := Y3.k4
                have cY_5 := Y3.k5
                have cY_6 := Y3.k6
                have cY_7 := Y3.k7
                have cY_8 := Y3.k8
                have cY_9 := Y3.k9
                have cY_10 := Y3.k10
                go_wp2_with fail
                clear cX_b cX_f cX_0 cX_1 cX_2 cX_3 cX_4 cX_5 cX_6 cX_7 cX_8 cX_9 cX_10 cY_b cY_f cY_0 cY_1 cY_2 cY_3 cY_4 cY_5 cY_6 cY_7 cY_8 cY_9 cY_10
                refine (FB.out _).mono ?_; rintro e w4 ⟨rfl, b4⟩
                have d4 : Below w3.heap.size w3 w4 := below_step (by repeat (first | exact Below.refl _ _ | refine below_drewN ?_ _ | refine Below.drew ?_ | refine Below.setCell ?_ (by first | (simp; done) | (simp; omega) | omega) _ | refine Below.alloc ?_ (by first | (simp; done) | (simp; omega) | omega) _)) b4
                have B4 := Lib.hid (below_step B3.out d4)
                have X4 := X3.keep d4
                have Y4 := Y3.keep d4
                clear X3 Y3 b4 d4 B3
                have cX_b := X4.hb
                have cX_f := X4.fz
                have cX_0 := X4.k0
                have cX_1 := X4.k1
                have cX_2 := X4.k2
                have cX_3 := X4.k3
                have cX_4 := X4.k4
                have cX_5 := X4.k5
                have cX_6 := X4.k6
                have cX_7 := X4.k7
                have cX_8 := X4.k8
                have cX_9 := X4.k9
                have cX_10 := X4.k10
                have cY_b := Y4.hb
                have cY_f := Y4.fz
                have cY_0 := Y4.k0
                have cY_1 := Y4.k1
                have cY_2 := Y4.k2
                have cY_3 := Y4.k3
                have cY_4 := Y4.k4
                have cY_5 := Y4.k5
                have cY_6 := Y4.k6
                have cY_7 := Y4.k7
                have cY_8 := Y4.k8
                have cY_9 := Y4.k9
                have cY_10 := Y4.k10
                go_wp2_with fail
                clear cX_b cX_f cX_0 cX_1 cX_2 cX_3 cX_4 cX_5 cX_6 cX_7 cX_8 cX_9 cX_10 cY_b cY_f cY_0 cY_1 cY_2 cY_3 cY_4 cY_5 cY_6 cY_7 cY_8 cY_9 cY_10
                go_ret
                exact ⟨rfl, (by have hz := B4.out.size; repeat (first | exact B4.out | refine below_drewN ?_ _ | refine Below.drew ?_ | refine Below.setCell ?_ (by first | omega | (simp; done) | (simp; omega)) _ | refine Below.alloc ?_ (by first | omega | (simp; done) | (simp; omega)) _))⟩
              · skip
                obtain rfl : r = 0 := by rw [pl.out]; simp [*]
                clear pl
                go_enter Try.func13, Try.ntmps13
                go_wp2_with fail
                refine (WA.out _).mono ?_; rintro e w1 ⟨rfl, b1⟩
                have d1 : Below w.heap.size w w1 := below_step (by repeat (first | exact Below.refl _ _ | refine below_drewN ?_ _ | refine Below.drew ?_ | refine Below.setCell ?_ (by first | (simp; done) | (simp; omega) | omega) _ | refine Below.alloc ?_ (by first | (simp; done) | (simp; omega) | omega) _)) b1
                have B1 := Lib.hid d1
                have X1 : Bk11 w1 (w.heap.size) (.string s) (.int .i64 fy) (.int .i64 ty) (.int .i64 m) (.int .i64 k) (.int .i64 wk) (.int .i64 d) (.int .i64 sec) (.int .i64 base) (.int .i64 save) (.string t) := Bk11.of b1 (by simp <;> omega) (by intro j; simp [go_sem]) (by simp [go_sem]) (by simp [go_sem]) (by simp [go_sem]) (by simp [go_sem]) (by simp [go_sem]) (by simp [go_sem]) (by simp [go_sem]) (by simp [go_sem]) (by simp [go_sem]) (by simp [go_sem]) (by simp [go_sem])
                have Y1 : Bk11 w1 (w.heap.size + 1) (.string s') (.int .i64 fy') (.int .i64 ty') (.int .i64 m') (.int .i64 k') (.int .i64 wk') (.int .i64 d') (.int .i64 sec') (.int .i64 base') (.int .i64 save') (.string t') := Bk11.of b1 (by simp <;> omega) (by intro j; simp [go_sem]) (by simp [go_sem]) (by simp [go_sem]) (by simp [go_sem]) (by simp [go_sem]) (by simp [go_sem]) (by simp [go_sem]) (by simp [go_sem]) (by simp [go_sem]) (by simp [go_sem]) (by simp [go_sem]) (by simp [go_sem])
                clear b1 d1
                have cX_b := X1.hb
                have cX_f := X1.fz
                have cX_0 := X1.k0
                have cX_1 := X1.k1
                have cX_2 := X1.k2
                have cX_3 := X1.k3
                have cX_4 := X1.k4
                have cX_5 := X1.k5
                have cX_6 := X1.k6
                have cX_7 := X1.k7
                have cX_8 := X1.k8
                have cX_9 := X1.k9
                have cX_10 := X1.k10
                have cY_b := Y1.hb
                have cY_f := Y1.fz
                have cY_0 := Y1.k0
                have cY_1 := Y1.k1
                have cY_2 := Y1.k2
                have cY_3 := Y1.k3
                have cY_4 := Y1.k4
                have cY_5 := Y1.k5
                have cY_6 := Y1.k6
                have cY_7 := Y1.k7
                have cY_8 := Y1.k8
                have cY_9 := Y1.k9
                have cY_10 := Y1.k10
                go_wp2_with fail
                clear cX_b cX_f cX_0 cX_1 cX_2 cX_3 cX_4 cX_5 cX_6 cX_7 cX_8 cX_9 cX_10 cY_b cY_f cY_0 cY_1 cY_2 cY_3 cY_4 cY_5 cY_6 cY_7 cY_8 cY_9 cY_10
                refine (WB.out _).mono ?_; rintro e w2 ⟨rfl, b2⟩
                have d2 : Below w1.heap.size w1 w2 := below_step (by repeat (first | exact Below.refl _ _ | refine below_drewN ?_ _ | refine Below.drew ?_ | refine Below.setCell ?_ (by first | (simp; done) | (simp; omega) | omega) _ | refine Below.alloc ?_ (by first | (simp; done) | (simp; omega) | omega) _)) b2
                have B2 := Lib.hid (below_step B1.out d2)
                have X2 := X1.keep d2
                have Y2 := Y1.keep d2
                clear X1 Y1 b2 d2 B1
                have cX_b := X2.hb
                have cX_f := X2.fz
                have cX_0 := X2.k0
                have cX_1 := X2.k1
                have cX_2 := X2.k2
                have cX_3 := X2.k3
                have cX_4 := X2.k4
                have cX_5 := X2.k5
                have cX_6 := X2.k6
                have cX_7 := X2.k7
                have cX_8 := X2.k8
                have cX_9 := X2.k9
                have cX_10 := X2.k10
                have cY_b := Y2.hb
                have cY_f := Y2.fz
                have cY_0 := Y2.k0
                have cY_1 := Y2.k1
                have cY_2 := Y2.k2
                have cY_3 := Y2.k3
                have cY_4 := Y2.k4
                have cY_5 := Y2.k5
                have cY_6 := Y2.k6
                have cY_7 := Y2.k7
                have cY_8 := Y2.k8
                have cY_9 := Y2.k9
                have cY_10 := Y2.k10
                go_wp2_with fail
                clear cX_b cX_f cX_0 cX_1 cX_2 cX_3 cX_4 cX_5 cX_6 cX_7 cX_8 cX_9 cX_10 cY_b cY_f cY_0 cY_1 cY_2 cY_3 cY_4 cY_5 cY_6 cY_7 cY_8 cY_9 cY_10
                refine (FA.out _).mono ?_; rintro e w3 ⟨rfl, b3⟩
                have d3 : Below w2.heap.size w2 w3 := below_step (by repeat (first | exact Below.refl _ _ | refine below_drewN ?_ _ | refine Below.drew ?_ | refine Below.setCell ?_ (by first | (simp; done) | (simp; omega) | omega) _ | refine Below.alloc ?_ (by first | (simp; done) | (simp; omega) | omega) _)) b3
                have B3 := Lib.hid (below_step B2.out d3)
                have X3 := X2.keep d3
                have Y3 := Y2.keep d3
                clear X2 Y2 b3 d3 B2
                have cX_b := X3.hb
                have cX_f := X3.fz
                have cX_0 := X3.k0
                have cX_1 := X3.k1
                have cX_2 := X3.k2
                have cX_3 := X3.k3
                have cX_4 := X3.k4
                have cX_5 := X3.k5
                have cX_6 := X3.k6
                have cX_7 := X3.k7
                have cX_8 := X3.k8
                have cX_9 := X3.k9
                have cX_10 := X3.k10
                have cY_b := Y3.hb
                have cY_f := Y3.fz
                have cY_0 := Y3.k0
                have cY_1 := Y3.k1
                have cY_2 := Y3.k2
                have cY_3 := Y3.k3
                have cY_4 := Y3.k4
                have cY_5 := Y3.k5
                have cY_6 := Y3.k6
                have cY_7 := Y3.k7
                have cY_8 := Y3.k8
                have cY_9 := Y3.k9
                have cY_10 := Y3.k10
                go_wp2_with fail
                clear cX_b cX_f cX_0 cX_1 cX_2 cX_3 cX_4 cX_5 cX_6 cX_7 cX_8 cX_9 cX_10 cY_b cY_f cY_0 cY_1 cY_2 cY_3 cY_4 cY_5 cY_6 cY_7 cY_8 cY_9 cY_10
                refine (FB.out _).mono ?_; rintro e w4 ⟨rfl, b4⟩
                have d4 : Below w3.heap.size w3 w4 := below_step (by repeat (first | exact Below.refl _ _ | refine below_drewN ?_ _ | refine Below.drew ?_ | refine Below.setCell ?_ (by first | (simp; done) | (simp; omega) | omega) _ | refine Below.alloc ?_ (by first | (simp; done) | (simp; omega) | omega) _)) b4
                have B4 := Lib.hid (below_step B3.out d4)
                have X4 := X3.keep d4
                have Y4 := Y3.keep d4
                clear X3 Y3 b4 d4 B3
                have cX_b := X4.hb
                have cX_f := X4.fz
                have cX_0 := X4.k0
                have cX_1 := X4.k1
                have cX_2 := X4.k2
                have cX_3 := X4.k3
                have cX_4 := X4.k4
                have cX_5 := X4.k5
                have cX_6 := X4.k6
                have cX_7 := X4.k7
                have cX_8 := X4.k8
                have cX_9 := X4.k9
                have cX_10 := X4.k10
                have cY_b := Y4.hb
                have cY_f := Y4.fz
                have cY_0 := Y4.k0
                have cY_1 := Y4.k1
                have cY_2 := Y4.k2
                have cY_3 := Y4.k3
                have cY_4 := Y4.k4
                have cY_5 := Y4.k5
                have cY_6 := Y4.k6
                have cY_7 := Y4.k7
                have cY_8 := Y4.k8
                have cY_9 := Y4.k9
                have cY_10 := Y4.k10
                go_wp2_with fail
                clear cX_b cX_f cX_0 cX_1 cX_2 cX_3 cX_4 cX_5 cX_6 cX_7 cX_8 cX_9 cX_10 cY_b cY_f cY_0 cY_1 cY_2 cY_3 cY_4 cY_5 cY_6 cY_7 cY_8 cY_9 cY_10
                go_ret
                exact ⟨rfl, (by have hz := B4.out.size; repeat (first | exact B4.out | refine below_drewN ?_ _ | refine Below.drew ?_ | refine Below.setCell ?_ (by first | omega | (simp; done) | (simp; omega)) _ | refine Below.alloc ?_ (by first | omega | (simp; done) | (simp; omega)) _))⟩
    · have g : (y4 == 0) = false := by rw [beq_eq_false_iff_ne]; exact hy
      rw [show Aw.pr (fy, ty, x2, x3, 0) (fy', ty', y2, y3, y4) = 4 from if_neg (fun h => hy h.2)]
      clear okA okB
      go_enter Try.func13, Try.ntmps13
      go_wp2_with fail
      refine (WA.out _).mono ?_; rintro e w1 ⟨rfl, b1⟩
      have d1 : Below w.heap.size w w1 := below_step (by repeat (first | exact Below.refl _ _ | refine below_drewN ?_ _ | refine Below.drew ?_ | refine Below.setCell ?_ (by first | (simp; done) | (simp; omega) | omega) _ | refine Below.alloc ?_ (by first | (simp; done) | (simp; omega) | omega) _)) b1
      have B1 := Lib.hid d1
      have X1 : Bk11 w1 (w.heap.size) (.string s) (.int .i64 fy) (.int .i64 ty) (.int .i64 m) (.int .i64 k) (.int .i64 wk) (.int .i64 d) (.int .i64 sec) (.int .i64 base) (.int .i64 save) (.string t) := Bk11.of b1 (by simp <;> omega) (by intro j; simp [go_sem]) (by simp [go_sem]) (by simp [go_sem]) (by simp [go_sem]) (by simp [go_sem]) (by simp [go_sem]) (by simp [go_sem]) (by simp [go_sem]) (by simp [go_sem]) (by simp [go_sem]) (by simp [go_sem]) (by simp [go_sem])
      have Y1 : Bk11 w1 (w.heap.size + 1) (.string s') (.int .i64 fy') (.int .i64 ty') (.int .i64 m') (.int .i64 k') (.int .i64 wk') (.int .i64 d') (.int .i64 sec') (.int .i64 base') (.int .i64 save') (.string t') := Bk11.of b1 (by simp <;> omega) (by intro j; simp [go_sem]) (by simp [go_sem]) (by simp [go_sem]) (by simp [go_sem]) (by simp [go_sem]) (by simp [go_sem]) (by simp [go_sem]) (by simp [go_sem]) (by simp [go_sem]) (by simp [go_sem]) (by simp [go_sem]) (by simp [go_sem])
      clear b1 d1
      have cX_b := X1.hb
      have cX_f := X1.fz
      have cX_0 := X1.k0
      have cX_1 := X1.k1
      have cX_2 := X1.k2
      have cX_3 := X1.k3
      have cX_4 := X1.k4
      have cX_5 := X1.k5
      have cX_6 := X1.k6
      have cX_7 := X1.k7
      have cX_8 := X1.k8
      have cX_9 := X1.k9
      have cX_10 := X1.k10
      have cY_b := Y1.hb
      have cY_f := Y1.fz
      have cY_0 := Y1.k0
      have cY_1 := Y1.k1
      have cY_2 := Y1.k2
      have cY_3 := Y1.k3
      have cY_4 := Y1.k4
      have cY_5 := Y1.k5
      have cY_6 := Y1.k6
      have cY_7 := Y1.k7
      have cY_8 := Y1.k8
      have cY_9 := Y1.k9
      have cY_10 := Y1.k10
      go_wp2_with fail
      clear cX_b cX_f cX_0 cX_1 cX_2 cX_3 cX_4 cX_5 cX_6 cX_7 cX_8 cX_9 cX_10 cY_b cY_f cY_0 cY_1 cY_2 cY_3 cY_4 cY_5 cY_6 cY_7 cY_8 cY_9 cY_10
      refine (WB.out _).mono ?_; rintro e w2 ⟨rfl, b2⟩
      have d2 : Below w1.heap.size w1 w2 := below_step (by repeat (first | exact Below.refl _ _ | refine below_drewN ?_ _ | refine Below.drew ?_ | refine Below.setCell ?_ (by first | (simp; done) | (simp; omega) | omega) _ | refine Below.alloc ?_ (by first | (simp; done) | (simp; omega) | omega) _)) b2
      have B2 := Lib.hid (below_step B1.out d2)
      have X2 := X1.keep d2
      have Y2 := Y1.keep d2
      clear X1 Y1 b2 d2 B1
      have cX_b := X2.hb
      have cX_f := X2.fz
      have cX_0 := X2.k0
      have cX_1 := X2.k1
      have cX_2 := X2.k2
      have cX_3 := X2.k3
      have cX_4 := X2.k4
      have cX_5 := X2.k5
      have cX_6 := X2.k6
      have cX_7 := X2.k7
      have cX_8 := X2.k8
      have cX_9 := X2.k9
      have cX_10 := X2.k10
      have cY_b := Y2.hb
      have cY_f := Y2.fz
      have cY_0 := Y2.k0
      have cY_1 := Y2.k1
      have cY_2 := Y2.k2
      have cY_3 := Y2.k3
      have cY_4 := Y2.k4
      have cY_5 := Y2.k5
      have cY_6 := Y2.k6
      have cY_7 := Y2.k7
      have cY_8 := Y2.k8
      have cY_9 := Y2.k9
      have cY_10 := Y2.k10
      go_wp2_with fail
      clear cX_b cX_f cX_0 cX_1 cX_2 cX_3 cX_4 cX_5 cX_6 cX_7 cX_8 cX_9 cX_10 cY_b cY_f cY_0 cY_1 cY_2 cY_3 cY_4 cY_5 cY_6 cY_7 cY_8 cY_9 cY_10
      go_ret
      exact ⟨rfl, (by have hz := B2.out.size; repeat (first | exact B2.out | refine below_drewN ?_ _ | refine Below.drew ?_ | refine Below.setCell ?_ (by first | omega | (simp; done) | (simp; omega)) _ | refine Below.alloc ?_ (by first | omega | (simp; done) | (simp; omega)) _))⟩
  · have g : (x4 == 0) = false := by rw [beq_eq_false_iff_ne]; exact hx
    rw [show Aw.pr (fy, ty, x2, x3, x4) (fy', ty', y2, y3, y4) = 4 from if_neg (fun h => hx h.1)]
    clear okA okB
    go_enter Try.func13, Try.ntmps13
    go_wp2_with fail
    refine (WA.out _).mono ?_; rintro e w1 ⟨rfl, b1⟩
    have d1 : Below w.heap.size w w1 := below_step (by repeat (first | exact Below.refl _ _ | refine below_drewN ?_ _ | refine Below.drew ?_ | refine Below.setCell ?_ (by first | (simp; done) | (simp; omega) | omega) _ | refine Below.alloc ?_ (by first | (simp; done) | (simp; omega) | omega) _)) b1
    have B1 := Lib.hid d1
    have X1 : Bk11 w1 (w.heap.size) (.string s) (.int .i64 fy) (.int .i64 ty) (.int .i64 m) (.int .i64 k) (.int .i64 wk) (.int .i64 d) (.int .i64 sec) (.int .i64 base) (.int .i64 save) (.string t) := Bk11.of b1 (by simp <;> omega) (by intro j; simp [go_sem]) (by simp [go_sem]) (by simp [go_sem]) (by simp [go_sem]) (by simp [go_sem]) (by simp [go_sem]) (by simp [go_sem]) (by simp [go_sem]) (by simp [go_sem]) (by simp [go_sem]) (by simp [go_sem]) (by simp [go_sem])
    have Y1 : Bk11 w1 (w.heap.size + 1) (.string s') (.int .i64 fy') (.int .i64 ty') (.int .i64 m') (.int .i64 k') (.int .i64 wk') (.int .i64 d') (.int .i64 sec') (.int .i64 base') (.int .i64 save') (.string t') := Bk11.of b1 (by simp <;> omega) (by intro j; simp [go_sem]) (by simp [go_sem]) (by simp [go_sem]) (by simp [go_sem]) (by simp [go_sem]) (by simp [go_sem]) (by simp [go_sem]) (by simp [go_sem]) (by simp [go_sem]) (by simp [go_sem]) (by simp [go_sem]) (by simp [go_sem])
    clear b1 d1
    have cX_b := X1.hb
    have cX_f := X1.fz
    have cX_0 := X1.k0
    have cX_1 := X1.k1
    have cX_2 := X1.k2
    have cX_3 := X1.k3
    have cX_4 := X1.k4
    have cX_5 := X1.k5
    have cX_6 := X1.k6
    have cX_7 := X1.k7
    have cX_8 := X1.k8
    have cX_9 := X1.k9
    have cX_10 := X1.k10
    have cY_b := Y1.hb
    have cY_f := Y1.fz
    have cY_0 := Y1.k0
    have cY_1 := Y1.k1
    have cY_2 := Y1.k2
    have cY_3 := Y1.k3
    have cY_4 := Y1.k4
    have cY_5 := Y1.k5
    have cY_6 := Y1.k6
    have cY_7 := Y1.k7
    have cY_8 := Y1.k8
    have cY_9 := Y1.k9
    have cY_10 := Y1.k10
    go_wp2_with fail
    clear cX_b cX_f cX_0 cX_1 cX_2 cX_3 cX_4 cX_5 cX_6 cX_7 cX_8 cX_9 cX_10 cY_b cY_f cY_0 cY_1 cY_2 cY_3 cY_4 cY_5 cY_6 cY_7 cY_8 cY_9 cY_10
    refine (WB.out _).mono ?_; rintro e w2 ⟨rfl, b2⟩
    have d2 : Below w1.heap.size w1 w2 := below_step (by repeat (first | exact Below.refl _ _ | refine below_drewN ?_ _ | refine Below.drew ?_ | refine Below.setCell ?_ (by first | (simp; done) | (simp; omega) | omega) _ | refine Below.alloc ?_ (by first | (simp; done) | (simp; omega) | omega) _)) b2
    have B2 := Lib.hid (below_step B1.out d2)
    have X2 := X1.keep d2
    have Y2 := Y1.keep d2
    clear X1 Y1 b2 d2 B1
    have cX_b := X2.hb
    have cX_f := X2.fz
    have cX_0 := X2.k0
    have cX_1 := X2.k1
    have cX_2 := X2.k2
    have cX_3 := X2.k3
    have cX_4 := X2.k4
    have cX_5 := X2.k5
    have cX_6 := X2.k6
    have cX_7 := X2.k7
    have cX_8 := X2.k8
    have cX_9 := X2.k9
    have cX_10 := X2.k10
    have cY_b := Y2.hb
    have cY_f := Y2.fz
    have cY_0 := Y2.k0
    have cY_1 := Y2.k1
    have cY_2 := Y2.k2
    have cY_3 := Y2.k3
    have cY_4 := Y2.k4
    have cY_5 := Y2.k5
    have cY_6 := Y2.k6
    have cY_7 := Y2.k7
    have cY_8 := Y2.k8
    have cY_9 := Y2.k9
    have cY_10 := Y2.k10
    go_wp2_with fail
    clear cX_b cX_f cX_0 cX_1 cX_2 cX_3 cX_4 cX_5 cX_6 cX_7 cX_8 cX_9 cX_10 cY_b cY_f cY_0 cY_1 cY_2 cY_3 cY_4 cY_5 cY_6 cY_7 cY_8 cY_9 cY_10
    go_ret
    exact ⟨rfl, (by have hz := B2.out.size; repeat (first | exact B2.out | refine below_drewN ?_ _ | refine Below.drew ?_ | refine Below.setCell ?_ (by first | omega | (simp; done) | (simp; omega)) _ | refine Below.alloc ?_ (by first | omega | (simp; done) | (simp; omega)) _))⟩
end Go.Proofs.Ytjnhaabbnbcaeaa
