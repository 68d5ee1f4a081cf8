/- Joined: AnU. -/
import Derived.Test.YtlelpeocbgjmhaaGreatDoorCa34
/- Answers: a local time's text, by the reference. -/
set_option linter.unusedVariables false
set_option linter.unusedSimpArgs false
namespace Go.Proofs.YtlelpeocbgjmhaaGreatDoor
open Go.RowKit Go.Sort
theorem An.loc_y1 (k : Int) (i j : An.I) (hk : k = 2 ∨ k = 3) (h : (An.inf i).2 ≠ 0) : An.loc k i j = ([], (An.inf i).2) := by
  have b := An.both_no1 i j h
  unfold An.loc
  rcases hk with rfl | rfl
  · rw [if_neg (by decide), if_pos rfl, if_pos (by rw [b]; exact h), b]
  · rw [if_neg (by decide), if_neg (by decide), if_pos rfl, if_pos (by rw [b]; exact h), b]
theorem An.loc_y2 (k : Int) (i j : An.I) (hk : k = 2 ∨ k = 3) (h : (An.inf i).2 = 0) (h2 : (An.inf j).2 ≠ 0) : An.loc k i j = ([], (An.inf j).2) := by
  have b := An.both_no2 i j h h2
  unfold An.loc
  rcases hk with rfl | rfl
  · rw [if_neg (by decide), if_pos rfl, if_pos (by rw [b]; exact h2), b]
  · rw [if_neg (by decide), if_neg (by decide), if_pos rfl, if_pos (by rw [b]; exact h2), b]
theorem An.loc_4 (k : Int) (i j : An.I) (h1 : k ≠ 1) (h2 : k ≠ 2) (h3 : k ≠ 3) : An.loc k i j = ([], 4) := by unfold An.loc; rw [if_neg h1, if_neg h2, if_neg h3]
set_option maxHeartbeats 8000000 in
set_option maxRecDepth 100000 in
theorem ralocal_any (k a b c d : Int) (x : ByteArray) (a' b' c' d' : Int) (x' : ByteArray) (w : World) (hk : An.bd k) (ha : An.bd a) (hb : An.bd b) (hc : An.bd c) (hd : An.bd d) (hx : x.size ≤ 1000000) (ha' : An.bd a') (hb' : An.bd b') (hc' : An.bd c') (hd' : An.bd d') (hx' : x'.size ≤ 1000000) :
    Calls Tryz.prog 9 #[.agg #[.int .i64 k, .int .i64 a, .int .i64 b, .int .i64 c, .int .i64 d, .string x, .int .i64 a', .int .i64 b', .int .i64 c', .int .i64 d', .string x']] w fun e w' => e = .returned (.tuple #[.string ⟨(An.loc k (a, b, c, d, x) (a', b', c', d', x')).1.toArray⟩, .int .i64 (An.loc k (a, b, c, d, x) (a', b', c', d', x')).2]) ∧ Below w.heap.size w w' := by
  have IA := Lib.hid (fun W => rainfo_any a b c d x W ha hb hc hd hx)
  have IB := Lib.hid (fun W => rainfo_any a' b' c' d' x' W ha' hb' hc' hd' hx')
  have z1 := An.inf_len a b c d x ha hb hc hd
  have z2 := An.inf_len a' b' c' d' x' ha' hb' hc' hd'
  by_cases k0 : k < 1
  · rw [An.loc_4 k _ _ (by omega) (by omega) (by omega)]
    clear IA IB
    generalize (⟨(An.inf (a, b, c, d, x)).1.toArray⟩ : ByteArray) = R1 at *
    generalize (⟨(An.inf (a', b', c', d', x')).1.toArray⟩ : ByteArray) = R2 at *
    generalize (An.inf (a, b, c, d, x)).2 = y1 at *
    generalize (An.inf (a', b', c', d', x')).2 = y2 at *
    clear ha hb hc hd ha' hb' hc' hd' hk
    have hR1 : R1.size ≤ 1000200 := by omega
    have hR2 : R2.size ≤ 1000200 := by omega
    clear z1 z2 hx hx'
    go_enter Tryz.func9, Tryz.ntmps9
    go_wp2_with fail
    go_ret2
    exact ⟨rfl, (by repeat (first | exact Below.refl _ _ | refine _root_.Go.below_drewN ?_ _ | refine Below.drew ?_ | refine Below.setCell ?_ (by first | (simp; done) | (simp; omega) | omega) _ | refine Below.alloc ?_ (by first | (simp; done) | (simp; omega) | omega) _))⟩
  by_cases k4 : 3 < k
  · rw [An.loc_4 k _ _ (by omega) (by omega) (by omega)]
    clear IA IB
    generalize (⟨(An.inf (a, b, c, d, x)).1.toArray⟩ : ByteArray) = R1 at *
    generalize (⟨(An.inf (a', b', c', d', x')).1.toArray⟩ : ByteArray) = R2 at *
    generalize (An.inf (a, b, c, d, x)).2 = y1 at *
    generalize (An.inf (a', b', c', d', x')).2 = y2 at *
    clear ha hb hc hd ha' hb' hc' hd' hk
    have hR1 : R1.size ≤ 1000200 := by omega
    have hR2 : R2.size ≤ 1000200 := by omega
    clear z1 z2 hx hx'
    go_enter Tryz.func9, Tryz.ntmps9
    go_wp2_with fail
    go_ret2
    exact ⟨rfl, (by repeat (first | exact Below.refl _ _ | refine _root_.Go.below_drewN ?_ _ | refine Below.drew ?_ | refine Below.setCell ?_ (by first | (simp; done) | (simp; omega) | omega) _ | refine Below.alloc ?_ (by first | (simp; done) | (simp; omega) | omega) _))⟩
  by_cases k1 : k = 1
  · subst k1
    by_cases h1 : (An.inf (a, b, c, d, x)).2 = 0
    · obtain ⟨e1, e2⟩ := An.loc_1 (a, b, c, d, x) (a', b', c', d', x') h1
      rw [e1, e2]
      rw [h1] at IA
      clear e1 e2 h1
      generalize (⟨(An.inf (a, b, c, d, x)).1.toArray⟩ : ByteArray) = R1 at *
      generalize (⟨(An.inf (a', b', c', d', x')).1.toArray⟩ : ByteArray) = R2 at *
      generalize (An.inf (a, b, c, d, x)).2 = y1 at *
      generalize (An.inf (a', b', c', d', x')).2 = y2 at *
      clear ha hb hc hd ha' hb' hc' hd' hk
      have hR1 : R1.size ≤ 1000200 := by omega
      have hR2 : R2.size ≤ 1000200 := by omega
      clear z1 z2 hx hx'
      have hz : ¬ 9223372036854775807 < 4 + R1.size := by omega
      go_enter Tryz.func9, Tryz.ntmps9
      go_wp2_with fail
      refine (IA.out _).mono ?_; rintro e w1 ⟨rfl, b1⟩
      have d1 : Below w.heap.size w w1 := below_step (by repeat (first | exact Below.refl _ _ | refine _root_.Go.below_drewN ?_ _ | refine Below.drew ?_ | refine Below.setCell ?_ (by first | (simp; done) | (simp; omega) | omega) _ | refine Below.alloc ?_ (by first | (simp; done) | (simp; omega) | omega) _)) b1
      have B1 := Lib.hid d1
      have X1 : Bk11 w1 (w.heap.size) (.int .i64 1) (.int .i64 a) (.int .i64 b) (.int .i64 c) (.int .i64 d) (.string x) (.int .i64 a') (.int .i64 b') (.int .i64 c') (.int .i64 d') (.string x') := Bk11.of b1 (by simp <;> omega) (by intro j; simp [go_sem]) (by simp [go_sem]) (by simp [go_sem]) (by simp [go_sem]) (by simp [go_sem]) (by simp [go_sem]) (by simp [go_sem]) (by simp [go_sem]) (by simp [go_sem]) (by simp [go_sem]) (by simp [go_sem]) (by simp [go_sem])
      have V1 : Bk4 w1 (w.heap.size + 1) (.string ⟨#[]⟩) (.string ⟨#[111, 110, 101]⟩) (.string ⟨#[110, 111, 110, 101]⟩) (.string ⟨#[116, 119, 111]⟩) := Bk4.of b1 (by simp <;> omega) (by intro j; simp [go_sem]) (by simp [go_sem]) (by simp [go_sem]) (by simp [go_sem]) (by simp [go_sem])
      clear b1 d1
      have cX_b := X1.hb
      have cX_f := X1.fz
      have cX_0 := X1.k0
      have cX_1 := X1.k1
      have cX_2 := X1.k2
      have cX_3 := X1.k3
      have cX_4 := X1.k4
      have cX_5 := X1.k5
      have cX_6 := X1.k6
      have cX_7 := X1.k7
      have cX_8 := X1.k8
      have cX_9 := X1.k9
      have cX_10 := X1.k10
      have cV_b := V1.hb
      have cV_f := V1.fz
      have cV_0 := V1.k0
      have cV_1 := V1.k1
      have cV_2 := V1.k2
      have cV_3 := V1.k3
      go_wp2_with fail
      clear cX_b cX_f cX_0 cX_1 cX_2 cX_3 cX_4 cX_5 cX_6 cX_7 cX_8 cX_9 cX_10 cV_b cV_f cV_0 cV_1 cV_2 cV_3
      go_ret2
      exact ⟨rfl, (by have hz := B1.out.size; repeat (first | exact B1.out | refine _root_.Go.below_drewN ?_ _ | refine Below.drew ?_ | refine Below.setCell ?_ (by first | omega | (simp; done) | (simp; omega)) _ | refine Below.alloc ?_ (by first | omega | (simp; done) | (simp; omega)) _))⟩
    · obtain ⟨e1, e2⟩ := An.loc_1n (a, b, c, d, x) (a', b', c', d', x') h1
      rw [e1, e2]
      clear e1 e2
      generalize (⟨(An.inf (a, b, c, d, x)).1.toArray⟩ : ByteArray) = R1 at *
      generalize (⟨(An.inf (a', b', c', d', x')).1.toArray⟩ : ByteArray) = R2 at *
      generalize (An.inf (a, b, c, d, x)).2 = y1 at *
      generalize (An.inf (a', b', c', d', x')).2 = y2 at *
      clear ha hb hc hd ha' hb' hc' hd' hk
      have hR1 : R1.size ≤ 1000200 := by omega
      have hR2 : R2.size ≤ 1000200 := by omega
      clear z1 z2 hx hx'
      have gy : (y1 == 0) = false := by rw [beq_eq_false_iff_ne]; exact h1
      go_enter Tryz.func9, Tryz.ntmps9
      go_wp2_with fail
      refine (IA.out _).mono ?_; rintro e w1 ⟨rfl, b1⟩
      have d1 : Below w.heap.size w w1 := below_step (by repeat (first | exact Below.refl _ _ | refine _root_.Go.below_drewN ?_ _ | refine Below.drew ?_ | refine Below.setCell ?_ (by first | (simp; done) | (simp; omega) | omega) _ | refine Below.alloc ?_ (by first | (simp; done) | (simp; omega) | omega) _)) b1
      have B1 := Lib.hid d1
      have X1 : Bk11 w1 (w.heap.size) (.int .i64 1) (.int .i64 a) (.int .i64 b) (.int .i64 c) (.int .i64 d) (.string x) (.int .i64 a') (.int .i64 b') (.int .i64 c') (.int .i64 d') (.string x') := Bk11.of b1 (by simp <;> omega) (by intro j; simp [go_sem]) (by simp [go_sem]) (by simp [go_sem]) (by simp [go_sem]) (by simp [go_sem]) (by simp [go_sem]) (by simp [go_sem]) (by simp [go_sem]) (by simp [go_sem]) (by simp [go_sem]) (by simp [go_sem]) (by simp [go_sem])
      have V1 : Bk4 w1 (w.heap.size + 1) (.string ⟨#[]⟩) (.string ⟨#[111, 110, 101]⟩) (.string ⟨#[110, 111, 110, 101]⟩) (.string ⟨#[116, 119, 111]⟩) := Bk4.of b1 (by simp <;> omega) (by intro j; simp [go_sem]) (by simp [go_sem]) (by simp [go_sem]) (by simp [go_sem]) (by simp [go_sem])
      clear b1 d1
      have cX_b := X1.hb
      have cX_f := X1.fz
      have cX_0 := X1.k0
      have cX_1 := X1.k1
      have cX_2 := X1.k2
      have cX_3 := X1.k3
      have cX_4 := X1.k4
      have cX_5 := X1.k5
      have cX_6 := X1.k6
      have cX_7 := X1.k7
      have cX_8 := X1.k8
      have cX_9 := X1.k9
      have cX_10 := X1.k10
      have cV_b := V1.hb
      have cV_f := V1.fz
      have cV_0 := V1.k0
      have cV_1 := V1.k1
      have cV_2 := V1.k2
      have cV_3 := V1.k3
      go_wp2_with fail
      clear cX_b cX_f cX_0 cX_1 cX_2 cX_3 cX_4 cX_5 cX_6 cX_7 cX_8 cX_9 cX_10 cV_b cV_f cV_0 cV_1 cV_2 cV_3
      go_ret2
      exact ⟨rfl, (by have hz := B1.out.size; repeat (first | exact B1.out | refine _root_.Go.below_drewN ?_ _ | refine Below.drew ?_ | refine Below.setCell ?_ (by first | omega | (simp; done) | (simp; omega)) _ | refine Below.alloc ?_ (by first | omega | (simp; done) | (simp; omega)) _))⟩
  have k23 : k = 2 ∨ k = 3 := by omega
  have g1 : (k == 1) = false := by rw [beq_eq_false_iff_ne]; exact k1
  by_cases h1 : (An.inf (a, b, c, d, x)).2 = 0
  case neg =>
    rw [An.loc_y1 k _ _ k23 h1]
    dsimp only
    clear k23
    generalize (⟨(An.inf (a, b, c, d, x)).1.toArray⟩ : ByteArray) = R1 at *
    generalize (⟨(An.inf (a', b', c', d', x')).1.toArray⟩ : ByteArray) = R2 at *
    generalize (An.inf (a, b, c, d, x)).2 = y1 at *
    generalize (An.inf (a', b', c', d', x')).2 = y2 at *
    clear ha hb hc hd ha' hb' hc' hd' hk
    have hR1 : R1.size ≤ 1000200 := by omega
    have hR2 : R2.size ≤ 1000200 := by omega
    clear z1 z2 hx hx'
    have gy : (y1 == 0) = false := by rw [beq_eq_false_iff_ne]; exact h1
    go_enter Tryz.func9, Tryz.ntmps9
    go_wp2_with fail
    refine (IA.out _).mono ?_; rintro e w1 ⟨rfl, b1⟩
    have d1 : Below w.heap.size w w1 := below_step (by repeat (first | exact Below.refl _ _ | refine _root_.Go.below_drewN ?_ _ | refine Below.drew ?_ | refine Below.setCell ?_ (by first | (simp; done) | (simp; omega) | omega) _ | refine Below.alloc ?_ (by first | (simp; done) | (simp; omega) | omega) _)) b1
    have B1 := Lib.hid d1
    have X1 : Bk11 w1 (w.heap.size) (.int .i64 k) (.int .i64 a) (.int .i64 b) (.int .i64 c) (.int .i64 d) (.string x) (.int .i64 a') (.int .i64 b') (.int .i64 c') (.int .i64 d') (.string x') := Bk11.of b1 (by simp <;> omega) (by intro j; simp [go_sem]) (by simp [go_sem]) (by simp [go_sem]) (by simp [go_sem]) (by simp [go_sem]) (by simp [go_sem]) (by simp [go_sem]) (by simp [go_sem]) (by simp [go_sem]) (by simp [go_sem]) (by simp [go_sem]) (by simp [go_sem])
    have V1 : Bk4 w1 (w.heap.size + 1) (.string ⟨#[]⟩) (.string ⟨#[111, 110, 101]⟩) (.string ⟨#[110, 111, 110, 101]⟩) (.string ⟨#[116, 119, 111]⟩) := Bk4.of b1 (by simp <;> omega) (by intro j; simp [go_sem]) (by simp [go_sem]) (by simp [go_sem]) (by simp [go_sem]) (by simp [go_sem])
    clear b1 d1
    have cX_b := X1.hb
    have cX_f := X1.fz
    have cX_0 := X1.k0
    have cX_1 := X1.k1
    have cX_2 := X1.k2
    have cX_3 := X1.k3
    have cX_4 := X1.k4
    have cX_5 := X1.k5
    have cX_6 := X1.k6
    have cX_7 := X1.k7
    have cX_8 := X1.k8
    have cX_9 := X1.k9
    have cX_10 := X1.k10
    have cV_b := V1.hb
    have cV_f := V1.fz
    have cV_0 := V1.k0
    have cV_1 := V1.k1
    have cV_2 := V1.k2
    have cV_3 := V1.k3
    go_wp2_with fail
    clear cX_b cX_f cX_0 cX_1 cX_2 cX_3 cX_4 cX_5 cX_6 cX_7 cX_8 cX_9 cX_10 cV_b cV_f cV_0 cV_1 cV_2 cV_3
    go_ret2
    exact ⟨rfl, (by have hz := B1.out.size; repeat (first | exact B1.out | refine _root_.Go.below_drewN ?_ _ | refine Below.drew ?_ | refine Below.setCell ?_ (by first | omega | (simp; done) | (simp; omega)) _ | refine Below.alloc ?_ (by first | omega | (simp; done) | (simp; omega)) _))⟩
  by_cases h2 : (An.inf (a', b', c', d', x')).2 = 0
  case neg =>
    rw [An.loc_y2 k _ _ k23 h1 h2]
    dsimp only
    rw [h1] at IA
    clear k23 h1
    generalize (⟨(An.inf (a, b, c, d, x)).1.toArray⟩ : ByteArray) = R1 at *
    generalize (⟨(An.inf (a', b', c', d', x')).1.toArray⟩ : ByteArray) = R2 at *
    generalize (An.inf (a, b, c, d, x)).2 = y1 at *
    generalize (An.inf (a', b', c', d', x')).2 = y2 at *
    clear ha hb hc hd ha' hb' hc' hd' hk
    have hR1 : R1.size ≤ 1000200 := by omega
    have hR2 : R2.size ≤ 1000200 := by omega
    clear z1 z2 hx hx'
    have gy : (y2 == 0) = false := by rw [beq_eq_false_iff_ne]; exact h2
    go_enter Tryz.func9, Tryz.ntmps9
    go_wp2_with fail
    refine (IA.out _).mono ?_; rintro e w1 ⟨rfl, b1⟩
    have d1 : Below w.heap.size w w1 := below_step (by repeat (first | exact Below.refl _ _ | refine _root_.Go.below_drewN ?_ _ | refine Below.drew ?_ | refine Below.setCell ?_ (by first | (simp; done) | (simp; omega) | omega) _ | refine Below.alloc ?_ (by first | (simp; done) | (simp; omega) | omega) _)) b1
    have B1 := Lib.hid d1
    have X1 : Bk11 w1 (w.heap.size) (.int .i64 k) (.int .i64 a) (.int .i64 b) (.int .i64 c) (.int .i64 d) (.string x) (.int .i64 a') (.int .i64 b') (.int .i64 c') (.int .i64 d') (.string x') := Bk11.of b1 (by simp <;> omega) (by intro j; simp [go_sem]) (by simp [go_sem]) (by simp [go_sem]) (by simp [go_sem]) (by simp [go_sem]) (by simp [go_sem]) (by simp [go_sem]) (by simp [go_sem]) (by simp [go_sem]) (by simp [go_sem]) (by simp [go_sem]) (by simp [go_sem])
    have V1 : Bk4 w1 (w.heap.size + 1) (.string ⟨#[]⟩) (.string ⟨#[111, 110, 101]⟩) (.string ⟨#[110, 111, 110, 101]⟩) (.string ⟨#[116, 119, 111]⟩) := Bk4.of b1 (by simp <;> omega) (by intro j; simp [go_sem]) (by simp [go_sem]) (by simp [go_sem]) (by simp [go_sem]) (by simp [go_sem])
    clear b1 d1
    have cX_b := X1.hb
    have cX_f := X1.fz
    have cX_0 := X1.k0
    have cX_1 := X1.k1
    have cX_2 := X1.k2
    have cX_3 := X1.k3
    have cX_4 := X1.k4
    have cX_5 := X1.k5
    have cX_6 := X1.k6
    have cX_7 := X1.k7
    have cX_8 := X1.k8
    have cX_9 := X1.k9
    have cX_10 := X1.k10
    have cV_b := V1.hb
    have cV_f := V1.fz
    have cV_0 := V1.k0
    have cV_1 := V1.k1
    have cV_2 := V1.k2
    have cV_3 := V1.k3
    go_wp2_with fail
    clear cX_b cX_f cX_0 cX_1 cX_2 cX_3 cX_4 cX_5 cX_6 cX_7 cX_8 cX_9 cX_10 cV_b cV_f cV_0 cV_1 cV_2 cV_3
    refine (IB.out _).mono ?_; rintro e w2 ⟨rfl, b2⟩
    have d2 : Below w1.heap.size w1 w2 := below_step (by repeat (first | exact Below.refl _ _ | refine _root_.Go.below_drewN ?_ _ | refine Below.drew ?_ | refine Below.setCell ?_ (by first | (simp; done) | (simp; omega) | omega) _ | refine Below.alloc ?_ (by first | (simp; done) | (simp; omega) | omega) _)) b2
    have B2 := Lib.hid (below_step B1.out d2)
    have X2 := X1.keep d2
    have V2 := V1.keep d2
    clear X1 V1 b2 d2 B1
    have cX_b := X2.hb
    have cX_f := X2.fz
    have cX_0 := X2.k0
    have cX_1 := X2.k1
    have cX_2 := X2.k2
    have cX_3 := X2.k3
    have cX_4 := X2.k4
    have cX_5 := X2.k5
    have cX_6 := X2.k6
    have cX_7 := X2.k7
    have cX_8 := X2.k8
    have cX_9 := X2.k9
    have cX_10 := X2.k10
    have cV_b := V2.hb
    have cV_f := V2.fz
    have cV_0 := V2.k0
    have cV_1 := V2.k1
    have cV_2 := V2.k2
    have cV_3 := V2.k3
    go_wp2_with fail
    clear cX_b cX_f cX_0 cX_1 cX_2 cX_3 cX_4 cX_5 cX_6 cX_7 cX_8 cX_9 cX_10 cV_b cV_f cV_0 cV_1 cV_2 cV_3
    go_ret2
    exact ⟨rfl, (by have hz := B2.out.size; repeat (first | exact B2.out | refine _root_.Go.below_drewN ?_ _ | refine Below.drew ?_ | refine Below.setCell ?_ (by first | omega | (simp; done) | (simp; omega)) _ | refine Below.alloc ?_ (by first | omega | (simp; done) | (simp; omega)) _))⟩
  rcases k23 with rfl | rfl
  · obtain ⟨e1, e2⟩ := An.loc_2 (a, b, c, d, x) (a', b', c', d', x') h1 h2
    rw [e1, e2, show (⟨#[110, 111, 110, 101, 32]⟩ : ByteArray) = ⟨#[110, 111, 110, 101]⟩ ++ ⟨#[32]⟩ from rfl]
    rw [h1] at IA
    rw [h2] at IB
    clear e1 e2 h1 h2
    generalize (⟨(An.inf (a, b, c, d, x)).1.toArray⟩ : ByteArray) = R1 at *
    generalize (⟨(An.inf (a', b', c', d', x')).1.toArray⟩ : ByteArray) = R2 at *
    generalize (An.inf (a, b, c, d, x)).2 = y1 at *
    generalize (An.inf (a', b', c', d', x')).2 = y2 at *
    clear ha hb hc hd ha' hb' hc' hd' hk
    have hR1 : R1.size ≤ 1000200 := by omega
    have hR2 : R2.size ≤ 1000200 := by omega
    clear z1 z2 hx hx'
    have ha1 : ¬ 9223372036854775807 < 5 + R1.size := by omega
    have ha2 : ¬ 9223372036854775807 < 5 + R1.size + 3 := by omega
    have ha3 : ¬ 9223372036854775807 < 5 + R1.size + 3 + R2.size := by omega
    have hb1 : ¬ 9223372036854775807 < 4 + 1 + R1.size := by omega
    have hb2 : ¬ 9223372036854775807 < 4 + 1 + R1.size + 3 := by omega
    have hb3 : ¬ 9223372036854775807 < 4 + 1 + R1.size + 3 + R2.size := by omega
    go_enter Tryz.func9, Tryz.ntmps9
    go_wp2_with fail
    refine (IA.out _).mono ?_; rintro e w1 ⟨rfl, b1⟩
    have d1 : Below w.heap.size w w1 := below_step (by repeat (first | exact Below.refl _ _ | refine _root_.Go.below_drewN ?_ _ | refine Below.drew ?_ | refine Below.setCell ?_ (by first | (simp; done) | (simp; omega) | omega) _ | refine Below.alloc ?_ (by first | (simp; done) | (simp; omega) | omega) _)) b1
    have B1 := Lib.hid d1
    have X1 : Bk11 w1 (w.heap.size) (.int .i64 2) (.int .i64 a) (.int .i64 b) (.int .i64 c) (.int .i64 d) (.string x) (.int .i64 a') (.int .i64 b') (.int .i64 c') (.int .i64 d') (.string x') := Bk11.of b1 (by simp <;> omega) (by intro j; simp [go_sem]) (by simp [go_sem]) (by simp [go_sem]) (by simp [go_sem]) (by simp [go_sem]) (by simp [go_sem]) (by simp [go_sem]) (by simp [go_sem]) (by simp [go_sem]) (by simp [go_sem]) (by simp [go_sem]) (by simp [go_sem])
    have V1 : Bk4 w1 (w.heap.size + 1) (.string ⟨#[]⟩) (.string ⟨#[111, 110, 101]⟩) (.string ⟨#[110, 111, 110, 101]⟩) (.string ⟨#[116, 119, 111]⟩) := Bk4.of b1 (by simp <;> omega) (by intro j; simp [go_sem]) (by simp [go_sem]) (by simp [go_sem]) (by simp [go_sem]) (by simp [go_sem])
    clear b1 d1
    have cX_b := X1.hb
    have cX_f := X1.fz
    have cX_0 := X1.k0
    have cX_1 := X1.k1
    have cX_2 := X1.k2
    have cX_3 := X1.k3
    have cX_4 := X1.k4
    have cX_5 := X1.k5
    have cX_6 := X1.k6
    have cX_7 := X1.k7
    have cX_8 := X1.k8
    have cX_9 := X1.k9
    have cX_10 := X1.k10
    have cV_b := V1.hb
    have cV_f := V1.fz
    have cV_0 := V1.k0
    have cV_1 := V1.k1
    have cV_2 := V1.k2
    have cV_3 := V1.k3
    go_wp2_with fail
    clear cX_b cX_f cX_0 cX_1 cX_2 cX_3 cX_4 cX_5 cX_6 cX_7 cX_8 cX_9 cX_10 cV_b cV_f cV_0 cV_1 cV_2 cV_3
    refine (IB.out _).mono ?_; rintro e w2 ⟨rfl, b2⟩
    have d2 : Below w1.heap.size w1 w2 := below_step (by repeat (first | exact Below.refl _ _ | refine _root_.Go.below_drewN ?_ _ | refine Below.drew ?_ | refine Below.setCell ?_ (by first | (simp; done) | (simp; omega) | omega) _ | refine Below.alloc ?_ (by first | (simp; done) | (simp; omega) | omega) _)) b2
    have B2 := Lib.hid (below_step B1.out d2)
    have X2 := X1.keep d2
    have V2 := V1.keep d2
    clear X1 V1 b2 d2 B1
    have cX_b := X2.hb
    have cX_f := X2.fz
    have cX_0 := X2.k0
    have cX_1 := X2.k1
    have cX_2 := X2.k2
    have cX_3 := X2.k3
    have cX_4 := X2.k4
    have cX_5 := X2.k5
    have cX_6 := X2.k6
    have cX_7 := X2.k7
    have cX_8 := X2.k8
    have cX_9 := X2.k9
    have cX_10 := X2.k10
    have cV_b := V2.hb
    have cV_f := V2.fz
    have cV_0 := V2.k0
    have cV_1 := V2.k1
    have cV_2 := V2.k2
    have cV_3 := V2.k3
    go_wp2_with fail
    clear cX_b cX_f cX_0 cX_1 cX_2 cX_3 cX_4 cX_5 cX_6 cX_7 cX_8 cX_9 cX_10 cV_b cV_f cV_0 cV_1 cV_2 cV_3
    go_ret2
    exact ⟨rfl, (by have hz := B2.out.size; repeat (first | exact B2.out | refine _root_.Go.below_drewN ?_ _ | refine Below.drew ?_ | refine Below.setCell ?_ (by first | omega | (simp; done) | (simp; omega)) _ | refine Below.alloc ?_ (by first | omega | (simp; done) | (simp; omega)) _))⟩
  · obtain ⟨e1, e2⟩ := An.loc_3 (a, b, c, d, x) (a', b', c', d', x') h1 h2
    rw [e1, e2, show (⟨#[116, 119, 111, 32]⟩ : ByteArray) = ⟨#[116, 119, 111]⟩ ++ ⟨#[32]⟩ from rfl]
    rw [h1] at IA
    rw [h2] at IB
    clear e1 e2 h1 h2
    generalize (⟨(An.inf (a, b, c, d, x)).1.toArray⟩ : ByteArray) = R1 at *
    generalize (⟨(An.inf (a', b', c', d', x')).1.toArray⟩ : ByteArray) = R2 at *
    generalize (An.inf (a, b, c, d, x)).2 = y1 at *
    generalize (An.inf (a', b', c', d', x')).2 = y2 at *
    clear ha hb hc hd ha' hb' hc' hd' hk
    have hR1 : R1.size ≤ 1000200 := by omega
    have hR2 : R2.size ≤ 1000200 := by omega
    clear z1 z2 hx hx'
    have ha1 : ¬ 9223372036854775807 < 4 + R1.size := by omega
    have ha2 : ¬ 9223372036854775807 < 4 + R1.size + 3 := by omega
    have ha3 : ¬ 9223372036854775807 < 4 + R1.size + 3 + R2.size := by omega
    have hb1 : ¬ 9223372036854775807 < 3 + 1 + R1.size := by omega
    have hb2 : ¬ 9223372036854775807 < 3 + 1 + R1.size + 3 := by omega
    have hb3 : ¬ 9223372036854775807 < 3 + 1 + R1.size + 3 + R2.size := by omega
    go_enter Tryz.func9, Tryz.ntmps9
    go_wp2_with fail
    refine (IA.out _).mono ?_; rintro e w1 ⟨rfl, b1⟩
    have d1 : Below w.heap.size w w1 := below_step (by repeat (first | exact Below.refl _ _ | refine _root_.Go.below_drewN ?_ _ | refine Below.drew ?_ | refine Below.setCell ?_ (by first | (simp; done) | (simp; omega) | omega) _ | refine Below.alloc ?_ (by first | (simp; done) | (simp; omega) | omega) _)) b1
    have B1 := Lib.hid d1
    have X1 : Bk11 w1 (w.heap.size) (.int .i64 3) (.int .i64 a) (.int .i64 b) (.int .i64 c) (.int .i64 d) (.string x) (.int .i64 a') (.int .i64 b') (.int .i64 c') (.int .i64 d') (.string x') := Bk11.of b1 (by simp <;> omega) (by intro j; simp [go_sem]) (by simp [go_sem]) (by simp [go_sem]) (by simp [go_sem]) (by simp [go_sem]) (by simp [go_sem]) (by simp [go_sem]) (by simp [go_sem]) (by simp [go_sem]) (by simp [go_sem]) (by simp [go_sem]) (by simp [go_sem])
    have V1 : Bk4 w1 (w.heap.size + 1) (.string ⟨#[]⟩) (.string ⟨#[111, 110, 101]⟩) (.string ⟨#[110, 111, 110, 101]⟩) (.string ⟨#[116, 119, 111]⟩) := Bk4.of b1 (by simp <;> omega) (by intro j; simp [go_sem]) (by simp [go_sem]) (by simp [go_sem]) (by simp [go_sem]) (by simp [go_sem])
    clear b1 d1
    have cX_b := X1.hb
    have cX_f := X1.fz
    have cX_0 := X1.k0
    have cX_1 := X1.k1
    have cX_2 := X1.k2
    have cX_3 := X1.k3
    have cX_4 := X1.k4
    have cX_5 := X1.k5
    have cX_6 := X1.k6
    have cX_7 := X1.k7
    have cX_8 := X1.k8
    have cX_9 := X1.k9
    have cX_10 := X1.k10
    have cV_b := V1.hb
    have cV_f := V1.fz
    have cV_0 := V1.k0
    have cV_1 := V1.k1
    have cV_2 := V1.k2
    have cV_3 := V1.k3
    go_wp2_with fail
    clear cX_b cX_f cX_0 cX_1 cX_2 cX_3 cX_4 cX_5 cX_6 cX_7 cX_8 cX_9 cX_10 cV_b cV_f cV_0 cV_1 cV_2 cV_3
    refine (IB.out _).mono ?_; rintro e w2 ⟨rfl, b2⟩
    have d2 : Below w1.heap.size w1 w2 := below_step (by repeat (first | exact Below.refl _ _ | refine _root_.Go.below_drewN ?_ _ | refine Below.drew ?_ | refine Below.setCell ?_ (by first | (simp; done) | (simp; omega) | omega) _ | refine Below.alloc ?_ (by first | (simp; done) | (simp; omega) | omega) _)) b2
    have B2 := Lib.hid (below_step B1.out d2)
    have X2 := X1.keep d2
    have V2 := V1.keep d2
    clear X1 V1 b2 d2 B1
    have cX_b := X2.hb
    have cX_f := X2.fz
    have cX_0 := X2.k0
    have cX_1 := X2.k1
    have cX_2 := X2.k2
    have cX_3 := X2.k3
    have cX_4 := X2.k4
    have cX_5 := X2.k5
    have cX_6 := X2.k6
    have cX_7 := X2.k7
    have cX_8 := X2.k8
    have cX_9 := X2.k9
    have cX_10 := X2.k10
    have cV_b := V2.hb
    have cV_f := V2.fz
    have cV_0 := V2.k0
    have cV_1 := V2.k1
    have cV_2 := V2.k2
    have cV_3 := V2.k3
    go_wp2_with fail
    clear cX_b cX_f cX_0 cX_1 cX_2 cX_3 cX_4 cX_5 cX_6 cX_7 cX_8 cX_9 cX_10 cV_b cV_f cV_0 cV_1 cV_2 cV_3
    go_ret2
    exact ⟨rfl, (by have hz := B2.out.size; repeat (first | exact B2.out | refine _root_.Go.below_drewN ?_ _ | refine Below.drew ?_ | refine Below.setCell ?_ (by first | omega | (simp; done) | (simp; omega)) _ | refine Below.alloc ?_ (by first | omega | (simp; done) | (simp; omega)) _))⟩
end Go.Proofs.YtlelpeocbgjmhaaGreatDoor
