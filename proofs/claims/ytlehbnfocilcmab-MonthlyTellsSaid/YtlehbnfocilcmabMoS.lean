/- The contract of the reference's Add. -/
import Derived.Test.YtlehbnfocilcmabMoR
import Derived.Deep.RegionWith
set_option linter.unusedVariables false
set_option linter.unusedSimpArgs false
namespace Go.Proofs.Ytlehbnfocilcmab
open Go.RowKit Go.Sort

set_option maxHeartbeats 1500000 in
set_option maxRecDepth 100000 in
theorem radd_in (y m d n : Int) (w : World) (h : rightB y m d = true) (h1 : ¬ 1000000 < n) (h2 : ¬ n < -1000000) :
    Calls Try.prog 25 #[.agg #[.int .i64 y, .int .i64 m, .int .i64 d], .int .i64 n] w fun e w' => e = .returned (.tuple #[.agg #[.int .i64 (Cal.orz (Mo.cok (Mo.mY y m n)) (Mo.mY y m n)), .int .i64 (Cal.orz (Mo.cok (Mo.mY y m n)) (Mo.mM y m n)), .int .i64 (Cal.orz (Mo.cok (Mo.mY y m n)) (Mo.mD y m d n))], .int .i64 (Cal.why (Mo.cok (Mo.mY y m n)))]) ∧ Below w.heap.size w w' := by
  have hr := right_true.1 h
  obtain ⟨m1, m2⟩ := Cal.month_of hr
  have y1 := hr.y0; have y2 := hr.y1
  have H := Lib.hid h
  clear h hr
  go_enter Try.func25, Try.ntmps25
  go_wp2_with fail
  refine (rright_any y m d _).mono ?_; rintro e w1 ⟨rfl, b1⟩
  have d1 : Below w.heap.size w w1 := below_step (by repeat (first | exact Below.refl _ _ | refine below_drewN ?_ _ | refine Below.drew ?_ | refine Below.setCell ?_ (by simp) _ | refine Below.alloc ?_ (by simp) _)) b1
  have B1 := Lib.hid d1
  have D1 : Bk3 w1 (w.heap.size) (.int .i64 y) (.int .i64 m) (.int .i64 d) := Bk3.of b1 (by simp <;> omega) (by intro j; simp [go_sem]) (by simp [go_sem]) (by simp [go_sem]) (by simp [go_sem])
  have R1 : Bk3 w1 (w.heap.size + 1) (.int .i64 0) (.int .i64 0) (.int .i64 0) := Bk3.of b1 (by simp <;> omega) (by intro j; simp [go_sem]) (by simp [go_sem]) (by simp [go_sem]) (by simp [go_sem])
  clear b1 d1
  rw [H.out]
  have cD_b := D1.hb
  have cD_f := D1.fz
  have cD_0 := D1.k0
  have cD_1 := D1.k1
  have cD_2 := D1.k2
  have cR_b := R1.hb
  have cR_f := R1.fz
  have cR_0 := R1.k0
  have cR_1 := R1.k1
  have cR_2 := R1.k2
  go_wp2_with fail
  clear cD_b cD_f cD_0 cD_1 cD_2 cR_b cR_f cR_0 cR_1 cR_2
  refine wp_named ?_; intro w2 hw2
  have d2 : Below w1.heap.size w1 w2 := by rw [hw2]; exact (by repeat (first | exact Below.refl _ _ | refine below_drewN ?_ _ | refine Below.drew ?_ | refine Below.setCell ?_ (by simp) _ | refine Below.alloc ?_ (by simp) _))
  have B2 := Lib.hid (below_step B1.out d2)
  have D2 := D1.keep d2
  have R2 := R1.keep d2
  clear D1 R1 d2 hw2 B1
  have q0 : 0 ≤ (y * 12 + m - 1 + n) % 12 := by omega
  have q1 : (y * 12 + m - 1 + n) % 12 < 12 := by omega
  have hF : ∀ W, Calls Try.prog 55 #[.int .i64 (y * 12 + m - 1 + n), .int .i64 12] W fun e w' => e = .returned (.int .i64 (Mo.mY y m n)) ∧ ∃ k, w' = W.drewN k := fun W => floor_pos _ _ W (by omega) (by omega) (by decide) (by decide)
  have hR : ∀ W, Calls Try.prog 56 #[.int .i64 (y * 12 + m - 1 + n), .int .i64 12] W fun e w' => e = .returned (.int .i64 ((y * 12 + m - 1 + n) % 12)) ∧ ∃ k, w' = W.drewN k := fun W => rest_pos _ _ W (by omega) (by omega) (by decide) (by decide)
  have hC : ∀ W, Calls Try.prog 54 #[.int .i64 (Mo.mY y m n), .int .i64 ((y * 12 + m - 1 + n) % 12 + 1), .int .i64 d] W fun e w' => e = .returned (.tuple #[.agg #[.int .i64 (Cal.orz (Mo.cok (Mo.mY y m n)) (Mo.mY y m n)), .int .i64 (Cal.orz (Mo.cok (Mo.mY y m n)) (Mo.mM y m n)), .int .i64 (Cal.orz (Mo.cok (Mo.mY y m n)) (Mo.mD y m d n))], .int .i64 (Cal.why (Mo.cok (Mo.mY y m n)))]) ∧ Below W.heap.size W w' := fun W => rclamp_any (Mo.mY y m n) ((y * 12 + m - 1 + n) % 12 + 1) d W
  generalize e1 : Cal.orz (Mo.cok (Mo.mY y m n)) (Mo.mY y m n) = a1 at hC
  generalize e2 : Cal.orz (Mo.cok (Mo.mY y m n)) (Mo.mM y m n) = a2 at hC
  generalize e3 : Cal.orz (Mo.cok (Mo.mY y m n)) (Mo.mD y m d n) = a3 at hC
  generalize e4 : Cal.why (Mo.cok (Mo.mY y m n)) = a4 at hC
  generalize Mo.mY y m n = Y at hF hC
  generalize (y * 12 + m - 1 + n) % 12 = q at hR hC q0 q1
  generalize y * 12 + m - 1 + n = N at hF hR ⊢
  have hw : IntKind.i64.wrap (q + 1) = q + 1 := IntWalk.i64_in _ (by omega)
  clear m1 m2 y1 y2 h1 h2 H
  have cD_b := D2.hb
  have cD_f := D2.fz
  have cD_0 := D2.k0
  have cD_1 := D2.k1
  have cD_2 := D2.k2
  have cR_b := R2.hb
  have cR_f := R2.fz
  have cR_0 := R2.k0
  have cR_1 := R2.k1
  have cR_2 := R2.k2
  go_region_with (first
    | (go_at_call 55; refine (hF _).mono ?_; rintro e v1 ⟨rfl, j1, rfl⟩)
    | (go_at_call 56; refine (hR _).mono ?_; rintro e v2 ⟨rfl, j2, rfl⟩)
    | (go_at_call 54; refine (hC _).mono ?_; rintro e w3 ⟨rfl, b3⟩;
       have d3 : Below w2.heap.size w2 w3 := below_step (by repeat (first | exact Below.refl _ _ | refine below_drewN ?_ _ | refine Below.drew ?_)) b3;
       have R3 := R2.keep d3; have r_b := R3.hb; have r_f := R3.fz; have r_0 := R3.k0; have r_1 := R3.k1; have r_2 := R3.k2))
  all_goals
    go_wp2_with fail
    refine bodyPost_ret (v := .tuple #[.agg #[.int .i64 a1, .int .i64 a2, .int .i64 a3], .int .i64 a4]) (by simp [results, Try.results25, go_sem, r_b, r_f, r_0, r_1, r_2]) rfl ⟨by rw [← e1, ← e2, ← e3, ← e4], ?_⟩
    have B3 := below_step B2.out d3
    have hz := B3.size
    repeat (first | exact B3 | refine below_drewN ?_ _ | refine Below.drew ?_ | refine Below.setCell ?_ (by first | omega | (simp; done) | (simp; omega)) _ | refine Below.alloc ?_ (by first | omega | (simp; done) | (simp; omega)) _)
theorem radd_any (y m d n : Int) (w : World) :
    Calls Try.prog 25 #[.agg #[.int .i64 y, .int .i64 m, .int .i64 d], .int .i64 n] w fun e w' => e = .returned (.tuple #[.agg #[.int .i64 (Cal.orz (Mo.mok y m d n) (Mo.mY y m n)), .int .i64 (Cal.orz (Mo.mok y m d n) (Mo.mM y m n)), .int .i64 (Cal.orz (Mo.mok y m d n) (Mo.mD y m d n))], .int .i64 (Cal.why (Mo.mok y m d n))]) ∧ Below w.heap.size w w' := by
  cases hr : rightB y m d
  · have e : Mo.mok y m d n = false := by unfold Mo.mok; rw [hr]; rfl
    rw [e]; exact radd_notright y m d n w hr
  · by_cases ho : n < -1000000 ∨ 1000000 < n
    · have e : Mo.mok y m d n = false := by
        cases hk : Mo.mok y m d n
        · rfl
        · have := Mo.mok_less hk; omega
      rw [e]; exact radd_over y m d n w hr ho
    · rw [Mo.mok_cok hr]; exact radd_in y m d n w hr (by omega) (by omega)

set_option maxHeartbeats 1000000 in
theorem ryears_over (y m d n : Int) (w : World) (h : n < -100000 ∨ 100000 < n) :
    Calls Try.prog 27 #[.agg #[.int .i64 y, .int .i64 m, .int .i64 d], .int .i64 n] w fun e w' => e = .returned (.tuple #[.agg #[.int .i64 0, .int .i64 0, .int .i64 0], .int .i64 1]) ∧ Below w.heap.size w w' := by
  have h' : 100000 < n ∨ (¬ 100000 < n ∧ n < -100000) := by omega
  clear h
  rcases h' with h1 | ⟨h1, h2⟩
  all_goals
    go_enter Try.func27, Try.ntmps27
    go_wp2_with fail
    refine bodyPost_ret (v := .tuple #[.agg #[.int .i64 0, .int .i64 0, .int .i64 0], .int .i64 1]) (by simp [results, Try.results27, go_sem]) rfl ⟨rfl, ?_⟩
    exact (by repeat (first | exact Below.refl _ _ | refine below_drewN ?_ _ | refine Below.drew ?_ | refine Below.setCell ?_ (by simp) _ | refine Below.alloc ?_ (by simp) _))
set_option maxHeartbeats 1000000 in
theorem ryears_in (y m d n : Int) (w : World) (h1 : ¬ 100000 < n) (h2 : ¬ n < -100000) :
    Calls Try.prog 27 #[.agg #[.int .i64 y, .int .i64 m, .int .i64 d], .int .i64 n] w fun e w' => e = .returned (.tuple #[.agg #[.int .i64 (Cal.orz (Mo.mok y m d (12 * n)) (Mo.mY y m (12 * n))), .int .i64 (Cal.orz (Mo.mok y m d (12 * n)) (Mo.mM y m (12 * n))), .int .i64 (Cal.orz (Mo.mok y m d (12 * n)) (Mo.mD y m d (12 * n)))], .int .i64 (Cal.why (Mo.mok y m d (12 * n)))]) ∧ Below w.heap.size w w' := by
  go_enter Try.func27, Try.ntmps27
  go_wp2_with fail
  refine (radd_any y m d (12 * n) _).mono ?_; rintro e w1 ⟨rfl, b1⟩
  have d1 : Below w.heap.size w w1 := below_step (by repeat (first | exact Below.refl _ _ | refine below_drewN ?_ _ | refine Below.drew ?_ | refine Below.setCell ?_ (by simp) _ | refine Below.alloc ?_ (by simp) _)) b1
  have B1 := Lib.hid d1
  have D1 : Bk3 w1 (w.heap.size) (.int .i64 y) (.int .i64 m) (.int .i64 d) := Bk3.of b1 (by simp <;> omega) (by intro j; simp [go_sem]) (by simp [go_sem]) (by simp [go_sem]) (by simp [go_sem])
  have R1 : Bk3 w1 (w.heap.size + 1) (.int .i64 0) (.int .i64 0) (.int .i64 0) := Bk3.of b1 (by simp <;> omega) (by intro j; simp [go_sem]) (by simp [go_sem]) (by simp [go_sem]) (by simp [go_sem])
  clear b1 d1
  have cD_b := D1.hb
  have cD_f := D1.fz
  have cD_0 := D1.k0
  have cD_1 := D1.k1
  have cD_2 := D1.k2
  have cR_b := R1.hb
  have cR_f := R1.fz
  have cR_0 := R1.k0
  have cR_1 := R1.k1
  have cR_2 := R1.k2
  go_wp2_with fail
  refine bodyPost_ret (v := .tuple #[.agg #[.int .i64 (Cal.orz (Mo.mok y m d (12 * n)) (Mo.mY y m (12 * n))), .int .i64 (Cal.orz (Mo.mok y m d (12 * n)) (Mo.mM y m (12 * n))), .int .i64 (Cal.orz (Mo.mok y m d (12 * n)) (Mo.mD y m d (12 * n)))], .int .i64 (Cal.why (Mo.mok y m d (12 * n)))]) (by simp [results, Try.results27, go_sem, cD_b, cD_f, cD_0, cD_1, cD_2, cR_b, cR_f, cR_0, cR_1, cR_2]) rfl ⟨rfl, ?_⟩
  clear cD_b cD_f cD_0 cD_1 cD_2 cR_b cR_f cR_0 cR_1 cR_2
  exact (by have hz := B1.out.size; repeat (first | exact B1.out | refine below_drewN ?_ _ | refine Below.drew ?_ | refine Below.setCell ?_ (by first | omega | (simp; done) | (simp; omega)) _ | refine Below.alloc ?_ (by first | omega | (simp; done) | (simp; omega)) _))
theorem ryears_any (y m d n : Int) (w : World) :
    Calls Try.prog 27 #[.agg #[.int .i64 y, .int .i64 m, .int .i64 d], .int .i64 n] w fun e w' => e = .returned (.tuple #[.agg #[.int .i64 (Cal.orz (Mo.mok y m d (n * 12)) (Mo.mY y m (n * 12))), .int .i64 (Cal.orz (Mo.mok y m d (n * 12)) (Mo.mM y m (n * 12))), .int .i64 (Cal.orz (Mo.mok y m d (n * 12)) (Mo.mD y m d (n * 12)))], .int .i64 (Cal.why (Mo.mok y m d (n * 12)))]) ∧ Below w.heap.size w w' := by
  by_cases h : n < -100000 ∨ 100000 < n
  · have e : Mo.mok y m d (n * 12) = false := by
      cases hk : Mo.mok y m d (n * 12)
      · rfl
      · have := Mo.mok_less hk; omega
    rw [e]; exact ryears_over y m d n w h
  · rw [Int.mul_comm n 12]; exact ryears_in y m d n w (by omega) (by omega)

set_option maxHeartbeats 1000000 in
theorem rmdays_no (y m d n : Int) (w : World) (h : rightB y m d = false) :
    Calls Try.prog 29 #[.agg #[.int .i64 y, .int .i64 m, .int .i64 d], .int .i64 n] w fun e w' => e = .returned (.tuple #[.agg #[.int .i64 0, .int .i64 0, .int .i64 0], .int .i64 1]) ∧ Below w.heap.size w w' := by
  have H := Lib.hid h; clear h
  go_enter Try.func29, Try.ntmps29
  go_wp2_with fail
  refine (rdays_no y m d _ H.out).mono ?_; rintro e w1 ⟨rfl, b1⟩
  have d1 : Below w.heap.size w w1 := below_step (by repeat (first | exact Below.refl _ _ | refine below_drewN ?_ _ | refine Below.drew ?_ | refine Below.setCell ?_ (by simp) _ | refine Below.alloc ?_ (by simp) _)) b1
  have B1 := Lib.hid d1
  have D1 : Bk3 w1 (w.heap.size) (.int .i64 y) (.int .i64 m) (.int .i64 d) := Bk3.of b1 (by simp <;> omega) (by intro j; simp [go_sem]) (by simp [go_sem]) (by simp [go_sem]) (by simp [go_sem])
  have R1 : Bk3 w1 (w.heap.size + 1) (.int .i64 0) (.int .i64 0) (.int .i64 0) := Bk3.of b1 (by simp <;> omega) (by intro j; simp [go_sem]) (by simp [go_sem]) (by simp [go_sem]) (by simp [go_sem])
  clear b1 d1
  have cD_b := D1.hb
  have cD_f := D1.fz
  have cD_0 := D1.k0
  have cD_1 := D1.k1
  have cD_2 := D1.k2
  have cR_b := R1.hb
  have cR_f := R1.fz
  have cR_0 := R1.k0
  have cR_1 := R1.k1
  have cR_2 := R1.k2
  go_wp2_with fail
  refine bodyPost_ret (v := .tuple #[.agg #[.int .i64 0, .int .i64 0, .int .i64 0], .int .i64 1]) (by simp [results, Try.results29, go_sem, cD_b, cD_f, cD_0, cD_1, cD_2, cR_b, cR_f, cR_0, cR_1, cR_2]) rfl ⟨rfl, ?_⟩
  clear cD_b cD_f cD_0 cD_1 cD_2 cR_b cR_f cR_0 cR_1 cR_2
  exact (by have hz := B1.out.size; repeat (first | exact B1.out | refine below_drewN ?_ _ | refine Below.drew ?_ | refine Below.setCell ?_ (by first | omega | (simp; done) | (simp; omega)) _ | refine Below.alloc ?_ (by first | omega | (simp; done) | (simp; omega)) _))
set_option maxHeartbeats 1000000 in
theorem rmdays_over (y m d n : Int) (w : World) (h : rightB y m d = true) (hn : n < -100000000 ∨ 100000000 < n) :
    Calls Try.prog 29 #[.agg #[.int .i64 y, .int .i64 m, .int .i64 d], .int .i64 n] w fun e w' => e = .returned (.tuple #[.agg #[.int .i64 0, .int .i64 0, .int .i64 0], .int .i64 1]) ∧ Below w.heap.size w w' := by
  have H := Lib.hid h; clear h
  have h' : 100000000 < n ∨ (¬ 100000000 < n ∧ n < -100000000) := by omega
  clear hn
  rcases h' with h1 | ⟨h1, h2⟩
  all_goals
    go_enter Try.func29, Try.ntmps29
    go_wp2_with fail
    refine (rdays_yes y m d _ H.out).mono ?_; rintro e w1 ⟨rfl, b1⟩
    have d1 : Below w.heap.size w w1 := below_step (by repeat (first | exact Below.refl _ _ | refine below_drewN ?_ _ | refine Below.drew ?_ | refine Below.setCell ?_ (by simp) _ | refine Below.alloc ?_ (by simp) _)) b1
    have B1 := Lib.hid d1
    have D1 : Bk3 w1 (w.heap.size) (.int .i64 y) (.int .i64 m) (.int .i64 d) := Bk3.of b1 (by simp <;> omega) (by intro j; simp [go_sem]) (by simp [go_sem]) (by simp [go_sem]) (by simp [go_sem])
    have R1 : Bk3 w1 (w.heap.size + 1) (.int .i64 0) (.int .i64 0) (.int .i64 0) := Bk3.of b1 (by simp <;> omega) (by intro j; simp [go_sem]) (by simp [go_sem]) (by simp [go_sem]) (by simp [go_sem])
    clear b1 d1
    have cD_b := D1.hb
    have cD_f := D1.fz
    have cD_0 := D1.k0
    have cD_1 := D1.k1
    have cD_2 := D1.k2
    have cR_b := R1.hb
    have cR_f := R1.fz
    have cR_0 := R1.k0
    have cR_1 := R1.k1
    have cR_2 := R1.k2
    go_wp2_with fail
    refine bodyPost_ret (v := .tuple #[.agg #[.int .i64 0, .int .i64 0, .int .i64 0], .int .i64 1]) (by simp [results, Try.results29, go_sem, cD_b, cD_f, cD_0, cD_1, cD_2, cR_b, cR_f, cR_0, cR_1, cR_2]) rfl ⟨rfl, ?_⟩
    clear cD_b cD_f cD_0 cD_1 cD_2 cR_b cR_f cR_0 cR_1 cR_2
    exact (by have hz := B1.out.size; repeat (first | exact B1.out | refine below_drewN ?_ _ | refine Below.drew ?_ | refine Below.setCell ?_ (by first | omega | (simp; done) | (simp; omega)) _ | refine Below.alloc ?_ (by first | omega | (simp; done) | (simp; omega)) _))
theorem rdate_any (n : Int) (w : World) :
    Calls Try.prog 58 #[.int .i64 n] w fun e w' => e = .returned (.tuple #[.agg #[.int .i64 (Cal.orz (Cal.hasD n) (Cal.dY n)), .int .i64 (Cal.orz (Cal.hasD n) (Cal.dM n)), .int .i64 (Cal.orz (Cal.hasD n) (Cal.dD n))], .int .i64 (Cal.why (Cal.hasD n))]) ∧ Below w.heap.size w w' := by
  cases h : Cal.hasD n
  · refine rdate_no n w ?_
    by_cases hh : -15329228 ≤ n ∧ n ≤ 13890537
    · rw [Cal.hasD_true.2 hh] at h; cases h
    · omega
  · have := Cal.hasD_true.1 h
    exact rdate_yes n w this.1 this.2
set_option maxHeartbeats 1000000 in
theorem rmdays_in (y m d n : Int) (w : World) (h : rightB y m d = true) (h1 : ¬ 100000000 < n) (h2 : ¬ n < -100000000) :
    Calls Try.prog 29 #[.agg #[.int .i64 y, .int .i64 m, .int .i64 d], .int .i64 n] w fun e w' => e = .returned (.tuple #[.agg #[.int .i64 (Cal.orz (Cal.hasD (Cal.num y m d + n)) (Cal.dY (Cal.num y m d + n))), .int .i64 (Cal.orz (Cal.hasD (Cal.num y m d + n)) (Cal.dM (Cal.num y m d + n))), .int .i64 (Cal.orz (Cal.hasD (Cal.num y m d + n)) (Cal.dD (Cal.num y m d + n)))], .int .i64 (Cal.why (Cal.hasD (Cal.num y m d + n)))]) ∧ Below w.heap.size w w' := by
  obtain ⟨r0, r1⟩ := Cal.num_range (right_true.1 h)
  have H := Lib.hid h
  clear h
  go_enter Try.func29, Try.ntmps29
  go_wp2_with fail
  refine (rdays_yes y m d _ H.out).mono ?_; rintro e w1 ⟨rfl, b1⟩
  have d1 : Below w.heap.size w w1 := below_step (by repeat (first | exact Below.refl _ _ | refine below_drewN ?_ _ | refine Below.drew ?_ | refine Below.setCell ?_ (by simp) _ | refine Below.alloc ?_ (by simp) _)) b1
  have B1 := Lib.hid d1
  have D1 : Bk3 w1 (w.heap.size) (.int .i64 y) (.int .i64 m) (.int .i64 d) := Bk3.of b1 (by simp <;> omega) (by intro j; simp [go_sem]) (by simp [go_sem]) (by simp [go_sem]) (by simp [go_sem])
  have R1 : Bk3 w1 (w.heap.size + 1) (.int .i64 0) (.int .i64 0) (.int .i64 0) := Bk3.of b1 (by simp <;> omega) (by intro j; simp [go_sem]) (by simp [go_sem]) (by simp [go_sem]) (by simp [go_sem])
  clear b1 d1
  have cD_b := D1.hb
  have cD_f := D1.fz
  have cD_0 := D1.k0
  have cD_1 := D1.k1
  have cD_2 := D1.k2
  have cR_b := R1.hb
  have cR_f := R1.fz
  have cR_0 := R1.k0
  have cR_1 := R1.k1
  have cR_2 := R1.k2
  go_wp2_with fail
  clear cD_b cD_f cD_0 cD_1 cD_2 cR_b cR_f cR_0 cR_1 cR_2
  refine (rdate_any (Cal.num y m d + n) _).mono ?_; rintro e w2 ⟨rfl, b2⟩
  have d2 : Below w1.heap.size w1 w2 := below_step (by repeat (first | exact Below.refl _ _ | refine below_drewN ?_ _ | refine Below.drew ?_ | refine Below.setCell ?_ (by simp) _ | refine Below.alloc ?_ (by simp) _)) b2
  have B2 := Lib.hid (below_step B1.out d2)
  have D2 := D1.keep d2
  have R2 := R1.keep d2
  clear D1 R1 b2 d2 B1
  have cD_b := D2.hb
  have cD_f := D2.fz
  have cD_0 := D2.k0
  have cD_1 := D2.k1
  have cD_2 := D2.k2
  have cR_b := R2.hb
  have cR_f := R2.fz
  have cR_0 := R2.k0
  have cR_1 := R2.k1
  have cR_2 := R2.k2
  go_wp2_with fail
  refine bodyPost_ret (v := .tuple #[.agg #[.int .i64 (Cal.orz (Cal.hasD (Cal.num y m d + n)) (Cal.dY (Cal.num y m d + n))), .int .i64 (Cal.orz (Cal.hasD (Cal.num y m d + n)) (Cal.dM (Cal.num y m d + n))), .int .i64 (Cal.orz (Cal.hasD (Cal.num y m d + n)) (Cal.dD (Cal.num y m d + n)))], .int .i64 (Cal.why (Cal.hasD (Cal.num y m d + n)))]) (by simp [results, Try.results29, go_sem, cD_b, cD_f, cD_0, cD_1, cD_2, cR_b, cR_f, cR_0, cR_1, cR_2]) rfl ⟨rfl, ?_⟩
  clear cD_b cD_f cD_0 cD_1 cD_2 cR_b cR_f cR_0 cR_1 cR_2
  exact (by have hz := B2.out.size; repeat (first | exact B2.out | refine below_drewN ?_ _ | refine Below.drew ?_ | refine Below.setCell ?_ (by first | omega | (simp; done) | (simp; omega)) _ | refine Below.alloc ?_ (by first | omega | (simp; done) | (simp; omega)) _))
theorem rmdays_any (y m d n : Int) (w : World) :
    Calls Try.prog 29 #[.agg #[.int .i64 y, .int .i64 m, .int .i64 d], .int .i64 n] w fun e w' => e = .returned (.tuple #[.agg #[.int .i64 (Cal.orz (Mo.dok y m d n) (Cal.dY (Cal.num y m d + n))), .int .i64 (Cal.orz (Mo.dok y m d n) (Cal.dM (Cal.num y m d + n))), .int .i64 (Cal.orz (Mo.dok y m d n) (Cal.dD (Cal.num y m d + n)))], .int .i64 (Cal.why (Mo.dok y m d n))]) ∧ Below w.heap.size w w' := by
  cases h : rightB y m d
  · have e : Mo.dok y m d n = false := by unfold Mo.dok; rw [h]; rfl
    rw [e]; exact rmdays_no y m d n w h
  · by_cases ho : n < -100000000 ∨ 100000000 < n
    · have e : Mo.dok y m d n = false := by
        cases hk : Mo.dok y m d n
        · rfl
        · have := Mo.dok_less hk; omega
      rw [e]; exact rmdays_over y m d n w h ho
    · have e : Mo.dok y m d n = Cal.hasD (Cal.num y m d + n) := by unfold Mo.dok; rw [h]; rfl
      rw [e]; exact rmdays_in y m d n w h (by omega) (by omega)
end Go.Proofs.Ytlehbnfocilcmab

