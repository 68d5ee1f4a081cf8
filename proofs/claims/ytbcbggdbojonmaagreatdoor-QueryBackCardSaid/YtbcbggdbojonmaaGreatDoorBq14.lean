/- Joined: StO. -/
import Derived.Test.YtbcbggdbojonmaaGreatDoorBq01
import Derived.Test.YtbcbggdbojonmaaGreatDoorBq11
set_option linter.unusedVariables false
set_option linter.unusedSimpArgs false
namespace Go.Proofs.YtbcbggdbojonmaaGreatDoor
open Go.RowKit Go.Sort
theorem sdiv_b (a b : Int) (w : World) (ha : -9223372036854775808 ≤ a) (ha' : a ≤ 9223372036854775807) (hb : 1 ≤ b) (hb' : b ≤ 1000000) :
  Calls Tryz.prog 63 #[.int .i64 a, .int .i64 b] w fun e w' => e = .returned (.tuple #[.int .i64 (a / b), .int .i64 (a % b), .int .i64 0]) ∧ Below w.heap.size w w' :=
 (div_pos a b w ha ha' hb hb').mono fun _ _ ⟨h, n, e⟩ => ⟨h, by rw [e]; exact below_draw _ _⟩
set_option maxHeartbeats 1000000 in
theorem split_any (t : Int) (w : World) (t0 : -9223372036854775808 ≤ t) (t1 : t ≤ 9223372036854775807) :
  Calls Tryz.prog 35 #[.int .i64 t] w fun e w' => e = .returned (.tuple #[.int .i64 (t / 86400), .int .i64 (t % 86400)]) ∧ Below w.heap.size w w' := by
 have C : Hid (∀ w, Calls Tryz.prog 63 #[.int .i64 t, .int .i64 86400] w fun e w' => e = .returned (.tuple #[.int .i64 (t / 86400), .int .i64 (t % 86400), .int .i64 0]) ∧ Below w.heap.size w w') := fun w => sdiv_b t 86400 w t0 t1 (by omega) (by omega)
 generalize t / 86400 = q at C ⊢
 generalize t % 86400 = r at C ⊢
 clear t0 t1
 go_enter Tryz.func35, Tryz.ntmps35
 go_wp2_with fail
 refine (C.out _).mono ?_; rintro e w1 ⟨rfl, b1⟩
 have d1 : Below w.heap.size w w1 := below_step gr0 b1
 have B1 := Lib.hid d1
 clear b1 d1
 go_wp2_with fail
 go_ret2
 exact ⟨rfl, (grB B1)⟩
set_option maxHeartbeats 2000000 in
theorem sof_no (t : Int) (w : World) (t0 : -9223372036854775808 ≤ t) (t1 : t ≤ 9223372036854775807) (h : Cal.hasD (t / 86400) = false) :
  Calls Tryz.prog 12 #[.int .i64 t] w fun e w' => e = .returned (.tuple #[.agg #[.int .i64 0, .int .i64 0, .int .i64 0, .int .i64 0, .int .i64 0, .int .i64 0], .int .i64 1]) ∧ Below w.heap.size w w' := by
 have C := Lib.hid (fun w => split_any t w t0 t1)
 have D : Hid (∀ w, Calls Tryz.prog 36 #[.int .i64 (t / 86400)] w fun e w' => e = .returned (.tuple #[.agg #[.int .i64 0, .int .i64 0, .int .i64 0], .int .i64 1]) ∧ Below w.heap.size w w') := fun w => by
  have := date_any (t / 86400) w; rw [h] at this; exact this
 generalize t / 86400 = q at C D
 generalize t % 86400 = r at C
 clear h
 go_enter Tryz.func12, Tryz.ntmps12
 go_wp2_with fail
 refine (C.out _).mono ?_; rintro e w1 ⟨rfl, b1⟩
 have d1 : Below w.heap.size w w1 := below_step gr0 b1
 have B1 := Lib.hid d1
 have R1 : Bk6 w1 (w.heap.size) (.int .i64 0) (.int .i64 0) (.int .i64 0) (.int .i64 0) (.int .i64 0) (.int .i64 0) := by refine Bk6.of b1 (by simp <;> omega) (by intro j; simp [go_sem]) ?_ ?_ ?_ ?_ ?_ ?_ <;> simp [go_sem]
 clear b1 d1
 have tx := R1; obtain ⟨cR_b, cR_f, cR_0, cR_1, cR_2, cR_3, cR_4, cR_5⟩ := tx
 go_wp2_with fail
 clear cR_b cR_f cR_0 cR_1 cR_2 cR_3 cR_4 cR_5
 refine (D.out _).mono ?_; rintro e w2 ⟨rfl, b2⟩
 have d2 : Below w1.heap.size w1 w2 := below_step gr0 b2
 have B2 := Lib.hid (below_step B1.out d2)
 have R2 := R1.keep d2
 clear R1 b2 d2 B1
 have tx := R2; obtain ⟨cR_b, cR_f, cR_0, cR_1, cR_2, cR_3, cR_4, cR_5⟩ := tx
 go_upto_region 4 with (fail)
 clear cR_b cR_f cR_0 cR_1 cR_2 cR_3 cR_4 cR_5
 refine wp_named ?_; intro w3 hw3
 have d3 : Below w2.heap.size w2 w3 := by rw [hw3]; exact gr0
 have B3 := Lib.hid (below_step B2.out d3)
 have R3 := R2.keep d3
 clear R2 d3 hw3 B2
 have tx := R3; obtain ⟨cR_b, cR_f, cR_0, cR_1, cR_2, cR_3, cR_4, cR_5⟩ := tx
 go_wp2_with fail
 refine bodyPost_ret (v := .tuple #[.agg #[.int .i64 0, .int .i64 0, .int .i64 0, .int .i64 0, .int .i64 0, .int .i64 0], .int .i64 1]) (by simp [results, Tryz.results12, go_sem, cR_b, cR_f, cR_0, cR_1, cR_2, cR_3, cR_4, cR_5]) rfl ⟨rfl, ?_⟩
 clear cR_b cR_f cR_0 cR_1 cR_2 cR_3 cR_4 cR_5
 have hz := B3.out.size
 iterate 6 (refine Below.setCell ?_ (by first | omega | (simp; done) | (simp; omega)) _)
 exact B3.out
set_option maxHeartbeats 2000000 in
theorem sof_yes (t : Int) (w : World) (t0 : -9223372036854775808 ≤ t) (t1 : t ≤ 9223372036854775807) (h : Cal.hasD (t / 86400) = true) :
  Calls Tryz.prog 12 #[.int .i64 t] w fun e w' => e = .returned (.tuple #[.agg #[.int .i64 (Cal.dY (t / 86400)), .int .i64 (Cal.dM (t / 86400)), .int .i64 (Cal.dD (t / 86400)), .int .i64 (t % 86400 / 3600), .int .i64 (t % 86400 / 60 % 60), .int .i64 (t % 86400 % 60)], .int .i64 0]) ∧ Below w.heap.size w w' := by
 have C := Lib.hid (fun w => split_any t w t0 t1)
 have D : Hid (∀ w, Calls Tryz.prog 36 #[.int .i64 (t / 86400)] w fun e w' => e = .returned (.tuple #[.agg #[.int .i64 (Cal.dY (t / 86400)), .int .i64 (Cal.dM (t / 86400)), .int .i64 (Cal.dD (t / 86400))], .int .i64 0]) ∧ Below w.heap.size w w') := fun w => by
  have := date_any (t / 86400) w; rw [h] at this; exact this
 have r0 : 0 ≤ t % 86400 := by omega
 have r1 : t % 86400 < 86400 := by omega
 generalize Cal.dY (t / 86400) = a at D ⊢
 generalize Cal.dM (t / 86400) = b at D ⊢
 generalize Cal.dD (t / 86400) = c at D ⊢
 generalize t / 86400 = q at C D
 generalize t % 86400 = r at C r0 r1 ⊢
 clear h t0 t1
 go_enter Tryz.func12, Tryz.ntmps12
 go_wp2_with fail
 refine (C.out _).mono ?_; rintro e w1 ⟨rfl, b1⟩
 have d1 : Below w.heap.size w w1 := below_step gr0 b1
 have B1 := Lib.hid d1
 have R1 : Bk6 w1 (w.heap.size) (.int .i64 0) (.int .i64 0) (.int .i64 0) (.int .i64 0) (.int .i64 0) (.int .i64 0) := by refine Bk6.of b1 (by simp <;> omega) (by intro j; simp [go_sem]) ?_ ?_ ?_ ?_ ?_ ?_ <;> simp [go_sem]
 clear b1 d1
 have tx := R1; obtain ⟨cR_b, cR_f, cR_0, cR_1, cR_2, cR_3, cR_4, cR_5⟩ := tx
 go_wp2_with fail
 clear cR_b cR_f cR_0 cR_1 cR_2 cR_3 cR_4 cR_5
 refine (D.out _).mono ?_; rintro e w2 ⟨rfl, b2⟩
 have d2 : Below w1.heap.size w1 w2 := below_step gr0 b2
 have B2 := Lib.hid (below_step B1.out d2)
 have R2 := R1.keep d2
 clear R1 b2 d2 B1
 have tx := R2; obtain ⟨cR_b, cR_f, cR_0, cR_1, cR_2, cR_3, cR_4, cR_5⟩ := tx
 go_upto_region 6 with (fail)
 clear cR_b cR_f cR_0 cR_1 cR_2 cR_3 cR_4 cR_5
 refine wp_named ?_; intro w3 hw3
 have d3 : Below w2.heap.size w2 w3 := by rw [hw3]; exact gr0
 have B3 := Lib.hid (below_step B2.out d3)
 have R3 := R2.keep d3
 have aX := B2.out.size
 have nXR := Nat.ne_of_lt R2.hb
 have oXR := Nat.ne_of_gt R2.hb
 have X3 : Bk3 w3 (w2.heap.size) (.int .i64 a) (.int .i64 b) (.int .i64 c) := by rw [hw3]; exact ⟨by simp <;> omega, by intro j; simp [go_sem], by simp [go_sem], by simp [go_sem], by simp [go_sem]⟩
 clear R2 d3 hw3 B2
 have tx := R3; obtain ⟨cR_b, cR_f, cR_0, cR_1, cR_2, cR_3, cR_4, cR_5⟩ := tx
 have tx := X3; obtain ⟨cX_b, cX_f, cX_0, cX_1, cX_2⟩ := tx
 go_wp2_with fail
 refine bodyPost_ret (v := .tuple #[.agg #[.int .i64 a, .int .i64 b, .int .i64 c, .int .i64 (r / 3600), .int .i64 (r / 60 % 60), .int .i64 (r % 60)], .int .i64 0]) (by simp [results, Tryz.results12, go_sem, cR_b, cR_f, cR_0, cR_1, cR_2, cR_3, cR_4, cR_5, cX_b, cX_f, cX_0, cX_1, cX_2]) rfl ⟨rfl, ?_⟩
 clear cR_b cR_f cR_0 cR_1 cR_2 cR_3 cR_4 cR_5 cX_b cX_f cX_0 cX_1 cX_2
 have hz := B3.out.size
 iterate 6 (refine Below.setCell ?_ (by first | omega | (simp; done) | (simp; omega)) _)
 exact B3.out
end Go.Proofs.YtbcbggdbojonmaaGreatDoor
