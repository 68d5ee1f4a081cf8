/- Joined: StO, StI. -/
import Derived.Test.YtifgiclnofdnkaaGreatDoorBy01
import Derived.Test.YtifgiclnofdnkaaGreatDoorBy15
import Derived.Test.YtifgiclnofdnkaaGreatDoorBy19
set_option linter.unusedVariables false
set_option linter.unusedSimpArgs false
namespace Go.Proofs.YtifgiclnofdnkaaGreatDoor
open Go.RowKit Go.Sort
theorem sdiv_b (a b : Int) (w : World) (ha : -9223372036854775808 ≤ a) (ha' : a ≤ 9223372036854775807) (hb : 1 ≤ b) (hb' : b ≤ 1000000) :
  Calls Tryz.prog 71 #[.int .i64 a, .int .i64 b] w fun e w' => e = .returned (.tuple #[.int .i64 (a / b), .int .i64 (a % b), .int .i64 0]) ∧ Below w.heap.size w w' :=
 (div_pos a b w ha ha' hb hb').mono fun _ _ ⟨h, n, e⟩ => ⟨h, by rw [e]; exact below_draw _ _⟩
set_option maxHeartbeats 1000000 in
theorem split_any (t : Int) (w : World) (t0 : -9223372036854775808 ≤ t) (t1 : t ≤ 9223372036854775807) :
  Calls Tryz.prog 42 #[.int .i64 t] w fun e w' => e = .returned (.tuple #[.int .i64 (t / 86400), .int .i64 (t % 86400)]) ∧ Below w.heap.size w w' := by
 have C : Hid (∀ w, Calls Tryz.prog 71 #[.int .i64 t, .int .i64 86400] w fun e w' => e = .returned (.tuple #[.int .i64 (t / 86400), .int .i64 (t % 86400), .int .i64 0]) ∧ Below w.heap.size w w') := fun w => sdiv_b t 86400 w t0 t1 (by omega) (by omega)
 generalize t / 86400 = q at C ⊢
 generalize t % 86400 = r at C ⊢
 clear t0 t1
 go_enter Tryz.func42, Tryz.ntmps42
 go_wp2_with fail
 refine (C.out _).mono ?_; rintro e w1 ⟨rfl, b1⟩
 have d1 : Below w.heap.size w w1 := below_step gr0 b1
 have B1 := Lib.hid d1
 clear b1 d1
 go_wp2_with fail
 go_ret2
 exact ⟨rfl, (grB B1)⟩
set_option maxHeartbeats 2000000 in
theorem sof_yes (t : Int) (w : World) (t0 : -9223372036854775808 ≤ t) (t1 : t ≤ 9223372036854775807) (h : Cal.hasD (t / 86400) = true) :
  Calls Tryz.prog 23 #[.int .i64 t] w fun e w' => e = .returned (.tuple #[.agg #[.int .i64 (Cal.dY (t / 86400)), .int .i64 (Cal.dM (t / 86400)), .int .i64 (Cal.dD (t / 86400)), .int .i64 (t % 86400 / 3600), .int .i64 (t % 86400 / 60 % 60), .int .i64 (t % 86400 % 60)], .int .i64 0]) ∧ Below w.heap.size w w' := by
 have C := Lib.hid (fun w => split_any t w t0 t1)
 have D : Hid (∀ w, Calls Tryz.prog 43 #[.int .i64 (t / 86400)] w fun e w' => e = .returned (.tuple #[.agg #[.int .i64 (Cal.dY (t / 86400)), .int .i64 (Cal.dM (t / 86400)), .int .i64 (Cal.dD (t / 86400))], .int .i64 0]) ∧ Below w.heap.size w w') := fun w => by
  have := date_any (t / 86400) w; rw [h] at this; exact this
 have r0 : 0 ≤ t % 86400 := by omega
 have r1 : t % 86400 < 86400 := by omega
 generalize Cal.dY (t / 86400) = a at D ⊢
 generalize Cal.dM (t / 86400) = b at D ⊢
 generalize Cal.dD (t / 86400) = c at D ⊢
 generalize t / 86400 = q at C D
 generalize t % 86400 = r at C r0 r1 ⊢
 clear h t0 t1
 go_enter Tryz.func23, Tryz.ntmps23
 go_wp2_with fail
 refine (C.out _).mono ?_; rintro e w1 ⟨rfl, b1⟩
 have d1 : Below w.heap.size w w1 := below_step gr0 b1
 have B1 := Lib.hid d1
 have R1 : Bk6 w1 (w.heap.size) (.int .i64 0) (.int .i64 0) (.int .i64 0) (.int .i64 0) (.int .i64 0) (.int .i64 0) := by refine Bk6.of b1 (by simp <;> omega) (by intro j; simp [go_sem]) ?_ ?_ ?_ ?_ ?_ ?_ <;> simp [go_sem]
 clear b1 d1
 have tx := R1; obtain ⟨cR_b, cR_f, cR_0, cR_1, cR_2, cR_3, cR_4, cR_5⟩ := tx
 go_wp2_with fail
 clear cR_b cR_f cR_0 cR_1 cR_2 cR_3 cR_4 cR_5
 refine (D.out _).mono ?_; rintro e w2 ⟨rfl, b2⟩
 have d2 : Below w1.heap.size w1 w2 := below_step gr0 b2
 have B2 := Lib.hid (below_step B1.out d2)
 have R2 := R1.keep d2
 clear R1 b2 d2 B1
 have tx := R2; obtain ⟨cR_b, cR_f, cR_0, cR_1, cR_2, cR_3, cR_4, cR_5⟩ := tx
 go_upto_region 6 with (fail)
 clear cR_b cR_f cR_0 cR_1 cR_2 cR_3 cR_4 cR_5
 refine wp_named ?_; intro w3 hw3
 have d3 : Below w2.heap.size w2 w3 := by rw [hw3]; exact gr0
 have B3 := Lib.hid (below_step B2.out d3)
 have R3 := R2.keep d3
 have aX := B2.out.size
 have nXR := Nat.ne_of_lt R2.hb
 have oXR := Nat.ne_of_gt R2.hb
 have X3 : Bk3 w3 (w2.heap.size) (.int .i64 a) (.int .i64 b) (.int .i64 c) := by rw [hw3]; exact ⟨by simp <;> omega, by intro j; simp [go_sem], by simp [go_sem], by simp [go_sem], by simp [go_sem]⟩
 clear R2 d3 hw3 B2
 have tx := R3; obtain ⟨cR_b, cR_f, cR_0, cR_1, cR_2, cR_3, cR_4, cR_5⟩ := tx
 have tx := X3; obtain ⟨cX_b, cX_f, cX_0, cX_1, cX_2⟩ := tx
 go_wp2_with fail
 refine bodyPost_ret (v := .tuple #[.agg #[.int .i64 a, .int .i64 b, .int .i64 c, .int .i64 (r / 3600), .int .i64 (r / 60 % 60), .int .i64 (r % 60)], .int .i64 0]) (by simp [results, Tryz.results23, go_sem, cR_b, cR_f, cR_0, cR_1, cR_2, cR_3, cR_4, cR_5, cX_b, cX_f, cX_0, cX_1, cX_2]) rfl ⟨rfl, ?_⟩
 clear cR_b cR_f cR_0 cR_1 cR_2 cR_3 cR_4 cR_5 cX_b cX_f cX_0 cX_1 cX_2
 have hz := B3.out.size
 iterate 6 (refine Below.setCell ?_ (by first | omega | (simp; done) | (simp; omega)) _)
 exact B3.out
theorem hd_bytes (s : ByteArray) (h : 15 ≤ s.size) : ∃ H T : ByteArray, s.extract 0 (s.size - 15) = H ∧ s.extract (s.size - 15) s.size = T ∧ H.data.toList = Rd.hd s.data.toList ∧ T.data.toList = Rd.tl s.data.toList ∧ T.size = 15 ∧ H.size ≤ s.size := by
 refine ⟨_, _, rfl, rfl, ?_, ?_, ?_, ?_⟩
 ·
  rw [ext_list]
  unfold Rd.hd
  rw [bl_len]; rfl
 ·
  rw [ext_list]
  unfold Rd.tl
  rw [bl_len, List.take_of_length_le (by rw [bl_len]; omega)]
 ·
  rw [ByteArray.size_extract]; omega
 ·
  rw [ByteArray.size_extract]; omega
set_option maxHeartbeats 4000000 in
set_option maxRecDepth 100000 in
theorem sread_short (s : ByteArray) (w : World) (hs : s.size < 15) :
  Calls Tryz.prog 64 #[.string s] w fun e w' => e = .returned (.tuple #[.agg #[.int .i64 0, .int .i64 0, .int .i64 0, .int .i64 0, .int .i64 0, .int .i64 0], .int .i64 4]) ∧ Below w.heap.size w w' := by
 have h1 : (s.size : Int) - 15 < 0 := by omega
 clear hs
 go_enter Tryz.func64, Tryz.ntmps64
 go_upto_region 3 with (fail)
 refine wp_named ?_; intro w1 hw1
 have d1 : Below w.heap.size w w1 := by rw [hw1]; exact gr0
 have B1 := Lib.hid d1
 have R1 : Bk6 w1 (w.heap.size) (.int .i64 0) (.int .i64 0) (.int .i64 0) (.int .i64 0) (.int .i64 0) (.int .i64 0) := by rw [hw1]; exact ⟨by simp <;> omega, by intro j; simp [go_sem], by simp [go_sem], by simp [go_sem], by simp [go_sem], by simp [go_sem], by simp [go_sem], by simp [go_sem]⟩
 clear d1 hw1
 have tx := R1; obtain ⟨cR_b, cR_f, cR_0, cR_1, cR_2, cR_3, cR_4, cR_5⟩ := tx
 go_wp2_with fail
 refine bodyPost_ret (v := .tuple #[.agg #[.int .i64 0, .int .i64 0, .int .i64 0, .int .i64 0, .int .i64 0, .int .i64 0], .int .i64 4]) (by simp [results, Tryz.results64, go_sem, cR_b, cR_f, cR_0, cR_1, cR_2, cR_3, cR_4, cR_5]) rfl ⟨rfl, ?_⟩
 clear cR_b cR_f cR_0 cR_1 cR_2 cR_3 cR_4 cR_5
 have hz := B1.out.size
 iterate 6 (refine Below.setCell ?_ (by first | omega | (simp; done) | (simp; omega)) _)
 exact B1.out
set_option maxHeartbeats 4000000 in
set_option maxRecDepth 100000 in
theorem sread_noyear (s : ByteArray) (w : World) (hs : s.size ≤ maxLen) (h15 : 15 ≤ s.size) (hy : Rd.isY (Rd.hd s.data.toList) = false) :
  Calls Tryz.prog 64 #[.string s] w fun e w' => e = .returned (.tuple #[.agg #[.int .i64 0, .int .i64 0, .int .i64 0, .int .i64 0, .int .i64 0, .int .i64 0], .int .i64 4]) ∧ Below w.heap.size w w' := by
 obtain ⟨H, T, eH, eT, lH, lT, tz, hz⟩ := hd_bytes s h15
 have HH : H.size ≤ maxLen := Nat.le_trans hz hs
 have h1 : ¬ (s.size : Int) - 15 < 0 := by omega
 have h2 : 0 ≤ (s.size : Int) - 15 := by omega
 have h3 : (s.size : Int) - 15 ≤ (s.size : Int) := by omega
 have h4 : (s.size : Int) ≤ 9223372036854775807 := by unfold maxLen at hs; omega
 have CY : Hid (∀ W, Calls Tryz.prog 92 #[.string (s.extract 0 (s.size - 15))] W fun e w' => e = .returned (.bool false) ∧ W = w') := fun W => by
  have := isyear_any H W HH
  rw [lH, hy, ← eH] at this
  exact this
 clear hs h15 hy eH eT lH lT tz hz HH
 go_enter Tryz.func64, Tryz.ntmps64
 go_wp2_with fail
 refine (CY.out _).mono ?_; rintro e v1 ⟨rfl, rfl⟩
 go_upto_region 3 with (fail)
 refine wp_named ?_; intro w1 hw1
 have d1 : Below w.heap.size w w1 := by rw [hw1]; exact gr0
 have B1 := Lib.hid d1
 have R1 : Bk6 w1 (w.heap.size) (.int .i64 0) (.int .i64 0) (.int .i64 0) (.int .i64 0) (.int .i64 0) (.int .i64 0) := by rw [hw1]; exact ⟨by simp <;> omega, by intro j; simp [go_sem], by simp [go_sem], by simp [go_sem], by simp [go_sem], by simp [go_sem], by simp [go_sem], by simp [go_sem]⟩
 clear d1 hw1
 have tx := R1; obtain ⟨cR_b, cR_f, cR_0, cR_1, cR_2, cR_3, cR_4, cR_5⟩ := tx
 go_wp2_with fail
 refine bodyPost_ret (v := .tuple #[.agg #[.int .i64 0, .int .i64 0, .int .i64 0, .int .i64 0, .int .i64 0, .int .i64 0], .int .i64 4]) (by simp [results, Tryz.results64, go_sem, cR_b, cR_f, cR_0, cR_1, cR_2, cR_3, cR_4, cR_5]) rfl ⟨rfl, ?_⟩
 clear cR_b cR_f cR_0 cR_1 cR_2 cR_3 cR_4 cR_5
 have hz := B1.out.size
 iterate 6 (refine Below.setCell ?_ (by first | omega | (simp; done) | (simp; omega)) _)
 exact B1.out
set_option maxHeartbeats 4000000 in
set_option maxRecDepth 100000 in
theorem sread_nobeh (s : ByteArray) (w : World) (hs : s.size ≤ maxLen) (h15 : 15 ≤ s.size) (hy : Rd.isY (Rd.hd s.data.toList) = true) (hb : Rd.bOk (Rd.tl s.data.toList) = false) :
  Calls Tryz.prog 64 #[.string s] w fun e w' => e = .returned (.tuple #[.agg #[.int .i64 0, .int .i64 0, .int .i64 0, .int .i64 0, .int .i64 0, .int .i64 0], .int .i64 4]) ∧ Below w.heap.size w w' := by
 obtain ⟨H, T, eH, eT, lH, lT, tz, hz⟩ := hd_bytes s h15
 have HH : H.size ≤ maxLen := Nat.le_trans hz hs
 have h1 : ¬ (s.size : Int) - 15 < 0 := by omega
 have h2 : 0 ≤ (s.size : Int) - 15 := by omega
 have h3 : (s.size : Int) - 15 ≤ (s.size : Int) := by omega
 have h4 : (s.size : Int) ≤ 9223372036854775807 := by unfold maxLen at hs; omega
 have CY : Hid (∀ W, Calls Tryz.prog 92 #[.string (s.extract 0 (s.size - 15))] W fun e w' => e = .returned (.bool true) ∧ W = w') := fun W => by
  have := isyear_any H W HH
  rw [lH, hy, ← eH] at this
  exact this
 have CB : Hid (∀ W, Calls Tryz.prog 93 #[.string (s.extract (s.size - 15) s.size)] W fun e w' => e = .returned (.tuple #[.agg #[.int .i64 0, .int .i64 0, .int .i64 0, .int .i64 0, .int .i64 0], .bool false]) ∧ Below W.heap.size W w') := fun W => by
  have := rbeh_any T W tz
  rw [lT, ← eT] at this
  unfold Rd.vb at this
  rw [hb] at this
  exact this
 clear hs h15 hy hb eH eT lH lT tz hz HH
 go_enter Tryz.func64, Tryz.ntmps64
 go_wp2_with fail
 refine (CY.out _).mono ?_; rintro e v1 ⟨rfl, rfl⟩
 go_wp2_with fail
 refine (CB.out _).mono ?_; rintro e w1 ⟨rfl, b1⟩
 have d1 : Below w.heap.size w w1 := below_step gr0 b1
 have B1 := Lib.hid d1
 have R1 : Bk6 w1 (w.heap.size) (.int .i64 0) (.int .i64 0) (.int .i64 0) (.int .i64 0) (.int .i64 0) (.int .i64 0) := by refine Bk6.of b1 (by simp <;> omega) (by intro j; simp [go_sem]) ?_ ?_ ?_ ?_ ?_ ?_ <;> simp [go_sem]
 clear b1 d1
 have tx := R1; obtain ⟨cR_b, cR_f, cR_0, cR_1, cR_2, cR_3, cR_4, cR_5⟩ := tx
 go_upto_region 6 with (fail)
 clear cR_b cR_f cR_0 cR_1 cR_2 cR_3 cR_4 cR_5
 refine wp_named ?_; intro w2 hw2
 have d2 : Below w1.heap.size w1 w2 := by rw [hw2]; exact gr0
 have B2 := Lib.hid (below_step B1.out d2)
 have R2 := R1.keep d2
 have aU := B1.out.size
 have nUR := Nat.ne_of_lt R1.hb
 have oUR := Nat.ne_of_gt R1.hb
 have U2 : Bk5 w2 (w1.heap.size) (.int .i64 0) (.int .i64 0) (.int .i64 0) (.int .i64 0) (.int .i64 0) := by rw [hw2]; exact ⟨by simp <;> omega, by intro j; simp [go_sem], by simp [go_sem], by simp [go_sem], by simp [go_sem], by simp [go_sem], by simp [go_sem]⟩
 clear R1 d2 hw2 B1
 have tx := R2; obtain ⟨cR_b, cR_f, cR_0, cR_1, cR_2, cR_3, cR_4, cR_5⟩ := tx
 have tx := U2; obtain ⟨cU_b, cU_f, cU_0, cU_1, cU_2, cU_3, cU_4⟩ := tx
 go_wp2_with fail
 refine bodyPost_ret (v := .tuple #[.agg #[.int .i64 0, .int .i64 0, .int .i64 0, .int .i64 0, .int .i64 0, .int .i64 0], .int .i64 4]) (by simp [results, Tryz.results64, go_sem, cR_b, cR_f, cR_0, cR_1, cR_2, cR_3, cR_4, cR_5, cU_b, cU_f, cU_0, cU_1, cU_2, cU_3, cU_4]) rfl ⟨rfl, ?_⟩
 clear cR_b cR_f cR_0 cR_1 cR_2 cR_3 cR_4 cR_5 cU_b cU_f cU_0 cU_1 cU_2 cU_3 cU_4
 have hz := B2.out.size
 iterate 6 (refine Below.setCell ?_ (by first | omega | (simp; done) | (simp; omega)) _)
 exact B2.out
set_option maxHeartbeats 4000000 in
set_option maxRecDepth 100000 in
theorem sread_long (s : ByteArray) (w : World) (hs : s.size ≤ maxLen) (h15 : 15 ≤ s.size) (hy : Rd.isY (Rd.hd s.data.toList) = true) (hb : Rd.bOk (Rd.tl s.data.toList) = true) (hl : Rd.yl (Rd.hd s.data.toList) = false) :
  Calls Tryz.prog 64 #[.string s] w fun e w' => e = .returned (.tuple #[.agg #[.int .i64 0, .int .i64 0, .int .i64 0, .int .i64 0, .int .i64 0, .int .i64 0], .int .i64 1]) ∧ Below w.heap.size w w' := by
 obtain ⟨H, T, eH, eT, lH, lT, tz, hz⟩ := hd_bytes s h15
 have HH : H.size ≤ maxLen := Nat.le_trans hz hs
 have h1 : ¬ (s.size : Int) - 15 < 0 := by omega
 have h2 : 0 ≤ (s.size : Int) - 15 := by omega
 have h3 : (s.size : Int) - 15 ≤ (s.size : Int) := by omega
 have h4 : (s.size : Int) ≤ 9223372036854775807 := by unfold maxLen at hs; omega
 have CY : Hid (∀ W, Calls Tryz.prog 92 #[.string (s.extract 0 (s.size - 15))] W fun e w' => e = .returned (.bool true) ∧ W = w') := fun W => by
  have := isyear_any H W HH
  rw [lH, hy, ← eH] at this
  exact this
 have CB : Hid (∀ W, Calls Tryz.prog 93 #[.string (s.extract (s.size - 15) s.size)] W fun e w' => e = .returned (.tuple #[.agg #[.int .i64 (Rd.pV (Rd.tl s.data.toList) 0), .int .i64 (Rd.pV (Rd.tl s.data.toList) 1), .int .i64 (Rd.pV (Rd.tl s.data.toList) 2), .int .i64 (Rd.pV (Rd.tl s.data.toList) 3), .int .i64 (Rd.pV (Rd.tl s.data.toList) 4)], .bool true]) ∧ Below W.heap.size W w') := fun W => by
  have := rbeh_any T W tz
  rw [lT, ← eT] at this
  unfold Rd.vb at this
  rw [hb] at this
  exact this
 have CR : Hid (∀ W, Calls Tryz.prog 94 #[.string (s.extract 0 (s.size - 15))] W fun e w' => e = .returned (.tuple #[.int .i64 0, .bool false]) ∧ W = w') := fun W => by
  have := ryear_any H W (by rw [lH]; exact (Rd.isY_iff.1 hy).2.2.1)
  rw [lH, ← eH] at this
  unfold Rd.ya at this
  rw [hl] at this
  exact this
 clear hs h15 hy hb hl eH eT lH lT tz hz HH
 generalize Rd.pV (Rd.tl s.data.toList) 0 = p0 at *
 generalize Rd.pV (Rd.tl s.data.toList) 1 = p1 at *
 generalize Rd.pV (Rd.tl s.data.toList) 2 = p2 at *
 generalize Rd.pV (Rd.tl s.data.toList) 3 = p3 at *
 generalize Rd.pV (Rd.tl s.data.toList) 4 = p4 at *
 go_enter Tryz.func64, Tryz.ntmps64
 go_wp2_with fail
 refine (CY.out _).mono ?_; rintro e v1 ⟨rfl, rfl⟩
 go_wp2_with fail
 refine (CB.out _).mono ?_; rintro e w1 ⟨rfl, b1⟩
 have d1 : Below w.heap.size w w1 := below_step gr0 b1
 have B1 := Lib.hid d1
 have R1 : Bk6 w1 (w.heap.size) (.int .i64 0) (.int .i64 0) (.int .i64 0) (.int .i64 0) (.int .i64 0) (.int .i64 0) := by refine Bk6.of b1 (by simp <;> omega) (by intro j; simp [go_sem]) ?_ ?_ ?_ ?_ ?_ ?_ <;> simp [go_sem]
 clear b1 d1
 have tx := R1; obtain ⟨cR_b, cR_f, cR_0, cR_1, cR_2, cR_3, cR_4, cR_5⟩ := tx
 go_wp2_with fail
 clear cR_b cR_f cR_0 cR_1 cR_2 cR_3 cR_4 cR_5
 refine (CR.out _).mono ?_; rintro e v2 ⟨rfl, rfl⟩
 have tx := R1; obtain ⟨cR_b, cR_f, cR_0, cR_1, cR_2, cR_3, cR_4, cR_5⟩ := tx
 go_upto_region 10 with (fail)
 clear cR_b cR_f cR_0 cR_1 cR_2 cR_3 cR_4 cR_5
 refine wp_named ?_; intro w2 hw2
 have d2 : Below w1.heap.size w1 w2 := by rw [hw2]; exact gr0
 have B2 := Lib.hid (below_step B1.out d2)
 have R2 := R1.keep d2
 have aU := B1.out.size
 have nUR := Nat.ne_of_lt R1.hb
 have oUR := Nat.ne_of_gt R1.hb
 have U2 : Bk5 w2 (w1.heap.size) (.int .i64 p0) (.int .i64 p1) (.int .i64 p2) (.int .i64 p3) (.int .i64 p4) := by rw [hw2]; exact ⟨by simp <;> omega, by intro j; simp [go_sem], by simp [go_sem], by simp [go_sem], by simp [go_sem], by simp [go_sem], by simp [go_sem]⟩
 have aX := B1.out.size
 have nXR := Nat.ne_of_lt R1.hb
 have oXR := Nat.ne_of_gt R1.hb
 have X2 : Bk6 w2 (w1.heap.size + 1) (.int .i64 0) (.int .i64 p0) (.int .i64 p1) (.int .i64 p2) (.int .i64 p3) (.int .i64 p4) := by rw [hw2]; exact ⟨by simp <;> omega, by intro j; simp [go_sem], by simp [go_sem], by simp [go_sem], by simp [go_sem], by simp [go_sem], by simp [go_sem], by simp [go_sem]⟩
 clear R1 d2 hw2 B1
 have tx := R2; obtain ⟨cR_b, cR_f, cR_0, cR_1, cR_2, cR_3, cR_4, cR_5⟩ := tx
 have tx := U2; obtain ⟨cU_b, cU_f, cU_0, cU_1, cU_2, cU_3, cU_4⟩ := tx
 have tx := X2; obtain ⟨cX_b, cX_f, cX_0, cX_1, cX_2, cX_3, cX_4, cX_5⟩ := tx
 go_wp2_with fail
 refine bodyPost_ret (v := .tuple #[.agg #[.int .i64 0, .int .i64 0, .int .i64 0, .int .i64 0, .int .i64 0, .int .i64 0], .int .i64 1]) (by simp [results, Tryz.results64, go_sem, cR_b, cR_f, cR_0, cR_1, cR_2, cR_3, cR_4, cR_5, cU_b, cU_f, cU_0, cU_1, cU_2, cU_3, cU_4, cX_b, cX_f, cX_0, cX_1, cX_2, cX_3, cX_4, cX_5]) rfl ⟨rfl, ?_⟩
 clear cR_b cR_f cR_0 cR_1 cR_2 cR_3 cR_4 cR_5 cU_b cU_f cU_0 cU_1 cU_2 cU_3 cU_4 cX_b cX_f cX_0 cX_1 cX_2 cX_3 cX_4 cX_5
 have hz := B2.out.size
 iterate 6 (refine Below.setCell ?_ (by first | omega | (simp; done) | (simp; omega)) _)
 exact B2.out
set_option maxHeartbeats 4000000 in
set_option maxRecDepth 100000 in
theorem sread_wrong (s : ByteArray) (w : World) (hs : s.size ≤ maxLen) (h15 : 15 ≤ s.size) (hy : Rd.isY (Rd.hd s.data.toList) = true) (hb : Rd.bOk (Rd.tl s.data.toList) = true) (hl : Rd.yl (Rd.hd s.data.toList) = true) (hr : St.rB (Rd.yv (Rd.hd s.data.toList)) (Rd.pV (Rd.tl s.data.toList) 0) (Rd.pV (Rd.tl s.data.toList) 1) (Rd.pV (Rd.tl s.data.toList) 2) (Rd.pV (Rd.tl s.data.toList) 3) (Rd.pV (Rd.tl s.data.toList) 4) = false) :
  Calls Tryz.prog 64 #[.string s] w fun e w' => e = .returned (.tuple #[.agg #[.int .i64 0, .int .i64 0, .int .i64 0, .int .i64 0, .int .i64 0, .int .i64 0], .int .i64 1]) ∧ Below w.heap.size w w' := by
 obtain ⟨H, T, eH, eT, lH, lT, tz, hz⟩ := hd_bytes s h15
 have HH : H.size ≤ maxLen := Nat.le_trans hz hs
 have h1 : ¬ (s.size : Int) - 15 < 0 := by omega
 have h2 : 0 ≤ (s.size : Int) - 15 := by omega
 have h3 : (s.size : Int) - 15 ≤ (s.size : Int) := by omega
 have h4 : (s.size : Int) ≤ 9223372036854775807 := by unfold maxLen at hs; omega
 have CY : Hid (∀ W, Calls Tryz.prog 92 #[.string (s.extract 0 (s.size - 15))] W fun e w' => e = .returned (.bool true) ∧ W = w') := fun W => by
  have := isyear_any H W HH
  rw [lH, hy, ← eH] at this
  exact this
 have CB : Hid (∀ W, Calls Tryz.prog 93 #[.string (s.extract (s.size - 15) s.size)] W fun e w' => e = .returned (.tuple #[.agg #[.int .i64 (Rd.pV (Rd.tl s.data.toList) 0), .int .i64 (Rd.pV (Rd.tl s.data.toList) 1), .int .i64 (Rd.pV (Rd.tl s.data.toList) 2), .int .i64 (Rd.pV (Rd.tl s.data.toList) 3), .int .i64 (Rd.pV (Rd.tl s.data.toList) 4)], .bool true]) ∧ Below W.heap.size W w') := fun W => by
  have := rbeh_any T W tz
  rw [lT, ← eT] at this
  unfold Rd.vb at this
  rw [hb] at this
  exact this
 have CR : Hid (∀ W, Calls Tryz.prog 94 #[.string (s.extract 0 (s.size - 15))] W fun e w' => e = .returned (.tuple #[.int .i64 (Rd.yv (Rd.hd s.data.toList)), .bool true]) ∧ W = w') := fun W => by
  have := ryear_any H W (by rw [lH]; exact (Rd.isY_iff.1 hy).2.2.1)
  rw [lH, ← eH] at this
  unfold Rd.ya at this
  rw [hl] at this
  exact this
 have CS : Hid (∀ W, Calls Tryz.prog 48 #[.agg #[.int .i64 (Rd.yv (Rd.hd s.data.toList)), .int .i64 (Rd.pV (Rd.tl s.data.toList) 0), .int .i64 (Rd.pV (Rd.tl s.data.toList) 1), .int .i64 (Rd.pV (Rd.tl s.data.toList) 2), .int .i64 (Rd.pV (Rd.tl s.data.toList) 3), .int .i64 (Rd.pV (Rd.tl s.data.toList) 4)]] W fun e w' => e = .returned (.bool false) ∧ Below W.heap.size W w') := fun W => by
  have := sright_any (Rd.yv (Rd.hd s.data.toList)) (Rd.pV (Rd.tl s.data.toList) 0) (Rd.pV (Rd.tl s.data.toList) 1) (Rd.pV (Rd.tl s.data.toList) 2) (Rd.pV (Rd.tl s.data.toList) 3) (Rd.pV (Rd.tl s.data.toList) 4) W
  rw [hr] at this
  exact this
 clear hs h15 hy hb hl hr eH eT lH lT tz hz HH
 generalize Rd.pV (Rd.tl s.data.toList) 0 = p0 at *
 generalize Rd.pV (Rd.tl s.data.toList) 1 = p1 at *
 generalize Rd.pV (Rd.tl s.data.toList) 2 = p2 at *
 generalize Rd.pV (Rd.tl s.data.toList) 3 = p3 at *
 generalize Rd.pV (Rd.tl s.data.toList) 4 = p4 at *
 generalize Rd.yv (Rd.hd s.data.toList) = y at *
 go_enter Tryz.func64, Tryz.ntmps64
 go_wp2_with fail
 refine (CY.out _).mono ?_; rintro e v1 ⟨rfl, rfl⟩
 go_wp2_with fail
 refine (CB.out _).mono ?_; rintro e w1 ⟨rfl, b1⟩
 have d1 : Below w.heap.size w w1 := below_step gr0 b1
 have B1 := Lib.hid d1
 have R1 : Bk6 w1 (w.heap.size) (.int .i64 0) (.int .i64 0) (.int .i64 0) (.int .i64 0) (.int .i64 0) (.int .i64 0) := by refine Bk6.of b1 (by simp <;> omega) (by intro j; simp [go_sem]) ?_ ?_ ?_ ?_ ?_ ?_ <;> simp [go_sem]
 clear b1 d1
 have tx := R1; obtain ⟨cR_b, cR_f, cR_0, cR_1, cR_2, cR_3, cR_4, cR_5⟩ := tx
 go_wp2_with fail
 clear cR_b cR_f cR_0 cR_1 cR_2 cR_3 cR_4 cR_5
 refine (CR.out _).mono ?_; rintro e v2 ⟨rfl, rfl⟩
 have tx := R1; obtain ⟨cR_b, cR_f, cR_0, cR_1, cR_2, cR_3, cR_4, cR_5⟩ := tx
 go_wp2_with fail
 clear cR_b cR_f cR_0 cR_1 cR_2 cR_3 cR_4 cR_5
 refine (CS.out _).mono ?_; rintro e w2 ⟨rfl, b2⟩
 have d2 : Below w1.heap.size w1 w2 := below_step gr0 b2
 have B2 := Lib.hid (below_step B1.out d2)
 have R2 := R1.keep d2
 have aU := B1.out.size
 have nUR := Nat.ne_of_lt R1.hb
 have oUR := Nat.ne_of_gt R1.hb
 have U2 : Bk5 w2 (w1.heap.size) (.int .i64 p0) (.int .i64 p1) (.int .i64 p2) (.int .i64 p3) (.int .i64 p4) := by refine Bk5.of b2 (by simp <;> omega) (by intro j; simp [go_sem]) ?_ ?_ ?_ ?_ ?_ <;> simp [go_sem]
 have aX := B1.out.size
 have nXR := Nat.ne_of_lt R1.hb
 have oXR := Nat.ne_of_gt R1.hb
 have X2 : Bk6 w2 (w1.heap.size + 1) (.int .i64 y) (.int .i64 p0) (.int .i64 p1) (.int .i64 p2) (.int .i64 p3) (.int .i64 p4) := by refine Bk6.of b2 (by simp <;> omega) (by intro j; simp [go_sem]) ?_ ?_ ?_ ?_ ?_ ?_ <;> simp [go_sem]
 clear R1 b2 d2 B1
 have tx := R2; obtain ⟨cR_b, cR_f, cR_0, cR_1, cR_2, cR_3, cR_4, cR_5⟩ := tx
 have tx := U2; obtain ⟨cU_b, cU_f, cU_0, cU_1, cU_2, cU_3, cU_4⟩ := tx
 have tx := X2; obtain ⟨cX_b, cX_f, cX_0, cX_1, cX_2, cX_3, cX_4, cX_5⟩ := tx
 go_upto_region 10 with (fail)
 clear cR_b cR_f cR_0 cR_1 cR_2 cR_3 cR_4 cR_5 cU_b cU_f cU_0 cU_1 cU_2 cU_3 cU_4 cX_b cX_f cX_0 cX_1 cX_2 cX_3 cX_4 cX_5
 refine wp_named ?_; intro w3 hw3
 have d3 : Below w2.heap.size w2 w3 := by rw [hw3]; exact gr0
 have B3 := Lib.hid (below_step B2.out d3)
 have R3 := R2.keep d3
 have U3 := U2.keep d3
 have X3 := X2.keep d3
 clear R2 U2 X2 d3 hw3 B2
 have tx := R3; obtain ⟨cR_b, cR_f, cR_0, cR_1, cR_2, cR_3, cR_4, cR_5⟩ := tx
 have tx := U3; obtain ⟨cU_b, cU_f, cU_0, cU_1, cU_2, cU_3, cU_4⟩ := tx
 have tx := X3; obtain ⟨cX_b, cX_f, cX_0, cX_1, cX_2, cX_3, cX_4, cX_5⟩ := tx
 go_wp2_with fail
 refine bodyPost_ret (v := .tuple #[.agg #[.int .i64 0, .int .i64 0, .int .i64 0, .int .i64 0, .int .i64 0, .int .i64 0], .int .i64 1]) (by simp [results, Tryz.results64, go_sem, cR_b, cR_f, cR_0, cR_1, cR_2, cR_3, cR_4, cR_5, cU_b, cU_f, cU_0, cU_1, cU_2, cU_3, cU_4, cX_b, cX_f, cX_0, cX_1, cX_2, cX_3, cX_4, cX_5]) rfl ⟨rfl, ?_⟩
 clear cR_b cR_f cR_0 cR_1 cR_2 cR_3 cR_4 cR_5 cU_b cU_f cU_0 cU_1 cU_2 cU_3 cU_4 cX_b cX_f cX_0 cX_1 cX_2 cX_3 cX_4 cX_5
 have hz := B3.out.size
 iterate 6 (refine Below.setCell ?_ (by first | omega | (simp; done) | (simp; omega)) _)
 exact B3.out
set_option maxHeartbeats 4000000 in
set_option maxRecDepth 100000 in
theorem sread_right (s : ByteArray) (w : World) (hs : s.size ≤ maxLen) (h15 : 15 ≤ s.size) (hy : Rd.isY (Rd.hd s.data.toList) = true) (hb : Rd.bOk (Rd.tl s.data.toList) = true) (hl : Rd.yl (Rd.hd s.data.toList) = true) (hr : St.rB (Rd.yv (Rd.hd s.data.toList)) (Rd.pV (Rd.tl s.data.toList) 0) (Rd.pV (Rd.tl s.data.toList) 1) (Rd.pV (Rd.tl s.data.toList) 2) (Rd.pV (Rd.tl s.data.toList) 3) (Rd.pV (Rd.tl s.data.toList) 4) = true) :
  Calls Tryz.prog 64 #[.string s] w fun e w' => e = .returned (.tuple #[.agg #[.int .i64 (Rd.yv (Rd.hd s.data.toList)), .int .i64 (Rd.pV (Rd.tl s.data.toList) 0), .int .i64 (Rd.pV (Rd.tl s.data.toList) 1), .int .i64 (Rd.pV (Rd.tl s.data.toList) 2), .int .i64 (Rd.pV (Rd.tl s.data.toList) 3), .int .i64 (Rd.pV (Rd.tl s.data.toList) 4)], .int .i64 0]) ∧ Below w.heap.size w w' := by
 obtain ⟨H, T, eH, eT, lH, lT, tz, hz⟩ := hd_bytes s h15
 have HH : H.size ≤ maxLen := Nat.le_trans hz hs
 have h1 : ¬ (s.size : Int) - 15 < 0 := by omega
 have h2 : 0 ≤ (s.size : Int) - 15 := by omega
 have h3 : (s.size : Int) - 15 ≤ (s.size : Int) := by omega
 have h4 : (s.size : Int) ≤ 9223372036854775807 := by unfold maxLen at hs; omega
 have CY : Hid (∀ W, Calls Tryz.prog 92 #[.string (s.extract 0 (s.size - 15))] W fun e w' => e = .returned (.bool true) ∧ W = w') := fun W => by
  have := isyear_any H W HH
  rw [lH, hy, ← eH] at this
  exact this
 have CB : Hid (∀ W, Calls Tryz.prog 93 #[.string (s.extract (s.size - 15) s.size)] W fun e w' => e = .returned (.tuple #[.agg #[.int .i64 (Rd.pV (Rd.tl s.data.toList) 0), .int .i64 (Rd.pV (Rd.tl s.data.toList) 1), .int .i64 (Rd.pV (Rd.tl s.data.toList) 2), .int .i64 (Rd.pV (Rd.tl s.data.toList) 3), .int .i64 (Rd.pV (Rd.tl s.data.toList) 4)], .bool true]) ∧ Below W.heap.size W w') := fun W => by
  have := rbeh_any T W tz
  rw [lT, ← eT] at this
  unfold Rd.vb at this
  rw [hb] at this
  exact this
 have CR : Hid (∀ W, Calls Tryz.prog 94 #[.string (s.extract 0 (s.size - 15))] W fun e w' => e = .returned (.tuple #[.int .i64 (Rd.yv (Rd.hd s.data.toList)), .bool true]) ∧ W = w') := fun W => by
  have := ryear_any H W (by rw [lH]; exact (Rd.isY_iff.1 hy).2.2.1)
  rw [lH, ← eH] at this
  unfold Rd.ya at this
  rw [hl] at this
  exact this
 have CS : Hid (∀ W, Calls Tryz.prog 48 #[.agg #[.int .i64 (Rd.yv (Rd.hd s.data.toList)), .int .i64 (Rd.pV (Rd.tl s.data.toList) 0), .int .i64 (Rd.pV (Rd.tl s.data.toList) 1), .int .i64 (Rd.pV (Rd.tl s.data.toList) 2), .int .i64 (Rd.pV (Rd.tl s.data.toList) 3), .int .i64 (Rd.pV (Rd.tl s.data.toList) 4)]] W fun e w' => e = .returned (.bool true) ∧ Below W.heap.size W w') := fun W => by
  have := sright_any (Rd.yv (Rd.hd s.data.toList)) (Rd.pV (Rd.tl s.data.toList) 0) (Rd.pV (Rd.tl s.data.toList) 1) (Rd.pV (Rd.tl s.data.toList) 2) (Rd.pV (Rd.tl s.data.toList) 3) (Rd.pV (Rd.tl s.data.toList) 4) W
  rw [hr] at this
  exact this
 clear hs h15 hy hb hl hr eH eT lH lT tz hz HH
 generalize Rd.pV (Rd.tl s.data.toList) 0 = p0 at *
 generalize Rd.pV (Rd.tl s.data.toList) 1 = p1 at *
 generalize Rd.pV (Rd.tl s.data.toList) 2 = p2 at *
 generalize Rd.pV (Rd.tl s.data.toList) 3 = p3 at *
 generalize Rd.pV (Rd.tl s.data.toList) 4 = p4 at *
 generalize Rd.yv (Rd.hd s.data.toList) = y at *
 go_enter Tryz.func64, Tryz.ntmps64
 go_wp2_with fail
 refine (CY.out _).mono ?_; rintro e v1 ⟨rfl, rfl⟩
 go_wp2_with fail
 refine (CB.out _).mono ?_; rintro e w1 ⟨rfl, b1⟩
 have d1 : Below w.heap.size w w1 := below_step gr0 b1
 have B1 := Lib.hid d1
 have R1 : Bk6 w1 (w.heap.size) (.int .i64 0) (.int .i64 0) (.int .i64 0) (.int .i64 0) (.int .i64 0) (.int .i64 0) := by refine Bk6.of b1 (by simp <;> omega) (by intro j; simp [go_sem]) ?_ ?_ ?_ ?_ ?_ ?_ <;> simp [go_sem]
 clear b1 d1
 have tx := R1; obtain ⟨cR_b, cR_f, cR_0, cR_1, cR_2, cR_3, cR_4, cR_5⟩ := tx
 go_wp2_with fail
 clear cR_b cR_f cR_0 cR_1 cR_2 cR_3 cR_4 cR_5
 refine (CR.out _).mono ?_; rintro e v2 ⟨rfl, rfl⟩
 have tx := R1; obtain ⟨cR_b, cR_f, cR_0, cR_1, cR_2, cR_3, cR_4, cR_5⟩ := tx
 go_wp2_with fail
 clear cR_b cR_f cR_0 cR_1 cR_2 cR_3 cR_4 cR_5
 refine (CS.out _).mono ?_; rintro e w2 ⟨rfl, b2⟩
 have d2 : Below w1.heap.size w1 w2 := below_step gr0 b2
 have B2 := Lib.hid (below_step B1.out d2)
 have R2 := R1.keep d2
 have aU := B1.out.size
 have nUR := Nat.ne_of_lt R1.hb
 have oUR := Nat.ne_of_gt R1.hb
 have U2 : Bk5 w2 (w1.heap.size) (.int .i64 p0) (.int .i64 p1) (.int .i64 p2) (.int .i64 p3) (.int .i64 p4) := by refine Bk5.of b2 (by simp <;> omega) (by intro j; simp [go_sem]) ?_ ?_ ?_ ?_ ?_ <;> simp [go_sem]
 have aX := B1.out.size
 have nXR := Nat.ne_of_lt R1.hb
 have oXR := Nat.ne_of_gt R1.hb
 have X2 : Bk6 w2 (w1.heap.size + 1) (.int .i64 y) (.int .i64 p0) (.int .i64 p1) (.int .i64 p2) (.int .i64 p3) (.int .i64 p4) := by refine Bk6.of b2 (by simp <;> omega) (by intro j; simp [go_sem]) ?_ ?_ ?_ ?_ ?_ ?_ <;> simp [go_sem]
 clear R1 b2 d2 B1
 have tx := R2; obtain ⟨cR_b, cR_f, cR_0, cR_1, cR_2, cR_3, cR_4, cR_5⟩ := tx
 have tx := U2; obtain ⟨cU_b, cU_f, cU_0, cU_1, cU_2, cU_3, cU_4⟩ := tx
 have tx := X2; obtain ⟨cX_b, cX_f, cX_0, cX_1, cX_2, cX_3, cX_4, cX_5⟩ := tx
 go_upto_region 11 with (fail)
 clear cR_b cR_f cR_0 cR_1 cR_2 cR_3 cR_4 cR_5 cU_b cU_f cU_0 cU_1 cU_2 cU_3 cU_4 cX_b cX_f cX_0 cX_1 cX_2 cX_3 cX_4 cX_5
 refine wp_named ?_; intro w3 hw3
 have d3 : Below w2.heap.size w2 w3 := by rw [hw3]; exact gr0
 have B3 := Lib.hid (below_step B2.out d3)
 have R3 := R2.keep d3
 have U3 := U2.keep d3
 have X3 := X2.keep d3
 clear R2 U2 X2 d3 hw3 B2
 have tx := R3; obtain ⟨cR_b, cR_f, cR_0, cR_1, cR_2, cR_3, cR_4, cR_5⟩ := tx
 have tx := U3; obtain ⟨cU_b, cU_f, cU_0, cU_1, cU_2, cU_3, cU_4⟩ := tx
 have tx := X3; obtain ⟨cX_b, cX_f, cX_0, cX_1, cX_2, cX_3, cX_4, cX_5⟩ := tx
 go_wp2_with fail
 refine bodyPost_ret (v := .tuple #[.agg #[.int .i64 y, .int .i64 p0, .int .i64 p1, .int .i64 p2, .int .i64 p3, .int .i64 p4], .int .i64 0]) (by simp [results, Tryz.results64, go_sem, cR_b, cR_f, cR_0, cR_1, cR_2, cR_3, cR_4, cR_5, cU_b, cU_f, cU_0, cU_1, cU_2, cU_3, cU_4, cX_b, cX_f, cX_0, cX_1, cX_2, cX_3, cX_4, cX_5]) rfl ⟨rfl, ?_⟩
 clear cR_b cR_f cR_0 cR_1 cR_2 cR_3 cR_4 cR_5 cU_b cU_f cU_0 cU_1 cU_2 cU_3 cU_4 cX_b cX_f cX_0 cX_1 cX_2 cX_3 cX_4 cX_5
 have hz := B3.out.size
 iterate 6 (refine Below.setCell ?_ (by first | omega | (simp; done) | (simp; omega)) _)
 exact B3.out
end Go.Proofs.YtifgiclnofdnkaaGreatDoor
