/- Joined: StR, StX. -/
import Derived.Test.YtifgiclnofdnkaaGreatDoorBy01
import Derived.Test.YtifgiclnofdnkaaGreatDoorBy14
import Derived.Test.YtifgiclnofdnkaaGreatDoorBy12
set_option linter.unusedVariables false
set_option linter.unusedSimpArgs false
namespace Go.Proofs.YtifgiclnofdnkaaGreatDoor
open Go.RowKit
set_option maxHeartbeats 1000000 in
theorem sright_0 (y m d h i s : Int) (w : World) (hr : rightB y m d = false) :
  Calls Tryz.prog 48 #[.agg #[.int .i64 y, .int .i64 m, .int .i64 d, .int .i64 h, .int .i64 i, .int .i64 s]] w fun e w' => e = .returned (.bool false) ∧ Below w.heap.size w w' := by
 have R : Hid (∀ w, Calls Tryz.prog 80 #[.agg #[.int .i64 y, .int .i64 m, .int .i64 d]] w fun e w' => e = .returned (.bool false) ∧ Below w.heap.size w w') := fun w => by rw [← hr]; exact right_any y m d w
 clear hr
 go_enter Tryz.func48, Tryz.ntmps48
 go_wp2_with fail
 refine (R.out _).mono ?_; rintro e w1 ⟨rfl, b1⟩
 have d1 : Below w.heap.size w w1 := below_step gr0 b1
 have B1 := Lib.hid d1
 have S1 : Bk6 w1 (w.heap.size) (.int .i64 y) (.int .i64 m) (.int .i64 d) (.int .i64 h) (.int .i64 i) (.int .i64 s) := by refine Bk6.of b1 (by simp <;> omega) (by intro j; simp [go_sem]) ?_ ?_ ?_ ?_ ?_ ?_ <;> simp [go_sem]
 clear b1 d1
 have tx := S1; obtain ⟨cS_b, cS_f, cS_0, cS_1, cS_2, cS_3, cS_4, cS_5⟩ := tx
 go_wp2_with fail
 clear cS_b cS_f cS_0 cS_1 cS_2 cS_3 cS_4 cS_5
 go_ret
 exact ⟨rfl, (grB B1)⟩
set_option maxHeartbeats 1000000 in
theorem sright_1 (y m d h i s : Int) (w : World) (hr : rightB y m d = true) (c1 : ¬ 0 ≤ h) :
  Calls Tryz.prog 48 #[.agg #[.int .i64 y, .int .i64 m, .int .i64 d, .int .i64 h, .int .i64 i, .int .i64 s]] w fun e w' => e = .returned (.bool false) ∧ Below w.heap.size w w' := by
 have R : Hid (∀ w, Calls Tryz.prog 80 #[.agg #[.int .i64 y, .int .i64 m, .int .i64 d]] w fun e w' => e = .returned (.bool true) ∧ Below w.heap.size w w') := fun w => by rw [← hr]; exact right_any y m d w
 clear hr
 go_enter Tryz.func48, Tryz.ntmps48
 go_wp2_with fail
 refine (R.out _).mono ?_; rintro e w1 ⟨rfl, b1⟩
 have d1 : Below w.heap.size w w1 := below_step gr0 b1
 have B1 := Lib.hid d1
 have S1 : Bk6 w1 (w.heap.size) (.int .i64 y) (.int .i64 m) (.int .i64 d) (.int .i64 h) (.int .i64 i) (.int .i64 s) := by refine Bk6.of b1 (by simp <;> omega) (by intro j; simp [go_sem]) ?_ ?_ ?_ ?_ ?_ ?_ <;> simp [go_sem]
 clear b1 d1
 have tx := S1; obtain ⟨cS_b, cS_f, cS_0, cS_1, cS_2, cS_3, cS_4, cS_5⟩ := tx
 go_wp2_with fail
 clear cS_b cS_f cS_0 cS_1 cS_2 cS_3 cS_4 cS_5
 go_ret
 exact ⟨rfl, (grB B1)⟩
set_option maxHeartbeats 1000000 in
theorem sright_2 (y m d h i s : Int) (w : World) (hr : rightB y m d = true) (c1 : 0 ≤ h) (c2 : ¬ h < 24) :
  Calls Tryz.prog 48 #[.agg #[.int .i64 y, .int .i64 m, .int .i64 d, .int .i64 h, .int .i64 i, .int .i64 s]] w fun e w' => e = .returned (.bool false) ∧ Below w.heap.size w w' := by
 have R : Hid (∀ w, Calls Tryz.prog 80 #[.agg #[.int .i64 y, .int .i64 m, .int .i64 d]] w fun e w' => e = .returned (.bool true) ∧ Below w.heap.size w w') := fun w => by rw [← hr]; exact right_any y m d w
 clear hr
 go_enter Tryz.func48, Tryz.ntmps48
 go_wp2_with fail
 refine (R.out _).mono ?_; rintro e w1 ⟨rfl, b1⟩
 have d1 : Below w.heap.size w w1 := below_step gr0 b1
 have B1 := Lib.hid d1
 have S1 : Bk6 w1 (w.heap.size) (.int .i64 y) (.int .i64 m) (.int .i64 d) (.int .i64 h) (.int .i64 i) (.int .i64 s) := by refine Bk6.of b1 (by simp <;> omega) (by intro j; simp [go_sem]) ?_ ?_ ?_ ?_ ?_ ?_ <;> simp [go_sem]
 clear b1 d1
 have tx := S1; obtain ⟨cS_b, cS_f, cS_0, cS_1, cS_2, cS_3, cS_4, cS_5⟩ := tx
 go_wp2_with fail
 clear cS_b cS_f cS_0 cS_1 cS_2 cS_3 cS_4 cS_5
 go_ret
 exact ⟨rfl, (grB B1)⟩
set_option maxHeartbeats 1000000 in
theorem sright_3 (y m d h i s : Int) (w : World) (hr : rightB y m d = true) (c1 : 0 ≤ h) (c2 : h < 24) (c3 : ¬ 0 ≤ i) :
  Calls Tryz.prog 48 #[.agg #[.int .i64 y, .int .i64 m, .int .i64 d, .int .i64 h, .int .i64 i, .int .i64 s]] w fun e w' => e = .returned (.bool false) ∧ Below w.heap.size w w' := by
 have R : Hid (∀ w, Calls Tryz.prog 80 #[.agg #[.int .i64 y, .int .i64 m, .int .i64 d]] w fun e w' => e = .returned (.bool true) ∧ Below w.heap.size w w') := fun w => by rw [← hr]; exact right_any y m d w
 clear hr
 go_enter Tryz.func48, Tryz.ntmps48
 go_wp2_with fail
 refine (R.out _).mono ?_; rintro e w1 ⟨rfl, b1⟩
 have d1 : Below w.heap.size w w1 := below_step gr0 b1
 have B1 := Lib.hid d1
 have S1 : Bk6 w1 (w.heap.size) (.int .i64 y) (.int .i64 m) (.int .i64 d) (.int .i64 h) (.int .i64 i) (.int .i64 s) := by refine Bk6.of b1 (by simp <;> omega) (by intro j; simp [go_sem]) ?_ ?_ ?_ ?_ ?_ ?_ <;> simp [go_sem]
 clear b1 d1
 have tx := S1; obtain ⟨cS_b, cS_f, cS_0, cS_1, cS_2, cS_3, cS_4, cS_5⟩ := tx
 go_wp2_with fail
 clear cS_b cS_f cS_0 cS_1 cS_2 cS_3 cS_4 cS_5
 go_ret
 exact ⟨rfl, (grB B1)⟩
set_option maxHeartbeats 1000000 in
theorem sright_4 (y m d h i s : Int) (w : World) (hr : rightB y m d = true) (c1 : 0 ≤ h) (c2 : h < 24) (c3 : 0 ≤ i) (c4 : ¬ i < 60) :
  Calls Tryz.prog 48 #[.agg #[.int .i64 y, .int .i64 m, .int .i64 d, .int .i64 h, .int .i64 i, .int .i64 s]] w fun e w' => e = .returned (.bool false) ∧ Below w.heap.size w w' := by
 have R : Hid (∀ w, Calls Tryz.prog 80 #[.agg #[.int .i64 y, .int .i64 m, .int .i64 d]] w fun e w' => e = .returned (.bool true) ∧ Below w.heap.size w w') := fun w => by rw [← hr]; exact right_any y m d w
 clear hr
 go_enter Tryz.func48, Tryz.ntmps48
 go_wp2_with fail
 refine (R.out _).mono ?_; rintro e w1 ⟨rfl, b1⟩
 have d1 : Below w.heap.size w w1 := below_step gr0 b1
 have B1 := Lib.hid d1
 have S1 : Bk6 w1 (w.heap.size) (.int .i64 y) (.int .i64 m) (.int .i64 d) (.int .i64 h) (.int .i64 i) (.int .i64 s) := by refine Bk6.of b1 (by simp <;> omega) (by intro j; simp [go_sem]) ?_ ?_ ?_ ?_ ?_ ?_ <;> simp [go_sem]
 clear b1 d1
 have tx := S1; obtain ⟨cS_b, cS_f, cS_0, cS_1, cS_2, cS_3, cS_4, cS_5⟩ := tx
 go_wp2_with fail
 clear cS_b cS_f cS_0 cS_1 cS_2 cS_3 cS_4 cS_5
 go_ret
 exact ⟨rfl, (grB B1)⟩
set_option maxHeartbeats 1000000 in
theorem sright_5 (y m d h i s : Int) (w : World) (hr : rightB y m d = true) (c1 : 0 ≤ h) (c2 : h < 24) (c3 : 0 ≤ i) (c4 : i < 60) (c5 : ¬ 0 ≤ s) :
  Calls Tryz.prog 48 #[.agg #[.int .i64 y, .int .i64 m, .int .i64 d, .int .i64 h, .int .i64 i, .int .i64 s]] w fun e w' => e = .returned (.bool false) ∧ Below w.heap.size w w' := by
 have R : Hid (∀ w, Calls Tryz.prog 80 #[.agg #[.int .i64 y, .int .i64 m, .int .i64 d]] w fun e w' => e = .returned (.bool true) ∧ Below w.heap.size w w') := fun w => by rw [← hr]; exact right_any y m d w
 clear hr
 go_enter Tryz.func48, Tryz.ntmps48
 go_wp2_with fail
 refine (R.out _).mono ?_; rintro e w1 ⟨rfl, b1⟩
 have d1 : Below w.heap.size w w1 := below_step gr0 b1
 have B1 := Lib.hid d1
 have S1 : Bk6 w1 (w.heap.size) (.int .i64 y) (.int .i64 m) (.int .i64 d) (.int .i64 h) (.int .i64 i) (.int .i64 s) := by refine Bk6.of b1 (by simp <;> omega) (by intro j; simp [go_sem]) ?_ ?_ ?_ ?_ ?_ ?_ <;> simp [go_sem]
 clear b1 d1
 have tx := S1; obtain ⟨cS_b, cS_f, cS_0, cS_1, cS_2, cS_3, cS_4, cS_5⟩ := tx
 go_wp2_with fail
 clear cS_b cS_f cS_0 cS_1 cS_2 cS_3 cS_4 cS_5
 go_ret
 exact ⟨rfl, (grB B1)⟩
set_option maxHeartbeats 1000000 in
theorem sright_6 (y m d h i s : Int) (w : World) (hr : rightB y m d = true) (c1 : 0 ≤ h) (c2 : h < 24) (c3 : 0 ≤ i) (c4 : i < 60) (c5 : 0 ≤ s) (c6 : ¬ s < 60) :
  Calls Tryz.prog 48 #[.agg #[.int .i64 y, .int .i64 m, .int .i64 d, .int .i64 h, .int .i64 i, .int .i64 s]] w fun e w' => e = .returned (.bool false) ∧ Below w.heap.size w w' := by
 have R : Hid (∀ w, Calls Tryz.prog 80 #[.agg #[.int .i64 y, .int .i64 m, .int .i64 d]] w fun e w' => e = .returned (.bool true) ∧ Below w.heap.size w w') := fun w => by rw [← hr]; exact right_any y m d w
 have g : decide (s < 60) = false := decide_eq_false c6
 clear c6
 clear hr
 go_enter Tryz.func48, Tryz.ntmps48
 go_wp2_with fail
 refine (R.out _).mono ?_; rintro e w1 ⟨rfl, b1⟩
 have d1 : Below w.heap.size w w1 := below_step gr0 b1
 have B1 := Lib.hid d1
 have S1 : Bk6 w1 (w.heap.size) (.int .i64 y) (.int .i64 m) (.int .i64 d) (.int .i64 h) (.int .i64 i) (.int .i64 s) := by refine Bk6.of b1 (by simp <;> omega) (by intro j; simp [go_sem]) ?_ ?_ ?_ ?_ ?_ ?_ <;> simp [go_sem]
 clear b1 d1
 have tx := S1; obtain ⟨cS_b, cS_f, cS_0, cS_1, cS_2, cS_3, cS_4, cS_5⟩ := tx
 go_wp2_with fail
 clear cS_b cS_f cS_0 cS_1 cS_2 cS_3 cS_4 cS_5
 go_ret
 exact ⟨rfl, (grB B1)⟩
set_option maxHeartbeats 1000000 in
theorem sright_7 (y m d h i s : Int) (w : World) (hr : rightB y m d = true) (c1 : 0 ≤ h) (c2 : h < 24) (c3 : 0 ≤ i) (c4 : i < 60) (c5 : 0 ≤ s) (c6 : s < 60) :
  Calls Tryz.prog 48 #[.agg #[.int .i64 y, .int .i64 m, .int .i64 d, .int .i64 h, .int .i64 i, .int .i64 s]] w fun e w' => e = .returned (.bool true) ∧ Below w.heap.size w w' := by
 have R : Hid (∀ w, Calls Tryz.prog 80 #[.agg #[.int .i64 y, .int .i64 m, .int .i64 d]] w fun e w' => e = .returned (.bool true) ∧ Below w.heap.size w w') := fun w => by rw [← hr]; exact right_any y m d w
 clear hr
 go_enter Tryz.func48, Tryz.ntmps48
 go_wp2_with fail
 refine (R.out _).mono ?_; rintro e w1 ⟨rfl, b1⟩
 have d1 : Below w.heap.size w w1 := below_step gr0 b1
 have B1 := Lib.hid d1
 have S1 : Bk6 w1 (w.heap.size) (.int .i64 y) (.int .i64 m) (.int .i64 d) (.int .i64 h) (.int .i64 i) (.int .i64 s) := by refine Bk6.of b1 (by simp <;> omega) (by intro j; simp [go_sem]) ?_ ?_ ?_ ?_ ?_ ?_ <;> simp [go_sem]
 clear b1 d1
 have tx := S1; obtain ⟨cS_b, cS_f, cS_0, cS_1, cS_2, cS_3, cS_4, cS_5⟩ := tx
 go_wp2_with fail
 clear cS_b cS_f cS_0 cS_1 cS_2 cS_3 cS_4 cS_5
 go_ret
 exact ⟨rfl, (grB B1)⟩
theorem sright_any (y m d h i s : Int) (w : World) :
  Calls Tryz.prog 48 #[.agg #[.int .i64 y, .int .i64 m, .int .i64 d, .int .i64 h, .int .i64 i, .int .i64 s]] w fun e w' => e = .returned (.bool (St.rB y m d h i s)) ∧ Below w.heap.size w w' := by
 cases hr : rightB y m d
 ·
  rw [show St.rB y m d h i s = false by unfold St.rB; rw [hr]; rfl]; exact sright_0 y m d h i s w hr
 ·
  by_cases c1 : 0 ≤ h
  ·
   by_cases c2 : h < 24
   ·
    by_cases c3 : 0 ≤ i
    ·
     by_cases c4 : i < 60
     ·
      by_cases c5 : 0 ≤ s
      ·
       by_cases c6 : s < 60
       ·
        rw [show St.rB y m d h i s = true by unfold St.rB; rw [hr]; simp [c1, c2, c3, c4, c5, c6]]; exact sright_7 y m d h i s w hr c1 c2 c3 c4 c5 c6
       ·
        rw [show St.rB y m d h i s = false by unfold St.rB; rw [hr]; simp [c1, c2, c3, c4, c5, c6]]; exact sright_6 y m d h i s w hr c1 c2 c3 c4 c5 c6
      ·
       rw [show St.rB y m d h i s = false by unfold St.rB; rw [hr]; simp [c1, c2, c3, c4, c5]]; exact sright_5 y m d h i s w hr c1 c2 c3 c4 c5
     ·
      rw [show St.rB y m d h i s = false by unfold St.rB; rw [hr]; simp [c1, c2, c3, c4]]; exact sright_4 y m d h i s w hr c1 c2 c3 c4
    ·
     rw [show St.rB y m d h i s = false by unfold St.rB; rw [hr]; simp [c1, c2, c3]]; exact sright_3 y m d h i s w hr c1 c2 c3
   ·
    rw [show St.rB y m d h i s = false by unfold St.rB; rw [hr]; simp [c1, c2]]; exact sright_2 y m d h i s w hr c1 c2
  ·
   rw [show St.rB y m d h i s = false by unfold St.rB; rw [hr]; simp [c1]]; exact sright_1 y m d h i s w hr c1
set_option maxHeartbeats 8000000 in
set_option maxRecDepth 100000 in
theorem stext_neg (y m d h i s : Int) (w : World) (hr : St.rB y m d h i s = true) (hy : y < 0) (htab : Lib.TabIs Tryz.prog w "internal/strconv.uint64pow10" .u64 Lib.pow10Tab) :
  Calls Tryz.prog 25 #[.agg #[.int .i64 y, .int .i64 m, .int .i64 d, .int .i64 h, .int .i64 i, .int .i64 s]] w fun e w' => e = .returned (.string ⟨(Tx.txt y m d h i s).toArray⟩) ∧ Below w.heap.size w w' := by
 obtain ⟨r0, h0, h1, i0, i1, s0, s1⟩ := St.rB_true.1 hr
 obtain ⟨y0, y1, d0, d1⟩ := right_true.1 r0
 obtain ⟨m0, m1⟩ := Cal.month_of (right_true.1 r0)
 have lb := Cal.len_bd y m
 have LY := Lib.hid (Tx.dg_len 4 (-y) (by omega) (by omega)); have LM := Lib.hid (Tx.dg_len 2 m (by omega) (by omega)); have LD := Lib.hid (Tx.dg_len 2 d (by omega) (by omega))
 have LH := Lib.hid (Tx.dg_len 2 h (by omega) (by omega)); have LI := Lib.hid (Tx.dg_len 2 i (by omega) (by omega)); have LS := Lib.hid (Tx.dg_len 2 s (by omega) (by omega))
 have R : Hid (∀ w, Calls Tryz.prog 48 #[.agg #[.int .i64 y, .int .i64 m, .int .i64 d, .int .i64 h, .int .i64 i, .int .i64 s]] w fun e w' => e = .returned (.bool true) ∧ Below w.heap.size w w') := fun w => by rw [← hr]; exact sright_any y m d h i s w
 have T0 := Lib.hid htab
 have E := Lib.hid (show Tx.txt y m d h i s = (((((((((((([] ++ [45]) ++ Tx.dg 4 (-y)) ++ [45]) ++ Tx.dg 2 (m)) ++ [45]) ++ Tx.dg 2 (d)) ++ [84]) ++ Tx.dg 2 (h)) ++ [58]) ++ Tx.dg 2 (i)) ++ [58]) ++ Tx.dg 2 (s)) by simp [Tx.txt, Tx.yr, Tx.beh, hy])
 generalize Tx.txt y m d h i s = ans at E
 clear hr r0 htab
 have ix0 : ∀ a b c f g w, Sem.run Tryz.prog (Instr.index 88 (.agg #[.int .i64 a, .int .i64 b, .int .i64 c, .int .i64 f, .int .i64 g]) (.int .i64 0)) w = .ok (.int .i64 a) w := fun _ _ _ _ _ _ => by kernel_rfl
 have ix1 : ∀ a b c f g w, Sem.run Tryz.prog (Instr.index 88 (.agg #[.int .i64 a, .int .i64 b, .int .i64 c, .int .i64 f, .int .i64 g]) (.int .i64 1)) w = .ok (.int .i64 b) w := fun _ _ _ _ _ _ => by kernel_rfl
 have ix2 : ∀ a b c f g w, Sem.run Tryz.prog (Instr.index 88 (.agg #[.int .i64 a, .int .i64 b, .int .i64 c, .int .i64 f, .int .i64 g]) (.int .i64 2)) w = .ok (.int .i64 c) w := fun _ _ _ _ _ _ => by kernel_rfl
 have ix3 : ∀ a b c f g w, Sem.run Tryz.prog (Instr.index 88 (.agg #[.int .i64 a, .int .i64 b, .int .i64 c, .int .i64 f, .int .i64 g]) (.int .i64 3)) w = .ok (.int .i64 f) w := fun _ _ _ _ _ _ => by kernel_rfl
 have ix4 : ∀ a b c f g w, Sem.run Tryz.prog (Instr.index 88 (.agg #[.int .i64 a, .int .i64 b, .int .i64 c, .int .i64 f, .int .i64 g]) (.int .i64 4)) w = .ok (.int .i64 g) w := fun _ _ _ _ _ _ => by kernel_rfl
 go_enter Tryz.func25, Tryz.ntmps25
 go_wp2_with fail
 refine (R.out _).mono ?_; rintro e w1 ⟨rfl, b1⟩
 have d1 : Below w.heap.size w w1 := below_step gr0 b1
 have B1 := Lib.hid d1
 have S1 : Bk6 w1 (w.heap.size) (.int .i64 y) (.int .i64 m) (.int .i64 d) (.int .i64 h) (.int .i64 i) (.int .i64 s) := by refine Bk6.of b1 (by simp <;> omega) (by intro j; simp [go_sem]) ?_ ?_ ?_ ?_ ?_ ?_ <;> simp [go_sem]
 clear b1 d1
 clear R
 have hlt : w.heap.size < w1.heap.size := S1.hb
 have N1 := Lib.hid (show Below w1.heap.size w1 (w1.alloc (.cells #[.pointer none, .slice none 0 0] 76)) from (Below.refl _ _).alloc (Nat.le_refl _) _)
 have I1 := Lib.hid (IsB.fresh w1)
 have c_b := S1.hb; have c_f := S1.fz; have c_0 := S1.k0; have c_1 := S1.k1; have c_2 := S1.k2; have c_3 := S1.k3; have c_4 := S1.k4; have c_5 := S1.k5
 go_wp2_with fail
 clear c_b c_f c_0 c_1 c_2 c_3 c_4 c_5
 refine (bw_byte w1.heap.size [] 45 _ I1.out (by have q0 := LY.out; have q1 := LM.out; have q2 := LD.out; have q3 := LH.out; have q4 := LI.out; have q5 := LS.out; simp only [List.length_append, List.length_cons, List.length_nil]; omega)).mono ?_; rintro e w2 ⟨rfl, i3, b3⟩
 have I2 := Lib.hid i3; have N2 := Lib.hid (N1.out.trans b3); clear i3 b3 I1 N1
 go_wp2_with fail
 refine (wdig w1.heap.size ([] ++ [45]) (-y) 4 _ I2.out (by have q0 := LY.out; have q1 := LM.out; have q2 := LD.out; have q3 := LH.out; have q4 := LI.out; have q5 := LS.out; simp only [List.length_append, List.length_cons, List.length_nil]; omega) (by decide) (by omega) (by omega) (var_keep N2.out (var_keep B1.out T0.out))).mono ?_; rintro e w3 ⟨rfl, i3, b3⟩
 have I3 := Lib.hid i3; have N3 := Lib.hid (N2.out.trans b3); clear i3 b3 I2 N2
 have SS := S1.keep N3.out
 have c_b := SS.hb; have c_f := SS.fz; have c_0 := SS.k0; have c_1 := SS.k1; have c_2 := SS.k2; have c_3 := SS.k3; have c_4 := SS.k4; have c_5 := SS.k5
 go_wp2_with fail
 clear c_b c_f c_0 c_1 c_2 c_3 c_4 c_5 SS
 refine wp_loop_rounds 6 ?_
 rw [rounds_succ]
 go_wp2_with fail
 refine (bw_byte w1.heap.size (([] ++ [45]) ++ Tx.dg 4 (-y)) 45 _ I3.out (by have q0 := LY.out; have q1 := LM.out; have q2 := LD.out; have q3 := LH.out; have q4 := LI.out; have q5 := LS.out; simp only [List.length_append, List.length_cons, List.length_nil]; omega)).mono ?_; rintro e w4 ⟨rfl, i3, b3⟩
 have I4 := Lib.hid i3; have N4 := Lib.hid (N3.out.trans b3); clear i3 b3 I3 N3
 go_wp2_with fail
 refine (wdig w1.heap.size ((([] ++ [45]) ++ Tx.dg 4 (-y)) ++ [45]) (m) 2 _ I4.out (by have q0 := LY.out; have q1 := LM.out; have q2 := LD.out; have q3 := LH.out; have q4 := LI.out; have q5 := LS.out; simp only [List.length_append, List.length_cons, List.length_nil]; omega) (by decide) (by omega) (by omega) (var_keep N4.out (var_keep B1.out T0.out))).mono ?_; rintro e w5 ⟨rfl, i3, b3⟩
 have I5 := Lib.hid i3; have N5 := Lib.hid (N4.out.trans b3); clear i3 b3 I4 N4
 go_wp2_with fail
 rw [rounds_succ]
 go_wp2_with fail
 refine (bw_byte w1.heap.size (((([] ++ [45]) ++ Tx.dg 4 (-y)) ++ [45]) ++ Tx.dg 2 (m)) 45 _ I5.out (by have q0 := LY.out; have q1 := LM.out; have q2 := LD.out; have q3 := LH.out; have q4 := LI.out; have q5 := LS.out; simp only [List.length_append, List.length_cons, List.length_nil]; omega)).mono ?_; rintro e w6 ⟨rfl, i3, b3⟩
 have I6 := Lib.hid i3; have N6 := Lib.hid (N5.out.trans b3); clear i3 b3 I5 N5
 go_wp2_with fail
 refine (wdig w1.heap.size ((((([] ++ [45]) ++ Tx.dg 4 (-y)) ++ [45]) ++ Tx.dg 2 (m)) ++ [45]) (d) 2 _ I6.out (by have q0 := LY.out; have q1 := LM.out; have q2 := LD.out; have q3 := LH.out; have q4 := LI.out; have q5 := LS.out; simp only [List.length_append, List.length_cons, List.length_nil]; omega) (by decide) (by omega) (by omega) (var_keep N6.out (var_keep B1.out T0.out))).mono ?_; rintro e w7 ⟨rfl, i3, b3⟩
 have I7 := Lib.hid i3; have N7 := Lib.hid (N6.out.trans b3); clear i3 b3 I6 N6
 go_wp2_with fail
 rw [rounds_succ]
 go_wp2_with fail
 refine (bw_byte w1.heap.size (((((([] ++ [45]) ++ Tx.dg 4 (-y)) ++ [45]) ++ Tx.dg 2 (m)) ++ [45]) ++ Tx.dg 2 (d)) 84 _ I7.out (by have q0 := LY.out; have q1 := LM.out; have q2 := LD.out; have q3 := LH.out; have q4 := LI.out; have q5 := LS.out; simp only [List.length_append, List.length_cons, List.length_nil]; omega)).mono ?_; rintro e w8 ⟨rfl, i3, b3⟩
 have I8 := Lib.hid i3; have N8 := Lib.hid (N7.out.trans b3); clear i3 b3 I7 N7
 go_wp2_with fail
 refine (wdig w1.heap.size ((((((([] ++ [45]) ++ Tx.dg 4 (-y)) ++ [45]) ++ Tx.dg 2 (m)) ++ [45]) ++ Tx.dg 2 (d)) ++ [84]) (h) 2 _ I8.out (by have q0 := LY.out; have q1 := LM.out; have q2 := LD.out; have q3 := LH.out; have q4 := LI.out; have q5 := LS.out; simp only [List.length_append, List.length_cons, List.length_nil]; omega) (by decide) (by omega) (by omega) (var_keep N8.out (var_keep B1.out T0.out))).mono ?_; rintro e w9 ⟨rfl, i3, b3⟩
 have I9 := Lib.hid i3; have N9 := Lib.hid (N8.out.trans b3); clear i3 b3 I8 N8
 go_wp2_with fail
 rw [rounds_succ]
 go_wp2_with fail
 refine (bw_byte w1.heap.size (((((((([] ++ [45]) ++ Tx.dg 4 (-y)) ++ [45]) ++ Tx.dg 2 (m)) ++ [45]) ++ Tx.dg 2 (d)) ++ [84]) ++ Tx.dg 2 (h)) 58 _ I9.out (by have q0 := LY.out; have q1 := LM.out; have q2 := LD.out; have q3 := LH.out; have q4 := LI.out; have q5 := LS.out; simp only [List.length_append, List.length_cons, List.length_nil]; omega)).mono ?_; rintro e w10 ⟨rfl, i3, b3⟩
 have I10 := Lib.hid i3; have N10 := Lib.hid (N9.out.trans b3); clear i3 b3 I9 N9
 go_wp2_with fail
 refine (wdig w1.heap.size ((((((((([] ++ [45]) ++ Tx.dg 4 (-y)) ++ [45]) ++ Tx.dg 2 (m)) ++ [45]) ++ Tx.dg 2 (d)) ++ [84]) ++ Tx.dg 2 (h)) ++ [58]) (i) 2 _ I10.out (by have q0 := LY.out; have q1 := LM.out; have q2 := LD.out; have q3 := LH.out; have q4 := LI.out; have q5 := LS.out; simp only [List.length_append, List.length_cons, List.length_nil]; omega) (by decide) (by omega) (by omega) (var_keep N10.out (var_keep B1.out T0.out))).mono ?_; rintro e w11 ⟨rfl, i3, b3⟩
 have I11 := Lib.hid i3; have N11 := Lib.hid (N10.out.trans b3); clear i3 b3 I10 N10
 go_wp2_with fail
 rw [rounds_succ]
 go_wp2_with fail
 refine (bw_byte w1.heap.size (((((((((([] ++ [45]) ++ Tx.dg 4 (-y)) ++ [45]) ++ Tx.dg 2 (m)) ++ [45]) ++ Tx.dg 2 (d)) ++ [84]) ++ Tx.dg 2 (h)) ++ [58]) ++ Tx.dg 2 (i)) 58 _ I11.out (by have q0 := LY.out; have q1 := LM.out; have q2 := LD.out; have q3 := LH.out; have q4 := LI.out; have q5 := LS.out; simp only [List.length_append, List.length_cons, List.length_nil]; omega)).mono ?_; rintro e w12 ⟨rfl, i3, b3⟩
 have I12 := Lib.hid i3; have N12 := Lib.hid (N11.out.trans b3); clear i3 b3 I11 N11
 go_wp2_with fail
 refine (wdig w1.heap.size ((((((((((([] ++ [45]) ++ Tx.dg 4 (-y)) ++ [45]) ++ Tx.dg 2 (m)) ++ [45]) ++ Tx.dg 2 (d)) ++ [84]) ++ Tx.dg 2 (h)) ++ [58]) ++ Tx.dg 2 (i)) ++ [58]) (s) 2 _ I12.out (by have q0 := LY.out; have q1 := LM.out; have q2 := LD.out; have q3 := LH.out; have q4 := LI.out; have q5 := LS.out; simp only [List.length_append, List.length_cons, List.length_nil]; omega) (by decide) (by omega) (by omega) (var_keep N12.out (var_keep B1.out T0.out))).mono ?_; rintro e w13 ⟨rfl, i3, b3⟩
 have I13 := Lib.hid i3; have N13 := Lib.hid (N12.out.trans b3); clear i3 b3 I12 N12
 go_wp2_with fail
 rw [rounds_succ]
 go_wp2_with fail
 refine (b_string w1.heap.size _ _ I13.out).mono ?_; rintro e w14 ⟨rfl, -, b3⟩
 have N14 := Lib.hid (N13.out.trans b3); clear b3
 go_wp2_with fail
 go_ret
 refine ⟨?_, below_step B1.out N14.out⟩
 simp [E.out]
set_option maxHeartbeats 8000000 in
set_option maxRecDepth 100000 in
theorem stext_pos (y m d h i s : Int) (w : World) (hr : St.rB y m d h i s = true) (hy : ¬ y < 0) (htab : Lib.TabIs Tryz.prog w "internal/strconv.uint64pow10" .u64 Lib.pow10Tab) :
  Calls Tryz.prog 25 #[.agg #[.int .i64 y, .int .i64 m, .int .i64 d, .int .i64 h, .int .i64 i, .int .i64 s]] w fun e w' => e = .returned (.string ⟨(Tx.txt y m d h i s).toArray⟩) ∧ Below w.heap.size w w' := by
 obtain ⟨r0, h0, h1, i0, i1, s0, s1⟩ := St.rB_true.1 hr
 obtain ⟨y0, y1, d0, d1⟩ := right_true.1 r0
 obtain ⟨m0, m1⟩ := Cal.month_of (right_true.1 r0)
 have lb := Cal.len_bd y m
 have LY := Lib.hid (Tx.dg_len 4 (y) (by omega) (by omega)); have LM := Lib.hid (Tx.dg_len 2 m (by omega) (by omega)); have LD := Lib.hid (Tx.dg_len 2 d (by omega) (by omega))
 have LH := Lib.hid (Tx.dg_len 2 h (by omega) (by omega)); have LI := Lib.hid (Tx.dg_len 2 i (by omega) (by omega)); have LS := Lib.hid (Tx.dg_len 2 s (by omega) (by omega))
 have R : Hid (∀ w, Calls Tryz.prog 48 #[.agg #[.int .i64 y, .int .i64 m, .int .i64 d, .int .i64 h, .int .i64 i, .int .i64 s]] w fun e w' => e = .returned (.bool true) ∧ Below w.heap.size w w') := fun w => by rw [← hr]; exact sright_any y m d h i s w
 have T0 := Lib.hid htab
 have E := Lib.hid (show Tx.txt y m d h i s = ((((((((((([] ++ Tx.dg 4 (y)) ++ [45]) ++ Tx.dg 2 (m)) ++ [45]) ++ Tx.dg 2 (d)) ++ [84]) ++ Tx.dg 2 (h)) ++ [58]) ++ Tx.dg 2 (i)) ++ [58]) ++ Tx.dg 2 (s)) by simp [Tx.txt, Tx.yr, Tx.beh, hy])
 generalize Tx.txt y m d h i s = ans at E
 clear hr r0 htab
 have ix0 : ∀ a b c f g w, Sem.run Tryz.prog (Instr.index 88 (.agg #[.int .i64 a, .int .i64 b, .int .i64 c, .int .i64 f, .int .i64 g]) (.int .i64 0)) w = .ok (.int .i64 a) w := fun _ _ _ _ _ _ => by kernel_rfl
 have ix1 : ∀ a b c f g w, Sem.run Tryz.prog (Instr.index 88 (.agg #[.int .i64 a, .int .i64 b, .int .i64 c, .int .i64 f, .int .i64 g]) (.int .i64 1)) w = .ok (.int .i64 b) w := fun _ _ _ _ _ _ => by kernel_rfl
 have ix2 : ∀ a b c f g w, Sem.run Tryz.prog (Instr.index 88 (.agg #[.int .i64 a, .int .i64 b, .int .i64 c, .int .i64 f, .int .i64 g]) (.int .i64 2)) w = .ok (.int .i64 c) w := fun _ _ _ _ _ _ => by kernel_rfl
 have ix3 : ∀ a b c f g w, Sem.run Tryz.prog (Instr.index 88 (.agg #[.int .i64 a, .int .i64 b, .int .i64 c, .int .i64 f, .int .i64 g]) (.int .i64 3)) w = .ok (.int .i64 f) w := fun _ _ _ _ _ _ => by kernel_rfl
 have ix4 : ∀ a b c f g w, Sem.run Tryz.prog (Instr.index 88 (.agg #[.int .i64 a, .int .i64 b, .int .i64 c, .int .i64 f, .int .i64 g]) (.int .i64 4)) w = .ok (.int .i64 g) w := fun _ _ _ _ _ _ => by kernel_rfl
 go_enter Tryz.func25, Tryz.ntmps25
 go_wp2_with fail
 refine (R.out _).mono ?_; rintro e w1 ⟨rfl, b1⟩
 have d1 : Below w.heap.size w w1 := below_step gr0 b1
 have B1 := Lib.hid d1
 have S1 : Bk6 w1 (w.heap.size) (.int .i64 y) (.int .i64 m) (.int .i64 d) (.int .i64 h) (.int .i64 i) (.int .i64 s) := by refine Bk6.of b1 (by simp <;> omega) (by intro j; simp [go_sem]) ?_ ?_ ?_ ?_ ?_ ?_ <;> simp [go_sem]
 clear b1 d1
 clear R
 have hlt : w.heap.size < w1.heap.size := S1.hb
 have N1 := Lib.hid (show Below w1.heap.size w1 (w1.alloc (.cells #[.pointer none, .slice none 0 0] 76)) from (Below.refl _ _).alloc (Nat.le_refl _) _)
 have I1 := Lib.hid (IsB.fresh w1)
 have c_b := S1.hb; have c_f := S1.fz; have c_0 := S1.k0; have c_1 := S1.k1; have c_2 := S1.k2; have c_3 := S1.k3; have c_4 := S1.k4; have c_5 := S1.k5
 go_wp2_with fail
 clear c_b c_f c_0 c_1 c_2 c_3 c_4 c_5
 refine (wdig w1.heap.size [] (y) 4 _ I1.out (by have q0 := LY.out; have q1 := LM.out; have q2 := LD.out; have q3 := LH.out; have q4 := LI.out; have q5 := LS.out; simp only [List.length_append, List.length_cons, List.length_nil]; omega) (by decide) (by omega) (by omega) (var_keep N1.out (var_keep B1.out T0.out))).mono ?_; rintro e w2 ⟨rfl, i3, b3⟩
 have I2 := Lib.hid i3; have N2 := Lib.hid (N1.out.trans b3); clear i3 b3 I1 N1
 have SS := S1.keep N2.out
 have c_b := SS.hb; have c_f := SS.fz; have c_0 := SS.k0; have c_1 := SS.k1; have c_2 := SS.k2; have c_3 := SS.k3; have c_4 := SS.k4; have c_5 := SS.k5
 go_wp2_with fail
 clear c_b c_f c_0 c_1 c_2 c_3 c_4 c_5 SS
 refine wp_loop_rounds 6 ?_
 rw [rounds_succ]
 go_wp2_with fail
 refine (bw_byte w1.heap.size ([] ++ Tx.dg 4 (y)) 45 _ I2.out (by have q0 := LY.out; have q1 := LM.out; have q2 := LD.out; have q3 := LH.out; have q4 := LI.out; have q5 := LS.out; simp only [List.length_append, List.length_cons, List.length_nil]; omega)).mono ?_; rintro e w3 ⟨rfl, i3, b3⟩
 have I3 := Lib.hid i3; have N3 := Lib.hid (N2.out.trans b3); clear i3 b3 I2 N2
 go_wp2_with fail
 refine (wdig w1.heap.size (([] ++ Tx.dg 4 (y)) ++ [45]) (m) 2 _ I3.out (by have q0 := LY.out; have q1 := LM.out; have q2 := LD.out; have q3 := LH.out; have q4 := LI.out; have q5 := LS.out; simp only [List.length_append, List.length_cons, List.length_nil]; omega) (by decide) (by omega) (by omega) (var_keep N3.out (var_keep B1.out T0.out))).mono ?_; rintro e w4 ⟨rfl, i3, b3⟩
 have I4 := Lib.hid i3; have N4 := Lib.hid (N3.out.trans b3); clear i3 b3 I3 N3
 go_wp2_with fail
 rw [rounds_succ]
 go_wp2_with fail
 refine (bw_byte w1.heap.size ((([] ++ Tx.dg 4 (y)) ++ [45]) ++ Tx.dg 2 (m)) 45 _ I4.out (by have q0 := LY.out; have q1 := LM.out; have q2 := LD.out; have q3 := LH.out; have q4 := LI.out; have q5 := LS.out; simp only [List.length_append, List.length_cons, List.length_nil]; omega)).mono ?_; rintro e w5 ⟨rfl, i3, b3⟩
 have I5 := Lib.hid i3; have N5 := Lib.hid (N4.out.trans b3); clear i3 b3 I4 N4
 go_wp2_with fail
 refine (wdig w1.heap.size (((([] ++ Tx.dg 4 (y)) ++ [45]) ++ Tx.dg 2 (m)) ++ [45]) (d) 2 _ I5.out (by have q0 := LY.out; have q1 := LM.out; have q2 := LD.out; have q3 := LH.out; have q4 := LI.out; have q5 := LS.out; simp only [List.length_append, List.length_cons, List.length_nil]; omega) (by decide) (by omega) (by omega) (var_keep N5.out (var_keep B1.out T0.out))).mono ?_; rintro e w6 ⟨rfl, i3, b3⟩
 have I6 := Lib.hid i3; have N6 := Lib.hid (N5.out.trans b3); clear i3 b3 I5 N5
 go_wp2_with fail
 rw [rounds_succ]
 go_wp2_with fail
 refine (bw_byte w1.heap.size ((((([] ++ Tx.dg 4 (y)) ++ [45]) ++ Tx.dg 2 (m)) ++ [45]) ++ Tx.dg 2 (d)) 84 _ I6.out (by have q0 := LY.out; have q1 := LM.out; have q2 := LD.out; have q3 := LH.out; have q4 := LI.out; have q5 := LS.out; simp only [List.length_append, List.length_cons, List.length_nil]; omega)).mono ?_; rintro e w7 ⟨rfl, i3, b3⟩
 have I7 := Lib.hid i3; have N7 := Lib.hid (N6.out.trans b3); clear i3 b3 I6 N6
 go_wp2_with fail
 refine (wdig w1.heap.size (((((([] ++ Tx.dg 4 (y)) ++ [45]) ++ Tx.dg 2 (m)) ++ [45]) ++ Tx.dg 2 (d)) ++ [84]) (h) 2 _ I7.out (by have q0 := LY.out; have q1 := LM.out; have q2 := LD.out; have q3 := LH.out; have q4 := LI.out; have q5 := LS.out; simp only [List.length_append, List.length_cons, List.length_nil]; omega) (by decide) (by omega) (by omega) (var_keep N7.out (var_keep B1.out T0.out))).mono ?_; rintro e w8 ⟨rfl, i3, b3⟩
 have I8 := Lib.hid i3; have N8 := Lib.hid (N7.out.trans b3); clear i3 b3 I7 N7
 go_wp2_with fail
 rw [rounds_succ]
 go_wp2_with fail
 refine (bw_byte w1.heap.size ((((((([] ++ Tx.dg 4 (y)) ++ [45]) ++ Tx.dg 2 (m)) ++ [45]) ++ Tx.dg 2 (d)) ++ [84]) ++ Tx.dg 2 (h)) 58 _ I8.out (by have q0 := LY.out; have q1 := LM.out; have q2 := LD.out; have q3 := LH.out; have q4 := LI.out; have q5 := LS.out; simp only [List.length_append, List.length_cons, List.length_nil]; omega)).mono ?_; rintro e w9 ⟨rfl, i3, b3⟩
 have I9 := Lib.hid i3; have N9 := Lib.hid (N8.out.trans b3); clear i3 b3 I8 N8
 go_wp2_with fail
 refine (wdig w1.heap.size (((((((([] ++ Tx.dg 4 (y)) ++ [45]) ++ Tx.dg 2 (m)) ++ [45]) ++ Tx.dg 2 (d)) ++ [84]) ++ Tx.dg 2 (h)) ++ [58]) (i) 2 _ I9.out (by have q0 := LY.out; have q1 := LM.out; have q2 := LD.out; have q3 := LH.out; have q4 := LI.out; have q5 := LS.out; simp only [List.length_append, List.length_cons, List.length_nil]; omega) (by decide) (by omega) (by omega) (var_keep N9.out (var_keep B1.out T0.out))).mono ?_; rintro e w10 ⟨rfl, i3, b3⟩
 have I10 := Lib.hid i3; have N10 := Lib.hid (N9.out.trans b3); clear i3 b3 I9 N9
 go_wp2_with fail
 rw [rounds_succ]
 go_wp2_with fail
 refine (bw_byte w1.heap.size ((((((((([] ++ Tx.dg 4 (y)) ++ [45]) ++ Tx.dg 2 (m)) ++ [45]) ++ Tx.dg 2 (d)) ++ [84]) ++ Tx.dg 2 (h)) ++ [58]) ++ Tx.dg 2 (i)) 58 _ I10.out (by have q0 := LY.out; have q1 := LM.out; have q2 := LD.out; have q3 := LH.out; have q4 := LI.out; have q5 := LS.out; simp only [List.length_append, List.length_cons, List.length_nil]; omega)).mono ?_; rintro e w11 ⟨rfl, i3, b3⟩
 have I11 := Lib.hid i3; have N11 := Lib.hid (N10.out.trans b3); clear i3 b3 I10 N10
 go_wp2_with fail
 refine (wdig w1.heap.size (((((((((([] ++ Tx.dg 4 (y)) ++ [45]) ++ Tx.dg 2 (m)) ++ [45]) ++ Tx.dg 2 (d)) ++ [84]) ++ Tx.dg 2 (h)) ++ [58]) ++ Tx.dg 2 (i)) ++ [58]) (s) 2 _ I11.out (by have q0 := LY.out; have q1 := LM.out; have q2 := LD.out; have q3 := LH.out; have q4 := LI.out; have q5 := LS.out; simp only [List.length_append, List.length_cons, List.length_nil]; omega) (by decide) (by omega) (by omega) (var_keep N11.out (var_keep B1.out T0.out))).mono ?_; rintro e w12 ⟨rfl, i3, b3⟩
 have I12 := Lib.hid i3; have N12 := Lib.hid (N11.out.trans b3); clear i3 b3 I11 N11
 go_wp2_with fail
 rw [rounds_succ]
 go_wp2_with fail
 refine (b_string w1.heap.size _ _ I12.out).mono ?_; rintro e w13 ⟨rfl, -, b3⟩
 have N13 := Lib.hid (N12.out.trans b3); clear b3
 go_wp2_with fail
 go_ret
 refine ⟨?_, below_step B1.out N13.out⟩
 simp [E.out]
set_option maxHeartbeats 1000000 in
theorem stext_no (y m d h i s : Int) (w : World) (hr : St.rB y m d h i s = false) :
  Calls Tryz.prog 25 #[.agg #[.int .i64 y, .int .i64 m, .int .i64 d, .int .i64 h, .int .i64 i, .int .i64 s]] w fun e w' => e = .returned (.string ⟨#[]⟩) ∧ Below w.heap.size w w' := by
 have R : Hid (∀ w, Calls Tryz.prog 48 #[.agg #[.int .i64 y, .int .i64 m, .int .i64 d, .int .i64 h, .int .i64 i, .int .i64 s]] w fun e w' => e = .returned (.bool false) ∧ Below w.heap.size w w') := fun w => by rw [← hr]; exact sright_any y m d h i s w
 clear hr
 go_enter Tryz.func25, Tryz.ntmps25
 go_wp2_with fail
 refine (R.out _).mono ?_; rintro e w1 ⟨rfl, b1⟩
 have d1 : Below w.heap.size w w1 := below_step gr0 b1
 have B1 := Lib.hid d1
 have S1 : Bk6 w1 (w.heap.size) (.int .i64 y) (.int .i64 m) (.int .i64 d) (.int .i64 h) (.int .i64 i) (.int .i64 s) := by refine Bk6.of b1 (by simp <;> omega) (by intro j; simp [go_sem]) ?_ ?_ ?_ ?_ ?_ ?_ <;> simp [go_sem]
 clear b1 d1
 have tx := S1; obtain ⟨cS_b, cS_f, cS_0, cS_1, cS_2, cS_3, cS_4, cS_5⟩ := tx
 go_wp2_with fail
 clear cS_b cS_f cS_0 cS_1 cS_2 cS_3 cS_4 cS_5
 go_ret
 exact ⟨rfl, (grB B1)⟩
theorem stext_any (y m d h i s : Int) (w : World) (htab : Lib.TabIs Tryz.prog w "internal/strconv.uint64pow10" .u64 Lib.pow10Tab) :
  Calls Tryz.prog 25 #[.agg #[.int .i64 y, .int .i64 m, .int .i64 d, .int .i64 h, .int .i64 i, .int .i64 s]] w fun e w' => e = .returned (.string ⟨(St.tx y m d h i s).toArray⟩) ∧ Below w.heap.size w w' := by
 cases hr : St.rB y m d h i s
 ·
  rw [show St.tx y m d h i s = [] by unfold St.tx; rw [hr]; rfl]; exact stext_no y m d h i s w hr
 ·
  rw [show St.tx y m d h i s = Tx.txt y m d h i s by unfold St.tx; rw [hr]; rfl]
  by_cases hy : y < 0
  ·
   exact stext_neg y m d h i s w hr hy htab
  ·
   exact stext_pos y m d h i s w hr hy htab
end Go.Proofs.YtifgiclnofdnkaaGreatDoor
