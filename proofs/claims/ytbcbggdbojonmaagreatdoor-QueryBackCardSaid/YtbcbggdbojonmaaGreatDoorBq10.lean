/- Joined: StR. -/
import Derived.Test.YtbcbggdbojonmaaGreatDoorBq01
import Derived.Test.YtbcbggdbojonmaaGreatDoorBq09
import Derived.Test.YtbcbggdbojonmaaGreatDoorBq08
set_option linter.unusedVariables false
set_option linter.unusedSimpArgs false
namespace Go.Proofs.YtbcbggdbojonmaaGreatDoor
open Go.RowKit
set_option maxHeartbeats 1000000 in
theorem sright_0 (y m d h i s : Int) (w : World) (hr : rightB y m d = false) :
  Calls Tryz.prog 37 #[.agg #[.int .i64 y, .int .i64 m, .int .i64 d, .int .i64 h, .int .i64 i, .int .i64 s]] w fun e w' => e = .returned (.bool false) ∧ Below w.heap.size w w' := by
 have R : Hid (∀ w, Calls Tryz.prog 67 #[.agg #[.int .i64 y, .int .i64 m, .int .i64 d]] w fun e w' => e = .returned (.bool false) ∧ Below w.heap.size w w') := fun w => by rw [← hr]; exact right_any y m d w
 clear hr
 go_enter Tryz.func37, Tryz.ntmps37
 go_wp2_with fail
 refine (R.out _).mono ?_; rintro e w1 ⟨rfl, b1⟩
 have d1 : Below w.heap.size w w1 := below_step gr0 b1
 have B1 := Lib.hid d1
 have S1 : Bk6 w1 (w.heap.size) (.int .i64 y) (.int .i64 m) (.int .i64 d) (.int .i64 h) (.int .i64 i) (.int .i64 s) := by refine Bk6.of b1 (by simp <;> omega) (by intro j; simp [go_sem]) ?_ ?_ ?_ ?_ ?_ ?_ <;> simp [go_sem]
 clear b1 d1
 have tx := S1; obtain ⟨cS_b, cS_f, cS_0, cS_1, cS_2, cS_3, cS_4, cS_5⟩ := tx
 go_wp2_with fail
 clear cS_b cS_f cS_0 cS_1 cS_2 cS_3 cS_4 cS_5
 go_ret
 exact ⟨rfl, (grB B1)⟩
set_option maxHeartbeats 1000000 in
theorem sright_1 (y m d h i s : Int) (w : World) (hr : rightB y m d = true) (c1 : ¬ 0 ≤ h) :
  Calls Tryz.prog 37 #[.agg #[.int .i64 y, .int .i64 m, .int .i64 d, .int .i64 h, .int .i64 i, .int .i64 s]] w fun e w' => e = .returned (.bool false) ∧ Below w.heap.size w w' := by
 have R : Hid (∀ w, Calls Tryz.prog 67 #[.agg #[.int .i64 y, .int .i64 m, .int .i64 d]] w fun e w' => e = .returned (.bool true) ∧ Below w.heap.size w w') := fun w => by rw [← hr]; exact right_any y m d w
 clear hr
 go_enter Tryz.func37, Tryz.ntmps37
 go_wp2_with fail
 refine (R.out _).mono ?_; rintro e w1 ⟨rfl, b1⟩
 have d1 : Below w.heap.size w w1 := below_step gr0 b1
 have B1 := Lib.hid d1
 have S1 : Bk6 w1 (w.heap.size) (.int .i64 y) (.int .i64 m) (.int .i64 d) (.int .i64 h) (.int .i64 i) (.int .i64 s) := by refine Bk6.of b1 (by simp <;> omega) (by intro j; simp [go_sem]) ?_ ?_ ?_ ?_ ?_ ?_ <;> simp [go_sem]
 clear b1 d1
 have tx := S1; obtain ⟨cS_b, cS_f, cS_0, cS_1, cS_2, cS_3, cS_4, cS_5⟩ := tx
 go_wp2_with fail
 clear cS_b cS_f cS_0 cS_1 cS_2 cS_3 cS_4 cS_5
 go_ret
 exact ⟨rfl, (grB B1)⟩
set_option maxHeartbeats 1000000 in
theorem sright_2 (y m d h i s : Int) (w : World) (hr : rightB y m d = true) (c1 : 0 ≤ h) (c2 : ¬ h < 24) :
  Calls Tryz.prog 37 #[.agg #[.int .i64 y, .int .i64 m, .int .i64 d, .int .i64 h, .int .i64 i, .int .i64 s]] w fun e w' => e = .returned (.bool false) ∧ Below w.heap.size w w' := by
 have R : Hid (∀ w, Calls Tryz.prog 67 #[.agg #[.int .i64 y, .int .i64 m, .int .i64 d]] w fun e w' => e = .returned (.bool true) ∧ Below w.heap.size w w') := fun w => by rw [← hr]; exact right_any y m d w
 clear hr
 go_enter Tryz.func37, Tryz.ntmps37
 go_wp2_with fail
 refine (R.out _).mono ?_; rintro e w1 ⟨rfl, b1⟩
 have d1 : Below w.heap.size w w1 := below_step gr0 b1
 have B1 := Lib.hid d1
 have S1 : Bk6 w1 (w.heap.size) (.int .i64 y) (.int .i64 m) (.int .i64 d) (.int .i64 h) (.int .i64 i) (.int .i64 s) := by refine Bk6.of b1 (by simp <;> omega) (by intro j; simp [go_sem]) ?_ ?_ ?_ ?_ ?_ ?_ <;> simp [go_sem]
 clear b1 d1
 have tx := S1; obtain ⟨cS_b, cS_f, cS_0, cS_1, cS_2, cS_3, cS_4, cS_5⟩ := tx
 go_wp2_with fail
 clear cS_b cS_f cS_0 cS_1 cS_2 cS_3 cS_4 cS_5
 go_ret
 exact ⟨rfl, (grB B1)⟩
set_option maxHeartbeats 1000000 in
theorem sright_3 (y m d h i s : Int) (w : World) (hr : rightB y m d = true) (c1 : 0 ≤ h) (c2 : h < 24) (c3 : ¬ 0 ≤ i) :
  Calls Tryz.prog 37 #[.agg #[.int .i64 y, .int .i64 m, .int .i64 d, .int .i64 h, .int .i64 i, .int .i64 s]] w fun e w' => e = .returned (.bool false) ∧ Below w.heap.size w w' := by
 have R : Hid (∀ w, Calls Tryz.prog 67 #[.agg #[.int .i64 y, .int .i64 m, .int .i64 d]] w fun e w' => e = .returned (.bool true) ∧ Below w.heap.size w w') := fun w => by rw [← hr]; exact right_any y m d w
 clear hr
 go_enter Tryz.func37, Tryz.ntmps37
 go_wp2_with fail
 refine (R.out _).mono ?_; rintro e w1 ⟨rfl, b1⟩
 have d1 : Below w.heap.size w w1 := below_step gr0 b1
 have B1 := Lib.hid d1
 have S1 : Bk6 w1 (w.heap.size) (.int .i64 y) (.int .i64 m) (.int .i64 d) (.int .i64 h) (.int .i64 i) (.int .i64 s) := by refine Bk6.of b1 (by simp <;> omega) (by intro j; simp [go_sem]) ?_ ?_ ?_ ?_ ?_ ?_ <;> simp [go_sem]
 clear b1 d1
 have tx := S1; obtain ⟨cS_b, cS_f, cS_0, cS_1, cS_2, cS_3, cS_4, cS_5⟩ := tx
 go_wp2_with fail
 clear cS_b cS_f cS_0 cS_1 cS_2 cS_3 cS_4 cS_5
 go_ret
 exact ⟨rfl, (grB B1)⟩
set_option maxHeartbeats 1000000 in
theorem sright_4 (y m d h i s : Int) (w : World) (hr : rightB y m d = true) (c1 : 0 ≤ h) (c2 : h < 24) (c3 : 0 ≤ i) (c4 : ¬ i < 60) :
  Calls Tryz.prog 37 #[.agg #[.int .i64 y, .int .i64 m, .int .i64 d, .int .i64 h, .int .i64 i, .int .i64 s]] w fun e w' => e = .returned (.bool false) ∧ Below w.heap.size w w' := by
 have R : Hid (∀ w, Calls Tryz.prog 67 #[.agg #[.int .i64 y, .int .i64 m, .int .i64 d]] w fun e w' => e = .returned (.bool true) ∧ Below w.heap.size w w') := fun w => by rw [← hr]; exact right_any y m d w
 clear hr
 go_enter Tryz.func37, Tryz.ntmps37
 go_wp2_with fail
 refine (R.out _).mono ?_; rintro e w1 ⟨rfl, b1⟩
 have d1 : Below w.heap.size w w1 := below_step gr0 b1
 have B1 := Lib.hid d1
 have S1 : Bk6 w1 (w.heap.size) (.int .i64 y) (.int .i64 m) (.int .i64 d) (.int .i64 h) (.int .i64 i) (.int .i64 s) := by refine Bk6.of b1 (by simp <;> omega) (by intro j; simp [go_sem]) ?_ ?_ ?_ ?_ ?_ ?_ <;> simp [go_sem]
 clear b1 d1
 have tx := S1; obtain ⟨cS_b, cS_f, cS_0, cS_1, cS_2, cS_3, cS_4, cS_5⟩ := tx
 go_wp2_with fail
 clear cS_b cS_f cS_0 cS_1 cS_2 cS_3 cS_4 cS_5
 go_ret
 exact ⟨rfl, (grB B1)⟩
set_option maxHeartbeats 1000000 in
theorem sright_5 (y m d h i s : Int) (w : World) (hr : rightB y m d = true) (c1 : 0 ≤ h) (c2 : h < 24) (c3 : 0 ≤ i) (c4 : i < 60) (c5 : ¬ 0 ≤ s) :
  Calls Tryz.prog 37 #[.agg #[.int .i64 y, .int .i64 m, .int .i64 d, .int .i64 h, .int .i64 i, .int .i64 s]] w fun e w' => e = .returned (.bool false) ∧ Below w.heap.size w w' := by
 have R : Hid (∀ w, Calls Tryz.prog 67 #[.agg #[.int .i64 y, .int .i64 m, .int .i64 d]] w fun e w' => e = .returned (.bool true) ∧ Below w.heap.size w w') := fun w => by rw [← hr]; exact right_any y m d w
 clear hr
 go_enter Tryz.func37, Tryz.ntmps37
 go_wp2_with fail
 refine (R.out _).mono ?_; rintro e w1 ⟨rfl, b1⟩
 have d1 : Below w.heap.size w w1 := below_step gr0 b1
 have B1 := Lib.hid d1
 have S1 : Bk6 w1 (w.heap.size) (.int .i64 y) (.int .i64 m) (.int .i64 d) (.int .i64 h) (.int .i64 i) (.int .i64 s) := by refine Bk6.of b1 (by simp <;> omega) (by intro j; simp [go_sem]) ?_ ?_ ?_ ?_ ?_ ?_ <;> simp [go_sem]
 clear b1 d1
 have tx := S1; obtain ⟨cS_b, cS_f, cS_0, cS_1, cS_2, cS_3, cS_4, cS_5⟩ := tx
 go_wp2_with fail
 clear cS_b cS_f cS_0 cS_1 cS_2 cS_3 cS_4 cS_5
 go_ret
 exact ⟨rfl, (grB B1)⟩
set_option maxHeartbeats 1000000 in
theorem sright_6 (y m d h i s : Int) (w : World) (hr : rightB y m d = true) (c1 : 0 ≤ h) (c2 : h < 24) (c3 : 0 ≤ i) (c4 : i < 60) (c5 : 0 ≤ s) (c6 : ¬ s < 60) :
  Calls Tryz.prog 37 #[.agg #[.int .i64 y, .int .i64 m, .int .i64 d, .int .i64 h, .int .i64 i, .int .i64 s]] w fun e w' => e = .returned (.bool false) ∧ Below w.heap.size w w' := by
 have R : Hid (∀ w, Calls Tryz.prog 67 #[.agg #[.int .i64 y, .int .i64 m, .int .i64 d]] w fun e w' => e = .returned (.bool true) ∧ Below w.heap.size w w') := fun w => by rw [← hr]; exact right_any y m d w
 have g : decide (s < 60) = false := decide_eq_false c6
 clear c6
 clear hr
 go_enter Tryz.func37, Tryz.ntmps37
 go_wp2_with fail
 refine (R.out _).mono ?_; rintro e w1 ⟨rfl, b1⟩
 have d1 : Below w.heap.size w w1 := below_step gr0 b1
 have B1 := Lib.hid d1
 have S1 : Bk6 w1 (w.heap.size) (.int .i64 y) (.int .i64 m) (.int .i64 d) (.int .i64 h) (.int .i64 i) (.int .i64 s) := by refine Bk6.of b1 (by simp <;> omega) (by intro j; simp [go_sem]) ?_ ?_ ?_ ?_ ?_ ?_ <;> simp [go_sem]
 clear b1 d1
 have tx := S1; obtain ⟨cS_b, cS_f, cS_0, cS_1, cS_2, cS_3, cS_4, cS_5⟩ := tx
 go_wp2_with fail
 clear cS_b cS_f cS_0 cS_1 cS_2 cS_3 cS_4 cS_5
 go_ret
 exact ⟨rfl, (grB B1)⟩
set_option maxHeartbeats 1000000 in
theorem sright_7 (y m d h i s : Int) (w : World) (hr : rightB y m d = true) (c1 : 0 ≤ h) (c2 : h < 24) (c3 : 0 ≤ i) (c4 : i < 60) (c5 : 0 ≤ s) (c6 : s < 60) :
  Calls Tryz.prog 37 #[.agg #[.int .i64 y, .int .i64 m, .int .i64 d, .int .i64 h, .int .i64 i, .int .i64 s]] w fun e w' => e = .returned (.bool true) ∧ Below w.heap.size w w' := by
 have R : Hid (∀ w, Calls Tryz.prog 67 #[.agg #[.int .i64 y, .int .i64 m, .int .i64 d]] w fun e w' => e = .returned (.bool true) ∧ Below w.heap.size w w') := fun w => by rw [← hr]; exact right_any y m d w
 clear hr
 go_enter Tryz.func37, Tryz.ntmps37
 go_wp2_with fail
 refine (R.out _).mono ?_; rintro e w1 ⟨rfl, b1⟩
 have d1 : Below w.heap.size w w1 := below_step gr0 b1
 have B1 := Lib.hid d1
 have S1 : Bk6 w1 (w.heap.size) (.int .i64 y) (.int .i64 m) (.int .i64 d) (.int .i64 h) (.int .i64 i) (.int .i64 s) := by refine Bk6.of b1 (by simp <;> omega) (by intro j; simp [go_sem]) ?_ ?_ ?_ ?_ ?_ ?_ <;> simp [go_sem]
 clear b1 d1
 have tx := S1; obtain ⟨cS_b, cS_f, cS_0, cS_1, cS_2, cS_3, cS_4, cS_5⟩ := tx
 go_wp2_with fail
 clear cS_b cS_f cS_0 cS_1 cS_2 cS_3 cS_4 cS_5
 go_ret
 exact ⟨rfl, (grB B1)⟩
theorem sright_any (y m d h i s : Int) (w : World) :
  Calls Tryz.prog 37 #[.agg #[.int .i64 y, .int .i64 m, .int .i64 d, .int .i64 h, .int .i64 i, .int .i64 s]] w fun e w' => e = .returned (.bool (St.rB y m d h i s)) ∧ Below w.heap.size w w' := by
 cases hr : rightB y m d
 ·
  rw [show St.rB y m d h i s = false by unfold St.rB; rw [hr]; rfl]; exact sright_0 y m d h i s w hr
 ·
  by_cases c1 : 0 ≤ h
  ·
   by_cases c2 : h < 24
   ·
    by_cases c3 : 0 ≤ i
    ·
     by_cases c4 : i < 60
     ·
      by_cases c5 : 0 ≤ s
      ·
       by_cases c6 : s < 60
       ·
        rw [show St.rB y m d h i s = true by unfold St.rB; rw [hr]; simp [c1, c2, c3, c4, c5, c6]]; exact sright_7 y m d h i s w hr c1 c2 c3 c4 c5 c6
       ·
        rw [show St.rB y m d h i s = false by unfold St.rB; rw [hr]; simp [c1, c2, c3, c4, c5, c6]]; exact sright_6 y m d h i s w hr c1 c2 c3 c4 c5 c6
      ·
       rw [show St.rB y m d h i s = false by unfold St.rB; rw [hr]; simp [c1, c2, c3, c4, c5]]; exact sright_5 y m d h i s w hr c1 c2 c3 c4 c5
     ·
      rw [show St.rB y m d h i s = false by unfold St.rB; rw [hr]; simp [c1, c2, c3, c4]]; exact sright_4 y m d h i s w hr c1 c2 c3 c4
    ·
     rw [show St.rB y m d h i s = false by unfold St.rB; rw [hr]; simp [c1, c2, c3]]; exact sright_3 y m d h i s w hr c1 c2 c3
   ·
    rw [show St.rB y m d h i s = false by unfold St.rB; rw [hr]; simp [c1, c2]]; exact sright_2 y m d h i s w hr c1 c2
  ·
   rw [show St.rB y m d h i s = false by unfold St.rB; rw [hr]; simp [c1]]; exact sright_1 y m d h i s w hr c1
end Go.Proofs.YtbcbggdbojonmaaGreatDoor
