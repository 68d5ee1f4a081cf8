/- Joined: RsB. -/
import Derived.Test.YtifgiclnofdnkaaGreatDoorBy01
import Derived.Test.YtifgiclnofdnkaaGreatDoorBy10
import Derived.Test.YtifgiclnofdnkaaGreatDoorBy12
import Derived.Test.YtifgiclnofdnkaaGreatDoorBy03
import Derived.Lib.QuietBelow
set_option linter.unusedVariables false
set_option linter.unusedSimpArgs false
namespace Go.Proofs.YtifgiclnofdnkaaGreatDoor
open Go.RowKit
set_option maxHeartbeats 1000000 in
theorem rsright_0 (y m d h i s : Int) (w : World) (hr : rightB y m d = false) :
  Calls Tryz.prog 55 #[.agg #[.int .i64 y, .int .i64 m, .int .i64 d, .int .i64 h, .int .i64 i, .int .i64 s]] w fun e w' => e = .returned (.bool false) ∧ Below w.heap.size w w' := by
 have R : Hid (∀ w, Calls Tryz.prog 85 #[.agg #[.int .i64 y, .int .i64 m, .int .i64 d]] w fun e w' => e = .returned (.bool false) ∧ Below w.heap.size w w') := fun w => by rw [← hr]; exact rright_any y m d w
 clear hr
 go_enter Tryz.func55, Tryz.ntmps55
 go_wp2_with fail
 refine (R.out _).mono ?_; rintro e w1 ⟨rfl, b1⟩
 have d1 : Below w.heap.size w w1 := below_step gr0 b1
 have B1 := Lib.hid d1
 have S1 : Bk6 w1 (w.heap.size) (.int .i64 y) (.int .i64 m) (.int .i64 d) (.int .i64 h) (.int .i64 i) (.int .i64 s) := by refine Bk6.of b1 (by simp <;> omega) (by intro j; simp [go_sem]) ?_ ?_ ?_ ?_ ?_ ?_ <;> simp [go_sem]
 clear b1 d1
 have tx := S1; obtain ⟨cS_b, cS_f, cS_0, cS_1, cS_2, cS_3, cS_4, cS_5⟩ := tx
 go_wp2_with fail
 clear cS_b cS_f cS_0 cS_1 cS_2 cS_3 cS_4 cS_5
 go_ret
 exact ⟨rfl, (grB B1)⟩
set_option maxHeartbeats 1000000 in
theorem rsright_1 (y m d h i s : Int) (w : World) (hr : rightB y m d = true) (c1 : ¬ 0 ≤ h) :
  Calls Tryz.prog 55 #[.agg #[.int .i64 y, .int .i64 m, .int .i64 d, .int .i64 h, .int .i64 i, .int .i64 s]] w fun e w' => e = .returned (.bool false) ∧ Below w.heap.size w w' := by
 have R : Hid (∀ w, Calls Tryz.prog 85 #[.agg #[.int .i64 y, .int .i64 m, .int .i64 d]] w fun e w' => e = .returned (.bool true) ∧ Below w.heap.size w w') := fun w => by rw [← hr]; exact rright_any y m d w
 clear hr
 go_enter Tryz.func55, Tryz.ntmps55
 go_wp2_with fail
 refine (R.out _).mono ?_; rintro e w1 ⟨rfl, b1⟩
 have d1 : Below w.heap.size w w1 := below_step gr0 b1
 have B1 := Lib.hid d1
 have S1 : Bk6 w1 (w.heap.size) (.int .i64 y) (.int .i64 m) (.int .i64 d) (.int .i64 h) (.int .i64 i) (.int .i64 s) := by refine Bk6.of b1 (by simp <;> omega) (by intro j; simp [go_sem]) ?_ ?_ ?_ ?_ ?_ ?_ <;> simp [go_sem]
 clear b1 d1
 have tx := S1; obtain ⟨cS_b, cS_f, cS_0, cS_1, cS_2, cS_3, cS_4, cS_5⟩ := tx
 go_wp2_with fail
 clear cS_b cS_f cS_0 cS_1 cS_2 cS_3 cS_4 cS_5
 go_ret
 exact ⟨rfl, (grB B1)⟩
set_option maxHeartbeats 1000000 in
theorem rsright_2 (y m d h i s : Int) (w : World) (hr : rightB y m d = true) (c1 : 0 ≤ h) (c2 : ¬ h ≤ 23) :
  Calls Tryz.prog 55 #[.agg #[.int .i64 y, .int .i64 m, .int .i64 d, .int .i64 h, .int .i64 i, .int .i64 s]] w fun e w' => e = .returned (.bool false) ∧ Below w.heap.size w w' := by
 have R : Hid (∀ w, Calls Tryz.prog 85 #[.agg #[.int .i64 y, .int .i64 m, .int .i64 d]] w fun e w' => e = .returned (.bool true) ∧ Below w.heap.size w w') := fun w => by rw [← hr]; exact rright_any y m d w
 clear hr
 go_enter Tryz.func55, Tryz.ntmps55
 go_wp2_with fail
 refine (R.out _).mono ?_; rintro e w1 ⟨rfl, b1⟩
 have d1 : Below w.heap.size w w1 := below_step gr0 b1
 have B1 := Lib.hid d1
 have S1 : Bk6 w1 (w.heap.size) (.int .i64 y) (.int .i64 m) (.int .i64 d) (.int .i64 h) (.int .i64 i) (.int .i64 s) := by refine Bk6.of b1 (by simp <;> omega) (by intro j; simp [go_sem]) ?_ ?_ ?_ ?_ ?_ ?_ <;> simp [go_sem]
 clear b1 d1
 have tx := S1; obtain ⟨cS_b, cS_f, cS_0, cS_1, cS_2, cS_3, cS_4, cS_5⟩ := tx
 go_wp2_with fail
 clear cS_b cS_f cS_0 cS_1 cS_2 cS_3 cS_4 cS_5
 go_ret
 exact ⟨rfl, (grB B1)⟩
set_option maxHeartbeats 1000000 in
theorem rsright_3 (y m d h i s : Int) (w : World) (hr : rightB y m d = true) (c1 : 0 ≤ h) (c2 : h ≤ 23) (c3 : ¬ 0 ≤ i) :
  Calls Tryz.prog 55 #[.agg #[.int .i64 y, .int .i64 m, .int .i64 d, .int .i64 h, .int .i64 i, .int .i64 s]] w fun e w' => e = .returned (.bool false) ∧ Below w.heap.size w w' := by
 have R : Hid (∀ w, Calls Tryz.prog 85 #[.agg #[.int .i64 y, .int .i64 m, .int .i64 d]] w fun e w' => e = .returned (.bool true) ∧ Below w.heap.size w w') := fun w => by rw [← hr]; exact rright_any y m d w
 clear hr
 go_enter Tryz.func55, Tryz.ntmps55
 go_wp2_with fail
 refine (R.out _).mono ?_; rintro e w1 ⟨rfl, b1⟩
 have d1 : Below w.heap.size w w1 := below_step gr0 b1
 have B1 := Lib.hid d1
 have S1 : Bk6 w1 (w.heap.size) (.int .i64 y) (.int .i64 m) (.int .i64 d) (.int .i64 h) (.int .i64 i) (.int .i64 s) := by refine Bk6.of b1 (by simp <;> omega) (by intro j; simp [go_sem]) ?_ ?_ ?_ ?_ ?_ ?_ <;> simp [go_sem]
 clear b1 d1
 have tx := S1; obtain ⟨cS_b, cS_f, cS_0, cS_1, cS_2, cS_3, cS_4, cS_5⟩ := tx
 go_wp2_with fail
 clear cS_b cS_f cS_0 cS_1 cS_2 cS_3 cS_4 cS_5
 go_ret
 exact ⟨rfl, (grB B1)⟩
set_option maxHeartbeats 1000000 in
theorem rsright_4 (y m d h i s : Int) (w : World) (hr : rightB y m d = true) (c1 : 0 ≤ h) (c2 : h ≤ 23) (c3 : 0 ≤ i) (c4 : ¬ i ≤ 59) :
  Calls Tryz.prog 55 #[.agg #[.int .i64 y, .int .i64 m, .int .i64 d, .int .i64 h, .int .i64 i, .int .i64 s]] w fun e w' => e = .returned (.bool false) ∧ Below w.heap.size w w' := by
 have R : Hid (∀ w, Calls Tryz.prog 85 #[.agg #[.int .i64 y, .int .i64 m, .int .i64 d]] w fun e w' => e = .returned (.bool true) ∧ Below w.heap.size w w') := fun w => by rw [← hr]; exact rright_any y m d w
 clear hr
 go_enter Tryz.func55, Tryz.ntmps55
 go_wp2_with fail
 refine (R.out _).mono ?_; rintro e w1 ⟨rfl, b1⟩
 have d1 : Below w.heap.size w w1 := below_step gr0 b1
 have B1 := Lib.hid d1
 have S1 : Bk6 w1 (w.heap.size) (.int .i64 y) (.int .i64 m) (.int .i64 d) (.int .i64 h) (.int .i64 i) (.int .i64 s) := by refine Bk6.of b1 (by simp <;> omega) (by intro j; simp [go_sem]) ?_ ?_ ?_ ?_ ?_ ?_ <;> simp [go_sem]
 clear b1 d1
 have tx := S1; obtain ⟨cS_b, cS_f, cS_0, cS_1, cS_2, cS_3, cS_4, cS_5⟩ := tx
 go_wp2_with fail
 clear cS_b cS_f cS_0 cS_1 cS_2 cS_3 cS_4 cS_5
 go_ret
 exact ⟨rfl, (grB B1)⟩
set_option maxHeartbeats 1000000 in
theorem rsright_5 (y m d h i s : Int) (w : World) (hr : rightB y m d = true) (c1 : 0 ≤ h) (c2 : h ≤ 23) (c3 : 0 ≤ i) (c4 : i ≤ 59) (c5 : ¬ 0 ≤ s) :
  Calls Tryz.prog 55 #[.agg #[.int .i64 y, .int .i64 m, .int .i64 d, .int .i64 h, .int .i64 i, .int .i64 s]] w fun e w' => e = .returned (.bool false) ∧ Below w.heap.size w w' := by
 have R : Hid (∀ w, Calls Tryz.prog 85 #[.agg #[.int .i64 y, .int .i64 m, .int .i64 d]] w fun e w' => e = .returned (.bool true) ∧ Below w.heap.size w w') := fun w => by rw [← hr]; exact rright_any y m d w
 clear hr
 go_enter Tryz.func55, Tryz.ntmps55
 go_wp2_with fail
 refine (R.out _).mono ?_; rintro e w1 ⟨rfl, b1⟩
 have d1 : Below w.heap.size w w1 := below_step gr0 b1
 have B1 := Lib.hid d1
 have S1 : Bk6 w1 (w.heap.size) (.int .i64 y) (.int .i64 m) (.int .i64 d) (.int .i64 h) (.int .i64 i) (.int .i64 s) := by refine Bk6.of b1 (by simp <;> omega) (by intro j; simp [go_sem]) ?_ ?_ ?_ ?_ ?_ ?_ <;> simp [go_sem]
 clear b1 d1
 have tx := S1; obtain ⟨cS_b, cS_f, cS_0, cS_1, cS_2, cS_3, cS_4, cS_5⟩ := tx
 go_wp2_with fail
 clear cS_b cS_f cS_0 cS_1 cS_2 cS_3 cS_4 cS_5
 go_ret
 exact ⟨rfl, (grB B1)⟩
set_option maxHeartbeats 1000000 in
theorem rsright_6 (y m d h i s : Int) (w : World) (hr : rightB y m d = true) (c1 : 0 ≤ h) (c2 : h ≤ 23) (c3 : 0 ≤ i) (c4 : i ≤ 59) (c5 : 0 ≤ s) (c6 : ¬ s ≤ 59) :
  Calls Tryz.prog 55 #[.agg #[.int .i64 y, .int .i64 m, .int .i64 d, .int .i64 h, .int .i64 i, .int .i64 s]] w fun e w' => e = .returned (.bool false) ∧ Below w.heap.size w w' := by
 have R : Hid (∀ w, Calls Tryz.prog 85 #[.agg #[.int .i64 y, .int .i64 m, .int .i64 d]] w fun e w' => e = .returned (.bool true) ∧ Below w.heap.size w w') := fun w => by rw [← hr]; exact rright_any y m d w
 clear hr
 go_enter Tryz.func55, Tryz.ntmps55
 go_wp2_with fail
 refine (R.out _).mono ?_; rintro e w1 ⟨rfl, b1⟩
 have d1 : Below w.heap.size w w1 := below_step gr0 b1
 have B1 := Lib.hid d1
 have S1 : Bk6 w1 (w.heap.size) (.int .i64 y) (.int .i64 m) (.int .i64 d) (.int .i64 h) (.int .i64 i) (.int .i64 s) := by refine Bk6.of b1 (by simp <;> omega) (by intro j; simp [go_sem]) ?_ ?_ ?_ ?_ ?_ ?_ <;> simp [go_sem]
 clear b1 d1
 have tx := S1; obtain ⟨cS_b, cS_f, cS_0, cS_1, cS_2, cS_3, cS_4, cS_5⟩ := tx
 go_wp2_with fail
 clear cS_b cS_f cS_0 cS_1 cS_2 cS_3 cS_4 cS_5
 go_ret
 exact ⟨(show Ending.returned (.bool (decide (s ≤ 59))) = _ by rw [decide_eq_false (show ¬ s ≤ 59 by omega)]), (grB B1)⟩
set_option maxHeartbeats 1000000 in
theorem rsright_7 (y m d h i s : Int) (w : World) (hr : rightB y m d = true) (c1 : 0 ≤ h) (c2 : h ≤ 23) (c3 : 0 ≤ i) (c4 : i ≤ 59) (c5 : 0 ≤ s) (c6 : s ≤ 59) :
  Calls Tryz.prog 55 #[.agg #[.int .i64 y, .int .i64 m, .int .i64 d, .int .i64 h, .int .i64 i, .int .i64 s]] w fun e w' => e = .returned (.bool true) ∧ Below w.heap.size w w' := by
 have R : Hid (∀ w, Calls Tryz.prog 85 #[.agg #[.int .i64 y, .int .i64 m, .int .i64 d]] w fun e w' => e = .returned (.bool true) ∧ Below w.heap.size w w') := fun w => by rw [← hr]; exact rright_any y m d w
 clear hr
 go_enter Tryz.func55, Tryz.ntmps55
 go_wp2_with fail
 refine (R.out _).mono ?_; rintro e w1 ⟨rfl, b1⟩
 have d1 : Below w.heap.size w w1 := below_step gr0 b1
 have B1 := Lib.hid d1
 have S1 : Bk6 w1 (w.heap.size) (.int .i64 y) (.int .i64 m) (.int .i64 d) (.int .i64 h) (.int .i64 i) (.int .i64 s) := by refine Bk6.of b1 (by simp <;> omega) (by intro j; simp [go_sem]) ?_ ?_ ?_ ?_ ?_ ?_ <;> simp [go_sem]
 clear b1 d1
 have tx := S1; obtain ⟨cS_b, cS_f, cS_0, cS_1, cS_2, cS_3, cS_4, cS_5⟩ := tx
 go_wp2_with fail
 clear cS_b cS_f cS_0 cS_1 cS_2 cS_3 cS_4 cS_5
 go_ret
 exact ⟨rfl, (grB B1)⟩
theorem rsright_any (y m d h i s : Int) (w : World) :
  Calls Tryz.prog 55 #[.agg #[.int .i64 y, .int .i64 m, .int .i64 d, .int .i64 h, .int .i64 i, .int .i64 s]] w fun e w' => e = .returned (.bool (St.rB y m d h i s)) ∧ Below w.heap.size w w' := by
 cases hr : rightB y m d
 ·
  rw [show St.rB y m d h i s = false by unfold St.rB; rw [hr]; rfl]; exact rsright_0 y m d h i s w hr
 ·
  by_cases c1 : 0 ≤ h
  ·
   by_cases c2 : h ≤ 23
   ·
    by_cases c3 : 0 ≤ i
    ·
     by_cases c4 : i ≤ 59
     ·
      by_cases c5 : 0 ≤ s
      ·
       by_cases c6 : s ≤ 59
       ·
        rw [show St.rB y m d h i s = true from St.rB_true.2 ⟨hr, by omega⟩]; exact rsright_7 y m d h i s w hr c1 c2 c3 c4 c5 c6
       ·
        rw [show St.rB y m d h i s = false by cases hz : St.rB y m d h i s; rfl; exact (by have q := (St.rB_true.1 hz).2; omega)]; exact rsright_6 y m d h i s w hr c1 c2 c3 c4 c5 c6
      ·
       rw [show St.rB y m d h i s = false by cases hz : St.rB y m d h i s; rfl; exact (by have q := (St.rB_true.1 hz).2; omega)]; exact rsright_5 y m d h i s w hr c1 c2 c3 c4 c5
     ·
      rw [show St.rB y m d h i s = false by cases hz : St.rB y m d h i s; rfl; exact (by have q := (St.rB_true.1 hz).2; omega)]; exact rsright_4 y m d h i s w hr c1 c2 c3 c4
    ·
     rw [show St.rB y m d h i s = false by cases hz : St.rB y m d h i s; rfl; exact (by have q := (St.rB_true.1 hz).2; omega)]; exact rsright_3 y m d h i s w hr c1 c2 c3
   ·
    rw [show St.rB y m d h i s = false by cases hz : St.rB y m d h i s; rfl; exact (by have q := (St.rB_true.1 hz).2; omega)]; exact rsright_2 y m d h i s w hr c1 c2
  ·
   rw [show St.rB y m d h i s = false by cases hz : St.rB y m d h i s; rfl; exact (by have q := (St.rB_true.1 hz).2; omega)]; exact rsright_1 y m d h i s w hr c1
set_option maxHeartbeats 8000000 in
set_option maxRecDepth 100000 in
theorem rstext_no (y m d h i s : Int) (w : World) (hr : St.rB y m d h i s = false) :
  Calls Tryz.prog 29 #[.agg #[.int .i64 y, .int .i64 m, .int .i64 d, .int .i64 h, .int .i64 i, .int .i64 s]] w fun e w' => e = .returned (.string ⟨#[]⟩) ∧ Below w.heap.size w w' := by
 have R : Hid (∀ w, Calls Tryz.prog 55 #[.agg #[.int .i64 y, .int .i64 m, .int .i64 d, .int .i64 h, .int .i64 i, .int .i64 s]] w fun e w' => e = .returned (.bool false) ∧ Below w.heap.size w w') := fun w => by rw [← hr]; exact rsright_any y m d h i s w
 clear hr
 go_enter Tryz.func29, Tryz.ntmps29
 go_wp2_with fail
 refine (R.out _).mono ?_; rintro e w1 ⟨rfl, b1⟩
 have d1 : Below w.heap.size w w1 := below_step gr0 b1
 have B1 := Lib.hid d1
 have S1 : Bk6 w1 (w.heap.size) (.int .i64 y) (.int .i64 m) (.int .i64 d) (.int .i64 h) (.int .i64 i) (.int .i64 s) := by refine Bk6.of b1 (by simp <;> omega) (by intro j; simp [go_sem]) ?_ ?_ ?_ ?_ ?_ ?_ <;> simp [go_sem]
 clear b1 d1
 have tx := S1; obtain ⟨cS_b, cS_f, cS_0, cS_1, cS_2, cS_3, cS_4, cS_5⟩ := tx
 go_wp2_with fail
 clear cS_b cS_f cS_0 cS_1 cS_2 cS_3 cS_4 cS_5
 go_ret
 exact ⟨rfl, (grB B1)⟩
set_option maxHeartbeats 8000000 in
set_option maxRecDepth 100000 in
theorem rstext_pos (y m d h i s : Int) (F : Int → ByteArray) (Y : ByteArray) (w : World) (hy : ¬ y < 0) (by0 : -40000 ≤ y) (by1 : y ≤ 40000) (zY : Y.size ≤ 30) (zM : (F m).size ≤ 30) (zD : (F d).size ≤ 30) (zH : (F h).size ≤ 30) (zI : (F i).size ≤ 30) (zS : (F s).size ≤ 30)
  (m0 : 0 ≤ m) (m1 : m ≤ 100) (d0 : 0 ≤ d) (d1 : d ≤ 100) (h0 : 0 ≤ h) (h1 : h ≤ 100) (i0 : 0 ≤ i) (i1 : i ≤ 100) (s0 : 0 ≤ s) (s1 : s ≤ 100)
  (R : Hid (∀ w, Calls Tryz.prog 55 #[.agg #[.int .i64 y, .int .i64 m, .int .i64 d, .int .i64 h, .int .i64 i, .int .i64 s]] w fun e w' => e = .returned (.bool true) ∧ Below w.heap.size w w'))
  (CY : Hid (∀ W, Calls Tryz.prog 56 #[.int .i64 y, .int .i64 4] W fun e w' => e = .returned (.string Y) ∧ Below W.heap.size W w'))
  (CW : Hid (∀ n W, 0 ≤ n → n ≤ 100 → Calls Tryz.prog 56 #[.int .i64 n, .int .i64 2] W fun e w' => e = .returned (.string (F n)) ∧ Below W.heap.size W w')) :
  Calls Tryz.prog 29 #[.agg #[.int .i64 y, .int .i64 m, .int .i64 d, .int .i64 h, .int .i64 i, .int .i64 s]] w fun e w' => e = .returned (.string (Y ++ ⟨#[45]⟩ ++ F m ++ ⟨#[45]⟩ ++ F d ++ ⟨#[84]⟩ ++ F h ++ ⟨#[58]⟩ ++ F i ++ ⟨#[58]⟩ ++ F s)) ∧ Below w.heap.size w w' := by
 have e1 : (Y ++ ⟨#[45]⟩ : ByteArray).size = Y.size + 1 := by rw [ByteArray.size_append]; rfl
 have e2 : (Y ++ ⟨#[45]⟩ ++ F m : ByteArray).size = Y.size + 1 + (F m).size := by rw [ByteArray.size_append, e1]
 have e3 : (Y ++ ⟨#[45]⟩ ++ F m ++ ⟨#[45]⟩ : ByteArray).size = Y.size + 1 + (F m).size + 1 := by rw [ByteArray.size_append, e2]; rfl
 have e4 : (Y ++ ⟨#[45]⟩ ++ F m ++ ⟨#[45]⟩ ++ F d : ByteArray).size = Y.size + 1 + (F m).size + 1 + (F d).size := by rw [ByteArray.size_append, e3]
 have e5 : (Y ++ ⟨#[45]⟩ ++ F m ++ ⟨#[45]⟩ ++ F d ++ ⟨#[84]⟩ : ByteArray).size = Y.size + 1 + (F m).size + 1 + (F d).size + 1 := by rw [ByteArray.size_append, e4]; rfl
 have e6 : (Y ++ ⟨#[45]⟩ ++ F m ++ ⟨#[45]⟩ ++ F d ++ ⟨#[84]⟩ ++ F h : ByteArray).size = Y.size + 1 + (F m).size + 1 + (F d).size + 1 + (F h).size := by rw [ByteArray.size_append, e5]
 have e7 : (Y ++ ⟨#[45]⟩ ++ F m ++ ⟨#[45]⟩ ++ F d ++ ⟨#[84]⟩ ++ F h ++ ⟨#[58]⟩ : ByteArray).size = Y.size + 1 + (F m).size + 1 + (F d).size + 1 + (F h).size + 1 := by rw [ByteArray.size_append, e6]; rfl
 have e8 : (Y ++ ⟨#[45]⟩ ++ F m ++ ⟨#[45]⟩ ++ F d ++ ⟨#[84]⟩ ++ F h ++ ⟨#[58]⟩ ++ F i : ByteArray).size = Y.size + 1 + (F m).size + 1 + (F d).size + 1 + (F h).size + 1 + (F i).size := by rw [ByteArray.size_append, e7]
 have e9 : (Y ++ ⟨#[45]⟩ ++ F m ++ ⟨#[45]⟩ ++ F d ++ ⟨#[84]⟩ ++ F h ++ ⟨#[58]⟩ ++ F i ++ ⟨#[58]⟩ : ByteArray).size = Y.size + 1 + (F m).size + 1 + (F d).size + 1 + (F h).size + 1 + (F i).size + 1 := by rw [ByteArray.size_append, e8]; rfl
 go_enter Tryz.func29, Tryz.ntmps29
 go_wp2_with fail
 refine (R.out _).mono ?_; rintro e w1 ⟨rfl, b1⟩
 have d1 : Below w.heap.size w w1 := below_step gr0 b1
 have B1 := Lib.hid d1
 have X1 : Bk6 w1 (w.heap.size) (.int .i64 y) (.int .i64 m) (.int .i64 d) (.int .i64 h) (.int .i64 i) (.int .i64 s) := by refine Bk6.of b1 (by simp <;> omega) (by intro j; simp [go_sem]) ?_ ?_ ?_ ?_ ?_ ?_ <;> simp [go_sem]
 clear b1 d1
 clear R
 have tx := X1; obtain ⟨cX_b, cX_f, cX_0, cX_1, cX_2, cX_3, cX_4, cX_5⟩ := tx
 go_wp2_with fail
 clear cX_b cX_f cX_0 cX_1 cX_2 cX_3 cX_4 cX_5
 refine (CY.out _).mono ?_; rintro e w2 ⟨rfl, b2⟩
 have d2 : Below w1.heap.size w1 w2 := below_step gr0 b2
 have B2 := Lib.hid (below_step B1.out d2)
 have X2 := X1.keep d2
 clear X1 b2 d2 B1
 clear CY
 have tx := X2; obtain ⟨cX_b, cX_f, cX_0, cX_1, cX_2, cX_3, cX_4, cX_5⟩ := tx
 go_wp2_with fail
 clear cX_b cX_f cX_0 cX_1 cX_2 cX_3 cX_4 cX_5
 have qX_0 := cell_regrown X2.k0
 have qX_1 := cell_regrown X2.k1
 have qX_2 := cell_regrown X2.k2
 have qX_3 := cell_regrown X2.k3
 have qX_4 := cell_regrown X2.k4
 have qX_5 := cell_regrown X2.k5
 refine wp_region_qb (w := w2) (by kernel_rfl) (by kernel_rfl) gr0 ?_
 repeat (any_goals (first | go_big_quiet_step (first | (go_at_call 56; exact Calls.regrown_of (CW.out _ _ (by omega) (by omega)))) | quiet_step (first | (go_at_call 56; exact Calls.regrown_of (CW.out _ _ (by omega) (by omega))))))
 refine wpQuiet_nil ?_
 intro w3 hq
 have b3 : Below w2.heap.size w2 w3 := by obtain ⟨p, hq⟩ := hq; rw [hq]; exact below_regrown _ _ _
 clear hq qX_0 qX_1 qX_2 qX_3 qX_4 qX_5
 have d3 : Below w2.heap.size w2 w3 := below_step gr0 b3
 have B3 := Lib.hid (below_step B2.out d3)
 have X3 := X2.keep d3
 clear X2 b3 d3 B2
 have tx := X3; obtain ⟨cX_b, cX_f, cX_0, cX_1, cX_2, cX_3, cX_4, cX_5⟩ := tx
 go_wp2_with fail
 clear cX_b cX_f cX_0 cX_1 cX_2 cX_3 cX_4 cX_5
 go_ret
 exact ⟨rfl, B3.out⟩
set_option maxHeartbeats 8000000 in
set_option maxRecDepth 100000 in
theorem rstext_neg (y m d h i s : Int) (F : Int → ByteArray) (Y : ByteArray) (w : World) (hy : y < 0) (by0 : -40000 ≤ y) (by1 : y ≤ 40000) (zY : Y.size ≤ 30) (zM : (F m).size ≤ 30) (zD : (F d).size ≤ 30) (zH : (F h).size ≤ 30) (zI : (F i).size ≤ 30) (zS : (F s).size ≤ 30)
  (m0 : 0 ≤ m) (m1 : m ≤ 100) (d0 : 0 ≤ d) (d1 : d ≤ 100) (h0 : 0 ≤ h) (h1 : h ≤ 100) (i0 : 0 ≤ i) (i1 : i ≤ 100) (s0 : 0 ≤ s) (s1 : s ≤ 100)
  (R : Hid (∀ w, Calls Tryz.prog 55 #[.agg #[.int .i64 y, .int .i64 m, .int .i64 d, .int .i64 h, .int .i64 i, .int .i64 s]] w fun e w' => e = .returned (.bool true) ∧ Below w.heap.size w w'))
  (CY : Hid (∀ W, Calls Tryz.prog 56 #[.int .i64 (-y), .int .i64 4] W fun e w' => e = .returned (.string Y) ∧ Below W.heap.size W w'))
  (CZ : Hid (∀ W, Calls Tryz.prog 56 #[.int .i64 y, .int .i64 4] W fun e w' => (∃ Z, e = .returned (.string Z)) ∧ Below W.heap.size W w'))
  (CW : Hid (∀ n W, 0 ≤ n → n ≤ 100 → Calls Tryz.prog 56 #[.int .i64 n, .int .i64 2] W fun e w' => e = .returned (.string (F n)) ∧ Below W.heap.size W w')) :
  Calls Tryz.prog 29 #[.agg #[.int .i64 y, .int .i64 m, .int .i64 d, .int .i64 h, .int .i64 i, .int .i64 s]] w fun e w' => e = .returned (.string (⟨#[45]⟩ ++ Y ++ ⟨#[45]⟩ ++ F m ++ ⟨#[45]⟩ ++ F d ++ ⟨#[84]⟩ ++ F h ++ ⟨#[58]⟩ ++ F i ++ ⟨#[58]⟩ ++ F s)) ∧ Below w.heap.size w w' := by
 have e0 : (⟨#[45]⟩ ++ Y : ByteArray).size = 1 + Y.size := by rw [ByteArray.size_append]; rfl
 have e1 : (⟨#[45]⟩ ++ Y ++ ⟨#[45]⟩ : ByteArray).size = 1 + Y.size + 1 := by rw [ByteArray.size_append, e0]; rfl
 have e2 : (⟨#[45]⟩ ++ Y ++ ⟨#[45]⟩ ++ F m : ByteArray).size = 1 + Y.size + 1 + (F m).size := by rw [ByteArray.size_append, e1]
 have e3 : (⟨#[45]⟩ ++ Y ++ ⟨#[45]⟩ ++ F m ++ ⟨#[45]⟩ : ByteArray).size = 1 + Y.size + 1 + (F m).size + 1 := by rw [ByteArray.size_append, e2]; rfl
 have e4 : (⟨#[45]⟩ ++ Y ++ ⟨#[45]⟩ ++ F m ++ ⟨#[45]⟩ ++ F d : ByteArray).size = 1 + Y.size + 1 + (F m).size + 1 + (F d).size := by rw [ByteArray.size_append, e3]
 have e5 : (⟨#[45]⟩ ++ Y ++ ⟨#[45]⟩ ++ F m ++ ⟨#[45]⟩ ++ F d ++ ⟨#[84]⟩ : ByteArray).size = 1 + Y.size + 1 + (F m).size + 1 + (F d).size + 1 := by rw [ByteArray.size_append, e4]; rfl
 have e6 : (⟨#[45]⟩ ++ Y ++ ⟨#[45]⟩ ++ F m ++ ⟨#[45]⟩ ++ F d ++ ⟨#[84]⟩ ++ F h : ByteArray).size = 1 + Y.size + 1 + (F m).size + 1 + (F d).size + 1 + (F h).size := by rw [ByteArray.size_append, e5]
 have e7 : (⟨#[45]⟩ ++ Y ++ ⟨#[45]⟩ ++ F m ++ ⟨#[45]⟩ ++ F d ++ ⟨#[84]⟩ ++ F h ++ ⟨#[58]⟩ : ByteArray).size = 1 + Y.size + 1 + (F m).size + 1 + (F d).size + 1 + (F h).size + 1 := by rw [ByteArray.size_append, e6]; rfl
 have e8 : (⟨#[45]⟩ ++ Y ++ ⟨#[45]⟩ ++ F m ++ ⟨#[45]⟩ ++ F d ++ ⟨#[84]⟩ ++ F h ++ ⟨#[58]⟩ ++ F i : ByteArray).size = 1 + Y.size + 1 + (F m).size + 1 + (F d).size + 1 + (F h).size + 1 + (F i).size := by rw [ByteArray.size_append, e7]
 have e9 : (⟨#[45]⟩ ++ Y ++ ⟨#[45]⟩ ++ F m ++ ⟨#[45]⟩ ++ F d ++ ⟨#[84]⟩ ++ F h ++ ⟨#[58]⟩ ++ F i ++ ⟨#[58]⟩ : ByteArray).size = 1 + Y.size + 1 + (F m).size + 1 + (F d).size + 1 + (F h).size + 1 + (F i).size + 1 := by rw [ByteArray.size_append, e8]; rfl
 go_enter Tryz.func29, Tryz.ntmps29
 go_wp2_with fail
 refine (R.out _).mono ?_; rintro e w1 ⟨rfl, b1⟩
 have d1 : Below w.heap.size w w1 := below_step gr0 b1
 have B1 := Lib.hid d1
 have X1 : Bk6 w1 (w.heap.size) (.int .i64 y) (.int .i64 m) (.int .i64 d) (.int .i64 h) (.int .i64 i) (.int .i64 s) := by refine Bk6.of b1 (by simp <;> omega) (by intro j; simp [go_sem]) ?_ ?_ ?_ ?_ ?_ ?_ <;> simp [go_sem]
 clear b1 d1
 clear R
 have tx := X1; obtain ⟨cX_b, cX_f, cX_0, cX_1, cX_2, cX_3, cX_4, cX_5⟩ := tx
 go_wp2_with fail
 clear cX_b cX_f cX_0 cX_1 cX_2 cX_3 cX_4 cX_5
 refine (CZ.out _).mono ?_; rintro e w2 ⟨⟨Z, rfl⟩, b2⟩
 have d2 : Below w1.heap.size w1 w2 := below_step gr0 b2
 have B2 := Lib.hid (below_step B1.out d2)
 have X2 := X1.keep d2
 clear CZ b2 d2 B1 X1
 have tx := X2; obtain ⟨cX_b, cX_f, cX_0, cX_1, cX_2, cX_3, cX_4, cX_5⟩ := tx
 go_wp2_with fail
 clear cX_b cX_f cX_0 cX_1 cX_2 cX_3 cX_4 cX_5
 refine (CY.out _).mono ?_; rintro e w3 ⟨rfl, b3⟩
 have d3 : Below w2.heap.size w2 w3 := below_step gr0 b3
 have B3 := Lib.hid (below_step B2.out d3)
 have X3 := X2.keep d3
 clear X2 b3 d3 B2
 clear CY
 have tx := X3; obtain ⟨cX_b, cX_f, cX_0, cX_1, cX_2, cX_3, cX_4, cX_5⟩ := tx
 go_wp2_with fail
 clear cX_b cX_f cX_0 cX_1 cX_2 cX_3 cX_4 cX_5
 have qX_0 := cell_regrown X3.k0
 have qX_1 := cell_regrown X3.k1
 have qX_2 := cell_regrown X3.k2
 have qX_3 := cell_regrown X3.k3
 have qX_4 := cell_regrown X3.k4
 have qX_5 := cell_regrown X3.k5
 refine wp_region_qb (w := w3) (by kernel_rfl) (by kernel_rfl) gr0 ?_
 repeat (any_goals (first | go_big_quiet_step (first | (go_at_call 56; exact Calls.regrown_of (CW.out _ _ (by omega) (by omega)))) | quiet_step (first | (go_at_call 56; exact Calls.regrown_of (CW.out _ _ (by omega) (by omega))))))
 refine wpQuiet_nil ?_
 intro w4 hq
 have b4 : Below w3.heap.size w3 w4 := by obtain ⟨p, hq⟩ := hq; rw [hq]; exact below_regrown _ _ _
 clear hq qX_0 qX_1 qX_2 qX_3 qX_4 qX_5
 have d4 : Below w3.heap.size w3 w4 := below_step gr0 b4
 have B4 := Lib.hid (below_step B3.out d4)
 have X4 := X3.keep d4
 clear X3 b4 d4 B3
 have tx := X4; obtain ⟨cX_b, cX_f, cX_0, cX_1, cX_2, cX_3, cX_4, cX_5⟩ := tx
 go_wp2_with fail
 clear cX_b cX_f cX_0 cX_1 cX_2 cX_3 cX_4 cX_5
 go_ret
 exact ⟨rfl, B4.out⟩
end Go.Proofs.YtifgiclnofdnkaaGreatDoor
