/- Joined: ErB, ErD, BlkA. -/
import Derived.Test.YtpggfhmnhbnefaaGreatDoorBd01
import Derived.Test.YtpggfhmnhbnefaaGreatDoorBd04
import Derived.Test.YtpggfhmnhbnefaaGreatDoorBd20
import Derived.Test.YtpggfhmnhbnefaaGreatDoorBd23
import Derived.Test.YtpggfhmnhbnefaaGreatDoorBd05
import Derived.Test.YtpggfhmnhbnefaaGreatDoorBd28
import Derived.Test.YtpggfhmnhbnefaaGreatDoorBd02
import Derived.Laws.OwnMore
set_option linter.unusedVariables false
set_option linter.unusedSimpArgs false
namespace Go.Proofs.YtpggfhmnhbnefaaGreatDoor
open Go.RowKit Go.Sort
set_option maxHeartbeats 4000000 in
set_option maxRecDepth 100000 in
theorem rerend_any (h : Bool) (y m k wk d sec base : Int) (w : World) (y0 : -9223372036854775808 ≤ y) (y1 : y ≤ 9223372036854775807) : Calls Tryz.prog 75 #[.agg #[.bool h, .int .i64 y, .int .i64 m, .int .i64 k, .int .i64 wk, .int .i64 d, .int .i64 sec, .int .i64 base]] w fun e w' => e = .returned (.bool (Er.endR h y m k wk d sec base)) ∧ Below w.heap.size w w' := by
 cases h
 ·
  have e0 : Er.endR false y m k wk d sec base = decide (y = 0 ∧ m = 0 ∧ k = 0 ∧ wk = 0 ∧ d = 0 ∧ sec = 0 ∧ base = 0) := rfl
  rw [e0]; clear e0
  by_cases z0 : y = 0
  case neg =>
   have g : (y == 0) = false := by rw [beq_eq_false_iff_ne]; exact z0
   rw [show decide (y = 0 ∧ m = 0 ∧ k = 0 ∧ wk = 0 ∧ d = 0 ∧ sec = 0 ∧ base = 0) = false from decide_eq_false (by simp [z0])]
   go_enter Tryz.func75, Tryz.ntmps75
   go_wp2_with fail
   go_ret
   exact ⟨rfl, gr0⟩
  subst z0
  by_cases z1 : m = 0
  case neg =>
   have g : (m == 0) = false := by rw [beq_eq_false_iff_ne]; exact z1
   rw [show decide ((0 : Int) = 0 ∧ m = 0 ∧ k = 0 ∧ wk = 0 ∧ d = 0 ∧ sec = 0 ∧ base = 0) = false from decide_eq_false (by simp [z1])]
   go_enter Tryz.func75, Tryz.ntmps75
   go_wp2_with fail
   go_ret
   exact ⟨rfl, gr0⟩
  subst z1
  by_cases z2 : k = 0
  case neg =>
   have g : (k == 0) = false := by rw [beq_eq_false_iff_ne]; exact z2
   rw [show decide ((0 : Int) = 0 ∧ (0 : Int) = 0 ∧ k = 0 ∧ wk = 0 ∧ d = 0 ∧ sec = 0 ∧ base = 0) = false from decide_eq_false (by simp [z2])]
   go_enter Tryz.func75, Tryz.ntmps75
   go_wp2_with fail
   go_ret
   exact ⟨rfl, gr0⟩
  subst z2
  by_cases z3 : wk = 0
  case neg =>
   have g : (wk == 0) = false := by rw [beq_eq_false_iff_ne]; exact z3
   rw [show decide ((0 : Int) = 0 ∧ (0 : Int) = 0 ∧ (0 : Int) = 0 ∧ wk = 0 ∧ d = 0 ∧ sec = 0 ∧ base = 0) = false from decide_eq_false (by simp [z3])]
   go_enter Tryz.func75, Tryz.ntmps75
   go_wp2_with fail
   go_ret
   exact ⟨rfl, gr0⟩
  subst z3
  by_cases z4 : d = 0
  case neg =>
   have g : (d == 0) = false := by rw [beq_eq_false_iff_ne]; exact z4
   rw [show decide ((0 : Int) = 0 ∧ (0 : Int) = 0 ∧ (0 : Int) = 0 ∧ (0 : Int) = 0 ∧ d = 0 ∧ sec = 0 ∧ base = 0) = false from decide_eq_false (by simp [z4])]
   go_enter Tryz.func75, Tryz.ntmps75
   go_wp2_with fail
   go_ret
   exact ⟨rfl, gr0⟩
  subst z4
  by_cases z5 : sec = 0
  case neg =>
   have g : (sec == 0) = false := by rw [beq_eq_false_iff_ne]; exact z5
   rw [show decide ((0 : Int) = 0 ∧ (0 : Int) = 0 ∧ (0 : Int) = 0 ∧ (0 : Int) = 0 ∧ (0 : Int) = 0 ∧ sec = 0 ∧ base = 0) = false from decide_eq_false (by simp [z5])]
   go_enter Tryz.func75, Tryz.ntmps75
   go_wp2_with fail
   go_ret
   exact ⟨rfl, gr0⟩
  subst z5
  by_cases z6 : base = 0
  case neg =>
   have g : (base == 0) = false := by rw [beq_eq_false_iff_ne]; exact z6
   rw [show decide ((0 : Int) = 0 ∧ (0 : Int) = 0 ∧ (0 : Int) = 0 ∧ (0 : Int) = 0 ∧ (0 : Int) = 0 ∧ (0 : Int) = 0 ∧ base = 0) = false from decide_eq_false (by simp [z6])]
   go_enter Tryz.func75, Tryz.ntmps75
   go_wp2_with fail
   go_ret
   exact ⟨rfl, gr0⟩
  subst z6
  rw [show decide ((0 : Int) = 0 ∧ (0 : Int) = 0 ∧ (0 : Int) = 0 ∧ (0 : Int) = 0 ∧ (0 : Int) = 0 ∧ (0 : Int) = 0 ∧ (0 : Int) = 0) = true from decide_eq_true (by simp)]
  go_enter Tryz.func75, Tryz.ntmps75
  go_wp2_with fail
  go_ret
  exact ⟨rfl, gr0⟩
 ·
  have e0 : Er.endR true y m k wk d sec base = (decide (-32767 < y) && (decide (y < 32767) && (Dr.onF k wk d m && Cl.rB sec base))) := rfl
  rw [e0]; clear e0
  have OF := Lib.hid (fun W => rofits_any k wk d m W)
  have CR := Lib.hid (fun W => kright_any sec base W)
  generalize Dr.onF k wk d m = o at *
  generalize Cl.rB sec base = c at *
  by_cases h1 : -32767 < y
  case neg =>
   rw [decide_eq_false h1]
   have g1 : decide (-32767 < y) = false := decide_eq_false h1
   go_enter Tryz.func75, Tryz.ntmps75
   go_wp2_with fail
   go_ret
   exact ⟨rfl, gr0⟩
  have g1 : decide (-32767 < y) = true := decide_eq_true h1
  by_cases h2 : y < 32767
  case neg =>
   rw [g1, decide_eq_false h2]
   have g2 : decide (y < 32767) = false := decide_eq_false h2
   go_enter Tryz.func75, Tryz.ntmps75
   go_wp2_with fail
   go_ret
   exact ⟨rfl, gr0⟩
  have g2 : decide (y < 32767) = true := decide_eq_true h2
  rw [g1, g2]
  cases o
  ·
   skip
   go_enter Tryz.func75, Tryz.ntmps75
   go_wp2_with fail
   refine (OF.out _).mono ?_; rintro e w1 ⟨rfl, b1⟩
   have d1 : Below w.heap.size w w1 := below_step gr0 b1
   have B1 := Lib.hid d1
   have X1 : Bk8 w1 (w.heap.size) (.bool true) (.int .i64 y) (.int .i64 m) (.int .i64 k) (.int .i64 wk) (.int .i64 d) (.int .i64 sec) (.int .i64 base) := by refine Bk8.of b1 (by simp <;> omega) (by intro j; simp [go_sem]) ?_ ?_ ?_ ?_ ?_ ?_ ?_ ?_ <;> simp [go_sem]
   clear b1 d1
   have tx := X1; obtain ⟨cX_b, cX_f, cX_0, cX_1, cX_2, cX_3, cX_4, cX_5, cX_6, cX_7⟩ := tx
   go_wp2_with fail
   clear cX_b cX_f cX_0 cX_1 cX_2 cX_3 cX_4 cX_5 cX_6 cX_7
   go_ret
   exact ⟨rfl, (grB B1)⟩
  ·
   cases c
   ·
    skip
    go_enter Tryz.func75, Tryz.ntmps75
    go_wp2_with fail
    refine (OF.out _).mono ?_; rintro e w1 ⟨rfl, b1⟩
    have d1 : Below w.heap.size w w1 := below_step gr0 b1
    have B1 := Lib.hid d1
    have X1 : Bk8 w1 (w.heap.size) (.bool true) (.int .i64 y) (.int .i64 m) (.int .i64 k) (.int .i64 wk) (.int .i64 d) (.int .i64 sec) (.int .i64 base) := by refine Bk8.of b1 (by simp <;> omega) (by intro j; simp [go_sem]) ?_ ?_ ?_ ?_ ?_ ?_ ?_ ?_ <;> simp [go_sem]
    clear b1 d1
    have tx := X1; obtain ⟨cX_b, cX_f, cX_0, cX_1, cX_2, cX_3, cX_4, cX_5, cX_6, cX_7⟩ := tx
    go_wp2_with fail
    clear cX_b cX_f cX_0 cX_1 cX_2 cX_3 cX_4 cX_5 cX_6 cX_7
    refine (CR.out _).mono ?_; rintro e w2 ⟨rfl, b2⟩
    have d2 : Below w1.heap.size w1 w2 := below_step gr0 b2
    have B2 := Lib.hid (below_step B1.out d2)
    have X2 := X1.keep d2
    clear X1 b2 d2 B1
    have tx := X2; obtain ⟨cX_b, cX_f, cX_0, cX_1, cX_2, cX_3, cX_4, cX_5, cX_6, cX_7⟩ := tx
    go_wp2_with fail
    clear cX_b cX_f cX_0 cX_1 cX_2 cX_3 cX_4 cX_5 cX_6 cX_7
    go_ret
    exact ⟨rfl, (grB B2)⟩
   ·
    skip
    go_enter Tryz.func75, Tryz.ntmps75
    go_wp2_with fail
    refine (OF.out _).mono ?_; rintro e w1 ⟨rfl, b1⟩
    have d1 : Below w.heap.size w w1 := below_step gr0 b1
    have B1 := Lib.hid d1
    have X1 : Bk8 w1 (w.heap.size) (.bool true) (.int .i64 y) (.int .i64 m) (.int .i64 k) (.int .i64 wk) (.int .i64 d) (.int .i64 sec) (.int .i64 base) := by refine Bk8.of b1 (by simp <;> omega) (by intro j; simp [go_sem]) ?_ ?_ ?_ ?_ ?_ ?_ ?_ ?_ <;> simp [go_sem]
    clear b1 d1
    have tx := X1; obtain ⟨cX_b, cX_f, cX_0, cX_1, cX_2, cX_3, cX_4, cX_5, cX_6, cX_7⟩ := tx
    go_wp2_with fail
    clear cX_b cX_f cX_0 cX_1 cX_2 cX_3 cX_4 cX_5 cX_6 cX_7
    refine (CR.out _).mono ?_; rintro e w2 ⟨rfl, b2⟩
    have d2 : Below w1.heap.size w1 w2 := below_step gr0 b2
    have B2 := Lib.hid (below_step B1.out d2)
    have X2 := X1.keep d2
    clear X1 b2 d2 B1
    have tx := X2; obtain ⟨cX_b, cX_f, cX_0, cX_1, cX_2, cX_3, cX_4, cX_5, cX_6, cX_7⟩ := tx
    go_wp2_with fail
    clear cX_b cX_f cX_0 cX_1 cX_2 cX_3 cX_4 cX_5 cX_6 cX_7
    go_ret
    exact ⟨rfl, (grB B2)⟩
set_option maxHeartbeats 16000000 in
set_option maxRecDepth 100000 in
theorem rerright_any (off kind save : Int) (rs fm : ByteArray) (h : Bool) (y m k wk d sec base : Int) (w : World) (hs : rs.size ≤ 600) (hf : fm.size ≤ 600) (y0 : -9223372036854775808 ≤ y) (y1 : y ≤ 9223372036854775807) : Calls Tryz.prog 23 #[.agg #[.int .i64 off, .int .i64 kind, .int .i64 save, .string rs, .string fm, .bool h, .int .i64 y, .int .i64 m, .int .i64 k, .int .i64 wk, .int .i64 d, .int .i64 sec, .int .i64 base]] w fun e w' => e = .returned (.bool (Er.ok off kind save rs fm h y m k wk d sec base)) ∧ Below w.heap.size w w' := by
 have EN := Lib.hid (fun W => rerend_any h y m k wk d sec base W y0 y1)
 have CK := Lib.hid (fun W => rcheck_any fm W (by omega))
 clear hf y0 y1
 unfold Er.ok
 generalize Er.endR h y m k wk d sec base = u at *
 generalize (Fo.kd fm.data.toList).2 = q at *
 by_cases c1 : off < -54000
 case pos =>
  rw [decide_eq_false (by omega : ¬ -54000 ≤ off)]
  have g1 : decide (off < -54000) = true := decide_eq_true c1
  go_enter Tryz.func23, Tryz.ntmps23
  go_wp2_with fail
  go_ret
  exact ⟨rfl, gr0⟩
 have g1 : decide (off < -54000) = false := decide_eq_false c1
 rw [decide_eq_true (by omega : -54000 ≤ off)]
 by_cases c2 : 54000 < off
 case pos =>
  rw [decide_eq_false (by omega : ¬ off ≤ 54000)]
  have g2 : decide (54000 < off) = true := decide_eq_true c2
  go_enter Tryz.func23, Tryz.ntmps23
  go_wp2_with fail
  go_ret
  exact ⟨rfl, gr0⟩
 have g2 : decide (54000 < off) = false := decide_eq_false c2
 rw [decide_eq_true (by omega : off ≤ 54000)]
 by_cases hq : q = 0
 case neg =>
  have g : (q == 0) = false := by rw [beq_eq_false_iff_ne]; exact hq
  rw [g, Bool.false_and, Bool.and_false]
  go_enter Tryz.func23, Tryz.ntmps23
  go_wp2_with fail
  refine (CK.out _).mono ?_; rintro e v1 ⟨rfl, rfl⟩
  go_wp2_with fail
  go_ret
  exact ⟨rfl, gr0⟩
 subst hq
 rw [show ((0 : Int) == 0) = true from rfl, Bool.true_and, Bool.true_and, Bool.true_and]
 cases u
 case false =>
  rw [Bool.and_false]
  go_enter Tryz.func23, Tryz.ntmps23
  go_wp2_with fail
  refine (CK.out _).mono ?_; rintro e v1 ⟨rfl, rfl⟩
  go_wp2_with fail
  refine (EN.out _).mono ?_; rintro e w1 ⟨rfl, b1⟩
  have d1 : Below w.heap.size w w1 := below_step gr0 b1
  have B1 := Lib.hid d1
  have X1 : Bk13 w1 (w.heap.size) (.int .i64 off) (.int .i64 kind) (.int .i64 save) (.string rs) (.string fm) (.bool h) (.int .i64 y) (.int .i64 m) (.int .i64 k) (.int .i64 wk) (.int .i64 d) (.int .i64 sec) (.int .i64 base) := by refine Bk13.of b1 (by simp <;> omega) (by intro j; simp [go_sem]) ?_ ?_ ?_ ?_ ?_ ?_ ?_ ?_ ?_ ?_ ?_ ?_ ?_ <;> simp [go_sem]
  clear b1 d1
  have tx := X1; obtain ⟨cX_b, cX_f, cX_0, cX_1, cX_2, cX_3, cX_4, cX_5, cX_6, cX_7, cX_8, cX_9, cX_10, cX_11, cX_12⟩ := tx
  go_wp2_with fail
  clear cX_b cX_f cX_0 cX_1 cX_2 cX_3 cX_4 cX_5 cX_6 cX_7 cX_8 cX_9 cX_10 cX_11 cX_12
  go_ret
  exact ⟨rfl, (grB B1)⟩
 rw [Bool.and_true]
 by_cases k0 : kind = 0
 case pos =>
  subst k0
  rw [show Er.rulR 0 save rs = (save == 0 && rs.data.toList == []) from rfl]
  by_cases z : save = 0
  case neg =>
   have g : (save == 0) = false := by rw [beq_eq_false_iff_ne]; exact z
   rw [g]
   go_enter Tryz.func23, Tryz.ntmps23
   go_wp2_with fail
   refine (CK.out _).mono ?_; rintro e v1 ⟨rfl, rfl⟩
   go_wp2_with fail
   refine (EN.out _).mono ?_; rintro e w1 ⟨rfl, b1⟩
   have d1 : Below w.heap.size w w1 := below_step gr0 b1
   have B1 := Lib.hid d1
   have X1 : Bk13 w1 (w.heap.size) (.int .i64 off) (.int .i64 0) (.int .i64 save) (.string rs) (.string fm) (.bool h) (.int .i64 y) (.int .i64 m) (.int .i64 k) (.int .i64 wk) (.int .i64 d) (.int .i64 sec) (.int .i64 base) := by refine Bk13.of b1 (by simp <;> omega) (by intro j; simp [go_sem]) ?_ ?_ ?_ ?_ ?_ ?_ ?_ ?_ ?_ ?_ ?_ ?_ ?_ <;> simp [go_sem]
   clear b1 d1
   have tx := X1; obtain ⟨cX_b, cX_f, cX_0, cX_1, cX_2, cX_3, cX_4, cX_5, cX_6, cX_7, cX_8, cX_9, cX_10, cX_11, cX_12⟩ := tx
   go_wp2_with fail
   clear cX_b cX_f cX_0 cX_1 cX_2 cX_3 cX_4 cX_5 cX_6 cX_7 cX_8 cX_9 cX_10 cX_11 cX_12
   go_ret
   exact ⟨rfl, (grB B1)⟩
  subst z
  by_cases hr : rs = ⟨#[]⟩
  case pos =>
   subst hr
   rw [show ((0 : Int) == 0 && (⟨#[]⟩ : ByteArray).data.toList == []) = true by decide +kernel]
   go_enter Tryz.func23, Tryz.ntmps23
   go_wp2_with fail
   refine (CK.out _).mono ?_; rintro e v1 ⟨rfl, rfl⟩
   go_wp2_with fail
   refine (EN.out _).mono ?_; rintro e w1 ⟨rfl, b1⟩
   have d1 : Below w.heap.size w w1 := below_step gr0 b1
   have B1 := Lib.hid d1
   have X1 : Bk13 w1 (w.heap.size) (.int .i64 off) (.int .i64 0) (.int .i64 0) (.string ⟨#[]⟩) (.string fm) (.bool h) (.int .i64 y) (.int .i64 m) (.int .i64 k) (.int .i64 wk) (.int .i64 d) (.int .i64 sec) (.int .i64 base) := by refine Bk13.of b1 (by simp <;> omega) (by intro j; simp [go_sem]) ?_ ?_ ?_ ?_ ?_ ?_ ?_ ?_ ?_ ?_ ?_ ?_ ?_ <;> simp [go_sem]
   clear b1 d1
   have tx := X1; obtain ⟨cX_b, cX_f, cX_0, cX_1, cX_2, cX_3, cX_4, cX_5, cX_6, cX_7, cX_8, cX_9, cX_10, cX_11, cX_12⟩ := tx
   go_wp2_with fail
   clear cX_b cX_f cX_0 cX_1 cX_2 cX_3 cX_4 cX_5 cX_6 cX_7 cX_8 cX_9 cX_10 cX_11 cX_12
   go_ret
   exact ⟨rfl, (grB B1)⟩
  have m1 : (rs.data.toList == []) = false := by rw [beq_eq_false_iff_ne]; intro e; exact hr (ByteArray.ext (Array.toList_inj.1 e))
  have m2 : (rs.toList == []) = false := by rw [ByteArray.toList_eq]; exact m1
  have m3 : ¬ rs.toList = [] := beq_eq_false_iff_ne.1 m2
  rw [m1]
  clear hr m1
  rw [show ((0 : Int) == 0 && false) = false from rfl]
  go_enter Tryz.func23, Tryz.ntmps23
  go_wp2_with fail
  refine (CK.out _).mono ?_; rintro e v1 ⟨rfl, rfl⟩
  go_wp2_with fail
  refine (EN.out _).mono ?_; rintro e w1 ⟨rfl, b1⟩
  have d1 : Below w.heap.size w w1 := below_step gr0 b1
  have B1 := Lib.hid d1
  have X1 : Bk13 w1 (w.heap.size) (.int .i64 off) (.int .i64 0) (.int .i64 0) (.string rs) (.string fm) (.bool h) (.int .i64 y) (.int .i64 m) (.int .i64 k) (.int .i64 wk) (.int .i64 d) (.int .i64 sec) (.int .i64 base) := by refine Bk13.of b1 (by simp <;> omega) (by intro j; simp [go_sem]) ?_ ?_ ?_ ?_ ?_ ?_ ?_ ?_ ?_ ?_ ?_ ?_ ?_ <;> simp [go_sem]
  clear b1 d1
  have tx := X1; obtain ⟨cX_b, cX_f, cX_0, cX_1, cX_2, cX_3, cX_4, cX_5, cX_6, cX_7, cX_8, cX_9, cX_10, cX_11, cX_12⟩ := tx
  go_wp2_with fail
  clear cX_b cX_f cX_0 cX_1 cX_2 cX_3 cX_4 cX_5 cX_6 cX_7 cX_8 cX_9 cX_10 cX_11 cX_12
  go_ret
  exact ⟨rfl, (grB B1)⟩
 have n0 : (kind == 0) = false := by rw [beq_eq_false_iff_ne]; exact k0
 by_cases k1 : kind = 1
 case pos =>
  subst k1
  rw [show Er.rulR 1 save rs = (decide (-10800 ≤ save) && (decide (save ≤ 10800) && rs.data.toList == [])) from rfl]
  by_cases c1 : -10800 ≤ save
  case neg =>
   have g1 : decide (-10800 ≤ save) = false := decide_eq_false c1
   rw [g1]
   go_enter Tryz.func23, Tryz.ntmps23
   go_wp2_with fail
   refine (CK.out _).mono ?_; rintro e v1 ⟨rfl, rfl⟩
   go_wp2_with fail
   refine (EN.out _).mono ?_; rintro e w1 ⟨rfl, b1⟩
   have d1 : Below w.heap.size w w1 := below_step gr0 b1
   have B1 := Lib.hid d1
   have X1 : Bk13 w1 (w.heap.size) (.int .i64 off) (.int .i64 1) (.int .i64 save) (.string rs) (.string fm) (.bool h) (.int .i64 y) (.int .i64 m) (.int .i64 k) (.int .i64 wk) (.int .i64 d) (.int .i64 sec) (.int .i64 base) := by refine Bk13.of b1 (by simp <;> omega) (by intro j; simp [go_sem]) ?_ ?_ ?_ ?_ ?_ ?_ ?_ ?_ ?_ ?_ ?_ ?_ ?_ <;> simp [go_sem]
   clear b1 d1
   have tx := X1; obtain ⟨cX_b, cX_f, cX_0, cX_1, cX_2, cX_3, cX_4, cX_5, cX_6, cX_7, cX_8, cX_9, cX_10, cX_11, cX_12⟩ := tx
   go_wp2_with fail
   clear cX_b cX_f cX_0 cX_1 cX_2 cX_3 cX_4 cX_5 cX_6 cX_7 cX_8 cX_9 cX_10 cX_11 cX_12
   go_ret
   exact ⟨rfl, (grB B1)⟩
  have g1 : decide (-10800 ≤ save) = true := decide_eq_true c1
  by_cases c2 : save ≤ 10800
  case neg =>
   have g2 : decide (save ≤ 10800) = false := decide_eq_false c2
   rw [g1, g2]
   go_enter Tryz.func23, Tryz.ntmps23
   go_wp2_with fail
   refine (CK.out _).mono ?_; rintro e v1 ⟨rfl, rfl⟩
   go_wp2_with fail
   refine (EN.out _).mono ?_; rintro e w1 ⟨rfl, b1⟩
   have d1 : Below w.heap.size w w1 := below_step gr0 b1
   have B1 := Lib.hid d1
   have X1 : Bk13 w1 (w.heap.size) (.int .i64 off) (.int .i64 1) (.int .i64 save) (.string rs) (.string fm) (.bool h) (.int .i64 y) (.int .i64 m) (.int .i64 k) (.int .i64 wk) (.int .i64 d) (.int .i64 sec) (.int .i64 base) := by refine Bk13.of b1 (by simp <;> omega) (by intro j; simp [go_sem]) ?_ ?_ ?_ ?_ ?_ ?_ ?_ ?_ ?_ ?_ ?_ ?_ ?_ <;> simp [go_sem]
   clear b1 d1
   have tx := X1; obtain ⟨cX_b, cX_f, cX_0, cX_1, cX_2, cX_3, cX_4, cX_5, cX_6, cX_7, cX_8, cX_9, cX_10, cX_11, cX_12⟩ := tx
   go_wp2_with fail
   clear cX_b cX_f cX_0 cX_1 cX_2 cX_3 cX_4 cX_5 cX_6 cX_7 cX_8 cX_9 cX_10 cX_11 cX_12
   go_ret
   exact ⟨rfl, (grB B1)⟩
  have g2 : decide (save ≤ 10800) = true := decide_eq_true c2
  rw [g1, g2]
  by_cases hr : rs = ⟨#[]⟩
  case pos =>
   subst hr
   rw [show (true && (true && (⟨#[]⟩ : ByteArray).data.toList == [])) = true by decide +kernel]
   go_enter Tryz.func23, Tryz.ntmps23
   go_wp2_with fail
   refine (CK.out _).mono ?_; rintro e v1 ⟨rfl, rfl⟩
   go_wp2_with fail
   refine (EN.out _).mono ?_; rintro e w1 ⟨rfl, b1⟩
   have d1 : Below w.heap.size w w1 := below_step gr0 b1
   have B1 := Lib.hid d1
   have X1 : Bk13 w1 (w.heap.size) (.int .i64 off) (.int .i64 1) (.int .i64 save) (.string ⟨#[]⟩) (.string fm) (.bool h) (.int .i64 y) (.int .i64 m) (.int .i64 k) (.int .i64 wk) (.int .i64 d) (.int .i64 sec) (.int .i64 base) := by refine Bk13.of b1 (by simp <;> omega) (by intro j; simp [go_sem]) ?_ ?_ ?_ ?_ ?_ ?_ ?_ ?_ ?_ ?_ ?_ ?_ ?_ <;> simp [go_sem]
   clear b1 d1
   have tx := X1; obtain ⟨cX_b, cX_f, cX_0, cX_1, cX_2, cX_3, cX_4, cX_5, cX_6, cX_7, cX_8, cX_9, cX_10, cX_11, cX_12⟩ := tx
   go_wp2_with fail
   clear cX_b cX_f cX_0 cX_1 cX_2 cX_3 cX_4 cX_5 cX_6 cX_7 cX_8 cX_9 cX_10 cX_11 cX_12
   go_ret
   exact ⟨rfl, (grB B1)⟩
  have m1 : (rs.data.toList == []) = false := by rw [beq_eq_false_iff_ne]; intro e; exact hr (ByteArray.ext (Array.toList_inj.1 e))
  have m2 : (rs.toList == []) = false := by rw [ByteArray.toList_eq]; exact m1
  have m3 : ¬ rs.toList = [] := beq_eq_false_iff_ne.1 m2
  rw [m1]
  clear hr m1
  rw [show (true && (true && false)) = false from rfl]
  go_enter Tryz.func23, Tryz.ntmps23
  go_wp2_with fail
  refine (CK.out _).mono ?_; rintro e v1 ⟨rfl, rfl⟩
  go_wp2_with fail
  refine (EN.out _).mono ?_; rintro e w1 ⟨rfl, b1⟩
  have d1 : Below w.heap.size w w1 := below_step gr0 b1
  have B1 := Lib.hid d1
  have X1 : Bk13 w1 (w.heap.size) (.int .i64 off) (.int .i64 1) (.int .i64 save) (.string rs) (.string fm) (.bool h) (.int .i64 y) (.int .i64 m) (.int .i64 k) (.int .i64 wk) (.int .i64 d) (.int .i64 sec) (.int .i64 base) := by refine Bk13.of b1 (by simp <;> omega) (by intro j; simp [go_sem]) ?_ ?_ ?_ ?_ ?_ ?_ ?_ ?_ ?_ ?_ ?_ ?_ ?_ <;> simp [go_sem]
  clear b1 d1
  have tx := X1; obtain ⟨cX_b, cX_f, cX_0, cX_1, cX_2, cX_3, cX_4, cX_5, cX_6, cX_7, cX_8, cX_9, cX_10, cX_11, cX_12⟩ := tx
  go_wp2_with fail
  clear cX_b cX_f cX_0 cX_1 cX_2 cX_3 cX_4 cX_5 cX_6 cX_7 cX_8 cX_9 cX_10 cX_11 cX_12
  go_ret
  exact ⟨rfl, (grB B1)⟩
 have n1 : (kind == 1) = false := by rw [beq_eq_false_iff_ne]; exact k1
 by_cases k2 : kind = 2
 case pos =>
  subst k2
  rw [show Er.rulR 2 save rs = (save == 0 && Lk.nm rs.data.toList == 0) from rfl]
  by_cases z : save = 0
  case neg =>
   have g : (save == 0) = false := by rw [beq_eq_false_iff_ne]; exact z
   rw [g]
   go_enter Tryz.func23, Tryz.ntmps23
   go_wp2_with fail
   refine (CK.out _).mono ?_; rintro e v1 ⟨rfl, rfl⟩
   go_wp2_with fail
   refine (EN.out _).mono ?_; rintro e w1 ⟨rfl, b1⟩
   have d1 : Below w.heap.size w w1 := below_step gr0 b1
   have B1 := Lib.hid d1
   have X1 : Bk13 w1 (w.heap.size) (.int .i64 off) (.int .i64 2) (.int .i64 save) (.string rs) (.string fm) (.bool h) (.int .i64 y) (.int .i64 m) (.int .i64 k) (.int .i64 wk) (.int .i64 d) (.int .i64 sec) (.int .i64 base) := by refine Bk13.of b1 (by simp <;> omega) (by intro j; simp [go_sem]) ?_ ?_ ?_ ?_ ?_ ?_ ?_ ?_ ?_ ?_ ?_ ?_ ?_ <;> simp [go_sem]
   clear b1 d1
   have tx := X1; obtain ⟨cX_b, cX_f, cX_0, cX_1, cX_2, cX_3, cX_4, cX_5, cX_6, cX_7, cX_8, cX_9, cX_10, cX_11, cX_12⟩ := tx
   go_wp2_with fail
   clear cX_b cX_f cX_0 cX_1 cX_2 cX_3 cX_4 cX_5 cX_6 cX_7 cX_8 cX_9 cX_10 cX_11 cX_12
   go_ret
   exact ⟨rfl, (grB B1)⟩
  subst z
  have NM := Lib.hid (fun W => rrname_any rs W (by unfold maxLen; omega))
  generalize Lk.nm rs.data.toList = q at *
  by_cases hq : q = 0
  case pos =>
   subst hq
   rw [show ((0 : Int) == 0 && (0 : Int) == 0) = true from rfl]
   go_enter Tryz.func23, Tryz.ntmps23
   go_wp2_with fail
   refine (CK.out _).mono ?_; rintro e v1 ⟨rfl, rfl⟩
   go_wp2_with fail
   refine (EN.out _).mono ?_; rintro e w1 ⟨rfl, b1⟩
   have d1 : Below w.heap.size w w1 := below_step gr0 b1
   have B1 := Lib.hid d1
   have X1 : Bk13 w1 (w.heap.size) (.int .i64 off) (.int .i64 2) (.int .i64 0) (.string rs) (.string fm) (.bool h) (.int .i64 y) (.int .i64 m) (.int .i64 k) (.int .i64 wk) (.int .i64 d) (.int .i64 sec) (.int .i64 base) := by refine Bk13.of b1 (by simp <;> omega) (by intro j; simp [go_sem]) ?_ ?_ ?_ ?_ ?_ ?_ ?_ ?_ ?_ ?_ ?_ ?_ ?_ <;> simp [go_sem]
   clear b1 d1
   have tx := X1; obtain ⟨cX_b, cX_f, cX_0, cX_1, cX_2, cX_3, cX_4, cX_5, cX_6, cX_7, cX_8, cX_9, cX_10, cX_11, cX_12⟩ := tx
   go_wp2_with fail
   clear cX_b cX_f cX_0 cX_1 cX_2 cX_3 cX_4 cX_5 cX_6 cX_7 cX_8 cX_9 cX_10 cX_11 cX_12
   refine (NM.out _).mono ?_; rintro e v2 ⟨rfl, rfl⟩
   have tx := X1; obtain ⟨cX_b, cX_f, cX_0, cX_1, cX_2, cX_3, cX_4, cX_5, cX_6, cX_7, cX_8, cX_9, cX_10, cX_11, cX_12⟩ := tx
   go_wp2_with fail
   clear cX_b cX_f cX_0 cX_1 cX_2 cX_3 cX_4 cX_5 cX_6 cX_7 cX_8 cX_9 cX_10 cX_11 cX_12
   go_ret
   exact ⟨rfl, (grB B1)⟩
  have g : (q == 0) = false := by rw [beq_eq_false_iff_ne]; exact hq
  rw [g, show ((0 : Int) == 0 && false) = false from rfl]
  go_enter Tryz.func23, Tryz.ntmps23
  go_wp2_with fail
  refine (CK.out _).mono ?_; rintro e v1 ⟨rfl, rfl⟩
  go_wp2_with fail
  refine (EN.out _).mono ?_; rintro e w1 ⟨rfl, b1⟩
  have d1 : Below w.heap.size w w1 := below_step gr0 b1
  have B1 := Lib.hid d1
  have X1 : Bk13 w1 (w.heap.size) (.int .i64 off) (.int .i64 2) (.int .i64 0) (.string rs) (.string fm) (.bool h) (.int .i64 y) (.int .i64 m) (.int .i64 k) (.int .i64 wk) (.int .i64 d) (.int .i64 sec) (.int .i64 base) := by refine Bk13.of b1 (by simp <;> omega) (by intro j; simp [go_sem]) ?_ ?_ ?_ ?_ ?_ ?_ ?_ ?_ ?_ ?_ ?_ ?_ ?_ <;> simp [go_sem]
  clear b1 d1
  have tx := X1; obtain ⟨cX_b, cX_f, cX_0, cX_1, cX_2, cX_3, cX_4, cX_5, cX_6, cX_7, cX_8, cX_9, cX_10, cX_11, cX_12⟩ := tx
  go_wp2_with fail
  clear cX_b cX_f cX_0 cX_1 cX_2 cX_3 cX_4 cX_5 cX_6 cX_7 cX_8 cX_9 cX_10 cX_11 cX_12
  refine (NM.out _).mono ?_; rintro e v2 ⟨rfl, rfl⟩
  have tx := X1; obtain ⟨cX_b, cX_f, cX_0, cX_1, cX_2, cX_3, cX_4, cX_5, cX_6, cX_7, cX_8, cX_9, cX_10, cX_11, cX_12⟩ := tx
  go_wp2_with fail
  clear cX_b cX_f cX_0 cX_1 cX_2 cX_3 cX_4 cX_5 cX_6 cX_7 cX_8 cX_9 cX_10 cX_11 cX_12
  go_ret
  exact ⟨rfl, (grB B1)⟩
 have n2 : (kind == 2) = false := by rw [beq_eq_false_iff_ne]; exact k2
 rw [show Er.rulR kind save rs = false by unfold Er.rulR; rw [if_neg k0, if_neg k1, if_neg k2]]
 go_enter Tryz.func23, Tryz.ntmps23
 go_wp2_with fail
 refine (CK.out _).mono ?_; rintro e v1 ⟨rfl, rfl⟩
 go_wp2_with fail
 refine (EN.out _).mono ?_; rintro e w1 ⟨rfl, b1⟩
 have d1 : Below w.heap.size w w1 := below_step gr0 b1
 have B1 := Lib.hid d1
 have X1 : Bk13 w1 (w.heap.size) (.int .i64 off) (.int .i64 kind) (.int .i64 save) (.string rs) (.string fm) (.bool h) (.int .i64 y) (.int .i64 m) (.int .i64 k) (.int .i64 wk) (.int .i64 d) (.int .i64 sec) (.int .i64 base) := by refine Bk13.of b1 (by simp <;> omega) (by intro j; simp [go_sem]) ?_ ?_ ?_ ?_ ?_ ?_ ?_ ?_ ?_ ?_ ?_ ?_ ?_ <;> simp [go_sem]
 clear b1 d1
 have tx := X1; obtain ⟨cX_b, cX_f, cX_0, cX_1, cX_2, cX_3, cX_4, cX_5, cX_6, cX_7, cX_8, cX_9, cX_10, cX_11, cX_12⟩ := tx
 go_wp2_with fail
 clear cX_b cX_f cX_0 cX_1 cX_2 cX_3 cX_4 cX_5 cX_6 cX_7 cX_8 cX_9 cX_10 cX_11 cX_12
 go_ret
 exact ⟨rfl, (grB B1)⟩
def Blk (W : World) (B : Nat) (t : TypeId) (vs : Array Value) : Prop := W.heap[B]? = some (.cells vs t (0, 0))
theorem Blk.lt {W : World} {B : Nat} {t : TypeId} {vs : Array Value} (h : Blk W B t vs) : B < W.heap.size := (Array.getElem?_eq_some_iff.1 h).1
theorem Blk.new (W : World) (t : TypeId) (vs : Array Value) : Blk (W.alloc (.cells vs t)) W.heap.size t vs := heap_alloc_new W _
theorem Blk.kept {W W' : World} {row : Option Nat} {B : Nat} {t : TypeId} {vs : Array Value} (h : Blk W B t vs) (hg : W.grownBy W' row) (hne : some B ≠ row) : Blk W' B t vs := (hg.block B h.lt hne).trans h
theorem Blk.alloc {W : World} {B : Nat} {t : TypeId} {vs : Array Value} (h : Blk W B t vs) (o : Obj) : Blk (W.alloc o) B t vs := h.kept (World.grownBy_alloc W o none) (by simp)
theorem Blk.on {W W' : World} {B : Nat} {t : TypeId} {vs : Array Value} (h : Blk W B t vs) (k : Below W.heap.size W W') : Blk W' B t vs := (k.block B h.lt).trans h
theorem Blk.not_row {W : World} {B : Nat} {t e : TypeId} {vs : Array Value} (h : Blk W B t vs) (hte : t ≠ e) {base size k : Nat} {v : Value} {xs : List Value} (hr : W.ownsRow base e size v k xs) : some B ≠ v.ownBlock := by
 rcases hr.2 with ⟨rfl, _⟩ | ⟨g, cap, cur, rfl, _, hgb, _⟩
 ·
  simp [Value.ownBlock]
 ·
  intro e'
  obtain rfl : B = g := by simpa [Value.ownBlock] using e'
  have := (show W.heap[B]? = _ from h).symm.trans hgb
  simp at this
  exact hte this.2
theorem Blk.c0 {W : World} {B : Nat} {t : TypeId} {v : Value} {vs : List Value} (h : Blk W B t (v :: vs).toArray) : W.cell? ⟨B, 0, none⟩ = some v := by simp [World.cell?, show W.heap[B]? = _ from h]
theorem Blk.c1 {W : World} {B : Nat} {t : TypeId} {u v : Value} {vs : List Value} (h : Blk W B t (u :: v :: vs).toArray) : W.cell? ⟨B, 1, none⟩ = some v := by simp [World.cell?, show W.heap[B]? = _ from h]
theorem Blk.c2 {W : World} {B : Nat} {t : TypeId} {u u' v : Value} {vs : List Value} (h : Blk W B t (u :: u' :: v :: vs).toArray) : W.cell? ⟨B, 2, none⟩ = some v := by simp [World.cell?, show W.heap[B]? = _ from h]
theorem Blk.frozen {W : World} {B : Nat} {t : TypeId} {vs : Array Value} (h : Blk W B t vs) (j : Nat) : W.frozen? ⟨B, j, none⟩ = false := by simp [World.frozen?, show W.heap[B]? = _ from h]
end Go.Proofs.YtpggfhmnhbnefaaGreatDoor
