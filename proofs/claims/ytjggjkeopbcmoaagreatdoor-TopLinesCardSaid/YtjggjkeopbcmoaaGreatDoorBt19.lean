/- Joined: ErA, ErC, ErE. -/
import Derived.Test.YtjggjkeopbcmoaaGreatDoorBt01
import Derived.Test.YtjggjkeopbcmoaaGreatDoorBt18
import Derived.Test.YtjggjkeopbcmoaaGreatDoorBt02
import Derived.Test.YtjggjkeopbcmoaaGreatDoorBt17
import Derived.Test.YtjggjkeopbcmoaaGreatDoorLaid9
import Derived.Test.YtjggjkeopbcmoaaGreatDoorBt05
import Derived.Test.YtjggjkeopbcmoaaGreatDoorBt07
import Derived.Test.YtjggjkeopbcmoaaGreatDoorBt06
import Derived.Shelf.Strings.Prefix
set_option linter.unusedVariables false
set_option linter.unusedSimpArgs false
namespace Go.Proofs.YtjggjkeopbcmoaaGreatDoor
open Go.RowKit Go.Sort
namespace Er
def endR (h : Bool) (y m k wk d sec base : Int) : Bool :=
 if h = true then decide (-32767 < y) && (decide (y < 32767) && (Dr.onF k wk d m && Cl.rB sec base)) else decide (y = 0 ∧ m = 0 ∧ k = 0 ∧ wk = 0 ∧ d = 0 ∧ sec = 0 ∧ base = 0)
def rulR (kind save : Int) (rs : ByteArray) : Bool :=
 if kind = 0 then (save == 0 && rs.data.toList == []) else if kind = 1 then (decide (-10800 ≤ save) && (decide (save ≤ 10800) && rs.data.toList == [])) else if kind = 2 then (save == 0 && Lk.nm rs.data.toList == 0) else false
def ok (off kind save : Int) (rs fm : ByteArray) (h : Bool) (y m k wk d sec base : Int) : Bool :=
 decide (-54000 ≤ off) && (decide (off ≤ 54000) && (rulR kind save rs && ((Fo.kd fm.data.toList).2 == 0 && endR h y m k wk d sec base)))
end Er
set_option maxRecDepth 100000 in
theorem erin_any (n b : Int) (w : World) (b0 : 0 ≤ b) (b1 : b ≤ 1000000) : Calls Tryz.prog 76 #[.int .i64 n, .int .i64 b] w fun e w' => e = .returned (.bool (decide (-b ≤ n) && decide (n ≤ b))) ∧ w = w' := by
 obtain ⟨nb, hnb⟩ : ∃ nb, nb = -b := ⟨_, rfl⟩
 by_cases c1 : -b ≤ n
 ·
  by_cases c2 : n ≤ b
  ·
   rw [decide_eq_true c1, decide_eq_true c2]
   go_enter Tryz.func76, Tryz.ntmps76
   go_wp2
   go_ret
   exact ⟨rfl, rfl⟩
  ·
   have g : decide (n ≤ b) = false := decide_eq_false c2
   rw [decide_eq_true c1, g]
   go_enter Tryz.func76, Tryz.ntmps76
   go_wp2
   go_ret
   exact ⟨rfl, rfl⟩
 ·
  have g : decide (-b ≤ n) = false := decide_eq_false c1
  rw [g]
  go_enter Tryz.func76, Tryz.ntmps76
  go_wp2
  go_ret
  exact ⟨rfl, rfl⟩
theorem eryear_any (n : Int) (w : World) : Calls Tryz.prog 119 #[.int .i64 n] w fun e w' => e = .returned (.bool (decide (-32767 < n) && decide (n < 32767))) ∧ w = w' := by
 by_cases c1 : -32767 < n
 ·
  by_cases c2 : n < 32767
  ·
   rw [decide_eq_true c1, decide_eq_true c2]
   go_enter Tryz.func119, Tryz.ntmps119
   go_wp2
   go_ret
   exact ⟨rfl, rfl⟩
  ·
   have g : decide (n < 32767) = false := decide_eq_false c2
   rw [decide_eq_true c1, g]
   go_enter Tryz.func119, Tryz.ntmps119
   go_wp2
   go_ret
   exact ⟨rfl, rfl⟩
 ·
  have g : decide (-32767 < n) = false := decide_eq_false c1
  rw [g]
  go_enter Tryz.func119, Tryz.ntmps119
  go_wp2
  go_ret
  exact ⟨rfl, rfl⟩
theorem eryear_b (n : Int) (b : Bool) (h : (decide (-32767 < n) && decide (n < 32767)) = b) (w : World) : Calls Tryz.prog 119 #[.int .i64 n] w fun e w' => e = .returned (.bool b) ∧ w = w' := h ▸ eryear_any n w
set_option maxHeartbeats 4000000 in
set_option maxRecDepth 100000 in
theorem erend_any (h : Bool) (y m k wk d sec base : Int) (w : World) (y0 : -9223372036854775808 ≤ y) (y1 : y ≤ 9223372036854775807) : Calls Tryz.prog 79 #[.agg #[.bool h, .int .i64 y, .int .i64 m, .int .i64 k, .int .i64 wk, .int .i64 d, .int .i64 sec, .int .i64 base]] w fun e w' => e = .returned (.bool (Er.endR h y m k wk d sec base)) ∧ Below w.heap.size w w' := by
 cases h
 ·
  have e0 : Er.endR false y m k wk d sec base = decide (y = 0 ∧ m = 0 ∧ k = 0 ∧ wk = 0 ∧ d = 0 ∧ sec = 0 ∧ base = 0) := rfl
  rw [e0]; clear e0
  by_cases z0 : y = 0
  case neg =>
   have g : (y == 0) = false := by rw [beq_eq_false_iff_ne]; exact z0
   rw [show decide (y = 0 ∧ m = 0 ∧ k = 0 ∧ wk = 0 ∧ d = 0 ∧ sec = 0 ∧ base = 0) = false from decide_eq_false (by simp [z0])]
   go_enter Tryz.func79, Tryz.ntmps79
   go_wp2_with fail
   go_ret
   exact ⟨rfl, gr0⟩
  subst z0
  by_cases z1 : m = 0
  case neg =>
   have g : (m == 0) = false := by rw [beq_eq_false_iff_ne]; exact z1
   rw [show decide ((0 : Int) = 0 ∧ m = 0 ∧ k = 0 ∧ wk = 0 ∧ d = 0 ∧ sec = 0 ∧ base = 0) = false from decide_eq_false (by simp [z1])]
   go_enter Tryz.func79, Tryz.ntmps79
   go_wp2_with fail
   go_ret
   exact ⟨rfl, gr0⟩
  subst z1
  by_cases z2 : k = 0
  case neg =>
   have g : (k == 0) = false := by rw [beq_eq_false_iff_ne]; exact z2
   rw [show decide ((0 : Int) = 0 ∧ (0 : Int) = 0 ∧ k = 0 ∧ wk = 0 ∧ d = 0 ∧ sec = 0 ∧ base = 0) = false from decide_eq_false (by simp [z2])]
   go_enter Tryz.func79, Tryz.ntmps79
   go_wp2_with fail
   go_ret
   exact ⟨rfl, gr0⟩
  subst z2
  by_cases z3 : wk = 0
  case neg =>
   have g : (wk == 0) = false := by rw [beq_eq_false_iff_ne]; exact z3
   rw [show decide ((0 : Int) = 0 ∧ (0 : Int) = 0 ∧ (0 : Int) = 0 ∧ wk = 0 ∧ d = 0 ∧ sec = 0 ∧ base = 0) = false from decide_eq_false (by simp [z3])]
   go_enter Tryz.func79, Tryz.ntmps79
   go_wp2_with fail
   go_ret
   exact ⟨rfl, gr0⟩
  subst z3
  by_cases z4 : d = 0
  case neg =>
   have g : (d == 0) = false := by rw [beq_eq_false_iff_ne]; exact z4
   rw [show decide ((0 : Int) = 0 ∧ (0 : Int) = 0 ∧ (0 : Int) = 0 ∧ (0 : Int) = 0 ∧ d = 0 ∧ sec = 0 ∧ base = 0) = false from decide_eq_false (by simp [z4])]
   go_enter Tryz.func79, Tryz.ntmps79
   go_wp2_with fail
   go_ret
   exact ⟨rfl, gr0⟩
  subst z4
  by_cases z5 : sec = 0
  case neg =>
   have g : (sec == 0) = false := by rw [beq_eq_false_iff_ne]; exact z5
   rw [show decide ((0 : Int) = 0 ∧ (0 : Int) = 0 ∧ (0 : Int) = 0 ∧ (0 : Int) = 0 ∧ (0 : Int) = 0 ∧ sec = 0 ∧ base = 0) = false from decide_eq_false (by simp [z5])]
   go_enter Tryz.func79, Tryz.ntmps79
   go_wp2_with fail
   go_ret
   exact ⟨rfl, gr0⟩
  subst z5
  by_cases z6 : base = 0
  case neg =>
   have g : (base == 0) = false := by rw [beq_eq_false_iff_ne]; exact z6
   rw [show decide ((0 : Int) = 0 ∧ (0 : Int) = 0 ∧ (0 : Int) = 0 ∧ (0 : Int) = 0 ∧ (0 : Int) = 0 ∧ (0 : Int) = 0 ∧ base = 0) = false from decide_eq_false (by simp [z6])]
   go_enter Tryz.func79, Tryz.ntmps79
   go_wp2_with fail
   go_ret
   exact ⟨rfl, gr0⟩
  subst z6
  rw [show decide ((0 : Int) = 0 ∧ (0 : Int) = 0 ∧ (0 : Int) = 0 ∧ (0 : Int) = 0 ∧ (0 : Int) = 0 ∧ (0 : Int) = 0 ∧ (0 : Int) = 0) = true from decide_eq_true (by simp)]
  go_enter Tryz.func79, Tryz.ntmps79
  go_wp2_with fail
  go_ret
  exact ⟨rfl, gr0⟩
 ·
  have e0 : Er.endR true y m k wk d sec base = (decide (-32767 < y) && (decide (y < 32767) && (Dr.onF k wk d m && Cl.rB sec base))) := rfl
  rw [e0]; clear e0
  have OF := Lib.hid (fun W => ofits_any k wk d m W)
  have CR := Lib.hid (fun W => clright_any sec base W)
  generalize Dr.onF k wk d m = o at *
  generalize Cl.rB sec base = c at *
  by_cases h1 : -32767 < y
  case neg =>
   rw [decide_eq_false h1]
   have g1 : decide (-32767 < y) = false := decide_eq_false h1
   go_enter Tryz.func79, Tryz.ntmps79
   go_wp2_with fail
   refine ((eryear_b y false (by rw [g1]; rfl) _)).mono ?_; rintro e v1 ⟨rfl, rfl⟩
   go_wp2_with fail
   go_ret
   exact ⟨rfl, gr0⟩
  have g1 : decide (-32767 < y) = true := decide_eq_true h1
  by_cases h2 : y < 32767
  case neg =>
   rw [g1, decide_eq_false h2]
   have g2 : decide (y < 32767) = false := decide_eq_false h2
   go_enter Tryz.func79, Tryz.ntmps79
   go_wp2_with fail
   refine ((eryear_b y false (by rw [g1, g2]; rfl) _)).mono ?_; rintro e v1 ⟨rfl, rfl⟩
   go_wp2_with fail
   go_ret
   exact ⟨rfl, gr0⟩
  have g2 : decide (y < 32767) = true := decide_eq_true h2
  rw [g1, g2]
  cases o
  ·
   skip
   go_enter Tryz.func79, Tryz.ntmps79
   go_wp2_with fail
   refine ((eryear_b y true (by rw [g1, g2]; rfl) _)).mono ?_; rintro e v1 ⟨rfl, rfl⟩
   go_wp2_with fail
   refine (OF.out _).mono ?_; rintro e w1 ⟨rfl, b1⟩
   have d1 : Below w.heap.size w w1 := below_step gr0 b1
   have B1 := Lib.hid d1
   have X1 : Bk8 w1 (w.heap.size) (.bool true) (.int .i64 y) (.int .i64 m) (.int .i64 k) (.int .i64 wk) (.int .i64 d) (.int .i64 sec) (.int .i64 base) := by refine Bk8.of b1 (by simp <;> omega) (by intro j; simp [go_sem]) ?_ ?_ ?_ ?_ ?_ ?_ ?_ ?_ <;> simp [go_sem]
   clear b1 d1
   have tx := X1; obtain ⟨cX_b, cX_f, cX_0, cX_1, cX_2, cX_3, cX_4, cX_5, cX_6, cX_7⟩ := tx
   go_wp2_with fail
   clear cX_b cX_f cX_0 cX_1 cX_2 cX_3 cX_4 cX_5 cX_6 cX_7
   go_ret
   exact ⟨rfl, (grB B1)⟩
  ·
   cases c
   ·
    skip
    go_enter Tryz.func79, Tryz.ntmps79
    go_wp2_with fail
    refine ((eryear_b y true (by rw [g1, g2]; rfl) _)).mono ?_; rintro e v1 ⟨rfl, rfl⟩
    go_wp2_with fail
    refine (OF.out _).mono ?_; rintro e w1 ⟨rfl, b1⟩
    have d1 : Below w.heap.size w w1 := below_step gr0 b1
    have B1 := Lib.hid d1
    have X1 : Bk8 w1 (w.heap.size) (.bool true) (.int .i64 y) (.int .i64 m) (.int .i64 k) (.int .i64 wk) (.int .i64 d) (.int .i64 sec) (.int .i64 base) := by refine Bk8.of b1 (by simp <;> omega) (by intro j; simp [go_sem]) ?_ ?_ ?_ ?_ ?_ ?_ ?_ ?_ <;> simp [go_sem]
    clear b1 d1
    have tx := X1; obtain ⟨cX_b, cX_f, cX_0, cX_1, cX_2, cX_3, cX_4, cX_5, cX_6, cX_7⟩ := tx
    go_wp2_with fail
    clear cX_b cX_f cX_0 cX_1 cX_2 cX_3 cX_4 cX_5 cX_6 cX_7
    refine (CR.out _).mono ?_; rintro e w2 ⟨rfl, b2⟩
    have d2 : Below w1.heap.size w1 w2 := below_step gr0 b2
    have B2 := Lib.hid (below_step B1.out d2)
    have X2 := X1.keep d2
    clear X1 b2 d2 B1
    have tx := X2; obtain ⟨cX_b, cX_f, cX_0, cX_1, cX_2, cX_3, cX_4, cX_5, cX_6, cX_7⟩ := tx
    go_wp2_with fail
    clear cX_b cX_f cX_0 cX_1 cX_2 cX_3 cX_4 cX_5 cX_6 cX_7
    go_ret
    exact ⟨rfl, (grB B2)⟩
   ·
    skip
    go_enter Tryz.func79, Tryz.ntmps79
    go_wp2_with fail
    refine ((eryear_b y true (by rw [g1, g2]; rfl) _)).mono ?_; rintro e v1 ⟨rfl, rfl⟩
    go_wp2_with fail
    refine (OF.out _).mono ?_; rintro e w1 ⟨rfl, b1⟩
    have d1 : Below w.heap.size w w1 := below_step gr0 b1
    have B1 := Lib.hid d1
    have X1 : Bk8 w1 (w.heap.size) (.bool true) (.int .i64 y) (.int .i64 m) (.int .i64 k) (.int .i64 wk) (.int .i64 d) (.int .i64 sec) (.int .i64 base) := by refine Bk8.of b1 (by simp <;> omega) (by intro j; simp [go_sem]) ?_ ?_ ?_ ?_ ?_ ?_ ?_ ?_ <;> simp [go_sem]
    clear b1 d1
    have tx := X1; obtain ⟨cX_b, cX_f, cX_0, cX_1, cX_2, cX_3, cX_4, cX_5, cX_6, cX_7⟩ := tx
    go_wp2_with fail
    clear cX_b cX_f cX_0 cX_1 cX_2 cX_3 cX_4 cX_5 cX_6 cX_7
    refine (CR.out _).mono ?_; rintro e w2 ⟨rfl, b2⟩
    have d2 : Below w1.heap.size w1 w2 := below_step gr0 b2
    have B2 := Lib.hid (below_step B1.out d2)
    have X2 := X1.keep d2
    clear X1 b2 d2 B1
    have tx := X2; obtain ⟨cX_b, cX_f, cX_0, cX_1, cX_2, cX_3, cX_4, cX_5, cX_6, cX_7⟩ := tx
    go_wp2_with fail
    clear cX_b cX_f cX_0 cX_1 cX_2 cX_3 cX_4 cX_5 cX_6 cX_7
    go_ret
    exact ⟨rfl, (grB B2)⟩
theorem erin_b (n b : Int) (r : Bool) (h : (decide (-b ≤ n) && decide (n ≤ b)) = r) (w : World) (b0 : 0 ≤ b := by decide) (b1 : b ≤ 1000000 := by decide) : Calls Tryz.prog 76 #[.int .i64 n, .int .i64 b] w fun e w' => e = .returned (.bool r) ∧ w = w' := h ▸ erin_any n b w b0 b1
set_option maxHeartbeats 8000000 in
set_option maxRecDepth 100000 in
theorem errul_any (off kind save : Int) (rs fm : ByteArray) (h : Bool) (y m k wk d sec base : Int) (w : World) (hs : rs.size ≤ 9223372036854775807) : Calls Tryz.prog 77 #[.agg #[.int .i64 off, .int .i64 kind, .int .i64 save, .string rs, .string fm, .bool h, .int .i64 y, .int .i64 m, .int .i64 k, .int .i64 wk, .int .i64 d, .int .i64 sec, .int .i64 base]] w fun e w' => e = .returned (.bool (Er.rulR kind save rs)) ∧ Below w.heap.size w w' := by
 by_cases k0 : kind = 0
 case pos =>
  subst k0
  rw [show Er.rulR 0 save rs = (save == 0 && rs.data.toList == []) from rfl]
  by_cases z : save = 0
  case neg =>
   have g : (save == 0) = false := by rw [beq_eq_false_iff_ne]; exact z
   rw [g]
   go_enter Tryz.func77, Tryz.ntmps77
   go_wp2_with fail
   go_ret
   exact ⟨rfl, gr0⟩
  subst z
  by_cases hr : rs = ⟨#[]⟩
  case pos =>
   subst hr
   rw [show ((0 : Int) == 0 && (⟨#[]⟩ : ByteArray).data.toList == []) = true by decide +kernel]
   go_enter Tryz.func77, Tryz.ntmps77
   go_wp2_with fail
   go_ret
   exact ⟨rfl, gr0⟩
  have m1 : (rs.data.toList == []) = false := by rw [beq_eq_false_iff_ne]; intro e; exact hr (ByteArray.ext (Array.toList_inj.1 e))
  have m2 : (rs.toList == []) = false := by rw [ByteArray.toList_eq]; exact m1
  have m3 : ¬ rs.toList = [] := beq_eq_false_iff_ne.1 m2
  rw [m1]
  clear hr m1
  rw [show ((0 : Int) == 0 && false) = false from rfl]
  go_enter Tryz.func77, Tryz.ntmps77
  go_wp2_with fail
  go_ret
  exact ⟨rfl, gr0⟩
 have n0 : (kind == 0) = false := by rw [beq_eq_false_iff_ne]; exact k0
 by_cases k1 : kind = 1
 case pos =>
  subst k1
  rw [show Er.rulR 1 save rs = (decide (-10800 ≤ save) && (decide (save ≤ 10800) && rs.data.toList == [])) from rfl]
  by_cases c1 : -10800 ≤ save
  case neg =>
   have g1 : decide (-10800 ≤ save) = false := decide_eq_false c1
   rw [g1]
   go_enter Tryz.func77, Tryz.ntmps77
   go_wp2_with fail
   refine ((erin_b save 10800 false (by rw [g1]; rfl) _)).mono ?_; rintro e v1 ⟨rfl, rfl⟩
   go_wp2_with fail
   go_ret
   exact ⟨rfl, gr0⟩
  have g1 : decide (-10800 ≤ save) = true := decide_eq_true c1
  by_cases c2 : save ≤ 10800
  case neg =>
   have g2 : decide (save ≤ 10800) = false := decide_eq_false c2
   rw [g1, g2]
   go_enter Tryz.func77, Tryz.ntmps77
   go_wp2_with fail
   refine ((erin_b save 10800 false (by rw [g1, g2]; rfl) _)).mono ?_; rintro e v1 ⟨rfl, rfl⟩
   go_wp2_with fail
   go_ret
   exact ⟨rfl, gr0⟩
  have g2 : decide (save ≤ 10800) = true := decide_eq_true c2
  rw [g1, g2]
  by_cases hr : rs = ⟨#[]⟩
  case pos =>
   subst hr
   rw [show (true && (true && (⟨#[]⟩ : ByteArray).data.toList == [])) = true by decide +kernel]
   go_enter Tryz.func77, Tryz.ntmps77
   go_wp2_with fail
   refine ((erin_b save 10800 true (by rw [g1, g2]; rfl) _)).mono ?_; rintro e v1 ⟨rfl, rfl⟩
   go_wp2_with fail
   go_ret
   exact ⟨rfl, gr0⟩
  have m1 : (rs.data.toList == []) = false := by rw [beq_eq_false_iff_ne]; intro e; exact hr (ByteArray.ext (Array.toList_inj.1 e))
  have m2 : (rs.toList == []) = false := by rw [ByteArray.toList_eq]; exact m1
  have m3 : ¬ rs.toList = [] := beq_eq_false_iff_ne.1 m2
  rw [m1]
  clear hr m1
  rw [show (true && (true && false)) = false from rfl]
  go_enter Tryz.func77, Tryz.ntmps77
  go_wp2_with fail
  refine ((erin_b save 10800 true (by rw [g1, g2]; rfl) _)).mono ?_; rintro e v1 ⟨rfl, rfl⟩
  go_wp2_with fail
  go_ret
  exact ⟨rfl, gr0⟩
 have n1 : (kind == 1) = false := by rw [beq_eq_false_iff_ne]; exact k1
 by_cases k2 : kind = 2
 case pos =>
  subst k2
  rw [show Er.rulR 2 save rs = (save == 0 && Lk.nm rs.data.toList == 0) from rfl]
  by_cases z : save = 0
  case neg =>
   have g : (save == 0) = false := by rw [beq_eq_false_iff_ne]; exact z
   rw [g]
   go_enter Tryz.func77, Tryz.ntmps77
   go_wp2_with fail
   go_ret
   exact ⟨rfl, gr0⟩
  subst z
  have NM := Lib.hid (fun W => rname_any rs W (by unfold maxLen; omega))
  generalize Lk.nm rs.data.toList = q at *
  by_cases hq : q = 0
  case pos =>
   subst hq
   rw [show ((0 : Int) == 0 && (0 : Int) == 0) = true from rfl]
   go_enter Tryz.func77, Tryz.ntmps77
   go_wp2_with fail
   refine (NM.out _).mono ?_; rintro e v1 ⟨rfl, rfl⟩
   go_wp2_with fail
   go_ret
   exact ⟨rfl, gr0⟩
  have g : (q == 0) = false := by rw [beq_eq_false_iff_ne]; exact hq
  rw [g, show ((0 : Int) == 0 && false) = false from rfl]
  go_enter Tryz.func77, Tryz.ntmps77
  go_wp2_with fail
  refine (NM.out _).mono ?_; rintro e v1 ⟨rfl, rfl⟩
  go_wp2_with fail
  go_ret
  exact ⟨rfl, gr0⟩
 have n2 : (kind == 2) = false := by rw [beq_eq_false_iff_ne]; exact k2
 rw [show Er.rulR kind save rs = false by unfold Er.rulR; rw [if_neg k0, if_neg k1, if_neg k2]]
 go_enter Tryz.func77, Tryz.ntmps77
 go_wp2_with fail
 go_ret
 exact ⟨rfl, gr0⟩
set_option maxHeartbeats 8000000 in
set_option maxRecDepth 100000 in
theorem erright_any (off kind save : Int) (rs fm : ByteArray) (h : Bool) (y m k wk d sec base : Int) (w : World) (mx : Int) (hs : rs.size ≤ 9223372036854775807) (hf : fm.size ≤ 9223372036854775807) (y0 : -9223372036854775808 ≤ y) (y1 : y ≤ 9223372036854775807) (hm : w.cell? ⟨3, 0, none⟩ = some (.int .i64 mx)) : Calls Tryz.prog 37 #[.agg #[.int .i64 off, .int .i64 kind, .int .i64 save, .string rs, .string fm, .bool h, .int .i64 y, .int .i64 m, .int .i64 k, .int .i64 wk, .int .i64 d, .int .i64 sec, .int .i64 base]] w fun e w' => e = .returned (.bool (Er.ok off kind save rs fm h y m k wk d sec base)) ∧ Below w.heap.size w w' := by
 have RU := Lib.hid (fun W => errul_any off kind save rs fm h y m k wk d sec base W hs)
 have EN := Lib.hid (fun W => erend_any h y m k wk d sec base W y0 y1)
 have CK := Lib.hid (fun W (b : Below w.heap.size w W) => fcheck_all fm W mx (by omega) (fd_keep hm b))
 clear hs hf y0 y1 hm
 unfold Er.ok
 generalize Er.rulR kind save rs = r at *
 generalize Er.endR h y m k wk d sec base = u at *
 generalize (Fo.kd fm.data.toList).2 = q at *
 by_cases c1 : -54000 ≤ off
 case neg =>
  have g1 : decide (-54000 ≤ off) = false := decide_eq_false c1
  rw [g1]
  go_enter Tryz.func37, Tryz.ntmps37
  go_wp2_with fail
  refine ((erin_b off 54000 false (by rw [g1]; rfl) _)).mono ?_; rintro e v1 ⟨rfl, rfl⟩
  go_wp2_with fail
  go_ret
  exact ⟨rfl, gr0⟩
 have g1 : decide (-54000 ≤ off) = true := decide_eq_true c1
 by_cases c2 : off ≤ 54000
 case neg =>
  have g2 : decide (off ≤ 54000) = false := decide_eq_false c2
  rw [g1, g2]
  go_enter Tryz.func37, Tryz.ntmps37
  go_wp2_with fail
  refine ((erin_b off 54000 false (by rw [g1, g2]; rfl) _)).mono ?_; rintro e v1 ⟨rfl, rfl⟩
  go_wp2_with fail
  go_ret
  exact ⟨rfl, gr0⟩
 have g2 : decide (off ≤ 54000) = true := decide_eq_true c2
 rw [g1, g2]
 cases r
 case false =>
  go_enter Tryz.func37, Tryz.ntmps37
  go_wp2_with fail
  refine ((erin_b off 54000 true (by rw [g1, g2]; rfl) _)).mono ?_; rintro e v1 ⟨rfl, rfl⟩
  go_wp2_with fail
  refine (RU.out _).mono ?_; rintro e w1 ⟨rfl, b1⟩
  have d1 : Below w.heap.size w w1 := below_step gr0 b1
  have B1 := Lib.hid d1
  have X1 : Bk13 w1 (w.heap.size) (.int .i64 off) (.int .i64 kind) (.int .i64 save) (.string rs) (.string fm) (.bool h) (.int .i64 y) (.int .i64 m) (.int .i64 k) (.int .i64 wk) (.int .i64 d) (.int .i64 sec) (.int .i64 base) := by refine Bk13.of b1 (by simp <;> omega) (by intro j; simp [go_sem]) ?_ ?_ ?_ ?_ ?_ ?_ ?_ ?_ ?_ ?_ ?_ ?_ ?_ <;> simp [go_sem]
  clear b1 d1
  have tx := X1; obtain ⟨cX_b, cX_f, cX_0, cX_1, cX_2, cX_3, cX_4, cX_5, cX_6, cX_7, cX_8, cX_9, cX_10, cX_11, cX_12⟩ := tx
  go_wp2_with fail
  clear cX_b cX_f cX_0 cX_1 cX_2 cX_3 cX_4 cX_5 cX_6 cX_7 cX_8 cX_9 cX_10 cX_11 cX_12
  go_ret
  exact ⟨rfl, (grB B1)⟩
 by_cases hq : q = 0
 case neg =>
  have g : (q == 0) = false := by rw [beq_eq_false_iff_ne]; exact hq
  rw [g]
  go_enter Tryz.func37, Tryz.ntmps37
  go_wp2_with fail
  refine ((erin_b off 54000 true (by rw [g1, g2]; rfl) _)).mono ?_; rintro e v1 ⟨rfl, rfl⟩
  go_wp2_with fail
  refine (RU.out _).mono ?_; rintro e w1 ⟨rfl, b1⟩
  have d1 : Below w.heap.size w w1 := below_step gr0 b1
  have B1 := Lib.hid d1
  have X1 : Bk13 w1 (w.heap.size) (.int .i64 off) (.int .i64 kind) (.int .i64 save) (.string rs) (.string fm) (.bool h) (.int .i64 y) (.int .i64 m) (.int .i64 k) (.int .i64 wk) (.int .i64 d) (.int .i64 sec) (.int .i64 base) := by refine Bk13.of b1 (by simp <;> omega) (by intro j; simp [go_sem]) ?_ ?_ ?_ ?_ ?_ ?_ ?_ ?_ ?_ ?_ ?_ ?_ ?_ <;> simp [go_sem]
  clear b1 d1
  have tx := X1; obtain ⟨cX_b, cX_f, cX_0, cX_1, cX_2, cX_3, cX_4, cX_5, cX_6, cX_7, cX_8, cX_9, cX_10, cX_11, cX_12⟩ := tx
  go_wp2_with fail
  clear cX_b cX_f cX_0 cX_1 cX_2 cX_3 cX_4 cX_5 cX_6 cX_7 cX_8 cX_9 cX_10 cX_11 cX_12
  refine (CK.out _ B1.out).mono ?_; rintro e v2 ⟨rfl, rfl⟩
  have tx := X1; obtain ⟨cX_b, cX_f, cX_0, cX_1, cX_2, cX_3, cX_4, cX_5, cX_6, cX_7, cX_8, cX_9, cX_10, cX_11, cX_12⟩ := tx
  go_wp2_with fail
  clear cX_b cX_f cX_0 cX_1 cX_2 cX_3 cX_4 cX_5 cX_6 cX_7 cX_8 cX_9 cX_10 cX_11 cX_12
  go_ret
  exact ⟨rfl, (grB B1)⟩
 subst hq
 rw [show ((0 : Int) == 0) = true from rfl]
 cases u
 case false =>
  go_enter Tryz.func37, Tryz.ntmps37
  go_wp2_with fail
  refine ((erin_b off 54000 true (by rw [g1, g2]; rfl) _)).mono ?_; rintro e v1 ⟨rfl, rfl⟩
  go_wp2_with fail
  refine (RU.out _).mono ?_; rintro e w1 ⟨rfl, b1⟩
  have d1 : Below w.heap.size w w1 := below_step gr0 b1
  have B1 := Lib.hid d1
  have X1 : Bk13 w1 (w.heap.size) (.int .i64 off) (.int .i64 kind) (.int .i64 save) (.string rs) (.string fm) (.bool h) (.int .i64 y) (.int .i64 m) (.int .i64 k) (.int .i64 wk) (.int .i64 d) (.int .i64 sec) (.int .i64 base) := by refine Bk13.of b1 (by simp <;> omega) (by intro j; simp [go_sem]) ?_ ?_ ?_ ?_ ?_ ?_ ?_ ?_ ?_ ?_ ?_ ?_ ?_ <;> simp [go_sem]
  clear b1 d1
  have tx := X1; obtain ⟨cX_b, cX_f, cX_0, cX_1, cX_2, cX_3, cX_4, cX_5, cX_6, cX_7, cX_8, cX_9, cX_10, cX_11, cX_12⟩ := tx
  go_wp2_with fail
  clear cX_b cX_f cX_0 cX_1 cX_2 cX_3 cX_4 cX_5 cX_6 cX_7 cX_8 cX_9 cX_10 cX_11 cX_12
  refine (CK.out _ B1.out).mono ?_; rintro e v2 ⟨rfl, rfl⟩
  have tx := X1; obtain ⟨cX_b, cX_f, cX_0, cX_1, cX_2, cX_3, cX_4, cX_5, cX_6, cX_7, cX_8, cX_9, cX_10, cX_11, cX_12⟩ := tx
  go_wp2_with fail
  clear cX_b cX_f cX_0 cX_1 cX_2 cX_3 cX_4 cX_5 cX_6 cX_7 cX_8 cX_9 cX_10 cX_11 cX_12
  refine (EN.out _).mono ?_; rintro e w2 ⟨rfl, b2⟩
  have d2 : Below w1.heap.size w1 w2 := below_step gr0 b2
  have B2 := Lib.hid (below_step B1.out d2)
  have X2 := X1.keep d2
  clear X1 b2 d2 B1
  have tx := X2; obtain ⟨cX_b, cX_f, cX_0, cX_1, cX_2, cX_3, cX_4, cX_5, cX_6, cX_7, cX_8, cX_9, cX_10, cX_11, cX_12⟩ := tx
  go_wp2_with fail
  clear cX_b cX_f cX_0 cX_1 cX_2 cX_3 cX_4 cX_5 cX_6 cX_7 cX_8 cX_9 cX_10 cX_11 cX_12
  go_ret
  exact ⟨rfl, (grB B2)⟩
 case true =>
  go_enter Tryz.func37, Tryz.ntmps37
  go_wp2_with fail
  refine ((erin_b off 54000 true (by rw [g1, g2]; rfl) _)).mono ?_; rintro e v1 ⟨rfl, rfl⟩
  go_wp2_with fail
  refine (RU.out _).mono ?_; rintro e w1 ⟨rfl, b1⟩
  have d1 : Below w.heap.size w w1 := below_step gr0 b1
  have B1 := Lib.hid d1
  have X1 : Bk13 w1 (w.heap.size) (.int .i64 off) (.int .i64 kind) (.int .i64 save) (.string rs) (.string fm) (.bool h) (.int .i64 y) (.int .i64 m) (.int .i64 k) (.int .i64 wk) (.int .i64 d) (.int .i64 sec) (.int .i64 base) := by refine Bk13.of b1 (by simp <;> omega) (by intro j; simp [go_sem]) ?_ ?_ ?_ ?_ ?_ ?_ ?_ ?_ ?_ ?_ ?_ ?_ ?_ <;> simp [go_sem]
  clear b1 d1
  have tx := X1; obtain ⟨cX_b, cX_f, cX_0, cX_1, cX_2, cX_3, cX_4, cX_5, cX_6, cX_7, cX_8, cX_9, cX_10, cX_11, cX_12⟩ := tx
  go_wp2_with fail
  clear cX_b cX_f cX_0 cX_1 cX_2 cX_3 cX_4 cX_5 cX_6 cX_7 cX_8 cX_9 cX_10 cX_11 cX_12
  refine (CK.out _ B1.out).mono ?_; rintro e v2 ⟨rfl, rfl⟩
  have tx := X1; obtain ⟨cX_b, cX_f, cX_0, cX_1, cX_2, cX_3, cX_4, cX_5, cX_6, cX_7, cX_8, cX_9, cX_10, cX_11, cX_12⟩ := tx
  go_wp2_with fail
  clear cX_b cX_f cX_0 cX_1 cX_2 cX_3 cX_4 cX_5 cX_6 cX_7 cX_8 cX_9 cX_10 cX_11 cX_12
  refine (EN.out _).mono ?_; rintro e w2 ⟨rfl, b2⟩
  have d2 : Below w1.heap.size w1 w2 := below_step gr0 b2
  have B2 := Lib.hid (below_step B1.out d2)
  have X2 := X1.keep d2
  clear X1 b2 d2 B1
  have tx := X2; obtain ⟨cX_b, cX_f, cX_0, cX_1, cX_2, cX_3, cX_4, cX_5, cX_6, cX_7, cX_8, cX_9, cX_10, cX_11, cX_12⟩ := tx
  go_wp2_with fail
  clear cX_b cX_f cX_0 cX_1 cX_2 cX_3 cX_4 cX_5 cX_6 cX_7 cX_8 cX_9 cX_10 cX_11 cX_12
  go_ret
  exact ⟨rfl, (grB B2)⟩
namespace Er
def amF (b n q : Int) : Int × Int := if q = 0 ∧ (n < -b ∨ b < n) then (0, 1) else (n, q)
def am (b : Int) (s : ByteArray) : Int × Int := amF b (Am.rd s).1 (Am.rd s).2
def yrF (n q : Int) : Int × Int := if q = 0 ∧ (n ≤ -32767 ∨ 32767 ≤ n) then (0, 1) else (n, q)
def yr (l : List UInt8) : Int × Int := yrF (Num.rd l).1 (Num.rd l).2
def isA (l : List UInt8) : Bool := match Lib.trimPrefix l [45] with | [] => false | c :: _ => ([48, 49, 50, 51, 52, 53, 54, 55, 56, 57] : List UInt8).contains c
theorem isA_ix (l : List UInt8) : isA l = (Lib.indexAny (Lib.trimPrefix l [45]) [48, 49, 50, 51, 52, 53, 54, 55, 56, 57] == 0) := by
 unfold isA
 cases Lib.trimPrefix l [45] with
 | nil => rfl
 | cons c r =>
  show ([48, 49, 50, 51, 52, 53, 54, 55, 56, 57] : List UInt8).contains c = _
  unfold Lib.indexAny
  cases h : ([48, 49, 50, 51, 52, 53, 54, 55, 56, 57] : List UInt8).contains c
  ·
   have := Lib.indexAny_ge [48, 49, 50, 51, 52, 53, 54, 55, 56, 57] r
   rw [if_neg (by decide)]
   split
   ·
    rfl
   ·
    symm; rw [beq_eq_false_iff_ne]; rename_i hh; have : Lib.indexAny r [48, 49, 50, 51, 52, 53, 54, 55, 56, 57] ≠ -1 := by simpa using hh
    omega
  ·
   rfl
end Er
set_option maxHeartbeats 2000000 in
set_option maxRecDepth 100000 in
theorem eram_any (s : ByteArray) (b : Int) (w : World) (mx : Int) (b0 : 0 ≤ b) (b1 : b ≤ 1000000) (hs : s.size ≤ 600) (hm : w.cell? ⟨3, 0, none⟩ = some (.int .i64 mx)) :
  Calls Tryz.prog 82 #[.string s, .int .i64 b] w fun e w' => Below w.heap.size w w' ∧ (((Er.am b s).2 = 0 ∧ e = .returned (.int .i64 (Er.am b s).1)) ∨ ((Er.am b s).2 ≠ 0 ∧ e = .panicked (gvP (Er.am b s).2))) := by
 have AR := Lib.hid (aread_any s w mx (by omega) hm)
 clear hs hm
 unfold Er.am
 generalize (Am.rd s).1 = n at *
 generalize (Am.rd s).2 = q at *
 obtain ⟨F, hF⟩ : ∃ F : Int × Int, F = Er.amF b n q := ⟨_, rfl⟩
 rw [← hF]
 have HF := Lib.hid hF; clear hF
 have IN := Lib.hid (fun W => erin_any n b W b0 b1)
 clear b0 b1
 go_enter Tryz.func82, Tryz.ntmps82
 go_wp2_with fail
 refine AR.out.mono ?_; rintro e w1 ⟨rfl, k1⟩
 have B1 := Lib.hid k1; clear k1
 by_cases hq : q = 0
 case neg =>
  obtain rfl : F = (n, q) := by rw [HF.out]; unfold Er.amF; rw [if_neg (by omega)]
  go_wp2_with fail
  refine (must_no _ _ _ hq).mono ?_; rintro e v ⟨rfl, rfl⟩
  refine (show bodyPost _ _ _ (Exit.panic _) _ _ from ?_); simp only [bodyPost]
  exact ⟨trivial, B1.out, .inr ⟨hq, by first | rfl | trivial⟩⟩
 subst hq
 go_wp2_with fail
 refine (must_yes _ _).mono ?_; rintro e v ⟨rfl, rfl⟩
 by_cases hi : -b ≤ n ∧ n ≤ b
 case neg =>
  obtain rfl : F = (0, 1) := by rw [HF.out]; unfold Er.amF; rw [if_pos (by omega)]
  rw [show (decide (-b ≤ n) && decide (n ≤ b)) = false by rw [← Bool.decide_and]; exact decide_eq_false hi] at IN
  go_wp2_with fail
  refine (IN.out _).mono ?_; rintro e v ⟨rfl, rfl⟩
  go_wp2_with fail
  refine (need_no 1 _).mono ?_; rintro e v ⟨rfl, rfl⟩
  refine (show bodyPost _ _ _ (Exit.panic _) _ _ from ?_); simp only [bodyPost]
  exact ⟨trivial, B1.out, .inr ⟨by decide, by first | rfl | trivial⟩⟩
 obtain rfl : F = (n, 0) := by rw [HF.out]; unfold Er.amF; rw [if_neg (by omega)]
 rw [show (decide (-b ≤ n) && decide (n ≤ b)) = true by rw [← Bool.decide_and]; exact decide_eq_true hi] at IN
 clear hi
 go_wp2_with fail
 refine (IN.out _).mono ?_; rintro e v ⟨rfl, rfl⟩
 go_wp2_with fail
 refine (need_yes 1 _).mono ?_; rintro e v ⟨rfl, rfl⟩
 go_wp2_with fail
 go_ret
 exact ⟨B1.out, by first | rfl | exact .inl ⟨rfl, rfl⟩⟩
set_option maxHeartbeats 2000000 in
set_option maxRecDepth 100000 in
theorem eryr_any (s : ByteArray) (w : World) (hs : s.size ≤ 600) (tp : TypeId) (p : Value) (hv : w.var? Tryz.prog "strconv.ErrRange" = some #[.iface tp p]) :
  Calls Tryz.prog 124 #[.string s] w fun e w' => Below w.heap.size w w' ∧ (((Er.yr s.data.toList).2 = 0 ∧ e = .returned (.int .i64 (Er.yr s.data.toList).1)) ∨ ((Er.yr s.data.toList).2 ≠ 0 ∧ e = .panicked (gvP (Er.yr s.data.toList).2))) := by
 have AR := Lib.hid (read_any s w (by omega) tp p hv)
 clear hs hv
 unfold Er.yr
 generalize (Num.rd s.data.toList).1 = n at *
 generalize (Num.rd s.data.toList).2 = q at *
 obtain ⟨F, hF⟩ : ∃ F : Int × Int, F = Er.yrF n q := ⟨_, rfl⟩
 rw [← hF]
 have HF := Lib.hid hF; clear hF
 have IN := Lib.hid (fun W => eryear_any n W)
 go_enter Tryz.func124, Tryz.ntmps124
 go_wp2_with fail
 refine AR.out.mono ?_; rintro e w1 ⟨rfl, k1⟩
 have B1 := Lib.hid k1; clear k1
 by_cases hq : q = 0
 case neg =>
  obtain rfl : F = (n, q) := by rw [HF.out]; unfold Er.yrF; rw [if_neg (by omega)]
  go_wp2_with fail
  refine (must_no _ _ _ hq).mono ?_; rintro e v ⟨rfl, rfl⟩
  refine (show bodyPost _ _ _ (Exit.panic _) _ _ from ?_); simp only [bodyPost]
  exact ⟨trivial, B1.out, .inr ⟨hq, by first | rfl | trivial⟩⟩
 subst hq
 go_wp2_with fail
 refine (must_yes _ _).mono ?_; rintro e v ⟨rfl, rfl⟩
 by_cases hi : -32767 < n ∧ n < 32767
 case neg =>
  obtain rfl : F = (0, 1) := by rw [HF.out]; unfold Er.yrF; rw [if_pos (by omega)]
  rw [show (decide (-32767 < n) && decide (n < 32767)) = false by rw [← Bool.decide_and]; exact decide_eq_false hi] at IN
  go_wp2_with fail
  refine (IN.out _).mono ?_; rintro e v ⟨rfl, rfl⟩
  go_wp2_with fail
  refine (need_no 1 _).mono ?_; rintro e v ⟨rfl, rfl⟩
  refine (show bodyPost _ _ _ (Exit.panic _) _ _ from ?_); simp only [bodyPost]
  exact ⟨trivial, B1.out, .inr ⟨by decide, by first | rfl | trivial⟩⟩
 obtain rfl : F = (n, 0) := by rw [HF.out]; unfold Er.yrF; rw [if_neg (by omega)]
 rw [show (decide (-32767 < n) && decide (n < 32767)) = true by rw [← Bool.decide_and]; exact decide_eq_true hi] at IN
 clear hi
 go_wp2_with fail
 refine (IN.out _).mono ?_; rintro e v ⟨rfl, rfl⟩
 go_wp2_with fail
 refine (need_yes 1 _).mono ?_; rintro e v ⟨rfl, rfl⟩
 go_wp2_with fail
 go_ret
 exact ⟨B1.out, by first | rfl | exact .inl ⟨rfl, rfl⟩⟩
set_option maxHeartbeats 2000000 in
set_option maxRecDepth 100000 in
theorem erisa_any (s : ByteArray) (w : World) (hs : s.size ≤ 600) :
  Calls Tryz.prog 83 #[.string s] w fun e w' => e = .returned (.bool (Er.isA s.data.toList)) ∧ Below w.heap.size w w' := by
 have TP := Lib.hid (fun W => Any.strings_TrimPrefix Tryz.lays101 s ⟨#[45]⟩ W)
 have e := Er.isA_ix s.data.toList
 obtain ⟨T, hT⟩ : ∃ T : ByteArray, T = ⟨(Lib.trimPrefix s.data.toList [45]).toArray⟩ := ⟨_, rfl⟩
 have hTl : T.data.toList = Lib.trimPrefix s.data.toList [45] := by rw [hT]
 have hTs : T.size ≤ 600 := by
  rw [hT]
  show (Lib.trimPrefix s.data.toList [45]).toArray.size ≤ 600
  rw [List.size_toArray]
  have := ab_trim s.data.toList [45]
  have := ab_len s
  omega
 have C : Hid (∀ W, Calls Tryz.prog 122 #[.string T, .string ⟨#[48, 49, 50, 51, 52, 53, 54, 55, 56, 57]⟩] W fun e w' => e = .returned (.int .i64 (Lib.indexAny T.data.toList [48, 49, 50, 51, 52, 53, 54, 55, 56, 57])) ∧ Below W.heap.size W w') := fun W => ixany T ⟨#[48, 49, 50, 51, 52, 53, 54, 55, 56, 57]⟩ W (by decide) (by omega) (by decide) (by decide)
 rw [hTl] at C
 rw [e]
 have TP2 : Hid (∀ W, Calls Tryz.prog 123 #[.string s, .string ⟨#[45]⟩] W fun e w' => e = .returned (.string T) ∧ W = w') := fun W => (TP.out W).mono fun _ _ ⟨a, b⟩ => ⟨by rw [hT]; exact a, b.symm⟩
 generalize Lib.indexAny (Lib.trimPrefix s.data.toList [45]) [48, 49, 50, 51, 52, 53, 54, 55, 56, 57] = j at *
 clear e hT hTl hTs TP hs
 go_enter Tryz.func83, Tryz.ntmps83
 go_wp2_with fail
 refine (TP2.out _).mono ?_; rintro e v1 ⟨rfl, rfl⟩
 go_wp2_with fail
 refine (C.out _).mono ?_; rintro e w1 ⟨rfl, b1⟩
 have d1 : Below w.heap.size w w1 := below_step gr0 b1
 have B1 := Lib.hid d1
 clear b1 d1
 go_wp2_with fail
 go_ret
 exact ⟨rfl, (grB B1)⟩
end Go.Proofs.YtjggjkeopbcmoaaGreatDoor
