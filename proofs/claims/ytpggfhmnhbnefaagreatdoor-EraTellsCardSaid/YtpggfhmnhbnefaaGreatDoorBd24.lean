/- Joined: DsRef. -/
import Derived.Test.YtpggfhmnhbnefaaGreatDoorBd01
import Derived.Test.YtpggfhmnhbnefaaGreatDoorBd20
import Derived.Test.YtpggfhmnhbnefaaGreatDoorBd23
import Derived.Test.YtpggfhmnhbnefaaGreatDoorBd02
import Derived.Test.YtpggfhmnhbnefaaGreatDoorBd09
import Derived.Test.YtpggfhmnhbnefaaGreatDoorBd11
import Derived.Test.YtpggfhmnhbnefaaGreatDoorBd07
import Derived.Test.YtpggfhmnhbnefaaGreatDoorBd21
set_option linter.unusedVariables false
set_option linter.unusedSimpArgs false
namespace Go.Proofs.YtpggfhmnhbnefaaGreatDoor
section
open Go.RowKit Go.Sort
set_option maxRecDepth 100000 in
theorem rday_any (s : ByteArray) (w : World) (hs : s.size ≤ 1000) :
    Calls Tryz.prog 147 #[.string s] w fun e w' => e = .returned (.tuple #[.int .i64 (Ds.day s.data.toList).1, .int .i64 (Ds.day s.data.toList).2]) ∧ w = w' := by
  have C := rread_any s w hs
  unfold Ds.day
  generalize (Num.rd s.data.toList).1 = n at C ⊢
  generalize (Num.rd s.data.toList).2 = q at C ⊢
  by_cases hq : q = 0
  · subst hq
    rw [if_pos rfl]
    unfold Ds.inD
    by_cases a : 1 ≤ n
    · by_cases b : n ≤ 31
      · rw [decide_eq_true a, decide_eq_true b]
        have a2 : decide (n < 1) = false := decide_eq_false (by omega)
        have b2 : decide (31 < n) = false := decide_eq_false (by omega)
        go_enter Tryz.func147, Tryz.ntmps147
        go_wp2_with fail
        refine (C).mono ?_; rintro e w1 ⟨rfl, rfl⟩
        go_wp2_with fail
        go_ret2
        exact ⟨rfl, rfl⟩
      · rw [decide_eq_true a, decide_eq_false b]
        have a2 : decide (n < 1) = false := decide_eq_false (by omega)
        have b2 : 31 < n := by omega
        go_enter Tryz.func147, Tryz.ntmps147
        go_wp2_with fail
        refine (C).mono ?_; rintro e w1 ⟨rfl, rfl⟩
        go_wp2_with fail
        go_ret2
        exact ⟨rfl, rfl⟩
    · rw [decide_eq_false a]
      have a2 : n < 1 := by omega
      go_enter Tryz.func147, Tryz.ntmps147
      go_wp2_with fail
      refine (C).mono ?_; rintro e w1 ⟨rfl, rfl⟩
      go_wp2_with fail
      go_ret2
      exact ⟨rfl, rfl⟩
  · rw [if_neg hq]
    have h1 : (q == 0) = false := beq_eq_false_iff_ne.2 hq
    have h2 : (q != 0) = true := by unfold bne; rw [h1]; rfl
    go_enter Tryz.func147, Tryz.ntmps147
    go_wp2_with fail
    refine (C).mono ?_; rintro e w1 ⟨rfl, rfl⟩
    go_wp2_with fail
    go_ret2
    exact ⟨rfl, rfl⟩
set_option maxHeartbeats 2000000 in
set_option maxRecDepth 100000 in
theorem rdtx_no (k wk d : Int) (w : World) (hr : Dr.onR k wk d = false) : Calls Tryz.prog 48 #[.agg #[.int .i64 k, .int .i64 wk, .int .i64 d]] w fun e w' => e = .returned (.tuple #[.string ⟨#[]⟩, .int .i64 4]) ∧ Below w.heap.size w w' := by
  have CR : Hid (∀ W, Calls Tryz.prog 105 #[.agg #[.int .i64 k, .int .i64 wk, .int .i64 d]] W fun e w' => e = .returned (.bool false) ∧ Below W.heap.size W w') := fun W => hr ▸ roright_any k wk d W
  clear hr
  go_enter Tryz.func48, Tryz.ntmps48
  go_wp2_with fail
  refine (CR.out _).mono ?_; rintro e w1 ⟨rfl, b1⟩
  have d1 : Below w.heap.size w w1 := below_step gr0 b1
  have B1 := Lib.hid d1
  have X1 : Bk3 w1 (w.heap.size) (.int .i64 k) (.int .i64 wk) (.int .i64 d) := by refine Bk3.of b1 (by simp <;> omega) (by intro j; simp [go_sem]) ?_ ?_ ?_ <;> simp [go_sem]
  clear b1 d1
  have tx := X1; obtain ⟨cX_b, cX_f, cX_0, cX_1, cX_2⟩ := tx
  go_wp2_with fail
  clear cX_b cX_f cX_0 cX_1 cX_2
  go_ret2
  exact ⟨rfl, (grB B1)⟩
set_option maxHeartbeats 2000000 in
set_option maxRecDepth 100000 in
theorem rdtx_0 (wk d : Int) (A D : ByteArray) (w : World) (zA : A.size ≤ 100) (zD : D.size ≤ 100)
    (CR : Hid (∀ W, Calls Tryz.prog 105 #[.agg #[.int .i64 0, .int .i64 wk, .int .i64 d]] W fun e w' => e = .returned (.bool true) ∧ Below W.heap.size W w'))
    (CA : Hid (∀ W, Calls Tryz.prog 106 #[.int .i64 wk] W fun e w' => e = .returned (.string A) ∧ Below W.heap.size W w'))
    (CD : Hid (∀ W, Calls Tryz.prog 70 #[.int .i64 d] W fun e w' => e = .returned (.string D) ∧ Below W.heap.size W w')) :
    Calls Tryz.prog 48 #[.agg #[.int .i64 0, .int .i64 wk, .int .i64 d]] w fun e w' => e = .returned (.tuple #[.string (D), .int .i64 0]) ∧ Below w.heap.size w w' := by
  go_enter Tryz.func48, Tryz.ntmps48
  go_wp2_with fail
  refine (CR.out _).mono ?_; rintro e w1 ⟨rfl, b1⟩
  have d1 : Below w.heap.size w w1 := below_step gr0 b1
  have B1 := Lib.hid d1
  have X1 : Bk3 w1 (w.heap.size) (.int .i64 0) (.int .i64 wk) (.int .i64 d) := by refine Bk3.of b1 (by simp <;> omega) (by intro j; simp [go_sem]) ?_ ?_ ?_ <;> simp [go_sem]
  clear b1 d1
  have tx := X1; obtain ⟨cX_b, cX_f, cX_0, cX_1, cX_2⟩ := tx
  go_wp2_with fail
  clear cX_b cX_f cX_0 cX_1 cX_2
  refine wp_named ?_; intro w2 hw2
  have d2 : Below w1.heap.size w1 w2 := by rw [hw2]; exact gr0
  have B2 := Lib.hid (below_step B1.out d2)
  have X2 := X1.keep d2
  clear X1 d2 hw2 B1
  have qX_0 := cell_regrown X2.k0
  have qX_1 := cell_regrown X2.k1
  have qX_2 := cell_regrown X2.k2
  refine wp_region_qb (w := w2) (by kernel_rfl) (by kernel_rfl) gr0 ?_
  repeat (any_goals (first | go_big_quiet_step (first | (go_at_call 106; exact Calls.regrown_of (CA.out _)) | (go_at_call 70; exact Calls.regrown_of (CD.out _))) | quiet_step (first | (go_at_call 106; exact Calls.regrown_of (CA.out _)) | (go_at_call 70; exact Calls.regrown_of (CD.out _)))))
  refine wpQuiet_nil ?_
  intro w3 hq
  have b3 : Below w2.heap.size w2 w3 := by obtain ⟨p, hq⟩ := hq; rw [hq]; exact below_regrown _ _ _
  clear hq qX_0 qX_1 qX_2
  have d3 : Below w2.heap.size w2 w3 := below_step gr0 b3
  have B3 := Lib.hid (below_step B2.out d3)
  have X3 := X2.keep d3
  clear X2 b3 d3 B2
  have tx := X3; obtain ⟨cX_b, cX_f, cX_0, cX_1, cX_2⟩ := tx
  go_wp2_with fail
  clear cX_b cX_f cX_0 cX_1 cX_2
  go_ret2
  exact ⟨rfl, B3.out⟩
set_option maxHeartbeats 2000000 in
set_option maxRecDepth 100000 in
theorem rdtx_1 (wk d : Int) (A D : ByteArray) (w : World) (zA : A.size ≤ 100) (zD : D.size ≤ 100)
    (CR : Hid (∀ W, Calls Tryz.prog 105 #[.agg #[.int .i64 1, .int .i64 wk, .int .i64 d]] W fun e w' => e = .returned (.bool true) ∧ Below W.heap.size W w'))
    (CA : Hid (∀ W, Calls Tryz.prog 106 #[.int .i64 wk] W fun e w' => e = .returned (.string A) ∧ Below W.heap.size W w'))
    (CD : Hid (∀ W, Calls Tryz.prog 70 #[.int .i64 d] W fun e w' => e = .returned (.string D) ∧ Below W.heap.size W w')) :
    Calls Tryz.prog 48 #[.agg #[.int .i64 1, .int .i64 wk, .int .i64 d]] w fun e w' => e = .returned (.tuple #[.string (⟨#[108, 97, 115, 116]⟩ ++ A), .int .i64 0]) ∧ Below w.heap.size w w' := by
  have e4 : (⟨#[108, 97, 115, 116]⟩ : ByteArray).size = 4 := rfl
  go_enter Tryz.func48, Tryz.ntmps48
  go_wp2_with fail
  refine (CR.out _).mono ?_; rintro e w1 ⟨rfl, b1⟩
  have d1 : Below w.heap.size w w1 := below_step gr0 b1
  have B1 := Lib.hid d1
  have X1 : Bk3 w1 (w.heap.size) (.int .i64 1) (.int .i64 wk) (.int .i64 d) := by refine Bk3.of b1 (by simp <;> omega) (by intro j; simp [go_sem]) ?_ ?_ ?_ <;> simp [go_sem]
  clear b1 d1
  have tx := X1; obtain ⟨cX_b, cX_f, cX_0, cX_1, cX_2⟩ := tx
  go_wp2_with fail
  clear cX_b cX_f cX_0 cX_1 cX_2
  refine wp_named ?_; intro w2 hw2
  have d2 : Below w1.heap.size w1 w2 := by rw [hw2]; exact gr0
  have B2 := Lib.hid (below_step B1.out d2)
  have X2 := X1.keep d2
  clear X1 d2 hw2 B1
  have qX_0 := cell_regrown X2.k0
  have qX_1 := cell_regrown X2.k1
  have qX_2 := cell_regrown X2.k2
  refine wp_region_qb (w := w2) (by kernel_rfl) (by kernel_rfl) gr0 ?_
  repeat (any_goals (first | go_big_quiet_step (first | (go_at_call 106; exact Calls.regrown_of (CA.out _)) | (go_at_call 70; exact Calls.regrown_of (CD.out _))) | quiet_step (first | (go_at_call 106; exact Calls.regrown_of (CA.out _)) | (go_at_call 70; exact Calls.regrown_of (CD.out _)))))
  refine wpQuiet_nil ?_
  intro w3 hq
  have b3 : Below w2.heap.size w2 w3 := by obtain ⟨p, hq⟩ := hq; rw [hq]; exact below_regrown _ _ _
  clear hq qX_0 qX_1 qX_2
  have d3 : Below w2.heap.size w2 w3 := below_step gr0 b3
  have B3 := Lib.hid (below_step B2.out d3)
  have X3 := X2.keep d3
  clear X2 b3 d3 B2
  have tx := X3; obtain ⟨cX_b, cX_f, cX_0, cX_1, cX_2⟩ := tx
  go_wp2_with fail
  clear cX_b cX_f cX_0 cX_1 cX_2
  go_ret2
  exact ⟨rfl, B3.out⟩
set_option maxHeartbeats 2000000 in
set_option maxRecDepth 100000 in
theorem rdtx_2 (wk d : Int) (A D : ByteArray) (w : World) (zA : A.size ≤ 100) (zD : D.size ≤ 100)
    (CR : Hid (∀ W, Calls Tryz.prog 105 #[.agg #[.int .i64 2, .int .i64 wk, .int .i64 d]] W fun e w' => e = .returned (.bool true) ∧ Below W.heap.size W w'))
    (CA : Hid (∀ W, Calls Tryz.prog 106 #[.int .i64 wk] W fun e w' => e = .returned (.string A) ∧ Below W.heap.size W w'))
    (CD : Hid (∀ W, Calls Tryz.prog 70 #[.int .i64 d] W fun e w' => e = .returned (.string D) ∧ Below W.heap.size W w')) :
    Calls Tryz.prog 48 #[.agg #[.int .i64 2, .int .i64 wk, .int .i64 d]] w fun e w' => e = .returned (.tuple #[.string (A ++ ⟨#[62, 61]⟩ ++ D), .int .i64 0]) ∧ Below w.heap.size w w' := by
  have e1 : (A ++ ⟨#[62, 61]⟩ : ByteArray).size = A.size + 2 := by rw [ByteArray.size_append]; rfl
  go_enter Tryz.func48, Tryz.ntmps48
  go_wp2_with fail
  refine (CR.out _).mono ?_; rintro e w1 ⟨rfl, b1⟩
  have d1 : Below w.heap.size w w1 := below_step gr0 b1
  have B1 := Lib.hid d1
  have X1 : Bk3 w1 (w.heap.size) (.int .i64 2) (.int .i64 wk) (.int .i64 d) := by refine Bk3.of b1 (by simp <;> omega) (by intro j; simp [go_sem]) ?_ ?_ ?_ <;> simp [go_sem]
  clear b1 d1
  have tx := X1; obtain ⟨cX_b, cX_f, cX_0, cX_1, cX_2⟩ := tx
  go_wp2_with fail
  clear cX_b cX_f cX_0 cX_1 cX_2
  refine wp_named ?_; intro w2 hw2
  have d2 : Below w1.heap.size w1 w2 := by rw [hw2]; exact gr0
  have B2 := Lib.hid (below_step B1.out d2)
  have X2 := X1.keep d2
  clear X1 d2 hw2 B1
  have qX_0 := cell_regrown X2.k0
  have qX_1 := cell_regrown X2.k1
  have qX_2 := cell_regrown X2.k2
  refine wp_region_qb (w := w2) (by kernel_rfl) (by kernel_rfl) gr0 ?_
  repeat (any_goals (first | go_big_quiet_step (first | (go_at_call 106; exact Calls.regrown_of (CA.out _)) | (go_at_call 70; exact Calls.regrown_of (CD.out _))) | quiet_step (first | (go_at_call 106; exact Calls.regrown_of (CA.out _)) | (go_at_call 70; exact Calls.regrown_of (CD.out _)))))
  refine wpQuiet_nil ?_
  intro w3 hq
  have b3 : Below w2.heap.size w2 w3 := by obtain ⟨p, hq⟩ := hq; rw [hq]; exact below_regrown _ _ _
  clear hq qX_0 qX_1 qX_2
  have d3 : Below w2.heap.size w2 w3 := below_step gr0 b3
  have B3 := Lib.hid (below_step B2.out d3)
  have X3 := X2.keep d3
  clear X2 b3 d3 B2
  have tx := X3; obtain ⟨cX_b, cX_f, cX_0, cX_1, cX_2⟩ := tx
  go_wp2_with fail
  clear cX_b cX_f cX_0 cX_1 cX_2
  go_ret2
  exact ⟨rfl, B3.out⟩
set_option maxHeartbeats 2000000 in
set_option maxRecDepth 100000 in
theorem rdtx_3 (wk d : Int) (A D : ByteArray) (w : World) (zA : A.size ≤ 100) (zD : D.size ≤ 100)
    (CR : Hid (∀ W, Calls Tryz.prog 105 #[.agg #[.int .i64 3, .int .i64 wk, .int .i64 d]] W fun e w' => e = .returned (.bool true) ∧ Below W.heap.size W w'))
    (CA : Hid (∀ W, Calls Tryz.prog 106 #[.int .i64 wk] W fun e w' => e = .returned (.string A) ∧ Below W.heap.size W w'))
    (CD : Hid (∀ W, Calls Tryz.prog 70 #[.int .i64 d] W fun e w' => e = .returned (.string D) ∧ Below W.heap.size W w')) :
    Calls Tryz.prog 48 #[.agg #[.int .i64 3, .int .i64 wk, .int .i64 d]] w fun e w' => e = .returned (.tuple #[.string (A ++ ⟨#[60, 61]⟩ ++ D), .int .i64 0]) ∧ Below w.heap.size w w' := by
  have e1 : (A ++ ⟨#[60, 61]⟩ : ByteArray).size = A.size + 2 := by rw [ByteArray.size_append]; rfl
  go_enter Tryz.func48, Tryz.ntmps48
  go_wp2_with fail
  refine (CR.out _).mono ?_; rintro e w1 ⟨rfl, b1⟩
  have d1 : Below w.heap.size w w1 := below_step gr0 b1
  have B1 := Lib.hid d1
  have X1 : Bk3 w1 (w.heap.size) (.int .i64 3) (.int .i64 wk) (.int .i64 d) := by refine Bk3.of b1 (by simp <;> omega) (by intro j; simp [go_sem]) ?_ ?_ ?_ <;> simp [go_sem]
  clear b1 d1
  have tx := X1; obtain ⟨cX_b, cX_f, cX_0, cX_1, cX_2⟩ := tx
  go_wp2_with fail
  clear cX_b cX_f cX_0 cX_1 cX_2
  refine wp_named ?_; intro w2 hw2
  have d2 : Below w1.heap.size w1 w2 := by rw [hw2]; exact gr0
  have B2 := Lib.hid (below_step B1.out d2)
  have X2 := X1.keep d2
  clear X1 d2 hw2 B1
  have qX_0 := cell_regrown X2.k0
  have qX_1 := cell_regrown X2.k1
  have qX_2 := cell_regrown X2.k2
  refine wp_region_qb (w := w2) (by kernel_rfl) (by kernel_rfl) gr0 ?_
  repeat (any_goals (first | go_big_quiet_step (first | (go_at_call 106; exact Calls.regrown_of (CA.out _)) | (go_at_call 70; exact Calls.regrown_of (CD.out _))) | quiet_step (first | (go_at_call 106; exact Calls.regrown_of (CA.out _)) | (go_at_call 70; exact Calls.regrown_of (CD.out _)))))
  refine wpQuiet_nil ?_
  intro w3 hq
  have b3 : Below w2.heap.size w2 w3 := by obtain ⟨p, hq⟩ := hq; rw [hq]; exact below_regrown _ _ _
  clear hq qX_0 qX_1 qX_2
  have d3 : Below w2.heap.size w2 w3 := below_step gr0 b3
  have B3 := Lib.hid (below_step B2.out d3)
  have X3 := X2.keep d3
  clear X2 b3 d3 B2
  have tx := X3; obtain ⟨cX_b, cX_f, cX_0, cX_1, cX_2⟩ := tx
  go_wp2_with fail
  clear cX_b cX_f cX_0 cX_1 cX_2
  go_ret2
  exact ⟨rfl, B3.out⟩
theorem rdtext_any (k wk d : Int) (w : World) :
    Calls Tryz.prog 48 #[.agg #[.int .i64 k, .int .i64 wk, .int .i64 d]] w fun e w' => e = .returned (.tuple #[.string (Ds.tx k wk d).1, .int .i64 (Ds.tx k wk d).2]) ∧ Below w.heap.size w w' := by
  unfold Ds.tx
  cases hr : Dr.onR k wk d
  · rw [if_neg (by decide)]
    exact rdtx_no k wk d w hr
  · rw [if_pos rfl]
    have CR : Hid (∀ W, Calls Tryz.prog 105 #[.agg #[.int .i64 k, .int .i64 wk, .int .i64 d]] W fun e w' => e = .returned (.bool true) ∧ Below W.heap.size W w') := fun W => hr ▸ roright_any k wk d W
    have hb := Dr.onR_true.1 hr
    have w0 : 0 ≤ wk := by omega
    have w1 : wk ≤ 6 := by omega
    have d0 : 0 ≤ d := by omega
    have d1 : d ≤ 31 := by omega
    have k4 : k = 0 ∨ k = 1 ∨ k = 2 ∨ k = 3 := by omega
    have CA : Hid (∀ W, Calls Tryz.prog 106 #[.int .i64 wk] W fun e w' => e = .returned (.string (Ds.tw wk)) ∧ Below W.heap.size W w') := fun W => dtextr_any wk W
    have CD : Hid (∀ W, Calls Tryz.prog 70 #[.int .i64 d] W fun e w' => e = .returned (.string (Ds.td d)) ∧ Below W.heap.size W w') := fun W => rtext_any d W (by omega) (by omega)
    obtain rfl | rfl | rfl | rfl := k4
    · exact rdtx_0 wk d _ _ w (Ds.tw_sz wk w0 w1) (Ds.td_sz d d0 d1) CR CA CD
    · exact rdtx_1 wk d _ _ w (Ds.tw_sz wk w0 w1) (Ds.td_sz d d0 d1) CR CA CD
    · exact rdtx_2 wk d _ _ w (Ds.tw_sz wk w0 w1) (Ds.td_sz d d0 d1) CR CA CD
    · exact rdtx_3 wk d _ _ w (Ds.tw_sz wk w0 w1) (Ds.td_sz d d0 d1) CR CA CD
end
section
open Go.RowKit Go.Sort
namespace Ds
def sg : List UInt8 → Nat → Int
  | [], _ => -1
  | c :: r, k => if c = 60 ∨ c = 62 then (k : Int) else sg r (k + 1)
theorem sg_ix : ∀ (l : List UInt8) (k : Nat), sg l k = if Lib.indexAny l [60, 62] = -1 then -1 else Lib.indexAny l [60, 62] + k
  | [], k => by unfold sg Lib.indexAny; simp
  | c :: r, k => by
    have ih := sg_ix r (k + 1)
    have hc : ([60, 62] : List UInt8).contains c = decide (c = 60 ∨ c = 62) := by
      by_cases h1 : c = 60
      · subst h1; rfl
      · by_cases h2 : c = 62
        · subst h2; rfl
        · simp [h1, h2]
    have hg := Lib.indexAny_ge [60, 62] r
    unfold sg Lib.indexAny
    rw [hc, ih]
    generalize Lib.indexAny r [60, 62] = x at *
    by_cases h : c = 60 ∨ c = 62
    · rw [if_pos h, decide_eq_true h]; simp
    · rw [if_neg h, decide_eq_false h]
      by_cases hx : x = -1
      · subst hx; simp
      · have e : (x == -1) = false := beq_eq_false_iff_ne.2 hx
        rw [e, if_neg hx]
        simp only [Bool.false_eq_true, if_false]
        rw [if_neg (by omega)]
        omega
theorem sg_0 (l : List UInt8) : sg l 0 = Lib.indexAny l [60, 62] := by
  rw [sg_ix]
  split
  · rename_i h; exact h.symm
  · simp
theorem u8_eq (c : UInt8) (n : Nat) (hn : n < 256) : ((c.toNat : Int) == (n : Int)) = decide (c = UInt8.ofNat n) := by
  by_cases h : c = UInt8.ofNat n
  · subst h; rw [decide_eq_true rfl, beq_iff_eq]
    rw [UInt8.toNat_ofNat']
    omega
  · rw [decide_eq_false h, beq_eq_false_iff_ne]
    intro e
    apply h
    have e2 : c.toNat = n := by omega
    rw [← e2, UInt8.ofNat_toNat]
end Ds
set_option maxHeartbeats 2000000 in
set_option maxRecDepth 100000 in
theorem rsign_any (s : ByteArray) (w : World) (hs : s.size ≤ 1000) :
    Calls Tryz.prog 145 #[.string s] w fun e w' => e = .returned (.int .i64 (Lib.indexAny s.data.toList [60, 62])) ∧ w = w' := by
  rw [← Ds.sg_0]
  obtain ⟨ans, hans⟩ : ∃ ans, ans = Ds.sg s.data.toList 0 := ⟨_, rfl⟩
  rw [← hans]
  have HA := Lib.hid hans; clear hans
  go_enter Tryz.func145, Tryz.ntmps145
  go_wp2_with fail
  go_loopw [3] (fun i wr => ∃ k : Nat, k ≤ s.size ∧ i = .int .i64 k ∧ Ds.sg (s.data.toList.drop k) k = ans ∧ wr = w) (fun i _ => s.size - (intOf i).toNat)
  case atStart => exact ⟨0, Nat.zero_le _, rfl, HA.out.symm, rfl⟩
  case round =>
    obtain ⟨k, hk, rfl, hg, hw⟩ := hrel
    by_cases hlt : k < s.size
    · have hd : s.data.toList.drop k = s[k] :: s.data.toList.drop (k + 1) := by
        have hl := ab_len s
        rw [List.drop_eq_getElem_cons (by omega)]; rfl
      rw [hd] at hg
      have c1 : ((s[k].toNat : Int) == 60) = decide (s[k] = 60) := Ds.u8_eq s[k] 60 (by decide)
      have c2 : ((s[k].toNat : Int) == 62) = decide (s[k] = 62) := Ds.u8_eq s[k] 62 (by decide)
      have HW := Lib.hid hw; clear hw hd
      by_cases h1 : s[k] = 60
      · have e : ((k : Nat) : Int) = ans := by rw [← hg]; unfold Ds.sg; rw [if_pos (.inl h1)]
        rw [decide_eq_true h1] at c1
        have E := Lib.hid e
        clear hg e c2 h1
        go_wp2_with fail
        go_ret
        exact ⟨by rw [← E.out]; rfl, HW.out.symm⟩
      · rw [decide_eq_false h1] at c1
        by_cases h2 : s[k] = 62
        · have e : ((k : Nat) : Int) = ans := by rw [← hg]; unfold Ds.sg; rw [if_pos (.inr h2)]
          rw [decide_eq_true h2] at c2
          have E := Lib.hid e
          clear hg e h1 h2
          go_wp2_with fail
          go_ret
          exact ⟨by rw [← E.out]; rfl, HW.out.symm⟩
        · rw [decide_eq_false h2] at c2
          have e : Ds.sg (s.data.toList.drop (k + 1)) (k + 1) = ans := by rw [← hg]; conv => rhs; unfold Ds.sg; 
                                                                          rw [if_neg (fun h => h.elim h1 h2)]
          have E := Lib.hid e
          clear hg e h1 h2
          go_wp2_with fail
          go_roundw
          case rel => exact ⟨k + 1, by omega, by go_num, E.out, HW.out⟩
          case measure => simp [intOf]; omega
    · have e : (-1 : Int) = ans := by
        rw [← hg, List.drop_eq_nil_of_le (by have := ab_len s; omega)]; rfl
      have E := Lib.hid e; have HW := Lib.hid hw
      clear hg e hw
      go_wp2_with fail
      go_ret
      exact ⟨by rw [← E.out]; rfl, HW.out.symm⟩
end
section
open Go.RowKit Go.Sort
set_option maxHeartbeats 2000000 in
set_option maxRecDepth 100000 in
theorem rr_short (s A B E : ByteArray) (j k d q c : Int) (w : World) (lm : (s.size : Int) ≤ 1000)
    (j0 : 0 ≤ j) (jl : j < (s.size : Int))
    (SJ : Hid (∀ W, Calls Tryz.prog 145 #[.string s] W fun e w' => e = .returned (.int .i64 j) ∧ W = w'))
    (jh : (s.size : Int) ≤ j + 1)
    : Calls Tryz.prog 95 #[.string s] w fun e w' => e = .returned (.tuple #[.agg #[.int .i64 0, .int .i64 0, .int .i64 0], .int .i64 4]) ∧ Below w.heap.size w w' := by
  go_enter Tryz.func95, Tryz.ntmps95
  go_wp2_with fail
  refine (SJ.out _).mono ?_; rintro e v1 ⟨rfl, rfl⟩
  go_wp2_with fail
  refine bodyPost_ret (v := .tuple #[.agg #[.int .i64 0, .int .i64 0, .int .i64 0], .int .i64 4]) (by simp [results, Tryz.results95, go_sem]) rfl ⟨rfl, ?_⟩
  exact gr0
set_option maxHeartbeats 2000000 in
set_option maxRecDepth 100000 in
theorem rr_bad (s A B E : ByteArray) (j k d q c : Int) (w : World) (lm : (s.size : Int) ≤ 1000)
    (j0 : 0 ≤ j) (jl : j < (s.size : Int))
    (SJ : Hid (∀ W, Calls Tryz.prog 145 #[.string s] W fun e w' => e = .returned (.int .i64 j) ∧ W = w'))
    (jh : decide ((s.size : Int) ≤ j + 1) = false)
    (I1 : ∀ W, Sem.run Tryz.prog (Instr.index 9 (.string s) (.int .i64 (j + 1))) W = .ok (.int .u8 c) W)
    (c1 : (c == 61) = false) (c2 : (c != 61) = true)
    : Calls Tryz.prog 95 #[.string s] w fun e w' => e = .returned (.tuple #[.agg #[.int .i64 0, .int .i64 0, .int .i64 0], .int .i64 4]) ∧ Below w.heap.size w w' := by
  go_enter Tryz.func95, Tryz.ntmps95
  go_wp2_with fail
  refine (SJ.out _).mono ?_; rintro e v1 ⟨rfl, rfl⟩
  go_wp2_with fail
  refine bodyPost_ret (v := .tuple #[.agg #[.int .i64 0, .int .i64 0, .int .i64 0], .int .i64 4]) (by simp [results, Tryz.results95, go_sem]) rfl ⟨rfl, ?_⟩
  exact gr0
set_option maxHeartbeats 2000000 in
set_option maxRecDepth 100000 in
theorem rr_w60 (s A B E : ByteArray) (j k d q c : Int) (w : World) (lm : (s.size : Int) ≤ 1000)
    (j0 : 0 ≤ j) (jl : j < (s.size : Int))
    (SJ : Hid (∀ W, Calls Tryz.prog 145 #[.string s] W fun e w' => e = .returned (.int .i64 j) ∧ W = w'))
    (jh : decide ((s.size : Int) ≤ j + 1) = false)
    (I1 : ∀ W, Sem.run Tryz.prog (Instr.index 9 (.string s) (.int .i64 (j + 1))) W = .ok (.int .u8 61) W)
    (I0 : ∀ W, Sem.run Tryz.prog (Instr.index 9 (.string s) (.int .i64 j)) W = .ok (.int .u8 60) W)
    (SA : ∀ W, Sem.run Tryz.prog (Instr.slice 9 (.string s) none (some (.int .i64 j)) none) W = .ok (.string A) W)
    (CW : Hid (∀ W, Calls Tryz.prog 146 #[.string A] W fun e w' => e = .returned (.tuple #[.int .i64 k, .int .i64 q]) ∧ Below W.heap.size W w'))
    (q1 : (q == 0) = false) (q2 : (q != 0) = true)
    : Calls Tryz.prog 95 #[.string s] w fun e w' => e = .returned (.tuple #[.agg #[.int .i64 0, .int .i64 0, .int .i64 0], .int .i64 q]) ∧ Below w.heap.size w w' := by
  go_enter Tryz.func95, Tryz.ntmps95
  go_wp2_with fail
  refine (SJ.out _).mono ?_; rintro e v1 ⟨rfl, rfl⟩
  go_wp2_with fail
  refine (CW.out _).mono ?_; rintro e w1 ⟨rfl, b1⟩
  have d1 : Below w.heap.size w w1 := below_step gr0 b1
  have B1 := Lib.hid d1
  have R1 : Bk3 w1 (w.heap.size) (.int .i64 0) (.int .i64 0) (.int .i64 0) := by refine Bk3.of b1 (by simp <;> omega) (by intro j; simp [go_sem]) ?_ ?_ ?_ <;> simp [go_sem]
  clear b1 d1
  have tx := R1; obtain ⟨cR_b, cR_f, cR_0, cR_1, cR_2⟩ := tx
  go_wp2_with fail
  refine bodyPost_ret (v := .tuple #[.agg #[.int .i64 0, .int .i64 0, .int .i64 0], .int .i64 q]) (by simp [results, Tryz.results95, go_sem, cR_b, cR_f, cR_0, cR_1, cR_2]) rfl ⟨rfl, ?_⟩
  clear cR_b cR_f cR_0 cR_1 cR_2
  exact (grB B1)
set_option maxHeartbeats 2000000 in
set_option maxRecDepth 100000 in
theorem rr_d60 (s A B E : ByteArray) (j k d q c : Int) (w : World) (lm : (s.size : Int) ≤ 1000)
    (j0 : 0 ≤ j) (jl : j < (s.size : Int))
    (SJ : Hid (∀ W, Calls Tryz.prog 145 #[.string s] W fun e w' => e = .returned (.int .i64 j) ∧ W = w'))
    (jh : decide ((s.size : Int) ≤ j + 1) = false)
    (I1 : ∀ W, Sem.run Tryz.prog (Instr.index 9 (.string s) (.int .i64 (j + 1))) W = .ok (.int .u8 61) W)
    (I0 : ∀ W, Sem.run Tryz.prog (Instr.index 9 (.string s) (.int .i64 j)) W = .ok (.int .u8 60) W)
    (SA : ∀ W, Sem.run Tryz.prog (Instr.slice 9 (.string s) none (some (.int .i64 j)) none) W = .ok (.string A) W)
    (SB : ∀ W, Sem.run Tryz.prog (Instr.slice 9 (.string s) (some (.int .i64 (j + 2))) none none) W = .ok (.string B) W)
    (CW : Hid (∀ W, Calls Tryz.prog 146 #[.string A] W fun e w' => e = .returned (.tuple #[.int .i64 k, .int .i64 0]) ∧ Below W.heap.size W w'))
    (CD : Hid (∀ W, Calls Tryz.prog 147 #[.string B] W fun e w' => e = .returned (.tuple #[.int .i64 d, .int .i64 q]) ∧ W = w'))
    (q1 : (q == 0) = false) (q2 : (q != 0) = true)
    : Calls Tryz.prog 95 #[.string s] w fun e w' => e = .returned (.tuple #[.agg #[.int .i64 0, .int .i64 0, .int .i64 0], .int .i64 q]) ∧ Below w.heap.size w w' := by
  go_enter Tryz.func95, Tryz.ntmps95
  go_wp2_with fail
  refine (SJ.out _).mono ?_; rintro e v1 ⟨rfl, rfl⟩
  go_wp2_with fail
  refine (CW.out _).mono ?_; rintro e w1 ⟨rfl, b1⟩
  have d1 : Below w.heap.size w w1 := below_step gr0 b1
  have B1 := Lib.hid d1
  have R1 : Bk3 w1 (w.heap.size) (.int .i64 0) (.int .i64 0) (.int .i64 0) := by refine Bk3.of b1 (by simp <;> omega) (by intro j; simp [go_sem]) ?_ ?_ ?_ <;> simp [go_sem]
  clear b1 d1
  have tx := R1; obtain ⟨cR_b, cR_f, cR_0, cR_1, cR_2⟩ := tx
  go_wp2_with fail
  clear cR_b cR_f cR_0 cR_1 cR_2
  refine (CD.out _).mono ?_; rintro e v2 ⟨rfl, rfl⟩
  have tx := R1; obtain ⟨cR_b, cR_f, cR_0, cR_1, cR_2⟩ := tx
  go_wp2_with fail
  refine bodyPost_ret (v := .tuple #[.agg #[.int .i64 0, .int .i64 0, .int .i64 0], .int .i64 q]) (by simp [results, Tryz.results95, go_sem, cR_b, cR_f, cR_0, cR_1, cR_2]) rfl ⟨rfl, ?_⟩
  clear cR_b cR_f cR_0 cR_1 cR_2
  exact (grB B1)
set_option maxHeartbeats 2000000 in
set_option maxRecDepth 100000 in
theorem rr_y60 (s A B E : ByteArray) (j k d q c : Int) (w : World) (lm : (s.size : Int) ≤ 1000)
    (j0 : 0 ≤ j) (jl : j < (s.size : Int))
    (SJ : Hid (∀ W, Calls Tryz.prog 145 #[.string s] W fun e w' => e = .returned (.int .i64 j) ∧ W = w'))
    (jh : decide ((s.size : Int) ≤ j + 1) = false)
    (I1 : ∀ W, Sem.run Tryz.prog (Instr.index 9 (.string s) (.int .i64 (j + 1))) W = .ok (.int .u8 61) W)
    (I0 : ∀ W, Sem.run Tryz.prog (Instr.index 9 (.string s) (.int .i64 j)) W = .ok (.int .u8 60) W)
    (SA : ∀ W, Sem.run Tryz.prog (Instr.slice 9 (.string s) none (some (.int .i64 j)) none) W = .ok (.string A) W)
    (SB : ∀ W, Sem.run Tryz.prog (Instr.slice 9 (.string s) (some (.int .i64 (j + 2))) none none) W = .ok (.string B) W)
    (CW : Hid (∀ W, Calls Tryz.prog 146 #[.string A] W fun e w' => e = .returned (.tuple #[.int .i64 k, .int .i64 0]) ∧ Below W.heap.size W w'))
    (CD : Hid (∀ W, Calls Tryz.prog 147 #[.string B] W fun e w' => e = .returned (.tuple #[.int .i64 d, .int .i64 0]) ∧ W = w'))
    : Calls Tryz.prog 95 #[.string s] w fun e w' => e = .returned (.tuple #[.agg #[.int .i64 3, .int .i64 k, .int .i64 d], .int .i64 0]) ∧ Below w.heap.size w w' := by
  go_enter Tryz.func95, Tryz.ntmps95
  go_wp2_with fail
  refine (SJ.out _).mono ?_; rintro e v1 ⟨rfl, rfl⟩
  go_wp2_with fail
  refine (CW.out _).mono ?_; rintro e w1 ⟨rfl, b1⟩
  have d1 : Below w.heap.size w w1 := below_step gr0 b1
  have B1 := Lib.hid d1
  have R1 : Bk3 w1 (w.heap.size) (.int .i64 0) (.int .i64 0) (.int .i64 0) := by refine Bk3.of b1 (by simp <;> omega) (by intro j; simp [go_sem]) ?_ ?_ ?_ <;> simp [go_sem]
  clear b1 d1
  have tx := R1; obtain ⟨cR_b, cR_f, cR_0, cR_1, cR_2⟩ := tx
  go_wp2_with fail
  clear cR_b cR_f cR_0 cR_1 cR_2
  refine (CD.out _).mono ?_; rintro e v2 ⟨rfl, rfl⟩
  have tx := R1; obtain ⟨cR_b, cR_f, cR_0, cR_1, cR_2⟩ := tx
  go_wp2_with fail
  refine bodyPost_ret (v := .tuple #[.agg #[.int .i64 3, .int .i64 k, .int .i64 d], .int .i64 0]) (by simp [results, Tryz.results95, go_sem, cR_b, cR_f, cR_0, cR_1, cR_2]) rfl ⟨rfl, ?_⟩
  clear cR_b cR_f cR_0 cR_1 cR_2
  exact (grB B1)
set_option maxHeartbeats 2000000 in
set_option maxRecDepth 100000 in
theorem rr_w62 (s A B E : ByteArray) (j k d q c : Int) (w : World) (lm : (s.size : Int) ≤ 1000)
    (j0 : 0 ≤ j) (jl : j < (s.size : Int))
    (SJ : Hid (∀ W, Calls Tryz.prog 145 #[.string s] W fun e w' => e = .returned (.int .i64 j) ∧ W = w'))
    (jh : decide ((s.size : Int) ≤ j + 1) = false)
    (I1 : ∀ W, Sem.run Tryz.prog (Instr.index 9 (.string s) (.int .i64 (j + 1))) W = .ok (.int .u8 61) W)
    (I0 : ∀ W, Sem.run Tryz.prog (Instr.index 9 (.string s) (.int .i64 j)) W = .ok (.int .u8 62) W)
    (SA : ∀ W, Sem.run Tryz.prog (Instr.slice 9 (.string s) none (some (.int .i64 j)) none) W = .ok (.string A) W)
    (CW : Hid (∀ W, Calls Tryz.prog 146 #[.string A] W fun e w' => e = .returned (.tuple #[.int .i64 k, .int .i64 q]) ∧ Below W.heap.size W w'))
    (q1 : (q == 0) = false) (q2 : (q != 0) = true)
    : Calls Tryz.prog 95 #[.string s] w fun e w' => e = .returned (.tuple #[.agg #[.int .i64 0, .int .i64 0, .int .i64 0], .int .i64 q]) ∧ Below w.heap.size w w' := by
  go_enter Tryz.func95, Tryz.ntmps95
  go_wp2_with fail
  refine (SJ.out _).mono ?_; rintro e v1 ⟨rfl, rfl⟩
  go_wp2_with fail
  refine (CW.out _).mono ?_; rintro e w1 ⟨rfl, b1⟩
  have d1 : Below w.heap.size w w1 := below_step gr0 b1
  have B1 := Lib.hid d1
  have R1 : Bk3 w1 (w.heap.size) (.int .i64 0) (.int .i64 0) (.int .i64 0) := by refine Bk3.of b1 (by simp <;> omega) (by intro j; simp [go_sem]) ?_ ?_ ?_ <;> simp [go_sem]
  clear b1 d1
  have tx := R1; obtain ⟨cR_b, cR_f, cR_0, cR_1, cR_2⟩ := tx
  go_wp2_with fail
  refine bodyPost_ret (v := .tuple #[.agg #[.int .i64 0, .int .i64 0, .int .i64 0], .int .i64 q]) (by simp [results, Tryz.results95, go_sem, cR_b, cR_f, cR_0, cR_1, cR_2]) rfl ⟨rfl, ?_⟩
  clear cR_b cR_f cR_0 cR_1 cR_2
  exact (grB B1)
set_option maxHeartbeats 2000000 in
set_option maxRecDepth 100000 in
theorem rr_d62 (s A B E : ByteArray) (j k d q c : Int) (w : World) (lm : (s.size : Int) ≤ 1000)
    (j0 : 0 ≤ j) (jl : j < (s.size : Int))
    (SJ : Hid (∀ W, Calls Tryz.prog 145 #[.string s] W fun e w' => e = .returned (.int .i64 j) ∧ W = w'))
    (jh : decide ((s.size : Int) ≤ j + 1) = false)
    (I1 : ∀ W, Sem.run Tryz.prog (Instr.index 9 (.string s) (.int .i64 (j + 1))) W = .ok (.int .u8 61) W)
    (I0 : ∀ W, Sem.run Tryz.prog (Instr.index 9 (.string s) (.int .i64 j)) W = .ok (.int .u8 62) W)
    (SA : ∀ W, Sem.run Tryz.prog (Instr.slice 9 (.string s) none (some (.int .i64 j)) none) W = .ok (.string A) W)
    (SB : ∀ W, Sem.run Tryz.prog (Instr.slice 9 (.string s) (some (.int .i64 (j + 2))) none none) W = .ok (.string B) W)
    (CW : Hid (∀ W, Calls Tryz.prog 146 #[.string A] W fun e w' => e = .returned (.tuple #[.int .i64 k, .int .i64 0]) ∧ Below W.heap.size W w'))
    (CD : Hid (∀ W, Calls Tryz.prog 147 #[.string B] W fun e w' => e = .returned (.tuple #[.int .i64 d, .int .i64 q]) ∧ W = w'))
    (q1 : (q == 0) = false) (q2 : (q != 0) = true)
    : Calls Tryz.prog 95 #[.string s] w fun e w' => e = .returned (.tuple #[.agg #[.int .i64 0, .int .i64 0, .int .i64 0], .int .i64 q]) ∧ Below w.heap.size w w' := by
  go_enter Tryz.func95, Tryz.ntmps95
  go_wp2_with fail
  refine (SJ.out _).mono ?_; rintro e v1 ⟨rfl, rfl⟩
  go_wp2_with fail
  refine (CW.out _).mono ?_; rintro e w1 ⟨rfl, b1⟩
  have d1 : Below w.heap.size w w1 := below_step gr0 b1
  have B1 := Lib.hid d1
  have R1 : Bk3 w1 (w.heap.size) (.int .i64 0) (.int .i64 0) (.int .i64 0) := by refine Bk3.of b1 (by simp <;> omega) (by intro j; simp [go_sem]) ?_ ?_ ?_ <;> simp [go_sem]
  clear b1 d1
  have tx := R1; obtain ⟨cR_b, cR_f, cR_0, cR_1, cR_2⟩ := tx
  go_wp2_with fail
  clear cR_b cR_f cR_0 cR_1 cR_2
  refine (CD.out _).mono ?_; rintro e v2 ⟨rfl, rfl⟩
  have tx := R1; obtain ⟨cR_b, cR_f, cR_0, cR_1, cR_2⟩ := tx
  go_wp2_with fail
  refine bodyPost_ret (v := .tuple #[.agg #[.int .i64 0, .int .i64 0, .int .i64 0], .int .i64 q]) (by simp [results, Tryz.results95, go_sem, cR_b, cR_f, cR_0, cR_1, cR_2]) rfl ⟨rfl, ?_⟩
  clear cR_b cR_f cR_0 cR_1 cR_2
  exact (grB B1)
set_option maxHeartbeats 2000000 in
set_option maxRecDepth 100000 in
theorem rr_y62 (s A B E : ByteArray) (j k d q c : Int) (w : World) (lm : (s.size : Int) ≤ 1000)
    (j0 : 0 ≤ j) (jl : j < (s.size : Int))
    (SJ : Hid (∀ W, Calls Tryz.prog 145 #[.string s] W fun e w' => e = .returned (.int .i64 j) ∧ W = w'))
    (jh : decide ((s.size : Int) ≤ j + 1) = false)
    (I1 : ∀ W, Sem.run Tryz.prog (Instr.index 9 (.string s) (.int .i64 (j + 1))) W = .ok (.int .u8 61) W)
    (I0 : ∀ W, Sem.run Tryz.prog (Instr.index 9 (.string s) (.int .i64 j)) W = .ok (.int .u8 62) W)
    (SA : ∀ W, Sem.run Tryz.prog (Instr.slice 9 (.string s) none (some (.int .i64 j)) none) W = .ok (.string A) W)
    (SB : ∀ W, Sem.run Tryz.prog (Instr.slice 9 (.string s) (some (.int .i64 (j + 2))) none none) W = .ok (.string B) W)
    (CW : Hid (∀ W, Calls Tryz.prog 146 #[.string A] W fun e w' => e = .returned (.tuple #[.int .i64 k, .int .i64 0]) ∧ Below W.heap.size W w'))
    (CD : Hid (∀ W, Calls Tryz.prog 147 #[.string B] W fun e w' => e = .returned (.tuple #[.int .i64 d, .int .i64 0]) ∧ W = w'))
    : Calls Tryz.prog 95 #[.string s] w fun e w' => e = .returned (.tuple #[.agg #[.int .i64 2, .int .i64 k, .int .i64 d], .int .i64 0]) ∧ Below w.heap.size w w' := by
  go_enter Tryz.func95, Tryz.ntmps95
  go_wp2_with fail
  refine (SJ.out _).mono ?_; rintro e v1 ⟨rfl, rfl⟩
  go_wp2_with fail
  refine (CW.out _).mono ?_; rintro e w1 ⟨rfl, b1⟩
  have d1 : Below w.heap.size w w1 := below_step gr0 b1
  have B1 := Lib.hid d1
  have R1 : Bk3 w1 (w.heap.size) (.int .i64 0) (.int .i64 0) (.int .i64 0) := by refine Bk3.of b1 (by simp <;> omega) (by intro j; simp [go_sem]) ?_ ?_ ?_ <;> simp [go_sem]
  clear b1 d1
  have tx := R1; obtain ⟨cR_b, cR_f, cR_0, cR_1, cR_2⟩ := tx
  go_wp2_with fail
  clear cR_b cR_f cR_0 cR_1 cR_2
  refine (CD.out _).mono ?_; rintro e v2 ⟨rfl, rfl⟩
  have tx := R1; obtain ⟨cR_b, cR_f, cR_0, cR_1, cR_2⟩ := tx
  go_wp2_with fail
  refine bodyPost_ret (v := .tuple #[.agg #[.int .i64 2, .int .i64 k, .int .i64 d], .int .i64 0]) (by simp [results, Tryz.results95, go_sem, cR_b, cR_f, cR_0, cR_1, cR_2]) rfl ⟨rfl, ?_⟩
  clear cR_b cR_f cR_0 cR_1 cR_2
  exact (grB B1)
set_option maxHeartbeats 2000000 in
set_option maxRecDepth 100000 in
theorem rr_na_n (s A B E : ByteArray) (j k d q c : Int) (w : World) (lm : (s.size : Int) ≤ 1000)
    (j0 : decide (0 ≤ j) = false)
    (SJ : Hid (∀ W, Calls Tryz.prog 145 #[.string s] W fun e w' => e = .returned (.int .i64 j) ∧ W = w'))
    (n1 : s.toList.isEmpty = false) (n2 : ¬ s.toList = [])
    (I0 : ∀ W, Sem.run Tryz.prog (Instr.index 9 (.string s) (.int .i64 0)) W = .ok (.int .u8 c) W)
    (hz : 0 < (s.size : Int))
    (c1 : (c == 45) = true)
    (CD : Hid (∀ W, Calls Tryz.prog 147 #[.string s] W fun e w' => e = .returned (.tuple #[.int .i64 d, .int .i64 q]) ∧ W = w'))
    (q1 : (q == 0) = false) (q2 : (q != 0) = true)
    : Calls Tryz.prog 95 #[.string s] w fun e w' => e = .returned (.tuple #[.agg #[.int .i64 0, .int .i64 0, .int .i64 0], .int .i64 q]) ∧ Below w.heap.size w w' := by
  go_enter Tryz.func95, Tryz.ntmps95
  go_wp2_with fail
  refine (SJ.out _).mono ?_; rintro e v1 ⟨rfl, rfl⟩
  go_wp2_with fail
  refine (CD.out _).mono ?_; rintro e v2 ⟨rfl, rfl⟩
  go_wp2_with fail
  refine bodyPost_ret (v := .tuple #[.agg #[.int .i64 0, .int .i64 0, .int .i64 0], .int .i64 q]) (by simp [results, Tryz.results95, go_sem]) rfl ⟨rfl, ?_⟩
  exact gr0
set_option maxHeartbeats 2000000 in
set_option maxRecDepth 100000 in
theorem rr_na_y (s A B E : ByteArray) (j k d q c : Int) (w : World) (lm : (s.size : Int) ≤ 1000)
    (j0 : decide (0 ≤ j) = false)
    (SJ : Hid (∀ W, Calls Tryz.prog 145 #[.string s] W fun e w' => e = .returned (.int .i64 j) ∧ W = w'))
    (n1 : s.toList.isEmpty = false) (n2 : ¬ s.toList = [])
    (I0 : ∀ W, Sem.run Tryz.prog (Instr.index 9 (.string s) (.int .i64 0)) W = .ok (.int .u8 c) W)
    (hz : 0 < (s.size : Int))
    (c1 : (c == 45) = true)
    (CD : Hid (∀ W, Calls Tryz.prog 147 #[.string s] W fun e w' => e = .returned (.tuple #[.int .i64 d, .int .i64 0]) ∧ W = w'))
    : Calls Tryz.prog 95 #[.string s] w fun e w' => e = .returned (.tuple #[.agg #[.int .i64 0, .int .i64 0, .int .i64 d], .int .i64 0]) ∧ Below w.heap.size w w' := by
  go_enter Tryz.func95, Tryz.ntmps95
  go_wp2_with fail
  refine (SJ.out _).mono ?_; rintro e v1 ⟨rfl, rfl⟩
  go_wp2_with fail
  refine (CD.out _).mono ?_; rintro e v2 ⟨rfl, rfl⟩
  go_wp2_with fail
  refine bodyPost_ret (v := .tuple #[.agg #[.int .i64 0, .int .i64 0, .int .i64 d], .int .i64 0]) (by simp [results, Tryz.results95, go_sem]) rfl ⟨rfl, ?_⟩
  exact gr0
set_option maxHeartbeats 2000000 in
set_option maxRecDepth 100000 in
theorem rr_la_s (s A B E : ByteArray) (j k d q c : Int) (w : World) (lm : (s.size : Int) ≤ 1000)
    (j0 : decide (0 ≤ j) = false)
    (SJ : Hid (∀ W, Calls Tryz.prog 145 #[.string s] W fun e w' => e = .returned (.int .i64 j) ∧ W = w'))
    (n1 : s.toList.isEmpty = false) (n2 : ¬ s.toList = [])
    (I0 : ∀ W, Sem.run Tryz.prog (Instr.index 9 (.string s) (.int .i64 0)) W = .ok (.int .u8 c) W)
    (hz : 0 < (s.size : Int))
    (c1 : (c == 45) = false) (c2 : decide (48 ≤ c) = false)
    (h4 : (s.size : Int) < 4)
    : Calls Tryz.prog 95 #[.string s] w fun e w' => e = .returned (.tuple #[.agg #[.int .i64 0, .int .i64 0, .int .i64 0], .int .i64 4]) ∧ Below w.heap.size w w' := by
  go_enter Tryz.func95, Tryz.ntmps95
  go_wp2_with fail
  refine (SJ.out _).mono ?_; rintro e v1 ⟨rfl, rfl⟩
  go_wp2_with fail
  refine bodyPost_ret (v := .tuple #[.agg #[.int .i64 0, .int .i64 0, .int .i64 0], .int .i64 4]) (by simp [results, Tryz.results95, go_sem]) rfl ⟨rfl, ?_⟩
  exact gr0
set_option maxHeartbeats 2000000 in
set_option maxRecDepth 100000 in
theorem rr_la_f (s A B E : ByteArray) (j k d q c : Int) (w : World) (lm : (s.size : Int) ≤ 1000)
    (j0 : decide (0 ≤ j) = false)
    (SJ : Hid (∀ W, Calls Tryz.prog 145 #[.string s] W fun e w' => e = .returned (.int .i64 j) ∧ W = w'))
    (n1 : s.toList.isEmpty = false) (n2 : ¬ s.toList = [])
    (I0 : ∀ W, Sem.run Tryz.prog (Instr.index 9 (.string s) (.int .i64 0)) W = .ok (.int .u8 c) W)
    (hz : 0 < (s.size : Int))
    (c1 : (c == 45) = false) (c2 : decide (48 ≤ c) = false)
    (h4 : decide ((s.size : Int) < 4) = false) (h5 : 4 ≤ (s.size : Int))
    (SE : ∀ W, Sem.run Tryz.prog (Instr.slice 9 (.string s) none (some (.int .i64 4)) none) W = .ok (.string E) W)
    (CS : Hid (∀ W, Calls Tryz.prog 143 #[.string E, .string ⟨#[108, 97, 115, 116]⟩] W fun e w' => e = .returned (.bool false) ∧ Below W.heap.size W w'))
    : Calls Tryz.prog 95 #[.string s] w fun e w' => e = .returned (.tuple #[.agg #[.int .i64 0, .int .i64 0, .int .i64 0], .int .i64 4]) ∧ Below w.heap.size w w' := by
  go_enter Tryz.func95, Tryz.ntmps95
  go_wp2_with fail
  refine (SJ.out _).mono ?_; rintro e v1 ⟨rfl, rfl⟩
  go_wp2_with fail
  refine (CS.out _).mono ?_; rintro e w1 ⟨rfl, b1⟩
  have d1 : Below w.heap.size w w1 := below_step gr0 b1
  have B1 := Lib.hid d1
  have R1 : Bk3 w1 (w.heap.size) (.int .i64 0) (.int .i64 0) (.int .i64 0) := by refine Bk3.of b1 (by simp <;> omega) (by intro j; simp [go_sem]) ?_ ?_ ?_ <;> simp [go_sem]
  clear b1 d1
  have tx := R1; obtain ⟨cR_b, cR_f, cR_0, cR_1, cR_2⟩ := tx
  go_wp2_with fail
  refine bodyPost_ret (v := .tuple #[.agg #[.int .i64 0, .int .i64 0, .int .i64 0], .int .i64 4]) (by simp [results, Tryz.results95, go_sem, cR_b, cR_f, cR_0, cR_1, cR_2]) rfl ⟨rfl, ?_⟩
  clear cR_b cR_f cR_0 cR_1 cR_2
  exact (grB B1)
set_option maxHeartbeats 2000000 in
set_option maxRecDepth 100000 in
theorem rr_la_n (s A B E : ByteArray) (j k d q c : Int) (w : World) (lm : (s.size : Int) ≤ 1000)
    (j0 : decide (0 ≤ j) = false)
    (SJ : Hid (∀ W, Calls Tryz.prog 145 #[.string s] W fun e w' => e = .returned (.int .i64 j) ∧ W = w'))
    (n1 : s.toList.isEmpty = false) (n2 : ¬ s.toList = [])
    (I0 : ∀ W, Sem.run Tryz.prog (Instr.index 9 (.string s) (.int .i64 0)) W = .ok (.int .u8 c) W)
    (hz : 0 < (s.size : Int))
    (c1 : (c == 45) = false) (c2 : decide (48 ≤ c) = false)
    (h4 : decide ((s.size : Int) < 4) = false) (h5 : 4 ≤ (s.size : Int))
    (SE : ∀ W, Sem.run Tryz.prog (Instr.slice 9 (.string s) none (some (.int .i64 4)) none) W = .ok (.string E) W)
    (CS : Hid (∀ W, Calls Tryz.prog 143 #[.string E, .string ⟨#[108, 97, 115, 116]⟩] W fun e w' => e = .returned (.bool true) ∧ Below W.heap.size W w'))
    (SA : ∀ W, Sem.run Tryz.prog (Instr.slice 9 (.string s) (some (.int .i64 4)) none none) W = .ok (.string A) W)
    (CW : Hid (∀ W, Calls Tryz.prog 146 #[.string A] W fun e w' => e = .returned (.tuple #[.int .i64 k, .int .i64 q]) ∧ Below W.heap.size W w'))
    (q1 : (q == 0) = false) (q2 : (q != 0) = true)
    : Calls Tryz.prog 95 #[.string s] w fun e w' => e = .returned (.tuple #[.agg #[.int .i64 0, .int .i64 0, .int .i64 0], .int .i64 q]) ∧ Below w.heap.size w w' := by
  go_enter Tryz.func95, Tryz.ntmps95
  go_wp2_with fail
  refine (SJ.out _).mono ?_; rintro e v1 ⟨rfl, rfl⟩
  go_wp2_with fail
  refine (CS.out _).mono ?_; rintro e w1 ⟨rfl, b1⟩
  have d1 : Below w.heap.size w w1 := below_step gr0 b1
  have B1 := Lib.hid d1
  have R1 : Bk3 w1 (w.heap.size) (.int .i64 0) (.int .i64 0) (.int .i64 0) := by refine Bk3.of b1 (by simp <;> omega) (by intro j; simp [go_sem]) ?_ ?_ ?_ <;> simp [go_sem]
  clear b1 d1
  have tx := R1; obtain ⟨cR_b, cR_f, cR_0, cR_1, cR_2⟩ := tx
  go_wp2_with fail
  clear cR_b cR_f cR_0 cR_1 cR_2
  refine (CW.out _).mono ?_; rintro e w2 ⟨rfl, b2⟩
  have d2 : Below w1.heap.size w1 w2 := below_step gr0 b2
  have B2 := Lib.hid (below_step B1.out d2)
  have R2 := R1.keep d2
  clear R1 b2 d2 B1
  have tx := R2; obtain ⟨cR_b, cR_f, cR_0, cR_1, cR_2⟩ := tx
  go_wp2_with fail
  refine bodyPost_ret (v := .tuple #[.agg #[.int .i64 0, .int .i64 0, .int .i64 0], .int .i64 q]) (by simp [results, Tryz.results95, go_sem, cR_b, cR_f, cR_0, cR_1, cR_2]) rfl ⟨rfl, ?_⟩
  clear cR_b cR_f cR_0 cR_1 cR_2
  exact (grB B2)
set_option maxHeartbeats 2000000 in
set_option maxRecDepth 100000 in
theorem rr_la_y (s A B E : ByteArray) (j k d q c : Int) (w : World) (lm : (s.size : Int) ≤ 1000)
    (j0 : decide (0 ≤ j) = false)
    (SJ : Hid (∀ W, Calls Tryz.prog 145 #[.string s] W fun e w' => e = .returned (.int .i64 j) ∧ W = w'))
    (n1 : s.toList.isEmpty = false) (n2 : ¬ s.toList = [])
    (I0 : ∀ W, Sem.run Tryz.prog (Instr.index 9 (.string s) (.int .i64 0)) W = .ok (.int .u8 c) W)
    (hz : 0 < (s.size : Int))
    (c1 : (c == 45) = false) (c2 : decide (48 ≤ c) = false)
    (h4 : decide ((s.size : Int) < 4) = false) (h5 : 4 ≤ (s.size : Int))
    (SE : ∀ W, Sem.run Tryz.prog (Instr.slice 9 (.string s) none (some (.int .i64 4)) none) W = .ok (.string E) W)
    (CS : Hid (∀ W, Calls Tryz.prog 143 #[.string E, .string ⟨#[108, 97, 115, 116]⟩] W fun e w' => e = .returned (.bool true) ∧ Below W.heap.size W w'))
    (SA : ∀ W, Sem.run Tryz.prog (Instr.slice 9 (.string s) (some (.int .i64 4)) none none) W = .ok (.string A) W)
    (CW : Hid (∀ W, Calls Tryz.prog 146 #[.string A] W fun e w' => e = .returned (.tuple #[.int .i64 k, .int .i64 0]) ∧ Below W.heap.size W w'))
    : Calls Tryz.prog 95 #[.string s] w fun e w' => e = .returned (.tuple #[.agg #[.int .i64 1, .int .i64 k, .int .i64 0], .int .i64 0]) ∧ Below w.heap.size w w' := by
  go_enter Tryz.func95, Tryz.ntmps95
  go_wp2_with fail
  refine (SJ.out _).mono ?_; rintro e v1 ⟨rfl, rfl⟩
  go_wp2_with fail
  refine (CS.out _).mono ?_; rintro e w1 ⟨rfl, b1⟩
  have d1 : Below w.heap.size w w1 := below_step gr0 b1
  have B1 := Lib.hid d1
  have R1 : Bk3 w1 (w.heap.size) (.int .i64 0) (.int .i64 0) (.int .i64 0) := by refine Bk3.of b1 (by simp <;> omega) (by intro j; simp [go_sem]) ?_ ?_ ?_ <;> simp [go_sem]
  clear b1 d1
  have tx := R1; obtain ⟨cR_b, cR_f, cR_0, cR_1, cR_2⟩ := tx
  go_wp2_with fail
  clear cR_b cR_f cR_0 cR_1 cR_2
  refine (CW.out _).mono ?_; rintro e w2 ⟨rfl, b2⟩
  have d2 : Below w1.heap.size w1 w2 := below_step gr0 b2
  have B2 := Lib.hid (below_step B1.out d2)
  have R2 := R1.keep d2
  clear R1 b2 d2 B1
  have tx := R2; obtain ⟨cR_b, cR_f, cR_0, cR_1, cR_2⟩ := tx
  go_wp2_with fail
  refine bodyPost_ret (v := .tuple #[.agg #[.int .i64 1, .int .i64 k, .int .i64 0], .int .i64 0]) (by simp [results, Tryz.results95, go_sem, cR_b, cR_f, cR_0, cR_1, cR_2]) rfl ⟨rfl, ?_⟩
  clear cR_b cR_f cR_0 cR_1 cR_2
  exact (grB B2)
set_option maxHeartbeats 2000000 in
set_option maxRecDepth 100000 in
theorem rr_nb_n (s A B E : ByteArray) (j k d q c : Int) (w : World) (lm : (s.size : Int) ≤ 1000)
    (j0 : decide (0 ≤ j) = false)
    (SJ : Hid (∀ W, Calls Tryz.prog 145 #[.string s] W fun e w' => e = .returned (.int .i64 j) ∧ W = w'))
    (n1 : s.toList.isEmpty = false) (n2 : ¬ s.toList = [])
    (I0 : ∀ W, Sem.run Tryz.prog (Instr.index 9 (.string s) (.int .i64 0)) W = .ok (.int .u8 c) W)
    (hz : 0 < (s.size : Int))
    (c1 : (c == 45) = false) (c2 : 48 ≤ c) (c3 : c ≤ 57)
    (CD : Hid (∀ W, Calls Tryz.prog 147 #[.string s] W fun e w' => e = .returned (.tuple #[.int .i64 d, .int .i64 q]) ∧ W = w'))
    (q1 : (q == 0) = false) (q2 : (q != 0) = true)
    : Calls Tryz.prog 95 #[.string s] w fun e w' => e = .returned (.tuple #[.agg #[.int .i64 0, .int .i64 0, .int .i64 0], .int .i64 q]) ∧ Below w.heap.size w w' := by
  go_enter Tryz.func95, Tryz.ntmps95
  go_wp2_with fail
  refine (SJ.out _).mono ?_; rintro e v1 ⟨rfl, rfl⟩
  go_wp2_with fail
  refine (CD.out _).mono ?_; rintro e v2 ⟨rfl, rfl⟩
  go_wp2_with fail
  refine bodyPost_ret (v := .tuple #[.agg #[.int .i64 0, .int .i64 0, .int .i64 0], .int .i64 q]) (by simp [results, Tryz.results95, go_sem]) rfl ⟨rfl, ?_⟩
  exact gr0
set_option maxHeartbeats 2000000 in
set_option maxRecDepth 100000 in
theorem rr_nb_y (s A B E : ByteArray) (j k d q c : Int) (w : World) (lm : (s.size : Int) ≤ 1000)
    (j0 : decide (0 ≤ j) = false)
    (SJ : Hid (∀ W, Calls Tryz.prog 145 #[.string s] W fun e w' => e = .returned (.int .i64 j) ∧ W = w'))
    (n1 : s.toList.isEmpty = false) (n2 : ¬ s.toList = [])
    (I0 : ∀ W, Sem.run Tryz.prog (Instr.index 9 (.string s) (.int .i64 0)) W = .ok (.int .u8 c) W)
    (hz : 0 < (s.size : Int))
    (c1 : (c == 45) = false) (c2 : 48 ≤ c) (c3 : c ≤ 57)
    (CD : Hid (∀ W, Calls Tryz.prog 147 #[.string s] W fun e w' => e = .returned (.tuple #[.int .i64 d, .int .i64 0]) ∧ W = w'))
    : Calls Tryz.prog 95 #[.string s] w fun e w' => e = .returned (.tuple #[.agg #[.int .i64 0, .int .i64 0, .int .i64 d], .int .i64 0]) ∧ Below w.heap.size w w' := by
  go_enter Tryz.func95, Tryz.ntmps95
  go_wp2_with fail
  refine (SJ.out _).mono ?_; rintro e v1 ⟨rfl, rfl⟩
  go_wp2_with fail
  refine (CD.out _).mono ?_; rintro e v2 ⟨rfl, rfl⟩
  go_wp2_with fail
  refine bodyPost_ret (v := .tuple #[.agg #[.int .i64 0, .int .i64 0, .int .i64 d], .int .i64 0]) (by simp [results, Tryz.results95, go_sem]) rfl ⟨rfl, ?_⟩
  exact gr0
set_option maxHeartbeats 2000000 in
set_option maxRecDepth 100000 in
theorem rr_lb_s (s A B E : ByteArray) (j k d q c : Int) (w : World) (lm : (s.size : Int) ≤ 1000)
    (j0 : decide (0 ≤ j) = false)
    (SJ : Hid (∀ W, Calls Tryz.prog 145 #[.string s] W fun e w' => e = .returned (.int .i64 j) ∧ W = w'))
    (n1 : s.toList.isEmpty = false) (n2 : ¬ s.toList = [])
    (I0 : ∀ W, Sem.run Tryz.prog (Instr.index 9 (.string s) (.int .i64 0)) W = .ok (.int .u8 c) W)
    (hz : 0 < (s.size : Int))
    (c1 : (c == 45) = false) (c2 : 48 ≤ c) (c3 : decide (c ≤ 57) = false)
    (h4 : (s.size : Int) < 4)
    : Calls Tryz.prog 95 #[.string s] w fun e w' => e = .returned (.tuple #[.agg #[.int .i64 0, .int .i64 0, .int .i64 0], .int .i64 4]) ∧ Below w.heap.size w w' := by
  go_enter Tryz.func95, Tryz.ntmps95
  go_wp2_with fail
  refine (SJ.out _).mono ?_; rintro e v1 ⟨rfl, rfl⟩
  go_wp2_with fail
  refine bodyPost_ret (v := .tuple #[.agg #[.int .i64 0, .int .i64 0, .int .i64 0], .int .i64 4]) (by simp [results, Tryz.results95, go_sem]) rfl ⟨rfl, ?_⟩
  exact gr0
set_option maxHeartbeats 2000000 in
set_option maxRecDepth 100000 in
theorem rr_lb_f (s A B E : ByteArray) (j k d q c : Int) (w : World) (lm : (s.size : Int) ≤ 1000)
    (j0 : decide (0 ≤ j) = false)
    (SJ : Hid (∀ W, Calls Tryz.prog 145 #[.string s] W fun e w' => e = .returned (.int .i64 j) ∧ W = w'))
    (n1 : s.toList.isEmpty = false) (n2 : ¬ s.toList = [])
    (I0 : ∀ W, Sem.run Tryz.prog (Instr.index 9 (.string s) (.int .i64 0)) W = .ok (.int .u8 c) W)
    (hz : 0 < (s.size : Int))
    (c1 : (c == 45) = false) (c2 : 48 ≤ c) (c3 : decide (c ≤ 57) = false)
    (h4 : decide ((s.size : Int) < 4) = false) (h5 : 4 ≤ (s.size : Int))
    (SE : ∀ W, Sem.run Tryz.prog (Instr.slice 9 (.string s) none (some (.int .i64 4)) none) W = .ok (.string E) W)
    (CS : Hid (∀ W, Calls Tryz.prog 143 #[.string E, .string ⟨#[108, 97, 115, 116]⟩] W fun e w' => e = .returned (.bool false) ∧ Below W.heap.size W w'))
    : Calls Tryz.prog 95 #[.string s] w fun e w' => e = .returned (.tuple #[.agg #[.int .i64 0, .int .i64 0, .int .i64 0], .int .i64 4]) ∧ Below w.heap.size w w' := by
  go_enter Tryz.func95, Tryz.ntmps95
  go_wp2_with fail
  refine (SJ.out _).mono ?_; rintro e v1 ⟨rfl, rfl⟩
  go_wp2_with fail
  refine (CS.out _).mono ?_; rintro e w1 ⟨rfl, b1⟩
  have d1 : Below w.heap.size w w1 := below_step gr0 b1
  have B1 := Lib.hid d1
  have R1 : Bk3 w1 (w.heap.size) (.int .i64 0) (.int .i64 0) (.int .i64 0) := by refine Bk3.of b1 (by simp <;> omega) (by intro j; simp [go_sem]) ?_ ?_ ?_ <;> simp [go_sem]
  clear b1 d1
  have tx := R1; obtain ⟨cR_b, cR_f, cR_0, cR_1, cR_2⟩ := tx
  go_wp2_with fail
  refine bodyPost_ret (v := .tuple #[.agg #[.int .i64 0, .int .i64 0, .int .i64 0], .int .i64 4]) (by simp [results, Tryz.results95, go_sem, cR_b, cR_f, cR_0, cR_1, cR_2]) rfl ⟨rfl, ?_⟩
  clear cR_b cR_f cR_0 cR_1 cR_2
  exact (grB B1)
set_option maxHeartbeats 2000000 in
set_option maxRecDepth 100000 in
theorem rr_lb_n (s A B E : ByteArray) (j k d q c : Int) (w : World) (lm : (s.size : Int) ≤ 1000)
    (j0 : decide (0 ≤ j) = false)
    (SJ : Hid (∀ W, Calls Tryz.prog 145 #[.string s] W fun e w' => e = .returned (.int .i64 j) ∧ W = w'))
    (n1 : s.toList.isEmpty = false) (n2 : ¬ s.toList = [])
    (I0 : ∀ W, Sem.run Tryz.prog (Instr.index 9 (.string s) (.int .i64 0)) W = .ok (.int .u8 c) W)
    (hz : 0 < (s.size : Int))
    (c1 : (c == 45) = false) (c2 : 48 ≤ c) (c3 : decide (c ≤ 57) = false)
    (h4 : decide ((s.size : Int) < 4) = false) (h5 : 4 ≤ (s.size : Int))
    (SE : ∀ W, Sem.run Tryz.prog (Instr.slice 9 (.string s) none (some (.int .i64 4)) none) W = .ok (.string E) W)
    (CS : Hid (∀ W, Calls Tryz.prog 143 #[.string E, .string ⟨#[108, 97, 115, 116]⟩] W fun e w' => e = .returned (.bool true) ∧ Below W.heap.size W w'))
    (SA : ∀ W, Sem.run Tryz.prog (Instr.slice 9 (.string s) (some (.int .i64 4)) none none) W = .ok (.string A) W)
    (CW : Hid (∀ W, Calls Tryz.prog 146 #[.string A] W fun e w' => e = .returned (.tuple #[.int .i64 k, .int .i64 q]) ∧ Below W.heap.size W w'))
    (q1 : (q == 0) = false) (q2 : (q != 0) = true)
    : Calls Tryz.prog 95 #[.string s] w fun e w' => e = .returned (.tuple #[.agg #[.int .i64 0, .int .i64 0, .int .i64 0], .int .i64 q]) ∧ Below w.heap.size w w' := by
  go_enter Tryz.func95, Tryz.ntmps95
  go_wp2_with fail
  refine (SJ.out _).mono ?_; rintro e v1 ⟨rfl, rfl⟩
  go_wp2_with fail
  refine (CS.out _).mono ?_; rintro e w1 ⟨rfl, b1⟩
  have d1 : Below w.heap.size w w1 := below_step gr0 b1
  have B1 := Lib.hid d1
  have R1 : Bk3 w1 (w.heap.size) (.int .i64 0) (.int .i64 0) (.int .i64 0) := by refine Bk3.of b1 (by simp <;> omega) (by intro j; simp [go_sem]) ?_ ?_ ?_ <;> simp [go_sem]
  clear b1 d1
  have tx := R1; obtain ⟨cR_b, cR_f, cR_0, cR_1, cR_2⟩ := tx
  go_wp2_with fail
  clear cR_b cR_f cR_0 cR_1 cR_2
  refine (CW.out _).mono ?_; rintro e w2 ⟨rfl, b2⟩
  have d2 : Below w1.heap.size w1 w2 := below_step gr0 b2
  have B2 := Lib.hid (below_step B1.out d2)
  have R2 := R1.keep d2
  clear R1 b2 d2 B1
  have tx := R2; obtain ⟨cR_b, cR_f, cR_0, cR_1, cR_2⟩ := tx
  go_wp2_with fail
  refine bodyPost_ret (v := .tuple #[.agg #[.int .i64 0, .int .i64 0, .int .i64 0], .int .i64 q]) (by simp [results, Tryz.results95, go_sem, cR_b, cR_f, cR_0, cR_1, cR_2]) rfl ⟨rfl, ?_⟩
  clear cR_b cR_f cR_0 cR_1 cR_2
  exact (grB B2)
set_option maxHeartbeats 2000000 in
set_option maxRecDepth 100000 in
theorem rr_lb_y (s A B E : ByteArray) (j k d q c : Int) (w : World) (lm : (s.size : Int) ≤ 1000)
    (j0 : decide (0 ≤ j) = false)
    (SJ : Hid (∀ W, Calls Tryz.prog 145 #[.string s] W fun e w' => e = .returned (.int .i64 j) ∧ W = w'))
    (n1 : s.toList.isEmpty = false) (n2 : ¬ s.toList = [])
    (I0 : ∀ W, Sem.run Tryz.prog (Instr.index 9 (.string s) (.int .i64 0)) W = .ok (.int .u8 c) W)
    (hz : 0 < (s.size : Int))
    (c1 : (c == 45) = false) (c2 : 48 ≤ c) (c3 : decide (c ≤ 57) = false)
    (h4 : decide ((s.size : Int) < 4) = false) (h5 : 4 ≤ (s.size : Int))
    (SE : ∀ W, Sem.run Tryz.prog (Instr.slice 9 (.string s) none (some (.int .i64 4)) none) W = .ok (.string E) W)
    (CS : Hid (∀ W, Calls Tryz.prog 143 #[.string E, .string ⟨#[108, 97, 115, 116]⟩] W fun e w' => e = .returned (.bool true) ∧ Below W.heap.size W w'))
    (SA : ∀ W, Sem.run Tryz.prog (Instr.slice 9 (.string s) (some (.int .i64 4)) none none) W = .ok (.string A) W)
    (CW : Hid (∀ W, Calls Tryz.prog 146 #[.string A] W fun e w' => e = .returned (.tuple #[.int .i64 k, .int .i64 0]) ∧ Below W.heap.size W w'))
    : Calls Tryz.prog 95 #[.string s] w fun e w' => e = .returned (.tuple #[.agg #[.int .i64 1, .int .i64 k, .int .i64 0], .int .i64 0]) ∧ Below w.heap.size w w' := by
  go_enter Tryz.func95, Tryz.ntmps95
  go_wp2_with fail
  refine (SJ.out _).mono ?_; rintro e v1 ⟨rfl, rfl⟩
  go_wp2_with fail
  refine (CS.out _).mono ?_; rintro e w1 ⟨rfl, b1⟩
  have d1 : Below w.heap.size w w1 := below_step gr0 b1
  have B1 := Lib.hid d1
  have R1 : Bk3 w1 (w.heap.size) (.int .i64 0) (.int .i64 0) (.int .i64 0) := by refine Bk3.of b1 (by simp <;> omega) (by intro j; simp [go_sem]) ?_ ?_ ?_ <;> simp [go_sem]
  clear b1 d1
  have tx := R1; obtain ⟨cR_b, cR_f, cR_0, cR_1, cR_2⟩ := tx
  go_wp2_with fail
  clear cR_b cR_f cR_0 cR_1 cR_2
  refine (CW.out _).mono ?_; rintro e w2 ⟨rfl, b2⟩
  have d2 : Below w1.heap.size w1 w2 := below_step gr0 b2
  have B2 := Lib.hid (below_step B1.out d2)
  have R2 := R1.keep d2
  clear R1 b2 d2 B1
  have tx := R2; obtain ⟨cR_b, cR_f, cR_0, cR_1, cR_2⟩ := tx
  go_wp2_with fail
  refine bodyPost_ret (v := .tuple #[.agg #[.int .i64 1, .int .i64 k, .int .i64 0], .int .i64 0]) (by simp [results, Tryz.results95, go_sem, cR_b, cR_f, cR_0, cR_1, cR_2]) rfl ⟨rfl, ?_⟩
  clear cR_b cR_f cR_0 cR_1 cR_2
  exact (grB B2)
set_option maxHeartbeats 2000000 in
set_option maxRecDepth 100000 in
theorem rr_nil (w : World) : Calls Tryz.prog 95 #[.string ⟨#[]⟩] w fun e w' => e = .returned (.tuple #[.agg #[.int .i64 0, .int .i64 0, .int .i64 0], .int .i64 4]) ∧ Below w.heap.size w w' := by
  have SJ := Lib.hid (fun W => rsign_any ⟨#[]⟩ W (by decide))
  go_enter Tryz.func95, Tryz.ntmps95
  go_wp2_with fail
  refine (SJ.out _).mono ?_; rintro e v1 ⟨rfl, rfl⟩
  go_wp2_with fail
  refine bodyPost_ret (v := .tuple #[.agg #[.int .i64 0, .int .i64 0, .int .i64 0], .int .i64 4]) (by simp [results, Tryz.results95, go_sem]) rfl ⟨rfl, ?_⟩
  exact gr0
end
section
open Go.RowKit Go.Sort
namespace Ds
theorem cont62 (c : UInt8) : ([60, 62] : List UInt8).contains c = decide (c = 60 ∨ c = 62) := by
  by_cases h1 : c = 60
  · subst h1; rfl
  · by_cases h2 : c = 62
    · subst h2; rfl
    · simp [h1, h2]
theorem ix_at : ∀ l : List UInt8, 0 ≤ Lib.indexAny l [60, 62] → ∃ (n : Nat) (c : UInt8) (r : List UInt8), Lib.indexAny l [60, 62] = n ∧ l.drop n = c :: r ∧ (c = 60 ∨ c = 62)
  | [], h => by unfold Lib.indexAny at h; exact absurd h (by decide)
  | c :: r, h => by
    have hg := Lib.indexAny_ge [60, 62] r
    have ih := ix_at r
    have e : Lib.indexAny (c :: r) [60, 62] = if c = 60 ∨ c = 62 then 0 else if Lib.indexAny r [60, 62] = -1 then -1 else Lib.indexAny r [60, 62] + 1 := by
      conv => lhs; unfold Lib.indexAny
      rw [cont62]; simp
    rw [e] at h ⊢
    by_cases hc : c = 60 ∨ c = 62
    · rw [if_pos hc]; exact ⟨0, c, r, rfl, rfl, hc⟩
    · rw [if_neg hc] at h ⊢
      by_cases hx : Lib.indexAny r [60, 62] = -1
      · rw [if_pos hx] at h; exact absurd h (by decide)
      · rw [if_neg hx]
        obtain ⟨n, c2, r2, e2, hd, h2⟩ := ih (by omega)
        exact ⟨n + 1, c2, r2, by rw [e2]; rfl, hd, h2⟩
theorem drop_get {l : List UInt8} {n : Nat} {c : UInt8} {r : List UInt8} (h : l.drop n = c :: r) : l[n]? = some c ∧ l.drop (n + 1) = r := by
  constructor
  · have := congrArg (fun x => x[0]?) h
    simpa using this
  · have : (l.drop n).drop 1 = r := by rw [h]; rfl
    rwa [List.drop_drop] at this
theorem ix_run (s : ByteArray) (k : Nat) (c : UInt8) (i : Int) (hi : i = k) (h : s.data.toList[k]? = some c) (W : World) : Sem.run Tryz.prog (Instr.index 9 (.string s) (.int .i64 i)) W = .ok (.int .u8 c.toNat) W := by
  subst hi
  obtain ⟨hk, e⟩ := List.getElem?_eq_some_iff.1 h
  rw [ab_len] at hk
  have := rx_ix s k hk W
  rw [show s[k] = c from e] at this
  exact this
theorem st_tab : ∀ n : Fin 256, (Num.dig (UInt8.ofNat n.val) || decide (n.val = 45)) = Yr.starts.contains (UInt8.ofNat n.val) := by decide +kernel
theorem st_dig (c : UInt8) : Yr.starts.contains c = (Num.dig c || decide (c.toNat = 45)) := by
  have := st_tab ⟨c.toNat, c.toNat_lt⟩
  rw [show UInt8.ofNat c.toNat = c from UInt8.ofNat_toNat] at this
  exact this.symm
theorem ws_short {a : List UInt8} (c : UInt8) : ws a [c] = (0, 0, 0, 4) := by
  unfold ws Lib.hasPrefix
  simp [List.isPrefixOf]
theorem ws_bad {a : List UInt8} {c d : UInt8} {r : List UInt8} (h : d ≠ 61) : ws a (c :: d :: r) = (0, 0, 0, 4) := by
  unfold ws Lib.hasPrefix
  have : ((61 : UInt8) == d) = false := beq_eq_false_iff_ne.2 (fun e => h e.symm)
  simp [List.isPrefixOf, this]
theorem ws_62 {a r : List UInt8} : ws a (62 :: 61 :: r) = sw 2 a r := rfl
theorem ws_60 {a r : List UInt8} : ws a (60 :: 61 :: r) = sw 3 a r := rfl
end Ds
def AnsR (r : Int × Int × Int × Int) (e : Ending) : Prop := e = .returned (.tuple #[.agg #[.int .i64 r.1, .int .i64 r.2.1, .int .i64 r.2.2.1], .int .i64 r.2.2.2])
theorem rdread_sign (s : ByteArray) (w : World) (hs : s.size ≤ 1000) (h : 0 ≤ Lib.indexAny s.data.toList [60, 62]) :
    Calls Tryz.prog 95 #[.string s] w fun e w' => AnsR (Ds.rd s.data.toList) e ∧ Below w.heap.size w w' := by
  have SJ := Lib.hid (fun W => rsign_any s W hs)
  unfold Ds.rd
  rw [if_pos h]
  obtain ⟨n, c, r, ej, hd, hc⟩ := Ds.ix_at _ h
  have hl := ab_len s
  rw [ej] at SJ ⊢
  rw [Int.toNat_natCast, hd]
  obtain ⟨g0, d1⟩ := Ds.drop_get hd
  have hn : n < s.size := by
    have := (List.getElem?_eq_some_iff.1 g0).1
    omega
  have lm : (s.size : Int) ≤ 1000 := by omega
  have I0 := Ds.ix_run s n c (n : Int) rfl g0
  have SA := Ds.hd_run s (n : Int) (by omega) (by omega)
  have eA : (s.extract 0 (n : Int).toNat).data.toList = s.data.toList.take n := by rw [Int.toNat_natCast]; exact Ds.hd_l s n
  have mA : (s.extract 0 (n : Int).toNat).size ≤ maxLen := by rw [ByteArray.size_extract]; unfold maxLen; omega
  have CW := Lib.hid (fun W => weekdayr_any (s.extract 0 (n : Int).toNat) W mA)
  rw [eA] at CW
  cases r with
  | nil =>
    have hz : s.size = n + 1 := by
      have := congrArg List.length d1
      rw [List.length_drop] at this
      simp at this
      omega
    rw [Ds.ws_short]
    exact (rr_short s s s s (n : Int) 0 0 0 0 w lm (by omega) (by omega) SJ (by omega)).mono fun _ _ ⟨h, b⟩ => ⟨h, b⟩
  | cons d r =>
    obtain ⟨g1, d2⟩ := Ds.drop_get d1
    have hn1 : n + 1 < s.size := by
      have := (List.getElem?_eq_some_iff.1 g1).1
      omega
    have I1 := Ds.ix_run s (n + 1) d ((n : Int) + 1) rfl g1
    have jh : decide ((s.size : Int) ≤ (n : Int) + 1) = false := decide_eq_false (by omega)
    by_cases hd6 : d = 61
    · subst hd6
      have SB := Ds.tl_run s ((n : Int) + 2) (by omega) (by omega)
      have e2 : ((n : Int) + 2).toNat = n + 2 := by omega
      have eB : (s.extract ((n : Int) + 2).toNat s.size).data.toList = r := by rw [e2, Ds.tl_l]; exact d2
      have CD := Lib.hid (fun W => rday_any (s.extract ((n : Int) + 2).toNat s.size) W (by rw [ByteArray.size_extract]; omega))
      rw [eB] at CD
      generalize s.extract 0 (n : Int).toNat = A at *
      generalize s.extract ((n : Int) + 2).toNat s.size = B at *
      have fw : ∀ l, Ds.wd l = Wd.mat l Wd.days := fun _ => rfl
      rw [← fw] at CW
      rcases hc with rfl | rfl
      · rw [Ds.ws_60]
        by_cases hw : (Ds.wd (s.data.toList.take n)).2 = 0
        · rw [hw] at CW
          by_cases hy : (Ds.day r).2 = 0
          · rw [hy] at CD
            rw [Ds.sw_y hw hy]
            exact (rr_y60 s A B s (n : Int) _ _ 0 0 w lm (by omega) (by omega) SJ jh I1 I0 SA SB CW CD).mono fun _ _ ⟨h, b⟩ => ⟨h, b⟩
          · have z : (Ds.day r).1 = (Ds.day r).1 := rfl
            rw [Ds.sw_d hw hy]
            exact (rr_d60 s A B s (n : Int) _ _ _ 0 w lm (by omega) (by omega) SJ jh I1 I0 SA SB CW CD (beq_eq_false_iff_ne.2 hy) (bne_iff_ne.2 hy)).mono fun _ _ ⟨h, b⟩ => ⟨h, b⟩
        · rw [Ds.sw_w hw]
          exact (rr_w60 s A B s (n : Int) _ 0 _ 0 w lm (by omega) (by omega) SJ jh I1 I0 SA CW (beq_eq_false_iff_ne.2 hw) (bne_iff_ne.2 hw)).mono fun _ _ ⟨h, b⟩ => ⟨h, b⟩
      · rw [Ds.ws_62]
        by_cases hw : (Ds.wd (s.data.toList.take n)).2 = 0
        · rw [hw] at CW
          by_cases hy : (Ds.day r).2 = 0
          · rw [hy] at CD
            rw [Ds.sw_y hw hy]
            exact (rr_y62 s A B s (n : Int) _ _ 0 0 w lm (by omega) (by omega) SJ jh I1 I0 SA SB CW CD).mono fun _ _ ⟨h, b⟩ => ⟨h, b⟩
          · rw [Ds.sw_d hw hy]
            exact (rr_d62 s A B s (n : Int) _ _ _ 0 w lm (by omega) (by omega) SJ jh I1 I0 SA SB CW CD (beq_eq_false_iff_ne.2 hy) (bne_iff_ne.2 hy)).mono fun _ _ ⟨h, b⟩ => ⟨h, b⟩
        · rw [Ds.sw_w hw]
          exact (rr_w62 s A B s (n : Int) _ 0 _ 0 w lm (by omega) (by omega) SJ jh I1 I0 SA CW (beq_eq_false_iff_ne.2 hw) (bne_iff_ne.2 hw)).mono fun _ _ ⟨h, b⟩ => ⟨h, b⟩
    · rw [Ds.ws_bad hd6]
      have hne : ¬ ((d.toNat : Nat) : Int) = 61 := fun e => hd6 (by
        have e2 : d.toNat = 61 := by omega
        rw [← show UInt8.ofNat d.toNat = d from UInt8.ofNat_toNat, e2]; rfl)
      exact (rr_bad s s s s (n : Int) 0 0 0 _ w lm (by omega) (by omega) SJ jh I1 (beq_eq_false_iff_ne.2 hne) (bne_iff_ne.2 hne)).mono fun _ _ ⟨h, b⟩ => ⟨h, b⟩
theorem rdread_num (s : ByteArray) (w : World) (hs : s.size ≤ 1000) (h : ¬ 0 ≤ Lib.indexAny s.data.toList [60, 62]) (hz : 0 < s.size) :
    Calls Tryz.prog 95 #[.string s] w fun e w' => AnsR (Ds.rd s.data.toList) e ∧ Below w.heap.size w w' := by
  have SJ := Lib.hid (fun W => rsign_any s W hs)
  unfold Ds.rd
  rw [if_neg h]
  have j0 : decide (0 ≤ Lib.indexAny s.data.toList [60, 62]) = false := decide_eq_false h
  generalize Lib.indexAny s.data.toList [60, 62] = j at SJ j0
  have lm : (s.size : Int) ≤ 1000 := by omega
  have hz2 : 0 < (s.size : Int) := by omega
  obtain ⟨r, hr, -⟩ := dhead hz
  obtain ⟨n1, n2⟩ := dne hz
  have e : Yr.isN s.data.toList = (Num.dig s[0] || decide (s[0].toNat = 45)) := by
    rw [hr]; exact Ds.st_dig s[0]
  have I0 := fun W => rn_ix s 0 hz W
  have hd := Num.rn_dig s[0]
  rw [hd] at e
  obtain ⟨c, hc⟩ : ∃ c : Int, (s[0].toNat : Int) = c := ⟨_, rfl⟩
  have h45 : decide (s[0].toNat = 45) = decide (c = 45) := by rw [← hc]; exact decide_eq_decide.2 (by omega)
  rw [h45, hc] at e
  have I0 : ∀ W, Sem.run Tryz.prog (Instr.index 9 (.string s) (.int .i64 0)) W = .ok (.int .u8 c) W := fun W => by rw [← hc]; exact I0 W
  clear hd h45 hr hc
  have CD := Lib.hid (fun W => rday_any s W hs)
  have NO : (Yr.isN s.data.toList = false) → ((c == 45) = false ∧ decide (48 ≤ c) = false) ∨ ((c == 45) = false ∧ 48 ≤ c ∧ decide (c ≤ 57) = false) := by
    intro hn
    rw [e] at hn
    by_cases h1 : c = 45
    · rw [decide_eq_true h1] at hn; simp at hn
    · by_cases h2 : 48 ≤ c
      · by_cases h3 : c ≤ 57
        · rw [decide_eq_true h2, decide_eq_true h3] at hn; simp at hn
        · exact .inr ⟨beq_eq_false_iff_ne.2 h1, h2, decide_eq_false h3⟩
      · exact .inl ⟨beq_eq_false_iff_ne.2 h1, decide_eq_false h2⟩
  have YES : (Yr.isN s.data.toList = true) → ((c == 45) = true) ∨ ((c == 45) = false ∧ 48 ≤ c ∧ c ≤ 57) := by
    intro hn
    rw [e] at hn
    by_cases h1 : c = 45
    · exact .inl (by simpa using h1)
    · rw [decide_eq_false h1, Bool.or_false, Bool.and_eq_true, decide_eq_true_eq, decide_eq_true_eq] at hn
      exact .inr ⟨beq_eq_false_iff_ne.2 h1, hn.1, hn.2⟩
  clear e
  cases hn : Yr.isN s.data.toList
  · rw [if_neg (by decide)]
    have N := NO hn
    clear NO YES
    by_cases h4 : 4 ≤ s.size
    · have k4 : decide ((s.size : Int) < 4) = false := decide_eq_false (by omega)
      have k5 : (4 : Int) ≤ (s.size : Int) := by omega
      have SE := Ds.hd_run s 4 (by decide) k5
      have eE : (s.extract 0 (4 : Int).toNat).data.toList = s.data.toList.take 4 := Ds.hd_l s 4
      have CS := Lib.hid (fun W => wsamer_any (s.extract 0 (4 : Int).toNat) ⟨#[108, 97, 115, 116]⟩ W (by rw [ByteArray.size_extract]; unfold maxLen; omega) (by decide))
      have CS : Hid (∀ W, Calls Tryz.prog 143 #[.string (s.extract 0 (4 : Int).toNat), .string ⟨#[108, 97, 115, 116]⟩] W fun e w' => e = .returned (.bool (Wd.same (s.data.toList.take 4) [108, 97, 115, 116])) ∧ Below W.heap.size W w') := fun W => (CS.out W).mono fun _ _ ⟨h, j, b⟩ => ⟨by rw [← eE]; exact h, by rw [b]; exact below_drewN (Below.refl _ _) _⟩
      have eb : Ds.bl s.data.toList = Wd.same (s.data.toList.take 4) [108, 97, 115, 116] := by
        unfold Ds.bl; rw [ab_len, decide_eq_true h4, Bool.true_and]
      rw [← eb] at CS
      have SA := Ds.tl_run s 4 (by decide) k5
      have eA : (s.extract (4 : Int).toNat s.size).data.toList = s.data.toList.drop 4 := Ds.tl_l s 4
      have CW := Lib.hid (fun W => weekdayr_any (s.extract (4 : Int).toNat s.size) W (by rw [ByteArray.size_extract]; unfold maxLen; omega))
      rw [eA] at CW
      have fw : ∀ l, Ds.wd l = Wd.mat l Wd.days := fun _ => rfl
      rw [← fw] at CW
      generalize s.extract 0 (4 : Int).toNat = E at *
      generalize s.extract (4 : Int).toNat s.size = A at *
      cases hb : Ds.bl s.data.toList
      · rw [hb] at CS
        rw [if_neg (by decide)]
        rcases N with ⟨a, b⟩ | ⟨a, b, d⟩
        · exact (rr_la_f s s s E j 0 0 0 c w lm j0 SJ n1 n2 I0 hz2 a b k4 k5 SE CS).mono fun _ _ ⟨h, b⟩ => ⟨h, b⟩
        · exact (rr_lb_f s s s E j 0 0 0 c w lm j0 SJ n1 n2 I0 hz2 a b d k4 k5 SE CS).mono fun _ _ ⟨h, b⟩ => ⟨h, b⟩
      · rw [hb] at CS
        rw [if_pos rfl]
        by_cases hw : (Ds.wd (s.data.toList.drop 4)).2 = 0
        · rw [if_pos hw]
          rw [hw] at CW
          rcases N with ⟨a, b⟩ | ⟨a, b, d⟩
          · exact (rr_la_y s A s E j _ 0 0 c w lm j0 SJ n1 n2 I0 hz2 a b k4 k5 SE CS SA CW).mono fun _ _ ⟨h, b⟩ => ⟨h, b⟩
          · exact (rr_lb_y s A s E j _ 0 0 c w lm j0 SJ n1 n2 I0 hz2 a b d k4 k5 SE CS SA CW).mono fun _ _ ⟨h, b⟩ => ⟨h, b⟩
        · rw [if_neg hw]
          rcases N with ⟨a, b⟩ | ⟨a, b, d⟩
          · exact (rr_la_n s A s E j _ 0 _ c w lm j0 SJ n1 n2 I0 hz2 a b k4 k5 SE CS SA CW (beq_eq_false_iff_ne.2 hw) (bne_iff_ne.2 hw)).mono fun _ _ ⟨h, b⟩ => ⟨h, b⟩
          · exact (rr_lb_n s A s E j _ 0 _ c w lm j0 SJ n1 n2 I0 hz2 a b d k4 k5 SE CS SA CW (beq_eq_false_iff_ne.2 hw) (bne_iff_ne.2 hw)).mono fun _ _ ⟨h, b⟩ => ⟨h, b⟩
    · have hb : Ds.bl s.data.toList = false := by unfold Ds.bl; rw [ab_len, decide_eq_false h4, Bool.false_and]
      rw [hb, if_neg (by decide)]
      rcases N with ⟨a, b⟩ | ⟨a, b, d⟩
      · exact (rr_la_s s s s s j 0 0 0 c w lm j0 SJ n1 n2 I0 hz2 a b (by omega)).mono fun _ _ ⟨h, b⟩ => ⟨h, b⟩
      · exact (rr_lb_s s s s s j 0 0 0 c w lm j0 SJ n1 n2 I0 hz2 a b d (by omega)).mono fun _ _ ⟨h, b⟩ => ⟨h, b⟩
  · rw [if_pos rfl]
    have Y := YES hn
    clear NO YES
    by_cases hy : (Ds.day s.data.toList).2 = 0
    · rw [if_pos hy]
      rw [hy] at CD
      rcases Y with a | ⟨a, b, d⟩
      · exact (rr_na_y s s s s j 0 _ 0 c w lm j0 SJ n1 n2 I0 hz2 a CD).mono fun _ _ ⟨h, b⟩ => ⟨h, b⟩
      · exact (rr_nb_y s s s s j 0 _ 0 c w lm j0 SJ n1 n2 I0 hz2 a b d CD).mono fun _ _ ⟨h, b⟩ => ⟨h, b⟩
    · rw [if_neg hy]
      rcases Y with a | ⟨a, b, d⟩
      · exact (rr_na_n s s s s j 0 _ _ c w lm j0 SJ n1 n2 I0 hz2 a CD (beq_eq_false_iff_ne.2 hy) (bne_iff_ne.2 hy)).mono fun _ _ ⟨h, b⟩ => ⟨h, b⟩
      · exact (rr_nb_n s s s s j 0 _ _ c w lm j0 SJ n1 n2 I0 hz2 a b d CD (beq_eq_false_iff_ne.2 hy) (bne_iff_ne.2 hy)).mono fun _ _ ⟨h, b⟩ => ⟨h, b⟩
theorem rdread_any (s : ByteArray) (w : World) (hs : s.size ≤ 1000) :
    Calls Tryz.prog 95 #[.string s] w fun e w' => AnsR (Ds.rd s.data.toList) e ∧ Below w.heap.size w w' := by
  by_cases h : 0 ≤ Lib.indexAny s.data.toList [60, 62]
  · exact rdread_sign s w hs h
  · rcases Nat.eq_zero_or_pos s.size with hz | hz
    · have hl : s.data.toList = [] := by rw [← List.length_eq_zero_iff, Num.rn_len]; exact hz
      have e : s = ⟨#[]⟩ := by apply ByteArray.ext; apply Array.toList_inj.1; rw [hl]
      subst e
      exact (rr_nil w).mono fun _ _ ⟨h, b⟩ => ⟨h, b⟩
    · exact rdread_num s w hs h hz
end
end Go.Proofs.YtpggfhmnhbnefaaGreatDoor
