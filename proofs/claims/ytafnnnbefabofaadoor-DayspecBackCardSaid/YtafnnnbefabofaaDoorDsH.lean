/- The walk of DayspecBack: whatever text and name, the law answers true; nothing old turns. -/
import Derived.Test.YtafnnnbefabofaaDoorDsG
set_option linter.unusedVariables false
set_option linter.unusedSimpArgs false
namespace Go.Proofs.YtafnnnbefabofaaDoor
open Go.RowKit Go.Sort

set_option maxHeartbeats 4000000 in
set_option maxRecDepth 100000 in
theorem dsback_long (s : ByteArray) (k wk d : Int) (w : World) (tp : TypeId) (p : Value) (L : Ds.Lv w tp p) (hl : 500 < s.size) :
    Calls Tryd.prog 11 #[.string s, .agg #[.int .i64 k, .int .i64 wk, .int .i64 d]] w fun e w' => e = .returned (.bool true) ∧ Below w.heap.size w w' := by
  have hl' : (500 : Int) < (s.size : Int) := by omega
  have LV := Lib.hid (fun W a => lives18 W tp p a)
  have L0 := Lib.hid L; clear L
  clear hl
  go_enter Tryd.func11, Tryd.ntmps11
  go_wp2_with fail
  refine (LV.out _ (L0.out.keep (by repeat (first | exact Below.refl _ _ | refine below_drewN ?_ _ | refine Below.drew ?_ | refine Below.setCell ?_ (by first | (simp; done) | (simp; omega) | omega) _ | refine Below.alloc ?_ (by first | (simp; done) | (simp; omega) | omega) _)))).mono ?_; rintro e w1 ⟨rfl, b1⟩
  have d1 : Below w.heap.size w w1 := below_step (by repeat (first | exact Below.refl _ _ | refine below_drewN ?_ _ | refine Below.drew ?_ | refine Below.setCell ?_ (by first | (simp; done) | (simp; omega) | omega) _ | refine Below.alloc ?_ (by first | (simp; done) | (simp; omega) | omega) _)) b1
  have B1 := Lib.hid d1
  have X1 : Bk3 w1 (w.heap.size) (.int .i64 k) (.int .i64 wk) (.int .i64 d) := Bk3.of b1 (by simp <;> omega) (by intro j; simp [go_sem]) (by simp [go_sem]) (by simp [go_sem]) (by simp [go_sem])
  clear b1 d1
  have cX_b := X1.hb
  have cX_f := X1.fz
  have cX_0 := X1.k0
  have cX_1 := X1.k1
  have cX_2 := X1.k2
  go_wp2_with fail
  clear cX_b cX_f cX_0 cX_1 cX_2
  go_ret
  exact ⟨rfl, (by have hz := B1.out.size; repeat (first | exact B1.out | refine below_drewN ?_ _ | refine Below.drew ?_ | refine Below.setCell ?_ (by first | omega | (simp; done) | (simp; omega)) _ | refine Below.alloc ?_ (by first | omega | (simp; done) | (simp; omega)) _))⟩
set_option maxHeartbeats 4000000 in
set_option maxRecDepth 100000 in
theorem dsback_yy (s t u : ByteArray) (k wk d y0 y1 y2 q : Int) (w : World) (tp : TypeId) (p : Value) (L : Ds.Lv w tp p) (hl : (s.size : Int) ≤ 500)
    (CT : Hid (∀ W, Ds.Lv W tp p → Calls Tryd.prog 75 #[.agg #[.int .i64 k, .int .i64 wk, .int .i64 d]] W fun e w' => e = .returned (.tuple #[.string t, .int .i64 0]) ∧ Below W.heap.size W w'))
    (CG : Hid (∀ W, Calls Tryd.prog 76 #[.agg #[.int .i64 k, .int .i64 wk, .int .i64 d]] W fun e w' => e = .returned (.bool true) ∧ Below W.heap.size W w'))
    (CX : Hid (∀ W, Ds.Lv W tp p → Calls Tryd.prog 77 #[.string t] W fun e w' => e = .returned (.tuple #[.agg #[.int .i64 k, .int .i64 wk, .int .i64 d], .int .i64 0]) ∧ Below W.heap.size W w'))
    (CY : Hid (∀ W, Ds.Lv W tp p → Calls Tryd.prog 77 #[.string s] W fun e w' => e = .returned (.tuple #[.agg #[.int .i64 y0, .int .i64 y1, .int .i64 y2], .int .i64 0]) ∧ Below W.heap.size W w')) (CU : Hid (∀ W, Ds.Lv W tp p → Calls Tryd.prog 75 #[.agg #[.int .i64 y0, .int .i64 y1, .int .i64 y2]] W fun e w' => e = .returned (.tuple #[.string u, .int .i64 0]) ∧ Below W.heap.size W w')) (CZ : Hid (∀ W, Ds.Lv W tp p → Calls Tryd.prog 77 #[.string u] W fun e w' => e = .returned (.tuple #[.agg #[.int .i64 y0, .int .i64 y1, .int .i64 y2], .int .i64 0]) ∧ Below W.heap.size W w')) (CH : Hid (∀ W, Calls Tryd.prog 76 #[.agg #[.int .i64 y0, .int .i64 y1, .int .i64 y2]] W fun e w' => e = .returned (.bool true) ∧ Below W.heap.size W w')) :
    Calls Tryd.prog 11 #[.string s, .agg #[.int .i64 k, .int .i64 wk, .int .i64 d]] w fun e w' => e = .returned (.bool true) ∧ Below w.heap.size w w' := by
  have LV := Lib.hid (fun W a => lives18 W tp p a)
  have L0 := Lib.hid L; clear L
  go_enter Tryd.func11, Tryd.ntmps11
  go_wp2_with fail
  refine (LV.out _ (L0.out.keep (by repeat (first | exact Below.refl _ _ | refine below_drewN ?_ _ | refine Below.drew ?_ | refine Below.setCell ?_ (by first | (simp; done) | (simp; omega) | omega) _ | refine Below.alloc ?_ (by first | (simp; done) | (simp; omega) | omega) _)))).mono ?_; rintro e w1 ⟨rfl, b1⟩
  have d1 : Below w.heap.size w w1 := below_step (by repeat (first | exact Below.refl _ _ | refine below_drewN ?_ _ | refine Below.drew ?_ | refine Below.setCell ?_ (by first | (simp; done) | (simp; omega) | omega) _ | refine Below.alloc ?_ (by first | (simp; done) | (simp; omega) | omega) _)) b1
  have B1 := Lib.hid d1
  have X1 : Bk3 w1 (w.heap.size) (.int .i64 k) (.int .i64 wk) (.int .i64 d) := Bk3.of b1 (by simp <;> omega) (by intro j; simp [go_sem]) (by simp [go_sem]) (by simp [go_sem]) (by simp [go_sem])
  clear b1 d1
  have cX_b := X1.hb
  have cX_f := X1.fz
  have cX_0 := X1.k0
  have cX_1 := X1.k1
  have cX_2 := X1.k2
  go_wp2_with fail
  clear cX_b cX_f cX_0 cX_1 cX_2
  refine (CT.out _ (L0.out.keep (below_step B1.out (by repeat (first | exact Below.refl _ _ | refine below_drewN ?_ _ | refine Below.drew ?_ | refine Below.setCell ?_ (by first | (simp; done) | (simp; omega) | omega) _ | refine Below.alloc ?_ (by first | (simp; done) | (simp; omega) | omega) _))))).mono ?_; rintro e w2 ⟨rfl, b2⟩
  have d2 : Below w1.heap.size w1 w2 := below_step (by repeat (first | exact Below.refl _ _ | refine below_drewN ?_ _ | refine Below.drew ?_ | refine Below.setCell ?_ (by first | (simp; done) | (simp; omega) | omega) _ | refine Below.alloc ?_ (by first | (simp; done) | (simp; omega) | omega) _)) b2
  have B2 := Lib.hid (below_step B1.out d2)
  have X2 := X1.keep d2
  clear X1 b2 d2 B1
  have cX_b := X2.hb
  have cX_f := X2.fz
  have cX_0 := X2.k0
  have cX_1 := X2.k1
  have cX_2 := X2.k2
  go_wp2_with fail
  clear cX_b cX_f cX_0 cX_1 cX_2
  refine (CG.out _).mono ?_; rintro e w3 ⟨rfl, b3⟩
  have d3 : Below w2.heap.size w2 w3 := below_step (by repeat (first | exact Below.refl _ _ | refine below_drewN ?_ _ | refine Below.drew ?_ | refine Below.setCell ?_ (by first | (simp; done) | (simp; omega) | omega) _ | refine Below.alloc ?_ (by first | (simp; done) | (simp; omega) | omega) _)) b3
  have B3 := Lib.hid (below_step B2.out d3)
  have X3 := X2.keep d3
  clear X2 b3 d3 B2
  have cX_b := X3.hb
  have cX_f := X3.fz
  have cX_0 := X3.k0
  have cX_1 := X3.k1
  have cX_2 := X3.k2
  go_wp2_with fail
  clear cX_b cX_f cX_0 cX_1 cX_2
  refine (CX.out _ (L0.out.keep (below_step B3.out (by repeat (first | exact Below.refl _ _ | refine below_drewN ?_ _ | refine Below.drew ?_ | refine Below.setCell ?_ (by first | (simp; done) | (simp; omega) | omega) _ | refine Below.alloc ?_ (by first | (simp; done) | (simp; omega) | omega) _))))).mono ?_; rintro e w4 ⟨rfl, b4⟩
  have d4 : Below w3.heap.size w3 w4 := below_step (by repeat (first | exact Below.refl _ _ | refine below_drewN ?_ _ | refine Below.drew ?_ | refine Below.setCell ?_ (by first | (simp; done) | (simp; omega) | omega) _ | refine Below.alloc ?_ (by first | (simp; done) | (simp; omega) | omega) _)) b4
  have B4 := Lib.hid (below_step B3.out d4)
  have X4 := X3.keep d4
  clear X3 b4 d4 B3
  have cX_b := X4.hb
  have cX_f := X4.fz
  have cX_0 := X4.k0
  have cX_1 := X4.k1
  have cX_2 := X4.k2
  go_wp2_with fail
  clear cX_b cX_f cX_0 cX_1 cX_2
  refine (CY.out _ (L0.out.keep (below_step B4.out (by repeat (first | exact Below.refl _ _ | refine below_drewN ?_ _ | refine Below.drew ?_ | refine Below.setCell ?_ (by first | (simp; done) | (simp; omega) | omega) _ | refine Below.alloc ?_ (by first | (simp; done) | (simp; omega) | omega) _))))).mono ?_; rintro e w5 ⟨rfl, b5⟩
  have d5 : Below w4.heap.size w4 w5 := below_step (by repeat (first | exact Below.refl _ _ | refine below_drewN ?_ _ | refine Below.drew ?_ | refine Below.setCell ?_ (by first | (simp; done) | (simp; omega) | omega) _ | refine Below.alloc ?_ (by first | (simp; done) | (simp; omega) | omega) _)) b5
  have B5 := Lib.hid (below_step B4.out d5)
  have X5 := X4.keep d5
  have aQ0 := B4.out.size
  have nQ0X := Nat.ne_of_lt X4.hb
  have oQ0X := Nat.ne_of_gt X4.hb
  have Q05 : Bk3 w5 (w4.heap.size) (.int .i64 k) (.int .i64 wk) (.int .i64 d) := Bk3.of b5 (by simp <;> omega) (by intro j; simp [go_sem]) (by simp [go_sem]) (by simp [go_sem]) (by simp [go_sem])
  clear X4 b5 d5 B4
  have cX_b := X5.hb
  have cX_f := X5.fz
  have cX_0 := X5.k0
  have cX_1 := X5.k1
  have cX_2 := X5.k2
  have cQ0_b := Q05.hb
  have cQ0_f := Q05.fz
  have cQ0_0 := Q05.k0
  have cQ0_1 := Q05.k1
  have cQ0_2 := Q05.k2
  go_wp2_with fail
  clear cX_b cX_f cX_0 cX_1 cX_2 cQ0_b cQ0_f cQ0_0 cQ0_1 cQ0_2
  refine (CU.out _ (L0.out.keep (below_step B5.out (by repeat (first | exact Below.refl _ _ | refine below_drewN ?_ _ | refine Below.drew ?_ | refine Below.setCell ?_ (by first | (simp; done) | (simp; omega) | omega) _ | refine Below.alloc ?_ (by first | (simp; done) | (simp; omega) | omega) _))))).mono ?_; rintro e w6 ⟨rfl, b6⟩
  have d6 : Below w5.heap.size w5 w6 := below_step (by repeat (first | exact Below.refl _ _ | refine below_drewN ?_ _ | refine Below.drew ?_ | refine Below.setCell ?_ (by first | (simp; done) | (simp; omega) | omega) _ | refine Below.alloc ?_ (by first | (simp; done) | (simp; omega) | omega) _)) b6
  have B6 := Lib.hid (below_step B5.out d6)
  have X6 := X5.keep d6
  have Q06 := Q05.keep d6
  have aQ1 := B5.out.size
  have nQ1X := Nat.ne_of_lt X5.hb
  have oQ1X := Nat.ne_of_gt X5.hb
  have nQ1Q0 := Nat.ne_of_lt Q05.hb
  have oQ1Q0 := Nat.ne_of_gt Q05.hb
  have Q16 : Bk3 w6 (w5.heap.size) (.int .i64 y0) (.int .i64 y1) (.int .i64 y2) := Bk3.of b6 (by simp <;> omega) (by intro j; simp [go_sem]) (by simp [go_sem]) (by simp [go_sem]) (by simp [go_sem])
  clear X5 Q05 b6 d6 B5
  have cX_b := X6.hb
  have cX_f := X6.fz
  have cX_0 := X6.k0
  have cX_1 := X6.k1
  have cX_2 := X6.k2
  have cQ0_b := Q06.hb
  have cQ0_f := Q06.fz
  have cQ0_0 := Q06.k0
  have cQ0_1 := Q06.k1
  have cQ0_2 := Q06.k2
  have cQ1_b := Q16.hb
  have cQ1_f := Q16.fz
  have cQ1_0 := Q16.k0
  have cQ1_1 := Q16.k1
  have cQ1_2 := Q16.k2
  go_wp2_with fail
  clear cX_b cX_f cX_0 cX_1 cX_2 cQ0_b cQ0_f cQ0_0 cQ0_1 cQ0_2 cQ1_b cQ1_f cQ1_0 cQ1_1 cQ1_2
  refine (CZ.out _ (L0.out.keep (below_step B6.out (by repeat (first | exact Below.refl _ _ | refine below_drewN ?_ _ | refine Below.drew ?_ | refine Below.setCell ?_ (by first | (simp; done) | (simp; omega) | omega) _ | refine Below.alloc ?_ (by first | (simp; done) | (simp; omega) | omega) _))))).mono ?_; rintro e w7 ⟨rfl, b7⟩
  have d7 : Below w6.heap.size w6 w7 := below_step (by repeat (first | exact Below.refl _ _ | refine below_drewN ?_ _ | refine Below.drew ?_ | refine Below.setCell ?_ (by first | (simp; done) | (simp; omega) | omega) _ | refine Below.alloc ?_ (by first | (simp; done) | (simp; omega) | omega) _)) b7
  have B7 := Lib.hid (below_step B6.out d7)
  have X7 := X6.keep d7
  have Q07 := Q06.keep d7
  have Q17 := Q16.keep d7
  clear X6 Q06 Q16 b7 d7 B6
  have cX_b := X7.hb
  have cX_f := X7.fz
  have cX_0 := X7.k0
  have cX_1 := X7.k1
  have cX_2 := X7.k2
  have cQ0_b := Q07.hb
  have cQ0_f := Q07.fz
  have cQ0_0 := Q07.k0
  have cQ0_1 := Q07.k1
  have cQ0_2 := Q07.k2
  have cQ1_b := Q17.hb
  have cQ1_f := Q17.fz
  have cQ1_0 := Q17.k0
  have cQ1_1 := Q17.k1
  have cQ1_2 := Q17.k2
  go_wp2_with fail
  clear cX_b cX_f cX_0 cX_1 cX_2 cQ0_b cQ0_f cQ0_0 cQ0_1 cQ0_2 cQ1_b cQ1_f cQ1_0 cQ1_1 cQ1_2
  refine (CH.out _).mono ?_; rintro e w8 ⟨rfl, b8⟩
  have d8 : Below w7.heap.size w7 w8 := below_step (by repeat (first | exact Below.refl _ _ | refine below_drewN ?_ _ | refine Below.drew ?_ | refine Below.setCell ?_ (by first | (simp; done) | (simp; omega) | omega) _ | refine Below.alloc ?_ (by first | (simp; done) | (simp; omega) | omega) _)) b8
  have B8 := Lib.hid (below_step B7.out d8)
  have X8 := X7.keep d8
  have Q08 := Q07.keep d8
  have Q18 := Q17.keep d8
  have aQ2 := B7.out.size
  have nQ2X := Nat.ne_of_lt X7.hb
  have oQ2X := Nat.ne_of_gt X7.hb
  have nQ2Q0 := Nat.ne_of_lt Q07.hb
  have oQ2Q0 := Nat.ne_of_gt Q07.hb
  have nQ2Q1 := Nat.ne_of_lt Q17.hb
  have oQ2Q1 := Nat.ne_of_gt Q17.hb
  have Q28 : Bk3 w8 (w7.heap.size) (.int .i64 y0) (.int .i64 y1) (.int .i64 y2) := Bk3.of b8 (by simp <;> omega) (by intro j; simp [go_sem]) (by simp [go_sem]) (by simp [go_sem]) (by simp [go_sem])
  clear X7 Q07 Q17 b8 d8 B7
  have cX_b := X8.hb
  have cX_f := X8.fz
  have cX_0 := X8.k0
  have cX_1 := X8.k1
  have cX_2 := X8.k2
  have cQ0_b := Q08.hb
  have cQ0_f := Q08.fz
  have cQ0_0 := Q08.k0
  have cQ0_1 := Q08.k1
  have cQ0_2 := Q08.k2
  have cQ1_b := Q18.hb
  have cQ1_f := Q18.fz
  have cQ1_0 := Q18.k0
  have cQ1_1 := Q18.k1
  have cQ1_2 := Q18.k2
  have cQ2_b := Q28.hb
  have cQ2_f := Q28.fz
  have cQ2_0 := Q28.k0
  have cQ2_1 := Q28.k1
  have cQ2_2 := Q28.k2
  go_wp2_with fail
  clear cX_b cX_f cX_0 cX_1 cX_2 cQ0_b cQ0_f cQ0_0 cQ0_1 cQ0_2 cQ1_b cQ1_f cQ1_0 cQ1_1 cQ1_2 cQ2_b cQ2_f cQ2_0 cQ2_1 cQ2_2
  go_ret
  exact ⟨rfl, (by have hz := B8.out.size; repeat (first | exact B8.out | refine below_drewN ?_ _ | refine Below.drew ?_ | refine Below.setCell ?_ (by first | omega | (simp; done) | (simp; omega)) _ | refine Below.alloc ?_ (by first | omega | (simp; done) | (simp; omega)) _))⟩
set_option maxHeartbeats 4000000 in
set_option maxRecDepth 100000 in
theorem dsback_yn (s t u : ByteArray) (k wk d y0 y1 y2 q : Int) (w : World) (tp : TypeId) (p : Value) (L : Ds.Lv w tp p) (hl : (s.size : Int) ≤ 500)
    (CT : Hid (∀ W, Ds.Lv W tp p → Calls Tryd.prog 75 #[.agg #[.int .i64 k, .int .i64 wk, .int .i64 d]] W fun e w' => e = .returned (.tuple #[.string t, .int .i64 0]) ∧ Below W.heap.size W w'))
    (CG : Hid (∀ W, Calls Tryd.prog 76 #[.agg #[.int .i64 k, .int .i64 wk, .int .i64 d]] W fun e w' => e = .returned (.bool true) ∧ Below W.heap.size W w'))
    (CX : Hid (∀ W, Ds.Lv W tp p → Calls Tryd.prog 77 #[.string t] W fun e w' => e = .returned (.tuple #[.agg #[.int .i64 k, .int .i64 wk, .int .i64 d], .int .i64 0]) ∧ Below W.heap.size W w'))
    (qz : (q == 0) = false) (CY : Hid (∀ W, Ds.Lv W tp p → Calls Tryd.prog 77 #[.string s] W fun e w' => e = .returned (.tuple #[.agg #[.int .i64 0, .int .i64 0, .int .i64 0], .int .i64 q]) ∧ Below W.heap.size W w')) :
    Calls Tryd.prog 11 #[.string s, .agg #[.int .i64 k, .int .i64 wk, .int .i64 d]] w fun e w' => e = .returned (.bool true) ∧ Below w.heap.size w w' := by
  have LV := Lib.hid (fun W a => lives18 W tp p a)
  have L0 := Lib.hid L; clear L
  have q2 : (q != 0) = true := by unfold bne; rw [qz]; rfl
  have q3 : q ≠ 0 := beq_eq_false_iff_ne.1 qz
  go_enter Tryd.func11, Tryd.ntmps11
  go_wp2_with fail
  refine (LV.out _ (L0.out.keep (by repeat (first | exact Below.refl _ _ | refine below_drewN ?_ _ | refine Below.drew ?_ | refine Below.setCell ?_ (by first | (simp; done) | (simp; omega) | omega) _ | refine Below.alloc ?_ (by first | (simp; done) | (simp; omega) | omega) _)))).mono ?_; rintro e w1 ⟨rfl, b1⟩
  have d1 : Below w.heap.size w w1 := below_step (by repeat (first | exact Below.refl _ _ | refine below_drewN ?_ _ | refine Below.drew ?_ | refine Below.setCell ?_ (by first | (simp; done) | (simp; omega) | omega) _ | refine Below.alloc ?_ (by first | (simp; done) | (simp; omega) | omega) _)) b1
  have B1 := Lib.hid d1
  have X1 : Bk3 w1 (w.heap.size) (.int .i64 k) (.int .i64 wk) (.int .i64 d) := Bk3.of b1 (by simp <;> omega) (by intro j; simp [go_sem]) (by simp [go_sem]) (by simp [go_sem]) (by simp [go_sem])
  clear b1 d1
  have cX_b := X1.hb
  have cX_f := X1.fz
  have cX_0 := X1.k0
  have cX_1 := X1.k1
  have cX_2 := X1.k2
  go_wp2_with fail
  clear cX_b cX_f cX_0 cX_1 cX_2
  refine (CT.out _ (L0.out.keep (below_step B1.out (by repeat (first | exact Below.refl _ _ | refine below_drewN ?_ _ | refine Below.drew ?_ | refine Below.setCell ?_ (by first | (simp; done) | (simp; omega) | omega) _ | refine Below.alloc ?_ (by first | (simp; done) | (simp; omega) | omega) _))))).mono ?_; rintro e w2 ⟨rfl, b2⟩
  have d2 : Below w1.heap.size w1 w2 := below_step (by repeat (first | exact Below.refl _ _ | refine below_drewN ?_ _ | refine Below.drew ?_ | refine Below.setCell ?_ (by first | (simp; done) | (simp; omega) | omega) _ | refine Below.alloc ?_ (by first | (simp; done) | (simp; omega) | omega) _)) b2
  have B2 := Lib.hid (below_step B1.out d2)
  have X2 := X1.keep d2
  clear X1 b2 d2 B1
  have cX_b := X2.hb
  have cX_f := X2.fz
  have cX_0 := X2.k0
  have cX_1 := X2.k1
  have cX_2 := X2.k2
  go_wp2_with fail
  clear cX_b cX_f cX_0 cX_1 cX_2
  refine (CG.out _).mono ?_; rintro e w3 ⟨rfl, b3⟩
  have d3 : Below w2.heap.size w2 w3 := below_step (by repeat (first | exact Below.refl _ _ | refine below_drewN ?_ _ | refine Below.drew ?_ | refine Below.setCell ?_ (by first | (simp; done) | (simp; omega) | omega) _ | refine Below.alloc ?_ (by first | (simp; done) | (simp; omega) | omega) _)) b3
  have B3 := Lib.hid (below_step B2.out d3)
  have X3 := X2.keep d3
  clear X2 b3 d3 B2
  have cX_b := X3.hb
  have cX_f := X3.fz
  have cX_0 := X3.k0
  have cX_1 := X3.k1
  have cX_2 := X3.k2
  go_wp2_with fail
  clear cX_b cX_f cX_0 cX_1 cX_2
  refine (CX.out _ (L0.out.keep (below_step B3.out (by repeat (first | exact Below.refl _ _ | refine below_drewN ?_ _ | refine Below.drew ?_ | refine Below.setCell ?_ (by first | (simp; done) | (simp; omega) | omega) _ | refine Below.alloc ?_ (by first | (simp; done) | (simp; omega) | omega) _))))).mono ?_; rintro e w4 ⟨rfl, b4⟩
  have d4 : Below w3.heap.size w3 w4 := below_step (by repeat (first | exact Below.refl _ _ | refine below_drewN ?_ _ | refine Below.drew ?_ | refine Below.setCell ?_ (by first | (simp; done) | (simp; omega) | omega) _ | refine Below.alloc ?_ (by first | (simp; done) | (simp; omega) | omega) _)) b4
  have B4 := Lib.hid (below_step B3.out d4)
  have X4 := X3.keep d4
  clear X3 b4 d4 B3
  have cX_b := X4.hb
  have cX_f := X4.fz
  have cX_0 := X4.k0
  have cX_1 := X4.k1
  have cX_2 := X4.k2
  go_wp2_with fail
  clear cX_b cX_f cX_0 cX_1 cX_2
  refine (CY.out _ (L0.out.keep (below_step B4.out (by repeat (first | exact Below.refl _ _ | refine below_drewN ?_ _ | refine Below.drew ?_ | refine Below.setCell ?_ (by first | (simp; done) | (simp; omega) | omega) _ | refine Below.alloc ?_ (by first | (simp; done) | (simp; omega) | omega) _))))).mono ?_; rintro e w5 ⟨rfl, b5⟩
  have d5 : Below w4.heap.size w4 w5 := below_step (by repeat (first | exact Below.refl _ _ | refine below_drewN ?_ _ | refine Below.drew ?_ | refine Below.setCell ?_ (by first | (simp; done) | (simp; omega) | omega) _ | refine Below.alloc ?_ (by first | (simp; done) | (simp; omega) | omega) _)) b5
  have B5 := Lib.hid (below_step B4.out d5)
  have X5 := X4.keep d5
  have aQ0 := B4.out.size
  have nQ0X := Nat.ne_of_lt X4.hb
  have oQ0X := Nat.ne_of_gt X4.hb
  have Q05 : Bk3 w5 (w4.heap.size) (.int .i64 k) (.int .i64 wk) (.int .i64 d) := Bk3.of b5 (by simp <;> omega) (by intro j; simp [go_sem]) (by simp [go_sem]) (by simp [go_sem]) (by simp [go_sem])
  clear X4 b5 d5 B4
  have cX_b := X5.hb
  have cX_f := X5.fz
  have cX_0 := X5.k0
  have cX_1 := X5.k1
  have cX_2 := X5.k2
  have cQ0_b := Q05.hb
  have cQ0_f := Q05.fz
  have cQ0_0 := Q05.k0
  have cQ0_1 := Q05.k1
  have cQ0_2 := Q05.k2
  go_wp2_with fail
  clear cX_b cX_f cX_0 cX_1 cX_2 cQ0_b cQ0_f cQ0_0 cQ0_1 cQ0_2
  go_ret
  exact ⟨rfl, (by have hz := B5.out.size; repeat (first | exact B5.out | refine below_drewN ?_ _ | refine Below.drew ?_ | refine Below.setCell ?_ (by first | omega | (simp; done) | (simp; omega)) _ | refine Below.alloc ?_ (by first | omega | (simp; done) | (simp; omega)) _))⟩
set_option maxHeartbeats 4000000 in
set_option maxRecDepth 100000 in
theorem dsback_ny (s t u : ByteArray) (k wk d y0 y1 y2 q : Int) (w : World) (tp : TypeId) (p : Value) (L : Ds.Lv w tp p) (hl : (s.size : Int) ≤ 500)
    (CT : Hid (∀ W, Ds.Lv W tp p → Calls Tryd.prog 75 #[.agg #[.int .i64 k, .int .i64 wk, .int .i64 d]] W fun e w' => e = .returned (.tuple #[.string t, .int .i64 4]) ∧ Below W.heap.size W w'))
    (CG : Hid (∀ W, Calls Tryd.prog 76 #[.agg #[.int .i64 k, .int .i64 wk, .int .i64 d]] W fun e w' => e = .returned (.bool false) ∧ Below W.heap.size W w'))
    
    (CY : Hid (∀ W, Ds.Lv W tp p → Calls Tryd.prog 77 #[.string s] W fun e w' => e = .returned (.tuple #[.agg #[.int .i64 y0, .int .i64 y1, .int .i64 y2], .int .i64 0]) ∧ Below W.heap.size W w')) (CU : Hid (∀ W, Ds.Lv W tp p → Calls Tryd.prog 75 #[.agg #[.int .i64 y0, .int .i64 y1, .int .i64 y2]] W fun e w' => e = .returned (.tuple #[.string u, .int .i64 0]) ∧ Below W.heap.size W w')) (CZ : Hid (∀ W, Ds.Lv W tp p → Calls Tryd.prog 77 #[.string u] W fun e w' => e = .returned (.tuple #[.agg #[.int .i64 y0, .int .i64 y1, .int .i64 y2], .int .i64 0]) ∧ Below W.heap.size W w')) (CH : Hid (∀ W, Calls Tryd.prog 76 #[.agg #[.int .i64 y0, .int .i64 y1, .int .i64 y2]] W fun e w' => e = .returned (.bool true) ∧ Below W.heap.size W w')) :
    Calls Tryd.prog 11 #[.string s, .agg #[.int .i64 k, .int .i64 wk, .int .i64 d]] w fun e w' => e = .returned (.bool true) ∧ Below w.heap.size w w' := by
  have LV := Lib.hid (fun W a => lives18 W tp p a)
  have L0 := Lib.hid L; clear L
  go_enter Tryd.func11, Tryd.ntmps11
  go_wp2_with fail
  refine (LV.out _ (L0.out.keep (by repeat (first | exact Below.refl _ _ | refine below_drewN ?_ _ | refine Below.drew ?_ | refine Below.setCell ?_ (by first | (simp; done) | (simp; omega) | omega) _ | refine Below.alloc ?_ (by first | (simp; done) | (simp; omega) | omega) _)))).mono ?_; rintro e w1 ⟨rfl, b1⟩
  have d1 : Below w.heap.size w w1 := below_step (by repeat (first | exact Below.refl _ _ | refine below_drewN ?_ _ | refine Below.drew ?_ | refine Below.setCell ?_ (by first | (simp; done) | (simp; omega) | omega) _ | refine Below.alloc ?_ (by first | (simp; done) | (simp; omega) | omega) _)) b1
  have B1 := Lib.hid d1
  have X1 : Bk3 w1 (w.heap.size) (.int .i64 k) (.int .i64 wk) (.int .i64 d) := Bk3.of b1 (by simp <;> omega) (by intro j; simp [go_sem]) (by simp [go_sem]) (by simp [go_sem]) (by simp [go_sem])
  clear b1 d1
  have cX_b := X1.hb
  have cX_f := X1.fz
  have cX_0 := X1.k0
  have cX_1 := X1.k1
  have cX_2 := X1.k2
  go_wp2_with fail
  clear cX_b cX_f cX_0 cX_1 cX_2
  refine (CT.out _ (L0.out.keep (below_step B1.out (by repeat (first | exact Below.refl _ _ | refine below_drewN ?_ _ | refine Below.drew ?_ | refine Below.setCell ?_ (by first | (simp; done) | (simp; omega) | omega) _ | refine Below.alloc ?_ (by first | (simp; done) | (simp; omega) | omega) _))))).mono ?_; rintro e w2 ⟨rfl, b2⟩
  have d2 : Below w1.heap.size w1 w2 := below_step (by repeat (first | exact Below.refl _ _ | refine below_drewN ?_ _ | refine Below.drew ?_ | refine Below.setCell ?_ (by first | (simp; done) | (simp; omega) | omega) _ | refine Below.alloc ?_ (by first | (simp; done) | (simp; omega) | omega) _)) b2
  have B2 := Lib.hid (below_step B1.out d2)
  have X2 := X1.keep d2
  clear X1 b2 d2 B1
  have cX_b := X2.hb
  have cX_f := X2.fz
  have cX_0 := X2.k0
  have cX_1 := X2.k1
  have cX_2 := X2.k2
  go_wp2_with fail
  clear cX_b cX_f cX_0 cX_1 cX_2
  refine (CG.out _).mono ?_; rintro e w3 ⟨rfl, b3⟩
  have d3 : Below w2.heap.size w2 w3 := below_step (by repeat (first | exact Below.refl _ _ | refine below_drewN ?_ _ | refine Below.drew ?_ | refine Below.setCell ?_ (by first | (simp; done) | (simp; omega) | omega) _ | refine Below.alloc ?_ (by first | (simp; done) | (simp; omega) | omega) _)) b3
  have B3 := Lib.hid (below_step B2.out d3)
  have X3 := X2.keep d3
  clear X2 b3 d3 B2
  have cX_b := X3.hb
  have cX_f := X3.fz
  have cX_0 := X3.k0
  have cX_1 := X3.k1
  have cX_2 := X3.k2
  go_wp2_with fail
  clear cX_b cX_f cX_0 cX_1 cX_2
  refine (CY.out _ (L0.out.keep (below_step B3.out (by repeat (first | exact Below.refl _ _ | refine below_drewN ?_ _ | refine Below.drew ?_ | refine Below.setCell ?_ (by first | (simp; done) | (simp; omega) | omega) _ | refine Below.alloc ?_ (by first | (simp; done) | (simp; omega) | omega) _))))).mono ?_; rintro e w4 ⟨rfl, b4⟩
  have d4 : Below w3.heap.size w3 w4 := below_step (by repeat (first | exact Below.refl _ _ | refine below_drewN ?_ _ | refine Below.drew ?_ | refine Below.setCell ?_ (by first | (simp; done) | (simp; omega) | omega) _ | refine Below.alloc ?_ (by first | (simp; done) | (simp; omega) | omega) _)) b4
  have B4 := Lib.hid (below_step B3.out d4)
  have X4 := X3.keep d4
  clear X3 b4 d4 B3
  have cX_b := X4.hb
  have cX_f := X4.fz
  have cX_0 := X4.k0
  have cX_1 := X4.k1
  have cX_2 := X4.k2
  go_wp2_with fail
  clear cX_b cX_f cX_0 cX_1 cX_2
  refine (CU.out _ (L0.out.keep (below_step B4.out (by repeat (first | exact Below.refl _ _ | refine below_drewN ?_ _ | refine Below.drew ?_ | refine Below.setCell ?_ (by first | (simp; done) | (simp; omega) | omega) _ | refine Below.alloc ?_ (by first | (simp; done) | (simp; omega) | omega) _))))).mono ?_; rintro e w5 ⟨rfl, b5⟩
  have d5 : Below w4.heap.size w4 w5 := below_step (by repeat (first | exact Below.refl _ _ | refine below_drewN ?_ _ | refine Below.drew ?_ | refine Below.setCell ?_ (by first | (simp; done) | (simp; omega) | omega) _ | refine Below.alloc ?_ (by first | (simp; done) | (simp; omega) | omega) _)) b5
  have B5 := Lib.hid (below_step B4.out d5)
  have X5 := X4.keep d5
  have aQ1 := B4.out.size
  have nQ1X := Nat.ne_of_lt X4.hb
  have oQ1X := Nat.ne_of_gt X4.hb
  have Q15 : Bk3 w5 (w4.heap.size) (.int .i64 y0) (.int .i64 y1) (.int .i64 y2) := Bk3.of b5 (by simp <;> omega) (by intro j; simp [go_sem]) (by simp [go_sem]) (by simp [go_sem]) (by simp [go_sem])
  clear X4 b5 d5 B4
  have cX_b := X5.hb
  have cX_f := X5.fz
  have cX_0 := X5.k0
  have cX_1 := X5.k1
  have cX_2 := X5.k2
  have cQ1_b := Q15.hb
  have cQ1_f := Q15.fz
  have cQ1_0 := Q15.k0
  have cQ1_1 := Q15.k1
  have cQ1_2 := Q15.k2
  go_wp2_with fail
  clear cX_b cX_f cX_0 cX_1 cX_2 cQ1_b cQ1_f cQ1_0 cQ1_1 cQ1_2
  refine (CZ.out _ (L0.out.keep (below_step B5.out (by repeat (first | exact Below.refl _ _ | refine below_drewN ?_ _ | refine Below.drew ?_ | refine Below.setCell ?_ (by first | (simp; done) | (simp; omega) | omega) _ | refine Below.alloc ?_ (by first | (simp; done) | (simp; omega) | omega) _))))).mono ?_; rintro e w6 ⟨rfl, b6⟩
  have d6 : Below w5.heap.size w5 w6 := below_step (by repeat (first | exact Below.refl _ _ | refine below_drewN ?_ _ | refine Below.drew ?_ | refine Below.setCell ?_ (by first | (simp; done) | (simp; omega) | omega) _ | refine Below.alloc ?_ (by first | (simp; done) | (simp; omega) | omega) _)) b6
  have B6 := Lib.hid (below_step B5.out d6)
  have X6 := X5.keep d6
  have Q16 := Q15.keep d6
  clear X5 Q15 b6 d6 B5
  have cX_b := X6.hb
  have cX_f := X6.fz
  have cX_0 := X6.k0
  have cX_1 := X6.k1
  have cX_2 := X6.k2
  have cQ1_b := Q16.hb
  have cQ1_f := Q16.fz
  have cQ1_0 := Q16.k0
  have cQ1_1 := Q16.k1
  have cQ1_2 := Q16.k2
  go_wp2_with fail
  clear cX_b cX_f cX_0 cX_1 cX_2 cQ1_b cQ1_f cQ1_0 cQ1_1 cQ1_2
  refine (CH.out _).mono ?_; rintro e w7 ⟨rfl, b7⟩
  have d7 : Below w6.heap.size w6 w7 := below_step (by repeat (first | exact Below.refl _ _ | refine below_drewN ?_ _ | refine Below.drew ?_ | refine Below.setCell ?_ (by first | (simp; done) | (simp; omega) | omega) _ | refine Below.alloc ?_ (by first | (simp; done) | (simp; omega) | omega) _)) b7
  have B7 := Lib.hid (below_step B6.out d7)
  have X7 := X6.keep d7
  have Q17 := Q16.keep d7
  have aQ2 := B6.out.size
  have nQ2X := Nat.ne_of_lt X6.hb
  have oQ2X := Nat.ne_of_gt X6.hb
  have nQ2Q1 := Nat.ne_of_lt Q16.hb
  have oQ2Q1 := Nat.ne_of_gt Q16.hb
  have Q27 : Bk3 w7 (w6.heap.size) (.int .i64 y0) (.int .i64 y1) (.int .i64 y2) := Bk3.of b7 (by simp <;> omega) (by intro j; simp [go_sem]) (by simp [go_sem]) (by simp [go_sem]) (by simp [go_sem])
  clear X6 Q16 b7 d7 B6
  have cX_b := X7.hb
  have cX_f := X7.fz
  have cX_0 := X7.k0
  have cX_1 := X7.k1
  have cX_2 := X7.k2
  have cQ1_b := Q17.hb
  have cQ1_f := Q17.fz
  have cQ1_0 := Q17.k0
  have cQ1_1 := Q17.k1
  have cQ1_2 := Q17.k2
  have cQ2_b := Q27.hb
  have cQ2_f := Q27.fz
  have cQ2_0 := Q27.k0
  have cQ2_1 := Q27.k1
  have cQ2_2 := Q27.k2
  go_wp2_with fail
  clear cX_b cX_f cX_0 cX_1 cX_2 cQ1_b cQ1_f cQ1_0 cQ1_1 cQ1_2 cQ2_b cQ2_f cQ2_0 cQ2_1 cQ2_2
  go_ret
  exact ⟨rfl, (by have hz := B7.out.size; repeat (first | exact B7.out | refine below_drewN ?_ _ | refine Below.drew ?_ | refine Below.setCell ?_ (by first | omega | (simp; done) | (simp; omega)) _ | refine Below.alloc ?_ (by first | omega | (simp; done) | (simp; omega)) _))⟩
set_option maxHeartbeats 4000000 in
set_option maxRecDepth 100000 in
theorem dsback_nn (s t u : ByteArray) (k wk d y0 y1 y2 q : Int) (w : World) (tp : TypeId) (p : Value) (L : Ds.Lv w tp p) (hl : (s.size : Int) ≤ 500)
    (CT : Hid (∀ W, Ds.Lv W tp p → Calls Tryd.prog 75 #[.agg #[.int .i64 k, .int .i64 wk, .int .i64 d]] W fun e w' => e = .returned (.tuple #[.string t, .int .i64 4]) ∧ Below W.heap.size W w'))
    (CG : Hid (∀ W, Calls Tryd.prog 76 #[.agg #[.int .i64 k, .int .i64 wk, .int .i64 d]] W fun e w' => e = .returned (.bool false) ∧ Below W.heap.size W w'))
    
    (qz : (q == 0) = false) (CY : Hid (∀ W, Ds.Lv W tp p → Calls Tryd.prog 77 #[.string s] W fun e w' => e = .returned (.tuple #[.agg #[.int .i64 0, .int .i64 0, .int .i64 0], .int .i64 q]) ∧ Below W.heap.size W w')) :
    Calls Tryd.prog 11 #[.string s, .agg #[.int .i64 k, .int .i64 wk, .int .i64 d]] w fun e w' => e = .returned (.bool true) ∧ Below w.heap.size w w' := by
  have LV := Lib.hid (fun W a => lives18 W tp p a)
  have L0 := Lib.hid L; clear L
  have q2 : (q != 0) = true := by unfold bne; rw [qz]; rfl
  have q3 : q ≠ 0 := beq_eq_false_iff_ne.1 qz
  go_enter Tryd.func11, Tryd.ntmps11
  go_wp2_with fail
  refine (LV.out _ (L0.out.keep (by repeat (first | exact Below.refl _ _ | refine below_drewN ?_ _ | refine Below.drew ?_ | refine Below.setCell ?_ (by first | (simp; done) | (simp; omega) | omega) _ | refine Below.alloc ?_ (by first | (simp; done) | (simp; omega) | omega) _)))).mono ?_; rintro e w1 ⟨rfl, b1⟩
  have d1 : Below w.heap.size w w1 := below_step (by repeat (first | exact Below.refl _ _ | refine below_drewN ?_ _ | refine Below.drew ?_ | refine Below.setCell ?_ (by first | (simp; done) | (simp; omega) | omega) _ | refine Below.alloc ?_ (by first | (simp; done) | (simp; omega) | omega) _)) b1
  have B1 := Lib.hid d1
  have X1 : Bk3 w1 (w.heap.size) (.int .i64 k) (.int .i64 wk) (.int .i64 d) := Bk3.of b1 (by simp <;> omega) (by intro j; simp [go_sem]) (by simp [go_sem]) (by simp [go_sem]) (by simp [go_sem])
  clear b1 d1
  have cX_b := X1.hb
  have cX_f := X1.fz
  have cX_0 := X1.k0
  have cX_1 := X1.k1
  have cX_2 := X1.k2
  go_wp2_with fail
  clear cX_b cX_f cX_0 cX_1 cX_2
  refine (CT.out _ (L0.out.keep (below_step B1.out (by repeat (first | exact Below.refl _ _ | refine below_drewN ?_ _ | refine Below.drew ?_ | refine Below.setCell ?_ (by first | (simp; done) | (simp; omega) | omega) _ | refine Below.alloc ?_ (by first | (simp; done) | (simp; omega) | omega) _))))).mono ?_; rintro e w2 ⟨rfl, b2⟩
  have d2 : Below w1.heap.size w1 w2 := below_step (by repeat (first | exact Below.refl _ _ | refine below_drewN ?_ _ | refine Below.drew ?_ | refine Below.setCell ?_ (by first | (simp; done) | (simp; omega) | omega) _ | refine Below.alloc ?_ (by first | (simp; done) | (simp; omega) | omega) _)) b2
  have B2 := Lib.hid (below_step B1.out d2)
  have X2 := X1.keep d2
  clear X1 b2 d2 B1
  have cX_b := X2.hb
  have cX_f := X2.fz
  have cX_0 := X2.k0
  have cX_1 := X2.k1
  have cX_2 := X2.k2
  go_wp2_with fail
  clear cX_b cX_f cX_0 cX_1 cX_2
  refine (CG.out _).mono ?_; rintro e w3 ⟨rfl, b3⟩
  have d3 : Below w2.heap.size w2 w3 := below_step (by repeat (first | exact Below.refl _ _ | refine below_drewN ?_ _ | refine Below.drew ?_ | refine Below.setCell ?_ (by first | (simp; done) | (simp; omega) | omega) _ | refine Below.alloc ?_ (by first | (simp; done) | (simp; omega) | omega) _)) b3
  have B3 := Lib.hid (below_step B2.out d3)
  have X3 := X2.keep d3
  clear X2 b3 d3 B2
  have cX_b := X3.hb
  have cX_f := X3.fz
  have cX_0 := X3.k0
  have cX_1 := X3.k1
  have cX_2 := X3.k2
  go_wp2_with fail
  clear cX_b cX_f cX_0 cX_1 cX_2
  refine (CY.out _ (L0.out.keep (below_step B3.out (by repeat (first | exact Below.refl _ _ | refine below_drewN ?_ _ | refine Below.drew ?_ | refine Below.setCell ?_ (by first | (simp; done) | (simp; omega) | omega) _ | refine Below.alloc ?_ (by first | (simp; done) | (simp; omega) | omega) _))))).mono ?_; rintro e w4 ⟨rfl, b4⟩
  have d4 : Below w3.heap.size w3 w4 := below_step (by repeat (first | exact Below.refl _ _ | refine below_drewN ?_ _ | refine Below.drew ?_ | refine Below.setCell ?_ (by first | (simp; done) | (simp; omega) | omega) _ | refine Below.alloc ?_ (by first | (simp; done) | (simp; omega) | omega) _)) b4
  have B4 := Lib.hid (below_step B3.out d4)
  have X4 := X3.keep d4
  clear X3 b4 d4 B3
  have cX_b := X4.hb
  have cX_f := X4.fz
  have cX_0 := X4.k0
  have cX_1 := X4.k1
  have cX_2 := X4.k2
  go_wp2_with fail
  clear cX_b cX_f cX_0 cX_1 cX_2
  go_ret
  exact ⟨rfl, (by have hz := B4.out.size; repeat (first | exact B4.out | refine below_drewN ?_ _ | refine Below.drew ?_ | refine Below.setCell ?_ (by first | omega | (simp; done) | (simp; omega)) _ | refine Below.alloc ?_ (by first | omega | (simp; done) | (simp; omega)) _))⟩
theorem Ds.eta (r : Int × Int × Int × Int) (q : Int) (h : r.2.2.2 = q) : r = (r.1, r.2.1, r.2.2.1, q) := by subst h; rfl
theorem Ds.zero_of {l : List UInt8} (h : (Ds.rd l).2.2.2 ≠ 0) : Ds.rd l = (0, 0, 0, (Ds.rd l).2.2.2) := Ds.rd_zero h
theorem Ds.eta2 (r : ByteArray × Int) (q : Int) (h : r.2 = q) : r = (r.1, q) := by subst h; rfl
theorem dsback_walk (s : ByteArray) (k wk d : Int) (w : World) (tp : TypeId) (p : Value) (L : Ds.Lv w tp p) :
    Calls Tryd.prog 11 #[.string s, .agg #[.int .i64 k, .int .i64 wk, .int .i64 d]] w fun e w' => e = .returned (.bool true) ∧ Below w.heap.size w w' := by
  by_cases hl : s.size ≤ 500
  · have hl' : (s.size : Int) ≤ 500 := by omega
    cases hr : Dr.onR k wk d
    · have CT := Lib.hid (fun W L => dText_c k wk d _ 4 (Ds.tx_no hr) W tp p L)
      have CG := Lib.hid (fun W => hr ▸ oright_any k wk d W)
      by_cases hz : (Ds.rd s.data.toList).2.2.2 = 0
      · obtain ⟨t2, ts⟩ := Ds.tx_ok (Ds.rd_R hz)
        exact dsback_ny s _ _ k wk d _ _ _ 0 w tp p L hl' CT CG (Lib.hid fun W L => dRead_c s _ _ _ 0 (Ds.eta _ _ hz) (by omega) W tp p L) (Lib.hid fun W L => dText_c _ _ _ _ 0 (Ds.eta2 _ _ t2) W tp p L) (Lib.hid fun W L => dRead_c _ _ _ _ 0 (Ds.rd_tx (Ds.rd_R hz)) ts W tp p L) (Lib.hid fun W => Ds.rd_R hz ▸ oright_any _ _ _ W)
      · exact dsback_nn s _ ⟨#[]⟩ k wk d 0 0 0 _ w tp p L hl' CT CG (beq_eq_false_iff_ne.2 hz) (Lib.hid fun W L => dRead_c s 0 0 0 _ (Ds.zero_of hz) (by omega) W tp p L)
    · obtain ⟨a2, az⟩ := Ds.tx_ok hr
      have CT := Lib.hid (fun W L => dText_c k wk d _ 0 (Ds.eta2 _ _ a2) W tp p L)
      have CG := Lib.hid (fun W => hr ▸ oright_any k wk d W)
      have CX := Lib.hid (fun W L => dRead_c _ _ _ _ 0 (Ds.rd_tx hr) az W tp p L)
      by_cases hz : (Ds.rd s.data.toList).2.2.2 = 0
      · obtain ⟨t2, ts⟩ := Ds.tx_ok (Ds.rd_R hz)
        exact dsback_yy s _ _ k wk d _ _ _ 0 w tp p L hl' CT CG CX (Lib.hid fun W L => dRead_c s _ _ _ 0 (Ds.eta _ _ hz) (by omega) W tp p L) (Lib.hid fun W L => dText_c _ _ _ _ 0 (Ds.eta2 _ _ t2) W tp p L) (Lib.hid fun W L => dRead_c _ _ _ _ 0 (Ds.rd_tx (Ds.rd_R hz)) ts W tp p L) (Lib.hid fun W => Ds.rd_R hz ▸ oright_any _ _ _ W)
      · exact dsback_yn s _ ⟨#[]⟩ k wk d 0 0 0 _ w tp p L hl' CT CG CX (beq_eq_false_iff_ne.2 hz) (Lib.hid fun W L => dRead_c s 0 0 0 _ (Ds.zero_of hz) (by omega) W tp p L)
  · exact dsback_long s k wk d w tp p L (by omega)
end Go.Proofs.YtafnnnbefabofaaDoor

