/- The walk of MonthlyTells: whatever is handed in, the law answers true; nothing old turns. -/
import Derived.Test.YtlehbnfocilcmabMoT
import Derived.Test.YtlehbnfocilcmabLiv6
set_option linter.unusedVariables false
set_option linter.unusedSimpArgs false
namespace Go.Proofs.Ytlehbnfocilcmab
open Go.RowKit Go.Sort

set_option maxHeartbeats 4000000 in
set_option maxRecDepth 100000 in
theorem mtells_walk (ay am ad bY bm bd n : Int) (w : World) (hn : -9223372036854775808 ≤ n ∧ n ≤ 9223372036854775807) :
    Calls Try.prog 6 #[.agg #[.int .i64 ay, .int .i64 am, .int .i64 ad], .agg #[.int .i64 bY, .int .i64 bm, .int .i64 bd], .int .i64 n] w fun e w' => e = .returned (.bool true) ∧ Below w.heap.size w w' := by
  obtain ⟨x0, x1, x2, xw, fa, ra⟩ : ∃ a b c v, (∀ W, Calls Try.prog 24 #[.agg #[.int .i64 ay, .int .i64 am, .int .i64 ad], .int .i64 n] W fun e w' => e = .returned (.tuple #[.agg #[.int .i64 a, .int .i64 b, .int .i64 c], .int .i64 v]) ∧ Below W.heap.size W w') ∧ (∀ W, Calls Try.prog 25 #[.agg #[.int .i64 ay, .int .i64 am, .int .i64 ad], .int .i64 n] W fun e w' => e = .returned (.tuple #[.agg #[.int .i64 a, .int .i64 b, .int .i64 c], .int .i64 v]) ∧ Below W.heap.size W w') :=
    ⟨_, _, _, _, fun W => madd_any ay am ad n W hn.1 hn.2, fun W => radd_any ay am ad n W⟩
  obtain ⟨y0, y1, y2, yw, fy, ry⟩ : ∃ a b c v, (∀ W, Calls Try.prog 26 #[.agg #[.int .i64 ay, .int .i64 am, .int .i64 ad], .int .i64 n] W fun e w' => e = .returned (.tuple #[.agg #[.int .i64 a, .int .i64 b, .int .i64 c], .int .i64 v]) ∧ Below W.heap.size W w') ∧ (∀ W, Calls Try.prog 27 #[.agg #[.int .i64 ay, .int .i64 am, .int .i64 ad], .int .i64 n] W fun e w' => e = .returned (.tuple #[.agg #[.int .i64 a, .int .i64 b, .int .i64 c], .int .i64 v]) ∧ Below W.heap.size W w') :=
    ⟨_, _, _, _, fun W => myears_any ay am ad n W hn.1 hn.2, fun W => ryears_any ay am ad n W⟩
  obtain ⟨z0, z1, z2, zw, fd, rd⟩ : ∃ a b c v, (∀ W, Calls Try.prog 28 #[.agg #[.int .i64 ay, .int .i64 am, .int .i64 ad], .int .i64 n] W fun e w' => e = .returned (.tuple #[.agg #[.int .i64 a, .int .i64 b, .int .i64 c], .int .i64 v]) ∧ Below W.heap.size W w') ∧ (∀ W, Calls Try.prog 29 #[.agg #[.int .i64 ay, .int .i64 am, .int .i64 ad], .int .i64 n] W fun e w' => e = .returned (.tuple #[.agg #[.int .i64 a, .int .i64 b, .int .i64 c], .int .i64 v]) ∧ Below W.heap.size W w') :=
    ⟨_, _, _, _, fun W => mdays_any ay am ad n W hn.1 hn.2, fun W => rmdays_any ay am ad n W⟩
  obtain ⟨t0, tw, fb, rb⟩ : ∃ a v, (∀ W, Calls Try.prog 30 #[.agg #[.int .i64 ay, .int .i64 am, .int .i64 ad], .agg #[.int .i64 bY, .int .i64 bm, .int .i64 bd]] W fun e w' => e = .returned (.tuple #[.int .i64 a, .int .i64 v]) ∧ Below W.heap.size W w') ∧ (∀ W, Calls Try.prog 31 #[.agg #[.int .i64 ay, .int .i64 am, .int .i64 ad], .agg #[.int .i64 bY, .int .i64 bm, .int .i64 bd]] W fun e w' => e = .returned (.tuple #[.int .i64 a, .int .i64 v]) ∧ Below W.heap.size W w') :=
    ⟨_, _, fun W => mbet_any ay am ad bY bm bd W, fun W => rbet_any ay am ad bY bm bd W⟩
  clear hn
  go_enter Try.func6, Try.ntmps6
  go_wp2_with fail
  refine (fa _).mono ?_; rintro e w1 ⟨rfl, b1⟩
  have d1 : Below w.heap.size w w1 := below_step (by repeat (first | exact Below.refl _ _ | refine below_drewN ?_ _ | refine Below.drew ?_ | refine Below.setCell ?_ (by simp) _ | refine Below.alloc ?_ (by simp) _)) b1
  have B1 := Lib.hid d1
  have A1 : Bk3 w1 (w.heap.size) (.int .i64 ay) (.int .i64 am) (.int .i64 ad) := Bk3.of b1 (by simp <;> omega) (by intro j; simp [go_sem]) (by simp [go_sem]) (by simp [go_sem]) (by simp [go_sem])
  have C1 : Bk3 w1 (w.heap.size + 1) (.int .i64 bY) (.int .i64 bm) (.int .i64 bd) := Bk3.of b1 (by simp <;> omega) (by intro j; simp [go_sem]) (by simp [go_sem]) (by simp [go_sem]) (by simp [go_sem])
  clear b1 d1
  have cA_b := A1.hb
  have cA_f := A1.fz
  have cA_0 := A1.k0
  have cA_1 := A1.k1
  have cA_2 := A1.k2
  have cC_b := C1.hb
  have cC_f := C1.fz
  have cC_0 := C1.k0
  have cC_1 := C1.k1
  have cC_2 := C1.k2
  go_wp2_with fail
  clear cA_b cA_f cA_0 cA_1 cA_2 cC_b cC_f cC_0 cC_1 cC_2
  refine (ra _).mono ?_; rintro e w2 ⟨rfl, b2⟩
  have d2 : Below w1.heap.size w1 w2 := below_step (by repeat (first | exact Below.refl _ _ | refine below_drewN ?_ _ | refine Below.drew ?_ | refine Below.setCell ?_ (by simp) _ | refine Below.alloc ?_ (by simp) _)) b2
  have B2 := Lib.hid (below_step B1.out d2)
  have A2 := A1.keep d2
  have C2 := C1.keep d2
  have aX := B1.out.size
  have nXA := Nat.ne_of_lt A1.hb
  have oXA := Nat.ne_of_gt A1.hb
  have nXC := Nat.ne_of_lt C1.hb
  have oXC := Nat.ne_of_gt C1.hb
  have X2 : Bk3 w2 (w1.heap.size) (.int .i64 x0) (.int .i64 x1) (.int .i64 x2) := Bk3.of b2 (by simp <;> omega) (by intro j; simp [go_sem]) (by simp [go_sem]) (by simp [go_sem]) (by simp [go_sem])
  clear A1 C1 b2 d2 B1
  have cA_b := A2.hb
  have cA_f := A2.fz
  have cA_0 := A2.k0
  have cA_1 := A2.k1
  have cA_2 := A2.k2
  have cC_b := C2.hb
  have cC_f := C2.fz
  have cC_0 := C2.k0
  have cC_1 := C2.k1
  have cC_2 := C2.k2
  have cX_b := X2.hb
  have cX_f := X2.fz
  have cX_0 := X2.k0
  have cX_1 := X2.k1
  have cX_2 := X2.k2
  go_wp2_with fail
  clear cA_b cA_f cA_0 cA_1 cA_2 cC_b cC_f cC_0 cC_1 cC_2 cX_b cX_f cX_0 cX_1 cX_2
  refine (fy _).mono ?_; rintro e w3 ⟨rfl, b3⟩
  have d3 : Below w2.heap.size w2 w3 := below_step (by repeat (first | exact Below.refl _ _ | refine below_drewN ?_ _ | refine Below.drew ?_ | refine Below.setCell ?_ (by simp) _ | refine Below.alloc ?_ (by simp) _)) b3
  have B3 := Lib.hid (below_step B2.out d3)
  have A3 := A2.keep d3
  have C3 := C2.keep d3
  have X3 := X2.keep d3
  have aY := B2.out.size
  have nYA := Nat.ne_of_lt A2.hb
  have oYA := Nat.ne_of_gt A2.hb
  have nYC := Nat.ne_of_lt C2.hb
  have oYC := Nat.ne_of_gt C2.hb
  have nYX := Nat.ne_of_lt X2.hb
  have oYX := Nat.ne_of_gt X2.hb
  have Y3 : Bk3 w3 (w2.heap.size) (.int .i64 x0) (.int .i64 x1) (.int .i64 x2) := Bk3.of b3 (by simp <;> omega) (by intro j; simp [go_sem]) (by simp [go_sem]) (by simp [go_sem]) (by simp [go_sem])
  clear A2 C2 X2 b3 d3 B2
  have cA_b := A3.hb
  have cA_f := A3.fz
  have cA_0 := A3.k0
  have cA_1 := A3.k1
  have cA_2 := A3.k2
  have cC_b := C3.hb
  have cC_f := C3.fz
  have cC_0 := C3.k0
  have cC_1 := C3.k1
  have cC_2 := C3.k2
  have cX_b := X3.hb
  have cX_f := X3.fz
  have cX_0 := X3.k0
  have cX_1 := X3.k1
  have cX_2 := X3.k2
  have cY_b := Y3.hb
  have cY_f := Y3.fz
  have cY_0 := Y3.k0
  have cY_1 := Y3.k1
  have cY_2 := Y3.k2
  go_wp2_with fail
  clear cA_b cA_f cA_0 cA_1 cA_2 cC_b cC_f cC_0 cC_1 cC_2 cX_b cX_f cX_0 cX_1 cX_2 cY_b cY_f cY_0 cY_1 cY_2
  refine (ry _).mono ?_; rintro e w4 ⟨rfl, b4⟩
  have d4 : Below w3.heap.size w3 w4 := below_step (by repeat (first | exact Below.refl _ _ | refine below_drewN ?_ _ | refine Below.drew ?_ | refine Below.setCell ?_ (by simp) _ | refine Below.alloc ?_ (by simp) _)) b4
  have B4 := Lib.hid (below_step B3.out d4)
  have A4 := A3.keep d4
  have C4 := C3.keep d4
  have X4 := X3.keep d4
  have Y4 := Y3.keep d4
  have aP := B3.out.size
  have nPA := Nat.ne_of_lt A3.hb
  have oPA := Nat.ne_of_gt A3.hb
  have nPC := Nat.ne_of_lt C3.hb
  have oPC := Nat.ne_of_gt C3.hb
  have nPX := Nat.ne_of_lt X3.hb
  have oPX := Nat.ne_of_gt X3.hb
  have nPY := Nat.ne_of_lt Y3.hb
  have oPY := Nat.ne_of_gt Y3.hb
  have P4 : Bk3 w4 (w3.heap.size) (.int .i64 y0) (.int .i64 y1) (.int .i64 y2) := Bk3.of b4 (by simp <;> omega) (by intro j; simp [go_sem]) (by simp [go_sem]) (by simp [go_sem]) (by simp [go_sem])
  clear A3 C3 X3 Y3 b4 d4 B3
  have cA_b := A4.hb
  have cA_f := A4.fz
  have cA_0 := A4.k0
  have cA_1 := A4.k1
  have cA_2 := A4.k2
  have cC_b := C4.hb
  have cC_f := C4.fz
  have cC_0 := C4.k0
  have cC_1 := C4.k1
  have cC_2 := C4.k2
  have cX_b := X4.hb
  have cX_f := X4.fz
  have cX_0 := X4.k0
  have cX_1 := X4.k1
  have cX_2 := X4.k2
  have cY_b := Y4.hb
  have cY_f := Y4.fz
  have cY_0 := Y4.k0
  have cY_1 := Y4.k1
  have cY_2 := Y4.k2
  have cP_b := P4.hb
  have cP_f := P4.fz
  have cP_0 := P4.k0
  have cP_1 := P4.k1
  have cP_2 := P4.k2
  go_wp2_with fail
  clear cA_b cA_f cA_0 cA_1 cA_2 cC_b cC_f cC_0 cC_1 cC_2 cX_b cX_f cX_0 cX_1 cX_2 cY_b cY_f cY_0 cY_1 cY_2 cP_b cP_f cP_0 cP_1 cP_2
  refine (fd _).mono ?_; rintro e w5 ⟨rfl, b5⟩
  have d5 : Below w4.heap.size w4 w5 := below_step (by repeat (first | exact Below.refl _ _ | refine below_drewN ?_ _ | refine Below.drew ?_ | refine Below.setCell ?_ (by simp) _ | refine Below.alloc ?_ (by simp) _)) b5
  have B5 := Lib.hid (below_step B4.out d5)
  have A5 := A4.keep d5
  have C5 := C4.keep d5
  have X5 := X4.keep d5
  have Y5 := Y4.keep d5
  have P5 := P4.keep d5
  have aQ := B4.out.size
  have nQA := Nat.ne_of_lt A4.hb
  have oQA := Nat.ne_of_gt A4.hb
  have nQC := Nat.ne_of_lt C4.hb
  have oQC := Nat.ne_of_gt C4.hb
  have nQX := Nat.ne_of_lt X4.hb
  have oQX := Nat.ne_of_gt X4.hb
  have nQY := Nat.ne_of_lt Y4.hb
  have oQY := Nat.ne_of_gt Y4.hb
  have nQP := Nat.ne_of_lt P4.hb
  have oQP := Nat.ne_of_gt P4.hb
  have Q5 : Bk3 w5 (w4.heap.size) (.int .i64 y0) (.int .i64 y1) (.int .i64 y2) := Bk3.of b5 (by simp <;> omega) (by intro j; simp [go_sem]) (by simp [go_sem]) (by simp [go_sem]) (by simp [go_sem])
  clear A4 C4 X4 Y4 P4 b5 d5 B4
  have cA_b := A5.hb
  have cA_f := A5.fz
  have cA_0 := A5.k0
  have cA_1 := A5.k1
  have cA_2 := A5.k2
  have cC_b := C5.hb
  have cC_f := C5.fz
  have cC_0 := C5.k0
  have cC_1 := C5.k1
  have cC_2 := C5.k2
  have cX_b := X5.hb
  have cX_f := X5.fz
  have cX_0 := X5.k0
  have cX_1 := X5.k1
  have cX_2 := X5.k2
  have cY_b := Y5.hb
  have cY_f := Y5.fz
  have cY_0 := Y5.k0
  have cY_1 := Y5.k1
  have cY_2 := Y5.k2
  have cP_b := P5.hb
  have cP_f := P5.fz
  have cP_0 := P5.k0
  have cP_1 := P5.k1
  have cP_2 := P5.k2
  have cQ_b := Q5.hb
  have cQ_f := Q5.fz
  have cQ_0 := Q5.k0
  have cQ_1 := Q5.k1
  have cQ_2 := Q5.k2
  go_wp2_with fail
  clear cA_b cA_f cA_0 cA_1 cA_2 cC_b cC_f cC_0 cC_1 cC_2 cX_b cX_f cX_0 cX_1 cX_2 cY_b cY_f cY_0 cY_1 cY_2 cP_b cP_f cP_0 cP_1 cP_2 cQ_b cQ_f cQ_0 cQ_1 cQ_2
  refine (rd _).mono ?_; rintro e w6 ⟨rfl, b6⟩
  have d6 : Below w5.heap.size w5 w6 := below_step (by repeat (first | exact Below.refl _ _ | refine below_drewN ?_ _ | refine Below.drew ?_ | refine Below.setCell ?_ (by simp) _ | refine Below.alloc ?_ (by simp) _)) b6
  have B6 := Lib.hid (below_step B5.out d6)
  have A6 := A5.keep d6
  have C6 := C5.keep d6
  have X6 := X5.keep d6
  have Y6 := Y5.keep d6
  have P6 := P5.keep d6
  have Q6 := Q5.keep d6
  have aS := B5.out.size
  have nSA := Nat.ne_of_lt A5.hb
  have oSA := Nat.ne_of_gt A5.hb
  have nSC := Nat.ne_of_lt C5.hb
  have oSC := Nat.ne_of_gt C5.hb
  have nSX := Nat.ne_of_lt X5.hb
  have oSX := Nat.ne_of_gt X5.hb
  have nSY := Nat.ne_of_lt Y5.hb
  have oSY := Nat.ne_of_gt Y5.hb
  have nSP := Nat.ne_of_lt P5.hb
  have oSP := Nat.ne_of_gt P5.hb
  have nSQ := Nat.ne_of_lt Q5.hb
  have oSQ := Nat.ne_of_gt Q5.hb
  have S6 : Bk3 w6 (w5.heap.size) (.int .i64 z0) (.int .i64 z1) (.int .i64 z2) := Bk3.of b6 (by simp <;> omega) (by intro j; simp [go_sem]) (by simp [go_sem]) (by simp [go_sem]) (by simp [go_sem])
  clear A5 C5 X5 Y5 P5 Q5 b6 d6 B5
  have cA_b := A6.hb
  have cA_f := A6.fz
  have cA_0 := A6.k0
  have cA_1 := A6.k1
  have cA_2 := A6.k2
  have cC_b := C6.hb
  have cC_f := C6.fz
  have cC_0 := C6.k0
  have cC_1 := C6.k1
  have cC_2 := C6.k2
  have cX_b := X6.hb
  have cX_f := X6.fz
  have cX_0 := X6.k0
  have cX_1 := X6.k1
  have cX_2 := X6.k2
  have cY_b := Y6.hb
  have cY_f := Y6.fz
  have cY_0 := Y6.k0
  have cY_1 := Y6.k1
  have cY_2 := Y6.k2
  have cP_b := P6.hb
  have cP_f := P6.fz
  have cP_0 := P6.k0
  have cP_1 := P6.k1
  have cP_2 := P6.k2
  have cQ_b := Q6.hb
  have cQ_f := Q6.fz
  have cQ_0 := Q6.k0
  have cQ_1 := Q6.k1
  have cQ_2 := Q6.k2
  have cS_b := S6.hb
  have cS_f := S6.fz
  have cS_0 := S6.k0
  have cS_1 := S6.k1
  have cS_2 := S6.k2
  go_wp2_with fail
  clear cA_b cA_f cA_0 cA_1 cA_2 cC_b cC_f cC_0 cC_1 cC_2 cX_b cX_f cX_0 cX_1 cX_2 cY_b cY_f cY_0 cY_1 cY_2 cP_b cP_f cP_0 cP_1 cP_2 cQ_b cQ_f cQ_0 cQ_1 cQ_2 cS_b cS_f cS_0 cS_1 cS_2
  refine (fb _).mono ?_; rintro e w7 ⟨rfl, b7⟩
  have d7 : Below w6.heap.size w6 w7 := below_step (by repeat (first | exact Below.refl _ _ | refine below_drewN ?_ _ | refine Below.drew ?_ | refine Below.setCell ?_ (by simp) _ | refine Below.alloc ?_ (by simp) _)) b7
  have B7 := Lib.hid (below_step B6.out d7)
  have A7 := A6.keep d7
  have C7 := C6.keep d7
  have X7 := X6.keep d7
  have Y7 := Y6.keep d7
  have P7 := P6.keep d7
  have Q7 := Q6.keep d7
  have S7 := S6.keep d7
  have aT := B6.out.size
  have nTA := Nat.ne_of_lt A6.hb
  have oTA := Nat.ne_of_gt A6.hb
  have nTC := Nat.ne_of_lt C6.hb
  have oTC := Nat.ne_of_gt C6.hb
  have nTX := Nat.ne_of_lt X6.hb
  have oTX := Nat.ne_of_gt X6.hb
  have nTY := Nat.ne_of_lt Y6.hb
  have oTY := Nat.ne_of_gt Y6.hb
  have nTP := Nat.ne_of_lt P6.hb
  have oTP := Nat.ne_of_gt P6.hb
  have nTQ := Nat.ne_of_lt Q6.hb
  have oTQ := Nat.ne_of_gt Q6.hb
  have nTS := Nat.ne_of_lt S6.hb
  have oTS := Nat.ne_of_gt S6.hb
  have T7 : Bk3 w7 (w6.heap.size) (.int .i64 z0) (.int .i64 z1) (.int .i64 z2) := Bk3.of b7 (by simp <;> omega) (by intro j; simp [go_sem]) (by simp [go_sem]) (by simp [go_sem]) (by simp [go_sem])
  clear A6 C6 X6 Y6 P6 Q6 S6 b7 d7 B6
  have cA_b := A7.hb
  have cA_f := A7.fz
  have cA_0 := A7.k0
  have cA_1 := A7.k1
  have cA_2 := A7.k2
  have cC_b := C7.hb
  have cC_f := C7.fz
  have cC_0 := C7.k0
  have cC_1 := C7.k1
  have cC_2 := C7.k2
  have cX_b := X7.hb
  have cX_f := X7.fz
  have cX_0 := X7.k0
  have cX_1 := X7.k1
  have cX_2 := X7.k2
  have cY_b := Y7.hb
  have cY_f := Y7.fz
  have cY_0 := Y7.k0
  have cY_1 := Y7.k1
  have cY_2 := Y7.k2
  have cP_b := P7.hb
  have cP_f := P7.fz
  have cP_0 := P7.k0
  have cP_1 := P7.k1
  have cP_2 := P7.k2
  have cQ_b := Q7.hb
  have cQ_f := Q7.fz
  have cQ_0 := Q7.k0
  have cQ_1 := Q7.k1
  have cQ_2 := Q7.k2
  have cS_b := S7.hb
  have cS_f := S7.fz
  have cS_0 := S7.k0
  have cS_1 := S7.k1
  have cS_2 := S7.k2
  have cT_b := T7.hb
  have cT_f := T7.fz
  have cT_0 := T7.k0
  have cT_1 := T7.k1
  have cT_2 := T7.k2
  go_wp2_with fail
  clear cA_b cA_f cA_0 cA_1 cA_2 cC_b cC_f cC_0 cC_1 cC_2 cX_b cX_f cX_0 cX_1 cX_2 cY_b cY_f cY_0 cY_1 cY_2 cP_b cP_f cP_0 cP_1 cP_2 cQ_b cQ_f cQ_0 cQ_1 cQ_2 cS_b cS_f cS_0 cS_1 cS_2 cT_b cT_f cT_0 cT_1 cT_2
  refine (rb _).mono ?_; rintro e w8 ⟨rfl, b8⟩
  have d8 : Below w7.heap.size w7 w8 := below_step (by repeat (first | exact Below.refl _ _ | refine below_drewN ?_ _ | refine Below.drew ?_ | refine Below.setCell ?_ (by simp) _ | refine Below.alloc ?_ (by simp) _)) b8
  have B8 := Lib.hid (below_step B7.out d8)
  have A8 := A7.keep d8
  have C8 := C7.keep d8
  have X8 := X7.keep d8
  have Y8 := Y7.keep d8
  have P8 := P7.keep d8
  have Q8 := Q7.keep d8
  have S8 := S7.keep d8
  have T8 := T7.keep d8
  clear A7 C7 X7 Y7 P7 Q7 S7 T7 b8 d8 B7
  have cA_b := A8.hb
  have cA_f := A8.fz
  have cA_0 := A8.k0
  have cA_1 := A8.k1
  have cA_2 := A8.k2
  have cC_b := C8.hb
  have cC_f := C8.fz
  have cC_0 := C8.k0
  have cC_1 := C8.k1
  have cC_2 := C8.k2
  have cX_b := X8.hb
  have cX_f := X8.fz
  have cX_0 := X8.k0
  have cX_1 := X8.k1
  have cX_2 := X8.k2
  have cY_b := Y8.hb
  have cY_f := Y8.fz
  have cY_0 := Y8.k0
  have cY_1 := Y8.k1
  have cY_2 := Y8.k2
  have cP_b := P8.hb
  have cP_f := P8.fz
  have cP_0 := P8.k0
  have cP_1 := P8.k1
  have cP_2 := P8.k2
  have cQ_b := Q8.hb
  have cQ_f := Q8.fz
  have cQ_0 := Q8.k0
  have cQ_1 := Q8.k1
  have cQ_2 := Q8.k2
  have cS_b := S8.hb
  have cS_f := S8.fz
  have cS_0 := S8.k0
  have cS_1 := S8.k1
  have cS_2 := S8.k2
  have cT_b := T8.hb
  have cT_f := T8.fz
  have cT_0 := T8.k0
  have cT_1 := T8.k1
  have cT_2 := T8.k2
  go_wp2_with fail
  clear cA_b cA_f cA_0 cA_1 cA_2 cC_b cC_f cC_0 cC_1 cC_2 cX_b cX_f cX_0 cX_1 cX_2 cY_b cY_f cY_0 cY_1 cY_2 cP_b cP_f cP_0 cP_1 cP_2 cQ_b cQ_f cQ_0 cQ_1 cQ_2 cS_b cS_f cS_0 cS_1 cS_2 cT_b cT_f cT_0 cT_1 cT_2
  refine (lives6 _).mono ?_; rintro e w9 ⟨rfl, b9⟩
  have d9 : Below w8.heap.size w8 w9 := below_step (by repeat (first | exact Below.refl _ _ | refine below_drewN ?_ _ | refine Below.drew ?_ | refine Below.setCell ?_ (by simp) _ | refine Below.alloc ?_ (by simp) _)) b9
  have B9 := Lib.hid (below_step B8.out d9)
  have A9 := A8.keep d9
  have C9 := C8.keep d9
  have X9 := X8.keep d9
  have Y9 := Y8.keep d9
  have P9 := P8.keep d9
  have Q9 := Q8.keep d9
  have S9 := S8.keep d9
  have T9 := T8.keep d9
  clear A8 C8 X8 Y8 P8 Q8 S8 T8 b9 d9 B8
  have cA_b := A9.hb
  have cA_f := A9.fz
  have cA_0 := A9.k0
  have cA_1 := A9.k1
  have cA_2 := A9.k2
  have cC_b := C9.hb
  have cC_f := C9.fz
  have cC_0 := C9.k0
  have cC_1 := C9.k1
  have cC_2 := C9.k2
  have cX_b := X9.hb
  have cX_f := X9.fz
  have cX_0 := X9.k0
  have cX_1 := X9.k1
  have cX_2 := X9.k2
  have cY_b := Y9.hb
  have cY_f := Y9.fz
  have cY_0 := Y9.k0
  have cY_1 := Y9.k1
  have cY_2 := Y9.k2
  have cP_b := P9.hb
  have cP_f := P9.fz
  have cP_0 := P9.k0
  have cP_1 := P9.k1
  have cP_2 := P9.k2
  have cQ_b := Q9.hb
  have cQ_f := Q9.fz
  have cQ_0 := Q9.k0
  have cQ_1 := Q9.k1
  have cQ_2 := Q9.k2
  have cS_b := S9.hb
  have cS_f := S9.fz
  have cS_0 := S9.k0
  have cS_1 := S9.k1
  have cS_2 := S9.k2
  have cT_b := T9.hb
  have cT_f := T9.fz
  have cT_0 := T9.k0
  have cT_1 := T9.k1
  have cT_2 := T9.k2
  go_wp2_with fail
  clear cA_b cA_f cA_0 cA_1 cA_2 cC_b cC_f cC_0 cC_1 cC_2 cX_b cX_f cX_0 cX_1 cX_2 cY_b cY_f cY_0 cY_1 cY_2 cP_b cP_f cP_0 cP_1 cP_2 cQ_b cQ_f cQ_0 cQ_1 cQ_2 cS_b cS_f cS_0 cS_1 cS_2 cT_b cT_f cT_0 cT_1 cT_2
  go_ret
  exact ⟨rfl, (by have hz := B9.out.size; repeat (first | exact B9.out | refine below_drewN ?_ _ | refine Below.drew ?_ | refine Below.setCell ?_ (by first | omega | (simp; done) | (simp; omega)) _ | refine Below.alloc ?_ (by first | omega | (simp; done) | (simp; omega)) _))⟩
end Go.Proofs.Ytlehbnfocilcmab

