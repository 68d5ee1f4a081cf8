/- The answers that noontidelaw06.lives asks for: it is true. -/
import Derived.Test.YtlehbnfocilcmabMoC
set_option linter.unusedVariables false
set_option linter.unusedSimpArgs false
namespace Go.Proofs.Ytlehbnfocilcmab
open Go.RowKit Go.Sort

set_option maxHeartbeats 4000000 in
set_option maxRecDepth 100000 in
theorem lives6 (w : World) :
    Calls Try.prog 32 #[] w fun e w' => e = .returned (.bool true) ∧ Below w.heap.size w w' := by
  go_enter Try.func32, Try.ntmps32
  go_wp2_with fail
  refine (madd_any 2023 1 31 1 _ (by decide) (by decide)).mono ?_; rintro e w1 ⟨rfl, b1⟩
  have d1 : Below w.heap.size w w1 := below_step (by repeat (first | exact Below.refl _ _ | refine below_drewN ?_ _ | refine Below.drew ?_ | refine Below.setCell ?_ (by simp) _ | refine Below.alloc ?_ (by simp) _)) b1
  have B1 := Lib.hid d1
  have J1 : Bk3 w1 (w.heap.size) (.int .i64 2023) (.int .i64 1) (.int .i64 31) := Bk3.of b1 (by simp <;> omega) (by intro j; simp [go_sem]) (by simp [go_sem]) (by simp [go_sem]) (by simp [go_sem])
  have L1 : Bk3 w1 (w.heap.size + 1) (.int .i64 2024) (.int .i64 2) (.int .i64 29) := Bk3.of b1 (by simp <;> omega) (by intro j; simp [go_sem]) (by simp [go_sem]) (by simp [go_sem]) (by simp [go_sem])
  clear b1 d1
  rw [show Cal.orz (Mo.mok 2023 1 31 1) (Mo.mY 2023 1 1) = 2023 by decide, show Cal.orz (Mo.mok 2023 1 31 1) (Mo.mM 2023 1 1) = 2 by decide, show Cal.orz (Mo.mok 2023 1 31 1) (Mo.mD 2023 1 31 1) = 28 by decide, show Cal.why (Mo.mok 2023 1 31 1) = 0 by decide]
  have cJ_b := J1.hb
  have cJ_f := J1.fz
  have cJ_0 := J1.k0
  have cJ_1 := J1.k1
  have cJ_2 := J1.k2
  have cL_b := L1.hb
  have cL_f := L1.fz
  have cL_0 := L1.k0
  have cL_1 := L1.k1
  have cL_2 := L1.k2
  go_wp2_with fail
  clear cJ_b cJ_f cJ_0 cJ_1 cJ_2 cL_b cL_f cL_0 cL_1 cL_2
  refine (myears_any 2024 2 29 1 _ (by decide) (by decide)).mono ?_; rintro e w2 ⟨rfl, b2⟩
  have d2 : Below w1.heap.size w1 w2 := below_step (by repeat (first | exact Below.refl _ _ | refine below_drewN ?_ _ | refine Below.drew ?_ | refine Below.setCell ?_ (by simp) _ | refine Below.alloc ?_ (by simp) _)) b2
  have B2 := Lib.hid (below_step B1.out d2)
  have J2 := J1.keep d2
  have L2 := L1.keep d2
  have aA := B1.out.size
  have nAJ := Nat.ne_of_lt J1.hb
  have oAJ := Nat.ne_of_gt J1.hb
  have nAL := Nat.ne_of_lt L1.hb
  have oAL := Nat.ne_of_gt L1.hb
  have A2 : Bk3 w2 (w1.heap.size) (.int .i64 (2023)) (.int .i64 (2)) (.int .i64 (28)) := Bk3.of b2 (by simp <;> omega) (by intro j; simp [go_sem]) (by simp [go_sem]) (by simp [go_sem]) (by simp [go_sem])
  clear J1 L1 b2 d2 B1
  rw [show Cal.orz (Mo.mok 2024 2 29 (1 * 12)) (Mo.mY 2024 2 (1 * 12)) = 2025 by decide, show Cal.orz (Mo.mok 2024 2 29 (1 * 12)) (Mo.mM 2024 2 (1 * 12)) = 2 by decide, show Cal.orz (Mo.mok 2024 2 29 (1 * 12)) (Mo.mD 2024 2 29 (1 * 12)) = 28 by decide, show Cal.why (Mo.mok 2024 2 29 (1 * 12)) = 0 by decide]
  have cJ_b := J2.hb
  have cJ_f := J2.fz
  have cJ_0 := J2.k0
  have cJ_1 := J2.k1
  have cJ_2 := J2.k2
  have cL_b := L2.hb
  have cL_f := L2.fz
  have cL_0 := L2.k0
  have cL_1 := L2.k1
  have cL_2 := L2.k2
  have cA_b := A2.hb
  have cA_f := A2.fz
  have cA_0 := A2.k0
  have cA_1 := A2.k1
  have cA_2 := A2.k2
  go_wp2_with fail
  clear cJ_b cJ_f cJ_0 cJ_1 cJ_2 cL_b cL_f cL_0 cL_1 cL_2 cA_b cA_f cA_0 cA_1 cA_2
  refine (myears_any 2024 2 29 (-4) _ (by decide) (by decide)).mono ?_; rintro e w3 ⟨rfl, b3⟩
  have d3 : Below w2.heap.size w2 w3 := below_step (by repeat (first | exact Below.refl _ _ | refine below_drewN ?_ _ | refine Below.drew ?_ | refine Below.setCell ?_ (by simp) _ | refine Below.alloc ?_ (by simp) _)) b3
  have B3 := Lib.hid (below_step B2.out d3)
  have J3 := J2.keep d3
  have L3 := L2.keep d3
  have A3 := A2.keep d3
  have aBb := B2.out.size
  have nBbJ := Nat.ne_of_lt J2.hb
  have oBbJ := Nat.ne_of_gt J2.hb
  have nBbL := Nat.ne_of_lt L2.hb
  have oBbL := Nat.ne_of_gt L2.hb
  have nBbA := Nat.ne_of_lt A2.hb
  have oBbA := Nat.ne_of_gt A2.hb
  have Bb3 : Bk3 w3 (w2.heap.size) (.int .i64 (2025)) (.int .i64 (2)) (.int .i64 (28)) := Bk3.of b3 (by simp <;> omega) (by intro j; simp [go_sem]) (by simp [go_sem]) (by simp [go_sem]) (by simp [go_sem])
  clear J2 L2 A2 b3 d3 B2
  rw [show Cal.orz (Mo.mok 2024 2 29 ((-4) * 12)) (Mo.mY 2024 2 ((-4) * 12)) = 2020 by decide, show Cal.orz (Mo.mok 2024 2 29 ((-4) * 12)) (Mo.mM 2024 2 ((-4) * 12)) = 2 by decide, show Cal.orz (Mo.mok 2024 2 29 ((-4) * 12)) (Mo.mD 2024 2 29 ((-4) * 12)) = 29 by decide, show Cal.why (Mo.mok 2024 2 29 ((-4) * 12)) = 0 by decide]
  have cJ_b := J3.hb
  have cJ_f := J3.fz
  have cJ_0 := J3.k0
  have cJ_1 := J3.k1
  have cJ_2 := J3.k2
  have cL_b := L3.hb
  have cL_f := L3.fz
  have cL_0 := L3.k0
  have cL_1 := L3.k1
  have cL_2 := L3.k2
  have cA_b := A3.hb
  have cA_f := A3.fz
  have cA_0 := A3.k0
  have cA_1 := A3.k1
  have cA_2 := A3.k2
  have cBb_b := Bb3.hb
  have cBb_f := Bb3.fz
  have cBb_0 := Bb3.k0
  have cBb_1 := Bb3.k1
  have cBb_2 := Bb3.k2
  go_wp2_with fail
  clear cJ_b cJ_f cJ_0 cJ_1 cJ_2 cL_b cL_f cL_0 cL_1 cL_2 cA_b cA_f cA_0 cA_1 cA_2 cBb_b cBb_f cBb_0 cBb_1 cBb_2
  refine (mdays_any 2023 1 31 30 _ (by decide) (by decide)).mono ?_; rintro e w4 ⟨rfl, b4⟩
  have d4 : Below w3.heap.size w3 w4 := below_step (by repeat (first | exact Below.refl _ _ | refine below_drewN ?_ _ | refine Below.drew ?_ | refine Below.setCell ?_ (by simp) _ | refine Below.alloc ?_ (by simp) _)) b4
  have B4 := Lib.hid (below_step B3.out d4)
  have J4 := J3.keep d4
  have L4 := L3.keep d4
  have A4 := A3.keep d4
  have Bb4 := Bb3.keep d4
  have aC := B3.out.size
  have nCJ := Nat.ne_of_lt J3.hb
  have oCJ := Nat.ne_of_gt J3.hb
  have nCL := Nat.ne_of_lt L3.hb
  have oCL := Nat.ne_of_gt L3.hb
  have nCA := Nat.ne_of_lt A3.hb
  have oCA := Nat.ne_of_gt A3.hb
  have nCBb := Nat.ne_of_lt Bb3.hb
  have oCBb := Nat.ne_of_gt Bb3.hb
  have C4 : Bk3 w4 (w3.heap.size) (.int .i64 (2020)) (.int .i64 (2)) (.int .i64 (29)) := Bk3.of b4 (by simp <;> omega) (by intro j; simp [go_sem]) (by simp [go_sem]) (by simp [go_sem]) (by simp [go_sem])
  clear J3 L3 A3 Bb3 b4 d4 B3
  rw [show Cal.orz (Mo.dok 2023 1 31 30) (Cal.dY (Cal.num 2023 1 31 + 30)) = 2023 by decide, show Cal.orz (Mo.dok 2023 1 31 30) (Cal.dM (Cal.num 2023 1 31 + 30)) = 3 by decide, show Cal.orz (Mo.dok 2023 1 31 30) (Cal.dD (Cal.num 2023 1 31 + 30)) = 2 by decide, show Cal.why (Mo.dok 2023 1 31 30) = 0 by decide]
  have cJ_b := J4.hb
  have cJ_f := J4.fz
  have cJ_0 := J4.k0
  have cJ_1 := J4.k1
  have cJ_2 := J4.k2
  have cL_b := L4.hb
  have cL_f := L4.fz
  have cL_0 := L4.k0
  have cL_1 := L4.k1
  have cL_2 := L4.k2
  have cA_b := A4.hb
  have cA_f := A4.fz
  have cA_0 := A4.k0
  have cA_1 := A4.k1
  have cA_2 := A4.k2
  have cBb_b := Bb4.hb
  have cBb_f := Bb4.fz
  have cBb_0 := Bb4.k0
  have cBb_1 := Bb4.k1
  have cBb_2 := Bb4.k2
  have cC_b := C4.hb
  have cC_f := C4.fz
  have cC_0 := C4.k0
  have cC_1 := C4.k1
  have cC_2 := C4.k2
  go_wp2_with fail
  clear cJ_b cJ_f cJ_0 cJ_1 cJ_2 cL_b cL_f cL_0 cL_1 cL_2 cA_b cA_f cA_0 cA_1 cA_2 cBb_b cBb_f cBb_0 cBb_1 cBb_2 cC_b cC_f cC_0 cC_1 cC_2
  refine (madd_any 0 0 0 0 _ (by decide) (by decide)).mono ?_; rintro e w5 ⟨rfl, b5⟩
  have d5 : Below w4.heap.size w4 w5 := below_step (by repeat (first | exact Below.refl _ _ | refine below_drewN ?_ _ | refine Below.drew ?_ | refine Below.setCell ?_ (by simp) _ | refine Below.alloc ?_ (by simp) _)) b5
  have B5 := Lib.hid (below_step B4.out d5)
  have J5 := J4.keep d5
  have L5 := L4.keep d5
  have A5 := A4.keep d5
  have Bb5 := Bb4.keep d5
  have C5 := C4.keep d5
  have aD := B4.out.size
  have nDJ := Nat.ne_of_lt J4.hb
  have oDJ := Nat.ne_of_gt J4.hb
  have nDL := Nat.ne_of_lt L4.hb
  have oDL := Nat.ne_of_gt L4.hb
  have nDA := Nat.ne_of_lt A4.hb
  have oDA := Nat.ne_of_gt A4.hb
  have nDBb := Nat.ne_of_lt Bb4.hb
  have oDBb := Nat.ne_of_gt Bb4.hb
  have nDC := Nat.ne_of_lt C4.hb
  have oDC := Nat.ne_of_gt C4.hb
  have D5 : Bk3 w5 (w4.heap.size) (.int .i64 (2023)) (.int .i64 (3)) (.int .i64 (2)) := Bk3.of b5 (by simp <;> omega) (by intro j; simp [go_sem]) (by simp [go_sem]) (by simp [go_sem]) (by simp [go_sem])
  clear J4 L4 A4 Bb4 C4 b5 d5 B4
  rw [show Cal.orz (Mo.mok 0 0 0 0) (Mo.mY 0 0 0) = 0 by decide, show Cal.orz (Mo.mok 0 0 0 0) (Mo.mM 0 0 0) = 0 by decide, show Cal.orz (Mo.mok 0 0 0 0) (Mo.mD 0 0 0 0) = 0 by decide, show Cal.why (Mo.mok 0 0 0 0) = 1 by decide]
  have cJ_b := J5.hb
  have cJ_f := J5.fz
  have cJ_0 := J5.k0
  have cJ_1 := J5.k1
  have cJ_2 := J5.k2
  have cL_b := L5.hb
  have cL_f := L5.fz
  have cL_0 := L5.k0
  have cL_1 := L5.k1
  have cL_2 := L5.k2
  have cA_b := A5.hb
  have cA_f := A5.fz
  have cA_0 := A5.k0
  have cA_1 := A5.k1
  have cA_2 := A5.k2
  have cBb_b := Bb5.hb
  have cBb_f := Bb5.fz
  have cBb_0 := Bb5.k0
  have cBb_1 := Bb5.k1
  have cBb_2 := Bb5.k2
  have cC_b := C5.hb
  have cC_f := C5.fz
  have cC_0 := C5.k0
  have cC_1 := C5.k1
  have cC_2 := C5.k2
  have cD_b := D5.hb
  have cD_f := D5.fz
  have cD_0 := D5.k0
  have cD_1 := D5.k1
  have cD_2 := D5.k2
  go_wp2_with fail
  clear cJ_b cJ_f cJ_0 cJ_1 cJ_2 cL_b cL_f cL_0 cL_1 cL_2 cA_b cA_f cA_0 cA_1 cA_2 cBb_b cBb_f cBb_0 cBb_1 cBb_2 cC_b cC_f cC_0 cC_1 cC_2 cD_b cD_f cD_0 cD_1 cD_2
  refine (madd_any 2023 1 31 4611686018427387904 _ (by decide) (by decide)).mono ?_; rintro e w6 ⟨rfl, b6⟩
  have d6 : Below w5.heap.size w5 w6 := below_step (by repeat (first | exact Below.refl _ _ | refine below_drewN ?_ _ | refine Below.drew ?_ | refine Below.setCell ?_ (by simp) _ | refine Below.alloc ?_ (by simp) _)) b6
  have B6 := Lib.hid (below_step B5.out d6)
  have J6 := J5.keep d6
  have L6 := L5.keep d6
  have A6 := A5.keep d6
  have Bb6 := Bb5.keep d6
  have C6 := C5.keep d6
  have D6 := D5.keep d6
  clear J5 L5 A5 Bb5 C5 D5 b6 d6 B5
  rw [show Cal.orz (Mo.mok 2023 1 31 4611686018427387904) (Mo.mY 2023 1 4611686018427387904) = 0 by decide, show Cal.orz (Mo.mok 2023 1 31 4611686018427387904) (Mo.mM 2023 1 4611686018427387904) = 0 by decide, show Cal.orz (Mo.mok 2023 1 31 4611686018427387904) (Mo.mD 2023 1 31 4611686018427387904) = 0 by decide, show Cal.why (Mo.mok 2023 1 31 4611686018427387904) = 1 by decide]
  have cJ_b := J6.hb
  have cJ_f := J6.fz
  have cJ_0 := J6.k0
  have cJ_1 := J6.k1
  have cJ_2 := J6.k2
  have cL_b := L6.hb
  have cL_f := L6.fz
  have cL_0 := L6.k0
  have cL_1 := L6.k1
  have cL_2 := L6.k2
  have cA_b := A6.hb
  have cA_f := A6.fz
  have cA_0 := A6.k0
  have cA_1 := A6.k1
  have cA_2 := A6.k2
  have cBb_b := Bb6.hb
  have cBb_f := Bb6.fz
  have cBb_0 := Bb6.k0
  have cBb_1 := Bb6.k1
  have cBb_2 := Bb6.k2
  have cC_b := C6.hb
  have cC_f := C6.fz
  have cC_0 := C6.k0
  have cC_1 := C6.k1
  have cC_2 := C6.k2
  have cD_b := D6.hb
  have cD_f := D6.fz
  have cD_0 := D6.k0
  have cD_1 := D6.k1
  have cD_2 := D6.k2
  go_wp2_with fail
  clear cJ_b cJ_f cJ_0 cJ_1 cJ_2 cL_b cL_f cL_0 cL_1 cL_2 cA_b cA_f cA_0 cA_1 cA_2 cBb_b cBb_f cBb_0 cBb_1 cBb_2 cC_b cC_f cC_0 cC_1 cC_2 cD_b cD_f cD_0 cD_1 cD_2
  refine (myears_any 2023 1 31 4611686018427387904 _ (by decide) (by decide)).mono ?_; rintro e w7 ⟨rfl, b7⟩
  have d7 : Below w6.heap.size w6 w7 := below_step (by repeat (first | exact Below.refl _ _ | refine below_drewN ?_ _ | refine Below.drew ?_ | refine Below.setCell ?_ (by simp) _ | refine Below.alloc ?_ (by simp) _)) b7
  have B7 := Lib.hid (below_step B6.out d7)
  have J7 := J6.keep d7
  have L7 := L6.keep d7
  have A7 := A6.keep d7
  have Bb7 := Bb6.keep d7
  have C7 := C6.keep d7
  have D7 := D6.keep d7
  clear J6 L6 A6 Bb6 C6 D6 b7 d7 B6
  rw [show Cal.orz (Mo.mok 2023 1 31 (4611686018427387904 * 12)) (Mo.mY 2023 1 (4611686018427387904 * 12)) = 0 by decide, show Cal.orz (Mo.mok 2023 1 31 (4611686018427387904 * 12)) (Mo.mM 2023 1 (4611686018427387904 * 12)) = 0 by decide, show Cal.orz (Mo.mok 2023 1 31 (4611686018427387904 * 12)) (Mo.mD 2023 1 31 (4611686018427387904 * 12)) = 0 by decide, show Cal.why (Mo.mok 2023 1 31 (4611686018427387904 * 12)) = 1 by decide]
  have cJ_b := J7.hb
  have cJ_f := J7.fz
  have cJ_0 := J7.k0
  have cJ_1 := J7.k1
  have cJ_2 := J7.k2
  have cL_b := L7.hb
  have cL_f := L7.fz
  have cL_0 := L7.k0
  have cL_1 := L7.k1
  have cL_2 := L7.k2
  have cA_b := A7.hb
  have cA_f := A7.fz
  have cA_0 := A7.k0
  have cA_1 := A7.k1
  have cA_2 := A7.k2
  have cBb_b := Bb7.hb
  have cBb_f := Bb7.fz
  have cBb_0 := Bb7.k0
  have cBb_1 := Bb7.k1
  have cBb_2 := Bb7.k2
  have cC_b := C7.hb
  have cC_f := C7.fz
  have cC_0 := C7.k0
  have cC_1 := C7.k1
  have cC_2 := C7.k2
  have cD_b := D7.hb
  have cD_f := D7.fz
  have cD_0 := D7.k0
  have cD_1 := D7.k1
  have cD_2 := D7.k2
  go_wp2_with fail
  clear cJ_b cJ_f cJ_0 cJ_1 cJ_2 cL_b cL_f cL_0 cL_1 cL_2 cA_b cA_f cA_0 cA_1 cA_2 cBb_b cBb_f cBb_0 cBb_1 cBb_2 cC_b cC_f cC_0 cC_1 cC_2 cD_b cD_f cD_0 cD_1 cD_2
  refine (mdays_any 2023 1 31 (-4611686018427387904) _ (by decide) (by decide)).mono ?_; rintro e w8 ⟨rfl, b8⟩
  have d8 : Below w7.heap.size w7 w8 := below_step (by repeat (first | exact Below.refl _ _ | refine below_drewN ?_ _ | refine Below.drew ?_ | refine Below.setCell ?_ (by simp) _ | refine Below.alloc ?_ (by simp) _)) b8
  have B8 := Lib.hid (below_step B7.out d8)
  have J8 := J7.keep d8
  have L8 := L7.keep d8
  have A8 := A7.keep d8
  have Bb8 := Bb7.keep d8
  have C8 := C7.keep d8
  have D8 := D7.keep d8
  clear J7 L7 A7 Bb7 C7 D7 b8 d8 B7
  rw [show Cal.orz (Mo.dok 2023 1 31 (-4611686018427387904)) (Cal.dY (Cal.num 2023 1 31 + (-4611686018427387904))) = 0 by decide, show Cal.orz (Mo.dok 2023 1 31 (-4611686018427387904)) (Cal.dM (Cal.num 2023 1 31 + (-4611686018427387904))) = 0 by decide, show Cal.orz (Mo.dok 2023 1 31 (-4611686018427387904)) (Cal.dD (Cal.num 2023 1 31 + (-4611686018427387904))) = 0 by decide, show Cal.why (Mo.dok 2023 1 31 (-4611686018427387904)) = 1 by decide]
  have cJ_b := J8.hb
  have cJ_f := J8.fz
  have cJ_0 := J8.k0
  have cJ_1 := J8.k1
  have cJ_2 := J8.k2
  have cL_b := L8.hb
  have cL_f := L8.fz
  have cL_0 := L8.k0
  have cL_1 := L8.k1
  have cL_2 := L8.k2
  have cA_b := A8.hb
  have cA_f := A8.fz
  have cA_0 := A8.k0
  have cA_1 := A8.k1
  have cA_2 := A8.k2
  have cBb_b := Bb8.hb
  have cBb_f := Bb8.fz
  have cBb_0 := Bb8.k0
  have cBb_1 := Bb8.k1
  have cBb_2 := Bb8.k2
  have cC_b := C8.hb
  have cC_f := C8.fz
  have cC_0 := C8.k0
  have cC_1 := C8.k1
  have cC_2 := C8.k2
  have cD_b := D8.hb
  have cD_f := D8.fz
  have cD_0 := D8.k0
  have cD_1 := D8.k1
  have cD_2 := D8.k2
  go_wp2_with fail
  clear cJ_b cJ_f cJ_0 cJ_1 cJ_2 cL_b cL_f cL_0 cL_1 cL_2 cA_b cA_f cA_0 cA_1 cA_2 cBb_b cBb_f cBb_0 cBb_1 cBb_2 cC_b cC_f cC_0 cC_1 cC_2 cD_b cD_f cD_0 cD_1 cD_2
  refine (mbet_any 2023 1 31 2023 2 28 _).mono ?_; rintro e w9 ⟨rfl, b9⟩
  have d9 : Below w8.heap.size w8 w9 := below_step (by repeat (first | exact Below.refl _ _ | refine below_drewN ?_ _ | refine Below.drew ?_ | refine Below.setCell ?_ (by simp) _ | refine Below.alloc ?_ (by simp) _)) b9
  have B9 := Lib.hid (below_step B8.out d9)
  have J9 := J8.keep d9
  have L9 := L8.keep d9
  have A9 := A8.keep d9
  have Bb9 := Bb8.keep d9
  have C9 := C8.keep d9
  have D9 := D8.keep d9
  clear J8 L8 A8 Bb8 C8 D8 b9 d9 B8
  rw [show Cal.orz (Mo.bok 2023 1 31 2023 2 28) (Mo.bn 2023 1 31 2023 2 28) = 1 by decide, show Cal.why (Mo.bok 2023 1 31 2023 2 28) = 0 by decide]
  have cJ_b := J9.hb
  have cJ_f := J9.fz
  have cJ_0 := J9.k0
  have cJ_1 := J9.k1
  have cJ_2 := J9.k2
  have cL_b := L9.hb
  have cL_f := L9.fz
  have cL_0 := L9.k0
  have cL_1 := L9.k1
  have cL_2 := L9.k2
  have cA_b := A9.hb
  have cA_f := A9.fz
  have cA_0 := A9.k0
  have cA_1 := A9.k1
  have cA_2 := A9.k2
  have cBb_b := Bb9.hb
  have cBb_f := Bb9.fz
  have cBb_0 := Bb9.k0
  have cBb_1 := Bb9.k1
  have cBb_2 := Bb9.k2
  have cC_b := C9.hb
  have cC_f := C9.fz
  have cC_0 := C9.k0
  have cC_1 := C9.k1
  have cC_2 := C9.k2
  have cD_b := D9.hb
  have cD_f := D9.fz
  have cD_0 := D9.k0
  have cD_1 := D9.k1
  have cD_2 := D9.k2
  go_wp2_with fail
  clear cJ_b cJ_f cJ_0 cJ_1 cJ_2 cL_b cL_f cL_0 cL_1 cL_2 cA_b cA_f cA_0 cA_1 cA_2 cBb_b cBb_f cBb_0 cBb_1 cBb_2 cC_b cC_f cC_0 cC_1 cC_2 cD_b cD_f cD_0 cD_1 cD_2
  refine (mbet_any 2023 1 31 2022 12 30 _).mono ?_; rintro e w10 ⟨rfl, b10⟩
  have d10 : Below w9.heap.size w9 w10 := below_step (by repeat (first | exact Below.refl _ _ | refine below_drewN ?_ _ | refine Below.drew ?_ | refine Below.setCell ?_ (by simp) _ | refine Below.alloc ?_ (by simp) _)) b10
  have B10 := Lib.hid (below_step B9.out d10)
  have J10 := J9.keep d10
  have L10 := L9.keep d10
  have A10 := A9.keep d10
  have Bb10 := Bb9.keep d10
  have C10 := C9.keep d10
  have D10 := D9.keep d10
  clear J9 L9 A9 Bb9 C9 D9 b10 d10 B9
  rw [show Cal.orz (Mo.bok 2023 1 31 2022 12 30) (Mo.bn 2023 1 31 2022 12 30) = (-2) by decide, show Cal.why (Mo.bok 2023 1 31 2022 12 30) = 0 by decide]
  have cJ_b := J10.hb
  have cJ_f := J10.fz
  have cJ_0 := J10.k0
  have cJ_1 := J10.k1
  have cJ_2 := J10.k2
  have cL_b := L10.hb
  have cL_f := L10.fz
  have cL_0 := L10.k0
  have cL_1 := L10.k1
  have cL_2 := L10.k2
  have cA_b := A10.hb
  have cA_f := A10.fz
  have cA_0 := A10.k0
  have cA_1 := A10.k1
  have cA_2 := A10.k2
  have cBb_b := Bb10.hb
  have cBb_f := Bb10.fz
  have cBb_0 := Bb10.k0
  have cBb_1 := Bb10.k1
  have cBb_2 := Bb10.k2
  have cC_b := C10.hb
  have cC_f := C10.fz
  have cC_0 := C10.k0
  have cC_1 := C10.k1
  have cC_2 := C10.k2
  have cD_b := D10.hb
  have cD_f := D10.fz
  have cD_0 := D10.k0
  have cD_1 := D10.k1
  have cD_2 := D10.k2
  go_wp2_with fail
  clear cJ_b cJ_f cJ_0 cJ_1 cJ_2 cL_b cL_f cL_0 cL_1 cL_2 cA_b cA_f cA_0 cA_1 cA_2 cBb_b cBb_f cBb_0 cBb_1 cBb_2 cC_b cC_f cC_0 cC_1 cC_2 cD_b cD_f cD_0 cD_1 cD_2
  go_ret
  exact ⟨rfl, (by have hz := B10.out.size; repeat (first | exact B10.out | refine below_drewN ?_ _ | refine Below.drew ?_ | refine Below.setCell ?_ (by first | omega | (simp; done) | (simp; omega)) _ | refine Below.alloc ?_ (by first | omega | (simp; done) | (simp; omega)) _))⟩
end Go.Proofs.Ytlehbnfocilcmab

