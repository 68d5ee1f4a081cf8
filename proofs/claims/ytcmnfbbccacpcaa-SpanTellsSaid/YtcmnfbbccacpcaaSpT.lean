/- The answers that noontidelaw10.lives asks for: it is true; the walk of SpanTells. -/
import Derived.Test.YtcmnfbbccacpcaaSpM
import Derived.Test.YtcmnfbbccacpcaaSpS
set_option linter.unusedVariables false
set_option linter.unusedSimpArgs false
namespace Go.Proofs.Ytcmnfbbccacpcaa
open Go.RowKit Go.Sort

theorem four_cells {w : World} {b : Nat} {x y z u : Value} (h0 : w.cell? ⟨b, 0, none⟩ = some x) (h1 : w.cell? ⟨b, 1, none⟩ = some y) (h2 : w.cell? ⟨b, 2, none⟩ = some z) (h3 : w.cell? ⟨b, 3, none⟩ = some u) : ∀ (j : Nat) (v : Value), [x, y, z, u][j]? = some v → w.cell? ((⟨b, 0, none⟩ : Addr).add j) = some v := by
  intro j v hj
  match j, hj with
  | 0, hj => simp at hj; subst hj; simpa [Addr.add] using h0
  | 1, hj => simp at hj; subst hj; simpa [Addr.add] using h1
  | 2, hj => simp at hj; subst hj; simpa [Addr.add] using h2
  | 3, hj => simp at hj; subst hj; simpa [Addr.add] using h3
set_option maxHeartbeats 8000000 in
set_option maxRecDepth 100000 in
theorem lives10 (w : World) :
    Calls Try.prog 43 #[] w fun e w' => e = .returned (.bool true) ∧ Below w.heap.size w w' := by
  go_enter Try.func43, Try.ntmps43
  go_wp2_with fail
  refine (span_both 0 10 3 5 _).mono ?_; rintro e w1 ⟨rfl, b1⟩
  have d1 : Below w.heap.size w w1 := below_step (by repeat (first | exact Below.refl _ _ | refine below_drewN ?_ _ | refine Below.drew ?_ | refine Below.setCell ?_ (by first | (simp; done) | (simp; omega) | omega) _ | refine Below.alloc ?_ (by first | (simp; done) | (simp; omega) | omega) _)) b1
  have B1 := Lib.hid d1
  have A1 : Bk2 w1 (w.heap.size) (.int .i64 0) (.int .i64 10) := Bk2.of b1 (by simp <;> omega) (by intro j; simp [go_sem]) (by simp [go_sem]) (by simp [go_sem])
  have Bb1 : Bk2 w1 (w.heap.size + 1) (.int .i64 3) (.int .i64 5) := Bk2.of b1 (by simp <;> omega) (by intro j; simp [go_sem]) (by simp [go_sem]) (by simp [go_sem])
  have C1 : Bk2 w1 (w.heap.size + 2) (.int .i64 10) (.int .i64 12) := Bk2.of b1 (by simp <;> omega) (by intro j; simp [go_sem]) (by simp [go_sem]) (by simp [go_sem])
  clear b1 d1
  rw [show Sp.bz (Sp.mt 0 10 3 5) (max 0 3) = 3 by decide, show Sp.bz (Sp.mt 0 10 3 5) (min 10 5) = 5 by decide, show Sp.mt 0 10 3 5 = true by decide]
  have cA_b := A1.hb
  have cA_f := A1.fz
  have cA_0 := A1.k0
  have cA_1 := A1.k1
  have cBb_b := Bb1.hb
  have cBb_f := Bb1.fz
  have cBb_0 := Bb1.k0
  have cBb_1 := Bb1.k1
  have cC_b := C1.hb
  have cC_f := C1.fz
  have cC_0 := C1.k0
  have cC_1 := C1.k1
  go_wp2_with fail
  clear cA_b cA_f cA_0 cA_1 cBb_b cBb_f cBb_0 cBb_1 cC_b cC_f cC_0 cC_1
  refine (span_join 0 10 10 12 _).mono ?_; rintro e w2 ⟨rfl, b2⟩
  have d2 : Below w1.heap.size w1 w2 := below_step (by repeat (first | exact Below.refl _ _ | refine below_drewN ?_ _ | refine Below.drew ?_ | refine Below.setCell ?_ (by first | (simp; done) | (simp; omega) | omega) _ | refine Below.alloc ?_ (by first | (simp; done) | (simp; omega) | omega) _)) b2
  have B2 := Lib.hid (below_step B1.out d2)
  have A2 := A1.keep d2
  have Bb2 := Bb1.keep d2
  have C2 := C1.keep d2
  have aX := B1.out.size
  have nXA := Nat.ne_of_lt A1.hb
  have oXA := Nat.ne_of_gt A1.hb
  have nXBb := Nat.ne_of_lt Bb1.hb
  have oXBb := Nat.ne_of_gt Bb1.hb
  have nXC := Nat.ne_of_lt C1.hb
  have oXC := Nat.ne_of_gt C1.hb
  have X2 : Bk2 w2 (w1.heap.size) (.int .i64 3) (.int .i64 5) := Bk2.of b2 (by simp <;> omega) (by intro j; simp [go_sem]) (by simp [go_sem]) (by simp [go_sem])
  clear A1 Bb1 C1 b2 d2 B1
  rw [show Sp.bz (Sp.jn 0 10 10 12) (min 0 10) = 0 by decide, show Sp.bz (Sp.jn 0 10 10 12) (max 10 12) = 12 by decide, show Sp.jn 0 10 10 12 = true by decide]
  have cA_b := A2.hb
  have cA_f := A2.fz
  have cA_0 := A2.k0
  have cA_1 := A2.k1
  have cBb_b := Bb2.hb
  have cBb_f := Bb2.fz
  have cBb_0 := Bb2.k0
  have cBb_1 := Bb2.k1
  have cC_b := C2.hb
  have cC_f := C2.fz
  have cC_0 := C2.k0
  have cC_1 := C2.k1
  have cX_b := X2.hb
  have cX_f := X2.fz
  have cX_0 := X2.k0
  have cX_1 := X2.k1
  go_wp2_with fail
  clear cA_b cA_f cA_0 cA_1 cBb_b cBb_f cBb_0 cBb_1 cC_b cC_f cC_0 cC_1 cX_b cX_f cX_0 cX_1
  refine (span_join 3 5 10 12 _).mono ?_; rintro e w3 ⟨rfl, b3⟩
  have d3 : Below w2.heap.size w2 w3 := below_step (by repeat (first | exact Below.refl _ _ | refine below_drewN ?_ _ | refine Below.drew ?_ | refine Below.setCell ?_ (by first | (simp; done) | (simp; omega) | omega) _ | refine Below.alloc ?_ (by first | (simp; done) | (simp; omega) | omega) _)) b3
  have B3 := Lib.hid (below_step B2.out d3)
  have A3 := A2.keep d3
  have Bb3 := Bb2.keep d3
  have C3 := C2.keep d3
  have X3 := X2.keep d3
  have aY := B2.out.size
  have nYA := Nat.ne_of_lt A2.hb
  have oYA := Nat.ne_of_gt A2.hb
  have nYBb := Nat.ne_of_lt Bb2.hb
  have oYBb := Nat.ne_of_gt Bb2.hb
  have nYC := Nat.ne_of_lt C2.hb
  have oYC := Nat.ne_of_gt C2.hb
  have nYX := Nat.ne_of_lt X2.hb
  have oYX := Nat.ne_of_gt X2.hb
  have Y3 : Bk2 w3 (w2.heap.size) (.int .i64 0) (.int .i64 12) := Bk2.of b3 (by simp <;> omega) (by intro j; simp [go_sem]) (by simp [go_sem]) (by simp [go_sem])
  clear A2 Bb2 C2 X2 b3 d3 B2
  rw [show Sp.bz (Sp.jn 3 5 10 12) (min 3 10) = 0 by decide, show Sp.bz (Sp.jn 3 5 10 12) (max 5 12) = 0 by decide, show Sp.jn 3 5 10 12 = false by decide]
  have cA_b := A3.hb
  have cA_f := A3.fz
  have cA_0 := A3.k0
  have cA_1 := A3.k1
  have cBb_b := Bb3.hb
  have cBb_f := Bb3.fz
  have cBb_0 := Bb3.k0
  have cBb_1 := Bb3.k1
  have cC_b := C3.hb
  have cC_f := C3.fz
  have cC_0 := C3.k0
  have cC_1 := C3.k1
  have cX_b := X3.hb
  have cX_f := X3.fz
  have cX_0 := X3.k0
  have cX_1 := X3.k1
  have cY_b := Y3.hb
  have cY_f := Y3.fz
  have cY_0 := Y3.k0
  have cY_1 := Y3.k1
  go_wp2_with fail
  clear cA_b cA_f cA_0 cA_1 cBb_b cBb_f cBb_0 cBb_1 cC_b cC_f cC_0 cC_1 cX_b cX_f cX_0 cX_1 cY_b cY_f cY_0 cY_1
  refine (span_len 3 5 _ (by decide) (by decide) (by decide) (by decide)).mono ?_; rintro e w4 ⟨rfl, b4⟩
  have d4 : Below w3.heap.size w3 w4 := below_step (by repeat (first | exact Below.refl _ _ | refine below_drewN ?_ _ | refine Below.drew ?_ | refine Below.setCell ?_ (by first | (simp; done) | (simp; omega) | omega) _ | refine Below.alloc ?_ (by first | (simp; done) | (simp; omega) | omega) _)) b4
  have B4 := Lib.hid (below_step B3.out d4)
  have A4 := A3.keep d4
  have Bb4 := Bb3.keep d4
  have C4 := C3.keep d4
  have X4 := X3.keep d4
  have Y4 := Y3.keep d4
  have aZ := B3.out.size
  have nZA := Nat.ne_of_lt A3.hb
  have oZA := Nat.ne_of_gt A3.hb
  have nZBb := Nat.ne_of_lt Bb3.hb
  have oZBb := Nat.ne_of_gt Bb3.hb
  have nZC := Nat.ne_of_lt C3.hb
  have oZC := Nat.ne_of_gt C3.hb
  have nZX := Nat.ne_of_lt X3.hb
  have oZX := Nat.ne_of_gt X3.hb
  have nZY := Nat.ne_of_lt Y3.hb
  have oZY := Nat.ne_of_gt Y3.hb
  have Z4 : Bk2 w4 (w3.heap.size) (.int .i64 0) (.int .i64 0) := Bk2.of b4 (by simp <;> omega) (by intro j; simp [go_sem]) (by simp [go_sem]) (by simp [go_sem])
  clear A3 Bb3 C3 X3 Y3 b4 d4 B3
  rw [show Sp.ln 3 5 = 2 by decide, show Sp.lw 3 5 = 0 by decide]
  have cA_b := A4.hb
  have cA_f := A4.fz
  have cA_0 := A4.k0
  have cA_1 := A4.k1
  have cBb_b := Bb4.hb
  have cBb_f := Bb4.fz
  have cBb_0 := Bb4.k0
  have cBb_1 := Bb4.k1
  have cC_b := C4.hb
  have cC_f := C4.fz
  have cC_0 := C4.k0
  have cC_1 := C4.k1
  have cX_b := X4.hb
  have cX_f := X4.fz
  have cX_0 := X4.k0
  have cX_1 := X4.k1
  have cY_b := Y4.hb
  have cY_f := Y4.fz
  have cY_0 := Y4.k0
  have cY_1 := Y4.k1
  have cZ_b := Z4.hb
  have cZ_f := Z4.fz
  have cZ_0 := Z4.k0
  have cZ_1 := Z4.k1
  go_wp2_with fail
  clear cA_b cA_f cA_0 cA_1 cBb_b cBb_f cBb_0 cBb_1 cC_b cC_f cC_0 cC_1 cX_b cX_f cX_0 cX_1 cY_b cY_f cY_0 cY_1 cZ_b cZ_f cZ_0 cZ_1
  refine (span_len (-9223372036854775808) 9223372036854775807 _ (by decide) (by decide) (by decide) (by decide)).mono ?_; rintro e w5 ⟨rfl, b5⟩
  have d5 : Below w4.heap.size w4 w5 := below_step (by repeat (first | exact Below.refl _ _ | refine below_drewN ?_ _ | refine Below.drew ?_ | refine Below.setCell ?_ (by first | (simp; done) | (simp; omega) | omega) _ | refine Below.alloc ?_ (by first | (simp; done) | (simp; omega) | omega) _)) b5
  have B5 := Lib.hid (below_step B4.out d5)
  have A5 := A4.keep d5
  have Bb5 := Bb4.keep d5
  have C5 := C4.keep d5
  have X5 := X4.keep d5
  have Y5 := Y4.keep d5
  have Z5 := Z4.keep d5
  clear A4 Bb4 C4 X4 Y4 Z4 b5 d5 B4
  rw [show Sp.ln (-9223372036854775808) 9223372036854775807 = 0 by decide, show Sp.lw (-9223372036854775808) 9223372036854775807 = 1 by decide]
  have cA_b := A5.hb
  have cA_f := A5.fz
  have cA_0 := A5.k0
  have cA_1 := A5.k1
  have cBb_b := Bb5.hb
  have cBb_f := Bb5.fz
  have cBb_0 := Bb5.k0
  have cBb_1 := Bb5.k1
  have cC_b := C5.hb
  have cC_f := C5.fz
  have cC_0 := C5.k0
  have cC_1 := C5.k1
  have cX_b := X5.hb
  have cX_f := X5.fz
  have cX_0 := X5.k0
  have cX_1 := X5.k1
  have cY_b := Y5.hb
  have cY_f := Y5.fz
  have cY_0 := Y5.k0
  have cY_1 := Y5.k1
  have cZ_b := Z5.hb
  have cZ_f := Z5.fz
  have cZ_0 := Z5.k0
  have cZ_1 := Z5.k1
  go_wp2_with fail
  clear cA_b cA_f cA_0 cA_1 cBb_b cBb_f cBb_0 cBb_1 cC_b cC_f cC_0 cC_1 cX_b cX_f cX_0 cX_1 cY_b cY_f cY_0 cY_1 cZ_b cZ_f cZ_0 cZ_1
  refine (span_move 3 5 (-4) _ (by decide) (by decide) (by decide) (by decide) (by decide) (by decide)).mono ?_; rintro e w6 ⟨rfl, b6⟩
  have d6 : Below w5.heap.size w5 w6 := below_step (by repeat (first | exact Below.refl _ _ | refine below_drewN ?_ _ | refine Below.drew ?_ | refine Below.setCell ?_ (by first | (simp; done) | (simp; omega) | omega) _ | refine Below.alloc ?_ (by first | (simp; done) | (simp; omega) | omega) _)) b6
  have B6 := Lib.hid (below_step B5.out d6)
  have A6 := A5.keep d6
  have Bb6 := Bb5.keep d6
  have C6 := C5.keep d6
  have X6 := X5.keep d6
  have Y6 := Y5.keep d6
  have Z6 := Z5.keep d6
  clear A5 Bb5 C5 X5 Y5 Z5 b6 d6 B5
  rw [show Sp.bz (Sp.mv 3 5 (-4)) (3 + -4) = -1 by decide, show Sp.bz (Sp.mv 3 5 (-4)) (5 + -4) = 1 by decide, show Sp.why (Sp.mv 3 5 (-4)) = 0 by decide]
  have cA_b := A6.hb
  have cA_f := A6.fz
  have cA_0 := A6.k0
  have cA_1 := A6.k1
  have cBb_b := Bb6.hb
  have cBb_f := Bb6.fz
  have cBb_0 := Bb6.k0
  have cBb_1 := Bb6.k1
  have cC_b := C6.hb
  have cC_f := C6.fz
  have cC_0 := C6.k0
  have cC_1 := C6.k1
  have cX_b := X6.hb
  have cX_f := X6.fz
  have cX_0 := X6.k0
  have cX_1 := X6.k1
  have cY_b := Y6.hb
  have cY_f := Y6.fz
  have cY_0 := Y6.k0
  have cY_1 := Y6.k1
  have cZ_b := Z6.hb
  have cZ_f := Z6.fz
  have cZ_0 := Z6.k0
  have cZ_1 := Z6.k1
  go_wp2_with fail
  clear cA_b cA_f cA_0 cA_1 cBb_b cBb_f cBb_0 cBb_1 cC_b cC_f cC_0 cC_1 cX_b cX_f cX_0 cX_1 cY_b cY_f cY_0 cY_1 cZ_b cZ_f cZ_0 cZ_1
  refine (span_move 3 5 9223372036854775807 _ (by decide) (by decide) (by decide) (by decide) (by decide) (by decide)).mono ?_; rintro e w7 ⟨rfl, b7⟩
  have d7 : Below w6.heap.size w6 w7 := below_step (by repeat (first | exact Below.refl _ _ | refine below_drewN ?_ _ | refine Below.drew ?_ | refine Below.setCell ?_ (by first | (simp; done) | (simp; omega) | omega) _ | refine Below.alloc ?_ (by first | (simp; done) | (simp; omega) | omega) _)) b7
  have B7 := Lib.hid (below_step B6.out d7)
  have A7 := A6.keep d7
  have Bb7 := Bb6.keep d7
  have C7 := C6.keep d7
  have X7 := X6.keep d7
  have Y7 := Y6.keep d7
  have Z7 := Z6.keep d7
  have aU := B6.out.size
  have nUA := Nat.ne_of_lt A6.hb
  have oUA := Nat.ne_of_gt A6.hb
  have nUBb := Nat.ne_of_lt Bb6.hb
  have oUBb := Nat.ne_of_gt Bb6.hb
  have nUC := Nat.ne_of_lt C6.hb
  have oUC := Nat.ne_of_gt C6.hb
  have nUX := Nat.ne_of_lt X6.hb
  have oUX := Nat.ne_of_gt X6.hb
  have nUY := Nat.ne_of_lt Y6.hb
  have oUY := Nat.ne_of_gt Y6.hb
  have nUZ := Nat.ne_of_lt Z6.hb
  have oUZ := Nat.ne_of_gt Z6.hb
  have U7 : Bk2 w7 (w6.heap.size) (.int .i64 (-1)) (.int .i64 1) := Bk2.of b7 (by simp <;> omega) (by intro j; simp [go_sem]) (by simp [go_sem]) (by simp [go_sem])
  clear A6 Bb6 C6 X6 Y6 Z6 b7 d7 B6
  rw [show Sp.bz (Sp.mv 3 5 9223372036854775807) (3 + 9223372036854775807) = 0 by decide, show Sp.bz (Sp.mv 3 5 9223372036854775807) (5 + 9223372036854775807) = 0 by decide, show Sp.why (Sp.mv 3 5 9223372036854775807) = 1 by decide]
  clear Z7 aZ
  have cA_b := A7.hb
  have cA_f := A7.fz
  have cA_0 := A7.k0
  have cA_1 := A7.k1
  have cBb_b := Bb7.hb
  have cBb_f := Bb7.fz
  have cBb_0 := Bb7.k0
  have cBb_1 := Bb7.k1
  have cC_b := C7.hb
  have cC_f := C7.fz
  have cC_0 := C7.k0
  have cC_1 := C7.k1
  have cX_b := X7.hb
  have cX_f := X7.fz
  have cX_0 := X7.k0
  have cX_1 := X7.k1
  have cY_b := Y7.hb
  have cY_f := Y7.fz
  have cY_0 := Y7.k0
  have cY_1 := Y7.k1
  have cU_b := U7.hb
  have cU_f := U7.fz
  have cU_0 := U7.k0
  have cU_1 := U7.k1
  go_wp2_with fail
  clear cA_b cA_f cA_0 cA_1 cBb_b cBb_f cBb_0 cBb_1 cC_b cC_f cC_0 cC_1 cX_b cX_f cX_0 cX_1 cY_b cY_f cY_0 cY_1 cU_b cU_f cU_0 cU_1
  refine (span_both 0 10 10 12 _).mono ?_; rintro e w8 ⟨rfl, b8⟩
  have d8 : Below w7.heap.size w7 w8 := below_step (by repeat (first | exact Below.refl _ _ | refine below_drewN ?_ _ | refine Below.drew ?_ | refine Below.setCell ?_ (by first | (simp; done) | (simp; omega) | omega) _ | refine Below.alloc ?_ (by first | (simp; done) | (simp; omega) | omega) _)) b8
  have B8 := Lib.hid (below_step B7.out d8)
  have A8 := A7.keep d8
  have Bb8 := Bb7.keep d8
  have C8 := C7.keep d8
  have X8 := X7.keep d8
  have Y8 := Y7.keep d8
  have U8 := U7.keep d8
  clear A7 Bb7 C7 X7 Y7 U7 b8 d8 B7
  rw [show Sp.bz (Sp.mt 0 10 10 12) (max 0 10) = 0 by decide, show Sp.bz (Sp.mt 0 10 10 12) (min 10 12) = 0 by decide, show Sp.mt 0 10 10 12 = false by decide]
  have cA_b := A8.hb
  have cA_f := A8.fz
  have cA_0 := A8.k0
  have cA_1 := A8.k1
  have cBb_b := Bb8.hb
  have cBb_f := Bb8.fz
  have cBb_0 := Bb8.k0
  have cBb_1 := Bb8.k1
  have cC_b := C8.hb
  have cC_f := C8.fz
  have cC_0 := C8.k0
  have cC_1 := C8.k1
  have cX_b := X8.hb
  have cX_f := X8.fz
  have cX_0 := X8.k0
  have cX_1 := X8.k1
  have cY_b := Y8.hb
  have cY_f := Y8.fz
  have cY_0 := Y8.k0
  have cY_1 := Y8.k1
  have cU_b := U8.hb
  have cU_f := U8.fz
  have cU_0 := U8.k0
  have cU_1 := U8.k1
  go_wp2_with fail
  clear cA_b cA_f cA_0 cA_1 cBb_b cBb_f cBb_0 cBb_1 cC_b cC_f cC_0 cC_1 cX_b cX_f cX_0 cX_1 cY_b cY_f cY_0 cY_1 cU_b cU_f cU_0 cU_1
  refine (sless_any 0 10 3 5 _).mono ?_; rintro e w9 ⟨_, sp, rfl, b9⟩
  have Sp_9 := Lib.hid sp; obtain ⟨Ap, cp, rfl, -⟩ := sp
  have d9 : Below w8.heap.size w8 w9 := below_step (by repeat (first | exact Below.refl _ _ | refine below_drewN ?_ _ | refine Below.drew ?_ | refine Below.setCell ?_ (by first | (simp; done) | (simp; omega) | omega) _ | refine Below.alloc ?_ (by first | (simp; done) | (simp; omega) | omega) _)) b9
  have B9 := Lib.hid (below_step B8.out d9)
  have A9 := A8.keep d9
  have Bb9 := Bb8.keep d9
  have C9 := C8.keep d9
  have X9 := X8.keep d9
  have Y9 := Y8.keep d9
  have U9 := U8.keep d9
  clear A8 Bb8 C8 X8 Y8 U8 b9 d9 B8
  rw [show Sp.less 0 10 3 5 = [(0, 3), (5, 10)] by decide] at Sp_9 ⊢
  clear X9 aX
  clear Y9 aY
  clear U9 aU
  have cA_b := A9.hb
  have cA_f := A9.fz
  have cA_0 := A9.k0
  have cA_1 := A9.k1
  have cBb_b := Bb9.hb
  have cBb_f := Bb9.fz
  have cBb_0 := Bb9.k0
  have cBb_1 := Bb9.k1
  have cC_b := C9.hb
  have cC_f := C9.fz
  have cC_0 := C9.k0
  have cC_1 := C9.k1
  go_wp2_with fail
  clear cA_b cA_f cA_0 cA_1 cBb_b cBb_f cBb_0 cBb_1 cC_b cC_f cC_0 cC_1
  refine (same_yes _ _ [(0, 3), (5, 10)] _ (SpV.on Sp_9.out (by repeat (first | exact Below.refl _ _ | refine below_drewN ?_ _ | refine Below.drew ?_ | refine Below.setCell ?_ (by first | (simp; done) | (simp; omega) | omega) _ | refine Below.alloc ?_ (by first | (simp; done) | (simp; omega) | omega) _))) ⟨_, _, rfl, fun _ => ⟨_, rfl, by simp, four_cells (by simp [go_sem]) (by simp [go_sem]) (by simp [go_sem]) (by simp [go_sem])⟩⟩ (by unfold maxLen; decide)).mono ?_; rintro e v1 ⟨rfl, j1, rfl⟩
  clear Sp_9
  have cA_b := A9.hb
  have cA_f := A9.fz
  have cA_0 := A9.k0
  have cA_1 := A9.k1
  have cBb_b := Bb9.hb
  have cBb_f := Bb9.fz
  have cBb_0 := Bb9.k0
  have cBb_1 := Bb9.k1
  have cC_b := C9.hb
  have cC_f := C9.fz
  have cC_0 := C9.k0
  have cC_1 := C9.k1
  go_wp2_with fail
  clear cA_b cA_f cA_0 cA_1 cBb_b cBb_f cBb_0 cBb_1 cC_b cC_f cC_0 cC_1
  refine (sless_any 3 5 0 10 _).mono ?_; rintro e w10 ⟨_, sq, rfl, b10⟩
  have Sq_10 := Lib.hid sq; obtain ⟨Aq, cq, rfl, -⟩ := sq
  have d10 : Below w9.heap.size w9 w10 := below_step (by repeat (first | exact Below.refl _ _ | refine below_drewN ?_ _ | refine Below.drew ?_ | refine Below.setCell ?_ (by first | (simp; done) | (simp; omega) | omega) _ | refine Below.alloc ?_ (by first | (simp; done) | (simp; omega) | omega) _)) b10
  have B10 := Lib.hid (below_step B9.out d10)
  have A10 := A9.keep d10
  have Bb10 := Bb9.keep d10
  have C10 := C9.keep d10
  clear A9 Bb9 C9 b10 d10 B9
  rw [show Sp.less 3 5 0 10 = [] by decide]
  clear Sq_10
  have cA_b := A10.hb
  have cA_f := A10.fz
  have cA_0 := A10.k0
  have cA_1 := A10.k1
  have cBb_b := Bb10.hb
  have cBb_f := Bb10.fz
  have cBb_0 := Bb10.k0
  have cBb_1 := Bb10.k1
  have cC_b := C10.hb
  have cC_f := C10.fz
  have cC_0 := C10.k0
  have cC_1 := C10.k1
  go_wp2_with fail
  clear cA_b cA_f cA_0 cA_1 cBb_b cBb_f cBb_0 cBb_1 cC_b cC_f cC_0 cC_1
  refine (sless_any 0 0 0 10 _).mono ?_; rintro e w11 ⟨_, sr, rfl, b11⟩
  have Sr_11 := Lib.hid sr; obtain ⟨Ar, cr, rfl, -⟩ := sr
  have d11 : Below w10.heap.size w10 w11 := below_step (by repeat (first | exact Below.refl _ _ | refine below_drewN ?_ _ | refine Below.drew ?_ | refine Below.setCell ?_ (by first | (simp; done) | (simp; omega) | omega) _ | refine Below.alloc ?_ (by first | (simp; done) | (simp; omega) | omega) _)) b11
  have B11 := Lib.hid (below_step B10.out d11)
  have A11 := A10.keep d11
  have Bb11 := Bb10.keep d11
  have C11 := C10.keep d11
  clear A10 Bb10 C10 b11 d11 B10
  rw [show Sp.less 0 0 0 10 = [] by decide]
  clear Sr_11
  have cA_b := A11.hb
  have cA_f := A11.fz
  have cA_0 := A11.k0
  have cA_1 := A11.k1
  have cBb_b := Bb11.hb
  have cBb_f := Bb11.fz
  have cBb_0 := Bb11.k0
  have cBb_1 := Bb11.k1
  have cC_b := C11.hb
  have cC_f := C11.fz
  have cC_0 := C11.k0
  have cC_1 := C11.k1
  go_wp2_with fail
  clear cA_b cA_f cA_0 cA_1 cBb_b cBb_f cBb_0 cBb_1 cC_b cC_f cC_0 cC_1
  refine (sless_any 0 10 0 0 _).mono ?_; rintro e w12 ⟨_, ss, rfl, b12⟩
  have Ss_12 := Lib.hid ss; obtain ⟨As, cs, rfl, -⟩ := ss
  have d12 : Below w11.heap.size w11 w12 := below_step (by repeat (first | exact Below.refl _ _ | refine below_drewN ?_ _ | refine Below.drew ?_ | refine Below.setCell ?_ (by first | (simp; done) | (simp; omega) | omega) _ | refine Below.alloc ?_ (by first | (simp; done) | (simp; omega) | omega) _)) b12
  have B12 := Lib.hid (below_step B11.out d12)
  have A12 := A11.keep d12
  have Bb12 := Bb11.keep d12
  have C12 := C11.keep d12
  clear A11 Bb11 C11 b12 d12 B11
  rw [show Sp.less 0 10 0 0 = [(0, 10)] by decide]
  clear Ss_12
  have cA_b := A12.hb
  have cA_f := A12.fz
  have cA_0 := A12.k0
  have cA_1 := A12.k1
  have cBb_b := Bb12.hb
  have cBb_f := Bb12.fz
  have cBb_0 := Bb12.k0
  have cBb_1 := Bb12.k1
  have cC_b := C12.hb
  have cC_f := C12.fz
  have cC_0 := C12.k0
  have cC_1 := C12.k1
  go_wp2_with fail
  clear cA_b cA_f cA_0 cA_1 cBb_b cBb_f cBb_0 cBb_1 cC_b cC_f cC_0 cC_1
  refine (span_right 0 10 _).mono ?_; rintro e w13 ⟨rfl, b13⟩
  have d13 : Below w12.heap.size w12 w13 := below_step (by repeat (first | exact Below.refl _ _ | refine below_drewN ?_ _ | refine Below.drew ?_ | refine Below.setCell ?_ (by first | (simp; done) | (simp; omega) | omega) _ | refine Below.alloc ?_ (by first | (simp; done) | (simp; omega) | omega) _)) b13
  have B13 := Lib.hid (below_step B12.out d13)
  have A13 := A12.keep d13
  have Bb13 := Bb12.keep d13
  have C13 := C12.keep d13
  clear A12 Bb12 C12 b13 d13 B12
  rw [show Sp.rb 0 10 = true by decide]
  have cA_b := A13.hb
  have cA_f := A13.fz
  have cA_0 := A13.k0
  have cA_1 := A13.k1
  have cBb_b := Bb13.hb
  have cBb_f := Bb13.fz
  have cBb_0 := Bb13.k0
  have cBb_1 := Bb13.k1
  have cC_b := C13.hb
  have cC_f := C13.fz
  have cC_0 := C13.k0
  have cC_1 := C13.k1
  go_wp2_with fail
  clear cA_b cA_f cA_0 cA_1 cBb_b cBb_f cBb_0 cBb_1 cC_b cC_f cC_0 cC_1
  refine (span_right 0 0 _).mono ?_; rintro e w14 ⟨rfl, b14⟩
  have d14 : Below w13.heap.size w13 w14 := below_step (by repeat (first | exact Below.refl _ _ | refine below_drewN ?_ _ | refine Below.drew ?_ | refine Below.setCell ?_ (by first | (simp; done) | (simp; omega) | omega) _ | refine Below.alloc ?_ (by first | (simp; done) | (simp; omega) | omega) _)) b14
  have B14 := Lib.hid (below_step B13.out d14)
  have A14 := A13.keep d14
  have Bb14 := Bb13.keep d14
  have C14 := C13.keep d14
  clear A13 Bb13 C13 b14 d14 B13
  rw [show Sp.rb 0 0 = false by decide]
  have cA_b := A14.hb
  have cA_f := A14.fz
  have cA_0 := A14.k0
  have cA_1 := A14.k1
  have cBb_b := Bb14.hb
  have cBb_f := Bb14.fz
  have cBb_0 := Bb14.k0
  have cBb_1 := Bb14.k1
  have cC_b := C14.hb
  have cC_f := C14.fz
  have cC_0 := C14.k0
  have cC_1 := C14.k1
  go_wp2_with fail
  clear cA_b cA_f cA_0 cA_1 cBb_b cBb_f cBb_0 cBb_1 cC_b cC_f cC_0 cC_1
  refine (span_has 0 10 0 _).mono ?_; rintro e w15 ⟨rfl, b15⟩
  have d15 : Below w14.heap.size w14 w15 := below_step (by repeat (first | exact Below.refl _ _ | refine below_drewN ?_ _ | refine Below.drew ?_ | refine Below.setCell ?_ (by first | (simp; done) | (simp; omega) | omega) _ | refine Below.alloc ?_ (by first | (simp; done) | (simp; omega) | omega) _)) b15
  have B15 := Lib.hid (below_step B14.out d15)
  have A15 := A14.keep d15
  have Bb15 := Bb14.keep d15
  have C15 := C14.keep d15
  clear A14 Bb14 C14 b15 d15 B14
  rw [show Sp.hs 0 10 0 = true by decide]
  have cA_b := A15.hb
  have cA_f := A15.fz
  have cA_0 := A15.k0
  have cA_1 := A15.k1
  have cBb_b := Bb15.hb
  have cBb_f := Bb15.fz
  have cBb_0 := Bb15.k0
  have cBb_1 := Bb15.k1
  have cC_b := C15.hb
  have cC_f := C15.fz
  have cC_0 := C15.k0
  have cC_1 := C15.k1
  go_wp2_with fail
  clear cA_b cA_f cA_0 cA_1 cBb_b cBb_f cBb_0 cBb_1 cC_b cC_f cC_0 cC_1
  refine (span_has 0 10 10 _).mono ?_; rintro e w16 ⟨rfl, b16⟩
  have d16 : Below w15.heap.size w15 w16 := below_step (by repeat (first | exact Below.refl _ _ | refine below_drewN ?_ _ | refine Below.drew ?_ | refine Below.setCell ?_ (by first | (simp; done) | (simp; omega) | omega) _ | refine Below.alloc ?_ (by first | (simp; done) | (simp; omega) | omega) _)) b16
  have B16 := Lib.hid (below_step B15.out d16)
  have A16 := A15.keep d16
  have Bb16 := Bb15.keep d16
  have C16 := C15.keep d16
  clear A15 Bb15 C15 b16 d16 B15
  rw [show Sp.hs 0 10 10 = false by decide]
  have cA_b := A16.hb
  have cA_f := A16.fz
  have cA_0 := A16.k0
  have cA_1 := A16.k1
  have cBb_b := Bb16.hb
  have cBb_f := Bb16.fz
  have cBb_0 := Bb16.k0
  have cBb_1 := Bb16.k1
  have cC_b := C16.hb
  have cC_f := C16.fz
  have cC_0 := C16.k0
  have cC_1 := C16.k1
  go_wp2_with fail
  clear cA_b cA_f cA_0 cA_1 cBb_b cBb_f cBb_0 cBb_1 cC_b cC_f cC_0 cC_1
  refine (span_meet 0 10 3 5 _).mono ?_; rintro e w17 ⟨rfl, b17⟩
  have d17 : Below w16.heap.size w16 w17 := below_step (by repeat (first | exact Below.refl _ _ | refine below_drewN ?_ _ | refine Below.drew ?_ | refine Below.setCell ?_ (by first | (simp; done) | (simp; omega) | omega) _ | refine Below.alloc ?_ (by first | (simp; done) | (simp; omega) | omega) _)) b17
  have B17 := Lib.hid (below_step B16.out d17)
  have A17 := A16.keep d17
  have Bb17 := Bb16.keep d17
  have C17 := C16.keep d17
  clear A16 Bb16 C16 b17 d17 B16
  rw [show Sp.mt 0 10 3 5 = true by decide]
  have cA_b := A17.hb
  have cA_f := A17.fz
  have cA_0 := A17.k0
  have cA_1 := A17.k1
  have cBb_b := Bb17.hb
  have cBb_f := Bb17.fz
  have cBb_0 := Bb17.k0
  have cBb_1 := Bb17.k1
  have cC_b := C17.hb
  have cC_f := C17.fz
  have cC_0 := C17.k0
  have cC_1 := C17.k1
  go_wp2_with fail
  clear cA_b cA_f cA_0 cA_1 cBb_b cBb_f cBb_0 cBb_1 cC_b cC_f cC_0 cC_1
  refine (span_meet 0 10 10 12 _).mono ?_; rintro e w18 ⟨rfl, b18⟩
  have d18 : Below w17.heap.size w17 w18 := below_step (by repeat (first | exact Below.refl _ _ | refine below_drewN ?_ _ | refine Below.drew ?_ | refine Below.setCell ?_ (by first | (simp; done) | (simp; omega) | omega) _ | refine Below.alloc ?_ (by first | (simp; done) | (simp; omega) | omega) _)) b18
  have B18 := Lib.hid (below_step B17.out d18)
  have A18 := A17.keep d18
  have Bb18 := Bb17.keep d18
  have C18 := C17.keep d18
  clear A17 Bb17 C17 b18 d18 B17
  rw [show Sp.mt 0 10 10 12 = false by decide]
  have cA_b := A18.hb
  have cA_f := A18.fz
  have cA_0 := A18.k0
  have cA_1 := A18.k1
  have cBb_b := Bb18.hb
  have cBb_f := Bb18.fz
  have cBb_0 := Bb18.k0
  have cBb_1 := Bb18.k1
  have cC_b := C18.hb
  have cC_f := C18.fz
  have cC_0 := C18.k0
  have cC_1 := C18.k1
  go_wp2_with fail
  clear cA_b cA_f cA_0 cA_1 cBb_b cBb_f cBb_0 cBb_1 cC_b cC_f cC_0 cC_1
  refine (span_touch 0 10 10 12 _).mono ?_; rintro e w19 ⟨rfl, b19⟩
  have d19 : Below w18.heap.size w18 w19 := below_step (by repeat (first | exact Below.refl _ _ | refine below_drewN ?_ _ | refine Below.drew ?_ | refine Below.setCell ?_ (by first | (simp; done) | (simp; omega) | omega) _ | refine Below.alloc ?_ (by first | (simp; done) | (simp; omega) | omega) _)) b19
  have B19 := Lib.hid (below_step B18.out d19)
  have A19 := A18.keep d19
  have Bb19 := Bb18.keep d19
  have C19 := C18.keep d19
  clear A18 Bb18 C18 b19 d19 B18
  rw [show Sp.tc 0 10 10 12 = true by decide]
  have cA_b := A19.hb
  have cA_f := A19.fz
  have cA_0 := A19.k0
  have cA_1 := A19.k1
  have cBb_b := Bb19.hb
  have cBb_f := Bb19.fz
  have cBb_0 := Bb19.k0
  have cBb_1 := Bb19.k1
  have cC_b := C19.hb
  have cC_f := C19.fz
  have cC_0 := C19.k0
  have cC_1 := C19.k1
  go_wp2_with fail
  clear cA_b cA_f cA_0 cA_1 cBb_b cBb_f cBb_0 cBb_1 cC_b cC_f cC_0 cC_1
  refine (span_touch 10 12 0 10 _).mono ?_; rintro e w20 ⟨rfl, b20⟩
  have d20 : Below w19.heap.size w19 w20 := below_step (by repeat (first | exact Below.refl _ _ | refine below_drewN ?_ _ | refine Below.drew ?_ | refine Below.setCell ?_ (by first | (simp; done) | (simp; omega) | omega) _ | refine Below.alloc ?_ (by first | (simp; done) | (simp; omega) | omega) _)) b20
  have B20 := Lib.hid (below_step B19.out d20)
  have A20 := A19.keep d20
  have Bb20 := Bb19.keep d20
  have C20 := C19.keep d20
  clear A19 Bb19 C19 b20 d20 B19
  rw [show Sp.tc 10 12 0 10 = true by decide]
  have cA_b := A20.hb
  have cA_f := A20.fz
  have cA_0 := A20.k0
  have cA_1 := A20.k1
  have cBb_b := Bb20.hb
  have cBb_f := Bb20.fz
  have cBb_0 := Bb20.k0
  have cBb_1 := Bb20.k1
  have cC_b := C20.hb
  have cC_f := C20.fz
  have cC_0 := C20.k0
  have cC_1 := C20.k1
  go_wp2_with fail
  clear cA_b cA_f cA_0 cA_1 cBb_b cBb_f cBb_0 cBb_1 cC_b cC_f cC_0 cC_1
  refine (span_touch 0 10 3 5 _).mono ?_; rintro e w21 ⟨rfl, b21⟩
  have d21 : Below w20.heap.size w20 w21 := below_step (by repeat (first | exact Below.refl _ _ | refine below_drewN ?_ _ | refine Below.drew ?_ | refine Below.setCell ?_ (by first | (simp; done) | (simp; omega) | omega) _ | refine Below.alloc ?_ (by first | (simp; done) | (simp; omega) | omega) _)) b21
  have B21 := Lib.hid (below_step B20.out d21)
  have A21 := A20.keep d21
  have Bb21 := Bb20.keep d21
  have C21 := C20.keep d21
  clear A20 Bb20 C20 b21 d21 B20
  rw [show Sp.tc 0 10 3 5 = false by decide]
  have cA_b := A21.hb
  have cA_f := A21.fz
  have cA_0 := A21.k0
  have cA_1 := A21.k1
  have cBb_b := Bb21.hb
  have cBb_f := Bb21.fz
  have cBb_0 := Bb21.k0
  have cBb_1 := Bb21.k1
  have cC_b := C21.hb
  have cC_f := C21.fz
  have cC_0 := C21.k0
  have cC_1 := C21.k1
  go_wp2_with fail
  clear cA_b cA_f cA_0 cA_1 cBb_b cBb_f cBb_0 cBb_1 cC_b cC_f cC_0 cC_1
  go_ret
  exact ⟨rfl, (by have hz := B21.out.size; repeat (first | exact B21.out | refine below_drewN ?_ _ | refine Below.drew ?_ | refine Below.setCell ?_ (by first | omega | (simp; done) | (simp; omega)) _ | refine Below.alloc ?_ (by first | omega | (simp; done) | (simp; omega)) _))⟩
end Go.Proofs.Ytcmnfbbccacpcaa

