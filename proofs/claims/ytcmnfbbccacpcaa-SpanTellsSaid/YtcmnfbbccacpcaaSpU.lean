/- The walk of SpanTells: whatever is handed in, the law answers true; nothing old turns. -/
import Derived.Test.YtcmnfbbccacpcaaSpT
import Derived.Test.YtcmnfbbccacpcaaSpC
import Derived.Test.YtcmnfbbccacpcaaPair
set_option linter.unusedVariables false
set_option linter.unusedSimpArgs false
namespace Go.Proofs.Ytcmnfbbccacpcaa
open Go.RowKit Go.Sort Go.Pairs

theorem less_len (x0 x1 y0 y1 : Int) : (Sp.less x0 x1 y0 y1).length ≤ maxLen := by
  have h1 : ∀ x y, (Sp.one x y).length ≤ 1 := by intro x y; unfold Sp.one; split <;> simp
  have : (Sp.less x0 x1 y0 y1).length ≤ 2 := by
    unfold Sp.less
    split
    · rw [List.length_append]; have a := h1 x0 (max x0 y0); have b := h1 (min x1 y1) x1; omega
    · have a := h1 x0 x1; omega
  unfold maxLen
  omega
theorem below_of_drawn {W w' : World} {k : Nat} (h : w' = W.drewN k) : Below W.heap.size W w' := by rw [h]; exact below_draw _ _
theorem ck {W W' : World} {a : Addr} {v : Value} (k : Below W.heap.size W W') (h : W.cell? a = some v) : W'.cell? a = some v := (k.cell (World.block_lt_of_cell? _ _ h)).trans h
theorem keep16 {w W W' : World} {a0 a1 a2 a3 a4 a5 a6 a7 a8 a9 a10 a11 a12 a13 a14 a15 : Addr} {v0 v1 v2 v3 v4 v5 v6 v7 v8 v9 v10 v11 v12 v13 v14 v15 : Value} (k : Below W.heap.size W W')
    (h : Below w.heap.size w W ∧ W.cell? a0 = some v0 ∧ W.cell? a1 = some v1 ∧ W.cell? a2 = some v2 ∧ W.cell? a3 = some v3 ∧ W.cell? a4 = some v4 ∧ W.cell? a5 = some v5 ∧ W.cell? a6 = some v6 ∧ W.cell? a7 = some v7 ∧ W.cell? a8 = some v8 ∧ W.cell? a9 = some v9 ∧ W.cell? a10 = some v10 ∧ W.cell? a11 = some v11 ∧ W.cell? a12 = some v12 ∧ W.cell? a13 = some v13 ∧ W.cell? a14 = some v14 ∧ W.cell? a15 = some v15) :
    Below w.heap.size w W' ∧ W'.cell? a0 = some v0 ∧ W'.cell? a1 = some v1 ∧ W'.cell? a2 = some v2 ∧ W'.cell? a3 = some v3 ∧ W'.cell? a4 = some v4 ∧ W'.cell? a5 = some v5 ∧ W'.cell? a6 = some v6 ∧ W'.cell? a7 = some v7 ∧ W'.cell? a8 = some v8 ∧ W'.cell? a9 = some v9 ∧ W'.cell? a10 = some v10 ∧ W'.cell? a11 = some v11 ∧ W'.cell? a12 = some v12 ∧ W'.cell? a13 = some v13 ∧ W'.cell? a14 = some v14 ∧ W'.cell? a15 = some v15 := by
  obtain ⟨hb, h0, h1, h2, h3, h4, h5, h6, h7, h8, h9, h10, h11, h12, h13, h14, h15⟩ := h
  exact ⟨below_step hb k, ck k h0, ck k h1, ck k h2, ck k h3, ck k h4, ck k h5, ck k h6, ck k h7, ck k h8, ck k h9, ck k h10, ck k h11, ck k h12, ck k h13, ck k h14, ck k h15⟩
set_option maxHeartbeats 8000000 in
set_option maxRecDepth 100000 in
theorem stells_walk (x0 x1 y0 y1 t : Int) (w : World) (hx0 : -9223372036854775808 ≤ x0 ∧ x0 ≤ 9223372036854775807) (hx1 : -9223372036854775808 ≤ x1 ∧ x1 ≤ 9223372036854775807) (ht : -9223372036854775808 ≤ t ∧ t ≤ 9223372036854775807) :
    Calls Try.prog 4 #[.agg #[.int .i64 x0, .int .i64 x1], .agg #[.int .i64 y0, .int .i64 y1], .int .i64 t] w fun e w' => e = .returned (.bool true) ∧ Below w.heap.size w w' := by
  obtain ⟨p0, p1, pb, C1, C2⟩ : ∃ p0 p1 pb, Hid (∀ w, Calls Try.prog 24 #[.agg #[.int .i64 x0, .int .i64 x1], .agg #[.int .i64 y0, .int .i64 y1]] w fun e w' => e = .returned (.tuple #[.agg #[.int .i64 p0, .int .i64 p1], .bool pb]) ∧ Below w.heap.size w w') ∧ Hid (∀ w, Calls Try.prog 25 #[.agg #[.int .i64 x0, .int .i64 x1], .agg #[.int .i64 y0, .int .i64 y1]] w fun e w' => e = .returned (.tuple #[.agg #[.int .i64 p0, .int .i64 p1], .bool pb]) ∧ Below w.heap.size w w') :=
    ⟨_, _, _, Lib.hid (span_both x0 x1 y0 y1), Lib.hid (noontideref10_both x0 x1 y0 y1)⟩
  obtain ⟨q0, q1, qb, C3, C4⟩ : ∃ p0 p1 pb, Hid (∀ w, Calls Try.prog 26 #[.agg #[.int .i64 x0, .int .i64 x1], .agg #[.int .i64 y0, .int .i64 y1]] w fun e w' => e = .returned (.tuple #[.agg #[.int .i64 p0, .int .i64 p1], .bool pb]) ∧ Below w.heap.size w w') ∧ Hid (∀ w, Calls Try.prog 27 #[.agg #[.int .i64 x0, .int .i64 x1], .agg #[.int .i64 y0, .int .i64 y1]] w fun e w' => e = .returned (.tuple #[.agg #[.int .i64 p0, .int .i64 p1], .bool pb]) ∧ Below w.heap.size w w') :=
    ⟨_, _, _, Lib.hid (span_join x0 x1 y0 y1), Lib.hid (noontideref10_join x0 x1 y0 y1)⟩
  obtain ⟨r0, r1, C5, C6⟩ : ∃ p0 p1, Hid (∀ w, Calls Try.prog 28 #[.agg #[.int .i64 x0, .int .i64 x1]] w fun e w' => e = .returned (.tuple #[.int .i64 p0, .int .i64 p1]) ∧ Below w.heap.size w w') ∧ Hid (∀ w, Calls Try.prog 29 #[.agg #[.int .i64 x0, .int .i64 x1]] w fun e w' => e = .returned (.tuple #[.int .i64 p0, .int .i64 p1]) ∧ Below w.heap.size w w') :=
    ⟨_, _, Lib.hid (fun w => span_len x0 x1 w hx0.1 hx0.2 hx1.1 hx1.2), Lib.hid (fun w => noontideref10_len x0 x1 w hx0.1 hx0.2 hx1.1 hx1.2)⟩
  obtain ⟨u0, u1, u2, C7, C8⟩ : ∃ p0 p1 pb, Hid (∀ w, Calls Try.prog 30 #[.agg #[.int .i64 x0, .int .i64 x1], .int .i64 t] w fun e w' => e = .returned (.tuple #[.agg #[.int .i64 p0, .int .i64 p1], .int .i64 pb]) ∧ Below w.heap.size w w') ∧ Hid (∀ w, Calls Try.prog 31 #[.agg #[.int .i64 x0, .int .i64 x1], .int .i64 t] w fun e w' => e = .returned (.tuple #[.agg #[.int .i64 p0, .int .i64 p1], .int .i64 pb]) ∧ Below w.heap.size w w') :=
    ⟨_, _, _, Lib.hid (fun w => span_move x0 x1 t w hx0.1 hx0.2 hx1.1 hx1.2 ht.1 ht.2), Lib.hid (fun w => noontideref10_move x0 x1 t w hx0.1 hx0.2 hx1.1 hx1.2 ht.1 ht.2)⟩
  have LL := Lib.hid (less_len x0 x1 y0 y1)
  have SL1 := Lib.hid (sless_any x0 x1 y0 y1)
  have SL2 := Lib.hid (rless_any x0 x1 y0 y1)
  generalize Sp.less x0 x1 y0 y1 = l at LL SL1 SL2
  clear hx0 hx1 ht
  go_enter Try.func4, Try.ntmps4
  go_wp2_with fail
  refine (C1.out _).mono ?_; rintro e w1 ⟨rfl, b1⟩
  have d1 : Below w.heap.size w w1 := below_step (by repeat (first | exact Below.refl _ _ | refine below_drewN ?_ _ | refine Below.drew ?_ | refine Below.setCell ?_ (by first | (simp; done) | (simp; omega) | omega) _ | refine Below.alloc ?_ (by first | (simp; done) | (simp; omega) | omega) _)) b1
  have B1 := Lib.hid d1
  have A1 : Bk2 w1 (w.heap.size) (.int .i64 x0) (.int .i64 x1) := Bk2.of b1 (by simp <;> omega) (by intro j; simp [go_sem]) (by simp [go_sem]) (by simp [go_sem])
  have Bb1 : Bk2 w1 (w.heap.size + 1) (.int .i64 y0) (.int .i64 y1) := Bk2.of b1 (by simp <;> omega) (by intro j; simp [go_sem]) (by simp [go_sem]) (by simp [go_sem])
  clear b1 d1
  have cA_b := A1.hb
  have cA_f := A1.fz
  have cA_0 := A1.k0
  have cA_1 := A1.k1
  have cBb_b := Bb1.hb
  have cBb_f := Bb1.fz
  have cBb_0 := Bb1.k0
  have cBb_1 := Bb1.k1
  go_wp2_with fail
  clear cA_b cA_f cA_0 cA_1 cBb_b cBb_f cBb_0 cBb_1
  refine (C2.out _).mono ?_; rintro e w2 ⟨rfl, b2⟩
  have d2 : Below w1.heap.size w1 w2 := below_step (by repeat (first | exact Below.refl _ _ | refine below_drewN ?_ _ | refine Below.drew ?_ | refine Below.setCell ?_ (by first | (simp; done) | (simp; omega) | omega) _ | refine Below.alloc ?_ (by first | (simp; done) | (simp; omega) | omega) _)) b2
  have B2 := Lib.hid (below_step B1.out d2)
  have A2 := A1.keep d2
  have Bb2 := Bb1.keep d2
  have aP := B1.out.size
  have nPA := Nat.ne_of_lt A1.hb
  have oPA := Nat.ne_of_gt A1.hb
  have nPBb := Nat.ne_of_lt Bb1.hb
  have oPBb := Nat.ne_of_gt Bb1.hb
  have P2 : Bk2 w2 (w1.heap.size) (.int .i64 p0) (.int .i64 p1) := Bk2.of b2 (by simp <;> omega) (by intro j; simp [go_sem]) (by simp [go_sem]) (by simp [go_sem])
  clear A1 Bb1 b2 d2 B1
  have cA_b := A2.hb
  have cA_f := A2.fz
  have cA_0 := A2.k0
  have cA_1 := A2.k1
  have cBb_b := Bb2.hb
  have cBb_f := Bb2.fz
  have cBb_0 := Bb2.k0
  have cBb_1 := Bb2.k1
  have cP_b := P2.hb
  have cP_f := P2.fz
  have cP_0 := P2.k0
  have cP_1 := P2.k1
  go_wp2_with fail
  clear cA_b cA_f cA_0 cA_1 cBb_b cBb_f cBb_0 cBb_1 cP_b cP_f cP_0 cP_1
  refine (C3.out _).mono ?_; rintro e w3 ⟨rfl, b3⟩
  have d3 : Below w2.heap.size w2 w3 := below_step (by repeat (first | exact Below.refl _ _ | refine below_drewN ?_ _ | refine Below.drew ?_ | refine Below.setCell ?_ (by first | (simp; done) | (simp; omega) | omega) _ | refine Below.alloc ?_ (by first | (simp; done) | (simp; omega) | omega) _)) b3
  have B3 := Lib.hid (below_step B2.out d3)
  have A3 := A2.keep d3
  have Bb3 := Bb2.keep d3
  have P3 := P2.keep d3
  have aQ := B2.out.size
  have nQA := Nat.ne_of_lt A2.hb
  have oQA := Nat.ne_of_gt A2.hb
  have nQBb := Nat.ne_of_lt Bb2.hb
  have oQBb := Nat.ne_of_gt Bb2.hb
  have nQP := Nat.ne_of_lt P2.hb
  have oQP := Nat.ne_of_gt P2.hb
  have Q3 : Bk2 w3 (w2.heap.size) (.int .i64 p0) (.int .i64 p1) := Bk2.of b3 (by simp <;> omega) (by intro j; simp [go_sem]) (by simp [go_sem]) (by simp [go_sem])
  clear A2 Bb2 P2 b3 d3 B2
  have cA_b := A3.hb
  have cA_f := A3.fz
  have cA_0 := A3.k0
  have cA_1 := A3.k1
  have cBb_b := Bb3.hb
  have cBb_f := Bb3.fz
  have cBb_0 := Bb3.k0
  have cBb_1 := Bb3.k1
  have cP_b := P3.hb
  have cP_f := P3.fz
  have cP_0 := P3.k0
  have cP_1 := P3.k1
  have cQ_b := Q3.hb
  have cQ_f := Q3.fz
  have cQ_0 := Q3.k0
  have cQ_1 := Q3.k1
  go_wp2_with fail
  clear cA_b cA_f cA_0 cA_1 cBb_b cBb_f cBb_0 cBb_1 cP_b cP_f cP_0 cP_1 cQ_b cQ_f cQ_0 cQ_1
  refine (C4.out _).mono ?_; rintro e w4 ⟨rfl, b4⟩
  have d4 : Below w3.heap.size w3 w4 := below_step (by repeat (first | exact Below.refl _ _ | refine below_drewN ?_ _ | refine Below.drew ?_ | refine Below.setCell ?_ (by first | (simp; done) | (simp; omega) | omega) _ | refine Below.alloc ?_ (by first | (simp; done) | (simp; omega) | omega) _)) b4
  have B4 := Lib.hid (below_step B3.out d4)
  have A4 := A3.keep d4
  have Bb4 := Bb3.keep d4
  have P4 := P3.keep d4
  have Q4 := Q3.keep d4
  have aR := B3.out.size
  have nRA := Nat.ne_of_lt A3.hb
  have oRA := Nat.ne_of_gt A3.hb
  have nRBb := Nat.ne_of_lt Bb3.hb
  have oRBb := Nat.ne_of_gt Bb3.hb
  have nRP := Nat.ne_of_lt P3.hb
  have oRP := Nat.ne_of_gt P3.hb
  have nRQ := Nat.ne_of_lt Q3.hb
  have oRQ := Nat.ne_of_gt Q3.hb
  have R4 : Bk2 w4 (w3.heap.size) (.int .i64 q0) (.int .i64 q1) := Bk2.of b4 (by simp <;> omega) (by intro j; simp [go_sem]) (by simp [go_sem]) (by simp [go_sem])
  clear A3 Bb3 P3 Q3 b4 d4 B3
  have cA_b := A4.hb
  have cA_f := A4.fz
  have cA_0 := A4.k0
  have cA_1 := A4.k1
  have cBb_b := Bb4.hb
  have cBb_f := Bb4.fz
  have cBb_0 := Bb4.k0
  have cBb_1 := Bb4.k1
  have cP_b := P4.hb
  have cP_f := P4.fz
  have cP_0 := P4.k0
  have cP_1 := P4.k1
  have cQ_b := Q4.hb
  have cQ_f := Q4.fz
  have cQ_0 := Q4.k0
  have cQ_1 := Q4.k1
  have cR_b := R4.hb
  have cR_f := R4.fz
  have cR_0 := R4.k0
  have cR_1 := R4.k1
  go_wp2_with fail
  clear cA_b cA_f cA_0 cA_1 cBb_b cBb_f cBb_0 cBb_1 cP_b cP_f cP_0 cP_1 cQ_b cQ_f cQ_0 cQ_1 cR_b cR_f cR_0 cR_1
  refine (C5.out _).mono ?_; rintro e w5 ⟨rfl, b5⟩
  have d5 : Below w4.heap.size w4 w5 := below_step (by repeat (first | exact Below.refl _ _ | refine below_drewN ?_ _ | refine Below.drew ?_ | refine Below.setCell ?_ (by first | (simp; done) | (simp; omega) | omega) _ | refine Below.alloc ?_ (by first | (simp; done) | (simp; omega) | omega) _)) b5
  have B5 := Lib.hid (below_step B4.out d5)
  have A5 := A4.keep d5
  have Bb5 := Bb4.keep d5
  have P5 := P4.keep d5
  have Q5 := Q4.keep d5
  have R5 := R4.keep d5
  have aT := B4.out.size
  have nTA := Nat.ne_of_lt A4.hb
  have oTA := Nat.ne_of_gt A4.hb
  have nTBb := Nat.ne_of_lt Bb4.hb
  have oTBb := Nat.ne_of_gt Bb4.hb
  have nTP := Nat.ne_of_lt P4.hb
  have oTP := Nat.ne_of_gt P4.hb
  have nTQ := Nat.ne_of_lt Q4.hb
  have oTQ := Nat.ne_of_gt Q4.hb
  have nTR := Nat.ne_of_lt R4.hb
  have oTR := Nat.ne_of_gt R4.hb
  have T5 : Bk2 w5 (w4.heap.size) (.int .i64 q0) (.int .i64 q1) := Bk2.of b5 (by simp <;> omega) (by intro j; simp [go_sem]) (by simp [go_sem]) (by simp [go_sem])
  clear A4 Bb4 P4 Q4 R4 b5 d5 B4
  have cA_b := A5.hb
  have cA_f := A5.fz
  have cA_0 := A5.k0
  have cA_1 := A5.k1
  have cBb_b := Bb5.hb
  have cBb_f := Bb5.fz
  have cBb_0 := Bb5.k0
  have cBb_1 := Bb5.k1
  have cP_b := P5.hb
  have cP_f := P5.fz
  have cP_0 := P5.k0
  have cP_1 := P5.k1
  have cQ_b := Q5.hb
  have cQ_f := Q5.fz
  have cQ_0 := Q5.k0
  have cQ_1 := Q5.k1
  have cR_b := R5.hb
  have cR_f := R5.fz
  have cR_0 := R5.k0
  have cR_1 := R5.k1
  have cT_b := T5.hb
  have cT_f := T5.fz
  have cT_0 := T5.k0
  have cT_1 := T5.k1
  go_wp2_with fail
  clear cA_b cA_f cA_0 cA_1 cBb_b cBb_f cBb_0 cBb_1 cP_b cP_f cP_0 cP_1 cQ_b cQ_f cQ_0 cQ_1 cR_b cR_f cR_0 cR_1 cT_b cT_f cT_0 cT_1
  refine (C6.out _).mono ?_; rintro e w6 ⟨rfl, b6⟩
  have d6 : Below w5.heap.size w5 w6 := below_step (by repeat (first | exact Below.refl _ _ | refine below_drewN ?_ _ | refine Below.drew ?_ | refine Below.setCell ?_ (by first | (simp; done) | (simp; omega) | omega) _ | refine Below.alloc ?_ (by first | (simp; done) | (simp; omega) | omega) _)) b6
  have B6 := Lib.hid (below_step B5.out d6)
  have A6 := A5.keep d6
  have Bb6 := Bb5.keep d6
  have P6 := P5.keep d6
  have Q6 := Q5.keep d6
  have R6 := R5.keep d6
  have T6 := T5.keep d6
  clear A5 Bb5 P5 Q5 R5 T5 b6 d6 B5
  have cA_b := A6.hb
  have cA_f := A6.fz
  have cA_0 := A6.k0
  have cA_1 := A6.k1
  have cBb_b := Bb6.hb
  have cBb_f := Bb6.fz
  have cBb_0 := Bb6.k0
  have cBb_1 := Bb6.k1
  have cP_b := P6.hb
  have cP_f := P6.fz
  have cP_0 := P6.k0
  have cP_1 := P6.k1
  have cQ_b := Q6.hb
  have cQ_f := Q6.fz
  have cQ_0 := Q6.k0
  have cQ_1 := Q6.k1
  have cR_b := R6.hb
  have cR_f := R6.fz
  have cR_0 := R6.k0
  have cR_1 := R6.k1
  have cT_b := T6.hb
  have cT_f := T6.fz
  have cT_0 := T6.k0
  have cT_1 := T6.k1
  go_wp2_with fail
  clear cA_b cA_f cA_0 cA_1 cBb_b cBb_f cBb_0 cBb_1 cP_b cP_f cP_0 cP_1 cQ_b cQ_f cQ_0 cQ_1 cR_b cR_f cR_0 cR_1 cT_b cT_f cT_0 cT_1
  refine (C7.out _).mono ?_; rintro e w7 ⟨rfl, b7⟩
  have d7 : Below w6.heap.size w6 w7 := below_step (by repeat (first | exact Below.refl _ _ | refine below_drewN ?_ _ | refine Below.drew ?_ | refine Below.setCell ?_ (by first | (simp; done) | (simp; omega) | omega) _ | refine Below.alloc ?_ (by first | (simp; done) | (simp; omega) | omega) _)) b7
  have B7 := Lib.hid (below_step B6.out d7)
  have A7 := A6.keep d7
  have Bb7 := Bb6.keep d7
  have P7 := P6.keep d7
  have Q7 := Q6.keep d7
  have R7 := R6.keep d7
  have T7 := T6.keep d7
  clear A6 Bb6 P6 Q6 R6 T6 b7 d7 B6
  have cA_b := A7.hb
  have cA_f := A7.fz
  have cA_0 := A7.k0
  have cA_1 := A7.k1
  have cBb_b := Bb7.hb
  have cBb_f := Bb7.fz
  have cBb_0 := Bb7.k0
  have cBb_1 := Bb7.k1
  have cP_b := P7.hb
  have cP_f := P7.fz
  have cP_0 := P7.k0
  have cP_1 := P7.k1
  have cQ_b := Q7.hb
  have cQ_f := Q7.fz
  have cQ_0 := Q7.k0
  have cQ_1 := Q7.k1
  have cR_b := R7.hb
  have cR_f := R7.fz
  have cR_0 := R7.k0
  have cR_1 := R7.k1
  have cT_b := T7.hb
  have cT_f := T7.fz
  have cT_0 := T7.k0
  have cT_1 := T7.k1
  go_wp2_with fail
  clear cA_b cA_f cA_0 cA_1 cBb_b cBb_f cBb_0 cBb_1 cP_b cP_f cP_0 cP_1 cQ_b cQ_f cQ_0 cQ_1 cR_b cR_f cR_0 cR_1 cT_b cT_f cT_0 cT_1
  refine (C8.out _).mono ?_; rintro e w8 ⟨rfl, b8⟩
  have d8 : Below w7.heap.size w7 w8 := below_step (by repeat (first | exact Below.refl _ _ | refine below_drewN ?_ _ | refine Below.drew ?_ | refine Below.setCell ?_ (by first | (simp; done) | (simp; omega) | omega) _ | refine Below.alloc ?_ (by first | (simp; done) | (simp; omega) | omega) _)) b8
  have B8 := Lib.hid (below_step B7.out d8)
  have A8 := A7.keep d8
  have Bb8 := Bb7.keep d8
  have P8 := P7.keep d8
  have Q8 := Q7.keep d8
  have R8 := R7.keep d8
  have T8 := T7.keep d8
  have aU := B7.out.size
  have nUA := Nat.ne_of_lt A7.hb
  have oUA := Nat.ne_of_gt A7.hb
  have nUBb := Nat.ne_of_lt Bb7.hb
  have oUBb := Nat.ne_of_gt Bb7.hb
  have nUP := Nat.ne_of_lt P7.hb
  have oUP := Nat.ne_of_gt P7.hb
  have nUQ := Nat.ne_of_lt Q7.hb
  have oUQ := Nat.ne_of_gt Q7.hb
  have nUR := Nat.ne_of_lt R7.hb
  have oUR := Nat.ne_of_gt R7.hb
  have nUT := Nat.ne_of_lt T7.hb
  have oUT := Nat.ne_of_gt T7.hb
  have U8 : Bk2 w8 (w7.heap.size) (.int .i64 u0) (.int .i64 u1) := Bk2.of b8 (by simp <;> omega) (by intro j; simp [go_sem]) (by simp [go_sem]) (by simp [go_sem])
  clear A7 Bb7 P7 Q7 R7 T7 b8 d8 B7
  have cA_b := A8.hb
  have cA_f := A8.fz
  have cA_0 := A8.k0
  have cA_1 := A8.k1
  have cBb_b := Bb8.hb
  have cBb_f := Bb8.fz
  have cBb_0 := Bb8.k0
  have cBb_1 := Bb8.k1
  have cP_b := P8.hb
  have cP_f := P8.fz
  have cP_0 := P8.k0
  have cP_1 := P8.k1
  have cQ_b := Q8.hb
  have cQ_f := Q8.fz
  have cQ_0 := Q8.k0
  have cQ_1 := Q8.k1
  have cR_b := R8.hb
  have cR_f := R8.fz
  have cR_0 := R8.k0
  have cR_1 := R8.k1
  have cT_b := T8.hb
  have cT_f := T8.fz
  have cT_0 := T8.k0
  have cT_1 := T8.k1
  have cU_b := U8.hb
  have cU_f := U8.fz
  have cU_0 := U8.k0
  have cU_1 := U8.k1
  go_wp2_with fail
  clear cA_b cA_f cA_0 cA_1 cBb_b cBb_f cBb_0 cBb_1 cP_b cP_f cP_0 cP_1 cQ_b cQ_f cQ_0 cQ_1 cR_b cR_f cR_0 cR_1 cT_b cT_f cT_0 cT_1 cU_b cU_f cU_0 cU_1
  refine wp_named ?_; intro w9 hw9
  have d9 : Below w8.heap.size w8 w9 := by rw [hw9]; exact (by repeat (first | exact Below.refl _ _ | refine below_drewN ?_ _ | refine Below.drew ?_ | refine Below.setCell ?_ (by first | (simp; done) | (simp; omega) | omega) _ | refine Below.alloc ?_ (by first | (simp; done) | (simp; omega) | omega) _))
  have B9 := Lib.hid (below_step B8.out d9)
  have A9 := A8.keep d9
  have Bb9 := Bb8.keep d9
  have P9 := P8.keep d9
  have Q9 := Q8.keep d9
  have R9 := R8.keep d9
  have T9 := T8.keep d9
  have U9 := U8.keep d9
  have aV := B8.out.size
  have nVA := Nat.ne_of_lt A8.hb
  have oVA := Nat.ne_of_gt A8.hb
  have nVBb := Nat.ne_of_lt Bb8.hb
  have oVBb := Nat.ne_of_gt Bb8.hb
  have nVP := Nat.ne_of_lt P8.hb
  have oVP := Nat.ne_of_gt P8.hb
  have nVQ := Nat.ne_of_lt Q8.hb
  have oVQ := Nat.ne_of_gt Q8.hb
  have nVR := Nat.ne_of_lt R8.hb
  have oVR := Nat.ne_of_gt R8.hb
  have nVT := Nat.ne_of_lt T8.hb
  have oVT := Nat.ne_of_gt T8.hb
  have nVU := Nat.ne_of_lt U8.hb
  have oVU := Nat.ne_of_gt U8.hb
  have V9 : Bk2 w9 (w8.heap.size) (.int .i64 u0) (.int .i64 u1) := by rw [hw9]; exact ⟨by simp <;> omega, by intro j; simp [go_sem], by simp [go_sem], by simp [go_sem]⟩
  clear A8 Bb8 P8 Q8 R8 T8 U8 d9 hw9 B8
  have F := Lib.hid (show Below w.heap.size w w9 ∧ w9.cell? ⟨(w.heap.size), 0, none⟩ = some (.int .i64 x0) ∧ w9.cell? ⟨(w.heap.size), 1, none⟩ = some (.int .i64 x1) ∧ w9.cell? ⟨(w.heap.size + 1), 0, none⟩ = some (.int .i64 y0) ∧ w9.cell? ⟨(w.heap.size + 1), 1, none⟩ = some (.int .i64 y1) ∧ w9.cell? ⟨(w1.heap.size), 0, none⟩ = some (.int .i64 p0) ∧ w9.cell? ⟨(w1.heap.size), 1, none⟩ = some (.int .i64 p1) ∧ w9.cell? ⟨(w2.heap.size), 0, none⟩ = some (.int .i64 p0) ∧ w9.cell? ⟨(w2.heap.size), 1, none⟩ = some (.int .i64 p1) ∧ w9.cell? ⟨(w3.heap.size), 0, none⟩ = some (.int .i64 q0) ∧ w9.cell? ⟨(w3.heap.size), 1, none⟩ = some (.int .i64 q1) ∧ w9.cell? ⟨(w4.heap.size), 0, none⟩ = some (.int .i64 q0) ∧ w9.cell? ⟨(w4.heap.size), 1, none⟩ = some (.int .i64 q1) ∧ w9.cell? ⟨(w7.heap.size), 0, none⟩ = some (.int .i64 u0) ∧ w9.cell? ⟨(w7.heap.size), 1, none⟩ = some (.int .i64 u1) ∧ w9.cell? ⟨(w8.heap.size), 0, none⟩ = some (.int .i64 u0) ∧ w9.cell? ⟨(w8.heap.size), 1, none⟩ = some (.int .i64 u1) from ⟨B9.out, A9.k0, A9.k1, Bb9.k0, Bb9.k1, P9.k0, P9.k1, Q9.k0, Q9.k1, R9.k0, R9.k1, T9.k0, T9.k1, U9.k0, U9.k1, V9.k0, V9.k1⟩)
  clear A9 Bb9 P9 Q9 R9 T9 U9 V9 B9
  simp only [List.append]
  refine wp_region_pairs (C := fun W => Below w.heap.size w W ∧ W.cell? ⟨(w.heap.size), 0, none⟩ = some (.int .i64 x0) ∧ W.cell? ⟨(w.heap.size), 1, none⟩ = some (.int .i64 x1) ∧ W.cell? ⟨(w.heap.size + 1), 0, none⟩ = some (.int .i64 y0) ∧ W.cell? ⟨(w.heap.size + 1), 1, none⟩ = some (.int .i64 y1) ∧ W.cell? ⟨(w1.heap.size), 0, none⟩ = some (.int .i64 p0) ∧ W.cell? ⟨(w1.heap.size), 1, none⟩ = some (.int .i64 p1) ∧ W.cell? ⟨(w2.heap.size), 0, none⟩ = some (.int .i64 p0) ∧ W.cell? ⟨(w2.heap.size), 1, none⟩ = some (.int .i64 p1) ∧ W.cell? ⟨(w3.heap.size), 0, none⟩ = some (.int .i64 q0) ∧ W.cell? ⟨(w3.heap.size), 1, none⟩ = some (.int .i64 q1) ∧ W.cell? ⟨(w4.heap.size), 0, none⟩ = some (.int .i64 q0) ∧ W.cell? ⟨(w4.heap.size), 1, none⟩ = some (.int .i64 q1) ∧ W.cell? ⟨(w7.heap.size), 0, none⟩ = some (.int .i64 u0) ∧ W.cell? ⟨(w7.heap.size), 1, none⟩ = some (.int .i64 u1) ∧ W.cell? ⟨(w8.heap.size), 0, none⟩ = some (.int .i64 u0) ∧ W.cell? ⟨(w8.heap.size), 1, none⟩ = some (.int .i64 u1)) (R := markR [(fun v _ => v = Value.agg #[Value.int IntKind.i64 p0, Value.int IntKind.i64 p1]), (fun v _ => v = Value.agg #[Value.int IntKind.i64 p0, Value.int IntKind.i64 p1]), (fun v _ => v = Value.bool true), (fun v _ => v = Value.bool true), (fun v _ => v = Value.bool pb), (fun v _ => v = Value.bool pb), (fun v _ => v = Value.bool true), (fun v _ => v = Value.bool true), (fun v _ => v = Value.bool true), (fun v _ => v = Value.agg #[Value.int IntKind.i64 q0, Value.int IntKind.i64 q1]), (fun v _ => v = Value.agg #[Value.int IntKind.i64 q0, Value.int IntKind.i64 q1]), (fun v _ => v = Value.bool true), (fun v _ => v = Value.bool true), (fun v _ => v = Value.bool true), (fun v _ => v = Value.bool qb), (fun v _ => v = Value.bool qb), (fun v _ => v = Value.bool true), (fun v _ => v = Value.bool true), (fun v _ => v = Value.bool true), (fun v _ => v = Value.int IntKind.i64 r0), (fun v _ => v = Value.int IntKind.i64 r0), (fun v _ => v = Value.bool true), (fun v _ => v = Value.bool true), (fun v _ => v = Value.bool true), (fun v _ => v = Value.int IntKind.i64 r1), (fun v _ => v = Value.int IntKind.i64 r1), (fun v _ => v = Value.bool true), (fun v _ => v = Value.bool true), (fun v _ => v = Value.bool true), (fun v _ => v = Value.agg #[Value.int IntKind.i64 u0, Value.int IntKind.i64 u1]), (fun v _ => v = Value.agg #[Value.int IntKind.i64 u0, Value.int IntKind.i64 u1]), (fun v _ => v = Value.bool true), (fun v _ => v = Value.bool true), (fun v _ => v = Value.bool true), (fun v _ => v = Value.int IntKind.i64 u2), (fun v _ => v = Value.int IntKind.i64 u2), (fun v _ => v = Value.bool true), (fun v _ => v = Value.bool true), (fun v _ => v = Value.bool true), (fun v _ => v = Value.agg #[Value.int IntKind.i64 x0, Value.int IntKind.i64 x1]), (fun v _ => v = Value.bool (Sp.rb x0 x1)), (fun v _ => v = Value.agg #[Value.int IntKind.i64 x0, Value.int IntKind.i64 x1]), (fun v _ => v = Value.bool (Sp.rb x0 x1)), (fun v _ => v = Value.bool true), (fun v _ => v = Value.bool true), (fun v _ => v = Value.bool true), (fun v _ => v = Value.agg #[Value.int IntKind.i64 x0, Value.int IntKind.i64 x1]), (fun v _ => v = Value.int IntKind.i64 t), (fun v _ => v = Value.bool (Sp.hs x0 x1 t)), (fun v _ => v = Value.agg #[Value.int IntKind.i64 x0, Value.int IntKind.i64 x1]), (fun v _ => v = Value.int IntKind.i64 t), (fun v _ => v = Value.bool (Sp.hs x0 x1 t)), (fun v _ => v = Value.bool true), (fun v _ => v = Value.bool true), (fun v _ => v = Value.bool true), (fun v _ => v = Value.agg #[Value.int IntKind.i64 x0, Value.int IntKind.i64 x1]), (fun v _ => v = Value.agg #[Value.int IntKind.i64 y0, Value.int IntKind.i64 y1]), (fun v _ => v = Value.bool (Sp.mt x0 x1 y0 y1)), (fun v _ => v = Value.agg #[Value.int IntKind.i64 x0, Value.int IntKind.i64 x1]), (fun v _ => v = Value.agg #[Value.int IntKind.i64 y0, Value.int IntKind.i64 y1]), (fun v _ => v = Value.bool (Sp.mt x0 x1 y0 y1)), (fun v _ => v = Value.bool true), (fun v _ => v = Value.bool true), (fun v _ => v = Value.bool true), (fun v _ => v = Value.agg #[Value.int IntKind.i64 x0, Value.int IntKind.i64 x1]), (fun v _ => v = Value.agg #[Value.int IntKind.i64 y0, Value.int IntKind.i64 y1]), (fun v _ => v = Value.bool (Sp.tc x0 x1 y0 y1)), (fun v _ => v = Value.agg #[Value.int IntKind.i64 x0, Value.int IntKind.i64 x1]), (fun v _ => v = Value.agg #[Value.int IntKind.i64 y0, Value.int IntKind.i64 y1]), (fun v _ => v = Value.bool (Sp.tc x0 x1 y0 y1)), (fun v _ => v = Value.bool true), (fun v _ => v = Value.bool true), (fun v _ => v = Value.bool true), (fun v _ => v = Value.agg #[Value.int IntKind.i64 x0, Value.int IntKind.i64 x1]), (fun v _ => v = Value.agg #[Value.int IntKind.i64 y0, Value.int IntKind.i64 y1]), (fun v W => ∃ u : Value, v = u ∧ SpV W u l), (fun v _ => v = Value.agg #[Value.int IntKind.i64 x0, Value.int IntKind.i64 x1]), (fun v _ => v = Value.agg #[Value.int IntKind.i64 y0, Value.int IntKind.i64 y1]), (fun v W => ∃ u : Value, v = u ∧ SpV W u l), (fun v _ => v = Value.bool true), (fun v _ => v = Value.bool true), (fun v _ => v = Value.bool true), (fun v _ => v = Value.bool true), (fun v _ => v = Value.bool true), (fun v _ => v = Value.bool true)]) (G := fun W W' => Below W.heap.size W W') (by rfl) ?hbeg ⟨by kernel_rfl, by kernel_rfl, by kernel_rfl, ?hkeep, ?hstab, Obs.all ?hobs, ?hlast⟩
  case hbeg =>
    try dsimp only
    exact keep16 ((Below.refl _ _).drew) F.out
  case hkeep =>
    intro w' w'' hC hG
    try dsimp only at hC hG ⊢
    exact keep16 hG hC
  case hstab =>
    refine StableL.all ?_
    repeat (first | exact trivial | refine ⟨(by first | exact (fun _ _ _ _ h => h) | (exact fun v W W' hG h => by obtain ⟨u, hv, hs⟩ := h; exact ⟨u, hv, SpV.on hs hG⟩)), ?_⟩)
  case hobs =>
    refine Obs.cons (k' := 1) rfl ?_ ?_
    · intro fa W hW hSame hRR KK hKK
      try dsimp only at hW
      have fb7 := hSame.base 7 (by kernel_rfl)
      simp only [List.getElem?_toArray, List.getElem?_cons_succ, List.getElem?_cons_zero] at fb7
      replace hKK : ∀ v w', Go.RowKit.Below W.heap.size W w' → v = Value.agg #[Value.int IntKind.i64 p0, Value.int IntKind.i64 p1] → KK (Act.put fa _ v) w' := fun v w' h1 h2 => hKK v w' h1 h2
      clear hSame hRR
      rw [if_pos (wanted_plain rfl)]
      go_simp
      refine hKK _ _ ?_ ?_
      · first | exact Below.refl _ _ | exact (Below.refl _ _).alloc (Nat.le_refl _) _ | exact below_draw _ _ | assumption
      · exact rfl
    refine Obs.cons (k' := 2) rfl ?_ ?_
    · intro fa W hW hSame hRR KK hKK
      try dsimp only at hW
      have fb9 := hSame.base 9 (by kernel_rfl)
      simp only [List.getElem?_toArray, List.getElem?_cons_succ, List.getElem?_cons_zero] at fb9
      replace hKK : ∀ v w', Go.RowKit.Below W.heap.size W w' → v = Value.agg #[Value.int IntKind.i64 p0, Value.int IntKind.i64 p1] → KK (Act.put fa _ v) w' := fun v w' h1 h2 => hKK v w' h1 h2
      clear hSame hRR
      rw [if_pos (wanted_plain rfl)]
      go_simp
      refine hKK _ _ ?_ ?_
      · first | exact Below.refl _ _ | exact (Below.refl _ _).alloc (Nat.le_refl _) _ | exact below_draw _ _ | assumption
      · exact rfl
    refine Obs.cons (k' := 3) rfl ?_ ?_
    · intro fa W hW hSame hRR KK hKK
      try dsimp only at hW
      obtain ⟨fv0, ft0, fm0⟩ := hRR 0 _ 69 rfl rfl (by kernel_rfl)
      replace fm0 : fv0 = Value.agg #[Value.int IntKind.i64 p0, Value.int IntKind.i64 p1] := fm0
      subst fm0
      obtain ⟨fv1, ft1, fm1⟩ := hRR 1 _ 70 rfl rfl (by kernel_rfl)
      replace fm1 : fv1 = Value.agg #[Value.int IntKind.i64 p0, Value.int IntKind.i64 p1] := fm1
      subst fm1
      replace hKK : ∀ v w', Go.RowKit.Below W.heap.size W w' → v = Value.bool true → KK (Act.put fa _ v) w' := fun v w' h1 h2 => hKK v w' h1 h2
      clear hSame hRR
      rw [if_pos (wanted_plain rfl)]
      go_simp
      refine hKK _ _ ?_ ?_
      · first | exact Below.refl _ _ | exact (Below.refl _ _).alloc (Nat.le_refl _) _ | exact below_draw _ _ | assumption
      · exact rfl
    refine Obs.cons (k' := 4) rfl ?_ ?_
    · intro fa W hW hSame hRR KK hKK
      try dsimp only at hW
      obtain ⟨fv2, ft2, fm2⟩ := hRR 2 _ 71 rfl rfl (by kernel_rfl)
      replace fm2 : fv2 = Value.bool true := fm2
      subst fm2
      replace hKK : ∀ v w', Go.RowKit.Below W.heap.size W w' → v = Value.bool true → KK (Act.put fa _ v) w' := fun v w' h1 h2 => hKK v w' h1 h2
      clear hSame hRR
      rw [if_pos (wanted_plain rfl)]
      go_simp
      refine hKK _ _ ?_ ?_
      · first | exact Below.refl _ _ | exact (Below.refl _ _).alloc (Nat.le_refl _) _ | exact below_draw _ _ | assumption
      · exact rfl
    refine Obs.cons (k' := 5) rfl ?_ ?_
    · intro fa W hW hSame hRR KK hKK
      try dsimp only at hW
      obtain ⟨fv3, ft3, fm3⟩ := hRR 3 _ 72 rfl rfl (by kernel_rfl)
      replace fm3 : fv3 = Value.bool true := fm3
      subst fm3
      have fb8 := hSame.base 8 (by kernel_rfl)
      simp only [List.getElem?_toArray, List.getElem?_cons_succ, List.getElem?_cons_zero] at fb8
      replace hKK : ∀ v w', Go.RowKit.Below W.heap.size W w' → v = Value.bool pb → KK (Act.put fa _ v) w' := fun v w' h1 h2 => hKK v w' h1 h2
      clear hSame hRR
      rw [wanted_guard rfl rfl rfl ft3]
      first | rw [if_pos (by rfl)] | rw [if_neg (by decide)]
      go_simp
      refine hKK _ _ ?_ ?_
      · first | exact Below.refl _ _ | exact (Below.refl _ _).alloc (Nat.le_refl _) _ | exact below_draw _ _ | assumption
      · exact rfl
    refine Obs.cons (k' := 6) rfl ?_ ?_
    · intro fa W hW hSame hRR KK hKK
      try dsimp only at hW
      obtain ⟨fv3, ft3, fm3⟩ := hRR 3 _ 72 rfl rfl (by kernel_rfl)
      replace fm3 : fv3 = Value.bool true := fm3
      subst fm3
      have fb10 := hSame.base 10 (by kernel_rfl)
      simp only [List.getElem?_toArray, List.getElem?_cons_succ, List.getElem?_cons_zero] at fb10
      replace hKK : ∀ v w', Go.RowKit.Below W.heap.size W w' → v = Value.bool pb → KK (Act.put fa _ v) w' := fun v w' h1 h2 => hKK v w' h1 h2
      clear hSame hRR
      rw [wanted_guard rfl rfl rfl ft3]
      first | rw [if_pos (by rfl)] | rw [if_neg (by decide)]
      go_simp
      refine hKK _ _ ?_ ?_
      · first | exact Below.refl _ _ | exact (Below.refl _ _).alloc (Nat.le_refl _) _ | exact below_draw _ _ | assumption
      · exact rfl
    refine Obs.cons (k' := 7) rfl ?_ ?_
    · intro fa W hW hSame hRR KK hKK
      try dsimp only at hW
      obtain ⟨fv4, ft4, fm4⟩ := hRR 4 _ 73 rfl rfl (by kernel_rfl)
      replace fm4 : fv4 = Value.bool pb := fm4
      subst fm4
      obtain ⟨fv5, ft5, fm5⟩ := hRR 5 _ 74 rfl rfl (by kernel_rfl)
      replace fm5 : fv5 = Value.bool pb := fm5
      subst fm5
      obtain ⟨fv3, ft3, fm3⟩ := hRR 3 _ 72 rfl rfl (by kernel_rfl)
      replace fm3 : fv3 = Value.bool true := fm3
      subst fm3
      replace hKK : ∀ v w', Go.RowKit.Below W.heap.size W w' → v = Value.bool true → KK (Act.put fa _ v) w' := fun v w' h1 h2 => hKK v w' h1 h2
      clear hSame hRR
      rw [wanted_guard rfl rfl rfl ft3]
      first | rw [if_pos (by rfl)] | rw [if_neg (by decide)]
      go_simp
      refine hKK _ _ ?_ ?_
      · first | exact Below.refl _ _ | exact (Below.refl _ _).alloc (Nat.le_refl _) _ | exact below_draw _ _ | assumption
      · exact rfl
    refine Obs.cons (k' := 8) rfl ?_ ?_
    · intro fa W hW hSame hRR KK hKK
      try dsimp only at hW
      obtain ⟨fv3, ft3, fm3⟩ := hRR 3 _ 72 rfl rfl (by kernel_rfl)
      replace fm3 : fv3 = Value.bool true := fm3
      subst fm3
      obtain ⟨fv6, ft6, fm6⟩ := hRR 6 _ 75 rfl rfl (by kernel_rfl)
      replace fm6 : fv6 = Value.bool true := fm6
      subst fm6
      replace hKK : ∀ v w', Go.RowKit.Below W.heap.size W w' → v = Value.bool true → KK (Act.put fa _ v) w' := fun v w' h1 h2 => hKK v w' h1 h2
      clear hSame hRR
      rw [if_pos (wanted_plain rfl)]
      go_simp
      refine hKK _ _ ?_ ?_
      · first | exact Below.refl _ _ | exact (Below.refl _ _).alloc (Nat.le_refl _) _ | exact below_draw _ _ | assumption
      · exact rfl
    refine Obs.cons (k' := 9) rfl ?_ ?_
    · intro fa W hW hSame hRR KK hKK
      try dsimp only at hW
      obtain ⟨fv7, ft7, fm7⟩ := hRR 7 _ 76 rfl rfl (by kernel_rfl)
      replace fm7 : fv7 = Value.bool true := fm7
      subst fm7
      replace hKK : ∀ v w', Go.RowKit.Below W.heap.size W w' → v = Value.bool true → KK (Act.put fa _ v) w' := fun v w' h1 h2 => hKK v w' h1 h2
      clear hSame hRR
      rw [if_pos (wanted_plain rfl)]
      go_simp
      refine hKK _ _ ?_ ?_
      · first | exact Below.refl _ _ | exact (Below.refl _ _).alloc (Nat.le_refl _) _ | exact below_draw _ _ | assumption
      · exact rfl
    refine Obs.cons (k' := 10) rfl ?_ ?_
    · intro fa W hW hSame hRR KK hKK
      try dsimp only at hW
      obtain ⟨fv8, ft8, fm8⟩ := hRR 8 _ 77 rfl rfl (by kernel_rfl)
      replace fm8 : fv8 = Value.bool true := fm8
      subst fm8
      have fb11 := hSame.base 11 (by kernel_rfl)
      simp only [List.getElem?_toArray, List.getElem?_cons_succ, List.getElem?_cons_zero] at fb11
      replace hKK : ∀ v w', Go.RowKit.Below W.heap.size W w' → v = Value.agg #[Value.int IntKind.i64 q0, Value.int IntKind.i64 q1] → KK (Act.put fa _ v) w' := fun v w' h1 h2 => hKK v w' h1 h2
      clear hSame hRR
      rw [wanted_guard rfl rfl rfl ft8]
      first | rw [if_pos (by rfl)] | rw [if_neg (by decide)]
      go_simp
      refine hKK _ _ ?_ ?_
      · first | exact Below.refl _ _ | exact (Below.refl _ _).alloc (Nat.le_refl _) _ | exact below_draw _ _ | assumption
      · exact rfl
    refine Obs.cons (k' := 11) rfl ?_ ?_
    · intro fa W hW hSame hRR KK hKK
      try dsimp only at hW
      obtain ⟨fv8, ft8, fm8⟩ := hRR 8 _ 77 rfl rfl (by kernel_rfl)
      replace fm8 : fv8 = Value.bool true := fm8
      subst fm8
      have fb13 := hSame.base 13 (by kernel_rfl)
      simp only [List.getElem?_toArray, List.getElem?_cons_succ, List.getElem?_cons_zero] at fb13
      replace hKK : ∀ v w', Go.RowKit.Below W.heap.size W w' → v = Value.agg #[Value.int IntKind.i64 q0, Value.int IntKind.i64 q1] → KK (Act.put fa _ v) w' := fun v w' h1 h2 => hKK v w' h1 h2
      clear hSame hRR
      rw [wanted_guard rfl rfl rfl ft8]
      first | rw [if_pos (by rfl)] | rw [if_neg (by decide)]
      go_simp
      refine hKK _ _ ?_ ?_
      · first | exact Below.refl _ _ | exact (Below.refl _ _).alloc (Nat.le_refl _) _ | exact below_draw _ _ | assumption
      · exact rfl
    refine Obs.cons (k' := 12) rfl ?_ ?_
    · intro fa W hW hSame hRR KK hKK
      try dsimp only at hW
      obtain ⟨fv9, ft9, fm9⟩ := hRR 9 _ 78 rfl rfl (by kernel_rfl)
      replace fm9 : fv9 = Value.agg #[Value.int IntKind.i64 q0, Value.int IntKind.i64 q1] := fm9
      subst fm9
      obtain ⟨fv10, ft10, fm10⟩ := hRR 10 _ 79 rfl rfl (by kernel_rfl)
      replace fm10 : fv10 = Value.agg #[Value.int IntKind.i64 q0, Value.int IntKind.i64 q1] := fm10
      subst fm10
      obtain ⟨fv8, ft8, fm8⟩ := hRR 8 _ 77 rfl rfl (by kernel_rfl)
      replace fm8 : fv8 = Value.bool true := fm8
      subst fm8
      replace hKK : ∀ v w', Go.RowKit.Below W.heap.size W w' → v = Value.bool true → KK (Act.put fa _ v) w' := fun v w' h1 h2 => hKK v w' h1 h2
      clear hSame hRR
      rw [wanted_guard rfl rfl rfl ft8]
      first | rw [if_pos (by rfl)] | rw [if_neg (by decide)]
      go_simp
      refine hKK _ _ ?_ ?_
      · first | exact Below.refl _ _ | exact (Below.refl _ _).alloc (Nat.le_refl _) _ | exact below_draw _ _ | assumption
      · exact rfl
    refine Obs.cons (k' := 13) rfl ?_ ?_
    · intro fa W hW hSame hRR KK hKK
      try dsimp only at hW
      obtain ⟨fv8, ft8, fm8⟩ := hRR 8 _ 77 rfl rfl (by kernel_rfl)
      replace fm8 : fv8 = Value.bool true := fm8
      subst fm8
      obtain ⟨fv11, ft11, fm11⟩ := hRR 11 _ 80 rfl rfl (by kernel_rfl)
      replace fm11 : fv11 = Value.bool true := fm11
      subst fm11
      replace hKK : ∀ v w', Go.RowKit.Below W.heap.size W w' → v = Value.bool true → KK (Act.put fa _ v) w' := fun v w' h1 h2 => hKK v w' h1 h2
      clear hSame hRR
      rw [if_pos (wanted_plain rfl)]
      go_simp
      refine hKK _ _ ?_ ?_
      · first | exact Below.refl _ _ | exact (Below.refl _ _).alloc (Nat.le_refl _) _ | exact below_draw _ _ | assumption
      · exact rfl
    refine Obs.cons (k' := 14) rfl ?_ ?_
    · intro fa W hW hSame hRR KK hKK
      try dsimp only at hW
      obtain ⟨fv12, ft12, fm12⟩ := hRR 12 _ 81 rfl rfl (by kernel_rfl)
      replace fm12 : fv12 = Value.bool true := fm12
      subst fm12
      replace hKK : ∀ v w', Go.RowKit.Below W.heap.size W w' → v = Value.bool true → KK (Act.put fa _ v) w' := fun v w' h1 h2 => hKK v w' h1 h2
      clear hSame hRR
      rw [if_pos (wanted_plain rfl)]
      go_simp
      refine hKK _ _ ?_ ?_
      · first | exact Below.refl _ _ | exact (Below.refl _ _).alloc (Nat.le_refl _) _ | exact below_draw _ _ | assumption
      · exact rfl
    refine Obs.cons (k' := 15) rfl ?_ ?_
    · intro fa W hW hSame hRR KK hKK
      try dsimp only at hW
      obtain ⟨fv13, ft13, fm13⟩ := hRR 13 _ 82 rfl rfl (by kernel_rfl)
      replace fm13 : fv13 = Value.bool true := fm13
      subst fm13
      have fb12 := hSame.base 12 (by kernel_rfl)
      simp only [List.getElem?_toArray, List.getElem?_cons_succ, List.getElem?_cons_zero] at fb12
      replace hKK : ∀ v w', Go.RowKit.Below W.heap.size W w' → v = Value.bool qb → KK (Act.put fa _ v) w' := fun v w' h1 h2 => hKK v w' h1 h2
      clear hSame hRR
      rw [wanted_guard rfl rfl rfl ft13]
      first | rw [if_pos (by rfl)] | rw [if_neg (by decide)]
      go_simp
      refine hKK _ _ ?_ ?_
      · first | exact Below.refl _ _ | exact (Below.refl _ _).alloc (Nat.le_refl _) _ | exact below_draw _ _ | assumption
      · exact rfl
    refine Obs.cons (k' := 16) rfl ?_ ?_
    · intro fa W hW hSame hRR KK hKK
      try dsimp only at hW
      obtain ⟨fv13, ft13, fm13⟩ := hRR 13 _ 82 rfl rfl (by kernel_rfl)
      replace fm13 : fv13 = Value.bool true := fm13
      subst fm13
      have fb14 := hSame.base 14 (by kernel_rfl)
      simp only [List.getElem?_toArray, List.getElem?_cons_succ, List.getElem?_cons_zero] at fb14
      replace hKK : ∀ v w', Go.RowKit.Below W.heap.size W w' → v = Value.bool qb → KK (Act.put fa _ v) w' := fun v w' h1 h2 => hKK v w' h1 h2
      clear hSame hRR
      rw [wanted_guard rfl rfl rfl ft13]
      first | rw [if_pos (by rfl)] | rw [if_neg (by decide)]
      go_simp
      refine hKK _ _ ?_ ?_
      · first | exact Below.refl _ _ | exact (Below.refl _ _).alloc (Nat.le_refl _) _ | exact below_draw _ _ | assumption
      · exact rfl
    refine Obs.cons (k' := 17) rfl ?_ ?_
    · intro fa W hW hSame hRR KK hKK
      try dsimp only at hW
      obtain ⟨fv14, ft14, fm14⟩ := hRR 14 _ 83 rfl rfl (by kernel_rfl)
      replace fm14 : fv14 = Value.bool qb := fm14
      subst fm14
      obtain ⟨fv15, ft15, fm15⟩ := hRR 15 _ 84 rfl rfl (by kernel_rfl)
      replace fm15 : fv15 = Value.bool qb := fm15
      subst fm15
      obtain ⟨fv13, ft13, fm13⟩ := hRR 13 _ 82 rfl rfl (by kernel_rfl)
      replace fm13 : fv13 = Value.bool true := fm13
      subst fm13
      replace hKK : ∀ v w', Go.RowKit.Below W.heap.size W w' → v = Value.bool true → KK (Act.put fa _ v) w' := fun v w' h1 h2 => hKK v w' h1 h2
      clear hSame hRR
      rw [wanted_guard rfl rfl rfl ft13]
      first | rw [if_pos (by rfl)] | rw [if_neg (by decide)]
      go_simp
      refine hKK _ _ ?_ ?_
      · first | exact Below.refl _ _ | exact (Below.refl _ _).alloc (Nat.le_refl _) _ | exact below_draw _ _ | assumption
      · exact rfl
    refine Obs.cons (k' := 18) rfl ?_ ?_
    · intro fa W hW hSame hRR KK hKK
      try dsimp only at hW
      obtain ⟨fv13, ft13, fm13⟩ := hRR 13 _ 82 rfl rfl (by kernel_rfl)
      replace fm13 : fv13 = Value.bool true := fm13
      subst fm13
      obtain ⟨fv16, ft16, fm16⟩ := hRR 16 _ 85 rfl rfl (by kernel_rfl)
      replace fm16 : fv16 = Value.bool true := fm16
      subst fm16
      replace hKK : ∀ v w', Go.RowKit.Below W.heap.size W w' → v = Value.bool true → KK (Act.put fa _ v) w' := fun v w' h1 h2 => hKK v w' h1 h2
      clear hSame hRR
      rw [if_pos (wanted_plain rfl)]
      go_simp
      refine hKK _ _ ?_ ?_
      · first | exact Below.refl _ _ | exact (Below.refl _ _).alloc (Nat.le_refl _) _ | exact below_draw _ _ | assumption
      · exact rfl
    refine Obs.cons (k' := 19) rfl ?_ ?_
    · intro fa W hW hSame hRR KK hKK
      try dsimp only at hW
      obtain ⟨fv17, ft17, fm17⟩ := hRR 17 _ 86 rfl rfl (by kernel_rfl)
      replace fm17 : fv17 = Value.bool true := fm17
      subst fm17
      replace hKK : ∀ v w', Go.RowKit.Below W.heap.size W w' → v = Value.bool true → KK (Act.put fa _ v) w' := fun v w' h1 h2 => hKK v w' h1 h2
      clear hSame hRR
      rw [if_pos (wanted_plain rfl)]
      go_simp
      refine hKK _ _ ?_ ?_
      · first | exact Below.refl _ _ | exact (Below.refl _ _).alloc (Nat.le_refl _) _ | exact below_draw _ _ | assumption
      · exact rfl
    refine Obs.cons (k' := 20) rfl ?_ ?_
    · intro fa W hW hSame hRR KK hKK
      try dsimp only at hW
      obtain ⟨fv18, ft18, fm18⟩ := hRR 18 _ 87 rfl rfl (by kernel_rfl)
      replace fm18 : fv18 = Value.bool true := fm18
      subst fm18
      have fb15 := hSame.base 15 (by kernel_rfl)
      simp only [List.getElem?_toArray, List.getElem?_cons_succ, List.getElem?_cons_zero] at fb15
      replace hKK : ∀ v w', Go.RowKit.Below W.heap.size W w' → v = Value.int IntKind.i64 r0 → KK (Act.put fa _ v) w' := fun v w' h1 h2 => hKK v w' h1 h2
      clear hSame hRR
      rw [wanted_guard rfl rfl rfl ft18]
      first | rw [if_pos (by rfl)] | rw [if_neg (by decide)]
      go_simp
      refine hKK _ _ ?_ ?_
      · first | exact Below.refl _ _ | exact (Below.refl _ _).alloc (Nat.le_refl _) _ | exact below_draw _ _ | assumption
      · exact rfl
    refine Obs.cons (k' := 21) rfl ?_ ?_
    · intro fa W hW hSame hRR KK hKK
      try dsimp only at hW
      obtain ⟨fv18, ft18, fm18⟩ := hRR 18 _ 87 rfl rfl (by kernel_rfl)
      replace fm18 : fv18 = Value.bool true := fm18
      subst fm18
      have fb17 := hSame.base 17 (by kernel_rfl)
      simp only [List.getElem?_toArray, List.getElem?_cons_succ, List.getElem?_cons_zero] at fb17
      replace hKK : ∀ v w', Go.RowKit.Below W.heap.size W w' → v = Value.int IntKind.i64 r0 → KK (Act.put fa _ v) w' := fun v w' h1 h2 => hKK v w' h1 h2
      clear hSame hRR
      rw [wanted_guard rfl rfl rfl ft18]
      first | rw [if_pos (by rfl)] | rw [if_neg (by decide)]
      go_simp
      refine hKK _ _ ?_ ?_
      · first | exact Below.refl _ _ | exact (Below.refl _ _).alloc (Nat.le_refl _) _ | exact below_draw _ _ | assumption
      · exact rfl
    refine Obs.cons (k' := 22) rfl ?_ ?_
    · intro fa W hW hSame hRR KK hKK
      try dsimp only at hW
      obtain ⟨fv19, ft19, fm19⟩ := hRR 19 _ 88 rfl rfl (by kernel_rfl)
      replace fm19 : fv19 = Value.int IntKind.i64 r0 := fm19
      subst fm19
      obtain ⟨fv20, ft20, fm20⟩ := hRR 20 _ 89 rfl rfl (by kernel_rfl)
      replace fm20 : fv20 = Value.int IntKind.i64 r0 := fm20
      subst fm20
      obtain ⟨fv18, ft18, fm18⟩ := hRR 18 _ 87 rfl rfl (by kernel_rfl)
      replace fm18 : fv18 = Value.bool true := fm18
      subst fm18
      replace hKK : ∀ v w', Go.RowKit.Below W.heap.size W w' → v = Value.bool true → KK (Act.put fa _ v) w' := fun v w' h1 h2 => hKK v w' h1 h2
      clear hSame hRR
      rw [wanted_guard rfl rfl rfl ft18]
      first | rw [if_pos (by rfl)] | rw [if_neg (by decide)]
      go_simp
      refine hKK _ _ ?_ ?_
      · first | exact Below.refl _ _ | exact (Below.refl _ _).alloc (Nat.le_refl _) _ | exact below_draw _ _ | assumption
      · exact rfl
    refine Obs.cons (k' := 23) rfl ?_ ?_
    · intro fa W hW hSame hRR KK hKK
      try dsimp only at hW
      obtain ⟨fv18, ft18, fm18⟩ := hRR 18 _ 87 rfl rfl (by kernel_rfl)
      replace fm18 : fv18 = Value.bool true := fm18
      subst fm18
      obtain ⟨fv21, ft21, fm21⟩ := hRR 21 _ 90 rfl rfl (by kernel_rfl)
      replace fm21 : fv21 = Value.bool true := fm21
      subst fm21
      replace hKK : ∀ v w', Go.RowKit.Below W.heap.size W w' → v = Value.bool true → KK (Act.put fa _ v) w' := fun v w' h1 h2 => hKK v w' h1 h2
      clear hSame hRR
      rw [if_pos (wanted_plain rfl)]
      go_simp
      refine hKK _ _ ?_ ?_
      · first | exact Below.refl _ _ | exact (Below.refl _ _).alloc (Nat.le_refl _) _ | exact below_draw _ _ | assumption
      · exact rfl
    refine Obs.cons (k' := 24) rfl ?_ ?_
    · intro fa W hW hSame hRR KK hKK
      try dsimp only at hW
      obtain ⟨fv22, ft22, fm22⟩ := hRR 22 _ 91 rfl rfl (by kernel_rfl)
      replace fm22 : fv22 = Value.bool true := fm22
      subst fm22
      replace hKK : ∀ v w', Go.RowKit.Below W.heap.size W w' → v = Value.bool true → KK (Act.put fa _ v) w' := fun v w' h1 h2 => hKK v w' h1 h2
      clear hSame hRR
      rw [if_pos (wanted_plain rfl)]
      go_simp
      refine hKK _ _ ?_ ?_
      · first | exact Below.refl _ _ | exact (Below.refl _ _).alloc (Nat.le_refl _) _ | exact below_draw _ _ | assumption
      · exact rfl
    refine Obs.cons (k' := 25) rfl ?_ ?_
    · intro fa W hW hSame hRR KK hKK
      try dsimp only at hW
      obtain ⟨fv23, ft23, fm23⟩ := hRR 23 _ 92 rfl rfl (by kernel_rfl)
      replace fm23 : fv23 = Value.bool true := fm23
      subst fm23
      have fb16 := hSame.base 16 (by kernel_rfl)
      simp only [List.getElem?_toArray, List.getElem?_cons_succ, List.getElem?_cons_zero] at fb16
      replace hKK : ∀ v w', Go.RowKit.Below W.heap.size W w' → v = Value.int IntKind.i64 r1 → KK (Act.put fa _ v) w' := fun v w' h1 h2 => hKK v w' h1 h2
      clear hSame hRR
      rw [wanted_guard rfl rfl rfl ft23]
      first | rw [if_pos (by rfl)] | rw [if_neg (by decide)]
      go_simp
      refine hKK _ _ ?_ ?_
      · first | exact Below.refl _ _ | exact (Below.refl _ _).alloc (Nat.le_refl _) _ | exact below_draw _ _ | assumption
      · exact rfl
    refine Obs.cons (k' := 26) rfl ?_ ?_
    · intro fa W hW hSame hRR KK hKK
      try dsimp only at hW
      obtain ⟨fv23, ft23, fm23⟩ := hRR 23 _ 92 rfl rfl (by kernel_rfl)
      replace fm23 : fv23 = Value.bool true := fm23
      subst fm23
      have fb18 := hSame.base 18 (by kernel_rfl)
      simp only [List.getElem?_toArray, List.getElem?_cons_succ, List.getElem?_cons_zero] at fb18
      replace hKK : ∀ v w', Go.RowKit.Below W.heap.size W w' → v = Value.int IntKind.i64 r1 → KK (Act.put fa _ v) w' := fun v w' h1 h2 => hKK v w' h1 h2
      clear hSame hRR
      rw [wanted_guard rfl rfl rfl ft23]
      first | rw [if_pos (by rfl)] | rw [if_neg (by decide)]
      go_simp
      refine hKK _ _ ?_ ?_
      · first | exact Below.refl _ _ | exact (Below.refl _ _).alloc (Nat.le_refl _) _ | exact below_draw _ _ | assumption
      · exact rfl
    refine Obs.cons (k' := 27) rfl ?_ ?_
    · intro fa W hW hSame hRR KK hKK
      try dsimp only at hW
      obtain ⟨fv24, ft24, fm24⟩ := hRR 24 _ 93 rfl rfl (by kernel_rfl)
      replace fm24 : fv24 = Value.int IntKind.i64 r1 := fm24
      subst fm24
      obtain ⟨fv25, ft25, fm25⟩ := hRR 25 _ 94 rfl rfl (by kernel_rfl)
      replace fm25 : fv25 = Value.int IntKind.i64 r1 := fm25
      subst fm25
      obtain ⟨fv23, ft23, fm23⟩ := hRR 23 _ 92 rfl rfl (by kernel_rfl)
      replace fm23 : fv23 = Value.bool true := fm23
      subst fm23
      replace hKK : ∀ v w', Go.RowKit.Below W.heap.size W w' → v = Value.bool true → KK (Act.put fa _ v) w' := fun v w' h1 h2 => hKK v w' h1 h2
      clear hSame hRR
      rw [wanted_guard rfl rfl rfl ft23]
      first | rw [if_pos (by rfl)] | rw [if_neg (by decide)]
      go_simp
      refine hKK _ _ ?_ ?_
      · first | exact Below.refl _ _ | exact (Below.refl _ _).alloc (Nat.le_refl _) _ | exact below_draw _ _ | assumption
      · exact rfl
    refine Obs.cons (k' := 28) rfl ?_ ?_
    · intro fa W hW hSame hRR KK hKK
      try dsimp only at hW
      obtain ⟨fv23, ft23, fm23⟩ := hRR 23 _ 92 rfl rfl (by kernel_rfl)
      replace fm23 : fv23 = Value.bool true := fm23
      subst fm23
      obtain ⟨fv26, ft26, fm26⟩ := hRR 26 _ 95 rfl rfl (by kernel_rfl)
      replace fm26 : fv26 = Value.bool true := fm26
      subst fm26
      replace hKK : ∀ v w', Go.RowKit.Below W.heap.size W w' → v = Value.bool true → KK (Act.put fa _ v) w' := fun v w' h1 h2 => hKK v w' h1 h2
      clear hSame hRR
      rw [if_pos (wanted_plain rfl)]
      go_simp
      refine hKK _ _ ?_ ?_
      · first | exact Below.refl _ _ | exact (Below.refl _ _).alloc (Nat.le_refl _) _ | exact below_draw _ _ | assumption
      · exact rfl
    refine Obs.cons (k' := 29) rfl ?_ ?_
    · intro fa W hW hSame hRR KK hKK
      try dsimp only at hW
      obtain ⟨fv27, ft27, fm27⟩ := hRR 27 _ 96 rfl rfl (by kernel_rfl)
      replace fm27 : fv27 = Value.bool true := fm27
      subst fm27
      replace hKK : ∀ v w', Go.RowKit.Below W.heap.size W w' → v = Value.bool true → KK (Act.put fa _ v) w' := fun v w' h1 h2 => hKK v w' h1 h2
      clear hSame hRR
      rw [if_pos (wanted_plain rfl)]
      go_simp
      refine hKK _ _ ?_ ?_
      · first | exact Below.refl _ _ | exact (Below.refl _ _).alloc (Nat.le_refl _) _ | exact below_draw _ _ | assumption
      · exact rfl
    refine Obs.cons (k' := 30) rfl ?_ ?_
    · intro fa W hW hSame hRR KK hKK
      try dsimp only at hW
      obtain ⟨fv28, ft28, fm28⟩ := hRR 28 _ 97 rfl rfl (by kernel_rfl)
      replace fm28 : fv28 = Value.bool true := fm28
      subst fm28
      have fb19 := hSame.base 19 (by kernel_rfl)
      simp only [List.getElem?_toArray, List.getElem?_cons_succ, List.getElem?_cons_zero] at fb19
      replace hKK : ∀ v w', Go.RowKit.Below W.heap.size W w' → v = Value.agg #[Value.int IntKind.i64 u0, Value.int IntKind.i64 u1] → KK (Act.put fa _ v) w' := fun v w' h1 h2 => hKK v w' h1 h2
      clear hSame hRR
      rw [wanted_guard rfl rfl rfl ft28]
      first | rw [if_pos (by rfl)] | rw [if_neg (by decide)]
      go_simp
      refine hKK _ _ ?_ ?_
      · first | exact Below.refl _ _ | exact (Below.refl _ _).alloc (Nat.le_refl _) _ | exact below_draw _ _ | assumption
      · exact rfl
    refine Obs.cons (k' := 31) rfl ?_ ?_
    · intro fa W hW hSame hRR KK hKK
      try dsimp only at hW
      obtain ⟨fv28, ft28, fm28⟩ := hRR 28 _ 97 rfl rfl (by kernel_rfl)
      replace fm28 : fv28 = Value.bool true := fm28
      subst fm28
      have fb21 := hSame.base 21 (by kernel_rfl)
      simp only [List.getElem?_toArray, List.getElem?_cons_succ, List.getElem?_cons_zero] at fb21
      replace hKK : ∀ v w', Go.RowKit.Below W.heap.size W w' → v = Value.agg #[Value.int IntKind.i64 u0, Value.int IntKind.i64 u1] → KK (Act.put fa _ v) w' := fun v w' h1 h2 => hKK v w' h1 h2
      clear hSame hRR
      rw [wanted_guard rfl rfl rfl ft28]
      first | rw [if_pos (by rfl)] | rw [if_neg (by decide)]
      go_simp
      refine hKK _ _ ?_ ?_
      · first | exact Below.refl _ _ | exact (Below.refl _ _).alloc (Nat.le_refl _) _ | exact below_draw _ _ | assumption
      · exact rfl
    refine Obs.cons (k' := 32) rfl ?_ ?_
    · intro fa W hW hSame hRR KK hKK
      try dsimp only at hW
      obtain ⟨fv29, ft29, fm29⟩ := hRR 29 _ 98 rfl rfl (by kernel_rfl)
      replace fm29 : fv29 = Value.agg #[Value.int IntKind.i64 u0, Value.int IntKind.i64 u1] := fm29
      subst fm29
      obtain ⟨fv30, ft30, fm30⟩ := hRR 30 _ 99 rfl rfl (by kernel_rfl)
      replace fm30 : fv30 = Value.agg #[Value.int IntKind.i64 u0, Value.int IntKind.i64 u1] := fm30
      subst fm30
      obtain ⟨fv28, ft28, fm28⟩ := hRR 28 _ 97 rfl rfl (by kernel_rfl)
      replace fm28 : fv28 = Value.bool true := fm28
      subst fm28
      replace hKK : ∀ v w', Go.RowKit.Below W.heap.size W w' → v = Value.bool true → KK (Act.put fa _ v) w' := fun v w' h1 h2 => hKK v w' h1 h2
      clear hSame hRR
      rw [wanted_guard rfl rfl rfl ft28]
      first | rw [if_pos (by rfl)] | rw [if_neg (by decide)]
      go_simp
      refine hKK _ _ ?_ ?_
      · first | exact Below.refl _ _ | exact (Below.refl _ _).alloc (Nat.le_refl _) _ | exact below_draw _ _ | assumption
      · exact rfl
    refine Obs.cons (k' := 33) rfl ?_ ?_
    · intro fa W hW hSame hRR KK hKK
      try dsimp only at hW
      obtain ⟨fv28, ft28, fm28⟩ := hRR 28 _ 97 rfl rfl (by kernel_rfl)
      replace fm28 : fv28 = Value.bool true := fm28
      subst fm28
      obtain ⟨fv31, ft31, fm31⟩ := hRR 31 _ 100 rfl rfl (by kernel_rfl)
      replace fm31 : fv31 = Value.bool true := fm31
      subst fm31
      replace hKK : ∀ v w', Go.RowKit.Below W.heap.size W w' → v = Value.bool true → KK (Act.put fa _ v) w' := fun v w' h1 h2 => hKK v w' h1 h2
      clear hSame hRR
      rw [if_pos (wanted_plain rfl)]
      go_simp
      refine hKK _ _ ?_ ?_
      · first | exact Below.refl _ _ | exact (Below.refl _ _).alloc (Nat.le_refl _) _ | exact below_draw _ _ | assumption
      · exact rfl
    refine Obs.cons (k' := 34) rfl ?_ ?_
    · intro fa W hW hSame hRR KK hKK
      try dsimp only at hW
      obtain ⟨fv32, ft32, fm32⟩ := hRR 32 _ 101 rfl rfl (by kernel_rfl)
      replace fm32 : fv32 = Value.bool true := fm32
      subst fm32
      replace hKK : ∀ v w', Go.RowKit.Below W.heap.size W w' → v = Value.bool true → KK (Act.put fa _ v) w' := fun v w' h1 h2 => hKK v w' h1 h2
      clear hSame hRR
      rw [if_pos (wanted_plain rfl)]
      go_simp
      refine hKK _ _ ?_ ?_
      · first | exact Below.refl _ _ | exact (Below.refl _ _).alloc (Nat.le_refl _) _ | exact below_draw _ _ | assumption
      · exact rfl
    refine Obs.cons (k' := 35) rfl ?_ ?_
    · intro fa W hW hSame hRR KK hKK
      try dsimp only at hW
      obtain ⟨fv33, ft33, fm33⟩ := hRR 33 _ 102 rfl rfl (by kernel_rfl)
      replace fm33 : fv33 = Value.bool true := fm33
      subst fm33
      have fb20 := hSame.base 20 (by kernel_rfl)
      simp only [List.getElem?_toArray, List.getElem?_cons_succ, List.getElem?_cons_zero] at fb20
      replace hKK : ∀ v w', Go.RowKit.Below W.heap.size W w' → v = Value.int IntKind.i64 u2 → KK (Act.put fa _ v) w' := fun v w' h1 h2 => hKK v w' h1 h2
      clear hSame hRR
      rw [wanted_guard rfl rfl rfl ft33]
      first | rw [if_pos (by rfl)] | rw [if_neg (by decide)]
      go_simp
      refine hKK _ _ ?_ ?_
      · first | exact Below.refl _ _ | exact (Below.refl _ _).alloc (Nat.le_refl _) _ | exact below_draw _ _ | assumption
      · exact rfl
    refine Obs.cons (k' := 36) rfl ?_ ?_
    · intro fa W hW hSame hRR KK hKK
      try dsimp only at hW
      obtain ⟨fv33, ft33, fm33⟩ := hRR 33 _ 102 rfl rfl (by kernel_rfl)
      replace fm33 : fv33 = Value.bool true := fm33
      subst fm33
      have fb22 := hSame.base 22 (by kernel_rfl)
      simp only [List.getElem?_toArray, List.getElem?_cons_succ, List.getElem?_cons_zero] at fb22
      replace hKK : ∀ v w', Go.RowKit.Below W.heap.size W w' → v = Value.int IntKind.i64 u2 → KK (Act.put fa _ v) w' := fun v w' h1 h2 => hKK v w' h1 h2
      clear hSame hRR
      rw [wanted_guard rfl rfl rfl ft33]
      first | rw [if_pos (by rfl)] | rw [if_neg (by decide)]
      go_simp
      refine hKK _ _ ?_ ?_
      · first | exact Below.refl _ _ | exact (Below.refl _ _).alloc (Nat.le_refl _) _ | exact below_draw _ _ | assumption
      · exact rfl
    refine Obs.cons (k' := 37) rfl ?_ ?_
    · intro fa W hW hSame hRR KK hKK
      try dsimp only at hW
      obtain ⟨fv34, ft34, fm34⟩ := hRR 34 _ 103 rfl rfl (by kernel_rfl)
      replace fm34 : fv34 = Value.int IntKind.i64 u2 := fm34
      subst fm34
      obtain ⟨fv35, ft35, fm35⟩ := hRR 35 _ 104 rfl rfl (by kernel_rfl)
      replace fm35 : fv35 = Value.int IntKind.i64 u2 := fm35
      subst fm35
      obtain ⟨fv33, ft33, fm33⟩ := hRR 33 _ 102 rfl rfl (by kernel_rfl)
      replace fm33 : fv33 = Value.bool true := fm33
      subst fm33
      replace hKK : ∀ v w', Go.RowKit.Below W.heap.size W w' → v = Value.bool true → KK (Act.put fa _ v) w' := fun v w' h1 h2 => hKK v w' h1 h2
      clear hSame hRR
      rw [wanted_guard rfl rfl rfl ft33]
      first | rw [if_pos (by rfl)] | rw [if_neg (by decide)]
      go_simp
      refine hKK _ _ ?_ ?_
      · first | exact Below.refl _ _ | exact (Below.refl _ _).alloc (Nat.le_refl _) _ | exact below_draw _ _ | assumption
      · exact rfl
    refine Obs.cons (k' := 38) rfl ?_ ?_
    · intro fa W hW hSame hRR KK hKK
      try dsimp only at hW
      obtain ⟨fv33, ft33, fm33⟩ := hRR 33 _ 102 rfl rfl (by kernel_rfl)
      replace fm33 : fv33 = Value.bool true := fm33
      subst fm33
      obtain ⟨fv36, ft36, fm36⟩ := hRR 36 _ 105 rfl rfl (by kernel_rfl)
      replace fm36 : fv36 = Value.bool true := fm36
      subst fm36
      replace hKK : ∀ v w', Go.RowKit.Below W.heap.size W w' → v = Value.bool true → KK (Act.put fa _ v) w' := fun v w' h1 h2 => hKK v w' h1 h2
      clear hSame hRR
      rw [if_pos (wanted_plain rfl)]
      go_simp
      refine hKK _ _ ?_ ?_
      · first | exact Below.refl _ _ | exact (Below.refl _ _).alloc (Nat.le_refl _) _ | exact below_draw _ _ | assumption
      · exact rfl
    refine Obs.cons (k' := 39) rfl ?_ ?_
    · intro fa W hW hSame hRR KK hKK
      try dsimp only at hW
      obtain ⟨fv37, ft37, fm37⟩ := hRR 37 _ 106 rfl rfl (by kernel_rfl)
      replace fm37 : fv37 = Value.bool true := fm37
      subst fm37
      replace hKK : ∀ v w', Go.RowKit.Below W.heap.size W w' → v = Value.bool true → KK (Act.put fa _ v) w' := fun v w' h1 h2 => hKK v w' h1 h2
      clear hSame hRR
      rw [if_pos (wanted_plain rfl)]
      go_simp
      refine hKK _ _ ?_ ?_
      · first | exact Below.refl _ _ | exact (Below.refl _ _).alloc (Nat.le_refl _) _ | exact below_draw _ _ | assumption
      · exact rfl
    refine Obs.cons (k' := 40) rfl ?_ ?_
    · intro fa W hW hSame hRR KK hKK
      try dsimp only at hW
      obtain ⟨fv38, ft38, fm38⟩ := hRR 38 _ 107 rfl rfl (by kernel_rfl)
      replace fm38 : fv38 = Value.bool true := fm38
      subst fm38
      have fb3 := hSame.base 3 (by kernel_rfl)
      simp only [List.getElem?_toArray, List.getElem?_cons_succ, List.getElem?_cons_zero] at fb3
      replace hKK : ∀ v w', Go.RowKit.Below W.heap.size W w' → v = Value.agg #[Value.int IntKind.i64 x0, Value.int IntKind.i64 x1] → KK (Act.put fa _ v) w' := fun v w' h1 h2 => hKK v w' h1 h2
      clear hSame hRR
      rw [wanted_guard rfl rfl rfl ft38]
      first | rw [if_pos (by rfl)] | rw [if_neg (by decide)]
      go_simp
      refine hKK _ _ ?_ ?_
      · first | exact Below.refl _ _ | exact (Below.refl _ _).alloc (Nat.le_refl _) _ | exact below_draw _ _ | assumption
      · exact rfl
    refine Obs.cons (k' := 41) rfl ?_ ?_
    · intro fa W hW hSame hRR KK hKK
      try dsimp only at hW
      obtain ⟨fv39, ft39, fm39⟩ := hRR 39 _ 108 rfl rfl (by kernel_rfl)
      replace fm39 : fv39 = Value.agg #[Value.int IntKind.i64 x0, Value.int IntKind.i64 x1] := fm39
      subst fm39
      obtain ⟨fv38, ft38, fm38⟩ := hRR 38 _ 107 rfl rfl (by kernel_rfl)
      replace fm38 : fv38 = Value.bool true := fm38
      subst fm38
      replace hKK : ∀ v w', Go.RowKit.Below W.heap.size W w' → v = Value.bool (Sp.rb x0 x1) → KK (Act.put fa _ v) w' := fun v w' h1 h2 => hKK v w' h1 h2
      clear hSame hRR
      rw [wanted_guard rfl rfl rfl ft38]
      first | rw [if_pos (by rfl)] | rw [if_neg (by decide)]
      go_simp
      first
        | (go_at_call 32; refine (span_right _ _ _).mono ?_; rintro e w' ⟨rfl, hb⟩)
        | (go_at_call 33; refine (noontideref10_right _ _ _).mono ?_; rintro e w' ⟨rfl, hb⟩)
        | (go_at_call 34; refine (span_has _ _ _ _).mono ?_; rintro e w' ⟨rfl, hb⟩)
        | (go_at_call 35; refine (noontideref10_has _ _ _ _).mono ?_; rintro e w' ⟨rfl, hb⟩)
        | (go_at_call 36; refine (span_meet _ _ _ _ _).mono ?_; rintro e w' ⟨rfl, hb⟩)
        | (go_at_call 37; refine (noontideref10_meet _ _ _ _ _).mono ?_; rintro e w' ⟨rfl, hb⟩)
        | (go_at_call 38; refine (span_touch _ _ _ _ _).mono ?_; rintro e w' ⟨rfl, hb⟩)
        | (go_at_call 39; refine (noontideref10_touch _ _ _ _ _).mono ?_; rintro e w' ⟨rfl, hb⟩)
        | (go_at_call 41; refine (SL1.out _).mono ?_; rintro e w' ⟨u1', s1, rfl, b1'⟩)
        | (go_at_call 42; refine (SL2.out _).mono ?_; rintro e w' ⟨u2', s2, rfl, b2'⟩)
        | (go_at_call 43; refine (lives10 _).mono ?_; rintro e w' ⟨rfl, hb⟩)
        | (go_at_call 40; (with_reducible refine (same_yes _ _ l _ fm75 fm78 LL.out).mono ?_); rintro e w' ⟨rfl, jj, hk⟩; have hb := below_of_drawn hk)
      try dsimp only
      refine hKK _ _ ?_ ?_
      · first | exact Below.refl _ _ | exact (Below.refl _ _).alloc (Nat.le_refl _) _ | exact below_draw _ _ | assumption
      · exact rfl
    refine Obs.cons (k' := 42) rfl ?_ ?_
    · intro fa W hW hSame hRR KK hKK
      try dsimp only at hW
      obtain ⟨fv38, ft38, fm38⟩ := hRR 38 _ 107 rfl rfl (by kernel_rfl)
      replace fm38 : fv38 = Value.bool true := fm38
      subst fm38
      have fb3 := hSame.base 3 (by kernel_rfl)
      simp only [List.getElem?_toArray, List.getElem?_cons_succ, List.getElem?_cons_zero] at fb3
      replace hKK : ∀ v w', Go.RowKit.Below W.heap.size W w' → v = Value.agg #[Value.int IntKind.i64 x0, Value.int IntKind.i64 x1] → KK (Act.put fa _ v) w' := fun v w' h1 h2 => hKK v w' h1 h2
      clear hSame hRR
      rw [wanted_guard rfl rfl rfl ft38]
      first | rw [if_pos (by rfl)] | rw [if_neg (by decide)]
      go_simp
      refine hKK _ _ ?_ ?_
      · first | exact Below.refl _ _ | exact (Below.refl _ _).alloc (Nat.le_refl _) _ | exact below_draw _ _ | assumption
      · exact rfl
    refine Obs.cons (k' := 43) rfl ?_ ?_
    · intro fa W hW hSame hRR KK hKK
      try dsimp only at hW
      obtain ⟨fv41, ft41, fm41⟩ := hRR 41 _ 110 rfl rfl (by kernel_rfl)
      replace fm41 : fv41 = Value.agg #[Value.int IntKind.i64 x0, Value.int IntKind.i64 x1] := fm41
      subst fm41
      obtain ⟨fv38, ft38, fm38⟩ := hRR 38 _ 107 rfl rfl (by kernel_rfl)
      replace fm38 : fv38 = Value.bool true := fm38
      subst fm38
      replace hKK : ∀ v w', Go.RowKit.Below W.heap.size W w' → v = Value.bool (Sp.rb x0 x1) → KK (Act.put fa _ v) w' := fun v w' h1 h2 => hKK v w' h1 h2
      clear hSame hRR
      rw [wanted_guard rfl rfl rfl ft38]
      first | rw [if_pos (by rfl)] | rw [if_neg (by decide)]
      go_simp
      first
        | (go_at_call 32; refine (span_right _ _ _).mono ?_; rintro e w' ⟨rfl, hb⟩)
        | (go_at_call 33; refine (noontideref10_right _ _ _).mono ?_; rintro e w' ⟨rfl, hb⟩)
        | (go_at_call 34; refine (span_has _ _ _ _).mono ?_; rintro e w' ⟨rfl, hb⟩)
        | (go_at_call 35; refine (noontideref10_has _ _ _ _).mono ?_; rintro e w' ⟨rfl, hb⟩)
        | (go_at_call 36; refine (span_meet _ _ _ _ _).mono ?_; rintro e w' ⟨rfl, hb⟩)
        | (go_at_call 37; refine (noontideref10_meet _ _ _ _ _).mono ?_; rintro e w' ⟨rfl, hb⟩)
        | (go_at_call 38; refine (span_touch _ _ _ _ _).mono ?_; rintro e w' ⟨rfl, hb⟩)
        | (go_at_call 39; refine (noontideref10_touch _ _ _ _ _).mono ?_; rintro e w' ⟨rfl, hb⟩)
        | (go_at_call 41; refine (SL1.out _).mono ?_; rintro e w' ⟨u1', s1, rfl, b1'⟩)
        | (go_at_call 42; refine (SL2.out _).mono ?_; rintro e w' ⟨u2', s2, rfl, b2'⟩)
        | (go_at_call 43; refine (lives10 _).mono ?_; rintro e w' ⟨rfl, hb⟩)
        | (go_at_call 40; (with_reducible refine (same_yes _ _ l _ fm75 fm78 LL.out).mono ?_); rintro e w' ⟨rfl, jj, hk⟩; have hb := below_of_drawn hk)
      try dsimp only
      refine hKK _ _ ?_ ?_
      · first | exact Below.refl _ _ | exact (Below.refl _ _).alloc (Nat.le_refl _) _ | exact below_draw _ _ | assumption
      · exact rfl
    refine Obs.cons (k' := 44) rfl ?_ ?_
    · intro fa W hW hSame hRR KK hKK
      try dsimp only at hW
      obtain ⟨fv40, ft40, fm40⟩ := hRR 40 _ 109 rfl rfl (by kernel_rfl)
      replace fm40 : fv40 = Value.bool (Sp.rb x0 x1) := fm40
      subst fm40
      obtain ⟨fv42, ft42, fm42⟩ := hRR 42 _ 111 rfl rfl (by kernel_rfl)
      replace fm42 : fv42 = Value.bool (Sp.rb x0 x1) := fm42
      subst fm42
      obtain ⟨fv38, ft38, fm38⟩ := hRR 38 _ 107 rfl rfl (by kernel_rfl)
      replace fm38 : fv38 = Value.bool true := fm38
      subst fm38
      replace hKK : ∀ v w', Go.RowKit.Below W.heap.size W w' → v = Value.bool true → KK (Act.put fa _ v) w' := fun v w' h1 h2 => hKK v w' h1 h2
      clear hSame hRR
      rw [wanted_guard rfl rfl rfl ft38]
      first | rw [if_pos (by rfl)] | rw [if_neg (by decide)]
      go_simp
      refine hKK _ _ ?_ ?_
      · first | exact Below.refl _ _ | exact (Below.refl _ _).alloc (Nat.le_refl _) _ | exact below_draw _ _ | assumption
      · exact rfl
    refine Obs.cons (k' := 45) rfl ?_ ?_
    · intro fa W hW hSame hRR KK hKK
      try dsimp only at hW
      obtain ⟨fv38, ft38, fm38⟩ := hRR 38 _ 107 rfl rfl (by kernel_rfl)
      replace fm38 : fv38 = Value.bool true := fm38
      subst fm38
      obtain ⟨fv43, ft43, fm43⟩ := hRR 43 _ 112 rfl rfl (by kernel_rfl)
      replace fm43 : fv43 = Value.bool true := fm43
      subst fm43
      replace hKK : ∀ v w', Go.RowKit.Below W.heap.size W w' → v = Value.bool true → KK (Act.put fa _ v) w' := fun v w' h1 h2 => hKK v w' h1 h2
      clear hSame hRR
      rw [if_pos (wanted_plain rfl)]
      go_simp
      refine hKK _ _ ?_ ?_
      · first | exact Below.refl _ _ | exact (Below.refl _ _).alloc (Nat.le_refl _) _ | exact below_draw _ _ | assumption
      · exact rfl
    refine Obs.cons (k' := 46) rfl ?_ ?_
    · intro fa W hW hSame hRR KK hKK
      try dsimp only at hW
      obtain ⟨fv44, ft44, fm44⟩ := hRR 44 _ 113 rfl rfl (by kernel_rfl)
      replace fm44 : fv44 = Value.bool true := fm44
      subst fm44
      replace hKK : ∀ v w', Go.RowKit.Below W.heap.size W w' → v = Value.bool true → KK (Act.put fa _ v) w' := fun v w' h1 h2 => hKK v w' h1 h2
      clear hSame hRR
      rw [if_pos (wanted_plain rfl)]
      go_simp
      refine hKK _ _ ?_ ?_
      · first | exact Below.refl _ _ | exact (Below.refl _ _).alloc (Nat.le_refl _) _ | exact below_draw _ _ | assumption
      · exact rfl
    refine Obs.cons (k' := 47) rfl ?_ ?_
    · intro fa W hW hSame hRR KK hKK
      try dsimp only at hW
      obtain ⟨fv45, ft45, fm45⟩ := hRR 45 _ 114 rfl rfl (by kernel_rfl)
      replace fm45 : fv45 = Value.bool true := fm45
      subst fm45
      have fb3 := hSame.base 3 (by kernel_rfl)
      simp only [List.getElem?_toArray, List.getElem?_cons_succ, List.getElem?_cons_zero] at fb3
      replace hKK : ∀ v w', Go.RowKit.Below W.heap.size W w' → v = Value.agg #[Value.int IntKind.i64 x0, Value.int IntKind.i64 x1] → KK (Act.put fa _ v) w' := fun v w' h1 h2 => hKK v w' h1 h2
      clear hSame hRR
      rw [wanted_guard rfl rfl rfl ft45]
      first | rw [if_pos (by rfl)] | rw [if_neg (by decide)]
      go_simp
      refine hKK _ _ ?_ ?_
      · first | exact Below.refl _ _ | exact (Below.refl _ _).alloc (Nat.le_refl _) _ | exact below_draw _ _ | assumption
      · exact rfl
    refine Obs.cons (k' := 48) rfl ?_ ?_
    · intro fa W hW hSame hRR KK hKK
      try dsimp only at hW
      obtain ⟨fv45, ft45, fm45⟩ := hRR 45 _ 114 rfl rfl (by kernel_rfl)
      replace fm45 : fv45 = Value.bool true := fm45
      subst fm45
      have fb2 := hSame.base 2 (by kernel_rfl)
      simp only [List.getElem?_toArray, List.getElem?_cons_succ, List.getElem?_cons_zero] at fb2
      replace hKK : ∀ v w', Go.RowKit.Below W.heap.size W w' → v = Value.int IntKind.i64 t → KK (Act.put fa _ v) w' := fun v w' h1 h2 => hKK v w' h1 h2
      clear hSame hRR
      rw [wanted_guard rfl rfl rfl ft45]
      first | rw [if_pos (by rfl)] | rw [if_neg (by decide)]
      go_simp
      refine hKK _ _ ?_ ?_
      · first | exact Below.refl _ _ | exact (Below.refl _ _).alloc (Nat.le_refl _) _ | exact below_draw _ _ | assumption
      · exact rfl
    refine Obs.cons (k' := 49) rfl ?_ ?_
    · intro fa W hW hSame hRR KK hKK
      try dsimp only at hW
      obtain ⟨fv46, ft46, fm46⟩ := hRR 46 _ 115 rfl rfl (by kernel_rfl)
      replace fm46 : fv46 = Value.agg #[Value.int IntKind.i64 x0, Value.int IntKind.i64 x1] := fm46
      subst fm46
      obtain ⟨fv47, ft47, fm47⟩ := hRR 47 _ 116 rfl rfl (by kernel_rfl)
      replace fm47 : fv47 = Value.int IntKind.i64 t := fm47
      subst fm47
      obtain ⟨fv45, ft45, fm45⟩ := hRR 45 _ 114 rfl rfl (by kernel_rfl)
      replace fm45 : fv45 = Value.bool true := fm45
      subst fm45
      replace hKK : ∀ v w', Go.RowKit.Below W.heap.size W w' → v = Value.bool (Sp.hs x0 x1 t) → KK (Act.put fa _ v) w' := fun v w' h1 h2 => hKK v w' h1 h2
      clear hSame hRR
      rw [wanted_guard rfl rfl rfl ft45]
      first | rw [if_pos (by rfl)] | rw [if_neg (by decide)]
      go_simp
      first
        | (go_at_call 32; refine (span_right _ _ _).mono ?_; rintro e w' ⟨rfl, hb⟩)
        | (go_at_call 33; refine (noontideref10_right _ _ _).mono ?_; rintro e w' ⟨rfl, hb⟩)
        | (go_at_call 34; refine (span_has _ _ _ _).mono ?_; rintro e w' ⟨rfl, hb⟩)
        | (go_at_call 35; refine (noontideref10_has _ _ _ _).mono ?_; rintro e w' ⟨rfl, hb⟩)
        | (go_at_call 36; refine (span_meet _ _ _ _ _).mono ?_; rintro e w' ⟨rfl, hb⟩)
        | (go_at_call 37; refine (noontideref10_meet _ _ _ _ _).mono ?_; rintro e w' ⟨rfl, hb⟩)
        | (go_at_call 38; refine (span_touch _ _ _ _ _).mono ?_; rintro e w' ⟨rfl, hb⟩)
        | (go_at_call 39; refine (noontideref10_touch _ _ _ _ _).mono ?_; rintro e w' ⟨rfl, hb⟩)
        | (go_at_call 41; refine (SL1.out _).mono ?_; rintro e w' ⟨u1', s1, rfl, b1'⟩)
        | (go_at_call 42; refine (SL2.out _).mono ?_; rintro e w' ⟨u2', s2, rfl, b2'⟩)
        | (go_at_call 43; refine (lives10 _).mono ?_; rintro e w' ⟨rfl, hb⟩)
        | (go_at_call 40; (with_reducible refine (same_yes _ _ l _ fm75 fm78 LL.out).mono ?_); rintro e w' ⟨rfl, jj, hk⟩; have hb := below_of_drawn hk)
      try dsimp only
      refine hKK _ _ ?_ ?_
      · first | exact Below.refl _ _ | exact (Below.refl _ _).alloc (Nat.le_refl _) _ | exact below_draw _ _ | assumption
      · exact rfl
    refine Obs.cons (k' := 50) rfl ?_ ?_
    · intro fa W hW hSame hRR KK hKK
      try dsimp only at hW
      obtain ⟨fv45, ft45, fm45⟩ := hRR 45 _ 114 rfl rfl (by kernel_rfl)
      replace fm45 : fv45 = Value.bool true := fm45
      subst fm45
      have fb3 := hSame.base 3 (by kernel_rfl)
      simp only [List.getElem?_toArray, List.getElem?_cons_succ, List.getElem?_cons_zero] at fb3
      replace hKK : ∀ v w', Go.RowKit.Below W.heap.size W w' → v = Value.agg #[Value.int IntKind.i64 x0, Value.int IntKind.i64 x1] → KK (Act.put fa _ v) w' := fun v w' h1 h2 => hKK v w' h1 h2
      clear hSame hRR
      rw [wanted_guard rfl rfl rfl ft45]
      first | rw [if_pos (by rfl)] | rw [if_neg (by decide)]
      go_simp
      refine hKK _ _ ?_ ?_
      · first | exact Below.refl _ _ | exact (Below.refl _ _).alloc (Nat.le_refl _) _ | exact below_draw _ _ | assumption
      · exact rfl
    refine Obs.cons (k' := 51) rfl ?_ ?_
    · intro fa W hW hSame hRR KK hKK
      try dsimp only at hW
      obtain ⟨fv45, ft45, fm45⟩ := hRR 45 _ 114 rfl rfl (by kernel_rfl)
      replace fm45 : fv45 = Value.bool true := fm45
      subst fm45
      have fb2 := hSame.base 2 (by kernel_rfl)
      simp only [List.getElem?_toArray, List.getElem?_cons_succ, List.getElem?_cons_zero] at fb2
      replace hKK : ∀ v w', Go.RowKit.Below W.heap.size W w' → v = Value.int IntKind.i64 t → KK (Act.put fa _ v) w' := fun v w' h1 h2 => hKK v w' h1 h2
      clear hSame hRR
      rw [wanted_guard rfl rfl rfl ft45]
      first | rw [if_pos (by rfl)] | rw [if_neg (by decide)]
      go_simp
      refine hKK _ _ ?_ ?_
      · first | exact Below.refl _ _ | exact (Below.refl _ _).alloc (Nat.le_refl _) _ | exact below_draw _ _ | assumption
      · exact rfl
    refine Obs.cons (k' := 52) rfl ?_ ?_
    · intro fa W hW hSame hRR KK hKK
      try dsimp only at hW
      obtain ⟨fv49, ft49, fm49⟩ := hRR 49 _ 118 rfl rfl (by kernel_rfl)
      replace fm49 : fv49 = Value.agg #[Value.int IntKind.i64 x0, Value.int IntKind.i64 x1] := fm49
      subst fm49
      obtain ⟨fv50, ft50, fm50⟩ := hRR 50 _ 119 rfl rfl (by kernel_rfl)
      replace fm50 : fv50 = Value.int IntKind.i64 t := fm50
      subst fm50
      obtain ⟨fv45, ft45, fm45⟩ := hRR 45 _ 114 rfl rfl (by kernel_rfl)
      replace fm45 : fv45 = Value.bool true := fm45
      subst fm45
      replace hKK : ∀ v w', Go.RowKit.Below W.heap.size W w' → v = Value.bool (Sp.hs x0 x1 t) → KK (Act.put fa _ v) w' := fun v w' h1 h2 => hKK v w' h1 h2
      clear hSame hRR
      rw [wanted_guard rfl rfl rfl ft45]
      first | rw [if_pos (by rfl)] | rw [if_neg (by decide)]
      go_simp
      first
        | (go_at_call 32; refine (span_right _ _ _).mono ?_; rintro e w' ⟨rfl, hb⟩)
        | (go_at_call 33; refine (noontideref10_right _ _ _).mono ?_; rintro e w' ⟨rfl, hb⟩)
        | (go_at_call 34; refine (span_has _ _ _ _).mono ?_; rintro e w' ⟨rfl, hb⟩)
        | (go_at_call 35; refine (noontideref10_has _ _ _ _).mono ?_; rintro e w' ⟨rfl, hb⟩)
        | (go_at_call 36; refine (span_meet _ _ _ _ _).mono ?_; rintro e w' ⟨rfl, hb⟩)
        | (go_at_call 37; refine (noontideref10_meet _ _ _ _ _).mono ?_; rintro e w' ⟨rfl, hb⟩)
        | (go_at_call 38; refine (span_touch _ _ _ _ _).mono ?_; rintro e w' ⟨rfl, hb⟩)
        | (go_at_call 39; refine (noontideref10_touch _ _ _ _ _).mono ?_; rintro e w' ⟨rfl, hb⟩)
        | (go_at_call 41; refine (SL1.out _).mono ?_; rintro e w' ⟨u1', s1, rfl, b1'⟩)
        | (go_at_call 42; refine (SL2.out _).mono ?_; rintro e w' ⟨u2', s2, rfl, b2'⟩)
        | (go_at_call 43; refine (lives10 _).mono ?_; rintro e w' ⟨rfl, hb⟩)
        | (go_at_call 40; (with_reducible refine (same_yes _ _ l _ fm75 fm78 LL.out).mono ?_); rintro e w' ⟨rfl, jj, hk⟩; have hb := below_of_drawn hk)
      try dsimp only
      refine hKK _ _ ?_ ?_
      · first | exact Below.refl _ _ | exact (Below.refl _ _).alloc (Nat.le_refl _) _ | exact below_draw _ _ | assumption
      · exact rfl
    refine Obs.cons (k' := 53) rfl ?_ ?_
    · intro fa W hW hSame hRR KK hKK
      try dsimp only at hW
      obtain ⟨fv48, ft48, fm48⟩ := hRR 48 _ 117 rfl rfl (by kernel_rfl)
      replace fm48 : fv48 = Value.bool (Sp.hs x0 x1 t) := fm48
      subst fm48
      obtain ⟨fv51, ft51, fm51⟩ := hRR 51 _ 120 rfl rfl (by kernel_rfl)
      replace fm51 : fv51 = Value.bool (Sp.hs x0 x1 t) := fm51
      subst fm51
      obtain ⟨fv45, ft45, fm45⟩ := hRR 45 _ 114 rfl rfl (by kernel_rfl)
      replace fm45 : fv45 = Value.bool true := fm45
      subst fm45
      replace hKK : ∀ v w', Go.RowKit.Below W.heap.size W w' → v = Value.bool true → KK (Act.put fa _ v) w' := fun v w' h1 h2 => hKK v w' h1 h2
      clear hSame hRR
      rw [wanted_guard rfl rfl rfl ft45]
      first | rw [if_pos (by rfl)] | rw [if_neg (by decide)]
      go_simp
      refine hKK _ _ ?_ ?_
      · first | exact Below.refl _ _ | exact (Below.refl _ _).alloc (Nat.le_refl _) _ | exact below_draw _ _ | assumption
      · exact rfl
    refine Obs.cons (k' := 54) rfl ?_ ?_
    · intro fa W hW hSame hRR KK hKK
      try dsimp only at hW
      obtain ⟨fv45, ft45, fm45⟩ := hRR 45 _ 114 rfl rfl (by kernel_rfl)
      replace fm45 : fv45 = Value.bool true := fm45
      subst fm45
      obtain ⟨fv52, ft52, fm52⟩ := hRR 52 _ 121 rfl rfl (by kernel_rfl)
      replace fm52 : fv52 = Value.bool true := fm52
      subst fm52
      replace hKK : ∀ v w', Go.RowKit.Below W.heap.size W w' → v = Value.bool true → KK (Act.put fa _ v) w' := fun v w' h1 h2 => hKK v w' h1 h2
      clear hSame hRR
      rw [if_pos (wanted_plain rfl)]
      go_simp
      refine hKK _ _ ?_ ?_
      · first | exact Below.refl _ _ | exact (Below.refl _ _).alloc (Nat.le_refl _) _ | exact below_draw _ _ | assumption
      · exact rfl
    refine Obs.cons (k' := 55) rfl ?_ ?_
    · intro fa W hW hSame hRR KK hKK
      try dsimp only at hW
      obtain ⟨fv53, ft53, fm53⟩ := hRR 53 _ 122 rfl rfl (by kernel_rfl)
      replace fm53 : fv53 = Value.bool true := fm53
      subst fm53
      replace hKK : ∀ v w', Go.RowKit.Below W.heap.size W w' → v = Value.bool true → KK (Act.put fa _ v) w' := fun v w' h1 h2 => hKK v w' h1 h2
      clear hSame hRR
      rw [if_pos (wanted_plain rfl)]
      go_simp
      refine hKK _ _ ?_ ?_
      · first | exact Below.refl _ _ | exact (Below.refl _ _).alloc (Nat.le_refl _) _ | exact below_draw _ _ | assumption
      · exact rfl
    refine Obs.cons (k' := 56) rfl ?_ ?_
    · intro fa W hW hSame hRR KK hKK
      try dsimp only at hW
      obtain ⟨fv54, ft54, fm54⟩ := hRR 54 _ 123 rfl rfl (by kernel_rfl)
      replace fm54 : fv54 = Value.bool true := fm54
      subst fm54
      have fb3 := hSame.base 3 (by kernel_rfl)
      simp only [List.getElem?_toArray, List.getElem?_cons_succ, List.getElem?_cons_zero] at fb3
      replace hKK : ∀ v w', Go.RowKit.Below W.heap.size W w' → v = Value.agg #[Value.int IntKind.i64 x0, Value.int IntKind.i64 x1] → KK (Act.put fa _ v) w' := fun v w' h1 h2 => hKK v w' h1 h2
      clear hSame hRR
      rw [wanted_guard rfl rfl rfl ft54]
      first | rw [if_pos (by rfl)] | rw [if_neg (by decide)]
      go_simp
      refine hKK _ _ ?_ ?_
      · first | exact Below.refl _ _ | exact (Below.refl _ _).alloc (Nat.le_refl _) _ | exact below_draw _ _ | assumption
      · exact rfl
    refine Obs.cons (k' := 57) rfl ?_ ?_
    · intro fa W hW hSame hRR KK hKK
      try dsimp only at hW
      obtain ⟨fv54, ft54, fm54⟩ := hRR 54 _ 123 rfl rfl (by kernel_rfl)
      replace fm54 : fv54 = Value.bool true := fm54
      subst fm54
      have fb4 := hSame.base 4 (by kernel_rfl)
      simp only [List.getElem?_toArray, List.getElem?_cons_succ, List.getElem?_cons_zero] at fb4
      replace hKK : ∀ v w', Go.RowKit.Below W.heap.size W w' → v = Value.agg #[Value.int IntKind.i64 y0, Value.int IntKind.i64 y1] → KK (Act.put fa _ v) w' := fun v w' h1 h2 => hKK v w' h1 h2
      clear hSame hRR
      rw [wanted_guard rfl rfl rfl ft54]
      first | rw [if_pos (by rfl)] | rw [if_neg (by decide)]
      go_simp
      refine hKK _ _ ?_ ?_
      · first | exact Below.refl _ _ | exact (Below.refl _ _).alloc (Nat.le_refl _) _ | exact below_draw _ _ | assumption
      · exact rfl
    refine Obs.cons (k' := 58) rfl ?_ ?_
    · intro fa W hW hSame hRR KK hKK
      try dsimp only at hW
      obtain ⟨fv55, ft55, fm55⟩ := hRR 55 _ 124 rfl rfl (by kernel_rfl)
      replace fm55 : fv55 = Value.agg #[Value.int IntKind.i64 x0, Value.int IntKind.i64 x1] := fm55
      subst fm55
      obtain ⟨fv56, ft56, fm56⟩ := hRR 56 _ 125 rfl rfl (by kernel_rfl)
      replace fm56 : fv56 = Value.agg #[Value.int IntKind.i64 y0, Value.int IntKind.i64 y1] := fm56
      subst fm56
      obtain ⟨fv54, ft54, fm54⟩ := hRR 54 _ 123 rfl rfl (by kernel_rfl)
      replace fm54 : fv54 = Value.bool true := fm54
      subst fm54
      replace hKK : ∀ v w', Go.RowKit.Below W.heap.size W w' → v = Value.bool (Sp.mt x0 x1 y0 y1) → KK (Act.put fa _ v) w' := fun v w' h1 h2 => hKK v w' h1 h2
      clear hSame hRR
      rw [wanted_guard rfl rfl rfl ft54]
      first | rw [if_pos (by rfl)] | rw [if_neg (by decide)]
      go_simp
      first
        | (go_at_call 32; refine (span_right _ _ _).mono ?_; rintro e w' ⟨rfl, hb⟩)
        | (go_at_call 33; refine (noontideref10_right _ _ _).mono ?_; rintro e w' ⟨rfl, hb⟩)
        | (go_at_call 34; refine (span_has _ _ _ _).mono ?_; rintro e w' ⟨rfl, hb⟩)
        | (go_at_call 35; refine (noontideref10_has _ _ _ _).mono ?_; rintro e w' ⟨rfl, hb⟩)
        | (go_at_call 36; refine (span_meet _ _ _ _ _).mono ?_; rintro e w' ⟨rfl, hb⟩)
        | (go_at_call 37; refine (noontideref10_meet _ _ _ _ _).mono ?_; rintro e w' ⟨rfl, hb⟩)
        | (go_at_call 38; refine (span_touch _ _ _ _ _).mono ?_; rintro e w' ⟨rfl, hb⟩)
        | (go_at_call 39; refine (noontideref10_touch _ _ _ _ _).mono ?_; rintro e w' ⟨rfl, hb⟩)
        | (go_at_call 41; refine (SL1.out _).mono ?_; rintro e w' ⟨u1', s1, rfl, b1'⟩)
        | (go_at_call 42; refine (SL2.out _).mono ?_; rintro e w' ⟨u2', s2, rfl, b2'⟩)
        | (go_at_call 43; refine (lives10 _).mono ?_; rintro e w' ⟨rfl, hb⟩)
        | (go_at_call 40; (with_reducible refine (same_yes _ _ l _ fm75 fm78 LL.out).mono ?_); rintro e w' ⟨rfl, jj, hk⟩; have hb := below_of_drawn hk)
      try dsimp only
      refine hKK _ _ ?_ ?_
      · first | exact Below.refl _ _ | exact (Below.refl _ _).alloc (Nat.le_refl _) _ | exact below_draw _ _ | assumption
      · exact rfl
    refine Obs.cons (k' := 59) rfl ?_ ?_
    · intro fa W hW hSame hRR KK hKK
      try dsimp only at hW
      obtain ⟨fv54, ft54, fm54⟩ := hRR 54 _ 123 rfl rfl (by kernel_rfl)
      replace fm54 : fv54 = Value.bool true := fm54
      subst fm54
      have fb3 := hSame.base 3 (by kernel_rfl)
      simp only [List.getElem?_toArray, List.getElem?_cons_succ, List.getElem?_cons_zero] at fb3
      replace hKK : ∀ v w', Go.RowKit.Below W.heap.size W w' → v = Value.agg #[Value.int IntKind.i64 x0, Value.int IntKind.i64 x1] → KK (Act.put fa _ v) w' := fun v w' h1 h2 => hKK v w' h1 h2
      clear hSame hRR
      rw [wanted_guard rfl rfl rfl ft54]
      first | rw [if_pos (by rfl)] | rw [if_neg (by decide)]
      go_simp
      refine hKK _ _ ?_ ?_
      · first | exact Below.refl _ _ | exact (Below.refl _ _).alloc (Nat.le_refl _) _ | exact below_draw _ _ | assumption
      · exact rfl
    refine Obs.cons (k' := 60) rfl ?_ ?_
    · intro fa W hW hSame hRR KK hKK
      try dsimp only at hW
      obtain ⟨fv54, ft54, fm54⟩ := hRR 54 _ 123 rfl rfl (by kernel_rfl)
      replace fm54 : fv54 = Value.bool true := fm54
      subst fm54
      have fb4 := hSame.base 4 (by kernel_rfl)
      simp only [List.getElem?_toArray, List.getElem?_cons_succ, List.getElem?_cons_zero] at fb4
      replace hKK : ∀ v w', Go.RowKit.Below W.heap.size W w' → v = Value.agg #[Value.int IntKind.i64 y0, Value.int IntKind.i64 y1] → KK (Act.put fa _ v) w' := fun v w' h1 h2 => hKK v w' h1 h2
      clear hSame hRR
      rw [wanted_guard rfl rfl rfl ft54]
      first | rw [if_pos (by rfl)] | rw [if_neg (by decide)]
      go_simp
      refine hKK _ _ ?_ ?_
      · first | exact Below.refl _ _ | exact (Below.refl _ _).alloc (Nat.le_refl _) _ | exact below_draw _ _ | assumption
      · exact rfl
    refine Obs.cons (k' := 61) rfl ?_ ?_
    · intro fa W hW hSame hRR KK hKK
      try dsimp only at hW
      obtain ⟨fv58, ft58, fm58⟩ := hRR 58 _ 127 rfl rfl (by kernel_rfl)
      replace fm58 : fv58 = Value.agg #[Value.int IntKind.i64 x0, Value.int IntKind.i64 x1] := fm58
      subst fm58
      obtain ⟨fv59, ft59, fm59⟩ := hRR 59 _ 128 rfl rfl (by kernel_rfl)
      replace fm59 : fv59 = Value.agg #[Value.int IntKind.i64 y0, Value.int IntKind.i64 y1] := fm59
      subst fm59
      obtain ⟨fv54, ft54, fm54⟩ := hRR 54 _ 123 rfl rfl (by kernel_rfl)
      replace fm54 : fv54 = Value.bool true := fm54
      subst fm54
      replace hKK : ∀ v w', Go.RowKit.Below W.heap.size W w' → v = Value.bool (Sp.mt x0 x1 y0 y1) → KK (Act.put fa _ v) w' := fun v w' h1 h2 => hKK v w' h1 h2
      clear hSame hRR
      rw [wanted_guard rfl rfl rfl ft54]
      first | rw [if_pos (by rfl)] | rw [if_neg (by decide)]
      go_simp
      first
        | (go_at_call 32; refine (span_right _ _ _).mono ?_; rintro e w' ⟨rfl, hb⟩)
        | (go_at_call 33; refine (noontideref10_right _ _ _).mono ?_; rintro e w' ⟨rfl, hb⟩)
        | (go_at_call 34; refine (span_has _ _ _ _).mono ?_; rintro e w' ⟨rfl, hb⟩)
        | (go_at_call 35; refine (noontideref10_has _ _ _ _).mono ?_; rintro e w' ⟨rfl, hb⟩)
        | (go_at_call 36; refine (span_meet _ _ _ _ _).mono ?_; rintro e w' ⟨rfl, hb⟩)
        | (go_at_call 37; refine (noontideref10_meet _ _ _ _ _).mono ?_; rintro e w' ⟨rfl, hb⟩)
        | (go_at_call 38; refine (span_touch _ _ _ _ _).mono ?_; rintro e w' ⟨rfl, hb⟩)
        | (go_at_call 39; refine (noontideref10_touch _ _ _ _ _).mono ?_; rintro e w' ⟨rfl, hb⟩)
        | (go_at_call 41; refine (SL1.out _).mono ?_; rintro e w' ⟨u1', s1, rfl, b1'⟩)
        | (go_at_call 42; refine (SL2.out _).mono ?_; rintro e w' ⟨u2', s2, rfl, b2'⟩)
        | (go_at_call 43; refine (lives10 _).mono ?_; rintro e w' ⟨rfl, hb⟩)
        | (go_at_call 40; (with_reducible refine (same_yes _ _ l _ fm75 fm78 LL.out).mono ?_); rintro e w' ⟨rfl, jj, hk⟩; have hb := below_of_drawn hk)
      try dsimp only
      refine hKK _ _ ?_ ?_
      · first | exact Below.refl _ _ | exact (Below.refl _ _).alloc (Nat.le_refl _) _ | exact below_draw _ _ | assumption
      · exact rfl
    refine Obs.cons (k' := 62) rfl ?_ ?_
    · intro fa W hW hSame hRR KK hKK
      try dsimp only at hW
      obtain ⟨fv57, ft57, fm57⟩ := hRR 57 _ 126 rfl rfl (by kernel_rfl)
      replace fm57 : fv57 = Value.bool (Sp.mt x0 x1 y0 y1) := fm57
      subst fm57
      obtain ⟨fv60, ft60, fm60⟩ := hRR 60 _ 129 rfl rfl (by kernel_rfl)
      replace fm60 : fv60 = Value.bool (Sp.mt x0 x1 y0 y1) := fm60
      subst fm60
      obtain ⟨fv54, ft54, fm54⟩ := hRR 54 _ 123 rfl rfl (by kernel_rfl)
      replace fm54 : fv54 = Value.bool true := fm54
      subst fm54
      replace hKK : ∀ v w', Go.RowKit.Below W.heap.size W w' → v = Value.bool true → KK (Act.put fa _ v) w' := fun v w' h1 h2 => hKK v w' h1 h2
      clear hSame hRR
      rw [wanted_guard rfl rfl rfl ft54]
      first | rw [if_pos (by rfl)] | rw [if_neg (by decide)]
      go_simp
      refine hKK _ _ ?_ ?_
      · first | exact Below.refl _ _ | exact (Below.refl _ _).alloc (Nat.le_refl _) _ | exact below_draw _ _ | assumption
      · exact rfl
    refine Obs.cons (k' := 63) rfl ?_ ?_
    · intro fa W hW hSame hRR KK hKK
      try dsimp only at hW
      obtain ⟨fv54, ft54, fm54⟩ := hRR 54 _ 123 rfl rfl (by kernel_rfl)
      replace fm54 : fv54 = Value.bool true := fm54
      subst fm54
      obtain ⟨fv61, ft61, fm61⟩ := hRR 61 _ 130 rfl rfl (by kernel_rfl)
      replace fm61 : fv61 = Value.bool true := fm61
      subst fm61
      replace hKK : ∀ v w', Go.RowKit.Below W.heap.size W w' → v = Value.bool true → KK (Act.put fa _ v) w' := fun v w' h1 h2 => hKK v w' h1 h2
      clear hSame hRR
      rw [if_pos (wanted_plain rfl)]
      go_simp
      refine hKK _ _ ?_ ?_
      · first | exact Below.refl _ _ | exact (Below.refl _ _).alloc (Nat.le_refl _) _ | exact below_draw _ _ | assumption
      · exact rfl
    refine Obs.cons (k' := 64) rfl ?_ ?_
    · intro fa W hW hSame hRR KK hKK
      try dsimp only at hW
      obtain ⟨fv62, ft62, fm62⟩ := hRR 62 _ 131 rfl rfl (by kernel_rfl)
      replace fm62 : fv62 = Value.bool true := fm62
      subst fm62
      replace hKK : ∀ v w', Go.RowKit.Below W.heap.size W w' → v = Value.bool true → KK (Act.put fa _ v) w' := fun v w' h1 h2 => hKK v w' h1 h2
      clear hSame hRR
      rw [if_pos (wanted_plain rfl)]
      go_simp
      refine hKK _ _ ?_ ?_
      · first | exact Below.refl _ _ | exact (Below.refl _ _).alloc (Nat.le_refl _) _ | exact below_draw _ _ | assumption
      · exact rfl
    refine Obs.cons (k' := 65) rfl ?_ ?_
    · intro fa W hW hSame hRR KK hKK
      try dsimp only at hW
      obtain ⟨fv63, ft63, fm63⟩ := hRR 63 _ 132 rfl rfl (by kernel_rfl)
      replace fm63 : fv63 = Value.bool true := fm63
      subst fm63
      have fb3 := hSame.base 3 (by kernel_rfl)
      simp only [List.getElem?_toArray, List.getElem?_cons_succ, List.getElem?_cons_zero] at fb3
      replace hKK : ∀ v w', Go.RowKit.Below W.heap.size W w' → v = Value.agg #[Value.int IntKind.i64 x0, Value.int IntKind.i64 x1] → KK (Act.put fa _ v) w' := fun v w' h1 h2 => hKK v w' h1 h2
      clear hSame hRR
      rw [wanted_guard rfl rfl rfl ft63]
      first | rw [if_pos (by rfl)] | rw [if_neg (by decide)]
      go_simp
      refine hKK _ _ ?_ ?_
      · first | exact Below.refl _ _ | exact (Below.refl _ _).alloc (Nat.le_refl _) _ | exact below_draw _ _ | assumption
      · exact rfl
    refine Obs.cons (k' := 66) rfl ?_ ?_
    · intro fa W hW hSame hRR KK hKK
      try dsimp only at hW
      obtain ⟨fv63, ft63, fm63⟩ := hRR 63 _ 132 rfl rfl (by kernel_rfl)
      replace fm63 : fv63 = Value.bool true := fm63
      subst fm63
      have fb4 := hSame.base 4 (by kernel_rfl)
      simp only [List.getElem?_toArray, List.getElem?_cons_succ, List.getElem?_cons_zero] at fb4
      replace hKK : ∀ v w', Go.RowKit.Below W.heap.size W w' → v = Value.agg #[Value.int IntKind.i64 y0, Value.int IntKind.i64 y1] → KK (Act.put fa _ v) w' := fun v w' h1 h2 => hKK v w' h1 h2
      clear hSame hRR
      rw [wanted_guard rfl rfl rfl ft63]
      first | rw [if_pos (by rfl)] | rw [if_neg (by decide)]
      go_simp
      refine hKK _ _ ?_ ?_
      · first | exact Below.refl _ _ | exact (Below.refl _ _).alloc (Nat.le_refl _) _ | exact below_draw _ _ | assumption
      · exact rfl
    refine Obs.cons (k' := 67) rfl ?_ ?_
    · intro fa W hW hSame hRR KK hKK
      try dsimp only at hW
      obtain ⟨fv64, ft64, fm64⟩ := hRR 64 _ 133 rfl rfl (by kernel_rfl)
      replace fm64 : fv64 = Value.agg #[Value.int IntKind.i64 x0, Value.int IntKind.i64 x1] := fm64
      subst fm64
      obtain ⟨fv65, ft65, fm65⟩ := hRR 65 _ 134 rfl rfl (by kernel_rfl)
      replace fm65 : fv65 = Value.agg #[Value.int IntKind.i64 y0, Value.int IntKind.i64 y1] := fm65
      subst fm65
      obtain ⟨fv63, ft63, fm63⟩ := hRR 63 _ 132 rfl rfl (by kernel_rfl)
      replace fm63 : fv63 = Value.bool true := fm63
      subst fm63
      replace hKK : ∀ v w', Go.RowKit.Below W.heap.size W w' → v = Value.bool (Sp.tc x0 x1 y0 y1) → KK (Act.put fa _ v) w' := fun v w' h1 h2 => hKK v w' h1 h2
      clear hSame hRR
      rw [wanted_guard rfl rfl rfl ft63]
      first | rw [if_pos (by rfl)] | rw [if_neg (by decide)]
      go_simp
      first
        | (go_at_call 32; refine (span_right _ _ _).mono ?_; rintro e w' ⟨rfl, hb⟩)
        | (go_at_call 33; refine (noontideref10_right _ _ _).mono ?_; rintro e w' ⟨rfl, hb⟩)
        | (go_at_call 34; refine (span_has _ _ _ _).mono ?_; rintro e w' ⟨rfl, hb⟩)
        | (go_at_call 35; refine (noontideref10_has _ _ _ _).mono ?_; rintro e w' ⟨rfl, hb⟩)
        | (go_at_call 36; refine (span_meet _ _ _ _ _).mono ?_; rintro e w' ⟨rfl, hb⟩)
        | (go_at_call 37; refine (noontideref10_meet _ _ _ _ _).mono ?_; rintro e w' ⟨rfl, hb⟩)
        | (go_at_call 38; refine (span_touch _ _ _ _ _).mono ?_; rintro e w' ⟨rfl, hb⟩)
        | (go_at_call 39; refine (noontideref10_touch _ _ _ _ _).mono ?_; rintro e w' ⟨rfl, hb⟩)
        | (go_at_call 41; refine (SL1.out _).mono ?_; rintro e w' ⟨u1', s1, rfl, b1'⟩)
        | (go_at_call 42; refine (SL2.out _).mono ?_; rintro e w' ⟨u2', s2, rfl, b2'⟩)
        | (go_at_call 43; refine (lives10 _).mono ?_; rintro e w' ⟨rfl, hb⟩)
        | (go_at_call 40; (with_reducible refine (same_yes _ _ l _ fm75 fm78 LL.out).mono ?_); rintro e w' ⟨rfl, jj, hk⟩; have hb := below_of_drawn hk)
      try dsimp only
      refine hKK _ _ ?_ ?_
      · first | exact Below.refl _ _ | exact (Below.refl _ _).alloc (Nat.le_refl _) _ | exact below_draw _ _ | assumption
      · exact rfl
    refine Obs.cons (k' := 68) rfl ?_ ?_
    · intro fa W hW hSame hRR KK hKK
      try dsimp only at hW
      obtain ⟨fv63, ft63, fm63⟩ := hRR 63 _ 132 rfl rfl (by kernel_rfl)
      replace fm63 : fv63 = Value.bool true := fm63
      subst fm63
      have fb3 := hSame.base 3 (by kernel_rfl)
      simp only [List.getElem?_toArray, List.getElem?_cons_succ, List.getElem?_cons_zero] at fb3
      replace hKK : ∀ v w', Go.RowKit.Below W.heap.size W w' → v = Value.agg #[Value.int IntKind.i64 x0, Value.int IntKind.i64 x1] → KK (Act.put fa _ v) w' := fun v w' h1 h2 => hKK v w' h1 h2
      clear hSame hRR
      rw [wanted_guard rfl rfl rfl ft63]
      first | rw [if_pos (by rfl)] | rw [if_neg (by decide)]
      go_simp
      refine hKK _ _ ?_ ?_
      · first | exact Below.refl _ _ | exact (Below.refl _ _).alloc (Nat.le_refl _) _ | exact below_draw _ _ | assumption
      · exact rfl
    refine Obs.cons (k' := 69) rfl ?_ ?_
    · intro fa W hW hSame hRR KK hKK
      try dsimp only at hW
      obtain ⟨fv63, ft63, fm63⟩ := hRR 63 _ 132 rfl rfl (by kernel_rfl)
      replace fm63 : fv63 = Value.bool true := fm63
      subst fm63
      have fb4 := hSame.base 4 (by kernel_rfl)
      simp only [List.getElem?_toArray, List.getElem?_cons_succ, List.getElem?_cons_zero] at fb4
      replace hKK : ∀ v w', Go.RowKit.Below W.heap.size W w' → v = Value.agg #[Value.int IntKind.i64 y0, Value.int IntKind.i64 y1] → KK (Act.put fa _ v) w' := fun v w' h1 h2 => hKK v w' h1 h2
      clear hSame hRR
      rw [wanted_guard rfl rfl rfl ft63]
      first | rw [if_pos (by rfl)] | rw [if_neg (by decide)]
      go_simp
      refine hKK _ _ ?_ ?_
      · first | exact Below.refl _ _ | exact (Below.refl _ _).alloc (Nat.le_refl _) _ | exact below_draw _ _ | assumption
      · exact rfl
    refine Obs.cons (k' := 70) rfl ?_ ?_
    · intro fa W hW hSame hRR KK hKK
      try dsimp only at hW
      obtain ⟨fv67, ft67, fm67⟩ := hRR 67 _ 136 rfl rfl (by kernel_rfl)
      replace fm67 : fv67 = Value.agg #[Value.int IntKind.i64 x0, Value.int IntKind.i64 x1] := fm67
      subst fm67
      obtain ⟨fv68, ft68, fm68⟩ := hRR 68 _ 137 rfl rfl (by kernel_rfl)
      replace fm68 : fv68 = Value.agg #[Value.int IntKind.i64 y0, Value.int IntKind.i64 y1] := fm68
      subst fm68
      obtain ⟨fv63, ft63, fm63⟩ := hRR 63 _ 132 rfl rfl (by kernel_rfl)
      replace fm63 : fv63 = Value.bool true := fm63
      subst fm63
      replace hKK : ∀ v w', Go.RowKit.Below W.heap.size W w' → v = Value.bool (Sp.tc x0 x1 y0 y1) → KK (Act.put fa _ v) w' := fun v w' h1 h2 => hKK v w' h1 h2
      clear hSame hRR
      rw [wanted_guard rfl rfl rfl ft63]
      first | rw [if_pos (by rfl)] | rw [if_neg (by decide)]
      go_simp
      first
        | (go_at_call 32; refine (span_right _ _ _).mono ?_; rintro e w' ⟨rfl, hb⟩)
        | (go_at_call 33; refine (noontideref10_right _ _ _).mono ?_; rintro e w' ⟨rfl, hb⟩)
        | (go_at_call 34; refine (span_has _ _ _ _).mono ?_; rintro e w' ⟨rfl, hb⟩)
        | (go_at_call 35; refine (noontideref10_has _ _ _ _).mono ?_; rintro e w' ⟨rfl, hb⟩)
        | (go_at_call 36; refine (span_meet _ _ _ _ _).mono ?_; rintro e w' ⟨rfl, hb⟩)
        | (go_at_call 37; refine (noontideref10_meet _ _ _ _ _).mono ?_; rintro e w' ⟨rfl, hb⟩)
        | (go_at_call 38; refine (span_touch _ _ _ _ _).mono ?_; rintro e w' ⟨rfl, hb⟩)
        | (go_at_call 39; refine (noontideref10_touch _ _ _ _ _).mono ?_; rintro e w' ⟨rfl, hb⟩)
        | (go_at_call 41; refine (SL1.out _).mono ?_; rintro e w' ⟨u1', s1, rfl, b1'⟩)
        | (go_at_call 42; refine (SL2.out _).mono ?_; rintro e w' ⟨u2', s2, rfl, b2'⟩)
        | (go_at_call 43; refine (lives10 _).mono ?_; rintro e w' ⟨rfl, hb⟩)
        | (go_at_call 40; (with_reducible refine (same_yes _ _ l _ fm75 fm78 LL.out).mono ?_); rintro e w' ⟨rfl, jj, hk⟩; have hb := below_of_drawn hk)
      try dsimp only
      refine hKK _ _ ?_ ?_
      · first | exact Below.refl _ _ | exact (Below.refl _ _).alloc (Nat.le_refl _) _ | exact below_draw _ _ | assumption
      · exact rfl
    refine Obs.cons (k' := 71) rfl ?_ ?_
    · intro fa W hW hSame hRR KK hKK
      try dsimp only at hW
      obtain ⟨fv66, ft66, fm66⟩ := hRR 66 _ 135 rfl rfl (by kernel_rfl)
      replace fm66 : fv66 = Value.bool (Sp.tc x0 x1 y0 y1) := fm66
      subst fm66
      obtain ⟨fv69, ft69, fm69⟩ := hRR 69 _ 138 rfl rfl (by kernel_rfl)
      replace fm69 : fv69 = Value.bool (Sp.tc x0 x1 y0 y1) := fm69
      subst fm69
      obtain ⟨fv63, ft63, fm63⟩ := hRR 63 _ 132 rfl rfl (by kernel_rfl)
      replace fm63 : fv63 = Value.bool true := fm63
      subst fm63
      replace hKK : ∀ v w', Go.RowKit.Below W.heap.size W w' → v = Value.bool true → KK (Act.put fa _ v) w' := fun v w' h1 h2 => hKK v w' h1 h2
      clear hSame hRR
      rw [wanted_guard rfl rfl rfl ft63]
      first | rw [if_pos (by rfl)] | rw [if_neg (by decide)]
      go_simp
      refine hKK _ _ ?_ ?_
      · first | exact Below.refl _ _ | exact (Below.refl _ _).alloc (Nat.le_refl _) _ | exact below_draw _ _ | assumption
      · exact rfl
    refine Obs.cons (k' := 72) rfl ?_ ?_
    · intro fa W hW hSame hRR KK hKK
      try dsimp only at hW
      obtain ⟨fv63, ft63, fm63⟩ := hRR 63 _ 132 rfl rfl (by kernel_rfl)
      replace fm63 : fv63 = Value.bool true := fm63
      subst fm63
      obtain ⟨fv70, ft70, fm70⟩ := hRR 70 _ 139 rfl rfl (by kernel_rfl)
      replace fm70 : fv70 = Value.bool true := fm70
      subst fm70
      replace hKK : ∀ v w', Go.RowKit.Below W.heap.size W w' → v = Value.bool true → KK (Act.put fa _ v) w' := fun v w' h1 h2 => hKK v w' h1 h2
      clear hSame hRR
      rw [if_pos (wanted_plain rfl)]
      go_simp
      refine hKK _ _ ?_ ?_
      · first | exact Below.refl _ _ | exact (Below.refl _ _).alloc (Nat.le_refl _) _ | exact below_draw _ _ | assumption
      · exact rfl
    refine Obs.cons (k' := 73) rfl ?_ ?_
    · intro fa W hW hSame hRR KK hKK
      try dsimp only at hW
      obtain ⟨fv71, ft71, fm71⟩ := hRR 71 _ 140 rfl rfl (by kernel_rfl)
      replace fm71 : fv71 = Value.bool true := fm71
      subst fm71
      replace hKK : ∀ v w', Go.RowKit.Below W.heap.size W w' → v = Value.bool true → KK (Act.put fa _ v) w' := fun v w' h1 h2 => hKK v w' h1 h2
      clear hSame hRR
      rw [if_pos (wanted_plain rfl)]
      go_simp
      refine hKK _ _ ?_ ?_
      · first | exact Below.refl _ _ | exact (Below.refl _ _).alloc (Nat.le_refl _) _ | exact below_draw _ _ | assumption
      · exact rfl
    refine Obs.cons (k' := 74) rfl ?_ ?_
    · intro fa W hW hSame hRR KK hKK
      try dsimp only at hW
      obtain ⟨fv72, ft72, fm72⟩ := hRR 72 _ 141 rfl rfl (by kernel_rfl)
      replace fm72 : fv72 = Value.bool true := fm72
      subst fm72
      have fb3 := hSame.base 3 (by kernel_rfl)
      simp only [List.getElem?_toArray, List.getElem?_cons_succ, List.getElem?_cons_zero] at fb3
      replace hKK : ∀ v w', Go.RowKit.Below W.heap.size W w' → v = Value.agg #[Value.int IntKind.i64 x0, Value.int IntKind.i64 x1] → KK (Act.put fa _ v) w' := fun v w' h1 h2 => hKK v w' h1 h2
      clear hSame hRR
      rw [wanted_guard rfl rfl rfl ft72]
      first | rw [if_pos (by rfl)] | rw [if_neg (by decide)]
      go_simp
      refine hKK _ _ ?_ ?_
      · first | exact Below.refl _ _ | exact (Below.refl _ _).alloc (Nat.le_refl _) _ | exact below_draw _ _ | assumption
      · exact rfl
    refine Obs.cons (k' := 75) rfl ?_ ?_
    · intro fa W hW hSame hRR KK hKK
      try dsimp only at hW
      obtain ⟨fv72, ft72, fm72⟩ := hRR 72 _ 141 rfl rfl (by kernel_rfl)
      replace fm72 : fv72 = Value.bool true := fm72
      subst fm72
      have fb4 := hSame.base 4 (by kernel_rfl)
      simp only [List.getElem?_toArray, List.getElem?_cons_succ, List.getElem?_cons_zero] at fb4
      replace hKK : ∀ v w', Go.RowKit.Below W.heap.size W w' → v = Value.agg #[Value.int IntKind.i64 y0, Value.int IntKind.i64 y1] → KK (Act.put fa _ v) w' := fun v w' h1 h2 => hKK v w' h1 h2
      clear hSame hRR
      rw [wanted_guard rfl rfl rfl ft72]
      first | rw [if_pos (by rfl)] | rw [if_neg (by decide)]
      go_simp
      refine hKK _ _ ?_ ?_
      · first | exact Below.refl _ _ | exact (Below.refl _ _).alloc (Nat.le_refl _) _ | exact below_draw _ _ | assumption
      · exact rfl
    refine Obs.cons (k' := 76) rfl ?_ ?_
    · intro fa W hW hSame hRR KK hKK
      try dsimp only at hW
      obtain ⟨fv73, ft73, fm73⟩ := hRR 73 _ 142 rfl rfl (by kernel_rfl)
      replace fm73 : fv73 = Value.agg #[Value.int IntKind.i64 x0, Value.int IntKind.i64 x1] := fm73
      subst fm73
      obtain ⟨fv74, ft74, fm74⟩ := hRR 74 _ 143 rfl rfl (by kernel_rfl)
      replace fm74 : fv74 = Value.agg #[Value.int IntKind.i64 y0, Value.int IntKind.i64 y1] := fm74
      subst fm74
      obtain ⟨fv72, ft72, fm72⟩ := hRR 72 _ 141 rfl rfl (by kernel_rfl)
      replace fm72 : fv72 = Value.bool true := fm72
      subst fm72
      replace hKK : ∀ v w', Go.RowKit.Below W.heap.size W w' → (fun v W => ∃ u : Value, v = u ∧ SpV W u l) v w' → KK (Act.put fa _ v) w' := fun v w' h1 h2 => hKK v w' h1 h2
      clear hSame hRR
      rw [wanted_guard rfl rfl rfl ft72]
      first | rw [if_pos (by rfl)] | rw [if_neg (by decide)]
      go_simp
      first
        | (go_at_call 32; refine (span_right _ _ _).mono ?_; rintro e w' ⟨rfl, hb⟩)
        | (go_at_call 33; refine (noontideref10_right _ _ _).mono ?_; rintro e w' ⟨rfl, hb⟩)
        | (go_at_call 34; refine (span_has _ _ _ _).mono ?_; rintro e w' ⟨rfl, hb⟩)
        | (go_at_call 35; refine (noontideref10_has _ _ _ _).mono ?_; rintro e w' ⟨rfl, hb⟩)
        | (go_at_call 36; refine (span_meet _ _ _ _ _).mono ?_; rintro e w' ⟨rfl, hb⟩)
        | (go_at_call 37; refine (noontideref10_meet _ _ _ _ _).mono ?_; rintro e w' ⟨rfl, hb⟩)
        | (go_at_call 38; refine (span_touch _ _ _ _ _).mono ?_; rintro e w' ⟨rfl, hb⟩)
        | (go_at_call 39; refine (noontideref10_touch _ _ _ _ _).mono ?_; rintro e w' ⟨rfl, hb⟩)
        | (go_at_call 41; refine (SL1.out _).mono ?_; rintro e w' ⟨u1', s1, rfl, b1'⟩)
        | (go_at_call 42; refine (SL2.out _).mono ?_; rintro e w' ⟨u2', s2, rfl, b2'⟩)
        | (go_at_call 43; refine (lives10 _).mono ?_; rintro e w' ⟨rfl, hb⟩)
        | (go_at_call 40; (with_reducible refine (same_yes _ _ l _ fm75 fm78 LL.out).mono ?_); rintro e w' ⟨rfl, jj, hk⟩; have hb := below_of_drawn hk)
      try dsimp only
      refine hKK _ _ ?_ ?_
      · first | exact Below.refl _ _ | exact (Below.refl _ _).alloc (Nat.le_refl _) _ | exact below_draw _ _ | assumption
      · try dsimp only
        first | exact trivial | exact rfl | (first | exact ⟨_, rfl, s1⟩ | exact ⟨_, rfl, s2⟩)
    refine Obs.cons (k' := 77) rfl ?_ ?_
    · intro fa W hW hSame hRR KK hKK
      try dsimp only at hW
      obtain ⟨fv72, ft72, fm72⟩ := hRR 72 _ 141 rfl rfl (by kernel_rfl)
      replace fm72 : fv72 = Value.bool true := fm72
      subst fm72
      have fb3 := hSame.base 3 (by kernel_rfl)
      simp only [List.getElem?_toArray, List.getElem?_cons_succ, List.getElem?_cons_zero] at fb3
      replace hKK : ∀ v w', Go.RowKit.Below W.heap.size W w' → v = Value.agg #[Value.int IntKind.i64 x0, Value.int IntKind.i64 x1] → KK (Act.put fa _ v) w' := fun v w' h1 h2 => hKK v w' h1 h2
      clear hSame hRR
      rw [wanted_guard rfl rfl rfl ft72]
      first | rw [if_pos (by rfl)] | rw [if_neg (by decide)]
      go_simp
      refine hKK _ _ ?_ ?_
      · first | exact Below.refl _ _ | exact (Below.refl _ _).alloc (Nat.le_refl _) _ | exact below_draw _ _ | assumption
      · exact rfl
    refine Obs.cons (k' := 78) rfl ?_ ?_
    · intro fa W hW hSame hRR KK hKK
      try dsimp only at hW
      obtain ⟨fv72, ft72, fm72⟩ := hRR 72 _ 141 rfl rfl (by kernel_rfl)
      replace fm72 : fv72 = Value.bool true := fm72
      subst fm72
      have fb4 := hSame.base 4 (by kernel_rfl)
      simp only [List.getElem?_toArray, List.getElem?_cons_succ, List.getElem?_cons_zero] at fb4
      replace hKK : ∀ v w', Go.RowKit.Below W.heap.size W w' → v = Value.agg #[Value.int IntKind.i64 y0, Value.int IntKind.i64 y1] → KK (Act.put fa _ v) w' := fun v w' h1 h2 => hKK v w' h1 h2
      clear hSame hRR
      rw [wanted_guard rfl rfl rfl ft72]
      first | rw [if_pos (by rfl)] | rw [if_neg (by decide)]
      go_simp
      refine hKK _ _ ?_ ?_
      · first | exact Below.refl _ _ | exact (Below.refl _ _).alloc (Nat.le_refl _) _ | exact below_draw _ _ | assumption
      · exact rfl
    refine Obs.cons (k' := 79) rfl ?_ ?_
    · intro fa W hW hSame hRR KK hKK
      try dsimp only at hW
      obtain ⟨fv76, ft76, fm76⟩ := hRR 76 _ 145 rfl rfl (by kernel_rfl)
      replace fm76 : fv76 = Value.agg #[Value.int IntKind.i64 x0, Value.int IntKind.i64 x1] := fm76
      subst fm76
      obtain ⟨fv77, ft77, fm77⟩ := hRR 77 _ 146 rfl rfl (by kernel_rfl)
      replace fm77 : fv77 = Value.agg #[Value.int IntKind.i64 y0, Value.int IntKind.i64 y1] := fm77
      subst fm77
      obtain ⟨fv72, ft72, fm72⟩ := hRR 72 _ 141 rfl rfl (by kernel_rfl)
      replace fm72 : fv72 = Value.bool true := fm72
      subst fm72
      replace hKK : ∀ v w', Go.RowKit.Below W.heap.size W w' → (fun v W => ∃ u : Value, v = u ∧ SpV W u l) v w' → KK (Act.put fa _ v) w' := fun v w' h1 h2 => hKK v w' h1 h2
      clear hSame hRR
      rw [wanted_guard rfl rfl rfl ft72]
      first | rw [if_pos (by rfl)] | rw [if_neg (by decide)]
      go_simp
      first
        | (go_at_call 32; refine (span_right _ _ _).mono ?_; rintro e w' ⟨rfl, hb⟩)
        | (go_at_call 33; refine (noontideref10_right _ _ _).mono ?_; rintro e w' ⟨rfl, hb⟩)
        | (go_at_call 34; refine (span_has _ _ _ _).mono ?_; rintro e w' ⟨rfl, hb⟩)
        | (go_at_call 35; refine (noontideref10_has _ _ _ _).mono ?_; rintro e w' ⟨rfl, hb⟩)
        | (go_at_call 36; refine (span_meet _ _ _ _ _).mono ?_; rintro e w' ⟨rfl, hb⟩)
        | (go_at_call 37; refine (noontideref10_meet _ _ _ _ _).mono ?_; rintro e w' ⟨rfl, hb⟩)
        | (go_at_call 38; refine (span_touch _ _ _ _ _).mono ?_; rintro e w' ⟨rfl, hb⟩)
        | (go_at_call 39; refine (noontideref10_touch _ _ _ _ _).mono ?_; rintro e w' ⟨rfl, hb⟩)
        | (go_at_call 41; refine (SL1.out _).mono ?_; rintro e w' ⟨u1', s1, rfl, b1'⟩)
        | (go_at_call 42; refine (SL2.out _).mono ?_; rintro e w' ⟨u2', s2, rfl, b2'⟩)
        | (go_at_call 43; refine (lives10 _).mono ?_; rintro e w' ⟨rfl, hb⟩)
        | (go_at_call 40; (with_reducible refine (same_yes _ _ l _ fm75 fm78 LL.out).mono ?_); rintro e w' ⟨rfl, jj, hk⟩; have hb := below_of_drawn hk)
      try dsimp only
      refine hKK _ _ ?_ ?_
      · first | exact Below.refl _ _ | exact (Below.refl _ _).alloc (Nat.le_refl _) _ | exact below_draw _ _ | assumption
      · try dsimp only
        first | exact trivial | exact rfl | (first | exact ⟨_, rfl, s1⟩ | exact ⟨_, rfl, s2⟩)
    refine Obs.cons (k' := 80) rfl ?_ ?_
    · intro fa W hW hSame hRR KK hKK
      try dsimp only at hW
      obtain ⟨fv75, ft75, fm75⟩ := hRR 75 _ 144 rfl rfl (by kernel_rfl)
      replace fm75 : (fun v W => ∃ u : Value, v = u ∧ SpV W u l) fv75 W := fm75
      try dsimp only at fm75
      obtain ⟨_, rfl, fm75⟩ := fm75
      obtain ⟨fv78, ft78, fm78⟩ := hRR 78 _ 147 rfl rfl (by kernel_rfl)
      replace fm78 : (fun v W => ∃ u : Value, v = u ∧ SpV W u l) fv78 W := fm78
      try dsimp only at fm78
      obtain ⟨_, rfl, fm78⟩ := fm78
      obtain ⟨fv72, ft72, fm72⟩ := hRR 72 _ 141 rfl rfl (by kernel_rfl)
      replace fm72 : fv72 = Value.bool true := fm72
      subst fm72
      replace hKK : ∀ v w', Go.RowKit.Below W.heap.size W w' → v = Value.bool true → KK (Act.put fa _ v) w' := fun v w' h1 h2 => hKK v w' h1 h2
      clear hSame hRR
      rw [wanted_guard rfl rfl rfl ft72]
      first | rw [if_pos (by rfl)] | rw [if_neg (by decide)]
      go_simp
      first
        | (go_at_call 32; refine (span_right _ _ _).mono ?_; rintro e w' ⟨rfl, hb⟩)
        | (go_at_call 33; refine (noontideref10_right _ _ _).mono ?_; rintro e w' ⟨rfl, hb⟩)
        | (go_at_call 34; refine (span_has _ _ _ _).mono ?_; rintro e w' ⟨rfl, hb⟩)
        | (go_at_call 35; refine (noontideref10_has _ _ _ _).mono ?_; rintro e w' ⟨rfl, hb⟩)
        | (go_at_call 36; refine (span_meet _ _ _ _ _).mono ?_; rintro e w' ⟨rfl, hb⟩)
        | (go_at_call 37; refine (noontideref10_meet _ _ _ _ _).mono ?_; rintro e w' ⟨rfl, hb⟩)
        | (go_at_call 38; refine (span_touch _ _ _ _ _).mono ?_; rintro e w' ⟨rfl, hb⟩)
        | (go_at_call 39; refine (noontideref10_touch _ _ _ _ _).mono ?_; rintro e w' ⟨rfl, hb⟩)
        | (go_at_call 41; refine (SL1.out _).mono ?_; rintro e w' ⟨u1', s1, rfl, b1'⟩)
        | (go_at_call 42; refine (SL2.out _).mono ?_; rintro e w' ⟨u2', s2, rfl, b2'⟩)
        | (go_at_call 43; refine (lives10 _).mono ?_; rintro e w' ⟨rfl, hb⟩)
        | (go_at_call 40; (with_reducible refine (same_yes _ _ l _ fm75 fm78 LL.out).mono ?_); rintro e w' ⟨rfl, jj, hk⟩; have hb := below_of_drawn hk)
      try dsimp only
      refine hKK _ _ ?_ ?_
      · first | exact Below.refl _ _ | exact (Below.refl _ _).alloc (Nat.le_refl _) _ | exact below_draw _ _ | assumption
      · exact rfl
    refine Obs.cons (k' := 81) rfl ?_ ?_
    · intro fa W hW hSame hRR KK hKK
      try dsimp only at hW
      obtain ⟨fv72, ft72, fm72⟩ := hRR 72 _ 141 rfl rfl (by kernel_rfl)
      replace fm72 : fv72 = Value.bool true := fm72
      subst fm72
      obtain ⟨fv79, ft79, fm79⟩ := hRR 79 _ 148 rfl rfl (by kernel_rfl)
      replace fm79 : fv79 = Value.bool true := fm79
      subst fm79
      replace hKK : ∀ v w', Go.RowKit.Below W.heap.size W w' → v = Value.bool true → KK (Act.put fa _ v) w' := fun v w' h1 h2 => hKK v w' h1 h2
      clear hSame hRR
      rw [if_pos (wanted_plain rfl)]
      go_simp
      refine hKK _ _ ?_ ?_
      · first | exact Below.refl _ _ | exact (Below.refl _ _).alloc (Nat.le_refl _) _ | exact below_draw _ _ | assumption
      · exact rfl
    refine Obs.cons (k' := 82) rfl ?_ ?_
    · intro fa W hW hSame hRR KK hKK
      try dsimp only at hW
      obtain ⟨fv80, ft80, fm80⟩ := hRR 80 _ 149 rfl rfl (by kernel_rfl)
      replace fm80 : fv80 = Value.bool true := fm80
      subst fm80
      replace hKK : ∀ v w', Go.RowKit.Below W.heap.size W w' → v = Value.bool true → KK (Act.put fa _ v) w' := fun v w' h1 h2 => hKK v w' h1 h2
      clear hSame hRR
      rw [if_pos (wanted_plain rfl)]
      go_simp
      refine hKK _ _ ?_ ?_
      · first | exact Below.refl _ _ | exact (Below.refl _ _).alloc (Nat.le_refl _) _ | exact below_draw _ _ | assumption
      · exact rfl
    refine Obs.cons (k' := 83) rfl ?_ ?_
    · intro fa W hW hSame hRR KK hKK
      try dsimp only at hW
      obtain ⟨fv81, ft81, fm81⟩ := hRR 81 _ 150 rfl rfl (by kernel_rfl)
      replace fm81 : fv81 = Value.bool true := fm81
      subst fm81
      replace hKK : ∀ v w', Go.RowKit.Below W.heap.size W w' → v = Value.bool true → KK (Act.put fa _ v) w' := fun v w' h1 h2 => hKK v w' h1 h2
      clear hSame hRR
      rw [wanted_guard rfl rfl rfl ft81]
      first | rw [if_pos (by rfl)] | rw [if_neg (by decide)]
      go_simp
      first
        | (go_at_call 32; refine (span_right _ _ _).mono ?_; rintro e w' ⟨rfl, hb⟩)
        | (go_at_call 33; refine (noontideref10_right _ _ _).mono ?_; rintro e w' ⟨rfl, hb⟩)
        | (go_at_call 34; refine (span_has _ _ _ _).mono ?_; rintro e w' ⟨rfl, hb⟩)
        | (go_at_call 35; refine (noontideref10_has _ _ _ _).mono ?_; rintro e w' ⟨rfl, hb⟩)
        | (go_at_call 36; refine (span_meet _ _ _ _ _).mono ?_; rintro e w' ⟨rfl, hb⟩)
        | (go_at_call 37; refine (noontideref10_meet _ _ _ _ _).mono ?_; rintro e w' ⟨rfl, hb⟩)
        | (go_at_call 38; refine (span_touch _ _ _ _ _).mono ?_; rintro e w' ⟨rfl, hb⟩)
        | (go_at_call 39; refine (noontideref10_touch _ _ _ _ _).mono ?_; rintro e w' ⟨rfl, hb⟩)
        | (go_at_call 41; refine (SL1.out _).mono ?_; rintro e w' ⟨u1', s1, rfl, b1'⟩)
        | (go_at_call 42; refine (SL2.out _).mono ?_; rintro e w' ⟨u2', s2, rfl, b2'⟩)
        | (go_at_call 43; refine (lives10 _).mono ?_; rintro e w' ⟨rfl, hb⟩)
        | (go_at_call 40; (with_reducible refine (same_yes _ _ l _ fm75 fm78 LL.out).mono ?_); rintro e w' ⟨rfl, jj, hk⟩; have hb := below_of_drawn hk)
      try dsimp only
      refine hKK _ _ ?_ ?_
      · first | exact Below.refl _ _ | exact (Below.refl _ _).alloc (Nat.le_refl _) _ | exact below_draw _ _ | assumption
      · exact rfl
    refine Obs.cons (k' := 84) rfl ?_ ?_
    · intro fa W hW hSame hRR KK hKK
      try dsimp only at hW
      obtain ⟨fv81, ft81, fm81⟩ := hRR 81 _ 150 rfl rfl (by kernel_rfl)
      replace fm81 : fv81 = Value.bool true := fm81
      subst fm81
      obtain ⟨fv82, ft82, fm82⟩ := hRR 82 _ 151 rfl rfl (by kernel_rfl)
      replace fm82 : fv82 = Value.bool true := fm82
      subst fm82
      replace hKK : ∀ v w', Go.RowKit.Below W.heap.size W w' → v = Value.bool true → KK (Act.put fa _ v) w' := fun v w' h1 h2 => hKK v w' h1 h2
      clear hSame hRR
      rw [if_pos (wanted_plain rfl)]
      go_simp
      refine hKK _ _ ?_ ?_
      · first | exact Below.refl _ _ | exact (Below.refl _ _).alloc (Nat.le_refl _) _ | exact below_draw _ _ | assumption
      · exact rfl
    refine Obs.cons (k' := 85) rfl ?_ ?_
    · intro fa W hW hSame hRR KK hKK
      try dsimp only at hW
      obtain ⟨fv83, ft83, fm83⟩ := hRR 83 _ 152 rfl rfl (by kernel_rfl)
      replace fm83 : fv83 = Value.bool true := fm83
      subst fm83
      replace hKK : ∀ v w', Go.RowKit.Below W.heap.size W w' → v = Value.bool true → KK (Act.put fa _ v) w' := fun v w' h1 h2 => hKK v w' h1 h2
      clear hSame hRR
      rw [if_pos (wanted_plain rfl)]
      go_simp
      refine hKK _ _ ?_ ?_
      · first | exact Below.refl _ _ | exact (Below.refl _ _).alloc (Nat.le_refl _) _ | exact below_draw _ _ | assumption
      · exact rfl
    exact Obs.nil
  case hlast =>
    intro fa W hW hSame hRR
    try dsimp only at hW
    obtain ⟨fv84, ft84, fm84⟩ := hRR 84 _ 6 rfl rfl
    replace fm84 : fv84 = Value.bool true := fm84
    subst fm84
    have hdf := hSame.defers
    obtain ⟨tm, df⟩ := fa
    dsimp only at hdf ft84
    subst hdf
    have BB := Lib.hid hW.1
    clear hSame hRR hW
    go_wp2_with fail
    go_ret
    exact ⟨by first | (simp [ft84]; done) | (show Ending.returned (tm.getD 6 undef) = _; rw [Array.getD_eq_getD_getElem?, ft84]; rfl), BB.out⟩
end Go.Proofs.Ytcmnfbbccacpcaa

