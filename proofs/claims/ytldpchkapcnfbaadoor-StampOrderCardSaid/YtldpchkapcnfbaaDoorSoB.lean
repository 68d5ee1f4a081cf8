/- StampOrder, where the first number is not less. -/
import Derived.Test.YtldpchkapcnfbaaDoorSoM
set_option linter.unusedVariables false
set_option linter.unusedSimpArgs false
namespace Go.Proofs.YtldpchkapcnfbaaDoor
open Go.RowKit Go.Sort

set_option maxHeartbeats 4000000 in
set_option maxRecDepth 100000 in
theorem so_g1a (t u ya ma da ha ia sa yb mb db hb ib sb q r rb c : Int) (w : World) (htab : Lib.TabIs Tryd.prog w "internal/strconv.uint64pow10" .u64 Lib.pow10Tab) (h0a : 0 ≤ ha) (h1a : ha < 24) (i0a : 0 ≤ ia) (i1a : ia < 60) (s0a : 0 ≤ sa) (s1a : sa < 60) (h0b : 0 ≤ hb) (h1b : hb < 24) (i0b : 0 ≤ ib) (i1b : ib < 60) (s0b : 0 ≤ sb) (s1b : sb < 60) (q0 : -15329228 ≤ q) (q1 : q ≤ 13890537) (f1 : ha * 3600 + ia * 60 + sa = r) (f2 : hb * 3600 + ib * 60 + sb = rb) (f3 : q * 86400 + r = t) (c1 : ¬ c < 0) (c2 : c = 0) (rr : decide (r < rb) = false) (tu : decide (t < u) = false) (n1 : ya < 0) (OA : Hid (∀ W, Calls Tryd.prog 22 #[.int .i64 t] W fun e w' => e = .returned (.tuple #[.agg #[.int .i64 ya, .int .i64 ma, .int .i64 da, .int .i64 ha, .int .i64 ia, .int .i64 sa], .int .i64 0]) ∧ Below W.heap.size W w')) (OB : Hid (∀ W, Calls Tryd.prog 22 #[.int .i64 u] W fun e w' => e = .returned (.tuple #[.agg #[.int .i64 yb, .int .i64 mb, .int .i64 db, .int .i64 hb, .int .i64 ib, .int .i64 sb], .int .i64 0]) ∧ Below W.heap.size W w')) (SP : Hid (∀ W, Calls Tryd.prog 23 #[.int .i64 t] W fun e w' => e = .returned (.tuple #[.int .i64 q, .int .i64 r]) ∧ Below W.heap.size W w')) (DA : Hid (∀ W, Calls Tryd.prog 24 #[.agg #[.int .i64 ya, .int .i64 ma, .int .i64 da]] W fun e w' => e = .returned (.tuple #[.int .i64 q, .int .i64 0]) ∧ Below W.heap.size W w')) (CC : Hid (∀ W, Calls Tryd.prog 25 #[.agg #[.int .i64 ya, .int .i64 ma, .int .i64 da], .agg #[.int .i64 yb, .int .i64 mb, .int .i64 db]] W fun e w' => e = .returned (.int .i64 c) ∧ Below W.heap.size W w'))  :
    Calls Tryd.prog 4 #[.int .i64 t, .int .i64 u] w fun e w' => e = .returned (.bool true) ∧ Below w.heap.size w w' := by
  have T0 := Lib.hid htab; clear htab
  have L := Lib.hid (fun w h => lives4 w h)
  go_enter Tryd.func4, Tryd.ntmps4
  go_wp2_with fail
  refine (L.out _ T0.out).mono ?_; rintro e w1 ⟨rfl, b1⟩
  have d1 : Below w.heap.size w w1 := below_step (by repeat (first | exact Below.refl _ _ | refine below_drewN ?_ _ | refine Below.drew ?_ | refine Below.setCell ?_ (by first | (simp; done) | (simp; omega) | omega) _ | refine Below.alloc ?_ (by first | (simp; done) | (simp; omega) | omega) _)) b1
  have B1 := Lib.hid d1
  clear b1 d1
  go_wp2_with fail
  refine (OA.out _).mono ?_; rintro e w2 ⟨rfl, b2⟩
  have d2 : Below w1.heap.size w1 w2 := below_step (by repeat (first | exact Below.refl _ _ | refine below_drewN ?_ _ | refine Below.drew ?_ | refine Below.setCell ?_ (by first | (simp; done) | (simp; omega) | omega) _ | refine Below.alloc ?_ (by first | (simp; done) | (simp; omega) | omega) _)) b2
  have B2 := Lib.hid (below_step B1.out d2)
  clear b2 d2 B1
  go_wp2_with fail
  refine (OB.out _).mono ?_; rintro e w3 ⟨rfl, b3⟩
  have d3 : Below w2.heap.size w2 w3 := below_step (by repeat (first | exact Below.refl _ _ | refine below_drewN ?_ _ | refine Below.drew ?_ | refine Below.setCell ?_ (by first | (simp; done) | (simp; omega) | omega) _ | refine Below.alloc ?_ (by first | (simp; done) | (simp; omega) | omega) _)) b3
  have B3 := Lib.hid (below_step B2.out d3)
  have aA := B2.out.size
  have A3 : Bk6 w3 (w2.heap.size) (.int .i64 ya) (.int .i64 ma) (.int .i64 da) (.int .i64 ha) (.int .i64 ia) (.int .i64 sa) := Bk6.of b3 (by simp <;> omega) (by intro j; simp [go_sem]) (by simp [go_sem]) (by simp [go_sem]) (by simp [go_sem]) (by simp [go_sem]) (by simp [go_sem]) (by simp [go_sem])
  clear b3 d3 B2
  have cA_b := A3.hb
  have cA_f := A3.fz
  have cA_0 := A3.k0
  have cA_1 := A3.k1
  have cA_2 := A3.k2
  have cA_3 := A3.k3
  have cA_4 := A3.k4
  have cA_5 := A3.k5
  go_wp2_with fail
  clear cA_b cA_f cA_0 cA_1 cA_2 cA_3 cA_4 cA_5
  refine (SP.out _).mono ?_; rintro e w4 ⟨rfl, b4⟩
  have d4 : Below w3.heap.size w3 w4 := below_step (by repeat (first | exact Below.refl _ _ | refine below_drewN ?_ _ | refine Below.drew ?_ | refine Below.setCell ?_ (by first | (simp; done) | (simp; omega) | omega) _ | refine Below.alloc ?_ (by first | (simp; done) | (simp; omega) | omega) _)) b4
  have B4 := Lib.hid (below_step B3.out d4)
  have A4 := A3.keep d4
  have aBb := B3.out.size
  have nBbA := Nat.ne_of_lt A3.hb
  have oBbA := Nat.ne_of_gt A3.hb
  have Bb4 : Bk6 w4 (w3.heap.size) (.int .i64 yb) (.int .i64 mb) (.int .i64 db) (.int .i64 hb) (.int .i64 ib) (.int .i64 sb) := Bk6.of b4 (by simp <;> omega) (by intro j; simp [go_sem]) (by simp [go_sem]) (by simp [go_sem]) (by simp [go_sem]) (by simp [go_sem]) (by simp [go_sem]) (by simp [go_sem])
  clear A3 b4 d4 B3
  have cA_b := A4.hb
  have cA_f := A4.fz
  have cA_0 := A4.k0
  have cA_1 := A4.k1
  have cA_2 := A4.k2
  have cA_3 := A4.k3
  have cA_4 := A4.k4
  have cA_5 := A4.k5
  have cBb_b := Bb4.hb
  have cBb_f := Bb4.fz
  have cBb_0 := Bb4.k0
  have cBb_1 := Bb4.k1
  have cBb_2 := Bb4.k2
  have cBb_3 := Bb4.k3
  have cBb_4 := Bb4.k4
  have cBb_5 := Bb4.k5
  go_wp2_with fail
  clear cA_b cA_f cA_0 cA_1 cA_2 cA_3 cA_4 cA_5 cBb_b cBb_f cBb_0 cBb_1 cBb_2 cBb_3 cBb_4 cBb_5
  refine (DA.out _).mono ?_; rintro e w5 ⟨rfl, b5⟩
  have d5 : Below w4.heap.size w4 w5 := below_step (by repeat (first | exact Below.refl _ _ | refine below_drewN ?_ _ | refine Below.drew ?_ | refine Below.setCell ?_ (by first | (simp; done) | (simp; omega) | omega) _ | refine Below.alloc ?_ (by first | (simp; done) | (simp; omega) | omega) _)) b5
  have B5 := Lib.hid (below_step B4.out d5)
  have A5 := A4.keep d5
  have Bb5 := Bb4.keep d5
  clear A4 Bb4 b5 d5 B4
  have cA_b := A5.hb
  have cA_f := A5.fz
  have cA_0 := A5.k0
  have cA_1 := A5.k1
  have cA_2 := A5.k2
  have cA_3 := A5.k3
  have cA_4 := A5.k4
  have cA_5 := A5.k5
  have cBb_b := Bb5.hb
  have cBb_f := Bb5.fz
  have cBb_0 := Bb5.k0
  have cBb_1 := Bb5.k1
  have cBb_2 := Bb5.k2
  have cBb_3 := Bb5.k3
  have cBb_4 := Bb5.k4
  have cBb_5 := Bb5.k5
  go_wp2_with fail
  clear cA_b cA_f cA_0 cA_1 cA_2 cA_3 cA_4 cA_5 cBb_b cBb_f cBb_0 cBb_1 cBb_2 cBb_3 cBb_4 cBb_5
  refine (CC.out _).mono ?_; rintro e w6 ⟨rfl, b6⟩
  have d6 : Below w5.heap.size w5 w6 := below_step (by repeat (first | exact Below.refl _ _ | refine below_drewN ?_ _ | refine Below.drew ?_ | refine Below.setCell ?_ (by first | (simp; done) | (simp; omega) | omega) _ | refine Below.alloc ?_ (by first | (simp; done) | (simp; omega) | omega) _)) b6
  have B6 := Lib.hid (below_step B5.out d6)
  have A6 := A5.keep d6
  have Bb6 := Bb5.keep d6
  clear A5 Bb5 b6 d6 B5
  have cA_b := A6.hb
  have cA_f := A6.fz
  have cA_0 := A6.k0
  have cA_1 := A6.k1
  have cA_2 := A6.k2
  have cA_3 := A6.k3
  have cA_4 := A6.k4
  have cA_5 := A6.k5
  have cBb_b := Bb6.hb
  have cBb_f := Bb6.fz
  have cBb_0 := Bb6.k0
  have cBb_1 := Bb6.k1
  have cBb_2 := Bb6.k2
  have cBb_3 := Bb6.k3
  have cBb_4 := Bb6.k4
  have cBb_5 := Bb6.k5
  go_wp2_with fail
  clear cA_b cA_f cA_0 cA_1 cA_2 cA_3 cA_4 cA_5 cBb_b cBb_f cBb_0 cBb_1 cBb_2 cBb_3 cBb_4 cBb_5
  go_ret
  exact ⟨rfl, (by have hz := B6.out.size; repeat (first | exact B6.out | refine below_drewN ?_ _ | refine Below.drew ?_ | refine Below.setCell ?_ (by first | omega | (simp; done) | (simp; omega)) _ | refine Below.alloc ?_ (by first | omega | (simp; done) | (simp; omega)) _))⟩
set_option maxHeartbeats 4000000 in
set_option maxRecDepth 100000 in
theorem so_g1b (t u ya ma da ha ia sa yb mb db hb ib sb q r rb c : Int) (w : World) (htab : Lib.TabIs Tryd.prog w "internal/strconv.uint64pow10" .u64 Lib.pow10Tab) (h0a : 0 ≤ ha) (h1a : ha < 24) (i0a : 0 ≤ ia) (i1a : ia < 60) (s0a : 0 ≤ sa) (s1a : sa < 60) (h0b : 0 ≤ hb) (h1b : hb < 24) (i0b : 0 ≤ ib) (i1b : ib < 60) (s0b : 0 ≤ sb) (s1b : sb < 60) (q0 : -15329228 ≤ q) (q1 : q ≤ 13890537) (f1 : ha * 3600 + ia * 60 + sa = r) (f2 : hb * 3600 + ib * 60 + sb = rb) (f3 : q * 86400 + r = t) (c1 : ¬ c < 0) (c2 : c = 0) (rr : decide (r < rb) = false) (tu : decide (t < u) = false) (n1 : ¬ ya < 0) (n2 : 9999 < ya) (OA : Hid (∀ W, Calls Tryd.prog 22 #[.int .i64 t] W fun e w' => e = .returned (.tuple #[.agg #[.int .i64 ya, .int .i64 ma, .int .i64 da, .int .i64 ha, .int .i64 ia, .int .i64 sa], .int .i64 0]) ∧ Below W.heap.size W w')) (OB : Hid (∀ W, Calls Tryd.prog 22 #[.int .i64 u] W fun e w' => e = .returned (.tuple #[.agg #[.int .i64 yb, .int .i64 mb, .int .i64 db, .int .i64 hb, .int .i64 ib, .int .i64 sb], .int .i64 0]) ∧ Below W.heap.size W w')) (SP : Hid (∀ W, Calls Tryd.prog 23 #[.int .i64 t] W fun e w' => e = .returned (.tuple #[.int .i64 q, .int .i64 r]) ∧ Below W.heap.size W w')) (DA : Hid (∀ W, Calls Tryd.prog 24 #[.agg #[.int .i64 ya, .int .i64 ma, .int .i64 da]] W fun e w' => e = .returned (.tuple #[.int .i64 q, .int .i64 0]) ∧ Below W.heap.size W w')) (CC : Hid (∀ W, Calls Tryd.prog 25 #[.agg #[.int .i64 ya, .int .i64 ma, .int .i64 da], .agg #[.int .i64 yb, .int .i64 mb, .int .i64 db]] W fun e w' => e = .returned (.int .i64 c) ∧ Below W.heap.size W w'))  :
    Calls Tryd.prog 4 #[.int .i64 t, .int .i64 u] w fun e w' => e = .returned (.bool true) ∧ Below w.heap.size w w' := by
  have T0 := Lib.hid htab; clear htab
  have L := Lib.hid (fun w h => lives4 w h)
  go_enter Tryd.func4, Tryd.ntmps4
  go_wp2_with fail
  refine (L.out _ T0.out).mono ?_; rintro e w1 ⟨rfl, b1⟩
  have d1 : Below w.heap.size w w1 := below_step (by repeat (first | exact Below.refl _ _ | refine below_drewN ?_ _ | refine Below.drew ?_ | refine Below.setCell ?_ (by first | (simp; done) | (simp; omega) | omega) _ | refine Below.alloc ?_ (by first | (simp; done) | (simp; omega) | omega) _)) b1
  have B1 := Lib.hid d1
  clear b1 d1
  go_wp2_with fail
  refine (OA.out _).mono ?_; rintro e w2 ⟨rfl, b2⟩
  have d2 : Below w1.heap.size w1 w2 := below_step (by repeat (first | exact Below.refl _ _ | refine below_drewN ?_ _ | refine Below.drew ?_ | refine Below.setCell ?_ (by first | (simp; done) | (simp; omega) | omega) _ | refine Below.alloc ?_ (by first | (simp; done) | (simp; omega) | omega) _)) b2
  have B2 := Lib.hid (below_step B1.out d2)
  clear b2 d2 B1
  go_wp2_with fail
  refine (OB.out _).mono ?_; rintro e w3 ⟨rfl, b3⟩
  have d3 : Below w2.heap.size w2 w3 := below_step (by repeat (first | exact Below.refl _ _ | refine below_drewN ?_ _ | refine Below.drew ?_ | refine Below.setCell ?_ (by first | (simp; done) | (simp; omega) | omega) _ | refine Below.alloc ?_ (by first | (simp; done) | (simp; omega) | omega) _)) b3
  have B3 := Lib.hid (below_step B2.out d3)
  have aA := B2.out.size
  have A3 : Bk6 w3 (w2.heap.size) (.int .i64 ya) (.int .i64 ma) (.int .i64 da) (.int .i64 ha) (.int .i64 ia) (.int .i64 sa) := Bk6.of b3 (by simp <;> omega) (by intro j; simp [go_sem]) (by simp [go_sem]) (by simp [go_sem]) (by simp [go_sem]) (by simp [go_sem]) (by simp [go_sem]) (by simp [go_sem])
  clear b3 d3 B2
  have cA_b := A3.hb
  have cA_f := A3.fz
  have cA_0 := A3.k0
  have cA_1 := A3.k1
  have cA_2 := A3.k2
  have cA_3 := A3.k3
  have cA_4 := A3.k4
  have cA_5 := A3.k5
  go_wp2_with fail
  clear cA_b cA_f cA_0 cA_1 cA_2 cA_3 cA_4 cA_5
  refine (SP.out _).mono ?_; rintro e w4 ⟨rfl, b4⟩
  have d4 : Below w3.heap.size w3 w4 := below_step (by repeat (first | exact Below.refl _ _ | refine below_drewN ?_ _ | refine Below.drew ?_ | refine Below.setCell ?_ (by first | (simp; done) | (simp; omega) | omega) _ | refine Below.alloc ?_ (by first | (simp; done) | (simp; omega) | omega) _)) b4
  have B4 := Lib.hid (below_step B3.out d4)
  have A4 := A3.keep d4
  have aBb := B3.out.size
  have nBbA := Nat.ne_of_lt A3.hb
  have oBbA := Nat.ne_of_gt A3.hb
  have Bb4 : Bk6 w4 (w3.heap.size) (.int .i64 yb) (.int .i64 mb) (.int .i64 db) (.int .i64 hb) (.int .i64 ib) (.int .i64 sb) := Bk6.of b4 (by simp <;> omega) (by intro j; simp [go_sem]) (by simp [go_sem]) (by simp [go_sem]) (by simp [go_sem]) (by simp [go_sem]) (by simp [go_sem]) (by simp [go_sem])
  clear A3 b4 d4 B3
  have cA_b := A4.hb
  have cA_f := A4.fz
  have cA_0 := A4.k0
  have cA_1 := A4.k1
  have cA_2 := A4.k2
  have cA_3 := A4.k3
  have cA_4 := A4.k4
  have cA_5 := A4.k5
  have cBb_b := Bb4.hb
  have cBb_f := Bb4.fz
  have cBb_0 := Bb4.k0
  have cBb_1 := Bb4.k1
  have cBb_2 := Bb4.k2
  have cBb_3 := Bb4.k3
  have cBb_4 := Bb4.k4
  have cBb_5 := Bb4.k5
  go_wp2_with fail
  clear cA_b cA_f cA_0 cA_1 cA_2 cA_3 cA_4 cA_5 cBb_b cBb_f cBb_0 cBb_1 cBb_2 cBb_3 cBb_4 cBb_5
  refine (DA.out _).mono ?_; rintro e w5 ⟨rfl, b5⟩
  have d5 : Below w4.heap.size w4 w5 := below_step (by repeat (first | exact Below.refl _ _ | refine below_drewN ?_ _ | refine Below.drew ?_ | refine Below.setCell ?_ (by first | (simp; done) | (simp; omega) | omega) _ | refine Below.alloc ?_ (by first | (simp; done) | (simp; omega) | omega) _)) b5
  have B5 := Lib.hid (below_step B4.out d5)
  have A5 := A4.keep d5
  have Bb5 := Bb4.keep d5
  clear A4 Bb4 b5 d5 B4
  have cA_b := A5.hb
  have cA_f := A5.fz
  have cA_0 := A5.k0
  have cA_1 := A5.k1
  have cA_2 := A5.k2
  have cA_3 := A5.k3
  have cA_4 := A5.k4
  have cA_5 := A5.k5
  have cBb_b := Bb5.hb
  have cBb_f := Bb5.fz
  have cBb_0 := Bb5.k0
  have cBb_1 := Bb5.k1
  have cBb_2 := Bb5.k2
  have cBb_3 := Bb5.k3
  have cBb_4 := Bb5.k4
  have cBb_5 := Bb5.k5
  go_wp2_with fail
  clear cA_b cA_f cA_0 cA_1 cA_2 cA_3 cA_4 cA_5 cBb_b cBb_f cBb_0 cBb_1 cBb_2 cBb_3 cBb_4 cBb_5
  refine (CC.out _).mono ?_; rintro e w6 ⟨rfl, b6⟩
  have d6 : Below w5.heap.size w5 w6 := below_step (by repeat (first | exact Below.refl _ _ | refine below_drewN ?_ _ | refine Below.drew ?_ | refine Below.setCell ?_ (by first | (simp; done) | (simp; omega) | omega) _ | refine Below.alloc ?_ (by first | (simp; done) | (simp; omega) | omega) _)) b6
  have B6 := Lib.hid (below_step B5.out d6)
  have A6 := A5.keep d6
  have Bb6 := Bb5.keep d6
  clear A5 Bb5 b6 d6 B5
  have cA_b := A6.hb
  have cA_f := A6.fz
  have cA_0 := A6.k0
  have cA_1 := A6.k1
  have cA_2 := A6.k2
  have cA_3 := A6.k3
  have cA_4 := A6.k4
  have cA_5 := A6.k5
  have cBb_b := Bb6.hb
  have cBb_f := Bb6.fz
  have cBb_0 := Bb6.k0
  have cBb_1 := Bb6.k1
  have cBb_2 := Bb6.k2
  have cBb_3 := Bb6.k3
  have cBb_4 := Bb6.k4
  have cBb_5 := Bb6.k5
  go_wp2_with fail
  clear cA_b cA_f cA_0 cA_1 cA_2 cA_3 cA_4 cA_5 cBb_b cBb_f cBb_0 cBb_1 cBb_2 cBb_3 cBb_4 cBb_5
  go_ret
  exact ⟨rfl, (by have hz := B6.out.size; repeat (first | exact B6.out | refine below_drewN ?_ _ | refine Below.drew ?_ | refine Below.setCell ?_ (by first | omega | (simp; done) | (simp; omega)) _ | refine Below.alloc ?_ (by first | omega | (simp; done) | (simp; omega)) _))⟩
set_option maxHeartbeats 4000000 in
set_option maxRecDepth 100000 in
theorem so_g1c (t u ya ma da ha ia sa yb mb db hb ib sb q r rb c : Int) (w : World) (htab : Lib.TabIs Tryd.prog w "internal/strconv.uint64pow10" .u64 Lib.pow10Tab) (h0a : 0 ≤ ha) (h1a : ha < 24) (i0a : 0 ≤ ia) (i1a : ia < 60) (s0a : 0 ≤ sa) (s1a : sa < 60) (h0b : 0 ≤ hb) (h1b : hb < 24) (i0b : 0 ≤ ib) (i1b : ib < 60) (s0b : 0 ≤ sb) (s1b : sb < 60) (q0 : -15329228 ≤ q) (q1 : q ≤ 13890537) (f1 : ha * 3600 + ia * 60 + sa = r) (f2 : hb * 3600 + ib * 60 + sb = rb) (f3 : q * 86400 + r = t) (c1 : ¬ c < 0) (c2 : c = 0) (rr : decide (r < rb) = false) (tu : decide (t < u) = false) (n1 : ¬ ya < 0) (n2 : ¬ 9999 < ya) (n3 : yb < 0) (OA : Hid (∀ W, Calls Tryd.prog 22 #[.int .i64 t] W fun e w' => e = .returned (.tuple #[.agg #[.int .i64 ya, .int .i64 ma, .int .i64 da, .int .i64 ha, .int .i64 ia, .int .i64 sa], .int .i64 0]) ∧ Below W.heap.size W w')) (OB : Hid (∀ W, Calls Tryd.prog 22 #[.int .i64 u] W fun e w' => e = .returned (.tuple #[.agg #[.int .i64 yb, .int .i64 mb, .int .i64 db, .int .i64 hb, .int .i64 ib, .int .i64 sb], .int .i64 0]) ∧ Below W.heap.size W w')) (SP : Hid (∀ W, Calls Tryd.prog 23 #[.int .i64 t] W fun e w' => e = .returned (.tuple #[.int .i64 q, .int .i64 r]) ∧ Below W.heap.size W w')) (DA : Hid (∀ W, Calls Tryd.prog 24 #[.agg #[.int .i64 ya, .int .i64 ma, .int .i64 da]] W fun e w' => e = .returned (.tuple #[.int .i64 q, .int .i64 0]) ∧ Below W.heap.size W w')) (CC : Hid (∀ W, Calls Tryd.prog 25 #[.agg #[.int .i64 ya, .int .i64 ma, .int .i64 da], .agg #[.int .i64 yb, .int .i64 mb, .int .i64 db]] W fun e w' => e = .returned (.int .i64 c) ∧ Below W.heap.size W w'))  :
    Calls Tryd.prog 4 #[.int .i64 t, .int .i64 u] w fun e w' => e = .returned (.bool true) ∧ Below w.heap.size w w' := by
  have T0 := Lib.hid htab; clear htab
  have L := Lib.hid (fun w h => lives4 w h)
  go_enter Tryd.func4, Tryd.ntmps4
  go_wp2_with fail
  refine (L.out _ T0.out).mono ?_; rintro e w1 ⟨rfl, b1⟩
  have d1 : Below w.heap.size w w1 := below_step (by repeat (first | exact Below.refl _ _ | refine below_drewN ?_ _ | refine Below.drew ?_ | refine Below.setCell ?_ (by first | (simp; done) | (simp; omega) | omega) _ | refine Below.alloc ?_ (by first | (simp; done) | (simp; omega) | omega) _)) b1
  have B1 := Lib.hid d1
  clear b1 d1
  go_wp2_with fail
  refine (OA.out _).mono ?_; rintro e w2 ⟨rfl, b2⟩
  have d2 : Below w1.heap.size w1 w2 := below_step (by repeat (first | exact Below.refl _ _ | refine below_drewN ?_ _ | refine Below.drew ?_ | refine Below.setCell ?_ (by first | (simp; done) | (simp; omega) | omega) _ | refine Below.alloc ?_ (by first | (simp; done) | (simp; omega) | omega) _)) b2
  have B2 := Lib.hid (below_step B1.out d2)
  clear b2 d2 B1
  go_wp2_with fail
  refine (OB.out _).mono ?_; rintro e w3 ⟨rfl, b3⟩
  have d3 : Below w2.heap.size w2 w3 := below_step (by repeat (first | exact Below.refl _ _ | refine below_drewN ?_ _ | refine Below.drew ?_ | refine Below.setCell ?_ (by first | (simp; done) | (simp; omega) | omega) _ | refine Below.alloc ?_ (by first | (simp; done) | (simp; omega) | omega) _)) b3
  have B3 := Lib.hid (below_step B2.out d3)
  have aA := B2.out.size
  have A3 : Bk6 w3 (w2.heap.size) (.int .i64 ya) (.int .i64 ma) (.int .i64 da) (.int .i64 ha) (.int .i64 ia) (.int .i64 sa) := Bk6.of b3 (by simp <;> omega) (by intro j; simp [go_sem]) (by simp [go_sem]) (by simp [go_sem]) (by simp [go_sem]) (by simp [go_sem]) (by simp [go_sem]) (by simp [go_sem])
  clear b3 d3 B2
  have cA_b := A3.hb
  have cA_f := A3.fz
  have cA_0 := A3.k0
  have cA_1 := A3.k1
  have cA_2 := A3.k2
  have cA_3 := A3.k3
  have cA_4 := A3.k4
  have cA_5 := A3.k5
  go_wp2_with fail
  clear cA_b cA_f cA_0 cA_1 cA_2 cA_3 cA_4 cA_5
  refine (SP.out _).mono ?_; rintro e w4 ⟨rfl, b4⟩
  have d4 : Below w3.heap.size w3 w4 := below_step (by repeat (first | exact Below.refl _ _ | refine below_drewN ?_ _ | refine Below.drew ?_ | refine Below.setCell ?_ (by first | (simp; done) | (simp; omega) | omega) _ | refine Below.alloc ?_ (by first | (simp; done) | (simp; omega) | omega) _)) b4
  have B4 := Lib.hid (below_step B3.out d4)
  have A4 := A3.keep d4
  have aBb := B3.out.size
  have nBbA := Nat.ne_of_lt A3.hb
  have oBbA := Nat.ne_of_gt A3.hb
  have Bb4 : Bk6 w4 (w3.heap.size) (.int .i64 yb) (.int .i64 mb) (.int .i64 db) (.int .i64 hb) (.int .i64 ib) (.int .i64 sb) := Bk6.of b4 (by simp <;> omega) (by intro j; simp [go_sem]) (by simp [go_sem]) (by simp [go_sem]) (by simp [go_sem]) (by simp [go_sem]) (by simp [go_sem]) (by simp [go_sem])
  clear A3 b4 d4 B3
  have cA_b := A4.hb
  have cA_f := A4.fz
  have cA_0 := A4.k0
  have cA_1 := A4.k1
  have cA_2 := A4.k2
  have cA_3 := A4.k3
  have cA_4 := A4.k4
  have cA_5 := A4.k5
  have cBb_b := Bb4.hb
  have cBb_f := Bb4.fz
  have cBb_0 := Bb4.k0
  have cBb_1 := Bb4.k1
  have cBb_2 := Bb4.k2
  have cBb_3 := Bb4.k3
  have cBb_4 := Bb4.k4
  have cBb_5 := Bb4.k5
  go_wp2_with fail
  clear cA_b cA_f cA_0 cA_1 cA_2 cA_3 cA_4 cA_5 cBb_b cBb_f cBb_0 cBb_1 cBb_2 cBb_3 cBb_4 cBb_5
  refine (DA.out _).mono ?_; rintro e w5 ⟨rfl, b5⟩
  have d5 : Below w4.heap.size w4 w5 := below_step (by repeat (first | exact Below.refl _ _ | refine below_drewN ?_ _ | refine Below.drew ?_ | refine Below.setCell ?_ (by first | (simp; done) | (simp; omega) | omega) _ | refine Below.alloc ?_ (by first | (simp; done) | (simp; omega) | omega) _)) b5
  have B5 := Lib.hid (below_step B4.out d5)
  have A5 := A4.keep d5
  have Bb5 := Bb4.keep d5
  clear A4 Bb4 b5 d5 B4
  have cA_b := A5.hb
  have cA_f := A5.fz
  have cA_0 := A5.k0
  have cA_1 := A5.k1
  have cA_2 := A5.k2
  have cA_3 := A5.k3
  have cA_4 := A5.k4
  have cA_5 := A5.k5
  have cBb_b := Bb5.hb
  have cBb_f := Bb5.fz
  have cBb_0 := Bb5.k0
  have cBb_1 := Bb5.k1
  have cBb_2 := Bb5.k2
  have cBb_3 := Bb5.k3
  have cBb_4 := Bb5.k4
  have cBb_5 := Bb5.k5
  go_wp2_with fail
  clear cA_b cA_f cA_0 cA_1 cA_2 cA_3 cA_4 cA_5 cBb_b cBb_f cBb_0 cBb_1 cBb_2 cBb_3 cBb_4 cBb_5
  refine (CC.out _).mono ?_; rintro e w6 ⟨rfl, b6⟩
  have d6 : Below w5.heap.size w5 w6 := below_step (by repeat (first | exact Below.refl _ _ | refine below_drewN ?_ _ | refine Below.drew ?_ | refine Below.setCell ?_ (by first | (simp; done) | (simp; omega) | omega) _ | refine Below.alloc ?_ (by first | (simp; done) | (simp; omega) | omega) _)) b6
  have B6 := Lib.hid (below_step B5.out d6)
  have A6 := A5.keep d6
  have Bb6 := Bb5.keep d6
  clear A5 Bb5 b6 d6 B5
  have cA_b := A6.hb
  have cA_f := A6.fz
  have cA_0 := A6.k0
  have cA_1 := A6.k1
  have cA_2 := A6.k2
  have cA_3 := A6.k3
  have cA_4 := A6.k4
  have cA_5 := A6.k5
  have cBb_b := Bb6.hb
  have cBb_f := Bb6.fz
  have cBb_0 := Bb6.k0
  have cBb_1 := Bb6.k1
  have cBb_2 := Bb6.k2
  have cBb_3 := Bb6.k3
  have cBb_4 := Bb6.k4
  have cBb_5 := Bb6.k5
  go_wp2_with fail
  clear cA_b cA_f cA_0 cA_1 cA_2 cA_3 cA_4 cA_5 cBb_b cBb_f cBb_0 cBb_1 cBb_2 cBb_3 cBb_4 cBb_5
  go_ret
  exact ⟨rfl, (by have hz := B6.out.size; repeat (first | exact B6.out | refine below_drewN ?_ _ | refine Below.drew ?_ | refine Below.setCell ?_ (by first | omega | (simp; done) | (simp; omega)) _ | refine Below.alloc ?_ (by first | omega | (simp; done) | (simp; omega)) _))⟩
set_option maxHeartbeats 4000000 in
set_option maxRecDepth 100000 in
theorem so_g1d (t u ya ma da ha ia sa yb mb db hb ib sb q r rb c : Int) (w : World) (htab : Lib.TabIs Tryd.prog w "internal/strconv.uint64pow10" .u64 Lib.pow10Tab) (h0a : 0 ≤ ha) (h1a : ha < 24) (i0a : 0 ≤ ia) (i1a : ia < 60) (s0a : 0 ≤ sa) (s1a : sa < 60) (h0b : 0 ≤ hb) (h1b : hb < 24) (i0b : 0 ≤ ib) (i1b : ib < 60) (s0b : 0 ≤ sb) (s1b : sb < 60) (q0 : -15329228 ≤ q) (q1 : q ≤ 13890537) (f1 : ha * 3600 + ia * 60 + sa = r) (f2 : hb * 3600 + ib * 60 + sb = rb) (f3 : q * 86400 + r = t) (c1 : ¬ c < 0) (c2 : c = 0) (rr : decide (r < rb) = false) (tu : decide (t < u) = false) (n1 : ¬ ya < 0) (n2 : ¬ 9999 < ya) (n3 : ¬ yb < 0) (n4 : 9999 < yb) (OA : Hid (∀ W, Calls Tryd.prog 22 #[.int .i64 t] W fun e w' => e = .returned (.tuple #[.agg #[.int .i64 ya, .int .i64 ma, .int .i64 da, .int .i64 ha, .int .i64 ia, .int .i64 sa], .int .i64 0]) ∧ Below W.heap.size W w')) (OB : Hid (∀ W, Calls Tryd.prog 22 #[.int .i64 u] W fun e w' => e = .returned (.tuple #[.agg #[.int .i64 yb, .int .i64 mb, .int .i64 db, .int .i64 hb, .int .i64 ib, .int .i64 sb], .int .i64 0]) ∧ Below W.heap.size W w')) (SP : Hid (∀ W, Calls Tryd.prog 23 #[.int .i64 t] W fun e w' => e = .returned (.tuple #[.int .i64 q, .int .i64 r]) ∧ Below W.heap.size W w')) (DA : Hid (∀ W, Calls Tryd.prog 24 #[.agg #[.int .i64 ya, .int .i64 ma, .int .i64 da]] W fun e w' => e = .returned (.tuple #[.int .i64 q, .int .i64 0]) ∧ Below W.heap.size W w')) (CC : Hid (∀ W, Calls Tryd.prog 25 #[.agg #[.int .i64 ya, .int .i64 ma, .int .i64 da], .agg #[.int .i64 yb, .int .i64 mb, .int .i64 db]] W fun e w' => e = .returned (.int .i64 c) ∧ Below W.heap.size W w'))  :
    Calls Tryd.prog 4 #[.int .i64 t, .int .i64 u] w fun e w' => e = .returned (.bool true) ∧ Below w.heap.size w w' := by
  have T0 := Lib.hid htab; clear htab
  have L := Lib.hid (fun w h => lives4 w h)
  go_enter Tryd.func4, Tryd.ntmps4
  go_wp2_with fail
  refine (L.out _ T0.out).mono ?_; rintro e w1 ⟨rfl, b1⟩
  have d1 : Below w.heap.size w w1 := below_step (by repeat (first | exact Below.refl _ _ | refine below_drewN ?_ _ | refine Below.drew ?_ | refine Below.setCell ?_ (by first | (simp; done) | (simp; omega) | omega) _ | refine Below.alloc ?_ (by first | (simp; done) | (simp; omega) | omega) _)) b1
  have B1 := Lib.hid d1
  clear b1 d1
  go_wp2_with fail
  refine (OA.out _).mono ?_; rintro e w2 ⟨rfl, b2⟩
  have d2 : Below w1.heap.size w1 w2 := below_step (by repeat (first | exact Below.refl _ _ | refine below_drewN ?_ _ | refine Below.drew ?_ | refine Below.setCell ?_ (by first | (simp; done) | (simp; omega) | omega) _ | refine Below.alloc ?_ (by first | (simp; done) | (simp; omega) | omega) _)) b2
  have B2 := Lib.hid (below_step B1.out d2)
  clear b2 d2 B1
  go_wp2_with fail
  refine (OB.out _).mono ?_; rintro e w3 ⟨rfl, b3⟩
  have d3 : Below w2.heap.size w2 w3 := below_step (by repeat (first | exact Below.refl _ _ | refine below_drewN ?_ _ | refine Below.drew ?_ | refine Below.setCell ?_ (by first | (simp; done) | (simp; omega) | omega) _ | refine Below.alloc ?_ (by first | (simp; done) | (simp; omega) | omega) _)) b3
  have B3 := Lib.hid (below_step B2.out d3)
  have aA := B2.out.size
  have A3 : Bk6 w3 (w2.heap.size) (.int .i64 ya) (.int .i64 ma) (.int .i64 da) (.int .i64 ha) (.int .i64 ia) (.int .i64 sa) := Bk6.of b3 (by simp <;> omega) (by intro j; simp [go_sem]) (by simp [go_sem]) (by simp [go_sem]) (by simp [go_sem]) (by simp [go_sem]) (by simp [go_sem]) (by simp [go_sem])
  clear b3 d3 B2
  have cA_b := A3.hb
  have cA_f := A3.fz
  have cA_0 := A3.k0
  have cA_1 := A3.k1
  have cA_2 := A3.k2
  have cA_3 := A3.k3
  have cA_4 := A3.k4
  have cA_5 := A3.k5
  go_wp2_with fail
  clear cA_b cA_f cA_0 cA_1 cA_2 cA_3 cA_4 cA_5
  refine (SP.out _).mono ?_; rintro e w4 ⟨rfl, b4⟩
  have d4 : Below w3.heap.size w3 w4 := below_step (by repeat (first | exact Below.refl _ _ | refine below_drewN ?_ _ | refine Below.drew ?_ | refine Below.setCell ?_ (by first | (simp; done) | (simp; omega) | omega) _ | refine Below.alloc ?_ (by first | (simp; done) | (simp; omega) | omega) _)) b4
  have B4 := Lib.hid (below_step B3.out d4)
  have A4 := A3.keep d4
  have aBb := B3.out.size
  have nBbA := Nat.ne_of_lt A3.hb
  have oBbA := Nat.ne_of_gt A3.hb
  have Bb4 : Bk6 w4 (w3.heap.size) (.int .i64 yb) (.int .i64 mb) (.int .i64 db) (.int .i64 hb) (.int .i64 ib) (.int .i64 sb) := Bk6.of b4 (by simp <;> omega) (by intro j; simp [go_sem]) (by simp [go_sem]) (by simp [go_sem]) (by simp [go_sem]) (by simp [go_sem]) (by simp [go_sem]) (by simp [go_sem])
  clear A3 b4 d4 B3
  have cA_b := A4.hb
  have cA_f := A4.fz
  have cA_0 := A4.k0
  have cA_1 := A4.k1
  have cA_2 := A4.k2
  have cA_3 := A4.k3
  have cA_4 := A4.k4
  have cA_5 := A4.k5
  have cBb_b := Bb4.hb
  have cBb_f := Bb4.fz
  have cBb_0 := Bb4.k0
  have cBb_1 := Bb4.k1
  have cBb_2 := Bb4.k2
  have cBb_3 := Bb4.k3
  have cBb_4 := Bb4.k4
  have cBb_5 := Bb4.k5
  go_wp2_with fail
  clear cA_b cA_f cA_0 cA_1 cA_2 cA_3 cA_4 cA_5 cBb_b cBb_f cBb_0 cBb_1 cBb_2 cBb_3 cBb_4 cBb_5
  refine (DA.out _).mono ?_; rintro e w5 ⟨rfl, b5⟩
  have d5 : Below w4.heap.size w4 w5 := below_step (by repeat (first | exact Below.refl _ _ | refine below_drewN ?_ _ | refine Below.drew ?_ | refine Below.setCell ?_ (by first | (simp; done) | (simp; omega) | omega) _ | refine Below.alloc ?_ (by first | (simp; done) | (simp; omega) | omega) _)) b5
  have B5 := Lib.hid (below_step B4.out d5)
  have A5 := A4.keep d5
  have Bb5 := Bb4.keep d5
  clear A4 Bb4 b5 d5 B4
  have cA_b := A5.hb
  have cA_f := A5.fz
  have cA_0 := A5.k0
  have cA_1 := A5.k1
  have cA_2 := A5.k2
  have cA_3 := A5.k3
  have cA_4 := A5.k4
  have cA_5 := A5.k5
  have cBb_b := Bb5.hb
  have cBb_f := Bb5.fz
  have cBb_0 := Bb5.k0
  have cBb_1 := Bb5.k1
  have cBb_2 := Bb5.k2
  have cBb_3 := Bb5.k3
  have cBb_4 := Bb5.k4
  have cBb_5 := Bb5.k5
  go_wp2_with fail
  clear cA_b cA_f cA_0 cA_1 cA_2 cA_3 cA_4 cA_5 cBb_b cBb_f cBb_0 cBb_1 cBb_2 cBb_3 cBb_4 cBb_5
  refine (CC.out _).mono ?_; rintro e w6 ⟨rfl, b6⟩
  have d6 : Below w5.heap.size w5 w6 := below_step (by repeat (first | exact Below.refl _ _ | refine below_drewN ?_ _ | refine Below.drew ?_ | refine Below.setCell ?_ (by first | (simp; done) | (simp; omega) | omega) _ | refine Below.alloc ?_ (by first | (simp; done) | (simp; omega) | omega) _)) b6
  have B6 := Lib.hid (below_step B5.out d6)
  have A6 := A5.keep d6
  have Bb6 := Bb5.keep d6
  clear A5 Bb5 b6 d6 B5
  have cA_b := A6.hb
  have cA_f := A6.fz
  have cA_0 := A6.k0
  have cA_1 := A6.k1
  have cA_2 := A6.k2
  have cA_3 := A6.k3
  have cA_4 := A6.k4
  have cA_5 := A6.k5
  have cBb_b := Bb6.hb
  have cBb_f := Bb6.fz
  have cBb_0 := Bb6.k0
  have cBb_1 := Bb6.k1
  have cBb_2 := Bb6.k2
  have cBb_3 := Bb6.k3
  have cBb_4 := Bb6.k4
  have cBb_5 := Bb6.k5
  go_wp2_with fail
  clear cA_b cA_f cA_0 cA_1 cA_2 cA_3 cA_4 cA_5 cBb_b cBb_f cBb_0 cBb_1 cBb_2 cBb_3 cBb_4 cBb_5
  go_ret
  exact ⟨rfl, (by have hz := B6.out.size; repeat (first | exact B6.out | refine below_drewN ?_ _ | refine Below.drew ?_ | refine Below.setCell ?_ (by first | omega | (simp; done) | (simp; omega)) _ | refine Below.alloc ?_ (by first | omega | (simp; done) | (simp; omega)) _))⟩
set_option maxHeartbeats 4000000 in
set_option maxRecDepth 100000 in
theorem so_g1i (t u ya ma da ha ia sa yb mb db hb ib sb q r rb c : Int) (w : World) (htab : Lib.TabIs Tryd.prog w "internal/strconv.uint64pow10" .u64 Lib.pow10Tab) (h0a : 0 ≤ ha) (h1a : ha < 24) (i0a : 0 ≤ ia) (i1a : ia < 60) (s0a : 0 ≤ sa) (s1a : sa < 60) (h0b : 0 ≤ hb) (h1b : hb < 24) (i0b : 0 ≤ ib) (i1b : ib < 60) (s0b : 0 ≤ sb) (s1b : sb < 60) (q0 : -15329228 ≤ q) (q1 : q ≤ 13890537) (f1 : ha * 3600 + ia * 60 + sa = r) (f2 : hb * 3600 + ib * 60 + sb = rb) (f3 : q * 86400 + r = t) (c1 : ¬ c < 0) (c2 : c = 0) (rr : decide (r < rb) = false) (tu : decide (t < u) = false) (n1 : ¬ ya < 0) (n2 : ¬ 9999 < ya) (n3 : ¬ yb < 0) (n4 : ¬ 9999 < yb) (OA : Hid (∀ W, Calls Tryd.prog 22 #[.int .i64 t] W fun e w' => e = .returned (.tuple #[.agg #[.int .i64 ya, .int .i64 ma, .int .i64 da, .int .i64 ha, .int .i64 ia, .int .i64 sa], .int .i64 0]) ∧ Below W.heap.size W w')) (OB : Hid (∀ W, Calls Tryd.prog 22 #[.int .i64 u] W fun e w' => e = .returned (.tuple #[.agg #[.int .i64 yb, .int .i64 mb, .int .i64 db, .int .i64 hb, .int .i64 ib, .int .i64 sb], .int .i64 0]) ∧ Below W.heap.size W w')) (SP : Hid (∀ W, Calls Tryd.prog 23 #[.int .i64 t] W fun e w' => e = .returned (.tuple #[.int .i64 q, .int .i64 r]) ∧ Below W.heap.size W w')) (DA : Hid (∀ W, Calls Tryd.prog 24 #[.agg #[.int .i64 ya, .int .i64 ma, .int .i64 da]] W fun e w' => e = .returned (.tuple #[.int .i64 q, .int .i64 0]) ∧ Below W.heap.size W w')) (CC : Hid (∀ W, Calls Tryd.prog 25 #[.agg #[.int .i64 ya, .int .i64 ma, .int .i64 da], .agg #[.int .i64 yb, .int .i64 mb, .int .i64 db]] W fun e w' => e = .returned (.int .i64 c) ∧ Below W.heap.size W w')) (F : Int → Int → Int → Int → Int → Int → ByteArray) (XF : Hid (∀ y m d h i s W, Lib.TabIs Tryd.prog W "internal/strconv.uint64pow10" .u64 Lib.pow10Tab → Calls Tryd.prog 26 #[.agg #[.int .i64 y, .int .i64 m, .int .i64 d, .int .i64 h, .int .i64 i, .int .i64 s]] W fun e w' => e = .returned (.string (F y m d h i s)) ∧ Below W.heap.size W w')) (G : Op.bytesLess (F ya ma da ha ia sa).toList (F yb mb db hb ib sb).toList = false) :
    Calls Tryd.prog 4 #[.int .i64 t, .int .i64 u] w fun e w' => e = .returned (.bool true) ∧ Below w.heap.size w w' := by
  have T0 := Lib.hid htab; clear htab
  have L := Lib.hid (fun w h => lives4 w h)
  go_enter Tryd.func4, Tryd.ntmps4
  go_wp2_with fail
  refine (L.out _ T0.out).mono ?_; rintro e w1 ⟨rfl, b1⟩
  have d1 : Below w.heap.size w w1 := below_step (by repeat (first | exact Below.refl _ _ | refine below_drewN ?_ _ | refine Below.drew ?_ | refine Below.setCell ?_ (by first | (simp; done) | (simp; omega) | omega) _ | refine Below.alloc ?_ (by first | (simp; done) | (simp; omega) | omega) _)) b1
  have B1 := Lib.hid d1
  clear b1 d1
  go_wp2_with fail
  refine (OA.out _).mono ?_; rintro e w2 ⟨rfl, b2⟩
  have d2 : Below w1.heap.size w1 w2 := below_step (by repeat (first | exact Below.refl _ _ | refine below_drewN ?_ _ | refine Below.drew ?_ | refine Below.setCell ?_ (by first | (simp; done) | (simp; omega) | omega) _ | refine Below.alloc ?_ (by first | (simp; done) | (simp; omega) | omega) _)) b2
  have B2 := Lib.hid (below_step B1.out d2)
  clear b2 d2 B1
  go_wp2_with fail
  refine (OB.out _).mono ?_; rintro e w3 ⟨rfl, b3⟩
  have d3 : Below w2.heap.size w2 w3 := below_step (by repeat (first | exact Below.refl _ _ | refine below_drewN ?_ _ | refine Below.drew ?_ | refine Below.setCell ?_ (by first | (simp; done) | (simp; omega) | omega) _ | refine Below.alloc ?_ (by first | (simp; done) | (simp; omega) | omega) _)) b3
  have B3 := Lib.hid (below_step B2.out d3)
  have aA := B2.out.size
  have A3 : Bk6 w3 (w2.heap.size) (.int .i64 ya) (.int .i64 ma) (.int .i64 da) (.int .i64 ha) (.int .i64 ia) (.int .i64 sa) := Bk6.of b3 (by simp <;> omega) (by intro j; simp [go_sem]) (by simp [go_sem]) (by simp [go_sem]) (by simp [go_sem]) (by simp [go_sem]) (by simp [go_sem]) (by simp [go_sem])
  clear b3 d3 B2
  have cA_b := A3.hb
  have cA_f := A3.fz
  have cA_0 := A3.k0
  have cA_1 := A3.k1
  have cA_2 := A3.k2
  have cA_3 := A3.k3
  have cA_4 := A3.k4
  have cA_5 := A3.k5
  go_wp2_with fail
  clear cA_b cA_f cA_0 cA_1 cA_2 cA_3 cA_4 cA_5
  refine (SP.out _).mono ?_; rintro e w4 ⟨rfl, b4⟩
  have d4 : Below w3.heap.size w3 w4 := below_step (by repeat (first | exact Below.refl _ _ | refine below_drewN ?_ _ | refine Below.drew ?_ | refine Below.setCell ?_ (by first | (simp; done) | (simp; omega) | omega) _ | refine Below.alloc ?_ (by first | (simp; done) | (simp; omega) | omega) _)) b4
  have B4 := Lib.hid (below_step B3.out d4)
  have A4 := A3.keep d4
  have aBb := B3.out.size
  have nBbA := Nat.ne_of_lt A3.hb
  have oBbA := Nat.ne_of_gt A3.hb
  have Bb4 : Bk6 w4 (w3.heap.size) (.int .i64 yb) (.int .i64 mb) (.int .i64 db) (.int .i64 hb) (.int .i64 ib) (.int .i64 sb) := Bk6.of b4 (by simp <;> omega) (by intro j; simp [go_sem]) (by simp [go_sem]) (by simp [go_sem]) (by simp [go_sem]) (by simp [go_sem]) (by simp [go_sem]) (by simp [go_sem])
  clear A3 b4 d4 B3
  have cA_b := A4.hb
  have cA_f := A4.fz
  have cA_0 := A4.k0
  have cA_1 := A4.k1
  have cA_2 := A4.k2
  have cA_3 := A4.k3
  have cA_4 := A4.k4
  have cA_5 := A4.k5
  have cBb_b := Bb4.hb
  have cBb_f := Bb4.fz
  have cBb_0 := Bb4.k0
  have cBb_1 := Bb4.k1
  have cBb_2 := Bb4.k2
  have cBb_3 := Bb4.k3
  have cBb_4 := Bb4.k4
  have cBb_5 := Bb4.k5
  go_wp2_with fail
  clear cA_b cA_f cA_0 cA_1 cA_2 cA_3 cA_4 cA_5 cBb_b cBb_f cBb_0 cBb_1 cBb_2 cBb_3 cBb_4 cBb_5
  refine (DA.out _).mono ?_; rintro e w5 ⟨rfl, b5⟩
  have d5 : Below w4.heap.size w4 w5 := below_step (by repeat (first | exact Below.refl _ _ | refine below_drewN ?_ _ | refine Below.drew ?_ | refine Below.setCell ?_ (by first | (simp; done) | (simp; omega) | omega) _ | refine Below.alloc ?_ (by first | (simp; done) | (simp; omega) | omega) _)) b5
  have B5 := Lib.hid (below_step B4.out d5)
  have A5 := A4.keep d5
  have Bb5 := Bb4.keep d5
  clear A4 Bb4 b5 d5 B4
  have cA_b := A5.hb
  have cA_f := A5.fz
  have cA_0 := A5.k0
  have cA_1 := A5.k1
  have cA_2 := A5.k2
  have cA_3 := A5.k3
  have cA_4 := A5.k4
  have cA_5 := A5.k5
  have cBb_b := Bb5.hb
  have cBb_f := Bb5.fz
  have cBb_0 := Bb5.k0
  have cBb_1 := Bb5.k1
  have cBb_2 := Bb5.k2
  have cBb_3 := Bb5.k3
  have cBb_4 := Bb5.k4
  have cBb_5 := Bb5.k5
  go_wp2_with fail
  clear cA_b cA_f cA_0 cA_1 cA_2 cA_3 cA_4 cA_5 cBb_b cBb_f cBb_0 cBb_1 cBb_2 cBb_3 cBb_4 cBb_5
  refine (CC.out _).mono ?_; rintro e w6 ⟨rfl, b6⟩
  have d6 : Below w5.heap.size w5 w6 := below_step (by repeat (first | exact Below.refl _ _ | refine below_drewN ?_ _ | refine Below.drew ?_ | refine Below.setCell ?_ (by first | (simp; done) | (simp; omega) | omega) _ | refine Below.alloc ?_ (by first | (simp; done) | (simp; omega) | omega) _)) b6
  have B6 := Lib.hid (below_step B5.out d6)
  have A6 := A5.keep d6
  have Bb6 := Bb5.keep d6
  clear A5 Bb5 b6 d6 B5
  have cA_b := A6.hb
  have cA_f := A6.fz
  have cA_0 := A6.k0
  have cA_1 := A6.k1
  have cA_2 := A6.k2
  have cA_3 := A6.k3
  have cA_4 := A6.k4
  have cA_5 := A6.k5
  have cBb_b := Bb6.hb
  have cBb_f := Bb6.fz
  have cBb_0 := Bb6.k0
  have cBb_1 := Bb6.k1
  have cBb_2 := Bb6.k2
  have cBb_3 := Bb6.k3
  have cBb_4 := Bb6.k4
  have cBb_5 := Bb6.k5
  go_wp2_with fail
  clear cA_b cA_f cA_0 cA_1 cA_2 cA_3 cA_4 cA_5 cBb_b cBb_f cBb_0 cBb_1 cBb_2 cBb_3 cBb_4 cBb_5
  refine wp_named ?_; intro w7 hw7
  have d7 : Below w6.heap.size w6 w7 := by rw [hw7]; exact (by repeat (first | exact Below.refl _ _ | refine below_drewN ?_ _ | refine Below.drew ?_ | refine Below.setCell ?_ (by first | (simp; done) | (simp; omega) | omega) _ | refine Below.alloc ?_ (by first | (simp; done) | (simp; omega) | omega) _))
  have B7 := Lib.hid (below_step B6.out d7)
  have A7 := A6.keep d7
  have Bb7 := Bb6.keep d7
  clear A6 Bb6 d7 hw7 B6
  have T1 := Lib.hid (var_keep B7.out T0.out)
  have qA_0 := cell_regrown A7.k0
  have qA_1 := cell_regrown A7.k1
  have qA_2 := cell_regrown A7.k2
  have qA_3 := cell_regrown A7.k3
  have qA_4 := cell_regrown A7.k4
  have qA_5 := cell_regrown A7.k5
  have qBb_0 := cell_regrown Bb7.k0
  have qBb_1 := cell_regrown Bb7.k1
  have qBb_2 := cell_regrown Bb7.k2
  have qBb_3 := cell_regrown Bb7.k3
  have qBb_4 := cell_regrown Bb7.k4
  have qBb_5 := cell_regrown Bb7.k5
  refine wp_region_qb (w := w7) (by kernel_rfl) (by kernel_rfl) (by repeat (first | exact Below.refl _ _ | refine below_drewN ?_ _ | refine Below.drew ?_ | refine Below.setCell ?_ (by first | (simp; done) | (simp; omega) | omega) _ | refine Below.alloc ?_ (by first | (simp; done) | (simp; omega) | omega) _)) ?_
  repeat (any_goals (first | go_big_quiet_step (first | (go_at_call 26; exact Calls.regrown_of (XF.out _ _ _ _ _ _ _ (var_keep (below_regrown _ _ _) T1.out)))) | quiet_step (first | (go_at_call 26; exact Calls.regrown_of (XF.out _ _ _ _ _ _ _ (var_keep (below_regrown _ _ _) T1.out))))))
  refine wpQuiet_nil ?_
  intro w8 hq
  have b8 : Below w7.heap.size w7 w8 := by obtain ⟨p, hq⟩ := hq; rw [hq]; exact below_regrown _ _ _
  clear hq qA_0 qA_1 qA_2 qA_3 qA_4 qA_5 qBb_0 qBb_1 qBb_2 qBb_3 qBb_4 qBb_5
  have d8 : Below w7.heap.size w7 w8 := below_step (by repeat (first | exact Below.refl _ _ | refine below_drewN ?_ _ | refine Below.drew ?_ | refine Below.setCell ?_ (by first | (simp; done) | (simp; omega) | omega) _ | refine Below.alloc ?_ (by first | (simp; done) | (simp; omega) | omega) _)) b8
  have B8 := Lib.hid (below_step B7.out d8)
  have A8 := A7.keep d8
  have Bb8 := Bb7.keep d8
  clear A7 Bb7 b8 d8 B7
  have cA_b := A8.hb
  have cA_f := A8.fz
  have cA_0 := A8.k0
  have cA_1 := A8.k1
  have cA_2 := A8.k2
  have cA_3 := A8.k3
  have cA_4 := A8.k4
  have cA_5 := A8.k5
  have cBb_b := Bb8.hb
  have cBb_f := Bb8.fz
  have cBb_0 := Bb8.k0
  have cBb_1 := Bb8.k1
  have cBb_2 := Bb8.k2
  have cBb_3 := Bb8.k3
  have cBb_4 := Bb8.k4
  have cBb_5 := Bb8.k5
  go_wp2_with fail
  clear cA_b cA_f cA_0 cA_1 cA_2 cA_3 cA_4 cA_5 cBb_b cBb_f cBb_0 cBb_1 cBb_2 cBb_3 cBb_4 cBb_5
  go_ret
  exact ⟨rfl, (by have hz := B8.out.size; repeat (first | exact B8.out | refine below_drewN ?_ _ | refine Below.drew ?_ | refine Below.setCell ?_ (by first | omega | (simp; done) | (simp; omega)) _ | refine Below.alloc ?_ (by first | omega | (simp; done) | (simp; omega)) _))⟩
set_option maxHeartbeats 4000000 in
set_option maxRecDepth 100000 in
theorem so_g2a (t u ya ma da ha ia sa yb mb db hb ib sb q r rb c : Int) (w : World) (htab : Lib.TabIs Tryd.prog w "internal/strconv.uint64pow10" .u64 Lib.pow10Tab) (h0a : 0 ≤ ha) (h1a : ha < 24) (i0a : 0 ≤ ia) (i1a : ia < 60) (s0a : 0 ≤ sa) (s1a : sa < 60) (h0b : 0 ≤ hb) (h1b : hb < 24) (i0b : 0 ≤ ib) (i1b : ib < 60) (s0b : 0 ≤ sb) (s1b : sb < 60) (q0 : -15329228 ≤ q) (q1 : q ≤ 13890537) (f1 : ha * 3600 + ia * 60 + sa = r) (f2 : hb * 3600 + ib * 60 + sb = rb) (f3 : q * 86400 + r = t) (c1 : ¬ c < 0) (c2 : (c == 0) = false) (tu : decide (t < u) = false) (n1 : ya < 0) (OA : Hid (∀ W, Calls Tryd.prog 22 #[.int .i64 t] W fun e w' => e = .returned (.tuple #[.agg #[.int .i64 ya, .int .i64 ma, .int .i64 da, .int .i64 ha, .int .i64 ia, .int .i64 sa], .int .i64 0]) ∧ Below W.heap.size W w')) (OB : Hid (∀ W, Calls Tryd.prog 22 #[.int .i64 u] W fun e w' => e = .returned (.tuple #[.agg #[.int .i64 yb, .int .i64 mb, .int .i64 db, .int .i64 hb, .int .i64 ib, .int .i64 sb], .int .i64 0]) ∧ Below W.heap.size W w')) (SP : Hid (∀ W, Calls Tryd.prog 23 #[.int .i64 t] W fun e w' => e = .returned (.tuple #[.int .i64 q, .int .i64 r]) ∧ Below W.heap.size W w')) (DA : Hid (∀ W, Calls Tryd.prog 24 #[.agg #[.int .i64 ya, .int .i64 ma, .int .i64 da]] W fun e w' => e = .returned (.tuple #[.int .i64 q, .int .i64 0]) ∧ Below W.heap.size W w')) (CC : Hid (∀ W, Calls Tryd.prog 25 #[.agg #[.int .i64 ya, .int .i64 ma, .int .i64 da], .agg #[.int .i64 yb, .int .i64 mb, .int .i64 db]] W fun e w' => e = .returned (.int .i64 c) ∧ Below W.heap.size W w'))  :
    Calls Tryd.prog 4 #[.int .i64 t, .int .i64 u] w fun e w' => e = .returned (.bool true) ∧ Below w.heap.size w w' := by
  have T0 := Lib.hid htab; clear htab
  have L := Lib.hid (fun w h => lives4 w h)
  go_enter Tryd.func4, Tryd.ntmps4
  go_wp2_with fail
  refine (L.out _ T0.out).mono ?_; rintro e w1 ⟨rfl, b1⟩
  have d1 : Below w.heap.size w w1 := below_step (by repeat (first | exact Below.refl _ _ | refine below_drewN ?_ _ | refine Below.drew ?_ | refine Below.setCell ?_ (by first | (simp; done) | (simp; omega) | omega) _ | refine Below.alloc ?_ (by first | (simp; done) | (simp; omega) | omega) _)) b1
  have B1 := Lib.hid d1
  clear b1 d1
  go_wp2_with fail
  refine (OA.out _).mono ?_; rintro e w2 ⟨rfl, b2⟩
  have d2 : Below w1.heap.size w1 w2 := below_step (by repeat (first | exact Below.refl _ _ | refine below_drewN ?_ _ | refine Below.drew ?_ | refine Below.setCell ?_ (by first | (simp; done) | (simp; omega) | omega) _ | refine Below.alloc ?_ (by first | (simp; done) | (simp; omega) | omega) _)) b2
  have B2 := Lib.hid (below_step B1.out d2)
  clear b2 d2 B1
  go_wp2_with fail
  refine (OB.out _).mono ?_; rintro e w3 ⟨rfl, b3⟩
  have d3 : Below w2.heap.size w2 w3 := below_step (by repeat (first | exact Below.refl _ _ | refine below_drewN ?_ _ | refine Below.drew ?_ | refine Below.setCell ?_ (by first | (simp; done) | (simp; omega) | omega) _ | refine Below.alloc ?_ (by first | (simp; done) | (simp; omega) | omega) _)) b3
  have B3 := Lib.hid (below_step B2.out d3)
  have aA := B2.out.size
  have A3 : Bk6 w3 (w2.heap.size) (.int .i64 ya) (.int .i64 ma) (.int .i64 da) (.int .i64 ha) (.int .i64 ia) (.int .i64 sa) := Bk6.of b3 (by simp <;> omega) (by intro j; simp [go_sem]) (by simp [go_sem]) (by simp [go_sem]) (by simp [go_sem]) (by simp [go_sem]) (by simp [go_sem]) (by simp [go_sem])
  clear b3 d3 B2
  have cA_b := A3.hb
  have cA_f := A3.fz
  have cA_0 := A3.k0
  have cA_1 := A3.k1
  have cA_2 := A3.k2
  have cA_3 := A3.k3
  have cA_4 := A3.k4
  have cA_5 := A3.k5
  go_wp2_with fail
  clear cA_b cA_f cA_0 cA_1 cA_2 cA_3 cA_4 cA_5
  refine (SP.out _).mono ?_; rintro e w4 ⟨rfl, b4⟩
  have d4 : Below w3.heap.size w3 w4 := below_step (by repeat (first | exact Below.refl _ _ | refine below_drewN ?_ _ | refine Below.drew ?_ | refine Below.setCell ?_ (by first | (simp; done) | (simp; omega) | omega) _ | refine Below.alloc ?_ (by first | (simp; done) | (simp; omega) | omega) _)) b4
  have B4 := Lib.hid (below_step B3.out d4)
  have A4 := A3.keep d4
  have aBb := B3.out.size
  have nBbA := Nat.ne_of_lt A3.hb
  have oBbA := Nat.ne_of_gt A3.hb
  have Bb4 : Bk6 w4 (w3.heap.size) (.int .i64 yb) (.int .i64 mb) (.int .i64 db) (.int .i64 hb) (.int .i64 ib) (.int .i64 sb) := Bk6.of b4 (by simp <;> omega) (by intro j; simp [go_sem]) (by simp [go_sem]) (by simp [go_sem]) (by simp [go_sem]) (by simp [go_sem]) (by simp [go_sem]) (by simp [go_sem])
  clear A3 b4 d4 B3
  have cA_b := A4.hb
  have cA_f := A4.fz
  have cA_0 := A4.k0
  have cA_1 := A4.k1
  have cA_2 := A4.k2
  have cA_3 := A4.k3
  have cA_4 := A4.k4
  have cA_5 := A4.k5
  have cBb_b := Bb4.hb
  have cBb_f := Bb4.fz
  have cBb_0 := Bb4.k0
  have cBb_1 := Bb4.k1
  have cBb_2 := Bb4.k2
  have cBb_3 := Bb4.k3
  have cBb_4 := Bb4.k4
  have cBb_5 := Bb4.k5
  go_wp2_with fail
  clear cA_b cA_f cA_0 cA_1 cA_2 cA_3 cA_4 cA_5 cBb_b cBb_f cBb_0 cBb_1 cBb_2 cBb_3 cBb_4 cBb_5
  refine (DA.out _).mono ?_; rintro e w5 ⟨rfl, b5⟩
  have d5 : Below w4.heap.size w4 w5 := below_step (by repeat (first | exact Below.refl _ _ | refine below_drewN ?_ _ | refine Below.drew ?_ | refine Below.setCell ?_ (by first | (simp; done) | (simp; omega) | omega) _ | refine Below.alloc ?_ (by first | (simp; done) | (simp; omega) | omega) _)) b5
  have B5 := Lib.hid (below_step B4.out d5)
  have A5 := A4.keep d5
  have Bb5 := Bb4.keep d5
  clear A4 Bb4 b5 d5 B4
  have cA_b := A5.hb
  have cA_f := A5.fz
  have cA_0 := A5.k0
  have cA_1 := A5.k1
  have cA_2 := A5.k2
  have cA_3 := A5.k3
  have cA_4 := A5.k4
  have cA_5 := A5.k5
  have cBb_b := Bb5.hb
  have cBb_f := Bb5.fz
  have cBb_0 := Bb5.k0
  have cBb_1 := Bb5.k1
  have cBb_2 := Bb5.k2
  have cBb_3 := Bb5.k3
  have cBb_4 := Bb5.k4
  have cBb_5 := Bb5.k5
  go_wp2_with fail
  clear cA_b cA_f cA_0 cA_1 cA_2 cA_3 cA_4 cA_5 cBb_b cBb_f cBb_0 cBb_1 cBb_2 cBb_3 cBb_4 cBb_5
  refine (CC.out _).mono ?_; rintro e w6 ⟨rfl, b6⟩
  have d6 : Below w5.heap.size w5 w6 := below_step (by repeat (first | exact Below.refl _ _ | refine below_drewN ?_ _ | refine Below.drew ?_ | refine Below.setCell ?_ (by first | (simp; done) | (simp; omega) | omega) _ | refine Below.alloc ?_ (by first | (simp; done) | (simp; omega) | omega) _)) b6
  have B6 := Lib.hid (below_step B5.out d6)
  have A6 := A5.keep d6
  have Bb6 := Bb5.keep d6
  clear A5 Bb5 b6 d6 B5
  have cA_b := A6.hb
  have cA_f := A6.fz
  have cA_0 := A6.k0
  have cA_1 := A6.k1
  have cA_2 := A6.k2
  have cA_3 := A6.k3
  have cA_4 := A6.k4
  have cA_5 := A6.k5
  have cBb_b := Bb6.hb
  have cBb_f := Bb6.fz
  have cBb_0 := Bb6.k0
  have cBb_1 := Bb6.k1
  have cBb_2 := Bb6.k2
  have cBb_3 := Bb6.k3
  have cBb_4 := Bb6.k4
  have cBb_5 := Bb6.k5
  go_wp2_with fail
  clear cA_b cA_f cA_0 cA_1 cA_2 cA_3 cA_4 cA_5 cBb_b cBb_f cBb_0 cBb_1 cBb_2 cBb_3 cBb_4 cBb_5
  go_ret
  exact ⟨rfl, (by have hz := B6.out.size; repeat (first | exact B6.out | refine below_drewN ?_ _ | refine Below.drew ?_ | refine Below.setCell ?_ (by first | omega | (simp; done) | (simp; omega)) _ | refine Below.alloc ?_ (by first | omega | (simp; done) | (simp; omega)) _))⟩
set_option maxHeartbeats 4000000 in
set_option maxRecDepth 100000 in
theorem so_g2b (t u ya ma da ha ia sa yb mb db hb ib sb q r rb c : Int) (w : World) (htab : Lib.TabIs Tryd.prog w "internal/strconv.uint64pow10" .u64 Lib.pow10Tab) (h0a : 0 ≤ ha) (h1a : ha < 24) (i0a : 0 ≤ ia) (i1a : ia < 60) (s0a : 0 ≤ sa) (s1a : sa < 60) (h0b : 0 ≤ hb) (h1b : hb < 24) (i0b : 0 ≤ ib) (i1b : ib < 60) (s0b : 0 ≤ sb) (s1b : sb < 60) (q0 : -15329228 ≤ q) (q1 : q ≤ 13890537) (f1 : ha * 3600 + ia * 60 + sa = r) (f2 : hb * 3600 + ib * 60 + sb = rb) (f3 : q * 86400 + r = t) (c1 : ¬ c < 0) (c2 : (c == 0) = false) (tu : decide (t < u) = false) (n1 : ¬ ya < 0) (n2 : 9999 < ya) (OA : Hid (∀ W, Calls Tryd.prog 22 #[.int .i64 t] W fun e w' => e = .returned (.tuple #[.agg #[.int .i64 ya, .int .i64 ma, .int .i64 da, .int .i64 ha, .int .i64 ia, .int .i64 sa], .int .i64 0]) ∧ Below W.heap.size W w')) (OB : Hid (∀ W, Calls Tryd.prog 22 #[.int .i64 u] W fun e w' => e = .returned (.tuple #[.agg #[.int .i64 yb, .int .i64 mb, .int .i64 db, .int .i64 hb, .int .i64 ib, .int .i64 sb], .int .i64 0]) ∧ Below W.heap.size W w')) (SP : Hid (∀ W, Calls Tryd.prog 23 #[.int .i64 t] W fun e w' => e = .returned (.tuple #[.int .i64 q, .int .i64 r]) ∧ Below W.heap.size W w')) (DA : Hid (∀ W, Calls Tryd.prog 24 #[.agg #[.int .i64 ya, .int .i64 ma, .int .i64 da]] W fun e w' => e = .returned (.tuple #[.int .i64 q, .int .i64 0]) ∧ Below W.heap.size W w')) (CC : Hid (∀ W, Calls Tryd.prog 25 #[.agg #[.int .i64 ya, .int .i64 ma, .int .i64 da], .agg #[.int .i64 yb, .int .i64 mb, .int .i64 db]] W fun e w' => e = .returned (.int .i64 c) ∧ Below W.heap.size W w'))  :
    Calls Tryd.prog 4 #[.int .i64 t, .int .i64 u] w fun e w' => e = .returned (.bool true) ∧ Below w.heap.size w w' := by
  have T0 := Lib.hid htab; clear htab
  have L := Lib.hid (fun w h => lives4 w h)
  go_enter Tryd.func4, Tryd.ntmps4
  go_wp2_with fail
  refine (L.out _ T0.out).mono ?_; rintro e w1 ⟨rfl, b1⟩
  have d1 : Below w.heap.size w w1 := below_step (by repeat (first | exact Below.refl _ _ | refine below_drewN ?_ _ | refine Below.drew ?_ | refine Below.setCell ?_ (by first | (simp; done) | (simp; omega) | omega) _ | refine Below.alloc ?_ (by first | (simp; done) | (simp; omega) | omega) _)) b1
  have B1 := Lib.hid d1
  clear b1 d1
  go_wp2_with fail
  refine (OA.out _).mono ?_; rintro e w2 ⟨rfl, b2⟩
  have d2 : Below w1.heap.size w1 w2 := below_step (by repeat (first | exact Below.refl _ _ | refine below_drewN ?_ _ | refine Below.drew ?_ | refine Below.setCell ?_ (by first | (simp; done) | (simp; omega) | omega) _ | refine Below.alloc ?_ (by first | (simp; done) | (simp; omega) | omega) _)) b2
  have B2 := Lib.hid (below_step B1.out d2)
  clear b2 d2 B1
  go_wp2_with fail
  refine (OB.out _).mono ?_; rintro e w3 ⟨rfl, b3⟩
  have d3 : Below w2.heap.size w2 w3 := below_step (by repeat (first | exact Below.refl _ _ | refine below_drewN ?_ _ | refine Below.drew ?_ | refine Below.setCell ?_ (by first | (simp; done) | (simp; omega) | omega) _ | refine Below.alloc ?_ (by first | (simp; done) | (simp; omega) | omega) _)) b3
  have B3 := Lib.hid (below_step B2.out d3)
  have aA := B2.out.size
  have A3 : Bk6 w3 (w2.heap.size) (.int .i64 ya) (.int .i64 ma) (.int .i64 da) (.int .i64 ha) (.int .i64 ia) (.int .i64 sa) := Bk6.of b3 (by simp <;> omega) (by intro j; simp [go_sem]) (by simp [go_sem]) (by simp [go_sem]) (by simp [go_sem]) (by simp [go_sem]) (by simp [go_sem]) (by simp [go_sem])
  clear b3 d3 B2
  have cA_b := A3.hb
  have cA_f := A3.fz
  have cA_0 := A3.k0
  have cA_1 := A3.k1
  have cA_2 := A3.k2
  have cA_3 := A3.k3
  have cA_4 := A3.k4
  have cA_5 := A3.k5
  go_wp2_with fail
  clear cA_b cA_f cA_0 cA_1 cA_2 cA_3 cA_4 cA_5
  refine (SP.out _).mono ?_; rintro e w4 ⟨rfl, b4⟩
  have d4 : Below w3.heap.size w3 w4 := below_step (by repeat (first | exact Below.refl _ _ | refine below_drewN ?_ _ | refine Below.drew ?_ | refine Below.setCell ?_ (by first | (simp; done) | (simp; omega) | omega) _ | refine Below.alloc ?_ (by first | (simp; done) | (simp; omega) | omega) _)) b4
  have B4 := Lib.hid (below_step B3.out d4)
  have A4 := A3.keep d4
  have aBb := B3.out.size
  have nBbA := Nat.ne_of_lt A3.hb
  have oBbA := Nat.ne_of_gt A3.hb
  have Bb4 : Bk6 w4 (w3.heap.size) (.int .i64 yb) (.int .i64 mb) (.int .i64 db) (.int .i64 hb) (.int .i64 ib) (.int .i64 sb) := Bk6.of b4 (by simp <;> omega) (by intro j; simp [go_sem]) (by simp [go_sem]) (by simp [go_sem]) (by simp [go_sem]) (by simp [go_sem]) (by simp [go_sem]) (by simp [go_sem])
  clear A3 b4 d4 B3
  have cA_b := A4.hb
  have cA_f := A4.fz
  have cA_0 := A4.k0
  have cA_1 := A4.k1
  have cA_2 := A4.k2
  have cA_3 := A4.k3
  have cA_4 := A4.k4
  have cA_5 := A4.k5
  have cBb_b := Bb4.hb
  have cBb_f := Bb4.fz
  have cBb_0 := Bb4.k0
  have cBb_1 := Bb4.k1
  have cBb_2 := Bb4.k2
  have cBb_3 := Bb4.k3
  have cBb_4 := Bb4.k4
  have cBb_5 := Bb4.k5
  go_wp2_with fail
  clear cA_b cA_f cA_0 cA_1 cA_2 cA_3 cA_4 cA_5 cBb_b cBb_f cBb_0 cBb_1 cBb_2 cBb_3 cBb_4 cBb_5
  refine (DA.out _).mono ?_; rintro e w5 ⟨rfl, b5⟩
  have d5 : Below w4.heap.size w4 w5 := below_step (by repeat (first | exact Below.refl _ _ | refine below_drewN ?_ _ | refine Below.drew ?_ | refine Below.setCell ?_ (by first | (simp; done) | (simp; omega) | omega) _ | refine Below.alloc ?_ (by first | (simp; done) | (simp; omega) | omega) _)) b5
  have B5 := Lib.hid (below_step B4.out d5)
  have A5 := A4.keep d5
  have Bb5 := Bb4.keep d5
  clear A4 Bb4 b5 d5 B4
  have cA_b := A5.hb
  have cA_f := A5.fz
  have cA_0 := A5.k0
  have cA_1 := A5.k1
  have cA_2 := A5.k2
  have cA_3 := A5.k3
  have cA_4 := A5.k4
  have cA_5 := A5.k5
  have cBb_b := Bb5.hb
  have cBb_f := Bb5.fz
  have cBb_0 := Bb5.k0
  have cBb_1 := Bb5.k1
  have cBb_2 := Bb5.k2
  have cBb_3 := Bb5.k3
  have cBb_4 := Bb5.k4
  have cBb_5 := Bb5.k5
  go_wp2_with fail
  clear cA_b cA_f cA_0 cA_1 cA_2 cA_3 cA_4 cA_5 cBb_b cBb_f cBb_0 cBb_1 cBb_2 cBb_3 cBb_4 cBb_5
  refine (CC.out _).mono ?_; rintro e w6 ⟨rfl, b6⟩
  have d6 : Below w5.heap.size w5 w6 := below_step (by repeat (first | exact Below.refl _ _ | refine below_drewN ?_ _ | refine Below.drew ?_ | refine Below.setCell ?_ (by first | (simp; done) | (simp; omega) | omega) _ | refine Below.alloc ?_ (by first | (simp; done) | (simp; omega) | omega) _)) b6
  have B6 := Lib.hid (below_step B5.out d6)
  have A6 := A5.keep d6
  have Bb6 := Bb5.keep d6
  clear A5 Bb5 b6 d6 B5
  have cA_b := A6.hb
  have cA_f := A6.fz
  have cA_0 := A6.k0
  have cA_1 := A6.k1
  have cA_2 := A6.k2
  have cA_3 := A6.k3
  have cA_4 := A6.k4
  have cA_5 := A6.k5
  have cBb_b := Bb6.hb
  have cBb_f := Bb6.fz
  have cBb_0 := Bb6.k0
  have cBb_1 := Bb6.k1
  have cBb_2 := Bb6.k2
  have cBb_3 := Bb6.k3
  have cBb_4 := Bb6.k4
  have cBb_5 := Bb6.k5
  go_wp2_with fail
  clear cA_b cA_f cA_0 cA_1 cA_2 cA_3 cA_4 cA_5 cBb_b cBb_f cBb_0 cBb_1 cBb_2 cBb_3 cBb_4 cBb_5
  go_ret
  exact ⟨rfl, (by have hz := B6.out.size; repeat (first | exact B6.out | refine below_drewN ?_ _ | refine Below.drew ?_ | refine Below.setCell ?_ (by first | omega | (simp; done) | (simp; omega)) _ | refine Below.alloc ?_ (by first | omega | (simp; done) | (simp; omega)) _))⟩
set_option maxHeartbeats 4000000 in
set_option maxRecDepth 100000 in
theorem so_g2c (t u ya ma da ha ia sa yb mb db hb ib sb q r rb c : Int) (w : World) (htab : Lib.TabIs Tryd.prog w "internal/strconv.uint64pow10" .u64 Lib.pow10Tab) (h0a : 0 ≤ ha) (h1a : ha < 24) (i0a : 0 ≤ ia) (i1a : ia < 60) (s0a : 0 ≤ sa) (s1a : sa < 60) (h0b : 0 ≤ hb) (h1b : hb < 24) (i0b : 0 ≤ ib) (i1b : ib < 60) (s0b : 0 ≤ sb) (s1b : sb < 60) (q0 : -15329228 ≤ q) (q1 : q ≤ 13890537) (f1 : ha * 3600 + ia * 60 + sa = r) (f2 : hb * 3600 + ib * 60 + sb = rb) (f3 : q * 86400 + r = t) (c1 : ¬ c < 0) (c2 : (c == 0) = false) (tu : decide (t < u) = false) (n1 : ¬ ya < 0) (n2 : ¬ 9999 < ya) (n3 : yb < 0) (OA : Hid (∀ W, Calls Tryd.prog 22 #[.int .i64 t] W fun e w' => e = .returned (.tuple #[.agg #[.int .i64 ya, .int .i64 ma, .int .i64 da, .int .i64 ha, .int .i64 ia, .int .i64 sa], .int .i64 0]) ∧ Below W.heap.size W w')) (OB : Hid (∀ W, Calls Tryd.prog 22 #[.int .i64 u] W fun e w' => e = .returned (.tuple #[.agg #[.int .i64 yb, .int .i64 mb, .int .i64 db, .int .i64 hb, .int .i64 ib, .int .i64 sb], .int .i64 0]) ∧ Below W.heap.size W w')) (SP : Hid (∀ W, Calls Tryd.prog 23 #[.int .i64 t] W fun e w' => e = .returned (.tuple #[.int .i64 q, .int .i64 r]) ∧ Below W.heap.size W w')) (DA : Hid (∀ W, Calls Tryd.prog 24 #[.agg #[.int .i64 ya, .int .i64 ma, .int .i64 da]] W fun e w' => e = .returned (.tuple #[.int .i64 q, .int .i64 0]) ∧ Below W.heap.size W w')) (CC : Hid (∀ W, Calls Tryd.prog 25 #[.agg #[.int .i64 ya, .int .i64 ma, .int .i64 da], .agg #[.int .i64 yb, .int .i64 mb, .int .i64 db]] W fun e w' => e = .returned (.int .i64 c) ∧ Below W.heap.size W w'))  :
    Calls Tryd.prog 4 #[.int .i64 t, .int .i64 u] w fun e w' => e = .returned (.bool true) ∧ Below w.heap.size w w' := by
  have T0 := Lib.hid htab; clear htab
  have L := Lib.hid (fun w h => lives4 w h)
  go_enter Tryd.func4, Tryd.ntmps4
  go_wp2_with fail
  refine (L.out _ T0.out).mono ?_; rintro e w1 ⟨rfl, b1⟩
  have d1 : Below w.heap.size w w1 := below_step (by repeat (first | exact Below.refl _ _ | refine below_drewN ?_ _ | refine Below.drew ?_ | refine Below.setCell ?_ (by first | (simp; done) | (simp; omega) | omega) _ | refine Below.alloc ?_ (by first | (simp; done) | (simp; omega) | omega) _)) b1
  have B1 := Lib.hid d1
  clear b1 d1
  go_wp2_with fail
  refine (OA.out _).mono ?_; rintro e w2 ⟨rfl, b2⟩
  have d2 : Below w1.heap.size w1 w2 := below_step (by repeat (first | exact Below.refl _ _ | refine below_drewN ?_ _ | refine Below.drew ?_ | refine Below.setCell ?_ (by first | (simp; done) | (simp; omega) | omega) _ | refine Below.alloc ?_ (by first | (simp; done) | (simp; omega) | omega) _)) b2
  have B2 := Lib.hid (below_step B1.out d2)
  clear b2 d2 B1
  go_wp2_with fail
  refine (OB.out _).mono ?_; rintro e w3 ⟨rfl, b3⟩
  have d3 : Below w2.heap.size w2 w3 := below_step (by repeat (first | exact Below.refl _ _ | refine below_drewN ?_ _ | refine Below.drew ?_ | refine Below.setCell ?_ (by first | (simp; done) | (simp; omega) | omega) _ | refine Below.alloc ?_ (by first | (simp; done) | (simp; omega) | omega) _)) b3
  have B3 := Lib.hid (below_step B2.out d3)
  have aA := B2.out.size
  have A3 : Bk6 w3 (w2.heap.size) (.int .i64 ya) (.int .i64 ma) (.int .i64 da) (.int .i64 ha) (.int .i64 ia) (.int .i64 sa) := Bk6.of b3 (by simp <;> omega) (by intro j; simp [go_sem]) (by simp [go_sem]) (by simp [go_sem]) (by simp [go_sem]) (by simp [go_sem]) (by simp [go_sem]) (by simp [go_sem])
  clear b3 d3 B2
  have cA_b := A3.hb
  have cA_f := A3.fz
  have cA_0 := A3.k0
  have cA_1 := A3.k1
  have cA_2 := A3.k2
  have cA_3 := A3.k3
  have cA_4 := A3.k4
  have cA_5 := A3.k5
  go_wp2_with fail
  clear cA_b cA_f cA_0 cA_1 cA_2 cA_3 cA_4 cA_5
  refine (SP.out _).mono ?_; rintro e w4 ⟨rfl, b4⟩
  have d4 : Below w3.heap.size w3 w4 := below_step (by repeat (first | exact Below.refl _ _ | refine below_drewN ?_ _ | refine Below.drew ?_ | refine Below.setCell ?_ (by first | (simp; done) | (simp; omega) | omega) _ | refine Below.alloc ?_ (by first | (simp; done) | (simp; omega) | omega) _)) b4
  have B4 := Lib.hid (below_step B3.out d4)
  have A4 := A3.keep d4
  have aBb := B3.out.size
  have nBbA := Nat.ne_of_lt A3.hb
  have oBbA := Nat.ne_of_gt A3.hb
  have Bb4 : Bk6 w4 (w3.heap.size) (.int .i64 yb) (.int .i64 mb) (.int .i64 db) (.int .i64 hb) (.int .i64 ib) (.int .i64 sb) := Bk6.of b4 (by simp <;> omega) (by intro j; simp [go_sem]) (by simp [go_sem]) (by simp [go_sem]) (by simp [go_sem]) (by simp [go_sem]) (by simp [go_sem]) (by simp [go_sem])
  clear A3 b4 d4 B3
  have cA_b := A4.hb
  have cA_f := A4.fz
  have cA_0 := A4.k0
  have cA_1 := A4.k1
  have cA_2 := A4.k2
  have cA_3 := A4.k3
  have cA_4 := A4.k4
  have cA_5 := A4.k5
  have cBb_b := Bb4.hb
  have cBb_f := Bb4.fz
  have cBb_0 := Bb4.k0
  have cBb_1 := Bb4.k1
  have cBb_2 := Bb4.k2
  have cBb_3 := Bb4.k3
  have cBb_4 := Bb4.k4
  have cBb_5 := Bb4.k5
  go_wp2_with fail
  clear cA_b cA_f cA_0 cA_1 cA_2 cA_3 cA_4 cA_5 cBb_b cBb_f cBb_0 cBb_1 cBb_2 cBb_3 cBb_4 cBb_5
  refine (DA.out _).mono ?_; rintro e w5 ⟨rfl, b5⟩
  have d5 : Below w4.heap.size w4 w5 := below_step (by repeat (first | exact Below.refl _ _ | refine below_drewN ?_ _ | refine Below.drew ?_ | refine Below.setCell ?_ (by first | (simp; done) | (simp; omega) | omega) _ | refine Below.alloc ?_ (by first | (simp; done) | (simp; omega) | omega) _)) b5
  have B5 := Lib.hid (below_step B4.out d5)
  have A5 := A4.keep d5
  have Bb5 := Bb4.keep d5
  clear A4 Bb4 b5 d5 B4
  have cA_b := A5.hb
  have cA_f := A5.fz
  have cA_0 := A5.k0
  have cA_1 := A5.k1
  have cA_2 := A5.k2
  have cA_3 := A5.k3
  have cA_4 := A5.k4
  have cA_5 := A5.k5
  have cBb_b := Bb5.hb
  have cBb_f := Bb5.fz
  have cBb_0 := Bb5.k0
  have cBb_1 := Bb5.k1
  have cBb_2 := Bb5.k2
  have cBb_3 := Bb5.k3
  have cBb_4 := Bb5.k4
  have cBb_5 := Bb5.k5
  go_wp2_with fail
  clear cA_b cA_f cA_0 cA_1 cA_2 cA_3 cA_4 cA_5 cBb_b cBb_f cBb_0 cBb_1 cBb_2 cBb_3 cBb_4 cBb_5
  refine (CC.out _).mono ?_; rintro e w6 ⟨rfl, b6⟩
  have d6 : Below w5.heap.size w5 w6 := below_step (by repeat (first | exact Below.refl _ _ | refine below_drewN ?_ _ | refine Below.drew ?_ | refine Below.setCell ?_ (by first | (simp; done) | (simp; omega) | omega) _ | refine Below.alloc ?_ (by first | (simp; done) | (simp; omega) | omega) _)) b6
  have B6 := Lib.hid (below_step B5.out d6)
  have A6 := A5.keep d6
  have Bb6 := Bb5.keep d6
  clear A5 Bb5 b6 d6 B5
  have cA_b := A6.hb
  have cA_f := A6.fz
  have cA_0 := A6.k0
  have cA_1 := A6.k1
  have cA_2 := A6.k2
  have cA_3 := A6.k3
  have cA_4 := A6.k4
  have cA_5 := A6.k5
  have cBb_b := Bb6.hb
  have cBb_f := Bb6.fz
  have cBb_0 := Bb6.k0
  have cBb_1 := Bb6.k1
  have cBb_2 := Bb6.k2
  have cBb_3 := Bb6.k3
  have cBb_4 := Bb6.k4
  have cBb_5 := Bb6.k5
  go_wp2_with fail
  clear cA_b cA_f cA_0 cA_1 cA_2 cA_3 cA_4 cA_5 cBb_b cBb_f cBb_0 cBb_1 cBb_2 cBb_3 cBb_4 cBb_5
  go_ret
  exact ⟨rfl, (by have hz := B6.out.size; repeat (first | exact B6.out | refine below_drewN ?_ _ | refine Below.drew ?_ | refine Below.setCell ?_ (by first | omega | (simp; done) | (simp; omega)) _ | refine Below.alloc ?_ (by first | omega | (simp; done) | (simp; omega)) _))⟩
set_option maxHeartbeats 4000000 in
set_option maxRecDepth 100000 in
theorem so_g2d (t u ya ma da ha ia sa yb mb db hb ib sb q r rb c : Int) (w : World) (htab : Lib.TabIs Tryd.prog w "internal/strconv.uint64pow10" .u64 Lib.pow10Tab) (h0a : 0 ≤ ha) (h1a : ha < 24) (i0a : 0 ≤ ia) (i1a : ia < 60) (s0a : 0 ≤ sa) (s1a : sa < 60) (h0b : 0 ≤ hb) (h1b : hb < 24) (i0b : 0 ≤ ib) (i1b : ib < 60) (s0b : 0 ≤ sb) (s1b : sb < 60) (q0 : -15329228 ≤ q) (q1 : q ≤ 13890537) (f1 : ha * 3600 + ia * 60 + sa = r) (f2 : hb * 3600 + ib * 60 + sb = rb) (f3 : q * 86400 + r = t) (c1 : ¬ c < 0) (c2 : (c == 0) = false) (tu : decide (t < u) = false) (n1 : ¬ ya < 0) (n2 : ¬ 9999 < ya) (n3 : ¬ yb < 0) (n4 : 9999 < yb) (OA : Hid (∀ W, Calls Tryd.prog 22 #[.int .i64 t] W fun e w' => e = .returned (.tuple #[.agg #[.int .i64 ya, .int .i64 ma, .int .i64 da, .int .i64 ha, .int .i64 ia, .int .i64 sa], .int .i64 0]) ∧ Below W.heap.size W w')) (OB : Hid (∀ W, Calls Tryd.prog 22 #[.int .i64 u] W fun e w' => e = .returned (.tuple #[.agg #[.int .i64 yb, .int .i64 mb, .int .i64 db, .int .i64 hb, .int .i64 ib, .int .i64 sb], .int .i64 0]) ∧ Below W.heap.size W w')) (SP : Hid (∀ W, Calls Tryd.prog 23 #[.int .i64 t] W fun e w' => e = .returned (.tuple #[.int .i64 q, .int .i64 r]) ∧ Below W.heap.size W w')) (DA : Hid (∀ W, Calls Tryd.prog 24 #[.agg #[.int .i64 ya, .int .i64 ma, .int .i64 da]] W fun e w' => e = .returned (.tuple #[.int .i64 q, .int .i64 0]) ∧ Below W.heap.size W w')) (CC : Hid (∀ W, Calls Tryd.prog 25 #[.agg #[.int .i64 ya, .int .i64 ma, .int .i64 da], .agg #[.int .i64 yb, .int .i64 mb, .int .i64 db]] W fun e w' => e = .returned (.int .i64 c) ∧ Below W.heap.size W w'))  :
    Calls Tryd.prog 4 #[.int .i64 t, .int .i64 u] w fun e w' => e = .returned (.bool true) ∧ Below w.heap.size w w' := by
  have T0 := Lib.hid htab; clear htab
  have L := Lib.hid (fun w h => lives4 w h)
  go_enter Tryd.func4, Tryd.ntmps4
  go_wp2_with fail
  refine (L.out _ T0.out).mono ?_; rintro e w1 ⟨rfl, b1⟩
  have d1 : Below w.heap.size w w1 := below_step (by repeat (first | exact Below.refl _ _ | refine below_drewN ?_ _ | refine Below.drew ?_ | refine Below.setCell ?_ (by first | (simp; done) | (simp; omega) | omega) _ | refine Below.alloc ?_ (by first | (simp; done) | (simp; omega) | omega) _)) b1
  have B1 := Lib.hid d1
  clear b1 d1
  go_wp2_with fail
  refine (OA.out _).mono ?_; rintro e w2 ⟨rfl, b2⟩
  have d2 : Below w1.heap.size w1 w2 := below_step (by repeat (first | exact Below.refl _ _ | refine below_drewN ?_ _ | refine Below.drew ?_ | refine Below.setCell ?_ (by first | (simp; done) | (simp; omega) | omega) _ | refine Below.alloc ?_ (by first | (simp; done) | (simp; omega) | omega) _)) b2
  have B2 := Lib.hid (below_step B1.out d2)
  clear b2 d2 B1
  go_wp2_with fail
  refine (OB.out _).mono ?_; rintro e w3 ⟨rfl, b3⟩
  have d3 : Below w2.heap.size w2 w3 := below_step (by repeat (first | exact Below.refl _ _ | refine below_drewN ?_ _ | refine Below.drew ?_ | refine Below.setCell ?_ (by first | (simp; done) | (simp; omega) | omega) _ | refine Below.alloc ?_ (by first | (simp; done) | (simp; omega) | omega) _)) b3
  have B3 := Lib.hid (below_step B2.out d3)
  have aA := B2.out.size
  have A3 : Bk6 w3 (w2.heap.size) (.int .i64 ya) (.int .i64 ma) (.int .i64 da) (.int .i64 ha) (.int .i64 ia) (.int .i64 sa) := Bk6.of b3 (by simp <;> omega) (by intro j; simp [go_sem]) (by simp [go_sem]) (by simp [go_sem]) (by simp [go_sem]) (by simp [go_sem]) (by simp [go_sem]) (by simp [go_sem])
  clear b3 d3 B2
  have cA_b := A3.hb
  have cA_f := A3.fz
  have cA_0 := A3.k0
  have cA_1 := A3.k1
  have cA_2 := A3.k2
  have cA_3 := A3.k3
  have cA_4 := A3.k4
  have cA_5 := A3.k5
  go_wp2_with fail
  clear cA_b cA_f cA_0 cA_1 cA_2 cA_3 cA_4 cA_5
  refine (SP.out _).mono ?_; rintro e w4 ⟨rfl, b4⟩
  have d4 : Below w3.heap.size w3 w4 := below_step (by repeat (first | exact Below.refl _ _ | refine below_drewN ?_ _ | refine Below.drew ?_ | refine Below.setCell ?_ (by first | (simp; done) | (simp; omega) | omega) _ | refine Below.alloc ?_ (by first | (simp; done) | (simp; omega) | omega) _)) b4
  have B4 := Lib.hid (below_step B3.out d4)
  have A4 := A3.keep d4
  have aBb := B3.out.size
  have nBbA := Nat.ne_of_lt A3.hb
  have oBbA := Nat.ne_of_gt A3.hb
  have Bb4 : Bk6 w4 (w3.heap.size) (.int .i64 yb) (.int .i64 mb) (.int .i64 db) (.int .i64 hb) (.int .i64 ib) (.int .i64 sb) := Bk6.of b4 (by simp <;> omega) (by intro j; simp [go_sem]) (by simp [go_sem]) (by simp [go_sem]) (by simp [go_sem]) (by simp [go_sem]) (by simp [go_sem]) (by simp [go_sem])
  clear A3 b4 d4 B3
  have cA_b := A4.hb
  have cA_f := A4.fz
  have cA_0 := A4.k0
  have cA_1 := A4.k1
  have cA_2 := A4.k2
  have cA_3 := A4.k3
  have cA_4 := A4.k4
  have cA_5 := A4.k5
  have cBb_b := Bb4.hb
  have cBb_f := Bb4.fz
  have cBb_0 := Bb4.k0
  have cBb_1 := Bb4.k1
  have cBb_2 := Bb4.k2
  have cBb_3 := Bb4.k3
  have cBb_4 := Bb4.k4
  have cBb_5 := Bb4.k5
  go_wp2_with fail
  clear cA_b cA_f cA_0 cA_1 cA_2 cA_3 cA_4 cA_5 cBb_b cBb_f cBb_0 cBb_1 cBb_2 cBb_3 cBb_4 cBb_5
  refine (DA.out _).mono ?_; rintro e w5 ⟨rfl, b5⟩
  have d5 : Below w4.heap.size w4 w5 := below_step (by repeat (first | exact Below.refl _ _ | refine below_drewN ?_ _ | refine Below.drew ?_ | refine Below.setCell ?_ (by first | (simp; done) | (simp; omega) | omega) _ | refine Below.alloc ?_ (by first | (simp; done) | (simp; omega) | omega) _)) b5
  have B5 := Lib.hid (below_step B4.out d5)
  have A5 := A4.keep d5
  have Bb5 := Bb4.keep d5
  clear A4 Bb4 b5 d5 B4
  have cA_b := A5.hb
  have cA_f := A5.fz
  have cA_0 := A5.k0
  have cA_1 := A5.k1
  have cA_2 := A5.k2
  have cA_3 := A5.k3
  have cA_4 := A5.k4
  have cA_5 := A5.k5
  have cBb_b := Bb5.hb
  have cBb_f := Bb5.fz
  have cBb_0 := Bb5.k0
  have cBb_1 := Bb5.k1
  have cBb_2 := Bb5.k2
  have cBb_3 := Bb5.k3
  have cBb_4 := Bb5.k4
  have cBb_5 := Bb5.k5
  go_wp2_with fail
  clear cA_b cA_f cA_0 cA_1 cA_2 cA_3 cA_4 cA_5 cBb_b cBb_f cBb_0 cBb_1 cBb_2 cBb_3 cBb_4 cBb_5
  refine (CC.out _).mono ?_; rintro e w6 ⟨rfl, b6⟩
  have d6 : Below w5.heap.size w5 w6 := below_step (by repeat (first | exact Below.refl _ _ | refine below_drewN ?_ _ | refine Below.drew ?_ | refine Below.setCell ?_ (by first | (simp; done) | (simp; omega) | omega) _ | refine Below.alloc ?_ (by first | (simp; done) | (simp; omega) | omega) _)) b6
  have B6 := Lib.hid (below_step B5.out d6)
  have A6 := A5.keep d6
  have Bb6 := Bb5.keep d6
  clear A5 Bb5 b6 d6 B5
  have cA_b := A6.hb
  have cA_f := A6.fz
  have cA_0 := A6.k0
  have cA_1 := A6.k1
  have cA_2 := A6.k2
  have cA_3 := A6.k3
  have cA_4 := A6.k4
  have cA_5 := A6.k5
  have cBb_b := Bb6.hb
  have cBb_f := Bb6.fz
  have cBb_0 := Bb6.k0
  have cBb_1 := Bb6.k1
  have cBb_2 := Bb6.k2
  have cBb_3 := Bb6.k3
  have cBb_4 := Bb6.k4
  have cBb_5 := Bb6.k5
  go_wp2_with fail
  clear cA_b cA_f cA_0 cA_1 cA_2 cA_3 cA_4 cA_5 cBb_b cBb_f cBb_0 cBb_1 cBb_2 cBb_3 cBb_4 cBb_5
  go_ret
  exact ⟨rfl, (by have hz := B6.out.size; repeat (first | exact B6.out | refine below_drewN ?_ _ | refine Below.drew ?_ | refine Below.setCell ?_ (by first | omega | (simp; done) | (simp; omega)) _ | refine Below.alloc ?_ (by first | omega | (simp; done) | (simp; omega)) _))⟩
set_option maxHeartbeats 4000000 in
set_option maxRecDepth 100000 in
theorem so_g2i (t u ya ma da ha ia sa yb mb db hb ib sb q r rb c : Int) (w : World) (htab : Lib.TabIs Tryd.prog w "internal/strconv.uint64pow10" .u64 Lib.pow10Tab) (h0a : 0 ≤ ha) (h1a : ha < 24) (i0a : 0 ≤ ia) (i1a : ia < 60) (s0a : 0 ≤ sa) (s1a : sa < 60) (h0b : 0 ≤ hb) (h1b : hb < 24) (i0b : 0 ≤ ib) (i1b : ib < 60) (s0b : 0 ≤ sb) (s1b : sb < 60) (q0 : -15329228 ≤ q) (q1 : q ≤ 13890537) (f1 : ha * 3600 + ia * 60 + sa = r) (f2 : hb * 3600 + ib * 60 + sb = rb) (f3 : q * 86400 + r = t) (c1 : ¬ c < 0) (c2 : (c == 0) = false) (tu : decide (t < u) = false) (n1 : ¬ ya < 0) (n2 : ¬ 9999 < ya) (n3 : ¬ yb < 0) (n4 : ¬ 9999 < yb) (OA : Hid (∀ W, Calls Tryd.prog 22 #[.int .i64 t] W fun e w' => e = .returned (.tuple #[.agg #[.int .i64 ya, .int .i64 ma, .int .i64 da, .int .i64 ha, .int .i64 ia, .int .i64 sa], .int .i64 0]) ∧ Below W.heap.size W w')) (OB : Hid (∀ W, Calls Tryd.prog 22 #[.int .i64 u] W fun e w' => e = .returned (.tuple #[.agg #[.int .i64 yb, .int .i64 mb, .int .i64 db, .int .i64 hb, .int .i64 ib, .int .i64 sb], .int .i64 0]) ∧ Below W.heap.size W w')) (SP : Hid (∀ W, Calls Tryd.prog 23 #[.int .i64 t] W fun e w' => e = .returned (.tuple #[.int .i64 q, .int .i64 r]) ∧ Below W.heap.size W w')) (DA : Hid (∀ W, Calls Tryd.prog 24 #[.agg #[.int .i64 ya, .int .i64 ma, .int .i64 da]] W fun e w' => e = .returned (.tuple #[.int .i64 q, .int .i64 0]) ∧ Below W.heap.size W w')) (CC : Hid (∀ W, Calls Tryd.prog 25 #[.agg #[.int .i64 ya, .int .i64 ma, .int .i64 da], .agg #[.int .i64 yb, .int .i64 mb, .int .i64 db]] W fun e w' => e = .returned (.int .i64 c) ∧ Below W.heap.size W w')) (F : Int → Int → Int → Int → Int → Int → ByteArray) (XF : Hid (∀ y m d h i s W, Lib.TabIs Tryd.prog W "internal/strconv.uint64pow10" .u64 Lib.pow10Tab → Calls Tryd.prog 26 #[.agg #[.int .i64 y, .int .i64 m, .int .i64 d, .int .i64 h, .int .i64 i, .int .i64 s]] W fun e w' => e = .returned (.string (F y m d h i s)) ∧ Below W.heap.size W w')) (G : Op.bytesLess (F ya ma da ha ia sa).toList (F yb mb db hb ib sb).toList = false) :
    Calls Tryd.prog 4 #[.int .i64 t, .int .i64 u] w fun e w' => e = .returned (.bool true) ∧ Below w.heap.size w w' := by
  have T0 := Lib.hid htab; clear htab
  have L := Lib.hid (fun w h => lives4 w h)
  go_enter Tryd.func4, Tryd.ntmps4
  go_wp2_with fail
  refine (L.out _ T0.out).mono ?_; rintro e w1 ⟨rfl, b1⟩
  have d1 : Below w.heap.size w w1 := below_step (by repeat (first | exact Below.refl _ _ | refine below_drewN ?_ _ | refine Below.drew ?_ | refine Below.setCell ?_ (by first | (simp; done) | (simp; omega) | omega) _ | refine Below.alloc ?_ (by first | (simp; done) | (simp; omega) | omega) _)) b1
  have B1 := Lib.hid d1
  clear b1 d1
  go_wp2_with fail
  refine (OA.out _).mono ?_; rintro e w2 ⟨rfl, b2⟩
  have d2 : Below w1.heap.size w1 w2 := below_step (by repeat (first | exact Below.refl _ _ | refine below_drewN ?_ _ | refine Below.drew ?_ | refine Below.setCell ?_ (by first | (simp; done) | (simp; omega) | omega) _ | refine Below.alloc ?_ (by first | (simp; done) | (simp; omega) | omega) _)) b2
  have B2 := Lib.hid (below_step B1.out d2)
  clear b2 d2 B1
  go_wp2_with fail
  refine (OB.out _).mono ?_; rintro e w3 ⟨rfl, b3⟩
  have d3 : Below w2.heap.size w2 w3 := below_step (by repeat (first | exact Below.refl _ _ | refine below_drewN ?_ _ | refine Below.drew ?_ | refine Below.setCell ?_ (by first | (simp; done) | (simp; omega) | omega) _ | refine Below.alloc ?_ (by first | (simp; done) | (simp; omega) | omega) _)) b3
  have B3 := Lib.hid (below_step B2.out d3)
  have aA := B2.out.size
  have A3 : Bk6 w3 (w2.heap.size) (.int .i64 ya) (.int .i64 ma) (.int .i64 da) (.int .i64 ha) (.int .i64 ia) (.int .i64 sa) := Bk6.of b3 (by simp <;> omega) (by intro j; simp [go_sem]) (by simp [go_sem]) (by simp [go_sem]) (by simp [go_sem]) (by simp [go_sem]) (by simp [go_sem]) (by simp [go_sem])
  clear b3 d3 B2
  have cA_b := A3.hb
  have cA_f := A3.fz
  have cA_0 := A3.k0
  have cA_1 := A3.k1
  have cA_2 := A3.k2
  have cA_3 := A3.k3
  have cA_4 := A3.k4
  have cA_5 := A3.k5
  go_wp2_with fail
  clear cA_b cA_f cA_0 cA_1 cA_2 cA_3 cA_4 cA_5
  refine (SP.out _).mono ?_; rintro e w4 ⟨rfl, b4⟩
  have d4 : Below w3.heap.size w3 w4 := below_step (by repeat (first | exact Below.refl _ _ | refine below_drewN ?_ _ | refine Below.drew ?_ | refine Below.setCell ?_ (by first | (simp; done) | (simp; omega) | omega) _ | refine Below.alloc ?_ (by first | (simp; done) | (simp; omega) | omega) _)) b4
  have B4 := Lib.hid (below_step B3.out d4)
  have A4 := A3.keep d4
  have aBb := B3.out.size
  have nBbA := Nat.ne_of_lt A3.hb
  have oBbA := Nat.ne_of_gt A3.hb
  have Bb4 : Bk6 w4 (w3.heap.size) (.int .i64 yb) (.int .i64 mb) (.int .i64 db) (.int .i64 hb) (.int .i64 ib) (.int .i64 sb) := Bk6.of b4 (by simp <;> omega) (by intro j; simp [go_sem]) (by simp [go_sem]) (by simp [go_sem]) (by simp [go_sem]) (by simp [go_sem]) (by simp [go_sem]) (by simp [go_sem])
  clear A3 b4 d4 B3
  have cA_b := A4.hb
  have cA_f := A4.fz
  have cA_0 := A4.k0
  have cA_1 := A4.k1
  have cA_2 := A4.k2
  have cA_3 := A4.k3
  have cA_4 := A4.k4
  have cA_5 := A4.k5
  have cBb_b := Bb4.hb
  have cBb_f := Bb4.fz
  have cBb_0 := Bb4.k0
  have cBb_1 := Bb4.k1
  have cBb_2 := Bb4.k2
  have cBb_3 := Bb4.k3
  have cBb_4 := Bb4.k4
  have cBb_5 := Bb4.k5
  go_wp2_with fail
  clear cA_b cA_f cA_0 cA_1 cA_2 cA_3 cA_4 cA_5 cBb_b cBb_f cBb_0 cBb_1 cBb_2 cBb_3 cBb_4 cBb_5
  refine (DA.out _).mono ?_; rintro e w5 ⟨rfl, b5⟩
  have d5 : Below w4.heap.size w4 w5 := below_step (by repeat (first | exact Below.refl _ _ | refine below_drewN ?_ _ | refine Below.drew ?_ | refine Below.setCell ?_ (by first | (simp; done) | (simp; omega) | omega) _ | refine Below.alloc ?_ (by first | (simp; done) | (simp; omega) | omega) _)) b5
  have B5 := Lib.hid (below_step B4.out d5)
  have A5 := A4.keep d5
  have Bb5 := Bb4.keep d5
  clear A4 Bb4 b5 d5 B4
  have cA_b := A5.hb
  have cA_f := A5.fz
  have cA_0 := A5.k0
  have cA_1 := A5.k1
  have cA_2 := A5.k2
  have cA_3 := A5.k3
  have cA_4 := A5.k4
  have cA_5 := A5.k5
  have cBb_b := Bb5.hb
  have cBb_f := Bb5.fz
  have cBb_0 := Bb5.k0
  have cBb_1 := Bb5.k1
  have cBb_2 := Bb5.k2
  have cBb_3 := Bb5.k3
  have cBb_4 := Bb5.k4
  have cBb_5 := Bb5.k5
  go_wp2_with fail
  clear cA_b cA_f cA_0 cA_1 cA_2 cA_3 cA_4 cA_5 cBb_b cBb_f cBb_0 cBb_1 cBb_2 cBb_3 cBb_4 cBb_5
  refine (CC.out _).mono ?_; rintro e w6 ⟨rfl, b6⟩
  have d6 : Below w5.heap.size w5 w6 := below_step (by repeat (first | exact Below.refl _ _ | refine below_drewN ?_ _ | refine Below.drew ?_ | refine Below.setCell ?_ (by first | (simp; done) | (simp; omega) | omega) _ | refine Below.alloc ?_ (by first | (simp; done) | (simp; omega) | omega) _)) b6
  have B6 := Lib.hid (below_step B5.out d6)
  have A6 := A5.keep d6
  have Bb6 := Bb5.keep d6
  clear A5 Bb5 b6 d6 B5
  have cA_b := A6.hb
  have cA_f := A6.fz
  have cA_0 := A6.k0
  have cA_1 := A6.k1
  have cA_2 := A6.k2
  have cA_3 := A6.k3
  have cA_4 := A6.k4
  have cA_5 := A6.k5
  have cBb_b := Bb6.hb
  have cBb_f := Bb6.fz
  have cBb_0 := Bb6.k0
  have cBb_1 := Bb6.k1
  have cBb_2 := Bb6.k2
  have cBb_3 := Bb6.k3
  have cBb_4 := Bb6.k4
  have cBb_5 := Bb6.k5
  go_wp2_with fail
  clear cA_b cA_f cA_0 cA_1 cA_2 cA_3 cA_4 cA_5 cBb_b cBb_f cBb_0 cBb_1 cBb_2 cBb_3 cBb_4 cBb_5
  refine wp_named ?_; intro w7 hw7
  have d7 : Below w6.heap.size w6 w7 := by rw [hw7]; exact (by repeat (first | exact Below.refl _ _ | refine below_drewN ?_ _ | refine Below.drew ?_ | refine Below.setCell ?_ (by first | (simp; done) | (simp; omega) | omega) _ | refine Below.alloc ?_ (by first | (simp; done) | (simp; omega) | omega) _))
  have B7 := Lib.hid (below_step B6.out d7)
  have A7 := A6.keep d7
  have Bb7 := Bb6.keep d7
  clear A6 Bb6 d7 hw7 B6
  have T1 := Lib.hid (var_keep B7.out T0.out)
  have qA_0 := cell_regrown A7.k0
  have qA_1 := cell_regrown A7.k1
  have qA_2 := cell_regrown A7.k2
  have qA_3 := cell_regrown A7.k3
  have qA_4 := cell_regrown A7.k4
  have qA_5 := cell_regrown A7.k5
  have qBb_0 := cell_regrown Bb7.k0
  have qBb_1 := cell_regrown Bb7.k1
  have qBb_2 := cell_regrown Bb7.k2
  have qBb_3 := cell_regrown Bb7.k3
  have qBb_4 := cell_regrown Bb7.k4
  have qBb_5 := cell_regrown Bb7.k5
  refine wp_region_qb (w := w7) (by kernel_rfl) (by kernel_rfl) (by repeat (first | exact Below.refl _ _ | refine below_drewN ?_ _ | refine Below.drew ?_ | refine Below.setCell ?_ (by first | (simp; done) | (simp; omega) | omega) _ | refine Below.alloc ?_ (by first | (simp; done) | (simp; omega) | omega) _)) ?_
  repeat (any_goals (first | go_big_quiet_step (first | (go_at_call 26; exact Calls.regrown_of (XF.out _ _ _ _ _ _ _ (var_keep (below_regrown _ _ _) T1.out)))) | quiet_step (first | (go_at_call 26; exact Calls.regrown_of (XF.out _ _ _ _ _ _ _ (var_keep (below_regrown _ _ _) T1.out))))))
  refine wpQuiet_nil ?_
  intro w8 hq
  have b8 : Below w7.heap.size w7 w8 := by obtain ⟨p, hq⟩ := hq; rw [hq]; exact below_regrown _ _ _
  clear hq qA_0 qA_1 qA_2 qA_3 qA_4 qA_5 qBb_0 qBb_1 qBb_2 qBb_3 qBb_4 qBb_5
  have d8 : Below w7.heap.size w7 w8 := below_step (by repeat (first | exact Below.refl _ _ | refine below_drewN ?_ _ | refine Below.drew ?_ | refine Below.setCell ?_ (by first | (simp; done) | (simp; omega) | omega) _ | refine Below.alloc ?_ (by first | (simp; done) | (simp; omega) | omega) _)) b8
  have B8 := Lib.hid (below_step B7.out d8)
  have A8 := A7.keep d8
  have Bb8 := Bb7.keep d8
  clear A7 Bb7 b8 d8 B7
  have cA_b := A8.hb
  have cA_f := A8.fz
  have cA_0 := A8.k0
  have cA_1 := A8.k1
  have cA_2 := A8.k2
  have cA_3 := A8.k3
  have cA_4 := A8.k4
  have cA_5 := A8.k5
  have cBb_b := Bb8.hb
  have cBb_f := Bb8.fz
  have cBb_0 := Bb8.k0
  have cBb_1 := Bb8.k1
  have cBb_2 := Bb8.k2
  have cBb_3 := Bb8.k3
  have cBb_4 := Bb8.k4
  have cBb_5 := Bb8.k5
  go_wp2_with fail
  clear cA_b cA_f cA_0 cA_1 cA_2 cA_3 cA_4 cA_5 cBb_b cBb_f cBb_0 cBb_1 cBb_2 cBb_3 cBb_4 cBb_5
  go_ret
  exact ⟨rfl, (by have hz := B8.out.size; repeat (first | exact B8.out | refine below_drewN ?_ _ | refine Below.drew ?_ | refine Below.setCell ?_ (by first | omega | (simp; done) | (simp; omega)) _ | refine Below.alloc ?_ (by first | omega | (simp; done) | (simp; omega)) _))⟩

end Go.Proofs.YtldpchkapcnfbaaDoor

