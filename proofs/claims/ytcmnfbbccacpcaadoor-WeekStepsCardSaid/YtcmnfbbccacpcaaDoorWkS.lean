/- The walk of WeekSteps: whatever date is handed in, the law answers true; nothing old turns. -/
import Derived.Test.YtcmnfbbccacpcaaDoorLiv7
import Derived.Test.YtcmnfbbccacpcaaDoorMoD
set_option linter.unusedVariables false
set_option linter.unusedSimpArgs false
namespace Go.Proofs.YtcmnfbbccacpcaaDoor
open Go.RowKit Go.Sort

set_option maxHeartbeats 2000000 in
theorem wsteps_a (y m d : Int) (w : World) (htab : Lib.TabIs Tryd.prog w "internal/strconv.uint64pow10" .u64 Lib.pow10Tab) (h : Mo.dok y m d 7 = false) :
    Calls Tryd.prog 9 #[.agg #[.int .i64 y, .int .i64 m, .int .i64 d]] w fun e w' => e = .returned (.bool true) ∧ Below w.heap.size w w' := by
  have L := Lib.hid (fun w h => lives7 w h)
  have M : Hid (∀ w, Calls Tryd.prog 53 #[.agg #[.int .i64 y, .int .i64 m, .int .i64 d], .int .i64 7] w fun e w' => e = .returned (.tuple #[.agg #[.int .i64 0, .int .i64 0, .int .i64 0], .int .i64 1]) ∧ Below w.heap.size w w') := fun w => by
    have := mdays_any y m d 7 w (by omega) (by omega); rw [h] at this; exact this
  obtain ⟨a0, a1, a2, a3, O⟩ : ∃ a0 a1 a2 a3, Hid (∀ w, Calls Tryd.prog 41 #[.agg #[.int .i64 y, .int .i64 m, .int .i64 d]] w fun e w' => e = .returned (.tuple #[.agg #[.int .i64 a0, .int .i64 a1, .int .i64 a2], .int .i64 a3]) ∧ Below w.heap.size w w') := ⟨_, _, _, _, fun w => wof_any y m d w⟩
  obtain ⟨b0, b1, b2, b3, O2⟩ : ∃ a0 a1 a2 a3, Hid (∀ w, Calls Tryd.prog 41 #[.agg #[.int .i64 0, .int .i64 0, .int .i64 0]] w fun e w' => e = .returned (.tuple #[.agg #[.int .i64 a0, .int .i64 a1, .int .i64 a2], .int .i64 a3]) ∧ Below w.heap.size w w') := ⟨_, _, _, _, fun w => wof_any 0 0 0 w⟩
  have T0 := Lib.hid htab; clear htab h
  go_enter Tryd.func9, Tryd.ntmps9
  go_wp2_with fail
  refine (L.out _ (var_keep (by repeat (first | exact Below.refl _ _ | refine below_drewN ?_ _ | refine Below.drew ?_ | refine Below.setCell ?_ (by first | (simp; done) | (simp; omega) | omega) _ | refine Below.alloc ?_ (by first | (simp; done) | (simp; omega) | omega) _)) T0.out)).mono ?_; rintro e w1 ⟨rfl, b1⟩
  have d1 : Below w.heap.size w w1 := below_step (by repeat (first | exact Below.refl _ _ | refine below_drewN ?_ _ | refine Below.drew ?_ | refine Below.setCell ?_ (by first | (simp; done) | (simp; omega) | omega) _ | refine Below.alloc ?_ (by first | (simp; done) | (simp; omega) | omega) _)) b1
  have B1 := Lib.hid d1
  have D1 : Bk3 w1 (w.heap.size) (.int .i64 y) (.int .i64 m) (.int .i64 d) := Bk3.of b1 (by simp <;> omega) (by intro j; simp [go_sem]) (by simp [go_sem]) (by simp [go_sem]) (by simp [go_sem])
  clear b1 d1
  have cD_b := D1.hb
  have cD_f := D1.fz
  have cD_0 := D1.k0
  have cD_1 := D1.k1
  have cD_2 := D1.k2
  go_wp2_with fail
  clear cD_b cD_f cD_0 cD_1 cD_2
  refine (M.out _).mono ?_; rintro e w2 ⟨rfl, b2⟩
  have d2 : Below w1.heap.size w1 w2 := below_step (by repeat (first | exact Below.refl _ _ | refine below_drewN ?_ _ | refine Below.drew ?_ | refine Below.setCell ?_ (by first | (simp; done) | (simp; omega) | omega) _ | refine Below.alloc ?_ (by first | (simp; done) | (simp; omega) | omega) _)) b2
  have B2 := Lib.hid (below_step B1.out d2)
  have D2 := D1.keep d2
  clear D1 b2 d2 B1
  have cD_b := D2.hb
  have cD_f := D2.fz
  have cD_0 := D2.k0
  have cD_1 := D2.k1
  have cD_2 := D2.k2
  go_wp2_with fail
  clear cD_b cD_f cD_0 cD_1 cD_2
  refine (O.out _).mono ?_; rintro e w3 ⟨rfl, b3⟩
  have d3 : Below w2.heap.size w2 w3 := below_step (by repeat (first | exact Below.refl _ _ | refine below_drewN ?_ _ | refine Below.drew ?_ | refine Below.setCell ?_ (by first | (simp; done) | (simp; omega) | omega) _ | refine Below.alloc ?_ (by first | (simp; done) | (simp; omega) | omega) _)) b3
  have B3 := Lib.hid (below_step B2.out d3)
  have D3 := D2.keep d3
  have aX := B2.out.size
  have nXD := Nat.ne_of_lt D2.hb
  have oXD := Nat.ne_of_gt D2.hb
  have X3 : Bk3 w3 (w2.heap.size) (.int .i64 0) (.int .i64 0) (.int .i64 0) := Bk3.of b3 (by simp <;> omega) (by intro j; simp [go_sem]) (by simp [go_sem]) (by simp [go_sem]) (by simp [go_sem])
  clear D2 b3 d3 B2
  have cD_b := D3.hb
  have cD_f := D3.fz
  have cD_0 := D3.k0
  have cD_1 := D3.k1
  have cD_2 := D3.k2
  have cX_b := X3.hb
  have cX_f := X3.fz
  have cX_0 := X3.k0
  have cX_1 := X3.k1
  have cX_2 := X3.k2
  go_wp2_with fail
  clear cD_b cD_f cD_0 cD_1 cD_2 cX_b cX_f cX_0 cX_1 cX_2
  refine (O2.out _).mono ?_; rintro e w4 ⟨rfl, b4⟩
  have d4 : Below w3.heap.size w3 w4 := below_step (by repeat (first | exact Below.refl _ _ | refine below_drewN ?_ _ | refine Below.drew ?_ | refine Below.setCell ?_ (by first | (simp; done) | (simp; omega) | omega) _ | refine Below.alloc ?_ (by first | (simp; done) | (simp; omega) | omega) _)) b4
  have B4 := Lib.hid (below_step B3.out d4)
  have D4 := D3.keep d4
  have X4 := X3.keep d4
  have aA := B3.out.size
  have nAD := Nat.ne_of_lt D3.hb
  have oAD := Nat.ne_of_gt D3.hb
  have nAX := Nat.ne_of_lt X3.hb
  have oAX := Nat.ne_of_gt X3.hb
  have A4 : Bk3 w4 (w3.heap.size) (.int .i64 a0) (.int .i64 a1) (.int .i64 a2) := Bk3.of b4 (by simp <;> omega) (by intro j; simp [go_sem]) (by simp [go_sem]) (by simp [go_sem]) (by simp [go_sem])
  clear D3 X3 b4 d4 B3
  have cD_b := D4.hb
  have cD_f := D4.fz
  have cD_0 := D4.k0
  have cD_1 := D4.k1
  have cD_2 := D4.k2
  have cX_b := X4.hb
  have cX_f := X4.fz
  have cX_0 := X4.k0
  have cX_1 := X4.k1
  have cX_2 := X4.k2
  have cA_b := A4.hb
  have cA_f := A4.fz
  have cA_0 := A4.k0
  have cA_1 := A4.k1
  have cA_2 := A4.k2
  go_wp2_with fail
  clear cD_b cD_f cD_0 cD_1 cD_2 cX_b cX_f cX_0 cX_1 cX_2 cA_b cA_f cA_0 cA_1 cA_2
  go_ret
  exact ⟨rfl, (by have hz := B4.out.size; repeat (first | exact B4.out | refine below_drewN ?_ _ | refine Below.drew ?_ | refine Below.setCell ?_ (by first | omega | (simp; done) | (simp; omega)) _ | refine Below.alloc ?_ (by first | omega | (simp; done) | (simp; omega)) _))⟩
set_option maxHeartbeats 2000000 in
theorem wsteps_n1 (y m d : Int) (w : World) (htab : Lib.TabIs Tryd.prog w "internal/strconv.uint64pow10" .u64 Lib.pow10Tab) (h : Mo.dok y m d 7 = true) (h1 : Wk.wok y m d = false) :
    Calls Tryd.prog 9 #[.agg #[.int .i64 y, .int .i64 m, .int .i64 d]] w fun e w' => e = .returned (.bool true) ∧ Below w.heap.size w w' := by
  have L := Lib.hid (fun w h => lives7 w h)
  obtain ⟨x0, x1, x2, hx, M⟩ : ∃ x0 x1 x2, Hid (x0 = Cal.dY (Cal.num y m d + 7) ∧ x1 = Cal.dM (Cal.num y m d + 7) ∧ x2 = Cal.dD (Cal.num y m d + 7)) ∧ Hid (∀ w, Calls Tryd.prog 53 #[.agg #[.int .i64 y, .int .i64 m, .int .i64 d], .int .i64 7] w fun e w' => e = .returned (.tuple #[.agg #[.int .i64 x0, .int .i64 x1, .int .i64 x2], .int .i64 0]) ∧ Below w.heap.size w w') :=
    ⟨_, _, _, Lib.hid ⟨rfl, rfl, rfl⟩, fun w => by have := mdays_any y m d 7 w (by omega) (by omega); rw [h] at this; exact this⟩
  obtain ⟨a0, a1, a2, O⟩ : ∃ a0 a1 a2, Hid (∀ w, Calls Tryd.prog 41 #[.agg #[.int .i64 y, .int .i64 m, .int .i64 d]] w fun e w' => e = .returned (.tuple #[.agg #[.int .i64 a0, .int .i64 a1, .int .i64 a2], .int .i64 1]) ∧ Below w.heap.size w w') := ⟨_, _, _, fun w => by have := wof_any y m d w; rw [h1] at this; exact this⟩; obtain ⟨b0, b1, b2, b3, O2⟩ : ∃ a0 a1 a2 a3, Hid (∀ w, Calls Tryd.prog 41 #[.agg #[.int .i64 x0, .int .i64 x1, .int .i64 x2]] w fun e w' => e = .returned (.tuple #[.agg #[.int .i64 a0, .int .i64 a1, .int .i64 a2], .int .i64 a3]) ∧ Below w.heap.size w w') := ⟨_, _, _, _, fun w => wof_any x0 x1 x2 w⟩; clear h1
  have T0 := Lib.hid htab; clear htab h
  go_enter Tryd.func9, Tryd.ntmps9
  go_wp2_with fail
  refine (L.out _ (var_keep (by repeat (first | exact Below.refl _ _ | refine below_drewN ?_ _ | refine Below.drew ?_ | refine Below.setCell ?_ (by first | (simp; done) | (simp; omega) | omega) _ | refine Below.alloc ?_ (by first | (simp; done) | (simp; omega) | omega) _)) T0.out)).mono ?_; rintro e w1 ⟨rfl, b1⟩
  have d1 : Below w.heap.size w w1 := below_step (by repeat (first | exact Below.refl _ _ | refine below_drewN ?_ _ | refine Below.drew ?_ | refine Below.setCell ?_ (by first | (simp; done) | (simp; omega) | omega) _ | refine Below.alloc ?_ (by first | (simp; done) | (simp; omega) | omega) _)) b1
  have B1 := Lib.hid d1
  have D1 : Bk3 w1 (w.heap.size) (.int .i64 y) (.int .i64 m) (.int .i64 d) := Bk3.of b1 (by simp <;> omega) (by intro j; simp [go_sem]) (by simp [go_sem]) (by simp [go_sem]) (by simp [go_sem])
  clear b1 d1
  have cD_b := D1.hb
  have cD_f := D1.fz
  have cD_0 := D1.k0
  have cD_1 := D1.k1
  have cD_2 := D1.k2
  go_wp2_with fail
  clear cD_b cD_f cD_0 cD_1 cD_2
  refine (M.out _).mono ?_; rintro e w2 ⟨rfl, b2⟩
  have d2 : Below w1.heap.size w1 w2 := below_step (by repeat (first | exact Below.refl _ _ | refine below_drewN ?_ _ | refine Below.drew ?_ | refine Below.setCell ?_ (by first | (simp; done) | (simp; omega) | omega) _ | refine Below.alloc ?_ (by first | (simp; done) | (simp; omega) | omega) _)) b2
  have B2 := Lib.hid (below_step B1.out d2)
  have D2 := D1.keep d2
  clear D1 b2 d2 B1
  have cD_b := D2.hb
  have cD_f := D2.fz
  have cD_0 := D2.k0
  have cD_1 := D2.k1
  have cD_2 := D2.k2
  go_wp2_with fail
  clear cD_b cD_f cD_0 cD_1 cD_2
  refine (O.out _).mono ?_; rintro e w3 ⟨rfl, b3⟩
  have d3 : Below w2.heap.size w2 w3 := below_step (by repeat (first | exact Below.refl _ _ | refine below_drewN ?_ _ | refine Below.drew ?_ | refine Below.setCell ?_ (by first | (simp; done) | (simp; omega) | omega) _ | refine Below.alloc ?_ (by first | (simp; done) | (simp; omega) | omega) _)) b3
  have B3 := Lib.hid (below_step B2.out d3)
  have D3 := D2.keep d3
  have aX := B2.out.size
  have nXD := Nat.ne_of_lt D2.hb
  have oXD := Nat.ne_of_gt D2.hb
  have X3 : Bk3 w3 (w2.heap.size) (.int .i64 x0) (.int .i64 x1) (.int .i64 x2) := Bk3.of b3 (by simp <;> omega) (by intro j; simp [go_sem]) (by simp [go_sem]) (by simp [go_sem]) (by simp [go_sem])
  clear D2 b3 d3 B2
  have cD_b := D3.hb
  have cD_f := D3.fz
  have cD_0 := D3.k0
  have cD_1 := D3.k1
  have cD_2 := D3.k2
  have cX_b := X3.hb
  have cX_f := X3.fz
  have cX_0 := X3.k0
  have cX_1 := X3.k1
  have cX_2 := X3.k2
  go_wp2_with fail
  clear cD_b cD_f cD_0 cD_1 cD_2 cX_b cX_f cX_0 cX_1 cX_2
  refine (O2.out _).mono ?_; rintro e w4 ⟨rfl, b4⟩
  have d4 : Below w3.heap.size w3 w4 := below_step (by repeat (first | exact Below.refl _ _ | refine below_drewN ?_ _ | refine Below.drew ?_ | refine Below.setCell ?_ (by first | (simp; done) | (simp; omega) | omega) _ | refine Below.alloc ?_ (by first | (simp; done) | (simp; omega) | omega) _)) b4
  have B4 := Lib.hid (below_step B3.out d4)
  have D4 := D3.keep d4
  have X4 := X3.keep d4
  have aA := B3.out.size
  have nAD := Nat.ne_of_lt D3.hb
  have oAD := Nat.ne_of_gt D3.hb
  have nAX := Nat.ne_of_lt X3.hb
  have oAX := Nat.ne_of_gt X3.hb
  have A4 : Bk3 w4 (w3.heap.size) (.int .i64 a0) (.int .i64 a1) (.int .i64 a2) := Bk3.of b4 (by simp <;> omega) (by intro j; simp [go_sem]) (by simp [go_sem]) (by simp [go_sem]) (by simp [go_sem])
  clear D3 X3 b4 d4 B3
  have cD_b := D4.hb
  have cD_f := D4.fz
  have cD_0 := D4.k0
  have cD_1 := D4.k1
  have cD_2 := D4.k2
  have cX_b := X4.hb
  have cX_f := X4.fz
  have cX_0 := X4.k0
  have cX_1 := X4.k1
  have cX_2 := X4.k2
  have cA_b := A4.hb
  have cA_f := A4.fz
  have cA_0 := A4.k0
  have cA_1 := A4.k1
  have cA_2 := A4.k2
  go_wp2_with fail
  clear cD_b cD_f cD_0 cD_1 cD_2 cX_b cX_f cX_0 cX_1 cX_2 cA_b cA_f cA_0 cA_1 cA_2
  go_ret
  exact ⟨rfl, (by have hz := B4.out.size; repeat (first | exact B4.out | refine below_drewN ?_ _ | refine Below.drew ?_ | refine Below.setCell ?_ (by first | omega | (simp; done) | (simp; omega)) _ | refine Below.alloc ?_ (by first | omega | (simp; done) | (simp; omega)) _))⟩
set_option maxHeartbeats 2000000 in
theorem wsteps_n2 (y m d : Int) (w : World) (htab : Lib.TabIs Tryd.prog w "internal/strconv.uint64pow10" .u64 Lib.pow10Tab) (h : Mo.dok y m d 7 = true) (h1 : Wk.wok y m d = true) (h2 : Wk.wok (Cal.dY (Cal.num y m d + 7)) (Cal.dM (Cal.num y m d + 7)) (Cal.dD (Cal.num y m d + 7)) = false) :
    Calls Tryd.prog 9 #[.agg #[.int .i64 y, .int .i64 m, .int .i64 d]] w fun e w' => e = .returned (.bool true) ∧ Below w.heap.size w w' := by
  have L := Lib.hid (fun w h => lives7 w h)
  obtain ⟨x0, x1, x2, hx, M⟩ : ∃ x0 x1 x2, Hid (x0 = Cal.dY (Cal.num y m d + 7) ∧ x1 = Cal.dM (Cal.num y m d + 7) ∧ x2 = Cal.dD (Cal.num y m d + 7)) ∧ Hid (∀ w, Calls Tryd.prog 53 #[.agg #[.int .i64 y, .int .i64 m, .int .i64 d], .int .i64 7] w fun e w' => e = .returned (.tuple #[.agg #[.int .i64 x0, .int .i64 x1, .int .i64 x2], .int .i64 0]) ∧ Below w.heap.size w w') :=
    ⟨_, _, _, Lib.hid ⟨rfl, rfl, rfl⟩, fun w => by have := mdays_any y m d 7 w (by omega) (by omega); rw [h] at this; exact this⟩
  obtain ⟨a0, a1, a2, O⟩ : ∃ a0 a1 a2, Hid (∀ w, Calls Tryd.prog 41 #[.agg #[.int .i64 y, .int .i64 m, .int .i64 d]] w fun e w' => e = .returned (.tuple #[.agg #[.int .i64 a0, .int .i64 a1, .int .i64 a2], .int .i64 0]) ∧ Below w.heap.size w w') := ⟨_, _, _, fun w => by have := wof_any y m d w; rw [h1] at this; exact this⟩; obtain ⟨b0, b1, b2, O2⟩ : ∃ a0 a1 a2, Hid (∀ w, Calls Tryd.prog 41 #[.agg #[.int .i64 x0, .int .i64 x1, .int .i64 x2]] w fun e w' => e = .returned (.tuple #[.agg #[.int .i64 a0, .int .i64 a1, .int .i64 a2], .int .i64 1]) ∧ Below w.heap.size w w') := ⟨_, _, _, fun w => by have := wof_any x0 x1 x2 w; rw [hx.out.1, hx.out.2.1, hx.out.2.2] at this ⊢; rw [h2] at this; exact this⟩; clear h1 h2
  have T0 := Lib.hid htab; clear htab h
  go_enter Tryd.func9, Tryd.ntmps9
  go_wp2_with fail
  refine (L.out _ (var_keep (by repeat (first | exact Below.refl _ _ | refine below_drewN ?_ _ | refine Below.drew ?_ | refine Below.setCell ?_ (by first | (simp; done) | (simp; omega) | omega) _ | refine Below.alloc ?_ (by first | (simp; done) | (simp; omega) | omega) _)) T0.out)).mono ?_; rintro e w1 ⟨rfl, b1⟩
  have d1 : Below w.heap.size w w1 := below_step (by repeat (first | exact Below.refl _ _ | refine below_drewN ?_ _ | refine Below.drew ?_ | refine Below.setCell ?_ (by first | (simp; done) | (simp; omega) | omega) _ | refine Below.alloc ?_ (by first | (simp; done) | (simp; omega) | omega) _)) b1
  have B1 := Lib.hid d1
  have D1 : Bk3 w1 (w.heap.size) (.int .i64 y) (.int .i64 m) (.int .i64 d) := Bk3.of b1 (by simp <;> omega) (by intro j; simp [go_sem]) (by simp [go_sem]) (by simp [go_sem]) (by simp [go_sem])
  clear b1 d1
  have cD_b := D1.hb
  have cD_f := D1.fz
  have cD_0 := D1.k0
  have cD_1 := D1.k1
  have cD_2 := D1.k2
  go_wp2_with fail
  clear cD_b cD_f cD_0 cD_1 cD_2
  refine (M.out _).mono ?_; rintro e w2 ⟨rfl, b2⟩
  have d2 : Below w1.heap.size w1 w2 := below_step (by repeat (first | exact Below.refl _ _ | refine below_drewN ?_ _ | refine Below.drew ?_ | refine Below.setCell ?_ (by first | (simp; done) | (simp; omega) | omega) _ | refine Below.alloc ?_ (by first | (simp; done) | (simp; omega) | omega) _)) b2
  have B2 := Lib.hid (below_step B1.out d2)
  have D2 := D1.keep d2
  clear D1 b2 d2 B1
  have cD_b := D2.hb
  have cD_f := D2.fz
  have cD_0 := D2.k0
  have cD_1 := D2.k1
  have cD_2 := D2.k2
  go_wp2_with fail
  clear cD_b cD_f cD_0 cD_1 cD_2
  refine (O.out _).mono ?_; rintro e w3 ⟨rfl, b3⟩
  have d3 : Below w2.heap.size w2 w3 := below_step (by repeat (first | exact Below.refl _ _ | refine below_drewN ?_ _ | refine Below.drew ?_ | refine Below.setCell ?_ (by first | (simp; done) | (simp; omega) | omega) _ | refine Below.alloc ?_ (by first | (simp; done) | (simp; omega) | omega) _)) b3
  have B3 := Lib.hid (below_step B2.out d3)
  have D3 := D2.keep d3
  have aX := B2.out.size
  have nXD := Nat.ne_of_lt D2.hb
  have oXD := Nat.ne_of_gt D2.hb
  have X3 : Bk3 w3 (w2.heap.size) (.int .i64 x0) (.int .i64 x1) (.int .i64 x2) := Bk3.of b3 (by simp <;> omega) (by intro j; simp [go_sem]) (by simp [go_sem]) (by simp [go_sem]) (by simp [go_sem])
  clear D2 b3 d3 B2
  have cD_b := D3.hb
  have cD_f := D3.fz
  have cD_0 := D3.k0
  have cD_1 := D3.k1
  have cD_2 := D3.k2
  have cX_b := X3.hb
  have cX_f := X3.fz
  have cX_0 := X3.k0
  have cX_1 := X3.k1
  have cX_2 := X3.k2
  go_wp2_with fail
  clear cD_b cD_f cD_0 cD_1 cD_2 cX_b cX_f cX_0 cX_1 cX_2
  refine (O2.out _).mono ?_; rintro e w4 ⟨rfl, b4⟩
  have d4 : Below w3.heap.size w3 w4 := below_step (by repeat (first | exact Below.refl _ _ | refine below_drewN ?_ _ | refine Below.drew ?_ | refine Below.setCell ?_ (by first | (simp; done) | (simp; omega) | omega) _ | refine Below.alloc ?_ (by first | (simp; done) | (simp; omega) | omega) _)) b4
  have B4 := Lib.hid (below_step B3.out d4)
  have D4 := D3.keep d4
  have X4 := X3.keep d4
  have aA := B3.out.size
  have nAD := Nat.ne_of_lt D3.hb
  have oAD := Nat.ne_of_gt D3.hb
  have nAX := Nat.ne_of_lt X3.hb
  have oAX := Nat.ne_of_gt X3.hb
  have A4 : Bk3 w4 (w3.heap.size) (.int .i64 a0) (.int .i64 a1) (.int .i64 a2) := Bk3.of b4 (by simp <;> omega) (by intro j; simp [go_sem]) (by simp [go_sem]) (by simp [go_sem]) (by simp [go_sem])
  clear D3 X3 b4 d4 B3
  have cD_b := D4.hb
  have cD_f := D4.fz
  have cD_0 := D4.k0
  have cD_1 := D4.k1
  have cD_2 := D4.k2
  have cX_b := X4.hb
  have cX_f := X4.fz
  have cX_0 := X4.k0
  have cX_1 := X4.k1
  have cX_2 := X4.k2
  have cA_b := A4.hb
  have cA_f := A4.fz
  have cA_0 := A4.k0
  have cA_1 := A4.k1
  have cA_2 := A4.k2
  go_wp2_with fail
  clear cD_b cD_f cD_0 cD_1 cD_2 cX_b cX_f cX_0 cX_1 cX_2 cA_b cA_f cA_0 cA_1 cA_2
  go_ret
  exact ⟨rfl, (by have hz := B4.out.size; repeat (first | exact B4.out | refine below_drewN ?_ _ | refine Below.drew ?_ | refine Below.setCell ?_ (by first | omega | (simp; done) | (simp; omega)) _ | refine Below.alloc ?_ (by first | omega | (simp; done) | (simp; omega)) _))⟩
set_option maxHeartbeats 4000000 in
theorem wsteps_y1 (y m d Y k D : Int) (w : World) (htab : Lib.TabIs Tryd.prog w "internal/strconv.uint64pow10" .u64 Lib.pow10Tab) (h : Mo.dok y m d 7 = true) (Yb : -39999 ≤ Y ∧ Y ≤ 39999) (kb : 1 ≤ k ∧ k ≤ 53)
    (HO : ∀ w, Calls Tryd.prog 41 #[.agg #[.int .i64 y, .int .i64 m, .int .i64 d]] w fun e w' => e = .returned (.tuple #[.agg #[.int .i64 Y, .int .i64 k, .int .i64 D], .int .i64 0]) ∧ Below w.heap.size w w')
    (HO2 : ∀ w, Calls Tryd.prog 41 #[.agg #[.int .i64 (Cal.dY (Cal.num y m d + 7)), .int .i64 (Cal.dM (Cal.num y m d + 7)), .int .i64 (Cal.dD (Cal.num y m d + 7))]] w fun e w' => e = .returned (.tuple #[.agg #[.int .i64 Y, .int .i64 (k + 1), .int .i64 D], .int .i64 0]) ∧ Below w.heap.size w w')  :
    Calls Tryd.prog 9 #[.agg #[.int .i64 y, .int .i64 m, .int .i64 d]] w fun e w' => e = .returned (.bool true) ∧ Below w.heap.size w w' := by
  have L := Lib.hid (fun w h => lives7 w h)
  obtain ⟨x0, x1, x2, hx, M⟩ : ∃ x0 x1 x2, Hid (x0 = Cal.dY (Cal.num y m d + 7) ∧ x1 = Cal.dM (Cal.num y m d + 7) ∧ x2 = Cal.dD (Cal.num y m d + 7)) ∧ Hid (∀ w, Calls Tryd.prog 53 #[.agg #[.int .i64 y, .int .i64 m, .int .i64 d], .int .i64 7] w fun e w' => e = .returned (.tuple #[.agg #[.int .i64 x0, .int .i64 x1, .int .i64 x2], .int .i64 0]) ∧ Below w.heap.size w w') :=
    ⟨_, _, _, Lib.hid ⟨rfl, rfl, rfl⟩, fun w => by have := mdays_any y m d 7 w (by omega) (by omega); rw [h] at this; exact this⟩
  have O := Lib.hid HO
  have O2 : Hid (∀ w, Calls Tryd.prog 41 #[.agg #[.int .i64 x0, .int .i64 x1, .int .i64 x2]] w fun e w' => e = .returned (.tuple #[.agg #[.int .i64 Y, .int .i64 (k + 1), .int .i64 D], .int .i64 0]) ∧ Below w.heap.size w w') := by rw [hx.out.1, hx.out.2.1, hx.out.2.2]; exact HO2
  have WK := Lib.hid (fun w => weeks_any Y w)
  skip
  have T0 := Lib.hid htab; clear htab h HO HO2 hx
  go_enter Tryd.func9, Tryd.ntmps9
  go_wp2_with fail
  refine (L.out _ (var_keep (by repeat (first | exact Below.refl _ _ | refine below_drewN ?_ _ | refine Below.drew ?_ | refine Below.setCell ?_ (by first | (simp; done) | (simp; omega) | omega) _ | refine Below.alloc ?_ (by first | (simp; done) | (simp; omega) | omega) _)) T0.out)).mono ?_; rintro e w1 ⟨rfl, b1⟩
  have d1 : Below w.heap.size w w1 := below_step (by repeat (first | exact Below.refl _ _ | refine below_drewN ?_ _ | refine Below.drew ?_ | refine Below.setCell ?_ (by first | (simp; done) | (simp; omega) | omega) _ | refine Below.alloc ?_ (by first | (simp; done) | (simp; omega) | omega) _)) b1
  have B1 := Lib.hid d1
  have Dd1 : Bk3 w1 (w.heap.size) (.int .i64 y) (.int .i64 m) (.int .i64 d) := Bk3.of b1 (by simp <;> omega) (by intro j; simp [go_sem]) (by simp [go_sem]) (by simp [go_sem]) (by simp [go_sem])
  clear b1 d1
  have cDd_b := Dd1.hb
  have cDd_f := Dd1.fz
  have cDd_0 := Dd1.k0
  have cDd_1 := Dd1.k1
  have cDd_2 := Dd1.k2
  go_wp2_with fail
  clear cDd_b cDd_f cDd_0 cDd_1 cDd_2
  refine (M.out _).mono ?_; rintro e w2 ⟨rfl, b2⟩
  have d2 : Below w1.heap.size w1 w2 := below_step (by repeat (first | exact Below.refl _ _ | refine below_drewN ?_ _ | refine Below.drew ?_ | refine Below.setCell ?_ (by first | (simp; done) | (simp; omega) | omega) _ | refine Below.alloc ?_ (by first | (simp; done) | (simp; omega) | omega) _)) b2
  have B2 := Lib.hid (below_step B1.out d2)
  have Dd2 := Dd1.keep d2
  clear Dd1 b2 d2 B1
  have cDd_b := Dd2.hb
  have cDd_f := Dd2.fz
  have cDd_0 := Dd2.k0
  have cDd_1 := Dd2.k1
  have cDd_2 := Dd2.k2
  go_wp2_with fail
  clear cDd_b cDd_f cDd_0 cDd_1 cDd_2
  refine (O.out _).mono ?_; rintro e w3 ⟨rfl, b3⟩
  have d3 : Below w2.heap.size w2 w3 := below_step (by repeat (first | exact Below.refl _ _ | refine below_drewN ?_ _ | refine Below.drew ?_ | refine Below.setCell ?_ (by first | (simp; done) | (simp; omega) | omega) _ | refine Below.alloc ?_ (by first | (simp; done) | (simp; omega) | omega) _)) b3
  have B3 := Lib.hid (below_step B2.out d3)
  have Dd3 := Dd2.keep d3
  have aX := B2.out.size
  have nXDd := Nat.ne_of_lt Dd2.hb
  have oXDd := Nat.ne_of_gt Dd2.hb
  have X3 : Bk3 w3 (w2.heap.size) (.int .i64 x0) (.int .i64 x1) (.int .i64 x2) := Bk3.of b3 (by simp <;> omega) (by intro j; simp [go_sem]) (by simp [go_sem]) (by simp [go_sem]) (by simp [go_sem])
  clear Dd2 b3 d3 B2
  have cDd_b := Dd3.hb
  have cDd_f := Dd3.fz
  have cDd_0 := Dd3.k0
  have cDd_1 := Dd3.k1
  have cDd_2 := Dd3.k2
  have cX_b := X3.hb
  have cX_f := X3.fz
  have cX_0 := X3.k0
  have cX_1 := X3.k1
  have cX_2 := X3.k2
  go_wp2_with fail
  clear cDd_b cDd_f cDd_0 cDd_1 cDd_2 cX_b cX_f cX_0 cX_1 cX_2
  refine (O2.out _).mono ?_; rintro e w4 ⟨rfl, b4⟩
  have d4 : Below w3.heap.size w3 w4 := below_step (by repeat (first | exact Below.refl _ _ | refine below_drewN ?_ _ | refine Below.drew ?_ | refine Below.setCell ?_ (by first | (simp; done) | (simp; omega) | omega) _ | refine Below.alloc ?_ (by first | (simp; done) | (simp; omega) | omega) _)) b4
  have B4 := Lib.hid (below_step B3.out d4)
  have Dd4 := Dd3.keep d4
  have X4 := X3.keep d4
  have aA := B3.out.size
  have nADd := Nat.ne_of_lt Dd3.hb
  have oADd := Nat.ne_of_gt Dd3.hb
  have nAX := Nat.ne_of_lt X3.hb
  have oAX := Nat.ne_of_gt X3.hb
  have A4 : Bk3 w4 (w3.heap.size) (.int .i64 Y) (.int .i64 k) (.int .i64 D) := Bk3.of b4 (by simp <;> omega) (by intro j; simp [go_sem]) (by simp [go_sem]) (by simp [go_sem]) (by simp [go_sem])
  clear Dd3 X3 b4 d4 B3
  have cDd_b := Dd4.hb
  have cDd_f := Dd4.fz
  have cDd_0 := Dd4.k0
  have cDd_1 := Dd4.k1
  have cDd_2 := Dd4.k2
  have cX_b := X4.hb
  have cX_f := X4.fz
  have cX_0 := X4.k0
  have cX_1 := X4.k1
  have cX_2 := X4.k2
  have cA_b := A4.hb
  have cA_f := A4.fz
  have cA_0 := A4.k0
  have cA_1 := A4.k1
  have cA_2 := A4.k2
  go_wp2_with fail
  clear cDd_b cDd_f cDd_0 cDd_1 cDd_2 cX_b cX_f cX_0 cX_1 cX_2 cA_b cA_f cA_0 cA_1 cA_2
  refine wp_named ?_; intro w5 hw5
  have d5 : Below w4.heap.size w4 w5 := by rw [hw5]; exact (by repeat (first | exact Below.refl _ _ | refine below_drewN ?_ _ | refine Below.drew ?_ | refine Below.setCell ?_ (by first | (simp; done) | (simp; omega) | omega) _ | refine Below.alloc ?_ (by first | (simp; done) | (simp; omega) | omega) _))
  have B5 := Lib.hid (below_step B4.out d5)
  have Dd5 := Dd4.keep d5
  have X5 := X4.keep d5
  have A5 := A4.keep d5
  have aBb := B4.out.size
  have nBbDd := Nat.ne_of_lt Dd4.hb
  have oBbDd := Nat.ne_of_gt Dd4.hb
  have nBbX := Nat.ne_of_lt X4.hb
  have oBbX := Nat.ne_of_gt X4.hb
  have nBbA := Nat.ne_of_lt A4.hb
  have oBbA := Nat.ne_of_gt A4.hb
  have Bb5 : Bk3 w5 (w4.heap.size) (.int .i64 (Y)) (.int .i64 ((k + 1))) (.int .i64 D) := by rw [hw5]; exact ⟨by simp <;> omega, by intro j; simp [go_sem], by simp [go_sem], by simp [go_sem], by simp [go_sem]⟩
  clear Dd4 X4 A4 d5 hw5 B4
  have qDd_0 := cell_regrown Dd5.k0
  have qDd_1 := cell_regrown Dd5.k1
  have qDd_2 := cell_regrown Dd5.k2
  have qX_0 := cell_regrown X5.k0
  have qX_1 := cell_regrown X5.k1
  have qX_2 := cell_regrown X5.k2
  have qA_0 := cell_regrown A5.k0
  have qA_1 := cell_regrown A5.k1
  have qA_2 := cell_regrown A5.k2
  have qBb_0 := cell_regrown Bb5.k0
  have qBb_1 := cell_regrown Bb5.k1
  have qBb_2 := cell_regrown Bb5.k2
  refine wp_region_qb (w := w5) (by kernel_rfl) (by kernel_rfl) (by repeat (first | exact Below.refl _ _ | refine below_drewN ?_ _ | refine Below.drew ?_ | refine Below.setCell ?_ (by first | (simp; done) | (simp; omega) | omega) _ | refine Below.alloc ?_ (by first | (simp; done) | (simp; omega) | omega) _)) ?_
  repeat (any_goals (first | go_big_quiet_step (first | (go_at_call 45; exact Calls.regrown_of (WK.out _))) | quiet_step (first | (go_at_call 45; exact Calls.regrown_of (WK.out _)))))
  refine wpQuiet_nil ?_
  intro w6 hq
  have b6 : Below w5.heap.size w5 w6 := by obtain ⟨p, hq⟩ := hq; rw [hq]; exact below_regrown _ _ _
  clear hq qDd_0 qDd_1 qDd_2 qX_0 qX_1 qX_2 qA_0 qA_1 qA_2 qBb_0 qBb_1 qBb_2
  have d6 : Below w5.heap.size w5 w6 := below_step (by repeat (first | exact Below.refl _ _ | refine below_drewN ?_ _ | refine Below.drew ?_ | refine Below.setCell ?_ (by first | (simp; done) | (simp; omega) | omega) _ | refine Below.alloc ?_ (by first | (simp; done) | (simp; omega) | omega) _)) b6
  have B6 := Lib.hid (below_step B5.out d6)
  have Dd6 := Dd5.keep d6
  have X6 := X5.keep d6
  have A6 := A5.keep d6
  have Bb6 := Bb5.keep d6
  clear Dd5 X5 A5 Bb5 b6 d6 B5
  have cDd_b := Dd6.hb
  have cDd_f := Dd6.fz
  have cDd_0 := Dd6.k0
  have cDd_1 := Dd6.k1
  have cDd_2 := Dd6.k2
  have cX_b := X6.hb
  have cX_f := X6.fz
  have cX_0 := X6.k0
  have cX_1 := X6.k1
  have cX_2 := X6.k2
  have cA_b := A6.hb
  have cA_f := A6.fz
  have cA_0 := A6.k0
  have cA_1 := A6.k1
  have cA_2 := A6.k2
  have cBb_b := Bb6.hb
  have cBb_f := Bb6.fz
  have cBb_0 := Bb6.k0
  have cBb_1 := Bb6.k1
  have cBb_2 := Bb6.k2
  go_wp2_with fail
  clear cDd_b cDd_f cDd_0 cDd_1 cDd_2 cX_b cX_f cX_0 cX_1 cX_2 cA_b cA_f cA_0 cA_1 cA_2 cBb_b cBb_f cBb_0 cBb_1 cBb_2
  go_ret
  exact ⟨rfl, (by have hz := B6.out.size; repeat (first | exact B6.out | refine below_drewN ?_ _ | refine Below.drew ?_ | refine Below.setCell ?_ (by first | omega | (simp; done) | (simp; omega)) _ | refine Below.alloc ?_ (by first | omega | (simp; done) | (simp; omega)) _))⟩
set_option maxHeartbeats 4000000 in
theorem wsteps_y2 (y m d Y k D : Int) (w : World) (htab : Lib.TabIs Tryd.prog w "internal/strconv.uint64pow10" .u64 Lib.pow10Tab) (h : Mo.dok y m d 7 = true) (Yb : -39999 ≤ Y ∧ Y ≤ 39999) (kb : 1 ≤ k ∧ k ≤ 53)
    (HO : ∀ w, Calls Tryd.prog 41 #[.agg #[.int .i64 y, .int .i64 m, .int .i64 d]] w fun e w' => e = .returned (.tuple #[.agg #[.int .i64 Y, .int .i64 k, .int .i64 D], .int .i64 0]) ∧ Below w.heap.size w w')
    (HO2 : ∀ w, Calls Tryd.prog 41 #[.agg #[.int .i64 (Cal.dY (Cal.num y m d + 7)), .int .i64 (Cal.dM (Cal.num y m d + 7)), .int .i64 (Cal.dD (Cal.num y m d + 7))]] w fun e w' => e = .returned (.tuple #[.agg #[.int .i64 (Y + 1), .int .i64 1, .int .i64 D], .int .i64 0]) ∧ Below w.heap.size w w') (hw : k = Wk.wks Y) :
    Calls Tryd.prog 9 #[.agg #[.int .i64 y, .int .i64 m, .int .i64 d]] w fun e w' => e = .returned (.bool true) ∧ Below w.heap.size w w' := by
  have L := Lib.hid (fun w h => lives7 w h)
  obtain ⟨x0, x1, x2, hx, M⟩ : ∃ x0 x1 x2, Hid (x0 = Cal.dY (Cal.num y m d + 7) ∧ x1 = Cal.dM (Cal.num y m d + 7) ∧ x2 = Cal.dD (Cal.num y m d + 7)) ∧ Hid (∀ w, Calls Tryd.prog 53 #[.agg #[.int .i64 y, .int .i64 m, .int .i64 d], .int .i64 7] w fun e w' => e = .returned (.tuple #[.agg #[.int .i64 x0, .int .i64 x1, .int .i64 x2], .int .i64 0]) ∧ Below w.heap.size w w') :=
    ⟨_, _, _, Lib.hid ⟨rfl, rfl, rfl⟩, fun w => by have := mdays_any y m d 7 w (by omega) (by omega); rw [h] at this; exact this⟩
  have O := Lib.hid HO
  have O2 : Hid (∀ w, Calls Tryd.prog 41 #[.agg #[.int .i64 x0, .int .i64 x1, .int .i64 x2]] w fun e w' => e = .returned (.tuple #[.agg #[.int .i64 (Y + 1), .int .i64 1, .int .i64 D], .int .i64 0]) ∧ Below w.heap.size w w') := by rw [hx.out.1, hx.out.2.1, hx.out.2.2]; exact HO2
  have WK : Hid (∀ w, Calls Tryd.prog 45 #[.int .i64 Y] w fun e w' => e = .returned (.int .i64 k) ∧ Below w.heap.size w w') := fun w => by rw [hw]; exact weeks_any Y w
  clear hw; have gY : (Y + 1 == Y) = false := by rw [beq_eq_false_iff_ne]; omega
  have T0 := Lib.hid htab; clear htab h HO HO2 hx
  go_enter Tryd.func9, Tryd.ntmps9
  go_wp2_with fail
  refine (L.out _ (var_keep (by repeat (first | exact Below.refl _ _ | refine below_drewN ?_ _ | refine Below.drew ?_ | refine Below.setCell ?_ (by first | (simp; done) | (simp; omega) | omega) _ | refine Below.alloc ?_ (by first | (simp; done) | (simp; omega) | omega) _)) T0.out)).mono ?_; rintro e w1 ⟨rfl, b1⟩
  have d1 : Below w.heap.size w w1 := below_step (by repeat (first | exact Below.refl _ _ | refine below_drewN ?_ _ | refine Below.drew ?_ | refine Below.setCell ?_ (by first | (simp; done) | (simp; omega) | omega) _ | refine Below.alloc ?_ (by first | (simp; done) | (simp; omega) | omega) _)) b1
  have B1 := Lib.hid d1
  have Dd1 : Bk3 w1 (w.heap.size) (.int .i64 y) (.int .i64 m) (.int .i64 d) := Bk3.of b1 (by simp <;> omega) (by intro j; simp [go_sem]) (by simp [go_sem]) (by simp [go_sem]) (by simp [go_sem])
  clear b1 d1
  have cDd_b := Dd1.hb
  have cDd_f := Dd1.fz
  have cDd_0 := Dd1.k0
  have cDd_1 := Dd1.k1
  have cDd_2 := Dd1.k2
  go_wp2_with fail
  clear cDd_b cDd_f cDd_0 cDd_1 cDd_2
  refine (M.out _).mono ?_; rintro e w2 ⟨rfl, b2⟩
  have d2 : Below w1.heap.size w1 w2 := below_step (by repeat (first | exact Below.refl _ _ | refine below_drewN ?_ _ | refine Below.drew ?_ | refine Below.setCell ?_ (by first | (simp; done) | (simp; omega) | omega) _ | refine Below.alloc ?_ (by first | (simp; done) | (simp; omega) | omega) _)) b2
  have B2 := Lib.hid (below_step B1.out d2)
  have Dd2 := Dd1.keep d2
  clear Dd1 b2 d2 B1
  have cDd_b := Dd2.hb
  have cDd_f := Dd2.fz
  have cDd_0 := Dd2.k0
  have cDd_1 := Dd2.k1
  have cDd_2 := Dd2.k2
  go_wp2_with fail
  clear cDd_b cDd_f cDd_0 cDd_1 cDd_2
  refine (O.out _).mono ?_; rintro e w3 ⟨rfl, b3⟩
  have d3 : Below w2.heap.size w2 w3 := below_step (by repeat (first | exact Below.refl _ _ | refine below_drewN ?_ _ | refine Below.drew ?_ | refine Below.setCell ?_ (by first | (simp; done) | (simp; omega) | omega) _ | refine Below.alloc ?_ (by first | (simp; done) | (simp; omega) | omega) _)) b3
  have B3 := Lib.hid (below_step B2.out d3)
  have Dd3 := Dd2.keep d3
  have aX := B2.out.size
  have nXDd := Nat.ne_of_lt Dd2.hb
  have oXDd := Nat.ne_of_gt Dd2.hb
  have X3 : Bk3 w3 (w2.heap.size) (.int .i64 x0) (.int .i64 x1) (.int .i64 x2) := Bk3.of b3 (by simp <;> omega) (by intro j; simp [go_sem]) (by simp [go_sem]) (by simp [go_sem]) (by simp [go_sem])
  clear Dd2 b3 d3 B2
  have cDd_b := Dd3.hb
  have cDd_f := Dd3.fz
  have cDd_0 := Dd3.k0
  have cDd_1 := Dd3.k1
  have cDd_2 := Dd3.k2
  have cX_b := X3.hb
  have cX_f := X3.fz
  have cX_0 := X3.k0
  have cX_1 := X3.k1
  have cX_2 := X3.k2
  go_wp2_with fail
  clear cDd_b cDd_f cDd_0 cDd_1 cDd_2 cX_b cX_f cX_0 cX_1 cX_2
  refine (O2.out _).mono ?_; rintro e w4 ⟨rfl, b4⟩
  have d4 : Below w3.heap.size w3 w4 := below_step (by repeat (first | exact Below.refl _ _ | refine below_drewN ?_ _ | refine Below.drew ?_ | refine Below.setCell ?_ (by first | (simp; done) | (simp; omega) | omega) _ | refine Below.alloc ?_ (by first | (simp; done) | (simp; omega) | omega) _)) b4
  have B4 := Lib.hid (below_step B3.out d4)
  have Dd4 := Dd3.keep d4
  have X4 := X3.keep d4
  have aA := B3.out.size
  have nADd := Nat.ne_of_lt Dd3.hb
  have oADd := Nat.ne_of_gt Dd3.hb
  have nAX := Nat.ne_of_lt X3.hb
  have oAX := Nat.ne_of_gt X3.hb
  have A4 : Bk3 w4 (w3.heap.size) (.int .i64 Y) (.int .i64 k) (.int .i64 D) := Bk3.of b4 (by simp <;> omega) (by intro j; simp [go_sem]) (by simp [go_sem]) (by simp [go_sem]) (by simp [go_sem])
  clear Dd3 X3 b4 d4 B3
  have cDd_b := Dd4.hb
  have cDd_f := Dd4.fz
  have cDd_0 := Dd4.k0
  have cDd_1 := Dd4.k1
  have cDd_2 := Dd4.k2
  have cX_b := X4.hb
  have cX_f := X4.fz
  have cX_0 := X4.k0
  have cX_1 := X4.k1
  have cX_2 := X4.k2
  have cA_b := A4.hb
  have cA_f := A4.fz
  have cA_0 := A4.k0
  have cA_1 := A4.k1
  have cA_2 := A4.k2
  go_wp2_with fail
  clear cDd_b cDd_f cDd_0 cDd_1 cDd_2 cX_b cX_f cX_0 cX_1 cX_2 cA_b cA_f cA_0 cA_1 cA_2
  refine wp_named ?_; intro w5 hw5
  have d5 : Below w4.heap.size w4 w5 := by rw [hw5]; exact (by repeat (first | exact Below.refl _ _ | refine below_drewN ?_ _ | refine Below.drew ?_ | refine Below.setCell ?_ (by first | (simp; done) | (simp; omega) | omega) _ | refine Below.alloc ?_ (by first | (simp; done) | (simp; omega) | omega) _))
  have B5 := Lib.hid (below_step B4.out d5)
  have Dd5 := Dd4.keep d5
  have X5 := X4.keep d5
  have A5 := A4.keep d5
  have aBb := B4.out.size
  have nBbDd := Nat.ne_of_lt Dd4.hb
  have oBbDd := Nat.ne_of_gt Dd4.hb
  have nBbX := Nat.ne_of_lt X4.hb
  have oBbX := Nat.ne_of_gt X4.hb
  have nBbA := Nat.ne_of_lt A4.hb
  have oBbA := Nat.ne_of_gt A4.hb
  have Bb5 : Bk3 w5 (w4.heap.size) (.int .i64 ((Y + 1))) (.int .i64 (1)) (.int .i64 D) := by rw [hw5]; exact ⟨by simp <;> omega, by intro j; simp [go_sem], by simp [go_sem], by simp [go_sem], by simp [go_sem]⟩
  clear Dd4 X4 A4 d5 hw5 B4
  have qDd_0 := cell_regrown Dd5.k0
  have qDd_1 := cell_regrown Dd5.k1
  have qDd_2 := cell_regrown Dd5.k2
  have qX_0 := cell_regrown X5.k0
  have qX_1 := cell_regrown X5.k1
  have qX_2 := cell_regrown X5.k2
  have qA_0 := cell_regrown A5.k0
  have qA_1 := cell_regrown A5.k1
  have qA_2 := cell_regrown A5.k2
  have qBb_0 := cell_regrown Bb5.k0
  have qBb_1 := cell_regrown Bb5.k1
  have qBb_2 := cell_regrown Bb5.k2
  refine wp_region_qb (w := w5) (by kernel_rfl) (by kernel_rfl) (by repeat (first | exact Below.refl _ _ | refine below_drewN ?_ _ | refine Below.drew ?_ | refine Below.setCell ?_ (by first | (simp; done) | (simp; omega) | omega) _ | refine Below.alloc ?_ (by first | (simp; done) | (simp; omega) | omega) _)) ?_
  repeat (any_goals (first | go_big_quiet_step (first | (go_at_call 45; exact Calls.regrown_of (WK.out _))) | quiet_step (first | (go_at_call 45; exact Calls.regrown_of (WK.out _)))))
  refine wpQuiet_nil ?_
  intro w6 hq
  have b6 : Below w5.heap.size w5 w6 := by obtain ⟨p, hq⟩ := hq; rw [hq]; exact below_regrown _ _ _
  clear hq qDd_0 qDd_1 qDd_2 qX_0 qX_1 qX_2 qA_0 qA_1 qA_2 qBb_0 qBb_1 qBb_2
  have d6 : Below w5.heap.size w5 w6 := below_step (by repeat (first | exact Below.refl _ _ | refine below_drewN ?_ _ | refine Below.drew ?_ | refine Below.setCell ?_ (by first | (simp; done) | (simp; omega) | omega) _ | refine Below.alloc ?_ (by first | (simp; done) | (simp; omega) | omega) _)) b6
  have B6 := Lib.hid (below_step B5.out d6)
  have Dd6 := Dd5.keep d6
  have X6 := X5.keep d6
  have A6 := A5.keep d6
  have Bb6 := Bb5.keep d6
  clear Dd5 X5 A5 Bb5 b6 d6 B5
  have cDd_b := Dd6.hb
  have cDd_f := Dd6.fz
  have cDd_0 := Dd6.k0
  have cDd_1 := Dd6.k1
  have cDd_2 := Dd6.k2
  have cX_b := X6.hb
  have cX_f := X6.fz
  have cX_0 := X6.k0
  have cX_1 := X6.k1
  have cX_2 := X6.k2
  have cA_b := A6.hb
  have cA_f := A6.fz
  have cA_0 := A6.k0
  have cA_1 := A6.k1
  have cA_2 := A6.k2
  have cBb_b := Bb6.hb
  have cBb_f := Bb6.fz
  have cBb_0 := Bb6.k0
  have cBb_1 := Bb6.k1
  have cBb_2 := Bb6.k2
  go_wp2_with fail
  clear cDd_b cDd_f cDd_0 cDd_1 cDd_2 cX_b cX_f cX_0 cX_1 cX_2 cA_b cA_f cA_0 cA_1 cA_2 cBb_b cBb_f cBb_0 cBb_1 cBb_2
  go_ret
  exact ⟨rfl, (by have hz := B6.out.size; repeat (first | exact B6.out | refine below_drewN ?_ _ | refine Below.drew ?_ | refine Below.setCell ?_ (by first | omega | (simp; done) | (simp; omega)) _ | refine Below.alloc ?_ (by first | omega | (simp; done) | (simp; omega)) _))⟩
theorem wsteps_walk (y m d : Int) (w : World) (htab : Lib.TabIs Tryd.prog w "internal/strconv.uint64pow10" .u64 Lib.pow10Tab) :
    Calls Tryd.prog 9 #[.agg #[.int .i64 y, .int .i64 m, .int .i64 d]] w fun e w' => e = .returned (.bool true) ∧ Below w.heap.size w w' := by
  cases h : Mo.dok y m d 7
  · exact wsteps_a y m d w htab h
  · cases h1 : Wk.wok y m d
    · exact wsteps_n1 y m d w htab h h1
    · cases h2 : Wk.wok (Cal.dY (Cal.num y m d + 7)) (Cal.dM (Cal.num y m d + 7)) (Cal.dD (Cal.num y m d + 7))
      · exact wsteps_n2 y m d w htab h h1 h2
      · have e7 := Cal.date_num (Cal.num y m d + 7)
        have g1 := h1; have g2 := h2
        unfold Wk.wok at g1 g2
        rw [e7] at g2
        simp only [Bool.and_eq_true] at g1 g2
        obtain ⟨-, a1, a2⟩ := g1
        obtain ⟨-, b1, -⟩ := g2
        obtain ⟨ed, hc⟩ := Wk.next_of a1 b1 a2
        have hr := a2
        unfold Wk.rB at hr
        simp only [Bool.and_eq_true, decide_eq_true_eq] at hr
        obtain ⟨k0, k1, -, -⟩ := hr
        have yb := Wk.wks_y k0 k1
        have kb : Wk.wk (Cal.num y m d) ≤ 53 := by have := (Wk.wks_is yb.1 yb.2).1; omega
        have HO := wof_c y m d _ _ _ h1 rfl rfl rfl
        rcases hc with ⟨c1, c2⟩ | ⟨c1, c2, c3⟩
        · refine wsteps_y1 y m d _ _ _ w htab h yb ⟨k0, kb⟩ HO ?_
          exact wof_c _ _ _ _ _ _ h2 (by rw [e7]; exact c1) (by rw [e7]; exact c2) (by rw [e7]; exact ed)
        · refine wsteps_y2 y m d _ _ _ w htab h yb ⟨k0, kb⟩ HO ?_ c3
          exact wof_c _ _ _ _ _ _ h2 (by rw [e7]; exact c1) (by rw [e7]; exact c2) (by rw [e7]; exact ed)
end Go.Proofs.YtcmnfbbccacpcaaDoor

