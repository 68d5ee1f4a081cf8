/- The answers that noontidelaw07.lives asks for: it is true. -/
import Derived.Test.YtfcabofhlgmkjaaDoorWkT
set_option linter.unusedVariables false
set_option linter.unusedSimpArgs false
namespace Go.Proofs.YtfcabofhlgmkjaaDoor
open Go.RowKit Go.Sort

theorem wof_c (y m d Y K D : Int) (h : Wk.wok y m d = true) (h1 : Wk.wy (Cal.num y m d) = Y) (h2 : Wk.wk (Cal.num y m d) = K) (h3 : Wk.dow (Cal.num y m d) = D) (w : World) :
    Calls Tryd.prog 12 #[.agg #[.int .i64 y, .int .i64 m, .int .i64 d]] w fun e w' => e = .returned (.tuple #[.agg #[.int .i64 Y, .int .i64 K, .int .i64 D], .int .i64 0]) ∧ Below w.heap.size w w' := by
  have := wof_any y m d w
  rw [h, h1, h2, h3] at this
  exact this
theorem wof_n (y m d : Int) (h : Wk.wok y m d = false) (w : World) :
    Calls Tryd.prog 12 #[.agg #[.int .i64 y, .int .i64 m, .int .i64 d]] w fun e w' => e = .returned (.tuple #[.agg #[.int .i64 0, .int .i64 0, .int .i64 0], .int .i64 1]) ∧ Below w.heap.size w w' := by
  have := wof_any y m d w
  rw [h] at this
  exact this
theorem wdate_c (y k d Y M D : Int) (h : Wk.rB y k d = true) (h1 : Cal.dY (Wk.dn y k d) = Y) (h2 : Cal.dM (Wk.dn y k d) = M) (h3 : Cal.dD (Wk.dn y k d) = D) (w : World) :
    Calls Tryd.prog 14 #[.agg #[.int .i64 y, .int .i64 k, .int .i64 d]] w fun e w' => e = .returned (.tuple #[.agg #[.int .i64 Y, .int .i64 M, .int .i64 D], .int .i64 0]) ∧ Below w.heap.size w w' := by
  have := wdate_any y k d w
  rw [h, h1, h2, h3] at this
  exact this
theorem wtext_c (y k d : Int) (l : List UInt8) (h : Wk.tx y k d = l) (w : World) (htab : Lib.TabIs Tryd.prog w "internal/strconv.uint64pow10" .u64 Lib.pow10Tab) :
    Calls Tryd.prog 20 #[.agg #[.int .i64 y, .int .i64 k, .int .i64 d]] w fun e w' => e = .returned (.string ⟨l.toArray⟩) ∧ Below w.heap.size w w' := by
  have := wtext_any y k d w htab
  rw [h] at this
  exact this
theorem weeks_at (y n : Int) (h : Wk.wks y = n) (w : World) : Calls Tryd.prog 16 #[.int .i64 y] w fun e w' => e = .returned (.int .i64 n) ∧ Below w.heap.size w w' := by
  have := weeks_any y w
  rw [h] at this
  exact this
theorem wright_c (y k d : Int) (b : Bool) (h : Wk.rB y k d = b) (w : World) : Calls Tryd.prog 18 #[.agg #[.int .i64 y, .int .i64 k, .int .i64 d]] w fun e w' => e = .returned (.bool b) ∧ Below w.heap.size w w' := by
  have := wright_any y k d w
  rw [h] at this
  exact this

set_option maxHeartbeats 4000000 in
set_option maxRecDepth 100000 in
theorem lives7 (w : World) (htab : Lib.TabIs Tryd.prog w "internal/strconv.uint64pow10" .u64 Lib.pow10Tab) :
    Calls Tryd.prog 22 #[] w fun e w' => e = .returned (.bool true) ∧ Below w.heap.size w w' := by
  have T0 := Lib.hid htab; clear htab
  have O1 := Lib.hid (wof_c 2021 1 1 2020 53 5 (by decide +kernel) (by decide +kernel) (by decide +kernel) (by decide +kernel))
  have O2 := Lib.hid (wof_c 2024 12 30 2025 1 1 (by decide +kernel) (by decide +kernel) (by decide +kernel) (by decide +kernel))
  have O3 := Lib.hid (wdate_c 2020 53 5 2021 1 1 (by decide +kernel) (by decide +kernel) (by decide +kernel) (by decide +kernel))
  have O4 := Lib.hid (wof_n 0 0 0 (by decide +kernel))
  have O5 := Lib.hid (wdate_no 2021 53 1 · (by decide +kernel))
  have O6 := Lib.hid (wof_n 40000 6 1 (by decide +kernel))
  have X1 := Lib.hid (wtext_c 2020 53 5 [50, 48, 50, 48, 45, 87, 53, 51, 45, 53] (by decide +kernel))
  have X2 := Lib.hid (wtext_c 2025 1 1 [50, 48, 50, 53, 45, 87, 48, 49, 45, 49] (by decide +kernel))
  have X3 := Lib.hid (wtext_c 0 0 0 [] (by decide +kernel))
  have K1 := Lib.hid (weeks_at 2020 53 (by decide +kernel)); have K2 := Lib.hid (weeks_at 2021 52 (by decide +kernel)); have K3 := Lib.hid (weeks_at 40000 0 (by decide +kernel))
  have R1 := Lib.hid (wright_c 2020 53 5 true (by decide +kernel)); have R2 := Lib.hid (wright_c 0 0 0 false (by decide +kernel))
  go_enter Tryd.func22, Tryd.ntmps22
  go_wp2_with fail
  refine (O1.out _).mono ?_; rintro e w1 ⟨rfl, b1⟩
  have d1 : Below w.heap.size w w1 := below_step (by repeat (first | exact Below.refl _ _ | refine below_drewN ?_ _ | refine Below.drew ?_ | refine Below.setCell ?_ (by first | (simp; done) | (simp; omega) | omega) _ | refine Below.alloc ?_ (by first | (simp; done) | (simp; omega) | omega) _)) b1
  have B1 := Lib.hid d1
  clear b1 d1
  go_wp2_with fail
  refine (O2.out _).mono ?_; rintro e w2 ⟨rfl, b2⟩
  have d2 : Below w1.heap.size w1 w2 := below_step (by repeat (first | exact Below.refl _ _ | refine below_drewN ?_ _ | refine Below.drew ?_ | refine Below.setCell ?_ (by first | (simp; done) | (simp; omega) | omega) _ | refine Below.alloc ?_ (by first | (simp; done) | (simp; omega) | omega) _)) b2
  have B2 := Lib.hid (below_step B1.out d2)
  have aA := B1.out.size
  have A2 : Bk3 w2 (w1.heap.size) (.int .i64 2020) (.int .i64 53) (.int .i64 5) := Bk3.of b2 (by simp <;> omega) (by intro j; simp [go_sem]) (by simp [go_sem]) (by simp [go_sem]) (by simp [go_sem])
  clear b2 d2 B1
  have cA_b := A2.hb
  have cA_f := A2.fz
  have cA_0 := A2.k0
  have cA_1 := A2.k1
  have cA_2 := A2.k2
  go_wp2_with fail
  clear cA_b cA_f cA_0 cA_1 cA_2
  refine (O3.out _).mono ?_; rintro e w3 ⟨rfl, b3⟩
  have d3 : Below w2.heap.size w2 w3 := below_step (by repeat (first | exact Below.refl _ _ | refine below_drewN ?_ _ | refine Below.drew ?_ | refine Below.setCell ?_ (by first | (simp; done) | (simp; omega) | omega) _ | refine Below.alloc ?_ (by first | (simp; done) | (simp; omega) | omega) _)) b3
  have B3 := Lib.hid (below_step B2.out d3)
  have A3 := A2.keep d3
  have aBb := B2.out.size
  have nBbA := Nat.ne_of_lt A2.hb
  have oBbA := Nat.ne_of_gt A2.hb
  have Bb3 : Bk3 w3 (w2.heap.size) (.int .i64 2025) (.int .i64 1) (.int .i64 1) := Bk3.of b3 (by simp <;> omega) (by intro j; simp [go_sem]) (by simp [go_sem]) (by simp [go_sem]) (by simp [go_sem])
  clear A2 b3 d3 B2
  have cA_b := A3.hb
  have cA_f := A3.fz
  have cA_0 := A3.k0
  have cA_1 := A3.k1
  have cA_2 := A3.k2
  have cBb_b := Bb3.hb
  have cBb_f := Bb3.fz
  have cBb_0 := Bb3.k0
  have cBb_1 := Bb3.k1
  have cBb_2 := Bb3.k2
  go_wp2_with fail
  clear cA_b cA_f cA_0 cA_1 cA_2 cBb_b cBb_f cBb_0 cBb_1 cBb_2
  refine (O4.out _).mono ?_; rintro e w4 ⟨rfl, b4⟩
  have d4 : Below w3.heap.size w3 w4 := below_step (by repeat (first | exact Below.refl _ _ | refine below_drewN ?_ _ | refine Below.drew ?_ | refine Below.setCell ?_ (by first | (simp; done) | (simp; omega) | omega) _ | refine Below.alloc ?_ (by first | (simp; done) | (simp; omega) | omega) _)) b4
  have B4 := Lib.hid (below_step B3.out d4)
  have A4 := A3.keep d4
  have Bb4 := Bb3.keep d4
  have aC := B3.out.size
  have nCA := Nat.ne_of_lt A3.hb
  have oCA := Nat.ne_of_gt A3.hb
  have nCBb := Nat.ne_of_lt Bb3.hb
  have oCBb := Nat.ne_of_gt Bb3.hb
  have C4 : Bk3 w4 (w3.heap.size) (.int .i64 2021) (.int .i64 1) (.int .i64 1) := Bk3.of b4 (by simp <;> omega) (by intro j; simp [go_sem]) (by simp [go_sem]) (by simp [go_sem]) (by simp [go_sem])
  clear A3 Bb3 b4 d4 B3
  have cA_b := A4.hb
  have cA_f := A4.fz
  have cA_0 := A4.k0
  have cA_1 := A4.k1
  have cA_2 := A4.k2
  have cBb_b := Bb4.hb
  have cBb_f := Bb4.fz
  have cBb_0 := Bb4.k0
  have cBb_1 := Bb4.k1
  have cBb_2 := Bb4.k2
  have cC_b := C4.hb
  have cC_f := C4.fz
  have cC_0 := C4.k0
  have cC_1 := C4.k1
  have cC_2 := C4.k2
  go_wp2_with fail
  clear cA_b cA_f cA_0 cA_1 cA_2 cBb_b cBb_f cBb_0 cBb_1 cBb_2 cC_b cC_f cC_0 cC_1 cC_2
  refine (O5.out _).mono ?_; rintro e w5 ⟨rfl, b5⟩
  have d5 : Below w4.heap.size w4 w5 := below_step (by repeat (first | exact Below.refl _ _ | refine below_drewN ?_ _ | refine Below.drew ?_ | refine Below.setCell ?_ (by first | (simp; done) | (simp; omega) | omega) _ | refine Below.alloc ?_ (by first | (simp; done) | (simp; omega) | omega) _)) b5
  have B5 := Lib.hid (below_step B4.out d5)
  have A5 := A4.keep d5
  have Bb5 := Bb4.keep d5
  have C5 := C4.keep d5
  have aD := B4.out.size
  have nDA := Nat.ne_of_lt A4.hb
  have oDA := Nat.ne_of_gt A4.hb
  have nDBb := Nat.ne_of_lt Bb4.hb
  have oDBb := Nat.ne_of_gt Bb4.hb
  have nDC := Nat.ne_of_lt C4.hb
  have oDC := Nat.ne_of_gt C4.hb
  have D5 : Bk3 w5 (w4.heap.size) (.int .i64 0) (.int .i64 0) (.int .i64 0) := Bk3.of b5 (by simp <;> omega) (by intro j; simp [go_sem]) (by simp [go_sem]) (by simp [go_sem]) (by simp [go_sem])
  clear A4 Bb4 C4 b5 d5 B4
  have cA_b := A5.hb
  have cA_f := A5.fz
  have cA_0 := A5.k0
  have cA_1 := A5.k1
  have cA_2 := A5.k2
  have cBb_b := Bb5.hb
  have cBb_f := Bb5.fz
  have cBb_0 := Bb5.k0
  have cBb_1 := Bb5.k1
  have cBb_2 := Bb5.k2
  have cC_b := C5.hb
  have cC_f := C5.fz
  have cC_0 := C5.k0
  have cC_1 := C5.k1
  have cC_2 := C5.k2
  have cD_b := D5.hb
  have cD_f := D5.fz
  have cD_0 := D5.k0
  have cD_1 := D5.k1
  have cD_2 := D5.k2
  go_wp2_with fail
  clear cA_b cA_f cA_0 cA_1 cA_2 cBb_b cBb_f cBb_0 cBb_1 cBb_2 cC_b cC_f cC_0 cC_1 cC_2 cD_b cD_f cD_0 cD_1 cD_2
  refine (O6.out _).mono ?_; rintro e w6 ⟨rfl, b6⟩
  have d6 : Below w5.heap.size w5 w6 := below_step (by repeat (first | exact Below.refl _ _ | refine below_drewN ?_ _ | refine Below.drew ?_ | refine Below.setCell ?_ (by first | (simp; done) | (simp; omega) | omega) _ | refine Below.alloc ?_ (by first | (simp; done) | (simp; omega) | omega) _)) b6
  have B6 := Lib.hid (below_step B5.out d6)
  have A6 := A5.keep d6
  have Bb6 := Bb5.keep d6
  have C6 := C5.keep d6
  have D6 := D5.keep d6
  have aE := B5.out.size
  have nEA := Nat.ne_of_lt A5.hb
  have oEA := Nat.ne_of_gt A5.hb
  have nEBb := Nat.ne_of_lt Bb5.hb
  have oEBb := Nat.ne_of_gt Bb5.hb
  have nEC := Nat.ne_of_lt C5.hb
  have oEC := Nat.ne_of_gt C5.hb
  have nED := Nat.ne_of_lt D5.hb
  have oED := Nat.ne_of_gt D5.hb
  have E6 : Bk3 w6 (w5.heap.size) (.int .i64 0) (.int .i64 0) (.int .i64 0) := Bk3.of b6 (by simp <;> omega) (by intro j; simp [go_sem]) (by simp [go_sem]) (by simp [go_sem]) (by simp [go_sem])
  clear A5 Bb5 C5 D5 b6 d6 B5
  have cA_b := A6.hb
  have cA_f := A6.fz
  have cA_0 := A6.k0
  have cA_1 := A6.k1
  have cA_2 := A6.k2
  have cBb_b := Bb6.hb
  have cBb_f := Bb6.fz
  have cBb_0 := Bb6.k0
  have cBb_1 := Bb6.k1
  have cBb_2 := Bb6.k2
  have cC_b := C6.hb
  have cC_f := C6.fz
  have cC_0 := C6.k0
  have cC_1 := C6.k1
  have cC_2 := C6.k2
  have cD_b := D6.hb
  have cD_f := D6.fz
  have cD_0 := D6.k0
  have cD_1 := D6.k1
  have cD_2 := D6.k2
  have cE_b := E6.hb
  have cE_f := E6.fz
  have cE_0 := E6.k0
  have cE_1 := E6.k1
  have cE_2 := E6.k2
  go_wp2_with fail
  clear cA_b cA_f cA_0 cA_1 cA_2 cBb_b cBb_f cBb_0 cBb_1 cBb_2 cC_b cC_f cC_0 cC_1 cC_2 cD_b cD_f cD_0 cD_1 cD_2 cE_b cE_f cE_0 cE_1 cE_2
  refine (X1.out _ (var_keep (by repeat (first | exact Below.refl _ _ | refine below_drewN ?_ _ | refine Below.drew ?_ | refine Below.setCell ?_ (by first | (simp; done) | (simp; omega) | omega) _ | refine Below.alloc ?_ (by first | (simp; done) | (simp; omega) | omega) _)) (var_keep B6.out T0.out))).mono ?_; rintro e w7 ⟨rfl, b7⟩
  have d7 : Below w6.heap.size w6 w7 := below_step (by repeat (first | exact Below.refl _ _ | refine below_drewN ?_ _ | refine Below.drew ?_ | refine Below.setCell ?_ (by first | (simp; done) | (simp; omega) | omega) _ | refine Below.alloc ?_ (by first | (simp; done) | (simp; omega) | omega) _)) b7
  have B7 := Lib.hid (below_step B6.out d7)
  have A7 := A6.keep d7
  have Bb7 := Bb6.keep d7
  have C7 := C6.keep d7
  have D7 := D6.keep d7
  have E7 := E6.keep d7
  have aF := B6.out.size
  have nFA := Nat.ne_of_lt A6.hb
  have oFA := Nat.ne_of_gt A6.hb
  have nFBb := Nat.ne_of_lt Bb6.hb
  have oFBb := Nat.ne_of_gt Bb6.hb
  have nFC := Nat.ne_of_lt C6.hb
  have oFC := Nat.ne_of_gt C6.hb
  have nFD := Nat.ne_of_lt D6.hb
  have oFD := Nat.ne_of_gt D6.hb
  have nFE := Nat.ne_of_lt E6.hb
  have oFE := Nat.ne_of_gt E6.hb
  have F7 : Bk3 w7 (w6.heap.size) (.int .i64 0) (.int .i64 0) (.int .i64 0) := Bk3.of b7 (by simp <;> omega) (by intro j; simp [go_sem]) (by simp [go_sem]) (by simp [go_sem]) (by simp [go_sem])
  clear A6 Bb6 C6 D6 E6 b7 d7 B6
  have cA_b := A7.hb
  have cA_f := A7.fz
  have cA_0 := A7.k0
  have cA_1 := A7.k1
  have cA_2 := A7.k2
  have cBb_b := Bb7.hb
  have cBb_f := Bb7.fz
  have cBb_0 := Bb7.k0
  have cBb_1 := Bb7.k1
  have cBb_2 := Bb7.k2
  have cC_b := C7.hb
  have cC_f := C7.fz
  have cC_0 := C7.k0
  have cC_1 := C7.k1
  have cC_2 := C7.k2
  have cD_b := D7.hb
  have cD_f := D7.fz
  have cD_0 := D7.k0
  have cD_1 := D7.k1
  have cD_2 := D7.k2
  have cE_b := E7.hb
  have cE_f := E7.fz
  have cE_0 := E7.k0
  have cE_1 := E7.k1
  have cE_2 := E7.k2
  have cF_b := F7.hb
  have cF_f := F7.fz
  have cF_0 := F7.k0
  have cF_1 := F7.k1
  have cF_2 := F7.k2
  go_wp2_with fail
  clear cA_b cA_f cA_0 cA_1 cA_2 cBb_b cBb_f cBb_0 cBb_1 cBb_2 cC_b cC_f cC_0 cC_1 cC_2 cD_b cD_f cD_0 cD_1 cD_2 cE_b cE_f cE_0 cE_1 cE_2 cF_b cF_f cF_0 cF_1 cF_2
  refine (X2.out _ (var_keep (by repeat (first | exact Below.refl _ _ | refine below_drewN ?_ _ | refine Below.drew ?_ | refine Below.setCell ?_ (by first | (simp; done) | (simp; omega) | omega) _ | refine Below.alloc ?_ (by first | (simp; done) | (simp; omega) | omega) _)) (var_keep B7.out T0.out))).mono ?_; rintro e w8 ⟨rfl, b8⟩
  have d8 : Below w7.heap.size w7 w8 := below_step (by repeat (first | exact Below.refl _ _ | refine below_drewN ?_ _ | refine Below.drew ?_ | refine Below.setCell ?_ (by first | (simp; done) | (simp; omega) | omega) _ | refine Below.alloc ?_ (by first | (simp; done) | (simp; omega) | omega) _)) b8
  have B8 := Lib.hid (below_step B7.out d8)
  have A8 := A7.keep d8
  have Bb8 := Bb7.keep d8
  have C8 := C7.keep d8
  have D8 := D7.keep d8
  have E8 := E7.keep d8
  have F8 := F7.keep d8
  clear A7 Bb7 C7 D7 E7 F7 b8 d8 B7
  have cA_b := A8.hb
  have cA_f := A8.fz
  have cA_0 := A8.k0
  have cA_1 := A8.k1
  have cA_2 := A8.k2
  have cBb_b := Bb8.hb
  have cBb_f := Bb8.fz
  have cBb_0 := Bb8.k0
  have cBb_1 := Bb8.k1
  have cBb_2 := Bb8.k2
  have cC_b := C8.hb
  have cC_f := C8.fz
  have cC_0 := C8.k0
  have cC_1 := C8.k1
  have cC_2 := C8.k2
  have cD_b := D8.hb
  have cD_f := D8.fz
  have cD_0 := D8.k0
  have cD_1 := D8.k1
  have cD_2 := D8.k2
  have cE_b := E8.hb
  have cE_f := E8.fz
  have cE_0 := E8.k0
  have cE_1 := E8.k1
  have cE_2 := E8.k2
  have cF_b := F8.hb
  have cF_f := F8.fz
  have cF_0 := F8.k0
  have cF_1 := F8.k1
  have cF_2 := F8.k2
  go_wp2_with fail
  clear cA_b cA_f cA_0 cA_1 cA_2 cBb_b cBb_f cBb_0 cBb_1 cBb_2 cC_b cC_f cC_0 cC_1 cC_2 cD_b cD_f cD_0 cD_1 cD_2 cE_b cE_f cE_0 cE_1 cE_2 cF_b cF_f cF_0 cF_1 cF_2
  refine (K1.out _).mono ?_; rintro e w9 ⟨rfl, b9⟩
  have d9 : Below w8.heap.size w8 w9 := below_step (by repeat (first | exact Below.refl _ _ | refine below_drewN ?_ _ | refine Below.drew ?_ | refine Below.setCell ?_ (by first | (simp; done) | (simp; omega) | omega) _ | refine Below.alloc ?_ (by first | (simp; done) | (simp; omega) | omega) _)) b9
  have B9 := Lib.hid (below_step B8.out d9)
  have A9 := A8.keep d9
  have Bb9 := Bb8.keep d9
  have C9 := C8.keep d9
  have D9 := D8.keep d9
  have E9 := E8.keep d9
  have F9 := F8.keep d9
  clear A8 Bb8 C8 D8 E8 F8 b9 d9 B8
  have cA_b := A9.hb
  have cA_f := A9.fz
  have cA_0 := A9.k0
  have cA_1 := A9.k1
  have cA_2 := A9.k2
  have cBb_b := Bb9.hb
  have cBb_f := Bb9.fz
  have cBb_0 := Bb9.k0
  have cBb_1 := Bb9.k1
  have cBb_2 := Bb9.k2
  have cC_b := C9.hb
  have cC_f := C9.fz
  have cC_0 := C9.k0
  have cC_1 := C9.k1
  have cC_2 := C9.k2
  have cD_b := D9.hb
  have cD_f := D9.fz
  have cD_0 := D9.k0
  have cD_1 := D9.k1
  have cD_2 := D9.k2
  have cE_b := E9.hb
  have cE_f := E9.fz
  have cE_0 := E9.k0
  have cE_1 := E9.k1
  have cE_2 := E9.k2
  have cF_b := F9.hb
  have cF_f := F9.fz
  have cF_0 := F9.k0
  have cF_1 := F9.k1
  have cF_2 := F9.k2
  go_wp2_with fail
  clear cA_b cA_f cA_0 cA_1 cA_2 cBb_b cBb_f cBb_0 cBb_1 cBb_2 cC_b cC_f cC_0 cC_1 cC_2 cD_b cD_f cD_0 cD_1 cD_2 cE_b cE_f cE_0 cE_1 cE_2 cF_b cF_f cF_0 cF_1 cF_2
  refine (K2.out _).mono ?_; rintro e w10 ⟨rfl, b10⟩
  have d10 : Below w9.heap.size w9 w10 := below_step (by repeat (first | exact Below.refl _ _ | refine below_drewN ?_ _ | refine Below.drew ?_ | refine Below.setCell ?_ (by first | (simp; done) | (simp; omega) | omega) _ | refine Below.alloc ?_ (by first | (simp; done) | (simp; omega) | omega) _)) b10
  have B10 := Lib.hid (below_step B9.out d10)
  have A10 := A9.keep d10
  have Bb10 := Bb9.keep d10
  have C10 := C9.keep d10
  have D10 := D9.keep d10
  have E10 := E9.keep d10
  have F10 := F9.keep d10
  clear A9 Bb9 C9 D9 E9 F9 b10 d10 B9
  have cA_b := A10.hb
  have cA_f := A10.fz
  have cA_0 := A10.k0
  have cA_1 := A10.k1
  have cA_2 := A10.k2
  have cBb_b := Bb10.hb
  have cBb_f := Bb10.fz
  have cBb_0 := Bb10.k0
  have cBb_1 := Bb10.k1
  have cBb_2 := Bb10.k2
  have cC_b := C10.hb
  have cC_f := C10.fz
  have cC_0 := C10.k0
  have cC_1 := C10.k1
  have cC_2 := C10.k2
  have cD_b := D10.hb
  have cD_f := D10.fz
  have cD_0 := D10.k0
  have cD_1 := D10.k1
  have cD_2 := D10.k2
  have cE_b := E10.hb
  have cE_f := E10.fz
  have cE_0 := E10.k0
  have cE_1 := E10.k1
  have cE_2 := E10.k2
  have cF_b := F10.hb
  have cF_f := F10.fz
  have cF_0 := F10.k0
  have cF_1 := F10.k1
  have cF_2 := F10.k2
  go_wp2_with fail
  clear cA_b cA_f cA_0 cA_1 cA_2 cBb_b cBb_f cBb_0 cBb_1 cBb_2 cC_b cC_f cC_0 cC_1 cC_2 cD_b cD_f cD_0 cD_1 cD_2 cE_b cE_f cE_0 cE_1 cE_2 cF_b cF_f cF_0 cF_1 cF_2
  refine (K3.out _).mono ?_; rintro e w11 ⟨rfl, b11⟩
  have d11 : Below w10.heap.size w10 w11 := below_step (by repeat (first | exact Below.refl _ _ | refine below_drewN ?_ _ | refine Below.drew ?_ | refine Below.setCell ?_ (by first | (simp; done) | (simp; omega) | omega) _ | refine Below.alloc ?_ (by first | (simp; done) | (simp; omega) | omega) _)) b11
  have B11 := Lib.hid (below_step B10.out d11)
  have A11 := A10.keep d11
  have Bb11 := Bb10.keep d11
  have C11 := C10.keep d11
  have D11 := D10.keep d11
  have E11 := E10.keep d11
  have F11 := F10.keep d11
  clear A10 Bb10 C10 D10 E10 F10 b11 d11 B10
  have cA_b := A11.hb
  have cA_f := A11.fz
  have cA_0 := A11.k0
  have cA_1 := A11.k1
  have cA_2 := A11.k2
  have cBb_b := Bb11.hb
  have cBb_f := Bb11.fz
  have cBb_0 := Bb11.k0
  have cBb_1 := Bb11.k1
  have cBb_2 := Bb11.k2
  have cC_b := C11.hb
  have cC_f := C11.fz
  have cC_0 := C11.k0
  have cC_1 := C11.k1
  have cC_2 := C11.k2
  have cD_b := D11.hb
  have cD_f := D11.fz
  have cD_0 := D11.k0
  have cD_1 := D11.k1
  have cD_2 := D11.k2
  have cE_b := E11.hb
  have cE_f := E11.fz
  have cE_0 := E11.k0
  have cE_1 := E11.k1
  have cE_2 := E11.k2
  have cF_b := F11.hb
  have cF_f := F11.fz
  have cF_0 := F11.k0
  have cF_1 := F11.k1
  have cF_2 := F11.k2
  go_wp2_with fail
  clear cA_b cA_f cA_0 cA_1 cA_2 cBb_b cBb_f cBb_0 cBb_1 cBb_2 cC_b cC_f cC_0 cC_1 cC_2 cD_b cD_f cD_0 cD_1 cD_2 cE_b cE_f cE_0 cE_1 cE_2 cF_b cF_f cF_0 cF_1 cF_2
  refine (R1.out _).mono ?_; rintro e w12 ⟨rfl, b12⟩
  have d12 : Below w11.heap.size w11 w12 := below_step (by repeat (first | exact Below.refl _ _ | refine below_drewN ?_ _ | refine Below.drew ?_ | refine Below.setCell ?_ (by first | (simp; done) | (simp; omega) | omega) _ | refine Below.alloc ?_ (by first | (simp; done) | (simp; omega) | omega) _)) b12
  have B12 := Lib.hid (below_step B11.out d12)
  have A12 := A11.keep d12
  have Bb12 := Bb11.keep d12
  have C12 := C11.keep d12
  have D12 := D11.keep d12
  have E12 := E11.keep d12
  have F12 := F11.keep d12
  clear A11 Bb11 C11 D11 E11 F11 b12 d12 B11
  have cA_b := A12.hb
  have cA_f := A12.fz
  have cA_0 := A12.k0
  have cA_1 := A12.k1
  have cA_2 := A12.k2
  have cBb_b := Bb12.hb
  have cBb_f := Bb12.fz
  have cBb_0 := Bb12.k0
  have cBb_1 := Bb12.k1
  have cBb_2 := Bb12.k2
  have cC_b := C12.hb
  have cC_f := C12.fz
  have cC_0 := C12.k0
  have cC_1 := C12.k1
  have cC_2 := C12.k2
  have cD_b := D12.hb
  have cD_f := D12.fz
  have cD_0 := D12.k0
  have cD_1 := D12.k1
  have cD_2 := D12.k2
  have cE_b := E12.hb
  have cE_f := E12.fz
  have cE_0 := E12.k0
  have cE_1 := E12.k1
  have cE_2 := E12.k2
  have cF_b := F12.hb
  have cF_f := F12.fz
  have cF_0 := F12.k0
  have cF_1 := F12.k1
  have cF_2 := F12.k2
  go_wp2_with fail
  clear cA_b cA_f cA_0 cA_1 cA_2 cBb_b cBb_f cBb_0 cBb_1 cBb_2 cC_b cC_f cC_0 cC_1 cC_2 cD_b cD_f cD_0 cD_1 cD_2 cE_b cE_f cE_0 cE_1 cE_2 cF_b cF_f cF_0 cF_1 cF_2
  refine (R2.out _).mono ?_; rintro e w13 ⟨rfl, b13⟩
  have d13 : Below w12.heap.size w12 w13 := below_step (by repeat (first | exact Below.refl _ _ | refine below_drewN ?_ _ | refine Below.drew ?_ | refine Below.setCell ?_ (by first | (simp; done) | (simp; omega) | omega) _ | refine Below.alloc ?_ (by first | (simp; done) | (simp; omega) | omega) _)) b13
  have B13 := Lib.hid (below_step B12.out d13)
  have A13 := A12.keep d13
  have Bb13 := Bb12.keep d13
  have C13 := C12.keep d13
  have D13 := D12.keep d13
  have E13 := E12.keep d13
  have F13 := F12.keep d13
  clear A12 Bb12 C12 D12 E12 F12 b13 d13 B12
  have cA_b := A13.hb
  have cA_f := A13.fz
  have cA_0 := A13.k0
  have cA_1 := A13.k1
  have cA_2 := A13.k2
  have cBb_b := Bb13.hb
  have cBb_f := Bb13.fz
  have cBb_0 := Bb13.k0
  have cBb_1 := Bb13.k1
  have cBb_2 := Bb13.k2
  have cC_b := C13.hb
  have cC_f := C13.fz
  have cC_0 := C13.k0
  have cC_1 := C13.k1
  have cC_2 := C13.k2
  have cD_b := D13.hb
  have cD_f := D13.fz
  have cD_0 := D13.k0
  have cD_1 := D13.k1
  have cD_2 := D13.k2
  have cE_b := E13.hb
  have cE_f := E13.fz
  have cE_0 := E13.k0
  have cE_1 := E13.k1
  have cE_2 := E13.k2
  have cF_b := F13.hb
  have cF_f := F13.fz
  have cF_0 := F13.k0
  have cF_1 := F13.k1
  have cF_2 := F13.k2
  go_wp2_with fail
  clear cA_b cA_f cA_0 cA_1 cA_2 cBb_b cBb_f cBb_0 cBb_1 cBb_2 cC_b cC_f cC_0 cC_1 cC_2 cD_b cD_f cD_0 cD_1 cD_2 cE_b cE_f cE_0 cE_1 cE_2 cF_b cF_f cF_0 cF_1 cF_2
  refine (X3.out _ (var_keep (by repeat (first | exact Below.refl _ _ | refine below_drewN ?_ _ | refine Below.drew ?_ | refine Below.setCell ?_ (by first | (simp; done) | (simp; omega) | omega) _ | refine Below.alloc ?_ (by first | (simp; done) | (simp; omega) | omega) _)) (var_keep B13.out T0.out))).mono ?_; rintro e w14 ⟨rfl, b14⟩
  have d14 : Below w13.heap.size w13 w14 := below_step (by repeat (first | exact Below.refl _ _ | refine below_drewN ?_ _ | refine Below.drew ?_ | refine Below.setCell ?_ (by first | (simp; done) | (simp; omega) | omega) _ | refine Below.alloc ?_ (by first | (simp; done) | (simp; omega) | omega) _)) b14
  have B14 := Lib.hid (below_step B13.out d14)
  have A14 := A13.keep d14
  have Bb14 := Bb13.keep d14
  have C14 := C13.keep d14
  have D14 := D13.keep d14
  have E14 := E13.keep d14
  have F14 := F13.keep d14
  clear A13 Bb13 C13 D13 E13 F13 b14 d14 B13
  have cA_b := A14.hb
  have cA_f := A14.fz
  have cA_0 := A14.k0
  have cA_1 := A14.k1
  have cA_2 := A14.k2
  have cBb_b := Bb14.hb
  have cBb_f := Bb14.fz
  have cBb_0 := Bb14.k0
  have cBb_1 := Bb14.k1
  have cBb_2 := Bb14.k2
  have cC_b := C14.hb
  have cC_f := C14.fz
  have cC_0 := C14.k0
  have cC_1 := C14.k1
  have cC_2 := C14.k2
  have cD_b := D14.hb
  have cD_f := D14.fz
  have cD_0 := D14.k0
  have cD_1 := D14.k1
  have cD_2 := D14.k2
  have cE_b := E14.hb
  have cE_f := E14.fz
  have cE_0 := E14.k0
  have cE_1 := E14.k1
  have cE_2 := E14.k2
  have cF_b := F14.hb
  have cF_f := F14.fz
  have cF_0 := F14.k0
  have cF_1 := F14.k1
  have cF_2 := F14.k2
  go_wp2_with fail
  clear cA_b cA_f cA_0 cA_1 cA_2 cBb_b cBb_f cBb_0 cBb_1 cBb_2 cC_b cC_f cC_0 cC_1 cC_2 cD_b cD_f cD_0 cD_1 cD_2 cE_b cE_f cE_0 cE_1 cE_2 cF_b cF_f cF_0 cF_1 cF_2
  go_ret
  exact ⟨rfl, (by have hz := B14.out.size; repeat (first | exact B14.out | refine below_drewN ?_ _ | refine Below.drew ?_ | refine Below.setCell ?_ (by first | omega | (simp; done) | (simp; omega)) _ | refine Below.alloc ?_ (by first | omega | (simp; done) | (simp; omega)) _))⟩
end Go.Proofs.YtfcabofhlgmkjaaDoor

