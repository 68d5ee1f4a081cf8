/- The walk of JulianOrder: whatever is handed in, the law answers true; nothing old turns. -/
import Derived.Test.YtlehbnfocilcmaaLiv8
import Derived.Test.YtlehbnfocilcmaaJulON
set_option linter.unusedVariables false
set_option linter.unusedSimpArgs false
namespace Go.Proofs.Ytlehbnfocilcmaa
open Go.RowKit

namespace Fl
theorem kd_nan {x : Nat} (h : nan x = true) : kd (rk x) = 0 := by rw [rk_nan h]; rfl
theorem kd_fin {x : Nat} (h : fin x) : kd (rk x) ≠ 0 ∧ kd (rk x) ≠ 1 ∧ kd (rk x) ≠ 6 := by
  have hn : nan x = false := nan_false.2 (Nat.le_of_lt h)
  have hi : inf = 9218868437227405312 := rfl
  have hf : rg x < 9218868437227405312 := h
  unfold rk
  rw [hn]
  cases ng x
  · simp only [Bool.false_eq_true, if_false]
    unfold kd
    rw [if_neg (by omega), if_neg (by omega), if_neg (by omega), if_neg (by omega)]
    split
    · decide
    · rw [if_pos (by omega)]; decide
  · simp only [Bool.false_eq_true, if_false, if_true]
    unfold kd
    rw [if_neg (by omega), if_neg (by omega)]
    split
    · decide
    · rw [if_pos (by omega)]; decide
theorem kd_inf {x : Nat} (h : rg x = inf) : kd (rk x) = if ng x then 1 else 6 := by
  have hn : nan x = false := nan_false.2 (by omega)
  have hi : rg x = 9218868437227405312 := h
  unfold rk
  rw [hn]
  cases ng x
  · simp only [Bool.false_eq_true, if_false]
    rw [hi]; decide
  · simp only [Bool.false_eq_true, if_false, if_true]
    rw [hi]; decide
/-- What is left of a number that is none, or beyond all. -/
theorem parts_no {x y r : Nat} (hx : x < 18446744073709551616) (h : nan x = true ∨ rg x = inf) (hy : Rd .down x y) (hr : FOp .sub x y r) : nan r = true ∧ sameB y x = true := by
  rcases h with h | h
  · refine ⟨op_nan h (.inl rfl) hr, ?_⟩
    unfold sameB; rw [rk_nan h, rk_nan (hy.2.1 h)]; rfl
  · have e := hy.inf hx h
    subst e
    refine ⟨hr.nan ?_, by unfold sameB; simp⟩
    show Ieee.double.sub y y = none
    unfold Ieee.Format.sub
    rw [read_inf h]
    cases ng y <;> rfl
theorem fin_0 : fin 0 := by unfold fin; decide
theorem V_0 : V 0 = 0 := by unfold V; rw [show ng 0 = false by decide, show rg 0 = 0 by decide, val_0]; rfl
theorem ge_true {x y : Nat} (hx : fin x) (hy : fin y) (h : V y ≤ V x) : (FloatKind.f64.format.order x y == some Ordering.gt || FloatKind.f64.format.order x y == some Ordering.eq) = true := by
  rw [ord_gt hx hy, ord_eq hx hy]; simp; omega
theorem le_true {x y : Nat} (hx : fin x) (hy : fin y) (h : V x ≤ V y) : (FloatKind.f64.format.order x y == some Ordering.lt || FloatKind.f64.format.order x y == some Ordering.eq) = true := by
  rw [ord_lt hx hy, ord_eq hx hy]; simp; omega
end Fl
set_option maxHeartbeats 4000000 in
set_option maxRecDepth 100000 in
theorem jord_le_lo_no (t u : Int) (x : Nat) (w : World) (t0 : -9223372036854775808 ≤ t) (t1 : t ≤ 9223372036854775807) (u0 : -9223372036854775808 ≤ u) (u1 : u ≤ 9223372036854775807) (hx : x < 18446744073709551616) (ha : t ≤ u) (hb : t < -1096193779200) (hc : Fl.nan x = true ∨ Fl.rg x = Fl.inf) (hk : Fl.kd (Fl.rk x) = 0 ∨ Fl.kd (Fl.rk x) = 1 ∨ Fl.kd (Fl.rk x) = 6) :
    Calls Try.prog 8 #[.int .i64 t, .int .i64 u, .float .f64 x] w fun e w' => e = .returned (.bool true) ∧ Below w.heap.size w w' := by
  have g1 := (Fl.ord_gt (Fl.jd_mono ha t0 t1 u0 u1).1 (Fl.jd_mono ha t0 t1 u0 u1).2.1).trans (decide_eq_false (by have := (Fl.jd_mono ha t0 t1 u0 u1).2.2; omega))
  skip
  have HX := Lib.hid hx; have HC := Lib.hid hc; have HK := Lib.hid hk
  clear hx hc hk
  go_enter Try.func8, Try.ntmps8
  go_wp2_with fail
  refine (lives8 _).mono ?_; rintro e w1 ⟨rfl, b1⟩
  have d1 : Below w.heap.size w w1 := below_step (by repeat (first | exact Below.refl _ _ | refine below_drewN ?_ _ | refine Below.drew ?_ | refine Below.setCell ?_ (by simp) _ | refine Below.alloc ?_ (by simp) _)) b1
  have B1 := Lib.hid d1
  clear b1 d1
  go_wp2_with fail
  refine (jul_of t t0 t1 _).mono ?_; rintro e v1 ⟨rfl, rfl⟩
  go_wp2_with fail
  refine (jul_of u u0 u1 _).mono ?_; rintro e v2 ⟨rfl, rfl⟩
  
  
  go_wp2_with fail
  refine (jul_parts x HX.out _).mono ?_; rintro e w2 ⟨y, r, n, hy, hr, rfl, rfl⟩
  have PN := Lib.hid (Fl.parts_no HX.out HC.out hy hr); have LY := Lib.hid hy.1; have LR := Lib.hid hr.1; clear hy hr
  go_wp2_with fail
  refine (kind_any x HX.out _).mono ?_; rintro e w2 ⟨rfl, rfl⟩
  rcases HK.out with hk | hk | hk
  all_goals (rw [hk]; clear hk; go_wp2_with fail; refine (kind_any r LR.out _).mono ?_; rintro e w2 ⟨rfl, rfl⟩; rw [Fl.kd_nan PN.out.1]; go_wp2_with fail; refine (same_any y x LY.out HX.out _).mono ?_; rintro e w2 ⟨rfl, rfl⟩; rw [PN.out.2]; go_wp2_with fail; go_ret; exact ⟨rfl, below_drewN B1.out _⟩)
  
set_option maxHeartbeats 4000000 in
set_option maxRecDepth 100000 in
theorem jord_le_lo_fi (t u : Int) (x : Nat) (w : World) (t0 : -9223372036854775808 ≤ t) (t1 : t ≤ 9223372036854775807) (u0 : -9223372036854775808 ≤ u) (u1 : u ≤ 9223372036854775807) (hx : x < 18446744073709551616) (ha : t ≤ u) (hb : t < -1096193779200) (hc : Fl.fin x) (hk : ¬ Fl.kd (Fl.rk x) = 0 ∧ ¬ Fl.kd (Fl.rk x) = 1 ∧ ¬ Fl.kd (Fl.rk x) = 6) :
    Calls Try.prog 8 #[.int .i64 t, .int .i64 u, .float .f64 x] w fun e w' => e = .returned (.bool true) ∧ Below w.heap.size w w' := by
  have g1 := (Fl.ord_gt (Fl.jd_mono ha t0 t1 u0 u1).1 (Fl.jd_mono ha t0 t1 u0 u1).2.1).trans (decide_eq_false (by have := (Fl.jd_mono ha t0 t1 u0 u1).2.2; omega))
  skip
  have HX := Lib.hid hx; have HC := Lib.hid hc; have HK := Lib.hid hk
  clear hx hc hk
  go_enter Try.func8, Try.ntmps8
  go_wp2_with fail
  refine (lives8 _).mono ?_; rintro e w1 ⟨rfl, b1⟩
  have d1 : Below w.heap.size w w1 := below_step (by repeat (first | exact Below.refl _ _ | refine below_drewN ?_ _ | refine Below.drew ?_ | refine Below.setCell ?_ (by simp) _ | refine Below.alloc ?_ (by simp) _)) b1
  have B1 := Lib.hid d1
  clear b1 d1
  go_wp2_with fail
  refine (jul_of t t0 t1 _).mono ?_; rintro e v1 ⟨rfl, rfl⟩
  go_wp2_with fail
  refine (jul_of u u0 u1 _).mono ?_; rintro e v2 ⟨rfl, rfl⟩
  
  
  go_wp2_with fail
  refine (jul_parts x HX.out _).mono ?_; rintro e w2 ⟨y, r, n, hy, hr, rfl, rfl⟩
  obtain ⟨fy, fr, v0, v1, v2, p, q, ep, eq, fp, fq, v3⟩ := Fl.parts HC.out hy hr; have s1 : ∀ w, (binOp .add 22 (.float .f64 y) (.float .f64 r)).run Try.prog w = .ok (.float .f64 p) w := (fun w => run_float_arith w .add _ .f64 _ _ _ ep); have s2 : ∀ w, (binOp .sub 22 (.float .f64 x) (.float .f64 4607182418800017408)).run Try.prog w = .ok (.float .f64 q) w := (fun w => run_float_arith w .sub _ .f64 _ _ _ eq); have c1 := Fl.ge_true fr Fl.fin_0 (show Fl.V 0 ≤ Fl.V r by rw [Fl.V_0]; exact v0); have c2 := Fl.le_true fr Fl.fin_one (show Fl.V r ≤ Fl.V Fl.one by rw [Fl.V_one]; exact v1); have c3 := Fl.le_true fy HC.out v2; have c4 := Fl.ge_true fp fq v3; unfold Fl.one at c2; clear hy hr ep eq fy fr v0 v1 v2 fp fq v3
  go_wp2_with fail
  refine (kind_any x HX.out _).mono ?_; rintro e w2 ⟨rfl, rfl⟩
  have k1 : (Fl.kd (Fl.rk x) == 0) = false := (by simpa using HK.out.1); have k2 : (Fl.kd (Fl.rk x) == 1) = false := (by simpa using HK.out.2.1); have k3 : (Fl.kd (Fl.rk x) == 6) = false := (by simpa using HK.out.2.2)
  go_wp2_with fail
  go_ret; exact ⟨rfl, below_drewN B1.out _⟩
set_option maxHeartbeats 4000000 in
set_option maxRecDepth 100000 in
theorem jord_le_hi_no (t u : Int) (x : Nat) (w : World) (t0 : -9223372036854775808 ≤ t) (t1 : t ≤ 9223372036854775807) (u0 : -9223372036854775808 ≤ u) (u1 : u ≤ 9223372036854775807) (hx : x < 18446744073709551616) (ha : t ≤ u) (hb : -1096193779200 ≤ t) (hb2 : 971890963199 < t) (hc : Fl.nan x = true ∨ Fl.rg x = Fl.inf) (hk : Fl.kd (Fl.rk x) = 0 ∨ Fl.kd (Fl.rk x) = 1 ∨ Fl.kd (Fl.rk x) = 6) :
    Calls Try.prog 8 #[.int .i64 t, .int .i64 u, .float .f64 x] w fun e w' => e = .returned (.bool true) ∧ Below w.heap.size w w' := by
  have g1 := (Fl.ord_gt (Fl.jd_mono ha t0 t1 u0 u1).1 (Fl.jd_mono ha t0 t1 u0 u1).2.1).trans (decide_eq_false (by have := (Fl.jd_mono ha t0 t1 u0 u1).2.2; omega))
  skip
  have HX := Lib.hid hx; have HC := Lib.hid hc; have HK := Lib.hid hk
  clear hx hc hk
  go_enter Try.func8, Try.ntmps8
  go_wp2_with fail
  refine (lives8 _).mono ?_; rintro e w1 ⟨rfl, b1⟩
  have d1 : Below w.heap.size w w1 := below_step (by repeat (first | exact Below.refl _ _ | refine below_drewN ?_ _ | refine Below.drew ?_ | refine Below.setCell ?_ (by simp) _ | refine Below.alloc ?_ (by simp) _)) b1
  have B1 := Lib.hid d1
  clear b1 d1
  go_wp2_with fail
  refine (jul_of t t0 t1 _).mono ?_; rintro e v1 ⟨rfl, rfl⟩
  go_wp2_with fail
  refine (jul_of u u0 u1 _).mono ?_; rintro e v2 ⟨rfl, rfl⟩
  
  
  go_wp2_with fail
  refine (jul_parts x HX.out _).mono ?_; rintro e w2 ⟨y, r, n, hy, hr, rfl, rfl⟩
  have PN := Lib.hid (Fl.parts_no HX.out HC.out hy hr); have LY := Lib.hid hy.1; have LR := Lib.hid hr.1; clear hy hr
  go_wp2_with fail
  refine (kind_any x HX.out _).mono ?_; rintro e w2 ⟨rfl, rfl⟩
  rcases HK.out with hk | hk | hk
  all_goals (rw [hk]; clear hk; go_wp2_with fail; refine (kind_any r LR.out _).mono ?_; rintro e w2 ⟨rfl, rfl⟩; rw [Fl.kd_nan PN.out.1]; go_wp2_with fail; refine (same_any y x LY.out HX.out _).mono ?_; rintro e w2 ⟨rfl, rfl⟩; rw [PN.out.2]; go_wp2_with fail; go_ret; exact ⟨rfl, below_drewN B1.out _⟩)
  
set_option maxHeartbeats 4000000 in
set_option maxRecDepth 100000 in
theorem jord_le_hi_fi (t u : Int) (x : Nat) (w : World) (t0 : -9223372036854775808 ≤ t) (t1 : t ≤ 9223372036854775807) (u0 : -9223372036854775808 ≤ u) (u1 : u ≤ 9223372036854775807) (hx : x < 18446744073709551616) (ha : t ≤ u) (hb : -1096193779200 ≤ t) (hb2 : 971890963199 < t) (hc : Fl.fin x) (hk : ¬ Fl.kd (Fl.rk x) = 0 ∧ ¬ Fl.kd (Fl.rk x) = 1 ∧ ¬ Fl.kd (Fl.rk x) = 6) :
    Calls Try.prog 8 #[.int .i64 t, .int .i64 u, .float .f64 x] w fun e w' => e = .returned (.bool true) ∧ Below w.heap.size w w' := by
  have g1 := (Fl.ord_gt (Fl.jd_mono ha t0 t1 u0 u1).1 (Fl.jd_mono ha t0 t1 u0 u1).2.1).trans (decide_eq_false (by have := (Fl.jd_mono ha t0 t1 u0 u1).2.2; omega))
  skip
  have HX := Lib.hid hx; have HC := Lib.hid hc; have HK := Lib.hid hk
  clear hx hc hk
  go_enter Try.func8, Try.ntmps8
  go_wp2_with fail
  refine (lives8 _).mono ?_; rintro e w1 ⟨rfl, b1⟩
  have d1 : Below w.heap.size w w1 := below_step (by repeat (first | exact Below.refl _ _ | refine below_drewN ?_ _ | refine Below.drew ?_ | refine Below.setCell ?_ (by simp) _ | refine Below.alloc ?_ (by simp) _)) b1
  have B1 := Lib.hid d1
  clear b1 d1
  go_wp2_with fail
  refine (jul_of t t0 t1 _).mono ?_; rintro e v1 ⟨rfl, rfl⟩
  go_wp2_with fail
  refine (jul_of u u0 u1 _).mono ?_; rintro e v2 ⟨rfl, rfl⟩
  
  
  go_wp2_with fail
  refine (jul_parts x HX.out _).mono ?_; rintro e w2 ⟨y, r, n, hy, hr, rfl, rfl⟩
  obtain ⟨fy, fr, v0, v1, v2, p, q, ep, eq, fp, fq, v3⟩ := Fl.parts HC.out hy hr; have s1 : ∀ w, (binOp .add 22 (.float .f64 y) (.float .f64 r)).run Try.prog w = .ok (.float .f64 p) w := (fun w => run_float_arith w .add _ .f64 _ _ _ ep); have s2 : ∀ w, (binOp .sub 22 (.float .f64 x) (.float .f64 4607182418800017408)).run Try.prog w = .ok (.float .f64 q) w := (fun w => run_float_arith w .sub _ .f64 _ _ _ eq); have c1 := Fl.ge_true fr Fl.fin_0 (show Fl.V 0 ≤ Fl.V r by rw [Fl.V_0]; exact v0); have c2 := Fl.le_true fr Fl.fin_one (show Fl.V r ≤ Fl.V Fl.one by rw [Fl.V_one]; exact v1); have c3 := Fl.le_true fy HC.out v2; have c4 := Fl.ge_true fp fq v3; unfold Fl.one at c2; clear hy hr ep eq fy fr v0 v1 v2 fp fq v3
  go_wp2_with fail
  refine (kind_any x HX.out _).mono ?_; rintro e w2 ⟨rfl, rfl⟩
  have k1 : (Fl.kd (Fl.rk x) == 0) = false := (by simpa using HK.out.1); have k2 : (Fl.kd (Fl.rk x) == 1) = false := (by simpa using HK.out.2.1); have k3 : (Fl.kd (Fl.rk x) == 6) = false := (by simpa using HK.out.2.2)
  go_wp2_with fail
  go_ret; exact ⟨rfl, below_drewN B1.out _⟩
set_option maxHeartbeats 4000000 in
set_option maxRecDepth 100000 in
theorem jord_le_in_no (t u : Int) (x : Nat) (w : World) (t0 : -9223372036854775808 ≤ t) (t1 : t ≤ 9223372036854775807) (u0 : -9223372036854775808 ≤ u) (u1 : u ≤ 9223372036854775807) (hx : x < 18446744073709551616) (ha : t ≤ u) (hb : -1096193779200 ≤ t) (hb2 : t ≤ 971890963199) (hc : Fl.nan x = true ∨ Fl.rg x = Fl.inf) (hk : Fl.kd (Fl.rk x) = 0 ∨ Fl.kd (Fl.rk x) = 1 ∨ Fl.kd (Fl.rk x) = 6) :
    Calls Try.prog 8 #[.int .i64 t, .int .i64 u, .float .f64 x] w fun e w' => e = .returned (.bool true) ∧ Below w.heap.size w w' := by
  have g1 := (Fl.ord_gt (Fl.jd_mono ha t0 t1 u0 u1).1 (Fl.jd_mono ha t0 t1 u0 u1).2.1).trans (decide_eq_false (by have := (Fl.jd_mono ha t0 t1 u0 u1).2.2; omega))
  obtain ⟨s, z, es, ez, fz, z1, z2⟩ := Fl.jd_day hb hb2; have r1 : ∀ w, (binOp .sub 22 (.float .f64 (Fl.jdB (t + 86400))) (.float .f64 (Fl.jdB t))).run Try.prog w = .ok (.float .f64 s) w := (fun w => run_float_arith w .sub _ .f64 _ _ _ es); have r2 : ∀ w, (binOp .sub 22 (.float .f64 s) (.float .f64 4607182418800017408)).run Try.prog w = .ok (.float .f64 z) w := (fun w => run_float_arith w .sub _ .f64 _ _ _ ez); have g2 : (FloatKind.f64.format.order z 4517329193108106637 == some Ordering.gt) = false := ((Fl.ord_gt fz Fl.fin_mic.1).trans (decide_eq_false z1)); have g3 : (FloatKind.f64.format.order z 13740701229962882445 == some Ordering.lt) = false := ((Fl.ord_lt fz Fl.fin_mic.2).trans (decide_eq_false z2)); clear es ez fz z1 z2
  have HX := Lib.hid hx; have HC := Lib.hid hc; have HK := Lib.hid hk
  clear hx hc hk
  go_enter Try.func8, Try.ntmps8
  go_wp2_with fail
  refine (lives8 _).mono ?_; rintro e w1 ⟨rfl, b1⟩
  have d1 : Below w.heap.size w w1 := below_step (by repeat (first | exact Below.refl _ _ | refine below_drewN ?_ _ | refine Below.drew ?_ | refine Below.setCell ?_ (by simp) _ | refine Below.alloc ?_ (by simp) _)) b1
  have B1 := Lib.hid d1
  clear b1 d1
  go_wp2_with fail
  refine (jul_of t t0 t1 _).mono ?_; rintro e v1 ⟨rfl, rfl⟩
  go_wp2_with fail
  refine (jul_of u u0 u1 _).mono ?_; rintro e v2 ⟨rfl, rfl⟩
  go_wp2_with fail
  refine (jul_of (t + 86400) (by omega) (by omega) _).mono ?_; rintro e v3 ⟨rfl, rfl⟩
  go_wp2_with fail
  refine (jul_of t t0 t1 _).mono ?_; rintro e v4 ⟨rfl, rfl⟩
  go_wp2_with fail
  refine (jul_parts x HX.out _).mono ?_; rintro e w2 ⟨y, r, n, hy, hr, rfl, rfl⟩
  have PN := Lib.hid (Fl.parts_no HX.out HC.out hy hr); have LY := Lib.hid hy.1; have LR := Lib.hid hr.1; clear hy hr
  go_wp2_with fail
  refine (kind_any x HX.out _).mono ?_; rintro e w2 ⟨rfl, rfl⟩
  rcases HK.out with hk | hk | hk
  all_goals (rw [hk]; clear hk; go_wp2_with fail; refine (kind_any r LR.out _).mono ?_; rintro e w2 ⟨rfl, rfl⟩; rw [Fl.kd_nan PN.out.1]; go_wp2_with fail; refine (same_any y x LY.out HX.out _).mono ?_; rintro e w2 ⟨rfl, rfl⟩; rw [PN.out.2]; go_wp2_with fail; go_ret; exact ⟨rfl, below_drewN B1.out _⟩)
  
set_option maxHeartbeats 4000000 in
set_option maxRecDepth 100000 in
theorem jord_le_in_fi (t u : Int) (x : Nat) (w : World) (t0 : -9223372036854775808 ≤ t) (t1 : t ≤ 9223372036854775807) (u0 : -9223372036854775808 ≤ u) (u1 : u ≤ 9223372036854775807) (hx : x < 18446744073709551616) (ha : t ≤ u) (hb : -1096193779200 ≤ t) (hb2 : t ≤ 971890963199) (hc : Fl.fin x) (hk : ¬ Fl.kd (Fl.rk x) = 0 ∧ ¬ Fl.kd (Fl.rk x) = 1 ∧ ¬ Fl.kd (Fl.rk x) = 6) :
    Calls Try.prog 8 #[.int .i64 t, .int .i64 u, .float .f64 x] w fun e w' => e = .returned (.bool true) ∧ Below w.heap.size w w' := by
  have g1 := (Fl.ord_gt (Fl.jd_mono ha t0 t1 u0 u1).1 (Fl.jd_mono ha t0 t1 u0 u1).2.1).trans (decide_eq_false (by have := (Fl.jd_mono ha t0 t1 u0 u1).2.2; omega))
  obtain ⟨s, z, es, ez, fz, z1, z2⟩ := Fl.jd_day hb hb2; have r1 : ∀ w, (binOp .sub 22 (.float .f64 (Fl.jdB (t + 86400))) (.float .f64 (Fl.jdB t))).run Try.prog w = .ok (.float .f64 s) w := (fun w => run_float_arith w .sub _ .f64 _ _ _ es); have r2 : ∀ w, (binOp .sub 22 (.float .f64 s) (.float .f64 4607182418800017408)).run Try.prog w = .ok (.float .f64 z) w := (fun w => run_float_arith w .sub _ .f64 _ _ _ ez); have g2 : (FloatKind.f64.format.order z 4517329193108106637 == some Ordering.gt) = false := ((Fl.ord_gt fz Fl.fin_mic.1).trans (decide_eq_false z1)); have g3 : (FloatKind.f64.format.order z 13740701229962882445 == some Ordering.lt) = false := ((Fl.ord_lt fz Fl.fin_mic.2).trans (decide_eq_false z2)); clear es ez fz z1 z2
  have HX := Lib.hid hx; have HC := Lib.hid hc; have HK := Lib.hid hk
  clear hx hc hk
  go_enter Try.func8, Try.ntmps8
  go_wp2_with fail
  refine (lives8 _).mono ?_; rintro e w1 ⟨rfl, b1⟩
  have d1 : Below w.heap.size w w1 := below_step (by repeat (first | exact Below.refl _ _ | refine below_drewN ?_ _ | refine Below.drew ?_ | refine Below.setCell ?_ (by simp) _ | refine Below.alloc ?_ (by simp) _)) b1
  have B1 := Lib.hid d1
  clear b1 d1
  go_wp2_with fail
  refine (jul_of t t0 t1 _).mono ?_; rintro e v1 ⟨rfl, rfl⟩
  go_wp2_with fail
  refine (jul_of u u0 u1 _).mono ?_; rintro e v2 ⟨rfl, rfl⟩
  go_wp2_with fail
  refine (jul_of (t + 86400) (by omega) (by omega) _).mono ?_; rintro e v3 ⟨rfl, rfl⟩
  go_wp2_with fail
  refine (jul_of t t0 t1 _).mono ?_; rintro e v4 ⟨rfl, rfl⟩
  go_wp2_with fail
  refine (jul_parts x HX.out _).mono ?_; rintro e w2 ⟨y, r, n, hy, hr, rfl, rfl⟩
  obtain ⟨fy, fr, v0, v1, v2, p, q, ep, eq, fp, fq, v3⟩ := Fl.parts HC.out hy hr; have s1 : ∀ w, (binOp .add 22 (.float .f64 y) (.float .f64 r)).run Try.prog w = .ok (.float .f64 p) w := (fun w => run_float_arith w .add _ .f64 _ _ _ ep); have s2 : ∀ w, (binOp .sub 22 (.float .f64 x) (.float .f64 4607182418800017408)).run Try.prog w = .ok (.float .f64 q) w := (fun w => run_float_arith w .sub _ .f64 _ _ _ eq); have c1 := Fl.ge_true fr Fl.fin_0 (show Fl.V 0 ≤ Fl.V r by rw [Fl.V_0]; exact v0); have c2 := Fl.le_true fr Fl.fin_one (show Fl.V r ≤ Fl.V Fl.one by rw [Fl.V_one]; exact v1); have c3 := Fl.le_true fy HC.out v2; have c4 := Fl.ge_true fp fq v3; unfold Fl.one at c2; clear hy hr ep eq fy fr v0 v1 v2 fp fq v3
  go_wp2_with fail
  refine (kind_any x HX.out _).mono ?_; rintro e w2 ⟨rfl, rfl⟩
  have k1 : (Fl.kd (Fl.rk x) == 0) = false := (by simpa using HK.out.1); have k2 : (Fl.kd (Fl.rk x) == 1) = false := (by simpa using HK.out.2.1); have k3 : (Fl.kd (Fl.rk x) == 6) = false := (by simpa using HK.out.2.2)
  go_wp2_with fail
  go_ret; exact ⟨rfl, below_drewN B1.out _⟩
set_option maxHeartbeats 4000000 in
set_option maxRecDepth 100000 in
theorem jord_gt_lo_no (t u : Int) (x : Nat) (w : World) (t0 : -9223372036854775808 ≤ t) (t1 : t ≤ 9223372036854775807) (u0 : -9223372036854775808 ≤ u) (u1 : u ≤ 9223372036854775807) (hx : x < 18446744073709551616) (ha : u < t) (hb : t < -1096193779200) (hc : Fl.nan x = true ∨ Fl.rg x = Fl.inf) (hk : Fl.kd (Fl.rk x) = 0 ∨ Fl.kd (Fl.rk x) = 1 ∨ Fl.kd (Fl.rk x) = 6) :
    Calls Try.prog 8 #[.int .i64 t, .int .i64 u, .float .f64 x] w fun e w' => e = .returned (.bool true) ∧ Below w.heap.size w w' := by
  skip
  skip
  have HX := Lib.hid hx; have HC := Lib.hid hc; have HK := Lib.hid hk
  clear hx hc hk
  go_enter Try.func8, Try.ntmps8
  go_wp2_with fail
  refine (lives8 _).mono ?_; rintro e w1 ⟨rfl, b1⟩
  have d1 : Below w.heap.size w w1 := below_step (by repeat (first | exact Below.refl _ _ | refine below_drewN ?_ _ | refine Below.drew ?_ | refine Below.setCell ?_ (by simp) _ | refine Below.alloc ?_ (by simp) _)) b1
  have B1 := Lib.hid d1
  clear b1 d1
  
  
  
  
  go_wp2_with fail
  refine (jul_parts x HX.out _).mono ?_; rintro e w2 ⟨y, r, n, hy, hr, rfl, rfl⟩
  have PN := Lib.hid (Fl.parts_no HX.out HC.out hy hr); have LY := Lib.hid hy.1; have LR := Lib.hid hr.1; clear hy hr
  go_wp2_with fail
  refine (kind_any x HX.out _).mono ?_; rintro e w2 ⟨rfl, rfl⟩
  rcases HK.out with hk | hk | hk
  all_goals (rw [hk]; clear hk; go_wp2_with fail; refine (kind_any r LR.out _).mono ?_; rintro e w2 ⟨rfl, rfl⟩; rw [Fl.kd_nan PN.out.1]; go_wp2_with fail; refine (same_any y x LY.out HX.out _).mono ?_; rintro e w2 ⟨rfl, rfl⟩; rw [PN.out.2]; go_wp2_with fail; go_ret; exact ⟨rfl, below_drewN B1.out _⟩)
  
set_option maxHeartbeats 4000000 in
set_option maxRecDepth 100000 in
theorem jord_gt_lo_fi (t u : Int) (x : Nat) (w : World) (t0 : -9223372036854775808 ≤ t) (t1 : t ≤ 9223372036854775807) (u0 : -9223372036854775808 ≤ u) (u1 : u ≤ 9223372036854775807) (hx : x < 18446744073709551616) (ha : u < t) (hb : t < -1096193779200) (hc : Fl.fin x) (hk : ¬ Fl.kd (Fl.rk x) = 0 ∧ ¬ Fl.kd (Fl.rk x) = 1 ∧ ¬ Fl.kd (Fl.rk x) = 6) :
    Calls Try.prog 8 #[.int .i64 t, .int .i64 u, .float .f64 x] w fun e w' => e = .returned (.bool true) ∧ Below w.heap.size w w' := by
  skip
  skip
  have HX := Lib.hid hx; have HC := Lib.hid hc; have HK := Lib.hid hk
  clear hx hc hk
  go_enter Try.func8, Try.ntmps8
  go_wp2_with fail
  refine (lives8 _).mono ?_; rintro e w1 ⟨rfl, b1⟩
  have d1 : Below w.heap.size w w1 := below_step (by repeat (first | exact Below.refl _ _ | refine below_drewN ?_ _ | refine Below.drew ?_ | refine Below.setCell ?_ (by simp) _ | refine Below.alloc ?_ (by simp) _)) b1
  have B1 := Lib.hid d1
  clear b1 d1
  
  
  
  
  go_wp2_with fail
  refine (jul_parts x HX.out _).mono ?_; rintro e w2 ⟨y, r, n, hy, hr, rfl, rfl⟩
  obtain ⟨fy, fr, v0, v1, v2, p, q, ep, eq, fp, fq, v3⟩ := Fl.parts HC.out hy hr; have s1 : ∀ w, (binOp .add 22 (.float .f64 y) (.float .f64 r)).run Try.prog w = .ok (.float .f64 p) w := (fun w => run_float_arith w .add _ .f64 _ _ _ ep); have s2 : ∀ w, (binOp .sub 22 (.float .f64 x) (.float .f64 4607182418800017408)).run Try.prog w = .ok (.float .f64 q) w := (fun w => run_float_arith w .sub _ .f64 _ _ _ eq); have c1 := Fl.ge_true fr Fl.fin_0 (show Fl.V 0 ≤ Fl.V r by rw [Fl.V_0]; exact v0); have c2 := Fl.le_true fr Fl.fin_one (show Fl.V r ≤ Fl.V Fl.one by rw [Fl.V_one]; exact v1); have c3 := Fl.le_true fy HC.out v2; have c4 := Fl.ge_true fp fq v3; unfold Fl.one at c2; clear hy hr ep eq fy fr v0 v1 v2 fp fq v3
  go_wp2_with fail
  refine (kind_any x HX.out _).mono ?_; rintro e w2 ⟨rfl, rfl⟩
  have k1 : (Fl.kd (Fl.rk x) == 0) = false := (by simpa using HK.out.1); have k2 : (Fl.kd (Fl.rk x) == 1) = false := (by simpa using HK.out.2.1); have k3 : (Fl.kd (Fl.rk x) == 6) = false := (by simpa using HK.out.2.2)
  go_wp2_with fail
  go_ret; exact ⟨rfl, below_drewN B1.out _⟩
set_option maxHeartbeats 4000000 in
set_option maxRecDepth 100000 in
theorem jord_gt_hi_no (t u : Int) (x : Nat) (w : World) (t0 : -9223372036854775808 ≤ t) (t1 : t ≤ 9223372036854775807) (u0 : -9223372036854775808 ≤ u) (u1 : u ≤ 9223372036854775807) (hx : x < 18446744073709551616) (ha : u < t) (hb : -1096193779200 ≤ t) (hb2 : 971890963199 < t) (hc : Fl.nan x = true ∨ Fl.rg x = Fl.inf) (hk : Fl.kd (Fl.rk x) = 0 ∨ Fl.kd (Fl.rk x) = 1 ∨ Fl.kd (Fl.rk x) = 6) :
    Calls Try.prog 8 #[.int .i64 t, .int .i64 u, .float .f64 x] w fun e w' => e = .returned (.bool true) ∧ Below w.heap.size w w' := by
  skip
  skip
  have HX := Lib.hid hx; have HC := Lib.hid hc; have HK := Lib.hid hk
  clear hx hc hk
  go_enter Try.func8, Try.ntmps8
  go_wp2_with fail
  refine (lives8 _).mono ?_; rintro e w1 ⟨rfl, b1⟩
  have d1 : Below w.heap.size w w1 := below_step (by repeat (first | exact Below.refl _ _ | refine below_drewN ?_ _ | refine Below.drew ?_ | refine Below.setCell ?_ (by simp) _ | refine Below.alloc ?_ (by simp) _)) b1
  have B1 := Lib.hid d1
  clear b1 d1
  
  
  
  
  go_wp2_with fail
  refine (jul_parts x HX.out _).mono ?_; rintro e w2 ⟨y, r, n, hy, hr, rfl, rfl⟩
  have PN := Lib.hid (Fl.parts_no HX.out HC.out hy hr); have LY := Lib.hid hy.1; have LR := Lib.hid hr.1; clear hy hr
  go_wp2_with fail
  refine (kind_any x HX.out _).mono ?_; rintro e w2 ⟨rfl, rfl⟩
  rcases HK.out with hk | hk | hk
  all_goals (rw [hk]; clear hk; go_wp2_with fail; refine (kind_any r LR.out _).mono ?_; rintro e w2 ⟨rfl, rfl⟩; rw [Fl.kd_nan PN.out.1]; go_wp2_with fail; refine (same_any y x LY.out HX.out _).mono ?_; rintro e w2 ⟨rfl, rfl⟩; rw [PN.out.2]; go_wp2_with fail; go_ret; exact ⟨rfl, below_drewN B1.out _⟩)
  
set_option maxHeartbeats 4000000 in
set_option maxRecDepth 100000 in
theorem jord_gt_hi_fi (t u : Int) (x : Nat) (w : World) (t0 : -9223372036854775808 ≤ t) (t1 : t ≤ 9223372036854775807) (u0 : -9223372036854775808 ≤ u) (u1 : u ≤ 9223372036854775807) (hx : x < 18446744073709551616) (ha : u < t) (hb : -1096193779200 ≤ t) (hb2 : 971890963199 < t) (hc : Fl.fin x) (hk : ¬ Fl.kd (Fl.rk x) = 0 ∧ ¬ Fl.kd (Fl.rk x) = 1 ∧ ¬ Fl.kd (Fl.rk x) = 6) :
    Calls Try.prog 8 #[.int .i64 t, .int .i64 u, .float .f64 x] w fun e w' => e = .returned (.bool true) ∧ Below w.heap.size w w' := by
  skip
  skip
  have HX := Lib.hid hx; have HC := Lib.hid hc; have HK := Lib.hid hk
  clear hx hc hk
  go_enter Try.func8, Try.ntmps8
  go_wp2_with fail
  refine (lives8 _).mono ?_; rintro e w1 ⟨rfl, b1⟩
  have d1 : Below w.heap.size w w1 := below_step (by repeat (first | exact Below.refl _ _ | refine below_drewN ?_ _ | refine Below.drew ?_ | refine Below.setCell ?_ (by simp) _ | refine Below.alloc ?_ (by simp) _)) b1
  have B1 := Lib.hid d1
  clear b1 d1
  
  
  
  
  go_wp2_with fail
  refine (jul_parts x HX.out _).mono ?_; rintro e w2 ⟨y, r, n, hy, hr, rfl, rfl⟩
  obtain ⟨fy, fr, v0, v1, v2, p, q, ep, eq, fp, fq, v3⟩ := Fl.parts HC.out hy hr; have s1 : ∀ w, (binOp .add 22 (.float .f64 y) (.float .f64 r)).run Try.prog w = .ok (.float .f64 p) w := (fun w => run_float_arith w .add _ .f64 _ _ _ ep); have s2 : ∀ w, (binOp .sub 22 (.float .f64 x) (.float .f64 4607182418800017408)).run Try.prog w = .ok (.float .f64 q) w := (fun w => run_float_arith w .sub _ .f64 _ _ _ eq); have c1 := Fl.ge_true fr Fl.fin_0 (show Fl.V 0 ≤ Fl.V r by rw [Fl.V_0]; exact v0); have c2 := Fl.le_true fr Fl.fin_one (show Fl.V r ≤ Fl.V Fl.one by rw [Fl.V_one]; exact v1); have c3 := Fl.le_true fy HC.out v2; have c4 := Fl.ge_true fp fq v3; unfold Fl.one at c2; clear hy hr ep eq fy fr v0 v1 v2 fp fq v3
  go_wp2_with fail
  refine (kind_any x HX.out _).mono ?_; rintro e w2 ⟨rfl, rfl⟩
  have k1 : (Fl.kd (Fl.rk x) == 0) = false := (by simpa using HK.out.1); have k2 : (Fl.kd (Fl.rk x) == 1) = false := (by simpa using HK.out.2.1); have k3 : (Fl.kd (Fl.rk x) == 6) = false := (by simpa using HK.out.2.2)
  go_wp2_with fail
  go_ret; exact ⟨rfl, below_drewN B1.out _⟩
set_option maxHeartbeats 4000000 in
set_option maxRecDepth 100000 in
theorem jord_gt_in_no (t u : Int) (x : Nat) (w : World) (t0 : -9223372036854775808 ≤ t) (t1 : t ≤ 9223372036854775807) (u0 : -9223372036854775808 ≤ u) (u1 : u ≤ 9223372036854775807) (hx : x < 18446744073709551616) (ha : u < t) (hb : -1096193779200 ≤ t) (hb2 : t ≤ 971890963199) (hc : Fl.nan x = true ∨ Fl.rg x = Fl.inf) (hk : Fl.kd (Fl.rk x) = 0 ∨ Fl.kd (Fl.rk x) = 1 ∨ Fl.kd (Fl.rk x) = 6) :
    Calls Try.prog 8 #[.int .i64 t, .int .i64 u, .float .f64 x] w fun e w' => e = .returned (.bool true) ∧ Below w.heap.size w w' := by
  skip
  obtain ⟨s, z, es, ez, fz, z1, z2⟩ := Fl.jd_day hb hb2; have r1 : ∀ w, (binOp .sub 22 (.float .f64 (Fl.jdB (t + 86400))) (.float .f64 (Fl.jdB t))).run Try.prog w = .ok (.float .f64 s) w := (fun w => run_float_arith w .sub _ .f64 _ _ _ es); have r2 : ∀ w, (binOp .sub 22 (.float .f64 s) (.float .f64 4607182418800017408)).run Try.prog w = .ok (.float .f64 z) w := (fun w => run_float_arith w .sub _ .f64 _ _ _ ez); have g2 : (FloatKind.f64.format.order z 4517329193108106637 == some Ordering.gt) = false := ((Fl.ord_gt fz Fl.fin_mic.1).trans (decide_eq_false z1)); have g3 : (FloatKind.f64.format.order z 13740701229962882445 == some Ordering.lt) = false := ((Fl.ord_lt fz Fl.fin_mic.2).trans (decide_eq_false z2)); clear es ez fz z1 z2
  have HX := Lib.hid hx; have HC := Lib.hid hc; have HK := Lib.hid hk
  clear hx hc hk
  go_enter Try.func8, Try.ntmps8
  go_wp2_with fail
  refine (lives8 _).mono ?_; rintro e w1 ⟨rfl, b1⟩
  have d1 : Below w.heap.size w w1 := below_step (by repeat (first | exact Below.refl _ _ | refine below_drewN ?_ _ | refine Below.drew ?_ | refine Below.setCell ?_ (by simp) _ | refine Below.alloc ?_ (by simp) _)) b1
  have B1 := Lib.hid d1
  clear b1 d1
  
  
  go_wp2_with fail
  refine (jul_of (t + 86400) (by omega) (by omega) _).mono ?_; rintro e v1 ⟨rfl, rfl⟩
  go_wp2_with fail
  refine (jul_of t t0 t1 _).mono ?_; rintro e v2 ⟨rfl, rfl⟩
  go_wp2_with fail
  refine (jul_parts x HX.out _).mono ?_; rintro e w2 ⟨y, r, n, hy, hr, rfl, rfl⟩
  have PN := Lib.hid (Fl.parts_no HX.out HC.out hy hr); have LY := Lib.hid hy.1; have LR := Lib.hid hr.1; clear hy hr
  go_wp2_with fail
  refine (kind_any x HX.out _).mono ?_; rintro e w2 ⟨rfl, rfl⟩
  rcases HK.out with hk | hk | hk
  all_goals (rw [hk]; clear hk; go_wp2_with fail; refine (kind_any r LR.out _).mono ?_; rintro e w2 ⟨rfl, rfl⟩; rw [Fl.kd_nan PN.out.1]; go_wp2_with fail; refine (same_any y x LY.out HX.out _).mono ?_; rintro e w2 ⟨rfl, rfl⟩; rw [PN.out.2]; go_wp2_with fail; go_ret; exact ⟨rfl, below_drewN B1.out _⟩)
  
set_option maxHeartbeats 4000000 in
set_option maxRecDepth 100000 in
theorem jord_gt_in_fi (t u : Int) (x : Nat) (w : World) (t0 : -9223372036854775808 ≤ t) (t1 : t ≤ 9223372036854775807) (u0 : -9223372036854775808 ≤ u) (u1 : u ≤ 9223372036854775807) (hx : x < 18446744073709551616) (ha : u < t) (hb : -1096193779200 ≤ t) (hb2 : t ≤ 971890963199) (hc : Fl.fin x) (hk : ¬ Fl.kd (Fl.rk x) = 0 ∧ ¬ Fl.kd (Fl.rk x) = 1 ∧ ¬ Fl.kd (Fl.rk x) = 6) :
    Calls Try.prog 8 #[.int .i64 t, .int .i64 u, .float .f64 x] w fun e w' => e = .returned (.bool true) ∧ Below w.heap.size w w' := by
  skip
  obtain ⟨s, z, es, ez, fz, z1, z2⟩ := Fl.jd_day hb hb2; have r1 : ∀ w, (binOp .sub 22 (.float .f64 (Fl.jdB (t + 86400))) (.float .f64 (Fl.jdB t))).run Try.prog w = .ok (.float .f64 s) w := (fun w => run_float_arith w .sub _ .f64 _ _ _ es); have r2 : ∀ w, (binOp .sub 22 (.float .f64 s) (.float .f64 4607182418800017408)).run Try.prog w = .ok (.float .f64 z) w := (fun w => run_float_arith w .sub _ .f64 _ _ _ ez); have g2 : (FloatKind.f64.format.order z 4517329193108106637 == some Ordering.gt) = false := ((Fl.ord_gt fz Fl.fin_mic.1).trans (decide_eq_false z1)); have g3 : (FloatKind.f64.format.order z 13740701229962882445 == some Ordering.lt) = false := ((Fl.ord_lt fz Fl.fin_mic.2).trans (decide_eq_false z2)); clear es ez fz z1 z2
  have HX := Lib.hid hx; have HC := Lib.hid hc; have HK := Lib.hid hk
  clear hx hc hk
  go_enter Try.func8, Try.ntmps8
  go_wp2_with fail
  refine (lives8 _).mono ?_; rintro e w1 ⟨rfl, b1⟩
  have d1 : Below w.heap.size w w1 := below_step (by repeat (first | exact Below.refl _ _ | refine below_drewN ?_ _ | refine Below.drew ?_ | refine Below.setCell ?_ (by simp) _ | refine Below.alloc ?_ (by simp) _)) b1
  have B1 := Lib.hid d1
  clear b1 d1
  
  
  go_wp2_with fail
  refine (jul_of (t + 86400) (by omega) (by omega) _).mono ?_; rintro e v1 ⟨rfl, rfl⟩
  go_wp2_with fail
  refine (jul_of t t0 t1 _).mono ?_; rintro e v2 ⟨rfl, rfl⟩
  go_wp2_with fail
  refine (jul_parts x HX.out _).mono ?_; rintro e w2 ⟨y, r, n, hy, hr, rfl, rfl⟩
  obtain ⟨fy, fr, v0, v1, v2, p, q, ep, eq, fp, fq, v3⟩ := Fl.parts HC.out hy hr; have s1 : ∀ w, (binOp .add 22 (.float .f64 y) (.float .f64 r)).run Try.prog w = .ok (.float .f64 p) w := (fun w => run_float_arith w .add _ .f64 _ _ _ ep); have s2 : ∀ w, (binOp .sub 22 (.float .f64 x) (.float .f64 4607182418800017408)).run Try.prog w = .ok (.float .f64 q) w := (fun w => run_float_arith w .sub _ .f64 _ _ _ eq); have c1 := Fl.ge_true fr Fl.fin_0 (show Fl.V 0 ≤ Fl.V r by rw [Fl.V_0]; exact v0); have c2 := Fl.le_true fr Fl.fin_one (show Fl.V r ≤ Fl.V Fl.one by rw [Fl.V_one]; exact v1); have c3 := Fl.le_true fy HC.out v2; have c4 := Fl.ge_true fp fq v3; unfold Fl.one at c2; clear hy hr ep eq fy fr v0 v1 v2 fp fq v3
  go_wp2_with fail
  refine (kind_any x HX.out _).mono ?_; rintro e w2 ⟨rfl, rfl⟩
  have k1 : (Fl.kd (Fl.rk x) == 0) = false := (by simpa using HK.out.1); have k2 : (Fl.kd (Fl.rk x) == 1) = false := (by simpa using HK.out.2.1); have k3 : (Fl.kd (Fl.rk x) == 6) = false := (by simpa using HK.out.2.2)
  go_wp2_with fail
  go_ret; exact ⟨rfl, below_drewN B1.out _⟩
theorem jord_walk (t u : Int) (x : Nat) (w : World) (ht : -9223372036854775808 ≤ t ∧ t ≤ 9223372036854775807) (hu : -9223372036854775808 ≤ u ∧ u ≤ 9223372036854775807) (hx : x < 18446744073709551616) :
    Calls Try.prog 8 #[.int .i64 t, .int .i64 u, .float .f64 x] w fun e w' => e = .returned (.bool true) ∧ Below w.heap.size w w' := by
  have hc : Fl.fin x ∧ (¬ Fl.kd (Fl.rk x) = 0 ∧ ¬ Fl.kd (Fl.rk x) = 1 ∧ ¬ Fl.kd (Fl.rk x) = 6) ∨ (Fl.nan x = true ∨ Fl.rg x = Fl.inf) ∧ (Fl.kd (Fl.rk x) = 0 ∨ Fl.kd (Fl.rk x) = 1 ∨ Fl.kd (Fl.rk x) = 6) := by
    rcases Nat.lt_trichotomy (Fl.rg x) Fl.inf with h | h | h
    · left; exact ⟨h, Fl.kd_fin h⟩
    · right; refine ⟨.inr h, ?_⟩; rw [Fl.kd_inf h]; cases Fl.ng x <;> decide
    · right; have := Fl.nan_true.2 h; exact ⟨.inl this, .inl (Fl.kd_nan this)⟩
  by_cases ha : t ≤ u
  · by_cases hb : t < -1096193779200
    · rcases hc with ⟨c, k⟩ | ⟨c, k⟩
      · exact jord_le_lo_fi t u x w ht.1 ht.2 hu.1 hu.2 hx ha hb c k
      · exact jord_le_lo_no t u x w ht.1 ht.2 hu.1 hu.2 hx ha hb c k
    · by_cases hb2 : 971890963199 < t
      · rcases hc with ⟨c, k⟩ | ⟨c, k⟩
        · exact jord_le_hi_fi t u x w ht.1 ht.2 hu.1 hu.2 hx ha (by omega) hb2 c k
        · exact jord_le_hi_no t u x w ht.1 ht.2 hu.1 hu.2 hx ha (by omega) hb2 c k
      · rcases hc with ⟨c, k⟩ | ⟨c, k⟩
        · exact jord_le_in_fi t u x w ht.1 ht.2 hu.1 hu.2 hx ha (by omega) (by omega) c k
        · exact jord_le_in_no t u x w ht.1 ht.2 hu.1 hu.2 hx ha (by omega) (by omega) c k
  · by_cases hb : t < -1096193779200
    · rcases hc with ⟨c, k⟩ | ⟨c, k⟩
      · exact jord_gt_lo_fi t u x w ht.1 ht.2 hu.1 hu.2 hx (by omega) hb c k
      · exact jord_gt_lo_no t u x w ht.1 ht.2 hu.1 hu.2 hx (by omega) hb c k
    · by_cases hb2 : 971890963199 < t
      · rcases hc with ⟨c, k⟩ | ⟨c, k⟩
        · exact jord_gt_hi_fi t u x w ht.1 ht.2 hu.1 hu.2 hx (by omega) (by omega) hb2 c k
        · exact jord_gt_hi_no t u x w ht.1 ht.2 hu.1 hu.2 hx (by omega) (by omega) hb2 c k
      · rcases hc with ⟨c, k⟩ | ⟨c, k⟩
        · exact jord_gt_in_fi t u x w ht.1 ht.2 hu.1 hu.2 hx (by omega) (by omega) (by omega) c k
        · exact jord_gt_in_no t u x w ht.1 ht.2 hu.1 hu.2 hx (by omega) (by omega) (by omega) c k
end Go.Proofs.Ytlehbnfocilcmaa

