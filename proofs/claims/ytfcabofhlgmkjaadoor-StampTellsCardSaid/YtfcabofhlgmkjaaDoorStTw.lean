/- The walk of StampTells: both sides answer alike. -/
import Derived.Test.YtfcabofhlgmkjaaDoorRsI
import Derived.Test.YtfcabofhlgmkjaaDoorLiv4
import Derived.Lib.QuietBelow
set_option linter.unusedVariables false
set_option linter.unusedSimpArgs false
namespace Go.Proofs.YtfcabofhlgmkjaaDoor
open Go.RowKit Go.Sort

theorem st_secs (y m d h i s : Int) : ∃ n k : Int, (Hid (∀ W, Calls Tryd.prog 24 #[.agg #[.int .i64 y, .int .i64 m, .int .i64 d, .int .i64 h, .int .i64 i, .int .i64 s]] W fun e w' => e = .returned (.tuple #[.int .i64 n, .int .i64 k]) ∧ Below W.heap.size W w')) ∧
    (Hid (∀ W, Calls Tryd.prog 25 #[.agg #[.int .i64 y, .int .i64 m, .int .i64 d, .int .i64 h, .int .i64 i, .int .i64 s]] W fun e w' => e = .returned (.tuple #[.int .i64 n, .int .i64 k]) ∧ Below W.heap.size W w')) := by
  cases hr : St.rB y m d h i s
  · exact ⟨_, _, fun W => ssecs_no y m d h i s W hr, fun W => rssecs_no y m d h i s W hr⟩
  · exact ⟨_, _, fun W => ssecs_yes y m d h i s W hr, fun W => rssecs_yes y m d h i s W hr⟩
theorem st_of (t : Int) (t0 : -9223372036854775808 ≤ t) (t1 : t ≤ 9223372036854775807) : ∃ a b c f g j k : Int, (Hid (∀ W, Calls Tryd.prog 26 #[.int .i64 t] W fun e w' => e = .returned (.tuple #[.agg #[.int .i64 a, .int .i64 b, .int .i64 c, .int .i64 f, .int .i64 g, .int .i64 j], .int .i64 k]) ∧ Below W.heap.size W w')) ∧
    (Hid (∀ W, Calls Tryd.prog 27 #[.int .i64 t] W fun e w' => e = .returned (.tuple #[.agg #[.int .i64 a, .int .i64 b, .int .i64 c, .int .i64 f, .int .i64 g, .int .i64 j], .int .i64 k]) ∧ Below W.heap.size W w')) := by
  cases hr : Cal.hasD (t / 86400)
  · exact ⟨_, _, _, _, _, _, _, fun W => sof_no t W t0 t1 hr, fun W => rsof_no t W t0 t1 hr⟩
  · exact ⟨_, _, _, _, _, _, _, fun W => sof_yes t W t0 t1 hr, fun W => rsof_yes t W t0 t1 hr⟩
theorem st_read (x : ByteArray) (hx : x.size ≤ 1000) : ∃ a b c f g j k : Int, (Hid (∀ W, Calls Tryd.prog 28 #[.string x] W fun e w' => e = .returned (.tuple #[.agg #[.int .i64 a, .int .i64 b, .int .i64 c, .int .i64 f, .int .i64 g, .int .i64 j], .int .i64 k]) ∧ Below W.heap.size W w')) ∧
    (Hid (∀ W, Calls Tryd.prog 29 #[.string x] W fun e w' => e = .returned (.tuple #[.agg #[.int .i64 a, .int .i64 b, .int .i64 c, .int .i64 f, .int .i64 g, .int .i64 j], .int .i64 k]) ∧ Below W.heap.size W w')) := by
  have P := fun W => sread_rv x W hx
  have R := fun W => rsread_any x W hx
  unfold Rd.rv at P R
  cases hf : Rd.form x.data.toList
  · rw [hf] at P R; exact ⟨_, _, _, _, _, _, _, P, R⟩
  · cases ho : Rd.ok x.data.toList
    · rw [hf, ho] at P R; exact ⟨_, _, _, _, _, _, _, P, R⟩
    · rw [hf, ho] at P R; exact ⟨_, _, _, _, _, _, _, P, R⟩
set_option maxHeartbeats 8000000 in
set_option maxRecDepth 100000 in
theorem sttells_long (y m d h i s t : Int) (x : ByteArray) (w : World) (hx : 1000 < x.size) (hm : x.size ≤ maxLen) (htab : Lib.TabIs Tryd.prog w "internal/strconv.uint64pow10" .u64 Lib.pow10Tab) :
    Calls Tryd.prog 4 #[.agg #[.int .i64 y, .int .i64 m, .int .i64 d, .int .i64 h, .int .i64 i, .int .i64 s], .int .i64 t, .string x] w fun e w' => e = .returned (.bool true) ∧ Below w.heap.size w w' := by
  have T0 := Lib.hid htab; clear htab
  have hx1 : 1000 < (x.size : Int) := by omega
  clear hx
  unfold maxLen at hm
  go_enter Tryd.func4, Tryd.ntmps4
  go_wp2_with fail
  refine (lives4 _ (var_keep (by repeat (first | exact Below.refl _ _ | refine below_drewN ?_ _ | refine Below.drew ?_ | refine Below.setCell ?_ (by first | (simp; done) | (simp; omega) | omega) _ | refine Below.alloc ?_ (by first | (simp; done) | (simp; omega) | omega) _)) T0.out)).mono ?_; rintro e w1 ⟨rfl, b1⟩
  have d1 : Below w.heap.size w w1 := below_step (by repeat (first | exact Below.refl _ _ | refine below_drewN ?_ _ | refine Below.drew ?_ | refine Below.setCell ?_ (by first | (simp; done) | (simp; omega) | omega) _ | refine Below.alloc ?_ (by first | (simp; done) | (simp; omega) | omega) _)) b1
  have B1 := Lib.hid d1
  have S1 : Bk6 w1 (w.heap.size) (.int .i64 y) (.int .i64 m) (.int .i64 d) (.int .i64 h) (.int .i64 i) (.int .i64 s) := Bk6.of b1 (by simp <;> omega) (by intro j; simp [go_sem]) (by simp [go_sem]) (by simp [go_sem]) (by simp [go_sem]) (by simp [go_sem]) (by simp [go_sem]) (by simp [go_sem])
  clear b1 d1
  have cS_b := S1.hb
  have cS_f := S1.fz
  have cS_0 := S1.k0
  have cS_1 := S1.k1
  have cS_2 := S1.k2
  have cS_3 := S1.k3
  have cS_4 := S1.k4
  have cS_5 := S1.k5
  go_wp2_with fail
  clear cS_b cS_f cS_0 cS_1 cS_2 cS_3 cS_4 cS_5
  go_ret
  exact ⟨rfl, (by have hz := B1.out.size; repeat (first | exact B1.out | refine below_drewN ?_ _ | refine Below.drew ?_ | refine Below.setCell ?_ (by first | omega | (simp; done) | (simp; omega)) _ | refine Below.alloc ?_ (by first | omega | (simp; done) | (simp; omega)) _))⟩
set_option maxHeartbeats 16000000 in
set_option maxRecDepth 100000 in
theorem sttells (y m d h i s t : Int) (x : ByteArray) (w : World) (hx : x.size ≤ 1000) (t0 : -9223372036854775808 ≤ t) (t1 : t ≤ 9223372036854775807) (htab : Lib.TabIs Tryd.prog w "internal/strconv.uint64pow10" .u64 Lib.pow10Tab) :
    Calls Tryd.prog 4 #[.agg #[.int .i64 y, .int .i64 m, .int .i64 d, .int .i64 h, .int .i64 i, .int .i64 s], .int .i64 t, .string x] w fun e w' => e = .returned (.bool true) ∧ Below w.heap.size w w' := by
  have T0 := Lib.hid htab; clear htab
  obtain ⟨n, k, SP, SR⟩ := st_secs y m d h i s
  obtain ⟨u1, u2, u3, u4, u5, u6, u7, OP, OR⟩ := st_of t t0 t1
  obtain ⟨z1, z2, z3, z4, z5, z6, z7, XP, XR⟩ := st_read x hx
  obtain ⟨bb, RP, RR⟩ : ∃ bb, (Hid (∀ W, Calls Tryd.prog 33 #[.agg #[.int .i64 y, .int .i64 m, .int .i64 d, .int .i64 h, .int .i64 i, .int .i64 s]] W fun e w' => e = .returned (.bool bb) ∧ Below W.heap.size W w')) ∧ (Hid (∀ W, Calls Tryd.prog 34 #[.agg #[.int .i64 y, .int .i64 m, .int .i64 d, .int .i64 h, .int .i64 i, .int .i64 s]] W fun e w' => e = .returned (.bool bb) ∧ Below W.heap.size W w')) := ⟨_, fun W => sright_any y m d h i s W, fun W => rsright_any y m d h i s W⟩
  obtain ⟨tt, TP, TR⟩ : ∃ tt, (Hid (∀ W, Lib.TabIs Tryd.prog W "internal/strconv.uint64pow10" .u64 Lib.pow10Tab → Calls Tryd.prog 35 #[.agg #[.int .i64 y, .int .i64 m, .int .i64 d, .int .i64 h, .int .i64 i, .int .i64 s]] W fun e w' => e = .returned (.string tt) ∧ Below W.heap.size W w')) ∧ (Hid (∀ W, Calls Tryd.prog 36 #[.agg #[.int .i64 y, .int .i64 m, .int .i64 d, .int .i64 h, .int .i64 i, .int .i64 s]] W fun e w' => e = .returned (.string tt) ∧ Below W.heap.size W w')) := ⟨_, fun W T => stext_any y m d h i s W T, fun W => rstext_any y m d h i s W⟩
  obtain ⟨q, r, PP, PF, PR⟩ : ∃ q r : Int, (Hid (∀ W, Calls Tryd.prog 30 #[.int .i64 t] W fun e w' => e = .returned (.tuple #[.int .i64 q, .int .i64 r]) ∧ Below W.heap.size W w')) ∧ (Hid (∀ W, Calls Tryd.prog 31 #[.int .i64 t, .int .i64 86400] W fun e w' => e = .returned (.int .i64 q) ∧ Below W.heap.size W w')) ∧ (Hid (∀ W, Calls Tryd.prog 32 #[.int .i64 t, .int .i64 86400] W fun e w' => e = .returned (.int .i64 r) ∧ Below W.heap.size W w')) :=
    ⟨_, _, fun W => split_any t W t0 t1, fun W => (floor_pos t 86400 W t0 t1 (by omega) (by omega)).mono fun _ _ ⟨h, n, e⟩ => ⟨h, by rw [e]; exact below_draw _ _⟩, fun W => (rest_pos t 86400 W t0 t1 (by omega) (by omega)).mono fun _ _ ⟨h, n, e⟩ => ⟨h, by rw [e]; exact below_draw _ _⟩⟩
  have LV := Lib.hid (fun W (T : Lib.TabIs Tryd.prog W "internal/strconv.uint64pow10" .u64 Lib.pow10Tab) => lives4 W T)
  have hx1 : ¬ 1000 < (x.size : Int) := by omega
  clear t0 t1
  go_enter Tryd.func4, Tryd.ntmps4
  go_wp2_with fail
  refine (SP.out _).mono ?_; rintro e w1 ⟨rfl, b1⟩
  have d1 : Below w.heap.size w w1 := below_step (by repeat (first | exact Below.refl _ _ | refine below_drewN ?_ _ | refine Below.drew ?_ | refine Below.setCell ?_ (by first | (simp; done) | (simp; omega) | omega) _ | refine Below.alloc ?_ (by first | (simp; done) | (simp; omega) | omega) _)) b1
  have B1 := Lib.hid d1
  have S1 : Bk6 w1 (w.heap.size) (.int .i64 y) (.int .i64 m) (.int .i64 d) (.int .i64 h) (.int .i64 i) (.int .i64 s) := Bk6.of b1 (by simp <;> omega) (by intro j; simp [go_sem]) (by simp [go_sem]) (by simp [go_sem]) (by simp [go_sem]) (by simp [go_sem]) (by simp [go_sem]) (by simp [go_sem])
  clear b1 d1
  have cS_b := S1.hb
  have cS_f := S1.fz
  have cS_0 := S1.k0
  have cS_1 := S1.k1
  have cS_2 := S1.k2
  have cS_3 := S1.k3
  have cS_4 := S1.k4
  have cS_5 := S1.k5
  go_wp2_with fail
  clear cS_b cS_f cS_0 cS_1 cS_2 cS_3 cS_4 cS_5
  refine (SR.out _).mono ?_; rintro e w2 ⟨rfl, b2⟩
  have d2 : Below w1.heap.size w1 w2 := below_step (by repeat (first | exact Below.refl _ _ | refine below_drewN ?_ _ | refine Below.drew ?_ | refine Below.setCell ?_ (by first | (simp; done) | (simp; omega) | omega) _ | refine Below.alloc ?_ (by first | (simp; done) | (simp; omega) | omega) _)) b2
  have B2 := Lib.hid (below_step B1.out d2)
  have S2 := S1.keep d2
  clear S1 b2 d2 B1
  have cS_b := S2.hb
  have cS_f := S2.fz
  have cS_0 := S2.k0
  have cS_1 := S2.k1
  have cS_2 := S2.k2
  have cS_3 := S2.k3
  have cS_4 := S2.k4
  have cS_5 := S2.k5
  go_wp2_with fail
  clear cS_b cS_f cS_0 cS_1 cS_2 cS_3 cS_4 cS_5
  refine (OP.out _).mono ?_; rintro e w3 ⟨rfl, b3⟩
  have d3 : Below w2.heap.size w2 w3 := below_step (by repeat (first | exact Below.refl _ _ | refine below_drewN ?_ _ | refine Below.drew ?_ | refine Below.setCell ?_ (by first | (simp; done) | (simp; omega) | omega) _ | refine Below.alloc ?_ (by first | (simp; done) | (simp; omega) | omega) _)) b3
  have B3 := Lib.hid (below_step B2.out d3)
  have S3 := S2.keep d3
  clear S2 b3 d3 B2
  have cS_b := S3.hb
  have cS_f := S3.fz
  have cS_0 := S3.k0
  have cS_1 := S3.k1
  have cS_2 := S3.k2
  have cS_3 := S3.k3
  have cS_4 := S3.k4
  have cS_5 := S3.k5
  go_wp2_with fail
  clear cS_b cS_f cS_0 cS_1 cS_2 cS_3 cS_4 cS_5
  refine (OR.out _).mono ?_; rintro e w4 ⟨rfl, b4⟩
  have d4 : Below w3.heap.size w3 w4 := below_step (by repeat (first | exact Below.refl _ _ | refine below_drewN ?_ _ | refine Below.drew ?_ | refine Below.setCell ?_ (by first | (simp; done) | (simp; omega) | omega) _ | refine Below.alloc ?_ (by first | (simp; done) | (simp; omega) | omega) _)) b4
  have B4 := Lib.hid (below_step B3.out d4)
  have S4 := S3.keep d4
  have aU := B3.out.size
  have nUS := Nat.ne_of_lt S3.hb
  have oUS := Nat.ne_of_gt S3.hb
  have U4 : Bk6 w4 (w3.heap.size) (.int .i64 u1) (.int .i64 u2) (.int .i64 u3) (.int .i64 u4) (.int .i64 u5) (.int .i64 u6) := Bk6.of b4 (by simp <;> omega) (by intro j; simp [go_sem]) (by simp [go_sem]) (by simp [go_sem]) (by simp [go_sem]) (by simp [go_sem]) (by simp [go_sem]) (by simp [go_sem])
  clear S3 b4 d4 B3
  have cS_b := S4.hb
  have cS_f := S4.fz
  have cS_0 := S4.k0
  have cS_1 := S4.k1
  have cS_2 := S4.k2
  have cS_3 := S4.k3
  have cS_4 := S4.k4
  have cS_5 := S4.k5
  have cU_b := U4.hb
  have cU_f := U4.fz
  have cU_0 := U4.k0
  have cU_1 := U4.k1
  have cU_2 := U4.k2
  have cU_3 := U4.k3
  have cU_4 := U4.k4
  have cU_5 := U4.k5
  go_wp2_with fail
  clear cS_b cS_f cS_0 cS_1 cS_2 cS_3 cS_4 cS_5 cU_b cU_f cU_0 cU_1 cU_2 cU_3 cU_4 cU_5
  refine (XP.out _).mono ?_; rintro e w5 ⟨rfl, b5⟩
  have d5 : Below w4.heap.size w4 w5 := below_step (by repeat (first | exact Below.refl _ _ | refine below_drewN ?_ _ | refine Below.drew ?_ | refine Below.setCell ?_ (by first | (simp; done) | (simp; omega) | omega) _ | refine Below.alloc ?_ (by first | (simp; done) | (simp; omega) | omega) _)) b5
  have B5 := Lib.hid (below_step B4.out d5)
  have S5 := S4.keep d5
  have U5 := U4.keep d5
  have aV := B4.out.size
  have nVS := Nat.ne_of_lt S4.hb
  have oVS := Nat.ne_of_gt S4.hb
  have nVU := Nat.ne_of_lt U4.hb
  have oVU := Nat.ne_of_gt U4.hb
  have V5 : Bk6 w5 (w4.heap.size) (.int .i64 u1) (.int .i64 u2) (.int .i64 u3) (.int .i64 u4) (.int .i64 u5) (.int .i64 u6) := Bk6.of b5 (by simp <;> omega) (by intro j; simp [go_sem]) (by simp [go_sem]) (by simp [go_sem]) (by simp [go_sem]) (by simp [go_sem]) (by simp [go_sem]) (by simp [go_sem])
  clear S4 U4 b5 d5 B4
  have cS_b := S5.hb
  have cS_f := S5.fz
  have cS_0 := S5.k0
  have cS_1 := S5.k1
  have cS_2 := S5.k2
  have cS_3 := S5.k3
  have cS_4 := S5.k4
  have cS_5 := S5.k5
  have cU_b := U5.hb
  have cU_f := U5.fz
  have cU_0 := U5.k0
  have cU_1 := U5.k1
  have cU_2 := U5.k2
  have cU_3 := U5.k3
  have cU_4 := U5.k4
  have cU_5 := U5.k5
  have cV_b := V5.hb
  have cV_f := V5.fz
  have cV_0 := V5.k0
  have cV_1 := V5.k1
  have cV_2 := V5.k2
  have cV_3 := V5.k3
  have cV_4 := V5.k4
  have cV_5 := V5.k5
  go_wp2_with fail
  clear cS_b cS_f cS_0 cS_1 cS_2 cS_3 cS_4 cS_5 cU_b cU_f cU_0 cU_1 cU_2 cU_3 cU_4 cU_5 cV_b cV_f cV_0 cV_1 cV_2 cV_3 cV_4 cV_5
  refine (XR.out _).mono ?_; rintro e w6 ⟨rfl, b6⟩
  have d6 : Below w5.heap.size w5 w6 := below_step (by repeat (first | exact Below.refl _ _ | refine below_drewN ?_ _ | refine Below.drew ?_ | refine Below.setCell ?_ (by first | (simp; done) | (simp; omega) | omega) _ | refine Below.alloc ?_ (by first | (simp; done) | (simp; omega) | omega) _)) b6
  have B6 := Lib.hid (below_step B5.out d6)
  have S6 := S5.keep d6
  have U6 := U5.keep d6
  have V6 := V5.keep d6
  have aY := B5.out.size
  have nYS := Nat.ne_of_lt S5.hb
  have oYS := Nat.ne_of_gt S5.hb
  have nYU := Nat.ne_of_lt U5.hb
  have oYU := Nat.ne_of_gt U5.hb
  have nYV := Nat.ne_of_lt V5.hb
  have oYV := Nat.ne_of_gt V5.hb
  have Y6 : Bk6 w6 (w5.heap.size) (.int .i64 z1) (.int .i64 z2) (.int .i64 z3) (.int .i64 z4) (.int .i64 z5) (.int .i64 z6) := Bk6.of b6 (by simp <;> omega) (by intro j; simp [go_sem]) (by simp [go_sem]) (by simp [go_sem]) (by simp [go_sem]) (by simp [go_sem]) (by simp [go_sem]) (by simp [go_sem])
  clear S5 U5 V5 b6 d6 B5
  have cS_b := S6.hb
  have cS_f := S6.fz
  have cS_0 := S6.k0
  have cS_1 := S6.k1
  have cS_2 := S6.k2
  have cS_3 := S6.k3
  have cS_4 := S6.k4
  have cS_5 := S6.k5
  have cU_b := U6.hb
  have cU_f := U6.fz
  have cU_0 := U6.k0
  have cU_1 := U6.k1
  have cU_2 := U6.k2
  have cU_3 := U6.k3
  have cU_4 := U6.k4
  have cU_5 := U6.k5
  have cV_b := V6.hb
  have cV_f := V6.fz
  have cV_0 := V6.k0
  have cV_1 := V6.k1
  have cV_2 := V6.k2
  have cV_3 := V6.k3
  have cV_4 := V6.k4
  have cV_5 := V6.k5
  have cY_b := Y6.hb
  have cY_f := Y6.fz
  have cY_0 := Y6.k0
  have cY_1 := Y6.k1
  have cY_2 := Y6.k2
  have cY_3 := Y6.k3
  have cY_4 := Y6.k4
  have cY_5 := Y6.k5
  go_wp2_with fail
  clear cS_b cS_f cS_0 cS_1 cS_2 cS_3 cS_4 cS_5 cU_b cU_f cU_0 cU_1 cU_2 cU_3 cU_4 cU_5 cV_b cV_f cV_0 cV_1 cV_2 cV_3 cV_4 cV_5 cY_b cY_f cY_0 cY_1 cY_2 cY_3 cY_4 cY_5
  refine (PP.out _).mono ?_; rintro e w7 ⟨rfl, b7⟩
  have d7 : Below w6.heap.size w6 w7 := below_step (by repeat (first | exact Below.refl _ _ | refine below_drewN ?_ _ | refine Below.drew ?_ | refine Below.setCell ?_ (by first | (simp; done) | (simp; omega) | omega) _ | refine Below.alloc ?_ (by first | (simp; done) | (simp; omega) | omega) _)) b7
  have B7 := Lib.hid (below_step B6.out d7)
  have S7 := S6.keep d7
  have U7 := U6.keep d7
  have V7 := V6.keep d7
  have Y7 := Y6.keep d7
  have aZ := B6.out.size
  have nZS := Nat.ne_of_lt S6.hb
  have oZS := Nat.ne_of_gt S6.hb
  have nZU := Nat.ne_of_lt U6.hb
  have oZU := Nat.ne_of_gt U6.hb
  have nZV := Nat.ne_of_lt V6.hb
  have oZV := Nat.ne_of_gt V6.hb
  have nZY := Nat.ne_of_lt Y6.hb
  have oZY := Nat.ne_of_gt Y6.hb
  have Z7 : Bk6 w7 (w6.heap.size) (.int .i64 z1) (.int .i64 z2) (.int .i64 z3) (.int .i64 z4) (.int .i64 z5) (.int .i64 z6) := Bk6.of b7 (by simp <;> omega) (by intro j; simp [go_sem]) (by simp [go_sem]) (by simp [go_sem]) (by simp [go_sem]) (by simp [go_sem]) (by simp [go_sem]) (by simp [go_sem])
  clear S6 U6 V6 Y6 b7 d7 B6
  clear SP SR OP OR XP XR PP
  have T1 := Lib.hid (var_keep B7.out T0.out)
  have cS_b := S7.hb
  have cS_f := S7.fz
  have cS_0 := S7.k0
  have cS_1 := S7.k1
  have cS_2 := S7.k2
  have cS_3 := S7.k3
  have cS_4 := S7.k4
  have cS_5 := S7.k5
  have cU_b := U7.hb
  have cU_f := U7.fz
  have cU_0 := U7.k0
  have cU_1 := U7.k1
  have cU_2 := U7.k2
  have cU_3 := U7.k3
  have cU_4 := U7.k4
  have cU_5 := U7.k5
  have cV_b := V7.hb
  have cV_f := V7.fz
  have cV_0 := V7.k0
  have cV_1 := V7.k1
  have cV_2 := V7.k2
  have cV_3 := V7.k3
  have cV_4 := V7.k4
  have cV_5 := V7.k5
  have cY_b := Y7.hb
  have cY_f := Y7.fz
  have cY_0 := Y7.k0
  have cY_1 := Y7.k1
  have cY_2 := Y7.k2
  have cY_3 := Y7.k3
  have cY_4 := Y7.k4
  have cY_5 := Y7.k5
  have cZ_b := Z7.hb
  have cZ_f := Z7.fz
  have cZ_0 := Z7.k0
  have cZ_1 := Z7.k1
  have cZ_2 := Z7.k2
  have cZ_3 := Z7.k3
  have cZ_4 := Z7.k4
  have cZ_5 := Z7.k5
  go_wp2_with fail
  clear cS_b cS_f cS_0 cS_1 cS_2 cS_3 cS_4 cS_5 cU_b cU_f cU_0 cU_1 cU_2 cU_3 cU_4 cU_5 cV_b cV_f cV_0 cV_1 cV_2 cV_3 cV_4 cV_5 cY_b cY_f cY_0 cY_1 cY_2 cY_3 cY_4 cY_5 cZ_b cZ_f cZ_0 cZ_1 cZ_2 cZ_3 cZ_4 cZ_5
  have qS_0 := cell_regrown S7.k0
  have qS_1 := cell_regrown S7.k1
  have qS_2 := cell_regrown S7.k2
  have qS_3 := cell_regrown S7.k3
  have qS_4 := cell_regrown S7.k4
  have qS_5 := cell_regrown S7.k5
  have qU_0 := cell_regrown U7.k0
  have qU_1 := cell_regrown U7.k1
  have qU_2 := cell_regrown U7.k2
  have qU_3 := cell_regrown U7.k3
  have qU_4 := cell_regrown U7.k4
  have qU_5 := cell_regrown U7.k5
  have qV_0 := cell_regrown V7.k0
  have qV_1 := cell_regrown V7.k1
  have qV_2 := cell_regrown V7.k2
  have qV_3 := cell_regrown V7.k3
  have qV_4 := cell_regrown V7.k4
  have qV_5 := cell_regrown V7.k5
  have qY_0 := cell_regrown Y7.k0
  have qY_1 := cell_regrown Y7.k1
  have qY_2 := cell_regrown Y7.k2
  have qY_3 := cell_regrown Y7.k3
  have qY_4 := cell_regrown Y7.k4
  have qY_5 := cell_regrown Y7.k5
  have qZ_0 := cell_regrown Z7.k0
  have qZ_1 := cell_regrown Z7.k1
  have qZ_2 := cell_regrown Z7.k2
  have qZ_3 := cell_regrown Z7.k3
  have qZ_4 := cell_regrown Z7.k4
  have qZ_5 := cell_regrown Z7.k5
  refine wp_region_qb (w := w7) (by kernel_rfl) (by kernel_rfl) (by repeat (first | exact Below.refl _ _ | refine below_drewN ?_ _ | refine Below.drew ?_ | refine Below.setCell ?_ (by first | (simp; done) | (simp; omega) | omega) _ | refine Below.alloc ?_ (by first | (simp; done) | (simp; omega) | omega) _)) ?_
  repeat (any_goals (first | go_big_quiet_step (first | (go_at_call 31; exact Calls.regrown_of (PF.out _)) | (go_at_call 32; exact Calls.regrown_of (PR.out _)) | (go_at_call 33; exact Calls.regrown_of (RP.out _)) | (go_at_call 34; exact Calls.regrown_of (RR.out _)) | (go_at_call 35; exact Calls.regrown_of (TP.out _ (var_keep (below_regrown _ _ _) T1.out))) | (go_at_call 36; exact Calls.regrown_of (TR.out _)) | (go_at_call 23; exact Calls.regrown_of (LV.out _ (var_keep (below_regrown _ _ _) T1.out)))) | quiet_step (first | (go_at_call 31; exact Calls.regrown_of (PF.out _)) | (go_at_call 32; exact Calls.regrown_of (PR.out _)) | (go_at_call 33; exact Calls.regrown_of (RP.out _)) | (go_at_call 34; exact Calls.regrown_of (RR.out _)) | (go_at_call 35; exact Calls.regrown_of (TP.out _ (var_keep (below_regrown _ _ _) T1.out))) | (go_at_call 36; exact Calls.regrown_of (TR.out _)) | (go_at_call 23; exact Calls.regrown_of (LV.out _ (var_keep (below_regrown _ _ _) T1.out))))))
  refine wpQuiet_nil ?_
  intro w8 hq
  have b8 : Below w7.heap.size w7 w8 := by obtain ⟨p, hq⟩ := hq; rw [hq]; exact below_regrown _ _ _
  clear hq qS_0 qS_1 qS_2 qS_3 qS_4 qS_5 qU_0 qU_1 qU_2 qU_3 qU_4 qU_5 qV_0 qV_1 qV_2 qV_3 qV_4 qV_5 qY_0 qY_1 qY_2 qY_3 qY_4 qY_5 qZ_0 qZ_1 qZ_2 qZ_3 qZ_4 qZ_5
  have d8 : Below w7.heap.size w7 w8 := below_step (by repeat (first | exact Below.refl _ _ | refine below_drewN ?_ _ | refine Below.drew ?_ | refine Below.setCell ?_ (by first | (simp; done) | (simp; omega) | omega) _ | refine Below.alloc ?_ (by first | (simp; done) | (simp; omega) | omega) _)) b8
  have B8 := Lib.hid (below_step B7.out d8)
  have S8 := S7.keep d8
  have U8 := U7.keep d8
  have V8 := V7.keep d8
  have Y8 := Y7.keep d8
  have Z8 := Z7.keep d8
  clear S7 U7 V7 Y7 Z7 b8 d8 B7
  have cS_b := S8.hb
  have cS_f := S8.fz
  have cS_0 := S8.k0
  have cS_1 := S8.k1
  have cS_2 := S8.k2
  have cS_3 := S8.k3
  have cS_4 := S8.k4
  have cS_5 := S8.k5
  have cU_b := U8.hb
  have cU_f := U8.fz
  have cU_0 := U8.k0
  have cU_1 := U8.k1
  have cU_2 := U8.k2
  have cU_3 := U8.k3
  have cU_4 := U8.k4
  have cU_5 := U8.k5
  have cV_b := V8.hb
  have cV_f := V8.fz
  have cV_0 := V8.k0
  have cV_1 := V8.k1
  have cV_2 := V8.k2
  have cV_3 := V8.k3
  have cV_4 := V8.k4
  have cV_5 := V8.k5
  have cY_b := Y8.hb
  have cY_f := Y8.fz
  have cY_0 := Y8.k0
  have cY_1 := Y8.k1
  have cY_2 := Y8.k2
  have cY_3 := Y8.k3
  have cY_4 := Y8.k4
  have cY_5 := Y8.k5
  have cZ_b := Z8.hb
  have cZ_f := Z8.fz
  have cZ_0 := Z8.k0
  have cZ_1 := Z8.k1
  have cZ_2 := Z8.k2
  have cZ_3 := Z8.k3
  have cZ_4 := Z8.k4
  have cZ_5 := Z8.k5
  go_wp2_with fail
  clear cS_b cS_f cS_0 cS_1 cS_2 cS_3 cS_4 cS_5 cU_b cU_f cU_0 cU_1 cU_2 cU_3 cU_4 cU_5 cV_b cV_f cV_0 cV_1 cV_2 cV_3 cV_4 cV_5 cY_b cY_f cY_0 cY_1 cY_2 cY_3 cY_4 cY_5 cZ_b cZ_f cZ_0 cZ_1 cZ_2 cZ_3 cZ_4 cZ_5
  go_ret
  exact ⟨rfl, (by have hz := B8.out.size; repeat (first | exact B8.out | refine below_drewN ?_ _ | refine Below.drew ?_ | refine Below.setCell ?_ (by first | omega | (simp; done) | (simp; omega)) _ | refine Below.alloc ?_ (by first | omega | (simp; done) | (simp; omega)) _))⟩
theorem sttells_walk (y m d h i s t : Int) (x : ByteArray) (w : World) (htab : Lib.TabIs Tryd.prog w "internal/strconv.uint64pow10" .u64 Lib.pow10Tab) (t0 : -9223372036854775808 ≤ t) (t1 : t ≤ 9223372036854775807) (hm : x.size ≤ maxLen) :
    Calls Tryd.prog 4 #[.agg #[.int .i64 y, .int .i64 m, .int .i64 d, .int .i64 h, .int .i64 i, .int .i64 s], .int .i64 t, .string x] w fun e w' => e = .returned (.bool true) ∧ Below w.heap.size w w' := by
  by_cases hx : x.size ≤ 1000
  · exact sttells y m d h i s t x w hx t0 t1 htab
  · exact sttells_long y m d h i s t x w (by omega) hm htab
end Go.Proofs.YtfcabofhlgmkjaaDoor

