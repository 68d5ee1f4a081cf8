/- The walk of WeekTells: both sides answer alike. -/
import Derived.Test.YtfcabofhlgmkjaaDoorRwC
import Derived.Test.YtfcabofhlgmkjaaDoorRwD
import Derived.Test.YtfcabofhlgmkjaaDoorRwE
import Derived.Test.YtfcabofhlgmkjaaDoorLiv7
import Derived.Lib.QuietBelow
set_option linter.unusedVariables false
set_option linter.unusedSimpArgs false
namespace Go.Proofs.YtfcabofhlgmkjaaDoor
open Go.RowKit Go.Sort

set_option maxHeartbeats 16000000 in
set_option maxRecDepth 100000 in
theorem wktells_walk (y m d Y K D n : Int) (w : World) (htab : Lib.TabIs Tryd.prog w "internal/strconv.uint64pow10" .u64 Lib.pow10Tab) :
    Calls Tryd.prog 3 #[.agg #[.int .i64 y, .int .i64 m, .int .i64 d], .agg #[.int .i64 Y, .int .i64 K, .int .i64 D], .int .i64 n] w fun e w' => e = .returned (.bool true) ∧ Below w.heap.size w w' := by
  have T0 := Lib.hid htab; clear htab
  obtain ⟨u1, u2, u3, u4, OP, OR⟩ : ∃ a b c k : Int, (Hid (∀ W, Calls Tryd.prog 12 #[.agg #[.int .i64 y, .int .i64 m, .int .i64 d]] W fun e w' => e = .returned (.tuple #[.agg #[.int .i64 a, .int .i64 b, .int .i64 c], .int .i64 k]) ∧ Below W.heap.size W w')) ∧ (Hid (∀ W, Calls Tryd.prog 13 #[.agg #[.int .i64 y, .int .i64 m, .int .i64 d]] W fun e w' => e = .returned (.tuple #[.agg #[.int .i64 a, .int .i64 b, .int .i64 c], .int .i64 k]) ∧ Below W.heap.size W w')) := ⟨_, _, _, _, fun W => wof_any y m d W, fun W => rwof_any y m d W⟩
  obtain ⟨z1, z2, z3, z4, DP, DR⟩ : ∃ a b c k : Int, (Hid (∀ W, Calls Tryd.prog 14 #[.agg #[.int .i64 Y, .int .i64 K, .int .i64 D]] W fun e w' => e = .returned (.tuple #[.agg #[.int .i64 a, .int .i64 b, .int .i64 c], .int .i64 k]) ∧ Below W.heap.size W w')) ∧ (Hid (∀ W, Calls Tryd.prog 15 #[.agg #[.int .i64 Y, .int .i64 K, .int .i64 D]] W fun e w' => e = .returned (.tuple #[.agg #[.int .i64 a, .int .i64 b, .int .i64 c], .int .i64 k]) ∧ Below W.heap.size W w')) := ⟨_, _, _, _, fun W => wdate_any Y K D W, fun W => rwdate_any Y K D W⟩
  obtain ⟨ks, NP, NR⟩ : ∃ k : Int, (Hid (∀ W, Calls Tryd.prog 16 #[.int .i64 n] W fun e w' => e = .returned (.int .i64 k) ∧ Below W.heap.size W w')) ∧ (Hid (∀ W, Calls Tryd.prog 17 #[.int .i64 n] W fun e w' => e = .returned (.int .i64 k) ∧ Below W.heap.size W w')) := ⟨_, fun W => weeks_any n W, fun W => rweeks_any n W⟩
  obtain ⟨bb, RP, RR⟩ : ∃ b, (Hid (∀ W, Calls Tryd.prog 18 #[.agg #[.int .i64 Y, .int .i64 K, .int .i64 D]] W fun e w' => e = .returned (.bool b) ∧ Below W.heap.size W w')) ∧ (Hid (∀ W, Calls Tryd.prog 19 #[.agg #[.int .i64 Y, .int .i64 K, .int .i64 D]] W fun e w' => e = .returned (.bool b) ∧ Below W.heap.size W w')) := ⟨_, fun W => wright_any Y K D W, fun W => rwright_any Y K D W⟩
  obtain ⟨tt, TP, TR⟩ : ∃ t, (Hid (∀ W, Lib.TabIs Tryd.prog W "internal/strconv.uint64pow10" .u64 Lib.pow10Tab → Calls Tryd.prog 20 #[.agg #[.int .i64 Y, .int .i64 K, .int .i64 D]] W fun e w' => e = .returned (.string t) ∧ Below W.heap.size W w')) ∧ (Hid (∀ W, Calls Tryd.prog 21 #[.agg #[.int .i64 Y, .int .i64 K, .int .i64 D]] W fun e w' => e = .returned (.string t) ∧ Below W.heap.size W w')) := ⟨_, fun W T => wtext_any Y K D W T, fun W => rwtext_any Y K D W⟩
  have LV := Lib.hid (fun W (T : Lib.TabIs Tryd.prog W "internal/strconv.uint64pow10" .u64 Lib.pow10Tab) => lives7 W T)
  go_enter Tryd.func3, Tryd.ntmps3
  go_wp2_with fail
  refine (OP.out _).mono ?_; rintro e w1 ⟨rfl, b1⟩
  have d1 : Below w.heap.size w w1 := below_step (by repeat (first | exact Below.refl _ _ | refine below_drewN ?_ _ | refine Below.drew ?_ | refine Below.setCell ?_ (by first | (simp; done) | (simp; omega) | omega) _ | refine Below.alloc ?_ (by first | (simp; done) | (simp; omega) | omega) _)) b1
  have B1 := Lib.hid d1
  have X1 : Bk3 w1 (w.heap.size) (.int .i64 y) (.int .i64 m) (.int .i64 d) := Bk3.of b1 (by simp <;> omega) (by intro j; simp [go_sem]) (by simp [go_sem]) (by simp [go_sem]) (by simp [go_sem])
  have V1 : Bk3 w1 (w.heap.size + 1) (.int .i64 Y) (.int .i64 K) (.int .i64 D) := Bk3.of b1 (by simp <;> omega) (by intro j; simp [go_sem]) (by simp [go_sem]) (by simp [go_sem]) (by simp [go_sem])
  clear b1 d1
  have cX_b := X1.hb
  have cX_f := X1.fz
  have cX_0 := X1.k0
  have cX_1 := X1.k1
  have cX_2 := X1.k2
  have cV_b := V1.hb
  have cV_f := V1.fz
  have cV_0 := V1.k0
  have cV_1 := V1.k1
  have cV_2 := V1.k2
  go_wp2_with fail
  clear cX_b cX_f cX_0 cX_1 cX_2 cV_b cV_f cV_0 cV_1 cV_2
  refine (OR.out _).mono ?_; rintro e w2 ⟨rfl, b2⟩
  have d2 : Below w1.heap.size w1 w2 := below_step (by repeat (first | exact Below.refl _ _ | refine below_drewN ?_ _ | refine Below.drew ?_ | refine Below.setCell ?_ (by first | (simp; done) | (simp; omega) | omega) _ | refine Below.alloc ?_ (by first | (simp; done) | (simp; omega) | omega) _)) b2
  have B2 := Lib.hid (below_step B1.out d2)
  have X2 := X1.keep d2
  have V2 := V1.keep d2
  have aU := B1.out.size
  have nUX := Nat.ne_of_lt X1.hb
  have oUX := Nat.ne_of_gt X1.hb
  have nUV := Nat.ne_of_lt V1.hb
  have oUV := Nat.ne_of_gt V1.hb
  have U2 : Bk3 w2 (w1.heap.size) (.int .i64 u1) (.int .i64 u2) (.int .i64 u3) := Bk3.of b2 (by simp <;> omega) (by intro j; simp [go_sem]) (by simp [go_sem]) (by simp [go_sem]) (by simp [go_sem])
  clear X1 V1 b2 d2 B1
  have cX_b := X2.hb
  have cX_f := X2.fz
  have cX_0 := X2.k0
  have cX_1 := X2.k1
  have cX_2 := X2.k2
  have cV_b := V2.hb
  have cV_f := V2.fz
  have cV_0 := V2.k0
  have cV_1 := V2.k1
  have cV_2 := V2.k2
  have cU_b := U2.hb
  have cU_f := U2.fz
  have cU_0 := U2.k0
  have cU_1 := U2.k1
  have cU_2 := U2.k2
  go_wp2_with fail
  clear cX_b cX_f cX_0 cX_1 cX_2 cV_b cV_f cV_0 cV_1 cV_2 cU_b cU_f cU_0 cU_1 cU_2
  refine (DP.out _).mono ?_; rintro e w3 ⟨rfl, b3⟩
  have d3 : Below w2.heap.size w2 w3 := below_step (by repeat (first | exact Below.refl _ _ | refine below_drewN ?_ _ | refine Below.drew ?_ | refine Below.setCell ?_ (by first | (simp; done) | (simp; omega) | omega) _ | refine Below.alloc ?_ (by first | (simp; done) | (simp; omega) | omega) _)) b3
  have B3 := Lib.hid (below_step B2.out d3)
  have X3 := X2.keep d3
  have V3 := V2.keep d3
  have U3 := U2.keep d3
  have aS := B2.out.size
  have nSX := Nat.ne_of_lt X2.hb
  have oSX := Nat.ne_of_gt X2.hb
  have nSV := Nat.ne_of_lt V2.hb
  have oSV := Nat.ne_of_gt V2.hb
  have nSU := Nat.ne_of_lt U2.hb
  have oSU := Nat.ne_of_gt U2.hb
  have S3 : Bk3 w3 (w2.heap.size) (.int .i64 u1) (.int .i64 u2) (.int .i64 u3) := Bk3.of b3 (by simp <;> omega) (by intro j; simp [go_sem]) (by simp [go_sem]) (by simp [go_sem]) (by simp [go_sem])
  clear X2 V2 U2 b3 d3 B2
  have cX_b := X3.hb
  have cX_f := X3.fz
  have cX_0 := X3.k0
  have cX_1 := X3.k1
  have cX_2 := X3.k2
  have cV_b := V3.hb
  have cV_f := V3.fz
  have cV_0 := V3.k0
  have cV_1 := V3.k1
  have cV_2 := V3.k2
  have cU_b := U3.hb
  have cU_f := U3.fz
  have cU_0 := U3.k0
  have cU_1 := U3.k1
  have cU_2 := U3.k2
  have cS_b := S3.hb
  have cS_f := S3.fz
  have cS_0 := S3.k0
  have cS_1 := S3.k1
  have cS_2 := S3.k2
  go_wp2_with fail
  clear cX_b cX_f cX_0 cX_1 cX_2 cV_b cV_f cV_0 cV_1 cV_2 cU_b cU_f cU_0 cU_1 cU_2 cS_b cS_f cS_0 cS_1 cS_2
  refine (DR.out _).mono ?_; rintro e w4 ⟨rfl, b4⟩
  have d4 : Below w3.heap.size w3 w4 := below_step (by repeat (first | exact Below.refl _ _ | refine below_drewN ?_ _ | refine Below.drew ?_ | refine Below.setCell ?_ (by first | (simp; done) | (simp; omega) | omega) _ | refine Below.alloc ?_ (by first | (simp; done) | (simp; omega) | omega) _)) b4
  have B4 := Lib.hid (below_step B3.out d4)
  have X4 := X3.keep d4
  have V4 := V3.keep d4
  have U4 := U3.keep d4
  have S4 := S3.keep d4
  have aP := B3.out.size
  have nPX := Nat.ne_of_lt X3.hb
  have oPX := Nat.ne_of_gt X3.hb
  have nPV := Nat.ne_of_lt V3.hb
  have oPV := Nat.ne_of_gt V3.hb
  have nPU := Nat.ne_of_lt U3.hb
  have oPU := Nat.ne_of_gt U3.hb
  have nPS := Nat.ne_of_lt S3.hb
  have oPS := Nat.ne_of_gt S3.hb
  have P4 : Bk3 w4 (w3.heap.size) (.int .i64 z1) (.int .i64 z2) (.int .i64 z3) := Bk3.of b4 (by simp <;> omega) (by intro j; simp [go_sem]) (by simp [go_sem]) (by simp [go_sem]) (by simp [go_sem])
  clear X3 V3 U3 S3 b4 d4 B3
  have cX_b := X4.hb
  have cX_f := X4.fz
  have cX_0 := X4.k0
  have cX_1 := X4.k1
  have cX_2 := X4.k2
  have cV_b := V4.hb
  have cV_f := V4.fz
  have cV_0 := V4.k0
  have cV_1 := V4.k1
  have cV_2 := V4.k2
  have cU_b := U4.hb
  have cU_f := U4.fz
  have cU_0 := U4.k0
  have cU_1 := U4.k1
  have cU_2 := U4.k2
  have cS_b := S4.hb
  have cS_f := S4.fz
  have cS_0 := S4.k0
  have cS_1 := S4.k1
  have cS_2 := S4.k2
  have cP_b := P4.hb
  have cP_f := P4.fz
  have cP_0 := P4.k0
  have cP_1 := P4.k1
  have cP_2 := P4.k2
  go_wp2_with fail
  clear cX_b cX_f cX_0 cX_1 cX_2 cV_b cV_f cV_0 cV_1 cV_2 cU_b cU_f cU_0 cU_1 cU_2 cS_b cS_f cS_0 cS_1 cS_2 cP_b cP_f cP_0 cP_1 cP_2
  refine wp_named ?_; intro w5 hw5
  have d5 : Below w4.heap.size w4 w5 := by rw [hw5]; exact (by repeat (first | exact Below.refl _ _ | refine below_drewN ?_ _ | refine Below.drew ?_ | refine Below.setCell ?_ (by first | (simp; done) | (simp; omega) | omega) _ | refine Below.alloc ?_ (by first | (simp; done) | (simp; omega) | omega) _))
  have B5 := Lib.hid (below_step B4.out d5)
  have X5 := X4.keep d5
  have V5 := V4.keep d5
  have U5 := U4.keep d5
  have S5 := S4.keep d5
  have P5 := P4.keep d5
  have aQ := B4.out.size
  have nQX := Nat.ne_of_lt X4.hb
  have oQX := Nat.ne_of_gt X4.hb
  have nQV := Nat.ne_of_lt V4.hb
  have oQV := Nat.ne_of_gt V4.hb
  have nQU := Nat.ne_of_lt U4.hb
  have oQU := Nat.ne_of_gt U4.hb
  have nQS := Nat.ne_of_lt S4.hb
  have oQS := Nat.ne_of_gt S4.hb
  have nQP := Nat.ne_of_lt P4.hb
  have oQP := Nat.ne_of_gt P4.hb
  have Q5 : Bk3 w5 (w4.heap.size) (.int .i64 z1) (.int .i64 z2) (.int .i64 z3) := by rw [hw5]; exact ⟨by simp <;> omega, by intro j; simp [go_sem], by simp [go_sem], by simp [go_sem], by simp [go_sem]⟩
  clear X4 V4 U4 S4 P4 d5 hw5 B4
  clear OP OR DP DR
  have T1 := Lib.hid (var_keep B5.out T0.out)
  have qX_0 := cell_regrown X5.k0
  have qX_1 := cell_regrown X5.k1
  have qX_2 := cell_regrown X5.k2
  have qV_0 := cell_regrown V5.k0
  have qV_1 := cell_regrown V5.k1
  have qV_2 := cell_regrown V5.k2
  have qU_0 := cell_regrown U5.k0
  have qU_1 := cell_regrown U5.k1
  have qU_2 := cell_regrown U5.k2
  have qS_0 := cell_regrown S5.k0
  have qS_1 := cell_regrown S5.k1
  have qS_2 := cell_regrown S5.k2
  have qP_0 := cell_regrown P5.k0
  have qP_1 := cell_regrown P5.k1
  have qP_2 := cell_regrown P5.k2
  have qQ_0 := cell_regrown Q5.k0
  have qQ_1 := cell_regrown Q5.k1
  have qQ_2 := cell_regrown Q5.k2
  refine wp_region_qb (w := w5) (by kernel_rfl) (by kernel_rfl) (by repeat (first | exact Below.refl _ _ | refine below_drewN ?_ _ | refine Below.drew ?_ | refine Below.setCell ?_ (by first | (simp; done) | (simp; omega) | omega) _ | refine Below.alloc ?_ (by first | (simp; done) | (simp; omega) | omega) _)) ?_
  repeat (any_goals (first | go_big_quiet_step (first | (go_at_call 16; exact Calls.regrown_of (NP.out _)) | (go_at_call 17; exact Calls.regrown_of (NR.out _)) | (go_at_call 18; exact Calls.regrown_of (RP.out _)) | (go_at_call 19; exact Calls.regrown_of (RR.out _)) | (go_at_call 20; exact Calls.regrown_of (TP.out _ (var_keep (below_regrown _ _ _) T1.out))) | (go_at_call 21; exact Calls.regrown_of (TR.out _)) | (go_at_call 22; exact Calls.regrown_of (LV.out _ (var_keep (below_regrown _ _ _) T1.out)))) | quiet_step (first | (go_at_call 16; exact Calls.regrown_of (NP.out _)) | (go_at_call 17; exact Calls.regrown_of (NR.out _)) | (go_at_call 18; exact Calls.regrown_of (RP.out _)) | (go_at_call 19; exact Calls.regrown_of (RR.out _)) | (go_at_call 20; exact Calls.regrown_of (TP.out _ (var_keep (below_regrown _ _ _) T1.out))) | (go_at_call 21; exact Calls.regrown_of (TR.out _)) | (go_at_call 22; exact Calls.regrown_of (LV.out _ (var_keep (below_regrown _ _ _) T1.out))))))
  refine wpQuiet_nil ?_
  intro w6 hq
  have b6 : Below w5.heap.size w5 w6 := by obtain ⟨p, hq⟩ := hq; rw [hq]; exact below_regrown _ _ _
  clear hq qX_0 qX_1 qX_2 qV_0 qV_1 qV_2 qU_0 qU_1 qU_2 qS_0 qS_1 qS_2 qP_0 qP_1 qP_2 qQ_0 qQ_1 qQ_2
  have d6 : Below w5.heap.size w5 w6 := below_step (by repeat (first | exact Below.refl _ _ | refine below_drewN ?_ _ | refine Below.drew ?_ | refine Below.setCell ?_ (by first | (simp; done) | (simp; omega) | omega) _ | refine Below.alloc ?_ (by first | (simp; done) | (simp; omega) | omega) _)) b6
  have B6 := Lib.hid (below_step B5.out d6)
  have X6 := X5.keep d6
  have V6 := V5.keep d6
  have U6 := U5.keep d6
  have S6 := S5.keep d6
  have P6 := P5.keep d6
  have Q6 := Q5.keep d6
  clear X5 V5 U5 S5 P5 Q5 b6 d6 B5
  have cX_b := X6.hb
  have cX_f := X6.fz
  have cX_0 := X6.k0
  have cX_1 := X6.k1
  have cX_2 := X6.k2
  have cV_b := V6.hb
  have cV_f := V6.fz
  have cV_0 := V6.k0
  have cV_1 := V6.k1
  have cV_2 := V6.k2
  have cU_b := U6.hb
  have cU_f := U6.fz
  have cU_0 := U6.k0
  have cU_1 := U6.k1
  have cU_2 := U6.k2
  have cS_b := S6.hb
  have cS_f := S6.fz
  have cS_0 := S6.k0
  have cS_1 := S6.k1
  have cS_2 := S6.k2
  have cP_b := P6.hb
  have cP_f := P6.fz
  have cP_0 := P6.k0
  have cP_1 := P6.k1
  have cP_2 := P6.k2
  have cQ_b := Q6.hb
  have cQ_f := Q6.fz
  have cQ_0 := Q6.k0
  have cQ_1 := Q6.k1
  have cQ_2 := Q6.k2
  go_wp2_with fail
  clear cX_b cX_f cX_0 cX_1 cX_2 cV_b cV_f cV_0 cV_1 cV_2 cU_b cU_f cU_0 cU_1 cU_2 cS_b cS_f cS_0 cS_1 cS_2 cP_b cP_f cP_0 cP_1 cP_2 cQ_b cQ_f cQ_0 cQ_1 cQ_2
  go_ret
  exact ⟨rfl, (by have hz := B6.out.size; repeat (first | exact B6.out | refine below_drewN ?_ _ | refine Below.drew ?_ | refine Below.setCell ?_ (by first | omega | (simp; done) | (simp; omega)) _ | refine Below.alloc ?_ (by first | omega | (simp; done) | (simp; omega)) _))⟩
end Go.Proofs.YtfcabofhlgmkjaaDoor

