/- Joined: QyY. -/
import Derived.Test.YtbcbggdbojonmaaGreatDoorBq01
import Derived.Test.YtbcbggdbojonmaaGreatDoorBq32
import Derived.Test.YtbcbggdbojonmaaGreatDoorBq33
import Derived.Test.YtbcbggdbojonmaaGreatDoorBq14
import Derived.Test.YtbcbggdbojonmaaGreatDoorBq11
set_option linter.unusedVariables false
set_option linter.unusedSimpArgs false
namespace Go.Proofs.YtbcbggdbojonmaaGreatDoor
open Go.RowKit Go.Sort Go.Pairs
theorem qy_ofno (t : Int) (w : World) (h : Cal.hasD (t / 86400) = false) (ht : An.bd t) : ∃ (b0 b1 b2 b3 b4 b5 y : Int), y ≠ 0 ∧ ∀ w, Calls Tryz.prog 12 #[.int .i64 t] w fun e w' => e = .returned (.tuple #[.agg #[.int .i64 b0, .int .i64 b1, .int .i64 b2, .int .i64 b3, .int .i64 b4, .int .i64 b5], .int .i64 y]) ∧ Below w.heap.size w w' :=
 ⟨_, _, _, _, _, _, _, by decide, fun w => sof_no t w ht.1 ht.2 h⟩
theorem qy_of (t : Int) (ht : An.bd t) (h : Cal.hasD (t / 86400) = true) : St.rB (Cal.dY (t / 86400)) (Cal.dM (t / 86400)) (Cal.dD (t / 86400)) (t % 86400 / 3600) (t % 86400 / 60 % 60) (t % 86400 % 60) = true ∧ St.sec (Cal.dY (t / 86400)) (Cal.dM (t / 86400)) (Cal.dD (t / 86400)) (t % 86400 / 3600) (t % 86400 / 60 % 60) (t % 86400 % 60) = t := by
 have hb := Cal.hasD_true.1 h
 refine ⟨St.rB_true.2 ⟨right_true.2 (Cal.date_right _ hb.1 hb.2), by omega, by omega, by omega, by omega, by omega, by omega⟩, ?_⟩
 unfold St.sec
 rw [Cal.date_num]
 omega
set_option maxHeartbeats 16000000 in
set_option maxRecDepth 100000 in
theorem query_back (s : ByteArray) (k : Int) (z : ByteArray) (t n u p : Int) (w : World) (hs : s.size ≤ 140737488355328) (hz : z.size ≤ 140737488355328) (ht : An.bd t) (hn : An.bd n)
  (T : Lib.TabIs Tryz.prog w "internal/strconv.uint64pow10" .u64 Lib.pow10Tab) (tp : TypeId) (pp : Value) (V : w.var? Tryz.prog "strconv.ErrRange" = some #[.iface tp pp]) :
  Calls Tryz.prog 4 #[.string s, .agg #[.int .i64 k, .string z, .int .i64 t, .int .i64 n, .int .i64 u, .int .i64 p]] w fun e w' => e = .returned (.bool true) ∧ Below w.heap.size w w' := by
 have TT := Lib.hid T; have VV := Lib.hid V
 have LV := Lib.hid (fun W (B : Below w.heap.size w W) => lives44 W (var_keep B TT.out) tp pp (var_keep B VV.out))
 clear T V
 by_cases h1 : 2000 < s.size
 case pos =>
  have g : (2000 : Int) < (s.size : Int) := by omega
  clear ht hn h1
  go_enter Tryz.func4, Tryz.ntmps4
  go_upto_region 1 with (fail)
  refine wp_named ?_; intro w1 hw1
  have d1 : Below w.heap.size w w1 := by rw [hw1]; exact gr0
  have B1 := Lib.hid d1
  have X1 := Lib.hid (show Bk6 w1 w.heap.size (.int .i64 k) (.string z) (.int .i64 t) (.int .i64 n) (.int .i64 u) (.int .i64 p) from by rw [hw1]; exact ⟨by simp <;> omega, by intro j; simp [go_sem], by simp [go_sem], by simp [go_sem], by simp [go_sem], by simp [go_sem], by simp [go_sem], by simp [go_sem]⟩)
  clear d1 hw1
  have X := X1.out; have X_h := X.hb; have X_f := X.fz; have X_0 := X.k0; have X_1 := X.k1; have X_2 := X.k2; have X_3 := X.k3; have X_4 := X.k4; have X_5 := X.k5; clear X
  go_wp2_with fail
  refine (LV.out _ (below_step B1.out gr0)).mono ?_; rintro e w2 ⟨rfl, b2⟩
  clear X_h X_f X_0 X_1 X_2 X_3 X_4 X_5
  have d2 : Below w1.heap.size w1 w2 := below_step gr0 b2
  have B2 := Lib.hid (below_step B1.out d2)
  have X2 := Lib.hid (X1.out.keep d2)
  clear b2 d2 X1
  have X := X2.out; have X_h := X.hb; have X_f := X.fz; have X_0 := X.k0; have X_1 := X.k1; have X_2 := X.k2; have X_3 := X.k3; have X_4 := X.k4; have X_5 := X.k5; clear X
  go_wp2_with fail
  all_goals (go_ret; exact ⟨rfl, below_step B2.out gr0⟩)
 have g : ¬ (2000 : Int) < (s.size : Int) := by omega
 by_cases h2 : 500 < z.size
 case pos =>
  have g2 : (500 : Int) < (z.size : Int) := by omega
  clear ht hn h1 h2
  go_enter Tryz.func4, Tryz.ntmps4
  go_upto_region 1 with (fail)
  refine wp_named ?_; intro w1 hw1
  have d1 : Below w.heap.size w w1 := by rw [hw1]; exact gr0
  have B1 := Lib.hid d1
  have X1 := Lib.hid (show Bk6 w1 w.heap.size (.int .i64 k) (.string z) (.int .i64 t) (.int .i64 n) (.int .i64 u) (.int .i64 p) from by rw [hw1]; exact ⟨by simp <;> omega, by intro j; simp [go_sem], by simp [go_sem], by simp [go_sem], by simp [go_sem], by simp [go_sem], by simp [go_sem], by simp [go_sem]⟩)
  clear d1 hw1
  have X := X1.out; have X_h := X.hb; have X_f := X.fz; have X_0 := X.k0; have X_1 := X.k1; have X_2 := X.k2; have X_3 := X.k3; have X_4 := X.k4; have X_5 := X.k5; clear X
  go_wp2_with fail
  refine (LV.out _ (below_step B1.out gr0)).mono ?_; rintro e w2 ⟨rfl, b2⟩
  clear X_h X_f X_0 X_1 X_2 X_3 X_4 X_5
  have d2 : Below w1.heap.size w1 w2 := below_step gr0 b2
  have B2 := Lib.hid (below_step B1.out d2)
  have X2 := Lib.hid (X1.out.keep d2)
  clear b2 d2 X1
  have X := X2.out; have X_h := X.hb; have X_f := X.fz; have X_0 := X.k0; have X_1 := X.k1; have X_2 := X.k2; have X_3 := X.k3; have X_4 := X.k4; have X_5 := X.k5; clear X
  go_wp2_with fail
  all_goals (go_ret; exact ⟨rfl, below_step B2.out gr0⟩)
 have g2 : ¬ (500 : Int) < (z.size : Int) := by omega
 have hzl : z.data.toList.length ≤ 500 := by rw [show z.data.toList.length = z.size from Array.length_toList]; omega
 have RD := Lib.hid (fun W (B : Below w.heap.size w W) => qread_line s W (by omega) tp pp (var_keep B VV.out))
 have TX := Lib.hid (fun W (B : Below w.heap.size w W) => qText_any (k, z.data.toList, t, n, u, p) W ht hn (by dsimp only; omega) (var_keep B TT.out) tp pp (var_keep B VV.out))
 have RI := Lib.hid (fun W (B : Below w.heap.size w W) => qRight_any (k, z.data.toList, t, n, u, p) W ht hn (by dsimp only; omega) (var_keep B TT.out) tp pp (var_keep B VV.out))
 have ll := Qy.line_len (k, z.data.toList, t, n, u, p) ht hn (by dsimp only; omega)
 obtain ⟨Lq, hLq⟩ : ∃ Lq : ByteArray, Lq = ⟨(Qy.sj (Qy.parts (k, z.data.toList, t, n, u, p))).toArray⟩ := ⟨_, rfl⟩
 have eLq : Lq.data.toList = Qy.sj (Qy.parts (k, z.data.toList, t, n, u, p)) := by rw [hLq]
 have RQ := Lib.hid (fun W (B : Below w.heap.size w W) => qread_line Lq W (by rw [← show Lq.data.toList.length = Lq.size from Array.length_toList, eLq]; omega) tp pp (var_keep B VV.out))
 rw [eLq] at RQ
 unfold Qy.tx at TX
 have hb := Qy.rdq_bd s.data.toList
 have hrr := Qy.rd_right s.data.toList
 have hbad := Qy.rd_bad s.data.toList
 generalize Qy.rd s.data.toList = R at RD hb hrr hbad
 obtain ⟨A, y⟩ := R
 dsimp only at RD hb hrr hbad
 by_cases hr : Qy.right (k, z.data.toList, t, n, u, p)
 case neg =>
  rw [if_neg hr] at TX
  rw [decide_eq_false hr] at RI
  unfold Qy.V at TX RI
  dsimp only at TX RI
  rw [fd_id z] at TX RI
  rw [show (⟨([] : List UInt8).toArray⟩ : ByteArray) = ⟨#[]⟩ from rfl] at TX
  have htb := Lib.hid ht
  clear ht hn h1 h2 hzl hs hz ll hLq eLq RQ hr
  go_enter Tryz.func4, Tryz.ntmps4
  go_upto_region 1 with (fail)
  refine wp_named ?_; intro w1 hw1
  have d1 : Below w.heap.size w w1 := by rw [hw1]; exact gr0
  have B1 := Lib.hid d1
  have X1 := Lib.hid (show Bk6 w1 w.heap.size (.int .i64 k) (.string z) (.int .i64 t) (.int .i64 n) (.int .i64 u) (.int .i64 p) from by rw [hw1]; exact ⟨by simp <;> omega, by intro j; simp [go_sem], by simp [go_sem], by simp [go_sem], by simp [go_sem], by simp [go_sem], by simp [go_sem], by simp [go_sem]⟩)
  clear d1 hw1
  have X := X1.out; have X_h := X.hb; have X_f := X.fz; have X_0 := X.k0; have X_1 := X.k1; have X_2 := X.k2; have X_3 := X.k3; have X_4 := X.k4; have X_5 := X.k5; clear X
  go_wp2_with fail
  refine (LV.out _ (below_step B1.out gr0)).mono ?_; rintro e w2 ⟨rfl, b2⟩
  clear X_h X_f X_0 X_1 X_2 X_3 X_4 X_5
  have d2 : Below w1.heap.size w1 w2 := below_step gr0 b2
  have B2 := Lib.hid (below_step B1.out d2)
  have X2 := Lib.hid (X1.out.keep d2)
  clear b2 d2 X1
  have X := X2.out; have X_h := X.hb; have X_f := X.fz; have X_0 := X.k0; have X_1 := X.k1; have X_2 := X.k2; have X_3 := X.k3; have X_4 := X.k4; have X_5 := X.k5; clear X
  go_wp2_with fail
  refine (TX.out _ (below_step B2.out gr0)).mono ?_; rintro e w3 ⟨rfl, b3⟩
  clear X_h X_f X_0 X_1 X_2 X_3 X_4 X_5
  have d3 : Below w2.heap.size w2 w3 := below_step gr0 b3
  have B3 := Lib.hid (below_step B2.out d3)
  have X3 := Lib.hid (X2.out.keep d3)
  clear b3 d3 X2
  have X := X3.out; have X_h := X.hb; have X_f := X.fz; have X_0 := X.k0; have X_1 := X.k1; have X_2 := X.k2; have X_3 := X.k3; have X_4 := X.k4; have X_5 := X.k5; clear X
  go_wp2_with fail
  refine (RI.out _ (below_step B3.out gr0)).mono ?_; rintro e w4 ⟨rfl, b4⟩
  clear X_h X_f X_0 X_1 X_2 X_3 X_4 X_5
  have d4 : Below w3.heap.size w3 w4 := below_step gr0 b4
  have B4 := Lib.hid (below_step B3.out d4)
  have X4 := Lib.hid (X3.out.keep d4)
  clear b4 d4 X3
  by_cases hy : y = 0
  case neg =>
   have hA := hbad hy
   subst hA
   have gy : (y == 0) = false := by rw [beq_eq_false_iff_ne]; exact hy
   unfold Qy.V Qy.Q0 at RD
   dsimp only at RD
   rw [show (⟨([] : List UInt8).toArray⟩ : ByteArray) = ⟨#[]⟩ from rfl] at RD
   clear hb hrr hbad
   have X := X4.out; have X_h := X.hb; have X_f := X.fz; have X_0 := X.k0; have X_1 := X.k1; have X_2 := X.k2; have X_3 := X.k3; have X_4 := X.k4; have X_5 := X.k5; clear X
   go_wp2_with fail
   refine (RD.out _ (below_step B4.out gr0)).mono ?_; rintro e w5 ⟨rfl, b5⟩
   clear X_h X_f X_0 X_1 X_2 X_3 X_4 X_5
   have d5 : Below w4.heap.size w4 w5 := below_step gr0 b5
   have B5 := Lib.hid (below_step B4.out d5)
   have X5 := Lib.hid (X4.out.keep d5)
   clear b5 d5 X4
   have X := X5.out; have X_h := X.hb; have X_f := X.fz; have X_0 := X.k0; have X_1 := X.k1; have X_2 := X.k2; have X_3 := X.k3; have X_4 := X.k4; have X_5 := X.k5; clear X
   go_wp2_with fail
   all_goals (go_ret; exact ⟨rfl, below_step B5.out gr0⟩)
  subst hy
  have hra := hrr rfl
  have hal := Qy.right_len hra
  have TA := Lib.hid (fun W (B : Below w.heap.size w W) => qText_any A W hb.1 hb.2 (by omega) (var_keep B TT.out) tp pp (var_keep B VV.out))
  have RJ := Lib.hid (fun W (B : Below w.heap.size w W) => qRight_any A W hb.1 hb.2 (by omega) (var_keep B TT.out) tp pp (var_keep B VV.out))
  have la := Qy.line_len A hb.1 hb.2 (by omega)
  obtain ⟨La, hLa⟩ : ∃ La : ByteArray, La = ⟨(Qy.sj (Qy.parts A)).toArray⟩ := ⟨_, rfl⟩
  have eLa : La.data.toList = Qy.sj (Qy.parts A) := by rw [hLa]
  have RA := Lib.hid (fun W (B : Below w.heap.size w W) => qread_line La W (by rw [← show La.data.toList.length = La.size from Array.length_toList, eLa]; omega) tp pp (var_keep B VV.out))
  rw [eLa, (Qy.right_iff A hb.1 hb.2).1 hra] at RA
  unfold Qy.tx at TA
  rw [if_pos hra, ← hLa] at TA
  rw [decide_eq_true hra] at RJ
  clear hb hrr hbad hra hal la hLa eLa
  obtain ⟨a0, al, a2, a3, a4, a5⟩ := A
  unfold Qy.V at RD TA RJ RA
  dsimp only at RD TA RJ RA
  generalize (⟨al.toArray⟩ : ByteArray) = a1 at RD TA RJ RA
  have X := X4.out; have X_h := X.hb; have X_f := X.fz; have X_0 := X.k0; have X_1 := X.k1; have X_2 := X.k2; have X_3 := X.k3; have X_4 := X.k4; have X_5 := X.k5; clear X
  go_wp2_with fail
  refine (RD.out _ (below_step B4.out gr0)).mono ?_; rintro e w5 ⟨rfl, b5⟩
  clear X_h X_f X_0 X_1 X_2 X_3 X_4 X_5
  have d5 : Below w4.heap.size w4 w5 := below_step gr0 b5
  have B5 := Lib.hid (below_step B4.out d5)
  have X5 := Lib.hid (X4.out.keep d5)
  clear b5 d5 X4
  have X := X5.out; have X_h := X.hb; have X_f := X.fz; have X_0 := X.k0; have X_1 := X.k1; have X_2 := X.k2; have X_3 := X.k3; have X_4 := X.k4; have X_5 := X.k5; clear X
  go_wp2_with fail
  refine (TA.out _ (below_step B5.out gr0)).mono ?_; rintro e w6 ⟨rfl, b6⟩
  clear X_h X_f X_0 X_1 X_2 X_3 X_4 X_5
  have d6 : Below w5.heap.size w5 w6 := below_step gr0 b6
  have Y6 := Lib.hid (show Bk6 w6 w5.heap.size (.int .i64 a0) (.string a1) (.int .i64 a2) (.int .i64 a3) (.int .i64 a4) (.int .i64 a5) from by refine Bk6.of b6 (by simp <;> omega) (by intro j; simp [go_sem]) ?_ ?_ ?_ ?_ ?_ ?_ <;> simp [go_sem])
  have B6 := Lib.hid (below_step B5.out d6)
  have X6 := Lib.hid (X5.out.keep d6)
  clear b6 d6 X5
  have X := X6.out; have X_h := X.hb; have X_f := X.fz; have X_0 := X.k0; have X_1 := X.k1; have X_2 := X.k2; have X_3 := X.k3; have X_4 := X.k4; have X_5 := X.k5; clear X
  have Y := Y6.out; have Y_h := Y.hb; have Y_f := Y.fz; have Y_0 := Y.k0; have Y_1 := Y.k1; have Y_2 := Y.k2; have Y_3 := Y.k3; have Y_4 := Y.k4; have Y_5 := Y.k5; clear Y
  go_wp2_with fail
  refine (RA.out _ (below_step B6.out gr0)).mono ?_; rintro e w7 ⟨rfl, b7⟩
  clear X_h X_f X_0 X_1 X_2 X_3 X_4 X_5 Y_h Y_f Y_0 Y_1 Y_2 Y_3 Y_4 Y_5
  have d7 : Below w6.heap.size w6 w7 := below_step gr0 b7
  have B7 := Lib.hid (below_step B6.out d7)
  have X7 := Lib.hid (X6.out.keep d7)
  have Y7 := Lib.hid (Y6.out.keep d7)
  clear b7 d7 X6 Y6
  have X := X7.out; have X_h := X.hb; have X_f := X.fz; have X_0 := X.k0; have X_1 := X.k1; have X_2 := X.k2; have X_3 := X.k3; have X_4 := X.k4; have X_5 := X.k5; clear X
  have Y := Y7.out; have Y_h := Y.hb; have Y_f := Y.fz; have Y_0 := Y.k0; have Y_1 := Y.k1; have Y_2 := Y.k2; have Y_3 := Y.k3; have Y_4 := Y.k4; have Y_5 := Y.k5; clear Y
  go_wp2_with fail
  refine (RJ.out _ (below_step B7.out gr0)).mono ?_; rintro e w8 ⟨rfl, b8⟩
  clear X_h X_f X_0 X_1 X_2 X_3 X_4 X_5 Y_h Y_f Y_0 Y_1 Y_2 Y_3 Y_4 Y_5
  have d8 : Below w7.heap.size w7 w8 := below_step gr0 b8
  have U8 := Lib.hid (show Bk6 w8 w7.heap.size (.int .i64 a0) (.string a1) (.int .i64 a2) (.int .i64 a3) (.int .i64 a4) (.int .i64 a5) from by refine Bk6.of b8 (by simp <;> omega) (by intro j; simp [go_sem]) ?_ ?_ ?_ ?_ ?_ ?_ <;> simp [go_sem])
  have B8 := Lib.hid (below_step B7.out d8)
  have X8 := Lib.hid (X7.out.keep d8)
  have Y8 := Lib.hid (Y7.out.keep d8)
  clear b8 d8 X7 Y7
  cases hD : Cal.hasD (t / 86400)
  case false =>
   obtain ⟨c0, c1, c2, c3, c4, c5, y6, h6, OF⟩ := qy_ofno t w hD htb.out
   have OF := Lib.hid OF
   have g6 : (y6 == 0) = false := by rw [beq_eq_false_iff_ne]; exact h6
   clear hD
   have X := X8.out; have X_h := X.hb; have X_f := X.fz; have X_0 := X.k0; have X_1 := X.k1; have X_2 := X.k2; have X_3 := X.k3; have X_4 := X.k4; have X_5 := X.k5; clear X
   have Y := Y8.out; have Y_h := Y.hb; have Y_f := Y.fz; have Y_0 := Y.k0; have Y_1 := Y.k1; have Y_2 := Y.k2; have Y_3 := Y.k3; have Y_4 := Y.k4; have Y_5 := Y.k5; clear Y
   have U := U8.out; have U_h := U.hb; have U_f := U.fz; have U_0 := U.k0; have U_1 := U.k1; have U_2 := U.k2; have U_3 := U.k3; have U_4 := U.k4; have U_5 := U.k5; clear U
   go_wp2_with fail
   refine (OF.out _).mono ?_; rintro e w9 ⟨rfl, b9⟩
   clear X_h X_f X_0 X_1 X_2 X_3 X_4 X_5 Y_h Y_f Y_0 Y_1 Y_2 Y_3 Y_4 Y_5 U_h U_f U_0 U_1 U_2 U_3 U_4 U_5
   have d9 : Below w8.heap.size w8 w9 := below_step gr0 b9
   have B9 := Lib.hid (below_step B8.out d9)
   have X9 := Lib.hid (X8.out.keep d9)
   have Y9 := Lib.hid (Y8.out.keep d9)
   have U9 := Lib.hid (U8.out.keep d9)
   clear b9 d9 X8 Y8 U8
   have X := X9.out; have X_h := X.hb; have X_f := X.fz; have X_0 := X.k0; have X_1 := X.k1; have X_2 := X.k2; have X_3 := X.k3; have X_4 := X.k4; have X_5 := X.k5; clear X
   have Y := Y9.out; have Y_h := Y.hb; have Y_f := Y.fz; have Y_0 := Y.k0; have Y_1 := Y.k1; have Y_2 := Y.k2; have Y_3 := Y.k3; have Y_4 := Y.k4; have Y_5 := Y.k5; clear Y
   have U := U9.out; have U_h := U.hb; have U_f := U.fz; have U_0 := U.k0; have U_1 := U.k1; have U_2 := U.k2; have U_3 := U.k3; have U_4 := U.k4; have U_5 := U.k5; clear U
   go_wp2_with fail
   all_goals (go_ret; exact ⟨rfl, below_step B9.out gr0⟩)
  case true =>
   have OF := Lib.hid (fun W => sof_yes t W htb.out.1 htb.out.2 hD)
   clear hD
   generalize Cal.dY (t / 86400) = c0 at OF
   generalize Cal.dM (t / 86400) = c1 at OF
   generalize Cal.dD (t / 86400) = c2 at OF
   generalize t % 86400 / 3600 = c3 at OF
   generalize t % 86400 / 60 % 60 = c4 at OF
   generalize t % 86400 % 60 = c5 at OF
   have X := X8.out; have X_h := X.hb; have X_f := X.fz; have X_0 := X.k0; have X_1 := X.k1; have X_2 := X.k2; have X_3 := X.k3; have X_4 := X.k4; have X_5 := X.k5; clear X
   have Y := Y8.out; have Y_h := Y.hb; have Y_f := Y.fz; have Y_0 := Y.k0; have Y_1 := Y.k1; have Y_2 := Y.k2; have Y_3 := Y.k3; have Y_4 := Y.k4; have Y_5 := Y.k5; clear Y
   have U := U8.out; have U_h := U.hb; have U_f := U.fz; have U_0 := U.k0; have U_1 := U.k1; have U_2 := U.k2; have U_3 := U.k3; have U_4 := U.k4; have U_5 := U.k5; clear U
   go_wp2_with fail
   refine (OF.out _).mono ?_; rintro e w9 ⟨rfl, b9⟩
   clear X_h X_f X_0 X_1 X_2 X_3 X_4 X_5 Y_h Y_f Y_0 Y_1 Y_2 Y_3 Y_4 Y_5 U_h U_f U_0 U_1 U_2 U_3 U_4 U_5
   have d9 : Below w8.heap.size w8 w9 := below_step gr0 b9
   have B9 := Lib.hid (below_step B8.out d9)
   have X9 := Lib.hid (X8.out.keep d9)
   have Y9 := Lib.hid (Y8.out.keep d9)
   have U9 := Lib.hid (U8.out.keep d9)
   clear b9 d9 X8 Y8 U8
   have X := X9.out; have X_h := X.hb; have X_f := X.fz; have X_0 := X.k0; have X_1 := X.k1; have X_2 := X.k2; have X_3 := X.k3; have X_4 := X.k4; have X_5 := X.k5; clear X
   have Y := Y9.out; have Y_h := Y.hb; have Y_f := Y.fz; have Y_0 := Y.k0; have Y_1 := Y.k1; have Y_2 := Y.k2; have Y_3 := Y.k3; have Y_4 := Y.k4; have Y_5 := Y.k5; clear Y
   have U := U9.out; have U_h := U.hb; have U_f := U.fz; have U_0 := U.k0; have U_1 := U.k1; have U_2 := U.k2; have U_3 := U.k3; have U_4 := U.k4; have U_5 := U.k5; clear U
   by_cases k1 : k = 1
   ·
    subst k1
    go_wp2_with fail
    all_goals (go_ret; exact ⟨rfl, below_step B9.out gr0⟩)
   ·
    have gk : (k == 1) = false := by rw [beq_eq_false_iff_ne]; exact k1
    go_wp2_with fail
    all_goals (go_ret; exact ⟨rfl, below_step B9.out gr0⟩)
 rw [if_pos hr, ← hLq] at TX
 rw [decide_eq_true hr] at RI
 rw [(Qy.right_iff (k, z.data.toList, t, n, u, p) ht hn).1 hr] at RQ
 unfold Qy.V at TX RI RQ
 dsimp only at TX RI RQ
 rw [fd_id z] at TX RI RQ
 have htb := Lib.hid ht
 have hrq := Lib.hid hr
 have hzs := Lib.hid (show z.size ≤ 500 by omega)
 clear ht hn h1 h2 hzl hs hz ll hLq eLq hr
 go_enter Tryz.func4, Tryz.ntmps4
 go_upto_region 1 with (fail)
 refine wp_named ?_; intro w1 hw1
 have d1 : Below w.heap.size w w1 := by rw [hw1]; exact gr0
 have B1 := Lib.hid d1
 have X1 := Lib.hid (show Bk6 w1 w.heap.size (.int .i64 k) (.string z) (.int .i64 t) (.int .i64 n) (.int .i64 u) (.int .i64 p) from by rw [hw1]; exact ⟨by simp <;> omega, by intro j; simp [go_sem], by simp [go_sem], by simp [go_sem], by simp [go_sem], by simp [go_sem], by simp [go_sem], by simp [go_sem]⟩)
 clear d1 hw1
 have X := X1.out; have X_h := X.hb; have X_f := X.fz; have X_0 := X.k0; have X_1 := X.k1; have X_2 := X.k2; have X_3 := X.k3; have X_4 := X.k4; have X_5 := X.k5; clear X
 go_wp2_with fail
 refine (LV.out _ (below_step B1.out gr0)).mono ?_; rintro e w2 ⟨rfl, b2⟩
 clear X_h X_f X_0 X_1 X_2 X_3 X_4 X_5
 have d2 : Below w1.heap.size w1 w2 := below_step gr0 b2
 have B2 := Lib.hid (below_step B1.out d2)
 have X2 := Lib.hid (X1.out.keep d2)
 clear b2 d2 X1
 have X := X2.out; have X_h := X.hb; have X_f := X.fz; have X_0 := X.k0; have X_1 := X.k1; have X_2 := X.k2; have X_3 := X.k3; have X_4 := X.k4; have X_5 := X.k5; clear X
 go_wp2_with fail
 refine (TX.out _ (below_step B2.out gr0)).mono ?_; rintro e w3 ⟨rfl, b3⟩
 clear X_h X_f X_0 X_1 X_2 X_3 X_4 X_5
 have d3 : Below w2.heap.size w2 w3 := below_step gr0 b3
 have B3 := Lib.hid (below_step B2.out d3)
 have X3 := Lib.hid (X2.out.keep d3)
 clear b3 d3 X2
 have X := X3.out; have X_h := X.hb; have X_f := X.fz; have X_0 := X.k0; have X_1 := X.k1; have X_2 := X.k2; have X_3 := X.k3; have X_4 := X.k4; have X_5 := X.k5; clear X
 go_wp2_with fail
 refine (RI.out _ (below_step B3.out gr0)).mono ?_; rintro e w4 ⟨rfl, b4⟩
 clear X_h X_f X_0 X_1 X_2 X_3 X_4 X_5
 have d4 : Below w3.heap.size w3 w4 := below_step gr0 b4
 have B4 := Lib.hid (below_step B3.out d4)
 have X4 := Lib.hid (X3.out.keep d4)
 clear b4 d4 X3
 have X := X4.out; have X_h := X.hb; have X_f := X.fz; have X_0 := X.k0; have X_1 := X.k1; have X_2 := X.k2; have X_3 := X.k3; have X_4 := X.k4; have X_5 := X.k5; clear X
 go_wp2_with fail
 refine (RQ.out _ (below_step B4.out gr0)).mono ?_; rintro e w5 ⟨rfl, b5⟩
 clear X_h X_f X_0 X_1 X_2 X_3 X_4 X_5
 have d5 : Below w4.heap.size w4 w5 := below_step gr0 b5
 have B5 := Lib.hid (below_step B4.out d5)
 have X5 := Lib.hid (X4.out.keep d5)
 clear b5 d5 X4
 by_cases hy : y = 0
 case neg =>
  have hA := hbad hy
  subst hA
  have gy : (y == 0) = false := by rw [beq_eq_false_iff_ne]; exact hy
  unfold Qy.V Qy.Q0 at RD
  dsimp only at RD
  rw [show (⟨([] : List UInt8).toArray⟩ : ByteArray) = ⟨#[]⟩ from rfl] at RD
  clear hb hrr hbad
  have X := X5.out; have X_h := X.hb; have X_f := X.fz; have X_0 := X.k0; have X_1 := X.k1; have X_2 := X.k2; have X_3 := X.k3; have X_4 := X.k4; have X_5 := X.k5; clear X
  go_wp2_with fail
  refine (RD.out _ (below_step B5.out gr0)).mono ?_; rintro e w6 ⟨rfl, b6⟩
  clear X_h X_f X_0 X_1 X_2 X_3 X_4 X_5
  have d6 : Below w5.heap.size w5 w6 := below_step gr0 b6
  have B6 := Lib.hid (below_step B5.out d6)
  have X6 := Lib.hid (X5.out.keep d6)
  clear b6 d6 X5
  have X := X6.out; have X_h := X.hb; have X_f := X.fz; have X_0 := X.k0; have X_1 := X.k1; have X_2 := X.k2; have X_3 := X.k3; have X_4 := X.k4; have X_5 := X.k5; clear X
  go_wp2_with fail
  all_goals (go_ret; exact ⟨rfl, below_step B6.out gr0⟩)
 subst hy
 have hra := hrr rfl
 have hal := Qy.right_len hra
 have TA := Lib.hid (fun W (B : Below w.heap.size w W) => qText_any A W hb.1 hb.2 (by omega) (var_keep B TT.out) tp pp (var_keep B VV.out))
 have RJ := Lib.hid (fun W (B : Below w.heap.size w W) => qRight_any A W hb.1 hb.2 (by omega) (var_keep B TT.out) tp pp (var_keep B VV.out))
 have la := Qy.line_len A hb.1 hb.2 (by omega)
 obtain ⟨La, hLa⟩ : ∃ La : ByteArray, La = ⟨(Qy.sj (Qy.parts A)).toArray⟩ := ⟨_, rfl⟩
 have eLa : La.data.toList = Qy.sj (Qy.parts A) := by rw [hLa]
 have RA := Lib.hid (fun W (B : Below w.heap.size w W) => qread_line La W (by rw [← show La.data.toList.length = La.size from Array.length_toList, eLa]; omega) tp pp (var_keep B VV.out))
 rw [eLa, (Qy.right_iff A hb.1 hb.2).1 hra] at RA
 unfold Qy.tx at TA
 rw [if_pos hra, ← hLa] at TA
 rw [decide_eq_true hra] at RJ
 clear hb hrr hbad hra hal la hLa eLa
 obtain ⟨a0, al, a2, a3, a4, a5⟩ := A
 unfold Qy.V at RD TA RJ RA
 dsimp only at RD TA RJ RA
 generalize (⟨al.toArray⟩ : ByteArray) = a1 at RD TA RJ RA
 have X := X5.out; have X_h := X.hb; have X_f := X.fz; have X_0 := X.k0; have X_1 := X.k1; have X_2 := X.k2; have X_3 := X.k3; have X_4 := X.k4; have X_5 := X.k5; clear X
 go_wp2_with fail
 refine (RD.out _ (below_step B5.out gr0)).mono ?_; rintro e w6 ⟨rfl, b6⟩
 clear X_h X_f X_0 X_1 X_2 X_3 X_4 X_5
 have d6 : Below w5.heap.size w5 w6 := below_step gr0 b6
 have B6 := Lib.hid (below_step B5.out d6)
 have X6 := Lib.hid (X5.out.keep d6)
 clear b6 d6 X5
 have X := X6.out; have X_h := X.hb; have X_f := X.fz; have X_0 := X.k0; have X_1 := X.k1; have X_2 := X.k2; have X_3 := X.k3; have X_4 := X.k4; have X_5 := X.k5; clear X
 go_wp2_with fail
 refine (TA.out _ (below_step B6.out gr0)).mono ?_; rintro e w7 ⟨rfl, b7⟩
 clear X_h X_f X_0 X_1 X_2 X_3 X_4 X_5
 have d7 : Below w6.heap.size w6 w7 := below_step gr0 b7
 have Y7 := Lib.hid (show Bk6 w7 w6.heap.size (.int .i64 a0) (.string a1) (.int .i64 a2) (.int .i64 a3) (.int .i64 a4) (.int .i64 a5) from by refine Bk6.of b7 (by simp <;> omega) (by intro j; simp [go_sem]) ?_ ?_ ?_ ?_ ?_ ?_ <;> simp [go_sem])
 have B7 := Lib.hid (below_step B6.out d7)
 have X7 := Lib.hid (X6.out.keep d7)
 clear b7 d7 X6
 have X := X7.out; have X_h := X.hb; have X_f := X.fz; have X_0 := X.k0; have X_1 := X.k1; have X_2 := X.k2; have X_3 := X.k3; have X_4 := X.k4; have X_5 := X.k5; clear X
 have Y := Y7.out; have Y_h := Y.hb; have Y_f := Y.fz; have Y_0 := Y.k0; have Y_1 := Y.k1; have Y_2 := Y.k2; have Y_3 := Y.k3; have Y_4 := Y.k4; have Y_5 := Y.k5; clear Y
 go_wp2_with fail
 refine (RA.out _ (below_step B7.out gr0)).mono ?_; rintro e w8 ⟨rfl, b8⟩
 clear X_h X_f X_0 X_1 X_2 X_3 X_4 X_5 Y_h Y_f Y_0 Y_1 Y_2 Y_3 Y_4 Y_5
 have d8 : Below w7.heap.size w7 w8 := below_step gr0 b8
 have B8 := Lib.hid (below_step B7.out d8)
 have X8 := Lib.hid (X7.out.keep d8)
 have Y8 := Lib.hid (Y7.out.keep d8)
 clear b8 d8 X7 Y7
 have X := X8.out; have X_h := X.hb; have X_f := X.fz; have X_0 := X.k0; have X_1 := X.k1; have X_2 := X.k2; have X_3 := X.k3; have X_4 := X.k4; have X_5 := X.k5; clear X
 have Y := Y8.out; have Y_h := Y.hb; have Y_f := Y.fz; have Y_0 := Y.k0; have Y_1 := Y.k1; have Y_2 := Y.k2; have Y_3 := Y.k3; have Y_4 := Y.k4; have Y_5 := Y.k5; clear Y
 go_wp2_with fail
 refine (RJ.out _ (below_step B8.out gr0)).mono ?_; rintro e w9 ⟨rfl, b9⟩
 clear X_h X_f X_0 X_1 X_2 X_3 X_4 X_5 Y_h Y_f Y_0 Y_1 Y_2 Y_3 Y_4 Y_5
 have d9 : Below w8.heap.size w8 w9 := below_step gr0 b9
 have U9 := Lib.hid (show Bk6 w9 w8.heap.size (.int .i64 a0) (.string a1) (.int .i64 a2) (.int .i64 a3) (.int .i64 a4) (.int .i64 a5) from by refine Bk6.of b9 (by simp <;> omega) (by intro j; simp [go_sem]) ?_ ?_ ?_ ?_ ?_ ?_ <;> simp [go_sem])
 have B9 := Lib.hid (below_step B8.out d9)
 have X9 := Lib.hid (X8.out.keep d9)
 have Y9 := Lib.hid (Y8.out.keep d9)
 clear b9 d9 X8 Y8
 cases hD : Cal.hasD (t / 86400)
 case false =>
  obtain ⟨c0, c1, c2, c3, c4, c5, y6, h6, OF⟩ := qy_ofno t w hD htb.out
  have OF := Lib.hid OF
  have g6 : (y6 == 0) = false := by rw [beq_eq_false_iff_ne]; exact h6
  clear hD
  have X := X9.out; have X_h := X.hb; have X_f := X.fz; have X_0 := X.k0; have X_1 := X.k1; have X_2 := X.k2; have X_3 := X.k3; have X_4 := X.k4; have X_5 := X.k5; clear X
  have Y := Y9.out; have Y_h := Y.hb; have Y_f := Y.fz; have Y_0 := Y.k0; have Y_1 := Y.k1; have Y_2 := Y.k2; have Y_3 := Y.k3; have Y_4 := Y.k4; have Y_5 := Y.k5; clear Y
  have U := U9.out; have U_h := U.hb; have U_f := U.fz; have U_0 := U.k0; have U_1 := U.k1; have U_2 := U.k2; have U_3 := U.k3; have U_4 := U.k4; have U_5 := U.k5; clear U
  go_wp2_with fail
  refine (OF.out _).mono ?_; rintro e w10 ⟨rfl, b10⟩
  clear X_h X_f X_0 X_1 X_2 X_3 X_4 X_5 Y_h Y_f Y_0 Y_1 Y_2 Y_3 Y_4 Y_5 U_h U_f U_0 U_1 U_2 U_3 U_4 U_5
  have d10 : Below w9.heap.size w9 w10 := below_step gr0 b10
  have B10 := Lib.hid (below_step B9.out d10)
  have X10 := Lib.hid (X9.out.keep d10)
  have Y10 := Lib.hid (Y9.out.keep d10)
  have U10 := Lib.hid (U9.out.keep d10)
  clear b10 d10 X9 Y9 U9
  have X := X10.out; have X_h := X.hb; have X_f := X.fz; have X_0 := X.k0; have X_1 := X.k1; have X_2 := X.k2; have X_3 := X.k3; have X_4 := X.k4; have X_5 := X.k5; clear X
  have Y := Y10.out; have Y_h := Y.hb; have Y_f := Y.fz; have Y_0 := Y.k0; have Y_1 := Y.k1; have Y_2 := Y.k2; have Y_3 := Y.k3; have Y_4 := Y.k4; have Y_5 := Y.k5; clear Y
  have U := U10.out; have U_h := U.hb; have U_f := U.fz; have U_0 := U.k0; have U_1 := U.k1; have U_2 := U.k2; have U_3 := U.k3; have U_4 := U.k4; have U_5 := U.k5; clear U
  go_wp2_with fail
  all_goals (go_ret; exact ⟨rfl, below_step B10.out gr0⟩)
 case true =>
  have OF := Lib.hid (fun W => sof_yes t W htb.out.1 htb.out.2 hD)
  obtain ⟨hrB, hsec⟩ := qy_of t htb.out hD
  have zs := Qy.sc_tx hrB
  have ST := Lib.hid (fun W (B : Below w.heap.size w W) => stext_any (Cal.dY (t / 86400)) (Cal.dM (t / 86400)) (Cal.dD (t / 86400)) (t % 86400 / 3600) (t % 86400 / 60 % 60) (t % 86400 % 60) W (var_keep B TT.out))
  have RS : k = 1 → Hid (∀ TXT : ByteArray, TXT.data.toList = Tx.txt (Cal.dY (t / 86400)) (Cal.dM (t / 86400)) (Cal.dD (t / 86400)) (t % 86400 / 3600) (t % 86400 / 60 % 60) (t % 86400 % 60) → TXT.size ≤ 64 ∧ ∀ W, Below w.heap.size w W → Calls Tryz.prog 6 #[.string (⟨#[115, 121, 115, 32]⟩ ++ z ++ ⟨#[32]⟩ ++ TXT)] W fun e w' => e = .returned (.tuple #[.agg #[.int .i64 k, .string z, .int .i64 t, .int .i64 n, .int .i64 u, .int .i64 p], .int .i64 0]) ∧ Below W.heap.size W w') := fun k1 => Lib.hid (fun TXT eT => by
   subst k1
   have hnm : Lk.nm z.data.toList = 0 := Qy.right_nm (by decide) (by decide) hrq.out
   obtain ⟨-, -, p3, p4⟩ := Qy.right_plain hrq.out
   have n0 := (Qy.right_plain hrq.out).2.1 (by decide); have u0 := (Qy.right_plain hrq.out).2.2.1 (by decide); have p0 := (Qy.right_plain hrq.out).2.2.2 (by decide)
   have zT : TXT.size ≤ 64 := by rw [← show TXT.data.toList.length = TXT.size from Array.length_toList, eT]; exact zs.2.2.1
   refine ⟨zT, fun W B => ?_⟩
   have hsz : ((⟨#[115, 121, 115, 32]⟩ ++ z ++ ⟨#[32]⟩ ++ TXT : ByteArray)).size ≤ 1000000 := by
    simp only [ByteArray.size_append]
    have h4 : (⟨#[115, 121, 115, 32]⟩ : ByteArray).size = 4 := rfl
    have h5 : (⟨#[32]⟩ : ByteArray).size = 1 := rfl
    have := hzs.out
    omega
   have := qread_line _ W hsz tp pp (var_keep B VV.out)
   rw [show (⟨#[115, 121, 115, 32]⟩ ++ z ++ ⟨#[32]⟩ ++ TXT : ByteArray).data.toList = [115, 121, 115, 32] ++ z.data.toList ++ [32] ++ Tx.txt (Cal.dY (t / 86400)) (Cal.dM (t / 86400)) (Cal.dD (t / 86400)) (t % 86400 / 3600) (t % 86400 / 60 % 60) (t % 86400 % 60) by rw [← eT]; simp [ByteArray.data_append], Qy.rd_stamp hrB hsec hnm] at this
   unfold Qy.V at this
   dsimp only at this
   rw [fd_id] at this
   rw [n0, u0, p0]
   exact this)
  have etx : St.tx (Cal.dY (t / 86400)) (Cal.dM (t / 86400)) (Cal.dD (t / 86400)) (t % 86400 / 3600) (t % 86400 / 60 % 60) (t % 86400 % 60) = Tx.txt (Cal.dY (t / 86400)) (Cal.dM (t / 86400)) (Cal.dD (t / 86400)) (t % 86400 / 3600) (t % 86400 / 60 % 60) (t % 86400 % 60) := by unfold St.tx; rw [hrB]; rfl
  rw [etx] at ST
  clear hrB hsec zs etx hD
  generalize Tx.txt (Cal.dY (t / 86400)) (Cal.dM (t / 86400)) (Cal.dD (t / 86400)) (t % 86400 / 3600) (t % 86400 / 60 % 60) (t % 86400 % 60) = tl at ST RS
  generalize Cal.dY (t / 86400) = c0 at OF ST
  generalize Cal.dM (t / 86400) = c1 at OF ST
  generalize Cal.dD (t / 86400) = c2 at OF ST
  generalize t % 86400 / 3600 = c3 at OF ST
  generalize t % 86400 / 60 % 60 = c4 at OF ST
  generalize t % 86400 % 60 = c5 at OF ST
  have X := X9.out; have X_h := X.hb; have X_f := X.fz; have X_0 := X.k0; have X_1 := X.k1; have X_2 := X.k2; have X_3 := X.k3; have X_4 := X.k4; have X_5 := X.k5; clear X
  have Y := Y9.out; have Y_h := Y.hb; have Y_f := Y.fz; have Y_0 := Y.k0; have Y_1 := Y.k1; have Y_2 := Y.k2; have Y_3 := Y.k3; have Y_4 := Y.k4; have Y_5 := Y.k5; clear Y
  have U := U9.out; have U_h := U.hb; have U_f := U.fz; have U_0 := U.k0; have U_1 := U.k1; have U_2 := U.k2; have U_3 := U.k3; have U_4 := U.k4; have U_5 := U.k5; clear U
  go_wp2_with fail
  refine (OF.out _).mono ?_; rintro e w10 ⟨rfl, b10⟩
  clear X_h X_f X_0 X_1 X_2 X_3 X_4 X_5 Y_h Y_f Y_0 Y_1 Y_2 Y_3 Y_4 Y_5 U_h U_f U_0 U_1 U_2 U_3 U_4 U_5
  have d10 : Below w9.heap.size w9 w10 := below_step gr0 b10
  have B10 := Lib.hid (below_step B9.out d10)
  have X10 := Lib.hid (X9.out.keep d10)
  have Y10 := Lib.hid (Y9.out.keep d10)
  have U10 := Lib.hid (U9.out.keep d10)
  clear b10 d10 X9 Y9 U9
  have X := X10.out; have X_h := X.hb; have X_f := X.fz; have X_0 := X.k0; have X_1 := X.k1; have X_2 := X.k2; have X_3 := X.k3; have X_4 := X.k4; have X_5 := X.k5; clear X
  have Y := Y10.out; have Y_h := Y.hb; have Y_f := Y.fz; have Y_0 := Y.k0; have Y_1 := Y.k1; have Y_2 := Y.k2; have Y_3 := Y.k3; have Y_4 := Y.k4; have Y_5 := Y.k5; clear Y
  have U := U10.out; have U_h := U.hb; have U_f := U.fz; have U_0 := U.k0; have U_1 := U.k1; have U_2 := U.k2; have U_3 := U.k3; have U_4 := U.k4; have U_5 := U.k5; clear U
  by_cases k1 : k = 1
  case neg =>
   have gk : (k == 1) = false := by rw [beq_eq_false_iff_ne]; exact k1
   clear RS
   go_wp2_with fail
   all_goals (go_ret; exact ⟨rfl, below_step B10.out gr0⟩)
  have gk : (k == 1) = true := by rw [beq_iff_eq]; exact k1
  obtain ⟨TXT, eT⟩ : ∃ TXT : ByteArray, TXT = ⟨tl.toArray⟩ := ⟨_, rfl⟩
  obtain ⟨zT, RS⟩ := (RS k1).out TXT (by rw [eT])
  rw [← eT] at ST
  have RS := Lib.hid RS
  have hzz := hzs.out
  have hs1 : ¬ 9223372036854775807 < 4 + z.size := by omega
  have hs2 : ¬ 9223372036854775807 < 4 + z.size + 1 := by omega
  have hs3 : ¬ 9223372036854775807 < 4 + z.size + 1 + TXT.size := by omega
  clear eT hzz k1
  go_upto_region 22 with (fail)
  try clear gk
  try (rename k = 1 => k9; clear k9)
  clear X_h X_f X_0 X_1 X_2 X_3 X_4 X_5 Y_h Y_f Y_0 Y_1 Y_2 Y_3 Y_4 Y_5 U_h U_f U_0 U_1 U_2 U_3 U_4 U_5
  refine wp_named ?_; intro w11 hw11
  have d11 : Below w10.heap.size w10 w11 := by rw [hw11]; exact gr0
  have S11 := Lib.hid (show Bk6 w11 w10.heap.size (.int .i64 c0) (.int .i64 c1) (.int .i64 c2) (.int .i64 c3) (.int .i64 c4) (.int .i64 c5) from by rw [hw11]; exact ⟨by simp <;> omega, by intro j; simp [go_sem], by simp [go_sem], by simp [go_sem], by simp [go_sem], by simp [go_sem], by simp [go_sem], by simp [go_sem]⟩)
  have B11 := Lib.hid (below_step B10.out d11)
  have X11 := Lib.hid (X10.out.keep d11)
  clear hw11 d11 X10 Y10 U10
  refine wp_region_tie (x := 11) (y := 12) (dx := 17) (R := markR [(fun v _ => v = Value.pointer (some ⟨w.heap.size, 1, none⟩)), (fun v _ => v = Value.string z), (fun v _ => v = Value.string (⟨#[115, 121, 115, 32]⟩ ++ z)), (fun v _ => v = Value.string (⟨#[115, 121, 115, 32]⟩ ++ z ++ ⟨#[32]⟩)), (fun v _ => v = Value.agg #[.int .i64 c0, .int .i64 c1, .int .i64 c2, .int .i64 c3, .int .i64 c4, .int .i64 c5]), (fun v _ => v = Value.string TXT), (fun v _ => v = Value.string (⟨#[115, 121, 115, 32]⟩ ++ z ++ ⟨#[32]⟩ ++ TXT)), (fun v _ => v = Value.tuple #[.agg #[.int .i64 k, .string z, .int .i64 t, .int .i64 n, .int .i64 u, .int .i64 p], .int .i64 0]), (fun v _ => v = Value.tuple #[.agg #[.int .i64 k, .string z, .int .i64 t, .int .i64 n, .int .i64 u, .int .i64 p], .int .i64 0]), (fun v _ => v = Value.agg #[.int .i64 k, .string z, .int .i64 t, .int .i64 n, .int .i64 u, .int .i64 p]), (fun v _ => v = Value.int .i64 0), (fun v W => ∃ b, v = Value.pointer (some ⟨b, 0, none⟩) ∧ w11.heap.size ≤ b ∧ Bk6 W b (.int .i64 0) (.string ⟨#[]⟩) (.int .i64 0) (.int .i64 0) (.int .i64 0) (.int .i64 0)), (fun _ _ => True), (fun v _ => v = Value.int .i64 0)]) (S := (fun v W => ∃ b, v = Value.pointer (some ⟨b, 0, none⟩) ∧ w11.heap.size ≤ b ∧ Bk6 W b (.int .i64 k) (.string z) (.int .i64 t) (.int .i64 n) (.int .i64 u) (.int .i64 p))) (till := fun i => match i with | 11 => some 12 | _ => none) (D := fun W => Below w11.heap.size w11 W) (G := fun i W W' => cond (i == 12) (Below w11.heap.size W W') (Below W.heap.size W W')) (by rfl) ?hbeg ⟨by kernel_rfl, by kernel_rfl, by kernel_rfl, by kernel_rfl, by kernel_rfl, by decide, ?hkeep, ?hstab, ?hsst, ObsX.all ?hobs, ?hoby, ?hlast⟩
  case hbeg => exact (Below.refl _ _).drew
  case hkeep =>
   intro i w1 w2 hC hG
   cases hi : (i == 12)
   ·
    simp only [hi, cond_false] at hG; exact below_step hC hG
   ·
    simp only [hi, cond_true] at hG; exact hC.trans hG
  case hstab =>
   intro i j hij ht v w1 w2 hG hm
   by_cases hi12 : i = 12
   ·
    subst hi12
    match j, hij, ht, hm with
    | 0, _, _, hm => exact hm
    | 1, _, _, hm => exact hm
    | 2, _, _, hm => exact hm
    | 3, _, _, hm => exact hm
    | 4, _, _, hm => exact hm
    | 5, _, _, hm => exact hm
    | 6, _, _, hm => exact hm
    | 7, _, _, hm => exact hm
    | 8, _, _, hm => exact hm
    | 9, _, _, hm => exact hm
    | 10, _, _, hm => exact hm
    | 11, _, ht, _ => exact absurd rfl ht
    | 12, hij, _, _ => exact absurd rfl hij
    | 13, _, _, hm => exact hm
    | j + 14, _, _, hm => exact trivial
   replace hG : Below w1.heap.size w1 w2 := by simpa [hi12] using hG
   match j, hm with
   | 0, hm => exact hm
   | 1, hm => exact hm
   | 2, hm => exact hm
   | 3, hm => exact hm
   | 4, hm => exact hm
   | 5, hm => exact hm
   | 6, hm => exact hm
   | 7, hm => exact hm
   | 8, hm => exact hm
   | 9, hm => exact hm
   | 10, hm => exact hm
   | 11, hm => exact (by obtain ⟨b, e, hb0, hB⟩ := hm; exact ⟨b, e, hb0, hB.keep hG⟩)
   | 12, hm => exact trivial
   | 13, hm => exact hm
   | j + 14, hm => exact trivial
  case hsst =>
   intro i hi v w1 w2 hG hS
   replace hG : Below w1.heap.size w1 w2 := by simpa [hi] using hG
   obtain ⟨b, e, h0, hB⟩ := hS
   exact ⟨b, e, h0, hB.keep hG⟩
  case hobs =>
   refine ObsX.cons (k' := 1) rfl ?_ ?_
   ·
    intro fa W hW hSame hRR KK hKK
    try dsimp only at hW
    have fb3 : fa.tmps[3]? = some (Value.pointer (some ⟨w.heap.size, 0, none⟩)) := (hSame.base 3 (by kernel_rfl)).trans (by kernel_rfl)
    replace hKK : ∀ v w', Below W.heap.size W w' → v = Value.pointer (some ⟨w.heap.size, 1, none⟩) → KK (Act.put fa _ v) w' := fun v w' h1 h2 => hKK v w' h1 h2
    have hX := X11.out.keep hW
    have tx := hX; obtain ⟨chb, cfz, ck0, ck1, ck2, ck3, ck4, ck5⟩ := tx
    clear hSame hRR
    rw [if_pos (wanted_plain rfl)]
    go_simp
    refine hKK _ _ ?_ ?_
    ·
     exact grP
    ·
     exact rfl
   refine ObsX.cons (k' := 2) rfl ?_ ?_
   ·
    intro fa W hW hSame hRR KK hKK
    try dsimp only at hW
    obtain ⟨fv0, ft0, (rfl : fv0 = Value.pointer (some ⟨w.heap.size, 1, none⟩))⟩ := hRR 0 _ 108 rfl rfl (by kernel_rfl) (by kernel_rfl)
    replace hKK : ∀ v w', Below W.heap.size W w' → v = Value.string z → KK (Act.put fa _ v) w' := fun v w' h1 h2 => hKK v w' h1 h2
    have hX := X11.out.keep hW
    have tx := hX; obtain ⟨chb, cfz, ck0, ck1, ck2, ck3, ck4, ck5⟩ := tx
    clear hSame hRR
    rw [if_pos (wanted_plain rfl)]
    go_simp
    refine hKK _ _ ?_ ?_
    ·
     exact grP
    ·
     exact rfl
   refine ObsX.cons (k' := 3) rfl ?_ ?_
   ·
    intro fa W hW hSame hRR KK hKK
    try dsimp only at hW
    obtain ⟨fv1, ft1, (rfl : fv1 = Value.string z)⟩ := hRR 1 _ 109 rfl rfl (by kernel_rfl) (by kernel_rfl)
    replace hKK : ∀ v w', Below W.heap.size W w' → v = Value.string (⟨#[115, 121, 115, 32]⟩ ++ z) → KK (Act.put fa _ v) w' := fun v w' h1 h2 => hKK v w' h1 h2
    clear hSame hRR
    rw [if_pos (wanted_plain rfl)]
    go_simp
    refine hKK _ _ ?_ ?_
    ·
     exact grP
    ·
     exact rfl
   refine ObsX.cons (k' := 4) rfl ?_ ?_
   ·
    intro fa W hW hSame hRR KK hKK
    try dsimp only at hW
    obtain ⟨fv2, ft2, (rfl : fv2 = Value.string (⟨#[115, 121, 115, 32]⟩ ++ z))⟩ := hRR 2 _ 110 rfl rfl (by kernel_rfl) (by kernel_rfl)
    replace hKK : ∀ v w', Below W.heap.size W w' → v = Value.string (⟨#[115, 121, 115, 32]⟩ ++ z ++ ⟨#[32]⟩) → KK (Act.put fa _ v) w' := fun v w' h1 h2 => hKK v w' h1 h2
    clear hSame hRR
    rw [if_pos (wanted_plain rfl)]
    go_simp
    refine hKK _ _ ?_ ?_
    ·
     exact grP
    ·
     exact rfl
   refine ObsX.cons (k' := 5) rfl ?_ ?_
   ·
    intro fa W hW hSame hRR KK hKK
    try dsimp only at hW
    have fb15 : fa.tmps[15]? = some (Value.pointer (some ⟨w10.heap.size, 0, none⟩)) := (hSame.base 15 (by kernel_rfl)).trans (by kernel_rfl)
    replace hKK : ∀ v w', Below W.heap.size W w' → v = Value.agg #[.int .i64 c0, .int .i64 c1, .int .i64 c2, .int .i64 c3, .int .i64 c4, .int .i64 c5] → KK (Act.put fa _ v) w' := fun v w' h1 h2 => hKK v w' h1 h2
    have hX := S11.out.keep hW
    have tx := hX; obtain ⟨chb, cfz, ck0, ck1, ck2, ck3, ck4, ck5⟩ := tx
    clear hSame hRR
    rw [if_pos (wanted_plain rfl)]
    go_simp
    refine hKK _ _ ?_ ?_
    ·
     exact grP
    ·
     exact rfl
   refine ObsX.cons (k' := 6) rfl ?_ ?_
   ·
    intro fa W hW hSame hRR KK hKK
    try dsimp only at hW
    obtain ⟨fv4, ft4, (rfl : fv4 = Value.agg #[.int .i64 c0, .int .i64 c1, .int .i64 c2, .int .i64 c3, .int .i64 c4, .int .i64 c5])⟩ := hRR 4 _ 112 rfl rfl (by kernel_rfl) (by kernel_rfl)
    replace hKK : ∀ v w', Below W.heap.size W w' → v = Value.string TXT → KK (Act.put fa _ v) w' := fun v w' h1 h2 => hKK v w' h1 h2
    clear hSame hRR
    rw [if_pos (wanted_plain rfl)]
    go_simp
    refine (ST.out _ (below_step B11.out hW)).mono ?_; rintro e w' ⟨rfl, hb⟩
    exact hKK _ _ hb rfl
   refine ObsX.cons (k' := 7) rfl ?_ ?_
   ·
    intro fa W hW hSame hRR KK hKK
    try dsimp only at hW
    obtain ⟨fv3, ft3, (rfl : fv3 = Value.string (⟨#[115, 121, 115, 32]⟩ ++ z ++ ⟨#[32]⟩))⟩ := hRR 3 _ 111 rfl rfl (by kernel_rfl) (by kernel_rfl)
    obtain ⟨fv5, ft5, (rfl : fv5 = Value.string TXT)⟩ := hRR 5 _ 113 rfl rfl (by kernel_rfl) (by kernel_rfl)
    replace hKK : ∀ v w', Below W.heap.size W w' → v = Value.string (⟨#[115, 121, 115, 32]⟩ ++ z ++ ⟨#[32]⟩ ++ TXT) → KK (Act.put fa _ v) w' := fun v w' h1 h2 => hKK v w' h1 h2
    clear hSame hRR
    rw [if_pos (wanted_plain rfl)]
    go_simp
    refine hKK _ _ ?_ ?_
    ·
     exact grP
    ·
     exact rfl
   refine ObsX.cons (k' := 8) rfl ?_ ?_
   ·
    intro fa W hW hSame hRR KK hKK
    try dsimp only at hW
    obtain ⟨fv6, ft6, (rfl : fv6 = Value.string (⟨#[115, 121, 115, 32]⟩ ++ z ++ ⟨#[32]⟩ ++ TXT))⟩ := hRR 6 _ 114 rfl rfl (by kernel_rfl) (by kernel_rfl)
    replace hKK : ∀ v w', Below W.heap.size W w' → v = Value.tuple #[.agg #[.int .i64 k, .string z, .int .i64 t, .int .i64 n, .int .i64 u, .int .i64 p], .int .i64 0] → KK (Act.put fa _ v) w' := fun v w' h1 h2 => hKK v w' h1 h2
    clear hSame hRR
    rw [if_pos (wanted_plain rfl)]
    go_simp
    refine (RS.out _ (below_step B11.out hW)).mono ?_; rintro e w' ⟨rfl, hb⟩
    exact hKK _ _ hb rfl
   refine ObsX.cons (k' := 9) rfl ?_ ?_
   ·
    intro fa W hW hSame hRR KK hKK
    try dsimp only at hW
    obtain ⟨fv7, ft7, (rfl : fv7 = Value.tuple #[.agg #[.int .i64 k, .string z, .int .i64 t, .int .i64 n, .int .i64 u, .int .i64 p], .int .i64 0])⟩ := hRR 7 _ 115 rfl rfl (by kernel_rfl) (by kernel_rfl)
    replace hKK : ∀ v w', Below W.heap.size W w' → v = Value.tuple #[.agg #[.int .i64 k, .string z, .int .i64 t, .int .i64 n, .int .i64 u, .int .i64 p], .int .i64 0] → KK (Act.put fa _ v) w' := fun v w' h1 h2 => hKK v w' h1 h2
    clear hSame hRR
    rw [if_pos (wanted_plain rfl)]
    go_simp
    refine hKK _ _ ?_ ?_
    ·
     exact grP
    ·
     exact rfl
   refine ObsX.cons (k' := 10) rfl ?_ ?_
   ·
    intro fa W hW hSame hRR KK hKK
    try dsimp only at hW
    obtain ⟨fv8, ft8, (rfl : fv8 = Value.tuple #[.agg #[.int .i64 k, .string z, .int .i64 t, .int .i64 n, .int .i64 u, .int .i64 p], .int .i64 0])⟩ := hRR 8 _ 107 rfl rfl (by kernel_rfl) (by kernel_rfl)
    replace hKK : ∀ v w', Below W.heap.size W w' → v = Value.agg #[.int .i64 k, .string z, .int .i64 t, .int .i64 n, .int .i64 u, .int .i64 p] → KK (Act.put fa _ v) w' := fun v w' h1 h2 => hKK v w' h1 h2
    clear hSame hRR
    rw [if_pos (wanted_plain rfl)]
    go_simp
    refine hKK _ _ ?_ ?_
    ·
     exact grP
    ·
     exact rfl
   refine ObsX.cons (k' := 11) rfl ?_ ?_
   ·
    intro fa W hW hSame hRR KK hKK
    try dsimp only at hW
    obtain ⟨fv8, ft8, (rfl : fv8 = Value.tuple #[.agg #[.int .i64 k, .string z, .int .i64 t, .int .i64 n, .int .i64 u, .int .i64 p], .int .i64 0])⟩ := hRR 8 _ 107 rfl rfl (by kernel_rfl) (by kernel_rfl)
    replace hKK : ∀ v w', Below W.heap.size W w' → v = Value.int .i64 0 → KK (Act.put fa _ v) w' := fun v w' h1 h2 => hKK v w' h1 h2
    clear hSame hRR
    rw [if_pos (wanted_plain rfl)]
    go_simp
    refine hKK _ _ ?_ ?_
    ·
     exact grP
    ·
     exact rfl
   refine ObsX.cons (k' := 12) rfl ?_ ?_
   ·
    intro fa W hW hSame hRR KK hKK
    try dsimp only at hW
    replace hKK : ∀ v w', Below W.heap.size W w' → (fun v W => ∃ b, v = Value.pointer (some ⟨b, 0, none⟩) ∧ w11.heap.size ≤ b ∧ Bk6 W b (.int .i64 0) (.string ⟨#[]⟩) (.int .i64 0) (.int .i64 0) (.int .i64 0) (.int .i64 0)) v w' → KK (Act.put fa _ v) w' := fun v w' h1 h2 => hKK v w' h1 h2
    clear hSame hRR
    rw [if_pos (wanted_plain rfl)]
    go_simp
    refine hKK _ _ ((Below.refl _ _).alloc (Nat.le_refl _) _) ⟨_, rfl, hW.size, ?_⟩
    exact ⟨by simp <;> omega, by intro j; simp [go_sem], by simp [go_sem], by simp [go_sem], by simp [go_sem], by simp [go_sem], by simp [go_sem], by simp [go_sem]⟩
   refine ObsX.skip (k' := 13) rfl rfl ?_
   refine ObsX.cons (k' := 14) rfl ?_ ?_
   ·
    intro fa W hW hSame hRR KK hKK
    try dsimp only at hW
    obtain ⟨fv10, ft10, (rfl : fv10 = Value.int .i64 0)⟩ := hRR 10 _ 117 rfl rfl (by kernel_rfl) (by kernel_rfl)
    replace hKK : ∀ v w', Below W.heap.size W w' → v = Value.int .i64 0 → KK (Act.put fa _ v) w' := fun v w' h1 h2 => hKK v w' h1 h2
    clear hSame hRR
    rw [if_pos (wanted_plain rfl)]
    go_simp
    refine hKK _ _ ?_ ?_
    ·
     exact grP
    ·
     exact rfl
   exact ObsX.nil
  case hoby =>
   intro o ho fa W hW hSame hRR KK hKK
   replace ho := Option.some.inj (show some _ = some o from ho)
   subst ho
   try dsimp only at hW
   obtain ⟨fv9, ft9, (rfl : fv9 = Value.agg #[.int .i64 k, .string z, .int .i64 t, .int .i64 n, .int .i64 u, .int .i64 p])⟩ := hRR 9 _ 116 rfl rfl (by kernel_rfl) (by kernel_rfl)
   obtain ⟨fv11, ft11, ⟨b, rfl, hb0, hB⟩⟩ := hRR 11 _ 17 rfl rfl (by kernel_rfl) (by kernel_rfl)
   have tx := hB; obtain ⟨c_hb, c_fz, c_k0, c_k1, c_k2, c_k3, c_k4, c_k5⟩ := tx
   rw [if_pos (wanted_plain rfl)]
   go_simp
   refine hKK undef _ ?_ trivial ?_
   ·
    exact below_set6 (Below.refl _ _) hb0 rfl
   ·
    exact ⟨_, ft11, b, rfl, hb0, set6 hB rfl⟩
  case hlast =>
   intro fa W hd hSame hRR hU
   try dsimp only at hd
   obtain ⟨fv, f17, b, rfl, hb0, hB⟩ := hU
   obtain ⟨zz, f18, rfl⟩ := hRR 13 _ 18 rfl rfl rfl
   rw [Same_shape hSame]
   simp only [List.filterMap_cons, List.filterMap_nil, List.foldl_cons, List.foldl_nil]
   have g17 : fa.tmps.getD 17 undef = Value.pointer (some ⟨b, 0, none⟩) := by simp [Array.getD_eq_getD_getElem?, f17]
   have g18 : fa.tmps.getD 18 undef = Value.int .i64 0 := by simp [Array.getD_eq_getD_getElem?, f18]
   rw [g17, g18]
   generalize fa.tmps.getD 108 undef = y108
   generalize fa.tmps.getD 109 undef = y109
   generalize fa.tmps.getD 110 undef = y110
   generalize fa.tmps.getD 111 undef = y111
   generalize fa.tmps.getD 112 undef = y112
   generalize fa.tmps.getD 113 undef = y113
   generalize fa.tmps.getD 114 undef = y114
   generalize fa.tmps.getD 115 undef = y115
   generalize fa.tmps.getD 107 undef = y107
   generalize fa.tmps.getD 116 undef = y116
   generalize fa.tmps.getD 117 undef = y117
   clear hSame hRR f17 f18 g17 g18
   simp only [Act.put, List.setIfInBounds_toArray, List.set_cons_succ, List.set_cons_zero]
   rename World => w12
   have B12 := Lib.hid (below_step B11.out hd)
   have X12 := Lib.hid (X11.out.keep hd)
   have E12 := Lib.hid hB
   clear hd hB X11 S11
   have X := X12.out; have X_h := X.hb; have X_f := X.fz; have X_0 := X.k0; have X_1 := X.k1; have X_2 := X.k2; have X_3 := X.k3; have X_4 := X.k4; have X_5 := X.k5; clear X
   have E := E12.out; have E_h := E.hb; have E_f := E.fz; have E_0 := E.k0; have E_1 := E.k1; have E_2 := E.k2; have E_3 := E.k3; have E_4 := E.k4; have E_5 := E.k5; clear E
   go_wp2_with fail
   all_goals (go_ret; exact ⟨rfl, below_step B12.out gr0⟩)
  exact absurd (by simpa using gk) (by assumption : ¬ k = 1)
end Go.Proofs.YtbcbggdbojonmaaGreatDoor
