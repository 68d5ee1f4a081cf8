/- Joined: QyV. -/
import Derived.Test.YtbcbggdbojonmaaGreatDoorBq01
import Derived.Test.YtbcbggdbojonmaaGreatDoorBq31
set_option linter.unusedVariables false
set_option linter.unusedSimpArgs false
namespace Go.Proofs.YtbcbggdbojonmaaGreatDoor
open Go.RowKit Go.Sort
theorem qy_v0 : Qy.rd [116, 111, 32, 65, 47, 66, 32, 50, 48, 50, 52, 45, 48, 51, 45, 49, 48, 84, 48, 50, 58, 51, 48, 58, 48, 48, 32, 101] = ((3, [65, 47, 66], 1710037800, 0, 0, 1), 0) := by decide +kernel
theorem qy_v1 : Qy.rd [83, 32, 65, 32, 48] = ((1, [65], 0, 0, 0, 0), 0) := by decide +kernel
theorem qy_v2 : Qy.rd [99, 32, 65, 32, 49, 32, 50] = ((7, [65], 1, 2, 0, 0), 0) := by decide +kernel
theorem qy_v3 : Qy.rd [97, 100, 100, 32, 65, 32, 45, 49, 32, 53, 32, 109, 32, 114, 32, 35, 32, 120] = ((5, [65], -1, 5, 2, 3), 0) := by decide +kernel
theorem qy_v4 : Qy.rd [32] = ((0, [], 0, 0, 0, 0), 0) := by decide +kernel
theorem qy_v5 : Qy.rd [110] = ((6, [], 0, 0, 0, 0), 0) := by decide +kernel
theorem qy_v6 : Qy.rd [97, 32, 65, 32, 48] = ((0, [], 0, 0, 0, 0), 3) := by decide +kernel
theorem qy_v7 : Qy.rd [115, 121, 115, 32, 65] = ((0, [], 0, 0, 0, 0), 5) := by decide +kernel
theorem qy_v8 : Qy.rd [115, 121, 115, 32, 65, 32, 48, 32, 48] = ((0, [], 0, 0, 0, 0), 6) := by decide +kernel
theorem qy_v9 : Qy.rd [115, 121, 115, 32, 49, 32, 120] = ((0, [], 0, 0, 0, 0), 10) := by decide +kernel
theorem qy_v10 : Qy.rd [115, 121, 115, 32, 65, 32, 120] = ((0, [], 0, 0, 0, 0), 2) := by decide +kernel
theorem qy_v11 : Qy.rd [116, 111, 32, 65, 32, 48, 32, 120] = ((0, [], 0, 0, 0, 0), 3) := by decide +kernel
theorem qy_v12 : Qy.rd [99, 111, 117, 110, 116, 32, 65, 32, 52, 48, 48, 48, 48, 32, 50] = ((0, [], 0, 0, 0, 0), 1) := by decide +kernel
theorem qy_v13 : Qy.rd [99, 111, 117, 110, 116, 32, 65, 32, 51, 32, 50] = ((0, [], 0, 0, 0, 0), 14) := by decide +kernel
theorem qy_v14 : Qy.rd [99, 111, 117, 110, 116, 32, 65, 32, 50, 48, 50, 52, 45, 48, 51, 45, 49, 48, 84, 48, 50, 58, 51, 48, 58, 48, 48, 32, 50] = ((0, [], 0, 0, 0, 0), 2) := by decide +kernel
theorem qy_v15 : Qy.rd [115, 121, 115, 32, 65, 32, 50, 48, 50, 52, 45, 49, 51, 45, 49, 48, 84, 48, 50, 58, 51, 48, 58, 48, 48] = ((0, [], 0, 0, 0, 0), 1) := by decide +kernel
theorem qy_t0 : Qy.tx (5, [65], -1, 5, 2, 3) = ([97, 100, 100, 32, 65, 32, 45, 49, 32, 53, 32, 109, 111, 110, 116, 104, 115, 32, 114, 101, 106, 101, 99, 116], 0) := by decide +kernel
theorem qy_t1 : Qy.tx (1, [], 0, 0, 0, 0) = ([], 4) := by decide +kernel
theorem qy_t2 : Qy.tx (0, [], 0, 0, 0, 0) = ([], 0) := by decide +kernel
theorem qy_r0 : decide (Qy.right (5, [65], -1, 5, 2, 3)) = true := by decide +kernel
theorem qy_r1 : decide (Qy.right (6, [], 1, 0, 0, 0)) = false := by decide +kernel
set_option maxHeartbeats 16000000 in
set_option maxRecDepth 100000 in
theorem lives44 (w : World) (T : Lib.TabIs Tryz.prog w "internal/strconv.uint64pow10" .u64 Lib.pow10Tab) (tp : TypeId) (pp : Value) (V : w.var? Tryz.prog "strconv.ErrRange" = some #[.iface tp pp]) :
  Calls Tryz.prog 5 #[] w fun e w' => e = .returned (.bool true) ∧ Below w.heap.size w w' := by
 have TT := Lib.hid T
 have VV := Lib.hid V
 clear T V
 have C0 := Lib.hid (fun W V => qread_line ⟨#[116, 111, 32, 65, 47, 66, 32, 50, 48, 50, 52, 45, 48, 51, 45, 49, 48, 84, 48, 50, 58, 51, 48, 58, 48, 48, 32, 101]⟩ W (by decide) tp pp V)
 rw [show (⟨#[116, 111, 32, 65, 47, 66, 32, 50, 48, 50, 52, 45, 48, 51, 45, 49, 48, 84, 48, 50, 58, 51, 48, 58, 48, 48, 32, 101]⟩ : ByteArray).data.toList = [116, 111, 32, 65, 47, 66, 32, 50, 48, 50, 52, 45, 48, 51, 45, 49, 48, 84, 48, 50, 58, 51, 48, 58, 48, 48, 32, 101] from rfl, qy_v0] at C0
 unfold Qy.V at C0; dsimp only at C0
 rw [show (⟨([65, 47, 66] : List UInt8).toArray⟩ : ByteArray) = ⟨#[65, 47, 66]⟩ from rfl] at C0
 have C1 := Lib.hid (fun W V => qread_line ⟨#[83, 32, 65, 32, 48]⟩ W (by decide) tp pp V)
 rw [show (⟨#[83, 32, 65, 32, 48]⟩ : ByteArray).data.toList = [83, 32, 65, 32, 48] from rfl, qy_v1] at C1
 unfold Qy.V at C1; dsimp only at C1
 rw [show (⟨([65] : List UInt8).toArray⟩ : ByteArray) = ⟨#[65]⟩ from rfl] at C1
 have C2 := Lib.hid (fun W V => qread_line ⟨#[99, 32, 65, 32, 49, 32, 50]⟩ W (by decide) tp pp V)
 rw [show (⟨#[99, 32, 65, 32, 49, 32, 50]⟩ : ByteArray).data.toList = [99, 32, 65, 32, 49, 32, 50] from rfl, qy_v2] at C2
 unfold Qy.V at C2; dsimp only at C2
 rw [show (⟨([65] : List UInt8).toArray⟩ : ByteArray) = ⟨#[65]⟩ from rfl] at C2
 have C3 := Lib.hid (fun W V => qread_line ⟨#[97, 100, 100, 32, 65, 32, 45, 49, 32, 53, 32, 109, 32, 114, 32, 35, 32, 120]⟩ W (by decide) tp pp V)
 rw [show (⟨#[97, 100, 100, 32, 65, 32, 45, 49, 32, 53, 32, 109, 32, 114, 32, 35, 32, 120]⟩ : ByteArray).data.toList = [97, 100, 100, 32, 65, 32, 45, 49, 32, 53, 32, 109, 32, 114, 32, 35, 32, 120] from rfl, qy_v3] at C3
 unfold Qy.V at C3; dsimp only at C3
 rw [show (⟨([65] : List UInt8).toArray⟩ : ByteArray) = ⟨#[65]⟩ from rfl] at C3
 have C4 := Lib.hid (fun W V => qread_line ⟨#[32]⟩ W (by decide) tp pp V)
 rw [show (⟨#[32]⟩ : ByteArray).data.toList = [32] from rfl, qy_v4] at C4
 unfold Qy.V at C4; dsimp only at C4
 rw [show (⟨([] : List UInt8).toArray⟩ : ByteArray) = ⟨#[]⟩ from rfl] at C4
 have C5 := Lib.hid (fun W V => qread_line ⟨#[110]⟩ W (by decide) tp pp V)
 rw [show (⟨#[110]⟩ : ByteArray).data.toList = [110] from rfl, qy_v5] at C5
 unfold Qy.V at C5; dsimp only at C5
 rw [show (⟨([] : List UInt8).toArray⟩ : ByteArray) = ⟨#[]⟩ from rfl] at C5
 have C6 := Lib.hid (fun W V => qread_line ⟨#[97, 32, 65, 32, 48]⟩ W (by decide) tp pp V)
 rw [show (⟨#[97, 32, 65, 32, 48]⟩ : ByteArray).data.toList = [97, 32, 65, 32, 48] from rfl, qy_v6] at C6
 unfold Qy.V at C6; dsimp only at C6
 rw [show (⟨([] : List UInt8).toArray⟩ : ByteArray) = ⟨#[]⟩ from rfl] at C6
 have C7 := Lib.hid (fun W V => qread_line ⟨#[115, 121, 115, 32, 65]⟩ W (by decide) tp pp V)
 rw [show (⟨#[115, 121, 115, 32, 65]⟩ : ByteArray).data.toList = [115, 121, 115, 32, 65] from rfl, qy_v7] at C7
 unfold Qy.V at C7; dsimp only at C7
 rw [show (⟨([] : List UInt8).toArray⟩ : ByteArray) = ⟨#[]⟩ from rfl] at C7
 have C8 := Lib.hid (fun W V => qread_line ⟨#[115, 121, 115, 32, 65, 32, 48, 32, 48]⟩ W (by decide) tp pp V)
 rw [show (⟨#[115, 121, 115, 32, 65, 32, 48, 32, 48]⟩ : ByteArray).data.toList = [115, 121, 115, 32, 65, 32, 48, 32, 48] from rfl, qy_v8] at C8
 unfold Qy.V at C8; dsimp only at C8
 rw [show (⟨([] : List UInt8).toArray⟩ : ByteArray) = ⟨#[]⟩ from rfl] at C8
 have C9 := Lib.hid (fun W V => qread_line ⟨#[115, 121, 115, 32, 49, 32, 120]⟩ W (by decide) tp pp V)
 rw [show (⟨#[115, 121, 115, 32, 49, 32, 120]⟩ : ByteArray).data.toList = [115, 121, 115, 32, 49, 32, 120] from rfl, qy_v9] at C9
 unfold Qy.V at C9; dsimp only at C9
 rw [show (⟨([] : List UInt8).toArray⟩ : ByteArray) = ⟨#[]⟩ from rfl] at C9
 have C10 := Lib.hid (fun W V => qread_line ⟨#[115, 121, 115, 32, 65, 32, 120]⟩ W (by decide) tp pp V)
 rw [show (⟨#[115, 121, 115, 32, 65, 32, 120]⟩ : ByteArray).data.toList = [115, 121, 115, 32, 65, 32, 120] from rfl, qy_v10] at C10
 unfold Qy.V at C10; dsimp only at C10
 rw [show (⟨([] : List UInt8).toArray⟩ : ByteArray) = ⟨#[]⟩ from rfl] at C10
 have C11 := Lib.hid (fun W V => qread_line ⟨#[116, 111, 32, 65, 32, 48, 32, 120]⟩ W (by decide) tp pp V)
 rw [show (⟨#[116, 111, 32, 65, 32, 48, 32, 120]⟩ : ByteArray).data.toList = [116, 111, 32, 65, 32, 48, 32, 120] from rfl, qy_v11] at C11
 unfold Qy.V at C11; dsimp only at C11
 rw [show (⟨([] : List UInt8).toArray⟩ : ByteArray) = ⟨#[]⟩ from rfl] at C11
 have C12 := Lib.hid (fun W V => qread_line ⟨#[99, 111, 117, 110, 116, 32, 65, 32, 52, 48, 48, 48, 48, 32, 50]⟩ W (by decide) tp pp V)
 rw [show (⟨#[99, 111, 117, 110, 116, 32, 65, 32, 52, 48, 48, 48, 48, 32, 50]⟩ : ByteArray).data.toList = [99, 111, 117, 110, 116, 32, 65, 32, 52, 48, 48, 48, 48, 32, 50] from rfl, qy_v12] at C12
 unfold Qy.V at C12; dsimp only at C12
 rw [show (⟨([] : List UInt8).toArray⟩ : ByteArray) = ⟨#[]⟩ from rfl] at C12
 have C13 := Lib.hid (fun W V => qread_line ⟨#[99, 111, 117, 110, 116, 32, 65, 32, 51, 32, 50]⟩ W (by decide) tp pp V)
 rw [show (⟨#[99, 111, 117, 110, 116, 32, 65, 32, 51, 32, 50]⟩ : ByteArray).data.toList = [99, 111, 117, 110, 116, 32, 65, 32, 51, 32, 50] from rfl, qy_v13] at C13
 unfold Qy.V at C13; dsimp only at C13
 rw [show (⟨([] : List UInt8).toArray⟩ : ByteArray) = ⟨#[]⟩ from rfl] at C13
 have C14 := Lib.hid (fun W V => qread_line ⟨#[99, 111, 117, 110, 116, 32, 65, 32, 50, 48, 50, 52, 45, 48, 51, 45, 49, 48, 84, 48, 50, 58, 51, 48, 58, 48, 48, 32, 50]⟩ W (by decide) tp pp V)
 rw [show (⟨#[99, 111, 117, 110, 116, 32, 65, 32, 50, 48, 50, 52, 45, 48, 51, 45, 49, 48, 84, 48, 50, 58, 51, 48, 58, 48, 48, 32, 50]⟩ : ByteArray).data.toList = [99, 111, 117, 110, 116, 32, 65, 32, 50, 48, 50, 52, 45, 48, 51, 45, 49, 48, 84, 48, 50, 58, 51, 48, 58, 48, 48, 32, 50] from rfl, qy_v14] at C14
 unfold Qy.V at C14; dsimp only at C14
 rw [show (⟨([] : List UInt8).toArray⟩ : ByteArray) = ⟨#[]⟩ from rfl] at C14
 have C15 := Lib.hid (fun W V => qread_line ⟨#[115, 121, 115, 32, 65, 32, 50, 48, 50, 52, 45, 49, 51, 45, 49, 48, 84, 48, 50, 58, 51, 48, 58, 48, 48]⟩ W (by decide) tp pp V)
 rw [show (⟨#[115, 121, 115, 32, 65, 32, 50, 48, 50, 52, 45, 49, 51, 45, 49, 48, 84, 48, 50, 58, 51, 48, 58, 48, 48]⟩ : ByteArray).data.toList = [115, 121, 115, 32, 65, 32, 50, 48, 50, 52, 45, 49, 51, 45, 49, 48, 84, 48, 50, 58, 51, 48, 58, 48, 48] from rfl, qy_v15] at C15
 unfold Qy.V at C15; dsimp only at C15
 rw [show (⟨([] : List UInt8).toArray⟩ : ByteArray) = ⟨#[]⟩ from rfl] at C15
 have T0 := Lib.hid (fun W T V => qText_any (5, [65], -1, 5, 2, 3) W (by unfold An.bd; decide) (by unfold An.bd; decide) (by decide) T tp pp V)
 rw [qy_t0] at T0
 unfold Qy.V at T0; dsimp only at T0
 rw [show (⟨([65] : List UInt8).toArray⟩ : ByteArray) = ⟨#[65]⟩ from rfl] at T0
 rw [show (⟨([97, 100, 100, 32, 65, 32, 45, 49, 32, 53, 32, 109, 111, 110, 116, 104, 115, 32, 114, 101, 106, 101, 99, 116] : List UInt8).toArray⟩ : ByteArray) = ⟨#[97, 100, 100, 32, 65, 32, 45, 49, 32, 53, 32, 109, 111, 110, 116, 104, 115, 32, 114, 101, 106, 101, 99, 116]⟩ from rfl] at T0
 have T1 := Lib.hid (fun W T V => qText_any (1, [], 0, 0, 0, 0) W (by unfold An.bd; decide) (by unfold An.bd; decide) (by decide) T tp pp V)
 rw [qy_t1] at T1
 unfold Qy.V at T1; dsimp only at T1
 rw [show (⟨([] : List UInt8).toArray⟩ : ByteArray) = ⟨#[]⟩ from rfl] at T1
 have T2 := Lib.hid (fun W T V => qText_any (0, [], 0, 0, 0, 0) W (by unfold An.bd; decide) (by unfold An.bd; decide) (by decide) T tp pp V)
 rw [qy_t2] at T2
 unfold Qy.V at T2; dsimp only at T2
 rw [show (⟨([] : List UInt8).toArray⟩ : ByteArray) = ⟨#[]⟩ from rfl] at T2
 have R0 := Lib.hid (fun W T V => qRight_any (5, [65], -1, 5, 2, 3) W (by unfold An.bd; decide) (by unfold An.bd; decide) (by decide) T tp pp V)
 rw [qy_r0] at R0
 unfold Qy.V at R0; dsimp only at R0
 rw [show (⟨([65] : List UInt8).toArray⟩ : ByteArray) = ⟨#[65]⟩ from rfl] at R0
 have R1 := Lib.hid (fun W T V => qRight_any (6, [], 1, 0, 0, 0) W (by unfold An.bd; decide) (by unfold An.bd; decide) (by decide) T tp pp V)
 rw [qy_r1] at R1
 unfold Qy.V at R1; dsimp only at R1
 rw [show (⟨([] : List UInt8).toArray⟩ : ByteArray) = ⟨#[]⟩ from rfl] at R1
 go_enter Tryz.func5, Tryz.ntmps5
 go_wp2_with fail
 refine (C0.out _ (var_keep gr0 VV.out)).mono ?_; rintro e w1 ⟨rfl, b1⟩
 have d1 : Below w.heap.size w w1 := below_step gr0 b1
 have B1 := Lib.hid d1
 clear b1 d1
 go_wp2_with fail
 refine (C1.out _ (var_keep (below_step B1.out gr0) VV.out)).mono ?_; rintro e w2 ⟨rfl, b2⟩
 have d2 : Below w1.heap.size w1 w2 := below_step gr0 b2
 have B2 := Lib.hid (below_step B1.out d2)
 have aGA := B1.out.size
 have GA2 : Bk6 w2 (w1.heap.size) (.int .i64 3) (.string ⟨#[65, 47, 66]⟩) (.int .i64 1710037800) (.int .i64 0) (.int .i64 0) (.int .i64 1) := by refine Bk6.of b2 (by simp <;> omega) (by intro j; simp [go_sem]) ?_ ?_ ?_ ?_ ?_ ?_ <;> simp [go_sem]
 clear b2 d2 B1
 have tx := GA2; obtain ⟨cGA_b, cGA_f, cGA_0, cGA_1, cGA_2, cGA_3, cGA_4, cGA_5⟩ := tx
 go_wp2_with fail
 clear cGA_b cGA_f cGA_0 cGA_1 cGA_2 cGA_3 cGA_4 cGA_5
 refine (C2.out _ (var_keep (below_step B2.out gr0) VV.out)).mono ?_; rintro e w3 ⟨rfl, b3⟩
 have d3 : Below w2.heap.size w2 w3 := below_step gr0 b3
 have B3 := Lib.hid (below_step B2.out d3)
 have GA3 := GA2.keep d3
 have aGB := B2.out.size
 have nGBGA := Nat.ne_of_lt GA2.hb
 have oGBGA := Nat.ne_of_gt GA2.hb
 have GB3 : Bk6 w3 (w2.heap.size) (.int .i64 1) (.string ⟨#[65]⟩) (.int .i64 0) (.int .i64 0) (.int .i64 0) (.int .i64 0) := by refine Bk6.of b3 (by simp <;> omega) (by intro j; simp [go_sem]) ?_ ?_ ?_ ?_ ?_ ?_ <;> simp [go_sem]
 clear GA2 b3 d3 B2
 have tx := GA3; obtain ⟨cGA_b, cGA_f, cGA_0, cGA_1, cGA_2, cGA_3, cGA_4, cGA_5⟩ := tx
 have tx := GB3; obtain ⟨cGB_b, cGB_f, cGB_0, cGB_1, cGB_2, cGB_3, cGB_4, cGB_5⟩ := tx
 go_wp2_with fail
 clear cGA_b cGA_f cGA_0 cGA_1 cGA_2 cGA_3 cGA_4 cGA_5 cGB_b cGB_f cGB_0 cGB_1 cGB_2 cGB_3 cGB_4 cGB_5
 refine (C3.out _ (var_keep (below_step B3.out gr0) VV.out)).mono ?_; rintro e w4 ⟨rfl, b4⟩
 have d4 : Below w3.heap.size w3 w4 := below_step gr0 b4
 have B4 := Lib.hid (below_step B3.out d4)
 have GA4 := GA3.keep d4
 have GB4 := GB3.keep d4
 have aGC := B3.out.size
 have nGCGA := Nat.ne_of_lt GA3.hb
 have oGCGA := Nat.ne_of_gt GA3.hb
 have nGCGB := Nat.ne_of_lt GB3.hb
 have oGCGB := Nat.ne_of_gt GB3.hb
 have GC4 : Bk6 w4 (w3.heap.size) (.int .i64 7) (.string ⟨#[65]⟩) (.int .i64 1) (.int .i64 2) (.int .i64 0) (.int .i64 0) := by refine Bk6.of b4 (by simp <;> omega) (by intro j; simp [go_sem]) ?_ ?_ ?_ ?_ ?_ ?_ <;> simp [go_sem]
 clear GA3 GB3 b4 d4 B3
 have tx := GA4; obtain ⟨cGA_b, cGA_f, cGA_0, cGA_1, cGA_2, cGA_3, cGA_4, cGA_5⟩ := tx
 have tx := GB4; obtain ⟨cGB_b, cGB_f, cGB_0, cGB_1, cGB_2, cGB_3, cGB_4, cGB_5⟩ := tx
 have tx := GC4; obtain ⟨cGC_b, cGC_f, cGC_0, cGC_1, cGC_2, cGC_3, cGC_4, cGC_5⟩ := tx
 go_wp2_with fail
 clear cGA_b cGA_f cGA_0 cGA_1 cGA_2 cGA_3 cGA_4 cGA_5 cGB_b cGB_f cGB_0 cGB_1 cGB_2 cGB_3 cGB_4 cGB_5 cGC_b cGC_f cGC_0 cGC_1 cGC_2 cGC_3 cGC_4 cGC_5
 refine (C4.out _ (var_keep (below_step B4.out gr0) VV.out)).mono ?_; rintro e w5 ⟨rfl, b5⟩
 have d5 : Below w4.heap.size w4 w5 := below_step gr0 b5
 have B5 := Lib.hid (below_step B4.out d5)
 have GA5 := GA4.keep d5
 have GB5 := GB4.keep d5
 have GC5 := GC4.keep d5
 have aGD := B4.out.size
 have nGDGA := Nat.ne_of_lt GA4.hb
 have oGDGA := Nat.ne_of_gt GA4.hb
 have nGDGB := Nat.ne_of_lt GB4.hb
 have oGDGB := Nat.ne_of_gt GB4.hb
 have nGDGC := Nat.ne_of_lt GC4.hb
 have oGDGC := Nat.ne_of_gt GC4.hb
 have GD5 : Bk6 w5 (w4.heap.size) (.int .i64 5) (.string ⟨#[65]⟩) (.int .i64 (-1)) (.int .i64 5) (.int .i64 2) (.int .i64 3) := by refine Bk6.of b5 (by simp <;> omega) (by intro j; simp [go_sem]) ?_ ?_ ?_ ?_ ?_ ?_ <;> simp [go_sem]
 clear GA4 GB4 GC4 b5 d5 B4
 have tx := GA5; obtain ⟨cGA_b, cGA_f, cGA_0, cGA_1, cGA_2, cGA_3, cGA_4, cGA_5⟩ := tx
 have tx := GB5; obtain ⟨cGB_b, cGB_f, cGB_0, cGB_1, cGB_2, cGB_3, cGB_4, cGB_5⟩ := tx
 have tx := GC5; obtain ⟨cGC_b, cGC_f, cGC_0, cGC_1, cGC_2, cGC_3, cGC_4, cGC_5⟩ := tx
 have tx := GD5; obtain ⟨cGD_b, cGD_f, cGD_0, cGD_1, cGD_2, cGD_3, cGD_4, cGD_5⟩ := tx
 go_wp2_with fail
 clear cGA_b cGA_f cGA_0 cGA_1 cGA_2 cGA_3 cGA_4 cGA_5 cGB_b cGB_f cGB_0 cGB_1 cGB_2 cGB_3 cGB_4 cGB_5 cGC_b cGC_f cGC_0 cGC_1 cGC_2 cGC_3 cGC_4 cGC_5 cGD_b cGD_f cGD_0 cGD_1 cGD_2 cGD_3 cGD_4 cGD_5
 refine (C5.out _ (var_keep (below_step B5.out gr0) VV.out)).mono ?_; rintro e w6 ⟨rfl, b6⟩
 have d6 : Below w5.heap.size w5 w6 := below_step gr0 b6
 have B6 := Lib.hid (below_step B5.out d6)
 have GA6 := GA5.keep d6
 have GB6 := GB5.keep d6
 have GC6 := GC5.keep d6
 have GD6 := GD5.keep d6
 have aGE := B5.out.size
 have nGEGA := Nat.ne_of_lt GA5.hb
 have oGEGA := Nat.ne_of_gt GA5.hb
 have nGEGB := Nat.ne_of_lt GB5.hb
 have oGEGB := Nat.ne_of_gt GB5.hb
 have nGEGC := Nat.ne_of_lt GC5.hb
 have oGEGC := Nat.ne_of_gt GC5.hb
 have nGEGD := Nat.ne_of_lt GD5.hb
 have oGEGD := Nat.ne_of_gt GD5.hb
 have GE6 : Bk6 w6 (w5.heap.size) (.int .i64 0) (.string ⟨#[]⟩) (.int .i64 0) (.int .i64 0) (.int .i64 0) (.int .i64 0) := by refine Bk6.of b6 (by simp <;> omega) (by intro j; simp [go_sem]) ?_ ?_ ?_ ?_ ?_ ?_ <;> simp [go_sem]
 clear GA5 GB5 GC5 GD5 b6 d6 B5
 have tx := GA6; obtain ⟨cGA_b, cGA_f, cGA_0, cGA_1, cGA_2, cGA_3, cGA_4, cGA_5⟩ := tx
 have tx := GB6; obtain ⟨cGB_b, cGB_f, cGB_0, cGB_1, cGB_2, cGB_3, cGB_4, cGB_5⟩ := tx
 have tx := GC6; obtain ⟨cGC_b, cGC_f, cGC_0, cGC_1, cGC_2, cGC_3, cGC_4, cGC_5⟩ := tx
 have tx := GD6; obtain ⟨cGD_b, cGD_f, cGD_0, cGD_1, cGD_2, cGD_3, cGD_4, cGD_5⟩ := tx
 have tx := GE6; obtain ⟨cGE_b, cGE_f, cGE_0, cGE_1, cGE_2, cGE_3, cGE_4, cGE_5⟩ := tx
 go_wp2_with fail
 clear cGA_b cGA_f cGA_0 cGA_1 cGA_2 cGA_3 cGA_4 cGA_5 cGB_b cGB_f cGB_0 cGB_1 cGB_2 cGB_3 cGB_4 cGB_5 cGC_b cGC_f cGC_0 cGC_1 cGC_2 cGC_3 cGC_4 cGC_5 cGD_b cGD_f cGD_0 cGD_1 cGD_2 cGD_3 cGD_4 cGD_5 cGE_b cGE_f cGE_0 cGE_1 cGE_2 cGE_3 cGE_4 cGE_5
 refine (C6.out _ (var_keep (below_step B6.out gr0) VV.out)).mono ?_; rintro e w7 ⟨rfl, b7⟩
 have d7 : Below w6.heap.size w6 w7 := below_step gr0 b7
 have B7 := Lib.hid (below_step B6.out d7)
 have GA7 := GA6.keep d7
 have GB7 := GB6.keep d7
 have GC7 := GC6.keep d7
 have GD7 := GD6.keep d7
 have GE7 := GE6.keep d7
 have aGF := B6.out.size
 have nGFGA := Nat.ne_of_lt GA6.hb
 have oGFGA := Nat.ne_of_gt GA6.hb
 have nGFGB := Nat.ne_of_lt GB6.hb
 have oGFGB := Nat.ne_of_gt GB6.hb
 have nGFGC := Nat.ne_of_lt GC6.hb
 have oGFGC := Nat.ne_of_gt GC6.hb
 have nGFGD := Nat.ne_of_lt GD6.hb
 have oGFGD := Nat.ne_of_gt GD6.hb
 have nGFGE := Nat.ne_of_lt GE6.hb
 have oGFGE := Nat.ne_of_gt GE6.hb
 have GF7 : Bk6 w7 (w6.heap.size) (.int .i64 6) (.string ⟨#[]⟩) (.int .i64 0) (.int .i64 0) (.int .i64 0) (.int .i64 0) := by refine Bk6.of b7 (by simp <;> omega) (by intro j; simp [go_sem]) ?_ ?_ ?_ ?_ ?_ ?_ <;> simp [go_sem]
 clear GA6 GB6 GC6 GD6 GE6 b7 d7 B6
 have tx := GA7; obtain ⟨cGA_b, cGA_f, cGA_0, cGA_1, cGA_2, cGA_3, cGA_4, cGA_5⟩ := tx
 have tx := GB7; obtain ⟨cGB_b, cGB_f, cGB_0, cGB_1, cGB_2, cGB_3, cGB_4, cGB_5⟩ := tx
 have tx := GC7; obtain ⟨cGC_b, cGC_f, cGC_0, cGC_1, cGC_2, cGC_3, cGC_4, cGC_5⟩ := tx
 have tx := GD7; obtain ⟨cGD_b, cGD_f, cGD_0, cGD_1, cGD_2, cGD_3, cGD_4, cGD_5⟩ := tx
 have tx := GE7; obtain ⟨cGE_b, cGE_f, cGE_0, cGE_1, cGE_2, cGE_3, cGE_4, cGE_5⟩ := tx
 have tx := GF7; obtain ⟨cGF_b, cGF_f, cGF_0, cGF_1, cGF_2, cGF_3, cGF_4, cGF_5⟩ := tx
 go_wp2_with fail
 clear cGA_b cGA_f cGA_0 cGA_1 cGA_2 cGA_3 cGA_4 cGA_5 cGB_b cGB_f cGB_0 cGB_1 cGB_2 cGB_3 cGB_4 cGB_5 cGC_b cGC_f cGC_0 cGC_1 cGC_2 cGC_3 cGC_4 cGC_5 cGD_b cGD_f cGD_0 cGD_1 cGD_2 cGD_3 cGD_4 cGD_5 cGE_b cGE_f cGE_0 cGE_1 cGE_2 cGE_3 cGE_4 cGE_5 cGF_b cGF_f cGF_0 cGF_1 cGF_2 cGF_3 cGF_4 cGF_5
 refine (C7.out _ (var_keep (below_step B7.out gr0) VV.out)).mono ?_; rintro e w8 ⟨rfl, b8⟩
 have d8 : Below w7.heap.size w7 w8 := below_step gr0 b8
 have B8 := Lib.hid (below_step B7.out d8)
 have GA8 := GA7.keep d8
 have GB8 := GB7.keep d8
 have GC8 := GC7.keep d8
 have GD8 := GD7.keep d8
 have GE8 := GE7.keep d8
 have GF8 := GF7.keep d8
 clear GA7 GB7 GC7 GD7 GE7 GF7 b8 d8 B7
 have tx := GA8; obtain ⟨cGA_b, cGA_f, cGA_0, cGA_1, cGA_2, cGA_3, cGA_4, cGA_5⟩ := tx
 have tx := GB8; obtain ⟨cGB_b, cGB_f, cGB_0, cGB_1, cGB_2, cGB_3, cGB_4, cGB_5⟩ := tx
 have tx := GC8; obtain ⟨cGC_b, cGC_f, cGC_0, cGC_1, cGC_2, cGC_3, cGC_4, cGC_5⟩ := tx
 have tx := GD8; obtain ⟨cGD_b, cGD_f, cGD_0, cGD_1, cGD_2, cGD_3, cGD_4, cGD_5⟩ := tx
 have tx := GE8; obtain ⟨cGE_b, cGE_f, cGE_0, cGE_1, cGE_2, cGE_3, cGE_4, cGE_5⟩ := tx
 have tx := GF8; obtain ⟨cGF_b, cGF_f, cGF_0, cGF_1, cGF_2, cGF_3, cGF_4, cGF_5⟩ := tx
 go_wp2_with fail
 clear cGA_b cGA_f cGA_0 cGA_1 cGA_2 cGA_3 cGA_4 cGA_5 cGB_b cGB_f cGB_0 cGB_1 cGB_2 cGB_3 cGB_4 cGB_5 cGC_b cGC_f cGC_0 cGC_1 cGC_2 cGC_3 cGC_4 cGC_5 cGD_b cGD_f cGD_0 cGD_1 cGD_2 cGD_3 cGD_4 cGD_5 cGE_b cGE_f cGE_0 cGE_1 cGE_2 cGE_3 cGE_4 cGE_5 cGF_b cGF_f cGF_0 cGF_1 cGF_2 cGF_3 cGF_4 cGF_5
 refine (C8.out _ (var_keep (below_step B8.out gr0) VV.out)).mono ?_; rintro e w9 ⟨rfl, b9⟩
 have d9 : Below w8.heap.size w8 w9 := below_step gr0 b9
 have B9 := Lib.hid (below_step B8.out d9)
 have GA9 := GA8.keep d9
 have GB9 := GB8.keep d9
 have GC9 := GC8.keep d9
 have GD9 := GD8.keep d9
 have GE9 := GE8.keep d9
 have GF9 := GF8.keep d9
 clear GA8 GB8 GC8 GD8 GE8 GF8 b9 d9 B8
 have tx := GA9; obtain ⟨cGA_b, cGA_f, cGA_0, cGA_1, cGA_2, cGA_3, cGA_4, cGA_5⟩ := tx
 have tx := GB9; obtain ⟨cGB_b, cGB_f, cGB_0, cGB_1, cGB_2, cGB_3, cGB_4, cGB_5⟩ := tx
 have tx := GC9; obtain ⟨cGC_b, cGC_f, cGC_0, cGC_1, cGC_2, cGC_3, cGC_4, cGC_5⟩ := tx
 have tx := GD9; obtain ⟨cGD_b, cGD_f, cGD_0, cGD_1, cGD_2, cGD_3, cGD_4, cGD_5⟩ := tx
 have tx := GE9; obtain ⟨cGE_b, cGE_f, cGE_0, cGE_1, cGE_2, cGE_3, cGE_4, cGE_5⟩ := tx
 have tx := GF9; obtain ⟨cGF_b, cGF_f, cGF_0, cGF_1, cGF_2, cGF_3, cGF_4, cGF_5⟩ := tx
 go_wp2_with fail
 clear cGA_b cGA_f cGA_0 cGA_1 cGA_2 cGA_3 cGA_4 cGA_5 cGB_b cGB_f cGB_0 cGB_1 cGB_2 cGB_3 cGB_4 cGB_5 cGC_b cGC_f cGC_0 cGC_1 cGC_2 cGC_3 cGC_4 cGC_5 cGD_b cGD_f cGD_0 cGD_1 cGD_2 cGD_3 cGD_4 cGD_5 cGE_b cGE_f cGE_0 cGE_1 cGE_2 cGE_3 cGE_4 cGE_5 cGF_b cGF_f cGF_0 cGF_1 cGF_2 cGF_3 cGF_4 cGF_5
 refine (C9.out _ (var_keep (below_step B9.out gr0) VV.out)).mono ?_; rintro e w10 ⟨rfl, b10⟩
 have d10 : Below w9.heap.size w9 w10 := below_step gr0 b10
 have B10 := Lib.hid (below_step B9.out d10)
 have GA10 := GA9.keep d10
 have GB10 := GB9.keep d10
 have GC10 := GC9.keep d10
 have GD10 := GD9.keep d10
 have GE10 := GE9.keep d10
 have GF10 := GF9.keep d10
 clear GA9 GB9 GC9 GD9 GE9 GF9 b10 d10 B9
 have tx := GA10; obtain ⟨cGA_b, cGA_f, cGA_0, cGA_1, cGA_2, cGA_3, cGA_4, cGA_5⟩ := tx
 have tx := GB10; obtain ⟨cGB_b, cGB_f, cGB_0, cGB_1, cGB_2, cGB_3, cGB_4, cGB_5⟩ := tx
 have tx := GC10; obtain ⟨cGC_b, cGC_f, cGC_0, cGC_1, cGC_2, cGC_3, cGC_4, cGC_5⟩ := tx
 have tx := GD10; obtain ⟨cGD_b, cGD_f, cGD_0, cGD_1, cGD_2, cGD_3, cGD_4, cGD_5⟩ := tx
 have tx := GE10; obtain ⟨cGE_b, cGE_f, cGE_0, cGE_1, cGE_2, cGE_3, cGE_4, cGE_5⟩ := tx
 have tx := GF10; obtain ⟨cGF_b, cGF_f, cGF_0, cGF_1, cGF_2, cGF_3, cGF_4, cGF_5⟩ := tx
 go_wp2_with fail
 clear cGA_b cGA_f cGA_0 cGA_1 cGA_2 cGA_3 cGA_4 cGA_5 cGB_b cGB_f cGB_0 cGB_1 cGB_2 cGB_3 cGB_4 cGB_5 cGC_b cGC_f cGC_0 cGC_1 cGC_2 cGC_3 cGC_4 cGC_5 cGD_b cGD_f cGD_0 cGD_1 cGD_2 cGD_3 cGD_4 cGD_5 cGE_b cGE_f cGE_0 cGE_1 cGE_2 cGE_3 cGE_4 cGE_5 cGF_b cGF_f cGF_0 cGF_1 cGF_2 cGF_3 cGF_4 cGF_5
 refine (C10.out _ (var_keep (below_step B10.out gr0) VV.out)).mono ?_; rintro e w11 ⟨rfl, b11⟩
 have d11 : Below w10.heap.size w10 w11 := below_step gr0 b11
 have B11 := Lib.hid (below_step B10.out d11)
 have GA11 := GA10.keep d11
 have GB11 := GB10.keep d11
 have GC11 := GC10.keep d11
 have GD11 := GD10.keep d11
 have GE11 := GE10.keep d11
 have GF11 := GF10.keep d11
 clear GA10 GB10 GC10 GD10 GE10 GF10 b11 d11 B10
 have tx := GA11; obtain ⟨cGA_b, cGA_f, cGA_0, cGA_1, cGA_2, cGA_3, cGA_4, cGA_5⟩ := tx
 have tx := GB11; obtain ⟨cGB_b, cGB_f, cGB_0, cGB_1, cGB_2, cGB_3, cGB_4, cGB_5⟩ := tx
 have tx := GC11; obtain ⟨cGC_b, cGC_f, cGC_0, cGC_1, cGC_2, cGC_3, cGC_4, cGC_5⟩ := tx
 have tx := GD11; obtain ⟨cGD_b, cGD_f, cGD_0, cGD_1, cGD_2, cGD_3, cGD_4, cGD_5⟩ := tx
 have tx := GE11; obtain ⟨cGE_b, cGE_f, cGE_0, cGE_1, cGE_2, cGE_3, cGE_4, cGE_5⟩ := tx
 have tx := GF11; obtain ⟨cGF_b, cGF_f, cGF_0, cGF_1, cGF_2, cGF_3, cGF_4, cGF_5⟩ := tx
 go_wp2_with fail
 clear cGA_b cGA_f cGA_0 cGA_1 cGA_2 cGA_3 cGA_4 cGA_5 cGB_b cGB_f cGB_0 cGB_1 cGB_2 cGB_3 cGB_4 cGB_5 cGC_b cGC_f cGC_0 cGC_1 cGC_2 cGC_3 cGC_4 cGC_5 cGD_b cGD_f cGD_0 cGD_1 cGD_2 cGD_3 cGD_4 cGD_5 cGE_b cGE_f cGE_0 cGE_1 cGE_2 cGE_3 cGE_4 cGE_5 cGF_b cGF_f cGF_0 cGF_1 cGF_2 cGF_3 cGF_4 cGF_5
 refine (C11.out _ (var_keep (below_step B11.out gr0) VV.out)).mono ?_; rintro e w12 ⟨rfl, b12⟩
 have d12 : Below w11.heap.size w11 w12 := below_step gr0 b12
 have B12 := Lib.hid (below_step B11.out d12)
 have GA12 := GA11.keep d12
 have GB12 := GB11.keep d12
 have GC12 := GC11.keep d12
 have GD12 := GD11.keep d12
 have GE12 := GE11.keep d12
 have GF12 := GF11.keep d12
 clear GA11 GB11 GC11 GD11 GE11 GF11 b12 d12 B11
 have tx := GA12; obtain ⟨cGA_b, cGA_f, cGA_0, cGA_1, cGA_2, cGA_3, cGA_4, cGA_5⟩ := tx
 have tx := GB12; obtain ⟨cGB_b, cGB_f, cGB_0, cGB_1, cGB_2, cGB_3, cGB_4, cGB_5⟩ := tx
 have tx := GC12; obtain ⟨cGC_b, cGC_f, cGC_0, cGC_1, cGC_2, cGC_3, cGC_4, cGC_5⟩ := tx
 have tx := GD12; obtain ⟨cGD_b, cGD_f, cGD_0, cGD_1, cGD_2, cGD_3, cGD_4, cGD_5⟩ := tx
 have tx := GE12; obtain ⟨cGE_b, cGE_f, cGE_0, cGE_1, cGE_2, cGE_3, cGE_4, cGE_5⟩ := tx
 have tx := GF12; obtain ⟨cGF_b, cGF_f, cGF_0, cGF_1, cGF_2, cGF_3, cGF_4, cGF_5⟩ := tx
 go_wp2_with fail
 clear cGA_b cGA_f cGA_0 cGA_1 cGA_2 cGA_3 cGA_4 cGA_5 cGB_b cGB_f cGB_0 cGB_1 cGB_2 cGB_3 cGB_4 cGB_5 cGC_b cGC_f cGC_0 cGC_1 cGC_2 cGC_3 cGC_4 cGC_5 cGD_b cGD_f cGD_0 cGD_1 cGD_2 cGD_3 cGD_4 cGD_5 cGE_b cGE_f cGE_0 cGE_1 cGE_2 cGE_3 cGE_4 cGE_5 cGF_b cGF_f cGF_0 cGF_1 cGF_2 cGF_3 cGF_4 cGF_5
 refine (C12.out _ (var_keep (below_step B12.out gr0) VV.out)).mono ?_; rintro e w13 ⟨rfl, b13⟩
 have d13 : Below w12.heap.size w12 w13 := below_step gr0 b13
 have B13 := Lib.hid (below_step B12.out d13)
 have GA13 := GA12.keep d13
 have GB13 := GB12.keep d13
 have GC13 := GC12.keep d13
 have GD13 := GD12.keep d13
 have GE13 := GE12.keep d13
 have GF13 := GF12.keep d13
 clear GA12 GB12 GC12 GD12 GE12 GF12 b13 d13 B12
 have tx := GA13; obtain ⟨cGA_b, cGA_f, cGA_0, cGA_1, cGA_2, cGA_3, cGA_4, cGA_5⟩ := tx
 have tx := GB13; obtain ⟨cGB_b, cGB_f, cGB_0, cGB_1, cGB_2, cGB_3, cGB_4, cGB_5⟩ := tx
 have tx := GC13; obtain ⟨cGC_b, cGC_f, cGC_0, cGC_1, cGC_2, cGC_3, cGC_4, cGC_5⟩ := tx
 have tx := GD13; obtain ⟨cGD_b, cGD_f, cGD_0, cGD_1, cGD_2, cGD_3, cGD_4, cGD_5⟩ := tx
 have tx := GE13; obtain ⟨cGE_b, cGE_f, cGE_0, cGE_1, cGE_2, cGE_3, cGE_4, cGE_5⟩ := tx
 have tx := GF13; obtain ⟨cGF_b, cGF_f, cGF_0, cGF_1, cGF_2, cGF_3, cGF_4, cGF_5⟩ := tx
 go_wp2_with fail
 clear cGA_b cGA_f cGA_0 cGA_1 cGA_2 cGA_3 cGA_4 cGA_5 cGB_b cGB_f cGB_0 cGB_1 cGB_2 cGB_3 cGB_4 cGB_5 cGC_b cGC_f cGC_0 cGC_1 cGC_2 cGC_3 cGC_4 cGC_5 cGD_b cGD_f cGD_0 cGD_1 cGD_2 cGD_3 cGD_4 cGD_5 cGE_b cGE_f cGE_0 cGE_1 cGE_2 cGE_3 cGE_4 cGE_5 cGF_b cGF_f cGF_0 cGF_1 cGF_2 cGF_3 cGF_4 cGF_5
 refine (C13.out _ (var_keep (below_step B13.out gr0) VV.out)).mono ?_; rintro e w14 ⟨rfl, b14⟩
 have d14 : Below w13.heap.size w13 w14 := below_step gr0 b14
 have B14 := Lib.hid (below_step B13.out d14)
 have GA14 := GA13.keep d14
 have GB14 := GB13.keep d14
 have GC14 := GC13.keep d14
 have GD14 := GD13.keep d14
 have GE14 := GE13.keep d14
 have GF14 := GF13.keep d14
 clear GA13 GB13 GC13 GD13 GE13 GF13 b14 d14 B13
 have tx := GA14; obtain ⟨cGA_b, cGA_f, cGA_0, cGA_1, cGA_2, cGA_3, cGA_4, cGA_5⟩ := tx
 have tx := GB14; obtain ⟨cGB_b, cGB_f, cGB_0, cGB_1, cGB_2, cGB_3, cGB_4, cGB_5⟩ := tx
 have tx := GC14; obtain ⟨cGC_b, cGC_f, cGC_0, cGC_1, cGC_2, cGC_3, cGC_4, cGC_5⟩ := tx
 have tx := GD14; obtain ⟨cGD_b, cGD_f, cGD_0, cGD_1, cGD_2, cGD_3, cGD_4, cGD_5⟩ := tx
 have tx := GE14; obtain ⟨cGE_b, cGE_f, cGE_0, cGE_1, cGE_2, cGE_3, cGE_4, cGE_5⟩ := tx
 have tx := GF14; obtain ⟨cGF_b, cGF_f, cGF_0, cGF_1, cGF_2, cGF_3, cGF_4, cGF_5⟩ := tx
 go_wp2_with fail
 clear cGA_b cGA_f cGA_0 cGA_1 cGA_2 cGA_3 cGA_4 cGA_5 cGB_b cGB_f cGB_0 cGB_1 cGB_2 cGB_3 cGB_4 cGB_5 cGC_b cGC_f cGC_0 cGC_1 cGC_2 cGC_3 cGC_4 cGC_5 cGD_b cGD_f cGD_0 cGD_1 cGD_2 cGD_3 cGD_4 cGD_5 cGE_b cGE_f cGE_0 cGE_1 cGE_2 cGE_3 cGE_4 cGE_5 cGF_b cGF_f cGF_0 cGF_1 cGF_2 cGF_3 cGF_4 cGF_5
 refine (C14.out _ (var_keep (below_step B14.out gr0) VV.out)).mono ?_; rintro e w15 ⟨rfl, b15⟩
 have d15 : Below w14.heap.size w14 w15 := below_step gr0 b15
 have B15 := Lib.hid (below_step B14.out d15)
 have GA15 := GA14.keep d15
 have GB15 := GB14.keep d15
 have GC15 := GC14.keep d15
 have GD15 := GD14.keep d15
 have GE15 := GE14.keep d15
 have GF15 := GF14.keep d15
 clear GA14 GB14 GC14 GD14 GE14 GF14 b15 d15 B14
 have tx := GA15; obtain ⟨cGA_b, cGA_f, cGA_0, cGA_1, cGA_2, cGA_3, cGA_4, cGA_5⟩ := tx
 have tx := GB15; obtain ⟨cGB_b, cGB_f, cGB_0, cGB_1, cGB_2, cGB_3, cGB_4, cGB_5⟩ := tx
 have tx := GC15; obtain ⟨cGC_b, cGC_f, cGC_0, cGC_1, cGC_2, cGC_3, cGC_4, cGC_5⟩ := tx
 have tx := GD15; obtain ⟨cGD_b, cGD_f, cGD_0, cGD_1, cGD_2, cGD_3, cGD_4, cGD_5⟩ := tx
 have tx := GE15; obtain ⟨cGE_b, cGE_f, cGE_0, cGE_1, cGE_2, cGE_3, cGE_4, cGE_5⟩ := tx
 have tx := GF15; obtain ⟨cGF_b, cGF_f, cGF_0, cGF_1, cGF_2, cGF_3, cGF_4, cGF_5⟩ := tx
 go_wp2_with fail
 clear cGA_b cGA_f cGA_0 cGA_1 cGA_2 cGA_3 cGA_4 cGA_5 cGB_b cGB_f cGB_0 cGB_1 cGB_2 cGB_3 cGB_4 cGB_5 cGC_b cGC_f cGC_0 cGC_1 cGC_2 cGC_3 cGC_4 cGC_5 cGD_b cGD_f cGD_0 cGD_1 cGD_2 cGD_3 cGD_4 cGD_5 cGE_b cGE_f cGE_0 cGE_1 cGE_2 cGE_3 cGE_4 cGE_5 cGF_b cGF_f cGF_0 cGF_1 cGF_2 cGF_3 cGF_4 cGF_5
 refine (C15.out _ (var_keep (below_step B15.out gr0) VV.out)).mono ?_; rintro e w16 ⟨rfl, b16⟩
 have d16 : Below w15.heap.size w15 w16 := below_step gr0 b16
 have B16 := Lib.hid (below_step B15.out d16)
 have GA16 := GA15.keep d16
 have GB16 := GB15.keep d16
 have GC16 := GC15.keep d16
 have GD16 := GD15.keep d16
 have GE16 := GE15.keep d16
 have GF16 := GF15.keep d16
 clear GA15 GB15 GC15 GD15 GE15 GF15 b16 d16 B15
 have tx := GA16; obtain ⟨cGA_b, cGA_f, cGA_0, cGA_1, cGA_2, cGA_3, cGA_4, cGA_5⟩ := tx
 have tx := GB16; obtain ⟨cGB_b, cGB_f, cGB_0, cGB_1, cGB_2, cGB_3, cGB_4, cGB_5⟩ := tx
 have tx := GC16; obtain ⟨cGC_b, cGC_f, cGC_0, cGC_1, cGC_2, cGC_3, cGC_4, cGC_5⟩ := tx
 have tx := GD16; obtain ⟨cGD_b, cGD_f, cGD_0, cGD_1, cGD_2, cGD_3, cGD_4, cGD_5⟩ := tx
 have tx := GE16; obtain ⟨cGE_b, cGE_f, cGE_0, cGE_1, cGE_2, cGE_3, cGE_4, cGE_5⟩ := tx
 have tx := GF16; obtain ⟨cGF_b, cGF_f, cGF_0, cGF_1, cGF_2, cGF_3, cGF_4, cGF_5⟩ := tx
 go_wp2_with fail
 clear cGA_b cGA_f cGA_0 cGA_1 cGA_2 cGA_3 cGA_4 cGA_5 cGB_b cGB_f cGB_0 cGB_1 cGB_2 cGB_3 cGB_4 cGB_5 cGC_b cGC_f cGC_0 cGC_1 cGC_2 cGC_3 cGC_4 cGC_5 cGD_b cGD_f cGD_0 cGD_1 cGD_2 cGD_3 cGD_4 cGD_5 cGE_b cGE_f cGE_0 cGE_1 cGE_2 cGE_3 cGE_4 cGE_5 cGF_b cGF_f cGF_0 cGF_1 cGF_2 cGF_3 cGF_4 cGF_5
 refine (T0.out _ (var_keep (below_step B16.out gr0) TT.out) (var_keep (below_step B16.out gr0) VV.out)).mono ?_; rintro e w17 ⟨rfl, b17⟩
 have d17 : Below w16.heap.size w16 w17 := below_step gr0 b17
 have B17 := Lib.hid (below_step B16.out d17)
 have GA17 := GA16.keep d17
 have GB17 := GB16.keep d17
 have GC17 := GC16.keep d17
 have GD17 := GD16.keep d17
 have GE17 := GE16.keep d17
 have GF17 := GF16.keep d17
 clear GA16 GB16 GC16 GD16 GE16 GF16 b17 d17 B16
 have tx := GA17; obtain ⟨cGA_b, cGA_f, cGA_0, cGA_1, cGA_2, cGA_3, cGA_4, cGA_5⟩ := tx
 have tx := GB17; obtain ⟨cGB_b, cGB_f, cGB_0, cGB_1, cGB_2, cGB_3, cGB_4, cGB_5⟩ := tx
 have tx := GC17; obtain ⟨cGC_b, cGC_f, cGC_0, cGC_1, cGC_2, cGC_3, cGC_4, cGC_5⟩ := tx
 have tx := GD17; obtain ⟨cGD_b, cGD_f, cGD_0, cGD_1, cGD_2, cGD_3, cGD_4, cGD_5⟩ := tx
 have tx := GE17; obtain ⟨cGE_b, cGE_f, cGE_0, cGE_1, cGE_2, cGE_3, cGE_4, cGE_5⟩ := tx
 have tx := GF17; obtain ⟨cGF_b, cGF_f, cGF_0, cGF_1, cGF_2, cGF_3, cGF_4, cGF_5⟩ := tx
 go_wp2_with fail
 clear cGA_b cGA_f cGA_0 cGA_1 cGA_2 cGA_3 cGA_4 cGA_5 cGB_b cGB_f cGB_0 cGB_1 cGB_2 cGB_3 cGB_4 cGB_5 cGC_b cGC_f cGC_0 cGC_1 cGC_2 cGC_3 cGC_4 cGC_5 cGD_b cGD_f cGD_0 cGD_1 cGD_2 cGD_3 cGD_4 cGD_5 cGE_b cGE_f cGE_0 cGE_1 cGE_2 cGE_3 cGE_4 cGE_5 cGF_b cGF_f cGF_0 cGF_1 cGF_2 cGF_3 cGF_4 cGF_5
 refine (T1.out _ (var_keep (below_step B17.out gr0) TT.out) (var_keep (below_step B17.out gr0) VV.out)).mono ?_; rintro e w18 ⟨rfl, b18⟩
 have d18 : Below w17.heap.size w17 w18 := below_step gr0 b18
 have B18 := Lib.hid (below_step B17.out d18)
 have GA18 := GA17.keep d18
 have GB18 := GB17.keep d18
 have GC18 := GC17.keep d18
 have GD18 := GD17.keep d18
 have GE18 := GE17.keep d18
 have GF18 := GF17.keep d18
 clear GA17 GB17 GC17 GD17 GE17 GF17 b18 d18 B17
 have tx := GA18; obtain ⟨cGA_b, cGA_f, cGA_0, cGA_1, cGA_2, cGA_3, cGA_4, cGA_5⟩ := tx
 have tx := GB18; obtain ⟨cGB_b, cGB_f, cGB_0, cGB_1, cGB_2, cGB_3, cGB_4, cGB_5⟩ := tx
 have tx := GC18; obtain ⟨cGC_b, cGC_f, cGC_0, cGC_1, cGC_2, cGC_3, cGC_4, cGC_5⟩ := tx
 have tx := GD18; obtain ⟨cGD_b, cGD_f, cGD_0, cGD_1, cGD_2, cGD_3, cGD_4, cGD_5⟩ := tx
 have tx := GE18; obtain ⟨cGE_b, cGE_f, cGE_0, cGE_1, cGE_2, cGE_3, cGE_4, cGE_5⟩ := tx
 have tx := GF18; obtain ⟨cGF_b, cGF_f, cGF_0, cGF_1, cGF_2, cGF_3, cGF_4, cGF_5⟩ := tx
 go_wp2_with fail
 clear cGA_b cGA_f cGA_0 cGA_1 cGA_2 cGA_3 cGA_4 cGA_5 cGB_b cGB_f cGB_0 cGB_1 cGB_2 cGB_3 cGB_4 cGB_5 cGC_b cGC_f cGC_0 cGC_1 cGC_2 cGC_3 cGC_4 cGC_5 cGD_b cGD_f cGD_0 cGD_1 cGD_2 cGD_3 cGD_4 cGD_5 cGE_b cGE_f cGE_0 cGE_1 cGE_2 cGE_3 cGE_4 cGE_5 cGF_b cGF_f cGF_0 cGF_1 cGF_2 cGF_3 cGF_4 cGF_5
 refine (T2.out _ (var_keep (below_step B18.out gr0) TT.out) (var_keep (below_step B18.out gr0) VV.out)).mono ?_; rintro e w19 ⟨rfl, b19⟩
 have d19 : Below w18.heap.size w18 w19 := below_step gr0 b19
 have B19 := Lib.hid (below_step B18.out d19)
 have GA19 := GA18.keep d19
 have GB19 := GB18.keep d19
 have GC19 := GC18.keep d19
 have GD19 := GD18.keep d19
 have GE19 := GE18.keep d19
 have GF19 := GF18.keep d19
 clear GA18 GB18 GC18 GD18 GE18 GF18 b19 d19 B18
 have tx := GA19; obtain ⟨cGA_b, cGA_f, cGA_0, cGA_1, cGA_2, cGA_3, cGA_4, cGA_5⟩ := tx
 have tx := GB19; obtain ⟨cGB_b, cGB_f, cGB_0, cGB_1, cGB_2, cGB_3, cGB_4, cGB_5⟩ := tx
 have tx := GC19; obtain ⟨cGC_b, cGC_f, cGC_0, cGC_1, cGC_2, cGC_3, cGC_4, cGC_5⟩ := tx
 have tx := GD19; obtain ⟨cGD_b, cGD_f, cGD_0, cGD_1, cGD_2, cGD_3, cGD_4, cGD_5⟩ := tx
 have tx := GE19; obtain ⟨cGE_b, cGE_f, cGE_0, cGE_1, cGE_2, cGE_3, cGE_4, cGE_5⟩ := tx
 have tx := GF19; obtain ⟨cGF_b, cGF_f, cGF_0, cGF_1, cGF_2, cGF_3, cGF_4, cGF_5⟩ := tx
 go_wp2_with fail
 clear cGA_b cGA_f cGA_0 cGA_1 cGA_2 cGA_3 cGA_4 cGA_5 cGB_b cGB_f cGB_0 cGB_1 cGB_2 cGB_3 cGB_4 cGB_5 cGC_b cGC_f cGC_0 cGC_1 cGC_2 cGC_3 cGC_4 cGC_5 cGD_b cGD_f cGD_0 cGD_1 cGD_2 cGD_3 cGD_4 cGD_5 cGE_b cGE_f cGE_0 cGE_1 cGE_2 cGE_3 cGE_4 cGE_5 cGF_b cGF_f cGF_0 cGF_1 cGF_2 cGF_3 cGF_4 cGF_5
 refine (R0.out _ (var_keep (below_step B19.out gr0) TT.out) (var_keep (below_step B19.out gr0) VV.out)).mono ?_; rintro e w20 ⟨rfl, b20⟩
 have d20 : Below w19.heap.size w19 w20 := below_step gr0 b20
 have B20 := Lib.hid (below_step B19.out d20)
 have GA20 := GA19.keep d20
 have GB20 := GB19.keep d20
 have GC20 := GC19.keep d20
 have GD20 := GD19.keep d20
 have GE20 := GE19.keep d20
 have GF20 := GF19.keep d20
 clear GA19 GB19 GC19 GD19 GE19 GF19 b20 d20 B19
 have tx := GA20; obtain ⟨cGA_b, cGA_f, cGA_0, cGA_1, cGA_2, cGA_3, cGA_4, cGA_5⟩ := tx
 have tx := GB20; obtain ⟨cGB_b, cGB_f, cGB_0, cGB_1, cGB_2, cGB_3, cGB_4, cGB_5⟩ := tx
 have tx := GC20; obtain ⟨cGC_b, cGC_f, cGC_0, cGC_1, cGC_2, cGC_3, cGC_4, cGC_5⟩ := tx
 have tx := GD20; obtain ⟨cGD_b, cGD_f, cGD_0, cGD_1, cGD_2, cGD_3, cGD_4, cGD_5⟩ := tx
 have tx := GE20; obtain ⟨cGE_b, cGE_f, cGE_0, cGE_1, cGE_2, cGE_3, cGE_4, cGE_5⟩ := tx
 have tx := GF20; obtain ⟨cGF_b, cGF_f, cGF_0, cGF_1, cGF_2, cGF_3, cGF_4, cGF_5⟩ := tx
 go_wp2_with fail
 clear cGA_b cGA_f cGA_0 cGA_1 cGA_2 cGA_3 cGA_4 cGA_5 cGB_b cGB_f cGB_0 cGB_1 cGB_2 cGB_3 cGB_4 cGB_5 cGC_b cGC_f cGC_0 cGC_1 cGC_2 cGC_3 cGC_4 cGC_5 cGD_b cGD_f cGD_0 cGD_1 cGD_2 cGD_3 cGD_4 cGD_5 cGE_b cGE_f cGE_0 cGE_1 cGE_2 cGE_3 cGE_4 cGE_5 cGF_b cGF_f cGF_0 cGF_1 cGF_2 cGF_3 cGF_4 cGF_5
 refine (R1.out _ (var_keep (below_step B20.out gr0) TT.out) (var_keep (below_step B20.out gr0) VV.out)).mono ?_; rintro e w21 ⟨rfl, b21⟩
 have d21 : Below w20.heap.size w20 w21 := below_step gr0 b21
 have B21 := Lib.hid (below_step B20.out d21)
 have GA21 := GA20.keep d21
 have GB21 := GB20.keep d21
 have GC21 := GC20.keep d21
 have GD21 := GD20.keep d21
 have GE21 := GE20.keep d21
 have GF21 := GF20.keep d21
 clear GA20 GB20 GC20 GD20 GE20 GF20 b21 d21 B20
 have tx := GA21; obtain ⟨cGA_b, cGA_f, cGA_0, cGA_1, cGA_2, cGA_3, cGA_4, cGA_5⟩ := tx
 have tx := GB21; obtain ⟨cGB_b, cGB_f, cGB_0, cGB_1, cGB_2, cGB_3, cGB_4, cGB_5⟩ := tx
 have tx := GC21; obtain ⟨cGC_b, cGC_f, cGC_0, cGC_1, cGC_2, cGC_3, cGC_4, cGC_5⟩ := tx
 have tx := GD21; obtain ⟨cGD_b, cGD_f, cGD_0, cGD_1, cGD_2, cGD_3, cGD_4, cGD_5⟩ := tx
 have tx := GE21; obtain ⟨cGE_b, cGE_f, cGE_0, cGE_1, cGE_2, cGE_3, cGE_4, cGE_5⟩ := tx
 have tx := GF21; obtain ⟨cGF_b, cGF_f, cGF_0, cGF_1, cGF_2, cGF_3, cGF_4, cGF_5⟩ := tx
 go_wp2_with fail
 clear cGA_b cGA_f cGA_0 cGA_1 cGA_2 cGA_3 cGA_4 cGA_5 cGB_b cGB_f cGB_0 cGB_1 cGB_2 cGB_3 cGB_4 cGB_5 cGC_b cGC_f cGC_0 cGC_1 cGC_2 cGC_3 cGC_4 cGC_5 cGD_b cGD_f cGD_0 cGD_1 cGD_2 cGD_3 cGD_4 cGD_5 cGE_b cGE_f cGE_0 cGE_1 cGE_2 cGE_3 cGE_4 cGE_5 cGF_b cGF_f cGF_0 cGF_1 cGF_2 cGF_3 cGF_4 cGF_5
 go_ret
 exact ⟨rfl, (grB B21)⟩
end Go.Proofs.YtbcbggdbojonmaaGreatDoor
