/- Joined: AnL. -/
import Derived.Test.YtlelpeocbgjmhaaGreatDoorBy01
import Derived.Test.YtlelpeocbgjmhaaGreatDoorBy17
import Derived.Test.YtlelpeocbgjmhaaGreatDoorBy26
import Derived.Test.YtlelpeocbgjmhaaGreatDoorBy32
import Derived.Test.YtlelpeocbgjmhaaGreatDoorBy33
set_option linter.unusedVariables false
set_option linter.unusedSimpArgs false
namespace Go.Proofs.YtlelpeocbgjmhaaGreatDoor
open Go.RowKit Go.Sort
theorem an_vA : An.inf (0, 10, 3600, 0, ⟨#[88]⟩) = ([48, 32, 49, 48, 32, 51, 54, 48, 48, 32, 48, 32, 88], 0) := by decide +kernel
theorem an_vB : An.inf (0, 10, 0, 0, ⟨#[]⟩) = ([48, 32, 49, 48, 32, 48, 32, 48, 32, 34, 34], 0) := by decide +kernel
theorem an_vZ : An.inf (0, 0, 0, 0, ⟨#[97, 34]⟩) = ([], 8) := by decide +kernel
theorem an_vC : An.rdi [48, 32, 49, 48, 32, 51, 54, 48, 48, 32, 48, 32, 88] = ((0, 10, 3600, 0, ⟨#[88]⟩), 0) := by decide +kernel
theorem an_vD : An.rdi [48, 32, 49, 48, 32, 51, 54, 48, 48, 32, 48] = ((0, 0, 0, 0, ⟨#[]⟩), 5) := by decide +kernel
theorem an_vE : An.rdi [48, 32, 49, 48, 32, 51, 54, 48, 48, 32, 48, 32, 88, 32, 89] = ((0, 0, 0, 0, ⟨#[]⟩), 6) := by decide +kernel
theorem an_vF : An.rdi [48, 32, 120, 32, 51, 54, 48, 48, 32, 48, 32, 88] = ((0, 0, 0, 0, ⟨#[]⟩), 2) := by decide +kernel
theorem an_vG : An.rdi [34] = ((0, 0, 0, 0, ⟨#[]⟩), 8) := by decide +kernel
theorem an_vH : An.loc 3 (0, 10, 3600, 0, ⟨#[88]⟩) (0, 10, 3600, 0, ⟨#[88]⟩) = ([116, 119, 111, 32, 48, 32, 49, 48, 32, 51, 54, 48, 48, 32, 48, 32, 88, 32, 47, 32, 48, 32, 49, 48, 32, 51, 54, 48, 48, 32, 48, 32, 88], 0) := by decide +kernel
theorem an_vI : An.loc 1 (0, 10, 3600, 0, ⟨#[88]⟩) (0, 0, 0, 0, ⟨#[34]⟩) = ([111, 110, 101, 32, 48, 32, 49, 48, 32, 51, 54, 48, 48, 32, 48, 32, 88], 0) := by decide +kernel
theorem an_vJ : An.loc 0 (0, 0, 0, 0, ⟨#[]⟩) (0, 0, 0, 0, ⟨#[]⟩) = ([], 4) := by decide +kernel
theorem an_vK : An.nms [[65], [98, 32, 99]] = ([110, 97, 109, 101, 115, 32, 65, 32, 34, 98, 32, 99, 34], 0) := by decide +kernel
theorem an_vL : An.nms [] = ([110, 97, 109, 101, 115], 0) := by decide +kernel
theorem an_vM : An.sec 0 = [48, 32, 49, 57, 55, 48, 45, 48, 49, 45, 48, 49, 84, 48, 48, 58, 48, 48, 58, 48, 48] := by decide +kernel
theorem an_vN : An.sec 9223372036854775807 = [57, 50, 50, 51, 51, 55, 50, 48, 51, 54, 56, 53, 52, 55, 55, 53, 56, 48, 55] := by decide +kernel
theorem an_vO : An.flt 3 12 = [101, 114, 114, 111, 114, 32, 49, 50, 32, 105, 110, 32, 108, 105, 110, 101, 32, 51] := by decide +kernel
theorem an_vP : An.flt 0 0 = [101, 114, 114, 111, 114, 32, 48] := by decide +kernel
set_option maxHeartbeats 8000000 in
set_option maxRecDepth 100000 in
theorem lives45 (w : World) (T : Lib.TabIs Tryz.prog w "internal/strconv.uint64pow10" .u64 Lib.pow10Tab) (tp : TypeId) (pp : Value) (V : w.var? Tryz.prog "strconv.ErrRange" = some #[.iface tp pp]) :
  Calls Tryz.prog 5 #[] w fun e w' => e = .returned (.bool true) ∧ Below w.heap.size w w' := by
 have TT := Lib.hid T
 have VV := Lib.hid V
 clear T V
 have CA := Lib.hid (fun W T => ainfo_any 0 10 3600 0 ⟨#[88]⟩ W (by unfold An.bd; omega) (by unfold An.bd; omega) (by unfold An.bd; omega) (by unfold An.bd; omega) (by decide) T)
 rw [an_vA] at CA
 have CB := Lib.hid (fun W T => ainfo_any 0 10 0 0 ⟨#[]⟩ W (by unfold An.bd; omega) (by unfold An.bd; omega) (by unfold An.bd; omega) (by unfold An.bd; omega) (by decide) T)
 rw [an_vB] at CB
 have CZ := Lib.hid (fun W T => ainfo_any 0 0 0 0 ⟨#[97, 34]⟩ W (by unfold An.bd; omega) (by unfold An.bd; omega) (by unfold An.bd; omega) (by unfold An.bd; omega) (by decide) T)
 rw [an_vZ] at CZ
 have CC := Lib.hid (fun W V => aread_any ⟨#[48, 32, 49, 48, 32, 51, 54, 48, 48, 32, 48, 32, 88]⟩ W (by decide) tp pp V)
 rw [show (⟨#[48, 32, 49, 48, 32, 51, 54, 48, 48, 32, 48, 32, 88]⟩ : ByteArray).data.toList = [48, 32, 49, 48, 32, 51, 54, 48, 48, 32, 48, 32, 88] from rfl, an_vC] at CC
 have CD := Lib.hid (fun W V => aread_any ⟨#[48, 32, 49, 48, 32, 51, 54, 48, 48, 32, 48]⟩ W (by decide) tp pp V)
 rw [show (⟨#[48, 32, 49, 48, 32, 51, 54, 48, 48, 32, 48]⟩ : ByteArray).data.toList = [48, 32, 49, 48, 32, 51, 54, 48, 48, 32, 48] from rfl, an_vD] at CD
 have CE := Lib.hid (fun W V => aread_any ⟨#[48, 32, 49, 48, 32, 51, 54, 48, 48, 32, 48, 32, 88, 32, 89]⟩ W (by decide) tp pp V)
 rw [show (⟨#[48, 32, 49, 48, 32, 51, 54, 48, 48, 32, 48, 32, 88, 32, 89]⟩ : ByteArray).data.toList = [48, 32, 49, 48, 32, 51, 54, 48, 48, 32, 48, 32, 88, 32, 89] from rfl, an_vE] at CE
 have CF := Lib.hid (fun W V => aread_any ⟨#[48, 32, 120, 32, 51, 54, 48, 48, 32, 48, 32, 88]⟩ W (by decide) tp pp V)
 rw [show (⟨#[48, 32, 120, 32, 51, 54, 48, 48, 32, 48, 32, 88]⟩ : ByteArray).data.toList = [48, 32, 120, 32, 51, 54, 48, 48, 32, 48, 32, 88] from rfl, an_vF] at CF
 have CG := Lib.hid (fun W V => aread_any ⟨#[34]⟩ W (by decide) tp pp V)
 rw [show (⟨#[34]⟩ : ByteArray).data.toList = [34] from rfl, an_vG] at CG
 have CH := Lib.hid (fun W T => alocal_any 3 0 10 3600 0 ⟨#[88]⟩ 0 10 3600 0 ⟨#[88]⟩ W (by unfold An.bd; omega) (by unfold An.bd; omega) (by unfold An.bd; omega) (by unfold An.bd; omega) (by decide) (by unfold An.bd; omega) (by unfold An.bd; omega) (by unfold An.bd; omega) (by unfold An.bd; omega) (by decide) T)
 rw [an_vH] at CH
 have CI := Lib.hid (fun W T => alocal_any 1 0 10 3600 0 ⟨#[88]⟩ 0 0 0 0 ⟨#[34]⟩ W (by unfold An.bd; omega) (by unfold An.bd; omega) (by unfold An.bd; omega) (by unfold An.bd; omega) (by decide) (by unfold An.bd; omega) (by unfold An.bd; omega) (by unfold An.bd; omega) (by unfold An.bd; omega) (by decide) T)
 rw [an_vI] at CI
 have CJ := Lib.hid (fun W T => alocal_any 0 0 0 0 0 ⟨#[]⟩ 0 0 0 0 ⟨#[]⟩ W (by unfold An.bd; omega) (by unfold An.bd; omega) (by unfold An.bd; omega) (by unfold An.bd; omega) (by decide) (by unfold An.bd; omega) (by unfold An.bd; omega) (by unfold An.bd; omega) (by unfold An.bd; omega) (by decide) T)
 rw [an_vJ] at CJ
 have CK := Lib.hid (fun v W S => anames_any v [⟨#[65]⟩, ⟨#[98, 32, 99]⟩] W S (by decide) (by decide))
 rw [show Fd.bl [⟨#[65]⟩, ⟨#[98, 32, 99]⟩] = [[65], [98, 32, 99]] from rfl, an_vK] at CK
 have CL := Lib.hid (fun v W S => anames_any v [] W S (by decide) (by decide))
 rw [show Fd.bl [] = [] from rfl, an_vL] at CL
 have CM := Lib.hid (fun W T => asecond_txt 0 W (by unfold An.bd; omega) T)
 rw [an_vM] at CM
 have CN := Lib.hid (fun W T => asecond_txt 9223372036854775807 W (by unfold An.bd; omega) T)
 rw [an_vN] at CN
 have CO := Lib.hid (fun W T => afault_any 3 12 W (by unfold An.bd; omega) (by unfold An.bd; omega) T)
 rw [an_vO] at CO
 have CP := Lib.hid (fun W T => afault_any 0 0 W (by unfold An.bd; omega) (by unfold An.bd; omega) T)
 rw [an_vP] at CP
 rw [show (⟨[48, 32, 49, 48, 32, 51, 54, 48, 48, 32, 48, 32, 88].toArray⟩ : ByteArray) = ⟨#[48, 32, 49, 48, 32, 51, 54, 48, 48, 32, 48, 32, 88]⟩ from rfl] at CA
 rw [show (⟨[48, 32, 49, 48, 32, 48, 32, 48, 32, 34, 34].toArray⟩ : ByteArray) = ⟨#[48, 32, 49, 48, 32, 48, 32, 48, 32, 34, 34]⟩ from rfl] at CB
 rw [show (⟨([] : List UInt8).toArray⟩ : ByteArray) = ⟨#[]⟩ from rfl] at CZ
 rw [show (⟨([116, 119, 111, 32, 48, 32, 49, 48, 32, 51, 54, 48, 48, 32, 48, 32, 88, 32, 47, 32, 48, 32, 49, 48, 32, 51, 54, 48, 48, 32, 48, 32, 88] : List UInt8).toArray⟩ : ByteArray) = ⟨#[116, 119, 111, 32, 48, 32, 49, 48, 32, 51, 54, 48, 48, 32, 48, 32, 88, 32, 47, 32, 48, 32, 49, 48, 32, 51, 54, 48, 48, 32, 48, 32, 88]⟩ from rfl] at CH
 rw [show (⟨([111, 110, 101, 32, 48, 32, 49, 48, 32, 51, 54, 48, 48, 32, 48, 32, 88] : List UInt8).toArray⟩ : ByteArray) = ⟨#[111, 110, 101, 32, 48, 32, 49, 48, 32, 51, 54, 48, 48, 32, 48, 32, 88]⟩ from rfl] at CI
 rw [show (⟨([] : List UInt8).toArray⟩ : ByteArray) = ⟨#[]⟩ from rfl] at CJ
 rw [show (⟨([110, 97, 109, 101, 115, 32, 65, 32, 34, 98, 32, 99, 34] : List UInt8).toArray⟩ : ByteArray) = ⟨#[110, 97, 109, 101, 115, 32, 65, 32, 34, 98, 32, 99, 34]⟩ from rfl] at CK
 rw [show (⟨([110, 97, 109, 101, 115] : List UInt8).toArray⟩ : ByteArray) = ⟨#[110, 97, 109, 101, 115]⟩ from rfl] at CL
 rw [show (⟨([48, 32, 49, 57, 55, 48, 45, 48, 49, 45, 48, 49, 84, 48, 48, 58, 48, 48, 58, 48, 48] : List UInt8).toArray⟩ : ByteArray) = ⟨#[48, 32, 49, 57, 55, 48, 45, 48, 49, 45, 48, 49, 84, 48, 48, 58, 48, 48, 58, 48, 48]⟩ from rfl] at CM
 rw [show (⟨([57, 50, 50, 51, 51, 55, 50, 48, 51, 54, 56, 53, 52, 55, 55, 53, 56, 48, 55] : List UInt8).toArray⟩ : ByteArray) = ⟨#[57, 50, 50, 51, 51, 55, 50, 48, 51, 54, 56, 53, 52, 55, 55, 53, 56, 48, 55]⟩ from rfl] at CN
 rw [show (⟨([101, 114, 114, 111, 114, 32, 49, 50, 32, 105, 110, 32, 108, 105, 110, 101, 32, 51] : List UInt8).toArray⟩ : ByteArray) = ⟨#[101, 114, 114, 111, 114, 32, 49, 50, 32, 105, 110, 32, 108, 105, 110, 101, 32, 51]⟩ from rfl] at CO
 rw [show (⟨([101, 114, 114, 111, 114, 32, 48] : List UInt8).toArray⟩ : ByteArray) = ⟨#[101, 114, 114, 111, 114, 32, 48]⟩ from rfl] at CP
 go_enter Tryz.func5, Tryz.ntmps5
 go_wp2_with fail
 refine (CA.out _ (var_keep gr0 TT.out)).mono ?_; rintro e w1 ⟨rfl, b1⟩
 have d1 : Below w.heap.size w w1 := below_step gr0 b1
 have B1 := Lib.hid d1
 have X1 : Bk5 w1 (w.heap.size) (.int .i64 0) (.int .i64 10) (.int .i64 3600) (.int .i64 0) (.string ⟨#[88]⟩) := by refine Bk5.of b1 (by simp <;> omega) (by intro j; simp [go_sem]) ?_ ?_ ?_ ?_ ?_ <;> simp [go_sem]
 clear b1 d1
 have tx := X1; obtain ⟨cX_b, cX_f, cX_0, cX_1, cX_2, cX_3, cX_4⟩ := tx
 go_wp2_with fail
 clear cX_b cX_f cX_0 cX_1 cX_2 cX_3 cX_4
 refine (CB.out _ (var_keep B1.out TT.out)).mono ?_; rintro e w2 ⟨rfl, b2⟩
 have d2 : Below w1.heap.size w1 w2 := below_step gr0 b2
 have B2 := Lib.hid (below_step B1.out d2)
 have X2 := X1.keep d2
 clear X1 b2 d2 B1
 have tx := X2; obtain ⟨cX_b, cX_f, cX_0, cX_1, cX_2, cX_3, cX_4⟩ := tx
 go_wp2_with fail
 clear cX_b cX_f cX_0 cX_1 cX_2 cX_3 cX_4
 refine (CZ.out _ (var_keep B2.out TT.out)).mono ?_; rintro e w3 ⟨rfl, b3⟩
 have d3 : Below w2.heap.size w2 w3 := below_step gr0 b3
 have B3 := Lib.hid (below_step B2.out d3)
 have X3 := X2.keep d3
 clear X2 b3 d3 B2
 have tx := X3; obtain ⟨cX_b, cX_f, cX_0, cX_1, cX_2, cX_3, cX_4⟩ := tx
 go_wp2_with fail
 clear cX_b cX_f cX_0 cX_1 cX_2 cX_3 cX_4
 refine (CC.out _ (var_keep B3.out VV.out)).mono ?_; rintro e w4 ⟨rfl, b4⟩
 have d4 : Below w3.heap.size w3 w4 := below_step gr0 b4
 have B4 := Lib.hid (below_step B3.out d4)
 have X4 := X3.keep d4
 clear X3 b4 d4 B3
 have tx := X4; obtain ⟨cX_b, cX_f, cX_0, cX_1, cX_2, cX_3, cX_4⟩ := tx
 go_wp2_with fail
 clear cX_b cX_f cX_0 cX_1 cX_2 cX_3 cX_4
 refine (CD.out _ (var_keep (below_step B4.out gr0) VV.out)).mono ?_; rintro e w5 ⟨rfl, b5⟩
 have d5 : Below w4.heap.size w4 w5 := below_step gr0 b5
 have B5 := Lib.hid (below_step B4.out d5)
 have X5 := X4.keep d5
 have aY := B4.out.size
 have nYX := Nat.ne_of_lt X4.hb
 have oYX := Nat.ne_of_gt X4.hb
 have Y5 : Bk5 w5 (w4.heap.size) (.int .i64 0) (.int .i64 10) (.int .i64 3600) (.int .i64 0) (.string ⟨#[88]⟩) := by refine Bk5.of b5 (by simp <;> omega) (by intro j; simp [go_sem]) ?_ ?_ ?_ ?_ ?_ <;> simp [go_sem]
 clear X4 b5 d5 B4
 have tx := X5; obtain ⟨cX_b, cX_f, cX_0, cX_1, cX_2, cX_3, cX_4⟩ := tx
 have tx := Y5; obtain ⟨cY_b, cY_f, cY_0, cY_1, cY_2, cY_3, cY_4⟩ := tx
 go_wp2_with fail
 clear cX_b cX_f cX_0 cX_1 cX_2 cX_3 cX_4 cY_b cY_f cY_0 cY_1 cY_2 cY_3 cY_4
 refine (CE.out _ (var_keep (below_step B5.out gr0) VV.out)).mono ?_; rintro e w6 ⟨rfl, b6⟩
 have d6 : Below w5.heap.size w5 w6 := below_step gr0 b6
 have B6 := Lib.hid (below_step B5.out d6)
 have X6 := X5.keep d6
 have Y6 := Y5.keep d6
 clear X5 Y5 b6 d6 B5
 have tx := X6; obtain ⟨cX_b, cX_f, cX_0, cX_1, cX_2, cX_3, cX_4⟩ := tx
 have tx := Y6; obtain ⟨cY_b, cY_f, cY_0, cY_1, cY_2, cY_3, cY_4⟩ := tx
 go_wp2_with fail
 clear cX_b cX_f cX_0 cX_1 cX_2 cX_3 cX_4 cY_b cY_f cY_0 cY_1 cY_2 cY_3 cY_4
 refine (CF.out _ (var_keep (below_step B6.out gr0) VV.out)).mono ?_; rintro e w7 ⟨rfl, b7⟩
 have d7 : Below w6.heap.size w6 w7 := below_step gr0 b7
 have B7 := Lib.hid (below_step B6.out d7)
 have X7 := X6.keep d7
 have Y7 := Y6.keep d7
 clear X6 Y6 b7 d7 B6
 have tx := X7; obtain ⟨cX_b, cX_f, cX_0, cX_1, cX_2, cX_3, cX_4⟩ := tx
 have tx := Y7; obtain ⟨cY_b, cY_f, cY_0, cY_1, cY_2, cY_3, cY_4⟩ := tx
 go_wp2_with fail
 clear cX_b cX_f cX_0 cX_1 cX_2 cX_3 cX_4 cY_b cY_f cY_0 cY_1 cY_2 cY_3 cY_4
 refine (CG.out _ (var_keep (below_step B7.out gr0) VV.out)).mono ?_; rintro e w8 ⟨rfl, b8⟩
 have d8 : Below w7.heap.size w7 w8 := below_step gr0 b8
 have B8 := Lib.hid (below_step B7.out d8)
 have X8 := X7.keep d8
 have Y8 := Y7.keep d8
 clear X7 Y7 b8 d8 B7
 have tx := X8; obtain ⟨cX_b, cX_f, cX_0, cX_1, cX_2, cX_3, cX_4⟩ := tx
 have tx := Y8; obtain ⟨cY_b, cY_f, cY_0, cY_1, cY_2, cY_3, cY_4⟩ := tx
 go_wp2_with fail
 clear cX_b cX_f cX_0 cX_1 cX_2 cX_3 cX_4 cY_b cY_f cY_0 cY_1 cY_2 cY_3 cY_4
 refine (CH.out _ (var_keep (below_step B8.out gr0) TT.out)).mono ?_; rintro e w9 ⟨rfl, b9⟩
 have d9 : Below w8.heap.size w8 w9 := below_step gr0 b9
 have B9 := Lib.hid (below_step B8.out d9)
 have X9 := X8.keep d9
 have Y9 := Y8.keep d9
 clear X8 Y8 b9 d9 B8
 have tx := X9; obtain ⟨cX_b, cX_f, cX_0, cX_1, cX_2, cX_3, cX_4⟩ := tx
 have tx := Y9; obtain ⟨cY_b, cY_f, cY_0, cY_1, cY_2, cY_3, cY_4⟩ := tx
 go_wp2_with fail
 clear cX_b cX_f cX_0 cX_1 cX_2 cX_3 cX_4 cY_b cY_f cY_0 cY_1 cY_2 cY_3 cY_4
 refine (CI.out _ (var_keep B9.out TT.out)).mono ?_; rintro e w10 ⟨rfl, b10⟩
 have d10 : Below w9.heap.size w9 w10 := below_step gr0 b10
 have B10 := Lib.hid (below_step B9.out d10)
 have X10 := X9.keep d10
 have Y10 := Y9.keep d10
 clear X9 Y9 b10 d10 B9
 have tx := X10; obtain ⟨cX_b, cX_f, cX_0, cX_1, cX_2, cX_3, cX_4⟩ := tx
 have tx := Y10; obtain ⟨cY_b, cY_f, cY_0, cY_1, cY_2, cY_3, cY_4⟩ := tx
 go_wp2_with fail
 clear cX_b cX_f cX_0 cX_1 cX_2 cX_3 cX_4 cY_b cY_f cY_0 cY_1 cY_2 cY_3 cY_4
 refine (CJ.out _ (var_keep B10.out TT.out)).mono ?_; rintro e w11 ⟨rfl, b11⟩
 have d11 : Below w10.heap.size w10 w11 := below_step gr0 b11
 have B11 := Lib.hid (below_step B10.out d11)
 have X11 := X10.keep d11
 have Y11 := Y10.keep d11
 clear X10 Y10 b11 d11 B10
 have tx := X11; obtain ⟨cX_b, cX_f, cX_0, cX_1, cX_2, cX_3, cX_4⟩ := tx
 have tx := Y11; obtain ⟨cY_b, cY_f, cY_0, cY_1, cY_2, cY_3, cY_4⟩ := tx
 go_wp2_with fail
 clear cX_b cX_f cX_0 cX_1 cX_2 cX_3 cX_4 cY_b cY_f cY_0 cY_1 cY_2 cY_3 cY_4
 refine (CK.out _ _ (StS.rowAt _ [⟨#[65]⟩, ⟨#[98, 32, 99]⟩] _ _)).mono ?_; rintro e w12 ⟨rfl, b12⟩
 have d12 : Below w11.heap.size w11 w12 := below_step gr0 b12
 have B12 := Lib.hid (below_step B11.out d12)
 have X12 := X11.keep d12
 have Y12 := Y11.keep d12
 clear X11 Y11 b12 d12 B11
 have tx := X12; obtain ⟨cX_b, cX_f, cX_0, cX_1, cX_2, cX_3, cX_4⟩ := tx
 have tx := Y12; obtain ⟨cY_b, cY_f, cY_0, cY_1, cY_2, cY_3, cY_4⟩ := tx
 go_wp2_with fail
 clear cX_b cX_f cX_0 cX_1 cX_2 cX_3 cX_4 cY_b cY_f cY_0 cY_1 cY_2 cY_3 cY_4
 refine (CL.out _ _ (Lst.nil _ _)).mono ?_; rintro e w13 ⟨rfl, b13⟩
 have d13 : Below w12.heap.size w12 w13 := below_step gr0 b13
 have B13 := Lib.hid (below_step B12.out d13)
 have X13 := X12.keep d13
 have Y13 := Y12.keep d13
 clear X12 Y12 b13 d13 B12
 have tx := X13; obtain ⟨cX_b, cX_f, cX_0, cX_1, cX_2, cX_3, cX_4⟩ := tx
 have tx := Y13; obtain ⟨cY_b, cY_f, cY_0, cY_1, cY_2, cY_3, cY_4⟩ := tx
 go_wp2_with fail
 clear cX_b cX_f cX_0 cX_1 cX_2 cX_3 cX_4 cY_b cY_f cY_0 cY_1 cY_2 cY_3 cY_4
 refine (CM.out _ (var_keep B13.out TT.out)).mono ?_; rintro e w14 ⟨rfl, b14⟩
 have d14 : Below w13.heap.size w13 w14 := below_step gr0 b14
 have B14 := Lib.hid (below_step B13.out d14)
 have X14 := X13.keep d14
 have Y14 := Y13.keep d14
 clear X13 Y13 b14 d14 B13
 have tx := X14; obtain ⟨cX_b, cX_f, cX_0, cX_1, cX_2, cX_3, cX_4⟩ := tx
 have tx := Y14; obtain ⟨cY_b, cY_f, cY_0, cY_1, cY_2, cY_3, cY_4⟩ := tx
 go_wp2_with fail
 clear cX_b cX_f cX_0 cX_1 cX_2 cX_3 cX_4 cY_b cY_f cY_0 cY_1 cY_2 cY_3 cY_4
 refine (CN.out _ (var_keep B14.out TT.out)).mono ?_; rintro e w15 ⟨rfl, b15⟩
 have d15 : Below w14.heap.size w14 w15 := below_step gr0 b15
 have B15 := Lib.hid (below_step B14.out d15)
 have X15 := X14.keep d15
 have Y15 := Y14.keep d15
 clear X14 Y14 b15 d15 B14
 have tx := X15; obtain ⟨cX_b, cX_f, cX_0, cX_1, cX_2, cX_3, cX_4⟩ := tx
 have tx := Y15; obtain ⟨cY_b, cY_f, cY_0, cY_1, cY_2, cY_3, cY_4⟩ := tx
 go_wp2_with fail
 clear cX_b cX_f cX_0 cX_1 cX_2 cX_3 cX_4 cY_b cY_f cY_0 cY_1 cY_2 cY_3 cY_4
 refine (CO.out _ (var_keep B15.out TT.out)).mono ?_; rintro e w16 ⟨rfl, b16⟩
 have d16 : Below w15.heap.size w15 w16 := below_step gr0 b16
 have B16 := Lib.hid (below_step B15.out d16)
 have X16 := X15.keep d16
 have Y16 := Y15.keep d16
 clear X15 Y15 b16 d16 B15
 have tx := X16; obtain ⟨cX_b, cX_f, cX_0, cX_1, cX_2, cX_3, cX_4⟩ := tx
 have tx := Y16; obtain ⟨cY_b, cY_f, cY_0, cY_1, cY_2, cY_3, cY_4⟩ := tx
 go_wp2_with fail
 clear cX_b cX_f cX_0 cX_1 cX_2 cX_3 cX_4 cY_b cY_f cY_0 cY_1 cY_2 cY_3 cY_4
 refine (CP.out _ (var_keep B16.out TT.out)).mono ?_; rintro e w17 ⟨rfl, b17⟩
 have d17 : Below w16.heap.size w16 w17 := below_step gr0 b17
 have B17 := Lib.hid (below_step B16.out d17)
 have X17 := X16.keep d17
 have Y17 := Y16.keep d17
 clear X16 Y16 b17 d17 B16
 have tx := X17; obtain ⟨cX_b, cX_f, cX_0, cX_1, cX_2, cX_3, cX_4⟩ := tx
 have tx := Y17; obtain ⟨cY_b, cY_f, cY_0, cY_1, cY_2, cY_3, cY_4⟩ := tx
 go_wp2_with fail
 clear cX_b cX_f cX_0 cX_1 cX_2 cX_3 cX_4 cY_b cY_f cY_0 cY_1 cY_2 cY_3 cY_4
 go_ret
 exact ⟨rfl, (grB B17)⟩
end Go.Proofs.YtlelpeocbgjmhaaGreatDoor
