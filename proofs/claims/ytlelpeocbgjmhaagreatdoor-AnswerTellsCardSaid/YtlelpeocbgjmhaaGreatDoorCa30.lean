/- Joined: AnL. -/
import Derived.Test.YtlelpeocbgjmhaaGreatDoorCa12
import Derived.Test.YtlelpeocbgjmhaaGreatDoorCa19
import Derived.Test.YtlelpeocbgjmhaaGreatDoorCa28
import Derived.Test.YtlelpeocbgjmhaaGreatDoorCa29
/- Answers: the life. -/
set_option linter.unusedVariables false
set_option linter.unusedSimpArgs false
namespace Go.Proofs.YtlelpeocbgjmhaaGreatDoor
open Go.RowKit Go.Sort
theorem an_vA : An.inf (0, 10, 3600, 0, ⟨#[88]⟩) = ([48, 32, 49, 48, 32, 51, 54, 48, 48, 32, 48, 32, 88], 0) := by decide +kernel
theorem an_vB : An.inf (0, 10, 0, 0, ⟨#[]⟩) = ([48, 32, 49, 48, 32, 48, 32, 48, 32, 34, 34], 0) := by decide +kernel
theorem an_vZ : An.inf (0, 0, 0, 0, ⟨#[97, 34]⟩) = ([], 8) := by decide +kernel
theorem an_vC : An.rdi [48, 32, 49, 48, 32, 51, 54, 48, 48, 32, 48, 32, 88] = ((0, 10, 3600, 0, ⟨#[88]⟩), 0) := by decide +kernel
theorem an_vD : An.rdi [48, 32, 49, 48, 32, 51, 54, 48, 48, 32, 48] = ((0, 0, 0, 0, ⟨#[]⟩), 5) := by decide +kernel
theorem an_vE : An.rdi [48, 32, 49, 48, 32, 51, 54, 48, 48, 32, 48, 32, 88, 32, 89] = ((0, 0, 0, 0, ⟨#[]⟩), 6) := by decide +kernel
theorem an_vF : An.rdi [48, 32, 120, 32, 51, 54, 48, 48, 32, 48, 32, 88] = ((0, 0, 0, 0, ⟨#[]⟩), 2) := by decide +kernel
theorem an_vG : An.rdi [34] = ((0, 0, 0, 0, ⟨#[]⟩), 8) := by decide +kernel
theorem an_vH : An.loc 3 (0, 10, 3600, 0, ⟨#[88]⟩) (0, 10, 3600, 0, ⟨#[88]⟩) = ([116, 119, 111, 32, 48, 32, 49, 48, 32, 51, 54, 48, 48, 32, 48, 32, 88, 32, 47, 32, 48, 32, 49, 48, 32, 51, 54, 48, 48, 32, 48, 32, 88], 0) := by decide +kernel
theorem an_vI : An.loc 1 (0, 10, 3600, 0, ⟨#[88]⟩) (0, 0, 0, 0, ⟨#[34]⟩) = ([111, 110, 101, 32, 48, 32, 49, 48, 32, 51, 54, 48, 48, 32, 48, 32, 88], 0) := by decide +kernel
theorem an_vJ : An.loc 0 (0, 0, 0, 0, ⟨#[]⟩) (0, 0, 0, 0, ⟨#[]⟩) = ([], 4) := by decide +kernel
theorem an_vK : An.nms [[65], [98, 32, 99]] = ([110, 97, 109, 101, 115, 32, 65, 32, 34, 98, 32, 99, 34], 0) := by decide +kernel
theorem an_vL : An.nms [] = ([110, 97, 109, 101, 115], 0) := by decide +kernel
theorem an_vM : An.sec 0 = [48, 32, 49, 57, 55, 48, 45, 48, 49, 45, 48, 49, 84, 48, 48, 58, 48, 48, 58, 48, 48] := by decide +kernel
theorem an_vN : An.sec 9223372036854775807 = [57, 50, 50, 51, 51, 55, 50, 48, 51, 54, 56, 53, 52, 55, 55, 53, 56, 48, 55] := by decide +kernel
theorem an_vO : An.flt 3 12 = [101, 114, 114, 111, 114, 32, 49, 50, 32, 105, 110, 32, 108, 105, 110, 101, 32, 51] := by decide +kernel
theorem an_vP : An.flt 0 0 = [101, 114, 114, 111, 114, 32, 48] := by decide +kernel
set_option maxHeartbeats 8000000 in
set_option maxRecDepth 100000 in
theorem lives45 (w : World) (T : Lib.TabIs Tryz.prog w "internal/strconv.uint64pow10" .u64 Lib.pow10Tab) (tp : TypeId) (pp : Value) (V : w.var? Tryz.prog "strconv.ErrRange" = some #[.iface tp pp]) :
    Calls Tryz.prog 5 #[] w fun e w' => e = .returned (.bool true) ∧ Below w.heap.size w w' := by
  have TT := Lib.hid T
  have VV := Lib.hid V
  clear T V
  have CA := Lib.hid (fun W T => ainfo_any 0 10 3600 0 ⟨#[88]⟩ W (by unfold An.bd; omega) (by unfold An.bd; omega) (by unfold An.bd; omega) (by unfold An.bd; omega) (by decide) T)
  rw [an_vA] at CA
  have CB := Lib.hid (fun W T => ainfo_any 0 10 0 0 ⟨#[]⟩ W (by unfold An.bd; omega) (by unfold An.bd; omega) (by unfold An.bd; omega) (by unfold An.bd; omega) (by decide) T)
  rw [an_vB] at CB
  have CZ := Lib.hid (fun W T => ainfo_any 0 0 0 0 ⟨#[97, 34]⟩ W (by unfold An.bd; omega) (by unfold An.bd; omega) (by unfold An.bd; omega) (by unfold An.bd; omega) (by decide) T)
  rw [an_vZ] at CZ
  have CC := Lib.hid (fun W V => aread_any ⟨#[48, 32, 49, 48, 32, 51, 54, 48, 48, 32, 48, 32, 88]⟩ W (by decide) tp pp V)
  rw [show (⟨#[48, 32, 49, 48, 32, 51, 54, 48, 48, 32, 48, 32, 88]⟩ : ByteArray).data.toList = [48, 32, 49, 48, 32, 51, 54, 48, 48, 32, 48, 32, 88] from rfl, an_vC] at CC
  have CD := Lib.hid (fun W V => aread_any ⟨#[48, 32, 49, 48, 32, 51, 54, 48, 48, 32, 48]⟩ W (by decide) tp pp V)
  rw [show (⟨#[48, 32, 49, 48, 32, 51, 54, 48, 48, 32, 48]⟩ : ByteArray).data.toList = [48, 32, 49, 48, 32, 51, 54, 48, 48, 32, 48] from rfl, an_vD] at CD
  have CE := Lib.hid (fun W V => aread_any ⟨#[48, 32, 49, 48, 32, 51, 54, 48, 48, 32, 48, 32, 88, 32, 89]⟩ W (by decide) tp pp V)
  rw [show (⟨#[48, 32, 49, 48, 32, 51, 54, 48, 48, 32, 48, 32, 88, 32, 89]⟩ : ByteArray).data.toList = [48, 32, 49, 48, 32, 51, 54, 48, 48, 32, 48, 32, 88, 32, 89] from rfl, an_vE] at CE
  have CF := Lib.hid (fun W V => aread_any ⟨#[48, 32, 120, 32, 51, 54, 48, 48, 32, 48, 32, 88]⟩ W (by decide) tp pp V)
  rw [show (⟨#[48, 32, 120, 32, 51, 54, 48, 48, 32, 48, 32, 88]⟩ : ByteArray).data.toList = [48, 32, 120, 32, 51, 54, 48, 48, 32, 48, 32, 88] from rfl, an_vF] at CF
  have CG := Lib.hid (fun W V => aread_any ⟨#[34]⟩ W (by decide) tp pp V)
  rw [show (⟨#[34]⟩ : ByteArray).data.toList = [34] from rfl, an_vG] at CG
  have CH := Lib.hid (fun W T => alocal_any 3 0 10 3600 0 ⟨#[88]⟩ 0 10 3600 0 ⟨#[88]⟩ W (by unfold An.bd; omega) (by unfold An.bd; omega) (by unfold An.bd; omega) (by unfold An.bd; omega) (by decide) (by unfold An.bd; omega) (by unfold An.bd; omega) (by unfold An.bd; omega) (by unfold An.bd; omega) (by decide) T)
  rw [an_vH] at CH
  have CI := Lib.hid (fun W T => alocal_any 1 0 10 3600 0 ⟨#[88]⟩ 0 0 0 0 ⟨#[34]⟩ W (by unfold An.bd; omega) (by unfold An.bd; omega) (by unfold An.bd; omega) (by unfold An.bd; omega) (by decide) (by unfold An.bd; omega) (by unfold An.bd; omega) (by unfold An.bd; omega) (by unfold An.bd; omega) (by decide) T)
  rw [an_vI] at CI
  have CJ := Lib.hid (fun W T => alocal_any 0 0 0 0 0 ⟨#[]⟩ 0 0 0 0 ⟨#[]⟩ W (by unfold An.bd; omega) (by unfold An.bd; omega) (by unfold An.bd; omega) (by unfold An.bd; omega) (by decide) (by unfold An.bd; omega) (by unfold An.bd; omega) (by unfold An.bd; omega) (by unfold An.bd; omega) (by decide) T)
  rw [an_vJ] at CJ
  have CK := Lib.hid (fun v W S => anames_any v [⟨#[65]⟩, ⟨#[98, 32, 99]⟩] W S (by decide) (by decide))
  rw [show Fd.bl [⟨#[65]⟩, ⟨#[98, 32, 99]⟩] = [[65], [98, 32, 99]] from rfl, an_vK] at CK
  have CL := Lib.hid (fun v W S => anames_any v [] W S (by decide) (by decide))
  rw [show Fd.bl [] = [] from rfl, an_vL] at CL
  have CM := Lib.hid (fun W T => asecond_txt 0 W (by unfold An.bd; omega) T)
  rw [an_vM] at CM
  have CN := Lib.hid (fun W T => asecond_txt 9223372036854775807 W (by unfold An.bd; omega) T)
  rw [an_vN] at CN
  have CO := Lib.hid (fun W T => afault_any 3 12 W (by unfold An.bd; omega) (by unfold An.bd; omega) T)
  rw [an_vO] at CO
  have CP := Lib.hid (fun W T => afault_any 0 0 W (by unfold An.bd; omega) (by unfold An.bd; omega) T)
  rw [an_vP] at CP
  rw [show (⟨[48, 32, 49, 48, 32, 51, 54, 48, 48, 32, 48, 32, 88].toArray⟩ : ByteArray) = ⟨#[48, 32, 49, 48, 32, 51, 54, 48, 48, 32, 48, 32, 88]⟩ from rfl] at CA
  rw [show (⟨[48, 32, 49, 48, 32, 48, 32, 48, 32, 34, 34].toArray⟩ : ByteArray) = ⟨#[48, 32, 49, 48, 32, 48, 32, 48, 32, 34, 34]⟩ from rfl] at CB
  rw [show (⟨([] : List UInt8).toArray⟩ : ByteArray) = ⟨#[]⟩ from rfl] at CZ
  rw [show (⟨([116, 119, 111, 32, 48, 32, 49, 48, 32, 51, 54, 48, 48, 32, 48, 32, 88, 32, 47, 32, 48, 32, 49, 48, 32, 51, 54, 48, 48, 32, 48, 32, 88] : List UInt8).toArray⟩ : ByteArray) = ⟨#[116, 119, 111, 32, 48, 32, 49, 48, 32, 51, 54, 48, 48, 32, 48, 32, 88, 32, 47, 32, 48, 32, 49, 48, 32, 51, 54, 48, 48, 32, 48, 32, 88]⟩ from rfl] at CH
  rw [show (⟨([111, 110, 101, 32, 48, 32, 49, 48, 32, 51, 54, 48, 48, 32, 48, 32, 88] : List UInt8).toArray⟩ : ByteArray) = ⟨#[111, 110, 101, 32, 48, 32, 49, 48, 32, 51, 54, 48, 48, 32, 48, 32, 88]⟩ from rfl] at CI
  rw [show (⟨([] : List UInt8).toArray⟩ : ByteArray) = ⟨#[]⟩ from rfl] at CJ
  rw [show (⟨([110, 97, 109, 101, 115, 32, 65, 32, 34, 98, 32, 99, 34] : List UInt8).toArray⟩ : ByteArray) = ⟨#[110, 97, 109, 101, 115, 32, 65, 32, 34, 98, 32, 99, 34]⟩ from rfl] at CK
  rw [show (⟨([110, 97, 109, 101, 115] : List UInt8).toArray⟩ : ByteArray) = ⟨#[110, 97, 109, 101, 115]⟩ from rfl] at CL
  rw [show (⟨([48, 32, 49, 57, 55, 48, 45, 48, 49, 45, 48, 49, 84, 48, 48, 58, 48, 48, 58, 48, 48] : List UInt8).toArray⟩ : ByteArray) = ⟨#[48, 32, 49, 57, 55, 48, 45, 48, 49, 45, 48, 49, 84, 48, 48, 58, 48, 48, 58, 48, 48]⟩ from rfl] at CM
  rw [show (⟨([57, 50, 50, 51, 51, 55, 50, 48, 51, 54, 56, 53, 52, 55, 55, 53, 56, 48, 55] : List UInt8).toArray⟩ : ByteArray) = ⟨#[57, 50, 50, 51, 51, 55, 50, 48, 51, 54, 56, 53, 52, 55, 55, 53, 56, 48, 55]⟩ from rfl] at CN
  rw [show (⟨([101, 114, 114, 111, 114, 32, 49, 50, 32, 105, 110, 32, 108, 105, 110, 101, 32, 51] : List UInt8).toArray⟩ : ByteArray) = ⟨#[101, 114, 114, 111, 114, 32, 49, 50, 32, 105, 110, 32, 108, 105, 110, 101, 32, 51]⟩ from rfl] at CO
  rw [show (⟨([101, 114, 114, 111, 114, 32, 48] : List UInt8).toArray⟩ : ByteArray) = ⟨#[101, 114, 114, 111, 114, 32, 48]⟩ from rfl] at CP
  go_enter Tryz.func5, Tryz.ntmps5
  go_wp2_with fail
  refine (CA.out _ (var_keep (by repeat (first | exact Below.refl _ _ | refine _root_.Go.below_drewN ?_ _ | refine Below.drew ?_ | refine Below.setCell ?_ (by first | (simp; done) | (simp; omega) | omega) _ | refine Below.alloc ?_ (by first | (simp; done) | (simp; omega) | omega) _)) TT.out)).mono ?_; rintro e w1 ⟨rfl, b1⟩
  have d1 : Below w.heap.size w w1 := below_step (by repeat (first | exact Below.refl _ _ | refine _root_.Go.below_drewN ?_ _ | refine Below.drew ?_ | refine Below.setCell ?_ (by first | (simp; done) | (simp; omega) | omega) _ | refine Below.alloc ?_ (by first | (simp; done) | (simp; omega) | omega) _)) b1
  have B1 := Lib.hid d1
  have X1 : Bk5 w1 (w.heap.size) (.int .i64 0) (.int .i64 10) (.int .i64 3600) (.int .i64 0) (.string ⟨#[88]⟩) := Bk5.of b1 (by simp <;> omega) (by intro j; simp [go_sem]) (by simp [go_sem]) (by simp [go_sem]) (by simp [go_sem]) (by simp [go_sem]) (by simp [go_sem])
  clear b1 d1
  have cX_b := X1.hb
  have cX_f := X1.fz
  have cX_0 := X1.k0
  have cX_1 := X1.k1
  have cX_2 := X1.k2
  have cX_3 := X1.k3
  have cX_4 := X1.k4
  go_wp2_with fail
  clear cX_b cX_f cX_0 cX_1 cX_2 cX_3 cX_4
  refine (CB.out _ (var_keep B1.out TT.out)).mono ?_; rintro e w2 ⟨rfl, b2⟩
  have d2 : Below w1.heap.size w1 w2 := below_step (by repeat (first | exact Below.refl _ _ | refine _root_.Go.below_drewN ?_ _ | refine Below.drew ?_ | refine Below.setCell ?_ (by first | (simp; done) | (simp; omega) | omega) _ | refine Below.alloc ?_ (by first | (simp; done) | (simp; omega) | omega) _)) b2
  have B2 := Lib.hid (below_step B1.out d2)
  have X2 := X1.keep d2
  clear X1 b2 d2 B1
  have cX_b := X2.hb
  have cX_f := X2.fz
  have cX_0 := X2.k0
  have cX_1 := X2.k1
  have cX_2 := X2.k2
  have cX_3 := X2.k3
  have cX_4 := X2.k4
  go_wp2_with fail
  clear cX_b cX_f cX_0 cX_1 cX_2 cX_3 cX_4
  refine (CZ.out _ (var_keep B2.out TT.out)).mono ?_; rintro e w3 ⟨rfl, b3⟩
  have d3 : Below w2.heap.size w2 w3 := below_step (by repeat (first | exact Below.refl _ _ | refine _root_.Go.below_drewN ?_ _ | refine Below.drew ?_ | refine Below.setCell ?_ (by first | (simp; done) | (simp; omega) | omega) _ | refine Below.alloc ?_ (by first | (simp; done) | (simp; omega) | omega) _)) b3
  have B3 := Lib.hid (below_step B2.out d3)
  have X3 := X2.keep d3
  clear X2 b3 d3 B2
  have cX_b := X3.hb
  have cX_f := X3.fz
  have cX_0 := X3.k0
  have cX_1 := X3.k1
  have cX_2 := X3.k2
  have cX_3 := X3.k3
  have cX_4 := X3.k4
  go_wp2_with fail
  clear cX_b cX_f cX_0 cX_1 cX_2 cX_3 cX_4
  refine (CC.out _ (var_keep B3.out VV.out)).mono ?_; rintro e w4 ⟨rfl, b4⟩
  have d4 : Below w3.heap.size w3 w4 := below_step (by repeat (first | exact Below.refl _ _ | refine _root_.Go.below_drewN ?_ _ | refine Below.drew ?_ | refine Below.setCell ?_ (by first | (simp; done) | (simp; omega) | omega) _ | refine Below.alloc ?_ (by first | (simp; done) | (simp; omega) | omega) _)) b4
  have B4 := Lib.hid (below_step B3.out d4)
  have X4 := X3.keep d4
  clear X3 b4 d4 B3
  have cX_b := X4.hb
  have cX_f := X4.fz
  have cX_0 := X4.k0
  have cX_1 := X4.k1
  have cX_2 := X4.k2
  have cX_3 := X4.k3
  have cX_4 := X4.k4
  go_wp2_with fail
  clear cX_b cX_f cX_0 cX_1 cX_2 cX_3 cX_4
  refine (CD.out _ (var_keep (below_step B4.out (by repeat (first | exact Below.refl _ _ | refine _root_.Go.below_drewN ?_ _ | refine Below.drew ?_ | refine Below.setCell ?_ (by first | (simp; done) | (simp; omega) | omega) _ | refine Below.alloc ?_ (by first | (simp; done) | (simp; omega) | omega) _))) VV.out)).mono ?_; rintro e w5 ⟨rfl, b5⟩
  have d5 : Below w4.heap.size w4 w5 := below_step (by repeat (first | exact Below.refl _ _ | refine _root_.Go.below_drewN ?_ _ | refine Below.drew ?_ | refine Below.setCell ?_ (by first | (simp; done) | (simp; omega) | omega) _ | refine Below.alloc ?_ (by first | (simp; done) | (simp; omega) | omega) _)) b5
  have B5 := Lib.hid (below_step B4.out d5)
  have X5 := X4.keep d5
  have aY := B4.out.size
  have nYX := Nat.ne_of_lt X4.hb
  have oYX := Nat.ne_of_gt X4.hb
  have Y5 : Bk5 w5 (w4.heap.size) (.int .i64 0) (.int .i64 10) (.int .i64 3600) (.int .i64 0) (.string ⟨#[88]⟩) := Bk5.of b5 (by simp <;> omega) (by intro j; simp [go_sem]) (by simp [go_sem]) (by simp [go_sem]) (by simp [go_sem]) (by simp [go_sem]) (by simp [go_sem])
  clear X4 b5 d5 B4
  have cX_b := X5.hb
  have cX_f := X5.fz
  have cX_0 := X5.k0
  have cX_1 := X5.k1
  have cX_2 := X5.k2
  have cX_3 := X5.k3
  have cX_4 := X5.k4
  have cY_b := Y5.hb
  have cY_f := Y5.fz
  have cY_0 := Y5.k0
  have cY_1 := Y5.k1
  have cY_2 := Y5.k2
  have cY_3 := Y5.k3
  have cY_4 := Y5.k4
  go_wp2_with fail
  clear cX_b cX_f cX_0 cX_1 cX_2 cX_3 cX_4 cY_b cY_f cY_0 cY_1 cY_2 cY_3 cY_4
  refine (CE.out _ (var_keep (below_step B5.out (by repeat (first | exact Below.refl _ _ | refine _root_.Go.below_drewN ?_ _ | refine Below.drew ?_ | refine Below.setCell ?_ (by first | (simp; done) | (simp; omega) | omega) _ | refine Below.alloc ?_ (by first | (simp; done) | (simp; omega) | omega) _))) VV.out)).mono ?_; rintro e w6 ⟨rfl, b6⟩
  have d6 : Below w5.heap.size w5 w6 := below_step (by repeat (first | exact Below.refl _ _ | refine _root_.Go.below_drewN ?_ _ | refine Below.drew ?_ | refine Below.setCell ?_ (by first | (simp; done) | (simp; omega) | omega) _ | refine Below.alloc ?_ (by first | (simp; done) | (simp; omega) | omega) _)) b6
  have B6 := Lib.hid (below_step B5.out d6)
  have X6 := X5.keep d6
  have Y6 := Y5.keep d6
  clear X5 Y5 b6 d6 B5
  have cX_b := X6.hb
  have cX_f := X6.fz
  have cX_0 := X6.k0
  have cX_1 := X6.k1
  have cX_2 := X6.k2
  have cX_3 := X6.k3
  have cX_4 := X6.k4
  have cY_b := Y6.hb
  have cY_f := Y6.fz
  have cY_0 := Y6.k0
  have cY_1 := Y6.k1
  have cY_2 := Y6.k2
  have cY_3 := Y6.k3
  have cY_4 := Y6.k4
  go_wp2_with fail
  clear cX_b cX_f cX_0 cX_1 cX_2 cX_3 cX_4 cY_b cY_f cY_0 cY_1 cY_2 cY_3 cY_4
  refine (CF.out _ (var_keep (below_step B6.out (by repeat (first | exact Below.refl _ _ | refine _root_.Go.below_drewN ?_ _ | refine Below.drew ?_ | refine Below.setCell ?_ (by first | (simp; done) | (simp; omega) | omega) _ | refine Below.alloc ?_ (by first | (simp; done) | (simp; omega) | omega) _))) VV.out)).mono ?_; rintro e w7 ⟨rfl, b7⟩
  have d7 : Below w6.heap.size w6 w7 := below_step (by repeat (first | exact Below.refl _ _ | refine _root_.Go.below_drewN ?_ _ | refine Below.drew ?_ | refine Below.setCell ?_ (by first | (simp; done) | (simp; omega) | omega) _ | refine Below.alloc ?_ (by first | (simp; done) | (simp; omega) | omega) _)) b7
  have B7 := Lib.hid (below_step B6.out d7)
  have X7 := X6.keep d7
  have Y7 := Y6.keep d7
  clear X6 Y6 b7 d7 B6
  have cX_b := X7.hb
  have cX_f := X7.fz
  have cX_0 := X7.k0
  have cX_1 := X7.k1
  have cX_2 := X7.k2
  have cX_3 := X7.k3
  have cX_4 := X7.k4
  have cY_b := Y7.hb
  have cY_f := Y7.fz
  have cY_0 := Y7.k0
  have cY_1 := Y7.k1
  have cY_2 := Y7.k2
  have cY_3 := Y7.k3
  have cY_4 := Y7.k4
  go_wp2_with fail
  clear cX_b cX_f cX_0 cX_1 cX_2 cX_3 cX_4 cY_b cY_f cY_0 cY_1 cY_2 cY_3 cY_4
  refine (CG.out _ (var_keep (below_step B7.out (by repeat (first | exact Below.refl _ _ | refine _root_.Go.below_drewN ?_ _ | refine Below.drew ?_ | refine Below.setCell ?_ (by first | (simp; done) | (simp; omega) | omega) _ | refine Below.alloc ?_ (by first | (simp; done) | (simp; omega) | omega) _))) VV.out)).mono ?_; rintro e w8 ⟨rfl, b8⟩
  have d8 : Below w7.heap.size w7 w8 := below_step (by repeat (first | exact Below.refl _ _ | refine _root_.Go.below_drewN ?_ _ | refine Below.drew ?_ | refine Below.setCell ?_ (by first | (simp; done) | (simp; omega) | omega) _ | refine Below.alloc ?_ (by first | (simp; done) | (simp; omega) | omega) _)) b8
  have B8 := Lib.hid (below_step B7.out d8)
  have X8 := X7.keep d8
  have Y8 := Y7.keep d8
  clear X7 Y7 b8 d8 B7
  have cX_b := X8.hb
  have cX_f := X8.fz
  have cX_0 := X8.k0
  have cX_1 := X8.k1
  have cX_2 := X8.k2
  have cX_3 := X8.k3
  have cX_4 := X8.k4
  have cY_b := Y8.hb
  have cY_f := Y8.fz
  have cY_0 := Y8.k0
  have cY_1 := Y8.k1
  have cY_2 := Y8.k2
  have cY_3 := Y8.k3
  have cY_4 := Y8.k4
  go_wp2_with fail
  clear cX_b cX_f cX_0 cX_1 cX_2 cX_3 cX_4 cY_b cY_f cY_0 cY_1 cY_2 cY_3 cY_4
  refine (CH.out _ (var_keep (below_step B8.out (by repeat (first | exact Below.refl _ _ | refine _root_.Go.below_drewN ?_ _ | refine Below.drew ?_ | refine Below.setCell ?_ (by first | (simp; done) | (simp; omega) | omega) _ | refine Below.alloc ?_ (by first | (simp; done) | (simp; omega) | omega) _))) TT.out)).mono ?_; rintro e w9 ⟨rfl, b9⟩
  have d9 : Below w8.heap.size w8 w9 := below_step (by repeat (first | exact Below.refl _ _ | refine _root_.Go.below_drewN ?_ _ | refine Below.drew ?_ | refine Below.setCell ?_ (by first | (simp; done) | (simp; omega) | omega) _ | refine Below.alloc ?_ (by first | (simp; done) | (simp; omega) | omega) _)) b9
  have B9 := Lib.hid (below_step B8.out d9)
  have X9 := X8.keep d9
  have Y9 := Y8.keep d9
  clear X8 Y8 b9 d9 B8
  have cX_b := X9.hb
  have cX_f := X9.fz
  have cX_0 := X9.k0
  have cX_1 := X9.k1
  have cX_2 := X9.k2
  have cX_3 := X9.k3
  have cX_4 := X9.k4
  have cY_b := Y9.hb
  have cY_f := Y9.fz
  have cY_0 := Y9.k0
  have cY_1 := Y9.k1
  have cY_2 := Y9.k2
  have cY_3 := Y9.k3
  have cY_4 := Y9.k4
  go_wp2_with fail
  clear cX_b cX_f cX_0 cX_1 cX_2 cX_3 cX_4 cY_b cY_f cY_0 cY_1 cY_2 cY_3 cY_4
  refine (CI.out _ (var_keep B9.out TT.out)).mono ?_; rintro e w10 ⟨rfl, b10⟩
  have d10 : Below w9.heap.size w9 w10 := below_step (by repeat (first | exact Below.refl _ _ | refine _root_.Go.below_drewN ?_ _ | refine Below.drew ?_ | refine Below.setCell ?_ (by first | (simp; done) | (simp; omega) | omega) _ | refine Below.alloc ?_ (by first | (simp; done) | (simp; omega) | omega) _)) b10
  have B10 := Lib.hid (below_step B9.out d10)
  have X10 := X9.keep d10
  have Y10 := Y9.keep d10
  clear X9 Y9 b10 d10 B9
  have cX_b := X10.hb
  have cX_f := X10.fz
  have cX_0 := X10.k0
  have cX_1 := X10.k1
  have cX_2 := X10.k2
  have cX_3 := X10.k3
  have cX_4 := X10.k4
  have cY_b := Y10.hb
  have cY_f := Y10.fz
  have cY_0 := Y10.k0
  have cY_1 := Y10.k1
  have cY_2 := Y10.k2
  have cY_3 := Y10.k3
  have cY_4 := Y10.k4
  go_wp2_with fail
  clear cX_b cX_f cX_0 cX_1 cX_2 cX_3 cX_4 cY_b cY_f cY_0 cY_1 cY_2 cY_3 cY_4
  refine (CJ.out _ (var_keep B10.out TT.out)).mono ?_; rintro e w11 ⟨rfl, b11⟩
  have d11 : Below w10.heap.size w10 w11 := below_step (by repeat (first | exact Below.refl _ _ | refine _root_.Go.below_drewN ?_ _ | refine Below.drew ?_ | refine Below.setCell ?_ (by first | (simp; done) | (simp; omega) | omega) _ | refine Below.alloc ?_ (by first | (simp; done) | (simp; omega) | omega) _)) b11
  have B11 := Lib.hid (below_step B10.out d11)
  have X11 := X10.keep d11
  have Y11 := Y10.keep d11
  clear X10 Y10 b11 d11 B10
  have cX_b := X11.hb
  have cX_f := X11.fz
  have cX_0 := X11.k0
  have cX_1 := X11.k1
  have cX_2 := X11.k2
  have cX_3 := X11.k3
  have cX_4 := X11.k4
  have cY_b := Y11.hb
  have cY_f := Y11.fz
  have cY_0 := Y11.k0
  have cY_1 := Y11.k1
  have cY_2 := Y11.k2
  have cY_3 := Y11.k3
  have cY_4 := Y11.k4
  go_wp2_with fail
  clear cX_b cX_f cX_0 cX_1 cX_2 cX_3 cX_4 cY_b cY_f cY_0 cY_1 cY_2 cY_3 cY_4
  refine (CK.out _ _ (StS.rowAt _ [⟨#[65]⟩, ⟨#[98, 32, 99]⟩] _ _)).mono ?_; rintro e w12 ⟨rfl, b12⟩
  have d12 : Below w11.heap.size w11 w12 := below_step (by repeat (first | exact Below.refl _ _ | refine _root_.Go.below_drewN ?_ _ | refine Below.drew ?_ | refine Below.setCell ?_ (by first | (simp; done) | (simp; omega) | omega) _ | refine Below.alloc ?_ (by first | (simp; done) | (simp; omega) | omega) _)) b12
  have B12 := Lib.hid (below_step B11.out d12)
  have X12 := X11.keep d12
  have Y12 := Y11.keep d12
  clear X11 Y11 b12 d12 B11
  have cX_b := X12.hb
  have cX_f := X12.fz
  have cX_0 := X12.k0
  have cX_1 := X12.k1
  have cX_2 := X12.k2
  have cX_3 := X12.k3
  have cX_4 := X12.k4
  have cY_b := Y12.hb
  have cY_f := Y12.fz
  have cY_0 := Y12.k0
  have cY_1 := Y12.k1
  have cY_2 := Y12.k2
  have cY_3 := Y12.k3
  have cY_4 := Y12.k4
  go_wp2_with fail
  clear cX_b cX_f cX_0 cX_1 cX_2 cX_3 cX_4 cY_b cY_f cY_0 cY_1 cY_2 cY_3 cY_4
  refine (CL.out _ _ (Lst.nil _ _)).mono ?_; rintro e w13 ⟨rfl, b13⟩
  have d13 : Below w12.heap.size w12 w13 := below_step (by repeat (first | exact Below.refl _ _ | refine _root_.Go.below_drewN ?_ _ | refine Below.drew ?_ | refine Below.setCell ?_ (by first | (simp; done) | (simp; omega) | omega) _ | refine Below.alloc ?_ (by first | (simp; done) | (simp; omega) | omega) _)) b13
  have B13 := Lib.hid (below_step B12.out d13)
  have X13 := X12.keep d13
  have Y13 := Y12.keep d13
  clear X12 Y12 b13 d13 B12
  have cX_b := X13.hb
  have cX_f := X13.fz
  have cX_0 := X13.k0
  have cX_1 := X13.k1
  have cX_2 := X13.k2
  have cX_3 := X13.k3
  have cX_4 := X13.k4
  have cY_b := Y13.hb
  have cY_f := Y13.fz
  have cY_0 := Y13.k0
  have cY_1 := Y13.k1
  have cY_2 := Y13.k2
  have cY_3 := Y13.k3
  have cY_4 := Y13.k4
  go_wp2_with fail
  clear cX_b cX_f cX_0 cX_1 cX_2 cX_3 cX_4 cY_b cY_f cY_0 cY_1 cY_2 cY_3 cY_4
  refine (CM.out _ (var_keep B13.out TT.out)).mono ?_; rintro e w14 ⟨rfl, b14⟩
  have d14 : Below w13.heap.size w13 w14 := below_step (by repeat (first | exact Below.refl _ _ | refine _root_.Go.below_drewN ?_ _ | refine Below.drew ?_ | refine Below.setCell ?_ (by first | (simp; done) | (simp; omega) | omega) _ | refine Below.alloc ?_ (by first | (simp; done) | (simp; omega) | omega) _)) b14
  have B14 := Lib.hid (below_step B13.out d14)
  have X14 := X13.keep d14
  have Y14 := Y13.keep d14
  clear X13 Y13 b14 d14 B13
  have cX_b := X14.hb
  have cX_f := X14.fz
  have cX_0 := X14.k0
  have cX_1 := X14.k1
  have cX_2 := X14.k2
  have cX_3 := X14.k3
  have cX_4 := X14.k4
  have cY_b := Y14.hb
  have cY_f := Y14.fz
  have cY_0 := Y14.k0
  have cY_1 := Y14.k1
  have cY_2 := Y14.k2
  have cY_3 := Y14.k3
  have cY_4 := Y14.k4
  go_wp2_with fail
  clear cX_b cX_f cX_0 cX_1 cX_2 cX_3 cX_4 cY_b cY_f cY_0 cY_1 cY_2 cY_3 cY_4
  refine (CN.out _ (var_keep B14.out TT.out)).mono ?_; rintro e w15 ⟨rfl, b15⟩
  have d15 : Below w14.heap.size w14 w15 := below_step (by repeat (first | exact Below.refl _ _ | refine _root_.Go.below_drewN ?_ _ | refine Below.drew ?_ | refine Below.setCell ?_ (by first | (simp; done) | (simp; omega) | omega) _ | refine Below.alloc ?_ (by first | (simp; done) | (simp; omega) | omega) _)) b15
  have B15 := Lib.hid (below_step B14.out d15)
  have X15 := X14.keep d15
  have Y15 := Y14.keep d15
  clear X14 Y14 b15 d15 B14
  have cX_b := X15.hb
  have cX_f := X15.fz
  have cX_0 := X15.k0
  have cX_1 := X15.k1
  have cX_2 := X15.k2
  have cX_3 := X15.k3
  have cX_4 := X15.k4
  have cY_b := Y15.hb
  have cY_f := Y15.fz
  have cY_0 := Y15.k0
  have cY_1 := Y15.k1
  have cY_2 := Y15.k2
  have cY_3 := Y15.k3
  have cY_4 := Y15.k4
  go_wp2_with fail
  clear cX_b cX_f cX_0 cX_1 cX_2 cX_3 cX_4 cY_b cY_f cY_0 cY_1 cY_2 cY_3 cY_4
  refine (CO.out _ (var_keep B15.out TT.out)).mono ?_; rintro e w16 ⟨rfl, b16⟩
  have d16 : Below w15.heap.size w15 w16 := below_step (by repeat (first | exact Below.refl _ _ | refine _root_.Go.below_drewN ?_ _ | refine Below.drew ?_ | refine Below.setCell ?_ (by first | (simp; done) | (simp; omega) | omega) _ | refine Below.alloc ?_ (by first | (simp; done) | (simp; omega) | omega) _)) b16
  have B16 := Lib.hid (below_step B15.out d16)
  have X16 := X15.keep d16
  have Y16 := Y15.keep d16
  clear X15 Y15 b16 d16 B15
  have cX_b := X16.hb
  have cX_f := X16.fz
  have cX_0 := X16.k0
  have cX_1 := X16.k1
  have cX_2 := X16.k2
  have cX_3 := X16.k3
  have cX_4 := X16.k4
  have cY_b := Y16.hb
  have cY_f := Y16.fz
  have cY_0 := Y16.k0
  have cY_1 := Y16.k1
  have cY_2 := Y16.k2
  have cY_3 := Y16.k3
  have cY_4 := Y16.k4
  go_wp2_with fail
  clear cX_b cX_f cX_0 cX_1 cX_2 cX_3 cX_4 cY_b cY_f cY_0 cY_1 cY_2 cY_3 cY_4
  refine (CP.out _ (var_keep B16.out TT.out)).mono ?_; rintro e w17 ⟨rfl, b17⟩
  have d17 : Below w16.heap.size w16 w17 := below_step (by repeat (first | exact Below.refl _ _ | refine _root_.Go.below_drewN ?_ _ | refine Below.drew ?_ | refine Below.setCell ?_ (by first | (simp; done) | (simp; omega) | omega) _ | refine Below.alloc ?_ (by first | (simp; done) | (simp; omega) | omega) _)) b17
  have B17 := Lib.hid (below_step B16.out d17)
  have X17 := X16.keep d17
  have Y17 := Y16.keep d17
  clear X16 Y16 b17 d17 B16
  have cX_b := X17.hb
  have cX_f := X17.fz
  have cX_0 := X17.k0
  have cX_1 := X17.k1
  have cX_2 := X17.k2
  have cX_3 := X17.k3
  have cX_4 := X17.k4
  have cY_b := Y17.hb
  have cY_f := Y17.fz
  have cY_0 := Y17.k0
  have cY_1 := Y17.k1
  have cY_2 := Y17.k2
  have cY_3 := Y17.k3
  have cY_4 := Y17.k4
  go_wp2_with fail
  clear cX_b cX_f cX_0 cX_1 cX_2 cX_3 cX_4 cY_b cY_f cY_0 cY_1 cY_2 cY_3 cY_4
  go_ret
  exact ⟨rfl, (by have hz := B17.out.size; repeat (first | exact B17.out | refine _root_.Go.below_drewN ?_ _ | refine Below.drew ?_ | refine Below.setCell ?_ (by first | omega | (simp; done) | (simp; omega)) _ | refine Below.alloc ?_ (by first | omega | (simp; done) | (simp; omega)) _))⟩
end Go.Proofs.YtlelpeocbgjmhaaGreatDoor
