/- Joined: GvW, ErH. -/
import Derived.Test.YtjggjkeopbcmoaaGreatDoorBt01
import Derived.Test.YtjggjkeopbcmoaaGreatDoorBt07
import Derived.Test.YtjggjkeopbcmoaaGreatDoorBt17
import Derived.BigRegion
import Derived.Test.YtjggjkeopbcmoaaGreatDoorBt21
set_option linter.unusedVariables false
set_option linter.unusedSimpArgs false
namespace Go.Proofs.YtjggjkeopbcmoaaGreatDoor
open Go.RowKit Go.Sort
set_option maxRecDepth 100000 in
theorem ercatch (b : Nat) (x y line why : Int) (older : List PanicEntry) (w : World) (hb : b < w.heap.size) (hc : w.cell? ⟨b, 0, none⟩ = some (.int .i64 x)) (hd : w.cell? ⟨b, 1, none⟩ = some (.int .i64 y)) (hz : ∀ j, w.frozen? ⟨b, j, none⟩ = false) :
  CallsD Tryz.prog 121 #[.pointer (some ⟨b, 0, none⟩)] (.panicking ({ v := gvV line why, recovered := false } :: older)) w fun e u' w' =>
   e = .returned (.tuple #[]) ∧ u' = .panicking ({ v := gvV line why, recovered := true } :: older) ∧ w' = ((w.setCell ⟨b, 0, none⟩ (.int .i64 line)).setCell ⟨b, 1, none⟩ (.int .i64 why)).alloc (.cells #[.int .i64 line, .int .i64 why] 130) := by
 unfold gvV
 have hta := fun W => gv_assert line why W
 refine callsD_of_wpS Tryz.func121 rfl fun c₀ cs hu => ?_
 apply wpS_seq
 apply wpS_region
 simp [wpOpsS, go_sem, recoverD, hu, Tryz.ntmps121, Exit.thenS]
 refine wpS_of_wp ?_
 rw [show (#[Value.pointer (some ⟨b, 0, none⟩)] ++ (Array.replicate 11 undef).setIfInBounds 3 (Value.iface 130 (Value.agg #[Value.int IntKind.i64 line, Value.int IntKind.i64 why])) : Array Value) = #[.pointer (some ⟨b, 0, none⟩), undef, undef, undef, .iface 130 (.agg #[.int .i64 line, .int .i64 why]), undef, undef, undef, undef, undef, undef, undef] from rfl]
 have n1 : b ≠ w.heap.size := Nat.ne_of_lt hb
 have n2 : w.heap.size ≠ b := Nat.ne_of_gt hb
 go_wp2_with fail
 all_goals (cases c₀; simp_all [bodyPostS, results, Tryz.results121])
theorem eridle (p : Addr) (w : World) :
  CallsD Tryz.prog 121 #[.pointer (some p)] .returning w fun e u' w' => e = .returned (.tuple #[]) ∧ u' = .returning ∧ w' = w := by
 refine callsD_of_wpS Tryz.func121 rfl fun c₀ cs hu => ?_
 apply wpS_seq
 apply wpS_region
 simp [wpOpsS, go_sem, recoverD, hu, Tryz.ntmps121, Exit.thenS]
 refine wpS_of_wp ?_
 rw [show (#[Value.pointer (some p)] ++ (Array.replicate 11 undef).setIfInBounds 3 Value.nilIface : Array Value) = #[.pointer (some p), undef, undef, undef, .nilIface, undef, undef, undef, undef, undef, undef, undef] from rfl]
 go_wp2_with fail
 all_goals (cases c₀; simp_all [bodyPostS, results, Tryz.results121])
set_option maxHeartbeats 1000000 in
set_option maxRecDepth 100000 in
theorem ercaughtat_yes (g : FuncId) (qs : Array Value) (hg : ∀ W, Sem.run Tryz.prog (callFunc g qs) W = .ok (.enter g qs) W) (off : Int) (kind : Int) (save : Int) (rs : ByteArray) (fm : ByteArray) (h : Bool) (y : Int) (m : Int) (k : Int) (wk : Int) (d : Int) (sec : Int) (base : Int) (w : World)
  (CG : Hid (∀ W, Below w.heap.size w W → Calls Tryz.prog g qs W fun e w' => e = .returned (.agg #[.int .i64 off, .int .i64 kind, .int .i64 save, .string rs, .string fm, .bool h, .int .i64 y, .int .i64 m, .int .i64 k, .int .i64 wk, .int .i64 d, .int .i64 sec, .int .i64 base]) ∧ Below W.heap.size W w')) :
  Calls Tryz.prog 81 #[.func (Fn.func g) #[] qs] w fun e w' => e = .returned (.tuple #[.agg #[.int .i64 off, .int .i64 kind, .int .i64 save, .string rs, .string fm, .bool h, .int .i64 y, .int .i64 m, .int .i64 k, .int .i64 wk, .int .i64 d, .int .i64 sec, .int .i64 base], .agg #[.int .i64 0, .int .i64 0]]) ∧ Below w.heap.size w w' := by
 have hmf : ∀ (fn : Fn) (first cap : Array Value) (w : World), (Instr.makeFunc fn first cap).run Tryz.prog w = .ok (.func fn first cap) w := fun _ _ _ _ => rfl
 go_enter_defers Tryz.func81, Tryz.ntmps81
 go_wp2_with fail
 have b0 : Below w.heap.size w ((w.alloc (.cells #[.int .i64 0, .int .i64 0, .int .i64 0, .string ⟨#[]⟩, .string ⟨#[]⟩, .bool false, .int .i64 0, .int .i64 0, .int .i64 0, .int .i64 0, .int .i64 0, .int .i64 0, .int .i64 0] 31)).alloc (.cells #[.int .i64 0, .int .i64 0] 84)) := ((Below.refl _ _).alloc (Nat.le_refl _) _).alloc (by simp) _
 refine (CG.out _ b0).mono ?_; rintro e w1 ⟨rfl, b1⟩
 have B1 := Lib.hid (below_step b0 b1)
 have P1 : Bk13 w1 w.heap.size (.int .i64 0) (.int .i64 0) (.int .i64 0) (.string ⟨#[]⟩) (.string ⟨#[]⟩) (.bool false) (.int .i64 0) (.int .i64 0) (.int .i64 0) (.int .i64 0) (.int .i64 0) (.int .i64 0) (.int .i64 0) := by refine Bk13.of b1 (by simp <;> omega) (by intro j; simp [go_sem]) ?_ ?_ ?_ ?_ ?_ ?_ ?_ ?_ ?_ ?_ ?_ ?_ ?_ <;> simp [go_sem]
 have Q1 : Bk2 w1 (w.heap.size + 1) (.int .i64 0) (.int .i64 0) := by refine Bk2.of b1 (by simp <;> omega) (by intro j; simp [go_sem]) ?_ ?_ <;> simp [go_sem]
 have hz := Lib.hid B1.out.size
 clear b1 b0
 have c_b := Q1.hb; have c_f := Q1.fz; have c_0 := Q1.k0; have c_1 := Q1.k1
 have p_b := P1.hb; have p_f := P1.fz; have p_0 := P1.k0; have p_1 := P1.k1; have p_2 := P1.k2; have p_3 := P1.k3; have p_4 := P1.k4; have p_5 := P1.k5; have p_6 := P1.k6; have p_7 := P1.k7; have p_8 := P1.k8; have p_9 := P1.k9; have p_10 := P1.k10; have p_11 := P1.k11; have p_12 := P1.k12
 clear Q1 P1
 go_wp2_with fail
 refine leaves_cons (f := 121) (args := #[.pointer (some ⟨w.heap.size + 1, 0, none⟩)]) (by simp) (by simp [go_sem]) ?_
 refine (eridle ⟨w.heap.size + 1, 0, none⟩ _).mono ?_
 rintro e u' w'' ⟨rfl, rfl, rfl⟩
 simp [Leaves, settle, results, Tryz.results81, go_sem, c_b, c_0, c_1, c_f, p_b, p_0, p_1, p_2, p_3, p_4, p_5, p_6, p_7, p_8, p_9, p_10, p_11, p_12, p_f]
 clear c_b c_f c_0 c_1 p_b p_f p_0 p_1 p_2 p_3 p_4 p_5 p_6 p_7 p_8 p_9 p_10 p_11 p_12
 repeat (refine Below.setCell ?_ (by first | omega | (simp; done) | (simp; omega)) _)
 exact B1.out
set_option maxHeartbeats 1000000 in
set_option maxRecDepth 100000 in
theorem ercaughtat_no (g : FuncId) (qs : Array Value) (hg : ∀ W, Sem.run Tryz.prog (callFunc g qs) W = .ok (.enter g qs) W) (line why : Int) (w : World)
  (CG : Hid (∀ W, Below w.heap.size w W → Calls Tryz.prog g qs W fun e w' => e = .panicked (gvL line why) ∧ Below W.heap.size W w')) :
  Calls Tryz.prog 81 #[.func (Fn.func g) #[] qs] w fun e w' => e = .returned (.tuple #[.agg #[.int .i64 0, .int .i64 0, .int .i64 0, .string ⟨#[]⟩, .string ⟨#[]⟩, .bool false, .int .i64 0, .int .i64 0, .int .i64 0, .int .i64 0, .int .i64 0, .int .i64 0, .int .i64 0], .agg #[.int .i64 line, .int .i64 why]]) ∧ Below w.heap.size w w' := by
 have hmf : ∀ (fn : Fn) (first cap : Array Value) (w : World), (Instr.makeFunc fn first cap).run Tryz.prog w = .ok (.func fn first cap) w := fun _ _ _ _ => rfl
 go_enter_defers Tryz.func81, Tryz.ntmps81
 go_wp2_with fail
 have b0 : Below w.heap.size w ((w.alloc (.cells #[.int .i64 0, .int .i64 0, .int .i64 0, .string ⟨#[]⟩, .string ⟨#[]⟩, .bool false, .int .i64 0, .int .i64 0, .int .i64 0, .int .i64 0, .int .i64 0, .int .i64 0, .int .i64 0] 31)).alloc (.cells #[.int .i64 0, .int .i64 0] 84)) := ((Below.refl _ _).alloc (Nat.le_refl _) _).alloc (by simp) _
 refine (CG.out _ b0).mono ?_; rintro e w1 ⟨rfl, b1⟩
 have B1 := Lib.hid (below_step b0 b1)
 have P1 : Bk13 w1 w.heap.size (.int .i64 0) (.int .i64 0) (.int .i64 0) (.string ⟨#[]⟩) (.string ⟨#[]⟩) (.bool false) (.int .i64 0) (.int .i64 0) (.int .i64 0) (.int .i64 0) (.int .i64 0) (.int .i64 0) (.int .i64 0) := by refine Bk13.of b1 (by simp <;> omega) (by intro j; simp [go_sem]) ?_ ?_ ?_ ?_ ?_ ?_ ?_ ?_ ?_ ?_ ?_ ?_ ?_ <;> simp [go_sem]
 have Q1 : Bk2 w1 (w.heap.size + 1) (.int .i64 0) (.int .i64 0) := by refine Bk2.of b1 (by simp <;> omega) (by intro j; simp [go_sem]) ?_ ?_ <;> simp [go_sem]
 have hz := Lib.hid B1.out.size
 clear b1 b0
 have c_b := Q1.hb; have c_f := Q1.fz; have c_0 := Q1.k0; have c_1 := Q1.k1
 have p_b := P1.hb; have p_f := P1.fz; have p_0 := P1.k0; have p_1 := P1.k1; have p_2 := P1.k2; have p_3 := P1.k3; have p_4 := P1.k4; have p_5 := P1.k5; have p_6 := P1.k6; have p_7 := P1.k7; have p_8 := P1.k8; have p_9 := P1.k9; have p_10 := P1.k10; have p_11 := P1.k11; have p_12 := P1.k12
 clear Q1 P1
 refine (show bodyPostD _ _ _ (Exit.panic (gvL line why)) _ _ from ?_)
 refine leaves_cons (f := 121) (args := #[.pointer (some ⟨w.heap.size + 1, 0, none⟩)]) (by simp) (by simp [go_sem]) ?_
 refine (ercatch (w.heap.size + 1) 0 0 line why [] _ c_b c_0 c_1 c_f).mono ?_
 rintro e u' w'' ⟨rfl, rfl, rfl⟩
 simp [Leaves, settle, results, Tryz.results81, go_sem, c_b, c_0, c_1, c_f, p_b, p_0, p_1, p_2, p_3, p_4, p_5, p_6, p_7, p_8, p_9, p_10, p_11, p_12, p_f]
 clear c_b c_f c_0 c_1 p_b p_f p_0 p_1 p_2 p_3 p_4 p_5 p_6 p_7 p_8 p_9 p_10 p_11 p_12
 refine Below.alloc (Below.setCell (Below.setCell B1.out (by first | omega | (simp; done) | (simp; omega)) _) (by first | omega | (simp; done) | (simp; omega)) _) (by simp; exact hz.out) _
set_option maxHeartbeats 1000000 in
set_option maxRecDepth 100000 in
theorem ercaught_yes (g : FuncId) (qs : Array Value) (hg : ∀ W, Sem.run Tryz.prog (callFunc g qs) W = .ok (.enter g qs) W) (off : Int) (kind : Int) (save : Int) (rs : ByteArray) (fm : ByteArray) (h : Bool) (y : Int) (m : Int) (k : Int) (wk : Int) (d : Int) (sec : Int) (base : Int) (w : World)
  (CG : Hid (∀ W, Below w.heap.size w W → Calls Tryz.prog g qs W fun e w' => e = .returned (.agg #[.int .i64 off, .int .i64 kind, .int .i64 save, .string rs, .string fm, .bool h, .int .i64 y, .int .i64 m, .int .i64 k, .int .i64 wk, .int .i64 d, .int .i64 sec, .int .i64 base]) ∧ Below W.heap.size W w')) :
  Calls Tryz.prog 40 #[.func (Fn.func g) #[] qs] w fun e w' => e = .returned (.tuple #[.agg #[.int .i64 off, .int .i64 kind, .int .i64 save, .string rs, .string fm, .bool h, .int .i64 y, .int .i64 m, .int .i64 k, .int .i64 wk, .int .i64 d, .int .i64 sec, .int .i64 base], .int .i64 0]) ∧ Below w.heap.size w w' := by
 go_enter Tryz.func40, Tryz.ntmps40
 go_wp2_with fail
 refine (ercaughtat_yes g qs hg off kind save rs fm h y m k wk d sec base _ (Lib.hid fun W hW => CG.out W (((Below.refl _ _).alloc (Nat.le_refl _) _).trans (hW.mono (by simp))))).mono ?_; rintro e w1 ⟨rfl, b1⟩
 have d1 : Below w.heap.size w w1 := below_step gr0 b1
 have B1 := Lib.hid d1
 have R1 : Bk13 w1 (w.heap.size) (.int .i64 0) (.int .i64 0) (.int .i64 0) (.string ⟨#[]⟩) (.string ⟨#[]⟩) (.bool false) (.int .i64 0) (.int .i64 0) (.int .i64 0) (.int .i64 0) (.int .i64 0) (.int .i64 0) (.int .i64 0) := by refine Bk13.of b1 (by simp <;> omega) (by intro j; simp [go_sem]) ?_ ?_ ?_ ?_ ?_ ?_ ?_ ?_ ?_ ?_ ?_ ?_ ?_ <;> simp [go_sem]
 clear b1 d1
 have tx := R1; obtain ⟨cR_b, cR_f, cR_0, cR_1, cR_2, cR_3, cR_4, cR_5, cR_6, cR_7, cR_8, cR_9, cR_10, cR_11, cR_12⟩ := tx
 go_wp2_with fail
 clear cR_b cR_f cR_0 cR_1 cR_2 cR_3 cR_4 cR_5 cR_6 cR_7 cR_8 cR_9 cR_10 cR_11 cR_12
 refine wp_named ?_; intro w2 hw2
 have d2 : Below w1.heap.size w1 w2 := by rw [hw2]; exact gr0
 have B2 := Lib.hid (below_step B1.out d2)
 have R2 := R1.keep d2
 have aY := B1.out.size
 have nYR := Nat.ne_of_lt R1.hb
 have oYR := Nat.ne_of_gt R1.hb
 have Y2 : Bk13 w2 (w1.heap.size) (.int .i64 off) (.int .i64 kind) (.int .i64 save) (.string rs) (.string fm) (.bool h) (.int .i64 y) (.int .i64 m) (.int .i64 k) (.int .i64 wk) (.int .i64 d) (.int .i64 sec) (.int .i64 base) := by rw [hw2]; exact ⟨by simp <;> omega, by intro j; simp [go_sem], by simp [go_sem], by simp [go_sem], by simp [go_sem], by simp [go_sem], by simp [go_sem], by simp [go_sem], by simp [go_sem], by simp [go_sem], by simp [go_sem], by simp [go_sem], by simp [go_sem], by simp [go_sem], by simp [go_sem]⟩
 have aZ := B1.out.size
 have nZR := Nat.ne_of_lt R1.hb
 have oZR := Nat.ne_of_gt R1.hb
 have Z2 : Bk2 w2 (w1.heap.size + 1) (.int .i64 0) (.int .i64 0) := by rw [hw2]; exact ⟨by simp <;> omega, by intro j; simp [go_sem], by simp [go_sem], by simp [go_sem]⟩
 clear R1 d2 hw2 B1
 have tx := R2; obtain ⟨cR_b, cR_f, cR_0, cR_1, cR_2, cR_3, cR_4, cR_5, cR_6, cR_7, cR_8, cR_9, cR_10, cR_11, cR_12⟩ := tx
 have tx := Y2; obtain ⟨cY_b, cY_f, cY_0, cY_1, cY_2, cY_3, cY_4, cY_5, cY_6, cY_7, cY_8, cY_9, cY_10, cY_11, cY_12⟩ := tx
 have tx := Z2; obtain ⟨cZ_b, cZ_f, cZ_0, cZ_1⟩ := tx
 go_big_region
 obtain ⟨W9, hW9⟩ : ∃ W9, W9 = (((((((((((((w2.setCell ⟨w.heap.size, 0, none⟩ (.int .i64 off)).setCell ⟨w.heap.size, 1, none⟩ (.int .i64 kind)).setCell ⟨w.heap.size, 2, none⟩ (.int .i64 save)).setCell ⟨w.heap.size, 3, none⟩ (.string rs)).setCell ⟨w.heap.size, 4, none⟩ (.string fm)).setCell ⟨w.heap.size, 5, none⟩ (.bool h)).setCell ⟨w.heap.size, 6, none⟩ (.int .i64 y)).setCell ⟨w.heap.size, 7, none⟩ (.int .i64 m)).setCell ⟨w.heap.size, 8, none⟩ (.int .i64 k)).setCell ⟨w.heap.size, 9, none⟩ (.int .i64 wk)).setCell ⟨w.heap.size, 10, none⟩ (.int .i64 d)).setCell ⟨w.heap.size, 11, none⟩ (.int .i64 sec)).setCell ⟨w.heap.size, 12, none⟩ (.int .i64 base)).drew := ⟨_, rfl⟩
 rw [← hW9]
 obtain ⟨W8, hW8⟩ : ∃ W8, W8 = (((((((((((((w2.setCell ⟨w.heap.size, 0, none⟩ (.int .i64 off)).setCell ⟨w.heap.size, 1, none⟩ (.int .i64 kind)).setCell ⟨w.heap.size, 2, none⟩ (.int .i64 save)).setCell ⟨w.heap.size, 3, none⟩ (.string rs)).setCell ⟨w.heap.size, 4, none⟩ (.string fm)).setCell ⟨w.heap.size, 5, none⟩ (.bool h)).setCell ⟨w.heap.size, 6, none⟩ (.int .i64 y)).setCell ⟨w.heap.size, 7, none⟩ (.int .i64 m)).setCell ⟨w.heap.size, 8, none⟩ (.int .i64 k)).setCell ⟨w.heap.size, 9, none⟩ (.int .i64 wk)).setCell ⟨w.heap.size, 10, none⟩ (.int .i64 d)).setCell ⟨w.heap.size, 11, none⟩ (.int .i64 sec)).setCell ⟨w.heap.size, 12, none⟩ (.int .i64 base)) := ⟨_, rfl⟩
 rw [← hW8] at hW9
 have C0 := set13 R2 hW8
 have d0 := below_set13 B2.out (Nat.le_refl _) hW8
 have C := C0.keep (Below.drew (Below.refl _ _))
 have d9 := d0.drew
 rw [← hW9] at C d9
 clear hW8 hW9 C0 d0
 have e0 := C.k0; have e1 := C.k1; have e2 := C.k2; have e3 := C.k3; have e4 := C.k4; have e5 := C.k5; have e6 := C.k6; have e7 := C.k7; have e8 := C.k8; have e9 := C.k9; have e10 := C.k10; have e11 := C.k11; have e12 := C.k12
 clear C R2 Y2 Z2
 go_wp2_with fail
 exact bodyPost_ret (v := .tuple #[.agg #[.int .i64 off, .int .i64 kind, .int .i64 save, .string rs, .string fm, .bool h, .int .i64 y, .int .i64 m, .int .i64 k, .int .i64 wk, .int .i64 d, .int .i64 sec, .int .i64 base], .int .i64 0]) (by simp [results, Tryz.results40, go_sem, e0, e1, e2, e3, e4, e5, e6, e7, e8, e9, e10, e11, e12]) rfl ⟨rfl, d9⟩
set_option maxHeartbeats 1000000 in
set_option maxRecDepth 100000 in
theorem ercaught_no (g : FuncId) (qs : Array Value) (hg : ∀ W, Sem.run Tryz.prog (callFunc g qs) W = .ok (.enter g qs) W) (line why : Int) (w : World)
  (CG : Hid (∀ W, Below w.heap.size w W → Calls Tryz.prog g qs W fun e w' => e = .panicked (gvL line why) ∧ Below W.heap.size W w')) :
  Calls Tryz.prog 40 #[.func (Fn.func g) #[] qs] w fun e w' => e = .returned (.tuple #[.agg #[.int .i64 0, .int .i64 0, .int .i64 0, .string ⟨#[]⟩, .string ⟨#[]⟩, .bool false, .int .i64 0, .int .i64 0, .int .i64 0, .int .i64 0, .int .i64 0, .int .i64 0, .int .i64 0], .int .i64 why]) ∧ Below w.heap.size w w' := by
 go_enter Tryz.func40, Tryz.ntmps40
 go_wp2_with fail
 refine (ercaughtat_no g qs hg line why _ (Lib.hid fun W hW => CG.out W (((Below.refl _ _).alloc (Nat.le_refl _) _).trans (hW.mono (by simp))))).mono ?_; rintro e w1 ⟨rfl, b1⟩
 have d1 : Below w.heap.size w w1 := below_step gr0 b1
 have B1 := Lib.hid d1
 have R1 : Bk13 w1 (w.heap.size) (.int .i64 0) (.int .i64 0) (.int .i64 0) (.string ⟨#[]⟩) (.string ⟨#[]⟩) (.bool false) (.int .i64 0) (.int .i64 0) (.int .i64 0) (.int .i64 0) (.int .i64 0) (.int .i64 0) (.int .i64 0) := by refine Bk13.of b1 (by simp <;> omega) (by intro j; simp [go_sem]) ?_ ?_ ?_ ?_ ?_ ?_ ?_ ?_ ?_ ?_ ?_ ?_ ?_ <;> simp [go_sem]
 clear b1 d1
 have tx := R1; obtain ⟨cR_b, cR_f, cR_0, cR_1, cR_2, cR_3, cR_4, cR_5, cR_6, cR_7, cR_8, cR_9, cR_10, cR_11, cR_12⟩ := tx
 go_wp2_with fail
 clear cR_b cR_f cR_0 cR_1 cR_2 cR_3 cR_4 cR_5 cR_6 cR_7 cR_8 cR_9 cR_10 cR_11 cR_12
 refine wp_named ?_; intro w2 hw2
 have d2 : Below w1.heap.size w1 w2 := by rw [hw2]; exact gr0
 have B2 := Lib.hid (below_step B1.out d2)
 have R2 := R1.keep d2
 have aY := B1.out.size
 have nYR := Nat.ne_of_lt R1.hb
 have oYR := Nat.ne_of_gt R1.hb
 have Y2 : Bk13 w2 (w1.heap.size) (.int .i64 0) (.int .i64 0) (.int .i64 0) (.string ⟨#[]⟩) (.string ⟨#[]⟩) (.bool false) (.int .i64 0) (.int .i64 0) (.int .i64 0) (.int .i64 0) (.int .i64 0) (.int .i64 0) (.int .i64 0) := by rw [hw2]; exact ⟨by simp <;> omega, by intro j; simp [go_sem], by simp [go_sem], by simp [go_sem], by simp [go_sem], by simp [go_sem], by simp [go_sem], by simp [go_sem], by simp [go_sem], by simp [go_sem], by simp [go_sem], by simp [go_sem], by simp [go_sem], by simp [go_sem], by simp [go_sem]⟩
 have aZ := B1.out.size
 have nZR := Nat.ne_of_lt R1.hb
 have oZR := Nat.ne_of_gt R1.hb
 have Z2 : Bk2 w2 (w1.heap.size + 1) (.int .i64 line) (.int .i64 why) := by rw [hw2]; exact ⟨by simp <;> omega, by intro j; simp [go_sem], by simp [go_sem], by simp [go_sem]⟩
 clear R1 d2 hw2 B1
 have tx := R2; obtain ⟨cR_b, cR_f, cR_0, cR_1, cR_2, cR_3, cR_4, cR_5, cR_6, cR_7, cR_8, cR_9, cR_10, cR_11, cR_12⟩ := tx
 have tx := Y2; obtain ⟨cY_b, cY_f, cY_0, cY_1, cY_2, cY_3, cY_4, cY_5, cY_6, cY_7, cY_8, cY_9, cY_10, cY_11, cY_12⟩ := tx
 have tx := Z2; obtain ⟨cZ_b, cZ_f, cZ_0, cZ_1⟩ := tx
 go_big_region
 obtain ⟨W9, hW9⟩ : ∃ W9, W9 = (((((((((((((w2.setCell ⟨w.heap.size, 0, none⟩ (.int .i64 0)).setCell ⟨w.heap.size, 1, none⟩ (.int .i64 0)).setCell ⟨w.heap.size, 2, none⟩ (.int .i64 0)).setCell ⟨w.heap.size, 3, none⟩ (.string ⟨#[]⟩)).setCell ⟨w.heap.size, 4, none⟩ (.string ⟨#[]⟩)).setCell ⟨w.heap.size, 5, none⟩ (.bool false)).setCell ⟨w.heap.size, 6, none⟩ (.int .i64 0)).setCell ⟨w.heap.size, 7, none⟩ (.int .i64 0)).setCell ⟨w.heap.size, 8, none⟩ (.int .i64 0)).setCell ⟨w.heap.size, 9, none⟩ (.int .i64 0)).setCell ⟨w.heap.size, 10, none⟩ (.int .i64 0)).setCell ⟨w.heap.size, 11, none⟩ (.int .i64 0)).setCell ⟨w.heap.size, 12, none⟩ (.int .i64 0)).drew := ⟨_, rfl⟩
 rw [← hW9]
 obtain ⟨W8, hW8⟩ : ∃ W8, W8 = (((((((((((((w2.setCell ⟨w.heap.size, 0, none⟩ (.int .i64 0)).setCell ⟨w.heap.size, 1, none⟩ (.int .i64 0)).setCell ⟨w.heap.size, 2, none⟩ (.int .i64 0)).setCell ⟨w.heap.size, 3, none⟩ (.string ⟨#[]⟩)).setCell ⟨w.heap.size, 4, none⟩ (.string ⟨#[]⟩)).setCell ⟨w.heap.size, 5, none⟩ (.bool false)).setCell ⟨w.heap.size, 6, none⟩ (.int .i64 0)).setCell ⟨w.heap.size, 7, none⟩ (.int .i64 0)).setCell ⟨w.heap.size, 8, none⟩ (.int .i64 0)).setCell ⟨w.heap.size, 9, none⟩ (.int .i64 0)).setCell ⟨w.heap.size, 10, none⟩ (.int .i64 0)).setCell ⟨w.heap.size, 11, none⟩ (.int .i64 0)).setCell ⟨w.heap.size, 12, none⟩ (.int .i64 0)) := ⟨_, rfl⟩
 rw [← hW8] at hW9
 have C0 := set13 R2 hW8
 have d0 := below_set13 B2.out (Nat.le_refl _) hW8
 have C := C0.keep (Below.drew (Below.refl _ _))
 have d9 := d0.drew
 rw [← hW9] at C d9
 clear hW8 hW9 C0 d0
 have e0 := C.k0; have e1 := C.k1; have e2 := C.k2; have e3 := C.k3; have e4 := C.k4; have e5 := C.k5; have e6 := C.k6; have e7 := C.k7; have e8 := C.k8; have e9 := C.k9; have e10 := C.k10; have e11 := C.k11; have e12 := C.k12
 clear C R2 Y2 Z2
 go_wp2_with fail
 exact bodyPost_ret (v := .tuple #[.agg #[.int .i64 0, .int .i64 0, .int .i64 0, .string ⟨#[]⟩, .string ⟨#[]⟩, .bool false, .int .i64 0, .int .i64 0, .int .i64 0, .int .i64 0, .int .i64 0, .int .i64 0, .int .i64 0], .int .i64 why]) (by simp [results, Tryz.results40, go_sem, e0, e1, e2, e3, e4, e5, e6, e7, e8, e9, e10, e11, e12]) rfl ⟨rfl, d9⟩
namespace Er
structure E where
 off : Int
 kind : Int
 save : Int
 rs : ByteArray
 fm : ByteArray
 u : U
def E0 : E := ⟨0, 0, 0, ⟨#[]⟩, ⟨#[]⟩, U0⟩
def E.v (e : E) : Value := ev e.off e.kind e.save e.rs e.fm e.u
def rl (f0 f1 f2 : ByteArray) (r : List ByteArray) : E := ⟨(am 54000 f0).1, (rk f1).1, (rk f1).2.1, (rk f1).2.2, f2, enV r⟩
def rd : List ByteArray → E × Int
 | f0 :: f1 :: f2 :: r => if r.length ≤ 4 then (if Ru.fst (rdW f0 f1 f2 r) = 0 then (rl f0 f1 f2 r, 0) else (E0, Ru.fst (rdW f0 f1 f2 r))) else (E0, 6)
 | _ => (E0, 5)
theorem rd_other (l : List ByteArray) (h : l.length < 3 ∨ 7 < l.length) : rd l = (E0, if l.length < 3 then 5 else 6) := by
 match l, h with
 | [], _ => rfl
 | [_], _ => rfl
 | [_, _], _ => rfl
 | _ :: _ :: _ :: r, h =>
  have h1 : ¬ r.length ≤ 4 := by simp at h; omega
  simp [rd, h1]
theorem rd_some (f0 f1 f2 : ByteArray) (r : List ByteArray) (h : r.length ≤ 4) : rd (f0 :: f1 :: f2 :: r) = if Ru.fst (rdW f0 f1 f2 r) = 0 then (rl f0 f1 f2 r, 0) else (E0, Ru.fst (rdW f0 f1 f2 r)) := by simp [rd, h]
theorem rd_no (l : List ByteArray) (h : (rd l).2 ≠ 0) : (rd l).1 = E0 := by
 by_cases h9 : l.length < 3 ∨ 7 < l.length
 ·
  rw [rd_other _ h9]
 ·
  match l, h9, h with
  | [], h9, _ => simp at h9
  | [_], h9, _ => simp at h9
  | [_, _], h9, _ => simp at h9
  | f0 :: f1 :: f2 :: r, h9, h =>
   rw [rd_some f0 f1 f2 r (by simp at h9; omega)] at h ⊢
   by_cases h0 : Ru.fst (rdW f0 f1 f2 r) = 0
   ·
    rw [if_pos h0] at h; exact absurd rfl h
   ·
    rw [if_neg h0]
end Er
set_option maxRecDepth 100000 in
theorem erread1_other (p : Nat) (v : Value) (l : List ByteArray) (w : World) (hc : w.cell? ⟨p, 0, none⟩ = some v) (S : StS w v l) (hl : l.length < 3 ∨ (7 < l.length ∧ l.length ≤ 1000000)) :
  Calls Tryz.prog 41 #[.pointer (some ⟨p, 0, none⟩)] w fun e w' => Below w.heap.size w w' ∧ (Er.rd l).2 ≠ 0 ∧ e = .panicked (gvP (Er.rd l).2) := by
 obtain ⟨A, c, rfl, -⟩ := S
 have hp : p < w.heap.size := World.block_lt_of_cell? _ _ hc
 have n1 : p ≠ w.heap.size := Nat.ne_of_lt hp
 rw [Er.rd_other _ (by omega)]
 obtain ⟨N, hN⟩ : ∃ N, N = l.length := ⟨_, rfl⟩
 rw [← hN] at hl hc ⊢
 clear hN
 by_cases h : N < 3
 ·
  rw [if_pos h]
  have g : ¬ 3 ≤ (N : Int) := by omega
  clear h hl
  go_enter Tryz.func41, Tryz.ntmps41
  go_wp2_with fail
  try rw [show decide ((3 : Int) ≤ (N : Int)) = false from decide_eq_false (by omega)]
  refine (need_no 5 _).mono ?_; rintro e w1 ⟨rfl, rfl⟩
  refine (show bodyPost _ _ _ (Exit.panic (gvP 5)) _ _ from ?_)
  simp only [bodyPost]
  exact ⟨trivial, (Below.refl _ _).alloc (Nat.le_refl _) _, by decide, by first | rfl | trivial⟩
 ·
  rw [if_neg h]
  have h2 : 7 < N ∧ N ≤ 1000000 := by omega
  have g : 3 ≤ (N : Int) := by omega
  have g2 : ¬ (N : Int) ≤ 7 := by omega
  clear h hl
  go_enter Tryz.func41, Tryz.ntmps41
  go_wp2_with fail
  try rw [show decide ((3 : Int) ≤ (N : Int)) = true from decide_eq_true (by omega)]
  refine (need_yes 5 _).mono ?_; rintro e w1 ⟨rfl, rfl⟩
  go_wp2_with fail
  try rw [show decide ((N : Int) ≤ 7) = false from decide_eq_false (by omega)]
  refine (need_no 6 _).mono ?_; rintro e w1 ⟨rfl, rfl⟩
  refine (show bodyPost _ _ _ (Exit.panic (gvP 6)) _ _ from ?_)
  simp only [bodyPost]
  exact ⟨trivial, (Below.refl _ _).alloc (Nat.le_refl _) _, by decide, by first | rfl | trivial⟩
set_option maxHeartbeats 4000000 in
set_option maxRecDepth 100000 in
theorem erread1_some (p : Nat) (A : Option Addr) (n c : Nat) (f0 f1 f2 : ByteArray) (r : List ByteArray) (hr : r.length ≤ 4) (hnc : n ≤ c) (w : World) (hc : w.cell? ⟨p, 0, none⟩ = some (.slice A n c)) (S : StS w (.slice A n c) (f0 :: f1 :: f2 :: r)) (hz : ∀ x ∈ f0 :: f1 :: f2 :: r, x.size ≤ 600) (tp : TypeId) (pp : Value) (y : Int) (L : Ru.Lv w tp pp y) :
  Calls Tryz.prog 41 #[.pointer (some ⟨p, 0, none⟩)] w fun e w' => Below w.heap.size w w' ∧ ((Ru.fst (Er.rdW f0 f1 f2 r) = 0 ∧ e = .returned (Er.rl f0 f1 f2 r).v) ∨ (Ru.fst (Er.rdW f0 f1 f2 r) ≠ 0 ∧ e = .panicked (gvP (Ru.fst (Er.rdW f0 f1 f2 r))))) := by
 have hn : n = r.length + 3 := by have := S.len; simpa using this
 obtain ⟨q, hq⟩ : ∃ q, A = some q := by
  obtain ⟨A', c', hv, hA⟩ := S
  cases hv
  obtain ⟨q', e, -⟩ := hA (by simp)
  exact ⟨q', e⟩
 subst hq
 have RN := Lib.hid (fun W (b : Below w.heap.size w W) => erread_any q n c f0 f1 f2 r hr hn hnc W (S.on b) hz tp pp y (L.on b))
 have hp : p < w.heap.size := World.block_lt_of_cell? _ _ hc
 have n1 : p ≠ w.heap.size := Nat.ne_of_lt hp
 have g1 : 3 ≤ (n : Int) := by omega
 have g2 : (n : Int) ≤ 7 := by omega
 clear hz L S
 have hrl : Er.rdV f0 f1 f2 r = (Er.rl f0 f1 f2 r).v := rfl
 rw [hrl] at RN
 clear hrl
 generalize Ru.fst (Er.rdW f0 f1 f2 r) = F at *
 generalize Er.rl f0 f1 f2 r = R at *
 clear hr hnc hn
 obtain ⟨off, kind, save, rs, fm, ⟨h, yy, m, k, wk, d, sec, base⟩⟩ := R
 unfold Er.E.v Er.ev at RN ⊢
 go_enter Tryz.func41, Tryz.ntmps41
 go_wp2_with fail
 try rw [show decide ((3 : Int) ≤ (n : Int)) = true from decide_eq_true (by omega)]
 refine (need_yes 5 _).mono ?_; rintro e w1 ⟨rfl, rfl⟩
 go_wp2_with fail
 try rw [show decide ((n : Int) ≤ 7) = true from decide_eq_true (by omega)]
 refine (need_yes 6 _).mono ?_; rintro e w1 ⟨rfl, rfl⟩
 go_wp2_with fail
 refine (RN.out _ ((Below.refl _ _).alloc (Nat.le_refl _) _)).mono ?_; rintro e w1 ⟨b1, ⟨h0, rfl⟩ | ⟨h0, rfl⟩⟩
 ·
  subst h0
  have B1 := Lib.hid (below_step ((Below.refl _ _).alloc (Nat.le_refl _) _) b1)
  have Q1 : Bk13 w1 (w.heap.size) (.int .i64 0) (.int .i64 0) (.int .i64 0) (.string ⟨#[]⟩) (.string ⟨#[]⟩) (.bool false) (.int .i64 0) (.int .i64 0) (.int .i64 0) (.int .i64 0) (.int .i64 0) (.int .i64 0) (.int .i64 0) := Bk13.of b1 (by simp) (by intro j; simp [go_sem]) (by simp [go_sem]) (by simp [go_sem]) (by simp [go_sem]) (by simp [go_sem]) (by simp [go_sem]) (by simp [go_sem]) (by simp [go_sem]) (by simp [go_sem]) (by simp [go_sem]) (by simp [go_sem]) (by simp [go_sem]) (by simp [go_sem]) (by simp [go_sem])
  clear b1
  have q_b := Q1.hb; have q_f := Q1.fz; have q_0 := Q1.k0; have q_1 := Q1.k1; have q_2 := Q1.k2; have q_3 := Q1.k3; have q_4 := Q1.k4; have q_5 := Q1.k5; have q_6 := Q1.k6; have q_7 := Q1.k7; have q_8 := Q1.k8; have q_9 := Q1.k9; have q_10 := Q1.k10; have q_11 := Q1.k11; have q_12 := Q1.k12
  go_wp2_with fail
  obtain ⟨W9, hW9⟩ : ∃ W9, W9 = (((((((((((((w1.setCell ⟨w.heap.size, 0, none⟩ (.int .i64 off)).setCell ⟨w.heap.size, 1, none⟩ (.int .i64 kind)).setCell ⟨w.heap.size, 2, none⟩ (.int .i64 save)).setCell ⟨w.heap.size, 3, none⟩ (.string rs)).setCell ⟨w.heap.size, 4, none⟩ (.string fm)).setCell ⟨w.heap.size, 5, none⟩ (.bool h)).setCell ⟨w.heap.size, 6, none⟩ (.int .i64 yy)).setCell ⟨w.heap.size, 7, none⟩ (.int .i64 m)).setCell ⟨w.heap.size, 8, none⟩ (.int .i64 k)).setCell ⟨w.heap.size, 9, none⟩ (.int .i64 wk)).setCell ⟨w.heap.size, 10, none⟩ (.int .i64 d)).setCell ⟨w.heap.size, 11, none⟩ (.int .i64 sec)).setCell ⟨w.heap.size, 12, none⟩ (.int .i64 base)) := ⟨_, rfl⟩
  rw [← hW9]
  have C := set13 Q1 hW9
  have d9 := below_set13 B1.out (Nat.le_refl _) hW9
  clear hW9 Q1 q_b q_f q_0 q_1 q_2 q_3 q_4 q_5 q_6 q_7 q_8 q_9 q_10 q_11 q_12
  have e0 := C.k0; have e1 := C.k1; have e2 := C.k2; have e3 := C.k3; have e4 := C.k4; have e5 := C.k5; have e6 := C.k6; have e7 := C.k7; have e8 := C.k8; have e9 := C.k9; have e10 := C.k10; have e11 := C.k11; have e12 := C.k12
  clear C
  exact bodyPost_ret (v := .agg #[.int .i64 off, .int .i64 kind, .int .i64 save, .string rs, .string fm, .bool h, .int .i64 yy, .int .i64 m, .int .i64 k, .int .i64 wk, .int .i64 d, .int .i64 sec, .int .i64 base]) (by simp [results, Tryz.results41, go_sem, e0, e1, e2, e3, e4, e5, e6, e7, e8, e9, e10, e11, e12]) rfl ⟨d9, rfl⟩
 ·
  refine (show bodyPost _ _ _ (Exit.panic (gvP F)) _ _ from ?_)
  simp only [bodyPost]
  exact ⟨trivial, below_step ((Below.refl _ _).alloc (Nat.le_refl _) _) b1, .inr ⟨h0, by first | rfl | trivial⟩⟩
set_option maxRecDepth 100000 in
theorem er_callFn (qs : Array Value) (W : World) : Sem.run Tryz.prog (callFunc 41 qs) W = .ok (.enter 41 qs) W := rfl
set_option maxHeartbeats 4000000 in
set_option maxRecDepth 100000 in
theorem erRead_any (A : Option Addr) (n c : Nat) (l : List ByteArray) (w : World) (S : StS w (.slice A n c) l) (hnc : n ≤ c) (hl : l.length ≤ 1000000) (hz : ∀ y ∈ l, y.size ≤ 600) (tp : TypeId) (pp : Value) (y : Int) (L : Ru.Lv w tp pp y) :
  Calls Tryz.prog 11 #[.slice A n c] w fun e w' => e = .returned (.tuple #[(Er.rd l).1.v, .int .i64 (Er.rd l).2]) ∧ Below w.heap.size w w' := by
 have C : ∀ p W, W.cell? ⟨p, 0, none⟩ = some (.slice A n c) → StS W (.slice A n c) l → Ru.Lv W tp pp y → Calls Tryz.prog 41 #[.pointer (some ⟨p, 0, none⟩)] W fun e w' => Below W.heap.size W w' ∧ (((Er.rd l).2 = 0 ∧ e = .returned (Er.rd l).1.v) ∨ ((Er.rd l).2 ≠ 0 ∧ e = .panicked (gvP (Er.rd l).2))) := fun p W hc hS hL => by
  by_cases h9 : l.length < 3 ∨ 7 < l.length
  ·
   exact (erread1_other p _ l W hc hS (by omega)).mono fun e w' ⟨h1, h2, h3⟩ => ⟨h1, .inr ⟨h2, h3⟩⟩
  ·
   match l, h9, hz, hS with
   | [], h9, _, _ => simp at h9
   | [_], h9, _, _ => simp at h9
   | [_, _], h9, _, _ => simp at h9
   | f0 :: f1 :: f2 :: r, h9, hz, hS =>
    have h4 : r.length ≤ 4 := by simp at h9; omega
    refine (erread1_some p A n c f0 f1 f2 r h4 hnc W hc hS hz tp pp y hL).mono ?_
    rintro e w' ⟨h1, ⟨h2, h3⟩ | ⟨h2, h3⟩⟩
    ·
     rw [Er.rd_some f0 f1 f2 r h4, if_pos h2]; exact ⟨h1, .inl ⟨rfl, h3⟩⟩
    ·
     rw [Er.rd_some f0 f1 f2 r h4, if_neg h2]; exact ⟨h1, .inr ⟨h2, h3⟩⟩
 have C := Lib.hid C
 have hno := Er.rd_no l
 have HS := Lib.hid S
 have HL := Lib.hid L
 clear S hz hl L hnc
 generalize Er.rd l = R at C hno ⊢
 obtain ⟨⟨off, kind, save, rs, fm, ⟨h, yy, m, k, wk, d, sec, base⟩⟩, why⟩ := R
 by_cases h0 : why = 0
 ·
  subst h0
  unfold Er.E.v Er.ev at C ⊢
  have T := Lib.hid (fun b W (hc : W.cell? ⟨b, 0, none⟩ = some (.slice A n c)) (hS : StS W (.slice A n c) l) (hL : Ru.Lv W tp pp y) => ercaught_yes 41 #[.pointer (some ⟨b, 0, none⟩)] (er_callFn _) off kind save rs fm h yy m k wk d sec base W (Lib.hid fun W' hB => (C.out b W' (fd_keep hc hB) (hS.on hB) (hL.on hB)).mono (by
   rintro e w' ⟨h1, ⟨-, h2⟩ | ⟨h2, -⟩⟩
   ·
    exact ⟨h2, h1⟩
   ·
    exact absurd rfl h2)))
  clear C hno
  go_enter Tryz.func11, Tryz.ntmps11
  go_wp2_with fail
  have b0 : Below w.heap.size w ((w.alloc (.cells #[.slice A n c] 34)).alloc (.cells #[.int .i64 0, .int .i64 0, .int .i64 0, .string ⟨#[]⟩, .string ⟨#[]⟩, .bool false, .int .i64 0, .int .i64 0, .int .i64 0, .int .i64 0, .int .i64 0, .int .i64 0, .int .i64 0] 31)) := ((Below.refl _ _).alloc (Nat.le_refl _) _).alloc (by simp) _
  refine (T.out w.heap.size _ (by simp [go_sem]) (HS.out.on b0) (HL.out.on b0)).mono ?_; rintro e w1 ⟨rfl, b1⟩
  have B1 := Lib.hid (below_step b0 b1)
  have Q1 : Bk13 w1 (w.heap.size + 1) (.int .i64 0) (.int .i64 0) (.int .i64 0) (.string ⟨#[]⟩) (.string ⟨#[]⟩) (.bool false) (.int .i64 0) (.int .i64 0) (.int .i64 0) (.int .i64 0) (.int .i64 0) (.int .i64 0) (.int .i64 0) := Bk13.of b1 (by simp) (by intro j; simp [go_sem]) (by simp [go_sem]) (by simp [go_sem]) (by simp [go_sem]) (by simp [go_sem]) (by simp [go_sem]) (by simp [go_sem]) (by simp [go_sem]) (by simp [go_sem]) (by simp [go_sem]) (by simp [go_sem]) (by simp [go_sem]) (by simp [go_sem]) (by simp [go_sem])
  clear b1 b0
  have q_b := Q1.hb; have q_f := Q1.fz; have q_0 := Q1.k0; have q_1 := Q1.k1; have q_2 := Q1.k2; have q_3 := Q1.k3; have q_4 := Q1.k4; have q_5 := Q1.k5; have q_6 := Q1.k6; have q_7 := Q1.k7; have q_8 := Q1.k8; have q_9 := Q1.k9; have q_10 := Q1.k10; have q_11 := Q1.k11; have q_12 := Q1.k12
  go_wp2_with fail
  obtain ⟨W9, hW9⟩ : ∃ W9, W9 = (((((((((((((w1.setCell ⟨w.heap.size + 1, 0, none⟩ (.int .i64 off)).setCell ⟨w.heap.size + 1, 1, none⟩ (.int .i64 kind)).setCell ⟨w.heap.size + 1, 2, none⟩ (.int .i64 save)).setCell ⟨w.heap.size + 1, 3, none⟩ (.string rs)).setCell ⟨w.heap.size + 1, 4, none⟩ (.string fm)).setCell ⟨w.heap.size + 1, 5, none⟩ (.bool h)).setCell ⟨w.heap.size + 1, 6, none⟩ (.int .i64 yy)).setCell ⟨w.heap.size + 1, 7, none⟩ (.int .i64 m)).setCell ⟨w.heap.size + 1, 8, none⟩ (.int .i64 k)).setCell ⟨w.heap.size + 1, 9, none⟩ (.int .i64 wk)).setCell ⟨w.heap.size + 1, 10, none⟩ (.int .i64 d)).setCell ⟨w.heap.size + 1, 11, none⟩ (.int .i64 sec)).setCell ⟨w.heap.size + 1, 12, none⟩ (.int .i64 base)) := ⟨_, rfl⟩
  rw [← hW9]
  have C := set13 Q1 hW9
  have d9 := below_set13 B1.out (Nat.le_succ _) hW9
  clear hW9 Q1 q_b q_f q_0 q_1 q_2 q_3 q_4 q_5 q_6 q_7 q_8 q_9 q_10 q_11 q_12
  have e0 := C.k0; have e1 := C.k1; have e2 := C.k2; have e3 := C.k3; have e4 := C.k4; have e5 := C.k5; have e6 := C.k6; have e7 := C.k7; have e8 := C.k8; have e9 := C.k9; have e10 := C.k10; have e11 := C.k11; have e12 := C.k12
  clear C
  exact bodyPost_ret (v := .tuple #[.agg #[.int .i64 off, .int .i64 kind, .int .i64 save, .string rs, .string fm, .bool h, .int .i64 yy, .int .i64 m, .int .i64 k, .int .i64 wk, .int .i64 d, .int .i64 sec, .int .i64 base], .int .i64 0]) (by simp [results, Tryz.results11, go_sem, e0, e1, e2, e3, e4, e5, e6, e7, e8, e9, e10, e11, e12]) rfl ⟨rfl, d9⟩
 ·
  have hxy := hno h0
  unfold Er.E0 Er.U0 at hxy
  injection hxy with h_0 h_1 h_2 h_3 h_4 h_5
  injection h_5 with h_6 h_7 h_8 h_9 h_10 h_11 h_12 h_13
  subst h_0; subst h_1; subst h_2; subst h_3; subst h_4; subst h_6; subst h_7; subst h_8; subst h_9; subst h_10; subst h_11; subst h_12; subst h_13
  unfold Er.E.v Er.ev at C ⊢
  have T := Lib.hid (fun b W (hc : W.cell? ⟨b, 0, none⟩ = some (.slice A n c)) (hS : StS W (.slice A n c) l) (hL : Ru.Lv W tp pp y) => ercaught_no 41 #[.pointer (some ⟨b, 0, none⟩)] (er_callFn _) 0 why W (Lib.hid fun W' hB => (C.out b W' (fd_keep hc hB) (hS.on hB) (hL.on hB)).mono (by
   rintro e w' ⟨h1, ⟨h2, -⟩ | ⟨-, h2⟩⟩
   ·
    exact absurd h2 h0
   ·
    exact ⟨h2, h1⟩)))
  clear C hno
  go_enter Tryz.func11, Tryz.ntmps11
  go_wp2_with fail
  have b0 : Below w.heap.size w ((w.alloc (.cells #[.slice A n c] 34)).alloc (.cells #[.int .i64 0, .int .i64 0, .int .i64 0, .string ⟨#[]⟩, .string ⟨#[]⟩, .bool false, .int .i64 0, .int .i64 0, .int .i64 0, .int .i64 0, .int .i64 0, .int .i64 0, .int .i64 0] 31)) := ((Below.refl _ _).alloc (Nat.le_refl _) _).alloc (by simp) _
  refine (T.out w.heap.size _ (by simp [go_sem]) (HS.out.on b0) (HL.out.on b0)).mono ?_; rintro e w1 ⟨rfl, b1⟩
  have B1 := Lib.hid (below_step b0 b1)
  have Q1 : Bk13 w1 (w.heap.size + 1) (.int .i64 0) (.int .i64 0) (.int .i64 0) (.string ⟨#[]⟩) (.string ⟨#[]⟩) (.bool false) (.int .i64 0) (.int .i64 0) (.int .i64 0) (.int .i64 0) (.int .i64 0) (.int .i64 0) (.int .i64 0) := Bk13.of b1 (by simp) (by intro j; simp [go_sem]) (by simp [go_sem]) (by simp [go_sem]) (by simp [go_sem]) (by simp [go_sem]) (by simp [go_sem]) (by simp [go_sem]) (by simp [go_sem]) (by simp [go_sem]) (by simp [go_sem]) (by simp [go_sem]) (by simp [go_sem]) (by simp [go_sem]) (by simp [go_sem])
  clear b1 b0
  have q_b := Q1.hb; have q_f := Q1.fz; have q_0 := Q1.k0; have q_1 := Q1.k1; have q_2 := Q1.k2; have q_3 := Q1.k3; have q_4 := Q1.k4; have q_5 := Q1.k5; have q_6 := Q1.k6; have q_7 := Q1.k7; have q_8 := Q1.k8; have q_9 := Q1.k9; have q_10 := Q1.k10; have q_11 := Q1.k11; have q_12 := Q1.k12
  go_wp2_with fail
  obtain ⟨W9, hW9⟩ : ∃ W9, W9 = (((((((((((((w1.setCell ⟨w.heap.size + 1, 0, none⟩ (.int .i64 0)).setCell ⟨w.heap.size + 1, 1, none⟩ (.int .i64 0)).setCell ⟨w.heap.size + 1, 2, none⟩ (.int .i64 0)).setCell ⟨w.heap.size + 1, 3, none⟩ (.string ⟨#[]⟩)).setCell ⟨w.heap.size + 1, 4, none⟩ (.string ⟨#[]⟩)).setCell ⟨w.heap.size + 1, 5, none⟩ (.bool false)).setCell ⟨w.heap.size + 1, 6, none⟩ (.int .i64 0)).setCell ⟨w.heap.size + 1, 7, none⟩ (.int .i64 0)).setCell ⟨w.heap.size + 1, 8, none⟩ (.int .i64 0)).setCell ⟨w.heap.size + 1, 9, none⟩ (.int .i64 0)).setCell ⟨w.heap.size + 1, 10, none⟩ (.int .i64 0)).setCell ⟨w.heap.size + 1, 11, none⟩ (.int .i64 0)).setCell ⟨w.heap.size + 1, 12, none⟩ (.int .i64 0)) := ⟨_, rfl⟩
  rw [← hW9]
  have C := set13 Q1 hW9
  have d9 := below_set13 B1.out (Nat.le_succ _) hW9
  clear hW9 Q1 q_b q_f q_0 q_1 q_2 q_3 q_4 q_5 q_6 q_7 q_8 q_9 q_10 q_11 q_12
  have e0 := C.k0; have e1 := C.k1; have e2 := C.k2; have e3 := C.k3; have e4 := C.k4; have e5 := C.k5; have e6 := C.k6; have e7 := C.k7; have e8 := C.k8; have e9 := C.k9; have e10 := C.k10; have e11 := C.k11; have e12 := C.k12
  clear C
  exact bodyPost_ret (v := .tuple #[.agg #[.int .i64 0, .int .i64 0, .int .i64 0, .string ⟨#[]⟩, .string ⟨#[]⟩, .bool false, .int .i64 0, .int .i64 0, .int .i64 0, .int .i64 0, .int .i64 0, .int .i64 0, .int .i64 0], .int .i64 why]) (by simp [results, Tryz.results11, go_sem, e0, e1, e2, e3, e4, e5, e6, e7, e8, e9, e10, e11, e12]) rfl ⟨rfl, d9⟩
end Go.Proofs.YtjggjkeopbcmoaaGreatDoor
