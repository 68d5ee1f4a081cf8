/- Joined: GvU, RuF. -/
import Derived.Test.YtjggjkeopbcmoaaGreatDoorBt01
import Derived.Test.YtjggjkeopbcmoaaGreatDoorBt07
import Derived.Test.YtjggjkeopbcmoaaGreatDoorBt13
import Derived.BigRegion
import Derived.Test.YtjggjkeopbcmoaaGreatDoorBt14
set_option linter.unusedVariables false
set_option linter.unusedSimpArgs false
namespace Go.Proofs.YtjggjkeopbcmoaaGreatDoor
open Go.RowKit Go.Sort
set_option maxRecDepth 100000 in
theorem ucatch (b : Nat) (x y line why : Int) (older : List PanicEntry) (w : World) (hb : b < w.heap.size) (hc : w.cell? ⟨b, 0, none⟩ = some (.int .i64 x)) (hd : w.cell? ⟨b, 1, none⟩ = some (.int .i64 y)) (hz : ∀ j, w.frozen? ⟨b, j, none⟩ = false) :
  CallsD Tryz.prog 100 #[.pointer (some ⟨b, 0, none⟩)] (.panicking ({ v := gvV line why, recovered := false } :: older)) w fun e u' w' =>
   e = .returned (.tuple #[]) ∧ u' = .panicking ({ v := gvV line why, recovered := true } :: older) ∧ w' = ((w.setCell ⟨b, 0, none⟩ (.int .i64 line)).setCell ⟨b, 1, none⟩ (.int .i64 why)).alloc (.cells #[.int .i64 line, .int .i64 why] 130) := by
 unfold gvV
 have hta := fun W => gv_assert line why W
 refine callsD_of_wpS Tryz.func100 rfl fun c₀ cs hu => ?_
 apply wpS_seq
 apply wpS_region
 simp [wpOpsS, go_sem, recoverD, hu, Tryz.ntmps100, Exit.thenS]
 refine wpS_of_wp ?_
 rw [show (#[Value.pointer (some ⟨b, 0, none⟩)] ++ (Array.replicate 11 undef).setIfInBounds 3 (Value.iface 130 (Value.agg #[Value.int IntKind.i64 line, Value.int IntKind.i64 why])) : Array Value) = #[.pointer (some ⟨b, 0, none⟩), undef, undef, undef, .iface 130 (.agg #[.int .i64 line, .int .i64 why]), undef, undef, undef, undef, undef, undef, undef] from rfl]
 have n1 : b ≠ w.heap.size := Nat.ne_of_lt hb
 have n2 : w.heap.size ≠ b := Nat.ne_of_gt hb
 go_wp2_with fail
 all_goals (cases c₀; simp_all [bodyPostS, results, Tryz.results100])
theorem uidle (p : Addr) (w : World) :
  CallsD Tryz.prog 100 #[.pointer (some p)] .returning w fun e u' w' => e = .returned (.tuple #[]) ∧ u' = .returning ∧ w' = w := by
 refine callsD_of_wpS Tryz.func100 rfl fun c₀ cs hu => ?_
 apply wpS_seq
 apply wpS_region
 simp [wpOpsS, go_sem, recoverD, hu, Tryz.ntmps100, Exit.thenS]
 refine wpS_of_wp ?_
 rw [show (#[Value.pointer (some p)] ++ (Array.replicate 11 undef).setIfInBounds 3 Value.nilIface : Array Value) = #[.pointer (some p), undef, undef, undef, .nilIface, undef, undef, undef, undef, undef, undef, undef] from rfl]
 go_wp2_with fail
 all_goals (cases c₀; simp_all [bodyPostS, results, Tryz.results100])
set_option maxHeartbeats 1000000 in
set_option maxRecDepth 100000 in
theorem ucaughtat_yes (g : FuncId) (qs : Array Value) (hg : ∀ W, Sem.run Tryz.prog (callFunc g qs) W = .ok (.enter g qs) W) (s : ByteArray) (fy : Int) (ty : Int) (m : Int) (k : Int) (wk : Int) (d : Int) (sec : Int) (base : Int) (save : Int) (t : ByteArray) (w : World)
  (CG : Hid (∀ W, Below w.heap.size w W → Calls Tryz.prog g qs W fun e w' => e = .returned (.agg #[.string s, .int .i64 fy, .int .i64 ty, .int .i64 m, .int .i64 k, .int .i64 wk, .int .i64 d, .int .i64 sec, .int .i64 base, .int .i64 save, .string t]) ∧ Below W.heap.size W w')) :
  Calls Tryz.prog 64 #[.func (Fn.func g) #[] qs] w fun e w' => e = .returned (.tuple #[.agg #[.string s, .int .i64 fy, .int .i64 ty, .int .i64 m, .int .i64 k, .int .i64 wk, .int .i64 d, .int .i64 sec, .int .i64 base, .int .i64 save, .string t], .agg #[.int .i64 0, .int .i64 0]]) ∧ Below w.heap.size w w' := by
 have hmf : ∀ (fn : Fn) (first cap : Array Value) (w : World), (Instr.makeFunc fn first cap).run Tryz.prog w = .ok (.func fn first cap) w := fun _ _ _ _ => rfl
 go_enter_defers Tryz.func64, Tryz.ntmps64
 go_wp2_with fail
 have b0 : Below w.heap.size w ((w.alloc (.cells #[.string ⟨#[]⟩, .int .i64 0, .int .i64 0, .int .i64 0, .int .i64 0, .int .i64 0, .int .i64 0, .int .i64 0, .int .i64 0, .int .i64 0, .string ⟨#[]⟩] 27)).alloc (.cells #[.int .i64 0, .int .i64 0] 84)) := ((Below.refl _ _).alloc (Nat.le_refl _) _).alloc (by simp) _
 refine (CG.out _ b0).mono ?_; rintro e w1 ⟨rfl, b1⟩
 have B1 := Lib.hid (below_step b0 b1)
 have P1 : Bk11 w1 w.heap.size (.string ⟨#[]⟩) (.int .i64 0) (.int .i64 0) (.int .i64 0) (.int .i64 0) (.int .i64 0) (.int .i64 0) (.int .i64 0) (.int .i64 0) (.int .i64 0) (.string ⟨#[]⟩) := by refine Bk11.of b1 (by simp <;> omega) (by intro j; simp [go_sem]) ?_ ?_ ?_ ?_ ?_ ?_ ?_ ?_ ?_ ?_ ?_ <;> simp [go_sem]
 have Q1 : Bk2 w1 (w.heap.size + 1) (.int .i64 0) (.int .i64 0) := by refine Bk2.of b1 (by simp <;> omega) (by intro j; simp [go_sem]) ?_ ?_ <;> simp [go_sem]
 have hz := Lib.hid B1.out.size
 clear b1 b0
 have c_b := Q1.hb; have c_f := Q1.fz; have c_0 := Q1.k0; have c_1 := Q1.k1
 have p_b := P1.hb; have p_f := P1.fz; have p_0 := P1.k0; have p_1 := P1.k1; have p_2 := P1.k2; have p_3 := P1.k3; have p_4 := P1.k4; have p_5 := P1.k5; have p_6 := P1.k6; have p_7 := P1.k7; have p_8 := P1.k8; have p_9 := P1.k9; have p_10 := P1.k10
 clear Q1 P1
 go_wp2_with fail
 refine leaves_cons (f := 100) (args := #[.pointer (some ⟨w.heap.size + 1, 0, none⟩)]) (by simp) (by simp [go_sem]) ?_
 refine (uidle ⟨w.heap.size + 1, 0, none⟩ _).mono ?_
 rintro e u' w'' ⟨rfl, rfl, rfl⟩
 simp [Leaves, settle, results, Tryz.results64, go_sem, c_b, c_0, c_1, c_f, p_b, p_0, p_1, p_2, p_3, p_4, p_5, p_6, p_7, p_8, p_9, p_10, p_f]
 clear c_b c_f c_0 c_1 p_b p_f p_0 p_1 p_2 p_3 p_4 p_5 p_6 p_7 p_8 p_9 p_10
 repeat (refine Below.setCell ?_ (by first | omega | (simp; done) | (simp; omega)) _)
 exact B1.out
set_option maxHeartbeats 1000000 in
set_option maxRecDepth 100000 in
theorem ucaughtat_no (g : FuncId) (qs : Array Value) (hg : ∀ W, Sem.run Tryz.prog (callFunc g qs) W = .ok (.enter g qs) W) (line why : Int) (w : World)
  (CG : Hid (∀ W, Below w.heap.size w W → Calls Tryz.prog g qs W fun e w' => e = .panicked (gvL line why) ∧ Below W.heap.size W w')) :
  Calls Tryz.prog 64 #[.func (Fn.func g) #[] qs] w fun e w' => e = .returned (.tuple #[.agg #[.string ⟨#[]⟩, .int .i64 0, .int .i64 0, .int .i64 0, .int .i64 0, .int .i64 0, .int .i64 0, .int .i64 0, .int .i64 0, .int .i64 0, .string ⟨#[]⟩], .agg #[.int .i64 line, .int .i64 why]]) ∧ Below w.heap.size w w' := by
 have hmf : ∀ (fn : Fn) (first cap : Array Value) (w : World), (Instr.makeFunc fn first cap).run Tryz.prog w = .ok (.func fn first cap) w := fun _ _ _ _ => rfl
 go_enter_defers Tryz.func64, Tryz.ntmps64
 go_wp2_with fail
 have b0 : Below w.heap.size w ((w.alloc (.cells #[.string ⟨#[]⟩, .int .i64 0, .int .i64 0, .int .i64 0, .int .i64 0, .int .i64 0, .int .i64 0, .int .i64 0, .int .i64 0, .int .i64 0, .string ⟨#[]⟩] 27)).alloc (.cells #[.int .i64 0, .int .i64 0] 84)) := ((Below.refl _ _).alloc (Nat.le_refl _) _).alloc (by simp) _
 refine (CG.out _ b0).mono ?_; rintro e w1 ⟨rfl, b1⟩
 have B1 := Lib.hid (below_step b0 b1)
 have P1 : Bk11 w1 w.heap.size (.string ⟨#[]⟩) (.int .i64 0) (.int .i64 0) (.int .i64 0) (.int .i64 0) (.int .i64 0) (.int .i64 0) (.int .i64 0) (.int .i64 0) (.int .i64 0) (.string ⟨#[]⟩) := by refine Bk11.of b1 (by simp <;> omega) (by intro j; simp [go_sem]) ?_ ?_ ?_ ?_ ?_ ?_ ?_ ?_ ?_ ?_ ?_ <;> simp [go_sem]
 have Q1 : Bk2 w1 (w.heap.size + 1) (.int .i64 0) (.int .i64 0) := by refine Bk2.of b1 (by simp <;> omega) (by intro j; simp [go_sem]) ?_ ?_ <;> simp [go_sem]
 have hz := Lib.hid B1.out.size
 clear b1 b0
 have c_b := Q1.hb; have c_f := Q1.fz; have c_0 := Q1.k0; have c_1 := Q1.k1
 have p_b := P1.hb; have p_f := P1.fz; have p_0 := P1.k0; have p_1 := P1.k1; have p_2 := P1.k2; have p_3 := P1.k3; have p_4 := P1.k4; have p_5 := P1.k5; have p_6 := P1.k6; have p_7 := P1.k7; have p_8 := P1.k8; have p_9 := P1.k9; have p_10 := P1.k10
 clear Q1 P1
 refine (show bodyPostD _ _ _ (Exit.panic (gvL line why)) _ _ from ?_)
 refine leaves_cons (f := 100) (args := #[.pointer (some ⟨w.heap.size + 1, 0, none⟩)]) (by simp) (by simp [go_sem]) ?_
 refine (ucatch (w.heap.size + 1) 0 0 line why [] _ c_b c_0 c_1 c_f).mono ?_
 rintro e u' w'' ⟨rfl, rfl, rfl⟩
 simp [Leaves, settle, results, Tryz.results64, go_sem, c_b, c_0, c_1, c_f, p_b, p_0, p_1, p_2, p_3, p_4, p_5, p_6, p_7, p_8, p_9, p_10, p_f]
 clear c_b c_f c_0 c_1 p_b p_f p_0 p_1 p_2 p_3 p_4 p_5 p_6 p_7 p_8 p_9 p_10
 refine Below.alloc (Below.setCell (Below.setCell B1.out (by first | omega | (simp; done) | (simp; omega)) _) (by first | omega | (simp; done) | (simp; omega)) _) (by simp; exact hz.out) _
set_option maxHeartbeats 1000000 in
set_option maxRecDepth 100000 in
theorem ucaught_yes (g : FuncId) (qs : Array Value) (hg : ∀ W, Sem.run Tryz.prog (callFunc g qs) W = .ok (.enter g qs) W) (s : ByteArray) (fy : Int) (ty : Int) (m : Int) (k : Int) (wk : Int) (d : Int) (sec : Int) (base : Int) (save : Int) (t : ByteArray) (w : World)
  (CG : Hid (∀ W, Below w.heap.size w W → Calls Tryz.prog g qs W fun e w' => e = .returned (.agg #[.string s, .int .i64 fy, .int .i64 ty, .int .i64 m, .int .i64 k, .int .i64 wk, .int .i64 d, .int .i64 sec, .int .i64 base, .int .i64 save, .string t]) ∧ Below W.heap.size W w')) :
  Calls Tryz.prog 31 #[.func (Fn.func g) #[] qs] w fun e w' => e = .returned (.tuple #[.agg #[.string s, .int .i64 fy, .int .i64 ty, .int .i64 m, .int .i64 k, .int .i64 wk, .int .i64 d, .int .i64 sec, .int .i64 base, .int .i64 save, .string t], .int .i64 0]) ∧ Below w.heap.size w w' := by
 go_enter Tryz.func31, Tryz.ntmps31
 go_wp2_with fail
 refine (ucaughtat_yes g qs hg s fy ty m k wk d sec base save t _ (Lib.hid fun W hW => CG.out W (((Below.refl _ _).alloc (Nat.le_refl _) _).trans (hW.mono (by simp))))).mono ?_; rintro e w1 ⟨rfl, b1⟩
 have d1 : Below w.heap.size w w1 := below_step gr0 b1
 have B1 := Lib.hid d1
 have R1 : Bk11 w1 (w.heap.size) (.string ⟨#[]⟩) (.int .i64 0) (.int .i64 0) (.int .i64 0) (.int .i64 0) (.int .i64 0) (.int .i64 0) (.int .i64 0) (.int .i64 0) (.int .i64 0) (.string ⟨#[]⟩) := by refine Bk11.of b1 (by simp <;> omega) (by intro j; simp [go_sem]) ?_ ?_ ?_ ?_ ?_ ?_ ?_ ?_ ?_ ?_ ?_ <;> simp [go_sem]
 clear b1 d1
 have tx := R1; obtain ⟨cR_b, cR_f, cR_0, cR_1, cR_2, cR_3, cR_4, cR_5, cR_6, cR_7, cR_8, cR_9, cR_10⟩ := tx
 go_wp2_with fail
 clear cR_b cR_f cR_0 cR_1 cR_2 cR_3 cR_4 cR_5 cR_6 cR_7 cR_8 cR_9 cR_10
 refine wp_named ?_; intro w2 hw2
 have d2 : Below w1.heap.size w1 w2 := by rw [hw2]; exact gr0
 have B2 := Lib.hid (below_step B1.out d2)
 have R2 := R1.keep d2
 have aY := B1.out.size
 have nYR := Nat.ne_of_lt R1.hb
 have oYR := Nat.ne_of_gt R1.hb
 have Y2 : Bk11 w2 (w1.heap.size) (.string s) (.int .i64 fy) (.int .i64 ty) (.int .i64 m) (.int .i64 k) (.int .i64 wk) (.int .i64 d) (.int .i64 sec) (.int .i64 base) (.int .i64 save) (.string t) := by rw [hw2]; exact ⟨by simp <;> omega, by intro j; simp [go_sem], by simp [go_sem], by simp [go_sem], by simp [go_sem], by simp [go_sem], by simp [go_sem], by simp [go_sem], by simp [go_sem], by simp [go_sem], by simp [go_sem], by simp [go_sem], by simp [go_sem]⟩
 have aZ := B1.out.size
 have nZR := Nat.ne_of_lt R1.hb
 have oZR := Nat.ne_of_gt R1.hb
 have Z2 : Bk2 w2 (w1.heap.size + 1) (.int .i64 0) (.int .i64 0) := by rw [hw2]; exact ⟨by simp <;> omega, by intro j; simp [go_sem], by simp [go_sem], by simp [go_sem]⟩
 clear R1 d2 hw2 B1
 have tx := R2; obtain ⟨cR_b, cR_f, cR_0, cR_1, cR_2, cR_3, cR_4, cR_5, cR_6, cR_7, cR_8, cR_9, cR_10⟩ := tx
 have tx := Y2; obtain ⟨cY_b, cY_f, cY_0, cY_1, cY_2, cY_3, cY_4, cY_5, cY_6, cY_7, cY_8, cY_9, cY_10⟩ := tx
 have tx := Z2; obtain ⟨cZ_b, cZ_f, cZ_0, cZ_1⟩ := tx
 go_big_region
 obtain ⟨W9, hW9⟩ : ∃ W9, W9 = (((((((((((w2.setCell ⟨w.heap.size, 0, none⟩ (.string s)).setCell ⟨w.heap.size, 1, none⟩ (.int .i64 fy)).setCell ⟨w.heap.size, 2, none⟩ (.int .i64 ty)).setCell ⟨w.heap.size, 3, none⟩ (.int .i64 m)).setCell ⟨w.heap.size, 4, none⟩ (.int .i64 k)).setCell ⟨w.heap.size, 5, none⟩ (.int .i64 wk)).setCell ⟨w.heap.size, 6, none⟩ (.int .i64 d)).setCell ⟨w.heap.size, 7, none⟩ (.int .i64 sec)).setCell ⟨w.heap.size, 8, none⟩ (.int .i64 base)).setCell ⟨w.heap.size, 9, none⟩ (.int .i64 save)).setCell ⟨w.heap.size, 10, none⟩ (.string t)).drew := ⟨_, rfl⟩
 rw [← hW9]
 obtain ⟨W8, hW8⟩ : ∃ W8, W8 = (((((((((((w2.setCell ⟨w.heap.size, 0, none⟩ (.string s)).setCell ⟨w.heap.size, 1, none⟩ (.int .i64 fy)).setCell ⟨w.heap.size, 2, none⟩ (.int .i64 ty)).setCell ⟨w.heap.size, 3, none⟩ (.int .i64 m)).setCell ⟨w.heap.size, 4, none⟩ (.int .i64 k)).setCell ⟨w.heap.size, 5, none⟩ (.int .i64 wk)).setCell ⟨w.heap.size, 6, none⟩ (.int .i64 d)).setCell ⟨w.heap.size, 7, none⟩ (.int .i64 sec)).setCell ⟨w.heap.size, 8, none⟩ (.int .i64 base)).setCell ⟨w.heap.size, 9, none⟩ (.int .i64 save)).setCell ⟨w.heap.size, 10, none⟩ (.string t)) := ⟨_, rfl⟩
 rw [← hW8] at hW9
 have C0 := set11 R2 hW8
 have d0 := below_set11 B2.out (Nat.le_refl _) hW8
 have C := C0.keep (Below.drew (Below.refl _ _))
 have d9 := d0.drew
 rw [← hW9] at C d9
 clear hW8 hW9 C0 d0
 have e0 := C.k0; have e1 := C.k1; have e2 := C.k2; have e3 := C.k3; have e4 := C.k4; have e5 := C.k5; have e6 := C.k6; have e7 := C.k7; have e8 := C.k8; have e9 := C.k9; have e10 := C.k10
 clear C R2 Y2 Z2
 go_wp2_with fail
 exact bodyPost_ret (v := .tuple #[.agg #[.string s, .int .i64 fy, .int .i64 ty, .int .i64 m, .int .i64 k, .int .i64 wk, .int .i64 d, .int .i64 sec, .int .i64 base, .int .i64 save, .string t], .int .i64 0]) (by simp [results, Tryz.results31, go_sem, e0, e1, e2, e3, e4, e5, e6, e7, e8, e9, e10]) rfl ⟨rfl, d9⟩
set_option maxHeartbeats 1000000 in
set_option maxRecDepth 100000 in
theorem ucaught_no (g : FuncId) (qs : Array Value) (hg : ∀ W, Sem.run Tryz.prog (callFunc g qs) W = .ok (.enter g qs) W) (line why : Int) (w : World)
  (CG : Hid (∀ W, Below w.heap.size w W → Calls Tryz.prog g qs W fun e w' => e = .panicked (gvL line why) ∧ Below W.heap.size W w')) :
  Calls Tryz.prog 31 #[.func (Fn.func g) #[] qs] w fun e w' => e = .returned (.tuple #[.agg #[.string ⟨#[]⟩, .int .i64 0, .int .i64 0, .int .i64 0, .int .i64 0, .int .i64 0, .int .i64 0, .int .i64 0, .int .i64 0, .int .i64 0, .string ⟨#[]⟩], .int .i64 why]) ∧ Below w.heap.size w w' := by
 go_enter Tryz.func31, Tryz.ntmps31
 go_wp2_with fail
 refine (ucaughtat_no g qs hg line why _ (Lib.hid fun W hW => CG.out W (((Below.refl _ _).alloc (Nat.le_refl _) _).trans (hW.mono (by simp))))).mono ?_; rintro e w1 ⟨rfl, b1⟩
 have d1 : Below w.heap.size w w1 := below_step gr0 b1
 have B1 := Lib.hid d1
 have R1 : Bk11 w1 (w.heap.size) (.string ⟨#[]⟩) (.int .i64 0) (.int .i64 0) (.int .i64 0) (.int .i64 0) (.int .i64 0) (.int .i64 0) (.int .i64 0) (.int .i64 0) (.int .i64 0) (.string ⟨#[]⟩) := by refine Bk11.of b1 (by simp <;> omega) (by intro j; simp [go_sem]) ?_ ?_ ?_ ?_ ?_ ?_ ?_ ?_ ?_ ?_ ?_ <;> simp [go_sem]
 clear b1 d1
 have tx := R1; obtain ⟨cR_b, cR_f, cR_0, cR_1, cR_2, cR_3, cR_4, cR_5, cR_6, cR_7, cR_8, cR_9, cR_10⟩ := tx
 go_wp2_with fail
 clear cR_b cR_f cR_0 cR_1 cR_2 cR_3 cR_4 cR_5 cR_6 cR_7 cR_8 cR_9 cR_10
 refine wp_named ?_; intro w2 hw2
 have d2 : Below w1.heap.size w1 w2 := by rw [hw2]; exact gr0
 have B2 := Lib.hid (below_step B1.out d2)
 have R2 := R1.keep d2
 have aY := B1.out.size
 have nYR := Nat.ne_of_lt R1.hb
 have oYR := Nat.ne_of_gt R1.hb
 have Y2 : Bk11 w2 (w1.heap.size) (.string ⟨#[]⟩) (.int .i64 0) (.int .i64 0) (.int .i64 0) (.int .i64 0) (.int .i64 0) (.int .i64 0) (.int .i64 0) (.int .i64 0) (.int .i64 0) (.string ⟨#[]⟩) := by rw [hw2]; exact ⟨by simp <;> omega, by intro j; simp [go_sem], by simp [go_sem], by simp [go_sem], by simp [go_sem], by simp [go_sem], by simp [go_sem], by simp [go_sem], by simp [go_sem], by simp [go_sem], by simp [go_sem], by simp [go_sem], by simp [go_sem]⟩
 have aZ := B1.out.size
 have nZR := Nat.ne_of_lt R1.hb
 have oZR := Nat.ne_of_gt R1.hb
 have Z2 : Bk2 w2 (w1.heap.size + 1) (.int .i64 line) (.int .i64 why) := by rw [hw2]; exact ⟨by simp <;> omega, by intro j; simp [go_sem], by simp [go_sem], by simp [go_sem]⟩
 clear R1 d2 hw2 B1
 have tx := R2; obtain ⟨cR_b, cR_f, cR_0, cR_1, cR_2, cR_3, cR_4, cR_5, cR_6, cR_7, cR_8, cR_9, cR_10⟩ := tx
 have tx := Y2; obtain ⟨cY_b, cY_f, cY_0, cY_1, cY_2, cY_3, cY_4, cY_5, cY_6, cY_7, cY_8, cY_9, cY_10⟩ := tx
 have tx := Z2; obtain ⟨cZ_b, cZ_f, cZ_0, cZ_1⟩ := tx
 go_big_region
 obtain ⟨W9, hW9⟩ : ∃ W9, W9 = (((((((((((w2.setCell ⟨w.heap.size, 0, none⟩ (.string ⟨#[]⟩)).setCell ⟨w.heap.size, 1, none⟩ (.int .i64 0)).setCell ⟨w.heap.size, 2, none⟩ (.int .i64 0)).setCell ⟨w.heap.size, 3, none⟩ (.int .i64 0)).setCell ⟨w.heap.size, 4, none⟩ (.int .i64 0)).setCell ⟨w.heap.size, 5, none⟩ (.int .i64 0)).setCell ⟨w.heap.size, 6, none⟩ (.int .i64 0)).setCell ⟨w.heap.size, 7, none⟩ (.int .i64 0)).setCell ⟨w.heap.size, 8, none⟩ (.int .i64 0)).setCell ⟨w.heap.size, 9, none⟩ (.int .i64 0)).setCell ⟨w.heap.size, 10, none⟩ (.string ⟨#[]⟩)).drew := ⟨_, rfl⟩
 rw [← hW9]
 obtain ⟨W8, hW8⟩ : ∃ W8, W8 = (((((((((((w2.setCell ⟨w.heap.size, 0, none⟩ (.string ⟨#[]⟩)).setCell ⟨w.heap.size, 1, none⟩ (.int .i64 0)).setCell ⟨w.heap.size, 2, none⟩ (.int .i64 0)).setCell ⟨w.heap.size, 3, none⟩ (.int .i64 0)).setCell ⟨w.heap.size, 4, none⟩ (.int .i64 0)).setCell ⟨w.heap.size, 5, none⟩ (.int .i64 0)).setCell ⟨w.heap.size, 6, none⟩ (.int .i64 0)).setCell ⟨w.heap.size, 7, none⟩ (.int .i64 0)).setCell ⟨w.heap.size, 8, none⟩ (.int .i64 0)).setCell ⟨w.heap.size, 9, none⟩ (.int .i64 0)).setCell ⟨w.heap.size, 10, none⟩ (.string ⟨#[]⟩)) := ⟨_, rfl⟩
 rw [← hW8] at hW9
 have C0 := set11 R2 hW8
 have d0 := below_set11 B2.out (Nat.le_refl _) hW8
 have C := C0.keep (Below.drew (Below.refl _ _))
 have d9 := d0.drew
 rw [← hW9] at C d9
 clear hW8 hW9 C0 d0
 have e0 := C.k0; have e1 := C.k1; have e2 := C.k2; have e3 := C.k3; have e4 := C.k4; have e5 := C.k5; have e6 := C.k6; have e7 := C.k7; have e8 := C.k8; have e9 := C.k9; have e10 := C.k10
 clear C R2 Y2 Z2
 go_wp2_with fail
 exact bodyPost_ret (v := .tuple #[.agg #[.string ⟨#[]⟩, .int .i64 0, .int .i64 0, .int .i64 0, .int .i64 0, .int .i64 0, .int .i64 0, .int .i64 0, .int .i64 0, .int .i64 0, .string ⟨#[]⟩], .int .i64 why]) (by simp [results, Tryz.results31, go_sem, e0, e1, e2, e3, e4, e5, e6, e7, e8, e9, e10]) rfl ⟨rfl, d9⟩
set_option maxRecDepth 100000 in
theorem ruread1_other (p : Nat) (v : Value) (l : List ByteArray) (w : World) (hc : w.cell? ⟨p, 0, none⟩ = some v) (S : StS w v l) (hl : l.length < 9 ∨ (9 < l.length ∧ l.length ≤ 1000000)) :
  Calls Tryz.prog 32 #[.pointer (some ⟨p, 0, none⟩)] w fun e w' => Below w.heap.size w w' ∧ (Ru.rd l).2 ≠ 0 ∧ e = .panicked (gvP (Ru.rd l).2) := by
 obtain ⟨A, c, rfl, -⟩ := S
 have hp : p < w.heap.size := World.block_lt_of_cell? _ _ hc
 have n1 : p ≠ w.heap.size := Nat.ne_of_lt hp
 rw [Ru.rd_other (by omega)]
 obtain ⟨N, hN⟩ : ∃ N, N = l.length := ⟨_, rfl⟩
 rw [← hN] at hl hc ⊢
 clear hN
 by_cases h : N < 9
 ·
  rw [if_pos h]
  have g : ¬ 9 ≤ (N : Int) := by omega
  clear h hl
  go_enter Tryz.func32, Tryz.ntmps32
  go_wp2_with fail
  try rw [show decide ((9 : Int) ≤ (N : Int)) = false from decide_eq_false (by omega)]
  refine (need_no 5 _).mono ?_; rintro e w1 ⟨rfl, rfl⟩
  refine (show bodyPost _ _ _ (Exit.panic (gvP 5)) _ _ from ?_)
  simp only [bodyPost]
  exact ⟨trivial, (Below.refl _ _).alloc (Nat.le_refl _) _, by decide, by first | rfl | trivial⟩
 ·
  rw [if_neg h]
  have h2 : 9 < N ∧ N ≤ 1000000 := by omega
  have g : 9 ≤ (N : Int) := by omega
  have g2 : ¬ (N : Int) ≤ 9 := by omega
  clear h hl
  go_enter Tryz.func32, Tryz.ntmps32
  go_wp2_with fail
  try rw [show decide ((9 : Int) ≤ (N : Int)) = true from decide_eq_true (by omega)]
  refine (need_yes 5 _).mono ?_; rintro e w1 ⟨rfl, rfl⟩
  go_wp2_with fail
  try rw [show decide ((N : Int) ≤ 9) = false from decide_eq_false (by omega)]
  refine (need_no 6 _).mono ?_; rintro e w1 ⟨rfl, rfl⟩
  refine (show bodyPost _ _ _ (Exit.panic (gvP 6)) _ _ from ?_)
  simp only [bodyPost]
  exact ⟨trivial, (Below.refl _ _).alloc (Nat.le_refl _) _, by decide, by first | rfl | trivial⟩
set_option maxHeartbeats 4000000 in
set_option maxRecDepth 100000 in
theorem ruread1_nine (p : Nat) (v : Value) (f0 f1 f2 f3 f4 f5 f6 f7 f8 : ByteArray) (w : World) (hc : w.cell? ⟨p, 0, none⟩ = some v) (S : StS w v [f0, f1, f2, f3, f4, f5, f6, f7, f8]) (hz : ∀ x ∈ [f0, f1, f2, f3, f4, f5, f6, f7, f8], x.size ≤ 600) (tp : TypeId) (pp : Value) (y : Int) (L : Ru.Lv w tp pp y) :
  Calls Tryz.prog 32 #[.pointer (some ⟨p, 0, none⟩)] w fun e w' => Below w.heap.size w w' ∧ ((Ru.fst (Ru.ws f0 f1 f2 f3 f4 f5 f6 f7 f8) = 0 ∧ e = .returned (Ru.rl f0 f1 f2 f4 f5 f6 f7 f8).v) ∨ (Ru.fst (Ru.ws f0 f1 f2 f3 f4 f5 f6 f7 f8) ≠ 0 ∧ e = .panicked (gvP (Ru.fst (Ru.ws f0 f1 f2 f3 f4 f5 f6 f7 f8))))) := by
 have RN := Lib.hid (fun W (b : Below w.heap.size w W) => ruread_nine v f0 f1 f2 f3 f4 f5 f6 f7 f8 W (S.on b) hz tp pp y (L.on b))
 obtain ⟨A, c, rfl, -⟩ := S
 have hp : p < w.heap.size := World.block_lt_of_cell? _ _ hc
 have n1 : p ≠ w.heap.size := Nat.ne_of_lt hp
 clear hz L
 generalize Ru.fst (Ru.ws f0 f1 f2 f3 f4 f5 f6 f7 f8) = F at *
 generalize Ru.rl f0 f1 f2 f4 f5 f6 f7 f8 = R at *
 obtain ⟨s, fy, ty, m, k, wk, d, sec, base, save, t⟩ := R
 unfold Ru.R.v at RN ⊢
 go_enter Tryz.func32, Tryz.ntmps32
 go_wp2_with fail
 refine (need_yes 5 _).mono ?_; rintro e w1 ⟨rfl, rfl⟩
 go_wp2_with fail
 refine (need_yes 6 _).mono ?_; rintro e w1 ⟨rfl, rfl⟩
 go_wp2_with fail
 refine (RN.out _ ((Below.refl _ _).alloc (Nat.le_refl _) _)).mono ?_; rintro e w1 ⟨b1, ⟨h0, rfl⟩ | ⟨h0, rfl⟩⟩
 ·
  subst h0
  have B1 := Lib.hid (below_step ((Below.refl _ _).alloc (Nat.le_refl _) _) b1)
  have Q1 : Bk11 w1 w.heap.size (.string ⟨#[]⟩) (.int .i64 0) (.int .i64 0) (.int .i64 0) (.int .i64 0) (.int .i64 0) (.int .i64 0) (.int .i64 0) (.int .i64 0) (.int .i64 0) (.string ⟨#[]⟩) := Bk11.of b1 (by simp) (by intro j; simp [go_sem]) (by simp [go_sem]) (by simp [go_sem]) (by simp [go_sem]) (by simp [go_sem]) (by simp [go_sem]) (by simp [go_sem]) (by simp [go_sem]) (by simp [go_sem]) (by simp [go_sem]) (by simp [go_sem]) (by simp [go_sem])
  clear b1
  have q_b := Q1.hb; have q_f := Q1.fz; have q_0 := Q1.k0; have q_1 := Q1.k1; have q_2 := Q1.k2; have q_3 := Q1.k3; have q_4 := Q1.k4; have q_5 := Q1.k5; have q_6 := Q1.k6; have q_7 := Q1.k7; have q_8 := Q1.k8; have q_9 := Q1.k9; have q_10 := Q1.k10
  go_wp2_with fail
  obtain ⟨W9, hW9⟩ : ∃ W9, W9 = (((((((((((w1.setCell ⟨w.heap.size, 0, none⟩ (.string s)).setCell ⟨w.heap.size, 1, none⟩ (.int .i64 fy)).setCell ⟨w.heap.size, 2, none⟩ (.int .i64 ty)).setCell ⟨w.heap.size, 3, none⟩ (.int .i64 m)).setCell ⟨w.heap.size, 4, none⟩ (.int .i64 k)).setCell ⟨w.heap.size, 5, none⟩ (.int .i64 wk)).setCell ⟨w.heap.size, 6, none⟩ (.int .i64 d)).setCell ⟨w.heap.size, 7, none⟩ (.int .i64 sec)).setCell ⟨w.heap.size, 8, none⟩ (.int .i64 base)).setCell ⟨w.heap.size, 9, none⟩ (.int .i64 save)).setCell ⟨w.heap.size, 10, none⟩ (.string t)) := ⟨_, rfl⟩
  rw [← hW9]
  have C := set11 Q1 hW9
  have d9 := below_set11 B1.out (Nat.le_refl _) hW9
  clear hW9 Q1 q_b q_f q_0 q_1 q_2 q_3 q_4 q_5 q_6 q_7 q_8 q_9 q_10
  have e0 := C.k0; have e1 := C.k1; have e2 := C.k2; have e3 := C.k3; have e4 := C.k4; have e5 := C.k5; have e6 := C.k6; have e7 := C.k7; have e8 := C.k8; have e9 := C.k9; have e10 := C.k10
  clear C
  exact bodyPost_ret (v := .agg #[.string s, .int .i64 fy, .int .i64 ty, .int .i64 m, .int .i64 k, .int .i64 wk, .int .i64 d, .int .i64 sec, .int .i64 base, .int .i64 save, .string t]) (by simp [results, Tryz.results32, go_sem, e0, e1, e2, e3, e4, e5, e6, e7, e8, e9, e10]) rfl ⟨d9, rfl⟩
 ·
  refine (show bodyPost _ _ _ (Exit.panic (gvP F)) _ _ from ?_)
  simp only [bodyPost]
  exact ⟨trivial, below_step ((Below.refl _ _).alloc (Nat.le_refl _) _) b1, .inr ⟨h0, by first | rfl | trivial⟩⟩
set_option maxRecDepth 100000 in
theorem ru_callFn (qs : Array Value) (W : World) : Sem.run Tryz.prog (callFunc 32 qs) W = .ok (.enter 32 qs) W := rfl
namespace Ru
theorem rd_nine (f0 f1 f2 f3 f4 f5 f6 f7 f8 : ByteArray) : rd [f0, f1, f2, f3, f4, f5, f6, f7, f8] = if fst (ws f0 f1 f2 f3 f4 f5 f6 f7 f8) = 0 then (rl f0 f1 f2 f4 f5 f6 f7 f8, 0) else (R0, fst (ws f0 f1 f2 f3 f4 f5 f6 f7 f8)) := rfl
theorem rd_no (l : List ByteArray) (h : (rd l).2 ≠ 0) : (rd l).1 = R0 := by
 by_cases h9 : l.length = 9
 ·
  obtain ⟨f0, f1, f2, f3, f4, f5, f6, f7, f8, rfl⟩ := nine l h9
  rw [rd_nine] at h ⊢
  by_cases h0 : fst (ws f0 f1 f2 f3 f4 f5 f6 f7 f8) = 0
  ·
   rw [if_pos h0] at h; exact absurd rfl h
  ·
   rw [if_neg h0]
 ·
  rw [rd_other (by omega)]
end Ru
set_option maxHeartbeats 4000000 in
set_option maxRecDepth 100000 in
theorem ruRead_any (v : Value) (l : List ByteArray) (w : World) (S : StS w v l) (hl : l.length ≤ 1000000) (hz : ∀ y ∈ l, y.size ≤ 600) (tp : TypeId) (pp : Value) (y : Int) (L : Ru.Lv w tp pp y) :
  Calls Tryz.prog 8 #[v] w fun e w' => e = .returned (.tuple #[(Ru.rd l).1.v, .int .i64 (Ru.rd l).2]) ∧ Below w.heap.size w w' := by
 have C : ∀ p W, W.cell? ⟨p, 0, none⟩ = some v → StS W v l → Ru.Lv W tp pp y → Calls Tryz.prog 32 #[.pointer (some ⟨p, 0, none⟩)] W fun e w' => Below W.heap.size W w' ∧ (((Ru.rd l).2 = 0 ∧ e = .returned (Ru.rd l).1.v) ∨ ((Ru.rd l).2 ≠ 0 ∧ e = .panicked (gvP (Ru.rd l).2))) := fun p W hc hS hL => by
  by_cases h : l.length = 9
  ·
   obtain ⟨f0, f1, f2, f3, f4, f5, f6, f7, f8, rfl⟩ := Ru.nine l h
   refine (ruread1_nine p v f0 f1 f2 f3 f4 f5 f6 f7 f8 W hc hS hz tp pp y hL).mono ?_
   rintro e w' ⟨h1, ⟨h2, h3⟩ | ⟨h2, h3⟩⟩
   ·
    rw [Ru.rd_nine, if_pos h2]; exact ⟨h1, .inl ⟨rfl, h3⟩⟩
   ·
    rw [Ru.rd_nine, if_neg h2]; exact ⟨h1, .inr ⟨h2, h3⟩⟩
  ·
   exact (ruread1_other p v l W hc hS (by omega)).mono fun e w' ⟨h1, h2, h3⟩ => ⟨h1, .inr ⟨h2, h3⟩⟩
 have C := Lib.hid C
 have hno := Ru.rd_no l
 have HS := Lib.hid S
 have HL := Lib.hid L
 have hv : ∃ A n c, v = .slice A n c := by obtain ⟨A, c, rfl, -⟩ := S; exact ⟨A, _, c, rfl⟩
 obtain ⟨A, n, c, rfl⟩ := hv
 clear S hz hl L
 generalize Ru.rd l = R at C hno ⊢
 obtain ⟨⟨s, fy, ty, m, k, wk, d, sec, base, save, t⟩, why⟩ := R
 by_cases h0 : why = 0
 ·
  subst h0
  unfold Ru.R.v at C ⊢
  have T := Lib.hid (fun b W (hc : W.cell? ⟨b, 0, none⟩ = some (.slice A n c)) (hS : StS W (.slice A n c) l) (hL : Ru.Lv W tp pp y) => ucaught_yes 32 #[.pointer (some ⟨b, 0, none⟩)] (ru_callFn _) s fy ty m k wk d sec base save t W (Lib.hid fun W' hB => (C.out b W' (fd_keep hc hB) (hS.on hB) (hL.on hB)).mono (by
   rintro e w' ⟨h1, ⟨-, h2⟩ | ⟨h2, -⟩⟩
   ·
    exact ⟨h2, h1⟩
   ·
    exact absurd rfl h2)))
  clear C hno
  go_enter Tryz.func8, Tryz.ntmps8
  go_wp2_with fail
  have b0 : Below w.heap.size w ((w.alloc (.cells #[.slice A n c] 34)).alloc (.cells #[.string ⟨#[]⟩, .int .i64 0, .int .i64 0, .int .i64 0, .int .i64 0, .int .i64 0, .int .i64 0, .int .i64 0, .int .i64 0, .int .i64 0, .string ⟨#[]⟩] 27)) := ((Below.refl _ _).alloc (Nat.le_refl _) _).alloc (by simp) _
  refine (T.out w.heap.size _ (by simp [go_sem]) (HS.out.on b0) (HL.out.on b0)).mono ?_; rintro e w1 ⟨rfl, b1⟩
  have B1 := Lib.hid (below_step b0 b1)
  have Q1 : Bk11 w1 (w.heap.size + 1) (.string ⟨#[]⟩) (.int .i64 0) (.int .i64 0) (.int .i64 0) (.int .i64 0) (.int .i64 0) (.int .i64 0) (.int .i64 0) (.int .i64 0) (.int .i64 0) (.string ⟨#[]⟩) := Bk11.of b1 (by simp) (by intro j; simp [go_sem]) (by simp [go_sem]) (by simp [go_sem]) (by simp [go_sem]) (by simp [go_sem]) (by simp [go_sem]) (by simp [go_sem]) (by simp [go_sem]) (by simp [go_sem]) (by simp [go_sem]) (by simp [go_sem]) (by simp [go_sem])
  clear b1 b0
  have q_b := Q1.hb; have q_f := Q1.fz; have q_0 := Q1.k0; have q_1 := Q1.k1; have q_2 := Q1.k2; have q_3 := Q1.k3; have q_4 := Q1.k4; have q_5 := Q1.k5; have q_6 := Q1.k6; have q_7 := Q1.k7; have q_8 := Q1.k8; have q_9 := Q1.k9; have q_10 := Q1.k10
  go_wp2_with fail
  obtain ⟨W9, hW9⟩ : ∃ W9, W9 = (((((((((((w1.setCell ⟨w.heap.size + 1, 0, none⟩ (.string s)).setCell ⟨w.heap.size + 1, 1, none⟩ (.int .i64 fy)).setCell ⟨w.heap.size + 1, 2, none⟩ (.int .i64 ty)).setCell ⟨w.heap.size + 1, 3, none⟩ (.int .i64 m)).setCell ⟨w.heap.size + 1, 4, none⟩ (.int .i64 k)).setCell ⟨w.heap.size + 1, 5, none⟩ (.int .i64 wk)).setCell ⟨w.heap.size + 1, 6, none⟩ (.int .i64 d)).setCell ⟨w.heap.size + 1, 7, none⟩ (.int .i64 sec)).setCell ⟨w.heap.size + 1, 8, none⟩ (.int .i64 base)).setCell ⟨w.heap.size + 1, 9, none⟩ (.int .i64 save)).setCell ⟨w.heap.size + 1, 10, none⟩ (.string t)) := ⟨_, rfl⟩
  rw [← hW9]
  have C := set11 Q1 hW9
  have d9 := below_set11 B1.out (Nat.le_succ _) hW9
  clear hW9 Q1 q_b q_f q_0 q_1 q_2 q_3 q_4 q_5 q_6 q_7 q_8 q_9 q_10
  have e0 := C.k0; have e1 := C.k1; have e2 := C.k2; have e3 := C.k3; have e4 := C.k4; have e5 := C.k5; have e6 := C.k6; have e7 := C.k7; have e8 := C.k8; have e9 := C.k9; have e10 := C.k10
  clear C
  exact bodyPost_ret (v := .tuple #[.agg #[.string s, .int .i64 fy, .int .i64 ty, .int .i64 m, .int .i64 k, .int .i64 wk, .int .i64 d, .int .i64 sec, .int .i64 base, .int .i64 save, .string t], .int .i64 0]) (by simp [results, Tryz.results8, go_sem, e0, e1, e2, e3, e4, e5, e6, e7, e8, e9, e10]) rfl ⟨rfl, d9⟩
 ·
  have hxy := hno h0
  unfold Ru.R0 at hxy
  injection hxy with h_0 h_1 h_2 h_3 h_4 h_5 h_6 h_7 h_8 h_9 h_10
  subst h_0; subst h_1; subst h_2; subst h_3; subst h_4; subst h_5; subst h_6; subst h_7; subst h_8; subst h_9; subst h_10
  unfold Ru.R.v at C ⊢
  have T := Lib.hid (fun b W (hc : W.cell? ⟨b, 0, none⟩ = some (.slice A n c)) (hS : StS W (.slice A n c) l) (hL : Ru.Lv W tp pp y) => ucaught_no 32 #[.pointer (some ⟨b, 0, none⟩)] (ru_callFn _) 0 why W (Lib.hid fun W' hB => (C.out b W' (fd_keep hc hB) (hS.on hB) (hL.on hB)).mono (by
   rintro e w' ⟨h1, ⟨h2, -⟩ | ⟨-, h2⟩⟩
   ·
    exact absurd h2 h0
   ·
    exact ⟨h2, h1⟩)))
  clear C hno
  go_enter Tryz.func8, Tryz.ntmps8
  go_wp2_with fail
  have b0 : Below w.heap.size w ((w.alloc (.cells #[.slice A n c] 34)).alloc (.cells #[.string ⟨#[]⟩, .int .i64 0, .int .i64 0, .int .i64 0, .int .i64 0, .int .i64 0, .int .i64 0, .int .i64 0, .int .i64 0, .int .i64 0, .string ⟨#[]⟩] 27)) := ((Below.refl _ _).alloc (Nat.le_refl _) _).alloc (by simp) _
  refine (T.out w.heap.size _ (by simp [go_sem]) (HS.out.on b0) (HL.out.on b0)).mono ?_; rintro e w1 ⟨rfl, b1⟩
  have B1 := Lib.hid (below_step b0 b1)
  have Q1 : Bk11 w1 (w.heap.size + 1) (.string ⟨#[]⟩) (.int .i64 0) (.int .i64 0) (.int .i64 0) (.int .i64 0) (.int .i64 0) (.int .i64 0) (.int .i64 0) (.int .i64 0) (.int .i64 0) (.string ⟨#[]⟩) := Bk11.of b1 (by simp) (by intro j; simp [go_sem]) (by simp [go_sem]) (by simp [go_sem]) (by simp [go_sem]) (by simp [go_sem]) (by simp [go_sem]) (by simp [go_sem]) (by simp [go_sem]) (by simp [go_sem]) (by simp [go_sem]) (by simp [go_sem]) (by simp [go_sem])
  clear b1 b0
  have q_b := Q1.hb; have q_f := Q1.fz; have q_0 := Q1.k0; have q_1 := Q1.k1; have q_2 := Q1.k2; have q_3 := Q1.k3; have q_4 := Q1.k4; have q_5 := Q1.k5; have q_6 := Q1.k6; have q_7 := Q1.k7; have q_8 := Q1.k8; have q_9 := Q1.k9; have q_10 := Q1.k10
  go_wp2_with fail
  obtain ⟨W9, hW9⟩ : ∃ W9, W9 = (((((((((((w1.setCell ⟨w.heap.size + 1, 0, none⟩ (.string ⟨#[]⟩)).setCell ⟨w.heap.size + 1, 1, none⟩ (.int .i64 0)).setCell ⟨w.heap.size + 1, 2, none⟩ (.int .i64 0)).setCell ⟨w.heap.size + 1, 3, none⟩ (.int .i64 0)).setCell ⟨w.heap.size + 1, 4, none⟩ (.int .i64 0)).setCell ⟨w.heap.size + 1, 5, none⟩ (.int .i64 0)).setCell ⟨w.heap.size + 1, 6, none⟩ (.int .i64 0)).setCell ⟨w.heap.size + 1, 7, none⟩ (.int .i64 0)).setCell ⟨w.heap.size + 1, 8, none⟩ (.int .i64 0)).setCell ⟨w.heap.size + 1, 9, none⟩ (.int .i64 0)).setCell ⟨w.heap.size + 1, 10, none⟩ (.string ⟨#[]⟩)) := ⟨_, rfl⟩
  rw [← hW9]
  have C := set11 Q1 hW9
  have d9 := below_set11 B1.out (Nat.le_succ _) hW9
  clear hW9 Q1 q_b q_f q_0 q_1 q_2 q_3 q_4 q_5 q_6 q_7 q_8 q_9 q_10
  have e0 := C.k0; have e1 := C.k1; have e2 := C.k2; have e3 := C.k3; have e4 := C.k4; have e5 := C.k5; have e6 := C.k6; have e7 := C.k7; have e8 := C.k8; have e9 := C.k9; have e10 := C.k10
  clear C
  exact bodyPost_ret (v := .tuple #[.agg #[.string ⟨#[]⟩, .int .i64 0, .int .i64 0, .int .i64 0, .int .i64 0, .int .i64 0, .int .i64 0, .int .i64 0, .int .i64 0, .int .i64 0, .string ⟨#[]⟩], .int .i64 why]) (by simp [results, Tryz.results8, go_sem, e0, e1, e2, e3, e4, e5, e6, e7, e8, e9, e10]) rfl ⟨rfl, d9⟩
end Go.Proofs.YtjggjkeopbcmoaaGreatDoor
