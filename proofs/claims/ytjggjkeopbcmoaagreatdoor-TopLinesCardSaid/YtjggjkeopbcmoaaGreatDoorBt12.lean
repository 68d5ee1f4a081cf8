/- Joined: GvE, ClBD. -/
import Derived.Test.YtjggjkeopbcmoaaGreatDoorBt01
import Derived.Test.YtjggjkeopbcmoaaGreatDoorBt07
import Derived.Test.YtjggjkeopbcmoaaGreatDoorBt05
import Derived.Test.YtjggjkeopbcmoaaGreatDoorBt02
set_option linter.unusedVariables false
set_option linter.unusedSimpArgs false
namespace Go.Proofs.YtjggjkeopbcmoaaGreatDoor
open Go.RowKit Go.Sort
set_option maxRecDepth 100000 in
theorem acatch (b : Nat) (x y line why : Int) (older : List PanicEntry) (w : World) (hb : b < w.heap.size) (hc : w.cell? ⟨b, 0, none⟩ = some (.int .i64 x)) (hd : w.cell? ⟨b, 1, none⟩ = some (.int .i64 y)) (hz : ∀ j, w.frozen? ⟨b, j, none⟩ = false) :
  CallsD Tryz.prog 167 #[.pointer (some ⟨b, 0, none⟩)] (.panicking ({ v := gvV line why, recovered := false } :: older)) w fun e u' w' =>
   e = .returned (.tuple #[]) ∧ u' = .panicking ({ v := gvV line why, recovered := true } :: older) ∧ w' = ((w.setCell ⟨b, 0, none⟩ (.int .i64 line)).setCell ⟨b, 1, none⟩ (.int .i64 why)).alloc (.cells #[.int .i64 line, .int .i64 why] 130) := by
 unfold gvV
 have hta := fun W => gv_assert line why W
 refine callsD_of_wpS Tryz.func167 rfl fun c₀ cs hu => ?_
 apply wpS_seq
 apply wpS_region
 simp [wpOpsS, go_sem, recoverD, hu, Tryz.ntmps167, Exit.thenS]
 refine wpS_of_wp ?_
 rw [show (#[Value.pointer (some ⟨b, 0, none⟩)] ++ (Array.replicate 11 undef).setIfInBounds 3 (Value.iface 130 (Value.agg #[Value.int IntKind.i64 line, Value.int IntKind.i64 why])) : Array Value) = #[.pointer (some ⟨b, 0, none⟩), undef, undef, undef, .iface 130 (.agg #[.int .i64 line, .int .i64 why]), undef, undef, undef, undef, undef, undef, undef] from rfl]
 have n1 : b ≠ w.heap.size := Nat.ne_of_lt hb
 have n2 : w.heap.size ≠ b := Nat.ne_of_gt hb
 go_wp2_with fail
 all_goals (cases c₀; simp_all [bodyPostS, results, Tryz.results167])
theorem aidle (p : Addr) (w : World) :
  CallsD Tryz.prog 167 #[.pointer (some p)] .returning w fun e u' w' => e = .returned (.tuple #[]) ∧ u' = .returning ∧ w' = w := by
 refine callsD_of_wpS Tryz.func167 rfl fun c₀ cs hu => ?_
 apply wpS_seq
 apply wpS_region
 simp [wpOpsS, go_sem, recoverD, hu, Tryz.ntmps167, Exit.thenS]
 refine wpS_of_wp ?_
 rw [show (#[Value.pointer (some p)] ++ (Array.replicate 11 undef).setIfInBounds 3 Value.nilIface : Array Value) = #[.pointer (some p), undef, undef, undef, .nilIface, undef, undef, undef, undef, undef, undef, undef] from rfl]
 go_wp2_with fail
 all_goals (cases c₀; simp_all [bodyPostS, results, Tryz.results167])
set_option maxHeartbeats 1000000 in
set_option maxRecDepth 100000 in
theorem acaughtat_yes (g : FuncId) (qs : Array Value) (hg : ∀ W, Sem.run Tryz.prog (callFunc g qs) W = .ok (.enter g qs) W) (x : Int) (y : Int) (w : World)
  (CG : Hid (∀ W, Below w.heap.size w W → Calls Tryz.prog g qs W fun e w' => e = .returned (.agg #[.int .i64 x, .int .i64 y]) ∧ Below W.heap.size W w')) :
  Calls Tryz.prog 142 #[.func (Fn.func g) #[] qs] w fun e w' => e = .returned (.tuple #[.agg #[.int .i64 x, .int .i64 y], .agg #[.int .i64 0, .int .i64 0]]) ∧ Below w.heap.size w w' := by
 have hmf : ∀ (fn : Fn) (first cap : Array Value) (w : World), (Instr.makeFunc fn first cap).run Tryz.prog w = .ok (.func fn first cap) w := fun _ _ _ _ => rfl
 go_enter_defers Tryz.func142, Tryz.ntmps142
 go_wp2_with fail
 have b0 : Below w.heap.size w ((w.alloc (.cells #[.int .i64 0, .int .i64 0] 25)).alloc (.cells #[.int .i64 0, .int .i64 0] 84)) := ((Below.refl _ _).alloc (Nat.le_refl _) _).alloc (by simp) _
 refine (CG.out _ b0).mono ?_; rintro e w1 ⟨rfl, b1⟩
 have B1 := Lib.hid (below_step b0 b1)
 have P1 : Bk2 w1 w.heap.size (.int .i64 0) (.int .i64 0) := by refine Bk2.of b1 (by simp <;> omega) (by intro j; simp [go_sem]) ?_ ?_ <;> simp [go_sem]
 have Q1 : Bk2 w1 (w.heap.size + 1) (.int .i64 0) (.int .i64 0) := by refine Bk2.of b1 (by simp <;> omega) (by intro j; simp [go_sem]) ?_ ?_ <;> simp [go_sem]
 have hz := Lib.hid B1.out.size
 clear b1 b0
 have c_b := Q1.hb; have c_f := Q1.fz; have c_0 := Q1.k0; have c_1 := Q1.k1
 have p_b := P1.hb; have p_f := P1.fz; have p_0 := P1.k0; have p_1 := P1.k1
 clear Q1 P1
 go_wp2_with fail
 refine leaves_cons (f := 167) (args := #[.pointer (some ⟨w.heap.size + 1, 0, none⟩)]) (by simp) (by simp [go_sem]) ?_
 refine (aidle ⟨w.heap.size + 1, 0, none⟩ _).mono ?_
 rintro e u' w'' ⟨rfl, rfl, rfl⟩
 simp [Leaves, settle, results, Tryz.results142, go_sem, c_b, c_0, c_1, c_f, p_b, p_0, p_1, p_f]
 clear c_b c_f c_0 c_1 p_b p_f p_0 p_1
 repeat (refine Below.setCell ?_ (by first | omega | (simp; done) | (simp; omega)) _)
 exact B1.out
set_option maxHeartbeats 1000000 in
set_option maxRecDepth 100000 in
theorem acaughtat_no (g : FuncId) (qs : Array Value) (hg : ∀ W, Sem.run Tryz.prog (callFunc g qs) W = .ok (.enter g qs) W) (line why : Int) (w : World)
  (CG : Hid (∀ W, Below w.heap.size w W → Calls Tryz.prog g qs W fun e w' => e = .panicked (gvL line why) ∧ Below W.heap.size W w')) :
  Calls Tryz.prog 142 #[.func (Fn.func g) #[] qs] w fun e w' => e = .returned (.tuple #[.agg #[.int .i64 0, .int .i64 0], .agg #[.int .i64 line, .int .i64 why]]) ∧ Below w.heap.size w w' := by
 have hmf : ∀ (fn : Fn) (first cap : Array Value) (w : World), (Instr.makeFunc fn first cap).run Tryz.prog w = .ok (.func fn first cap) w := fun _ _ _ _ => rfl
 go_enter_defers Tryz.func142, Tryz.ntmps142
 go_wp2_with fail
 have b0 : Below w.heap.size w ((w.alloc (.cells #[.int .i64 0, .int .i64 0] 25)).alloc (.cells #[.int .i64 0, .int .i64 0] 84)) := ((Below.refl _ _).alloc (Nat.le_refl _) _).alloc (by simp) _
 refine (CG.out _ b0).mono ?_; rintro e w1 ⟨rfl, b1⟩
 have B1 := Lib.hid (below_step b0 b1)
 have P1 : Bk2 w1 w.heap.size (.int .i64 0) (.int .i64 0) := by refine Bk2.of b1 (by simp <;> omega) (by intro j; simp [go_sem]) ?_ ?_ <;> simp [go_sem]
 have Q1 : Bk2 w1 (w.heap.size + 1) (.int .i64 0) (.int .i64 0) := by refine Bk2.of b1 (by simp <;> omega) (by intro j; simp [go_sem]) ?_ ?_ <;> simp [go_sem]
 have hz := Lib.hid B1.out.size
 clear b1 b0
 have c_b := Q1.hb; have c_f := Q1.fz; have c_0 := Q1.k0; have c_1 := Q1.k1
 have p_b := P1.hb; have p_f := P1.fz; have p_0 := P1.k0; have p_1 := P1.k1
 clear Q1 P1
 refine (show bodyPostD _ _ _ (Exit.panic (gvL line why)) _ _ from ?_)
 refine leaves_cons (f := 167) (args := #[.pointer (some ⟨w.heap.size + 1, 0, none⟩)]) (by simp) (by simp [go_sem]) ?_
 refine (acatch (w.heap.size + 1) 0 0 line why [] _ c_b c_0 c_1 c_f).mono ?_
 rintro e u' w'' ⟨rfl, rfl, rfl⟩
 simp [Leaves, settle, results, Tryz.results142, go_sem, c_b, c_0, c_1, c_f, p_b, p_0, p_1, p_f]
 clear c_b c_f c_0 c_1 p_b p_f p_0 p_1
 refine Below.alloc (Below.setCell (Below.setCell B1.out (by first | omega | (simp; done) | (simp; omega)) _) (by first | omega | (simp; done) | (simp; omega)) _) (by simp; exact hz.out) _
set_option maxHeartbeats 1000000 in
set_option maxRecDepth 100000 in
theorem acaught_yes (g : FuncId) (qs : Array Value) (hg : ∀ W, Sem.run Tryz.prog (callFunc g qs) W = .ok (.enter g qs) W) (x : Int) (y : Int) (w : World)
  (CG : Hid (∀ W, Below w.heap.size w W → Calls Tryz.prog g qs W fun e w' => e = .returned (.agg #[.int .i64 x, .int .i64 y]) ∧ Below W.heap.size W w')) :
  Calls Tryz.prog 112 #[.func (Fn.func g) #[] qs] w fun e w' => e = .returned (.tuple #[.agg #[.int .i64 x, .int .i64 y], .int .i64 0]) ∧ Below w.heap.size w w' := by
 go_enter Tryz.func112, Tryz.ntmps112
 go_wp2_with fail
 refine (acaughtat_yes g qs hg x y _ (Lib.hid fun W hW => CG.out W (((Below.refl _ _).alloc (Nat.le_refl _) _).trans (hW.mono (by simp))))).mono ?_; rintro e w1 ⟨rfl, b1⟩
 have d1 : Below w.heap.size w w1 := below_step gr0 b1
 have B1 := Lib.hid d1
 have R1 : Bk2 w1 (w.heap.size) (.int .i64 0) (.int .i64 0) := by refine Bk2.of b1 (by simp <;> omega) (by intro j; simp [go_sem]) ?_ ?_ <;> simp [go_sem]
 clear b1 d1
 have tx := R1; obtain ⟨cR_b, cR_f, cR_0, cR_1⟩ := tx
 go_wp2_with fail
 clear cR_b cR_f cR_0 cR_1
 refine wp_named ?_; intro w2 hw2
 have d2 : Below w1.heap.size w1 w2 := by rw [hw2]; exact gr0
 have B2 := Lib.hid (below_step B1.out d2)
 have R2 := R1.keep d2
 have aY := B1.out.size
 have nYR := Nat.ne_of_lt R1.hb
 have oYR := Nat.ne_of_gt R1.hb
 have Y2 : Bk2 w2 (w1.heap.size) (.int .i64 x) (.int .i64 y) := by rw [hw2]; exact ⟨by simp <;> omega, by intro j; simp [go_sem], by simp [go_sem], by simp [go_sem]⟩
 have aZ := B1.out.size
 have nZR := Nat.ne_of_lt R1.hb
 have oZR := Nat.ne_of_gt R1.hb
 have Z2 : Bk2 w2 (w1.heap.size + 1) (.int .i64 0) (.int .i64 0) := by rw [hw2]; exact ⟨by simp <;> omega, by intro j; simp [go_sem], by simp [go_sem], by simp [go_sem]⟩
 clear R1 d2 hw2 B1
 have tx := R2; obtain ⟨cR_b, cR_f, cR_0, cR_1⟩ := tx
 have tx := Y2; obtain ⟨cY_b, cY_f, cY_0, cY_1⟩ := tx
 have tx := Z2; obtain ⟨cZ_b, cZ_f, cZ_0, cZ_1⟩ := tx
 go_region_with (fail)
 all_goals
  go_wp2_with fail
  refine bodyPost_ret (v := .tuple #[.agg #[.int .i64 x, .int .i64 y], .int .i64 0]) (by simp [results, Tryz.results112, go_sem, *]) rfl ⟨rfl, ?_⟩
  have hz := B2.out.size
  repeat (first | exact B2.out | refine below_drewN ?_ _ | refine Below.drew ?_ | refine Below.setCell ?_ (by first | omega | (simp; done) | (simp; omega)) _ | refine Below.alloc ?_ (by first | omega | (simp; done) | (simp; omega)) _)
set_option maxHeartbeats 1000000 in
set_option maxRecDepth 100000 in
theorem acaught_no (g : FuncId) (qs : Array Value) (hg : ∀ W, Sem.run Tryz.prog (callFunc g qs) W = .ok (.enter g qs) W) (line why : Int) (w : World)
  (CG : Hid (∀ W, Below w.heap.size w W → Calls Tryz.prog g qs W fun e w' => e = .panicked (gvL line why) ∧ Below W.heap.size W w')) :
  Calls Tryz.prog 112 #[.func (Fn.func g) #[] qs] w fun e w' => e = .returned (.tuple #[.agg #[.int .i64 0, .int .i64 0], .int .i64 why]) ∧ Below w.heap.size w w' := by
 go_enter Tryz.func112, Tryz.ntmps112
 go_wp2_with fail
 refine (acaughtat_no g qs hg line why _ (Lib.hid fun W hW => CG.out W (((Below.refl _ _).alloc (Nat.le_refl _) _).trans (hW.mono (by simp))))).mono ?_; rintro e w1 ⟨rfl, b1⟩
 have d1 : Below w.heap.size w w1 := below_step gr0 b1
 have B1 := Lib.hid d1
 have R1 : Bk2 w1 (w.heap.size) (.int .i64 0) (.int .i64 0) := by refine Bk2.of b1 (by simp <;> omega) (by intro j; simp [go_sem]) ?_ ?_ <;> simp [go_sem]
 clear b1 d1
 have tx := R1; obtain ⟨cR_b, cR_f, cR_0, cR_1⟩ := tx
 go_wp2_with fail
 clear cR_b cR_f cR_0 cR_1
 refine wp_named ?_; intro w2 hw2
 have d2 : Below w1.heap.size w1 w2 := by rw [hw2]; exact gr0
 have B2 := Lib.hid (below_step B1.out d2)
 have R2 := R1.keep d2
 have aY := B1.out.size
 have nYR := Nat.ne_of_lt R1.hb
 have oYR := Nat.ne_of_gt R1.hb
 have Y2 : Bk2 w2 (w1.heap.size) (.int .i64 0) (.int .i64 0) := by rw [hw2]; exact ⟨by simp <;> omega, by intro j; simp [go_sem], by simp [go_sem], by simp [go_sem]⟩
 have aZ := B1.out.size
 have nZR := Nat.ne_of_lt R1.hb
 have oZR := Nat.ne_of_gt R1.hb
 have Z2 : Bk2 w2 (w1.heap.size + 1) (.int .i64 line) (.int .i64 why) := by rw [hw2]; exact ⟨by simp <;> omega, by intro j; simp [go_sem], by simp [go_sem], by simp [go_sem]⟩
 clear R1 d2 hw2 B1
 have tx := R2; obtain ⟨cR_b, cR_f, cR_0, cR_1⟩ := tx
 have tx := Y2; obtain ⟨cY_b, cY_f, cY_0, cY_1⟩ := tx
 have tx := Z2; obtain ⟨cZ_b, cZ_f, cZ_0, cZ_1⟩ := tx
 go_region_with (fail)
 all_goals
  go_wp2_with fail
  refine bodyPost_ret (v := .tuple #[.agg #[.int .i64 0, .int .i64 0], .int .i64 why]) (by simp [results, Tryz.results112, go_sem, *]) rfl ⟨rfl, ?_⟩
  have hz := B2.out.size
  repeat (first | exact B2.out | refine below_drewN ?_ _ | refine Below.drew ?_ | refine Below.setCell ?_ (by first | omega | (simp; done) | (simp; omega)) _ | refine Below.alloc ?_ (by first | omega | (simp; done) | (simp; omega)) _)
end Go.Proofs.YtjggjkeopbcmoaaGreatDoor
set_option linter.unusedVariables false
set_option linter.unusedSimpArgs false
namespace Go.Proofs.YtjggjkeopbcmoaaGreatDoor
section
open Go.RowKit Go.Sort
theorem ltr (k : Nat) (h : k < 3) : ∃ x : ByteArray, (#[ByteArray.mk #[119, 87], ByteArray.mk #[115, 83], ByteArray.mk #[117, 85, 103, 71, 122, 90]] : Array ByteArray)[k]? = some x := ⟨_, Array.getElem?_eq_getElem (by simpa using h)⟩
theorem ltr0 (W : World) : Sem.run Tryz.prog (Instr.index 95 (.agg #[.string ⟨#[119, 87]⟩, .string ⟨#[115, 83]⟩, .string ⟨#[117, 85, 103, 71, 122, 90]⟩]) (.int .i64 0)) W = .ok (.string ⟨#[119, 87]⟩) W := by kernel_rfl
theorem ltr1 (W : World) : Sem.run Tryz.prog (Instr.index 95 (.agg #[.string ⟨#[119, 87]⟩, .string ⟨#[115, 83]⟩, .string ⟨#[117, 85, 103, 71, 122, 90]⟩]) (.int .i64 1)) W = .ok (.string ⟨#[115, 83]⟩) W := by kernel_rfl
theorem ltr2 (W : World) : Sem.run Tryz.prog (Instr.index 95 (.agg #[.string ⟨#[119, 87]⟩, .string ⟨#[115, 83]⟩, .string ⟨#[117, 85, 103, 71, 122, 90]⟩]) (.int .i64 2)) W = .ok (.string ⟨#[117, 85, 103, 71, 122, 90]⟩) W := by kernel_rfl
theorem last_ix (s : ByteArray) (h : 0 < s.size) (W : World) : Sem.run Tryz.prog (Instr.index 9 (.string s) (.int .i64 ((s.size : Int) - 1))) W = .ok (.int .u8 s[s.size - 1].toNat) W := by
 rw [run_index_string W _ _ _ _ Tryz.underlying9, dif_pos ⟨by omega, by omega⟩]
 have e : ((s.size : Int) - 1).toNat = s.size - 1 := by omega
 simp [e]
set_option maxHeartbeats 4000000 in
set_option maxRecDepth 100000 in
theorem clcut_nil (s : ByteArray) (w : World) (T : Cl.Tab w) (h : s.size = 0) :
  Calls Tryz.prog 114 #[.string s] w fun e w' => e = .returned (.tuple #[.string s, .int .i64 0]) ∧ w = w' := by
 have h1 : (s.size : Int) = 0 := by omega
 have t0 := T.c0; have t1 := T.c1; have t2 := T.c2
 have l0 := ltr0; have l1 := ltr1; have l2 := ltr2
 clear T
 clear h
 go_enter Tryz.func114, Tryz.ntmps114
 go_wp2_with fail
 refine wp_loop_rounds 4 ?_
 rw [rounds_succ]
 go_wp2_with fail
 rw [rounds_succ]
 go_wp2_with fail
 rw [rounds_succ]
 go_wp2_with fail
 rw [rounds_succ]
 go_wp2_with fail
 go_ret2
 exact ⟨rfl, rfl⟩
set_option maxHeartbeats 4000000 in
set_option maxRecDepth 100000 in
theorem clcut_0 (s : ByteArray) (w : World) (T : Cl.Tab w) (h : 0 < s.size) (hm : s.size ≤ maxLen) (hb : Cl.base s[s.size - 1] = 0) :
  Calls Tryz.prog 114 #[.string s] w fun e w' => e = .returned (.tuple #[.string (s.extract 0 (s.size - 1)), .int .i64 0]) ∧ w = w' := by
 have t0 := T.c0; have t1 := T.c1; have t2 := T.c2
 have l0 := ltr0; have l1 := ltr1; have l2 := ltr2
 clear T
 have hx := last_ix s h
 have hbd := s[s.size - 1].toNat_lt
 obtain ⟨b0, b1, b2⟩ := Cl.base_at s[s.size - 1]
 rw [hb] at b0 b1 b2
 have C0 := Lib.hid (fun W => ixb ⟨#[119, 87]⟩ s[s.size - 1] W)
 have C1 := Lib.hid (fun W => ixb ⟨#[115, 83]⟩ s[s.size - 1] W)
 have C2 := Lib.hid (fun W => ixb ⟨#[117, 85, 103, 71, 122, 90]⟩ s[s.size - 1] W)
 change Hid (∀ W, Calls Tryz.prog 85 #[.string ⟨#[119, 87]⟩, .int .u8 (s[s.size - 1].toNat : Int)] W fun e w' => e = .returned (.int .i64 (Lib.indexByte [119, 87] s[s.size - 1])) ∧ W = w') at C0
 change Hid (∀ W, Calls Tryz.prog 85 #[.string ⟨#[115, 83]⟩, .int .u8 (s[s.size - 1].toNat : Int)] W fun e w' => e = .returned (.int .i64 (Lib.indexByte [115, 83] s[s.size - 1])) ∧ W = w') at C1
 change Hid (∀ W, Calls Tryz.prog 85 #[.string ⟨#[117, 85, 103, 71, 122, 90]⟩, .int .u8 (s[s.size - 1].toNat : Int)] W fun e w' => e = .returned (.int .i64 (Lib.indexByte [117, 85, 103, 71, 122, 90] s[s.size - 1])) ∧ W = w') at C2
 generalize Lib.indexByte [119, 87] s[s.size - 1] = j0 at *
 generalize Lib.indexByte [115, 83] s[s.size - 1] = j1 at *
 generalize Lib.indexByte [117, 85, 103, 71, 122, 90] s[s.size - 1] = j2 at *
 have n0 : 1 ≤ (s.size : Int) := by omega
 have n1 : (s.size : Int) ≤ 9223372036854775807 := by unfold maxLen at hm; omega
 have n2 : 0 ≤ (s.size : Int) - 1 := by omega
 have n3 : (s.size : Int) - 1 ≤ (s.size : Int) := by omega
 have g0 : 0 ≤ j0 := b0.2 rfl
 have g1 : ¬ 0 ≤ j1 := fun h => absurd (b1.1 h) (by decide)
 have g2 : ¬ 0 ≤ j2 := fun h => absurd (b2.1 h) (by decide)
 generalize (s[s.size - 1].toNat : Int) = c at hx C0 C1 C2
 clear b0 b1 b2 hb hm hbd
 go_enter Tryz.func114, Tryz.ntmps114
 go_wp2_with fail
 refine wp_loop_rounds 1 ?_
 rw [rounds_succ]
 go_wp2_with fail
 refine (C0.out _).mono ?_; rintro e w1 ⟨rfl, rfl⟩
 go_wp2_with fail
 go_ret2
 exact ⟨rfl, rfl⟩
set_option maxHeartbeats 4000000 in
set_option maxRecDepth 100000 in
theorem clcut_1 (s : ByteArray) (w : World) (T : Cl.Tab w) (h : 0 < s.size) (hm : s.size ≤ maxLen) (hb : Cl.base s[s.size - 1] = 1) :
  Calls Tryz.prog 114 #[.string s] w fun e w' => e = .returned (.tuple #[.string (s.extract 0 (s.size - 1)), .int .i64 1]) ∧ w = w' := by
 have t0 := T.c0; have t1 := T.c1; have t2 := T.c2
 have l0 := ltr0; have l1 := ltr1; have l2 := ltr2
 clear T
 have hx := last_ix s h
 have hbd := s[s.size - 1].toNat_lt
 obtain ⟨b0, b1, b2⟩ := Cl.base_at s[s.size - 1]
 rw [hb] at b0 b1 b2
 have C0 := Lib.hid (fun W => ixb ⟨#[119, 87]⟩ s[s.size - 1] W)
 have C1 := Lib.hid (fun W => ixb ⟨#[115, 83]⟩ s[s.size - 1] W)
 have C2 := Lib.hid (fun W => ixb ⟨#[117, 85, 103, 71, 122, 90]⟩ s[s.size - 1] W)
 change Hid (∀ W, Calls Tryz.prog 85 #[.string ⟨#[119, 87]⟩, .int .u8 (s[s.size - 1].toNat : Int)] W fun e w' => e = .returned (.int .i64 (Lib.indexByte [119, 87] s[s.size - 1])) ∧ W = w') at C0
 change Hid (∀ W, Calls Tryz.prog 85 #[.string ⟨#[115, 83]⟩, .int .u8 (s[s.size - 1].toNat : Int)] W fun e w' => e = .returned (.int .i64 (Lib.indexByte [115, 83] s[s.size - 1])) ∧ W = w') at C1
 change Hid (∀ W, Calls Tryz.prog 85 #[.string ⟨#[117, 85, 103, 71, 122, 90]⟩, .int .u8 (s[s.size - 1].toNat : Int)] W fun e w' => e = .returned (.int .i64 (Lib.indexByte [117, 85, 103, 71, 122, 90] s[s.size - 1])) ∧ W = w') at C2
 generalize Lib.indexByte [119, 87] s[s.size - 1] = j0 at *
 generalize Lib.indexByte [115, 83] s[s.size - 1] = j1 at *
 generalize Lib.indexByte [117, 85, 103, 71, 122, 90] s[s.size - 1] = j2 at *
 have n0 : 1 ≤ (s.size : Int) := by omega
 have n1 : (s.size : Int) ≤ 9223372036854775807 := by unfold maxLen at hm; omega
 have n2 : 0 ≤ (s.size : Int) - 1 := by omega
 have n3 : (s.size : Int) - 1 ≤ (s.size : Int) := by omega
 have g0 : ¬ 0 ≤ j0 := fun h => absurd (b0.1 h) (by decide)
 have g1 : 0 ≤ j1 := b1.2 rfl
 have g2 : ¬ 0 ≤ j2 := fun h => absurd (b2.1 h) (by decide)
 generalize (s[s.size - 1].toNat : Int) = c at hx C0 C1 C2
 clear b0 b1 b2 hb hm hbd
 go_enter Tryz.func114, Tryz.ntmps114
 go_wp2_with fail
 refine wp_loop_rounds 2 ?_
 rw [rounds_succ]
 go_wp2_with fail
 refine (C0.out _).mono ?_; rintro e w1 ⟨rfl, rfl⟩
 go_wp2_with fail
 rw [rounds_succ]
 go_wp2_with fail
 refine (C1.out _).mono ?_; rintro e w1 ⟨rfl, rfl⟩
 go_wp2_with fail
 go_ret2
 exact ⟨rfl, rfl⟩
set_option maxHeartbeats 4000000 in
set_option maxRecDepth 100000 in
theorem clcut_2 (s : ByteArray) (w : World) (T : Cl.Tab w) (h : 0 < s.size) (hm : s.size ≤ maxLen) (hb : Cl.base s[s.size - 1] = 2) :
  Calls Tryz.prog 114 #[.string s] w fun e w' => e = .returned (.tuple #[.string (s.extract 0 (s.size - 1)), .int .i64 2]) ∧ w = w' := by
 have t0 := T.c0; have t1 := T.c1; have t2 := T.c2
 have l0 := ltr0; have l1 := ltr1; have l2 := ltr2
 clear T
 have hx := last_ix s h
 have hbd := s[s.size - 1].toNat_lt
 obtain ⟨b0, b1, b2⟩ := Cl.base_at s[s.size - 1]
 rw [hb] at b0 b1 b2
 have C0 := Lib.hid (fun W => ixb ⟨#[119, 87]⟩ s[s.size - 1] W)
 have C1 := Lib.hid (fun W => ixb ⟨#[115, 83]⟩ s[s.size - 1] W)
 have C2 := Lib.hid (fun W => ixb ⟨#[117, 85, 103, 71, 122, 90]⟩ s[s.size - 1] W)
 change Hid (∀ W, Calls Tryz.prog 85 #[.string ⟨#[119, 87]⟩, .int .u8 (s[s.size - 1].toNat : Int)] W fun e w' => e = .returned (.int .i64 (Lib.indexByte [119, 87] s[s.size - 1])) ∧ W = w') at C0
 change Hid (∀ W, Calls Tryz.prog 85 #[.string ⟨#[115, 83]⟩, .int .u8 (s[s.size - 1].toNat : Int)] W fun e w' => e = .returned (.int .i64 (Lib.indexByte [115, 83] s[s.size - 1])) ∧ W = w') at C1
 change Hid (∀ W, Calls Tryz.prog 85 #[.string ⟨#[117, 85, 103, 71, 122, 90]⟩, .int .u8 (s[s.size - 1].toNat : Int)] W fun e w' => e = .returned (.int .i64 (Lib.indexByte [117, 85, 103, 71, 122, 90] s[s.size - 1])) ∧ W = w') at C2
 generalize Lib.indexByte [119, 87] s[s.size - 1] = j0 at *
 generalize Lib.indexByte [115, 83] s[s.size - 1] = j1 at *
 generalize Lib.indexByte [117, 85, 103, 71, 122, 90] s[s.size - 1] = j2 at *
 have n0 : 1 ≤ (s.size : Int) := by omega
 have n1 : (s.size : Int) ≤ 9223372036854775807 := by unfold maxLen at hm; omega
 have n2 : 0 ≤ (s.size : Int) - 1 := by omega
 have n3 : (s.size : Int) - 1 ≤ (s.size : Int) := by omega
 have g0 : ¬ 0 ≤ j0 := fun h => absurd (b0.1 h) (by decide)
 have g1 : ¬ 0 ≤ j1 := fun h => absurd (b1.1 h) (by decide)
 have g2 : 0 ≤ j2 := b2.2 rfl
 generalize (s[s.size - 1].toNat : Int) = c at hx C0 C1 C2
 clear b0 b1 b2 hb hm hbd
 go_enter Tryz.func114, Tryz.ntmps114
 go_wp2_with fail
 refine wp_loop_rounds 3 ?_
 rw [rounds_succ]
 go_wp2_with fail
 refine (C0.out _).mono ?_; rintro e w1 ⟨rfl, rfl⟩
 go_wp2_with fail
 rw [rounds_succ]
 go_wp2_with fail
 refine (C1.out _).mono ?_; rintro e w1 ⟨rfl, rfl⟩
 go_wp2_with fail
 rw [rounds_succ]
 go_wp2_with fail
 refine (C2.out _).mono ?_; rintro e w1 ⟨rfl, rfl⟩
 go_wp2_with fail
 go_ret2
 exact ⟨rfl, rfl⟩
set_option maxHeartbeats 4000000 in
set_option maxRecDepth 100000 in
theorem clcut_3 (s : ByteArray) (w : World) (T : Cl.Tab w) (h : 0 < s.size) (hm : s.size ≤ maxLen) (hb : Cl.base s[s.size - 1] = 3) :
  Calls Tryz.prog 114 #[.string s] w fun e w' => e = .returned (.tuple #[.string s, .int .i64 0]) ∧ w = w' := by
 have t0 := T.c0; have t1 := T.c1; have t2 := T.c2
 have l0 := ltr0; have l1 := ltr1; have l2 := ltr2
 clear T
 have hx := last_ix s h
 have hbd := s[s.size - 1].toNat_lt
 obtain ⟨b0, b1, b2⟩ := Cl.base_at s[s.size - 1]
 rw [hb] at b0 b1 b2
 have C0 := Lib.hid (fun W => ixb ⟨#[119, 87]⟩ s[s.size - 1] W)
 have C1 := Lib.hid (fun W => ixb ⟨#[115, 83]⟩ s[s.size - 1] W)
 have C2 := Lib.hid (fun W => ixb ⟨#[117, 85, 103, 71, 122, 90]⟩ s[s.size - 1] W)
 change Hid (∀ W, Calls Tryz.prog 85 #[.string ⟨#[119, 87]⟩, .int .u8 (s[s.size - 1].toNat : Int)] W fun e w' => e = .returned (.int .i64 (Lib.indexByte [119, 87] s[s.size - 1])) ∧ W = w') at C0
 change Hid (∀ W, Calls Tryz.prog 85 #[.string ⟨#[115, 83]⟩, .int .u8 (s[s.size - 1].toNat : Int)] W fun e w' => e = .returned (.int .i64 (Lib.indexByte [115, 83] s[s.size - 1])) ∧ W = w') at C1
 change Hid (∀ W, Calls Tryz.prog 85 #[.string ⟨#[117, 85, 103, 71, 122, 90]⟩, .int .u8 (s[s.size - 1].toNat : Int)] W fun e w' => e = .returned (.int .i64 (Lib.indexByte [117, 85, 103, 71, 122, 90] s[s.size - 1])) ∧ W = w') at C2
 generalize Lib.indexByte [119, 87] s[s.size - 1] = j0 at *
 generalize Lib.indexByte [115, 83] s[s.size - 1] = j1 at *
 generalize Lib.indexByte [117, 85, 103, 71, 122, 90] s[s.size - 1] = j2 at *
 have n0 : 1 ≤ (s.size : Int) := by omega
 have n1 : (s.size : Int) ≤ 9223372036854775807 := by unfold maxLen at hm; omega
 have n2 : 0 ≤ (s.size : Int) - 1 := by omega
 have n3 : (s.size : Int) - 1 ≤ (s.size : Int) := by omega
 have g0 : ¬ 0 ≤ j0 := fun h => absurd (b0.1 h) (by decide)
 have g1 : ¬ 0 ≤ j1 := fun h => absurd (b1.1 h) (by decide)
 have g2 : ¬ 0 ≤ j2 := fun h => absurd (b2.1 h) (by decide)
 generalize (s[s.size - 1].toNat : Int) = c at hx C0 C1 C2
 clear b0 b1 b2 hb hm hbd
 go_enter Tryz.func114, Tryz.ntmps114
 go_wp2_with fail
 refine wp_loop_rounds 4 ?_
 rw [rounds_succ]
 go_wp2_with fail
 refine (C0.out _).mono ?_; rintro e w1 ⟨rfl, rfl⟩
 go_wp2_with fail
 rw [rounds_succ]
 go_wp2_with fail
 refine (C1.out _).mono ?_; rintro e w1 ⟨rfl, rfl⟩
 go_wp2_with fail
 rw [rounds_succ]
 go_wp2_with fail
 refine (C2.out _).mono ?_; rintro e w1 ⟨rfl, rfl⟩
 go_wp2_with fail
 rw [rounds_succ]
 go_wp2_with fail
 go_ret2
 exact ⟨rfl, rfl⟩
end
section
open Go.RowKit Go.Sort
theorem clcut_any (s : ByteArray) (w : World) (T : Cl.Tab w) (hm : s.size ≤ maxLen) : Calls Tryz.prog 114 #[.string s] w fun e w' => e = .returned (.tuple #[.string (Cl.cutL s).1, .int .i64 (Cl.cutL s).2]) ∧ w = w' := by
 by_cases h : 0 < s.size
 ·
  have hb : Cl.base s[s.size - 1] = 0 ∨ Cl.base s[s.size - 1] = 1 ∨ Cl.base s[s.size - 1] = 2 ∨ Cl.base s[s.size - 1] = 3 := by
   unfold Cl.base
   split
   ·
    exact .inl rfl
   ·
    split
    ·
     exact .inr (.inl rfl)
    ·
     split
     ·
      exact .inr (.inr (.inl rfl))
     ·
      exact .inr (.inr (.inr rfl))
  unfold Cl.cutL
  rw [dif_pos h]
  rcases hb with e | e | e | e
  ·
   rw [e]; exact clcut_0 s w T h hm e
  ·
   rw [e]; exact clcut_1 s w T h hm e
  ·
   rw [e]; exact clcut_2 s w T h hm e
  ·
   rw [e]; exact clcut_3 s w T h hm e
 ·
  unfold Cl.cutL
  rw [dif_neg h]
  exact clcut_nil s w T (by omega)
set_option maxHeartbeats 4000000 in
set_option maxRecDepth 100000 in
theorem clin_why (s t : ByteArray) (b n y : Int) (W : World) (p : Nat) (hp : W.cell? ⟨p, 0, none⟩ = some (.string s)) (CC : Hid (∀ W, Cl.Tab W → Calls Tryz.prog 114 #[.string s] W fun e w' => e = .returned (.tuple #[.string t, .int .i64 b]) ∧ W = w')) (T : Cl.Tab W) (M : Hid (W.cell? ⟨3, 0, none⟩ = some (.int .i64 y))) (q : Int) (hq : q ≠ 0) (CA : Hid (∀ W, W.cell? ⟨3, 0, none⟩ = some (.int .i64 y) → Calls Tryz.prog 74 #[.string t] W fun e w' => e = .returned (.tuple #[.int .i64 n, .int .i64 q]) ∧ Below W.heap.size W w')) : Calls Tryz.prog 113 #[.pointer (some ⟨p, 0, none⟩)] W fun e w' => e = .panicked (gvP q) ∧ Below W.heap.size W w' := by
 have T0 := Lib.hid T; clear T
 have pl := World.block_lt_of_cell? _ _ hp
 have pn : p ≠ W.heap.size := Nat.ne_of_lt pl
 go_enter Tryz.func113, Tryz.ntmps113
 go_wp2_with fail
 have b0 : Below W.heap.size W (W.alloc (.cells #[.int .i64 0, .int .i64 0] 25)) := (Below.refl _ _).alloc (Nat.le_refl _) _
 refine (CC.out _ (T0.out.on b0)).mono ?_; rintro e w1 ⟨rfl, rfl⟩
 go_wp2_with fail
 refine (CA.out _ (ckm b0 M.out)).mono ?_; rintro e w2 ⟨rfl, b2⟩
 have B2 := Lib.hid (below_step b0 b2)
 have P2 : Bk2 w2 W.heap.size (.int .i64 0) (.int .i64 0) := Bk2.of b2 (by simp) (by intro j; simp [go_sem]) (by simp [go_sem]) (by simp [go_sem])
 clear b2 b0
 have p_b := P2.hb; have p_f := P2.fz; have p_0 := P2.k0; have p_1 := P2.k1
 go_wp2_with fail
 refine (must_no n q _ hq).mono ?_; rintro e w3 ⟨rfl, rfl⟩
 refine (show bodyPost _ _ _ (Exit.panic (gvP q)) _ _ from ?_)
 exact ⟨rfl, rfl, B2.out⟩
set_option maxHeartbeats 4000000 in
set_option maxRecDepth 100000 in
theorem clin_far (s t : ByteArray) (b n y : Int) (W : World) (p : Nat) (hp : W.cell? ⟨p, 0, none⟩ = some (.string s)) (CC : Hid (∀ W, Cl.Tab W → Calls Tryz.prog 114 #[.string s] W fun e w' => e = .returned (.tuple #[.string t, .int .i64 b]) ∧ W = w')) (T : Cl.Tab W) (M : Hid (W.cell? ⟨3, 0, none⟩ = some (.int .i64 y))) (CA : Hid (∀ W, W.cell? ⟨3, 0, none⟩ = some (.int .i64 y) → Calls Tryz.prog 74 #[.string t] W fun e w' => e = .returned (.tuple #[.int .i64 n, .int .i64 0]) ∧ Below W.heap.size W w')) (hr : Cl.rB n b = false) : Calls Tryz.prog 113 #[.pointer (some ⟨p, 0, none⟩)] W fun e w' => e = .panicked (gvP 1) ∧ Below W.heap.size W w' := by
 have CR : Hid (∀ W, Calls Tryz.prog 48 #[.agg #[.int .i64 n, .int .i64 b]] W fun e w' => e = .returned (.bool false) ∧ Below W.heap.size W w') := fun W => hr ▸ clright_any n b W
 clear hr
 have T0 := Lib.hid T; clear T
 have pl := World.block_lt_of_cell? _ _ hp
 have pn : p ≠ W.heap.size := Nat.ne_of_lt pl
 go_enter Tryz.func113, Tryz.ntmps113
 go_wp2_with fail
 have b0 : Below W.heap.size W (W.alloc (.cells #[.int .i64 0, .int .i64 0] 25)) := (Below.refl _ _).alloc (Nat.le_refl _) _
 refine (CC.out _ (T0.out.on b0)).mono ?_; rintro e w1 ⟨rfl, rfl⟩
 go_wp2_with fail
 refine (CA.out _ (ckm b0 M.out)).mono ?_; rintro e w2 ⟨rfl, b2⟩
 have B2 := Lib.hid (below_step b0 b2)
 have P2 : Bk2 w2 W.heap.size (.int .i64 0) (.int .i64 0) := Bk2.of b2 (by simp) (by intro j; simp [go_sem]) (by simp [go_sem]) (by simp [go_sem])
 clear b2 b0
 have p_b := P2.hb; have p_f := P2.fz; have p_0 := P2.k0; have p_1 := P2.k1
 go_wp2_with fail
 refine (must_yes n _).mono ?_; rintro e w3 ⟨rfl, rfl⟩
 go_wp2_with fail
 refine (CR.out _).mono ?_; rintro e w4 ⟨rfl, b4⟩
 have d4 : Below w2.heap.size w2 w4 := below_step ((Below.refl _ _).alloc (Nat.le_refl _) _) b4
 have B4 := Lib.hid (below_step B2.out d4)
 have P4 := P2.keep d4
 have X4 : Bk2 w4 w2.heap.size (.int .i64 n) (.int .i64 b) := Bk2.of b4 (by simp) (by intro j; simp [go_sem]) (by simp [go_sem]) (by simp [go_sem])
 clear p_b p_f p_0 p_1 P2 b4 d4
 have p_b := P4.hb; have p_f := P4.fz; have p_0 := P4.k0; have p_1 := P4.k1
 have x_b := X4.hb; have x_f := X4.fz; have x_0 := X4.k0; have x_1 := X4.k1
 clear P4 X4
 go_wp2_with fail
 refine (need_no 1 _).mono ?_; rintro e w5 ⟨rfl, rfl⟩
 refine (show bodyPost _ _ _ (Exit.panic (gvP 1)) _ _ from ?_)
 exact ⟨rfl, rfl, B4.out⟩
set_option maxHeartbeats 4000000 in
set_option maxRecDepth 100000 in
theorem clin_yes (s t : ByteArray) (b n y : Int) (W : World) (p : Nat) (hp : W.cell? ⟨p, 0, none⟩ = some (.string s)) (CC : Hid (∀ W, Cl.Tab W → Calls Tryz.prog 114 #[.string s] W fun e w' => e = .returned (.tuple #[.string t, .int .i64 b]) ∧ W = w')) (T : Cl.Tab W) (M : Hid (W.cell? ⟨3, 0, none⟩ = some (.int .i64 y))) (CA : Hid (∀ W, W.cell? ⟨3, 0, none⟩ = some (.int .i64 y) → Calls Tryz.prog 74 #[.string t] W fun e w' => e = .returned (.tuple #[.int .i64 n, .int .i64 0]) ∧ Below W.heap.size W w')) (hr : Cl.rB n b = true) : Calls Tryz.prog 113 #[.pointer (some ⟨p, 0, none⟩)] W fun e w' => e = .returned (.agg #[.int .i64 n, .int .i64 b]) ∧ Below W.heap.size W w' := by
 have CR : Hid (∀ W, Calls Tryz.prog 48 #[.agg #[.int .i64 n, .int .i64 b]] W fun e w' => e = .returned (.bool true) ∧ Below W.heap.size W w') := fun W => hr ▸ clright_any n b W
 clear hr
 have T0 := Lib.hid T; clear T
 have pl := World.block_lt_of_cell? _ _ hp
 have pn : p ≠ W.heap.size := Nat.ne_of_lt pl
 go_enter Tryz.func113, Tryz.ntmps113
 go_wp2_with fail
 have b0 : Below W.heap.size W (W.alloc (.cells #[.int .i64 0, .int .i64 0] 25)) := (Below.refl _ _).alloc (Nat.le_refl _) _
 refine (CC.out _ (T0.out.on b0)).mono ?_; rintro e w1 ⟨rfl, rfl⟩
 go_wp2_with fail
 refine (CA.out _ (ckm b0 M.out)).mono ?_; rintro e w2 ⟨rfl, b2⟩
 have B2 := Lib.hid (below_step b0 b2)
 have P2 : Bk2 w2 W.heap.size (.int .i64 0) (.int .i64 0) := Bk2.of b2 (by simp) (by intro j; simp [go_sem]) (by simp [go_sem]) (by simp [go_sem])
 clear b2 b0
 have p_b := P2.hb; have p_f := P2.fz; have p_0 := P2.k0; have p_1 := P2.k1
 go_wp2_with fail
 refine (must_yes n _).mono ?_; rintro e w3 ⟨rfl, rfl⟩
 go_wp2_with fail
 refine (CR.out _).mono ?_; rintro e w4 ⟨rfl, b4⟩
 have d4 : Below w2.heap.size w2 w4 := below_step ((Below.refl _ _).alloc (Nat.le_refl _) _) b4
 have B4 := Lib.hid (below_step B2.out d4)
 have P4 := P2.keep d4
 have X4 : Bk2 w4 w2.heap.size (.int .i64 n) (.int .i64 b) := Bk2.of b4 (by simp) (by intro j; simp [go_sem]) (by simp [go_sem]) (by simp [go_sem])
 clear p_b p_f p_0 p_1 P2 b4 d4
 have p_b := P4.hb; have p_f := P4.fz; have p_0 := P4.k0; have p_1 := P4.k1
 have x_b := X4.hb; have x_f := X4.fz; have x_0 := X4.k0; have x_1 := X4.k1
 clear P4 X4
 go_wp2_with fail
 refine (need_yes 1 _).mono ?_; rintro e w5 ⟨rfl, rfl⟩
 go_wp2_with fail
 refine bodyPost_ret (v := .agg #[.int .i64 n, .int .i64 b]) (by simp [results, Tryz.results113, go_sem, p_b, p_f, p_0, p_1, x_b, x_f, x_0, x_1]) rfl ⟨rfl, ?_⟩
 clear p_b p_f p_0 p_1 x_b x_f x_0 x_1
 repeat (refine Below.setCell ?_ (by first | (simp; done) | omega | (simp; omega)) _)
 exact B4.out
end
section
open Go.RowKit Go.Sort
namespace Cl
def rd (s : ByteArray) : Int × Int × Int := if (Am.rd (cutL s).1).2 ≠ 0 then (0, 0, (Am.rd (cutL s).1).2) else if rB (Am.rd (cutL s).1).1 (cutL s).2 = false then (0, 0, 1) else ((Am.rd (cutL s).1).1, (cutL s).2, 0)
def sg (b : Int) : ByteArray := if b = 1 then ⟨#[115]⟩ else ⟨#[117]⟩
theorem cutL_size (s : ByteArray) : (cutL s).1.size ≤ s.size := by
 unfold cutL
 split
 ·
  split
  ·
   exact Nat.le_refl _
  ·
   rw [ByteArray.size_extract]; omega
 ·
  exact Nat.le_refl _
end Cl
set_option maxHeartbeats 4000000 in
set_option maxRecDepth 100000 in
theorem clread_any (s : ByteArray) (w : World) (y : Int) (hs : s.size < 4294967281) (T : Cl.Tab w) (hm : w.cell? ⟨3, 0, none⟩ = some (.int .i64 y)) :
  Calls Tryz.prog 72 #[.string s] w fun e w' => e = .returned (.tuple #[.agg #[.int .i64 (Cl.rd s).1, .int .i64 (Cl.rd s).2.1], .int .i64 (Cl.rd s).2.2]) ∧ Below w.heap.size w w' := by
 have CC := Lib.hid (fun W h => clcut_any s W h (by unfold maxLen; omega))
 have CA := Lib.hid (fun W h => aread_any (Cl.cutL s).1 W y (Nat.lt_of_le_of_lt (Cl.cutL_size s) hs) h)
 have hmf : ∀ (fn : Fn) (first cap : Array Value) (w : World), (Instr.makeFunc fn first cap).run Tryz.prog w = .ok (.func fn first cap) w := fun _ _ _ _ => rfl
 have b0 : Below w.heap.size w ((w.alloc (.cells #[.string s] 9)).alloc (.cells #[.int .i64 0, .int .i64 0] 25)) := ((Below.refl _ _).alloc (Nat.le_refl _) _).alloc (by simp) _
 have c0 : ((w.alloc (.cells #[.string s] 9)).alloc (.cells #[.int .i64 0, .int .i64 0] 25)).cell? ⟨w.heap.size, 0, none⟩ = some (.string s) := by simp [go_sem]
 have l0 : w.heap.size < ((w.alloc (.cells #[.string s] 9)).alloc (.cells #[.int .i64 0, .int .i64 0] 25)).heap.size := by simp <;> omega
 have T1 := T.on b0
 have M1 := Lib.hid (ckm b0 hm)
 obtain ⟨ans, hans⟩ : ∃ ans, ans = Cl.rd s := ⟨_, rfl⟩
 rw [← hans]
 unfold Cl.rd at hans
 generalize Cl.cutL s = p at *
 obtain ⟨t, b⟩ := p
 dsimp only at *
 generalize Am.rd t = r at *
 obtain ⟨n, q⟩ := r
 dsimp only at *
 have KC : ∀ W, Below ((w.alloc (.cells #[.string s] 9)).alloc (.cells #[.int .i64 0, .int .i64 0] 25)).heap.size ((w.alloc (.cells #[.string s] 9)).alloc (.cells #[.int .i64 0, .int .i64 0] 25)) W → W.cell? ⟨w.heap.size, 0, none⟩ = some (.string s) ∧ Cl.Tab W ∧ Hid (W.cell? ⟨3, 0, none⟩ = some (.int .i64 y)) := fun W k => ⟨(k.cell (p := ⟨w.heap.size, 0, none⟩) l0).trans c0, T1.on k, ckm k M1.out⟩
 by_cases hq : q = 0
 ·
  subst hq
  rw [if_neg (by simp)] at hans
  cases hr : Cl.rB n b
  ·
   rw [if_pos hr] at hans
   have e := Lib.hid hans
   have CG := Lib.hid (acaught_no 113 #[.pointer (some ⟨w.heap.size, 0, none⟩)] (fun _ => rfl) 0 1 ((w.alloc (.cells #[.string s] 9)).alloc (.cells #[.int .i64 0, .int .i64 0] 25)) (fun W k => by obtain ⟨k1, k2, k3⟩ := KC W k; exact clin_far s t b n y W w.heap.size k1 CC k2 k3 CA hr))
   clear hans hr KC T1 c0 l0 CC CA hm T
   go_enter Tryz.func72, Tryz.ntmps72
   go_wp2_with fail
   refine CG.out.mono ?_; rintro e w1 ⟨rfl, b1⟩
   have B1 := Lib.hid (below_step b0 b1)
   have P1 : Bk2 w1 (w.heap.size + 1) (.int .i64 0) (.int .i64 0) := by refine Bk2.of b1 (by simp <;> omega) (by intro j; simp [go_sem]) ?_ ?_ <;> simp [go_sem]
   have hz := B1.out.size
   clear b1
   have p_b := P1.hb; have p_f := P1.fz; have p_0 := P1.k0; have p_1 := P1.k1
   clear P1
   go_wp2_with fail
   refine bodyPost_ret (v := .tuple #[.agg #[.int .i64 0, .int .i64 0], .int .i64 1]) (by simp [results, Tryz.results72, go_sem, p_b, p_f, p_0, p_1]) rfl ⟨by rw [e.out], ?_⟩
   clear p_b p_f p_0 p_1
   repeat (refine Below.setCell ?_ (by first | omega | (simp; done) | (simp; omega)) _)
   exact B1.out
  ·
   rw [if_neg (by rw [hr]; decide)] at hans
   have e := Lib.hid hans
   have CG := Lib.hid (acaught_yes 113 #[.pointer (some ⟨w.heap.size, 0, none⟩)] (fun _ => rfl) n b ((w.alloc (.cells #[.string s] 9)).alloc (.cells #[.int .i64 0, .int .i64 0] 25)) (fun W k => by obtain ⟨k1, k2, k3⟩ := KC W k; exact clin_yes s t b n y W w.heap.size k1 CC k2 k3 CA hr))
   clear hans hr KC T1 c0 l0 CC CA hm T
   go_enter Tryz.func72, Tryz.ntmps72
   go_wp2_with fail
   refine CG.out.mono ?_; rintro e w1 ⟨rfl, b1⟩
   have B1 := Lib.hid (below_step b0 b1)
   have P1 : Bk2 w1 (w.heap.size + 1) (.int .i64 0) (.int .i64 0) := by refine Bk2.of b1 (by simp <;> omega) (by intro j; simp [go_sem]) ?_ ?_ <;> simp [go_sem]
   have hz := B1.out.size
   clear b1
   have p_b := P1.hb; have p_f := P1.fz; have p_0 := P1.k0; have p_1 := P1.k1
   clear P1
   go_wp2_with fail
   refine bodyPost_ret (v := .tuple #[.agg #[.int .i64 n, .int .i64 b], .int .i64 0]) (by simp [results, Tryz.results72, go_sem, p_b, p_f, p_0, p_1]) rfl ⟨by rw [e.out], ?_⟩
   clear p_b p_f p_0 p_1
   repeat (refine Below.setCell ?_ (by first | omega | (simp; done) | (simp; omega)) _)
   exact B1.out
 ·
  rw [if_pos hq] at hans
  have e := Lib.hid hans
  have CG := Lib.hid (acaught_no 113 #[.pointer (some ⟨w.heap.size, 0, none⟩)] (fun _ => rfl) 0 q ((w.alloc (.cells #[.string s] 9)).alloc (.cells #[.int .i64 0, .int .i64 0] 25)) (fun W k => by obtain ⟨k1, k2, k3⟩ := KC W k; exact clin_why s t b n y W w.heap.size k1 CC k2 k3 q hq CA))
  clear hans hq KC T1 c0 l0 CC CA hm T
  go_enter Tryz.func72, Tryz.ntmps72
  go_wp2_with fail
  refine CG.out.mono ?_; rintro e w1 ⟨rfl, b1⟩
  have B1 := Lib.hid (below_step b0 b1)
  have P1 : Bk2 w1 (w.heap.size + 1) (.int .i64 0) (.int .i64 0) := by refine Bk2.of b1 (by simp <;> omega) (by intro j; simp [go_sem]) ?_ ?_ <;> simp [go_sem]
  have hz := B1.out.size
  clear b1
  have p_b := P1.hb; have p_f := P1.fz; have p_0 := P1.k0; have p_1 := P1.k1
  clear P1
  go_wp2_with fail
  refine bodyPost_ret (v := .tuple #[.agg #[.int .i64 0, .int .i64 0], .int .i64 q]) (by simp [results, Tryz.results72, go_sem, p_b, p_f, p_0, p_1]) rfl ⟨by rw [e.out], ?_⟩
  clear p_b p_f p_0 p_1
  repeat (refine Below.setCell ?_ (by first | omega | (simp; done) | (simp; omega)) _)
  exact B1.out
end
end Go.Proofs.YtjggjkeopbcmoaaGreatDoor
