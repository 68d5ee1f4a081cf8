/- giveup.Caught at noontide/api.Link, over any closure: what it answers, or why it gave up. -/
import Derived.Test.YtndophkojnfcaaaGvQ
set_option linter.unusedVariables false
set_option linter.unusedSimpArgs false
namespace Go.Proofs.Ytndophkojnfcaaa
open Go.RowKit Go.Sort

set_option maxRecDepth 100000 in
theorem lcatch (b : Nat) (x y line why : Int) (older : List PanicEntry) (w : World) (hb : b < w.heap.size) (hc : w.cell? ⟨b, 0, none⟩ = some (.int .i64 x)) (hd : w.cell? ⟨b, 1, none⟩ = some (.int .i64 y)) (hz : ∀ j, w.frozen? ⟨b, j, none⟩ = false) :
    CallsD Try.prog 107 #[.pointer (some ⟨b, 0, none⟩)] (.panicking ({ v := gvV line why, recovered := false } :: older)) w fun e u' w' =>
      e = .returned (.tuple #[]) ∧ u' = .panicking ({ v := gvV line why, recovered := true } :: older) ∧ w' = ((w.setCell ⟨b, 0, none⟩ (.int .i64 line)).setCell ⟨b, 1, none⟩ (.int .i64 why)).alloc (.cells #[.int .i64 line, .int .i64 why] 119) := by
  unfold gvV
  have hta := fun W => gv_assert line why W
  refine callsD_of_wpS Try.func107 rfl fun c₀ cs hu => ?_
  apply wpS_seq
  apply wpS_region
  simp [wpOpsS, go_sem, recoverD, hu, Try.ntmps107, Exit.thenS]
  refine wpS_of_wp ?_
  rw [show (#[Value.pointer (some ⟨b, 0, none⟩)] ++ (Array.replicate 11 undef).setIfInBounds 3 (Value.iface 119 (Value.agg #[Value.int IntKind.i64 line, Value.int IntKind.i64 why])) : Array Value) = #[.pointer (some ⟨b, 0, none⟩), undef, undef, undef, .iface 119 (.agg #[.int .i64 line, .int .i64 why]), undef, undef, undef, undef, undef, undef, undef] from rfl]
  have n1 : b ≠ w.heap.size := Nat.ne_of_lt hb
  have n2 : w.heap.size ≠ b := Nat.ne_of_gt hb
  go_wp2_with fail
  all_goals (cases c₀; simp_all [bodyPostS, results, Try.results107])
theorem lidle (p : Addr) (w : World) :
    CallsD Try.prog 107 #[.pointer (some p)] .returning w fun e u' w' => e = .returned (.tuple #[]) ∧ u' = .returning ∧ w' = w := by
  refine callsD_of_wpS Try.func107 rfl fun c₀ cs hu => ?_
  apply wpS_seq
  apply wpS_region
  simp [wpOpsS, go_sem, recoverD, hu, Try.ntmps107, Exit.thenS]
  refine wpS_of_wp ?_
  rw [show (#[Value.pointer (some p)] ++ (Array.replicate 11 undef).setIfInBounds 3 Value.nilIface : Array Value) = #[.pointer (some p), undef, undef, undef, .nilIface, undef, undef, undef, undef, undef, undef, undef] from rfl]
  go_wp2_with fail
  all_goals (cases c₀; simp_all [bodyPostS, results, Try.results107])
set_option maxHeartbeats 1000000 in
set_option maxRecDepth 100000 in
theorem lcaughtat_yes (g : FuncId) (qs : Array Value) (hg : ∀ W, Sem.run Try.prog (callFunc g qs) W = .ok (.enter g qs) W) (x : ByteArray) (y : ByteArray) (w : World)
    (CG : Hid (∀ W, Below w.heap.size w W → Calls Try.prog g qs W fun e w' => e = .returned (.agg #[.string x, .string y]) ∧ Below W.heap.size W w')) :
    Calls Try.prog 88 #[.func (Fn.func g) #[] qs] w fun e w' => e = .returned (.tuple #[.agg #[.string x, .string y], .agg #[.int .i64 0, .int .i64 0]]) ∧ Below w.heap.size w w' := by
  have hmf : ∀ (fn : Fn) (first cap : Array Value) (w : World), (Instr.makeFunc fn first cap).run Try.prog w = .ok (.func fn first cap) w := fun _ _ _ _ => rfl
  go_enter_defers Try.func88, Try.ntmps88
  go_wp2_with fail
  have b0 : Below w.heap.size w ((w.alloc (.cells #[.string ⟨#[]⟩, .string ⟨#[]⟩] 47)).alloc (.cells #[.int .i64 0, .int .i64 0] 98)) := ((Below.refl _ _).alloc (Nat.le_refl _) _).alloc (by simp) _
  refine (CG.out _ b0).mono ?_; rintro e w1 ⟨rfl, b1⟩
  have B1 := Lib.hid (below_step b0 b1)
  have P1 : Bk2 w1 w.heap.size (.string ⟨#[]⟩) (.string ⟨#[]⟩) := Bk2.of b1 (by simp <;> omega) (by intro j; simp [go_sem]) (by simp [go_sem]) (by simp [go_sem])
  have Q1 : Bk2 w1 (w.heap.size + 1) (.int .i64 0) (.int .i64 0) := Bk2.of b1 (by simp <;> omega) (by intro j; simp [go_sem]) (by simp [go_sem]) (by simp [go_sem])
  have hz := Lib.hid B1.out.size
  clear b1 b0
  have c_b := Q1.hb; have c_f := Q1.fz; have c_0 := Q1.k0; have c_1 := Q1.k1
  have p_b := P1.hb; have p_f := P1.fz; have p_0 := P1.k0; have p_1 := P1.k1
  clear Q1 P1
  go_wp2_with fail
  refine leaves_cons (f := 107) (args := #[.pointer (some ⟨w.heap.size + 1, 0, none⟩)]) (by simp) (by simp [go_sem]) ?_
  refine (lidle ⟨w.heap.size + 1, 0, none⟩ _).mono ?_
  rintro e u' w'' ⟨rfl, rfl, rfl⟩
  simp [Leaves, settle, results, Try.results88, go_sem, c_b, c_0, c_1, c_f, p_b, p_0, p_1, p_f]
  clear c_b c_f c_0 c_1 p_b p_f p_0 p_1
  repeat (refine Below.setCell ?_ (by first | omega | (simp; done) | (simp; omega)) _)
  exact B1.out
set_option maxHeartbeats 1000000 in
set_option maxRecDepth 100000 in
theorem lcaughtat_no (g : FuncId) (qs : Array Value) (hg : ∀ W, Sem.run Try.prog (callFunc g qs) W = .ok (.enter g qs) W) (line why : Int) (w : World)
    (CG : Hid (∀ W, Below w.heap.size w W → Calls Try.prog g qs W fun e w' => e = .panicked (gvL line why) ∧ Below W.heap.size W w')) :
    Calls Try.prog 88 #[.func (Fn.func g) #[] qs] w fun e w' => e = .returned (.tuple #[.agg #[.string ⟨#[]⟩, .string ⟨#[]⟩], .agg #[.int .i64 line, .int .i64 why]]) ∧ Below w.heap.size w w' := by
  have hmf : ∀ (fn : Fn) (first cap : Array Value) (w : World), (Instr.makeFunc fn first cap).run Try.prog w = .ok (.func fn first cap) w := fun _ _ _ _ => rfl
  go_enter_defers Try.func88, Try.ntmps88
  go_wp2_with fail
  have b0 : Below w.heap.size w ((w.alloc (.cells #[.string ⟨#[]⟩, .string ⟨#[]⟩] 47)).alloc (.cells #[.int .i64 0, .int .i64 0] 98)) := ((Below.refl _ _).alloc (Nat.le_refl _) _).alloc (by simp) _
  refine (CG.out _ b0).mono ?_; rintro e w1 ⟨rfl, b1⟩
  have B1 := Lib.hid (below_step b0 b1)
  have P1 : Bk2 w1 w.heap.size (.string ⟨#[]⟩) (.string ⟨#[]⟩) := Bk2.of b1 (by simp <;> omega) (by intro j; simp [go_sem]) (by simp [go_sem]) (by simp [go_sem])
  have Q1 : Bk2 w1 (w.heap.size + 1) (.int .i64 0) (.int .i64 0) := Bk2.of b1 (by simp <;> omega) (by intro j; simp [go_sem]) (by simp [go_sem]) (by simp [go_sem])
  have hz := Lib.hid B1.out.size
  clear b1 b0
  have c_b := Q1.hb; have c_f := Q1.fz; have c_0 := Q1.k0; have c_1 := Q1.k1
  have p_b := P1.hb; have p_f := P1.fz; have p_0 := P1.k0; have p_1 := P1.k1
  clear Q1 P1
  refine (show bodyPostD _ _ _ (Exit.panic (gvL line why)) _ _ from ?_)
  refine leaves_cons (f := 107) (args := #[.pointer (some ⟨w.heap.size + 1, 0, none⟩)]) (by simp) (by simp [go_sem]) ?_
  refine (lcatch (w.heap.size + 1) 0 0 line why [] _ c_b c_0 c_1 c_f).mono ?_
  rintro e u' w'' ⟨rfl, rfl, rfl⟩
  simp [Leaves, settle, results, Try.results88, go_sem, c_b, c_0, c_1, c_f, p_b, p_0, p_1, p_f]
  clear c_b c_f c_0 c_1 p_b p_f p_0 p_1
  refine Below.alloc (Below.setCell (Below.setCell B1.out (by first | omega | (simp; done) | (simp; omega)) _) (by first | omega | (simp; done) | (simp; omega)) _) (by simp; exact hz.out) _
set_option maxHeartbeats 1000000 in
set_option maxRecDepth 100000 in
theorem lcaught_yes (g : FuncId) (qs : Array Value) (hg : ∀ W, Sem.run Try.prog (callFunc g qs) W = .ok (.enter g qs) W) (x : ByteArray) (y : ByteArray) (w : World)
    (CG : Hid (∀ W, Below w.heap.size w W → Calls Try.prog g qs W fun e w' => e = .returned (.agg #[.string x, .string y]) ∧ Below W.heap.size W w')) :
    Calls Try.prog 64 #[.func (Fn.func g) #[] qs] w fun e w' => e = .returned (.tuple #[.agg #[.string x, .string y], .int .i64 0]) ∧ Below w.heap.size w w' := by
  go_enter Try.func64, Try.ntmps64
  go_wp2_with fail
  refine (lcaughtat_yes g qs hg x y _ (Lib.hid fun W hW => CG.out W (((Below.refl _ _).alloc (Nat.le_refl _) _).trans (hW.mono (by simp))))).mono ?_; rintro e w1 ⟨rfl, b1⟩
  have d1 : Below w.heap.size w w1 := below_step (by repeat (first | exact Below.refl _ _ | refine below_drewN ?_ _ | refine Below.drew ?_ | refine Below.setCell ?_ (by first | (simp; done) | (simp; omega) | omega) _ | refine Below.alloc ?_ (by first | (simp; done) | (simp; omega) | omega) _)) b1
  have B1 := Lib.hid d1
  have R1 : Bk2 w1 (w.heap.size) (.string ⟨#[]⟩) (.string ⟨#[]⟩) := Bk2.of b1 (by simp <;> omega) (by intro j; simp [go_sem]) (by simp [go_sem]) (by simp [go_sem])
  clear b1 d1
  have cR_b := R1.hb
  have cR_f := R1.fz
  have cR_0 := R1.k0
  have cR_1 := R1.k1
  go_wp2_with fail
  clear cR_b cR_f cR_0 cR_1
  refine wp_named ?_; intro w2 hw2
  have d2 : Below w1.heap.size w1 w2 := by rw [hw2]; exact (by repeat (first | exact Below.refl _ _ | refine below_drewN ?_ _ | refine Below.drew ?_ | refine Below.setCell ?_ (by first | (simp; done) | (simp; omega) | omega) _ | refine Below.alloc ?_ (by first | (simp; done) | (simp; omega) | omega) _))
  have B2 := Lib.hid (below_step B1.out d2)
  have R2 := R1.keep d2
  have aY := B1.out.size
  have nYR := Nat.ne_of_lt R1.hb
  have oYR := Nat.ne_of_gt R1.hb
  have Y2 : Bk2 w2 (w1.heap.size) (.string x) (.string y) := by rw [hw2]; exact ⟨by simp <;> omega, by intro j; simp [go_sem], by simp [go_sem], by simp [go_sem]⟩
  have aZ := B1.out.size
  have nZR := Nat.ne_of_lt R1.hb
  have oZR := Nat.ne_of_gt R1.hb
  have Z2 : Bk2 w2 (w1.heap.size + 1) (.int .i64 0) (.int .i64 0) := by rw [hw2]; exact ⟨by simp <;> omega, by intro j; simp [go_sem], by simp [go_sem], by simp [go_sem]⟩
  clear R1 d2 hw2 B1
  have cR_b := R2.hb
  have cR_f := R2.fz
  have cR_0 := R2.k0
  have cR_1 := R2.k1
  have cY_b := Y2.hb
  have cY_f := Y2.fz
  have cY_0 := Y2.k0
  have cY_1 := Y2.k1
  have cZ_b := Z2.hb
  have cZ_f := Z2.fz
  have cZ_0 := Z2.k0
  have cZ_1 := Z2.k1
  go_region_with (fail)
  all_goals
    go_wp2_with fail
    refine bodyPost_ret (v := .tuple #[.agg #[.string x, .string y], .int .i64 0]) (by simp [results, Try.results64, go_sem, *]) rfl ⟨rfl, ?_⟩
    have hz := B2.out.size
    repeat (first | exact B2.out | refine below_drewN ?_ _ | refine Below.drew ?_ | refine Below.setCell ?_ (by first | omega | (simp; done) | (simp; omega)) _ | refine Below.alloc ?_ (by first | omega | (simp; done) | (simp; omega)) _)
set_option maxHeartbeats 1000000 in
set_option maxRecDepth 100000 in
theorem lcaught_no (g : FuncId) (qs : Array Value) (hg : ∀ W, Sem.run Try.prog (callFunc g qs) W = .ok (.enter g qs) W) (line why : Int) (w : World)
    (CG : Hid (∀ W, Below w.heap.size w W → Calls Try.prog g qs W fun e w' => e = .panicked (gvL line why) ∧ Below W.heap.size W w')) :
    Calls Try.prog 64 #[.func (Fn.func g) #[] qs] w fun e w' => e = .returned (.tuple #[.agg #[.string ⟨#[]⟩, .string ⟨#[]⟩], .int .i64 why]) ∧ Below w.heap.size w w' := by
  go_enter Try.func64, Try.ntmps64
  go_wp2_with fail
  refine (lcaughtat_no g qs hg line why _ (Lib.hid fun W hW => CG.out W (((Below.refl _ _).alloc (Nat.le_refl _) _).trans (hW.mono (by simp))))).mono ?_; rintro e w1 ⟨rfl, b1⟩
  have d1 : Below w.heap.size w w1 := below_step (by repeat (first | exact Below.refl _ _ | refine below_drewN ?_ _ | refine Below.drew ?_ | refine Below.setCell ?_ (by first | (simp; done) | (simp; omega) | omega) _ | refine Below.alloc ?_ (by first | (simp; done) | (simp; omega) | omega) _)) b1
  have B1 := Lib.hid d1
  have R1 : Bk2 w1 (w.heap.size) (.string ⟨#[]⟩) (.string ⟨#[]⟩) := Bk2.of b1 (by simp <;> omega) (by intro j; simp [go_sem]) (by simp [go_sem]) (by simp [go_sem])
  clear b1 d1
  have cR_b := R1.hb
  have cR_f := R1.fz
  have cR_0 := R1.k0
  have cR_1 := R1.k1
  go_wp2_with fail
  clear cR_b cR_f cR_0 cR_1
  refine wp_named ?_; intro w2 hw2
  have d2 : Below w1.heap.size w1 w2 := by rw [hw2]; exact (by repeat (first | exact Below.refl _ _ | refine below_drewN ?_ _ | refine Below.drew ?_ | refine Below.setCell ?_ (by first | (simp; done) | (simp; omega) | omega) _ | refine Below.alloc ?_ (by first | (simp; done) | (simp; omega) | omega) _))
  have B2 := Lib.hid (below_step B1.out d2)
  have R2 := R1.keep d2
  have aY := B1.out.size
  have nYR := Nat.ne_of_lt R1.hb
  have oYR := Nat.ne_of_gt R1.hb
  have Y2 : Bk2 w2 (w1.heap.size) (.string ⟨#[]⟩) (.string ⟨#[]⟩) := by rw [hw2]; exact ⟨by simp <;> omega, by intro j; simp [go_sem], by simp [go_sem], by simp [go_sem]⟩
  have aZ := B1.out.size
  have nZR := Nat.ne_of_lt R1.hb
  have oZR := Nat.ne_of_gt R1.hb
  have Z2 : Bk2 w2 (w1.heap.size + 1) (.int .i64 line) (.int .i64 why) := by rw [hw2]; exact ⟨by simp <;> omega, by intro j; simp [go_sem], by simp [go_sem], by simp [go_sem]⟩
  clear R1 d2 hw2 B1
  have cR_b := R2.hb
  have cR_f := R2.fz
  have cR_0 := R2.k0
  have cR_1 := R2.k1
  have cY_b := Y2.hb
  have cY_f := Y2.fz
  have cY_0 := Y2.k0
  have cY_1 := Y2.k1
  have cZ_b := Z2.hb
  have cZ_f := Z2.fz
  have cZ_0 := Z2.k0
  have cZ_1 := Z2.k1
  go_region_with (fail)
  all_goals
    go_wp2_with fail
    refine bodyPost_ret (v := .tuple #[.agg #[.string ⟨#[]⟩, .string ⟨#[]⟩], .int .i64 why]) (by simp [results, Try.results64, go_sem, *]) rfl ⟨rfl, ?_⟩
    have hz := B2.out.size
    repeat (first | exact B2.out | refine below_drewN ?_ _ | refine Below.drew ?_ | refine Below.setCell ?_ (by first | omega | (simp; done) | (simp; omega)) _ | refine Below.alloc ?_ (by first | omega | (simp; done) | (simp; omega)) _)
end Go.Proofs.Ytndophkojnfcaaa

