/- Joined: GvQ, GvI, AnF, StV, RsD. -/
import Derived.Test.YtlelpeocbgjmhaaGreatDoorCa09
import Derived.Test.YtlelpeocbgjmhaaGreatDoorCa04
import Derived.Test.YtlelpeocbgjmhaaGreatDoorCa18
import Derived.Test.YtlelpeocbgjmhaaGreatDoorCa06
import Derived.Deep.QuietTactic
import Derived.Test.YtlelpeocbgjmhaaGreatDoorCa14
/- giveup: the reason that a deferred call finds. -/
set_option linter.unusedVariables false
set_option linter.unusedSimpArgs false
namespace Go.Proofs.YtlelpeocbgjmhaaGreatDoor
open Go.RowKit

theorem gv_assert (line why : Int) (W : World) : Sem.run Tryz.prog (Instr.typeAssert (Value.iface 111 (Value.agg #[Value.int IntKind.i64 line, Value.int IntKind.i64 why])) 20 111 true) W = .ok (.tuple #[.agg #[.int .i64 line, .int .i64 why], .bool true]) W := by
  kernel_rfl
end Go.Proofs.YtlelpeocbgjmhaaGreatDoor

/- giveup.Caught at noontide/api.Info, over any closure: what it answers, or why it gave up. -/
set_option linter.unusedVariables false
set_option linter.unusedSimpArgs false
namespace Go.Proofs.YtlelpeocbgjmhaaGreatDoor
open Go.RowKit Go.Sort

set_option maxRecDepth 100000 in
theorem gicatch (b : Nat) (x y line why : Int) (older : List PanicEntry) (w : World) (hb : b < w.heap.size) (hc : w.cell? ⟨b, 0, none⟩ = some (.int .i64 x)) (hd : w.cell? ⟨b, 1, none⟩ = some (.int .i64 y)) (hz : ∀ j, w.frozen? ⟨b, j, none⟩ = false) :
    CallsD Tryz.prog 74 #[.pointer (some ⟨b, 0, none⟩)] (.panicking ({ v := gvV line why, recovered := false } :: older)) w fun e u' w' =>
      e = .returned (.tuple #[]) ∧ u' = .panicking ({ v := gvV line why, recovered := true } :: older) ∧ w' = ((w.setCell ⟨b, 0, none⟩ (.int .i64 line)).setCell ⟨b, 1, none⟩ (.int .i64 why)).alloc (.cells #[.int .i64 line, .int .i64 why] 111) := by
  unfold gvV
  have hta := fun W => gv_assert line why W
  refine callsD_of_wpS Tryz.func74 rfl fun c₀ cs hu => ?_
  apply wpS_seq
  apply wpS_region
  simp [wpOpsS, go_sem, recoverD, hu, Tryz.ntmps74, Exit.thenS]
  refine wpS_of_wp ?_
  rw [show (#[Value.pointer (some ⟨b, 0, none⟩)] ++ (Array.replicate 11 undef).setIfInBounds 3 (Value.iface 111 (Value.agg #[Value.int IntKind.i64 line, Value.int IntKind.i64 why])) : Array Value) = #[.pointer (some ⟨b, 0, none⟩), undef, undef, undef, .iface 111 (.agg #[.int .i64 line, .int .i64 why]), undef, undef, undef, undef, undef, undef, undef] from rfl]
  have n1 : b ≠ w.heap.size := Nat.ne_of_lt hb
  have n2 : w.heap.size ≠ b := Nat.ne_of_gt hb
  go_wp2_with fail
  all_goals (cases c₀; simp_all [bodyPostS, results, Tryz.results74])
theorem giidle (p : Addr) (w : World) :
    CallsD Tryz.prog 74 #[.pointer (some p)] .returning w fun e u' w' => e = .returned (.tuple #[]) ∧ u' = .returning ∧ w' = w := by
  refine callsD_of_wpS Tryz.func74 rfl fun c₀ cs hu => ?_
  apply wpS_seq
  apply wpS_region
  simp [wpOpsS, go_sem, recoverD, hu, Tryz.ntmps74, Exit.thenS]
  refine wpS_of_wp ?_
  rw [show (#[Value.pointer (some p)] ++ (Array.replicate 11 undef).setIfInBounds 3 Value.nilIface : Array Value) = #[.pointer (some p), undef, undef, undef, .nilIface, undef, undef, undef, undef, undef, undef, undef] from rfl]
  go_wp2_with fail
  all_goals (cases c₀; simp_all [bodyPostS, results, Tryz.results74])
set_option maxHeartbeats 1000000 in
set_option maxRecDepth 100000 in
theorem gicaughtat_yes (g : FuncId) (qs : Array Value) (hg : ∀ W, Sem.run Tryz.prog (callFunc g qs) W = .ok (.enter g qs) W) (a : Int) (b : Int) (c : Int) (d : Int) (x : ByteArray) (w : World)
    (CG : Hid (∀ W, Below w.heap.size w W → Calls Tryz.prog g qs W fun e w' => e = .returned (.agg #[.int .i64 a, .int .i64 b, .int .i64 c, .int .i64 d, .string x]) ∧ Below W.heap.size W w')) :
    Calls Tryz.prog 50 #[.func (Fn.func g) #[] qs] w fun e w' => e = .returned (.tuple #[.agg #[.int .i64 a, .int .i64 b, .int .i64 c, .int .i64 d, .string x], .agg #[.int .i64 0, .int .i64 0]]) ∧ Below w.heap.size w w' := by
  have hmf : ∀ (fn : Fn) (first cap : Array Value) (w : World), (Instr.makeFunc fn first cap).run Tryz.prog w = .ok (.func fn first cap) w := fun _ _ _ _ => rfl
  go_enter_defers Tryz.func50, Tryz.ntmps50
  go_wp2_with fail
  have b0 : Below w.heap.size w ((w.alloc (.cells #[.int .i64 0, .int .i64 0, .int .i64 0, .int .i64 0, .string ⟨#[]⟩] 27)).alloc (.cells #[.int .i64 0, .int .i64 0] 32)) := ((Below.refl _ _).alloc (Nat.le_refl _) _).alloc (by simp) _
  refine (CG.out _ b0).mono ?_; rintro e w1 ⟨rfl, b1⟩
  have B1 := Lib.hid (below_step b0 b1)
  have P1 : Bk5 w1 w.heap.size (.int .i64 0) (.int .i64 0) (.int .i64 0) (.int .i64 0) (.string ⟨#[]⟩) := Bk5.of b1 (by simp <;> omega) (by intro j; simp [go_sem]) (by simp [go_sem]) (by simp [go_sem]) (by simp [go_sem]) (by simp [go_sem]) (by simp [go_sem])
  have Q1 : Bk2 w1 (w.heap.size + 1) (.int .i64 0) (.int .i64 0) := Bk2.of b1 (by simp <;> omega) (by intro j; simp [go_sem]) (by simp [go_sem]) (by simp [go_sem])
  have hz := Lib.hid B1.out.size
  clear b1 b0
  have c_b := Q1.hb; have c_f := Q1.fz; have c_0 := Q1.k0; have c_1 := Q1.k1
  have p_b := P1.hb; have p_f := P1.fz; have p_0 := P1.k0; have p_1 := P1.k1; have p_2 := P1.k2; have p_3 := P1.k3; have p_4 := P1.k4
  clear Q1 P1
  go_wp2_with fail
  refine leaves_cons (f := 74) (args := #[.pointer (some ⟨w.heap.size + 1, 0, none⟩)]) (by simp) (by simp [go_sem]) ?_
  refine (giidle ⟨w.heap.size + 1, 0, none⟩ _).mono ?_
  rintro e u' w'' ⟨rfl, rfl, rfl⟩
  simp [Leaves, settle, results, Tryz.results50, go_sem, c_b, c_0, c_1, c_f, p_b, p_0, p_1, p_2, p_3, p_4, p_f]
  clear c_b c_f c_0 c_1 p_b p_f p_0 p_1 p_2 p_3 p_4
  repeat (refine Below.setCell ?_ (by first | omega | (simp; done) | (simp; omega)) _)
  exact B1.out
set_option maxHeartbeats 1000000 in
set_option maxRecDepth 100000 in
theorem gicaughtat_no (g : FuncId) (qs : Array Value) (hg : ∀ W, Sem.run Tryz.prog (callFunc g qs) W = .ok (.enter g qs) W) (line why : Int) (w : World)
    (CG : Hid (∀ W, Below w.heap.size w W → Calls Tryz.prog g qs W fun e w' => e = .panicked (gvL line why) ∧ Below W.heap.size W w')) :
    Calls Tryz.prog 50 #[.func (Fn.func g) #[] qs] w fun e w' => e = .returned (.tuple #[.agg #[.int .i64 0, .int .i64 0, .int .i64 0, .int .i64 0, .string ⟨#[]⟩], .agg #[.int .i64 line, .int .i64 why]]) ∧ Below w.heap.size w w' := by
  have hmf : ∀ (fn : Fn) (first cap : Array Value) (w : World), (Instr.makeFunc fn first cap).run Tryz.prog w = .ok (.func fn first cap) w := fun _ _ _ _ => rfl
  go_enter_defers Tryz.func50, Tryz.ntmps50
  go_wp2_with fail
  have b0 : Below w.heap.size w ((w.alloc (.cells #[.int .i64 0, .int .i64 0, .int .i64 0, .int .i64 0, .string ⟨#[]⟩] 27)).alloc (.cells #[.int .i64 0, .int .i64 0] 32)) := ((Below.refl _ _).alloc (Nat.le_refl _) _).alloc (by simp) _
  refine (CG.out _ b0).mono ?_; rintro e w1 ⟨rfl, b1⟩
  have B1 := Lib.hid (below_step b0 b1)
  have P1 : Bk5 w1 w.heap.size (.int .i64 0) (.int .i64 0) (.int .i64 0) (.int .i64 0) (.string ⟨#[]⟩) := Bk5.of b1 (by simp <;> omega) (by intro j; simp [go_sem]) (by simp [go_sem]) (by simp [go_sem]) (by simp [go_sem]) (by simp [go_sem]) (by simp [go_sem])
  have Q1 : Bk2 w1 (w.heap.size + 1) (.int .i64 0) (.int .i64 0) := Bk2.of b1 (by simp <;> omega) (by intro j; simp [go_sem]) (by simp [go_sem]) (by simp [go_sem])
  have hz := Lib.hid B1.out.size
  clear b1 b0
  have c_b := Q1.hb; have c_f := Q1.fz; have c_0 := Q1.k0; have c_1 := Q1.k1
  have p_b := P1.hb; have p_f := P1.fz; have p_0 := P1.k0; have p_1 := P1.k1; have p_2 := P1.k2; have p_3 := P1.k3; have p_4 := P1.k4
  clear Q1 P1
  refine (show bodyPostD _ _ _ (Exit.panic (gvL line why)) _ _ from ?_)
  refine leaves_cons (f := 74) (args := #[.pointer (some ⟨w.heap.size + 1, 0, none⟩)]) (by simp) (by simp [go_sem]) ?_
  refine (gicatch (w.heap.size + 1) 0 0 line why [] _ c_b c_0 c_1 c_f).mono ?_
  rintro e u' w'' ⟨rfl, rfl, rfl⟩
  simp [Leaves, settle, results, Tryz.results50, go_sem, c_b, c_0, c_1, c_f, p_b, p_0, p_1, p_2, p_3, p_4, p_f]
  clear c_b c_f c_0 c_1 p_b p_f p_0 p_1 p_2 p_3 p_4
  refine Below.alloc (Below.setCell (Below.setCell B1.out (by first | omega | (simp; done) | (simp; omega)) _) (by first | omega | (simp; done) | (simp; omega)) _) (by simp; exact hz.out) _
set_option maxHeartbeats 1000000 in
set_option maxRecDepth 100000 in
theorem gicaught_yes (g : FuncId) (qs : Array Value) (hg : ∀ W, Sem.run Tryz.prog (callFunc g qs) W = .ok (.enter g qs) W) (a : Int) (b : Int) (c : Int) (d : Int) (x : ByteArray) (w : World)
    (CG : Hid (∀ W, Below w.heap.size w W → Calls Tryz.prog g qs W fun e w' => e = .returned (.agg #[.int .i64 a, .int .i64 b, .int .i64 c, .int .i64 d, .string x]) ∧ Below W.heap.size W w')) :
    Calls Tryz.prog 27 #[.func (Fn.func g) #[] qs] w fun e w' => e = .returned (.tuple #[.agg #[.int .i64 a, .int .i64 b, .int .i64 c, .int .i64 d, .string x], .int .i64 0]) ∧ Below w.heap.size w w' := by
  go_enter Tryz.func27, Tryz.ntmps27
  go_wp2_with fail
  refine (gicaughtat_yes g qs hg a b c d x _ (Lib.hid fun W hW => CG.out W (((Below.refl _ _).alloc (Nat.le_refl _) _).trans (hW.mono (by simp))))).mono ?_; rintro e w1 ⟨rfl, b1⟩
  have d1 : Below w.heap.size w w1 := below_step (by repeat (first | exact Below.refl _ _ | refine _root_.Go.below_drewN ?_ _ | refine Below.drew ?_ | refine Below.setCell ?_ (by first | (simp; done) | (simp; omega) | omega) _ | refine Below.alloc ?_ (by first | (simp; done) | (simp; omega) | omega) _)) b1
  have B1 := Lib.hid d1
  have R1 : Bk5 w1 (w.heap.size) (.int .i64 0) (.int .i64 0) (.int .i64 0) (.int .i64 0) (.string ⟨#[]⟩) := Bk5.of b1 (by simp <;> omega) (by intro j; simp [go_sem]) (by simp [go_sem]) (by simp [go_sem]) (by simp [go_sem]) (by simp [go_sem]) (by simp [go_sem])
  clear b1 d1
  have cR_b := R1.hb
  have cR_f := R1.fz
  have cR_0 := R1.k0
  have cR_1 := R1.k1
  have cR_2 := R1.k2
  have cR_3 := R1.k3
  have cR_4 := R1.k4
  go_wp2_with fail
  clear cR_b cR_f cR_0 cR_1 cR_2 cR_3 cR_4
  refine wp_named ?_; intro w2 hw2
  have d2 : Below w1.heap.size w1 w2 := by rw [hw2]; exact (by repeat (first | exact Below.refl _ _ | refine _root_.Go.below_drewN ?_ _ | refine Below.drew ?_ | refine Below.setCell ?_ (by first | (simp; done) | (simp; omega) | omega) _ | refine Below.alloc ?_ (by first | (simp; done) | (simp; omega) | omega) _))
  have B2 := Lib.hid (below_step B1.out d2)
  have R2 := R1.keep d2
  have aY := B1.out.size
  have nYR := Nat.ne_of_lt R1.hb
  have oYR := Nat.ne_of_gt R1.hb
  have Y2 : Bk5 w2 (w1.heap.size) (.int .i64 a) (.int .i64 b) (.int .i64 c) (.int .i64 d) (.string x) := by rw [hw2]; exact ⟨by simp <;> omega, by intro j; simp [go_sem], by simp [go_sem], by simp [go_sem], by simp [go_sem], by simp [go_sem], by simp [go_sem]⟩
  have aZ := B1.out.size
  have nZR := Nat.ne_of_lt R1.hb
  have oZR := Nat.ne_of_gt R1.hb
  have Z2 : Bk2 w2 (w1.heap.size + 1) (.int .i64 0) (.int .i64 0) := by rw [hw2]; exact ⟨by simp <;> omega, by intro j; simp [go_sem], by simp [go_sem], by simp [go_sem]⟩
  clear R1 d2 hw2 B1

  have cR_b := R2.hb
  have cR_f := R2.fz
  have cR_0 := R2.k0
  have cR_1 := R2.k1
  have cR_2 := R2.k2
  have cR_3 := R2.k3
  have cR_4 := R2.k4
  have cY_b := Y2.hb
  have cY_f := Y2.fz
  have cY_0 := Y2.k0
  have cY_1 := Y2.k1
  have cY_2 := Y2.k2
  have cY_3 := Y2.k3
  have cY_4 := Y2.k4
  have cZ_b := Z2.hb
  have cZ_f := Z2.fz
  have cZ_0 := Z2.k0
  have cZ_1 := Z2.k1
  go_region_with (fail)
  all_goals
    go_wp2_with fail
    refine bodyPost_ret (v := .tuple #[.agg #[.int .i64 a, .int .i64 b, .int .i64 c, .int .i64 d, .string x], .int .i64 0]) (by simp [results, Tryz.results27, go_sem, *]) rfl ⟨rfl, ?_⟩
    have hz := B2.out.size
    first | refine Below.drew ?_ | skip
    iterate 5 (refine Below.setCell ?_ (by first | omega | (simp; done) | (simp; omega)) _)
    repeat (first | exact B2.out | refine _root_.Go.below_drewN ?_ _ | refine Below.drew ?_ | refine Below.setCell ?_ (by first | omega | (simp; done) | (simp; omega)) _ | refine Below.alloc ?_ (by first | omega | (simp; done) | (simp; omega)) _)
set_option maxHeartbeats 1000000 in
set_option maxRecDepth 100000 in
theorem gicaught_no (g : FuncId) (qs : Array Value) (hg : ∀ W, Sem.run Tryz.prog (callFunc g qs) W = .ok (.enter g qs) W) (line why : Int) (w : World)
    (CG : Hid (∀ W, Below w.heap.size w W → Calls Tryz.prog g qs W fun e w' => e = .panicked (gvL line why) ∧ Below W.heap.size W w')) :
    Calls Tryz.prog 27 #[.func (Fn.func g) #[] qs] w fun e w' => e = .returned (.tuple #[.agg #[.int .i64 0, .int .i64 0, .int .i64 0, .int .i64 0, .string ⟨#[]⟩], .int .i64 why]) ∧ Below w.heap.size w w' := by
  go_enter Tryz.func27, Tryz.ntmps27
  go_wp2_with fail
  refine (gicaughtat_no g qs hg line why _ (Lib.hid fun W hW => CG.out W (((Below.refl _ _).alloc (Nat.le_refl _) _).trans (hW.mono (by simp))))).mono ?_; rintro e w1 ⟨rfl, b1⟩
  have d1 : Below w.heap.size w w1 := below_step (by repeat (first | exact Below.refl _ _ | refine _root_.Go.below_drewN ?_ _ | refine Below.drew ?_ | refine Below.setCell ?_ (by first | (simp; done) | (simp; omega) | omega) _ | refine Below.alloc ?_ (by first | (simp; done) | (simp; omega) | omega) _)) b1
  have B1 := Lib.hid d1
  have R1 : Bk5 w1 (w.heap.size) (.int .i64 0) (.int .i64 0) (.int .i64 0) (.int .i64 0) (.string ⟨#[]⟩) := Bk5.of b1 (by simp <;> omega) (by intro j; simp [go_sem]) (by simp [go_sem]) (by simp [go_sem]) (by simp [go_sem]) (by simp [go_sem]) (by simp [go_sem])
  clear b1 d1
  have cR_b := R1.hb
  have cR_f := R1.fz
  have cR_0 := R1.k0
  have cR_1 := R1.k1
  have cR_2 := R1.k2
  have cR_3 := R1.k3
  have cR_4 := R1.k4
  go_wp2_with fail
  clear cR_b cR_f cR_0 cR_1 cR_2 cR_3 cR_4
  refine wp_named ?_; intro w2 hw2
  have d2 : Below w1.heap.size w1 w2 := by rw [hw2]; exact (by repeat (first | exact Below.refl _ _ | refine _root_.Go.below_drewN ?_ _ | refine Below.drew ?_ | refine Below.setCell ?_ (by first | (simp; done) | (simp; omega) | omega) _ | refine Below.alloc ?_ (by first | (simp; done) | (simp; omega) | omega) _))
  have B2 := Lib.hid (below_step B1.out d2)
  have R2 := R1.keep d2
  have aY := B1.out.size
  have nYR := Nat.ne_of_lt R1.hb
  have oYR := Nat.ne_of_gt R1.hb
  have Y2 : Bk5 w2 (w1.heap.size) (.int .i64 0) (.int .i64 0) (.int .i64 0) (.int .i64 0) (.string ⟨#[]⟩) := by rw [hw2]; exact ⟨by simp <;> omega, by intro j; simp [go_sem], by simp [go_sem], by simp [go_sem], by simp [go_sem], by simp [go_sem], by simp [go_sem]⟩
  have aZ := B1.out.size
  have nZR := Nat.ne_of_lt R1.hb
  have oZR := Nat.ne_of_gt R1.hb
  have Z2 : Bk2 w2 (w1.heap.size + 1) (.int .i64 line) (.int .i64 why) := by rw [hw2]; exact ⟨by simp <;> omega, by intro j; simp [go_sem], by simp [go_sem], by simp [go_sem]⟩
  clear R1 d2 hw2 B1

  have cR_b := R2.hb
  have cR_f := R2.fz
  have cR_0 := R2.k0
  have cR_1 := R2.k1
  have cR_2 := R2.k2
  have cR_3 := R2.k3
  have cR_4 := R2.k4
  have cY_b := Y2.hb
  have cY_f := Y2.fz
  have cY_0 := Y2.k0
  have cY_1 := Y2.k1
  have cY_2 := Y2.k2
  have cY_3 := Y2.k3
  have cY_4 := Y2.k4
  have cZ_b := Z2.hb
  have cZ_f := Z2.fz
  have cZ_0 := Z2.k0
  have cZ_1 := Z2.k1
  go_region_with (fail)
  all_goals
    go_wp2_with fail
    refine bodyPost_ret (v := .tuple #[.agg #[.int .i64 0, .int .i64 0, .int .i64 0, .int .i64 0, .string ⟨#[]⟩], .int .i64 why]) (by simp [results, Tryz.results27, go_sem, *]) rfl ⟨rfl, ?_⟩
    have hz := B2.out.size
    first | refine Below.drew ?_ | skip
    iterate 5 (refine Below.setCell ?_ (by first | omega | (simp; done) | (simp; omega)) _)
    repeat (first | exact B2.out | refine _root_.Go.below_drewN ?_ _ | refine Below.drew ?_ | refine Below.setCell ?_ (by first | omega | (simp; done) | (simp; omega)) _ | refine Below.alloc ?_ (by first | omega | (simp; done) | (simp; omega)) _)
end Go.Proofs.YtlelpeocbgjmhaaGreatDoor

/- Answers: ReadInfo, of the program. -/
set_option linter.unusedVariables false
set_option linter.unusedSimpArgs false
namespace Go.Proofs.YtlelpeocbgjmhaaGreatDoor
open Go.RowKit Go.Sort
theorem An.rdL_no (l : List (List UInt8)) (h : (An.rdL l).2 ≠ 0) : (An.rdL l).1 = An.I0 := by
  match l, h with
  | [], _ => rfl
  | [_], _ => rfl
  | [_, _], _ => rfl
  | [_, _, _], _ => rfl
  | [_, _, _, _], _ => rfl
  | [a, b, c, d, x], h =>
    rw [An.rdL_five] at h ⊢
    by_cases hw : An.w4 a b c d = 0
    · rw [if_neg (by simp [hw])] at h; exact absurd rfl h
    · rw [if_pos hw]
  | _ :: _ :: _ :: _ :: _ :: _ :: _, _ => rfl
theorem An.rdi_no (s : List UInt8) (h : (An.rdi s).2 ≠ 0) : (An.rdi s).1 = An.I0 := by
  unfold An.rdi at h ⊢
  by_cases hy : (Fd.of s).2 = 0
  · rw [if_neg (by simp [hy])] at h ⊢
    exact An.rdL_no _ h
  · rw [if_pos hy]
set_option maxRecDepth 100000 in
theorem ar_callFn (qs : Array Value) (W : World) : Sem.run Tryz.prog (callFunc 28 qs) W = .ok (.enter 28 qs) W := rfl
set_option maxHeartbeats 4000000 in
set_option maxRecDepth 100000 in
theorem aread_any (s : ByteArray) (w : World) (hs : s.size ≤ 1000000) (tp : TypeId) (pp : Value) (hvar : w.var? Tryz.prog "strconv.ErrRange" = some #[.iface tp pp]) :
    Calls Tryz.prog 10 #[.string s] w fun e w' => e = .returned (.tuple #[.agg #[.int .i64 (An.rdi s.data.toList).1.1, .int .i64 (An.rdi s.data.toList).1.2.1, .int .i64 (An.rdi s.data.toList).1.2.2.1, .int .i64 (An.rdi s.data.toList).1.2.2.2.1, .string (An.rdi s.data.toList).1.2.2.2.2], .int .i64 (An.rdi s.data.toList).2]) ∧ Below w.heap.size w w' := by
  have C := Lib.hid (fun b W (hc : W.cell? ⟨b, 0, none⟩ = some (.string s)) hv => aread1_any b s W hc hs tp pp hv)
  have hR := An.rdi_no s.data.toList
  have HV := Lib.hid hvar
  clear hvar hs
  generalize An.rdi s.data.toList = R at C hR ⊢
  obtain ⟨⟨a, b, c, d, x⟩, y⟩ := R
  dsimp only at hR ⊢
  by_cases h0 : y = 0
  · subst h0
    have TT := Lib.hid (fun q W (hc : W.cell? ⟨q, 0, none⟩ = some (.string s)) hv => gicaught_yes 28 #[.pointer (some ⟨q, 0, none⟩)] (ar_callFn _) a b c d x W (Lib.hid fun W' hB => (C.out q W' (fd_keep hc hB) (var_keep hB hv)).mono (by
      rintro e w' ⟨h1, ⟨-, h2⟩ | ⟨h2, -⟩⟩
      · exact ⟨h2, h1⟩
      · exact absurd rfl h2)))
    clear C hR
    go_enter Tryz.func10, Tryz.ntmps10
    go_wp2_with fail
    refine (TT.out _ _ (by simp [go_sem]) (var_keep (by repeat (first | exact Below.refl _ _ | refine _root_.Go.below_drewN ?_ _ | refine Below.drew ?_ | refine Below.setCell ?_ (by first | (simp; done) | (simp; omega) | omega) _ | refine Below.alloc ?_ (by first | (simp; done) | (simp; omega) | omega) _)) HV.out)).mono ?_; rintro e w1 ⟨rfl, b1⟩
    have B1 : Hid (Below w.heap.size w w1) := Lib.hid (below_step (by repeat (first | exact Below.refl _ _ | refine _root_.Go.below_drewN ?_ _ | refine Below.drew ?_ | refine Below.setCell ?_ (by first | (simp; done) | (simp; omega) | omega) _ | refine Below.alloc ?_ (by first | (simp; done) | (simp; omega) | omega) _)) b1)
    have Z1 : Bk5 w1 (w.heap.size + 1) (.int .i64 0) (.int .i64 0) (.int .i64 0) (.int .i64 0) (.string ⟨#[]⟩) := Bk5.of b1 (by simp <;> omega) (by intro j; simp [go_sem]) (by simp [go_sem]) (by simp [go_sem]) (by simp [go_sem]) (by simp [go_sem]) (by simp [go_sem])
    clear b1
    have Zh := Z1.hb; have Zf := Z1.fz; have Z10 := Z1.k0; have Z11 := Z1.k1; have Z12 := Z1.k2; have Z13 := Z1.k3; have Z14 := Z1.k4
    go_wp2_with fail
    refine bodyPost_ret (v := .tuple #[.agg #[.int .i64 a, .int .i64 b, .int .i64 c, .int .i64 d, .string x], .int .i64 0]) (by simp [results, Tryz.results10, go_sem, Zh, Zf, Z10, Z11, Z12, Z13, Z14]) rfl ⟨rfl, ?_⟩
    have hz := B1.out.size
    iterate 5 (refine Below.setCell ?_ (by first | omega | (simp; done) | (simp; omega)) _)
    exact B1.out
  · obtain ⟨rfl, rfl, rfl, rfl, rfl⟩ : a = 0 ∧ b = 0 ∧ c = 0 ∧ d = 0 ∧ x = ⟨#[]⟩ := by
      have := hR h0
      unfold An.I0 at this
      simpa using this
    have TT := Lib.hid (fun q W (hc : W.cell? ⟨q, 0, none⟩ = some (.string s)) hv => gicaught_no 28 #[.pointer (some ⟨q, 0, none⟩)] (ar_callFn _) 0 y W (Lib.hid fun W' hB => (C.out q W' (fd_keep hc hB) (var_keep hB hv)).mono (by
      rintro e w' ⟨h1, ⟨h2, -⟩ | ⟨h2, h3⟩⟩
      · exact absurd h2 h0
      · exact ⟨h3, h1⟩)))
    clear C hR
    go_enter Tryz.func10, Tryz.ntmps10
    go_wp2_with fail
    refine (TT.out _ _ (by simp [go_sem]) (var_keep (by repeat (first | exact Below.refl _ _ | refine _root_.Go.below_drewN ?_ _ | refine Below.drew ?_ | refine Below.setCell ?_ (by first | (simp; done) | (simp; omega) | omega) _ | refine Below.alloc ?_ (by first | (simp; done) | (simp; omega) | omega) _)) HV.out)).mono ?_; rintro e w1 ⟨rfl, b1⟩
    have B1 : Hid (Below w.heap.size w w1) := Lib.hid (below_step (by repeat (first | exact Below.refl _ _ | refine _root_.Go.below_drewN ?_ _ | refine Below.drew ?_ | refine Below.setCell ?_ (by first | (simp; done) | (simp; omega) | omega) _ | refine Below.alloc ?_ (by first | (simp; done) | (simp; omega) | omega) _)) b1)
    have Z1 : Bk5 w1 (w.heap.size + 1) (.int .i64 0) (.int .i64 0) (.int .i64 0) (.int .i64 0) (.string ⟨#[]⟩) := Bk5.of b1 (by simp <;> omega) (by intro j; simp [go_sem]) (by simp [go_sem]) (by simp [go_sem]) (by simp [go_sem]) (by simp [go_sem]) (by simp [go_sem])
    clear b1
    have Zh := Z1.hb; have Zf := Z1.fz; have Z10 := Z1.k0; have Z11 := Z1.k1; have Z12 := Z1.k2; have Z13 := Z1.k3; have Z14 := Z1.k4
    go_wp2_with fail
    refine bodyPost_ret (v := .tuple #[.agg #[.int .i64 0, .int .i64 0, .int .i64 0, .int .i64 0, .string ⟨#[]⟩], .int .i64 y]) (by simp [results, Tryz.results10, go_sem, Zh, Zf, Z10, Z11, Z12, Z13, Z14]) rfl ⟨rfl, ?_⟩
    have hz := B1.out.size
    iterate 5 (refine Below.setCell ?_ (by first | omega | (simp; done) | (simp; omega)) _)
    exact B1.out
end Go.Proofs.YtlelpeocbgjmhaaGreatDoor

/- Stamps that are read: digits, and what they mean. -/
set_option linter.unusedVariables false
set_option linter.unusedSimpArgs false
namespace Go.Proofs.YtlelpeocbgjmhaaGreatDoor
open Go.RowKit

theorem bl_len (a : ByteArray) : a.data.toList.length = a.size := Array.length_toList
theorem bl_drop (a : ByteArray) (k : Nat) (h : k < a.size) : a.data.toList.drop k = a[k] :: a.data.toList.drop (k + 1) := by
  rw [List.drop_eq_getElem_cons (by rw [bl_len]; exact h)]
  rfl
theorem dig_b (c : UInt8) : Num.dig c = (decide (48 ≤ (c.toNat : Int)) && decide ((c.toNat : Int) ≤ 57)) := by
  unfold Num.dig
  by_cases h1 : 48 ≤ c.toNat <;> by_cases h2 : c.toNat ≤ 57 <;> simp [h1, h2] <;> omega
end Go.Proofs.YtlelpeocbgjmhaaGreatDoor

/- The contract of the reference's number of two digits, and of its years. -/
set_option linter.unusedVariables false
set_option linter.unusedSimpArgs false
namespace Go.Proofs.YtlelpeocbgjmhaaGreatDoor
open Go.RowKit

end Go.Proofs.YtlelpeocbgjmhaaGreatDoor
