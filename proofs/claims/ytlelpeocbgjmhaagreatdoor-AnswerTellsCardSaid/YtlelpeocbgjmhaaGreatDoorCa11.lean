/- Joined: GvS, AnC. -/
import Derived.Test.YtlelpeocbgjmhaaGreatDoorCa09
import Derived.Test.YtlelpeocbgjmhaaGreatDoorCa04
import Derived.Test.YtlelpeocbgjmhaaGreatDoorCa10
/- giveup.CaughtAt and Caught at string, over any closure. -/
set_option linter.unusedVariables false
set_option linter.unusedSimpArgs false
namespace Go.Proofs.YtlelpeocbgjmhaaGreatDoor
open Go.RowKit

theorem gvs_assert (line why : Int) (W : World) : Sem.run Tryz.prog (Instr.typeAssert (Value.iface 111 (Value.agg #[Value.int IntKind.i64 line, Value.int IntKind.i64 why])) 20 111 true) W = .ok (.tuple #[.agg #[.int .i64 line, .int .i64 why], .bool true]) W := by
  kernel_rfl
set_option maxRecDepth 100000 in
theorem gvs_catch (b : Nat) (x y line why : Int) (older : List PanicEntry) (w : World) (hb : b < w.heap.size) (hc : w.cell? ⟨b, 0, none⟩ = some (.int .i64 x)) (hd : w.cell? ⟨b, 1, none⟩ = some (.int .i64 y)) (hz : ∀ j, w.frozen? ⟨b, j, none⟩ = false) :
    CallsD Tryz.prog 73 #[.pointer (some ⟨b, 0, none⟩)] (.panicking ({ v := gvV line why, recovered := false } :: older)) w fun e u' w' =>
      e = .returned (.tuple #[]) ∧ u' = .panicking ({ v := gvV line why, recovered := true } :: older) ∧ w' = ((w.setCell ⟨b, 0, none⟩ (.int .i64 line)).setCell ⟨b, 1, none⟩ (.int .i64 why)).alloc (.cells #[.int .i64 line, .int .i64 why] 111) := by
  unfold gvV
  have hta := fun W => gvs_assert line why W
  refine callsD_of_wpS Tryz.func73 rfl fun c₀ cs hu => ?_
  apply wpS_seq
  apply wpS_region
  simp [wpOpsS, go_sem, recoverD, hu, Tryz.ntmps73, Exit.thenS]
  refine wpS_of_wp ?_
  rw [show (#[Value.pointer (some ⟨b, 0, none⟩)] ++ (Array.replicate 11 undef).setIfInBounds 3 (Value.iface 111 (Value.agg #[Value.int IntKind.i64 line, Value.int IntKind.i64 why])) : Array Value) = #[.pointer (some ⟨b, 0, none⟩), undef, undef, undef, .iface 111 (.agg #[.int .i64 line, .int .i64 why]), undef, undef, undef, undef, undef, undef, undef] from rfl]
  have n1 : b ≠ w.heap.size := Nat.ne_of_lt hb
  have n2 : w.heap.size ≠ b := Nat.ne_of_gt hb
  go_wp2_with fail
  all_goals (cases c₀; simp_all [bodyPostS, results, Tryz.results73])
theorem gvs_idle (p : Addr) (w : World) :
    CallsD Tryz.prog 73 #[.pointer (some p)] .returning w fun e u' w' => e = .returned (.tuple #[]) ∧ u' = .returning ∧ w' = w := by
  refine callsD_of_wpS Tryz.func73 rfl fun c₀ cs hu => ?_
  apply wpS_seq
  apply wpS_region
  simp [wpOpsS, go_sem, recoverD, hu, Tryz.ntmps73, Exit.thenS]
  refine wpS_of_wp ?_
  rw [show (#[Value.pointer (some p)] ++ (Array.replicate 11 undef).setIfInBounds 3 Value.nilIface : Array Value) = #[.pointer (some p), undef, undef, undef, .nilIface, undef, undef, undef, undef, undef, undef, undef] from rfl]
  go_wp2_with fail
  all_goals (cases c₀; simp_all [bodyPostS, results, Tryz.results73])
set_option maxHeartbeats 1000000 in
set_option maxRecDepth 100000 in
theorem scaughtat_yes (g : FuncId) (qs : Array Value) (hg : ∀ W, Sem.run Tryz.prog (callFunc g qs) W = .ok (.enter g qs) W) (v : ByteArray) (w : World)
    (CG : Hid (∀ W, Below w.heap.size w W → Calls Tryz.prog g qs W fun e w' => e = .returned (.string v) ∧ Below W.heap.size W w')) :
    Calls Tryz.prog 47 #[.func (Fn.func g) #[] qs] w fun e w' => e = .returned (.tuple #[.string v, .agg #[.int .i64 0, .int .i64 0]]) ∧ Below w.heap.size w w' := by
  have hmf : ∀ (fn : Fn) (first cap : Array Value) (w : World), (Instr.makeFunc fn first cap).run Tryz.prog w = .ok (.func fn first cap) w := fun _ _ _ _ => rfl
  go_enter_defers Tryz.func47, Tryz.ntmps47
  go_wp2_with fail
  refine (CG.out _ ((Below.refl _ _).alloc (Nat.le_refl _) _)).mono ?_; rintro e w1 ⟨rfl, b1⟩
  have B1 := Lib.hid (below_step ((Below.refl _ _).alloc (Nat.le_refl _) _) b1)
  have Q1 : Bk2 w1 w.heap.size (.int .i64 0) (.int .i64 0) := Bk2.of b1 (by simp) (by intro j; simp [go_sem]) (by simp [go_sem]) (by simp [go_sem])
  clear b1
  have c_b := Q1.hb; have c_f := Q1.fz; have c_0 := Q1.k0; have c_1 := Q1.k1
  clear Q1
  go_wp2_with fail
  refine leaves_cons (f := 73) (args := #[.pointer (some ⟨w.heap.size, 0, none⟩)]) (by simp) (by simp [go_sem]) ?_
  refine (gvs_idle ⟨w.heap.size, 0, none⟩ _).mono ?_
  rintro e u' w'' ⟨rfl, rfl, rfl⟩
  simp [Leaves, settle, results, Tryz.results47, go_sem, c_b, c_0, c_1, c_f]
  clear c_b c_f c_0 c_1
  repeat (refine Below.setCell ?_ (by first | omega | (simp; done) | (simp; omega)) _)
  exact B1.out
set_option maxHeartbeats 1000000 in
set_option maxRecDepth 100000 in
theorem scaughtat_no (g : FuncId) (qs : Array Value) (hg : ∀ W, Sem.run Tryz.prog (callFunc g qs) W = .ok (.enter g qs) W) (line why : Int) (w : World)
    (CG : Hid (∀ W, Below w.heap.size w W → Calls Tryz.prog g qs W fun e w' => e = .panicked (gvL line why) ∧ Below W.heap.size W w')) :
    Calls Tryz.prog 47 #[.func (Fn.func g) #[] qs] w fun e w' => e = .returned (.tuple #[.string ⟨#[]⟩, .agg #[.int .i64 line, .int .i64 why]]) ∧ Below w.heap.size w w' := by
  have hmf : ∀ (fn : Fn) (first cap : Array Value) (w : World), (Instr.makeFunc fn first cap).run Tryz.prog w = .ok (.func fn first cap) w := fun _ _ _ _ => rfl
  go_enter_defers Tryz.func47, Tryz.ntmps47
  go_wp2_with fail
  refine (CG.out _ ((Below.refl _ _).alloc (Nat.le_refl _) _)).mono ?_; rintro e w1 ⟨rfl, b1⟩
  have B1 := Lib.hid (below_step ((Below.refl _ _).alloc (Nat.le_refl _) _) b1)
  have Q1 : Bk2 w1 w.heap.size (.int .i64 0) (.int .i64 0) := Bk2.of b1 (by simp) (by intro j; simp [go_sem]) (by simp [go_sem]) (by simp [go_sem])
  clear b1
  have c_b := Q1.hb; have c_f := Q1.fz; have c_0 := Q1.k0; have c_1 := Q1.k1
  clear Q1
  refine (show bodyPostD _ _ _ (Exit.panic (gvL line why)) _ _ from ?_)
  refine leaves_cons (f := 73) (args := #[.pointer (some ⟨w.heap.size, 0, none⟩)]) (by simp) (by simp [go_sem]) ?_
  refine (gvs_catch w.heap.size 0 0 line why [] _ c_b c_0 c_1 c_f).mono ?_
  rintro e u' w'' ⟨rfl, rfl, rfl⟩
  simp [Leaves, settle, results, Tryz.results47, go_sem, c_b, c_0, c_1, c_f]
  clear c_b c_f c_0 c_1
  refine Below.alloc (Below.setCell (Below.setCell B1.out (Nat.le_refl _) _) (Nat.le_refl _) _) (by simp; exact B1.out.size) _
set_option maxHeartbeats 1000000 in
set_option maxRecDepth 100000 in
theorem scaught_yes (g : FuncId) (qs : Array Value) (hg : ∀ W, Sem.run Tryz.prog (callFunc g qs) W = .ok (.enter g qs) W) (v : ByteArray) (w : World)
    (CG : Hid (∀ W, Below w.heap.size w W → Calls Tryz.prog g qs W fun e w' => e = .returned (.string v) ∧ Below W.heap.size W w')) :
    Calls Tryz.prog 22 #[.func (Fn.func g) #[] qs] w fun e w' => e = .returned (.tuple #[.string v, .int .i64 0]) ∧ Below w.heap.size w w' := by
  go_enter Tryz.func22, Tryz.ntmps22
  go_wp2_with fail
  refine (scaughtat_yes g qs hg v _ CG).mono ?_; rintro e w1 ⟨rfl, b1⟩
  have B1 := Lib.hid b1
  clear b1
  go_wp2_with fail
  go_quiet (fail)
  go_wp2_with fail
  go_ret2
  exact ⟨rfl, by repeat (first | exact B1.out | refine _root_.Go.below_drewN ?_ _ | refine Below.drew ?_ | refine Below.setCell ?_ (by first | omega | (simp; done) | (simp; exact B1.out.size) | (simp; omega)) _ | refine Below.alloc ?_ (by first | exact B1.out.size | omega | (simp; done) | (simp; omega)) _)⟩
set_option maxHeartbeats 1000000 in
set_option maxRecDepth 100000 in
theorem scaught_no (g : FuncId) (qs : Array Value) (hg : ∀ W, Sem.run Tryz.prog (callFunc g qs) W = .ok (.enter g qs) W) (line why : Int) (w : World)
    (CG : Hid (∀ W, Below w.heap.size w W → Calls Tryz.prog g qs W fun e w' => e = .panicked (gvL line why) ∧ Below W.heap.size W w')) :
    Calls Tryz.prog 22 #[.func (Fn.func g) #[] qs] w fun e w' => e = .returned (.tuple #[.string ⟨#[]⟩, .int .i64 why]) ∧ Below w.heap.size w w' := by
  go_enter Tryz.func22, Tryz.ntmps22
  go_wp2_with fail
  refine (scaughtat_no g qs hg line why _ CG).mono ?_; rintro e w1 ⟨rfl, b1⟩
  have B1 := Lib.hid b1
  clear b1
  go_wp2_with fail
  go_quiet (fail)
  go_wp2_with fail
  go_ret2
  exact ⟨rfl, by repeat (first | exact B1.out | refine _root_.Go.below_drewN ?_ _ | refine Below.drew ?_ | refine Below.setCell ?_ (by first | omega | (simp; done) | (simp; exact B1.out.size) | (simp; omega)) _ | refine Below.alloc ?_ (by first | exact B1.out.size | omega | (simp; done) | (simp; omega)) _)⟩
end Go.Proofs.YtlelpeocbgjmhaaGreatDoor

/- Answers: a local time's text, of the program. -/
set_option linter.unusedVariables false
set_option linter.unusedSimpArgs false
namespace Go.Proofs.YtlelpeocbgjmhaaGreatDoor
open Go.RowKit Go.Sort
theorem An.arr_id (l : List UInt8) (R : ByteArray) (h : (⟨l.toArray⟩ : ByteArray) = R) (m : List UInt8) : (⟨(m ++ l).toArray⟩ : ByteArray) = ⟨m.toArray⟩ ++ R := by rw [An.arr_app, h]
theorem An.both_yes (i j : An.I) (h1 : (An.inf i).2 = 0) (h2 : (An.inf j).2 = 0) : (An.both i j).2 = 0 ∧ (⟨(An.both i j).1.toArray⟩ : ByteArray) = ⟨(An.inf i).1.toArray⟩ ++ ⟨#[32, 47, 32]⟩ ++ ⟨(An.inf j).1.toArray⟩ := by
  unfold An.both
  rw [if_neg (by simp [h1]), if_neg (by simp [h2])]
  exact ⟨rfl, by rw [An.arr_app, An.arr_app]⟩
theorem An.both_no1 (i j : An.I) (h1 : (An.inf i).2 ≠ 0) : (An.both i j).2 = (An.inf i).2 := by unfold An.both; rw [if_pos h1]
theorem An.both_no2 (i j : An.I) (h1 : (An.inf i).2 = 0) (h2 : (An.inf j).2 ≠ 0) : (An.both i j).2 = (An.inf j).2 := by unfold An.both; rw [if_neg (by simp [h1]), if_pos h2]
/-- The text of both, or why there is none. -/
def AnsS (R : ByteArray) (y : Int) (w : World) (e : Ending) (w' : World) : Prop := Below w.heap.size w w' ∧ ((y = 0 ∧ e = .returned (.string R)) ∨ (y ≠ 0 ∧ e = .panicked (gvP y)))
theorem aboth_any (k a b c d : Int) (x : ByteArray) (a' b' c' d' : Int) (x' : ByteArray) (w : World) (ha : An.bd a) (hb : An.bd b) (hc : An.bd c) (hd : An.bd d) (hx : x.size ≤ 1000000) (ha' : An.bd a') (hb' : An.bd b') (hc' : An.bd c') (hd' : An.bd d') (hx' : x'.size ≤ 1000000) (T : Lib.TabIs Tryz.prog w "internal/strconv.uint64pow10" .u64 Lib.pow10Tab) :
    Calls Tryz.prog 25 #[.agg #[.int .i64 k, .int .i64 a, .int .i64 b, .int .i64 c, .int .i64 d, .string x, .int .i64 a', .int .i64 b', .int .i64 c', .int .i64 d', .string x']] w (AnsS ⟨(An.both (a, b, c, d, x) (a', b', c', d', x')).1.toArray⟩ (An.both (a, b, c, d, x) (a', b', c', d', x')).2 w) := by
  by_cases h1 : (An.inf (a, b, c, d, x)).2 = 0
  · by_cases h2 : (An.inf (a', b', c', d', x')).2 = 0
    · obtain ⟨e1, e2⟩ := An.both_yes (a, b, c, d, x) (a', b', c', d', x') h1 h2
      rw [e1, e2]
      exact (aboth_yes k a b c d x a' b' c' d' x' w ha hb hc hd hx ha' hb' hc' hd' hx' T h1 h2).mono fun e w' h => ⟨h.2, .inl ⟨rfl, h.1⟩⟩
    · rw [An.both_no2 (a, b, c, d, x) (a', b', c', d', x') h1 h2]
      exact (aboth_no2 k a b c d x a' b' c' d' x' w ha hb hc hd hx ha' hb' hc' hd' hx' T h1 h2).mono fun e w' h => ⟨h.2, .inr ⟨h2, h.1⟩⟩
  · rw [An.both_no1 (a, b, c, d, x) (a', b', c', d', x') h1]
    exact (aboth_no1 k a b c d x a' b' c' d' x' w ha hb hc hd hx ha' hb' hc' hd' hx' T h1).mono fun e w' h => ⟨h.2, .inr ⟨h1, h.1⟩⟩
theorem An.both_len (i j : An.I) : ((⟨(An.both i j).1.toArray⟩ : ByteArray)).size ≤ (An.inf i).1.length + 3 + (An.inf j).1.length := by
  show (An.both i j).1.toArray.size ≤ _
  rw [List.size_toArray]
  unfold An.both
  split
  · simp
  · split
    · simp
    · simp; omega
set_option maxHeartbeats 4000000 in
set_option maxRecDepth 100000 in
theorem alocal1_any (p : Nat) (k a b c d : Int) (x : ByteArray) (a' b' c' d' : Int) (x' : ByteArray) (w : World) (B : Bk11 w p (.int .i64 k) (.int .i64 a) (.int .i64 b) (.int .i64 c) (.int .i64 d) (.string x) (.int .i64 a') (.int .i64 b') (.int .i64 c') (.int .i64 d') (.string x')) (ha : An.bd a) (hb : An.bd b) (hc : An.bd c) (hd : An.bd d) (hx : x.size ≤ 1000000) (ha' : An.bd a') (hb' : An.bd b') (hc' : An.bd c') (hd' : An.bd d') (hx' : x'.size ≤ 1000000) (T : Lib.TabIs Tryz.prog w "internal/strconv.uint64pow10" .u64 Lib.pow10Tab) :
    Calls Tryz.prog 23 #[.pointer (some ⟨p, 0, none⟩)] w (AnsS ⟨(An.loc k (a, b, c, d, x) (a', b', c', d', x')).1.toArray⟩ (An.loc k (a, b, c, d, x) (a', b', c', d', x')).2 w) := by
  have IA := Lib.hid (ainfo_any a b c d x w ha hb hc hd hx T)
  have BO := Lib.hid (aboth_any k a b c d x a' b' c' d' x' w ha hb hc hd hx ha' hb' hc' hd' hx' T)
  have z1 := An.inf_len a b c d x ha hb hc hd
  have z2 := An.inf_len a' b' c' d' x' ha' hb' hc' hd'
  have z3 := An.both_len (a, b, c, d, x) (a', b', c', d', x')
  have l1 : (⟨(An.inf (a, b, c, d, x)).1.toArray⟩ : ByteArray).size = (An.inf (a, b, c, d, x)).1.length := List.size_toArray ..
  have l2 : (⟨(An.inf (a', b', c', d', x')).1.toArray⟩ : ByteArray).size = (An.inf (a', b', c', d', x')).1.length := List.size_toArray ..
  have zb : (⟨(An.both (a, b, c, d, x) (a', b', c', d', x')).1.toArray⟩ : ByteArray).size ≤ 3000000 := by omega
  have za : (⟨(An.inf (a, b, c, d, x)).1.toArray⟩ : ByteArray).size ≤ 2000000 := by omega
  clear z1 z2 z3 l1 l2 ha hb hc hd hx ha' hb' hc' hd' hx'
  by_cases k1 : k = 1
  · subst k1
    clear BO
    by_cases h1 : (An.inf (a, b, c, d, x)).2 = 0
    · have e1 : An.loc 1 (a, b, c, d, x) (a', b', c', d', x') = ([111, 110, 101, 32] ++ (An.inf (a, b, c, d, x)).1, 0) := by unfold An.loc; rw [if_pos rfl, if_neg (by simp [h1])]
      rw [e1]
      dsimp only
      rw [An.arr_app, show (⟨[111, 110, 101, 32].toArray⟩ : ByteArray) = ⟨#[111, 110, 101, 32]⟩ from rfl]
      rw [h1] at IA
      generalize (⟨(An.inf (a, b, c, d, x)).1.toArray⟩ : ByteArray) = R at *
      have hz : ¬ 9223372036854775807 < 4 + R.size := by omega
      clear e1
      go_enter Tryz.func23, Tryz.ntmps23
      have cX_b := B.hb
      have cX_f := B.fz
      have cX_0 := B.k0
      have cX_1 := B.k1
      have cX_2 := B.k2
      have cX_3 := B.k3
      have cX_4 := B.k4
      have cX_5 := B.k5
      have cX_6 := B.k6
      have cX_7 := B.k7
      have cX_8 := B.k8
      have cX_9 := B.k9
      have cX_10 := B.k10
      go_wp2_with fail
      clear cX_b cX_f cX_0 cX_1 cX_2 cX_3 cX_4 cX_5 cX_6 cX_7 cX_8 cX_9 cX_10
      refine (IA.out).mono ?_; rintro e w1 ⟨rfl, b1⟩
      have d1 : Below w.heap.size w w1 := below_step (by repeat (first | exact Below.refl _ _ | refine _root_.Go.below_drewN ?_ _ | refine Below.drew ?_ | refine Below.setCell ?_ (by first | (simp; done) | (simp; omega) | omega) _ | refine Below.alloc ?_ (by first | (simp; done) | (simp; omega) | omega) _)) b1
      have B1 := Lib.hid d1
      have X1 := B.keep d1
      clear B b1 d1
      have cX_b := X1.hb
      have cX_f := X1.fz
      have cX_0 := X1.k0
      have cX_1 := X1.k1
      have cX_2 := X1.k2
      have cX_3 := X1.k3
      have cX_4 := X1.k4
      have cX_5 := X1.k5
      have cX_6 := X1.k6
      have cX_7 := X1.k7
      have cX_8 := X1.k8
      have cX_9 := X1.k9
      have cX_10 := X1.k10
      go_wp2_with fail
      clear cX_b cX_f cX_0 cX_1 cX_2 cX_3 cX_4 cX_5 cX_6 cX_7 cX_8 cX_9 cX_10
      refine (musts_yes _ _).mono ?_; rintro e v1 ⟨rfl, rfl⟩
      have cX_b := X1.hb
      have cX_f := X1.fz
      have cX_0 := X1.k0
      have cX_1 := X1.k1
      have cX_2 := X1.k2
      have cX_3 := X1.k3
      have cX_4 := X1.k4
      have cX_5 := X1.k5
      have cX_6 := X1.k6
      have cX_7 := X1.k7
      have cX_8 := X1.k8
      have cX_9 := X1.k9
      have cX_10 := X1.k10
      go_wp2_with fail
      clear cX_b cX_f cX_0 cX_1 cX_2 cX_3 cX_4 cX_5 cX_6 cX_7 cX_8 cX_9 cX_10
      go_ret
      exact ⟨B1.out, .inl ⟨rfl, rfl⟩⟩
    · have e1 : An.loc 1 (a, b, c, d, x) (a', b', c', d', x') = ([], (An.inf (a, b, c, d, x)).2) := by unfold An.loc; rw [if_pos rfl, if_pos h1]
      rw [e1]
      dsimp only
      generalize (⟨(An.inf (a, b, c, d, x)).1.toArray⟩ : ByteArray) = R at *
      generalize (An.inf (a, b, c, d, x)).2 = y at *
      clear e1
      go_enter Tryz.func23, Tryz.ntmps23
      have cX_b := B.hb
      have cX_f := B.fz
      have cX_0 := B.k0
      have cX_1 := B.k1
      have cX_2 := B.k2
      have cX_3 := B.k3
      have cX_4 := B.k4
      have cX_5 := B.k5
      have cX_6 := B.k6
      have cX_7 := B.k7
      have cX_8 := B.k8
      have cX_9 := B.k9
      have cX_10 := B.k10
      go_wp2_with fail
      clear cX_b cX_f cX_0 cX_1 cX_2 cX_3 cX_4 cX_5 cX_6 cX_7 cX_8 cX_9 cX_10
      refine (IA.out).mono ?_; rintro e w1 ⟨rfl, b1⟩
      have d1 : Below w.heap.size w w1 := below_step (by repeat (first | exact Below.refl _ _ | refine _root_.Go.below_drewN ?_ _ | refine Below.drew ?_ | refine Below.setCell ?_ (by first | (simp; done) | (simp; omega) | omega) _ | refine Below.alloc ?_ (by first | (simp; done) | (simp; omega) | omega) _)) b1
      have B1 := Lib.hid d1
      have X1 := B.keep d1
      clear B b1 d1
      have cX_b := X1.hb
      have cX_f := X1.fz
      have cX_0 := X1.k0
      have cX_1 := X1.k1
      have cX_2 := X1.k2
      have cX_3 := X1.k3
      have cX_4 := X1.k4
      have cX_5 := X1.k5
      have cX_6 := X1.k6
      have cX_7 := X1.k7
      have cX_8 := X1.k8
      have cX_9 := X1.k9
      have cX_10 := X1.k10
      go_wp2_with fail
      clear cX_b cX_f cX_0 cX_1 cX_2 cX_3 cX_4 cX_5 cX_6 cX_7 cX_8 cX_9 cX_10
      refine (musts_no _ _ _ h1).mono ?_; rintro e u1 ⟨rfl, rfl⟩
      refine (show bodyPost _ _ _ (Exit.panic (gvP _)) _ _ from ?_)
      simp only [bodyPost]
      exact ⟨trivial, B1.out, .inr ⟨h1, by first | rfl | trivial⟩⟩
  by_cases k2 : k = 2
  · subst k2
    clear IA
    by_cases h1 : (An.both (a, b, c, d, x) (a', b', c', d', x')).2 = 0
    · have e1 : An.loc 2 (a, b, c, d, x) (a', b', c', d', x') = ([110, 111, 110, 101, 32] ++ (An.both (a, b, c, d, x) (a', b', c', d', x')).1, 0) := by unfold An.loc; rw [if_neg (by decide)]; rw [if_pos rfl, if_neg (by simp [h1])]
      rw [e1]
      dsimp only
      rw [An.arr_app, show (⟨[110, 111, 110, 101, 32].toArray⟩ : ByteArray) = ⟨#[110, 111, 110, 101, 32]⟩ from rfl]
      rw [h1] at BO
      generalize (⟨(An.both (a, b, c, d, x) (a', b', c', d', x')).1.toArray⟩ : ByteArray) = R at *
      have hz : ¬ 9223372036854775807 < 5 + R.size := by omega
      clear e1
      go_enter Tryz.func23, Tryz.ntmps23
      have cX_b := B.hb
      have cX_f := B.fz
      have cX_0 := B.k0
      have cX_1 := B.k1
      have cX_2 := B.k2
      have cX_3 := B.k3
      have cX_4 := B.k4
      have cX_5 := B.k5
      have cX_6 := B.k6
      have cX_7 := B.k7
      have cX_8 := B.k8
      have cX_9 := B.k9
      have cX_10 := B.k10
      go_wp2_with fail
      clear cX_b cX_f cX_0 cX_1 cX_2 cX_3 cX_4 cX_5 cX_6 cX_7 cX_8 cX_9 cX_10
      refine BO.out.mono ?_; rintro e w1 ⟨b1, ⟨-, rfl⟩ | ⟨h0, -⟩⟩
      case inr => exact absurd rfl h0
      have B1 := Lib.hid b1
      clear b1
      go_wp2_with fail
      go_ret
      exact ⟨B1.out, .inl ⟨rfl, rfl⟩⟩
    · have e1 : An.loc 2 (a, b, c, d, x) (a', b', c', d', x') = ([], (An.both (a, b, c, d, x) (a', b', c', d', x')).2) := by unfold An.loc; rw [if_neg (by decide)]; rw [if_pos rfl, if_pos h1]
      rw [e1]
      dsimp only
      generalize (⟨(An.both (a, b, c, d, x) (a', b', c', d', x')).1.toArray⟩ : ByteArray) = R at *
      generalize (An.both (a, b, c, d, x) (a', b', c', d', x')).2 = y at *
      clear e1
      go_enter Tryz.func23, Tryz.ntmps23
      have cX_b := B.hb
      have cX_f := B.fz
      have cX_0 := B.k0
      have cX_1 := B.k1
      have cX_2 := B.k2
      have cX_3 := B.k3
      have cX_4 := B.k4
      have cX_5 := B.k5
      have cX_6 := B.k6
      have cX_7 := B.k7
      have cX_8 := B.k8
      have cX_9 := B.k9
      have cX_10 := B.k10
      go_wp2_with fail
      clear cX_b cX_f cX_0 cX_1 cX_2 cX_3 cX_4 cX_5 cX_6 cX_7 cX_8 cX_9 cX_10
      refine BO.out.mono ?_; rintro e w1 ⟨b1, ⟨h0, -⟩ | ⟨-, rfl⟩⟩
      case inl => exact absurd h0 h1
      have B1 := Lib.hid b1
      refine (show bodyPost _ _ _ (Exit.panic (gvP _)) _ _ from ?_)
      simp only [bodyPost]
      exact ⟨trivial, B1.out, .inr ⟨h1, by first | rfl | trivial⟩⟩
  by_cases k3 : k = 3
  · subst k3
    clear IA
    by_cases h1 : (An.both (a, b, c, d, x) (a', b', c', d', x')).2 = 0
    · have e1 : An.loc 3 (a, b, c, d, x) (a', b', c', d', x') = ([116, 119, 111, 32] ++ (An.both (a, b, c, d, x) (a', b', c', d', x')).1, 0) := by unfold An.loc; rw [if_neg (by decide)]; rw [if_neg (by decide)]; rw [if_pos rfl, if_neg (by simp [h1])]
      rw [e1]
      dsimp only
      rw [An.arr_app, show (⟨[116, 119, 111, 32].toArray⟩ : ByteArray) = ⟨#[116, 119, 111, 32]⟩ from rfl]
      rw [h1] at BO
      generalize (⟨(An.both (a, b, c, d, x) (a', b', c', d', x')).1.toArray⟩ : ByteArray) = R at *
      have hz : ¬ 9223372036854775807 < 4 + R.size := by omega
      clear e1
      go_enter Tryz.func23, Tryz.ntmps23
      have cX_b := B.hb
      have cX_f := B.fz
      have cX_0 := B.k0
      have cX_1 := B.k1
      have cX_2 := B.k2
      have cX_3 := B.k3
      have cX_4 := B.k4
      have cX_5 := B.k5
      have cX_6 := B.k6
      have cX_7 := B.k7
      have cX_8 := B.k8
      have cX_9 := B.k9
      have cX_10 := B.k10
      go_wp2_with fail
      clear cX_b cX_f cX_0 cX_1 cX_2 cX_3 cX_4 cX_5 cX_6 cX_7 cX_8 cX_9 cX_10
      refine (need_yes 4 _).mono ?_; rintro e v1 ⟨rfl, rfl⟩
      have cX_b := B.hb
      have cX_f := B.fz
      have cX_0 := B.k0
      have cX_1 := B.k1
      have cX_2 := B.k2
      have cX_3 := B.k3
      have cX_4 := B.k4
      have cX_5 := B.k5
      have cX_6 := B.k6
      have cX_7 := B.k7
      have cX_8 := B.k8
      have cX_9 := B.k9
      have cX_10 := B.k10
      go_wp2_with fail
      clear cX_b cX_f cX_0 cX_1 cX_2 cX_3 cX_4 cX_5 cX_6 cX_7 cX_8 cX_9 cX_10
      refine BO.out.mono ?_; rintro e w1 ⟨b1, ⟨-, rfl⟩ | ⟨h0, -⟩⟩
      case inr => exact absurd rfl h0
      have B1 := Lib.hid b1
      clear b1
      go_wp2_with fail
      go_ret
      exact ⟨B1.out, .inl ⟨rfl, rfl⟩⟩
    · have e1 : An.loc 3 (a, b, c, d, x) (a', b', c', d', x') = ([], (An.both (a, b, c, d, x) (a', b', c', d', x')).2) := by unfold An.loc; rw [if_neg (by decide)]; rw [if_neg (by decide)]; rw [if_pos rfl, if_pos h1]
      rw [e1]
      dsimp only
      generalize (⟨(An.both (a, b, c, d, x) (a', b', c', d', x')).1.toArray⟩ : ByteArray) = R at *
      generalize (An.both (a, b, c, d, x) (a', b', c', d', x')).2 = y at *
      clear e1
      go_enter Tryz.func23, Tryz.ntmps23
      have cX_b := B.hb
      have cX_f := B.fz
      have cX_0 := B.k0
      have cX_1 := B.k1
      have cX_2 := B.k2
      have cX_3 := B.k3
      have cX_4 := B.k4
      have cX_5 := B.k5
      have cX_6 := B.k6
      have cX_7 := B.k7
      have cX_8 := B.k8
      have cX_9 := B.k9
      have cX_10 := B.k10
      go_wp2_with fail
      clear cX_b cX_f cX_0 cX_1 cX_2 cX_3 cX_4 cX_5 cX_6 cX_7 cX_8 cX_9 cX_10
      refine (need_yes 4 _).mono ?_; rintro e v1 ⟨rfl, rfl⟩
      have cX_b := B.hb
      have cX_f := B.fz
      have cX_0 := B.k0
      have cX_1 := B.k1
      have cX_2 := B.k2
      have cX_3 := B.k3
      have cX_4 := B.k4
      have cX_5 := B.k5
      have cX_6 := B.k6
      have cX_7 := B.k7
      have cX_8 := B.k8
      have cX_9 := B.k9
      have cX_10 := B.k10
      go_wp2_with fail
      clear cX_b cX_f cX_0 cX_1 cX_2 cX_3 cX_4 cX_5 cX_6 cX_7 cX_8 cX_9 cX_10
      refine BO.out.mono ?_; rintro e w1 ⟨b1, ⟨h0, -⟩ | ⟨-, rfl⟩⟩
      case inl => exact absurd h0 h1
      have B1 := Lib.hid b1
      refine (show bodyPost _ _ _ (Exit.panic (gvP _)) _ _ from ?_)
      simp only [bodyPost]
      exact ⟨trivial, B1.out, .inr ⟨h1, by first | rfl | trivial⟩⟩
  clear IA BO za zb
  rw [show An.loc k (a, b, c, d, x) (a', b', c', d', x') = ([], 4) by unfold An.loc; rw [if_neg k1, if_neg k2, if_neg k3]]
  dsimp only
  have g1 : (k == 1) = false := by rw [beq_eq_false_iff_ne]; exact k1
  have g2 : (k == 2) = false := by rw [beq_eq_false_iff_ne]; exact k2
  have g3 : (k == 3) = false := by rw [beq_eq_false_iff_ne]; exact k3
  have hB := Lib.hid (Below.refl w.heap.size w)
  go_enter Tryz.func23, Tryz.ntmps23
  have cX_b := B.hb
  have cX_f := B.fz
  have cX_0 := B.k0
  have cX_1 := B.k1
  have cX_2 := B.k2
  have cX_3 := B.k3
  have cX_4 := B.k4
  have cX_5 := B.k5
  have cX_6 := B.k6
  have cX_7 := B.k7
  have cX_8 := B.k8
  have cX_9 := B.k9
  have cX_10 := B.k10
  go_wp2_with fail
  clear cX_b cX_f cX_0 cX_1 cX_2 cX_3 cX_4 cX_5 cX_6 cX_7 cX_8 cX_9 cX_10
  refine (need_no 4 _).mono ?_; rintro e u1 ⟨rfl, rfl⟩
  refine (show bodyPost _ _ _ (Exit.panic (gvP _)) _ _ from ?_)
  simp only [bodyPost]
  exact ⟨trivial, hB.out, .inr ⟨by decide, by first | rfl | trivial⟩⟩
end Go.Proofs.YtlelpeocbgjmhaaGreatDoor
