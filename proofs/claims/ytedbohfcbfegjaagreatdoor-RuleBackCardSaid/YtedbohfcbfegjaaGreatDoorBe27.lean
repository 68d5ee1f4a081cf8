/- Joined: GvT, RuH, RuJ. -/
import Derived.Test.YtedbohfcbfegjaaGreatDoorBe13
import Derived.Test.YtedbohfcbfegjaaGreatDoorBe02
import Derived.Test.YtedbohfcbfegjaaGreatDoorBe21
import Derived.Test.YtedbohfcbfegjaaGreatDoorBe26
import Derived.Test.YtedbohfcbfegjaaGreatDoorBe25
/- giveup.CaughtAt and Caught at []string, over any closure. -/
set_option linter.unusedVariables false
set_option linter.unusedSimpArgs false
namespace Go.Proofs.YtedbohfcbfegjaaGreatDoor
open Go.RowKit

/-- A slice of strings in a block behind B. -/
def StO (B : Nat) (w : World) (v : Value) (l : List ByteArray) : Prop :=
  ∃ A c, v = .slice A l.length c ∧ (0 < l.length → ∃ a, A = some a ∧ B ≤ a.block ∧ a.block < w.heap.size ∧ ∀ (j : Nat) (u : Value), (l.map Value.string)[j]? = some u → w.cell? (a.add j) = some u)
theorem StO.st {B : Nat} {w : World} {v : Value} {l : List ByteArray} (h : StO B w v l) : StS w v l := by
  obtain ⟨A, c, hv, ha⟩ := h
  exact ⟨A, c, hv, fun hn => by obtain ⟨a, e, _, hb, hc⟩ := ha hn; exact ⟨a, e, hb, hc⟩⟩
theorem StO.own {B base : Nat} {w : World} {v : Value} {l : List ByteArray} (h : w.ownsRow base 9 1 v l.length (l.map Value.string)) (hB : B ≤ base) : StO B w v l := by
  rcases Nat.eq_zero_or_pos l.length with h0 | h0
  · obtain ⟨A, c, hv, _⟩ := Lst.own h
    exact ⟨A, c, hv, fun hn => by omega⟩
  · obtain ⟨g, cap, hv, hb, hlt⟩ := h.form h0
    exact ⟨_, _, hv, fun _ => ⟨_, rfl, Nat.le_trans hB hb, hlt, h.cells (g := g) (by rw [hv]; rfl)⟩⟩
theorem StO.turn {B : Nat} {w w' : World} {v : Value} {l : List ByteArray} (h : StO B w v l) (hs : w.heap.size ≤ w'.heap.size) (k : ∀ i, B ≤ i → i < w.heap.size → w'.heap[i]? = w.heap[i]?) : StO B w' v l := by
  obtain ⟨A, c, hv, ha⟩ := h
  refine ⟨A, c, hv, fun hn => ?_⟩
  obtain ⟨a, e, h1, hb, hc⟩ := ha hn
  refine ⟨a, e, h1, by omega, fun j u hu => ?_⟩
  rw [← hc j u hu]
  exact World.cell?_of_block (by rw [blk_add]; exact k _ h1 hb)
theorem set_block (w : World) (p : Addr) (v : Value) (i : Nat) (h : p.block ≠ i) : (w.setCell p v).heap[i]? = w.heap[i]? := by
  simp [World.setCell, Array.getElem?_modify, h]
theorem set_size (w : World) (p : Addr) (v : Value) : (w.setCell p v).heap.size = w.heap.size := by simp [World.setCell]
theorem gvt_assert (line why : Int) (W : World) : Sem.run Tryz.prog (Instr.typeAssert (Value.iface 128 (Value.agg #[Value.int IntKind.i64 line, Value.int IntKind.i64 why])) 20 128 true) W = .ok (.tuple #[.agg #[.int .i64 line, .int .i64 why], .bool true]) W := by
  kernel_rfl
set_option maxRecDepth 100000 in
theorem gvt_catch (b : Nat) (x y line why : Int) (older : List PanicEntry) (w : World) (hb : b < w.heap.size) (hc : w.cell? ⟨b, 0, none⟩ = some (.int .i64 x)) (hd : w.cell? ⟨b, 1, none⟩ = some (.int .i64 y)) (hz : ∀ j, w.frozen? ⟨b, j, none⟩ = false) :
    CallsD Tryz.prog 148 #[.pointer (some ⟨b, 0, none⟩)] (.panicking ({ v := gvV line why, recovered := false } :: older)) w fun e u' w' =>
      e = .returned (.tuple #[]) ∧ u' = .panicking ({ v := gvV line why, recovered := true } :: older) ∧ w' = ((w.setCell ⟨b, 0, none⟩ (.int .i64 line)).setCell ⟨b, 1, none⟩ (.int .i64 why)).alloc (.cells #[.int .i64 line, .int .i64 why] 128) := by
  unfold gvV
  have hta := fun W => gvt_assert line why W
  refine callsD_of_wpS Tryz.func148 rfl fun c₀ cs hu => ?_
  apply wpS_seq
  apply wpS_region
  simp [wpOpsS, go_sem, recoverD, hu, Tryz.ntmps148, Exit.thenS]
  refine wpS_of_wp ?_
  rw [show (#[Value.pointer (some ⟨b, 0, none⟩)] ++ (Array.replicate 11 undef).setIfInBounds 3 (Value.iface 128 (Value.agg #[Value.int IntKind.i64 line, Value.int IntKind.i64 why])) : Array Value) = #[.pointer (some ⟨b, 0, none⟩), undef, undef, undef, .iface 128 (.agg #[.int .i64 line, .int .i64 why]), undef, undef, undef, undef, undef, undef, undef] from rfl]
  have n1 : b ≠ w.heap.size := Nat.ne_of_lt hb
  have n2 : w.heap.size ≠ b := Nat.ne_of_gt hb
  go_wp2_with fail
  all_goals (cases c₀; simp_all [bodyPostS, results, Tryz.results148])
theorem gvt_idle (p : Addr) (w : World) :
    CallsD Tryz.prog 148 #[.pointer (some p)] .returning w fun e u' w' => e = .returned (.tuple #[]) ∧ u' = .returning ∧ w' = w := by
  refine callsD_of_wpS Tryz.func148 rfl fun c₀ cs hu => ?_
  apply wpS_seq
  apply wpS_region
  simp [wpOpsS, go_sem, recoverD, hu, Tryz.ntmps148, Exit.thenS]
  refine wpS_of_wp ?_
  rw [show (#[Value.pointer (some p)] ++ (Array.replicate 11 undef).setIfInBounds 3 Value.nilIface : Array Value) = #[.pointer (some p), undef, undef, undef, .nilIface, undef, undef, undef, undef, undef, undef, undef] from rfl]
  go_wp2_with fail
  all_goals (cases c₀; simp_all [bodyPostS, results, Tryz.results148])
set_option maxHeartbeats 1000000 in
set_option maxRecDepth 100000 in
theorem tcaughtat_yes (g : FuncId) (qs : Array Value) (hg : ∀ W, Sem.run Tryz.prog (callFunc g qs) W = .ok (.enter g qs) W) (P : List (List UInt8)) (w : World)
    (CG : Hid (∀ W, Below w.heap.size w W → Calls Tryz.prog g qs W fun e w' => ∃ (v : Value) (l : List ByteArray), StO W.heap.size w' v l ∧ l.map (·.data.toList) = P ∧ e = .returned v ∧ Below W.heap.size W w')) :
    Calls Tryz.prog 97 #[.func (Fn.func g) #[] qs] w fun e w' => ∃ (v : Value) (l : List ByteArray), StS w' v l ∧ l.map (·.data.toList) = P ∧ e = .returned (.tuple #[v, .agg #[.int .i64 0, .int .i64 0]]) ∧ Below w.heap.size w w' := by
  have hmf : ∀ (fn : Fn) (first cap : Array Value) (w : World), (Instr.makeFunc fn first cap).run Tryz.prog w = .ok (.func fn first cap) w := fun _ _ _ _ => rfl
  go_enter_defers Tryz.func97, Tryz.ntmps97
  go_wp2_with fail
  refine (CG.out _ ((Below.refl _ _).alloc (Nat.le_refl _) _)).mono ?_; rintro e w1 ⟨v, l, hst, hlp, rfl, b1⟩
  have HST := Lib.hid hst; have HLP := Lib.hid hlp
  clear hlp
  obtain ⟨A, c, rfl, -⟩ := hst
  have B1 := Lib.hid (below_step ((Below.refl _ _).alloc (Nat.le_refl _) _) b1)
  have Q1 : Bk2 w1 w.heap.size (.int .i64 0) (.int .i64 0) := Bk2.of b1 (by simp) (by intro j; simp [go_sem]) (by simp [go_sem]) (by simp [go_sem])
  clear b1
  have c_b := Q1.hb; have c_f := Q1.fz; have c_0 := Q1.k0; have c_1 := Q1.k1
  clear Q1
  go_wp2_with fail
  refine leaves_cons (f := 148) (args := #[.pointer (some ⟨w.heap.size, 0, none⟩)]) (by simp) (by simp [go_sem]) ?_
  refine (gvt_idle ⟨w.heap.size, 0, none⟩ _).mono ?_
  rintro e u' w'' ⟨rfl, rfl, rfl⟩
  simp [Leaves, settle, results, Tryz.results97, go_sem, c_b, c_0, c_1, c_f]
  clear c_b c_f c_0 c_1
  refine ⟨_, l, StO.st (StO.turn (StO.turn HST.out (Nat.le_of_eq (set_size ..).symm) (fun i h1 h2 => set_block _ _ _ _ ?_)) (Nat.le_of_eq (set_size ..).symm) (fun i h1 h2 => set_block _ _ _ _ ?_)), HLP.out, rfl, ?_⟩
  · simp at h1; show w.heap.size ≠ i; omega
  · simp at h1; show w.heap.size ≠ i; omega
  · repeat (refine Below.setCell ?_ (by first | omega | (simp; done) | (simp; omega)) _)
    exact B1.out
set_option maxHeartbeats 1000000 in
set_option maxRecDepth 100000 in
theorem tcaughtat_no (g : FuncId) (qs : Array Value) (hg : ∀ W, Sem.run Tryz.prog (callFunc g qs) W = .ok (.enter g qs) W) (line why : Int) (w : World)
    (CG : Hid (∀ W, Below w.heap.size w W → Calls Tryz.prog g qs W fun e w' => e = .panicked (gvL line why) ∧ Below W.heap.size W w')) :
    Calls Tryz.prog 97 #[.func (Fn.func g) #[] qs] w fun e w' => e = .returned (.tuple #[.slice none 0 0, .agg #[.int .i64 line, .int .i64 why]]) ∧ Below w.heap.size w w' := by
  have hmf : ∀ (fn : Fn) (first cap : Array Value) (w : World), (Instr.makeFunc fn first cap).run Tryz.prog w = .ok (.func fn first cap) w := fun _ _ _ _ => rfl
  go_enter_defers Tryz.func97, Tryz.ntmps97
  go_wp2_with fail
  refine (CG.out _ ((Below.refl _ _).alloc (Nat.le_refl _) _)).mono ?_; rintro e w1 ⟨rfl, b1⟩
  have B1 := Lib.hid (below_step ((Below.refl _ _).alloc (Nat.le_refl _) _) b1)
  have Q1 : Bk2 w1 w.heap.size (.int .i64 0) (.int .i64 0) := Bk2.of b1 (by simp) (by intro j; simp [go_sem]) (by simp [go_sem]) (by simp [go_sem])
  clear b1
  have c_b := Q1.hb; have c_f := Q1.fz; have c_0 := Q1.k0; have c_1 := Q1.k1
  clear Q1
  refine (show bodyPostD _ _ _ (Exit.panic (gvL line why)) _ _ from ?_)
  refine leaves_cons (f := 148) (args := #[.pointer (some ⟨w.heap.size, 0, none⟩)]) (by simp) (by simp [go_sem]) ?_
  refine (gvt_catch w.heap.size 0 0 line why [] _ c_b c_0 c_1 c_f).mono ?_
  rintro e u' w'' ⟨rfl, rfl, rfl⟩
  simp [Leaves, settle, results, Tryz.results97, go_sem, c_b, c_0, c_1, c_f]
  clear c_b c_f c_0 c_1
  refine Below.alloc (Below.setCell (Below.setCell B1.out (Nat.le_refl _) _) (Nat.le_refl _) _) (by simp; exact B1.out.size) _
set_option maxHeartbeats 1000000 in
set_option maxRecDepth 100000 in
theorem tcaught_yes (g : FuncId) (qs : Array Value) (hg : ∀ W, Sem.run Tryz.prog (callFunc g qs) W = .ok (.enter g qs) W) (P : List (List UInt8)) (w : World)
    (CG : Hid (∀ W, Below w.heap.size w W → Calls Tryz.prog g qs W fun e w' => ∃ (v : Value) (l : List ByteArray), StO W.heap.size w' v l ∧ l.map (·.data.toList) = P ∧ e = .returned v ∧ Below W.heap.size W w')) :
    Calls Tryz.prog 36 #[.func (Fn.func g) #[] qs] w (AnsF (P, 0) w) := by
  go_enter Tryz.func36, Tryz.ntmps36
  go_wp2_with fail
  refine (tcaughtat_yes g qs hg P _ CG).mono ?_; rintro e w1 ⟨v, l, hst, hlp, rfl, b1⟩
  have HST := Lib.hid hst; have HLP := Lib.hid hlp
  clear hst hlp
  have B1 := Lib.hid b1
  clear b1
  go_wp2_with fail
  go_quiet (fail)
  go_wp2_with fail
  go_ret2
  refine ⟨v, l, HST.out.on ?_, HLP.out, rfl, below_step B1.out ?_⟩
  all_goals (repeat (first | refine below_drewN ?_ _ | refine Below.drew ?_ | refine Below.setCell ?_ (by first | omega | (simp; done) | (simp; omega)) _ | refine Below.alloc ?_ (by first | omega | (simp; done) | (simp; omega)) _ | exact Below.refl _ _))
set_option maxHeartbeats 1000000 in
set_option maxRecDepth 100000 in
theorem tcaught_no (g : FuncId) (qs : Array Value) (hg : ∀ W, Sem.run Tryz.prog (callFunc g qs) W = .ok (.enter g qs) W) (line why : Int) (w : World)
    (CG : Hid (∀ W, Below w.heap.size w W → Calls Tryz.prog g qs W fun e w' => e = .panicked (gvL line why) ∧ Below W.heap.size W w')) :
    Calls Tryz.prog 36 #[.func (Fn.func g) #[] qs] w fun e w' => e = .returned (.tuple #[.slice none 0 0, .int .i64 why]) ∧ Below w.heap.size w w' := by
  go_enter Tryz.func36, Tryz.ntmps36
  go_wp2_with fail
  refine (tcaughtat_no g qs hg line why _ CG).mono ?_; rintro e w1 ⟨rfl, b1⟩
  have B1 := Lib.hid b1
  clear b1
  go_wp2_with fail
  go_quiet (fail)
  go_wp2_with fail
  go_ret2
  exact ⟨rfl, by repeat (first | exact B1.out | refine below_drewN ?_ _ | refine Below.drew ?_ | refine Below.setCell ?_ (by first | omega | (simp; done) | (simp; exact B1.out.size) | (simp; omega)) _ | refine Below.alloc ?_ (by first | exact B1.out.size | omega | (simp; done) | (simp; omega)) _)⟩
end Go.Proofs.YtedbohfcbfegjaaGreatDoor

/- Rules: the fields of one, in plain lists. -/
set_option linter.unusedVariables false
set_option linter.unusedSimpArgs false
namespace Go.Proofs.YtedbohfcbfegjaaGreatDoor
open Go.RowKit Go.Sort

namespace Ru
/-- Whether a rule may be. -/
def R.ok (r : R) : Bool := rB r.s r.t r.fy r.ty r.m r.k r.wk r.d r.sec r.base r.save
/-- The texts of a rule. -/
def R.ts (r : R) : List ByteArray :=
  [r.s, (Yr.ft r.fy).1, (Yr.tt r.fy r.ty).1, ⟨#[45]⟩, Wd.t3 Wd.months (r.m - 1), (Ds.tx r.k r.wk r.d).1, (Cl.tx r.sec r.base).1, (Am.tx r.save).1, ⟨(Fo.ltx r.t.data.toList).1.toArray⟩]
/-- The fields of a rule, or why it has none. -/
def fl (r : R) : List (List UInt8) × Int := if r.ok = true then (r.ts.map (·.data.toList), 0) else ([], 4)
theorem fl_yes {r : R} (h : r.ok = true) : fl r = (r.ts.map (·.data.toList), 0) := if_pos h
theorem fl_no {r : R} (h : r.ok = false) : fl r = ([], 4) := if_neg (by rw [h]; decide)
theorem ok_of {r : R} (h : r.ok = true) : Lk.nm r.s.data.toList = 0 ∧ -32767 ≤ r.fy ∧ r.fy ≤ r.ty ∧ r.ty ≤ 32767 ∧ Dr.onF r.k r.wk r.d r.m = true ∧ Cl.rB r.sec r.base = true ∧ -10800 ≤ r.save ∧ r.save ≤ 10800 ∧ (Fo.ltx r.t.data.toList).2 = 0 := by
  unfold R.ok rB at h
  simp only [Bool.and_eq_true, decide_eq_true_eq, beq_iff_eq] at h
  obtain ⟨h0, h1, h2, h3, h4, h5, h6, h7, h8⟩ := h
  exact ⟨h0, h1, h2, h3, h4, h5, h6, h7, h8⟩
theorem ok_ft {r : R} (h : r.ok = true) : (Yr.ft r.fy).2 = 0 := by
  obtain ⟨_, h1, h2, h3, _⟩ := ok_of h
  unfold Yr.ft
  rw [if_pos (by unfold Yr.inY; simp; omega)]
  split <;> rfl
theorem ok_tt {r : R} (h : r.ok = true) : (Yr.tt r.fy r.ty).2 = 0 := by
  obtain ⟨_, h1, h2, h3, _⟩ := ok_of h
  unfold Yr.tt
  rw [if_pos (by unfold Yr.inY; simp; omega), if_neg (by omega)]
  split
  · rfl
  · split <;> rfl
theorem ok_ds {r : R} (h : r.ok = true) : (Ds.tx r.k r.wk r.d).2 = 0 := by
  obtain ⟨_, _, _, _, h4, _⟩ := ok_of h
  unfold Ds.tx
  rw [if_pos (Dr.onF_true.1 h4).1]
theorem ok_cl {r : R} (h : r.ok = true) : (Cl.tx r.sec r.base).2 = 0 := by
  obtain ⟨_, _, _, _, _, h5, _⟩ := ok_of h
  unfold Cl.tx
  rw [if_neg (by rw [h5]; decide)]
  split <;> rfl
theorem ok_am {r : R} (h : r.ok = true) : (Am.tx r.save).2 = 0 := by
  obtain ⟨_, _, _, _, _, _, h6, h7, _⟩ := ok_of h
  unfold Am.tx
  rw [if_neg (by omega)]
  split
  · rfl
  · split <;> rfl
end Ru
theorem StS.nine (W : World) (l : List ByteArray) (t : TypeId) (c : Nat) : StS (W.alloc (.cells (l.map Value.string).toArray t)) (.slice (some ⟨W.heap.size, 0, none⟩) l.length c) l :=
  ⟨_, _, rfl, fun _ => ⟨_, rfl, by simp, by
    intro j u hj
    rw [show (⟨W.heap.size, 0, none⟩ : Addr).add j = ⟨W.heap.size, j, none⟩ by simp [Addr.add]; exact fun h => h.symm]
    rw [Lib.cell_of_heap (heap_alloc_new W _)]
    simpa using hj⟩⟩
theorem StO.nine (B : Nat) (W : World) (l : List ByteArray) (t : TypeId) (c : Nat) (hB : B ≤ W.heap.size) : StO B (W.alloc (.cells (l.map Value.string).toArray t)) (.slice (some ⟨W.heap.size, 0, none⟩) l.length c) l :=
  ⟨_, _, rfl, fun _ => ⟨_, rfl, hB, by simp, by
    intro j u hj
    rw [show (⟨W.heap.size, 0, none⟩ : Addr).add j = ⟨W.heap.size, j, none⟩ by simp [Addr.add]; exact fun h => h.symm]
    rw [Lib.cell_of_heap (heap_alloc_new W _)]
    simpa using hj⟩⟩
end Go.Proofs.YtedbohfcbfegjaaGreatDoor

/- Rules: Fields, of the program. -/
set_option linter.unusedVariables false
set_option linter.unusedSimpArgs false
namespace Go.Proofs.YtedbohfcbfegjaaGreatDoor
open Go.RowKit Go.Sort

set_option maxHeartbeats 4000000 in
set_option maxRecDepth 100000 in
theorem rufields1_no (p : Nat) (s t : ByteArray) (fy ty m k wk d sec base save : Int) (w : World) (B : Bk11 w p (.string s) (.int .i64 fy) (.int .i64 ty) (.int .i64 m) (.int .i64 k) (.int .i64 wk) (.int .i64 d) (.int .i64 sec) (.int .i64 base) (.int .i64 save) (.string t)) (hs : s.size ≤ maxLen) (ht : t.size ≤ 100000) (hok : Ru.rB s t fy ty m k wk d sec base save = false) :
    Calls Tryz.prog 37 #[.pointer (some ⟨p, 0, none⟩)] w fun e w' => e = .panicked (gvP 4) ∧ Below w.heap.size w w' := by
  have RB := Lib.hid (fun W => ruright_any s t fy ty m k wk d sec base save W hs ht)
  clear hs ht
  rw [hok] at RB
  clear hok
  go_enter Tryz.func37, Tryz.ntmps37
  have cX_b := B.hb
  have cX_f := B.fz
  have cX_0 := B.k0
  have cX_1 := B.k1
  have cX_2 := B.k2
  have cX_3 := B.k3
  have cX_4 := B.k4
  have cX_5 := B.k5
  have cX_6 := B.k6
  have cX_7 := B.k7
  have cX_8 := B.k8
  have cX_9 := B.k9
  have cX_10 := B.k10
  go_wp2_with fail
  clear cX_b cX_f cX_0 cX_1 cX_2 cX_3 cX_4 cX_5 cX_6 cX_7 cX_8 cX_9 cX_10
  refine (RB.out _).mono ?_; rintro e w1 ⟨rfl, b1⟩
  have d1 : Below w.heap.size w w1 := below_step (by repeat (first | exact Below.refl _ _ | refine below_drewN ?_ _ | refine Below.drew ?_ | refine Below.setCell ?_ (by first | (simp; done) | (simp; omega) | omega) _ | refine Below.alloc ?_ (by first | (simp; done) | (simp; omega) | omega) _)) b1
  have B1 := Lib.hid d1
  have X1 := B.keep d1
  clear B b1 d1
  go_wp2_with fail
  refine (need_no 4 _).mono ?_; rintro e u1 ⟨rfl, rfl⟩
  refine (show bodyPost _ _ _ (Exit.panic (gvP 4)) _ _ from ?_)
  simp only [bodyPost]
  exact ⟨trivial, by first | rfl | trivial, B1.out⟩
set_option maxHeartbeats 4000000 in
set_option maxRecDepth 100000 in
theorem rufields1_yes (p : Nat) (s t : ByteArray) (fy ty m k wk d sec base save : Int) (w : World) (B : Bk11 w p (.string s) (.int .i64 fy) (.int .i64 ty) (.int .i64 m) (.int .i64 k) (.int .i64 wk) (.int .i64 d) (.int .i64 sec) (.int .i64 base) (.int .i64 save) (.string t)) (hs : s.size ≤ maxLen) (ht : t.size ≤ 100000) (hok : Ru.rB s t fy ty m k wk d sec base save = true) (tp : TypeId) (pp : Value) (y : Int) (L : Ru.Lv w tp pp y) :
    Calls Tryz.prog 37 #[.pointer (some ⟨p, 0, none⟩)] w fun e w' => ∃ (v : Value) (l : List ByteArray), StO w.heap.size w' v l ∧ l.map (·.data.toList) = (Ru.R.ts (⟨s, fy, ty, m, k, wk, d, sec, base, save, t⟩ : Ru.R)).map (·.data.toList) ∧ e = .returned v ∧ Below w.heap.size w w' := by
  have RB := Lib.hid (fun W => ruright_any s t fy ty m k wk d sec base save W hs ht)
  have LT := Lib.hid (fun W => lettertext_any t W ht)
  clear hs ht
  rw [hok] at RB
  obtain ⟨_, h1, h2, h3, _, _, h6, h7, h8⟩ := Ru.ok_of (r := (⟨s, fy, ty, m, k, wk, d, sec, base, save, t⟩ : Ru.R)) hok
  simp only [] at h1 h2 h3 h6 h7 h8
  have FT := Lib.hid (fun W (h : Ru.Lv W tp pp y) => yft_any fy W (by omega) (by omega) h.tab)
  have TT := Lib.hid (fun W (h : Ru.Lv W tp pp y) => ytt_any fy ty W (by omega) (by omega) h.tab)
  have DT := Lib.hid (fun W (h : Ru.Lv W tp pp y) => dspt_any k wk d W h.tab h.days)
  have KT := Lib.hid (fun W (h : Ru.Lv W tp pp y) => cltext_any sec base W h.ltr h.tab)
  have AT := Lib.hid (fun W (h : Ru.Lv W tp pp y) => atext_any save W (by omega) (by omega) h.tab)
  have MT := Lib.hid (fun W (h : Ru.Lv W tp pp y) => mtext_any m W h.mon)
  have HL := Lib.hid (fun W (b : Below w.heap.size w W) => L.on b)
  have e1 := Ru.ok_ft (r := (⟨s, fy, ty, m, k, wk, d, sec, base, save, t⟩ : Ru.R)) hok
  have e2 := Ru.ok_tt (r := (⟨s, fy, ty, m, k, wk, d, sec, base, save, t⟩ : Ru.R)) hok
  have e5 := Ru.ok_ds (r := (⟨s, fy, ty, m, k, wk, d, sec, base, save, t⟩ : Ru.R)) hok
  have e6 := Ru.ok_cl (r := (⟨s, fy, ty, m, k, wk, d, sec, base, save, t⟩ : Ru.R)) hok
  have e7 := Ru.ok_am (r := (⟨s, fy, ty, m, k, wk, d, sec, base, save, t⟩ : Ru.R)) hok
  simp only [] at e1 e2 e5 e6 e7
  rw [e1] at FT; rw [e2] at TT; rw [e5] at DT; rw [e6] at KT; rw [e7] at AT; rw [h8] at LT
  clear hok h1 h2 h3 h6 h7 h8 e1 e2 e5 e6 e7 L
  unfold Ru.R.ts
  simp only []
  generalize (Yr.ft fy).1 = x1 at *
  generalize (Yr.tt fy ty).1 = x2 at *
  generalize Wd.t3 Wd.months (m - 1) = x4 at *
  generalize (Ds.tx k wk d).1 = x5 at *
  generalize (Cl.tx sec base).1 = x6 at *
  generalize (Am.tx save).1 = x7 at *
  generalize (⟨(Fo.ltx t.data.toList).1.toArray⟩ : ByteArray) = x8 at *
  go_enter Tryz.func37, Tryz.ntmps37
  have cX_b := B.hb
  have cX_f := B.fz
  have cX_0 := B.k0
  have cX_1 := B.k1
  have cX_2 := B.k2
  have cX_3 := B.k3
  have cX_4 := B.k4
  have cX_5 := B.k5
  have cX_6 := B.k6
  have cX_7 := B.k7
  have cX_8 := B.k8
  have cX_9 := B.k9
  have cX_10 := B.k10
  go_wp2_with fail
  clear cX_b cX_f cX_0 cX_1 cX_2 cX_3 cX_4 cX_5 cX_6 cX_7 cX_8 cX_9 cX_10
  refine (RB.out _).mono ?_; rintro e w1 ⟨rfl, b1⟩
  have d1 : Below w.heap.size w w1 := below_step (by repeat (first | exact Below.refl _ _ | refine below_drewN ?_ _ | refine Below.drew ?_ | refine Below.setCell ?_ (by first | (simp; done) | (simp; omega) | omega) _ | refine Below.alloc ?_ (by first | (simp; done) | (simp; omega) | omega) _)) b1
  have B1 := Lib.hid d1
  have X1 := B.keep d1
  clear B b1 d1
  have cX_b := X1.hb
  have cX_f := X1.fz
  have cX_0 := X1.k0
  have cX_1 := X1.k1
  have cX_2 := X1.k2
  have cX_3 := X1.k3
  have cX_4 := X1.k4
  have cX_5 := X1.k5
  have cX_6 := X1.k6
  have cX_7 := X1.k7
  have cX_8 := X1.k8
  have cX_9 := X1.k9
  have cX_10 := X1.k10
  go_wp2_with fail
  clear cX_b cX_f cX_0 cX_1 cX_2 cX_3 cX_4 cX_5 cX_6 cX_7 cX_8 cX_9 cX_10
  refine (need_yes 4 _).mono ?_; rintro e v1 ⟨rfl, rfl⟩
  have cX_b := X1.hb
  have cX_f := X1.fz
  have cX_0 := X1.k0
  have cX_1 := X1.k1
  have cX_2 := X1.k2
  have cX_3 := X1.k3
  have cX_4 := X1.k4
  have cX_5 := X1.k5
  have cX_6 := X1.k6
  have cX_7 := X1.k7
  have cX_8 := X1.k8
  have cX_9 := X1.k9
  have cX_10 := X1.k10
  go_wp2_with fail
  clear cX_b cX_f cX_0 cX_1 cX_2 cX_3 cX_4 cX_5 cX_6 cX_7 cX_8 cX_9 cX_10
  have qX_0 := cell_regrown X1.k0
  have qX_1 := cell_regrown X1.k1
  have qX_2 := cell_regrown X1.k2
  have qX_3 := cell_regrown X1.k3
  have qX_4 := cell_regrown X1.k4
  have qX_5 := cell_regrown X1.k5
  have qX_6 := cell_regrown X1.k6
  have qX_7 := cell_regrown X1.k7
  have qX_8 := cell_regrown X1.k8
  have qX_9 := cell_regrown X1.k9
  have qX_10 := cell_regrown X1.k10
  refine wp_region_qbt (w := w1) 43 (by kernel_rfl) (by kernel_rfl) (by repeat (first | exact Below.refl _ _ | refine below_drewN ?_ _ | refine Below.drew ?_ | refine Below.setCell ?_ (by first | (simp; done) | (simp; omega) | omega) _ | refine Below.alloc ?_ (by first | (simp; done) | (simp; omega) | omega) _)) ?_
  simp only [List.take_succ_cons, List.take_zero, List.drop_succ_cons, List.drop_zero]
  repeat (any_goals (first | go_big_quiet_step (first | (go_at_call 39; exact Calls.regrown_of (FT.out _ (HL.out _ (below_step B1.out (below_regrown _ _ _))))) | (go_at_call 40; exact Calls.regrown_of (TT.out _ (HL.out _ (below_step B1.out (below_regrown _ _ _))))) | (go_at_call 41; exact Calls.regrown_of (MT.out _ (HL.out _ (below_step B1.out (below_regrown _ _ _))))) | (go_at_call 42; exact Calls.regrown_of (DT.out _ (HL.out _ (below_step B1.out (below_regrown _ _ _))))) | (go_at_call 43; exact Calls.regrown_of (KT.out _ (HL.out _ (below_step B1.out (below_regrown _ _ _))))) | (go_at_call 44; exact Calls.regrown_of (AT.out _ (HL.out _ (below_step B1.out (below_regrown _ _ _))))) | (go_at_call 45; exact Calls.regrown_of ((LT.out _).mono fun _ _ h => ⟨h.1, h.2 ▸ Below.refl _ _⟩)) | (go_at_call 38; exact Calls.regrown_of ((musts_yes _ _).mono fun _ _ h => ⟨h.1, h.2 ▸ Below.refl _ _⟩))) | quiet_step (first | (go_at_call 39; exact Calls.regrown_of (FT.out _ (HL.out _ (below_step B1.out (below_regrown _ _ _))))) | (go_at_call 40; exact Calls.regrown_of (TT.out _ (HL.out _ (below_step B1.out (below_regrown _ _ _))))) | (go_at_call 41; exact Calls.regrown_of (MT.out _ (HL.out _ (below_step B1.out (below_regrown _ _ _))))) | (go_at_call 42; exact Calls.regrown_of (DT.out _ (HL.out _ (below_step B1.out (below_regrown _ _ _))))) | (go_at_call 43; exact Calls.regrown_of (KT.out _ (HL.out _ (below_step B1.out (below_regrown _ _ _))))) | (go_at_call 44; exact Calls.regrown_of (AT.out _ (HL.out _ (below_step B1.out (below_regrown _ _ _))))) | (go_at_call 45; exact Calls.regrown_of ((LT.out _).mono fun _ _ h => ⟨h.1, h.2 ▸ Below.refl _ _⟩)) | (go_at_call 38; exact Calls.regrown_of ((musts_yes _ _).mono fun _ _ h => ⟨h.1, h.2 ▸ Below.refl _ _⟩)))))
  refine wpQuiet_nil ?_
  intro w2 b2
  clear qX_0 qX_1 qX_2 qX_3 qX_4 qX_5 qX_6 qX_7 qX_8 qX_9 qX_10
  have d2 : Below w1.heap.size w1 w2 := below_step (by repeat (first | exact Below.refl _ _ | refine below_drewN ?_ _ | refine Below.drew ?_ | refine Below.setCell ?_ (by first | (simp; done) | (simp; omega) | omega) _ | refine Below.alloc ?_ (by first | (simp; done) | (simp; omega) | omega) _)) b2
  have B2 := Lib.hid (below_step B1.out d2)
  have X2 := X1.keep d2
  clear X1 b2 d2 B1
  go_wp2_with fail
  go_ret
  exact ⟨_, [s, x1, x2, ⟨#[45]⟩, x4, x5, x6, x7, x8], StO.nine _ _ _ _ _ B2.out.size, rfl, rfl, below_step B2.out ((Below.refl _ _).alloc (Nat.le_refl _) _)⟩
set_option maxRecDepth 100000 in
theorem ruf_callFn (qs : Array Value) (W : World) : Sem.run Tryz.prog (callFunc 37 qs) W = .ok (.enter 37 qs) W := rfl
set_option maxHeartbeats 4000000 in
set_option maxRecDepth 100000 in
theorem rufields_any (s t : ByteArray) (fy ty m k wk d sec base save : Int) (w : World) (hs : s.size ≤ maxLen) (ht : t.size ≤ 100000) (tp : TypeId) (pp : Value) (y : Int) (L : Ru.Lv w tp pp y) :
    Calls Tryz.prog 10 #[.agg #[.string s, .int .i64 fy, .int .i64 ty, .int .i64 m, .int .i64 k, .int .i64 wk, .int .i64 d, .int .i64 sec, .int .i64 base, .int .i64 save, .string t]] w (AnsF (Ru.fl (⟨s, fy, ty, m, k, wk, d, sec, base, save, t⟩ : Ru.R)) w) := by
  have BB : Hid (Bk11 (w.alloc (.cells #[.string s, .int .i64 fy, .int .i64 ty, .int .i64 m, .int .i64 k, .int .i64 wk, .int .i64 d, .int .i64 sec, .int .i64 base, .int .i64 save, .string t] 28)) w.heap.size (.string s) (.int .i64 fy) (.int .i64 ty) (.int .i64 m) (.int .i64 k) (.int .i64 wk) (.int .i64 d) (.int .i64 sec) (.int .i64 base) (.int .i64 save) (.string t)) := ⟨by simp, by intro j; simp [go_sem], by simp [go_sem], by simp [go_sem], by simp [go_sem], by simp [go_sem], by simp [go_sem], by simp [go_sem], by simp [go_sem], by simp [go_sem], by simp [go_sem], by simp [go_sem], by simp [go_sem]⟩
  have b0 : Below w.heap.size w (w.alloc (.cells #[.string s, .int .i64 fy, .int .i64 ty, .int .i64 m, .int .i64 k, .int .i64 wk, .int .i64 d, .int .i64 sec, .int .i64 base, .int .i64 save, .string t] 28)) := (Below.refl _ _).alloc (Nat.le_refl _) _
  have HL := Lib.hid (L.on b0)
  cases hok : Ru.rB s t fy ty m k wk d sec base save
  · have T := Lib.hid (tcaught_no 37 #[.pointer (some ⟨w.heap.size, 0, none⟩)] (ruf_callFn _) 0 4 _ (Lib.hid fun W' hB => rufields1_no w.heap.size s t fy ty m k wk d sec base save W' (BB.out.keep hB) hs ht hok))
    rw [Ru.fl_no (r := (⟨s, fy, ty, m, k, wk, d, sec, base, save, t⟩ : Ru.R)) hok]
    clear hok hs ht L HL BB b0
    go_enter Tryz.func10, Tryz.ntmps10
    go_wp2_with fail
    refine T.out.mono ?_; rintro e w1 ⟨rfl, b1⟩
    have B1 := Lib.hid (below_step ((Below.refl _ _).alloc (Nat.le_refl _) _) b1)
    clear b1
    go_wp2_with fail
    go_ret2
    exact ⟨_, [], Lst.nil _ _, rfl, rfl, B1.out⟩
  · have T := Lib.hid (tcaught_yes 37 #[.pointer (some ⟨w.heap.size, 0, none⟩)] (ruf_callFn _) ((Ru.R.ts (⟨s, fy, ty, m, k, wk, d, sec, base, save, t⟩ : Ru.R)).map (·.data.toList)) _ (Lib.hid fun W' hB => rufields1_yes w.heap.size s t fy ty m k wk d sec base save W' (BB.out.keep hB) hs ht hok tp pp y (HL.out.on hB)))
    rw [Ru.fl_yes (r := (⟨s, fy, ty, m, k, wk, d, sec, base, save, t⟩ : Ru.R)) hok]
    generalize (Ru.R.ts (⟨s, fy, ty, m, k, wk, d, sec, base, save, t⟩ : Ru.R)).map (·.data.toList) = P at *
    clear hok hs ht L HL BB b0
    go_enter Tryz.func10, Tryz.ntmps10
    go_wp2_with fail
    refine T.out.mono ?_; rintro e w1 ⟨v, l, hst, hlp, rfl, b1⟩
    have B1 := Lib.hid (below_step ((Below.refl _ _).alloc (Nat.le_refl _) _) b1)
    have HS := Lib.hid hst; have HP := Lib.hid hlp
    clear b1 hst hlp
    go_wp2_with fail
    go_ret2
    exact ⟨v, l, HS.out, HP.out, rfl, B1.out⟩
end Go.Proofs.YtedbohfcbfegjaaGreatDoor
