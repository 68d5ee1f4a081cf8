/- Joined: GvT, FdK, Byt, RnD. -/
import Derived.Test.YtlelpeocbgjmhaaGreatDoorCa09
import Derived.Test.YtlelpeocbgjmhaaGreatDoorCa05
import Derived.Test.YtlelpeocbgjmhaaGreatDoorCa13
import Derived.Test.YtlelpeocbgjmhaaGreatDoorCa06
import Derived.Test.YtlelpeocbgjmhaaGreatDoorCa03
/- giveup.CaughtAt and Caught at []string, over any closure. -/
set_option linter.unusedVariables false
set_option linter.unusedSimpArgs false
namespace Go.Proofs.YtlelpeocbgjmhaaGreatDoor
open Go.RowKit

/-- A slice of strings in a block behind B. -/
def StO (B : Nat) (w : World) (v : Value) (l : List ByteArray) : Prop :=
  ∃ A c, v = .slice A l.length c ∧ (0 < l.length → ∃ a, A = some a ∧ B ≤ a.block ∧ a.block < w.heap.size ∧ ∀ (j : Nat) (u : Value), (l.map Value.string)[j]? = some u → w.cell? (a.add j) = some u)
theorem StO.st {B : Nat} {w : World} {v : Value} {l : List ByteArray} (h : StO B w v l) : StS w v l := by
  obtain ⟨A, c, hv, ha⟩ := h
  exact ⟨A, c, hv, fun hn => by obtain ⟨a, e, _, hb, hc⟩ := ha hn; exact ⟨a, e, hb, hc⟩⟩
theorem StO.own {B base : Nat} {w : World} {v : Value} {l : List ByteArray} (h : w.ownsRow base 9 1 v l.length (l.map Value.string)) (hB : B ≤ base) : StO B w v l := by
  rcases Nat.eq_zero_or_pos l.length with h0 | h0
  · obtain ⟨A, c, hv, _⟩ := Lst.own h
    exact ⟨A, c, hv, fun hn => by omega⟩
  · obtain ⟨g, cap, hv, hb, hlt⟩ := h.form h0
    exact ⟨_, _, hv, fun _ => ⟨_, rfl, Nat.le_trans hB hb, hlt, h.cells (g := g) (by rw [hv]; rfl)⟩⟩
theorem StO.turn {B : Nat} {w w' : World} {v : Value} {l : List ByteArray} (h : StO B w v l) (hs : w.heap.size ≤ w'.heap.size) (k : ∀ i, B ≤ i → i < w.heap.size → w'.heap[i]? = w.heap[i]?) : StO B w' v l := by
  obtain ⟨A, c, hv, ha⟩ := h
  refine ⟨A, c, hv, fun hn => ?_⟩
  obtain ⟨a, e, h1, hb, hc⟩ := ha hn
  refine ⟨a, e, h1, by omega, fun j u hu => ?_⟩
  rw [← hc j u hu]
  exact World.cell?_of_block (by rw [blk_add]; exact k _ h1 hb)
theorem set_block (w : World) (p : Addr) (v : Value) (i : Nat) (h : p.block ≠ i) : (w.setCell p v).heap[i]? = w.heap[i]? := by
  simp [World.setCell, Array.getElem?_modify, h]
theorem set_size (w : World) (p : Addr) (v : Value) : (w.setCell p v).heap.size = w.heap.size := by simp [World.setCell]
theorem gvt_assert (line why : Int) (W : World) : Sem.run Tryz.prog (Instr.typeAssert (Value.iface 111 (Value.agg #[Value.int IntKind.i64 line, Value.int IntKind.i64 why])) 20 111 true) W = .ok (.tuple #[.agg #[.int .i64 line, .int .i64 why], .bool true]) W := by
  kernel_rfl
set_option maxRecDepth 100000 in
theorem gvt_catch (b : Nat) (x y line why : Int) (older : List PanicEntry) (w : World) (hb : b < w.heap.size) (hc : w.cell? ⟨b, 0, none⟩ = some (.int .i64 x)) (hd : w.cell? ⟨b, 1, none⟩ = some (.int .i64 y)) (hz : ∀ j, w.frozen? ⟨b, j, none⟩ = false) :
    CallsD Tryz.prog 99 #[.pointer (some ⟨b, 0, none⟩)] (.panicking ({ v := gvV line why, recovered := false } :: older)) w fun e u' w' =>
      e = .returned (.tuple #[]) ∧ u' = .panicking ({ v := gvV line why, recovered := true } :: older) ∧ w' = ((w.setCell ⟨b, 0, none⟩ (.int .i64 line)).setCell ⟨b, 1, none⟩ (.int .i64 why)).alloc (.cells #[.int .i64 line, .int .i64 why] 111) := by
  unfold gvV
  have hta := fun W => gvt_assert line why W
  refine callsD_of_wpS Tryz.func99 rfl fun c₀ cs hu => ?_
  apply wpS_seq
  apply wpS_region
  simp [wpOpsS, go_sem, recoverD, hu, Tryz.ntmps99, Exit.thenS]
  refine wpS_of_wp ?_
  rw [show (#[Value.pointer (some ⟨b, 0, none⟩)] ++ (Array.replicate 11 undef).setIfInBounds 3 (Value.iface 111 (Value.agg #[Value.int IntKind.i64 line, Value.int IntKind.i64 why])) : Array Value) = #[.pointer (some ⟨b, 0, none⟩), undef, undef, undef, .iface 111 (.agg #[.int .i64 line, .int .i64 why]), undef, undef, undef, undef, undef, undef, undef] from rfl]
  have n1 : b ≠ w.heap.size := Nat.ne_of_lt hb
  have n2 : w.heap.size ≠ b := Nat.ne_of_gt hb
  go_wp2_with fail
  all_goals (cases c₀; simp_all [bodyPostS, results, Tryz.results99])
theorem gvt_idle (p : Addr) (w : World) :
    CallsD Tryz.prog 99 #[.pointer (some p)] .returning w fun e u' w' => e = .returned (.tuple #[]) ∧ u' = .returning ∧ w' = w := by
  refine callsD_of_wpS Tryz.func99 rfl fun c₀ cs hu => ?_
  apply wpS_seq
  apply wpS_region
  simp [wpOpsS, go_sem, recoverD, hu, Tryz.ntmps99, Exit.thenS]
  refine wpS_of_wp ?_
  rw [show (#[Value.pointer (some p)] ++ (Array.replicate 11 undef).setIfInBounds 3 Value.nilIface : Array Value) = #[.pointer (some p), undef, undef, undef, .nilIface, undef, undef, undef, undef, undef, undef, undef] from rfl]
  go_wp2_with fail
  all_goals (cases c₀; simp_all [bodyPostS, results, Tryz.results99])
set_option maxHeartbeats 1000000 in
set_option maxRecDepth 100000 in
theorem tcaughtat_yes (g : FuncId) (qs : Array Value) (hg : ∀ W, Sem.run Tryz.prog (callFunc g qs) W = .ok (.enter g qs) W) (P : List (List UInt8)) (w : World)
    (CG : Hid (∀ W, Below w.heap.size w W → Calls Tryz.prog g qs W fun e w' => ∃ (v : Value) (l : List ByteArray), StO W.heap.size w' v l ∧ l.map (·.data.toList) = P ∧ e = .returned v ∧ Below W.heap.size W w')) :
    Calls Tryz.prog 75 #[.func (Fn.func g) #[] qs] w fun e w' => ∃ (v : Value) (l : List ByteArray), StS w' v l ∧ l.map (·.data.toList) = P ∧ e = .returned (.tuple #[v, .agg #[.int .i64 0, .int .i64 0]]) ∧ Below w.heap.size w w' := by
  have hmf : ∀ (fn : Fn) (first cap : Array Value) (w : World), (Instr.makeFunc fn first cap).run Tryz.prog w = .ok (.func fn first cap) w := fun _ _ _ _ => rfl
  go_enter_defers Tryz.func75, Tryz.ntmps75
  go_wp2_with fail
  refine (CG.out _ ((Below.refl _ _).alloc (Nat.le_refl _) _)).mono ?_; rintro e w1 ⟨v, l, hst, hlp, rfl, b1⟩
  have HST := Lib.hid hst; have HLP := Lib.hid hlp
  clear hlp
  obtain ⟨A, c, rfl, -⟩ := hst
  have B1 := Lib.hid (below_step ((Below.refl _ _).alloc (Nat.le_refl _) _) b1)
  have Q1 : Bk2 w1 w.heap.size (.int .i64 0) (.int .i64 0) := Bk2.of b1 (by simp) (by intro j; simp [go_sem]) (by simp [go_sem]) (by simp [go_sem])
  clear b1
  have c_b := Q1.hb; have c_f := Q1.fz; have c_0 := Q1.k0; have c_1 := Q1.k1
  clear Q1
  go_wp2_with fail
  refine leaves_cons (f := 99) (args := #[.pointer (some ⟨w.heap.size, 0, none⟩)]) (by simp) (by simp [go_sem]) ?_
  refine (gvt_idle ⟨w.heap.size, 0, none⟩ _).mono ?_
  rintro e u' w'' ⟨rfl, rfl, rfl⟩
  simp [Leaves, settle, results, Tryz.results75, go_sem, c_b, c_0, c_1, c_f]
  clear c_b c_f c_0 c_1
  refine ⟨_, l, StO.st (StO.turn (StO.turn HST.out (Nat.le_of_eq (set_size ..).symm) (fun i h1 h2 => set_block _ _ _ _ ?_)) (Nat.le_of_eq (set_size ..).symm) (fun i h1 h2 => set_block _ _ _ _ ?_)), HLP.out, rfl, ?_⟩
  · simp at h1; show w.heap.size ≠ i; omega
  · simp at h1; show w.heap.size ≠ i; omega
  · repeat (refine Below.setCell ?_ (by first | omega | (simp; done) | (simp; omega)) _)
    exact B1.out
set_option maxHeartbeats 1000000 in
set_option maxRecDepth 100000 in
theorem tcaughtat_no (g : FuncId) (qs : Array Value) (hg : ∀ W, Sem.run Tryz.prog (callFunc g qs) W = .ok (.enter g qs) W) (line why : Int) (w : World)
    (CG : Hid (∀ W, Below w.heap.size w W → Calls Tryz.prog g qs W fun e w' => e = .panicked (gvL line why) ∧ Below W.heap.size W w')) :
    Calls Tryz.prog 75 #[.func (Fn.func g) #[] qs] w fun e w' => e = .returned (.tuple #[.slice none 0 0, .agg #[.int .i64 line, .int .i64 why]]) ∧ Below w.heap.size w w' := by
  have hmf : ∀ (fn : Fn) (first cap : Array Value) (w : World), (Instr.makeFunc fn first cap).run Tryz.prog w = .ok (.func fn first cap) w := fun _ _ _ _ => rfl
  go_enter_defers Tryz.func75, Tryz.ntmps75
  go_wp2_with fail
  refine (CG.out _ ((Below.refl _ _).alloc (Nat.le_refl _) _)).mono ?_; rintro e w1 ⟨rfl, b1⟩
  have B1 := Lib.hid (below_step ((Below.refl _ _).alloc (Nat.le_refl _) _) b1)
  have Q1 : Bk2 w1 w.heap.size (.int .i64 0) (.int .i64 0) := Bk2.of b1 (by simp) (by intro j; simp [go_sem]) (by simp [go_sem]) (by simp [go_sem])
  clear b1
  have c_b := Q1.hb; have c_f := Q1.fz; have c_0 := Q1.k0; have c_1 := Q1.k1
  clear Q1
  refine (show bodyPostD _ _ _ (Exit.panic (gvL line why)) _ _ from ?_)
  refine leaves_cons (f := 99) (args := #[.pointer (some ⟨w.heap.size, 0, none⟩)]) (by simp) (by simp [go_sem]) ?_
  refine (gvt_catch w.heap.size 0 0 line why [] _ c_b c_0 c_1 c_f).mono ?_
  rintro e u' w'' ⟨rfl, rfl, rfl⟩
  simp [Leaves, settle, results, Tryz.results75, go_sem, c_b, c_0, c_1, c_f]
  clear c_b c_f c_0 c_1
  refine Below.alloc (Below.setCell (Below.setCell B1.out (Nat.le_refl _) _) (Nat.le_refl _) _) (by simp; exact B1.out.size) _
set_option maxHeartbeats 1000000 in
set_option maxRecDepth 100000 in
theorem tcaught_yes (g : FuncId) (qs : Array Value) (hg : ∀ W, Sem.run Tryz.prog (callFunc g qs) W = .ok (.enter g qs) W) (P : List (List UInt8)) (w : World)
    (CG : Hid (∀ W, Below w.heap.size w W → Calls Tryz.prog g qs W fun e w' => ∃ (v : Value) (l : List ByteArray), StO W.heap.size w' v l ∧ l.map (·.data.toList) = P ∧ e = .returned v ∧ Below W.heap.size W w')) :
    Calls Tryz.prog 51 #[.func (Fn.func g) #[] qs] w (AnsF (P, 0) w) := by
  go_enter Tryz.func51, Tryz.ntmps51
  go_wp2_with fail
  refine (tcaughtat_yes g qs hg P _ CG).mono ?_; rintro e w1 ⟨v, l, hst, hlp, rfl, b1⟩
  have HST := Lib.hid hst; have HLP := Lib.hid hlp
  clear hst hlp
  have B1 := Lib.hid b1
  clear b1
  go_wp2_with fail
  go_quiet (fail)
  go_wp2_with fail
  go_ret2
  refine ⟨v, l, HST.out.on ?_, HLP.out, rfl, below_step B1.out ?_⟩
  all_goals (repeat (first | refine _root_.Go.below_drewN ?_ _ | refine Below.drew ?_ | refine Below.setCell ?_ (by first | omega | (simp; done) | (simp; omega)) _ | refine Below.alloc ?_ (by first | omega | (simp; done) | (simp; omega)) _ | exact Below.refl _ _))
set_option maxHeartbeats 1000000 in
set_option maxRecDepth 100000 in
theorem tcaught_no (g : FuncId) (qs : Array Value) (hg : ∀ W, Sem.run Tryz.prog (callFunc g qs) W = .ok (.enter g qs) W) (line why : Int) (w : World)
    (CG : Hid (∀ W, Below w.heap.size w W → Calls Tryz.prog g qs W fun e w' => e = .panicked (gvL line why) ∧ Below W.heap.size W w')) :
    Calls Tryz.prog 51 #[.func (Fn.func g) #[] qs] w fun e w' => e = .returned (.tuple #[.slice none 0 0, .int .i64 why]) ∧ Below w.heap.size w w' := by
  go_enter Tryz.func51, Tryz.ntmps51
  go_wp2_with fail
  refine (tcaughtat_no g qs hg line why _ CG).mono ?_; rintro e w1 ⟨rfl, b1⟩
  have B1 := Lib.hid b1
  clear b1
  go_wp2_with fail
  go_quiet (fail)
  go_wp2_with fail
  go_ret2
  exact ⟨rfl, by repeat (first | exact B1.out | refine _root_.Go.below_drewN ?_ _ | refine Below.drew ?_ | refine Below.setCell ?_ (by first | omega | (simp; done) | (simp; exact B1.out.size) | (simp; omega)) _ | refine Below.alloc ?_ (by first | exact B1.out.size | omega | (simp; done) | (simp; omega)) _)⟩
end Go.Proofs.YtlelpeocbgjmhaaGreatDoor

/- The program's fields: the contract of Of. -/
set_option linter.unusedVariables false
set_option linter.unusedSimpArgs false
namespace Go.Proofs.YtlelpeocbgjmhaaGreatDoor
open Go.RowKit Go.Sort

set_option maxRecDepth 100000 in
theorem fd_callFn (qs : Array Value) (W : World) : Sem.run Tryz.prog (callFunc 52 qs) W = .ok (.enter 52 qs) W := rfl
set_option maxHeartbeats 1000000 in
set_option maxRecDepth 100000 in
theorem of1_any (b : Nat) (s : ByteArray) (w : World) (hc : w.cell? ⟨b, 0, none⟩ = some (.string s)) (hs : s.size ≤ 100000000) :
    Calls Tryz.prog 52 #[.pointer (some ⟨b, 0, none⟩)] w fun e w' => Below w.heap.size w w' ∧ (((Fd.of s.data.toList).2 = 0 ∧ ∃ (v : Value) (l : List ByteArray), StO w.heap.size w' v l ∧ l.map (·.data.toList) = (Fd.of s.data.toList).1 ∧ e = .returned v) ∨ ((Fd.of s.data.toList).2 ≠ 0 ∧ e = .panicked (gvP (Fd.of s.data.toList).2))) := by
  have C := Lib.hid (fun b W H => cfields_any b s W H hs)
  unfold AnsCs at C
  generalize Fd.of s.data.toList = R at C ⊢
  clear hs
  go_enter Tryz.func52, Tryz.ntmps52
  go_wp2_with fail
  have hk : Bk1 (w.alloc (.cells #[.string s] 89)) w.heap.size (.string s) := ⟨by simp, fun j => by simp [go_sem], by simp [go_sem]⟩
  have hB : Below w.heap.size w (w.alloc (.cells #[.string s] 89)) := (Below.refl _ _).alloc (Nat.le_refl _) _
  refine (C.out _ _ hk).mono ?_; rintro e w1 ⟨g1, h1⟩
  have hsz := hB.size
  have hz : w.heap.size ≤ (w.alloc (.cells #[.string s] 89)).heap.size := hsz
  have B1 := Lib.hid (hB.trans (grown_at g1 hz))
  rcases h1 with ⟨h0, v, l, own, hl, rfl⟩ | ⟨h0, rfl⟩
  · have ST := Lib.hid (StO.own own hz)
    have HL := Lib.hid hl
    clear own hl g1 hB hk
    go_wp2_with fail
    go_ret
    exact ⟨B1.out, .inl ⟨h0, v, l, ST.out, HL.out, rfl⟩⟩
  · refine (show bodyPost _ _ _ (Exit.panic (gvP R.2)) _ _ from ?_)
    simp [bodyPost]
    exact ⟨B1.out, h0⟩
set_option maxHeartbeats 1000000 in
set_option maxRecDepth 100000 in
theorem fof_any (s : ByteArray) (w : World) (hs : s.size ≤ 100000000) :
    Calls Tryz.prog 30 #[.string s] w (AnsF (Fd.of s.data.toList) w) := by
  have C := Lib.hid (fun b W hc => of1_any b s W hc hs)
  have hR : (Fd.of s.data.toList).2 ≠ 0 → (Fd.of s.data.toList).1 = [] := by
    unfold Fd.of
    generalize Fd.go [] [] false false s.data.toList = o
    cases o with
    | none => intro _; rfl
    | some P =>
      rw [Fd.told_some]
      split
      · intro _; rfl
      · intro h; exact absurd rfl h
  generalize Fd.of s.data.toList = R at C hR ⊢
  obtain ⟨P, why⟩ := R
  by_cases h0 : why = 0
  · subst h0
    have T := Lib.hid (fun b W (hc : W.cell? ⟨b, 0, none⟩ = some (.string s)) => tcaught_yes 52 #[.pointer (some ⟨b, 0, none⟩)] (fd_callFn _) P W (Lib.hid fun W' hB => (C.out b W' (fd_keep hc hB)).mono (by
      rintro e w' ⟨h1, ⟨-, v, l, h2, h3, h4⟩ | ⟨h2, -⟩⟩
      · exact ⟨v, l, h2, h3, h4, h1⟩
      · exact absurd rfl h2)))
    clear C hR
    go_enter Tryz.func30, Tryz.ntmps30
    go_wp2_with fail
    refine (T.out _ _ (by simp [go_sem])).mono ?_; rintro e w1 ⟨v, l, hst, hl, rfl, b1⟩
    have ST := Lib.hid hst; have HL := Lib.hid hl
    have B1 := Lib.hid (below_step ((Below.refl _ _).alloc (Nat.le_refl _) _) b1)
    clear hst hl b1
    go_wp2_with fail
    go_ret2
    exact ⟨v, l, ST.out, HL.out, rfl, B1.out⟩
  · have hP : P = [] := hR h0
    subst hP
    have T := Lib.hid (fun b W (hc : W.cell? ⟨b, 0, none⟩ = some (.string s)) => tcaught_no 52 #[.pointer (some ⟨b, 0, none⟩)] (fd_callFn _) 0 why W (Lib.hid fun W' hB => (C.out b W' (fd_keep hc hB)).mono (by
      rintro e w' ⟨h1, ⟨h2, -⟩ | ⟨h2, h3⟩⟩
      · exact absurd h2 h0
      · exact ⟨h3, h1⟩)))
    clear C hR
    go_enter Tryz.func30, Tryz.ntmps30
    go_wp2_with fail
    refine (T.out _ _ (by simp [go_sem])).mono ?_; rintro e w1 ⟨rfl, b1⟩
    have B1 := Lib.hid (below_step ((Below.refl _ _).alloc (Nat.le_refl _) _) b1)
    clear b1
    go_wp2_with fail
    go_ret2
    exact ⟨_, [], StS.nil _, rfl, rfl, B1.out⟩
end Go.Proofs.YtlelpeocbgjmhaaGreatDoor

/- Texts as bytes: their lists, digits, what stands behind a sign. -/
set_option linter.unusedVariables false
set_option linter.unusedSimpArgs false
namespace Go.Proofs.YtlelpeocbgjmhaaGreatDoor
open Go.RowKit

theorem ab_dig (c : UInt8) : Num.dig c = (decide (48 ≤ (c.toNat : Int)) && decide ((c.toNat : Int) ≤ 57)) := by
  unfold Num.dig
  by_cases h1 : 48 ≤ c.toNat <;> by_cases h2 : c.toNat ≤ 57 <;> simp [h1, h2] <;> omega
theorem ab_trim (l p : List UInt8) : (Lib.trimPrefix l p).length ≤ l.length := by
  unfold Lib.trimPrefix
  split
  · rw [List.length_drop]; omega
  · omega
theorem ab_val_lt : ∀ (l : List UInt8) (a : Nat), l.all Num.dig = true → Num.val a l < (a + 1) * 10 ^ l.length := by
  intro l
  induction l with
  | nil => intro a _; rw [Num.val_nil]; simp
  | cons c r ih =>
    intro a h
    simp only [List.all_cons, Bool.and_eq_true] at h
    have hc : 48 ≤ c.toNat ∧ c.toNat ≤ 57 := by have := h.1; unfold Num.dig at this; exact of_decide_eq_true this
    have := ih (Num.stp a c) h.2
    rw [Num.val_cons, List.length_cons, Nat.pow_succ]
    have h1 : Num.stp a c + 1 ≤ (a + 1) * 10 := by rw [Num.stp_eq]; omega
    have h2 := Nat.mul_le_mul_right (10 ^ r.length) h1
    calc Num.val (Num.stp a c) r < (Num.stp a c + 1) * 10 ^ r.length := this
      _ ≤ (a + 1) * 10 * 10 ^ r.length := h2
      _ = (a + 1) * (10 ^ r.length * 10) := by rw [Nat.mul_assoc, Nat.mul_comm 10]
theorem ab_val_bd {l : List UInt8} {k : Nat} (hd : l.all Num.dig = true) (hl : l.length ≤ k) : Num.val 0 l < 10 ^ k := by
  have := ab_val_lt l 0 hd
  have h2 := Nat.pow_le_pow_right (n := 10) (by omega) hl
  omega
end Go.Proofs.YtlelpeocbgjmhaaGreatDoor

/- The contract of the reference's Digits, and of its Read. -/
set_option linter.unusedVariables false
set_option linter.unusedSimpArgs false
namespace Go.Proofs.YtlelpeocbgjmhaaGreatDoor
open Go.RowKit

theorem rn_cut (s : ByteArray) (a : Nat) (ha : a ≤ s.size) (w : World) : Sem.run Tryz.prog (Instr.slice 9 (.string s) (some (.int .i64 (a : Int))) none none) w = .ok (.string (s.extract a s.size)) w := by
  rw [run_slice_string_l w 9 s Tryz.underlying9 .i64 _ (by omega) (by omega)]
  simp
namespace Num
/-- Digits alone, one at least. -/
def dgs (l : List UInt8) : Bool := l.all dig && !l.isEmpty
end Num
set_option maxHeartbeats 2000000 in
set_option maxRecDepth 100000 in
theorem rdigs_nil (w : World) :
    Calls Tryz.prog 56 #[.string ⟨#[]⟩] w fun e w' => e = .returned (.bool false) ∧ w = w' := by
  go_enter Tryz.func56, Tryz.ntmps56
  go_wp2_with fail
  refine wp_loop_rounds 1 ?_
  rw [rounds_succ]
  go_wp2_with fail
  go_ret
  exact ⟨rfl, rfl⟩
set_option maxHeartbeats 2000000 in
set_option maxRecDepth 100000 in
theorem rdigs_ne (s : ByteArray) (w : World) (hz : 0 < s.size) (hs : s.size ≤ maxLen) :
    Calls Tryz.prog 56 #[.string s] w fun e w' => e = .returned (.bool (s.data.toList.all Num.dig)) ∧ w = w' := by
  unfold maxLen at hs
  obtain ⟨hn1, hn2⟩ := dne hz
  obtain ⟨ans, hans⟩ : ∃ ans, ans = s.data.toList.all Num.dig := ⟨_, rfl⟩
  rw [← hans]
  have HA := Lib.hid hans; clear hans
  go_enter Tryz.func56, Tryz.ntmps56
  go_wp2_with fail
  go_loopw [3] (fun i wr => ∃ k : Nat, k ≤ s.size ∧ i = .int .i64 k ∧ Hid ((s.data.toList.drop k).all Num.dig = ans) ∧ wr = w) (fun i _ => s.size - (intOf i).toNat)
  case atStart => exact ⟨0, Nat.zero_le _, rfl, HA.out.symm, rfl⟩
  case round =>
    obtain ⟨k, hk, rfl, hr, hw⟩ := hrel
    obtain rfl : w = wr := hw.symm
    by_cases hlt : k < s.size
    · have hb := s[k].toNat_lt
      have hd := Num.rn_dig s[k]
      have hn : (Num.dig s[k] && (s.data.toList.drop (k + 1)).all Num.dig) = ans := by rw [← hr.out, Num.rn_drop s k hlt]; rfl
      by_cases c1 : (s[k].toNat : Int) < 48
      · have hno := Lib.hid (show ans = false by rw [← hn, hd, decide_eq_false (by omega)]; rfl)
        clear hn hd
        go_wp2_with fail
        go_ret
        exact ⟨by rw [hno.out]; rfl, rfl⟩
      · by_cases c2 : 57 < (s[k].toNat : Int)
        · have hno := Lib.hid (show ans = false by rw [← hn, hd, decide_eq_false (show ¬ (s[k].toNat : Int) ≤ 57 by omega)]; simp)
          clear hn hd
          go_wp2_with fail
          go_ret
          exact ⟨by rw [hno.out]; rfl, rfl⟩
        · have hyes := Lib.hid (show (s.data.toList.drop (k + 1)).all Num.dig = ans by rw [← hn, hd, decide_eq_true (show 48 ≤ (s[k].toNat : Int) by omega), decide_eq_true (show (s[k].toNat : Int) ≤ 57 by omega)]; rfl)
          clear hn hd
          go_wp2_with fail
          go_roundw
          case rel => exact ⟨k + 1, by omega, by go_num, hyes, by first | rfl | trivial⟩
          case measure => simp [intOf]; omega
    · have hyes := Lib.hid (show ans = true by rw [← hr.out, List.drop_of_length_le (by rw [Num.rn_len]; omega)]; rfl)
      go_wp2_with fail
      go_ret
      exact ⟨by rw [hyes.out]; rfl, rfl⟩
theorem rdigs_any (s : ByteArray) (w : World) (hs : s.size ≤ maxLen) :
    Calls Tryz.prog 56 #[.string s] w fun e w' => e = .returned (.bool (Num.dgs s.data.toList)) ∧ w = w' := by
  rcases Nat.eq_zero_or_pos s.size with hz | hz
  · have hl : s.data.toList = [] := by rw [← List.length_eq_zero_iff, Num.rn_len]; exact hz
    have e : s = ⟨#[]⟩ := by apply ByteArray.ext; apply Array.toList_inj.1; rw [hl]
    rw [e]
    exact rdigs_nil w
  · have hl : s.data.toList.isEmpty = false := by
      cases h : s.data.toList with
      | nil => have := Num.rn_len s; rw [h] at this; simp at this; omega
      | cons c r => rfl
    have e : Num.dgs s.data.toList = s.data.toList.all Num.dig := by unfold Num.dgs; rw [hl]; simp
    rw [e]
    exact rdigs_ne s w hz hs
end Go.Proofs.YtlelpeocbgjmhaaGreatDoor
