/- Joined: GvT, FdK, FdRm, GvX, FdR, RnE, RnF, RnG. -/
import Derived.Test.YtbcbggdbojonmaaGreatDoorBq17
import Derived.Test.YtbcbggdbojonmaaGreatDoorBq04
import Derived.Test.YtbcbggdbojonmaaGreatDoorBq28
import Derived.Test.YtbcbggdbojonmaaGreatDoorBq06
import Derived.Test.YtbcbggdbojonmaaGreatDoorBq02
set_option linter.unusedVariables false
set_option linter.unusedSimpArgs false
namespace Go.Proofs.YtbcbggdbojonmaaGreatDoor
open Go.RowKit
def StO (B : Nat) (w : World) (v : Value) (l : List ByteArray) : Prop :=
 ∃ A c, v = .slice A l.length c ∧ (0 < l.length → ∃ a, A = some a ∧ B ≤ a.block ∧ a.block < w.heap.size ∧ ∀ (j : Nat) (u : Value), (l.map Value.string)[j]? = some u → w.cell? (a.add j) = some u)
theorem StO.st {B : Nat} {w : World} {v : Value} {l : List ByteArray} (h : StO B w v l) : StS w v l := by
 obtain ⟨A, c, hv, ha⟩ := h
 exact ⟨A, c, hv, fun hn => by obtain ⟨a, e, _, hb, hc⟩ := ha hn; exact ⟨a, e, hb, hc⟩⟩
theorem StO.own {B base : Nat} {w : World} {v : Value} {l : List ByteArray} (h : w.ownsRow base 9 1 v l.length (l.map Value.string)) (hB : B ≤ base) : StO B w v l := by
 rcases Nat.eq_zero_or_pos l.length with h0 | h0
 ·
  obtain ⟨A, c, hv, _⟩ := Lst.own h
  exact ⟨A, c, hv, fun hn => by omega⟩
 ·
  obtain ⟨g, cap, hv, hb, hlt⟩ := h.form h0
  exact ⟨_, _, hv, fun _ => ⟨_, rfl, Nat.le_trans hB hb, hlt, h.cells (g := g) (by rw [hv]; rfl)⟩⟩
theorem StO.turn {B : Nat} {w w' : World} {v : Value} {l : List ByteArray} (h : StO B w v l) (hs : w.heap.size ≤ w'.heap.size) (k : ∀ i, B ≤ i → i < w.heap.size → w'.heap[i]? = w.heap[i]?) : StO B w' v l := by
 obtain ⟨A, c, hv, ha⟩ := h
 refine ⟨A, c, hv, fun hn => ?_⟩
 obtain ⟨a, e, h1, hb, hc⟩ := ha hn
 refine ⟨a, e, h1, by omega, fun j u hu => ?_⟩
 rw [← hc j u hu]
 exact World.cell?_of_block (by rw [blk_add]; exact k _ h1 hb)
theorem set_block (w : World) (p : Addr) (v : Value) (i : Nat) (h : p.block ≠ i) : (w.setCell p v).heap[i]? = w.heap[i]? := by
 simp [World.setCell, Array.getElem?_modify, h]
theorem set_size (w : World) (p : Addr) (v : Value) : (w.setCell p v).heap.size = w.heap.size := by simp [World.setCell]
theorem gvt_assert (line why : Int) (W : World) : Sem.run Tryz.prog (Instr.typeAssert (Value.iface 110 (Value.agg #[Value.int IntKind.i64 line, Value.int IntKind.i64 why])) 20 110 true) W = .ok (.tuple #[.agg #[.int .i64 line, .int .i64 why], .bool true]) W := by
 kernel_rfl
set_option maxRecDepth 100000 in
theorem gvt_catch (b : Nat) (x y line why : Int) (older : List PanicEntry) (w : World) (hb : b < w.heap.size) (hc : w.cell? ⟨b, 0, none⟩ = some (.int .i64 x)) (hd : w.cell? ⟨b, 1, none⟩ = some (.int .i64 y)) (hz : ∀ j, w.frozen? ⟨b, j, none⟩ = false) :
  CallsD Tryz.prog 103 #[.pointer (some ⟨b, 0, none⟩)] (.panicking ({ v := gvV line why, recovered := false } :: older)) w fun e u' w' =>
   e = .returned (.tuple #[]) ∧ u' = .panicking ({ v := gvV line why, recovered := true } :: older) ∧ w' = ((w.setCell ⟨b, 0, none⟩ (.int .i64 line)).setCell ⟨b, 1, none⟩ (.int .i64 why)).alloc (.cells #[.int .i64 line, .int .i64 why] 110) := by
 unfold gvV
 have hta := fun W => gvt_assert line why W
 refine callsD_of_wpS Tryz.func103 rfl fun c₀ cs hu => ?_
 apply wpS_seq
 apply wpS_region
 simp [wpOpsS, go_sem, recoverD, hu, Tryz.ntmps103, Exit.thenS]
 refine wpS_of_wp ?_
 rw [show (#[Value.pointer (some ⟨b, 0, none⟩)] ++ (Array.replicate 11 undef).setIfInBounds 3 (Value.iface 110 (Value.agg #[Value.int IntKind.i64 line, Value.int IntKind.i64 why])) : Array Value) = #[.pointer (some ⟨b, 0, none⟩), undef, undef, undef, .iface 110 (.agg #[.int .i64 line, .int .i64 why]), undef, undef, undef, undef, undef, undef, undef] from rfl]
 have n1 : b ≠ w.heap.size := Nat.ne_of_lt hb
 have n2 : w.heap.size ≠ b := Nat.ne_of_gt hb
 go_wp2_with fail
 all_goals (cases c₀; simp_all [bodyPostS, results, Tryz.results103])
theorem gvt_idle (p : Addr) (w : World) :
  CallsD Tryz.prog 103 #[.pointer (some p)] .returning w fun e u' w' => e = .returned (.tuple #[]) ∧ u' = .returning ∧ w' = w := by
 refine callsD_of_wpS Tryz.func103 rfl fun c₀ cs hu => ?_
 apply wpS_seq
 apply wpS_region
 simp [wpOpsS, go_sem, recoverD, hu, Tryz.ntmps103, Exit.thenS]
 refine wpS_of_wp ?_
 rw [show (#[Value.pointer (some p)] ++ (Array.replicate 11 undef).setIfInBounds 3 Value.nilIface : Array Value) = #[.pointer (some p), undef, undef, undef, .nilIface, undef, undef, undef, undef, undef, undef, undef] from rfl]
 go_wp2_with fail
 all_goals (cases c₀; simp_all [bodyPostS, results, Tryz.results103])
set_option maxHeartbeats 1000000 in
set_option maxRecDepth 100000 in
theorem tcaughtat_no (g : FuncId) (qs : Array Value) (hg : ∀ W, Sem.run Tryz.prog (callFunc g qs) W = .ok (.enter g qs) W) (line why : Int) (w : World)
  (CG : Hid (∀ W, Below w.heap.size w W → Calls Tryz.prog g qs W fun e w' => e = .panicked (gvL line why) ∧ Below W.heap.size W w')) :
  Calls Tryz.prog 82 #[.func (Fn.func g) #[] qs] w fun e w' => e = .returned (.tuple #[.slice none 0 0, .agg #[.int .i64 line, .int .i64 why]]) ∧ Below w.heap.size w w' := by
 have hmf : ∀ (fn : Fn) (first cap : Array Value) (w : World), (Instr.makeFunc fn first cap).run Tryz.prog w = .ok (.func fn first cap) w := fun _ _ _ _ => rfl
 go_enter_defers Tryz.func82, Tryz.ntmps82
 go_wp2_with fail
 refine (CG.out _ ((Below.refl _ _).alloc (Nat.le_refl _) _)).mono ?_; rintro e w1 ⟨rfl, b1⟩
 have B1 := Lib.hid (below_step ((Below.refl _ _).alloc (Nat.le_refl _) _) b1)
 have Q1 : Bk2 w1 w.heap.size (.int .i64 0) (.int .i64 0) := Bk2.of b1 (by simp) (by intro j; simp [go_sem]) (by simp [go_sem]) (by simp [go_sem])
 clear b1
 have c_b := Q1.hb; have c_f := Q1.fz; have c_0 := Q1.k0; have c_1 := Q1.k1
 clear Q1
 refine (show bodyPostD _ _ _ (Exit.panic (gvL line why)) _ _ from ?_)
 refine leaves_cons (f := 103) (args := #[.pointer (some ⟨w.heap.size, 0, none⟩)]) (by simp) (by simp [go_sem]) ?_
 refine (gvt_catch w.heap.size 0 0 line why [] _ c_b c_0 c_1 c_f).mono ?_
 rintro e u' w'' ⟨rfl, rfl, rfl⟩
 simp [Leaves, settle, results, Tryz.results82, go_sem, c_b, c_0, c_1, c_f]
 clear c_b c_f c_0 c_1
 refine Below.alloc (Below.setCell (Below.setCell B1.out (Nat.le_refl _) _) (Nat.le_refl _) _) (by simp; exact B1.out.size) _
set_option maxHeartbeats 1000000 in
set_option maxRecDepth 100000 in
theorem tcaught_no (g : FuncId) (qs : Array Value) (hg : ∀ W, Sem.run Tryz.prog (callFunc g qs) W = .ok (.enter g qs) W) (line why : Int) (w : World)
  (CG : Hid (∀ W, Below w.heap.size w W → Calls Tryz.prog g qs W fun e w' => e = .panicked (gvL line why) ∧ Below W.heap.size W w')) :
  Calls Tryz.prog 50 #[.func (Fn.func g) #[] qs] w fun e w' => e = .returned (.tuple #[.slice none 0 0, .int .i64 why]) ∧ Below w.heap.size w w' := by
 go_enter Tryz.func50, Tryz.ntmps50
 go_wp2_with fail
 refine (tcaughtat_no g qs hg line why _ CG).mono ?_; rintro e w1 ⟨rfl, b1⟩
 have B1 := Lib.hid b1
 clear b1
 go_wp2_with fail
 go_quiet (fail)
 go_wp2_with fail
 go_ret2
 exact ⟨rfl, by repeat (first | exact B1.out | refine _root_.Go.below_drewN ?_ _ | refine Below.drew ?_ | refine Below.setCell ?_ (by first | omega | (simp; done) | (simp; exact B1.out.size) | (simp; omega)) _ | refine Below.alloc ?_ (by first | exact B1.out.size | omega | (simp; done) | (simp; omega)) _)⟩
end Go.Proofs.YtbcbggdbojonmaaGreatDoor
set_option linter.unusedVariables false
set_option linter.unusedSimpArgs false
namespace Go.Proofs.YtbcbggdbojonmaaGreatDoor
open Go.RowKit Go.Sort
set_option maxRecDepth 100000 in
theorem fd_callFn (qs : Array Value) (W : World) : Sem.run Tryz.prog (callFunc 51 qs) W = .ok (.enter 51 qs) W := rfl
theorem own_room {w : World} {base : Nat} {e : TypeId} {v : Value} {N : Nat} {xs : List Value} {size : Nat} (h : w.ownsRow base e size v N xs) : ∃ A c, v = .slice A N c ∧ N ≤ c := by
 rcases h.2 with ⟨rfl, rfl⟩ | ⟨g, cap, cur, rfl, _, _, hnc, _⟩
 ·
  exact ⟨_, _, rfl, Nat.le_refl _⟩
 ·
  exact ⟨_, _, rfl, hnc⟩
def AnsFR (P : List (List UInt8) × Int) (w : World) (e : Ending) (w' : World) : Prop := ∃ (A : Option Addr) (n c : Nat) (l : List ByteArray), n ≤ c ∧ StS w' (.slice A n c) l ∧ l.map (·.data.toList) = P.1 ∧ e = .returned (.tuple #[.slice A n c, .int .i64 P.2]) ∧ Below w.heap.size w w'
theorem AnsFR.ans {P : List (List UInt8) × Int} {w w' : World} {e : Ending} (h : AnsFR P w e w') : AnsF P w e w' := by
 obtain ⟨A, n, c, l, _, h1, h2, h3, h4⟩ := h
 exact ⟨_, l, h1, h2, h3, h4⟩
end Go.Proofs.YtbcbggdbojonmaaGreatDoor
set_option linter.unusedVariables false
set_option linter.unusedSimpArgs false
namespace Go.Proofs.YtbcbggdbojonmaaGreatDoor
open Go.RowKit
set_option maxHeartbeats 1000000 in
set_option maxRecDepth 100000 in
theorem tcaughtat_room (g : FuncId) (qs : Array Value) (hg : ∀ W, Sem.run Tryz.prog (callFunc g qs) W = .ok (.enter g qs) W) (P : List (List UInt8)) (w : World)
  (CG : Hid (∀ W, Below w.heap.size w W → Calls Tryz.prog g qs W fun e w' => ∃ (v : Value) (l : List ByteArray), StO W.heap.size w' v l ∧ (∃ A n c, v = .slice A n c ∧ n ≤ c) ∧ l.map (·.data.toList) = P ∧ e = .returned v ∧ Below W.heap.size W w')) :
  Calls Tryz.prog 82 #[.func (Fn.func g) #[] qs] w fun e w' => ∃ (v : Value) (l : List ByteArray), StS w' v l ∧ (∃ A n c, v = .slice A n c ∧ n ≤ c) ∧ l.map (·.data.toList) = P ∧ e = .returned (.tuple #[v, .agg #[.int .i64 0, .int .i64 0]]) ∧ Below w.heap.size w w' := by
 have hmf : ∀ (fn : Fn) (first cap : Array Value) (w : World), (Instr.makeFunc fn first cap).run Tryz.prog w = .ok (.func fn first cap) w := fun _ _ _ _ => rfl
 go_enter_defers Tryz.func82, Tryz.ntmps82
 go_wp2_with fail
 refine (CG.out _ ((Below.refl _ _).alloc (Nat.le_refl _) _)).mono ?_; rintro e w1 ⟨v, l, hst, hrm, hlp, rfl, b1⟩
 have HRM := Lib.hid hrm; clear hrm
 have HST := Lib.hid hst; have HLP := Lib.hid hlp
 clear hlp
 obtain ⟨A, c, rfl, -⟩ := hst
 have B1 := Lib.hid (below_step ((Below.refl _ _).alloc (Nat.le_refl _) _) b1)
 have Q1 : Bk2 w1 w.heap.size (.int .i64 0) (.int .i64 0) := Bk2.of b1 (by simp) (by intro j; simp [go_sem]) (by simp [go_sem]) (by simp [go_sem])
 clear b1
 have c_b := Q1.hb; have c_f := Q1.fz; have c_0 := Q1.k0; have c_1 := Q1.k1
 clear Q1
 go_wp2_with fail
 refine leaves_cons (f := 103) (args := #[.pointer (some ⟨w.heap.size, 0, none⟩)]) (by simp) (by simp [go_sem]) ?_
 refine (gvt_idle ⟨w.heap.size, 0, none⟩ _).mono ?_
 rintro e u' w'' ⟨rfl, rfl, rfl⟩
 simp [Leaves, settle, results, Tryz.results82, go_sem, c_b, c_0, c_1, c_f]
 clear c_b c_f c_0 c_1
 refine ⟨_, l, StO.st (StO.turn (StO.turn HST.out (Nat.le_of_eq (set_size ..).symm) (fun i h1 h2 => set_block _ _ _ _ ?_)) (Nat.le_of_eq (set_size ..).symm) (fun i h1 h2 => set_block _ _ _ _ ?_)), HRM.out, HLP.out, rfl, ?_⟩
 ·
  simp at h1; show w.heap.size ≠ i; omega
 ·
  simp at h1; show w.heap.size ≠ i; omega
 ·
  repeat (refine Below.setCell ?_ (by first | omega | (simp; done) | (simp; omega)) _)
  exact B1.out
set_option maxHeartbeats 1000000 in
set_option maxRecDepth 100000 in
theorem tcaught_room (g : FuncId) (qs : Array Value) (hg : ∀ W, Sem.run Tryz.prog (callFunc g qs) W = .ok (.enter g qs) W) (P : List (List UInt8)) (w : World)
  (CG : Hid (∀ W, Below w.heap.size w W → Calls Tryz.prog g qs W fun e w' => ∃ (v : Value) (l : List ByteArray), StO W.heap.size w' v l ∧ (∃ A n c, v = .slice A n c ∧ n ≤ c) ∧ l.map (·.data.toList) = P ∧ e = .returned v ∧ Below W.heap.size W w')) :
  Calls Tryz.prog 50 #[.func (Fn.func g) #[] qs] w (AnsFR (P, 0) w) := by
 go_enter Tryz.func50, Tryz.ntmps50
 go_wp2_with fail
 refine (tcaughtat_room g qs hg P _ CG).mono ?_; rintro e w1 ⟨v, l, hst, hrm, hlp, rfl, b1⟩
 obtain ⟨A, n, c, rfl, hnc⟩ := hrm
 have HNC := Lib.hid hnc; clear hnc
 have HST := Lib.hid hst; have HLP := Lib.hid hlp
 clear hst hlp
 have B1 := Lib.hid b1
 clear b1
 go_wp2_with fail
 go_quiet (fail)
 go_wp2_with fail
 go_ret2
 refine ⟨A, n, c, l, HNC.out, HST.out.on ?_, HLP.out, rfl, below_step B1.out ?_⟩
 all_goals (repeat (first | refine _root_.Go.below_drewN ?_ _ | refine Below.drew ?_ | refine Below.setCell ?_ (by first | omega | (simp; done) | (simp; omega)) _ | refine Below.alloc ?_ (by first | omega | (simp; done) | (simp; omega)) _ | exact Below.refl _ _))
end Go.Proofs.YtbcbggdbojonmaaGreatDoor
set_option linter.unusedVariables false
set_option linter.unusedSimpArgs false
namespace Go.Proofs.YtbcbggdbojonmaaGreatDoor
open Go.RowKit Go.Sort
set_option maxHeartbeats 1000000 in
set_option maxRecDepth 100000 in
theorem of1_room (b : Nat) (s : ByteArray) (w : World) (hc : w.cell? ⟨b, 0, none⟩ = some (.string s)) (hs : s.size ≤ 100000000) :
  Calls Tryz.prog 51 #[.pointer (some ⟨b, 0, none⟩)] w fun e w' => Below w.heap.size w w' ∧ (((Fd.of s.data.toList).2 = 0 ∧ ∃ (v : Value) (l : List ByteArray), StO w.heap.size w' v l ∧ (∃ A n c, v = .slice A n c ∧ n ≤ c) ∧ l.map (·.data.toList) = (Fd.of s.data.toList).1 ∧ e = .returned v) ∨ ((Fd.of s.data.toList).2 ≠ 0 ∧ e = .panicked (gvP (Fd.of s.data.toList).2))) := by
 have C := Lib.hid (fun b W H => cfields_any b s W H hs)
 unfold AnsCs at C
 generalize Fd.of s.data.toList = R at C ⊢
 clear hs
 go_enter Tryz.func51, Tryz.ntmps51
 go_wp2_with fail
 have hk : Bk1 (w.alloc (.cells #[.string s] 91)) w.heap.size (.string s) := ⟨by simp, fun j => by simp [go_sem], by simp [go_sem]⟩
 have hB : Below w.heap.size w (w.alloc (.cells #[.string s] 91)) := (Below.refl _ _).alloc (Nat.le_refl _) _
 refine (C.out _ _ hk).mono ?_; rintro e w1 ⟨g1, h1⟩
 have hsz := hB.size
 have hz : w.heap.size ≤ (w.alloc (.cells #[.string s] 91)).heap.size := hsz
 have B1 := Lib.hid (hB.trans (grown_at g1 hz))
 rcases h1 with ⟨h0, v, l, own, hl, rfl⟩ | ⟨h0, rfl⟩
 ·
  have ST := Lib.hid (StO.own own hz)
  have RM := Lib.hid (own_room own)
  have HL := Lib.hid hl
  clear own hl g1 hB hk
  go_wp2_with fail
  go_ret
  obtain ⟨A9, c9, e9, k9⟩ := RM.out
  exact ⟨B1.out, .inl ⟨h0, v, l, ST.out, ⟨A9, _, c9, e9, k9⟩, HL.out, rfl⟩⟩
 ·
  refine (show bodyPost _ _ _ (Exit.panic (gvP R.2)) _ _ from ?_)
  simp [bodyPost]
  exact ⟨B1.out, h0⟩
set_option maxHeartbeats 1000000 in
set_option maxRecDepth 100000 in
theorem fof_room (s : ByteArray) (w : World) (hs : s.size ≤ 100000000) :
  Calls Tryz.prog 20 #[.string s] w (AnsFR (Fd.of s.data.toList) w) := by
 have C := Lib.hid (fun b W hc => of1_room b s W hc hs)
 have hR : (Fd.of s.data.toList).2 ≠ 0 → (Fd.of s.data.toList).1 = [] := by
  unfold Fd.of
  generalize Fd.go [] [] false false s.data.toList = o
  cases o with
  | none => intro _; rfl
  | some P =>
   rw [Fd.told_some]
   split
   ·
    intro _; rfl
   ·
    intro h; exact absurd rfl h
 generalize Fd.of s.data.toList = R at C hR ⊢
 obtain ⟨P, why⟩ := R
 by_cases h0 : why = 0
 ·
  subst h0
  have T := Lib.hid (fun b W (hc : W.cell? ⟨b, 0, none⟩ = some (.string s)) => tcaught_room 51 #[.pointer (some ⟨b, 0, none⟩)] (fd_callFn _) P W (Lib.hid fun W' hB => (C.out b W' (fd_keep hc hB)).mono (by
   rintro e w' ⟨h1, ⟨-, v, l, h2, hr, h3, h4⟩ | ⟨h2, -⟩⟩
   ·
    exact ⟨v, l, h2, hr, h3, h4, h1⟩
   ·
    exact absurd rfl h2)))
  clear C hR
  go_enter Tryz.func20, Tryz.ntmps20
  go_wp2_with fail
  refine (T.out _ _ (by simp [go_sem])).mono ?_; rintro e w1 ⟨A, n, c, l, hnc, hst, hl, rfl, b1⟩
  have HNC := Lib.hid hnc; clear hnc
  have ST := Lib.hid hst; have HL := Lib.hid hl
  have B1 := Lib.hid (below_step ((Below.refl _ _).alloc (Nat.le_refl _) _) b1)
  clear hst hl b1
  go_wp2_with fail
  go_ret2
  exact ⟨A, n, c, l, HNC.out, ST.out, HL.out, rfl, B1.out⟩
 ·
  have hP : P = [] := hR h0
  subst hP
  have T := Lib.hid (fun b W (hc : W.cell? ⟨b, 0, none⟩ = some (.string s)) => tcaught_no 51 #[.pointer (some ⟨b, 0, none⟩)] (fd_callFn _) 0 why W (Lib.hid fun W' hB => (C.out b W' (fd_keep hc hB)).mono (by
   rintro e w' ⟨h1, ⟨h2, -⟩ | ⟨h2, h3⟩⟩
   ·
    exact absurd h2 h0
   ·
    exact ⟨h3, h1⟩)))
  clear C hR
  go_enter Tryz.func20, Tryz.ntmps20
  go_wp2_with fail
  refine (T.out _ _ (by simp [go_sem])).mono ?_; rintro e w1 ⟨rfl, b1⟩
  have B1 := Lib.hid (below_step ((Below.refl _ _).alloc (Nat.le_refl _) _) b1)
  clear b1
  go_wp2_with fail
  go_ret2
  exact ⟨none, 0, 0, [], Nat.le_refl _, StS.nil _, rfl, rfl, B1.out⟩
end Go.Proofs.YtbcbggdbojonmaaGreatDoor
set_option linter.unusedVariables false
set_option linter.unusedSimpArgs false
namespace Go.Proofs.YtbcbggdbojonmaaGreatDoor
open Go.RowKit
namespace Num
end Num
end Go.Proofs.YtbcbggdbojonmaaGreatDoor
