/- Joined: GvC, GvD, YrA, WdD. -/
import Derived.Test.YtedbohfcbfegjaaGreatDoorBe13
import Derived.Test.YtedbohfcbfegjaaGreatDoorBe09
import Derived.Test.YtedbohfcbfegjaaGreatDoorBe12
/- giveup.CaughtAt at int: its deferred closure. -/
set_option linter.unusedVariables false
set_option linter.unusedSimpArgs false
namespace Go.Proofs.YtedbohfcbfegjaaGreatDoor
open Go.RowKit

set_option maxRecDepth 100000 in
theorem gvi_catch (b : Nat) (x y line why : Int) (older : List PanicEntry) (w : World) (hb : b < w.heap.size) (hc : w.cell? ⟨b, 0, none⟩ = some (.int .i64 x)) (hd : w.cell? ⟨b, 1, none⟩ = some (.int .i64 y)) (hz : ∀ j, w.frozen? ⟨b, j, none⟩ = false) :
    CallsD Tryz.prog 195 #[.pointer (some ⟨b, 0, none⟩)] (.panicking ({ v := gvV line why, recovered := false } :: older)) w fun e u' w' =>
      e = .returned (.tuple #[]) ∧ u' = .panicking ({ v := gvV line why, recovered := true } :: older) ∧ w' = ((w.setCell ⟨b, 0, none⟩ (.int .i64 line)).setCell ⟨b, 1, none⟩ (.int .i64 why)).alloc (.cells #[.int .i64 line, .int .i64 why] 128) := by
  unfold gvV
  have hta := fun W => gv_assert line why W
  refine callsD_of_wpS Tryz.func195 rfl fun c₀ cs hu => ?_
  apply wpS_seq
  apply wpS_region
  simp [wpOpsS, go_sem, recoverD, hu, Tryz.ntmps195, Exit.thenS]
  refine wpS_of_wp ?_
  rw [show (#[Value.pointer (some ⟨b, 0, none⟩)] ++ (Array.replicate 11 undef).setIfInBounds 3 (Value.iface 128 (Value.agg #[Value.int IntKind.i64 line, Value.int IntKind.i64 why])) : Array Value) = #[.pointer (some ⟨b, 0, none⟩), undef, undef, undef, .iface 128 (.agg #[.int .i64 line, .int .i64 why]), undef, undef, undef, undef, undef, undef, undef] from rfl]
  have n1 : b ≠ w.heap.size := Nat.ne_of_lt hb
  have n2 : w.heap.size ≠ b := Nat.ne_of_gt hb
  go_wp2_with fail
  all_goals (cases c₀; simp_all [bodyPostS, results, Tryz.results195])
theorem gvi_idle (p : Addr) (w : World) :
    CallsD Tryz.prog 195 #[.pointer (some p)] .returning w fun e u' w' => e = .returned (.tuple #[]) ∧ u' = .returning ∧ w' = w := by
  refine callsD_of_wpS Tryz.func195 rfl fun c₀ cs hu => ?_
  apply wpS_seq
  apply wpS_region
  simp [wpOpsS, go_sem, recoverD, hu, Tryz.ntmps195, Exit.thenS]
  refine wpS_of_wp ?_
  rw [show (#[Value.pointer (some p)] ++ (Array.replicate 11 undef).setIfInBounds 3 Value.nilIface : Array Value) = #[.pointer (some p), undef, undef, undef, .nilIface, undef, undef, undef, undef, undef, undef, undef] from rfl]
  go_wp2_with fail
  all_goals (cases c₀; simp_all [bodyPostS, results, Tryz.results195])
end Go.Proofs.YtedbohfcbfegjaaGreatDoor

/- giveup.Caught at int, over any closure: what it answers, or why it gave up. -/
set_option linter.unusedVariables false
set_option linter.unusedSimpArgs false
namespace Go.Proofs.YtedbohfcbfegjaaGreatDoor
open Go.RowKit

set_option maxHeartbeats 1000000 in
set_option maxRecDepth 100000 in
theorem icaughtat_yes (g : FuncId) (qs : Array Value) (hg : ∀ W, Sem.run Tryz.prog (callFunc g qs) W = .ok (.enter g qs) W) (v : Int) (w : World)
    (CG : Hid (∀ W, Below w.heap.size w W → Calls Tryz.prog g qs W fun e w' => e = .returned (.int .i64 v) ∧ Below W.heap.size W w')) :
    Calls Tryz.prog 167 #[.func (Fn.func g) #[] qs] w fun e w' => e = .returned (.tuple #[.int .i64 v, .agg #[.int .i64 0, .int .i64 0]]) ∧ Below w.heap.size w w' := by
  have hmf : ∀ (fn : Fn) (first cap : Array Value) (w : World), (Instr.makeFunc fn first cap).run Tryz.prog w = .ok (.func fn first cap) w := fun _ _ _ _ => rfl
  go_enter_defers Tryz.func167, Tryz.ntmps167
  go_wp2_with fail
  refine (CG.out _ ((Below.refl _ _).alloc (Nat.le_refl _) _)).mono ?_; rintro e w1 ⟨rfl, b1⟩
  have B1 := Lib.hid (below_step ((Below.refl _ _).alloc (Nat.le_refl _) _) b1)
  have Q1 : Bk2 w1 w.heap.size (.int .i64 0) (.int .i64 0) := Bk2.of b1 (by simp) (by intro j; simp [go_sem]) (by simp [go_sem]) (by simp [go_sem])
  clear b1
  have c_b := Q1.hb; have c_f := Q1.fz; have c_0 := Q1.k0; have c_1 := Q1.k1
  clear Q1
  go_wp2_with fail
  refine leaves_cons (f := 195) (args := #[.pointer (some ⟨w.heap.size, 0, none⟩)]) (by simp) (by simp [go_sem]) ?_
  refine (gvi_idle ⟨w.heap.size, 0, none⟩ _).mono ?_
  rintro e u' w'' ⟨rfl, rfl, rfl⟩
  simp [Leaves, settle, results, Tryz.results167, go_sem, c_b, c_0, c_1, c_f]
  clear c_b c_f c_0 c_1
  repeat (refine Below.setCell ?_ (by first | omega | (simp; done) | (simp; omega)) _)
  exact B1.out
set_option maxHeartbeats 1000000 in
set_option maxRecDepth 100000 in
theorem icaughtat_no (g : FuncId) (qs : Array Value) (hg : ∀ W, Sem.run Tryz.prog (callFunc g qs) W = .ok (.enter g qs) W) (line why : Int) (w : World)
    (CG : Hid (∀ W, Below w.heap.size w W → Calls Tryz.prog g qs W fun e w' => e = .panicked (gvL line why) ∧ Below W.heap.size W w')) :
    Calls Tryz.prog 167 #[.func (Fn.func g) #[] qs] w fun e w' => e = .returned (.tuple #[.int .i64 0, .agg #[.int .i64 line, .int .i64 why]]) ∧ Below w.heap.size w w' := by
  have hmf : ∀ (fn : Fn) (first cap : Array Value) (w : World), (Instr.makeFunc fn first cap).run Tryz.prog w = .ok (.func fn first cap) w := fun _ _ _ _ => rfl
  go_enter_defers Tryz.func167, Tryz.ntmps167
  go_wp2_with fail
  refine (CG.out _ ((Below.refl _ _).alloc (Nat.le_refl _) _)).mono ?_; rintro e w1 ⟨rfl, b1⟩
  have B1 := Lib.hid (below_step ((Below.refl _ _).alloc (Nat.le_refl _) _) b1)
  have Q1 : Bk2 w1 w.heap.size (.int .i64 0) (.int .i64 0) := Bk2.of b1 (by simp) (by intro j; simp [go_sem]) (by simp [go_sem]) (by simp [go_sem])
  clear b1
  have c_b := Q1.hb; have c_f := Q1.fz; have c_0 := Q1.k0; have c_1 := Q1.k1
  clear Q1
  refine (show bodyPostD _ _ _ (Exit.panic (gvL line why)) _ _ from ?_)
  refine leaves_cons (f := 195) (args := #[.pointer (some ⟨w.heap.size, 0, none⟩)]) (by simp) (by simp [go_sem]) ?_
  refine (gvi_catch w.heap.size 0 0 line why [] _ c_b c_0 c_1 c_f).mono ?_
  rintro e u' w'' ⟨rfl, rfl, rfl⟩
  simp [Leaves, settle, results, Tryz.results167, go_sem, c_b, c_0, c_1, c_f]
  clear c_b c_f c_0 c_1
  refine Below.alloc (Below.setCell (Below.setCell B1.out (Nat.le_refl _) _) (Nat.le_refl _) _) (by simp; exact B1.out.size) _
set_option maxHeartbeats 1000000 in
set_option maxRecDepth 100000 in
theorem icaught_yes (g : FuncId) (qs : Array Value) (hg : ∀ W, Sem.run Tryz.prog (callFunc g qs) W = .ok (.enter g qs) W) (v : Int) (w : World)
    (CG : Hid (∀ W, Below w.heap.size w W → Calls Tryz.prog g qs W fun e w' => e = .returned (.int .i64 v) ∧ Below W.heap.size W w')) :
    Calls Tryz.prog 126 #[.func (Fn.func g) #[] qs] w fun e w' => e = .returned (.tuple #[.int .i64 v, .int .i64 0]) ∧ Below w.heap.size w w' := by
  go_enter Tryz.func126, Tryz.ntmps126
  go_wp2_with fail
  refine (icaughtat_yes g qs hg v _ CG).mono ?_; rintro e w1 ⟨rfl, b1⟩
  have B1 := Lib.hid b1
  clear b1
  go_wp2_with fail
  go_quiet (fail)
  go_wp2_with fail
  go_ret2
  exact ⟨rfl, by repeat (first | exact B1.out | refine below_drewN ?_ _ | refine Below.drew ?_ | refine Below.setCell ?_ (by first | omega | (simp; done) | (simp; exact B1.out.size) | (simp; omega)) _ | refine Below.alloc ?_ (by first | exact B1.out.size | omega | (simp; done) | (simp; omega)) _)⟩
set_option maxHeartbeats 1000000 in
set_option maxRecDepth 100000 in
theorem icaught_no (g : FuncId) (qs : Array Value) (hg : ∀ W, Sem.run Tryz.prog (callFunc g qs) W = .ok (.enter g qs) W) (line why : Int) (w : World)
    (CG : Hid (∀ W, Below w.heap.size w W → Calls Tryz.prog g qs W fun e w' => e = .panicked (gvL line why) ∧ Below W.heap.size W w')) :
    Calls Tryz.prog 126 #[.func (Fn.func g) #[] qs] w fun e w' => e = .returned (.tuple #[.int .i64 0, .int .i64 why]) ∧ Below w.heap.size w w' := by
  go_enter Tryz.func126, Tryz.ntmps126
  go_wp2_with fail
  refine (icaughtat_no g qs hg line why _ CG).mono ?_; rintro e w1 ⟨rfl, b1⟩
  have B1 := Lib.hid b1
  clear b1
  go_wp2_with fail
  go_quiet (fail)
  go_wp2_with fail
  go_ret2
  exact ⟨rfl, by repeat (first | exact B1.out | refine below_drewN ?_ _ | refine Below.drew ?_ | refine Below.setCell ?_ (by first | omega | (simp; done) | (simp; exact B1.out.size) | (simp; omega)) _ | refine Below.alloc ?_ (by first | exact B1.out.size | omega | (simp; done) | (simp; omega)) _)⟩
end Go.Proofs.YtedbohfcbfegjaaGreatDoor

/- Years: what stands in their place, in plain lists; isNumber, number, word. -/
set_option linter.unusedVariables false
set_option linter.unusedSimpArgs false
namespace Go.Proofs.YtedbohfcbfegjaaGreatDoor
open Go.RowKit Go.Sort

namespace Yr
def starts : List UInt8 := [45, 48, 49, 50, 51, 52, 53, 54, 55, 56, 57]
/-- Does it begin as a number? -/
def isN (l : List UInt8) : Bool := match l with | [] => false | c :: _ => starts.contains c
theorem isN_ix (l : List UInt8) : isN l = (Lib.indexAny l starts == 0) := by
  cases l with
  | nil => rfl
  | cons c r =>
    show starts.contains c = _
    unfold Lib.indexAny
    cases h : starts.contains c
    · have := Lib.indexAny_ge starts r
      rw [if_neg (by decide)]
      split
      · rfl
      · symm; rw [beq_eq_false_iff_ne]; rename_i hh; have : Lib.indexAny r starts ≠ -1 := by simpa using hh
        omega
    · rfl
def inY (n : Int) : Bool := decide (-32767 ≤ n) && decide (n ≤ 32767)
/-- The number that a text means, the error's. -/
def num (l : List UInt8) : Int × Int := if (Num.rd l).2 = 0 then (if inY (Num.rd l).1 then ((Num.rd l).1, 0) else (0, 1)) else (0, (Num.rd l).2)
def names : List ByteArray := [⟨#[109, 105, 110, 105, 109, 117, 109]⟩, ⟨#[109, 97, 120, 105, 109, 117, 109]⟩, ⟨#[111, 110, 108, 121]⟩]
def word (l : List UInt8) : Int × Int := Wd.mat l names
/-- A first year. -/
def fr (l : List UInt8) : Int × Int := if isN l then num l else if (word l).2 = 0 then (if (word l).1 = 0 then (-32767, 0) else (0, 3)) else (0, (word l).2)
/-- A last one, the order apart. -/
def la (l : List UInt8) (f : Int) : Int × Int := if isN l then num l else if (word l).2 = 0 then (if (word l).1 = 0 then (0, 3) else if (word l).1 = 1 then (32767, 0) else (f, 0)) else (0, (word l).2)
def to (l : List UInt8) (f : Int) : Int × Int := if (la l f).2 = 0 then (if f ≤ (la l f).1 then ((la l f).1, 0) else (0, 14)) else (0, (la l f).2)
end Yr
theorem yisn_any (s : ByteArray) (w : World) (hs : s.size ≤ 1000) :
    Calls Tryz.prog 128 #[.string s] w fun e w' => e = .returned (.bool (Yr.isN s.data.toList)) ∧ Below w.heap.size w w' := by
  have e := Yr.isN_ix s.data.toList
  have C : Hid (∀ W, Calls Tryz.prog 158 #[.string s, .string ⟨#[45, 48, 49, 50, 51, 52, 53, 54, 55, 56, 57]⟩] W fun e w' => e = .returned (.int .i64 (Lib.indexAny s.data.toList Yr.starts)) ∧ Below W.heap.size W w') := fun W => ixany s ⟨#[45, 48, 49, 50, 51, 52, 53, 54, 55, 56, 57]⟩ W (by decide) (by omega) (by decide) (by decide)
  generalize Lib.indexAny s.data.toList Yr.starts = j at e C
  rw [e]
  clear e
  go_enter Tryz.func128, Tryz.ntmps128
  go_wp2_with fail
  refine (C.out _).mono ?_; rintro e w1 ⟨rfl, b1⟩
  have d1 : Below w.heap.size w w1 := below_step (by repeat (first | exact Below.refl _ _ | refine below_drewN ?_ _ | refine Below.drew ?_ | refine Below.setCell ?_ (by first | (simp; done) | (simp; omega) | omega) _ | refine Below.alloc ?_ (by first | (simp; done) | (simp; omega) | omega) _)) b1
  have B1 := Lib.hid d1
  clear b1 d1
  go_wp2_with fail
  go_ret
  exact ⟨rfl, (by have hz := B1.out.size; repeat (first | exact B1.out | refine below_drewN ?_ _ | refine Below.drew ?_ | refine Below.setCell ?_ (by first | omega | (simp; done) | (simp; omega)) _ | refine Below.alloc ?_ (by first | omega | (simp; done) | (simp; omega)) _))⟩
theorem yin_any (n : Int) (w : World) : Calls Tryz.prog 98 #[.int .i64 n] w fun e w' => e = .returned (.bool (Yr.inY n)) ∧ w = w' := by
  unfold Yr.inY
  by_cases h1 : -32767 ≤ n
  · go_enter Tryz.func98, Tryz.ntmps98
    go_wp2_with fail
    go_ret
    exact ⟨by simp [h1], rfl⟩
  · rw [decide_eq_false h1]
    go_enter Tryz.func98, Tryz.ntmps98
    go_wp2_with fail
    go_ret
    exact ⟨rfl, rfl⟩
theorem ynum_yes (s : ByteArray) (v : Int) (w : World) (hs : s.size ≤ 1000) (tp : TypeId) (p : Value) (hv : w.var? Tryz.prog "strconv.ErrRange" = some #[.iface tp p]) (h : Yr.num s.data.toList = (v, 0)) :
    Calls Tryz.prog 129 #[.string s] w fun e w' => e = .returned (.int .i64 v) ∧ Below w.heap.size w w' := by
  have C := read_any s w hs tp p hv
  unfold Yr.num at h
  generalize (Num.rd s.data.toList).1 = x at C h
  generalize (Num.rd s.data.toList).2 = q at C h
  have hq : q = 0 := by
    by_cases hq : q = 0
    · exact hq
    · rw [if_neg hq] at h; exact congrArg Prod.snd h
  subst hq
  rw [if_pos rfl] at h
  have hin : Yr.inY x = true := by
    cases hi : Yr.inY x
    · rw [hi] at h; exact absurd (congrArg Prod.snd h) (by simp)
    · rfl
  rw [hin] at h
  obtain rfl : x = v := congrArg Prod.fst h
  have CI := Lib.hid (fun W => yin_any x W)
  rw [hin] at CI
  clear h hin
  go_enter Tryz.func129, Tryz.ntmps129
  go_wp2_with fail
  refine (C).mono ?_; rintro e w1 ⟨rfl, b1⟩
  have d1 : Below w.heap.size w w1 := below_step (by repeat (first | exact Below.refl _ _ | refine below_drewN ?_ _ | refine Below.drew ?_ | refine Below.setCell ?_ (by first | (simp; done) | (simp; omega) | omega) _ | refine Below.alloc ?_ (by first | (simp; done) | (simp; omega) | omega) _)) b1
  have B1 := Lib.hid d1
  clear b1 d1
  go_wp2_with fail
  refine (must_yes x _).mono ?_; rintro e v1 ⟨rfl, rfl⟩
  go_wp2_with fail
  refine (CI.out _).mono ?_; rintro e v2 ⟨rfl, rfl⟩
  go_wp2_with fail
  refine (need_yes 1 _).mono ?_; rintro e v3 ⟨rfl, rfl⟩
  go_wp2_with fail
  go_ret
  exact ⟨rfl, by first | exact B1.out | (repeat (first | exact B1.out | refine below_drewN ?_ _ | refine Below.drew ?_))⟩
theorem ynum_no (s : ByteArray) (q : Int) (w : World) (hs : s.size ≤ 1000) (tp : TypeId) (p : Value) (hv : w.var? Tryz.prog "strconv.ErrRange" = some #[.iface tp p]) (h : (Yr.num s.data.toList).2 = q) (hq : q ≠ 0) :
    Calls Tryz.prog 129 #[.string s] w fun e w' => e = .panicked (gvP q) ∧ Below w.heap.size w w' := by
  have C := read_any s w hs tp p hv
  unfold Yr.num at h
  generalize (Num.rd s.data.toList).1 = x at C h
  generalize (Num.rd s.data.toList).2 = q2 at C h
  by_cases hz : q2 = 0
  · subst hz
    rw [if_pos rfl] at h
    have hin : Yr.inY x = false := by
      cases hi : Yr.inY x
      · rfl
      · rw [hi] at h; exact absurd h.symm hq
    rw [hin] at h
    obtain rfl : 1 = q := h
    have CI := Lib.hid (fun W => yin_any x W)
    rw [hin] at CI
    clear hin hq
    go_enter Tryz.func129, Tryz.ntmps129
    go_wp2_with fail
    refine (C).mono ?_; rintro e w1 ⟨rfl, b1⟩
    have d1 : Below w.heap.size w w1 := below_step (by repeat (first | exact Below.refl _ _ | refine below_drewN ?_ _ | refine Below.drew ?_ | refine Below.setCell ?_ (by first | (simp; done) | (simp; omega) | omega) _ | refine Below.alloc ?_ (by first | (simp; done) | (simp; omega) | omega) _)) b1
    have B1 := Lib.hid d1
    clear b1 d1
    go_wp2_with fail
    refine (must_yes x _).mono ?_; rintro e v1 ⟨rfl, rfl⟩
    go_wp2_with fail
    refine (CI.out _).mono ?_; rintro e v2 ⟨rfl, rfl⟩
    go_wp2_with fail
    refine (need_no 1 _).mono ?_; rintro e w5 ⟨rfl, rfl⟩
    refine (show bodyPost _ _ _ (Exit.panic (gvP 1)) _ _ from ?_)
    exact ⟨rfl, rfl, B1.out⟩
  · rw [if_neg hz] at h
    obtain rfl : q2 = q := h
    go_enter Tryz.func129, Tryz.ntmps129
    go_wp2_with fail
    refine (C).mono ?_; rintro e w1 ⟨rfl, b1⟩
    have d1 : Below w.heap.size w w1 := below_step (by repeat (first | exact Below.refl _ _ | refine below_drewN ?_ _ | refine Below.drew ?_ | refine Below.setCell ?_ (by first | (simp; done) | (simp; omega) | omega) _ | refine Below.alloc ?_ (by first | (simp; done) | (simp; omega) | omega) _)) b1
    have B1 := Lib.hid d1
    clear b1 d1
    go_wp2_with fail
    refine (must_no x q2 _ hq).mono ?_; rintro e w5 ⟨rfl, rfl⟩
    refine (show bodyPost _ _ _ (Exit.panic (gvP q2)) _ _ from ?_)
    exact ⟨rfl, rfl, B1.out⟩
theorem names_st (W : World) (t : TypeId) : StS (W.alloc (.cells #[.string ⟨#[109, 105, 110, 105, 109, 117, 109]⟩, .string ⟨#[109, 97, 120, 105, 109, 117, 109]⟩, .string ⟨#[111, 110, 108, 121]⟩] t)) (.slice (some ⟨W.heap.size, 0, none⟩) 3 3) Yr.names := by
  refine ⟨some ⟨W.heap.size, 0, none⟩, 3, rfl, fun _ => ⟨_, rfl, by simp, ?_⟩⟩
  intro j u hj
  match j, hj with
  | 0, hj => rw [← (Option.some.inj hj)]; simp [go_sem]
  | 1, hj => rw [← (Option.some.inj hj)]; simp [go_sem]
  | 2, hj => rw [← (Option.some.inj hj)]; simp [go_sem]
  | (j + 3), hj => simp [Yr.names] at hj
theorem ymat (s : ByteArray) (hs : s.size ≤ 1000) : ∃ k q, Yr.word s.data.toList = (k, q) ∧ (q = 0 ∨ q = 3) ∧ (0 ≤ k ∧ k ≤ 3) ∧ Hid (∀ (W : World) (t : TypeId), Calls Tryz.prog 133 #[.string s, .slice (some ⟨W.heap.size, 0, none⟩) 3 3] (W.alloc (.cells #[.string ⟨#[109, 105, 110, 105, 109, 117, 109]⟩, .string ⟨#[109, 97, 120, 105, 109, 117, 109]⟩, .string ⟨#[111, 110, 108, 121]⟩] t)) fun e w' => e = .returned (.tuple #[.int .i64 k, .int .i64 q]) ∧ ∃ n, w' = (W.alloc (.cells #[.string ⟨#[109, 105, 110, 105, 109, 117, 109]⟩, .string ⟨#[109, 97, 120, 105, 109, 117, 109]⟩, .string ⟨#[111, 110, 108, 121]⟩] t)).drewN n) := by
  obtain ⟨b0, b1, b2⟩ := Wd.mat_bd s.data.toList Yr.names
  refine ⟨(Wd.mat s.data.toList Yr.names).1, (Wd.mat s.data.toList Yr.names).2, rfl, ?_, ⟨b0, b1⟩, fun W t => ?_⟩
  · rcases b2 with h | ⟨h, _⟩
    · exact .inl h
    · exact .inr h
  · exact match_any s _ Yr.names _ (names_st W t) (by unfold maxLen; omega) (by decide) (by decide)
set_option maxHeartbeats 1000000 in
theorem yword_yes (s : ByteArray) (k : Int) (w : World) (hs : s.size ≤ 1000) (h : Yr.word s.data.toList = (k, 0)) :
    Calls Tryz.prog 130 #[.string s] w fun e w' => e = .returned (.int .i64 k) ∧ Below w.heap.size w w' := by
  obtain ⟨k2, q2, e, -, -, C⟩ := ymat s hs
  rw [h] at e
  obtain ⟨rfl, rfl⟩ : k = k2 ∧ (0 : Int) = q2 := ⟨congrArg Prod.fst e, congrArg Prod.snd e⟩
  clear h e
  go_enter Tryz.func130, Tryz.ntmps130
  go_wp2_with fail
  refine (C.out w _).mono ?_; rintro e w1 ⟨rfl, n, rfl⟩
  go_wp2_with fail
  refine (muti_yes k _).mono ?_; rintro e w2 ⟨rfl, rfl⟩
  go_wp2_with fail
  go_ret
  exact ⟨rfl, below_new _ _ _⟩
set_option maxHeartbeats 1000000 in
theorem yword_no (s : ByteArray) (q : Int) (w : World) (hs : s.size ≤ 1000) (h : (Yr.word s.data.toList).2 = q) (hq : q ≠ 0) :
    Calls Tryz.prog 130 #[.string s] w fun e w' => e = .panicked (gvP q) ∧ Below w.heap.size w w' := by
  obtain ⟨k2, q2, e, -, -, C⟩ := ymat s hs
  rw [e] at h
  obtain rfl : q2 = q := h
  clear e
  go_enter Tryz.func130, Tryz.ntmps130
  go_wp2_with fail
  refine (C.out w _).mono ?_; rintro e w1 ⟨rfl, n, rfl⟩
  go_wp2_with fail
  refine (muti_no k2 q2 _ hq).mono ?_; rintro e w2 ⟨rfl, rfl⟩
  refine (show bodyPost _ _ _ (Exit.panic (gvP q2)) _ _ from ?_)
  exact ⟨rfl, rfl, below_new _ _ _⟩
end Go.Proofs.YtedbohfcbfegjaaGreatDoor

/- Words of week days: the table, Weekday, WeekdayText (where months are not there). -/
set_option linter.unusedVariables false
set_option linter.unusedSimpArgs false
namespace Go.Proofs.YtedbohfcbfegjaaGreatDoor
open Go.RowKit Go.Sort

/-- The week days' table lies in memory as it is written. -/
structure Wd.DTabs (w : World) : Prop where
  d0 : w.cell? ⟨2, 0, none⟩ = some (.string ⟨#[83, 117, 110, 100, 97, 121]⟩)
  d1 : w.cell? ⟨2, 1, none⟩ = some (.string ⟨#[77, 111, 110, 100, 97, 121]⟩)
  d2 : w.cell? ⟨2, 2, none⟩ = some (.string ⟨#[84, 117, 101, 115, 100, 97, 121]⟩)
  d3 : w.cell? ⟨2, 3, none⟩ = some (.string ⟨#[87, 101, 100, 110, 101, 115, 100, 97, 121]⟩)
  d4 : w.cell? ⟨2, 4, none⟩ = some (.string ⟨#[84, 104, 117, 114, 115, 100, 97, 121]⟩)
  d5 : w.cell? ⟨2, 5, none⟩ = some (.string ⟨#[70, 114, 105, 100, 97, 121]⟩)
  d6 : w.cell? ⟨2, 6, none⟩ = some (.string ⟨#[83, 97, 116, 117, 114, 100, 97, 121]⟩)
theorem Wd.DTabs.on {w w' : World} (h : Wd.DTabs w) (k : Below w.heap.size w w') : Wd.DTabs w' := ⟨(k.cell (World.block_lt_of_cell? _ _ h.d0)).trans h.d0, (k.cell (World.block_lt_of_cell? _ _ h.d1)).trans h.d1, (k.cell (World.block_lt_of_cell? _ _ h.d2)).trans h.d2, (k.cell (World.block_lt_of_cell? _ _ h.d3)).trans h.d3, (k.cell (World.block_lt_of_cell? _ _ h.d4)).trans h.d4, (k.cell (World.block_lt_of_cell? _ _ h.d5)).trans h.d5, (k.cell (World.block_lt_of_cell? _ _ h.d6)).trans h.d6⟩
set_option maxHeartbeats 2000000 in
set_option maxRecDepth 100000 in
theorem wday_any (s : ByteArray) (w : World) (hs : s.size ≤ maxLen) (T : Wd.DTabs w) :
    Calls Tryz.prog 200 #[.string s] w fun e w' => e = .returned (.tuple #[.int .i64 (Wd.mat s.data.toList Wd.days).1, .int .i64 (Wd.mat s.data.toList Wd.days).2]) ∧ Below w.heap.size w w' := by
  have t_d0 := T.d0
  have t_d1 := T.d1
  have t_d2 := T.d2
  have t_d3 := T.d3
  have t_d4 := T.d4
  have t_d5 := T.d5
  have t_d6 := T.d6
  have SZ : ∀ x ∈ Wd.days, x.size ≤ maxLen := by unfold Wd.days maxLen; intro x hx; simp at hx; rcases hx with rfl | rfl | rfl | rfl | rfl | rfl | rfl <;> decide
  have ST : StS (w.alloc (.cells #[.string ⟨#[83, 117, 110, 100, 97, 121]⟩, .string ⟨#[77, 111, 110, 100, 97, 121]⟩, .string ⟨#[84, 117, 101, 115, 100, 97, 121]⟩, .string ⟨#[87, 101, 100, 110, 101, 115, 100, 97, 121]⟩, .string ⟨#[84, 104, 117, 114, 115, 100, 97, 121]⟩, .string ⟨#[70, 114, 105, 100, 97, 121]⟩, .string ⟨#[83, 97, 116, 117, 114, 100, 97, 121]⟩] 147)) (.slice (some ⟨w.heap.size, 0, none⟩) 7 7) Wd.days :=
    ⟨_, _, rfl, fun _ => ⟨_, rfl, by simp, by
      intro j u hj
      have hl : j < 7 := by
        have := (List.getElem?_eq_some_iff.1 hj).1
        simpa [Wd.days] using this
      obtain rfl | rfl | rfl | rfl | rfl | rfl | rfl : j = 0 ∨ j = 1 ∨ j = 2 ∨ j = 3 ∨ j = 4 ∨ j = 5 ∨ j = 6 := by omega
      all_goals (simp [Wd.days] at hj; subst hj; simp [Addr.add, go_sem])⟩⟩
  have HS := Lib.hid ST; clear ST
  have HM := Lib.hid (fun W (h : StS W (.slice (some ⟨w.heap.size, 0, none⟩) 7 7) Wd.days) => match_any s _ Wd.days W h hs SZ (by unfold maxLen; decide))
  have bd := Wd.mat_bd s.data.toList Wd.days
  have ln : Wd.days.length = 7 := rfl
  rw [ln] at bd
  clear SZ T ln
  generalize Wd.mat s.data.toList Wd.days = ans at HM bd ⊢
  obtain ⟨p, q⟩ := ans
  dsimp only at HM bd ⊢
  obtain ⟨p0, p1, hq⟩ := bd
  go_enter Tryz.func200, Tryz.ntmps200
  go_wp2_with fail
  refine (HM.out _ HS.out).mono ?_; rintro e w1 ⟨rfl, j, rfl⟩
  go_wp2_with fail
  go_ret2
  exact ⟨rfl, below_drewN ((Below.refl _ _).alloc (Nat.le_refl _) _) _⟩
set_option maxHeartbeats 4000000 in
set_option maxRecDepth 100000 in
theorem wdtx_any (n : Int) (w : World) (T : Wd.DTabs w) :
    Calls Tryz.prog 101 #[.int .i64 n] w fun e w' => e = .returned (.string (Wd.t3 Wd.days (n - 0))) ∧ Below w.heap.size w w' := by
  by_cases h : 0 ≤ n ∧ n ≤ 6
  · obtain rfl | rfl | rfl | rfl | rfl | rfl | rfl : n = 0 ∨ n = 1 ∨ n = 2 ∨ n = 3 ∨ n = 4 ∨ n = 5 ∨ n = 6 := by omega
    · have t := T.d0
      clear T
      go_enter Tryz.func101, Tryz.ntmps101
      go_wp2
      go_ret
      exact ⟨rfl, Below.refl _ _⟩
    · have t := T.d1
      clear T
      go_enter Tryz.func101, Tryz.ntmps101
      go_wp2
      go_ret
      exact ⟨rfl, Below.refl _ _⟩
    · have t := T.d2
      clear T
      go_enter Tryz.func101, Tryz.ntmps101
      go_wp2
      go_ret
      exact ⟨rfl, Below.refl _ _⟩
    · have t := T.d3
      clear T
      go_enter Tryz.func101, Tryz.ntmps101
      go_wp2
      go_ret
      exact ⟨rfl, Below.refl _ _⟩
    · have t := T.d4
      clear T
      go_enter Tryz.func101, Tryz.ntmps101
      go_wp2
      go_ret
      exact ⟨rfl, Below.refl _ _⟩
    · have t := T.d5
      clear T
      go_enter Tryz.func101, Tryz.ntmps101
      go_wp2
      go_ret
      exact ⟨rfl, Below.refl _ _⟩
    · have t := T.d6
      clear T
      go_enter Tryz.func101, Tryz.ntmps101
      go_wp2
      go_ret
      exact ⟨rfl, Below.refl _ _⟩
  · rw [show Wd.t3 Wd.days (n - 0) = ByteArray.empty by unfold Wd.t3; rw [if_neg]; rw [show (Wd.days.length : Int) = 7 from rfl]; omega]
    clear T
    by_cases c1 : n < 0
    · go_enter Tryz.func101, Tryz.ntmps101
      go_wp2
      go_ret
      exact ⟨rfl, Below.refl _ _⟩
    · have c2 : 6 < n := by omega
      go_enter Tryz.func101, Tryz.ntmps101
      go_wp2
      go_ret
      exact ⟨rfl, Below.refl _ _⟩
end Go.Proofs.YtedbohfcbfegjaaGreatDoor
