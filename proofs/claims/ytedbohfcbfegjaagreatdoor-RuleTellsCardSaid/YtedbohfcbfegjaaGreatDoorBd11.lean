/- Joined: DsA, DsB. -/
import Derived.Test.YtedbohfcbfegjaaGreatDoorBd10
/- Names of days: what they mean, in plain lists; day, weekday, beginsLast, withSign. -/
set_option linter.unusedVariables false
set_option linter.unusedSimpArgs false
namespace Go.Proofs.YtedbohfcbfegjaaGreatDoor
open Go.RowKit Go.Sort

namespace Ds
def inD (n : Int) : Bool := decide (1 ≤ n) && decide (n ≤ 31)
def day (l : List UInt8) : Int × Int := if (Num.rd l).2 = 0 then (if inD (Num.rd l).1 then ((Num.rd l).1, 0) else (0, 1)) else (0, (Num.rd l).2)
def wd (l : List UInt8) : Int × Int := Wd.mat l Wd.days
def bl (l : List UInt8) : Bool := decide (4 ≤ l.length) && Wd.same (l.take 4) [108, 97, 115, 116]
/-- A sign's name: the week day ahead, the day behind. -/
def sw (k : Int) (a n : List UInt8) : Int × Int × Int × Int := if (wd a).2 = 0 then (if (day n).2 = 0 then (k, (wd a).1, (day n).1, 0) else (0, 0, 0, (day n).2)) else (0, 0, 0, (wd a).2)
def ws (a g : List UInt8) : Int × Int × Int × Int := if Lib.hasPrefix g [62, 61] then sw 2 a (Lib.trimPrefix g [62, 61]) else if Lib.hasPrefix g [60, 61] then sw 3 a (Lib.trimPrefix g [60, 61]) else (0, 0, 0, 4)
def rd (l : List UInt8) : Int × Int × Int × Int :=
  if 0 ≤ Lib.indexAny l [60, 62] then ws (l.take (Lib.indexAny l [60, 62]).toNat) (l.drop (Lib.indexAny l [60, 62]).toNat)
  else if Yr.isN l then (if (day l).2 = 0 then (0, 0, (day l).1, 0) else (0, 0, 0, (day l).2))
  else if bl l then (if (wd (l.drop 4)).2 = 0 then (1, (wd (l.drop 4)).1, 0, 0) else (0, 0, 0, (wd (l.drop 4)).2)) else (0, 0, 0, 4)
end Ds
theorem dday_yes (s : ByteArray) (v : Int) (w : World) (hs : s.size ≤ 1000) (tp : TypeId) (p : Value) (hv : w.var? Tryz.prog "strconv.ErrRange" = some #[.iface tp p]) (h : Ds.day s.data.toList = (v, 0)) :
    Calls Tryz.prog 173 #[.string s] w fun e w' => e = .returned (.int .i64 v) ∧ Below w.heap.size w w' := by
  have C := read_any s w hs tp p hv
  unfold Ds.day at h
  generalize (Num.rd s.data.toList).1 = x at C h
  generalize (Num.rd s.data.toList).2 = q at C h
  have hq : q = 0 := by
    by_cases hq : q = 0
    · exact hq
    · rw [if_neg hq] at h; exact congrArg Prod.snd h
  subst hq
  rw [if_pos rfl] at h
  have hin : Ds.inD x = true := by
    cases hi : Ds.inD x
    · rw [hi] at h; exact absurd (congrArg Prod.snd h) (by simp)
    · rfl
  rw [hin] at h
  obtain rfl : x = v := congrArg Prod.fst h
  unfold Ds.inD at hin
  rw [Bool.and_eq_true, decide_eq_true_eq, decide_eq_true_eq] at hin
  obtain ⟨h1, h2⟩ := hin
  clear h
  go_enter Tryz.func173, Tryz.ntmps173
  go_wp2_with fail
  refine (C).mono ?_; rintro e w1 ⟨rfl, b1⟩
  have d1 : Below w.heap.size w w1 := below_step (by repeat (first | exact Below.refl _ _ | refine below_drewN ?_ _ | refine Below.drew ?_ | refine Below.setCell ?_ (by first | (simp; done) | (simp; omega) | omega) _ | refine Below.alloc ?_ (by first | (simp; done) | (simp; omega) | omega) _)) b1
  have B1 := Lib.hid d1
  clear b1 d1
  go_wp2_with fail
  refine (must_yes x _).mono ?_; rintro e v1 ⟨rfl, rfl⟩
  go_wp2_with fail
  refine (need_yes 1 _).mono ?_; rintro e v2 ⟨rfl, rfl⟩
  go_wp2_with fail
  go_ret
  exact ⟨rfl, by first | exact B1.out | (repeat (first | exact B1.out | refine below_drewN ?_ _ | refine Below.drew ?_))⟩
theorem dday_no (s : ByteArray) (q : Int) (w : World) (hs : s.size ≤ 1000) (tp : TypeId) (p : Value) (hv : w.var? Tryz.prog "strconv.ErrRange" = some #[.iface tp p]) (h : (Ds.day s.data.toList).2 = q) (hq : q ≠ 0) :
    Calls Tryz.prog 173 #[.string s] w fun e w' => e = .panicked (gvP q) ∧ Below w.heap.size w w' := by
  have C := read_any s w hs tp p hv
  unfold Ds.day at h
  generalize (Num.rd s.data.toList).1 = x at C h
  generalize (Num.rd s.data.toList).2 = q2 at C h
  by_cases hz : q2 = 0
  · subst hz
    rw [if_pos rfl] at h
    have hin : Ds.inD x = false := by
      cases hi : Ds.inD x
      · rfl
      · rw [hi] at h; exact absurd h.symm hq
    rw [hin] at h
    obtain rfl : 1 = q := h
    have hc : ¬ 1 ≤ x ∨ (1 ≤ x ∧ ¬ x ≤ 31) := by
      unfold Ds.inD at hin
      by_cases a : 1 ≤ x
      · right; refine ⟨a, fun b => ?_⟩
        rw [decide_eq_true a, decide_eq_true b] at hin; exact absurd hin (by decide)
      · exact .inl a
    clear hin hq
    rcases hc with c | ⟨c, c2⟩
    · have g : decide (1 ≤ x) = false := decide_eq_false c
      clear c
      go_enter Tryz.func173, Tryz.ntmps173
      go_wp2_with fail
      refine (C).mono ?_; rintro e w1 ⟨rfl, b1⟩
      have d1 : Below w.heap.size w w1 := below_step (by repeat (first | exact Below.refl _ _ | refine below_drewN ?_ _ | refine Below.drew ?_ | refine Below.setCell ?_ (by first | (simp; done) | (simp; omega) | omega) _ | refine Below.alloc ?_ (by first | (simp; done) | (simp; omega) | omega) _)) b1
      have B1 := Lib.hid d1
      clear b1 d1
      go_wp2_with fail
      refine (must_yes x _).mono ?_; rintro e v1 ⟨rfl, rfl⟩
      go_wp2_with fail
      refine (need_no 1 _).mono ?_; rintro e w5 ⟨rfl, rfl⟩
      refine (show bodyPost _ _ _ (Exit.panic (gvP 1)) _ _ from ?_)
      exact ⟨rfl, rfl, B1.out⟩
    · have g : decide (x ≤ 31) = false := decide_eq_false c2
      clear c2
      go_enter Tryz.func173, Tryz.ntmps173
      go_wp2_with fail
      refine (C).mono ?_; rintro e w1 ⟨rfl, b1⟩
      have d1 : Below w.heap.size w w1 := below_step (by repeat (first | exact Below.refl _ _ | refine below_drewN ?_ _ | refine Below.drew ?_ | refine Below.setCell ?_ (by first | (simp; done) | (simp; omega) | omega) _ | refine Below.alloc ?_ (by first | (simp; done) | (simp; omega) | omega) _)) b1
      have B1 := Lib.hid d1
      clear b1 d1
      go_wp2_with fail
      refine (must_yes x _).mono ?_; rintro e v1 ⟨rfl, rfl⟩
      go_wp2_with fail
      refine (need_no 1 _).mono ?_; rintro e w5 ⟨rfl, rfl⟩
      refine (show bodyPost _ _ _ (Exit.panic (gvP 1)) _ _ from ?_)
      exact ⟨rfl, rfl, B1.out⟩
  · rw [if_neg hz] at h
    obtain rfl : q2 = q := h
    go_enter Tryz.func173, Tryz.ntmps173
    go_wp2_with fail
    refine (C).mono ?_; rintro e w1 ⟨rfl, b1⟩
    have d1 : Below w.heap.size w w1 := below_step (by repeat (first | exact Below.refl _ _ | refine below_drewN ?_ _ | refine Below.drew ?_ | refine Below.setCell ?_ (by first | (simp; done) | (simp; omega) | omega) _ | refine Below.alloc ?_ (by first | (simp; done) | (simp; omega) | omega) _)) b1
    have B1 := Lib.hid d1
    clear b1 d1
    go_wp2_with fail
    refine (must_no x q2 _ hq).mono ?_; rintro e w5 ⟨rfl, rfl⟩
    refine (show bodyPost _ _ _ (Exit.panic (gvP q2)) _ _ from ?_)
    exact ⟨rfl, rfl, B1.out⟩
theorem dweek_yes (s : ByteArray) (k : Int) (w : World) (hs : s.size ≤ maxLen) (T : Wd.DTabs w) (h : Ds.wd s.data.toList = (k, 0)) :
    Calls Tryz.prog 175 #[.string s] w fun e w' => e = .returned (.int .i64 k) ∧ Below w.heap.size w w' := by
  have C := wday_any s w hs T
  have h2 : Wd.mat s.data.toList Wd.days = (k, 0) := h
  rw [h2] at C
  clear T h h2
  go_enter Tryz.func175, Tryz.ntmps175
  go_wp2_with fail
  refine (C).mono ?_; rintro e w1 ⟨rfl, b1⟩
  have d1 : Below w.heap.size w w1 := below_step (by repeat (first | exact Below.refl _ _ | refine below_drewN ?_ _ | refine Below.drew ?_ | refine Below.setCell ?_ (by first | (simp; done) | (simp; omega) | omega) _ | refine Below.alloc ?_ (by first | (simp; done) | (simp; omega) | omega) _)) b1
  have B1 := Lib.hid d1
  clear b1 d1
  go_wp2_with fail
  refine (muti_yes k _).mono ?_; rintro e v1 ⟨rfl, rfl⟩
  go_wp2_with fail
  go_ret
  exact ⟨rfl, (by have hz := B1.out.size; repeat (first | exact B1.out | refine below_drewN ?_ _ | refine Below.drew ?_ | refine Below.setCell ?_ (by first | omega | (simp; done) | (simp; omega)) _ | refine Below.alloc ?_ (by first | omega | (simp; done) | (simp; omega)) _))⟩
theorem dweek_no (s : ByteArray) (q : Int) (w : World) (hs : s.size ≤ maxLen) (T : Wd.DTabs w) (h : (Ds.wd s.data.toList).2 = q) (hq : q ≠ 0) :
    Calls Tryz.prog 175 #[.string s] w fun e w' => e = .panicked (gvP q) ∧ Below w.heap.size w w' := by
  have C := wday_any s w hs T
  have h2 : (Wd.mat s.data.toList Wd.days).2 = q := h
  rw [h2] at C
  generalize (Wd.mat s.data.toList Wd.days).1 = k at C
  clear T h h2
  go_enter Tryz.func175, Tryz.ntmps175
  go_wp2_with fail
  refine (C).mono ?_; rintro e w1 ⟨rfl, b1⟩
  have d1 : Below w.heap.size w w1 := below_step (by repeat (first | exact Below.refl _ _ | refine below_drewN ?_ _ | refine Below.drew ?_ | refine Below.setCell ?_ (by first | (simp; done) | (simp; omega) | omega) _ | refine Below.alloc ?_ (by first | (simp; done) | (simp; omega) | omega) _)) b1
  have B1 := Lib.hid d1
  clear b1 d1
  go_wp2_with fail
  refine (muti_no k q _ hq).mono ?_; rintro e w5 ⟨rfl, rfl⟩
  refine (show bodyPost _ _ _ (Exit.panic (gvP q)) _ _ from ?_)
  exact ⟨rfl, rfl, B1.out⟩
set_option maxRecDepth 100000 in
theorem dbl_any (s : ByteArray) (w : World) (hs : s.size ≤ maxLen) :
    Calls Tryz.prog 174 #[.string s] w fun e w' => e = .returned (.bool (Ds.bl s.data.toList)) ∧ Below w.heap.size w w' := by
  have hl := ab_len s
  unfold Ds.bl
  rw [hl]
  by_cases h : 4 ≤ s.size
  · have h2 : (s.extract 0 4).data.toList = s.data.toList.take 4 := by
      rw [ByteArray.data_extract, Array.toList_extract]
      simp
    have sl : ∀ W, Sem.run Tryz.prog (Instr.slice 9 (.string s) none (some (.int .i64 4)) none) W = .ok (.string (s.extract 0 4)) W := fun W => by
      rw [run_slice_string_h W 9 s Tryz.underlying9 .i64 _ (by omega) (by omega)]; rfl
    have C := Lib.hid (fun W => wsame_any (s.extract 0 4) ⟨#[108, 97, 115, 116]⟩ W (by rw [ByteArray.size_extract]; unfold maxLen; omega) (by decide))
    rw [decide_eq_true h, ← h2]
    have h4 : (4 : Int) ≤ (s.size : Int) := by omega
    have e : ([108, 97, 115, 116] : List UInt8) = (⟨#[108, 97, 115, 116]⟩ : ByteArray).data.toList := rfl
    rw [e]
    generalize hg : Wd.same (s.extract 0 4).data.toList (⟨#[108, 97, 115, 116]⟩ : ByteArray).data.toList = g at *
    generalize s.extract 0 4 = X at *
    clear h2 h hg e
    go_enter Tryz.func174, Tryz.ntmps174
    go_wp2_with fail
    refine (C.out _).mono ?_; rintro e v1 ⟨rfl, j1, rfl⟩
    go_wp2_with fail
    go_ret
    exact ⟨rfl, (by repeat (first | exact Below.refl _ _ | refine below_drewN ?_ _ | refine Below.drew ?_ | refine Below.setCell ?_ (by first | (simp; done) | (simp; omega) | omega) _ | refine Below.alloc ?_ (by first | (simp; done) | (simp; omega) | omega) _))⟩
  · rw [decide_eq_false h]
    have h4 : decide ((4 : Int) ≤ (s.size : Int)) = false := decide_eq_false (by omega)
    clear h
    go_enter Tryz.func174, Tryz.ntmps174
    go_wp2_with fail
    go_ret
    exact ⟨rfl, Below.refl _ _⟩
end Go.Proofs.YtedbohfcbfegjaaGreatDoor

/- Names of days: withSign, read, Read. -/
set_option linter.unusedVariables false
set_option linter.unusedSimpArgs false
namespace Go.Proofs.YtedbohfcbfegjaaGreatDoor
open Go.RowKit Go.Sort

set_option maxHeartbeats 2000000 in
set_option maxRecDepth 100000 in
theorem dws_wno1 (a g N1 N2 : ByteArray) (p1 p2 : Bool) (k d q : Int) (w : World) (tp : TypeId) (p : Value) (hv : w.var? Tryz.prog "strconv.ErrRange" = some #[.iface tp p]) (T : Wd.DTabs w) (C1 : Hid (∀ W, Calls Tryz.prog 140 #[.string g, .string ⟨#[62, 61]⟩] W fun e w' => e = .returned (.tuple #[.string N1, .bool p1]) ∧ W = w')) (C2 : Hid (∀ W, Calls Tryz.prog 140 #[.string g, .string ⟨#[60, 61]⟩] W fun e w' => e = .returned (.tuple #[.string N2, .bool p2]) ∧ W = w')) (h1 : p1 = true) (CW : Hid (∀ W, Wd.DTabs W → Calls Tryz.prog 175 #[.string a] W fun e w' => e = .panicked (gvP q) ∧ Below W.heap.size W w')) :
    Calls Tryz.prog 172 #[.string a, .string g] w fun e w' => e = .panicked (gvP q) ∧ Below w.heap.size w w' := by
  have T0 := Lib.hid T; clear T
  have V0 := Lib.hid hv; clear hv
  subst h1
  go_enter Tryz.func172, Tryz.ntmps172
  go_wp2_with fail
  refine (C1.out _).mono ?_; rintro e v1 ⟨rfl, rfl⟩
  go_wp2_with fail
  refine (need_yes 4 _).mono ?_; rintro e v2 ⟨rfl, rfl⟩
  go_wp2_with fail
  refine (CW.out _ (T0.out.on (by repeat (first | exact Below.refl _ _ | refine below_drewN ?_ _ | refine Below.drew ?_ | refine Below.setCell ?_ (by first | (simp; done) | (simp; omega) | omega) _ | refine Below.alloc ?_ (by first | (simp; done) | (simp; omega) | omega) _)))).mono ?_; rintro e w1 ⟨rfl, b1⟩
  refine (show bodyPost _ _ _ (Exit.panic (gvP q)) _ _ from ?_)
  exact ⟨rfl, rfl, below_step (by repeat (first | exact Below.refl _ _ | refine below_drewN ?_ _ | refine Below.drew ?_ | refine Below.setCell ?_ (by first | (simp; done) | (simp; omega) | omega) _ | refine Below.alloc ?_ (by first | (simp; done) | (simp; omega) | omega) _)) b1⟩
set_option maxHeartbeats 2000000 in
set_option maxRecDepth 100000 in
theorem dws_dno1 (a g N1 N2 : ByteArray) (p1 p2 : Bool) (k d q : Int) (w : World) (tp : TypeId) (p : Value) (hv : w.var? Tryz.prog "strconv.ErrRange" = some #[.iface tp p]) (T : Wd.DTabs w) (C1 : Hid (∀ W, Calls Tryz.prog 140 #[.string g, .string ⟨#[62, 61]⟩] W fun e w' => e = .returned (.tuple #[.string N1, .bool p1]) ∧ W = w')) (C2 : Hid (∀ W, Calls Tryz.prog 140 #[.string g, .string ⟨#[60, 61]⟩] W fun e w' => e = .returned (.tuple #[.string N2, .bool p2]) ∧ W = w')) (h1 : p1 = true) (CW : Hid (∀ W, Wd.DTabs W → Calls Tryz.prog 175 #[.string a] W fun e w' => e = .returned (.int .i64 k) ∧ Below W.heap.size W w')) (CD : Hid (∀ W, W.var? Tryz.prog "strconv.ErrRange" = some #[.iface tp p] → Calls Tryz.prog 173 #[.string N1] W fun e w' => e = .panicked (gvP q) ∧ Below W.heap.size W w')) :
    Calls Tryz.prog 172 #[.string a, .string g] w fun e w' => e = .panicked (gvP q) ∧ Below w.heap.size w w' := by
  have T0 := Lib.hid T; clear T
  have V0 := Lib.hid hv; clear hv
  subst h1
  go_enter Tryz.func172, Tryz.ntmps172
  go_wp2_with fail
  refine (C1.out _).mono ?_; rintro e v1 ⟨rfl, rfl⟩
  go_wp2_with fail
  refine (need_yes 4 _).mono ?_; rintro e v2 ⟨rfl, rfl⟩
  go_wp2_with fail
  refine (CW.out _ (T0.out.on (by repeat (first | exact Below.refl _ _ | refine below_drewN ?_ _ | refine Below.drew ?_ | refine Below.setCell ?_ (by first | (simp; done) | (simp; omega) | omega) _ | refine Below.alloc ?_ (by first | (simp; done) | (simp; omega) | omega) _)))).mono ?_; rintro e w1 ⟨rfl, b1⟩
  have d1 : Below w.heap.size w w1 := below_step (by repeat (first | exact Below.refl _ _ | refine below_drewN ?_ _ | refine Below.drew ?_ | refine Below.setCell ?_ (by first | (simp; done) | (simp; omega) | omega) _ | refine Below.alloc ?_ (by first | (simp; done) | (simp; omega) | omega) _)) b1
  have B1 := Lib.hid d1
  have R1 : Bk3 w1 (w.heap.size) (.int .i64 0) (.int .i64 0) (.int .i64 0) := Bk3.of b1 (by simp <;> omega) (by intro j; simp [go_sem]) (by simp [go_sem]) (by simp [go_sem]) (by simp [go_sem])
  have O1 : Bk3 w1 (w.heap.size + 1) (.int .i64 2) (.int .i64 0) (.int .i64 0) := Bk3.of b1 (by simp <;> omega) (by intro j; simp [go_sem]) (by simp [go_sem]) (by simp [go_sem]) (by simp [go_sem])
  clear b1 d1
  have cR_b := R1.hb
  have cR_f := R1.fz
  have cR_0 := R1.k0
  have cR_1 := R1.k1
  have cR_2 := R1.k2
  have cO_b := O1.hb
  have cO_f := O1.fz
  have cO_0 := O1.k0
  have cO_1 := O1.k1
  have cO_2 := O1.k2
  go_wp2_with fail
  refine (CD.out _ (var_keep (by have hz := B1.out.size; repeat (first | exact B1.out | refine below_drewN ?_ _ | refine Below.drew ?_ | refine Below.setCell ?_ (by first | omega | (simp; done) | (simp; omega)) _)) V0.out)).mono ?_; rintro e w9 ⟨rfl, b9⟩
  clear cR_b cR_f cR_0 cR_1 cR_2 cO_b cO_f cO_0 cO_1 cO_2
  refine (show bodyPost _ _ _ (Exit.panic (gvP q)) _ _ from ?_)
  have hz := B1.out.size
  have b8 := below_step B1.out (Below.refl _ _)
  exact ⟨rfl, rfl, below_step (by repeat (first | exact B1.out | refine below_drewN ?_ _ | refine Below.drew ?_ | refine Below.setCell ?_ (by first | omega | (simp; done) | (simp; omega)) _ | refine Below.alloc ?_ (by first | omega | (simp; done) | (simp; omega)) _)) b9⟩
set_option maxHeartbeats 2000000 in
set_option maxRecDepth 100000 in
theorem dws_yes1 (a g N1 N2 : ByteArray) (p1 p2 : Bool) (k d q : Int) (w : World) (tp : TypeId) (p : Value) (hv : w.var? Tryz.prog "strconv.ErrRange" = some #[.iface tp p]) (T : Wd.DTabs w) (C1 : Hid (∀ W, Calls Tryz.prog 140 #[.string g, .string ⟨#[62, 61]⟩] W fun e w' => e = .returned (.tuple #[.string N1, .bool p1]) ∧ W = w')) (C2 : Hid (∀ W, Calls Tryz.prog 140 #[.string g, .string ⟨#[60, 61]⟩] W fun e w' => e = .returned (.tuple #[.string N2, .bool p2]) ∧ W = w')) (h1 : p1 = true) (CW : Hid (∀ W, Wd.DTabs W → Calls Tryz.prog 175 #[.string a] W fun e w' => e = .returned (.int .i64 k) ∧ Below W.heap.size W w')) (CD : Hid (∀ W, W.var? Tryz.prog "strconv.ErrRange" = some #[.iface tp p] → Calls Tryz.prog 173 #[.string N1] W fun e w' => e = .returned (.int .i64 d) ∧ Below W.heap.size W w')) :
    Calls Tryz.prog 172 #[.string a, .string g] w fun e w' => e = .returned (.agg #[.int .i64 2, .int .i64 k, .int .i64 d]) ∧ Below w.heap.size w w' := by
  have T0 := Lib.hid T; clear T
  have V0 := Lib.hid hv; clear hv
  subst h1
  go_enter Tryz.func172, Tryz.ntmps172
  go_wp2_with fail
  refine (C1.out _).mono ?_; rintro e v1 ⟨rfl, rfl⟩
  go_wp2_with fail
  refine (need_yes 4 _).mono ?_; rintro e v2 ⟨rfl, rfl⟩
  go_wp2_with fail
  refine (CW.out _ (T0.out.on (by repeat (first | exact Below.refl _ _ | refine below_drewN ?_ _ | refine Below.drew ?_ | refine Below.setCell ?_ (by first | (simp; done) | (simp; omega) | omega) _ | refine Below.alloc ?_ (by first | (simp; done) | (simp; omega) | omega) _)))).mono ?_; rintro e w1 ⟨rfl, b1⟩
  have d1 : Below w.heap.size w w1 := below_step (by repeat (first | exact Below.refl _ _ | refine below_drewN ?_ _ | refine Below.drew ?_ | refine Below.setCell ?_ (by first | (simp; done) | (simp; omega) | omega) _ | refine Below.alloc ?_ (by first | (simp; done) | (simp; omega) | omega) _)) b1
  have B1 := Lib.hid d1
  have R1 : Bk3 w1 (w.heap.size) (.int .i64 0) (.int .i64 0) (.int .i64 0) := Bk3.of b1 (by simp <;> omega) (by intro j; simp [go_sem]) (by simp [go_sem]) (by simp [go_sem]) (by simp [go_sem])
  have O1 : Bk3 w1 (w.heap.size + 1) (.int .i64 2) (.int .i64 0) (.int .i64 0) := Bk3.of b1 (by simp <;> omega) (by intro j; simp [go_sem]) (by simp [go_sem]) (by simp [go_sem]) (by simp [go_sem])
  clear b1 d1
  have cR_b := R1.hb
  have cR_f := R1.fz
  have cR_0 := R1.k0
  have cR_1 := R1.k1
  have cR_2 := R1.k2
  have cO_b := O1.hb
  have cO_f := O1.fz
  have cO_0 := O1.k0
  have cO_1 := O1.k1
  have cO_2 := O1.k2
  go_wp2_with fail
  refine (CD.out _ (var_keep (by have hz := B1.out.size; repeat (first | exact B1.out | refine below_drewN ?_ _ | refine Below.drew ?_ | refine Below.setCell ?_ (by first | omega | (simp; done) | (simp; omega)) _)) V0.out)).mono ?_; rintro e w2 ⟨rfl, b2⟩
  have hz := B1.out.size
  have B2 := Lib.hid (show Below w.heap.size w w2 from below_step (by repeat (first | exact B1.out | refine below_drewN ?_ _ | refine Below.drew ?_ | refine Below.setCell ?_ (by simp <;> omega) _ | refine Below.alloc ?_ (by simp <;> omega) _)) b2)
  have R2 : Bk3 w2 (w.heap.size) (.int .i64 0) (.int .i64 0) (.int .i64 0) := Bk3.of b2 (by simp <;> omega) (by intro j; simp [go_sem, cR_b, cR_f, cR_0, cR_1, cR_2, cO_b, cO_f, cO_0, cO_1, cO_2]) (by simp [go_sem, cR_b, cR_f, cR_0, cR_1, cR_2, cO_b, cO_f, cO_0, cO_1, cO_2]) (by simp [go_sem, cR_b, cR_f, cR_0, cR_1, cR_2, cO_b, cO_f, cO_0, cO_1, cO_2]) (by simp [go_sem, cR_b, cR_f, cR_0, cR_1, cR_2, cO_b, cO_f, cO_0, cO_1, cO_2])
  have O2 : Bk3 w2 (w.heap.size + 1) (.int .i64 2) (.int .i64 k) (.int .i64 0) := Bk3.of b2 (by simp <;> omega) (by intro j; simp [go_sem, cR_b, cR_f, cR_0, cR_1, cR_2, cO_b, cO_f, cO_0, cO_1, cO_2]) (by simp [go_sem, cR_b, cR_f, cR_0, cR_1, cR_2, cO_b, cO_f, cO_0, cO_1, cO_2]) (by simp [go_sem, cR_b, cR_f, cR_0, cR_1, cR_2, cO_b, cO_f, cO_0, cO_1, cO_2]) (by simp [go_sem, cR_b, cR_f, cR_0, cR_1, cR_2, cO_b, cO_f, cO_0, cO_1, cO_2])
  clear b2 hz B1 R1 O1 cR_b cR_f cR_0 cR_1 cR_2 cO_b cO_f cO_0 cO_1 cO_2
  have cR_b := R2.hb
  have cR_f := R2.fz
  have cR_0 := R2.k0
  have cR_1 := R2.k1
  have cR_2 := R2.k2
  have cO_b := O2.hb
  have cO_f := O2.fz
  have cO_0 := O2.k0
  have cO_1 := O2.k1
  have cO_2 := O2.k2
  go_wp2_with fail
  refine bodyPost_ret (v := .agg #[.int .i64 2, .int .i64 k, .int .i64 d]) (by simp [results, Tryz.results172, go_sem, cR_b, cR_f, cR_0, cR_1, cR_2, cO_b, cO_f, cO_0, cO_1, cO_2]) rfl ⟨rfl, ?_⟩
  clear cR_b cR_f cR_0 cR_1 cR_2 cO_b cO_f cO_0 cO_1 cO_2
  exact (by have hz := B2.out.size; repeat (first | exact B2.out | refine below_drewN ?_ _ | refine Below.drew ?_ | refine Below.setCell ?_ (by first | omega | (simp; done) | (simp; omega)) _ | refine Below.alloc ?_ (by first | omega | (simp; done) | (simp; omega)) _))
set_option maxHeartbeats 2000000 in
set_option maxRecDepth 100000 in
theorem dws_wno2 (a g N1 N2 : ByteArray) (p1 p2 : Bool) (k d q : Int) (w : World) (tp : TypeId) (p : Value) (hv : w.var? Tryz.prog "strconv.ErrRange" = some #[.iface tp p]) (T : Wd.DTabs w) (C1 : Hid (∀ W, Calls Tryz.prog 140 #[.string g, .string ⟨#[62, 61]⟩] W fun e w' => e = .returned (.tuple #[.string N1, .bool p1]) ∧ W = w')) (C2 : Hid (∀ W, Calls Tryz.prog 140 #[.string g, .string ⟨#[60, 61]⟩] W fun e w' => e = .returned (.tuple #[.string N2, .bool p2]) ∧ W = w')) (h1 : p1 = false) (h2 : p2 = true) (CW : Hid (∀ W, Wd.DTabs W → Calls Tryz.prog 175 #[.string a] W fun e w' => e = .panicked (gvP q) ∧ Below W.heap.size W w')) :
    Calls Tryz.prog 172 #[.string a, .string g] w fun e w' => e = .panicked (gvP q) ∧ Below w.heap.size w w' := by
  have T0 := Lib.hid T; clear T
  have V0 := Lib.hid hv; clear hv
  subst h1; subst h2
  go_enter Tryz.func172, Tryz.ntmps172
  go_wp2_with fail
  refine (C1.out _).mono ?_; rintro e v1 ⟨rfl, rfl⟩
  go_wp2_with fail
  refine (C2.out _).mono ?_; rintro e v2 ⟨rfl, rfl⟩
  go_wp2_with fail
  refine (need_yes 4 _).mono ?_; rintro e v3 ⟨rfl, rfl⟩
  go_wp2_with fail
  refine (CW.out _ (T0.out.on (by repeat (first | exact Below.refl _ _ | refine below_drewN ?_ _ | refine Below.drew ?_ | refine Below.setCell ?_ (by first | (simp; done) | (simp; omega) | omega) _ | refine Below.alloc ?_ (by first | (simp; done) | (simp; omega) | omega) _)))).mono ?_; rintro e w1 ⟨rfl, b1⟩
  refine (show bodyPost _ _ _ (Exit.panic (gvP q)) _ _ from ?_)
  exact ⟨rfl, rfl, below_step (by repeat (first | exact Below.refl _ _ | refine below_drewN ?_ _ | refine Below.drew ?_ | refine Below.setCell ?_ (by first | (simp; done) | (simp; omega) | omega) _ | refine Below.alloc ?_ (by first | (simp; done) | (simp; omega) | omega) _)) b1⟩
set_option maxHeartbeats 2000000 in
set_option maxRecDepth 100000 in
theorem dws_dno2 (a g N1 N2 : ByteArray) (p1 p2 : Bool) (k d q : Int) (w : World) (tp : TypeId) (p : Value) (hv : w.var? Tryz.prog "strconv.ErrRange" = some #[.iface tp p]) (T : Wd.DTabs w) (C1 : Hid (∀ W, Calls Tryz.prog 140 #[.string g, .string ⟨#[62, 61]⟩] W fun e w' => e = .returned (.tuple #[.string N1, .bool p1]) ∧ W = w')) (C2 : Hid (∀ W, Calls Tryz.prog 140 #[.string g, .string ⟨#[60, 61]⟩] W fun e w' => e = .returned (.tuple #[.string N2, .bool p2]) ∧ W = w')) (h1 : p1 = false) (h2 : p2 = true) (CW : Hid (∀ W, Wd.DTabs W → Calls Tryz.prog 175 #[.string a] W fun e w' => e = .returned (.int .i64 k) ∧ Below W.heap.size W w')) (CD : Hid (∀ W, W.var? Tryz.prog "strconv.ErrRange" = some #[.iface tp p] → Calls Tryz.prog 173 #[.string N2] W fun e w' => e = .panicked (gvP q) ∧ Below W.heap.size W w')) :
    Calls Tryz.prog 172 #[.string a, .string g] w fun e w' => e = .panicked (gvP q) ∧ Below w.heap.size w w' := by
  have T0 := Lib.hid T; clear T
  have V0 := Lib.hid hv; clear hv
  subst h1; subst h2
  go_enter Tryz.func172, Tryz.ntmps172
  go_wp2_with fail
  refine (C1.out _).mono ?_; rintro e v1 ⟨rfl, rfl⟩
  go_wp2_with fail
  refine (C2.out _).mono ?_; rintro e v2 ⟨rfl, rfl⟩
  go_wp2_with fail
  refine (need_yes 4 _).mono ?_; rintro e v3 ⟨rfl, rfl⟩
  go_wp2_with fail
  refine (CW.out _ (T0.out.on (by repeat (first | exact Below.refl _ _ | refine below_drewN ?_ _ | refine Below.drew ?_ | refine Below.setCell ?_ (by first | (simp; done) | (simp; omega) | omega) _ | refine Below.alloc ?_ (by first | (simp; done) | (simp; omega) | omega) _)))).mono ?_; rintro e w1 ⟨rfl, b1⟩
  have d1 : Below w.heap.size w w1 := below_step (by repeat (first | exact Below.refl _ _ | refine below_drewN ?_ _ | refine Below.drew ?_ | refine Below.setCell ?_ (by first | (simp; done) | (simp; omega) | omega) _ | refine Below.alloc ?_ (by first | (simp; done) | (simp; omega) | omega) _)) b1
  have B1 := Lib.hid d1
  have R1 : Bk3 w1 (w.heap.size) (.int .i64 0) (.int .i64 0) (.int .i64 0) := Bk3.of b1 (by simp <;> omega) (by intro j; simp [go_sem]) (by simp [go_sem]) (by simp [go_sem]) (by simp [go_sem])
  have O1 : Bk3 w1 (w.heap.size + 1) (.int .i64 3) (.int .i64 0) (.int .i64 0) := Bk3.of b1 (by simp <;> omega) (by intro j; simp [go_sem]) (by simp [go_sem]) (by simp [go_sem]) (by simp [go_sem])
  clear b1 d1
  have cR_b := R1.hb
  have cR_f := R1.fz
  have cR_0 := R1.k0
  have cR_1 := R1.k1
  have cR_2 := R1.k2
  have cO_b := O1.hb
  have cO_f := O1.fz
  have cO_0 := O1.k0
  have cO_1 := O1.k1
  have cO_2 := O1.k2
  go_wp2_with fail
  refine (CD.out _ (var_keep (by have hz := B1.out.size; repeat (first | exact B1.out | refine below_drewN ?_ _ | refine Below.drew ?_ | refine Below.setCell ?_ (by first | omega | (simp; done) | (simp; omega)) _)) V0.out)).mono ?_; rintro e w9 ⟨rfl, b9⟩
  clear cR_b cR_f cR_0 cR_1 cR_2 cO_b cO_f cO_0 cO_1 cO_2
  refine (show bodyPost _ _ _ (Exit.panic (gvP q)) _ _ from ?_)
  have hz := B1.out.size
  have b8 := below_step B1.out (Below.refl _ _)
  exact ⟨rfl, rfl, below_step (by repeat (first | exact B1.out | refine below_drewN ?_ _ | refine Below.drew ?_ | refine Below.setCell ?_ (by first | omega | (simp; done) | (simp; omega)) _ | refine Below.alloc ?_ (by first | omega | (simp; done) | (simp; omega)) _)) b9⟩
set_option maxHeartbeats 2000000 in
set_option maxRecDepth 100000 in
theorem dws_yes2 (a g N1 N2 : ByteArray) (p1 p2 : Bool) (k d q : Int) (w : World) (tp : TypeId) (p : Value) (hv : w.var? Tryz.prog "strconv.ErrRange" = some #[.iface tp p]) (T : Wd.DTabs w) (C1 : Hid (∀ W, Calls Tryz.prog 140 #[.string g, .string ⟨#[62, 61]⟩] W fun e w' => e = .returned (.tuple #[.string N1, .bool p1]) ∧ W = w')) (C2 : Hid (∀ W, Calls Tryz.prog 140 #[.string g, .string ⟨#[60, 61]⟩] W fun e w' => e = .returned (.tuple #[.string N2, .bool p2]) ∧ W = w')) (h1 : p1 = false) (h2 : p2 = true) (CW : Hid (∀ W, Wd.DTabs W → Calls Tryz.prog 175 #[.string a] W fun e w' => e = .returned (.int .i64 k) ∧ Below W.heap.size W w')) (CD : Hid (∀ W, W.var? Tryz.prog "strconv.ErrRange" = some #[.iface tp p] → Calls Tryz.prog 173 #[.string N2] W fun e w' => e = .returned (.int .i64 d) ∧ Below W.heap.size W w')) :
    Calls Tryz.prog 172 #[.string a, .string g] w fun e w' => e = .returned (.agg #[.int .i64 3, .int .i64 k, .int .i64 d]) ∧ Below w.heap.size w w' := by
  have T0 := Lib.hid T; clear T
  have V0 := Lib.hid hv; clear hv
  subst h1; subst h2
  go_enter Tryz.func172, Tryz.ntmps172
  go_wp2_with fail
  refine (C1.out _).mono ?_; rintro e v1 ⟨rfl, rfl⟩
  go_wp2_with fail
  refine (C2.out _).mono ?_; rintro e v2 ⟨rfl, rfl⟩
  go_wp2_with fail
  refine (need_yes 4 _).mono ?_; rintro e v3 ⟨rfl, rfl⟩
  go_wp2_with fail
  refine (CW.out _ (T0.out.on (by repeat (first | exact Below.refl _ _ | refine below_drewN ?_ _ | refine Below.drew ?_ | refine Below.setCell ?_ (by first | (simp; done) | (simp; omega) | omega) _ | refine Below.alloc ?_ (by first | (simp; done) | (simp; omega) | omega) _)))).mono ?_; rintro e w1 ⟨rfl, b1⟩
  have d1 : Below w.heap.size w w1 := below_step (by repeat (first | exact Below.refl _ _ | refine below_drewN ?_ _ | refine Below.drew ?_ | refine Below.setCell ?_ (by first | (simp; done) | (simp; omega) | omega) _ | refine Below.alloc ?_ (by first | (simp; done) | (simp; omega) | omega) _)) b1
  have B1 := Lib.hid d1
  have R1 : Bk3 w1 (w.heap.size) (.int .i64 0) (.int .i64 0) (.int .i64 0) := Bk3.of b1 (by simp <;> omega) (by intro j; simp [go_sem]) (by simp [go_sem]) (by simp [go_sem]) (by simp [go_sem])
  have O1 : Bk3 w1 (w.heap.size + 1) (.int .i64 3) (.int .i64 0) (.int .i64 0) := Bk3.of b1 (by simp <;> omega) (by intro j; simp [go_sem]) (by simp [go_sem]) (by simp [go_sem]) (by simp [go_sem])
  clear b1 d1
  have cR_b := R1.hb
  have cR_f := R1.fz
  have cR_0 := R1.k0
  have cR_1 := R1.k1
  have cR_2 := R1.k2
  have cO_b := O1.hb
  have cO_f := O1.fz
  have cO_0 := O1.k0
  have cO_1 := O1.k1
  have cO_2 := O1.k2
  go_wp2_with fail
  refine (CD.out _ (var_keep (by have hz := B1.out.size; repeat (first | exact B1.out | refine below_drewN ?_ _ | refine Below.drew ?_ | refine Below.setCell ?_ (by first | omega | (simp; done) | (simp; omega)) _)) V0.out)).mono ?_; rintro e w2 ⟨rfl, b2⟩
  have hz := B1.out.size
  have B2 := Lib.hid (show Below w.heap.size w w2 from below_step (by repeat (first | exact B1.out | refine below_drewN ?_ _ | refine Below.drew ?_ | refine Below.setCell ?_ (by simp <;> omega) _ | refine Below.alloc ?_ (by simp <;> omega) _)) b2)
  have R2 : Bk3 w2 (w.heap.size) (.int .i64 0) (.int .i64 0) (.int .i64 0) := Bk3.of b2 (by simp <;> omega) (by intro j; simp [go_sem, cR_b, cR_f, cR_0, cR_1, cR_2, cO_b, cO_f, cO_0, cO_1, cO_2]) (by simp [go_sem, cR_b, cR_f, cR_0, cR_1, cR_2, cO_b, cO_f, cO_0, cO_1, cO_2]) (by simp [go_sem, cR_b, cR_f, cR_0, cR_1, cR_2, cO_b, cO_f, cO_0, cO_1, cO_2]) (by simp [go_sem, cR_b, cR_f, cR_0, cR_1, cR_2, cO_b, cO_f, cO_0, cO_1, cO_2])
  have O2 : Bk3 w2 (w.heap.size + 1) (.int .i64 3) (.int .i64 k) (.int .i64 0) := Bk3.of b2 (by simp <;> omega) (by intro j; simp [go_sem, cR_b, cR_f, cR_0, cR_1, cR_2, cO_b, cO_f, cO_0, cO_1, cO_2]) (by simp [go_sem, cR_b, cR_f, cR_0, cR_1, cR_2, cO_b, cO_f, cO_0, cO_1, cO_2]) (by simp [go_sem, cR_b, cR_f, cR_0, cR_1, cR_2, cO_b, cO_f, cO_0, cO_1, cO_2]) (by simp [go_sem, cR_b, cR_f, cR_0, cR_1, cR_2, cO_b, cO_f, cO_0, cO_1, cO_2])
  clear b2 hz B1 R1 O1 cR_b cR_f cR_0 cR_1 cR_2 cO_b cO_f cO_0 cO_1 cO_2
  have cR_b := R2.hb
  have cR_f := R2.fz
  have cR_0 := R2.k0
  have cR_1 := R2.k1
  have cR_2 := R2.k2
  have cO_b := O2.hb
  have cO_f := O2.fz
  have cO_0 := O2.k0
  have cO_1 := O2.k1
  have cO_2 := O2.k2
  go_wp2_with fail
  refine bodyPost_ret (v := .agg #[.int .i64 3, .int .i64 k, .int .i64 d]) (by simp [results, Tryz.results172, go_sem, cR_b, cR_f, cR_0, cR_1, cR_2, cO_b, cO_f, cO_0, cO_1, cO_2]) rfl ⟨rfl, ?_⟩
  clear cR_b cR_f cR_0 cR_1 cR_2 cO_b cO_f cO_0 cO_1 cO_2
  exact (by have hz := B2.out.size; repeat (first | exact B2.out | refine below_drewN ?_ _ | refine Below.drew ?_ | refine Below.setCell ?_ (by first | omega | (simp; done) | (simp; omega)) _ | refine Below.alloc ?_ (by first | omega | (simp; done) | (simp; omega)) _))
set_option maxHeartbeats 2000000 in
set_option maxRecDepth 100000 in
theorem dws_form (a g N1 N2 : ByteArray) (p1 p2 : Bool) (w : World) (C1 : Hid (∀ W, Calls Tryz.prog 140 #[.string g, .string ⟨#[62, 61]⟩] W fun e w' => e = .returned (.tuple #[.string N1, .bool p1]) ∧ W = w')) (C2 : Hid (∀ W, Calls Tryz.prog 140 #[.string g, .string ⟨#[60, 61]⟩] W fun e w' => e = .returned (.tuple #[.string N2, .bool p2]) ∧ W = w')) (h1 : p1 = false) (h2 : p2 = false) :
    Calls Tryz.prog 172 #[.string a, .string g] w fun e w' => e = .panicked (gvP 4) ∧ Below w.heap.size w w' := by
  subst h1; subst h2
  go_enter Tryz.func172, Tryz.ntmps172
  go_wp2_with fail
  refine (C1.out _).mono ?_; rintro e v1 ⟨rfl, rfl⟩
  go_wp2_with fail
  refine (C2.out _).mono ?_; rintro e v2 ⟨rfl, rfl⟩
  go_wp2_with fail
  refine (need_no 4 _).mono ?_; rintro e w5 ⟨rfl, rfl⟩
  refine (show bodyPost _ _ _ (Exit.panic (gvP 4)) _ _ from ?_)
  exact ⟨rfl, rfl, (by repeat (first | exact Below.refl _ _ | refine below_drewN ?_ _ | refine Below.drew ?_ | refine Below.setCell ?_ (by first | (simp; done) | (simp; omega) | omega) _ | refine Below.alloc ?_ (by first | (simp; done) | (simp; omega) | omega) _))⟩
namespace Ds
theorem sw_w {k : Int} {a n : List UInt8} (h : (wd a).2 ≠ 0) : sw k a n = (0, 0, 0, (wd a).2) := by unfold sw; rw [if_neg h]
theorem sw_d {k : Int} {a n : List UInt8} (h : (wd a).2 = 0) (h2 : (day n).2 ≠ 0) : sw k a n = (0, 0, 0, (day n).2) := by unfold sw; rw [if_pos h, if_neg h2]
theorem sw_y {k : Int} {a n : List UInt8} (h : (wd a).2 = 0) (h2 : (day n).2 = 0) : sw k a n = (k, (wd a).1, (day n).1, 0) := by unfold sw; rw [if_pos h, if_pos h2]
end Ds
/-- What is answered of a name that is read, or why it is given up. -/
def AnsO (r : Int × Int × Int × Int) (e : Ending) : Prop := (r.2.2.2 = 0 ∧ e = .returned (.agg #[.int .i64 r.1, .int .i64 r.2.1, .int .i64 r.2.2.1])) ∨ (r.2.2.2 ≠ 0 ∧ e = .panicked (gvP r.2.2.2))
theorem dws_any (a g : ByteArray) (w : World) (ha : a.size ≤ 1000) (hg : g.size ≤ 1000) (tp : TypeId) (p : Value) (hv : w.var? Tryz.prog "strconv.ErrRange" = some #[.iface tp p]) (T : Wd.DTabs w) :
    Calls Tryz.prog 172 #[.string a, .string g] w fun e w' => AnsO (Ds.ws a.data.toList g.data.toList) e ∧ Below w.heap.size w w' := by
  have C1 := Lib.hid (fun W => cutPrefix g ⟨#[62, 61]⟩ W)
  have C2 := Lib.hid (fun W => cutPrefix g ⟨#[60, 61]⟩ W)
  have z1 : ∀ l : List UInt8, (⟨(Lib.trimPrefix g.data.toList l).toArray⟩ : ByteArray).size ≤ 1000 := fun l => by
    show (Lib.trimPrefix g.data.toList l).toArray.size ≤ 1000
    rw [List.size_toArray]
    have := ab_trim g.data.toList l
    rw [ab_len] at this; omega
  have m1 : a.size ≤ maxLen := by unfold maxLen; omega
  unfold Ds.ws
  cases p1 : Lib.hasPrefix g.data.toList [62, 61]
  · rw [if_neg (by decide)]
    cases p2 : Lib.hasPrefix g.data.toList [60, 61]
    · rw [if_neg (by decide)]
      exact (dws_form a g _ _ _ _ w C1 C2 p1 p2).mono fun _ _ ⟨h, b⟩ => ⟨.inr ⟨by decide, h⟩, b⟩
    · rw [if_pos rfl]
      by_cases hw : (Ds.wd a.data.toList).2 = 0
      · have CW := Lib.hid (fun W h => dweek_yes a (Ds.wd a.data.toList).1 W m1 h (Prod.ext rfl hw))
        by_cases hd : (Ds.day (Lib.trimPrefix g.data.toList [60, 61])).2 = 0
        · rw [Ds.sw_y hw hd]
          exact (dws_yes2 a g _ _ _ _ _ (Ds.day (Lib.trimPrefix g.data.toList [60, 61])).1 0 w tp p hv T C1 C2 p1 p2 CW (Lib.hid (fun W h => dday_yes (⟨(Lib.trimPrefix g.data.toList [60, 61]).toArray⟩ : ByteArray) _ W (z1 _) tp p h (Prod.ext rfl hd)))).mono fun _ _ ⟨h, b⟩ => ⟨.inl ⟨rfl, h⟩, b⟩
        · rw [Ds.sw_d hw hd]
          exact (dws_dno2 a g _ _ _ _ _ 0 (Ds.day (Lib.trimPrefix g.data.toList [60, 61])).2 w tp p hv T C1 C2 p1 p2 CW (Lib.hid (fun W h => dday_no (⟨(Lib.trimPrefix g.data.toList [60, 61]).toArray⟩ : ByteArray) _ W (z1 _) tp p h rfl hd))).mono fun _ _ ⟨h, b⟩ => ⟨.inr ⟨hd, h⟩, b⟩
      · rw [Ds.sw_w hw]
        exact (dws_wno2 a g _ _ _ _ 0 0 (Ds.wd a.data.toList).2 w tp p hv T C1 C2 p1 p2 (Lib.hid (fun W h => dweek_no a _ W m1 h rfl hw))).mono fun _ _ ⟨h, b⟩ => ⟨.inr ⟨hw, h⟩, b⟩
  · rw [if_pos rfl]
    by_cases hw : (Ds.wd a.data.toList).2 = 0
    · have CW := Lib.hid (fun W h => dweek_yes a (Ds.wd a.data.toList).1 W m1 h (Prod.ext rfl hw))
      by_cases hd : (Ds.day (Lib.trimPrefix g.data.toList [62, 61])).2 = 0
      · rw [Ds.sw_y hw hd]
        exact (dws_yes1 a g _ _ _ _ _ (Ds.day (Lib.trimPrefix g.data.toList [62, 61])).1 0 w tp p hv T C1 C2 p1 CW (Lib.hid (fun W h => dday_yes (⟨(Lib.trimPrefix g.data.toList [62, 61]).toArray⟩ : ByteArray) _ W (z1 _) tp p h (Prod.ext rfl hd)))).mono fun _ _ ⟨h, b⟩ => ⟨.inl ⟨rfl, h⟩, b⟩
      · rw [Ds.sw_d hw hd]
        exact (dws_dno1 a g _ _ _ _ _ 0 (Ds.day (Lib.trimPrefix g.data.toList [62, 61])).2 w tp p hv T C1 C2 p1 CW (Lib.hid (fun W h => dday_no (⟨(Lib.trimPrefix g.data.toList [62, 61]).toArray⟩ : ByteArray) _ W (z1 _) tp p h rfl hd))).mono fun _ _ ⟨h, b⟩ => ⟨.inr ⟨hd, h⟩, b⟩
    · rw [Ds.sw_w hw]
      exact (dws_wno1 a g _ _ _ _ 0 0 (Ds.wd a.data.toList).2 w tp p hv T C1 C2 p1 (Lib.hid (fun W h => dweek_no a _ W m1 h rfl hw))).mono fun _ _ ⟨h, b⟩ => ⟨.inr ⟨hw, h⟩, b⟩
end Go.Proofs.YtedbohfcbfegjaaGreatDoor
