/- Names of days: what they mean, in plain lists; day, weekday, beginsLast, withSign. -/
import Derived.Test.YtafnnnbefabofaaDoorYrA
import Derived.Test.YtafnnnbefabofaaDoorWdD
import Derived.Test.YtafnnnbefabofaaDoorGvF
set_option linter.unusedVariables false
set_option linter.unusedSimpArgs false
namespace Go.Proofs.YtafnnnbefabofaaDoor
open Go.RowKit Go.Sort

namespace Ds
def inD (n : Int) : Bool := decide (1 ≤ n) && decide (n ≤ 31)
def day (l : List UInt8) : Int × Int := if (Num.rd l).2 = 0 then (if inD (Num.rd l).1 then ((Num.rd l).1, 0) else (0, 1)) else (0, (Num.rd l).2)
def wd (l : List UInt8) : Int × Int := Wd.mat l Wd.days
def bl (l : List UInt8) : Bool := decide (4 ≤ l.length) && Wd.same (l.take 4) [108, 97, 115, 116]
/-- A sign's name: the week day ahead, the day behind. -/
def sw (k : Int) (a n : List UInt8) : Int × Int × Int × Int := if (wd a).2 = 0 then (if (day n).2 = 0 then (k, (wd a).1, (day n).1, 0) else (0, 0, 0, (day n).2)) else (0, 0, 0, (wd a).2)
def ws (a g : List UInt8) : Int × Int × Int × Int := if Lib.hasPrefix g [62, 61] then sw 2 a (Lib.trimPrefix g [62, 61]) else if Lib.hasPrefix g [60, 61] then sw 3 a (Lib.trimPrefix g [60, 61]) else (0, 0, 0, 4)
def rd (l : List UInt8) : Int × Int × Int × Int :=
  if 0 ≤ Lib.indexAny l [60, 62] then ws (l.take (Lib.indexAny l [60, 62]).toNat) (l.drop (Lib.indexAny l [60, 62]).toNat)
  else if Yr.isN l then (if (day l).2 = 0 then (0, 0, (day l).1, 0) else (0, 0, 0, (day l).2))
  else if bl l then (if (wd (l.drop 4)).2 = 0 then (1, (wd (l.drop 4)).1, 0, 0) else (0, 0, 0, (wd (l.drop 4)).2)) else (0, 0, 0, 4)
end Ds
theorem dday_yes (s : ByteArray) (v : Int) (w : World) (hs : s.size ≤ 1000) (tp : TypeId) (p : Value) (hv : w.var? Tryd.prog "strconv.ErrRange" = some #[.iface tp p]) (h : Ds.day s.data.toList = (v, 0)) :
    Calls Tryd.prog 176 #[.string s] w fun e w' => e = .returned (.int .i64 v) ∧ Below w.heap.size w w' := by
  have C := read_any s w hs tp p hv
  unfold Ds.day at h
  generalize (Num.rd s.data.toList).1 = x at C h
  generalize (Num.rd s.data.toList).2 = q at C h
  have hq : q = 0 := by
    by_cases hq : q = 0
    · exact hq
    · rw [if_neg hq] at h; exact congrArg Prod.snd h
  subst hq
  rw [if_pos rfl] at h
  have hin : Ds.inD x = true := by
    cases hi : Ds.inD x
    · rw [hi] at h; exact absurd (congrArg Prod.snd h) (by simp)
    · rfl
  rw [hin] at h
  obtain rfl : x = v := congrArg Prod.fst h
  unfold Ds.inD at hin
  rw [Bool.and_eq_true, decide_eq_true_eq, decide_eq_true_eq] at hin
  obtain ⟨h1, h2⟩ := hin
  clear h
  go_enter Tryd.func176, Tryd.ntmps176
  go_wp2_with fail
  refine (C).mono ?_; rintro e w1 ⟨rfl, b1⟩
  have d1 : Below w.heap.size w w1 := below_step (by repeat (first | exact Below.refl _ _ | refine below_drewN ?_ _ | refine Below.drew ?_ | refine Below.setCell ?_ (by first | (simp; done) | (simp; omega) | omega) _ | refine Below.alloc ?_ (by first | (simp; done) | (simp; omega) | omega) _)) b1
  have B1 := Lib.hid d1
  clear b1 d1
  go_wp2_with fail
  refine (must_yes x _).mono ?_; rintro e v1 ⟨rfl, rfl⟩
  go_wp2_with fail
  refine (need_yes 1 _).mono ?_; rintro e v2 ⟨rfl, rfl⟩
  go_wp2_with fail
  go_ret
  exact ⟨rfl, by first | exact B1.out | (repeat (first | exact B1.out | refine below_drewN ?_ _ | refine Below.drew ?_))⟩
theorem dday_no (s : ByteArray) (q : Int) (w : World) (hs : s.size ≤ 1000) (tp : TypeId) (p : Value) (hv : w.var? Tryd.prog "strconv.ErrRange" = some #[.iface tp p]) (h : (Ds.day s.data.toList).2 = q) (hq : q ≠ 0) :
    Calls Tryd.prog 176 #[.string s] w fun e w' => e = .panicked (gvP q) ∧ Below w.heap.size w w' := by
  have C := read_any s w hs tp p hv
  unfold Ds.day at h
  generalize (Num.rd s.data.toList).1 = x at C h
  generalize (Num.rd s.data.toList).2 = q2 at C h
  by_cases hz : q2 = 0
  · subst hz
    rw [if_pos rfl] at h
    have hin : Ds.inD x = false := by
      cases hi : Ds.inD x
      · rfl
      · rw [hi] at h; exact absurd h.symm hq
    rw [hin] at h
    obtain rfl : 1 = q := h
    have hc : ¬ 1 ≤ x ∨ (1 ≤ x ∧ ¬ x ≤ 31) := by
      unfold Ds.inD at hin
      by_cases a : 1 ≤ x
      · right; refine ⟨a, fun b => ?_⟩
        rw [decide_eq_true a, decide_eq_true b] at hin; exact absurd hin (by decide)
      · exact .inl a
    clear hin hq
    rcases hc with c | ⟨c, c2⟩
    · have g : decide (1 ≤ x) = false := decide_eq_false c
      clear c
      go_enter Tryd.func176, Tryd.ntmps176
      go_wp2_with fail
      refine (C).mono ?_; rintro e w1 ⟨rfl, b1⟩
      have d1 : Below w.heap.size w w1 := below_step (by repeat (first | exact Below.refl _ _ | refine below_drewN ?_ _ | refine Below.drew ?_ | refine Below.setCell ?_ (by first | (simp; done) | (simp; omega) | omega) _ | refine Below.alloc ?_ (by first | (simp; done) | (simp; omega) | omega) _)) b1
      have B1 := Lib.hid d1
      clear b1 d1
      go_wp2_with fail
      refine (must_yes x _).mono ?_; rintro e v1 ⟨rfl, rfl⟩
      go_wp2_with fail
      refine (need_no 1 _).mono ?_; rintro e w5 ⟨rfl, rfl⟩
      refine (show bodyPost _ _ _ (Exit.panic (gvP 1)) _ _ from ?_)
      exact ⟨rfl, rfl, B1.out⟩
    · have g : decide (x ≤ 31) = false := decide_eq_false c2
      clear c2
      go_enter Tryd.func176, Tryd.ntmps176
      go_wp2_with fail
      refine (C).mono ?_; rintro e w1 ⟨rfl, b1⟩
      have d1 : Below w.heap.size w w1 := below_step (by repeat (first | exact Below.refl _ _ | refine below_drewN ?_ _ | refine Below.drew ?_ | refine Below.setCell ?_ (by first | (simp; done) | (simp; omega) | omega) _ | refine Below.alloc ?_ (by first | (simp; done) | (simp; omega) | omega) _)) b1
      have B1 := Lib.hid d1
      clear b1 d1
      go_wp2_with fail
      refine (must_yes x _).mono ?_; rintro e v1 ⟨rfl, rfl⟩
      go_wp2_with fail
      refine (need_no 1 _).mono ?_; rintro e w5 ⟨rfl, rfl⟩
      refine (show bodyPost _ _ _ (Exit.panic (gvP 1)) _ _ from ?_)
      exact ⟨rfl, rfl, B1.out⟩
  · rw [if_neg hz] at h
    obtain rfl : q2 = q := h
    go_enter Tryd.func176, Tryd.ntmps176
    go_wp2_with fail
    refine (C).mono ?_; rintro e w1 ⟨rfl, b1⟩
    have d1 : Below w.heap.size w w1 := below_step (by repeat (first | exact Below.refl _ _ | refine below_drewN ?_ _ | refine Below.drew ?_ | refine Below.setCell ?_ (by first | (simp; done) | (simp; omega) | omega) _ | refine Below.alloc ?_ (by first | (simp; done) | (simp; omega) | omega) _)) b1
    have B1 := Lib.hid d1
    clear b1 d1
    go_wp2_with fail
    refine (must_no x q2 _ hq).mono ?_; rintro e w5 ⟨rfl, rfl⟩
    refine (show bodyPost _ _ _ (Exit.panic (gvP q2)) _ _ from ?_)
    exact ⟨rfl, rfl, B1.out⟩
theorem dweek_yes (s : ByteArray) (k : Int) (w : World) (hs : s.size ≤ maxLen) (T : Wd.DTabs w) (h : Ds.wd s.data.toList = (k, 0)) :
    Calls Tryd.prog 178 #[.string s] w fun e w' => e = .returned (.int .i64 k) ∧ Below w.heap.size w w' := by
  have C := wday_any s w hs T
  have h2 : Wd.mat s.data.toList Wd.days = (k, 0) := h
  rw [h2] at C
  clear T h h2
  go_enter Tryd.func178, Tryd.ntmps178
  go_wp2_with fail
  refine (C).mono ?_; rintro e w1 ⟨rfl, b1⟩
  have d1 : Below w.heap.size w w1 := below_step (by repeat (first | exact Below.refl _ _ | refine below_drewN ?_ _ | refine Below.drew ?_ | refine Below.setCell ?_ (by first | (simp; done) | (simp; omega) | omega) _ | refine Below.alloc ?_ (by first | (simp; done) | (simp; omega) | omega) _)) b1
  have B1 := Lib.hid d1
  clear b1 d1
  go_wp2_with fail
  refine (muti_yes k _).mono ?_; rintro e v1 ⟨rfl, rfl⟩
  go_wp2_with fail
  go_ret
  exact ⟨rfl, (by have hz := B1.out.size; repeat (first | exact B1.out | refine below_drewN ?_ _ | refine Below.drew ?_ | refine Below.setCell ?_ (by first | omega | (simp; done) | (simp; omega)) _ | refine Below.alloc ?_ (by first | omega | (simp; done) | (simp; omega)) _))⟩
theorem dweek_no (s : ByteArray) (q : Int) (w : World) (hs : s.size ≤ maxLen) (T : Wd.DTabs w) (h : (Ds.wd s.data.toList).2 = q) (hq : q ≠ 0) :
    Calls Tryd.prog 178 #[.string s] w fun e w' => e = .panicked (gvP q) ∧ Below w.heap.size w w' := by
  have C := wday_any s w hs T
  have h2 : (Wd.mat s.data.toList Wd.days).2 = q := h
  rw [h2] at C
  generalize (Wd.mat s.data.toList Wd.days).1 = k at C
  clear T h h2
  go_enter Tryd.func178, Tryd.ntmps178
  go_wp2_with fail
  refine (C).mono ?_; rintro e w1 ⟨rfl, b1⟩
  have d1 : Below w.heap.size w w1 := below_step (by repeat (first | exact Below.refl _ _ | refine below_drewN ?_ _ | refine Below.drew ?_ | refine Below.setCell ?_ (by first | (simp; done) | (simp; omega) | omega) _ | refine Below.alloc ?_ (by first | (simp; done) | (simp; omega) | omega) _)) b1
  have B1 := Lib.hid d1
  clear b1 d1
  go_wp2_with fail
  refine (muti_no k q _ hq).mono ?_; rintro e w5 ⟨rfl, rfl⟩
  refine (show bodyPost _ _ _ (Exit.panic (gvP q)) _ _ from ?_)
  exact ⟨rfl, rfl, B1.out⟩
set_option maxRecDepth 100000 in
theorem dbl_any (s : ByteArray) (w : World) (hs : s.size ≤ maxLen) :
    Calls Tryd.prog 177 #[.string s] w fun e w' => e = .returned (.bool (Ds.bl s.data.toList)) ∧ Below w.heap.size w w' := by
  have hl := ab_len s
  unfold Ds.bl
  rw [hl]
  by_cases h : 4 ≤ s.size
  · have h2 : (s.extract 0 4).data.toList = s.data.toList.take 4 := by
      rw [ByteArray.data_extract, Array.toList_extract]
      simp
    have sl : ∀ W, Sem.run Tryd.prog (Instr.slice 9 (.string s) none (some (.int .i64 4)) none) W = .ok (.string (s.extract 0 4)) W := fun W => by
      rw [run_slice_string_h W 9 s Tryd.underlying9 .i64 _ (by omega) (by omega)]; rfl
    have C := Lib.hid (fun W => wsame_any (s.extract 0 4) ⟨#[108, 97, 115, 116]⟩ W (by rw [ByteArray.size_extract]; unfold maxLen; omega) (by decide))
    rw [decide_eq_true h, ← h2]
    have h4 : (4 : Int) ≤ (s.size : Int) := by omega
    have e : ([108, 97, 115, 116] : List UInt8) = (⟨#[108, 97, 115, 116]⟩ : ByteArray).data.toList := rfl
    rw [e]
    generalize hg : Wd.same (s.extract 0 4).data.toList (⟨#[108, 97, 115, 116]⟩ : ByteArray).data.toList = g at *
    generalize s.extract 0 4 = X at *
    clear h2 h hg e
    go_enter Tryd.func177, Tryd.ntmps177
    go_wp2_with fail
    refine (C.out _).mono ?_; rintro e v1 ⟨rfl, j1, rfl⟩
    go_wp2_with fail
    go_ret
    exact ⟨rfl, (by repeat (first | exact Below.refl _ _ | refine below_drewN ?_ _ | refine Below.drew ?_ | refine Below.setCell ?_ (by first | (simp; done) | (simp; omega) | omega) _ | refine Below.alloc ?_ (by first | (simp; done) | (simp; omega) | omega) _))⟩
  · rw [decide_eq_false h]
    have h4 : decide ((4 : Int) ≤ (s.size : Int)) = false := decide_eq_false (by omega)
    clear h
    go_enter Tryd.func177, Tryd.ntmps177
    go_wp2_with fail
    go_ret
    exact ⟨rfl, Below.refl _ _⟩
end Go.Proofs.YtafnnnbefabofaaDoor

