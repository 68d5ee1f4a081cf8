/- Years: what stands in their place, in plain lists; isNumber, number, word. -/
import Derived.Test.YtafnnnbefabofaaDoorIxB
import Derived.Test.YtafnnnbefabofaaDoorRnG
import Derived.Test.YtafnnnbefabofaaDoorWdCb
import Derived.Test.YtafnnnbefabofaaDoorGvD
set_option linter.unusedVariables false
set_option linter.unusedSimpArgs false
namespace Go.Proofs.YtafnnnbefabofaaDoor
open Go.RowKit Go.Sort

namespace Yr
def starts : List UInt8 := [45, 48, 49, 50, 51, 52, 53, 54, 55, 56, 57]
/-- Does it begin as a number? -/
def isN (l : List UInt8) : Bool := match l with | [] => false | c :: _ => starts.contains c
theorem isN_ix (l : List UInt8) : isN l = (Lib.indexAny l starts == 0) := by
  cases l with
  | nil => rfl
  | cons c r =>
    show starts.contains c = _
    unfold Lib.indexAny
    cases h : starts.contains c
    · have := Lib.indexAny_ge starts r
      rw [if_neg (by decide)]
      split
      · rfl
      · symm; rw [beq_eq_false_iff_ne]; rename_i hh; have : Lib.indexAny r starts ≠ -1 := by simpa using hh
        omega
    · rfl
def inY (n : Int) : Bool := decide (-32767 ≤ n) && decide (n ≤ 32767)
/-- The number that a text means, the error's. -/
def num (l : List UInt8) : Int × Int := if (Num.rd l).2 = 0 then (if inY (Num.rd l).1 then ((Num.rd l).1, 0) else (0, 1)) else (0, (Num.rd l).2)
def names : List ByteArray := [⟨#[109, 105, 110, 105, 109, 117, 109]⟩, ⟨#[109, 97, 120, 105, 109, 117, 109]⟩, ⟨#[111, 110, 108, 121]⟩]
def word (l : List UInt8) : Int × Int := Wd.mat l names
/-- A first year. -/
def fr (l : List UInt8) : Int × Int := if isN l then num l else if (word l).2 = 0 then (if (word l).1 = 0 then (-32767, 0) else (0, 3)) else (0, (word l).2)
/-- A last one, the order apart. -/
def la (l : List UInt8) (f : Int) : Int × Int := if isN l then num l else if (word l).2 = 0 then (if (word l).1 = 0 then (0, 3) else if (word l).1 = 1 then (32767, 0) else (f, 0)) else (0, (word l).2)
def to (l : List UInt8) (f : Int) : Int × Int := if (la l f).2 = 0 then (if f ≤ (la l f).1 then ((la l f).1, 0) else (0, 14)) else (0, (la l f).2)
end Yr
theorem yisn_any (s : ByteArray) (w : World) (hs : s.size ≤ 1000) :
    Calls Tryd.prog 88 #[.string s] w fun e w' => e = .returned (.bool (Yr.isN s.data.toList)) ∧ Below w.heap.size w w' := by
  have e := Yr.isN_ix s.data.toList
  have C : Hid (∀ W, Calls Tryd.prog 148 #[.string s, .string ⟨#[45, 48, 49, 50, 51, 52, 53, 54, 55, 56, 57]⟩] W fun e w' => e = .returned (.int .i64 (Lib.indexAny s.data.toList Yr.starts)) ∧ Below W.heap.size W w') := fun W => ixany s ⟨#[45, 48, 49, 50, 51, 52, 53, 54, 55, 56, 57]⟩ W (by decide) (by omega) (by decide) (by decide)
  generalize Lib.indexAny s.data.toList Yr.starts = j at e C
  rw [e]
  clear e
  go_enter Tryd.func88, Tryd.ntmps88
  go_wp2_with fail
  refine (C.out _).mono ?_; rintro e w1 ⟨rfl, b1⟩
  have d1 : Below w.heap.size w w1 := below_step (by repeat (first | exact Below.refl _ _ | refine below_drewN ?_ _ | refine Below.drew ?_ | refine Below.setCell ?_ (by first | (simp; done) | (simp; omega) | omega) _ | refine Below.alloc ?_ (by first | (simp; done) | (simp; omega) | omega) _)) b1
  have B1 := Lib.hid d1
  clear b1 d1
  go_wp2_with fail
  go_ret
  exact ⟨rfl, (by have hz := B1.out.size; repeat (first | exact B1.out | refine below_drewN ?_ _ | refine Below.drew ?_ | refine Below.setCell ?_ (by first | omega | (simp; done) | (simp; omega)) _ | refine Below.alloc ?_ (by first | omega | (simp; done) | (simp; omega)) _))⟩
theorem yin_any (n : Int) (w : World) : Calls Tryd.prog 85 #[.int .i64 n] w fun e w' => e = .returned (.bool (Yr.inY n)) ∧ w = w' := by
  unfold Yr.inY
  by_cases h1 : -32767 ≤ n
  · go_enter Tryd.func85, Tryd.ntmps85
    go_wp2_with fail
    go_ret
    exact ⟨by simp [h1], rfl⟩
  · rw [decide_eq_false h1]
    go_enter Tryd.func85, Tryd.ntmps85
    go_wp2_with fail
    go_ret
    exact ⟨rfl, rfl⟩
theorem ynum_yes (s : ByteArray) (v : Int) (w : World) (hs : s.size ≤ 1000) (tp : TypeId) (p : Value) (hv : w.var? Tryd.prog "strconv.ErrRange" = some #[.iface tp p]) (h : Yr.num s.data.toList = (v, 0)) :
    Calls Tryd.prog 89 #[.string s] w fun e w' => e = .returned (.int .i64 v) ∧ Below w.heap.size w w' := by
  have C := read_any s w hs tp p hv
  unfold Yr.num at h
  generalize (Num.rd s.data.toList).1 = x at C h
  generalize (Num.rd s.data.toList).2 = q at C h
  have hq : q = 0 := by
    by_cases hq : q = 0
    · exact hq
    · rw [if_neg hq] at h; exact congrArg Prod.snd h
  subst hq
  rw [if_pos rfl] at h
  have hin : Yr.inY x = true := by
    cases hi : Yr.inY x
    · rw [hi] at h; exact absurd (congrArg Prod.snd h) (by simp)
    · rfl
  rw [hin] at h
  obtain rfl : x = v := congrArg Prod.fst h
  have CI := Lib.hid (fun W => yin_any x W)
  rw [hin] at CI
  clear h hin
  go_enter Tryd.func89, Tryd.ntmps89
  go_wp2_with fail
  refine (C).mono ?_; rintro e w1 ⟨rfl, b1⟩
  have d1 : Below w.heap.size w w1 := below_step (by repeat (first | exact Below.refl _ _ | refine below_drewN ?_ _ | refine Below.drew ?_ | refine Below.setCell ?_ (by first | (simp; done) | (simp; omega) | omega) _ | refine Below.alloc ?_ (by first | (simp; done) | (simp; omega) | omega) _)) b1
  have B1 := Lib.hid d1
  clear b1 d1
  go_wp2_with fail
  refine (must_yes x _).mono ?_; rintro e v1 ⟨rfl, rfl⟩
  go_wp2_with fail
  refine (CI.out _).mono ?_; rintro e v2 ⟨rfl, rfl⟩
  go_wp2_with fail
  refine (need_yes 1 _).mono ?_; rintro e v3 ⟨rfl, rfl⟩
  go_wp2_with fail
  go_ret
  exact ⟨rfl, by first | exact B1.out | (repeat (first | exact B1.out | refine below_drewN ?_ _ | refine Below.drew ?_))⟩
theorem ynum_no (s : ByteArray) (q : Int) (w : World) (hs : s.size ≤ 1000) (tp : TypeId) (p : Value) (hv : w.var? Tryd.prog "strconv.ErrRange" = some #[.iface tp p]) (h : (Yr.num s.data.toList).2 = q) (hq : q ≠ 0) :
    Calls Tryd.prog 89 #[.string s] w fun e w' => e = .panicked (gvP q) ∧ Below w.heap.size w w' := by
  have C := read_any s w hs tp p hv
  unfold Yr.num at h
  generalize (Num.rd s.data.toList).1 = x at C h
  generalize (Num.rd s.data.toList).2 = q2 at C h
  by_cases hz : q2 = 0
  · subst hz
    rw [if_pos rfl] at h
    have hin : Yr.inY x = false := by
      cases hi : Yr.inY x
      · rfl
      · rw [hi] at h; exact absurd h.symm hq
    rw [hin] at h
    obtain rfl : 1 = q := h
    have CI := Lib.hid (fun W => yin_any x W)
    rw [hin] at CI
    clear hin hq
    go_enter Tryd.func89, Tryd.ntmps89
    go_wp2_with fail
    refine (C).mono ?_; rintro e w1 ⟨rfl, b1⟩
    have d1 : Below w.heap.size w w1 := below_step (by repeat (first | exact Below.refl _ _ | refine below_drewN ?_ _ | refine Below.drew ?_ | refine Below.setCell ?_ (by first | (simp; done) | (simp; omega) | omega) _ | refine Below.alloc ?_ (by first | (simp; done) | (simp; omega) | omega) _)) b1
    have B1 := Lib.hid d1
    clear b1 d1
    go_wp2_with fail
    refine (must_yes x _).mono ?_; rintro e v1 ⟨rfl, rfl⟩
    go_wp2_with fail
    refine (CI.out _).mono ?_; rintro e v2 ⟨rfl, rfl⟩
    go_wp2_with fail
    refine (need_no 1 _).mono ?_; rintro e w5 ⟨rfl, rfl⟩
    refine (show bodyPost _ _ _ (Exit.panic (gvP 1)) _ _ from ?_)
    exact ⟨rfl, rfl, B1.out⟩
  · rw [if_neg hz] at h
    obtain rfl : q2 = q := h
    go_enter Tryd.func89, Tryd.ntmps89
    go_wp2_with fail
    refine (C).mono ?_; rintro e w1 ⟨rfl, b1⟩
    have d1 : Below w.heap.size w w1 := below_step (by repeat (first | exact Below.refl _ _ | refine below_drewN ?_ _ | refine Below.drew ?_ | refine Below.setCell ?_ (by first | (simp; done) | (simp; omega) | omega) _ | refine Below.alloc ?_ (by first | (simp; done) | (simp; omega) | omega) _)) b1
    have B1 := Lib.hid d1
    clear b1 d1
    go_wp2_with fail
    refine (must_no x q2 _ hq).mono ?_; rintro e w5 ⟨rfl, rfl⟩
    refine (show bodyPost _ _ _ (Exit.panic (gvP q2)) _ _ from ?_)
    exact ⟨rfl, rfl, B1.out⟩
theorem names_st (W : World) (t : TypeId) : StS (W.alloc (.cells #[.string ⟨#[109, 105, 110, 105, 109, 117, 109]⟩, .string ⟨#[109, 97, 120, 105, 109, 117, 109]⟩, .string ⟨#[111, 110, 108, 121]⟩] t)) (.slice (some ⟨W.heap.size, 0, none⟩) 3 3) Yr.names := by
  refine ⟨some ⟨W.heap.size, 0, none⟩, 3, rfl, fun _ => ⟨_, rfl, by simp, ?_⟩⟩
  intro j u hj
  match j, hj with
  | 0, hj => rw [← (Option.some.inj hj)]; simp [go_sem]
  | 1, hj => rw [← (Option.some.inj hj)]; simp [go_sem]
  | 2, hj => rw [← (Option.some.inj hj)]; simp [go_sem]
  | (j + 3), hj => simp [Yr.names] at hj
theorem ymat (s : ByteArray) (hs : s.size ≤ 1000) : ∃ k q, Yr.word s.data.toList = (k, q) ∧ (q = 0 ∨ q = 3) ∧ (0 ≤ k ∧ k ≤ 3) ∧ Hid (∀ (W : World) (t : TypeId), Calls Tryd.prog 150 #[.string s, .slice (some ⟨W.heap.size, 0, none⟩) 3 3] (W.alloc (.cells #[.string ⟨#[109, 105, 110, 105, 109, 117, 109]⟩, .string ⟨#[109, 97, 120, 105, 109, 117, 109]⟩, .string ⟨#[111, 110, 108, 121]⟩] t)) fun e w' => e = .returned (.tuple #[.int .i64 k, .int .i64 q]) ∧ ∃ n, w' = (W.alloc (.cells #[.string ⟨#[109, 105, 110, 105, 109, 117, 109]⟩, .string ⟨#[109, 97, 120, 105, 109, 117, 109]⟩, .string ⟨#[111, 110, 108, 121]⟩] t)).drewN n) := by
  obtain ⟨b0, b1, b2⟩ := Wd.mat_bd s.data.toList Yr.names
  refine ⟨(Wd.mat s.data.toList Yr.names).1, (Wd.mat s.data.toList Yr.names).2, rfl, ?_, ⟨b0, b1⟩, fun W t => ?_⟩
  · rcases b2 with h | ⟨h, _⟩
    · exact .inl h
    · exact .inr h
  · exact match_any s _ Yr.names _ (names_st W t) (by unfold maxLen; omega) (by decide) (by decide)
set_option maxHeartbeats 1000000 in
theorem yword_yes (s : ByteArray) (k : Int) (w : World) (hs : s.size ≤ 1000) (h : Yr.word s.data.toList = (k, 0)) :
    Calls Tryd.prog 90 #[.string s] w fun e w' => e = .returned (.int .i64 k) ∧ Below w.heap.size w w' := by
  obtain ⟨k2, q2, e, -, -, C⟩ := ymat s hs
  rw [h] at e
  obtain ⟨rfl, rfl⟩ : k = k2 ∧ (0 : Int) = q2 := ⟨congrArg Prod.fst e, congrArg Prod.snd e⟩
  clear h e
  go_enter Tryd.func90, Tryd.ntmps90
  go_wp2_with fail
  refine (C.out w _).mono ?_; rintro e w1 ⟨rfl, n, rfl⟩
  go_wp2_with fail
  refine (muti_yes k _).mono ?_; rintro e w2 ⟨rfl, rfl⟩
  go_wp2_with fail
  go_ret
  exact ⟨rfl, below_new _ _ _⟩
set_option maxHeartbeats 1000000 in
theorem yword_no (s : ByteArray) (q : Int) (w : World) (hs : s.size ≤ 1000) (h : (Yr.word s.data.toList).2 = q) (hq : q ≠ 0) :
    Calls Tryd.prog 90 #[.string s] w fun e w' => e = .panicked (gvP q) ∧ Below w.heap.size w w' := by
  obtain ⟨k2, q2, e, -, -, C⟩ := ymat s hs
  rw [e] at h
  obtain rfl : q2 = q := h
  clear e
  go_enter Tryd.func90, Tryd.ntmps90
  go_wp2_with fail
  refine (C.out w _).mono ?_; rintro e w1 ⟨rfl, n, rfl⟩
  go_wp2_with fail
  refine (muti_no k2 q2 _ hq).mono ?_; rintro e w2 ⟨rfl, rfl⟩
  refine (show bodyPost _ _ _ (Exit.panic (gvP q2)) _ _ from ?_)
  exact ⟨rfl, rfl, below_new _ _ _⟩
end Go.Proofs.YtafnnnbefabofaaDoor

