/- Rules far enough from each other: in plain numbers and lists. -/
import Derived.Test.YtjnhaabbnbcaeaaRuA
import Derived.Test.YtjnhaabbnbcaeaaDrC
set_option linter.unusedVariables false
set_option linter.unusedSimpArgs false
namespace Go.Proofs.Ytjnhaabbnbcaeaa
open Go.RowKit

namespace Aw
/-- A rule: its name, its years, its month, its day, its time of day, what it saves, its letter. -/
abbrev R := ByteArray × Int × Int × Int × Int × Int × Int × Int × Int × Int × ByteArray
def enc : R → List Value
  | (s, fy, ty, m, k, wk, d, sec, base, save, t) => [.string s, .int .i64 fy, .int .i64 ty, .int .i64 m, .int .i64 k, .int .i64 wk, .int .i64 d, .int .i64 sec, .int .i64 base, .int .i64 save, .string t]
abbrev RV (r : R) : Value := .agg (enc r).toArray
def rt : R → Bool
  | (s, fy, ty, m, k, wk, d, sec, base, save, t) => Ru.rB s t fy ty m k wk d sec base save
/-- Its window, and why there is none. -/
def lo : R → Int
  | (s, fy, ty, m, k, wk, d, sec, base, save, t) => if Ru.rB s t fy ty m k wk d sec base save = true then (Cal.cum 2001 m + Dr.low k d m - 1) * 86400 + sec else 0
def hi : R → Int
  | (s, fy, ty, m, k, wk, d, sec, base, save, t) => if Ru.rB s t fy ty m k wk d sec base save = true then (Cal.cum 2001 m + Dr.high k d m - 1) * 86400 + sec else 0
def wy (r : R) : Int := if rt r = true then 0 else 4
/-- What of a rule is asked for. -/
abbrev C := Int × Int × Int × Int × Int
def rc (r : R) : C := (r.2.1, r.2.2.1, lo r, hi r, wy r)
def encC (c : C) : List Value := [.int .i64 c.1, .int .i64 c.2.1, .int .i64 c.2.2.1, .int .i64 c.2.2.2.1, .int .i64 c.2.2.2.2]
abbrev CV (c : C) : Value := .agg (encC c).toArray
/-- A window is not far from a year, and years are of few digits. -/
def Ok (c : C) : Prop := c.2.2.2.2 = 0 → (-32767 ≤ c.1 ∧ c.1 ≤ 32767) ∧ (-32767 ≤ c.2.1 ∧ c.2.1 ≤ 32767) ∧ (-100000000 ≤ c.2.2.1 ∧ c.2.2.1 ≤ 100000000) ∧ (-100000000 ≤ c.2.2.2.1 ∧ c.2.2.2.1 ≤ 100000000)
def inY (a b : C) (n : Int) : Bool := decide (max (a.1 + n) b.1 ≤ min (a.2.1 + n) b.2.1)
def isB (a b : C) (n : Int) : Bool := decide (345600 ≤ b.2.2.1 + n * 31536000 - a.2.2.2.1)
def near (a b : C) : Bool := (inY a b 0 && (!isB a b 0 && !isB b a 0)) || ((inY a b 1 && !isB a b 1) || (inY b a 1 && !isB b a 1))
/-- Whether two are too close. -/
def pr (a b : C) : Int := if a.2.2.2.2 = 0 ∧ b.2.2.2.2 = 0 then (if near a b then 15 else 0) else 4
/-- The first one of some that is too close to one. -/
def fst0 (c : C) : List C → Int
  | [] => 0
  | o :: r => if pr o c = 0 then fst0 c r else pr o c
def named (s : ByteArray) (l : List R) : List C := (l.filter fun x => decide (x.1 = s)).map rc
/-- Of some rules the first that is too close to one ahead of it; j: how many are ahead. -/
def ck (pre : List R) : List R → Int × Int
  | [] => (-1, 0)
  | r :: t => if fst0 (rc r) (named r.1 pre) = 0 then ck (pre ++ [r]) t else (pre.length, fst0 (rc r) (named r.1 pre))
/-- The same, one beside the other. -/
def fstN (r : R) : List R → Int
  | [] => 0
  | x :: t => if x.1 = r.1 then (if pr (rc x) (rc r) = 0 then fstN r t else pr (rc x) (rc r)) else fstN r t
theorem fstN_eq (r : R) (l : List R) : fstN r l = fst0 (rc r) (named r.1 l) := by
  induction l with
  | nil => rfl
  | cons x t ih =>
    unfold fstN
    by_cases h : x.1 = r.1
    · rw [if_pos h]
      have e : named r.1 (x :: t) = rc x :: named r.1 t := by unfold named; rw [List.filter_cons, if_pos (decide_eq_true h)]; rfl
      rw [e]
      show _ = if pr (rc x) (rc r) = 0 then fst0 (rc r) (named r.1 t) else pr (rc x) (rc r)
      rw [ih]
    · rw [if_neg h, ih]
      have e : named r.1 (x :: t) = named r.1 t := by unfold named; rw [List.filter_cons, if_neg (by rw [decide_eq_false h]; decide)]
      rw [e]
theorem ck_at (l : List R) (j : Nat) (h : j < l.length) : ck (l.take j) (l.drop j) = if fst0 (rc l[j]) (named l[j].1 (l.take j)) = 0 then ck (l.take (j + 1)) (l.drop (j + 1)) else ((j : Int), fst0 (rc l[j]) (named l[j].1 (l.take j))) := by
  rw [List.drop_eq_getElem_cons h]
  show (if fst0 (rc l[j]) (named l[j].1 (l.take j)) = 0 then ck (l.take j ++ [l[j]]) (l.drop (j + 1)) else (((l.take j).length : Int), fst0 (rc l[j]) (named l[j].1 (l.take j)))) = _
  rw [List.take_succ_eq_append_getElem h, List.length_take]
  have e : min j l.length = j := by omega
  rw [e]
theorem ck_end (pre l : List R) (j : Nat) (h : l.length ≤ j) : ck pre (l.drop j) = (-1, 0) := by rw [List.drop_of_length_le h]; rfl
theorem named_app (s : ByteArray) (l : List R) (r : R) : named s (l ++ [r]) = named s l ++ (if r.1 = s then [rc r] else []) := by
  unfold named
  rw [List.filter_append, List.map_append]
  by_cases h : r.1 = s
  · rw [if_pos h]; simp [h]
  · rw [if_neg h]; simp [h]
theorem ok_rc (r : R) : Ok (rc r) := by
  obtain ⟨s, fy, ty, m, k, wk, d, sec, base, save, t⟩ := r
  intro h
  have h1 : Ru.rB s t fy ty m k wk d sec base save = true := by
    cases hh : Ru.rB s t fy ty m k wk d sec base save
    · exfalso
      have : wy (s, fy, ty, m, k, wk, d, sec, base, save, t) = 4 := if_neg (by show ¬ Ru.rB s t fy ty m k wk d sec base save = true; rw [hh]; decide)
      have h' : wy (s, fy, ty, m, k, wk, d, sec, base, save, t) = 0 := h
      omega
    · rfl
  have h2 := h1
  unfold Ru.rB at h2
  simp only [Bool.and_eq_true, decide_eq_true_eq] at h2
  obtain ⟨-, y0, y1, y2, of, cr, -⟩ := h2
  obtain ⟨o1, m1, m2, d2⟩ := Dr.onF_true.1 of
  have cb := Cal.cum_bd 2001 m m1 m2
  have ll := Dr.len_2001 2001 m m1 m2
  have lp : Cal.lp 2001 = 0 := by decide
  unfold Cl.rB at cr
  simp only [Bool.and_eq_true, decide_eq_true_eq] at cr
  have hl : -5 ≤ Dr.low k d m ∧ Dr.low k d m ≤ 31 := by
    rcases Dr.onR_true.1 o1 with ⟨rfl, -, a, b⟩ | ⟨rfl, -, -, -⟩ | ⟨rfl | rfl, -, -, a, b⟩ <;> simp [Dr.low] <;> omega
  have hh : 1 ≤ Dr.high k d m ∧ Dr.high k d m ≤ 37 := by
    rcases Dr.onR_true.1 o1 with ⟨rfl, -, a, b⟩ | ⟨rfl, -, -, -⟩ | ⟨rfl | rfl, -, -, a, b⟩ <;> simp [Dr.high] <;> omega
  have e1 : lo (s, fy, ty, m, k, wk, d, sec, base, save, t) = (Cal.cum 2001 m + Dr.low k d m - 1) * 86400 + sec := if_pos h1
  have e2 : hi (s, fy, ty, m, k, wk, d, sec, base, save, t) = (Cal.cum 2001 m + Dr.high k d m - 1) * 86400 + sec := if_pos h1
  show (-32767 ≤ fy ∧ fy ≤ 32767) ∧ (-32767 ≤ ty ∧ ty ≤ 32767) ∧ (-100000000 ≤ lo (s, fy, ty, m, k, wk, d, sec, base, save, t) ∧ lo (s, fy, ty, m, k, wk, d, sec, base, save, t) ≤ 100000000) ∧ (-100000000 ≤ hi (s, fy, ty, m, k, wk, d, sec, base, save, t) ∧ hi (s, fy, ty, m, k, wk, d, sec, base, save, t) ≤ 100000000)
  rw [e1, e2]
  omega
end Aw
end Go.Proofs.Ytjnhaabbnbcaeaa
