/- Parts, in plain lists: right ones; which count in a span; merged; lists of parts in memory. -/
import Derived.Test.YtnfjdjfajkdiiaaSl
import Derived.Test.YtnfjdjfajkdiiaaSpA0
set_option linter.unusedVariables false
set_option linter.unusedSimpArgs false
namespace Go.Proofs.Ytnfjdjfajkdiiaa
open Go.RowKit Go.Sort

namespace Mn
/-- A part: from, to, what holds. -/
abbrev P := Int × Int × Int
def ptc (l : List P) : List Value := l.flatMap fun p => [.int .i64 p.1, .int .i64 p.2.1, .int .i64 p.2.2]
theorem ptc_app (l k : List P) : ptc (l ++ k) = ptc l ++ ptc k := by unfold ptc; rw [List.flatMap_append]
theorem ptc_cons (p : P) (l : List P) : ptc (p :: l) = .int .i64 p.1 :: .int .i64 p.2.1 :: .int .i64 p.2.2 :: ptc l := rfl
theorem ptc_at (l : List P) (k : Nat) (h : k < l.length) : (ptc l)[k * 3]? = some (.int .i64 l[k].1) ∧ (ptc l)[k * 3 + 1]? = some (.int .i64 l[k].2.1) ∧ (ptc l)[k * 3 + 2]? = some (.int .i64 l[k].2.2) := by
  induction l generalizing k with
  | nil => exact absurd h (by simp)
  | cons p l ih =>
    cases k with
    | zero => exact ⟨rfl, rfl, rfl⟩
    | succ k =>
      have := ih k (by simpa using h)
      rw [ptc_cons, show (k + 1) * 3 = k * 3 + 1 + 1 + 1 by omega]
      simpa using this
/-- Are parts right, behind one that ends so? -/
def rt : Option Int → List P → Bool
  | _, [] => true
  | o, p :: r => Sp.rb p.1 p.2.1 && (match o with | none => true | some t => decide (t ≤ p.1)) && rt (some p.2.1) r
/-- The part that counts of one, in a span. -/
def bt (s0 s1 : Int) (p : P) : Option P := if Sp.mt p.1 p.2.1 s0 s1 then some (max p.1 s0, min p.2.1 s1, p.2.2) else none
def cnt (s0 s1 : Int) (l : List P) : List P := l.filterMap (bt s0 s1)
theorem cnt_len (s0 s1 : Int) (l : List P) : (cnt s0 s1 l).length ≤ l.length := List.length_filterMap_le _ _
theorem cnt_take (s0 s1 : Int) (l : List P) (k : Nat) (h : k < l.length) : cnt s0 s1 (l.take (k + 1)) = cnt s0 s1 (l.take k) ++ (bt s0 s1 l[k]).toList := by
  unfold cnt
  rw [List.take_succ_eq_append_getElem h, List.filterMap_append]
  congr 1
theorem rt_drop (o : Option Int) (l : List P) (k : Nat) (h : k < l.length) : rt o (l.drop k) = (Sp.rb l[k].1 l[k].2.1 && (match o with | none => true | some t => decide (t ≤ l[k].1)) && rt (some l[k].2.1) (l.drop (k + 1))) := by
  rw [List.drop_eq_getElem_cons h]; rfl
/-- Least and greatest. -/
def eb : Bool × Int × Int → P → Bool × Int × Int
  | (is, a, b), p => (true, if is then min a p.2.2 else p.2.2, if is then max b p.2.2 else p.2.2)
def ends (l : List P) : Bool × Int × Int := l.foldl eb (false, 0, 0)
theorem ends_snoc (l : List P) (p : P) : ends (l ++ [p]) = eb (ends l) p := by unfold ends; rw [List.foldl_append]; rfl
theorem ends_is (l : List P) : (ends l).1 = !l.isEmpty := by
  have key : ∀ (l : List P) (e : Bool × Int × Int), (l.foldl eb e).1 = (e.1 || !l.isEmpty) := by
    intro l
    induction l with
    | nil => intro e; simp
    | cons p l ih => intro e; rw [List.foldl_cons, ih]; simp [eb]
  rw [ends, key]; rfl
/-- One part more behind those that are merged. -/
def mg (out : List P) (p : P) : List P :=
  match out.getLast? with
  | none => [p]
  | some q => if q.2.2 = p.2.2 ∧ q.2.1 = p.1 then out.dropLast ++ [(q.1, p.2.1, q.2.2)] else out ++ [p]
def merge (l : List P) : List P := l.foldl mg []
theorem merge_take (l : List P) (k : Nat) (h : k < l.length) : merge (l.take (k + 1)) = mg (merge (l.take k)) l[k] := by
  unfold merge
  rw [List.take_succ_eq_append_getElem h, List.foldl_append]; rfl
theorem mg_len (out : List P) (p : P) : (mg out p).length ≤ out.length + 1 := by
  unfold mg
  cases h : out.getLast? with
  | none => simp
  | some q =>
    simp only
    split
    · simp
    · simp
theorem merge_len (l : List P) : (merge l).length ≤ l.length := by
  have key : ∀ (l out : List P), (l.foldl mg out).length ≤ out.length + l.length := by
    intro l
    induction l with
    | nil => intro out; simp
    | cons p l ih => intro out; rw [List.foldl_cons, List.length_cons]; have := ih (mg out p); have := mg_len out p; omega
  simpa [merge] using key l []
end Mn
/-- A value that reads as a list of parts. -/
def PtV (w : World) (v : Value) (l : List Mn.P) : Prop := Lst w w.heap.size v l.length (Mn.ptc l)
theorem PtV.on {w w' : World} {v : Value} {l : List Mn.P} (h : PtV w v l) (k : Below w.heap.size w w') : PtV w' v l := Lst.on h k
theorem PtV.own {w : World} {base : Nat} {e : TypeId} {v : Value} {l : List Mn.P} (h : w.ownsRow base e 3 v l.length (Mn.ptc l)) : PtV w v l := Lst.own h
theorem PtV.nil (w : World) : PtV w (.slice none 0 0) [] := Lst.nil _ _
theorem PtV.get {w : World} {A : Option Addr} {n c : Nat} {l : List Mn.P} (h : PtV w (.slice A n c) l) (k : Nat) (hk : k < l.length) : ∃ a, A = some a ∧ a.block < w.heap.size ∧ w.cell? (a.add (k * 3)) = some (.int .i64 l[k].1) ∧ w.cell? ⟨(a.add (k * 3)).block, (a.add (k * 3)).off + 1, none⟩ = some (.int .i64 l[k].2.1) ∧ w.cell? ⟨(a.add (k * 3)).block, (a.add (k * 3)).off + 2, none⟩ = some (.int .i64 l[k].2.2) := by
  obtain ⟨A', c', hv, ha⟩ := h
  cases hv
  obtain ⟨a, e, hb, hc⟩ := ha (by omega)
  obtain ⟨h1, h2, h3⟩ := Mn.ptc_at l k hk
  refine ⟨a, e, hb, hc _ _ h1, ?_, ?_⟩
  · have e : (⟨(a.add (k * 3)).block, (a.add (k * 3)).off + 1, none⟩ : Addr) = a.add (k * 3 + 1) := by rw [← add_two]; rfl
    rw [e]; exact hc _ _ h2
  · have e : (⟨(a.add (k * 3)).block, (a.add (k * 3)).off + 2, none⟩ : Addr) = a.add (k * 3 + 2) := by rw [← add_two]; rfl
    rw [e]; exact hc _ _ h3
theorem PtV.len {w : World} {A : Option Addr} {n c : Nat} {l : List Mn.P} (h : PtV w (.slice A n c) l) : n = l.length := by
  obtain ⟨A', c', hv, _⟩ := h
  cases hv; rfl
end Go.Proofs.Ytnfjdjfajkdiiaa
