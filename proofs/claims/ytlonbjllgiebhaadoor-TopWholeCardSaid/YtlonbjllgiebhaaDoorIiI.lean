/- A list of whole numbers that came in. -/
import Derived.Test.YtlonbjllgiebhaaDoorSl
import Derived.Deep.Slices
import Derived.OpenShut
import Derived.LaidMore
import Derived.ChangeArms
import Derived.WalkSmall
set_option linter.unusedVariables false
set_option linter.unusedSimpArgs false
namespace Go.Proofs.YtlonbjllgiebhaaDoor
open Go.RowKit Go.Sort Go.ChangeShapes Go.Deep

/-- A slice value that reads as whole numbers. -/
def IiS (w : World) (v : Value) (l : List Int) : Prop := Lst w w.heap.size v l.length (l.map (Value.int .i64))
theorem IiS.on {w w' : World} {v : Value} {l : List Int} (h : IiS w v l) (k : Below w.heap.size w w') : IiS w' v l := Lst.on h k
theorem IiS.get {w : World} {A : Option Addr} {n c : Nat} {l : List Int} (h : IiS w (.slice A n c) l) (k : Nat) (hk : k < l.length) : ∃ a, A = some a ∧ w.cell? (a.add k) = some (.int .i64 l[k]) := by
  obtain ⟨A', c', hv, ha⟩ := h
  cases hv
  obtain ⟨a, e, hb, hc⟩ := ha (by omega)
  refine ⟨a, e, hc k _ ?_⟩
  rw [List.getElem?_map, List.getElem?_eq_getElem hk]; rfl
theorem IiS.len {w : World} {A : Option Addr} {n c : Nat} {l : List Int} (h : IiS w (.slice A n c) l) : n = l.length := by
  obtain ⟨A', c', hv, _⟩ := h
  cases hv; rfl
theorem cellsIiI : Tryd.prog.cellsOf 2 = 1 := by kernel_rfl
theorem ii_bound {x : Int} (h : (Lit.int .i64 x).wf = true) : -9223372036854775808 ≤ x ∧ x ≤ 9223372036854775807 := by
  simp [Lit.wf, IntKind.min, IntKind.max, IntKind.signed, IntKind.bits] at h
  exact ⟨by omega, by omega⟩
/-- A number's value. -/
def iiVal : Value → Int
  | .int _ b => b
  | _ => 0
section
variable {H : Type} {enc : TypeId × Value → H} {w : World} {base : Nat} {spare : Nat → Bool} {held : Bool}
set_option maxRecDepth 100000 in
theorem ints_in {A : Option Addr} {n c : Nat} {fuel : Nat} {x : DataW H × List MemPlace} (h : DataW.trod enc Tryd.prog w base spare held fuel 22 [.slice A n c] = some x) :
    ∃ l : List Int, IiS w (.slice A n c) l ∧ n ≤ c ∧ c ≤ maxLen ∧ ∀ y ∈ l, -9223372036854775808 ≤ y ∧ y ≤ 9223372036854775807 := by
  rcases open_slice1 Tryd.underlying22 cellsIiI h with ⟨hcs, _⟩ | ⟨a, len, cap, m, k, V, D, Pl, hcs, _, hl, hm, hmm, _, hV⟩
  · injection hcs with h1 _
    injection h1 with h2 h3 h4
    subst h2; subst h3; subst h4
    exact ⟨[], Lst.nil _ _, Nat.le_refl _, Nat.zero_le _, by intro y hy; cases hy⟩
  · injection hcs with h1 _
    injection h1 with h2 h3 h4
    subst h2; subst h3; subst h4
    have hle : n ≤ m := by rw [hmm]; split <;> omega
    have item : ∀ i, i < n → V i = .int .i64 (iiVal (V i)) ∧ (-9223372036854775808 ≤ iiVal (V i) ∧ iiVal (V i) ≤ 9223372036854775807) ∧ w.cell? (a.add i) = some (V i) := fun i hi => by
      obtain ⟨g, ht⟩ := hV i (by omega)
      obtain ⟨b, e, _, hw⟩ := DataW.trod_int Tryd.underlying2 ht
      have e2 : V i = .int .i64 b := by simpa using e
      rw [g, e2]
      exact ⟨rfl, ii_bound hw, rfl⟩
    refine ⟨(List.range n).map fun i => iiVal (V i), ⟨some a, c, by simp, fun hpos => ⟨a, rfl, ?_, ?_⟩⟩, hl, hm, ?_⟩
    · have hpos' : 0 < n := by simpa using hpos
      have := World.block_lt_of_cell? _ _ (item 0 hpos').2.2
      rwa [blk_add] at this
    · intro j u hj
      have hjl : j < n := by
        have := (List.getElem?_eq_some_iff.1 hj).1
        simpa using this
      have e : u = .int .i64 (iiVal (V j)) := by
        simp [hjl] at hj
        exact hj.symm
      rw [e, ← (item j hjl).1]
      exact (item j hjl).2.2
    · intro y hy
      obtain ⟨i, hi, rfl⟩ := List.mem_map.1 hy
      exact (item i (List.mem_range.1 hi)).2.1
end
end Go.Proofs.YtlonbjllgiebhaaDoor
