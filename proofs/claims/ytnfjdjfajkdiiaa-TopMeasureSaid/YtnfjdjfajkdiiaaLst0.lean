/- Slices of numbers with a floating point. -/
import Derived.Test.YtnfjdjfajkdiiaaFe
import Derived.Test.YtnfjdjfajkdiiaaSl
set_option linter.unusedVariables false
set_option linter.unusedSimpArgs false
namespace Go.Proofs.Ytnfjdjfajkdiiaa
open Go.RowKit Go.Sort

/-- The cells of words. -/
def flc (l : List Nat) : List Value := l.map (Value.float .f64)
/-- A slice value that reads as words. -/
def FlS (w : World) (v : Value) (l : List Nat) : Prop := Lst w w.heap.size v l.length (flc l)
theorem FlS.on {w w' : World} {v : Value} {l : List Nat} (h : FlS w v l) (k : Below w.heap.size w w') : FlS w' v l := Lst.on h k
theorem FlS.get {w : World} {A : Option Addr} {n c : Nat} {l : List Nat} (h : FlS w (.slice A n c) l) (k : Nat) (hk : k < l.length) : ∃ a, A = some a ∧ w.cell? (a.add k) = some (.float .f64 l[k]) := by
  obtain ⟨A', c', hv, ha⟩ := h
  cases hv
  obtain ⟨a, e, hb, hc⟩ := ha (by omega)
  refine ⟨a, e, hc k _ ?_⟩
  unfold flc
  rw [List.getElem?_map, List.getElem?_eq_getElem hk]; rfl
theorem FlS.len {w : World} {A : Option Addr} {n c : Nat} {l : List Nat} (h : FlS w (.slice A n c) l) : n = l.length := by
  obtain ⟨A', c', hv, _⟩ := h
  cases hv; rfl

namespace Fl
def cmpR (a b : Nat) : Int := if a < b then -1 else if b < a then 1 else 0
/-- The least one, by ranks; the first one of those that are alike. -/
def mn : List Nat → Nat
  | [] => 0
  | x :: l => l.foldl (fun m y => if rk y < rk m then y else m) x
theorem mn_snoc (l : List Nat) (h : l ≠ []) (y : Nat) : mn (l ++ [y]) = if rk y < rk (mn l) then y else mn l := by
  cases l with
  | nil => exact absurd rfl h
  | cons x l =>
    show (l ++ [y]).foldl _ x = _
    rw [List.foldl_append]; rfl
theorem take_ne {l : List Nat} {k : Nat} (h0 : 1 ≤ k) (h : k ≤ l.length) : l.take k ≠ [] := by
  intro e
  have h2 : (l.take k).length = 0 := by rw [e]; rfl
  rw [List.length_take] at h2
  omega
theorem mn_take (l : List Nat) (k : Nat) (h0 : 1 ≤ k) (h : k < l.length) : mn (l.take (k + 1)) = if rk l[k] < rk (mn (l.take k)) then l[k] else mn (l.take k) := by
  rw [List.take_succ_eq_append_getElem h]
  exact mn_snoc _ (take_ne h0 (by omega)) _
theorem mn_mem (l : List Nat) (h : l ≠ []) : mn l ∈ l ∧ ∀ y ∈ l, rk (mn l) ≤ rk y := by
  cases l with
  | nil => exact absurd rfl h
  | cons x l =>
    have key : ∀ (l : List Nat) (m : Nat), (l.foldl (fun m y => if rk y < rk m then y else m) m = m ∨ l.foldl (fun m y => if rk y < rk m then y else m) m ∈ l) ∧ rk (l.foldl (fun m y => if rk y < rk m then y else m) m) ≤ rk m ∧ ∀ y ∈ l, rk (l.foldl (fun m y => if rk y < rk m then y else m) m) ≤ rk y := by
      intro l
      induction l with
      | nil => intro m; exact ⟨.inl rfl, Nat.le_refl _, fun y hy => by simp at hy⟩
      | cons z l ih =>
        intro m
        simp only [List.foldl_cons]
        by_cases hz : rk z < rk m
        · rw [if_pos hz]
          obtain ⟨a, b, c⟩ := ih z
          refine ⟨.inr ?_, by omega, ?_⟩
          · rcases a with a | a
            · rw [a]; simp
            · exact List.mem_cons_of_mem _ a
          · intro y hy
            rcases List.mem_cons.1 hy with rfl | hy
            · exact b
            · exact c y hy
        · rw [if_neg hz]
          obtain ⟨a, b, c⟩ := ih m
          refine ⟨?_, b, ?_⟩
          · rcases a with a | a
            · exact .inl a
            · exact .inr (List.mem_cons_of_mem _ a)
          · intro y hy
            rcases List.mem_cons.1 hy with rfl | hy
            · omega
            · exact c y hy
    obtain ⟨a, b, c⟩ := key l x
    refine ⟨?_, ?_⟩
    · show l.foldl _ x ∈ _
      rcases a with a | a
      · rw [a]; simp
      · exact List.mem_cons_of_mem _ a
    · intro y hy
      show rk (l.foldl _ x) ≤ _
      rcases List.mem_cons.1 hy with rfl | hy
      · exact b
      · exact c y hy
end Fl
end Go.Proofs.Ytnfjdjfajkdiiaa
