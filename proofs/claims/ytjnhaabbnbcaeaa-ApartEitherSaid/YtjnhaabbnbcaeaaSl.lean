/- Slices that read as lists of cells; appended rows. -/
import Derived.Test.YtjnhaabbnbcaeaaBk
import Derived.OwnWalk
import Derived.Laws.OwnMore
import Derived.Deep.AppendLies
import Derived.Deep.Draws
set_option linter.unusedVariables false
set_option linter.unusedSimpArgs false
namespace Go.Proofs.Ytjnhaabbnbcaeaa
open Go.RowKit Go.Sort

theorem blk_add (a : Addr) (j : Nat) : (a.add j).block = a.block := by unfold Addr.add; split <;> rfl
theorem add_two (a : Addr) (i j : Nat) : (a.add i).add j = a.add (i + j) := by
  unfold Addr.add
  by_cases hi : i = 0 <;> by_cases hj : j = 0 <;> simp [hi, hj, Nat.add_assoc]
/-- A slice of n elements that reads as the cells xs; its block lies below B. -/
def Lst (w : World) (B : Nat) (v : Value) (n : Nat) (xs : List Value) : Prop :=
  ∃ A c, v = .slice A n c ∧ (0 < n → ∃ a, A = some a ∧ a.block < B ∧ ∀ (j : Nat) (u : Value), xs[j]? = some u → w.cell? (a.add j) = some u)
theorem Lst.nil (w : World) (B : Nat) : Lst w B (.slice none 0 0) 0 [] := ⟨none, 0, rfl, fun h => absurd h (by omega)⟩
theorem Lst.keep {w w' : World} {B : Nat} {v : Value} {n : Nat} {xs : List Value} (h : Lst w B v n xs) (k : ∀ p : Addr, p.block < B → w'.cell? p = w.cell? p) : Lst w' B v n xs := by
  obtain ⟨A, c, hv, ha⟩ := h
  refine ⟨A, c, hv, fun hn => ?_⟩
  obtain ⟨a, e, hb, hc⟩ := ha hn
  exact ⟨a, e, hb, fun j u hu => (k _ (by rw [blk_add]; exact hb)).trans (hc j u hu)⟩
theorem Lst.more {w : World} {B B' : Nat} {v : Value} {n : Nat} {xs : List Value} (h : Lst w B v n xs) (k : B ≤ B') : Lst w B' v n xs := by
  obtain ⟨A, c, hv, ha⟩ := h
  refine ⟨A, c, hv, fun hn => ?_⟩
  obtain ⟨a, e, hb, hc⟩ := ha hn
  exact ⟨a, e, Nat.lt_of_lt_of_le hb k, hc⟩
theorem Lst.below {w w' : World} {B : Nat} {v : Value} {n : Nat} {xs : List Value} (h : Lst w B v n xs) (k : Below B w w') : Lst w' B v n xs := h.keep fun _ hp => k.cell hp
/-- Carried on: the world has grown behind a world that knew it all. -/
theorem Lst.on {w w' : World} {v : Value} {n : Nat} {xs : List Value} (h : Lst w w.heap.size v n xs) (k : Below w.heap.size w w') : Lst w' w'.heap.size v n xs := (h.below k).more k.size
theorem Lst.drewN {w : World} {B : Nat} {v : Value} {n : Nat} {xs : List Value} (h : Lst w B v n xs) (k : Nat) : Lst (w.drewN k) B v n xs := h
theorem Lst.own {w : World} {base : Nat} {e : TypeId} {size : Nat} {v : Value} {n : Nat} {xs : List Value} (h : w.ownsRow base e size v n xs) : Lst w w.heap.size v n xs := by
  rcases Nat.eq_zero_or_pos n with h0 | h0
  · have hx : xs = [] := by
      have := h.1
      rw [h0, Nat.zero_mul] at this
      exact List.eq_nil_of_length_eq_zero this
    rcases h.2 with ⟨hv, _⟩ | ⟨g, cap, cur, hv, _⟩
    · exact ⟨none, 0, by rw [h0]; exact hv, fun hh => absurd hh (by omega)⟩
    · exact ⟨_, _, hv, fun hh => absurd hh (by omega)⟩
  · obtain ⟨g, cap, hv, _, hlt⟩ := h.form h0
    exact ⟨_, _, hv, fun _ => ⟨_, rfl, hlt, h.cells (g := g) (by rw [hv]; rfl)⟩⟩
/-- Only one block, and what is new, has turned: all below it is as it was. -/
theorem below_grown {w w' : World} {row : Option Nat} {B : Nat} (h : w.grownBy w' row) (hB : B ≤ w.heap.size) (hr : ∀ g, row = some g → B ≤ g) : Below B w w' :=
  ⟨h.os, h.tape, h.output, h.size, fun i hi => h.block i (by omega) (fun e => by have := hr _ e.symm; omega)⟩
theorem grown_below {w w' : World} (h : Below w.heap.size w w') (row : Option Nat) : w.grownBy w' row := ⟨h.os, h.tape, h.output, h.size, fun i hi _ => h.block i hi⟩
/-- An own row stays, whatever is made behind it. -/
theorem own_on {w w' : World} {base : Nat} {e : TypeId} {size : Nat} {v : Value} {n : Nat} {xs : List Value} (h : w.ownsRow base e size v n xs) (k : Below w.heap.size w w') : w'.ownsRow base e size v n xs :=
  h.kept (grown_below k none) (by
    cases hv : v.ownBlock
    · exact .inl rfl
    · exact .inr (by simp))
/-- The row of a value lies at the base, or behind it. -/
theorem own_row {w : World} {base : Nat} {e : TypeId} {size : Nat} {v : Value} {n : Nat} {xs : List Value} (h : w.ownsRow base e size v n xs) : ∀ g, v.ownBlock = some g → base ≤ g := fun g hg => (h.lt g hg).1
/-- Two cells of a new block, as a source of an append. -/
theorem two_cells {w : World} {b : Nat} {x y : Value} (h0 : w.cell? ⟨b, 0, none⟩ = some x) (h1 : w.cell? ⟨b, 1, none⟩ = some y) : ∀ (j : Nat) (u : Value), [x, y][j]? = some u → w.cell? ((⟨b, 0, none⟩ : Addr).add j) = some u := by
  intro j u hj
  match j, hj with
  | 0, hj => simp at hj; subst hj; simpa [Addr.add] using h0
  | 1, hj => simp at hj; subst hj; simpa [Addr.add] using h1
/-- The cells of spans. -/
def spc (l : List (Int × Int)) : List Value := l.flatMap fun p => [.int .i64 p.1, .int .i64 p.2]
theorem spc_app (l k : List (Int × Int)) : spc (l ++ k) = spc l ++ spc k := by unfold spc; rw [List.flatMap_append]
theorem spc_at (l : List (Int × Int)) (k : Nat) (h : k < l.length) : (spc l)[k * 2]? = some (.int .i64 l[k].1) ∧ (spc l)[k * 2 + 1]? = some (.int .i64 l[k].2) := by
  induction l generalizing k with
  | nil => exact absurd h (by simp)
  | cons p l ih =>
    cases k with
    | zero => exact ⟨rfl, rfl⟩
    | succ k =>
      have := ih k (by simpa using h)
      have e : spc (p :: l) = .int .i64 p.1 :: .int .i64 p.2 :: spc l := rfl
      rw [e]
      rw [show (k + 1) * 2 = k * 2 + 1 + 1 by omega]
      simpa using this
/-- A value that reads as a list of spans. -/
def SpV (w : World) (v : Value) (l : List (Int × Int)) : Prop := Lst w w.heap.size v l.length (spc l)
theorem SpV.on {w w' : World} {v : Value} {l : List (Int × Int)} (h : SpV w v l) (k : Below w.heap.size w w') : SpV w' v l := Lst.on h k
theorem SpV.own {w : World} {base : Nat} {e : TypeId} {v : Value} {l : List (Int × Int)} (h : w.ownsRow base e 2 v l.length (spc l)) : SpV w v l := Lst.own h
/-- An element's cells. -/
theorem SpV.at_ {w : World} {v : Value} {l : List (Int × Int)} (h : SpV w v l) (k : Nat) (hk : k < l.length) : ∃ a c, v = .slice (some a) l.length c ∧ a.block < w.heap.size ∧ w.cell? (a.add (k * 2)) = some (.int .i64 l[k].1) ∧ w.cell? (a.add (k * 2 + 1)) = some (.int .i64 l[k].2) := by
  obtain ⟨A, c, hv, ha⟩ := h
  obtain ⟨a, e, hb, hc⟩ := ha (by omega)
  obtain ⟨h1, h2⟩ := spc_at l k hk
  exact ⟨a, c, by rw [hv, e], hb, hc _ _ h1, hc _ _ h2⟩
theorem SpV.get {w : World} {A : Option Addr} {n c : Nat} {l : List (Int × Int)} (h : SpV w (.slice A n c) l) (k : Nat) (hk : k < l.length) : ∃ a, A = some a ∧ a.block < w.heap.size ∧ w.cell? (a.add (k * 2)) = some (.int .i64 l[k].1) ∧ w.cell? ⟨(a.add (k * 2)).block, (a.add (k * 2)).off + 1, none⟩ = some (.int .i64 l[k].2) := by
  obtain ⟨a, c', hv, r⟩ := h.at_ k hk
  cases hv
  refine ⟨a, rfl, r.1, r.2.1, ?_⟩
  have e : (⟨(a.add (k * 2)).block, (a.add (k * 2)).off + 1, none⟩ : Addr) = a.add (k * 2 + 1) := by rw [← add_two]; rfl
  rw [e]
  exact r.2.2
theorem SpV.len {w : World} {A : Option Addr} {n c : Nat} {l : List (Int × Int)} (h : SpV w (.slice A n c) l) : n = l.length := by
  obtain ⟨A', c', hv, _⟩ := h
  cases hv
  rfl
/-- A slice that is no longer than its room. -/
def Cap (v : Value) : Prop := ∀ A n c, v = .slice A n c → n ≤ c
end Go.Proofs.Ytjnhaabbnbcaeaa
