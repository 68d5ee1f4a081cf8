/- A block's cells, as an equation of the heap. -/
import Derived.Test.YtmnmmbeageddkaaSl
import Derived.Test.YtmnmmbeageddkaaSpA0
import Derived.RangeFuncNested
import Derived.RangeFuncBound
import Derived.RangeFuncCalls
import Derived.RangeFuncLeaves
import Derived.Shelf.Abstract
import Derived.Shelf.RegionOpen
import Derived.WalkKit
import Derived.OwnWalkIn
import Derived.TacticsInMore
import Derived.LoopNIn
import Derived.LoopIn
import Derived.RangeFuncBox
import Derived.Maps.AppendAt
set_option linter.unusedVariables false
set_option linter.unusedSimpArgs false
namespace Go.Proofs.Ytmnmmbeageddkaa
open Go.RowKit Go.Sort Go.Shelf

attribute [local go_sem] Oper.semAt_some

/-- Block B holds just these cells. -/
def Blk (W : World) (B : Nat) (t : TypeId) (vs : Array Value) : Prop := W.heap[B]? = some (.cells vs t (0, 0))
theorem Blk.lt {W : World} {B : Nat} {t : TypeId} {vs : Array Value} (h : Blk W B t vs) : B < W.heap.size := (Array.getElem?_eq_some_iff.1 h).1
theorem Blk.new (W : World) (t : TypeId) (vs : Array Value) : Blk (W.alloc (.cells vs t)) W.heap.size t vs := World.alloc_heap_new W _
theorem Blk.newAt {W : World} {B : Nat} (t : TypeId) (vs : Array Value) (h : B = W.heap.size) : Blk (W.alloc (.cells vs t)) B t vs := by rw [h]; exact Blk.new W t vs
theorem Blk.kept {W W' : World} {row : Option Nat} {B : Nat} {t : TypeId} {vs : Array Value} (h : Blk W B t vs) (hg : W.grownBy W' row) (hne : some B ≠ row) : Blk W' B t vs := (hg.block B h.lt hne).trans h
theorem Blk.alloc {W : World} {B : Nat} {t : TypeId} {vs : Array Value} (h : Blk W B t vs) (o : Obj) : Blk (W.alloc o) B t vs := h.kept (World.grownBy_alloc W o none) (by simp)
theorem Blk.on {W W' : World} {B : Nat} {t : TypeId} {vs : Array Value} (h : Blk W B t vs) (k : Below W.heap.size W W') : Blk W' B t vs := (k.block B h.lt).trans h
theorem Blk.not_row {W : World} {B : Nat} {t e : TypeId} {vs : Array Value} (h : Blk W B t vs) (hte : t ≠ e) {base size k : Nat} {v : Value} {xs : List Value} (hr : W.ownsRow base e size v k xs) : some B ≠ v.ownBlock := by
  rcases hr.2 with ⟨rfl, _⟩ | ⟨g, cap, cur, rfl, _, hgb, _⟩
  · simp [Value.ownBlock]
  · intro e'
    obtain rfl : B = g := by simpa [Value.ownBlock] using e'
    have := (show W.heap[B]? = _ from h).symm.trans hgb
    simp at this
    exact hte this.2
theorem Blk.other {W : World} {B B' : Nat} {t : TypeId} {vs : Array Value} (h : Blk W B t vs) (hne : B ≠ B') (u : Value) : Blk (W.setCell ⟨B', 0, none⟩ u) B t vs := h.kept (grownBy_setCell' W B' u) (fun e => hne (by cases e; rfl))
theorem blk_own {β : Type} (B : Nat) (t : TypeId) (f : β → Array Value) : Own (fun s W => Blk W B t (f s)) := fun s X Y row hs hg hrow =>
  hs.kept hg (fun e' => by obtain ⟨o, ho, hc⟩ := hrow B e'.symm; rw [show X.heap[B]? = _ from hs] at ho; cases ho; cases hc)
theorem Blk.c0 {W : World} {B : Nat} {t : TypeId} {v : Value} {vs : List Value} (h : Blk W B t (v :: vs).toArray) : W.cell? ⟨B, 0, none⟩ = some v := by simp [World.cell?, show W.heap[B]? = _ from h]
theorem Blk.c1 {W : World} {B : Nat} {t : TypeId} {u v : Value} {vs : List Value} (h : Blk W B t (u :: v :: vs).toArray) : W.cell? ⟨B, 1, none⟩ = some v := by simp [World.cell?, show W.heap[B]? = _ from h]
theorem Blk.c2 {W : World} {B : Nat} {t : TypeId} {u u' v : Value} {vs : List Value} (h : Blk W B t (u :: u' :: v :: vs).toArray) : W.cell? ⟨B, 2, none⟩ = some v := by simp [World.cell?, show W.heap[B]? = _ from h]
theorem Blk.frozen {W : World} {B : Nat} {t : TypeId} {vs : Array Value} (h : Blk W B t vs) (j : Nat) : W.frozen? ⟨B, j, none⟩ = false := by simp [World.frozen?, show W.heap[B]? = _ from h]

end Go.Proofs.Ytmnmmbeageddkaa
