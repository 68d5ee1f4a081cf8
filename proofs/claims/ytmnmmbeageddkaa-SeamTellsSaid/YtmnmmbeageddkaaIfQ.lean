/- Infos: the three ways out of a merge; lists written out. -/
import Derived.Test.YtmnmmbeageddkaaIfP
import Derived.Test.YtmnmmbeageddkaaIfF
import Derived.Test.YtmnmmbeageddkaaIfM
import Derived.Test.YtmnmmbeageddkaaIfE
set_option linter.unusedVariables false
set_option linter.unusedSimpArgs false
namespace Go.Proofs.Ytmnmmbeageddkaa
open Go.RowKit Go.Sort Go.Shelf

theorem Blk.cell {W : World} {B : Nat} {t : TypeId} {vs : Array Value} (h : Blk W B t vs) (j : Nat) : W.cell? ⟨B, j, none⟩ = vs[j]? := by
  simp [World.cell?, show W.heap[B]? = _ from h]
theorem alloc_sz (w : World) (o : Obj) : (w.alloc o).heap.size = w.heap.size + 1 := by
  show (w.heap.push o).size = _
  exact Array.size_push ..
theorem below_draw' {B : Nat} {w w1 : World} (h : Below B w w1) : Below B w w1.drew := Below.drew h
abbrev BX : ByteArray := ⟨#[88]⟩
abbrev BY : ByteArray := ⟨#[89]⟩
theorem row_of {w : World} {b : Nat} {l : List If.I} {n : Nat} (hn : n = l.length) (h : Blk w b 36 (If.ifc l).toArray) : RowC w b (If.ifc l) :=
  ⟨h.lt, fun j u hu => by rw [h.cell j]; simpa using hu, fun j _ => h.frozen j⟩
/-- Merged, in three ways. -/
theorem mg_ok {a b m : List If.I} {w w' : World} {e : Ending} (ha : (If.so none a && If.so none b) = true) (hm : If.so none m = true) (h : ∀ x, x ∈ m ↔ x ∈ a ∨ x ∈ b) (A : AnsMg a b w e w') :
    Below w.heap.size w w' ∧ ∃ v, e = .returned (.tuple #[v, .int .i64 0]) ∧ InV w' v m := by
  obtain ⟨k, ⟨h1, _⟩ | ⟨_, d, hp, ho, h2⟩⟩ := A
  · rw [ha] at h1; cases h1
  · have e1 : If.dd d = m := If.dd_own hm (fun x => by rw [hp.mem_iff, List.mem_append, h x]) ho
    rw [e1, hm] at h2
    rcases h2 with ⟨h2, _⟩ | ⟨_, h2⟩
    · cases h2
    · exact ⟨k, h2⟩
theorem mg_form {a b : List If.I} {w w' : World} {e : Ending} (ha : (If.so none a && If.so none b) = false) (A : AnsMg a b w e w') :
    Below w.heap.size w w' ∧ e = .returned (.tuple #[.slice none 0 0, .int .i64 4]) := by
  obtain ⟨k, ⟨_, h1⟩ | ⟨h1, _⟩⟩ := A
  · exact ⟨k, h1⟩
  · rw [ha] at h1; cases h1
theorem mg_state {a b : List If.I} {w w' : World} {e : Ending} (ha : (If.so none a && If.so none b) = true) (hn : ¬ If.Fn (a ++ b)) (A : AnsMg a b w e w') :
    Below w.heap.size w w' ∧ e = .returned (.tuple #[.slice none 0 0, .int .i64 21]) := by
  obtain ⟨k, ⟨h1, _⟩ | ⟨_, d, hp, ho, h2⟩⟩ := A
  · rw [ha] at h1; cases h1
  · rcases h2 with ⟨_, h2⟩ | ⟨h2, _⟩
    · exact ⟨k, h2⟩
    · refine absurd (fun x hx y hy => ?_) hn
      exact If.st_fn (If.so_st h2) x ((If.mem_dd x d).2 (hp.mem_iff.2 hx)) y ((If.mem_dd y d).2 (hp.mem_iff.2 hy))
theorem inv_blk {w : World} {b n c : Nat} {l : List If.I} (hn : n = l.length) (h : Blk w b 36 (If.ifc l).toArray) : InV w (.slice (some ⟨b, 0, none⟩) n c) l := (row_of hn h).inv hn
theorem inv_tail {w : World} {b c : Nat} {x y : If.I} (h : Blk w b 36 (If.ifc [x, y]).toArray) : InV w (.slice (some ⟨b, 5, none⟩) 1 c) [y] :=
  ⟨_, c, rfl, fun _ => ⟨_, rfl, h.lt, fun j u hu => by
    have e : (⟨b, 5, none⟩ : Addr).add j = ⟨b, 5 + j, none⟩ := by unfold Addr.add; split <;> simp_all
    rw [e, h.cell (5 + j)]
    have : (If.ifc [x, y]) = If.enc x ++ If.ifc [y] := rfl
    rw [List.getElem?_toArray, this, List.getElem?_append_right (by show 5 ≤ 5 + j; omega)]
    rw [show 5 + j - (If.enc x).length = j from Nat.add_sub_cancel_left 5 j]
    exact hu⟩⟩
end Go.Proofs.Ytmnmmbeageddkaa
