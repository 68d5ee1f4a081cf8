/- Joined: MnOg, LpO. -/
import Derived.Test.YtifgiclnofdnkaaGreatDoorBy04
import Derived.SliceStrings
import Derived.OpenShut
import Derived.LaidMore
import Derived.ChangeArms
import Derived.ChangeSame
import Derived.WalkSmall
import Derived.Lib.SmallJoins
set_option linter.unusedVariables false
set_option linter.unusedSimpArgs false
namespace Go.Proofs.YtifgiclnofdnkaaGreatDoor
open Go.RowKit Go.Sort Go.ChangeShapes Go.WideShapes Go.Joins
theorem cellsI64 : Tryz.prog.cellsOf 2 = 1 := by kernel_rfl
section
variable {H : Type} {enc : TypeId × Value → H} {w : World} {base : Nat} {sp : Nat → Bool} {held : Bool}
theorem cells_some : ∀ {n : Nat} {p : Addr} {cs : List Value}, w.cells? base p n = some cs → cs.length = n ∧ ∀ j, j < n → w.cell? (p.add j) = cs[j]? := by
 intro n p cs h
 unfold World.cells? at h
 split at h
 ·
  have key : ∀ (l : List Nat) (cs : List Value), l.mapM (fun i => w.cell? (p.add i)) = some cs → cs.length = l.length ∧ ∀ j (hj : j < l.length), w.cell? (p.add l[j]) = cs[j]? := by
   intro l
   induction l with
   | nil => intro cs h; simp at h; subst h; exact ⟨rfl, fun j hj => absurd hj (by simp)⟩
   | cons i l ih =>
    intro cs h
    rw [List.mapM_cons] at h
    cases h0 : w.cell? (p.add i) with
    | none => rw [h0] at h; simp at h
    | some c0 =>
     rw [h0] at h
     cases h1 : l.mapM (fun i => w.cell? (p.add i)) with
     | none => rw [h1] at h; simp at h
     | some r =>
      rw [h1] at h
      simp at h
      subst h
      obtain ⟨e, f⟩ := ih r h1
      refine ⟨by simp [e], fun j hj => ?_⟩
      cases j with
      | zero => simpa using h0
      | succ j => simpa using f j (by simpa using hj)
  obtain ⟨e, f⟩ := key _ _ h
  simp only [List.length_range] at e f
  exact ⟨e, fun j hj => by have := f j hj; simpa using this⟩
 ·
  cases h
theorem rows_at {α : Type} {a : Addr} {k len : Nat} {enc' : α → List Value} (hk : ∀ x, (enc' x).length = k) {Q : α → Prop} (item : ∀ i, i < len → ∃ x : α, Q x ∧ ∀ j, j < k → w.cell? ((a.add (i * k)).add j) = (enc' x)[j]?) :
  ∃ l : List α, l.length = len ∧ (∀ x ∈ l, Q x) ∧ ∀ j u, (l.flatMap enc')[j]? = some u → w.cell? (a.add j) = some u := by
 have all : ∀ m, m ≤ len → ∃ l : List α, l.length = m ∧ (∀ x ∈ l, Q x) ∧ ∀ j u, (l.flatMap enc')[j]? = some u → w.cell? (a.add j) = some u := by
  intro m
  induction m with
  | zero => intro _; exact ⟨[], rfl, (fun p hp => by cases hp), (fun j u hu => by simp at hu)⟩
  | succ m ih =>
   intro hm
   obtain ⟨l, hl, hq, hc⟩ := ih (by omega)
   obtain ⟨x, qx, gx⟩ := item m (by omega)
   refine ⟨l ++ [x], by rw [List.length_append, hl]; rfl, fun y hy => ?_, fun j u hu => ?_⟩
   ·
    rcases List.mem_append.1 hy with hy | hy
    ·
     exact hq y hy
    ·
     rw [List.mem_singleton.1 hy]; exact qx
   ·
    have hcl : (l.flatMap enc').length = m * k := by
     rw [← hl]; clear hq hc hl hu
     induction l with
     | nil => simp
     | cons q r ih2 => rw [List.flatMap_cons, List.length_append, ih2, hk, List.length_cons, Nat.add_mul]; omega
    rw [List.flatMap_append] at hu
    by_cases hj : j < m * k
    ·
     rw [List.getElem?_append_left (by omega)] at hu
     exact hc j u hu
    ·
     rw [List.getElem?_append_right (by omega), hcl] at hu
     have e : [x].flatMap enc' = enc' x := by simp
     rw [e] at hu
     have hj2 : j - m * k < k := by
      have := (List.getElem?_eq_some_iff.1 hu).1
      rwa [hk] at this
     have g := gx (j - m * k) hj2
     rw [add_two, show m * k + (j - m * k) = j by omega, hu] at g
     exact g
 exact all len (Nat.le_refl _)
end
end Go.Proofs.YtifgiclnofdnkaaGreatDoor
set_option linter.unusedVariables false
set_option linter.unusedSimpArgs false
namespace Go.Proofs.YtifgiclnofdnkaaGreatDoor
open Go.RowKit Go.Sort Go.ChangeShapes Go.WideShapes Go.Joins
theorem cellsLeap : Tryz.prog.cellsOf 39 = 2 := by kernel_rfl
theorem cellsInt : Tryz.prog.cellsOf 3 = 1 := by kernel_rfl
section
variable {H : Type} {enc : TypeId × Value → H} {w : World} {base : Nat} {sp : Nat → Bool} {held : Bool}
set_option maxRecDepth 100000 in
theorem leap_cells {n : Nat} {cs : List Value} {y : DataW H × List MemPlace} (h : DataW.trod enc Tryz.prog w base sp held n 39 cs = some y) : ∃ a b : Int, cs = [.int .i64 a, .int .i64 b] := by
 obtain ⟨y0, y1, m, -, hl, h0, h1⟩ := trod_struct2 Tryz.underlying39 h
 rw [cellsLeap] at hl
 match cs, hl with
 | [c0, c1], _ =>
  simp only [cellsI64, cellsInt] at h0 h1
  obtain ⟨a, e0, -, z0⟩ := DataW.trod_int Tryz.underlying2 h0
  obtain ⟨b, e1, -, z1⟩ := DataW.trod_int Tryz.underlying3 h1
  simp at e0 e1
  subst e0; subst e1
  exact ⟨a, b, rfl⟩
set_option maxRecDepth 100000 in
theorem leaps_in {A : Option Addr} {n c : Nat} {fuel : Nat} {x : DataW H × List MemPlace} (h : DataW.trod enc Tryz.prog w base sp held fuel 22 [.slice A n c] = some x) :
  ∃ l : List Lp.X, SpV w (.slice A n c) l ∧ n ≤ c ∧ c ≤ 9223372036854775807 := by
 rcases DataW.trod_slice Tryz.underlying22 h with ⟨hcs, _⟩ | ⟨a, len, cap, elems, rest, m, _, hcs, _, hx1, hlc, hx2, hlen, hel, _, _⟩
 ·
  injection hcs with h1 _
  injection h1 with h2 h3 h4
  subst h2; subst h3; subst h4
  exact ⟨[], Lst.nil _ _, Nat.le_refl _, by omega⟩
 ·
  injection hcs with h1 _
  injection h1 with h2 h3 h4
  subst h2; subst h3; subst h4
  obtain ⟨l, hl, hz, hc⟩ := rows_at (w := w) (a := a) (k := 2) (len := n) (enc' := fun p : Int × Int => [.int .i64 p.1, .int .i64 p.2]) (fun _ => rfl) (Q := fun p => True) (fun i hi => by
   have := hel i hi
   rw [cellsLeap, List.getElem?_eq_getElem (by omega), Option.bind_eq_some_iff] at this
   obtain ⟨cs, hcs, hy⟩ := this
   obtain ⟨u, v, rfl⟩ := leap_cells hy
   exact ⟨(u, v), trivial, (cells_some hcs).2⟩)
  refine ⟨l, ⟨some a, c, by rw [hl], fun hpos => ⟨a, rfl, ?_, hc⟩⟩, hlc, by unfold maxLen at hx2; omega⟩
  match l, hpos with
  | p :: r, _ =>
   have := World.block_lt_of_cell? _ _ (hc 0 (.int .i64 p.1) rfl)
   rwa [blk_add] at this
end
end Go.Proofs.YtifgiclnofdnkaaGreatDoor
