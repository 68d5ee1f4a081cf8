/- Rows of cells that came in. -/
import Derived.Test.YtjnhaabbnbcaeaaSl
import Derived.SliceStrings
import Derived.OpenShut
import Derived.LaidMore
import Derived.ChangeArms
import Derived.ChangeSame
import Derived.WalkSmall
import Derived.Lib.SmallJoins
set_option linter.unusedVariables false
set_option linter.unusedSimpArgs false
namespace Go.Proofs.Ytjnhaabbnbcaeaa
open Go.RowKit Go.Sort Go.ChangeShapes Go.WideShapes Go.Joins

theorem cellsI64 : Try.prog.cellsOf 2 = 1 := by kernel_rfl
theorem i64_wf {x : Int} (h : (Lit.int .i64 x).wf = true) : -9223372036854775808 ≤ x ∧ x ≤ 9223372036854775807 := by
  simp [Lit.wf, IntKind.min, IntKind.max, IntKind.signed, IntKind.bits] at h
  exact ⟨by omega, by omega⟩
section
variable {H : Type} {enc : TypeId × Value → H} {w : World} {base : Nat} {sp : Nat → Bool} {held : Bool}
theorem cells_some : ∀ {n : Nat} {p : Addr} {cs : List Value}, w.cells? base p n = some cs → cs.length = n ∧ ∀ j, j < n → w.cell? (p.add j) = cs[j]? := by
  intro n p cs h
  unfold World.cells? at h
  split at h
  · have key : ∀ (l : List Nat) (cs : List Value), l.mapM (fun i => w.cell? (p.add i)) = some cs → cs.length = l.length ∧ ∀ j (hj : j < l.length), w.cell? (p.add l[j]) = cs[j]? := by
      intro l
      induction l with
      | nil => intro cs h; simp at h; subst h; exact ⟨rfl, fun j hj => absurd hj (by simp)⟩
      | cons i l ih =>
        intro cs h
        rw [List.mapM_cons] at h
        cases h0 : w.cell? (p.add i) with
        | none => rw [h0] at h; simp at h
        | some c0 =>
          rw [h0] at h
          cases h1 : l.mapM (fun i => w.cell? (p.add i)) with
          | none => rw [h1] at h; simp at h
          | some r =>
            rw [h1] at h
            simp at h
            subst h
            obtain ⟨e, f⟩ := ih r h1
            refine ⟨by simp [e], fun j hj => ?_⟩
            cases j with
            | zero => simpa using h0
            | succ j => simpa using f j (by simpa using hj)
    obtain ⟨e, f⟩ := key _ _ h
    simp only [List.length_range] at e f
    exact ⟨e, fun j hj => by have := f j hj; simpa using this⟩
  · cases h
/-- Rows of k cells, one behind the other. -/
theorem rows_at {α : Type} {a : Addr} {k len : Nat} {enc' : α → List Value} (hk : ∀ x, (enc' x).length = k) {Q : α → Prop} (item : ∀ i, i < len → ∃ x : α, Q x ∧ ∀ j, j < k → w.cell? ((a.add (i * k)).add j) = (enc' x)[j]?) :
    ∃ l : List α, l.length = len ∧ (∀ x ∈ l, Q x) ∧ ∀ j u, (l.flatMap enc')[j]? = some u → w.cell? (a.add j) = some u := by
  have all : ∀ m, m ≤ len → ∃ l : List α, l.length = m ∧ (∀ x ∈ l, Q x) ∧ ∀ j u, (l.flatMap enc')[j]? = some u → w.cell? (a.add j) = some u := by
    intro m
    induction m with
    | zero => intro _; exact ⟨[], rfl, (fun p hp => by cases hp), (fun j u hu => by simp at hu)⟩
    | succ m ih =>
      intro hm
      obtain ⟨l, hl, hq, hc⟩ := ih (by omega)
      obtain ⟨x, qx, gx⟩ := item m (by omega)
      refine ⟨l ++ [x], by rw [List.length_append, hl]; rfl, fun y hy => ?_, fun j u hu => ?_⟩
      · rcases List.mem_append.1 hy with hy | hy
        · exact hq y hy
        · rw [List.mem_singleton.1 hy]; exact qx
      · have hcl : (l.flatMap enc').length = m * k := by
          rw [← hl]; clear hq hc hl hu
          induction l with
          | nil => simp
          | cons q r ih2 => rw [List.flatMap_cons, List.length_append, ih2, hk, List.length_cons, Nat.add_mul]; omega
        rw [List.flatMap_append] at hu
        by_cases hj : j < m * k
        · rw [List.getElem?_append_left (by omega)] at hu
          exact hc j u hu
        · rw [List.getElem?_append_right (by omega), hcl] at hu
          have e : [x].flatMap enc' = enc' x := by simp
          rw [e] at hu
          have hj2 : j - m * k < k := by
            have := (List.getElem?_eq_some_iff.1 hu).1
            rwa [hk] at this
          have g := gx (j - m * k) hj2
          rw [add_two, show m * k + (j - m * k) = j by omega, hu] at g
          exact g
  exact all len (Nat.le_refl _)
end
end Go.Proofs.Ytjnhaabbnbcaeaa
