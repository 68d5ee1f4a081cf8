/- Links that came in: one by value, a list of them. -/
import Derived.Test.YtndophkojnfcaaaLkG
import Derived.SliceStrings
import Derived.OpenShut
import Derived.LaidMore
import Derived.ChangeArms
import Derived.ChangeSame
import Derived.WalkSmall
import Derived.Lib.SmallJoins
set_option linter.unusedVariables false
set_option linter.unusedSimpArgs false
namespace Go.Proofs.Ytndophkojnfcaaa
open Go.RowKit Go.Sort Go.ChangeShapes Go.WideShapes Go.Joins

theorem cellsLink : Try.prog.cellsOf 47 = 2 := by kernel_rfl
theorem cellsStrL : Try.prog.cellsOf 9 = 1 := by kernel_rfl
section
variable {H : Type} {enc : TypeId × Value → H} {w : World} {base : Nat} {sp : Nat → Bool} {held : Bool}
set_option maxRecDepth 100000 in
theorem open_link {r : Reach} {b0 : Nat} {v : Value} {d : DataW H} {p : List MemPlace} (hv : Value.okWide Try.prog w r b0 47 v) (h : DataW.Trod enc Try.prog w base sp held 47 v d p) :
    ∃ a b : ByteArray, v = .agg #[.string a, .string b] ∧ a.size ≤ maxLen ∧ b.size ≤ maxLen := by
  obtain ⟨v0, v1, y0, y1, n, rfl, -, -, h0, h1⟩ := open_agg2 Try.underlying47 (by kernel_rfl) cellsLink hv h
  obtain ⟨a, e0, -, z0⟩ := DataW.trod_string Try.underlying9 h0
  obtain ⟨b, e1, -, z1⟩ := DataW.trod_string Try.underlying9 h1
  simp at e0 e1
  subst e0; subst e1
  exact ⟨a, b, rfl, z0, z1⟩
theorem cells2 {p : Addr} {cs : List Value} (h : w.cells? base p 2 = some cs) : ∃ c0 c1, cs = [c0, c1] ∧ w.cell? (p.add 0) = some c0 ∧ w.cell? (p.add 1) = some c1 := by
  unfold World.cells? at h
  split at h
  · simp only [show List.range 2 = [0, 1] from rfl, List.mapM_cons, List.mapM_nil, Option.bind_eq_bind] at h
    cases h0 : w.cell? (p.add 0) with
    | none => rw [h0] at h; simp at h
    | some c0 =>
      cases h1 : w.cell? (p.add 1) with
      | none => rw [h0, h1] at h; simp at h
      | some c1 =>
        rw [h0, h1] at h
        simp at h
        exact ⟨c0, c1, h.symm, rfl, rfl⟩
  · cases h
set_option maxRecDepth 100000 in
theorem link_item {n : Nat} {p : Addr} {y : DataW H × List MemPlace} (h : (w.cells? base p 2).bind (DataW.trod enc Try.prog w base sp held n 47) = some y) :
    ∃ a b : ByteArray, w.cell? (p.add 0) = some (.string a) ∧ w.cell? (p.add 1) = some (.string b) ∧ a.size ≤ maxLen ∧ b.size ≤ maxLen := by
  rw [Option.bind_eq_some_iff] at h
  obtain ⟨cs, hcs, hy⟩ := h
  obtain ⟨c0, c1, rfl, g0, g1⟩ := cells2 hcs
  obtain ⟨y0, y1, m, -, -, h0, h1⟩ := trod_struct2 Try.underlying47 hy
  have hk : ∀ k : Nat, Try.prog.cellsOf 9 = 1 := fun _ => cellsStrL
  simp only [hk 0] at h0 h1
  obtain ⟨a, e0, -, z0⟩ := DataW.trod_string Try.underlying9 h0
  obtain ⟨b, e1, -, z1⟩ := DataW.trod_string Try.underlying9 h1
  simp at e0 e1
  subst e0; subst e1
  exact ⟨a, b, g0, g1, z0, z1⟩
theorem links_in {A : Option Addr} {n c : Nat} {fuel : Nat} {x : DataW H × List MemPlace} (h : DataW.trod enc Try.prog w base sp held fuel 48 [.slice A n c] = some x) :
    ∃ l : List (ByteArray × ByteArray), LkS w (.slice A n c) l ∧ ∀ p ∈ l, p.1.size ≤ maxLen ∧ p.2.size ≤ maxLen := by
  rcases DataW.trod_slice Try.underlying48 h with ⟨hcs, _⟩ | ⟨a, len, cap, elems, rest, m, _, hcs, _, _, _, _, hlen, hel, _, _⟩
  · injection hcs with h1 _
    rw [h1]
    exact ⟨[], Lst.nil _ _, (fun p hp => by cases hp)⟩
  · injection hcs with h1 _
    rw [h1]
    have item : ∀ i, i < len → ∃ p : ByteArray × ByteArray, w.cell? ((a.add (i * 2)).add 0) = some (.string p.1) ∧ w.cell? ((a.add (i * 2)).add 1) = some (.string p.2) ∧ p.1.size ≤ maxLen ∧ p.2.size ≤ maxLen := fun i hi => by
      have := hel i hi
      rw [cellsLink, List.getElem?_eq_getElem (by omega)] at this
      obtain ⟨x, y, r⟩ := link_item this
      exact ⟨(x, y), r⟩
    have all : ∀ k, k ≤ len → ∃ l : List (ByteArray × ByteArray), l.length = k ∧ (∀ p ∈ l, p.1.size ≤ maxLen ∧ p.2.size ≤ maxLen) ∧ ∀ j u, (Lk.cs l)[j]? = some u → w.cell? (a.add j) = some u := by
      intro k
      induction k with
      | zero => intro _; exact ⟨[], rfl, (fun p hp => by cases hp), (fun j u hu => by have h : ([] : List Value)[j]? = some u := hu; simp at h)⟩
      | succ k ih =>
        intro hk
        obtain ⟨l, hl, hz, hc⟩ := ih (by omega)
        obtain ⟨p, g0, g1, z0, z1⟩ := item k (by omega)
        refine ⟨l ++ [p], by rw [List.length_append, hl]; rfl, fun q hq => ?_, fun j u hu => ?_⟩
        · rcases List.mem_append.1 hq with hq | hq
          · exact hz q hq
          · rw [List.mem_singleton.1 hq]; exact ⟨z0, z1⟩
        · have hcl : (Lk.cs l).length = k * 2 := by
            rw [← hl]; clear hz hc hl hu
            induction l with
            | nil => rfl
            | cons q r ih2 => show (Lk.cs r).length + 2 = _; rw [ih2, List.length_cons]; omega
          rw [Lk.cs_app] at hu
          by_cases hj : j < k * 2
          · rw [List.getElem?_append_left (by omega)] at hu
            exact hc j u hu
          · rw [List.getElem?_append_right (by omega), hcl] at hu
            have e : Lk.cs [p] = [.string p.1, .string p.2] := rfl
            rw [e] at hu
            have hj2 : j - k * 2 < 2 := by
              have := (List.getElem?_eq_some_iff.1 hu).1
              simpa using this
            rcases (by omega : j - k * 2 = 0 ∨ j - k * 2 = 1) with h0 | h0
            · rw [h0] at hu
              simp at hu
              subst hu
              rw [show j = k * 2 + 0 by omega, ← add_two]
              exact g0
            · rw [h0] at hu
              simp at hu
              subst hu
              rw [show j = k * 2 + 1 by omega, ← add_two]
              exact g1
    obtain ⟨l, hl, hz, hc⟩ := all len (Nat.le_refl _)
    refine ⟨l, ⟨some a, cap, by rw [hl], fun hpos => ⟨a, rfl, ?_, hc⟩⟩, hz⟩
    rw [hl] at hpos
    obtain ⟨p, g0, -, -⟩ := item 0 hpos
    have := World.block_lt_of_cell? _ _ g0
    rwa [blk_add, blk_add] at this
end
end Go.Proofs.Ytndophkojnfcaaa
