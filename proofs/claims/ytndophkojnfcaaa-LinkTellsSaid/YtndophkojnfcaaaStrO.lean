/- A list of strings that came in, as the walks ask for it. -/
import Derived.Test.YtndophkojnfcaaaStL
import Derived.SliceStrings
import Derived.OpenShut
import Derived.LaidMore
import Derived.ChangeArms
import Derived.WalkSmall
set_option linter.unusedVariables false
set_option linter.unusedSimpArgs false
namespace Go.Proofs.Ytndophkojnfcaaa
open Go.RowKit Go.Sort Go.ChangeShapes

theorem cellsStrO : Try.prog.cellsOf 9 = 1 := by kernel_rfl
/-- A list of strings that came in. -/
theorem strs_in {H : Type} {enc : TypeId × Value → H} {w : World} {base : Nat} {sp : Nat → Bool} {held : Bool} {A : Option Addr} {n c : Nat} {fuel : Nat} {x : DataW H × List MemPlace}
    (h : DataW.trod enc Try.prog w base sp held fuel 37 [.slice A n c] = some x) : ∃ l : List ByteArray, StS w (.slice A n c) l ∧ ∀ y ∈ l, y.size ≤ maxLen := by
  rcases open_strings Try.underlying37 Try.underlying9 cellsStrO h with ⟨hcs, _⟩ | ⟨a, len, cap, ss, hcs, _, hl, hm, hz, _, hcell, hsz⟩
  · injection hcs with h1 _
    rw [h1]
    exact ⟨[], Lst.nil _ _, by intro y hy; cases hy⟩
  · injection hcs with h1 _
    rw [h1]
    have hle : len ≤ ss.length := by rw [hz]; split <;> omega
    have ht : (ss.take len).length = len := by rw [List.length_take]; omega
    refine ⟨ss.take len, ?_, fun y hy => hsz y (List.mem_of_mem_take hy)⟩
    refine ⟨some a, cap, by rw [ht], fun hpos => ⟨a, rfl, ?_, ?_⟩⟩
    · rw [ht] at hpos
      have := World.block_lt_of_cell? _ _ (hcell 0 (by omega))
      rwa [blk_add] at this
    · intro j u hj
      rw [List.getElem?_map] at hj
      have hjl : j < len := by
        cases hg : (ss.take len)[j]? with
        | none => rw [hg] at hj; cases hj
        | some z => have := (List.getElem?_eq_some_iff.1 hg).1; omega
      rw [List.getElem?_take_of_lt hjl, List.getElem?_eq_getElem (by omega)] at hj
      simp only [Option.map_some, Option.some.injEq] at hj
      rw [hcell j (by omega), ← hj]
      simp [List.getD, List.getElem?_eq_getElem (show j < ss.length by omega)]
end Go.Proofs.Ytndophkojnfcaaa
