/- A list of strings that came in, where the bulk is bounded. -/
import Derived.Test.YtnkmpchonlajpaaDoorRows
import Derived.Test.YtnkmpchonlajpaaDoorFdE0
import Derived.SliceStrings
import Derived.OpenShut
import Derived.LaidMore
import Derived.ChangeArms
import Derived.WalkSmall
set_option linter.unusedVariables false
set_option linter.unusedSimpArgs false
namespace Go.Proofs.YtnkmpchonlajpaaDoor
open Go.RowKit Go.Sort Go.ChangeShapes

theorem cellsStrU : Tryd.prog.cellsOf 9 = 1 := by kernel_rfl
theorem bulk_strs {H : Type} : ∀ l : List ByteArray, Rows.uptoBulkAll (strs (H := H) l) = Fd.tot l + l.length
  | [] => rfl
  | x :: l => by
    have e : x.data.toList.length = x.size := Array.length_toList
    show Rows.uptoBulk (DataW.lit (.string x.data.toList)) + Rows.uptoBulkAll (strs l) = _
    rw [bulk_strs l, Fd.tot_cons, List.length_cons]
    simp only [Rows.uptoBulk]
    omega
theorem strs_bulk {H : Type} {enc : TypeId × Value → H} {w : World} {base : Nat} {sp : Nat → Bool} {held : Bool} {A : Option Addr} {n c : Nat} {fuel : Nat} {d : DataW H} {p : List MemPlace}
    (h : DataW.trod enc Tryd.prog w base sp held fuel 22 [.slice A n c] = some (d, p)) (hb : Rows.uptoBulk d ≤ 1048576) : ∃ l : List ByteArray, StS w (.slice A n c) l ∧ Fd.tot l + l.length ≤ 1048576 := by
  rcases open_strings Tryd.underlying22 Tryd.underlying9 cellsStrU h with ⟨hcs, _⟩ | ⟨a, len, cap, ss, hcs, _, hl, hm, hz, hx, hcell, hsz⟩
  · injection hcs with h1 _
    rw [h1]
    exact ⟨[], Lst.nil _ _, Nat.zero_le _⟩
  · injection hcs with h1 _
    rw [h1]
    simp only [Prod.mk.injEq] at hx
    rw [hx.1] at hb
    simp only [Rows.uptoBulk, bulk_strs] at hb
    have hle : len ≤ ss.length := by rw [hz]; split <;> omega
    have ht : (ss.take len).length = len := by rw [List.length_take]; omega
    refine ⟨ss.take len, ?_, by omega⟩
    refine ⟨some a, cap, by rw [ht], fun hpos => ⟨a, rfl, ?_, ?_⟩⟩
    · rw [ht] at hpos
      have := World.block_lt_of_cell? _ _ (hcell 0 (by omega))
      rwa [blk_add] at this
    · intro j u hj
      rw [List.getElem?_map] at hj
      have hjl : j < len := by
        cases hg : (ss.take len)[j]? with
        | none => rw [hg] at hj; cases hj
        | some z => have := (List.getElem?_eq_some_iff.1 hg).1; omega
      rw [List.getElem?_take_of_lt hjl, List.getElem?_eq_getElem (by omega)] at hj
      simp only [Option.map_some, Option.some.injEq] at hj
      rw [hcell j (by omega), ← hj]
      simp [List.getD, List.getElem?_eq_getElem (show j < ss.length by omega)]
end Go.Proofs.YtnkmpchonlajpaaDoor
