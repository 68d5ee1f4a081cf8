/- Parts that came in, where the bulk is bounded. -/
import Derived.Test.YtckcmhnhmobadaaRows
import Derived.Test.YtckcmhnhmobadaaMnO
set_option linter.unusedVariables false
set_option linter.unusedSimpArgs false
namespace Go.Proofs.Ytckcmhnhmobadaa
open Go.RowKit Go.Sort Go.ChangeShapes Go.WideShapes Go.Joins

section
variable {H : Type} {enc : TypeId × Value → H} {w : World} {base : Nat} {sp : Nat → Bool} {held : Bool}
set_option maxRecDepth 100000 in
theorem part_bulk {n : Nat} {cs : List Value} {y : DataW H × List MemPlace} (h : DataW.trod enc Try.prog w base sp held n 52 cs = some y) : 2 ≤ Rows.uptoBulk y.1 := by
  obtain ⟨y0, y1, m, hx, hl, h0, h1⟩ := trod_struct2 Try.underlying52 h
  obtain ⟨c, e1, e2, zc⟩ := DataW.trod_int Try.underlying2 h1
  rw [hx]
  simp only [Rows.uptoBulk, Rows.uptoBulkAll, e2]
  omega
theorem all_bulk : ∀ es : List (DataW H × List MemPlace), (∀ i (hi : i < es.length), 2 ≤ Rows.uptoBulk es[i].1) → 2 * es.length ≤ Rows.uptoBulkAll (es.map (·.1))
  | [], _ => Nat.zero_le _
  | e :: es, h => by
    have a := h 0 (by simp)
    have b := all_bulk es fun i hi => h (i + 1) (by simpa using hi)
    simp only [List.map_cons, Rows.uptoBulkAll, List.length_cons]
    simp at a
    omega
set_option maxRecDepth 100000 in
theorem parts_bulk {A : Option Addr} {n c : Nat} {fuel : Nat} {d : DataW H} {q : List MemPlace} (h : DataW.trod enc Try.prog w base sp held fuel 39 [.slice A n c] = some (d, q)) (hb : Rows.uptoBulk d ≤ 1048576) :
    ∃ l : List Mn.P, PtV w (.slice A n c) l ∧ l.length ≤ 1000000 ∧ ∀ p ∈ l, (-9223372036854775808 ≤ p.1 ∧ p.1 ≤ 9223372036854775807) ∧ (-9223372036854775808 ≤ p.2.1 ∧ p.2.1 ≤ 9223372036854775807) ∧ (-9223372036854775808 ≤ p.2.2 ∧ p.2.2 ≤ 9223372036854775807) := by
  obtain ⟨l, h1, h2⟩ := parts_in h
  refine ⟨l, h1, ?_, h2⟩
  have hn := h1.len
  rcases DataW.trod_slice Try.underlying39 h with ⟨hcs, _⟩ | ⟨a, len, cap, elems, rest, m, _, hcs, hx, _, _, _, hlen, hel, _, _⟩
  · injection hcs with e1 _
    injection e1 with e2 e3 e4
    omega
  · injection hcs with e1 _
    injection e1 with e2 e3 e4
    have hd : d = .slice (elems.map (·.1)) (rest.map (·.1)) := congrArg Prod.fst hx
    rw [hd] at hb
    simp only [Rows.uptoBulk] at hb
    have := all_bulk elems (fun i hi => by
      have := hel i (by omega)
      rw [List.getElem?_eq_getElem hi, Option.bind_eq_some_iff] at this
      obtain ⟨cs, hcs, hy⟩ := this
      exact part_bulk hy)
    omega
end
end Go.Proofs.Ytckcmhnhmobadaa
