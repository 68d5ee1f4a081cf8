/- Infos that came in: lists of them. -/
import Derived.Test.YtmnmmbeageddkaaIfL
import Derived.Test.YtmnmmbeageddkaaMnO0
set_option linter.unusedVariables false
set_option linter.unusedSimpArgs false
namespace Go.Proofs.Ytmnmmbeageddkaa
open Go.RowKit Go.Sort Go.ChangeShapes Go.WideShapes Go.Joins

theorem cellsInfo : Try.prog.cellsOf 36 = 5 := by kernel_rfl
theorem cellsValue : Try.prog.cellsOf 34 = 3 := by kernel_rfl
theorem cellsStrI : Try.prog.cellsOf 9 = 1 := by kernel_rfl
def If.Bd (x : If.I) : Prop := (-9223372036854775808 ≤ x.1 ∧ x.1 ≤ 9223372036854775807) ∧ (-9223372036854775808 ≤ x.2.1 ∧ x.2.1 ≤ 9223372036854775807) ∧ (-9223372036854775808 ≤ x.2.2.1 ∧ x.2.2.1 ≤ 9223372036854775807) ∧ (-9223372036854775808 ≤ x.2.2.2.1 ∧ x.2.2.2.1 ≤ 9223372036854775807) ∧ x.2.2.2.2.size ≤ maxLen
section
variable {H : Type} {enc : TypeId × Value → H} {w : World} {base : Nat} {sp : Nat → Bool} {held : Bool}
set_option maxRecDepth 100000 in
theorem value_cells {n : Nat} {cs : List Value} {y : DataW H × List MemPlace} (h : DataW.trod enc Try.prog w base sp held n 34 cs = some y) : ∃ (a b : Int) (c : ByteArray), cs = [.int .i64 a, .int .i64 b, .string c] ∧ (-9223372036854775808 ≤ a ∧ a ≤ 9223372036854775807) ∧ (-9223372036854775808 ≤ b ∧ b ≤ 9223372036854775807) ∧ c.size ≤ maxLen := by
  obtain ⟨xs, m, _, -, hl, hlen, hf⟩ := DataW.trod_struct Try.underlying34 h
  rw [cellsValue] at hl
  match xs, hlen with
  | [y0, y1, y2], _ =>
    have h0 : DataW.trod enc Try.prog w base sp held m 2 ((cs.drop 0).take (Try.prog.cellsOf 2)) = some y0 := hf 0 _ rfl
    have h1 : DataW.trod enc Try.prog w base sp held m 2 ((cs.drop 1).take (Try.prog.cellsOf 2)) = some y1 := hf 1 _ rfl
    have h2 : DataW.trod enc Try.prog w base sp held m 9 ((cs.drop 2).take (Try.prog.cellsOf 9)) = some y2 := hf 2 _ rfl
    match cs, hl with
    | [c0, c1, c2], _ =>
      simp only [cellsI64, cellsStrI] at h0 h1 h2
      obtain ⟨a, e0, -, z0⟩ := DataW.trod_int Try.underlying2 h0
      obtain ⟨b, e1, -, z1⟩ := DataW.trod_int Try.underlying2 h1
      obtain ⟨c, e2, -, z2⟩ := DataW.trod_string Try.underlying9 h2
      simp at e0 e1 e2
      subst e0; subst e1; subst e2
      exact ⟨a, b, c, rfl, i64_wf z0, i64_wf z1, z2⟩
set_option maxRecDepth 100000 in
theorem info_cells {n : Nat} {cs : List Value} {y : DataW H × List MemPlace} (h : DataW.trod enc Try.prog w base sp held n 36 cs = some y) : ∃ p : If.I, cs = If.enc p ∧ If.Bd p := by
  obtain ⟨y0, y1, m, -, hl, h0, h1⟩ := trod_struct2 Try.underlying36 h
  rw [cellsInfo] at hl
  match cs, hl with
  | [c0, c1, c2, c3, c4], _ =>
    simp only [cellsSpan, cellsValue] at h0 h1
    obtain ⟨a, b, e0, za, zb⟩ := span_cells h0
    obtain ⟨c, d, s, e1, zc, zd, zs⟩ := value_cells h1
    simp at e0 e1
    obtain ⟨rfl, rfl⟩ := e0
    obtain ⟨rfl, rfl, rfl⟩ := e1
    exact ⟨(a, b, c, d, s), rfl, za, zb, zc, zd, zs⟩
set_option maxRecDepth 100000 in
theorem infos_in {A : Option Addr} {n c : Nat} {fuel : Nat} {x : DataW H × List MemPlace} (h : DataW.trod enc Try.prog w base sp held fuel 46 [.slice A n c] = some x) :
    ∃ l : List If.I, InV w (.slice A n c) l ∧ (∀ p ∈ l, If.Bd p) ∧ Cap (.slice A n c) := by
  rcases DataW.trod_slice Try.underlying46 h with ⟨hcs, _⟩ | ⟨a, len, cap, elems, rest, m, _, hcs, _, _, hlc, _, hlen, hel, _, _⟩
  · injection hcs with h1 _
    rw [h1]
    exact ⟨[], InV.nil _, (fun p hp => by cases hp), fun A n c e => by cases e; exact Nat.le_refl _⟩
  · injection hcs with h1 _
    rw [h1]
    obtain ⟨l, hl, hz, hc⟩ := rows_at (w := w) (a := a) (k := 5) (len := len) (enc' := If.enc) (fun _ => rfl) (Q := If.Bd) (fun i hi => by
      have := hel i hi
      rw [cellsInfo, List.getElem?_eq_getElem (by omega), Option.bind_eq_some_iff] at this
      obtain ⟨cs, hcs, hy⟩ := this
      obtain ⟨p, rfl, z⟩ := info_cells hy
      exact ⟨p, z, (cells_some hcs).2⟩)
    refine ⟨l, ⟨some a, cap, by rw [hl], fun hpos => ⟨a, rfl, ?_, hc⟩⟩, hz, fun A n c e => by cases e; exact hlc⟩
    match l, hpos with
    | p :: r, _ =>
      have := World.block_lt_of_cell? _ _ (hc 0 (.int .i64 p.1) rfl)
      rwa [blk_add] at this
end
end Go.Proofs.Ytmnmmbeageddkaa
