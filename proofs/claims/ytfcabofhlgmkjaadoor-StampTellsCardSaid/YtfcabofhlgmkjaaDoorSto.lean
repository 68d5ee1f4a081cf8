/- A stamp that came in: six numbers. -/
import Derived.Test.YtfcabofhlgmkjaaDoorProg
import Derived.OpenShut
import Derived.Lib.SmallJoins
import Derived.Deep.Strs
set_option linter.unusedVariables false
set_option linter.unusedSimpArgs false
namespace Go.Proofs.YtfcabofhlgmkjaaDoor
open Go Go.ChangeShapes Go.WideShapes Go.Joins Go.Deep

theorem array6 {α : Type} {cs : Array α} (h : cs.size = 6) : ∃ c0 c1 c2 c3 c4 c5, cs = #[c0, c1, c2, c3, c4, c5] := by
  obtain ⟨l⟩ := cs
  match l, h with
  | [a, b, c, d, e, f], _ => exact ⟨a, b, c, d, e, f, rfl⟩
theorem cells_Stamp : Tryd.prog.cellsOf 37 = 6 := by kernel_rfl
theorem cells_Date : Tryd.prog.cellsOf 23 = 3 := by kernel_rfl
theorem cells_Int : Tryd.prog.cellsOf 3 = 1 := by kernel_rfl
set_option maxRecDepth 100000 in
theorem open_stamp {H : Type} {enc : TypeId × Value → H} {w : World} {base : Nat} {sp : Nat → Bool} {held : Bool} {r : Reach} {b0 : Nat} {v : Value} {d : DataW H} {p : List MemPlace} (hv : Value.okWide Tryd.prog w r b0 37 v) (h : DataW.Trod enc Tryd.prog w base sp held 37 v d p) :
    ∃ y m dd hh i s : Int, v = .agg #[.int .i64 y, .int .i64 m, .int .i64 dd, .int .i64 hh, .int .i64 i, .int .i64 s] := by
  obtain ⟨cs, rfl, hsz⟩ := okWide_struct Tryd.underlying37 hv
  rw [cells_Stamp] at hsz
  obtain ⟨c0, c1, c2, c3, c4, c5, rfl⟩ := array6 hsz
  obtain ⟨fuel, hf⟩ := h
  obtain ⟨y0, y1, y2, y3, n, _, _, g0, g1, g2, g3⟩ := trod_struct4 Tryd.underlying37 hf
  have g0' : DataW.trod enc Tryd.prog w base sp held n 23 [c0, c1, c2] = some y0 := by simpa [Value.cells, cells_Date] using g0
  have g1' : DataW.trod enc Tryd.prog w base sp held n 3 [c3] = some y1 := by simpa [Value.cells, cells_Int] using g1
  have g2' : DataW.trod enc Tryd.prog w base sp held n 3 [c4] = some y2 := by simpa [Value.cells, cells_Int] using g2
  have g3' : DataW.trod enc Tryd.prog w base sp held n 3 [c5] = some y3 := by simpa [Value.cells, cells_Int] using g3
  obtain ⟨x0, x1, x2, k, _, _, k0, k1, k2⟩ := trod_struct3 Tryd.underlying23 g0'
  have k0' : DataW.trod enc Tryd.prog w base sp held k 3 [c0] = some x0 := by simpa [cells_Int] using k0
  have k1' : DataW.trod enc Tryd.prog w base sp held k 3 [c1] = some x1 := by simpa [cells_Int] using k1
  have k2' : DataW.trod enc Tryd.prog w base sp held k 3 [c2] = some x2 := by simpa [cells_Int] using k2
  obtain ⟨y, e0, _, _⟩ := DataW.trod_int Tryd.underlying3 k0'
  obtain ⟨m, e1, _, _⟩ := DataW.trod_int Tryd.underlying3 k1'
  obtain ⟨dd, e2, _, _⟩ := DataW.trod_int Tryd.underlying3 k2'
  obtain ⟨hh, e3, _, _⟩ := DataW.trod_int Tryd.underlying3 g1'
  obtain ⟨i, e4, _, _⟩ := DataW.trod_int Tryd.underlying3 g2'
  obtain ⟨s, e5, _, _⟩ := DataW.trod_int Tryd.underlying3 g3'
  simp at e0 e1 e2 e3 e4 e5
  subst e0 e1 e2 e3 e4 e5
  exact ⟨y, m, dd, hh, i, s, rfl⟩
end Go.Proofs.YtfcabofhlgmkjaaDoor
