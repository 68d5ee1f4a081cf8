/- Joined: StrO, RuO, Tab. -/
import Derived.Test.YtedbohfcbfegjaaGreatDoorBe02
import Derived.SliceStrings
import Derived.OpenShut
import Derived.LaidMore
import Derived.ChangeArms
import Derived.WalkSmall
import Derived.Test.YtedbohfcbfegjaaGreatDoorProg
import Derived.ShutString
import Derived.Lib.SmallJoins
import Derived.Deep.Strs
import Derived.Test.YtedbohfcbfegjaaGreatDoorBe01
import Derived.Stop.LaidErr
import Derived.Stop.Joined
import Derived.SizedLaws
/- A list of strings that came in, as the walks ask for it. -/
set_option linter.unusedVariables false
set_option linter.unusedSimpArgs false
namespace Go.Proofs.YtedbohfcbfegjaaGreatDoor
open Go.RowKit Go.Sort Go.ChangeShapes

theorem cellsStrO : Tryz.prog.cellsOf 9 = 1 := by kernel_rfl
/-- A list of strings that came in. -/
theorem strs_in {H : Type} {enc : TypeId × Value → H} {w : World} {base : Nat} {sp : Nat → Bool} {held : Bool} {A : Option Addr} {n c : Nat} {fuel : Nat} {x : DataW H × List MemPlace}
    (h : DataW.trod enc Tryz.prog w base sp held fuel 22 [.slice A n c] = some x) : ∃ l : List ByteArray, StS w (.slice A n c) l ∧ ∀ y ∈ l, y.size ≤ maxLen := by
  rcases open_strings Tryz.underlying22 Tryz.underlying9 cellsStrO h with ⟨hcs, _⟩ | ⟨a, len, cap, ss, hcs, _, hl, hm, hz, _, hcell, hsz⟩
  · injection hcs with h1 _
    rw [h1]
    exact ⟨[], Lst.nil _ _, by intro y hy; cases hy⟩
  · injection hcs with h1 _
    rw [h1]
    have hle : len ≤ ss.length := by rw [hz]; split <;> omega
    have ht : (ss.take len).length = len := by rw [List.length_take]; omega
    refine ⟨ss.take len, ?_, fun y hy => hsz y (List.mem_of_mem_take hy)⟩
    refine ⟨some a, cap, by rw [ht], fun hpos => ⟨a, rfl, ?_, ?_⟩⟩
    · rw [ht] at hpos
      have := World.block_lt_of_cell? _ _ (hcell 0 (by omega))
      rwa [blk_add] at this
    · intro j u hj
      rw [List.getElem?_map] at hj
      have hjl : j < len := by
        cases hg : (ss.take len)[j]? with
        | none => rw [hg] at hj; cases hj
        | some z => have := (List.getElem?_eq_some_iff.1 hg).1; omega
      rw [List.getElem?_take_of_lt hjl, List.getElem?_eq_getElem (by omega)] at hj
      simp only [Option.map_some, Option.some.injEq] at hj
      rw [hcell j (by omega), ← hj]
      simp [List.getD, List.getElem?_eq_getElem (show j < ss.length by omega)]
end Go.Proofs.YtedbohfcbfegjaaGreatDoor

/- A rule that came in. -/
set_option linter.unusedVariables false
set_option linter.unusedSimpArgs false
namespace Go.Proofs.YtedbohfcbfegjaaGreatDoor
open Go Go.ChangeShapes Go.WideShapes Go.Joins Go.Deep

theorem array11 {α : Type} {cs : Array α} (h : cs.size = 11) : ∃ c0 c1 c2 c3 c4 c5 c6 c7 c8 c9 c10, cs = #[c0, c1, c2, c3, c4, c5, c6, c7, c8, c9, c10] := by
  obtain ⟨l⟩ := cs
  match l, h with
  | [a, b, c, d, e, f, g, h, i, j, k], _ => exact ⟨a, b, c, d, e, f, g, h, i, j, k, rfl⟩
theorem cellsRule : Tryz.prog.cellsOf 28 = 11 := by kernel_rfl
theorem cellsOnR : Tryz.prog.cellsOf 24 = 3 := by kernel_rfl
theorem cellsAtR : Tryz.prog.cellsOf 26 = 2 := by kernel_rfl
theorem cellsIntR : Tryz.prog.cellsOf 3 = 1 := by kernel_rfl
theorem cellsI64R : Tryz.prog.cellsOf 2 = 1 := by kernel_rfl
theorem cellsStrR : Tryz.prog.cellsOf 9 = 1 := by kernel_rfl
section
variable {H : Type} {enc : TypeId × Value → H} {P : Program} {w : World} {base : Nat} {spare : Nat → Bool} {held : Bool}
theorem trod_struct8 {t : TypeId} {f0 f1 f2 f3 f4 f5 f6 f7 : Field} {fuel : Nat} {cs : List Value} {x : DataW H × List MemPlace} (ht : P.underlying t = some (.struct #[f0, f1, f2, f3, f4, f5, f6, f7])) (h : DataW.trod enc P w base spare held fuel t cs = some x) :
    ∃ y0 y1 y2 y3 y4 y5 y6 y7 n, DataW.trod enc P w base spare held n f0.type ((cs.drop f0.offset).take (P.cellsOf f0.type)) = some y0 ∧ DataW.trod enc P w base spare held n f1.type ((cs.drop f1.offset).take (P.cellsOf f1.type)) = some y1 ∧
      DataW.trod enc P w base spare held n f2.type ((cs.drop f2.offset).take (P.cellsOf f2.type)) = some y2 ∧ DataW.trod enc P w base spare held n f3.type ((cs.drop f3.offset).take (P.cellsOf f3.type)) = some y3 ∧
      DataW.trod enc P w base spare held n f4.type ((cs.drop f4.offset).take (P.cellsOf f4.type)) = some y4 ∧ DataW.trod enc P w base spare held n f5.type ((cs.drop f5.offset).take (P.cellsOf f5.type)) = some y5 ∧
      DataW.trod enc P w base spare held n f6.type ((cs.drop f6.offset).take (P.cellsOf f6.type)) = some y6 ∧ DataW.trod enc P w base spare held n f7.type ((cs.drop f7.offset).take (P.cellsOf f7.type)) = some y7 := by
  obtain ⟨xs, n, _, rfl, hl, hlen, hf⟩ := DataW.trod_struct ht h
  match xs, hlen with
  | [y0, y1, y2, y3, y4, y5, y6, y7], _ => exact ⟨y0, y1, y2, y3, y4, y5, y6, y7, n, by simpa using hf 0 f0 rfl, by simpa using hf 1 f1 rfl, by simpa using hf 2 f2 rfl, by simpa using hf 3 f3 rfl, by simpa using hf 4 f4 rfl, by simpa using hf 5 f5 rfl, by simpa using hf 6 f6 rfl, by simpa using hf 7 f7 rfl⟩
end
section
variable {H : Type} {enc : TypeId × Value → H} {w : World} {base : Nat} {sp : Nat → Bool} {held : Bool}
set_option maxRecDepth 100000 in
theorem open_rule {r : Reach} {b0 : Nat} {v : Value} {d : DataW H} {p : List MemPlace} (hv : Value.okWide Tryz.prog w r b0 28 v) (h : DataW.Trod enc Tryz.prog w base sp held 28 v d p) :
    ∃ (s : ByteArray) (fy ty m k wk d sec base save : Int) (t : ByteArray), v = .agg #[.string s, .int .i64 fy, .int .i64 ty, .int .i64 m, .int .i64 k, .int .i64 wk, .int .i64 d, .int .i64 sec, .int .i64 base, .int .i64 save, .string t] ∧ s.size ≤ maxLen ∧ t.size ≤ maxLen := by
  obtain ⟨cs, rfl, hsz⟩ := okWide_struct Tryz.underlying28 hv
  rw [cellsRule] at hsz
  obtain ⟨c0, c1, c2, c3, c4, c5, c6, c7, c8, c9, c10, rfl⟩ := array11 hsz
  obtain ⟨fuel, hf⟩ := h
  obtain ⟨y0, y1, y2, y3, y4, y5, y6, y7, n, g0, g1, g2, g3, g4, g5, g6, g7⟩ := trod_struct8 Tryz.underlying28 hf
  have g0' : DataW.trod enc Tryz.prog w base sp held n 9 [c0] = some y0 := by simpa [Value.cells, cellsStrR] using g0
  have g1' : DataW.trod enc Tryz.prog w base sp held n 3 [c1] = some y1 := by simpa [Value.cells, cellsIntR] using g1
  have g2' : DataW.trod enc Tryz.prog w base sp held n 3 [c2] = some y2 := by simpa [Value.cells, cellsIntR] using g2
  have g3' : DataW.trod enc Tryz.prog w base sp held n 3 [c3] = some y3 := by simpa [Value.cells, cellsIntR] using g3
  have g4' : DataW.trod enc Tryz.prog w base sp held n 24 [c4, c5, c6] = some y4 := by simpa [Value.cells, cellsOnR] using g4
  have g5' : DataW.trod enc Tryz.prog w base sp held n 26 [c7, c8] = some y5 := by simpa [Value.cells, cellsAtR] using g5
  have g6' : DataW.trod enc Tryz.prog w base sp held n 2 [c9] = some y6 := by simpa [Value.cells, cellsI64R] using g6
  have g7' : DataW.trod enc Tryz.prog w base sp held n 9 [c10] = some y7 := by simpa [Value.cells, cellsStrR] using g7
  obtain ⟨x0, x1, x2, n1, _, _, k0, k1, k2⟩ := trod_struct3 Tryz.underlying24 g4'
  have k0' : DataW.trod enc Tryz.prog w base sp held n1 3 [c4] = some x0 := by simpa [cellsIntR] using k0
  have k1' : DataW.trod enc Tryz.prog w base sp held n1 3 [c5] = some x1 := by simpa [cellsIntR] using k1
  have k2' : DataW.trod enc Tryz.prog w base sp held n1 3 [c6] = some x2 := by simpa [cellsIntR] using k2
  obtain ⟨z0, z1, n2, _, _, m0, m1⟩ := trod_struct2 Tryz.underlying26 g5'
  have m0' : DataW.trod enc Tryz.prog w base sp held n2 2 [c7] = some z0 := by simpa [cellsI64R] using m0
  have m1' : DataW.trod enc Tryz.prog w base sp held n2 3 [c8] = some z1 := by simpa [cellsIntR] using m1
  obtain ⟨s, e0, -, q0⟩ := DataW.trod_string Tryz.underlying9 g0'
  obtain ⟨fy, e1, _, _⟩ := DataW.trod_int Tryz.underlying3 g1'
  obtain ⟨ty, e2, _, _⟩ := DataW.trod_int Tryz.underlying3 g2'
  obtain ⟨m, e3, _, _⟩ := DataW.trod_int Tryz.underlying3 g3'
  obtain ⟨k, e4, _, _⟩ := DataW.trod_int Tryz.underlying3 k0'
  obtain ⟨wk, e5, _, _⟩ := DataW.trod_int Tryz.underlying3 k1'
  obtain ⟨dd, e6, _, _⟩ := DataW.trod_int Tryz.underlying3 k2'
  obtain ⟨sec, e7, _, _⟩ := DataW.trod_int Tryz.underlying2 m0'
  obtain ⟨bb, e8, _, _⟩ := DataW.trod_int Tryz.underlying3 m1'
  obtain ⟨save, e9, _, _⟩ := DataW.trod_int Tryz.underlying2 g6'
  obtain ⟨t, e10, -, q10⟩ := DataW.trod_string Tryz.underlying9 g7'
  simp at e0 e1 e2 e3 e4 e5 e6 e7 e8 e9 e10
  subst e0 e1 e2 e3 e4 e5 e6 e7 e8 e9 e10
  exact ⟨s, fy, ty, m, k, wk, dd, sec, bb, save, t, rfl, q0, q10⟩
end
end Go.Proofs.YtedbohfcbfegjaaGreatDoor

/- Tables of strings that a row lists. -/
set_option linter.unusedVariables false
set_option linter.unusedSimpArgs false
namespace Go.Proofs.YtedbohfcbfegjaaGreatDoor
open Go.RowKit Go.ChangeShapes

theorem str_cells {H : Type} {enc : TypeId × Value → H} {P : Program} {w : World} {base : Nat} {sp : Nat → Bool} {held : Bool} {fuel : Nat} {t e : TypeId} {n : Nat} {cs : List Value} {ss : List ByteArray} {p : List MemPlace}
    (ht : P.underlying t = some (.array n e)) (he : P.underlying e = some .string) (hce : P.cellsOf e = 1)
    (h : DataW.trod enc P w base sp held fuel t cs = some (.agg (ss.map fun s => .lit (.string s.data.toList)), p)) : ∀ i (hi : i < ss.length), cs[i]? = some (.string ss[i]) := by
  obtain ⟨xs, m, rfl, hx, hl, hn, hall⟩ := DataW.trod_array ht h
  have hxs : xs.map (·.1) = ss.map fun s => (DataW.lit (.string s.data.toList) : DataW H) := by
    have := congrArg Prod.fst hx
    simpa using this.symm
  have hln : xs.length = ss.length := by
    have := congrArg List.length hxs
    simpa using this
  intro i hi
  have hf := hall i (by omega)
  rw [hce, Nat.mul_one, List.getElem?_eq_getElem (by omega)] at hf
  obtain ⟨s, hc, hd, _⟩ := DataW.trod_string he hf
  have h1 : cs[i]? = some (.string s) := by
    have := congrArg (·[0]?) hc
    simpa [List.getElem?_take, List.getElem?_drop] using this
  have h2 : (xs.map (·.1))[i]? = some (DataW.lit (.string s.data.toList) : DataW H) := by simp [List.getElem?_eq_getElem (show i < xs.length by omega), hd]
  rw [hxs, List.getElem?_map, List.getElem?_eq_getElem hi] at h2
  simp only [Option.map_some, Option.some.injEq, DataW.lit.injEq, Lit.string.injEq] at h2
  have : ss[i] = s := by
    apply ByteArray.ext
    exact Array.toList_inj.1 h2
  rw [h1, this]
/-- What a row's listed table of strings gives: its cells. -/
theorem tab_cells {P : Program} {W : World} {name : String} {ss : List ByteArray} {rest : List (String × DataW Unit)} {g : Nat} {t e : TypeId} {n : Nat}
    (hg : P.globalNamed name = some g) (hty : (P.globals[g]?).map (·.type) = some t) (ht : P.underlying t = some (.array n e)) (he : P.underlying e = some .string) (hce : P.cellsOf e = 1)
    (h : laidMet P ((name, .agg (ss.map fun s => .lit (.string s.data.toList))) :: rest) W) : ∀ i (hi : i < ss.length), W.cell? ⟨g, i, none⟩ = some (.string ss[i]) := by
  obtain ⟨ps, ⟨g', t', cs, fuel, p, q, hg', ht', hvar, hd, _, _⟩, _⟩ := h
  obtain rfl := Option.some.inj (hg.symm.trans hg')
  obtain rfl := Option.some.inj (hty.symm.trans ht')
  intro i hi
  have h1 := str_cells ht he hce hd i hi
  have := World.var?_cell hg hvar i
  rw [this]
  simpa using h1
theorem cellsString : Tryz.prog.cellsOf 9 = 1 := by kernel_rfl
end Go.Proofs.YtedbohfcbfegjaaGreatDoor
