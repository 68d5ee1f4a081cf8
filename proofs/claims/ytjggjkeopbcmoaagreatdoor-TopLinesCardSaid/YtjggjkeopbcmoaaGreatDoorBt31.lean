/- Joined: ErP, Tab. -/
import Derived.Test.YtjggjkeopbcmoaaGreatDoorProg
import Derived.OpenShut
import Derived.ShutString
import Derived.Lib.SmallJoins
import Derived.Deep.Strs
import Derived.Test.YtjggjkeopbcmoaaGreatDoorBt01
import Derived.SliceStrings
import Derived.LaidMore
import Derived.ChangeArms
import Derived.WalkSmall
import Derived.Stop.LaidErr
import Derived.Stop.Joined
import Derived.SizedLaws
set_option linter.unusedVariables false
set_option linter.unusedSimpArgs false
namespace Go.Proofs.YtjggjkeopbcmoaaGreatDoor
open Go Go.ChangeShapes Go.WideShapes Go.Joins Go.Deep
theorem array13 {α : Type} {cs : Array α} (h : cs.size = 13) : ∃ c0 c1 c2 c3 c4 c5 c6 c7 c8 c9 c10 c11 c12, cs = #[c0, c1, c2, c3, c4, c5, c6, c7, c8, c9, c10, c11, c12] := by
 obtain ⟨l⟩ := cs
 match l, h with
 | [x0, x1, x2, x3, x4, x5, x6, x7, x8, x9, x10, x11, x12], _ => exact ⟨x0, x1, x2, x3, x4, x5, x6, x7, x8, x9, x10, x11, x12, rfl⟩
theorem cellsEra : Tryz.prog.cellsOf 31 = 13 := by kernel_rfl
theorem cellsUnt : Tryz.prog.cellsOf 29 = 8 := by kernel_rfl
theorem cellsOnE : Tryz.prog.cellsOf 23 = 3 := by kernel_rfl
theorem cellsAtE : Tryz.prog.cellsOf 25 = 2 := by kernel_rfl
theorem cellsIntE : Tryz.prog.cellsOf 3 = 1 := by kernel_rfl
theorem cellsI64E : Tryz.prog.cellsOf 2 = 1 := by kernel_rfl
theorem cellsStrE : Tryz.prog.cellsOf 9 = 1 := by kernel_rfl
theorem cellsBoolE : Tryz.prog.cellsOf 4 = 1 := by kernel_rfl
section
variable {H : Type} {enc : TypeId × Value → H} {P : Program} {w : World} {base : Nat} {spare : Nat → Bool} {held : Bool}
theorem trodE5 {t : TypeId} {f0 f1 f2 f3 f4 : Field} {fuel : Nat} {cs : List Value} {x : DataW H × List MemPlace} (ht : P.underlying t = some (.struct #[f0, f1, f2, f3, f4])) (h : DataW.trod enc P w base spare held fuel t cs = some x) :
  ∃ y0 y1 y2 y3 y4 n, DataW.trod enc P w base spare held n f0.type ((cs.drop f0.offset).take (P.cellsOf f0.type)) = some y0 ∧ DataW.trod enc P w base spare held n f1.type ((cs.drop f1.offset).take (P.cellsOf f1.type)) = some y1 ∧ DataW.trod enc P w base spare held n f2.type ((cs.drop f2.offset).take (P.cellsOf f2.type)) = some y2 ∧ DataW.trod enc P w base spare held n f3.type ((cs.drop f3.offset).take (P.cellsOf f3.type)) = some y3 ∧ DataW.trod enc P w base spare held n f4.type ((cs.drop f4.offset).take (P.cellsOf f4.type)) = some y4 := by
 obtain ⟨xs, n, _, rfl, hl, hlen, hf⟩ := DataW.trod_struct ht h
 match xs, hlen with
 | [y0, y1, y2, y3, y4], _ => exact ⟨y0, y1, y2, y3, y4, n, by simpa using hf 0 f0 rfl, by simpa using hf 1 f1 rfl, by simpa using hf 2 f2 rfl, by simpa using hf 3 f3 rfl, by simpa using hf 4 f4 rfl⟩
theorem trodE6 {t : TypeId} {f0 f1 f2 f3 f4 f5 : Field} {fuel : Nat} {cs : List Value} {x : DataW H × List MemPlace} (ht : P.underlying t = some (.struct #[f0, f1, f2, f3, f4, f5])) (h : DataW.trod enc P w base spare held fuel t cs = some x) :
  ∃ y0 y1 y2 y3 y4 y5 n, DataW.trod enc P w base spare held n f0.type ((cs.drop f0.offset).take (P.cellsOf f0.type)) = some y0 ∧ DataW.trod enc P w base spare held n f1.type ((cs.drop f1.offset).take (P.cellsOf f1.type)) = some y1 ∧ DataW.trod enc P w base spare held n f2.type ((cs.drop f2.offset).take (P.cellsOf f2.type)) = some y2 ∧ DataW.trod enc P w base spare held n f3.type ((cs.drop f3.offset).take (P.cellsOf f3.type)) = some y3 ∧ DataW.trod enc P w base spare held n f4.type ((cs.drop f4.offset).take (P.cellsOf f4.type)) = some y4 ∧ DataW.trod enc P w base spare held n f5.type ((cs.drop f5.offset).take (P.cellsOf f5.type)) = some y5 := by
 obtain ⟨xs, n, _, rfl, hl, hlen, hf⟩ := DataW.trod_struct ht h
 match xs, hlen with
 | [y0, y1, y2, y3, y4, y5], _ => exact ⟨y0, y1, y2, y3, y4, y5, n, by simpa using hf 0 f0 rfl, by simpa using hf 1 f1 rfl, by simpa using hf 2 f2 rfl, by simpa using hf 3 f3 rfl, by simpa using hf 4 f4 rfl, by simpa using hf 5 f5 rfl⟩
end
section
variable {H : Type} {enc : TypeId × Value → H} {w : World} {base : Nat} {sp : Nat → Bool} {held : Bool}
set_option maxRecDepth 100000 in
theorem open_era {r : Reach} {b0 : Nat} {v : Value} {d : DataW H} {p : List MemPlace} (hv : Value.okWide Tryz.prog w r b0 31 v) (h : DataW.Trod enc Tryz.prog w base sp held 31 v d p) :
  ∃ (off kind save : Int) (rs fm : ByteArray) (hh : Bool) (yr m k wk dd sec bb : Int), v = .agg #[.int .i64 off, .int .i64 kind, .int .i64 save, .string rs, .string fm, .bool hh, .int .i64 yr, .int .i64 m, .int .i64 k, .int .i64 wk, .int .i64 dd, .int .i64 sec, .int .i64 bb] ∧ rs.size ≤ maxLen ∧ fm.size ≤ maxLen ∧ (Lit.int .i64 yr).wf = true := by
 obtain ⟨cs, rfl, hsz⟩ := okWide_struct Tryz.underlying31 hv
 rw [cellsEra] at hsz
 obtain ⟨c0, c1, c2, c3, c4, c5, c6, c7, c8, c9, c10, c11, c12, rfl⟩ := array13 hsz
 obtain ⟨fuel, hf⟩ := h
 obtain ⟨y0, y1, y2, y3, y4, y5, n, g0, g1, g2, g3, g4, g5⟩ := trodE6 Tryz.underlying31 hf
 have g0' : DataW.trod enc Tryz.prog w base sp held n 2 [c0] = some y0 := by simpa [Value.cells, cellsI64E] using g0
 have g1' : DataW.trod enc Tryz.prog w base sp held n 3 [c1] = some y1 := by simpa [Value.cells, cellsIntE] using g1
 have g2' : DataW.trod enc Tryz.prog w base sp held n 2 [c2] = some y2 := by simpa [Value.cells, cellsI64E] using g2
 have g3' : DataW.trod enc Tryz.prog w base sp held n 9 [c3] = some y3 := by simpa [Value.cells, cellsStrE] using g3
 have g4' : DataW.trod enc Tryz.prog w base sp held n 9 [c4] = some y4 := by simpa [Value.cells, cellsStrE] using g4
 have g5' : DataW.trod enc Tryz.prog w base sp held n 29 [c5, c6, c7, c8, c9, c10, c11, c12] = some y5 := by simpa [Value.cells, cellsUnt] using g5
 obtain ⟨u0, u1, u2, u3, u4, n1, k0, k1, k2, k3, k4⟩ := trodE5 Tryz.underlying29 g5'
 have k0' : DataW.trod enc Tryz.prog w base sp held n1 4 [c5] = some u0 := by simpa [cellsBoolE] using k0
 have k1' : DataW.trod enc Tryz.prog w base sp held n1 3 [c6] = some u1 := by simpa [cellsIntE] using k1
 have k2' : DataW.trod enc Tryz.prog w base sp held n1 3 [c7] = some u2 := by simpa [cellsIntE] using k2
 have k3' : DataW.trod enc Tryz.prog w base sp held n1 23 [c8, c9, c10] = some u3 := by simpa [cellsOnE] using k3
 have k4' : DataW.trod enc Tryz.prog w base sp held n1 25 [c11, c12] = some u4 := by simpa [cellsAtE] using k4
 obtain ⟨x0, x1, x2, n2, _, _, o0, o1, o2⟩ := trod_struct3 Tryz.underlying23 k3'
 have o0' : DataW.trod enc Tryz.prog w base sp held n2 3 [c8] = some x0 := by simpa [cellsIntE] using o0
 have o1' : DataW.trod enc Tryz.prog w base sp held n2 3 [c9] = some x1 := by simpa [cellsIntE] using o1
 have o2' : DataW.trod enc Tryz.prog w base sp held n2 3 [c10] = some x2 := by simpa [cellsIntE] using o2
 obtain ⟨z0, z1, n3, _, _, m0, m1⟩ := trod_struct2 Tryz.underlying25 k4'
 have m0' : DataW.trod enc Tryz.prog w base sp held n3 2 [c11] = some z0 := by simpa [cellsI64E] using m0
 have m1' : DataW.trod enc Tryz.prog w base sp held n3 3 [c12] = some z1 := by simpa [cellsIntE] using m1
 obtain ⟨off, e0, _, _⟩ := DataW.trod_int Tryz.underlying2 g0'
 obtain ⟨kind, e1, _, _⟩ := DataW.trod_int Tryz.underlying3 g1'
 obtain ⟨save, e2, _, _⟩ := DataW.trod_int Tryz.underlying2 g2'
 obtain ⟨rs, e3, -, q3⟩ := DataW.trod_string Tryz.underlying9 g3'
 obtain ⟨fm, e4, -, q4⟩ := DataW.trod_string Tryz.underlying9 g4'
 obtain ⟨hh, e5, _⟩ := DataW.trod_bool Tryz.underlying4 k0'
 obtain ⟨yr, e6, _, q6⟩ := DataW.trod_int Tryz.underlying3 k1'
 obtain ⟨m, e7, _, _⟩ := DataW.trod_int Tryz.underlying3 k2'
 obtain ⟨k, e8, _, _⟩ := DataW.trod_int Tryz.underlying3 o0'
 obtain ⟨wk, e9, _, _⟩ := DataW.trod_int Tryz.underlying3 o1'
 obtain ⟨dd, e10, _, _⟩ := DataW.trod_int Tryz.underlying3 o2'
 obtain ⟨sec, e11, _, _⟩ := DataW.trod_int Tryz.underlying2 m0'
 obtain ⟨bb, e12, _, _⟩ := DataW.trod_int Tryz.underlying3 m1'
 simp at e0 e1 e2 e3 e4 e5 e6 e7 e8 e9 e10 e11 e12
 subst e0 e1 e2 e3 e4 e5 e6 e7 e8 e9 e10 e11 e12
 exact ⟨off, kind, save, rs, fm, hh, yr, m, k, wk, dd, sec, bb, rfl, q3, q4, q6⟩
end
end Go.Proofs.YtjggjkeopbcmoaaGreatDoor
set_option linter.unusedVariables false
set_option linter.unusedSimpArgs false
namespace Go.Proofs.YtjggjkeopbcmoaaGreatDoor
open Go.RowKit Go.ChangeShapes
theorem str_cells {H : Type} {enc : TypeId × Value → H} {P : Program} {w : World} {base : Nat} {sp : Nat → Bool} {held : Bool} {fuel : Nat} {t e : TypeId} {n : Nat} {cs : List Value} {ss : List ByteArray} {p : List MemPlace}
  (ht : P.underlying t = some (.array n e)) (he : P.underlying e = some .string) (hce : P.cellsOf e = 1)
  (h : DataW.trod enc P w base sp held fuel t cs = some (.agg (ss.map fun s => .lit (.string s.data.toList)), p)) : ∀ i (hi : i < ss.length), cs[i]? = some (.string ss[i]) := by
 obtain ⟨xs, m, rfl, hx, hl, hn, hall⟩ := DataW.trod_array ht h
 have hxs : xs.map (·.1) = ss.map fun s => (DataW.lit (.string s.data.toList) : DataW H) := by
  have := congrArg Prod.fst hx
  simpa using this.symm
 have hln : xs.length = ss.length := by
  have := congrArg List.length hxs
  simpa using this
 intro i hi
 have hf := hall i (by omega)
 rw [hce, Nat.mul_one, List.getElem?_eq_getElem (by omega)] at hf
 obtain ⟨s, hc, hd, _⟩ := DataW.trod_string he hf
 have h1 : cs[i]? = some (.string s) := by
  have := congrArg (·[0]?) hc
  simpa [List.getElem?_take, List.getElem?_drop] using this
 have h2 : (xs.map (·.1))[i]? = some (DataW.lit (.string s.data.toList) : DataW H) := by simp [List.getElem?_eq_getElem (show i < xs.length by omega), hd]
 rw [hxs, List.getElem?_map, List.getElem?_eq_getElem hi] at h2
 simp only [Option.map_some, Option.some.injEq, DataW.lit.injEq, Lit.string.injEq] at h2
 have : ss[i] = s := by
  apply ByteArray.ext
  exact Array.toList_inj.1 h2
 rw [h1, this]
theorem tab_cells {P : Program} {W : World} {name : String} {ss : List ByteArray} {rest : List (String × DataW Unit)} {g : Nat} {t e : TypeId} {n : Nat}
  (hg : P.globalNamed name = some g) (hty : (P.globals[g]?).map (·.type) = some t) (ht : P.underlying t = some (.array n e)) (he : P.underlying e = some .string) (hce : P.cellsOf e = 1)
  (h : laidMet P ((name, .agg (ss.map fun s => .lit (.string s.data.toList))) :: rest) W) : ∀ i (hi : i < ss.length), W.cell? ⟨g, i, none⟩ = some (.string ss[i]) := by
 obtain ⟨ps, ⟨g', t', cs, fuel, p, q, hg', ht', hvar, hd, _, _⟩, _⟩ := h
 obtain rfl := Option.some.inj (hg.symm.trans hg')
 obtain rfl := Option.some.inj (hty.symm.trans ht')
 intro i hi
 have h1 := str_cells ht he hce hd i hi
 have := World.var?_cell hg hvar i
 rw [this]
 simpa using h1
theorem cellsString : Tryz.prog.cellsOf 9 = 1 := by kernel_rfl
end Go.Proofs.YtjggjkeopbcmoaaGreatDoor
