/- Joined: MnOg, QyQ. -/
import Derived.Test.YtbcbggdbojonmaaGreatDoorBq04
import Derived.SliceStrings
import Derived.OpenShut
import Derived.LaidMore
import Derived.ChangeArms
import Derived.ChangeSame
import Derived.WalkSmall
import Derived.Lib.SmallJoins
import Derived.Test.YtbcbggdbojonmaaGreatDoorBq03
import Derived.Test.YtbcbggdbojonmaaGreatDoorBq23
import Derived.WalkKit
import Derived.ProofKit
set_option linter.unusedVariables false
set_option linter.unusedSimpArgs false
namespace Go.Proofs.YtbcbggdbojonmaaGreatDoor
open Go.RowKit Go.Sort Go.ChangeShapes Go.WideShapes Go.Joins
theorem i64_wf {x : Int} (h : (Lit.int .i64 x).wf = true) : -9223372036854775808 ≤ x ∧ x ≤ 9223372036854775807 := by
 simp [Lit.wf, IntKind.min, IntKind.max, IntKind.signed, IntKind.bits] at h
 exact ⟨by omega, by omega⟩
section
variable {H : Type} {enc : TypeId × Value → H} {w : World} {base : Nat} {sp : Nat → Bool} {held : Bool}
end
end Go.Proofs.YtbcbggdbojonmaaGreatDoor
set_option linter.unusedVariables false
set_option linter.unusedSimpArgs false
namespace Go.Proofs.YtbcbggdbojonmaaGreatDoor
open Go.RowKit Go.Sort Go.ChangeShapes Go.WideShapes Go.Joins
theorem cellsQue : Tryz.prog.cellsOf 23 = 6 := by kernel_rfl
theorem cellsStQ : Tryz.prog.cellsOf 9 = 1 := by kernel_rfl
theorem cellsInQ : Tryz.prog.cellsOf 3 = 1 := by kernel_rfl
theorem cellsI6Q : Tryz.prog.cellsOf 2 = 1 := by kernel_rfl
namespace Qy
def dQ {H : Type} (k : Int) (z : ByteArray) (t n u p : Int) : DataW H := .agg [.lit (.int .i64 k), .lit (.string z.data.toList), .lit (.int .i64 t), .lit (.int .i64 n), .lit (.int .i64 u), .lit (.int .i64 p)]
end Qy
section
variable {H : Type} {enc : TypeId × Value → H} {w : World} {base : Nat} {sp : Nat → Bool} {held : Bool}
set_option maxRecDepth 100000 in
theorem open_query {r : Reach} {b0 : Nat} {v : Value} {dd : DataW H} {p : List MemPlace} (hv : Value.okWide Tryz.prog w r b0 23 v) (h : DataW.Trod enc Tryz.prog w base sp held 23 v dd p) :
  ∃ (k : Int) (z : ByteArray) (t n u p' : Int), v = .agg #[.int .i64 k, .string z, .int .i64 t, .int .i64 n, .int .i64 u, .int .i64 p'] ∧ dd = Qy.dQ k z t n u p' ∧ An.bd t ∧ An.bd n := by
 obtain ⟨cs, rfl, hsz⟩ := okWide_struct Tryz.underlying23 hv
 obtain ⟨fuel, hf⟩ := h
 obtain ⟨xs, m, _, hy, hl, hlen, hf⟩ := DataW.trod_struct Tryz.underlying23 hf
 rw [cellsQue] at hl
 obtain ⟨ct, rfl⟩ : ∃ l : List Value, cs = l.toArray := ⟨cs.toList, by simp⟩
 have hl : ct.length = 6 := hl
 match xs, hlen with
 | [y0, y1, y2, y3, y4, y5], _ =>
  have h0 : DataW.trod enc Tryz.prog w base sp held m 3 ((ct.drop 0).take (Tryz.prog.cellsOf 3)) = some y0 := hf 0 _ rfl
  have h1 : DataW.trod enc Tryz.prog w base sp held m 9 ((ct.drop 1).take (Tryz.prog.cellsOf 9)) = some y1 := hf 1 _ rfl
  have h2 : DataW.trod enc Tryz.prog w base sp held m 2 ((ct.drop 2).take (Tryz.prog.cellsOf 2)) = some y2 := hf 2 _ rfl
  have h3 : DataW.trod enc Tryz.prog w base sp held m 2 ((ct.drop 3).take (Tryz.prog.cellsOf 2)) = some y3 := hf 3 _ rfl
  have h4 : DataW.trod enc Tryz.prog w base sp held m 3 ((ct.drop 4).take (Tryz.prog.cellsOf 3)) = some y4 := hf 4 _ rfl
  have h5 : DataW.trod enc Tryz.prog w base sp held m 3 ((ct.drop 5).take (Tryz.prog.cellsOf 3)) = some y5 := hf 5 _ rfl
  match ct, hl with
  | [c0, c1, c2, c3, c4, c5], _ =>
   simp only [cellsInQ, cellsStQ, cellsI6Q] at h0 h1 h2 h3 h4 h5
   obtain ⟨k, e0, f0, z0⟩ := DataW.trod_int Tryz.underlying3 h0
   obtain ⟨z, e1, f1, z1⟩ := DataW.trod_string Tryz.underlying9 h1
   obtain ⟨t, e2, f2, z2⟩ := DataW.trod_int Tryz.underlying2 h2
   obtain ⟨n, e3, f3, z3⟩ := DataW.trod_int Tryz.underlying2 h3
   obtain ⟨u, e4, f4, z4⟩ := DataW.trod_int Tryz.underlying3 h4
   obtain ⟨p', e5, f5, z5⟩ := DataW.trod_int Tryz.underlying3 h5
   simp at e0 e1 e2 e3 e4 e5
   subst e0; subst e1; subst e2; subst e3; subst e4; subst e5
   refine ⟨k, z, t, n, u, p', rfl, ?_, i64_wf z2, i64_wf z3⟩
   have := congrArg Prod.fst hy
   simp only [] at this
   rw [this, List.map_cons, List.map_cons, List.map_cons, List.map_cons, List.map_cons, List.map_cons, List.map_nil, f0, f1, f2, f3, f4, f5]
   rfl
end
theorem query_weighs {H : Type} (k : Int) (z : ByteArray) (t n u p : Int) : z.data.toList.length ∈ DataW.weights (H := H) Tryz.prog 23 (Qy.dQ k z t n u p) := by
 unfold Qy.dQ
 simp [DataW.weights, DataW.weightsEach, Tryz.underlying23]
end Go.Proofs.YtbcbggdbojonmaaGreatDoor
