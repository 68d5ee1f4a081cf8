/- Words that are one, or no numbers: what operations, rounding and whole numbers make of them. -/
import Derived.Test.YtnfjdjfajkdiiaaFw
set_option linter.unusedVariables false
set_option linter.unusedSimpArgs false
namespace Go.Proofs.Ytnfjdjfajkdiiaa
open Go.RowKit

namespace Fl
theorem arith_nan2 {op : BinOp} (hop : op = .add ∨ op = .sub ∨ op = .mul ∨ op = .quo) {x q : Nat} (hq : nan q = true) : floatBits op .f64 x q = none := by
  have e : Ieee.double.read q = _ := read_nan (nan_true.1 hq)
  rcases hop with rfl | rfl | rfl | rfl
  · show Ieee.double.add x q = none
    unfold Ieee.Format.add; rw [e]; cases Ieee.double.read x <;> rfl
  · show Ieee.double.sub x q = none
    unfold Ieee.Format.sub; rw [e]; cases Ieee.double.read x <;> rfl
  · show Ieee.double.mul x q = none
    unfold Ieee.Format.mul; rw [e]; cases Ieee.double.read x <;> rfl
  · show Ieee.double.div x q = none
    unfold Ieee.Format.div; rw [e]; cases Ieee.double.read x <;> rfl
theorem FOp.eqv2 {op : BinOp} (hop : op = .add ∨ op = .sub ∨ op = .mul ∨ op = .quo) {x y y' r : Nat} (h : FOp op x y r) (k : Eqv y y') : Eqv r (Fl.cop op x y') := by
  rcases k.2 with e | ⟨e1, e2⟩
  · rw [← e]; exact h.cop
  · refine ⟨h.1, .inr ⟨h.nan (arith_nan2 hop e1), ?_⟩⟩
    unfold Fl.cop
    rw [arith_nan2 hop e2]; exact nan_q
/-- A word made whole, what is no number under one word. -/
def crd (way : Ieee.Toward) (x : Nat) : Nat := if nan x then 9221120237041090560 else itg way x
theorem Rd.crd {way : Ieee.Toward} {x y : Nat} (h : Rd way x y) : Eqv y (crd way x) := by
  refine ⟨h.1, ?_⟩
  unfold Fl.crd
  cases hn : nan x
  · left; rw [h.2.2 hn]; rfl
  · right; exact ⟨h.2.1 hn, nan_q⟩
theorem Rd.eqv {way : Ieee.Toward} {x x' y : Nat} (h : Rd way x y) (k : Eqv x x') : Eqv y (Fl.crd way x') := by
  rcases k.2 with e | ⟨e1, e2⟩
  · rw [← e]; exact h.crd
  · refine ⟨h.1, .inr ⟨h.2.1 e1, ?_⟩⟩
    unfold Fl.crd; rw [e2]; exact nan_q
theorem wv_eqv {way : Ieee.Toward} {p p' : Nat} (h : Eqv p p') : wv way p = wv way p' ∧ ww way p = ww way p' := by
  rcases h.2 with e | ⟨e1, e2⟩
  · rw [e]; exact ⟨rfl, rfl⟩
  · have a : ∀ q, nan q = true → ww way q = 18 ∧ wv way q = 0 := by
      intro q hq
      have e : ww way q = 18 := by unfold ww; rw [hq, if_pos rfl]
      exact ⟨e, by unfold wv; rw [if_neg (by rw [e]; decide)]⟩
    rw [(a _ e1).1, (a _ e1).2, (a _ e2).1, (a _ e2).2]; exact ⟨rfl, rfl⟩
end Fl
end Go.Proofs.Ytnfjdjfajkdiiaa
