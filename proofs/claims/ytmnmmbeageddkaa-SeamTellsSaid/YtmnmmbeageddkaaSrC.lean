/- The reference's sets: the contracts of Or and And. -/
import Derived.Test.YtmnmmbeageddkaaSrB
import Derived.Test.YtmnmmbeageddkaaApL
import Derived.Maps.AppendAt
set_option linter.unusedVariables false
set_option linter.unusedSimpArgs false
namespace Go.Proofs.Ytmnmmbeageddkaa
open Go.RowKit Go.Sort Go.Shelf

namespace Ss
/-- What two have both, pair by pair. -/
def an2 (x : S) : List S → List S → List S
  | [], out => out
  | y :: b, out => an2 x b (out ++ bth x y)
def an1 (b : List S) : List S → List S → List S
  | [], out => out
  | x :: a, out => an1 b a (an2 x b out)
theorem an2_eq (x : S) (b : List S) : ∀ out, an2 x b out = out ++ b.flatMap fun y => bth x y := by
  induction b with
  | nil => intro out; simp [an2]
  | cons y b ih => intro out; rw [an2, ih, List.flatMap_cons, List.append_assoc]
theorem an1_eq (b a : List S) : ∀ out, an1 b a out = out ++ anl a b := by
  induction a with
  | nil => intro out; simp [an1, anl]
  | cons x a ih => intro out; rw [an1, ih, an2_eq]; unfold anl; rw [List.flatMap_cons, List.append_assoc]
theorem an2_drop (x : S) (b out : List S) (k : Nat) (h : k < b.length) : an2 x (b.drop k) out = an2 x (b.drop (k + 1)) (out ++ bth x b[k]) := by
  rw [List.drop_eq_getElem_cons h]; rfl
theorem an1_drop (b a out : List S) (k : Nat) (h : k < a.length) : an1 b (a.drop k) out = an1 b (a.drop (k + 1)) (an2 a[k] b out) := by
  rw [List.drop_eq_getElem_cons h]; rfl
theorem bth_len (x y : S) : (bth x y).length ≤ 1 := by unfold bth; split <;> simp
end Ss
end Go.Proofs.Ytmnmmbeageddkaa

