/- Fields joined: lists of texts. -/
import Derived.Test.YtnkmpchonlajpaaDoorFdM
import Derived.Test.YtnkmpchonlajpaaDoorFdS
set_option linter.unusedVariables false
set_option linter.unusedSimpArgs false
namespace Go.Proofs.YtnkmpchonlajpaaDoor
open Go.RowKit Go.Sort

namespace Fd
def bl (l : List ByteArray) : List (List UInt8) := l.map (·.data.toList)
/-- How many bytes there are. -/
def tot (l : List ByteArray) : Nat := (l.map (·.size)).foldr (· + ·) 0
theorem tot_cons (x : ByteArray) (l : List ByteArray) : tot (x :: l) = x.size + tot l := rfl
theorem tot_drop (l : List ByteArray) (k : Nat) (h : k < l.length) : tot (l.drop k) = l[k].size + tot (l.drop (k + 1)) := by
  rw [List.drop_eq_getElem_cons h, tot_cons]
theorem jr_next (acc : List UInt8) (k : Nat) (x : List UInt8) (r : List (List UInt8)) (h : (tx x).2 = 0) : jr acc k (x :: r) = jr (acc ++ ((if k = 0 then [] else [32]) ++ (tx x).1)) (k + 1) r := by
  conv => lhs; unfold jr
  rw [if_pos h]
theorem jr_stop (acc : List UInt8) (k : Nat) (x : List UInt8) (r : List (List UInt8)) (h : (tx x).2 ≠ 0) : jr acc k (x :: r) = ([], (tx x).2) := by
  conv => lhs; unfold jr
  rw [if_neg h]
theorem bl_drop (l : List ByteArray) (k : Nat) (h : k < l.length) : (bl l).drop k = l[k].data.toList :: (bl l).drop (k + 1) := by
  unfold bl
  rw [List.drop_eq_getElem_cons (by simpa using h), List.getElem_map]
theorem arr_len (l : List UInt8) : (⟨l.toArray⟩ : ByteArray).size = l.length := List.size_toArray
theorem arr_app (a b : List UInt8) : (⟨(a ++ b).toArray⟩ : ByteArray) = ⟨a.toArray⟩ ++ ⟨b.toArray⟩ := by
  apply ByteArray.ext; apply Array.toList_inj.1; simp
end Fd
end Go.Proofs.YtnkmpchonlajpaaDoor

