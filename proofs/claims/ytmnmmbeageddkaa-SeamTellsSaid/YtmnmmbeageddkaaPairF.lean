/- The pair law in the middle of a walk: the frame behind a drawn region, written out. -/
import Derived.Test.YtmnmmbeageddkaaPair
namespace Go.Pairs
open Go

theorem Same.fill {l : List Oper} {a0 a : Act} (h : Same l a0 a) :
    a = ⟨((List.range a0.tmps.size).map fun i => if (l.filterMap (·.dst)).contains i then a.tmps.getD i undef else a0.tmps.getD i undef).toArray, a0.defers⟩ := by
  obtain ⟨tm, df⟩ := a
  have h1 := h.size
  have h2 := h.defers
  have h3 := h.base
  dsimp only at h1 h2 h3
  subst h2
  have e : tm = ((List.range a0.tmps.size).map fun i => if (l.filterMap (·.dst)).contains i then tm.getD i undef else a0.tmps.getD i undef).toArray := by
    generalize (l.filterMap (·.dst)) = ds at *
    apply Array.toList_inj.1
    apply List.ext_getElem?
    intro i
    rw [Array.getElem?_toList]
    show tm[i]? = ((List.range a0.tmps.size).map fun i => if ds.contains i then tm.getD i undef else a0.tmps.getD i undef)[i]?
    by_cases hi : i < tm.size
    · have hi' : i < a0.tmps.size := by omega
      rw [List.getElem?_map, List.getElem?_range hi', Option.map_some]
      cases hc : ds.contains i
      · have := h3 i hc
        rw [if_neg (by simp), Array.getD_eq_getD_getElem?, ← this, Array.getElem?_eq_getElem hi]; rfl
      · rw [if_pos rfl, Array.getD_eq_getD_getElem?, Array.getElem?_eq_getElem hi]; rfl
    · have hi' : ¬ i < a0.tmps.size := by omega
      rw [List.getElem?_map, List.getElem?_eq_none (by simp; omega), Array.getElem?_eq_none (by omega)]; rfl
  exact congrArg (fun x => Act.mk x a0.defers) e
theorem getD_of {a : Act} {t : Nat} {v : Value} (h : a.tmps[t]? = some v) : a.tmps.getD t undef = v := by
  simp [Array.getD_eq_getD_getElem?, h]
end Go.Pairs
