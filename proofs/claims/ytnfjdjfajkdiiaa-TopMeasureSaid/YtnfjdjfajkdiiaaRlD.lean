/- Sum of real at any list. -/
import Derived.Test.YtnfjdjfajkdiiaaSum
set_option linter.unusedVariables false
set_option linter.unusedSimpArgs false
namespace Go.Proofs.Ytnfjdjfajkdiiaa
open Go.RowKit Go.Sort

set_option maxHeartbeats 1000000 in
theorem sum_empty (A : Option Addr) (c : Nat) (w : World) : Calls Try.prog 47 #[.slice A 0 c] w fun e w' => e = .returned (.float .f64 0) ∧ w = w' := by
  go_enter Try.func47, Try.ntmps47
  go_wp2
  go_ret
  exact ⟨rfl, rfl⟩
/-- What a Sum answers. -/
def SumP (l : List Nat) (w : World) (e : Ending) (w' : World) : Prop := ∃ r, Fl.Eqv r (Fl.csum l) ∧ e = .returned (.float .f64 r) ∧ ∃ k, w' = w.drewN k
theorem sum_all (A : Option Addr) (n c : Nat) (l : List Nat) (w : World) (h : FlS w (.slice A n c) l) (hc : n ≤ c) (hm : c ≤ maxLen) (hw : ∀ x ∈ l, x < 18446744073709551616) :
    Calls Try.prog 47 #[.slice A n c] w (SumP l w) := by
  have hn := h.len
  by_cases h0 : n = 0
  · subst h0
    have e : l = [] := List.eq_nil_of_length_eq_zero hn.symm
    subst e
    refine (sum_empty A c w).mono ?_
    rintro e w' ⟨rfl, rfl⟩
    exact ⟨0, Fl.Eqv.refl (by decide), rfl, 0, rfl⟩
  · obtain ⟨a, rfl, -⟩ := h.get 0 (by omega)
    exact sum_any a n c l w h (by omega) hc hm hw
end Go.Proofs.Ytnfjdjfajkdiiaa
