/- Whole numbers as numbers with a floating point: their values. -/
import Derived.Test.YtnfjdjfajkdiiaaFw
set_option linter.unusedVariables false
set_option linter.unusedSimpArgs false
namespace Go.Proofs.Ytnfjdjfajkdiiaa
open Go.RowKit Go.Sort

namespace Fl
open Ieee
theorem sg_mul (m : Int) (h : Nat) : (m < 0 → -((m.natAbs * h : Nat) : Int) = m * (h : Int)) ∧ (¬ m < 0 → ((m.natAbs * h : Nat) : Int) = m * (h : Int)) := by
  rw [Int.natCast_mul, ← Int.neg_mul]
  constructor
  · intro hm; rw [show -(m.natAbs : Int) = m by omega]
  · intro hm; rw [show (m.natAbs : Int) = m by omega]
/-- A finite word, by its value. -/
theorem V_wn {p : Nat} {t : Int} (hf : fin p) (h : V p = t * (U : Int)) (way : Toward) : wn way p = t ∧ val (rg p) = t.natAbs * U := by
  have hU := U_pos
  have ha := V_natAbs p
  rw [h, Int.natAbs_mul] at ha
  have hv : val (rg p) = t.natAbs * U := ha.symm
  refine ⟨?_, hv⟩
  unfold wn
  rw [hv, whole_exact]
  unfold V at h
  rw [hv] at h
  have hc : ((t.natAbs * U : Nat) : Int) = (t.natAbs : Int) * (U : Int) := by push_cast; rfl
  rw [hc] at h
  have hU' : (U : Int) ≠ 0 := by omega
  cases hg : ng p
  · rw [hg] at h
    simp only [Bool.false_eq_true, if_false] at h ⊢
    exact Int.eq_of_mul_eq_mul_right hU' h
  · rw [hg] at h
    simp only [if_true] at h ⊢
    rw [← Int.neg_mul] at h
    exact Int.eq_of_mul_eq_mul_right hU' h
theorem ww_0 {p : Nat} {t : Int} (hf : fin p) (h : V p = t * (U : Int)) (way : Toward) (h0 : -9223372036854775808 ≤ t) (h1 : t < 9223372036854775808) : wv way p = t ∧ ww way p = 0 := by
  obtain ⟨e, _⟩ := V_wn hf h way
  have e0 : ww way p = 0 := by
    unfold ww
    rw [fin_nan hf, if_neg (by decide), if_pos ⟨hf, by omega, by omega⟩]
  exact ⟨by unfold wv; rw [if_pos e0, e], e0⟩
/-- A sum that has a word is exact. -/
theorem sum_exact {W : Int} {sg : Bool} {R z : Nat} (h : Near W.natAbs 1 R) (hs : W = 0 ∨ sg = decide (W < 0)) (hz : val z = W.natAbs) (hi : z < inf) : wd sg (min R inf) = wd sg z ∧ fin (wd sg z) ∧ V (wd sg z) = W := by
  have e : R = z := h.exact (by rw [hz, Nat.mul_one])
  subst e
  refine ⟨by rw [Nat.min_eq_left (Nat.le_of_lt hi)], fin_wd hi, ?_⟩
  rcases sum_val h hs hi with ⟨a, b⟩ | ⟨a, b⟩
  · rw [b, hz]; omega
  · rw [b, hz]; omega
end Fl
end Go.Proofs.Ytnfjdjfajkdiiaa
