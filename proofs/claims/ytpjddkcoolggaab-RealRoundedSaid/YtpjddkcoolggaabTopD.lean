/- The walk of TopWeekdays: whatever is handed in, the law answers true; nothing old turns. -/
import Derived.Test.YtpjddkcoolggaabFw
import Derived.Test.YtpjddkcoolggaabWkC
set_option linter.unusedVariables false
set_option linter.unusedSimpArgs false
namespace Go.Proofs.Ytpjddkcoolggaab
open Go.RowKit Go.Sort

namespace Fl
open Ieee
def he : Nat := 1073
def H : Nat := 2 ^ he
theorem U_H : U = 2 * H := by
  unfold U H
  rw [show ue = he + 1 from rfl, Nat.pow_succ, Nat.mul_comm]
theorem H_pos : 1 ≤ H := two_pos he
theorem H_G : H = 268435456 * G := by
  have h1 := U_grid
  have h2 := U_H
  omega
theorem H_Gi : (H : Int) = 268435456 * (G : Int) := by
  have h := H_G
  generalize G = g at *; generalize H = k at *; omega
theorem U_Gi : (U : Int) = 536870912 * (G : Int) := by
  have h := U_grid
  generalize G = g at *; generalize U = k at *; omega
theorem ar1 (a h : Nat) : a * 43200 * (2 * h) * (2 * h) = a * h * (86400 * (2 * h)) := by
  have e : 86400 = 43200 * 2 := rfl
  rw [e]; ac_rfl
theorem ar2 (a h : Nat) : a * h * (86400 * (2 * h)) = a * 43200 * (2 * h) * (2 * h) := (ar1 a h).symm
theorem ar3 (n g : Int) : (2 * n + 1) * (268435456 * g) + 1310280436940800 * g = (n + 2440588) * (536870912 * g) := by
  rw [← Int.mul_assoc, ← Int.mul_assoc, ← Int.add_mul]
  have e : (2 * n + 1) * 268435456 + 1310280436940800 = (n + 2440588) * 536870912 := by omega
  rw [e]
theorem ar4 (n g : Int) : (n + 2440588) * (536870912 * g) - 1310280436940800 * g = (2 * n + 1) * (268435456 * g) := by
  rw [← Int.mul_assoc, ← Int.mul_assoc, ← Int.sub_mul]
  have e : (n + 2440588) * 536870912 - 1310280436940800 = (2 * n + 1) * 268435456 := by omega
  rw [e]
theorem sg_mul (m : Int) (h : Nat) : (m < 0 → -((m.natAbs * h : Nat) : Int) = m * (h : Int)) ∧ (¬ m < 0 → ((m.natAbs * h : Nat) : Int) = m * (h : Int)) := by
  rw [Int.natCast_mul, ← Int.neg_mul]
  constructor
  · intro hm; rw [show -(m.natAbs : Int) = m by omega]
  · intro hm; rw [show (m.natAbs : Int) = m by omega]
/-- A finite word, by its value. -/
theorem V_wn {p : Nat} {t : Int} (hf : fin p) (h : V p = t * (U : Int)) (way : Toward) : wn way p = t ∧ val (rg p) = t.natAbs * U := by
  have hU := U_pos
  have ha := V_natAbs p
  rw [h, Int.natAbs_mul] at ha
  have hv : val (rg p) = t.natAbs * U := ha.symm
  refine ⟨?_, hv⟩
  unfold wn
  rw [hv, whole_exact]
  unfold V at h
  rw [hv] at h
  have hc : ((t.natAbs * U : Nat) : Int) = (t.natAbs : Int) * (U : Int) := by push_cast; rfl
  rw [hc] at h
  have hU' : (U : Int) ≠ 0 := by omega
  cases hg : ng p
  · rw [hg] at h
    simp only [Bool.false_eq_true, if_false] at h ⊢
    exact Int.eq_of_mul_eq_mul_right hU' h
  · rw [hg] at h
    simp only [if_true] at h ⊢
    rw [← Int.neg_mul] at h
    exact Int.eq_of_mul_eq_mul_right hU' h
theorem ww_0 {p : Nat} {t : Int} (hf : fin p) (h : V p = t * (U : Int)) (way : Toward) (h0 : -9223372036854775808 ≤ t) (h1 : t < 9223372036854775808) : wv way p = t ∧ ww way p = 0 := by
  obtain ⟨e, _⟩ := V_wn hf h way
  have e0 : ww way p = 0 := by
    unfold ww
    rw [fin_nan hf, if_neg (by decide), if_pos ⟨hf, by omega, by omega⟩]
  exact ⟨by unfold wv; rw [if_pos e0, e], e0⟩
/-- A sum that has a word is exact. -/
theorem sum_exact {W : Int} {sg : Bool} {R z : Nat} (h : Near W.natAbs 1 R) (hs : W = 0 ∨ sg = decide (W < 0)) (hz : val z = W.natAbs) (hi : z < inf) : wd sg (min R inf) = wd sg z ∧ fin (wd sg z) ∧ V (wd sg z) = W := by
  have e : R = z := h.exact (by rw [hz, Nat.mul_one])
  subst e
  refine ⟨by rw [Nat.min_eq_left (Nat.le_of_lt hi)], fin_wd hi, ?_⟩
  rcases sum_val h hs hi with ⟨a, b⟩ | ⟨a, b⟩
  · rw [b, hz]; omega
  · rw [b, hz]; omega
theorem lt_inf_H {z k : Nat} (h : val z = k * H) (hk : k ≤ 9007199254740991) : z < inf := by
  obtain ⟨z2, hz2⟩ := rep ue k (by omega)
  have := lt_inf (z := z2) (k := k) hz2 (by omega)
  have hle : z ≤ z2 := val_le.1 (by rw [h, hz2]; show k * H ≤ k * U; rw [U_H]; exact Nat.mul_le_mul_left _ (by omega))
  omega
/-- Half days after the first: the quotient. -/
theorem noon_quo {m : Int} (h0 : -100000000 ≤ m) (h1 : m ≤ 100000000) : ∃ a, floatBits .quo .f64 (FloatKind.f64.nearest (m * 43200)) day = some a ∧ fin a ∧ V a = m * (H : Int) := by
  obtain ⟨r, hr, ri, rv⟩ := int_exact (m * 43200) (by omega) (by omega)
  have hU := U_pos
  have hx : fin (FloatKind.f64.nearest (m * 43200)) := by rw [hr]; exact fin_wd ri
  obtain ⟨R, hR, hn⟩ := div_near hx fin_day (by decide)
  have er : rg (FloatKind.f64.nearest (m * 43200)) = r := by rw [hr]; exact rg_wd (rung_small ri)
  have eg : ng (FloatKind.f64.nearest (m * 43200)) = decide (m * 43200 < 0) := by rw [hr]; exact ng_wd (rung_small ri)
  rw [er, rg_day, val_day, rv] at hn
  obtain ⟨z, hz⟩ := rep he m.natAbs (by omega)
  have hz' : val z = m.natAbs * H := hz
  have e : R = z := hn.exact (by
    rw [hz', Int.natAbs_mul]
    rw [U_H]
    exact ar1 _ _)
  have zi := lt_inf_H hz' (by omega)
  subst e
  have hR' : floatBits .quo .f64 (FloatKind.f64.nearest (m * 43200)) day = some (wd (ng (FloatKind.f64.nearest (m * 43200)) ^^ ng day) R) := by
    rw [Nat.min_eq_left (Nat.le_of_lt zi)] at hR; exact hR
  refine ⟨_, hR', fin_wd zi, ?_⟩
  rw [V_wd (rung_small zi), hz', eg, show ng day = false by decide, Bool.xor_false]
  by_cases hm : m * 43200 < 0
  · rw [decide_eq_true hm, if_pos rfl]
    exact (sg_mul m H).1 (by omega)
  · rw [decide_eq_false hm, if_neg (by decide)]
    exact (sg_mul m H).2 (by omega)
/-- The day number of a noon. -/
theorem noon_jd {n : Int} (h0 : -10000000 ≤ n) (h1 : n ≤ 10000000) : fin (jdB (n * 86400 + 43200)) ∧ V (jdB (n * 86400 + 43200)) = (n + 2440588) * (U : Int) := by
  have et : n * 86400 + 43200 = (2 * n + 1) * 43200 := by omega
  obtain ⟨a, ha, fa, va⟩ := noon_quo (m := 2 * n + 1) (by omega) (by omega)
  obtain ⟨R, hR, hn⟩ := add_near fa fin_zero
  have W : V a + V zero = (n + 2440588) * (U : Int) := by
    rw [va, V_zero, U_Gi, H_Gi]
    exact ar3 _ _
  rw [W] at hR hn
  obtain ⟨z, hz⟩ := rep ue (n + 2440588).natAbs (by omega)
  have zi := lt_inf hz (by omega)
  have hs : (n + 2440588) * (U : Int) = 0 ∨ (if (n + 2440588) * (U : Int) = 0 then ng a && ng zero else decide ((n + 2440588) * (U : Int) < 0)) = decide ((n + 2440588) * (U : Int) < 0) := by
    by_cases h : (n + 2440588) * (U : Int) = 0
    · exact .inl h
    · right; rw [if_neg h]
  obtain ⟨e1, e2, e3⟩ := sum_exact hn hs (z := z) (by rw [Int.natAbs_mul]; exact hz) zi
  have e : jdB (n * 86400 + 43200) = wd (if (n + 2440588) * (U : Int) = 0 then ng a && ng zero else decide ((n + 2440588) * (U : Int) < 0)) z := by
    unfold jdB
    rw [et, ha, Option.bind_some, show floatBits .add .f64 a zero = some _ from hR, e1]; rfl
  rw [e]
  exact ⟨e2, e3⟩
/-- The second of a day number of a noon, step by step. -/
theorem noon_back {n : Int} {J : Nat} (h0 : -10000000 ≤ n) (h1 : n ≤ 10000000) (fJ : fin J) (vJ : V J = (n + 2440588) * (U : Int)) :
    ∃ s p, floatBits .sub .f64 J zero = some s ∧ floatBits .mul .f64 s day = some p ∧ fin p ∧ V p = (n * 86400 + 43200) * (U : Int) := by
  obtain ⟨R, hR, hn⟩ := sub_near fJ fin_zero
  have W : V J - V zero = (2 * n + 1) * (H : Int) := by
    rw [vJ, V_zero, U_Gi, H_Gi]
    exact ar4 _ _
  rw [W] at hR hn
  obtain ⟨z, hz⟩ := rep he (2 * n + 1).natAbs (by omega)
  have hz' : val z = (2 * n + 1).natAbs * H := hz
  have zi := lt_inf_H hz' (by omega)
  have hs : (2 * n + 1) * (H : Int) = 0 ∨ (if (2 * n + 1) * (H : Int) = 0 then ng J && !ng zero else decide ((2 * n + 1) * (H : Int) < 0)) = decide ((2 * n + 1) * (H : Int) < 0) := by
    by_cases h : (2 * n + 1) * (H : Int) = 0
    · exact .inl h
    · right; rw [if_neg h]
  obtain ⟨e1, e2, e3⟩ := sum_exact hn hs (z := z) (by rw [Int.natAbs_mul]; exact hz') zi
  rw [e1] at hR
  generalize wd (if (2 * n + 1) * (H : Int) = 0 then ng J && !ng zero else decide ((2 * n + 1) * (H : Int) < 0)) z = s at hR e2 e3
  obtain ⟨R2, hR2, hn2⟩ := mul_near e2 fin_day
  have hs2 : val (rg s) = (2 * n + 1).natAbs * H := by rw [← V_natAbs, e3, Int.natAbs_mul]; rfl
  rw [hs2, rg_day, val_day] at hn2
  obtain ⟨z2, hz2⟩ := rep ue ((2 * n + 1).natAbs * 43200) (by omega)
  have hz2' : val z2 = (2 * n + 1).natAbs * 43200 * U := hz2
  have zi2 := lt_inf hz2' (by omega)
  have e : R2 = z2 := hn2.exact (by
    rw [hz2', U_H]
    exact ar2 _ _)
  subst e
  rw [Nat.min_eq_left (Nat.le_of_lt zi2)] at hR2
  refine ⟨s, _, hR, hR2, fin_wd zi2, ?_⟩
  rw [V_wd (rung_small zi2), hz2', show ng day = false by decide, Bool.xor_false]
  have hv : V s = if ng s then -(val (rg s) : Int) else (val (rg s) : Int) := rfl
  rw [e3, hs2] at hv
  have hHp := H_pos
  have hH0 : (H : Int) ≠ 0 := by generalize H = h at *; omega
  obtain ⟨a1, a2⟩ := sg_mul (2 * n + 1) H
  cases hg : ng s
  · rw [hg, if_neg (by decide)] at hv
    rw [if_neg (by decide)]
    have hp : ¬ 2 * n + 1 < 0 := by
      intro hlt
      have h2 := a1 hlt
      rw [← h2] at hv
      have h3 : 0 < (2 * n + 1).natAbs * H := Nat.mul_pos (by omega) hHp
      generalize (2 * n + 1).natAbs * H = q at *
      omega
    rw [show (2 * n + 1).natAbs * 43200 = (n * 86400 + 43200).natAbs by omega]
    exact (sg_mul (n * 86400 + 43200) U).2 (by omega)
  · rw [hg, if_pos rfl] at hv
    rw [if_pos rfl]
    have hp : 2 * n + 1 < 0 := by
      by_cases hlt : 2 * n + 1 < 0
      · exact hlt
      · exfalso
        have h2 := a2 hlt
        rw [← h2] at hv
        have h3 : 0 < (2 * n + 1).natAbs * H := Nat.mul_pos (by omega) hHp
        generalize (2 * n + 1).natAbs * H = q at *
        omega
    rw [show (2 * n + 1).natAbs * 43200 = (n * 86400 + 43200).natAbs by omega]
    exact (sg_mul (n * 86400 + 43200) U).1 (by omega)
theorem sub_self {J : Nat} (fJ : fin J) : floatBits .sub .f64 J J = some 0 := by
  obtain ⟨R, hR, hn⟩ := sub_near fJ fJ
  rw [show V J - V J = 0 by omega] at hR hn
  have e : R = 0 := hn.exact (by rw [val_0]; rfl)
  rw [e] at hR
  have hb : (ng J && !ng J) = false := by cases ng J <;> rfl
  rw [if_pos rfl, hb] at hR
  exact hR
end Fl
end Go.Proofs.Ytpjddkcoolggaab
