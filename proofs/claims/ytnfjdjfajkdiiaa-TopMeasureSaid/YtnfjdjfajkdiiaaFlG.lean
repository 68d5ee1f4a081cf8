/- Sums, differences, products and quotients as values: no further from the exact ones than a step of a grid; greater ones of greater ones. -/
import Derived.Test.YtnfjdjfajkdiiaaJul
set_option linter.unusedVariables false
set_option linter.unusedSimpArgs false
namespace Go.Proofs.Ytnfjdjfajkdiiaa.Fl
open Ieee

theorem grid_inf {N D R e : Nat} (h : Near N D R) (hD : 1 ≤ D) (he : e ≤ 1900) (hN : N ≤ 9007199254740991 * 2 ^ e * D) : R < inf := by
  obtain ⟨z, hz⟩ := rep e 9007199254740991 (by decide)
  refine near_fin h ?_ (by rw [hz]; exact hN)
  refine val_lt.1 ?_
  rw [hz, val_inf]
  have h1 : 2 ^ (e + 2) ≤ 2 ^ ui := pow_le (by rw [ui_eq]; omega)
  have h2 : 2 ^ (e + 2) = 4 * 2 ^ e := by rw [pow_split, Nat.mul_comm]
  have h0 := two_pos e
  generalize 2 ^ e = Y at *
  generalize 2 ^ (e + 2) = Z at *
  generalize 2 ^ ui = T at *
  omega
theorem rung_small {R : Nat} (h : R < inf) : R < 9223372036854775808 := Nat.lt_trans h (by decide)
theorem fin_wd {s : Bool} {R : Nat} (h : R < inf) : fin (wd s R) := by unfold fin; rw [rg_wd (rung_small h)]; exact h
theorem val_0 : val 0 = 0 := val_lo (by decide)
/-- A rounded sum. -/
theorem sum_grid {W : Int} {sg : Bool} {R e : Nat} (h : Near W.natAbs 1 R) (hs : W = 0 ∨ sg = decide (W < 0)) (he : e ≤ 1900) (hb0 : -(9007199254740991 * (2 ^ e : Nat) : Int) ≤ W) (hb1 : W ≤ 9007199254740991 * (2 ^ e : Nat)) :
    R < inf ∧ V (wd sg R) - W ≤ (2 ^ e : Nat) ∧ -((2 ^ e : Nat) : Int) ≤ V (wd sg R) - W := by
  have hN : W.natAbs ≤ 9007199254740991 * 2 ^ e * 1 := by omega
  have hR := grid_inf h (Nat.le_refl 1) he hN
  obtain ⟨g1, g2⟩ := h.grid (Nat.le_refl 1) hN
  rw [Nat.mul_one, Nat.mul_one] at g1 g2
  refine ⟨hR, ?_⟩
  rw [V_wd (rung_small hR)]
  have h0 := two_pos e
  generalize 2 ^ e = Y at *
  rcases hs with hs | hs
  · subst hs
    have : R = 0 := h.exact (by rw [val_0]; rfl)
    rw [this, val_0]
    cases sg <;> simp
  · rw [hs]
    by_cases hW : W < 0
    · rw [decide_eq_true hW, if_pos rfl]; omega
    · rw [decide_eq_false hW, if_neg (by decide)]; omega
theorem add_grid {x y : Nat} (e : Nat) (hx : fin x) (hy : fin y) (he : e ≤ 1900) (hb0 : -(9007199254740991 * (2 ^ e : Nat) : Int) ≤ V x + V y) (hb1 : V x + V y ≤ 9007199254740991 * (2 ^ e : Nat)) :
    ∃ r, floatBits .add .f64 x y = some r ∧ fin r ∧ V r - (V x + V y) ≤ (2 ^ e : Nat) ∧ -((2 ^ e : Nat) : Int) ≤ V r - (V x + V y) := by
  obtain ⟨R, hR, hn⟩ := add_near hx hy
  have hs : V x + V y = 0 ∨ (if V x + V y = 0 then ng x && ng y else decide (V x + V y < 0)) = decide (V x + V y < 0) := by
    by_cases h : V x + V y = 0
    · exact .inl h
    · right; rw [if_neg h]
  obtain ⟨a, b, c⟩ := sum_grid hn hs he hb0 hb1
  exact ⟨_, by rw [Nat.min_eq_left (Nat.le_of_lt a)] at hR; exact hR, fin_wd a, b, c⟩
theorem sub_grid {x y : Nat} (e : Nat) (hx : fin x) (hy : fin y) (he : e ≤ 1900) (hb0 : -(9007199254740991 * (2 ^ e : Nat) : Int) ≤ V x - V y) (hb1 : V x - V y ≤ 9007199254740991 * (2 ^ e : Nat)) :
    ∃ r, floatBits .sub .f64 x y = some r ∧ fin r ∧ V r - (V x - V y) ≤ (2 ^ e : Nat) ∧ -((2 ^ e : Nat) : Int) ≤ V r - (V x - V y) := by
  obtain ⟨R, hR, hn⟩ := sub_near hx hy
  have hs : V x - V y = 0 ∨ (if V x - V y = 0 then ng x && !ng y else decide (V x - V y < 0)) = decide (V x - V y < 0) := by
    by_cases h : V x - V y = 0
    · exact .inl h
    · right; rw [if_neg h]
  obtain ⟨a, b, c⟩ := sum_grid hn hs he hb0 hb1
  exact ⟨_, by rw [Nat.min_eq_left (Nat.le_of_lt a)] at hR; exact hR, fin_wd a, b, c⟩
/-- A product with a number above 0. -/
theorem mul_grid {x y : Nat} (e : Nat) (hx : fin x) (hy : fin y) (hy0 : ng y = false) (he : e ≤ 1900) (hb0 : -(9007199254740991 * (2 ^ e : Nat) * (U : Nat) : Int) ≤ V x * V y) (hb1 : V x * V y ≤ 9007199254740991 * (2 ^ e : Nat) * (U : Nat)) :
    ∃ r, floatBits .mul .f64 x y = some r ∧ fin r ∧ V r * (U : Nat) - V x * V y ≤ (2 ^ e : Nat) * (U : Nat) ∧ -((2 ^ e : Nat) * (U : Nat) : Int) ≤ V r * (U : Nat) - V x * V y := by
  obtain ⟨R, hR, hn⟩ := mul_near hx hy
  have vy : V y = (val (rg y) : Int) := by unfold V; rw [hy0]; rfl
  have hU := U_pos
  have key : R < inf ∧ val R * U ≤ val (rg x) * val (rg y) + 2 ^ e * U ∧ val (rg x) * val (rg y) ≤ val R * U + 2 ^ e * U := by
    have hN : val (rg x) * val (rg y) ≤ 9007199254740991 * 2 ^ e * U := by
      have e1 : ((9007199254740991 * 2 ^ e * U : Nat) : Int) = 9007199254740991 * ((2 ^ e : Nat) : Int) * (U : Int) := by rw [Int.natCast_mul, Int.natCast_mul]; rfl
      have e2 : ((val (rg x) * val (rg y) : Nat) : Int) = (val (rg x) : Int) * (val (rg y) : Int) := Int.natCast_mul _ _
      rw [vy] at hb0 hb1
      rcases V_cases x with ⟨_, v⟩ | ⟨_, v⟩
      · rw [v] at hb1; omega
      · rw [v, Int.neg_mul] at hb0; omega
    have a := grid_inf hn hU he hN
    exact ⟨a, hn.grid hU hN⟩
  obtain ⟨a, b, c⟩ := key
  refine ⟨_, by rw [Nat.min_eq_left (Nat.le_of_lt a)] at hR; exact hR, fin_wd a, ?_⟩
  rw [V_wd (rung_small a), vy, hy0, Bool.xor_false]
  have e1 : ((val R * U : Nat) : Int) = (val R : Int) * (U : Int) := Int.natCast_mul _ _
  have e2 : ((val (rg x) * val (rg y) : Nat) : Int) = (val (rg x) : Int) * (val (rg y) : Int) := Int.natCast_mul _ _
  have e3 : ((2 ^ e * U : Nat) : Int) = ((2 ^ e : Nat) : Int) * (U : Int) := Int.natCast_mul _ _
  rcases V_cases x with ⟨g, v⟩ | ⟨g, v⟩
  · rw [g, v, if_neg (by decide)]; omega
  · rw [g, v, if_pos rfl, Int.neg_mul, Int.neg_mul]; omega
/-- A quotient by a number above 0. -/
theorem div_grid {x y : Nat} (e : Nat) (hx : fin x) (hy : fin y) (hy0 : ng y = false) (hy1 : 0 < val (rg y)) (he : e ≤ 1900) (hb0 : -(9007199254740991 * (2 ^ e : Nat) * V y : Int) ≤ V x * (U : Nat)) (hb1 : V x * (U : Nat) ≤ 9007199254740991 * (2 ^ e : Nat) * V y) :
    ∃ r, floatBits .quo .f64 x y = some r ∧ fin r ∧ V r * V y - V x * (U : Nat) ≤ (2 ^ e : Nat) * V y ∧ -((2 ^ e : Nat) * V y : Int) ≤ V r * V y - V x * (U : Nat) := by
  have h0 : rg y ≠ 0 := by intro h; rw [h, val_0] at hy1; omega
  obtain ⟨R, hR, hn⟩ := div_near hx hy h0
  have vy : V y = (val (rg y) : Int) := by unfold V; rw [hy0]; rfl
  have key : R < inf ∧ val R * val (rg y) ≤ val (rg x) * U + 2 ^ e * val (rg y) ∧ val (rg x) * U ≤ val R * val (rg y) + 2 ^ e * val (rg y) := by
    have hN : val (rg x) * U ≤ 9007199254740991 * 2 ^ e * val (rg y) := by
      have e1 : ((9007199254740991 * 2 ^ e * val (rg y) : Nat) : Int) = 9007199254740991 * ((2 ^ e : Nat) : Int) * (val (rg y) : Int) := by rw [Int.natCast_mul, Int.natCast_mul]; rfl
      have e2 : ((val (rg x) * U : Nat) : Int) = (val (rg x) : Int) * (U : Int) := Int.natCast_mul _ _
      rw [vy] at hb0 hb1
      rcases V_cases x with ⟨_, v⟩ | ⟨_, v⟩
      · rw [v] at hb1; omega
      · rw [v, Int.neg_mul] at hb0; omega
    have a := grid_inf hn hy1 he hN
    exact ⟨a, hn.grid hy1 hN⟩
  obtain ⟨a, b, c⟩ := key
  refine ⟨_, by rw [Nat.min_eq_left (Nat.le_of_lt a)] at hR; exact hR, fin_wd a, ?_⟩
  rw [V_wd (rung_small a), vy, hy0, Bool.xor_false]
  have e1 : ((val R * val (rg y) : Nat) : Int) = (val R : Int) * (val (rg y) : Int) := Int.natCast_mul _ _
  have e2 : ((val (rg x) * U : Nat) : Int) = (val (rg x) : Int) * (U : Int) := Int.natCast_mul _ _
  have e3 : ((2 ^ e * val (rg y) : Nat) : Int) = ((2 ^ e : Nat) : Int) * (val (rg y) : Int) := Int.natCast_mul _ _
  rcases V_cases x with ⟨g, v⟩ | ⟨g, v⟩
  · rw [g, v, if_neg (by decide)]; omega
  · rw [g, v, if_pos rfl, Int.neg_mul, Int.neg_mul]; omega
/-- A whole number from near. -/
theorem whole_near {s : Bool} {v k : Nat} (h0 : k * U < v + U / 2) (h1 : v < k * U + U / 2) : whole .even s v = k := by
  unfold whole
  have hU := U_pos
  have hev : ∃ H, U = 2 * H := by
    obtain ⟨ut, hu⟩ : ∃ ut, ue = ut + 1 := ⟨1073, rfl⟩
    exact ⟨2 ^ ut, by unfold U; rw [hu, Nat.pow_succ, Nat.mul_comm]⟩
  obtain ⟨H, hH⟩ := hev
  have hH2 : U / 2 = H := by omega
  rw [hH2] at h0 h1
  by_cases hc : k * U ≤ v
  · have e1 : v / U = k := by
      rw [Nat.div_eq_of_lt_le]
      · exact hc
      · rw [Nat.succ_mul]; omega
    have e2 : v % U = v - k * U := by
      have := Nat.div_add_mod v U
      rw [e1, Nat.mul_comm] at this; omega
    have e3 : more .even s (v / U) (v % U) U = false := by
      unfold more
      simp only [Bool.or_eq_false_iff, Bool.and_eq_false_iff, decide_eq_false_iff_not, beq_eq_false_iff_ne]
      exact ⟨by omega, .inl (by omega)⟩
    rw [e3, e1]; rfl
  · have hk : 1 ≤ k := by
      rcases Nat.eq_zero_or_pos k with h | h
      · rw [h] at hc; omega
      · exact h
    have hkU : k * U = (k - 1) * U + U := by
      have := Nat.succ_mul (k - 1) U
      rw [Nat.succ_eq_add_one, Nat.sub_add_cancel hk] at this; exact this
    have e1 : v / U = k - 1 := by
      rw [Nat.div_eq_of_lt_le]
      · omega
      · rw [Nat.succ_mul]; omega
    have e2 : v % U = v - (k - 1) * U := by
      have := Nat.div_add_mod v U
      rw [e1, Nat.mul_comm] at this; omega
    have e3 : more .even s (v / U) (v % U) U = true := by
      unfold more
      simp only [Bool.or_eq_true, decide_eq_true_eq]
      left; omega
    rw [e3, e1, Bool.toNat_true]; omega
end Go.Proofs.Ytnfjdjfajkdiiaa.Fl
