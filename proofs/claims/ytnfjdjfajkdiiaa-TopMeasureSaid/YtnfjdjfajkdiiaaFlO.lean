/- Sums, differences, products, quotients, whole parts of numbers with a floating point, and numbers of whole ones: each rounded to the nearest rung. -/
import Derived.Test.YtnfjdjfajkdiiaaFlV
import Derived.Laws.FloatArith
set_option linter.unusedVariables false
set_option linter.unusedSimpArgs false
namespace Go.Proofs.Ytnfjdjfajkdiiaa.Fl
open Ieee

theorem pow_split (a b : Nat) : 2 ^ (a + b) = 2 ^ a * 2 ^ b := Nat.pow_add ..

/-- A sum of whole parts in one place, as a value. -/
theorem total_val {x y : Nat} {sy : Bool} (b : Int) (h0 : -1074 ≤ b) (hx : b ≤ pl (rg x)) (hy : b ≤ pl (rg y)) (hs : sy = ng y ∨ sy = !ng y) :
    (signed (ng x) (mg (rg x)) (pl (rg x) - b).toNat + signed sy (mg (rg y)) (pl (rg y) - b).toNat) * (2 ^ (b + 1074).toNat : Nat) = V x + (if sy = ng y then V y else - V y) := by
  rw [Int.add_mul, part x b h0 hx]
  congr 1
  rw [← part y b h0 hy, signed_eq, signed_eq]
  rcases hs with h | h
  · rw [h]; simp
  · rw [h]; cases ng y <;> simp [Int.neg_mul]
theorem natAbs_mul_pow (a : Int) (k : Nat) : (a * (2 ^ k : Nat)).natAbs = a.natAbs * 2 ^ k := by rw [Int.natAbs_mul]; rfl

/-- A sum that is written: 'sy' the second one's sign, as it stands or turned. -/
theorem sum_near {x y : Nat} (hx : fin x) (hy : fin y) (sy : Bool) (hs : sy = ng y ∨ sy = !ng y) (W : Int) (hW : W = V x + (if sy = ng y then V y else - V y)) :
    ∃ R, ((Datum.number (ng x) (mg (rg x)) (pl (rg x))).sum (.number sy (mg (rg y)) (pl (rg y)))).map double.write = some (wd (if W = 0 then ng x && sy else decide (W < 0)) (min R inf)) ∧ Near W.natAbs 1 R := by
  have a := (mg_pl (rg x)).1
  have b := (mg_pl (rg y)).1
  have t := total_val (x := x) (y := y) (sy := sy) (min (pl (rg x)) (pl (rg y))) (by omega) (by omega) (by omega) hs
  unfold Datum.sum
  simp only [Option.map_some]
  generalize signed (ng x) (mg (rg x)) (pl (rg x) - min (pl (rg x)) (pl (rg y))).toNat + signed sy (mg (rg y)) (pl (rg y) - min (pl (rg x)) (pl (rg y))).toNat = T at t ⊢
  have hb : -1074 ≤ min (pl (rg x)) (pl (rg y)) := by omega
  generalize min (pl (rg x)) (pl (rg y)) = B at t hb ⊢
  rw [← hW] at t
  have hp : (0 : Int) < (2 ^ (B + 1074).toNat : Nat) := by have := two_pos (B + 1074).toNat; omega
  have hz : T = 0 ↔ W = 0 := by
    rw [← t]
    constructor
    · intro h; rw [h, Int.zero_mul]
    · intro h; rcases Int.mul_eq_zero.1 h with h | h
      · exact h
      · omega
  have hn : T < 0 ↔ W < 0 := by
    rw [← t]
    constructor
    · intro h; exact Int.mul_neg_of_neg_of_pos h hp
    · intro h
      by_cases hc : T < 0
      · exact hc
      · have := Int.mul_nonneg (a := T) (by omega) (Int.le_of_lt hp); omega
  obtain ⟨R, hR, h⟩ := write_near (if T = 0 then ng x && sy else decide (T < 0)) T.natAbs B
  refine ⟨R, ?_, h _ 1 (Nat.le_refl _) ?_⟩
  · show some (double.nearest _ _ _) = _
    rw [hR]
    simp only [hz, hn]
  · rw [← t, natAbs_mul_pow, Nat.mul_one, show (-1074 - B).toNat = 0 by omega, Nat.pow_zero, Nat.mul_one]

theorem add_near {x y : Nat} (hx : fin x) (hy : fin y) :
    ∃ R, double.add x y = some (wd (if V x + V y = 0 then ng x && ng y else decide (V x + V y < 0)) (min R inf)) ∧ Near (V x + V y).natAbs 1 R := by
  unfold Format.add
  rw [read_fin hx, read_fin hy]
  exact sum_near hx hy (ng y) (.inl rfl) _ (by rw [if_pos rfl])
theorem sub_near {x y : Nat} (hx : fin x) (hy : fin y) :
    ∃ R, double.sub x y = some (wd (if V x - V y = 0 then ng x && !ng y else decide (V x - V y < 0)) (min R inf)) ∧ Near (V x - V y).natAbs 1 R := by
  unfold Format.sub
  rw [read_fin hx, read_fin hy]
  exact sum_near hx hy (!ng y) (.inr rfl) _ (by rw [if_neg (by cases ng y <;> simp)]; omega)

theorem V_natAbs (x : Nat) : (V x).natAbs = val (rg x) := by unfold V; split <;> simp
/-- The unit of a product. -/
def ue : Nat := 1074
def U : Nat := 2 ^ ue
theorem ue_eq : ue = 1074 := rfl
theorem mul_near {x y : Nat} (hx : fin x) (hy : fin y) :
    ∃ R, double.mul x y = some (wd (ng x ^^ ng y) (min R inf)) ∧ Near (val (rg x) * val (rg y)) U R := by
  unfold Format.mul
  rw [read_fin hx, read_fin hy]
  obtain ⟨R, hR, h⟩ := write_near (ng x ^^ ng y) (mg (rg x) * mg (rg y)) (pl (rg x) + pl (rg y))
  refine ⟨R, ?_, h _ _ (two_pos _) ?_⟩
  · show some (double.nearest _ _ _) = _
    rw [hR]
  · obtain ⟨a, e⟩ := mg_pl (rg x)
    obtain ⟨b, e'⟩ := mg_pl (rg y)
    rw [← e, ← e']
    have k : mg (rg x) * 2 ^ (pl (rg x) + 1074).toNat * (mg (rg y) * 2 ^ (pl (rg y) + 1074).toNat) = mg (rg x) * mg (rg y) * 2 ^ ((pl (rg x) + 1074).toNat + (pl (rg y) + 1074).toNat) := by
      rw [pow_split]; exact Nat.mul_mul_mul_comm ..
    rw [k, Nat.mul_assoc, Nat.mul_assoc (mg (rg x) * mg (rg y)), ← pow_split]
    unfold U
    rw [← pow_split]
    have := ue_eq
    congr 2
    omega

/-- A whole number's nearest. -/
theorem int_near (n : Int) : ∃ R, FloatKind.f64.nearest n = wd (decide (n < 0)) (min R inf) ∧ Near (n.natAbs * U) 1 R := by
  obtain ⟨R, hR, h⟩ := write_near (decide (n < 0)) n.natAbs 0
  refine ⟨R, hR, h _ 1 (Nat.le_refl _) ?_⟩
  unfold U
  rw [show (-1074 - (0 : Int)).toNat = 0 by decide, show ((0 : Int) + 1074).toNat = ue by decide, Nat.pow_zero]
end Go.Proofs.Ytnfjdjfajkdiiaa.Fl
