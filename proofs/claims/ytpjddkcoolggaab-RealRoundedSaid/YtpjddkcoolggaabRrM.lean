/- What a rounded number is to the number: below, above, nearest; in plain arithmetic. -/
import Derived.Test.YtpjddkcoolggaabTopD
import Derived.Test.YtpjddkcoolggaabFe
set_option linter.unusedVariables false
set_option linter.unusedSimpArgs false
namespace Go.Proofs.Ytpjddkcoolggaab
open Go.RowKit

namespace Fl
/-- What was rounded is rounded again to the same. -/
theorem Rd_twice {w1 w2 : Ieee.Toward} {a x y : Nat} (ha : a < 18446744073709551616) (hx : Rd w1 a x) (hy : Rd w2 x y) : sameB x y = true := by
  rcases Nat.lt_trichotomy (rg a) inf with h | h | h
  · obtain ⟨f, n, v, g, e⟩ := hx.fin h
    have e2 : y = x := (hy.2.2 n).trans (itg_self hx.1 f _ e)
    unfold sameB; rw [e2]; simp
  · have e := hx.inf ha h
    subst e
    have e2 := hy.inf ha h
    unfold sameB; rw [e2]; simp
  · have hn : nan a = true := nan_true.2 h
    have hx1 := hx.2.1 hn
    unfold sameB
    rw [rk_nan2 hx1, rk_nan2 (hy.2.1 hx1)]; rfl
/-- Down, up, towards nought, even. -/
theorem rnd {a : Nat} (f : fin a) : wn .down a * (U : Int) ≤ V a ∧ V a ≤ wn .up a * (U : Int) ∧ 0 ≤ wn .up a - wn .down a ∧ wn .up a - wn .down a ≤ 1 ∧ (0 ≤ V a → wn .zero a = wn .down a) ∧ (V a ≤ 0 → wn .zero a = wn .up a) ∧
    (wn .even a = wn .down a ∨ wn .even a = wn .up a) ∧ (wn .even a ≠ wn .down a → wn .up a * (U : Int) - V a ≤ V a - wn .down a * (U : Int)) ∧ (wn .even a ≠ wn .up a → V a - wn .down a * (U : Int) ≤ wn .up a * (U : Int) - V a) := by
  have hU := U_pos
  have hd := Nat.div_add_mod (val (rg a)) U
  have hr : val (rg a) % U < U := Nat.mod_lt _ hU
  have zq := wn_zero a
  have ed := wn_rest .down a
  have eu := wn_rest .up a
  have ee := wn_rest .even a
  have hV : V a = if ng a then -(val (rg a) : Int) else (val (rg a) : Int) := rfl
  have hq : ((val (rg a) / U : Nat) : Int) * (U : Int) = ((U * (val (rg a) / U) : Nat) : Int) := by rw [Int.natCast_mul, Int.mul_comm]
  have me : more .even (ng a) (val (rg a) / U) (val (rg a) % U) U = (decide (U < 2 * (val (rg a) % U)) || (U == 2 * (val (rg a) % U) && (val (rg a) / U) % 2 == 1)) := rfl
  have met : ∀ s, more .even s (val (rg a) / U) (val (rg a) % U) U = true → U ≤ 2 * (val (rg a) % U) := by
    intro s h; unfold more at h; simp at h; omega
  have mef : ∀ s, more .even s (val (rg a) / U) (val (rg a) % U) U = false → 2 * (val (rg a) % U) ≤ U := by
    intro s h; unfold more at h; simp at h; omega
  clear me
  generalize val (rg a) = v at *
  generalize hqq : U * (v / U) = Q at *
  generalize hr2 : v % U = r at *
  generalize (v / U) = q at *
  generalize U = u at *
  cases hg : ng a
  · rw [hg] at zq ed eu ee hV
    simp only [Bool.false_eq_true, if_false] at zq ed eu ee hV
    have d0 : more .down false q r u = false := rfl
    have u0 : more .up false q r u = (r != 0) := by unfold more; simp
    rw [d0] at ed
    rw [u0] at eu
    by_cases h0 : r = 0
    · have hb : (r != 0) = false := by simp [h0]
      rw [hb] at eu
      cases hm : more .even false q r u
      · rw [hm] at ee
        simp only [Bool.toNat_false, Int.natCast_zero, Int.add_zero] at ed eu ee
        rw [ed, eu, ee, zq, hq, hV]
        omega
      · have := met _ hm; omega
    · have hb : (r != 0) = true := by simp [h0]
      rw [hb] at eu
      cases hm : more .even false q r u
      · have := mef _ hm
        rw [hm] at ee
        simp only [Bool.toNat_false, Bool.toNat_true, Int.natCast_zero, Int.add_zero, Int.natCast_one] at ed eu ee
        rw [ed, eu, ee, zq, Int.add_mul, Int.one_mul, hq, hV]
        omega
      · have := met _ hm
        rw [hm] at ee
        simp only [Bool.toNat_false, Bool.toNat_true, Int.natCast_zero, Int.add_zero, Int.natCast_one] at ed eu ee
        rw [ed, eu, ee, zq, Int.add_mul, Int.one_mul, hq, hV]
        omega
  · rw [hg] at zq ed eu ee hV
    simp only [if_true] at zq ed eu ee hV
    have d0 : more .down true q r u = (r != 0) := by unfold more; simp
    have u0 : more .up true q r u = false := rfl
    rw [d0] at ed
    rw [u0] at eu
    by_cases h0 : r = 0
    · have hb : (r != 0) = false := by simp [h0]
      rw [hb] at ed
      cases hm : more .even true q r u
      · rw [hm] at ee
        simp only [Bool.toNat_false, Int.natCast_zero, Int.sub_zero] at ed eu ee
        rw [ed, eu, ee, zq, Int.neg_mul, hq, hV]
        omega
      · have := met _ hm; omega
    · have hb : (r != 0) = true := by simp [h0]
      rw [hb] at ed
      cases hm : more .even true q r u
      · have := mef _ hm
        rw [hm] at ee
        simp only [Bool.toNat_false, Bool.toNat_true, Int.natCast_zero, Int.sub_zero, Int.natCast_one] at ed eu ee
        rw [ed, eu, ee, zq, Int.sub_mul, Int.one_mul, Int.neg_mul, hq, hV]
        omega
      · have := met _ hm
        rw [hm] at ee
        simp only [Bool.toNat_false, Bool.toNat_true, Int.natCast_zero, Int.sub_zero, Int.natCast_one] at ed eu ee
        rw [ed, eu, ee, zq, Int.sub_mul, Int.one_mul, Int.neg_mul, hq, hV]
        omega
theorem le_t {x y : Nat} (hx : fin x) (hy : fin y) (h : V x ≤ V y) : (FloatKind.f64.format.order x y == some Ordering.lt || FloatKind.f64.format.order x y == some Ordering.eq) = true := by
  rw [ord_lt hx hy, ord_eq hx hy]; simp; omega
/-- A difference: a word, and its order. -/
theorem sub_w {x y : Nat} (hx : fin x) (hy : fin y) (hi : (V x - V y).natAbs ≤ val (rg x) + val (rg y)) (hb : ∃ z, z < inf ∧ (V x - V y).natAbs ≤ val z) : ∃ p, floatBits .sub .f64 x y = some p ∧ fin p ∧ ∃ R, R < inf ∧ p = wd (if V x - V y = 0 then ng x && !ng y else decide (V x - V y < 0)) R ∧ Near (V x - V y).natAbs 1 R := by
  obtain ⟨R, hR, hn⟩ := sub_near hx hy
  obtain ⟨z, zi, zv⟩ := hb
  have hRi : R < inf := near_fin hn zi (by rw [Nat.mul_one]; exact zv)
  rw [Nat.min_eq_left (Nat.le_of_lt hRi)] at hR
  exact ⟨_, hR, fin_wd hRi, R, hRi, rfl, hn⟩
theorem val_one : val 4607182418800017408 = U := by
  have h : val 4607182418800017408 = 4503599627370496 * 2 ^ 1022 := valK 1022 4503599627370496 (.inr (by decide)) (by decide)
  have h2 : 4503599627370496 * 2 ^ 1022 = 1 * U := u_mul 1022 52 4503599627370496 1 rfl (by decide)
  rw [h, h2, Nat.one_mul]
theorem one_fin : fin 4607182418800017408 ∧ V 4607182418800017408 = (U : Int) := by
  refine ⟨by unfold fin; decide, ?_⟩
  unfold V; rw [show ng 4607182418800017408 = false by decide, show rg 4607182418800017408 = 4607182418800017408 by decide, val_one]; rfl
/-- A difference that is at most one: what is rounded of it is not greater than one. -/
theorem sub_one {x y : Nat} (hx : fin x) (hy : fin y) (h0 : 0 ≤ V x - V y) (h1 : V x - V y ≤ (U : Int)) : ∃ p, floatBits .sub .f64 x y = some p ∧ fin p ∧ V p ≤ (U : Int) ∧ ∃ R, R < inf ∧ p = wd (if V x - V y = 0 then ng x && !ng y else decide (V x - V y < 0)) R ∧ Near (V x - V y).natAbs 1 R := by
  have hz : (4607182418800017408 : Nat) < inf := by decide
  obtain ⟨p, hp, fp, R, hRi, ep, hn⟩ := sub_w hx hy (by have := V_natAbs x; have := V_natAbs y; omega) ⟨4607182418800017408, hz, by rw [val_one]; omega⟩
  refine ⟨p, hp, fp, ?_, R, hRi, ep, hn⟩
  have hle : R ≤ 4607182418800017408 := hn.hi _ (by rw [val_one]; omega)
  have hv := val_le.2 hle
  rw [val_one] at hv
  rw [ep]
  rcases sum_val hn sub_sg hRi with ⟨_, b⟩ | ⟨_, b⟩ <;> rw [b] <;> omega
end Fl
end Go.Proofs.Ytpjddkcoolggaab
