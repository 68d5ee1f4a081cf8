/- Parts: the mean lies between the least and the greatest, but for what is rounded. -/
import Derived.Test.YtckcmhnhmobadaaMnJ
import Derived.Test.YtckcmhnhmobadaaMnE0
set_option linter.unusedVariables false
set_option linter.unusedSimpArgs false
namespace Go.Proofs.Ytckcmhnhmobadaa
open Go.RowKit Go.Sort

namespace Fl
open Ieee
theorem mul_bd {x y X Y : Int} (h0 : -X ≤ x) (h1 : x ≤ X) (k0 : -Y ≤ y) (k1 : y ≤ Y) : -(X * Y) ≤ x * y ∧ x * y ≤ X * Y := by
  have a : (x.natAbs : Int) * (y.natAbs : Int) ≤ X * Y := Int.mul_le_mul (by omega) (by omega) (by omega) (by omega)
  have b : ((x * y).natAbs : Int) = (x.natAbs : Int) * (y.natAbs : Int) := by rw [Int.natAbs_mul, Int.natCast_mul]
  omega
/-- A product of what is near to two numbers. -/
theorem prod_wi (e : Nat) (he : e ≤ 1900) (x y : Nat) (a c A C S Y1 Y2 Y : Int) (hY : ((2 ^ e : Nat) : Int) = Y) (hx : fin x) (hy : fin y) (hg : ng y = false)
    (ha : V x = a) (hc : V y = c) (a0 : a - A ≤ Y1) (a1 : A - a ≤ Y1) (c0 : c - C ≤ Y2) (c1 : C - c ≤ Y2) (p1 : 0 < Y1) (p2 : 0 < Y2)
    (hC0 : 0 ≤ C) (hC : C < 4503599627370496 * Y2) (hA0 : -(4503599627370496 * Y1) ≤ A) (hA1 : A ≤ 4503599627370496 * Y1)
    (h1 : Y1 * Y2 * 1125899906842624 ≤ Y * (U : Int)) (hS : A * C = S * (U : Int)) (hS0 : -(4503599627370496 * (Y * (U : Int))) ≤ S * (U : Int)) (hS1 : S * (U : Int) ≤ 4503599627370496 * (Y * (U : Int))) :
    ∃ r, floatBits .mul .f64 x y = some r ∧ Wi r S (16 * Y) := by
  have hU : 0 < (U : Int) := by have := U_pos; omega
  have e1 : a * c = A * C + ((a - A) * c + A * (c - C)) := by rw [Int.sub_mul, Int.mul_sub]; omega
  obtain ⟨m0, m1⟩ := mul_bd (x := a - A) (y := c) (X := Y1) (Y := 4503599627370497 * Y2) (by omega) (by omega) (by omega) (by omega)
  obtain ⟨n0, n1⟩ := mul_bd (x := A) (y := c - C) (X := 4503599627370496 * Y1) (Y := Y2) (by omega) (by omega) (by omega) (by omega)
  have f1 : Y1 * (4503599627370497 * Y2) = 4503599627370497 * (Y1 * Y2) := Int.mul_left_comm ..
  have f2 : 4503599627370496 * Y1 * Y2 = 4503599627370496 * (Y1 * Y2) := Int.mul_assoc ..
  have f3 : Y * (U : Int) = (U : Int) * Y := Int.mul_comm ..
  rw [hS] at e1
  rw [f1] at m0 m1
  rw [f2] at n0 n1
  have g1 : 9007199254740991 * Y * (U : Int) = 9007199254740991 * (Y * (U : Int)) := Int.mul_assoc ..
  have hPos : 0 < Y1 * Y2 := Int.mul_pos p1 p2
  obtain ⟨r, hr, fr, r0, r1⟩ := mul_grid (x := x) (y := y) e hx hy hg he (by rw [ha, hc, hY, g1]; omega) (by rw [ha, hc, hY, g1]; omega)
  rw [ha, hc, hY] at r0 r1
  refine ⟨r, hr, fr, ?_, ?_⟩
  · refine Int.le_of_mul_le_mul_right (?_ : _ * (U : Int) ≤ _ * (U : Int)) hU
    rw [Int.sub_mul, Int.mul_assoc]
    omega
  · refine Int.le_of_mul_le_mul_right (?_ : _ * (U : Int) ≤ _ * (U : Int)) hU
    rw [Int.sub_mul, Int.mul_assoc]
    omega
/-- A quotient that lies between, of a sum and a total that are near. -/
theorem quo_bd (e : Nat) (he : e ≤ 1900) (x y : Nat) (lo hi S Q Y Y1 Y2 : Int) (hY : ((2 ^ e : Nat) : Int) = Y1) (p1 : 0 < Y1) (p2 : 0 < Y2) (hy : Wi y (S * (U : Int)) (121 * Y2)) (hx : Wi x (Q * (U : Int)) (1936 * Y)) (hg : ng y = false)
    (s0 : 2251799813685248 * Y2 ≤ S * (U : Int)) (hS : 0 ≤ S) (s1 : S * (U : Int) < 4503599627370496 * Y2)
    (l0 : -(4503599627370496 * Y1) ≤ lo * (U : Int)) (l1 : lo * (U : Int) ≤ 4503599627370496 * Y1) (h0 : -(4503599627370496 * Y1) ≤ hi * (U : Int)) (h1 : hi * (U : Int) ≤ 4503599627370496 * Y1)
    (q0 : lo * S ≤ Q) (q1 : Q ≤ hi * S) (hk : Y * (U : Int) ≤ 9007199254740992 * (Y1 * Y2)) :
    ∃ r, floatBits .quo .f64 x y = some r ∧ fin r ∧ V r - hi * (U : Int) ≤ 16384 * Y1 ∧ lo * (U : Int) - V r ≤ 16384 * Y1 := by
  have hU : 0 < (U : Int) := by have := U_pos; omega
  obtain ⟨fy, y0, y1⟩ := hy
  obtain ⟨fx, x0, x1⟩ := hx
  have vy : V y = (val (rg y) : Int) := by unfold V; rw [hg]; rfl
  have hpos : 0 < V y := by omega
  generalize hT : V y = T at *
  generalize hP : V x = P at *
  -- the products
  have a1 : Q * (U : Int) * (U : Int) ≤ hi * (U : Int) * (S * (U : Int)) := by
    have : Q * (U : Int) * (U : Int) ≤ hi * S * (U : Int) * (U : Int) := Int.mul_le_mul_of_nonneg_right (Int.mul_le_mul_of_nonneg_right q1 (by omega)) (by omega)
    rw [show hi * (U : Int) * (S * (U : Int)) = hi * S * (U : Int) * (U : Int) by rw [Int.mul_assoc hi, Int.mul_left_comm (U : Int), ← Int.mul_assoc hi, Int.mul_assoc (hi * S)]]; exact this
  have a0 : lo * (U : Int) * (S * (U : Int)) ≤ Q * (U : Int) * (U : Int) := by
    have : lo * S * (U : Int) * (U : Int) ≤ Q * (U : Int) * (U : Int) := Int.mul_le_mul_of_nonneg_right (Int.mul_le_mul_of_nonneg_right q0 (by omega)) (by omega)
    rw [show lo * (U : Int) * (S * (U : Int)) = lo * S * (U : Int) * (U : Int) by rw [Int.mul_assoc lo, Int.mul_left_comm (U : Int), ← Int.mul_assoc lo, Int.mul_assoc (lo * S)]]; exact this
  have b0 : (P - Q * (U : Int)) * (U : Int) ≤ 1936 * Y * (U : Int) := Int.mul_le_mul_of_nonneg_right x0 (by omega)
  have b1 : (Q * (U : Int) - P) * (U : Int) ≤ 1936 * Y * (U : Int) := Int.mul_le_mul_of_nonneg_right x1 (by omega)
  rw [Int.sub_mul] at b0 b1
  rw [Int.mul_assoc 1936] at b0 b1
  generalize hHU : hi * (U : Int) = HU at *
  generalize hLU : lo * (U : Int) = LU at *
  generalize hSU : S * (U : Int) = SU at *
  have c1 := (mul_bd (x := HU) (y := SU - T) (X := 4503599627370496 * Y1) (Y := 121 * Y2) (by omega) (by omega) (by omega) (by omega))
  have c0 := (mul_bd (x := LU) (y := SU - T) (X := 4503599627370496 * Y1) (Y := 121 * Y2) (by omega) (by omega) (by omega) (by omega))
  rw [Int.mul_sub] at c0 c1
  have k1 : 4503599627370496 * Y1 * (121 * Y2) = 544935554911830016 * (Y1 * Y2) := by rw [Int.mul_assoc, Int.mul_left_comm Y1]; omega
  rw [k1] at c0 c1
  have t1 : Y1 * (1125899906842624 * Y2) ≤ Y1 * T := Int.mul_le_mul_of_nonneg_left (by omega) (by omega)
  rw [Int.mul_left_comm] at t1
  have hPos : 0 < Y1 * Y2 := Int.mul_pos p1 p2
  have u1 := (mul_bd (x := HU) (y := T) (X := 4503599627370496 * Y1) (Y := T) (by omega) (by omega) (by omega) (by omega)).2
  have u0 := (mul_bd (x := LU) (y := T) (X := 4503599627370496 * Y1) (Y := T) (by omega) (by omega) (by omega) (by omega)).1
  rw [Int.mul_assoc] at u0 u1
  have g1 : 9007199254740991 * Y1 * T = 9007199254740991 * (Y1 * T) := Int.mul_assoc ..
  obtain ⟨r, hr, fr, r0, r1⟩ := div_grid (x := x) (y := y) e fx fy hg (by omega) he (by rw [hP, hT, hY, g1]; omega) (by rw [hP, hT, hY, g1]; omega)
  rw [hP, hT, hY] at r0 r1
  refine ⟨r, hr, fr, ?_, ?_⟩
  · refine Int.le_of_mul_le_mul_right (?_ : _ * T ≤ _ * T) hpos
    rw [Int.sub_mul, Int.mul_assoc]
    omega
  · refine Int.le_of_mul_le_mul_right (?_ : _ * T ≤ _ * T) hpos
    rw [Int.sub_mul, Int.mul_assoc]
    omega
/-- As 'scale', with room above. -/
theorem scale2 (Z : Int) (h0 : 2251799813685248 ≤ Z) (h1 : Z < ((2 ^ tp : Nat) : Int)) : ∃ e, e ≤ 1890 ∧ 2251799813685248 * ((2 ^ e : Nat) : Int) ≤ Z ∧ Z < 4503599627370496 * ((2 ^ e : Nat) : Int) := by
  obtain ⟨z, rfl⟩ : ∃ z : Nat, Z = z := ⟨Z.toNat, by omega⟩
  have hz : z ≠ 0 := by omega
  have a := Nat.log2_self_le hz
  have b : z < 2 ^ (z.log2 + 1) := (Nat.log2_lt hz).1 (by omega)
  have c : 51 ≤ z.log2 := (Nat.le_log2 hz).2 (by rw [show (2 : Nat) ^ 51 = 2251799813685248 by decide]; omega)
  have d : z.log2 < tp := (Nat.log2_lt hz).2 (by omega)
  have tp := tp_eq
  refine ⟨z.log2 - 51, by omega, ?_, ?_⟩
  · have e : 2 ^ z.log2 = 2251799813685248 * 2 ^ (z.log2 - 51) := by
      conv => lhs; rw [show z.log2 = 51 + (z.log2 - 51) by omega, pow_split]
    omega
  · have e : 2 ^ (z.log2 + 1) = 4503599627370496 * 2 ^ (z.log2 - 51) := by
      conv => lhs; rw [show z.log2 + 1 = 52 + (z.log2 - 51) by omega, pow_split]
    omega
theorem near_ng {n : Int} (h : 0 ≤ n) : ng (FloatKind.f64.nearest n) = false := by
  obtain ⟨R, hR, _⟩ := int_near n
  rw [hR, ng_wd (Nat.lt_of_le_of_lt (Nat.min_le_right _ _) (by decide))]
  exact decide_eq_false (by omega)
/-- The greater of two. -/
theorem max2_run {x y : Nat} (hx : fin x) (hy : fin y) : ∃ m, (∀ (P : Program) (w : World), (Builtin.max2 (.float .f64 x) (.float .f64 y)).run P w = .ok (.float .f64 m) w) ∧ fin m ∧ V m = max (V x) (V y) := by
  have ho : FloatKind.f64.format.order x y = some (compare (V x) (V y)) := order_fin hx hy
  rcases Int.lt_trichotomy (V x) (V y) with h | h | h
  · refine ⟨y, fun P w => ?_, hy, by omega⟩
    simp only [Builtin.max2, ho, cmp_lt.2 h]; rfl
  · refine ⟨if (FloatKind.f64.decode x).neg then y else x, fun P w => ?_, ?_, ?_⟩
    · simp only [Builtin.max2, ho, cmp_eq.2 h]; rfl
    · split <;> assumption
    · split <;> omega
  · refine ⟨x, fun P w => ?_, hx, by omega⟩
    simp only [Builtin.max2, ho, cmp_gt.2 h]; rfl
theorem max3_run {x y z : Nat} (hx : fin x) (hy : fin y) (hz : fin z) : ∃ m, (∀ (ts : Array TypeId) (t : TypeId) (P : Program) (w : World), (Builtin.max_ ts t #[.float .f64 x, .float .f64 y, .float .f64 z]).run P w = .ok (.float .f64 m) w) ∧ fin m ∧ V m = max (max (V x) (V y)) (V z) := by
  obtain ⟨m, h1, f1, v1⟩ := max2_run hx hy
  obtain ⟨k, h2, f2, v2⟩ := max2_run f1 hz
  refine ⟨k, fun ts t P w => ?_, f2, by rw [v2, v1]⟩
  have e : Builtin.max_ ts t #[.float .f64 x, .float .f64 y, .float .f64 z] = (Builtin.max2 (.float .f64 x) (.float .f64 y)) >>= fun a => Builtin.max2 a (.float .f64 z) >>= fun b => pure b := rfl
  rw [e]
  simp [h1, h2]
end Fl
end Go.Proofs.Ytckcmhnhmobadaa
