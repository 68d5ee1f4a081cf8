/- Day numbers, in plain arithmetic: what rounding leaves of a second. -/
import Derived.Test.YtnfjdjfajkdiiaaFlG
set_option linter.unusedVariables false
set_option linter.unusedSimpArgs false
namespace Go.Proofs.Ytnfjdjfajkdiiaa.Fl
open Ieee

/-- The grid of 2^-29: the unit of what is rounded. -/
def ge : Nat := 1045
theorem ge_eq : ge = 1045 := rfl
def G : Nat := 2 ^ ge
def G17 : Nat := 2 ^ (ge + 17)
theorem G_eq : 2 ^ ge = G := rfl
theorem G17_eq : 2 ^ (ge + 17) = G17 := rfl
theorem G_pos : 1 ≤ G := two_pos ge
theorem G17_G : (G17 : Int) = 131072 * (G : Int) := by
  have h : G17 = 131072 * G := by unfold G17 G; rw [pow_split, Nat.mul_comm]
  rw [h]; exact Int.natCast_mul _ _
theorem U_grid : U = 536870912 * G := by
  unfold U G
  have : ue = ge + 29 := rfl
  rw [this, pow_split, Nat.mul_comm]
theorem val_zero : val zero = 1310280436940800 * G := by
  have h : val 4702495533095190528 = 5241121747763200 * 2 ^ 1043 := valK 1043 5241121747763200 (.inr (by decide)) (by decide)
  have g : ∀ c a b : Nat, ge = c + 2 → a = 4 * b → a * 2 ^ c = b * G := by
    intro c a b h1 h2
    unfold G
    rw [h1, pow_split, h2, Nat.mul_comm 4 b, Nat.mul_assoc, Nat.mul_comm (2 ^ c)]
  exact h.trans (g 1043 5241121747763200 1310280436940800 rfl (by decide))
theorem V_zero : V zero = 1310280436940800 * (G : Int) := by
  have : V zero = (val zero : Int) := by unfold V; rw [show ng zero = false by decide, show rg zero = zero by decide]; rfl
  rw [this, val_zero]; exact Int.natCast_mul _ _
theorem V_day : V day = 86400 * (U : Int) := by
  have : V day = (val day : Int) := by unfold V; rw [show ng day = false by decide, show rg day = day by decide]; rfl
  rw [this, val_day]; exact Int.natCast_mul _ _
theorem fin_day : fin day := by unfold fin; decide
theorem fin_zero : fin zero := by unfold fin; decide
theorem V_int {n : Int} (h0 : -9007199254740992 ≤ n) (h1 : n ≤ 9007199254740992) : fin (FloatKind.f64.nearest n) ∧ V (FloatKind.f64.nearest n) = n * (U : Int) := by
  obtain ⟨r, e, hr, hv⟩ := int_exact n h0 h1
  rw [e]
  refine ⟨fin_wd hr, ?_⟩
  rw [V_wd (rung_small hr), hv]
  have e2 : ((n.natAbs * U : Nat) : Int) = (n.natAbs : Int) * (U : Int) := Int.natCast_mul _ _
  rw [e2]
  by_cases h : n < 0
  · rw [decide_eq_true h, if_pos rfl, ← Int.neg_mul, show -((n.natAbs : Nat) : Int) = n by omega]
  · rw [decide_eq_false h, if_neg (by decide), show ((n.natAbs : Nat) : Int) = n by omega]
/-- The steps of a day number, there and back: each is rounded, and none is far off. -/
theorem jd_steps {t : Int} (h0 : -1096193779200 ≤ t) (h1 : t ≤ 971891049599) : ∃ a b, floatBits .quo .f64 (FloatKind.f64.nearest t) day = some a ∧ floatBits .add .f64 a zero = some b ∧ fin b ∧
    V b * 86400 - (t * (U : Int) + 86400 * (1310280436940800 * (G : Int))) ≤ 172800 * (G : Int) ∧ -(172800 * (G : Int)) ≤ V b * 86400 - (t * (U : Int) + 86400 * (1310280436940800 * (G : Int))) := by
  obtain ⟨fx, vx⟩ := V_int (n := t) (by omega) (by omega)
  have hU := U_pos
  have hUG : (U : Int) = 536870912 * (G : Int) := by rw [U_grid]; exact Int.natCast_mul _ _
  have hG : (1 : Int) ≤ (G : Int) := by have := G_pos; omega
  have hge : ge ≤ 1900 := by rw [ge_eq]; decide
  have vd := V_day
  have vz := V_zero
  -- t / 86400
  have hdiv : ∃ a, floatBits .quo .f64 (FloatKind.f64.nearest t) day = some a ∧ fin a ∧ V a * 86400 - t * (U : Int) ≤ 86400 * (G : Int) ∧ -(86400 * (G : Int)) ≤ V a * 86400 - t * (U : Int) := by
    have hb : t * (U : Int) * (U : Nat) ≤ 9007199254740991 * (G : Int) * (86400 * (U : Int)) ∧ -(9007199254740991 * (G : Int) * (86400 * (U : Int))) ≤ t * (U : Int) * (U : Nat) := by
      have k1 : 9007199254740991 * (G : Int) * (86400 * (U : Int)) = (778222015609621622400 * (G : Int)) * (U : Int) := by
        rw [← Int.mul_assoc, show 9007199254740991 * (G : Int) * 86400 = 778222015609621622400 * (G : Int) by omega]
      rw [k1]
      have k2 : t * (U : Int) ≤ 778222015609621622400 * (G : Int) ∧ -(778222015609621622400 * (G : Int)) ≤ t * (U : Int) := by
        rw [hUG, ← Int.mul_assoc]
        have a1 : t * 536870912 ≤ 778222015609621622400 := by omega
        have a2 : -778222015609621622400 ≤ t * 536870912 := by omega
        have b1 := Int.mul_le_mul_of_nonneg_right a1 (by omega : (0 : Int) ≤ (G : Int))
        have b2 := Int.mul_le_mul_of_nonneg_right a2 (by omega : (0 : Int) ≤ (G : Int))
        rw [Int.neg_mul] at b2
        exact ⟨b1, b2⟩
      have u0 : (0 : Int) ≤ (U : Int) := by omega
      have c1 := Int.mul_le_mul_of_nonneg_right k2.1 u0
      have c2 := Int.mul_le_mul_of_nonneg_right k2.2 u0
      rw [Int.neg_mul] at c2
      exact ⟨c1, c2⟩
    have hy1 : 0 < val (rg day) := by rw [show rg day = day by decide, val_day]; omega
    obtain ⟨a, e, f, g1, g2⟩ := div_grid (x := FloatKind.f64.nearest t) (y := day) ge fx fin_day (by decide) hy1 hge (by rw [G_eq, vx, vd]; exact hb.2) (by rw [G_eq, vx, vd]; exact hb.1)
    refine ⟨a, e, f, ?_⟩
    rw [G_eq, vx, vd] at g1 g2
    have u1 : (0 : Int) < (U : Int) := by omega
    have m1 : V a * (86400 * (U : Int)) - t * (U : Int) * (U : Nat) = (V a * 86400 - t * (U : Int)) * (U : Int) := by rw [Int.sub_mul, Int.mul_assoc (V a)]
    have m2 : (G : Int) * (86400 * (U : Int)) = (86400 * (G : Int)) * (U : Int) := by rw [← Int.mul_assoc, Int.mul_comm (G : Int)]
    rw [m1, m2] at g1 g2
    rw [← Int.neg_mul] at g2
    exact ⟨Int.le_of_mul_le_mul_right g1 u1, Int.le_of_mul_le_mul_right g2 u1⟩
  obtain ⟨a, ea, fa, a1, a2⟩ := hdiv
  have tU : t * (U : Int) ≤ 971891049599 * 536870912 * (G : Int) ∧ -(1096193779200 * 536870912 * (G : Int)) ≤ t * (U : Int) := by
    rw [hUG, ← Int.mul_assoc]
    have b1 := Int.mul_le_mul_of_nonneg_right (show t * 536870912 ≤ 971891049599 * 536870912 by omega) (by omega : (0 : Int) ≤ (G : Int))
    have b2 := Int.mul_le_mul_of_nonneg_right (show -(1096193779200 * 536870912) ≤ t * 536870912 by omega) (by omega : (0 : Int) ≤ (G : Int))
    rw [Int.neg_mul] at b2
    exact ⟨b1, b2⟩
  generalize t * (U : Int) = TU at *
  obtain ⟨b, eb, fb, b1, b2⟩ := add_grid (x := a) (y := zero) ge fa fin_zero hge (by rw [G_eq, vz]; omega) (by rw [G_eq, vz]; omega)
  refine ⟨a, b, ea, eb, fb, ?_⟩
  rw [G_eq, vz] at b1 b2
  omega
theorem back_steps {t : Int} {b : Nat} (h0 : -1096193779200 ≤ t) (h1 : t ≤ 971890963199) (fb : fin b)
    (b1 : V b * 86400 - (t * (U : Int) + 86400 * (1310280436940800 * (G : Int))) ≤ 172800 * (G : Int)) (b2 : -(172800 * (G : Int)) ≤ V b * 86400 - (t * (U : Int) + 86400 * (1310280436940800 * (G : Int)))) :
    ∃ c d, floatBits .sub .f64 b zero = some c ∧ floatBits .mul .f64 c day = some d ∧ fin d ∧ V d - t * (U : Int) ≤ 400000 * (G : Int) ∧ -(400000 * (G : Int)) ≤ V d - t * (U : Int) := by
  have hUG : (U : Int) = 536870912 * (G : Int) := by rw [U_grid]; exact Int.natCast_mul _ _
  have hG : (1 : Int) ≤ (G : Int) := by have := G_pos; omega
  have hge : ge ≤ 1900 := by rw [ge_eq]; decide
  have hge2 : ge + 17 ≤ 1900 := by rw [ge_eq]; decide
  have vz := V_zero
  have vd := V_day
  have hU := U_pos
  have tU : t * (U : Int) ≤ 971890963199 * 536870912 * (G : Int) ∧ -(1096193779200 * 536870912 * (G : Int)) ≤ t * (U : Int) := by
    rw [hUG, ← Int.mul_assoc]
    have b1 := Int.mul_le_mul_of_nonneg_right (show t * 536870912 ≤ 971890963199 * 536870912 by omega) (by omega : (0 : Int) ≤ (G : Int))
    have b2 := Int.mul_le_mul_of_nonneg_right (show -(1096193779200 * 536870912) ≤ t * 536870912 by omega) (by omega : (0 : Int) ≤ (G : Int))
    rw [Int.neg_mul] at b2
    exact ⟨b1, b2⟩
  generalize t * (U : Int) = TU at *
  obtain ⟨c, ec, fc, c1, c2⟩ := sub_grid (x := b) (y := zero) ge fb fin_zero hge (by rw [G_eq, vz]; omega) (by rw [G_eq, vz]; omega)
  rw [G_eq, vz] at c1 c2
  have hp := G17_G
  have cb : V c * 86400 - TU ≤ 259200 * (G : Int) ∧ -(259200 * (G : Int)) ≤ V c * 86400 - TU := by omega
  have vcd : V c * V day = (V c * 86400) * (U : Int) := by rw [vd, ← Int.mul_assoc]
  have u0 : (0 : Int) ≤ (U : Int) := by omega
  have u1 : (0 : Int) < (U : Int) := by omega
  have bnd : V c * 86400 ≤ 9007199254740991 * (G17 : Int) ∧ -(9007199254740991 * (G17 : Int)) ≤ V c * 86400 := by rw [hp]; omega
  obtain ⟨d, ed, fd, d1, d2⟩ := mul_grid (x := c) (y := day) (ge + 17) fc fin_day (by decide) hge2
    (by rw [G17_eq, vcd, ← Int.neg_mul]; exact Int.mul_le_mul_of_nonneg_right bnd.2 u0)
    (by rw [G17_eq, vcd]; exact Int.mul_le_mul_of_nonneg_right bnd.1 u0)
  refine ⟨c, d, ec, ed, fd, ?_⟩
  rw [G17_eq, vcd, ← Int.sub_mul] at d1 d2
  rw [← Int.neg_mul] at d2
  have d1' := Int.le_of_mul_le_mul_right d1 u1
  have d2' := Int.le_of_mul_le_mul_right d2 u1
  rw [hp] at d1' d2'
  omega
/-- A number no further from a whole one than so is rounded to it. -/
theorem wn_near {d : Nat} {t : Int} (hd : fin d) (d1 : V d - t * (U : Int) ≤ 400000 * (G : Int)) (d2 : -(400000 * (G : Int)) ≤ V d - t * (U : Int)) : wn .even d = t := by
  have hUG : U = 536870912 * G := U_grid
  have hG := G_pos
  have key : ∀ v k : Nat, (v : Int) - (k : Int) * (U : Int) ≤ 400000 * (G : Int) → -(400000 * (G : Int)) ≤ (v : Int) - (k : Int) * (U : Int) → ∀ s, whole .even s v = k := by
    intro v k h1 h2 s
    have e : ((k * U : Nat) : Int) = (k : Int) * (U : Int) := Int.natCast_mul _ _
    rw [← e] at h1 h2
    have hU2 : U / 2 = 268435456 * G := by rw [hUG]; omega
    refine whole_near ?_ ?_
    · rw [hU2]; omega
    · rw [hU2]; omega
  unfold wn
  rcases V_cases d with ⟨g, v⟩ | ⟨g, v⟩
  · rw [g, if_neg (by decide)]
    have t0 : 0 ≤ t := by
      by_cases h : 0 ≤ t
      · exact h
      · exfalso
        have : t * (U : Int) ≤ -1 * (U : Int) := Int.mul_le_mul_of_nonneg_right (by omega) (by omega)
        rw [v] at d1
        omega
    obtain ⟨k, rfl⟩ := Int.eq_ofNat_of_zero_le t0
    rw [v] at d1 d2
    rw [key _ k d1 d2]
  · rw [g, if_pos rfl]
    have t0 : t ≤ 0 := by
      by_cases h : t ≤ 0
      · exact h
      · exfalso
        have : 1 * (U : Int) ≤ t * (U : Int) := Int.mul_le_mul_of_nonneg_right (by omega) (by omega)
        rw [v] at d2
        omega
    obtain ⟨k, hk⟩ := Int.eq_ofNat_of_zero_le (show 0 ≤ -t by omega)
    have ht : t = -(k : Int) := by omega
    rw [ht, v, Int.neg_mul] at d1 d2
    rw [key _ k (by omega) (by omega), ht]
end Go.Proofs.Ytnfjdjfajkdiiaa.Fl
