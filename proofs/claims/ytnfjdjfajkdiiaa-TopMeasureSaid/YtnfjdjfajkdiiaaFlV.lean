/- Words of 64 bits as numbers with a floating point: their sign, their rung, their value in units of 2^-1074; order, sums, products by these. -/
import Derived.Test.YtnfjdjfajkdiiaaFl
set_option linter.unusedVariables false
set_option linter.unusedSimpArgs false
namespace Go.Proofs.Ytnfjdjfajkdiiaa.Fl
open Ieee

def rg (x : Nat) : Nat := x % 9223372036854775808
def ng (x : Nat) : Bool := x / 9223372036854775808 % 2 == 1
/-- The rung of what is above all. -/
def inf : Nat := 9218868437227405312
def fin (x : Nat) : Prop := rg x < inf
def V (x : Nat) : Int := if ng x then -(val (rg x) : Int) else (val (rg x) : Int)
def mg (r : Nat) : Nat := if r < 4503599627370496 then r else 4503599627370496 + r % 4503599627370496
def pl (r : Nat) : Int := if r < 4503599627370496 then -1074 else -1074 + ((r / 4503599627370496 - 1 : Nat) : Int)
/-- The word of a sign and a rung. -/
def wd (s : Bool) (r : Nat) : Nat := if s then 9223372036854775808 + r else r

theorem dbl_binade : double.binade = 4503599627370496 := by decide
theorem dbl_inf : double.infRung = inf := by decide
theorem dbl_sign : double.signWeight = 9223372036854775808 := by decide
theorem dbl_least : double.leastPlace = -1074 := by decide
theorem word_eq (s : Bool) (r : Nat) : double.word s r = wd s r := by unfold Format.word wd; rw [dbl_sign]

theorem rg_wd {s : Bool} {r : Nat} (h : r < 9223372036854775808) : rg (wd s r) = r := by
  unfold rg wd; cases s <;> simp <;> omega
theorem ng_wd {s : Bool} {r : Nat} (h : r < 9223372036854775808) : ng (wd s r) = s := by
  unfold ng wd
  cases s
  · simp; omega
  · simp; omega
theorem wd_rg {x : Nat} (h : x < 18446744073709551616) : wd (ng x) (rg x) = x := by
  unfold wd ng rg
  by_cases hs : x / 9223372036854775808 % 2 = 1
  · simp [hs]; omega
  · simp [hs]; omega
theorem wd_lt {s : Bool} {r : Nat} (h : r < 9223372036854775808) : wd s r < 18446744073709551616 := by
  unfold wd; split <;> omega
theorem V_wd {s : Bool} {r : Nat} (h : r < 9223372036854775808) : V (wd s r) = if s then -(val r : Int) else (val r : Int) := by
  unfold V; rw [rg_wd h, ng_wd h]

theorem mg_pl (r : Nat) : -1074 ≤ pl r ∧ mg r * 2 ^ (pl r + 1074).toNat = val r := by
  unfold mg pl
  by_cases h : r < 4503599627370496
  · rw [if_pos h, if_pos h, val_lo h]; exact ⟨by omega, by simp⟩
  · rw [if_neg h, if_neg h, val_hi (by omega)]
    refine ⟨by omega, ?_⟩
    rw [show (-1074 + ((r / 4503599627370496 - 1 : Nat) : Int) + 1074).toNat = r / 4503599627370496 - 1 by omega]

theorem read_fin {x : Nat} (h : fin x) : double.read x = .number (ng x) (mg (rg x)) (pl (rg x)) := by
  unfold Format.read mg pl fin at *
  rw [dbl_binade, dbl_inf, dbl_sign, dbl_least]
  show (if rg x < 4503599627370496 then _ else _) = _
  by_cases h1 : rg x < 4503599627370496
  · rw [if_pos h1, if_pos h1, if_pos h1]; rfl
  · rw [if_neg h1, if_neg h1, if_neg h1]
    show (if rg x < inf then _ else _) = _
    rw [if_pos h]; rfl
theorem read_inf {x : Nat} (h : rg x = inf) : double.read x = .infinity (ng x) := by
  unfold Format.read
  rw [dbl_binade, dbl_inf, dbl_sign, dbl_least]
  show (if rg x < 4503599627370496 then _ else if rg x < inf then _ else if rg x = inf then _ else _) = _
  rw [if_neg (by rw [h]; decide), if_neg (by rw [h]; decide), if_pos h]; rfl
theorem read_nan {x : Nat} (h : inf < rg x) : double.read x = .nan (ng x) (rg x - inf) := by
  unfold Format.read
  rw [dbl_binade, dbl_inf, dbl_sign, dbl_least]
  have hi : inf = 9218868437227405312 := rfl
  show (if rg x < 4503599627370496 then _ else if rg x < inf then _ else if rg x = inf then _ else _) = _
  rw [if_neg (by omega), if_neg (by omega), if_neg (by omega)]; rfl

theorem signed_eq (s : Bool) (m k : Nat) : signed s m k = (if s then -(m * 2 ^ k : Nat) else (m * 2 ^ k : Nat) : Int) := by
  unfold signed; rw [shl]
/-- A number's part in a common place, times what lies between that and -1074, is its value. -/
theorem part (x : Nat) (b : Int) (h0 : -1074 ≤ b) (h : b ≤ pl (rg x)) : signed (ng x) (mg (rg x)) (pl (rg x) - b).toNat * (2 ^ (b + 1074).toNat : Nat) = V x := by
  rw [signed_eq]
  have e := (mg_pl (rg x)).2
  have e2 : mg (rg x) * 2 ^ (pl (rg x) - b).toNat * 2 ^ (b + 1074).toNat = val (rg x) := by
    rw [Nat.mul_assoc, ← Nat.pow_add, show (pl (rg x) - b).toNat + (b + 1074).toNat = (pl (rg x) + 1074).toNat by omega]; exact e
  unfold V
  cases ng x
  · simp only [Bool.false_eq_true, if_false]; rw [← e2]; push_cast; rfl
  · simp only [if_true]; rw [← e2]; push_cast; rw [Int.neg_mul]

theorem cmp_mul {a b : Int} {k : Nat} (hk : 0 < k) : compare (a * k) (b * k) = compare a b := by
  have h1 : (a * k < b * k) ↔ a < b := Int.mul_lt_mul_right (by omega)
  have h2 : (a * k = b * k) ↔ a = b := ⟨fun h => Int.eq_of_mul_eq_mul_right (by omega) h, fun h => by rw [h]⟩
  show compareOfLessAndEq _ _ = compareOfLessAndEq _ _
  unfold compareOfLessAndEq
  simp only [h1, h2]
theorem order_fin {x y : Nat} (hx : fin x) (hy : fin y) : double.order x y = some (compare (V x) (V y)) := by
  unfold Format.order
  rw [read_fin hx, read_fin hy]
  show some (compare (signed _ _ _) (signed _ _ _)) = _
  have a := (mg_pl (rg x)).1
  have b := (mg_pl (rg y)).1
  rw [← part x (min (pl (rg x)) (pl (rg y))) (by omega) (by omega), ← part y (min (pl (rg x)) (pl (rg y))) (by omega) (by omega), cmp_mul (two_pos _)]
theorem order_nan1 {x y : Nat} (h : inf < rg x) : double.order x y = none := by
  unfold Format.order; rw [read_nan h]; rfl
theorem order_nan2 {x y : Nat} (h : inf < rg y) : double.order x y = none := by
  unfold Format.order; rw [read_nan h]; cases double.read x <;> rfl
theorem order_inf1 {x y : Nat} (h : rg x = inf) (hy : fin y) : double.order x y = some (if ng x then .lt else .gt) := by
  unfold Format.order; rw [read_inf h, read_fin hy]; rfl
theorem order_inf2 {x y : Nat} (h : rg y = inf) (hx : fin x) : double.order x y = some (if ng y then .gt else .lt) := by
  unfold Format.order; rw [read_inf h, read_fin hx]; rfl
theorem order_infs {x y : Nat} (h : rg x = inf) (h' : rg y = inf) : double.order x y = some (compare (ng y).toNat (ng x).toNat) := by
  unfold Format.order; rw [read_inf h, read_inf h']; rfl

/-- Rounded to the nearest rung: what is not above stays not above, what is not below not below; the nearest one, and the even one of two. -/
structure Near (N D R : Nat) : Prop where
  lo : ∀ z, val z * D ≤ N → z ≤ R
  hi : ∀ z, N ≤ val z * D → R ≤ z
  up : 2 * N ≤ (val R + val (R + 1)) * D
  upe : 2 * N = (val R + val (R + 1)) * D → R % 2 = 0
  dn : 1 ≤ R → (val (R - 1) + val R) * D ≤ 2 * N
  dne : 1 ≤ R → (val (R - 1) + val R) * D = 2 * N → R % 2 = 0
theorem near_zero (D : Nat) (hD : 1 ≤ D) : Near 0 D 0 := by
  refine ⟨?_, fun z _ => Nat.zero_le _, by omega, fun _ => rfl, by omega, by omega⟩
  intro z hz
  have h1 : val z = 0 := by
    rcases Nat.eq_zero_or_pos (val z) with h | h
    · exact h
    · have := Nat.mul_le_mul h hD; omega
  have : val z = val 0 := h1.trans (val_lo (by decide)).symm
  rw [val_inj this]; exact Nat.le_refl _
/-- A number that is written: its rung is near, and where it is too great, it is what is above all. -/
theorem write_near (s : Bool) (mag : Nat) (place : Int) : ∃ R, double.nearest s mag place = wd s (min R inf) ∧ ∀ N D, 1 ≤ D → N * 2 ^ (-1074 - place).toNat = mag * 2 ^ (place + 1074).toNat * D → Near N D R := by
  by_cases hm : mag = 0
  · refine ⟨0, ?_, ?_⟩
    · unfold Format.nearest; rw [if_pos hm, word_eq]; rfl
    · intro N D hD h
      rw [hm, Nat.zero_mul, Nat.zero_mul] at h
      have h0 : N = 0 := by
        rcases Nat.eq_zero_or_pos N with h1 | h1
        · exact h1
        · have := Nat.mul_le_mul h1 (two_pos (-1074 - place).toNat); omega
      rw [h0]; exact near_zero D hD
  · obtain ⟨R, hR, h⟩ := near s mag place hm
    refine ⟨R, by rw [hR, word_eq, dbl_inf], ?_⟩
    intro N D hD hh
    obtain ⟨a, b, c, d, e⟩ := h N D hD hh
    exact ⟨a, b, c, d, fun h => (e h).1, fun h => (e h).2⟩
/-- What may be is kept. -/
theorem Near.exact {N D R z : Nat} (h : Near N D R) (e : N = val z * D) : R = z :=
  Nat.le_antisymm (h.hi z (by omega)) (h.lo z (by omega))
/-- Greater numbers have no lesser rungs. -/
theorem Near.mono {N D R N' D' R' : Nat} (h : Near N D R) (h' : Near N' D' R') (hD : 1 ≤ D) (hD' : 1 ≤ D') (hle : N * D' ≤ N' * D) : R ≤ R' := by
  by_cases hc : R ≤ R'
  · exact hc
  · exfalso
    have h1 := h.dn (by omega)
    have h2 := h'.up
    have m1 : val R' ≤ val (R - 1) := val_le.2 (by omega)
    have m2 : val (R' + 1) ≤ val R := val_le.2 (by omega)
    have s : val R' + val (R' + 1) ≤ val (R - 1) + val R := by omega
    -- 2 N' D ≤ (v R' + v (R'+1)) D' D ≤ (v (R-1) + v R) D D' ≤ 2 N D' ≤ 2 N' D
    have k1 : 2 * N' * D ≤ (val R' + val (R' + 1)) * D' * D := Nat.mul_le_mul_right _ h2
    have k2 : (val R' + val (R' + 1)) * D' * D ≤ (val (R - 1) + val R) * D' * D := Nat.mul_le_mul_right _ (Nat.mul_le_mul_right _ s)
    have k3 : (val (R - 1) + val R) * D * D' ≤ 2 * N * D' := Nat.mul_le_mul_right _ h1
    have k4 : (val (R - 1) + val R) * D' * D = (val (R - 1) + val R) * D * D' := Nat.mul_right_comm _ _ _
    have k5 : 2 * N * D' = 2 * (N * D') := Nat.mul_assoc _ _ _
    have k6 : 2 * N' * D = 2 * (N' * D) := Nat.mul_assoc _ _ _
    have q1 : 2 * N' = (val R' + val (R' + 1)) * D' := by
      have : 2 * N' * D = (val R' + val (R' + 1)) * D' * D := by omega
      exact Nat.eq_of_mul_eq_mul_right hD this
    have q2 : (val (R - 1) + val R) * D = 2 * N := by
      have : (val (R - 1) + val R) * D * D' = 2 * N * D' := by omega
      exact Nat.eq_of_mul_eq_mul_right hD' this
    have q3 : val R' + val (R' + 1) = val (R - 1) + val R := by
      have : (val R' + val (R' + 1)) * D' * D = (val (R - 1) + val R) * D' * D := by omega
      exact Nat.eq_of_mul_eq_mul_right hD' (Nat.eq_of_mul_eq_mul_right hD this)
    have e1 := h'.upe q1
    have e2 := h.dne (by omega) q2
    have e3 : R' = R - 1 := val_inj (by omega)
    omega
end Go.Proofs.Ytnfjdjfajkdiiaa.Fl
