/- Rounded sums, but for what is rounded. -/
import Derived.Test.YtckcmhnhmobadaaMnB
import Derived.Test.YtckcmhnhmobadaaJulOM
import Derived.Test.YtckcmhnhmobadaaSum
set_option linter.unusedVariables false
set_option linter.unusedSimpArgs false
namespace Go.Proofs.Ytckcmhnhmobadaa
open Go.RowKit Go.Sort

namespace Fl
open Ieee
/-- Is a word within so much of a number? -/
def Wi (x : Nat) (Z K : Int) : Prop := fin x ∧ V x - Z ≤ K ∧ Z - V x ≤ K
def ab (xs : List (Nat × Int)) : Int := (xs.map fun p => (p.2.natAbs : Int)).sum
def sm (xs : List (Nat × Int)) : Int := (xs.map fun p => p.2).sum
theorem ab_cons (p : Nat × Int) (xs : List (Nat × Int)) : ab (p :: xs) = p.2.natAbs + ab xs := rfl
theorem sm_cons (p : Nat × Int) (xs : List (Nat × Int)) : sm (p :: xs) = p.2 + sm xs := rfl
theorem ab_pos (xs : List (Nat × Int)) : 0 ≤ ab xs := by
  induction xs with
  | nil => exact Int.le_refl _
  | cons p xs ih => rw [ab_cons]; omega
/-- A sum, one by one: each addend and each step is off by no more than Y. -/
theorem fold_wi (e : Nat) (he : e ≤ 1900) (Y : Int) (hY : ((2 ^ e : Nat) : Int) = Y) : ∀ (xs : List (Nat × Int)) (s : Nat) (Z K : Int), Wi s Z K → (∀ p ∈ xs, Wi p.1 p.2 Y) → (Z.natAbs : Int) + ab xs ≤ 4503599627370496 * Y → K + 2 * (xs.length * Y) ≤ 1000 * Y →
    Wi ((xs.map fun p => p.1).foldl (fun s y => cop .add s y) s) (Z + sm xs) (K + 2 * (xs.length * Y)) := by
  have hY0 : 0 < Y := by have := two_pos e; omega
  intro xs
  induction xs with
  | nil =>
    intro s Z K h _ _ _
    simp only [List.map_nil, List.foldl_nil, List.length_nil, sm, List.sum_nil]
    obtain ⟨a, b, c⟩ := h
    exact ⟨a, by omega, by omega⟩
  | cons p xs ih =>
    intro s Z K h hp hb hk
    obtain ⟨f, v1, v2⟩ := h
    obtain ⟨g, u1, u2⟩ := hp p (List.mem_cons_self ..)
    rw [ab_cons] at hb
    have hlen : ((p :: xs).length : Int) * Y = xs.length * Y + Y := by rw [List.length_cons]; push_cast; rw [Int.add_mul, Int.one_mul]
    rw [hlen] at hk ⊢
    have hL : 0 ≤ (xs.length : Int) * Y := Int.mul_nonneg (by omega) (by omega)
    have hA := ab_pos xs
    generalize hLL : (xs.length : Int) * Y = L at *
    obtain ⟨r, hr, fr, r1, r2⟩ := add_grid (x := s) (y := p.1) e f g he (by rw [hY]; omega) (by rw [hY]; omega)
    rw [hY] at r1 r2
    rw [List.map_cons, List.foldl_cons, sm_cons]
    have hc : cop .add s p.1 = r := by unfold cop; rw [hr]; rfl
    rw [hc]
    have := ih r (Z + p.2) (K + 2 * Y) ⟨fr, by omega, by omega⟩ (fun q hq => hp q (List.mem_cons_of_mem _ hq)) (by omega) (by omega)
    obtain ⟨a, b, c⟩ := this
    exact ⟨a, by omega, by omega⟩
/-- The sum of some. -/
theorem csum_wi (e : Nat) (he : e ≤ 1900) (Y : Int) (hY : ((2 ^ e : Nat) : Int) = Y) (xs : List (Nat × Int)) (h0 : xs ≠ []) (hl : xs.length ≤ 60) (hp : ∀ p ∈ xs, Wi p.1 p.2 Y) (hb : ab xs ≤ 4503599627370496 * Y) :
    Wi (csum (xs.map fun p => p.1)) (sm xs) (121 * Y) := by
  have hY0 : 0 < Y := by have := two_pos e; omega
  cases xs with
  | nil => exact absurd rfl h0
  | cons p xs =>
    have hl' : (xs.length : Int) * Y ≤ 59 * Y := Int.mul_le_mul_of_nonneg_right (by simp at hl; omega) (by omega)
    obtain ⟨a, b, c⟩ := fold_wi e he Y hY xs p.1 p.2 Y (hp p (List.mem_cons_self ..)) (fun q hq => hp q (List.mem_cons_of_mem _ hq)) (by rw [ab_cons] at hb; omega) (by omega)
    have e1 : csum ((p :: xs).map fun p => p.1) = (xs.map fun p => p.1).foldl (fun s y => cop .add s y) p.1 := rfl
    rw [e1, sm_cons]
    exact ⟨a, by omega, by omega⟩
def tp : Nat := 1900
theorem tp_eq : tp = 1900 := rfl
/-- The scale of a number: 2^51 steps of it at the least, less than 2^52. -/
theorem scale (Z : Int) (h0 : 2251799813685248 ≤ Z) (h1 : Z < ((2 ^ tp : Nat) : Int)) : ∃ e, e ≤ 1900 ∧ 2251799813685248 * ((2 ^ e : Nat) : Int) ≤ Z ∧ Z < 4503599627370496 * ((2 ^ e : Nat) : Int) := by
  obtain ⟨z, rfl⟩ : ∃ z : Nat, Z = z := ⟨Z.toNat, by omega⟩
  have hz : z ≠ 0 := by omega
  have a := Nat.log2_self_le hz
  have b : z < 2 ^ (z.log2 + 1) := (Nat.log2_lt hz).1 (by omega)
  have c : 51 ≤ z.log2 := (Nat.le_log2 hz).2 (by rw [show (2 : Nat) ^ 51 = 2251799813685248 by decide]; omega)
  have d : z.log2 < tp := (Nat.log2_lt hz).2 (by omega)
  have tp := tp_eq
  refine ⟨z.log2 - 51, by omega, ?_, ?_⟩
  · have e : 2 ^ z.log2 = 2251799813685248 * 2 ^ (z.log2 - 51) := by
      conv => lhs; rw [show z.log2 = 51 + (z.log2 - 51) by omega, pow_split]
    omega
  · have e : 2 ^ (z.log2 + 1) = 4503599627370496 * 2 ^ (z.log2 - 51) := by
      conv => lhs; rw [show z.log2 + 1 = 52 + (z.log2 - 51) by omega, pow_split]
    omega
/-- A whole number's nearest is within a step of the scale of what is no less. -/
theorem near_wi (e : Nat) (he : e ≤ 1900) (n : Int) (h : (n.natAbs : Int) * (U : Int) ≤ 9007199254740991 * ((2 ^ e : Nat) : Int)) : Wi (FloatKind.f64.nearest n) (n * (U : Int)) ((2 ^ e : Nat) : Int) := by
  obtain ⟨R, hR, hn⟩ := int_near n
  have hN : n.natAbs * U ≤ 9007199254740991 * 2 ^ e := by
    have : ((n.natAbs * U : Nat) : Int) ≤ ((9007199254740991 * 2 ^ e : Nat) : Int) := by rw [Int.natCast_mul, Int.natCast_mul]; exact h
    omega
  have e0 : (n * (U : Int)).natAbs = n.natAbs * U := Int.natAbs_mul n U
  have hsg : n * (U : Int) = 0 ∨ decide (n < 0) = decide (n * (U : Int) < 0) := by
    right
    have hU : 0 < (U : Int) := by have := U_pos; omega
    by_cases hn0 : n < 0
    · have : n * (U : Int) < 0 := Int.mul_neg_of_neg_of_pos hn0 hU
      rw [decide_eq_true hn0, decide_eq_true this]
    · have : ¬ n * (U : Int) < 0 := by have := Int.mul_nonneg (show 0 ≤ n by omega) (show 0 ≤ (U : Int) by omega); omega
      rw [decide_eq_false hn0, decide_eq_false this]
  rw [← e0] at hn hN
  obtain ⟨a, b, c⟩ := sum_grid (e := e) (sg := decide (n < 0)) hn hsg he (by omega) (by omega)
  rw [hR, Nat.min_eq_left (Nat.le_of_lt a)]
  exact ⟨fin_wd a, b, by omega⟩
/-- The millionth. -/
def mil : Nat := 4517329193108106637
theorem fin_mil : fin mil := by unfold fin; decide
theorem V_mil : 0 ≤ V mil ∧ (U : Int) ≤ 1048576 * V mil ∧ 524288 * V mil ≤ (U : Int) ∧ ng mil = false := by
  have h : val mil = 4722366482869645 * 2 ^ 1002 := valK 1002 4722366482869645 (.inr (by decide)) (by decide)
  have hv : V mil = (val mil : Int) := by unfold V; rw [show ng mil = false by decide, show rg mil = mil by decide]; rfl
  have hu : 4722366482869645213696 * 2 ^ 1002 = 1 * U := u_mul 1002 72 4722366482869645213696 1 rfl (by decide)
  obtain ⟨q, hq⟩ : ∃ q, (2 : Nat) ^ 1002 = q := ⟨_, rfl⟩
  rw [hq] at h hu
  rw [hv, h]
  generalize U = u at *
  exact ⟨by omega, by omega, by omega, by decide⟩
end Fl
end Go.Proofs.Ytckcmhnhmobadaa
