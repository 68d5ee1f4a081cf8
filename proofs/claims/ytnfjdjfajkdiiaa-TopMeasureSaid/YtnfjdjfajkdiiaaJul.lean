/- The contracts of julian's functions. -/
import Derived.Test.YtnfjdjfajkdiiaaEdg0
set_option linter.unusedVariables false
set_option linter.unusedSimpArgs false
namespace Go.Proofs.Ytnfjdjfajkdiiaa
open Go.RowKit

namespace Fl
open Ieee
/-- What an operation on two words gives: the nearest word, or, of what has no answer, something that is no number. -/
def FOp (op : BinOp) (x y r : Nat) : Prop := r < 18446744073709551616 ∧ (floatBits op .f64 x y = some r ∨ (floatBits op .f64 x y = none ∧ nan r = true))
theorem fop_run (P : Program) (op : BinOp) (hop : op = .add ∨ op = .sub ∨ op = .mul ∨ op = .quo) (t : TypeId) (x y : Nat) (w : World) :
    ∃ r n, FOp op x y r ∧ (binOp op t (.float .f64 x) (.float .f64 y)).run P w = .ok (.float .f64 r) (w.drewN n) := by
  cases h : floatBits op .f64 x y with
  | none =>
    obtain ⟨q, hq, hq2, hr⟩ := nan_run P op hop t x y h w
    exact ⟨q, 1, ⟨hq2, .inr ⟨h, hq⟩⟩, hr⟩
  | some r =>
    have hw := floatBits_wf h
    refine ⟨r, 0, ⟨?_, .inl h⟩, run_float_arith w op t .f64 x y r h⟩
    have : r < 2 ^ 64 := by simpa [Lit.wf] using hw
    rw [show (2 : Nat) ^ 64 = 18446744073709551616 by decide] at this
    exact this
theorem FOp.eq {op : BinOp} {x y r v : Nat} (h : FOp op x y r) (hv : floatBits op .f64 x y = some v) : r = v := by
  rcases h.2 with e | ⟨e, _⟩
  · rw [hv] at e; exact (Option.some.inj e).symm
  · rw [hv] at e; cases e
theorem FOp.nan {op : BinOp} {x y r : Nat} (h : FOp op x y r) (hv : floatBits op .f64 x y = none) : Fl.nan r = true := by
  rcases h.2 with e | ⟨_, e⟩
  · rw [hv] at e; cases e
  · exact e

/-! ### the day number of a second -/
def day : Nat := 4680673776000565248
def zero : Nat := 4702495533095190528
theorem near_fin {N D R z : Nat} (h : Near N D R) (hz : z < inf) (hN : N ≤ val z * D) : R < inf := Nat.lt_of_le_of_lt (h.hi z hN) hz
theorem u_mul (c k a b : Nat) (hc : ue = c + k) (h : a = b * 2 ^ k) : a * 2 ^ c = b * U := by
  unfold U
  rw [hc, pow_split, h, Nat.mul_assoc, Nat.mul_comm (2 ^ k)]
theorem val_day : val day = 86400 * U := by
  have h : val 4680673776000565248 = 5937362789990400 * 2 ^ 1038 := valK 1038 5937362789990400 (.inr (by decide)) (by decide)
  have h2 : 5937362789990400 * 2 ^ 1038 = 86400 * U := u_mul 1038 36 5937362789990400 86400 rfl (by decide)
  exact h.trans h2
/-- A grid of what may be, as far as 2^53 steps of it: a rounded number is no further off than a step. -/
theorem Near.grid {N D R e : Nat} (h : Near N D R) (hD : 1 ≤ D) (hN : N ≤ 9007199254740991 * 2 ^ e * D) : val R * D ≤ N + 2 ^ e * D ∧ N ≤ val R * D + 2 ^ e * D := by
  have hG : 0 < 2 ^ e * D := Nat.mul_pos (two_pos e) hD
  have hk := Nat.div_add_mod N (2 ^ e * D)
  have hm : N % (2 ^ e * D) < 2 ^ e * D := Nat.mod_lt _ hG
  have hkb : N / (2 ^ e * D) ≤ 9007199254740991 := by
    have : N / (2 ^ e * D) < 9007199254740992 := by
      rw [Nat.div_lt_iff_lt_mul hG]
      rw [Nat.mul_assoc] at hN
      generalize 2 ^ e * D = Y at *
      omega
    omega
  generalize N / (2 ^ e * D) = k at *
  obtain ⟨z1, hz1⟩ := rep e k (by omega)
  obtain ⟨z2, hz2⟩ := rep e (k + 1) (by omega)
  have e1 : val z1 * D = 2 ^ e * D * k := by rw [hz1, Nat.mul_assoc, Nat.mul_comm]
  have e2 : val z2 * D = 2 ^ e * D * k + 2 ^ e * D := by rw [hz2, Nat.mul_assoc, Nat.mul_comm, Nat.mul_add, Nat.mul_one]
  have a := val_le.2 (h.lo z1 (by omega))
  have b := val_le.2 (h.hi z2 (by omega))
  have a' := Nat.mul_le_mul_right D a
  have b' := Nat.mul_le_mul_right D b
  omega
/-- A finite word's value, its sign and its magnitude. -/
theorem V_cases (x : Nat) : (ng x = false ∧ V x = (val (rg x) : Int)) ∨ (ng x = true ∧ V x = -(val (rg x) : Int)) := by
  unfold V; cases ng x
  · left; exact ⟨rfl, rfl⟩
  · right; exact ⟨rfl, rfl⟩
end Fl
end Go.Proofs.Ytnfjdjfajkdiiaa
