/- Numbers of seconds as numbers with a floating point; the contract of real.Of. -/
import Derived.Test.YtnfjdjfajkdiiaaJulM
set_option linter.unusedVariables false
set_option linter.unusedSimpArgs false
namespace Go.Proofs.Ytnfjdjfajkdiiaa
open Go.RowKit

namespace Fl
open Ieee
/-- A second's day number. -/
def jdB (t : Int) : Nat := ((floatBits .quo .f64 (FloatKind.f64.nearest t) day).bind fun a => floatBits .add .f64 a zero).getD 0
theorem val_top : val 4890909195324358656 = 9223372036854775808 * U := by
  have h := V_hi
  have e : V 4890909195324358656 = (val 4890909195324358656 : Int) := by unfold V; rw [show ng 4890909195324358656 = false by decide, show rg 4890909195324358656 = 4890909195324358656 by decide]; rfl
  rw [e] at h
  omega
theorem near_int_fin {n : Int} (h0 : -9223372036854775808 ≤ n) (h1 : n ≤ 9223372036854775807) : fin (FloatKind.f64.nearest n) ∧ FloatKind.f64.nearest n < 18446744073709551616 := by
  obtain ⟨R, hR, hn⟩ := int_near n
  have hz : (4890909195324358656 : Nat) < inf := by decide
  have hRi : R < inf := near_fin hn hz (by
    rw [val_top, Nat.mul_one]
    exact Nat.mul_le_mul_right _ (by omega))
  rw [hR, Nat.min_eq_left (Nat.le_of_lt hRi)]
  exact ⟨fin_wd hRi, wd_lt (rung_small hRi)⟩
theorem rg_day : rg day = day := by decide
theorem jd_some {t : Int} (h0 : -9223372036854775808 ≤ t) (h1 : t ≤ 9223372036854775807) : ∃ a, floatBits .quo .f64 (FloatKind.f64.nearest t) day = some a ∧ floatBits .add .f64 a zero = some (jdB t) := by
  obtain ⟨f, _⟩ := near_int_fin h0 h1
  obtain ⟨R, hR, hn⟩ := div_near f fin_day (by decide)
  have hRi : R < inf := near_fin (z := rg (FloatKind.f64.nearest t)) hn f (by
    rw [rg_day, val_day]
    exact Nat.mul_le_mul_left _ (by have := U_pos; omega))
  rw [Nat.min_eq_left (Nat.le_of_lt hRi)] at hR
  obtain ⟨S, hS, -⟩ := add_near (fin_wd hRi (s := ng (FloatKind.f64.nearest t) ^^ ng day)) fin_zero
  refine ⟨_, hR, ?_⟩
  have e : floatBits .add .f64 (wd (ng (FloatKind.f64.nearest t) ^^ ng day) R) zero = some _ := hS
  unfold jdB
  have e2 : floatBits .quo .f64 (FloatKind.f64.nearest t) day = some _ := hR
  rw [e2, Option.bind_some, e]
  rfl
theorem some_lt {op : BinOp} {x y r : Nat} (h : floatBits op .f64 x y = some r) : r < 18446744073709551616 := by
  have hw := floatBits_wf h
  have : r < 2 ^ 64 := by simpa [Lit.wf] using hw
  rw [show (2 : Nat) ^ 64 = 18446744073709551616 by decide] at this
  exact this
end Fl

set_option maxHeartbeats 1000000 in
theorem real_of (t : Int) (w : World) : Calls Try.prog 45 #[.int .i64 t] w fun e w' => e = .returned (.float .f64 (FloatKind.f64.nearest t)) ∧ w = w' := by
  go_enter Try.func45, Try.ntmps45
  go_wp2
  go_ret
  exact ⟨rfl, rfl⟩
end Go.Proofs.Ytnfjdjfajkdiiaa
