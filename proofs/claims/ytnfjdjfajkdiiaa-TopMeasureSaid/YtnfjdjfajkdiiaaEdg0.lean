/- An operation that has no answer. -/
import Derived.Test.YtnfjdjfajkdiiaaRd0
set_option linter.unusedVariables false
set_option linter.unusedSimpArgs false
namespace Go.Proofs.Ytnfjdjfajkdiiaa
open Go.RowKit

namespace Fl
theorem cut_nan (x y t : Nat) : inf < rg (Question.cut (.nanBits .f64 x y) t) ∧ Question.cut (.nanBits .f64 x y) t < 18446744073709551616 := by
  show inf < rg ((t % 2) * 2 ^ 63 + 0x7ff0000000000000 + 1 + (t / 2) % (2 ^ 52 - 1)) ∧ (t % 2) * 2 ^ 63 + 0x7ff0000000000000 + 1 + (t / 2) % (2 ^ 52 - 1) < 18446744073709551616
  have e63 : (2 : Nat) ^ 63 = 9223372036854775808 := by decide
  have e52 : (2 : Nat) ^ 52 - 1 = 4503599627370495 := by decide
  rw [e63, e52]
  have hi : inf = 9218868437227405312 := rfl
  have h1 : t / 2 % 4503599627370495 < 4503599627370495 := Nat.mod_lt _ (by decide)
  generalize t / 2 % 4503599627370495 = r at *
  have h2 : t % 2 = 0 ∨ t % 2 = 1 := by omega
  unfold rg
  rcases h2 with h2 | h2 <;> rw [h2] <;> omega
/-- An operation that has no answer: something that is no number. -/
theorem nan_run (P : Program) (op : BinOp) (hop : op = .add ∨ op = .sub ∨ op = .mul ∨ op = .quo) (t : TypeId) (x y : Nat) (h : floatBits op .f64 x y = none) (w : World) :
    ∃ q, nan q = true ∧ q < 18446744073709551616 ∧ (binOp op t (.float .f64 x) (.float .f64 y)).run P w = .ok (.float .f64 q) w.drew := by
  have c := cut_nan x y (w.tape w.drawn (.nanBits .f64 x y))
  refine ⟨Question.cut (.nanBits .f64 x y) (w.tape w.drawn (.nanBits .f64 x y)), nan_true.2 c.1, c.2, ?_⟩
  unfold floatBits at h
  rcases hop with rfl | rfl | rfl | rfl <;> (simp only at h; simp [binOp, Op.floatArith, h, Question.forced])
end Fl
theorem quo_minus (w : World) : (binOp .quo 43 (.float .f64 13830554455654793216) (.float .f64 0)).run Try.prog w = .ok (.float .f64 18442240474082181120) w := run_float_arith w .quo _ .f64 _ _ _ (by decide +kernel)
theorem quo_plus (w : World) : (binOp .quo 43 (.float .f64 4607182418800017408) (.float .f64 0)).run Try.prog w = .ok (.float .f64 9218868437227405312) w := run_float_arith w .quo _ .f64 _ _ _ (by decide +kernel)
end Go.Proofs.Ytnfjdjfajkdiiaa
