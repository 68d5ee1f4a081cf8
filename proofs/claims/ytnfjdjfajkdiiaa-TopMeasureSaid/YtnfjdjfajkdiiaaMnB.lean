/- Parts: how long a span is, as a number with a floating point. -/
import Derived.Test.YtnfjdjfajkdiiaaMnA
import Derived.Test.YtnfjdjfajkdiiaaJulW0
set_option linter.unusedVariables false
set_option linter.unusedSimpArgs false
namespace Go.Proofs.Ytnfjdjfajkdiiaa
open Go.RowKit Go.Sort

namespace Mn
/-- Are the numbers of a part ones of 64 bits? -/
def I (x : Int) : Prop := -9223372036854775808 ≤ x ∧ x ≤ 9223372036854775807
theorem wrap_sub {x y : Int} (hx : I x) (hy : I y) (h : x ≤ y) : IntKind.u64.wrap (IntKind.u64.wrap y - IntKind.u64.wrap x) = y - x := by
  obtain ⟨a, b⟩ := hx
  obtain ⟨c, d⟩ := hy
  simp only [IntKind.wrap, IntKind.signed, IntKind.bits, Bool.false_and, Bool.false_eq_true, if_false]
  rw [show (2 : Int) ^ 64 = 18446744073709551616 by decide]
  omega
/-- How many seconds lie between. -/
def wl (x y : Int) : Int := IntKind.u64.wrap (IntKind.u64.wrap y - IntKind.u64.wrap x)
def lw (p : P) : Nat := FloatKind.f64.nearest (wl p.1 p.2.1)
theorem near_lt (n : Int) : FloatKind.f64.nearest n < 18446744073709551616 := by
  obtain ⟨R, hR, -⟩ := Fl.int_near n
  rw [hR]
  exact Fl.wd_lt (Nat.lt_of_le_of_lt (Nat.min_le_right _ _) (by decide))
def lens (l : List P) : List Nat := l.map lw
theorem lens_lt (l : List P) : ∀ x ∈ lens l, x < 18446744073709551616 := by
  intro x hx
  obtain ⟨p, _, rfl⟩ := List.mem_map.1 hx
  exact near_lt _
end Mn
set_option maxHeartbeats 1000000 in
theorem long_mean.length (x y : Int) (w : World) : Calls Try.prog 46 #[.agg #[.int .i64 x, .int .i64 y]] w fun e w' => e = .returned (.float .f64 (FloatKind.f64.nearest (Mn.wl x y))) ∧ Below w.heap.size w w' := by
  go_enter Try.func46, Try.ntmps46
  go_wp2
  go_ret
  exact ⟨rfl, by go_grown⟩
end Go.Proofs.Ytnfjdjfajkdiiaa

