/- The contract of the reference's Mul: a product that fits is told, one that does not is refused. -/
import Derived.Test.YtafnnnbefabofaaDoorNumG
set_option linter.unusedVariables false
set_option linter.unusedSimpArgs false
namespace Go.Proofs.YtafnnnbefabofaaDoor
open Go.RowKit

namespace Nm
theorem tdiv_bd {p b : Int} (h0 : -9223372036854775808 ≤ p) (h1 : p ≤ 9223372036854775807) : -9223372036854775808 ≤ p.tdiv b ∧ p.tdiv b ≤ 9223372036854775808 ∧ (2 ≤ b.natAbs → p.tdiv b ≤ 9223372036854775807) := by
  have e : (p.tdiv b).natAbs = p.natAbs / b.natAbs := Int.natAbs_tdiv p b
  have h2 : p.natAbs / b.natAbs ≤ p.natAbs := Nat.div_le_self _ _
  refine ⟨by omega, by omega, fun hb => ?_⟩
  have h3 : p.natAbs / b.natAbs ≤ p.natAbs / 2 := Nat.div_le_div_left hb (by omega)
  omega
theorem tmod_bd {p b : Int} (hb : b ≠ 0) : (p.tmod b).natAbs < b.natAbs := by
  rw [Int.natAbs_tmod]
  exact Nat.mod_lt _ (by omega)
theorem wrap64_k (m : Int) : ∃ k, m = wrap64 m + k * 18446744073709551616 ∧ -9223372036854775808 ≤ wrap64 m ∧ wrap64 m ≤ 9223372036854775807 := by
  refine ⟨(m + 9223372036854775808) / 18446744073709551616, ?_, ?_, ?_⟩ <;> (unfold wrap64; omega)
theorem wrap_in {n : Int} (h0 : -9223372036854775808 ≤ n) (h1 : n ≤ 9223372036854775807) : wrap64 n = n := by unfold wrap64; omega
theorem iwrap (n : Int) : IntKind.i64.wrap n = wrap64 n := by rw [IntKind.wrap_i64]; unfold wrap64; omega
theorem mul_yes {a b : Int} (hb : b ≠ 0) (a0 : -9223372036854775808 ≤ a) (a1 : a ≤ 9223372036854775807) (h : fits (a * b) = true) : wrap64 (a * b) = a * b ∧ IntKind.i64.wrap ((a * b).tdiv b) = a := by
  obtain ⟨f0, f1⟩ := fits_true.1 h
  refine ⟨wrap_in f0 f1, ?_⟩
  rw [Int.mul_tdiv_cancel _ hb, iwrap, wrap_in a0 a1]
theorem mul_no {a b : Int} (hb : b ≠ 0) (a0 : -9223372036854775808 ≤ a) (a1 : a ≤ 9223372036854775807) (b0 : -9223372036854775808 ≤ b) (b1 : b ≤ 9223372036854775807) (hx : ¬ (a = -9223372036854775808 ∧ b = -1)) (h : fits (a * b) = false) : IntKind.i64.wrap ((wrap64 (a * b)).tdiv b) ≠ a := by
  intro e
  have hf : ¬ (-9223372036854775808 ≤ a * b ∧ a * b ≤ 9223372036854775807) := by
    intro hh; rw [fits_true.2 hh] at h; exact absurd h (by decide)
  obtain ⟨k, hk, p0, p1⟩ := wrap64_k (a * b)
  generalize wrap64 (a * b) = p at *
  obtain ⟨t0, t1, t2⟩ := tdiv_bd (b := b) p0 p1
  have h2 : 2 ≤ b.natAbs := by
    by_cases h1 : b = 1
    · subst h1; rw [Int.mul_one] at hf; omega
    · by_cases h1 : b = -1
      · subst h1; rw [Int.mul_neg, Int.mul_one] at hf; omega
      · omega
  have t2 := t2 h2
  rw [iwrap, wrap_in t0 t2] at e
  have hm := tmod_bd (p := p) hb
  have hd := Int.mul_tdiv_add_tmod p b
  rw [e, Int.mul_comm b a] at hd
  omega
end Nm
theorem rmul_0 (a b : Int) (w : World) (h : a = 0 ∨ b = 0) :
    Calls Tryd.prog 28 #[.int .i64 a, .int .i64 b] w fun e w' => e = .returned (.tuple #[.int .i64 0, .int .i64 0]) ∧ Below w.heap.size w w' := by
  by_cases ha : a = 0
  · subst ha
    clear h
    go_enter Tryd.func28, Tryd.ntmps28
    go_wp2_with fail
    go_ret2
    exact ⟨rfl, Below.refl _ _⟩
  · have hb : b = 0 := by omega
    subst hb
    clear h
    have g : (a == 0) = false := by simpa using ha
    clear ha
    go_enter Tryd.func28, Tryd.ntmps28
    go_wp2_with fail
    go_ret2
    exact ⟨rfl, Below.refl _ _⟩
theorem rmul_l (w : World) :
    Calls Tryd.prog 28 #[.int .i64 (-9223372036854775808), .int .i64 (-1)] w fun e w' => e = .returned (.tuple #[.int .i64 0, .int .i64 1]) ∧ Below w.heap.size w w' := by
  go_enter Tryd.func28, Tryd.ntmps28
  go_wp2_with fail
  go_ret2
  exact ⟨rfl, Below.refl _ _⟩
theorem rmul_r (w : World) :
    Calls Tryd.prog 28 #[.int .i64 (-1), .int .i64 (-9223372036854775808)] w fun e w' => e = .returned (.tuple #[.int .i64 0, .int .i64 1]) ∧ Below w.heap.size w w' := by
  go_enter Tryd.func28, Tryd.ntmps28
  go_wp2_with fail
  go_ret2
  exact ⟨rfl, Below.refl _ _⟩
set_option maxHeartbeats 1000000 in
theorem rmul_yes (a b p : Int) (w : World) (ga : (a == 0) = false) (gb : (b == 0) = false) (hb0 : b ≠ 0) (hl : (a == -1) = false ∨ ((a == -1) = true ∧ (b == -9223372036854775808) = false)) (hr : (b == -1) = false ∨ ((b == -1) = true ∧ (a == -9223372036854775808) = false))
    (hp : wrap64 (a * b) = p) (hq : IntKind.i64.wrap (p.tdiv b) = a) :
    Calls Tryd.prog 28 #[.int .i64 a, .int .i64 b] w fun e w' => e = .returned (.tuple #[.int .i64 p, .int .i64 0]) ∧ Below w.heap.size w w' := by
  rcases hl with l1 | ⟨l1, l2⟩
  · rcases hr with r1 | ⟨r1, r2⟩
    · go_enter Tryd.func28, Tryd.ntmps28
      go_wp2_with fail
      go_ret2
      exact ⟨by rw [← hp]; rfl, Below.refl _ _⟩
    · go_enter Tryd.func28, Tryd.ntmps28
      go_wp2_with fail
      go_ret2
      exact ⟨by rw [← hp]; rfl, Below.refl _ _⟩
  · rcases hr with r1 | ⟨r1, r2⟩
    · go_enter Tryd.func28, Tryd.ntmps28
      go_wp2_with fail
      go_ret2
      exact ⟨by rw [← hp]; rfl, Below.refl _ _⟩
    · go_enter Tryd.func28, Tryd.ntmps28
      go_wp2_with fail
      go_ret2
      exact ⟨by rw [← hp]; rfl, Below.refl _ _⟩
set_option maxHeartbeats 1000000 in
theorem rmul_no (a b p q : Int) (w : World) (ga : (a == 0) = false) (gb : (b == 0) = false) (hb0 : b ≠ 0) (hl : (a == -1) = false ∨ ((a == -1) = true ∧ (b == -9223372036854775808) = false)) (hr : (b == -1) = false ∨ ((b == -1) = true ∧ (a == -9223372036854775808) = false))
    (hp : wrap64 (a * b) = p) (hq : IntKind.i64.wrap (p.tdiv b) = q) (hne : (q == a) = false) (hne2 : (q != a) = true) (hne3 : q ≠ a) :
    Calls Tryd.prog 28 #[.int .i64 a, .int .i64 b] w fun e w' => e = .returned (.tuple #[.int .i64 0, .int .i64 1]) ∧ Below w.heap.size w w' := by
  rcases hl with l1 | ⟨l1, l2⟩
  · rcases hr with r1 | ⟨r1, r2⟩
    · go_enter Tryd.func28, Tryd.ntmps28
      go_wp2_with fail
      go_ret2
      exact ⟨rfl, Below.refl _ _⟩
    · go_enter Tryd.func28, Tryd.ntmps28
      go_wp2_with fail
      go_ret2
      exact ⟨rfl, Below.refl _ _⟩
  · rcases hr with r1 | ⟨r1, r2⟩
    · go_enter Tryd.func28, Tryd.ntmps28
      go_wp2_with fail
      go_ret2
      exact ⟨rfl, Below.refl _ _⟩
    · go_enter Tryd.func28, Tryd.ntmps28
      go_wp2_with fail
      go_ret2
      exact ⟨rfl, Below.refl _ _⟩
theorem rmul_any (a b : Int) (w : World) (a0 : -9223372036854775808 ≤ a) (a1 : a ≤ 9223372036854775807) (b0 : -9223372036854775808 ≤ b) (b1 : b ≤ 9223372036854775807) :
    Calls Tryd.prog 28 #[.int .i64 a, .int .i64 b] w fun e w' => e = .returned (.tuple #[.int .i64 (Nm.okv (a * b)), .int .i64 (Nm.okw (a * b))]) ∧ Below w.heap.size w w' := by
  by_cases hz : a = 0 ∨ b = 0
  · have e : a * b = 0 := by rcases hz with rfl | rfl <;> simp
    rw [e]
    exact rmul_0 a b w hz
  have ha : a ≠ 0 := fun h => hz (.inl h)
  have hb : b ≠ 0 := fun h => hz (.inr h)
  by_cases hl : a = -9223372036854775808 ∧ b = -1
  · obtain ⟨rfl, rfl⟩ := hl
    exact rmul_l w
  by_cases hr : a = -1 ∧ b = -9223372036854775808
  · obtain ⟨rfl, rfl⟩ := hr
    exact rmul_r w
  have ga : (a == 0) = false := by simpa using ha
  have gb : (b == 0) = false := by simpa using hb
  have h1 : (a == -1) = false ∨ ((a == -1) = true ∧ (b == -9223372036854775808) = false) := by
    by_cases h : a = -1
    · exact .inr ⟨by simpa using h, by simp only [beq_eq_false_iff_ne, ne_eq]; exact fun h2 => hr ⟨h, h2⟩⟩
    · exact .inl (by simpa using h)
  have h2 : (b == -1) = false ∨ ((b == -1) = true ∧ (a == -9223372036854775808) = false) := by
    by_cases h : b = -1
    · exact .inr ⟨by simpa using h, by simp only [beq_eq_false_iff_ne, ne_eq]; exact fun h2 => hl ⟨h2, h⟩⟩
    · exact .inl (by simpa using h)
  cases hf : Nm.fits (a * b)
  · have hn := Nm.mul_no hb a0 a1 b0 b1 hl hf
    have e1 : Nm.okv (a * b) = 0 := by unfold Nm.okv; rw [hf]; rfl
    have e2 : Nm.okw (a * b) = 1 := by unfold Nm.okw; rw [hf]; rfl
    rw [e1, e2]
    exact rmul_no a b _ _ w ga gb hb h1 h2 rfl rfl (by simpa using hn) (by simpa using hn) hn
  · obtain ⟨y1, y2⟩ := Nm.mul_yes hb a0 a1 hf
    have e1 : Nm.okv (a * b) = a * b := by unfold Nm.okv; rw [hf]; rfl
    have e2 : Nm.okw (a * b) = 0 := by unfold Nm.okw; rw [hf]; rfl
    rw [e1, e2]
    exact rmul_yes a b _ w ga gb hb h1 h2 y1 y2
end Go.Proofs.YtafnnnbefabofaaDoor

