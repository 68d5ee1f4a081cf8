/- Whole numbers as numbers with a floating point: their values, and their sums, are exact. -/
import Derived.Test.YtnfjdjfajkdiiaaFlW0
import Derived.Test.YtnfjdjfajkdiiaaSum
set_option linter.unusedVariables false
set_option linter.unusedSimpArgs false
namespace Go.Proofs.Ytnfjdjfajkdiiaa
open Go.RowKit Go.Sort

namespace Fl
open Ieee
/-- A whole number's word has the number's value. -/
theorem near_whole {n : Int} (h0 : -9007199254740992 ≤ n) (h1 : n ≤ 9007199254740992) : fin (FloatKind.f64.nearest n) ∧ V (FloatKind.f64.nearest n) = n * (U : Int) ∧ FloatKind.f64.nearest n < 18446744073709551616 := by
  obtain ⟨r, hr, ri, rv⟩ := int_exact n h0 h1
  rw [hr]
  refine ⟨fin_wd ri, ?_, wd_lt (rung_small ri)⟩
  rw [V_wd (rung_small ri), rv]
  by_cases hn : n < 0
  · rw [decide_eq_true hn, if_pos rfl]
    exact (sg_mul n U).1 hn
  · rw [decide_eq_false hn, if_neg (by decide)]
    exact (sg_mul n U).2 hn
/-- The sum of two words with whole values. -/
theorem add_whole {x y : Nat} {s t : Int} (hx : fin x) (hy : fin y) (vx : V x = s * (U : Int)) (vy : V y = t * (U : Int)) (h0 : -9007199254740992 ≤ s + t) (h1 : s + t ≤ 9007199254740992) :
    ∃ r, floatBits .add .f64 x y = some r ∧ fin r ∧ V r = (s + t) * (U : Int) := by
  obtain ⟨R, hR, hn⟩ := add_near hx hy
  have hW : V x + V y = (s + t) * (U : Int) := by rw [vx, vy, Int.add_mul]
  rw [hW] at hR hn
  obtain ⟨z, hz⟩ := rep ue (s + t).natAbs (by omega)
  have hz2 : val z = (s + t).natAbs * U := hz
  have hz' : val z = ((s + t) * (U : Int)).natAbs := by rw [hz2, Int.natAbs_mul, Int.natAbs_natCast]
  have hi := lt_inf hz2 (by omega)
  generalize (s + t) * (U : Int) = W at hR hn hz' ⊢
  obtain ⟨e1, e2, e3⟩ := sum_exact (sg := if W = 0 then ng x && ng y else decide (W < 0)) hn (by
    by_cases h : W = 0
    · exact .inl h
    · right; rw [if_neg h]) hz' hi
  refine ⟨_, ?_, e2, e3⟩
  show double.add x y = some _
  rw [hR, e1]
theorem fold_whole : ∀ (xs : List Int) (x0 : Nat) (s B : Int), fin x0 → V x0 = s * (U : Int) → -B ≤ s ∧ s ≤ B → (∀ x ∈ xs, -1099511627776 ≤ x ∧ x ≤ 1099511627776) → B + xs.length * 1099511627776 ≤ 9007199254740992 →
    fin ((xs.map FloatKind.f64.nearest).foldl (fun s y => cop .add s y) x0) ∧ V ((xs.map FloatKind.f64.nearest).foldl (fun s y => cop .add s y) x0) = (s + xs.sum) * (U : Int) := by
  intro xs
  induction xs with
  | nil =>
    intro x0 s B hf hv _ _ _
    refine ⟨hf, ?_⟩
    show V x0 = (s + 0) * (U : Int)
    rw [Int.add_zero]; exact hv
  | cons x xs ih =>
    intro x0 s B hf hv hs hx hB
    have hx0 := hx x (List.mem_cons_self ..)
    have hl : ((x :: xs).length : Int) = (xs.length : Int) + 1 := by simp
    rw [hl] at hB
    have hl0 : (0 : Int) ≤ (xs.length : Int) := by omega
    obtain ⟨f, v, -⟩ := near_whole (n := x) (by omega) (by omega)
    obtain ⟨r, e, fr, vr⟩ := add_whole hf f hv v (by omega) (by omega)
    have ec : cop .add x0 (FloatKind.f64.nearest x) = r := by unfold cop; rw [e]; rfl
    have := ih r (s + x) (B + 1099511627776) fr vr ⟨by omega, by omega⟩ (fun y hy => hx y (List.mem_cons_of_mem _ hy)) (by omega)
    rw [List.map_cons, List.foldl_cons, ec, List.sum_cons, ← Int.add_assoc]
    exact this
theorem csum_whole (xs : List Int) (hx : ∀ x ∈ xs, -1099511627776 ≤ x ∧ x ≤ 1099511627776) (hl : xs.length ≤ 100) : fin (csum (xs.map FloatKind.f64.nearest)) ∧ V (csum (xs.map FloatKind.f64.nearest)) = xs.sum * (U : Int) := by
  cases xs with
  | nil =>
    refine ⟨by show fin 0; unfold fin; decide, ?_⟩
    show V 0 = 0 * (U : Int)
    rw [Int.zero_mul]; decide +kernel
  | cons x xs =>
    have hx0 := hx x (List.mem_cons_self ..)
    have hl' : xs.length + 1 ≤ 100 := hl
    obtain ⟨f, v, -⟩ := near_whole (n := x) (by omega) (by omega)
    have := fold_whole xs _ x 1099511627776 f v ⟨by omega, by omega⟩ (fun y hy => hx y (List.mem_cons_of_mem _ hy)) (by omega)
    rw [List.sum_cons]
    exact this
theorem sum_bd : ∀ (xs : List Int), (∀ x ∈ xs, -1099511627776 ≤ x ∧ x ≤ 1099511627776) → -(xs.length * 1099511627776 : Int) ≤ xs.sum ∧ xs.sum ≤ xs.length * 1099511627776 := by
  intro xs
  induction xs with
  | nil => intro _; simp
  | cons x xs ih =>
    intro h
    have hx0 := h x (List.mem_cons_self ..)
    have := ih fun y hy => h y (List.mem_cons_of_mem _ hy)
    rw [List.sum_cons]
    have hl : ((x :: xs).length : Int) = (xs.length : Int) + 1 := by simp
    rw [hl]
    omega
end Fl
end Go.Proofs.Ytnfjdjfajkdiiaa
