/- A date in a block of its own, through calls. -/
import Derived.Test.YtjnhaabbnbcaeaaBase
set_option linter.unusedVariables false
set_option linter.unusedSimpArgs false
namespace Go.Proofs.Ytjnhaabbnbcaeaa
open Go.RowKit

/-- A date lies in the block b; nothing old has turned. -/
structure One (w W : World) (b : Nat) (v0 v1 v2 : Value) : Prop where
  bel : Below w.heap.size w W
  hb : b < W.heap.size
  k0 : W.cell? ⟨b, 0, none⟩ = some v0
  k1 : W.cell? ⟨b, 1, none⟩ = some v1
  k2 : W.cell? ⟨b, 2, none⟩ = some v2
theorem One.keep {w W W' : World} {b : Nat} {v0 v1 v2 : Value} (h : One w W b v0 v1 v2) (k : Below W.heap.size W W') : One w W' b v0 v1 v2 := by
  obtain ⟨hw, hb, h0, h1, h2⟩ := h
  have z := k.size
  refine ⟨below_step hw k, by omega, ?_, ?_, ?_⟩ <;> (rw [k.cell (p := ⟨b, _, none⟩) (by show b < _; omega)]; assumption)
theorem One.alloc {w W : World} {b : Nat} {v0 v1 v2 : Value} (h : One w W b v0 v1 v2) (o : Obj) : One w (W.alloc o) b v0 v1 v2 :=
  h.keep ((Below.refl _ _).alloc (Nat.le_refl _) _)
theorem One.draw {w W : World} {b : Nat} {v0 v1 v2 : Value} (h : One w W b v0 v1 v2) (n : Nat) : One w (W.drewN n) b v0 v1 v2 :=
  h.keep (below_draw _ _)
theorem One.new {w W : World} {v0 v1 v2 : Value} {t : TypeId} (h : Below w.heap.size w W) : One w (W.alloc (.cells #[v0, v1, v2] t)) W.heap.size v0 v1 v2 :=
  ⟨below_step h ((Below.refl _ _).alloc (Nat.le_refl _) _), by simp, by simp [go_sem], by simp [go_sem], by simp [go_sem]⟩
theorem one_keep {w : World} {b : Nat} {W W' : World} {v0 v1 v2 : Value} (hb : Below W.heap.size W W')
    (h : Below w.heap.size w W ∧ b < W.heap.size ∧ W.cell? ⟨b, 0, none⟩ = some v0 ∧ W.cell? ⟨b, 1, none⟩ = some v1 ∧ W.cell? ⟨b, 2, none⟩ = some v2) :
    Below w.heap.size w W' ∧ b < W'.heap.size ∧ W'.cell? ⟨b, 0, none⟩ = some v0 ∧ W'.cell? ⟨b, 1, none⟩ = some v1 ∧ W'.cell? ⟨b, 2, none⟩ = some v2 := by
  obtain ⟨a1, a2, a3, a4, a5⟩ := h
  obtain ⟨b1, b2, b3, b4, b5⟩ := One.keep ⟨a1, a2, a3, a4, a5⟩ hb
  exact ⟨b1, b2, b3, b4, b5⟩
/-- Two dates lie in the blocks b and c; nothing old has turned. -/
structure Two2 (w W : World) (b c : Nat) (v0 v1 v2 u0 u1 u2 : Value) : Prop where
  bel : Below w.heap.size w W
  hb : b < W.heap.size
  hc : c < W.heap.size
  k0 : W.cell? ⟨b, 0, none⟩ = some v0
  k1 : W.cell? ⟨b, 1, none⟩ = some v1
  k2 : W.cell? ⟨b, 2, none⟩ = some v2
  g0 : W.cell? ⟨c, 0, none⟩ = some u0
  g1 : W.cell? ⟨c, 1, none⟩ = some u1
  g2 : W.cell? ⟨c, 2, none⟩ = some u2
theorem Two2.keep {w W W' : World} {b c : Nat} {v0 v1 v2 u0 u1 u2 : Value} (h : Two2 w W b c v0 v1 v2 u0 u1 u2) (k : Below W.heap.size W W') : Two2 w W' b c v0 v1 v2 u0 u1 u2 := by
  obtain ⟨hw, hb, hc, h0, h1, h2, g0, g1, g2⟩ := h
  have z := k.size
  refine ⟨below_step hw k, by omega, by omega, ?_, ?_, ?_, ?_, ?_, ?_⟩ <;> (first | rw [k.cell (p := ⟨b, _, none⟩) (by show b < _; omega)]; assumption | rw [k.cell (p := ⟨c, _, none⟩) (by show c < _; omega)]; assumption)
theorem four_keep {w : World} {b c p q : Nat} {W W' : World} {v0 v1 v2 u0 u1 u2 x0 x1 x2 z0 z1 z2 : Value} (k : Below W.heap.size W W')
    (h : Below w.heap.size w W ∧ b < W.heap.size ∧ c < W.heap.size ∧ p < W.heap.size ∧ q < W.heap.size ∧ W.cell? ⟨b, 0, none⟩ = some v0 ∧ W.cell? ⟨b, 1, none⟩ = some v1 ∧ W.cell? ⟨b, 2, none⟩ = some v2 ∧ W.cell? ⟨c, 0, none⟩ = some u0 ∧ W.cell? ⟨c, 1, none⟩ = some u1 ∧ W.cell? ⟨c, 2, none⟩ = some u2 ∧ W.cell? ⟨p, 0, none⟩ = some x0 ∧ W.cell? ⟨p, 1, none⟩ = some x1 ∧ W.cell? ⟨p, 2, none⟩ = some x2 ∧ W.cell? ⟨q, 0, none⟩ = some z0 ∧ W.cell? ⟨q, 1, none⟩ = some z1 ∧ W.cell? ⟨q, 2, none⟩ = some z2) :
    Below w.heap.size w W' ∧ b < W'.heap.size ∧ c < W'.heap.size ∧ p < W'.heap.size ∧ q < W'.heap.size ∧ W'.cell? ⟨b, 0, none⟩ = some v0 ∧ W'.cell? ⟨b, 1, none⟩ = some v1 ∧ W'.cell? ⟨b, 2, none⟩ = some v2 ∧ W'.cell? ⟨c, 0, none⟩ = some u0 ∧ W'.cell? ⟨c, 1, none⟩ = some u1 ∧ W'.cell? ⟨c, 2, none⟩ = some u2 ∧ W'.cell? ⟨p, 0, none⟩ = some x0 ∧ W'.cell? ⟨p, 1, none⟩ = some x1 ∧ W'.cell? ⟨p, 2, none⟩ = some x2 ∧ W'.cell? ⟨q, 0, none⟩ = some z0 ∧ W'.cell? ⟨q, 1, none⟩ = some z1 ∧ W'.cell? ⟨q, 2, none⟩ = some z2 := by
  obtain ⟨hw, hb, hc, hp, hq, h0, h1, h2, g0, g1, g2, p0, p1, p2, q0, q1, q2⟩ := h
  have z := k.size
  refine ⟨below_step hw k, by omega, by omega, by omega, by omega, ?_, ?_, ?_, ?_, ?_, ?_, ?_, ?_, ?_, ?_, ?_, ?_⟩ <;> (first | rw [k.cell (p := ⟨b, _, none⟩) (by show b < _; omega)]; assumption | rw [k.cell (p := ⟨c, _, none⟩) (by show c < _; omega)]; assumption | rw [k.cell (p := ⟨p, _, none⟩) (by show p < _; omega)]; assumption | rw [k.cell (p := ⟨q, _, none⟩) (by show q < _; omega)]; assumption)
theorem four_drew {w : World} {b c p q : Nat} {W : World} {v0 v1 v2 u0 u1 u2 x0 x1 x2 z0 z1 z2 : Value}
    (h : Below w.heap.size w W ∧ b < W.heap.size ∧ c < W.heap.size ∧ p < W.heap.size ∧ q < W.heap.size ∧ W.cell? ⟨b, 0, none⟩ = some v0 ∧ W.cell? ⟨b, 1, none⟩ = some v1 ∧ W.cell? ⟨b, 2, none⟩ = some v2 ∧ W.cell? ⟨c, 0, none⟩ = some u0 ∧ W.cell? ⟨c, 1, none⟩ = some u1 ∧ W.cell? ⟨c, 2, none⟩ = some u2 ∧ W.cell? ⟨p, 0, none⟩ = some x0 ∧ W.cell? ⟨p, 1, none⟩ = some x1 ∧ W.cell? ⟨p, 2, none⟩ = some x2 ∧ W.cell? ⟨q, 0, none⟩ = some z0 ∧ W.cell? ⟨q, 1, none⟩ = some z1 ∧ W.cell? ⟨q, 2, none⟩ = some z2) :
    Below w.heap.size w W.drew ∧ b < W.drew.heap.size ∧ c < W.drew.heap.size ∧ p < W.drew.heap.size ∧ q < W.drew.heap.size ∧ W.drew.cell? ⟨b, 0, none⟩ = some v0 ∧ W.drew.cell? ⟨b, 1, none⟩ = some v1 ∧ W.drew.cell? ⟨b, 2, none⟩ = some v2 ∧ W.drew.cell? ⟨c, 0, none⟩ = some u0 ∧ W.drew.cell? ⟨c, 1, none⟩ = some u1 ∧ W.drew.cell? ⟨c, 2, none⟩ = some u2 ∧ W.drew.cell? ⟨p, 0, none⟩ = some x0 ∧ W.drew.cell? ⟨p, 1, none⟩ = some x1 ∧ W.drew.cell? ⟨p, 2, none⟩ = some x2 ∧ W.drew.cell? ⟨q, 0, none⟩ = some z0 ∧ W.drew.cell? ⟨q, 1, none⟩ = some z1 ∧ W.drew.cell? ⟨q, 2, none⟩ = some z2 := ⟨h.1.drew, h.2⟩
end Go.Proofs.Ytjnhaabbnbcaeaa
