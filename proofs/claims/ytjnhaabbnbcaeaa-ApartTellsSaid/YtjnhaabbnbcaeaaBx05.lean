/- Joined: One, DrAo, DrA, ClR0. -/
import Derived.Test.YtjnhaabbnbcaeaaBx01
import Derived.Test.YtjnhaabbnbcaeaaBx04
/- A date in a block of its own, through calls. -/
set_option linter.unusedVariables false
set_option linter.unusedSimpArgs false
namespace Go.Proofs.Ytjnhaabbnbcaeaa
open Go.RowKit

/-- A date lies in the block b; nothing old has turned. -/
structure One (w W : World) (b : Nat) (v0 v1 v2 : Value) : Prop where
  bel : Below w.heap.size w W
  hb : b < W.heap.size
  k0 : W.cell? ⟨b, 0, none⟩ = some v0
  k1 : W.cell? ⟨b, 1, none⟩ = some v1
  k2 : W.cell? ⟨b, 2, none⟩ = some v2
theorem One.keep {w W W' : World} {b : Nat} {v0 v1 v2 : Value} (h : One w W b v0 v1 v2) (k : Below W.heap.size W W') : One w W' b v0 v1 v2 := by
  obtain ⟨hw, hb, h0, h1, h2⟩ := h
  have z := k.size
  refine ⟨below_step hw k, by omega, ?_, ?_, ?_⟩ <;> (rw [k.cell (p := ⟨b, _, none⟩) (by show b < _; omega)]; assumption)
theorem One.alloc {w W : World} {b : Nat} {v0 v1 v2 : Value} (h : One w W b v0 v1 v2) (o : Obj) : One w (W.alloc o) b v0 v1 v2 :=
  h.keep ((Below.refl _ _).alloc (Nat.le_refl _) _)
theorem One.draw {w W : World} {b : Nat} {v0 v1 v2 : Value} (h : One w W b v0 v1 v2) (n : Nat) : One w (W.drewN n) b v0 v1 v2 :=
  h.keep (below_draw _ _)
theorem One.new {w W : World} {v0 v1 v2 : Value} {t : TypeId} (h : Below w.heap.size w W) : One w (W.alloc (.cells #[v0, v1, v2] t)) W.heap.size v0 v1 v2 :=
  ⟨below_step h ((Below.refl _ _).alloc (Nat.le_refl _) _), by simp, by simp [go_sem], by simp [go_sem], by simp [go_sem]⟩
theorem one_keep {w : World} {b : Nat} {W W' : World} {v0 v1 v2 : Value} (hb : Below W.heap.size W W')
    (h : Below w.heap.size w W ∧ b < W.heap.size ∧ W.cell? ⟨b, 0, none⟩ = some v0 ∧ W.cell? ⟨b, 1, none⟩ = some v1 ∧ W.cell? ⟨b, 2, none⟩ = some v2) :
    Below w.heap.size w W' ∧ b < W'.heap.size ∧ W'.cell? ⟨b, 0, none⟩ = some v0 ∧ W'.cell? ⟨b, 1, none⟩ = some v1 ∧ W'.cell? ⟨b, 2, none⟩ = some v2 := by
  obtain ⟨a1, a2, a3, a4, a5⟩ := h
  obtain ⟨b1, b2, b3, b4, b5⟩ := One.keep ⟨a1, a2, a3, a4, a5⟩ hb
  exact ⟨b1, b2, b3, b4, b5⟩
/-- Two dates lie in the blocks b and c; nothing old has turned. -/
structure Two2 (w W : World) (b c : Nat) (v0 v1 v2 u0 u1 u2 : Value) : Prop where
  bel : Below w.heap.size w W
  hb : b < W.heap.size
  hc : c < W.heap.size
  k0 : W.cell? ⟨b, 0, none⟩ = some v0
  k1 : W.cell? ⟨b, 1, none⟩ = some v1
  k2 : W.cell? ⟨b, 2, none⟩ = some v2
  g0 : W.cell? ⟨c, 0, none⟩ = some u0
  g1 : W.cell? ⟨c, 1, none⟩ = some u1
  g2 : W.cell? ⟨c, 2, none⟩ = some u2
theorem Two2.keep {w W W' : World} {b c : Nat} {v0 v1 v2 u0 u1 u2 : Value} (h : Two2 w W b c v0 v1 v2 u0 u1 u2) (k : Below W.heap.size W W') : Two2 w W' b c v0 v1 v2 u0 u1 u2 := by
  obtain ⟨hw, hb, hc, h0, h1, h2, g0, g1, g2⟩ := h
  have z := k.size
  refine ⟨below_step hw k, by omega, by omega, ?_, ?_, ?_, ?_, ?_, ?_⟩ <;> (first | rw [k.cell (p := ⟨b, _, none⟩) (by show b < _; omega)]; assumption | rw [k.cell (p := ⟨c, _, none⟩) (by show c < _; omega)]; assumption)
theorem four_keep {w : World} {b c p q : Nat} {W W' : World} {v0 v1 v2 u0 u1 u2 x0 x1 x2 z0 z1 z2 : Value} (k : Below W.heap.size W W')
    (h : Below w.heap.size w W ∧ b < W.heap.size ∧ c < W.heap.size ∧ p < W.heap.size ∧ q < W.heap.size ∧ W.cell? ⟨b, 0, none⟩ = some v0 ∧ W.cell? ⟨b, 1, none⟩ = some v1 ∧ W.cell? ⟨b, 2, none⟩ = some v2 ∧ W.cell? ⟨c, 0, none⟩ = some u0 ∧ W.cell? ⟨c, 1, none⟩ = some u1 ∧ W.cell? ⟨c, 2, none⟩ = some u2 ∧ W.cell? ⟨p, 0, none⟩ = some x0 ∧ W.cell? ⟨p, 1, none⟩ = some x1 ∧ W.cell? ⟨p, 2, none⟩ = some x2 ∧ W.cell? ⟨q, 0, none⟩ = some z0 ∧ W.cell? ⟨q, 1, none⟩ = some z1 ∧ W.cell? ⟨q, 2, none⟩ = some z2) :
    Below w.heap.size w W' ∧ b < W'.heap.size ∧ c < W'.heap.size ∧ p < W'.heap.size ∧ q < W'.heap.size ∧ W'.cell? ⟨b, 0, none⟩ = some v0 ∧ W'.cell? ⟨b, 1, none⟩ = some v1 ∧ W'.cell? ⟨b, 2, none⟩ = some v2 ∧ W'.cell? ⟨c, 0, none⟩ = some u0 ∧ W'.cell? ⟨c, 1, none⟩ = some u1 ∧ W'.cell? ⟨c, 2, none⟩ = some u2 ∧ W'.cell? ⟨p, 0, none⟩ = some x0 ∧ W'.cell? ⟨p, 1, none⟩ = some x1 ∧ W'.cell? ⟨p, 2, none⟩ = some x2 ∧ W'.cell? ⟨q, 0, none⟩ = some z0 ∧ W'.cell? ⟨q, 1, none⟩ = some z1 ∧ W'.cell? ⟨q, 2, none⟩ = some z2 := by
  obtain ⟨hw, hb, hc, hp, hq, h0, h1, h2, g0, g1, g2, p0, p1, p2, q0, q1, q2⟩ := h
  have z := k.size
  refine ⟨below_step hw k, by omega, by omega, by omega, by omega, ?_, ?_, ?_, ?_, ?_, ?_, ?_, ?_, ?_, ?_, ?_, ?_⟩ <;> (first | rw [k.cell (p := ⟨b, _, none⟩) (by show b < _; omega)]; assumption | rw [k.cell (p := ⟨c, _, none⟩) (by show c < _; omega)]; assumption | rw [k.cell (p := ⟨p, _, none⟩) (by show p < _; omega)]; assumption | rw [k.cell (p := ⟨q, _, none⟩) (by show q < _; omega)]; assumption)
theorem four_drew {w : World} {b c p q : Nat} {W : World} {v0 v1 v2 u0 u1 u2 x0 x1 x2 z0 z1 z2 : Value}
    (h : Below w.heap.size w W ∧ b < W.heap.size ∧ c < W.heap.size ∧ p < W.heap.size ∧ q < W.heap.size ∧ W.cell? ⟨b, 0, none⟩ = some v0 ∧ W.cell? ⟨b, 1, none⟩ = some v1 ∧ W.cell? ⟨b, 2, none⟩ = some v2 ∧ W.cell? ⟨c, 0, none⟩ = some u0 ∧ W.cell? ⟨c, 1, none⟩ = some u1 ∧ W.cell? ⟨c, 2, none⟩ = some u2 ∧ W.cell? ⟨p, 0, none⟩ = some x0 ∧ W.cell? ⟨p, 1, none⟩ = some x1 ∧ W.cell? ⟨p, 2, none⟩ = some x2 ∧ W.cell? ⟨q, 0, none⟩ = some z0 ∧ W.cell? ⟨q, 1, none⟩ = some z1 ∧ W.cell? ⟨q, 2, none⟩ = some z2) :
    Below w.heap.size w W.drew ∧ b < W.drew.heap.size ∧ c < W.drew.heap.size ∧ p < W.drew.heap.size ∧ q < W.drew.heap.size ∧ W.drew.cell? ⟨b, 0, none⟩ = some v0 ∧ W.drew.cell? ⟨b, 1, none⟩ = some v1 ∧ W.drew.cell? ⟨b, 2, none⟩ = some v2 ∧ W.drew.cell? ⟨c, 0, none⟩ = some u0 ∧ W.drew.cell? ⟨c, 1, none⟩ = some u1 ∧ W.drew.cell? ⟨c, 2, none⟩ = some u2 ∧ W.drew.cell? ⟨p, 0, none⟩ = some x0 ∧ W.drew.cell? ⟨p, 1, none⟩ = some x1 ∧ W.drew.cell? ⟨p, 2, none⟩ = some x2 ∧ W.drew.cell? ⟨q, 0, none⟩ = some z0 ∧ W.drew.cell? ⟨q, 1, none⟩ = some z1 ∧ W.drew.cell? ⟨q, 2, none⟩ = some z2 := ⟨h.1.drew, h.2⟩
end Go.Proofs.Ytjnhaabbnbcaeaa

/- The contracts of dayrule's functions: isDay, isWeekday, Right. -/
set_option linter.unusedVariables false
set_option linter.unusedSimpArgs false
namespace Go.Proofs.Ytjnhaabbnbcaeaa
open Go.RowKit

theorem bool_br {p : Prop} [Decidable p] {b : Bool} (h : p ↔ b = true) : Ending.returned (.bool b) = .returned (.bool (decide p)) := by
  congr 2; rw [Bool.eq_iff_iff]; simp [h]

set_option maxHeartbeats 400000 in
theorem isDay_any (d : Int) (w : World) : Calls Try.prog 46 #[.int .i64 d] w fun e w' => e = .returned (.bool (Dr.dayB d)) ∧ w = w' := by
  unfold Dr.dayB
  by_cases h1 : 1 ≤ d
  · go_enter Try.func46, Try.ntmps46
    go_wp2
    go_ret
    refine ⟨?_, rfl⟩; exact bool_br (by simp [h1])
  · have hd : decide (1 ≤ d) = false := by simpa using h1
    go_enter Try.func46, Try.ntmps46
    go_wp2
    go_ret
    refine ⟨?_, rfl⟩
    rfl
set_option maxHeartbeats 400000 in
theorem isWeek_any (d : Int) (w : World) : Calls Try.prog 47 #[.int .i64 d] w fun e w' => e = .returned (.bool (Dr.wkB d)) ∧ w = w' := by
  unfold Dr.wkB
  by_cases h1 : 0 ≤ d
  · go_enter Try.func47, Try.ntmps47
    go_wp2
    go_ret
    refine ⟨?_, rfl⟩; exact bool_br (by simp [h1]; omega)
  · have hd : decide (0 ≤ d) = false := by simpa using h1
    go_enter Try.func47, Try.ntmps47
    go_wp2
    go_ret
    refine ⟨?_, rfl⟩
    rfl

theorem on_br {k w d : Int} {b : Bool} (h : (Dr.onR k w d = true) ↔ b = true) : Ending.returned (.bool b) = .returned (.bool (Dr.onR k w d)) := by
  congr 2; rw [Bool.eq_iff_iff, h]

set_option maxHeartbeats 1000000 in
theorem oright_any (k wk d : Int) (w : World) :
    Calls Try.prog 35 #[.agg #[.int .i64 k, .int .i64 wk, .int .i64 d]] w fun e w' => e = .returned (.bool (Dr.onR k wk d)) ∧ Below w.heap.size w w' := by
  by_cases h0 : k = 0
  · subst h0
    by_cases hw : wk = 0
    · subst hw
      go_enter Try.func35, Try.ntmps35
      go_wp2_with (first
        | (go_at_call 46; refine (isDay_any _ _).mono ?_; rintro e w1 ⟨rfl, rfl⟩)
        | (go_at_call 47; refine (isWeek_any _ _).mono ?_; rintro e w1 ⟨rfl, rfl⟩))
      go_ret
      refine ⟨?_, by go_grown⟩; exact on_br (by rw [Dr.onR_true]; simp [Dr.dayB])
    · have hw' : (wk == 0) = false := by simpa using hw
      go_enter Try.func35, Try.ntmps35
      go_wp2_with (first
        | (go_at_call 46; refine (isDay_any _ _).mono ?_; rintro e w1 ⟨rfl, rfl⟩)
        | (go_at_call 47; refine (isWeek_any _ _).mono ?_; rintro e w1 ⟨rfl, rfl⟩))
      go_ret
      refine ⟨?_, by go_grown⟩; exact on_br (by rw [Dr.onR_true]; simp [hw])
  · by_cases h1 : k = 1
    · subst h1
      clear h0
      cases hw : Dr.wkB wk
      · go_enter Try.func35, Try.ntmps35
        go_wp2_with (first
          | (go_at_call 46; refine (isDay_any _ _).mono ?_; rintro e w1 ⟨rfl, rfl⟩)
          | (go_at_call 47; refine (isWeek_any _ _).mono ?_; rintro e w1 ⟨rfl, rfl⟩))
        go_ret
        refine ⟨?_, by go_grown⟩; exact on_br (by rw [Dr.onR_true]; simp [Dr.wkB] at hw; simp; omega)
      · go_enter Try.func35, Try.ntmps35
        go_wp2_with (first
          | (go_at_call 46; refine (isDay_any _ _).mono ?_; rintro e w1 ⟨rfl, rfl⟩)
          | (go_at_call 47; refine (isWeek_any _ _).mono ?_; rintro e w1 ⟨rfl, rfl⟩))
        go_ret
        refine ⟨?_, by go_grown⟩; exact on_br (by rw [Dr.onR_true]; simp [Dr.wkB] at hw; simp; omega)
    · by_cases h2 : k = 2 ∨ k = 3
      · rcases h2 with rfl | rfl
        all_goals
          clear h0 h1
          cases hw : Dr.wkB wk
          · go_enter Try.func35, Try.ntmps35
            go_wp2_with (first
              | (go_at_call 46; refine (isDay_any _ _).mono ?_; rintro e w1 ⟨rfl, rfl⟩)
              | (go_at_call 47; refine (isWeek_any _ _).mono ?_; rintro e w1 ⟨rfl, rfl⟩))
            go_ret
            refine ⟨?_, by go_grown⟩; exact on_br (by rw [Dr.onR_true]; simp [Dr.wkB] at hw; simp; omega)
          · go_enter Try.func35, Try.ntmps35
            go_wp2_with (first
              | (go_at_call 46; refine (isDay_any _ _).mono ?_; rintro e w1 ⟨rfl, rfl⟩)
              | (go_at_call 47; refine (isWeek_any _ _).mono ?_; rintro e w1 ⟨rfl, rfl⟩))
            go_ret
            refine ⟨?_, by go_grown⟩; exact on_br (by rw [Dr.onR_true]; simp [Dr.wkB] at hw; simp [Dr.dayB]; omega)
      · have b0 : (k == 0) = false := by simpa using h0
        have b1 : (k == 1) = false := by simpa using h1
        have b2 : (k == 2) = false := by simp; omega
        have b3 : (k == 3) = false := by simp; omega
        go_enter Try.func35, Try.ntmps35
        go_wp2
        go_ret
        refine ⟨?_, by go_grown⟩; exact on_br (by rw [Dr.onR_true]; simp; omega)

end Go.Proofs.Ytjnhaabbnbcaeaa

/- The contracts of dayrule's functions: Fits, behind. -/
set_option linter.unusedVariables false
set_option linter.unusedSimpArgs false
namespace Go.Proofs.Ytjnhaabbnbcaeaa
open Go.RowKit

theorem fits_br {k wk d m : Int} {b : Bool} (h : (Dr.onF k wk d m = true) ↔ b = true) : Ending.returned (.bool b) = .returned (.bool (Dr.onF k wk d m)) := by
  congr 2; rw [Bool.eq_iff_iff, h]

set_option maxHeartbeats 1000000 in
theorem ofits_any (k wk d m : Int) (w : World) :
    Calls Try.prog 20 #[.agg #[.int .i64 k, .int .i64 wk, .int .i64 d], .int .i64 m] w fun e w' => e = .returned (.bool (Dr.onF k wk d m)) ∧ Below w.heap.size w w' := by
  have O0 := One.new (t := 23) (v0 := .int .i64 k) (v1 := .int .i64 wk) (v2 := .int .i64 d) (Below.refl w.heap.size w)
  have hlen : 0 < Cal.len 2001 m ↔ 1 ≤ m ∧ m ≤ 12 := by
    constructor
    · intro h
      unfold Cal.len at h; omega
    · intro h; have := (Dr.len_2001 2001 m h.1 h.2).2.2.1; omega
  have HL := Lib.hid hlen; clear hlen
  cases hr : Dr.onR k wk d
  · go_enter Try.func20, Try.ntmps20
    go_wp2_with fail
    refine (len_any _ _ _).mono ?_; rintro e w1 ⟨rfl, rfl⟩
    go_wp2_with fail
    refine (oright_any _ _ _ _).mono ?_; rintro e w1 ⟨rfl, b1⟩
    rw [hr]
    go_wp2_with fail
    go_ret
    refine ⟨?_, below_step O0.bel b1⟩
    exact fits_br (by rw [Dr.onF_true]; simp [hr])
  · go_enter Try.func20, Try.ntmps20
    go_wp2_with fail
    refine (len_any _ _ _).mono ?_; rintro e w1 ⟨rfl, rfl⟩
    go_wp2_with fail
    refine (oright_any _ _ _ _).mono ?_; rintro e w1 ⟨rfl, b1⟩
    rw [hr]
    have O1 := O0.keep b1
    have k2 := O1.k2
    by_cases hp : 0 < Cal.len 2001 m
    · go_wp2_with fail
      go_ret
      refine ⟨?_, O1.bel⟩
      exact fits_br (by rw [Dr.onF_true]; have := HL.out.1 hp; simp [hr]; omega)
    · have hp' : decide (0 < Cal.len 2001 m) = false := by simpa using hp
      go_wp2_with fail
      go_ret
      refine ⟨?_, O1.bel⟩
      exact fits_br (by rw [Dr.onF_true]; have := mt HL.out.2 (by omega); simp [hr]; omega)

end Go.Proofs.Ytjnhaabbnbcaeaa

/- Times of day: which may be. -/
set_option linter.unusedVariables false
set_option linter.unusedSimpArgs false
namespace Go.Proofs.Ytjnhaabbnbcaeaa
open Go.RowKit

namespace Cl
def rB (n b : Int) : Bool := decide (0 ≤ n) && (decide (n ≤ 172800) && (decide (0 ≤ b) && decide (b < 3)))
end Cl
set_option maxHeartbeats 4000000 in
set_option maxRecDepth 100000 in
theorem clright_0 (n b : Int) (w : World) (c1 : ¬ 0 ≤ n) : Calls Try.prog 21 #[.agg #[.int .i64 n, .int .i64 b]] w fun e w' => e = .returned (.bool false) ∧ Below w.heap.size w w' := by
  go_enter Try.func21, Try.ntmps21
  go_wp2_with fail
  go_ret
  exact ⟨rfl, (by repeat (first | exact Below.refl _ _ | refine below_drewN ?_ _ | refine Below.drew ?_ | refine Below.setCell ?_ (by first | (simp; done) | (simp; omega) | omega) _ | refine Below.alloc ?_ (by first | (simp; done) | (simp; omega) | omega) _))⟩
set_option maxHeartbeats 4000000 in
set_option maxRecDepth 100000 in
theorem clright_1 (n b : Int) (w : World) (c1 : 0 ≤ n) (c2 : ¬ n ≤ 172800) : Calls Try.prog 21 #[.agg #[.int .i64 n, .int .i64 b]] w fun e w' => e = .returned (.bool false) ∧ Below w.heap.size w w' := by
  go_enter Try.func21, Try.ntmps21
  go_wp2_with fail
  go_ret
  exact ⟨rfl, (by repeat (first | exact Below.refl _ _ | refine below_drewN ?_ _ | refine Below.drew ?_ | refine Below.setCell ?_ (by first | (simp; done) | (simp; omega) | omega) _ | refine Below.alloc ?_ (by first | (simp; done) | (simp; omega) | omega) _))⟩
set_option maxHeartbeats 4000000 in
set_option maxRecDepth 100000 in
theorem clright_2 (n b : Int) (w : World) (c1 : 0 ≤ n) (c2 : n ≤ 172800) (c3 : ¬ 0 ≤ b) : Calls Try.prog 21 #[.agg #[.int .i64 n, .int .i64 b]] w fun e w' => e = .returned (.bool false) ∧ Below w.heap.size w w' := by
  go_enter Try.func21, Try.ntmps21
  go_wp2_with fail
  go_ret
  exact ⟨rfl, (by repeat (first | exact Below.refl _ _ | refine below_drewN ?_ _ | refine Below.drew ?_ | refine Below.setCell ?_ (by first | (simp; done) | (simp; omega) | omega) _ | refine Below.alloc ?_ (by first | (simp; done) | (simp; omega) | omega) _))⟩
set_option maxHeartbeats 4000000 in
set_option maxRecDepth 100000 in
theorem clright_3 (n b : Int) (w : World) (c1 : 0 ≤ n) (c2 : n ≤ 172800) (c3 : 0 ≤ b) (c4 : ¬ b < 3) : Calls Try.prog 21 #[.agg #[.int .i64 n, .int .i64 b]] w fun e w' => e = .returned (.bool false) ∧ Below w.heap.size w w' := by
  go_enter Try.func21, Try.ntmps21
  go_wp2_with fail
  go_ret
  exact ⟨rfl, (by repeat (first | exact Below.refl _ _ | refine below_drewN ?_ _ | refine Below.drew ?_ | refine Below.setCell ?_ (by first | (simp; done) | (simp; omega) | omega) _ | refine Below.alloc ?_ (by first | (simp; done) | (simp; omega) | omega) _))⟩
set_option maxHeartbeats 4000000 in
set_option maxRecDepth 100000 in
theorem clright_4 (n b : Int) (w : World) (c1 : 0 ≤ n) (c2 : n ≤ 172800) (c3 : 0 ≤ b) (c4 : b < 3) : Calls Try.prog 21 #[.agg #[.int .i64 n, .int .i64 b]] w fun e w' => e = .returned (.bool true) ∧ Below w.heap.size w w' := by
  go_enter Try.func21, Try.ntmps21
  go_wp2_with fail
  go_ret
  exact ⟨rfl, (by repeat (first | exact Below.refl _ _ | refine below_drewN ?_ _ | refine Below.drew ?_ | refine Below.setCell ?_ (by first | (simp; done) | (simp; omega) | omega) _ | refine Below.alloc ?_ (by first | (simp; done) | (simp; omega) | omega) _))⟩
theorem clright_any (n b : Int) (w : World) : Calls Try.prog 21 #[.agg #[.int .i64 n, .int .i64 b]] w fun e w' => e = .returned (.bool (Cl.rB n b)) ∧ Below w.heap.size w w' := by
  by_cases c1 : 0 ≤ n
  · by_cases c2 : n ≤ 172800
    · by_cases c3 : 0 ≤ b
      · by_cases c4 : b < 3
        · rw [show Cl.rB n b = true by unfold Cl.rB; simp [c1, c2, c3, c4]]; exact clright_4 n b w c1 c2 c3 c4
        · rw [show Cl.rB n b = false by unfold Cl.rB; simp [c1, c2, c3, c4]]; exact clright_3 n b w c1 c2 c3 c4
      · rw [show Cl.rB n b = false by unfold Cl.rB; simp [c1, c2, c3]]; exact clright_2 n b w c1 c2 c3
    · rw [show Cl.rB n b = false by unfold Cl.rB; simp [c1, c2]]; exact clright_1 n b w c1 c2
  · rw [show Cl.rB n b = false by unfold Cl.rB; simp [c1]]; exact clright_0 n b w c1
end Go.Proofs.Ytjnhaabbnbcaeaa
