/- Joined: One, DrAo, DrA, ClR0, RuA. -/
import Derived.Test.YtedbohfcbfegjaaGreatDoorBd01
import Derived.Test.YtedbohfcbfegjaaGreatDoorBd02
/- A date in a block of its own, through calls. -/
set_option linter.unusedVariables false
set_option linter.unusedSimpArgs false
namespace Go.Proofs.YtedbohfcbfegjaaGreatDoor
open Go.RowKit

/-- A date lies in the block b; nothing old has turned. -/
structure One (w W : World) (b : Nat) (v0 v1 v2 : Value) : Prop where
  bel : Below w.heap.size w W
  hb : b < W.heap.size
  k0 : W.cell? ⟨b, 0, none⟩ = some v0
  k1 : W.cell? ⟨b, 1, none⟩ = some v1
  k2 : W.cell? ⟨b, 2, none⟩ = some v2
theorem One.keep {w W W' : World} {b : Nat} {v0 v1 v2 : Value} (h : One w W b v0 v1 v2) (k : Below W.heap.size W W') : One w W' b v0 v1 v2 := by
  obtain ⟨hw, hb, h0, h1, h2⟩ := h
  have z := k.size
  refine ⟨below_step hw k, by omega, ?_, ?_, ?_⟩ <;> (rw [k.cell (p := ⟨b, _, none⟩) (by show b < _; omega)]; assumption)
theorem One.alloc {w W : World} {b : Nat} {v0 v1 v2 : Value} (h : One w W b v0 v1 v2) (o : Obj) : One w (W.alloc o) b v0 v1 v2 :=
  h.keep ((Below.refl _ _).alloc (Nat.le_refl _) _)
theorem One.draw {w W : World} {b : Nat} {v0 v1 v2 : Value} (h : One w W b v0 v1 v2) (n : Nat) : One w (W.drewN n) b v0 v1 v2 :=
  h.keep (below_draw _ _)
theorem One.new {w W : World} {v0 v1 v2 : Value} {t : TypeId} (h : Below w.heap.size w W) : One w (W.alloc (.cells #[v0, v1, v2] t)) W.heap.size v0 v1 v2 :=
  ⟨below_step h ((Below.refl _ _).alloc (Nat.le_refl _) _), by simp, by simp [go_sem], by simp [go_sem], by simp [go_sem]⟩
theorem one_keep {w : World} {b : Nat} {W W' : World} {v0 v1 v2 : Value} (hb : Below W.heap.size W W')
    (h : Below w.heap.size w W ∧ b < W.heap.size ∧ W.cell? ⟨b, 0, none⟩ = some v0 ∧ W.cell? ⟨b, 1, none⟩ = some v1 ∧ W.cell? ⟨b, 2, none⟩ = some v2) :
    Below w.heap.size w W' ∧ b < W'.heap.size ∧ W'.cell? ⟨b, 0, none⟩ = some v0 ∧ W'.cell? ⟨b, 1, none⟩ = some v1 ∧ W'.cell? ⟨b, 2, none⟩ = some v2 := by
  obtain ⟨a1, a2, a3, a4, a5⟩ := h
  obtain ⟨b1, b2, b3, b4, b5⟩ := One.keep ⟨a1, a2, a3, a4, a5⟩ hb
  exact ⟨b1, b2, b3, b4, b5⟩
/-- Two dates lie in the blocks b and c; nothing old has turned. -/
structure Two2 (w W : World) (b c : Nat) (v0 v1 v2 u0 u1 u2 : Value) : Prop where
  bel : Below w.heap.size w W
  hb : b < W.heap.size
  hc : c < W.heap.size
  k0 : W.cell? ⟨b, 0, none⟩ = some v0
  k1 : W.cell? ⟨b, 1, none⟩ = some v1
  k2 : W.cell? ⟨b, 2, none⟩ = some v2
  g0 : W.cell? ⟨c, 0, none⟩ = some u0
  g1 : W.cell? ⟨c, 1, none⟩ = some u1
  g2 : W.cell? ⟨c, 2, none⟩ = some u2
theorem Two2.keep {w W W' : World} {b c : Nat} {v0 v1 v2 u0 u1 u2 : Value} (h : Two2 w W b c v0 v1 v2 u0 u1 u2) (k : Below W.heap.size W W') : Two2 w W' b c v0 v1 v2 u0 u1 u2 := by
  obtain ⟨hw, hb, hc, h0, h1, h2, g0, g1, g2⟩ := h
  have z := k.size
  refine ⟨below_step hw k, by omega, by omega, ?_, ?_, ?_, ?_, ?_, ?_⟩ <;> (first | rw [k.cell (p := ⟨b, _, none⟩) (by show b < _; omega)]; assumption | rw [k.cell (p := ⟨c, _, none⟩) (by show c < _; omega)]; assumption)
theorem four_keep {w : World} {b c p q : Nat} {W W' : World} {v0 v1 v2 u0 u1 u2 x0 x1 x2 z0 z1 z2 : Value} (k : Below W.heap.size W W')
    (h : Below w.heap.size w W ∧ b < W.heap.size ∧ c < W.heap.size ∧ p < W.heap.size ∧ q < W.heap.size ∧ W.cell? ⟨b, 0, none⟩ = some v0 ∧ W.cell? ⟨b, 1, none⟩ = some v1 ∧ W.cell? ⟨b, 2, none⟩ = some v2 ∧ W.cell? ⟨c, 0, none⟩ = some u0 ∧ W.cell? ⟨c, 1, none⟩ = some u1 ∧ W.cell? ⟨c, 2, none⟩ = some u2 ∧ W.cell? ⟨p, 0, none⟩ = some x0 ∧ W.cell? ⟨p, 1, none⟩ = some x1 ∧ W.cell? ⟨p, 2, none⟩ = some x2 ∧ W.cell? ⟨q, 0, none⟩ = some z0 ∧ W.cell? ⟨q, 1, none⟩ = some z1 ∧ W.cell? ⟨q, 2, none⟩ = some z2) :
    Below w.heap.size w W' ∧ b < W'.heap.size ∧ c < W'.heap.size ∧ p < W'.heap.size ∧ q < W'.heap.size ∧ W'.cell? ⟨b, 0, none⟩ = some v0 ∧ W'.cell? ⟨b, 1, none⟩ = some v1 ∧ W'.cell? ⟨b, 2, none⟩ = some v2 ∧ W'.cell? ⟨c, 0, none⟩ = some u0 ∧ W'.cell? ⟨c, 1, none⟩ = some u1 ∧ W'.cell? ⟨c, 2, none⟩ = some u2 ∧ W'.cell? ⟨p, 0, none⟩ = some x0 ∧ W'.cell? ⟨p, 1, none⟩ = some x1 ∧ W'.cell? ⟨p, 2, none⟩ = some x2 ∧ W'.cell? ⟨q, 0, none⟩ = some z0 ∧ W'.cell? ⟨q, 1, none⟩ = some z1 ∧ W'.cell? ⟨q, 2, none⟩ = some z2 := by
  obtain ⟨hw, hb, hc, hp, hq, h0, h1, h2, g0, g1, g2, p0, p1, p2, q0, q1, q2⟩ := h
  have z := k.size
  refine ⟨below_step hw k, by omega, by omega, by omega, by omega, ?_, ?_, ?_, ?_, ?_, ?_, ?_, ?_, ?_, ?_, ?_, ?_⟩ <;> (first | rw [k.cell (p := ⟨b, _, none⟩) (by show b < _; omega)]; assumption | rw [k.cell (p := ⟨c, _, none⟩) (by show c < _; omega)]; assumption | rw [k.cell (p := ⟨p, _, none⟩) (by show p < _; omega)]; assumption | rw [k.cell (p := ⟨q, _, none⟩) (by show q < _; omega)]; assumption)
theorem four_drew {w : World} {b c p q : Nat} {W : World} {v0 v1 v2 u0 u1 u2 x0 x1 x2 z0 z1 z2 : Value}
    (h : Below w.heap.size w W ∧ b < W.heap.size ∧ c < W.heap.size ∧ p < W.heap.size ∧ q < W.heap.size ∧ W.cell? ⟨b, 0, none⟩ = some v0 ∧ W.cell? ⟨b, 1, none⟩ = some v1 ∧ W.cell? ⟨b, 2, none⟩ = some v2 ∧ W.cell? ⟨c, 0, none⟩ = some u0 ∧ W.cell? ⟨c, 1, none⟩ = some u1 ∧ W.cell? ⟨c, 2, none⟩ = some u2 ∧ W.cell? ⟨p, 0, none⟩ = some x0 ∧ W.cell? ⟨p, 1, none⟩ = some x1 ∧ W.cell? ⟨p, 2, none⟩ = some x2 ∧ W.cell? ⟨q, 0, none⟩ = some z0 ∧ W.cell? ⟨q, 1, none⟩ = some z1 ∧ W.cell? ⟨q, 2, none⟩ = some z2) :
    Below w.heap.size w W.drew ∧ b < W.drew.heap.size ∧ c < W.drew.heap.size ∧ p < W.drew.heap.size ∧ q < W.drew.heap.size ∧ W.drew.cell? ⟨b, 0, none⟩ = some v0 ∧ W.drew.cell? ⟨b, 1, none⟩ = some v1 ∧ W.drew.cell? ⟨b, 2, none⟩ = some v2 ∧ W.drew.cell? ⟨c, 0, none⟩ = some u0 ∧ W.drew.cell? ⟨c, 1, none⟩ = some u1 ∧ W.drew.cell? ⟨c, 2, none⟩ = some u2 ∧ W.drew.cell? ⟨p, 0, none⟩ = some x0 ∧ W.drew.cell? ⟨p, 1, none⟩ = some x1 ∧ W.drew.cell? ⟨p, 2, none⟩ = some x2 ∧ W.drew.cell? ⟨q, 0, none⟩ = some z0 ∧ W.drew.cell? ⟨q, 1, none⟩ = some z1 ∧ W.drew.cell? ⟨q, 2, none⟩ = some z2 := ⟨h.1.drew, h.2⟩
end Go.Proofs.YtedbohfcbfegjaaGreatDoor

/- The contracts of dayrule's functions: isDay, isWeekday, Right. -/
set_option linter.unusedVariables false
set_option linter.unusedSimpArgs false
namespace Go.Proofs.YtedbohfcbfegjaaGreatDoor
open Go.RowKit

theorem bool_br {p : Prop} [Decidable p] {b : Bool} (h : p ↔ b = true) : Ending.returned (.bool b) = .returned (.bool (decide p)) := by
  congr 2; rw [Bool.eq_iff_iff]; simp [h]

set_option maxHeartbeats 400000 in
theorem isDay_any (d : Int) (w : World) : Calls Tryz.prog 150 #[.int .i64 d] w fun e w' => e = .returned (.bool (Dr.dayB d)) ∧ w = w' := by
  unfold Dr.dayB
  by_cases h1 : 1 ≤ d
  · go_enter Tryz.func150, Tryz.ntmps150
    go_wp2
    go_ret
    refine ⟨?_, rfl⟩; exact bool_br (by simp [h1])
  · have hd : decide (1 ≤ d) = false := by simpa using h1
    go_enter Tryz.func150, Tryz.ntmps150
    go_wp2
    go_ret
    refine ⟨?_, rfl⟩
    rfl
set_option maxHeartbeats 400000 in
theorem isWeek_any (d : Int) (w : World) : Calls Tryz.prog 151 #[.int .i64 d] w fun e w' => e = .returned (.bool (Dr.wkB d)) ∧ w = w' := by
  unfold Dr.wkB
  by_cases h1 : 0 ≤ d
  · go_enter Tryz.func151, Tryz.ntmps151
    go_wp2
    go_ret
    refine ⟨?_, rfl⟩; exact bool_br (by simp [h1]; omega)
  · have hd : decide (0 ≤ d) = false := by simpa using h1
    go_enter Tryz.func151, Tryz.ntmps151
    go_wp2
    go_ret
    refine ⟨?_, rfl⟩
    rfl

theorem on_br {k w d : Int} {b : Bool} (h : (Dr.onR k w d = true) ↔ b = true) : Ending.returned (.bool b) = .returned (.bool (Dr.onR k w d)) := by
  congr 2; rw [Bool.eq_iff_iff, h]

set_option maxHeartbeats 1000000 in
theorem oright_any (k wk d : Int) (w : World) :
    Calls Tryz.prog 100 #[.agg #[.int .i64 k, .int .i64 wk, .int .i64 d]] w fun e w' => e = .returned (.bool (Dr.onR k wk d)) ∧ Below w.heap.size w w' := by
  by_cases h0 : k = 0
  · subst h0
    by_cases hw : wk = 0
    · subst hw
      go_enter Tryz.func100, Tryz.ntmps100
      go_wp2_with (first
        | (go_at_call 150; refine (isDay_any _ _).mono ?_; rintro e w1 ⟨rfl, rfl⟩)
        | (go_at_call 151; refine (isWeek_any _ _).mono ?_; rintro e w1 ⟨rfl, rfl⟩))
      go_ret
      refine ⟨?_, by go_grown⟩; exact on_br (by rw [Dr.onR_true]; simp [Dr.dayB])
    · have hw' : (wk == 0) = false := by simpa using hw
      go_enter Tryz.func100, Tryz.ntmps100
      go_wp2_with (first
        | (go_at_call 150; refine (isDay_any _ _).mono ?_; rintro e w1 ⟨rfl, rfl⟩)
        | (go_at_call 151; refine (isWeek_any _ _).mono ?_; rintro e w1 ⟨rfl, rfl⟩))
      go_ret
      refine ⟨?_, by go_grown⟩; exact on_br (by rw [Dr.onR_true]; simp [hw])
  · by_cases h1 : k = 1
    · subst h1
      clear h0
      cases hw : Dr.wkB wk
      · go_enter Tryz.func100, Tryz.ntmps100
        go_wp2_with (first
          | (go_at_call 150; refine (isDay_any _ _).mono ?_; rintro e w1 ⟨rfl, rfl⟩)
          | (go_at_call 151; refine (isWeek_any _ _).mono ?_; rintro e w1 ⟨rfl, rfl⟩))
        go_ret
        refine ⟨?_, by go_grown⟩; exact on_br (by rw [Dr.onR_true]; simp [Dr.wkB] at hw; simp; omega)
      · go_enter Tryz.func100, Tryz.ntmps100
        go_wp2_with (first
          | (go_at_call 150; refine (isDay_any _ _).mono ?_; rintro e w1 ⟨rfl, rfl⟩)
          | (go_at_call 151; refine (isWeek_any _ _).mono ?_; rintro e w1 ⟨rfl, rfl⟩))
        go_ret
        refine ⟨?_, by go_grown⟩; exact on_br (by rw [Dr.onR_true]; simp [Dr.wkB] at hw; simp; omega)
    · by_cases h2 : k = 2 ∨ k = 3
      · rcases h2 with rfl | rfl
        all_goals
          clear h0 h1
          cases hw : Dr.wkB wk
          · go_enter Tryz.func100, Tryz.ntmps100
            go_wp2_with (first
              | (go_at_call 150; refine (isDay_any _ _).mono ?_; rintro e w1 ⟨rfl, rfl⟩)
              | (go_at_call 151; refine (isWeek_any _ _).mono ?_; rintro e w1 ⟨rfl, rfl⟩))
            go_ret
            refine ⟨?_, by go_grown⟩; exact on_br (by rw [Dr.onR_true]; simp [Dr.wkB] at hw; simp; omega)
          · go_enter Tryz.func100, Tryz.ntmps100
            go_wp2_with (first
              | (go_at_call 150; refine (isDay_any _ _).mono ?_; rintro e w1 ⟨rfl, rfl⟩)
              | (go_at_call 151; refine (isWeek_any _ _).mono ?_; rintro e w1 ⟨rfl, rfl⟩))
            go_ret
            refine ⟨?_, by go_grown⟩; exact on_br (by rw [Dr.onR_true]; simp [Dr.wkB] at hw; simp [Dr.dayB]; omega)
      · have b0 : (k == 0) = false := by simpa using h0
        have b1 : (k == 1) = false := by simpa using h1
        have b2 : (k == 2) = false := by simp; omega
        have b3 : (k == 3) = false := by simp; omega
        go_enter Tryz.func100, Tryz.ntmps100
        go_wp2
        go_ret
        refine ⟨?_, by go_grown⟩; exact on_br (by rw [Dr.onR_true]; simp; omega)

end Go.Proofs.YtedbohfcbfegjaaGreatDoor

/- The contracts of dayrule's functions: Fits, behind. -/
set_option linter.unusedVariables false
set_option linter.unusedSimpArgs false
namespace Go.Proofs.YtedbohfcbfegjaaGreatDoor
open Go.RowKit

theorem fits_br {k wk d m : Int} {b : Bool} (h : (Dr.onF k wk d m = true) ↔ b = true) : Ending.returned (.bool b) = .returned (.bool (Dr.onF k wk d m)) := by
  congr 2; rw [Bool.eq_iff_iff, h]

set_option maxHeartbeats 1000000 in
theorem ofits_any (k wk d m : Int) (w : World) :
    Calls Tryz.prog 53 #[.agg #[.int .i64 k, .int .i64 wk, .int .i64 d], .int .i64 m] w fun e w' => e = .returned (.bool (Dr.onF k wk d m)) ∧ Below w.heap.size w w' := by
  have O0 := One.new (t := 24) (v0 := .int .i64 k) (v1 := .int .i64 wk) (v2 := .int .i64 d) (Below.refl w.heap.size w)
  have hlen : 0 < Cal.len 2001 m ↔ 1 ≤ m ∧ m ≤ 12 := by
    constructor
    · intro h
      unfold Cal.len at h; omega
    · intro h; have := (Dr.len_2001 2001 m h.1 h.2).2.2.1; omega
  have HL := Lib.hid hlen; clear hlen
  cases hr : Dr.onR k wk d
  · go_enter Tryz.func53, Tryz.ntmps53
    go_wp2_with fail
    refine (len_any _ _ _).mono ?_; rintro e w1 ⟨rfl, rfl⟩
    go_wp2_with fail
    refine (oright_any _ _ _ _).mono ?_; rintro e w1 ⟨rfl, b1⟩
    rw [hr]
    go_wp2_with fail
    go_ret
    refine ⟨?_, below_step O0.bel b1⟩
    exact fits_br (by rw [Dr.onF_true]; simp [hr])
  · go_enter Tryz.func53, Tryz.ntmps53
    go_wp2_with fail
    refine (len_any _ _ _).mono ?_; rintro e w1 ⟨rfl, rfl⟩
    go_wp2_with fail
    refine (oright_any _ _ _ _).mono ?_; rintro e w1 ⟨rfl, b1⟩
    rw [hr]
    have O1 := O0.keep b1
    have k2 := O1.k2
    by_cases hp : 0 < Cal.len 2001 m
    · go_wp2_with fail
      go_ret
      refine ⟨?_, O1.bel⟩
      exact fits_br (by rw [Dr.onF_true]; have := HL.out.1 hp; simp [hr]; omega)
    · have hp' : decide (0 < Cal.len 2001 m) = false := by simpa using hp
      go_wp2_with fail
      go_ret
      refine ⟨?_, O1.bel⟩
      exact fits_br (by rw [Dr.onF_true]; have := mt HL.out.2 (by omega); simp [hr]; omega)

end Go.Proofs.YtedbohfcbfegjaaGreatDoor

/- Times of day: which may be. -/
set_option linter.unusedVariables false
set_option linter.unusedSimpArgs false
namespace Go.Proofs.YtedbohfcbfegjaaGreatDoor
open Go.RowKit

namespace Cl
def rB (n b : Int) : Bool := decide (0 ≤ n) && (decide (n ≤ 172800) && (decide (0 ≤ b) && decide (b < 3)))
end Cl
set_option maxHeartbeats 4000000 in
set_option maxRecDepth 100000 in
theorem clright_0 (n b : Int) (w : World) (c1 : ¬ 0 ≤ n) : Calls Tryz.prog 54 #[.agg #[.int .i64 n, .int .i64 b]] w fun e w' => e = .returned (.bool false) ∧ Below w.heap.size w w' := by
  go_enter Tryz.func54, Tryz.ntmps54
  go_wp2_with fail
  go_ret
  exact ⟨rfl, (by repeat (first | exact Below.refl _ _ | refine below_drewN ?_ _ | refine Below.drew ?_ | refine Below.setCell ?_ (by first | (simp; done) | (simp; omega) | omega) _ | refine Below.alloc ?_ (by first | (simp; done) | (simp; omega) | omega) _))⟩
set_option maxHeartbeats 4000000 in
set_option maxRecDepth 100000 in
theorem clright_1 (n b : Int) (w : World) (c1 : 0 ≤ n) (c2 : ¬ n ≤ 172800) : Calls Tryz.prog 54 #[.agg #[.int .i64 n, .int .i64 b]] w fun e w' => e = .returned (.bool false) ∧ Below w.heap.size w w' := by
  go_enter Tryz.func54, Tryz.ntmps54
  go_wp2_with fail
  go_ret
  exact ⟨rfl, (by repeat (first | exact Below.refl _ _ | refine below_drewN ?_ _ | refine Below.drew ?_ | refine Below.setCell ?_ (by first | (simp; done) | (simp; omega) | omega) _ | refine Below.alloc ?_ (by first | (simp; done) | (simp; omega) | omega) _))⟩
set_option maxHeartbeats 4000000 in
set_option maxRecDepth 100000 in
theorem clright_2 (n b : Int) (w : World) (c1 : 0 ≤ n) (c2 : n ≤ 172800) (c3 : ¬ 0 ≤ b) : Calls Tryz.prog 54 #[.agg #[.int .i64 n, .int .i64 b]] w fun e w' => e = .returned (.bool false) ∧ Below w.heap.size w w' := by
  go_enter Tryz.func54, Tryz.ntmps54
  go_wp2_with fail
  go_ret
  exact ⟨rfl, (by repeat (first | exact Below.refl _ _ | refine below_drewN ?_ _ | refine Below.drew ?_ | refine Below.setCell ?_ (by first | (simp; done) | (simp; omega) | omega) _ | refine Below.alloc ?_ (by first | (simp; done) | (simp; omega) | omega) _))⟩
set_option maxHeartbeats 4000000 in
set_option maxRecDepth 100000 in
theorem clright_3 (n b : Int) (w : World) (c1 : 0 ≤ n) (c2 : n ≤ 172800) (c3 : 0 ≤ b) (c4 : ¬ b < 3) : Calls Tryz.prog 54 #[.agg #[.int .i64 n, .int .i64 b]] w fun e w' => e = .returned (.bool false) ∧ Below w.heap.size w w' := by
  go_enter Tryz.func54, Tryz.ntmps54
  go_wp2_with fail
  go_ret
  exact ⟨rfl, (by repeat (first | exact Below.refl _ _ | refine below_drewN ?_ _ | refine Below.drew ?_ | refine Below.setCell ?_ (by first | (simp; done) | (simp; omega) | omega) _ | refine Below.alloc ?_ (by first | (simp; done) | (simp; omega) | omega) _))⟩
set_option maxHeartbeats 4000000 in
set_option maxRecDepth 100000 in
theorem clright_4 (n b : Int) (w : World) (c1 : 0 ≤ n) (c2 : n ≤ 172800) (c3 : 0 ≤ b) (c4 : b < 3) : Calls Tryz.prog 54 #[.agg #[.int .i64 n, .int .i64 b]] w fun e w' => e = .returned (.bool true) ∧ Below w.heap.size w w' := by
  go_enter Tryz.func54, Tryz.ntmps54
  go_wp2_with fail
  go_ret
  exact ⟨rfl, (by repeat (first | exact Below.refl _ _ | refine below_drewN ?_ _ | refine Below.drew ?_ | refine Below.setCell ?_ (by first | (simp; done) | (simp; omega) | omega) _ | refine Below.alloc ?_ (by first | (simp; done) | (simp; omega) | omega) _))⟩
theorem clright_any (n b : Int) (w : World) : Calls Tryz.prog 54 #[.agg #[.int .i64 n, .int .i64 b]] w fun e w' => e = .returned (.bool (Cl.rB n b)) ∧ Below w.heap.size w w' := by
  by_cases c1 : 0 ≤ n
  · by_cases c2 : n ≤ 172800
    · by_cases c3 : 0 ≤ b
      · by_cases c4 : b < 3
        · rw [show Cl.rB n b = true by unfold Cl.rB; simp [c1, c2, c3, c4]]; exact clright_4 n b w c1 c2 c3 c4
        · rw [show Cl.rB n b = false by unfold Cl.rB; simp [c1, c2, c3, c4]]; exact clright_3 n b w c1 c2 c3 c4
      · rw [show Cl.rB n b = false by unfold Cl.rB; simp [c1, c2, c3]]; exact clright_2 n b w c1 c2 c3
    · rw [show Cl.rB n b = false by unfold Cl.rB; simp [c1, c2]]; exact clright_1 n b w c1 c2
  · rw [show Cl.rB n b = false by unfold Cl.rB; simp [c1]]; exact clright_0 n b w c1
end Go.Proofs.YtedbohfcbfegjaaGreatDoor

/- Rules: which may be. -/
set_option linter.unusedVariables false
set_option linter.unusedSimpArgs false
namespace Go.Proofs.YtedbohfcbfegjaaGreatDoor
open Go.RowKit Go.Sort

namespace Ru
/-- Whether a rule may be. -/
def rB (s t : ByteArray) (fy ty m k wk d sec base save : Int) : Bool := Lk.nm s.data.toList == 0 && (decide (-32767 ≤ fy) && (decide (fy ≤ ty) && (decide (ty ≤ 32767) && (Dr.onF k wk d m && (Cl.rB sec base && (decide (-10800 ≤ save) && (decide (save ≤ 10800) && (Fo.ltx t.data.toList).2 == 0)))))))
end Ru
theorem issaved_any (n : Int) (w : World) : Calls Tryz.prog 55 #[.int .i64 n] w fun e w' => e = .returned (.bool (decide (-10800 ≤ n) && decide (n ≤ 10800))) ∧ w = w' := by
  by_cases c1 : -10800 ≤ n
  · by_cases c2 : n ≤ 10800
    · rw [decide_eq_true c1, decide_eq_true c2]
      go_enter Tryz.func55, Tryz.ntmps55
      go_wp2
      go_ret
      exact ⟨rfl, rfl⟩
    · have g : decide (n ≤ 10800) = false := decide_eq_false c2
      rw [decide_eq_true c1, g]
      go_enter Tryz.func55, Tryz.ntmps55
      go_wp2
      go_ret
      exact ⟨rfl, rfl⟩
  · have g : decide (-10800 ≤ n) = false := decide_eq_false c1
    rw [g]
    go_enter Tryz.func55, Tryz.ntmps55
    go_wp2
    go_ret
    exact ⟨rfl, rfl⟩
set_option maxHeartbeats 4000000 in
set_option maxRecDepth 100000 in
theorem ruright_any (s t : ByteArray) (fy ty m k wk d sec base save : Int) (w : World) (hs : s.size ≤ maxLen) (ht : t.size ≤ 100000) :
    Calls Tryz.prog 13 #[.agg #[.string s, .int .i64 fy, .int .i64 ty, .int .i64 m, .int .i64 k, .int .i64 wk, .int .i64 d, .int .i64 sec, .int .i64 base, .int .i64 save, .string t]] w fun e w' => e = .returned (.bool (Ru.rB s t fy ty m k wk d sec base save)) ∧ Below w.heap.size w w' := by
  have NM := Lib.hid (fun W => rname_any s W hs)
  have LT := Lib.hid (fun W => lettertext_any t W ht)
  have OF := Lib.hid (fun W => ofits_any k wk d m W)
  have CR := Lib.hid (fun W => clright_any sec base W)
  clear hs ht
  unfold Ru.rB
  generalize Lk.nm s.data.toList = q0 at *
  generalize (⟨(Fo.ltx t.data.toList).1.toArray⟩ : ByteArray) = T at *
  generalize (Fo.ltx t.data.toList).2 = q7 at *
  generalize Dr.onF k wk d m = o at *
  generalize Cl.rB sec base = c at *
  obtain ⟨r, hr⟩ : ∃ r, r = (q0 == 0 && (decide (-32767 ≤ fy) && (decide (fy ≤ ty) && (decide (ty ≤ 32767) && (o && (c && (decide (-10800 ≤ save) && (decide (save ≤ 10800) && q7 == 0)))))))) := ⟨_, rfl⟩
  rw [← hr]
  by_cases h0 : q0 = 0
  · have g0 : (q0 == 0) = true := by rw [beq_iff_eq]; exact h0
    by_cases h1 : -32767 ≤ fy
    · have g1 : decide (-32767 ≤ fy) = true := decide_eq_true h1
      by_cases h2 : fy ≤ ty
      · have g2 : decide (fy ≤ ty) = true := decide_eq_true h2
        by_cases h3 : ty ≤ 32767
        · have g3 : decide (ty ≤ 32767) = true := decide_eq_true h3
          cases o
          · skip
            have e : r = false := by rw [hr]; simp [h0, h1, h2, h3]
            rw [e]; clear e hr
            go_enter Tryz.func13, Tryz.ntmps13
            go_wp2_with fail
            refine (LT.out _).mono ?_; rintro e v1 ⟨rfl, rfl⟩
            go_wp2_with fail
            refine (NM.out _).mono ?_; rintro e v2 ⟨rfl, rfl⟩
            go_wp2_with fail
            refine (OF.out _).mono ?_; rintro e w1 ⟨rfl, b1⟩
            have d1 : Below w.heap.size w w1 := below_step (by repeat (first | exact Below.refl _ _ | refine below_drewN ?_ _ | refine Below.drew ?_ | refine Below.setCell ?_ (by first | (simp; done) | (simp; omega) | omega) _ | refine Below.alloc ?_ (by first | (simp; done) | (simp; omega) | omega) _)) b1
            have B1 := Lib.hid d1
            have X1 : Bk11 w1 (w.heap.size) (.string s) (.int .i64 fy) (.int .i64 ty) (.int .i64 m) (.int .i64 k) (.int .i64 wk) (.int .i64 d) (.int .i64 sec) (.int .i64 base) (.int .i64 save) (.string t) := Bk11.of b1 (by simp <;> omega) (by intro j; simp [go_sem]) (by simp [go_sem]) (by simp [go_sem]) (by simp [go_sem]) (by simp [go_sem]) (by simp [go_sem]) (by simp [go_sem]) (by simp [go_sem]) (by simp [go_sem]) (by simp [go_sem]) (by simp [go_sem]) (by simp [go_sem])
            clear b1 d1
            have cX_b := X1.hb
            have cX_f := X1.fz
            have cX_0 := X1.k0
            have cX_1 := X1.k1
            have cX_2 := X1.k2
            have cX_3 := X1.k3
            have cX_4 := X1.k4
            have cX_5 := X1.k5
            have cX_6 := X1.k6
            have cX_7 := X1.k7
            have cX_8 := X1.k8
            have cX_9 := X1.k9
            have cX_10 := X1.k10
            go_wp2_with fail
            clear cX_b cX_f cX_0 cX_1 cX_2 cX_3 cX_4 cX_5 cX_6 cX_7 cX_8 cX_9 cX_10
            go_ret
            exact ⟨rfl, (by have hz := B1.out.size; repeat (first | exact B1.out | refine below_drewN ?_ _ | refine Below.drew ?_ | refine Below.setCell ?_ (by first | omega | (simp; done) | (simp; omega)) _ | refine Below.alloc ?_ (by first | omega | (simp; done) | (simp; omega)) _))⟩
          · skip
            cases c
            · skip
              have e : r = false := by rw [hr]; simp [h0, h1, h2, h3]
              rw [e]; clear e hr
              go_enter Tryz.func13, Tryz.ntmps13
              go_wp2_with fail
              refine (LT.out _).mono ?_; rintro e v1 ⟨rfl, rfl⟩
              go_wp2_with fail
              refine (NM.out _).mono ?_; rintro e v2 ⟨rfl, rfl⟩
              go_wp2_with fail
              refine (OF.out _).mono ?_; rintro e w1 ⟨rfl, b1⟩
              have d1 : Below w.heap.size w w1 := below_step (by repeat (first | exact Below.refl _ _ | refine below_drewN ?_ _ | refine Below.drew ?_ | refine Below.setCell ?_ (by first | (simp; done) | (simp; omega) | omega) _ | refine Below.alloc ?_ (by first | (simp; done) | (simp; omega) | omega) _)) b1
              have B1 := Lib.hid d1
              have X1 : Bk11 w1 (w.heap.size) (.string s) (.int .i64 fy) (.int .i64 ty) (.int .i64 m) (.int .i64 k) (.int .i64 wk) (.int .i64 d) (.int .i64 sec) (.int .i64 base) (.int .i64 save) (.string t) := Bk11.of b1 (by simp <;> omega) (by intro j; simp [go_sem]) (by simp [go_sem]) (by simp [go_sem]) (by simp [go_sem]) (by simp [go_sem]) (by simp [go_sem]) (by simp [go_sem]) (by simp [go_sem]) (by simp [go_sem]) (by simp [go_sem]) (by simp [go_sem]) (by simp [go_sem])
              clear b1 d1
              have cX_b := X1.hb
              have cX_f := X1.fz
              have cX_0 := X1.k0
              have cX_1 := X1.k1
              have cX_2 := X1.k2
              have cX_3 := X1.k3
              have cX_4 := X1.k4
              have cX_5 := X1.k5
              have cX_6 := X1.k6
              have cX_7 := X1.k7
              have cX_8 := X1.k8
              have cX_9 := X1.k9
              have cX_10 := X1.k10
              go_wp2_with fail
              clear cX_b cX_f cX_0 cX_1 cX_2 cX_3 cX_4 cX_5 cX_6 cX_7 cX_8 cX_9 cX_10
              refine (CR.out _).mono ?_; rintro e w2 ⟨rfl, b2⟩
              have d2 : Below w1.heap.size w1 w2 := below_step (by repeat (first | exact Below.refl _ _ | refine below_drewN ?_ _ | refine Below.drew ?_ | refine Below.setCell ?_ (by first | (simp; done) | (simp; omega) | omega) _ | refine Below.alloc ?_ (by first | (simp; done) | (simp; omega) | omega) _)) b2
              have B2 := Lib.hid (below_step B1.out d2)
              have X2 := X1.keep d2
              clear X1 b2 d2 B1
              have cX_b := X2.hb
              have cX_f := X2.fz
              have cX_0 := X2.k0
              have cX_1 := X2.k1
              have cX_2 := X2.k2
              have cX_3 := X2.k3
              have cX_4 := X2.k4
              have cX_5 := X2.k5
              have cX_6 := X2.k6
              have cX_7 := X2.k7
              have cX_8 := X2.k8
              have cX_9 := X2.k9
              have cX_10 := X2.k10
              go_wp2_with fail
              clear cX_b cX_f cX_0 cX_1 cX_2 cX_3 cX_4 cX_5 cX_6 cX_7 cX_8 cX_9 cX_10
              go_ret
              exact ⟨rfl, (by have hz := B2.out.size; repeat (first | exact B2.out | refine below_drewN ?_ _ | refine Below.drew ?_ | refine Below.setCell ?_ (by first | omega | (simp; done) | (simp; omega)) _ | refine Below.alloc ?_ (by first | omega | (simp; done) | (simp; omega)) _))⟩
            · skip
              by_cases h6 : -10800 ≤ save
              · have g6 : decide (-10800 ≤ save) = true := decide_eq_true h6
                by_cases h7 : save ≤ 10800
                · have g7 : decide (save ≤ 10800) = true := decide_eq_true h7
                  by_cases h8 : q7 = 0
                  · have g8 : (q7 == 0) = true := by rw [beq_iff_eq]; exact h8
                    have e : r = true := by rw [hr]; simp [h0, h1, h2, h3, h6, h7, h8]
                    rw [e]; clear e hr
                    go_enter Tryz.func13, Tryz.ntmps13
                    go_wp2_with fail
                    refine (LT.out _).mono ?_; rintro e v1 ⟨rfl, rfl⟩
                    go_wp2_with fail
                    refine (NM.out _).mono ?_; rintro e v2 ⟨rfl, rfl⟩
                    go_wp2_with fail
                    refine (OF.out _).mono ?_; rintro e w1 ⟨rfl, b1⟩
                    have d1 : Below w.heap.size w w1 := below_step (by repeat (first | exact Below.refl _ _ | refine below_drewN ?_ _ | refine Below.drew ?_ | refine Below.setCell ?_ (by first | (simp; done) | (simp; omega) | omega) _ | refine Below.alloc ?_ (by first | (simp; done) | (simp; omega) | omega) _)) b1
                    have B1 := Lib.hid d1
                    have X1 : Bk11 w1 (w.heap.size) (.string s) (.int .i64 fy) (.int .i64 ty) (.int .i64 m) (.int .i64 k) (.int .i64 wk) (.int .i64 d) (.int .i64 sec) (.int .i64 base) (.int .i64 save) (.string t) := Bk11.of b1 (by simp <;> omega) (by intro j; simp [go_sem]) (by simp [go_sem]) (by simp [go_sem]) (by simp [go_sem]) (by simp [go_sem]) (by simp [go_sem]) (by simp [go_sem]) (by simp [go_sem]) (by simp [go_sem]) (by simp [go_sem]) (by simp [go_sem]) (by simp [go_sem])
                    clear b1 d1
                    have cX_b := X1.hb
                    have cX_f := X1.fz
                    have cX_0 := X1.k0
                    have cX_1 := X1.k1
                    have cX_2 := X1.k2
                    have cX_3 := X1.k3
                    have cX_4 := X1.k4
                    have cX_5 := X1.k5
                    have cX_6 := X1.k6
                    have cX_7 := X1.k7
                    have cX_8 := X1.k8
                    have cX_9 := X1.k9
                    have cX_10 := X1.k10
                    go_wp2_with fail
                    clear cX_b cX_f cX_0 cX_1 cX_2 cX_3 cX_4 cX_5 cX_6 cX_7 cX_8 cX_9 cX_10
                    refine (CR.out _).mono ?_; rintro e w2 ⟨rfl, b2⟩
                    have d2 : Below w1.heap.size w1 w2 := below_step (by repeat (first | exact Below.refl _ _ | refine below_drewN ?_ _ | refine Below.drew ?_ | refine Below.setCell ?_ (by first | (simp; done) | (simp; omega) | omega) _ | refine Below.alloc ?_ (by first | (simp; done) | (simp; omega) | omega) _)) b2
                    have B2 := Lib.hid (below_step B1.out d2)
                    have X2 := X1.keep d2
                    clear X1 b2 d2 B1
                    have cX_b := X2.hb
                    have cX_f := X2.fz
                    have cX_0 := X2.k0
                    have cX_1 := X2.k1
                    have cX_2 := X2.k2
                    have cX_3 := X2.k3
                    have cX_4 := X2.k4
                    have cX_5 := X2.k5
                    have cX_6 := X2.k6
                    have cX_7 := X2.k7
                    have cX_8 := X2.k8
                    have cX_9 := X2.k9
                    have cX_10 := X2.k10
                    go_wp2_with fail
                    clear cX_b cX_f cX_0 cX_1 cX_2 cX_3 cX_4 cX_5 cX_6 cX_7 cX_8 cX_9 cX_10
                    refine (issaved_any save _).mono ?_; rintro e v3 ⟨rfl, rfl⟩
                    have cX_b := X2.hb
                    have cX_f := X2.fz
                    have cX_0 := X2.k0
                    have cX_1 := X2.k1
                    have cX_2 := X2.k2
                    have cX_3 := X2.k3
                    have cX_4 := X2.k4
                    have cX_5 := X2.k5
                    have cX_6 := X2.k6
                    have cX_7 := X2.k7
                    have cX_8 := X2.k8
                    have cX_9 := X2.k9
                    have cX_10 := X2.k10
                    go_wp2_with fail
                    clear cX_b cX_f cX_0 cX_1 cX_2 cX_3 cX_4 cX_5 cX_6 cX_7 cX_8 cX_9 cX_10
                    go_ret
                    exact ⟨rfl, (by have hz := B2.out.size; repeat (first | exact B2.out | refine below_drewN ?_ _ | refine Below.drew ?_ | refine Below.setCell ?_ (by first | omega | (simp; done) | (simp; omega)) _ | refine Below.alloc ?_ (by first | omega | (simp; done) | (simp; omega)) _))⟩
                  · have g8 : (q7 == 0) = false := by rw [beq_eq_false_iff_ne]; exact h8
                    have e : r = false := by rw [hr]; simp [h0, h1, h2, h3, h6, h7, h8]
                    rw [e]; clear e hr
                    go_enter Tryz.func13, Tryz.ntmps13
                    go_wp2_with fail
                    refine (LT.out _).mono ?_; rintro e v1 ⟨rfl, rfl⟩
                    go_wp2_with fail
                    refine (NM.out _).mono ?_; rintro e v2 ⟨rfl, rfl⟩
                    go_wp2_with fail
                    refine (OF.out _).mono ?_; rintro e w1 ⟨rfl, b1⟩
                    have d1 : Below w.heap.size w w1 := below_step (by repeat (first | exact Below.refl _ _ | refine below_drewN ?_ _ | refine Below.drew ?_ | refine Below.setCell ?_ (by first | (simp; done) | (simp; omega) | omega) _ | refine Below.alloc ?_ (by first | (simp; done) | (simp; omega) | omega) _)) b1
                    have B1 := Lib.hid d1
                    have X1 : Bk11 w1 (w.heap.size) (.string s) (.int .i64 fy) (.int .i64 ty) (.int .i64 m) (.int .i64 k) (.int .i64 wk) (.int .i64 d) (.int .i64 sec) (.int .i64 base) (.int .i64 save) (.string t) := Bk11.of b1 (by simp <;> omega) (by intro j; simp [go_sem]) (by simp [go_sem]) (by simp [go_sem]) (by simp [go_sem]) (by simp [go_sem]) (by simp [go_sem]) (by simp [go_sem]) (by simp [go_sem]) (by simp [go_sem]) (by simp [go_sem]) (by simp [go_sem]) (by simp [go_sem])
                    clear b1 d1
                    have cX_b := X1.hb
                    have cX_f := X1.fz
                    have cX_0 := X1.k0
                    have cX_1 := X1.k1
                    have cX_2 := X1.k2
                    have cX_3 := X1.k3
                    have cX_4 := X1.k4
                    have cX_5 := X1.k5
                    have cX_6 := X1.k6
                    have cX_7 := X1.k7
                    have cX_8 := X1.k8
                    have cX_9 := X1.k9
                    have cX_10 := X1.k10
                    go_wp2_with fail
                    clear cX_b cX_f cX_0 cX_1 cX_2 cX_3 cX_4 cX_5 cX_6 cX_7 cX_8 cX_9 cX_10
                    refine (CR.out _).mono ?_; rintro e w2 ⟨rfl, b2⟩
                    have d2 : Below w1.heap.size w1 w2 := below_step (by repeat (first | exact Below.refl _ _ | refine below_drewN ?_ _ | refine Below.drew ?_ | refine Below.setCell ?_ (by first | (simp; done) | (simp; omega) | omega) _ | refine Below.alloc ?_ (by first | (simp; done) | (simp; omega) | omega) _)) b2
                    have B2 := Lib.hid (below_step B1.out d2)
                    have X2 := X1.keep d2
                    clear X1 b2 d2 B1
                    have cX_b := X2.hb
                    have cX_f := X2.fz
                    have cX_0 := X2.k0
                    have cX_1 := X2.k1
                    have cX_2 := X2.k2
                    have cX_3 := X2.k3
                    have cX_4 := X2.k4
                    have cX_5 := X2.k5
                    have cX_6 := X2.k6
                    have cX_7 := X2.k7
                    have cX_8 := X2.k8
                    have cX_9 := X2.k9
                    have cX_10 := X2.k10
                    go_wp2_with fail
                    clear cX_b cX_f cX_0 cX_1 cX_2 cX_3 cX_4 cX_5 cX_6 cX_7 cX_8 cX_9 cX_10
                    refine (issaved_any save _).mono ?_; rintro e v3 ⟨rfl, rfl⟩
                    have cX_b := X2.hb
                    have cX_f := X2.fz
                    have cX_0 := X2.k0
                    have cX_1 := X2.k1
                    have cX_2 := X2.k2
                    have cX_3 := X2.k3
                    have cX_4 := X2.k4
                    have cX_5 := X2.k5
                    have cX_6 := X2.k6
                    have cX_7 := X2.k7
                    have cX_8 := X2.k8
                    have cX_9 := X2.k9
                    have cX_10 := X2.k10
                    go_wp2_with fail
                    clear cX_b cX_f cX_0 cX_1 cX_2 cX_3 cX_4 cX_5 cX_6 cX_7 cX_8 cX_9 cX_10
                    go_ret
                    exact ⟨rfl, (by have hz := B2.out.size; repeat (first | exact B2.out | refine below_drewN ?_ _ | refine Below.drew ?_ | refine Below.setCell ?_ (by first | omega | (simp; done) | (simp; omega)) _ | refine Below.alloc ?_ (by first | omega | (simp; done) | (simp; omega)) _))⟩
                · have g7 : decide (save ≤ 10800) = false := decide_eq_false h7
                  have e : r = false := by rw [hr]; simp [h0, h1, h2, h3, h6, h7]
                  rw [e]; clear e hr
                  go_enter Tryz.func13, Tryz.ntmps13
                  go_wp2_with fail
                  refine (LT.out _).mono ?_; rintro e v1 ⟨rfl, rfl⟩
                  go_wp2_with fail
                  refine (NM.out _).mono ?_; rintro e v2 ⟨rfl, rfl⟩
                  go_wp2_with fail
                  refine (OF.out _).mono ?_; rintro e w1 ⟨rfl, b1⟩
                  have d1 : Below w.heap.size w w1 := below_step (by repeat (first | exact Below.refl _ _ | refine below_drewN ?_ _ | refine Below.drew ?_ | refine Below.setCell ?_ (by first | (simp; done) | (simp; omega) | omega) _ | refine Below.alloc ?_ (by first | (simp; done) | (simp; omega) | omega) _)) b1
                  have B1 := Lib.hid d1
                  have X1 : Bk11 w1 (w.heap.size) (.string s) (.int .i64 fy) (.int .i64 ty) (.int .i64 m) (.int .i64 k) (.int .i64 wk) (.int .i64 d) (.int .i64 sec) (.int .i64 base) (.int .i64 save) (.string t) := Bk11.of b1 (by simp <;> omega) (by intro j; simp [go_sem]) (by simp [go_sem]) (by simp [go_sem]) (by simp [go_sem]) (by simp [go_sem]) (by simp [go_sem]) (by simp [go_sem]) (by simp [go_sem]) (by simp [go_sem]) (by simp [go_sem]) (by simp [go_sem]) (by simp [go_sem])
                  clear b1 d1
                  have cX_b := X1.hb
                  have cX_f := X1.fz
                  have cX_0 := X1.k0
                  have cX_1 := X1.k1
                  have cX_2 := X1.k2
                  have cX_3 := X1.k3
                  have cX_4 := X1.k4
                  have cX_5 := X1.k5
                  have cX_6 := X1.k6
                  have cX_7 := X1.k7
                  have cX_8 := X1.k8
                  have cX_9 := X1.k9
                  have cX_10 := X1.k10
                  go_wp2_with fail
                  clear cX_b cX_f cX_0 cX_1 cX_2 cX_3 cX_4 cX_5 cX_6 cX_7 cX_8 cX_9 cX_10
                  refine (CR.out _).mono ?_; rintro e w2 ⟨rfl, b2⟩
                  have d2 : Below w1.heap.size w1 w2 := below_step (by repeat (first | exact Below.refl _ _ | refine below_drewN ?_ _ | refine Below.drew ?_ | refine Below.setCell ?_ (by first | (simp; done) | (simp; omega) | omega) _ | refine Below.alloc ?_ (by first | (simp; done) | (simp; omega) | omega) _)) b2
                  have B2 := Lib.hid (below_step B1.out d2)
                  have X2 := X1.keep d2
                  clear X1 b2 d2 B1
                  have cX_b := X2.hb
                  have cX_f := X2.fz
                  have cX_0 := X2.k0
                  have cX_1 := X2.k1
                  have cX_2 := X2.k2
                  have cX_3 := X2.k3
                  have cX_4 := X2.k4
                  have cX_5 := X2.k5
                  have cX_6 := X2.k6
                  have cX_7 := X2.k7
                  have cX_8 := X2.k8
                  have cX_9 := X2.k9
                  have cX_10 := X2.k10
                  go_wp2_with fail
                  clear cX_b cX_f cX_0 cX_1 cX_2 cX_3 cX_4 cX_5 cX_6 cX_7 cX_8 cX_9 cX_10
                  refine (issaved_any save _).mono ?_; rintro e v3 ⟨rfl, rfl⟩
                  have cX_b := X2.hb
                  have cX_f := X2.fz
                  have cX_0 := X2.k0
                  have cX_1 := X2.k1
                  have cX_2 := X2.k2
                  have cX_3 := X2.k3
                  have cX_4 := X2.k4
                  have cX_5 := X2.k5
                  have cX_6 := X2.k6
                  have cX_7 := X2.k7
                  have cX_8 := X2.k8
                  have cX_9 := X2.k9
                  have cX_10 := X2.k10
                  go_wp2_with fail
                  clear cX_b cX_f cX_0 cX_1 cX_2 cX_3 cX_4 cX_5 cX_6 cX_7 cX_8 cX_9 cX_10
                  go_ret
                  exact ⟨rfl, (by have hz := B2.out.size; repeat (first | exact B2.out | refine below_drewN ?_ _ | refine Below.drew ?_ | refine Below.setCell ?_ (by first | omega | (simp; done) | (simp; omega)) _ | refine Below.alloc ?_ (by first | omega | (simp; done) | (simp; omega)) _))⟩
              · have g6 : decide (-10800 ≤ save) = false := decide_eq_false h6
                have e : r = false := by rw [hr]; simp [h0, h1, h2, h3, h6]
                rw [e]; clear e hr
                go_enter Tryz.func13, Tryz.ntmps13
                go_wp2_with fail
                refine (LT.out _).mono ?_; rintro e v1 ⟨rfl, rfl⟩
                go_wp2_with fail
                refine (NM.out _).mono ?_; rintro e v2 ⟨rfl, rfl⟩
                go_wp2_with fail
                refine (OF.out _).mono ?_; rintro e w1 ⟨rfl, b1⟩
                have d1 : Below w.heap.size w w1 := below_step (by repeat (first | exact Below.refl _ _ | refine below_drewN ?_ _ | refine Below.drew ?_ | refine Below.setCell ?_ (by first | (simp; done) | (simp; omega) | omega) _ | refine Below.alloc ?_ (by first | (simp; done) | (simp; omega) | omega) _)) b1
                have B1 := Lib.hid d1
                have X1 : Bk11 w1 (w.heap.size) (.string s) (.int .i64 fy) (.int .i64 ty) (.int .i64 m) (.int .i64 k) (.int .i64 wk) (.int .i64 d) (.int .i64 sec) (.int .i64 base) (.int .i64 save) (.string t) := Bk11.of b1 (by simp <;> omega) (by intro j; simp [go_sem]) (by simp [go_sem]) (by simp [go_sem]) (by simp [go_sem]) (by simp [go_sem]) (by simp [go_sem]) (by simp [go_sem]) (by simp [go_sem]) (by simp [go_sem]) (by simp [go_sem]) (by simp [go_sem]) (by simp [go_sem])
                clear b1 d1
                have cX_b := X1.hb
                have cX_f := X1.fz
                have cX_0 := X1.k0
                have cX_1 := X1.k1
                have cX_2 := X1.k2
                have cX_3 := X1.k3
                have cX_4 := X1.k4
                have cX_5 := X1.k5
                have cX_6 := X1.k6
                have cX_7 := X1.k7
                have cX_8 := X1.k8
                have cX_9 := X1.k9
                have cX_10 := X1.k10
                go_wp2_with fail
                clear cX_b cX_f cX_0 cX_1 cX_2 cX_3 cX_4 cX_5 cX_6 cX_7 cX_8 cX_9 cX_10
                refine (CR.out _).mono ?_; rintro e w2 ⟨rfl, b2⟩
                have d2 : Below w1.heap.size w1 w2 := below_step (by repeat (first | exact Below.refl _ _ | refine below_drewN ?_ _ | refine Below.drew ?_ | refine Below.setCell ?_ (by first | (simp; done) | (simp; omega) | omega) _ | refine Below.alloc ?_ (by first | (simp; done) | (simp; omega) | omega) _)) b2
                have B2 := Lib.hid (below_step B1.out d2)
                have X2 := X1.keep d2
                clear X1 b2 d2 B1
                have cX_b := X2.hb
                have cX_f := X2.fz
                have cX_0 := X2.k0
                have cX_1 := X2.k1
                have cX_2 := X2.k2
                have cX_3 := X2.k3
                have cX_4 := X2.k4
                have cX_5 := X2.k5
                have cX_6 := X2.k6
                have cX_7 := X2.k7
                have cX_8 := X2.k8
                have cX_9 := X2.k9
                have cX_10 := X2.k10
                go_wp2_with fail
                clear cX_b cX_f cX_0 cX_1 cX_2 cX_3 cX_4 cX_5 cX_6 cX_7 cX_8 cX_9 cX_10
                refine (issaved_any save _).mono ?_; rintro e v3 ⟨rfl, rfl⟩
                have cX_b := X2.hb
                have cX_f := X2.fz
                have cX_0 := X2.k0
                have cX_1 := X2.k1
                have cX_2 := X2.k2
                have cX_3 := X2.k3
                have cX_4 := X2.k4
                have cX_5 := X2.k5
                have cX_6 := X2.k6
                have cX_7 := X2.k7
                have cX_8 := X2.k8
                have cX_9 := X2.k9
                have cX_10 := X2.k10
                go_wp2_with fail
                clear cX_b cX_f cX_0 cX_1 cX_2 cX_3 cX_4 cX_5 cX_6 cX_7 cX_8 cX_9 cX_10
                go_ret
                exact ⟨rfl, (by have hz := B2.out.size; repeat (first | exact B2.out | refine below_drewN ?_ _ | refine Below.drew ?_ | refine Below.setCell ?_ (by first | omega | (simp; done) | (simp; omega)) _ | refine Below.alloc ?_ (by first | omega | (simp; done) | (simp; omega)) _))⟩
        · have g3 : decide (ty ≤ 32767) = false := decide_eq_false h3
          have e : r = false := by rw [hr]; simp [h0, h1, h2, h3]
          rw [e]; clear e hr
          go_enter Tryz.func13, Tryz.ntmps13
          go_wp2_with fail
          refine (LT.out _).mono ?_; rintro e v1 ⟨rfl, rfl⟩
          go_wp2_with fail
          refine (NM.out _).mono ?_; rintro e v2 ⟨rfl, rfl⟩
          go_wp2_with fail
          go_ret
          exact ⟨rfl, (by repeat (first | exact Below.refl _ _ | refine below_drewN ?_ _ | refine Below.drew ?_ | refine Below.setCell ?_ (by first | (simp; done) | (simp; omega) | omega) _ | refine Below.alloc ?_ (by first | (simp; done) | (simp; omega) | omega) _))⟩
      · have g2 : decide (fy ≤ ty) = false := decide_eq_false h2
        have e : r = false := by rw [hr]; simp [h0, h1, h2]
        rw [e]; clear e hr
        go_enter Tryz.func13, Tryz.ntmps13
        go_wp2_with fail
        refine (LT.out _).mono ?_; rintro e v1 ⟨rfl, rfl⟩
        go_wp2_with fail
        refine (NM.out _).mono ?_; rintro e v2 ⟨rfl, rfl⟩
        go_wp2_with fail
        go_ret
        exact ⟨rfl, (by repeat (first | exact Below.refl _ _ | refine below_drewN ?_ _ | refine Below.drew ?_ | refine Below.setCell ?_ (by first | (simp; done) | (simp; omega) | omega) _ | refine Below.alloc ?_ (by first | (simp; done) | (simp; omega) | omega) _))⟩
    · have g1 : decide (-32767 ≤ fy) = false := decide_eq_false h1
      have e : r = false := by rw [hr]; simp [h0, h1]
      rw [e]; clear e hr
      go_enter Tryz.func13, Tryz.ntmps13
      go_wp2_with fail
      refine (LT.out _).mono ?_; rintro e v1 ⟨rfl, rfl⟩
      go_wp2_with fail
      refine (NM.out _).mono ?_; rintro e v2 ⟨rfl, rfl⟩
      go_wp2_with fail
      go_ret
      exact ⟨rfl, (by repeat (first | exact Below.refl _ _ | refine below_drewN ?_ _ | refine Below.drew ?_ | refine Below.setCell ?_ (by first | (simp; done) | (simp; omega) | omega) _ | refine Below.alloc ?_ (by first | (simp; done) | (simp; omega) | omega) _))⟩
  · have g0 : (q0 == 0) = false := by rw [beq_eq_false_iff_ne]; exact h0
    have e : r = false := by rw [hr]; simp [h0]
    rw [e]; clear e hr
    go_enter Tryz.func13, Tryz.ntmps13
    go_wp2_with fail
    refine (LT.out _).mono ?_; rintro e v1 ⟨rfl, rfl⟩
    go_wp2_with fail
    refine (NM.out _).mono ?_; rintro e v2 ⟨rfl, rfl⟩
    go_wp2_with fail
    go_ret
    exact ⟨rfl, (by repeat (first | exact Below.refl _ _ | refine below_drewN ?_ _ | refine Below.drew ?_ | refine Below.setCell ?_ (by first | (simp; done) | (simp; omega) | omega) _ | refine Below.alloc ?_ (by first | (simp; done) | (simp; omega) | omega) _))⟩
end Go.Proofs.YtedbohfcbfegjaaGreatDoor
