/- Joined: One, RefB, CivT, StR0. -/
import Derived.Test.YtlelpeocbgjmhaaGreatDoorCa01
import Derived.Test.YtlelpeocbgjmhaaGreatDoorCa21
import Derived.Test.YtlelpeocbgjmhaaGreatDoorCa04
import Derived.Test.YtlelpeocbgjmhaaGreatDoorCa02
/- A date in a block of its own, through calls. -/
set_option linter.unusedVariables false
set_option linter.unusedSimpArgs false
namespace Go.Proofs.YtlelpeocbgjmhaaGreatDoor
open Go.RowKit

/-- A date lies in the block b; nothing old has turned. -/
structure One (w W : World) (b : Nat) (v0 v1 v2 : Value) : Prop where
  bel : Below w.heap.size w W
  hb : b < W.heap.size
  k0 : W.cell? ⟨b, 0, none⟩ = some v0
  k1 : W.cell? ⟨b, 1, none⟩ = some v1
  k2 : W.cell? ⟨b, 2, none⟩ = some v2
theorem One.keep {w W W' : World} {b : Nat} {v0 v1 v2 : Value} (h : One w W b v0 v1 v2) (k : Below W.heap.size W W') : One w W' b v0 v1 v2 := by
  obtain ⟨hw, hb, h0, h1, h2⟩ := h
  have z := k.size
  refine ⟨below_step hw k, by omega, ?_, ?_, ?_⟩ <;> (rw [k.cell (p := ⟨b, _, none⟩) (by show b < _; omega)]; assumption)
theorem One.alloc {w W : World} {b : Nat} {v0 v1 v2 : Value} (h : One w W b v0 v1 v2) (o : Obj) : One w (W.alloc o) b v0 v1 v2 :=
  h.keep ((Below.refl _ _).alloc (Nat.le_refl _) _)
theorem One.draw {w W : World} {b : Nat} {v0 v1 v2 : Value} (h : One w W b v0 v1 v2) (n : Nat) : One w (W.drewN n) b v0 v1 v2 :=
  h.keep (below_draw _ _)
theorem One.new {w W : World} {v0 v1 v2 : Value} {t : TypeId} (h : Below w.heap.size w W) : One w (W.alloc (.cells #[v0, v1, v2] t)) W.heap.size v0 v1 v2 :=
  ⟨below_step h ((Below.refl _ _).alloc (Nat.le_refl _) _), by simp, by simp [go_sem], by simp [go_sem], by simp [go_sem]⟩
theorem one_keep {w : World} {b : Nat} {W W' : World} {v0 v1 v2 : Value} (hb : Below W.heap.size W W')
    (h : Below w.heap.size w W ∧ b < W.heap.size ∧ W.cell? ⟨b, 0, none⟩ = some v0 ∧ W.cell? ⟨b, 1, none⟩ = some v1 ∧ W.cell? ⟨b, 2, none⟩ = some v2) :
    Below w.heap.size w W' ∧ b < W'.heap.size ∧ W'.cell? ⟨b, 0, none⟩ = some v0 ∧ W'.cell? ⟨b, 1, none⟩ = some v1 ∧ W'.cell? ⟨b, 2, none⟩ = some v2 := by
  obtain ⟨a1, a2, a3, a4, a5⟩ := h
  obtain ⟨b1, b2, b3, b4, b5⟩ := One.keep ⟨a1, a2, a3, a4, a5⟩ hb
  exact ⟨b1, b2, b3, b4, b5⟩
/-- Two dates lie in the blocks b and c; nothing old has turned. -/
structure Two2 (w W : World) (b c : Nat) (v0 v1 v2 u0 u1 u2 : Value) : Prop where
  bel : Below w.heap.size w W
  hb : b < W.heap.size
  hc : c < W.heap.size
  k0 : W.cell? ⟨b, 0, none⟩ = some v0
  k1 : W.cell? ⟨b, 1, none⟩ = some v1
  k2 : W.cell? ⟨b, 2, none⟩ = some v2
  g0 : W.cell? ⟨c, 0, none⟩ = some u0
  g1 : W.cell? ⟨c, 1, none⟩ = some u1
  g2 : W.cell? ⟨c, 2, none⟩ = some u2
theorem Two2.keep {w W W' : World} {b c : Nat} {v0 v1 v2 u0 u1 u2 : Value} (h : Two2 w W b c v0 v1 v2 u0 u1 u2) (k : Below W.heap.size W W') : Two2 w W' b c v0 v1 v2 u0 u1 u2 := by
  obtain ⟨hw, hb, hc, h0, h1, h2, g0, g1, g2⟩ := h
  have z := k.size
  refine ⟨below_step hw k, by omega, by omega, ?_, ?_, ?_, ?_, ?_, ?_⟩ <;> (first | rw [k.cell (p := ⟨b, _, none⟩) (by show b < _; omega)]; assumption | rw [k.cell (p := ⟨c, _, none⟩) (by show c < _; omega)]; assumption)
theorem four_keep {w : World} {b c p q : Nat} {W W' : World} {v0 v1 v2 u0 u1 u2 x0 x1 x2 z0 z1 z2 : Value} (k : Below W.heap.size W W')
    (h : Below w.heap.size w W ∧ b < W.heap.size ∧ c < W.heap.size ∧ p < W.heap.size ∧ q < W.heap.size ∧ W.cell? ⟨b, 0, none⟩ = some v0 ∧ W.cell? ⟨b, 1, none⟩ = some v1 ∧ W.cell? ⟨b, 2, none⟩ = some v2 ∧ W.cell? ⟨c, 0, none⟩ = some u0 ∧ W.cell? ⟨c, 1, none⟩ = some u1 ∧ W.cell? ⟨c, 2, none⟩ = some u2 ∧ W.cell? ⟨p, 0, none⟩ = some x0 ∧ W.cell? ⟨p, 1, none⟩ = some x1 ∧ W.cell? ⟨p, 2, none⟩ = some x2 ∧ W.cell? ⟨q, 0, none⟩ = some z0 ∧ W.cell? ⟨q, 1, none⟩ = some z1 ∧ W.cell? ⟨q, 2, none⟩ = some z2) :
    Below w.heap.size w W' ∧ b < W'.heap.size ∧ c < W'.heap.size ∧ p < W'.heap.size ∧ q < W'.heap.size ∧ W'.cell? ⟨b, 0, none⟩ = some v0 ∧ W'.cell? ⟨b, 1, none⟩ = some v1 ∧ W'.cell? ⟨b, 2, none⟩ = some v2 ∧ W'.cell? ⟨c, 0, none⟩ = some u0 ∧ W'.cell? ⟨c, 1, none⟩ = some u1 ∧ W'.cell? ⟨c, 2, none⟩ = some u2 ∧ W'.cell? ⟨p, 0, none⟩ = some x0 ∧ W'.cell? ⟨p, 1, none⟩ = some x1 ∧ W'.cell? ⟨p, 2, none⟩ = some x2 ∧ W'.cell? ⟨q, 0, none⟩ = some z0 ∧ W'.cell? ⟨q, 1, none⟩ = some z1 ∧ W'.cell? ⟨q, 2, none⟩ = some z2 := by
  obtain ⟨hw, hb, hc, hp, hq, h0, h1, h2, g0, g1, g2, p0, p1, p2, q0, q1, q2⟩ := h
  have z := k.size
  refine ⟨below_step hw k, by omega, by omega, by omega, by omega, ?_, ?_, ?_, ?_, ?_, ?_, ?_, ?_, ?_, ?_, ?_, ?_⟩ <;> (first | rw [k.cell (p := ⟨b, _, none⟩) (by show b < _; omega)]; assumption | rw [k.cell (p := ⟨c, _, none⟩) (by show c < _; omega)]; assumption | rw [k.cell (p := ⟨p, _, none⟩) (by show p < _; omega)]; assumption | rw [k.cell (p := ⟨q, _, none⟩) (by show q < _; omega)]; assumption)
theorem four_drew {w : World} {b c p q : Nat} {W : World} {v0 v1 v2 u0 u1 u2 x0 x1 x2 z0 z1 z2 : Value}
    (h : Below w.heap.size w W ∧ b < W.heap.size ∧ c < W.heap.size ∧ p < W.heap.size ∧ q < W.heap.size ∧ W.cell? ⟨b, 0, none⟩ = some v0 ∧ W.cell? ⟨b, 1, none⟩ = some v1 ∧ W.cell? ⟨b, 2, none⟩ = some v2 ∧ W.cell? ⟨c, 0, none⟩ = some u0 ∧ W.cell? ⟨c, 1, none⟩ = some u1 ∧ W.cell? ⟨c, 2, none⟩ = some u2 ∧ W.cell? ⟨p, 0, none⟩ = some x0 ∧ W.cell? ⟨p, 1, none⟩ = some x1 ∧ W.cell? ⟨p, 2, none⟩ = some x2 ∧ W.cell? ⟨q, 0, none⟩ = some z0 ∧ W.cell? ⟨q, 1, none⟩ = some z1 ∧ W.cell? ⟨q, 2, none⟩ = some z2) :
    Below w.heap.size w W.drew ∧ b < W.drew.heap.size ∧ c < W.drew.heap.size ∧ p < W.drew.heap.size ∧ q < W.drew.heap.size ∧ W.drew.cell? ⟨b, 0, none⟩ = some v0 ∧ W.drew.cell? ⟨b, 1, none⟩ = some v1 ∧ W.drew.cell? ⟨b, 2, none⟩ = some v2 ∧ W.drew.cell? ⟨c, 0, none⟩ = some u0 ∧ W.drew.cell? ⟨c, 1, none⟩ = some u1 ∧ W.drew.cell? ⟨c, 2, none⟩ = some u2 ∧ W.drew.cell? ⟨p, 0, none⟩ = some x0 ∧ W.drew.cell? ⟨p, 1, none⟩ = some x1 ∧ W.drew.cell? ⟨p, 2, none⟩ = some x2 ∧ W.drew.cell? ⟨q, 0, none⟩ = some z0 ∧ W.drew.cell? ⟨q, 1, none⟩ = some z1 ∧ W.drew.cell? ⟨q, 2, none⟩ = some z2 := ⟨h.1.drew, h.2⟩
end Go.Proofs.YtlelpeocbgjmhaaGreatDoor

/- The contracts of the reference's functions on dates: Len, Right, YearDay, Days. -/
set_option linter.unusedVariables false
set_option linter.unusedSimpArgs false
namespace Go.Proofs.YtlelpeocbgjmhaaGreatDoor
open Go.RowKit

set_option maxHeartbeats 2000000 in
theorem rright_any (y m d : Int) (w : World) :
    Calls Tryz.prog 93 #[.agg #[.int .i64 y, .int .i64 m, .int .i64 d]] w fun e w' => e = .returned (.bool (rightB y m d)) ∧ Below w.heap.size w w' := by
  by_cases h1 : -40000 ≤ y
  · by_cases h2 : y ≤ 40000
    · by_cases h3 : 1 ≤ d
      · have O := One.new (t := 70) (v0 := .int .i64 y) (v1 := .int .i64 m) (v2 := .int .i64 d) (Below.refl w.heap.size w)
        go_enter Tryz.func93, Tryz.ntmps93
        go_wp2
        go_region_held3 (fun W => Below w.heap.size w W ∧ w.heap.size < W.heap.size ∧ W.cell? ⟨w.heap.size, 0, none⟩ = some (.int .i64 y) ∧ W.cell? ⟨w.heap.size, 1, none⟩ = some (.int .i64 m) ∧ W.cell? ⟨w.heap.size, 2, none⟩ = some (.int .i64 d)) (first | exact ⟨O.bel.drew, O.hb, O.k0, O.k1, O.k2⟩ | exact one_keep ‹Below _ _ _› ‹_ ∧ _›)
          (first
            | (go_at_call 91; refine (rlen_any _ _ _).mono ?_; rintro e w' ⟨rfl, hb⟩))
        rename_i hS
        have B := Lib.hid hS.1
        go_wp2
        go_ret
        exact ⟨right_br (by simp [h1, h2, h3]), B.out⟩
      · have hd : decide (1 ≤ d) = false := by simpa using h3
        go_enter Tryz.func93, Tryz.ntmps93
        go_wp2
        go_quiet (fail)
        go_wp2
        go_ret
        exact ⟨right_br (by simp; omega), below_new _ _ _⟩
    · have hd : decide (y ≤ 40000) = false := by simpa using h2
      go_enter Tryz.func93, Tryz.ntmps93
      go_wp2
      go_quiet (fail)
      go_wp2
      go_ret
      exact ⟨right_br (by simp; omega), below_new _ _ _⟩
  · have hd : decide (-40000 ≤ y) = false := by simpa using h1
    go_enter Tryz.func93, Tryz.ntmps93
    go_wp2
    go_quiet (fail)
    go_wp2
    go_ret
    exact ⟨right_br (by simp; omega), below_new _ _ _⟩


end Go.Proofs.YtlelpeocbgjmhaaGreatDoor

/- civil's answers as functions of what is handed in. -/
set_option linter.unusedVariables false
set_option linter.unusedSimpArgs false
namespace Go.Proofs.YtlelpeocbgjmhaaGreatDoor
open Go.RowKit

namespace Cal
def why (b : Bool) : Int := if b then 0 else 1
def orz (b : Bool) (n : Int) : Int := if b then n else 0
/-- Has a number a date? -/
def hasD (n : Int) : Bool := decide (-15329228 ≤ n ∧ n ≤ 13890537)
theorem hasD_true {n : Int} : hasD n = true ↔ -15329228 ≤ n ∧ n ≤ 13890537 := by unfold hasD; simp
end Cal
theorem date_any (n : Int) (w : World) :
    Calls Tryz.prog 62 #[.int .i64 n] w fun e w' => e = .returned (.tuple #[.agg #[.int .i64 (Cal.orz (Cal.hasD n) (Cal.dY n)), .int .i64 (Cal.orz (Cal.hasD n) (Cal.dM n)), .int .i64 (Cal.orz (Cal.hasD n) (Cal.dD n))], .int .i64 (Cal.why (Cal.hasD n))]) ∧ Below w.heap.size w w' := by
  cases h : Cal.hasD n
  · refine date_no n w ?_
    have : ¬ (-15329228 ≤ n ∧ n ≤ 13890537) := fun hh => by rw [Cal.hasD_true.2 hh] at h; exact absurd h (by decide)
    omega
  · have := Cal.hasD_true.1 h
    exact date_yes n w this.1 this.2
end Go.Proofs.YtlelpeocbgjmhaaGreatDoor

/- May a stamp be? Its text. -/
set_option linter.unusedVariables false
namespace Go.Proofs.YtlelpeocbgjmhaaGreatDoor
open Go.RowKit

namespace St
/-- May a stamp be? -/
def rB (y m d h i s : Int) : Bool := rightB y m d && (decide (0 ≤ h) && (decide (h < 24) && (decide (0 ≤ i) && (decide (i < 60) && (decide (0 ≤ s) && decide (s < 60))))))
theorem rB_true {y m d h i s : Int} : rB y m d h i s = true ↔ rightB y m d = true ∧ 0 ≤ h ∧ h < 24 ∧ 0 ≤ i ∧ i < 60 ∧ 0 ≤ s ∧ s < 60 := by unfold rB; simp
end St
namespace St
/-- A stamp's text; nothing of one that may not be. -/
def tx (y m d h i s : Int) : List UInt8 := if rB y m d h i s then Tx.txt y m d h i s else []
end St
end Go.Proofs.YtlelpeocbgjmhaaGreatDoor
