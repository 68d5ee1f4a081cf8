/- The answers that noontidelaw03.lives asks for: it is true. -/
import Derived.Test.YtcephkmdedjecaaCivC
import Derived.Test.YtcephkmdedjecaaCmp
set_option linter.unusedVariables false
set_option linter.unusedSimpArgs false
namespace Go.Proofs.Ytcephkmdedjecaa
open Go.RowKit

set_option maxHeartbeats 2000000 in
set_option maxRecDepth 100000 in
theorem lives3 (w : World) :
    Calls Try.prog 41 #[] w fun e w' => e = .returned (.bool true) ∧ Below w.heap.size w w' := by
  go_enter Try.func41, Try.ntmps41
  go_wp2_with fail
  refine (days_yes 1970 1 1 _ (by decide)).mono ?_; rintro e w1 ⟨rfl, b1⟩
  rw [show Cal.num 1970 1 1 = 0 by decide]
  go_wp2_with fail
  refine (days_yes 2000 3 1 _ (by decide)).mono ?_; rintro e w2 ⟨rfl, b2⟩
  rw [show Cal.num 2000 3 1 = 11017 by decide]
  go_wp2_with fail
  refine (date_yes (-719529) _ (by decide) (by decide)).mono ?_; rintro e w3 ⟨rfl, b3⟩
  rw [show Cal.dY (-719529) = -1 by decide, show Cal.dM (-719529) = 12 by decide, show Cal.dD (-719529) = 31 by decide]
  go_wp2_with fail
  refine (days_no 1900 2 29 _ (by decide)).mono ?_; rintro e w4 ⟨rfl, b4⟩
  have z4 := b4.size
  simp only [World.size_alloc] at z4
  have k4 : ∀ j, w4.cell? ⟨w3.heap.size, j, none⟩ = (w3.alloc (.cells #[.int .i64 (-1), .int .i64 12, .int .i64 31] 40)).cell? ⟨w3.heap.size, j, none⟩ := fun j => b4.cell (p := ⟨w3.heap.size, j, none⟩) (by simp)
  have K4 := Lib.hid k4; clear k4
  go_wp2_with fail
  refine (date_no 1099511627776 _ (by decide)).mono ?_; rintro e w5 ⟨rfl, b5⟩
  have z5 := b5.size
  have K5 : RowKit.Hid (∀ j, w5.cell? ⟨w3.heap.size, j, none⟩ = _) := fun j => (b5.cell (p := ⟨w3.heap.size, j, none⟩) (by show w3.heap.size < w4.heap.size; omega)).trans (K4.out j)
  go_wp2_with fail
  refine (yearDay_yes 2000 12 31 _ (by decide)).mono ?_; rintro e w6 ⟨rfl, b6⟩
  have z6 := b6.size
  simp only [World.size_alloc] at z6
  have K6 : RowKit.Hid (∀ j, w6.cell? ⟨w3.heap.size, j, none⟩ = _) := fun j => (b6.cell (p := ⟨w3.heap.size, j, none⟩) (by show w3.heap.size < _; simp; omega)).trans ((Below.cell (B := w5.heap.size) ((Below.refl _ _).alloc (Nat.le_refl _) _) (p := ⟨w3.heap.size, j, none⟩) (by show w3.heap.size < _; omega)).trans (K5.out j))
  rw [show Cal.cum 2000 12 + 31 = 366 by decide]
  go_wp2_with fail
  refine (yearDay_no 40001 1 1 _ (by decide)).mono ?_; rintro e w7 ⟨rfl, b7⟩
  have z7 := b7.size
  have k7 : ∀ j, w7.cell? ⟨w3.heap.size, j, none⟩ = _ := fun j => (b7.cell (p := ⟨w3.heap.size, j, none⟩) (by show w3.heap.size < _; omega)).trans (K6.out j)
  have k0 : w7.cell? ⟨w3.heap.size, 0, none⟩ = some (.int .i64 (-1)) := (k7 0).trans (by simp [go_sem])
  have k1 : w7.cell? ⟨w3.heap.size, 1, none⟩ = some (.int .i64 12) := (k7 1).trans (by simp [go_sem])
  have k2 : w7.cell? ⟨w3.heap.size, 2, none⟩ = some (.int .i64 31) := (k7 2).trans (by simp [go_sem])
  clear k7
  have q1 := b1.size
  have q2 := b2.size
  have q3 := b3.size
  have B7 : RowKit.Hid (Below w.heap.size w w7) :=
    ((((((b1.trans (b2.mono q1)).trans (b3.mono (by omega))).trans (((Below.refl _ _).alloc (by omega) _).trans (b4.mono (by simp; omega)))).trans (b5.mono (by omega))).trans (((Below.refl _ _).alloc (by omega) _).trans (b6.mono (by simp; omega)))).trans (b7.mono (by omega)))
  clear q1 q2 q3 K4 K5 K6 b1 b2 b3 b4 b5 b6 b7 z4 z5 z6 z7
  have a1 : lpB 2000 = true := by decide
  have a2 : lpB 1900 = false := by decide
  have a3 : lpB (-4) = true := by decide
  have a4 : lpB 0 = true := by decide
  have a5 : Cal.len 2001 2 = 28 := by decide
  have a6 : Cal.len 2001 13 = 0 := by decide
  have a7 : Cal.len 2001 12 = 31 := by decide
  have a8 : rightB 0 2 29 = true := by decide
  have a9 : rightB 1 4 31 = false := by decide
  have a10 : cmpD 1 2 3 1 3 0 = -1 := by decide
  have a11 : cmpD 0 0 2 0 0 1 = 1 := by decide
  have a12 : cmpD 0 0 0 0 0 0 = 0 := by decide
  go_wp2_with (first
    | (go_at_call 37; refine (weekday_any _ _ (by omega) (by omega)).mono ?_; rintro e w' ⟨rfl, k, rfl⟩)
    | (go_at_call 31; refine (leap_any _ _).mono ?_; rintro e w' ⟨rfl, rfl⟩)
    | (go_at_call 33; refine (len_any _ _ _).mono ?_; rintro e w' ⟨rfl, rfl⟩))
  refine (right_any _ _ _ _).mono ?_; rintro e w8 ⟨rfl, b8⟩
  have B8 : RowKit.Hid (Below w.heap.size w w8) := below_step (below_drewN B7.out _) b8
  clear k0 k1 k2 B7 b8
  go_wp2_with fail
  refine (right_any _ _ _ _).mono ?_; rintro e w9 ⟨rfl, b9⟩
  have B9 : RowKit.Hid (Below w.heap.size w w9) := below_step B8.out b9
  clear B8 b9
  go_wp2_with fail
  refine (dcompare _ _ _ _ _ _ _).mono ?_; rintro e w10 ⟨rfl, b10⟩
  have B10 : RowKit.Hid (Below w.heap.size w w10) := below_step B9.out b10
  clear B9 b10
  go_wp2_with fail
  refine (dcompare _ _ _ _ _ _ _).mono ?_; rintro e w11 ⟨rfl, b11⟩
  have B11 : RowKit.Hid (Below w.heap.size w w11) := below_step B10.out b11
  clear B10 b11
  go_wp2_with fail
  refine (dcompare _ _ _ _ _ _ _).mono ?_; rintro e w12 ⟨rfl, b12⟩
  have B12 : RowKit.Hid (Below w.heap.size w w12) := below_step B11.out b12
  clear B11 b12
  go_wp2_with fail
  go_ret
  exact ⟨rfl, B12.out⟩
end Go.Proofs.Ytcephkmdedjecaa
