/- The walk of CivilSteps: a day within a month. -/
import Derived.Test.YtcephkmdedjecaaSt
set_option linter.unusedVariables false
set_option linter.unusedSimpArgs false
namespace Go.Proofs.Ytcephkmdedjecaa
open Go.RowKit

set_option maxHeartbeats 4000000 in
set_option maxRecDepth 100000 in
theorem steps_a (y m d y' m' d' : Int) (w : World) (hd : rightB y m d = true) (he : rightB y' m' d' = true) (hl : d < Cal.len y m) :
    Calls Try.prog 8 #[.agg #[.int .i64 y, .int .i64 m, .int .i64 d], .agg #[.int .i64 y', .int .i64 m', .int .i64 d']] w fun e w' => e = .returned (.bool true) ∧ Below w.heap.size w w' := by
  have hD := right_true.1 hd
  have hE := right_true.1 he
  have e1 : (!(decide (Cal.num y m d < Cal.num y' m' d') == decide (cmpD y m d y' m' d' < 0))) = false := by rw [order_lt hD hE]; simp
  have e2 : (!((Cal.num y m d == Cal.num y' m' d') == (cmpD y m d y' m' d' == 0))) = false := by rw [order_eq hD hE]; simp
  have e3 : (cmpD y m d y' m' d' != IntKind.i64.wrap (-cmpD y' m' d' y m d)) = false := by
    have cb := cmpD_bd y' m' d' y m d
    rw [IntWalk.i64_in _ (by omega), ← cmpD_neg]; simp
  have mm := Cal.month_of hD
  obtain ⟨m0, m1⟩ := mm
  have lb := Cal.len_bd y m
  obtain ⟨l0, l1⟩ := lb
  have dl := hD.d1
  have d0 := hD.d0
  have y0 := hD.y0
  have y1 := hD.y1
  have HD := Lib.hid hD; clear hD
  have HE := Lib.hid hE; clear hE
  go_enter Try.func8, Try.ntmps8
  go_wp2_with fail
  refine (lives3 _).mono ?_; rintro e w1 ⟨rfl, b1⟩
  have S1 : RowKit.Hid (Below w.heap.size w w1 ∧ w.heap.size + 1 < w1.heap.size ∧ w1.cell? ⟨w.heap.size, 0, none⟩ = some (.int .i64 y) ∧ w1.cell? ⟨w.heap.size, 1, none⟩ = some (.int .i64 m) ∧ w1.cell? ⟨w.heap.size, 2, none⟩ = some (.int .i64 d) ∧ w1.cell? ⟨w.heap.size + 1, 0, none⟩ = some (.int .i64 y') ∧ w1.cell? ⟨w.heap.size + 1, 1, none⟩ = some (.int .i64 m') ∧ w1.cell? ⟨w.heap.size + 1, 2, none⟩ = some (.int .i64 d')) :=
    two_keep b1 ⟨by go_grown, by simp [go_sem]⟩
  clear b1
  obtain ⟨-, z, k0, k1, k2, g0, g1, g2⟩ := id S1.out
  go_wp2_with fail
  refine (days_yes _ _ _ _ hd).mono ?_; rintro e w2 ⟨rfl, b2⟩
  have S2 := Lib.hid (two_keep b2 S1.out)
  clear S1 b2 z k0 k1 k2 g0 g1 g2
  obtain ⟨-, z, k0, k1, k2, g0, g1, g2⟩ := id S2.out
  go_wp2_with fail
  refine (days_yes _ _ _ _ he).mono ?_; rintro e w3 ⟨rfl, b3⟩
  have S3 := Lib.hid (two_keep b3 S2.out)
  clear S2 b3 z k0 k1 k2 g0 g1 g2
  obtain ⟨-, z, k0, k1, k2, g0, g1, g2⟩ := id S3.out
  go_wp2_with fail
  go_region_held3 (fun W => Below w.heap.size w W ∧ w.heap.size + 1 < W.heap.size ∧ W.cell? ⟨w.heap.size, 0, none⟩ = some (.int .i64 y) ∧ W.cell? ⟨w.heap.size, 1, none⟩ = some (.int .i64 m) ∧ W.cell? ⟨w.heap.size, 2, none⟩ = some (.int .i64 d) ∧ W.cell? ⟨w.heap.size + 1, 0, none⟩ = some (.int .i64 y') ∧ W.cell? ⟨w.heap.size + 1, 1, none⟩ = some (.int .i64 m') ∧ W.cell? ⟨w.heap.size + 1, 2, none⟩ = some (.int .i64 d')) (first | exact two_drew S3.out | exact two_keep ‹Below _ _ _› ‹_ ∧ _›)
    (first
      | (go_at_call 39; refine (dcompare _ _ _ _ _ _ _).mono ?_; rintro e w' ⟨rfl, hb⟩))
  clear e1 e2 S3 z k0 k1 k2 g0 g1 g2
  rename_i hx1 _ hx2 w4 hx3 hS4
  clear hx1 hx2 hx3 hb
  have S4 := Lib.hid hS4; clear hS4
  obtain ⟨-, z, k0, k1, k2, g0, g1, g2⟩ := id S4.out
  clear g0 g1 g2
  have ka0 : ∀ o, (w'.alloc o).cell? ⟨w.heap.size, 0, none⟩ = some (.int .i64 y) := fun o => by rw [World.cell?_alloc_lt _ _ _ (by show w.heap.size < _; omega)]; exact k0
  have ka1 : ∀ o, (w'.alloc o).cell? ⟨w.heap.size, 1, none⟩ = some (.int .i64 m) := fun o => by rw [World.cell?_alloc_lt _ _ _ (by show w.heap.size < _; omega)]; exact k1
  have ka2 : ∀ o, (w'.alloc o).cell? ⟨w.heap.size, 2, none⟩ = some (.int .i64 d) := fun o => by rw [World.cell?_alloc_lt _ _ _ (by show w.heap.size < _; omega)]; exact k2
  have hn : rightB y m (d + 1) = true := right_true.2 ⟨y0, y1, by omega, by omega⟩
  go_wp2_with fail
  go_quiet ((go_at_call 33; first | exact q_same (len_any _ _ _) | exact q_same2 (len_any _ _ _)))
  go_wp2_with fail
  have hN := right_true.1 hn
  have xb := Cal.num_range hN
  obtain ⟨x0, x1⟩ := xb
  have xa := Cal.num_range HD.out
  obtain ⟨x2, x3⟩ := xa
  clear hN
  have nn : Cal.num y m (d + 1) = Cal.num y m d + 1 := by unfold Cal.num; omega
  have f1 : (Cal.num y m (d + 1) == Cal.num y m d + 1) = true := beq_iff_eq.2 nn
  have f2 : ((Cal.num y m (d + 1) + 4) % 7 == (Cal.num y m d + 4 + 1) % 7) = true := beq_iff_eq.2 (by rw [nn]; omega)
  have f3 : (Cal.cum y m + (d + 1) == Cal.cum y m + d + 1) = true := beq_iff_eq.2 (by omega)
  have cc := Cal.cum_bd y m m0 m1
  obtain ⟨c0, c1⟩ := cc
  have c2 := Cal.lp_01 y
  obtain ⟨c2, c3⟩ := c2
  clear nn
  refine (days_yes y m (d + 1) _ hn).mono ?_; rintro e w5 ⟨rfl, b5⟩
  have T5 := Dates.keep (Dates.new (Nat.le_refl _) S4.out) b5
  have z5 := T5.hb; have k50 := T5.k0; have k51 := T5.k1; have k52 := T5.k2
  clear b5 S4 ka0 ka1 ka2 k0 k1 k2 z
  go_wp2_with fail
  refine (yearDay_yes y m d _ hd).mono ?_; rintro e w6 ⟨rfl, b6⟩
  have T6 := T5.keep b6
  have g60 := T6.g0; have g61 := T6.g1; have g62 := T6.g2
  clear b6 T5 k50 k51 k52 z5
  go_wp2_with fail
  refine (yearDay_yes y m (d + 1) _ hn).mono ?_; rintro e w7 ⟨rfl, b7⟩
  have T7 := T6.keep b7
  have k70 := T7.k0
  clear b7 T6 g60 g61 g62
  go_wp2_with (first
    | (go_at_call 37; refine (weekday_any _ _ (by omega) (by omega)).mono ?_; rintro e w' ⟨rfl, k, rfl⟩)
    | (go_at_call 33; refine (len_any _ _ _).mono ?_; rintro e w' ⟨rfl, rfl⟩))
  go_ret
  refine ⟨rfl, ?_⟩
  repeat (first | exact T7.bel | refine below_drewN ?_ _)
end Go.Proofs.Ytcephkmdedjecaa
