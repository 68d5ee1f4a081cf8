/- The answers that noontidelaw02.lives asks for: it is true. -/
import Derived.Test.YtndophkojnfcaaaSum
import Derived.Test.YtndophkojnfcaaaPair
set_option linter.unusedVariables false
set_option linter.unusedSimpArgs false
namespace Go.Proofs.Ytndophkojnfcaaa
open Go.RowKit Go.Sort Go.Pairs

theorem Eqv_lit {r c : Nat} (h : Fl.Eqv r c) (hc : Fl.nan c = false) : r = c := by
  rcases h.2 with e | ⟨_, e⟩
  · exact e
  · rw [hc] at e; cases e
theorem Rd_lit {way : Ieee.Toward} {x y v : Nat} (h : Fl.Rd way x y) (hn : Fl.nan x = false) (hv : Fl.itg way x = v) : y = v := (h.2.2 hn).trans hv
theorem below_of_draw {W w' : World} {k : Nat} (h : w' = W.drewN k) : Below W.heap.size W w' := by rw [h]; exact below_draw _ _
theorem ck2 {W W' : World} {a : Addr} {v : Value} (k : Below W.heap.size W W') (h : W.cell? a = some v) : W'.cell? a = some v := (k.cell (World.block_lt_of_cell? _ _ h)).trans h
theorem keep5 {w W W' : World} {a0 a1 a2 a3 a4 : Addr} {v0 v1 v2 v3 v4 : Value} (k : Below W.heap.size W W')
    (h : Below w.heap.size w W ∧ W.cell? a0 = some v0 ∧ W.cell? a1 = some v1 ∧ W.cell? a2 = some v2 ∧ W.cell? a3 = some v3 ∧ W.cell? a4 = some v4) :
    Below w.heap.size w W' ∧ W'.cell? a0 = some v0 ∧ W'.cell? a1 = some v1 ∧ W'.cell? a2 = some v2 ∧ W'.cell? a3 = some v3 ∧ W'.cell? a4 = some v4 := by
  obtain ⟨hb, h0, h1, h2, h3, h4⟩ := h
  exact ⟨below_step hb k, ck2 k h0, ck2 k h1, ck2 k h2, ck2 k h3, ck2 k h4⟩
theorem three_cells {w : World} {b : Nat} {x y z : Value} (h0 : w.cell? ⟨b, 0, none⟩ = some x) (h1 : w.cell? ⟨b, 1, none⟩ = some y) (h2 : w.cell? ⟨b, 2, none⟩ = some z) : ∀ (j : Nat) (v : Value), [x, y, z][j]? = some v → w.cell? ((⟨b, 0, none⟩ : Addr).add j) = some v := by
  intro j v hj
  match j, hj with
  | 0, hj => simp at hj; subst hj; simpa [Addr.add] using h0
  | 1, hj => simp at hj; subst hj; simpa [Addr.add] using h1
  | 2, hj => simp at hj; subst hj; simpa [Addr.add] using h2
theorem one_cell {w : World} {b : Nat} {x : Value} (h0 : w.cell? ⟨b, 0, none⟩ = some x) : ∀ (j : Nat) (v : Value), [x][j]? = some v → w.cell? ((⟨b, 0, none⟩ : Addr).add j) = some v := by
  intro j v hj
  match j, hj with
  | 0, hj => simp at hj; subst hj; simpa [Addr.add] using h0
set_option maxHeartbeats 16000000 in
set_option maxRecDepth 100000 in
theorem lives2 (w : World) :
    Calls Try.prog 9 #[] w fun e w' => e = .returned (.bool true) ∧ Below w.heap.size w w' := by
  go_enter Try.func9, Try.ntmps9
  go_wp2_with fail
  refine (edges_any _).mono ?_; rintro e w1 ⟨q, b, hq, hq2, rfl, E1, b1⟩
  have B1 := Lib.hid b1; have HQ := Lib.hid hq; have HQ2 := Lib.hid hq2
  have KQ := Lib.hid (Fl.kd_nan2 hq)
  clear b1 hq hq2
  have cE_b := E1.hb
  have cE_f := E1.fz
  have cE_0 := E1.k0
  have cE_1 := E1.k1
  have cE_2 := E1.k2
  have cE_3 := E1.k3
  have cE_4 := E1.k4
  go_wp2_with fail
  clear cE_b cE_f cE_0 cE_1 cE_2 cE_3 cE_4
  refine wp_named ?_; intro w2 hw2
  have d2 : Below w1.heap.size w1 w2 := by rw [hw2]; exact (by repeat (first | exact Below.refl _ _ | refine below_drewN ?_ _ | refine Below.drew ?_ | refine Below.setCell ?_ (by first | (simp; done) | (simp; omega) | omega) _ | refine Below.alloc ?_ (by first | (simp; done) | (simp; omega) | omega) _))
  have B2 := Lib.hid (below_step B1.out d2)
  have E2 := E1.keep d2
  have aK := B1.out.size
  have K2 : Bk5 w2 (w1.heap.size) (.int .i64 0) (.int .i64 1) (.int .i64 3) (.int .i64 4) (.int .i64 6) := by rw [hw2]; exact ⟨by simp <;> omega, by intro j; simp [go_sem], by simp [go_sem], by simp [go_sem], by simp [go_sem], by simp [go_sem], by simp [go_sem]⟩
  clear E1 d2 hw2 B1
  refine wp_loop_rounds 6 ?_
  rw [rounds_succ]
  have cE_b := E2.hb
  have cE_f := E2.fz
  have cE_0 := E2.k0
  have cE_1 := E2.k1
  have cE_2 := E2.k2
  have cE_3 := E2.k3
  have cE_4 := E2.k4
  have cK_b := K2.hb
  have cK_f := K2.fz
  have cK_0 := K2.k0
  have cK_1 := K2.k1
  have cK_2 := K2.k2
  have cK_3 := K2.k3
  have cK_4 := K2.k4
  go_wp2_with fail
  go_quiet ((go_at_call 16; exact Calls.quiet_of_same ((kind_any q HQ2.out _).mono fun _ _ ⟨h1, h2⟩ => ⟨h1, h2.symm⟩)))
  clear cE_b cE_f cE_0 cE_1 cE_2 cE_3 cE_4 cK_b cK_f cK_0 cK_1 cK_2 cK_3 cK_4
  generalize hW3 : World.drewN w2 _ = w3
  have b3 : Below w2.heap.size w2 w3 := by rw [← hW3]; exact below_draw _ _
  clear hW3
  have d3 : Below w2.heap.size w2 w3 := below_step (by repeat (first | exact Below.refl _ _ | refine below_drewN ?_ _ | refine Below.drew ?_ | refine Below.setCell ?_ (by first | (simp; done) | (simp; omega) | omega) _ | refine Below.alloc ?_ (by first | (simp; done) | (simp; omega) | omega) _)) b3
  have B3 := Lib.hid (below_step B2.out d3)
  have E3 := E2.keep d3
  have K3 := K2.keep d3
  clear E2 K2 b3 d3 B2
  rw [show Fl.kd (Fl.rk q) = 0 from KQ.out]
  go_wp2_with fail
  rw [rounds_succ]
  have cE_b := E3.hb
  have cE_f := E3.fz
  have cE_0 := E3.k0
  have cE_1 := E3.k1
  have cE_2 := E3.k2
  have cE_3 := E3.k3
  have cE_4 := E3.k4
  have cK_b := K3.hb
  have cK_f := K3.fz
  have cK_0 := K3.k0
  have cK_1 := K3.k1
  have cK_2 := K3.k2
  have cK_3 := K3.k3
  have cK_4 := K3.k4
  go_wp2_with fail
  go_quiet ((go_at_call 16; exact Calls.quiet_of_same ((kind_any 18442240474082181120 (by decide) _).mono fun _ _ ⟨h1, h2⟩ => ⟨h1, h2.symm⟩)))
  clear cE_b cE_f cE_0 cE_1 cE_2 cE_3 cE_4 cK_b cK_f cK_0 cK_1 cK_2 cK_3 cK_4
  generalize hW4 : World.drewN w3 _ = w4
  have b4 : Below w3.heap.size w3 w4 := by rw [← hW4]; exact below_draw _ _
  clear hW4
  have d4 : Below w3.heap.size w3 w4 := below_step (by repeat (first | exact Below.refl _ _ | refine below_drewN ?_ _ | refine Below.drew ?_ | refine Below.setCell ?_ (by first | (simp; done) | (simp; omega) | omega) _ | refine Below.alloc ?_ (by first | (simp; done) | (simp; omega) | omega) _)) b4
  have B4 := Lib.hid (below_step B3.out d4)
  have E4 := E3.keep d4
  have K4 := K3.keep d4
  clear E3 K3 b4 d4 B3
  rw [show Fl.kd (Fl.rk 18442240474082181120) = 1 from by decide +kernel]
  go_wp2_with fail
  rw [rounds_succ]
  have cE_b := E4.hb
  have cE_f := E4.fz
  have cE_0 := E4.k0
  have cE_1 := E4.k1
  have cE_2 := E4.k2
  have cE_3 := E4.k3
  have cE_4 := E4.k4
  have cK_b := K4.hb
  have cK_f := K4.fz
  have cK_0 := K4.k0
  have cK_1 := K4.k1
  have cK_2 := K4.k2
  have cK_3 := K4.k3
  have cK_4 := K4.k4
  go_wp2_with fail
  go_quiet ((go_at_call 16; exact Calls.quiet_of_same ((kind_any 9223372036854775808 (by decide) _).mono fun _ _ ⟨h1, h2⟩ => ⟨h1, h2.symm⟩)))
  clear cE_b cE_f cE_0 cE_1 cE_2 cE_3 cE_4 cK_b cK_f cK_0 cK_1 cK_2 cK_3 cK_4
  generalize hW5 : World.drewN w4 _ = w5
  have b5 : Below w4.heap.size w4 w5 := by rw [← hW5]; exact below_draw _ _
  clear hW5
  have d5 : Below w4.heap.size w4 w5 := below_step (by repeat (first | exact Below.refl _ _ | refine below_drewN ?_ _ | refine Below.drew ?_ | refine Below.setCell ?_ (by first | (simp; done) | (simp; omega) | omega) _ | refine Below.alloc ?_ (by first | (simp; done) | (simp; omega) | omega) _)) b5
  have B5 := Lib.hid (below_step B4.out d5)
  have E5 := E4.keep d5
  have K5 := K4.keep d5
  clear E4 K4 b5 d5 B4
  rw [show Fl.kd (Fl.rk 9223372036854775808) = 3 from by decide +kernel]
  go_wp2_with fail
  rw [rounds_succ]
  have cE_b := E5.hb
  have cE_f := E5.fz
  have cE_0 := E5.k0
  have cE_1 := E5.k1
  have cE_2 := E5.k2
  have cE_3 := E5.k3
  have cE_4 := E5.k4
  have cK_b := K5.hb
  have cK_f := K5.fz
  have cK_0 := K5.k0
  have cK_1 := K5.k1
  have cK_2 := K5.k2
  have cK_3 := K5.k3
  have cK_4 := K5.k4
  go_wp2_with fail
  go_quiet ((go_at_call 16; exact Calls.quiet_of_same ((kind_any 0 (by decide) _).mono fun _ _ ⟨h1, h2⟩ => ⟨h1, h2.symm⟩)))
  clear cE_b cE_f cE_0 cE_1 cE_2 cE_3 cE_4 cK_b cK_f cK_0 cK_1 cK_2 cK_3 cK_4
  generalize hW6 : World.drewN w5 _ = w6
  have b6 : Below w5.heap.size w5 w6 := by rw [← hW6]; exact below_draw _ _
  clear hW6
  have d6 : Below w5.heap.size w5 w6 := below_step (by repeat (first | exact Below.refl _ _ | refine below_drewN ?_ _ | refine Below.drew ?_ | refine Below.setCell ?_ (by first | (simp; done) | (simp; omega) | omega) _ | refine Below.alloc ?_ (by first | (simp; done) | (simp; omega) | omega) _)) b6
  have B6 := Lib.hid (below_step B5.out d6)
  have E6 := E5.keep d6
  have K6 := K5.keep d6
  clear E5 K5 b6 d6 B5
  rw [show Fl.kd (Fl.rk 0) = 4 from by decide +kernel]
  go_wp2_with fail
  rw [rounds_succ]
  have cE_b := E6.hb
  have cE_f := E6.fz
  have cE_0 := E6.k0
  have cE_1 := E6.k1
  have cE_2 := E6.k2
  have cE_3 := E6.k3
  have cE_4 := E6.k4
  have cK_b := K6.hb
  have cK_f := K6.fz
  have cK_0 := K6.k0
  have cK_1 := K6.k1
  have cK_2 := K6.k2
  have cK_3 := K6.k3
  have cK_4 := K6.k4
  go_wp2_with fail
  go_quiet ((go_at_call 16; exact Calls.quiet_of_same ((kind_any 9218868437227405312 (by decide) _).mono fun _ _ ⟨h1, h2⟩ => ⟨h1, h2.symm⟩)))
  clear cE_b cE_f cE_0 cE_1 cE_2 cE_3 cE_4 cK_b cK_f cK_0 cK_1 cK_2 cK_3 cK_4
  generalize hW7 : World.drewN w6 _ = w7
  have b7 : Below w6.heap.size w6 w7 := by rw [← hW7]; exact below_draw _ _
  clear hW7
  have d7 : Below w6.heap.size w6 w7 := below_step (by repeat (first | exact Below.refl _ _ | refine below_drewN ?_ _ | refine Below.drew ?_ | refine Below.setCell ?_ (by first | (simp; done) | (simp; omega) | omega) _ | refine Below.alloc ?_ (by first | (simp; done) | (simp; omega) | omega) _)) b7
  have B7 := Lib.hid (below_step B6.out d7)
  have E7 := E6.keep d7
  have K7 := K6.keep d7
  clear E6 K6 b7 d7 B6
  rw [show Fl.kd (Fl.rk 9218868437227405312) = 6 from by decide +kernel]
  go_wp2_with fail
  rw [rounds_succ]
  clear K7 aK
  have cE_b := E7.hb
  have cE_f := E7.fz
  have cE_0 := E7.k0
  have cE_1 := E7.k1
  have cE_2 := E7.k2
  have cE_3 := E7.k3
  have cE_4 := E7.k4
  go_wp2_with fail
  refine (round_up 13826050856027422720 (by decide) _).mono ?_; rintro e v1 ⟨y1, n1, hy1, rfl, rfl⟩
  obtain rfl := Rd_lit hy1 (by decide +kernel) (show Fl.itg .up 13826050856027422720 = 9223372036854775808 by decide +kernel)
  clear hy1
  go_wp2_with fail
  refine (round_even 4612811918334230528 (by decide) _).mono ?_; rintro e v2 ⟨y2, n2, hy2, rfl, rfl⟩
  obtain rfl := Rd_lit hy2 (by decide +kernel) (show Fl.itg .even 4612811918334230528 = 4611686018427387904 by decide +kernel)
  clear hy2
  go_wp2_with fail
  refine (round_down 13836183955189006336 (by decide) _).mono ?_; rintro e v3 ⟨y3, n3, hy3, rfl, rfl⟩
  obtain rfl := Rd_lit hy3 (by decide +kernel) (show Fl.itg .down 13836183955189006336 = 13837309855095848960 by decide +kernel)
  clear hy3
  go_wp2_with fail
  refine (round_no 4607182418800017408 0 (by decide) _).mono ?_; rintro e v4 ⟨rfl, rfl⟩
  go_wp2_with fail
  refine (whole_any 14114281232179134464 1 (by decide) (by decide) (by decide) _).mono ?_; rintro e v5 ⟨rfl, n5, rfl⟩
  rw [show Fl.wv (Fl.wayOf 1) 14114281232179134464 = -9223372036854775808 by decide +kernel, show Fl.ww (Fl.wayOf 1) 14114281232179134464 = 0 by decide +kernel]
  go_wp2_with fail
  refine (whole_any 4890909195324358656 1 (by decide) (by decide) (by decide) _).mono ?_; rintro e v6 ⟨rfl, n6, rfl⟩
  rw [show Fl.wv (Fl.wayOf 1) 4890909195324358656 = 0 by decide +kernel, show Fl.ww (Fl.wayOf 1) 4890909195324358656 = 1 by decide +kernel]
  go_wp2_with fail
  refine (whole_any q 2 HQ2.out (by decide) (by decide) _).mono ?_; rintro e v7 ⟨rfl, n7, rfl⟩
  rw [show Fl.ww (Fl.wayOf 2) q = 18 from by unfold Fl.ww; rw [HQ.out, if_pos rfl], show Fl.wv (Fl.wayOf 2) q = 0 from by unfold Fl.wv Fl.ww; rw [HQ.out, if_pos rfl]; rfl]
  go_wp2_with fail
  refine (whole_any 18442240474082181120 2 (by decide) (by decide) (by decide) _).mono ?_; rintro e v8 ⟨rfl, n8, rfl⟩
  rw [show Fl.wv (Fl.wayOf 2) 18442240474082181120 = 0 by decide +kernel, show Fl.ww (Fl.wayOf 2) 18442240474082181120 = 1 by decide +kernel]
  go_wp2_with fail
  refine (whole_any 9223372036854775808 2 (by decide) (by decide) (by decide) _).mono ?_; rintro e v9 ⟨rfl, n9, rfl⟩
  rw [show Fl.wv (Fl.wayOf 2) 9223372036854775808 = 0 by decide +kernel, show Fl.ww (Fl.wayOf 2) 9223372036854775808 = 0 by decide +kernel]
  go_wp2_with fail
  refine (whole_no q 9 (by decide) _).mono ?_; rintro e v10 ⟨rfl, rfl⟩
  go_wp2_with fail
  clear cE_b cE_f cE_0 cE_1 cE_2 cE_3 cE_4
  generalize hW8 : World.drewN w7 _ = w8
  have b8 : Below w7.heap.size w7 w8 := by rw [← hW8]; exact below_draw _ _
  clear hW8
  have d8 : Below w7.heap.size w7 w8 := below_step (by repeat (first | exact Below.refl _ _ | refine below_drewN ?_ _ | refine Below.drew ?_ | refine Below.setCell ?_ (by first | (simp; done) | (simp; omega) | omega) _ | refine Below.alloc ?_ (by first | (simp; done) | (simp; omega) | omega) _)) b8
  have B8 := Lib.hid (below_step B7.out d8)
  have E8 := E7.keep d8
  clear E7 b8 d8 B7
  have F := Lib.hid (show Below w.heap.size w w8 ∧ w8.cell? ⟨b, 0, none⟩ = some (.float .f64 q) ∧ w8.cell? ⟨b, 1, none⟩ = some (.float .f64 18442240474082181120) ∧ w8.cell? ⟨b, 2, none⟩ = some (.float .f64 9223372036854775808) ∧ w8.cell? ⟨b, 3, none⟩ = some (.float .f64 0) ∧ w8.cell? ⟨b, 4, none⟩ = some (.float .f64 9218868437227405312) from ⟨B8.out, E8.k0, E8.k1, E8.k2, E8.k3, E8.k4⟩)
  clear E8 B8
  go_region_held3 (fun W => Below w.heap.size w W ∧ W.cell? ⟨b, 0, none⟩ = some (.float .f64 q) ∧ W.cell? ⟨b, 1, none⟩ = some (.float .f64 18442240474082181120) ∧ W.cell? ⟨b, 2, none⟩ = some (.float .f64 9223372036854775808) ∧ W.cell? ⟨b, 3, none⟩ = some (.float .f64 0) ∧ W.cell? ⟨b, 4, none⟩ = some (.float .f64 9218868437227405312)) (first | assumption | exact keep5 ((Below.refl _ _).drew) F.out | exact keep5 (((Below.refl _ _).alloc (Nat.le_refl _) _).drew) F.out | exact keep5 ‹Below _ _ _› ‹_ ∧ _› | exact keep5 ((Below.refl _ _).alloc (Nat.le_refl _) _) ‹_ ∧ _›)
    (first
      | (go_at_call 14; refine (least_any _ 3 3 [4613937818241073152, 0, 9223372036854775808] _ ⟨_, _, rfl, fun _ => ⟨_, rfl, by simp, three_cells (by simp [go_sem]) (by simp [go_sem]) (by simp [go_sem])⟩⟩ (by decide) (by unfold maxLen; decide) (by intro x hx; simp at hx; rcases hx with rfl | rfl | rfl <;> decide)).mono ?_; rintro e w' ⟨rfl, rfl⟩))
  all_goals
    rename_i hS
    rw [show Fl.mn [4613937818241073152, 0, 9223372036854775808] = 9223372036854775808 by decide +kernel]
    go_wp2_with fail
    refine (least_none _).mono ?_; rintro e v11 ⟨rfl, rfl⟩
    go_wp2_with fail
    refine wp_named ?_; intro w20 hw20
    rw [← hw20] at hS
    clear hw20
    have F2 := Lib.hid (show Below w.heap.size w w20 ∧ w20.cell? ⟨b, 0, none⟩ = some (.float .f64 q) ∧ w20.cell? ⟨b, 1, none⟩ = some (.float .f64 18442240474082181120) ∧ w20.cell? ⟨b, 2, none⟩ = some (.float .f64 9223372036854775808) ∧ w20.cell? ⟨b, 3, none⟩ = some (.float .f64 0) ∧ w20.cell? ⟨b, 4, none⟩ = some (.float .f64 9218868437227405312) from hS)
    clear hS F
    have g1 : (FloatKind.f64.format.order 4611686018427387904 4611686018427387904 == some Ordering.eq) = true := by decide +kernel
    have g2 : (FloatKind.f64.format.order 13837309855095848960 13837309855095848960 == some Ordering.eq) = true := by decide +kernel
    have g3 : (FloatKind.f64.format.order 4845873199050653696 4845873199050653696 == some Ordering.eq) = true := by decide +kernel
    have g4 : (FloatKind.f64.format.order 4615063718147915776 4615063718147915776 == some Ordering.eq) = true := by decide +kernel
    simp only [List.append]
    refine wp_region_pairs (C := fun W => Below w.heap.size w W ∧ W.cell? ⟨b, 0, none⟩ = some (.float .f64 q) ∧ W.cell? ⟨b, 1, none⟩ = some (.float .f64 18442240474082181120) ∧ W.cell? ⟨b, 2, none⟩ = some (.float .f64 9223372036854775808) ∧ W.cell? ⟨b, 3, none⟩ = some (.float .f64 0) ∧ W.cell? ⟨b, 4, none⟩ = some (.float .f64 9218868437227405312)) (R := markR [(fun v _ => v = Value.float FloatKind.f64 9223372036854775808), (fun v _ => v = Value.int IntKind.i64 3), (fun v _ => v = Value.bool true), (fun v _ => v = Value.bool true), (fun v _ => v = Value.int IntKind.i64 0), (fun v _ => v = Value.bool true), (fun v _ => v = Value.bool true), (fun v _ => v = Value.bool true), (fun v _ => v = Value.float FloatKind.f64 4611686018427387904), (fun v _ => v = Value.bool true), (fun v _ => v = Value.bool true), (fun v _ => v = Value.bool true), (fun v _ => v = Value.int IntKind.i64 0), (fun v _ => v = Value.bool true), (fun v _ => v = Value.bool true), (fun v _ => v = Value.bool true), (fun v _ => v = Value.float FloatKind.f64 13837309855095848960), (fun v _ => v = Value.bool true), (fun v _ => v = Value.bool true), (fun v _ => v = Value.bool true), (fun v _ => v = Value.int IntKind.i64 0), (fun v _ => v = Value.bool true), (fun v _ => v = Value.bool true), (fun v _ => v = Value.bool true), (fun v _ => v = Value.int IntKind.i64 4), (fun v _ => v = Value.bool true), (fun v _ => v = Value.bool true), (fun v _ => v = Value.bool true), (fun v _ => v = Value.int IntKind.i64 (-9223372036854775808)), (fun v _ => v = Value.bool true), (fun v _ => v = Value.bool true), (fun v _ => v = Value.bool true), (fun v _ => v = Value.int IntKind.i64 0), (fun v _ => v = Value.bool true), (fun v _ => v = Value.bool true), (fun v _ => v = Value.bool true), (fun v _ => v = Value.int IntKind.i64 1), (fun v _ => v = Value.bool true), (fun v _ => v = Value.bool true), (fun v _ => v = Value.bool true), (fun v _ => v = Value.int IntKind.i64 18), (fun v _ => v = Value.bool true), (fun v _ => v = Value.bool true), (fun v _ => v = Value.bool true), (fun v _ => v = Value.int IntKind.i64 1), (fun v _ => v = Value.bool true), (fun v _ => v = Value.bool true), (fun v _ => v = Value.bool true), (fun v _ => v = Value.int IntKind.i64 0), (fun v _ => v = Value.bool true), (fun v _ => v = Value.bool true), (fun v _ => v = Value.bool true), (fun v _ => v = Value.int IntKind.i64 0), (fun v _ => v = Value.bool true), (fun v _ => v = Value.bool true), (fun v _ => v = Value.bool true), (fun v _ => v = Value.int IntKind.i64 4), (fun v _ => v = Value.bool true), (fun v _ => v = Value.bool true), (fun v _ => v = Value.bool true), (fun v _ => v = Value.float FloatKind.f64 9223372036854775808), (fun v _ => v = Value.int IntKind.i64 3), (fun v _ => v = Value.bool true), (fun v _ => v = Value.bool true), (fun v _ => v = Value.bool true), (fun v _ => v = Value.bool true), (fun v _ => v = Value.bool true), (fun v _ => v = Value.bool true), (fun v _ => v = Value.float FloatKind.f64 0), (fun v _ => v = Value.int IntKind.i64 4), (fun v _ => v = Value.bool true), (fun v _ => v = Value.bool true), (fun v _ => v = Value.bool true), (fun v _ => v = Value.bool false), (fun v _ => v = Value.bool true), (fun v _ => v = Value.bool true), (fun v _ => v = Value.bool true), (fun v _ => v = Value.slice (some { block := b, off := 0 }) 5 5), (fun v _ => v = Value.pointer (some { block := b, off := 0 })), (fun v _ => v = Value.float FloatKind.f64 q), (fun v _ => v = Value.slice (some { block := b, off := 0 }) 5 5), (fun v _ => v = Value.pointer (some { block := b, off := 0 })), (fun v _ => v = Value.float FloatKind.f64 q), (fun v _ => v = Value.bool true), (fun v _ => v = Value.bool true), (fun v _ => v = Value.bool true), (fun v _ => v = Value.slice (some { block := b, off := 0 }) 5 5), (fun v _ => v = Value.pointer (some { block := b, off := 2 })), (fun v _ => v = Value.float FloatKind.f64 9223372036854775808), (fun v _ => v = Value.slice (some { block := b, off := 0 }) 5 5), (fun v _ => v = Value.pointer (some { block := b, off := 3 })), (fun v _ => v = Value.float FloatKind.f64 0), (fun v _ => v = Value.bool false), (fun v _ => v = Value.bool true), (fun v _ => v = Value.bool true), (fun v _ => v = Value.bool true), (fun v _ => v = Value.slice (some { block := b, off := 0 }) 5 5), (fun v _ => v = Value.pointer (some { block := b, off := 2 })), (fun v _ => v = Value.float FloatKind.f64 9223372036854775808), (fun v _ => v = Value.slice (some { block := b, off := 0 }) 5 5), (fun v _ => v = Value.pointer (some { block := b, off := 3 })), (fun v _ => v = Value.float FloatKind.f64 0), (fun v _ => v = Value.bool true), (fun v _ => v = Value.bool true), (fun v _ => v = Value.bool true), (fun v _ => v = Value.slice (some { block := b, off := 0 }) 5 5), (fun v _ => v = Value.pointer (some { block := b, off := 0 })), (fun v _ => v = Value.float FloatKind.f64 q), (fun v _ => v = Value.slice (some { block := b, off := 0 }) 5 5), (fun v _ => v = Value.pointer (some { block := b, off := 1 })), (fun v _ => v = Value.float FloatKind.f64 18442240474082181120), (fun v _ => v = Value.bool true), (fun v _ => v = Value.bool true), (fun v _ => v = Value.bool true), (fun v _ => v = Value.slice (some { block := b, off := 0 }) 5 5), (fun v _ => v = Value.pointer (some { block := b, off := 3 })), (fun v _ => v = Value.float FloatKind.f64 0), (fun v _ => v = Value.slice (some { block := b, off := 0 }) 5 5), (fun v _ => v = Value.pointer (some { block := b, off := 3 })), (fun v _ => v = Value.float FloatKind.f64 0), (fun v _ => v = Value.bool false), (fun v _ => v = Value.bool true), (fun v _ => v = Value.bool true), (fun v _ => v = Value.bool true), (fun v _ => v = Value.float FloatKind.f64 4845873199050653696), (fun v _ => v = Value.bool true), (fun v _ => v = Value.bool true), (fun v _ => v = Value.bool true), (fun v _ => v = Value.float FloatKind.f64 0), (fun v _ => v = Value.int IntKind.i64 4), (fun v _ => v = Value.bool true), (fun v _ => v = Value.bool true), (fun v _ => v = Value.bool true), (fun v _ => v = Value.slice (some { block := b, off := 0 }) 5 5), (fun v _ => v = Value.pointer (some { block := b, off := 2 })), (fun v _ => v = Value.float FloatKind.f64 9223372036854775808), (fun v W => ∃ b', v = Value.slice (some ⟨b', 0, none⟩) 1 1 ∧ FlS W v [9223372036854775808]), (fun v _ => v = Value.float FloatKind.f64 9223372036854775808), (fun v _ => v = Value.int IntKind.i64 3), (fun v _ => v = Value.bool true), (fun v _ => v = Value.bool true), (fun v _ => v = Value.bool true), (fun v W => ∃ b', v = Value.slice (some ⟨b', 0, none⟩) 3 3 ∧ FlS W v [4607182418800017408, 4611686018427387904, 4602678819172646912]), (fun v _ => v = Value.float FloatKind.f64 4615063718147915776), (fun v _ => v = Value.bool true), (fun v _ => v = Value.bool true), (fun v _ => v = Value.bool true), (fun v _ => v = Value.int IntKind.i64 2), (fun v _ => v = Value.bool true), (fun v _ => v = Value.bool true), (fun v _ => v = Value.bool true), (fun v _ => v = Value.int IntKind.i64 5), (fun v _ => v = Value.bool true), (fun v _ => v = Value.bool true), (fun v _ => v = Value.bool true)]) (G := fun W W' => Below W.heap.size W W') (by rfl) ?hbeg ⟨by kernel_rfl, by kernel_rfl, by kernel_rfl, ?hkeep, ?hstab, Obs.all ?hobs, ?hlast⟩
    case hbeg =>
      try dsimp only
      exact keep5 ((Below.refl _ _).drew) F2.out
    case hkeep =>
      intro w' w'' hC hG
      try dsimp only at hC hG ⊢
      exact keep5 hG hC
    case hstab =>
      refine StableL.all ?_
      repeat (first | exact trivial | refine ⟨(by first | exact (fun _ _ _ _ h => h) | (exact fun v W W' hG h => by obtain ⟨b', hv, hs⟩ := h; exact ⟨b', hv, hs.on hG⟩)), ?_⟩)
    case hobs =>
      refine Obs.cons (k' := 1) rfl ?_ ?_
      · intro fa W hW hSame hRR KK hKK
        try dsimp only at hW
        have fb5 := hSame.base 5 (by kernel_rfl)
        simp only [List.getElem?_toArray, List.getElem?_cons_succ, List.getElem?_cons_zero] at fb5
        replace hKK : ∀ v w', Go.RowKit.Below W.heap.size W w' → v = Value.float FloatKind.f64 9223372036854775808 → KK (Act.put fa _ v) w' := fun v w' h1 h2 => hKK v w' h1 h2
        clear hSame hRR
        rw [if_pos (wanted_plain rfl)]
        go_simp
        refine hKK _ _ ?_ ?_
        · first | exact Below.refl _ _ | exact (Below.refl _ _).alloc (Nat.le_refl _) _ | exact below_draw _ _ | assumption
        · exact rfl
      refine Obs.cons (k' := 2) rfl ?_ ?_
      · intro fa W hW hSame hRR KK hKK
        try dsimp only at hW
        obtain ⟨fv0, ft0, fm0⟩ := hRR 0 _ 113 rfl rfl (by kernel_rfl)
        replace fm0 : fv0 = Value.float FloatKind.f64 9223372036854775808 := fm0
        subst fm0
        replace hKK : ∀ v w', Go.RowKit.Below W.heap.size W w' → v = Value.int IntKind.i64 3 → KK (Act.put fa _ v) w' := fun v w' h1 h2 => hKK v w' h1 h2
        clear hSame hRR
        rw [if_pos (wanted_plain rfl)]
        go_simp
        first
            | (go_at_call 16; refine (kind_any _ (by first | exact HQ2.out | decide) _).mono ?_; rintro e w' ⟨rfl, rfl⟩; first
                | rw [show Fl.kd (Fl.rk 9223372036854775808) = 3 by decide +kernel]
                | rw [show Fl.kd (Fl.rk 0) = 4 by decide +kernel]
                | rw [show Fl.kd (Fl.rk 13835058055282163712) = 2 by decide +kernel]
                | rw [show Fl.kd (Fl.rk 4602678819172646912) = 5 by decide +kernel])
            | (go_at_call 18; refine (same_any _ _ (by first | exact HQ2.out | decide) (by first | exact HQ2.out | decide) _).mono ?_; rintro e w' ⟨rfl, rfl⟩; first
                | rw [show Fl.sameB q q = true from by unfold Fl.sameB; simp]
                | rw [show Fl.sameB 9223372036854775808 0 = false by decide +kernel])
            | (go_at_call 20; refine (less_any _ _ (by first | exact HQ2.out | decide) (by first | exact HQ2.out | decide) _).mono ?_; rintro e w' ⟨rfl, rfl⟩; first
                | rw [show Fl.lessB 9223372036854775808 0 = true by decide +kernel]
                | rw [show Fl.lessB q 18442240474082181120 = true from by unfold Fl.lessB; rw [Fl.rk_nan2 HQ.out]; decide +kernel]
                | rw [show Fl.lessB 0 0 = false by decide +kernel])
            | (go_at_call 24; refine (real_of _ _).mono ?_; rintro e w' ⟨rfl, rfl⟩; rw [show FloatKind.f64.nearest 9007199254740993 = 4845873199050653696 by decide +kernel])
            | (go_at_call 22; first
                | ((with_reducible refine (sum_none _).mono ?_); rintro e w' ⟨rfl, rfl⟩)
                | ((with_reducible refine (sum_any _ 1 1 [9223372036854775808] _ fm136 (by decide) (by decide) (by unfold maxLen; decide) (by intro x hx; simp at hx; subst hx; decide)).mono ?_); rintro e w' ⟨r, hr, rfl, jj, hk⟩; have hb := below_of_draw hk; obtain rfl := Eqv_lit hr (by decide +kernel); rw [show Fl.csum [9223372036854775808] = 9223372036854775808 by decide +kernel])
                | ((with_reducible refine (sum_any _ 3 3 [4607182418800017408, 4611686018427387904, 4602678819172646912] _ fm142 (by decide) (by decide) (by unfold maxLen; decide) (by intro x hx; simp at hx; rcases hx with rfl | rfl | rfl <;> decide)).mono ?_); rintro e w' ⟨r, hr, rfl, jj, hk⟩; have hb := below_of_draw hk; obtain rfl := Eqv_lit hr (by decide +kernel); rw [show Fl.csum [4607182418800017408, 4611686018427387904, 4602678819172646912] = 4615063718147915776 by decide +kernel]))
        try dsimp only
        refine hKK _ _ ?_ ?_
        · first | exact Below.refl _ _ | exact (Below.refl _ _).alloc (Nat.le_refl _) _ | exact below_draw _ _ | assumption
        · exact rfl
      refine Obs.cons (k' := 3) rfl ?_ ?_
      · intro fa W hW hSame hRR KK hKK
        try dsimp only at hW
        obtain ⟨fv1, ft1, fm1⟩ := hRR 1 _ 114 rfl rfl (by kernel_rfl)
        replace fm1 : fv1 = Value.int IntKind.i64 3 := fm1
        subst fm1
        replace hKK : ∀ v w', Go.RowKit.Below W.heap.size W w' → v = Value.bool true → KK (Act.put fa _ v) w' := fun v w' h1 h2 => hKK v w' h1 h2
        clear hSame hRR
        rw [if_pos (wanted_plain rfl)]
        go_simp
        refine hKK _ _ ?_ ?_
        · first | exact Below.refl _ _ | exact (Below.refl _ _).alloc (Nat.le_refl _) _ | exact below_draw _ _ | assumption
        · exact rfl
      refine Obs.cons (k' := 4) rfl ?_ ?_
      · intro fa W hW hSame hRR KK hKK
        try dsimp only at hW
        obtain ⟨fv2, ft2, fm2⟩ := hRR 2 _ 115 rfl rfl (by kernel_rfl)
        replace fm2 : fv2 = Value.bool true := fm2
        subst fm2
        replace hKK : ∀ v w', Go.RowKit.Below W.heap.size W w' → v = Value.bool true → KK (Act.put fa _ v) w' := fun v w' h1 h2 => hKK v w' h1 h2
        clear hSame hRR
        rw [if_pos (wanted_plain rfl)]
        go_simp
        refine hKK _ _ ?_ ?_
        · first | exact Below.refl _ _ | exact (Below.refl _ _).alloc (Nat.le_refl _) _ | exact below_draw _ _ | assumption
        · exact rfl
      refine Obs.cons (k' := 5) rfl ?_ ?_
      · intro fa W hW hSame hRR KK hKK
        try dsimp only at hW
        obtain ⟨fv3, ft3, fm3⟩ := hRR 3 _ 116 rfl rfl (by kernel_rfl)
        replace fm3 : fv3 = Value.bool true := fm3
        subst fm3
        have fb6 := hSame.base 6 (by kernel_rfl)
        simp only [List.getElem?_toArray, List.getElem?_cons_succ, List.getElem?_cons_zero] at fb6
        replace hKK : ∀ v w', Go.RowKit.Below W.heap.size W w' → v = Value.int IntKind.i64 0 → KK (Act.put fa _ v) w' := fun v w' h1 h2 => hKK v w' h1 h2
        clear hSame hRR
        rw [wanted_guard rfl rfl rfl ft3]
        first | rw [if_pos (by rfl)] | rw [if_neg (by decide)]
        go_simp
        refine hKK _ _ ?_ ?_
        · first | exact Below.refl _ _ | exact (Below.refl _ _).alloc (Nat.le_refl _) _ | exact below_draw _ _ | assumption
        · exact rfl
      refine Obs.cons (k' := 6) rfl ?_ ?_
      · intro fa W hW hSame hRR KK hKK
        try dsimp only at hW
        obtain ⟨fv4, ft4, fm4⟩ := hRR 4 _ 117 rfl rfl (by kernel_rfl)
        replace fm4 : fv4 = Value.int IntKind.i64 0 := fm4
        subst fm4
        obtain ⟨fv3, ft3, fm3⟩ := hRR 3 _ 116 rfl rfl (by kernel_rfl)
        replace fm3 : fv3 = Value.bool true := fm3
        subst fm3
        replace hKK : ∀ v w', Go.RowKit.Below W.heap.size W w' → v = Value.bool true → KK (Act.put fa _ v) w' := fun v w' h1 h2 => hKK v w' h1 h2
        clear hSame hRR
        rw [wanted_guard rfl rfl rfl ft3]
        first | rw [if_pos (by rfl)] | rw [if_neg (by decide)]
        go_simp
        refine hKK _ _ ?_ ?_
        · first | exact Below.refl _ _ | exact (Below.refl _ _).alloc (Nat.le_refl _) _ | exact below_draw _ _ | assumption
        · exact rfl
      refine Obs.cons (k' := 7) rfl ?_ ?_
      · intro fa W hW hSame hRR KK hKK
        try dsimp only at hW
        obtain ⟨fv3, ft3, fm3⟩ := hRR 3 _ 116 rfl rfl (by kernel_rfl)
        replace fm3 : fv3 = Value.bool true := fm3
        subst fm3
        obtain ⟨fv5, ft5, fm5⟩ := hRR 5 _ 118 rfl rfl (by kernel_rfl)
        replace fm5 : fv5 = Value.bool true := fm5
        subst fm5
        replace hKK : ∀ v w', Go.RowKit.Below W.heap.size W w' → v = Value.bool true → KK (Act.put fa _ v) w' := fun v w' h1 h2 => hKK v w' h1 h2
        clear hSame hRR
        rw [if_pos (wanted_plain rfl)]
        go_simp
        refine hKK _ _ ?_ ?_
        · first | exact Below.refl _ _ | exact (Below.refl _ _).alloc (Nat.le_refl _) _ | exact below_draw _ _ | assumption
        · exact rfl
      refine Obs.cons (k' := 8) rfl ?_ ?_
      · intro fa W hW hSame hRR KK hKK
        try dsimp only at hW
        obtain ⟨fv6, ft6, fm6⟩ := hRR 6 _ 119 rfl rfl (by kernel_rfl)
        replace fm6 : fv6 = Value.bool true := fm6
        subst fm6
        replace hKK : ∀ v w', Go.RowKit.Below W.heap.size W w' → v = Value.bool true → KK (Act.put fa _ v) w' := fun v w' h1 h2 => hKK v w' h1 h2
        clear hSame hRR
        rw [if_pos (wanted_plain rfl)]
        go_simp
        refine hKK _ _ ?_ ?_
        · first | exact Below.refl _ _ | exact (Below.refl _ _).alloc (Nat.le_refl _) _ | exact below_draw _ _ | assumption
        · exact rfl
      refine Obs.cons (k' := 9) rfl ?_ ?_
      · intro fa W hW hSame hRR KK hKK
        try dsimp only at hW
        obtain ⟨fv7, ft7, fm7⟩ := hRR 7 _ 120 rfl rfl (by kernel_rfl)
        replace fm7 : fv7 = Value.bool true := fm7
        subst fm7
        have fb7 := hSame.base 7 (by kernel_rfl)
        simp only [List.getElem?_toArray, List.getElem?_cons_succ, List.getElem?_cons_zero] at fb7
        replace hKK : ∀ v w', Go.RowKit.Below W.heap.size W w' → v = Value.float FloatKind.f64 4611686018427387904 → KK (Act.put fa _ v) w' := fun v w' h1 h2 => hKK v w' h1 h2
        clear hSame hRR
        rw [wanted_guard rfl rfl rfl ft7]
        first | rw [if_pos (by rfl)] | rw [if_neg (by decide)]
        go_simp
        refine hKK _ _ ?_ ?_
        · first | exact Below.refl _ _ | exact (Below.refl _ _).alloc (Nat.le_refl _) _ | exact below_draw _ _ | assumption
        · exact rfl
      refine Obs.cons (k' := 10) rfl ?_ ?_
      · intro fa W hW hSame hRR KK hKK
        try dsimp only at hW
        obtain ⟨fv8, ft8, fm8⟩ := hRR 8 _ 121 rfl rfl (by kernel_rfl)
        replace fm8 : fv8 = Value.float FloatKind.f64 4611686018427387904 := fm8
        subst fm8
        obtain ⟨fv7, ft7, fm7⟩ := hRR 7 _ 120 rfl rfl (by kernel_rfl)
        replace fm7 : fv7 = Value.bool true := fm7
        subst fm7
        replace hKK : ∀ v w', Go.RowKit.Below W.heap.size W w' → v = Value.bool true → KK (Act.put fa _ v) w' := fun v w' h1 h2 => hKK v w' h1 h2
        clear hSame hRR
        rw [wanted_guard rfl rfl rfl ft7]
        first | rw [if_pos (by rfl)] | rw [if_neg (by decide)]
        go_simp
        refine hKK _ _ ?_ ?_
        · first | exact Below.refl _ _ | exact (Below.refl _ _).alloc (Nat.le_refl _) _ | exact below_draw _ _ | assumption
        · exact rfl
      refine Obs.cons (k' := 11) rfl ?_ ?_
      · intro fa W hW hSame hRR KK hKK
        try dsimp only at hW
        obtain ⟨fv7, ft7, fm7⟩ := hRR 7 _ 120 rfl rfl (by kernel_rfl)
        replace fm7 : fv7 = Value.bool true := fm7
        subst fm7
        obtain ⟨fv9, ft9, fm9⟩ := hRR 9 _ 122 rfl rfl (by kernel_rfl)
        replace fm9 : fv9 = Value.bool true := fm9
        subst fm9
        replace hKK : ∀ v w', Go.RowKit.Below W.heap.size W w' → v = Value.bool true → KK (Act.put fa _ v) w' := fun v w' h1 h2 => hKK v w' h1 h2
        clear hSame hRR
        rw [if_pos (wanted_plain rfl)]
        go_simp
        refine hKK _ _ ?_ ?_
        · first | exact Below.refl _ _ | exact (Below.refl _ _).alloc (Nat.le_refl _) _ | exact below_draw _ _ | assumption
        · exact rfl
      refine Obs.cons (k' := 12) rfl ?_ ?_
      · intro fa W hW hSame hRR KK hKK
        try dsimp only at hW
        obtain ⟨fv10, ft10, fm10⟩ := hRR 10 _ 123 rfl rfl (by kernel_rfl)
        replace fm10 : fv10 = Value.bool true := fm10
        subst fm10
        replace hKK : ∀ v w', Go.RowKit.Below W.heap.size W w' → v = Value.bool true → KK (Act.put fa _ v) w' := fun v w' h1 h2 => hKK v w' h1 h2
        clear hSame hRR
        rw [if_pos (wanted_plain rfl)]
        go_simp
        refine hKK _ _ ?_ ?_
        · first | exact Below.refl _ _ | exact (Below.refl _ _).alloc (Nat.le_refl _) _ | exact below_draw _ _ | assumption
        · exact rfl
      refine Obs.cons (k' := 13) rfl ?_ ?_
      · intro fa W hW hSame hRR KK hKK
        try dsimp only at hW
        obtain ⟨fv11, ft11, fm11⟩ := hRR 11 _ 124 rfl rfl (by kernel_rfl)
        replace fm11 : fv11 = Value.bool true := fm11
        subst fm11
        have fb8 := hSame.base 8 (by kernel_rfl)
        simp only [List.getElem?_toArray, List.getElem?_cons_succ, List.getElem?_cons_zero] at fb8
        replace hKK : ∀ v w', Go.RowKit.Below W.heap.size W w' → v = Value.int IntKind.i64 0 → KK (Act.put fa _ v) w' := fun v w' h1 h2 => hKK v w' h1 h2
        clear hSame hRR
        rw [wanted_guard rfl rfl rfl ft11]
        first | rw [if_pos (by rfl)] | rw [if_neg (by decide)]
        go_simp
        refine hKK _ _ ?_ ?_
        · first | exact Below.refl _ _ | exact (Below.refl _ _).alloc (Nat.le_refl _) _ | exact below_draw _ _ | assumption
        · exact rfl
      refine Obs.cons (k' := 14) rfl ?_ ?_
      · intro fa W hW hSame hRR KK hKK
        try dsimp only at hW
        obtain ⟨fv12, ft12, fm12⟩ := hRR 12 _ 125 rfl rfl (by kernel_rfl)
        replace fm12 : fv12 = Value.int IntKind.i64 0 := fm12
        subst fm12
        obtain ⟨fv11, ft11, fm11⟩ := hRR 11 _ 124 rfl rfl (by kernel_rfl)
        replace fm11 : fv11 = Value.bool true := fm11
        subst fm11
        replace hKK : ∀ v w', Go.RowKit.Below W.heap.size W w' → v = Value.bool true → KK (Act.put fa _ v) w' := fun v w' h1 h2 => hKK v w' h1 h2
        clear hSame hRR
        rw [wanted_guard rfl rfl rfl ft11]
        first | rw [if_pos (by rfl)] | rw [if_neg (by decide)]
        go_simp
        refine hKK _ _ ?_ ?_
        · first | exact Below.refl _ _ | exact (Below.refl _ _).alloc (Nat.le_refl _) _ | exact below_draw _ _ | assumption
        · exact rfl
      refine Obs.cons (k' := 15) rfl ?_ ?_
      · intro fa W hW hSame hRR KK hKK
        try dsimp only at hW
        obtain ⟨fv11, ft11, fm11⟩ := hRR 11 _ 124 rfl rfl (by kernel_rfl)
        replace fm11 : fv11 = Value.bool true := fm11
        subst fm11
        obtain ⟨fv13, ft13, fm13⟩ := hRR 13 _ 126 rfl rfl (by kernel_rfl)
        replace fm13 : fv13 = Value.bool true := fm13
        subst fm13
        replace hKK : ∀ v w', Go.RowKit.Below W.heap.size W w' → v = Value.bool true → KK (Act.put fa _ v) w' := fun v w' h1 h2 => hKK v w' h1 h2
        clear hSame hRR
        rw [if_pos (wanted_plain rfl)]
        go_simp
        refine hKK _ _ ?_ ?_
        · first | exact Below.refl _ _ | exact (Below.refl _ _).alloc (Nat.le_refl _) _ | exact below_draw _ _ | assumption
        · exact rfl
      refine Obs.cons (k' := 16) rfl ?_ ?_
      · intro fa W hW hSame hRR KK hKK
        try dsimp only at hW
        obtain ⟨fv14, ft14, fm14⟩ := hRR 14 _ 127 rfl rfl (by kernel_rfl)
        replace fm14 : fv14 = Value.bool true := fm14
        subst fm14
        replace hKK : ∀ v w', Go.RowKit.Below W.heap.size W w' → v = Value.bool true → KK (Act.put fa _ v) w' := fun v w' h1 h2 => hKK v w' h1 h2
        clear hSame hRR
        rw [if_pos (wanted_plain rfl)]
        go_simp
        refine hKK _ _ ?_ ?_
        · first | exact Below.refl _ _ | exact (Below.refl _ _).alloc (Nat.le_refl _) _ | exact below_draw _ _ | assumption
        · exact rfl
      refine Obs.cons (k' := 17) rfl ?_ ?_
      · intro fa W hW hSame hRR KK hKK
        try dsimp only at hW
        obtain ⟨fv15, ft15, fm15⟩ := hRR 15 _ 128 rfl rfl (by kernel_rfl)
        replace fm15 : fv15 = Value.bool true := fm15
        subst fm15
        have fb9 := hSame.base 9 (by kernel_rfl)
        simp only [List.getElem?_toArray, List.getElem?_cons_succ, List.getElem?_cons_zero] at fb9
        replace hKK : ∀ v w', Go.RowKit.Below W.heap.size W w' → v = Value.float FloatKind.f64 13837309855095848960 → KK (Act.put fa _ v) w' := fun v w' h1 h2 => hKK v w' h1 h2
        clear hSame hRR
        rw [wanted_guard rfl rfl rfl ft15]
        first | rw [if_pos (by rfl)] | rw [if_neg (by decide)]
        go_simp
        refine hKK _ _ ?_ ?_
        · first | exact Below.refl _ _ | exact (Below.refl _ _).alloc (Nat.le_refl _) _ | exact below_draw _ _ | assumption
        · exact rfl
      refine Obs.cons (k' := 18) rfl ?_ ?_
      · intro fa W hW hSame hRR KK hKK
        try dsimp only at hW
        obtain ⟨fv16, ft16, fm16⟩ := hRR 16 _ 129 rfl rfl (by kernel_rfl)
        replace fm16 : fv16 = Value.float FloatKind.f64 13837309855095848960 := fm16
        subst fm16
        obtain ⟨fv15, ft15, fm15⟩ := hRR 15 _ 128 rfl rfl (by kernel_rfl)
        replace fm15 : fv15 = Value.bool true := fm15
        subst fm15
        replace hKK : ∀ v w', Go.RowKit.Below W.heap.size W w' → v = Value.bool true → KK (Act.put fa _ v) w' := fun v w' h1 h2 => hKK v w' h1 h2
        clear hSame hRR
        rw [wanted_guard rfl rfl rfl ft15]
        first | rw [if_pos (by rfl)] | rw [if_neg (by decide)]
        go_simp
        refine hKK _ _ ?_ ?_
        · first | exact Below.refl _ _ | exact (Below.refl _ _).alloc (Nat.le_refl _) _ | exact below_draw _ _ | assumption
        · exact rfl
      refine Obs.cons (k' := 19) rfl ?_ ?_
      · intro fa W hW hSame hRR KK hKK
        try dsimp only at hW
        obtain ⟨fv15, ft15, fm15⟩ := hRR 15 _ 128 rfl rfl (by kernel_rfl)
        replace fm15 : fv15 = Value.bool true := fm15
        subst fm15
        obtain ⟨fv17, ft17, fm17⟩ := hRR 17 _ 130 rfl rfl (by kernel_rfl)
        replace fm17 : fv17 = Value.bool true := fm17
        subst fm17
        replace hKK : ∀ v w', Go.RowKit.Below W.heap.size W w' → v = Value.bool true → KK (Act.put fa _ v) w' := fun v w' h1 h2 => hKK v w' h1 h2
        clear hSame hRR
        rw [if_pos (wanted_plain rfl)]
        go_simp
        refine hKK _ _ ?_ ?_
        · first | exact Below.refl _ _ | exact (Below.refl _ _).alloc (Nat.le_refl _) _ | exact below_draw _ _ | assumption
        · exact rfl
      refine Obs.cons (k' := 20) rfl ?_ ?_
      · intro fa W hW hSame hRR KK hKK
        try dsimp only at hW
        obtain ⟨fv18, ft18, fm18⟩ := hRR 18 _ 131 rfl rfl (by kernel_rfl)
        replace fm18 : fv18 = Value.bool true := fm18
        subst fm18
        replace hKK : ∀ v w', Go.RowKit.Below W.heap.size W w' → v = Value.bool true → KK (Act.put fa _ v) w' := fun v w' h1 h2 => hKK v w' h1 h2
        clear hSame hRR
        rw [if_pos (wanted_plain rfl)]
        go_simp
        refine hKK _ _ ?_ ?_
        · first | exact Below.refl _ _ | exact (Below.refl _ _).alloc (Nat.le_refl _) _ | exact below_draw _ _ | assumption
        · exact rfl
      refine Obs.cons (k' := 21) rfl ?_ ?_
      · intro fa W hW hSame hRR KK hKK
        try dsimp only at hW
        obtain ⟨fv19, ft19, fm19⟩ := hRR 19 _ 132 rfl rfl (by kernel_rfl)
        replace fm19 : fv19 = Value.bool true := fm19
        subst fm19
        have fb10 := hSame.base 10 (by kernel_rfl)
        simp only [List.getElem?_toArray, List.getElem?_cons_succ, List.getElem?_cons_zero] at fb10
        replace hKK : ∀ v w', Go.RowKit.Below W.heap.size W w' → v = Value.int IntKind.i64 0 → KK (Act.put fa _ v) w' := fun v w' h1 h2 => hKK v w' h1 h2
        clear hSame hRR
        rw [wanted_guard rfl rfl rfl ft19]
        first | rw [if_pos (by rfl)] | rw [if_neg (by decide)]
        go_simp
        refine hKK _ _ ?_ ?_
        · first | exact Below.refl _ _ | exact (Below.refl _ _).alloc (Nat.le_refl _) _ | exact below_draw _ _ | assumption
        · exact rfl
      refine Obs.cons (k' := 22) rfl ?_ ?_
      · intro fa W hW hSame hRR KK hKK
        try dsimp only at hW
        obtain ⟨fv20, ft20, fm20⟩ := hRR 20 _ 133 rfl rfl (by kernel_rfl)
        replace fm20 : fv20 = Value.int IntKind.i64 0 := fm20
        subst fm20
        obtain ⟨fv19, ft19, fm19⟩ := hRR 19 _ 132 rfl rfl (by kernel_rfl)
        replace fm19 : fv19 = Value.bool true := fm19
        subst fm19
        replace hKK : ∀ v w', Go.RowKit.Below W.heap.size W w' → v = Value.bool true → KK (Act.put fa _ v) w' := fun v w' h1 h2 => hKK v w' h1 h2
        clear hSame hRR
        rw [wanted_guard rfl rfl rfl ft19]
        first | rw [if_pos (by rfl)] | rw [if_neg (by decide)]
        go_simp
        refine hKK _ _ ?_ ?_
        · first | exact Below.refl _ _ | exact (Below.refl _ _).alloc (Nat.le_refl _) _ | exact below_draw _ _ | assumption
        · exact rfl
      refine Obs.cons (k' := 23) rfl ?_ ?_
      · intro fa W hW hSame hRR KK hKK
        try dsimp only at hW
        obtain ⟨fv19, ft19, fm19⟩ := hRR 19 _ 132 rfl rfl (by kernel_rfl)
        replace fm19 : fv19 = Value.bool true := fm19
        subst fm19
        obtain ⟨fv21, ft21, fm21⟩ := hRR 21 _ 134 rfl rfl (by kernel_rfl)
        replace fm21 : fv21 = Value.bool true := fm21
        subst fm21
        replace hKK : ∀ v w', Go.RowKit.Below W.heap.size W w' → v = Value.bool true → KK (Act.put fa _ v) w' := fun v w' h1 h2 => hKK v w' h1 h2
        clear hSame hRR
        rw [if_pos (wanted_plain rfl)]
        go_simp
        refine hKK _ _ ?_ ?_
        · first | exact Below.refl _ _ | exact (Below.refl _ _).alloc (Nat.le_refl _) _ | exact below_draw _ _ | assumption
        · exact rfl
      refine Obs.cons (k' := 24) rfl ?_ ?_
      · intro fa W hW hSame hRR KK hKK
        try dsimp only at hW
        obtain ⟨fv22, ft22, fm22⟩ := hRR 22 _ 135 rfl rfl (by kernel_rfl)
        replace fm22 : fv22 = Value.bool true := fm22
        subst fm22
        replace hKK : ∀ v w', Go.RowKit.Below W.heap.size W w' → v = Value.bool true → KK (Act.put fa _ v) w' := fun v w' h1 h2 => hKK v w' h1 h2
        clear hSame hRR
        rw [if_pos (wanted_plain rfl)]
        go_simp
        refine hKK _ _ ?_ ?_
        · first | exact Below.refl _ _ | exact (Below.refl _ _).alloc (Nat.le_refl _) _ | exact below_draw _ _ | assumption
        · exact rfl
      refine Obs.cons (k' := 25) rfl ?_ ?_
      · intro fa W hW hSame hRR KK hKK
        try dsimp only at hW
        obtain ⟨fv23, ft23, fm23⟩ := hRR 23 _ 136 rfl rfl (by kernel_rfl)
        replace fm23 : fv23 = Value.bool true := fm23
        subst fm23
        have fb12 := hSame.base 12 (by kernel_rfl)
        simp only [List.getElem?_toArray, List.getElem?_cons_succ, List.getElem?_cons_zero] at fb12
        replace hKK : ∀ v w', Go.RowKit.Below W.heap.size W w' → v = Value.int IntKind.i64 4 → KK (Act.put fa _ v) w' := fun v w' h1 h2 => hKK v w' h1 h2
        clear hSame hRR
        rw [wanted_guard rfl rfl rfl ft23]
        first | rw [if_pos (by rfl)] | rw [if_neg (by decide)]
        go_simp
        refine hKK _ _ ?_ ?_
        · first | exact Below.refl _ _ | exact (Below.refl _ _).alloc (Nat.le_refl _) _ | exact below_draw _ _ | assumption
        · exact rfl
      refine Obs.cons (k' := 26) rfl ?_ ?_
      · intro fa W hW hSame hRR KK hKK
        try dsimp only at hW
        obtain ⟨fv24, ft24, fm24⟩ := hRR 24 _ 137 rfl rfl (by kernel_rfl)
        replace fm24 : fv24 = Value.int IntKind.i64 4 := fm24
        subst fm24
        obtain ⟨fv23, ft23, fm23⟩ := hRR 23 _ 136 rfl rfl (by kernel_rfl)
        replace fm23 : fv23 = Value.bool true := fm23
        subst fm23
        replace hKK : ∀ v w', Go.RowKit.Below W.heap.size W w' → v = Value.bool true → KK (Act.put fa _ v) w' := fun v w' h1 h2 => hKK v w' h1 h2
        clear hSame hRR
        rw [wanted_guard rfl rfl rfl ft23]
        first | rw [if_pos (by rfl)] | rw [if_neg (by decide)]
        go_simp
        refine hKK _ _ ?_ ?_
        · first | exact Below.refl _ _ | exact (Below.refl _ _).alloc (Nat.le_refl _) _ | exact below_draw _ _ | assumption
        · exact rfl
      refine Obs.cons (k' := 27) rfl ?_ ?_
      · intro fa W hW hSame hRR KK hKK
        try dsimp only at hW
        obtain ⟨fv23, ft23, fm23⟩ := hRR 23 _ 136 rfl rfl (by kernel_rfl)
        replace fm23 : fv23 = Value.bool true := fm23
        subst fm23
        obtain ⟨fv25, ft25, fm25⟩ := hRR 25 _ 138 rfl rfl (by kernel_rfl)
        replace fm25 : fv25 = Value.bool true := fm25
        subst fm25
        replace hKK : ∀ v w', Go.RowKit.Below W.heap.size W w' → v = Value.bool true → KK (Act.put fa _ v) w' := fun v w' h1 h2 => hKK v w' h1 h2
        clear hSame hRR
        rw [if_pos (wanted_plain rfl)]
        go_simp
        refine hKK _ _ ?_ ?_
        · first | exact Below.refl _ _ | exact (Below.refl _ _).alloc (Nat.le_refl _) _ | exact below_draw _ _ | assumption
        · exact rfl
      refine Obs.cons (k' := 28) rfl ?_ ?_
      · intro fa W hW hSame hRR KK hKK
        try dsimp only at hW
        obtain ⟨fv26, ft26, fm26⟩ := hRR 26 _ 139 rfl rfl (by kernel_rfl)
        replace fm26 : fv26 = Value.bool true := fm26
        subst fm26
        replace hKK : ∀ v w', Go.RowKit.Below W.heap.size W w' → v = Value.bool true → KK (Act.put fa _ v) w' := fun v w' h1 h2 => hKK v w' h1 h2
        clear hSame hRR
        rw [if_pos (wanted_plain rfl)]
        go_simp
        refine hKK _ _ ?_ ?_
        · first | exact Below.refl _ _ | exact (Below.refl _ _).alloc (Nat.le_refl _) _ | exact below_draw _ _ | assumption
        · exact rfl
      refine Obs.cons (k' := 29) rfl ?_ ?_
      · intro fa W hW hSame hRR KK hKK
        try dsimp only at hW
        obtain ⟨fv27, ft27, fm27⟩ := hRR 27 _ 140 rfl rfl (by kernel_rfl)
        replace fm27 : fv27 = Value.bool true := fm27
        subst fm27
        have fb13 := hSame.base 13 (by kernel_rfl)
        simp only [List.getElem?_toArray, List.getElem?_cons_succ, List.getElem?_cons_zero] at fb13
        replace hKK : ∀ v w', Go.RowKit.Below W.heap.size W w' → v = Value.int IntKind.i64 (-9223372036854775808) → KK (Act.put fa _ v) w' := fun v w' h1 h2 => hKK v w' h1 h2
        clear hSame hRR
        rw [wanted_guard rfl rfl rfl ft27]
        first | rw [if_pos (by rfl)] | rw [if_neg (by decide)]
        go_simp
        refine hKK _ _ ?_ ?_
        · first | exact Below.refl _ _ | exact (Below.refl _ _).alloc (Nat.le_refl _) _ | exact below_draw _ _ | assumption
        · exact rfl
      refine Obs.cons (k' := 30) rfl ?_ ?_
      · intro fa W hW hSame hRR KK hKK
        try dsimp only at hW
        obtain ⟨fv28, ft28, fm28⟩ := hRR 28 _ 141 rfl rfl (by kernel_rfl)
        replace fm28 : fv28 = Value.int IntKind.i64 (-9223372036854775808) := fm28
        subst fm28
        obtain ⟨fv27, ft27, fm27⟩ := hRR 27 _ 140 rfl rfl (by kernel_rfl)
        replace fm27 : fv27 = Value.bool true := fm27
        subst fm27
        replace hKK : ∀ v w', Go.RowKit.Below W.heap.size W w' → v = Value.bool true → KK (Act.put fa _ v) w' := fun v w' h1 h2 => hKK v w' h1 h2
        clear hSame hRR
        rw [wanted_guard rfl rfl rfl ft27]
        first | rw [if_pos (by rfl)] | rw [if_neg (by decide)]
        go_simp
        refine hKK _ _ ?_ ?_
        · first | exact Below.refl _ _ | exact (Below.refl _ _).alloc (Nat.le_refl _) _ | exact below_draw _ _ | assumption
        · exact rfl
      refine Obs.cons (k' := 31) rfl ?_ ?_
      · intro fa W hW hSame hRR KK hKK
        try dsimp only at hW
        obtain ⟨fv27, ft27, fm27⟩ := hRR 27 _ 140 rfl rfl (by kernel_rfl)
        replace fm27 : fv27 = Value.bool true := fm27
        subst fm27
        obtain ⟨fv29, ft29, fm29⟩ := hRR 29 _ 142 rfl rfl (by kernel_rfl)
        replace fm29 : fv29 = Value.bool true := fm29
        subst fm29
        replace hKK : ∀ v w', Go.RowKit.Below W.heap.size W w' → v = Value.bool true → KK (Act.put fa _ v) w' := fun v w' h1 h2 => hKK v w' h1 h2
        clear hSame hRR
        rw [if_pos (wanted_plain rfl)]
        go_simp
        refine hKK _ _ ?_ ?_
        · first | exact Below.refl _ _ | exact (Below.refl _ _).alloc (Nat.le_refl _) _ | exact below_draw _ _ | assumption
        · exact rfl
      refine Obs.cons (k' := 32) rfl ?_ ?_
      · intro fa W hW hSame hRR KK hKK
        try dsimp only at hW
        obtain ⟨fv30, ft30, fm30⟩ := hRR 30 _ 143 rfl rfl (by kernel_rfl)
        replace fm30 : fv30 = Value.bool true := fm30
        subst fm30
        replace hKK : ∀ v w', Go.RowKit.Below W.heap.size W w' → v = Value.bool true → KK (Act.put fa _ v) w' := fun v w' h1 h2 => hKK v w' h1 h2
        clear hSame hRR
        rw [if_pos (wanted_plain rfl)]
        go_simp
        refine hKK _ _ ?_ ?_
        · first | exact Below.refl _ _ | exact (Below.refl _ _).alloc (Nat.le_refl _) _ | exact below_draw _ _ | assumption
        · exact rfl
      refine Obs.cons (k' := 33) rfl ?_ ?_
      · intro fa W hW hSame hRR KK hKK
        try dsimp only at hW
        obtain ⟨fv31, ft31, fm31⟩ := hRR 31 _ 144 rfl rfl (by kernel_rfl)
        replace fm31 : fv31 = Value.bool true := fm31
        subst fm31
        have fb14 := hSame.base 14 (by kernel_rfl)
        simp only [List.getElem?_toArray, List.getElem?_cons_succ, List.getElem?_cons_zero] at fb14
        replace hKK : ∀ v w', Go.RowKit.Below W.heap.size W w' → v = Value.int IntKind.i64 0 → KK (Act.put fa _ v) w' := fun v w' h1 h2 => hKK v w' h1 h2
        clear hSame hRR
        rw [wanted_guard rfl rfl rfl ft31]
        first | rw [if_pos (by rfl)] | rw [if_neg (by decide)]
        go_simp
        refine hKK _ _ ?_ ?_
        · first | exact Below.refl _ _ | exact (Below.refl _ _).alloc (Nat.le_refl _) _ | exact below_draw _ _ | assumption
        · exact rfl
      refine Obs.cons (k' := 34) rfl ?_ ?_
      · intro fa W hW hSame hRR KK hKK
        try dsimp only at hW
        obtain ⟨fv32, ft32, fm32⟩ := hRR 32 _ 145 rfl rfl (by kernel_rfl)
        replace fm32 : fv32 = Value.int IntKind.i64 0 := fm32
        subst fm32
        obtain ⟨fv31, ft31, fm31⟩ := hRR 31 _ 144 rfl rfl (by kernel_rfl)
        replace fm31 : fv31 = Value.bool true := fm31
        subst fm31
        replace hKK : ∀ v w', Go.RowKit.Below W.heap.size W w' → v = Value.bool true → KK (Act.put fa _ v) w' := fun v w' h1 h2 => hKK v w' h1 h2
        clear hSame hRR
        rw [wanted_guard rfl rfl rfl ft31]
        first | rw [if_pos (by rfl)] | rw [if_neg (by decide)]
        go_simp
        refine hKK _ _ ?_ ?_
        · first | exact Below.refl _ _ | exact (Below.refl _ _).alloc (Nat.le_refl _) _ | exact below_draw _ _ | assumption
        · exact rfl
      refine Obs.cons (k' := 35) rfl ?_ ?_
      · intro fa W hW hSame hRR KK hKK
        try dsimp only at hW
        obtain ⟨fv31, ft31, fm31⟩ := hRR 31 _ 144 rfl rfl (by kernel_rfl)
        replace fm31 : fv31 = Value.bool true := fm31
        subst fm31
        obtain ⟨fv33, ft33, fm33⟩ := hRR 33 _ 146 rfl rfl (by kernel_rfl)
        replace fm33 : fv33 = Value.bool true := fm33
        subst fm33
        replace hKK : ∀ v w', Go.RowKit.Below W.heap.size W w' → v = Value.bool true → KK (Act.put fa _ v) w' := fun v w' h1 h2 => hKK v w' h1 h2
        clear hSame hRR
        rw [if_pos (wanted_plain rfl)]
        go_simp
        refine hKK _ _ ?_ ?_
        · first | exact Below.refl _ _ | exact (Below.refl _ _).alloc (Nat.le_refl _) _ | exact below_draw _ _ | assumption
        · exact rfl
      refine Obs.cons (k' := 36) rfl ?_ ?_
      · intro fa W hW hSame hRR KK hKK
        try dsimp only at hW
        obtain ⟨fv34, ft34, fm34⟩ := hRR 34 _ 147 rfl rfl (by kernel_rfl)
        replace fm34 : fv34 = Value.bool true := fm34
        subst fm34
        replace hKK : ∀ v w', Go.RowKit.Below W.heap.size W w' → v = Value.bool true → KK (Act.put fa _ v) w' := fun v w' h1 h2 => hKK v w' h1 h2
        clear hSame hRR
        rw [if_pos (wanted_plain rfl)]
        go_simp
        refine hKK _ _ ?_ ?_
        · first | exact Below.refl _ _ | exact (Below.refl _ _).alloc (Nat.le_refl _) _ | exact below_draw _ _ | assumption
        · exact rfl
      refine Obs.cons (k' := 37) rfl ?_ ?_
      · intro fa W hW hSame hRR KK hKK
        try dsimp only at hW
        obtain ⟨fv35, ft35, fm35⟩ := hRR 35 _ 148 rfl rfl (by kernel_rfl)
        replace fm35 : fv35 = Value.bool true := fm35
        subst fm35
        have fb16 := hSame.base 16 (by kernel_rfl)
        simp only [List.getElem?_toArray, List.getElem?_cons_succ, List.getElem?_cons_zero] at fb16
        replace hKK : ∀ v w', Go.RowKit.Below W.heap.size W w' → v = Value.int IntKind.i64 1 → KK (Act.put fa _ v) w' := fun v w' h1 h2 => hKK v w' h1 h2
        clear hSame hRR
        rw [wanted_guard rfl rfl rfl ft35]
        first | rw [if_pos (by rfl)] | rw [if_neg (by decide)]
        go_simp
        refine hKK _ _ ?_ ?_
        · first | exact Below.refl _ _ | exact (Below.refl _ _).alloc (Nat.le_refl _) _ | exact below_draw _ _ | assumption
        · exact rfl
      refine Obs.cons (k' := 38) rfl ?_ ?_
      · intro fa W hW hSame hRR KK hKK
        try dsimp only at hW
        obtain ⟨fv36, ft36, fm36⟩ := hRR 36 _ 149 rfl rfl (by kernel_rfl)
        replace fm36 : fv36 = Value.int IntKind.i64 1 := fm36
        subst fm36
        obtain ⟨fv35, ft35, fm35⟩ := hRR 35 _ 148 rfl rfl (by kernel_rfl)
        replace fm35 : fv35 = Value.bool true := fm35
        subst fm35
        replace hKK : ∀ v w', Go.RowKit.Below W.heap.size W w' → v = Value.bool true → KK (Act.put fa _ v) w' := fun v w' h1 h2 => hKK v w' h1 h2
        clear hSame hRR
        rw [wanted_guard rfl rfl rfl ft35]
        first | rw [if_pos (by rfl)] | rw [if_neg (by decide)]
        go_simp
        refine hKK _ _ ?_ ?_
        · first | exact Below.refl _ _ | exact (Below.refl _ _).alloc (Nat.le_refl _) _ | exact below_draw _ _ | assumption
        · exact rfl
      refine Obs.cons (k' := 39) rfl ?_ ?_
      · intro fa W hW hSame hRR KK hKK
        try dsimp only at hW
        obtain ⟨fv35, ft35, fm35⟩ := hRR 35 _ 148 rfl rfl (by kernel_rfl)
        replace fm35 : fv35 = Value.bool true := fm35
        subst fm35
        obtain ⟨fv37, ft37, fm37⟩ := hRR 37 _ 150 rfl rfl (by kernel_rfl)
        replace fm37 : fv37 = Value.bool true := fm37
        subst fm37
        replace hKK : ∀ v w', Go.RowKit.Below W.heap.size W w' → v = Value.bool true → KK (Act.put fa _ v) w' := fun v w' h1 h2 => hKK v w' h1 h2
        clear hSame hRR
        rw [if_pos (wanted_plain rfl)]
        go_simp
        refine hKK _ _ ?_ ?_
        · first | exact Below.refl _ _ | exact (Below.refl _ _).alloc (Nat.le_refl _) _ | exact below_draw _ _ | assumption
        · exact rfl
      refine Obs.cons (k' := 40) rfl ?_ ?_
      · intro fa W hW hSame hRR KK hKK
        try dsimp only at hW
        obtain ⟨fv38, ft38, fm38⟩ := hRR 38 _ 151 rfl rfl (by kernel_rfl)
        replace fm38 : fv38 = Value.bool true := fm38
        subst fm38
        replace hKK : ∀ v w', Go.RowKit.Below W.heap.size W w' → v = Value.bool true → KK (Act.put fa _ v) w' := fun v w' h1 h2 => hKK v w' h1 h2
        clear hSame hRR
        rw [if_pos (wanted_plain rfl)]
        go_simp
        refine hKK _ _ ?_ ?_
        · first | exact Below.refl _ _ | exact (Below.refl _ _).alloc (Nat.le_refl _) _ | exact below_draw _ _ | assumption
        · exact rfl
      refine Obs.cons (k' := 41) rfl ?_ ?_
      · intro fa W hW hSame hRR KK hKK
        try dsimp only at hW
        obtain ⟨fv39, ft39, fm39⟩ := hRR 39 _ 152 rfl rfl (by kernel_rfl)
        replace fm39 : fv39 = Value.bool true := fm39
        subst fm39
        have fb18 := hSame.base 18 (by kernel_rfl)
        simp only [List.getElem?_toArray, List.getElem?_cons_succ, List.getElem?_cons_zero] at fb18
        replace hKK : ∀ v w', Go.RowKit.Below W.heap.size W w' → v = Value.int IntKind.i64 18 → KK (Act.put fa _ v) w' := fun v w' h1 h2 => hKK v w' h1 h2
        clear hSame hRR
        rw [wanted_guard rfl rfl rfl ft39]
        first | rw [if_pos (by rfl)] | rw [if_neg (by decide)]
        go_simp
        refine hKK _ _ ?_ ?_
        · first | exact Below.refl _ _ | exact (Below.refl _ _).alloc (Nat.le_refl _) _ | exact below_draw _ _ | assumption
        · exact rfl
      refine Obs.cons (k' := 42) rfl ?_ ?_
      · intro fa W hW hSame hRR KK hKK
        try dsimp only at hW
        obtain ⟨fv40, ft40, fm40⟩ := hRR 40 _ 153 rfl rfl (by kernel_rfl)
        replace fm40 : fv40 = Value.int IntKind.i64 18 := fm40
        subst fm40
        obtain ⟨fv39, ft39, fm39⟩ := hRR 39 _ 152 rfl rfl (by kernel_rfl)
        replace fm39 : fv39 = Value.bool true := fm39
        subst fm39
        replace hKK : ∀ v w', Go.RowKit.Below W.heap.size W w' → v = Value.bool true → KK (Act.put fa _ v) w' := fun v w' h1 h2 => hKK v w' h1 h2
        clear hSame hRR
        rw [wanted_guard rfl rfl rfl ft39]
        first | rw [if_pos (by rfl)] | rw [if_neg (by decide)]
        go_simp
        refine hKK _ _ ?_ ?_
        · first | exact Below.refl _ _ | exact (Below.refl _ _).alloc (Nat.le_refl _) _ | exact below_draw _ _ | assumption
        · exact rfl
      refine Obs.cons (k' := 43) rfl ?_ ?_
      · intro fa W hW hSame hRR KK hKK
        try dsimp only at hW
        obtain ⟨fv39, ft39, fm39⟩ := hRR 39 _ 152 rfl rfl (by kernel_rfl)
        replace fm39 : fv39 = Value.bool true := fm39
        subst fm39
        obtain ⟨fv41, ft41, fm41⟩ := hRR 41 _ 154 rfl rfl (by kernel_rfl)
        replace fm41 : fv41 = Value.bool true := fm41
        subst fm41
        replace hKK : ∀ v w', Go.RowKit.Below W.heap.size W w' → v = Value.bool true → KK (Act.put fa _ v) w' := fun v w' h1 h2 => hKK v w' h1 h2
        clear hSame hRR
        rw [if_pos (wanted_plain rfl)]
        go_simp
        refine hKK _ _ ?_ ?_
        · first | exact Below.refl _ _ | exact (Below.refl _ _).alloc (Nat.le_refl _) _ | exact below_draw _ _ | assumption
        · exact rfl
      refine Obs.cons (k' := 44) rfl ?_ ?_
      · intro fa W hW hSame hRR KK hKK
        try dsimp only at hW
        obtain ⟨fv42, ft42, fm42⟩ := hRR 42 _ 155 rfl rfl (by kernel_rfl)
        replace fm42 : fv42 = Value.bool true := fm42
        subst fm42
        replace hKK : ∀ v w', Go.RowKit.Below W.heap.size W w' → v = Value.bool true → KK (Act.put fa _ v) w' := fun v w' h1 h2 => hKK v w' h1 h2
        clear hSame hRR
        rw [if_pos (wanted_plain rfl)]
        go_simp
        refine hKK _ _ ?_ ?_
        · first | exact Below.refl _ _ | exact (Below.refl _ _).alloc (Nat.le_refl _) _ | exact below_draw _ _ | assumption
        · exact rfl
      refine Obs.cons (k' := 45) rfl ?_ ?_
      · intro fa W hW hSame hRR KK hKK
        try dsimp only at hW
        obtain ⟨fv43, ft43, fm43⟩ := hRR 43 _ 156 rfl rfl (by kernel_rfl)
        replace fm43 : fv43 = Value.bool true := fm43
        subst fm43
        have fb20 := hSame.base 20 (by kernel_rfl)
        simp only [List.getElem?_toArray, List.getElem?_cons_succ, List.getElem?_cons_zero] at fb20
        replace hKK : ∀ v w', Go.RowKit.Below W.heap.size W w' → v = Value.int IntKind.i64 1 → KK (Act.put fa _ v) w' := fun v w' h1 h2 => hKK v w' h1 h2
        clear hSame hRR
        rw [wanted_guard rfl rfl rfl ft43]
        first | rw [if_pos (by rfl)] | rw [if_neg (by decide)]
        go_simp
        refine hKK _ _ ?_ ?_
        · first | exact Below.refl _ _ | exact (Below.refl _ _).alloc (Nat.le_refl _) _ | exact below_draw _ _ | assumption
        · exact rfl
      refine Obs.cons (k' := 46) rfl ?_ ?_
      · intro fa W hW hSame hRR KK hKK
        try dsimp only at hW
        obtain ⟨fv44, ft44, fm44⟩ := hRR 44 _ 157 rfl rfl (by kernel_rfl)
        replace fm44 : fv44 = Value.int IntKind.i64 1 := fm44
        subst fm44
        obtain ⟨fv43, ft43, fm43⟩ := hRR 43 _ 156 rfl rfl (by kernel_rfl)
        replace fm43 : fv43 = Value.bool true := fm43
        subst fm43
        replace hKK : ∀ v w', Go.RowKit.Below W.heap.size W w' → v = Value.bool true → KK (Act.put fa _ v) w' := fun v w' h1 h2 => hKK v w' h1 h2
        clear hSame hRR
        rw [wanted_guard rfl rfl rfl ft43]
        first | rw [if_pos (by rfl)] | rw [if_neg (by decide)]
        go_simp
        refine hKK _ _ ?_ ?_
        · first | exact Below.refl _ _ | exact (Below.refl _ _).alloc (Nat.le_refl _) _ | exact below_draw _ _ | assumption
        · exact rfl
      refine Obs.cons (k' := 47) rfl ?_ ?_
      · intro fa W hW hSame hRR KK hKK
        try dsimp only at hW
        obtain ⟨fv43, ft43, fm43⟩ := hRR 43 _ 156 rfl rfl (by kernel_rfl)
        replace fm43 : fv43 = Value.bool true := fm43
        subst fm43
        obtain ⟨fv45, ft45, fm45⟩ := hRR 45 _ 158 rfl rfl (by kernel_rfl)
        replace fm45 : fv45 = Value.bool true := fm45
        subst fm45
        replace hKK : ∀ v w', Go.RowKit.Below W.heap.size W w' → v = Value.bool true → KK (Act.put fa _ v) w' := fun v w' h1 h2 => hKK v w' h1 h2
        clear hSame hRR
        rw [if_pos (wanted_plain rfl)]
        go_simp
        refine hKK _ _ ?_ ?_
        · first | exact Below.refl _ _ | exact (Below.refl _ _).alloc (Nat.le_refl _) _ | exact below_draw _ _ | assumption
        · exact rfl
      refine Obs.cons (k' := 48) rfl ?_ ?_
      · intro fa W hW hSame hRR KK hKK
        try dsimp only at hW
        obtain ⟨fv46, ft46, fm46⟩ := hRR 46 _ 159 rfl rfl (by kernel_rfl)
        replace fm46 : fv46 = Value.bool true := fm46
        subst fm46
        replace hKK : ∀ v w', Go.RowKit.Below W.heap.size W w' → v = Value.bool true → KK (Act.put fa _ v) w' := fun v w' h1 h2 => hKK v w' h1 h2
        clear hSame hRR
        rw [if_pos (wanted_plain rfl)]
        go_simp
        refine hKK _ _ ?_ ?_
        · first | exact Below.refl _ _ | exact (Below.refl _ _).alloc (Nat.le_refl _) _ | exact below_draw _ _ | assumption
        · exact rfl
      refine Obs.cons (k' := 49) rfl ?_ ?_
      · intro fa W hW hSame hRR KK hKK
        try dsimp only at hW
        obtain ⟨fv47, ft47, fm47⟩ := hRR 47 _ 160 rfl rfl (by kernel_rfl)
        replace fm47 : fv47 = Value.bool true := fm47
        subst fm47
        have fb21 := hSame.base 21 (by kernel_rfl)
        simp only [List.getElem?_toArray, List.getElem?_cons_succ, List.getElem?_cons_zero] at fb21
        replace hKK : ∀ v w', Go.RowKit.Below W.heap.size W w' → v = Value.int IntKind.i64 0 → KK (Act.put fa _ v) w' := fun v w' h1 h2 => hKK v w' h1 h2
        clear hSame hRR
        rw [wanted_guard rfl rfl rfl ft47]
        first | rw [if_pos (by rfl)] | rw [if_neg (by decide)]
        go_simp
        refine hKK _ _ ?_ ?_
        · first | exact Below.refl _ _ | exact (Below.refl _ _).alloc (Nat.le_refl _) _ | exact below_draw _ _ | assumption
        · exact rfl
      refine Obs.cons (k' := 50) rfl ?_ ?_
      · intro fa W hW hSame hRR KK hKK
        try dsimp only at hW
        obtain ⟨fv48, ft48, fm48⟩ := hRR 48 _ 161 rfl rfl (by kernel_rfl)
        replace fm48 : fv48 = Value.int IntKind.i64 0 := fm48
        subst fm48
        obtain ⟨fv47, ft47, fm47⟩ := hRR 47 _ 160 rfl rfl (by kernel_rfl)
        replace fm47 : fv47 = Value.bool true := fm47
        subst fm47
        replace hKK : ∀ v w', Go.RowKit.Below W.heap.size W w' → v = Value.bool true → KK (Act.put fa _ v) w' := fun v w' h1 h2 => hKK v w' h1 h2
        clear hSame hRR
        rw [wanted_guard rfl rfl rfl ft47]
        first | rw [if_pos (by rfl)] | rw [if_neg (by decide)]
        go_simp
        refine hKK _ _ ?_ ?_
        · first | exact Below.refl _ _ | exact (Below.refl _ _).alloc (Nat.le_refl _) _ | exact below_draw _ _ | assumption
        · exact rfl
      refine Obs.cons (k' := 51) rfl ?_ ?_
      · intro fa W hW hSame hRR KK hKK
        try dsimp only at hW
        obtain ⟨fv47, ft47, fm47⟩ := hRR 47 _ 160 rfl rfl (by kernel_rfl)
        replace fm47 : fv47 = Value.bool true := fm47
        subst fm47
        obtain ⟨fv49, ft49, fm49⟩ := hRR 49 _ 162 rfl rfl (by kernel_rfl)
        replace fm49 : fv49 = Value.bool true := fm49
        subst fm49
        replace hKK : ∀ v w', Go.RowKit.Below W.heap.size W w' → v = Value.bool true → KK (Act.put fa _ v) w' := fun v w' h1 h2 => hKK v w' h1 h2
        clear hSame hRR
        rw [if_pos (wanted_plain rfl)]
        go_simp
        refine hKK _ _ ?_ ?_
        · first | exact Below.refl _ _ | exact (Below.refl _ _).alloc (Nat.le_refl _) _ | exact below_draw _ _ | assumption
        · exact rfl
      refine Obs.cons (k' := 52) rfl ?_ ?_
      · intro fa W hW hSame hRR KK hKK
        try dsimp only at hW
        obtain ⟨fv50, ft50, fm50⟩ := hRR 50 _ 163 rfl rfl (by kernel_rfl)
        replace fm50 : fv50 = Value.bool true := fm50
        subst fm50
        replace hKK : ∀ v w', Go.RowKit.Below W.heap.size W w' → v = Value.bool true → KK (Act.put fa _ v) w' := fun v w' h1 h2 => hKK v w' h1 h2
        clear hSame hRR
        rw [if_pos (wanted_plain rfl)]
        go_simp
        refine hKK _ _ ?_ ?_
        · first | exact Below.refl _ _ | exact (Below.refl _ _).alloc (Nat.le_refl _) _ | exact below_draw _ _ | assumption
        · exact rfl
      refine Obs.cons (k' := 53) rfl ?_ ?_
      · intro fa W hW hSame hRR KK hKK
        try dsimp only at hW
        obtain ⟨fv51, ft51, fm51⟩ := hRR 51 _ 164 rfl rfl (by kernel_rfl)
        replace fm51 : fv51 = Value.bool true := fm51
        subst fm51
        have fb22 := hSame.base 22 (by kernel_rfl)
        simp only [List.getElem?_toArray, List.getElem?_cons_succ, List.getElem?_cons_zero] at fb22
        replace hKK : ∀ v w', Go.RowKit.Below W.heap.size W w' → v = Value.int IntKind.i64 0 → KK (Act.put fa _ v) w' := fun v w' h1 h2 => hKK v w' h1 h2
        clear hSame hRR
        rw [wanted_guard rfl rfl rfl ft51]
        first | rw [if_pos (by rfl)] | rw [if_neg (by decide)]
        go_simp
        refine hKK _ _ ?_ ?_
        · first | exact Below.refl _ _ | exact (Below.refl _ _).alloc (Nat.le_refl _) _ | exact below_draw _ _ | assumption
        · exact rfl
      refine Obs.cons (k' := 54) rfl ?_ ?_
      · intro fa W hW hSame hRR KK hKK
        try dsimp only at hW
        obtain ⟨fv52, ft52, fm52⟩ := hRR 52 _ 165 rfl rfl (by kernel_rfl)
        replace fm52 : fv52 = Value.int IntKind.i64 0 := fm52
        subst fm52
        obtain ⟨fv51, ft51, fm51⟩ := hRR 51 _ 164 rfl rfl (by kernel_rfl)
        replace fm51 : fv51 = Value.bool true := fm51
        subst fm51
        replace hKK : ∀ v w', Go.RowKit.Below W.heap.size W w' → v = Value.bool true → KK (Act.put fa _ v) w' := fun v w' h1 h2 => hKK v w' h1 h2
        clear hSame hRR
        rw [wanted_guard rfl rfl rfl ft51]
        first | rw [if_pos (by rfl)] | rw [if_neg (by decide)]
        go_simp
        refine hKK _ _ ?_ ?_
        · first | exact Below.refl _ _ | exact (Below.refl _ _).alloc (Nat.le_refl _) _ | exact below_draw _ _ | assumption
        · exact rfl
      refine Obs.cons (k' := 55) rfl ?_ ?_
      · intro fa W hW hSame hRR KK hKK
        try dsimp only at hW
        obtain ⟨fv51, ft51, fm51⟩ := hRR 51 _ 164 rfl rfl (by kernel_rfl)
        replace fm51 : fv51 = Value.bool true := fm51
        subst fm51
        obtain ⟨fv53, ft53, fm53⟩ := hRR 53 _ 166 rfl rfl (by kernel_rfl)
        replace fm53 : fv53 = Value.bool true := fm53
        subst fm53
        replace hKK : ∀ v w', Go.RowKit.Below W.heap.size W w' → v = Value.bool true → KK (Act.put fa _ v) w' := fun v w' h1 h2 => hKK v w' h1 h2
        clear hSame hRR
        rw [if_pos (wanted_plain rfl)]
        go_simp
        refine hKK _ _ ?_ ?_
        · first | exact Below.refl _ _ | exact (Below.refl _ _).alloc (Nat.le_refl _) _ | exact below_draw _ _ | assumption
        · exact rfl
      refine Obs.cons (k' := 56) rfl ?_ ?_
      · intro fa W hW hSame hRR KK hKK
        try dsimp only at hW
        obtain ⟨fv54, ft54, fm54⟩ := hRR 54 _ 167 rfl rfl (by kernel_rfl)
        replace fm54 : fv54 = Value.bool true := fm54
        subst fm54
        replace hKK : ∀ v w', Go.RowKit.Below W.heap.size W w' → v = Value.bool true → KK (Act.put fa _ v) w' := fun v w' h1 h2 => hKK v w' h1 h2
        clear hSame hRR
        rw [if_pos (wanted_plain rfl)]
        go_simp
        refine hKK _ _ ?_ ?_
        · first | exact Below.refl _ _ | exact (Below.refl _ _).alloc (Nat.le_refl _) _ | exact below_draw _ _ | assumption
        · exact rfl
      refine Obs.cons (k' := 57) rfl ?_ ?_
      · intro fa W hW hSame hRR KK hKK
        try dsimp only at hW
        obtain ⟨fv55, ft55, fm55⟩ := hRR 55 _ 168 rfl rfl (by kernel_rfl)
        replace fm55 : fv55 = Value.bool true := fm55
        subst fm55
        have fb24 := hSame.base 24 (by kernel_rfl)
        simp only [List.getElem?_toArray, List.getElem?_cons_succ, List.getElem?_cons_zero] at fb24
        replace hKK : ∀ v w', Go.RowKit.Below W.heap.size W w' → v = Value.int IntKind.i64 4 → KK (Act.put fa _ v) w' := fun v w' h1 h2 => hKK v w' h1 h2
        clear hSame hRR
        rw [wanted_guard rfl rfl rfl ft55]
        first | rw [if_pos (by rfl)] | rw [if_neg (by decide)]
        go_simp
        refine hKK _ _ ?_ ?_
        · first | exact Below.refl _ _ | exact (Below.refl _ _).alloc (Nat.le_refl _) _ | exact below_draw _ _ | assumption
        · exact rfl
      refine Obs.cons (k' := 58) rfl ?_ ?_
      · intro fa W hW hSame hRR KK hKK
        try dsimp only at hW
        obtain ⟨fv56, ft56, fm56⟩ := hRR 56 _ 169 rfl rfl (by kernel_rfl)
        replace fm56 : fv56 = Value.int IntKind.i64 4 := fm56
        subst fm56
        obtain ⟨fv55, ft55, fm55⟩ := hRR 55 _ 168 rfl rfl (by kernel_rfl)
        replace fm55 : fv55 = Value.bool true := fm55
        subst fm55
        replace hKK : ∀ v w', Go.RowKit.Below W.heap.size W w' → v = Value.bool true → KK (Act.put fa _ v) w' := fun v w' h1 h2 => hKK v w' h1 h2
        clear hSame hRR
        rw [wanted_guard rfl rfl rfl ft55]
        first | rw [if_pos (by rfl)] | rw [if_neg (by decide)]
        go_simp
        refine hKK _ _ ?_ ?_
        · first | exact Below.refl _ _ | exact (Below.refl _ _).alloc (Nat.le_refl _) _ | exact below_draw _ _ | assumption
        · exact rfl
      refine Obs.cons (k' := 59) rfl ?_ ?_
      · intro fa W hW hSame hRR KK hKK
        try dsimp only at hW
        obtain ⟨fv55, ft55, fm55⟩ := hRR 55 _ 168 rfl rfl (by kernel_rfl)
        replace fm55 : fv55 = Value.bool true := fm55
        subst fm55
        obtain ⟨fv57, ft57, fm57⟩ := hRR 57 _ 170 rfl rfl (by kernel_rfl)
        replace fm57 : fv57 = Value.bool true := fm57
        subst fm57
        replace hKK : ∀ v w', Go.RowKit.Below W.heap.size W w' → v = Value.bool true → KK (Act.put fa _ v) w' := fun v w' h1 h2 => hKK v w' h1 h2
        clear hSame hRR
        rw [if_pos (wanted_plain rfl)]
        go_simp
        refine hKK _ _ ?_ ?_
        · first | exact Below.refl _ _ | exact (Below.refl _ _).alloc (Nat.le_refl _) _ | exact below_draw _ _ | assumption
        · exact rfl
      refine Obs.cons (k' := 60) rfl ?_ ?_
      · intro fa W hW hSame hRR KK hKK
        try dsimp only at hW
        obtain ⟨fv58, ft58, fm58⟩ := hRR 58 _ 171 rfl rfl (by kernel_rfl)
        replace fm58 : fv58 = Value.bool true := fm58
        subst fm58
        replace hKK : ∀ v w', Go.RowKit.Below W.heap.size W w' → v = Value.bool true → KK (Act.put fa _ v) w' := fun v w' h1 h2 => hKK v w' h1 h2
        clear hSame hRR
        rw [if_pos (wanted_plain rfl)]
        go_simp
        refine hKK _ _ ?_ ?_
        · first | exact Below.refl _ _ | exact (Below.refl _ _).alloc (Nat.le_refl _) _ | exact below_draw _ _ | assumption
        · exact rfl
      refine Obs.cons (k' := 61) rfl ?_ ?_
      · intro fa W hW hSame hRR KK hKK
        try dsimp only at hW
        obtain ⟨fv59, ft59, fm59⟩ := hRR 59 _ 172 rfl rfl (by kernel_rfl)
        replace fm59 : fv59 = Value.bool true := fm59
        subst fm59
        have fb25 := hSame.base 25 (by kernel_rfl)
        simp only [List.getElem?_toArray, List.getElem?_cons_succ, List.getElem?_cons_zero] at fb25
        replace hKK : ∀ v w', Go.RowKit.Below W.heap.size W w' → v = Value.float FloatKind.f64 9223372036854775808 → KK (Act.put fa _ v) w' := fun v w' h1 h2 => hKK v w' h1 h2
        clear hSame hRR
        rw [wanted_guard rfl rfl rfl ft59]
        first | rw [if_pos (by rfl)] | rw [if_neg (by decide)]
        go_simp
        refine hKK _ _ ?_ ?_
        · first | exact Below.refl _ _ | exact (Below.refl _ _).alloc (Nat.le_refl _) _ | exact below_draw _ _ | assumption
        · exact rfl
      refine Obs.cons (k' := 62) rfl ?_ ?_
      · intro fa W hW hSame hRR KK hKK
        try dsimp only at hW
        obtain ⟨fv60, ft60, fm60⟩ := hRR 60 _ 173 rfl rfl (by kernel_rfl)
        replace fm60 : fv60 = Value.float FloatKind.f64 9223372036854775808 := fm60
        subst fm60
        obtain ⟨fv59, ft59, fm59⟩ := hRR 59 _ 172 rfl rfl (by kernel_rfl)
        replace fm59 : fv59 = Value.bool true := fm59
        subst fm59
        obtain ⟨fv59, ft59, fm59⟩ := hRR 59 _ 172 rfl rfl (by kernel_rfl)
        replace fm59 : fv59 = Value.bool true := fm59
        subst fm59
        replace hKK : ∀ v w', Go.RowKit.Below W.heap.size W w' → v = Value.int IntKind.i64 3 → KK (Act.put fa _ v) w' := fun v w' h1 h2 => hKK v w' h1 h2
        clear hSame hRR
        rw [wanted_guard rfl rfl rfl ft59]
        first | rw [if_pos (by rfl)] | rw [if_neg (by decide)]
        go_simp
        first
            | (go_at_call 16; refine (kind_any _ (by first | exact HQ2.out | decide) _).mono ?_; rintro e w' ⟨rfl, rfl⟩; first
                | rw [show Fl.kd (Fl.rk 9223372036854775808) = 3 by decide +kernel]
                | rw [show Fl.kd (Fl.rk 0) = 4 by decide +kernel]
                | rw [show Fl.kd (Fl.rk 13835058055282163712) = 2 by decide +kernel]
                | rw [show Fl.kd (Fl.rk 4602678819172646912) = 5 by decide +kernel])
            | (go_at_call 18; refine (same_any _ _ (by first | exact HQ2.out | decide) (by first | exact HQ2.out | decide) _).mono ?_; rintro e w' ⟨rfl, rfl⟩; first
                | rw [show Fl.sameB q q = true from by unfold Fl.sameB; simp]
                | rw [show Fl.sameB 9223372036854775808 0 = false by decide +kernel])
            | (go_at_call 20; refine (less_any _ _ (by first | exact HQ2.out | decide) (by first | exact HQ2.out | decide) _).mono ?_; rintro e w' ⟨rfl, rfl⟩; first
                | rw [show Fl.lessB 9223372036854775808 0 = true by decide +kernel]
                | rw [show Fl.lessB q 18442240474082181120 = true from by unfold Fl.lessB; rw [Fl.rk_nan2 HQ.out]; decide +kernel]
                | rw [show Fl.lessB 0 0 = false by decide +kernel])
            | (go_at_call 24; refine (real_of _ _).mono ?_; rintro e w' ⟨rfl, rfl⟩; rw [show FloatKind.f64.nearest 9007199254740993 = 4845873199050653696 by decide +kernel])
            | (go_at_call 22; first
                | ((with_reducible refine (sum_none _).mono ?_); rintro e w' ⟨rfl, rfl⟩)
                | ((with_reducible refine (sum_any _ 1 1 [9223372036854775808] _ fm136 (by decide) (by decide) (by unfold maxLen; decide) (by intro x hx; simp at hx; subst hx; decide)).mono ?_); rintro e w' ⟨r, hr, rfl, jj, hk⟩; have hb := below_of_draw hk; obtain rfl := Eqv_lit hr (by decide +kernel); rw [show Fl.csum [9223372036854775808] = 9223372036854775808 by decide +kernel])
                | ((with_reducible refine (sum_any _ 3 3 [4607182418800017408, 4611686018427387904, 4602678819172646912] _ fm142 (by decide) (by decide) (by unfold maxLen; decide) (by intro x hx; simp at hx; rcases hx with rfl | rfl | rfl <;> decide)).mono ?_); rintro e w' ⟨r, hr, rfl, jj, hk⟩; have hb := below_of_draw hk; obtain rfl := Eqv_lit hr (by decide +kernel); rw [show Fl.csum [4607182418800017408, 4611686018427387904, 4602678819172646912] = 4615063718147915776 by decide +kernel]))
        try dsimp only
        refine hKK _ _ ?_ ?_
        · first | exact Below.refl _ _ | exact (Below.refl _ _).alloc (Nat.le_refl _) _ | exact below_draw _ _ | assumption
        · exact rfl
      refine Obs.cons (k' := 63) rfl ?_ ?_
      · intro fa W hW hSame hRR KK hKK
        try dsimp only at hW
        obtain ⟨fv61, ft61, fm61⟩ := hRR 61 _ 174 rfl rfl (by kernel_rfl)
        replace fm61 : fv61 = Value.int IntKind.i64 3 := fm61
        subst fm61
        obtain ⟨fv59, ft59, fm59⟩ := hRR 59 _ 172 rfl rfl (by kernel_rfl)
        replace fm59 : fv59 = Value.bool true := fm59
        subst fm59
        replace hKK : ∀ v w', Go.RowKit.Below W.heap.size W w' → v = Value.bool true → KK (Act.put fa _ v) w' := fun v w' h1 h2 => hKK v w' h1 h2
        clear hSame hRR
        rw [wanted_guard rfl rfl rfl ft59]
        first | rw [if_pos (by rfl)] | rw [if_neg (by decide)]
        go_simp
        refine hKK _ _ ?_ ?_
        · first | exact Below.refl _ _ | exact (Below.refl _ _).alloc (Nat.le_refl _) _ | exact below_draw _ _ | assumption
        · exact rfl
      refine Obs.cons (k' := 64) rfl ?_ ?_
      · intro fa W hW hSame hRR KK hKK
        try dsimp only at hW
        obtain ⟨fv59, ft59, fm59⟩ := hRR 59 _ 172 rfl rfl (by kernel_rfl)
        replace fm59 : fv59 = Value.bool true := fm59
        subst fm59
        obtain ⟨fv62, ft62, fm62⟩ := hRR 62 _ 175 rfl rfl (by kernel_rfl)
        replace fm62 : fv62 = Value.bool true := fm62
        subst fm62
        replace hKK : ∀ v w', Go.RowKit.Below W.heap.size W w' → v = Value.bool true → KK (Act.put fa _ v) w' := fun v w' h1 h2 => hKK v w' h1 h2
        clear hSame hRR
        rw [if_pos (wanted_plain rfl)]
        go_simp
        refine hKK _ _ ?_ ?_
        · first | exact Below.refl _ _ | exact (Below.refl _ _).alloc (Nat.le_refl _) _ | exact below_draw _ _ | assumption
        · exact rfl
      refine Obs.cons (k' := 65) rfl ?_ ?_
      · intro fa W hW hSame hRR KK hKK
        try dsimp only at hW
        obtain ⟨fv63, ft63, fm63⟩ := hRR 63 _ 176 rfl rfl (by kernel_rfl)
        replace fm63 : fv63 = Value.bool true := fm63
        subst fm63
        replace hKK : ∀ v w', Go.RowKit.Below W.heap.size W w' → v = Value.bool true → KK (Act.put fa _ v) w' := fun v w' h1 h2 => hKK v w' h1 h2
        clear hSame hRR
        rw [if_pos (wanted_plain rfl)]
        go_simp
        refine hKK _ _ ?_ ?_
        · first | exact Below.refl _ _ | exact (Below.refl _ _).alloc (Nat.le_refl _) _ | exact below_draw _ _ | assumption
        · exact rfl
      refine Obs.cons (k' := 66) rfl ?_ ?_
      · intro fa W hW hSame hRR KK hKK
        try dsimp only at hW
        obtain ⟨fv64, ft64, fm64⟩ := hRR 64 _ 177 rfl rfl (by kernel_rfl)
        replace fm64 : fv64 = Value.bool true := fm64
        subst fm64
        have fb26 := hSame.base 26 (by kernel_rfl)
        simp only [List.getElem?_toArray, List.getElem?_cons_succ, List.getElem?_cons_zero] at fb26
        replace hKK : ∀ v w', Go.RowKit.Below W.heap.size W w' → v = Value.bool true → KK (Act.put fa _ v) w' := fun v w' h1 h2 => hKK v w' h1 h2
        clear hSame hRR
        rw [wanted_guard rfl rfl rfl ft64]
        first | rw [if_pos (by rfl)] | rw [if_neg (by decide)]
        go_simp
        refine hKK _ _ ?_ ?_
        · first | exact Below.refl _ _ | exact (Below.refl _ _).alloc (Nat.le_refl _) _ | exact below_draw _ _ | assumption
        · exact rfl
      refine Obs.cons (k' := 67) rfl ?_ ?_
      · intro fa W hW hSame hRR KK hKK
        try dsimp only at hW
        obtain ⟨fv64, ft64, fm64⟩ := hRR 64 _ 177 rfl rfl (by kernel_rfl)
        replace fm64 : fv64 = Value.bool true := fm64
        subst fm64
        obtain ⟨fv65, ft65, fm65⟩ := hRR 65 _ 178 rfl rfl (by kernel_rfl)
        replace fm65 : fv65 = Value.bool true := fm65
        subst fm65
        replace hKK : ∀ v w', Go.RowKit.Below W.heap.size W w' → v = Value.bool true → KK (Act.put fa _ v) w' := fun v w' h1 h2 => hKK v w' h1 h2
        clear hSame hRR
        rw [if_pos (wanted_plain rfl)]
        go_simp
        refine hKK _ _ ?_ ?_
        · first | exact Below.refl _ _ | exact (Below.refl _ _).alloc (Nat.le_refl _) _ | exact below_draw _ _ | assumption
        · exact rfl
      refine Obs.cons (k' := 68) rfl ?_ ?_
      · intro fa W hW hSame hRR KK hKK
        try dsimp only at hW
        obtain ⟨fv66, ft66, fm66⟩ := hRR 66 _ 179 rfl rfl (by kernel_rfl)
        replace fm66 : fv66 = Value.bool true := fm66
        subst fm66
        replace hKK : ∀ v w', Go.RowKit.Below W.heap.size W w' → v = Value.bool true → KK (Act.put fa _ v) w' := fun v w' h1 h2 => hKK v w' h1 h2
        clear hSame hRR
        rw [if_pos (wanted_plain rfl)]
        go_simp
        refine hKK _ _ ?_ ?_
        · first | exact Below.refl _ _ | exact (Below.refl _ _).alloc (Nat.le_refl _) _ | exact below_draw _ _ | assumption
        · exact rfl
      refine Obs.cons (k' := 69) rfl ?_ ?_
      · intro fa W hW hSame hRR KK hKK
        try dsimp only at hW
        obtain ⟨fv67, ft67, fm67⟩ := hRR 67 _ 180 rfl rfl (by kernel_rfl)
        replace fm67 : fv67 = Value.bool true := fm67
        subst fm67
        have fb27 := hSame.base 27 (by kernel_rfl)
        simp only [List.getElem?_toArray, List.getElem?_cons_succ, List.getElem?_cons_zero] at fb27
        replace hKK : ∀ v w', Go.RowKit.Below W.heap.size W w' → v = Value.float FloatKind.f64 0 → KK (Act.put fa _ v) w' := fun v w' h1 h2 => hKK v w' h1 h2
        clear hSame hRR
        rw [wanted_guard rfl rfl rfl ft67]
        first | rw [if_pos (by rfl)] | rw [if_neg (by decide)]
        go_simp
        refine hKK _ _ ?_ ?_
        · first | exact Below.refl _ _ | exact (Below.refl _ _).alloc (Nat.le_refl _) _ | exact below_draw _ _ | assumption
        · exact rfl
      refine Obs.cons (k' := 70) rfl ?_ ?_
      · intro fa W hW hSame hRR KK hKK
        try dsimp only at hW
        obtain ⟨fv68, ft68, fm68⟩ := hRR 68 _ 181 rfl rfl (by kernel_rfl)
        replace fm68 : fv68 = Value.float FloatKind.f64 0 := fm68
        subst fm68
        obtain ⟨fv67, ft67, fm67⟩ := hRR 67 _ 180 rfl rfl (by kernel_rfl)
        replace fm67 : fv67 = Value.bool true := fm67
        subst fm67
        obtain ⟨fv67, ft67, fm67⟩ := hRR 67 _ 180 rfl rfl (by kernel_rfl)
        replace fm67 : fv67 = Value.bool true := fm67
        subst fm67
        replace hKK : ∀ v w', Go.RowKit.Below W.heap.size W w' → v = Value.int IntKind.i64 4 → KK (Act.put fa _ v) w' := fun v w' h1 h2 => hKK v w' h1 h2
        clear hSame hRR
        rw [wanted_guard rfl rfl rfl ft67]
        first | rw [if_pos (by rfl)] | rw [if_neg (by decide)]
        go_simp
        first
            | (go_at_call 16; refine (kind_any _ (by first | exact HQ2.out | decide) _).mono ?_; rintro e w' ⟨rfl, rfl⟩; first
                | rw [show Fl.kd (Fl.rk 9223372036854775808) = 3 by decide +kernel]
                | rw [show Fl.kd (Fl.rk 0) = 4 by decide +kernel]
                | rw [show Fl.kd (Fl.rk 13835058055282163712) = 2 by decide +kernel]
                | rw [show Fl.kd (Fl.rk 4602678819172646912) = 5 by decide +kernel])
            | (go_at_call 18; refine (same_any _ _ (by first | exact HQ2.out | decide) (by first | exact HQ2.out | decide) _).mono ?_; rintro e w' ⟨rfl, rfl⟩; first
                | rw [show Fl.sameB q q = true from by unfold Fl.sameB; simp]
                | rw [show Fl.sameB 9223372036854775808 0 = false by decide +kernel])
            | (go_at_call 20; refine (less_any _ _ (by first | exact HQ2.out | decide) (by first | exact HQ2.out | decide) _).mono ?_; rintro e w' ⟨rfl, rfl⟩; first
                | rw [show Fl.lessB 9223372036854775808 0 = true by decide +kernel]
                | rw [show Fl.lessB q 18442240474082181120 = true from by unfold Fl.lessB; rw [Fl.rk_nan2 HQ.out]; decide +kernel]
                | rw [show Fl.lessB 0 0 = false by decide +kernel])
            | (go_at_call 24; refine (real_of _ _).mono ?_; rintro e w' ⟨rfl, rfl⟩; rw [show FloatKind.f64.nearest 9007199254740993 = 4845873199050653696 by decide +kernel])
            | (go_at_call 22; first
                | ((with_reducible refine (sum_none _).mono ?_); rintro e w' ⟨rfl, rfl⟩)
                | ((with_reducible refine (sum_any _ 1 1 [9223372036854775808] _ fm136 (by decide) (by decide) (by unfold maxLen; decide) (by intro x hx; simp at hx; subst hx; decide)).mono ?_); rintro e w' ⟨r, hr, rfl, jj, hk⟩; have hb := below_of_draw hk; obtain rfl := Eqv_lit hr (by decide +kernel); rw [show Fl.csum [9223372036854775808] = 9223372036854775808 by decide +kernel])
                | ((with_reducible refine (sum_any _ 3 3 [4607182418800017408, 4611686018427387904, 4602678819172646912] _ fm142 (by decide) (by decide) (by unfold maxLen; decide) (by intro x hx; simp at hx; rcases hx with rfl | rfl | rfl <;> decide)).mono ?_); rintro e w' ⟨r, hr, rfl, jj, hk⟩; have hb := below_of_draw hk; obtain rfl := Eqv_lit hr (by decide +kernel); rw [show Fl.csum [4607182418800017408, 4611686018427387904, 4602678819172646912] = 4615063718147915776 by decide +kernel]))
        try dsimp only
        refine hKK _ _ ?_ ?_
        · first | exact Below.refl _ _ | exact (Below.refl _ _).alloc (Nat.le_refl _) _ | exact below_draw _ _ | assumption
        · exact rfl
      refine Obs.cons (k' := 71) rfl ?_ ?_
      · intro fa W hW hSame hRR KK hKK
        try dsimp only at hW
        obtain ⟨fv69, ft69, fm69⟩ := hRR 69 _ 182 rfl rfl (by kernel_rfl)
        replace fm69 : fv69 = Value.int IntKind.i64 4 := fm69
        subst fm69
        obtain ⟨fv67, ft67, fm67⟩ := hRR 67 _ 180 rfl rfl (by kernel_rfl)
        replace fm67 : fv67 = Value.bool true := fm67
        subst fm67
        replace hKK : ∀ v w', Go.RowKit.Below W.heap.size W w' → v = Value.bool true → KK (Act.put fa _ v) w' := fun v w' h1 h2 => hKK v w' h1 h2
        clear hSame hRR
        rw [wanted_guard rfl rfl rfl ft67]
        first | rw [if_pos (by rfl)] | rw [if_neg (by decide)]
        go_simp
        refine hKK _ _ ?_ ?_
        · first | exact Below.refl _ _ | exact (Below.refl _ _).alloc (Nat.le_refl _) _ | exact below_draw _ _ | assumption
        · exact rfl
      refine Obs.cons (k' := 72) rfl ?_ ?_
      · intro fa W hW hSame hRR KK hKK
        try dsimp only at hW
        obtain ⟨fv67, ft67, fm67⟩ := hRR 67 _ 180 rfl rfl (by kernel_rfl)
        replace fm67 : fv67 = Value.bool true := fm67
        subst fm67
        obtain ⟨fv70, ft70, fm70⟩ := hRR 70 _ 183 rfl rfl (by kernel_rfl)
        replace fm70 : fv70 = Value.bool true := fm70
        subst fm70
        replace hKK : ∀ v w', Go.RowKit.Below W.heap.size W w' → v = Value.bool true → KK (Act.put fa _ v) w' := fun v w' h1 h2 => hKK v w' h1 h2
        clear hSame hRR
        rw [if_pos (wanted_plain rfl)]
        go_simp
        refine hKK _ _ ?_ ?_
        · first | exact Below.refl _ _ | exact (Below.refl _ _).alloc (Nat.le_refl _) _ | exact below_draw _ _ | assumption
        · exact rfl
      refine Obs.cons (k' := 73) rfl ?_ ?_
      · intro fa W hW hSame hRR KK hKK
        try dsimp only at hW
        obtain ⟨fv71, ft71, fm71⟩ := hRR 71 _ 184 rfl rfl (by kernel_rfl)
        replace fm71 : fv71 = Value.bool true := fm71
        subst fm71
        replace hKK : ∀ v w', Go.RowKit.Below W.heap.size W w' → v = Value.bool true → KK (Act.put fa _ v) w' := fun v w' h1 h2 => hKK v w' h1 h2
        clear hSame hRR
        rw [if_pos (wanted_plain rfl)]
        go_simp
        refine hKK _ _ ?_ ?_
        · first | exact Below.refl _ _ | exact (Below.refl _ _).alloc (Nat.le_refl _) _ | exact below_draw _ _ | assumption
        · exact rfl
      refine Obs.cons (k' := 74) rfl ?_ ?_
      · intro fa W hW hSame hRR KK hKK
        try dsimp only at hW
        obtain ⟨fv72, ft72, fm72⟩ := hRR 72 _ 185 rfl rfl (by kernel_rfl)
        replace fm72 : fv72 = Value.bool true := fm72
        subst fm72
        have fb28 := hSame.base 28 (by kernel_rfl)
        simp only [List.getElem?_toArray, List.getElem?_cons_succ, List.getElem?_cons_zero] at fb28
        replace hKK : ∀ v w', Go.RowKit.Below W.heap.size W w' → v = Value.bool false → KK (Act.put fa _ v) w' := fun v w' h1 h2 => hKK v w' h1 h2
        clear hSame hRR
        rw [wanted_guard rfl rfl rfl ft72]
        first | rw [if_pos (by rfl)] | rw [if_neg (by decide)]
        go_simp
        refine hKK _ _ ?_ ?_
        · first | exact Below.refl _ _ | exact (Below.refl _ _).alloc (Nat.le_refl _) _ | exact below_draw _ _ | assumption
        · exact rfl
      refine Obs.cons (k' := 75) rfl ?_ ?_
      · intro fa W hW hSame hRR KK hKK
        try dsimp only at hW
        obtain ⟨fv73, ft73, fm73⟩ := hRR 73 _ 186 rfl rfl (by kernel_rfl)
        replace fm73 : fv73 = Value.bool false := fm73
        subst fm73
        obtain ⟨fv72, ft72, fm72⟩ := hRR 72 _ 185 rfl rfl (by kernel_rfl)
        replace fm72 : fv72 = Value.bool true := fm72
        subst fm72
        replace hKK : ∀ v w', Go.RowKit.Below W.heap.size W w' → v = Value.bool true → KK (Act.put fa _ v) w' := fun v w' h1 h2 => hKK v w' h1 h2
        clear hSame hRR
        rw [wanted_guard rfl rfl rfl ft72]
        first | rw [if_pos (by rfl)] | rw [if_neg (by decide)]
        go_simp
        refine hKK _ _ ?_ ?_
        · first | exact Below.refl _ _ | exact (Below.refl _ _).alloc (Nat.le_refl _) _ | exact below_draw _ _ | assumption
        · exact rfl
      refine Obs.cons (k' := 76) rfl ?_ ?_
      · intro fa W hW hSame hRR KK hKK
        try dsimp only at hW
        obtain ⟨fv72, ft72, fm72⟩ := hRR 72 _ 185 rfl rfl (by kernel_rfl)
        replace fm72 : fv72 = Value.bool true := fm72
        subst fm72
        obtain ⟨fv74, ft74, fm74⟩ := hRR 74 _ 187 rfl rfl (by kernel_rfl)
        replace fm74 : fv74 = Value.bool true := fm74
        subst fm74
        replace hKK : ∀ v w', Go.RowKit.Below W.heap.size W w' → v = Value.bool true → KK (Act.put fa _ v) w' := fun v w' h1 h2 => hKK v w' h1 h2
        clear hSame hRR
        rw [if_pos (wanted_plain rfl)]
        go_simp
        refine hKK _ _ ?_ ?_
        · first | exact Below.refl _ _ | exact (Below.refl _ _).alloc (Nat.le_refl _) _ | exact below_draw _ _ | assumption
        · exact rfl
      refine Obs.cons (k' := 77) rfl ?_ ?_
      · intro fa W hW hSame hRR KK hKK
        try dsimp only at hW
        obtain ⟨fv75, ft75, fm75⟩ := hRR 75 _ 188 rfl rfl (by kernel_rfl)
        replace fm75 : fv75 = Value.bool true := fm75
        subst fm75
        replace hKK : ∀ v w', Go.RowKit.Below W.heap.size W w' → v = Value.bool true → KK (Act.put fa _ v) w' := fun v w' h1 h2 => hKK v w' h1 h2
        clear hSame hRR
        rw [if_pos (wanted_plain rfl)]
        go_simp
        refine hKK _ _ ?_ ?_
        · first | exact Below.refl _ _ | exact (Below.refl _ _).alloc (Nat.le_refl _) _ | exact below_draw _ _ | assumption
        · exact rfl
      refine Obs.cons (k' := 78) rfl ?_ ?_
      · intro fa W hW hSame hRR KK hKK
        try dsimp only at hW
        obtain ⟨fv76, ft76, fm76⟩ := hRR 76 _ 189 rfl rfl (by kernel_rfl)
        replace fm76 : fv76 = Value.bool true := fm76
        subst fm76
        have fb1 := hSame.base 1 (by kernel_rfl)
        simp only [List.getElem?_toArray, List.getElem?_cons_succ, List.getElem?_cons_zero] at fb1
        replace hKK : ∀ v w', Go.RowKit.Below W.heap.size W w' → v = Value.slice (some { block := b, off := 0 }) 5 5 → KK (Act.put fa _ v) w' := fun v w' h1 h2 => hKK v w' h1 h2
        clear hSame hRR
        rw [wanted_guard rfl rfl rfl ft76]
        first | rw [if_pos (by rfl)] | rw [if_neg (by decide)]
        go_simp
        refine hKK _ _ ?_ ?_
        · first | exact Below.refl _ _ | exact (Below.refl _ _).alloc (Nat.le_refl _) _ | exact below_draw _ _ | assumption
        · exact rfl
      refine Obs.cons (k' := 79) rfl ?_ ?_
      · intro fa W hW hSame hRR KK hKK
        try dsimp only at hW
        obtain ⟨fv77, ft77, fm77⟩ := hRR 77 _ 190 rfl rfl (by kernel_rfl)
        replace fm77 : fv77 = Value.slice (some { block := b, off := 0 }) 5 5 := fm77
        subst fm77
        obtain ⟨fv76, ft76, fm76⟩ := hRR 76 _ 189 rfl rfl (by kernel_rfl)
        replace fm76 : fv76 = Value.bool true := fm76
        subst fm76
        replace hKK : ∀ v w', Go.RowKit.Below W.heap.size W w' → v = Value.pointer (some { block := b, off := 0 }) → KK (Act.put fa _ v) w' := fun v w' h1 h2 => hKK v w' h1 h2
        clear hSame hRR
        rw [wanted_guard rfl rfl rfl ft76]
        first | rw [if_pos (by rfl)] | rw [if_neg (by decide)]
        go_simp
        refine hKK _ _ ?_ ?_
        · first | exact Below.refl _ _ | exact (Below.refl _ _).alloc (Nat.le_refl _) _ | exact below_draw _ _ | assumption
        · exact rfl
      refine Obs.cons (k' := 80) rfl ?_ ?_
      · intro fa W hW hSame hRR KK hKK
        try dsimp only at hW
        obtain ⟨fv78, ft78, fm78⟩ := hRR 78 _ 191 rfl rfl (by kernel_rfl)
        replace fm78 : fv78 = Value.pointer (some { block := b, off := 0 }) := fm78
        subst fm78
        obtain ⟨fv76, ft76, fm76⟩ := hRR 76 _ 189 rfl rfl (by kernel_rfl)
        replace fm76 : fv76 = Value.bool true := fm76
        subst fm76
        replace hKK : ∀ v w', Go.RowKit.Below W.heap.size W w' → v = Value.float FloatKind.f64 q → KK (Act.put fa _ v) w' := fun v w' h1 h2 => hKK v w' h1 h2
        clear hSame hRR
        rw [wanted_guard rfl rfl rfl ft76]
        first | rw [if_pos (by rfl)] | rw [if_neg (by decide)]
        go_simp
        refine hKK _ _ ?_ ?_
        · first | exact Below.refl _ _ | exact (Below.refl _ _).alloc (Nat.le_refl _) _ | exact below_draw _ _ | assumption
        · exact rfl
      refine Obs.cons (k' := 81) rfl ?_ ?_
      · intro fa W hW hSame hRR KK hKK
        try dsimp only at hW
        obtain ⟨fv76, ft76, fm76⟩ := hRR 76 _ 189 rfl rfl (by kernel_rfl)
        replace fm76 : fv76 = Value.bool true := fm76
        subst fm76
        have fb1 := hSame.base 1 (by kernel_rfl)
        simp only [List.getElem?_toArray, List.getElem?_cons_succ, List.getElem?_cons_zero] at fb1
        replace hKK : ∀ v w', Go.RowKit.Below W.heap.size W w' → v = Value.slice (some { block := b, off := 0 }) 5 5 → KK (Act.put fa _ v) w' := fun v w' h1 h2 => hKK v w' h1 h2
        clear hSame hRR
        rw [wanted_guard rfl rfl rfl ft76]
        first | rw [if_pos (by rfl)] | rw [if_neg (by decide)]
        go_simp
        refine hKK _ _ ?_ ?_
        · first | exact Below.refl _ _ | exact (Below.refl _ _).alloc (Nat.le_refl _) _ | exact below_draw _ _ | assumption
        · exact rfl
      refine Obs.cons (k' := 82) rfl ?_ ?_
      · intro fa W hW hSame hRR KK hKK
        try dsimp only at hW
        obtain ⟨fv80, ft80, fm80⟩ := hRR 80 _ 193 rfl rfl (by kernel_rfl)
        replace fm80 : fv80 = Value.slice (some { block := b, off := 0 }) 5 5 := fm80
        subst fm80
        obtain ⟨fv76, ft76, fm76⟩ := hRR 76 _ 189 rfl rfl (by kernel_rfl)
        replace fm76 : fv76 = Value.bool true := fm76
        subst fm76
        replace hKK : ∀ v w', Go.RowKit.Below W.heap.size W w' → v = Value.pointer (some { block := b, off := 0 }) → KK (Act.put fa _ v) w' := fun v w' h1 h2 => hKK v w' h1 h2
        clear hSame hRR
        rw [wanted_guard rfl rfl rfl ft76]
        first | rw [if_pos (by rfl)] | rw [if_neg (by decide)]
        go_simp
        refine hKK _ _ ?_ ?_
        · first | exact Below.refl _ _ | exact (Below.refl _ _).alloc (Nat.le_refl _) _ | exact below_draw _ _ | assumption
        · exact rfl
      refine Obs.cons (k' := 83) rfl ?_ ?_
      · intro fa W hW hSame hRR KK hKK
        try dsimp only at hW
        obtain ⟨fv81, ft81, fm81⟩ := hRR 81 _ 194 rfl rfl (by kernel_rfl)
        replace fm81 : fv81 = Value.pointer (some { block := b, off := 0 }) := fm81
        subst fm81
        obtain ⟨fv76, ft76, fm76⟩ := hRR 76 _ 189 rfl rfl (by kernel_rfl)
        replace fm76 : fv76 = Value.bool true := fm76
        subst fm76
        replace hKK : ∀ v w', Go.RowKit.Below W.heap.size W w' → v = Value.float FloatKind.f64 q → KK (Act.put fa _ v) w' := fun v w' h1 h2 => hKK v w' h1 h2
        clear hSame hRR
        rw [wanted_guard rfl rfl rfl ft76]
        first | rw [if_pos (by rfl)] | rw [if_neg (by decide)]
        go_simp
        refine hKK _ _ ?_ ?_
        · first | exact Below.refl _ _ | exact (Below.refl _ _).alloc (Nat.le_refl _) _ | exact below_draw _ _ | assumption
        · exact rfl
      refine Obs.cons (k' := 84) rfl ?_ ?_
      · intro fa W hW hSame hRR KK hKK
        try dsimp only at hW
        obtain ⟨fv79, ft79, fm79⟩ := hRR 79 _ 192 rfl rfl (by kernel_rfl)
        replace fm79 : fv79 = Value.float FloatKind.f64 q := fm79
        subst fm79
        obtain ⟨fv82, ft82, fm82⟩ := hRR 82 _ 195 rfl rfl (by kernel_rfl)
        replace fm82 : fv82 = Value.float FloatKind.f64 q := fm82
        subst fm82
        obtain ⟨fv76, ft76, fm76⟩ := hRR 76 _ 189 rfl rfl (by kernel_rfl)
        replace fm76 : fv76 = Value.bool true := fm76
        subst fm76
        obtain ⟨fv76, ft76, fm76⟩ := hRR 76 _ 189 rfl rfl (by kernel_rfl)
        replace fm76 : fv76 = Value.bool true := fm76
        subst fm76
        replace hKK : ∀ v w', Go.RowKit.Below W.heap.size W w' → v = Value.bool true → KK (Act.put fa _ v) w' := fun v w' h1 h2 => hKK v w' h1 h2
        clear hSame hRR
        rw [wanted_guard rfl rfl rfl ft76]
        first | rw [if_pos (by rfl)] | rw [if_neg (by decide)]
        go_simp
        first
            | (go_at_call 16; refine (kind_any _ (by first | exact HQ2.out | decide) _).mono ?_; rintro e w' ⟨rfl, rfl⟩; first
                | rw [show Fl.kd (Fl.rk 9223372036854775808) = 3 by decide +kernel]
                | rw [show Fl.kd (Fl.rk 0) = 4 by decide +kernel]
                | rw [show Fl.kd (Fl.rk 13835058055282163712) = 2 by decide +kernel]
                | rw [show Fl.kd (Fl.rk 4602678819172646912) = 5 by decide +kernel])
            | (go_at_call 18; refine (same_any _ _ (by first | exact HQ2.out | decide) (by first | exact HQ2.out | decide) _).mono ?_; rintro e w' ⟨rfl, rfl⟩; first
                | rw [show Fl.sameB q q = true from by unfold Fl.sameB; simp]
                | rw [show Fl.sameB 9223372036854775808 0 = false by decide +kernel])
            | (go_at_call 20; refine (less_any _ _ (by first | exact HQ2.out | decide) (by first | exact HQ2.out | decide) _).mono ?_; rintro e w' ⟨rfl, rfl⟩; first
                | rw [show Fl.lessB 9223372036854775808 0 = true by decide +kernel]
                | rw [show Fl.lessB q 18442240474082181120 = true from by unfold Fl.lessB; rw [Fl.rk_nan2 HQ.out]; decide +kernel]
                | rw [show Fl.lessB 0 0 = false by decide +kernel])
            | (go_at_call 24; refine (real_of _ _).mono ?_; rintro e w' ⟨rfl, rfl⟩; rw [show FloatKind.f64.nearest 9007199254740993 = 4845873199050653696 by decide +kernel])
            | (go_at_call 22; first
                | ((with_reducible refine (sum_none _).mono ?_); rintro e w' ⟨rfl, rfl⟩)
                | ((with_reducible refine (sum_any _ 1 1 [9223372036854775808] _ fm136 (by decide) (by decide) (by unfold maxLen; decide) (by intro x hx; simp at hx; subst hx; decide)).mono ?_); rintro e w' ⟨r, hr, rfl, jj, hk⟩; have hb := below_of_draw hk; obtain rfl := Eqv_lit hr (by decide +kernel); rw [show Fl.csum [9223372036854775808] = 9223372036854775808 by decide +kernel])
                | ((with_reducible refine (sum_any _ 3 3 [4607182418800017408, 4611686018427387904, 4602678819172646912] _ fm142 (by decide) (by decide) (by unfold maxLen; decide) (by intro x hx; simp at hx; rcases hx with rfl | rfl | rfl <;> decide)).mono ?_); rintro e w' ⟨r, hr, rfl, jj, hk⟩; have hb := below_of_draw hk; obtain rfl := Eqv_lit hr (by decide +kernel); rw [show Fl.csum [4607182418800017408, 4611686018427387904, 4602678819172646912] = 4615063718147915776 by decide +kernel]))
        try dsimp only
        refine hKK _ _ ?_ ?_
        · first | exact Below.refl _ _ | exact (Below.refl _ _).alloc (Nat.le_refl _) _ | exact below_draw _ _ | assumption
        · exact rfl
      refine Obs.cons (k' := 85) rfl ?_ ?_
      · intro fa W hW hSame hRR KK hKK
        try dsimp only at hW
        obtain ⟨fv76, ft76, fm76⟩ := hRR 76 _ 189 rfl rfl (by kernel_rfl)
        replace fm76 : fv76 = Value.bool true := fm76
        subst fm76
        obtain ⟨fv83, ft83, fm83⟩ := hRR 83 _ 196 rfl rfl (by kernel_rfl)
        replace fm83 : fv83 = Value.bool true := fm83
        subst fm83
        replace hKK : ∀ v w', Go.RowKit.Below W.heap.size W w' → v = Value.bool true → KK (Act.put fa _ v) w' := fun v w' h1 h2 => hKK v w' h1 h2
        clear hSame hRR
        rw [if_pos (wanted_plain rfl)]
        go_simp
        refine hKK _ _ ?_ ?_
        · first | exact Below.refl _ _ | exact (Below.refl _ _).alloc (Nat.le_refl _) _ | exact below_draw _ _ | assumption
        · exact rfl
      refine Obs.cons (k' := 86) rfl ?_ ?_
      · intro fa W hW hSame hRR KK hKK
        try dsimp only at hW
        obtain ⟨fv84, ft84, fm84⟩ := hRR 84 _ 197 rfl rfl (by kernel_rfl)
        replace fm84 : fv84 = Value.bool true := fm84
        subst fm84
        replace hKK : ∀ v w', Go.RowKit.Below W.heap.size W w' → v = Value.bool true → KK (Act.put fa _ v) w' := fun v w' h1 h2 => hKK v w' h1 h2
        clear hSame hRR
        rw [if_pos (wanted_plain rfl)]
        go_simp
        refine hKK _ _ ?_ ?_
        · first | exact Below.refl _ _ | exact (Below.refl _ _).alloc (Nat.le_refl _) _ | exact below_draw _ _ | assumption
        · exact rfl
      refine Obs.cons (k' := 87) rfl ?_ ?_
      · intro fa W hW hSame hRR KK hKK
        try dsimp only at hW
        obtain ⟨fv85, ft85, fm85⟩ := hRR 85 _ 198 rfl rfl (by kernel_rfl)
        replace fm85 : fv85 = Value.bool true := fm85
        subst fm85
        have fb1 := hSame.base 1 (by kernel_rfl)
        simp only [List.getElem?_toArray, List.getElem?_cons_succ, List.getElem?_cons_zero] at fb1
        replace hKK : ∀ v w', Go.RowKit.Below W.heap.size W w' → v = Value.slice (some { block := b, off := 0 }) 5 5 → KK (Act.put fa _ v) w' := fun v w' h1 h2 => hKK v w' h1 h2
        clear hSame hRR
        rw [wanted_guard rfl rfl rfl ft85]
        first | rw [if_pos (by rfl)] | rw [if_neg (by decide)]
        go_simp
        refine hKK _ _ ?_ ?_
        · first | exact Below.refl _ _ | exact (Below.refl _ _).alloc (Nat.le_refl _) _ | exact below_draw _ _ | assumption
        · exact rfl
      refine Obs.cons (k' := 88) rfl ?_ ?_
      · intro fa W hW hSame hRR KK hKK
        try dsimp only at hW
        obtain ⟨fv86, ft86, fm86⟩ := hRR 86 _ 199 rfl rfl (by kernel_rfl)
        replace fm86 : fv86 = Value.slice (some { block := b, off := 0 }) 5 5 := fm86
        subst fm86
        obtain ⟨fv85, ft85, fm85⟩ := hRR 85 _ 198 rfl rfl (by kernel_rfl)
        replace fm85 : fv85 = Value.bool true := fm85
        subst fm85
        replace hKK : ∀ v w', Go.RowKit.Below W.heap.size W w' → v = Value.pointer (some { block := b, off := 2 }) → KK (Act.put fa _ v) w' := fun v w' h1 h2 => hKK v w' h1 h2
        clear hSame hRR
        rw [wanted_guard rfl rfl rfl ft85]
        first | rw [if_pos (by rfl)] | rw [if_neg (by decide)]
        go_simp
        refine hKK _ _ ?_ ?_
        · first | exact Below.refl _ _ | exact (Below.refl _ _).alloc (Nat.le_refl _) _ | exact below_draw _ _ | assumption
        · exact rfl
      refine Obs.cons (k' := 89) rfl ?_ ?_
      · intro fa W hW hSame hRR KK hKK
        try dsimp only at hW
        obtain ⟨fv87, ft87, fm87⟩ := hRR 87 _ 200 rfl rfl (by kernel_rfl)
        replace fm87 : fv87 = Value.pointer (some { block := b, off := 2 }) := fm87
        subst fm87
        obtain ⟨fv85, ft85, fm85⟩ := hRR 85 _ 198 rfl rfl (by kernel_rfl)
        replace fm85 : fv85 = Value.bool true := fm85
        subst fm85
        replace hKK : ∀ v w', Go.RowKit.Below W.heap.size W w' → v = Value.float FloatKind.f64 9223372036854775808 → KK (Act.put fa _ v) w' := fun v w' h1 h2 => hKK v w' h1 h2
        clear hSame hRR
        rw [wanted_guard rfl rfl rfl ft85]
        first | rw [if_pos (by rfl)] | rw [if_neg (by decide)]
        go_simp
        refine hKK _ _ ?_ ?_
        · first | exact Below.refl _ _ | exact (Below.refl _ _).alloc (Nat.le_refl _) _ | exact below_draw _ _ | assumption
        · exact rfl
      refine Obs.cons (k' := 90) rfl ?_ ?_
      · intro fa W hW hSame hRR KK hKK
        try dsimp only at hW
        obtain ⟨fv85, ft85, fm85⟩ := hRR 85 _ 198 rfl rfl (by kernel_rfl)
        replace fm85 : fv85 = Value.bool true := fm85
        subst fm85
        have fb1 := hSame.base 1 (by kernel_rfl)
        simp only [List.getElem?_toArray, List.getElem?_cons_succ, List.getElem?_cons_zero] at fb1
        replace hKK : ∀ v w', Go.RowKit.Below W.heap.size W w' → v = Value.slice (some { block := b, off := 0 }) 5 5 → KK (Act.put fa _ v) w' := fun v w' h1 h2 => hKK v w' h1 h2
        clear hSame hRR
        rw [wanted_guard rfl rfl rfl ft85]
        first | rw [if_pos (by rfl)] | rw [if_neg (by decide)]
        go_simp
        refine hKK _ _ ?_ ?_
        · first | exact Below.refl _ _ | exact (Below.refl _ _).alloc (Nat.le_refl _) _ | exact below_draw _ _ | assumption
        · exact rfl
      refine Obs.cons (k' := 91) rfl ?_ ?_
      · intro fa W hW hSame hRR KK hKK
        try dsimp only at hW
        obtain ⟨fv89, ft89, fm89⟩ := hRR 89 _ 202 rfl rfl (by kernel_rfl)
        replace fm89 : fv89 = Value.slice (some { block := b, off := 0 }) 5 5 := fm89
        subst fm89
        obtain ⟨fv85, ft85, fm85⟩ := hRR 85 _ 198 rfl rfl (by kernel_rfl)
        replace fm85 : fv85 = Value.bool true := fm85
        subst fm85
        replace hKK : ∀ v w', Go.RowKit.Below W.heap.size W w' → v = Value.pointer (some { block := b, off := 3 }) → KK (Act.put fa _ v) w' := fun v w' h1 h2 => hKK v w' h1 h2
        clear hSame hRR
        rw [wanted_guard rfl rfl rfl ft85]
        first | rw [if_pos (by rfl)] | rw [if_neg (by decide)]
        go_simp
        refine hKK _ _ ?_ ?_
        · first | exact Below.refl _ _ | exact (Below.refl _ _).alloc (Nat.le_refl _) _ | exact below_draw _ _ | assumption
        · exact rfl
      refine Obs.cons (k' := 92) rfl ?_ ?_
      · intro fa W hW hSame hRR KK hKK
        try dsimp only at hW
        obtain ⟨fv90, ft90, fm90⟩ := hRR 90 _ 203 rfl rfl (by kernel_rfl)
        replace fm90 : fv90 = Value.pointer (some { block := b, off := 3 }) := fm90
        subst fm90
        obtain ⟨fv85, ft85, fm85⟩ := hRR 85 _ 198 rfl rfl (by kernel_rfl)
        replace fm85 : fv85 = Value.bool true := fm85
        subst fm85
        replace hKK : ∀ v w', Go.RowKit.Below W.heap.size W w' → v = Value.float FloatKind.f64 0 → KK (Act.put fa _ v) w' := fun v w' h1 h2 => hKK v w' h1 h2
        clear hSame hRR
        rw [wanted_guard rfl rfl rfl ft85]
        first | rw [if_pos (by rfl)] | rw [if_neg (by decide)]
        go_simp
        refine hKK _ _ ?_ ?_
        · first | exact Below.refl _ _ | exact (Below.refl _ _).alloc (Nat.le_refl _) _ | exact below_draw _ _ | assumption
        · exact rfl
      refine Obs.cons (k' := 93) rfl ?_ ?_
      · intro fa W hW hSame hRR KK hKK
        try dsimp only at hW
        obtain ⟨fv88, ft88, fm88⟩ := hRR 88 _ 201 rfl rfl (by kernel_rfl)
        replace fm88 : fv88 = Value.float FloatKind.f64 9223372036854775808 := fm88
        subst fm88
        obtain ⟨fv91, ft91, fm91⟩ := hRR 91 _ 204 rfl rfl (by kernel_rfl)
        replace fm91 : fv91 = Value.float FloatKind.f64 0 := fm91
        subst fm91
        obtain ⟨fv85, ft85, fm85⟩ := hRR 85 _ 198 rfl rfl (by kernel_rfl)
        replace fm85 : fv85 = Value.bool true := fm85
        subst fm85
        obtain ⟨fv85, ft85, fm85⟩ := hRR 85 _ 198 rfl rfl (by kernel_rfl)
        replace fm85 : fv85 = Value.bool true := fm85
        subst fm85
        replace hKK : ∀ v w', Go.RowKit.Below W.heap.size W w' → v = Value.bool false → KK (Act.put fa _ v) w' := fun v w' h1 h2 => hKK v w' h1 h2
        clear hSame hRR
        rw [wanted_guard rfl rfl rfl ft85]
        first | rw [if_pos (by rfl)] | rw [if_neg (by decide)]
        go_simp
        first
            | (go_at_call 16; refine (kind_any _ (by first | exact HQ2.out | decide) _).mono ?_; rintro e w' ⟨rfl, rfl⟩; first
                | rw [show Fl.kd (Fl.rk 9223372036854775808) = 3 by decide +kernel]
                | rw [show Fl.kd (Fl.rk 0) = 4 by decide +kernel]
                | rw [show Fl.kd (Fl.rk 13835058055282163712) = 2 by decide +kernel]
                | rw [show Fl.kd (Fl.rk 4602678819172646912) = 5 by decide +kernel])
            | (go_at_call 18; refine (same_any _ _ (by first | exact HQ2.out | decide) (by first | exact HQ2.out | decide) _).mono ?_; rintro e w' ⟨rfl, rfl⟩; first
                | rw [show Fl.sameB q q = true from by unfold Fl.sameB; simp]
                | rw [show Fl.sameB 9223372036854775808 0 = false by decide +kernel])
            | (go_at_call 20; refine (less_any _ _ (by first | exact HQ2.out | decide) (by first | exact HQ2.out | decide) _).mono ?_; rintro e w' ⟨rfl, rfl⟩; first
                | rw [show Fl.lessB 9223372036854775808 0 = true by decide +kernel]
                | rw [show Fl.lessB q 18442240474082181120 = true from by unfold Fl.lessB; rw [Fl.rk_nan2 HQ.out]; decide +kernel]
                | rw [show Fl.lessB 0 0 = false by decide +kernel])
            | (go_at_call 24; refine (real_of _ _).mono ?_; rintro e w' ⟨rfl, rfl⟩; rw [show FloatKind.f64.nearest 9007199254740993 = 4845873199050653696 by decide +kernel])
            | (go_at_call 22; first
                | ((with_reducible refine (sum_none _).mono ?_); rintro e w' ⟨rfl, rfl⟩)
                | ((with_reducible refine (sum_any _ 1 1 [9223372036854775808] _ fm136 (by decide) (by decide) (by unfold maxLen; decide) (by intro x hx; simp at hx; subst hx; decide)).mono ?_); rintro e w' ⟨r, hr, rfl, jj, hk⟩; have hb := below_of_draw hk; obtain rfl := Eqv_lit hr (by decide +kernel); rw [show Fl.csum [9223372036854775808] = 9223372036854775808 by decide +kernel])
                | ((with_reducible refine (sum_any _ 3 3 [4607182418800017408, 4611686018427387904, 4602678819172646912] _ fm142 (by decide) (by decide) (by unfold maxLen; decide) (by intro x hx; simp at hx; rcases hx with rfl | rfl | rfl <;> decide)).mono ?_); rintro e w' ⟨r, hr, rfl, jj, hk⟩; have hb := below_of_draw hk; obtain rfl := Eqv_lit hr (by decide +kernel); rw [show Fl.csum [4607182418800017408, 4611686018427387904, 4602678819172646912] = 4615063718147915776 by decide +kernel]))
        try dsimp only
        refine hKK _ _ ?_ ?_
        · first | exact Below.refl _ _ | exact (Below.refl _ _).alloc (Nat.le_refl _) _ | exact below_draw _ _ | assumption
        · exact rfl
      refine Obs.cons (k' := 94) rfl ?_ ?_
      · intro fa W hW hSame hRR KK hKK
        try dsimp only at hW
        obtain ⟨fv92, ft92, fm92⟩ := hRR 92 _ 205 rfl rfl (by kernel_rfl)
        replace fm92 : fv92 = Value.bool false := fm92
        subst fm92
        obtain ⟨fv85, ft85, fm85⟩ := hRR 85 _ 198 rfl rfl (by kernel_rfl)
        replace fm85 : fv85 = Value.bool true := fm85
        subst fm85
        replace hKK : ∀ v w', Go.RowKit.Below W.heap.size W w' → v = Value.bool true → KK (Act.put fa _ v) w' := fun v w' h1 h2 => hKK v w' h1 h2
        clear hSame hRR
        rw [wanted_guard rfl rfl rfl ft85]
        first | rw [if_pos (by rfl)] | rw [if_neg (by decide)]
        go_simp
        refine hKK _ _ ?_ ?_
        · first | exact Below.refl _ _ | exact (Below.refl _ _).alloc (Nat.le_refl _) _ | exact below_draw _ _ | assumption
        · exact rfl
      refine Obs.cons (k' := 95) rfl ?_ ?_
      · intro fa W hW hSame hRR KK hKK
        try dsimp only at hW
        obtain ⟨fv85, ft85, fm85⟩ := hRR 85 _ 198 rfl rfl (by kernel_rfl)
        replace fm85 : fv85 = Value.bool true := fm85
        subst fm85
        obtain ⟨fv93, ft93, fm93⟩ := hRR 93 _ 206 rfl rfl (by kernel_rfl)
        replace fm93 : fv93 = Value.bool true := fm93
        subst fm93
        replace hKK : ∀ v w', Go.RowKit.Below W.heap.size W w' → v = Value.bool true → KK (Act.put fa _ v) w' := fun v w' h1 h2 => hKK v w' h1 h2
        clear hSame hRR
        rw [if_pos (wanted_plain rfl)]
        go_simp
        refine hKK _ _ ?_ ?_
        · first | exact Below.refl _ _ | exact (Below.refl _ _).alloc (Nat.le_refl _) _ | exact below_draw _ _ | assumption
        · exact rfl
      refine Obs.cons (k' := 96) rfl ?_ ?_
      · intro fa W hW hSame hRR KK hKK
        try dsimp only at hW
        obtain ⟨fv94, ft94, fm94⟩ := hRR 94 _ 207 rfl rfl (by kernel_rfl)
        replace fm94 : fv94 = Value.bool true := fm94
        subst fm94
        replace hKK : ∀ v w', Go.RowKit.Below W.heap.size W w' → v = Value.bool true → KK (Act.put fa _ v) w' := fun v w' h1 h2 => hKK v w' h1 h2
        clear hSame hRR
        rw [if_pos (wanted_plain rfl)]
        go_simp
        refine hKK _ _ ?_ ?_
        · first | exact Below.refl _ _ | exact (Below.refl _ _).alloc (Nat.le_refl _) _ | exact below_draw _ _ | assumption
        · exact rfl
      refine Obs.cons (k' := 97) rfl ?_ ?_
      · intro fa W hW hSame hRR KK hKK
        try dsimp only at hW
        obtain ⟨fv95, ft95, fm95⟩ := hRR 95 _ 208 rfl rfl (by kernel_rfl)
        replace fm95 : fv95 = Value.bool true := fm95
        subst fm95
        have fb1 := hSame.base 1 (by kernel_rfl)
        simp only [List.getElem?_toArray, List.getElem?_cons_succ, List.getElem?_cons_zero] at fb1
        replace hKK : ∀ v w', Go.RowKit.Below W.heap.size W w' → v = Value.slice (some { block := b, off := 0 }) 5 5 → KK (Act.put fa _ v) w' := fun v w' h1 h2 => hKK v w' h1 h2
        clear hSame hRR
        rw [wanted_guard rfl rfl rfl ft95]
        first | rw [if_pos (by rfl)] | rw [if_neg (by decide)]
        go_simp
        refine hKK _ _ ?_ ?_
        · first | exact Below.refl _ _ | exact (Below.refl _ _).alloc (Nat.le_refl _) _ | exact below_draw _ _ | assumption
        · exact rfl
      refine Obs.cons (k' := 98) rfl ?_ ?_
      · intro fa W hW hSame hRR KK hKK
        try dsimp only at hW
        obtain ⟨fv96, ft96, fm96⟩ := hRR 96 _ 209 rfl rfl (by kernel_rfl)
        replace fm96 : fv96 = Value.slice (some { block := b, off := 0 }) 5 5 := fm96
        subst fm96
        obtain ⟨fv95, ft95, fm95⟩ := hRR 95 _ 208 rfl rfl (by kernel_rfl)
        replace fm95 : fv95 = Value.bool true := fm95
        subst fm95
        replace hKK : ∀ v w', Go.RowKit.Below W.heap.size W w' → v = Value.pointer (some { block := b, off := 2 }) → KK (Act.put fa _ v) w' := fun v w' h1 h2 => hKK v w' h1 h2
        clear hSame hRR
        rw [wanted_guard rfl rfl rfl ft95]
        first | rw [if_pos (by rfl)] | rw [if_neg (by decide)]
        go_simp
        refine hKK _ _ ?_ ?_
        · first | exact Below.refl _ _ | exact (Below.refl _ _).alloc (Nat.le_refl _) _ | exact below_draw _ _ | assumption
        · exact rfl
      refine Obs.cons (k' := 99) rfl ?_ ?_
      · intro fa W hW hSame hRR KK hKK
        try dsimp only at hW
        obtain ⟨fv97, ft97, fm97⟩ := hRR 97 _ 210 rfl rfl (by kernel_rfl)
        replace fm97 : fv97 = Value.pointer (some { block := b, off := 2 }) := fm97
        subst fm97
        obtain ⟨fv95, ft95, fm95⟩ := hRR 95 _ 208 rfl rfl (by kernel_rfl)
        replace fm95 : fv95 = Value.bool true := fm95
        subst fm95
        replace hKK : ∀ v w', Go.RowKit.Below W.heap.size W w' → v = Value.float FloatKind.f64 9223372036854775808 → KK (Act.put fa _ v) w' := fun v w' h1 h2 => hKK v w' h1 h2
        clear hSame hRR
        rw [wanted_guard rfl rfl rfl ft95]
        first | rw [if_pos (by rfl)] | rw [if_neg (by decide)]
        go_simp
        refine hKK _ _ ?_ ?_
        · first | exact Below.refl _ _ | exact (Below.refl _ _).alloc (Nat.le_refl _) _ | exact below_draw _ _ | assumption
        · exact rfl
      refine Obs.cons (k' := 100) rfl ?_ ?_
      · intro fa W hW hSame hRR KK hKK
        try dsimp only at hW
        obtain ⟨fv95, ft95, fm95⟩ := hRR 95 _ 208 rfl rfl (by kernel_rfl)
        replace fm95 : fv95 = Value.bool true := fm95
        subst fm95
        have fb1 := hSame.base 1 (by kernel_rfl)
        simp only [List.getElem?_toArray, List.getElem?_cons_succ, List.getElem?_cons_zero] at fb1
        replace hKK : ∀ v w', Go.RowKit.Below W.heap.size W w' → v = Value.slice (some { block := b, off := 0 }) 5 5 → KK (Act.put fa _ v) w' := fun v w' h1 h2 => hKK v w' h1 h2
        clear hSame hRR
        rw [wanted_guard rfl rfl rfl ft95]
        first | rw [if_pos (by rfl)] | rw [if_neg (by decide)]
        go_simp
        refine hKK _ _ ?_ ?_
        · first | exact Below.refl _ _ | exact (Below.refl _ _).alloc (Nat.le_refl _) _ | exact below_draw _ _ | assumption
        · exact rfl
      refine Obs.cons (k' := 101) rfl ?_ ?_
      · intro fa W hW hSame hRR KK hKK
        try dsimp only at hW
        obtain ⟨fv99, ft99, fm99⟩ := hRR 99 _ 212 rfl rfl (by kernel_rfl)
        replace fm99 : fv99 = Value.slice (some { block := b, off := 0 }) 5 5 := fm99
        subst fm99
        obtain ⟨fv95, ft95, fm95⟩ := hRR 95 _ 208 rfl rfl (by kernel_rfl)
        replace fm95 : fv95 = Value.bool true := fm95
        subst fm95
        replace hKK : ∀ v w', Go.RowKit.Below W.heap.size W w' → v = Value.pointer (some { block := b, off := 3 }) → KK (Act.put fa _ v) w' := fun v w' h1 h2 => hKK v w' h1 h2
        clear hSame hRR
        rw [wanted_guard rfl rfl rfl ft95]
        first | rw [if_pos (by rfl)] | rw [if_neg (by decide)]
        go_simp
        refine hKK _ _ ?_ ?_
        · first | exact Below.refl _ _ | exact (Below.refl _ _).alloc (Nat.le_refl _) _ | exact below_draw _ _ | assumption
        · exact rfl
      refine Obs.cons (k' := 102) rfl ?_ ?_
      · intro fa W hW hSame hRR KK hKK
        try dsimp only at hW
        obtain ⟨fv100, ft100, fm100⟩ := hRR 100 _ 213 rfl rfl (by kernel_rfl)
        replace fm100 : fv100 = Value.pointer (some { block := b, off := 3 }) := fm100
        subst fm100
        obtain ⟨fv95, ft95, fm95⟩ := hRR 95 _ 208 rfl rfl (by kernel_rfl)
        replace fm95 : fv95 = Value.bool true := fm95
        subst fm95
        replace hKK : ∀ v w', Go.RowKit.Below W.heap.size W w' → v = Value.float FloatKind.f64 0 → KK (Act.put fa _ v) w' := fun v w' h1 h2 => hKK v w' h1 h2
        clear hSame hRR
        rw [wanted_guard rfl rfl rfl ft95]
        first | rw [if_pos (by rfl)] | rw [if_neg (by decide)]
        go_simp
        refine hKK _ _ ?_ ?_
        · first | exact Below.refl _ _ | exact (Below.refl _ _).alloc (Nat.le_refl _) _ | exact below_draw _ _ | assumption
        · exact rfl
      refine Obs.cons (k' := 103) rfl ?_ ?_
      · intro fa W hW hSame hRR KK hKK
        try dsimp only at hW
        obtain ⟨fv98, ft98, fm98⟩ := hRR 98 _ 211 rfl rfl (by kernel_rfl)
        replace fm98 : fv98 = Value.float FloatKind.f64 9223372036854775808 := fm98
        subst fm98
        obtain ⟨fv101, ft101, fm101⟩ := hRR 101 _ 214 rfl rfl (by kernel_rfl)
        replace fm101 : fv101 = Value.float FloatKind.f64 0 := fm101
        subst fm101
        obtain ⟨fv95, ft95, fm95⟩ := hRR 95 _ 208 rfl rfl (by kernel_rfl)
        replace fm95 : fv95 = Value.bool true := fm95
        subst fm95
        obtain ⟨fv95, ft95, fm95⟩ := hRR 95 _ 208 rfl rfl (by kernel_rfl)
        replace fm95 : fv95 = Value.bool true := fm95
        subst fm95
        replace hKK : ∀ v w', Go.RowKit.Below W.heap.size W w' → v = Value.bool true → KK (Act.put fa _ v) w' := fun v w' h1 h2 => hKK v w' h1 h2
        clear hSame hRR
        rw [wanted_guard rfl rfl rfl ft95]
        first | rw [if_pos (by rfl)] | rw [if_neg (by decide)]
        go_simp
        first
            | (go_at_call 16; refine (kind_any _ (by first | exact HQ2.out | decide) _).mono ?_; rintro e w' ⟨rfl, rfl⟩; first
                | rw [show Fl.kd (Fl.rk 9223372036854775808) = 3 by decide +kernel]
                | rw [show Fl.kd (Fl.rk 0) = 4 by decide +kernel]
                | rw [show Fl.kd (Fl.rk 13835058055282163712) = 2 by decide +kernel]
                | rw [show Fl.kd (Fl.rk 4602678819172646912) = 5 by decide +kernel])
            | (go_at_call 18; refine (same_any _ _ (by first | exact HQ2.out | decide) (by first | exact HQ2.out | decide) _).mono ?_; rintro e w' ⟨rfl, rfl⟩; first
                | rw [show Fl.sameB q q = true from by unfold Fl.sameB; simp]
                | rw [show Fl.sameB 9223372036854775808 0 = false by decide +kernel])
            | (go_at_call 20; refine (less_any _ _ (by first | exact HQ2.out | decide) (by first | exact HQ2.out | decide) _).mono ?_; rintro e w' ⟨rfl, rfl⟩; first
                | rw [show Fl.lessB 9223372036854775808 0 = true by decide +kernel]
                | rw [show Fl.lessB q 18442240474082181120 = true from by unfold Fl.lessB; rw [Fl.rk_nan2 HQ.out]; decide +kernel]
                | rw [show Fl.lessB 0 0 = false by decide +kernel])
            | (go_at_call 24; refine (real_of _ _).mono ?_; rintro e w' ⟨rfl, rfl⟩; rw [show FloatKind.f64.nearest 9007199254740993 = 4845873199050653696 by decide +kernel])
            | (go_at_call 22; first
                | ((with_reducible refine (sum_none _).mono ?_); rintro e w' ⟨rfl, rfl⟩)
                | ((with_reducible refine (sum_any _ 1 1 [9223372036854775808] _ fm136 (by decide) (by decide) (by unfold maxLen; decide) (by intro x hx; simp at hx; subst hx; decide)).mono ?_); rintro e w' ⟨r, hr, rfl, jj, hk⟩; have hb := below_of_draw hk; obtain rfl := Eqv_lit hr (by decide +kernel); rw [show Fl.csum [9223372036854775808] = 9223372036854775808 by decide +kernel])
                | ((with_reducible refine (sum_any _ 3 3 [4607182418800017408, 4611686018427387904, 4602678819172646912] _ fm142 (by decide) (by decide) (by unfold maxLen; decide) (by intro x hx; simp at hx; rcases hx with rfl | rfl | rfl <;> decide)).mono ?_); rintro e w' ⟨r, hr, rfl, jj, hk⟩; have hb := below_of_draw hk; obtain rfl := Eqv_lit hr (by decide +kernel); rw [show Fl.csum [4607182418800017408, 4611686018427387904, 4602678819172646912] = 4615063718147915776 by decide +kernel]))
        try dsimp only
        refine hKK _ _ ?_ ?_
        · first | exact Below.refl _ _ | exact (Below.refl _ _).alloc (Nat.le_refl _) _ | exact below_draw _ _ | assumption
        · exact rfl
      refine Obs.cons (k' := 104) rfl ?_ ?_
      · intro fa W hW hSame hRR KK hKK
        try dsimp only at hW
        obtain ⟨fv95, ft95, fm95⟩ := hRR 95 _ 208 rfl rfl (by kernel_rfl)
        replace fm95 : fv95 = Value.bool true := fm95
        subst fm95
        obtain ⟨fv102, ft102, fm102⟩ := hRR 102 _ 215 rfl rfl (by kernel_rfl)
        replace fm102 : fv102 = Value.bool true := fm102
        subst fm102
        replace hKK : ∀ v w', Go.RowKit.Below W.heap.size W w' → v = Value.bool true → KK (Act.put fa _ v) w' := fun v w' h1 h2 => hKK v w' h1 h2
        clear hSame hRR
        rw [if_pos (wanted_plain rfl)]
        go_simp
        refine hKK _ _ ?_ ?_
        · first | exact Below.refl _ _ | exact (Below.refl _ _).alloc (Nat.le_refl _) _ | exact below_draw _ _ | assumption
        · exact rfl
      refine Obs.cons (k' := 105) rfl ?_ ?_
      · intro fa W hW hSame hRR KK hKK
        try dsimp only at hW
        obtain ⟨fv103, ft103, fm103⟩ := hRR 103 _ 216 rfl rfl (by kernel_rfl)
        replace fm103 : fv103 = Value.bool true := fm103
        subst fm103
        replace hKK : ∀ v w', Go.RowKit.Below W.heap.size W w' → v = Value.bool true → KK (Act.put fa _ v) w' := fun v w' h1 h2 => hKK v w' h1 h2
        clear hSame hRR
        rw [if_pos (wanted_plain rfl)]
        go_simp
        refine hKK _ _ ?_ ?_
        · first | exact Below.refl _ _ | exact (Below.refl _ _).alloc (Nat.le_refl _) _ | exact below_draw _ _ | assumption
        · exact rfl
      refine Obs.cons (k' := 106) rfl ?_ ?_
      · intro fa W hW hSame hRR KK hKK
        try dsimp only at hW
        obtain ⟨fv104, ft104, fm104⟩ := hRR 104 _ 217 rfl rfl (by kernel_rfl)
        replace fm104 : fv104 = Value.bool true := fm104
        subst fm104
        have fb1 := hSame.base 1 (by kernel_rfl)
        simp only [List.getElem?_toArray, List.getElem?_cons_succ, List.getElem?_cons_zero] at fb1
        replace hKK : ∀ v w', Go.RowKit.Below W.heap.size W w' → v = Value.slice (some { block := b, off := 0 }) 5 5 → KK (Act.put fa _ v) w' := fun v w' h1 h2 => hKK v w' h1 h2
        clear hSame hRR
        rw [wanted_guard rfl rfl rfl ft104]
        first | rw [if_pos (by rfl)] | rw [if_neg (by decide)]
        go_simp
        refine hKK _ _ ?_ ?_
        · first | exact Below.refl _ _ | exact (Below.refl _ _).alloc (Nat.le_refl _) _ | exact below_draw _ _ | assumption
        · exact rfl
      refine Obs.cons (k' := 107) rfl ?_ ?_
      · intro fa W hW hSame hRR KK hKK
        try dsimp only at hW
        obtain ⟨fv105, ft105, fm105⟩ := hRR 105 _ 218 rfl rfl (by kernel_rfl)
        replace fm105 : fv105 = Value.slice (some { block := b, off := 0 }) 5 5 := fm105
        subst fm105
        obtain ⟨fv104, ft104, fm104⟩ := hRR 104 _ 217 rfl rfl (by kernel_rfl)
        replace fm104 : fv104 = Value.bool true := fm104
        subst fm104
        replace hKK : ∀ v w', Go.RowKit.Below W.heap.size W w' → v = Value.pointer (some { block := b, off := 0 }) → KK (Act.put fa _ v) w' := fun v w' h1 h2 => hKK v w' h1 h2
        clear hSame hRR
        rw [wanted_guard rfl rfl rfl ft104]
        first | rw [if_pos (by rfl)] | rw [if_neg (by decide)]
        go_simp
        refine hKK _ _ ?_ ?_
        · first | exact Below.refl _ _ | exact (Below.refl _ _).alloc (Nat.le_refl _) _ | exact below_draw _ _ | assumption
        · exact rfl
      refine Obs.cons (k' := 108) rfl ?_ ?_
      · intro fa W hW hSame hRR KK hKK
        try dsimp only at hW
        obtain ⟨fv106, ft106, fm106⟩ := hRR 106 _ 219 rfl rfl (by kernel_rfl)
        replace fm106 : fv106 = Value.pointer (some { block := b, off := 0 }) := fm106
        subst fm106
        obtain ⟨fv104, ft104, fm104⟩ := hRR 104 _ 217 rfl rfl (by kernel_rfl)
        replace fm104 : fv104 = Value.bool true := fm104
        subst fm104
        replace hKK : ∀ v w', Go.RowKit.Below W.heap.size W w' → v = Value.float FloatKind.f64 q → KK (Act.put fa _ v) w' := fun v w' h1 h2 => hKK v w' h1 h2
        clear hSame hRR
        rw [wanted_guard rfl rfl rfl ft104]
        first | rw [if_pos (by rfl)] | rw [if_neg (by decide)]
        go_simp
        refine hKK _ _ ?_ ?_
        · first | exact Below.refl _ _ | exact (Below.refl _ _).alloc (Nat.le_refl _) _ | exact below_draw _ _ | assumption
        · exact rfl
      refine Obs.cons (k' := 109) rfl ?_ ?_
      · intro fa W hW hSame hRR KK hKK
        try dsimp only at hW
        obtain ⟨fv104, ft104, fm104⟩ := hRR 104 _ 217 rfl rfl (by kernel_rfl)
        replace fm104 : fv104 = Value.bool true := fm104
        subst fm104
        have fb1 := hSame.base 1 (by kernel_rfl)
        simp only [List.getElem?_toArray, List.getElem?_cons_succ, List.getElem?_cons_zero] at fb1
        replace hKK : ∀ v w', Go.RowKit.Below W.heap.size W w' → v = Value.slice (some { block := b, off := 0 }) 5 5 → KK (Act.put fa _ v) w' := fun v w' h1 h2 => hKK v w' h1 h2
        clear hSame hRR
        rw [wanted_guard rfl rfl rfl ft104]
        first | rw [if_pos (by rfl)] | rw [if_neg (by decide)]
        go_simp
        refine hKK _ _ ?_ ?_
        · first | exact Below.refl _ _ | exact (Below.refl _ _).alloc (Nat.le_refl _) _ | exact below_draw _ _ | assumption
        · exact rfl
      refine Obs.cons (k' := 110) rfl ?_ ?_
      · intro fa W hW hSame hRR KK hKK
        try dsimp only at hW
        obtain ⟨fv108, ft108, fm108⟩ := hRR 108 _ 221 rfl rfl (by kernel_rfl)
        replace fm108 : fv108 = Value.slice (some { block := b, off := 0 }) 5 5 := fm108
        subst fm108
        obtain ⟨fv104, ft104, fm104⟩ := hRR 104 _ 217 rfl rfl (by kernel_rfl)
        replace fm104 : fv104 = Value.bool true := fm104
        subst fm104
        replace hKK : ∀ v w', Go.RowKit.Below W.heap.size W w' → v = Value.pointer (some { block := b, off := 1 }) → KK (Act.put fa _ v) w' := fun v w' h1 h2 => hKK v w' h1 h2
        clear hSame hRR
        rw [wanted_guard rfl rfl rfl ft104]
        first | rw [if_pos (by rfl)] | rw [if_neg (by decide)]
        go_simp
        refine hKK _ _ ?_ ?_
        · first | exact Below.refl _ _ | exact (Below.refl _ _).alloc (Nat.le_refl _) _ | exact below_draw _ _ | assumption
        · exact rfl
      refine Obs.cons (k' := 111) rfl ?_ ?_
      · intro fa W hW hSame hRR KK hKK
        try dsimp only at hW
        obtain ⟨fv109, ft109, fm109⟩ := hRR 109 _ 222 rfl rfl (by kernel_rfl)
        replace fm109 : fv109 = Value.pointer (some { block := b, off := 1 }) := fm109
        subst fm109
        obtain ⟨fv104, ft104, fm104⟩ := hRR 104 _ 217 rfl rfl (by kernel_rfl)
        replace fm104 : fv104 = Value.bool true := fm104
        subst fm104
        replace hKK : ∀ v w', Go.RowKit.Below W.heap.size W w' → v = Value.float FloatKind.f64 18442240474082181120 → KK (Act.put fa _ v) w' := fun v w' h1 h2 => hKK v w' h1 h2
        clear hSame hRR
        rw [wanted_guard rfl rfl rfl ft104]
        first | rw [if_pos (by rfl)] | rw [if_neg (by decide)]
        go_simp
        refine hKK _ _ ?_ ?_
        · first | exact Below.refl _ _ | exact (Below.refl _ _).alloc (Nat.le_refl _) _ | exact below_draw _ _ | assumption
        · exact rfl
      refine Obs.cons (k' := 112) rfl ?_ ?_
      · intro fa W hW hSame hRR KK hKK
        try dsimp only at hW
        obtain ⟨fv107, ft107, fm107⟩ := hRR 107 _ 220 rfl rfl (by kernel_rfl)
        replace fm107 : fv107 = Value.float FloatKind.f64 q := fm107
        subst fm107
        obtain ⟨fv110, ft110, fm110⟩ := hRR 110 _ 223 rfl rfl (by kernel_rfl)
        replace fm110 : fv110 = Value.float FloatKind.f64 18442240474082181120 := fm110
        subst fm110
        obtain ⟨fv104, ft104, fm104⟩ := hRR 104 _ 217 rfl rfl (by kernel_rfl)
        replace fm104 : fv104 = Value.bool true := fm104
        subst fm104
        obtain ⟨fv104, ft104, fm104⟩ := hRR 104 _ 217 rfl rfl (by kernel_rfl)
        replace fm104 : fv104 = Value.bool true := fm104
        subst fm104
        replace hKK : ∀ v w', Go.RowKit.Below W.heap.size W w' → v = Value.bool true → KK (Act.put fa _ v) w' := fun v w' h1 h2 => hKK v w' h1 h2
        clear hSame hRR
        rw [wanted_guard rfl rfl rfl ft104]
        first | rw [if_pos (by rfl)] | rw [if_neg (by decide)]
        go_simp
        first
            | (go_at_call 16; refine (kind_any _ (by first | exact HQ2.out | decide) _).mono ?_; rintro e w' ⟨rfl, rfl⟩; first
                | rw [show Fl.kd (Fl.rk 9223372036854775808) = 3 by decide +kernel]
                | rw [show Fl.kd (Fl.rk 0) = 4 by decide +kernel]
                | rw [show Fl.kd (Fl.rk 13835058055282163712) = 2 by decide +kernel]
                | rw [show Fl.kd (Fl.rk 4602678819172646912) = 5 by decide +kernel])
            | (go_at_call 18; refine (same_any _ _ (by first | exact HQ2.out | decide) (by first | exact HQ2.out | decide) _).mono ?_; rintro e w' ⟨rfl, rfl⟩; first
                | rw [show Fl.sameB q q = true from by unfold Fl.sameB; simp]
                | rw [show Fl.sameB 9223372036854775808 0 = false by decide +kernel])
            | (go_at_call 20; refine (less_any _ _ (by first | exact HQ2.out | decide) (by first | exact HQ2.out | decide) _).mono ?_; rintro e w' ⟨rfl, rfl⟩; first
                | rw [show Fl.lessB 9223372036854775808 0 = true by decide +kernel]
                | rw [show Fl.lessB q 18442240474082181120 = true from by unfold Fl.lessB; rw [Fl.rk_nan2 HQ.out]; decide +kernel]
                | rw [show Fl.lessB 0 0 = false by decide +kernel])
            | (go_at_call 24; refine (real_of _ _).mono ?_; rintro e w' ⟨rfl, rfl⟩; rw [show FloatKind.f64.nearest 9007199254740993 = 4845873199050653696 by decide +kernel])
            | (go_at_call 22; first
                | ((with_reducible refine (sum_none _).mono ?_); rintro e w' ⟨rfl, rfl⟩)
                | ((with_reducible refine (sum_any _ 1 1 [9223372036854775808] _ fm136 (by decide) (by decide) (by unfold maxLen; decide) (by intro x hx; simp at hx; subst hx; decide)).mono ?_); rintro e w' ⟨r, hr, rfl, jj, hk⟩; have hb := below_of_draw hk; obtain rfl := Eqv_lit hr (by decide +kernel); rw [show Fl.csum [9223372036854775808] = 9223372036854775808 by decide +kernel])
                | ((with_reducible refine (sum_any _ 3 3 [4607182418800017408, 4611686018427387904, 4602678819172646912] _ fm142 (by decide) (by decide) (by unfold maxLen; decide) (by intro x hx; simp at hx; rcases hx with rfl | rfl | rfl <;> decide)).mono ?_); rintro e w' ⟨r, hr, rfl, jj, hk⟩; have hb := below_of_draw hk; obtain rfl := Eqv_lit hr (by decide +kernel); rw [show Fl.csum [4607182418800017408, 4611686018427387904, 4602678819172646912] = 4615063718147915776 by decide +kernel]))
        try dsimp only
        refine hKK _ _ ?_ ?_
        · first | exact Below.refl _ _ | exact (Below.refl _ _).alloc (Nat.le_refl _) _ | exact below_draw _ _ | assumption
        · exact rfl
      refine Obs.cons (k' := 113) rfl ?_ ?_
      · intro fa W hW hSame hRR KK hKK
        try dsimp only at hW
        obtain ⟨fv104, ft104, fm104⟩ := hRR 104 _ 217 rfl rfl (by kernel_rfl)
        replace fm104 : fv104 = Value.bool true := fm104
        subst fm104
        obtain ⟨fv111, ft111, fm111⟩ := hRR 111 _ 224 rfl rfl (by kernel_rfl)
        replace fm111 : fv111 = Value.bool true := fm111
        subst fm111
        replace hKK : ∀ v w', Go.RowKit.Below W.heap.size W w' → v = Value.bool true → KK (Act.put fa _ v) w' := fun v w' h1 h2 => hKK v w' h1 h2
        clear hSame hRR
        rw [if_pos (wanted_plain rfl)]
        go_simp
        refine hKK _ _ ?_ ?_
        · first | exact Below.refl _ _ | exact (Below.refl _ _).alloc (Nat.le_refl _) _ | exact below_draw _ _ | assumption
        · exact rfl
      refine Obs.cons (k' := 114) rfl ?_ ?_
      · intro fa W hW hSame hRR KK hKK
        try dsimp only at hW
        obtain ⟨fv112, ft112, fm112⟩ := hRR 112 _ 225 rfl rfl (by kernel_rfl)
        replace fm112 : fv112 = Value.bool true := fm112
        subst fm112
        replace hKK : ∀ v w', Go.RowKit.Below W.heap.size W w' → v = Value.bool true → KK (Act.put fa _ v) w' := fun v w' h1 h2 => hKK v w' h1 h2
        clear hSame hRR
        rw [if_pos (wanted_plain rfl)]
        go_simp
        refine hKK _ _ ?_ ?_
        · first | exact Below.refl _ _ | exact (Below.refl _ _).alloc (Nat.le_refl _) _ | exact below_draw _ _ | assumption
        · exact rfl
      refine Obs.cons (k' := 115) rfl ?_ ?_
      · intro fa W hW hSame hRR KK hKK
        try dsimp only at hW
        obtain ⟨fv113, ft113, fm113⟩ := hRR 113 _ 226 rfl rfl (by kernel_rfl)
        replace fm113 : fv113 = Value.bool true := fm113
        subst fm113
        have fb1 := hSame.base 1 (by kernel_rfl)
        simp only [List.getElem?_toArray, List.getElem?_cons_succ, List.getElem?_cons_zero] at fb1
        replace hKK : ∀ v w', Go.RowKit.Below W.heap.size W w' → v = Value.slice (some { block := b, off := 0 }) 5 5 → KK (Act.put fa _ v) w' := fun v w' h1 h2 => hKK v w' h1 h2
        clear hSame hRR
        rw [wanted_guard rfl rfl rfl ft113]
        first | rw [if_pos (by rfl)] | rw [if_neg (by decide)]
        go_simp
        refine hKK _ _ ?_ ?_
        · first | exact Below.refl _ _ | exact (Below.refl _ _).alloc (Nat.le_refl _) _ | exact below_draw _ _ | assumption
        · exact rfl
      refine Obs.cons (k' := 116) rfl ?_ ?_
      · intro fa W hW hSame hRR KK hKK
        try dsimp only at hW
        obtain ⟨fv114, ft114, fm114⟩ := hRR 114 _ 227 rfl rfl (by kernel_rfl)
        replace fm114 : fv114 = Value.slice (some { block := b, off := 0 }) 5 5 := fm114
        subst fm114
        obtain ⟨fv113, ft113, fm113⟩ := hRR 113 _ 226 rfl rfl (by kernel_rfl)
        replace fm113 : fv113 = Value.bool true := fm113
        subst fm113
        replace hKK : ∀ v w', Go.RowKit.Below W.heap.size W w' → v = Value.pointer (some { block := b, off := 3 }) → KK (Act.put fa _ v) w' := fun v w' h1 h2 => hKK v w' h1 h2
        clear hSame hRR
        rw [wanted_guard rfl rfl rfl ft113]
        first | rw [if_pos (by rfl)] | rw [if_neg (by decide)]
        go_simp
        refine hKK _ _ ?_ ?_
        · first | exact Below.refl _ _ | exact (Below.refl _ _).alloc (Nat.le_refl _) _ | exact below_draw _ _ | assumption
        · exact rfl
      refine Obs.cons (k' := 117) rfl ?_ ?_
      · intro fa W hW hSame hRR KK hKK
        try dsimp only at hW
        obtain ⟨fv115, ft115, fm115⟩ := hRR 115 _ 228 rfl rfl (by kernel_rfl)
        replace fm115 : fv115 = Value.pointer (some { block := b, off := 3 }) := fm115
        subst fm115
        obtain ⟨fv113, ft113, fm113⟩ := hRR 113 _ 226 rfl rfl (by kernel_rfl)
        replace fm113 : fv113 = Value.bool true := fm113
        subst fm113
        replace hKK : ∀ v w', Go.RowKit.Below W.heap.size W w' → v = Value.float FloatKind.f64 0 → KK (Act.put fa _ v) w' := fun v w' h1 h2 => hKK v w' h1 h2
        clear hSame hRR
        rw [wanted_guard rfl rfl rfl ft113]
        first | rw [if_pos (by rfl)] | rw [if_neg (by decide)]
        go_simp
        refine hKK _ _ ?_ ?_
        · first | exact Below.refl _ _ | exact (Below.refl _ _).alloc (Nat.le_refl _) _ | exact below_draw _ _ | assumption
        · exact rfl
      refine Obs.cons (k' := 118) rfl ?_ ?_
      · intro fa W hW hSame hRR KK hKK
        try dsimp only at hW
        obtain ⟨fv113, ft113, fm113⟩ := hRR 113 _ 226 rfl rfl (by kernel_rfl)
        replace fm113 : fv113 = Value.bool true := fm113
        subst fm113
        have fb1 := hSame.base 1 (by kernel_rfl)
        simp only [List.getElem?_toArray, List.getElem?_cons_succ, List.getElem?_cons_zero] at fb1
        replace hKK : ∀ v w', Go.RowKit.Below W.heap.size W w' → v = Value.slice (some { block := b, off := 0 }) 5 5 → KK (Act.put fa _ v) w' := fun v w' h1 h2 => hKK v w' h1 h2
        clear hSame hRR
        rw [wanted_guard rfl rfl rfl ft113]
        first | rw [if_pos (by rfl)] | rw [if_neg (by decide)]
        go_simp
        refine hKK _ _ ?_ ?_
        · first | exact Below.refl _ _ | exact (Below.refl _ _).alloc (Nat.le_refl _) _ | exact below_draw _ _ | assumption
        · exact rfl
      refine Obs.cons (k' := 119) rfl ?_ ?_
      · intro fa W hW hSame hRR KK hKK
        try dsimp only at hW
        obtain ⟨fv117, ft117, fm117⟩ := hRR 117 _ 230 rfl rfl (by kernel_rfl)
        replace fm117 : fv117 = Value.slice (some { block := b, off := 0 }) 5 5 := fm117
        subst fm117
        obtain ⟨fv113, ft113, fm113⟩ := hRR 113 _ 226 rfl rfl (by kernel_rfl)
        replace fm113 : fv113 = Value.bool true := fm113
        subst fm113
        replace hKK : ∀ v w', Go.RowKit.Below W.heap.size W w' → v = Value.pointer (some { block := b, off := 3 }) → KK (Act.put fa _ v) w' := fun v w' h1 h2 => hKK v w' h1 h2
        clear hSame hRR
        rw [wanted_guard rfl rfl rfl ft113]
        first | rw [if_pos (by rfl)] | rw [if_neg (by decide)]
        go_simp
        refine hKK _ _ ?_ ?_
        · first | exact Below.refl _ _ | exact (Below.refl _ _).alloc (Nat.le_refl _) _ | exact below_draw _ _ | assumption
        · exact rfl
      refine Obs.cons (k' := 120) rfl ?_ ?_
      · intro fa W hW hSame hRR KK hKK
        try dsimp only at hW
        obtain ⟨fv118, ft118, fm118⟩ := hRR 118 _ 231 rfl rfl (by kernel_rfl)
        replace fm118 : fv118 = Value.pointer (some { block := b, off := 3 }) := fm118
        subst fm118
        obtain ⟨fv113, ft113, fm113⟩ := hRR 113 _ 226 rfl rfl (by kernel_rfl)
        replace fm113 : fv113 = Value.bool true := fm113
        subst fm113
        replace hKK : ∀ v w', Go.RowKit.Below W.heap.size W w' → v = Value.float FloatKind.f64 0 → KK (Act.put fa _ v) w' := fun v w' h1 h2 => hKK v w' h1 h2
        clear hSame hRR
        rw [wanted_guard rfl rfl rfl ft113]
        first | rw [if_pos (by rfl)] | rw [if_neg (by decide)]
        go_simp
        refine hKK _ _ ?_ ?_
        · first | exact Below.refl _ _ | exact (Below.refl _ _).alloc (Nat.le_refl _) _ | exact below_draw _ _ | assumption
        · exact rfl
      refine Obs.cons (k' := 121) rfl ?_ ?_
      · intro fa W hW hSame hRR KK hKK
        try dsimp only at hW
        obtain ⟨fv116, ft116, fm116⟩ := hRR 116 _ 229 rfl rfl (by kernel_rfl)
        replace fm116 : fv116 = Value.float FloatKind.f64 0 := fm116
        subst fm116
        obtain ⟨fv119, ft119, fm119⟩ := hRR 119 _ 232 rfl rfl (by kernel_rfl)
        replace fm119 : fv119 = Value.float FloatKind.f64 0 := fm119
        subst fm119
        obtain ⟨fv113, ft113, fm113⟩ := hRR 113 _ 226 rfl rfl (by kernel_rfl)
        replace fm113 : fv113 = Value.bool true := fm113
        subst fm113
        obtain ⟨fv113, ft113, fm113⟩ := hRR 113 _ 226 rfl rfl (by kernel_rfl)
        replace fm113 : fv113 = Value.bool true := fm113
        subst fm113
        replace hKK : ∀ v w', Go.RowKit.Below W.heap.size W w' → v = Value.bool false → KK (Act.put fa _ v) w' := fun v w' h1 h2 => hKK v w' h1 h2
        clear hSame hRR
        rw [wanted_guard rfl rfl rfl ft113]
        first | rw [if_pos (by rfl)] | rw [if_neg (by decide)]
        go_simp
        first
            | (go_at_call 16; refine (kind_any _ (by first | exact HQ2.out | decide) _).mono ?_; rintro e w' ⟨rfl, rfl⟩; first
                | rw [show Fl.kd (Fl.rk 9223372036854775808) = 3 by decide +kernel]
                | rw [show Fl.kd (Fl.rk 0) = 4 by decide +kernel]
                | rw [show Fl.kd (Fl.rk 13835058055282163712) = 2 by decide +kernel]
                | rw [show Fl.kd (Fl.rk 4602678819172646912) = 5 by decide +kernel])
            | (go_at_call 18; refine (same_any _ _ (by first | exact HQ2.out | decide) (by first | exact HQ2.out | decide) _).mono ?_; rintro e w' ⟨rfl, rfl⟩; first
                | rw [show Fl.sameB q q = true from by unfold Fl.sameB; simp]
                | rw [show Fl.sameB 9223372036854775808 0 = false by decide +kernel])
            | (go_at_call 20; refine (less_any _ _ (by first | exact HQ2.out | decide) (by first | exact HQ2.out | decide) _).mono ?_; rintro e w' ⟨rfl, rfl⟩; first
                | rw [show Fl.lessB 9223372036854775808 0 = true by decide +kernel]
                | rw [show Fl.lessB q 18442240474082181120 = true from by unfold Fl.lessB; rw [Fl.rk_nan2 HQ.out]; decide +kernel]
                | rw [show Fl.lessB 0 0 = false by decide +kernel])
            | (go_at_call 24; refine (real_of _ _).mono ?_; rintro e w' ⟨rfl, rfl⟩; rw [show FloatKind.f64.nearest 9007199254740993 = 4845873199050653696 by decide +kernel])
            | (go_at_call 22; first
                | ((with_reducible refine (sum_none _).mono ?_); rintro e w' ⟨rfl, rfl⟩)
                | ((with_reducible refine (sum_any _ 1 1 [9223372036854775808] _ fm136 (by decide) (by decide) (by unfold maxLen; decide) (by intro x hx; simp at hx; subst hx; decide)).mono ?_); rintro e w' ⟨r, hr, rfl, jj, hk⟩; have hb := below_of_draw hk; obtain rfl := Eqv_lit hr (by decide +kernel); rw [show Fl.csum [9223372036854775808] = 9223372036854775808 by decide +kernel])
                | ((with_reducible refine (sum_any _ 3 3 [4607182418800017408, 4611686018427387904, 4602678819172646912] _ fm142 (by decide) (by decide) (by unfold maxLen; decide) (by intro x hx; simp at hx; rcases hx with rfl | rfl | rfl <;> decide)).mono ?_); rintro e w' ⟨r, hr, rfl, jj, hk⟩; have hb := below_of_draw hk; obtain rfl := Eqv_lit hr (by decide +kernel); rw [show Fl.csum [4607182418800017408, 4611686018427387904, 4602678819172646912] = 4615063718147915776 by decide +kernel]))
        try dsimp only
        refine hKK _ _ ?_ ?_
        · first | exact Below.refl _ _ | exact (Below.refl _ _).alloc (Nat.le_refl _) _ | exact below_draw _ _ | assumption
        · exact rfl
      refine Obs.cons (k' := 122) rfl ?_ ?_
      · intro fa W hW hSame hRR KK hKK
        try dsimp only at hW
        obtain ⟨fv120, ft120, fm120⟩ := hRR 120 _ 233 rfl rfl (by kernel_rfl)
        replace fm120 : fv120 = Value.bool false := fm120
        subst fm120
        obtain ⟨fv113, ft113, fm113⟩ := hRR 113 _ 226 rfl rfl (by kernel_rfl)
        replace fm113 : fv113 = Value.bool true := fm113
        subst fm113
        replace hKK : ∀ v w', Go.RowKit.Below W.heap.size W w' → v = Value.bool true → KK (Act.put fa _ v) w' := fun v w' h1 h2 => hKK v w' h1 h2
        clear hSame hRR
        rw [wanted_guard rfl rfl rfl ft113]
        first | rw [if_pos (by rfl)] | rw [if_neg (by decide)]
        go_simp
        refine hKK _ _ ?_ ?_
        · first | exact Below.refl _ _ | exact (Below.refl _ _).alloc (Nat.le_refl _) _ | exact below_draw _ _ | assumption
        · exact rfl
      refine Obs.cons (k' := 123) rfl ?_ ?_
      · intro fa W hW hSame hRR KK hKK
        try dsimp only at hW
        obtain ⟨fv113, ft113, fm113⟩ := hRR 113 _ 226 rfl rfl (by kernel_rfl)
        replace fm113 : fv113 = Value.bool true := fm113
        subst fm113
        obtain ⟨fv121, ft121, fm121⟩ := hRR 121 _ 234 rfl rfl (by kernel_rfl)
        replace fm121 : fv121 = Value.bool true := fm121
        subst fm121
        replace hKK : ∀ v w', Go.RowKit.Below W.heap.size W w' → v = Value.bool true → KK (Act.put fa _ v) w' := fun v w' h1 h2 => hKK v w' h1 h2
        clear hSame hRR
        rw [if_pos (wanted_plain rfl)]
        go_simp
        refine hKK _ _ ?_ ?_
        · first | exact Below.refl _ _ | exact (Below.refl _ _).alloc (Nat.le_refl _) _ | exact below_draw _ _ | assumption
        · exact rfl
      refine Obs.cons (k' := 124) rfl ?_ ?_
      · intro fa W hW hSame hRR KK hKK
        try dsimp only at hW
        obtain ⟨fv122, ft122, fm122⟩ := hRR 122 _ 235 rfl rfl (by kernel_rfl)
        replace fm122 : fv122 = Value.bool true := fm122
        subst fm122
        replace hKK : ∀ v w', Go.RowKit.Below W.heap.size W w' → v = Value.bool true → KK (Act.put fa _ v) w' := fun v w' h1 h2 => hKK v w' h1 h2
        clear hSame hRR
        rw [if_pos (wanted_plain rfl)]
        go_simp
        refine hKK _ _ ?_ ?_
        · first | exact Below.refl _ _ | exact (Below.refl _ _).alloc (Nat.le_refl _) _ | exact below_draw _ _ | assumption
        · exact rfl
      refine Obs.cons (k' := 125) rfl ?_ ?_
      · intro fa W hW hSame hRR KK hKK
        try dsimp only at hW
        obtain ⟨fv123, ft123, fm123⟩ := hRR 123 _ 236 rfl rfl (by kernel_rfl)
        replace fm123 : fv123 = Value.bool true := fm123
        subst fm123
        obtain ⟨fv123, ft123, fm123⟩ := hRR 123 _ 236 rfl rfl (by kernel_rfl)
        replace fm123 : fv123 = Value.bool true := fm123
        subst fm123
        replace hKK : ∀ v w', Go.RowKit.Below W.heap.size W w' → v = Value.float FloatKind.f64 4845873199050653696 → KK (Act.put fa _ v) w' := fun v w' h1 h2 => hKK v w' h1 h2
        clear hSame hRR
        rw [wanted_guard rfl rfl rfl ft123]
        first | rw [if_pos (by rfl)] | rw [if_neg (by decide)]
        go_simp
        first
            | (go_at_call 16; refine (kind_any _ (by first | exact HQ2.out | decide) _).mono ?_; rintro e w' ⟨rfl, rfl⟩; first
                | rw [show Fl.kd (Fl.rk 9223372036854775808) = 3 by decide +kernel]
                | rw [show Fl.kd (Fl.rk 0) = 4 by decide +kernel]
                | rw [show Fl.kd (Fl.rk 13835058055282163712) = 2 by decide +kernel]
                | rw [show Fl.kd (Fl.rk 4602678819172646912) = 5 by decide +kernel])
            | (go_at_call 18; refine (same_any _ _ (by first | exact HQ2.out | decide) (by first | exact HQ2.out | decide) _).mono ?_; rintro e w' ⟨rfl, rfl⟩; first
                | rw [show Fl.sameB q q = true from by unfold Fl.sameB; simp]
                | rw [show Fl.sameB 9223372036854775808 0 = false by decide +kernel])
            | (go_at_call 20; refine (less_any _ _ (by first | exact HQ2.out | decide) (by first | exact HQ2.out | decide) _).mono ?_; rintro e w' ⟨rfl, rfl⟩; first
                | rw [show Fl.lessB 9223372036854775808 0 = true by decide +kernel]
                | rw [show Fl.lessB q 18442240474082181120 = true from by unfold Fl.lessB; rw [Fl.rk_nan2 HQ.out]; decide +kernel]
                | rw [show Fl.lessB 0 0 = false by decide +kernel])
            | (go_at_call 24; refine (real_of _ _).mono ?_; rintro e w' ⟨rfl, rfl⟩; rw [show FloatKind.f64.nearest 9007199254740993 = 4845873199050653696 by decide +kernel])
            | (go_at_call 22; first
                | ((with_reducible refine (sum_none _).mono ?_); rintro e w' ⟨rfl, rfl⟩)
                | ((with_reducible refine (sum_any _ 1 1 [9223372036854775808] _ fm136 (by decide) (by decide) (by unfold maxLen; decide) (by intro x hx; simp at hx; subst hx; decide)).mono ?_); rintro e w' ⟨r, hr, rfl, jj, hk⟩; have hb := below_of_draw hk; obtain rfl := Eqv_lit hr (by decide +kernel); rw [show Fl.csum [9223372036854775808] = 9223372036854775808 by decide +kernel])
                | ((with_reducible refine (sum_any _ 3 3 [4607182418800017408, 4611686018427387904, 4602678819172646912] _ fm142 (by decide) (by decide) (by unfold maxLen; decide) (by intro x hx; simp at hx; rcases hx with rfl | rfl | rfl <;> decide)).mono ?_); rintro e w' ⟨r, hr, rfl, jj, hk⟩; have hb := below_of_draw hk; obtain rfl := Eqv_lit hr (by decide +kernel); rw [show Fl.csum [4607182418800017408, 4611686018427387904, 4602678819172646912] = 4615063718147915776 by decide +kernel]))
        try dsimp only
        refine hKK _ _ ?_ ?_
        · first | exact Below.refl _ _ | exact (Below.refl _ _).alloc (Nat.le_refl _) _ | exact below_draw _ _ | assumption
        · exact rfl
      refine Obs.cons (k' := 126) rfl ?_ ?_
      · intro fa W hW hSame hRR KK hKK
        try dsimp only at hW
        obtain ⟨fv124, ft124, fm124⟩ := hRR 124 _ 237 rfl rfl (by kernel_rfl)
        replace fm124 : fv124 = Value.float FloatKind.f64 4845873199050653696 := fm124
        subst fm124
        obtain ⟨fv123, ft123, fm123⟩ := hRR 123 _ 236 rfl rfl (by kernel_rfl)
        replace fm123 : fv123 = Value.bool true := fm123
        subst fm123
        replace hKK : ∀ v w', Go.RowKit.Below W.heap.size W w' → v = Value.bool true → KK (Act.put fa _ v) w' := fun v w' h1 h2 => hKK v w' h1 h2
        clear hSame hRR
        rw [wanted_guard rfl rfl rfl ft123]
        first | rw [if_pos (by rfl)] | rw [if_neg (by decide)]
        go_simp
        refine hKK _ _ ?_ ?_
        · first | exact Below.refl _ _ | exact (Below.refl _ _).alloc (Nat.le_refl _) _ | exact below_draw _ _ | assumption
        · exact rfl
      refine Obs.cons (k' := 127) rfl ?_ ?_
      · intro fa W hW hSame hRR KK hKK
        try dsimp only at hW
        obtain ⟨fv123, ft123, fm123⟩ := hRR 123 _ 236 rfl rfl (by kernel_rfl)
        replace fm123 : fv123 = Value.bool true := fm123
        subst fm123
        obtain ⟨fv125, ft125, fm125⟩ := hRR 125 _ 238 rfl rfl (by kernel_rfl)
        replace fm125 : fv125 = Value.bool true := fm125
        subst fm125
        replace hKK : ∀ v w', Go.RowKit.Below W.heap.size W w' → v = Value.bool true → KK (Act.put fa _ v) w' := fun v w' h1 h2 => hKK v w' h1 h2
        clear hSame hRR
        rw [if_pos (wanted_plain rfl)]
        go_simp
        refine hKK _ _ ?_ ?_
        · first | exact Below.refl _ _ | exact (Below.refl _ _).alloc (Nat.le_refl _) _ | exact below_draw _ _ | assumption
        · exact rfl
      refine Obs.cons (k' := 128) rfl ?_ ?_
      · intro fa W hW hSame hRR KK hKK
        try dsimp only at hW
        obtain ⟨fv126, ft126, fm126⟩ := hRR 126 _ 239 rfl rfl (by kernel_rfl)
        replace fm126 : fv126 = Value.bool true := fm126
        subst fm126
        replace hKK : ∀ v w', Go.RowKit.Below W.heap.size W w' → v = Value.bool true → KK (Act.put fa _ v) w' := fun v w' h1 h2 => hKK v w' h1 h2
        clear hSame hRR
        rw [if_pos (wanted_plain rfl)]
        go_simp
        refine hKK _ _ ?_ ?_
        · first | exact Below.refl _ _ | exact (Below.refl _ _).alloc (Nat.le_refl _) _ | exact below_draw _ _ | assumption
        · exact rfl
      refine Obs.cons (k' := 129) rfl ?_ ?_
      · intro fa W hW hSame hRR KK hKK
        try dsimp only at hW
        obtain ⟨fv127, ft127, fm127⟩ := hRR 127 _ 240 rfl rfl (by kernel_rfl)
        replace fm127 : fv127 = Value.bool true := fm127
        subst fm127
        obtain ⟨fv127, ft127, fm127⟩ := hRR 127 _ 240 rfl rfl (by kernel_rfl)
        replace fm127 : fv127 = Value.bool true := fm127
        subst fm127
        replace hKK : ∀ v w', Go.RowKit.Below W.heap.size W w' → v = Value.float FloatKind.f64 0 → KK (Act.put fa _ v) w' := fun v w' h1 h2 => hKK v w' h1 h2
        clear hSame hRR
        rw [wanted_guard rfl rfl rfl ft127]
        first | rw [if_pos (by rfl)] | rw [if_neg (by decide)]
        go_simp
        first
            | (go_at_call 16; refine (kind_any _ (by first | exact HQ2.out | decide) _).mono ?_; rintro e w' ⟨rfl, rfl⟩; first
                | rw [show Fl.kd (Fl.rk 9223372036854775808) = 3 by decide +kernel]
                | rw [show Fl.kd (Fl.rk 0) = 4 by decide +kernel]
                | rw [show Fl.kd (Fl.rk 13835058055282163712) = 2 by decide +kernel]
                | rw [show Fl.kd (Fl.rk 4602678819172646912) = 5 by decide +kernel])
            | (go_at_call 18; refine (same_any _ _ (by first | exact HQ2.out | decide) (by first | exact HQ2.out | decide) _).mono ?_; rintro e w' ⟨rfl, rfl⟩; first
                | rw [show Fl.sameB q q = true from by unfold Fl.sameB; simp]
                | rw [show Fl.sameB 9223372036854775808 0 = false by decide +kernel])
            | (go_at_call 20; refine (less_any _ _ (by first | exact HQ2.out | decide) (by first | exact HQ2.out | decide) _).mono ?_; rintro e w' ⟨rfl, rfl⟩; first
                | rw [show Fl.lessB 9223372036854775808 0 = true by decide +kernel]
                | rw [show Fl.lessB q 18442240474082181120 = true from by unfold Fl.lessB; rw [Fl.rk_nan2 HQ.out]; decide +kernel]
                | rw [show Fl.lessB 0 0 = false by decide +kernel])
            | (go_at_call 24; refine (real_of _ _).mono ?_; rintro e w' ⟨rfl, rfl⟩; rw [show FloatKind.f64.nearest 9007199254740993 = 4845873199050653696 by decide +kernel])
            | (go_at_call 22; first
                | ((with_reducible refine (sum_none _).mono ?_); rintro e w' ⟨rfl, rfl⟩)
                | ((with_reducible refine (sum_any _ 1 1 [9223372036854775808] _ fm136 (by decide) (by decide) (by unfold maxLen; decide) (by intro x hx; simp at hx; subst hx; decide)).mono ?_); rintro e w' ⟨r, hr, rfl, jj, hk⟩; have hb := below_of_draw hk; obtain rfl := Eqv_lit hr (by decide +kernel); rw [show Fl.csum [9223372036854775808] = 9223372036854775808 by decide +kernel])
                | ((with_reducible refine (sum_any _ 3 3 [4607182418800017408, 4611686018427387904, 4602678819172646912] _ fm142 (by decide) (by decide) (by unfold maxLen; decide) (by intro x hx; simp at hx; rcases hx with rfl | rfl | rfl <;> decide)).mono ?_); rintro e w' ⟨r, hr, rfl, jj, hk⟩; have hb := below_of_draw hk; obtain rfl := Eqv_lit hr (by decide +kernel); rw [show Fl.csum [4607182418800017408, 4611686018427387904, 4602678819172646912] = 4615063718147915776 by decide +kernel]))
        try dsimp only
        refine hKK _ _ ?_ ?_
        · first | exact Below.refl _ _ | exact (Below.refl _ _).alloc (Nat.le_refl _) _ | exact below_draw _ _ | assumption
        · exact rfl
      refine Obs.cons (k' := 130) rfl ?_ ?_
      · intro fa W hW hSame hRR KK hKK
        try dsimp only at hW
        obtain ⟨fv128, ft128, fm128⟩ := hRR 128 _ 241 rfl rfl (by kernel_rfl)
        replace fm128 : fv128 = Value.float FloatKind.f64 0 := fm128
        subst fm128
        obtain ⟨fv128, ft128, fm128⟩ := hRR 128 _ 241 rfl rfl (by kernel_rfl)
        replace fm128 : fv128 = Value.float FloatKind.f64 0 := fm128
        subst fm128
        obtain ⟨fv127, ft127, fm127⟩ := hRR 127 _ 240 rfl rfl (by kernel_rfl)
        replace fm127 : fv127 = Value.bool true := fm127
        subst fm127
        replace hKK : ∀ v w', Go.RowKit.Below W.heap.size W w' → v = Value.int IntKind.i64 4 → KK (Act.put fa _ v) w' := fun v w' h1 h2 => hKK v w' h1 h2
        clear hSame hRR
        rw [wanted_guard rfl rfl rfl ft127]
        first | rw [if_pos (by rfl)] | rw [if_neg (by decide)]
        go_simp
        first
            | (go_at_call 16; refine (kind_any _ (by first | exact HQ2.out | decide) _).mono ?_; rintro e w' ⟨rfl, rfl⟩; first
                | rw [show Fl.kd (Fl.rk 9223372036854775808) = 3 by decide +kernel]
                | rw [show Fl.kd (Fl.rk 0) = 4 by decide +kernel]
                | rw [show Fl.kd (Fl.rk 13835058055282163712) = 2 by decide +kernel]
                | rw [show Fl.kd (Fl.rk 4602678819172646912) = 5 by decide +kernel])
            | (go_at_call 18; refine (same_any _ _ (by first | exact HQ2.out | decide) (by first | exact HQ2.out | decide) _).mono ?_; rintro e w' ⟨rfl, rfl⟩; first
                | rw [show Fl.sameB q q = true from by unfold Fl.sameB; simp]
                | rw [show Fl.sameB 9223372036854775808 0 = false by decide +kernel])
            | (go_at_call 20; refine (less_any _ _ (by first | exact HQ2.out | decide) (by first | exact HQ2.out | decide) _).mono ?_; rintro e w' ⟨rfl, rfl⟩; first
                | rw [show Fl.lessB 9223372036854775808 0 = true by decide +kernel]
                | rw [show Fl.lessB q 18442240474082181120 = true from by unfold Fl.lessB; rw [Fl.rk_nan2 HQ.out]; decide +kernel]
                | rw [show Fl.lessB 0 0 = false by decide +kernel])
            | (go_at_call 24; refine (real_of _ _).mono ?_; rintro e w' ⟨rfl, rfl⟩; rw [show FloatKind.f64.nearest 9007199254740993 = 4845873199050653696 by decide +kernel])
            | (go_at_call 22; first
                | ((with_reducible refine (sum_none _).mono ?_); rintro e w' ⟨rfl, rfl⟩)
                | ((with_reducible refine (sum_any _ 1 1 [9223372036854775808] _ fm136 (by decide) (by decide) (by unfold maxLen; decide) (by intro x hx; simp at hx; subst hx; decide)).mono ?_); rintro e w' ⟨r, hr, rfl, jj, hk⟩; have hb := below_of_draw hk; obtain rfl := Eqv_lit hr (by decide +kernel); rw [show Fl.csum [9223372036854775808] = 9223372036854775808 by decide +kernel])
                | ((with_reducible refine (sum_any _ 3 3 [4607182418800017408, 4611686018427387904, 4602678819172646912] _ fm142 (by decide) (by decide) (by unfold maxLen; decide) (by intro x hx; simp at hx; rcases hx with rfl | rfl | rfl <;> decide)).mono ?_); rintro e w' ⟨r, hr, rfl, jj, hk⟩; have hb := below_of_draw hk; obtain rfl := Eqv_lit hr (by decide +kernel); rw [show Fl.csum [4607182418800017408, 4611686018427387904, 4602678819172646912] = 4615063718147915776 by decide +kernel]))
        try dsimp only
        refine hKK _ _ ?_ ?_
        · first | exact Below.refl _ _ | exact (Below.refl _ _).alloc (Nat.le_refl _) _ | exact below_draw _ _ | assumption
        · exact rfl
      refine Obs.cons (k' := 131) rfl ?_ ?_
      · intro fa W hW hSame hRR KK hKK
        try dsimp only at hW
        obtain ⟨fv129, ft129, fm129⟩ := hRR 129 _ 242 rfl rfl (by kernel_rfl)
        replace fm129 : fv129 = Value.int IntKind.i64 4 := fm129
        subst fm129
        obtain ⟨fv127, ft127, fm127⟩ := hRR 127 _ 240 rfl rfl (by kernel_rfl)
        replace fm127 : fv127 = Value.bool true := fm127
        subst fm127
        replace hKK : ∀ v w', Go.RowKit.Below W.heap.size W w' → v = Value.bool true → KK (Act.put fa _ v) w' := fun v w' h1 h2 => hKK v w' h1 h2
        clear hSame hRR
        rw [wanted_guard rfl rfl rfl ft127]
        first | rw [if_pos (by rfl)] | rw [if_neg (by decide)]
        go_simp
        refine hKK _ _ ?_ ?_
        · first | exact Below.refl _ _ | exact (Below.refl _ _).alloc (Nat.le_refl _) _ | exact below_draw _ _ | assumption
        · exact rfl
      refine Obs.cons (k' := 132) rfl ?_ ?_
      · intro fa W hW hSame hRR KK hKK
        try dsimp only at hW
        obtain ⟨fv127, ft127, fm127⟩ := hRR 127 _ 240 rfl rfl (by kernel_rfl)
        replace fm127 : fv127 = Value.bool true := fm127
        subst fm127
        obtain ⟨fv130, ft130, fm130⟩ := hRR 130 _ 243 rfl rfl (by kernel_rfl)
        replace fm130 : fv130 = Value.bool true := fm130
        subst fm130
        replace hKK : ∀ v w', Go.RowKit.Below W.heap.size W w' → v = Value.bool true → KK (Act.put fa _ v) w' := fun v w' h1 h2 => hKK v w' h1 h2
        clear hSame hRR
        rw [if_pos (wanted_plain rfl)]
        go_simp
        refine hKK _ _ ?_ ?_
        · first | exact Below.refl _ _ | exact (Below.refl _ _).alloc (Nat.le_refl _) _ | exact below_draw _ _ | assumption
        · exact rfl
      refine Obs.cons (k' := 133) rfl ?_ ?_
      · intro fa W hW hSame hRR KK hKK
        try dsimp only at hW
        obtain ⟨fv131, ft131, fm131⟩ := hRR 131 _ 244 rfl rfl (by kernel_rfl)
        replace fm131 : fv131 = Value.bool true := fm131
        subst fm131
        replace hKK : ∀ v w', Go.RowKit.Below W.heap.size W w' → v = Value.bool true → KK (Act.put fa _ v) w' := fun v w' h1 h2 => hKK v w' h1 h2
        clear hSame hRR
        rw [if_pos (wanted_plain rfl)]
        go_simp
        refine hKK _ _ ?_ ?_
        · first | exact Below.refl _ _ | exact (Below.refl _ _).alloc (Nat.le_refl _) _ | exact below_draw _ _ | assumption
        · exact rfl
      refine Obs.cons (k' := 134) rfl ?_ ?_
      · intro fa W hW hSame hRR KK hKK
        try dsimp only at hW
        obtain ⟨fv132, ft132, fm132⟩ := hRR 132 _ 245 rfl rfl (by kernel_rfl)
        replace fm132 : fv132 = Value.bool true := fm132
        subst fm132
        have fb1 := hSame.base 1 (by kernel_rfl)
        simp only [List.getElem?_toArray, List.getElem?_cons_succ, List.getElem?_cons_zero] at fb1
        replace hKK : ∀ v w', Go.RowKit.Below W.heap.size W w' → v = Value.slice (some { block := b, off := 0 }) 5 5 → KK (Act.put fa _ v) w' := fun v w' h1 h2 => hKK v w' h1 h2
        clear hSame hRR
        rw [wanted_guard rfl rfl rfl ft132]
        first | rw [if_pos (by rfl)] | rw [if_neg (by decide)]
        go_simp
        refine hKK _ _ ?_ ?_
        · first | exact Below.refl _ _ | exact (Below.refl _ _).alloc (Nat.le_refl _) _ | exact below_draw _ _ | assumption
        · exact rfl
      refine Obs.cons (k' := 135) rfl ?_ ?_
      · intro fa W hW hSame hRR KK hKK
        try dsimp only at hW
        obtain ⟨fv133, ft133, fm133⟩ := hRR 133 _ 246 rfl rfl (by kernel_rfl)
        replace fm133 : fv133 = Value.slice (some { block := b, off := 0 }) 5 5 := fm133
        subst fm133
        obtain ⟨fv132, ft132, fm132⟩ := hRR 132 _ 245 rfl rfl (by kernel_rfl)
        replace fm132 : fv132 = Value.bool true := fm132
        subst fm132
        replace hKK : ∀ v w', Go.RowKit.Below W.heap.size W w' → v = Value.pointer (some { block := b, off := 2 }) → KK (Act.put fa _ v) w' := fun v w' h1 h2 => hKK v w' h1 h2
        clear hSame hRR
        rw [wanted_guard rfl rfl rfl ft132]
        first | rw [if_pos (by rfl)] | rw [if_neg (by decide)]
        go_simp
        refine hKK _ _ ?_ ?_
        · first | exact Below.refl _ _ | exact (Below.refl _ _).alloc (Nat.le_refl _) _ | exact below_draw _ _ | assumption
        · exact rfl
      refine Obs.cons (k' := 136) rfl ?_ ?_
      · intro fa W hW hSame hRR KK hKK
        try dsimp only at hW
        obtain ⟨fv134, ft134, fm134⟩ := hRR 134 _ 247 rfl rfl (by kernel_rfl)
        replace fm134 : fv134 = Value.pointer (some { block := b, off := 2 }) := fm134
        subst fm134
        obtain ⟨fv132, ft132, fm132⟩ := hRR 132 _ 245 rfl rfl (by kernel_rfl)
        replace fm132 : fv132 = Value.bool true := fm132
        subst fm132
        replace hKK : ∀ v w', Go.RowKit.Below W.heap.size W w' → v = Value.float FloatKind.f64 9223372036854775808 → KK (Act.put fa _ v) w' := fun v w' h1 h2 => hKK v w' h1 h2
        clear hSame hRR
        rw [wanted_guard rfl rfl rfl ft132]
        first | rw [if_pos (by rfl)] | rw [if_neg (by decide)]
        go_simp
        refine hKK _ _ ?_ ?_
        · first | exact Below.refl _ _ | exact (Below.refl _ _).alloc (Nat.le_refl _) _ | exact below_draw _ _ | assumption
        · exact rfl
      refine Obs.cons (k' := 137) rfl ?_ ?_
      · intro fa W hW hSame hRR KK hKK
        try dsimp only at hW
        obtain ⟨fv135, ft135, fm135⟩ := hRR 135 _ 248 rfl rfl (by kernel_rfl)
        replace fm135 : fv135 = Value.float FloatKind.f64 9223372036854775808 := fm135
        subst fm135
        obtain ⟨fv132, ft132, fm132⟩ := hRR 132 _ 245 rfl rfl (by kernel_rfl)
        replace fm132 : fv132 = Value.bool true := fm132
        subst fm132
        replace hKK : ∀ v w', Go.RowKit.Below W.heap.size W w' → (fun v W => ∃ b', v = Value.slice (some ⟨b', 0, none⟩) 1 1 ∧ FlS W v [9223372036854775808]) v w' → KK (Act.put fa _ v) w' := fun v w' h1 h2 => hKK v w' h1 h2
        clear hSame hRR
        rw [wanted_guard rfl rfl rfl ft132]
        first | rw [if_pos (by rfl)] | rw [if_neg (by decide)]
        go_simp
        refine hKK _ _ ?_ ?_
        · first | exact Below.refl _ _ | exact (Below.refl _ _).alloc (Nat.le_refl _) _ | exact below_draw _ _ | assumption
        · try dsimp only
          first | exact trivial | exact rfl | (first | exact ⟨_, rfl, _, _, rfl, fun _ => ⟨_, rfl, by simp, one_cell (by simp [go_sem])⟩⟩ | exact ⟨_, rfl, _, _, rfl, fun _ => ⟨_, rfl, by simp, three_cells (by simp [go_sem]) (by simp [go_sem]) (by simp [go_sem])⟩⟩)
      refine Obs.cons (k' := 138) rfl ?_ ?_
      · intro fa W hW hSame hRR KK hKK
        try dsimp only at hW
        obtain ⟨fv136, ft136, fm136⟩ := hRR 136 _ 249 rfl rfl (by kernel_rfl)
        replace fm136 : (fun v W => ∃ b', v = Value.slice (some ⟨b', 0, none⟩) 1 1 ∧ FlS W v [9223372036854775808]) fv136 W := fm136
        try dsimp only at fm136
        obtain ⟨_, rfl, fm136⟩ := fm136
        obtain ⟨fv132, ft132, fm132⟩ := hRR 132 _ 245 rfl rfl (by kernel_rfl)
        replace fm132 : fv132 = Value.bool true := fm132
        subst fm132
        obtain ⟨fv132, ft132, fm132⟩ := hRR 132 _ 245 rfl rfl (by kernel_rfl)
        replace fm132 : fv132 = Value.bool true := fm132
        subst fm132
        replace hKK : ∀ v w', Go.RowKit.Below W.heap.size W w' → v = Value.float FloatKind.f64 9223372036854775808 → KK (Act.put fa _ v) w' := fun v w' h1 h2 => hKK v w' h1 h2
        clear hSame hRR
        rw [wanted_guard rfl rfl rfl ft132]
        first | rw [if_pos (by rfl)] | rw [if_neg (by decide)]
        go_simp
        first
            | (go_at_call 16; refine (kind_any _ (by first | exact HQ2.out | decide) _).mono ?_; rintro e w' ⟨rfl, rfl⟩; first
                | rw [show Fl.kd (Fl.rk 9223372036854775808) = 3 by decide +kernel]
                | rw [show Fl.kd (Fl.rk 0) = 4 by decide +kernel]
                | rw [show Fl.kd (Fl.rk 13835058055282163712) = 2 by decide +kernel]
                | rw [show Fl.kd (Fl.rk 4602678819172646912) = 5 by decide +kernel])
            | (go_at_call 18; refine (same_any _ _ (by first | exact HQ2.out | decide) (by first | exact HQ2.out | decide) _).mono ?_; rintro e w' ⟨rfl, rfl⟩; first
                | rw [show Fl.sameB q q = true from by unfold Fl.sameB; simp]
                | rw [show Fl.sameB 9223372036854775808 0 = false by decide +kernel])
            | (go_at_call 20; refine (less_any _ _ (by first | exact HQ2.out | decide) (by first | exact HQ2.out | decide) _).mono ?_; rintro e w' ⟨rfl, rfl⟩; first
                | rw [show Fl.lessB 9223372036854775808 0 = true by decide +kernel]
                | rw [show Fl.lessB q 18442240474082181120 = true from by unfold Fl.lessB; rw [Fl.rk_nan2 HQ.out]; decide +kernel]
                | rw [show Fl.lessB 0 0 = false by decide +kernel])
            | (go_at_call 24; refine (real_of _ _).mono ?_; rintro e w' ⟨rfl, rfl⟩; rw [show FloatKind.f64.nearest 9007199254740993 = 4845873199050653696 by decide +kernel])
            | (go_at_call 22; first
                | ((with_reducible refine (sum_none _).mono ?_); rintro e w' ⟨rfl, rfl⟩)
                | ((with_reducible refine (sum_any _ 1 1 [9223372036854775808] _ fm136 (by decide) (by decide) (by unfold maxLen; decide) (by intro x hx; simp at hx; subst hx; decide)).mono ?_); rintro e w' ⟨r, hr, rfl, jj, hk⟩; have hb := below_of_draw hk; obtain rfl := Eqv_lit hr (by decide +kernel); rw [show Fl.csum [9223372036854775808] = 9223372036854775808 by decide +kernel])
                | ((with_reducible refine (sum_any _ 3 3 [4607182418800017408, 4611686018427387904, 4602678819172646912] _ fm142 (by decide) (by decide) (by unfold maxLen; decide) (by intro x hx; simp at hx; rcases hx with rfl | rfl | rfl <;> decide)).mono ?_); rintro e w' ⟨r, hr, rfl, jj, hk⟩; have hb := below_of_draw hk; obtain rfl := Eqv_lit hr (by decide +kernel); rw [show Fl.csum [4607182418800017408, 4611686018427387904, 4602678819172646912] = 4615063718147915776 by decide +kernel]))
        try dsimp only
        refine hKK _ _ ?_ ?_
        · first | exact Below.refl _ _ | exact (Below.refl _ _).alloc (Nat.le_refl _) _ | exact below_draw _ _ | assumption
        · exact rfl
      refine Obs.cons (k' := 139) rfl ?_ ?_
      · intro fa W hW hSame hRR KK hKK
        try dsimp only at hW
        obtain ⟨fv137, ft137, fm137⟩ := hRR 137 _ 250 rfl rfl (by kernel_rfl)
        replace fm137 : fv137 = Value.float FloatKind.f64 9223372036854775808 := fm137
        subst fm137
        obtain ⟨fv137, ft137, fm137⟩ := hRR 137 _ 250 rfl rfl (by kernel_rfl)
        replace fm137 : fv137 = Value.float FloatKind.f64 9223372036854775808 := fm137
        subst fm137
        obtain ⟨fv132, ft132, fm132⟩ := hRR 132 _ 245 rfl rfl (by kernel_rfl)
        replace fm132 : fv132 = Value.bool true := fm132
        subst fm132
        replace hKK : ∀ v w', Go.RowKit.Below W.heap.size W w' → v = Value.int IntKind.i64 3 → KK (Act.put fa _ v) w' := fun v w' h1 h2 => hKK v w' h1 h2
        clear hSame hRR
        rw [wanted_guard rfl rfl rfl ft132]
        first | rw [if_pos (by rfl)] | rw [if_neg (by decide)]
        go_simp
        first
            | (go_at_call 16; refine (kind_any _ (by first | exact HQ2.out | decide) _).mono ?_; rintro e w' ⟨rfl, rfl⟩; first
                | rw [show Fl.kd (Fl.rk 9223372036854775808) = 3 by decide +kernel]
                | rw [show Fl.kd (Fl.rk 0) = 4 by decide +kernel]
                | rw [show Fl.kd (Fl.rk 13835058055282163712) = 2 by decide +kernel]
                | rw [show Fl.kd (Fl.rk 4602678819172646912) = 5 by decide +kernel])
            | (go_at_call 18; refine (same_any _ _ (by first | exact HQ2.out | decide) (by first | exact HQ2.out | decide) _).mono ?_; rintro e w' ⟨rfl, rfl⟩; first
                | rw [show Fl.sameB q q = true from by unfold Fl.sameB; simp]
                | rw [show Fl.sameB 9223372036854775808 0 = false by decide +kernel])
            | (go_at_call 20; refine (less_any _ _ (by first | exact HQ2.out | decide) (by first | exact HQ2.out | decide) _).mono ?_; rintro e w' ⟨rfl, rfl⟩; first
                | rw [show Fl.lessB 9223372036854775808 0 = true by decide +kernel]
                | rw [show Fl.lessB q 18442240474082181120 = true from by unfold Fl.lessB; rw [Fl.rk_nan2 HQ.out]; decide +kernel]
                | rw [show Fl.lessB 0 0 = false by decide +kernel])
            | (go_at_call 24; refine (real_of _ _).mono ?_; rintro e w' ⟨rfl, rfl⟩; rw [show FloatKind.f64.nearest 9007199254740993 = 4845873199050653696 by decide +kernel])
            | (go_at_call 22; first
                | ((with_reducible refine (sum_none _).mono ?_); rintro e w' ⟨rfl, rfl⟩)
                | ((with_reducible refine (sum_any _ 1 1 [9223372036854775808] _ fm136 (by decide) (by decide) (by unfold maxLen; decide) (by intro x hx; simp at hx; subst hx; decide)).mono ?_); rintro e w' ⟨r, hr, rfl, jj, hk⟩; have hb := below_of_draw hk; obtain rfl := Eqv_lit hr (by decide +kernel); rw [show Fl.csum [9223372036854775808] = 9223372036854775808 by decide +kernel])
                | ((with_reducible refine (sum_any _ 3 3 [4607182418800017408, 4611686018427387904, 4602678819172646912] _ fm142 (by decide) (by decide) (by unfold maxLen; decide) (by intro x hx; simp at hx; rcases hx with rfl | rfl | rfl <;> decide)).mono ?_); rintro e w' ⟨r, hr, rfl, jj, hk⟩; have hb := below_of_draw hk; obtain rfl := Eqv_lit hr (by decide +kernel); rw [show Fl.csum [4607182418800017408, 4611686018427387904, 4602678819172646912] = 4615063718147915776 by decide +kernel]))
        try dsimp only
        refine hKK _ _ ?_ ?_
        · first | exact Below.refl _ _ | exact (Below.refl _ _).alloc (Nat.le_refl _) _ | exact below_draw _ _ | assumption
        · exact rfl
      refine Obs.cons (k' := 140) rfl ?_ ?_
      · intro fa W hW hSame hRR KK hKK
        try dsimp only at hW
        obtain ⟨fv138, ft138, fm138⟩ := hRR 138 _ 251 rfl rfl (by kernel_rfl)
        replace fm138 : fv138 = Value.int IntKind.i64 3 := fm138
        subst fm138
        obtain ⟨fv132, ft132, fm132⟩ := hRR 132 _ 245 rfl rfl (by kernel_rfl)
        replace fm132 : fv132 = Value.bool true := fm132
        subst fm132
        replace hKK : ∀ v w', Go.RowKit.Below W.heap.size W w' → v = Value.bool true → KK (Act.put fa _ v) w' := fun v w' h1 h2 => hKK v w' h1 h2
        clear hSame hRR
        rw [wanted_guard rfl rfl rfl ft132]
        first | rw [if_pos (by rfl)] | rw [if_neg (by decide)]
        go_simp
        refine hKK _ _ ?_ ?_
        · first | exact Below.refl _ _ | exact (Below.refl _ _).alloc (Nat.le_refl _) _ | exact below_draw _ _ | assumption
        · exact rfl
      refine Obs.cons (k' := 141) rfl ?_ ?_
      · intro fa W hW hSame hRR KK hKK
        try dsimp only at hW
        obtain ⟨fv132, ft132, fm132⟩ := hRR 132 _ 245 rfl rfl (by kernel_rfl)
        replace fm132 : fv132 = Value.bool true := fm132
        subst fm132
        obtain ⟨fv139, ft139, fm139⟩ := hRR 139 _ 252 rfl rfl (by kernel_rfl)
        replace fm139 : fv139 = Value.bool true := fm139
        subst fm139
        replace hKK : ∀ v w', Go.RowKit.Below W.heap.size W w' → v = Value.bool true → KK (Act.put fa _ v) w' := fun v w' h1 h2 => hKK v w' h1 h2
        clear hSame hRR
        rw [if_pos (wanted_plain rfl)]
        go_simp
        refine hKK _ _ ?_ ?_
        · first | exact Below.refl _ _ | exact (Below.refl _ _).alloc (Nat.le_refl _) _ | exact below_draw _ _ | assumption
        · exact rfl
      refine Obs.cons (k' := 142) rfl ?_ ?_
      · intro fa W hW hSame hRR KK hKK
        try dsimp only at hW
        obtain ⟨fv140, ft140, fm140⟩ := hRR 140 _ 253 rfl rfl (by kernel_rfl)
        replace fm140 : fv140 = Value.bool true := fm140
        subst fm140
        replace hKK : ∀ v w', Go.RowKit.Below W.heap.size W w' → v = Value.bool true → KK (Act.put fa _ v) w' := fun v w' h1 h2 => hKK v w' h1 h2
        clear hSame hRR
        rw [if_pos (wanted_plain rfl)]
        go_simp
        refine hKK _ _ ?_ ?_
        · first | exact Below.refl _ _ | exact (Below.refl _ _).alloc (Nat.le_refl _) _ | exact below_draw _ _ | assumption
        · exact rfl
      refine Obs.cons (k' := 143) rfl ?_ ?_
      · intro fa W hW hSame hRR KK hKK
        try dsimp only at hW
        obtain ⟨fv141, ft141, fm141⟩ := hRR 141 _ 254 rfl rfl (by kernel_rfl)
        replace fm141 : fv141 = Value.bool true := fm141
        subst fm141
        replace hKK : ∀ v w', Go.RowKit.Below W.heap.size W w' → (fun v W => ∃ b', v = Value.slice (some ⟨b', 0, none⟩) 3 3 ∧ FlS W v [4607182418800017408, 4611686018427387904, 4602678819172646912]) v w' → KK (Act.put fa _ v) w' := fun v w' h1 h2 => hKK v w' h1 h2
        clear hSame hRR
        rw [wanted_guard rfl rfl rfl ft141]
        first | rw [if_pos (by rfl)] | rw [if_neg (by decide)]
        go_simp
        refine hKK _ _ ?_ ?_
        · first | exact Below.refl _ _ | exact (Below.refl _ _).alloc (Nat.le_refl _) _ | exact below_draw _ _ | assumption
        · try dsimp only
          first | exact trivial | exact rfl | (first | exact ⟨_, rfl, _, _, rfl, fun _ => ⟨_, rfl, by simp, one_cell (by simp [go_sem])⟩⟩ | exact ⟨_, rfl, _, _, rfl, fun _ => ⟨_, rfl, by simp, three_cells (by simp [go_sem]) (by simp [go_sem]) (by simp [go_sem])⟩⟩)
      refine Obs.cons (k' := 144) rfl ?_ ?_
      · intro fa W hW hSame hRR KK hKK
        try dsimp only at hW
        obtain ⟨fv142, ft142, fm142⟩ := hRR 142 _ 255 rfl rfl (by kernel_rfl)
        replace fm142 : (fun v W => ∃ b', v = Value.slice (some ⟨b', 0, none⟩) 3 3 ∧ FlS W v [4607182418800017408, 4611686018427387904, 4602678819172646912]) fv142 W := fm142
        try dsimp only at fm142
        obtain ⟨_, rfl, fm142⟩ := fm142
        obtain ⟨fv141, ft141, fm141⟩ := hRR 141 _ 254 rfl rfl (by kernel_rfl)
        replace fm141 : fv141 = Value.bool true := fm141
        subst fm141
        obtain ⟨fv141, ft141, fm141⟩ := hRR 141 _ 254 rfl rfl (by kernel_rfl)
        replace fm141 : fv141 = Value.bool true := fm141
        subst fm141
        replace hKK : ∀ v w', Go.RowKit.Below W.heap.size W w' → v = Value.float FloatKind.f64 4615063718147915776 → KK (Act.put fa _ v) w' := fun v w' h1 h2 => hKK v w' h1 h2
        clear hSame hRR
        rw [wanted_guard rfl rfl rfl ft141]
        first | rw [if_pos (by rfl)] | rw [if_neg (by decide)]
        go_simp
        first
            | (go_at_call 16; refine (kind_any _ (by first | exact HQ2.out | decide) _).mono ?_; rintro e w' ⟨rfl, rfl⟩; first
                | rw [show Fl.kd (Fl.rk 9223372036854775808) = 3 by decide +kernel]
                | rw [show Fl.kd (Fl.rk 0) = 4 by decide +kernel]
                | rw [show Fl.kd (Fl.rk 13835058055282163712) = 2 by decide +kernel]
                | rw [show Fl.kd (Fl.rk 4602678819172646912) = 5 by decide +kernel])
            | (go_at_call 18; refine (same_any _ _ (by first | exact HQ2.out | decide) (by first | exact HQ2.out | decide) _).mono ?_; rintro e w' ⟨rfl, rfl⟩; first
                | rw [show Fl.sameB q q = true from by unfold Fl.sameB; simp]
                | rw [show Fl.sameB 9223372036854775808 0 = false by decide +kernel])
            | (go_at_call 20; refine (less_any _ _ (by first | exact HQ2.out | decide) (by first | exact HQ2.out | decide) _).mono ?_; rintro e w' ⟨rfl, rfl⟩; first
                | rw [show Fl.lessB 9223372036854775808 0 = true by decide +kernel]
                | rw [show Fl.lessB q 18442240474082181120 = true from by unfold Fl.lessB; rw [Fl.rk_nan2 HQ.out]; decide +kernel]
                | rw [show Fl.lessB 0 0 = false by decide +kernel])
            | (go_at_call 24; refine (real_of _ _).mono ?_; rintro e w' ⟨rfl, rfl⟩; rw [show FloatKind.f64.nearest 9007199254740993 = 4845873199050653696 by decide +kernel])
            | (go_at_call 22; first
                | ((with_reducible refine (sum_none _).mono ?_); rintro e w' ⟨rfl, rfl⟩)
                | ((with_reducible refine (sum_any _ 1 1 [9223372036854775808] _ fm136 (by decide) (by decide) (by unfold maxLen; decide) (by intro x hx; simp at hx; subst hx; decide)).mono ?_); rintro e w' ⟨r, hr, rfl, jj, hk⟩; have hb := below_of_draw hk; obtain rfl := Eqv_lit hr (by decide +kernel); rw [show Fl.csum [9223372036854775808] = 9223372036854775808 by decide +kernel])
                | ((with_reducible refine (sum_any _ 3 3 [4607182418800017408, 4611686018427387904, 4602678819172646912] _ fm142 (by decide) (by decide) (by unfold maxLen; decide) (by intro x hx; simp at hx; rcases hx with rfl | rfl | rfl <;> decide)).mono ?_); rintro e w' ⟨r, hr, rfl, jj, hk⟩; have hb := below_of_draw hk; obtain rfl := Eqv_lit hr (by decide +kernel); rw [show Fl.csum [4607182418800017408, 4611686018427387904, 4602678819172646912] = 4615063718147915776 by decide +kernel]))
        try dsimp only
        refine hKK _ _ ?_ ?_
        · first | exact Below.refl _ _ | exact (Below.refl _ _).alloc (Nat.le_refl _) _ | exact below_draw _ _ | assumption
        · exact rfl
      refine Obs.cons (k' := 145) rfl ?_ ?_
      · intro fa W hW hSame hRR KK hKK
        try dsimp only at hW
        obtain ⟨fv143, ft143, fm143⟩ := hRR 143 _ 256 rfl rfl (by kernel_rfl)
        replace fm143 : fv143 = Value.float FloatKind.f64 4615063718147915776 := fm143
        subst fm143
        obtain ⟨fv141, ft141, fm141⟩ := hRR 141 _ 254 rfl rfl (by kernel_rfl)
        replace fm141 : fv141 = Value.bool true := fm141
        subst fm141
        replace hKK : ∀ v w', Go.RowKit.Below W.heap.size W w' → v = Value.bool true → KK (Act.put fa _ v) w' := fun v w' h1 h2 => hKK v w' h1 h2
        clear hSame hRR
        rw [wanted_guard rfl rfl rfl ft141]
        first | rw [if_pos (by rfl)] | rw [if_neg (by decide)]
        go_simp
        refine hKK _ _ ?_ ?_
        · first | exact Below.refl _ _ | exact (Below.refl _ _).alloc (Nat.le_refl _) _ | exact below_draw _ _ | assumption
        · exact rfl
      refine Obs.cons (k' := 146) rfl ?_ ?_
      · intro fa W hW hSame hRR KK hKK
        try dsimp only at hW
        obtain ⟨fv141, ft141, fm141⟩ := hRR 141 _ 254 rfl rfl (by kernel_rfl)
        replace fm141 : fv141 = Value.bool true := fm141
        subst fm141
        obtain ⟨fv144, ft144, fm144⟩ := hRR 144 _ 257 rfl rfl (by kernel_rfl)
        replace fm144 : fv144 = Value.bool true := fm144
        subst fm144
        replace hKK : ∀ v w', Go.RowKit.Below W.heap.size W w' → v = Value.bool true → KK (Act.put fa _ v) w' := fun v w' h1 h2 => hKK v w' h1 h2
        clear hSame hRR
        rw [if_pos (wanted_plain rfl)]
        go_simp
        refine hKK _ _ ?_ ?_
        · first | exact Below.refl _ _ | exact (Below.refl _ _).alloc (Nat.le_refl _) _ | exact below_draw _ _ | assumption
        · exact rfl
      refine Obs.cons (k' := 147) rfl ?_ ?_
      · intro fa W hW hSame hRR KK hKK
        try dsimp only at hW
        obtain ⟨fv145, ft145, fm145⟩ := hRR 145 _ 258 rfl rfl (by kernel_rfl)
        replace fm145 : fv145 = Value.bool true := fm145
        subst fm145
        replace hKK : ∀ v w', Go.RowKit.Below W.heap.size W w' → v = Value.bool true → KK (Act.put fa _ v) w' := fun v w' h1 h2 => hKK v w' h1 h2
        clear hSame hRR
        rw [if_pos (wanted_plain rfl)]
        go_simp
        refine hKK _ _ ?_ ?_
        · first | exact Below.refl _ _ | exact (Below.refl _ _).alloc (Nat.le_refl _) _ | exact below_draw _ _ | assumption
        · exact rfl
      refine Obs.cons (k' := 148) rfl ?_ ?_
      · intro fa W hW hSame hRR KK hKK
        try dsimp only at hW
        obtain ⟨fv146, ft146, fm146⟩ := hRR 146 _ 259 rfl rfl (by kernel_rfl)
        replace fm146 : fv146 = Value.bool true := fm146
        subst fm146
        obtain ⟨fv146, ft146, fm146⟩ := hRR 146 _ 259 rfl rfl (by kernel_rfl)
        replace fm146 : fv146 = Value.bool true := fm146
        subst fm146
        replace hKK : ∀ v w', Go.RowKit.Below W.heap.size W w' → v = Value.int IntKind.i64 2 → KK (Act.put fa _ v) w' := fun v w' h1 h2 => hKK v w' h1 h2
        clear hSame hRR
        rw [wanted_guard rfl rfl rfl ft146]
        first | rw [if_pos (by rfl)] | rw [if_neg (by decide)]
        go_simp
        first
            | (go_at_call 16; refine (kind_any _ (by first | exact HQ2.out | decide) _).mono ?_; rintro e w' ⟨rfl, rfl⟩; first
                | rw [show Fl.kd (Fl.rk 9223372036854775808) = 3 by decide +kernel]
                | rw [show Fl.kd (Fl.rk 0) = 4 by decide +kernel]
                | rw [show Fl.kd (Fl.rk 13835058055282163712) = 2 by decide +kernel]
                | rw [show Fl.kd (Fl.rk 4602678819172646912) = 5 by decide +kernel])
            | (go_at_call 18; refine (same_any _ _ (by first | exact HQ2.out | decide) (by first | exact HQ2.out | decide) _).mono ?_; rintro e w' ⟨rfl, rfl⟩; first
                | rw [show Fl.sameB q q = true from by unfold Fl.sameB; simp]
                | rw [show Fl.sameB 9223372036854775808 0 = false by decide +kernel])
            | (go_at_call 20; refine (less_any _ _ (by first | exact HQ2.out | decide) (by first | exact HQ2.out | decide) _).mono ?_; rintro e w' ⟨rfl, rfl⟩; first
                | rw [show Fl.lessB 9223372036854775808 0 = true by decide +kernel]
                | rw [show Fl.lessB q 18442240474082181120 = true from by unfold Fl.lessB; rw [Fl.rk_nan2 HQ.out]; decide +kernel]
                | rw [show Fl.lessB 0 0 = false by decide +kernel])
            | (go_at_call 24; refine (real_of _ _).mono ?_; rintro e w' ⟨rfl, rfl⟩; rw [show FloatKind.f64.nearest 9007199254740993 = 4845873199050653696 by decide +kernel])
            | (go_at_call 22; first
                | ((with_reducible refine (sum_none _).mono ?_); rintro e w' ⟨rfl, rfl⟩)
                | ((with_reducible refine (sum_any _ 1 1 [9223372036854775808] _ fm136 (by decide) (by decide) (by unfold maxLen; decide) (by intro x hx; simp at hx; subst hx; decide)).mono ?_); rintro e w' ⟨r, hr, rfl, jj, hk⟩; have hb := below_of_draw hk; obtain rfl := Eqv_lit hr (by decide +kernel); rw [show Fl.csum [9223372036854775808] = 9223372036854775808 by decide +kernel])
                | ((with_reducible refine (sum_any _ 3 3 [4607182418800017408, 4611686018427387904, 4602678819172646912] _ fm142 (by decide) (by decide) (by unfold maxLen; decide) (by intro x hx; simp at hx; rcases hx with rfl | rfl | rfl <;> decide)).mono ?_); rintro e w' ⟨r, hr, rfl, jj, hk⟩; have hb := below_of_draw hk; obtain rfl := Eqv_lit hr (by decide +kernel); rw [show Fl.csum [4607182418800017408, 4611686018427387904, 4602678819172646912] = 4615063718147915776 by decide +kernel]))
        try dsimp only
        refine hKK _ _ ?_ ?_
        · first | exact Below.refl _ _ | exact (Below.refl _ _).alloc (Nat.le_refl _) _ | exact below_draw _ _ | assumption
        · exact rfl
      refine Obs.cons (k' := 149) rfl ?_ ?_
      · intro fa W hW hSame hRR KK hKK
        try dsimp only at hW
        obtain ⟨fv147, ft147, fm147⟩ := hRR 147 _ 260 rfl rfl (by kernel_rfl)
        replace fm147 : fv147 = Value.int IntKind.i64 2 := fm147
        subst fm147
        obtain ⟨fv146, ft146, fm146⟩ := hRR 146 _ 259 rfl rfl (by kernel_rfl)
        replace fm146 : fv146 = Value.bool true := fm146
        subst fm146
        replace hKK : ∀ v w', Go.RowKit.Below W.heap.size W w' → v = Value.bool true → KK (Act.put fa _ v) w' := fun v w' h1 h2 => hKK v w' h1 h2
        clear hSame hRR
        rw [wanted_guard rfl rfl rfl ft146]
        first | rw [if_pos (by rfl)] | rw [if_neg (by decide)]
        go_simp
        refine hKK _ _ ?_ ?_
        · first | exact Below.refl _ _ | exact (Below.refl _ _).alloc (Nat.le_refl _) _ | exact below_draw _ _ | assumption
        · exact rfl
      refine Obs.cons (k' := 150) rfl ?_ ?_
      · intro fa W hW hSame hRR KK hKK
        try dsimp only at hW
        obtain ⟨fv146, ft146, fm146⟩ := hRR 146 _ 259 rfl rfl (by kernel_rfl)
        replace fm146 : fv146 = Value.bool true := fm146
        subst fm146
        obtain ⟨fv148, ft148, fm148⟩ := hRR 148 _ 261 rfl rfl (by kernel_rfl)
        replace fm148 : fv148 = Value.bool true := fm148
        subst fm148
        replace hKK : ∀ v w', Go.RowKit.Below W.heap.size W w' → v = Value.bool true → KK (Act.put fa _ v) w' := fun v w' h1 h2 => hKK v w' h1 h2
        clear hSame hRR
        rw [if_pos (wanted_plain rfl)]
        go_simp
        refine hKK _ _ ?_ ?_
        · first | exact Below.refl _ _ | exact (Below.refl _ _).alloc (Nat.le_refl _) _ | exact below_draw _ _ | assumption
        · exact rfl
      refine Obs.cons (k' := 151) rfl ?_ ?_
      · intro fa W hW hSame hRR KK hKK
        try dsimp only at hW
        obtain ⟨fv149, ft149, fm149⟩ := hRR 149 _ 262 rfl rfl (by kernel_rfl)
        replace fm149 : fv149 = Value.bool true := fm149
        subst fm149
        replace hKK : ∀ v w', Go.RowKit.Below W.heap.size W w' → v = Value.bool true → KK (Act.put fa _ v) w' := fun v w' h1 h2 => hKK v w' h1 h2
        clear hSame hRR
        rw [if_pos (wanted_plain rfl)]
        go_simp
        refine hKK _ _ ?_ ?_
        · first | exact Below.refl _ _ | exact (Below.refl _ _).alloc (Nat.le_refl _) _ | exact below_draw _ _ | assumption
        · exact rfl
      refine Obs.cons (k' := 152) rfl ?_ ?_
      · intro fa W hW hSame hRR KK hKK
        try dsimp only at hW
        obtain ⟨fv150, ft150, fm150⟩ := hRR 150 _ 263 rfl rfl (by kernel_rfl)
        replace fm150 : fv150 = Value.bool true := fm150
        subst fm150
        obtain ⟨fv150, ft150, fm150⟩ := hRR 150 _ 263 rfl rfl (by kernel_rfl)
        replace fm150 : fv150 = Value.bool true := fm150
        subst fm150
        replace hKK : ∀ v w', Go.RowKit.Below W.heap.size W w' → v = Value.int IntKind.i64 5 → KK (Act.put fa _ v) w' := fun v w' h1 h2 => hKK v w' h1 h2
        clear hSame hRR
        rw [wanted_guard rfl rfl rfl ft150]
        first | rw [if_pos (by rfl)] | rw [if_neg (by decide)]
        go_simp
        first
            | (go_at_call 16; refine (kind_any _ (by first | exact HQ2.out | decide) _).mono ?_; rintro e w' ⟨rfl, rfl⟩; first
                | rw [show Fl.kd (Fl.rk 9223372036854775808) = 3 by decide +kernel]
                | rw [show Fl.kd (Fl.rk 0) = 4 by decide +kernel]
                | rw [show Fl.kd (Fl.rk 13835058055282163712) = 2 by decide +kernel]
                | rw [show Fl.kd (Fl.rk 4602678819172646912) = 5 by decide +kernel])
            | (go_at_call 18; refine (same_any _ _ (by first | exact HQ2.out | decide) (by first | exact HQ2.out | decide) _).mono ?_; rintro e w' ⟨rfl, rfl⟩; first
                | rw [show Fl.sameB q q = true from by unfold Fl.sameB; simp]
                | rw [show Fl.sameB 9223372036854775808 0 = false by decide +kernel])
            | (go_at_call 20; refine (less_any _ _ (by first | exact HQ2.out | decide) (by first | exact HQ2.out | decide) _).mono ?_; rintro e w' ⟨rfl, rfl⟩; first
                | rw [show Fl.lessB 9223372036854775808 0 = true by decide +kernel]
                | rw [show Fl.lessB q 18442240474082181120 = true from by unfold Fl.lessB; rw [Fl.rk_nan2 HQ.out]; decide +kernel]
                | rw [show Fl.lessB 0 0 = false by decide +kernel])
            | (go_at_call 24; refine (real_of _ _).mono ?_; rintro e w' ⟨rfl, rfl⟩; rw [show FloatKind.f64.nearest 9007199254740993 = 4845873199050653696 by decide +kernel])
            | (go_at_call 22; first
                | ((with_reducible refine (sum_none _).mono ?_); rintro e w' ⟨rfl, rfl⟩)
                | ((with_reducible refine (sum_any _ 1 1 [9223372036854775808] _ fm136 (by decide) (by decide) (by unfold maxLen; decide) (by intro x hx; simp at hx; subst hx; decide)).mono ?_); rintro e w' ⟨r, hr, rfl, jj, hk⟩; have hb := below_of_draw hk; obtain rfl := Eqv_lit hr (by decide +kernel); rw [show Fl.csum [9223372036854775808] = 9223372036854775808 by decide +kernel])
                | ((with_reducible refine (sum_any _ 3 3 [4607182418800017408, 4611686018427387904, 4602678819172646912] _ fm142 (by decide) (by decide) (by unfold maxLen; decide) (by intro x hx; simp at hx; rcases hx with rfl | rfl | rfl <;> decide)).mono ?_); rintro e w' ⟨r, hr, rfl, jj, hk⟩; have hb := below_of_draw hk; obtain rfl := Eqv_lit hr (by decide +kernel); rw [show Fl.csum [4607182418800017408, 4611686018427387904, 4602678819172646912] = 4615063718147915776 by decide +kernel]))
        try dsimp only
        refine hKK _ _ ?_ ?_
        · first | exact Below.refl _ _ | exact (Below.refl _ _).alloc (Nat.le_refl _) _ | exact below_draw _ _ | assumption
        · exact rfl
      refine Obs.cons (k' := 153) rfl ?_ ?_
      · intro fa W hW hSame hRR KK hKK
        try dsimp only at hW
        obtain ⟨fv151, ft151, fm151⟩ := hRR 151 _ 264 rfl rfl (by kernel_rfl)
        replace fm151 : fv151 = Value.int IntKind.i64 5 := fm151
        subst fm151
        obtain ⟨fv150, ft150, fm150⟩ := hRR 150 _ 263 rfl rfl (by kernel_rfl)
        replace fm150 : fv150 = Value.bool true := fm150
        subst fm150
        replace hKK : ∀ v w', Go.RowKit.Below W.heap.size W w' → v = Value.bool true → KK (Act.put fa _ v) w' := fun v w' h1 h2 => hKK v w' h1 h2
        clear hSame hRR
        rw [wanted_guard rfl rfl rfl ft150]
        first | rw [if_pos (by rfl)] | rw [if_neg (by decide)]
        go_simp
        refine hKK _ _ ?_ ?_
        · first | exact Below.refl _ _ | exact (Below.refl _ _).alloc (Nat.le_refl _) _ | exact below_draw _ _ | assumption
        · exact rfl
      refine Obs.cons (k' := 154) rfl ?_ ?_
      · intro fa W hW hSame hRR KK hKK
        try dsimp only at hW
        obtain ⟨fv150, ft150, fm150⟩ := hRR 150 _ 263 rfl rfl (by kernel_rfl)
        replace fm150 : fv150 = Value.bool true := fm150
        subst fm150
        obtain ⟨fv152, ft152, fm152⟩ := hRR 152 _ 265 rfl rfl (by kernel_rfl)
        replace fm152 : fv152 = Value.bool true := fm152
        subst fm152
        replace hKK : ∀ v w', Go.RowKit.Below W.heap.size W w' → v = Value.bool true → KK (Act.put fa _ v) w' := fun v w' h1 h2 => hKK v w' h1 h2
        clear hSame hRR
        rw [if_pos (wanted_plain rfl)]
        go_simp
        refine hKK _ _ ?_ ?_
        · first | exact Below.refl _ _ | exact (Below.refl _ _).alloc (Nat.le_refl _) _ | exact below_draw _ _ | assumption
        · exact rfl
      refine Obs.cons (k' := 155) rfl ?_ ?_
      · intro fa W hW hSame hRR KK hKK
        try dsimp only at hW
        obtain ⟨fv153, ft153, fm153⟩ := hRR 153 _ 266 rfl rfl (by kernel_rfl)
        replace fm153 : fv153 = Value.bool true := fm153
        subst fm153
        obtain ⟨fv153, ft153, fm153⟩ := hRR 153 _ 266 rfl rfl (by kernel_rfl)
        replace fm153 : fv153 = Value.bool true := fm153
        subst fm153
        replace hKK : ∀ v w', Go.RowKit.Below W.heap.size W w' → v = Value.bool true → KK (Act.put fa _ v) w' := fun v w' h1 h2 => hKK v w' h1 h2
        clear hSame hRR
        rw [if_pos (wanted_plain rfl)]
        go_simp
        refine hKK _ _ ?_ ?_
        · first | exact Below.refl _ _ | exact (Below.refl _ _).alloc (Nat.le_refl _) _ | exact below_draw _ _ | assumption
        · exact rfl
      exact Obs.nil
    case hlast =>
      intro fa W hW hSame hRR
      try dsimp only at hW
      obtain ⟨fv154, ft154, fm154⟩ := hRR 154 _ 0 rfl rfl
      replace fm154 : fv154 = Value.bool true := fm154
      subst fm154
      have hdf := hSame.defers
      obtain ⟨tm, df⟩ := fa
      dsimp only at hdf ft154
      subst hdf
      have BB := Lib.hid hW.1
      clear hSame hRR hW
      go_wp2_with fail
      go_ret
      exact ⟨by first | (simp [ft154]; done) | (show Ending.returned (tm.getD 0 undef) = _; rw [Array.getD_eq_getD_getElem?, ft154]; rfl), BB.out⟩
end Go.Proofs.Ytndophkojnfcaaa

