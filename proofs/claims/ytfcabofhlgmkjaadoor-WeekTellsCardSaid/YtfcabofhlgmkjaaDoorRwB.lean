/- The contracts of the reference's weeks: the first Monday, how many weeks, which may be. -/
import Derived.Test.YtfcabofhlgmkjaaDoorRwA
import Derived.Test.YtfcabofhlgmkjaaDoorRefD
import Derived.Lib.QuietBelow
set_option linter.unusedVariables false
set_option linter.unusedSimpArgs false
namespace Go.Proofs.YtfcabofhlgmkjaaDoor
open Go.RowKit Go.Sort

theorem r14 {y : Int} (h1 : -39999 ≤ y) (h2 : y ≤ 40000) : rightB y 1 4 = true := right_true.2 ⟨by omega, by omega, by omega, by simp [Cal.len]⟩
set_option maxHeartbeats 2000000 in
theorem rfirst_any (y : Int) (w : World) (h1 : -39999 ≤ y) (h2 : y ≤ 40000) :
    Calls Tryd.prog 65 #[.int .i64 y] w fun e w' => e = .returned (.int .i64 (Wk.fst y)) ∧ Below w.heap.size w w' := by
  have C : Hid (∀ W, Calls Tryd.prog 64 #[.agg #[.int .i64 y, .int .i64 1, .int .i64 4]] W fun e w' => e = .returned (.tuple #[.int .i64 (Cal.num y 1 4), .int .i64 0]) ∧ Below W.heap.size W w') := fun W => rdays_yes y 1 4 W (r14 h1 h2)
  obtain ⟨n0, n1⟩ := Cal.num_range (right_true.1 (r14 h1 h2))
  have D : Hid (∀ W, Calls Tryd.prog 118 #[.int .i64 (Cal.num y 1 4)] W fun e w' => e = .returned (.int .i64 ((Cal.num y 1 4 + 4) % 7)) ∧ Below W.heap.size W w') := fun W => (rweekday_any _ W (by omega) (by omega)).mono fun _ _ ⟨h, n, e⟩ => ⟨h, by rw [e]; exact below_draw _ _⟩
  have E := Lib.hid (show Wk.fst y = Cal.num y 1 4 - ((Cal.num y 1 4 + 4) % 7 + 6) % 7 by unfold Wk.fst Wk.dow; omega)
  generalize Wk.fst y = f at E ⊢
  generalize Cal.num y 1 4 = n at *
  have q0 : 0 ≤ (n + 4) % 7 := by omega
  have q1 : (n + 4) % 7 < 7 := by omega
  generalize (n + 4) % 7 = q at *
  have p0 : 0 ≤ (q + 6) % 7 := by omega
  have p1 : (q + 6) % 7 < 7 := by omega
  go_enter Tryd.func65, Tryd.ntmps65
  go_wp2_with fail
  refine (C.out _).mono ?_; rintro e w1 ⟨rfl, b1⟩
  have d1 : Below w.heap.size w w1 := below_step (by repeat (first | exact Below.refl _ _ | refine below_drewN ?_ _ | refine Below.drew ?_ | refine Below.setCell ?_ (by first | (simp; done) | (simp; omega) | omega) _ | refine Below.alloc ?_ (by first | (simp; done) | (simp; omega) | omega) _)) b1
  have B1 := Lib.hid d1
  clear b1 d1
  go_wp2_with fail
  refine (D.out _).mono ?_; rintro e w2 ⟨rfl, b2⟩
  have d2 : Below w1.heap.size w1 w2 := below_step (by repeat (first | exact Below.refl _ _ | refine below_drewN ?_ _ | refine Below.drew ?_ | refine Below.setCell ?_ (by first | (simp; done) | (simp; omega) | omega) _ | refine Below.alloc ?_ (by first | (simp; done) | (simp; omega) | omega) _)) b2
  have B2 := Lib.hid (below_step B1.out d2)
  clear b2 d2 B1
  go_wp2_with fail
  go_ret
  exact ⟨by rw [E.out]; rfl, B2.out⟩
set_option maxHeartbeats 2000000 in
theorem rweeks_any (y : Int) (w : World) :
    Calls Tryd.prog 17 #[.int .i64 y] w fun e w' => e = .returned (.int .i64 (Wk.wks y)) ∧ Below w.heap.size w w' := by
  by_cases c0 : y < -39999
  · have E := Lib.hid (show Wk.wks y = 0 by unfold Wk.wks; rw [if_pos (.inl c0)])
    go_enter Tryd.func17, Tryd.ntmps17
    go_wp2_with fail
    go_ret
    refine ⟨by rw [E.out]; rfl, ?_⟩
    exact (by repeat (first | exact Below.refl _ _ | refine below_drewN ?_ _ | refine Below.drew ?_ | refine Below.setCell ?_ (by first | (simp; done) | (simp; omega) | omega) _ | refine Below.alloc ?_ (by first | (simp; done) | (simp; omega) | omega) _))
  · by_cases c1 : 39999 < y
    · have E := Lib.hid (show Wk.wks y = 0 by unfold Wk.wks; rw [if_pos (.inr c1)])
      go_enter Tryd.func17, Tryd.ntmps17
      go_wp2_with fail
      go_ret
      refine ⟨by rw [E.out]; rfl, ?_⟩
      exact (by repeat (first | exact Below.refl _ _ | refine below_drewN ?_ _ | refine Below.drew ?_ | refine Below.setCell ?_ (by first | (simp; done) | (simp; omega) | omega) _ | refine Below.alloc ?_ (by first | (simp; done) | (simp; omega) | omega) _))
    · have C1 := Lib.hid (fun W => rfirst_any (y + 1) W (by omega) (by omega))
      have C0 := Lib.hid (fun W => rfirst_any y W (by omega) (by omega))
      obtain ⟨f0, f1⟩ := Wk.fst_range (y := y) (by omega) (by omega)
      have S := Wk.fst_succ (y := y) (by omega) (by omega)
      have ww := (Wk.wks_is (y := y) (by omega) (by omega)).1
      have E := Lib.hid (show (Wk.fst (y + 1) - Wk.fst y) / 7 = Wk.wks y by omega)
      have g0 : 0 ≤ Wk.fst (y + 1) - Wk.fst y := by omega
      have g1 : Wk.fst (y + 1) - Wk.fst y ≤ 400 := by omega
      generalize Wk.fst (y + 1) = a at *
      generalize Wk.fst y = b at *
      generalize Wk.wks y = k at *
      clear S ww
      go_enter Tryd.func17, Tryd.ntmps17
      go_wp2_with fail
      refine (C1.out _).mono ?_; rintro e w1 ⟨rfl, b1⟩
      have d1 : Below w.heap.size w w1 := below_step (by repeat (first | exact Below.refl _ _ | refine below_drewN ?_ _ | refine Below.drew ?_ | refine Below.setCell ?_ (by first | (simp; done) | (simp; omega) | omega) _ | refine Below.alloc ?_ (by first | (simp; done) | (simp; omega) | omega) _)) b1
      have B1 := Lib.hid d1
      clear b1 d1
      go_wp2_with fail
      refine (C0.out _).mono ?_; rintro e w2 ⟨rfl, b2⟩
      have d2 : Below w1.heap.size w1 w2 := below_step (by repeat (first | exact Below.refl _ _ | refine below_drewN ?_ _ | refine Below.drew ?_ | refine Below.setCell ?_ (by first | (simp; done) | (simp; omega) | omega) _ | refine Below.alloc ?_ (by first | (simp; done) | (simp; omega) | omega) _)) b2
      have B2 := Lib.hid (below_step B1.out d2)
      clear b2 d2 B1
      go_wp2_with fail
      go_ret
      exact ⟨by rw [← E.out]; rfl, B2.out⟩
set_option maxHeartbeats 2000000 in
theorem rwright_any (y k d : Int) (w : World) :
    Calls Tryd.prog 19 #[.agg #[.int .i64 y, .int .i64 k, .int .i64 d]] w fun e w' => e = .returned (.bool (Wk.rB y k d)) ∧ Below w.heap.size w w' := by
  have hK := fun W => rweeks_any y W
  generalize hks : Wk.wks y = ks at hK
  by_cases c1 : 1 ≤ k
  · by_cases c2 : k ≤ ks
    · by_cases c3 : 1 ≤ d
      · by_cases c4 : d ≤ 7
        · have E := Lib.hid (show Wk.rB y k d = true by unfold Wk.rB; rw [hks]; simp [c1, c2, c3, c4])
          clear hks
          go_enter Tryd.func19, Tryd.ntmps19
          go_wp2_with fail
          refine wp_named ?_; intro w1 hw1
          have d1 : Below w.heap.size w w1 := by rw [hw1]; exact (by repeat (first | exact Below.refl _ _ | refine below_drewN ?_ _ | refine Below.drew ?_ | refine Below.setCell ?_ (by first | (simp; done) | (simp; omega) | omega) _ | refine Below.alloc ?_ (by first | (simp; done) | (simp; omega) | omega) _))
          have B1 := Lib.hid d1
          have A1 : Bk3 w1 (w.heap.size) (.int .i64 y) (.int .i64 k) (.int .i64 d) := by rw [hw1]; exact ⟨by simp <;> omega, by intro j; simp [go_sem], by simp [go_sem], by simp [go_sem], by simp [go_sem]⟩
          clear d1 hw1
          have qA_0 := cell_regrown A1.k0
          have qA_1 := cell_regrown A1.k1
          have qA_2 := cell_regrown A1.k2
          refine wp_region_qb (w := w1) (by kernel_rfl) (by kernel_rfl) (by repeat (first | exact Below.refl _ _ | refine below_drewN ?_ _ | refine Below.drew ?_ | refine Below.setCell ?_ (by first | (simp; done) | (simp; omega) | omega) _ | refine Below.alloc ?_ (by first | (simp; done) | (simp; omega) | omega) _)) ?_
          repeat (any_goals (first | go_big_quiet_step (first | (go_at_call 17; exact Calls.regrown_of (hK _))) | quiet_step (first | (go_at_call 17; exact Calls.regrown_of (hK _)))))
          refine wpQuiet_nil ?_
          intro w2 hq
          have b2 : Below w1.heap.size w1 w2 := by obtain ⟨p, hq⟩ := hq; rw [hq]; exact below_regrown _ _ _
          clear hq qA_0 qA_1 qA_2
          have d2 : Below w1.heap.size w1 w2 := below_step (by repeat (first | exact Below.refl _ _ | refine below_drewN ?_ _ | refine Below.drew ?_ | refine Below.setCell ?_ (by first | (simp; done) | (simp; omega) | omega) _ | refine Below.alloc ?_ (by first | (simp; done) | (simp; omega) | omega) _)) b2
          have B2 := Lib.hid (below_step B1.out d2)
          have A2 := A1.keep d2
          clear A1 b2 d2 B1
          have cA_b := A2.hb
          have cA_f := A2.fz
          have cA_0 := A2.k0
          have cA_1 := A2.k1
          have cA_2 := A2.k2
          go_wp2_with fail
          clear cA_b cA_f cA_0 cA_1 cA_2
          go_ret
          rw [E.out]
          refine ⟨rfl, ?_⟩
          exact (by have hz := B2.out.size; repeat (first | exact B2.out | refine below_drewN ?_ _ | refine Below.drew ?_ | refine Below.setCell ?_ (by first | omega | (simp; done) | (simp; omega)) _ | refine Below.alloc ?_ (by first | omega | (simp; done) | (simp; omega)) _))
        · have E := Lib.hid (show Wk.rB y k d = false by unfold Wk.rB; rw [hks]; simp [c1, c2, c3, c4])
          have g : decide (d ≤ 7) = false := decide_eq_false c4
          clear hks c4
          go_enter Tryd.func19, Tryd.ntmps19
          go_wp2_with fail
          refine wp_named ?_; intro w1 hw1
          have d1 : Below w.heap.size w w1 := by rw [hw1]; exact (by repeat (first | exact Below.refl _ _ | refine below_drewN ?_ _ | refine Below.drew ?_ | refine Below.setCell ?_ (by first | (simp; done) | (simp; omega) | omega) _ | refine Below.alloc ?_ (by first | (simp; done) | (simp; omega) | omega) _))
          have B1 := Lib.hid d1
          have A1 : Bk3 w1 (w.heap.size) (.int .i64 y) (.int .i64 k) (.int .i64 d) := by rw [hw1]; exact ⟨by simp <;> omega, by intro j; simp [go_sem], by simp [go_sem], by simp [go_sem], by simp [go_sem]⟩
          clear d1 hw1
          have qA_0 := cell_regrown A1.k0
          have qA_1 := cell_regrown A1.k1
          have qA_2 := cell_regrown A1.k2
          refine wp_region_qb (w := w1) (by kernel_rfl) (by kernel_rfl) (by repeat (first | exact Below.refl _ _ | refine below_drewN ?_ _ | refine Below.drew ?_ | refine Below.setCell ?_ (by first | (simp; done) | (simp; omega) | omega) _ | refine Below.alloc ?_ (by first | (simp; done) | (simp; omega) | omega) _)) ?_
          repeat (any_goals (first | go_big_quiet_step (first | (go_at_call 17; exact Calls.regrown_of (hK _))) | quiet_step (first | (go_at_call 17; exact Calls.regrown_of (hK _)))))
          refine wpQuiet_nil ?_
          intro w2 hq
          have b2 : Below w1.heap.size w1 w2 := by obtain ⟨p, hq⟩ := hq; rw [hq]; exact below_regrown _ _ _
          clear hq qA_0 qA_1 qA_2
          have d2 : Below w1.heap.size w1 w2 := below_step (by repeat (first | exact Below.refl _ _ | refine below_drewN ?_ _ | refine Below.drew ?_ | refine Below.setCell ?_ (by first | (simp; done) | (simp; omega) | omega) _ | refine Below.alloc ?_ (by first | (simp; done) | (simp; omega) | omega) _)) b2
          have B2 := Lib.hid (below_step B1.out d2)
          have A2 := A1.keep d2
          clear A1 b2 d2 B1
          have cA_b := A2.hb
          have cA_f := A2.fz
          have cA_0 := A2.k0
          have cA_1 := A2.k1
          have cA_2 := A2.k2
          go_wp2_with fail
          clear cA_b cA_f cA_0 cA_1 cA_2
          go_ret
          rw [E.out]
          refine ⟨rfl, ?_⟩
          exact (by have hz := B2.out.size; repeat (first | exact B2.out | refine below_drewN ?_ _ | refine Below.drew ?_ | refine Below.setCell ?_ (by first | omega | (simp; done) | (simp; omega)) _ | refine Below.alloc ?_ (by first | omega | (simp; done) | (simp; omega)) _))
      · have E := Lib.hid (show Wk.rB y k d = false by unfold Wk.rB; rw [hks]; simp [c1, c2, c3])
        have g : decide (1 ≤ d) = false := decide_eq_false c3
        clear hks c3
        go_enter Tryd.func19, Tryd.ntmps19
        go_wp2_with fail
        refine wp_named ?_; intro w1 hw1
        have d1 : Below w.heap.size w w1 := by rw [hw1]; exact (by repeat (first | exact Below.refl _ _ | refine below_drewN ?_ _ | refine Below.drew ?_ | refine Below.setCell ?_ (by first | (simp; done) | (simp; omega) | omega) _ | refine Below.alloc ?_ (by first | (simp; done) | (simp; omega) | omega) _))
        have B1 := Lib.hid d1
        have A1 : Bk3 w1 (w.heap.size) (.int .i64 y) (.int .i64 k) (.int .i64 d) := by rw [hw1]; exact ⟨by simp <;> omega, by intro j; simp [go_sem], by simp [go_sem], by simp [go_sem], by simp [go_sem]⟩
        clear d1 hw1
        have qA_0 := cell_regrown A1.k0
        have qA_1 := cell_regrown A1.k1
        have qA_2 := cell_regrown A1.k2
        refine wp_region_qb (w := w1) (by kernel_rfl) (by kernel_rfl) (by repeat (first | exact Below.refl _ _ | refine below_drewN ?_ _ | refine Below.drew ?_ | refine Below.setCell ?_ (by first | (simp; done) | (simp; omega) | omega) _ | refine Below.alloc ?_ (by first | (simp; done) | (simp; omega) | omega) _)) ?_
        repeat (any_goals (first | go_big_quiet_step (first | (go_at_call 17; exact Calls.regrown_of (hK _))) | quiet_step (first | (go_at_call 17; exact Calls.regrown_of (hK _)))))
        refine wpQuiet_nil ?_
        intro w2 hq
        have b2 : Below w1.heap.size w1 w2 := by obtain ⟨p, hq⟩ := hq; rw [hq]; exact below_regrown _ _ _
        clear hq qA_0 qA_1 qA_2
        have d2 : Below w1.heap.size w1 w2 := below_step (by repeat (first | exact Below.refl _ _ | refine below_drewN ?_ _ | refine Below.drew ?_ | refine Below.setCell ?_ (by first | (simp; done) | (simp; omega) | omega) _ | refine Below.alloc ?_ (by first | (simp; done) | (simp; omega) | omega) _)) b2
        have B2 := Lib.hid (below_step B1.out d2)
        have A2 := A1.keep d2
        clear A1 b2 d2 B1
        have cA_b := A2.hb
        have cA_f := A2.fz
        have cA_0 := A2.k0
        have cA_1 := A2.k1
        have cA_2 := A2.k2
        go_wp2_with fail
        clear cA_b cA_f cA_0 cA_1 cA_2
        go_ret
        rw [E.out]
        refine ⟨rfl, ?_⟩
        exact (by have hz := B2.out.size; repeat (first | exact B2.out | refine below_drewN ?_ _ | refine Below.drew ?_ | refine Below.setCell ?_ (by first | omega | (simp; done) | (simp; omega)) _ | refine Below.alloc ?_ (by first | omega | (simp; done) | (simp; omega)) _))
    · have E := Lib.hid (show Wk.rB y k d = false by unfold Wk.rB; rw [hks]; simp [c1, c2])
      have g : decide (k ≤ ks) = false := decide_eq_false c2
      clear hks c2
      go_enter Tryd.func19, Tryd.ntmps19
      go_wp2_with fail
      refine wp_named ?_; intro w1 hw1
      have d1 : Below w.heap.size w w1 := by rw [hw1]; exact (by repeat (first | exact Below.refl _ _ | refine below_drewN ?_ _ | refine Below.drew ?_ | refine Below.setCell ?_ (by first | (simp; done) | (simp; omega) | omega) _ | refine Below.alloc ?_ (by first | (simp; done) | (simp; omega) | omega) _))
      have B1 := Lib.hid d1
      have A1 : Bk3 w1 (w.heap.size) (.int .i64 y) (.int .i64 k) (.int .i64 d) := by rw [hw1]; exact ⟨by simp <;> omega, by intro j; simp [go_sem], by simp [go_sem], by simp [go_sem], by simp [go_sem]⟩
      clear d1 hw1
      have qA_0 := cell_regrown A1.k0
      have qA_1 := cell_regrown A1.k1
      have qA_2 := cell_regrown A1.k2
      refine wp_region_qb (w := w1) (by kernel_rfl) (by kernel_rfl) (by repeat (first | exact Below.refl _ _ | refine below_drewN ?_ _ | refine Below.drew ?_ | refine Below.setCell ?_ (by first | (simp; done) | (simp; omega) | omega) _ | refine Below.alloc ?_ (by first | (simp; done) | (simp; omega) | omega) _)) ?_
      repeat (any_goals (first | go_big_quiet_step (first | (go_at_call 17; exact Calls.regrown_of (hK _))) | quiet_step (first | (go_at_call 17; exact Calls.regrown_of (hK _)))))
      refine wpQuiet_nil ?_
      intro w2 hq
      have b2 : Below w1.heap.size w1 w2 := by obtain ⟨p, hq⟩ := hq; rw [hq]; exact below_regrown _ _ _
      clear hq qA_0 qA_1 qA_2
      have d2 : Below w1.heap.size w1 w2 := below_step (by repeat (first | exact Below.refl _ _ | refine below_drewN ?_ _ | refine Below.drew ?_ | refine Below.setCell ?_ (by first | (simp; done) | (simp; omega) | omega) _ | refine Below.alloc ?_ (by first | (simp; done) | (simp; omega) | omega) _)) b2
      have B2 := Lib.hid (below_step B1.out d2)
      have A2 := A1.keep d2
      clear A1 b2 d2 B1
      have cA_b := A2.hb
      have cA_f := A2.fz
      have cA_0 := A2.k0
      have cA_1 := A2.k1
      have cA_2 := A2.k2
      go_wp2_with fail
      clear cA_b cA_f cA_0 cA_1 cA_2
      go_ret
      rw [E.out]
      refine ⟨rfl, ?_⟩
      exact (by have hz := B2.out.size; repeat (first | exact B2.out | refine below_drewN ?_ _ | refine Below.drew ?_ | refine Below.setCell ?_ (by first | omega | (simp; done) | (simp; omega)) _ | refine Below.alloc ?_ (by first | omega | (simp; done) | (simp; omega)) _))
  · have E := Lib.hid (show Wk.rB y k d = false by unfold Wk.rB; simp [c1])
    have g : decide (1 ≤ k) = false := decide_eq_false c1
    clear hks c1
    go_enter Tryd.func19, Tryd.ntmps19
    go_wp2_with fail
    refine wp_named ?_; intro w1 hw1
    have d1 : Below w.heap.size w w1 := by rw [hw1]; exact (by repeat (first | exact Below.refl _ _ | refine below_drewN ?_ _ | refine Below.drew ?_ | refine Below.setCell ?_ (by first | (simp; done) | (simp; omega) | omega) _ | refine Below.alloc ?_ (by first | (simp; done) | (simp; omega) | omega) _))
    have B1 := Lib.hid d1
    have A1 : Bk3 w1 (w.heap.size) (.int .i64 y) (.int .i64 k) (.int .i64 d) := by rw [hw1]; exact ⟨by simp <;> omega, by intro j; simp [go_sem], by simp [go_sem], by simp [go_sem], by simp [go_sem]⟩
    clear d1 hw1
    have qA_0 := cell_regrown A1.k0
    have qA_1 := cell_regrown A1.k1
    have qA_2 := cell_regrown A1.k2
    refine wp_region_qb (w := w1) (by kernel_rfl) (by kernel_rfl) (by repeat (first | exact Below.refl _ _ | refine below_drewN ?_ _ | refine Below.drew ?_ | refine Below.setCell ?_ (by first | (simp; done) | (simp; omega) | omega) _ | refine Below.alloc ?_ (by first | (simp; done) | (simp; omega) | omega) _)) ?_
    repeat (any_goals (first | go_big_quiet_step (first | (go_at_call 17; exact Calls.regrown_of (hK _))) | quiet_step (first | (go_at_call 17; exact Calls.regrown_of (hK _)))))
    refine wpQuiet_nil ?_
    intro w2 hq
    have b2 : Below w1.heap.size w1 w2 := by obtain ⟨p, hq⟩ := hq; rw [hq]; exact below_regrown _ _ _
    clear hq qA_0 qA_1 qA_2
    have d2 : Below w1.heap.size w1 w2 := below_step (by repeat (first | exact Below.refl _ _ | refine below_drewN ?_ _ | refine Below.drew ?_ | refine Below.setCell ?_ (by first | (simp; done) | (simp; omega) | omega) _ | refine Below.alloc ?_ (by first | (simp; done) | (simp; omega) | omega) _)) b2
    have B2 := Lib.hid (below_step B1.out d2)
    have A2 := A1.keep d2
    clear A1 b2 d2 B1
    have cA_b := A2.hb
    have cA_f := A2.fz
    have cA_0 := A2.k0
    have cA_1 := A2.k1
    have cA_2 := A2.k2
    go_wp2_with fail
    clear cA_b cA_f cA_0 cA_1 cA_2
    go_ret
    rw [E.out]
    refine ⟨rfl, ?_⟩
    exact (by have hz := B2.out.size; repeat (first | exact B2.out | refine below_drewN ?_ _ | refine Below.drew ?_ | refine Below.setCell ?_ (by first | omega | (simp; done) | (simp; omega)) _ | refine Below.alloc ?_ (by first | omega | (simp; done) | (simp; omega)) _))
end Go.Proofs.YtfcabofhlgmkjaaDoor

