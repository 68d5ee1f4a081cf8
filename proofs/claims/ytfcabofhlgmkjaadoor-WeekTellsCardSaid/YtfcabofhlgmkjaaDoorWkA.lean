/- Weeks of days: plain arithmetic, and the contracts of week.dayOf, Weeks, Right. -/
import Derived.Test.YtfcabofhlgmkjaaDoorCivT
import Derived.Test.YtfcabofhlgmkjaaDoorBk
import Derived.Lib.SmallJoins
set_option linter.unusedVariables false
set_option linter.unusedSimpArgs false
namespace Go.Proofs.YtfcabofhlgmkjaaDoor
open Go.RowKit Go.Sort

namespace Wk
/-- Monday 1 .. Sunday 7. -/
def dow (n : Int) : Int := (n + 3) % 7 + 1
theorem dow_bd (n : Int) : 1 ≤ dow n ∧ dow n ≤ 7 := by unfold dow; omega
def wks (y : Int) : Int := if y < -39999 ∨ 39999 < y then 0 else if dow (Cal.num y 1 1) = 4 ∨ dow (Cal.num y 12 31) = 4 then 53 else 52
theorem r11 {y : Int} (h1 : -39999 ≤ y) (h2 : y ≤ 39999) : rightB y 1 1 = true := right_true.2 ⟨by omega, by omega, by omega, by simp [Cal.len]⟩
theorem r1231 {y : Int} (h1 : -39999 ≤ y) (h2 : y ≤ 39999) : rightB y 12 31 = true := right_true.2 ⟨by omega, by omega, by omega, by simp [Cal.len]⟩
end Wk

set_option maxHeartbeats 1000000 in
theorem dayOf_any (n : Int) (w : World) (ha : -9223372036854775808 ≤ n) (ha' : n ≤ 9223372036854775807) :
    Calls Tryd.prog 61 #[.int .i64 n] w fun e w' => e = .returned (.int .i64 (Wk.dow n)) ∧ Below w.heap.size w w' := by
  go_enter Tryd.func61, Tryd.ntmps61
  go_wp2_with fail
  refine (weekday_b n _ ha ha').mono ?_; rintro e w1 ⟨rfl, b1⟩
  have d1 : Below w.heap.size w w1 := below_step (by repeat (first | exact Below.refl _ _ | refine below_drewN ?_ _ | refine Below.drew ?_ | refine Below.setCell ?_ (by first | (simp; done) | (simp; omega) | omega) _ | refine Below.alloc ?_ (by first | (simp; done) | (simp; omega) | omega) _)) b1
  have B1 := Lib.hid d1
  clear b1 d1
  have q0 : 0 ≤ (n + 4) % 7 := by omega
  have q1 : (n + 4) % 7 < 7 := by omega
  have qe : Wk.dow n = ((n + 4) % 7 + 7 - 1) % 7 + 1 := by unfold Wk.dow; omega
  generalize (n + 4) % 7 = q at q0 q1 qe ⊢
  go_wp2_with fail
  go_ret
  rw [qe]
  refine ⟨ret_int ?_, ?_⟩
  · omega
  · exact B1.out

set_option maxHeartbeats 1000000 in
theorem weeks_out (y : Int) (w : World) (h : y < -39999 ∨ 39999 < y) :
    Calls Tryd.prog 16 #[.int .i64 y] w fun e w' => e = .returned (.int .i64 0) ∧ Below w.heap.size w w' := by
  have h' : y < -39999 ∨ (¬ y < -39999 ∧ 39999 < y) := by omega
  clear h
  rcases h' with h1 | ⟨h1, h2⟩
  all_goals
    go_enter Tryd.func16, Tryd.ntmps16
    go_wp2_with fail
    go_ret
    exact ⟨rfl, (by repeat (first | exact Below.refl _ _ | refine below_drewN ?_ _ | refine Below.drew ?_ | refine Below.setCell ?_ (by first | (simp; done) | (simp; omega) | omega) _ | refine Below.alloc ?_ (by first | (simp; done) | (simp; omega) | omega) _))⟩
set_option maxHeartbeats 2000000 in
theorem weeks_a (y : Int) (w : World) (h1 : ¬ y < -39999) (h2 : ¬ 39999 < y) (k1 : Wk.dow (Cal.num y 1 1) = 4) :
    Calls Tryd.prog 16 #[.int .i64 y] w fun e w' => e = .returned (.int .i64 53) ∧ Below w.heap.size w w' := by
  have R1 := Wk.r11 (show -39999 ≤ y by omega) (show y ≤ 39999 by omega)
  have b1 := Cal.num_range (right_true.1 R1)
  have K1 := Lib.hid k1; clear k1
  have ix0 : ∀ a b c d e f w, Sem.run Tryd.prog (Instr.index 83 (.agg #[a, b, c, d, e, f]) (.int .i64 0)) w = .ok (.agg #[a, b, c]) w := fun _ _ _ _ _ _ _ => by kernel_rfl
  go_enter Tryd.func16, Tryd.ntmps16
  go_wp2_with fail
  refine wp_loop_rounds 3 ?_
  rw [rounds_succ]
  go_wp2_with fail
  refine (days_yes y 1 1 _ R1).mono ?_; rintro e w1 ⟨rfl, b1⟩
  have d1 : Below w.heap.size w w1 := below_step (by repeat (first | exact Below.refl _ _ | refine below_drewN ?_ _ | refine Below.drew ?_ | refine Below.setCell ?_ (by first | (simp; done) | (simp; omega) | omega) _ | refine Below.alloc ?_ (by first | (simp; done) | (simp; omega) | omega) _)) b1
  have B1 := Lib.hid d1
  clear b1 d1
  go_wp2_with fail
  refine (dayOf_any (Cal.num y 1 1) _ (by omega) (by omega)).mono ?_; rintro e w2 ⟨rfl, b2⟩
  have d2 : Below w1.heap.size w1 w2 := below_step (by repeat (first | exact Below.refl _ _ | refine below_drewN ?_ _ | refine Below.drew ?_ | refine Below.setCell ?_ (by first | (simp; done) | (simp; omega) | omega) _ | refine Below.alloc ?_ (by first | (simp; done) | (simp; omega) | omega) _)) b2
  have B2 := Lib.hid (below_step B1.out d2)
  clear b2 d2 B1
  rw [K1.out]
  go_wp2_with fail
  go_ret
  exact ⟨rfl, (by have hz := B2.out.size; repeat (first | exact B2.out | refine below_drewN ?_ _ | refine Below.drew ?_ | refine Below.setCell ?_ (by first | omega | (simp; done) | (simp; omega)) _ | refine Below.alloc ?_ (by first | omega | (simp; done) | (simp; omega)) _))⟩
set_option maxHeartbeats 2000000 in
theorem weeks_b (y : Int) (w : World) (h1 : ¬ y < -39999) (h2 : ¬ 39999 < y) (k1 : ¬ Wk.dow (Cal.num y 1 1) = 4) (k2 : Wk.dow (Cal.num y 12 31) = 4) :
    Calls Tryd.prog 16 #[.int .i64 y] w fun e w' => e = .returned (.int .i64 53) ∧ Below w.heap.size w w' := by
  have R1 := Wk.r11 (show -39999 ≤ y by omega) (show y ≤ 39999 by omega)
  have b1 := Cal.num_range (right_true.1 R1)
  have R2 := Wk.r1231 (show -39999 ≤ y by omega) (show y ≤ 39999 by omega)
  have b2 := Cal.num_range (right_true.1 R2)
  have K1 := Lib.hid k1; have K2 := Lib.hid k2; clear k1 k2
  have ix0 : ∀ a b c d e f w, Sem.run Tryd.prog (Instr.index 83 (.agg #[a, b, c, d, e, f]) (.int .i64 0)) w = .ok (.agg #[a, b, c]) w := fun _ _ _ _ _ _ _ => by kernel_rfl
  have ix1 : ∀ a b c d e f w, Sem.run Tryd.prog (Instr.index 83 (.agg #[a, b, c, d, e, f]) (.int .i64 1)) w = .ok (.agg #[d, e, f]) w := fun _ _ _ _ _ _ _ => by kernel_rfl
  go_enter Tryd.func16, Tryd.ntmps16
  go_wp2_with fail
  refine wp_loop_rounds 3 ?_
  rw [rounds_succ]
  go_wp2_with fail
  refine (days_yes y 1 1 _ R1).mono ?_; rintro e w1 ⟨rfl, b1⟩
  have d1 : Below w.heap.size w w1 := below_step (by repeat (first | exact Below.refl _ _ | refine below_drewN ?_ _ | refine Below.drew ?_ | refine Below.setCell ?_ (by first | (simp; done) | (simp; omega) | omega) _ | refine Below.alloc ?_ (by first | (simp; done) | (simp; omega) | omega) _)) b1
  have B1 := Lib.hid d1
  clear b1 d1
  go_wp2_with fail
  refine (dayOf_any (Cal.num y 1 1) _ (by omega) (by omega)).mono ?_; rintro e w2 ⟨rfl, b2⟩
  have d2 : Below w1.heap.size w1 w2 := below_step (by repeat (first | exact Below.refl _ _ | refine below_drewN ?_ _ | refine Below.drew ?_ | refine Below.setCell ?_ (by first | (simp; done) | (simp; omega) | omega) _ | refine Below.alloc ?_ (by first | (simp; done) | (simp; omega) | omega) _)) b2
  have B2 := Lib.hid (below_step B1.out d2)
  clear b2 d2 B1
  have lc := K1.out
  go_wp2_with fail
  clear lc
  rw [rounds_succ]
  go_wp2_with fail
  refine (days_yes y 12 31 _ R2).mono ?_; rintro e w3 ⟨rfl, b3⟩
  have d3 : Below w2.heap.size w2 w3 := below_step (by repeat (first | exact Below.refl _ _ | refine below_drewN ?_ _ | refine Below.drew ?_ | refine Below.setCell ?_ (by first | (simp; done) | (simp; omega) | omega) _ | refine Below.alloc ?_ (by first | (simp; done) | (simp; omega) | omega) _)) b3
  have B3 := Lib.hid (below_step B2.out d3)
  clear b3 d3 B2
  go_wp2_with fail
  refine (dayOf_any (Cal.num y 12 31) _ (by omega) (by omega)).mono ?_; rintro e w4 ⟨rfl, b4⟩
  have d4 : Below w3.heap.size w3 w4 := below_step (by repeat (first | exact Below.refl _ _ | refine below_drewN ?_ _ | refine Below.drew ?_ | refine Below.setCell ?_ (by first | (simp; done) | (simp; omega) | omega) _ | refine Below.alloc ?_ (by first | (simp; done) | (simp; omega) | omega) _)) b4
  have B4 := Lib.hid (below_step B3.out d4)
  clear b4 d4 B3
  rw [K2.out]
  skip
  go_wp2_with fail
  go_ret
  exact ⟨rfl, (by have hz := B4.out.size; repeat (first | exact B4.out | refine below_drewN ?_ _ | refine Below.drew ?_ | refine Below.setCell ?_ (by first | omega | (simp; done) | (simp; omega)) _ | refine Below.alloc ?_ (by first | omega | (simp; done) | (simp; omega)) _))⟩
set_option maxHeartbeats 2000000 in
theorem weeks_c (y : Int) (w : World) (h1 : ¬ y < -39999) (h2 : ¬ 39999 < y) (k1 : ¬ Wk.dow (Cal.num y 1 1) = 4) (k2 : ¬ Wk.dow (Cal.num y 12 31) = 4) :
    Calls Tryd.prog 16 #[.int .i64 y] w fun e w' => e = .returned (.int .i64 52) ∧ Below w.heap.size w w' := by
  have R1 := Wk.r11 (show -39999 ≤ y by omega) (show y ≤ 39999 by omega)
  have b1 := Cal.num_range (right_true.1 R1)
  have R2 := Wk.r1231 (show -39999 ≤ y by omega) (show y ≤ 39999 by omega)
  have b2 := Cal.num_range (right_true.1 R2)
  have K1 := Lib.hid k1; have K2 := Lib.hid k2; clear k1 k2
  have ix0 : ∀ a b c d e f w, Sem.run Tryd.prog (Instr.index 83 (.agg #[a, b, c, d, e, f]) (.int .i64 0)) w = .ok (.agg #[a, b, c]) w := fun _ _ _ _ _ _ _ => by kernel_rfl
  have ix1 : ∀ a b c d e f w, Sem.run Tryd.prog (Instr.index 83 (.agg #[a, b, c, d, e, f]) (.int .i64 1)) w = .ok (.agg #[d, e, f]) w := fun _ _ _ _ _ _ _ => by kernel_rfl
  go_enter Tryd.func16, Tryd.ntmps16
  go_wp2_with fail
  refine wp_loop_rounds 3 ?_
  rw [rounds_succ]
  go_wp2_with fail
  refine (days_yes y 1 1 _ R1).mono ?_; rintro e w1 ⟨rfl, b1⟩
  have d1 : Below w.heap.size w w1 := below_step (by repeat (first | exact Below.refl _ _ | refine below_drewN ?_ _ | refine Below.drew ?_ | refine Below.setCell ?_ (by first | (simp; done) | (simp; omega) | omega) _ | refine Below.alloc ?_ (by first | (simp; done) | (simp; omega) | omega) _)) b1
  have B1 := Lib.hid d1
  clear b1 d1
  go_wp2_with fail
  refine (dayOf_any (Cal.num y 1 1) _ (by omega) (by omega)).mono ?_; rintro e w2 ⟨rfl, b2⟩
  have d2 : Below w1.heap.size w1 w2 := below_step (by repeat (first | exact Below.refl _ _ | refine below_drewN ?_ _ | refine Below.drew ?_ | refine Below.setCell ?_ (by first | (simp; done) | (simp; omega) | omega) _ | refine Below.alloc ?_ (by first | (simp; done) | (simp; omega) | omega) _)) b2
  have B2 := Lib.hid (below_step B1.out d2)
  clear b2 d2 B1
  have lc := K1.out
  go_wp2_with fail
  clear lc
  rw [rounds_succ]
  go_wp2_with fail
  refine (days_yes y 12 31 _ R2).mono ?_; rintro e w3 ⟨rfl, b3⟩
  have d3 : Below w2.heap.size w2 w3 := below_step (by repeat (first | exact Below.refl _ _ | refine below_drewN ?_ _ | refine Below.drew ?_ | refine Below.setCell ?_ (by first | (simp; done) | (simp; omega) | omega) _ | refine Below.alloc ?_ (by first | (simp; done) | (simp; omega) | omega) _)) b3
  have B3 := Lib.hid (below_step B2.out d3)
  clear b3 d3 B2
  go_wp2_with fail
  refine (dayOf_any (Cal.num y 12 31) _ (by omega) (by omega)).mono ?_; rintro e w4 ⟨rfl, b4⟩
  have d4 : Below w3.heap.size w3 w4 := below_step (by repeat (first | exact Below.refl _ _ | refine below_drewN ?_ _ | refine Below.drew ?_ | refine Below.setCell ?_ (by first | (simp; done) | (simp; omega) | omega) _ | refine Below.alloc ?_ (by first | (simp; done) | (simp; omega) | omega) _)) b4
  have B4 := Lib.hid (below_step B3.out d4)
  clear b4 d4 B3
  have lc := K2.out
  go_wp2_with fail; clear lc; rw [rounds_succ]
  go_wp2_with fail
  go_ret
  exact ⟨rfl, (by have hz := B4.out.size; repeat (first | exact B4.out | refine below_drewN ?_ _ | refine Below.drew ?_ | refine Below.setCell ?_ (by first | omega | (simp; done) | (simp; omega)) _ | refine Below.alloc ?_ (by first | omega | (simp; done) | (simp; omega)) _))⟩
theorem weeks_any (y : Int) (w : World) :
    Calls Tryd.prog 16 #[.int .i64 y] w fun e w' => e = .returned (.int .i64 (Wk.wks y)) ∧ Below w.heap.size w w' := by
  by_cases h : y < -39999 ∨ 39999 < y
  · rw [show Wk.wks y = 0 by unfold Wk.wks; rw [if_pos h]]; exact weeks_out y w h
  · by_cases k1 : Wk.dow (Cal.num y 1 1) = 4
    · rw [show Wk.wks y = 53 by unfold Wk.wks; rw [if_neg h, if_pos (.inl k1)]]; exact weeks_a y w (by omega) (by omega) k1
    · by_cases k2 : Wk.dow (Cal.num y 12 31) = 4
      · rw [show Wk.wks y = 53 by unfold Wk.wks; rw [if_neg h, if_pos (.inr k2)]]; exact weeks_b y w (by omega) (by omega) k1 k2
      · rw [show Wk.wks y = 52 by unfold Wk.wks; rw [if_neg h, if_neg (fun o => o.elim k1 k2)]]; exact weeks_c y w (by omega) (by omega) k1 k2

namespace Wk
/-- May a day by its week be? -/
def rB (y k d : Int) : Bool := decide (1 ≤ k) && (decide (k ≤ wks y) && (decide (1 ≤ d) && decide (d ≤ 7)))
end Wk
set_option maxHeartbeats 2000000 in
theorem wright_any (y k d : Int) (w : World) :
    Calls Tryd.prog 18 #[.agg #[.int .i64 y, .int .i64 k, .int .i64 d]] w fun e w' => e = .returned (.bool (Wk.rB y k d)) ∧ Below w.heap.size w w' := by
  have hK := fun W => weeks_any y W
  generalize hks : Wk.wks y = ks at hK
  by_cases c1 : 1 ≤ k
  · by_cases c2 : k ≤ ks
    · by_cases c3 : 1 ≤ d
      · by_cases c4 : d ≤ 7
        · have E := Lib.hid (show Wk.rB y k d = true by unfold Wk.rB; rw [hks]; simp [c1, c2, c3, c4])
          clear hks
          go_enter Tryd.func18, Tryd.ntmps18
          go_wp2_with fail
          refine wp_named ?_; intro w1 hw1
          have d1 : Below w.heap.size w w1 := by rw [hw1]; exact (by repeat (first | exact Below.refl _ _ | refine below_drewN ?_ _ | refine Below.drew ?_ | refine Below.setCell ?_ (by first | (simp; done) | (simp; omega) | omega) _ | refine Below.alloc ?_ (by first | (simp; done) | (simp; omega) | omega) _))
          have B1 := Lib.hid d1
          have A1 : Bk3 w1 (w.heap.size) (.int .i64 y) (.int .i64 k) (.int .i64 d) := by rw [hw1]; exact ⟨by simp <;> omega, by intro j; simp [go_sem], by simp [go_sem], by simp [go_sem], by simp [go_sem]⟩
          clear d1 hw1
          have qA_0 := cell_regrown A1.k0
          have qA_1 := cell_regrown A1.k1
          have qA_2 := cell_regrown A1.k2
          refine wp_region_qb (w := w1) (by kernel_rfl) (by kernel_rfl) (by repeat (first | exact Below.refl _ _ | refine below_drewN ?_ _ | refine Below.drew ?_ | refine Below.setCell ?_ (by first | (simp; done) | (simp; omega) | omega) _ | refine Below.alloc ?_ (by first | (simp; done) | (simp; omega) | omega) _)) ?_
          repeat (any_goals (first | go_big_quiet_step (first | (go_at_call 16; exact Calls.regrown_of (hK _))) | quiet_step (first | (go_at_call 16; exact Calls.regrown_of (hK _)))))
          refine wpQuiet_nil ?_
          intro w2 hq
          have b2 : Below w1.heap.size w1 w2 := by obtain ⟨p, hq⟩ := hq; rw [hq]; exact below_regrown _ _ _
          clear hq qA_0 qA_1 qA_2
          have d2 : Below w1.heap.size w1 w2 := below_step (by repeat (first | exact Below.refl _ _ | refine below_drewN ?_ _ | refine Below.drew ?_ | refine Below.setCell ?_ (by first | (simp; done) | (simp; omega) | omega) _ | refine Below.alloc ?_ (by first | (simp; done) | (simp; omega) | omega) _)) b2
          have B2 := Lib.hid (below_step B1.out d2)
          have A2 := A1.keep d2
          clear A1 b2 d2 B1
          have cA_b := A2.hb
          have cA_f := A2.fz
          have cA_0 := A2.k0
          have cA_1 := A2.k1
          have cA_2 := A2.k2
          go_wp2_with fail
          clear cA_b cA_f cA_0 cA_1 cA_2
          go_ret
          rw [E.out]
          refine ⟨rfl, ?_⟩
          exact (by have hz := B2.out.size; repeat (first | exact B2.out | refine below_drewN ?_ _ | refine Below.drew ?_ | refine Below.setCell ?_ (by first | omega | (simp; done) | (simp; omega)) _ | refine Below.alloc ?_ (by first | omega | (simp; done) | (simp; omega)) _))
        · have E := Lib.hid (show Wk.rB y k d = false by unfold Wk.rB; rw [hks]; simp [c1, c2, c3, c4])
          have g : decide (d ≤ 7) = false := decide_eq_false c4
          clear hks c4
          go_enter Tryd.func18, Tryd.ntmps18
          go_wp2_with fail
          refine wp_named ?_; intro w1 hw1
          have d1 : Below w.heap.size w w1 := by rw [hw1]; exact (by repeat (first | exact Below.refl _ _ | refine below_drewN ?_ _ | refine Below.drew ?_ | refine Below.setCell ?_ (by first | (simp; done) | (simp; omega) | omega) _ | refine Below.alloc ?_ (by first | (simp; done) | (simp; omega) | omega) _))
          have B1 := Lib.hid d1
          have A1 : Bk3 w1 (w.heap.size) (.int .i64 y) (.int .i64 k) (.int .i64 d) := by rw [hw1]; exact ⟨by simp <;> omega, by intro j; simp [go_sem], by simp [go_sem], by simp [go_sem], by simp [go_sem]⟩
          clear d1 hw1
          have qA_0 := cell_regrown A1.k0
          have qA_1 := cell_regrown A1.k1
          have qA_2 := cell_regrown A1.k2
          refine wp_region_qb (w := w1) (by kernel_rfl) (by kernel_rfl) (by repeat (first | exact Below.refl _ _ | refine below_drewN ?_ _ | refine Below.drew ?_ | refine Below.setCell ?_ (by first | (simp; done) | (simp; omega) | omega) _ | refine Below.alloc ?_ (by first | (simp; done) | (simp; omega) | omega) _)) ?_
          repeat (any_goals (first | go_big_quiet_step (first | (go_at_call 16; exact Calls.regrown_of (hK _))) | quiet_step (first | (go_at_call 16; exact Calls.regrown_of (hK _)))))
          refine wpQuiet_nil ?_
          intro w2 hq
          have b2 : Below w1.heap.size w1 w2 := by obtain ⟨p, hq⟩ := hq; rw [hq]; exact below_regrown _ _ _
          clear hq qA_0 qA_1 qA_2
          have d2 : Below w1.heap.size w1 w2 := below_step (by repeat (first | exact Below.refl _ _ | refine below_drewN ?_ _ | refine Below.drew ?_ | refine Below.setCell ?_ (by first | (simp; done) | (simp; omega) | omega) _ | refine Below.alloc ?_ (by first | (simp; done) | (simp; omega) | omega) _)) b2
          have B2 := Lib.hid (below_step B1.out d2)
          have A2 := A1.keep d2
          clear A1 b2 d2 B1
          have cA_b := A2.hb
          have cA_f := A2.fz
          have cA_0 := A2.k0
          have cA_1 := A2.k1
          have cA_2 := A2.k2
          go_wp2_with fail
          clear cA_b cA_f cA_0 cA_1 cA_2
          go_ret
          rw [E.out]
          refine ⟨rfl, ?_⟩
          exact (by have hz := B2.out.size; repeat (first | exact B2.out | refine below_drewN ?_ _ | refine Below.drew ?_ | refine Below.setCell ?_ (by first | omega | (simp; done) | (simp; omega)) _ | refine Below.alloc ?_ (by first | omega | (simp; done) | (simp; omega)) _))
      · have E := Lib.hid (show Wk.rB y k d = false by unfold Wk.rB; rw [hks]; simp [c1, c2, c3])
        have g : decide (1 ≤ d) = false := decide_eq_false c3
        clear hks c3
        go_enter Tryd.func18, Tryd.ntmps18
        go_wp2_with fail
        refine wp_named ?_; intro w1 hw1
        have d1 : Below w.heap.size w w1 := by rw [hw1]; exact (by repeat (first | exact Below.refl _ _ | refine below_drewN ?_ _ | refine Below.drew ?_ | refine Below.setCell ?_ (by first | (simp; done) | (simp; omega) | omega) _ | refine Below.alloc ?_ (by first | (simp; done) | (simp; omega) | omega) _))
        have B1 := Lib.hid d1
        have A1 : Bk3 w1 (w.heap.size) (.int .i64 y) (.int .i64 k) (.int .i64 d) := by rw [hw1]; exact ⟨by simp <;> omega, by intro j; simp [go_sem], by simp [go_sem], by simp [go_sem], by simp [go_sem]⟩
        clear d1 hw1
        have qA_0 := cell_regrown A1.k0
        have qA_1 := cell_regrown A1.k1
        have qA_2 := cell_regrown A1.k2
        refine wp_region_qb (w := w1) (by kernel_rfl) (by kernel_rfl) (by repeat (first | exact Below.refl _ _ | refine below_drewN ?_ _ | refine Below.drew ?_ | refine Below.setCell ?_ (by first | (simp; done) | (simp; omega) | omega) _ | refine Below.alloc ?_ (by first | (simp; done) | (simp; omega) | omega) _)) ?_
        repeat (any_goals (first | go_big_quiet_step (first | (go_at_call 16; exact Calls.regrown_of (hK _))) | quiet_step (first | (go_at_call 16; exact Calls.regrown_of (hK _)))))
        refine wpQuiet_nil ?_
        intro w2 hq
        have b2 : Below w1.heap.size w1 w2 := by obtain ⟨p, hq⟩ := hq; rw [hq]; exact below_regrown _ _ _
        clear hq qA_0 qA_1 qA_2
        have d2 : Below w1.heap.size w1 w2 := below_step (by repeat (first | exact Below.refl _ _ | refine below_drewN ?_ _ | refine Below.drew ?_ | refine Below.setCell ?_ (by first | (simp; done) | (simp; omega) | omega) _ | refine Below.alloc ?_ (by first | (simp; done) | (simp; omega) | omega) _)) b2
        have B2 := Lib.hid (below_step B1.out d2)
        have A2 := A1.keep d2
        clear A1 b2 d2 B1
        have cA_b := A2.hb
        have cA_f := A2.fz
        have cA_0 := A2.k0
        have cA_1 := A2.k1
        have cA_2 := A2.k2
        go_wp2_with fail
        clear cA_b cA_f cA_0 cA_1 cA_2
        go_ret
        rw [E.out]
        refine ⟨rfl, ?_⟩
        exact (by have hz := B2.out.size; repeat (first | exact B2.out | refine below_drewN ?_ _ | refine Below.drew ?_ | refine Below.setCell ?_ (by first | omega | (simp; done) | (simp; omega)) _ | refine Below.alloc ?_ (by first | omega | (simp; done) | (simp; omega)) _))
    · have E := Lib.hid (show Wk.rB y k d = false by unfold Wk.rB; rw [hks]; simp [c1, c2])
      have g : decide (k ≤ ks) = false := decide_eq_false c2
      clear hks c2
      go_enter Tryd.func18, Tryd.ntmps18
      go_wp2_with fail
      refine wp_named ?_; intro w1 hw1
      have d1 : Below w.heap.size w w1 := by rw [hw1]; exact (by repeat (first | exact Below.refl _ _ | refine below_drewN ?_ _ | refine Below.drew ?_ | refine Below.setCell ?_ (by first | (simp; done) | (simp; omega) | omega) _ | refine Below.alloc ?_ (by first | (simp; done) | (simp; omega) | omega) _))
      have B1 := Lib.hid d1
      have A1 : Bk3 w1 (w.heap.size) (.int .i64 y) (.int .i64 k) (.int .i64 d) := by rw [hw1]; exact ⟨by simp <;> omega, by intro j; simp [go_sem], by simp [go_sem], by simp [go_sem], by simp [go_sem]⟩
      clear d1 hw1
      have qA_0 := cell_regrown A1.k0
      have qA_1 := cell_regrown A1.k1
      have qA_2 := cell_regrown A1.k2
      refine wp_region_qb (w := w1) (by kernel_rfl) (by kernel_rfl) (by repeat (first | exact Below.refl _ _ | refine below_drewN ?_ _ | refine Below.drew ?_ | refine Below.setCell ?_ (by first | (simp; done) | (simp; omega) | omega) _ | refine Below.alloc ?_ (by first | (simp; done) | (simp; omega) | omega) _)) ?_
      repeat (any_goals (first | go_big_quiet_step (first | (go_at_call 16; exact Calls.regrown_of (hK _))) | quiet_step (first | (go_at_call 16; exact Calls.regrown_of (hK _)))))
      refine wpQuiet_nil ?_
      intro w2 hq
      have b2 : Below w1.heap.size w1 w2 := by obtain ⟨p, hq⟩ := hq; rw [hq]; exact below_regrown _ _ _
      clear hq qA_0 qA_1 qA_2
      have d2 : Below w1.heap.size w1 w2 := below_step (by repeat (first | exact Below.refl _ _ | refine below_drewN ?_ _ | refine Below.drew ?_ | refine Below.setCell ?_ (by first | (simp; done) | (simp; omega) | omega) _ | refine Below.alloc ?_ (by first | (simp; done) | (simp; omega) | omega) _)) b2
      have B2 := Lib.hid (below_step B1.out d2)
      have A2 := A1.keep d2
      clear A1 b2 d2 B1
      have cA_b := A2.hb
      have cA_f := A2.fz
      have cA_0 := A2.k0
      have cA_1 := A2.k1
      have cA_2 := A2.k2
      go_wp2_with fail
      clear cA_b cA_f cA_0 cA_1 cA_2
      go_ret
      rw [E.out]
      refine ⟨rfl, ?_⟩
      exact (by have hz := B2.out.size; repeat (first | exact B2.out | refine below_drewN ?_ _ | refine Below.drew ?_ | refine Below.setCell ?_ (by first | omega | (simp; done) | (simp; omega)) _ | refine Below.alloc ?_ (by first | omega | (simp; done) | (simp; omega)) _))
  · have E := Lib.hid (show Wk.rB y k d = false by unfold Wk.rB; simp [c1])
    have g : decide (1 ≤ k) = false := decide_eq_false c1
    clear hks c1
    go_enter Tryd.func18, Tryd.ntmps18
    go_wp2_with fail
    refine wp_named ?_; intro w1 hw1
    have d1 : Below w.heap.size w w1 := by rw [hw1]; exact (by repeat (first | exact Below.refl _ _ | refine below_drewN ?_ _ | refine Below.drew ?_ | refine Below.setCell ?_ (by first | (simp; done) | (simp; omega) | omega) _ | refine Below.alloc ?_ (by first | (simp; done) | (simp; omega) | omega) _))
    have B1 := Lib.hid d1
    have A1 : Bk3 w1 (w.heap.size) (.int .i64 y) (.int .i64 k) (.int .i64 d) := by rw [hw1]; exact ⟨by simp <;> omega, by intro j; simp [go_sem], by simp [go_sem], by simp [go_sem], by simp [go_sem]⟩
    clear d1 hw1
    have qA_0 := cell_regrown A1.k0
    have qA_1 := cell_regrown A1.k1
    have qA_2 := cell_regrown A1.k2
    refine wp_region_qb (w := w1) (by kernel_rfl) (by kernel_rfl) (by repeat (first | exact Below.refl _ _ | refine below_drewN ?_ _ | refine Below.drew ?_ | refine Below.setCell ?_ (by first | (simp; done) | (simp; omega) | omega) _ | refine Below.alloc ?_ (by first | (simp; done) | (simp; omega) | omega) _)) ?_
    repeat (any_goals (first | go_big_quiet_step (first | (go_at_call 16; exact Calls.regrown_of (hK _))) | quiet_step (first | (go_at_call 16; exact Calls.regrown_of (hK _)))))
    refine wpQuiet_nil ?_
    intro w2 hq
    have b2 : Below w1.heap.size w1 w2 := by obtain ⟨p, hq⟩ := hq; rw [hq]; exact below_regrown _ _ _
    clear hq qA_0 qA_1 qA_2
    have d2 : Below w1.heap.size w1 w2 := below_step (by repeat (first | exact Below.refl _ _ | refine below_drewN ?_ _ | refine Below.drew ?_ | refine Below.setCell ?_ (by first | (simp; done) | (simp; omega) | omega) _ | refine Below.alloc ?_ (by first | (simp; done) | (simp; omega) | omega) _)) b2
    have B2 := Lib.hid (below_step B1.out d2)
    have A2 := A1.keep d2
    clear A1 b2 d2 B1
    have cA_b := A2.hb
    have cA_f := A2.fz
    have cA_0 := A2.k0
    have cA_1 := A2.k1
    have cA_2 := A2.k2
    go_wp2_with fail
    clear cA_b cA_f cA_0 cA_1 cA_2
    go_ret
    rw [E.out]
    refine ⟨rfl, ?_⟩
    exact (by have hz := B2.out.size; repeat (first | exact B2.out | refine below_drewN ?_ _ | refine Below.drew ?_ | refine Below.setCell ?_ (by first | omega | (simp; done) | (simp; omega)) _ | refine Below.alloc ?_ (by first | omega | (simp; done) | (simp; omega)) _))
end Go.Proofs.YtfcabofhlgmkjaaDoor

