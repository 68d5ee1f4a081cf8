/- The contract of monthly.Between. -/
import Derived.Test.YtlehbnfocilcmabMoB
set_option linter.unusedVariables false
set_option linter.unusedSimpArgs false
namespace Go.Proofs.Ytlehbnfocilcmab
open Go.RowKit Go.Sort

namespace Mo
/-- How many months from a's month to b's. -/
def n0 (ay am bY bm : Int) : Int := bY * 12 + bm - 1 - (ay * 12 + am - 1)
/-- Does the moved day lie behind b's? -/
def late (ad bY bm bd : Int) : Bool := decide (bd < min ad (Cal.len bY bm))
def bn (ay am ad bY bm bd : Int) : Int := if late ad bY bm bd then n0 ay am bY bm - 1 else n0 ay am bY bm
def bok (ay am ad bY bm bd : Int) : Bool := rightB ay am ad && (rightB bY bm bd && (mok ay am ad (bn ay am ad bY bm bd) && mok ay am ad (bn ay am ad bY bm bd + 1)))
theorem mN_n0 (ay am bY bm : Int) : mN ay am (n0 ay am bY bm) = bY * 12 + bm - 1 := by unfold mN n0; omega
theorem at_b {ay am ad bY bm bd : Int} (ha : rightB ay am ad = true) (hb : rightB bY bm bd = true) : mY ay am (n0 ay am bY bm) = bY ∧ mM ay am (n0 ay am bY bm) = bm ∧ mD ay am ad (n0 ay am bY bm) = min ad (Cal.len bY bm) ∧ mok ay am ad (n0 ay am bY bm) = true := by
  have b := right_true.1 hb
  obtain ⟨m1, m2⟩ := Cal.month_of b
  have := b.y0; have := b.y1
  have e1 : mY ay am (n0 ay am bY bm) = bY := by unfold mY; rw [mN_n0]; omega
  have e2 : mM ay am (n0 ay am bY bm) = bm := by unfold mM; rw [mN_n0]; omega
  refine ⟨e1, e2, by unfold mD; rw [e1, e2], mok_true.2 ⟨ha, by rw [e1]; exact ⟨b.y0, b.y1⟩⟩⟩
theorem cmpI_self (x : Int) : cmpI x x = 0 := by unfold cmpI; simp
theorem cmpD_same (y m x z : Int) : cmpD y m x y m z = cmpI x z := by
  unfold cmpD orI; rw [cmpI_self, cmpI_self]; simp
theorem late_cmp (ad bY bm bd : Int) : decide (0 < cmpD bY bm (min ad (Cal.len bY bm)) bY bm bd) = late ad bY bm bd := by
  rw [cmpD_same]; unfold late cmpI
  generalize min ad (Cal.len bY bm) = X
  rw [Bool.eq_iff_iff]
  simp only [decide_eq_true_eq]
  split
  · omega
  · split <;> omega
end Mo
set_option maxHeartbeats 1000000 in
theorem mbet_no (ay am ad bY bm bd : Int) (w : World) (h : rightB ay am ad = false ∨ rightB ay am ad = true ∧ rightB bY bm bd = false) :
    Calls Try.prog 30 #[.agg #[.int .i64 ay, .int .i64 am, .int .i64 ad], .agg #[.int .i64 bY, .int .i64 bm, .int .i64 bd]] w fun e w' => e = .returned (.tuple #[.int .i64 0, .int .i64 1]) ∧ Below w.heap.size w w' := by
  rcases h with h | ⟨h, h2⟩
  · have H := Lib.hid h; clear h
    go_enter Try.func30, Try.ntmps30
    go_wp2_with fail
    refine (right_any ay am ad _).mono ?_; rintro e w1 ⟨rfl, b1⟩
    have d1 : Below w.heap.size w w1 := below_step (by repeat (first | exact Below.refl _ _ | refine below_drewN ?_ _ | refine Below.drew ?_ | refine Below.setCell ?_ (by simp) _ | refine Below.alloc ?_ (by simp) _)) b1
    have B1 := Lib.hid d1
    have A1 : Bk3 w1 (w.heap.size) (.int .i64 ay) (.int .i64 am) (.int .i64 ad) := Bk3.of b1 (by simp <;> omega) (by intro j; simp [go_sem]) (by simp [go_sem]) (by simp [go_sem]) (by simp [go_sem])
    have C1 : Bk3 w1 (w.heap.size + 1) (.int .i64 bY) (.int .i64 bm) (.int .i64 bd) := Bk3.of b1 (by simp <;> omega) (by intro j; simp [go_sem]) (by simp [go_sem]) (by simp [go_sem]) (by simp [go_sem])
    clear b1 d1
    rw [H.out]
    have cA_b := A1.hb
    have cA_f := A1.fz
    have cA_0 := A1.k0
    have cA_1 := A1.k1
    have cA_2 := A1.k2
    have cC_b := C1.hb
    have cC_f := C1.fz
    have cC_0 := C1.k0
    have cC_1 := C1.k1
    have cC_2 := C1.k2
    go_wp2_with fail
    clear cA_b cA_f cA_0 cA_1 cA_2 cC_b cC_f cC_0 cC_1 cC_2
    go_ret2
    exact ⟨rfl, (by have hz := B1.out.size; repeat (first | exact B1.out | refine below_drewN ?_ _ | refine Below.drew ?_ | refine Below.setCell ?_ (by first | omega | (simp; done) | (simp; omega)) _ | refine Below.alloc ?_ (by first | omega | (simp; done) | (simp; omega)) _))⟩
  · have H := Lib.hid h; have H2 := Lib.hid h2; clear h h2
    go_enter Try.func30, Try.ntmps30
    go_wp2_with fail
    refine (right_any ay am ad _).mono ?_; rintro e w1 ⟨rfl, b1⟩
    have d1 : Below w.heap.size w w1 := below_step (by repeat (first | exact Below.refl _ _ | refine below_drewN ?_ _ | refine Below.drew ?_ | refine Below.setCell ?_ (by simp) _ | refine Below.alloc ?_ (by simp) _)) b1
    have B1 := Lib.hid d1
    have A1 : Bk3 w1 (w.heap.size) (.int .i64 ay) (.int .i64 am) (.int .i64 ad) := Bk3.of b1 (by simp <;> omega) (by intro j; simp [go_sem]) (by simp [go_sem]) (by simp [go_sem]) (by simp [go_sem])
    have C1 : Bk3 w1 (w.heap.size + 1) (.int .i64 bY) (.int .i64 bm) (.int .i64 bd) := Bk3.of b1 (by simp <;> omega) (by intro j; simp [go_sem]) (by simp [go_sem]) (by simp [go_sem]) (by simp [go_sem])
    clear b1 d1
    rw [H.out]
    have cA_b := A1.hb
    have cA_f := A1.fz
    have cA_0 := A1.k0
    have cA_1 := A1.k1
    have cA_2 := A1.k2
    have cC_b := C1.hb
    have cC_f := C1.fz
    have cC_0 := C1.k0
    have cC_1 := C1.k1
    have cC_2 := C1.k2
    go_wp2_with fail
    clear cA_b cA_f cA_0 cA_1 cA_2 cC_b cC_f cC_0 cC_1 cC_2
    refine (right_any bY bm bd _).mono ?_; rintro e w2 ⟨rfl, b2⟩
    have d2 : Below w1.heap.size w1 w2 := below_step (by repeat (first | exact Below.refl _ _ | refine below_drewN ?_ _ | refine Below.drew ?_ | refine Below.setCell ?_ (by simp) _ | refine Below.alloc ?_ (by simp) _)) b2
    have B2 := Lib.hid (below_step B1.out d2)
    have A2 := A1.keep d2
    have C2 := C1.keep d2
    clear A1 C1 b2 d2 B1
    rw [H2.out]
    have cA_b := A2.hb
    have cA_f := A2.fz
    have cA_0 := A2.k0
    have cA_1 := A2.k1
    have cA_2 := A2.k2
    have cC_b := C2.hb
    have cC_f := C2.fz
    have cC_0 := C2.k0
    have cC_1 := C2.k1
    have cC_2 := C2.k2
    go_wp2_with fail
    clear cA_b cA_f cA_0 cA_1 cA_2 cC_b cC_f cC_0 cC_1 cC_2
    go_ret2
    exact ⟨rfl, (by have hz := B2.out.size; repeat (first | exact B2.out | refine below_drewN ?_ _ | refine Below.drew ?_ | refine Below.setCell ?_ (by first | omega | (simp; done) | (simp; omega)) _ | refine Below.alloc ?_ (by first | omega | (simp; done) | (simp; omega)) _))⟩
set_option maxHeartbeats 2000000 in
theorem mbet_yy_true (ay am ad bY bm bd : Int) (w : World) (ha : rightB ay am ad = true) (hb : rightB bY bm bd = true) (hl : Mo.late ad bY bm bd = true) (h1 : Mo.mok ay am ad (Mo.bn ay am ad bY bm bd) = true) (h2 : Mo.mok ay am ad (Mo.bn ay am ad bY bm bd + 1) = true) :
    Calls Try.prog 30 #[.agg #[.int .i64 ay, .int .i64 am, .int .i64 ad], .agg #[.int .i64 bY, .int .i64 bm, .int .i64 bd]] w fun e w' => e = .returned (.tuple #[.int .i64 (Mo.bn ay am ad bY bm bd), .int .i64 0]) ∧ Below w.heap.size w w' := by
  have M := Lib.hid (Mo.at_b ha hb)
  have a := right_true.1 ha; have b := right_true.1 hb
  obtain ⟨am1, am2⟩ := Cal.month_of a
  obtain ⟨bm1, bm2⟩ := Cal.month_of b
  have ay1 := a.y0; have ay2 := a.y1; have by1 := b.y0; have by2 := b.y1
  have n1 : -2000000 ≤ Mo.n0 ay am bY bm := by unfold Mo.n0; omega
  have n2 : Mo.n0 ay am bY bm ≤ 2000000 := by unfold Mo.n0; omega
  have ix0 : ∀ x y w, Sem.run Try.prog (Instr.index 69 (.agg #[.int .i64 x, .int .i64 y]) (.int .i64 0)) w = .ok (.int .i64 x) w := fun _ _ _ => by kernel_rfl
  have ix1 : ∀ x y w, Sem.run Try.prog (Instr.index 69 (.agg #[.int .i64 x, .int .i64 y]) (.int .i64 1)) w = .ok (.int .i64 y) w := fun _ _ _ => by kernel_rfl
  have ws : IntKind.i64.wrap (bY * 12 + bm - 1 - (ay * 12 + am - 1)) = Mo.n0 ay am bY bm := IntWalk.i64_in _ (by omega)
  have HA := Lib.hid ha; have HB := Lib.hid hb
  have LC := Lib.hid ((Mo.late_cmp ad bY bm bd).trans hl)
  have bn1 : -2000002 ≤ Mo.bn ay am ad bY bm bd := by unfold Mo.bn; split <;> omega
  have bn2 : Mo.bn ay am ad bY bm bd ≤ 2000002 := by unfold Mo.bn; split <;> omega
  have E := Lib.hid (show Mo.bn ay am ad bY bm bd = Mo.n0 ay am bY bm - 1 by unfold Mo.bn; rw [hl]; rfl)
  have E2 := Lib.hid (show Mo.bn ay am ad bY bm bd + 1 = Mo.n0 ay am bY bm by unfold Mo.bn; rw [hl]; simp)
  have H1 := Lib.hid h1
  have H2 := Lib.hid h2; clear h2
  clear a b ha hb h1 hl
  go_enter Try.func30, Try.ntmps30
  go_wp2_with fail
  refine (right_any ay am ad _).mono ?_; rintro e w1 ⟨rfl, b1⟩
  have d1 : Below w.heap.size w w1 := below_step (by repeat (first | exact Below.refl _ _ | refine below_drewN ?_ _ | refine Below.drew ?_ | refine Below.setCell ?_ (by simp) _ | refine Below.alloc ?_ (by simp) _)) b1
  have B1 := Lib.hid d1
  have A1 : Bk3 w1 (w.heap.size) (.int .i64 ay) (.int .i64 am) (.int .i64 ad) := Bk3.of b1 (by simp <;> omega) (by intro j; simp [go_sem]) (by simp [go_sem]) (by simp [go_sem]) (by simp [go_sem])
  have C1 : Bk3 w1 (w.heap.size + 1) (.int .i64 bY) (.int .i64 bm) (.int .i64 bd) := Bk3.of b1 (by simp <;> omega) (by intro j; simp [go_sem]) (by simp [go_sem]) (by simp [go_sem]) (by simp [go_sem])
  clear b1 d1
  rw [HA.out]
  have cA_b := A1.hb
  have cA_f := A1.fz
  have cA_0 := A1.k0
  have cA_1 := A1.k1
  have cA_2 := A1.k2
  have cC_b := C1.hb
  have cC_f := C1.fz
  have cC_0 := C1.k0
  have cC_1 := C1.k1
  have cC_2 := C1.k2
  go_wp2_with fail
  clear cA_b cA_f cA_0 cA_1 cA_2 cC_b cC_f cC_0 cC_1 cC_2
  refine (right_any bY bm bd _).mono ?_; rintro e w2 ⟨rfl, b2⟩
  have d2 : Below w1.heap.size w1 w2 := below_step (by repeat (first | exact Below.refl _ _ | refine below_drewN ?_ _ | refine Below.drew ?_ | refine Below.setCell ?_ (by simp) _ | refine Below.alloc ?_ (by simp) _)) b2
  have B2 := Lib.hid (below_step B1.out d2)
  have A2 := A1.keep d2
  have C2 := C1.keep d2
  clear A1 C1 b2 d2 B1
  rw [HB.out]
  have cA_b := A2.hb
  have cA_f := A2.fz
  have cA_0 := A2.k0
  have cA_1 := A2.k1
  have cA_2 := A2.k2
  have cC_b := C2.hb
  have cC_f := C2.fz
  have cC_0 := C2.k0
  have cC_1 := C2.k1
  have cC_2 := C2.k2
  go_wp2_with fail
  clear cA_b cA_f cA_0 cA_1 cA_2 cC_b cC_f cC_0 cC_1 cC_2
  have qA_0 := cell_regrown A2.k0
  have qA_1 := cell_regrown A2.k1
  have qA_2 := cell_regrown A2.k2
  have qC_0 := cell_regrown C2.k0
  have qC_1 := cell_regrown C2.k1
  have qC_2 := cell_regrown C2.k2
  refine wp_region_qb (w := w2) (by kernel_rfl) (by kernel_rfl) (by repeat (first | exact Below.refl _ _ | refine below_drewN ?_ _ | refine Below.drew ?_ | refine Below.setCell ?_ (by simp) _ | refine Below.alloc ?_ (by simp) _)) ?_
  repeat (any_goals (first | go_big_quiet_step (first | (go_at_call 52; exact Calls.regrown_of (monthOf_any _ _ _ _ (by omega) (by omega) (by omega) (by omega)))) | quiet_step (first | (go_at_call 52; exact Calls.regrown_of (monthOf_any _ _ _ _ (by omega) (by omega) (by omega) (by omega))))))
  refine wpQuiet_nil ?_
  intro w3 hq
  have b3 : Below w2.heap.size w2 w3 := by obtain ⟨p, hq⟩ := hq; rw [hq]; exact below_regrown _ _ _
  clear hq qA_0 qA_1 qA_2 qC_0 qC_1 qC_2
  have d3 : Below w2.heap.size w2 w3 := below_step (by repeat (first | exact Below.refl _ _ | refine below_drewN ?_ _ | refine Below.drew ?_ | refine Below.setCell ?_ (by simp) _ | refine Below.alloc ?_ (by simp) _)) b3
  have B3 := Lib.hid (below_step B2.out d3)
  have A3 := A2.keep d3
  have C3 := C2.keep d3
  clear A2 C2 b3 d3 B2
  clear ws
  have cA_b := A3.hb
  have cA_f := A3.fz
  have cA_0 := A3.k0
  have cA_1 := A3.k1
  have cA_2 := A3.k2
  have cC_b := C3.hb
  have cC_f := C3.fz
  have cC_0 := C3.k0
  have cC_1 := C3.k1
  have cC_2 := C3.k2
  go_wp2_with fail
  clear cA_b cA_f cA_0 cA_1 cA_2 cC_b cC_f cC_0 cC_1 cC_2
  refine (madd_any ay am ad (Mo.n0 ay am bY bm) _ (by omega) (by omega)).mono ?_; rintro e w4 ⟨rfl, b4⟩
  have d4 : Below w3.heap.size w3 w4 := below_step (by repeat (first | exact Below.refl _ _ | refine below_drewN ?_ _ | refine Below.drew ?_ | refine Below.setCell ?_ (by simp) _ | refine Below.alloc ?_ (by simp) _)) b4
  have B4 := Lib.hid (below_step B3.out d4)
  have A4 := A3.keep d4
  have C4 := C3.keep d4
  clear A3 C3 b4 d4 B3
  rw [M.out.1, M.out.2.1, M.out.2.2.1, M.out.2.2.2]
  simp only [Cal.orz, Cal.why, if_true]
  have cA_b := A4.hb
  have cA_f := A4.fz
  have cA_0 := A4.k0
  have cA_1 := A4.k1
  have cA_2 := A4.k2
  have cC_b := C4.hb
  have cC_f := C4.fz
  have cC_0 := C4.k0
  have cC_1 := C4.k1
  have cC_2 := C4.k2
  go_wp2_with fail
  clear cA_b cA_f cA_0 cA_1 cA_2 cC_b cC_f cC_0 cC_1 cC_2
  refine (dcompare _ _ _ _ _ _ _).mono ?_; rintro e w5 ⟨rfl, b5⟩
  have d5 : Below w4.heap.size w4 w5 := below_step (by repeat (first | exact Below.refl _ _ | refine below_drewN ?_ _ | refine Below.drew ?_ | refine Below.setCell ?_ (by simp) _ | refine Below.alloc ?_ (by simp) _)) b5
  have B5 := Lib.hid (below_step B4.out d5)
  have A5 := A4.keep d5
  have C5 := C4.keep d5
  have aQ := B4.out.size
  have nQA := Nat.ne_of_lt A4.hb
  have oQA := Nat.ne_of_gt A4.hb
  have nQC := Nat.ne_of_lt C4.hb
  have oQC := Nat.ne_of_gt C4.hb
  have Q5 : Bk3 w5 (w4.heap.size) (.int .i64 bY) (.int .i64 bm) (.int .i64 (min ad (Cal.len bY bm))) := Bk3.of b5 (by simp <;> omega) (by intro j; simp [go_sem]) (by simp [go_sem]) (by simp [go_sem]) (by simp [go_sem])
  clear A4 C4 b5 d5 B4
  have lc := LC.out
  have cA_b := A5.hb
  have cA_f := A5.fz
  have cA_0 := A5.k0
  have cA_1 := A5.k1
  have cA_2 := A5.k2
  have cC_b := C5.hb
  have cC_f := C5.fz
  have cC_0 := C5.k0
  have cC_1 := C5.k1
  have cC_2 := C5.k2
  have cQ_b := Q5.hb
  have cQ_f := Q5.fz
  have cQ_0 := Q5.k0
  have cQ_1 := Q5.k1
  have cQ_2 := Q5.k2
  go_wp2_with fail
  clear cA_b cA_f cA_0 cA_1 cA_2 cC_b cC_f cC_0 cC_1 cC_2 cQ_b cQ_f cQ_0 cQ_1 cQ_2
  clear lc
  refine wp_loop_rounds 3 ?_
  rw [rounds_succ]
  have cA_b := A5.hb
  have cA_f := A5.fz
  have cA_0 := A5.k0
  have cA_1 := A5.k1
  have cA_2 := A5.k2
  have cC_b := C5.hb
  have cC_f := C5.fz
  have cC_0 := C5.k0
  have cC_1 := C5.k1
  have cC_2 := C5.k2
  have cQ_b := Q5.hb
  have cQ_f := Q5.fz
  have cQ_0 := Q5.k0
  have cQ_1 := Q5.k1
  have cQ_2 := Q5.k2
  go_wp2_with fail
  clear cA_b cA_f cA_0 cA_1 cA_2 cC_b cC_f cC_0 cC_1 cC_2 cQ_b cQ_f cQ_0 cQ_1 cQ_2
  refine (madd_any ay am ad (Mo.n0 ay am bY bm - 1) _ (by omega) (by omega)).mono ?_; rintro e w6 ⟨rfl, b6⟩
  have d6 : Below w5.heap.size w5 w6 := below_step (by repeat (first | exact Below.refl _ _ | refine below_drewN ?_ _ | refine Below.drew ?_ | refine Below.setCell ?_ (by simp) _ | refine Below.alloc ?_ (by simp) _)) b6
  have B6 := Lib.hid (below_step B5.out d6)
  have A6 := A5.keep d6
  have C6 := C5.keep d6
  have Q6 := Q5.keep d6
  clear A5 C5 Q5 b6 d6 B5
  rw [show Mo.mok ay am ad (Mo.n0 ay am bY bm - 1) = Mo.mok ay am ad (Mo.bn ay am ad bY bm bd) by rw [E.out], H1.out]
  simp only [Cal.orz, Cal.why, if_true, Bool.false_eq_true, if_false]
  have cA_b := A6.hb
  have cA_f := A6.fz
  have cA_0 := A6.k0
  have cA_1 := A6.k1
  have cA_2 := A6.k2
  have cC_b := C6.hb
  have cC_f := C6.fz
  have cC_0 := C6.k0
  have cC_1 := C6.k1
  have cC_2 := C6.k2
  have cQ_b := Q6.hb
  have cQ_f := Q6.fz
  have cQ_0 := Q6.k0
  have cQ_1 := Q6.k1
  have cQ_2 := Q6.k2
  go_wp2_with fail
  clear cA_b cA_f cA_0 cA_1 cA_2 cC_b cC_f cC_0 cC_1 cC_2 cQ_b cQ_f cQ_0 cQ_1 cQ_2
  rw [rounds_succ]
  have cA_b := A6.hb
  have cA_f := A6.fz
  have cA_0 := A6.k0
  have cA_1 := A6.k1
  have cA_2 := A6.k2
  have cC_b := C6.hb
  have cC_f := C6.fz
  have cC_0 := C6.k0
  have cC_1 := C6.k1
  have cC_2 := C6.k2
  have cQ_b := Q6.hb
  have cQ_f := Q6.fz
  have cQ_0 := Q6.k0
  have cQ_1 := Q6.k1
  have cQ_2 := Q6.k2
  go_wp2_with fail
  clear cA_b cA_f cA_0 cA_1 cA_2 cC_b cC_f cC_0 cC_1 cC_2 cQ_b cQ_f cQ_0 cQ_1 cQ_2
  refine (madd_any ay am ad (Mo.n0 ay am bY bm) _ (by omega) (by omega)).mono ?_; rintro e w7 ⟨rfl, b7⟩
  have d7 : Below w6.heap.size w6 w7 := below_step (by repeat (first | exact Below.refl _ _ | refine below_drewN ?_ _ | refine Below.drew ?_ | refine Below.setCell ?_ (by simp) _ | refine Below.alloc ?_ (by simp) _)) b7
  have B7 := Lib.hid (below_step B6.out d7)
  have A7 := A6.keep d7
  have C7 := C6.keep d7
  have Q7 := Q6.keep d7
  clear A6 C6 Q6 b7 d7 B6
  rw [show Mo.mok ay am ad (Mo.n0 ay am bY bm) = Mo.mok ay am ad (Mo.bn ay am ad bY bm bd + 1) by rw [E2.out], H2.out]
  simp only [Cal.orz, Cal.why, if_true, Bool.false_eq_true, if_false]
  go_wp2_with fail; rw [rounds_succ]
  have cA_b := A7.hb
  have cA_f := A7.fz
  have cA_0 := A7.k0
  have cA_1 := A7.k1
  have cA_2 := A7.k2
  have cC_b := C7.hb
  have cC_f := C7.fz
  have cC_0 := C7.k0
  have cC_1 := C7.k1
  have cC_2 := C7.k2
  have cQ_b := Q7.hb
  have cQ_f := Q7.fz
  have cQ_0 := Q7.k0
  have cQ_1 := Q7.k1
  have cQ_2 := Q7.k2
  go_wp2_with fail
  clear cA_b cA_f cA_0 cA_1 cA_2 cC_b cC_f cC_0 cC_1 cC_2 cQ_b cQ_f cQ_0 cQ_1 cQ_2
  go_ret2
  rw [E.out]
  refine ⟨rfl, ?_⟩
  exact (by have hz := B7.out.size; repeat (first | exact B7.out | refine below_drewN ?_ _ | refine Below.drew ?_ | refine Below.setCell ?_ (by first | omega | (simp; done) | (simp; omega)) _ | refine Below.alloc ?_ (by first | omega | (simp; done) | (simp; omega)) _))
set_option maxHeartbeats 2000000 in
theorem mbet_yy_false (ay am ad bY bm bd : Int) (w : World) (ha : rightB ay am ad = true) (hb : rightB bY bm bd = true) (hl : Mo.late ad bY bm bd = false) (h1 : Mo.mok ay am ad (Mo.bn ay am ad bY bm bd) = true) (h2 : Mo.mok ay am ad (Mo.bn ay am ad bY bm bd + 1) = true) :
    Calls Try.prog 30 #[.agg #[.int .i64 ay, .int .i64 am, .int .i64 ad], .agg #[.int .i64 bY, .int .i64 bm, .int .i64 bd]] w fun e w' => e = .returned (.tuple #[.int .i64 (Mo.bn ay am ad bY bm bd), .int .i64 0]) ∧ Below w.heap.size w w' := by
  have M := Lib.hid (Mo.at_b ha hb)
  have a := right_true.1 ha; have b := right_true.1 hb
  obtain ⟨am1, am2⟩ := Cal.month_of a
  obtain ⟨bm1, bm2⟩ := Cal.month_of b
  have ay1 := a.y0; have ay2 := a.y1; have by1 := b.y0; have by2 := b.y1
  have n1 : -2000000 ≤ Mo.n0 ay am bY bm := by unfold Mo.n0; omega
  have n2 : Mo.n0 ay am bY bm ≤ 2000000 := by unfold Mo.n0; omega
  have ix0 : ∀ x y w, Sem.run Try.prog (Instr.index 69 (.agg #[.int .i64 x, .int .i64 y]) (.int .i64 0)) w = .ok (.int .i64 x) w := fun _ _ _ => by kernel_rfl
  have ix1 : ∀ x y w, Sem.run Try.prog (Instr.index 69 (.agg #[.int .i64 x, .int .i64 y]) (.int .i64 1)) w = .ok (.int .i64 y) w := fun _ _ _ => by kernel_rfl
  have ws : IntKind.i64.wrap (bY * 12 + bm - 1 - (ay * 12 + am - 1)) = Mo.n0 ay am bY bm := IntWalk.i64_in _ (by omega)
  have HA := Lib.hid ha; have HB := Lib.hid hb
  have LC := Lib.hid ((Mo.late_cmp ad bY bm bd).trans hl)
  have bn1 : -2000002 ≤ Mo.bn ay am ad bY bm bd := by unfold Mo.bn; split <;> omega
  have bn2 : Mo.bn ay am ad bY bm bd ≤ 2000002 := by unfold Mo.bn; split <;> omega
  have E := Lib.hid (show Mo.bn ay am ad bY bm bd = Mo.n0 ay am bY bm by unfold Mo.bn; rw [hl]; rfl)
  have E2 := Lib.hid (show Mo.bn ay am ad bY bm bd + 1 = Mo.n0 ay am bY bm + 1 by unfold Mo.bn; rw [hl]; simp)
  have H1 := Lib.hid h1
  have H2 := Lib.hid h2; clear h2
  clear a b ha hb h1 hl
  go_enter Try.func30, Try.ntmps30
  go_wp2_with fail
  refine (right_any ay am ad _).mono ?_; rintro e w1 ⟨rfl, b1⟩
  have d1 : Below w.heap.size w w1 := below_step (by repeat (first | exact Below.refl _ _ | refine below_drewN ?_ _ | refine Below.drew ?_ | refine Below.setCell ?_ (by simp) _ | refine Below.alloc ?_ (by simp) _)) b1
  have B1 := Lib.hid d1
  have A1 : Bk3 w1 (w.heap.size) (.int .i64 ay) (.int .i64 am) (.int .i64 ad) := Bk3.of b1 (by simp <;> omega) (by intro j; simp [go_sem]) (by simp [go_sem]) (by simp [go_sem]) (by simp [go_sem])
  have C1 : Bk3 w1 (w.heap.size + 1) (.int .i64 bY) (.int .i64 bm) (.int .i64 bd) := Bk3.of b1 (by simp <;> omega) (by intro j; simp [go_sem]) (by simp [go_sem]) (by simp [go_sem]) (by simp [go_sem])
  clear b1 d1
  rw [HA.out]
  have cA_b := A1.hb
  have cA_f := A1.fz
  have cA_0 := A1.k0
  have cA_1 := A1.k1
  have cA_2 := A1.k2
  have cC_b := C1.hb
  have cC_f := C1.fz
  have cC_0 := C1.k0
  have cC_1 := C1.k1
  have cC_2 := C1.k2
  go_wp2_with fail
  clear cA_b cA_f cA_0 cA_1 cA_2 cC_b cC_f cC_0 cC_1 cC_2
  refine (right_any bY bm bd _).mono ?_; rintro e w2 ⟨rfl, b2⟩
  have d2 : Below w1.heap.size w1 w2 := below_step (by repeat (first | exact Below.refl _ _ | refine below_drewN ?_ _ | refine Below.drew ?_ | refine Below.setCell ?_ (by simp) _ | refine Below.alloc ?_ (by simp) _)) b2
  have B2 := Lib.hid (below_step B1.out d2)
  have A2 := A1.keep d2
  have C2 := C1.keep d2
  clear A1 C1 b2 d2 B1
  rw [HB.out]
  have cA_b := A2.hb
  have cA_f := A2.fz
  have cA_0 := A2.k0
  have cA_1 := A2.k1
  have cA_2 := A2.k2
  have cC_b := C2.hb
  have cC_f := C2.fz
  have cC_0 := C2.k0
  have cC_1 := C2.k1
  have cC_2 := C2.k2
  go_wp2_with fail
  clear cA_b cA_f cA_0 cA_1 cA_2 cC_b cC_f cC_0 cC_1 cC_2
  have qA_0 := cell_regrown A2.k0
  have qA_1 := cell_regrown A2.k1
  have qA_2 := cell_regrown A2.k2
  have qC_0 := cell_regrown C2.k0
  have qC_1 := cell_regrown C2.k1
  have qC_2 := cell_regrown C2.k2
  refine wp_region_qb (w := w2) (by kernel_rfl) (by kernel_rfl) (by repeat (first | exact Below.refl _ _ | refine below_drewN ?_ _ | refine Below.drew ?_ | refine Below.setCell ?_ (by simp) _ | refine Below.alloc ?_ (by simp) _)) ?_
  repeat (any_goals (first | go_big_quiet_step (first | (go_at_call 52; exact Calls.regrown_of (monthOf_any _ _ _ _ (by omega) (by omega) (by omega) (by omega)))) | quiet_step (first | (go_at_call 52; exact Calls.regrown_of (monthOf_any _ _ _ _ (by omega) (by omega) (by omega) (by omega))))))
  refine wpQuiet_nil ?_
  intro w3 hq
  have b3 : Below w2.heap.size w2 w3 := by obtain ⟨p, hq⟩ := hq; rw [hq]; exact below_regrown _ _ _
  clear hq qA_0 qA_1 qA_2 qC_0 qC_1 qC_2
  have d3 : Below w2.heap.size w2 w3 := below_step (by repeat (first | exact Below.refl _ _ | refine below_drewN ?_ _ | refine Below.drew ?_ | refine Below.setCell ?_ (by simp) _ | refine Below.alloc ?_ (by simp) _)) b3
  have B3 := Lib.hid (below_step B2.out d3)
  have A3 := A2.keep d3
  have C3 := C2.keep d3
  clear A2 C2 b3 d3 B2
  clear ws
  have cA_b := A3.hb
  have cA_f := A3.fz
  have cA_0 := A3.k0
  have cA_1 := A3.k1
  have cA_2 := A3.k2
  have cC_b := C3.hb
  have cC_f := C3.fz
  have cC_0 := C3.k0
  have cC_1 := C3.k1
  have cC_2 := C3.k2
  go_wp2_with fail
  clear cA_b cA_f cA_0 cA_1 cA_2 cC_b cC_f cC_0 cC_1 cC_2
  refine (madd_any ay am ad (Mo.n0 ay am bY bm) _ (by omega) (by omega)).mono ?_; rintro e w4 ⟨rfl, b4⟩
  have d4 : Below w3.heap.size w3 w4 := below_step (by repeat (first | exact Below.refl _ _ | refine below_drewN ?_ _ | refine Below.drew ?_ | refine Below.setCell ?_ (by simp) _ | refine Below.alloc ?_ (by simp) _)) b4
  have B4 := Lib.hid (below_step B3.out d4)
  have A4 := A3.keep d4
  have C4 := C3.keep d4
  clear A3 C3 b4 d4 B3
  rw [M.out.1, M.out.2.1, M.out.2.2.1, M.out.2.2.2]
  simp only [Cal.orz, Cal.why, if_true]
  have cA_b := A4.hb
  have cA_f := A4.fz
  have cA_0 := A4.k0
  have cA_1 := A4.k1
  have cA_2 := A4.k2
  have cC_b := C4.hb
  have cC_f := C4.fz
  have cC_0 := C4.k0
  have cC_1 := C4.k1
  have cC_2 := C4.k2
  go_wp2_with fail
  clear cA_b cA_f cA_0 cA_1 cA_2 cC_b cC_f cC_0 cC_1 cC_2
  refine (dcompare _ _ _ _ _ _ _).mono ?_; rintro e w5 ⟨rfl, b5⟩
  have d5 : Below w4.heap.size w4 w5 := below_step (by repeat (first | exact Below.refl _ _ | refine below_drewN ?_ _ | refine Below.drew ?_ | refine Below.setCell ?_ (by simp) _ | refine Below.alloc ?_ (by simp) _)) b5
  have B5 := Lib.hid (below_step B4.out d5)
  have A5 := A4.keep d5
  have C5 := C4.keep d5
  have aQ := B4.out.size
  have nQA := Nat.ne_of_lt A4.hb
  have oQA := Nat.ne_of_gt A4.hb
  have nQC := Nat.ne_of_lt C4.hb
  have oQC := Nat.ne_of_gt C4.hb
  have Q5 : Bk3 w5 (w4.heap.size) (.int .i64 bY) (.int .i64 bm) (.int .i64 (min ad (Cal.len bY bm))) := Bk3.of b5 (by simp <;> omega) (by intro j; simp [go_sem]) (by simp [go_sem]) (by simp [go_sem]) (by simp [go_sem])
  clear A4 C4 b5 d5 B4
  have lc := LC.out
  have cA_b := A5.hb
  have cA_f := A5.fz
  have cA_0 := A5.k0
  have cA_1 := A5.k1
  have cA_2 := A5.k2
  have cC_b := C5.hb
  have cC_f := C5.fz
  have cC_0 := C5.k0
  have cC_1 := C5.k1
  have cC_2 := C5.k2
  have cQ_b := Q5.hb
  have cQ_f := Q5.fz
  have cQ_0 := Q5.k0
  have cQ_1 := Q5.k1
  have cQ_2 := Q5.k2
  go_wp2_with fail
  clear cA_b cA_f cA_0 cA_1 cA_2 cC_b cC_f cC_0 cC_1 cC_2 cQ_b cQ_f cQ_0 cQ_1 cQ_2
  clear lc
  refine wp_loop_rounds 3 ?_
  rw [rounds_succ]
  have cA_b := A5.hb
  have cA_f := A5.fz
  have cA_0 := A5.k0
  have cA_1 := A5.k1
  have cA_2 := A5.k2
  have cC_b := C5.hb
  have cC_f := C5.fz
  have cC_0 := C5.k0
  have cC_1 := C5.k1
  have cC_2 := C5.k2
  have cQ_b := Q5.hb
  have cQ_f := Q5.fz
  have cQ_0 := Q5.k0
  have cQ_1 := Q5.k1
  have cQ_2 := Q5.k2
  go_wp2_with fail
  clear cA_b cA_f cA_0 cA_1 cA_2 cC_b cC_f cC_0 cC_1 cC_2 cQ_b cQ_f cQ_0 cQ_1 cQ_2
  refine (madd_any ay am ad (Mo.n0 ay am bY bm) _ (by omega) (by omega)).mono ?_; rintro e w6 ⟨rfl, b6⟩
  have d6 : Below w5.heap.size w5 w6 := below_step (by repeat (first | exact Below.refl _ _ | refine below_drewN ?_ _ | refine Below.drew ?_ | refine Below.setCell ?_ (by simp) _ | refine Below.alloc ?_ (by simp) _)) b6
  have B6 := Lib.hid (below_step B5.out d6)
  have A6 := A5.keep d6
  have C6 := C5.keep d6
  have Q6 := Q5.keep d6
  clear A5 C5 Q5 b6 d6 B5
  rw [show Mo.mok ay am ad (Mo.n0 ay am bY bm) = Mo.mok ay am ad (Mo.bn ay am ad bY bm bd) by rw [E.out], H1.out]
  simp only [Cal.orz, Cal.why, if_true, Bool.false_eq_true, if_false]
  have cA_b := A6.hb
  have cA_f := A6.fz
  have cA_0 := A6.k0
  have cA_1 := A6.k1
  have cA_2 := A6.k2
  have cC_b := C6.hb
  have cC_f := C6.fz
  have cC_0 := C6.k0
  have cC_1 := C6.k1
  have cC_2 := C6.k2
  have cQ_b := Q6.hb
  have cQ_f := Q6.fz
  have cQ_0 := Q6.k0
  have cQ_1 := Q6.k1
  have cQ_2 := Q6.k2
  go_wp2_with fail
  clear cA_b cA_f cA_0 cA_1 cA_2 cC_b cC_f cC_0 cC_1 cC_2 cQ_b cQ_f cQ_0 cQ_1 cQ_2
  rw [rounds_succ]
  have cA_b := A6.hb
  have cA_f := A6.fz
  have cA_0 := A6.k0
  have cA_1 := A6.k1
  have cA_2 := A6.k2
  have cC_b := C6.hb
  have cC_f := C6.fz
  have cC_0 := C6.k0
  have cC_1 := C6.k1
  have cC_2 := C6.k2
  have cQ_b := Q6.hb
  have cQ_f := Q6.fz
  have cQ_0 := Q6.k0
  have cQ_1 := Q6.k1
  have cQ_2 := Q6.k2
  go_wp2_with fail
  clear cA_b cA_f cA_0 cA_1 cA_2 cC_b cC_f cC_0 cC_1 cC_2 cQ_b cQ_f cQ_0 cQ_1 cQ_2
  refine (madd_any ay am ad (Mo.n0 ay am bY bm + 1) _ (by omega) (by omega)).mono ?_; rintro e w7 ⟨rfl, b7⟩
  have d7 : Below w6.heap.size w6 w7 := below_step (by repeat (first | exact Below.refl _ _ | refine below_drewN ?_ _ | refine Below.drew ?_ | refine Below.setCell ?_ (by simp) _ | refine Below.alloc ?_ (by simp) _)) b7
  have B7 := Lib.hid (below_step B6.out d7)
  have A7 := A6.keep d7
  have C7 := C6.keep d7
  have Q7 := Q6.keep d7
  clear A6 C6 Q6 b7 d7 B6
  rw [show Mo.mok ay am ad (Mo.n0 ay am bY bm + 1) = Mo.mok ay am ad (Mo.bn ay am ad bY bm bd + 1) by rw [E2.out], H2.out]
  simp only [Cal.orz, Cal.why, if_true, Bool.false_eq_true, if_false]
  go_wp2_with fail; rw [rounds_succ]
  have cA_b := A7.hb
  have cA_f := A7.fz
  have cA_0 := A7.k0
  have cA_1 := A7.k1
  have cA_2 := A7.k2
  have cC_b := C7.hb
  have cC_f := C7.fz
  have cC_0 := C7.k0
  have cC_1 := C7.k1
  have cC_2 := C7.k2
  have cQ_b := Q7.hb
  have cQ_f := Q7.fz
  have cQ_0 := Q7.k0
  have cQ_1 := Q7.k1
  have cQ_2 := Q7.k2
  go_wp2_with fail
  clear cA_b cA_f cA_0 cA_1 cA_2 cC_b cC_f cC_0 cC_1 cC_2 cQ_b cQ_f cQ_0 cQ_1 cQ_2
  go_ret2
  rw [E.out]
  refine ⟨rfl, ?_⟩
  exact (by have hz := B7.out.size; repeat (first | exact B7.out | refine below_drewN ?_ _ | refine Below.drew ?_ | refine Below.setCell ?_ (by first | omega | (simp; done) | (simp; omega)) _ | refine Below.alloc ?_ (by first | omega | (simp; done) | (simp; omega)) _))
set_option maxHeartbeats 2000000 in
theorem mbet_yn_true (ay am ad bY bm bd : Int) (w : World) (ha : rightB ay am ad = true) (hb : rightB bY bm bd = true) (hl : Mo.late ad bY bm bd = true) (h1 : Mo.mok ay am ad (Mo.bn ay am ad bY bm bd) = true) (h2 : Mo.mok ay am ad (Mo.bn ay am ad bY bm bd + 1) = false) :
    Calls Try.prog 30 #[.agg #[.int .i64 ay, .int .i64 am, .int .i64 ad], .agg #[.int .i64 bY, .int .i64 bm, .int .i64 bd]] w fun e w' => e = .returned (.tuple #[.int .i64 0, .int .i64 1]) ∧ Below w.heap.size w w' := by
  have M := Lib.hid (Mo.at_b ha hb)
  have a := right_true.1 ha; have b := right_true.1 hb
  obtain ⟨am1, am2⟩ := Cal.month_of a
  obtain ⟨bm1, bm2⟩ := Cal.month_of b
  have ay1 := a.y0; have ay2 := a.y1; have by1 := b.y0; have by2 := b.y1
  have n1 : -2000000 ≤ Mo.n0 ay am bY bm := by unfold Mo.n0; omega
  have n2 : Mo.n0 ay am bY bm ≤ 2000000 := by unfold Mo.n0; omega
  have ix0 : ∀ x y w, Sem.run Try.prog (Instr.index 69 (.agg #[.int .i64 x, .int .i64 y]) (.int .i64 0)) w = .ok (.int .i64 x) w := fun _ _ _ => by kernel_rfl
  have ix1 : ∀ x y w, Sem.run Try.prog (Instr.index 69 (.agg #[.int .i64 x, .int .i64 y]) (.int .i64 1)) w = .ok (.int .i64 y) w := fun _ _ _ => by kernel_rfl
  have ws : IntKind.i64.wrap (bY * 12 + bm - 1 - (ay * 12 + am - 1)) = Mo.n0 ay am bY bm := IntWalk.i64_in _ (by omega)
  have HA := Lib.hid ha; have HB := Lib.hid hb
  have LC := Lib.hid ((Mo.late_cmp ad bY bm bd).trans hl)
  have bn1 : -2000002 ≤ Mo.bn ay am ad bY bm bd := by unfold Mo.bn; split <;> omega
  have bn2 : Mo.bn ay am ad bY bm bd ≤ 2000002 := by unfold Mo.bn; split <;> omega
  have E := Lib.hid (show Mo.bn ay am ad bY bm bd = Mo.n0 ay am bY bm - 1 by unfold Mo.bn; rw [hl]; rfl)
  have E2 := Lib.hid (show Mo.bn ay am ad bY bm bd + 1 = Mo.n0 ay am bY bm by unfold Mo.bn; rw [hl]; simp)
  have H1 := Lib.hid h1
  have H2 := Lib.hid h2; clear h2
  clear a b ha hb h1 hl
  go_enter Try.func30, Try.ntmps30
  go_wp2_with fail
  refine (right_any ay am ad _).mono ?_; rintro e w1 ⟨rfl, b1⟩
  have d1 : Below w.heap.size w w1 := below_step (by repeat (first | exact Below.refl _ _ | refine below_drewN ?_ _ | refine Below.drew ?_ | refine Below.setCell ?_ (by simp) _ | refine Below.alloc ?_ (by simp) _)) b1
  have B1 := Lib.hid d1
  have A1 : Bk3 w1 (w.heap.size) (.int .i64 ay) (.int .i64 am) (.int .i64 ad) := Bk3.of b1 (by simp <;> omega) (by intro j; simp [go_sem]) (by simp [go_sem]) (by simp [go_sem]) (by simp [go_sem])
  have C1 : Bk3 w1 (w.heap.size + 1) (.int .i64 bY) (.int .i64 bm) (.int .i64 bd) := Bk3.of b1 (by simp <;> omega) (by intro j; simp [go_sem]) (by simp [go_sem]) (by simp [go_sem]) (by simp [go_sem])
  clear b1 d1
  rw [HA.out]
  have cA_b := A1.hb
  have cA_f := A1.fz
  have cA_0 := A1.k0
  have cA_1 := A1.k1
  have cA_2 := A1.k2
  have cC_b := C1.hb
  have cC_f := C1.fz
  have cC_0 := C1.k0
  have cC_1 := C1.k1
  have cC_2 := C1.k2
  go_wp2_with fail
  clear cA_b cA_f cA_0 cA_1 cA_2 cC_b cC_f cC_0 cC_1 cC_2
  refine (right_any bY bm bd _).mono ?_; rintro e w2 ⟨rfl, b2⟩
  have d2 : Below w1.heap.size w1 w2 := below_step (by repeat (first | exact Below.refl _ _ | refine below_drewN ?_ _ | refine Below.drew ?_ | refine Below.setCell ?_ (by simp) _ | refine Below.alloc ?_ (by simp) _)) b2
  have B2 := Lib.hid (below_step B1.out d2)
  have A2 := A1.keep d2
  have C2 := C1.keep d2
  clear A1 C1 b2 d2 B1
  rw [HB.out]
  have cA_b := A2.hb
  have cA_f := A2.fz
  have cA_0 := A2.k0
  have cA_1 := A2.k1
  have cA_2 := A2.k2
  have cC_b := C2.hb
  have cC_f := C2.fz
  have cC_0 := C2.k0
  have cC_1 := C2.k1
  have cC_2 := C2.k2
  go_wp2_with fail
  clear cA_b cA_f cA_0 cA_1 cA_2 cC_b cC_f cC_0 cC_1 cC_2
  have qA_0 := cell_regrown A2.k0
  have qA_1 := cell_regrown A2.k1
  have qA_2 := cell_regrown A2.k2
  have qC_0 := cell_regrown C2.k0
  have qC_1 := cell_regrown C2.k1
  have qC_2 := cell_regrown C2.k2
  refine wp_region_qb (w := w2) (by kernel_rfl) (by kernel_rfl) (by repeat (first | exact Below.refl _ _ | refine below_drewN ?_ _ | refine Below.drew ?_ | refine Below.setCell ?_ (by simp) _ | refine Below.alloc ?_ (by simp) _)) ?_
  repeat (any_goals (first | go_big_quiet_step (first | (go_at_call 52; exact Calls.regrown_of (monthOf_any _ _ _ _ (by omega) (by omega) (by omega) (by omega)))) | quiet_step (first | (go_at_call 52; exact Calls.regrown_of (monthOf_any _ _ _ _ (by omega) (by omega) (by omega) (by omega))))))
  refine wpQuiet_nil ?_
  intro w3 hq
  have b3 : Below w2.heap.size w2 w3 := by obtain ⟨p, hq⟩ := hq; rw [hq]; exact below_regrown _ _ _
  clear hq qA_0 qA_1 qA_2 qC_0 qC_1 qC_2
  have d3 : Below w2.heap.size w2 w3 := below_step (by repeat (first | exact Below.refl _ _ | refine below_drewN ?_ _ | refine Below.drew ?_ | refine Below.setCell ?_ (by simp) _ | refine Below.alloc ?_ (by simp) _)) b3
  have B3 := Lib.hid (below_step B2.out d3)
  have A3 := A2.keep d3
  have C3 := C2.keep d3
  clear A2 C2 b3 d3 B2
  clear ws
  have cA_b := A3.hb
  have cA_f := A3.fz
  have cA_0 := A3.k0
  have cA_1 := A3.k1
  have cA_2 := A3.k2
  have cC_b := C3.hb
  have cC_f := C3.fz
  have cC_0 := C3.k0
  have cC_1 := C3.k1
  have cC_2 := C3.k2
  go_wp2_with fail
  clear cA_b cA_f cA_0 cA_1 cA_2 cC_b cC_f cC_0 cC_1 cC_2
  refine (madd_any ay am ad (Mo.n0 ay am bY bm) _ (by omega) (by omega)).mono ?_; rintro e w4 ⟨rfl, b4⟩
  have d4 : Below w3.heap.size w3 w4 := below_step (by repeat (first | exact Below.refl _ _ | refine below_drewN ?_ _ | refine Below.drew ?_ | refine Below.setCell ?_ (by simp) _ | refine Below.alloc ?_ (by simp) _)) b4
  have B4 := Lib.hid (below_step B3.out d4)
  have A4 := A3.keep d4
  have C4 := C3.keep d4
  clear A3 C3 b4 d4 B3
  rw [M.out.1, M.out.2.1, M.out.2.2.1, M.out.2.2.2]
  simp only [Cal.orz, Cal.why, if_true]
  have cA_b := A4.hb
  have cA_f := A4.fz
  have cA_0 := A4.k0
  have cA_1 := A4.k1
  have cA_2 := A4.k2
  have cC_b := C4.hb
  have cC_f := C4.fz
  have cC_0 := C4.k0
  have cC_1 := C4.k1
  have cC_2 := C4.k2
  go_wp2_with fail
  clear cA_b cA_f cA_0 cA_1 cA_2 cC_b cC_f cC_0 cC_1 cC_2
  refine (dcompare _ _ _ _ _ _ _).mono ?_; rintro e w5 ⟨rfl, b5⟩
  have d5 : Below w4.heap.size w4 w5 := below_step (by repeat (first | exact Below.refl _ _ | refine below_drewN ?_ _ | refine Below.drew ?_ | refine Below.setCell ?_ (by simp) _ | refine Below.alloc ?_ (by simp) _)) b5
  have B5 := Lib.hid (below_step B4.out d5)
  have A5 := A4.keep d5
  have C5 := C4.keep d5
  have aQ := B4.out.size
  have nQA := Nat.ne_of_lt A4.hb
  have oQA := Nat.ne_of_gt A4.hb
  have nQC := Nat.ne_of_lt C4.hb
  have oQC := Nat.ne_of_gt C4.hb
  have Q5 : Bk3 w5 (w4.heap.size) (.int .i64 bY) (.int .i64 bm) (.int .i64 (min ad (Cal.len bY bm))) := Bk3.of b5 (by simp <;> omega) (by intro j; simp [go_sem]) (by simp [go_sem]) (by simp [go_sem]) (by simp [go_sem])
  clear A4 C4 b5 d5 B4
  have lc := LC.out
  have cA_b := A5.hb
  have cA_f := A5.fz
  have cA_0 := A5.k0
  have cA_1 := A5.k1
  have cA_2 := A5.k2
  have cC_b := C5.hb
  have cC_f := C5.fz
  have cC_0 := C5.k0
  have cC_1 := C5.k1
  have cC_2 := C5.k2
  have cQ_b := Q5.hb
  have cQ_f := Q5.fz
  have cQ_0 := Q5.k0
  have cQ_1 := Q5.k1
  have cQ_2 := Q5.k2
  go_wp2_with fail
  clear cA_b cA_f cA_0 cA_1 cA_2 cC_b cC_f cC_0 cC_1 cC_2 cQ_b cQ_f cQ_0 cQ_1 cQ_2
  clear lc
  refine wp_loop_rounds 3 ?_
  rw [rounds_succ]
  have cA_b := A5.hb
  have cA_f := A5.fz
  have cA_0 := A5.k0
  have cA_1 := A5.k1
  have cA_2 := A5.k2
  have cC_b := C5.hb
  have cC_f := C5.fz
  have cC_0 := C5.k0
  have cC_1 := C5.k1
  have cC_2 := C5.k2
  have cQ_b := Q5.hb
  have cQ_f := Q5.fz
  have cQ_0 := Q5.k0
  have cQ_1 := Q5.k1
  have cQ_2 := Q5.k2
  go_wp2_with fail
  clear cA_b cA_f cA_0 cA_1 cA_2 cC_b cC_f cC_0 cC_1 cC_2 cQ_b cQ_f cQ_0 cQ_1 cQ_2
  refine (madd_any ay am ad (Mo.n0 ay am bY bm - 1) _ (by omega) (by omega)).mono ?_; rintro e w6 ⟨rfl, b6⟩
  have d6 : Below w5.heap.size w5 w6 := below_step (by repeat (first | exact Below.refl _ _ | refine below_drewN ?_ _ | refine Below.drew ?_ | refine Below.setCell ?_ (by simp) _ | refine Below.alloc ?_ (by simp) _)) b6
  have B6 := Lib.hid (below_step B5.out d6)
  have A6 := A5.keep d6
  have C6 := C5.keep d6
  have Q6 := Q5.keep d6
  clear A5 C5 Q5 b6 d6 B5
  rw [show Mo.mok ay am ad (Mo.n0 ay am bY bm - 1) = Mo.mok ay am ad (Mo.bn ay am ad bY bm bd) by rw [E.out], H1.out]
  simp only [Cal.orz, Cal.why, if_true, Bool.false_eq_true, if_false]
  have cA_b := A6.hb
  have cA_f := A6.fz
  have cA_0 := A6.k0
  have cA_1 := A6.k1
  have cA_2 := A6.k2
  have cC_b := C6.hb
  have cC_f := C6.fz
  have cC_0 := C6.k0
  have cC_1 := C6.k1
  have cC_2 := C6.k2
  have cQ_b := Q6.hb
  have cQ_f := Q6.fz
  have cQ_0 := Q6.k0
  have cQ_1 := Q6.k1
  have cQ_2 := Q6.k2
  go_wp2_with fail
  clear cA_b cA_f cA_0 cA_1 cA_2 cC_b cC_f cC_0 cC_1 cC_2 cQ_b cQ_f cQ_0 cQ_1 cQ_2
  rw [rounds_succ]
  have cA_b := A6.hb
  have cA_f := A6.fz
  have cA_0 := A6.k0
  have cA_1 := A6.k1
  have cA_2 := A6.k2
  have cC_b := C6.hb
  have cC_f := C6.fz
  have cC_0 := C6.k0
  have cC_1 := C6.k1
  have cC_2 := C6.k2
  have cQ_b := Q6.hb
  have cQ_f := Q6.fz
  have cQ_0 := Q6.k0
  have cQ_1 := Q6.k1
  have cQ_2 := Q6.k2
  go_wp2_with fail
  clear cA_b cA_f cA_0 cA_1 cA_2 cC_b cC_f cC_0 cC_1 cC_2 cQ_b cQ_f cQ_0 cQ_1 cQ_2
  refine (madd_any ay am ad (Mo.n0 ay am bY bm) _ (by omega) (by omega)).mono ?_; rintro e w7 ⟨rfl, b7⟩
  have d7 : Below w6.heap.size w6 w7 := below_step (by repeat (first | exact Below.refl _ _ | refine below_drewN ?_ _ | refine Below.drew ?_ | refine Below.setCell ?_ (by simp) _ | refine Below.alloc ?_ (by simp) _)) b7
  have B7 := Lib.hid (below_step B6.out d7)
  have A7 := A6.keep d7
  have C7 := C6.keep d7
  have Q7 := Q6.keep d7
  clear A6 C6 Q6 b7 d7 B6
  rw [show Mo.mok ay am ad (Mo.n0 ay am bY bm) = Mo.mok ay am ad (Mo.bn ay am ad bY bm bd + 1) by rw [E2.out], H2.out]
  simp only [Cal.orz, Cal.why, if_true, Bool.false_eq_true, if_false]
  skip
  have cA_b := A7.hb
  have cA_f := A7.fz
  have cA_0 := A7.k0
  have cA_1 := A7.k1
  have cA_2 := A7.k2
  have cC_b := C7.hb
  have cC_f := C7.fz
  have cC_0 := C7.k0
  have cC_1 := C7.k1
  have cC_2 := C7.k2
  have cQ_b := Q7.hb
  have cQ_f := Q7.fz
  have cQ_0 := Q7.k0
  have cQ_1 := Q7.k1
  have cQ_2 := Q7.k2
  go_wp2_with fail
  clear cA_b cA_f cA_0 cA_1 cA_2 cC_b cC_f cC_0 cC_1 cC_2 cQ_b cQ_f cQ_0 cQ_1 cQ_2
  go_ret2
  skip
  refine ⟨rfl, ?_⟩
  exact (by have hz := B7.out.size; repeat (first | exact B7.out | refine below_drewN ?_ _ | refine Below.drew ?_ | refine Below.setCell ?_ (by first | omega | (simp; done) | (simp; omega)) _ | refine Below.alloc ?_ (by first | omega | (simp; done) | (simp; omega)) _))
set_option maxHeartbeats 2000000 in
theorem mbet_yn_false (ay am ad bY bm bd : Int) (w : World) (ha : rightB ay am ad = true) (hb : rightB bY bm bd = true) (hl : Mo.late ad bY bm bd = false) (h1 : Mo.mok ay am ad (Mo.bn ay am ad bY bm bd) = true) (h2 : Mo.mok ay am ad (Mo.bn ay am ad bY bm bd + 1) = false) :
    Calls Try.prog 30 #[.agg #[.int .i64 ay, .int .i64 am, .int .i64 ad], .agg #[.int .i64 bY, .int .i64 bm, .int .i64 bd]] w fun e w' => e = .returned (.tuple #[.int .i64 0, .int .i64 1]) ∧ Below w.heap.size w w' := by
  have M := Lib.hid (Mo.at_b ha hb)
  have a := right_true.1 ha; have b := right_true.1 hb
  obtain ⟨am1, am2⟩ := Cal.month_of a
  obtain ⟨bm1, bm2⟩ := Cal.month_of b
  have ay1 := a.y0; have ay2 := a.y1; have by1 := b.y0; have by2 := b.y1
  have n1 : -2000000 ≤ Mo.n0 ay am bY bm := by unfold Mo.n0; omega
  have n2 : Mo.n0 ay am bY bm ≤ 2000000 := by unfold Mo.n0; omega
  have ix0 : ∀ x y w, Sem.run Try.prog (Instr.index 69 (.agg #[.int .i64 x, .int .i64 y]) (.int .i64 0)) w = .ok (.int .i64 x) w := fun _ _ _ => by kernel_rfl
  have ix1 : ∀ x y w, Sem.run Try.prog (Instr.index 69 (.agg #[.int .i64 x, .int .i64 y]) (.int .i64 1)) w = .ok (.int .i64 y) w := fun _ _ _ => by kernel_rfl
  have ws : IntKind.i64.wrap (bY * 12 + bm - 1 - (ay * 12 + am - 1)) = Mo.n0 ay am bY bm := IntWalk.i64_in _ (by omega)
  have HA := Lib.hid ha; have HB := Lib.hid hb
  have LC := Lib.hid ((Mo.late_cmp ad bY bm bd).trans hl)
  have bn1 : -2000002 ≤ Mo.bn ay am ad bY bm bd := by unfold Mo.bn; split <;> omega
  have bn2 : Mo.bn ay am ad bY bm bd ≤ 2000002 := by unfold Mo.bn; split <;> omega
  have E := Lib.hid (show Mo.bn ay am ad bY bm bd = Mo.n0 ay am bY bm by unfold Mo.bn; rw [hl]; rfl)
  have E2 := Lib.hid (show Mo.bn ay am ad bY bm bd + 1 = Mo.n0 ay am bY bm + 1 by unfold Mo.bn; rw [hl]; simp)
  have H1 := Lib.hid h1
  have H2 := Lib.hid h2; clear h2
  clear a b ha hb h1 hl
  go_enter Try.func30, Try.ntmps30
  go_wp2_with fail
  refine (right_any ay am ad _).mono ?_; rintro e w1 ⟨rfl, b1⟩
  have d1 : Below w.heap.size w w1 := below_step (by repeat (first | exact Below.refl _ _ | refine below_drewN ?_ _ | refine Below.drew ?_ | refine Below.setCell ?_ (by simp) _ | refine Below.alloc ?_ (by simp) _)) b1
  have B1 := Lib.hid d1
  have A1 : Bk3 w1 (w.heap.size) (.int .i64 ay) (.int .i64 am) (.int .i64 ad) := Bk3.of b1 (by simp <;> omega) (by intro j; simp [go_sem]) (by simp [go_sem]) (by simp [go_sem]) (by simp [go_sem])
  have C1 : Bk3 w1 (w.heap.size + 1) (.int .i64 bY) (.int .i64 bm) (.int .i64 bd) := Bk3.of b1 (by simp <;> omega) (by intro j; simp [go_sem]) (by simp [go_sem]) (by simp [go_sem]) (by simp [go_sem])
  clear b1 d1
  rw [HA.out]
  have cA_b := A1.hb
  have cA_f := A1.fz
  have cA_0 := A1.k0
  have cA_1 := A1.k1
  have cA_2 := A1.k2
  have cC_b := C1.hb
  have cC_f := C1.fz
  have cC_0 := C1.k0
  have cC_1 := C1.k1
  have cC_2 := C1.k2
  go_wp2_with fail
  clear cA_b cA_f cA_0 cA_1 cA_2 cC_b cC_f cC_0 cC_1 cC_2
  refine (right_any bY bm bd _).mono ?_; rintro e w2 ⟨rfl, b2⟩
  have d2 : Below w1.heap.size w1 w2 := below_step (by repeat (first | exact Below.refl _ _ | refine below_drewN ?_ _ | refine Below.drew ?_ | refine Below.setCell ?_ (by simp) _ | refine Below.alloc ?_ (by simp) _)) b2
  have B2 := Lib.hid (below_step B1.out d2)
  have A2 := A1.keep d2
  have C2 := C1.keep d2
  clear A1 C1 b2 d2 B1
  rw [HB.out]
  have cA_b := A2.hb
  have cA_f := A2.fz
  have cA_0 := A2.k0
  have cA_1 := A2.k1
  have cA_2 := A2.k2
  have cC_b := C2.hb
  have cC_f := C2.fz
  have cC_0 := C2.k0
  have cC_1 := C2.k1
  have cC_2 := C2.k2
  go_wp2_with fail
  clear cA_b cA_f cA_0 cA_1 cA_2 cC_b cC_f cC_0 cC_1 cC_2
  have qA_0 := cell_regrown A2.k0
  have qA_1 := cell_regrown A2.k1
  have qA_2 := cell_regrown A2.k2
  have qC_0 := cell_regrown C2.k0
  have qC_1 := cell_regrown C2.k1
  have qC_2 := cell_regrown C2.k2
  refine wp_region_qb (w := w2) (by kernel_rfl) (by kernel_rfl) (by repeat (first | exact Below.refl _ _ | refine below_drewN ?_ _ | refine Below.drew ?_ | refine Below.setCell ?_ (by simp) _ | refine Below.alloc ?_ (by simp) _)) ?_
  repeat (any_goals (first | go_big_quiet_step (first | (go_at_call 52; exact Calls.regrown_of (monthOf_any _ _ _ _ (by omega) (by omega) (by omega) (by omega)))) | quiet_step (first | (go_at_call 52; exact Calls.regrown_of (monthOf_any _ _ _ _ (by omega) (by omega) (by omega) (by omega))))))
  refine wpQuiet_nil ?_
  intro w3 hq
  have b3 : Below w2.heap.size w2 w3 := by obtain ⟨p, hq⟩ := hq; rw [hq]; exact below_regrown _ _ _
  clear hq qA_0 qA_1 qA_2 qC_0 qC_1 qC_2
  have d3 : Below w2.heap.size w2 w3 := below_step (by repeat (first | exact Below.refl _ _ | refine below_drewN ?_ _ | refine Below.drew ?_ | refine Below.setCell ?_ (by simp) _ | refine Below.alloc ?_ (by simp) _)) b3
  have B3 := Lib.hid (below_step B2.out d3)
  have A3 := A2.keep d3
  have C3 := C2.keep d3
  clear A2 C2 b3 d3 B2
  clear ws
  have cA_b := A3.hb
  have cA_f := A3.fz
  have cA_0 := A3.k0
  have cA_1 := A3.k1
  have cA_2 := A3.k2
  have cC_b := C3.hb
  have cC_f := C3.fz
  have cC_0 := C3.k0
  have cC_1 := C3.k1
  have cC_2 := C3.k2
  go_wp2_with fail
  clear cA_b cA_f cA_0 cA_1 cA_2 cC_b cC_f cC_0 cC_1 cC_2
  refine (madd_any ay am ad (Mo.n0 ay am bY bm) _ (by omega) (by omega)).mono ?_; rintro e w4 ⟨rfl, b4⟩
  have d4 : Below w3.heap.size w3 w4 := below_step (by repeat (first | exact Below.refl _ _ | refine below_drewN ?_ _ | refine Below.drew ?_ | refine Below.setCell ?_ (by simp) _ | refine Below.alloc ?_ (by simp) _)) b4
  have B4 := Lib.hid (below_step B3.out d4)
  have A4 := A3.keep d4
  have C4 := C3.keep d4
  clear A3 C3 b4 d4 B3
  rw [M.out.1, M.out.2.1, M.out.2.2.1, M.out.2.2.2]
  simp only [Cal.orz, Cal.why, if_true]
  have cA_b := A4.hb
  have cA_f := A4.fz
  have cA_0 := A4.k0
  have cA_1 := A4.k1
  have cA_2 := A4.k2
  have cC_b := C4.hb
  have cC_f := C4.fz
  have cC_0 := C4.k0
  have cC_1 := C4.k1
  have cC_2 := C4.k2
  go_wp2_with fail
  clear cA_b cA_f cA_0 cA_1 cA_2 cC_b cC_f cC_0 cC_1 cC_2
  refine (dcompare _ _ _ _ _ _ _).mono ?_; rintro e w5 ⟨rfl, b5⟩
  have d5 : Below w4.heap.size w4 w5 := below_step (by repeat (first | exact Below.refl _ _ | refine below_drewN ?_ _ | refine Below.drew ?_ | refine Below.setCell ?_ (by simp) _ | refine Below.alloc ?_ (by simp) _)) b5
  have B5 := Lib.hid (below_step B4.out d5)
  have A5 := A4.keep d5
  have C5 := C4.keep d5
  have aQ := B4.out.size
  have nQA := Nat.ne_of_lt A4.hb
  have oQA := Nat.ne_of_gt A4.hb
  have nQC := Nat.ne_of_lt C4.hb
  have oQC := Nat.ne_of_gt C4.hb
  have Q5 : Bk3 w5 (w4.heap.size) (.int .i64 bY) (.int .i64 bm) (.int .i64 (min ad (Cal.len bY bm))) := Bk3.of b5 (by simp <;> omega) (by intro j; simp [go_sem]) (by simp [go_sem]) (by simp [go_sem]) (by simp [go_sem])
  clear A4 C4 b5 d5 B4
  have lc := LC.out
  have cA_b := A5.hb
  have cA_f := A5.fz
  have cA_0 := A5.k0
  have cA_1 := A5.k1
  have cA_2 := A5.k2
  have cC_b := C5.hb
  have cC_f := C5.fz
  have cC_0 := C5.k0
  have cC_1 := C5.k1
  have cC_2 := C5.k2
  have cQ_b := Q5.hb
  have cQ_f := Q5.fz
  have cQ_0 := Q5.k0
  have cQ_1 := Q5.k1
  have cQ_2 := Q5.k2
  go_wp2_with fail
  clear cA_b cA_f cA_0 cA_1 cA_2 cC_b cC_f cC_0 cC_1 cC_2 cQ_b cQ_f cQ_0 cQ_1 cQ_2
  clear lc
  refine wp_loop_rounds 3 ?_
  rw [rounds_succ]
  have cA_b := A5.hb
  have cA_f := A5.fz
  have cA_0 := A5.k0
  have cA_1 := A5.k1
  have cA_2 := A5.k2
  have cC_b := C5.hb
  have cC_f := C5.fz
  have cC_0 := C5.k0
  have cC_1 := C5.k1
  have cC_2 := C5.k2
  have cQ_b := Q5.hb
  have cQ_f := Q5.fz
  have cQ_0 := Q5.k0
  have cQ_1 := Q5.k1
  have cQ_2 := Q5.k2
  go_wp2_with fail
  clear cA_b cA_f cA_0 cA_1 cA_2 cC_b cC_f cC_0 cC_1 cC_2 cQ_b cQ_f cQ_0 cQ_1 cQ_2
  refine (madd_any ay am ad (Mo.n0 ay am bY bm) _ (by omega) (by omega)).mono ?_; rintro e w6 ⟨rfl, b6⟩
  have d6 : Below w5.heap.size w5 w6 := below_step (by repeat (first | exact Below.refl _ _ | refine below_drewN ?_ _ | refine Below.drew ?_ | refine Below.setCell ?_ (by simp) _ | refine Below.alloc ?_ (by simp) _)) b6
  have B6 := Lib.hid (below_step B5.out d6)
  have A6 := A5.keep d6
  have C6 := C5.keep d6
  have Q6 := Q5.keep d6
  clear A5 C5 Q5 b6 d6 B5
  rw [show Mo.mok ay am ad (Mo.n0 ay am bY bm) = Mo.mok ay am ad (Mo.bn ay am ad bY bm bd) by rw [E.out], H1.out]
  simp only [Cal.orz, Cal.why, if_true, Bool.false_eq_true, if_false]
  have cA_b := A6.hb
  have cA_f := A6.fz
  have cA_0 := A6.k0
  have cA_1 := A6.k1
  have cA_2 := A6.k2
  have cC_b := C6.hb
  have cC_f := C6.fz
  have cC_0 := C6.k0
  have cC_1 := C6.k1
  have cC_2 := C6.k2
  have cQ_b := Q6.hb
  have cQ_f := Q6.fz
  have cQ_0 := Q6.k0
  have cQ_1 := Q6.k1
  have cQ_2 := Q6.k2
  go_wp2_with fail
  clear cA_b cA_f cA_0 cA_1 cA_2 cC_b cC_f cC_0 cC_1 cC_2 cQ_b cQ_f cQ_0 cQ_1 cQ_2
  rw [rounds_succ]
  have cA_b := A6.hb
  have cA_f := A6.fz
  have cA_0 := A6.k0
  have cA_1 := A6.k1
  have cA_2 := A6.k2
  have cC_b := C6.hb
  have cC_f := C6.fz
  have cC_0 := C6.k0
  have cC_1 := C6.k1
  have cC_2 := C6.k2
  have cQ_b := Q6.hb
  have cQ_f := Q6.fz
  have cQ_0 := Q6.k0
  have cQ_1 := Q6.k1
  have cQ_2 := Q6.k2
  go_wp2_with fail
  clear cA_b cA_f cA_0 cA_1 cA_2 cC_b cC_f cC_0 cC_1 cC_2 cQ_b cQ_f cQ_0 cQ_1 cQ_2
  refine (madd_any ay am ad (Mo.n0 ay am bY bm + 1) _ (by omega) (by omega)).mono ?_; rintro e w7 ⟨rfl, b7⟩
  have d7 : Below w6.heap.size w6 w7 := below_step (by repeat (first | exact Below.refl _ _ | refine below_drewN ?_ _ | refine Below.drew ?_ | refine Below.setCell ?_ (by simp) _ | refine Below.alloc ?_ (by simp) _)) b7
  have B7 := Lib.hid (below_step B6.out d7)
  have A7 := A6.keep d7
  have C7 := C6.keep d7
  have Q7 := Q6.keep d7
  clear A6 C6 Q6 b7 d7 B6
  rw [show Mo.mok ay am ad (Mo.n0 ay am bY bm + 1) = Mo.mok ay am ad (Mo.bn ay am ad bY bm bd + 1) by rw [E2.out], H2.out]
  simp only [Cal.orz, Cal.why, if_true, Bool.false_eq_true, if_false]
  skip
  have cA_b := A7.hb
  have cA_f := A7.fz
  have cA_0 := A7.k0
  have cA_1 := A7.k1
  have cA_2 := A7.k2
  have cC_b := C7.hb
  have cC_f := C7.fz
  have cC_0 := C7.k0
  have cC_1 := C7.k1
  have cC_2 := C7.k2
  have cQ_b := Q7.hb
  have cQ_f := Q7.fz
  have cQ_0 := Q7.k0
  have cQ_1 := Q7.k1
  have cQ_2 := Q7.k2
  go_wp2_with fail
  clear cA_b cA_f cA_0 cA_1 cA_2 cC_b cC_f cC_0 cC_1 cC_2 cQ_b cQ_f cQ_0 cQ_1 cQ_2
  go_ret2
  skip
  refine ⟨rfl, ?_⟩
  exact (by have hz := B7.out.size; repeat (first | exact B7.out | refine below_drewN ?_ _ | refine Below.drew ?_ | refine Below.setCell ?_ (by first | omega | (simp; done) | (simp; omega)) _ | refine Below.alloc ?_ (by first | omega | (simp; done) | (simp; omega)) _))
set_option maxHeartbeats 2000000 in
theorem mbet_n_true (ay am ad bY bm bd : Int) (w : World) (ha : rightB ay am ad = true) (hb : rightB bY bm bd = true) (hl : Mo.late ad bY bm bd = true) (h1 : Mo.mok ay am ad (Mo.bn ay am ad bY bm bd) = false) :
    Calls Try.prog 30 #[.agg #[.int .i64 ay, .int .i64 am, .int .i64 ad], .agg #[.int .i64 bY, .int .i64 bm, .int .i64 bd]] w fun e w' => e = .returned (.tuple #[.int .i64 0, .int .i64 1]) ∧ Below w.heap.size w w' := by
  have M := Lib.hid (Mo.at_b ha hb)
  have a := right_true.1 ha; have b := right_true.1 hb
  obtain ⟨am1, am2⟩ := Cal.month_of a
  obtain ⟨bm1, bm2⟩ := Cal.month_of b
  have ay1 := a.y0; have ay2 := a.y1; have by1 := b.y0; have by2 := b.y1
  have n1 : -2000000 ≤ Mo.n0 ay am bY bm := by unfold Mo.n0; omega
  have n2 : Mo.n0 ay am bY bm ≤ 2000000 := by unfold Mo.n0; omega
  have ix0 : ∀ x y w, Sem.run Try.prog (Instr.index 69 (.agg #[.int .i64 x, .int .i64 y]) (.int .i64 0)) w = .ok (.int .i64 x) w := fun _ _ _ => by kernel_rfl
  have ix1 : ∀ x y w, Sem.run Try.prog (Instr.index 69 (.agg #[.int .i64 x, .int .i64 y]) (.int .i64 1)) w = .ok (.int .i64 y) w := fun _ _ _ => by kernel_rfl
  have ws : IntKind.i64.wrap (bY * 12 + bm - 1 - (ay * 12 + am - 1)) = Mo.n0 ay am bY bm := IntWalk.i64_in _ (by omega)
  have HA := Lib.hid ha; have HB := Lib.hid hb
  have LC := Lib.hid ((Mo.late_cmp ad bY bm bd).trans hl)
  have bn1 : -2000002 ≤ Mo.bn ay am ad bY bm bd := by unfold Mo.bn; split <;> omega
  have bn2 : Mo.bn ay am ad bY bm bd ≤ 2000002 := by unfold Mo.bn; split <;> omega
  have E := Lib.hid (show Mo.bn ay am ad bY bm bd = Mo.n0 ay am bY bm - 1 by unfold Mo.bn; rw [hl]; rfl)
  have E2 := Lib.hid (show Mo.bn ay am ad bY bm bd + 1 = Mo.n0 ay am bY bm by unfold Mo.bn; rw [hl]; simp)
  have H1 := Lib.hid h1
  
  clear a b ha hb h1 hl
  go_enter Try.func30, Try.ntmps30
  go_wp2_with fail
  refine (right_any ay am ad _).mono ?_; rintro e w1 ⟨rfl, b1⟩
  have d1 : Below w.heap.size w w1 := below_step (by repeat (first | exact Below.refl _ _ | refine below_drewN ?_ _ | refine Below.drew ?_ | refine Below.setCell ?_ (by simp) _ | refine Below.alloc ?_ (by simp) _)) b1
  have B1 := Lib.hid d1
  have A1 : Bk3 w1 (w.heap.size) (.int .i64 ay) (.int .i64 am) (.int .i64 ad) := Bk3.of b1 (by simp <;> omega) (by intro j; simp [go_sem]) (by simp [go_sem]) (by simp [go_sem]) (by simp [go_sem])
  have C1 : Bk3 w1 (w.heap.size + 1) (.int .i64 bY) (.int .i64 bm) (.int .i64 bd) := Bk3.of b1 (by simp <;> omega) (by intro j; simp [go_sem]) (by simp [go_sem]) (by simp [go_sem]) (by simp [go_sem])
  clear b1 d1
  rw [HA.out]
  have cA_b := A1.hb
  have cA_f := A1.fz
  have cA_0 := A1.k0
  have cA_1 := A1.k1
  have cA_2 := A1.k2
  have cC_b := C1.hb
  have cC_f := C1.fz
  have cC_0 := C1.k0
  have cC_1 := C1.k1
  have cC_2 := C1.k2
  go_wp2_with fail
  clear cA_b cA_f cA_0 cA_1 cA_2 cC_b cC_f cC_0 cC_1 cC_2
  refine (right_any bY bm bd _).mono ?_; rintro e w2 ⟨rfl, b2⟩
  have d2 : Below w1.heap.size w1 w2 := below_step (by repeat (first | exact Below.refl _ _ | refine below_drewN ?_ _ | refine Below.drew ?_ | refine Below.setCell ?_ (by simp) _ | refine Below.alloc ?_ (by simp) _)) b2
  have B2 := Lib.hid (below_step B1.out d2)
  have A2 := A1.keep d2
  have C2 := C1.keep d2
  clear A1 C1 b2 d2 B1
  rw [HB.out]
  have cA_b := A2.hb
  have cA_f := A2.fz
  have cA_0 := A2.k0
  have cA_1 := A2.k1
  have cA_2 := A2.k2
  have cC_b := C2.hb
  have cC_f := C2.fz
  have cC_0 := C2.k0
  have cC_1 := C2.k1
  have cC_2 := C2.k2
  go_wp2_with fail
  clear cA_b cA_f cA_0 cA_1 cA_2 cC_b cC_f cC_0 cC_1 cC_2
  have qA_0 := cell_regrown A2.k0
  have qA_1 := cell_regrown A2.k1
  have qA_2 := cell_regrown A2.k2
  have qC_0 := cell_regrown C2.k0
  have qC_1 := cell_regrown C2.k1
  have qC_2 := cell_regrown C2.k2
  refine wp_region_qb (w := w2) (by kernel_rfl) (by kernel_rfl) (by repeat (first | exact Below.refl _ _ | refine below_drewN ?_ _ | refine Below.drew ?_ | refine Below.setCell ?_ (by simp) _ | refine Below.alloc ?_ (by simp) _)) ?_
  repeat (any_goals (first | go_big_quiet_step (first | (go_at_call 52; exact Calls.regrown_of (monthOf_any _ _ _ _ (by omega) (by omega) (by omega) (by omega)))) | quiet_step (first | (go_at_call 52; exact Calls.regrown_of (monthOf_any _ _ _ _ (by omega) (by omega) (by omega) (by omega))))))
  refine wpQuiet_nil ?_
  intro w3 hq
  have b3 : Below w2.heap.size w2 w3 := by obtain ⟨p, hq⟩ := hq; rw [hq]; exact below_regrown _ _ _
  clear hq qA_0 qA_1 qA_2 qC_0 qC_1 qC_2
  have d3 : Below w2.heap.size w2 w3 := below_step (by repeat (first | exact Below.refl _ _ | refine below_drewN ?_ _ | refine Below.drew ?_ | refine Below.setCell ?_ (by simp) _ | refine Below.alloc ?_ (by simp) _)) b3
  have B3 := Lib.hid (below_step B2.out d3)
  have A3 := A2.keep d3
  have C3 := C2.keep d3
  clear A2 C2 b3 d3 B2
  clear ws
  have cA_b := A3.hb
  have cA_f := A3.fz
  have cA_0 := A3.k0
  have cA_1 := A3.k1
  have cA_2 := A3.k2
  have cC_b := C3.hb
  have cC_f := C3.fz
  have cC_0 := C3.k0
  have cC_1 := C3.k1
  have cC_2 := C3.k2
  go_wp2_with fail
  clear cA_b cA_f cA_0 cA_1 cA_2 cC_b cC_f cC_0 cC_1 cC_2
  refine (madd_any ay am ad (Mo.n0 ay am bY bm) _ (by omega) (by omega)).mono ?_; rintro e w4 ⟨rfl, b4⟩
  have d4 : Below w3.heap.size w3 w4 := below_step (by repeat (first | exact Below.refl _ _ | refine below_drewN ?_ _ | refine Below.drew ?_ | refine Below.setCell ?_ (by simp) _ | refine Below.alloc ?_ (by simp) _)) b4
  have B4 := Lib.hid (below_step B3.out d4)
  have A4 := A3.keep d4
  have C4 := C3.keep d4
  clear A3 C3 b4 d4 B3
  rw [M.out.1, M.out.2.1, M.out.2.2.1, M.out.2.2.2]
  simp only [Cal.orz, Cal.why, if_true]
  have cA_b := A4.hb
  have cA_f := A4.fz
  have cA_0 := A4.k0
  have cA_1 := A4.k1
  have cA_2 := A4.k2
  have cC_b := C4.hb
  have cC_f := C4.fz
  have cC_0 := C4.k0
  have cC_1 := C4.k1
  have cC_2 := C4.k2
  go_wp2_with fail
  clear cA_b cA_f cA_0 cA_1 cA_2 cC_b cC_f cC_0 cC_1 cC_2
  refine (dcompare _ _ _ _ _ _ _).mono ?_; rintro e w5 ⟨rfl, b5⟩
  have d5 : Below w4.heap.size w4 w5 := below_step (by repeat (first | exact Below.refl _ _ | refine below_drewN ?_ _ | refine Below.drew ?_ | refine Below.setCell ?_ (by simp) _ | refine Below.alloc ?_ (by simp) _)) b5
  have B5 := Lib.hid (below_step B4.out d5)
  have A5 := A4.keep d5
  have C5 := C4.keep d5
  have aQ := B4.out.size
  have nQA := Nat.ne_of_lt A4.hb
  have oQA := Nat.ne_of_gt A4.hb
  have nQC := Nat.ne_of_lt C4.hb
  have oQC := Nat.ne_of_gt C4.hb
  have Q5 : Bk3 w5 (w4.heap.size) (.int .i64 bY) (.int .i64 bm) (.int .i64 (min ad (Cal.len bY bm))) := Bk3.of b5 (by simp <;> omega) (by intro j; simp [go_sem]) (by simp [go_sem]) (by simp [go_sem]) (by simp [go_sem])
  clear A4 C4 b5 d5 B4
  have lc := LC.out
  have cA_b := A5.hb
  have cA_f := A5.fz
  have cA_0 := A5.k0
  have cA_1 := A5.k1
  have cA_2 := A5.k2
  have cC_b := C5.hb
  have cC_f := C5.fz
  have cC_0 := C5.k0
  have cC_1 := C5.k1
  have cC_2 := C5.k2
  have cQ_b := Q5.hb
  have cQ_f := Q5.fz
  have cQ_0 := Q5.k0
  have cQ_1 := Q5.k1
  have cQ_2 := Q5.k2
  go_wp2_with fail
  clear cA_b cA_f cA_0 cA_1 cA_2 cC_b cC_f cC_0 cC_1 cC_2 cQ_b cQ_f cQ_0 cQ_1 cQ_2
  clear lc
  refine wp_loop_rounds 3 ?_
  rw [rounds_succ]
  have cA_b := A5.hb
  have cA_f := A5.fz
  have cA_0 := A5.k0
  have cA_1 := A5.k1
  have cA_2 := A5.k2
  have cC_b := C5.hb
  have cC_f := C5.fz
  have cC_0 := C5.k0
  have cC_1 := C5.k1
  have cC_2 := C5.k2
  have cQ_b := Q5.hb
  have cQ_f := Q5.fz
  have cQ_0 := Q5.k0
  have cQ_1 := Q5.k1
  have cQ_2 := Q5.k2
  go_wp2_with fail
  clear cA_b cA_f cA_0 cA_1 cA_2 cC_b cC_f cC_0 cC_1 cC_2 cQ_b cQ_f cQ_0 cQ_1 cQ_2
  refine (madd_any ay am ad (Mo.n0 ay am bY bm - 1) _ (by omega) (by omega)).mono ?_; rintro e w6 ⟨rfl, b6⟩
  have d6 : Below w5.heap.size w5 w6 := below_step (by repeat (first | exact Below.refl _ _ | refine below_drewN ?_ _ | refine Below.drew ?_ | refine Below.setCell ?_ (by simp) _ | refine Below.alloc ?_ (by simp) _)) b6
  have B6 := Lib.hid (below_step B5.out d6)
  have A6 := A5.keep d6
  have C6 := C5.keep d6
  have Q6 := Q5.keep d6
  clear A5 C5 Q5 b6 d6 B5
  rw [show Mo.mok ay am ad (Mo.n0 ay am bY bm - 1) = Mo.mok ay am ad (Mo.bn ay am ad bY bm bd) by rw [E.out], H1.out]
  simp only [Cal.orz, Cal.why, if_true, Bool.false_eq_true, if_false]
  have cA_b := A6.hb
  have cA_f := A6.fz
  have cA_0 := A6.k0
  have cA_1 := A6.k1
  have cA_2 := A6.k2
  have cC_b := C6.hb
  have cC_f := C6.fz
  have cC_0 := C6.k0
  have cC_1 := C6.k1
  have cC_2 := C6.k2
  have cQ_b := Q6.hb
  have cQ_f := Q6.fz
  have cQ_0 := Q6.k0
  have cQ_1 := Q6.k1
  have cQ_2 := Q6.k2
  go_wp2_with fail
  clear cA_b cA_f cA_0 cA_1 cA_2 cC_b cC_f cC_0 cC_1 cC_2 cQ_b cQ_f cQ_0 cQ_1 cQ_2
  go_ret2
  exact ⟨rfl, (by have hz := B6.out.size; repeat (first | exact B6.out | refine below_drewN ?_ _ | refine Below.drew ?_ | refine Below.setCell ?_ (by first | omega | (simp; done) | (simp; omega)) _ | refine Below.alloc ?_ (by first | omega | (simp; done) | (simp; omega)) _))⟩
set_option maxHeartbeats 2000000 in
theorem mbet_n_false (ay am ad bY bm bd : Int) (w : World) (ha : rightB ay am ad = true) (hb : rightB bY bm bd = true) (hl : Mo.late ad bY bm bd = false) (h1 : Mo.mok ay am ad (Mo.bn ay am ad bY bm bd) = false) :
    Calls Try.prog 30 #[.agg #[.int .i64 ay, .int .i64 am, .int .i64 ad], .agg #[.int .i64 bY, .int .i64 bm, .int .i64 bd]] w fun e w' => e = .returned (.tuple #[.int .i64 0, .int .i64 1]) ∧ Below w.heap.size w w' := by
  have M := Lib.hid (Mo.at_b ha hb)
  have a := right_true.1 ha; have b := right_true.1 hb
  obtain ⟨am1, am2⟩ := Cal.month_of a
  obtain ⟨bm1, bm2⟩ := Cal.month_of b
  have ay1 := a.y0; have ay2 := a.y1; have by1 := b.y0; have by2 := b.y1
  have n1 : -2000000 ≤ Mo.n0 ay am bY bm := by unfold Mo.n0; omega
  have n2 : Mo.n0 ay am bY bm ≤ 2000000 := by unfold Mo.n0; omega
  have ix0 : ∀ x y w, Sem.run Try.prog (Instr.index 69 (.agg #[.int .i64 x, .int .i64 y]) (.int .i64 0)) w = .ok (.int .i64 x) w := fun _ _ _ => by kernel_rfl
  have ix1 : ∀ x y w, Sem.run Try.prog (Instr.index 69 (.agg #[.int .i64 x, .int .i64 y]) (.int .i64 1)) w = .ok (.int .i64 y) w := fun _ _ _ => by kernel_rfl
  have ws : IntKind.i64.wrap (bY * 12 + bm - 1 - (ay * 12 + am - 1)) = Mo.n0 ay am bY bm := IntWalk.i64_in _ (by omega)
  have HA := Lib.hid ha; have HB := Lib.hid hb
  have LC := Lib.hid ((Mo.late_cmp ad bY bm bd).trans hl)
  have bn1 : -2000002 ≤ Mo.bn ay am ad bY bm bd := by unfold Mo.bn; split <;> omega
  have bn2 : Mo.bn ay am ad bY bm bd ≤ 2000002 := by unfold Mo.bn; split <;> omega
  have E := Lib.hid (show Mo.bn ay am ad bY bm bd = Mo.n0 ay am bY bm by unfold Mo.bn; rw [hl]; rfl)
  have E2 := Lib.hid (show Mo.bn ay am ad bY bm bd + 1 = Mo.n0 ay am bY bm + 1 by unfold Mo.bn; rw [hl]; simp)
  have H1 := Lib.hid h1
  
  clear a b ha hb h1 hl
  go_enter Try.func30, Try.ntmps30
  go_wp2_with fail
  refine (right_any ay am ad _).mono ?_; rintro e w1 ⟨rfl, b1⟩
  have d1 : Below w.heap.size w w1 := below_step (by repeat (first | exact Below.refl _ _ | refine below_drewN ?_ _ | refine Below.drew ?_ | refine Below.setCell ?_ (by simp) _ | refine Below.alloc ?_ (by simp) _)) b1
  have B1 := Lib.hid d1
  have A1 : Bk3 w1 (w.heap.size) (.int .i64 ay) (.int .i64 am) (.int .i64 ad) := Bk3.of b1 (by simp <;> omega) (by intro j; simp [go_sem]) (by simp [go_sem]) (by simp [go_sem]) (by simp [go_sem])
  have C1 : Bk3 w1 (w.heap.size + 1) (.int .i64 bY) (.int .i64 bm) (.int .i64 bd) := Bk3.of b1 (by simp <;> omega) (by intro j; simp [go_sem]) (by simp [go_sem]) (by simp [go_sem]) (by simp [go_sem])
  clear b1 d1
  rw [HA.out]
  have cA_b := A1.hb
  have cA_f := A1.fz
  have cA_0 := A1.k0
  have cA_1 := A1.k1
  have cA_2 := A1.k2
  have cC_b := C1.hb
  have cC_f := C1.fz
  have cC_0 := C1.k0
  have cC_1 := C1.k1
  have cC_2 := C1.k2
  go_wp2_with fail
  clear cA_b cA_f cA_0 cA_1 cA_2 cC_b cC_f cC_0 cC_1 cC_2
  refine (right_any bY bm bd _).mono ?_; rintro e w2 ⟨rfl, b2⟩
  have d2 : Below w1.heap.size w1 w2 := below_step (by repeat (first | exact Below.refl _ _ | refine below_drewN ?_ _ | refine Below.drew ?_ | refine Below.setCell ?_ (by simp) _ | refine Below.alloc ?_ (by simp) _)) b2
  have B2 := Lib.hid (below_step B1.out d2)
  have A2 := A1.keep d2
  have C2 := C1.keep d2
  clear A1 C1 b2 d2 B1
  rw [HB.out]
  have cA_b := A2.hb
  have cA_f := A2.fz
  have cA_0 := A2.k0
  have cA_1 := A2.k1
  have cA_2 := A2.k2
  have cC_b := C2.hb
  have cC_f := C2.fz
  have cC_0 := C2.k0
  have cC_1 := C2.k1
  have cC_2 := C2.k2
  go_wp2_with fail
  clear cA_b cA_f cA_0 cA_1 cA_2 cC_b cC_f cC_0 cC_1 cC_2
  have qA_0 := cell_regrown A2.k0
  have qA_1 := cell_regrown A2.k1
  have qA_2 := cell_regrown A2.k2
  have qC_0 := cell_regrown C2.k0
  have qC_1 := cell_regrown C2.k1
  have qC_2 := cell_regrown C2.k2
  refine wp_region_qb (w := w2) (by kernel_rfl) (by kernel_rfl) (by repeat (first | exact Below.refl _ _ | refine below_drewN ?_ _ | refine Below.drew ?_ | refine Below.setCell ?_ (by simp) _ | refine Below.alloc ?_ (by simp) _)) ?_
  repeat (any_goals (first | go_big_quiet_step (first | (go_at_call 52; exact Calls.regrown_of (monthOf_any _ _ _ _ (by omega) (by omega) (by omega) (by omega)))) | quiet_step (first | (go_at_call 52; exact Calls.regrown_of (monthOf_any _ _ _ _ (by omega) (by omega) (by omega) (by omega))))))
  refine wpQuiet_nil ?_
  intro w3 hq
  have b3 : Below w2.heap.size w2 w3 := by obtain ⟨p, hq⟩ := hq; rw [hq]; exact below_regrown _ _ _
  clear hq qA_0 qA_1 qA_2 qC_0 qC_1 qC_2
  have d3 : Below w2.heap.size w2 w3 := below_step (by repeat (first | exact Below.refl _ _ | refine below_drewN ?_ _ | refine Below.drew ?_ | refine Below.setCell ?_ (by simp) _ | refine Below.alloc ?_ (by simp) _)) b3
  have B3 := Lib.hid (below_step B2.out d3)
  have A3 := A2.keep d3
  have C3 := C2.keep d3
  clear A2 C2 b3 d3 B2
  clear ws
  have cA_b := A3.hb
  have cA_f := A3.fz
  have cA_0 := A3.k0
  have cA_1 := A3.k1
  have cA_2 := A3.k2
  have cC_b := C3.hb
  have cC_f := C3.fz
  have cC_0 := C3.k0
  have cC_1 := C3.k1
  have cC_2 := C3.k2
  go_wp2_with fail
  clear cA_b cA_f cA_0 cA_1 cA_2 cC_b cC_f cC_0 cC_1 cC_2
  refine (madd_any ay am ad (Mo.n0 ay am bY bm) _ (by omega) (by omega)).mono ?_; rintro e w4 ⟨rfl, b4⟩
  have d4 : Below w3.heap.size w3 w4 := below_step (by repeat (first | exact Below.refl _ _ | refine below_drewN ?_ _ | refine Below.drew ?_ | refine Below.setCell ?_ (by simp) _ | refine Below.alloc ?_ (by simp) _)) b4
  have B4 := Lib.hid (below_step B3.out d4)
  have A4 := A3.keep d4
  have C4 := C3.keep d4
  clear A3 C3 b4 d4 B3
  rw [M.out.1, M.out.2.1, M.out.2.2.1, M.out.2.2.2]
  simp only [Cal.orz, Cal.why, if_true]
  have cA_b := A4.hb
  have cA_f := A4.fz
  have cA_0 := A4.k0
  have cA_1 := A4.k1
  have cA_2 := A4.k2
  have cC_b := C4.hb
  have cC_f := C4.fz
  have cC_0 := C4.k0
  have cC_1 := C4.k1
  have cC_2 := C4.k2
  go_wp2_with fail
  clear cA_b cA_f cA_0 cA_1 cA_2 cC_b cC_f cC_0 cC_1 cC_2
  refine (dcompare _ _ _ _ _ _ _).mono ?_; rintro e w5 ⟨rfl, b5⟩
  have d5 : Below w4.heap.size w4 w5 := below_step (by repeat (first | exact Below.refl _ _ | refine below_drewN ?_ _ | refine Below.drew ?_ | refine Below.setCell ?_ (by simp) _ | refine Below.alloc ?_ (by simp) _)) b5
  have B5 := Lib.hid (below_step B4.out d5)
  have A5 := A4.keep d5
  have C5 := C4.keep d5
  have aQ := B4.out.size
  have nQA := Nat.ne_of_lt A4.hb
  have oQA := Nat.ne_of_gt A4.hb
  have nQC := Nat.ne_of_lt C4.hb
  have oQC := Nat.ne_of_gt C4.hb
  have Q5 : Bk3 w5 (w4.heap.size) (.int .i64 bY) (.int .i64 bm) (.int .i64 (min ad (Cal.len bY bm))) := Bk3.of b5 (by simp <;> omega) (by intro j; simp [go_sem]) (by simp [go_sem]) (by simp [go_sem]) (by simp [go_sem])
  clear A4 C4 b5 d5 B4
  have lc := LC.out
  have cA_b := A5.hb
  have cA_f := A5.fz
  have cA_0 := A5.k0
  have cA_1 := A5.k1
  have cA_2 := A5.k2
  have cC_b := C5.hb
  have cC_f := C5.fz
  have cC_0 := C5.k0
  have cC_1 := C5.k1
  have cC_2 := C5.k2
  have cQ_b := Q5.hb
  have cQ_f := Q5.fz
  have cQ_0 := Q5.k0
  have cQ_1 := Q5.k1
  have cQ_2 := Q5.k2
  go_wp2_with fail
  clear cA_b cA_f cA_0 cA_1 cA_2 cC_b cC_f cC_0 cC_1 cC_2 cQ_b cQ_f cQ_0 cQ_1 cQ_2
  clear lc
  refine wp_loop_rounds 3 ?_
  rw [rounds_succ]
  have cA_b := A5.hb
  have cA_f := A5.fz
  have cA_0 := A5.k0
  have cA_1 := A5.k1
  have cA_2 := A5.k2
  have cC_b := C5.hb
  have cC_f := C5.fz
  have cC_0 := C5.k0
  have cC_1 := C5.k1
  have cC_2 := C5.k2
  have cQ_b := Q5.hb
  have cQ_f := Q5.fz
  have cQ_0 := Q5.k0
  have cQ_1 := Q5.k1
  have cQ_2 := Q5.k2
  go_wp2_with fail
  clear cA_b cA_f cA_0 cA_1 cA_2 cC_b cC_f cC_0 cC_1 cC_2 cQ_b cQ_f cQ_0 cQ_1 cQ_2
  refine (madd_any ay am ad (Mo.n0 ay am bY bm) _ (by omega) (by omega)).mono ?_; rintro e w6 ⟨rfl, b6⟩
  have d6 : Below w5.heap.size w5 w6 := below_step (by repeat (first | exact Below.refl _ _ | refine below_drewN ?_ _ | refine Below.drew ?_ | refine Below.setCell ?_ (by simp) _ | refine Below.alloc ?_ (by simp) _)) b6
  have B6 := Lib.hid (below_step B5.out d6)
  have A6 := A5.keep d6
  have C6 := C5.keep d6
  have Q6 := Q5.keep d6
  clear A5 C5 Q5 b6 d6 B5
  rw [show Mo.mok ay am ad (Mo.n0 ay am bY bm) = Mo.mok ay am ad (Mo.bn ay am ad bY bm bd) by rw [E.out], H1.out]
  simp only [Cal.orz, Cal.why, if_true, Bool.false_eq_true, if_false]
  have cA_b := A6.hb
  have cA_f := A6.fz
  have cA_0 := A6.k0
  have cA_1 := A6.k1
  have cA_2 := A6.k2
  have cC_b := C6.hb
  have cC_f := C6.fz
  have cC_0 := C6.k0
  have cC_1 := C6.k1
  have cC_2 := C6.k2
  have cQ_b := Q6.hb
  have cQ_f := Q6.fz
  have cQ_0 := Q6.k0
  have cQ_1 := Q6.k1
  have cQ_2 := Q6.k2
  go_wp2_with fail
  clear cA_b cA_f cA_0 cA_1 cA_2 cC_b cC_f cC_0 cC_1 cC_2 cQ_b cQ_f cQ_0 cQ_1 cQ_2
  go_ret2
  exact ⟨rfl, (by have hz := B6.out.size; repeat (first | exact B6.out | refine below_drewN ?_ _ | refine Below.drew ?_ | refine Below.setCell ?_ (by first | omega | (simp; done) | (simp; omega)) _ | refine Below.alloc ?_ (by first | omega | (simp; done) | (simp; omega)) _))⟩
theorem mbet_any (ay am ad bY bm bd : Int) (w : World) :
    Calls Try.prog 30 #[.agg #[.int .i64 ay, .int .i64 am, .int .i64 ad], .agg #[.int .i64 bY, .int .i64 bm, .int .i64 bd]] w fun e w' => e = .returned (.tuple #[.int .i64 (Cal.orz (Mo.bok ay am ad bY bm bd) (Mo.bn ay am ad bY bm bd)), .int .i64 (Cal.why (Mo.bok ay am ad bY bm bd))]) ∧ Below w.heap.size w w' := by
  cases ha : rightB ay am ad
  · have e : Mo.bok ay am ad bY bm bd = false := by unfold Mo.bok; rw [ha]; rfl
    rw [e]; exact mbet_no ay am ad bY bm bd w (.inl ha)
  · cases hb : rightB bY bm bd
    · have e : Mo.bok ay am ad bY bm bd = false := by unfold Mo.bok; rw [ha, hb]; rfl
      rw [e]; exact mbet_no ay am ad bY bm bd w (.inr ⟨ha, hb⟩)
    · cases h1 : Mo.mok ay am ad (Mo.bn ay am ad bY bm bd)
      · have e : Mo.bok ay am ad bY bm bd = false := by unfold Mo.bok; rw [ha, hb, h1]; rfl
        rw [e]
        cases hl : Mo.late ad bY bm bd
        · exact mbet_n_false ay am ad bY bm bd w ha hb hl h1
        · exact mbet_n_true ay am ad bY bm bd w ha hb hl h1
      · cases h2 : Mo.mok ay am ad (Mo.bn ay am ad bY bm bd + 1)
        · have e : Mo.bok ay am ad bY bm bd = false := by unfold Mo.bok; rw [ha, hb, h1, h2]; rfl
          rw [e]
          cases hl : Mo.late ad bY bm bd
          · exact mbet_yn_false ay am ad bY bm bd w ha hb hl h1 h2
          · exact mbet_yn_true ay am ad bY bm bd w ha hb hl h1 h2
        · have e : Mo.bok ay am ad bY bm bd = true := by unfold Mo.bok; rw [ha, hb, h1, h2]; rfl
          rw [e]
          cases hl : Mo.late ad bY bm bd
          · exact mbet_yy_false ay am ad bY bm bd w ha hb hl h1 h2
          · exact mbet_yy_true ay am ad bY bm bd w ha hb hl h1 h2
end Go.Proofs.Ytlehbnfocilcmab

