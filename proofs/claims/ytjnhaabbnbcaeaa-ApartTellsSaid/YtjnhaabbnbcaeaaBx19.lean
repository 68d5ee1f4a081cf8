/- Joined: DrR2, RkR. -/
import Derived.Test.YtjnhaabbnbcaeaaBx18
import Derived.Test.YtjnhaabbnbcaeaaBx05
import Derived.Test.YtjnhaabbnbcaeaaBx01
import Derived.Test.YtjnhaabbnbcaeaaBx02
/- The contract of the reference's Fits. -/
set_option linter.unusedVariables false
set_option linter.unusedSimpArgs false
namespace Go.Proofs.Ytjnhaabbnbcaeaa
open Go.RowKit Go.Sort

theorem roright_b (k wk d : Int) (b : Bool) (w : World) (h : Dr.onR k wk d = b) :
    Calls Try.prog 53 #[.agg #[.int .i64 k, .int .i64 wk, .int .i64 d]] w fun e w' => e = .returned (.bool b) ∧ Below w.heap.size w w' := by
  rw [← h]; exact roright_any k wk d w
set_option maxHeartbeats 2000000 in
theorem rofits_any (k wk d m : Int) (w : World) :
    Calls Try.prog 39 #[.agg #[.int .i64 k, .int .i64 wk, .int .i64 d], .int .i64 m] w fun e w' => e = .returned (.bool (Dr.onF k wk d m)) ∧ Below w.heap.size w w' := by
  cases hr : Dr.onR k wk d
  · have HR := Lib.hid hr; clear hr
    go_enter Try.func39, Try.ntmps39
    go_wp2_with fail
    refine wp_named ?_; intro w1 hw1
    have d1 : Below w.heap.size w w1 := by rw [hw1]; exact (by repeat (first | exact Below.refl _ _ | refine below_drewN ?_ _ | refine Below.drew ?_ | refine Below.setCell ?_ (by first | (simp; done) | (simp; omega) | omega) _ | refine Below.alloc ?_ (by first | (simp; done) | (simp; omega) | omega) _))
    have B1 := Lib.hid d1
    have O1 : Bk3 w1 (w.heap.size) (.int .i64 k) (.int .i64 wk) (.int .i64 d) := by rw [hw1]; exact ⟨by simp <;> omega, by intro j; simp [go_sem], by simp [go_sem], by simp [go_sem], by simp [go_sem]⟩
    clear d1 hw1
    have qO_0 := cell_regrown O1.k0
    have qO_1 := cell_regrown O1.k1
    have qO_2 := cell_regrown O1.k2
    refine wp_region_qb (w := w1) (by kernel_rfl) (by kernel_rfl) (by repeat (first | exact Below.refl _ _ | refine below_drewN ?_ _ | refine Below.drew ?_ | refine Below.setCell ?_ (by first | (simp; done) | (simp; omega) | omega) _ | refine Below.alloc ?_ (by first | (simp; done) | (simp; omega) | omega) _)) ?_
    repeat (any_goals (first | go_big_quiet_step (first | (go_at_call 53; exact Calls.regrown_of (roright_b k wk d false _ HR.out))) | quiet_step (first | (go_at_call 53; exact Calls.regrown_of (roright_b k wk d false _ HR.out)))))
    refine wpQuiet_nil ?_
    intro w2 hq
    have b2 : Below w1.heap.size w1 w2 := by obtain ⟨p, hq⟩ := hq; rw [hq]; exact below_regrown _ _ _
    clear hq qO_0 qO_1 qO_2
    have d2 : Below w1.heap.size w1 w2 := below_step (by repeat (first | exact Below.refl _ _ | refine below_drewN ?_ _ | refine Below.drew ?_ | refine Below.setCell ?_ (by first | (simp; done) | (simp; omega) | omega) _ | refine Below.alloc ?_ (by first | (simp; done) | (simp; omega) | omega) _)) b2
    have B2 := Lib.hid (below_step B1.out d2)
    have O2 := O1.keep d2
    clear O1 b2 d2 B1
    go_wp2
    go_ret
    refine ⟨fits_br (by rw [Dr.onF_true]; simp [HR.out]), ?_⟩
    exact (by have hz := B2.out.size; repeat (first | exact B2.out | refine below_drewN ?_ _ | refine Below.drew ?_ | refine Below.setCell ?_ (by first | omega | (simp; done) | (simp; omega)) _ | refine Below.alloc ?_ (by first | omega | (simp; done) | (simp; omega)) _))
  · have HR := Lib.hid hr; clear hr
    by_cases h1 : 1 ≤ m
    · by_cases h2 : m ≤ 12
      · go_enter Try.func39, Try.ntmps39
        go_wp2_with fail
        refine wp_named ?_; intro w1 hw1
        have d1 : Below w.heap.size w w1 := by rw [hw1]; exact (by repeat (first | exact Below.refl _ _ | refine below_drewN ?_ _ | refine Below.drew ?_ | refine Below.setCell ?_ (by first | (simp; done) | (simp; omega) | omega) _ | refine Below.alloc ?_ (by first | (simp; done) | (simp; omega) | omega) _))
        have B1 := Lib.hid d1
        have O1 : Bk3 w1 (w.heap.size) (.int .i64 k) (.int .i64 wk) (.int .i64 d) := by rw [hw1]; exact ⟨by simp <;> omega, by intro j; simp [go_sem], by simp [go_sem], by simp [go_sem], by simp [go_sem]⟩
        clear d1 hw1
        have qO_0 := cell_regrown O1.k0
        have qO_1 := cell_regrown O1.k1
        have qO_2 := cell_regrown O1.k2
        refine wp_region_qb (w := w1) (by kernel_rfl) (by kernel_rfl) (by repeat (first | exact Below.refl _ _ | refine below_drewN ?_ _ | refine Below.drew ?_ | refine Below.setCell ?_ (by first | (simp; done) | (simp; omega) | omega) _ | refine Below.alloc ?_ (by first | (simp; done) | (simp; omega) | omega) _)) ?_
        repeat (any_goals (first | go_big_quiet_step (first | (go_at_call 53; exact Calls.regrown_of (roright_b k wk d true _ HR.out)) | (go_at_call 27; exact Calls.regrown_of (rlen_any _ _ _))) | quiet_step (first | (go_at_call 53; exact Calls.regrown_of (roright_b k wk d true _ HR.out)) | (go_at_call 27; exact Calls.regrown_of (rlen_any _ _ _)))))
        refine wpQuiet_nil ?_
        intro w2 hq
        have b2 : Below w1.heap.size w1 w2 := by obtain ⟨p, hq⟩ := hq; rw [hq]; exact below_regrown _ _ _
        clear hq qO_0 qO_1 qO_2
        have d2 : Below w1.heap.size w1 w2 := below_step (by repeat (first | exact Below.refl _ _ | refine below_drewN ?_ _ | refine Below.drew ?_ | refine Below.setCell ?_ (by first | (simp; done) | (simp; omega) | omega) _ | refine Below.alloc ?_ (by first | (simp; done) | (simp; omega) | omega) _)) b2
        have B2 := Lib.hid (below_step B1.out d2)
        have O2 := O1.keep d2
        clear O1 b2 d2 B1
        go_wp2
        go_ret
        refine ⟨fits_br (by rw [Dr.onF_true]; simp [HR.out]; omega), ?_⟩
        exact (by have hz := B2.out.size; repeat (first | exact B2.out | refine below_drewN ?_ _ | refine Below.drew ?_ | refine Below.setCell ?_ (by first | omega | (simp; done) | (simp; omega)) _ | refine Below.alloc ?_ (by first | omega | (simp; done) | (simp; omega)) _))
      · have h2' : decide (m ≤ 12) = false := by simpa using h2
        go_enter Try.func39, Try.ntmps39
        go_wp2_with fail
        refine wp_named ?_; intro w1 hw1
        have d1 : Below w.heap.size w w1 := by rw [hw1]; exact (by repeat (first | exact Below.refl _ _ | refine below_drewN ?_ _ | refine Below.drew ?_ | refine Below.setCell ?_ (by first | (simp; done) | (simp; omega) | omega) _ | refine Below.alloc ?_ (by first | (simp; done) | (simp; omega) | omega) _))
        have B1 := Lib.hid d1
        have O1 : Bk3 w1 (w.heap.size) (.int .i64 k) (.int .i64 wk) (.int .i64 d) := by rw [hw1]; exact ⟨by simp <;> omega, by intro j; simp [go_sem], by simp [go_sem], by simp [go_sem], by simp [go_sem]⟩
        clear d1 hw1
        have qO_0 := cell_regrown O1.k0
        have qO_1 := cell_regrown O1.k1
        have qO_2 := cell_regrown O1.k2
        refine wp_region_qb (w := w1) (by kernel_rfl) (by kernel_rfl) (by repeat (first | exact Below.refl _ _ | refine below_drewN ?_ _ | refine Below.drew ?_ | refine Below.setCell ?_ (by first | (simp; done) | (simp; omega) | omega) _ | refine Below.alloc ?_ (by first | (simp; done) | (simp; omega) | omega) _)) ?_
        repeat (any_goals (first | go_big_quiet_step (first | (go_at_call 53; exact Calls.regrown_of (roright_b k wk d true _ HR.out))) | quiet_step (first | (go_at_call 53; exact Calls.regrown_of (roright_b k wk d true _ HR.out)))))
        refine wpQuiet_nil ?_
        intro w2 hq
        have b2 : Below w1.heap.size w1 w2 := by obtain ⟨p, hq⟩ := hq; rw [hq]; exact below_regrown _ _ _
        clear hq qO_0 qO_1 qO_2
        have d2 : Below w1.heap.size w1 w2 := below_step (by repeat (first | exact Below.refl _ _ | refine below_drewN ?_ _ | refine Below.drew ?_ | refine Below.setCell ?_ (by first | (simp; done) | (simp; omega) | omega) _ | refine Below.alloc ?_ (by first | (simp; done) | (simp; omega) | omega) _)) b2
        have B2 := Lib.hid (below_step B1.out d2)
        have O2 := O1.keep d2
        clear O1 b2 d2 B1
        go_wp2
        go_ret
        refine ⟨fits_br (by rw [Dr.onF_true]; simp [HR.out]; omega), ?_⟩
        exact (by have hz := B2.out.size; repeat (first | exact B2.out | refine below_drewN ?_ _ | refine Below.drew ?_ | refine Below.setCell ?_ (by first | omega | (simp; done) | (simp; omega)) _ | refine Below.alloc ?_ (by first | omega | (simp; done) | (simp; omega)) _))
    · have h1' : decide (1 ≤ m) = false := by simpa using h1
      go_enter Try.func39, Try.ntmps39
      go_wp2_with fail
      refine wp_named ?_; intro w1 hw1
      have d1 : Below w.heap.size w w1 := by rw [hw1]; exact (by repeat (first | exact Below.refl _ _ | refine below_drewN ?_ _ | refine Below.drew ?_ | refine Below.setCell ?_ (by first | (simp; done) | (simp; omega) | omega) _ | refine Below.alloc ?_ (by first | (simp; done) | (simp; omega) | omega) _))
      have B1 := Lib.hid d1
      have O1 : Bk3 w1 (w.heap.size) (.int .i64 k) (.int .i64 wk) (.int .i64 d) := by rw [hw1]; exact ⟨by simp <;> omega, by intro j; simp [go_sem], by simp [go_sem], by simp [go_sem], by simp [go_sem]⟩
      clear d1 hw1
      have qO_0 := cell_regrown O1.k0
      have qO_1 := cell_regrown O1.k1
      have qO_2 := cell_regrown O1.k2
      refine wp_region_qb (w := w1) (by kernel_rfl) (by kernel_rfl) (by repeat (first | exact Below.refl _ _ | refine below_drewN ?_ _ | refine Below.drew ?_ | refine Below.setCell ?_ (by first | (simp; done) | (simp; omega) | omega) _ | refine Below.alloc ?_ (by first | (simp; done) | (simp; omega) | omega) _)) ?_
      repeat (any_goals (first | go_big_quiet_step (first | (go_at_call 53; exact Calls.regrown_of (roright_b k wk d true _ HR.out))) | quiet_step (first | (go_at_call 53; exact Calls.regrown_of (roright_b k wk d true _ HR.out)))))
      refine wpQuiet_nil ?_
      intro w2 hq
      have b2 : Below w1.heap.size w1 w2 := by obtain ⟨p, hq⟩ := hq; rw [hq]; exact below_regrown _ _ _
      clear hq qO_0 qO_1 qO_2
      have d2 : Below w1.heap.size w1 w2 := below_step (by repeat (first | exact Below.refl _ _ | refine below_drewN ?_ _ | refine Below.drew ?_ | refine Below.setCell ?_ (by first | (simp; done) | (simp; omega) | omega) _ | refine Below.alloc ?_ (by first | (simp; done) | (simp; omega) | omega) _)) b2
      have B2 := Lib.hid (below_step B1.out d2)
      have O2 := O1.keep d2
      clear O1 b2 d2 B1
      go_wp2
      go_ret
      refine ⟨fits_br (by rw [Dr.onF_true]; simp [HR.out]; omega), ?_⟩
      exact (by have hz := B2.out.size; repeat (first | exact B2.out | refine below_drewN ?_ _ | refine Below.drew ?_ | refine Below.setCell ?_ (by first | omega | (simp; done) | (simp; omega)) _ | refine Below.alloc ?_ (by first | omega | (simp; done) | (simp; omega)) _))
end Go.Proofs.Ytjnhaabbnbcaeaa

/- Times of day: whether the reference takes one. -/
set_option linter.unusedVariables false
set_option linter.unusedSimpArgs false
namespace Go.Proofs.Ytjnhaabbnbcaeaa
open Go.RowKit Go.Sort
namespace Cl
theorem rB_le (n b : Int) : rB n b = (decide (0 ≤ n) && (decide (n ≤ 172800) && (decide (0 ≤ b) && decide (b ≤ 2)))) := by
  unfold rB; rw [show decide (b < 3) = decide (b ≤ 2) from decide_eq_decide.2 (by omega)]
end Cl
theorem kright_any (n b : Int) (w : World) : Calls Try.prog 40 #[.agg #[.int .i64 n, .int .i64 b]] w fun e w' => e = .returned (.bool (Cl.rB n b)) ∧ Below w.heap.size w w' := by
  rw [Cl.rB_le]
  by_cases c1 : 0 ≤ n
  · by_cases c2 : n ≤ 172800
    · by_cases c3 : 0 ≤ b
      · by_cases c4 : b ≤ 2
        · rw [decide_eq_true c1, decide_eq_true c2, decide_eq_true c3, decide_eq_true c4]
          go_enter Try.func40, Try.ntmps40
          go_wp2_with fail
          go_ret
          exact ⟨rfl, (by repeat (first | exact Below.refl _ _ | refine below_drewN ?_ _ | refine Below.drew ?_ | refine Below.setCell ?_ (by first | (simp; done) | (simp; omega) | omega) _ | refine Below.alloc ?_ (by first | (simp; done) | (simp; omega) | omega) _))⟩
        · have g : decide (b ≤ 2) = false := decide_eq_false c4
          rw [decide_eq_true c1, decide_eq_true c2, decide_eq_true c3, g]
          go_enter Try.func40, Try.ntmps40
          go_wp2_with fail
          go_ret
          exact ⟨rfl, (by repeat (first | exact Below.refl _ _ | refine below_drewN ?_ _ | refine Below.drew ?_ | refine Below.setCell ?_ (by first | (simp; done) | (simp; omega) | omega) _ | refine Below.alloc ?_ (by first | (simp; done) | (simp; omega) | omega) _))⟩
      · have g : decide (0 ≤ b) = false := decide_eq_false c3
        rw [decide_eq_true c1, decide_eq_true c2, g]
        go_enter Try.func40, Try.ntmps40
        go_wp2_with fail
        go_ret
        exact ⟨rfl, (by repeat (first | exact Below.refl _ _ | refine below_drewN ?_ _ | refine Below.drew ?_ | refine Below.setCell ?_ (by first | (simp; done) | (simp; omega) | omega) _ | refine Below.alloc ?_ (by first | (simp; done) | (simp; omega) | omega) _))⟩
    · have g : decide (n ≤ 172800) = false := decide_eq_false c2
      rw [decide_eq_true c1, g]
      go_enter Try.func40, Try.ntmps40
      go_wp2_with fail
      go_ret
      exact ⟨rfl, (by repeat (first | exact Below.refl _ _ | refine below_drewN ?_ _ | refine Below.drew ?_ | refine Below.setCell ?_ (by first | (simp; done) | (simp; omega) | omega) _ | refine Below.alloc ?_ (by first | (simp; done) | (simp; omega) | omega) _))⟩
  · have g : decide (0 ≤ n) = false := decide_eq_false c1
    rw [g]
    go_enter Try.func40, Try.ntmps40
    go_wp2_with fail
    go_ret
    exact ⟨rfl, (by repeat (first | exact Below.refl _ _ | refine below_drewN ?_ _ | refine Below.drew ?_ | refine Below.setCell ?_ (by first | (simp; done) | (simp; omega) | omega) _ | refine Below.alloc ?_ (by first | (simp; done) | (simp; omega) | omega) _))⟩
end Go.Proofs.Ytjnhaabbnbcaeaa
