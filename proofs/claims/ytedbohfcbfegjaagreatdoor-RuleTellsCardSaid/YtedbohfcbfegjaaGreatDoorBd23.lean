/- Joined: DrR, RefA0, RefB0, DrR2, AmM0, AmM, RnA. -/
import Derived.Test.YtedbohfcbfegjaaGreatDoorBd03
import Derived.Test.YtedbohfcbfegjaaGreatDoorBd02
import Derived.Test.YtedbohfcbfegjaaGreatDoorBd01
import Derived.Test.YtedbohfcbfegjaaGreatDoorBd05
import Derived.Test.YtedbohfcbfegjaaGreatDoorBd19
import Derived.Test.YtedbohfcbfegjaaGreatDoorBd07
/- The contracts of the reference's functions on names of days: Right, Fits, Days, Window. -/
set_option linter.unusedVariables false
set_option linter.unusedSimpArgs false
namespace Go.Proofs.YtedbohfcbfegjaaGreatDoor
open Go.RowKit

set_option maxHeartbeats 1000000 in
theorem roright_any (k wk d : Int) (w : World) :
    Calls Tryz.prog 105 #[.agg #[.int .i64 k, .int .i64 wk, .int .i64 d]] w fun e w' => e = .returned (.bool (Dr.onR k wk d)) ∧ Below w.heap.size w w' := by
  by_cases h1 : 1 ≤ d
  · by_cases h2 : 0 ≤ wk
    · by_cases hk : k = 0 ∨ k = 1 ∨ k = 2 ∨ k = 3
      · rcases hk with rfl | rfl | rfl | rfl
        all_goals
          go_enter Tryz.func105, Tryz.ntmps105
          go_wp2
          all_goals
            go_ret
            refine ⟨?_, by go_grown⟩
            exact on_br (by rw [Dr.onR_true]; simp; omega)
      · have b0 : (k == 0) = false := by simp; omega
        have b1 : (k == 1) = false := by simp; omega
        have b2 : (k == 2) = false := by simp; omega
        have b3 : (k == 3) = false := by simp; omega
        go_enter Tryz.func105, Tryz.ntmps105
        go_wp2
        all_goals
          go_ret
          refine ⟨?_, by go_grown⟩
          exact on_br (by rw [Dr.onR_true]; simp; omega)
    · have h2' : decide (0 ≤ wk) = false := by simpa using h2
      by_cases hk : k = 0 ∨ k = 1 ∨ k = 2 ∨ k = 3
      · rcases hk with rfl | rfl | rfl | rfl
        all_goals
          go_enter Tryz.func105, Tryz.ntmps105
          go_wp2
          all_goals
            go_ret
            refine ⟨?_, by go_grown⟩
            exact on_br (by rw [Dr.onR_true]; simp; omega)
      · have b0 : (k == 0) = false := by simp; omega
        have b1 : (k == 1) = false := by simp; omega
        have b2 : (k == 2) = false := by simp; omega
        have b3 : (k == 3) = false := by simp; omega
        go_enter Tryz.func105, Tryz.ntmps105
        go_wp2
        all_goals
          go_ret
          refine ⟨?_, by go_grown⟩
          exact on_br (by rw [Dr.onR_true]; simp; omega)
  · have h1' : decide (1 ≤ d) = false := by simpa using h1
    by_cases h2 : 0 ≤ wk
    · by_cases hk : k = 0 ∨ k = 1 ∨ k = 2 ∨ k = 3
      · rcases hk with rfl | rfl | rfl | rfl
        all_goals
          go_enter Tryz.func105, Tryz.ntmps105
          go_wp2
          all_goals
            go_ret
            refine ⟨?_, by go_grown⟩
            exact on_br (by rw [Dr.onR_true]; simp; omega)
      · have b0 : (k == 0) = false := by simp; omega
        have b1 : (k == 1) = false := by simp; omega
        have b2 : (k == 2) = false := by simp; omega
        have b3 : (k == 3) = false := by simp; omega
        go_enter Tryz.func105, Tryz.ntmps105
        go_wp2
        all_goals
          go_ret
          refine ⟨?_, by go_grown⟩
          exact on_br (by rw [Dr.onR_true]; simp; omega)
    · have h2' : decide (0 ≤ wk) = false := by simpa using h2
      by_cases hk : k = 0 ∨ k = 1 ∨ k = 2 ∨ k = 3
      · rcases hk with rfl | rfl | rfl | rfl
        all_goals
          go_enter Tryz.func105, Tryz.ntmps105
          go_wp2
          all_goals
            go_ret
            refine ⟨?_, by go_grown⟩
            exact on_br (by rw [Dr.onR_true]; simp; omega)
      · have b0 : (k == 0) = false := by simp; omega
        have b1 : (k == 1) = false := by simp; omega
        have b2 : (k == 2) = false := by simp; omega
        have b3 : (k == 3) = false := by simp; omega
        go_enter Tryz.func105, Tryz.ntmps105
        go_wp2
        all_goals
          go_ret
          refine ⟨?_, by go_grown⟩
          exact on_br (by rw [Dr.onR_true]; simp; omega)

end Go.Proofs.YtedbohfcbfegjaaGreatDoor

/- The reference's calendar: leap years. -/
set_option linter.unusedVariables false
set_option linter.unusedSimpArgs false
namespace Go.Proofs.YtedbohfcbfegjaaGreatDoor
open Go.RowKit

set_option maxHeartbeats 400000 in
theorem rleap_any (y : Int) (w : World) :
    Calls Tryz.prog 155 #[.int .i64 y] w fun e w' => e = .returned (.bool (lpB y)) ∧ w = w' := by
  have t4 := tmod_zero y 4
  have t100 := tmod_zero y 100
  have t400 := tmod_zero y 400
  go_enter Tryz.func155, Tryz.ntmps155
  go_wp2
  all_goals go_ret
  all_goals (refine ⟨?_, rfl⟩; rw [lpB_eq])
  · have h4 : y % 4 = 0 := by assumption
    have h100 : y % 100 = 0 := (tz y 100).1 (by assumption)
    simp [h4, h100]
  · have h4 : y % 4 = 0 := by assumption
    have h100 : ¬ y % 100 = 0 := fun h => absurd ((tz y 100).2 h) (by assumption)
    simp [h4, h100]
  · have h4 : ¬ y % 4 = 0 := by assumption
    have h400 : ¬ y % 400 = 0 := by omega
    rw [show (y % 4 == 0) = false by simpa using h4, show (y % 400 == 0) = false by simpa using h400]; rfl

end Go.Proofs.YtedbohfcbfegjaaGreatDoor

/- The reference's calendar: how long a month is. -/
set_option linter.unusedVariables false
set_option linter.unusedSimpArgs false
namespace Go.Proofs.YtedbohfcbfegjaaGreatDoor
open Go.RowKit

set_option maxHeartbeats 2000000 in
theorem rlen_any (y m : Int) (w : World) :
    Calls Tryz.prog 109 #[.int .i64 y, .int .i64 m] w fun e w' => e = .returned (.int .i64 (Cal.len y m)) ∧ Below w.heap.size w w' := by
  by_cases h : 1 ≤ m ∧ m ≤ 12
  · by_cases h2 : m = 2
    · subst h2
      have hl : Cal.len y 2 = 28 + Cal.lp y := by simp [Cal.len]
      rw [hl]; clear hl h
      cases hb : lpB y
      · have v := lp_false hb
        have V := Lib.hid v; clear v
        go_enter Tryz.func109, Tryz.ntmps109
        go_wp2_with (go_at_call 155; refine (rleap_any _ _).mono ?_; rintro e w' ⟨rfl, rfl⟩)
        go_ret; exact ⟨ret_int (by have := V.out; omega), by go_grown⟩
      · have v := lp_true hb
        have V := Lib.hid v; clear v
        go_enter Tryz.func109, Tryz.ntmps109
        go_wp2_with (go_at_call 155; refine (rleap_any _ _).mono ?_; rintro e w' ⟨rfl, rfl⟩)
        go_ret; exact ⟨ret_int (by have := V.out; omega), by go_grown⟩
    · rcases Cal.twelve h.1 h.2 with rfl | rfl | rfl | rfl | rfl | rfl | rfl | rfl | rfl | rfl | rfl | rfl
      case inr.inl => exact absurd rfl h2
      all_goals
        clear h h2
        go_enter Tryz.func109, Tryz.ntmps109
        go_wp2
        go_ret; exact ⟨rfl, by go_grown⟩
  · have hl : Cal.len y m = 0 := by unfold Cal.len; rw [if_neg (by omega), if_neg (by omega), if_neg (by omega)]
    rw [hl]; clear hl
    by_cases h1 : m < 1
    · clear h
      go_enter Tryz.func109, Tryz.ntmps109
      go_wp2
      go_ret; exact ⟨rfl, by go_grown⟩
    · have h12 : 12 < m := by omega
      clear h
      go_enter Tryz.func109, Tryz.ntmps109
      go_wp2
      go_ret; exact ⟨rfl, by go_grown⟩

end Go.Proofs.YtedbohfcbfegjaaGreatDoor

/- The contract of the reference's Fits. -/
set_option linter.unusedVariables false
set_option linter.unusedSimpArgs false
namespace Go.Proofs.YtedbohfcbfegjaaGreatDoor
open Go.RowKit Go.Sort

theorem roright_b (k wk d : Int) (b : Bool) (w : World) (h : Dr.onR k wk d = b) :
    Calls Tryz.prog 105 #[.agg #[.int .i64 k, .int .i64 wk, .int .i64 d]] w fun e w' => e = .returned (.bool b) ∧ Below w.heap.size w w' := by
  rw [← h]; exact roright_any k wk d w
set_option maxHeartbeats 2000000 in
theorem rofits_any (k wk d m : Int) (w : World) :
    Calls Tryz.prog 56 #[.agg #[.int .i64 k, .int .i64 wk, .int .i64 d], .int .i64 m] w fun e w' => e = .returned (.bool (Dr.onF k wk d m)) ∧ Below w.heap.size w w' := by
  cases hr : Dr.onR k wk d
  · have HR := Lib.hid hr; clear hr
    go_enter Tryz.func56, Tryz.ntmps56
    go_wp2_with fail
    refine wp_named ?_; intro w1 hw1
    have d1 : Below w.heap.size w w1 := by rw [hw1]; exact (by repeat (first | exact Below.refl _ _ | refine below_drewN ?_ _ | refine Below.drew ?_ | refine Below.setCell ?_ (by first | (simp; done) | (simp; omega) | omega) _ | refine Below.alloc ?_ (by first | (simp; done) | (simp; omega) | omega) _))
    have B1 := Lib.hid d1
    have O1 : Bk3 w1 (w.heap.size) (.int .i64 k) (.int .i64 wk) (.int .i64 d) := by rw [hw1]; exact ⟨by simp <;> omega, by intro j; simp [go_sem], by simp [go_sem], by simp [go_sem], by simp [go_sem]⟩
    clear d1 hw1
    have qO_0 := cell_regrown O1.k0
    have qO_1 := cell_regrown O1.k1
    have qO_2 := cell_regrown O1.k2
    refine wp_region_qb (w := w1) (by kernel_rfl) (by kernel_rfl) (by repeat (first | exact Below.refl _ _ | refine below_drewN ?_ _ | refine Below.drew ?_ | refine Below.setCell ?_ (by first | (simp; done) | (simp; omega) | omega) _ | refine Below.alloc ?_ (by first | (simp; done) | (simp; omega) | omega) _)) ?_
    repeat (any_goals (first | go_big_quiet_step (first | (go_at_call 105; exact Calls.regrown_of (roright_b k wk d false _ HR.out))) | quiet_step (first | (go_at_call 105; exact Calls.regrown_of (roright_b k wk d false _ HR.out)))))
    refine wpQuiet_nil ?_
    intro w2 hq
    have b2 : Below w1.heap.size w1 w2 := by obtain ⟨p, hq⟩ := hq; rw [hq]; exact below_regrown _ _ _
    clear hq qO_0 qO_1 qO_2
    have d2 : Below w1.heap.size w1 w2 := below_step (by repeat (first | exact Below.refl _ _ | refine below_drewN ?_ _ | refine Below.drew ?_ | refine Below.setCell ?_ (by first | (simp; done) | (simp; omega) | omega) _ | refine Below.alloc ?_ (by first | (simp; done) | (simp; omega) | omega) _)) b2
    have B2 := Lib.hid (below_step B1.out d2)
    have O2 := O1.keep d2
    clear O1 b2 d2 B1
    go_wp2
    go_ret
    refine ⟨fits_br (by rw [Dr.onF_true]; simp [HR.out]), ?_⟩
    exact (by have hz := B2.out.size; repeat (first | exact B2.out | refine below_drewN ?_ _ | refine Below.drew ?_ | refine Below.setCell ?_ (by first | omega | (simp; done) | (simp; omega)) _ | refine Below.alloc ?_ (by first | omega | (simp; done) | (simp; omega)) _))
  · have HR := Lib.hid hr; clear hr
    by_cases h1 : 1 ≤ m
    · by_cases h2 : m ≤ 12
      · go_enter Tryz.func56, Tryz.ntmps56
        go_wp2_with fail
        refine wp_named ?_; intro w1 hw1
        have d1 : Below w.heap.size w w1 := by rw [hw1]; exact (by repeat (first | exact Below.refl _ _ | refine below_drewN ?_ _ | refine Below.drew ?_ | refine Below.setCell ?_ (by first | (simp; done) | (simp; omega) | omega) _ | refine Below.alloc ?_ (by first | (simp; done) | (simp; omega) | omega) _))
        have B1 := Lib.hid d1
        have O1 : Bk3 w1 (w.heap.size) (.int .i64 k) (.int .i64 wk) (.int .i64 d) := by rw [hw1]; exact ⟨by simp <;> omega, by intro j; simp [go_sem], by simp [go_sem], by simp [go_sem], by simp [go_sem]⟩
        clear d1 hw1
        have qO_0 := cell_regrown O1.k0
        have qO_1 := cell_regrown O1.k1
        have qO_2 := cell_regrown O1.k2
        refine wp_region_qb (w := w1) (by kernel_rfl) (by kernel_rfl) (by repeat (first | exact Below.refl _ _ | refine below_drewN ?_ _ | refine Below.drew ?_ | refine Below.setCell ?_ (by first | (simp; done) | (simp; omega) | omega) _ | refine Below.alloc ?_ (by first | (simp; done) | (simp; omega) | omega) _)) ?_
        repeat (any_goals (first | go_big_quiet_step (first | (go_at_call 105; exact Calls.regrown_of (roright_b k wk d true _ HR.out)) | (go_at_call 109; exact Calls.regrown_of (rlen_any _ _ _))) | quiet_step (first | (go_at_call 105; exact Calls.regrown_of (roright_b k wk d true _ HR.out)) | (go_at_call 109; exact Calls.regrown_of (rlen_any _ _ _)))))
        refine wpQuiet_nil ?_
        intro w2 hq
        have b2 : Below w1.heap.size w1 w2 := by obtain ⟨p, hq⟩ := hq; rw [hq]; exact below_regrown _ _ _
        clear hq qO_0 qO_1 qO_2
        have d2 : Below w1.heap.size w1 w2 := below_step (by repeat (first | exact Below.refl _ _ | refine below_drewN ?_ _ | refine Below.drew ?_ | refine Below.setCell ?_ (by first | (simp; done) | (simp; omega) | omega) _ | refine Below.alloc ?_ (by first | (simp; done) | (simp; omega) | omega) _)) b2
        have B2 := Lib.hid (below_step B1.out d2)
        have O2 := O1.keep d2
        clear O1 b2 d2 B1
        go_wp2
        go_ret
        refine ⟨fits_br (by rw [Dr.onF_true]; simp [HR.out]; omega), ?_⟩
        exact (by have hz := B2.out.size; repeat (first | exact B2.out | refine below_drewN ?_ _ | refine Below.drew ?_ | refine Below.setCell ?_ (by first | omega | (simp; done) | (simp; omega)) _ | refine Below.alloc ?_ (by first | omega | (simp; done) | (simp; omega)) _))
      · have h2' : decide (m ≤ 12) = false := by simpa using h2
        go_enter Tryz.func56, Tryz.ntmps56
        go_wp2_with fail
        refine wp_named ?_; intro w1 hw1
        have d1 : Below w.heap.size w w1 := by rw [hw1]; exact (by repeat (first | exact Below.refl _ _ | refine below_drewN ?_ _ | refine Below.drew ?_ | refine Below.setCell ?_ (by first | (simp; done) | (simp; omega) | omega) _ | refine Below.alloc ?_ (by first | (simp; done) | (simp; omega) | omega) _))
        have B1 := Lib.hid d1
        have O1 : Bk3 w1 (w.heap.size) (.int .i64 k) (.int .i64 wk) (.int .i64 d) := by rw [hw1]; exact ⟨by simp <;> omega, by intro j; simp [go_sem], by simp [go_sem], by simp [go_sem], by simp [go_sem]⟩
        clear d1 hw1
        have qO_0 := cell_regrown O1.k0
        have qO_1 := cell_regrown O1.k1
        have qO_2 := cell_regrown O1.k2
        refine wp_region_qb (w := w1) (by kernel_rfl) (by kernel_rfl) (by repeat (first | exact Below.refl _ _ | refine below_drewN ?_ _ | refine Below.drew ?_ | refine Below.setCell ?_ (by first | (simp; done) | (simp; omega) | omega) _ | refine Below.alloc ?_ (by first | (simp; done) | (simp; omega) | omega) _)) ?_
        repeat (any_goals (first | go_big_quiet_step (first | (go_at_call 105; exact Calls.regrown_of (roright_b k wk d true _ HR.out))) | quiet_step (first | (go_at_call 105; exact Calls.regrown_of (roright_b k wk d true _ HR.out)))))
        refine wpQuiet_nil ?_
        intro w2 hq
        have b2 : Below w1.heap.size w1 w2 := by obtain ⟨p, hq⟩ := hq; rw [hq]; exact below_regrown _ _ _
        clear hq qO_0 qO_1 qO_2
        have d2 : Below w1.heap.size w1 w2 := below_step (by repeat (first | exact Below.refl _ _ | refine below_drewN ?_ _ | refine Below.drew ?_ | refine Below.setCell ?_ (by first | (simp; done) | (simp; omega) | omega) _ | refine Below.alloc ?_ (by first | (simp; done) | (simp; omega) | omega) _)) b2
        have B2 := Lib.hid (below_step B1.out d2)
        have O2 := O1.keep d2
        clear O1 b2 d2 B1
        go_wp2
        go_ret
        refine ⟨fits_br (by rw [Dr.onF_true]; simp [HR.out]; omega), ?_⟩
        exact (by have hz := B2.out.size; repeat (first | exact B2.out | refine below_drewN ?_ _ | refine Below.drew ?_ | refine Below.setCell ?_ (by first | omega | (simp; done) | (simp; omega)) _ | refine Below.alloc ?_ (by first | omega | (simp; done) | (simp; omega)) _))
    · have h1' : decide (1 ≤ m) = false := by simpa using h1
      go_enter Tryz.func56, Tryz.ntmps56
      go_wp2_with fail
      refine wp_named ?_; intro w1 hw1
      have d1 : Below w.heap.size w w1 := by rw [hw1]; exact (by repeat (first | exact Below.refl _ _ | refine below_drewN ?_ _ | refine Below.drew ?_ | refine Below.setCell ?_ (by first | (simp; done) | (simp; omega) | omega) _ | refine Below.alloc ?_ (by first | (simp; done) | (simp; omega) | omega) _))
      have B1 := Lib.hid d1
      have O1 : Bk3 w1 (w.heap.size) (.int .i64 k) (.int .i64 wk) (.int .i64 d) := by rw [hw1]; exact ⟨by simp <;> omega, by intro j; simp [go_sem], by simp [go_sem], by simp [go_sem], by simp [go_sem]⟩
      clear d1 hw1
      have qO_0 := cell_regrown O1.k0
      have qO_1 := cell_regrown O1.k1
      have qO_2 := cell_regrown O1.k2
      refine wp_region_qb (w := w1) (by kernel_rfl) (by kernel_rfl) (by repeat (first | exact Below.refl _ _ | refine below_drewN ?_ _ | refine Below.drew ?_ | refine Below.setCell ?_ (by first | (simp; done) | (simp; omega) | omega) _ | refine Below.alloc ?_ (by first | (simp; done) | (simp; omega) | omega) _)) ?_
      repeat (any_goals (first | go_big_quiet_step (first | (go_at_call 105; exact Calls.regrown_of (roright_b k wk d true _ HR.out))) | quiet_step (first | (go_at_call 105; exact Calls.regrown_of (roright_b k wk d true _ HR.out)))))
      refine wpQuiet_nil ?_
      intro w2 hq
      have b2 : Below w1.heap.size w1 w2 := by obtain ⟨p, hq⟩ := hq; rw [hq]; exact below_regrown _ _ _
      clear hq qO_0 qO_1 qO_2
      have d2 : Below w1.heap.size w1 w2 := below_step (by repeat (first | exact Below.refl _ _ | refine below_drewN ?_ _ | refine Below.drew ?_ | refine Below.setCell ?_ (by first | (simp; done) | (simp; omega) | omega) _ | refine Below.alloc ?_ (by first | (simp; done) | (simp; omega) | omega) _)) b2
      have B2 := Lib.hid (below_step B1.out d2)
      have O2 := O1.keep d2
      clear O1 b2 d2 B1
      go_wp2
      go_ret
      refine ⟨fits_br (by rw [Dr.onF_true]; simp [HR.out]; omega), ?_⟩
      exact (by have hz := B2.out.size; repeat (first | exact B2.out | refine below_drewN ?_ _ | refine Below.drew ?_ | refine Below.setCell ?_ (by first | omega | (simp; done) | (simp; omega)) _ | refine Below.alloc ?_ (by first | omega | (simp; done) | (simp; omega)) _))
end Go.Proofs.YtedbohfcbfegjaaGreatDoor

/- Amounts, there and back: what the written texts mean, in plain lists. -/
set_option linter.unusedVariables false
set_option linter.unusedSimpArgs false
namespace Go.Proofs.YtedbohfcbfegjaaGreatDoor
open Go Go.Lib

namespace Am
def nc (l : List UInt8) : Prop := ∀ c ∈ l, c ≠ 58
theorem nc_dig {l : List UInt8} (h : l.all Num.dig = true) : nc l := by
  intro c hc e
  subst e
  have := List.all_eq_true.1 h 58 hc
  revert this; decide
theorem pre58 (c : UInt8) (l : List UInt8) : ([58] : List UInt8).isPrefixOf (c :: l) = (58 == c) := by
  rw [List.isPrefixOf, List.isPrefixOf, Bool.and_true]
theorem ix_none : ∀ l : List UInt8, nc l → index l [58] = -1 := by
  intro l
  induction l with
  | nil => intro _; rfl
  | cons c l ih =>
    intro h
    have h1 : (58 == c) = false := by rw [beq_eq_false_iff_ne]; exact fun e => h c (List.mem_cons_self ..) e.symm
    unfold index
    rw [pre58, h1, ih (fun x hx => h x (List.mem_cons_of_mem _ hx))]
    rfl
theorem ix_at : ∀ (a r : List UInt8), nc a → index (a ++ 58 :: r) [58] = (a.length : Int) := by
  intro a
  induction a with
  | nil => intro r _; rw [List.nil_append]; unfold index; rw [pre58]; rfl
  | cons c a ih =>
    intro r h
    have h1 : (58 == c) = false := by rw [beq_eq_false_iff_ne]; exact fun e => h c (List.mem_cons_self ..) e.symm
    have h2 := ih r (fun x hx => h x (List.mem_cons_of_mem _ hx))
    have h3 : ((a.length : Int) == -1) = false := by rw [beq_eq_false_iff_ne]; omega
    rw [List.cons_append]
    unfold index
    rw [pre58, h1, h2, h3]
    simp
theorem splitK_at (a r : List UInt8) (k : Nat) (h : nc a) : splitK [58] 0 (k + 1) (a ++ 58 :: r) = a :: splitK [58] 0 k r := by
  have h3 : ((a.length : Int) == -1) = false := by rw [beq_eq_false_iff_ne]; omega
  conv => lhs; unfold splitK
  rw [ix_at a r h, h3]
  simp
theorem splitK_no (k : Nat) (l : List UInt8) (h : nc l) : splitK [58] 0 k l = [l] := by
  cases k with
  | zero => rfl
  | succ k => unfold splitK; rw [ix_none l h]; rfl
theorem pcs_data (s : ByteArray) : (pcs s).map (·.data.toList) = splitK [58] 0 (min 3 (s.size + 1) - 1) s.data.toList := splitB_data _ _ _ _
theorem isK_l (s : ByteArray) (k : Nat) : isK s k = match ((pcs s).map (·.data.toList))[k]? with | some x => isP k x | none => true := by
  unfold isK
  rw [List.getElem?_map]
  cases (pcs s)[k]? <;> rfl
theorem vK_l (s : ByteArray) (k : Nat) : vK s k = match ((pcs s).map (·.data.toList))[k]? with | some x => (Num.val 0 x : Int) | none => 0 := by
  unfold vK
  rw [List.getElem?_map]
  cases (pcs s)[k]? <;> rfl
theorem pcs3 {s : ByteArray} {a b c : List UInt8} (e : s.data.toList = a ++ 58 :: (b ++ 58 :: c)) (ha : nc a) (hb : nc b) : (pcs s).map (·.data.toList) = [a, b, c] := by
  have hl : 2 ≤ s.size := by rw [← ab_len s, e]; simp; omega
  rw [pcs_data, e, show min 3 (s.size + 1) - 1 = 2 by omega, splitK_at a _ 1 ha, splitK_at b _ 0 hb]
  rfl
theorem pcs2 {s : ByteArray} {a b : List UInt8} (e : s.data.toList = a ++ 58 :: b) (hl : 2 ≤ s.size) (ha : nc a) (hb : nc b) : (pcs s).map (·.data.toList) = [a, b] := by
  rw [pcs_data, e, show min 3 (s.size + 1) - 1 = 2 by omega, splitK_at a _ 1 ha, splitK_no 1 b hb]
theorem ok3 {s : ByteArray} {a b c : List UInt8} (e : s.data.toList = a ++ 58 :: (b ++ 58 :: c)) (ha : isP 0 a = true) (hb : isP 1 b = true) (hc : isP 2 c = true) :
    okK s = true ∧ vK s 0 = (Num.val 0 a : Int) ∧ vK s 1 = (Num.val 0 b : Int) ∧ vK s 2 = (Num.val 0 c : Int) := by
  have p := pcs3 e (nc_dig (isP_size ha).1) (nc_dig (isP_size hb).1)
  refine ⟨?_, by rw [vK_l, p]; rfl, by rw [vK_l, p]; rfl, by rw [vK_l, p]; rfl⟩
  unfold okK
  rw [isK_l, isK_l, isK_l, p]
  show (isP 0 a && (isP 1 b && isP 2 c)) = true
  rw [ha, hb, hc]; rfl
theorem ok2 {s : ByteArray} {a b : List UInt8} (e : s.data.toList = a ++ 58 :: b) (ha : isP 0 a = true) (hb : isP 1 b = true) :
    okK s = true ∧ vK s 0 = (Num.val 0 a : Int) ∧ vK s 1 = (Num.val 0 b : Int) ∧ vK s 2 = 0 := by
  have hl : 2 ≤ s.size := by
    rw [← ab_len s, e]
    unfold isP at hb
    rw [Bool.and_eq_true] at hb
    have := of_decide_eq_true hb.2
    simp; omega
  have p := pcs2 e hl (nc_dig (isP_size ha).1) (nc_dig (isP_size hb).1)
  refine ⟨?_, by rw [vK_l, p]; rfl, by rw [vK_l, p]; rfl, by rw [vK_l, p]; rfl⟩
  unfold okK
  rw [isK_l, isK_l, isK_l, p]
  show (isP 0 a && (isP 1 b && true)) = true
  rw [ha, hb]; rfl
/-- The first part is none. -/
theorem no1 {s : ByteArray} {a r : List UInt8} (e : s.data.toList = a ++ 58 :: r) (ha : nc a) (hp : isP 0 a = false) : okK s = false := by
  have hl : 1 ≤ s.size := by rw [← ab_len s, e]; simp; omega
  obtain ⟨k, hk⟩ : ∃ k, min 3 (s.size + 1) - 1 = k + 1 := ⟨min 3 (s.size + 1) - 2, by omega⟩
  have p : ((pcs s).map (·.data.toList))[0]? = some a := by rw [pcs_data, e, hk, splitK_at a r k ha]; rfl
  refine okK_no (k := 0) (by omega) ?_
  rw [isK_l, p]; exact hp
theorem un_dig {t : ByteArray} {c : UInt8} {r : List UInt8} (h : t.data.toList = c :: r) (hc : c ≠ 45) : un t = t ∧ neg t = false := by
  have e : trimPrefix t.data.toList [45] = t.data.toList := by rw [h]; exact Num.tp_other c r hc
  refine ⟨?_, ?_⟩
  · unfold un; rw [e]
  · unfold neg; rw [h, Num.hp_cons]; simpa using hc
theorem un_neg {t : ByteArray} {l : List UInt8} (h : t.data.toList = 45 :: l) : un t = ⟨l.toArray⟩ ∧ neg t = true := by
  refine ⟨?_, ?_⟩
  · unfold un; rw [h, Num.tp_minus]
  · unfold neg; rw [h, Num.hp_cons]; rfl
theorem alone {t : ByteArray} (h : 2 ≤ t.size) : (t.toList == [45]) = false := by
  rw [beq_eq_false_iff_ne, ByteArray.toList_eq]
  intro e
  have := ab_len t
  rw [e] at this
  simp at this; omega
/-- What is told of three numbers read. -/
theorem rd_of {t : ByteArray} {x y z : Int} {ng : Bool} (h2 : 2 ≤ t.size) (hn : neg t = ng) (h : okK (un t) = true ∧ vK (un t) 0 = x ∧ vK (un t) 1 = y ∧ vK (un t) 2 = z) :
    rd t = if y < 60 ∧ z < 60 ∧ x * 3600 + y * 60 + z ≤ 604799 then ((if ng then -(x * 3600 + y * 60 + z) else x * 3600 + y * 60 + z), 0) else (0, 1) := by
  obtain ⟨hk, v0, v1, v2⟩ := h
  unfold rd inR sum
  rw [alone h2, hk, v0, v1, v2, hn]
  simp only [Bool.false_eq_true, if_false]
  by_cases h1 : y < 60
  · by_cases h3 : z < 60
    · by_cases h4 : x * 3600 + y * 60 + z ≤ 604799
      · simp [h1, h3, h4]
      · simp [h1, h3, h4]
    · simp [h1, h3]
  · simp [h1]
theorem rd_no {t : ByteArray} (h2 : 2 ≤ t.size) (h : okK (un t) = false) : rd t = (0, 2) := by
  unfold rd
  rw [alone h2, h]; rfl
/-- Hours' texts; two digits. -/
theorem h_tab : ∀ n : Fin 1000, (isP 0 (itoa (n.val : Int)) && (decide (Num.val 0 (itoa (n.val : Int)) = n.val) && (isP 0 (48 :: itoa (n.val : Int)) == decide (n.val < 100)))) = true := by decide +kernel
theorem d_tab : ∀ n : Fin 100, (isP 1 (itoa ((n.val : Int) / 10) ++ itoa ((n.val : Int) % 10)) && decide (Num.val 0 (itoa ((n.val : Int) / 10) ++ itoa ((n.val : Int) % 10)) = n.val)) = true := by decide +kernel
theorem e_tab : ∀ n : Fin 100, 10 ≤ n.val → (isP 1 (itoa (n.val : Int)) && decide (Num.val 0 (itoa (n.val : Int)) = n.val)) = true := by decide +kernel
theorem hours {n : Int} (h0 : 0 ≤ n) (h1 : n < 1000) : isP 0 (itoa n) = true ∧ (Num.val 0 (itoa n) : Int) = n ∧ isP 0 (48 :: itoa n) = decide (n < 100) := by
  have := h_tab ⟨n.toNat, by omega⟩
  rw [Bool.and_eq_true, Bool.and_eq_true, decide_eq_true_eq, beq_iff_eq] at this
  obtain ⟨a, b, c⟩ := this
  simp only [show ((n.toNat : Nat) : Int) = n by omega] at a b c
  refine ⟨a, by omega, ?_⟩
  rw [c, Bool.eq_iff_iff, decide_eq_true_eq, decide_eq_true_eq]; omega
theorem isP_12 {l : List UInt8} : isP 2 l = isP 1 l := rfl
theorem digits3 {n : Int} (h0 : 10 ≤ n) (h1 : n < 100) : isP 1 (itoa n) = true ∧ (Num.val 0 (itoa n) : Int) = n := by
  have := e_tab ⟨n.toNat, by omega⟩ (show 10 ≤ n.toNat by omega)
  rw [Bool.and_eq_true, decide_eq_true_eq] at this
  simp only [show ((n.toNat : Nat) : Int) = n by omega] at this
  exact ⟨this.1, by omega⟩
theorem isP_head {i : Int} {l : List UInt8} (h : isP i l = true) (hn : l ≠ []) : ∃ c r, l = c :: r ∧ c ≠ 45 := by
  cases l with
  | nil => exact absurd rfl hn
  | cons c r =>
    have := (isP_size (i := i.toNat) (l := c :: r))
    unfold isP at h
    rw [Bool.and_eq_true, List.all_cons, Bool.and_eq_true] at h
    exact ⟨c, r, rfl, (Num.dig_ne h.1.1).1⟩
end Am
end Go.Proofs.YtedbohfcbfegjaaGreatDoor

/- Two digits of amounts. -/
set_option linter.unusedVariables false
set_option linter.unusedSimpArgs false
namespace Go.Proofs.YtedbohfcbfegjaaGreatDoor
open Go Go.Lib

namespace Am
theorem digits2 {n : Int} (h0 : 0 ≤ n) (h1 : n < 100) : isP 1 (dd n).data.toList = true ∧ (Num.val 0 (dd n).data.toList : Int) = n := by
  have := d_tab ⟨n.toNat, by omega⟩
  rw [Bool.and_eq_true, decide_eq_true_eq] at this
  simp only [show ((n.toNat : Nat) : Int) = n by omega] at this
  have e : (dd n).data.toList = itoa (n / 10) ++ itoa (n % 10) := by unfold dd tI; rw [ByteArray.data_append, Array.toList_append]
  rw [e]
  exact ⟨this.1, by omega⟩
end Am
end Go.Proofs.YtedbohfcbfegjaaGreatDoor

/- The contracts of the reference's digits and Text. -/
set_option linter.unusedVariables false
set_option linter.unusedSimpArgs false
namespace Go.Proofs.YtedbohfcbfegjaaGreatDoor
open Go.RowKit

namespace Num
def dB (n : Int) : ByteArray := ⟨(Lib.decDigits n.toNat).toArray⟩
theorem one_tab : ∀ n : Fin 10, (⟨#[48, 49, 50, 51, 52, 53, 54, 55, 56, 57]⟩ : ByteArray).extract n.val (n.val + 1) = ⟨#[UInt8.ofNat (48 + n.val)]⟩ := by decide +kernel
theorem dB_one {n : Int} (h0 : 0 ≤ n) (h1 : n < 10) : (⟨#[48, 49, 50, 51, 52, 53, 54, 55, 56, 57]⟩ : ByteArray).extract n.toNat (n + 1).toNat = dB n := by
  have h := one_tab ⟨n.toNat, by omega⟩
  have e : (n + 1).toNat = n.toNat + 1 := by omega
  unfold dB
  rw [e, dec_small (by omega)]
  exact h
theorem dB_step {n : Int} (h : 10 ≤ n) : dB n = dB (n / 10) ++ dB (n % 10) := by
  unfold dB
  have e1 : (n / 10).toNat = n.toNat / 10 := by omega
  have e2 : (n % 10).toNat = n.toNat % 10 := by omega
  rw [e1, e2, dec_step (u := n.toNat) (by omega), dec_small (u := n.toNat % 10) (by omega)]
  apply ByteArray.ext
  apply Array.toList_inj.1
  rw [ByteArray.data_append, Array.toList_append]
theorem dB_size {n : Int} (h0 : 0 ≤ n) (h1 : n < 18446744073709551616) : (dB n).size ≤ 20 := by
  have := dec_short n.toNat (by omega)
  show (Lib.decDigits n.toNat).toArray.size ≤ 20
  rw [List.size_toArray]; exact this
theorem itoa_neg {n : Int} (h : n < 0) : (⟨(Lib.itoa n).toArray⟩ : ByteArray) = ⟨#[45]⟩ ++ dB (-n) := by
  unfold Lib.itoa dB
  rw [if_pos h]
  apply ByteArray.ext
  apply Array.toList_inj.1
  rw [ByteArray.data_append, Array.toList_append, show (-n).toNat = n.natAbs by omega]
  rfl
theorem itoa_pos {n : Int} (h : ¬ n < 0) : (⟨(Lib.itoa n).toArray⟩ : ByteArray) = dB n := by
  unfold Lib.itoa dB
  rw [if_neg h]
end Num
set_option maxHeartbeats 1000000 in
theorem rdg_one (n : Int) (w : World) (h0 : 0 ≤ n) (h1 : n < 10) :
    Calls Tryz.prog 122 #[.int .u64 n] w fun e w' => e = .returned (.string (Num.dB n)) ∧ Below w.heap.size w w' := by
  have E := Lib.hid (Num.dB_one h0 h1)
  go_enter Tryz.func122, Tryz.ntmps122
  go_wp2_with fail
  go_ret
  exact ⟨by rw [← E.out]; rfl, Below.refl _ _⟩
set_option maxHeartbeats 1000000 in
theorem rdg_all : ∀ (k : Nat) (n : Int) (w : World), n.toNat ≤ k → 0 ≤ n → n < 18446744073709551616 →
    Calls Tryz.prog 122 #[.int .u64 n] w fun e w' => e = .returned (.string (Num.dB n)) ∧ Below w.heap.size w w' := by
  intro k
  induction k with
  | zero => intro n w hk h0 h1; exact rdg_one n w h0 (by omega)
  | succ k ih =>
    intro n w hk h0 h1
    by_cases c : n < 10
    · exact rdg_one n w h0 c
    · have CA : Hid (∀ W, Calls Tryz.prog 122 #[.int .u64 (n / 10)] W fun e w' => e = .returned (.string (Num.dB (n / 10))) ∧ Below W.heap.size W w') := fun W => ih (n / 10) W (by omega) (by omega) (by omega)
      have CB : Hid (∀ W, Calls Tryz.prog 122 #[.int .u64 (n % 10)] W fun e w' => e = .returned (.string (Num.dB (n % 10))) ∧ Below W.heap.size W w') := fun W => rdg_one (n % 10) W (by omega) (by omega)
      have zA := Num.dB_size (n := n / 10) (by omega) (by omega)
      have zB := Num.dB_size (n := n % 10) (by omega) (by omega)
      have E := Lib.hid (Num.dB_step (n := n) (by omega))
      generalize Num.dB (n / 10) = A at *
      generalize Num.dB (n % 10) = B' at *
      generalize Num.dB n = R at *
      clear ih hk
      go_enter Tryz.func122, Tryz.ntmps122
      go_wp2_with fail
      refine (CA.out _).mono ?_; rintro e w1 ⟨rfl, b1⟩
      have d1 : Below w.heap.size w w1 := below_step (by repeat (first | exact Below.refl _ _ | refine below_drewN ?_ _ | refine Below.drew ?_ | refine Below.setCell ?_ (by first | (simp; done) | (simp; omega) | omega) _ | refine Below.alloc ?_ (by first | (simp; done) | (simp; omega) | omega) _)) b1
      have B1 := Lib.hid d1
      clear b1 d1
      go_wp2_with fail
      refine (CB.out _).mono ?_; rintro e w2 ⟨rfl, b2⟩
      have d2 : Below w1.heap.size w1 w2 := below_step (by repeat (first | exact Below.refl _ _ | refine below_drewN ?_ _ | refine Below.drew ?_ | refine Below.setCell ?_ (by first | (simp; done) | (simp; omega) | omega) _ | refine Below.alloc ?_ (by first | (simp; done) | (simp; omega) | omega) _)) b2
      have B2 := Lib.hid (below_step B1.out d2)
      clear b2 d2 B1
      go_wp2_with fail
      go_ret
      exact ⟨by rw [E.out]; rfl, B2.out⟩
theorem rdg_any (n : Int) (w : World) (h0 : 0 ≤ n) (h1 : n < 18446744073709551616) :
    Calls Tryz.prog 122 #[.int .u64 n] w fun e w' => e = .returned (.string (Num.dB n)) ∧ Below w.heap.size w w' := rdg_all _ n w (Nat.le_refl _) h0 h1
set_option maxHeartbeats 1000000 in
/-- The reference's text of a number. -/
theorem rtext_any (n : Int) (w : World) (h0 : -9223372036854775808 ≤ n) (h1 : n ≤ 9223372036854775807) :
    Calls Tryz.prog 70 #[.int .i64 n] w fun e w' => e = .returned (.string ⟨(Lib.itoa n).toArray⟩) ∧ Below w.heap.size w w' := by
  by_cases h : n < 0
  · have E := Lib.hid (Num.itoa_neg h)
    have CA : Hid (∀ W, Calls Tryz.prog 122 #[.int .u64 (-(n + 1) + 1)] W fun e w' => e = .returned (.string (Num.dB (-n))) ∧ Below W.heap.size W w') := fun W => by
      rw [show -(n + 1) + 1 = -n by omega]; exact rdg_any (-n) W (by omega) (by omega)
    have zA := Num.dB_size (n := -n) (by omega) (by omega)
    generalize Num.dB (-n) = A at *
    generalize (⟨(Lib.itoa n).toArray⟩ : ByteArray) = R at *
    go_enter Tryz.func70, Tryz.ntmps70
    go_wp2_with fail
    refine (CA.out _).mono ?_; rintro e w1 ⟨rfl, b1⟩
    have d1 : Below w.heap.size w w1 := below_step (by repeat (first | exact Below.refl _ _ | refine below_drewN ?_ _ | refine Below.drew ?_ | refine Below.setCell ?_ (by first | (simp; done) | (simp; omega) | omega) _ | refine Below.alloc ?_ (by first | (simp; done) | (simp; omega) | omega) _)) b1
    have B1 := Lib.hid d1
    clear b1 d1
    go_wp2_with fail
    go_ret
    exact ⟨by rw [E.out]; rfl, B1.out⟩
  · have E := Lib.hid (Num.itoa_pos h)
    have CA : Hid (∀ W, Calls Tryz.prog 122 #[.int .u64 n] W fun e w' => e = .returned (.string (Num.dB n)) ∧ Below W.heap.size W w') := fun W => rdg_any n W (by omega) (by omega)
    generalize Num.dB n = A at *
    generalize (⟨(Lib.itoa n).toArray⟩ : ByteArray) = R at *
    go_enter Tryz.func70, Tryz.ntmps70
    go_wp2_with fail
    refine (CA.out _).mono ?_; rintro e w1 ⟨rfl, b1⟩
    have d1 : Below w.heap.size w w1 := below_step (by repeat (first | exact Below.refl _ _ | refine below_drewN ?_ _ | refine Below.drew ?_ | refine Below.setCell ?_ (by first | (simp; done) | (simp; omega) | omega) _ | refine Below.alloc ?_ (by first | (simp; done) | (simp; omega) | omega) _)) b1
    have B1 := Lib.hid d1
    clear b1 d1
    go_wp2_with fail
    go_ret
    exact ⟨by rw [E.out]; rfl, B1.out⟩
end Go.Proofs.YtedbohfcbfegjaaGreatDoor
