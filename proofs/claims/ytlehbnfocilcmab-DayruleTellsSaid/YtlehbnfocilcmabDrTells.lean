/- The walk of DayruleTells: whatever is handed in, the law answers true; nothing old turns. -/
import Derived.Test.YtlehbnfocilcmabDrR3
import Derived.Test.YtlehbnfocilcmabDrR4
import Derived.Test.YtlehbnfocilcmabLiv5
set_option linter.unusedVariables false
set_option linter.unusedSimpArgs false
namespace Go.Proofs.Ytlehbnfocilcmab
open Go.RowKit Go.Sort

set_option maxHeartbeats 4000000 in
set_option maxRecDepth 100000 in
theorem dtells_walk (k wk d y m : Int) (w : World) :
    Calls Try.prog 3 #[.agg #[.int .i64 k, .int .i64 wk, .int .i64 d], .int .i64 y, .int .i64 m] w fun e w' => e = .returned (.bool true) ∧ Below w.heap.size w w' := by
  go_enter Try.func3, Try.ntmps3
  go_wp2_with fail
  refine (odays_any k wk d y m _).mono ?_; rintro e w1 ⟨rfl, b1⟩
  have d1 : Below w.heap.size w w1 := below_step (by repeat (first | exact Below.refl _ _ | refine below_drewN ?_ _ | refine Below.drew ?_ | refine Below.setCell ?_ (by simp) _ | refine Below.alloc ?_ (by simp) _)) b1
  have B1 := Lib.hid d1
  have O1 : Bk3 w1 (w.heap.size) (.int .i64 k) (.int .i64 wk) (.int .i64 d) := Bk3.of b1 (by simp <;> omega) (by simp [go_sem]) (by simp [go_sem]) (by simp [go_sem])
  clear b1 d1
  have cO_b := O1.hb
  have cO_0 := O1.k0
  have cO_1 := O1.k1
  have cO_2 := O1.k2
  go_wp2_with fail
  clear cO_b cO_0 cO_1 cO_2
  refine (rodays_any k wk d y m _).mono ?_; rintro e w2 ⟨rfl, b2⟩
  have d2 : Below w1.heap.size w1 w2 := below_step (by repeat (first | exact Below.refl _ _ | refine below_drewN ?_ _ | refine Below.drew ?_ | refine Below.setCell ?_ (by simp) _ | refine Below.alloc ?_ (by simp) _)) b2
  have B2 := Lib.hid (below_step B1.out d2)
  have O2 := O1.keep d2
  clear O1 b2 d2 B1
  have cO_b := O2.hb
  have cO_0 := O2.k0
  have cO_1 := O2.k1
  have cO_2 := O2.k2
  go_wp2_with fail
  clear cO_b cO_0 cO_1 cO_2
  refine (owindow_any k wk d m _).mono ?_; rintro e w3 ⟨rfl, b3⟩
  have d3 : Below w2.heap.size w2 w3 := below_step (by repeat (first | exact Below.refl _ _ | refine below_drewN ?_ _ | refine Below.drew ?_ | refine Below.setCell ?_ (by simp) _ | refine Below.alloc ?_ (by simp) _)) b3
  have B3 := Lib.hid (below_step B2.out d3)
  have O3 := O2.keep d3
  clear O2 b3 d3 B2
  have cO_b := O3.hb
  have cO_0 := O3.k0
  have cO_1 := O3.k1
  have cO_2 := O3.k2
  go_wp2_with fail
  clear cO_b cO_0 cO_1 cO_2
  refine (rowindow_any k wk d m _).mono ?_; rintro e w4 ⟨rfl, b4⟩
  have d4 : Below w3.heap.size w3 w4 := below_step (by repeat (first | exact Below.refl _ _ | refine below_drewN ?_ _ | refine Below.drew ?_ | refine Below.setCell ?_ (by simp) _ | refine Below.alloc ?_ (by simp) _)) b4
  have B4 := Lib.hid (below_step B3.out d4)
  have O4 := O3.keep d4
  clear O3 b4 d4 B3
  have cO_b := O4.hb
  have cO_0 := O4.k0
  have cO_1 := O4.k1
  have cO_2 := O4.k2
  go_wp2_with fail
  clear cO_b cO_0 cO_1 cO_2
  have qO_0 := cell_regrown O4.k0
  have qO_1 := cell_regrown O4.k1
  have qO_2 := cell_regrown O4.k2
  refine wp_region_qb (w := w4) (by kernel_rfl) (by kernel_rfl) (by repeat (first | exact Below.refl _ _ | refine below_drewN ?_ _ | refine Below.drew ?_ | refine Below.setCell ?_ (by simp) _ | refine Below.alloc ?_ (by simp) _)) ?_
  repeat (any_goals (first | go_big_quiet_step (first | (go_at_call 16; exact Calls.regrown_of (oright_any _ _ _ _)) | (go_at_call 17; exact Calls.regrown_of (roright_any _ _ _ _)) | (go_at_call 18; exact Calls.regrown_of (ofits_any _ _ _ _ _)) | (go_at_call 19; exact Calls.regrown_of (rofits_any _ _ _ _ _)) | (go_at_call 20; exact Calls.regrown_of (lives5 _))) | quiet_step (first | (go_at_call 16; exact Calls.regrown_of (oright_any _ _ _ _)) | (go_at_call 17; exact Calls.regrown_of (roright_any _ _ _ _)) | (go_at_call 18; exact Calls.regrown_of (ofits_any _ _ _ _ _)) | (go_at_call 19; exact Calls.regrown_of (rofits_any _ _ _ _ _)) | (go_at_call 20; exact Calls.regrown_of (lives5 _)))))
  refine wpQuiet_nil ?_
  intro w5 hq
  have b5 : Below w4.heap.size w4 w5 := by obtain ⟨p, hq⟩ := hq; rw [hq]; exact below_regrown _ _ _
  clear hq qO_0 qO_1 qO_2
  have d5 : Below w4.heap.size w4 w5 := below_step (by repeat (first | exact Below.refl _ _ | refine below_drewN ?_ _ | refine Below.drew ?_ | refine Below.setCell ?_ (by simp) _ | refine Below.alloc ?_ (by simp) _)) b5
  have B5 := Lib.hid (below_step B4.out d5)
  have O5 := O4.keep d5
  clear O4 b5 d5 B4
  go_wp2
  go_ret
  refine ⟨rfl, ?_⟩
  exact below_step B5.out (by repeat (first | exact Below.refl _ _ | refine below_drewN ?_ _ | refine Below.drew ?_ | refine Below.setCell ?_ (by simp) _ | refine Below.alloc ?_ (by simp) _))
end Go.Proofs.Ytlehbnfocilcmab

