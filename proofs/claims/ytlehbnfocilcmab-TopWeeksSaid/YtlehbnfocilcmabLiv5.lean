/- The answers that noontidelaw05.lives asks for: it is true. -/
import Derived.Test.YtlehbnfocilcmabDrC
import Derived.Test.YtlehbnfocilcmabBk
set_option linter.unusedVariables false
set_option linter.unusedSimpArgs false
namespace Go.Proofs.Ytlehbnfocilcmab
open Go.RowKit

set_option maxHeartbeats 2000000 in
set_option maxRecDepth 100000 in
theorem lives5 (w : World) :
    Calls Try.prog 20 #[] w fun e w' => e = .returned (.bool true) ∧ Below w.heap.size w w' := by
  go_enter Try.func20, Try.ntmps20
  go_wp2_with fail
  refine (odays_any 2 0 8 2024 3 _).mono ?_; rintro e w1 ⟨rfl, b1⟩
  have d1 : Below w.heap.size w w1 := below_step (by repeat (first | exact Below.refl _ _ | refine below_drewN ?_ _ | refine Below.drew ?_ | refine Below.setCell ?_ (by simp) _ | refine Below.alloc ?_ (by simp) _)) b1
  have B1 := Lib.hid d1
  clear b1 d1
  rw [show Dr.dn 2 0 8 2024 3 = 19792 by decide, show Dr.dw 2 0 8 2024 3 = 0 by decide]
  go_wp2_with fail
  refine (odays_any 1 0 0 2024 10 _).mono ?_; rintro e w2 ⟨rfl, b2⟩
  have d2 : Below w1.heap.size w1 w2 := below_step (by repeat (first | exact Below.refl _ _ | refine below_drewN ?_ _ | refine Below.drew ?_ | refine Below.setCell ?_ (by simp) _ | refine Below.alloc ?_ (by simp) _)) b2
  have B2 := Lib.hid (below_step B1.out d2)
  clear b2 d2 B1
  rw [show Dr.dn 1 0 0 2024 10 = 20023 by decide, show Dr.dw 1 0 0 2024 10 = 0 by decide]
  go_wp2_with fail
  refine (odays_any 3 0 2 2024 3 _).mono ?_; rintro e w3 ⟨rfl, b3⟩
  have d3 : Below w2.heap.size w2 w3 := below_step (by repeat (first | exact Below.refl _ _ | refine below_drewN ?_ _ | refine Below.drew ?_ | refine Below.setCell ?_ (by simp) _ | refine Below.alloc ?_ (by simp) _)) b3
  have B3 := Lib.hid (below_step B2.out d3)
  clear b3 d3 B2
  rw [show Dr.dn 3 0 2 2024 3 = 19778 by decide, show Dr.dw 3 0 2 2024 3 = 0 by decide]
  go_wp2_with fail
  refine (odays_any 0 0 5 1970 1 _).mono ?_; rintro e w4 ⟨rfl, b4⟩
  have d4 : Below w3.heap.size w3 w4 := below_step (by repeat (first | exact Below.refl _ _ | refine below_drewN ?_ _ | refine Below.drew ?_ | refine Below.setCell ?_ (by simp) _ | refine Below.alloc ?_ (by simp) _)) b4
  have B4 := Lib.hid (below_step B3.out d4)
  clear b4 d4 B3
  rw [show Dr.dn 0 0 5 1970 1 = 4 by decide, show Dr.dw 0 0 5 1970 1 = 0 by decide]
  go_wp2_with fail
  refine (odays_any 0 0 29 2024 2 _).mono ?_; rintro e w5 ⟨rfl, b5⟩
  have d5 : Below w4.heap.size w4 w5 := below_step (by repeat (first | exact Below.refl _ _ | refine below_drewN ?_ _ | refine Below.drew ?_ | refine Below.setCell ?_ (by simp) _ | refine Below.alloc ?_ (by simp) _)) b5
  have B5 := Lib.hid (below_step B4.out d5)
  clear b5 d5 B4
  rw [show Dr.dn 0 0 29 2024 2 = 0 by decide, show Dr.dw 0 0 29 2024 2 = 4 by decide]
  go_wp2_with fail
  refine (odays_any 0 0 28 40000 2 _).mono ?_; rintro e w6 ⟨rfl, b6⟩
  have d6 : Below w5.heap.size w5 w6 := below_step (by repeat (first | exact Below.refl _ _ | refine below_drewN ?_ _ | refine Below.drew ?_ | refine Below.setCell ?_ (by simp) _ | refine Below.alloc ?_ (by simp) _)) b6
  have B6 := Lib.hid (below_step B5.out d6)
  clear b6 d6 B5
  rw [show Dr.dn 0 0 28 40000 2 = 0 by decide, show Dr.dw 0 0 28 40000 2 = 1 by decide]
  go_wp2_with fail
  refine (owindow_any 1 3 0 2 _).mono ?_; rintro e w7 ⟨rfl, b7⟩
  have d7 : Below w6.heap.size w6 w7 := below_step (by repeat (first | exact Below.refl _ _ | refine below_drewN ?_ _ | refine Below.drew ?_ | refine Below.setCell ?_ (by simp) _ | refine Below.alloc ?_ (by simp) _)) b7
  have B7 := Lib.hid (below_step B6.out d7)
  clear b7 d7 B6
  rw [show Dr.wl 1 3 0 2 = 22 by decide, show Dr.wh 1 3 0 2 = 29 by decide, show Dr.ww 1 3 0 2 = 0 by decide]
  go_wp2_with fail
  refine (owindow_any 0 0 0 2 _).mono ?_; rintro e w8 ⟨rfl, b8⟩
  have d8 : Below w7.heap.size w7 w8 := below_step (by repeat (first | exact Below.refl _ _ | refine below_drewN ?_ _ | refine Below.drew ?_ | refine Below.setCell ?_ (by simp) _ | refine Below.alloc ?_ (by simp) _)) b8
  have B8 := Lib.hid (below_step B7.out d8)
  clear b8 d8 B7
  rw [show Dr.wl 0 0 0 2 = 0 by decide, show Dr.wh 0 0 0 2 = 0 by decide, show Dr.ww 0 0 0 2 = 4 by decide]
  go_wp2_with fail
  refine (oright_any 1 6 0 _).mono ?_; rintro e w9 ⟨rfl, b9⟩
  have d9 : Below w8.heap.size w8 w9 := below_step (by repeat (first | exact Below.refl _ _ | refine below_drewN ?_ _ | refine Below.drew ?_ | refine Below.setCell ?_ (by simp) _ | refine Below.alloc ?_ (by simp) _)) b9
  have B9 := Lib.hid (below_step B8.out d9)
  clear b9 d9 B8
  rw [show Dr.onR 1 6 0 = true by decide]
  go_wp2_with fail
  refine (oright_any 1 0 1 _).mono ?_; rintro e w10 ⟨rfl, b10⟩
  have d10 : Below w9.heap.size w9 w10 := below_step (by repeat (first | exact Below.refl _ _ | refine below_drewN ?_ _ | refine Below.drew ?_ | refine Below.setCell ?_ (by simp) _ | refine Below.alloc ?_ (by simp) _)) b10
  have B10 := Lib.hid (below_step B9.out d10)
  clear b10 d10 B9
  rw [show Dr.onR 1 0 1 = false by decide]
  go_wp2_with fail
  refine (oright_any 4 0 1 _).mono ?_; rintro e w11 ⟨rfl, b11⟩
  have d11 : Below w10.heap.size w10 w11 := below_step (by repeat (first | exact Below.refl _ _ | refine below_drewN ?_ _ | refine Below.drew ?_ | refine Below.setCell ?_ (by simp) _ | refine Below.alloc ?_ (by simp) _)) b11
  have B11 := Lib.hid (below_step B10.out d11)
  clear b11 d11 B10
  rw [show Dr.onR 4 0 1 = false by decide]
  go_wp2_with fail
  refine (oright_any 0 1 1 _).mono ?_; rintro e w12 ⟨rfl, b12⟩
  have d12 : Below w11.heap.size w11 w12 := below_step (by repeat (first | exact Below.refl _ _ | refine below_drewN ?_ _ | refine Below.drew ?_ | refine Below.setCell ?_ (by simp) _ | refine Below.alloc ?_ (by simp) _)) b12
  have B12 := Lib.hid (below_step B11.out d12)
  clear b12 d12 B11
  rw [show Dr.onR 0 1 1 = false by decide]
  go_wp2_with fail
  refine (ofits_any 0 0 30 4 _).mono ?_; rintro e w13 ⟨rfl, b13⟩
  have d13 : Below w12.heap.size w12 w13 := below_step (by repeat (first | exact Below.refl _ _ | refine below_drewN ?_ _ | refine Below.drew ?_ | refine Below.setCell ?_ (by simp) _ | refine Below.alloc ?_ (by simp) _)) b13
  have B13 := Lib.hid (below_step B12.out d13)
  clear b13 d13 B12
  rw [show Dr.onF 0 0 30 4 = true by decide]
  go_wp2_with fail
  refine (ofits_any 0 0 31 4 _).mono ?_; rintro e w14 ⟨rfl, b14⟩
  have d14 : Below w13.heap.size w13 w14 := below_step (by repeat (first | exact Below.refl _ _ | refine below_drewN ?_ _ | refine Below.drew ?_ | refine Below.setCell ?_ (by simp) _ | refine Below.alloc ?_ (by simp) _)) b14
  have B14 := Lib.hid (below_step B13.out d14)
  clear b14 d14 B13
  rw [show Dr.onF 0 0 31 4 = false by decide]
  go_wp2_with fail
  refine (ofits_any 0 0 1 13 _).mono ?_; rintro e w15 ⟨rfl, b15⟩
  have d15 : Below w14.heap.size w14 w15 := below_step (by repeat (first | exact Below.refl _ _ | refine below_drewN ?_ _ | refine Below.drew ?_ | refine Below.setCell ?_ (by simp) _ | refine Below.alloc ?_ (by simp) _)) b15
  have B15 := Lib.hid (below_step B14.out d15)
  clear b15 d15 B14
  rw [show Dr.onF 0 0 1 13 = false by decide]
  go_wp2_with fail
  go_ret
  exact ⟨rfl, below_step B15.out (by repeat (first | exact Below.refl _ _ | refine below_drewN ?_ _ | refine Below.drew ?_ | refine Below.setCell ?_ (by simp) _ | refine Below.alloc ?_ (by simp) _))⟩
end Go.Proofs.Ytlehbnfocilcmab

