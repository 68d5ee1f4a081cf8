/- What noontidelaw01.lives asks for: it is true. -/
import Derived.Test.YtafnnnbefabofaaDoorNumC
set_option linter.unusedVariables false
set_option linter.unusedSimpArgs false
namespace Go.Proofs.YtafnnnbefabofaaDoor
open Go.RowKit

/-- Nothing old has turned; the table and the error hold what they held. -/
structure Lv (w W : World) (tp : TypeId) (p : Value) : Prop where
  bel : Below w.heap.size w W
  tab : Lib.TabIs Tryd.prog W "internal/strconv.uint64pow10" .u64 Lib.pow10Tab
  rng : W.var? Tryd.prog "strconv.ErrRange" = some #[.iface tp p]
theorem Lv.keep {w W W' : World} {tp : TypeId} {p : Value} (h : Lv w W tp p) (k : Below W.heap.size W W') : Lv w W' tp p :=
  ⟨below_step h.bel k, var_keep k h.tab, var_keep k h.rng⟩

set_option maxHeartbeats 4000000 in
set_option maxRecDepth 100000 in
theorem lives1 (w : World) (tp : TypeId) (p : Value) (L : Lv w w tp p) :
    Calls Tryd.prog 22 #[] w fun e w' => e = .returned (.bool true) ∧ Below w.heap.size w w' := by
  have L0 := Lib.hid L; clear L
  go_enter Tryd.func22, Tryd.ntmps22
  go_wp2_with fail
  refine (div_b (-7) 2 _ (by decide) (by decide) (by decide) (by decide)).mono ?_; rintro e w1 ⟨rfl, b1⟩
  have L1 := Lib.hid (L0.out.keep b1)
  clear L0 b1
  rw [show (-7 : Int) / 2 = -4 by decide, show (-7 : Int) % 2 = 1 by decide]
  go_wp2_with fail
  refine (div_c1 _).mono ?_; rintro e w2 ⟨rfl, b2⟩
  have L2 := Lib.hid (L1.out.keep b2)
  clear L1 b2
  go_wp2_with fail
  refine (div_c2 _).mono ?_; rintro e w3 ⟨rfl, b3⟩
  have L3 := Lib.hid (L2.out.keep b3)
  clear L2 b3
  go_wp2_with fail
  refine (div_c3 _).mono ?_; rintro e w4 ⟨rfl, b4⟩
  have L4 := Lib.hid (L3.out.keep b4)
  clear L3 b4
  go_wp2_with fail
  refine (add_c1 _).mono ?_; rintro e w5 ⟨rfl, b5⟩
  have L5 := Lib.hid (L4.out.keep b5)
  clear L4 b5
  go_wp2_with fail
  refine (add_c2 _).mono ?_; rintro e w6 ⟨rfl, b6⟩
  have L6 := Lib.hid (L5.out.keep b6)
  clear L5 b6
  go_wp2_with fail
  refine (sub_c1 _).mono ?_; rintro e w7 ⟨rfl, b7⟩
  have L7 := Lib.hid (L6.out.keep b7)
  clear L6 b7
  go_wp2_with fail
  refine (sub_c2 _).mono ?_; rintro e w8 ⟨rfl, b8⟩
  have L8 := Lib.hid (L7.out.keep b8)
  clear L7 b8
  go_wp2_with fail
  refine (mul_c1 _).mono ?_; rintro e w9 ⟨rfl, b9⟩
  have L9 := Lib.hid (L8.out.keep b9)
  clear L8 b9
  go_wp2_with fail
  refine (mul_c2 _).mono ?_; rintro e w10 ⟨rfl, b10⟩
  have L10 := Lib.hid (L9.out.keep b10)
  clear L9 b10
  go_wp2_with fail
  refine (read_ok _ (-9223372036854775808) _ (by decide) (by decide +kernel) (by decide +kernel) (by decide)).mono ?_; rintro e w11 ⟨rfl, b11⟩
  have L11 := Lib.hid (L10.out.keep b11)
  clear L10 b11
  go_wp2_with fail
  refine (read_range _ _ (by decide) (by decide +kernel) (by decide +kernel) (by decide) tp p L11.out.rng).mono ?_; rintro e w12 ⟨rfl, b12⟩
  have L12 := Lib.hid (L11.out.keep b12)
  clear L11 b12
  go_wp2_with fail
  refine (read_no _ _ (by decide) (by decide +kernel)).mono ?_; rintro e w13 ⟨rfl, b13⟩
  have L13 := Lib.hid (L12.out.keep b13)
  clear L12 b13
  go_wp2_with fail
  refine (read_no _ _ (by decide) (by decide +kernel)).mono ?_; rintro e w14 ⟨rfl, b14⟩
  have L14 := Lib.hid (L13.out.keep b14)
  clear L13 b14
  go_wp2_with fail
  refine (read_no _ _ (by decide) (by decide +kernel)).mono ?_; rintro e w15 ⟨rfl, b15⟩
  have L15 := Lib.hid (L14.out.keep b15)
  clear L14 b15
  go_wp2_with fail
  refine (read_no _ _ (by decide) (by decide +kernel)).mono ?_; rintro e w16 ⟨rfl, b16⟩
  have L16 := Lib.hid (L15.out.keep b16)
  clear L15 b16
  go_wp2_with fail
  refine (text_any (-9223372036854775808) _ (by decide) (by decide) L16.out.tab).mono ?_; rintro e w17 ⟨rfl, b17⟩
  have L17 := Lib.hid (L16.out.keep b17)
  clear L16 b17
  rw [show Lib.itoa (-9223372036854775808) = [45, 57, 50, 50, 51, 51, 55, 50, 48, 51, 54, 56, 53, 52, 55, 55, 53, 56, 48, 56] by decide +kernel]
  go_wp2_with fail
  refine (text_any 0 _ (by decide) (by decide) L17.out.tab).mono ?_; rintro e w18 ⟨rfl, b18⟩
  have L18 := Lib.hid (L17.out.keep b18)
  clear L17 b18
  rw [show Lib.itoa 0 = [48] by decide +kernel]
  go_wp2_with fail
  refine (clamp_c1 _).mono ?_; rintro e w19 ⟨rfl, b19⟩
  have L19 := Lib.hid (L18.out.keep b19)
  clear L18 b19
  go_wp2_with fail
  refine (clamp_c2 _).mono ?_; rintro e w20 ⟨rfl, b20⟩
  have L20 := Lib.hid (L19.out.keep b20)
  clear L19 b20
  go_wp2_with fail
  refine (clamp_c3 _).mono ?_; rintro e w21 ⟨rfl, b21⟩
  have L21 := Lib.hid (L20.out.keep b21)
  clear L20 b21
  go_wp2_with fail
  go_ret
  exact ⟨rfl, L21.out.bel⟩
end Go.Proofs.YtafnnnbefabofaaDoor
