/- The answers that noontidetop.begins1 asks for: it is true. -/
import Derived.Test.YtlonbjllgiebhaaDoorLv0
import Derived.Test.YtlonbjllgiebhaaDoorNumN
import Derived.Test.YtlonbjllgiebhaaDoorKind
set_option linter.unusedVariables false
set_option linter.unusedSimpArgs false
namespace Go.Proofs.YtlonbjllgiebhaaDoor
open Go.RowKit

set_option maxHeartbeats 1000000 in
theorem begins1 (w : World) (tp : TypeId) (p : Value) (L : Lv w w tp p) :
    Calls Tryd.prog 4 #[] w fun e w' => e = .returned (.bool true) ∧ Below w.heap.size w w' := by
  have L0 := Lib.hid L; clear L
  go_enter Tryd.func4, Tryd.ntmps4
  go_wp2_with fail
  refine (read_ok _ (-12) _ (by decide) (by decide +kernel) (by decide +kernel) (by decide)).mono ?_; rintro e w1 ⟨rfl, b1⟩
  have L1 := Lib.hid (L0.out.keep b1)
  clear L0 b1
  go_wp2_with fail
  refine (text_any 7 _ (by decide) (by decide) L1.out.tab).mono ?_; rintro e w2 ⟨rfl, b2⟩
  rw [show Lib.itoa 7 = [55] by decide +kernel]
  have L2 := Lib.hid (L1.out.keep b2)
  clear L1 b2
  go_wp2_with fail
  refine (kind_half _).mono ?_; rintro e w3 ⟨rfl, b3⟩
  have L3 := Lib.hid (L2.out.keep b3)
  clear L2 b3
  go_wp2_with fail
  go_ret
  exact ⟨rfl, L3.out.bel⟩

end Go.Proofs.YtlonbjllgiebhaaDoor
