/- The walk of TopNumbers: the numbers that the document names, and a number's text read back. -/
import Derived.Test.YtcephkmdedjecaaDoorLiv1
import Derived.Test.YtcephkmdedjecaaDoorNumN
import Derived.Test.YtcephkmdedjecaaDoorKind
set_option linter.unusedVariables false
set_option linter.unusedSimpArgs false
namespace Go.Proofs.YtcephkmdedjecaaDoor
open Go.RowKit

set_option maxHeartbeats 1000000 in
theorem begins1 (w : World) (tp : TypeId) (p : Value) (L : Lv w w tp p) :
    Calls Tryd.prog 40 #[] w fun e w' => e = .returned (.bool true) ∧ Below w.heap.size w w' := by
  have L0 := Lib.hid L; clear L
  go_enter Tryd.func40, Tryd.ntmps40
  go_wp2_with fail
  refine (read_ok _ (-12) _ (by decide) (by decide +kernel) (by decide +kernel) (by decide)).mono ?_; rintro e w1 ⟨rfl, b1⟩
  have L1 := Lib.hid (L0.out.keep b1)
  clear L0 b1
  go_wp2_with fail
  refine (text_any 7 _ (by decide) (by decide) L1.out.tab).mono ?_; rintro e w2 ⟨rfl, b2⟩
  rw [show Lib.itoa 7 = [55] by decide +kernel]
  have L2 := Lib.hid (L1.out.keep b2)
  clear L1 b2
  go_wp2_with fail
  refine (kind_half _).mono ?_; rintro e w3 ⟨rfl, b3⟩
  have L3 := Lib.hid (L2.out.keep b3)
  clear L2 b3
  go_wp2_with fail
  go_ret
  exact ⟨rfl, L3.out.bel⟩

set_option maxHeartbeats 8000000 in
set_option maxRecDepth 100000 in
theorem topNumbers_walk (n : Int) (w : World) (tp : TypeId) (p : Value) (L : Lv w w tp p) (n0 : -9223372036854775808 ≤ n) (n1 : n ≤ 9223372036854775807) :
    Calls Tryd.prog 8 #[.int .i64 n] w fun e w' => e = .returned (.bool true) ∧ Below w.heap.size w w' := by
  have tl : (Lib.itoa n).length ≤ 21 := Lib.itoa_length_le n n0 n1
  have SZ : RowKit.Hid ((⟨(Lib.itoa n).toArray⟩ : ByteArray).size ≤ maxLen) := by show (Lib.itoa n).toArray.size ≤ maxLen; rw [List.size_toArray]; unfold maxLen; omega
  have SZ6 : RowKit.Hid ((⟨(Lib.itoa n).toArray⟩ : ByteArray).size ≤ 9223372036854775806) := by show (Lib.itoa n).toArray.size ≤ _; rw [List.size_toArray]; omega
  have T0 : RowKit.Hid (Num.isT (⟨(Lib.itoa n).toArray⟩ : ByteArray).data.toList = true) := Num.isT_itoa n
  have T1 : RowKit.Hid (Lib.parseIntB 64 (⟨(Lib.itoa n).toArray⟩ : ByteArray).data.toList = .ok n) := Num.parse_itoa n n0 n1
  clear tl
  have N0 := Lib.hid n0; have N1 := Lib.hid n1; clear n0 n1
  have L0 := Lib.hid L; clear L
  go_enter Tryd.func8, Tryd.ntmps8
  go_wp2_with fail
  refine wp_loop_rounds 23 ?_
  rw [rounds_succ]
  go_wp2_with fail
  rw [rounds_succ]
  go_wp2_with fail
  rw [rounds_succ]
  go_wp2_with fail
  rw [rounds_succ]
  go_wp2_with fail
  rw [rounds_succ]
  go_wp2_with fail
  rw [rounds_succ]
  go_wp2_with fail
  rw [rounds_succ]
  go_wp2_with fail
  rw [rounds_succ]
  go_wp2_with fail
  rw [rounds_succ]
  go_wp2_with fail
  rw [rounds_succ]
  go_wp2_with fail
  rw [rounds_succ]
  go_wp2_with fail
  rw [rounds_succ]
  go_wp2_with fail
  rw [rounds_succ]
  go_wp2_with fail
  rw [rounds_succ]
  go_wp2_with fail
  rw [rounds_succ]
  go_wp2_with fail
  rw [rounds_succ]
  go_wp2_with fail
  rw [rounds_succ]
  go_wp2_with fail
  rw [rounds_succ]
  go_wp2_with fail
  rw [rounds_succ]
  go_wp2_with fail
  rw [rounds_succ]
  go_wp2_with fail
  rw [rounds_succ]
  go_wp2_with fail
  rw [rounds_succ]
  go_wp2_with fail
  rw [rounds_succ]
  go_wp2_with fail
  refine wp_loop_rounds 25 ?_
  rw [rounds_succ]
  go_wp2_with fail
  go_quiet (fail)
  go_wp2_with fail
  rw [rounds_succ]
  go_wp2_with fail
  go_quiet (fail)
  go_wp2_with fail
  rw [rounds_succ]
  go_wp2_with fail
  go_quiet (fail)
  go_wp2_with fail
  rw [rounds_succ]
  go_wp2_with fail
  go_quiet (fail)
  go_wp2_with fail
  rw [rounds_succ]
  go_wp2_with fail
  go_quiet (fail)
  go_wp2_with fail
  rw [rounds_succ]
  go_wp2_with fail
  go_quiet (fail)
  go_wp2_with fail
  rw [rounds_succ]
  go_wp2_with fail
  go_quiet (fail)
  go_wp2_with fail
  rw [rounds_succ]
  go_wp2_with fail
  go_quiet (fail)
  go_wp2_with fail
  rw [rounds_succ]
  go_wp2_with fail
  go_quiet (fail)
  go_wp2_with fail
  rw [rounds_succ]
  go_wp2_with fail
  go_quiet (fail)
  go_wp2_with fail
  rw [rounds_succ]
  go_wp2_with fail
  go_quiet (fail)
  go_wp2_with fail
  rw [rounds_succ]
  go_wp2_with fail
  go_quiet (fail)
  go_wp2_with fail
  rw [rounds_succ]
  go_wp2_with fail
  go_quiet (fail)
  go_wp2_with fail
  rw [rounds_succ]
  go_wp2_with fail
  go_quiet (fail)
  go_wp2_with fail
  rw [rounds_succ]
  go_wp2_with fail
  go_quiet (fail)
  go_wp2_with fail
  rw [rounds_succ]
  go_wp2_with fail
  go_quiet (fail)
  go_wp2_with fail
  rw [rounds_succ]
  go_wp2_with fail
  go_quiet (fail)
  go_wp2_with fail
  rw [rounds_succ]
  go_wp2_with fail
  go_quiet (fail)
  go_wp2_with fail
  rw [rounds_succ]
  go_wp2_with fail
  go_quiet (fail)
  go_wp2_with fail
  rw [rounds_succ]
  go_wp2_with fail
  go_quiet (fail)
  go_wp2_with fail
  rw [rounds_succ]
  go_wp2_with fail
  go_quiet (fail)
  go_wp2_with fail
  rw [rounds_succ]
  go_wp2_with fail
  go_quiet (fail)
  go_wp2_with fail
  rw [rounds_succ]
  go_wp2_with fail
  go_quiet (fail)
  go_wp2_with fail
  rw [rounds_succ]
  go_wp2_with fail
  go_quiet (fail)
  go_wp2_with fail
  rw [rounds_succ]
  go_wp2_with fail
  refine wp_loop_rounds 33 ?_
  rw [rounds_succ]
  go_wp2_with fail
  rw [rounds_succ]
  go_wp2_with fail
  rw [rounds_succ]
  go_wp2_with fail
  rw [rounds_succ]
  go_wp2_with fail
  rw [rounds_succ]
  go_wp2_with fail
  rw [rounds_succ]
  go_wp2_with fail
  rw [rounds_succ]
  go_wp2_with fail
  rw [rounds_succ]
  go_wp2_with fail
  rw [rounds_succ]
  go_wp2_with fail
  rw [rounds_succ]
  go_wp2_with fail
  rw [rounds_succ]
  go_wp2_with fail
  rw [rounds_succ]
  go_wp2_with fail
  rw [rounds_succ]
  go_wp2_with fail
  rw [rounds_succ]
  go_wp2_with fail
  rw [rounds_succ]
  go_wp2_with fail
  rw [rounds_succ]
  go_wp2_with fail
  rw [rounds_succ]
  go_wp2_with fail
  rw [rounds_succ]
  go_wp2_with fail
  rw [rounds_succ]
  go_wp2_with fail
  rw [rounds_succ]
  go_wp2_with fail
  rw [rounds_succ]
  go_wp2_with fail
  rw [rounds_succ]
  go_wp2_with fail
  rw [rounds_succ]
  go_wp2_with fail
  rw [rounds_succ]
  go_wp2_with fail
  rw [rounds_succ]
  go_wp2_with fail
  rw [rounds_succ]
  go_wp2_with fail
  rw [rounds_succ]
  go_wp2_with fail
  rw [rounds_succ]
  go_wp2_with fail
  rw [rounds_succ]
  go_wp2_with fail
  rw [rounds_succ]
  go_wp2_with fail
  rw [rounds_succ]
  go_wp2_with fail
  rw [rounds_succ]
  go_wp2_with fail
  rw [rounds_succ]
  go_wp2_with fail
  have G : ∀ W, Below w.heap.size w W → RowKit.Hid (Lv w W tp p) := fun W b => Lib.hid (L0.out.keep b)
  have G' := Lib.hid G; clear G
  refine (text_any n _ N0.out N1.out (G'.out _ (by repeat (first | exact Below.refl _ _ | refine below_drewN ?_ _ | refine Below.alloc ?_ (by first | (simp; done) | (simp; omega)) _))).out.tab).mono ?_; rintro e w2 ⟨rfl, b2⟩
  have L2 : RowKit.Hid (Lv w w2 tp p) := Lib.hid (L0.out.keep (below_step (by repeat (first | exact Below.refl _ _ | refine below_drewN ?_ _ | refine Below.alloc ?_ (by first | (simp; done) | (simp; omega)) _)) b2))
  clear b2 G' L0
  go_wp2_with fail
  refine (read_ok _ n _ (by exact SZ.out) (by exact T0.out) (by exact T1.out) (by exact SZ6.out)).mono ?_; rintro e w3 ⟨rfl, b3⟩
  have L3 := Lib.hid (L2.out.keep b3)
  clear L2 b3
  go_wp2_with fail
  refine (begins1 _ tp p ⟨Below.refl _ _, L3.out.tab, L3.out.rng⟩).mono ?_; rintro e w4 ⟨rfl, b4⟩
  have L4 := Lib.hid (L3.out.keep b4)
  clear L3 b4
  go_wp2_with fail
  go_ret
  exact ⟨rfl, L4.out.bel⟩
end Go.Proofs.YtcephkmdedjecaaDoor
