/- The walk of NumTells: whatever numbers and text, the law answers true; nothing old turns. -/
import Derived.Test.YtafnnnbefabofaaDoorLiv1
import Derived.Test.YtafnnnbefabofaaDoorRnA
import Derived.Test.YtafnnnbefabofaaDoorRnB
import Derived.Test.YtafnnnbefabofaaDoorRnC
import Derived.Test.YtafnnnbefabofaaDoorRnG
import Derived.Test.YtafnnnbefabofaaDoorNumH
import Derived.Test.YtafnnnbefabofaaDoorMul
set_option linter.unusedVariables false
set_option linter.unusedSimpArgs false
namespace Go.Proofs.YtafnnnbefabofaaDoor
open Go.RowKit

theorem Lv.at_ {w W : World} {tp : TypeId} {p : Value} (h : Lv w W tp p) : Lv W W tp p := ⟨Below.refl _ _, h.tab, h.rng⟩
set_option maxHeartbeats 4000000 in
set_option maxRecDepth 100000 in
theorem ntells_long (a b low high : Int) (s : ByteArray) (w : World) (tp : TypeId) (p : Value) (L : Lv w w tp p) (hl : 1000 < s.size) :
    Calls Tryd.prog 5 #[.int .i64 a, .int .i64 b, .int .i64 low, .int .i64 high, .string s] w fun e w' => e = .returned (.bool true) ∧ Below w.heap.size w w' := by
  have hl' : (1000 : Int) < (s.size : Int) := by omega
  have L0 := Lib.hid L; clear L
  go_enter Tryd.func5, Tryd.ntmps5
  go_wp2_with fail
  refine (lives1 _ tp p L0.out).mono ?_; rintro e w1 ⟨rfl, b1⟩
  have L1 := Lib.hid (L0.out.keep b1)
  clear L0 b1
  go_wp2_with fail
  go_ret
  exact ⟨rfl, L1.out.bel⟩
set_option maxHeartbeats 4000000 in
set_option maxRecDepth 100000 in
theorem ntells_in (a b low high : Int) (s : ByteArray) (w : World) (tp : TypeId) (p : Value) (L : Lv w w tp p) (a0 : -9223372036854775808 ≤ a) (a1 : a ≤ 9223372036854775807) (b0 : -9223372036854775808 ≤ b) (b1 : b ≤ 9223372036854775807) (hl : s.size ≤ 1000) :
    Calls Tryd.prog 5 #[.int .i64 a, .int .i64 b, .int .i64 low, .int .i64 high, .string s] w fun e w' => e = .returned (.bool true) ∧ Below w.heap.size w w' := by
  have hl' : (s.size : Int) ≤ 1000 := by omega
  have LV := Lib.hid (fun W => lives1 W tp p)
  obtain ⟨x1, y1, PA, RA⟩ : ∃ x y, Hid (∀ W, Calls Tryd.prog 23 #[.int .i64 a, .int .i64 b] W fun e w' => e = .returned (.tuple #[.int .i64 x, .int .i64 y]) ∧ Below W.heap.size W w') ∧ Hid (∀ W, Calls Tryd.prog 24 #[.int .i64 a, .int .i64 b] W fun e w' => e = .returned (.tuple #[.int .i64 x, .int .i64 y]) ∧ Below W.heap.size W w') := ⟨_, _, fun W => nadd_b a b W a0 a1 b0 b1, fun W => ref_add a b W a0 a1 b0 b1⟩
  obtain ⟨x2, y2, PS, RS⟩ : ∃ x y, Hid (∀ W, Calls Tryd.prog 25 #[.int .i64 a, .int .i64 b] W fun e w' => e = .returned (.tuple #[.int .i64 x, .int .i64 y]) ∧ Below W.heap.size W w') ∧ Hid (∀ W, Calls Tryd.prog 26 #[.int .i64 a, .int .i64 b] W fun e w' => e = .returned (.tuple #[.int .i64 x, .int .i64 y]) ∧ Below W.heap.size W w') := ⟨_, _, fun W => num_sub a b W a0 a1 b0 b1, fun W => noontideref01_sub a b W a0 a1 b0 b1⟩
  obtain ⟨x3, y3, PM, RM⟩ : ∃ x y, Hid (∀ W, Calls Tryd.prog 27 #[.int .i64 a, .int .i64 b] W fun e w' => e = .returned (.tuple #[.int .i64 x, .int .i64 y]) ∧ Below W.heap.size W w') ∧ Hid (∀ W, Calls Tryd.prog 28 #[.int .i64 a, .int .i64 b] W fun e w' => e = .returned (.tuple #[.int .i64 x, .int .i64 y]) ∧ Below W.heap.size W w') := ⟨_, _, fun W => nmul_b a b W a0 a1 b0 b1, fun W => rmul_any a b W a0 a1 b0 b1⟩
  obtain ⟨x4, y4, z4, PD, RD⟩ : ∃ x y z, Hid (∀ W, Calls Tryd.prog 29 #[.int .i64 a, .int .i64 b] W fun e w' => e = .returned (.tuple #[.int .i64 x, .int .i64 y, .int .i64 z]) ∧ Below W.heap.size W w') ∧ Hid (∀ W, Calls Tryd.prog 30 #[.int .i64 a, .int .i64 b] W fun e w' => e = .returned (.tuple #[.int .i64 x, .int .i64 y, .int .i64 z]) ∧ Below W.heap.size W w') := ⟨_, _, _, fun W => any_num.Div a b W, fun W => any_noontideref01.Div a b W⟩
  obtain ⟨x5, y5, PR, RR⟩ : ∃ x y, Hid (∀ W, W.var? Tryd.prog "strconv.ErrRange" = some #[.iface tp p] → Calls Tryd.prog 31 #[.string s] W fun e w' => e = .returned (.tuple #[.int .i64 x, .int .i64 y]) ∧ Below W.heap.size W w') ∧ Hid (∀ W, Calls Tryd.prog 32 #[.string s] W fun e w' => e = .returned (.tuple #[.int .i64 x, .int .i64 y]) ∧ W = w') := ⟨_, _, fun W h => read_any s W hl tp p h, fun W => rread_any s W hl⟩
  obtain ⟨T, PT, RT⟩ : ∃ T, Hid (∀ W, Lib.TabIs Tryd.prog W "internal/strconv.uint64pow10" .u64 Lib.pow10Tab → Calls Tryd.prog 33 #[.int .i64 a] W fun e w' => e = .returned (.string T) ∧ Below W.heap.size W w') ∧ Hid (∀ W, Calls Tryd.prog 34 #[.int .i64 a] W fun e w' => e = .returned (.string T) ∧ Below W.heap.size W w') := ⟨_, fun W h => text_any a W a0 a1 h, fun W => rtext_any a W a0 a1⟩
  obtain ⟨C, PC, RC⟩ : ∃ C, Hid (∀ W, Calls Tryd.prog 35 #[.int .i64 a, .int .i64 low, .int .i64 high] W fun e w' => e = .returned (.int .i64 C) ∧ Below W.heap.size W w') ∧ Hid (∀ W, Calls Tryd.prog 36 #[.int .i64 a, .int .i64 low, .int .i64 high] W fun e w' => e = .returned (.int .i64 C) ∧ Below W.heap.size W w') := ⟨_, fun W => any_num.Clamp a low high W, fun W => any_noontideref01.Clamp a low high W⟩
  have L0 := Lib.hid L; clear L
  clear a0 a1 b0 b1 hl
  go_enter Tryd.func5, Tryd.ntmps5
  go_wp2_with fail
  refine (PA.out _).mono ?_; rintro e w1 ⟨rfl, b1⟩
  have d1 : Below w.heap.size w w1 := below_step (by repeat (first | exact Below.refl _ _ | refine below_drewN ?_ _ | refine Below.drew ?_ | refine Below.setCell ?_ (by first | (simp; done) | (simp; omega) | omega) _ | refine Below.alloc ?_ (by first | (simp; done) | (simp; omega) | omega) _)) b1
  have B1 := Lib.hid d1
  clear b1 d1
  go_wp2_with fail
  refine (RA.out _).mono ?_; rintro e w2 ⟨rfl, b2⟩
  have d2 : Below w1.heap.size w1 w2 := below_step (by repeat (first | exact Below.refl _ _ | refine below_drewN ?_ _ | refine Below.drew ?_ | refine Below.setCell ?_ (by first | (simp; done) | (simp; omega) | omega) _ | refine Below.alloc ?_ (by first | (simp; done) | (simp; omega) | omega) _)) b2
  have B2 := Lib.hid (below_step B1.out d2)
  clear b2 d2 B1
  go_wp2_with fail
  refine (PS.out _).mono ?_; rintro e w3 ⟨rfl, b3⟩
  have d3 : Below w2.heap.size w2 w3 := below_step (by repeat (first | exact Below.refl _ _ | refine below_drewN ?_ _ | refine Below.drew ?_ | refine Below.setCell ?_ (by first | (simp; done) | (simp; omega) | omega) _ | refine Below.alloc ?_ (by first | (simp; done) | (simp; omega) | omega) _)) b3
  have B3 := Lib.hid (below_step B2.out d3)
  clear b3 d3 B2
  go_wp2_with fail
  refine (RS.out _).mono ?_; rintro e w4 ⟨rfl, b4⟩
  have d4 : Below w3.heap.size w3 w4 := below_step (by repeat (first | exact Below.refl _ _ | refine below_drewN ?_ _ | refine Below.drew ?_ | refine Below.setCell ?_ (by first | (simp; done) | (simp; omega) | omega) _ | refine Below.alloc ?_ (by first | (simp; done) | (simp; omega) | omega) _)) b4
  have B4 := Lib.hid (below_step B3.out d4)
  clear b4 d4 B3
  go_wp2_with fail
  refine (PM.out _).mono ?_; rintro e w5 ⟨rfl, b5⟩
  have d5 : Below w4.heap.size w4 w5 := below_step (by repeat (first | exact Below.refl _ _ | refine below_drewN ?_ _ | refine Below.drew ?_ | refine Below.setCell ?_ (by first | (simp; done) | (simp; omega) | omega) _ | refine Below.alloc ?_ (by first | (simp; done) | (simp; omega) | omega) _)) b5
  have B5 := Lib.hid (below_step B4.out d5)
  clear b5 d5 B4
  go_wp2_with fail
  refine (RM.out _).mono ?_; rintro e w6 ⟨rfl, b6⟩
  have d6 : Below w5.heap.size w5 w6 := below_step (by repeat (first | exact Below.refl _ _ | refine below_drewN ?_ _ | refine Below.drew ?_ | refine Below.setCell ?_ (by first | (simp; done) | (simp; omega) | omega) _ | refine Below.alloc ?_ (by first | (simp; done) | (simp; omega) | omega) _)) b6
  have B6 := Lib.hid (below_step B5.out d6)
  clear b6 d6 B5
  go_wp2_with fail
  refine (PD.out _).mono ?_; rintro e w7 ⟨rfl, b7⟩
  have d7 : Below w6.heap.size w6 w7 := below_step (by repeat (first | exact Below.refl _ _ | refine below_drewN ?_ _ | refine Below.drew ?_ | refine Below.setCell ?_ (by first | (simp; done) | (simp; omega) | omega) _ | refine Below.alloc ?_ (by first | (simp; done) | (simp; omega) | omega) _)) b7
  have B7 := Lib.hid (below_step B6.out d7)
  clear b7 d7 B6
  go_wp2_with fail
  refine (RD.out _).mono ?_; rintro e w8 ⟨rfl, b8⟩
  have d8 : Below w7.heap.size w7 w8 := below_step (by repeat (first | exact Below.refl _ _ | refine below_drewN ?_ _ | refine Below.drew ?_ | refine Below.setCell ?_ (by first | (simp; done) | (simp; omega) | omega) _ | refine Below.alloc ?_ (by first | (simp; done) | (simp; omega) | omega) _)) b8
  have B8 := Lib.hid (below_step B7.out d8)
  clear b8 d8 B7
  go_wp2_with fail
  refine (PR.out _ (L0.out.keep (below_step B8.out (by repeat (first | exact Below.refl _ _ | refine below_drewN ?_ _ | refine Below.drew ?_ | refine Below.setCell ?_ (by first | (simp; done) | (simp; omega) | omega) _ | refine Below.alloc ?_ (by first | (simp; done) | (simp; omega) | omega) _)))).rng).mono ?_; rintro e w9 ⟨rfl, b9⟩
  have d9 : Below w8.heap.size w8 w9 := below_step (by repeat (first | exact Below.refl _ _ | refine below_drewN ?_ _ | refine Below.drew ?_ | refine Below.setCell ?_ (by first | (simp; done) | (simp; omega) | omega) _ | refine Below.alloc ?_ (by first | (simp; done) | (simp; omega) | omega) _)) b9
  have B9 := Lib.hid (below_step B8.out d9)
  clear b9 d9 B8
  go_wp2_with fail
  refine (RR.out _).mono ?_; rintro e v1 ⟨rfl, rfl⟩
  go_wp2_with fail
  refine (PT.out _ (L0.out.keep (below_step B9.out (by repeat (first | exact Below.refl _ _ | refine below_drewN ?_ _ | refine Below.drew ?_ | refine Below.setCell ?_ (by first | (simp; done) | (simp; omega) | omega) _ | refine Below.alloc ?_ (by first | (simp; done) | (simp; omega) | omega) _)))).tab).mono ?_; rintro e w10 ⟨rfl, b10⟩
  have d10 : Below w9.heap.size w9 w10 := below_step (by repeat (first | exact Below.refl _ _ | refine below_drewN ?_ _ | refine Below.drew ?_ | refine Below.setCell ?_ (by first | (simp; done) | (simp; omega) | omega) _ | refine Below.alloc ?_ (by first | (simp; done) | (simp; omega) | omega) _)) b10
  have B10 := Lib.hid (below_step B9.out d10)
  clear b10 d10 B9
  go_wp2_with fail
  refine (RT.out _).mono ?_; rintro e w11 ⟨rfl, b11⟩
  have d11 : Below w10.heap.size w10 w11 := below_step (by repeat (first | exact Below.refl _ _ | refine below_drewN ?_ _ | refine Below.drew ?_ | refine Below.setCell ?_ (by first | (simp; done) | (simp; omega) | omega) _ | refine Below.alloc ?_ (by first | (simp; done) | (simp; omega) | omega) _)) b11
  have B11 := Lib.hid (below_step B10.out d11)
  clear b11 d11 B10
  go_wp2_with fail
  refine (PC.out _).mono ?_; rintro e w12 ⟨rfl, b12⟩
  have d12 : Below w11.heap.size w11 w12 := below_step (by repeat (first | exact Below.refl _ _ | refine below_drewN ?_ _ | refine Below.drew ?_ | refine Below.setCell ?_ (by first | (simp; done) | (simp; omega) | omega) _ | refine Below.alloc ?_ (by first | (simp; done) | (simp; omega) | omega) _)) b12
  have B12 := Lib.hid (below_step B11.out d12)
  clear b12 d12 B11
  go_wp2_with fail
  refine (RC.out _).mono ?_; rintro e w13 ⟨rfl, b13⟩
  have d13 : Below w12.heap.size w12 w13 := below_step (by repeat (first | exact Below.refl _ _ | refine below_drewN ?_ _ | refine Below.drew ?_ | refine Below.setCell ?_ (by first | (simp; done) | (simp; omega) | omega) _ | refine Below.alloc ?_ (by first | (simp; done) | (simp; omega) | omega) _)) b13
  have B13 := Lib.hid (below_step B12.out d13)
  clear b13 d13 B12
  go_wp2_with fail
  refine (LV.out _ (L0.out.keep (below_step B13.out (by repeat (first | exact Below.refl _ _ | refine below_drewN ?_ _ | refine Below.drew ?_ | refine Below.setCell ?_ (by first | (simp; done) | (simp; omega) | omega) _ | refine Below.alloc ?_ (by first | (simp; done) | (simp; omega) | omega) _)))).at_).mono ?_; rintro e w14 ⟨rfl, b14⟩
  have d14 : Below w13.heap.size w13 w14 := below_step (by repeat (first | exact Below.refl _ _ | refine below_drewN ?_ _ | refine Below.drew ?_ | refine Below.setCell ?_ (by first | (simp; done) | (simp; omega) | omega) _ | refine Below.alloc ?_ (by first | (simp; done) | (simp; omega) | omega) _)) b14
  have B14 := Lib.hid (below_step B13.out d14)
  clear b14 d14 B13
  go_wp2_with fail
  go_ret
  exact ⟨rfl, (by have hz := B14.out.size; repeat (first | exact B14.out | refine below_drewN ?_ _ | refine Below.drew ?_ | refine Below.setCell ?_ (by first | omega | (simp; done) | (simp; omega)) _ | refine Below.alloc ?_ (by first | omega | (simp; done) | (simp; omega)) _))⟩
theorem ntells_walk (a b low high : Int) (s : ByteArray) (w : World) (tp : TypeId) (p : Value) (L : Lv w w tp p) (a0 : -9223372036854775808 ≤ a) (a1 : a ≤ 9223372036854775807) (b0 : -9223372036854775808 ≤ b) (b1 : b ≤ 9223372036854775807) (hs : s.size ≤ maxLen) :
    Calls Tryd.prog 5 #[.int .i64 a, .int .i64 b, .int .i64 low, .int .i64 high, .string s] w fun e w' => e = .returned (.bool true) ∧ Below w.heap.size w w' := by
  by_cases hl : s.size ≤ 1000
  · exact ntells_in a b low high s w tp p L a0 a1 b0 b1 hl
  · exact ntells_long a b low high s w tp p L (by omega)
end Go.Proofs.YtafnnnbefabofaaDoor

