/- The walk of YearTells: whatever text and years, the law answers true; nothing old turns. -/
import Derived.Test.YtafnnnbefabofaaDoorYrF
set_option linter.unusedVariables false
set_option linter.unusedSimpArgs false
namespace Go.Proofs.YtafnnnbefabofaaDoor
open Go.RowKit Go.Sort

set_option maxHeartbeats 4000000 in
set_option maxRecDepth 100000 in
theorem ytells_long (s : ByteArray) (f y : Int) (w : World) (tp : TypeId) (p : Value) (L : Lv w w tp p) (hl : 500 < s.size) :
    Calls Tryd.prog 10 #[.string s, .int .i64 f, .int .i64 y] w fun e w' => e = .returned (.bool true) ∧ Below w.heap.size w w' := by
  have hl' : (500 : Int) < (s.size : Int) := by omega
  have LV := Lib.hid (lives17 w tp p L)
  clear L hl
  go_enter Tryd.func10, Tryd.ntmps10
  go_wp2_with fail
  refine (LV.out).mono ?_; rintro e w1 ⟨rfl, b1⟩
  have d1 : Below w.heap.size w w1 := below_step (by repeat (first | exact Below.refl _ _ | refine below_drewN ?_ _ | refine Below.drew ?_ | refine Below.setCell ?_ (by first | (simp; done) | (simp; omega) | omega) _ | refine Below.alloc ?_ (by first | (simp; done) | (simp; omega) | omega) _)) b1
  have B1 := Lib.hid d1
  clear b1 d1
  go_wp2_with fail
  go_ret
  exact ⟨rfl, (by have hz := B1.out.size; repeat (first | exact B1.out | refine below_drewN ?_ _ | refine Below.drew ?_ | refine Below.setCell ?_ (by first | omega | (simp; done) | (simp; omega)) _ | refine Below.alloc ?_ (by first | omega | (simp; done) | (simp; omega)) _))⟩
set_option maxHeartbeats 4000000 in
set_option maxRecDepth 100000 in
theorem ytells_in (s : ByteArray) (f y : Int) (w : World) (tp : TypeId) (p : Value) (L : Lv w w tp p) (hs : s.size ≤ 500) (y0 : -9223372036854775808 ≤ y) (y1 : y ≤ 9223372036854775807) :
    Calls Tryd.prog 10 #[.string s, .int .i64 f, .int .i64 y] w fun e w' => e = .returned (.bool true) ∧ Below w.heap.size w w' := by
  have hl' : (s.size : Int) ≤ 500 := by omega
  have LV := Lib.hid (fun W => lives17 W tp p)
  obtain ⟨x1, q1, PA, RA⟩ : ∃ x q, Hid (∀ W, W.var? Tryd.prog "strconv.ErrRange" = some #[.iface tp p] → Calls Tryd.prog 19 #[.string s] W fun e w' => e = .returned (.tuple #[.int .i64 x, .int .i64 q]) ∧ Below W.heap.size W w') ∧ Hid (∀ W, Calls Tryd.prog 70 #[.string s] W fun e w' => e = .returned (.tuple #[.int .i64 x, .int .i64 q]) ∧ Below W.heap.size W w') := ⟨_, _, fun W h => yfrom_any s W (by omega) tp p h, fun W => ryfrom_any s W (by omega)⟩
  obtain ⟨x2, q2, PB, RB⟩ : ∃ x q, Hid (∀ W, W.var? Tryd.prog "strconv.ErrRange" = some #[.iface tp p] → Calls Tryd.prog 21 #[.string s, .int .i64 f] W fun e w' => e = .returned (.tuple #[.int .i64 x, .int .i64 q]) ∧ Below W.heap.size W w') ∧ Hid (∀ W, Calls Tryd.prog 71 #[.string s, .int .i64 f] W fun e w' => e = .returned (.tuple #[.int .i64 x, .int .i64 q]) ∧ Below W.heap.size W w') := ⟨_, _, fun W h => yto_any s f W (by omega) tp p h, fun W => ryto_any s f W (by omega)⟩
  obtain ⟨x3, q3, PC, RC⟩ : ∃ x q, Hid (∀ W, Lib.TabIs Tryd.prog W "internal/strconv.uint64pow10" .u64 Lib.pow10Tab → Calls Tryd.prog 18 #[.int .i64 y] W fun e w' => e = .returned (.tuple #[.string x, .int .i64 q]) ∧ Below W.heap.size W w') ∧ Hid (∀ W, Calls Tryd.prog 72 #[.int .i64 y] W fun e w' => e = .returned (.tuple #[.string x, .int .i64 q]) ∧ Below W.heap.size W w') := ⟨_, _, fun W h => yft_any y W y0 y1 h, fun W => ryft_any y W y0 y1⟩
  obtain ⟨x4, q4, PD, RD⟩ : ∃ x q, Hid (∀ W, Lib.TabIs Tryd.prog W "internal/strconv.uint64pow10" .u64 Lib.pow10Tab → Calls Tryd.prog 20 #[.int .i64 f, .int .i64 y] W fun e w' => e = .returned (.tuple #[.string x, .int .i64 q]) ∧ Below W.heap.size W w') ∧ Hid (∀ W, Calls Tryd.prog 73 #[.int .i64 f, .int .i64 y] W fun e w' => e = .returned (.tuple #[.string x, .int .i64 q]) ∧ Below W.heap.size W w') := ⟨_, _, fun W h => ytt_any f y W y0 y1 h, fun W => rytt_any f y W y0 y1⟩
  have L0 := Lib.hid L; clear L
  clear hs y0 y1
  go_enter Tryd.func10, Tryd.ntmps10
  go_wp2_with fail
  refine (PA.out _ L0.out.rng).mono ?_; rintro e w1 ⟨rfl, b1⟩
  have d1 : Below w.heap.size w w1 := below_step (by repeat (first | exact Below.refl _ _ | refine below_drewN ?_ _ | refine Below.drew ?_ | refine Below.setCell ?_ (by first | (simp; done) | (simp; omega) | omega) _ | refine Below.alloc ?_ (by first | (simp; done) | (simp; omega) | omega) _)) b1
  have B1 := Lib.hid d1
  clear b1 d1
  go_wp2_with fail
  refine (RA.out _).mono ?_; rintro e w2 ⟨rfl, b2⟩
  have d2 : Below w1.heap.size w1 w2 := below_step (by repeat (first | exact Below.refl _ _ | refine below_drewN ?_ _ | refine Below.drew ?_ | refine Below.setCell ?_ (by first | (simp; done) | (simp; omega) | omega) _ | refine Below.alloc ?_ (by first | (simp; done) | (simp; omega) | omega) _)) b2
  have B2 := Lib.hid (below_step B1.out d2)
  clear b2 d2 B1
  go_wp2_with fail
  refine (PB.out _ (L0.out.keep (below_step B2.out (by repeat (first | exact Below.refl _ _ | refine below_drewN ?_ _ | refine Below.drew ?_ | refine Below.setCell ?_ (by first | (simp; done) | (simp; omega) | omega) _ | refine Below.alloc ?_ (by first | (simp; done) | (simp; omega) | omega) _)))).rng).mono ?_; rintro e w3 ⟨rfl, b3⟩
  have d3 : Below w2.heap.size w2 w3 := below_step (by repeat (first | exact Below.refl _ _ | refine below_drewN ?_ _ | refine Below.drew ?_ | refine Below.setCell ?_ (by first | (simp; done) | (simp; omega) | omega) _ | refine Below.alloc ?_ (by first | (simp; done) | (simp; omega) | omega) _)) b3
  have B3 := Lib.hid (below_step B2.out d3)
  clear b3 d3 B2
  go_wp2_with fail
  refine (RB.out _).mono ?_; rintro e w4 ⟨rfl, b4⟩
  have d4 : Below w3.heap.size w3 w4 := below_step (by repeat (first | exact Below.refl _ _ | refine below_drewN ?_ _ | refine Below.drew ?_ | refine Below.setCell ?_ (by first | (simp; done) | (simp; omega) | omega) _ | refine Below.alloc ?_ (by first | (simp; done) | (simp; omega) | omega) _)) b4
  have B4 := Lib.hid (below_step B3.out d4)
  clear b4 d4 B3
  go_wp2_with fail
  refine (PC.out _ (L0.out.keep (below_step B4.out (by repeat (first | exact Below.refl _ _ | refine below_drewN ?_ _ | refine Below.drew ?_ | refine Below.setCell ?_ (by first | (simp; done) | (simp; omega) | omega) _ | refine Below.alloc ?_ (by first | (simp; done) | (simp; omega) | omega) _)))).tab).mono ?_; rintro e w5 ⟨rfl, b5⟩
  have d5 : Below w4.heap.size w4 w5 := below_step (by repeat (first | exact Below.refl _ _ | refine below_drewN ?_ _ | refine Below.drew ?_ | refine Below.setCell ?_ (by first | (simp; done) | (simp; omega) | omega) _ | refine Below.alloc ?_ (by first | (simp; done) | (simp; omega) | omega) _)) b5
  have B5 := Lib.hid (below_step B4.out d5)
  clear b5 d5 B4
  go_wp2_with fail
  refine (RC.out _).mono ?_; rintro e w6 ⟨rfl, b6⟩
  have d6 : Below w5.heap.size w5 w6 := below_step (by repeat (first | exact Below.refl _ _ | refine below_drewN ?_ _ | refine Below.drew ?_ | refine Below.setCell ?_ (by first | (simp; done) | (simp; omega) | omega) _ | refine Below.alloc ?_ (by first | (simp; done) | (simp; omega) | omega) _)) b6
  have B6 := Lib.hid (below_step B5.out d6)
  clear b6 d6 B5
  go_wp2_with fail
  refine (PD.out _ (L0.out.keep (below_step B6.out (by repeat (first | exact Below.refl _ _ | refine below_drewN ?_ _ | refine Below.drew ?_ | refine Below.setCell ?_ (by first | (simp; done) | (simp; omega) | omega) _ | refine Below.alloc ?_ (by first | (simp; done) | (simp; omega) | omega) _)))).tab).mono ?_; rintro e w7 ⟨rfl, b7⟩
  have d7 : Below w6.heap.size w6 w7 := below_step (by repeat (first | exact Below.refl _ _ | refine below_drewN ?_ _ | refine Below.drew ?_ | refine Below.setCell ?_ (by first | (simp; done) | (simp; omega) | omega) _ | refine Below.alloc ?_ (by first | (simp; done) | (simp; omega) | omega) _)) b7
  have B7 := Lib.hid (below_step B6.out d7)
  clear b7 d7 B6
  go_wp2_with fail
  refine (RD.out _).mono ?_; rintro e w8 ⟨rfl, b8⟩
  have d8 : Below w7.heap.size w7 w8 := below_step (by repeat (first | exact Below.refl _ _ | refine below_drewN ?_ _ | refine Below.drew ?_ | refine Below.setCell ?_ (by first | (simp; done) | (simp; omega) | omega) _ | refine Below.alloc ?_ (by first | (simp; done) | (simp; omega) | omega) _)) b8
  have B8 := Lib.hid (below_step B7.out d8)
  clear b8 d8 B7
  go_wp2_with fail
  refine (LV.out _ ⟨Below.refl _ _, (L0.out.keep (below_step B8.out (by repeat (first | exact Below.refl _ _ | refine below_drewN ?_ _ | refine Below.drew ?_ | refine Below.setCell ?_ (by first | (simp; done) | (simp; omega) | omega) _ | refine Below.alloc ?_ (by first | (simp; done) | (simp; omega) | omega) _)))).tab, (L0.out.keep (below_step B8.out (by repeat (first | exact Below.refl _ _ | refine below_drewN ?_ _ | refine Below.drew ?_ | refine Below.setCell ?_ (by first | (simp; done) | (simp; omega) | omega) _ | refine Below.alloc ?_ (by first | (simp; done) | (simp; omega) | omega) _)))).rng⟩).mono ?_; rintro e w9 ⟨rfl, b9⟩
  have d9 : Below w8.heap.size w8 w9 := below_step (by repeat (first | exact Below.refl _ _ | refine below_drewN ?_ _ | refine Below.drew ?_ | refine Below.setCell ?_ (by first | (simp; done) | (simp; omega) | omega) _ | refine Below.alloc ?_ (by first | (simp; done) | (simp; omega) | omega) _)) b9
  have B9 := Lib.hid (below_step B8.out d9)
  clear b9 d9 B8
  go_wp2_with fail
  go_ret
  exact ⟨rfl, (by have hz := B9.out.size; repeat (first | exact B9.out | refine below_drewN ?_ _ | refine Below.drew ?_ | refine Below.setCell ?_ (by first | omega | (simp; done) | (simp; omega)) _ | refine Below.alloc ?_ (by first | omega | (simp; done) | (simp; omega)) _))⟩
theorem ytells_walk (s : ByteArray) (f y : Int) (w : World) (tp : TypeId) (p : Value) (L : Lv w w tp p) (hs : s.size ≤ maxLen) (y0 : -9223372036854775808 ≤ y) (y1 : y ≤ 9223372036854775807) :
    Calls Tryd.prog 10 #[.string s, .int .i64 f, .int .i64 y] w fun e w' => e = .returned (.bool true) ∧ Below w.heap.size w w' := by
  by_cases hl : s.size ≤ 500
  · exact ytells_in s f y w tp p L hl y0 y1
  · exact ytells_long s f y w tp p L (by omega)
end Go.Proofs.YtafnnnbefabofaaDoor

