/- The walk of ClockTells: whatever text and time of day, the law answers true; nothing old turns. -/
import Derived.Test.YtafnnnbefabofaaDoorRkD
import Derived.Lib.QuietBelow
set_option linter.unusedVariables false
set_option linter.unusedSimpArgs false
namespace Go.Proofs.YtafnnnbefabofaaDoor
open Go.RowKit Go.Sort

set_option maxHeartbeats 4000000 in
set_option maxRecDepth 100000 in
theorem cktells_long (s : ByteArray) (n b : Int) (w : World) (hl : 500 < s.size) (m : Int) (T : Cl.Tab w) (hm : w.cell? ⟨5, 0, none⟩ = some (.int .i64 m)) (htab : Lib.TabIs Tryd.prog w "internal/strconv.uint64pow10" .u64 Lib.pow10Tab) :
    Calls Tryd.prog 9 #[.string s, .agg #[.int .i64 n, .int .i64 b]] w fun e w' => e = .returned (.bool true) ∧ Below w.heap.size w w' := by
  have hl' : (500 : Int) < (s.size : Int) := by omega
  have T0 := Lib.hid htab; clear htab
  have M0 := Lib.hid hm; clear hm
  have L0 := Lib.hid T; clear T hl
  have LV := Lib.hid (fun W a b c => lives19 W m a b c)
  go_enter Tryd.func9, Tryd.ntmps9
  go_wp2_with fail
  refine (LV.out _ (L0.out.on (by repeat (first | exact Below.refl _ _ | refine below_drewN ?_ _ | refine Below.drew ?_ | refine Below.setCell ?_ (by first | (simp; done) | (simp; omega) | omega) _ | refine Below.alloc ?_ (by first | (simp; done) | (simp; omega) | omega) _))) (ckm (B := w.heap.size) (by repeat (first | exact Below.refl _ _ | refine below_drewN ?_ _ | refine Below.drew ?_ | refine Below.setCell ?_ (by first | (simp; done) | (simp; omega) | omega) _ | refine Below.alloc ?_ (by first | (simp; done) | (simp; omega) | omega) _)) M0.out) (var_keep (by repeat (first | exact Below.refl _ _ | refine below_drewN ?_ _ | refine Below.drew ?_ | refine Below.setCell ?_ (by first | (simp; done) | (simp; omega) | omega) _ | refine Below.alloc ?_ (by first | (simp; done) | (simp; omega) | omega) _)) T0.out)).mono ?_; rintro e w1 ⟨rfl, b1⟩
  have d1 : Below w.heap.size w w1 := below_step (by repeat (first | exact Below.refl _ _ | refine below_drewN ?_ _ | refine Below.drew ?_ | refine Below.setCell ?_ (by first | (simp; done) | (simp; omega) | omega) _ | refine Below.alloc ?_ (by first | (simp; done) | (simp; omega) | omega) _)) b1
  have B1 := Lib.hid d1
  have X1 : Bk2 w1 (w.heap.size) (.int .i64 n) (.int .i64 b) := Bk2.of b1 (by simp <;> omega) (by intro j; simp [go_sem]) (by simp [go_sem]) (by simp [go_sem])
  clear b1 d1
  have cX_b := X1.hb
  have cX_f := X1.fz
  have cX_0 := X1.k0
  have cX_1 := X1.k1
  go_wp2_with fail
  clear cX_b cX_f cX_0 cX_1
  go_ret
  exact ⟨rfl, (by have hz := B1.out.size; repeat (first | exact B1.out | refine below_drewN ?_ _ | refine Below.drew ?_ | refine Below.setCell ?_ (by first | omega | (simp; done) | (simp; omega)) _ | refine Below.alloc ?_ (by first | omega | (simp; done) | (simp; omega)) _))⟩
set_option maxHeartbeats 4000000 in
set_option maxRecDepth 100000 in
theorem cktells_in (s : ByteArray) (n b : Int) (w : World) (hs : s.size ≤ 500) (m : Int) (T : Cl.Tab w) (hm : w.cell? ⟨5, 0, none⟩ = some (.int .i64 m)) (htab : Lib.TabIs Tryd.prog w "internal/strconv.uint64pow10" .u64 Lib.pow10Tab) :
    Calls Tryd.prog 9 #[.string s, .agg #[.int .i64 n, .int .i64 b]] w fun e w' => e = .returned (.bool true) ∧ Below w.heap.size w w' := by
  have hl' : (s.size : Int) ≤ 500 := by omega
  have T0 := Lib.hid htab; clear htab
  have M0 := Lib.hid hm; clear hm
  have L0 := Lib.hid T; clear T
  have LV := Lib.hid (fun W a b c => lives19 W m a b c)
  obtain ⟨x1, y1, q1, PA, RA⟩ : ∃ x y q, Hid (∀ W, Cl.Tab W → W.cell? ⟨5, 0, none⟩ = some (.int .i64 m) → Calls Tryd.prog 16 #[.string s] W fun e w' => e = .returned (.tuple #[.agg #[.int .i64 x, .int .i64 y], .int .i64 q]) ∧ Below W.heap.size W w') ∧ Hid (∀ W, Calls Tryd.prog 67 #[.string s] W fun e w' => e = .returned (.tuple #[.agg #[.int .i64 x, .int .i64 y], .int .i64 q]) ∧ Below W.heap.size W w') := ⟨_, _, _, fun W h h2 => clread_any s W m (by omega) h h2, fun W => kread_any s W (by omega)⟩
  obtain ⟨x2, q2, PB, RB⟩ : ∃ x q, Hid (∀ W, Cl.Tab W → Lib.TabIs Tryd.prog W "internal/strconv.uint64pow10" .u64 Lib.pow10Tab → Calls Tryd.prog 14 #[.agg #[.int .i64 n, .int .i64 b]] W fun e w' => e = .returned (.tuple #[.string x, .int .i64 q]) ∧ Below W.heap.size W w') ∧ Hid (∀ W, Calls Tryd.prog 68 #[.agg #[.int .i64 n, .int .i64 b]] W fun e w' => e = .returned (.tuple #[.string x, .int .i64 q]) ∧ Below W.heap.size W w') := ⟨_, _, fun W h h2 => cltext_any n b W h h2, fun W => ktext_any n b W⟩
  obtain ⟨g, PC, RC⟩ : ∃ g, Hid (∀ W, Calls Tryd.prog 15 #[.agg #[.int .i64 n, .int .i64 b]] W fun e w' => e = .returned (.bool g) ∧ Below W.heap.size W w') ∧ Hid (∀ W, Calls Tryd.prog 69 #[.agg #[.int .i64 n, .int .i64 b]] W fun e w' => e = .returned (.bool g) ∧ Below W.heap.size W w') := ⟨_, fun W => clright_any n b W, fun W => kright_any n b W⟩
  clear hs
  go_enter Tryd.func9, Tryd.ntmps9
  go_wp2_with fail
  refine (PA.out _ (L0.out.on (by repeat (first | exact Below.refl _ _ | refine below_drewN ?_ _ | refine Below.drew ?_ | refine Below.setCell ?_ (by first | (simp; done) | (simp; omega) | omega) _ | refine Below.alloc ?_ (by first | (simp; done) | (simp; omega) | omega) _))) (ckm (B := w.heap.size) (by repeat (first | exact Below.refl _ _ | refine below_drewN ?_ _ | refine Below.drew ?_ | refine Below.setCell ?_ (by first | (simp; done) | (simp; omega) | omega) _ | refine Below.alloc ?_ (by first | (simp; done) | (simp; omega) | omega) _)) M0.out)).mono ?_; rintro e w1 ⟨rfl, b1⟩
  have d1 : Below w.heap.size w w1 := below_step (by repeat (first | exact Below.refl _ _ | refine below_drewN ?_ _ | refine Below.drew ?_ | refine Below.setCell ?_ (by first | (simp; done) | (simp; omega) | omega) _ | refine Below.alloc ?_ (by first | (simp; done) | (simp; omega) | omega) _)) b1
  have B1 := Lib.hid d1
  have X1 : Bk2 w1 (w.heap.size) (.int .i64 n) (.int .i64 b) := Bk2.of b1 (by simp <;> omega) (by intro j; simp [go_sem]) (by simp [go_sem]) (by simp [go_sem])
  clear b1 d1
  have cX_b := X1.hb
  have cX_f := X1.fz
  have cX_0 := X1.k0
  have cX_1 := X1.k1
  go_wp2_with fail
  clear cX_b cX_f cX_0 cX_1
  refine (RA.out _).mono ?_; rintro e w2 ⟨rfl, b2⟩
  have d2 : Below w1.heap.size w1 w2 := below_step (by repeat (first | exact Below.refl _ _ | refine below_drewN ?_ _ | refine Below.drew ?_ | refine Below.setCell ?_ (by first | (simp; done) | (simp; omega) | omega) _ | refine Below.alloc ?_ (by first | (simp; done) | (simp; omega) | omega) _)) b2
  have B2 := Lib.hid (below_step B1.out d2)
  have X2 := X1.keep d2
  have aP := B1.out.size
  have nPX := Nat.ne_of_lt X1.hb
  have oPX := Nat.ne_of_gt X1.hb
  have P2 : Bk2 w2 (w1.heap.size) (.int .i64 x1) (.int .i64 y1) := Bk2.of b2 (by simp <;> omega) (by intro j; simp [go_sem]) (by simp [go_sem]) (by simp [go_sem])
  clear X1 b2 d2 B1
  have cX_b := X2.hb
  have cX_f := X2.fz
  have cX_0 := X2.k0
  have cX_1 := X2.k1
  have cP_b := P2.hb
  have cP_f := P2.fz
  have cP_0 := P2.k0
  have cP_1 := P2.k1
  go_wp2_with fail
  clear cX_b cX_f cX_0 cX_1 cP_b cP_f cP_0 cP_1
  refine (PB.out _ (L0.out.on (below_step B2.out (by repeat (first | exact Below.refl _ _ | refine below_drewN ?_ _ | refine Below.drew ?_ | refine Below.setCell ?_ (by first | (simp; done) | (simp; omega) | omega) _ | refine Below.alloc ?_ (by first | (simp; done) | (simp; omega) | omega) _)))) (var_keep (below_step B2.out (by repeat (first | exact Below.refl _ _ | refine below_drewN ?_ _ | refine Below.drew ?_ | refine Below.setCell ?_ (by first | (simp; done) | (simp; omega) | omega) _ | refine Below.alloc ?_ (by first | (simp; done) | (simp; omega) | omega) _))) T0.out)).mono ?_; rintro e w3 ⟨rfl, b3⟩
  have d3 : Below w2.heap.size w2 w3 := below_step (by repeat (first | exact Below.refl _ _ | refine below_drewN ?_ _ | refine Below.drew ?_ | refine Below.setCell ?_ (by first | (simp; done) | (simp; omega) | omega) _ | refine Below.alloc ?_ (by first | (simp; done) | (simp; omega) | omega) _)) b3
  have B3 := Lib.hid (below_step B2.out d3)
  have X3 := X2.keep d3
  have P3 := P2.keep d3
  have aR := B2.out.size
  have nRX := Nat.ne_of_lt X2.hb
  have oRX := Nat.ne_of_gt X2.hb
  have nRP := Nat.ne_of_lt P2.hb
  have oRP := Nat.ne_of_gt P2.hb
  have R3 : Bk2 w3 (w2.heap.size) (.int .i64 x1) (.int .i64 y1) := Bk2.of b3 (by simp <;> omega) (by intro j; simp [go_sem]) (by simp [go_sem]) (by simp [go_sem])
  clear X2 P2 b3 d3 B2
  have cX_b := X3.hb
  have cX_f := X3.fz
  have cX_0 := X3.k0
  have cX_1 := X3.k1
  have cP_b := P3.hb
  have cP_f := P3.fz
  have cP_0 := P3.k0
  have cP_1 := P3.k1
  have cR_b := R3.hb
  have cR_f := R3.fz
  have cR_0 := R3.k0
  have cR_1 := R3.k1
  go_wp2_with fail
  clear cX_b cX_f cX_0 cX_1 cP_b cP_f cP_0 cP_1 cR_b cR_f cR_0 cR_1
  refine (RB.out _).mono ?_; rintro e w4 ⟨rfl, b4⟩
  have d4 : Below w3.heap.size w3 w4 := below_step (by repeat (first | exact Below.refl _ _ | refine below_drewN ?_ _ | refine Below.drew ?_ | refine Below.setCell ?_ (by first | (simp; done) | (simp; omega) | omega) _ | refine Below.alloc ?_ (by first | (simp; done) | (simp; omega) | omega) _)) b4
  have B4 := Lib.hid (below_step B3.out d4)
  have X4 := X3.keep d4
  have P4 := P3.keep d4
  have R4 := R3.keep d4
  clear X3 P3 R3 b4 d4 B3
  have TL := Lib.hid (L0.out.on B4.out)
  have MM := Lib.hid (ckm B4.out M0.out)
  have TT := Lib.hid (var_keep B4.out T0.out)
  have cX_b := X4.hb
  have cX_f := X4.fz
  have cX_0 := X4.k0
  have cX_1 := X4.k1
  have cP_b := P4.hb
  have cP_f := P4.fz
  have cP_0 := P4.k0
  have cP_1 := P4.k1
  have cR_b := R4.hb
  have cR_f := R4.fz
  have cR_0 := R4.k0
  have cR_1 := R4.k1
  go_wp2_with fail
  clear cX_b cX_f cX_0 cX_1 cP_b cP_f cP_0 cP_1 cR_b cR_f cR_0 cR_1
  have qX_0 := cell_regrown X4.k0
  have qX_1 := cell_regrown X4.k1
  have qP_0 := cell_regrown P4.k0
  have qP_1 := cell_regrown P4.k1
  have qR_0 := cell_regrown R4.k0
  have qR_1 := cell_regrown R4.k1
  refine wp_region_qb (w := w4) (by kernel_rfl) (by kernel_rfl) (by repeat (first | exact Below.refl _ _ | refine below_drewN ?_ _ | refine Below.drew ?_ | refine Below.setCell ?_ (by first | (simp; done) | (simp; omega) | omega) _ | refine Below.alloc ?_ (by first | (simp; done) | (simp; omega) | omega) _)) ?_
  repeat (any_goals (first | go_big_quiet_step (first | (go_at_call 15; exact Calls.regrown_of (PC.out _)) | (go_at_call 69; exact Calls.regrown_of (RC.out _)) | (go_at_call 13; exact Calls.regrown_of (LV.out _ (TL.out.on (below_regrown _ _ _)) (ckm (below_regrown _ _ _) MM.out) (var_keep (below_regrown _ _ _) TT.out)))) | quiet_step (first | (go_at_call 15; exact Calls.regrown_of (PC.out _)) | (go_at_call 69; exact Calls.regrown_of (RC.out _)) | (go_at_call 13; exact Calls.regrown_of (LV.out _ (TL.out.on (below_regrown _ _ _)) (ckm (below_regrown _ _ _) MM.out) (var_keep (below_regrown _ _ _) TT.out))))))
  refine wpQuiet_nil ?_
  intro w5 hq
  have b5 : Below w4.heap.size w4 w5 := by obtain ⟨p, hq⟩ := hq; rw [hq]; exact below_regrown _ _ _
  clear hq qX_0 qX_1 qP_0 qP_1 qR_0 qR_1
  have d5 : Below w4.heap.size w4 w5 := below_step (by repeat (first | exact Below.refl _ _ | refine below_drewN ?_ _ | refine Below.drew ?_ | refine Below.setCell ?_ (by first | (simp; done) | (simp; omega) | omega) _ | refine Below.alloc ?_ (by first | (simp; done) | (simp; omega) | omega) _)) b5
  have B5 := Lib.hid (below_step B4.out d5)
  have X5 := X4.keep d5
  have P5 := P4.keep d5
  have R5 := R4.keep d5
  clear X4 P4 R4 b5 d5 B4
  have cX_b := X5.hb
  have cX_f := X5.fz
  have cX_0 := X5.k0
  have cX_1 := X5.k1
  have cP_b := P5.hb
  have cP_f := P5.fz
  have cP_0 := P5.k0
  have cP_1 := P5.k1
  have cR_b := R5.hb
  have cR_f := R5.fz
  have cR_0 := R5.k0
  have cR_1 := R5.k1
  go_wp2_with fail
  clear cX_b cX_f cX_0 cX_1 cP_b cP_f cP_0 cP_1 cR_b cR_f cR_0 cR_1
  go_ret
  exact ⟨rfl, (by have hz := B5.out.size; repeat (first | exact B5.out | refine below_drewN ?_ _ | refine Below.drew ?_ | refine Below.setCell ?_ (by first | omega | (simp; done) | (simp; omega)) _ | refine Below.alloc ?_ (by first | omega | (simp; done) | (simp; omega)) _))⟩
theorem cktells_walk (s : ByteArray) (n b : Int) (w : World) (hs : s.size ≤ maxLen) (m : Int) (T : Cl.Tab w) (hm : w.cell? ⟨5, 0, none⟩ = some (.int .i64 m)) (htab : Lib.TabIs Tryd.prog w "internal/strconv.uint64pow10" .u64 Lib.pow10Tab) :
    Calls Tryd.prog 9 #[.string s, .agg #[.int .i64 n, .int .i64 b]] w fun e w' => e = .returned (.bool true) ∧ Below w.heap.size w w' := by
  by_cases hl : s.size ≤ 500
  · exact cktells_in s n b w hl m T hm htab
  · exact cktells_long s n b w (by omega) m T hm htab
end Go.Proofs.YtafnnnbefabofaaDoor

