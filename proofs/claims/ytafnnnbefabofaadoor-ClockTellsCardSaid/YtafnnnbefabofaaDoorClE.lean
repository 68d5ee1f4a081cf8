/- The contract of clock.Text; the answers that noontidelaw19.lives asks for. -/
import Derived.Test.YtafnnnbefabofaaDoorClD
set_option linter.unusedVariables false
set_option linter.unusedSimpArgs false
namespace Go.Proofs.YtafnnnbefabofaaDoor
open Go.RowKit Go.Sort

theorem atx_size {n : Int} (n0 : 0 ≤ n) (n1 : n ≤ 172800) : (Am.tx n).1.size ≤ 200 ∧ Am.tx n = ((Am.tx n).1, 0) := by
  unfold Am.tx
  rw [if_neg (by omega)]
  by_cases h : n = 0
  · rw [if_pos h]; exact ⟨Nat.le_trans (Am.tI_size 0 (by omega) (by omega)) (by omega), rfl⟩
  · rw [if_neg h, if_neg (by omega)]; exact ⟨Am.w1_size n n0 (by omega), rfl⟩
theorem rB_iff {n b : Int} : Cl.rB n b = true ↔ 0 ≤ n ∧ n ≤ 172800 ∧ 0 ≤ b ∧ b < 3 := by unfold Cl.rB; simp [Bool.and_eq_true]
set_option maxHeartbeats 4000000 in
set_option maxRecDepth 100000 in
theorem cltext_no (n b : Int) (w : World) (T : Cl.Tab w) (htab : Lib.TabIs Tryd.prog w "internal/strconv.uint64pow10" .u64 Lib.pow10Tab) (hr : Cl.rB n b = false) : Calls Tryd.prog 14 #[.agg #[.int .i64 n, .int .i64 b]] w fun e w' => e = .returned (.tuple #[.string ⟨#[]⟩, .int .i64 4]) ∧ Below w.heap.size w w' := by
  have CR : Hid (∀ W, Calls Tryd.prog 15 #[.agg #[.int .i64 n, .int .i64 b]] W fun e w' => e = .returned (.bool false) ∧ Below W.heap.size W w') := fun W => hr ▸ clright_any n b W
  clear hr htab T
  go_enter Tryd.func14, Tryd.ntmps14
  go_wp2_with fail
  refine (CR.out _).mono ?_; rintro e w1 ⟨rfl, b1⟩
  have d1 : Below w.heap.size w w1 := below_step (by repeat (first | exact Below.refl _ _ | refine below_drewN ?_ _ | refine Below.drew ?_ | refine Below.setCell ?_ (by first | (simp; done) | (simp; omega) | omega) _ | refine Below.alloc ?_ (by first | (simp; done) | (simp; omega) | omega) _)) b1
  have B1 := Lib.hid d1
  have X1 : Bk2 w1 (w.heap.size) (.int .i64 n) (.int .i64 b) := Bk2.of b1 (by simp <;> omega) (by intro j; simp [go_sem]) (by simp [go_sem]) (by simp [go_sem])
  clear b1 d1
  have cX_b := X1.hb
  have cX_f := X1.fz
  have cX_0 := X1.k0
  have cX_1 := X1.k1
  go_wp2_with fail
  clear cX_b cX_f cX_0 cX_1
  go_ret2
  exact ⟨rfl, (by have hz := B1.out.size; repeat (first | exact B1.out | refine below_drewN ?_ _ | refine Below.drew ?_ | refine Below.setCell ?_ (by first | omega | (simp; done) | (simp; omega)) _ | refine Below.alloc ?_ (by first | omega | (simp; done) | (simp; omega)) _))⟩
set_option maxHeartbeats 4000000 in
set_option maxRecDepth 100000 in
theorem cltext_0 (n : Int) (w : World) (T : Cl.Tab w) (htab : Lib.TabIs Tryd.prog w "internal/strconv.uint64pow10" .u64 Lib.pow10Tab) (n0 : 0 ≤ n) (n1 : n ≤ 172800) : Calls Tryd.prog 14 #[.agg #[.int .i64 n, .int .i64 0]] w fun e w' => e = .returned (.tuple #[.string (Am.tx n).1, .int .i64 0]) ∧ Below w.heap.size w w' := by
  have CR : Hid (∀ W, Calls Tryd.prog 15 #[.agg #[.int .i64 n, .int .i64 0]] W fun e w' => e = .returned (.bool true) ∧ Below W.heap.size W w') := fun W => (rB_iff.2 ⟨n0, n1, by omega, by omega⟩ : Cl.rB n 0 = true) ▸ clright_any n 0 W
  obtain ⟨z, ez⟩ := atx_size n0 n1
  have CX := Lib.hid (atext_c n (Am.tx n).1 0 ez (by omega) (by omega))
  generalize (Am.tx n).1 = A at *
  have T0 := Lib.hid htab
  have TL := Lib.hid T
  clear ez htab T
  go_enter Tryd.func14, Tryd.ntmps14
  go_wp2_with fail
  refine (CR.out _).mono ?_; rintro e w1 ⟨rfl, b1⟩
  have d1 : Below w.heap.size w w1 := below_step (by repeat (first | exact Below.refl _ _ | refine below_drewN ?_ _ | refine Below.drew ?_ | refine Below.setCell ?_ (by first | (simp; done) | (simp; omega) | omega) _ | refine Below.alloc ?_ (by first | (simp; done) | (simp; omega) | omega) _)) b1
  have B1 := Lib.hid d1
  have X1 : Bk2 w1 (w.heap.size) (.int .i64 n) (.int .i64 0) := Bk2.of b1 (by simp <;> omega) (by intro j; simp [go_sem]) (by simp [go_sem]) (by simp [go_sem])
  clear b1 d1
  have cX_b := X1.hb
  have cX_f := X1.fz
  have cX_0 := X1.k0
  have cX_1 := X1.k1
  go_wp2_with fail
  clear cX_b cX_f cX_0 cX_1
  refine (CX.out _ (var_keep B1.out T0.out)).mono ?_; rintro e w2 ⟨rfl, b2⟩
  have d2 : Below w1.heap.size w1 w2 := below_step (by repeat (first | exact Below.refl _ _ | refine below_drewN ?_ _ | refine Below.drew ?_ | refine Below.setCell ?_ (by first | (simp; done) | (simp; omega) | omega) _ | refine Below.alloc ?_ (by first | (simp; done) | (simp; omega) | omega) _)) b2
  have B2 := Lib.hid (below_step B1.out d2)
  have X2 := X1.keep d2
  clear X1 b2 d2 B1
  have cX_b := X2.hb
  have cX_f := X2.fz
  have cX_0 := X2.k0
  have cX_1 := X2.k1
  go_wp2_with fail
  clear cX_b cX_f cX_0 cX_1
  go_ret2
  exact ⟨rfl, (by have hz := B2.out.size; repeat (first | exact B2.out | refine below_drewN ?_ _ | refine Below.drew ?_ | refine Below.setCell ?_ (by first | omega | (simp; done) | (simp; omega)) _ | refine Below.alloc ?_ (by first | omega | (simp; done) | (simp; omega)) _))⟩
set_option maxHeartbeats 4000000 in
set_option maxRecDepth 100000 in
theorem cltext_1 (n : Int) (w : World) (T : Cl.Tab w) (htab : Lib.TabIs Tryd.prog w "internal/strconv.uint64pow10" .u64 Lib.pow10Tab) (n0 : 0 ≤ n) (n1 : n ≤ 172800) : Calls Tryd.prog 14 #[.agg #[.int .i64 n, .int .i64 1]] w fun e w' => e = .returned (.tuple #[.string ((Am.tx n).1 ++ ⟨#[115]⟩), .int .i64 0]) ∧ Below w.heap.size w w' := by
  have CR : Hid (∀ W, Calls Tryd.prog 15 #[.agg #[.int .i64 n, .int .i64 1]] W fun e w' => e = .returned (.bool true) ∧ Below W.heap.size W w') := fun W => (rB_iff.2 ⟨n0, n1, by omega, by omega⟩ : Cl.rB n 1 = true) ▸ clright_any n 1 W
  obtain ⟨z, ez⟩ := atx_size n0 n1
  have CX := Lib.hid (atext_c n (Am.tx n).1 0 ez (by omega) (by omega))
  generalize (Am.tx n).1 = A at *
  have T0 := Lib.hid htab
  have TL := Lib.hid T
  clear ez htab T
  go_enter Tryd.func14, Tryd.ntmps14
  go_wp2_with fail
  refine (CR.out _).mono ?_; rintro e w1 ⟨rfl, b1⟩
  have d1 : Below w.heap.size w w1 := below_step (by repeat (first | exact Below.refl _ _ | refine below_drewN ?_ _ | refine Below.drew ?_ | refine Below.setCell ?_ (by first | (simp; done) | (simp; omega) | omega) _ | refine Below.alloc ?_ (by first | (simp; done) | (simp; omega) | omega) _)) b1
  have B1 := Lib.hid d1
  have X1 : Bk2 w1 (w.heap.size) (.int .i64 n) (.int .i64 1) := Bk2.of b1 (by simp <;> omega) (by intro j; simp [go_sem]) (by simp [go_sem]) (by simp [go_sem])
  clear b1 d1
  have cX_b := X1.hb
  have cX_f := X1.fz
  have cX_0 := X1.k0
  have cX_1 := X1.k1
  go_wp2_with fail
  clear cX_b cX_f cX_0 cX_1
  refine (CX.out _ (var_keep B1.out T0.out)).mono ?_; rintro e w2 ⟨rfl, b2⟩
  have d2 : Below w1.heap.size w1 w2 := below_step (by repeat (first | exact Below.refl _ _ | refine below_drewN ?_ _ | refine Below.drew ?_ | refine Below.setCell ?_ (by first | (simp; done) | (simp; omega) | omega) _ | refine Below.alloc ?_ (by first | (simp; done) | (simp; omega) | omega) _)) b2
  have B2 := Lib.hid (below_step B1.out d2)
  have X2 := X1.keep d2
  clear X1 b2 d2 B1
  have tl := (TL.out.on B2.out).c1
  have cX_b := X2.hb
  have cX_f := X2.fz
  have cX_0 := X2.k0
  have cX_1 := X2.k1
  go_wp2_with fail
  clear cX_b cX_f cX_0 cX_1
  go_ret2
  exact ⟨rfl, (by have hz := B2.out.size; repeat (first | exact B2.out | refine below_drewN ?_ _ | refine Below.drew ?_ | refine Below.setCell ?_ (by first | omega | (simp; done) | (simp; omega)) _ | refine Below.alloc ?_ (by first | omega | (simp; done) | (simp; omega)) _))⟩
set_option maxHeartbeats 4000000 in
set_option maxRecDepth 100000 in
theorem cltext_2 (n : Int) (w : World) (T : Cl.Tab w) (htab : Lib.TabIs Tryd.prog w "internal/strconv.uint64pow10" .u64 Lib.pow10Tab) (n0 : 0 ≤ n) (n1 : n ≤ 172800) : Calls Tryd.prog 14 #[.agg #[.int .i64 n, .int .i64 2]] w fun e w' => e = .returned (.tuple #[.string ((Am.tx n).1 ++ ⟨#[117]⟩), .int .i64 0]) ∧ Below w.heap.size w w' := by
  have CR : Hid (∀ W, Calls Tryd.prog 15 #[.agg #[.int .i64 n, .int .i64 2]] W fun e w' => e = .returned (.bool true) ∧ Below W.heap.size W w') := fun W => (rB_iff.2 ⟨n0, n1, by omega, by omega⟩ : Cl.rB n 2 = true) ▸ clright_any n 2 W
  obtain ⟨z, ez⟩ := atx_size n0 n1
  have CX := Lib.hid (atext_c n (Am.tx n).1 0 ez (by omega) (by omega))
  generalize (Am.tx n).1 = A at *
  have T0 := Lib.hid htab
  have TL := Lib.hid T
  clear ez htab T
  go_enter Tryd.func14, Tryd.ntmps14
  go_wp2_with fail
  refine (CR.out _).mono ?_; rintro e w1 ⟨rfl, b1⟩
  have d1 : Below w.heap.size w w1 := below_step (by repeat (first | exact Below.refl _ _ | refine below_drewN ?_ _ | refine Below.drew ?_ | refine Below.setCell ?_ (by first | (simp; done) | (simp; omega) | omega) _ | refine Below.alloc ?_ (by first | (simp; done) | (simp; omega) | omega) _)) b1
  have B1 := Lib.hid d1
  have X1 : Bk2 w1 (w.heap.size) (.int .i64 n) (.int .i64 2) := Bk2.of b1 (by simp <;> omega) (by intro j; simp [go_sem]) (by simp [go_sem]) (by simp [go_sem])
  clear b1 d1
  have cX_b := X1.hb
  have cX_f := X1.fz
  have cX_0 := X1.k0
  have cX_1 := X1.k1
  go_wp2_with fail
  clear cX_b cX_f cX_0 cX_1
  refine (CX.out _ (var_keep B1.out T0.out)).mono ?_; rintro e w2 ⟨rfl, b2⟩
  have d2 : Below w1.heap.size w1 w2 := below_step (by repeat (first | exact Below.refl _ _ | refine below_drewN ?_ _ | refine Below.drew ?_ | refine Below.setCell ?_ (by first | (simp; done) | (simp; omega) | omega) _ | refine Below.alloc ?_ (by first | (simp; done) | (simp; omega) | omega) _)) b2
  have B2 := Lib.hid (below_step B1.out d2)
  have X2 := X1.keep d2
  clear X1 b2 d2 B1
  have tl := (TL.out.on B2.out).c2
  have cX_b := X2.hb
  have cX_f := X2.fz
  have cX_0 := X2.k0
  have cX_1 := X2.k1
  go_wp2_with fail
  clear cX_b cX_f cX_0 cX_1
  go_ret2
  exact ⟨rfl, (by have hz := B2.out.size; repeat (first | exact B2.out | refine below_drewN ?_ _ | refine Below.drew ?_ | refine Below.setCell ?_ (by first | omega | (simp; done) | (simp; omega)) _ | refine Below.alloc ?_ (by first | omega | (simp; done) | (simp; omega)) _))⟩
theorem cltext_any (n b : Int) (w : World) (T : Cl.Tab w) (htab : Lib.TabIs Tryd.prog w "internal/strconv.uint64pow10" .u64 Lib.pow10Tab) : Calls Tryd.prog 14 #[.agg #[.int .i64 n, .int .i64 b]] w fun e w' => e = .returned (.tuple #[.string (Cl.tx n b).1, .int .i64 (Cl.tx n b).2]) ∧ Below w.heap.size w w' := by
  unfold Cl.tx
  cases hr : Cl.rB n b
  · rw [if_pos rfl]; exact cltext_no n b w T htab hr
  · rw [if_neg (by decide)]
    obtain ⟨n0, n1, b0, b1⟩ := rB_iff.1 hr
    obtain rfl | rfl | rfl : b = 0 ∨ b = 1 ∨ b = 2 := by omega
    · exact cltext_0 n w T htab n0 n1
    · exact cltext_1 n w T htab n0 n1
    · exact cltext_2 n w T htab n0 n1
theorem clread_c (s : ByteArray) (x b q : Int) (h : Cl.rd s = (x, b, q)) (hs : s.size < 4294967281) (w : World) (y : Int) (T : Cl.Tab w) (hm : w.cell? ⟨5, 0, none⟩ = some (.int .i64 y)) :
    Calls Tryd.prog 16 #[.string s] w fun e w' => e = .returned (.tuple #[.agg #[.int .i64 x, .int .i64 b], .int .i64 q]) ∧ Below w.heap.size w w' := by
  have := clread_any s w y hs T hm
  rw [h] at this
  exact this
theorem cltext_c (n b : Int) (r : ByteArray) (q : Int) (h : Cl.tx n b = (r, q)) (w : World) (T : Cl.Tab w) (htab : Lib.TabIs Tryd.prog w "internal/strconv.uint64pow10" .u64 Lib.pow10Tab) : Calls Tryd.prog 14 #[.agg #[.int .i64 n, .int .i64 b]] w fun e w' => e = .returned (.tuple #[.string r, .int .i64 q]) ∧ Below w.heap.size w w' := by
  have := cltext_any n b w T htab
  rw [h] at this
  exact this
theorem clright_c (n b : Int) (r : Bool) (h : Cl.rB n b = r) (w : World) : Calls Tryd.prog 15 #[.agg #[.int .i64 n, .int .i64 b]] w fun e w' => e = .returned (.bool r) ∧ Below w.heap.size w w' := h ▸ clright_any n b w
set_option maxHeartbeats 4000000 in
set_option maxRecDepth 100000 in
theorem lives19 (w : World) (y : Int) (T : Cl.Tab w) (hm : w.cell? ⟨5, 0, none⟩ = some (.int .i64 y)) (htab : Lib.TabIs Tryd.prog w "internal/strconv.uint64pow10" .u64 Lib.pow10Tab) :
    Calls Tryd.prog 13 #[] w fun e w' => e = .returned (.bool true) ∧ Below w.heap.size w w' := by
  have T0 := Lib.hid htab; clear htab
  have M0 := Lib.hid hm; clear hm
  have L0 := Lib.hid T; clear T
  have R0 := Lib.hid (clread_c ⟨#[50, 58, 48, 48]⟩ 7200 0 0 (by decide +kernel) (by decide))
  have R1 := Lib.hid (clread_c ⟨#[48, 50, 58, 48, 48, 87]⟩ 7200 0 0 (by decide +kernel) (by decide))
  have R2 := Lib.hid (clread_c ⟨#[49, 58, 48, 48, 90]⟩ 3600 2 0 (by decide +kernel) (by decide))
  have R3 := Lib.hid (clread_c ⟨#[50, 52, 58, 48, 48, 115]⟩ 86400 1 0 (by decide +kernel) (by decide))
  have R4 := Lib.hid (clread_c ⟨#[45, 49, 58, 48, 48]⟩ 0 0 1 (by decide +kernel) (by decide))
  have R5 := Lib.hid (clread_c ⟨#[52, 56, 58, 48, 49]⟩ 0 0 1 (by decide +kernel) (by decide))
  have R6 := Lib.hid (clread_c ⟨#[117]⟩ 0 0 2 (by decide +kernel) (by decide))
  have R7 := Lib.hid (clread_c ⟨#[45, 103]⟩ 0 2 0 (by decide +kernel) (by decide))
  have R8 := Lib.hid (clread_c ⟨#[]⟩ 0 0 2 (by decide +kernel) (by decide))
  have X0 := Lib.hid (cltext_c 172800 2 ⟨#[52, 56, 58, 48, 48, 117]⟩ 0 (by decide +kernel))
  have X1 := Lib.hid (cltext_c 0 0 ⟨#[48]⟩ 0 (by decide +kernel))
  have X2 := Lib.hid (cltext_c 0 3 ⟨#[]⟩ 4 (by decide +kernel))
  have G0 := Lib.hid (clright_c 86400 1 true (by decide))
  have G1 := Lib.hid (clright_c (-1) 0 false (by decide))
  go_enter Tryd.func13, Tryd.ntmps13
  go_wp2_with fail
  refine (R0.out _ y L0.out M0.out).mono ?_; rintro e w1 ⟨rfl, b1⟩
  have d1 : Below w.heap.size w w1 := below_step (by repeat (first | exact Below.refl _ _ | refine below_drewN ?_ _ | refine Below.drew ?_ | refine Below.setCell ?_ (by first | (simp; done) | (simp; omega) | omega) _ | refine Below.alloc ?_ (by first | (simp; done) | (simp; omega) | omega) _)) b1
  have B1 := Lib.hid d1
  clear b1 d1
  go_wp2_with fail
  refine (R1.out _ y (L0.out.on (below_step B1.out (by repeat (first | exact Below.refl _ _ | refine below_drewN ?_ _ | refine Below.drew ?_ | refine Below.setCell ?_ (by first | (simp; done) | (simp; omega) | omega) _ | refine Below.alloc ?_ (by first | (simp; done) | (simp; omega) | omega) _)))) (ckm (below_step B1.out (by repeat (first | exact Below.refl _ _ | refine below_drewN ?_ _ | refine Below.drew ?_ | refine Below.setCell ?_ (by first | (simp; done) | (simp; omega) | omega) _ | refine Below.alloc ?_ (by first | (simp; done) | (simp; omega) | omega) _))) M0.out)).mono ?_; rintro e w2 ⟨rfl, b2⟩
  have d2 : Below w1.heap.size w1 w2 := below_step (by repeat (first | exact Below.refl _ _ | refine below_drewN ?_ _ | refine Below.drew ?_ | refine Below.setCell ?_ (by first | (simp; done) | (simp; omega) | omega) _ | refine Below.alloc ?_ (by first | (simp; done) | (simp; omega) | omega) _)) b2
  have B2 := Lib.hid (below_step B1.out d2)
  have aQ0 := B1.out.size
  have Q02 : Bk2 w2 (w1.heap.size) (.int .i64 7200) (.int .i64 0) := Bk2.of b2 (by simp <;> omega) (by intro j; simp [go_sem]) (by simp [go_sem]) (by simp [go_sem])
  clear b2 d2 B1
  have cQ0_b := Q02.hb
  have cQ0_f := Q02.fz
  have cQ0_0 := Q02.k0
  have cQ0_1 := Q02.k1
  go_wp2_with fail
  clear cQ0_b cQ0_f cQ0_0 cQ0_1
  refine (R2.out _ y (L0.out.on (below_step B2.out (by repeat (first | exact Below.refl _ _ | refine below_drewN ?_ _ | refine Below.drew ?_ | refine Below.setCell ?_ (by first | (simp; done) | (simp; omega) | omega) _ | refine Below.alloc ?_ (by first | (simp; done) | (simp; omega) | omega) _)))) (ckm (below_step B2.out (by repeat (first | exact Below.refl _ _ | refine below_drewN ?_ _ | refine Below.drew ?_ | refine Below.setCell ?_ (by first | (simp; done) | (simp; omega) | omega) _ | refine Below.alloc ?_ (by first | (simp; done) | (simp; omega) | omega) _))) M0.out)).mono ?_; rintro e w3 ⟨rfl, b3⟩
  have d3 : Below w2.heap.size w2 w3 := below_step (by repeat (first | exact Below.refl _ _ | refine below_drewN ?_ _ | refine Below.drew ?_ | refine Below.setCell ?_ (by first | (simp; done) | (simp; omega) | omega) _ | refine Below.alloc ?_ (by first | (simp; done) | (simp; omega) | omega) _)) b3
  have B3 := Lib.hid (below_step B2.out d3)
  have Q03 := Q02.keep d3
  have aQ1 := B2.out.size
  have nQ1Q0 := Nat.ne_of_lt Q02.hb
  have oQ1Q0 := Nat.ne_of_gt Q02.hb
  have Q13 : Bk2 w3 (w2.heap.size) (.int .i64 7200) (.int .i64 0) := Bk2.of b3 (by simp <;> omega) (by intro j; simp [go_sem]) (by simp [go_sem]) (by simp [go_sem])
  clear Q02 b3 d3 B2
  have cQ0_b := Q03.hb
  have cQ0_f := Q03.fz
  have cQ0_0 := Q03.k0
  have cQ0_1 := Q03.k1
  have cQ1_b := Q13.hb
  have cQ1_f := Q13.fz
  have cQ1_0 := Q13.k0
  have cQ1_1 := Q13.k1
  go_wp2_with fail
  clear cQ0_b cQ0_f cQ0_0 cQ0_1 cQ1_b cQ1_f cQ1_0 cQ1_1
  refine (R3.out _ y (L0.out.on (below_step B3.out (by repeat (first | exact Below.refl _ _ | refine below_drewN ?_ _ | refine Below.drew ?_ | refine Below.setCell ?_ (by first | (simp; done) | (simp; omega) | omega) _ | refine Below.alloc ?_ (by first | (simp; done) | (simp; omega) | omega) _)))) (ckm (below_step B3.out (by repeat (first | exact Below.refl _ _ | refine below_drewN ?_ _ | refine Below.drew ?_ | refine Below.setCell ?_ (by first | (simp; done) | (simp; omega) | omega) _ | refine Below.alloc ?_ (by first | (simp; done) | (simp; omega) | omega) _))) M0.out)).mono ?_; rintro e w4 ⟨rfl, b4⟩
  have d4 : Below w3.heap.size w3 w4 := below_step (by repeat (first | exact Below.refl _ _ | refine below_drewN ?_ _ | refine Below.drew ?_ | refine Below.setCell ?_ (by first | (simp; done) | (simp; omega) | omega) _ | refine Below.alloc ?_ (by first | (simp; done) | (simp; omega) | omega) _)) b4
  have B4 := Lib.hid (below_step B3.out d4)
  have Q04 := Q03.keep d4
  have Q14 := Q13.keep d4
  have aQ2 := B3.out.size
  have nQ2Q0 := Nat.ne_of_lt Q03.hb
  have oQ2Q0 := Nat.ne_of_gt Q03.hb
  have nQ2Q1 := Nat.ne_of_lt Q13.hb
  have oQ2Q1 := Nat.ne_of_gt Q13.hb
  have Q24 : Bk2 w4 (w3.heap.size) (.int .i64 3600) (.int .i64 2) := Bk2.of b4 (by simp <;> omega) (by intro j; simp [go_sem]) (by simp [go_sem]) (by simp [go_sem])
  clear Q03 Q13 b4 d4 B3
  have cQ0_b := Q04.hb
  have cQ0_f := Q04.fz
  have cQ0_0 := Q04.k0
  have cQ0_1 := Q04.k1
  have cQ1_b := Q14.hb
  have cQ1_f := Q14.fz
  have cQ1_0 := Q14.k0
  have cQ1_1 := Q14.k1
  have cQ2_b := Q24.hb
  have cQ2_f := Q24.fz
  have cQ2_0 := Q24.k0
  have cQ2_1 := Q24.k1
  go_wp2_with fail
  clear cQ0_b cQ0_f cQ0_0 cQ0_1 cQ1_b cQ1_f cQ1_0 cQ1_1 cQ2_b cQ2_f cQ2_0 cQ2_1
  refine (R4.out _ y (L0.out.on (below_step B4.out (by repeat (first | exact Below.refl _ _ | refine below_drewN ?_ _ | refine Below.drew ?_ | refine Below.setCell ?_ (by first | (simp; done) | (simp; omega) | omega) _ | refine Below.alloc ?_ (by first | (simp; done) | (simp; omega) | omega) _)))) (ckm (below_step B4.out (by repeat (first | exact Below.refl _ _ | refine below_drewN ?_ _ | refine Below.drew ?_ | refine Below.setCell ?_ (by first | (simp; done) | (simp; omega) | omega) _ | refine Below.alloc ?_ (by first | (simp; done) | (simp; omega) | omega) _))) M0.out)).mono ?_; rintro e w5 ⟨rfl, b5⟩
  have d5 : Below w4.heap.size w4 w5 := below_step (by repeat (first | exact Below.refl _ _ | refine below_drewN ?_ _ | refine Below.drew ?_ | refine Below.setCell ?_ (by first | (simp; done) | (simp; omega) | omega) _ | refine Below.alloc ?_ (by first | (simp; done) | (simp; omega) | omega) _)) b5
  have B5 := Lib.hid (below_step B4.out d5)
  have Q05 := Q04.keep d5
  have Q15 := Q14.keep d5
  have Q25 := Q24.keep d5
  have aQ3 := B4.out.size
  have nQ3Q0 := Nat.ne_of_lt Q04.hb
  have oQ3Q0 := Nat.ne_of_gt Q04.hb
  have nQ3Q1 := Nat.ne_of_lt Q14.hb
  have oQ3Q1 := Nat.ne_of_gt Q14.hb
  have nQ3Q2 := Nat.ne_of_lt Q24.hb
  have oQ3Q2 := Nat.ne_of_gt Q24.hb
  have Q35 : Bk2 w5 (w4.heap.size) (.int .i64 86400) (.int .i64 1) := Bk2.of b5 (by simp <;> omega) (by intro j; simp [go_sem]) (by simp [go_sem]) (by simp [go_sem])
  clear Q04 Q14 Q24 b5 d5 B4
  have cQ0_b := Q05.hb
  have cQ0_f := Q05.fz
  have cQ0_0 := Q05.k0
  have cQ0_1 := Q05.k1
  have cQ1_b := Q15.hb
  have cQ1_f := Q15.fz
  have cQ1_0 := Q15.k0
  have cQ1_1 := Q15.k1
  have cQ2_b := Q25.hb
  have cQ2_f := Q25.fz
  have cQ2_0 := Q25.k0
  have cQ2_1 := Q25.k1
  have cQ3_b := Q35.hb
  have cQ3_f := Q35.fz
  have cQ3_0 := Q35.k0
  have cQ3_1 := Q35.k1
  go_wp2_with fail
  clear cQ0_b cQ0_f cQ0_0 cQ0_1 cQ1_b cQ1_f cQ1_0 cQ1_1 cQ2_b cQ2_f cQ2_0 cQ2_1 cQ3_b cQ3_f cQ3_0 cQ3_1
  refine (R5.out _ y (L0.out.on (below_step B5.out (by repeat (first | exact Below.refl _ _ | refine below_drewN ?_ _ | refine Below.drew ?_ | refine Below.setCell ?_ (by first | (simp; done) | (simp; omega) | omega) _ | refine Below.alloc ?_ (by first | (simp; done) | (simp; omega) | omega) _)))) (ckm (below_step B5.out (by repeat (first | exact Below.refl _ _ | refine below_drewN ?_ _ | refine Below.drew ?_ | refine Below.setCell ?_ (by first | (simp; done) | (simp; omega) | omega) _ | refine Below.alloc ?_ (by first | (simp; done) | (simp; omega) | omega) _))) M0.out)).mono ?_; rintro e w6 ⟨rfl, b6⟩
  have d6 : Below w5.heap.size w5 w6 := below_step (by repeat (first | exact Below.refl _ _ | refine below_drewN ?_ _ | refine Below.drew ?_ | refine Below.setCell ?_ (by first | (simp; done) | (simp; omega) | omega) _ | refine Below.alloc ?_ (by first | (simp; done) | (simp; omega) | omega) _)) b6
  have B6 := Lib.hid (below_step B5.out d6)
  have Q06 := Q05.keep d6
  have Q16 := Q15.keep d6
  have Q26 := Q25.keep d6
  have Q36 := Q35.keep d6
  have aQ4 := B5.out.size
  have nQ4Q0 := Nat.ne_of_lt Q05.hb
  have oQ4Q0 := Nat.ne_of_gt Q05.hb
  have nQ4Q1 := Nat.ne_of_lt Q15.hb
  have oQ4Q1 := Nat.ne_of_gt Q15.hb
  have nQ4Q2 := Nat.ne_of_lt Q25.hb
  have oQ4Q2 := Nat.ne_of_gt Q25.hb
  have nQ4Q3 := Nat.ne_of_lt Q35.hb
  have oQ4Q3 := Nat.ne_of_gt Q35.hb
  have Q46 : Bk2 w6 (w5.heap.size) (.int .i64 0) (.int .i64 0) := Bk2.of b6 (by simp <;> omega) (by intro j; simp [go_sem]) (by simp [go_sem]) (by simp [go_sem])
  clear Q05 Q15 Q25 Q35 b6 d6 B5
  have cQ0_b := Q06.hb
  have cQ0_f := Q06.fz
  have cQ0_0 := Q06.k0
  have cQ0_1 := Q06.k1
  have cQ1_b := Q16.hb
  have cQ1_f := Q16.fz
  have cQ1_0 := Q16.k0
  have cQ1_1 := Q16.k1
  have cQ2_b := Q26.hb
  have cQ2_f := Q26.fz
  have cQ2_0 := Q26.k0
  have cQ2_1 := Q26.k1
  have cQ3_b := Q36.hb
  have cQ3_f := Q36.fz
  have cQ3_0 := Q36.k0
  have cQ3_1 := Q36.k1
  have cQ4_b := Q46.hb
  have cQ4_f := Q46.fz
  have cQ4_0 := Q46.k0
  have cQ4_1 := Q46.k1
  go_wp2_with fail
  clear cQ0_b cQ0_f cQ0_0 cQ0_1 cQ1_b cQ1_f cQ1_0 cQ1_1 cQ2_b cQ2_f cQ2_0 cQ2_1 cQ3_b cQ3_f cQ3_0 cQ3_1 cQ4_b cQ4_f cQ4_0 cQ4_1
  refine (R6.out _ y (L0.out.on (below_step B6.out (by repeat (first | exact Below.refl _ _ | refine below_drewN ?_ _ | refine Below.drew ?_ | refine Below.setCell ?_ (by first | (simp; done) | (simp; omega) | omega) _ | refine Below.alloc ?_ (by first | (simp; done) | (simp; omega) | omega) _)))) (ckm (below_step B6.out (by repeat (first | exact Below.refl _ _ | refine below_drewN ?_ _ | refine Below.drew ?_ | refine Below.setCell ?_ (by first | (simp; done) | (simp; omega) | omega) _ | refine Below.alloc ?_ (by first | (simp; done) | (simp; omega) | omega) _))) M0.out)).mono ?_; rintro e w7 ⟨rfl, b7⟩
  have d7 : Below w6.heap.size w6 w7 := below_step (by repeat (first | exact Below.refl _ _ | refine below_drewN ?_ _ | refine Below.drew ?_ | refine Below.setCell ?_ (by first | (simp; done) | (simp; omega) | omega) _ | refine Below.alloc ?_ (by first | (simp; done) | (simp; omega) | omega) _)) b7
  have B7 := Lib.hid (below_step B6.out d7)
  have Q07 := Q06.keep d7
  have Q17 := Q16.keep d7
  have Q27 := Q26.keep d7
  have Q37 := Q36.keep d7
  have Q47 := Q46.keep d7
  have aQ5 := B6.out.size
  have nQ5Q0 := Nat.ne_of_lt Q06.hb
  have oQ5Q0 := Nat.ne_of_gt Q06.hb
  have nQ5Q1 := Nat.ne_of_lt Q16.hb
  have oQ5Q1 := Nat.ne_of_gt Q16.hb
  have nQ5Q2 := Nat.ne_of_lt Q26.hb
  have oQ5Q2 := Nat.ne_of_gt Q26.hb
  have nQ5Q3 := Nat.ne_of_lt Q36.hb
  have oQ5Q3 := Nat.ne_of_gt Q36.hb
  have nQ5Q4 := Nat.ne_of_lt Q46.hb
  have oQ5Q4 := Nat.ne_of_gt Q46.hb
  have Q57 : Bk2 w7 (w6.heap.size) (.int .i64 0) (.int .i64 0) := Bk2.of b7 (by simp <;> omega) (by intro j; simp [go_sem]) (by simp [go_sem]) (by simp [go_sem])
  clear Q06 Q16 Q26 Q36 Q46 b7 d7 B6
  have cQ0_b := Q07.hb
  have cQ0_f := Q07.fz
  have cQ0_0 := Q07.k0
  have cQ0_1 := Q07.k1
  have cQ1_b := Q17.hb
  have cQ1_f := Q17.fz
  have cQ1_0 := Q17.k0
  have cQ1_1 := Q17.k1
  have cQ2_b := Q27.hb
  have cQ2_f := Q27.fz
  have cQ2_0 := Q27.k0
  have cQ2_1 := Q27.k1
  have cQ3_b := Q37.hb
  have cQ3_f := Q37.fz
  have cQ3_0 := Q37.k0
  have cQ3_1 := Q37.k1
  have cQ4_b := Q47.hb
  have cQ4_f := Q47.fz
  have cQ4_0 := Q47.k0
  have cQ4_1 := Q47.k1
  have cQ5_b := Q57.hb
  have cQ5_f := Q57.fz
  have cQ5_0 := Q57.k0
  have cQ5_1 := Q57.k1
  go_wp2_with fail
  clear cQ0_b cQ0_f cQ0_0 cQ0_1 cQ1_b cQ1_f cQ1_0 cQ1_1 cQ2_b cQ2_f cQ2_0 cQ2_1 cQ3_b cQ3_f cQ3_0 cQ3_1 cQ4_b cQ4_f cQ4_0 cQ4_1 cQ5_b cQ5_f cQ5_0 cQ5_1
  refine (R7.out _ y (L0.out.on (below_step B7.out (by repeat (first | exact Below.refl _ _ | refine below_drewN ?_ _ | refine Below.drew ?_ | refine Below.setCell ?_ (by first | (simp; done) | (simp; omega) | omega) _ | refine Below.alloc ?_ (by first | (simp; done) | (simp; omega) | omega) _)))) (ckm (below_step B7.out (by repeat (first | exact Below.refl _ _ | refine below_drewN ?_ _ | refine Below.drew ?_ | refine Below.setCell ?_ (by first | (simp; done) | (simp; omega) | omega) _ | refine Below.alloc ?_ (by first | (simp; done) | (simp; omega) | omega) _))) M0.out)).mono ?_; rintro e w8 ⟨rfl, b8⟩
  have d8 : Below w7.heap.size w7 w8 := below_step (by repeat (first | exact Below.refl _ _ | refine below_drewN ?_ _ | refine Below.drew ?_ | refine Below.setCell ?_ (by first | (simp; done) | (simp; omega) | omega) _ | refine Below.alloc ?_ (by first | (simp; done) | (simp; omega) | omega) _)) b8
  have B8 := Lib.hid (below_step B7.out d8)
  have Q08 := Q07.keep d8
  have Q18 := Q17.keep d8
  have Q28 := Q27.keep d8
  have Q38 := Q37.keep d8
  have Q48 := Q47.keep d8
  have Q58 := Q57.keep d8
  have aQ6 := B7.out.size
  have nQ6Q0 := Nat.ne_of_lt Q07.hb
  have oQ6Q0 := Nat.ne_of_gt Q07.hb
  have nQ6Q1 := Nat.ne_of_lt Q17.hb
  have oQ6Q1 := Nat.ne_of_gt Q17.hb
  have nQ6Q2 := Nat.ne_of_lt Q27.hb
  have oQ6Q2 := Nat.ne_of_gt Q27.hb
  have nQ6Q3 := Nat.ne_of_lt Q37.hb
  have oQ6Q3 := Nat.ne_of_gt Q37.hb
  have nQ6Q4 := Nat.ne_of_lt Q47.hb
  have oQ6Q4 := Nat.ne_of_gt Q47.hb
  have nQ6Q5 := Nat.ne_of_lt Q57.hb
  have oQ6Q5 := Nat.ne_of_gt Q57.hb
  have Q68 : Bk2 w8 (w7.heap.size) (.int .i64 0) (.int .i64 0) := Bk2.of b8 (by simp <;> omega) (by intro j; simp [go_sem]) (by simp [go_sem]) (by simp [go_sem])
  clear Q07 Q17 Q27 Q37 Q47 Q57 b8 d8 B7
  have cQ0_b := Q08.hb
  have cQ0_f := Q08.fz
  have cQ0_0 := Q08.k0
  have cQ0_1 := Q08.k1
  have cQ1_b := Q18.hb
  have cQ1_f := Q18.fz
  have cQ1_0 := Q18.k0
  have cQ1_1 := Q18.k1
  have cQ2_b := Q28.hb
  have cQ2_f := Q28.fz
  have cQ2_0 := Q28.k0
  have cQ2_1 := Q28.k1
  have cQ3_b := Q38.hb
  have cQ3_f := Q38.fz
  have cQ3_0 := Q38.k0
  have cQ3_1 := Q38.k1
  have cQ4_b := Q48.hb
  have cQ4_f := Q48.fz
  have cQ4_0 := Q48.k0
  have cQ4_1 := Q48.k1
  have cQ5_b := Q58.hb
  have cQ5_f := Q58.fz
  have cQ5_0 := Q58.k0
  have cQ5_1 := Q58.k1
  have cQ6_b := Q68.hb
  have cQ6_f := Q68.fz
  have cQ6_0 := Q68.k0
  have cQ6_1 := Q68.k1
  go_wp2_with fail
  clear cQ0_b cQ0_f cQ0_0 cQ0_1 cQ1_b cQ1_f cQ1_0 cQ1_1 cQ2_b cQ2_f cQ2_0 cQ2_1 cQ3_b cQ3_f cQ3_0 cQ3_1 cQ4_b cQ4_f cQ4_0 cQ4_1 cQ5_b cQ5_f cQ5_0 cQ5_1 cQ6_b cQ6_f cQ6_0 cQ6_1
  refine (R8.out _ y (L0.out.on (below_step B8.out (by repeat (first | exact Below.refl _ _ | refine below_drewN ?_ _ | refine Below.drew ?_ | refine Below.setCell ?_ (by first | (simp; done) | (simp; omega) | omega) _ | refine Below.alloc ?_ (by first | (simp; done) | (simp; omega) | omega) _)))) (ckm (below_step B8.out (by repeat (first | exact Below.refl _ _ | refine below_drewN ?_ _ | refine Below.drew ?_ | refine Below.setCell ?_ (by first | (simp; done) | (simp; omega) | omega) _ | refine Below.alloc ?_ (by first | (simp; done) | (simp; omega) | omega) _))) M0.out)).mono ?_; rintro e w9 ⟨rfl, b9⟩
  have d9 : Below w8.heap.size w8 w9 := below_step (by repeat (first | exact Below.refl _ _ | refine below_drewN ?_ _ | refine Below.drew ?_ | refine Below.setCell ?_ (by first | (simp; done) | (simp; omega) | omega) _ | refine Below.alloc ?_ (by first | (simp; done) | (simp; omega) | omega) _)) b9
  have B9 := Lib.hid (below_step B8.out d9)
  have Q09 := Q08.keep d9
  have Q19 := Q18.keep d9
  have Q29 := Q28.keep d9
  have Q39 := Q38.keep d9
  have Q49 := Q48.keep d9
  have Q59 := Q58.keep d9
  have Q69 := Q68.keep d9
  have aQ7 := B8.out.size
  have nQ7Q0 := Nat.ne_of_lt Q08.hb
  have oQ7Q0 := Nat.ne_of_gt Q08.hb
  have nQ7Q1 := Nat.ne_of_lt Q18.hb
  have oQ7Q1 := Nat.ne_of_gt Q18.hb
  have nQ7Q2 := Nat.ne_of_lt Q28.hb
  have oQ7Q2 := Nat.ne_of_gt Q28.hb
  have nQ7Q3 := Nat.ne_of_lt Q38.hb
  have oQ7Q3 := Nat.ne_of_gt Q38.hb
  have nQ7Q4 := Nat.ne_of_lt Q48.hb
  have oQ7Q4 := Nat.ne_of_gt Q48.hb
  have nQ7Q5 := Nat.ne_of_lt Q58.hb
  have oQ7Q5 := Nat.ne_of_gt Q58.hb
  have nQ7Q6 := Nat.ne_of_lt Q68.hb
  have oQ7Q6 := Nat.ne_of_gt Q68.hb
  have Q79 : Bk2 w9 (w8.heap.size) (.int .i64 0) (.int .i64 2) := Bk2.of b9 (by simp <;> omega) (by intro j; simp [go_sem]) (by simp [go_sem]) (by simp [go_sem])
  clear Q08 Q18 Q28 Q38 Q48 Q58 Q68 b9 d9 B8
  have cQ0_b := Q09.hb
  have cQ0_f := Q09.fz
  have cQ0_0 := Q09.k0
  have cQ0_1 := Q09.k1
  have cQ1_b := Q19.hb
  have cQ1_f := Q19.fz
  have cQ1_0 := Q19.k0
  have cQ1_1 := Q19.k1
  have cQ2_b := Q29.hb
  have cQ2_f := Q29.fz
  have cQ2_0 := Q29.k0
  have cQ2_1 := Q29.k1
  have cQ3_b := Q39.hb
  have cQ3_f := Q39.fz
  have cQ3_0 := Q39.k0
  have cQ3_1 := Q39.k1
  have cQ4_b := Q49.hb
  have cQ4_f := Q49.fz
  have cQ4_0 := Q49.k0
  have cQ4_1 := Q49.k1
  have cQ5_b := Q59.hb
  have cQ5_f := Q59.fz
  have cQ5_0 := Q59.k0
  have cQ5_1 := Q59.k1
  have cQ6_b := Q69.hb
  have cQ6_f := Q69.fz
  have cQ6_0 := Q69.k0
  have cQ6_1 := Q69.k1
  have cQ7_b := Q79.hb
  have cQ7_f := Q79.fz
  have cQ7_0 := Q79.k0
  have cQ7_1 := Q79.k1
  go_wp2_with fail
  clear cQ0_b cQ0_f cQ0_0 cQ0_1 cQ1_b cQ1_f cQ1_0 cQ1_1 cQ2_b cQ2_f cQ2_0 cQ2_1 cQ3_b cQ3_f cQ3_0 cQ3_1 cQ4_b cQ4_f cQ4_0 cQ4_1 cQ5_b cQ5_f cQ5_0 cQ5_1 cQ6_b cQ6_f cQ6_0 cQ6_1 cQ7_b cQ7_f cQ7_0 cQ7_1
  refine (X0.out _ (L0.out.on (below_step B9.out (by repeat (first | exact Below.refl _ _ | refine below_drewN ?_ _ | refine Below.drew ?_ | refine Below.setCell ?_ (by first | (simp; done) | (simp; omega) | omega) _ | refine Below.alloc ?_ (by first | (simp; done) | (simp; omega) | omega) _)))) (var_keep (below_step B9.out (by repeat (first | exact Below.refl _ _ | refine below_drewN ?_ _ | refine Below.drew ?_ | refine Below.setCell ?_ (by first | (simp; done) | (simp; omega) | omega) _ | refine Below.alloc ?_ (by first | (simp; done) | (simp; omega) | omega) _))) T0.out)).mono ?_; rintro e w10 ⟨rfl, b10⟩
  have d10 : Below w9.heap.size w9 w10 := below_step (by repeat (first | exact Below.refl _ _ | refine below_drewN ?_ _ | refine Below.drew ?_ | refine Below.setCell ?_ (by first | (simp; done) | (simp; omega) | omega) _ | refine Below.alloc ?_ (by first | (simp; done) | (simp; omega) | omega) _)) b10
  have B10 := Lib.hid (below_step B9.out d10)
  have Q010 := Q09.keep d10
  have Q110 := Q19.keep d10
  have Q210 := Q29.keep d10
  have Q310 := Q39.keep d10
  have Q410 := Q49.keep d10
  have Q510 := Q59.keep d10
  have Q610 := Q69.keep d10
  have Q710 := Q79.keep d10
  have aQ8 := B9.out.size
  have nQ8Q0 := Nat.ne_of_lt Q09.hb
  have oQ8Q0 := Nat.ne_of_gt Q09.hb
  have nQ8Q1 := Nat.ne_of_lt Q19.hb
  have oQ8Q1 := Nat.ne_of_gt Q19.hb
  have nQ8Q2 := Nat.ne_of_lt Q29.hb
  have oQ8Q2 := Nat.ne_of_gt Q29.hb
  have nQ8Q3 := Nat.ne_of_lt Q39.hb
  have oQ8Q3 := Nat.ne_of_gt Q39.hb
  have nQ8Q4 := Nat.ne_of_lt Q49.hb
  have oQ8Q4 := Nat.ne_of_gt Q49.hb
  have nQ8Q5 := Nat.ne_of_lt Q59.hb
  have oQ8Q5 := Nat.ne_of_gt Q59.hb
  have nQ8Q6 := Nat.ne_of_lt Q69.hb
  have oQ8Q6 := Nat.ne_of_gt Q69.hb
  have nQ8Q7 := Nat.ne_of_lt Q79.hb
  have oQ8Q7 := Nat.ne_of_gt Q79.hb
  have Q810 : Bk2 w10 (w9.heap.size) (.int .i64 0) (.int .i64 0) := Bk2.of b10 (by simp <;> omega) (by intro j; simp [go_sem]) (by simp [go_sem]) (by simp [go_sem])
  clear Q09 Q19 Q29 Q39 Q49 Q59 Q69 Q79 b10 d10 B9
  have cQ0_b := Q010.hb
  have cQ0_f := Q010.fz
  have cQ0_0 := Q010.k0
  have cQ0_1 := Q010.k1
  have cQ1_b := Q110.hb
  have cQ1_f := Q110.fz
  have cQ1_0 := Q110.k0
  have cQ1_1 := Q110.k1
  have cQ2_b := Q210.hb
  have cQ2_f := Q210.fz
  have cQ2_0 := Q210.k0
  have cQ2_1 := Q210.k1
  have cQ3_b := Q310.hb
  have cQ3_f := Q310.fz
  have cQ3_0 := Q310.k0
  have cQ3_1 := Q310.k1
  have cQ4_b := Q410.hb
  have cQ4_f := Q410.fz
  have cQ4_0 := Q410.k0
  have cQ4_1 := Q410.k1
  have cQ5_b := Q510.hb
  have cQ5_f := Q510.fz
  have cQ5_0 := Q510.k0
  have cQ5_1 := Q510.k1
  have cQ6_b := Q610.hb
  have cQ6_f := Q610.fz
  have cQ6_0 := Q610.k0
  have cQ6_1 := Q610.k1
  have cQ7_b := Q710.hb
  have cQ7_f := Q710.fz
  have cQ7_0 := Q710.k0
  have cQ7_1 := Q710.k1
  have cQ8_b := Q810.hb
  have cQ8_f := Q810.fz
  have cQ8_0 := Q810.k0
  have cQ8_1 := Q810.k1
  go_wp2_with fail
  clear cQ0_b cQ0_f cQ0_0 cQ0_1 cQ1_b cQ1_f cQ1_0 cQ1_1 cQ2_b cQ2_f cQ2_0 cQ2_1 cQ3_b cQ3_f cQ3_0 cQ3_1 cQ4_b cQ4_f cQ4_0 cQ4_1 cQ5_b cQ5_f cQ5_0 cQ5_1 cQ6_b cQ6_f cQ6_0 cQ6_1 cQ7_b cQ7_f cQ7_0 cQ7_1 cQ8_b cQ8_f cQ8_0 cQ8_1
  refine (X1.out _ (L0.out.on (below_step B10.out (by repeat (first | exact Below.refl _ _ | refine below_drewN ?_ _ | refine Below.drew ?_ | refine Below.setCell ?_ (by first | (simp; done) | (simp; omega) | omega) _ | refine Below.alloc ?_ (by first | (simp; done) | (simp; omega) | omega) _)))) (var_keep (below_step B10.out (by repeat (first | exact Below.refl _ _ | refine below_drewN ?_ _ | refine Below.drew ?_ | refine Below.setCell ?_ (by first | (simp; done) | (simp; omega) | omega) _ | refine Below.alloc ?_ (by first | (simp; done) | (simp; omega) | omega) _))) T0.out)).mono ?_; rintro e w11 ⟨rfl, b11⟩
  have d11 : Below w10.heap.size w10 w11 := below_step (by repeat (first | exact Below.refl _ _ | refine below_drewN ?_ _ | refine Below.drew ?_ | refine Below.setCell ?_ (by first | (simp; done) | (simp; omega) | omega) _ | refine Below.alloc ?_ (by first | (simp; done) | (simp; omega) | omega) _)) b11
  have B11 := Lib.hid (below_step B10.out d11)
  have Q011 := Q010.keep d11
  have Q111 := Q110.keep d11
  have Q211 := Q210.keep d11
  have Q311 := Q310.keep d11
  have Q411 := Q410.keep d11
  have Q511 := Q510.keep d11
  have Q611 := Q610.keep d11
  have Q711 := Q710.keep d11
  have Q811 := Q810.keep d11
  clear Q010 Q110 Q210 Q310 Q410 Q510 Q610 Q710 Q810 b11 d11 B10
  have cQ0_b := Q011.hb
  have cQ0_f := Q011.fz
  have cQ0_0 := Q011.k0
  have cQ0_1 := Q011.k1
  have cQ1_b := Q111.hb
  have cQ1_f := Q111.fz
  have cQ1_0 := Q111.k0
  have cQ1_1 := Q111.k1
  have cQ2_b := Q211.hb
  have cQ2_f := Q211.fz
  have cQ2_0 := Q211.k0
  have cQ2_1 := Q211.k1
  have cQ3_b := Q311.hb
  have cQ3_f := Q311.fz
  have cQ3_0 := Q311.k0
  have cQ3_1 := Q311.k1
  have cQ4_b := Q411.hb
  have cQ4_f := Q411.fz
  have cQ4_0 := Q411.k0
  have cQ4_1 := Q411.k1
  have cQ5_b := Q511.hb
  have cQ5_f := Q511.fz
  have cQ5_0 := Q511.k0
  have cQ5_1 := Q511.k1
  have cQ6_b := Q611.hb
  have cQ6_f := Q611.fz
  have cQ6_0 := Q611.k0
  have cQ6_1 := Q611.k1
  have cQ7_b := Q711.hb
  have cQ7_f := Q711.fz
  have cQ7_0 := Q711.k0
  have cQ7_1 := Q711.k1
  have cQ8_b := Q811.hb
  have cQ8_f := Q811.fz
  have cQ8_0 := Q811.k0
  have cQ8_1 := Q811.k1
  go_wp2_with fail
  clear cQ0_b cQ0_f cQ0_0 cQ0_1 cQ1_b cQ1_f cQ1_0 cQ1_1 cQ2_b cQ2_f cQ2_0 cQ2_1 cQ3_b cQ3_f cQ3_0 cQ3_1 cQ4_b cQ4_f cQ4_0 cQ4_1 cQ5_b cQ5_f cQ5_0 cQ5_1 cQ6_b cQ6_f cQ6_0 cQ6_1 cQ7_b cQ7_f cQ7_0 cQ7_1 cQ8_b cQ8_f cQ8_0 cQ8_1
  refine (X2.out _ (L0.out.on (below_step B11.out (by repeat (first | exact Below.refl _ _ | refine below_drewN ?_ _ | refine Below.drew ?_ | refine Below.setCell ?_ (by first | (simp; done) | (simp; omega) | omega) _ | refine Below.alloc ?_ (by first | (simp; done) | (simp; omega) | omega) _)))) (var_keep (below_step B11.out (by repeat (first | exact Below.refl _ _ | refine below_drewN ?_ _ | refine Below.drew ?_ | refine Below.setCell ?_ (by first | (simp; done) | (simp; omega) | omega) _ | refine Below.alloc ?_ (by first | (simp; done) | (simp; omega) | omega) _))) T0.out)).mono ?_; rintro e w12 ⟨rfl, b12⟩
  have d12 : Below w11.heap.size w11 w12 := below_step (by repeat (first | exact Below.refl _ _ | refine below_drewN ?_ _ | refine Below.drew ?_ | refine Below.setCell ?_ (by first | (simp; done) | (simp; omega) | omega) _ | refine Below.alloc ?_ (by first | (simp; done) | (simp; omega) | omega) _)) b12
  have B12 := Lib.hid (below_step B11.out d12)
  have Q012 := Q011.keep d12
  have Q112 := Q111.keep d12
  have Q212 := Q211.keep d12
  have Q312 := Q311.keep d12
  have Q412 := Q411.keep d12
  have Q512 := Q511.keep d12
  have Q612 := Q611.keep d12
  have Q712 := Q711.keep d12
  have Q812 := Q811.keep d12
  clear Q011 Q111 Q211 Q311 Q411 Q511 Q611 Q711 Q811 b12 d12 B11
  have cQ0_b := Q012.hb
  have cQ0_f := Q012.fz
  have cQ0_0 := Q012.k0
  have cQ0_1 := Q012.k1
  have cQ1_b := Q112.hb
  have cQ1_f := Q112.fz
  have cQ1_0 := Q112.k0
  have cQ1_1 := Q112.k1
  have cQ2_b := Q212.hb
  have cQ2_f := Q212.fz
  have cQ2_0 := Q212.k0
  have cQ2_1 := Q212.k1
  have cQ3_b := Q312.hb
  have cQ3_f := Q312.fz
  have cQ3_0 := Q312.k0
  have cQ3_1 := Q312.k1
  have cQ4_b := Q412.hb
  have cQ4_f := Q412.fz
  have cQ4_0 := Q412.k0
  have cQ4_1 := Q412.k1
  have cQ5_b := Q512.hb
  have cQ5_f := Q512.fz
  have cQ5_0 := Q512.k0
  have cQ5_1 := Q512.k1
  have cQ6_b := Q612.hb
  have cQ6_f := Q612.fz
  have cQ6_0 := Q612.k0
  have cQ6_1 := Q612.k1
  have cQ7_b := Q712.hb
  have cQ7_f := Q712.fz
  have cQ7_0 := Q712.k0
  have cQ7_1 := Q712.k1
  have cQ8_b := Q812.hb
  have cQ8_f := Q812.fz
  have cQ8_0 := Q812.k0
  have cQ8_1 := Q812.k1
  go_wp2_with fail
  clear cQ0_b cQ0_f cQ0_0 cQ0_1 cQ1_b cQ1_f cQ1_0 cQ1_1 cQ2_b cQ2_f cQ2_0 cQ2_1 cQ3_b cQ3_f cQ3_0 cQ3_1 cQ4_b cQ4_f cQ4_0 cQ4_1 cQ5_b cQ5_f cQ5_0 cQ5_1 cQ6_b cQ6_f cQ6_0 cQ6_1 cQ7_b cQ7_f cQ7_0 cQ7_1 cQ8_b cQ8_f cQ8_0 cQ8_1
  refine (G0.out _).mono ?_; rintro e w13 ⟨rfl, b13⟩
  have d13 : Below w12.heap.size w12 w13 := below_step (by repeat (first | exact Below.refl _ _ | refine below_drewN ?_ _ | refine Below.drew ?_ | refine Below.setCell ?_ (by first | (simp; done) | (simp; omega) | omega) _ | refine Below.alloc ?_ (by first | (simp; done) | (simp; omega) | omega) _)) b13
  have B13 := Lib.hid (below_step B12.out d13)
  have Q013 := Q012.keep d13
  have Q113 := Q112.keep d13
  have Q213 := Q212.keep d13
  have Q313 := Q312.keep d13
  have Q413 := Q412.keep d13
  have Q513 := Q512.keep d13
  have Q613 := Q612.keep d13
  have Q713 := Q712.keep d13
  have Q813 := Q812.keep d13
  clear Q012 Q112 Q212 Q312 Q412 Q512 Q612 Q712 Q812 b13 d13 B12
  have cQ0_b := Q013.hb
  have cQ0_f := Q013.fz
  have cQ0_0 := Q013.k0
  have cQ0_1 := Q013.k1
  have cQ1_b := Q113.hb
  have cQ1_f := Q113.fz
  have cQ1_0 := Q113.k0
  have cQ1_1 := Q113.k1
  have cQ2_b := Q213.hb
  have cQ2_f := Q213.fz
  have cQ2_0 := Q213.k0
  have cQ2_1 := Q213.k1
  have cQ3_b := Q313.hb
  have cQ3_f := Q313.fz
  have cQ3_0 := Q313.k0
  have cQ3_1 := Q313.k1
  have cQ4_b := Q413.hb
  have cQ4_f := Q413.fz
  have cQ4_0 := Q413.k0
  have cQ4_1 := Q413.k1
  have cQ5_b := Q513.hb
  have cQ5_f := Q513.fz
  have cQ5_0 := Q513.k0
  have cQ5_1 := Q513.k1
  have cQ6_b := Q613.hb
  have cQ6_f := Q613.fz
  have cQ6_0 := Q613.k0
  have cQ6_1 := Q613.k1
  have cQ7_b := Q713.hb
  have cQ7_f := Q713.fz
  have cQ7_0 := Q713.k0
  have cQ7_1 := Q713.k1
  have cQ8_b := Q813.hb
  have cQ8_f := Q813.fz
  have cQ8_0 := Q813.k0
  have cQ8_1 := Q813.k1
  go_wp2_with fail
  clear cQ0_b cQ0_f cQ0_0 cQ0_1 cQ1_b cQ1_f cQ1_0 cQ1_1 cQ2_b cQ2_f cQ2_0 cQ2_1 cQ3_b cQ3_f cQ3_0 cQ3_1 cQ4_b cQ4_f cQ4_0 cQ4_1 cQ5_b cQ5_f cQ5_0 cQ5_1 cQ6_b cQ6_f cQ6_0 cQ6_1 cQ7_b cQ7_f cQ7_0 cQ7_1 cQ8_b cQ8_f cQ8_0 cQ8_1
  refine (G1.out _).mono ?_; rintro e w14 ⟨rfl, b14⟩
  have d14 : Below w13.heap.size w13 w14 := below_step (by repeat (first | exact Below.refl _ _ | refine below_drewN ?_ _ | refine Below.drew ?_ | refine Below.setCell ?_ (by first | (simp; done) | (simp; omega) | omega) _ | refine Below.alloc ?_ (by first | (simp; done) | (simp; omega) | omega) _)) b14
  have B14 := Lib.hid (below_step B13.out d14)
  have Q014 := Q013.keep d14
  have Q114 := Q113.keep d14
  have Q214 := Q213.keep d14
  have Q314 := Q313.keep d14
  have Q414 := Q413.keep d14
  have Q514 := Q513.keep d14
  have Q614 := Q613.keep d14
  have Q714 := Q713.keep d14
  have Q814 := Q813.keep d14
  clear Q013 Q113 Q213 Q313 Q413 Q513 Q613 Q713 Q813 b14 d14 B13
  have cQ0_b := Q014.hb
  have cQ0_f := Q014.fz
  have cQ0_0 := Q014.k0
  have cQ0_1 := Q014.k1
  have cQ1_b := Q114.hb
  have cQ1_f := Q114.fz
  have cQ1_0 := Q114.k0
  have cQ1_1 := Q114.k1
  have cQ2_b := Q214.hb
  have cQ2_f := Q214.fz
  have cQ2_0 := Q214.k0
  have cQ2_1 := Q214.k1
  have cQ3_b := Q314.hb
  have cQ3_f := Q314.fz
  have cQ3_0 := Q314.k0
  have cQ3_1 := Q314.k1
  have cQ4_b := Q414.hb
  have cQ4_f := Q414.fz
  have cQ4_0 := Q414.k0
  have cQ4_1 := Q414.k1
  have cQ5_b := Q514.hb
  have cQ5_f := Q514.fz
  have cQ5_0 := Q514.k0
  have cQ5_1 := Q514.k1
  have cQ6_b := Q614.hb
  have cQ6_f := Q614.fz
  have cQ6_0 := Q614.k0
  have cQ6_1 := Q614.k1
  have cQ7_b := Q714.hb
  have cQ7_f := Q714.fz
  have cQ7_0 := Q714.k0
  have cQ7_1 := Q714.k1
  have cQ8_b := Q814.hb
  have cQ8_f := Q814.fz
  have cQ8_0 := Q814.k0
  have cQ8_1 := Q814.k1
  go_wp2_with fail
  clear cQ0_b cQ0_f cQ0_0 cQ0_1 cQ1_b cQ1_f cQ1_0 cQ1_1 cQ2_b cQ2_f cQ2_0 cQ2_1 cQ3_b cQ3_f cQ3_0 cQ3_1 cQ4_b cQ4_f cQ4_0 cQ4_1 cQ5_b cQ5_f cQ5_0 cQ5_1 cQ6_b cQ6_f cQ6_0 cQ6_1 cQ7_b cQ7_f cQ7_0 cQ7_1 cQ8_b cQ8_f cQ8_0 cQ8_1
  go_ret
  exact ⟨rfl, (by have hz := B14.out.size; repeat (first | exact B14.out | refine below_drewN ?_ _ | refine Below.drew ?_ | refine Below.setCell ?_ (by first | omega | (simp; done) | (simp; omega)) _ | refine Below.alloc ?_ (by first | omega | (simp; done) | (simp; omega)) _))⟩
end Go.Proofs.YtafnnnbefabofaaDoor

