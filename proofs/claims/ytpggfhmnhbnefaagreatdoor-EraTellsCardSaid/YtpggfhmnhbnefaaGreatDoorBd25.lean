/- Joined: RkB, RkC. -/
import Derived.Test.YtpggfhmnhbnefaaGreatDoorBd01
import Derived.Test.YtpggfhmnhbnefaaGreatDoorBd23
set_option linter.unusedVariables false
set_option linter.unusedSimpArgs false
namespace Go.Proofs.YtpggfhmnhbnefaaGreatDoor
open Go.RowKit Go.Sort
set_option maxHeartbeats 4000000 in
set_option maxRecDepth 100000 in
theorem kread_119 (s : ByteArray) (d : ByteArray) (ls : 0 < (s.size : Int)) (lm : (s.size : Int) ≤ 600) (IX : ∀ W, Sem.run Tryz.prog (Instr.index 9 (.string s) (.int .i64 ((s.size : Int) - 1))) W = .ok (.int .u8 119) W) (SL : ∀ W, Sem.run Tryz.prog (Instr.slice 9 (.string s) none (some (.int .i64 ((s.size : Int) - 1))) none) W = .ok (.string d) W) (n q : Int) (w : World) (CR : Hid (∀ W, Calls Tryz.prog 63 #[.string d] W fun e w' => e = .returned (.tuple #[.int .i64 n, .int .i64 q]) ∧ Below W.heap.size W w')) :
  Calls Tryz.prog 33 #[.string s] w fun e w' => e = .returned (.tuple #[.agg #[.int .i64 (Cl.fin n q 0).1, .int .i64 (Cl.fin n q 0).2.1], .int .i64 (Cl.fin n q 0).2.2]) ∧ Below w.heap.size w w' := by
 obtain ⟨f0, f1, f2, hF⟩ : ∃ f0 f1 f2, Cl.fin n q 0 = (f0, f1, f2) := ⟨_, _, _, rfl⟩
 rw [hF]
 have HX := Lib.hid hF; clear hF
 go_enter Tryz.func33, Tryz.ntmps33
 go_wp2_with fail
 refine (CR.out _).mono ?_; rintro e w1 ⟨rfl, b1⟩
 have d1 : Below w.heap.size w w1 := below_step gr0 b1
 have B1 := Lib.hid d1
 have R1 : Bk2 w1 (w.heap.size) (.int .i64 0) (.int .i64 0) := by refine Bk2.of b1 (by simp <;> omega) (by intro j; simp [go_sem]) ?_ ?_ <;> simp [go_sem]
 have A1 : Bk2 w1 (w.heap.size + 1) (.int .i64 0) (.int .i64 0) := by refine Bk2.of b1 (by simp <;> omega) (by intro j; simp [go_sem]) ?_ ?_ <;> simp [go_sem]
 clear b1 d1
 by_cases hq : q = 0
 ·
  subst hq
  by_cases h0 : 0 ≤ n
  ·
   by_cases h1 : n ≤ 172800
   ·
    have HF := Lib.hid (fin_ok (show Cl.rB n 0 = true from rB_iff.2 ⟨h0, h1, by omega, by omega⟩))
    have g0 : ¬ n < 0 := by omega
    have g1 : ¬ 172800 < n := by omega
    obtain ⟨rfl, rfl, rfl⟩ : n = f0 ∧ 0 = f1 ∧ 0 = f2 := fin_inj (HF.out.symm.trans HX.out)
    have tx := R1; obtain ⟨cR_b, cR_f, cR_0, cR_1⟩ := tx
    have tx := A1; obtain ⟨cA_b, cA_f, cA_0, cA_1⟩ := tx
    go_wp2_with fail
    refine bodyPost_ret (v := .tuple #[.agg #[.int .i64 n, .int .i64 0], .int .i64 0]) (by simp [results, Tryz.results33, go_sem, cR_b, cR_f, cR_0, cR_1, cA_b, cA_f, cA_0, cA_1]) rfl ⟨rfl, ?_⟩
    clear cR_b cR_f cR_0 cR_1 cA_b cA_f cA_0 cA_1
    exact (grB B1)
   ·
    have HF := Lib.hid (fin_far (show Cl.rB n 0 = false by rw [Bool.eq_false_iff]; intro h; have := rB_iff.1 h; omega))
    have g0 : ¬ n < 0 := by omega
    have g1 : 172800 < n := by omega
    obtain ⟨rfl, rfl, rfl⟩ : 0 = f0 ∧ 0 = f1 ∧ 1 = f2 := fin_inj (HF.out.symm.trans HX.out)
    have tx := R1; obtain ⟨cR_b, cR_f, cR_0, cR_1⟩ := tx
    have tx := A1; obtain ⟨cA_b, cA_f, cA_0, cA_1⟩ := tx
    go_wp2_with fail
    refine bodyPost_ret (v := .tuple #[.agg #[.int .i64 0, .int .i64 0], .int .i64 1]) (by simp [results, Tryz.results33, go_sem, cR_b, cR_f, cR_0, cR_1, cA_b, cA_f, cA_0, cA_1]) rfl ⟨rfl, ?_⟩
    clear cR_b cR_f cR_0 cR_1 cA_b cA_f cA_0 cA_1
    exact (grB B1)
  ·
   have HF := Lib.hid (fin_far (show Cl.rB n 0 = false by rw [Bool.eq_false_iff]; intro h; have := rB_iff.1 h; omega))
   have g0 : n < 0 := by omega
   obtain ⟨rfl, rfl, rfl⟩ : 0 = f0 ∧ 0 = f1 ∧ 1 = f2 := fin_inj (HF.out.symm.trans HX.out)
   have tx := R1; obtain ⟨cR_b, cR_f, cR_0, cR_1⟩ := tx
   have tx := A1; obtain ⟨cA_b, cA_f, cA_0, cA_1⟩ := tx
   go_wp2_with fail
   refine bodyPost_ret (v := .tuple #[.agg #[.int .i64 0, .int .i64 0], .int .i64 1]) (by simp [results, Tryz.results33, go_sem, cR_b, cR_f, cR_0, cR_1, cA_b, cA_f, cA_0, cA_1]) rfl ⟨rfl, ?_⟩
   clear cR_b cR_f cR_0 cR_1 cA_b cA_f cA_0 cA_1
   exact (grB B1)
 ·
  have HF := Lib.hid (fin_err (n := n) (b := 0) hq)
  have g1 : (q == 0) = false := beq_eq_false_iff_ne.2 hq
  have g2 : (q != 0) = true := by unfold bne; rw [g1]; rfl
  obtain ⟨rfl, rfl, rfl⟩ : 0 = f0 ∧ 0 = f1 ∧ q = f2 := fin_inj (HF.out.symm.trans HX.out)
  have tx := R1; obtain ⟨cR_b, cR_f, cR_0, cR_1⟩ := tx
  have tx := A1; obtain ⟨cA_b, cA_f, cA_0, cA_1⟩ := tx
  go_wp2_with fail
  refine bodyPost_ret (v := .tuple #[.agg #[.int .i64 0, .int .i64 0], .int .i64 q]) (by simp [results, Tryz.results33, go_sem, cR_b, cR_f, cR_0, cR_1, cA_b, cA_f, cA_0, cA_1]) rfl ⟨rfl, ?_⟩
  clear cR_b cR_f cR_0 cR_1 cA_b cA_f cA_0 cA_1
  exact (grB B1)
set_option maxHeartbeats 4000000 in
set_option maxRecDepth 100000 in
theorem kread_87 (s : ByteArray) (d : ByteArray) (ls : 0 < (s.size : Int)) (lm : (s.size : Int) ≤ 600) (IX : ∀ W, Sem.run Tryz.prog (Instr.index 9 (.string s) (.int .i64 ((s.size : Int) - 1))) W = .ok (.int .u8 87) W) (SL : ∀ W, Sem.run Tryz.prog (Instr.slice 9 (.string s) none (some (.int .i64 ((s.size : Int) - 1))) none) W = .ok (.string d) W) (n q : Int) (w : World) (CR : Hid (∀ W, Calls Tryz.prog 63 #[.string d] W fun e w' => e = .returned (.tuple #[.int .i64 n, .int .i64 q]) ∧ Below W.heap.size W w')) :
  Calls Tryz.prog 33 #[.string s] w fun e w' => e = .returned (.tuple #[.agg #[.int .i64 (Cl.fin n q 0).1, .int .i64 (Cl.fin n q 0).2.1], .int .i64 (Cl.fin n q 0).2.2]) ∧ Below w.heap.size w w' := by
 obtain ⟨f0, f1, f2, hF⟩ : ∃ f0 f1 f2, Cl.fin n q 0 = (f0, f1, f2) := ⟨_, _, _, rfl⟩
 rw [hF]
 have HX := Lib.hid hF; clear hF
 go_enter Tryz.func33, Tryz.ntmps33
 go_wp2_with fail
 refine (CR.out _).mono ?_; rintro e w1 ⟨rfl, b1⟩
 have d1 : Below w.heap.size w w1 := below_step gr0 b1
 have B1 := Lib.hid d1
 have R1 : Bk2 w1 (w.heap.size) (.int .i64 0) (.int .i64 0) := by refine Bk2.of b1 (by simp <;> omega) (by intro j; simp [go_sem]) ?_ ?_ <;> simp [go_sem]
 have A1 : Bk2 w1 (w.heap.size + 1) (.int .i64 0) (.int .i64 0) := by refine Bk2.of b1 (by simp <;> omega) (by intro j; simp [go_sem]) ?_ ?_ <;> simp [go_sem]
 clear b1 d1
 by_cases hq : q = 0
 ·
  subst hq
  by_cases h0 : 0 ≤ n
  ·
   by_cases h1 : n ≤ 172800
   ·
    have HF := Lib.hid (fin_ok (show Cl.rB n 0 = true from rB_iff.2 ⟨h0, h1, by omega, by omega⟩))
    have g0 : ¬ n < 0 := by omega
    have g1 : ¬ 172800 < n := by omega
    obtain ⟨rfl, rfl, rfl⟩ : n = f0 ∧ 0 = f1 ∧ 0 = f2 := fin_inj (HF.out.symm.trans HX.out)
    have tx := R1; obtain ⟨cR_b, cR_f, cR_0, cR_1⟩ := tx
    have tx := A1; obtain ⟨cA_b, cA_f, cA_0, cA_1⟩ := tx
    go_wp2_with fail
    refine bodyPost_ret (v := .tuple #[.agg #[.int .i64 n, .int .i64 0], .int .i64 0]) (by simp [results, Tryz.results33, go_sem, cR_b, cR_f, cR_0, cR_1, cA_b, cA_f, cA_0, cA_1]) rfl ⟨rfl, ?_⟩
    clear cR_b cR_f cR_0 cR_1 cA_b cA_f cA_0 cA_1
    exact (grB B1)
   ·
    have HF := Lib.hid (fin_far (show Cl.rB n 0 = false by rw [Bool.eq_false_iff]; intro h; have := rB_iff.1 h; omega))
    have g0 : ¬ n < 0 := by omega
    have g1 : 172800 < n := by omega
    obtain ⟨rfl, rfl, rfl⟩ : 0 = f0 ∧ 0 = f1 ∧ 1 = f2 := fin_inj (HF.out.symm.trans HX.out)
    have tx := R1; obtain ⟨cR_b, cR_f, cR_0, cR_1⟩ := tx
    have tx := A1; obtain ⟨cA_b, cA_f, cA_0, cA_1⟩ := tx
    go_wp2_with fail
    refine bodyPost_ret (v := .tuple #[.agg #[.int .i64 0, .int .i64 0], .int .i64 1]) (by simp [results, Tryz.results33, go_sem, cR_b, cR_f, cR_0, cR_1, cA_b, cA_f, cA_0, cA_1]) rfl ⟨rfl, ?_⟩
    clear cR_b cR_f cR_0 cR_1 cA_b cA_f cA_0 cA_1
    exact (grB B1)
  ·
   have HF := Lib.hid (fin_far (show Cl.rB n 0 = false by rw [Bool.eq_false_iff]; intro h; have := rB_iff.1 h; omega))
   have g0 : n < 0 := by omega
   obtain ⟨rfl, rfl, rfl⟩ : 0 = f0 ∧ 0 = f1 ∧ 1 = f2 := fin_inj (HF.out.symm.trans HX.out)
   have tx := R1; obtain ⟨cR_b, cR_f, cR_0, cR_1⟩ := tx
   have tx := A1; obtain ⟨cA_b, cA_f, cA_0, cA_1⟩ := tx
   go_wp2_with fail
   refine bodyPost_ret (v := .tuple #[.agg #[.int .i64 0, .int .i64 0], .int .i64 1]) (by simp [results, Tryz.results33, go_sem, cR_b, cR_f, cR_0, cR_1, cA_b, cA_f, cA_0, cA_1]) rfl ⟨rfl, ?_⟩
   clear cR_b cR_f cR_0 cR_1 cA_b cA_f cA_0 cA_1
   exact (grB B1)
 ·
  have HF := Lib.hid (fin_err (n := n) (b := 0) hq)
  have g1 : (q == 0) = false := beq_eq_false_iff_ne.2 hq
  have g2 : (q != 0) = true := by unfold bne; rw [g1]; rfl
  obtain ⟨rfl, rfl, rfl⟩ : 0 = f0 ∧ 0 = f1 ∧ q = f2 := fin_inj (HF.out.symm.trans HX.out)
  have tx := R1; obtain ⟨cR_b, cR_f, cR_0, cR_1⟩ := tx
  have tx := A1; obtain ⟨cA_b, cA_f, cA_0, cA_1⟩ := tx
  go_wp2_with fail
  refine bodyPost_ret (v := .tuple #[.agg #[.int .i64 0, .int .i64 0], .int .i64 q]) (by simp [results, Tryz.results33, go_sem, cR_b, cR_f, cR_0, cR_1, cA_b, cA_f, cA_0, cA_1]) rfl ⟨rfl, ?_⟩
  clear cR_b cR_f cR_0 cR_1 cA_b cA_f cA_0 cA_1
  exact (grB B1)
set_option maxHeartbeats 4000000 in
set_option maxRecDepth 100000 in
theorem kread_115 (s : ByteArray) (d : ByteArray) (ls : 0 < (s.size : Int)) (lm : (s.size : Int) ≤ 600) (IX : ∀ W, Sem.run Tryz.prog (Instr.index 9 (.string s) (.int .i64 ((s.size : Int) - 1))) W = .ok (.int .u8 115) W) (SL : ∀ W, Sem.run Tryz.prog (Instr.slice 9 (.string s) none (some (.int .i64 ((s.size : Int) - 1))) none) W = .ok (.string d) W) (n q : Int) (w : World) (CR : Hid (∀ W, Calls Tryz.prog 63 #[.string d] W fun e w' => e = .returned (.tuple #[.int .i64 n, .int .i64 q]) ∧ Below W.heap.size W w')) :
  Calls Tryz.prog 33 #[.string s] w fun e w' => e = .returned (.tuple #[.agg #[.int .i64 (Cl.fin n q 1).1, .int .i64 (Cl.fin n q 1).2.1], .int .i64 (Cl.fin n q 1).2.2]) ∧ Below w.heap.size w w' := by
 obtain ⟨f0, f1, f2, hF⟩ : ∃ f0 f1 f2, Cl.fin n q 1 = (f0, f1, f2) := ⟨_, _, _, rfl⟩
 rw [hF]
 have HX := Lib.hid hF; clear hF
 go_enter Tryz.func33, Tryz.ntmps33
 go_wp2_with fail
 refine (CR.out _).mono ?_; rintro e w1 ⟨rfl, b1⟩
 have d1 : Below w.heap.size w w1 := below_step gr0 b1
 have B1 := Lib.hid d1
 have R1 : Bk2 w1 (w.heap.size) (.int .i64 0) (.int .i64 0) := by refine Bk2.of b1 (by simp <;> omega) (by intro j; simp [go_sem]) ?_ ?_ <;> simp [go_sem]
 have A1 : Bk2 w1 (w.heap.size + 1) (.int .i64 0) (.int .i64 1) := by refine Bk2.of b1 (by simp <;> omega) (by intro j; simp [go_sem]) ?_ ?_ <;> simp [go_sem]
 clear b1 d1
 by_cases hq : q = 0
 ·
  subst hq
  by_cases h0 : 0 ≤ n
  ·
   by_cases h1 : n ≤ 172800
   ·
    have HF := Lib.hid (fin_ok (show Cl.rB n 1 = true from rB_iff.2 ⟨h0, h1, by omega, by omega⟩))
    have g0 : ¬ n < 0 := by omega
    have g1 : ¬ 172800 < n := by omega
    obtain ⟨rfl, rfl, rfl⟩ : n = f0 ∧ 1 = f1 ∧ 0 = f2 := fin_inj (HF.out.symm.trans HX.out)
    have tx := R1; obtain ⟨cR_b, cR_f, cR_0, cR_1⟩ := tx
    have tx := A1; obtain ⟨cA_b, cA_f, cA_0, cA_1⟩ := tx
    go_wp2_with fail
    refine bodyPost_ret (v := .tuple #[.agg #[.int .i64 n, .int .i64 1], .int .i64 0]) (by simp [results, Tryz.results33, go_sem, cR_b, cR_f, cR_0, cR_1, cA_b, cA_f, cA_0, cA_1]) rfl ⟨rfl, ?_⟩
    clear cR_b cR_f cR_0 cR_1 cA_b cA_f cA_0 cA_1
    exact (grB B1)
   ·
    have HF := Lib.hid (fin_far (show Cl.rB n 1 = false by rw [Bool.eq_false_iff]; intro h; have := rB_iff.1 h; omega))
    have g0 : ¬ n < 0 := by omega
    have g1 : 172800 < n := by omega
    obtain ⟨rfl, rfl, rfl⟩ : 0 = f0 ∧ 0 = f1 ∧ 1 = f2 := fin_inj (HF.out.symm.trans HX.out)
    have tx := R1; obtain ⟨cR_b, cR_f, cR_0, cR_1⟩ := tx
    have tx := A1; obtain ⟨cA_b, cA_f, cA_0, cA_1⟩ := tx
    go_wp2_with fail
    refine bodyPost_ret (v := .tuple #[.agg #[.int .i64 0, .int .i64 0], .int .i64 1]) (by simp [results, Tryz.results33, go_sem, cR_b, cR_f, cR_0, cR_1, cA_b, cA_f, cA_0, cA_1]) rfl ⟨rfl, ?_⟩
    clear cR_b cR_f cR_0 cR_1 cA_b cA_f cA_0 cA_1
    exact (grB B1)
  ·
   have HF := Lib.hid (fin_far (show Cl.rB n 1 = false by rw [Bool.eq_false_iff]; intro h; have := rB_iff.1 h; omega))
   have g0 : n < 0 := by omega
   obtain ⟨rfl, rfl, rfl⟩ : 0 = f0 ∧ 0 = f1 ∧ 1 = f2 := fin_inj (HF.out.symm.trans HX.out)
   have tx := R1; obtain ⟨cR_b, cR_f, cR_0, cR_1⟩ := tx
   have tx := A1; obtain ⟨cA_b, cA_f, cA_0, cA_1⟩ := tx
   go_wp2_with fail
   refine bodyPost_ret (v := .tuple #[.agg #[.int .i64 0, .int .i64 0], .int .i64 1]) (by simp [results, Tryz.results33, go_sem, cR_b, cR_f, cR_0, cR_1, cA_b, cA_f, cA_0, cA_1]) rfl ⟨rfl, ?_⟩
   clear cR_b cR_f cR_0 cR_1 cA_b cA_f cA_0 cA_1
   exact (grB B1)
 ·
  have HF := Lib.hid (fin_err (n := n) (b := 1) hq)
  have g1 : (q == 0) = false := beq_eq_false_iff_ne.2 hq
  have g2 : (q != 0) = true := by unfold bne; rw [g1]; rfl
  obtain ⟨rfl, rfl, rfl⟩ : 0 = f0 ∧ 0 = f1 ∧ q = f2 := fin_inj (HF.out.symm.trans HX.out)
  have tx := R1; obtain ⟨cR_b, cR_f, cR_0, cR_1⟩ := tx
  have tx := A1; obtain ⟨cA_b, cA_f, cA_0, cA_1⟩ := tx
  go_wp2_with fail
  refine bodyPost_ret (v := .tuple #[.agg #[.int .i64 0, .int .i64 0], .int .i64 q]) (by simp [results, Tryz.results33, go_sem, cR_b, cR_f, cR_0, cR_1, cA_b, cA_f, cA_0, cA_1]) rfl ⟨rfl, ?_⟩
  clear cR_b cR_f cR_0 cR_1 cA_b cA_f cA_0 cA_1
  exact (grB B1)
set_option maxHeartbeats 4000000 in
set_option maxRecDepth 100000 in
theorem kread_83 (s : ByteArray) (d : ByteArray) (ls : 0 < (s.size : Int)) (lm : (s.size : Int) ≤ 600) (IX : ∀ W, Sem.run Tryz.prog (Instr.index 9 (.string s) (.int .i64 ((s.size : Int) - 1))) W = .ok (.int .u8 83) W) (SL : ∀ W, Sem.run Tryz.prog (Instr.slice 9 (.string s) none (some (.int .i64 ((s.size : Int) - 1))) none) W = .ok (.string d) W) (n q : Int) (w : World) (CR : Hid (∀ W, Calls Tryz.prog 63 #[.string d] W fun e w' => e = .returned (.tuple #[.int .i64 n, .int .i64 q]) ∧ Below W.heap.size W w')) :
  Calls Tryz.prog 33 #[.string s] w fun e w' => e = .returned (.tuple #[.agg #[.int .i64 (Cl.fin n q 1).1, .int .i64 (Cl.fin n q 1).2.1], .int .i64 (Cl.fin n q 1).2.2]) ∧ Below w.heap.size w w' := by
 obtain ⟨f0, f1, f2, hF⟩ : ∃ f0 f1 f2, Cl.fin n q 1 = (f0, f1, f2) := ⟨_, _, _, rfl⟩
 rw [hF]
 have HX := Lib.hid hF; clear hF
 go_enter Tryz.func33, Tryz.ntmps33
 go_wp2_with fail
 refine (CR.out _).mono ?_; rintro e w1 ⟨rfl, b1⟩
 have d1 : Below w.heap.size w w1 := below_step gr0 b1
 have B1 := Lib.hid d1
 have R1 : Bk2 w1 (w.heap.size) (.int .i64 0) (.int .i64 0) := by refine Bk2.of b1 (by simp <;> omega) (by intro j; simp [go_sem]) ?_ ?_ <;> simp [go_sem]
 have A1 : Bk2 w1 (w.heap.size + 1) (.int .i64 0) (.int .i64 1) := by refine Bk2.of b1 (by simp <;> omega) (by intro j; simp [go_sem]) ?_ ?_ <;> simp [go_sem]
 clear b1 d1
 by_cases hq : q = 0
 ·
  subst hq
  by_cases h0 : 0 ≤ n
  ·
   by_cases h1 : n ≤ 172800
   ·
    have HF := Lib.hid (fin_ok (show Cl.rB n 1 = true from rB_iff.2 ⟨h0, h1, by omega, by omega⟩))
    have g0 : ¬ n < 0 := by omega
    have g1 : ¬ 172800 < n := by omega
    obtain ⟨rfl, rfl, rfl⟩ : n = f0 ∧ 1 = f1 ∧ 0 = f2 := fin_inj (HF.out.symm.trans HX.out)
    have tx := R1; obtain ⟨cR_b, cR_f, cR_0, cR_1⟩ := tx
    have tx := A1; obtain ⟨cA_b, cA_f, cA_0, cA_1⟩ := tx
    go_wp2_with fail
    refine bodyPost_ret (v := .tuple #[.agg #[.int .i64 n, .int .i64 1], .int .i64 0]) (by simp [results, Tryz.results33, go_sem, cR_b, cR_f, cR_0, cR_1, cA_b, cA_f, cA_0, cA_1]) rfl ⟨rfl, ?_⟩
    clear cR_b cR_f cR_0 cR_1 cA_b cA_f cA_0 cA_1
    exact (grB B1)
   ·
    have HF := Lib.hid (fin_far (show Cl.rB n 1 = false by rw [Bool.eq_false_iff]; intro h; have := rB_iff.1 h; omega))
    have g0 : ¬ n < 0 := by omega
    have g1 : 172800 < n := by omega
    obtain ⟨rfl, rfl, rfl⟩ : 0 = f0 ∧ 0 = f1 ∧ 1 = f2 := fin_inj (HF.out.symm.trans HX.out)
    have tx := R1; obtain ⟨cR_b, cR_f, cR_0, cR_1⟩ := tx
    have tx := A1; obtain ⟨cA_b, cA_f, cA_0, cA_1⟩ := tx
    go_wp2_with fail
    refine bodyPost_ret (v := .tuple #[.agg #[.int .i64 0, .int .i64 0], .int .i64 1]) (by simp [results, Tryz.results33, go_sem, cR_b, cR_f, cR_0, cR_1, cA_b, cA_f, cA_0, cA_1]) rfl ⟨rfl, ?_⟩
    clear cR_b cR_f cR_0 cR_1 cA_b cA_f cA_0 cA_1
    exact (grB B1)
  ·
   have HF := Lib.hid (fin_far (show Cl.rB n 1 = false by rw [Bool.eq_false_iff]; intro h; have := rB_iff.1 h; omega))
   have g0 : n < 0 := by omega
   obtain ⟨rfl, rfl, rfl⟩ : 0 = f0 ∧ 0 = f1 ∧ 1 = f2 := fin_inj (HF.out.symm.trans HX.out)
   have tx := R1; obtain ⟨cR_b, cR_f, cR_0, cR_1⟩ := tx
   have tx := A1; obtain ⟨cA_b, cA_f, cA_0, cA_1⟩ := tx
   go_wp2_with fail
   refine bodyPost_ret (v := .tuple #[.agg #[.int .i64 0, .int .i64 0], .int .i64 1]) (by simp [results, Tryz.results33, go_sem, cR_b, cR_f, cR_0, cR_1, cA_b, cA_f, cA_0, cA_1]) rfl ⟨rfl, ?_⟩
   clear cR_b cR_f cR_0 cR_1 cA_b cA_f cA_0 cA_1
   exact (grB B1)
 ·
  have HF := Lib.hid (fin_err (n := n) (b := 1) hq)
  have g1 : (q == 0) = false := beq_eq_false_iff_ne.2 hq
  have g2 : (q != 0) = true := by unfold bne; rw [g1]; rfl
  obtain ⟨rfl, rfl, rfl⟩ : 0 = f0 ∧ 0 = f1 ∧ q = f2 := fin_inj (HF.out.symm.trans HX.out)
  have tx := R1; obtain ⟨cR_b, cR_f, cR_0, cR_1⟩ := tx
  have tx := A1; obtain ⟨cA_b, cA_f, cA_0, cA_1⟩ := tx
  go_wp2_with fail
  refine bodyPost_ret (v := .tuple #[.agg #[.int .i64 0, .int .i64 0], .int .i64 q]) (by simp [results, Tryz.results33, go_sem, cR_b, cR_f, cR_0, cR_1, cA_b, cA_f, cA_0, cA_1]) rfl ⟨rfl, ?_⟩
  clear cR_b cR_f cR_0 cR_1 cA_b cA_f cA_0 cA_1
  exact (grB B1)
set_option maxHeartbeats 4000000 in
set_option maxRecDepth 100000 in
theorem kread_117 (s : ByteArray) (d : ByteArray) (ls : 0 < (s.size : Int)) (lm : (s.size : Int) ≤ 600) (IX : ∀ W, Sem.run Tryz.prog (Instr.index 9 (.string s) (.int .i64 ((s.size : Int) - 1))) W = .ok (.int .u8 117) W) (SL : ∀ W, Sem.run Tryz.prog (Instr.slice 9 (.string s) none (some (.int .i64 ((s.size : Int) - 1))) none) W = .ok (.string d) W) (n q : Int) (w : World) (CR : Hid (∀ W, Calls Tryz.prog 63 #[.string d] W fun e w' => e = .returned (.tuple #[.int .i64 n, .int .i64 q]) ∧ Below W.heap.size W w')) :
  Calls Tryz.prog 33 #[.string s] w fun e w' => e = .returned (.tuple #[.agg #[.int .i64 (Cl.fin n q 2).1, .int .i64 (Cl.fin n q 2).2.1], .int .i64 (Cl.fin n q 2).2.2]) ∧ Below w.heap.size w w' := by
 obtain ⟨f0, f1, f2, hF⟩ : ∃ f0 f1 f2, Cl.fin n q 2 = (f0, f1, f2) := ⟨_, _, _, rfl⟩
 rw [hF]
 have HX := Lib.hid hF; clear hF
 go_enter Tryz.func33, Tryz.ntmps33
 go_wp2_with fail
 refine (CR.out _).mono ?_; rintro e w1 ⟨rfl, b1⟩
 have d1 : Below w.heap.size w w1 := below_step gr0 b1
 have B1 := Lib.hid d1
 have R1 : Bk2 w1 (w.heap.size) (.int .i64 0) (.int .i64 0) := by refine Bk2.of b1 (by simp <;> omega) (by intro j; simp [go_sem]) ?_ ?_ <;> simp [go_sem]
 have A1 : Bk2 w1 (w.heap.size + 1) (.int .i64 0) (.int .i64 2) := by refine Bk2.of b1 (by simp <;> omega) (by intro j; simp [go_sem]) ?_ ?_ <;> simp [go_sem]
 clear b1 d1
 by_cases hq : q = 0
 ·
  subst hq
  by_cases h0 : 0 ≤ n
  ·
   by_cases h1 : n ≤ 172800
   ·
    have HF := Lib.hid (fin_ok (show Cl.rB n 2 = true from rB_iff.2 ⟨h0, h1, by omega, by omega⟩))
    have g0 : ¬ n < 0 := by omega
    have g1 : ¬ 172800 < n := by omega
    obtain ⟨rfl, rfl, rfl⟩ : n = f0 ∧ 2 = f1 ∧ 0 = f2 := fin_inj (HF.out.symm.trans HX.out)
    have tx := R1; obtain ⟨cR_b, cR_f, cR_0, cR_1⟩ := tx
    have tx := A1; obtain ⟨cA_b, cA_f, cA_0, cA_1⟩ := tx
    go_wp2_with fail
    refine bodyPost_ret (v := .tuple #[.agg #[.int .i64 n, .int .i64 2], .int .i64 0]) (by simp [results, Tryz.results33, go_sem, cR_b, cR_f, cR_0, cR_1, cA_b, cA_f, cA_0, cA_1]) rfl ⟨rfl, ?_⟩
    clear cR_b cR_f cR_0 cR_1 cA_b cA_f cA_0 cA_1
    exact (grB B1)
   ·
    have HF := Lib.hid (fin_far (show Cl.rB n 2 = false by rw [Bool.eq_false_iff]; intro h; have := rB_iff.1 h; omega))
    have g0 : ¬ n < 0 := by omega
    have g1 : 172800 < n := by omega
    obtain ⟨rfl, rfl, rfl⟩ : 0 = f0 ∧ 0 = f1 ∧ 1 = f2 := fin_inj (HF.out.symm.trans HX.out)
    have tx := R1; obtain ⟨cR_b, cR_f, cR_0, cR_1⟩ := tx
    have tx := A1; obtain ⟨cA_b, cA_f, cA_0, cA_1⟩ := tx
    go_wp2_with fail
    refine bodyPost_ret (v := .tuple #[.agg #[.int .i64 0, .int .i64 0], .int .i64 1]) (by simp [results, Tryz.results33, go_sem, cR_b, cR_f, cR_0, cR_1, cA_b, cA_f, cA_0, cA_1]) rfl ⟨rfl, ?_⟩
    clear cR_b cR_f cR_0 cR_1 cA_b cA_f cA_0 cA_1
    exact (grB B1)
  ·
   have HF := Lib.hid (fin_far (show Cl.rB n 2 = false by rw [Bool.eq_false_iff]; intro h; have := rB_iff.1 h; omega))
   have g0 : n < 0 := by omega
   obtain ⟨rfl, rfl, rfl⟩ : 0 = f0 ∧ 0 = f1 ∧ 1 = f2 := fin_inj (HF.out.symm.trans HX.out)
   have tx := R1; obtain ⟨cR_b, cR_f, cR_0, cR_1⟩ := tx
   have tx := A1; obtain ⟨cA_b, cA_f, cA_0, cA_1⟩ := tx
   go_wp2_with fail
   refine bodyPost_ret (v := .tuple #[.agg #[.int .i64 0, .int .i64 0], .int .i64 1]) (by simp [results, Tryz.results33, go_sem, cR_b, cR_f, cR_0, cR_1, cA_b, cA_f, cA_0, cA_1]) rfl ⟨rfl, ?_⟩
   clear cR_b cR_f cR_0 cR_1 cA_b cA_f cA_0 cA_1
   exact (grB B1)
 ·
  have HF := Lib.hid (fin_err (n := n) (b := 2) hq)
  have g1 : (q == 0) = false := beq_eq_false_iff_ne.2 hq
  have g2 : (q != 0) = true := by unfold bne; rw [g1]; rfl
  obtain ⟨rfl, rfl, rfl⟩ : 0 = f0 ∧ 0 = f1 ∧ q = f2 := fin_inj (HF.out.symm.trans HX.out)
  have tx := R1; obtain ⟨cR_b, cR_f, cR_0, cR_1⟩ := tx
  have tx := A1; obtain ⟨cA_b, cA_f, cA_0, cA_1⟩ := tx
  go_wp2_with fail
  refine bodyPost_ret (v := .tuple #[.agg #[.int .i64 0, .int .i64 0], .int .i64 q]) (by simp [results, Tryz.results33, go_sem, cR_b, cR_f, cR_0, cR_1, cA_b, cA_f, cA_0, cA_1]) rfl ⟨rfl, ?_⟩
  clear cR_b cR_f cR_0 cR_1 cA_b cA_f cA_0 cA_1
  exact (grB B1)
set_option maxHeartbeats 4000000 in
set_option maxRecDepth 100000 in
theorem kread_85 (s : ByteArray) (d : ByteArray) (ls : 0 < (s.size : Int)) (lm : (s.size : Int) ≤ 600) (IX : ∀ W, Sem.run Tryz.prog (Instr.index 9 (.string s) (.int .i64 ((s.size : Int) - 1))) W = .ok (.int .u8 85) W) (SL : ∀ W, Sem.run Tryz.prog (Instr.slice 9 (.string s) none (some (.int .i64 ((s.size : Int) - 1))) none) W = .ok (.string d) W) (n q : Int) (w : World) (CR : Hid (∀ W, Calls Tryz.prog 63 #[.string d] W fun e w' => e = .returned (.tuple #[.int .i64 n, .int .i64 q]) ∧ Below W.heap.size W w')) :
  Calls Tryz.prog 33 #[.string s] w fun e w' => e = .returned (.tuple #[.agg #[.int .i64 (Cl.fin n q 2).1, .int .i64 (Cl.fin n q 2).2.1], .int .i64 (Cl.fin n q 2).2.2]) ∧ Below w.heap.size w w' := by
 obtain ⟨f0, f1, f2, hF⟩ : ∃ f0 f1 f2, Cl.fin n q 2 = (f0, f1, f2) := ⟨_, _, _, rfl⟩
 rw [hF]
 have HX := Lib.hid hF; clear hF
 go_enter Tryz.func33, Tryz.ntmps33
 go_wp2_with fail
 refine (CR.out _).mono ?_; rintro e w1 ⟨rfl, b1⟩
 have d1 : Below w.heap.size w w1 := below_step gr0 b1
 have B1 := Lib.hid d1
 have R1 : Bk2 w1 (w.heap.size) (.int .i64 0) (.int .i64 0) := by refine Bk2.of b1 (by simp <;> omega) (by intro j; simp [go_sem]) ?_ ?_ <;> simp [go_sem]
 have A1 : Bk2 w1 (w.heap.size + 1) (.int .i64 0) (.int .i64 2) := by refine Bk2.of b1 (by simp <;> omega) (by intro j; simp [go_sem]) ?_ ?_ <;> simp [go_sem]
 clear b1 d1
 by_cases hq : q = 0
 ·
  subst hq
  by_cases h0 : 0 ≤ n
  ·
   by_cases h1 : n ≤ 172800
   ·
    have HF := Lib.hid (fin_ok (show Cl.rB n 2 = true from rB_iff.2 ⟨h0, h1, by omega, by omega⟩))
    have g0 : ¬ n < 0 := by omega
    have g1 : ¬ 172800 < n := by omega
    obtain ⟨rfl, rfl, rfl⟩ : n = f0 ∧ 2 = f1 ∧ 0 = f2 := fin_inj (HF.out.symm.trans HX.out)
    have tx := R1; obtain ⟨cR_b, cR_f, cR_0, cR_1⟩ := tx
    have tx := A1; obtain ⟨cA_b, cA_f, cA_0, cA_1⟩ := tx
    go_wp2_with fail
    refine bodyPost_ret (v := .tuple #[.agg #[.int .i64 n, .int .i64 2], .int .i64 0]) (by simp [results, Tryz.results33, go_sem, cR_b, cR_f, cR_0, cR_1, cA_b, cA_f, cA_0, cA_1]) rfl ⟨rfl, ?_⟩
    clear cR_b cR_f cR_0 cR_1 cA_b cA_f cA_0 cA_1
    exact (grB B1)
   ·
    have HF := Lib.hid (fin_far (show Cl.rB n 2 = false by rw [Bool.eq_false_iff]; intro h; have := rB_iff.1 h; omega))
    have g0 : ¬ n < 0 := by omega
    have g1 : 172800 < n := by omega
    obtain ⟨rfl, rfl, rfl⟩ : 0 = f0 ∧ 0 = f1 ∧ 1 = f2 := fin_inj (HF.out.symm.trans HX.out)
    have tx := R1; obtain ⟨cR_b, cR_f, cR_0, cR_1⟩ := tx
    have tx := A1; obtain ⟨cA_b, cA_f, cA_0, cA_1⟩ := tx
    go_wp2_with fail
    refine bodyPost_ret (v := .tuple #[.agg #[.int .i64 0, .int .i64 0], .int .i64 1]) (by simp [results, Tryz.results33, go_sem, cR_b, cR_f, cR_0, cR_1, cA_b, cA_f, cA_0, cA_1]) rfl ⟨rfl, ?_⟩
    clear cR_b cR_f cR_0 cR_1 cA_b cA_f cA_0 cA_1
    exact (grB B1)
  ·
   have HF := Lib.hid (fin_far (show Cl.rB n 2 = false by rw [Bool.eq_false_iff]; intro h; have := rB_iff.1 h; omega))
   have g0 : n < 0 := by omega
   obtain ⟨rfl, rfl, rfl⟩ : 0 = f0 ∧ 0 = f1 ∧ 1 = f2 := fin_inj (HF.out.symm.trans HX.out)
   have tx := R1; obtain ⟨cR_b, cR_f, cR_0, cR_1⟩ := tx
   have tx := A1; obtain ⟨cA_b, cA_f, cA_0, cA_1⟩ := tx
   go_wp2_with fail
   refine bodyPost_ret (v := .tuple #[.agg #[.int .i64 0, .int .i64 0], .int .i64 1]) (by simp [results, Tryz.results33, go_sem, cR_b, cR_f, cR_0, cR_1, cA_b, cA_f, cA_0, cA_1]) rfl ⟨rfl, ?_⟩
   clear cR_b cR_f cR_0 cR_1 cA_b cA_f cA_0 cA_1
   exact (grB B1)
 ·
  have HF := Lib.hid (fin_err (n := n) (b := 2) hq)
  have g1 : (q == 0) = false := beq_eq_false_iff_ne.2 hq
  have g2 : (q != 0) = true := by unfold bne; rw [g1]; rfl
  obtain ⟨rfl, rfl, rfl⟩ : 0 = f0 ∧ 0 = f1 ∧ q = f2 := fin_inj (HF.out.symm.trans HX.out)
  have tx := R1; obtain ⟨cR_b, cR_f, cR_0, cR_1⟩ := tx
  have tx := A1; obtain ⟨cA_b, cA_f, cA_0, cA_1⟩ := tx
  go_wp2_with fail
  refine bodyPost_ret (v := .tuple #[.agg #[.int .i64 0, .int .i64 0], .int .i64 q]) (by simp [results, Tryz.results33, go_sem, cR_b, cR_f, cR_0, cR_1, cA_b, cA_f, cA_0, cA_1]) rfl ⟨rfl, ?_⟩
  clear cR_b cR_f cR_0 cR_1 cA_b cA_f cA_0 cA_1
  exact (grB B1)
set_option maxHeartbeats 4000000 in
set_option maxRecDepth 100000 in
theorem kread_103 (s : ByteArray) (d : ByteArray) (ls : 0 < (s.size : Int)) (lm : (s.size : Int) ≤ 600) (IX : ∀ W, Sem.run Tryz.prog (Instr.index 9 (.string s) (.int .i64 ((s.size : Int) - 1))) W = .ok (.int .u8 103) W) (SL : ∀ W, Sem.run Tryz.prog (Instr.slice 9 (.string s) none (some (.int .i64 ((s.size : Int) - 1))) none) W = .ok (.string d) W) (n q : Int) (w : World) (CR : Hid (∀ W, Calls Tryz.prog 63 #[.string d] W fun e w' => e = .returned (.tuple #[.int .i64 n, .int .i64 q]) ∧ Below W.heap.size W w')) :
  Calls Tryz.prog 33 #[.string s] w fun e w' => e = .returned (.tuple #[.agg #[.int .i64 (Cl.fin n q 2).1, .int .i64 (Cl.fin n q 2).2.1], .int .i64 (Cl.fin n q 2).2.2]) ∧ Below w.heap.size w w' := by
 obtain ⟨f0, f1, f2, hF⟩ : ∃ f0 f1 f2, Cl.fin n q 2 = (f0, f1, f2) := ⟨_, _, _, rfl⟩
 rw [hF]
 have HX := Lib.hid hF; clear hF
 go_enter Tryz.func33, Tryz.ntmps33
 go_wp2_with fail
 refine (CR.out _).mono ?_; rintro e w1 ⟨rfl, b1⟩
 have d1 : Below w.heap.size w w1 := below_step gr0 b1
 have B1 := Lib.hid d1
 have R1 : Bk2 w1 (w.heap.size) (.int .i64 0) (.int .i64 0) := by refine Bk2.of b1 (by simp <;> omega) (by intro j; simp [go_sem]) ?_ ?_ <;> simp [go_sem]
 have A1 : Bk2 w1 (w.heap.size + 1) (.int .i64 0) (.int .i64 2) := by refine Bk2.of b1 (by simp <;> omega) (by intro j; simp [go_sem]) ?_ ?_ <;> simp [go_sem]
 clear b1 d1
 by_cases hq : q = 0
 ·
  subst hq
  by_cases h0 : 0 ≤ n
  ·
   by_cases h1 : n ≤ 172800
   ·
    have HF := Lib.hid (fin_ok (show Cl.rB n 2 = true from rB_iff.2 ⟨h0, h1, by omega, by omega⟩))
    have g0 : ¬ n < 0 := by omega
    have g1 : ¬ 172800 < n := by omega
    obtain ⟨rfl, rfl, rfl⟩ : n = f0 ∧ 2 = f1 ∧ 0 = f2 := fin_inj (HF.out.symm.trans HX.out)
    have tx := R1; obtain ⟨cR_b, cR_f, cR_0, cR_1⟩ := tx
    have tx := A1; obtain ⟨cA_b, cA_f, cA_0, cA_1⟩ := tx
    go_wp2_with fail
    refine bodyPost_ret (v := .tuple #[.agg #[.int .i64 n, .int .i64 2], .int .i64 0]) (by simp [results, Tryz.results33, go_sem, cR_b, cR_f, cR_0, cR_1, cA_b, cA_f, cA_0, cA_1]) rfl ⟨rfl, ?_⟩
    clear cR_b cR_f cR_0 cR_1 cA_b cA_f cA_0 cA_1
    exact (grB B1)
   ·
    have HF := Lib.hid (fin_far (show Cl.rB n 2 = false by rw [Bool.eq_false_iff]; intro h; have := rB_iff.1 h; omega))
    have g0 : ¬ n < 0 := by omega
    have g1 : 172800 < n := by omega
    obtain ⟨rfl, rfl, rfl⟩ : 0 = f0 ∧ 0 = f1 ∧ 1 = f2 := fin_inj (HF.out.symm.trans HX.out)
    have tx := R1; obtain ⟨cR_b, cR_f, cR_0, cR_1⟩ := tx
    have tx := A1; obtain ⟨cA_b, cA_f, cA_0, cA_1⟩ := tx
    go_wp2_with fail
    refine bodyPost_ret (v := .tuple #[.agg #[.int .i64 0, .int .i64 0], .int .i64 1]) (by simp [results, Tryz.results33, go_sem, cR_b, cR_f, cR_0, cR_1, cA_b, cA_f, cA_0, cA_1]) rfl ⟨rfl, ?_⟩
    clear cR_b cR_f cR_0 cR_1 cA_b cA_f cA_0 cA_1
    exact (grB B1)
  ·
   have HF := Lib.hid (fin_far (show Cl.rB n 2 = false by rw [Bool.eq_false_iff]; intro h; have := rB_iff.1 h; omega))
   have g0 : n < 0 := by omega
   obtain ⟨rfl, rfl, rfl⟩ : 0 = f0 ∧ 0 = f1 ∧ 1 = f2 := fin_inj (HF.out.symm.trans HX.out)
   have tx := R1; obtain ⟨cR_b, cR_f, cR_0, cR_1⟩ := tx
   have tx := A1; obtain ⟨cA_b, cA_f, cA_0, cA_1⟩ := tx
   go_wp2_with fail
   refine bodyPost_ret (v := .tuple #[.agg #[.int .i64 0, .int .i64 0], .int .i64 1]) (by simp [results, Tryz.results33, go_sem, cR_b, cR_f, cR_0, cR_1, cA_b, cA_f, cA_0, cA_1]) rfl ⟨rfl, ?_⟩
   clear cR_b cR_f cR_0 cR_1 cA_b cA_f cA_0 cA_1
   exact (grB B1)
 ·
  have HF := Lib.hid (fin_err (n := n) (b := 2) hq)
  have g1 : (q == 0) = false := beq_eq_false_iff_ne.2 hq
  have g2 : (q != 0) = true := by unfold bne; rw [g1]; rfl
  obtain ⟨rfl, rfl, rfl⟩ : 0 = f0 ∧ 0 = f1 ∧ q = f2 := fin_inj (HF.out.symm.trans HX.out)
  have tx := R1; obtain ⟨cR_b, cR_f, cR_0, cR_1⟩ := tx
  have tx := A1; obtain ⟨cA_b, cA_f, cA_0, cA_1⟩ := tx
  go_wp2_with fail
  refine bodyPost_ret (v := .tuple #[.agg #[.int .i64 0, .int .i64 0], .int .i64 q]) (by simp [results, Tryz.results33, go_sem, cR_b, cR_f, cR_0, cR_1, cA_b, cA_f, cA_0, cA_1]) rfl ⟨rfl, ?_⟩
  clear cR_b cR_f cR_0 cR_1 cA_b cA_f cA_0 cA_1
  exact (grB B1)
set_option maxHeartbeats 4000000 in
set_option maxRecDepth 100000 in
theorem kread_71 (s : ByteArray) (d : ByteArray) (ls : 0 < (s.size : Int)) (lm : (s.size : Int) ≤ 600) (IX : ∀ W, Sem.run Tryz.prog (Instr.index 9 (.string s) (.int .i64 ((s.size : Int) - 1))) W = .ok (.int .u8 71) W) (SL : ∀ W, Sem.run Tryz.prog (Instr.slice 9 (.string s) none (some (.int .i64 ((s.size : Int) - 1))) none) W = .ok (.string d) W) (n q : Int) (w : World) (CR : Hid (∀ W, Calls Tryz.prog 63 #[.string d] W fun e w' => e = .returned (.tuple #[.int .i64 n, .int .i64 q]) ∧ Below W.heap.size W w')) :
  Calls Tryz.prog 33 #[.string s] w fun e w' => e = .returned (.tuple #[.agg #[.int .i64 (Cl.fin n q 2).1, .int .i64 (Cl.fin n q 2).2.1], .int .i64 (Cl.fin n q 2).2.2]) ∧ Below w.heap.size w w' := by
 obtain ⟨f0, f1, f2, hF⟩ : ∃ f0 f1 f2, Cl.fin n q 2 = (f0, f1, f2) := ⟨_, _, _, rfl⟩
 rw [hF]
 have HX := Lib.hid hF; clear hF
 go_enter Tryz.func33, Tryz.ntmps33
 go_wp2_with fail
 refine (CR.out _).mono ?_; rintro e w1 ⟨rfl, b1⟩
 have d1 : Below w.heap.size w w1 := below_step gr0 b1
 have B1 := Lib.hid d1
 have R1 : Bk2 w1 (w.heap.size) (.int .i64 0) (.int .i64 0) := by refine Bk2.of b1 (by simp <;> omega) (by intro j; simp [go_sem]) ?_ ?_ <;> simp [go_sem]
 have A1 : Bk2 w1 (w.heap.size + 1) (.int .i64 0) (.int .i64 2) := by refine Bk2.of b1 (by simp <;> omega) (by intro j; simp [go_sem]) ?_ ?_ <;> simp [go_sem]
 clear b1 d1
 by_cases hq : q = 0
 ·
  subst hq
  by_cases h0 : 0 ≤ n
  ·
   by_cases h1 : n ≤ 172800
   ·
    have HF := Lib.hid (fin_ok (show Cl.rB n 2 = true from rB_iff.2 ⟨h0, h1, by omega, by omega⟩))
    have g0 : ¬ n < 0 := by omega
    have g1 : ¬ 172800 < n := by omega
    obtain ⟨rfl, rfl, rfl⟩ : n = f0 ∧ 2 = f1 ∧ 0 = f2 := fin_inj (HF.out.symm.trans HX.out)
    have tx := R1; obtain ⟨cR_b, cR_f, cR_0, cR_1⟩ := tx
    have tx := A1; obtain ⟨cA_b, cA_f, cA_0, cA_1⟩ := tx
    go_wp2_with fail
    refine bodyPost_ret (v := .tuple #[.agg #[.int .i64 n, .int .i64 2], .int .i64 0]) (by simp [results, Tryz.results33, go_sem, cR_b, cR_f, cR_0, cR_1, cA_b, cA_f, cA_0, cA_1]) rfl ⟨rfl, ?_⟩
    clear cR_b cR_f cR_0 cR_1 cA_b cA_f cA_0 cA_1
    exact (grB B1)
   ·
    have HF := Lib.hid (fin_far (show Cl.rB n 2 = false by rw [Bool.eq_false_iff]; intro h; have := rB_iff.1 h; omega))
    have g0 : ¬ n < 0 := by omega
    have g1 : 172800 < n := by omega
    obtain ⟨rfl, rfl, rfl⟩ : 0 = f0 ∧ 0 = f1 ∧ 1 = f2 := fin_inj (HF.out.symm.trans HX.out)
    have tx := R1; obtain ⟨cR_b, cR_f, cR_0, cR_1⟩ := tx
    have tx := A1; obtain ⟨cA_b, cA_f, cA_0, cA_1⟩ := tx
    go_wp2_with fail
    refine bodyPost_ret (v := .tuple #[.agg #[.int .i64 0, .int .i64 0], .int .i64 1]) (by simp [results, Tryz.results33, go_sem, cR_b, cR_f, cR_0, cR_1, cA_b, cA_f, cA_0, cA_1]) rfl ⟨rfl, ?_⟩
    clear cR_b cR_f cR_0 cR_1 cA_b cA_f cA_0 cA_1
    exact (grB B1)
  ·
   have HF := Lib.hid (fin_far (show Cl.rB n 2 = false by rw [Bool.eq_false_iff]; intro h; have := rB_iff.1 h; omega))
   have g0 : n < 0 := by omega
   obtain ⟨rfl, rfl, rfl⟩ : 0 = f0 ∧ 0 = f1 ∧ 1 = f2 := fin_inj (HF.out.symm.trans HX.out)
   have tx := R1; obtain ⟨cR_b, cR_f, cR_0, cR_1⟩ := tx
   have tx := A1; obtain ⟨cA_b, cA_f, cA_0, cA_1⟩ := tx
   go_wp2_with fail
   refine bodyPost_ret (v := .tuple #[.agg #[.int .i64 0, .int .i64 0], .int .i64 1]) (by simp [results, Tryz.results33, go_sem, cR_b, cR_f, cR_0, cR_1, cA_b, cA_f, cA_0, cA_1]) rfl ⟨rfl, ?_⟩
   clear cR_b cR_f cR_0 cR_1 cA_b cA_f cA_0 cA_1
   exact (grB B1)
 ·
  have HF := Lib.hid (fin_err (n := n) (b := 2) hq)
  have g1 : (q == 0) = false := beq_eq_false_iff_ne.2 hq
  have g2 : (q != 0) = true := by unfold bne; rw [g1]; rfl
  obtain ⟨rfl, rfl, rfl⟩ : 0 = f0 ∧ 0 = f1 ∧ q = f2 := fin_inj (HF.out.symm.trans HX.out)
  have tx := R1; obtain ⟨cR_b, cR_f, cR_0, cR_1⟩ := tx
  have tx := A1; obtain ⟨cA_b, cA_f, cA_0, cA_1⟩ := tx
  go_wp2_with fail
  refine bodyPost_ret (v := .tuple #[.agg #[.int .i64 0, .int .i64 0], .int .i64 q]) (by simp [results, Tryz.results33, go_sem, cR_b, cR_f, cR_0, cR_1, cA_b, cA_f, cA_0, cA_1]) rfl ⟨rfl, ?_⟩
  clear cR_b cR_f cR_0 cR_1 cA_b cA_f cA_0 cA_1
  exact (grB B1)
set_option maxHeartbeats 4000000 in
set_option maxRecDepth 100000 in
theorem kread_122 (s : ByteArray) (d : ByteArray) (ls : 0 < (s.size : Int)) (lm : (s.size : Int) ≤ 600) (IX : ∀ W, Sem.run Tryz.prog (Instr.index 9 (.string s) (.int .i64 ((s.size : Int) - 1))) W = .ok (.int .u8 122) W) (SL : ∀ W, Sem.run Tryz.prog (Instr.slice 9 (.string s) none (some (.int .i64 ((s.size : Int) - 1))) none) W = .ok (.string d) W) (n q : Int) (w : World) (CR : Hid (∀ W, Calls Tryz.prog 63 #[.string d] W fun e w' => e = .returned (.tuple #[.int .i64 n, .int .i64 q]) ∧ Below W.heap.size W w')) :
  Calls Tryz.prog 33 #[.string s] w fun e w' => e = .returned (.tuple #[.agg #[.int .i64 (Cl.fin n q 2).1, .int .i64 (Cl.fin n q 2).2.1], .int .i64 (Cl.fin n q 2).2.2]) ∧ Below w.heap.size w w' := by
 obtain ⟨f0, f1, f2, hF⟩ : ∃ f0 f1 f2, Cl.fin n q 2 = (f0, f1, f2) := ⟨_, _, _, rfl⟩
 rw [hF]
 have HX := Lib.hid hF; clear hF
 go_enter Tryz.func33, Tryz.ntmps33
 go_wp2_with fail
 refine (CR.out _).mono ?_; rintro e w1 ⟨rfl, b1⟩
 have d1 : Below w.heap.size w w1 := below_step gr0 b1
 have B1 := Lib.hid d1
 have R1 : Bk2 w1 (w.heap.size) (.int .i64 0) (.int .i64 0) := by refine Bk2.of b1 (by simp <;> omega) (by intro j; simp [go_sem]) ?_ ?_ <;> simp [go_sem]
 have A1 : Bk2 w1 (w.heap.size + 1) (.int .i64 0) (.int .i64 2) := by refine Bk2.of b1 (by simp <;> omega) (by intro j; simp [go_sem]) ?_ ?_ <;> simp [go_sem]
 clear b1 d1
 by_cases hq : q = 0
 ·
  subst hq
  by_cases h0 : 0 ≤ n
  ·
   by_cases h1 : n ≤ 172800
   ·
    have HF := Lib.hid (fin_ok (show Cl.rB n 2 = true from rB_iff.2 ⟨h0, h1, by omega, by omega⟩))
    have g0 : ¬ n < 0 := by omega
    have g1 : ¬ 172800 < n := by omega
    obtain ⟨rfl, rfl, rfl⟩ : n = f0 ∧ 2 = f1 ∧ 0 = f2 := fin_inj (HF.out.symm.trans HX.out)
    have tx := R1; obtain ⟨cR_b, cR_f, cR_0, cR_1⟩ := tx
    have tx := A1; obtain ⟨cA_b, cA_f, cA_0, cA_1⟩ := tx
    go_wp2_with fail
    refine bodyPost_ret (v := .tuple #[.agg #[.int .i64 n, .int .i64 2], .int .i64 0]) (by simp [results, Tryz.results33, go_sem, cR_b, cR_f, cR_0, cR_1, cA_b, cA_f, cA_0, cA_1]) rfl ⟨rfl, ?_⟩
    clear cR_b cR_f cR_0 cR_1 cA_b cA_f cA_0 cA_1
    exact (grB B1)
   ·
    have HF := Lib.hid (fin_far (show Cl.rB n 2 = false by rw [Bool.eq_false_iff]; intro h; have := rB_iff.1 h; omega))
    have g0 : ¬ n < 0 := by omega
    have g1 : 172800 < n := by omega
    obtain ⟨rfl, rfl, rfl⟩ : 0 = f0 ∧ 0 = f1 ∧ 1 = f2 := fin_inj (HF.out.symm.trans HX.out)
    have tx := R1; obtain ⟨cR_b, cR_f, cR_0, cR_1⟩ := tx
    have tx := A1; obtain ⟨cA_b, cA_f, cA_0, cA_1⟩ := tx
    go_wp2_with fail
    refine bodyPost_ret (v := .tuple #[.agg #[.int .i64 0, .int .i64 0], .int .i64 1]) (by simp [results, Tryz.results33, go_sem, cR_b, cR_f, cR_0, cR_1, cA_b, cA_f, cA_0, cA_1]) rfl ⟨rfl, ?_⟩
    clear cR_b cR_f cR_0 cR_1 cA_b cA_f cA_0 cA_1
    exact (grB B1)
  ·
   have HF := Lib.hid (fin_far (show Cl.rB n 2 = false by rw [Bool.eq_false_iff]; intro h; have := rB_iff.1 h; omega))
   have g0 : n < 0 := by omega
   obtain ⟨rfl, rfl, rfl⟩ : 0 = f0 ∧ 0 = f1 ∧ 1 = f2 := fin_inj (HF.out.symm.trans HX.out)
   have tx := R1; obtain ⟨cR_b, cR_f, cR_0, cR_1⟩ := tx
   have tx := A1; obtain ⟨cA_b, cA_f, cA_0, cA_1⟩ := tx
   go_wp2_with fail
   refine bodyPost_ret (v := .tuple #[.agg #[.int .i64 0, .int .i64 0], .int .i64 1]) (by simp [results, Tryz.results33, go_sem, cR_b, cR_f, cR_0, cR_1, cA_b, cA_f, cA_0, cA_1]) rfl ⟨rfl, ?_⟩
   clear cR_b cR_f cR_0 cR_1 cA_b cA_f cA_0 cA_1
   exact (grB B1)
 ·
  have HF := Lib.hid (fin_err (n := n) (b := 2) hq)
  have g1 : (q == 0) = false := beq_eq_false_iff_ne.2 hq
  have g2 : (q != 0) = true := by unfold bne; rw [g1]; rfl
  obtain ⟨rfl, rfl, rfl⟩ : 0 = f0 ∧ 0 = f1 ∧ q = f2 := fin_inj (HF.out.symm.trans HX.out)
  have tx := R1; obtain ⟨cR_b, cR_f, cR_0, cR_1⟩ := tx
  have tx := A1; obtain ⟨cA_b, cA_f, cA_0, cA_1⟩ := tx
  go_wp2_with fail
  refine bodyPost_ret (v := .tuple #[.agg #[.int .i64 0, .int .i64 0], .int .i64 q]) (by simp [results, Tryz.results33, go_sem, cR_b, cR_f, cR_0, cR_1, cA_b, cA_f, cA_0, cA_1]) rfl ⟨rfl, ?_⟩
  clear cR_b cR_f cR_0 cR_1 cA_b cA_f cA_0 cA_1
  exact (grB B1)
set_option maxHeartbeats 4000000 in
set_option maxRecDepth 100000 in
theorem kread_90 (s : ByteArray) (d : ByteArray) (ls : 0 < (s.size : Int)) (lm : (s.size : Int) ≤ 600) (IX : ∀ W, Sem.run Tryz.prog (Instr.index 9 (.string s) (.int .i64 ((s.size : Int) - 1))) W = .ok (.int .u8 90) W) (SL : ∀ W, Sem.run Tryz.prog (Instr.slice 9 (.string s) none (some (.int .i64 ((s.size : Int) - 1))) none) W = .ok (.string d) W) (n q : Int) (w : World) (CR : Hid (∀ W, Calls Tryz.prog 63 #[.string d] W fun e w' => e = .returned (.tuple #[.int .i64 n, .int .i64 q]) ∧ Below W.heap.size W w')) :
  Calls Tryz.prog 33 #[.string s] w fun e w' => e = .returned (.tuple #[.agg #[.int .i64 (Cl.fin n q 2).1, .int .i64 (Cl.fin n q 2).2.1], .int .i64 (Cl.fin n q 2).2.2]) ∧ Below w.heap.size w w' := by
 obtain ⟨f0, f1, f2, hF⟩ : ∃ f0 f1 f2, Cl.fin n q 2 = (f0, f1, f2) := ⟨_, _, _, rfl⟩
 rw [hF]
 have HX := Lib.hid hF; clear hF
 go_enter Tryz.func33, Tryz.ntmps33
 go_wp2_with fail
 refine (CR.out _).mono ?_; rintro e w1 ⟨rfl, b1⟩
 have d1 : Below w.heap.size w w1 := below_step gr0 b1
 have B1 := Lib.hid d1
 have R1 : Bk2 w1 (w.heap.size) (.int .i64 0) (.int .i64 0) := by refine Bk2.of b1 (by simp <;> omega) (by intro j; simp [go_sem]) ?_ ?_ <;> simp [go_sem]
 have A1 : Bk2 w1 (w.heap.size + 1) (.int .i64 0) (.int .i64 2) := by refine Bk2.of b1 (by simp <;> omega) (by intro j; simp [go_sem]) ?_ ?_ <;> simp [go_sem]
 clear b1 d1
 by_cases hq : q = 0
 ·
  subst hq
  by_cases h0 : 0 ≤ n
  ·
   by_cases h1 : n ≤ 172800
   ·
    have HF := Lib.hid (fin_ok (show Cl.rB n 2 = true from rB_iff.2 ⟨h0, h1, by omega, by omega⟩))
    have g0 : ¬ n < 0 := by omega
    have g1 : ¬ 172800 < n := by omega
    obtain ⟨rfl, rfl, rfl⟩ : n = f0 ∧ 2 = f1 ∧ 0 = f2 := fin_inj (HF.out.symm.trans HX.out)
    have tx := R1; obtain ⟨cR_b, cR_f, cR_0, cR_1⟩ := tx
    have tx := A1; obtain ⟨cA_b, cA_f, cA_0, cA_1⟩ := tx
    go_wp2_with fail
    refine bodyPost_ret (v := .tuple #[.agg #[.int .i64 n, .int .i64 2], .int .i64 0]) (by simp [results, Tryz.results33, go_sem, cR_b, cR_f, cR_0, cR_1, cA_b, cA_f, cA_0, cA_1]) rfl ⟨rfl, ?_⟩
    clear cR_b cR_f cR_0 cR_1 cA_b cA_f cA_0 cA_1
    exact (grB B1)
   ·
    have HF := Lib.hid (fin_far (show Cl.rB n 2 = false by rw [Bool.eq_false_iff]; intro h; have := rB_iff.1 h; omega))
    have g0 : ¬ n < 0 := by omega
    have g1 : 172800 < n := by omega
    obtain ⟨rfl, rfl, rfl⟩ : 0 = f0 ∧ 0 = f1 ∧ 1 = f2 := fin_inj (HF.out.symm.trans HX.out)
    have tx := R1; obtain ⟨cR_b, cR_f, cR_0, cR_1⟩ := tx
    have tx := A1; obtain ⟨cA_b, cA_f, cA_0, cA_1⟩ := tx
    go_wp2_with fail
    refine bodyPost_ret (v := .tuple #[.agg #[.int .i64 0, .int .i64 0], .int .i64 1]) (by simp [results, Tryz.results33, go_sem, cR_b, cR_f, cR_0, cR_1, cA_b, cA_f, cA_0, cA_1]) rfl ⟨rfl, ?_⟩
    clear cR_b cR_f cR_0 cR_1 cA_b cA_f cA_0 cA_1
    exact (grB B1)
  ·
   have HF := Lib.hid (fin_far (show Cl.rB n 2 = false by rw [Bool.eq_false_iff]; intro h; have := rB_iff.1 h; omega))
   have g0 : n < 0 := by omega
   obtain ⟨rfl, rfl, rfl⟩ : 0 = f0 ∧ 0 = f1 ∧ 1 = f2 := fin_inj (HF.out.symm.trans HX.out)
   have tx := R1; obtain ⟨cR_b, cR_f, cR_0, cR_1⟩ := tx
   have tx := A1; obtain ⟨cA_b, cA_f, cA_0, cA_1⟩ := tx
   go_wp2_with fail
   refine bodyPost_ret (v := .tuple #[.agg #[.int .i64 0, .int .i64 0], .int .i64 1]) (by simp [results, Tryz.results33, go_sem, cR_b, cR_f, cR_0, cR_1, cA_b, cA_f, cA_0, cA_1]) rfl ⟨rfl, ?_⟩
   clear cR_b cR_f cR_0 cR_1 cA_b cA_f cA_0 cA_1
   exact (grB B1)
 ·
  have HF := Lib.hid (fin_err (n := n) (b := 2) hq)
  have g1 : (q == 0) = false := beq_eq_false_iff_ne.2 hq
  have g2 : (q != 0) = true := by unfold bne; rw [g1]; rfl
  obtain ⟨rfl, rfl, rfl⟩ : 0 = f0 ∧ 0 = f1 ∧ q = f2 := fin_inj (HF.out.symm.trans HX.out)
  have tx := R1; obtain ⟨cR_b, cR_f, cR_0, cR_1⟩ := tx
  have tx := A1; obtain ⟨cA_b, cA_f, cA_0, cA_1⟩ := tx
  go_wp2_with fail
  refine bodyPost_ret (v := .tuple #[.agg #[.int .i64 0, .int .i64 0], .int .i64 q]) (by simp [results, Tryz.results33, go_sem, cR_b, cR_f, cR_0, cR_1, cA_b, cA_f, cA_0, cA_1]) rfl ⟨rfl, ?_⟩
  clear cR_b cR_f cR_0 cR_1 cA_b cA_f cA_0 cA_1
  exact (grB B1)
end Go.Proofs.YtpggfhmnhbnefaaGreatDoor
