/- Joined: RkD, RuC, Liv15, WdF. -/
import Derived.Test.YtpggfhmnhbnefaaGreatDoorBd01
import Derived.Test.YtpggfhmnhbnefaaGreatDoorBd25
import Derived.Test.YtpggfhmnhbnefaaGreatDoorBd23
import Derived.Test.YtpggfhmnhbnefaaGreatDoorBd24
import Derived.Test.YtpggfhmnhbnefaaGreatDoorBd12
import Derived.Lib.Builder
set_option linter.unusedVariables false
set_option linter.unusedSimpArgs false
namespace Go.Proofs.YtpggfhmnhbnefaaGreatDoor
open Go.RowKit Go.Sort
set_option maxHeartbeats 4000000 in
set_option maxRecDepth 100000 in
theorem kread_nil (s : ByteArray) (ls : ¬ 0 < (s.size : Int)) (n q : Int) (w : World) (CR : Hid (∀ W, Calls Tryz.prog 63 #[.string s] W fun e w' => e = .returned (.tuple #[.int .i64 n, .int .i64 q]) ∧ Below W.heap.size W w')) :
  Calls Tryz.prog 33 #[.string s] w fun e w' => e = .returned (.tuple #[.agg #[.int .i64 (Cl.fin n q 0).1, .int .i64 (Cl.fin n q 0).2.1], .int .i64 (Cl.fin n q 0).2.2]) ∧ Below w.heap.size w w' := by
 obtain ⟨f0, f1, f2, hF⟩ : ∃ f0 f1 f2, Cl.fin n q 0 = (f0, f1, f2) := ⟨_, _, _, rfl⟩
 rw [hF]
 have HX := Lib.hid hF; clear hF
 go_enter Tryz.func33, Tryz.ntmps33
 go_wp2_with fail
 refine (CR.out _).mono ?_; rintro e w1 ⟨rfl, b1⟩
 have d1 : Below w.heap.size w w1 := below_step gr0 b1
 have B1 := Lib.hid d1
 have R1 : Bk2 w1 (w.heap.size) (.int .i64 0) (.int .i64 0) := by refine Bk2.of b1 (by simp <;> omega) (by intro j; simp [go_sem]) ?_ ?_ <;> simp [go_sem]
 have A1 : Bk2 w1 (w.heap.size + 1) (.int .i64 0) (.int .i64 0) := by refine Bk2.of b1 (by simp <;> omega) (by intro j; simp [go_sem]) ?_ ?_ <;> simp [go_sem]
 clear b1 d1
 by_cases hq : q = 0
 ·
  subst hq
  by_cases h0 : 0 ≤ n
  ·
   by_cases h1 : n ≤ 172800
   ·
    have HF := Lib.hid (fin_ok (show Cl.rB n 0 = true from rB_iff.2 ⟨h0, h1, by omega, by omega⟩))
    have g0 : ¬ n < 0 := by omega
    have g1 : ¬ 172800 < n := by omega
    obtain ⟨rfl, rfl, rfl⟩ : n = f0 ∧ 0 = f1 ∧ 0 = f2 := fin_inj (HF.out.symm.trans HX.out)
    have tx := R1; obtain ⟨cR_b, cR_f, cR_0, cR_1⟩ := tx
    have tx := A1; obtain ⟨cA_b, cA_f, cA_0, cA_1⟩ := tx
    go_wp2_with fail
    refine bodyPost_ret (v := .tuple #[.agg #[.int .i64 n, .int .i64 0], .int .i64 0]) (by simp [results, Tryz.results33, go_sem, cR_b, cR_f, cR_0, cR_1, cA_b, cA_f, cA_0, cA_1]) rfl ⟨rfl, ?_⟩
    clear cR_b cR_f cR_0 cR_1 cA_b cA_f cA_0 cA_1
    exact (grB B1)
   ·
    have HF := Lib.hid (fin_far (show Cl.rB n 0 = false by rw [Bool.eq_false_iff]; intro h; have := rB_iff.1 h; omega))
    have g0 : ¬ n < 0 := by omega
    have g1 : 172800 < n := by omega
    obtain ⟨rfl, rfl, rfl⟩ : 0 = f0 ∧ 0 = f1 ∧ 1 = f2 := fin_inj (HF.out.symm.trans HX.out)
    have tx := R1; obtain ⟨cR_b, cR_f, cR_0, cR_1⟩ := tx
    have tx := A1; obtain ⟨cA_b, cA_f, cA_0, cA_1⟩ := tx
    go_wp2_with fail
    refine bodyPost_ret (v := .tuple #[.agg #[.int .i64 0, .int .i64 0], .int .i64 1]) (by simp [results, Tryz.results33, go_sem, cR_b, cR_f, cR_0, cR_1, cA_b, cA_f, cA_0, cA_1]) rfl ⟨rfl, ?_⟩
    clear cR_b cR_f cR_0 cR_1 cA_b cA_f cA_0 cA_1
    exact (grB B1)
  ·
   have HF := Lib.hid (fin_far (show Cl.rB n 0 = false by rw [Bool.eq_false_iff]; intro h; have := rB_iff.1 h; omega))
   have g0 : n < 0 := by omega
   obtain ⟨rfl, rfl, rfl⟩ : 0 = f0 ∧ 0 = f1 ∧ 1 = f2 := fin_inj (HF.out.symm.trans HX.out)
   have tx := R1; obtain ⟨cR_b, cR_f, cR_0, cR_1⟩ := tx
   have tx := A1; obtain ⟨cA_b, cA_f, cA_0, cA_1⟩ := tx
   go_wp2_with fail
   refine bodyPost_ret (v := .tuple #[.agg #[.int .i64 0, .int .i64 0], .int .i64 1]) (by simp [results, Tryz.results33, go_sem, cR_b, cR_f, cR_0, cR_1, cA_b, cA_f, cA_0, cA_1]) rfl ⟨rfl, ?_⟩
   clear cR_b cR_f cR_0 cR_1 cA_b cA_f cA_0 cA_1
   exact (grB B1)
 ·
  have HF := Lib.hid (fin_err (n := n) (b := 0) hq)
  have g1 : (q == 0) = false := beq_eq_false_iff_ne.2 hq
  have g2 : (q != 0) = true := by unfold bne; rw [g1]; rfl
  obtain ⟨rfl, rfl, rfl⟩ : 0 = f0 ∧ 0 = f1 ∧ q = f2 := fin_inj (HF.out.symm.trans HX.out)
  have tx := R1; obtain ⟨cR_b, cR_f, cR_0, cR_1⟩ := tx
  have tx := A1; obtain ⟨cA_b, cA_f, cA_0, cA_1⟩ := tx
  go_wp2_with fail
  refine bodyPost_ret (v := .tuple #[.agg #[.int .i64 0, .int .i64 0], .int .i64 q]) (by simp [results, Tryz.results33, go_sem, cR_b, cR_f, cR_0, cR_1, cA_b, cA_f, cA_0, cA_1]) rfl ⟨rfl, ?_⟩
  clear cR_b cR_f cR_0 cR_1 cA_b cA_f cA_0 cA_1
  exact (grB B1)
set_option maxHeartbeats 4000000 in
set_option maxRecDepth 100000 in
theorem kread_none (s : ByteArray) (d : ByteArray) (c : Int) (ls : 0 < (s.size : Int)) (lm : (s.size : Int) ≤ 600) (IX : ∀ W, Sem.run Tryz.prog (Instr.index 9 (.string s) (.int .i64 ((s.size : Int) - 1))) W = .ok (.int .u8 c) W) (SL : ∀ W, Sem.run Tryz.prog (Instr.slice 9 (.string s) none (some (.int .i64 ((s.size : Int) - 1))) none) W = .ok (.string d) W) (g119 : (c == 119) = false) (g87 : (c == 87) = false) (g115 : (c == 115) = false) (g83 : (c == 83) = false) (g117 : (c == 117) = false) (g85 : (c == 85) = false) (g103 : (c == 103) = false) (g71 : (c == 71) = false) (g122 : (c == 122) = false) (g90 : (c == 90) = false) (n q : Int) (w : World) (CR : Hid (∀ W, Calls Tryz.prog 63 #[.string s] W fun e w' => e = .returned (.tuple #[.int .i64 n, .int .i64 q]) ∧ Below W.heap.size W w')) :
  Calls Tryz.prog 33 #[.string s] w fun e w' => e = .returned (.tuple #[.agg #[.int .i64 (Cl.fin n q 0).1, .int .i64 (Cl.fin n q 0).2.1], .int .i64 (Cl.fin n q 0).2.2]) ∧ Below w.heap.size w w' := by
 obtain ⟨f0, f1, f2, hF⟩ : ∃ f0 f1 f2, Cl.fin n q 0 = (f0, f1, f2) := ⟨_, _, _, rfl⟩
 rw [hF]
 have HX := Lib.hid hF; clear hF
 go_enter Tryz.func33, Tryz.ntmps33
 go_wp2_with fail
 refine (CR.out _).mono ?_; rintro e w1 ⟨rfl, b1⟩
 have d1 : Below w.heap.size w w1 := below_step gr0 b1
 have B1 := Lib.hid d1
 have R1 : Bk2 w1 (w.heap.size) (.int .i64 0) (.int .i64 0) := by refine Bk2.of b1 (by simp <;> omega) (by intro j; simp [go_sem]) ?_ ?_ <;> simp [go_sem]
 have A1 : Bk2 w1 (w.heap.size + 1) (.int .i64 0) (.int .i64 0) := by refine Bk2.of b1 (by simp <;> omega) (by intro j; simp [go_sem]) ?_ ?_ <;> simp [go_sem]
 clear b1 d1
 by_cases hq : q = 0
 ·
  subst hq
  by_cases h0 : 0 ≤ n
  ·
   by_cases h1 : n ≤ 172800
   ·
    have HF := Lib.hid (fin_ok (show Cl.rB n 0 = true from rB_iff.2 ⟨h0, h1, by omega, by omega⟩))
    have g0 : ¬ n < 0 := by omega
    have g1 : ¬ 172800 < n := by omega
    obtain ⟨rfl, rfl, rfl⟩ : n = f0 ∧ 0 = f1 ∧ 0 = f2 := fin_inj (HF.out.symm.trans HX.out)
    have tx := R1; obtain ⟨cR_b, cR_f, cR_0, cR_1⟩ := tx
    have tx := A1; obtain ⟨cA_b, cA_f, cA_0, cA_1⟩ := tx
    go_wp2_with fail
    refine bodyPost_ret (v := .tuple #[.agg #[.int .i64 n, .int .i64 0], .int .i64 0]) (by simp [results, Tryz.results33, go_sem, cR_b, cR_f, cR_0, cR_1, cA_b, cA_f, cA_0, cA_1]) rfl ⟨rfl, ?_⟩
    clear cR_b cR_f cR_0 cR_1 cA_b cA_f cA_0 cA_1
    exact (grB B1)
   ·
    have HF := Lib.hid (fin_far (show Cl.rB n 0 = false by rw [Bool.eq_false_iff]; intro h; have := rB_iff.1 h; omega))
    have g0 : ¬ n < 0 := by omega
    have g1 : 172800 < n := by omega
    obtain ⟨rfl, rfl, rfl⟩ : 0 = f0 ∧ 0 = f1 ∧ 1 = f2 := fin_inj (HF.out.symm.trans HX.out)
    have tx := R1; obtain ⟨cR_b, cR_f, cR_0, cR_1⟩ := tx
    have tx := A1; obtain ⟨cA_b, cA_f, cA_0, cA_1⟩ := tx
    go_wp2_with fail
    refine bodyPost_ret (v := .tuple #[.agg #[.int .i64 0, .int .i64 0], .int .i64 1]) (by simp [results, Tryz.results33, go_sem, cR_b, cR_f, cR_0, cR_1, cA_b, cA_f, cA_0, cA_1]) rfl ⟨rfl, ?_⟩
    clear cR_b cR_f cR_0 cR_1 cA_b cA_f cA_0 cA_1
    exact (grB B1)
  ·
   have HF := Lib.hid (fin_far (show Cl.rB n 0 = false by rw [Bool.eq_false_iff]; intro h; have := rB_iff.1 h; omega))
   have g0 : n < 0 := by omega
   obtain ⟨rfl, rfl, rfl⟩ : 0 = f0 ∧ 0 = f1 ∧ 1 = f2 := fin_inj (HF.out.symm.trans HX.out)
   have tx := R1; obtain ⟨cR_b, cR_f, cR_0, cR_1⟩ := tx
   have tx := A1; obtain ⟨cA_b, cA_f, cA_0, cA_1⟩ := tx
   go_wp2_with fail
   refine bodyPost_ret (v := .tuple #[.agg #[.int .i64 0, .int .i64 0], .int .i64 1]) (by simp [results, Tryz.results33, go_sem, cR_b, cR_f, cR_0, cR_1, cA_b, cA_f, cA_0, cA_1]) rfl ⟨rfl, ?_⟩
   clear cR_b cR_f cR_0 cR_1 cA_b cA_f cA_0 cA_1
   exact (grB B1)
 ·
  have HF := Lib.hid (fin_err (n := n) (b := 0) hq)
  have g1 : (q == 0) = false := beq_eq_false_iff_ne.2 hq
  have g2 : (q != 0) = true := by unfold bne; rw [g1]; rfl
  obtain ⟨rfl, rfl, rfl⟩ : 0 = f0 ∧ 0 = f1 ∧ q = f2 := fin_inj (HF.out.symm.trans HX.out)
  have tx := R1; obtain ⟨cR_b, cR_f, cR_0, cR_1⟩ := tx
  have tx := A1; obtain ⟨cA_b, cA_f, cA_0, cA_1⟩ := tx
  go_wp2_with fail
  refine bodyPost_ret (v := .tuple #[.agg #[.int .i64 0, .int .i64 0], .int .i64 q]) (by simp [results, Tryz.results33, go_sem, cR_b, cR_f, cR_0, cR_1, cA_b, cA_f, cA_0, cA_1]) rfl ⟨rfl, ?_⟩
  clear cR_b cR_f cR_0 cR_1 cA_b cA_f cA_0 cA_1
  exact (grB B1)
namespace Cl
theorem letters_of (c : UInt8) : (base c = 3 ∧ c ≠ 119 ∧ c ≠ 87 ∧ c ≠ 115 ∧ c ≠ 83 ∧ c ≠ 117 ∧ c ≠ 85 ∧ c ≠ 103 ∧ c ≠ 71 ∧ c ≠ 122 ∧ c ≠ 90) ∨ c = 119 ∨ c = 87 ∨ c = 115 ∨ c = 83 ∨ c = 117 ∨ c = 85 ∨ c = 103 ∨ c = 71 ∨ c = 122 ∨ c = 90 := by
 unfold base
 by_cases h1 : c = 119 ∨ c = 87
 ·
  rcases h1 with h | h
  ·
   exact .inr (.inl h)
  ·
   exact .inr (.inr (.inl h))
 ·
  by_cases h2 : c = 115 ∨ c = 83
  ·
   rcases h2 with h | h
   ·
    exact .inr (.inr (.inr (.inl h)))
   ·
    exact .inr (.inr (.inr (.inr (.inl h))))
  ·
   by_cases h3 : c = 117 ∨ c = 85 ∨ c = 103 ∨ c = 71 ∨ c = 122 ∨ c = 90
   ·
    right; right; right; right; right; exact h3
   ·
    left
    rw [if_neg h1, if_neg h2, if_neg h3]
    simp only [not_or] at h1 h2 h3
    exact ⟨rfl, h1.1, h1.2, h2.1, h2.2, h3⟩
theorem cutL_let {s : ByteArray} (h : 0 < s.size) (hb : base s[s.size - 1] ≠ 3) : cutL s = (s.extract 0 (s.size - 1), (base s[s.size - 1] : Int)) := by
 unfold cutL; rw [dif_pos h, if_neg hb]
theorem cutL_non {s : ByteArray} (h : 0 < s.size) (hb : base s[s.size - 1] = 3) : cutL s = (s, 0) := by
 unfold cutL; rw [dif_pos h, if_pos hb]
end Cl
theorem kread_any (s : ByteArray) (w : World) (hm : s.size ≤ 600) :
  Calls Tryz.prog 33 #[.string s] w fun e w' => e = .returned (.tuple #[.agg #[.int .i64 (Cl.rd s).1, .int .i64 (Cl.rd s).2.1], .int .i64 (Cl.rd s).2.2]) ∧ Below w.heap.size w w' := by
 rw [Cl.rd_fin]
 have CR := Lib.hid (fun W => raread_any (Cl.cutL s).1 W (Nat.le_trans (Cl.cutL_size s) hm))
 by_cases hz : 0 < s.size
 ·
  have IX := last_ix s hz
  have SL := fun W => cut_hi2 s (s.extract 0 (s.size - 1)) W (by omega) rfl
  have neb : ∀ (l : UInt8), s[s.size - 1] ≠ l → (((s[s.size - 1]).toNat : Int) == (l.toNat : Int)) = false := fun l h => by
   rw [beq_eq_false_iff_ne]; intro e; exact h (UInt8.toNat_inj.1 (by omega))
  rcases Cl.letters_of s[s.size - 1] with ⟨h3, n1, n2, n3, n4, n5, n6, n7, n8, n9, n10⟩ | h | h | h | h | h | h | h | h | h | h
  ·
   rw [Cl.cutL_non hz h3] at CR ⊢
   exact kread_none s _ _ (by omega) (by omega) IX SL (neb _ n1) (neb _ n2) (neb _ n3) (neb _ n4) (neb _ n5) (neb _ n6) (neb _ n7) (neb _ n8) (neb _ n9) (neb _ n10) _ _ w CR
  ·
   have e := Cl.cutL_let hz (by rw [h]; decide)
   have eb : (Cl.base s[s.size - 1] : Int) = 0 := by rw [h]; decide
   rw [eb] at e
   rw [e] at CR ⊢
   exact kread_119 s _ (by omega) (by omega) (fun W => by have := IX W; rw [h] at this; exact this) SL _ _ w CR
  ·
   have e := Cl.cutL_let hz (by rw [h]; decide)
   have eb : (Cl.base s[s.size - 1] : Int) = 0 := by rw [h]; decide
   rw [eb] at e
   rw [e] at CR ⊢
   exact kread_87 s _ (by omega) (by omega) (fun W => by have := IX W; rw [h] at this; exact this) SL _ _ w CR
  ·
   have e := Cl.cutL_let hz (by rw [h]; decide)
   have eb : (Cl.base s[s.size - 1] : Int) = 1 := by rw [h]; decide
   rw [eb] at e
   rw [e] at CR ⊢
   exact kread_115 s _ (by omega) (by omega) (fun W => by have := IX W; rw [h] at this; exact this) SL _ _ w CR
  ·
   have e := Cl.cutL_let hz (by rw [h]; decide)
   have eb : (Cl.base s[s.size - 1] : Int) = 1 := by rw [h]; decide
   rw [eb] at e
   rw [e] at CR ⊢
   exact kread_83 s _ (by omega) (by omega) (fun W => by have := IX W; rw [h] at this; exact this) SL _ _ w CR
  ·
   have e := Cl.cutL_let hz (by rw [h]; decide)
   have eb : (Cl.base s[s.size - 1] : Int) = 2 := by rw [h]; decide
   rw [eb] at e
   rw [e] at CR ⊢
   exact kread_117 s _ (by omega) (by omega) (fun W => by have := IX W; rw [h] at this; exact this) SL _ _ w CR
  ·
   have e := Cl.cutL_let hz (by rw [h]; decide)
   have eb : (Cl.base s[s.size - 1] : Int) = 2 := by rw [h]; decide
   rw [eb] at e
   rw [e] at CR ⊢
   exact kread_85 s _ (by omega) (by omega) (fun W => by have := IX W; rw [h] at this; exact this) SL _ _ w CR
  ·
   have e := Cl.cutL_let hz (by rw [h]; decide)
   have eb : (Cl.base s[s.size - 1] : Int) = 2 := by rw [h]; decide
   rw [eb] at e
   rw [e] at CR ⊢
   exact kread_103 s _ (by omega) (by omega) (fun W => by have := IX W; rw [h] at this; exact this) SL _ _ w CR
  ·
   have e := Cl.cutL_let hz (by rw [h]; decide)
   have eb : (Cl.base s[s.size - 1] : Int) = 2 := by rw [h]; decide
   rw [eb] at e
   rw [e] at CR ⊢
   exact kread_71 s _ (by omega) (by omega) (fun W => by have := IX W; rw [h] at this; exact this) SL _ _ w CR
  ·
   have e := Cl.cutL_let hz (by rw [h]; decide)
   have eb : (Cl.base s[s.size - 1] : Int) = 2 := by rw [h]; decide
   rw [eb] at e
   rw [e] at CR ⊢
   exact kread_122 s _ (by omega) (by omega) (fun W => by have := IX W; rw [h] at this; exact this) SL _ _ w CR
  ·
   have e := Cl.cutL_let hz (by rw [h]; decide)
   have eb : (Cl.base s[s.size - 1] : Int) = 2 := by rw [h]; decide
   rw [eb] at e
   rw [e] at CR ⊢
   exact kread_90 s _ (by omega) (by omega) (fun W => by have := IX W; rw [h] at this; exact this) SL _ _ w CR
 ·
  have e : Cl.cutL s = (s, 0) := by unfold Cl.cutL; rw [dif_neg hz]
  rw [e] at CR ⊢
  exact kread_nil s (by omega) _ _ w CR
set_option maxHeartbeats 2000000 in
theorem rsave_any (s : ByteArray) (w : World) (hm : s.size ≤ 600) :
  Calls Tryz.prog 34 #[.string s] w fun e w' => e = .returned (.tuple #[.int .i64 (Ru.sv s).1, .int .i64 (Ru.sv s).2]) ∧ Below w.heap.size w w' := by
 have AR := Lib.hid (fun W => raread_any s W hm)
 clear hm
 unfold Ru.sv
 generalize (Am.rd s).1 = n at *
 generalize (Am.rd s).2 = q at *
 unfold Ru.svF
 by_cases hq : q = 0
 ·
  subst hq
  by_cases h1 : n < -10800
  ·
   rw [if_pos ⟨rfl, .inl h1⟩]
   have g1 : decide (n < -10800) = true := decide_eq_true h1
   go_enter Tryz.func34, Tryz.ntmps34
   go_wp2_with fail
   refine (AR.out _).mono ?_; rintro e w1 ⟨rfl, b1⟩
   have d1 : Below w.heap.size w w1 := below_step gr0 b1
   have B1 := Lib.hid d1
   clear b1 d1
   go_wp2_with fail
   go_ret2
   exact ⟨rfl, (grB B1)⟩
  ·
   have g1 : decide (n < -10800) = false := decide_eq_false h1
   by_cases h2 : 10800 < n
   ·
    rw [if_pos ⟨rfl, .inr h2⟩]
    have g2 : decide (10800 < n) = true := decide_eq_true h2
    go_enter Tryz.func34, Tryz.ntmps34
    go_wp2_with fail
    refine (AR.out _).mono ?_; rintro e w1 ⟨rfl, b1⟩
    have d1 : Below w.heap.size w w1 := below_step gr0 b1
    have B1 := Lib.hid d1
    clear b1 d1
    go_wp2_with fail
    go_ret2
    exact ⟨rfl, (grB B1)⟩
   ·
    rw [if_neg (by omega)]
    have g2 : decide (10800 < n) = false := decide_eq_false h2
    go_enter Tryz.func34, Tryz.ntmps34
    go_wp2_with fail
    refine (AR.out _).mono ?_; rintro e w1 ⟨rfl, b1⟩
    have d1 : Below w.heap.size w w1 := below_step gr0 b1
    have B1 := Lib.hid d1
    clear b1 d1
    go_wp2_with fail
    go_ret2
    exact ⟨rfl, (grB B1)⟩
 ·
  rw [if_neg (by omega)]
  have g0 : (q == 0) = false := by rw [beq_eq_false_iff_ne]; exact hq
  go_enter Tryz.func34, Tryz.ntmps34
  go_wp2_with fail
  refine (AR.out _).mono ?_; rintro e w1 ⟨rfl, b1⟩
  have d1 : Below w.heap.size w w1 := below_step gr0 b1
  have B1 := Lib.hid d1
  clear b1 d1
  go_wp2_with fail
  go_ret2
  exact ⟨rfl, (grB B1)⟩
set_option maxHeartbeats 2000000 in
theorem rday21_any (s : ByteArray) (m : Int) (w : World) (hs : s.size ≤ 1000) :
  Calls Tryz.prog 32 #[.string s, .int .i64 m] w fun e w' => e = .returned (.tuple #[.agg #[.int .i64 (Ru.dy s.data.toList m).1, .int .i64 (Ru.dy s.data.toList m).2.1, .int .i64 (Ru.dy s.data.toList m).2.2.1], .int .i64 (Ru.dy s.data.toList m).2.2.2]) ∧ Below w.heap.size w w' := by
 have AR0 := Lib.hid (fun W => rdread_any s W hs)
 have AR : Hid (∀ W, Calls Tryz.prog 95 #[.string s] W fun e w' => e = .returned (.tuple #[.agg #[.int .i64 (Ds.rd s.data.toList).1, .int .i64 (Ds.rd s.data.toList).2.1, .int .i64 (Ds.rd s.data.toList).2.2.1], .int .i64 (Ds.rd s.data.toList).2.2.2]) ∧ Below W.heap.size W w') := Lib.hid (fun W => (AR0.out W).mono fun _ _ ⟨h1, h2⟩ => ⟨h1, h2⟩)
 clear AR0 hs
 unfold Ru.dy
 generalize (Ds.rd s.data.toList).1 = k at *
 generalize (Ds.rd s.data.toList).2.1 = wk at *
 generalize (Ds.rd s.data.toList).2.2.1 = d at *
 generalize (Ds.rd s.data.toList).2.2.2 = q at *
 have OF := Lib.hid (fun W => rofits_any k wk d m W)
 unfold Ru.dyF
 by_cases hq : q = 0
 ·
  subst hq
  cases ho : Dr.onF k wk d m
  ·
   rw [ho] at OF
   clear ho
   rw [if_pos ⟨rfl, rfl⟩]
   go_enter Tryz.func32, Tryz.ntmps32
   go_wp2_with fail
   refine (AR.out _).mono ?_; rintro e w1 ⟨rfl, b1⟩
   have d1 : Below w.heap.size w w1 := below_step gr0 b1
   have B1 := Lib.hid d1
   have Y1 : Bk3 w1 (w.heap.size) (.int .i64 0) (.int .i64 0) (.int .i64 0) := by refine Bk3.of b1 (by simp <;> omega) (by intro j; simp [go_sem]) ?_ ?_ ?_ <;> simp [go_sem]
   clear b1 d1
   have tx := Y1; obtain ⟨cY_b, cY_f, cY_0, cY_1, cY_2⟩ := tx
   go_wp2_with fail
   clear cY_b cY_f cY_0 cY_1 cY_2
   refine (OF.out _).mono ?_; rintro e w2 ⟨rfl, b2⟩
   have d2 : Below w1.heap.size w1 w2 := below_step gr0 b2
   have B2 := Lib.hid (below_step B1.out d2)
   have Y2 := Y1.keep d2
   have aZ := B1.out.size
   have nZY := Nat.ne_of_lt Y1.hb
   have oZY := Nat.ne_of_gt Y1.hb
   have Z2 : Bk3 w2 (w1.heap.size) (.int .i64 k) (.int .i64 wk) (.int .i64 d) := by refine Bk3.of b2 (by simp <;> omega) (by intro j; simp [go_sem]) ?_ ?_ ?_ <;> simp [go_sem]
   clear Y1 b2 d2 B1
   have tx := Y2; obtain ⟨cY_b, cY_f, cY_0, cY_1, cY_2⟩ := tx
   have tx := Z2; obtain ⟨cZ_b, cZ_f, cZ_0, cZ_1, cZ_2⟩ := tx
   go_wp2_with fail
   refine bodyPost_ret (v := .tuple #[.agg #[.int .i64 0, .int .i64 0, .int .i64 0], .int .i64 1]) (by simp [results, Tryz.results32, go_sem, cY_b, cY_f, cY_0, cY_1, cY_2, cZ_b, cZ_f, cZ_0, cZ_1, cZ_2]) rfl ⟨rfl, ?_⟩
   clear cY_b cY_f cY_0 cY_1 cY_2 cZ_b cZ_f cZ_0 cZ_1 cZ_2
   exact (grB B2)
  ·
   rw [ho] at OF
   clear ho
   rw [if_neg (by simp)]
   go_enter Tryz.func32, Tryz.ntmps32
   go_wp2_with fail
   refine (AR.out _).mono ?_; rintro e w1 ⟨rfl, b1⟩
   have d1 : Below w.heap.size w w1 := below_step gr0 b1
   have B1 := Lib.hid d1
   have Y1 : Bk3 w1 (w.heap.size) (.int .i64 0) (.int .i64 0) (.int .i64 0) := by refine Bk3.of b1 (by simp <;> omega) (by intro j; simp [go_sem]) ?_ ?_ ?_ <;> simp [go_sem]
   clear b1 d1
   have tx := Y1; obtain ⟨cY_b, cY_f, cY_0, cY_1, cY_2⟩ := tx
   go_wp2_with fail
   clear cY_b cY_f cY_0 cY_1 cY_2
   refine (OF.out _).mono ?_; rintro e w2 ⟨rfl, b2⟩
   have d2 : Below w1.heap.size w1 w2 := below_step gr0 b2
   have B2 := Lib.hid (below_step B1.out d2)
   have Y2 := Y1.keep d2
   have aZ := B1.out.size
   have nZY := Nat.ne_of_lt Y1.hb
   have oZY := Nat.ne_of_gt Y1.hb
   have Z2 : Bk3 w2 (w1.heap.size) (.int .i64 k) (.int .i64 wk) (.int .i64 d) := by refine Bk3.of b2 (by simp <;> omega) (by intro j; simp [go_sem]) ?_ ?_ ?_ <;> simp [go_sem]
   clear Y1 b2 d2 B1
   have tx := Y2; obtain ⟨cY_b, cY_f, cY_0, cY_1, cY_2⟩ := tx
   have tx := Z2; obtain ⟨cZ_b, cZ_f, cZ_0, cZ_1, cZ_2⟩ := tx
   go_wp2_with fail
   refine bodyPost_ret (v := .tuple #[.agg #[.int .i64 k, .int .i64 wk, .int .i64 d], .int .i64 0]) (by simp [results, Tryz.results32, go_sem, cY_b, cY_f, cY_0, cY_1, cY_2, cZ_b, cZ_f, cZ_0, cZ_1, cZ_2]) rfl ⟨rfl, ?_⟩
   clear cY_b cY_f cY_0 cY_1 cY_2 cZ_b cZ_f cZ_0 cZ_1 cZ_2
   exact (grB B2)
 ·
  rw [if_neg (by omega)]
  have g0 : (q == 0) = false := by rw [beq_eq_false_iff_ne]; exact hq
  go_enter Tryz.func32, Tryz.ntmps32
  go_wp2_with fail
  refine (AR.out _).mono ?_; rintro e w1 ⟨rfl, b1⟩
  have d1 : Below w.heap.size w w1 := below_step gr0 b1
  have B1 := Lib.hid d1
  have Y1 : Bk3 w1 (w.heap.size) (.int .i64 0) (.int .i64 0) (.int .i64 0) := by refine Bk3.of b1 (by simp <;> omega) (by intro j; simp [go_sem]) ?_ ?_ ?_ <;> simp [go_sem]
  clear b1 d1
  have tx := Y1; obtain ⟨cY_b, cY_f, cY_0, cY_1, cY_2⟩ := tx
  go_wp2_with fail
  refine bodyPost_ret (v := .tuple #[.agg #[.int .i64 k, .int .i64 wk, .int .i64 d], .int .i64 q]) (by simp [results, Tryz.results32, go_sem, cY_b, cY_f, cY_0, cY_1, cY_2]) rfl ⟨rfl, ?_⟩
  clear cY_b cY_f cY_0 cY_1 cY_2
  exact (grB B1)
theorem StS.new (W : World) (l : List ByteArray) (t : TypeId) (c : Nat) : StS (W.alloc (.cells (l.map Value.string).toArray t)) (.slice (some ⟨W.heap.size, 0, none⟩) l.length c) l :=
 ⟨_, _, rfl, fun _ => ⟨_, rfl, by simp, by
  intro j u hj
  rw [show (⟨W.heap.size, 0, none⟩ : Addr).add j = ⟨W.heap.size, j, none⟩ by simp [Addr.add]; exact fun h => h.symm]
  rw [Lib.cell_of_heap (heap_alloc_new W _)]
  simpa using hj⟩⟩
theorem StS.none (W : World) : StS W (.slice none 0 0) [] := Lst.nil _ _
set_option maxRecDepth 100000 in
theorem monthsr_new (w : World) : Calls Tryz.prog 94 #[] w fun e w' => e = .returned (.slice (some ⟨w.heap.size, 0, none⟩) 12 12) ∧ StS w' (.slice (some ⟨w.heap.size, 0, none⟩) 12 12) Wd.months ∧ Below w.heap.size w w' := by
 go_enter Tryz.func94, Tryz.ntmps94
 go_wp2
 go_ret
 exact ⟨rfl, StS.new _ Wd.months _ 12, (Below.refl _ _).alloc (Nat.le_refl _) _⟩
set_option maxHeartbeats 2000000 in
set_option maxRecDepth 100000 in
theorem monthr_any (s : ByteArray) (w : World) (hs : s.size ≤ maxLen) :
  Calls Tryz.prog 31 #[.string s] w fun e w' => e = .returned (.tuple #[.int .i64 (Wd.up (Wd.mat s.data.toList Wd.months)), .int .i64 (Wd.mat s.data.toList Wd.months).2]) ∧ Below w.heap.size w w' := by
 have SZ : ∀ x ∈ Wd.months, x.size ≤ maxLen := by unfold Wd.months maxLen; intro x hx; simp at hx; rcases hx with rfl | rfl | rfl | rfl | rfl | rfl | rfl | rfl | rfl | rfl | rfl | rfl <;> decide
 have HM := Lib.hid (fun W v (h : StS W v Wd.months) => matchr_any s v Wd.months W h hs SZ (by unfold maxLen; decide))
 have HN := Lib.hid monthsr_new
 have bd := Wd.mat_bd s.data.toList Wd.months
 have ln : Wd.months.length = 12 := rfl
 rw [ln] at bd
 clear SZ ln
 generalize Wd.mat s.data.toList Wd.months = ans at HM bd ⊢
 obtain ⟨p, q⟩ := ans
 dsimp only at HM bd ⊢
 obtain ⟨p0, p1, hq⟩ := bd
 unfold Wd.up
 rcases hq with rfl | ⟨rfl, rfl⟩
 ·
  go_enter Tryz.func31, Tryz.ntmps31
  go_wp2_with fail
  refine (HN.out _).mono ?_; rintro e w1 ⟨rfl, hS, b1⟩
  have S1 := Lib.hid hS; have B1 := Lib.hid b1; clear hS b1
  go_wp2_with fail
  refine (HM.out _ _ S1.out).mono ?_; rintro e w2 ⟨rfl, j, rfl⟩
  go_wp2_with fail
  go_ret2
  exact ⟨rfl, below_drewN B1.out _⟩
 ·
  go_enter Tryz.func31, Tryz.ntmps31
  go_wp2_with fail
  refine (HN.out _).mono ?_; rintro e w1 ⟨rfl, hS, b1⟩
  have S1 := Lib.hid hS; have B1 := Lib.hid b1; clear hS b1
  go_wp2_with fail
  refine (HM.out _ _ S1.out).mono ?_; rintro e w2 ⟨rfl, j, rfl⟩
  go_wp2_with fail
  go_ret2
  exact ⟨rfl, below_drewN B1.out _⟩
set_option maxHeartbeats 4000000 in
set_option maxRecDepth 100000 in
theorem mtextr_any (n : Int) (w : World) :
  Calls Tryz.prog 52 #[.int .i64 n] w fun e w' => e = .returned (.string (Wd.t3 Wd.months (n - 1))) ∧ Below w.heap.size w w' := by
 have HN := Lib.hid monthsr_new
 by_cases h : 1 ≤ n ∧ n ≤ 12
 ·
  obtain rfl | rfl | rfl | rfl | rfl | rfl | rfl | rfl | rfl | rfl | rfl | rfl : n = 1 ∨ n = 2 ∨ n = 3 ∨ n = 4 ∨ n = 5 ∨ n = 6 ∨ n = 7 ∨ n = 8 ∨ n = 9 ∨ n = 10 ∨ n = 11 ∨ n = 12 := by omega
  ·
   go_enter Tryz.func52, Tryz.ntmps52
   go_wp2_with fail
   refine (HN.out _).mono ?_; rintro e w1 ⟨rfl, hS, b1⟩
   have B1 := Lib.hid b1
   obtain ⟨a, ha, g⟩ := hS.get 0 (by decide)
   obtain rfl : (⟨w.heap.size, 0, none⟩ : Addr) = a := by injection ha
   clear b1 hS ha
   have g1 : w1.cell? ⟨w.heap.size, 0, none⟩ = some (.string ⟨#[74, 97, 110, 117, 97, 114, 121]⟩) := by simpa [Addr.add, Wd.months] using g
   clear g
   go_wp2_with fail
   go_ret
   exact ⟨rfl, B1.out⟩
  ·
   go_enter Tryz.func52, Tryz.ntmps52
   go_wp2_with fail
   refine (HN.out _).mono ?_; rintro e w1 ⟨rfl, hS, b1⟩
   have B1 := Lib.hid b1
   obtain ⟨a, ha, g⟩ := hS.get 1 (by decide)
   obtain rfl : (⟨w.heap.size, 0, none⟩ : Addr) = a := by injection ha
   clear b1 hS ha
   have g1 : w1.cell? ⟨w.heap.size, 1, none⟩ = some (.string ⟨#[70, 101, 98, 114, 117, 97, 114, 121]⟩) := by simpa [Addr.add, Wd.months] using g
   clear g
   go_wp2_with fail
   go_ret
   exact ⟨rfl, B1.out⟩
  ·
   go_enter Tryz.func52, Tryz.ntmps52
   go_wp2_with fail
   refine (HN.out _).mono ?_; rintro e w1 ⟨rfl, hS, b1⟩
   have B1 := Lib.hid b1
   obtain ⟨a, ha, g⟩ := hS.get 2 (by decide)
   obtain rfl : (⟨w.heap.size, 0, none⟩ : Addr) = a := by injection ha
   clear b1 hS ha
   have g1 : w1.cell? ⟨w.heap.size, 2, none⟩ = some (.string ⟨#[77, 97, 114, 99, 104]⟩) := by simpa [Addr.add, Wd.months] using g
   clear g
   go_wp2_with fail
   go_ret
   exact ⟨rfl, B1.out⟩
  ·
   go_enter Tryz.func52, Tryz.ntmps52
   go_wp2_with fail
   refine (HN.out _).mono ?_; rintro e w1 ⟨rfl, hS, b1⟩
   have B1 := Lib.hid b1
   obtain ⟨a, ha, g⟩ := hS.get 3 (by decide)
   obtain rfl : (⟨w.heap.size, 0, none⟩ : Addr) = a := by injection ha
   clear b1 hS ha
   have g1 : w1.cell? ⟨w.heap.size, 3, none⟩ = some (.string ⟨#[65, 112, 114, 105, 108]⟩) := by simpa [Addr.add, Wd.months] using g
   clear g
   go_wp2_with fail
   go_ret
   exact ⟨rfl, B1.out⟩
  ·
   go_enter Tryz.func52, Tryz.ntmps52
   go_wp2_with fail
   refine (HN.out _).mono ?_; rintro e w1 ⟨rfl, hS, b1⟩
   have B1 := Lib.hid b1
   obtain ⟨a, ha, g⟩ := hS.get 4 (by decide)
   obtain rfl : (⟨w.heap.size, 0, none⟩ : Addr) = a := by injection ha
   clear b1 hS ha
   have g1 : w1.cell? ⟨w.heap.size, 4, none⟩ = some (.string ⟨#[77, 97, 121]⟩) := by simpa [Addr.add, Wd.months] using g
   clear g
   go_wp2_with fail
   go_ret
   exact ⟨rfl, B1.out⟩
  ·
   go_enter Tryz.func52, Tryz.ntmps52
   go_wp2_with fail
   refine (HN.out _).mono ?_; rintro e w1 ⟨rfl, hS, b1⟩
   have B1 := Lib.hid b1
   obtain ⟨a, ha, g⟩ := hS.get 5 (by decide)
   obtain rfl : (⟨w.heap.size, 0, none⟩ : Addr) = a := by injection ha
   clear b1 hS ha
   have g1 : w1.cell? ⟨w.heap.size, 5, none⟩ = some (.string ⟨#[74, 117, 110, 101]⟩) := by simpa [Addr.add, Wd.months] using g
   clear g
   go_wp2_with fail
   go_ret
   exact ⟨rfl, B1.out⟩
  ·
   go_enter Tryz.func52, Tryz.ntmps52
   go_wp2_with fail
   refine (HN.out _).mono ?_; rintro e w1 ⟨rfl, hS, b1⟩
   have B1 := Lib.hid b1
   obtain ⟨a, ha, g⟩ := hS.get 6 (by decide)
   obtain rfl : (⟨w.heap.size, 0, none⟩ : Addr) = a := by injection ha
   clear b1 hS ha
   have g1 : w1.cell? ⟨w.heap.size, 6, none⟩ = some (.string ⟨#[74, 117, 108, 121]⟩) := by simpa [Addr.add, Wd.months] using g
   clear g
   go_wp2_with fail
   go_ret
   exact ⟨rfl, B1.out⟩
  ·
   go_enter Tryz.func52, Tryz.ntmps52
   go_wp2_with fail
   refine (HN.out _).mono ?_; rintro e w1 ⟨rfl, hS, b1⟩
   have B1 := Lib.hid b1
   obtain ⟨a, ha, g⟩ := hS.get 7 (by decide)
   obtain rfl : (⟨w.heap.size, 0, none⟩ : Addr) = a := by injection ha
   clear b1 hS ha
   have g1 : w1.cell? ⟨w.heap.size, 7, none⟩ = some (.string ⟨#[65, 117, 103, 117, 115, 116]⟩) := by simpa [Addr.add, Wd.months] using g
   clear g
   go_wp2_with fail
   go_ret
   exact ⟨rfl, B1.out⟩
  ·
   go_enter Tryz.func52, Tryz.ntmps52
   go_wp2_with fail
   refine (HN.out _).mono ?_; rintro e w1 ⟨rfl, hS, b1⟩
   have B1 := Lib.hid b1
   obtain ⟨a, ha, g⟩ := hS.get 8 (by decide)
   obtain rfl : (⟨w.heap.size, 0, none⟩ : Addr) = a := by injection ha
   clear b1 hS ha
   have g1 : w1.cell? ⟨w.heap.size, 8, none⟩ = some (.string ⟨#[83, 101, 112, 116, 101, 109, 98, 101, 114]⟩) := by simpa [Addr.add, Wd.months] using g
   clear g
   go_wp2_with fail
   go_ret
   exact ⟨rfl, B1.out⟩
  ·
   go_enter Tryz.func52, Tryz.ntmps52
   go_wp2_with fail
   refine (HN.out _).mono ?_; rintro e w1 ⟨rfl, hS, b1⟩
   have B1 := Lib.hid b1
   obtain ⟨a, ha, g⟩ := hS.get 9 (by decide)
   obtain rfl : (⟨w.heap.size, 0, none⟩ : Addr) = a := by injection ha
   clear b1 hS ha
   have g1 : w1.cell? ⟨w.heap.size, 9, none⟩ = some (.string ⟨#[79, 99, 116, 111, 98, 101, 114]⟩) := by simpa [Addr.add, Wd.months] using g
   clear g
   go_wp2_with fail
   go_ret
   exact ⟨rfl, B1.out⟩
  ·
   go_enter Tryz.func52, Tryz.ntmps52
   go_wp2_with fail
   refine (HN.out _).mono ?_; rintro e w1 ⟨rfl, hS, b1⟩
   have B1 := Lib.hid b1
   obtain ⟨a, ha, g⟩ := hS.get 10 (by decide)
   obtain rfl : (⟨w.heap.size, 0, none⟩ : Addr) = a := by injection ha
   clear b1 hS ha
   have g1 : w1.cell? ⟨w.heap.size, 10, none⟩ = some (.string ⟨#[78, 111, 118, 101, 109, 98, 101, 114]⟩) := by simpa [Addr.add, Wd.months] using g
   clear g
   go_wp2_with fail
   go_ret
   exact ⟨rfl, B1.out⟩
  ·
   go_enter Tryz.func52, Tryz.ntmps52
   go_wp2_with fail
   refine (HN.out _).mono ?_; rintro e w1 ⟨rfl, hS, b1⟩
   have B1 := Lib.hid b1
   obtain ⟨a, ha, g⟩ := hS.get 11 (by decide)
   obtain rfl : (⟨w.heap.size, 0, none⟩ : Addr) = a := by injection ha
   clear b1 hS ha
   have g1 : w1.cell? ⟨w.heap.size, 11, none⟩ = some (.string ⟨#[68, 101, 99, 101, 109, 98, 101, 114]⟩) := by simpa [Addr.add, Wd.months] using g
   clear g
   go_wp2_with fail
   go_ret
   exact ⟨rfl, B1.out⟩
 ·
  rw [show Wd.t3 Wd.months (n - 1) = ByteArray.empty by unfold Wd.t3; rw [if_neg]; rw [show (Wd.months.length : Int) = 12 from rfl]; omega]
  by_cases c1 : n < 1
  ·
   go_enter Tryz.func52, Tryz.ntmps52
   go_wp2
   go_ret
   exact ⟨rfl, Below.refl _ _⟩
  ·
   have c2 : 12 < n := by omega
   go_enter Tryz.func52, Tryz.ntmps52
   go_wp2
   go_ret
   exact ⟨rfl, Below.refl _ _⟩
end Go.Proofs.YtpggfhmnhbnefaaGreatDoor
