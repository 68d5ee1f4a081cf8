/- Clocks: the reference's Read, any text. -/
import Derived.Test.YtafnnnbefabofaaDoorRkB
import Derived.Test.YtafnnnbefabofaaDoorRkC
set_option linter.unusedVariables false
set_option linter.unusedSimpArgs false
namespace Go.Proofs.YtafnnnbefabofaaDoor
open Go.RowKit Go.Sort

set_option maxHeartbeats 4000000 in
set_option maxRecDepth 100000 in
theorem kread_nil (s : ByteArray) (ls : ¬ 0 < (s.size : Int)) (n q : Int) (w : World) (CR : Hid (∀ W, Calls Tryd.prog 64 #[.string s] W fun e w' => e = .returned (.tuple #[.int .i64 n, .int .i64 q]) ∧ Below W.heap.size W w')) :
    Calls Tryd.prog 67 #[.string s] w fun e w' => e = .returned (.tuple #[.agg #[.int .i64 (Cl.fin n q 0).1, .int .i64 (Cl.fin n q 0).2.1], .int .i64 (Cl.fin n q 0).2.2]) ∧ Below w.heap.size w w' := by
  obtain ⟨f0, f1, f2, hF⟩ : ∃ f0 f1 f2, Cl.fin n q 0 = (f0, f1, f2) := ⟨_, _, _, rfl⟩
  rw [hF]
  have HX := Lib.hid hF; clear hF
  go_enter Tryd.func67, Tryd.ntmps67
  go_wp2_with fail
  refine (CR.out _).mono ?_; rintro e w1 ⟨rfl, b1⟩
  have d1 : Below w.heap.size w w1 := below_step (by repeat (first | exact Below.refl _ _ | refine below_drewN ?_ _ | refine Below.drew ?_ | refine Below.setCell ?_ (by first | (simp; done) | (simp; omega) | omega) _ | refine Below.alloc ?_ (by first | (simp; done) | (simp; omega) | omega) _)) b1
  have B1 := Lib.hid d1
  have R1 : Bk2 w1 (w.heap.size) (.int .i64 0) (.int .i64 0) := Bk2.of b1 (by simp <;> omega) (by intro j; simp [go_sem]) (by simp [go_sem]) (by simp [go_sem])
  have A1 : Bk2 w1 (w.heap.size + 1) (.int .i64 0) (.int .i64 0) := Bk2.of b1 (by simp <;> omega) (by intro j; simp [go_sem]) (by simp [go_sem]) (by simp [go_sem])
  clear b1 d1
  by_cases hq : q = 0
  · subst hq
    by_cases h0 : 0 ≤ n
    · by_cases h1 : n ≤ 172800
      · have HF := Lib.hid (fin_ok (show Cl.rB n 0 = true from rB_iff.2 ⟨h0, h1, by omega, by omega⟩))
        have g0 : ¬ n < 0 := by omega
        have g1 : ¬ 172800 < n := by omega
        obtain ⟨rfl, rfl, rfl⟩ : n = f0 ∧ 0 = f1 ∧ 0 = f2 := fin_inj (HF.out.symm.trans HX.out)
        have cR_b := R1.hb
        have cR_f := R1.fz
        have cR_0 := R1.k0
        have cR_1 := R1.k1
        have cA_b := A1.hb
        have cA_f := A1.fz
        have cA_0 := A1.k0
        have cA_1 := A1.k1
        go_wp2_with fail
        refine bodyPost_ret (v := .tuple #[.agg #[.int .i64 n, .int .i64 0], .int .i64 0]) (by simp [results, Tryd.results67, go_sem, cR_b, cR_f, cR_0, cR_1, cA_b, cA_f, cA_0, cA_1]) rfl ⟨rfl, ?_⟩
        clear cR_b cR_f cR_0 cR_1 cA_b cA_f cA_0 cA_1
        exact (by have hz := B1.out.size; repeat (first | exact B1.out | refine below_drewN ?_ _ | refine Below.drew ?_ | refine Below.setCell ?_ (by first | omega | (simp; done) | (simp; omega)) _ | refine Below.alloc ?_ (by first | omega | (simp; done) | (simp; omega)) _))
      · have HF := Lib.hid (fin_far (show Cl.rB n 0 = false by rw [Bool.eq_false_iff]; intro h; have := rB_iff.1 h; omega))
        have g0 : ¬ n < 0 := by omega
        have g1 : 172800 < n := by omega
        obtain ⟨rfl, rfl, rfl⟩ : 0 = f0 ∧ 0 = f1 ∧ 1 = f2 := fin_inj (HF.out.symm.trans HX.out)
        have cR_b := R1.hb
        have cR_f := R1.fz
        have cR_0 := R1.k0
        have cR_1 := R1.k1
        have cA_b := A1.hb
        have cA_f := A1.fz
        have cA_0 := A1.k0
        have cA_1 := A1.k1
        go_wp2_with fail
        refine bodyPost_ret (v := .tuple #[.agg #[.int .i64 0, .int .i64 0], .int .i64 1]) (by simp [results, Tryd.results67, go_sem, cR_b, cR_f, cR_0, cR_1, cA_b, cA_f, cA_0, cA_1]) rfl ⟨rfl, ?_⟩
        clear cR_b cR_f cR_0 cR_1 cA_b cA_f cA_0 cA_1
        exact (by have hz := B1.out.size; repeat (first | exact B1.out | refine below_drewN ?_ _ | refine Below.drew ?_ | refine Below.setCell ?_ (by first | omega | (simp; done) | (simp; omega)) _ | refine Below.alloc ?_ (by first | omega | (simp; done) | (simp; omega)) _))
    · have HF := Lib.hid (fin_far (show Cl.rB n 0 = false by rw [Bool.eq_false_iff]; intro h; have := rB_iff.1 h; omega))
      have g0 : n < 0 := by omega
      obtain ⟨rfl, rfl, rfl⟩ : 0 = f0 ∧ 0 = f1 ∧ 1 = f2 := fin_inj (HF.out.symm.trans HX.out)
      have cR_b := R1.hb
      have cR_f := R1.fz
      have cR_0 := R1.k0
      have cR_1 := R1.k1
      have cA_b := A1.hb
      have cA_f := A1.fz
      have cA_0 := A1.k0
      have cA_1 := A1.k1
      go_wp2_with fail
      refine bodyPost_ret (v := .tuple #[.agg #[.int .i64 0, .int .i64 0], .int .i64 1]) (by simp [results, Tryd.results67, go_sem, cR_b, cR_f, cR_0, cR_1, cA_b, cA_f, cA_0, cA_1]) rfl ⟨rfl, ?_⟩
      clear cR_b cR_f cR_0 cR_1 cA_b cA_f cA_0 cA_1
      exact (by have hz := B1.out.size; repeat (first | exact B1.out | refine below_drewN ?_ _ | refine Below.drew ?_ | refine Below.setCell ?_ (by first | omega | (simp; done) | (simp; omega)) _ | refine Below.alloc ?_ (by first | omega | (simp; done) | (simp; omega)) _))
  · have HF := Lib.hid (fin_err (n := n) (b := 0) hq)
    have g1 : (q == 0) = false := beq_eq_false_iff_ne.2 hq
    have g2 : (q != 0) = true := by unfold bne; rw [g1]; rfl
    obtain ⟨rfl, rfl, rfl⟩ : 0 = f0 ∧ 0 = f1 ∧ q = f2 := fin_inj (HF.out.symm.trans HX.out)
    have cR_b := R1.hb
    have cR_f := R1.fz
    have cR_0 := R1.k0
    have cR_1 := R1.k1
    have cA_b := A1.hb
    have cA_f := A1.fz
    have cA_0 := A1.k0
    have cA_1 := A1.k1
    go_wp2_with fail
    refine bodyPost_ret (v := .tuple #[.agg #[.int .i64 0, .int .i64 0], .int .i64 q]) (by simp [results, Tryd.results67, go_sem, cR_b, cR_f, cR_0, cR_1, cA_b, cA_f, cA_0, cA_1]) rfl ⟨rfl, ?_⟩
    clear cR_b cR_f cR_0 cR_1 cA_b cA_f cA_0 cA_1
    exact (by have hz := B1.out.size; repeat (first | exact B1.out | refine below_drewN ?_ _ | refine Below.drew ?_ | refine Below.setCell ?_ (by first | omega | (simp; done) | (simp; omega)) _ | refine Below.alloc ?_ (by first | omega | (simp; done) | (simp; omega)) _))
set_option maxHeartbeats 4000000 in
set_option maxRecDepth 100000 in
theorem kread_none (s : ByteArray) (d : ByteArray) (c : Int) (ls : 0 < (s.size : Int)) (lm : (s.size : Int) ≤ 600) (IX : ∀ W, Sem.run Tryd.prog (Instr.index 9 (.string s) (.int .i64 ((s.size : Int) - 1))) W = .ok (.int .u8 c) W) (SL : ∀ W, Sem.run Tryd.prog (Instr.slice 9 (.string s) none (some (.int .i64 ((s.size : Int) - 1))) none) W = .ok (.string d) W) (g119 : (c == 119) = false) (g87 : (c == 87) = false) (g115 : (c == 115) = false) (g83 : (c == 83) = false) (g117 : (c == 117) = false) (g85 : (c == 85) = false) (g103 : (c == 103) = false) (g71 : (c == 71) = false) (g122 : (c == 122) = false) (g90 : (c == 90) = false) (n q : Int) (w : World) (CR : Hid (∀ W, Calls Tryd.prog 64 #[.string s] W fun e w' => e = .returned (.tuple #[.int .i64 n, .int .i64 q]) ∧ Below W.heap.size W w')) :
    Calls Tryd.prog 67 #[.string s] w fun e w' => e = .returned (.tuple #[.agg #[.int .i64 (Cl.fin n q 0).1, .int .i64 (Cl.fin n q 0).2.1], .int .i64 (Cl.fin n q 0).2.2]) ∧ Below w.heap.size w w' := by
  obtain ⟨f0, f1, f2, hF⟩ : ∃ f0 f1 f2, Cl.fin n q 0 = (f0, f1, f2) := ⟨_, _, _, rfl⟩
  rw [hF]
  have HX := Lib.hid hF; clear hF
  go_enter Tryd.func67, Tryd.ntmps67
  go_wp2_with fail
  refine (CR.out _).mono ?_; rintro e w1 ⟨rfl, b1⟩
  have d1 : Below w.heap.size w w1 := below_step (by repeat (first | exact Below.refl _ _ | refine below_drewN ?_ _ | refine Below.drew ?_ | refine Below.setCell ?_ (by first | (simp; done) | (simp; omega) | omega) _ | refine Below.alloc ?_ (by first | (simp; done) | (simp; omega) | omega) _)) b1
  have B1 := Lib.hid d1
  have R1 : Bk2 w1 (w.heap.size) (.int .i64 0) (.int .i64 0) := Bk2.of b1 (by simp <;> omega) (by intro j; simp [go_sem]) (by simp [go_sem]) (by simp [go_sem])
  have A1 : Bk2 w1 (w.heap.size + 1) (.int .i64 0) (.int .i64 0) := Bk2.of b1 (by simp <;> omega) (by intro j; simp [go_sem]) (by simp [go_sem]) (by simp [go_sem])
  clear b1 d1
  by_cases hq : q = 0
  · subst hq
    by_cases h0 : 0 ≤ n
    · by_cases h1 : n ≤ 172800
      · have HF := Lib.hid (fin_ok (show Cl.rB n 0 = true from rB_iff.2 ⟨h0, h1, by omega, by omega⟩))
        have g0 : ¬ n < 0 := by omega
        have g1 : ¬ 172800 < n := by omega
        obtain ⟨rfl, rfl, rfl⟩ : n = f0 ∧ 0 = f1 ∧ 0 = f2 := fin_inj (HF.out.symm.trans HX.out)
        have cR_b := R1.hb
        have cR_f := R1.fz
        have cR_0 := R1.k0
        have cR_1 := R1.k1
        have cA_b := A1.hb
        have cA_f := A1.fz
        have cA_0 := A1.k0
        have cA_1 := A1.k1
        go_wp2_with fail
        refine bodyPost_ret (v := .tuple #[.agg #[.int .i64 n, .int .i64 0], .int .i64 0]) (by simp [results, Tryd.results67, go_sem, cR_b, cR_f, cR_0, cR_1, cA_b, cA_f, cA_0, cA_1]) rfl ⟨rfl, ?_⟩
        clear cR_b cR_f cR_0 cR_1 cA_b cA_f cA_0 cA_1
        exact (by have hz := B1.out.size; repeat (first | exact B1.out | refine below_drewN ?_ _ | refine Below.drew ?_ | refine Below.setCell ?_ (by first | omega | (simp; done) | (simp; omega)) _ | refine Below.alloc ?_ (by first | omega | (simp; done) | (simp; omega)) _))
      · have HF := Lib.hid (fin_far (show Cl.rB n 0 = false by rw [Bool.eq_false_iff]; intro h; have := rB_iff.1 h; omega))
        have g0 : ¬ n < 0 := by omega
        have g1 : 172800 < n := by omega
        obtain ⟨rfl, rfl, rfl⟩ : 0 = f0 ∧ 0 = f1 ∧ 1 = f2 := fin_inj (HF.out.symm.trans HX.out)
        have cR_b := R1.hb
        have cR_f := R1.fz
        have cR_0 := R1.k0
        have cR_1 := R1.k1
        have cA_b := A1.hb
        have cA_f := A1.fz
        have cA_0 := A1.k0
        have cA_1 := A1.k1
        go_wp2_with fail
        refine bodyPost_ret (v := .tuple #[.agg #[.int .i64 0, .int .i64 0], .int .i64 1]) (by simp [results, Tryd.results67, go_sem, cR_b, cR_f, cR_0, cR_1, cA_b, cA_f, cA_0, cA_1]) rfl ⟨rfl, ?_⟩
        clear cR_b cR_f cR_0 cR_1 cA_b cA_f cA_0 cA_1
        exact (by have hz := B1.out.size; repeat (first | exact B1.out | refine below_drewN ?_ _ | refine Below.drew ?_ | refine Below.setCell ?_ (by first | omega | (simp; done) | (simp; omega)) _ | refine Below.alloc ?_ (by first | omega | (simp; done) | (simp; omega)) _))
    · have HF := Lib.hid (fin_far (show Cl.rB n 0 = false by rw [Bool.eq_false_iff]; intro h; have := rB_iff.1 h; omega))
      have g0 : n < 0 := by omega
      obtain ⟨rfl, rfl, rfl⟩ : 0 = f0 ∧ 0 = f1 ∧ 1 = f2 := fin_inj (HF.out.symm.trans HX.out)
      have cR_b := R1.hb
      have cR_f := R1.fz
      have cR_0 := R1.k0
      have cR_1 := R1.k1
      have cA_b := A1.hb
      have cA_f := A1.fz
      have cA_0 := A1.k0
      have cA_1 := A1.k1
      go_wp2_with fail
      refine bodyPost_ret (v := .tuple #[.agg #[.int .i64 0, .int .i64 0], .int .i64 1]) (by simp [results, Tryd.results67, go_sem, cR_b, cR_f, cR_0, cR_1, cA_b, cA_f, cA_0, cA_1]) rfl ⟨rfl, ?_⟩
      clear cR_b cR_f cR_0 cR_1 cA_b cA_f cA_0 cA_1
      exact (by have hz := B1.out.size; repeat (first | exact B1.out | refine below_drewN ?_ _ | refine Below.drew ?_ | refine Below.setCell ?_ (by first | omega | (simp; done) | (simp; omega)) _ | refine Below.alloc ?_ (by first | omega | (simp; done) | (simp; omega)) _))
  · have HF := Lib.hid (fin_err (n := n) (b := 0) hq)
    have g1 : (q == 0) = false := beq_eq_false_iff_ne.2 hq
    have g2 : (q != 0) = true := by unfold bne; rw [g1]; rfl
    obtain ⟨rfl, rfl, rfl⟩ : 0 = f0 ∧ 0 = f1 ∧ q = f2 := fin_inj (HF.out.symm.trans HX.out)
    have cR_b := R1.hb
    have cR_f := R1.fz
    have cR_0 := R1.k0
    have cR_1 := R1.k1
    have cA_b := A1.hb
    have cA_f := A1.fz
    have cA_0 := A1.k0
    have cA_1 := A1.k1
    go_wp2_with fail
    refine bodyPost_ret (v := .tuple #[.agg #[.int .i64 0, .int .i64 0], .int .i64 q]) (by simp [results, Tryd.results67, go_sem, cR_b, cR_f, cR_0, cR_1, cA_b, cA_f, cA_0, cA_1]) rfl ⟨rfl, ?_⟩
    clear cR_b cR_f cR_0 cR_1 cA_b cA_f cA_0 cA_1
    exact (by have hz := B1.out.size; repeat (first | exact B1.out | refine below_drewN ?_ _ | refine Below.drew ?_ | refine Below.setCell ?_ (by first | omega | (simp; done) | (simp; omega)) _ | refine Below.alloc ?_ (by first | omega | (simp; done) | (simp; omega)) _))
namespace Cl
theorem letters_of (c : UInt8) : (base c = 3 ∧ c ≠ 119 ∧ c ≠ 87 ∧ c ≠ 115 ∧ c ≠ 83 ∧ c ≠ 117 ∧ c ≠ 85 ∧ c ≠ 103 ∧ c ≠ 71 ∧ c ≠ 122 ∧ c ≠ 90) ∨ c = 119 ∨ c = 87 ∨ c = 115 ∨ c = 83 ∨ c = 117 ∨ c = 85 ∨ c = 103 ∨ c = 71 ∨ c = 122 ∨ c = 90 := by
  unfold base
  by_cases h1 : c = 119 ∨ c = 87
  · rcases h1 with h | h
    · exact .inr (.inl h)
    · exact .inr (.inr (.inl h))
  · by_cases h2 : c = 115 ∨ c = 83
    · rcases h2 with h | h
      · exact .inr (.inr (.inr (.inl h)))
      · exact .inr (.inr (.inr (.inr (.inl h))))
    · by_cases h3 : c = 117 ∨ c = 85 ∨ c = 103 ∨ c = 71 ∨ c = 122 ∨ c = 90
      · right; right; right; right; right; exact h3
      · left
        rw [if_neg h1, if_neg h2, if_neg h3]
        simp only [not_or] at h1 h2 h3
        exact ⟨rfl, h1.1, h1.2, h2.1, h2.2, h3⟩
theorem cutL_let {s : ByteArray} (h : 0 < s.size) (hb : base s[s.size - 1] ≠ 3) : cutL s = (s.extract 0 (s.size - 1), (base s[s.size - 1] : Int)) := by
  unfold cutL; rw [dif_pos h, if_neg hb]
theorem cutL_non {s : ByteArray} (h : 0 < s.size) (hb : base s[s.size - 1] = 3) : cutL s = (s, 0) := by
  unfold cutL; rw [dif_pos h, if_pos hb]
end Cl
theorem kread_any (s : ByteArray) (w : World) (hm : s.size ≤ 600) :
    Calls Tryd.prog 67 #[.string s] w fun e w' => e = .returned (.tuple #[.agg #[.int .i64 (Cl.rd s).1, .int .i64 (Cl.rd s).2.1], .int .i64 (Cl.rd s).2.2]) ∧ Below w.heap.size w w' := by
  rw [Cl.rd_fin]
  have CR := Lib.hid (fun W => raread_any (Cl.cutL s).1 W (Nat.le_trans (Cl.cutL_size s) hm))
  by_cases hz : 0 < s.size
  · have IX := last_ix s hz
    have SL := fun W => cut_hi2 s (s.extract 0 (s.size - 1)) W (by omega) rfl
    have neb : ∀ (l : UInt8), s[s.size - 1] ≠ l → (((s[s.size - 1]).toNat : Int) == (l.toNat : Int)) = false := fun l h => by
      rw [beq_eq_false_iff_ne]; intro e; exact h (UInt8.toNat_inj.1 (by omega))
    rcases Cl.letters_of s[s.size - 1] with ⟨h3, n1, n2, n3, n4, n5, n6, n7, n8, n9, n10⟩ | h | h | h | h | h | h | h | h | h | h
    · rw [Cl.cutL_non hz h3] at CR ⊢
      exact kread_none s _ _ (by omega) (by omega) IX SL (neb _ n1) (neb _ n2) (neb _ n3) (neb _ n4) (neb _ n5) (neb _ n6) (neb _ n7) (neb _ n8) (neb _ n9) (neb _ n10) _ _ w CR
    · have e := Cl.cutL_let hz (by rw [h]; decide)
      have eb : (Cl.base s[s.size - 1] : Int) = 0 := by rw [h]; decide
      rw [eb] at e
      rw [e] at CR ⊢
      exact kread_119 s _ (by omega) (by omega) (fun W => by have := IX W; rw [h] at this; exact this) SL _ _ w CR
    · have e := Cl.cutL_let hz (by rw [h]; decide)
      have eb : (Cl.base s[s.size - 1] : Int) = 0 := by rw [h]; decide
      rw [eb] at e
      rw [e] at CR ⊢
      exact kread_87 s _ (by omega) (by omega) (fun W => by have := IX W; rw [h] at this; exact this) SL _ _ w CR
    · have e := Cl.cutL_let hz (by rw [h]; decide)
      have eb : (Cl.base s[s.size - 1] : Int) = 1 := by rw [h]; decide
      rw [eb] at e
      rw [e] at CR ⊢
      exact kread_115 s _ (by omega) (by omega) (fun W => by have := IX W; rw [h] at this; exact this) SL _ _ w CR
    · have e := Cl.cutL_let hz (by rw [h]; decide)
      have eb : (Cl.base s[s.size - 1] : Int) = 1 := by rw [h]; decide
      rw [eb] at e
      rw [e] at CR ⊢
      exact kread_83 s _ (by omega) (by omega) (fun W => by have := IX W; rw [h] at this; exact this) SL _ _ w CR
    · have e := Cl.cutL_let hz (by rw [h]; decide)
      have eb : (Cl.base s[s.size - 1] : Int) = 2 := by rw [h]; decide
      rw [eb] at e
      rw [e] at CR ⊢
      exact kread_117 s _ (by omega) (by omega) (fun W => by have := IX W; rw [h] at this; exact this) SL _ _ w CR
    · have e := Cl.cutL_let hz (by rw [h]; decide)
      have eb : (Cl.base s[s.size - 1] : Int) = 2 := by rw [h]; decide
      rw [eb] at e
      rw [e] at CR ⊢
      exact kread_85 s _ (by omega) (by omega) (fun W => by have := IX W; rw [h] at this; exact this) SL _ _ w CR
    · have e := Cl.cutL_let hz (by rw [h]; decide)
      have eb : (Cl.base s[s.size - 1] : Int) = 2 := by rw [h]; decide
      rw [eb] at e
      rw [e] at CR ⊢
      exact kread_103 s _ (by omega) (by omega) (fun W => by have := IX W; rw [h] at this; exact this) SL _ _ w CR
    · have e := Cl.cutL_let hz (by rw [h]; decide)
      have eb : (Cl.base s[s.size - 1] : Int) = 2 := by rw [h]; decide
      rw [eb] at e
      rw [e] at CR ⊢
      exact kread_71 s _ (by omega) (by omega) (fun W => by have := IX W; rw [h] at this; exact this) SL _ _ w CR
    · have e := Cl.cutL_let hz (by rw [h]; decide)
      have eb : (Cl.base s[s.size - 1] : Int) = 2 := by rw [h]; decide
      rw [eb] at e
      rw [e] at CR ⊢
      exact kread_122 s _ (by omega) (by omega) (fun W => by have := IX W; rw [h] at this; exact this) SL _ _ w CR
    · have e := Cl.cutL_let hz (by rw [h]; decide)
      have eb : (Cl.base s[s.size - 1] : Int) = 2 := by rw [h]; decide
      rw [eb] at e
      rw [e] at CR ⊢
      exact kread_90 s _ (by omega) (by omega) (fun W => by have := IX W; rw [h] at this; exact this) SL _ _ w CR
  · have e : Cl.cutL s = (s, 0) := by unfold Cl.cutL; rw [dif_neg hz]
    rw [e] at CR ⊢
    exact kread_nil s (by omega) _ _ w CR
end Go.Proofs.YtafnnnbefabofaaDoor

