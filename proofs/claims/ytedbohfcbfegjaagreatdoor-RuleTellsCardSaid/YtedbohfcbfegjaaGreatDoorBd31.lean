/- Joined: RkD, RuC, YrE0. -/
import Derived.Test.YtedbohfcbfegjaaGreatDoorBd29
import Derived.Test.YtedbohfcbfegjaaGreatDoorBd30
import Derived.Test.YtedbohfcbfegjaaGreatDoorBd26
import Derived.Test.YtedbohfcbfegjaaGreatDoorBd28
import Derived.Test.YtedbohfcbfegjaaGreatDoorBd13
/- Clocks: the reference's Read, any text. -/
set_option linter.unusedVariables false
set_option linter.unusedSimpArgs false
namespace Go.Proofs.YtedbohfcbfegjaaGreatDoor
open Go.RowKit Go.Sort

set_option maxHeartbeats 4000000 in
set_option maxRecDepth 100000 in
theorem kread_nil (s : ByteArray) (ls : ¬ 0 < (s.size : Int)) (n q : Int) (w : World) (CR : Hid (∀ W, Calls Tryz.prog 63 #[.string s] W fun e w' => e = .returned (.tuple #[.int .i64 n, .int .i64 q]) ∧ Below W.heap.size W w')) :
    Calls Tryz.prog 33 #[.string s] w fun e w' => e = .returned (.tuple #[.agg #[.int .i64 (Cl.fin n q 0).1, .int .i64 (Cl.fin n q 0).2.1], .int .i64 (Cl.fin n q 0).2.2]) ∧ Below w.heap.size w w' := by
  obtain ⟨f0, f1, f2, hF⟩ : ∃ f0 f1 f2, Cl.fin n q 0 = (f0, f1, f2) := ⟨_, _, _, rfl⟩
  rw [hF]
  have HX := Lib.hid hF; clear hF
  go_enter Tryz.func33, Tryz.ntmps33
  go_wp2_with fail
  refine (CR.out _).mono ?_; rintro e w1 ⟨rfl, b1⟩
  have d1 : Below w.heap.size w w1 := below_step (by repeat (first | exact Below.refl _ _ | refine below_drewN ?_ _ | refine Below.drew ?_ | refine Below.setCell ?_ (by first | (simp; done) | (simp; omega) | omega) _ | refine Below.alloc ?_ (by first | (simp; done) | (simp; omega) | omega) _)) b1
  have B1 := Lib.hid d1
  have R1 : Bk2 w1 (w.heap.size) (.int .i64 0) (.int .i64 0) := Bk2.of b1 (by simp <;> omega) (by intro j; simp [go_sem]) (by simp [go_sem]) (by simp [go_sem])
  have A1 : Bk2 w1 (w.heap.size + 1) (.int .i64 0) (.int .i64 0) := Bk2.of b1 (by simp <;> omega) (by intro j; simp [go_sem]) (by simp [go_sem]) (by simp [go_sem])
  clear b1 d1
  by_cases hq : q = 0
  · subst hq
    by_cases h0 : 0 ≤ n
    · by_cases h1 : n ≤ 172800
      · have HF := Lib.hid (fin_ok (show Cl.rB n 0 = true from rB_iff.2 ⟨h0, h1, by omega, by omega⟩))
        have g0 : ¬ n < 0 := by omega
        have g1 : ¬ 172800 < n := by omega
        obtain ⟨rfl, rfl, rfl⟩ : n = f0 ∧ 0 = f1 ∧ 0 = f2 := fin_inj (HF.out.symm.trans HX.out)
        have cR_b := R1.hb
        have cR_f := R1.fz
        have cR_0 := R1.k0
        have cR_1 := R1.k1
        have cA_b := A1.hb
        have cA_f := A1.fz
        have cA_0 := A1.k0
        have cA_1 := A1.k1
        go_wp2_with fail
        refine bodyPost_ret (v := .tuple #[.agg #[.int .i64 n, .int .i64 0], .int .i64 0]) (by simp [results, Tryz.results33, go_sem, cR_b, cR_f, cR_0, cR_1, cA_b, cA_f, cA_0, cA_1]) rfl ⟨rfl, ?_⟩
        clear cR_b cR_f cR_0 cR_1 cA_b cA_f cA_0 cA_1
        exact (by have hz := B1.out.size; repeat (first | exact B1.out | refine below_drewN ?_ _ | refine Below.drew ?_ | refine Below.setCell ?_ (by first | omega | (simp; done) | (simp; omega)) _ | refine Below.alloc ?_ (by first | omega | (simp; done) | (simp; omega)) _))
      · have HF := Lib.hid (fin_far (show Cl.rB n 0 = false by rw [Bool.eq_false_iff]; intro h; have := rB_iff.1 h; omega))
        have g0 : ¬ n < 0 := by omega
        have g1 : 172800 < n := by omega
        obtain ⟨rfl, rfl, rfl⟩ : 0 = f0 ∧ 0 = f1 ∧ 1 = f2 := fin_inj (HF.out.symm.trans HX.out)
        have cR_b := R1.hb
        have cR_f := R1.fz
        have cR_0 := R1.k0
        have cR_1 := R1.k1
        have cA_b := A1.hb
        have cA_f := A1.fz
        have cA_0 := A1.k0
        have cA_1 := A1.k1
        go_wp2_with fail
        refine bodyPost_ret (v := .tuple #[.agg #[.int .i64 0, .int .i64 0], .int .i64 1]) (by simp [results, Tryz.results33, go_sem, cR_b, cR_f, cR_0, cR_1, cA_b, cA_f, cA_0, cA_1]) rfl ⟨rfl, ?_⟩
        clear cR_b cR_f cR_0 cR_1 cA_b cA_f cA_0 cA_1
        exact (by have hz := B1.out.size; repeat (first | exact B1.out | refine below_drewN ?_ _ | refine Below.drew ?_ | refine Below.setCell ?_ (by first | omega | (simp; done) | (simp; omega)) _ | refine Below.alloc ?_ (by first | omega | (simp; done) | (simp; omega)) _))
    · have HF := Lib.hid (fin_far (show Cl.rB n 0 = false by rw [Bool.eq_false_iff]; intro h; have := rB_iff.1 h; omega))
      have g0 : n < 0 := by omega
      obtain ⟨rfl, rfl, rfl⟩ : 0 = f0 ∧ 0 = f1 ∧ 1 = f2 := fin_inj (HF.out.symm.trans HX.out)
      have cR_b := R1.hb
      have cR_f := R1.fz
      have cR_0 := R1.k0
      have cR_1 := R1.k1
      have cA_b := A1.hb
      have cA_f := A1.fz
      have cA_0 := A1.k0
      have cA_1 := A1.k1
      go_wp2_with fail
      refine bodyPost_ret (v := .tuple #[.agg #[.int .i64 0, .int .i64 0], .int .i64 1]) (by simp [results, Tryz.results33, go_sem, cR_b, cR_f, cR_0, cR_1, cA_b, cA_f, cA_0, cA_1]) rfl ⟨rfl, ?_⟩
      clear cR_b cR_f cR_0 cR_1 cA_b cA_f cA_0 cA_1
      exact (by have hz := B1.out.size; repeat (first | exact B1.out | refine below_drewN ?_ _ | refine Below.drew ?_ | refine Below.setCell ?_ (by first | omega | (simp; done) | (simp; omega)) _ | refine Below.alloc ?_ (by first | omega | (simp; done) | (simp; omega)) _))
  · have HF := Lib.hid (fin_err (n := n) (b := 0) hq)
    have g1 : (q == 0) = false := beq_eq_false_iff_ne.2 hq
    have g2 : (q != 0) = true := by unfold bne; rw [g1]; rfl
    obtain ⟨rfl, rfl, rfl⟩ : 0 = f0 ∧ 0 = f1 ∧ q = f2 := fin_inj (HF.out.symm.trans HX.out)
    have cR_b := R1.hb
    have cR_f := R1.fz
    have cR_0 := R1.k0
    have cR_1 := R1.k1
    have cA_b := A1.hb
    have cA_f := A1.fz
    have cA_0 := A1.k0
    have cA_1 := A1.k1
    go_wp2_with fail
    refine bodyPost_ret (v := .tuple #[.agg #[.int .i64 0, .int .i64 0], .int .i64 q]) (by simp [results, Tryz.results33, go_sem, cR_b, cR_f, cR_0, cR_1, cA_b, cA_f, cA_0, cA_1]) rfl ⟨rfl, ?_⟩
    clear cR_b cR_f cR_0 cR_1 cA_b cA_f cA_0 cA_1
    exact (by have hz := B1.out.size; repeat (first | exact B1.out | refine below_drewN ?_ _ | refine Below.drew ?_ | refine Below.setCell ?_ (by first | omega | (simp; done) | (simp; omega)) _ | refine Below.alloc ?_ (by first | omega | (simp; done) | (simp; omega)) _))
set_option maxHeartbeats 4000000 in
set_option maxRecDepth 100000 in
theorem kread_none (s : ByteArray) (d : ByteArray) (c : Int) (ls : 0 < (s.size : Int)) (lm : (s.size : Int) ≤ 600) (IX : ∀ W, Sem.run Tryz.prog (Instr.index 9 (.string s) (.int .i64 ((s.size : Int) - 1))) W = .ok (.int .u8 c) W) (SL : ∀ W, Sem.run Tryz.prog (Instr.slice 9 (.string s) none (some (.int .i64 ((s.size : Int) - 1))) none) W = .ok (.string d) W) (g119 : (c == 119) = false) (g87 : (c == 87) = false) (g115 : (c == 115) = false) (g83 : (c == 83) = false) (g117 : (c == 117) = false) (g85 : (c == 85) = false) (g103 : (c == 103) = false) (g71 : (c == 71) = false) (g122 : (c == 122) = false) (g90 : (c == 90) = false) (n q : Int) (w : World) (CR : Hid (∀ W, Calls Tryz.prog 63 #[.string s] W fun e w' => e = .returned (.tuple #[.int .i64 n, .int .i64 q]) ∧ Below W.heap.size W w')) :
    Calls Tryz.prog 33 #[.string s] w fun e w' => e = .returned (.tuple #[.agg #[.int .i64 (Cl.fin n q 0).1, .int .i64 (Cl.fin n q 0).2.1], .int .i64 (Cl.fin n q 0).2.2]) ∧ Below w.heap.size w w' := by
  obtain ⟨f0, f1, f2, hF⟩ : ∃ f0 f1 f2, Cl.fin n q 0 = (f0, f1, f2) := ⟨_, _, _, rfl⟩
  rw [hF]
  have HX := Lib.hid hF; clear hF
  go_enter Tryz.func33, Tryz.ntmps33
  go_wp2_with fail
  refine (CR.out _).mono ?_; rintro e w1 ⟨rfl, b1⟩
  have d1 : Below w.heap.size w w1 := below_step (by repeat (first | exact Below.refl _ _ | refine below_drewN ?_ _ | refine Below.drew ?_ | refine Below.setCell ?_ (by first | (simp; done) | (simp; omega) | omega) _ | refine Below.alloc ?_ (by first | (simp; done) | (simp; omega) | omega) _)) b1
  have B1 := Lib.hid d1
  have R1 : Bk2 w1 (w.heap.size) (.int .i64 0) (.int .i64 0) := Bk2.of b1 (by simp <;> omega) (by intro j; simp [go_sem]) (by simp [go_sem]) (by simp [go_sem])
  have A1 : Bk2 w1 (w.heap.size + 1) (.int .i64 0) (.int .i64 0) := Bk2.of b1 (by simp <;> omega) (by intro j; simp [go_sem]) (by simp [go_sem]) (by simp [go_sem])
  clear b1 d1
  by_cases hq : q = 0
  · subst hq
    by_cases h0 : 0 ≤ n
    · by_cases h1 : n ≤ 172800
      · have HF := Lib.hid (fin_ok (show Cl.rB n 0 = true from rB_iff.2 ⟨h0, h1, by omega, by omega⟩))
        have g0 : ¬ n < 0 := by omega
        have g1 : ¬ 172800 < n := by omega
        obtain ⟨rfl, rfl, rfl⟩ : n = f0 ∧ 0 = f1 ∧ 0 = f2 := fin_inj (HF.out.symm.trans HX.out)
        have cR_b := R1.hb
        have cR_f := R1.fz
        have cR_0 := R1.k0
        have cR_1 := R1.k1
        have cA_b := A1.hb
        have cA_f := A1.fz
        have cA_0 := A1.k0
        have cA_1 := A1.k1
        go_wp2_with fail
        refine bodyPost_ret (v := .tuple #[.agg #[.int .i64 n, .int .i64 0], .int .i64 0]) (by simp [results, Tryz.results33, go_sem, cR_b, cR_f, cR_0, cR_1, cA_b, cA_f, cA_0, cA_1]) rfl ⟨rfl, ?_⟩
        clear cR_b cR_f cR_0 cR_1 cA_b cA_f cA_0 cA_1
        exact (by have hz := B1.out.size; repeat (first | exact B1.out | refine below_drewN ?_ _ | refine Below.drew ?_ | refine Below.setCell ?_ (by first | omega | (simp; done) | (simp; omega)) _ | refine Below.alloc ?_ (by first | omega | (simp; done) | (simp; omega)) _))
      · have HF := Lib.hid (fin_far (show Cl.rB n 0 = false by rw [Bool.eq_false_iff]; intro h; have := rB_iff.1 h; omega))
        have g0 : ¬ n < 0 := by omega
        have g1 : 172800 < n := by omega
        obtain ⟨rfl, rfl, rfl⟩ : 0 = f0 ∧ 0 = f1 ∧ 1 = f2 := fin_inj (HF.out.symm.trans HX.out)
        have cR_b := R1.hb
        have cR_f := R1.fz
        have cR_0 := R1.k0
        have cR_1 := R1.k1
        have cA_b := A1.hb
        have cA_f := A1.fz
        have cA_0 := A1.k0
        have cA_1 := A1.k1
        go_wp2_with fail
        refine bodyPost_ret (v := .tuple #[.agg #[.int .i64 0, .int .i64 0], .int .i64 1]) (by simp [results, Tryz.results33, go_sem, cR_b, cR_f, cR_0, cR_1, cA_b, cA_f, cA_0, cA_1]) rfl ⟨rfl, ?_⟩
        clear cR_b cR_f cR_0 cR_1 cA_b cA_f cA_0 cA_1
        exact (by have hz := B1.out.size; repeat (first | exact B1.out | refine below_drewN ?_ _ | refine Below.drew ?_ | refine Below.setCell ?_ (by first | omega | (simp; done) | (simp; omega)) _ | refine Below.alloc ?_ (by first | omega | (simp; done) | (simp; omega)) _))
    · have HF := Lib.hid (fin_far (show Cl.rB n 0 = false by rw [Bool.eq_false_iff]; intro h; have := rB_iff.1 h; omega))
      have g0 : n < 0 := by omega
      obtain ⟨rfl, rfl, rfl⟩ : 0 = f0 ∧ 0 = f1 ∧ 1 = f2 := fin_inj (HF.out.symm.trans HX.out)
      have cR_b := R1.hb
      have cR_f := R1.fz
      have cR_0 := R1.k0
      have cR_1 := R1.k1
      have cA_b := A1.hb
      have cA_f := A1.fz
      have cA_0 := A1.k0
      have cA_1 := A1.k1
      go_wp2_with fail
      refine bodyPost_ret (v := .tuple #[.agg #[.int .i64 0, .int .i64 0], .int .i64 1]) (by simp [results, Tryz.results33, go_sem, cR_b, cR_f, cR_0, cR_1, cA_b, cA_f, cA_0, cA_1]) rfl ⟨rfl, ?_⟩
      clear cR_b cR_f cR_0 cR_1 cA_b cA_f cA_0 cA_1
      exact (by have hz := B1.out.size; repeat (first | exact B1.out | refine below_drewN ?_ _ | refine Below.drew ?_ | refine Below.setCell ?_ (by first | omega | (simp; done) | (simp; omega)) _ | refine Below.alloc ?_ (by first | omega | (simp; done) | (simp; omega)) _))
  · have HF := Lib.hid (fin_err (n := n) (b := 0) hq)
    have g1 : (q == 0) = false := beq_eq_false_iff_ne.2 hq
    have g2 : (q != 0) = true := by unfold bne; rw [g1]; rfl
    obtain ⟨rfl, rfl, rfl⟩ : 0 = f0 ∧ 0 = f1 ∧ q = f2 := fin_inj (HF.out.symm.trans HX.out)
    have cR_b := R1.hb
    have cR_f := R1.fz
    have cR_0 := R1.k0
    have cR_1 := R1.k1
    have cA_b := A1.hb
    have cA_f := A1.fz
    have cA_0 := A1.k0
    have cA_1 := A1.k1
    go_wp2_with fail
    refine bodyPost_ret (v := .tuple #[.agg #[.int .i64 0, .int .i64 0], .int .i64 q]) (by simp [results, Tryz.results33, go_sem, cR_b, cR_f, cR_0, cR_1, cA_b, cA_f, cA_0, cA_1]) rfl ⟨rfl, ?_⟩
    clear cR_b cR_f cR_0 cR_1 cA_b cA_f cA_0 cA_1
    exact (by have hz := B1.out.size; repeat (first | exact B1.out | refine below_drewN ?_ _ | refine Below.drew ?_ | refine Below.setCell ?_ (by first | omega | (simp; done) | (simp; omega)) _ | refine Below.alloc ?_ (by first | omega | (simp; done) | (simp; omega)) _))
namespace Cl
theorem letters_of (c : UInt8) : (base c = 3 ∧ c ≠ 119 ∧ c ≠ 87 ∧ c ≠ 115 ∧ c ≠ 83 ∧ c ≠ 117 ∧ c ≠ 85 ∧ c ≠ 103 ∧ c ≠ 71 ∧ c ≠ 122 ∧ c ≠ 90) ∨ c = 119 ∨ c = 87 ∨ c = 115 ∨ c = 83 ∨ c = 117 ∨ c = 85 ∨ c = 103 ∨ c = 71 ∨ c = 122 ∨ c = 90 := by
  unfold base
  by_cases h1 : c = 119 ∨ c = 87
  · rcases h1 with h | h
    · exact .inr (.inl h)
    · exact .inr (.inr (.inl h))
  · by_cases h2 : c = 115 ∨ c = 83
    · rcases h2 with h | h
      · exact .inr (.inr (.inr (.inl h)))
      · exact .inr (.inr (.inr (.inr (.inl h))))
    · by_cases h3 : c = 117 ∨ c = 85 ∨ c = 103 ∨ c = 71 ∨ c = 122 ∨ c = 90
      · right; right; right; right; right; exact h3
      · left
        rw [if_neg h1, if_neg h2, if_neg h3]
        simp only [not_or] at h1 h2 h3
        exact ⟨rfl, h1.1, h1.2, h2.1, h2.2, h3⟩
theorem cutL_let {s : ByteArray} (h : 0 < s.size) (hb : base s[s.size - 1] ≠ 3) : cutL s = (s.extract 0 (s.size - 1), (base s[s.size - 1] : Int)) := by
  unfold cutL; rw [dif_pos h, if_neg hb]
theorem cutL_non {s : ByteArray} (h : 0 < s.size) (hb : base s[s.size - 1] = 3) : cutL s = (s, 0) := by
  unfold cutL; rw [dif_pos h, if_pos hb]
end Cl
theorem kread_any (s : ByteArray) (w : World) (hm : s.size ≤ 600) :
    Calls Tryz.prog 33 #[.string s] w fun e w' => e = .returned (.tuple #[.agg #[.int .i64 (Cl.rd s).1, .int .i64 (Cl.rd s).2.1], .int .i64 (Cl.rd s).2.2]) ∧ Below w.heap.size w w' := by
  rw [Cl.rd_fin]
  have CR := Lib.hid (fun W => raread_any (Cl.cutL s).1 W (Nat.le_trans (Cl.cutL_size s) hm))
  by_cases hz : 0 < s.size
  · have IX := last_ix s hz
    have SL := fun W => cut_hi2 s (s.extract 0 (s.size - 1)) W (by omega) rfl
    have neb : ∀ (l : UInt8), s[s.size - 1] ≠ l → (((s[s.size - 1]).toNat : Int) == (l.toNat : Int)) = false := fun l h => by
      rw [beq_eq_false_iff_ne]; intro e; exact h (UInt8.toNat_inj.1 (by omega))
    rcases Cl.letters_of s[s.size - 1] with ⟨h3, n1, n2, n3, n4, n5, n6, n7, n8, n9, n10⟩ | h | h | h | h | h | h | h | h | h | h
    · rw [Cl.cutL_non hz h3] at CR ⊢
      exact kread_none s _ _ (by omega) (by omega) IX SL (neb _ n1) (neb _ n2) (neb _ n3) (neb _ n4) (neb _ n5) (neb _ n6) (neb _ n7) (neb _ n8) (neb _ n9) (neb _ n10) _ _ w CR
    · have e := Cl.cutL_let hz (by rw [h]; decide)
      have eb : (Cl.base s[s.size - 1] : Int) = 0 := by rw [h]; decide
      rw [eb] at e
      rw [e] at CR ⊢
      exact kread_119 s _ (by omega) (by omega) (fun W => by have := IX W; rw [h] at this; exact this) SL _ _ w CR
    · have e := Cl.cutL_let hz (by rw [h]; decide)
      have eb : (Cl.base s[s.size - 1] : Int) = 0 := by rw [h]; decide
      rw [eb] at e
      rw [e] at CR ⊢
      exact kread_87 s _ (by omega) (by omega) (fun W => by have := IX W; rw [h] at this; exact this) SL _ _ w CR
    · have e := Cl.cutL_let hz (by rw [h]; decide)
      have eb : (Cl.base s[s.size - 1] : Int) = 1 := by rw [h]; decide
      rw [eb] at e
      rw [e] at CR ⊢
      exact kread_115 s _ (by omega) (by omega) (fun W => by have := IX W; rw [h] at this; exact this) SL _ _ w CR
    · have e := Cl.cutL_let hz (by rw [h]; decide)
      have eb : (Cl.base s[s.size - 1] : Int) = 1 := by rw [h]; decide
      rw [eb] at e
      rw [e] at CR ⊢
      exact kread_83 s _ (by omega) (by omega) (fun W => by have := IX W; rw [h] at this; exact this) SL _ _ w CR
    · have e := Cl.cutL_let hz (by rw [h]; decide)
      have eb : (Cl.base s[s.size - 1] : Int) = 2 := by rw [h]; decide
      rw [eb] at e
      rw [e] at CR ⊢
      exact kread_117 s _ (by omega) (by omega) (fun W => by have := IX W; rw [h] at this; exact this) SL _ _ w CR
    · have e := Cl.cutL_let hz (by rw [h]; decide)
      have eb : (Cl.base s[s.size - 1] : Int) = 2 := by rw [h]; decide
      rw [eb] at e
      rw [e] at CR ⊢
      exact kread_85 s _ (by omega) (by omega) (fun W => by have := IX W; rw [h] at this; exact this) SL _ _ w CR
    · have e := Cl.cutL_let hz (by rw [h]; decide)
      have eb : (Cl.base s[s.size - 1] : Int) = 2 := by rw [h]; decide
      rw [eb] at e
      rw [e] at CR ⊢
      exact kread_103 s _ (by omega) (by omega) (fun W => by have := IX W; rw [h] at this; exact this) SL _ _ w CR
    · have e := Cl.cutL_let hz (by rw [h]; decide)
      have eb : (Cl.base s[s.size - 1] : Int) = 2 := by rw [h]; decide
      rw [eb] at e
      rw [e] at CR ⊢
      exact kread_71 s _ (by omega) (by omega) (fun W => by have := IX W; rw [h] at this; exact this) SL _ _ w CR
    · have e := Cl.cutL_let hz (by rw [h]; decide)
      have eb : (Cl.base s[s.size - 1] : Int) = 2 := by rw [h]; decide
      rw [eb] at e
      rw [e] at CR ⊢
      exact kread_122 s _ (by omega) (by omega) (fun W => by have := IX W; rw [h] at this; exact this) SL _ _ w CR
    · have e := Cl.cutL_let hz (by rw [h]; decide)
      have eb : (Cl.base s[s.size - 1] : Int) = 2 := by rw [h]; decide
      rw [eb] at e
      rw [e] at CR ⊢
      exact kread_90 s _ (by omega) (by omega) (fun W => by have := IX W; rw [h] at this; exact this) SL _ _ w CR
  · have e : Cl.cutL s = (s, 0) := by unfold Cl.cutL; rw [dif_neg hz]
    rw [e] at CR ⊢
    exact kread_nil s (by omega) _ _ w CR
end Go.Proofs.YtedbohfcbfegjaaGreatDoor

/- Rules: the reference's Day and Save. -/
set_option linter.unusedVariables false
set_option linter.unusedSimpArgs false
namespace Go.Proofs.YtedbohfcbfegjaaGreatDoor
open Go.RowKit Go.Sort

set_option maxHeartbeats 2000000 in
theorem rsave_any (s : ByteArray) (w : World) (hm : s.size ≤ 600) :
    Calls Tryz.prog 34 #[.string s] w fun e w' => e = .returned (.tuple #[.int .i64 (Ru.sv s).1, .int .i64 (Ru.sv s).2]) ∧ Below w.heap.size w w' := by
  have AR := Lib.hid (fun W => raread_any s W hm)
  clear hm
  unfold Ru.sv
  generalize (Am.rd s).1 = n at *
  generalize (Am.rd s).2 = q at *
  unfold Ru.svF
  by_cases hq : q = 0
  · subst hq
    by_cases h1 : n < -10800
    · rw [if_pos ⟨rfl, .inl h1⟩]
      have g1 : decide (n < -10800) = true := decide_eq_true h1
      go_enter Tryz.func34, Tryz.ntmps34
      go_wp2_with fail
      refine (AR.out _).mono ?_; rintro e w1 ⟨rfl, b1⟩
      have d1 : Below w.heap.size w w1 := below_step (by repeat (first | exact Below.refl _ _ | refine below_drewN ?_ _ | refine Below.drew ?_ | refine Below.setCell ?_ (by first | (simp; done) | (simp; omega) | omega) _ | refine Below.alloc ?_ (by first | (simp; done) | (simp; omega) | omega) _)) b1
      have B1 := Lib.hid d1
      clear b1 d1
      go_wp2_with fail
      go_ret2
      exact ⟨rfl, (by have hz := B1.out.size; repeat (first | exact B1.out | refine below_drewN ?_ _ | refine Below.drew ?_ | refine Below.setCell ?_ (by first | omega | (simp; done) | (simp; omega)) _ | refine Below.alloc ?_ (by first | omega | (simp; done) | (simp; omega)) _))⟩
    · have g1 : decide (n < -10800) = false := decide_eq_false h1
      by_cases h2 : 10800 < n
      · rw [if_pos ⟨rfl, .inr h2⟩]
        have g2 : decide (10800 < n) = true := decide_eq_true h2
        go_enter Tryz.func34, Tryz.ntmps34
        go_wp2_with fail
        refine (AR.out _).mono ?_; rintro e w1 ⟨rfl, b1⟩
        have d1 : Below w.heap.size w w1 := below_step (by repeat (first | exact Below.refl _ _ | refine below_drewN ?_ _ | refine Below.drew ?_ | refine Below.setCell ?_ (by first | (simp; done) | (simp; omega) | omega) _ | refine Below.alloc ?_ (by first | (simp; done) | (simp; omega) | omega) _)) b1
        have B1 := Lib.hid d1
        clear b1 d1
        go_wp2_with fail
        go_ret2
        exact ⟨rfl, (by have hz := B1.out.size; repeat (first | exact B1.out | refine below_drewN ?_ _ | refine Below.drew ?_ | refine Below.setCell ?_ (by first | omega | (simp; done) | (simp; omega)) _ | refine Below.alloc ?_ (by first | omega | (simp; done) | (simp; omega)) _))⟩
      · rw [if_neg (by omega)]
        have g2 : decide (10800 < n) = false := decide_eq_false h2
        go_enter Tryz.func34, Tryz.ntmps34
        go_wp2_with fail
        refine (AR.out _).mono ?_; rintro e w1 ⟨rfl, b1⟩
        have d1 : Below w.heap.size w w1 := below_step (by repeat (first | exact Below.refl _ _ | refine below_drewN ?_ _ | refine Below.drew ?_ | refine Below.setCell ?_ (by first | (simp; done) | (simp; omega) | omega) _ | refine Below.alloc ?_ (by first | (simp; done) | (simp; omega) | omega) _)) b1
        have B1 := Lib.hid d1
        clear b1 d1
        go_wp2_with fail
        go_ret2
        exact ⟨rfl, (by have hz := B1.out.size; repeat (first | exact B1.out | refine below_drewN ?_ _ | refine Below.drew ?_ | refine Below.setCell ?_ (by first | omega | (simp; done) | (simp; omega)) _ | refine Below.alloc ?_ (by first | omega | (simp; done) | (simp; omega)) _))⟩
  · rw [if_neg (by omega)]
    have g0 : (q == 0) = false := by rw [beq_eq_false_iff_ne]; exact hq
    go_enter Tryz.func34, Tryz.ntmps34
    go_wp2_with fail
    refine (AR.out _).mono ?_; rintro e w1 ⟨rfl, b1⟩
    have d1 : Below w.heap.size w w1 := below_step (by repeat (first | exact Below.refl _ _ | refine below_drewN ?_ _ | refine Below.drew ?_ | refine Below.setCell ?_ (by first | (simp; done) | (simp; omega) | omega) _ | refine Below.alloc ?_ (by first | (simp; done) | (simp; omega) | omega) _)) b1
    have B1 := Lib.hid d1
    clear b1 d1
    go_wp2_with fail
    go_ret2
    exact ⟨rfl, (by have hz := B1.out.size; repeat (first | exact B1.out | refine below_drewN ?_ _ | refine Below.drew ?_ | refine Below.setCell ?_ (by first | omega | (simp; done) | (simp; omega)) _ | refine Below.alloc ?_ (by first | omega | (simp; done) | (simp; omega)) _))⟩
set_option maxHeartbeats 2000000 in
theorem rday21_any (s : ByteArray) (m : Int) (w : World) (hs : s.size ≤ 1000) :
    Calls Tryz.prog 32 #[.string s, .int .i64 m] w fun e w' => e = .returned (.tuple #[.agg #[.int .i64 (Ru.dy s.data.toList m).1, .int .i64 (Ru.dy s.data.toList m).2.1, .int .i64 (Ru.dy s.data.toList m).2.2.1], .int .i64 (Ru.dy s.data.toList m).2.2.2]) ∧ Below w.heap.size w w' := by
  have AR0 := Lib.hid (fun W => rdread_any s W hs)
  have AR : Hid (∀ W, Calls Tryz.prog 95 #[.string s] W fun e w' => e = .returned (.tuple #[.agg #[.int .i64 (Ds.rd s.data.toList).1, .int .i64 (Ds.rd s.data.toList).2.1, .int .i64 (Ds.rd s.data.toList).2.2.1], .int .i64 (Ds.rd s.data.toList).2.2.2]) ∧ Below W.heap.size W w') := Lib.hid (fun W => (AR0.out W).mono fun _ _ ⟨h1, h2⟩ => ⟨h1, h2⟩)
  clear AR0 hs
  unfold Ru.dy
  generalize (Ds.rd s.data.toList).1 = k at *
  generalize (Ds.rd s.data.toList).2.1 = wk at *
  generalize (Ds.rd s.data.toList).2.2.1 = d at *
  generalize (Ds.rd s.data.toList).2.2.2 = q at *
  have OF := Lib.hid (fun W => rofits_any k wk d m W)
  unfold Ru.dyF
  by_cases hq : q = 0
  · subst hq
    cases ho : Dr.onF k wk d m
    · rw [ho] at OF
      clear ho
      rw [if_pos ⟨rfl, rfl⟩]
      go_enter Tryz.func32, Tryz.ntmps32
      go_wp2_with fail
      refine (AR.out _).mono ?_; rintro e w1 ⟨rfl, b1⟩
      have d1 : Below w.heap.size w w1 := below_step (by repeat (first | exact Below.refl _ _ | refine below_drewN ?_ _ | refine Below.drew ?_ | refine Below.setCell ?_ (by first | (simp; done) | (simp; omega) | omega) _ | refine Below.alloc ?_ (by first | (simp; done) | (simp; omega) | omega) _)) b1
      have B1 := Lib.hid d1
      have Y1 : Bk3 w1 (w.heap.size) (.int .i64 0) (.int .i64 0) (.int .i64 0) := Bk3.of b1 (by simp <;> omega) (by intro j; simp [go_sem]) (by simp [go_sem]) (by simp [go_sem]) (by simp [go_sem])
      clear b1 d1
      have cY_b := Y1.hb
      have cY_f := Y1.fz
      have cY_0 := Y1.k0
      have cY_1 := Y1.k1
      have cY_2 := Y1.k2
      go_wp2_with fail
      clear cY_b cY_f cY_0 cY_1 cY_2
      refine (OF.out _).mono ?_; rintro e w2 ⟨rfl, b2⟩
      have d2 : Below w1.heap.size w1 w2 := below_step (by repeat (first | exact Below.refl _ _ | refine below_drewN ?_ _ | refine Below.drew ?_ | refine Below.setCell ?_ (by first | (simp; done) | (simp; omega) | omega) _ | refine Below.alloc ?_ (by first | (simp; done) | (simp; omega) | omega) _)) b2
      have B2 := Lib.hid (below_step B1.out d2)
      have Y2 := Y1.keep d2
      have aZ := B1.out.size
      have nZY := Nat.ne_of_lt Y1.hb
      have oZY := Nat.ne_of_gt Y1.hb
      have Z2 : Bk3 w2 (w1.heap.size) (.int .i64 k) (.int .i64 wk) (.int .i64 d) := Bk3.of b2 (by simp <;> omega) (by intro j; simp [go_sem]) (by simp [go_sem]) (by simp [go_sem]) (by simp [go_sem])
      clear Y1 b2 d2 B1
      have cY_b := Y2.hb
      have cY_f := Y2.fz
      have cY_0 := Y2.k0
      have cY_1 := Y2.k1
      have cY_2 := Y2.k2
      have cZ_b := Z2.hb
      have cZ_f := Z2.fz
      have cZ_0 := Z2.k0
      have cZ_1 := Z2.k1
      have cZ_2 := Z2.k2
      go_wp2_with fail
      refine bodyPost_ret (v := .tuple #[.agg #[.int .i64 0, .int .i64 0, .int .i64 0], .int .i64 1]) (by simp [results, Tryz.results32, go_sem, cY_b, cY_f, cY_0, cY_1, cY_2, cZ_b, cZ_f, cZ_0, cZ_1, cZ_2]) rfl ⟨rfl, ?_⟩
      clear cY_b cY_f cY_0 cY_1 cY_2 cZ_b cZ_f cZ_0 cZ_1 cZ_2
      exact (by have hz := B2.out.size; repeat (first | exact B2.out | refine below_drewN ?_ _ | refine Below.drew ?_ | refine Below.setCell ?_ (by first | omega | (simp; done) | (simp; omega)) _ | refine Below.alloc ?_ (by first | omega | (simp; done) | (simp; omega)) _))
    · rw [ho] at OF
      clear ho
      rw [if_neg (by simp)]
      go_enter Tryz.func32, Tryz.ntmps32
      go_wp2_with fail
      refine (AR.out _).mono ?_; rintro e w1 ⟨rfl, b1⟩
      have d1 : Below w.heap.size w w1 := below_step (by repeat (first | exact Below.refl _ _ | refine below_drewN ?_ _ | refine Below.drew ?_ | refine Below.setCell ?_ (by first | (simp; done) | (simp; omega) | omega) _ | refine Below.alloc ?_ (by first | (simp; done) | (simp; omega) | omega) _)) b1
      have B1 := Lib.hid d1
      have Y1 : Bk3 w1 (w.heap.size) (.int .i64 0) (.int .i64 0) (.int .i64 0) := Bk3.of b1 (by simp <;> omega) (by intro j; simp [go_sem]) (by simp [go_sem]) (by simp [go_sem]) (by simp [go_sem])
      clear b1 d1
      have cY_b := Y1.hb
      have cY_f := Y1.fz
      have cY_0 := Y1.k0
      have cY_1 := Y1.k1
      have cY_2 := Y1.k2
      go_wp2_with fail
      clear cY_b cY_f cY_0 cY_1 cY_2
      refine (OF.out _).mono ?_; rintro e w2 ⟨rfl, b2⟩
      have d2 : Below w1.heap.size w1 w2 := below_step (by repeat (first | exact Below.refl _ _ | refine below_drewN ?_ _ | refine Below.drew ?_ | refine Below.setCell ?_ (by first | (simp; done) | (simp; omega) | omega) _ | refine Below.alloc ?_ (by first | (simp; done) | (simp; omega) | omega) _)) b2
      have B2 := Lib.hid (below_step B1.out d2)
      have Y2 := Y1.keep d2
      have aZ := B1.out.size
      have nZY := Nat.ne_of_lt Y1.hb
      have oZY := Nat.ne_of_gt Y1.hb
      have Z2 : Bk3 w2 (w1.heap.size) (.int .i64 k) (.int .i64 wk) (.int .i64 d) := Bk3.of b2 (by simp <;> omega) (by intro j; simp [go_sem]) (by simp [go_sem]) (by simp [go_sem]) (by simp [go_sem])
      clear Y1 b2 d2 B1
      have cY_b := Y2.hb
      have cY_f := Y2.fz
      have cY_0 := Y2.k0
      have cY_1 := Y2.k1
      have cY_2 := Y2.k2
      have cZ_b := Z2.hb
      have cZ_f := Z2.fz
      have cZ_0 := Z2.k0
      have cZ_1 := Z2.k1
      have cZ_2 := Z2.k2
      go_wp2_with fail
      refine bodyPost_ret (v := .tuple #[.agg #[.int .i64 k, .int .i64 wk, .int .i64 d], .int .i64 0]) (by simp [results, Tryz.results32, go_sem, cY_b, cY_f, cY_0, cY_1, cY_2, cZ_b, cZ_f, cZ_0, cZ_1, cZ_2]) rfl ⟨rfl, ?_⟩
      clear cY_b cY_f cY_0 cY_1 cY_2 cZ_b cZ_f cZ_0 cZ_1 cZ_2
      exact (by have hz := B2.out.size; repeat (first | exact B2.out | refine below_drewN ?_ _ | refine Below.drew ?_ | refine Below.setCell ?_ (by first | omega | (simp; done) | (simp; omega)) _ | refine Below.alloc ?_ (by first | omega | (simp; done) | (simp; omega)) _))
  · rw [if_neg (by omega)]
    have g0 : (q == 0) = false := by rw [beq_eq_false_iff_ne]; exact hq
    go_enter Tryz.func32, Tryz.ntmps32
    go_wp2_with fail
    refine (AR.out _).mono ?_; rintro e w1 ⟨rfl, b1⟩
    have d1 : Below w.heap.size w w1 := below_step (by repeat (first | exact Below.refl _ _ | refine below_drewN ?_ _ | refine Below.drew ?_ | refine Below.setCell ?_ (by first | (simp; done) | (simp; omega) | omega) _ | refine Below.alloc ?_ (by first | (simp; done) | (simp; omega) | omega) _)) b1
    have B1 := Lib.hid d1
    have Y1 : Bk3 w1 (w.heap.size) (.int .i64 0) (.int .i64 0) (.int .i64 0) := Bk3.of b1 (by simp <;> omega) (by intro j; simp [go_sem]) (by simp [go_sem]) (by simp [go_sem]) (by simp [go_sem])
    clear b1 d1
    have cY_b := Y1.hb
    have cY_f := Y1.fz
    have cY_0 := Y1.k0
    have cY_1 := Y1.k1
    have cY_2 := Y1.k2
    go_wp2_with fail
    refine bodyPost_ret (v := .tuple #[.agg #[.int .i64 k, .int .i64 wk, .int .i64 d], .int .i64 q]) (by simp [results, Tryz.results32, go_sem, cY_b, cY_f, cY_0, cY_1, cY_2]) rfl ⟨rfl, ?_⟩
    clear cY_b cY_f cY_0 cY_1 cY_2
    exact (by have hz := B1.out.size; repeat (first | exact B1.out | refine below_drewN ?_ _ | refine Below.drew ?_ | refine Below.setCell ?_ (by first | omega | (simp; done) | (simp; omega)) _ | refine Below.alloc ?_ (by first | omega | (simp; done) | (simp; omega)) _))
end Go.Proofs.YtedbohfcbfegjaaGreatDoor

/- Years: there and back, in plain lists. -/
set_option linter.unusedVariables false
set_option linter.unusedSimpArgs false
namespace Go.Proofs.YtedbohfcbfegjaaGreatDoor
open Go.RowKit Go.Sort

namespace Yr
theorem starts_tab : ∀ n : Fin 256, (Num.dig (UInt8.ofNat n.val) || decide (n.val = 45)) = starts.contains (UInt8.ofNat n.val) := by decide +kernel
theorem starts_dig (c : UInt8) : starts.contains c = (Num.dig c || decide (c.toNat = 45)) := by
  have := starts_tab ⟨c.toNat, c.toNat_lt⟩
  rw [show UInt8.ofNat c.toNat = c from UInt8.ofNat_toNat] at this
  exact this.symm
theorem itoa_isN (n : Int) : isN (Lib.itoa n) = true := by
  unfold Lib.itoa
  split
  · show starts.contains 45 = true
    decide
  · obtain ⟨c, r, e, hd⟩ := Num.dec_head n.toNat
    rw [e]
    show starts.contains c = true
    rw [starts_dig, hd]; rfl
theorem itoa_rd {n : Int} (n0 : -9223372036854775808 ≤ n) (n1 : n ≤ 9223372036854775807) : Num.rd (Lib.itoa n) = (n, 0) := by
  unfold Num.rd
  rw [Num.isT_itoa, if_pos rfl, Num.parse_itoa n n0 n1]
theorem itoa_num {n : Int} (h : inY n = true) : num (Lib.itoa n) = (n, 0) := by
  have h2 := h
  unfold inY at h2
  rw [Bool.and_eq_true, decide_eq_true_eq, decide_eq_true_eq] at h2
  unfold num
  rw [itoa_rd (by omega) (by omega), if_pos rfl, h]; rfl
theorem tI_size {n : Int} (h : inY n = true) : (tI n).size ≤ 21 := by
  unfold inY at h
  rw [Bool.and_eq_true, decide_eq_true_eq, decide_eq_true_eq] at h
  show (Lib.itoa n).toArray.size ≤ 21
  rw [List.size_toArray]
  exact Lib.itoa_length_le n (by omega) (by omega)
theorem ft_size (y : Int) : (ft y).1.size ≤ 1000 := by
  unfold ft
  cases h : inY y
  · simp only [Bool.false_eq_true, if_false]; decide
  · simp only [if_true]
    split
    · decide
    · have := tI_size h; show (tI y).size ≤ 1000; omega
theorem tt_size (f y : Int) : (tt f y).1.size ≤ 1000 := by
  unfold tt
  cases h : inY y
  · simp only [Bool.false_eq_true, if_false]; decide
  · simp only [if_true]
    split
    · decide
    · split
      · decide
      · split
        · decide
        · have := tI_size h; show (tI y).size ≤ 1000; omega
theorem ft_back {y : Int} (h : (ft y).2 = 0) : fr (ft y).1.data.toList = (y, 0) := by
  revert h
  unfold ft
  cases hi : inY y
  · simp only [Bool.false_eq_true, if_false]; intro h; exact absurd h (by decide)
  · simp only [if_true]
    split
    · rename_i e; subst e; intro _; decide +kernel
    · intro _
      show fr (Lib.itoa y) = (y, 0)
      unfold fr
      rw [itoa_isN, if_pos rfl, itoa_num hi]
theorem only_w : word [111, 110, 108, 121] = (2, 0) ∧ isN [111, 110, 108, 121] = false := by decide +kernel
theorem max_w : word [109, 97, 120] = (1, 0) ∧ isN [109, 97, 120] = false := by decide +kernel
theorem tt_back {f y : Int} (h : (tt f y).2 = 0) : to (tt f y).1.data.toList f = (y, 0) := by
  revert h
  unfold tt
  cases hi : inY y
  · simp only [Bool.false_eq_true, if_false]; intro h; exact absurd h (by decide)
  · simp only [if_true]
    split
    · intro h; exact absurd h (by decide)
    · rename_i hlt
      split
      · rename_i e
        intro _
        subst e
        have e : la [111, 110, 108, 121] y = (y, 0) := by
          unfold la
          rw [only_w.2, only_w.1]; rfl
        show to [111, 110, 108, 121] y = (y, 0)
        unfold to
        rw [e, if_pos rfl, if_pos (Int.le_refl _)]
      · split
        · rename_i e
          intro _
          subst e
          have e : la [109, 97, 120] f = (32767, 0) := by
            unfold la
            rw [max_w.2, max_w.1]; rfl
          show to [109, 97, 120] f = (32767, 0)
          unfold to
          rw [e, if_pos rfl, if_pos (by omega)]
        · intro _
          have e : la (Lib.itoa y) f = (y, 0) := by
            unfold la
            rw [itoa_isN, if_pos rfl, itoa_num hi]
          show to (Lib.itoa y) f = (y, 0)
          unfold to
          rw [e, if_pos rfl, if_pos (by omega)]
theorem to_ge {l : List UInt8} {f : Int} (h : (to l f).2 = 0) : f ≤ (to l f).1 := by
  revert h
  unfold to
  split
  · split
    · rename_i h; intro _; exact h
    · intro h; exact absurd h (by decide)
  · rename_i h; intro h2; exact absurd h2 h
end Yr
end Go.Proofs.YtedbohfcbfegjaaGreatDoor
