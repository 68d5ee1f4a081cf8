/- Numbers with a floating point, as the document tells them: kinds by comparisons, whole parts by what is left. -/
import Derived.Test.YtnfjdjfajkdiiaaJulOM
set_option linter.unusedVariables false
set_option linter.unusedSimpArgs false
namespace Go.Proofs.Ytnfjdjfajkdiiaa.Fl
open Ieee

/-! ### one word, or no number both times -/
/-- The answer of an operation, what is no number under one word. -/
def cop (op : BinOp) (x y : Nat) : Nat := (floatBits op .f64 x y).getD 9221120237041090560
def Eqv (a b : Nat) : Prop := a < 18446744073709551616 ∧ (a = b ∨ (nan a = true ∧ nan b = true))
theorem nan_q : nan 9221120237041090560 = true := by decide
theorem FOp.cop {op : BinOp} {x y r : Nat} (h : FOp op x y r) : Eqv r (cop op x y) := by
  refine ⟨h.1, ?_⟩
  unfold Fl.cop
  rcases h.2 with e | ⟨e, n⟩
  · left; rw [e]; rfl
  · right; rw [e]; exact ⟨n, nan_q⟩
theorem Eqv.refl {a : Nat} (h : a < 18446744073709551616) : Eqv a a := ⟨h, .inl rfl⟩
theorem rk_nan2 {q : Nat} (h : nan q = true) : rk q = 0 := by unfold rk; rw [h]; rfl
theorem Eqv.rk {a b : Nat} (h : Eqv a b) : rk a = rk b := by
  rcases h.2 with e | ⟨e1, e2⟩
  · rw [e]
  · rw [rk_nan2 e1, rk_nan2 e2]
theorem sameB_of {a b c : Nat} (h : Eqv a c) (k : Eqv b c) : sameB a b = true := by
  unfold sameB; rw [h.rk, k.rk]; simp
theorem arith_nan1 {op : BinOp} (hop : op = .add ∨ op = .sub ∨ op = .mul ∨ op = .quo) {q y : Nat} (hq : nan q = true) : floatBits op .f64 q y = none := by
  have e : Ieee.double.read q = _ := read_nan (nan_true.1 hq)
  rcases hop with rfl | rfl | rfl | rfl
  · show Ieee.double.add q y = none
    unfold Ieee.Format.add; rw [e]; rfl
  · show Ieee.double.sub q y = none
    unfold Ieee.Format.sub; rw [e]; rfl
  · show Ieee.double.mul q y = none
    unfold Ieee.Format.mul; rw [e]; rfl
  · show Ieee.double.div q y = none
    unfold Ieee.Format.div; rw [e]; rfl
/-- An operation on a word, or on another one that is no number, too. -/
theorem FOp.eqv {op : BinOp} (hop : op = .add ∨ op = .sub ∨ op = .mul ∨ op = .quo) {x x' y r : Nat} (h : FOp op x y r) (k : Eqv x x') : Eqv r (Fl.cop op x' y) := by
  rcases k.2 with e | ⟨e1, e2⟩
  · rw [← e]; exact h.cop
  · refine ⟨h.1, .inr ⟨h.nan (arith_nan1 hop e1), ?_⟩⟩
    unfold Fl.cop
    rw [arith_nan1 hop e2]; exact nan_q

/-! ### kinds -/
theorem kd_nan2 {x : Nat} (h : nan x = true) : kd (rk x) = 0 := by rw [rk_nan2 h]; rfl
theorem x_of {x : Nat} (hx : x < 18446744073709551616) : (ng x = true ∧ x = 9223372036854775808 + rg x) ∨ (ng x = false ∧ x = rg x) := by
  have e := wd_rg hx
  cases h : ng x
  · right; rw [h] at e; exact ⟨rfl, e.symm⟩
  · left; rw [h] at e; exact ⟨rfl, e.symm⟩
theorem rk_ng {x : Nat} (hn : nan x = false) (h : ng x = true) : rk x = 9223372036854775807 - rg x := by unfold rk; rw [hn, h]; rfl
theorem rk_ps {x : Nat} (hn : nan x = false) (h : ng x = false) : rk x = 9223372036854775808 + rg x := by unfold rk; rw [hn, h]; rfl
theorem fin_nan {x : Nat} (h : fin x) : nan x = false := nan_false.2 (Nat.le_of_lt h)
theorem kd_2 {x : Nat} (h : fin x) (hg : ng x = true) (h0 : rg x ≠ 0) : kd (rk x) = 2 := by
  have hi : inf = 9218868437227405312 := rfl
  have hf : rg x < inf := h
  rw [rk_ng (fin_nan h) hg]
  unfold kd
  rw [if_neg (by omega), if_neg (by omega), if_pos (by omega)]
theorem kd_5 {x : Nat} (h : fin x) (hg : ng x = false) (h0 : rg x ≠ 0) : kd (rk x) = 5 := by
  have hi : inf = 9218868437227405312 := rfl
  have hf : rg x < inf := h
  rw [rk_ps (fin_nan h) hg]
  unfold kd
  rw [if_neg (by omega), if_neg (by omega), if_neg (by omega), if_neg (by omega), if_neg (by omega), if_pos (by omega)]
theorem fin_gr : fin 9218868437227405311 ∧ fin 18442240474082181119 := by constructor <;> (unfold fin; decide)
theorem fin_00 : fin 0 := by unfold fin; decide
theorem V_00 : V 0 = 0 := by unfold V; rw [show ng 0 = false by decide, show rg 0 = 0 by decide, val_0]; rfl
theorem V_gr : V 9218868437227405311 = (val 9218868437227405311 : Int) ∧ V 18442240474082181119 = -(val 9218868437227405311 : Int) := by
  constructor
  · unfold V; rw [show ng 9218868437227405311 = false by decide, show rg 9218868437227405311 = 9218868437227405311 by decide]; rfl
  · unfold V; rw [show ng 18442240474082181119 = true by decide, show rg 18442240474082181119 = 9218868437227405311 by decide]; rfl
theorem val_pos {r : Nat} (h : r ≠ 0) : 0 < val r := by
  have := val_mono (a := 0) (b := r) (by omega); rw [val_0] at this; exact this
theorem kind_neg {x : Nat} (h : fin x) (hg : ng x = true) (h0 : rg x ≠ 0) : (FloatKind.f64.format.order x 18442240474082181119 == some Ordering.lt) = false ∧ (FloatKind.f64.format.order x 0 == some Ordering.lt) = true := by
  have hi : inf = 9218868437227405312 := rfl
  have hf : rg x < inf := h
  have v : V x = -(val (rg x) : Int) := by unfold V; rw [hg]; rfl
  have p := val_pos h0
  have q := val_le.2 (show rg x ≤ 9218868437227405311 by omega)
  refine ⟨(ord_lt h fin_gr.2).trans (decide_eq_false ?_), (ord_lt h fin_00).trans (decide_eq_true ?_)⟩
  · rw [V_gr.2, v]; omega
  · rw [V_00, v]; omega
theorem kind_pos {x : Nat} (h : fin x) (hg : ng x = false) (h0 : rg x ≠ 0) : (FloatKind.f64.format.order x 18442240474082181119 == some Ordering.lt) = false ∧ (FloatKind.f64.format.order x 0 == some Ordering.lt) = false ∧
    (FloatKind.f64.format.order x 9218868437227405311 == some Ordering.gt) = false ∧ (FloatKind.f64.format.order x 0 == some Ordering.gt) = true := by
  have hi : inf = 9218868437227405312 := rfl
  have hf : rg x < inf := h
  have v : V x = (val (rg x) : Int) := by unfold V; rw [hg]; rfl
  have p := val_pos h0
  have q := val_le.2 (show rg x ≤ 9218868437227405311 by omega)
  refine ⟨(ord_lt h fin_gr.2).trans (decide_eq_false ?_), (ord_lt h fin_00).trans (decide_eq_false ?_), (ord_gt h fin_gr.1).trans (decide_eq_false ?_), (ord_gt h fin_00).trans (decide_eq_true ?_)⟩
  · rw [V_gr.2, v]; omega
  · rw [V_00, v]; omega
  · rw [V_gr.1, v]; omega
  · rw [V_00, v]; omega
/-- A word is no number, beyond all, nought, or another number. -/
theorem five {x : Nat} (hx : x < 18446744073709551616) : nan x = true ∨ x = 9218868437227405312 ∨ x = 18442240474082181120 ∨ x = 0 ∨ x = 9223372036854775808 ∨ (fin x ∧ rg x ≠ 0) := by
  have hi : inf = 9218868437227405312 := rfl
  rcases Nat.lt_trichotomy (rg x) inf with h | h | h
  · by_cases h0 : rg x = 0
    · rcases x_of hx with ⟨_, e⟩ | ⟨_, e⟩ <;> omega
    · exact .inr (.inr (.inr (.inr (.inr ⟨h, h0⟩))))
  · rcases x_of hx with ⟨_, e⟩ | ⟨_, e⟩ <;> omega
  · exact .inl (nan_true.2 h)

/-! ### the same, and less, by kinds -/
theorem rk_le (x : Nat) : rk x ≤ 18442240474082181120 := by
  have hi : inf = 9218868437227405312 := rfl
  cases hn : nan x
  · have := nan_false.1 hn
    cases hg : ng x
    · rw [rk_ps hn hg]; omega
    · rw [rk_ng hn hg]; omega
  · rw [rk_nan2 hn]; omega
theorem rk_gap (x : Nat) : rk x = 0 ∨ 4503599627370495 ≤ rk x := by
  have hi : inf = 9218868437227405312 := rfl
  cases hn : nan x
  · have := nan_false.1 hn
    cases hg : ng x
    · rw [rk_ps hn hg]; omega
    · rw [rk_ng hn hg]; omega
  · rw [rk_nan2 hn]; omega
theorem kd_cases (r : Nat) (h : r ≤ 18442240474082181120) (g : r = 0 ∨ 4503599627370495 ≤ r) : (kd r = 0 ∧ r = 0) ∨ (kd r = 1 ∧ r = 4503599627370495) ∨ (kd r = 2 ∧ 4503599627370495 < r ∧ r < 9223372036854775807) ∨ (kd r = 3 ∧ r = 9223372036854775807) ∨ (kd r = 4 ∧ r = 9223372036854775808) ∨ (kd r = 5 ∧ 9223372036854775808 < r ∧ r < 18442240474082181120) ∨ (kd r = 6 ∧ r = 18442240474082181120) := by
  unfold kd
  by_cases h0 : r = 0
  · rw [if_pos h0]; exact .inl ⟨rfl, h0⟩
  rw [if_neg h0]
  by_cases h1 : r = 4503599627370495
  · rw [if_pos h1]; exact .inr (.inl ⟨rfl, h1⟩)
  rw [if_neg h1]
  by_cases h2 : r < 9223372036854775807
  · rw [if_pos h2]; exact .inr (.inr (.inl ⟨rfl, by omega, h2⟩))
  rw [if_neg h2]
  by_cases h3 : r = 9223372036854775807
  · rw [if_pos h3]; exact .inr (.inr (.inr (.inl ⟨rfl, h3⟩)))
  rw [if_neg h3]
  by_cases h4 : r = 9223372036854775808
  · rw [if_pos h4]; exact .inr (.inr (.inr (.inr (.inl ⟨rfl, h4⟩))))
  rw [if_neg h4]
  by_cases h5 : r < 18442240474082181120
  · rw [if_pos h5]; exact .inr (.inr (.inr (.inr (.inr (.inl ⟨rfl, by omega, h5⟩)))))
  rw [if_neg h5]
  exact .inr (.inr (.inr (.inr (.inr (.inr ⟨rfl, by omega⟩)))))
theorem kd_lt {a b : Nat} (h : kd (rk a) < kd (rk b)) : rk a < rk b := by
  have A := kd_cases (rk a) (rk_le a) (rk_gap a); have B := kd_cases (rk b) (rk_le b) (rk_gap b)
  omega
theorem kd_eq {a b : Nat} (h : kd (rk a) = kd (rk b)) (h2 : kd (rk a) ≠ 2) (h5 : kd (rk a) ≠ 5) : rk a = rk b := by
  have A := kd_cases (rk a) (rk_le a) (rk_gap a); have B := kd_cases (rk b) (rk_le b) (rk_gap b)
  omega
/-- A word of the kinds 2 and 5 is a number, not nought. -/
theorem fin_25 {x : Nat} (hx : x < 18446744073709551616) (h : kd (rk x) = 2 ∨ kd (rk x) = 5) : fin x ∧ rg x ≠ 0 := by
  rcases five hx with h1 | rfl | rfl | rfl | rfl | h1
  · rw [kd_nan2 h1] at h; omega
  · exact absurd h (by decide)
  · exact absurd h (by decide)
  · exact absurd h (by decide)
  · exact absurd h (by decide)
  · exact h1
theorem kd_sign {x : Nat} (hx : x < 18446744073709551616) (h : fin x) (h0 : rg x ≠ 0) : (kd (rk x) = 2 ∧ ng x = true) ∨ (kd (rk x) = 5 ∧ ng x = false) := by
  cases hg : ng x
  · right; exact ⟨kd_5 h hg h0, rfl⟩
  · left; exact ⟨kd_2 h hg h0, rfl⟩
theorem V_rk {a b : Nat} (ha : fin a) (hb : fin b) (h : ng a = ng b) : (V a = V b ↔ rk a = rk b) ∧ (V a < V b ↔ rk a < rk b) := by
  have hi : inf = 9218868437227405312 := rfl
  have fa : rg a < inf := ha
  have fb : rg b < inf := hb
  have l1 := val_lt (a := rg a) (b := rg b)
  have l2 := val_lt (a := rg b) (b := rg a)
  cases hg : ng a
  · rw [hg] at h
    rw [rk_ps (fin_nan ha) hg, rk_ps (fin_nan hb) h.symm]
    unfold V; rw [hg, ← h]
    simp only [Bool.false_eq_true, if_false]
    omega
  · rw [hg] at h
    rw [rk_ng (fin_nan ha) hg, rk_ng (fin_nan hb) h.symm]
    unfold V; rw [hg, ← h]
    simp only [if_true]
    omega
theorem ord_same {a b : Nat} (ha : a < 18446744073709551616) (hb : b < 18446744073709551616) (h : kd (rk a) = kd (rk b)) (h25 : kd (rk a) = 2 ∨ kd (rk a) = 5) :
    (FloatKind.f64.format.order a b == some Ordering.eq) = sameB a b ∧ (FloatKind.f64.format.order a b == some Ordering.lt) = lessB a b := by
  obtain ⟨fa, a0⟩ := fin_25 ha h25
  obtain ⟨fb, b0⟩ := fin_25 hb (h ▸ h25)
  have hs : ng a = ng b := by
    rcases kd_sign ha fa a0 with ⟨k, e⟩ | ⟨k, e⟩ <;> rcases kd_sign hb fb b0 with ⟨k', e'⟩ | ⟨k', e'⟩ <;> rw [e, e'] <;> omega
  obtain ⟨e1, e2⟩ := V_rk fa fb hs
  unfold sameB lessB
  rw [ord_eq fa fb, ord_lt fa fb]
  constructor
  · rw [Bool.eq_iff_iff]; simp [e1]
  · rw [Bool.eq_iff_iff]; simp [e2]
end Go.Proofs.Ytnfjdjfajkdiiaa.Fl
