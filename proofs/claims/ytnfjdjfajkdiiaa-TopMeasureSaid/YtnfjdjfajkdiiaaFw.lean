/- Whole parts, as the document tells them: cut towards nought, and what is left. -/
import Derived.Test.YtnfjdjfajkdiiaaFr
set_option linter.unusedVariables false
set_option linter.unusedSimpArgs false
namespace Go.Proofs.Ytnfjdjfajkdiiaa.Fl
open Ieee

theorem itg_self {way : Toward} {x : Nat} (hx : x < 18446744073709551616) (hf : fin x) (k : Nat) (h : val (rg x) = k * U) : itg way x = x := by
  obtain ⟨r, e, hr, hv⟩ := integral_fin way (x := x) hf
  unfold itg
  rw [e]
  rw [h, whole_exact, ← h] at hv
  rw [val_inj hv, wd_rg hx]
theorem itg_inf {way : Toward} {x : Nat} (hx : x < 18446744073709551616) (hf : rg x = inf) : itg way x = x := by
  unfold itg
  rw [decode_eq, read_inf hf]
  show double.word (ng x) double.infRung = x
  rw [word_eq, dbl_inf, ← hf, wd_rg hx]
theorem itg_big {way : Toward} {x : Nat} (hx : x < 18446744073709551616) (hf : fin x) (h : 4503599627370496 * U ≤ val (rg x)) : itg way x = x := by
  by_cases hp : 0 ≤ pl (rg x)
  · exact itg_self hx hf _ (pl_hi hp)
  · have h1 := pl_lo (r := rg x) (by omega)
    rw [Nat.div_lt_iff_lt_mul U_pos] at h1
    omega
theorem wn_abs (way : Toward) (x : Nat) : (wn way x).natAbs = whole way (ng x) (val (rg x)) := by
  unfold wn; split <;> omega
theorem wn_sign (way : Toward) (x : Nat) : (ng x = true → wn way x ≤ 0) ∧ (ng x = false → 0 ≤ wn way x) := by
  unfold wn
  cases ng x
  · simp
  · simp
/-- A number made whole, by its whole number. -/
theorem itg_wn {way : Toward} {x : Nat} (hf : fin x) (h0 : -9007199254740992 ≤ wn way x) (h1 : wn way x ≤ 9007199254740992) :
    itg way x = if wn way x = 0 then wd (ng x) 0 else FloatKind.f64.nearest (wn way x) := by
  obtain ⟨r, e, hr, hv⟩ := integral_fin way (x := x) hf
  obtain ⟨z, hz, _, hz2⟩ := int_exact (wn way x) h0 h1
  have ha := wn_abs way x
  have hs := wn_sign way x
  unfold itg
  rw [e]
  have er : r = z := val_inj (by rw [hv, hz2, ha])
  split
  · rename_i h
    have : r = 0 := val_inj (by rw [er, hz2, h, val_0]; simp)
    rw [this]
  · rename_i h
    rw [hz, ← er]
    congr 1
    cases hg : ng x
    · have := hs.2 hg; exact (decide_eq_false (by omega)).symm
    · have := hs.1 hg; exact (decide_eq_true (by omega)).symm
/-- Cut towards nought, as an int64. -/
theorem trunc_int {x : Nat} (h : fin x) (hb : val (rg x) < 4503599627370496 * U) : floatToIntVal .f64 x .i64 = some (wn .zero x) := by
  unfold floatToIntVal
  rw [toInt_fin h]
  have e : whole .zero (ng x) (val (rg x)) = val (rg x) / U := by unfold whole more; simp
  have hq : val (rg x) / U < 4503599627370496 := by rw [Nat.div_lt_iff_lt_mul U_pos]; exact hb
  show (if IntKind.i64.min ≤ _ ∧ _ ≤ IntKind.i64.max then _ else none) = _
  have e2 : (if ng x = true then -((val (rg x) / U : Nat) : Int) else ((val (rg x) / U : Nat) : Int)) = wn .zero x := by unfold wn; rw [e]
  rw [e2, if_pos]
  have a : IntKind.i64.min = -9223372036854775808 := by decide
  have b : IntKind.i64.max = 9223372036854775807 := by decide
  have := wn_abs .zero x
  omega
/-- What is left of a number has a word. -/
theorem rest_rep {r : Nat} : ∃ z, val z = val r % U := by
  obtain ⟨hp, e⟩ := mg_pl r
  have m := mg_lt r
  by_cases h : 0 ≤ pl r
  · refine ⟨0, ?_⟩
    rw [pl_hi h, Nat.mul_mod_left, val_0]
  · have hu := ue_eq
    obtain ⟨c, hc⟩ : ∃ c, ue = (pl r + 1074).toNat + c := ⟨ue - (pl r + 1074).toNat, by omega⟩
    have hU : U = 2 ^ (pl r + 1074).toNat * 2 ^ c := by unfold U; rw [hc, pow_split]
    obtain ⟨z, hz⟩ := rep (pl r + 1074).toNat (mg r % 2 ^ c) (by have := Nat.mod_le (mg r) (2 ^ c); omega)
    refine ⟨z, ?_⟩
    rw [hz, ← e, hU, Nat.mul_comm (mg r), Nat.mul_mod_mul_left, Nat.mul_comm]
/-- What is left of a number, when it has been cut towards nought: no rounding. -/
theorem rest_sub {x : Nat} (h : fin x) (hb : val (rg x) < 4503599627370496 * U) : ∃ z, floatBits .sub .f64 x (FloatKind.f64.nearest (wn .zero x)) = some z ∧ fin z ∧
    V z = if ng x then -((val (rg x) % U : Nat) : Int) else ((val (rg x) % U : Nat) : Int) := by
  have e : whole .zero (ng x) (val (rg x)) = val (rg x) / U := by unfold whole more; simp
  have hq : val (rg x) / U < 4503599627370496 := by rw [Nat.div_lt_iff_lt_mul U_pos]; exact hb
  have ha := wn_abs .zero x
  obtain ⟨fy, vy⟩ := V_int (n := wn .zero x) (by omega) (by omega)
  obtain ⟨R, hR, hn⟩ := sub_near h fy
  have hd := Nat.div_add_mod (val (rg x)) U
  have hW : V x - V (FloatKind.f64.nearest (wn .zero x)) = if ng x then -((val (rg x) % U : Nat) : Int) else ((val (rg x) % U : Nat) : Int) := by
    rw [vy]
    unfold wn
    rw [e]
    unfold V
    have hd2 : ((val (rg x) / U : Nat) : Int) * (U : Int) = ((U * (val (rg x) / U) : Nat) : Int) := by push_cast; rw [Int.mul_comm]
    cases ng x
    · simp only [Bool.false_eq_true, if_false]
      rw [hd2]; omega
    · simp only [if_true]
      rw [Int.neg_mul, hd2]; omega
  obtain ⟨z, hz⟩ := rest_rep (r := rg x)
  have hab : (V x - V (FloatKind.f64.nearest (wn .zero x))).natAbs = val (rg x) % U := by
    rw [hW]; generalize val (rg x) % U = r; split <;> omega
  have eR : R = z := hn.exact (by rw [hab, hz, Nat.mul_one])
  have hzi : R < inf := by
    have : R ≤ rg x := by rw [eR]; exact val_le.1 (by rw [hz]; exact Nat.mod_le _ _)
    exact Nat.lt_of_le_of_lt this h
  refine ⟨_, by rw [Nat.min_eq_left (Nat.le_of_lt hzi)] at hR; exact hR, fin_wd hzi, ?_⟩
  rw [← hW]
  rcases sum_val hn sub_sg hzi with ⟨a, b⟩ | ⟨a, b⟩
  · rw [b, eR, hz]; omega
  · rw [b, eR, hz]; omega
theorem val_half : 2 * val 4602678819172646912 = U := by
  have h : val 4602678819172646912 = 4503599627370496 * 2 ^ 1021 := valK 1021 4503599627370496 (.inr (by decide)) (by decide)
  have h2 : 9007199254740992 * 2 ^ 1021 = 1 * U := u_mul 1021 53 9007199254740992 1 rfl (by decide)
  rw [h]
  generalize (2 : Nat) ^ 1021 = Y at *
  omega
theorem fin_half : fin 4602678819172646912 ∧ fin 13826050856027422720 := by constructor <;> (unfold fin; decide)
theorem V_half : 2 * V 4602678819172646912 = (U : Int) ∧ 2 * V 13826050856027422720 = -(U : Int) := by
  have h := val_half
  constructor
  · unfold V; rw [show ng 4602678819172646912 = false by decide, show rg 4602678819172646912 = 4602678819172646912 by decide]; simp only [Bool.false_eq_true, if_false]; omega
  · unfold V; rw [show ng 13826050856027422720 = true by decide, show rg 13826050856027422720 = 4602678819172646912 by decide]; simp only [if_true]; omega
theorem val_52 : val 4841369599423283200 = 4503599627370496 * U := by
  have h : val 4841369599423283200 = 4503599627370496 * 2 ^ 1074 := valK 1074 4503599627370496 (.inr (by decide)) (by decide)
  have h2 : 4503599627370496 * 2 ^ 1074 = 4503599627370496 * U := u_mul 1074 0 4503599627370496 4503599627370496 rfl (by decide)
  exact h.trans h2
theorem fin_52 : fin 4841369599423283200 ∧ fin 14064741636278059008 := by constructor <;> (unfold fin; decide)
theorem V_52 : V 4841369599423283200 = 4503599627370496 * (U : Int) ∧ V 14064741636278059008 = -(4503599627370496 * (U : Int)) := by
  have h := val_52
  constructor
  · unfold V; rw [show ng 4841369599423283200 = false by decide, show rg 4841369599423283200 = 4841369599423283200 by decide]; simp only [Bool.false_eq_true, if_false]; omega
  · unfold V; rw [show ng 14064741636278059008 = true by decide, show rg 14064741636278059008 = 4841369599423283200 by decide]; simp only [if_true]; omega
/-- A number by its whole part and what is left. -/
theorem wn_rest (way : Toward) (x : Nat) : wn way x = if ng x then wn .zero x - (more way true (val (rg x) / U) (val (rg x) % U) U).toNat else wn .zero x + (more way false (val (rg x) / U) (val (rg x) % U) U).toNat := by
  have e : whole .zero (ng x) (val (rg x)) = val (rg x) / U := by unfold whole more; simp
  unfold wn
  rw [e]
  unfold whole
  cases ng x
  · simp
  · simp; omega
theorem wn_zero (x : Nat) : wn .zero x = if ng x then -((val (rg x) / U : Nat) : Int) else ((val (rg x) / U : Nat) : Int) := by
  have e : whole .zero (ng x) (val (rg x)) = val (rg x) / U := by unfold whole more; simp
  unfold wn; rw [e]
/-- What is left, held against nought. -/
theorem rest_ord {x z : Nat} (hz : fin z) (hv : V z = if ng x then -((val (rg x) % U : Nat) : Int) else ((val (rg x) % U : Nat) : Int)) :
    (FloatKind.f64.format.order z 0 == some Ordering.lt) = more .down (ng x) (val (rg x) / U) (val (rg x) % U) U ∧
    (FloatKind.f64.format.order z 0 == some Ordering.gt) = more .up (ng x) (val (rg x) / U) (val (rg x) % U) U := by
  rw [ord_lt hz fin_00, ord_gt hz fin_00, V_00, hv]
  unfold more
  generalize val (rg x) % U = r
  cases ng x
  · simp only [Bool.false_eq_true, if_false, Bool.not_false, Bool.true_and, Bool.false_and]
    exact ⟨decide_eq_false (by omega), by rw [Bool.eq_iff_iff]; simp; omega⟩
  · simp only [if_true, Bool.not_true, Bool.true_and, Bool.false_and]
    exact ⟨by rw [Bool.eq_iff_iff]; simp; omega, decide_eq_false (by omega)⟩
/-- What is left, held against a half. -/
theorem rest_half {x z : Nat} (hz : fin z) (hv : V z = if ng x then -((val (rg x) % U : Nat) : Int) else ((val (rg x) % U : Nat) : Int)) :
    (ng x = false → (FloatKind.f64.format.order z 4602678819172646912 == some Ordering.gt) = decide (U < 2 * (val (rg x) % U)) ∧ (FloatKind.f64.format.order z 4602678819172646912 == some Ordering.eq) = decide (U = 2 * (val (rg x) % U)) ∧ (FloatKind.f64.format.order z 13826050856027422720 == some Ordering.lt) = false ∧ (FloatKind.f64.format.order z 13826050856027422720 == some Ordering.eq) = false) ∧
    (ng x = true → (FloatKind.f64.format.order z 13826050856027422720 == some Ordering.lt) = decide (U < 2 * (val (rg x) % U)) ∧ (FloatKind.f64.format.order z 13826050856027422720 == some Ordering.eq) = decide (U = 2 * (val (rg x) % U)) ∧ (FloatKind.f64.format.order z 4602678819172646912 == some Ordering.gt) = false ∧ (FloatKind.f64.format.order z 4602678819172646912 == some Ordering.eq) = false) := by
  obtain ⟨h1, h2⟩ := V_half
  have hU := U_pos
  rw [ord_gt hz fin_half.1, ord_eq hz fin_half.1, ord_lt hz fin_half.2, ord_eq hz fin_half.2, hv]
  generalize val (rg x) % U = r
  constructor <;> intro hg <;> rw [hg]
  · simp only [Bool.false_eq_true, if_false]
    exact ⟨by rw [Bool.eq_iff_iff]; simp; omega, by rw [Bool.eq_iff_iff]; simp; omega, decide_eq_false (by omega), decide_eq_false (by omega)⟩
  · simp only [if_true]
    exact ⟨by rw [Bool.eq_iff_iff]; simp; omega, by rw [Bool.eq_iff_iff]; simp; omega, decide_eq_false (by omega), decide_eq_false (by omega)⟩
end Go.Proofs.Ytnfjdjfajkdiiaa.Fl
