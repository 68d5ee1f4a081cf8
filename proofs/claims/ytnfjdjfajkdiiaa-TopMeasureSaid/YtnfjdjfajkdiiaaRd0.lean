/- Words made whole, in plain terms. -/
import Derived.Test.YtnfjdjfajkdiiaaBk
import Derived.Test.YtnfjdjfajkdiiaaFlB
import Derived.Test.YtnfjdjfajkdiiaaRkP
import Derived.Laws.NewFold
set_option linter.unusedVariables false
set_option linter.unusedSimpArgs false
namespace Go.Proofs.Ytnfjdjfajkdiiaa
open Go.RowKit

namespace Fl
open Ieee
/-- A word made whole. -/
def itg (way : Toward) (x : Nat) : Nat := FloatKind.f64.encode ((FloatKind.f64.decode x).integral way)
/-- What comes of making a word whole: of what is no number something that is none. -/
def Rd (way : Toward) (x y : Nat) : Prop := y < 18446744073709551616 ∧ (nan x = true → nan y = true) ∧ (nan x = false → y = itg way x)
theorem decode_eq (x : Nat) : FloatKind.f64.decode x = double.read x := rfl
theorem quiet_bits {t : Nat} (h : 1 ≤ t) (ht : t < 4503599627370496) : 1 ≤ FloatKind.f64.format.quiet t ∧ FloatKind.f64.format.quiet t < 4503599627370496 := by
  show 1 ≤ t ||| 2 ^ 51 ∧ t ||| 2 ^ 51 < 4503599627370496
  have h1 : t ≤ t ||| 2 ^ 51 := Nat.left_le_or
  have h2 : t ||| 2 ^ 51 < 2 ^ 52 := Nat.or_lt_two_pow (by rw [show (2 : Nat) ^ 52 = 4503599627370496 by decide]; exact ht) (by decide)
  rw [show (2 : Nat) ^ 52 = 4503599627370496 by decide] at h2
  exact ⟨by omega, h2⟩
theorem run_integral (P : Program) (name : String) (way : Toward) (x : Nat) (hx : x < 18446744073709551616) (w : World) :
    ∃ y n, Rd way x y ∧ (Extern.MathFloor.toIntegral name way #[.float .f64 x]).run P w = .ok (.float .f64 y) (w.drewN n) := by
  have hr : rg x < 9223372036854775808 := Nat.mod_lt _ (by decide)
  have hi : inf = 9218868437227405312 := rfl
  rcases Nat.lt_trichotomy (rg x) inf with h | h | h
  · refine ⟨itg way x, 0, ⟨?_, ?_, fun _ => rfl⟩, ?_⟩
    · obtain ⟨r, e, hr2, _⟩ := integral_fin way (x := x) h
      unfold itg; rw [e]; exact wd_lt (by omega)
    · intro hn; rw [nan_true] at hn; omega
    · unfold Extern.MathFloor.toIntegral itg
      conv => lhs; arg 2; whnf
      rw [decode_eq, read_fin h]
      rfl
  · refine ⟨itg way x, 0, ⟨?_, ?_, fun _ => rfl⟩, ?_⟩
    · unfold itg; rw [decode_eq, read_inf h]
      show double.word (ng x) double.infRung < _
      rw [word_eq, dbl_inf]
      exact wd_lt (by rw [hi]; decide)
    · intro hn; rw [nan_true] at hn; omega
    · unfold Extern.MathFloor.toIntegral itg
      conv => lhs; arg 2; whnf
      rw [decode_eq, read_inf h]
      rfl
  · have hn : nan x = true := nan_true.2 h
    by_cases hq : FloatKind.f64.format.quiet (rg x - inf) = rg x - inf
    · refine ⟨x, 0, ⟨hx, fun _ => hn, fun h2 => by rw [hn] at h2; cases h2⟩, ?_⟩
      unfold Extern.MathFloor.toIntegral
      conv => lhs; arg 2; whnf
      rw [decode_eq, read_nan h]
      simp only
      rw [if_pos hq]
      rfl
    · have hb := quiet_bits (t := rg x - inf) (by omega) (by omega)
      have e : ∀ s, FloatKind.f64.encode (.nan s (FloatKind.f64.format.quiet (rg x - inf))) = wd s (inf + FloatKind.f64.format.quiet (rg x - inf)) := by
        intro s
        show double.word s (double.infRung + FloatKind.f64.format.quiet (rg x - inf) % double.binade) = _
        rw [word_eq, dbl_inf, dbl_binade, Nat.mod_eq_of_lt hb.2]
      have hgood : Rd way x (wd (ng x) (inf + FloatKind.f64.format.quiet (rg x - inf))) := by
        refine ⟨wd_lt (by omega), fun _ => ?_, fun h2 => by rw [hn] at h2; cases h2⟩
        rw [nan_true, rg_wd (by omega)]; omega
      have hgood2 : Rd way x x := ⟨hx, fun _ => hn, fun h2 => by rw [hn] at h2; cases h2⟩
      refine ⟨if (Question.cut (.extern "math.Floor,Ceil,Trunc,RoundToEven.signallingNaN kept" 2) (w.tape w.drawn (.extern "math.Floor,Ceil,Trunc,RoundToEven.signallingNaN kept" 2)) == 1) = true then x else wd (ng x) (inf + FloatKind.f64.format.quiet (rg x - inf)), 1, ?_, ?_⟩
      · split
        · exact hgood2
        · exact hgood
      · unfold Extern.MathFloor.toIntegral
        conv => lhs; arg 2; whnf
        rw [decode_eq, read_nan h]
        simp only
        rw [if_neg hq, e]
        simp [Question.forced]
        rfl
end Fl

/-- What Round answers: a word made whole. -/
def RoundP (way : Ieee.Toward) (x : Nat) (w : World) (e : Ending) (w' : World) : Prop := ∃ y n, Fl.Rd way x y ∧ e = .returned (.tuple #[.float .f64 y, .int .i64 0]) ∧ w' = w.drewN n
namespace Fl
def wayOf (m : Int) : Ieee.Toward := if m = 1 then .down else if m = 2 then .up else if m = 3 then .zero else .even
end Fl
namespace Fl
open Ieee
/-- The whole number that a finite word is made. -/
def wn (way : Toward) (x : Nat) : Int := if ng x then -(whole way (ng x) (val (rg x)) : Int) else (whole way (ng x) (val (rg x)) : Int)
def ww (way : Toward) (x : Nat) : Int := if nan x then 18 else if rg x < inf ∧ -9223372036854775808 ≤ wn way x ∧ wn way x < 9223372036854775808 then 0 else 1
def wv (way : Toward) (x : Nat) : Int := if ww way x = 0 then wn way x else 0
theorem V_lo : V 14114281232179134464 = -9223372036854775808 * (U : Int) := by
  have e1 : ng 14114281232179134464 = true := by decide
  have e2 : rg 14114281232179134464 = 4890909195324358656 := by decide
  unfold V; rw [e1, e2]
  have : val 4890909195324358656 = 4503599627370496 * 2 ^ 1085 := valK 1085 4503599627370496 (.inr (Nat.le_refl _)) (by decide)
  rw [this]; unfold U
  have : (1085 : Nat) = ue + 11 := rfl
  rw [this, pow_split]
  generalize 2 ^ ue = Y
  have e : 4503599627370496 * (Y * 2 ^ 11) = 9223372036854775808 * Y := by omega
  rw [e, if_pos rfl]
  omega
theorem V_hi : V 4890909195324358656 = 9223372036854775808 * (U : Int) := by
  have e1 : ng 4890909195324358656 = false := by decide
  have e2 : rg 4890909195324358656 = 4890909195324358656 := by decide
  unfold V; rw [e1, e2]
  have : val 4890909195324358656 = 4503599627370496 * 2 ^ 1085 := valK 1085 4503599627370496 (.inr (Nat.le_refl _)) (by decide)
  rw [this]; unfold U
  have : (1085 : Nat) = ue + 11 := rfl
  rw [this, pow_split]
  generalize 2 ^ ue = Y
  have e : 4503599627370496 * (Y * 2 ^ 11) = 9223372036854775808 * Y := by omega
  rw [e, if_neg (by decide)]
  omega
theorem fin_lo : fin 14114281232179134464 := by unfold fin; decide
theorem fin_hi : fin 4890909195324358656 := by unfold fin; decide
/-- A finite word made whole. -/
theorem Rd.fin {way : Toward} {x y : Nat} (h : Rd way x y) (hf : rg x < inf) : fin y ∧ nan y = false ∧ V y = wn way x * (U : Int) ∧ ng y = ng x ∧ val (rg y) = whole way (ng x) (val (rg x)) * U := by
  have hn : nan x = false := nan_false.2 (by omega)
  obtain ⟨r, e, hr, hv⟩ := integral_fin way (x := x) hf
  have hy : y = wd (ng x) r := (h.2.2 hn).trans e
  have hi : inf = 9218868437227405312 := rfl
  have h9 : r < 9223372036854775808 := by omega
  have e1 : rg y = r := by rw [hy, rg_wd h9]
  have e2 : ng y = ng x := by rw [hy, ng_wd h9]
  refine ⟨by unfold Fl.fin; rw [e1]; exact hr, nan_false.2 (by rw [e1]; omega), ?_, e2, by rw [e1, hv]⟩
  rw [hy, V_wd h9, hv]
  unfold wn
  cases ng x
  · simp
  · simp [Int.neg_mul]
theorem Rd.inf {way : Toward} {x y : Nat} (h : Rd way x y) (hx : x < 18446744073709551616) (hf : rg x = Fl.inf) : y = x := by
  have hn : nan x = false := nan_false.2 (by omega)
  rw [h.2.2 hn]
  unfold itg
  rw [decode_eq, read_inf hf]
  show double.word (ng x) double.infRung = x
  rw [word_eq, dbl_inf, ← hf, wd_rg hx]
theorem cmp_lt {a b : Int} : (compare a b = .lt) ↔ a < b := by
  show compareOfLessAndEq _ _ = _ ↔ _
  unfold compareOfLessAndEq; split <;> simp [*]; split <;> simp [*]
theorem cmp_gt {a b : Int} : (compare a b = .gt) ↔ b < a := by
  show compareOfLessAndEq _ _ = _ ↔ _
  unfold compareOfLessAndEq; split
  · simp; omega
  · split
    · simp; omega
    · simp; omega
theorem cmp_eq {a b : Int} : (compare a b = .eq) ↔ a = b := by
  show compareOfLessAndEq _ _ = _ ↔ _
  unfold compareOfLessAndEq; split
  · simp; omega
  · split <;> simp [*]
theorem ord_lo {y : Nat} {n : Int} (hf : fin y) (hv : V y = n * (U : Int)) : (FloatKind.f64.format.order y 14114281232179134464 == some Ordering.lt) = decide (n < -9223372036854775808) := by
  show (double.order y 14114281232179134464 == some Ordering.lt) = _
  rw [order_fin hf fin_lo, V_lo, hv, cmp_mul U_pos]
  rw [Bool.eq_iff_iff]; simp [cmp_lt]
theorem ord_hi {y : Nat} {n : Int} (hf : fin y) (hv : V y = n * (U : Int)) : (FloatKind.f64.format.order y 4890909195324358656 == some Ordering.gt) = decide (9223372036854775808 < n) ∧ (FloatKind.f64.format.order y 4890909195324358656 == some Ordering.eq) = decide (n = 9223372036854775808) := by
  show (double.order y 4890909195324358656 == some Ordering.gt) = _ ∧ (double.order y 4890909195324358656 == some Ordering.eq) = _
  rw [order_fin hf fin_hi, V_hi, hv, cmp_mul U_pos]
  constructor <;> (rw [Bool.eq_iff_iff]; simp [cmp_gt, cmp_eq])
theorem toInt_whole {way : Toward} {x y : Nat} (h : Rd way x y) (hf : rg x < Fl.inf) (h0 : -9223372036854775808 ≤ wn way x) (h1 : wn way x < 9223372036854775808) : floatToIntVal .f64 y .i64 = some (wn way x) := by
  obtain ⟨f, _, _, hg, hv⟩ := h.fin hf
  unfold floatToIntVal
  rw [toInt_fin f, hg, hv, Nat.mul_div_cancel _ U_pos]
  show (if IntKind.i64.min ≤ wn way x ∧ wn way x ≤ IntKind.i64.max then some (wn way x) else none) = _
  rw [if_pos]
  have a : IntKind.i64.min = -9223372036854775808 := by decide
  have b : IntKind.i64.max = 9223372036854775807 := by decide
  omega
end Fl
end Go.Proofs.Ytnfjdjfajkdiiaa
