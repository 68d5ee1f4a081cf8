/- Numbers' texts, in plain arithmetic: what is read is written as it was; what is no text. -/
import Derived.Test.YtlonbjllgiebhaaDoorNumM
import Derived.Lib.ItoaLen
set_option linter.unusedVariables false
namespace Go.Proofs.YtlonbjllgiebhaaDoor.Num
open Go Go.Lib

theorem isT_nought {l : List UInt8} (h : l ≠ []) : isT (48 :: l) = false := by
  unfold isT
  rw [hp_cons, tp_other 48 l (by decide)]
  cases l with
  | nil => exact absurd rfl h
  | cons c r =>
    show numT ((48 : UInt8) == 45) (48 :: c :: r) = false
    unfold numT
    show (!((48 : UInt8) == 48 && (_ || !(c :: r).isEmpty)) && (48 :: c :: r).all dig) = false
    simp
theorem isT_minus (l : List UInt8) : isT (45 :: 45 :: l) = false := by
  unfold isT
  rw [hp_cons, tp_minus]
  show (!((45 : UInt8) == 48 && (((45 : UInt8) == 45) || !l.isEmpty)) && (45 :: l).all dig) = false
  have : dig 45 = false := by decide
  simp [this]
theorem itoa_ne (n : Int) : itoa n ≠ [] := by
  unfold itoa
  split
  · simp
  · exact (dec_all n.toNat n.toNat (Nat.le_refl _)).2.1
/-- What numT says of a text. -/
theorem numT_yes {b : Bool} {d : List UInt8} (h : numT b d = true) : d ≠ [] ∧ d.all dig = true ∧ (∀ c r, d = c :: r → r ≠ [] → c ≠ 48) ∧ (b = true → ∀ c r, d = c :: r → c ≠ 48) := by
  cases d with
  | nil => have h2 : false = true := h; cases h2
  | cons c r =>
    have h' : (!(c == 48 && (b || !r.isEmpty)) && (c :: r).all dig) = true := h
    rw [Bool.and_eq_true] at h'
    obtain ⟨h1, h2⟩ := h'
    refine ⟨by simp, h2, ?_, ?_⟩
    · intro c' r' e hr hc
      injection e with e1 e2
      subst e1 e2
      rw [hc] at h1
      have : r.isEmpty = false := by simpa using hr
      rw [this] at h1; simp at h1
    · intro hb c' r' e hc
      injection e with e1 e2
      subst e1 e2
      rw [hc, hb] at h1; simp at h1
theorem parseU (d : List UInt8) (h : d ≠ []) (ha : d.all dig = true) : parseUintB 64 d = .ok (val 0 d) ∨ parseUintB 64 d = .range := by
  unfold parseUintB
  rw [if_neg h]
  exact parse_all _ d 0 ha
theorem val_pos {d : List UInt8} (h : d ≠ []) (ha : d.all dig = true) (hz : ∀ c r, d = c :: r → c ≠ 48) : 1 ≤ val 0 d := by
  cases d with
  | nil => exact absurd rfl h
  | cons c r =>
    have hc := hz c r rfl
    have hd : 48 ≤ c.toNat ∧ c.toNat ≤ 57 := by
      simp only [List.all_cons, Bool.and_eq_true, dig, decide_eq_true_eq] at ha; exact ha.1
    have hc' : c.toNat ≠ 48 := fun e => hc (UInt8.toNat_inj.1 (by rw [e]; rfl))
    have hs : 1 ≤ stp 0 c := by rw [stp_eq]; omega
    rw [val_cons]; exact Nat.le_trans hs (val_ge r _)
/-- A number's text has a number, or one that is too far; what is read is written as it was. -/
theorem isT_read {l : List UInt8} (h : isT l = true) : parseIntB 64 l = .range ∨ ∃ x, parseIntB 64 l = .ok x ∧ itoa x = l ∧ -9223372036854775808 ≤ x ∧ x ≤ 9223372036854775807 := by
  cases l with
  | nil => exact absurd h (by decide)
  | cons c d =>
    by_cases hc : c = 45
    · subst hc
      unfold isT at h
      rw [hp_cons, tp_minus] at h
      obtain ⟨a, b, e, f⟩ := numT_yes h
      have f := f rfl
      have hp := val_pos a b f
      have hv := dec_of_val d b a e
      unfold parseIntB
      simp only [show (45 : UInt8).toNat = 45 from rfl, or_true, if_true]
      rcases parseU d a b with hu | hu
      · rw [hu]
        simp only [not_true_eq_false, false_and, if_false, true_and]
        by_cases hb : 2 ^ (64 - 1) < val 0 d
        · left; rw [if_pos hb]
        · right
          rw [if_neg hb]
          have hb2 : val 0 d ≤ 9223372036854775808 := by
            have : (2 : Nat) ^ (64 - 1) = 9223372036854775808 := by decide
            omega
          refine ⟨_, rfl, ?_, by omega, by omega⟩
          unfold itoa
          rw [if_pos (by omega), Int.natAbs_neg, Int.natAbs_natCast, hv]
      · left; rw [hu]
    · unfold isT at h
      rw [hp_cons, tp_other c d hc] at h
      obtain ⟨a, b, e, _⟩ := numT_yes h
      have hv := dec_of_val (c :: d) b a e
      have hd : 48 ≤ c.toNat ∧ c.toNat ≤ 57 := by
        simp only [List.all_cons, Bool.and_eq_true, dig, decide_eq_true_eq] at b; exact b.1
      have n43 : ¬ (c.toNat = 43 ∨ c.toNat = 45) := by omega
      have n45 : ¬ c.toNat = 45 := by omega
      unfold parseIntB
      simp only [if_neg n43]
      rcases parseU (c :: d) a b with hu | hu
      · rw [hu]
        simp only [n45, not_false_eq_true, true_and, false_and, if_false]
        by_cases hb : 2 ^ (64 - 1) ≤ val 0 (c :: d)
        · left; rw [if_pos hb]
        · right
          rw [if_neg hb]
          have hb2 : val 0 (c :: d) < 9223372036854775808 := by
            have : (2 : Nat) ^ (64 - 1) = 9223372036854775808 := by decide
            omega
          refine ⟨_, rfl, ?_, by omega, by omega⟩
          unfold itoa
          rw [if_neg (by omega), Int.toNat_natCast, hv]
      · left; rw [hu]
end Go.Proofs.YtlonbjllgiebhaaDoor.Num
