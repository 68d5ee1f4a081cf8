/- Numbers' texts that are read, in plain arithmetic: by their digits alone. -/
import Derived.Test.YtfcabofhlgmkjaaDoorRdM
set_option linter.unusedVariables false
namespace Go.Proofs.YtfcabofhlgmkjaaDoor.Num
open Go.RowKit Go.Lib

theorem rn_len (a : ByteArray) : a.data.toList.length = a.size := Array.length_toList
theorem rn_drop (a : ByteArray) (k : Nat) (h : k < a.size) : a.data.toList.drop k = a[k] :: a.data.toList.drop (k + 1) := by
  rw [List.drop_eq_getElem_cons (by rw [rn_len]; exact h)]
  rfl
theorem rn_dig (c : UInt8) : dig c = (decide (48 ≤ (c.toNat : Int)) && decide ((c.toNat : Int) ≤ 57)) := by
  unfold dig
  by_cases h1 : 48 ≤ c.toNat <;> by_cases h2 : c.toNat ≤ 57 <;> simp [h1, h2] <;> omega
theorem parse_le (M : Nat) (l : List UInt8) : ∀ (acc v : Nat), acc ≤ M → parseUintM M acc l = .ok v → v ≤ M := by
  induction l with
  | nil => intro acc v h e; rw [parse_nil] at e; injection e with e; omega
  | cons c r ih =>
    intro acc v h e
    rw [parseUintM] at e
    split at e
    · split at e
      · cases e
      · split at e
        · cases e
        · exact ih _ v (by omega) e
    · cases e
theorem val_le (l : List UInt8) : ∀ (a : Nat), a * 10 ^ l.length ≤ val a l := by
  induction l with
  | nil => intro a; rw [val_nil]; simp
  | cons c r ih =>
    intro a
    rw [val_cons]
    refine Nat.le_trans ?_ (ih (stp a c))
    rw [stp_eq, List.length_cons, Nat.pow_succ, Nat.mul_comm (10 ^ r.length) 10, ← Nat.mul_assoc]
    exact Nat.mul_le_mul_right _ (by omega)
/-- A text of more than 19 digits, no nought ahead, is too far. -/
theorem val_far {d : List UInt8} (ha : d.all dig = true) (hz : ∀ c r, d = c :: r → r ≠ [] → c ≠ 48) (hl : 19 < d.length) : 10000000000000000000 ≤ val 0 d := by
  cases d with
  | nil => simp at hl
  | cons c r =>
    have hr : 19 ≤ r.length := by simp at hl; omega
    have hc := hz c r rfl (by intro e; rw [e] at hr; simp at hr)
    have hd : 48 ≤ c.toNat ∧ c.toNat ≤ 57 := by
      simp only [List.all_cons, Bool.and_eq_true, dig, decide_eq_true_eq] at ha; exact ha.1
    have hc' : c.toNat ≠ 48 := fun e => hc (UInt8.toNat_inj.1 (by rw [e]; rfl))
    rw [val_cons]
    have h1 := val_le r (stp 0 c)
    have h2 : 1 ≤ stp 0 c := by rw [stp_eq]; omega
    have h3 := Nat.pow_le_pow_right (n := 10) (by omega) hr
    have h4 := Nat.mul_le_mul h2 h3
    have h5 : (1 : Nat) * 10 ^ 19 = 10000000000000000000 := by decide
    omega
theorem val_near {d : List UInt8} (ha : d.all dig = true) (hl : d.length ≤ 19) : val 0 d < 10000000000000000000 := val_bd (k := 19) ha hl
/-- What a text is read as: the number, the error's. -/
def rd (l : List UInt8) : Int × Int := if isT l then (match parseIntB 64 l with | .ok v => (v, 0) | _ => (0, 1)) else (0, 2)
/-- The like, by its digits. -/
def rdD (b : Bool) (d : List UInt8) : Int × Int :=
  if numT b d then (if 19 < d.length then (0, 1) else if b then (if 9223372036854775808 < val 0 d then (0, 1) else (-(val 0 d : Int), 0)) else (if 9223372036854775807 < val 0 d then (0, 1) else ((val 0 d : Int), 0))) else (0, 2)
theorem parseU_at (d : List UInt8) (h : d ≠ []) (ha : d.all dig = true) : parseUintB 64 d = if val 0 d ≤ 18446744073709551615 then .ok (val 0 d) else .range := by
  have e : (2 : Nat) ^ 64 - 1 = 18446744073709551615 := by decide
  split
  · rename_i hv
    unfold parseUintB
    rw [if_neg h, e]
    exact parse_ok _ (by unfold Small; decide) d 0 ha hv
  · rename_i hv
    rcases parseU d h ha with hu | hu
    · exfalso
      unfold parseUintB at hu
      rw [if_neg h, e] at hu
      exact hv (parse_le _ d 0 _ (by omega) hu)
    · exact hu
theorem rd_eq (l : List UInt8) : rd l = rdD (hasPrefix l [45]) (trimPrefix l [45]) := by
  unfold rd rdD
  show (if isT l = true then _ else _) = (if isT l = true then _ else _)
  by_cases h : isT l = true
  · rw [if_pos h, if_pos h]
    cases l with
    | nil => exact absurd h (by decide)
    | cons c d =>
      have e63 : (2 : Nat) ^ (64 - 1) = 9223372036854775808 := by decide
      by_cases hc : c = 45
      · subst hc
        unfold isT at h
        rw [hp_cons, tp_minus] at h ⊢
        obtain ⟨a, b, e, f⟩ := numT_yes h
        have hu := parseU_at d a b
        rw [if_pos (show (45 == (45 : UInt8)) = true from rfl)]
        unfold parseIntB
        simp only [show (45 : UInt8).toNat = 45 from rfl, or_true, if_true, hu, e63]
        by_cases hv : val 0 d ≤ 18446744073709551615
        · rw [if_pos hv]
          simp only [not_true_eq_false, false_and, if_false, true_and]
          by_cases hf : 9223372036854775808 < val 0 d
          · rw [if_pos hf, if_pos hf]
            by_cases hl : 19 < d.length
            · rw [if_pos hl]
            · rw [if_neg hl]
          · rw [if_neg hf, if_neg hf, if_neg (fun hl => by have := val_far b e hl; omega)]
        · rw [if_neg hv]
          by_cases hl : 19 < d.length
          · rw [if_pos hl]
          · rw [if_neg hl, if_pos (by omega)]
      · unfold isT at h
        rw [hp_cons, tp_other c d hc] at h ⊢
        obtain ⟨a, b, e, _⟩ := numT_yes h
        have hd : 48 ≤ c.toNat ∧ c.toNat ≤ 57 := by
          simp only [List.all_cons, Bool.and_eq_true, dig, decide_eq_true_eq] at b; exact b.1
        have n43 : ¬ (c.toNat = 43 ∨ c.toNat = 45) := by omega
        have n45 : ¬ c.toNat = 45 := by omega
        have hu := parseU_at (c :: d) a b
        rw [if_neg (show ¬ (c == (45 : UInt8)) = true by simpa using hc)]
        unfold parseIntB
        simp only [if_neg n43, hu, e63]
        by_cases hv : val 0 (c :: d) ≤ 18446744073709551615
        · rw [if_pos hv]
          simp only [n45, not_false_eq_true, true_and, false_and, if_false]
          by_cases hf : 9223372036854775808 ≤ val 0 (c :: d)
          · rw [if_pos hf, if_pos (show 9223372036854775807 < val 0 (c :: d) by omega)]
            by_cases hl : 19 < (c :: d).length
            · rw [if_pos hl]
            · rw [if_neg hl]
          · rw [if_neg hf, if_neg (show ¬ 9223372036854775807 < val 0 (c :: d) by omega), if_neg (fun hl => by have := val_far b e hl; omega)]
        · rw [if_neg hv]
          by_cases hl : 19 < (c :: d).length
          · rw [if_pos hl]
          · rw [if_neg hl, if_pos (by omega)]
  · rw [if_neg h, if_neg h]
/-- Numbers' texts are short. -/
theorem dec_short (u : Nat) (h : u < 18446744073709551616) : (decDigits u).length ≤ 20 := by
  have e : (10 : Nat) ^ (19 + 1) = 100000000000000000000 := by decide
  exact dec_len 19 u (by rw [e]; omega)
end Go.Proofs.YtfcabofhlgmkjaaDoor.Num
