/- Texts as bytes: their lists, digits, what stands behind a sign. -/
import Derived.Test.YtfcabofhlgmkjaaDoorNumA
set_option linter.unusedVariables false
set_option linter.unusedSimpArgs false
namespace Go.Proofs.YtfcabofhlgmkjaaDoor
open Go.RowKit

theorem ab_len (a : ByteArray) : a.data.toList.length = a.size := Array.length_toList
theorem ab_drop (a : ByteArray) (k : Nat) (h : k < a.size) : a.data.toList.drop k = a[k] :: a.data.toList.drop (k + 1) := by
  rw [List.drop_eq_getElem_cons (by rw [ab_len]; exact h)]
  rfl
theorem ab_dig (c : UInt8) : Num.dig c = (decide (48 ≤ (c.toNat : Int)) && decide ((c.toNat : Int) ≤ 57)) := by
  unfold Num.dig
  by_cases h1 : 48 ≤ c.toNat <;> by_cases h2 : c.toNat ≤ 57 <;> simp [h1, h2] <;> omega
theorem ab_trim (l p : List UInt8) : (Lib.trimPrefix l p).length ≤ l.length := by
  unfold Lib.trimPrefix
  split
  · rw [List.length_drop]; omega
  · omega
theorem ab_val_lt : ∀ (l : List UInt8) (a : Nat), l.all Num.dig = true → Num.val a l < (a + 1) * 10 ^ l.length := by
  intro l
  induction l with
  | nil => intro a _; rw [Num.val_nil]; simp
  | cons c r ih =>
    intro a h
    simp only [List.all_cons, Bool.and_eq_true] at h
    have hc : 48 ≤ c.toNat ∧ c.toNat ≤ 57 := by have := h.1; unfold Num.dig at this; exact of_decide_eq_true this
    have := ih (Num.stp a c) h.2
    rw [Num.val_cons, List.length_cons, Nat.pow_succ]
    have h1 : Num.stp a c + 1 ≤ (a + 1) * 10 := by rw [Num.stp_eq]; omega
    have h2 := Nat.mul_le_mul_right (10 ^ r.length) h1
    calc Num.val (Num.stp a c) r < (Num.stp a c + 1) * 10 ^ r.length := this
      _ ≤ (a + 1) * 10 * 10 ^ r.length := h2
      _ = (a + 1) * (10 ^ r.length * 10) := by rw [Nat.mul_assoc, Nat.mul_comm 10]
theorem ab_val_bd {l : List UInt8} {k : Nat} (hd : l.all Num.dig = true) (hl : l.length ≤ k) : Num.val 0 l < 10 ^ k := by
  have := ab_val_lt l 0 hd
  have h2 := Nat.pow_le_pow_right (n := 10) (by omega) hl
  omega
end Go.Proofs.YtfcabofhlgmkjaaDoor
