/- Fields: where a mark stands first, where the blanks end: in plain lists. -/
import Derived.Test.YtnkmpchonlajpaaDoorFdC0
import Derived.Lib.DecodeN
import Derived.Shelf.GgClosure.StringsTrimFunc
import Derived.Shelf.GgClosure.StringsIndexFuncTop
import Derived.Laws.RangeAny
set_option linter.unusedVariables false
set_option linter.unusedSimpArgs false
namespace Go.Proofs.YtnkmpchonlajpaaDoor
open Go.RowKit

namespace Fd
theorem decode_low (s : ByteArray) (pos : Nat) (h : pos < s.size) (ha : (s[pos]'h).toNat < 128) : Utf8.decode s pos = ((s[pos]'h).toNat, 1) := by
  simp only [Utf8.decode, get_at s pos h, ha, if_true]
/-- The first place of a byte that is so; -1: none. -/
def fi (Q : UInt8 → Bool) : List UInt8 → Int → Int
  | [], _ => -1
  | c :: t, k => if Q c = true then k else fi Q t (k + 1)
theorem dn (n b0 b1 b2 b3 : Nat) (h : 128 ≤ b0) (n1 : 1 ≤ n) : (Lib.decodeN n b0 b1 b2 b3).2 ≤ n ∧ (Lib.decodeN n b0 b1 b2 b3).2 ≤ 4 ∧ (2 ≤ (Lib.decodeN n b0 b1 b2 b3).2 → 128 ≤ b1) ∧ (3 ≤ (Lib.decodeN n b0 b1 b2 b3).2 → 128 ≤ b2) ∧ (4 ≤ (Lib.decodeN n b0 b1 b2 b3).2 → 128 ≤ b3) := by
  unfold Lib.decodeN
  repeat' split
  all_goals (refine ⟨?_, ?_, ?_, ?_, ?_⟩ <;> simp only [] <;> omega)
theorem dec_high (s : ByteArray) (pos : Nat) (h : pos < s.size) (ha : 128 ≤ (s[pos]'h).toNat) : (Utf8.decode s pos).2 ≤ s.size - pos ∧ ∀ j, j < (Utf8.decode s pos).2 → ∀ hj : pos + j < s.size, 128 ≤ (s[pos + j]'hj).toNat := by
  rw [Lib.decode_at]
  have e : s.get! pos = s[pos]'h := get_at s pos h
  obtain ⟨d1, d2, d3, d4, d5⟩ := dn (s.size - pos) (s.get! pos).toNat (s.get! (pos + 1)).toNat (s.get! (pos + 2)).toNat (s.get! (pos + 3)).toNat (by rw [e]; exact ha) (by omega)
  refine ⟨d1, fun j hj hb => ?_⟩
  have e2 : s.get! (pos + j) = s[pos + j]'hb := get_at s (pos + j) hb
  rw [← e2]
  obtain rfl | rfl | rfl | rfl : j = 0 ∨ j = 1 ∨ j = 2 ∨ j = 3 := by omega
  · show 128 ≤ (s.get! pos).toNat
    rw [e]; exact ha
  · exact d3 (by omega)
  · exact d4 (by omega)
  · exact d5 (by omega)
theorem skip (Q : UInt8 → Bool) (s : ByteArray) : ∀ (K pos : Nat), pos + K ≤ s.size → (∀ j, j < K → ∀ hj : pos + j < s.size, Q (s[pos + j]'hj) = false) → fi Q (s.data.toList.drop pos) pos = fi Q (s.data.toList.drop (pos + K)) ((pos + K : Nat) : Int)
  | 0, pos, _, _ => rfl
  | K + 1, pos, h, hq => by
    rw [fd_drop s pos (by omega)]
    have h0 : Q (s[pos]'(by omega)) = false := hq 0 (by omega) (by omega)
    have hf : fi Q ((s[pos]'(by omega)) :: s.data.toList.drop (pos + 1)) pos = fi Q (s.data.toList.drop (pos + 1)) ((pos + 1 : Nat) : Int) := if_neg (by rw [h0]; decide)
    rw [hf]
    have r := skip Q s K (pos + 1) (by omega) (fun j hj hb => by
      have := hq (j + 1) (by omega) (by omega)
      simp only [show pos + (j + 1) = pos + 1 + j by omega] at this
      exact this)
    rw [show pos + (K + 1) = pos + 1 + K by omega, ← r]
theorem idx_yes (P : Nat → Bool) (hP : ∀ r, 128 ≤ r → P r = false) (s : ByteArray) : ∀ (f pos : Nat), s.size - pos ≤ f → Lib.idxFuncFrom P true s f pos = fi (fun c => P c.toNat) (s.data.toList.drop pos) pos
  | 0, pos, h => by
    rw [List.drop_of_length_le (by rw [fd_len]; omega)]
    rfl
  | f + 1, pos, h => by
    unfold Lib.idxFuncFrom
    by_cases hp : pos < s.size
    · rw [if_pos hp]
      by_cases ha : (s[pos]'hp).toNat < 128
      · rw [decode_low s pos hp ha, fd_drop s pos hp]
        unfold fi
        by_cases hq : P (s[pos]'hp).toNat = true
        · rw [if_pos hq, if_pos hq]
        · rw [if_neg hq, if_neg hq, idx_yes P hP s f (pos + 1) (by omega)]; rfl
      · obtain ⟨r1, r2⟩ := decode_high s pos hp (by omega)
        obtain ⟨z1, z2⟩ := dec_high s pos hp (by omega)
        rw [if_neg (by rw [hP _ r1]; decide), idx_yes P hP s f _ (by omega)]
        exact (skip (fun c => P c.toNat) s _ pos (by omega) (fun j hj hb => hP _ (z2 j hj hb))).symm
    · rw [if_neg hp, List.drop_of_length_le (by rw [fd_len]; omega)]
      rfl
theorem idx_no (P : Nat → Bool) (hP : ∀ r, 128 ≤ r → P r = false) (s : ByteArray) : ∀ (f pos : Nat), s.size - pos ≤ f → Lib.idxFuncFrom P false s f pos = fi (fun c => !P c.toNat) (s.data.toList.drop pos) pos
  | 0, pos, h => by
    rw [List.drop_of_length_le (by rw [fd_len]; omega)]
    rfl
  | f + 1, pos, h => by
    unfold Lib.idxFuncFrom
    by_cases hp : pos < s.size
    · rw [if_pos hp, fd_drop s pos hp]
      by_cases ha : (s[pos]'hp).toNat < 128
      · rw [decode_low s pos hp ha]
        unfold fi
        cases hq : P (s[pos]'hp).toNat
        · rw [if_pos rfl]; rfl
        · rw [if_neg (by decide), if_neg (by decide), idx_no P hP s f (pos + 1) (by omega)]; rfl
      · obtain ⟨r1, r2⟩ := decode_high s pos hp (by omega)
        unfold fi
        rw [if_pos (hP _ r1), if_pos (by show (!P (s[pos]'hp).toNat) = true; rw [hP _ (by omega)]; rfl)]
    · rw [if_neg hp, List.drop_of_length_le (by rw [fd_len]; omega)]
      rfl
theorem idx_mark (s : ByteArray) : Lib.idxFunc isK true s = fi (fun c => isK c.toNat) s.data.toList 0 := idx_yes isK (fun r h => by unfold isK; simp; omega) s s.size 0 (by omega)
theorem idx_blank (s : ByteArray) : Lib.idxFunc isW false s = fi (fun c => !isW c.toNat) s.data.toList 0 := idx_no isW (fun r h => by unfold isW; simp; omega) s s.size 0 (by omega)
end Fd
end Go.Proofs.YtnkmpchonlajpaaDoor
