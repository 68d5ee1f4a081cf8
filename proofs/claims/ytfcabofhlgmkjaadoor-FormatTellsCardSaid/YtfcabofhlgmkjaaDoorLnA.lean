/- Lines: which bytes may stand in one; lines.Check. -/
import Derived.Test.YtfcabofhlgmkjaaDoorLaid6
import Derived.Test.YtfcabofhlgmkjaaDoorByt
import Derived.Shelf.GgClosure.StringsIndexFuncTop
import Derived.Laws.RangeAny
set_option linter.unusedVariables false
set_option linter.unusedSimpArgs false
namespace Go.Proofs.YtfcabofhlgmkjaaDoor
open Go.RowKit

namespace Ln
/-- May a byte stand in a line? -/
def okB (c : UInt8) : Bool := decide (c.toNat = 9) || (decide (32 ≤ c.toNat) && decide (c.toNat ≤ 126))
/-- A character that may not. -/
def wrC (r : Nat) : Bool := !(decide (r = 9)) && (decide (r < 32) || decide (126 < r))
/-- Why a line is not right. -/
def chk (l : List UInt8) : Int := if 511 < l.length then 9 else if l.all okB then 0 else 7
theorem decode_low (s : ByteArray) (pos : Nat) (h : pos < s.size) (ha : (s[pos]'h).toNat < 128) : Utf8.decode s pos = ((s[pos]'h).toNat, 1) := by
  simp only [Utf8.decode, get_at s pos h, ha, if_true]
theorem ok_wr (c : UInt8) : okB c = !(wrC c.toNat) := by
  unfold okB wrC
  by_cases h1 : c.toNat = 9 <;> by_cases h2 : c.toNat < 32 <;> by_cases h3 : 126 < c.toNat
  all_goals simp [h1, h2, h3]
  all_goals omega
theorem idx_wr (s : ByteArray) : ∀ (f pos : Nat), s.size - pos ≤ f → decide (0 ≤ Lib.idxFuncFrom wrC true s f pos) = !((s.data.toList.drop pos).all okB)
  | 0, pos, h => by
    rw [List.drop_of_length_le (by rw [ab_len]; omega)]
    rfl
  | f + 1, pos, h => by
    unfold Lib.idxFuncFrom
    by_cases hp : pos < s.size
    · rw [if_pos hp, ab_drop s pos hp, List.all_cons]
      by_cases ha : (s[pos]'hp).toNat < 128
      · rw [decode_low s pos hp ha, ok_wr]
        cases hw : wrC (s[pos]'hp).toNat
        · rw [if_neg (by simp)]
          rw [idx_wr s f (pos + 1) (by omega)]; simp
        · rw [if_pos rfl, decide_eq_true (by omega)]; rfl
      · obtain ⟨r1, r2⟩ := decode_high s pos hp (by omega)
        have hw : wrC (Utf8.decode s pos).1 = true := by unfold wrC; rw [decide_eq_false (by omega), decide_eq_true (show 126 < (Utf8.decode s pos).1 by omega)]; simp
        have ho : okB (s[pos]'hp) = false := by unfold okB; rw [decide_eq_false (by omega), decide_eq_false (show ¬ (s[pos]'hp).toNat ≤ 126 by omega)]; simp
        rw [if_pos hw, decide_eq_true (by omega), ho]; rfl
    · rw [if_neg hp, List.drop_of_length_le (by rw [ab_len]; omega)]
      rfl
theorem idx_all (s : ByteArray) : decide (0 ≤ Lib.idxFunc wrC true s) = !(s.data.toList.all okB) := idx_wr s s.size 0 (by omega)
end Ln
theorem isWrong_at (w : World) : PredAt Tryd.prog 86 #[] encR Ln.wrC w := fun W r _ => by
  unfold FnGives
  by_cases h1 : r = 9 <;> by_cases h2 : r < 32 <;> by_cases h3 : 126 < r
  all_goals
    have z1 : ((r : Int) == 9) = decide (r = 9) := by rw [Bool.eq_iff_iff, beq_iff_eq, decide_eq_true_eq]; omega
    have z2 : (r : Int) < 32 ↔ r < 32 := by omega
    have z3 : 126 < (r : Int) ↔ 126 < r := by omega
    have z4 : ((r : Int) != 9) = !decide (r = 9) := by unfold bne; rw [z1]
    go_enter Tryd.func86, Tryd.ntmps86
    go_wp2
    all_goals first | (exfalso; omega) | (go_ret; exact ⟨by simp [Ln.wrC, h1, h2, h3], 0, rfl⟩)
theorem containsWrong (s : ByteArray) (w : World) :
    Calls Tryd.prog 85 #[.string s, .func (.func 86) #[] #[]] w fun e w' => e = .returned (.bool (!(s.data.toList.all Ln.okB))) ∧ Below w.heap.size w w' := by
  rw [← Ln.idx_all]
  exact (Any.strings_ContainsFunc Tryd.laysGw17 86 #[] (enters_of Tryd.func86 (by kernel_rfl) rfl) Ln.wrC s w (isWrong_at w)).mono fun _ _ ⟨a, h⟩ => ⟨a, h⟩
end Go.Proofs.YtfcabofhlgmkjaaDoor
