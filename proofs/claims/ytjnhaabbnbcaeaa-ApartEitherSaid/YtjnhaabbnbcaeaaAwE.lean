/- Rules far enough from each other: either way, in plain numbers. -/
import Derived.Test.YtjnhaabbnbcaeaaAwP
set_option linter.unusedVariables false
set_option linter.unusedSimpArgs false
namespace Go.Proofs.Ytjnhaabbnbcaeaa
open Go.RowKit

namespace Aw
theorem inY_comm0 (a b : C) : inY a b 0 = inY b a 0 := by
  unfold inY
  congr 1
  exact propext ⟨fun h => by omega, fun h => by omega⟩
theorem near_comm (a b : C) : near a b = near b a := by
  unfold near
  rw [inY_comm0 a b]
  cases inY b a 0 <;> cases isB a b 0 <;> cases isB b a 0 <;> cases inY a b 1 <;> cases inY b a 1 <;> cases isB a b 1 <;> cases isB b a 1 <;> rfl
theorem pr_comm (a b : C) : pr a b = pr b a := by
  unfold pr
  rw [near_comm a b]
  by_cases h : a.2.2.2.2 = 0 ∧ b.2.2.2.2 = 0
  · have h' := And.intro h.2 h.1
    rw [if_pos (c := a.2.2.2.2 = 0 ∧ b.2.2.2.2 = 0) h, if_pos (c := b.2.2.2.2 = 0 ∧ a.2.2.2.2 = 0) h']
  · rw [if_neg (c := a.2.2.2.2 = 0 ∧ b.2.2.2.2 = 0) h, if_neg (c := b.2.2.2.2 = 0 ∧ a.2.2.2.2 = 0) (fun k => h ⟨k.2, k.1⟩)]
theorem wy_0 (r : R) : wy r = 0 ↔ rt r = true := by
  unfold wy
  by_cases h : rt r = true
  · simp [h]
  · simp [h]
/-- There is no answer where one is not right. -/
theorem pr_4 (a b : R) : (pr (rc a) (rc b) == 4) = (!rt a || !rt b) := by
  have e : ∀ r : R, (rc r).2.2.2.2 = wy r := fun _ => rfl
  unfold pr
  simp only [e, wy_0]
  cases rt a <;> cases rt b <;> simp
  split <;> simp
/-- Too close: in one year, or next to each other. -/
theorem pr_15 (a b : R) (h : pr (rc a) (rc b) = 15) : a.2.1 ≤ b.2.2.1 + 1 ∧ b.2.1 ≤ a.2.2.1 + 1 := by
  unfold pr at h
  split at h
  case isFalse => exact absurd h (by decide)
  split at h
  case isFalse => exact absurd h (by decide)
  rename_i hn
  unfold near at hn
  have i0 : inY (rc a) (rc b) 0 = true → a.2.1 ≤ b.2.2.1 + 1 ∧ b.2.1 ≤ a.2.2.1 + 1 := fun h => by
    have h := of_decide_eq_true h
    have h : max (a.2.1 + 0) b.2.1 ≤ min (a.2.2.1 + 0) b.2.2.1 := h
    omega
  have i1 : inY (rc a) (rc b) 1 = true → a.2.1 ≤ b.2.2.1 + 1 ∧ b.2.1 ≤ a.2.2.1 + 1 := fun h => by
    have h := of_decide_eq_true h
    have h : max (a.2.1 + 1) b.2.1 ≤ min (a.2.2.1 + 1) b.2.2.1 := h
    omega
  have i2 : inY (rc b) (rc a) 1 = true → a.2.1 ≤ b.2.2.1 + 1 ∧ b.2.1 ≤ a.2.2.1 + 1 := fun h => by
    have h := of_decide_eq_true h
    have h : max (b.2.1 + 1) a.2.1 ≤ min (b.2.2.1 + 1) a.2.2.1 := h
    omega
  simp only [Bool.or_eq_true, Bool.and_eq_true] at hn
  rcases hn with ⟨h, -⟩ | ⟨h, -⟩ | ⟨h, -⟩
  · exact i0 h
  · exact i1 h
  · exact i2 h
def named1 (s : ByteArray) : R → R
  | (_, fy, ty, m, k, wk, d, sec, base, save, t) => (s, fy, ty, m, k, wk, d, sec, base, save, t)
/-- A name that may be has no part. -/
theorem rc_name (s : ByteArray) (hn : (Lk.nm s.data.toList == 0) = true) (r : R) (h : rt r = true) : rc (named1 s r) = rc r ∧ rt (named1 s r) = true := by
  obtain ⟨s0, fy, ty, m, k, wk, d, sec, base, save, t⟩ := r
  have h : Ru.rB s0 t fy ty m k wk d sec base save = true := h
  have h' : Ru.rB s t fy ty m k wk d sec base save = true := by
    unfold Ru.rB at h ⊢
    rw [Bool.and_eq_true] at h ⊢
    exact ⟨hn, h.2⟩
  refine ⟨?_, h'⟩
  have e1 : lo (s, fy, ty, m, k, wk, d, sec, base, save, t) = lo (s0, fy, ty, m, k, wk, d, sec, base, save, t) := (if_pos h').trans (if_pos h).symm
  have e2 : hi (s, fy, ty, m, k, wk, d, sec, base, save, t) = hi (s0, fy, ty, m, k, wk, d, sec, base, save, t) := (if_pos h').trans (if_pos h).symm
  have e3 : wy (s, fy, ty, m, k, wk, d, sec, base, save, t) = wy (s0, fy, ty, m, k, wk, d, sec, base, save, t) := (if_pos h').trans (if_pos h).symm
  show (fy, ty, lo (s, fy, ty, m, k, wk, d, sec, base, save, t), hi (s, fy, ty, m, k, wk, d, sec, base, save, t), wy (s, fy, ty, m, k, wk, d, sec, base, save, t)) = (fy, ty, lo (s0, fy, ty, m, k, wk, d, sec, base, save, t), hi (s0, fy, ty, m, k, wk, d, sec, base, save, t), wy (s0, fy, ty, m, k, wk, d, sec, base, save, t))
  rw [e1, e2, e3]
theorem nm_else : (Lk.nm (⟨#[69, 108, 115, 101]⟩ : ByteArray).data.toList == 0) = true := by decide +kernel
theorem pr_name (a b : R) (h : pr (rc a) (rc b) ≠ 4) : pr (rc (named1 ⟨#[69, 108, 115, 101]⟩ a)) (rc b) = pr (rc a) (rc b) := by
  have h4 := pr_4 a b
  rw [beq_eq_false_iff_ne.2 h] at h4
  cases ha : rt a with
  | false => rw [ha] at h4; cases h4
  | true => rw [(rc_name _ nm_else a ha).1]
end Aw
end Go.Proofs.Ytjnhaabbnbcaeaa
