/- Amounts: pieces cut at colons, the program's and the reference's, in plain lists. -/
import Derived.Test.YtafnnnbefabofaaDoorRmB
set_option linter.unusedVariables false
set_option linter.unusedSimpArgs false
namespace Go.Proofs.YtafnnnbefabofaaDoor
open Go.RowKit Go.Sort

namespace Am
theorem rest_nc : ∀ (l cur : List UInt8), nc l → rest cur l = [cur ++ l] := by
  intro l
  induction l with
  | nil => intro cur _; simp [rest]
  | cons c r ih =>
    intro cur h
    have hc : c ≠ 58 := h c List.mem_cons_self
    rw [rest, if_neg hc, ih _ (fun x hx => h x (List.mem_cons_of_mem _ hx)), List.append_assoc]
    rfl
theorem rest_at : ∀ (a cur r : List UInt8), nc a → rest cur (a ++ 58 :: r) = (cur ++ a) :: rest [] r := by
  intro a
  induction a with
  | nil => intro cur r _; simp [rest]
  | cons c a ih =>
    intro cur r h
    have hc : c ≠ 58 := h c List.mem_cons_self
    rw [List.cons_append, rest, if_neg hc, ih _ _ (fun x hx => h x (List.mem_cons_of_mem _ hx)), List.append_assoc]
    rfl
theorem rest_len : ∀ (l cur : List UInt8), 1 ≤ (rest cur l).length := by
  intro l
  induction l with
  | nil => intro cur; simp [rest]
  | cons c r ih =>
    intro cur
    rw [rest]
    split
    · simp
    · exact ih _
/-- A text has no colon, or one that is the first. -/
theorem first58 : ∀ l : List UInt8, nc l ∨ ∃ a r, l = a ++ 58 :: r ∧ nc a := by
  intro l
  induction l with
  | nil => exact .inl (fun c hc => by cases hc)
  | cons c r ih =>
    by_cases hc : c = 58
    · subst hc; exact .inr ⟨[], r, rfl, fun c hc => by cases hc⟩
    · rcases ih with h | ⟨a, r2, e, h⟩
      · left; intro x hx; rcases List.mem_cons.1 hx with rfl | hx
        · exact hc
        · exact h x hx
      · right; refine ⟨c :: a, r2, by rw [e]; rfl, ?_⟩
        intro x hx; rcases List.mem_cons.1 hx with rfl | hx
        · exact hc
        · exact h x hx
/-- Parts that are fine, none above 59 but the first one; what they come to. -/
def fin3 (P : List (List UInt8)) : Int × Int :=
  match P with
  | [a] => if isP 0 a then (if (Num.val 0 a : Int) * 3600 ≤ 604799 then ((Num.val 0 a : Int) * 3600, 0) else (0, 1)) else (0, 2)
  | [a, b] => if isP 0 a && isP 1 b then (if (Num.val 0 b : Int) ≤ 59 ∧ (Num.val 0 a : Int) * 3600 + (Num.val 0 b : Int) * 60 ≤ 604799 then ((Num.val 0 a : Int) * 3600 + (Num.val 0 b : Int) * 60, 0) else (0, 1)) else (0, 2)
  | [a, b, c] => if isP 0 a && (isP 1 b && isP 2 c) then (if (Num.val 0 b : Int) ≤ 59 ∧ (Num.val 0 c : Int) ≤ 59 ∧ (Num.val 0 a : Int) * 3600 + (Num.val 0 b : Int) * 60 + (Num.val 0 c : Int) ≤ 604799 then ((Num.val 0 a : Int) * 3600 + (Num.val 0 b : Int) * 60 + (Num.val 0 c : Int), 0) else (0, 1)) else (0, 2)
  | _ => (0, 2)
theorem isP_nc {i : Int} {l : List UInt8} (h : isP i l = true) : nc l := by
  unfold isP at h
  rw [Bool.and_eq_true] at h
  exact nc_dig h.1
/-- What the program answers ahead of the sign, by the pieces. -/
def mid (t : ByteArray) : Int × Int :=
  if okK t then (if vK t 1 < 60 ∧ vK t 2 < 60 ∧ vK t 0 * 3600 + vK t 1 * 60 + vK t 2 ≤ 604799 then (vK t 0 * 3600 + vK t 1 * 60 + vK t 2, 0) else (0, 1)) else (0, 2)
theorem pcs1 {s : ByteArray} (h : nc s.data.toList) : (pcs s).map (·.data.toList) = [s.data.toList] := by
  rw [pcs_data, splitK_no _ _ h]
theorem pcs2' {s : ByteArray} {a b : List UInt8} (e : s.data.toList = a ++ 58 :: b) (ha : nc a) (hb : nc b) : (pcs s).map (·.data.toList) = [a, b] := by
  rw [pcs_data, e]
  have hz : 1 ≤ s.size := by rw [← ab_len, e, List.length_append, List.length_cons]; omega
  obtain ⟨k, hk⟩ : ∃ k, min 3 (s.size + 1) - 1 = k + 1 := ⟨min 3 (s.size + 1) - 2, by omega⟩
  rw [hk, splitK_at _ _ _ ha, splitK_no _ _ hb]
theorem mid_eq (t : ByteArray) : mid t = fin3 (rest [] t.data.toList) := by
  unfold mid okK
  rw [isK_l, isK_l, isK_l, vK_l, vK_l, vK_l]
  rcases first58 t.data.toList with h | ⟨a, r, e, ha⟩
  · rw [rest_nc _ _ h, pcs1 h]
    show (if (isP 0 t.data.toList && (true && true)) = true then _ else _) = fin3 [t.data.toList]
    show _ = if isP 0 t.data.toList = true then _ else _
    cases hp : isP 0 t.data.toList
    · rw [if_neg (by decide), if_neg (by decide)]
    · rw [if_pos (by decide), if_pos rfl]
      show (if (0 : Int) < 60 ∧ (0 : Int) < 60 ∧ (Num.val 0 t.data.toList : Int) * 3600 + 0 * 60 + 0 ≤ 604799 then (_, _) else _) = _
      by_cases hc : (Num.val 0 t.data.toList : Int) * 3600 ≤ 604799
      · rw [if_pos hc, if_pos ⟨by decide, by decide, by omega⟩]
        show ((Num.val 0 t.data.toList : Int) * 3600 + 0 * 60 + 0, _) = _
        rw [show (Num.val 0 t.data.toList : Int) * 3600 + 0 * 60 + 0 = (Num.val 0 t.data.toList : Int) * 3600 by omega]
      · rw [if_neg hc, if_neg (fun h => hc (by omega))]
  · rcases first58 r with h | ⟨b, c, e2, hb⟩
    · rw [e, rest_at _ _ _ ha, rest_nc _ _ h, pcs2' e ha h]
      show (if (isP 0 a && (isP 1 r && true)) = true then _ else _) = fin3 [a, r]
      show _ = if (isP 0 a && isP 1 r) = true then _ else _
      rw [Bool.and_true]
      cases hp : (isP 0 a && isP 1 r)
      · rw [if_neg (by decide), if_neg (by decide)]
      · rw [if_pos rfl, if_pos rfl]
        show (if (Num.val 0 r : Int) < 60 ∧ (0 : Int) < 60 ∧ (Num.val 0 a : Int) * 3600 + (Num.val 0 r : Int) * 60 + 0 ≤ 604799 then _ else _) = _
        by_cases hc : (Num.val 0 r : Int) ≤ 59 ∧ (Num.val 0 a : Int) * 3600 + (Num.val 0 r : Int) * 60 ≤ 604799
        · rw [if_pos hc, if_pos ⟨by omega, by decide, by omega⟩]; show (_ + 0, _) = _; rw [Int.add_zero]; rfl
        · rw [if_neg hc, if_neg (fun h => hc ⟨by omega, by omega⟩)]
    · subst e2
      rw [e, rest_at _ _ _ ha, rest_at _ _ _ hb, pcs3 e ha hb]
      show (if (isP 0 a && (isP 1 b && isP 2 c)) = true then _ else _) = _
      rcases first58 c with h | ⟨d, f, e3, hd⟩
      · rw [rest_nc _ _ h]
        show _ = fin3 [a, b, c]
        show _ = if (isP 0 a && (isP 1 b && isP 2 c)) = true then _ else _
        cases hp : (isP 0 a && (isP 1 b && isP 2 c))
        · rw [if_neg (by decide), if_neg (by decide)]
        · rw [if_pos rfl, if_pos rfl]
          show (if (Num.val 0 b : Int) < 60 ∧ (Num.val 0 c : Int) < 60 ∧ _ then _ else _) = _
          by_cases hc : (Num.val 0 b : Int) ≤ 59 ∧ (Num.val 0 c : Int) ≤ 59 ∧ (Num.val 0 a : Int) * 3600 + (Num.val 0 b : Int) * 60 + (Num.val 0 c : Int) ≤ 604799
          · rw [if_pos hc, if_pos ⟨by omega, by omega, hc.2.2⟩]; rfl
          · rw [if_neg hc, if_neg (fun h => hc ⟨by omega, by omega, h.2.2⟩)]
      · have hno : isP 2 c = false := by
          cases hp : isP 2 c
          · rfl
          · exfalso
            have := isP_nc hp
            rw [e3] at this
            exact this 58 (List.mem_append_right _ List.mem_cons_self) rfl
        rw [hno, e3, rest_at _ _ _ hd]
        have := rest_len f []
        obtain ⟨y, z, hz⟩ : ∃ y z, rest [] f = y :: z := by
          cases hr : rest [] f with
          | nil => rw [hr] at this; simp at this
          | cons y z => exact ⟨y, z, rfl⟩
        rw [hz]
        have : (isP 0 a && (isP 1 b && false)) = false := by simp
        rw [this]
        rfl
theorem rd_mid (s : ByteArray) : rd s = if s.data.toList = [45] then (0, 0) else if neg s then ((-(mid (un s)).1), (mid (un s)).2) else mid (un s) := by
  have hb : (s.toList == [45]) = decide (s.data.toList = [45]) := by rw [ByteArray.toList_eq]; exact (Bool.beq_eq_decide_eq _ _)
  unfold rd mid
  rw [hb]
  by_cases h1 : s.data.toList = [45]
  · rw [if_pos (by simpa using h1), if_pos h1]
  · rw [if_neg (by simpa using h1), if_neg h1]
    cases ho : okK (un s)
    · rw [if_pos rfl]; cases neg s <;> rfl
    · rw [if_neg (by decide)]
      have hi : inR s = decide (vK (un s) 1 < 60 ∧ vK (un s) 2 < 60 ∧ vK (un s) 0 * 3600 + vK (un s) 1 * 60 + vK (un s) 2 ≤ 604799) := by
        unfold inR sum
        rw [Bool.decide_and, Bool.decide_and]
      rw [hi]
      by_cases hc : vK (un s) 1 < 60 ∧ vK (un s) 2 < 60 ∧ vK (un s) 0 * 3600 + vK (un s) 1 * 60 + vK (un s) 2 ≤ 604799
      · rw [if_neg (by rw [decide_eq_true hc]; decide)]
        cases neg s
        · rw [if_neg (by decide), if_neg (by decide), if_pos rfl, if_pos hc]; rfl
        · rw [if_pos rfl, if_pos rfl, if_pos rfl, if_pos hc]; rfl
      · rw [if_pos (by rw [decide_eq_false hc])]
        cases neg s
        · rw [if_neg (by decide), if_pos rfl, if_neg hc]
        · rw [if_pos rfl, if_pos rfl, if_neg hc]; rfl
end Am
end Go.Proofs.YtafnnnbefabofaaDoor

