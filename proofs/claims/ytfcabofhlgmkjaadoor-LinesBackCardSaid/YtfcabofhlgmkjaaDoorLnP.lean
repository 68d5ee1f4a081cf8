/- Lines there and back, in plain lists of bytes. -/
import Derived.Test.YtfcabofhlgmkjaaDoorLnG
set_option linter.unusedVariables false
set_option linter.unusedSimpArgs false
namespace Go.Proofs.YtfcabofhlgmkjaaDoor
open Go.RowKit Go.Sort

namespace Ln
/-- No line feed. -/
def noB (l : List UInt8) : Bool := l.all fun c => !(decide (c = 10))
def fineB (L : List ByteArray) : Bool := L.all fun x => noB x.data.toList
theorem cut_app (a r cur : List UInt8) (h : noB a = true) : cut cur (a ++ 10 :: r) = (cur ++ a) :: cut [] r := by
  induction a generalizing cur with
  | nil =>
    show cut cur (10 :: r) = _
    rw [cut, if_pos rfl, List.append_nil]
  | cons c a ih =>
    unfold noB at h
    simp only [List.all_cons, Bool.and_eq_true, Bool.not_eq_true', decide_eq_false_iff_not] at h
    rw [List.cons_append, cut, if_neg h.1, ih (cur ++ [c]) h.2, List.append_assoc]
    rfl
theorem cut_jn (L : List ByteArray) (h : fineB L = true) : cut [] (jn L) = L.map (·.data.toList) := by
  induction L with
  | nil => rfl
  | cons x r ih =>
    unfold fineB at h
    rw [List.all_cons, Bool.and_eq_true] at h
    have e : jn (x :: r) = x.data.toList ++ 10 :: jn r := by unfold jn; rw [List.flatMap_cons, List.append_assoc]; rfl
    rw [e, cut_app _ _ _ h.1, List.nil_append, ih h.2]
    rfl
/-- Lines as a source, of plain lists. -/
def fl (P : List (List UInt8)) : List UInt8 := P.flatMap fun x => x ++ [10]
theorem fl_cut (s cur : List UInt8) : fl (cut cur s) = cur ++ s ∨ fl (cut cur s) = cur ++ s ++ [10] := by
  induction s generalizing cur with
  | nil =>
    unfold cut
    by_cases h : cur = []
    · rw [if_pos h, h]; exact .inl rfl
    · rw [if_neg h]; right; simp [fl]
  | cons c r ih =>
    unfold cut
    by_cases h : c = 10
    · rw [if_pos h]
      have e : fl (cur :: cut [] r) = cur ++ [10] ++ fl (cut [] r) := by unfold fl; rw [List.flatMap_cons]
      rw [e, h]
      rcases ih [] with hh | hh
      · left; rw [hh]; simp
      · right; rw [hh]; simp
    · rw [if_neg h]
      rcases ih (cur ++ [c]) with hh | hh
      · left; rw [hh]; simp
      · right; rw [hh]; simp
theorem jn_fl (L : List ByteArray) : jn L = fl (L.map (·.data.toList)) := by
  unfold jn fl
  induction L with
  | nil => rfl
  | cons x r ih => rw [List.flatMap_cons, List.map_cons, List.flatMap_cons, ih]
theorem fst_cases (P : List (List UInt8)) (k : Nat) : (fst P k = (0, 0) ∧ ∀ x ∈ P, chk x = 0) ∨ (∃ i : Nat, i < P.length ∧ fst P k = (((k + i : Nat) : Int) + 1, chk (P.getD i [])) ∧ chk (P.getD i []) ≠ 0 ∧ ∀ j, j < i → chk (P.getD j []) = 0) := by
  induction P generalizing k with
  | nil => left; exact ⟨rfl, fun x hx => by cases hx⟩
  | cons x r ih =>
    unfold fst
    by_cases h : chk x = 0
    · rw [if_pos h]
      rcases ih (k + 1) with ⟨a, b⟩ | ⟨i, hi, e, hne, hj⟩
      · left
        refine ⟨a, fun y hy => ?_⟩
        rcases List.mem_cons.1 hy with rfl | hy
        · exact h
        · exact b y hy
      · right
        refine ⟨i + 1, by simp; omega, ?_, hne, ?_⟩
        · rw [e]; congr 1; omega
        · intro j hjj
          cases j with
          | zero => exact h
          | succ j => exact hj j (by omega)
    · rw [if_neg h]
      right
      exact ⟨0, by simp, by simp, h, fun j hj => absurd hj (Nat.not_lt_zero _)⟩
end Ln
end Go.Proofs.YtfcabofhlgmkjaaDoor
