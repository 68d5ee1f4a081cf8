/- A long source, line by line: in plain lists of bytes. -/
import Derived.Test.YtfcabofhlgmkjaaDoorLnG
set_option linter.unusedVariables false
set_option linter.unusedSimpArgs false
namespace Go.Proofs.YtfcabofhlgmkjaaDoor
open Go.RowKit Go.Sort

namespace Ln
/-- The byte at a place: blanks, and a line feed at each five hundredth. -/
def pat (j : Nat) : UInt8 := if j % 500 = 499 then 10 else 32
def run (a m : Nat) : List UInt8 := (List.range' a m).map pat
theorem run_zero (a : Nat) : run a 0 = [] := rfl
theorem run_succ (a m : Nat) : run a (m + 1) = pat a :: run (a + 1) m := by unfold run; rw [List.range'_succ]; rfl
theorem run_len (a m : Nat) : (run a m).length = m := by unfold run; simp
theorem run_get (a m j : Nat) (h : j < m) : (run a m)[j]'(by rw [run_len]; exact h) = pat (a + j) := by unfold run; simp
theorem run_ok (m : Nat) : ∀ (a : Nat) (cur : List UInt8), cur.length ≤ a % 500 → cur.all okB = true → ∀ x ∈ cut cur (run a m), chk x = 0 := by
  have ck : ∀ x : List UInt8, x.length ≤ 499 → x.all okB = true → chk x = 0 := fun x h1 h2 => by unfold chk; rw [if_neg (by omega), if_pos h2]
  induction m with
  | zero =>
    intro a cur hl ho x hx
    rw [run_zero] at hx
    unfold cut at hx
    split at hx
    · cases hx
    · rw [List.mem_singleton.1 hx]; exact ck cur (by omega) ho
  | succ m ih =>
    intro a cur hl ho x hx
    rw [run_succ] at hx
    unfold cut pat at hx
    by_cases h : a % 500 = 499
    · rw [if_pos h, if_pos rfl] at hx
      rcases List.mem_cons.1 hx with rfl | hx
      · exact ck _ (by omega) ho
      · exact ih (a + 1) [] (by simp) rfl x hx
    · rw [if_neg h, if_neg (by decide)] at hx
      refine ih (a + 1) (cur ++ [32]) (by simp; omega) ?_ x hx
      rw [List.all_append, ho]; rfl
theorem run_bad (m : Nat) : ∀ (a : Nat) (cur : List UInt8), cur.length ≤ a % 500 → cur.all okB = false → ∃ x r, cut cur (run a m) = x :: r ∧ chk x = 7 := by
  have ck : ∀ x : List UInt8, x.length ≤ 499 → x.all okB = false → chk x = 7 := fun x h1 h2 => by unfold chk; rw [if_neg (by omega), if_neg (by rw [h2]; simp)]
  induction m with
  | zero =>
    intro a cur hl ho
    rw [run_zero]
    unfold cut
    have : cur ≠ [] := fun h => by rw [h] at ho; cases ho
    rw [if_neg this]
    exact ⟨cur, [], rfl, ck cur (by omega) ho⟩
  | succ m ih =>
    intro a cur hl ho
    rw [run_succ]
    unfold cut pat
    by_cases h : a % 500 = 499
    · rw [if_pos h, if_pos rfl]
      exact ⟨cur, _, rfl, ck _ (by omega) ho⟩
    · rw [if_neg h, if_neg (by decide)]
      refine ih (a + 1) (cur ++ [32]) (by simp; omega) ?_
      rw [List.all_append, ho]; rfl
theorem fst_ok (P : List (List UInt8)) (k : Nat) (h : ∀ x ∈ P, chk x = 0) : fst P k = (0, 0) := by
  induction P generalizing k with
  | nil => rfl
  | cons x r ih =>
    unfold fst
    rw [if_pos (h x (List.mem_cons_self ..)), ih (k + 1) (fun y hy => h y (List.mem_cons_of_mem _ hy))]
/-- What First tells of a long source. -/
theorem long_far (c : UInt8) (m : Nat) (h : 1048576 ≤ m) : fsrc (c :: run 1 m) = (0, 9) := by
  unfold fsrc; rw [List.length_cons, run_len, if_pos (by omega)]
theorem long_ok (c : UInt8) (m : Nat) (h : m < 1048576) (hc : c = 10 ∨ okB c = true) : fsrc (c :: run 1 m) = (0, 0) := by
  unfold fsrc; rw [List.length_cons, run_len, if_neg (by omega)]
  refine fst_ok _ _ ?_
  by_cases h10 : c = 10
  · subst h10
    unfold cut
    rw [if_pos rfl]
    intro x hx
    rcases List.mem_cons.1 hx with rfl | hx
    · rfl
    · exact run_ok m 1 [] (by simp) rfl x hx
  · unfold cut
    rw [if_neg h10]
    have : okB c = true := hc.resolve_left h10
    exact run_ok m 1 ([] ++ [c]) (by simp) (by simp [this])
theorem long_bad (c : UInt8) (m : Nat) (h : m < 1048576) (h10 : c ≠ 10) (hc : okB c = false) : fsrc (c :: run 1 m) = (1, 7) := by
  unfold fsrc; rw [List.length_cons, run_len, if_neg (by omega)]
  unfold cut
  rw [if_neg h10]
  obtain ⟨x, r, e, hx⟩ := run_bad m 1 ([] ++ [c]) (by simp) (by simp [hc])
  rw [e]
  unfold fst
  rw [if_neg (by rw [hx]; decide), hx]
  rfl
end Ln
end Go.Proofs.YtfcabofhlgmkjaaDoor
