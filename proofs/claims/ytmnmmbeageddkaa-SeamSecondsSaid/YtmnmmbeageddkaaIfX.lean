/- Infos second by second, in plain lists: what is cut, what is merged. -/
import Derived.Test.YtmnmmbeageddkaaIfW
import Derived.Test.YtmnmmbeageddkaaSsE
set_option linter.unusedVariables false
set_option linter.unusedSimpArgs false
namespace Go.Proofs.Ytmnmmbeageddkaa
open Go.RowKit Go.Sort Go.Shelf

namespace If
theorem at_cons (t : Int) (p : I) (r : List I) : at_ t (p :: r) = if Sp.hs p.1 p.2.1 t then (p.2.2, true) else at_ t r := rfl
theorem at_in (t : Int) (l : List I) : (at_ t l).2 = Ss.inl (l.map sp) t := by
  induction l with
  | nil => rfl
  | cons p r ih =>
    have e : Ss.inl ((p :: r).map sp) t = (Sp.hs p.1 p.2.1 t || Ss.inl (r.map sp) t) := rfl
    rw [at_cons, e, ← ih]
    cases Sp.hs p.1 p.2.1 t <;> rfl
theorem at_ct (s0 s1 t : Int) (l : List I) : at_ t (ct s0 s1 l) = if Sp.hs s0 s1 t then at_ t l else ((0, 0, ⟨#[]⟩), false) := by
  induction l with
  | nil => cases Sp.hs s0 s1 t <;> rfl
  | cons p r ih =>
    have e : ct s0 s1 (p :: r) = ct1 s0 s1 p ++ ct s0 s1 r := rfl
    rw [e]
    unfold ct1
    by_cases h1 : Sp.mt p.1 p.2.1 s0 s1 = true
    · rw [if_pos h1]
      show at_ t ((max p.1 s0, min p.2.1 s1, p.2.2) :: ct s0 s1 r) = _
      rw [at_cons, at_cons, ih]
      have e2 : Sp.hs (max p.1 s0) (min p.2.1 s1) t = (Sp.hs p.1 p.2.1 t && Sp.hs s0 s1 t) := by
        rw [Bool.eq_iff_iff]; simp [Sp.hs]; omega
      dsimp only
      rw [e2]
      cases Sp.hs p.1 p.2.1 t <;> cases Sp.hs s0 s1 t <;> rfl
    · rw [if_neg h1]
      show at_ t (ct s0 s1 r) = _
      rw [ih, at_cons]
      have e2 : (Sp.hs p.1 p.2.1 t && Sp.hs s0 s1 t) = false := by
        rw [Bool.eq_false_iff]
        intro h
        refine h1 ?_
        simp [Sp.hs] at h
        simp [Sp.mt]
        omega
      cases h2 : Sp.hs p.1 p.2.1 t <;> cases h3 : Sp.hs s0 s1 t <;> first | rfl | (rw [h2, h3] at e2; cases e2)
theorem at_some {t : Int} {l : List I} (h : (at_ t l).2 = true) : ∃ x ∈ l, Sp.hs x.1 x.2.1 t = true ∧ (at_ t l).1 = x.2.2 := by
  induction l with
  | nil => cases h
  | cons p r ih =>
    rw [at_cons] at h ⊢
    cases hp : Sp.hs p.1 p.2.1 t
    · rw [hp] at h
      obtain ⟨x, a, b, c⟩ := ih h
      exact ⟨x, List.mem_cons_of_mem _ a, b, c⟩
    · exact ⟨p, List.mem_cons_self .., hp, rfl⟩
theorem at_mem {t : Int} {l : List I} {x : I} (hx : x ∈ l) (h : Sp.hs x.1 x.2.1 t = true) : (at_ t l).2 = true := by
  rw [at_in]
  exact List.any_eq_true.2 ⟨sp x, List.mem_map_of_mem hx, h⟩
/-- Of a sound list the one info that has the second tells what holds. -/
theorem at_own {t : Int} {l : List I} {x : I} (hs : so none l = true) (hx : x ∈ l) (h : Sp.hs x.1 x.2.1 t = true) : (at_ t l).1 = x.2.2 := by
  obtain ⟨y, hy, h2, e⟩ := at_some (at_mem hx h)
  obtain ⟨_, hp, _⟩ := so_pair none l hs
  have : x = y := by
    simp [Sp.hs] at h h2
    by_cases e : x = y
    · exact e
    · exfalso
      obtain ⟨i, hi, rfl⟩ := List.mem_iff_getElem.1 hx
      obtain ⟨j, hj, rfl⟩ := List.mem_iff_getElem.1 hy
      have hq := List.pairwise_iff_getElem.1 hp
      by_cases hij : i < j
      · have := hq i j hi hj hij; omega
      · by_cases hji : j < i
        · have := hq j i hj hi hji; omega
        · exact e (by congr 1; omega)
  rw [this]; exact e
theorem at_two {t : Int} {l a b : List I} (hs : so none l = true) (hx : ∀ x, x ∈ l ↔ x ∈ a ∨ x ∈ b) :
    (at_ t l).2 = ((at_ t a).2 || (at_ t b).2) ∧ ((at_ t a).2 = true → (at_ t l).1 = (at_ t a).1) ∧ ((at_ t b).2 = true → (at_ t l).1 = (at_ t b).1) := by
  refine ⟨?_, fun h => ?_, fun h => ?_⟩
  · rw [Bool.eq_iff_iff, Bool.or_eq_true]
    constructor
    · intro h
      obtain ⟨x, h1, h2, _⟩ := at_some h
      rcases (hx x).1 h1 with h3 | h3
      · exact .inl (at_mem h3 h2)
      · exact .inr (at_mem h3 h2)
    · rintro (h | h)
      · obtain ⟨x, h1, h2, _⟩ := at_some h
        exact at_mem ((hx x).2 (.inl h1)) h2
      · obtain ⟨x, h1, h2, _⟩ := at_some h
        exact at_mem ((hx x).2 (.inr h1)) h2
  · obtain ⟨x, h1, h2, e⟩ := at_some h
    rw [e]; exact at_own hs ((hx x).2 (.inl h1)) h2
  · obtain ⟨x, h1, h2, e⟩ := at_some h
    rw [e]; exact at_own hs ((hx x).2 (.inr h1)) h2
end If
namespace Ss
theorem fd_in (t : Int) (l : List S) : (fd t l).2.2 = inl l t := by
  induction l with
  | nil => rfl
  | cons p r ih =>
    have e : inl (p :: r) t = (Sp.hs p.1 p.2 t || inl r t) := rfl
    have e2 : fd t (p :: r) = if Sp.hs p.1 p.2 t then (p.1, p.2, true) else fd t r := rfl
    rw [e, e2, ← ih]
    cases Sp.hs p.1 p.2 t <;> rfl
end Ss
/-- What is merged, second by second. -/
theorem mgr_at {a b l : List If.I} (t : Int) (h : MgR a b 0 l) : If.so none l = true ∧ (If.at_ t l).2 = ((If.at_ t a).2 || (If.at_ t b).2) ∧ ((If.at_ t a).2 = true → (If.at_ t l).1 = (If.at_ t a).1) ∧ ((If.at_ t b).2 = true → (If.at_ t l).1 = (If.at_ t b).1) := by
  rcases h with ⟨_, h, _⟩ | ⟨_, d, hp, _, ⟨_, h, _⟩ | ⟨h1, _, rfl⟩⟩
  · cases h
  · cases h
  · exact ⟨h1, If.at_two h1 (fun x => by rw [If.mem_dd, hp.mem_iff, List.mem_append])⟩
end Go.Proofs.Ytmnmmbeageddkaa
