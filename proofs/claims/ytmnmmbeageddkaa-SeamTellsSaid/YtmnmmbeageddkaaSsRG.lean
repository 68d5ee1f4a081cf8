/- Joined: SsR, SsG. -/
import Derived.Test.YtmnmmbeageddkaaMnA0
import Derived.Test.YtmnmmbeageddkaaSsP
set_option linter.unusedVariables false
set_option linter.unusedSimpArgs false
namespace Go.Proofs.Ytmnmmbeageddkaa
section
open Go.RowKit Go.Sort

namespace Ss
/-- Is a list a set, behind one that ends so? -/
def rr : Option Int → List S → Bool
  | _, [] => true
  | o, p :: r => Sp.rb p.1 p.2 && (match o with | none => true | some t => decide (t < p.1)) && rr (some p.2) r
theorem rr_drop (o : Option Int) (l : List S) (k : Nat) (h : k < l.length) : rr o (l.drop k) = (Sp.rb l[k].1 l[k].2 && (match o with | none => true | some t => decide (t < l[k].1)) && rr (some l[k].2) (l.drop (k + 1))) := by
  rw [List.drop_eq_getElem_cons h]; rfl
end Ss
end
section
open Go.RowKit Go.Sort

namespace Ss
theorem rr_iff (l : List S) : ∀ o : Option Int, rr o l = true ↔ Rs l ∧ ∀ t, o = some t → ∀ s ∈ l, t < s.1 := by
  induction l with
  | nil => intro o; exact ⟨fun _ => ⟨⟨List.Pairwise.nil, fun s hs => absurd hs (by simp)⟩, fun t _ s hs => absurd hs (by simp)⟩, fun _ => rfl⟩
  | cons p l ih =>
    intro o
    simp only [rr, Bool.and_eq_true, ih (some p.2)]
    constructor
    · rintro ⟨⟨h1, h2⟩, h3, h4⟩
      have hp : p.1 < p.2 := of_decide_eq_true h1
      have hl := h4 p.2 rfl
      refine ⟨⟨List.pairwise_cons.2 ⟨hl, h3.1⟩, fun s hs => ?_⟩, fun t ht s hs => ?_⟩
      · rcases List.mem_cons.1 hs with rfl | hs
        · exact hp
        · exact h3.2 s hs
      · subst ht
        have h2' : t < p.1 := of_decide_eq_true h2
        rcases List.mem_cons.1 hs with rfl | hs
        · exact h2'
        · have := hl s hs; omega
    · rintro ⟨h1, h2⟩
      obtain ⟨a, b⟩ := List.pairwise_cons.1 h1.1
      refine ⟨⟨decide_eq_true (h1.2 p (List.mem_cons_self ..)), ?_⟩, ⟨b, fun s hs => h1.2 s (List.mem_cons_of_mem _ hs)⟩, fun t ht s hs => ?_⟩
      · cases o with
        | none => rfl
        | some t => exact decide_eq_true (h2 t rfl p (List.mem_cons_self ..))
      · cases ht; exact a s hs
theorem rr_none (l : List S) (h : Rs l) : rr none l = true := (rr_iff l none).2 ⟨h, fun t ht => by cases ht⟩
theorem rs_of (l : List S) (h : rr none l = true) : Rs l := ((rr_iff l none).1 h).1
/-- The span that is found has the second just if one has it. -/
theorem fd_has (t : Int) (l : List S) (fd : Int → List S → Int × Int × Bool) (h0 : fd t [] = (0, 0, false)) (h1 : ∀ p r, fd t (p :: r) = if Sp.hs p.1 p.2 t then (p.1, p.2, true) else fd t r) :
    (fd t l).2.2 = inl l t ∧ Sp.hs (fd t l).1 (fd t l).2.1 t = inl l t := by
  induction l with
  | nil => rw [h0]; exact ⟨rfl, by simp [Sp.hs, inl]⟩
  | cons p l ih =>
    rw [h1]
    have e : inl (p :: l) t = (Sp.hs p.1 p.2 t || inl l t) := rfl
    rw [e]
    cases h : Sp.hs p.1 p.2 t
    · simpa using ih
    · simp [h]
/-- A set that is the one that is told. -/
theorem rs_lit {l k : List S} (h : Rs l) (hk : rr none k = true) (hi : ∀ t, inl l t = inl k t) : l = k := rs_ext l k h (rs_of k hk) hi
end Ss
end
end Go.Proofs.Ytmnmmbeageddkaa
