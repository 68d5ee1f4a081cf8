/- Infos merged, in plain lists: whichever of the sorted orders, one list. -/
import Derived.Test.YtmnmmbeageddkaaIfN
set_option linter.unusedVariables false
set_option linter.unusedSimpArgs false
namespace Go.Proofs.Ytmnmmbeageddkaa
open Go.RowKit Go.Sort Go.Shelf

namespace If
/-- One behind the other. -/
def St (l : List I) : Prop := l.Pairwise fun x y => x.1 < y.1
def Fn (l : List I) : Prop := ∀ x ∈ l, ∀ y ∈ l, x.1 = y.1 → x = y
theorem so_cons (o : Option I) (p : I) (r : List I) : so o (p :: r) = (Sp.rb p.1 p.2.1 && (match o with | none => true | some q => sm q p) && so (some p) r) := rfl
theorem so_pair (o : Option I) (l : List I) (h : so o l = true) : (∀ q, o = some q → ∀ y ∈ l, q.2.1 ≤ y.1) ∧ (l.Pairwise fun x y => x.2.1 ≤ y.1) ∧ ∀ x ∈ l, x.1 < x.2.1 := by
  induction l generalizing o with
  | nil => exact ⟨fun _ _ _ hy => absurd hy (by simp), List.Pairwise.nil, fun _ hx => absurd hx (by simp)⟩
  | cons p r ih =>
    rw [so_cons, Bool.and_eq_true, Bool.and_eq_true] at h
    obtain ⟨⟨h1, h2⟩, h3⟩ := h
    obtain ⟨i1, i2, i3⟩ := ih (some p) h3
    have hp : p.1 < p.2.1 := by simpa [Sp.rb] using h1
    refine ⟨?_, List.Pairwise.cons (i1 p rfl) i2, ?_⟩
    · rintro q rfl y hy
      have hq : q.2.1 ≤ p.1 := by
        simp only [sm, Bool.or_eq_true, Bool.and_eq_true, decide_eq_true_eq, beq_iff_eq] at h2
        omega
      rcases List.mem_cons.1 hy with rfl | hy
      · exact hq
      · have := i1 p rfl y hy; omega
    · intro x hx
      rcases List.mem_cons.1 hx with rfl | hx
      · exact hp
      · exact i3 x hx
theorem so_st {l : List I} (h : so none l = true) : St l := by
  obtain ⟨_, a, b⟩ := so_pair none l h
  exact a.imp_of_mem fun {x y} hx hy hxy => by have := b x hx; omega
theorem st_fn {l : List I} (h : St l) : Fn l := by
  induction h with
  | nil => exact fun _ hx => absurd hx (by simp)
  | cons hp _ ih =>
    intro x hx y hy e
    rcases List.mem_cons.1 hx with hx' | hx' <;> rcases List.mem_cons.1 hy with hy' | hy'
    · rw [hx', hy']
    · have := hp y hy'; rw [hx'] at e; omega
    · have := hp x hx'; rw [hy'] at e; omega
    · exact ih x hx' y hy' e
theorem mem_dd2 (x p : I) (l : List I) : (x = p ∨ x ∈ dd2 p l) ↔ (x = p ∨ x ∈ l) := by
  induction l generalizing p with
  | nil => simp [dd2]
  | cons y l ih =>
    rw [dd2]
    split
    · rename_i e
      subst e
      rw [ih y]
      simp
    · rw [List.mem_cons, List.mem_cons, ih y]
theorem mem_dd (x : I) (l : List I) : x ∈ dd l ↔ x ∈ l := by
  match l with
  | [] => rfl
  | p :: l => rw [dd, List.mem_cons, List.mem_cons]; exact mem_dd2 x p l
theorem dd2_st (p : I) (l : List I) (h : Ord (p :: l)) (hf : Fn (p :: l)) : (∀ y ∈ dd2 p l, p.1 < y.1) ∧ St (dd2 p l) := by
  induction l generalizing p with
  | nil => exact ⟨fun _ hy => absurd hy (by simp [dd2]), List.Pairwise.nil⟩
  | cons y l ih =>
    obtain ⟨h1, h2⟩ := List.pairwise_cons.1 h
    have hi := ih y h2 (fun a ha b hb e => hf a (List.mem_cons_of_mem _ ha) b (List.mem_cons_of_mem _ hb) e)
    rw [dd2]
    split
    · rename_i e
      subst e
      exact hi
    · rename_i e
      have hlt : p.1 < y.1 := by
        have := h1 y (List.mem_cons_self ..)
        have hne : p.1 ≠ y.1 := fun e' => e (hf p (List.mem_cons_self ..) y (List.mem_cons_of_mem _ (List.mem_cons_self ..)) e').symm
        omega
      refine ⟨fun z hz => ?_, List.Pairwise.cons hi.1 hi.2⟩
      rcases List.mem_cons.1 hz with rfl | hz
      · exact hlt
      · have := hi.1 z hz; omega
theorem dd_st (l : List I) (h : Ord l) (hf : Fn l) : St (dd l) := by
  match l with
  | [] => exact List.Pairwise.nil
  | p :: l =>
    obtain ⟨a, b⟩ := dd2_st p l h hf
    exact List.Pairwise.cons a b
theorem st_eq (l m : List I) (hl : St l) (hm : St m) (h : ∀ x, x ∈ l ↔ x ∈ m) : l = m := by
  induction l generalizing m with
  | nil =>
    match m with
    | [] => rfl
    | q :: s => exact absurd ((h q).2 (List.mem_cons_self ..)) (by simp)
  | cons p r ih =>
    match m with
    | [] => exact absurd ((h p).1 (List.mem_cons_self ..)) (by simp)
    | q :: s =>
      obtain ⟨l1, l2⟩ := List.pairwise_cons.1 hl
      obtain ⟨m1, m2⟩ := List.pairwise_cons.1 hm
      have hpq : p = q := by
        rcases List.mem_cons.1 ((h p).1 (List.mem_cons_self ..)) with e | e
        · exact e
        · rcases List.mem_cons.1 ((h q).2 (List.mem_cons_self ..)) with e' | e'
          · exact e'.symm
          · have := m1 p e; have := l1 q e'; omega
      subst hpq
      rw [ih s l2 m2 (fun x => ⟨fun hx => ?_, fun hx => ?_⟩)]
      · rcases List.mem_cons.1 ((h x).1 (List.mem_cons_of_mem _ hx)) with e | e
        · subst e; have := l1 x hx; omega
        · exact e
      · rcases List.mem_cons.1 ((h x).2 (List.mem_cons_of_mem _ hx)) with e | e
        · subst e; have := m1 x hx; omega
        · exact e
/-- What of a sound list's infos is sorted and made compact is that list. -/
theorem dd_own {a d : List I} (ha : so none a = true) (h : ∀ x, x ∈ d ↔ x ∈ a) (ho : Ord d) : dd d = a := by
  have hs := so_st ha
  have hf := st_fn hs
  exact st_eq _ _ (dd_st d ho (fun x hx y hy => hf x ((h x).1 hx) y ((h y).1 hy))) hs (fun x => (mem_dd x d).trans (h x))
/-- Two orders of the same infos: sound both, and one list; or neither. -/
theorem dd_uniq {d d' : List I} (hs : so none (dd d) = true) (h : ∀ x, x ∈ d' ↔ x ∈ d) (ho : Ord d') : dd d' = dd d :=
  dd_own hs (fun x => (h x).trans (mem_dd x d).symm) ho
theorem dd_both {d d' : List I} (h : ∀ x, x ∈ d ↔ x ∈ d') (ho : Ord d) (ho' : Ord d') : so none (dd d) = so none (dd d') ∧ (so none (dd d) = true → dd d = dd d') := by
  rcases h1 : so none (dd d) with _ | _
  · rcases h2 : so none (dd d') with _ | _
    · exact ⟨rfl, fun e => by cases e⟩
    · rw [dd_uniq h2 h ho, h2] at h1
      cases h1
  · have e := dd_uniq h1 (fun x => (h x).symm) ho'
    exact ⟨by rw [e, h1], fun _ => e.symm⟩
theorem so_take (o : Option I) (l : List I) (n : Nat) (h : so o l = true) : so o (l.take n) = true := by
  induction l generalizing o n with
  | nil => simp [so]
  | cons p r ih =>
    cases n with
    | zero => rfl
    | succ n =>
      rw [so_cons, Bool.and_eq_true] at h
      rw [List.take_succ_cons, so_cons, Bool.and_eq_true]
      exact ⟨h.1, ih _ _ h.2⟩
end If
end Go.Proofs.Ytmnmmbeageddkaa
