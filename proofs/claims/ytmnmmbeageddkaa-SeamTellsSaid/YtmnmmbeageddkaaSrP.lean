/- The reference's sets, in plain lists: put, Of, And, Less. -/
import Derived.Test.YtmnmmbeageddkaaSsP
set_option linter.unusedVariables false
set_option linter.unusedSimpArgs false
namespace Go.Proofs.Ytmnmmbeageddkaa
open Go.RowKit Go.Sort

namespace Ss
theorem Rs.nil : Rs [] := ⟨List.Pairwise.nil, fun s hs => absurd hs (by simp)⟩
theorem inl_cons (s : S) (l : List S) (t : Int) : inl (s :: l) t = (Sp.hs s.1 s.2 t || inl l t) := rfl
theorem inl_mem {l : List S} {s : S} {t : Int} (h : s ∈ l) (h1 : s.1 ≤ t) (h2 : t < s.2) : inl l t = true :=
  List.any_eq_true.2 ⟨s, h, by simp [Sp.hs, h1, h2]⟩
/-- Do two join to one? -/
def jn (x s : S) : Bool := Sp.mt x.1 x.2 s.1 s.2 || Sp.tc x.1 x.2 s.1 s.2
def p1 : List S → S → List S → S × List S
  | [], s, out => (s, out)
  | x :: l, s, out => if jn x s then p1 l (min x.1 s.1, max x.2 s.2) out else if x.2 < s.1 then p1 l s (out ++ [x]) else p1 l s out
def p2 (m : Int) : List S → List S → List S
  | [], out => out
  | x :: l, out => if m < x.1 then p2 m l (out ++ [x]) else p2 m l out
theorem p2_filter (m : Int) (l : List S) : ∀ out, p2 m l out = out ++ l.filter fun x => decide (m < x.1) := by
  induction l with
  | nil => intro out; simp [p2]
  | cons x l ih =>
    intro out
    rw [p2]
    by_cases h : m < x.1
    · rw [if_pos h, ih, List.filter_cons_of_pos (by simpa using h)]; simp
    · rw [if_neg h, ih, List.filter_cons_of_neg (by simpa using h)]
def pt (l : List S) (s : S) : List S := if Sp.rb s.1 s.2 then p2 (p1 l s []).1.2 l ((p1 l s []).2 ++ [(p1 l s []).1]) else l
theorem jn_iff {x s : S} (hx : x.1 < x.2) (hs : s.1 < s.2) : jn x s = true ↔ x.1 ≤ s.2 ∧ s.1 ≤ x.2 := by
  unfold jn Sp.mt Sp.tc
  simp [Sp.rb]
  omega
theorem p1_inv (s0 : S) (l : List S) (hl : Rs l) : ∀ (r done : List S) (s : S) (out : List S), done ++ r = l → s.1 < s.2 → Rs out → (∀ o ∈ out, o.2 < s.1) → (∀ o ∈ out, ∀ x ∈ r, o.2 < x.1) →
    (∀ t, (inl done t || Sp.hs s0.1 s0.2 t) = (inl out t || Sp.hs s.1 s.2 t || inl (done.filter fun x => decide (s.2 < x.1)) t)) →
      (p1 r s out).1.1 < (p1 r s out).1.2 ∧ Rs (p1 r s out).2 ∧ (∀ o ∈ (p1 r s out).2, o.2 < (p1 r s out).1.1) ∧
        ∀ t, (inl l t || Sp.hs s0.1 s0.2 t) = (inl (p1 r s out).2 t || Sp.hs (p1 r s out).1.1 (p1 r s out).1.2 t || inl (l.filter fun x => decide ((p1 r s out).1.2 < x.1)) t) := by
  intro r
  induction r with
  | nil =>
    intro done s out hd h1 h2 h3 _ h5
    rw [List.append_nil] at hd
    subst hd
    exact ⟨h1, h2, h3, h5⟩
  | cons x r ih =>
    intro done s out hd h1 h2 h3 h4 h5
    have hd' : (done ++ [x]) ++ r = l := by rw [List.append_assoc]; exact hd
    have hx : x.1 < x.2 := hl.2 x (by rw [← hd]; simp)
    have hlp := hl.1
    rw [← hd'] at hlp
    obtain ⟨q1, q2, q3⟩ := List.pairwise_append.1 hlp
    obtain ⟨-, -, q4⟩ := List.pairwise_append.1 q1
    have hdx : ∀ y ∈ done, y.2 < x.1 := fun y hy => q4 y hy x (List.mem_singleton.2 rfl)
    have hdr : ∀ y ∈ done, y.1 < y.2 := fun y hy => hl.2 y (by rw [← hd]; exact List.mem_append_left _ hy)
    have hxr : ∀ y ∈ r, x.2 < y.1 := fun y hy => q3 x (List.mem_append_right _ (List.mem_singleton.2 rfl)) y hy
    have hfa : ∀ m, (done ++ [x]).filter (fun x => decide (m < x.1)) = done.filter (fun x => decide (m < x.1)) ++ (if m < x.1 then [x] else []) := by
      intro m
      rw [List.filter_append]
      by_cases hm : m < x.1
      · rw [if_pos hm, List.filter_cons_of_pos (by simpa using hm)]; rfl
      · rw [if_neg hm, List.filter_cons_of_neg (by simpa using hm)]; rfl
    rw [p1]
    by_cases hj : jn x s
    · rw [if_pos hj]
      obtain ⟨j1, j2⟩ := (jn_iff hx h1).1 hj
      have e0 : ∀ m, s.2 ≤ m → done.filter (fun x => decide (m < x.1)) = [] := by
        intro m hm
        rw [List.filter_eq_nil_iff]
        intro y hy
        have a := hdx y hy
        have b := hdr y hy
        simp; omega
      refine ih (done ++ [x]) _ out hd' (by show min x.1 s.1 < max x.2 s.2; omega) h2 ?_ (fun o ho y hy => h4 o ho y (List.mem_cons_of_mem _ hy)) ?_
      · intro o ho
        have a := h3 o ho
        have b := h4 o ho x (List.mem_cons_self ..)
        show o.2 < min x.1 s.1; omega
      · intro t
        have := h5 t
        rw [e0 s.2 (Int.le_refl _)] at this
        rw [hfa, e0 _ (by show s.2 ≤ max x.2 s.2; omega), if_neg (by show ¬ max x.2 s.2 < x.1; omega), inl_app, inl_one]
        have e : Sp.hs (min x.1 s.1) (max x.2 s.2) t = (Sp.hs x.1 x.2 t || Sp.hs s.1 s.2 t) := by
          rw [Bool.eq_iff_iff]; simp [Sp.hs]; omega
        show _ = (inl out t || Sp.hs (min x.1 s.1) (max x.2 s.2) t || inl ([] ++ []) t)
        rw [e]
        have n0 : inl ([] ++ []) t = false := rfl
        have n1 : inl [] t = false := rfl
        rw [n1] at this
        rw [n0]
        revert this
        cases inl done t <;> cases Sp.hs s0.1 s0.2 t <;> cases inl out t <;> cases Sp.hs s.1 s.2 t <;> cases Sp.hs x.1 x.2 t <;> simp
    · rw [if_neg hj]
      have hj' : ¬ (x.1 ≤ s.2 ∧ s.1 ≤ x.2) := fun h => hj ((jn_iff hx h1).2 h)
      by_cases hxs : x.2 < s.1
      · rw [if_pos hxs]
        refine ih (done ++ [x]) s (out ++ [x]) hd' h1 ?_ ?_ ?_ ?_
        · refine ⟨List.pairwise_append.2 ⟨h2.1, List.pairwise_singleton _ _, fun o ho y hy => ?_⟩, fun y hy => ?_⟩
          · rw [List.mem_singleton.1 hy]; exact h4 o ho x (List.mem_cons_self ..)
          · rcases List.mem_append.1 hy with hy | hy
            · exact h2.2 y hy
            · rw [List.mem_singleton.1 hy]; exact hx
        · intro o ho
          rcases List.mem_append.1 ho with ho | ho
          · exact h3 o ho
          · rw [List.mem_singleton.1 ho]; exact hxs
        · intro o ho y hy
          rcases List.mem_append.1 ho with ho | ho
          · exact h4 o ho y (List.mem_cons_of_mem _ hy)
          · rw [List.mem_singleton.1 ho]; exact hxr y hy
        · intro t
          have := h5 t
          rw [hfa, if_neg (by omega), List.append_nil, inl_app, inl_one, inl_app, inl_one]
          revert this
          cases inl done t <;> cases Sp.hs s0.1 s0.2 t <;> cases inl out t <;> cases Sp.hs s.1 s.2 t <;> cases Sp.hs x.1 x.2 t <;> simp
      · rw [if_neg hxs]
        refine ih (done ++ [x]) s out hd' h1 h2 h3 (fun o ho y hy => h4 o ho y (List.mem_cons_of_mem _ hy)) ?_
        intro t
        have := h5 t
        rw [hfa, if_pos (by omega), inl_app, inl_one, inl_app, inl_one]
        revert this
        generalize inl (done.filter fun x => decide (s.2 < x.1)) t = z
        cases inl done t <;> cases Sp.hs s0.1 s0.2 t <;> cases inl out t <;> cases Sp.hs s.1 s.2 t <;> cases Sp.hs x.1 x.2 t <;> cases z <;> simp
theorem pt_set {l : List S} (hl : Rs l) (s : S) : Rs (pt l s) ∧ ∀ t, inl (pt l s) t = (inl l t || Sp.hs s.1 s.2 t) := by
  unfold pt
  by_cases hs : s.1 < s.2
  · have hr : Sp.rb s.1 s.2 = true := decide_eq_true hs
    rw [if_pos hr]
    obtain ⟨a1, a2, a3, a4⟩ := p1_inv s l hl l [] s [] rfl hs Rs.nil (fun o ho => absurd ho (by simp)) (fun o ho => absurd ho (by simp)) (fun t => by simp [inl])
    generalize p1 l s [] = q at *
    rw [p2_filter]
    refine ⟨⟨?_, ?_⟩, fun t => ?_⟩
    · refine List.pairwise_append.2 ⟨List.pairwise_append.2 ⟨a2.1, List.pairwise_singleton _ _, fun o ho y hy => ?_⟩, hl.1.filter _, fun o ho y hy => ?_⟩
      · rw [List.mem_singleton.1 hy]; exact a3 o ho
      · have hy' := (List.mem_filter.1 hy).2
        simp at hy'
        rcases List.mem_append.1 ho with ho | ho
        · have := a3 o ho; omega
        · rw [List.mem_singleton.1 ho]; exact hy'
    · intro y hy
      rcases List.mem_append.1 hy with hy | hy
      · rcases List.mem_append.1 hy with hy | hy
        · exact a2.2 y hy
        · rw [List.mem_singleton.1 hy]; exact a1
      · exact hl.2 y (List.mem_filter.1 hy).1
    · rw [a4 t, inl_app, inl_app, inl_one]
  · have hr : Sp.rb s.1 s.2 = false := decide_eq_false hs
    rw [hr, if_neg (by simp)]
    refine ⟨hl, fun t => ?_⟩
    have : Sp.hs s.1 s.2 t = false := by simp [Sp.hs]; omega
    rw [this, Bool.or_false]
/-- The reference's set. -/
def rof : List S → List S → List S
  | out, [] => out
  | out, s :: l => rof (pt out s) l
theorem rof_set (l : List S) : ∀ out, Rs out → Rs (rof out l) ∧ ∀ t, inl (rof out l) t = (inl out t || inl l t) := by
  induction l with
  | nil => intro out h; exact ⟨h, fun t => by simp [rof, inl]⟩
  | cons s l ih =>
    intro out h
    obtain ⟨a, b⟩ := pt_set h s
    obtain ⟨c, d⟩ := ih _ a
    exact ⟨c, fun t => by rw [rof, d t, b t, inl_cons, Bool.or_assoc]⟩
theorem rof_nil (l : List S) : Rs (rof [] l) ∧ ∀ t, inl (rof [] l) t = inl l t := by
  obtain ⟨a, b⟩ := rof_set l [] Rs.nil
  exact ⟨a, fun t => by rw [b t]; rfl⟩
/-- What two have both. -/
def bth (x y : S) : List S := if Sp.mt x.1 x.2 y.1 y.2 then [(max x.1 y.1, min x.2 y.2)] else []
def anl (a b : List S) : List S := a.flatMap fun x => b.flatMap fun y => bth x y
theorem inl_flat {α : Type} (f : α → List S) (l : List α) (t : Int) : inl (l.flatMap f) t = l.any fun x => inl (f x) t := by
  induction l with
  | nil => rfl
  | cons x l ih => rw [List.flatMap_cons, inl_app, ih]; rfl
theorem bth_in (x y : S) (t : Int) : inl (bth x y) t = (Sp.hs x.1 x.2 t && Sp.hs y.1 y.2 t) := by
  unfold bth
  by_cases h : Sp.mt x.1 x.2 y.1 y.2 = true
  · rw [if_pos h, inl_one, Bool.eq_iff_iff]
    simp [Sp.mt] at h
    simp [Sp.hs]; omega
  · rw [if_neg h]
    simp [Sp.mt] at h
    cases hh : (Sp.hs x.1 x.2 t && Sp.hs y.1 y.2 t)
    · rfl
    · simp [Sp.hs] at hh; omega
theorem anl_in (a b : List S) (t : Int) : inl (anl a b) t = (inl a t && inl b t) := by
  unfold anl
  rw [inl_flat]
  have e : ∀ x : S, inl (b.flatMap fun y => bth x y) t = (Sp.hs x.1 x.2 t && inl b t) := by
    intro x
    rw [inl_flat]
    induction b with
    | nil => simp [inl]
    | cons y b ih => rw [List.any_cons, bth_in, ih, inl_cons]; cases Sp.hs x.1 x.2 t <;> simp
  induction a with
  | nil => rfl
  | cons x a ih => rw [List.any_cons, e, ih, inl_cons]; cases Sp.hs x.1 x.2 t <;> cases inl a t <;> cases inl b t <;> rfl
/-- What is left of one without another one. -/
def lss (x y : S) : List S := if Sp.rb x.1 x.2 then (if Sp.mt x.1 x.2 y.1 y.2 then (if x.1 < y.1 then [(x.1, y.1)] else []) ++ (if y.2 < x.2 then [(y.2, x.2)] else []) else [x]) else []
theorem lss_in (x y : S) (t : Int) : inl (lss x y) t = (Sp.hs x.1 x.2 t && !Sp.hs y.1 y.2 t) := by
  unfold lss
  rw [Bool.eq_iff_iff]
  by_cases h : Sp.rb x.1 x.2 = true
  · rw [if_pos h]
    by_cases m : Sp.mt x.1 x.2 y.1 y.2 = true
    · rw [if_pos m, inl_app]
      simp [Sp.mt] at m
      by_cases h1 : x.1 < y.1 <;> by_cases h2 : y.2 < x.2 <;> simp [h1, h2, inl, Sp.hs] <;> omega
    · rw [if_neg m, inl_one]
      simp [Sp.mt] at m
      simp [Sp.rb] at h
      simp [Sp.hs]; omega
  · rw [if_neg h]
    simp [Sp.rb] at h
    simp [Sp.hs, inl]; omega
theorem lss_set (x y : S) : Rs (lss x y) ∧ ∀ s ∈ lss x y, x.1 ≤ s.1 ∧ s.2 ≤ x.2 := by
  unfold lss
  by_cases h : Sp.rb x.1 x.2 = true
  · rw [if_pos h]
    simp [Sp.rb] at h
    by_cases m : Sp.mt x.1 x.2 y.1 y.2 = true
    · rw [if_pos m]
      simp [Sp.mt] at m
      by_cases h1 : x.1 < y.1 <;> by_cases h2 : y.2 < x.2 <;> simp [h1, h2, Rs] <;> omega
    · rw [if_neg m]; simp [Rs, h]
  · rw [if_neg h]; exact ⟨Rs.nil, fun s hs => absurd hs (by simp)⟩
theorem flat_set (f : S → List S) (hf : ∀ x, Rs (f x) ∧ ∀ s ∈ f x, x.1 ≤ s.1 ∧ s.2 ≤ x.2) (l : List S) (h : Rs l) : Rs (l.flatMap f) ∧ ∀ s ∈ l.flatMap f, ∃ x ∈ l, x.1 ≤ s.1 ∧ s.2 ≤ x.2 := by
  induction l with
  | nil => exact ⟨Rs.nil, fun s hs => absurd hs (by simp)⟩
  | cons x l ih =>
    obtain ⟨p1, p2⟩ := List.pairwise_cons.1 h.1
    obtain ⟨a, b⟩ := ih ⟨p2, fun s hs => h.2 s (List.mem_cons_of_mem _ hs)⟩
    obtain ⟨c, d⟩ := hf x
    rw [List.flatMap_cons]
    refine ⟨⟨List.pairwise_append.2 ⟨c.1, a.1, fun s hs u hu => ?_⟩, fun s hs => ?_⟩, fun s hs => ?_⟩
    · obtain ⟨v, hv, e, _⟩ := b u hu
      have := d s hs
      have := p1 v hv
      omega
    · rcases List.mem_append.1 hs with hs | hs
      · exact c.2 s hs
      · exact a.2 s hs
    · rcases List.mem_append.1 hs with hs | hs
      · exact ⟨x, List.mem_cons_self .., d s hs⟩
      · obtain ⟨v, hv, e⟩ := b s hs
        exact ⟨v, List.mem_cons_of_mem _ hv, e⟩
/-- The reference's Less, from a set on. -/
def rls : List S → List S → List S
  | out, [] => out
  | out, y :: b => rls (out.flatMap fun x => lss x y) b
theorem rls_set (b : List S) : ∀ out, Rs out → Rs (rls out b) ∧ ∀ t, inl (rls out b) t = (inl out t && !inl b t) := by
  induction b with
  | nil => intro out h; exact ⟨h, fun t => by simp [rls, inl]⟩
  | cons y b ih =>
    intro out h
    obtain ⟨c, d⟩ := ih _ (flat_set (fun x => lss x y) (fun x => lss_set x y) out h).1
    refine ⟨c, fun t => ?_⟩
    rw [rls, d t, inl_flat, inl_cons]
    have e : ∀ l : List S, (l.any fun x => inl (lss x y) t) = (inl l t && !Sp.hs y.1 y.2 t) := by
      intro l
      induction l with
      | nil => rfl
      | cons x l ih => rw [List.any_cons, ih, lss_in, inl_cons]; cases Sp.hs x.1 x.2 t <;> cases Sp.hs y.1 y.2 t <;> cases inl l t <;> rfl
    rw [e]
    cases inl out t <;> cases Sp.hs y.1 y.2 t <;> cases inl b t <;> rfl
end Ss
end Go.Proofs.Ytmnmmbeageddkaa
