/- Sets of spans, in plain lists: edges, in order; what a sweep along them keeps. -/
import Derived.Test.YtmnmmbeageddkaaSpA0
set_option linter.unusedVariables false
set_option linter.unusedSimpArgs false
namespace Go.Proofs.Ytmnmmbeageddkaa
open Go.RowKit Go.Sort

namespace Ss
/-- An edge: where it is, of which list, begins or ends. -/
abbrev E := Int × Int × Int
abbrev S := Int × Int
/-- The edges of a list of spans. -/
def egs (i : Int) (l : List S) : List E := l.flatMap fun s => if Sp.rb s.1 s.2 then [(s.1, i, 1), (s.2, i, -1)] else []
theorem egs_cons (i : Int) (s : S) (l : List S) : egs i (s :: l) = (if Sp.rb s.1 s.2 then [(s.1, i, 1), (s.2, i, -1)] else []) ++ egs i l := rfl
/-- Does a second lie in one of them? -/
def inl (l : List S) (t : Int) : Bool := l.any fun s => Sp.hs s.1 s.2 t
/-- How many are open. -/
def op (j : Int) (d : List E) : Int := (d.map fun e => if e.2.1 = j then e.2.2 else 0).sum
theorem op_cons (j : Int) (e : E) (d : List E) : op j (e :: d) = (if e.2.1 = j then e.2.2 else 0) + op j d := rfl
theorem op_app (j : Int) (d k : List E) : op j (d ++ k) = op j d + op j k := by unfold op; rw [List.map_append, List.sum_append]
/-- How many are open at a second. -/
def ot (j t : Int) (d : List E) : Int := (d.map fun e => if e.1 ≤ t ∧ e.2.1 = j then e.2.2 else 0).sum
theorem ot_cons (j t : Int) (e : E) (d : List E) : ot j t (e :: d) = (if e.1 ≤ t ∧ e.2.1 = j then e.2.2 else 0) + ot j t d := rfl
theorem ot_app (j t : Int) (d k : List E) : ot j t (d ++ k) = ot j t d + ot j t k := by unfold ot; rw [List.map_append, List.sum_append]
theorem ot_all (j t : Int) (d : List E) (h : ∀ e ∈ d, e.1 ≤ t) : ot j t d = op j d := by
  induction d with
  | nil => rfl
  | cons e d ih =>
    rw [ot_cons, op_cons, ih fun x hx => h x (List.mem_cons_of_mem _ hx)]
    have := h e (List.mem_cons_self ..)
    simp [this]
theorem ot_none (j t : Int) (d : List E) (h : ∀ e ∈ d, t < e.1) : ot j t d = 0 := by
  induction d with
  | nil => rfl
  | cons e d ih =>
    rw [ot_cons, ih fun x hx => h x (List.mem_cons_of_mem _ hx)]
    have := h e (List.mem_cons_self ..)
    rw [if_neg (by omega)]; rfl
theorem perm_sum {α : Type} (f : α → Int) {l k : List α} (h : l.Perm k) : (l.map f).sum = (k.map f).sum := by
  induction h with
  | nil => rfl
  | cons x _ ih => rw [List.map_cons, List.map_cons, List.sum_cons, List.sum_cons, ih]
  | swap x y l => simp only [List.map_cons, List.sum_cons]; omega
  | trans _ _ a b => exact a.trans b
theorem ot_egs_other (i j t : Int) (l : List S) (h : i ≠ j) : ot j t (egs i l) = 0 := by
  induction l with
  | nil => rfl
  | cons s l ih =>
    rw [egs_cons, ot_app, ih]
    split
    · rw [ot_cons, ot_cons, if_neg (by simp; intro _; exact h), if_neg (by simp; intro _; exact h)]; rfl
    · rfl
theorem ot_egs (i t : Int) (l : List S) : 0 ≤ ot i t (egs i l) ∧ decide (0 < ot i t (egs i l)) = inl l t := by
  induction l with
  | nil => exact ⟨Int.le_refl _, rfl⟩
  | cons s l ih =>
    obtain ⟨a, b⟩ := ih
    have e : ot i t (egs i (s :: l)) = (if Sp.hs s.1 s.2 t then 1 else 0) + ot i t (egs i l) := by
      rw [egs_cons, ot_app]
      congr 1
      unfold Sp.rb Sp.hs
      by_cases h1 : s.1 < s.2
      · rw [if_pos (decide_eq_true h1), ot_cons, ot_cons]
        by_cases h2 : s.1 ≤ t <;> by_cases h3 : s.2 ≤ t <;> simp [h2, h3, ot] <;> omega
      · rw [if_neg (by simpa using h1), if_neg (by simp; omega)]; rfl
    have hi : inl (s :: l) t = (Sp.hs s.1 s.2 t || inl l t) := rfl
    rw [e, hi, ← b]
    cases Sp.hs s.1 s.2 t
    · simp; omega
    · simp; omega
/-- All edges of two lists. -/
def all (a b : List S) : List E := egs 0 a ++ egs 1 b
theorem ot_a (a b : List S) (t : Int) : decide (0 < ot 0 t (all a b)) = inl a t := by
  unfold all; rw [ot_app, ot_egs_other 1 0 t b (by decide), Int.add_zero]; exact (ot_egs 0 t a).2
theorem ot_b (a b : List S) (t : Int) : decide (0 < ot 1 t (all a b)) = inl b t := by
  unfold all; rw [ot_app, ot_egs_other 0 1 t a (by decide), Int.zero_add]; exact (ot_egs 1 t b).2
/-- Is a second ahead of what is still to come? -/
def Ahead (t : Int) : List E → Prop
  | [] => True
  | e :: _ => t < e.1
/-- Is the next edge at the same second? -/
def same (p : Int) : List E → Bool
  | [] => false
  | e :: _ => e.1 == p
/-- The sweep. -/
def sw (kf : Bool → Bool → Bool) : List E → Int → Int → Bool → Int → List S → List S
  | [], _, _, _, _, set => set
  | e :: r, o0, o1, ks, fr, set =>
    let p0 := o0 + (if e.2.1 = 0 then e.2.2 else 0)
    let p1 := o1 + (if e.2.1 = 1 then e.2.2 else 0)
    if same e.1 r then sw kf r p0 p1 ks fr set
    else
      let k := kf (decide (0 < p0)) (decide (0 < p1))
      sw kf r p0 p1 k (if k && !ks then e.1 else fr) (if ks && !k then set ++ [(fr, e.1)] else set)
/-- A set. -/
def Rs (l : List S) : Prop := l.Pairwise (fun x y => x.2 < y.1) ∧ ∀ s ∈ l, s.1 < s.2
theorem Rs.snoc {l : List S} {a b : Int} (h : Rs l) (h1 : ∀ s ∈ l, s.2 < a) (h2 : a < b) : Rs (l ++ [(a, b)]) := by
  refine ⟨List.pairwise_append.2 ⟨h.1, List.pairwise_singleton _ _, fun x hx y hy => ?_⟩, fun s hs => ?_⟩
  · rw [List.mem_singleton.1 hy]; exact h1 x hx
  · rcases List.mem_append.1 hs with hs | hs
    · exact h.2 s hs
    · rw [List.mem_singleton.1 hs]; exact h2
theorem inl_app (l k : List S) (t : Int) : inl (l ++ k) t = (inl l t || inl k t) := by unfold inl; rw [List.any_append]
theorem inl_one (a b t : Int) : inl [(a, b)] t = Sp.hs a b t := by unfold inl; simp
theorem inl_lt {l : List S} {t : Int} (h : inl l t = true) : ∃ s ∈ l, s.1 ≤ t ∧ t < s.2 := by
  unfold inl at h
  obtain ⟨s, hs, h⟩ := List.any_eq_true.1 h
  exact ⟨s, hs, by simpa [Sp.hs] using h⟩
theorem sw_in (kf : Bool → Bool → Bool) (K : Int → Bool) (d : List E) (hs : d.Pairwise fun x y => x.1 ≤ y.1) (hK : ∀ t, K t = kf (decide (0 < ot 0 t d)) (decide (0 < ot 1 t d))) :
    ∀ (r pre : List E) (ks : Bool) (fr : Int) (set : List S), pre ++ r = d → Rs set → (∀ s ∈ set, Ahead s.2 r) → (ks = true → Ahead fr r ∧ ∀ s ∈ set, s.2 < fr) → (∀ t, Ahead t r → (inl set t || (ks && decide (fr ≤ t))) = K t) →
      ∃ k2 f2 set2, sw kf r (op 0 pre) (op 1 pre) ks fr set = set2 ∧ Rs set2 ∧ (k2 = true → ∀ s ∈ set2, s.2 < f2) ∧ ∀ t, (inl set2 t || (k2 && decide (f2 ≤ t))) = K t := by
  intro r
  induction r with
  | nil => intro pre ks fr set _ h1 _ h3 h4; exact ⟨ks, fr, set, rfl, h1, fun hk => (h3 hk).2, fun t => h4 t trivial⟩
  | cons e r ih =>
    intro pre ks fr set hd h1 h2 h3 h4
    have hd' : (pre ++ [e]) ++ r = d := by rw [List.append_assoc]; exact hd
    have o0 : op 0 pre + (if e.2.1 = 0 then e.2.2 else 0) = op 0 (pre ++ [e]) := by rw [op_app]; simp [op]
    have o1 : op 1 pre + (if e.2.1 = 1 then e.2.2 else 0) = op 1 (pre ++ [e]) := by rw [op_app]; simp [op]
    have hsd := hs
    rw [← hd'] at hsd
    obtain ⟨q1, q2, q3⟩ := List.pairwise_append.1 hsd
    have hle : ∀ x ∈ pre ++ [e], x.1 ≤ e.1 := by
      intro x hx
      obtain ⟨_, _, q4⟩ := List.pairwise_append.1 q1
      rcases List.mem_append.1 hx with hx | hx
      · exact q4 x hx e (List.mem_singleton.2 rfl)
      · rw [List.mem_singleton.1 hx]; exact Int.le_refl _
    rw [sw]
    simp only [o0, o1]
    cases hsm : same e.1 r
    · simp only [Bool.false_eq_true, if_false]
      -- the next one is further on
      have hnx : Ahead e.1 r := by
        cases r with
        | nil => trivial
        | cons x r =>
          have a := q3 e (List.mem_append_right _ (List.mem_singleton.2 rfl)) x (List.mem_cons_self ..)
          have b : ¬ x.1 = e.1 := by simpa [same] using hsm
          show e.1 < x.1; omega
      have hot : ∀ j t, e.1 ≤ t → Ahead t r → ot j t d = op j (pre ++ [e]) := by
        intro j t ht hr
        rw [← hd', ot_app, ot_all j t _ fun x hx => Int.le_trans (hle x hx) ht, ot_none j t r, Int.add_zero]
        intro x hx
        cases r with
        | nil => cases hx
        | cons y r =>
          have hy : t < y.1 := hr
          rcases List.mem_cons.1 hx with rfl | hx
          · exact hy
          · have := (List.pairwise_cons.1 q2).1 x hx; omega
      obtain ⟨k, hk⟩ : ∃ k, kf (decide (0 < op 0 (pre ++ [e]))) (decide (0 < op 1 (pre ++ [e]))) = k := ⟨_, rfl⟩
      have hKt : ∀ t, e.1 ≤ t → Ahead t r → K t = k := fun t ht hr => by rw [hK, hot 0 t ht hr, hot 1 t ht hr, hk]
      have hlow : ∀ t, t < e.1 → (inl set t || (ks && decide (fr ≤ t))) = K t := fun t ht => h4 t ht
      have hend : ∀ s ∈ set, s.2 < e.1 := fun s hs => h2 s hs
      have hup : ∀ t, e.1 ≤ t → inl set t = false := by
        intro t ht
        cases hi : inl set t
        · rfl
        · obtain ⟨s, hs, _, b⟩ := inl_lt hi
          have := hend s hs; omega
      have hA : ∀ t, t < e.1 ∨ e.1 ≤ t := fun t => by omega
      have htr : ∀ t, t ≤ e.1 → Ahead t r := by
        intro t ht
        cases r with
        | nil => trivial
        | cons x r => have : e.1 < x.1 := hnx; show t < x.1; omega
      rw [hk]
      refine ih (pre ++ [e]) k _ _ hd' ?_ ?_ ?_ ?_
      · cases ks <;> cases k <;> simp only [Bool.and_true, Bool.and_false, Bool.not_true, Bool.not_false, Bool.false_eq_true, if_true, if_false]
        · exact h1
        · exact h1
        · exact h1.snoc (h3 rfl).2 (h3 rfl).1
        · exact h1
      · intro s hs
        have : s ∈ set ∨ s.2 = e.1 := by
          split at hs
          · rcases List.mem_append.1 hs with hs | hs
            · exact .inl hs
            · rw [List.mem_singleton.1 hs]; exact .inr rfl
          · exact .inl hs
        rcases this with hs | hs
        · exact htr _ (Int.le_of_lt (hend s hs))
        · rw [hs]; exact hnx
      · intro hk'
        subst hk'
        cases ks
        · simp only [Bool.and_true, Bool.not_false, Bool.false_and, Bool.false_eq_true, if_true, if_false]
          exact ⟨hnx, hend⟩
        · simp only [Bool.and_false, Bool.not_true, Bool.and_true, Bool.false_eq_true, if_false]
          exact ⟨htr _ (Int.le_of_lt (h3 rfl).1), (h3 rfl).2⟩
      · intro t ht
        rcases hA t with g | g
        · rw [← hlow t g]
          cases ks <;> cases k <;> simp only [Bool.and_true, Bool.and_false, Bool.not_true, Bool.not_false, Bool.false_eq_true, Bool.false_and, Bool.true_and, Bool.or_false, if_true, if_false]
          · rw [decide_eq_false (by omega), Bool.or_false]
          · rw [inl_app, inl_one]; unfold Sp.hs; simp [g]
        · rw [hKt t g ht]
          cases ks <;> cases k <;> simp only [Bool.and_true, Bool.and_false, Bool.not_true, Bool.not_false, Bool.false_eq_true, Bool.false_and, Bool.true_and, Bool.or_false, if_true, if_false]
          · exact hup t g
          · rw [decide_eq_true g, Bool.or_true]
          · rw [inl_app, inl_one, hup t g]; unfold Sp.hs; simp; omega
          · have := (h3 rfl).1
            have hfe : fr < e.1 := this
            rw [decide_eq_true (by omega : fr ≤ t), Bool.or_true]
    · simp only [if_true]
      have hee : ∃ x r', r = x :: r' ∧ x.1 = e.1 := by
        cases r with
        | nil => cases hsm
        | cons x r => exact ⟨x, r, rfl, by simpa [same] using hsm⟩
      obtain ⟨x, r', rfl, hx⟩ := hee
      have hAe : ∀ t, Ahead t (x :: r') ↔ Ahead t (e :: x :: r') := fun t => by show t < x.1 ↔ t < e.1; rw [hx]
      exact ih (pre ++ [e]) ks fr set hd' h1 (fun s hs => (hAe _).2 (h2 s hs)) (fun hk => ⟨(hAe _).2 (h3 hk).1, (h3 hk).2⟩) (fun t ht => h4 t ((hAe t).1 ht))
/-- What is swept is a set, and has the seconds that it should. -/
theorem sw_set (kf : Bool → Bool → Bool) (h0 : kf false false = false) (a b : List S) (d : List E) (hp : d.Perm (all a b)) (hs : d.Pairwise fun x y => x.1 ≤ y.1) :
    Rs (sw kf d 0 0 false 0 []) ∧ ∀ t, inl (sw kf d 0 0 false 0 []) t = kf (inl a t) (inl b t) := by
  have e0 : ∀ j t, ot j t d = ot j t (all a b) := fun j t => perm_sum _ hp
  have hK : ∀ t, kf (inl a t) (inl b t) = kf (decide (0 < ot 0 t d)) (decide (0 < ot 1 t d)) := fun t => by rw [e0, e0, ot_a, ot_b]
  obtain ⟨k2, f2, s2, e, h1, h2, h3⟩ := sw_in kf (fun t => kf (inl a t) (inl b t)) d hs hK d [] false 0 [] rfl ⟨List.Pairwise.nil, fun s hs => absurd hs (by simp)⟩ (fun s hs => absurd hs (by simp)) (fun h => by cases h) (by
    intro t ht
    rw [hK]
    have hz : ∀ x ∈ d, t < x.1 := by
      intro x hx
      cases d with
      | nil => cases hx
      | cons y d =>
        have hy : t < y.1 := ht
        rcases List.mem_cons.1 hx with rfl | hx
        · exact hy
        · have := (List.pairwise_cons.1 hs).1 x hx; omega
    rw [ot_none 0 t d hz, ot_none 1 t d hz]
    exact h0.symm)
  have e' : sw kf d 0 0 false 0 [] = s2 := e
  rw [e']
  -- nothing is left open: far away no second is kept
  have hk2 : k2 = false := by
    cases hk : k2
    · rfl
    · exfalso
      obtain ⟨T, hT⟩ : ∃ T, ∀ s ∈ a ++ b ++ s2, s.2 ≤ T := by
        have : ∀ l : List S, ∃ T, ∀ s ∈ l, s.2 ≤ T := by
          intro l
          induction l with
          | nil => exact ⟨0, fun s hs => absurd hs (by simp)⟩
          | cons s l ih =>
            obtain ⟨T, hT⟩ := ih
            refine ⟨max T s.2, fun x hx => ?_⟩
            rcases List.mem_cons.1 hx with rfl | hx
            · omega
            · have := hT x hx; omega
        exact this _
      have far : ∀ l : List S, (∀ s ∈ l, s.2 ≤ T) → inl l (max T f2) = false := by
        intro l hl
        cases hi : inl l (max T f2)
        · rfl
        · obtain ⟨s, hs, _, b⟩ := inl_lt hi
          have := hl s hs; omega
      have := h3 (max T f2)
      rw [hk, far a fun s hs => hT s (by simp [hs]), far b fun s hs => hT s (by simp [hs]), far s2 fun s hs => hT s (by simp [hs]), h0, decide_eq_true (by omega : f2 ≤ max T f2)] at this
      cases this
  refine ⟨h1, fun t => ?_⟩
  have := h3 t
  rw [hk2] at this
  simpa using this
/-- A set is told by its seconds. -/
theorem rs_ext : ∀ l k : List S, Rs l → Rs k → (∀ t, inl l t = inl k t) → l = k
  | [], [], _, _, _ => rfl
  | [], s :: k, _, hk, h => by
    have := h s.1
    have hs := hk.2 s (List.mem_cons_self ..)
    simp [inl, Sp.hs] at this
    have := this.1
    omega
  | s :: l, [], hl, _, h => by
    have := h s.1
    have hs := hl.2 s (List.mem_cons_self ..)
    simp [inl, Sp.hs] at this
    have := this.1
    omega
  | s :: l, u :: k, hl, hk, h => by
    have hin : ∀ {l : List S} {s : S} {t : Int}, s ∈ l → s.1 ≤ t → t < s.2 → inl l t = true := by
      intro l s t hm h1 h2
      unfold inl
      exact List.any_eq_true.2 ⟨s, hm, by simp [Sp.hs, h1, h2]⟩
    obtain ⟨l1, l2⟩ := List.pairwise_cons.1 hl.1
    obtain ⟨k1, k2⟩ := List.pairwise_cons.1 hk.1
    have s0 := hl.2 s (List.mem_cons_self ..)
    have u0 := hk.2 u (List.mem_cons_self ..)
    have e1 : s.1 = u.1 := by
      have a : ¬ s.1 < u.1 := by
        intro g
        have := hin (l := s :: l) (t := s.1) (List.mem_cons_self ..) (Int.le_refl _) s0
        rw [h] at this
        obtain ⟨v, hv, a, b⟩ := inl_lt this
        rcases List.mem_cons.1 hv with rfl | hv
        · omega
        · have := k1 v hv; omega
      have b : ¬ u.1 < s.1 := by
        intro g
        have := hin (l := u :: k) (t := u.1) (List.mem_cons_self ..) (Int.le_refl _) u0
        rw [← h] at this
        obtain ⟨v, hv, a, b⟩ := inl_lt this
        rcases List.mem_cons.1 hv with rfl | hv
        · omega
        · have := l1 v hv; omega
      omega
    have e2 : s.2 = u.2 := by
      have a : ¬ s.2 < u.2 := by
        intro g
        have := hin (l := u :: k) (t := s.2) (List.mem_cons_self ..) (by omega) g
        rw [← h] at this
        obtain ⟨v, hv, a, b⟩ := inl_lt this
        rcases List.mem_cons.1 hv with rfl | hv
        · omega
        · have := l1 v hv; omega
      have b : ¬ u.2 < s.2 := by
        intro g
        have := hin (l := s :: l) (t := u.2) (List.mem_cons_self ..) (by omega) g
        rw [h] at this
        obtain ⟨v, hv, a, b⟩ := inl_lt this
        rcases List.mem_cons.1 hv with rfl | hv
        · omega
        · have := k1 v hv; omega
      omega
    obtain ⟨a, b⟩ := s
    obtain ⟨a', b'⟩ := u
    obtain rfl : a = a' := e1
    obtain rfl : b = b' := e2
    congr 1
    refine rs_ext l k ⟨l2, fun x hx => hl.2 x (List.mem_cons_of_mem _ hx)⟩ ⟨k2, fun x hx => hk.2 x (List.mem_cons_of_mem _ hx)⟩ fun t => ?_
    by_cases ht : t < b
    · have z : ∀ {l : List S}, (∀ v ∈ l, b < v.1) → inl l t = false := by
        intro l hl
        cases hi : inl l t
        · rfl
        · obtain ⟨v, hv, c, d⟩ := inl_lt hi
          have := hl v hv; omega
      rw [z l1, z k1]
    · have := h t
      have e : ∀ l : List S, inl ((a, b) :: l) t = inl l t := by
        intro l
        show (Sp.hs a b t || inl l t) = _
        have : Sp.hs a b t = false := by simp [Sp.hs]; omega
        rw [this, Bool.false_or]
      rwa [e, e] at this
end Ss
end Go.Proofs.Ytmnmmbeageddkaa
