/- Parts, in plain lists: what merging keeps. -/
import Derived.Test.YtckcmhnhmobadaaMnG
import Derived.Test.YtckcmhnhmobadaaMnB
set_option linter.unusedVariables false
set_option linter.unusedSimpArgs false
namespace Go.Proofs.Ytckcmhnhmobadaa
open Go.RowKit Go.Sort

namespace Mn
/-- Merged behind a first one. -/
def mgr : P → List P → List P
  | q, [] => [q]
  | q, p :: r => if q.2.2 = p.2.2 ∧ q.2.1 = p.1 then mgr (q.1, p.2.1, q.2.2) r else q :: mgr p r
theorem mgr_yes {q p : P} {r : List P} (h : q.2.2 = p.2.2 ∧ q.2.1 = p.1) : mgr q (p :: r) = mgr (q.1, p.2.1, q.2.2) r := by rw [mgr, if_pos h]
theorem mgr_no {q p : P} {r : List P} (h : ¬ (q.2.2 = p.2.2 ∧ q.2.1 = p.1)) : mgr q (p :: r) = q :: mgr p r := by rw [mgr, if_neg h]
theorem fold_mg (r : List P) : ∀ (out : List P) (q : P), r.foldl mg (out ++ [q]) = out ++ mgr q r := by
  induction r with
  | nil => intro out q; rfl
  | cons p r ih =>
    intro out q
    rw [List.foldl_cons]
    by_cases h : q.2.2 = p.2.2 ∧ q.2.1 = p.1
    · rw [mg_yes out q p h.1 h.2, ih, mgr_yes h]
    · rw [mg_no out q p h, ih, mgr_no h, List.append_assoc]; rfl
theorem merge_cons (p : P) (r : List P) : merge (p :: r) = mgr p r := by
  show r.foldl mg (mg [] p) = _
  rw [mg_nil]; exact fold_mg r [] p
theorem mgr_head (r : List P) : ∀ q : P, ∃ e t, mgr q r = (q.1, e, q.2.2) :: t := by
  induction r with
  | nil => intro q; exact ⟨_, _, rfl⟩
  | cons p r ih =>
    intro q
    by_cases h : q.2.2 = p.2.2 ∧ q.2.1 = p.1
    · rw [mgr_yes h]; exact ih _
    · rw [mgr_no h]; exact ⟨_, _, rfl⟩
theorem rt_mgr (r : List P) : ∀ (o : Option Int) (q : P), rt o (q :: r) = true → rt o (mgr q r) = true := by
  induction r with
  | nil => intro o q h; exact h
  | cons p r ih =>
    intro o q h
    simp only [rt, Bool.and_eq_true, Sp.rb, decide_eq_true_eq] at h
    obtain ⟨⟨h1, h2⟩, ⟨h3, h4⟩, h5⟩ := h
    by_cases k : q.2.2 = p.2.2 ∧ q.2.1 = p.1
    · rw [mgr_yes k]
      refine ih o _ ?_
      simp only [rt, Bool.and_eq_true, Sp.rb, decide_eq_true_eq]
      exact ⟨⟨by omega, h2⟩, h5⟩
    · rw [mgr_no k]
      simp only [rt, Bool.and_eq_true, Sp.rb, decide_eq_true_eq]
      refine ⟨⟨h1, h2⟩, ih _ _ ?_⟩
      simp only [rt, Bool.and_eq_true, Sp.rb, decide_eq_true_eq]
      exact ⟨⟨h3, h4⟩, h5⟩
/-- No two that touch are alike. -/
def na : List P → Prop
  | a :: b :: r => ¬ (a.2.2 = b.2.2 ∧ a.2.1 = b.1) ∧ na (b :: r)
  | _ => True
theorem na_mgr (r : List P) : ∀ q : P, na (mgr q r) := by
  induction r with
  | nil => intro q; trivial
  | cons p r ih =>
    intro q
    by_cases h : q.2.2 = p.2.2 ∧ q.2.1 = p.1
    · rw [mgr_yes h]; exact ih _
    · rw [mgr_no h]
      obtain ⟨e, t, he⟩ := mgr_head r p
      have := ih p
      rw [he] at this ⊢
      exact ⟨h, this⟩
theorem mgr_na (r : List P) : ∀ q : P, na (q :: r) → mgr q r = q :: r := by
  induction r with
  | nil => intro q _; rfl
  | cons p r ih => intro q h; rw [mgr_no h.1, ih p h.2]
theorem na_merge (l : List P) : na (merge l) := by
  cases l with
  | nil => trivial
  | cons p r => rw [merge_cons]; exact na_mgr r p
theorem merge_merge (l : List P) : merge (merge l) = merge l := by
  have h := na_merge l
  cases e : merge l with
  | nil => rfl
  | cons p r => rw [e] at h; rw [merge_cons]; exact mgr_na r p h
theorem na_at : ∀ (l : List P) (k : Nat) (h : k + 1 < l.length), na l → ¬ (l[k].2.2 = l[k + 1].2.2 ∧ l[k].2.1 = l[k + 1].1)
  | [], _, h, _ => absurd h (by simp)
  | [_], _, h, _ => absurd h (by simp)
  | a :: b :: r, 0, _, hn => hn.1
  | a :: b :: r, k + 1, h, hn => na_at (b :: r) k (by simpa using h) hn.2
/-- How long all are, exactly. -/
def tl (l : List P) : Int := (l.map fun p => p.2.1 - p.1).sum
theorem tl_app (l k : List P) : tl (l ++ k) = tl l + tl k := by unfold tl; rw [List.map_append, List.sum_append]
/-- The same ends and as long. -/
def Ev (l k : List P) : Prop := (∀ e, l.foldl eb e = k.foldl eb e) ∧ tl l = tl k
theorem Ev.refl (l : List P) : Ev l l := ⟨fun _ => rfl, rfl⟩
theorem Ev.trans {a b c : List P} (h : Ev a b) (k : Ev b c) : Ev a c := ⟨fun e => (h.1 e).trans (k.1 e), h.2.trans k.2⟩
theorem Ev.right {a b : List P} (h : Ev a b) (c : List P) : Ev (a ++ c) (b ++ c) := ⟨fun e => by rw [List.foldl_append, List.foldl_append, h.1], by rw [tl_app, tl_app, h.2]⟩
theorem Ev.left {a b : List P} (h : Ev a b) (c : List P) : Ev (c ++ a) (c ++ b) := ⟨fun e => by rw [List.foldl_append, List.foldl_append, h.1], by rw [tl_app, tl_app, h.2]⟩
theorem cnt_cons (s0 s1 : Int) (p : P) (l : List P) : cnt s0 s1 (p :: l) = (bt s0 s1 p).toList ++ cnt s0 s1 l := by
  unfold cnt; rw [List.filterMap_cons]; cases bt s0 s1 p <;> rfl
theorem Ev_two (s0 s1 a b c v : Int) (h : a < b) (k : b < c) : Ev ((bt s0 s1 (a, b, v)).toList ++ (bt s0 s1 (b, c, v)).toList) (bt s0 s1 (a, c, v)).toList := by
  unfold bt Sp.mt
  by_cases h1 : max a s0 < min b s1 <;> by_cases h2 : max b s0 < min c s1 <;> by_cases h3 : max a s0 < min c s1 <;> simp only [h1, h2, h3, decide_true, decide_false, if_true, if_false, Bool.false_eq_true, Option.toList, List.nil_append, List.cons_append, List.append_nil] <;> first
    | (exfalso; omega)
    | (refine ⟨fun e => ?_, ?_⟩
       · obtain ⟨is, x, y⟩ := e
         cases is <;> simp [eb] <;> omega
       · simp [tl] <;> omega)
theorem Ev_mgr (s0 s1 : Int) (r : List P) : ∀ (o : Option Int) (q : P), rt o (q :: r) = true → Ev (cnt s0 s1 (q :: r)) (cnt s0 s1 (mgr q r)) := by
  induction r with
  | nil => intro o q h; exact Ev.refl _
  | cons p r ih =>
    intro o q h
    simp only [rt, Bool.and_eq_true, Sp.rb, decide_eq_true_eq] at h
    obtain ⟨⟨h1, h2⟩, ⟨h3, h4⟩, h5⟩ := h
    by_cases k : q.2.2 = p.2.2 ∧ q.2.1 = p.1
    · rw [mgr_yes k]
      refine Ev.trans ?_ (ih o _ (by simp only [rt, Bool.and_eq_true, Sp.rb, decide_eq_true_eq]; exact ⟨⟨by omega, h2⟩, h5⟩))
      rw [cnt_cons, cnt_cons, cnt_cons, ← List.append_assoc]
      refine Ev.right ?_ _
      obtain ⟨a, b, v⟩ := q
      obtain ⟨b', c, v'⟩ := p
      obtain ⟨rfl, rfl⟩ := k
      exact Ev_two s0 s1 a b c v h1 h3
    · rw [mgr_no k, cnt_cons s0 s1 q, cnt_cons s0 s1 q]
      exact Ev.left (ih (some q.2.1) p (by simp only [rt, Bool.and_eq_true, Sp.rb, decide_eq_true_eq]; exact ⟨⟨h3, h4⟩, h5⟩)) _
theorem Ev_merge (s0 s1 : Int) (l : List P) (h : rt none l = true) : Ev (cnt s0 s1 l) (cnt s0 s1 (merge l)) := by
  cases l with
  | nil => exact Ev.refl _
  | cons p r => rw [merge_cons]; exact Ev_mgr s0 s1 r none p h
theorem rt_merge (l : List P) (h : rt none l = true) : rt none (merge l) = true := by
  cases l with
  | nil => rfl
  | cons p r => rw [merge_cons]; exact rt_mgr r none p h
/-- Are the ends of a part ones of 64 bits? -/
def IP (p : P) : Prop := I p.1 ∧ I p.2.1
theorem mgr_I (r : List P) : ∀ q : P, IP q → (∀ p ∈ r, IP p) → ∀ p ∈ mgr q r, IP p := by
  induction r with
  | nil => intro q hq _ p hp; rw [show mgr q [] = [q] from rfl, List.mem_singleton] at hp; rw [hp]; exact hq
  | cons p r ih =>
    intro q hq hr
    have hp := hr p (List.mem_cons_self ..)
    have hr' : ∀ x ∈ r, IP x := fun x hx => hr x (List.mem_cons_of_mem _ hx)
    by_cases k : q.2.2 = p.2.2 ∧ q.2.1 = p.1
    · rw [mgr_yes k]; exact ih _ ⟨hq.1, hp.2⟩ hr'
    · rw [mgr_no k]
      intro x hx
      rcases List.mem_cons.1 hx with rfl | hx
      · exact hq
      · exact ih p hp hr' x hx
theorem merge_I (l : List P) (h : ∀ p ∈ l, IP p) : ∀ p ∈ merge l, IP p := by
  cases l with
  | nil => intro p hp; exact absurd hp (by simp [merge])
  | cons p r => rw [merge_cons]; exact mgr_I r p (h p (List.mem_cons_self ..)) fun x hx => h x (List.mem_cons_of_mem _ hx)
/-- One that counts: how long it is. -/
theorem cnt_wl (s0 s1 : Int) (l : List P) (h : ∀ p ∈ l, IP p) (h0 : I s0) (h1 : I s1) : ∀ p ∈ cnt s0 s1 l, wl p.1 p.2.1 = p.2.1 - p.1 ∧ 1 ≤ p.2.1 - p.1 ∧ p.2.1 - p.1 ≤ 18446744073709551615 := by
  intro p hp
  unfold cnt at hp
  obtain ⟨q, hq, hb⟩ := List.mem_filterMap.1 hp
  unfold bt at hb
  split at hb
  · rename_i hm
    obtain rfl := Option.some.inj hb
    obtain ⟨⟨a, b⟩, c, d⟩ := h q hq
    unfold I at h0 h1
    have hm' : max q.1 s0 < min q.2.1 s1 := of_decide_eq_true hm
    have i0 : I (max q.1 s0) := ⟨by omega, by omega⟩
    have i1 : I (min q.2.1 s1) := ⟨by omega, by omega⟩
    refine ⟨wrap_sub i0 i1 (Int.le_of_lt hm'), ?_, ?_⟩
    · show 1 ≤ min q.2.1 s1 - max q.1 s0; omega
    · show min q.2.1 s1 - max q.1 s0 ≤ _; unfold I at i0 i1; omega
  · cases hb
end Mn
end Go.Proofs.Ytckcmhnhmobadaa
