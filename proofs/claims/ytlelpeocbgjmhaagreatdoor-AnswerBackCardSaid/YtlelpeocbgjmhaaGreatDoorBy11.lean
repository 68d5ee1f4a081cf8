/- Joined: PairT. -/
import Derived.Test.YtlelpeocbgjmhaaGreatDoorBy10
namespace Go.Pairs
open Go
section
variable (P : Program) (l : List Oper) (R : Nat → Value → World → Prop) (till : Nat → Option Nat) (D : World → Prop) (G : Nat → World → World → Prop) (Q : Exit → Act → World → Prop) (a0 : Act)
def CT (ld : Nat → Bool) (a : Act) (w : World) : Prop :=
 D w ∧ Same l a0 a ∧ ∀ j oj d, l[j]? = some oj → oj.dst = some d → ld j = true → (∀ t, till j = some t → ld t = false) → ∃ v, a.tmps[d]? = some v ∧ R j v w
def liveB (till : Nat → Option Nat) (l : List Oper) (i j : Nat) : Bool :=
 match till j with
 | none => true
 | some t => t == i || (match l[t]? with | some ot => waitsB ot i | none => false)
def ObT (i : Nat) (o : Oper) : Prop :=
 ∀ a w, D w → Same l a0 a → (∀ j oj d, l[j]? = some oj → oj.dst = some d → waitsB o j = true → liveB till l i j = true → ∃ v, a.tmps[d]? = some v ∧ R j v w) →
  ∀ K : Act → World → Prop, (∀ v w', G i w w' → R i v w' → K (a.put o.dst v) w') → if Region.wanted o (yielded l.toArray a.tmps) = true then o.wp P a w K Q else K (a.put o.dst undef) w
structure GoodT : Prop where
 nodup : nodupB (l.filterMap (·.dst)) = true
 on : onB 0 l = true
 inside : insideB a0.tmps.size l = true
 keep : ∀ i w w', D w → G i w w' → D w'
 stable : ∀ i j, i ≠ j → till j ≠ some i → ∀ v w w', G i w w' → R j v w → R j v w'
 ob : ∀ i o, l[i]? = some o → ObT P l R till D G Q a0 i o
 last : ∀ a w, D w → Same l a0 a → (∀ j oj d, l[j]? = some oj → oj.dst = some d → till j = none → ∃ v, a.tmps[d]? = some v ∧ R j v w) → Q .normal a w
variable {P l R till D G Q a0}
theorem live_at {i j : Nat} (h : liveB till l i j = true) : ∀ t, till j = some t → t = i ∨ ∃ ot, l[t]? = some ot ∧ waitsB ot i = true := by
 intro t ht
 unfold liveB at h
 rw [ht] at h
 simp only [Bool.or_eq_true, beq_iff_eq] at h
 rcases h with h | h
 ·
  exact Or.inl h
 ·
  cases hlt : l[t]? with
  | none => rw [hlt] at h; cases h
  | some ot => rw [hlt] at h; exact Or.inr ⟨ot, rfl, h⟩
theorem GoodT.goodF (h : GoodT P l R till D G Q a0) : GoodF P l (CT l R till D a0) Q a0 where
 on := h.on
 ob := fun i o ho ld a w hC hif hw hcl hS K hK => by
  refine h.ob i o ho a w hC.1 hC.2.1 (fun j oj d hj hd hwj hlv => ?_) K fun v w' hG hRv => hK _ _ ⟨h.keep _ _ _ hC.1 hG, hS.put ho v, ?_⟩
  ·
   refine hC.2.2 j oj d hj hd (hw j hwj) fun t ht => ?_
   rcases live_at hlv t ht with e | ⟨ot, e1, e2⟩
   ·
    subst e; exact hif
   ·
    rcases hb : ld t with _ | _
    ·
     rfl
    ·
     have := hcl t ot i e1 hb e2
     rw [hif] at this; cases this
  ·
   intro j oj d hj hd hl htl
   unfold come at hl htl
   by_cases hij : j = i
   ·
    subst hij
    obtain rfl : o = oj := by rw [ho] at hj; exact Option.some.inj hj
    rw [hd, put_same (by rw [hS.size]; exact inside_at h.inside hj hd)]
    exact ⟨_, rfl, hRv⟩
   ·
    rw [if_neg hij] at hl
    rw [put_other (fun he => hij (nodup_at h.nodup ho hj he hd).symm)]
    obtain ⟨v', h1, h2⟩ := hC.2.2 j oj d hj hd hl fun t ht => by
     have := htl t ht
     by_cases hti : t = i
     ·
      rw [if_pos hti] at this; cases this
     ·
      rwa [if_neg hti] at this
    refine ⟨v', h1, h.stable i j (fun e => hij e.symm) (fun e => ?_) _ _ _ hG h2⟩
    have := htl i e
    rw [if_pos rfl] at this; cases this
 last := fun ld a w hC hall hS => h.last a w hC.1 hS fun j oj d hj hd htl =>
  hC.2.2 j oj d hj hd (hall j (List.getElem?_eq_some_iff.1 hj).1) fun t ht => by rw [htl] at ht; cases ht
theorem wp_region_till {id : Nat} {w : World} (hm : P.follows .mixedOrders = true) (hD : D w.drew) (h : GoodT P l R till D G Q a0) : (Code.region id l.toArray true).wp P Q a0 w :=
 wp_region_frame (C := CT l R till D a0) hm ⟨hD, ⟨rfl, rfl, fun _ _ => rfl⟩, fun _ _ _ _ _ hl => by cases hl⟩ h.goodF
def ObsT (P : Program) (l : List Oper) (R : Nat → Value → World → Prop) (till : Nat → Option Nat) (D : World → Prop) (G : Nat → World → World → Prop) (Q : Exit → Act → World → Prop) (a0 : Act) : Nat → List Oper → Prop
 | _, [] => True
 | k, o :: os => ObT P l R till D G Q a0 k o ∧ ObsT P l R till D G Q a0 (k + 1) os
theorem ObsT.at : ∀ {os : List Oper} {k : Nat}, ObsT P l R till D G Q a0 k os → ∀ i o, os[i]? = some o → ObT P l R till D G Q a0 (k + i) o := by
 intro os
 induction os with
 | nil => intro k _ i o h; simp at h
 | cons x os ih =>
  intro k h i o hi
  cases i with
  | zero => simp at hi; subst hi; exact h.1
  | succ i => simp at hi; have := ih h.2 i o hi; rw [show k + (i + 1) = k + 1 + i by omega]; exact this
theorem ObsT.all (h : ObsT P l R till D G Q a0 0 l) : ∀ i o, l[i]? = some o → ObT P l R till D G Q a0 i o := fun i o hi => by
 have := h.at i o hi
 rwa [Nat.zero_add] at this
theorem ObsT.nil {k : Nat} : ObsT P l R till D G Q a0 k [] := trivial
theorem ObsT.cons {k k' : Nat} {o : Oper} {os : List Oper} (hk : k + 1 = k') (h : ObT P l R till D G Q a0 k o) (hs : ObsT P l R till D G Q a0 k' os) : ObsT P l R till D G Q a0 k (o :: os) := ⟨h, hk ▸ hs⟩
end
theorem shape_ds (x : Nat → Value) : ∀ (ds : List Nat) (b : Act) (tm : Array Value), b.tmps.size = tm.size → (∀ i, i < tm.size → tm[i]? = some (x i)) → (∀ i, ds.contains i = false → tm[i]? = b.tmps[i]?) →
  (ds.foldl (fun b d => b.put (some d) (x d)) b).tmps = tm ∧ (ds.foldl (fun b d => b.put (some d) (x d)) b).defers = b.defers := by
 intro ds
 induction ds with
 | nil => intro b tm hs hx h; exact ⟨Array.ext_getElem? (fun i => (h i rfl).symm), rfl⟩
 | cons d ds ih =>
  intro b tm hs hx h
  have := ih (b.put (some d) (x d)) tm (by simpa [Act.put] using hs) hx (fun i hi => by
   by_cases e : i = d
   ·
    subst e
    by_cases hlt : i < tm.size
    ·
     rw [put_same (a := b) (by rw [hs]; exact hlt)]; exact hx i hlt
    ·
     rw [Array.getElem?_eq_none (by omega), Array.getElem?_eq_none (by simp [Act.put]; omega)]
   ·
    rw [put_other (by simpa using fun e' => e e'.symm)]
    exact h i (by simpa [e] using hi))
  exact ⟨this.1, this.2⟩
theorem Same_shape {l : List Oper} {a0 a : Act} (h : Same l a0 a) : a = (l.filterMap (·.dst)).foldl (fun b d => b.put (some d) (a.tmps.getD d undef)) a0 := by
 obtain ⟨h1, h2⟩ := shape_ds (fun d => a.tmps.getD d undef) (l.filterMap (·.dst)) a0 a.tmps h.size.symm (fun i hi => by simp [hi]) h.base
 obtain ⟨tm, df⟩ := a
 have := h.defers
 generalize List.foldl _ _ _ = z at *
 obtain ⟨zt, zd⟩ := z
 dsimp only at h1 h2 this ⊢
 subst h1; subst h2; rw [this]
end Go.Pairs
