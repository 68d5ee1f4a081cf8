/- Joined: PairF, PairT, PairL. -/
import Derived.Test.YtifgiclnofdnkaaGreatDoorBx21
namespace Go.Pairs
open Go
section
variable (P : Program) (l : List Oper) (C : (Nat → Bool) → Act → World → Prop) (Q : Exit → Act → World → Prop) (a0 : Act)
def ObF (i : Nat) (o : Oper) : Prop :=
 ∀ (ld : Nat → Bool) a w, C ld a w → ld i = false → (∀ j, waitsB o j = true → ld j = true) → Closed l ld → Same l a0 a →
  ∀ K : Act → World → Prop, (∀ v w', C (come ld i) (a.put o.dst v) w' → K (a.put o.dst v) w') → if Region.wanted o (yielded l.toArray a.tmps) = true then o.wp P a w K Q else K (a.put o.dst undef) w
structure GoodF : Prop where
 on : onB 0 l = true
 ob : ∀ i o, l[i]? = some o → ObF P l C Q a0 i o
 last : ∀ ld a w, C ld a w → (∀ n, n < l.length → ld n = true) → Same l a0 a → Q .normal a w
variable {P l C Q a0}
theorem all_listedF (h : GoodF P l C Q a0) {listed : Array Bool} (hs : listed.size = l.length) (hr : Region.ready .any l.toArray listed = []) : ∀ n, n < l.length → listed.getD n false = true := by
 intro n
 induction n using Nat.strongRecOn with
 | ind n ih =>
  intro hn
  rcases hb : listed.getD n false with _ | _
  ·
   have hmem : n ∈ Region.ready .any l.toArray listed := by
    refine mem_ready.2 ⟨?_, l[n], by simp [hn], fun e he hbn => ih e.on ?_ ?_⟩
    ·
     have : n < listed.size := by omega
     simp [this] at hb ⊢; exact hb
    ·
     have := on_at h.on (List.getElem?_eq_getElem hn) e he hbn; omega
    ·
     have := on_at h.on (List.getElem?_eq_getElem hn) e he hbn; omega
   rw [hr] at hmem; cases hmem
  ·
   rfl
theorem wpAny_ofF (h : GoodF P l C Q a0) : ∀ (fuel : Nat) (listed : Array Bool) (a : Act) (w : World), listed.size = l.length → listed.toList.count false ≤ fuel → C (fun j => listed.getD j false) a w → Closed l (fun j => listed.getD j false) → Same l a0 a →
  wpAny P .any l.toArray Q fuel listed a w := by
 intro fuel
 have fin : ∀ (listed : Array Bool) (a : Act) (w : World), listed.size = l.length → C (fun j => listed.getD j false) a w → Same l a0 a → Region.ready .any l.toArray listed = [] → Q .normal a w :=
  fun listed a w hs hC hS hr => h.last _ a w hC (all_listedF h hs hr) hS
 induction fuel with
 | zero =>
  intro listed a w hs hc hC _ hS
  have hr : Region.ready .any l.toArray listed = [] := by
   rw [List.eq_nil_iff_forall_not_mem]
   intro j hj
   have h1 := (mem_ready.1 hj).1
   have hlt : j < listed.size := by
    rcases Nat.lt_or_ge j listed.size with h' | h'
    ·
     exact h'
    ·
     simp [Array.getElem?_eq_none h'] at h1
   have : false ∈ listed.toList := by
    simp [hlt] at h1
    rw [← h1]; simp
   have := List.count_pos_iff.2 this
   omega
  exact ⟨hr, fin listed a w hs hC hS hr⟩
 | succ fuel ih =>
  intro listed a w hs hc hC hcl hS
  refine ⟨fin listed a w hs hC hS, fun i hi => ?_⟩
  obtain ⟨hun, o, ho, hall⟩ := mem_ready.1 hi
  have ho' : l[i]? = some o := by simpa using ho
  have hlt : i < listed.size := by
   rcases Nat.lt_or_ge i listed.size with h' | h'
   ·
    exact h'
   ·
    simp [Array.getElem?_eq_none h'] at hun
  have hw : ∀ j, waitsB o j = true → listed.getD j false = true := fun j hj => by
   obtain ⟨e, he, hb, rfl⟩ := waits_mem hj
   exact hall e he hb
  have hif : listed.getD i false = false := by simp [hlt] at hun ⊢; exact hun
  have hob := h.ob i o ho' (fun j => listed.getD j false) a w hC hif hw hcl hS
  refine wpOp_step ho fun K' hK => ?_
  refine hob K' fun v w' hC' => hK _ _ ?_
  refine ih _ _ _ (by simpa using hs) ?_ (by rw [come_set hlt]; exact hC') ?_ (hS.put ho' v)
  ·
   have hl : i < listed.toList.length := by simpa using hlt
   have hf : listed.toList[i] = false := by simp [hlt] at hun; simpa using hun
   rw [Array.toList_setIfInBounds, List.count_set hl]
   have hp : 0 < listed.toList.count false := List.count_pos_iff.2 (hf ▸ List.getElem_mem hl)
   simp [hf]
   simp at hp hc
   omega
  ·
   rw [come_set hlt]
   intro j oj k hj hlj hk
   unfold come at hlj ⊢
   by_cases hki : k = i
   ·
    rw [if_pos hki]
   ·
    rw [if_neg hki]
    by_cases hji : j = i
    ·
     subst hji
     obtain rfl : o = oj := by rw [ho'] at hj; exact Option.some.inj hj
     exact hw k hk
    ·
     rw [if_neg hji] at hlj
     exact hcl j oj k hj hlj hk
theorem wp_region_frame {id : Nat} {w : World} (hm : P.follows .mixedOrders = true) (hC : C (fun _ => false) a0 w.drew) (h : GoodF P l C Q a0) : (Code.region id l.toArray true).wp P Q a0 w := by
 refine wp_region_any hm ?_
 have e0 : (fun j => (Array.replicate l.toArray.size false).getD j false) = fun _ => false := by
  funext j
  by_cases hj : j < l.length
  ·
   simp [hj]
  ·
   simp [hj]
 exact wpAny_ofF h _ _ _ _ (by simp) (by simp) (by rw [e0]; exact hC) (by rw [e0]; intro j oj k _ hl _; cases hl) ⟨rfl, rfl, fun _ _ => rfl⟩
def ObsF (P : Program) (l : List Oper) (C : (Nat → Bool) → Act → World → Prop) (Q : Exit → Act → World → Prop) (a0 : Act) : Nat → List Oper → Prop
 | _, [] => True
 | k, o :: os => ObF P l C Q a0 k o ∧ ObsF P l C Q a0 (k + 1) os
theorem ObsF.at : ∀ {os : List Oper} {k : Nat}, ObsF P l C Q a0 k os → ∀ i o, os[i]? = some o → ObF P l C Q a0 (k + i) o := by
 intro os
 induction os with
 | nil => intro k _ i o h; simp at h
 | cons x os ih =>
  intro k h i o hi
  cases i with
  | zero => simp at hi; subst hi; exact h.1
  | succ i => simp at hi; have := ih h.2 i o hi; rw [show k + (i + 1) = k + 1 + i by omega]; exact this
theorem ObsF.all (h : ObsF P l C Q a0 0 l) : ∀ i o, l[i]? = some o → ObF P l C Q a0 i o := fun i o hi => by
 have := h.at i o hi
 rwa [Nat.zero_add] at this
theorem ObsF.nil {k : Nat} : ObsF P l C Q a0 k [] := trivial
theorem ObsF.cons {k k' : Nat} {o : Oper} {os : List Oper} (hk : k + 1 = k') (h : ObF P l C Q a0 k o) (hs : ObsF P l C Q a0 k' os) : ObsF P l C Q a0 k (o :: os) := ⟨h, hk ▸ hs⟩
end
end Go.Pairs
namespace Go.Pairs
open Go
section
variable (P : Program) (l : List Oper) (R : Nat → Value → World → Prop) (till : Nat → Option Nat) (D : World → Prop) (G : Nat → World → World → Prop) (Q : Exit → Act → World → Prop) (a0 : Act)
def CT (ld : Nat → Bool) (a : Act) (w : World) : Prop :=
 D w ∧ Same l a0 a ∧ ∀ j oj d, l[j]? = some oj → oj.dst = some d → ld j = true → (∀ t, till j = some t → ld t = false) → ∃ v, a.tmps[d]? = some v ∧ R j v w
def liveB (till : Nat → Option Nat) (l : List Oper) (i j : Nat) : Bool :=
 match till j with
 | none => true
 | some t => t == i || (match l[t]? with | some ot => waitsB ot i | none => false)
def ObT (i : Nat) (o : Oper) : Prop :=
 ∀ a w, D w → Same l a0 a → (∀ j oj d, l[j]? = some oj → oj.dst = some d → waitsB o j = true → liveB till l i j = true → ∃ v, a.tmps[d]? = some v ∧ R j v w) →
  ∀ K : Act → World → Prop, (∀ v w', G i w w' → R i v w' → K (a.put o.dst v) w') → if Region.wanted o (yielded l.toArray a.tmps) = true then o.wp P a w K Q else K (a.put o.dst undef) w
structure GoodT : Prop where
 nodup : nodupB (l.filterMap (·.dst)) = true
 on : onB 0 l = true
 inside : insideB a0.tmps.size l = true
 keep : ∀ i w w', D w → G i w w' → D w'
 stable : ∀ i j, i ≠ j → till j ≠ some i → ∀ v w w', G i w w' → R j v w → R j v w'
 ob : ∀ i o, l[i]? = some o → ObT P l R till D G Q a0 i o
 last : ∀ a w, D w → Same l a0 a → (∀ j oj d, l[j]? = some oj → oj.dst = some d → till j = none → ∃ v, a.tmps[d]? = some v ∧ R j v w) → Q .normal a w
variable {P l R till D G Q a0}
theorem live_at {i j : Nat} (h : liveB till l i j = true) : ∀ t, till j = some t → t = i ∨ ∃ ot, l[t]? = some ot ∧ waitsB ot i = true := by
 intro t ht
 unfold liveB at h
 rw [ht] at h
 simp only [Bool.or_eq_true, beq_iff_eq] at h
 rcases h with h | h
 ·
  exact Or.inl h
 ·
  cases hlt : l[t]? with
  | none => rw [hlt] at h; cases h
  | some ot => rw [hlt] at h; exact Or.inr ⟨ot, rfl, h⟩
theorem GoodT.goodF (h : GoodT P l R till D G Q a0) : GoodF P l (CT l R till D a0) Q a0 where
 on := h.on
 ob := fun i o ho ld a w hC hif hw hcl hS K hK => by
  refine h.ob i o ho a w hC.1 hC.2.1 (fun j oj d hj hd hwj hlv => ?_) K fun v w' hG hRv => hK _ _ ⟨h.keep _ _ _ hC.1 hG, hS.put ho v, ?_⟩
  ·
   refine hC.2.2 j oj d hj hd (hw j hwj) fun t ht => ?_
   rcases live_at hlv t ht with e | ⟨ot, e1, e2⟩
   ·
    subst e; exact hif
   ·
    rcases hb : ld t with _ | _
    ·
     rfl
    ·
     have := hcl t ot i e1 hb e2
     rw [hif] at this; cases this
  ·
   intro j oj d hj hd hl htl
   unfold come at hl htl
   by_cases hij : j = i
   ·
    subst hij
    obtain rfl : o = oj := by rw [ho] at hj; exact Option.some.inj hj
    rw [hd, put_same (by rw [hS.size]; exact inside_at h.inside hj hd)]
    exact ⟨_, rfl, hRv⟩
   ·
    rw [if_neg hij] at hl
    rw [put_other (fun he => hij (nodup_at h.nodup ho hj he hd).symm)]
    obtain ⟨v', h1, h2⟩ := hC.2.2 j oj d hj hd hl fun t ht => by
     have := htl t ht
     by_cases hti : t = i
     ·
      rw [if_pos hti] at this; cases this
     ·
      rwa [if_neg hti] at this
    refine ⟨v', h1, h.stable i j (fun e => hij e.symm) (fun e => ?_) _ _ _ hG h2⟩
    have := htl i e
    rw [if_pos rfl] at this; cases this
 last := fun ld a w hC hall hS => h.last a w hC.1 hS fun j oj d hj hd htl =>
  hC.2.2 j oj d hj hd (hall j (List.getElem?_eq_some_iff.1 hj).1) fun t ht => by rw [htl] at ht; cases ht
theorem wp_region_till {id : Nat} {w : World} (hm : P.follows .mixedOrders = true) (hD : D w.drew) (h : GoodT P l R till D G Q a0) : (Code.region id l.toArray true).wp P Q a0 w :=
 wp_region_frame (C := CT l R till D a0) hm ⟨hD, ⟨rfl, rfl, fun _ _ => rfl⟩, fun _ _ _ _ _ hl => by cases hl⟩ h.goodF
def ObsT (P : Program) (l : List Oper) (R : Nat → Value → World → Prop) (till : Nat → Option Nat) (D : World → Prop) (G : Nat → World → World → Prop) (Q : Exit → Act → World → Prop) (a0 : Act) : Nat → List Oper → Prop
 | _, [] => True
 | k, o :: os => ObT P l R till D G Q a0 k o ∧ ObsT P l R till D G Q a0 (k + 1) os
theorem ObsT.at : ∀ {os : List Oper} {k : Nat}, ObsT P l R till D G Q a0 k os → ∀ i o, os[i]? = some o → ObT P l R till D G Q a0 (k + i) o := by
 intro os
 induction os with
 | nil => intro k _ i o h; simp at h
 | cons x os ih =>
  intro k h i o hi
  cases i with
  | zero => simp at hi; subst hi; exact h.1
  | succ i => simp at hi; have := ih h.2 i o hi; rw [show k + (i + 1) = k + 1 + i by omega]; exact this
theorem ObsT.all (h : ObsT P l R till D G Q a0 0 l) : ∀ i o, l[i]? = some o → ObT P l R till D G Q a0 i o := fun i o hi => by
 have := h.at i o hi
 rwa [Nat.zero_add] at this
theorem ObsT.nil {k : Nat} : ObsT P l R till D G Q a0 k [] := trivial
theorem ObsT.cons {k k' : Nat} {o : Oper} {os : List Oper} (hk : k + 1 = k') (h : ObT P l R till D G Q a0 k o) (hs : ObsT P l R till D G Q a0 k' os) : ObsT P l R till D G Q a0 k (o :: os) := ⟨h, hk ▸ hs⟩
end
theorem shape_ds (x : Nat → Value) : ∀ (ds : List Nat) (b : Act) (tm : Array Value), b.tmps.size = tm.size → (∀ i, i < tm.size → tm[i]? = some (x i)) → (∀ i, ds.contains i = false → tm[i]? = b.tmps[i]?) →
  (ds.foldl (fun b d => b.put (some d) (x d)) b).tmps = tm ∧ (ds.foldl (fun b d => b.put (some d) (x d)) b).defers = b.defers := by
 intro ds
 induction ds with
 | nil => intro b tm hs hx h; exact ⟨Array.ext_getElem? (fun i => (h i rfl).symm), rfl⟩
 | cons d ds ih =>
  intro b tm hs hx h
  have := ih (b.put (some d) (x d)) tm (by simpa [Act.put] using hs) hx (fun i hi => by
   by_cases e : i = d
   ·
    subst e
    by_cases hlt : i < tm.size
    ·
     rw [put_same (a := b) (by rw [hs]; exact hlt)]; exact hx i hlt
    ·
     rw [Array.getElem?_eq_none (by omega), Array.getElem?_eq_none (by simp [Act.put]; omega)]
   ·
    rw [put_other (by simpa using fun e' => e e'.symm)]
    exact h i (by simpa [e] using hi))
  exact ⟨this.1, this.2⟩
theorem Same_shape {l : List Oper} {a0 a : Act} (h : Same l a0 a) : a = (l.filterMap (·.dst)).foldl (fun b d => b.put (some d) (a.tmps.getD d undef)) a0 := by
 obtain ⟨h1, h2⟩ := shape_ds (fun d => a.tmps.getD d undef) (l.filterMap (·.dst)) a0 a.tmps h.size.symm (fun i hi => by simp [hi]) h.base
 obtain ⟨tm, df⟩ := a
 have := h.defers
 generalize List.foldl _ _ _ = z at *
 obtain ⟨zt, zd⟩ := z
 dsimp only at h1 h2 this ⊢
 subst h1; subst h2; rw [this]
end Go.Pairs
namespace Go.Pairs
open Go
section
variable (P : Program) (l : List Oper) (n : Nat) (R : Nat → Value → World → Prop) (till : Nat → Option Nat) (D : World → Prop) (G : Nat → World → World → Prop) (Q : Exit → Act → World → Prop) (a0 : Act)
structure GoodL : Prop where
 nodup : nodupB (l.filterMap (·.dst)) = true
 on : onB 0 l = true
 inside : insideB a0.tmps.size l = true
 len : l.length = n + 1
 all : (List.range n).all (fun j => (l[n]?).any (fun o => waitsB o j)) = true
 keep : ∀ i w w', D w → G i w w' → D w'
 stable : ∀ i j, i ≠ j → till j ≠ some i → ∀ v w w', G i w w' → R j v w → R j v w'
 ob : ∀ i o, i < n → l[i]? = some o → ObT P l R till D G Q a0 i o
 last : ∀ o, l[n]? = some o → ∀ a w, D w → Same l a0 a → (∀ j oj d, j < n → l[j]? = some oj → oj.dst = some d → till j = none → ∃ v, a.tmps[d]? = some v ∧ R j v w) →
  ∀ K : Act → World → Prop, (∀ v w', Q .normal (a.put o.dst v) w' → K (a.put o.dst v) w') → if Region.wanted o (yielded l.toArray a.tmps) = true then o.wp P a w K Q else K (a.put o.dst undef) w
variable {P l n R till D G Q a0}
theorem GoodL.waits (h : GoodL P l n R till D G Q a0) {o : Oper} (ho : l[n]? = some o) {j : Nat} (hj : j < n) : waitsB o j = true := by
 have := List.all_eq_true.1 h.all j (List.mem_range.2 hj)
 rw [ho] at this
 simpa using this
theorem GoodL.goodF (h : GoodL P l n R till D G Q a0) : GoodF P l (fun ld a w => (ld n = false → CT l R till D a0 ld a w) ∧ (ld n = true → Q .normal a w)) Q a0 where
 on := h.on
 ob := fun i o ho ld a w hC hif hw hcl hS K hK => by
  by_cases hin : i = n
  ·
   subst hin
   obtain ⟨hD, -, hR⟩ := hC.1 hif
   refine h.last o ho a w hD hS (fun j oj d hjn hj hd htl => ?_) K fun v w' hq => hK _ _ ⟨fun hf => ?_, fun _ => hq⟩
   ·
    refine hR j oj d hj hd (hw j (h.waits ho hjn)) fun t ht => ?_
    rw [htl] at ht; cases ht
   ·
    unfold come at hf; rw [if_pos rfl] at hf; cases hf
  ·
   have hlt : i < n := by
    have := (List.getElem?_eq_some_iff.1 ho).1
    have := h.len
    omega
   have hn : ld n = false := by
    rcases hb : ld n with _ | _
    ·
     rfl
    ·
     have hl : n < l.length := by have := h.len; omega
     have := hcl n l[n] i (List.getElem?_eq_getElem hl) hb (h.waits (List.getElem?_eq_getElem hl) hlt)
     rw [hif] at this; cases this
   have hC := hC.1 hn
   refine h.ob i o hlt ho a w hC.1 hC.2.1 (fun j oj d hj hd hwj hlv => ?_) K fun v w' hG hRv => hK _ _ ⟨fun _ => ⟨h.keep _ _ _ hC.1 hG, hS.put ho v, ?_⟩, fun ht => ?_⟩
   ·
    refine hC.2.2 j oj d hj hd (hw j hwj) fun t ht => ?_
    rcases live_at hlv t ht with e | ⟨ot, e1, e2⟩
    ·
     subst e; exact hif
    ·
     rcases hb : ld t with _ | _
     ·
      rfl
     ·
      have := hcl t ot i e1 hb e2
      rw [hif] at this; cases this
   ·
    intro j oj d hj hd hl htl
    unfold come at hl htl
    by_cases hij : j = i
    ·
     subst hij
     obtain rfl : o = oj := by rw [ho] at hj; exact Option.some.inj hj
     rw [hd, put_same (by rw [hS.size]; exact inside_at h.inside hj hd)]
     exact ⟨_, rfl, hRv⟩
    ·
     rw [if_neg hij] at hl
     rw [put_other (fun he => hij (nodup_at h.nodup ho hj he hd).symm)]
     obtain ⟨v', h1, h2⟩ := hC.2.2 j oj d hj hd hl fun t ht => by
      have := htl t ht
      by_cases hti : t = i
      ·
       rw [if_pos hti] at this; cases this
      ·
       rwa [if_neg hti] at this
     refine ⟨v', h1, h.stable i j (fun e => hij e.symm) (fun e => ?_) _ _ _ hG h2⟩
     have := htl i e
     rw [if_pos rfl] at this; cases this
   ·
    unfold come at ht; rw [if_neg (fun e => hin e.symm), hn] at ht; cases ht
 last := fun ld a w hC hall hS => hC.2 (hall n (by have := h.len; omega))
def ObsU (P : Program) (l : List Oper) (R : Nat → Value → World → Prop) (till : Nat → Option Nat) (D : World → Prop) (G : Nat → World → World → Prop) (Q : Exit → Act → World → Prop) (a0 : Act) : Nat → Nat → List Oper → Prop
 | _, 0, _ => True
 | _, _, [] => True
 | k, m + 1, o :: os => ObT P l R till D G Q a0 k o ∧ ObsU P l R till D G Q a0 (k + 1) m os
theorem ObsU.at : ∀ {os : List Oper} {k m : Nat}, ObsU P l R till D G Q a0 k m os → ∀ i o, i < m → os[i]? = some o → ObT P l R till D G Q a0 (k + i) o := by
 intro os
 induction os with
 | nil => intro k m _ i o _ h; simp at h
 | cons x os ih =>
  intro k m h i o hi ho
  cases m with
  | zero => omega
  | succ m =>
   cases i with
   | zero => simp at ho; subst ho; exact h.1
   | succ i => simp at ho; have := ih h.2 i o (by omega) ho; rw [show k + (i + 1) = k + 1 + i by omega]; exact this
theorem ObsU.all (h : ObsU P l R till D G Q a0 0 n l) : ∀ i o, i < n → l[i]? = some o → ObT P l R till D G Q a0 i o := fun i o hi ho => by
 have := h.at i o hi ho
 rwa [Nat.zero_add] at this
theorem ObsU.nil {k : Nat} {os : List Oper} : ObsU P l R till D G Q a0 k 0 os := by unfold ObsU; trivial
theorem ObsU.cons {k k' m : Nat} {o : Oper} {os : List Oper} (hk : k + 1 = k') (h : ObT P l R till D G Q a0 k o) (hs : ObsU P l R till D G Q a0 k' m os) : ObsU P l R till D G Q a0 k (m + 1) (o :: os) := ⟨h, hk ▸ hs⟩
end
end Go.Pairs
