/- Joined: Pair, PairW, PairF, PairT. -/
import Derived.RegionTactic
import Derived.Deep.Draws
import Derived.Below
namespace Go.Pairs
open Go
def nodupB : List Nat → Bool
 | [] => true
 | x :: xs => !xs.contains x && nodupB xs
def onB (k : Nat) : List Oper → Bool
 | [] => true
 | o :: os => (o.after.toList.all fun e => !Region.binds .any e || decide (e.on < k)) && onB (k + 1) os
def insideB (n : Nat) (l : List Oper) : Bool := (l.filterMap (·.dst)).all fun d => decide (d < n)
theorem nodup_at : ∀ {l : List Oper}, nodupB (l.filterMap (·.dst)) = true → ∀ {i j : Nat} {oi oj : Oper} {d : Tmp}, l[i]? = some oi → l[j]? = some oj → oi.dst = some d → oj.dst = some d → i = j := by
 intro l
 induction l with
 | nil => intro _ i j oi oj d hi; simp at hi
 | cons o os ih =>
  intro h i j oi oj d hi hj hdi hdj
  have mem : ∀ {k : Nat} {ok : Oper}, os[k]? = some ok → ok.dst = some d → d ∈ os.filterMap (·.dst) := fun {k ok} hk hd => List.mem_filterMap.2 ⟨ok, List.mem_of_getElem? hk, hd⟩
  have hs : nodupB (os.filterMap (·.dst)) = true := by
   cases ho : o.dst with
   | none => simpa [List.filterMap_cons, ho] using h
   | some x => simp [ho, nodupB] at h; exact h.2
  have hnot : o.dst = some d → d ∉ os.filterMap (·.dst) := fun ho => by
   simp only [List.filterMap_cons, ho, nodupB, Bool.and_eq_true, Bool.not_eq_true'] at h
   intro hm
   have := h.1
   simp only [List.contains_eq_mem, decide_eq_false_iff_not] at this
   exact this hm
  cases i with
  | zero =>
   simp at hi; subst hi
   cases j with
   | zero => rfl
   | succ j => simp at hj; exact (hnot hdi (mem hj hdj)).elim
  | succ i =>
   simp at hi
   cases j with
   | zero => simp at hj; subst hj; exact (hnot hdj (mem hi hdi)).elim
   | succ j => simp at hj; rw [ih hs hi hj hdi hdj]
theorem on_at : ∀ {l : List Oper} {k : Nat}, onB k l = true → ∀ {i : Nat} {o : Oper}, l[i]? = some o → ∀ e ∈ o.after, Region.binds .any e = true → e.on < k + i := by
 intro l
 induction l with
 | nil => intro k _ i o hi; simp at hi
 | cons x os ih =>
  intro k h i o hi e he hbn
  simp only [onB, Bool.and_eq_true] at h
  cases i with
  | zero => simp at hi; subst hi; have := List.all_eq_true.1 h.1 e (by simpa using he); rw [hbn] at this; simpa using this
  | succ i => simp at hi; have := ih h.2 hi e he hbn; omega
theorem inside_at {n : Nat} {l : List Oper} (h : insideB n l = true) {i : Nat} {o : Oper} {d : Tmp} (hi : l[i]? = some o) (hd : o.dst = some d) : d < n := by
 have := List.all_eq_true.1 h d (List.mem_filterMap.2 ⟨o, List.mem_of_getElem? hi, hd⟩)
 simpa using this
section
variable (P : Program) (l : List Oper) (R : Nat → Value → World → Prop) (C : World → Prop) (G : World → World → Prop) (Q : Exit → Act → World → Prop) (a0 : Act)
structure Same (a : Act) : Prop where
 size : a.tmps.size = a0.tmps.size
 defers : a.defers = a0.defers
 base : ∀ t, (l.filterMap (·.dst)).contains t = false → a.tmps[t]? = a0.tmps[t]?
def Ob (i : Nat) (o : Oper) : Prop :=
 ∀ a w, C w → Same l a0 a → (∀ j oj d, l[j]? = some oj → oj.dst = some d → o.after.any (fun e => Region.binds .any e && e.on == j) = true → ∃ v, a.tmps[d]? = some v ∧ R j v w) →
  ∀ K : Act → World → Prop, (∀ v w', G w w' → R i v w' → K (a.put o.dst v) w') → if Region.wanted o (yielded l.toArray a.tmps) = true then o.wp P a w K Q else K (a.put o.dst undef) w
structure Good : Prop where
 nodup : nodupB (l.filterMap (·.dst)) = true
 on : onB 0 l = true
 inside : insideB a0.tmps.size l = true
 keep : ∀ w w', C w → G w w' → C w'
 stable : ∀ i v w w', G w w' → R i v w → R i v w'
 ob : ∀ i o, l[i]? = some o → Ob P l R C G Q a0 i o
 last : ∀ a w, C w → Same l a0 a → (∀ j oj d, l[j]? = some oj → oj.dst = some d → ∃ v, a.tmps[d]? = some v ∧ R j v w) → Q .normal a w
variable {P l R C G Q a0}
theorem put_same {a : Act} {d : Tmp} {v : Value} (h : d < a.tmps.size) : (a.put (some d) v).tmps[d]? = some v := by
 simp [Act.put, h]
theorem put_other {a : Act} {x : Option Tmp} {d : Tmp} {v : Value} (h : x ≠ some d) : (a.put x v).tmps[d]? = a.tmps[d]? := by
 cases x with
 | none => rfl
 | some e => simp only [Act.put]; exact Array.getElem?_setIfInBounds_ne (fun he => h (by rw [he]))
theorem Same.put {a : Act} {i : Nat} {o : Oper} (hi : l[i]? = some o) (h : Same l a0 a) (v : Value) : Same l a0 (a.put o.dst v) := by
 refine ⟨?_, ?_, fun t ht => ?_⟩
 ·
  rw [← h.size]; cases o.dst <;> simp [Act.put]
 ·
  rw [← h.defers]; cases o.dst <;> rfl
 ·
  rw [put_other (fun hd => by
   have := List.mem_filterMap.2 ⟨o, List.mem_of_getElem? hi, hd⟩
   simp only [List.contains_eq_mem, decide_eq_false_iff_not] at ht
   exact ht this)]
  exact h.base t ht
/-! ### For the walk -/
def markR (ms : List (Value → World → Prop)) (i : Nat) (v : Value) (w : World) : Prop := (ms.getD i fun _ _ => True) v w
def Obs (P : Program) (l : List Oper) (R : Nat → Value → World → Prop) (C : World → Prop) (G : World → World → Prop) (Q : Exit → Act → World → Prop) (a0 : Act) : Nat → List Oper → Prop
 | _, [] => True
 | k, o :: os => Ob P l R C G Q a0 k o ∧ Obs P l R C G Q a0 (k + 1) os
theorem Obs.at : ∀ {os : List Oper} {k : Nat}, Obs P l R C G Q a0 k os → ∀ i o, os[i]? = some o → Ob P l R C G Q a0 (k + i) o := by
 intro os
 induction os with
 | nil => intro k _ i o h; simp at h
 | cons x os ih =>
  intro k h i o hi
  cases i with
  | zero => simp at hi; subst hi; exact h.1
  | succ i => simp at hi; have := ih h.2 i o hi; rw [show k + (i + 1) = k + 1 + i by omega]; exact this
theorem Obs.all (h : Obs P l R C G Q a0 0 l) : ∀ i o, l[i]? = some o → Ob P l R C G Q a0 i o := fun i o hi => by
 have := h.at i o hi
 rwa [Nat.zero_add] at this
theorem Obs.nil {k : Nat} : Obs P l R C G Q a0 k [] := trivial
theorem Obs.cons {k k' : Nat} {o : Oper} {os : List Oper} (hk : k + 1 = k') (h : Ob P l R C G Q a0 k o) (hs : Obs P l R C G Q a0 k' os) : Obs P l R C G Q a0 k (o :: os) := ⟨h, hk ▸ hs⟩
def StableL (G : World → World → Prop) : List (Value → World → Prop) → Prop
 | [] => True
 | f :: fs => (∀ v w w', G w w' → f v w → f v w') ∧ StableL G fs
theorem StableL.all {ms : List (Value → World → Prop)} (h : StableL G ms) : ∀ i v w w', G w w' → markR ms i v w → markR ms i v w' := by
 induction ms with
 | nil => intro i v w w' _ _; simp [markR]
 | cons f fs ih =>
  intro i v w w' hG hm
  cases i with
  | zero => exact h.1 v w w' hG hm
  | succ i => exact ih h.2 i v w w' hG hm
theorem wanted_plain {o : Oper} {y : Nat → Option Bool} (h : o.guard = none) : Region.wanted o y = true := by simp [Region.wanted, h]
end
end Go.Pairs
namespace Go.Pairs
open Go
def come (ld : Nat → Bool) (i : Nat) : Nat → Bool := fun j => if j = i then true else ld j
def waitsB (o : Oper) (j : Nat) : Bool := o.after.any (fun e => Region.binds .any e && e.on == j)
section
variable (P : Program) (l : List Oper) (R : Nat → Value → Prop) (C : (Nat → Bool) → World → Prop) (Q : Exit → Act → World → Prop) (a0 : Act)
def Closed (ld : Nat → Bool) : Prop := ∀ j oj k, l[j]? = some oj → ld j = true → waitsB oj k = true → ld k = true
def ObW (i : Nat) (o : Oper) : Prop :=
 ∀ (ld : Nat → Bool) a w, C ld w → ld i = false → (∀ j, waitsB o j = true → ld j = true) → Closed l ld → Same l a0 a →
  (∀ j oj d, l[j]? = some oj → oj.dst = some d → waitsB o j = true → ∃ v, a.tmps[d]? = some v ∧ R j v) →
  ∀ K : Act → World → Prop, (∀ v w', R i v → C (come ld i) w' → K (a.put o.dst v) w') → if Region.wanted o (yielded l.toArray a.tmps) = true then o.wp P a w K Q else K (a.put o.dst undef) w
structure GoodW : Prop where
 nodup : nodupB (l.filterMap (·.dst)) = true
 on : onB 0 l = true
 inside : insideB a0.tmps.size l = true
 ob : ∀ i o, l[i]? = some o → ObW P l R C Q a0 i o
 last : ∀ ld a w, C ld w → (∀ n, n < l.length → ld n = true) → Same l a0 a → (∀ j oj d, l[j]? = some oj → oj.dst = some d → ∃ v, a.tmps[d]? = some v ∧ R j v) → Q .normal a w
variable {P l R C Q a0}
theorem come_set {listed : Array Bool} {i : Nat} (hi : i < listed.size) : (fun j => (listed.setIfInBounds i true).getD j false) = come (fun j => listed.getD j false) i := by
 funext j
 unfold come
 by_cases h : j = i
 ·
  subst h; simp [hi]
 ·
  rw [if_neg h, getD_set_ne false (fun e => h e.symm)]
theorem waits_mem {o : Oper} {j : Nat} (h : waitsB o j = true) : ∃ e ∈ o.after, Region.binds .any e = true ∧ e.on = j := by
 unfold waitsB at h
 simp only [Array.any_eq_true', Bool.and_eq_true, beq_iff_eq] at h
 obtain ⟨e, he, hb, hj⟩ := h
 exact ⟨e, he, hb, hj⟩
/-! ### For the walk -/
def ObsW (P : Program) (l : List Oper) (R : Nat → Value → Prop) (C : (Nat → Bool) → World → Prop) (Q : Exit → Act → World → Prop) (a0 : Act) : Nat → List Oper → Prop
 | _, [] => True
 | k, o :: os => ObW P l R C Q a0 k o ∧ ObsW P l R C Q a0 (k + 1) os
theorem ObsW.at : ∀ {os : List Oper} {k : Nat}, ObsW P l R C Q a0 k os → ∀ i o, os[i]? = some o → ObW P l R C Q a0 (k + i) o := by
 intro os
 induction os with
 | nil => intro k _ i o h; simp at h
 | cons x os ih =>
  intro k h i o hi
  cases i with
  | zero => simp at hi; subst hi; exact h.1
  | succ i => simp at hi; have := ih h.2 i o hi; rw [show k + (i + 1) = k + 1 + i by omega]; exact this
theorem ObsW.all (h : ObsW P l R C Q a0 0 l) : ∀ i o, l[i]? = some o → ObW P l R C Q a0 i o := fun i o hi => by
 have := h.at i o hi
 rwa [Nat.zero_add] at this
theorem ObsW.nil {k : Nat} : ObsW P l R C Q a0 k [] := trivial
theorem ObsW.cons {k k' : Nat} {o : Oper} {os : List Oper} (hk : k + 1 = k') (h : ObW P l R C Q a0 k o) (hs : ObsW P l R C Q a0 k' os) : ObsW P l R C Q a0 k (o :: os) := ⟨h, hk ▸ hs⟩
end
end Go.Pairs
namespace Go.Pairs
open Go
section
variable (P : Program) (l : List Oper) (C : (Nat → Bool) → Act → World → Prop) (Q : Exit → Act → World → Prop) (a0 : Act)
def ObF (i : Nat) (o : Oper) : Prop :=
 ∀ (ld : Nat → Bool) a w, C ld a w → ld i = false → (∀ j, waitsB o j = true → ld j = true) → Closed l ld → Same l a0 a →
  ∀ K : Act → World → Prop, (∀ v w', C (come ld i) (a.put o.dst v) w' → K (a.put o.dst v) w') → if Region.wanted o (yielded l.toArray a.tmps) = true then o.wp P a w K Q else K (a.put o.dst undef) w
structure GoodF : Prop where
 on : onB 0 l = true
 ob : ∀ i o, l[i]? = some o → ObF P l C Q a0 i o
 last : ∀ ld a w, C ld a w → (∀ n, n < l.length → ld n = true) → Same l a0 a → Q .normal a w
variable {P l C Q a0}
theorem all_listedF (h : GoodF P l C Q a0) {listed : Array Bool} (hs : listed.size = l.length) (hr : Region.ready .any l.toArray listed = []) : ∀ n, n < l.length → listed.getD n false = true := by
 intro n
 induction n using Nat.strongRecOn with
 | ind n ih =>
  intro hn
  rcases hb : listed.getD n false with _ | _
  ·
   have hmem : n ∈ Region.ready .any l.toArray listed := by
    refine mem_ready.2 ⟨?_, l[n], by simp [hn], fun e he hbn => ih e.on ?_ ?_⟩
    ·
     have : n < listed.size := by omega
     simp [this] at hb ⊢; exact hb
    ·
     have := on_at h.on (List.getElem?_eq_getElem hn) e he hbn; omega
    ·
     have := on_at h.on (List.getElem?_eq_getElem hn) e he hbn; omega
   rw [hr] at hmem; cases hmem
  ·
   rfl
theorem wpAny_ofF (h : GoodF P l C Q a0) : ∀ (fuel : Nat) (listed : Array Bool) (a : Act) (w : World), listed.size = l.length → listed.toList.count false ≤ fuel → C (fun j => listed.getD j false) a w → Closed l (fun j => listed.getD j false) → Same l a0 a →
  wpAny P .any l.toArray Q fuel listed a w := by
 intro fuel
 have fin : ∀ (listed : Array Bool) (a : Act) (w : World), listed.size = l.length → C (fun j => listed.getD j false) a w → Same l a0 a → Region.ready .any l.toArray listed = [] → Q .normal a w :=
  fun listed a w hs hC hS hr => h.last _ a w hC (all_listedF h hs hr) hS
 induction fuel with
 | zero =>
  intro listed a w hs hc hC _ hS
  have hr : Region.ready .any l.toArray listed = [] := by
   rw [List.eq_nil_iff_forall_not_mem]
   intro j hj
   have h1 := (mem_ready.1 hj).1
   have hlt : j < listed.size := by
    rcases Nat.lt_or_ge j listed.size with h' | h'
    ·
     exact h'
    ·
     simp [Array.getElem?_eq_none h'] at h1
   have : false ∈ listed.toList := by
    simp [hlt] at h1
    rw [← h1]; simp
   have := List.count_pos_iff.2 this
   omega
  exact ⟨hr, fin listed a w hs hC hS hr⟩
 | succ fuel ih =>
  intro listed a w hs hc hC hcl hS
  refine ⟨fin listed a w hs hC hS, fun i hi => ?_⟩
  obtain ⟨hun, o, ho, hall⟩ := mem_ready.1 hi
  have ho' : l[i]? = some o := by simpa using ho
  have hlt : i < listed.size := by
   rcases Nat.lt_or_ge i listed.size with h' | h'
   ·
    exact h'
   ·
    simp [Array.getElem?_eq_none h'] at hun
  have hw : ∀ j, waitsB o j = true → listed.getD j false = true := fun j hj => by
   obtain ⟨e, he, hb, rfl⟩ := waits_mem hj
   exact hall e he hb
  have hif : listed.getD i false = false := by simp [hlt] at hun ⊢; exact hun
  have hob := h.ob i o ho' (fun j => listed.getD j false) a w hC hif hw hcl hS
  refine wpOp_step ho fun K' hK => ?_
  refine hob K' fun v w' hC' => hK _ _ ?_
  refine ih _ _ _ (by simpa using hs) ?_ (by rw [come_set hlt]; exact hC') ?_ (hS.put ho' v)
  ·
   have hl : i < listed.toList.length := by simpa using hlt
   have hf : listed.toList[i] = false := by simp [hlt] at hun; simpa using hun
   rw [Array.toList_setIfInBounds, List.count_set hl]
   have hp : 0 < listed.toList.count false := List.count_pos_iff.2 (hf ▸ List.getElem_mem hl)
   simp [hf]
   simp at hp hc
   omega
  ·
   rw [come_set hlt]
   intro j oj k hj hlj hk
   unfold come at hlj ⊢
   by_cases hki : k = i
   ·
    rw [if_pos hki]
   ·
    rw [if_neg hki]
    by_cases hji : j = i
    ·
     subst hji
     obtain rfl : o = oj := by rw [ho'] at hj; exact Option.some.inj hj
     exact hw k hk
    ·
     rw [if_neg hji] at hlj
     exact hcl j oj k hj hlj hk
theorem wp_region_frame {id : Nat} {w : World} (hm : P.follows .mixedOrders = true) (hC : C (fun _ => false) a0 w.drew) (h : GoodF P l C Q a0) : (Code.region id l.toArray true).wp P Q a0 w := by
 refine wp_region_any hm ?_
 have e0 : (fun j => (Array.replicate l.toArray.size false).getD j false) = fun _ => false := by
  funext j
  by_cases hj : j < l.length
  ·
   simp [hj]
  ·
   simp [hj]
 exact wpAny_ofF h _ _ _ _ (by simp) (by simp) (by rw [e0]; exact hC) (by rw [e0]; intro j oj k _ hl _; cases hl) ⟨rfl, rfl, fun _ _ => rfl⟩
def ObsF (P : Program) (l : List Oper) (C : (Nat → Bool) → Act → World → Prop) (Q : Exit → Act → World → Prop) (a0 : Act) : Nat → List Oper → Prop
 | _, [] => True
 | k, o :: os => ObF P l C Q a0 k o ∧ ObsF P l C Q a0 (k + 1) os
theorem ObsF.at : ∀ {os : List Oper} {k : Nat}, ObsF P l C Q a0 k os → ∀ i o, os[i]? = some o → ObF P l C Q a0 (k + i) o := by
 intro os
 induction os with
 | nil => intro k _ i o h; simp at h
 | cons x os ih =>
  intro k h i o hi
  cases i with
  | zero => simp at hi; subst hi; exact h.1
  | succ i => simp at hi; have := ih h.2 i o hi; rw [show k + (i + 1) = k + 1 + i by omega]; exact this
theorem ObsF.all (h : ObsF P l C Q a0 0 l) : ∀ i o, l[i]? = some o → ObF P l C Q a0 i o := fun i o hi => by
 have := h.at i o hi
 rwa [Nat.zero_add] at this
theorem ObsF.nil {k : Nat} : ObsF P l C Q a0 k [] := trivial
theorem ObsF.cons {k k' : Nat} {o : Oper} {os : List Oper} (hk : k + 1 = k') (h : ObF P l C Q a0 k o) (hs : ObsF P l C Q a0 k' os) : ObsF P l C Q a0 k (o :: os) := ⟨h, hk ▸ hs⟩
end
end Go.Pairs
namespace Go.Pairs
open Go
section
variable (P : Program) (l : List Oper) (R : Nat → Value → World → Prop) (till : Nat → Option Nat) (D : World → Prop) (G : Nat → World → World → Prop) (Q : Exit → Act → World → Prop) (a0 : Act)
def CT (ld : Nat → Bool) (a : Act) (w : World) : Prop :=
 D w ∧ Same l a0 a ∧ ∀ j oj d, l[j]? = some oj → oj.dst = some d → ld j = true → (∀ t, till j = some t → ld t = false) → ∃ v, a.tmps[d]? = some v ∧ R j v w
def liveB (till : Nat → Option Nat) (l : List Oper) (i j : Nat) : Bool :=
 match till j with
 | none => true
 | some t => t == i || (match l[t]? with | some ot => waitsB ot i | none => false)
def ObT (i : Nat) (o : Oper) : Prop :=
 ∀ a w, D w → Same l a0 a → (∀ j oj d, l[j]? = some oj → oj.dst = some d → waitsB o j = true → liveB till l i j = true → ∃ v, a.tmps[d]? = some v ∧ R j v w) →
  ∀ K : Act → World → Prop, (∀ v w', G i w w' → R i v w' → K (a.put o.dst v) w') → if Region.wanted o (yielded l.toArray a.tmps) = true then o.wp P a w K Q else K (a.put o.dst undef) w
structure GoodT : Prop where
 nodup : nodupB (l.filterMap (·.dst)) = true
 on : onB 0 l = true
 inside : insideB a0.tmps.size l = true
 keep : ∀ i w w', D w → G i w w' → D w'
 stable : ∀ i j, i ≠ j → till j ≠ some i → ∀ v w w', G i w w' → R j v w → R j v w'
 ob : ∀ i o, l[i]? = some o → ObT P l R till D G Q a0 i o
 last : ∀ a w, D w → Same l a0 a → (∀ j oj d, l[j]? = some oj → oj.dst = some d → till j = none → ∃ v, a.tmps[d]? = some v ∧ R j v w) → Q .normal a w
variable {P l R till D G Q a0}
theorem live_at {i j : Nat} (h : liveB till l i j = true) : ∀ t, till j = some t → t = i ∨ ∃ ot, l[t]? = some ot ∧ waitsB ot i = true := by
 intro t ht
 unfold liveB at h
 rw [ht] at h
 simp only [Bool.or_eq_true, beq_iff_eq] at h
 rcases h with h | h
 ·
  exact Or.inl h
 ·
  cases hlt : l[t]? with
  | none => rw [hlt] at h; cases h
  | some ot => rw [hlt] at h; exact Or.inr ⟨ot, rfl, h⟩
theorem GoodT.goodF (h : GoodT P l R till D G Q a0) : GoodF P l (CT l R till D a0) Q a0 where
 on := h.on
 ob := fun i o ho ld a w hC hif hw hcl hS K hK => by
  refine h.ob i o ho a w hC.1 hC.2.1 (fun j oj d hj hd hwj hlv => ?_) K fun v w' hG hRv => hK _ _ ⟨h.keep _ _ _ hC.1 hG, hS.put ho v, ?_⟩
  ·
   refine hC.2.2 j oj d hj hd (hw j hwj) fun t ht => ?_
   rcases live_at hlv t ht with e | ⟨ot, e1, e2⟩
   ·
    subst e; exact hif
   ·
    rcases hb : ld t with _ | _
    ·
     rfl
    ·
     have := hcl t ot i e1 hb e2
     rw [hif] at this; cases this
  ·
   intro j oj d hj hd hl htl
   unfold come at hl htl
   by_cases hij : j = i
   ·
    subst hij
    obtain rfl : o = oj := by rw [ho] at hj; exact Option.some.inj hj
    rw [hd, put_same (by rw [hS.size]; exact inside_at h.inside hj hd)]
    exact ⟨_, rfl, hRv⟩
   ·
    rw [if_neg hij] at hl
    rw [put_other (fun he => hij (nodup_at h.nodup ho hj he hd).symm)]
    obtain ⟨v', h1, h2⟩ := hC.2.2 j oj d hj hd hl fun t ht => by
     have := htl t ht
     by_cases hti : t = i
     ·
      rw [if_pos hti] at this; cases this
     ·
      rwa [if_neg hti] at this
    refine ⟨v', h1, h.stable i j (fun e => hij e.symm) (fun e => ?_) _ _ _ hG h2⟩
    have := htl i e
    rw [if_pos rfl] at this; cases this
 last := fun ld a w hC hall hS => h.last a w hC.1 hS fun j oj d hj hd htl =>
  hC.2.2 j oj d hj hd (hall j (List.getElem?_eq_some_iff.1 hj).1) fun t ht => by rw [htl] at ht; cases ht
theorem wp_region_till {id : Nat} {w : World} (hm : P.follows .mixedOrders = true) (hD : D w.drew) (h : GoodT P l R till D G Q a0) : (Code.region id l.toArray true).wp P Q a0 w :=
 wp_region_frame (C := CT l R till D a0) hm ⟨hD, ⟨rfl, rfl, fun _ _ => rfl⟩, fun _ _ _ _ _ hl => by cases hl⟩ h.goodF
def ObsT (P : Program) (l : List Oper) (R : Nat → Value → World → Prop) (till : Nat → Option Nat) (D : World → Prop) (G : Nat → World → World → Prop) (Q : Exit → Act → World → Prop) (a0 : Act) : Nat → List Oper → Prop
 | _, [] => True
 | k, o :: os => ObT P l R till D G Q a0 k o ∧ ObsT P l R till D G Q a0 (k + 1) os
theorem ObsT.at : ∀ {os : List Oper} {k : Nat}, ObsT P l R till D G Q a0 k os → ∀ i o, os[i]? = some o → ObT P l R till D G Q a0 (k + i) o := by
 intro os
 induction os with
 | nil => intro k _ i o h; simp at h
 | cons x os ih =>
  intro k h i o hi
  cases i with
  | zero => simp at hi; subst hi; exact h.1
  | succ i => simp at hi; have := ih h.2 i o hi; rw [show k + (i + 1) = k + 1 + i by omega]; exact this
theorem ObsT.all (h : ObsT P l R till D G Q a0 0 l) : ∀ i o, l[i]? = some o → ObT P l R till D G Q a0 i o := fun i o hi => by
 have := h.at i o hi
 rwa [Nat.zero_add] at this
theorem ObsT.nil {k : Nat} : ObsT P l R till D G Q a0 k [] := trivial
theorem ObsT.cons {k k' : Nat} {o : Oper} {os : List Oper} (hk : k + 1 = k') (h : ObT P l R till D G Q a0 k o) (hs : ObsT P l R till D G Q a0 k' os) : ObsT P l R till D G Q a0 k (o :: os) := ⟨h, hk ▸ hs⟩
end
theorem shape_ds (x : Nat → Value) : ∀ (ds : List Nat) (b : Act) (tm : Array Value), b.tmps.size = tm.size → (∀ i, i < tm.size → tm[i]? = some (x i)) → (∀ i, ds.contains i = false → tm[i]? = b.tmps[i]?) →
  (ds.foldl (fun b d => b.put (some d) (x d)) b).tmps = tm ∧ (ds.foldl (fun b d => b.put (some d) (x d)) b).defers = b.defers := by
 intro ds
 induction ds with
 | nil => intro b tm hs hx h; exact ⟨Array.ext_getElem? (fun i => (h i rfl).symm), rfl⟩
 | cons d ds ih =>
  intro b tm hs hx h
  have := ih (b.put (some d) (x d)) tm (by simpa [Act.put] using hs) hx (fun i hi => by
   by_cases e : i = d
   ·
    subst e
    by_cases hlt : i < tm.size
    ·
     rw [put_same (a := b) (by rw [hs]; exact hlt)]; exact hx i hlt
    ·
     rw [Array.getElem?_eq_none (by omega), Array.getElem?_eq_none (by simp [Act.put]; omega)]
   ·
    rw [put_other (by simpa using fun e' => e e'.symm)]
    exact h i (by simpa [e] using hi))
  exact ⟨this.1, this.2⟩
theorem Same_shape {l : List Oper} {a0 a : Act} (h : Same l a0 a) : a = (l.filterMap (·.dst)).foldl (fun b d => b.put (some d) (a.tmps.getD d undef)) a0 := by
 obtain ⟨h1, h2⟩ := shape_ds (fun d => a.tmps.getD d undef) (l.filterMap (·.dst)) a0 a.tmps h.size.symm (fun i hi => by simp [hi]) h.base
 obtain ⟨tm, df⟩ := a
 have := h.defers
 generalize List.foldl _ _ _ = z at *
 obtain ⟨zt, zd⟩ := z
 dsimp only at h1 h2 this ⊢
 subst h1; subst h2; rw [this]
end Go.Pairs
