/- Joined: Qt. -/
import Derived.Test.YtlelpeocbgjmhaaGreatDoorCa01
import Derived.StillTail
import Derived.Lib.QuietBelow
/- Regions that draw: first what reads and calls, in any order; then a few operations, one behind the other. -/
set_option linter.unusedVariables false
set_option linter.unusedSimpArgs false
namespace Go.Proofs.YtlelpeocbgjmhaaGreatDoor
open Go Go.RowKit Go.Sort
section
variable {P : Program} {ops : Array Oper} {md : Region.Mode} {C : World → Prop}

/-- Whatever order is drawn, of operations below n, till f of them came. -/
def qtAny (P : Program) (md : Region.Mode) (ops : Array Oper) (C : World → Prop) (n : Nat) (L : Array Bool → Act → Prop) : Nat → Array Bool → Act → Prop
  | 0, ld, a => L ld a
  | f + 1, ld, a => Region.ready md ops ld ≠ [] ∧ ∀ i ∈ Region.ready md ops ld, i < n ∧ qOp P ops C i (qtAny P md ops C n L f (ld.setIfInBounds i true)) a

theorem qt_all {n g : Nat} {L : Array Bool → Act → Prop} {Q : Exit → Act → World → Prop} (hL : ∀ ld a w, C w → L ld a → wpAny P md ops Q g ld a w) :
    ∀ (f : Nat) (ld : Array Bool) (a : Act) (w : World), C w → qtAny P md ops C n L f ld a → wpAny P md ops Q (f + g) ld a w := by
  intro f
  induction f with
  | zero => intro ld a w hw h; rw [Nat.zero_add]; exact hL _ _ _ hw h
  | succ f ih =>
    intro ld a w hw h
    rw [Nat.succ_add]
    exact ⟨fun e => absurd e h.1, fun i hi => wpOp_of_qOp hw (fun a' w' hw' => ih _ a' w' hw') (h.2 i hi).2⟩

theorem qt_first {n i : Nat} {oi : Oper} {v : Value} {L : Array Bool → Act → Prop} (hi : ops[i]? = some oi) (hsel : ∀ (j : Nat) (o : Oper) cs b, ops[j]? = some o → o.op ≠ .select cs b)
    (hs : Region.sinkB md ops n = true) (hc : Region.chainB md ops n = true) (hn : n < ops.size) (hin : i < n)
    (hdone : ∀ ld a, L ld a → ∀ j ∈ Region.ready md ops ld, n ≤ j) :
    ∀ (f : Nat) (ld : Array Bool) (a : Act), HeadInv md ops n ld →
      (∀ j oj, ops[j]? = some oj → j ≠ i → ld.getD j true = false → (∀ e ∈ oj.after, Region.binds md e = true → e.on ≠ i) → oi.apart ops oj = true) →
      i ∈ Region.ready md ops ld → YieldsIn P ops C oi v a →
      qtAny P md ops C n L f (ld.setIfInBounds i true) (a.put oi.dst v) → qtAny P md ops C n L (f + 1) ld a := by
  intro f
  induction f with
  | zero =>
    intro ld a inv _ hr hy H
    refine ⟨fun e => (by rw [e] at hr; cases hr), fun j hj => ?_⟩
    have hjn : j < n := Nat.lt_of_not_le fun h => tail_waits hs hc hn inv _ i rfl hin (mem_ready.1 hr).1 j h hj
    by_cases e : j = i
    · subst e; exact ⟨hjn, hy.qOp hi H⟩
    · have := hdone _ _ H j (ready_mono hj e)
      omega
  | succ f ih =>
    intro ld a inv hfree hr hy H
    refine ⟨fun e => (by rw [e] at hr; cases hr), fun j hj => ?_⟩
    have hun := (mem_ready.1 hr).1
    have hjn : j < n := Nat.lt_of_not_le fun h => tail_waits hs hc hn inv _ i rfl hin hun j h hj
    refine ⟨hjn, ?_⟩
    by_cases e : j = i
    · subst e; exact hy.qOp hi H
    · have h1 := (H.2 j (ready_mono hj e)).2
      obtain ⟨hjun, oj, hoj, hall⟩ := mem_ready.1 hj
      have hnot : ∀ x ∈ oj.after, Region.binds md x = true → x.on ≠ i := fun x hx hb hq => by
        have h3 := hall x hx hb
        rw [hq, getD_both hun] at h3
        cases h3
      refine qOp_mono (fun a' h3 => ih (ld.setIfInBounds j true) a' (inv.set hj hjn) (fun k ok hk hki hu hno => ?_) (ready_mono hr (Ne.symm e)) h3.1 (by rw [Array.setIfInBounds_comm _ _ e]; exact h3.2)) (qOp_put hoj (hfree j oj hoj e hjun hnot) (fun cs b => hsel i oi cs b hi) (fun cs b => hsel j oj cs b hoj) hy h1)
      refine hfree k ok hk hki ?_ hno
      by_cases hjk : j = k
      · subst hjk; exact hjun
      · rw [getD_set_ne true hjk] at hu; exact hu

theorem qt_lex {n g : Nat} {R : Act → Prop} (hsel : Region.noSelect ops = true) (hs : Region.sinkB md ops n = true) (hc : Region.chainB md ops n = true) (hn : n < ops.size) :
    ∀ (l : List Oper) (k : Nat) (ld : Array Bool) (a : Act), (∀ j, j < l.length → l[j]? = ops[k + j]?) → k + l.length = n → HeadInv md ops n ld →
    Region.lexHead md ops g l.length k ld = true → wpQuiet P ops C R l a →
    qtAny P md ops C n (fun ld' a' => Region.seqB md ops g n ld' = true ∧ R a') l.length ld a := by
  intro l
  induction l with
  | nil =>
    intro k ld a _ hk inv hB h
    obtain rfl : k = n := by simpa using hk
    exact ⟨by simpa [Region.lexHead] using hB, h⟩
  | cons o l ih =>
    intro k ld a hl hk inv hB h
    have h0 : ops[k]? = some o := by simpa using (hl 0 (by simp)).symm
    simp only [List.length_cons, Region.lexHead, Bool.and_eq_true] at hB
    obtain ⟨⟨hr, hf⟩, hB'⟩ := hB
    have hkn : k < n := by simp only [List.length_cons] at hk; omega
    have hr' : k ∈ Region.ready md ops ld := by simpa using hr
    obtain ⟨v, hy, hK⟩ := yieldsIn_of_qOp (K := wpQuiet P ops C R l) h0 (by unfold qOp; simp only [h0]; exact h)
    refine qt_first h0 (Region.noSelect_spec hsel) hs hc hn hkn (fun ld' a' hL => seqB_ready hL.1) l.length ld a inv (Region.free_spec h0 hf) hr' hy ?_
    exact ih (k + 1) _ _ (fun j hj => by have := hl (j + 1) (by simp; omega); simpa [Nat.add_assoc, Nat.add_comm 1 j] using this) (by simp only [List.length_cons] at hk; omega) (inv.set hr' hkn) hB' hK

theorem wp_region_qtail {id : Nat} {Q : Exit → Act → World → Prop} {a : Act} {w : World} {l : List Oper} (n : Nat) (hm : P.follows .mixedOrders = true) (hB : Region.lexTailB .any l.toArray n = true)
    (hC : C { w with drawn := w.drawn + 1 })
    (h : wpQuiet P l.toArray C (fun a' => ∀ w', C w' → wpList P l.toArray Q (l.drop n) a' w') (l.take n) a) : (Code.region id l.toArray true).wp P Q a w := by
  simp only [Region.lexTailB, Bool.and_eq_true, decide_eq_true_eq] at hB
  obtain ⟨⟨⟨⟨hsel, hn⟩, hs⟩, hc⟩, hlex⟩ := hB
  have hn' : n < l.length := by simpa using hn
  have htl : (l.take n).length = n := by simp; omega
  have hdl : (l.drop n).length = l.toArray.size - n := by simp
  have inv0 : HeadInv .any l.toArray n (Array.replicate l.toArray.size false) :=
    ⟨by simp, fun j oj _ hl => (by rw [getD_replicate_false] at hl; cases hl), fun t _ ht => getD_in (by simpa using ht) (getD_replicate_false _ _)⟩
  have H := qt_lex (md := .any) (g := l.toArray.size - n) hsel hs hc hn (l.take n) 0 _ a (fun j hj => by
    rw [htl] at hj
    simp [hj]) (by simpa using htl) inv0 (by rw [htl]; exact hlex) h
  refine wp_region_any hm ?_
  have H2 := qt_all (Q := Q) (g := l.toArray.size - n) (fun ld a' w' hw hL => by
    have := wpAny_of_seq (md := .any) (Q' := Q) (l.drop n) n ld a' w' (fun j => by simp [List.getElem?_drop]) (by rw [hdl]; exact hL.1) (hL.2 w' hw)
    rwa [hdl] at this) _ _ _ _ hC H
  rw [htl, show n + (l.toArray.size - n) = l.toArray.size by omega] at H2
  exact H2
theorem qt_mono {R R' : Act → Prop} (h : ∀ a, R a → R' a) : ∀ (l : List Oper) (a : Act), wpQuiet P ops C R l a → wpQuiet P ops C R' l a := by
  intro l
  induction l with
  | nil => exact fun a => h a
  | cons o l ih =>
    intro a hh
    unfold wpQuiet at hh ⊢
    split
    · rename_i hw; rw [if_pos hw] at hh; exact Oper.quiet_mono ih hh
    · rename_i hw; rw [if_neg hw] at hh; exact ih _ hh
/-- At the class of the worlds of which nothing old has turned. -/
theorem wp_region_qbt {id : Nat} {Q : Exit → Act → World → Prop} {a : Act} {w W : World} {l : List Oper} (n : Nat) (hm : P.follows .mixedOrders = true) (hB : Region.lexTailB .any l.toArray n = true) (hb : Below w.heap.size w W)
    (h : wpQuiet P l.toArray (fun w' => ∃ p : Regrown, w' = grow (redrawn w p.d) p.os) (fun a' => ∀ w', Below w.heap.size w w' → wpList P l.toArray Q (l.drop n) a' w') (l.take n) a) : (Code.region id l.toArray true).wp P Q a W := by
  refine wp_region_qtail (C := fun w' => ∃ p : Regrown, w' = grow (redrawn w p.d) p.os) n hm hB (regrown_of_below hb.drew) ?_
  refine qt_mono (fun a' h w' hw => ?_) _ _ h
  obtain ⟨p, rfl⟩ := hw
  exact h _ (below_regrown _ _ _)

/-! A region that draws, one of whose calls panics: all that does not wait for it reads and calls. -/

/-- A call that ends in a panic, in every world of the class. -/
def PanAt (P : Program) (C : World → Prop) (ch : List PanicEntry) (w : World) : Result Next → Prop
  | .ok (.enter f args) w' => w' = w ∧ Calls P f args w (fun e w'' => e = .panicked ch ∧ C w'')
  | _ => False
def PanicsIn (P : Program) (ops : Array Oper) (C : World → Prop) (ch : List PanicEntry) (o : Oper) (a : Act) : Prop :=
  Region.wanted o (yielded ops a.tmps) = true ∧ ∀ w, C w → PanAt P C ch w ((execOp a.eval o).run P w)
theorem PanicsIn.of_put {oi oj : Oper} {v : Value} {ch : List PanicEntry} {a : Act} (hap : oi.apart ops oj = true) (hsj : ∀ cs b, oj.op ≠ .select cs b) (h : PanicsIn P ops C ch oj (a.put oi.dst v)) : PanicsIn P ops C ch oj a := by
  obtain ⟨h1, h2, h3⟩ := Oper.apart_spec hap
  obtain ⟨hw, hp⟩ := h
  refine ⟨by rwa [wanted_put oj a oi.dst v h1] at hw, fun w hC => ?_⟩
  have := hp w hC
  rwa [execOp_put oj hsj a oi.dst v h1] at this
theorem PanicsIn.wp {o : Oper} {ch : List PanicEntry} {a : Act} {K : Act → World → Prop} {Q : Exit → Act → World → Prop} {w : World} (hC : C w) (hQ : ∀ w, C w → Q (.panic ch) a w) (h : PanicsIn P ops C ch o a) : o.wp P a w K Q := by
  have h3 := h.2 w hC
  unfold Oper.wp
  generalize (execOp a.eval o).run P w = r at *
  cases r with
  | ok n w' =>
    cases n <;> simp only [PanAt] at h3
    case enter f args =>
      obtain ⟨e1, hc⟩ := h3
      rw [e1]
      exact hc.mono fun e w'' ⟨he, hw''⟩ => by subst he; exact hQ _ hw''
  | halt x w' => simp only [PanAt] at h3

theorem put_defers (a : Act) (d : Option Nat) (v : Value) : (a.put d v).defers = a.defers := by cases d <;> rfl
def qpAny (P : Program) (md : Region.Mode) (ops : Array Oper) (C : World → Prop) (ch : List PanicEntry) (D : List Deferred) (p : Nat) (op : Oper) : Nat → Array Bool → Act → Prop
  | 0, _, _ => False
  | f + 1, ld, a => a.defers = D ∧ Region.ready md ops ld ≠ [] ∧ ∀ i ∈ Region.ready md ops ld, (i = p ∧ PanicsIn P ops C ch op a) ∨ (i ≠ p ∧ qOp P ops C i (qpAny P md ops C ch D p op f (ld.setIfInBounds i true)) a)
theorem qp_all {p : Nat} {op : Oper} {ch : List PanicEntry} {D : List Deferred} {Q : Exit → Act → World → Prop} (hp : ops[p]? = some op) (hQ : ∀ a w, a.defers = D → C w → Q (.panic ch) a w) :
    ∀ (f : Nat) (ld : Array Bool) (a : Act) (w : World), C w → qpAny P md ops C ch D p op f ld a → wpAny P md ops Q f ld a w := by
  intro f
  induction f with
  | zero => intro ld a w hw h; exact absurd h id
  | succ f ih =>
    intro ld a w hw h
    obtain ⟨hd, hne, h⟩ := h
    refine ⟨fun e => absurd e hne, fun i hi => ?_⟩
    rcases h i hi with ⟨rfl, h1⟩ | ⟨_, h1⟩
    · unfold wpOp
      simp only [hp, h1.1, if_true]
      exact .inl (h1.wp hw fun w hc => hQ _ _ hd hc)
    · exact wpOp_of_qOp hw (fun a' w' hw' => ih _ a' w' hw') h1
theorem qp_first {p i : Nat} {op oi : Oper} {v : Value} {ch : List PanicEntry} {D : List Deferred} (hp : ops[p]? = some op) (hi : ops[i]? = some oi) (hip : i ≠ p) (hsel : ∀ (j : Nat) (o : Oper) cs b, ops[j]? = some o → o.op ≠ .select cs b) :
    ∀ (f : Nat) (ld : Array Bool) (a : Act),
      (∀ j oj, ops[j]? = some oj → j ≠ i → ld.getD j true = false → (∀ e ∈ oj.after, Region.binds md e = true → e.on ≠ i) → oi.apart ops oj = true) →
      i ∈ Region.ready md ops ld → YieldsIn P ops C oi v a →
      qpAny P md ops C ch D p op f (ld.setIfInBounds i true) (a.put oi.dst v) → qpAny P md ops C ch D p op (f + 1) ld a := by
  intro f
  induction f with
  | zero => intro ld a _ _ _ H; exact absurd H id
  | succ f ih =>
    intro ld a hfree hr hy H
    have hun := (mem_ready.1 hr).1
    have hd : a.defers = D := by rw [← put_defers a oi.dst v]; exact H.1
    refine ⟨hd, fun e => (by rw [e] at hr; cases hr), fun j hj => ?_⟩
    by_cases e : j = i
    · subst e; exact .inr ⟨hip, hy.qOp hi H⟩
    · obtain ⟨hjun, oj, hoj, hall⟩ := mem_ready.1 hj
      have hnot : ∀ x ∈ oj.after, Region.binds md x = true → x.on ≠ i := fun x hx hb hq => by
        have h3 := hall x hx hb
        rw [hq, getD_both hun] at h3
        cases h3
      have hap := hfree j oj hoj e hjun hnot
      rcases H.2.2 j (ready_mono hj e) with ⟨rfl, h1⟩ | ⟨hjp, h1⟩
      · obtain rfl : oj = op := Option.some.inj (hoj.symm.trans hp)
        exact .inl ⟨rfl, h1.of_put hap (fun cs b => hsel _ oj cs b hoj)⟩
      · refine .inr ⟨hjp, qOp_mono (fun a' h3 => ih (ld.setIfInBounds j true) a' (fun k ok hk hki hu hno => ?_) (ready_mono hr (Ne.symm e)) h3.1 (by rw [Array.setIfInBounds_comm _ _ e]; exact h3.2)) (qOp_put hoj hap (fun cs b => hsel i oi cs b hi) (fun cs b => hsel j oj cs b hoj) hy h1)⟩
        refine hfree k ok hk hki ?_ hno
        by_cases hjk : j = k
        · subst hjk; exact hjun
        · rw [getD_set_ne true hjk] at hu; exact hu
/-- The operations 'is', one behind the other, may each be taken; then p alone is left. -/
def qpB (md : Region.Mode) (ops : Array Oper) (p : Nat) : List Nat → Array Bool → Bool
  | [], ld => decide (Region.ready md ops ld = [p])
  | i :: is, ld => decide (i ≠ p) && (Region.ready md ops ld).contains i && Region.free md ops ld i && qpB md ops p is (ld.setIfInBounds i true)
theorem qp_walk {p : Nat} {op : Oper} {ch : List PanicEntry} {D : List Deferred} (hp : ops[p]? = some op) (hsel : Region.noSelect ops = true) :
    ∀ (is : List Nat) (g : Nat) (ld : Array Bool) (a : Act), a.defers = D → qpB md ops p is ld = true → wpQuiet P ops C (PanicsIn P ops C ch op) (is.filterMap (ops[·]?)) a → qpAny P md ops C ch D p op (is.length + 1 + g) ld a := by
  intro is
  induction is with
  | nil =>
    intro g ld a hd hB h
    have hr : Region.ready md ops ld = [p] := by simpa [qpB] using hB
    rw [show ([] : List Nat).length + 1 + g = g + 1 by simp; omega]
    refine ⟨hd, by rw [hr]; simp, fun i hi => .inl ?_⟩
    rw [hr] at hi
    exact ⟨by simpa using hi, h⟩
  | cons i is ih =>
    intro g ld a hd hB h
    simp only [qpB, Bool.and_eq_true, decide_eq_true_eq] at hB
    obtain ⟨⟨⟨hip, hr⟩, hf⟩, hB'⟩ := hB
    have hr' : i ∈ Region.ready md ops ld := by simpa using hr
    obtain ⟨_, oi, hoi, _⟩ := mem_ready.1 hr'
    have h' : wpQuiet P ops C (PanicsIn P ops C ch op) (oi :: is.filterMap (ops[·]?)) a := by simpa [List.filterMap_cons, hoi] using h
    obtain ⟨v, hy, hK⟩ := yieldsIn_of_qOp (K := wpQuiet P ops C (PanicsIn P ops C ch op) (is.filterMap (ops[·]?))) hoi (by unfold qOp; simp only [hoi]; exact h')
    rw [show (i :: is).length + 1 + g = (is.length + 1 + g) + 1 by simp; omega]
    exact qp_first hp hoi hip (Region.noSelect_spec hsel) _ ld a (Region.free_spec hoi hf) hr' hy (ih g _ _ (by rw [put_defers]; exact hd) hB' hK)
theorem wp_region_qpanic {id : Nat} {Q : Exit → Act → World → Prop} {a : Act} {w W : World} {l : List Oper} (p : Nat) (is : List Nat) {op : Oper} {ch : List PanicEntry} (hm : P.follows .mixedOrders = true) (hp : l.toArray[p]? = some op)
    (hB : (Region.noSelect l.toArray && decide (is.length < l.toArray.size) && qpB .any l.toArray p is (Array.replicate l.toArray.size false)) = true) (hb : Below w.heap.size w W)
    (hQ : ∀ a' w', a'.defers = a.defers → Below w.heap.size w w' → Q (.panic ch) a' w')
    (h : wpQuiet P l.toArray (fun w' => ∃ p : Regrown, w' = grow (redrawn w p.d) p.os) (PanicsIn P l.toArray (fun w' => ∃ p : Regrown, w' = grow (redrawn w p.d) p.os) ch op) (is.filterMap (l.toArray[·]?)) a) : (Code.region id l.toArray true).wp P Q a W := by
  simp only [Bool.and_eq_true, decide_eq_true_eq] at hB
  obtain ⟨⟨hs, hn⟩, hB⟩ := hB
  refine wp_region_any hm ?_
  have H := qp_walk (md := .any) (g := l.toArray.size - (is.length + 1)) hp hs is _ a rfl hB h
  rw [show is.length + 1 + (l.toArray.size - (is.length + 1)) = l.toArray.size by omega] at H
  exact qp_all hp (fun a w' hd hw' => by obtain ⟨p, rfl⟩ := hw'; exact hQ _ _ hd (below_regrown _ _ _)) _ _ _ _ (regrown_of_below hb.drew) H
/-- A callee's contract that ends in a panic, met in a world of the class. -/
theorem panicked_regrown {f : FuncId} {args : Array Value} {w : World} {d : Nat} {os : Array Obj} {ch : List PanicEntry}
    (h : Calls P f args (grow (redrawn w d) os) fun e w' => e = .panicked ch ∧ Below (grow (redrawn w d) os).heap.size (grow (redrawn w d) os) w') : Calls P f args (grow (redrawn w d) os) fun e w'' => e = .panicked ch ∧ ∃ p : Regrown, w'' = grow (redrawn w p.d) p.os :=
  h.mono fun _ _ ⟨he, hb⟩ => ⟨he, regrown_of_below (below_step (below_regrown w d os) hb)⟩
end
end Go.Proofs.YtlelpeocbgjmhaaGreatDoor
