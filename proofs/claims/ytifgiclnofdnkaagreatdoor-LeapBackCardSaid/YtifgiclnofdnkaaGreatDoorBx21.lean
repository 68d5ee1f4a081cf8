/- Joined: LpG, Pair, PairW. -/
import Derived.Test.YtifgiclnofdnkaaGreatDoorBx20
import Derived.Test.YtifgiclnofdnkaaGreatDoorBx03
import Derived.Maps.OwnSet
import Derived.Maps.StringElems
import Derived.Maps.RangeWalk
import Derived.StringKeys
import Derived.Carry
import Derived.RegionTactic
import Derived.Deep.Draws
import Derived.Below
set_option linter.unusedVariables false
set_option linter.unusedSimpArgs false
namespace Go.Proofs.YtifgiclnofdnkaaGreatDoor
open Go.RowKit Go.Sort
namespace Lp
def D0 : DataW Unit := .map []
def D1 : DataW Unit := D0.put (.string [43]) (.lit (.int .i64 1))
def D2 : DataW Unit := D1.put (.string [45]) (.lit (.int .i64 (-1)))
theorem d0_map : Maps.IsMap D0 := ⟨[], rfl⟩
theorem d1_tidy : Maps.Tidy D1 := Maps.Tidy.put (⟨[], rfl, List.Pairwise.nil⟩ : Maps.Tidy D0) (show WideAt.IsKeyLit (Lit.string [43]) from trivial) _
theorem d2_at (x : List UInt8) (z : DataW Unit) : D2.atKey (.string x) z = if x = [45] then .lit (.int .i64 (-1)) else if x = [43] then .lit (.int .i64 1) else z := by
 by_cases h : x = [45]
 ·
  subst h; rw [if_pos rfl]; exact Maps.atKey_put_same d1_tidy.isMap (show WideAt.IsKeyLit (Lit.string [45]) from trivial) _ _
 ·
  rw [if_neg h]
  show (D1.put _ _).atKey _ _ = _
  rw [Maps.atKey_put_other (fun e => h (Lit.string.inj e))]
  by_cases h2 : x = [43]
  ·
   subst h2; rw [if_pos rfl]; exact Maps.atKey_put_same d0_map (show WideAt.IsKeyLit (Lit.string [43]) from trivial) _ _
  ·
   rw [if_neg h2]
   show (D0.put _ _).atKey _ _ = _
   rw [Maps.atKey_put_other (fun e => h2 (Lit.string.inj e))]
   rfl
theorem d2_has (x : List UInt8) : Maps.has D2 (.string x) = (decide (x = [45]) || decide (x = [43])) := by
 by_cases h : x = [45]
 ·
  subst h; rw [decide_eq_true rfl, Bool.true_or]; exact Maps.has_put_same d1_tidy.isMap (show WideAt.IsKeyLit (Lit.string [45]) from trivial) _
 ·
  rw [decide_eq_false h, Bool.false_or]
  show Maps.has (D1.put _ _) _ = _
  rw [Maps.has_put_other (fun e => h (Lit.string.inj e))]
  by_cases h2 : x = [43]
  ·
   subst h2; rw [decide_eq_true rfl]; exact Maps.has_put_same d0_map (show WideAt.IsKeyLit (Lit.string [43]) from trivial) _
  ·
   rw [decide_eq_false h2]
   show Maps.has (D0.put _ _) _ = _
   rw [Maps.has_put_other (fun e => h2 (Lit.string.inj e))]
   rfl
theorem d2_one {x : List UInt8} {c : Int} (h : ∀ z, D2.atKey (.string x) z = .lit (.int .i64 c)) : (x = [43] ∧ c = 1) ∨ (x = [45] ∧ c = -1) := by
 have h1 := h (.lit (.int .i64 (c + 1)))
 rw [d2_at] at h1
 by_cases a : x = [45]
 ·
  rw [if_pos a] at h1
  have e := DataW.lit.inj h1
  injection e with e1 e2
  exact .inr ⟨a, e2.symm⟩
 ·
  rw [if_neg a] at h1
  by_cases b : x = [43]
  ·
   rw [if_pos b] at h1
   have e := DataW.lit.inj h1
   injection e with e1 e2
   exact .inl ⟨b, e2.symm⟩
  ·
   rw [if_neg b] at h1
   have e := DataW.lit.inj h1
   injection e with e1 e2
   omega
end Lp
abbrev MpI (W : World) (b n : Nat) (D : DataW Unit) : Prop := W.ownsMap Tryz.prog 9 (plainElem Tryz.prog 3) b n D
theorem mpi_on {W W' : World} {b n : Nat} {D : DataW Unit} (h : MpI W b n D) (k : Below W.heap.size W W') : MpI W' b n D := h.kept (row := none) ⟨k.os, k.tape, k.output, k.size, fun i hi _ => k.block i hi⟩ (by simp)
theorem mpi_look {W : World} {b n : Nat} (h : MpI W b n Lp.D2) (s : ByteArray) (hs : s.size ≤ maxLen) :
  (Instr.lookup 89 (.map (some b)) (.string s) true).run Tryz.prog W = .ok (.tuple #[.int .i64 (if s.data.toList = [45] then -1 else if s.data.toList = [43] then 1 else 0), .bool (decide (s.data.toList = [45]) || decide (s.data.toList = [43]))]) W := by
 obtain ⟨v, ps, hr, hv⟩ := World.ownsMap.look_ok h (Maps.string_keyed Tryz.underlying9) Tryz.underlying89 (Tryz.zeroValue3 W) (zd := .lit (.int .i64 0)) (zp := []) (plainElem_int Tryz.underlying3 (by decide)) (WideMaps.keyOf_string_mk (P := Tryz.prog) Tryz.underlying9 hs)
 obtain ⟨c, rfl, hc, -⟩ := plainElem_int_inv Tryz.underlying3 hv
 rw [hr, Lp.d2_has]
 have hz : Lp.D2.atKey (Lit.string s.data.toList) (.lit (.int .i64 0)) = .lit (.int .i64 c) := congrArg Prod.fst hc
 rw [Lp.d2_at] at hz
 have e : (if s.data.toList = [45] then (-1 : Int) else if s.data.toList = [43] then 1 else 0) = c := by
  by_cases a : s.data.toList = [45]
  ·
   rw [if_pos a] at hz ⊢
   have e := DataW.lit.inj hz
   injection e with e1 e2
  ·
   rw [if_neg a] at hz ⊢
   by_cases b : s.data.toList = [43]
   ·
    rw [if_pos b] at hz ⊢
    have e := DataW.lit.inj hz
    injection e with e1 e2
   ·
    rw [if_neg b] at hz ⊢
    have e := DataW.lit.inj hz
    injection e with e1 e2
 rw [e]
set_option maxHeartbeats 2000000 in
theorem signs_any (w : World) : Calls Tryz.prog 51 #[] w fun e w' => e = .returned (.map (some w.heap.size)) ∧ MpI w' w.heap.size 2 Lp.D2 ∧ Below w.heap.size w w' := by
 have M0 : MpI (w.alloc (.map #[] 0)) w.heap.size 0 Lp.D0 := World.ownsMap_made w _ _ _
 have B0 : Below w.heap.size w (w.alloc (.map #[] 0)) := (Below.refl _ _).alloc (Nat.le_refl _) _
 have MKM : ∀ W, (Instr.makeMap 89 none).run Tryz.prog W = .ok (.map (some W.heap.size)) (W.alloc (.map #[] 0)) := fun W => run_makeMap _ W
 obtain ⟨w1, hr1, M1, g1⟩ := World.ownsMap.update M0 (Maps.string_keyed Tryz.underlying9) Tryz.underlying89 (by unfold maxLen; omega) (key := .string ⟨#[43]⟩) (val := .int .i64 1)
  (WideMaps.keyOf_string_mk (P := Tryz.prog) Tryz.underlying9 (by decide)) (plainElem_int Tryz.underlying3 (by decide))
 have B1 : Below w.heap.size w w1 := B0.trans ⟨g1.os, g1.tape, g1.output, g1.size, fun i hi => g1.block i (by simp; omega) (fun e => by injection e with e; omega)⟩
 obtain ⟨w2, hr2, M2, g2⟩ := World.ownsMap.update M1 (Maps.string_keyed Tryz.underlying9) Tryz.underlying89 (by unfold maxLen; omega) (key := .string ⟨#[45]⟩) (val := .int .i64 (-1))
  (WideMaps.keyOf_string_mk (P := Tryz.prog) Tryz.underlying9 (by decide)) (plainElem_int Tryz.underlying3 (by decide))
 have B2 := Lib.hid (B1.trans (⟨g2.os, g2.tape, g2.output, g2.size, fun i hi => g2.block i (by have := B1.size; omega) (fun e => by injection e with e; omega)⟩ : Below w.heap.size w1 w2))
 have M2 := Lib.hid (show MpI w2 w.heap.size 2 Lp.D2 from M2)
 clear M0 B0 M1 g1 B1 g2
 go_enter Tryz.func51, Tryz.ntmps51
 go_wp2
 go_ret
 exact ⟨rfl, M2.out, B2.out⟩
theorem strkey_inv {key : Value} {kl : Lit} (h : keyOf Tryz.prog 9 key = some kl) : ∃ s : ByteArray, key = .string s := by
 cases key <;> simp [keyOf, Tryz.underlying9, mapKey] at h
 exact ⟨_, rfl⟩
set_option maxHeartbeats 2000000 in
set_option maxRecDepth 100000 in
theorem lsign_any (s : Int) (w : World) : Calls Tryz.prog 26 #[.int .i64 s] w fun e w' => e = .returned (.string ⟨(Lp.sg s).toArray⟩) ∧ Below w.heap.size w w' := by
 obtain ⟨ans, hans⟩ : ∃ a : ByteArray, a = ⟨(Lp.sg s).toArray⟩ := ⟨_, rfl⟩
 rw [← hans]
 have HA := Lib.hid hans
 clear hans
 go_enter Tryz.func26, Tryz.ntmps26
 go_wp2_with fail
 refine (signs_any _).mono ?_; rintro e w1 ⟨rfl, M1, b1⟩
 have B1 := Lib.hid b1
 have hlt := M1.lt
 generalize hb : w.heap.size = b at M1 hlt ⊢
 have HB := Lib.hid hb
 clear b1
 go_wp2_with (first
  | (at_range; refine wpList_range_own _ rfl _ 89 rfl 9 3 (Maps.string_keyed Tryz.underlying9) Tryz.underlying89 _ b 2 _ rfl M1 ?_; intro w2 hrg0 hg0 hs0)
  | fail)
 have B2 := Lib.hid (show Below w.heap.size w w2 from B1.out.trans ⟨hg0.os, hg0.tape, hg0.output, hg0.size, fun i hi => hg0.block i (by have := HB.out; omega) (by simp)⟩)
 go_frame
 generalize hr : w1.heap.size = r at hrg0 hlt hs0 ⊢
 clear M1 hg0 hs0
 have HR := Lib.hid hr
 go_loopw [4] (fun _ wr => ∃ (left : Lit → Bool) (cnt : Nat), wr.ranges Tryz.prog 9 (plainElem Tryz.prog 3) b r 2 Lp.D2 left cnt ∧ Hid ((left (.string [43]) = false → s ≠ 1) ∧ (left (.string [45]) = false → s ≠ -1)) ∧ Hid (Below w.heap.size w wr)) (fun _ wr => wr.rangeLeft b r)
 case atStart => exact ⟨_, _, hrg0, Lib.hid ⟨fun h => by rw [Lp.d2_has] at h; simp at h, fun h => by rw [Lp.d2_has] at h; simp at h⟩, B2⟩
 case round =>
  obtain ⟨left, cnt, hrg, hN, hB⟩ := hrel
  go_wp2_with (first
   | (at_next; refine wpList_next_ranges _ rfl _ rfl 9 (Maps.string_keyed Tryz.underlying9) (plainElem Tryz.prog 3) Value.string (Value.int .i64) (fun key kl h => strkey_inv h) (fun v y h => by obtain ⟨c, rfl, _⟩ := plainElem_int_inv Tryz.underlying3 h; exact ⟨c, rfl⟩) b r 2 _ _ _ rfl hrg ?_ ?_)
   | fail)
  ·
   intro hc0 hl0
   have EX := Lib.hid (show (⟨#[]⟩ : ByteArray) = ans from by
    rw [HA.out]
    unfold Lp.sg
    rw [if_neg (hN.out.1 (hl0 _)), if_neg (hN.out.2 (hl0 _))])
   clear hc0 hl0 hrg hN
   go_wp2
   go_ret
   exact ⟨by rw [← EX.out]; rfl, hB.out⟩
  ·
   intro x c kl d ps w3 cnt1 hkey hlx hv hat hrg1 hlt1 hg1 hs1 hen
   have B3 := Lib.hid (show Below w.heap.size w w3 from hB.out.trans ⟨hg1.os, hg1.tape, hg1.output, hg1.size, fun i hi => hg1.block i (by have := hB.out.size; omega) (fun e => by injection e with e; have h1 := HR.out; have h2 := HB.out; omega)⟩)
   obtain ⟨c', hc', hy, -⟩ := plainElem_int_inv Tryz.underlying3 hv
   injection hc' with _ hc'
   subst hc'
   have hd : d = .lit (.int .i64 c) := congrArg Prod.fst hy
   subst hd
   clear hy
   have hkl : kl = .string x.data.toList := by
    simp only [keyOf, Tryz.underlying9, mapKey] at hkey
    split at hkey
    ·
     injection hkey with e; exact e.symm
    ·
     first | cases hkey | (injection hkey with e; exact e.symm)
   subst hkl
   have one := Lib.hid (Lp.d2_one hat)
   have NX := Lib.hid (show c ≠ s → ((left (.string [43]) && !(Lit.string [43]).sameKey (.string x.data.toList)) = false → s ≠ 1) ∧ ((left (.string [45]) && !(Lit.string [45]).sameKey (.string x.data.toList)) = false → s ≠ -1) from fun hc => by
    rcases one.out with ⟨e1, e2⟩ | ⟨e1, e2⟩
    ·
     rw [e1]
     refine ⟨fun _ => fun e => hc (by omega), fun h => hN.out.2 ?_⟩
     rw [show (Lit.string [45]).sameKey (.string [43]) = false by decide, Bool.not_false, Bool.and_true] at h
     exact h
    ·
     rw [e1]
     refine ⟨fun h => hN.out.1 ?_, fun _ => fun e => hc (by omega)⟩
     rw [show (Lit.string [43]).sameKey (.string [45]) = false by decide, Bool.not_false, Bool.and_true] at h
     exact h)
   clear hkey hlx hv hat hg1 hs1
   by_cases hcs : c = s
   ·
    have EX := Lib.hid (show x = ans from by
     have hx : x.data.toList = Lp.sg s := by
      rcases one.out with ⟨e1, e2⟩ | ⟨e1, e2⟩
      ·
       rw [e1, ← hcs, e2]; rfl
      ·
       rw [e1, ← hcs, e2]; rfl
     rw [HA.out, ← hx])
    clear NX one hrg hrg1
    go_wp2
    go_ret
    exact ⟨by rw [← EX.out]; rfl, by first | exact B3.out | exact HB.out ▸ B3.out⟩
   ·
    have NX2 := Lib.hid (NX.out hcs)
    clear NX one
    go_wp2
    go_roundw
    case rel => exact ⟨_, cnt1, hrg1, NX2, B3⟩
    case measure => rw [hrg1.left_eq, hrg.left_eq]; exact hlt1
end Go.Proofs.YtifgiclnofdnkaaGreatDoor
namespace Go.Pairs
open Go
def nodupB : List Nat → Bool
 | [] => true
 | x :: xs => !xs.contains x && nodupB xs
def onB (k : Nat) : List Oper → Bool
 | [] => true
 | o :: os => (o.after.toList.all fun e => !Region.binds .any e || decide (e.on < k)) && onB (k + 1) os
def insideB (n : Nat) (l : List Oper) : Bool := (l.filterMap (·.dst)).all fun d => decide (d < n)
theorem nodup_at : ∀ {l : List Oper}, nodupB (l.filterMap (·.dst)) = true → ∀ {i j : Nat} {oi oj : Oper} {d : Tmp}, l[i]? = some oi → l[j]? = some oj → oi.dst = some d → oj.dst = some d → i = j := by
 intro l
 induction l with
 | nil => intro _ i j oi oj d hi; simp at hi
 | cons o os ih =>
  intro h i j oi oj d hi hj hdi hdj
  have mem : ∀ {k : Nat} {ok : Oper}, os[k]? = some ok → ok.dst = some d → d ∈ os.filterMap (·.dst) := fun {k ok} hk hd => List.mem_filterMap.2 ⟨ok, List.mem_of_getElem? hk, hd⟩
  have hs : nodupB (os.filterMap (·.dst)) = true := by
   cases ho : o.dst with
   | none => simpa [List.filterMap_cons, ho] using h
   | some x => simp [ho, nodupB] at h; exact h.2
  have hnot : o.dst = some d → d ∉ os.filterMap (·.dst) := fun ho => by
   simp only [List.filterMap_cons, ho, nodupB, Bool.and_eq_true, Bool.not_eq_true'] at h
   intro hm
   have := h.1
   simp only [List.contains_eq_mem, decide_eq_false_iff_not] at this
   exact this hm
  cases i with
  | zero =>
   simp at hi; subst hi
   cases j with
   | zero => rfl
   | succ j => simp at hj; exact (hnot hdi (mem hj hdj)).elim
  | succ i =>
   simp at hi
   cases j with
   | zero => simp at hj; subst hj; exact (hnot hdj (mem hi hdi)).elim
   | succ j => simp at hj; rw [ih hs hi hj hdi hdj]
theorem on_at : ∀ {l : List Oper} {k : Nat}, onB k l = true → ∀ {i : Nat} {o : Oper}, l[i]? = some o → ∀ e ∈ o.after, Region.binds .any e = true → e.on < k + i := by
 intro l
 induction l with
 | nil => intro k _ i o hi; simp at hi
 | cons x os ih =>
  intro k h i o hi e he hbn
  simp only [onB, Bool.and_eq_true] at h
  cases i with
  | zero => simp at hi; subst hi; have := List.all_eq_true.1 h.1 e (by simpa using he); rw [hbn] at this; simpa using this
  | succ i => simp at hi; have := ih h.2 hi e he hbn; omega
theorem inside_at {n : Nat} {l : List Oper} (h : insideB n l = true) {i : Nat} {o : Oper} {d : Tmp} (hi : l[i]? = some o) (hd : o.dst = some d) : d < n := by
 have := List.all_eq_true.1 h d (List.mem_filterMap.2 ⟨o, List.mem_of_getElem? hi, hd⟩)
 simpa using this
section
variable (P : Program) (l : List Oper) (R : Nat → Value → World → Prop) (C : World → Prop) (G : World → World → Prop) (Q : Exit → Act → World → Prop) (a0 : Act)
structure Same (a : Act) : Prop where
 size : a.tmps.size = a0.tmps.size
 defers : a.defers = a0.defers
 base : ∀ t, (l.filterMap (·.dst)).contains t = false → a.tmps[t]? = a0.tmps[t]?
def Ob (i : Nat) (o : Oper) : Prop :=
 ∀ a w, C w → Same l a0 a → (∀ j oj d, l[j]? = some oj → oj.dst = some d → o.after.any (fun e => Region.binds .any e && e.on == j) = true → ∃ v, a.tmps[d]? = some v ∧ R j v w) →
  ∀ K : Act → World → Prop, (∀ v w', G w w' → R i v w' → K (a.put o.dst v) w') → if Region.wanted o (yielded l.toArray a.tmps) = true then o.wp P a w K Q else K (a.put o.dst undef) w
structure Good : Prop where
 nodup : nodupB (l.filterMap (·.dst)) = true
 on : onB 0 l = true
 inside : insideB a0.tmps.size l = true
 keep : ∀ w w', C w → G w w' → C w'
 stable : ∀ i v w w', G w w' → R i v w → R i v w'
 ob : ∀ i o, l[i]? = some o → Ob P l R C G Q a0 i o
 last : ∀ a w, C w → Same l a0 a → (∀ j oj d, l[j]? = some oj → oj.dst = some d → ∃ v, a.tmps[d]? = some v ∧ R j v w) → Q .normal a w
variable {P l R C G Q a0}
theorem put_same {a : Act} {d : Tmp} {v : Value} (h : d < a.tmps.size) : (a.put (some d) v).tmps[d]? = some v := by
 simp [Act.put, h]
theorem put_other {a : Act} {x : Option Tmp} {d : Tmp} {v : Value} (h : x ≠ some d) : (a.put x v).tmps[d]? = a.tmps[d]? := by
 cases x with
 | none => rfl
 | some e => simp only [Act.put]; exact Array.getElem?_setIfInBounds_ne (fun he => h (by rw [he]))
theorem Same.put {a : Act} {i : Nat} {o : Oper} (hi : l[i]? = some o) (h : Same l a0 a) (v : Value) : Same l a0 (a.put o.dst v) := by
 refine ⟨?_, ?_, fun t ht => ?_⟩
 ·
  rw [← h.size]; cases o.dst <;> simp [Act.put]
 ·
  rw [← h.defers]; cases o.dst <;> rfl
 ·
  rw [put_other (fun hd => by
   have := List.mem_filterMap.2 ⟨o, List.mem_of_getElem? hi, hd⟩
   simp only [List.contains_eq_mem, decide_eq_false_iff_not] at ht
   exact ht this)]
  exact h.base t ht
/-! ### For the walk -/
def markR (ms : List (Value → World → Prop)) (i : Nat) (v : Value) (w : World) : Prop := (ms.getD i fun _ _ => True) v w
def Obs (P : Program) (l : List Oper) (R : Nat → Value → World → Prop) (C : World → Prop) (G : World → World → Prop) (Q : Exit → Act → World → Prop) (a0 : Act) : Nat → List Oper → Prop
 | _, [] => True
 | k, o :: os => Ob P l R C G Q a0 k o ∧ Obs P l R C G Q a0 (k + 1) os
theorem Obs.at : ∀ {os : List Oper} {k : Nat}, Obs P l R C G Q a0 k os → ∀ i o, os[i]? = some o → Ob P l R C G Q a0 (k + i) o := by
 intro os
 induction os with
 | nil => intro k _ i o h; simp at h
 | cons x os ih =>
  intro k h i o hi
  cases i with
  | zero => simp at hi; subst hi; exact h.1
  | succ i => simp at hi; have := ih h.2 i o hi; rw [show k + (i + 1) = k + 1 + i by omega]; exact this
theorem Obs.all (h : Obs P l R C G Q a0 0 l) : ∀ i o, l[i]? = some o → Ob P l R C G Q a0 i o := fun i o hi => by
 have := h.at i o hi
 rwa [Nat.zero_add] at this
theorem Obs.nil {k : Nat} : Obs P l R C G Q a0 k [] := trivial
theorem Obs.cons {k k' : Nat} {o : Oper} {os : List Oper} (hk : k + 1 = k') (h : Ob P l R C G Q a0 k o) (hs : Obs P l R C G Q a0 k' os) : Obs P l R C G Q a0 k (o :: os) := ⟨h, hk ▸ hs⟩
def StableL (G : World → World → Prop) : List (Value → World → Prop) → Prop
 | [] => True
 | f :: fs => (∀ v w w', G w w' → f v w → f v w') ∧ StableL G fs
theorem StableL.all {ms : List (Value → World → Prop)} (h : StableL G ms) : ∀ i v w w', G w w' → markR ms i v w → markR ms i v w' := by
 induction ms with
 | nil => intro i v w w' _ _; simp [markR]
 | cons f fs ih =>
  intro i v w w' hG hm
  cases i with
  | zero => exact h.1 v w w' hG hm
  | succ i => exact ih h.2 i v w w' hG hm
theorem wanted_plain {o : Oper} {y : Nat → Option Bool} (h : o.guard = none) : Region.wanted o y = true := by simp [Region.wanted, h]
end
end Go.Pairs
namespace Go.Pairs
open Go
def come (ld : Nat → Bool) (i : Nat) : Nat → Bool := fun j => if j = i then true else ld j
def waitsB (o : Oper) (j : Nat) : Bool := o.after.any (fun e => Region.binds .any e && e.on == j)
section
variable (P : Program) (l : List Oper) (R : Nat → Value → Prop) (C : (Nat → Bool) → World → Prop) (Q : Exit → Act → World → Prop) (a0 : Act)
def Closed (ld : Nat → Bool) : Prop := ∀ j oj k, l[j]? = some oj → ld j = true → waitsB oj k = true → ld k = true
def ObW (i : Nat) (o : Oper) : Prop :=
 ∀ (ld : Nat → Bool) a w, C ld w → ld i = false → (∀ j, waitsB o j = true → ld j = true) → Closed l ld → Same l a0 a →
  (∀ j oj d, l[j]? = some oj → oj.dst = some d → waitsB o j = true → ∃ v, a.tmps[d]? = some v ∧ R j v) →
  ∀ K : Act → World → Prop, (∀ v w', R i v → C (come ld i) w' → K (a.put o.dst v) w') → if Region.wanted o (yielded l.toArray a.tmps) = true then o.wp P a w K Q else K (a.put o.dst undef) w
structure GoodW : Prop where
 nodup : nodupB (l.filterMap (·.dst)) = true
 on : onB 0 l = true
 inside : insideB a0.tmps.size l = true
 ob : ∀ i o, l[i]? = some o → ObW P l R C Q a0 i o
 last : ∀ ld a w, C ld w → (∀ n, n < l.length → ld n = true) → Same l a0 a → (∀ j oj d, l[j]? = some oj → oj.dst = some d → ∃ v, a.tmps[d]? = some v ∧ R j v) → Q .normal a w
variable {P l R C Q a0}
theorem come_set {listed : Array Bool} {i : Nat} (hi : i < listed.size) : (fun j => (listed.setIfInBounds i true).getD j false) = come (fun j => listed.getD j false) i := by
 funext j
 unfold come
 by_cases h : j = i
 ·
  subst h; simp [hi]
 ·
  rw [if_neg h, getD_set_ne false (fun e => h e.symm)]
theorem waits_mem {o : Oper} {j : Nat} (h : waitsB o j = true) : ∃ e ∈ o.after, Region.binds .any e = true ∧ e.on = j := by
 unfold waitsB at h
 simp only [Array.any_eq_true', Bool.and_eq_true, beq_iff_eq] at h
 obtain ⟨e, he, hb, hj⟩ := h
 exact ⟨e, he, hb, hj⟩
/-! ### For the walk -/
def ObsW (P : Program) (l : List Oper) (R : Nat → Value → Prop) (C : (Nat → Bool) → World → Prop) (Q : Exit → Act → World → Prop) (a0 : Act) : Nat → List Oper → Prop
 | _, [] => True
 | k, o :: os => ObW P l R C Q a0 k o ∧ ObsW P l R C Q a0 (k + 1) os
theorem ObsW.at : ∀ {os : List Oper} {k : Nat}, ObsW P l R C Q a0 k os → ∀ i o, os[i]? = some o → ObW P l R C Q a0 (k + i) o := by
 intro os
 induction os with
 | nil => intro k _ i o h; simp at h
 | cons x os ih =>
  intro k h i o hi
  cases i with
  | zero => simp at hi; subst hi; exact h.1
  | succ i => simp at hi; have := ih h.2 i o hi; rw [show k + (i + 1) = k + 1 + i by omega]; exact this
theorem ObsW.all (h : ObsW P l R C Q a0 0 l) : ∀ i o, l[i]? = some o → ObW P l R C Q a0 i o := fun i o hi => by
 have := h.at i o hi
 rwa [Nat.zero_add] at this
theorem ObsW.nil {k : Nat} : ObsW P l R C Q a0 k [] := trivial
theorem ObsW.cons {k k' : Nat} {o : Oper} {os : List Oper} (hk : k + 1 = k') (h : ObW P l R C Q a0 k o) (hs : ObsW P l R C Q a0 k' os) : ObsW P l R C Q a0 k (o :: os) := ⟨h, hk ▸ hs⟩
end
end Go.Pairs
