/- Joined: NumA, Pair. -/
import Derived.Test.YtlelpeocbgjmhaaGreatDoorBy01
import Derived.Test.YtlelpeocbgjmhaaGreatDoorBy08
import Derived.Test.YtlelpeocbgjmhaaGreatDoorBy03
import Derived.RegionTactic
import Derived.Deep.Draws
import Derived.Below
set_option linter.unusedVariables false
set_option linter.unusedSimpArgs false
namespace Go.Proofs.YtlelpeocbgjmhaaGreatDoor
open Go.RowKit
theorem cutPrefix (s p : ByteArray) (w : World) :
  Calls Tryz.prog 78 #[.string s, .string p] w fun e w' => e = .returned (.tuple #[.string ⟨(Lib.trimPrefix s.data.toList p.data.toList).toArray⟩, .bool (Lib.hasPrefix s.data.toList p.data.toList)]) ∧ w = w' :=
 (Any.strings_CutPrefix Tryz.lays103 s p w).mono fun _ _ ⟨h, e⟩ => ⟨h, e.symm⟩
set_option maxHeartbeats 400000 in
theorem text_any (n : Int) (w : World) (h0 : -9223372036854775808 ≤ n) (h1 : n ≤ 9223372036854775807) (htab : Lib.TabIs Tryz.prog w "internal/strconv.uint64pow10" .u64 Lib.pow10Tab) :
  Calls Tryz.prog 19 #[.int .i64 n] w fun e w' => e = .returned (.string ⟨(Lib.itoa n).toArray⟩) ∧ Below w.heap.size w w' := by
 have HT := Lib.hid htab; clear htab
 go_enter Tryz.func19, Tryz.ntmps19
 go_wp2_with fail
 refine (Tryz.formatInt n h0 h1 _ HT.out).mono ?_; rintro e w1 ⟨rfl, b1⟩
 go_wp2_with fail
 go_ret
 exact ⟨rfl, b1⟩
theorem dlen (ds : ByteArray) : ds.data.toList.length = ds.size := Array.length_toList
theorem dget {ds : ByteArray} {k : Nat} (h : k < ds.size) : ds.data.toList[k]'(by rw [dlen]; exact h) = ds[k] := rfl
theorem dhead {ds : ByteArray} (h : 0 < ds.size) : ∃ r, ds.data.toList = ds[0] :: r ∧ (r = [] ↔ ds.size = 1) := by
 have hl := dlen ds
 cases hd : ds.data.toList with
 | nil => rw [hd] at hl; simp at hl; omega
 | cons c r =>
  have e : ds[0] = c := by rw [← dget h]; simp [hd]
  refine ⟨r, by rw [e], ?_⟩
  rw [hd] at hl
  simp at hl
  rw [← List.length_eq_zero_iff]; omega
theorem not_all {ds : ByteArray} {k : Nat} (h : k < ds.size) (hd : ¬ (48 ≤ ds[k].toNat ∧ ds[k].toNat ≤ 57)) : ds.data.toList.all Num.dig = false := by
 rw [Bool.eq_false_iff]
 intro ha
 have := List.all_eq_true.1 ha ds[k] (by rw [← dget h]; exact List.getElem_mem _)
 simp only [Num.dig, decide_eq_true_eq] at this
 exact hd this
theorem take_all {ds : ByteArray} {k : Nat} (h : k < ds.size) (ha : (ds.data.toList.take k).all Num.dig = true) (hd : 48 ≤ ds[k].toNat ∧ ds[k].toNat ≤ 57) : (ds.data.toList.take (k + 1)).all Num.dig = true := by
 rw [List.take_succ_eq_append_getElem (by rw [dlen]; exact h), List.all_append, ha, dget h]
 simp [Num.dig, hd]
theorem front {ds : ByteArray} {b : Bool} (h : 0 < ds.size) (hf : ds[0].toNat = 48 → b = false ∧ ds.size = 1) : Num.numT b ds.data.toList = ds.data.toList.all Num.dig := by
 obtain ⟨r, e, hr⟩ := dhead h
 rw [e]
 unfold Num.numT
 by_cases h48 : ds[0].toNat = 48
 ·
  obtain ⟨hb, h1⟩ := hf h48
  rw [hb, hr.2 h1]; simp
 ·
  have : (ds[0] == 48) = false := by rw [beq_eq_false_iff_ne]; intro e2; rw [e2] at h48; exact h48 rfl
  show (!(ds[0] == 48 && (b || !r.isEmpty)) && (ds[0] :: r).all Num.dig) = _
  rw [this]; simp
theorem front_no {ds : ByteArray} {b : Bool} (h : 0 < ds.size) (h48 : ds[0].toNat = 48) (hf : b = true ∨ 1 < ds.size) : Num.numT b ds.data.toList = false := by
 obtain ⟨r, e, hr⟩ := dhead h
 rw [e]
 unfold Num.numT
 have : (ds[0] == 48) = true := by rw [beq_iff_eq]; exact UInt8.toNat_inj.1 h48
 show (!(ds[0] == 48 && (b || !r.isEmpty)) && (ds[0] :: r).all Num.dig) = _
 rw [this]
 rcases hf with hb | hz
 ·
  rw [hb]; simp
 ·
  have : r ≠ [] := fun e2 => by have := hr.1 e2; omega
  have : r.isEmpty = false := by simpa using this
  rw [this]; simp
theorem var_keep {P : Program} {W W' : World} {n : String} {cs : Array Value} (h : Below W.heap.size W W') (hv : W.var? P n = some cs) : W'.var? P n = some cs := by
 unfold World.var? at hv ⊢
 cases hg : P.globalNamed n with
 | none => rw [hg] at hv; simp at hv
 | some g =>
  rw [hg] at hv
  simp only [Option.bind_some] at hv ⊢
  have hgB : g < W.heap.size := by
   by_cases hh : g < W.heap.size
   ·
    exact hh
   ·
    exfalso
    have e : W.heap[g]? = none := by simp; omega
    rw [e] at hv; simp at hv
  rw [h.block g hgB]
  exact hv
end Go.Proofs.YtlelpeocbgjmhaaGreatDoor
namespace Go.Pairs
open Go
def nodupB : List Nat → Bool
 | [] => true
 | x :: xs => !xs.contains x && nodupB xs
def onB (k : Nat) : List Oper → Bool
 | [] => true
 | o :: os => (o.after.toList.all fun e => !Region.binds .any e || decide (e.on < k)) && onB (k + 1) os
def insideB (n : Nat) (l : List Oper) : Bool := (l.filterMap (·.dst)).all fun d => decide (d < n)
theorem nodup_at : ∀ {l : List Oper}, nodupB (l.filterMap (·.dst)) = true → ∀ {i j : Nat} {oi oj : Oper} {d : Tmp}, l[i]? = some oi → l[j]? = some oj → oi.dst = some d → oj.dst = some d → i = j := by
 intro l
 induction l with
 | nil => intro _ i j oi oj d hi; simp at hi
 | cons o os ih =>
  intro h i j oi oj d hi hj hdi hdj
  have mem : ∀ {k : Nat} {ok : Oper}, os[k]? = some ok → ok.dst = some d → d ∈ os.filterMap (·.dst) := fun {k ok} hk hd => List.mem_filterMap.2 ⟨ok, List.mem_of_getElem? hk, hd⟩
  have hs : nodupB (os.filterMap (·.dst)) = true := by
   cases ho : o.dst with
   | none => simpa [List.filterMap_cons, ho] using h
   | some x => simp [ho, nodupB] at h; exact h.2
  have hnot : o.dst = some d → d ∉ os.filterMap (·.dst) := fun ho => by
   simp only [List.filterMap_cons, ho, nodupB, Bool.and_eq_true, Bool.not_eq_true'] at h
   intro hm
   have := h.1
   simp only [List.contains_eq_mem, decide_eq_false_iff_not] at this
   exact this hm
  cases i with
  | zero =>
   simp at hi; subst hi
   cases j with
   | zero => rfl
   | succ j => simp at hj; exact (hnot hdi (mem hj hdj)).elim
  | succ i =>
   simp at hi
   cases j with
   | zero => simp at hj; subst hj; exact (hnot hdj (mem hi hdi)).elim
   | succ j => simp at hj; rw [ih hs hi hj hdi hdj]
theorem on_at : ∀ {l : List Oper} {k : Nat}, onB k l = true → ∀ {i : Nat} {o : Oper}, l[i]? = some o → ∀ e ∈ o.after, Region.binds .any e = true → e.on < k + i := by
 intro l
 induction l with
 | nil => intro k _ i o hi; simp at hi
 | cons x os ih =>
  intro k h i o hi e he hbn
  simp only [onB, Bool.and_eq_true] at h
  cases i with
  | zero => simp at hi; subst hi; have := List.all_eq_true.1 h.1 e (by simpa using he); rw [hbn] at this; simpa using this
  | succ i => simp at hi; have := ih h.2 hi e he hbn; omega
theorem inside_at {n : Nat} {l : List Oper} (h : insideB n l = true) {i : Nat} {o : Oper} {d : Tmp} (hi : l[i]? = some o) (hd : o.dst = some d) : d < n := by
 have := List.all_eq_true.1 h d (List.mem_filterMap.2 ⟨o, List.mem_of_getElem? hi, hd⟩)
 simpa using this
section
variable (P : Program) (l : List Oper) (R : Nat → Value → World → Prop) (C : World → Prop) (G : World → World → Prop) (Q : Exit → Act → World → Prop) (a0 : Act)
structure Same (a : Act) : Prop where
 size : a.tmps.size = a0.tmps.size
 defers : a.defers = a0.defers
 base : ∀ t, (l.filterMap (·.dst)).contains t = false → a.tmps[t]? = a0.tmps[t]?
def Ob (i : Nat) (o : Oper) : Prop :=
 ∀ a w, C w → Same l a0 a → (∀ j oj d, l[j]? = some oj → oj.dst = some d → o.after.any (fun e => Region.binds .any e && e.on == j) = true → ∃ v, a.tmps[d]? = some v ∧ R j v w) →
  ∀ K : Act → World → Prop, (∀ v w', G w w' → R i v w' → K (a.put o.dst v) w') → if Region.wanted o (yielded l.toArray a.tmps) = true then o.wp P a w K Q else K (a.put o.dst undef) w
structure Good : Prop where
 nodup : nodupB (l.filterMap (·.dst)) = true
 on : onB 0 l = true
 inside : insideB a0.tmps.size l = true
 keep : ∀ w w', C w → G w w' → C w'
 stable : ∀ i v w w', G w w' → R i v w → R i v w'
 ob : ∀ i o, l[i]? = some o → Ob P l R C G Q a0 i o
 last : ∀ a w, C w → Same l a0 a → (∀ j oj d, l[j]? = some oj → oj.dst = some d → ∃ v, a.tmps[d]? = some v ∧ R j v w) → Q .normal a w
variable {P l R C G Q a0}
theorem put_same {a : Act} {d : Tmp} {v : Value} (h : d < a.tmps.size) : (a.put (some d) v).tmps[d]? = some v := by
 simp [Act.put, h]
theorem put_other {a : Act} {x : Option Tmp} {d : Tmp} {v : Value} (h : x ≠ some d) : (a.put x v).tmps[d]? = a.tmps[d]? := by
 cases x with
 | none => rfl
 | some e => simp only [Act.put]; exact Array.getElem?_setIfInBounds_ne (fun he => h (by rw [he]))
theorem Same.put {a : Act} {i : Nat} {o : Oper} (hi : l[i]? = some o) (h : Same l a0 a) (v : Value) : Same l a0 (a.put o.dst v) := by
 refine ⟨?_, ?_, fun t ht => ?_⟩
 ·
  rw [← h.size]; cases o.dst <;> simp [Act.put]
 ·
  rw [← h.defers]; cases o.dst <;> rfl
 ·
  rw [put_other (fun hd => by
   have := List.mem_filterMap.2 ⟨o, List.mem_of_getElem? hi, hd⟩
   simp only [List.contains_eq_mem, decide_eq_false_iff_not] at ht
   exact ht this)]
  exact h.base t ht
/-! ### For the walk -/
def markR (ms : List (Value → World → Prop)) (i : Nat) (v : Value) (w : World) : Prop := (ms.getD i fun _ _ => True) v w
def Obs (P : Program) (l : List Oper) (R : Nat → Value → World → Prop) (C : World → Prop) (G : World → World → Prop) (Q : Exit → Act → World → Prop) (a0 : Act) : Nat → List Oper → Prop
 | _, [] => True
 | k, o :: os => Ob P l R C G Q a0 k o ∧ Obs P l R C G Q a0 (k + 1) os
theorem Obs.at : ∀ {os : List Oper} {k : Nat}, Obs P l R C G Q a0 k os → ∀ i o, os[i]? = some o → Ob P l R C G Q a0 (k + i) o := by
 intro os
 induction os with
 | nil => intro k _ i o h; simp at h
 | cons x os ih =>
  intro k h i o hi
  cases i with
  | zero => simp at hi; subst hi; exact h.1
  | succ i => simp at hi; have := ih h.2 i o hi; rw [show k + (i + 1) = k + 1 + i by omega]; exact this
theorem Obs.all (h : Obs P l R C G Q a0 0 l) : ∀ i o, l[i]? = some o → Ob P l R C G Q a0 i o := fun i o hi => by
 have := h.at i o hi
 rwa [Nat.zero_add] at this
theorem Obs.nil {k : Nat} : Obs P l R C G Q a0 k [] := trivial
theorem Obs.cons {k k' : Nat} {o : Oper} {os : List Oper} (hk : k + 1 = k') (h : Ob P l R C G Q a0 k o) (hs : Obs P l R C G Q a0 k' os) : Obs P l R C G Q a0 k (o :: os) := ⟨h, hk ▸ hs⟩
def StableL (G : World → World → Prop) : List (Value → World → Prop) → Prop
 | [] => True
 | f :: fs => (∀ v w w', G w w' → f v w → f v w') ∧ StableL G fs
theorem StableL.all {ms : List (Value → World → Prop)} (h : StableL G ms) : ∀ i v w w', G w w' → markR ms i v w → markR ms i v w' := by
 induction ms with
 | nil => intro i v w w' _ _; simp [markR]
 | cons f fs ih =>
  intro i v w w' hG hm
  cases i with
  | zero => exact h.1 v w w' hG hm
  | succ i => exact ih h.2 i v w w' hG hm
theorem wanted_plain {o : Oper} {y : Nat → Option Bool} (h : o.guard = none) : Region.wanted o y = true := by simp [Region.wanted, h]
end
end Go.Pairs
