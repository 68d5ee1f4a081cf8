/- Joined: FdF, By0, Shelf, NumA, Pair. -/
import Derived.Test.YtlelpeocbgjmhaaGreatDoorCa04
import Derived.Test.YtlelpeocbgjmhaaGreatDoorCa05
import Derived.Test.YtlelpeocbgjmhaaGreatDoorCa01
import Derived.Shelf.Strconv.Itoa4
import Derived.Shelf.Small.Wraps
import Derived.Lib.AppendIntMem
import Derived.Lib.AtoiErrMem
import Derived.Test.YtlelpeocbgjmhaaGreatDoorProg
import Derived.Test.YtlelpeocbgjmhaaGreatDoorLaid
import Derived.Test.YtlelpeocbgjmhaaGreatDoorCa02
import Derived.RegionTactic
import Derived.Deep.Draws
import Derived.Below
/- Join of fields. -/
set_option linter.unusedVariables false
set_option linter.unusedSimpArgs false
namespace Go.Proofs.YtlelpeocbgjmhaaGreatDoor
open Go.RowKit Go.Sort

set_option maxHeartbeats 4000000 in
set_option maxRecDepth 100000 in
theorem fjoin_any (v : Value) (l : List ByteArray) (w : World) (S : StS w v l) (hl : l.length ≤ 100000000) (hz : Fd.tot l ≤ 50000000) :
    Calls Tryz.prog 18 #[v] w fun e w' => e = .returned (.tuple #[.string ⟨(Fd.jn (Fd.bl l)).1.toArray⟩, .int .i64 (Fd.jn (Fd.bl l)).2]) ∧ Below w.heap.size w w' := by
  have T := S
  obtain ⟨A, c, rfl, -⟩ := T
  obtain ⟨N, hN⟩ : ∃ N, N = l.length := ⟨_, rfl⟩
  have HN := Lib.hid hN
  have HS : Hid (StS w (.slice A N c) l) := by rw [hN]; exact S
  have hNl : (Fd.bl l).length = N := by unfold Fd.bl; rw [List.length_map, hN]
  rw [← hN]
  have hNb : N ≤ 100000000 := by omega
  have hz0 : Fd.tot (l.drop 0) ≤ 50000000 := hz
  clear S hl hz
  unfold Fd.jn
  rw [hNl]
  clear hN hNl
  by_cases h16 : 16 < N
  · rw [if_pos h16]
    clear HS
    go_enter Tryz.func18, Tryz.ntmps18
    go_wp2_with fail
    go_ret2
    exact ⟨rfl, Below.refl _ _⟩
  · rw [if_neg h16]
    obtain ⟨tot, htot⟩ : ∃ tot, tot = Fd.jr [] 0 (Fd.bl l) := ⟨_, rfl⟩
    rw [← htot]
    have HT := Lib.hid htot
    have HZ := Lib.hid hz0
    clear htot hz0
    obtain ⟨ans, hans⟩ : ∃ ans : Value, ans = .tuple #[.string ⟨tot.1.toArray⟩, .int .i64 tot.2] := ⟨_, rfl⟩
    rw [← hans]
    have HA := Lib.hid hans
    clear hans
    have N1 := Lib.hid (show Below w.heap.size w (w.alloc (.cells #[.pointer none, .slice none 0 0] 64)) from (Below.refl _ _).alloc (Nat.le_refl _) _)
    have I1 := Lib.hid (IsB.fresh w)
    go_enter Tryz.func18, Tryz.ntmps18
    go_wp2_with fail
    go_loopw [14] (fun i wr => ∃ (k : Nat) (a : List UInt8), k ≤ N ∧ i = .int .i64 k ∧ Hid (IsB w.heap.size a wr) ∧ Hid (Fd.jr a k ((Fd.bl l).drop k) = tot) ∧ Hid (a.length + Fd.tot (l.drop k) ≤ 50000000 + 4 * k) ∧ Hid (Below w.heap.size w wr)) (fun i _ => N - (intOf i).toNat)
    case atStart => exact ⟨0, [], Nat.zero_le _, rfl, I1, HT.out.symm, by have := HZ.out; show ([] : List UInt8).length + _ ≤ _; rw [List.length_nil]; omega, N1⟩
    case round =>
      obtain ⟨k, a, hk, rfl, hI, hinv, hsz, hB⟩ := hrel
      by_cases hlt : k < N
      · have hkl : k < l.length := by have := HN.out; omega
        obtain ⟨p, rfl, g⟩ := (HS.out.on hB.out).get k hkl
        have hd := hinv.out
        rw [Fd.bl_drop l k hkl] at hd
        have hs2 := hsz.out
        rw [Fd.tot_drop l k hkl] at hs2
        generalize l[k] = x at g hd hs2
        have hle := Fd.tx_len x.data.toList
        rw [fd_len] at hle
        have C := Lib.hid (fun W => fdtext_any x W (by omega))
        rcases Fd.tx_why x.data.toList with h0 | h0
        · rw [Fd.jr_next _ _ _ _ h0] at hd
          rw [h0] at C
          generalize (Fd.tx x.data.toList).1 = t at C hd hle
          have HH : Hid (Fd.jr (a ++ ((if k = 0 then [] else [32]) ++ t)) (k + 1) ((Fd.bl l).drop (k + 1)) = tot) := hd
          have zt := Fd.arr_len t
          have HD : Hid ((⟨t.toArray⟩ : ByteArray).data.toList = t) := by show t.toArray.toList = t; simp
          clear hd hinv h0
          generalize (⟨t.toArray⟩ : ByteArray) = TB at C zt HD
          rcases Nat.eq_zero_or_pos k with hk0 | hp
          · have gk : ¬ 0 < (k : Int) := by omega
            have e1 : a ++ ((if k = 0 then [] else [32]) ++ t) = a ++ t := by rw [if_pos hk0]; rfl
            rw [e1] at HH
            have hs3 := Lib.hid (show (a ++ t).length + Fd.tot (l.drop (k + 1)) ≤ 50000000 + 4 * (k + 1) by rw [List.length_append]; omega)
            clear hk0 e1
            go_wp2_with fail
            refine (C.out _).mono ?_; rintro e w1 ⟨rfl, b1⟩
            have I2 := Lib.hid (hI.out.on b1); have B2 := Lib.hid (below_step hB.out b1)
            clear b1 hI hB
            go_wp2_with fail
            refine (bw_str w.heap.size _ TB _ I2.out (by omega) (by omega)).mono ?_; rintro e w2 ⟨rfl, i2, b2⟩
            have I3 := Lib.hid i2; have B3 := Lib.hid (B2.out.trans b2)
            clear i2 b2 I2 B2
            go_wp2_with fail
            go_roundw
            case rel => exact ⟨k + 1, a ++ t, by omega, by go_num, by have := I3.out; rw [HD.out] at this; exact this, HH, hs3, B3⟩
            case measure => simp [intOf]; omega
          · have gk : 0 < (k : Int) := by omega
            have e1 : a ++ ((if k = 0 then [] else [32]) ++ t) = (a ++ [32]) ++ t := by rw [if_neg (by omega), List.append_assoc]
            rw [e1] at HH
            have hs3 := Lib.hid (show ((a ++ [32]) ++ t).length + Fd.tot (l.drop (k + 1)) ≤ 50000000 + 4 * (k + 1) by rw [List.length_append, List.length_append, List.length_singleton]; omega)
            have zz : (a ++ [32]).length = a.length + 1 := by rw [List.length_append]; rfl
            clear hp e1
            go_wp2_with fail
            refine (C.out _).mono ?_; rintro e w1 ⟨rfl, b1⟩
            have I2 := Lib.hid (hI.out.on b1); have B2 := Lib.hid (below_step hB.out b1)
            clear b1 hI hB
            go_wp2_with fail
            refine (bw_rune32 w.heap.size _ _ I2.out (by omega)).mono ?_; rintro e w2 ⟨rfl, i2, b2⟩
            have I3 := Lib.hid i2; have B3 := Lib.hid (B2.out.trans b2)
            clear i2 b2 I2 B2
            go_wp2_with fail
            refine (bw_str w.heap.size _ TB _ I3.out (by omega) (by omega)).mono ?_; rintro e w3 ⟨rfl, i3, b3⟩
            have I4 := Lib.hid i3; have B4 := Lib.hid (B3.out.trans b3)
            clear i3 b3 I3 B3
            go_wp2_with fail
            go_roundw
            case rel => exact ⟨k + 1, (a ++ [32]) ++ t, by omega, by go_num, by have := I4.out; rw [HD.out] at this; exact this, HH, hs3, B4⟩
            case measure => simp [intOf]; omega
        · rw [Fd.jr_stop _ _ _ _ (by omega)] at hd
          rw [h0] at C hd
          generalize (Fd.tx x.data.toList).1 = t at C
          have HH := Lib.hid hd
          clear hd hinv h0 hsz hs2 hle
          go_wp2_with fail
          refine (C.out _).mono ?_; rintro e w1 ⟨rfl, b1⟩
          have B2 := Lib.hid (below_step hB.out b1)
          clear b1
          go_wp2_with fail
          go_ret2
          exact ⟨by rw [HA.out, ← HH.out]; rfl, B2.out⟩
      · have hjk := Lib.hid (show (a, (0 : Int)) = tot by
          rw [← hinv.out, List.drop_of_length_le (by unfold Fd.bl; rw [List.length_map]; have := HN.out; omega)]; rfl)
        go_wp2_with fail
        refine (b_string w.heap.size _ _ hI.out).mono ?_; rintro e w2 ⟨rfl, -, b2⟩
        have B2 := Lib.hid (hB.out.trans b2)
        clear b2
        go_wp2_with fail
        go_ret2
        exact ⟨by rw [HA.out, ← hjk.out]; rfl, B2.out⟩
end Go.Proofs.YtlelpeocbgjmhaaGreatDoor

/- Texts as bytes: how long they are, what stands behind a place. -/
set_option linter.unusedVariables false
set_option linter.unusedSimpArgs false
namespace Go.Proofs.YtlelpeocbgjmhaaGreatDoor
open Go.RowKit

theorem ab_len (a : ByteArray) : a.data.toList.length = a.size := Array.length_toList
theorem ab_drop (a : ByteArray) (k : Nat) (h : k < a.size) : a.data.toList.drop k = a[k] :: a.data.toList.drop (k + 1) := by
  rw [List.drop_eq_getElem_cons (by rw [ab_len]; exact h)]
  rfl
theorem dne {ds : ByteArray} (h : 0 < ds.size) : ds.toList.isEmpty = false ∧ ¬ ds.toList = [] := by
  have : ds.toList ≠ [] := by
    intro e
    have hl := ab_len ds
    rw [← ByteArray.toList_eq] at hl
    rw [e] at hl; simp at hl; omega
  exact ⟨by simpa using this, this⟩
theorem rn_ix (a : ByteArray) (k : Nat) (h : k < a.size) (w : World) : Sem.run Tryz.prog (Instr.index 9 (.string a) (.int .i64 (k : Int))) w = .ok (.int .u8 a[k].toNat) w := by
  rw [run_index_string w _ _ _ _ Tryz.underlying9, dif_pos ⟨by omega, by omega⟩]
  simp
end Go.Proofs.YtlelpeocbgjmhaaGreatDoor

/- The library's contract of FormatInt at base 10, laid at this translation. -/
set_option linter.unusedVariables false
namespace Go.Proofs
open Go.Shelf

theorem Tryz.formatInt (n : Int) (h0 : -9223372036854775808 ≤ n) (h1 : n ≤ 9223372036854775807) (w : World) (htab : Lib.TabIs Tryz.prog w "internal/strconv.uint64pow10" .u64 Lib.pow10Tab) :
    Calls Tryz.prog 44 #[.int .i64 n, .int .i64 10] w fun e w' => e = .returned (.string ⟨(Lib.itoa n).toArray⟩) ∧ RowKit.Below w.heap.size w w' :=
  (Any.strconv_FormatInt_10 Tryz.laysM173 n h0 h1 w htab).mono fun _ _ ⟨h, k, os, e⟩ => ⟨h, by rw [e]; exact Lib.below_grow _ _ (Nat.le_refl _) _ _⟩
end Go.Proofs

/- The contracts of num.Text, and texts of numbers. -/
set_option linter.unusedVariables false
set_option linter.unusedSimpArgs false
namespace Go.Proofs.YtlelpeocbgjmhaaGreatDoor
open Go.RowKit

theorem cutPrefix (s p : ByteArray) (w : World) :
    Calls Tryz.prog 78 #[.string s, .string p] w fun e w' => e = .returned (.tuple #[.string ⟨(Lib.trimPrefix s.data.toList p.data.toList).toArray⟩, .bool (Lib.hasPrefix s.data.toList p.data.toList)]) ∧ w = w' :=
  (Any.strings_CutPrefix Tryz.lays103 s p w).mono fun _ _ ⟨h, e⟩ => ⟨h, e.symm⟩

set_option maxHeartbeats 400000 in
theorem text_any (n : Int) (w : World) (h0 : -9223372036854775808 ≤ n) (h1 : n ≤ 9223372036854775807) (htab : Lib.TabIs Tryz.prog w "internal/strconv.uint64pow10" .u64 Lib.pow10Tab) :
    Calls Tryz.prog 19 #[.int .i64 n] w fun e w' => e = .returned (.string ⟨(Lib.itoa n).toArray⟩) ∧ Below w.heap.size w w' := by
  have HT := Lib.hid htab; clear htab
  go_enter Tryz.func19, Tryz.ntmps19
  go_wp2_with fail
  refine (Tryz.formatInt n h0 h1 _ HT.out).mono ?_; rintro e w1 ⟨rfl, b1⟩
  go_wp2_with fail
  go_ret
  exact ⟨rfl, b1⟩

theorem dlen (ds : ByteArray) : ds.data.toList.length = ds.size := Array.length_toList
theorem dget {ds : ByteArray} {k : Nat} (h : k < ds.size) : ds.data.toList[k]'(by rw [dlen]; exact h) = ds[k] := rfl
theorem dhead {ds : ByteArray} (h : 0 < ds.size) : ∃ r, ds.data.toList = ds[0] :: r ∧ (r = [] ↔ ds.size = 1) := by
  have hl := dlen ds
  cases hd : ds.data.toList with
  | nil => rw [hd] at hl; simp at hl; omega
  | cons c r =>
    have e : ds[0] = c := by rw [← dget h]; simp [hd]
    refine ⟨r, by rw [e], ?_⟩
    rw [hd] at hl
    simp at hl
    rw [← List.length_eq_zero_iff]; omega
theorem not_all {ds : ByteArray} {k : Nat} (h : k < ds.size) (hd : ¬ (48 ≤ ds[k].toNat ∧ ds[k].toNat ≤ 57)) : ds.data.toList.all Num.dig = false := by
  rw [Bool.eq_false_iff]
  intro ha
  have := List.all_eq_true.1 ha ds[k] (by rw [← dget h]; exact List.getElem_mem _)
  simp only [Num.dig, decide_eq_true_eq] at this
  exact hd this
theorem take_all {ds : ByteArray} {k : Nat} (h : k < ds.size) (ha : (ds.data.toList.take k).all Num.dig = true) (hd : 48 ≤ ds[k].toNat ∧ ds[k].toNat ≤ 57) : (ds.data.toList.take (k + 1)).all Num.dig = true := by
  rw [List.take_succ_eq_append_getElem (by rw [dlen]; exact h), List.all_append, ha, dget h]
  simp [Num.dig, hd]
theorem front {ds : ByteArray} {b : Bool} (h : 0 < ds.size) (hf : ds[0].toNat = 48 → b = false ∧ ds.size = 1) : Num.numT b ds.data.toList = ds.data.toList.all Num.dig := by
  obtain ⟨r, e, hr⟩ := dhead h
  rw [e]
  unfold Num.numT
  by_cases h48 : ds[0].toNat = 48
  · obtain ⟨hb, h1⟩ := hf h48
    rw [hb, hr.2 h1]; simp
  · have : (ds[0] == 48) = false := by rw [beq_eq_false_iff_ne]; intro e2; rw [e2] at h48; exact h48 rfl
    show (!(ds[0] == 48 && (b || !r.isEmpty)) && (ds[0] :: r).all Num.dig) = _
    rw [this]; simp
theorem front_no {ds : ByteArray} {b : Bool} (h : 0 < ds.size) (h48 : ds[0].toNat = 48) (hf : b = true ∨ 1 < ds.size) : Num.numT b ds.data.toList = false := by
  obtain ⟨r, e, hr⟩ := dhead h
  rw [e]
  unfold Num.numT
  have : (ds[0] == 48) = true := by rw [beq_iff_eq]; exact UInt8.toNat_inj.1 h48
  show (!(ds[0] == 48 && (b || !r.isEmpty)) && (ds[0] :: r).all Num.dig) = _
  rw [this]
  rcases hf with hb | hz
  · rw [hb]; simp
  · have : r ≠ [] := fun e2 => by have := hr.1 e2; omega
    have : r.isEmpty = false := by simpa using this
    rw [this]; simp

/-- A variable holds behind a call what it held. -/
theorem var_keep {P : Program} {W W' : World} {n : String} {cs : Array Value} (h : Below W.heap.size W W') (hv : W.var? P n = some cs) : W'.var? P n = some cs := by
  unfold World.var? at hv ⊢
  cases hg : P.globalNamed n with
  | none => rw [hg] at hv; simp at hv
  | some g =>
    rw [hg] at hv
    simp only [Option.bind_some] at hv ⊢
    have hgB : g < W.heap.size := by
      by_cases hh : g < W.heap.size
      · exact hh
      · exfalso
        have e : W.heap[g]? = none := by simp; omega
        rw [e] at hv; simp at hv
    rw [h.block g hgB]
    exact hv
end Go.Proofs.YtlelpeocbgjmhaaGreatDoor

namespace Go.Pairs
open Go

def nodupB : List Nat → Bool
  | [] => true
  | x :: xs => !xs.contains x && nodupB xs
def onB (k : Nat) : List Oper → Bool
  | [] => true
  | o :: os => (o.after.toList.all fun e => !Region.binds .any e || decide (e.on < k)) && onB (k + 1) os
def insideB (n : Nat) (l : List Oper) : Bool := (l.filterMap (·.dst)).all fun d => decide (d < n)

theorem nodup_at : ∀ {l : List Oper}, nodupB (l.filterMap (·.dst)) = true → ∀ {i j : Nat} {oi oj : Oper} {d : Tmp}, l[i]? = some oi → l[j]? = some oj → oi.dst = some d → oj.dst = some d → i = j := by
  intro l
  induction l with
  | nil => intro _ i j oi oj d hi; simp at hi
  | cons o os ih =>
    intro h i j oi oj d hi hj hdi hdj
    have mem : ∀ {k : Nat} {ok : Oper}, os[k]? = some ok → ok.dst = some d → d ∈ os.filterMap (·.dst) := fun {k ok} hk hd => List.mem_filterMap.2 ⟨ok, List.mem_of_getElem? hk, hd⟩
    have hs : nodupB (os.filterMap (·.dst)) = true := by
      cases ho : o.dst with
      | none => simpa [List.filterMap_cons, ho] using h
      | some x => simp [ho, nodupB] at h; exact h.2
    have hnot : o.dst = some d → d ∉ os.filterMap (·.dst) := fun ho => by
      simp only [List.filterMap_cons, ho, nodupB, Bool.and_eq_true, Bool.not_eq_true'] at h
      intro hm
      have := h.1
      simp only [List.contains_eq_mem, decide_eq_false_iff_not] at this
      exact this hm
    cases i with
    | zero =>
      simp at hi; subst hi
      cases j with
      | zero => rfl
      | succ j => simp at hj; exact (hnot hdi (mem hj hdj)).elim
    | succ i =>
      simp at hi
      cases j with
      | zero => simp at hj; subst hj; exact (hnot hdj (mem hi hdi)).elim
      | succ j => simp at hj; rw [ih hs hi hj hdi hdj]

theorem on_at : ∀ {l : List Oper} {k : Nat}, onB k l = true → ∀ {i : Nat} {o : Oper}, l[i]? = some o → ∀ e ∈ o.after, Region.binds .any e = true → e.on < k + i := by
  intro l
  induction l with
  | nil => intro k _ i o hi; simp at hi
  | cons x os ih =>
    intro k h i o hi e he hbn
    simp only [onB, Bool.and_eq_true] at h
    cases i with
    | zero => simp at hi; subst hi; have := List.all_eq_true.1 h.1 e (by simpa using he); rw [hbn] at this; simpa using this
    | succ i => simp at hi; have := ih h.2 hi e he hbn; omega

theorem inside_at {n : Nat} {l : List Oper} (h : insideB n l = true) {i : Nat} {o : Oper} {d : Tmp} (hi : l[i]? = some o) (hd : o.dst = some d) : d < n := by
  have := List.all_eq_true.1 h d (List.mem_filterMap.2 ⟨o, List.mem_of_getElem? hi, hd⟩)
  simpa using this

section
variable (P : Program) (l : List Oper) (R : Nat → Value → World → Prop) (C : World → Prop) (G : World → World → Prop) (Q : Exit → Act → World → Prop) (a0 : Act)

/-- The frame: what is none of the region's results is as it was. -/
structure Same (a : Act) : Prop where
  size : a.tmps.size = a0.tmps.size
  defers : a.defers = a0.defers
  base : ∀ t, (l.filterMap (·.dst)).contains t = false → a.tmps[t]? = a0.tmps[t]?

/-- Operation number i holds its mark in every frame and world where those that it waits for hold theirs. -/
def Ob (i : Nat) (o : Oper) : Prop :=
  ∀ a w, C w → Same l a0 a → (∀ j oj d, l[j]? = some oj → oj.dst = some d → o.after.any (fun e => Region.binds .any e && e.on == j) = true → ∃ v, a.tmps[d]? = some v ∧ R j v w) →
    ∀ K : Act → World → Prop, (∀ v w', G w w' → R i v w' → K (a.put o.dst v) w') → if Region.wanted o (yielded l.toArray a.tmps) = true then o.wp P a w K Q else K (a.put o.dst undef) w

structure Good : Prop where
  nodup : nodupB (l.filterMap (·.dst)) = true
  on : onB 0 l = true
  inside : insideB a0.tmps.size l = true
  keep : ∀ w w', C w → G w w' → C w'
  stable : ∀ i v w w', G w w' → R i v w → R i v w'
  ob : ∀ i o, l[i]? = some o → Ob P l R C G Q a0 i o
  last : ∀ a w, C w → Same l a0 a → (∀ j oj d, l[j]? = some oj → oj.dst = some d → ∃ v, a.tmps[d]? = some v ∧ R j v w) → Q .normal a w

variable {P l R C G Q a0}

theorem put_same {a : Act} {d : Tmp} {v : Value} (h : d < a.tmps.size) : (a.put (some d) v).tmps[d]? = some v := by
  simp [Act.put, h]
theorem put_other {a : Act} {x : Option Tmp} {d : Tmp} {v : Value} (h : x ≠ some d) : (a.put x v).tmps[d]? = a.tmps[d]? := by
  cases x with
  | none => rfl
  | some e => simp only [Act.put]; exact Array.getElem?_setIfInBounds_ne (fun he => h (by rw [he]))

theorem Same.put {a : Act} {i : Nat} {o : Oper} (hi : l[i]? = some o) (h : Same l a0 a) (v : Value) : Same l a0 (a.put o.dst v) := by
  refine ⟨?_, ?_, fun t ht => ?_⟩
  · rw [← h.size]; cases o.dst <;> simp [Act.put]
  · rw [← h.defers]; cases o.dst <;> rfl
  · rw [put_other (fun hd => by
      have := List.mem_filterMap.2 ⟨o, List.mem_of_getElem? hi, hd⟩
      simp only [List.contains_eq_mem, decide_eq_false_iff_not] at ht
      exact ht this)]
    exact h.base t ht

theorem all_listed (h : Good P l R C G Q a0) {listed : Array Bool} (hs : listed.size = l.length) (hr : Region.ready .any l.toArray listed = []) : ∀ n, n < l.length → listed.getD n false = true := by
  intro n
  induction n using Nat.strongRecOn with
  | ind n ih =>
    intro hn
    rcases hb : listed.getD n false with _ | _
    · have hmem : n ∈ Region.ready .any l.toArray listed := by
        refine mem_ready.2 ⟨?_, l[n], by simp [hn], fun e he hbn => ih e.on ?_ ?_⟩
        · have : n < listed.size := by omega
          simp [this] at hb ⊢; exact hb
        · have := on_at h.on (List.getElem?_eq_getElem hn) e he hbn; omega
        · have := on_at h.on (List.getElem?_eq_getElem hn) e he hbn; omega
      rw [hr] at hmem; cases hmem
    · rfl

theorem wpAny_of (h : Good P l R C G Q a0) : ∀ (fuel : Nat) (listed : Array Bool) (a : Act) (w : World), listed.size = l.length → listed.toList.count false ≤ fuel → C w → Same l a0 a →
    (∀ j oj d, l[j]? = some oj → oj.dst = some d → listed.getD j false = true → ∃ v, a.tmps[d]? = some v ∧ R j v w) → wpAny P .any l.toArray Q fuel listed a w := by
  intro fuel
  have fin : ∀ (listed : Array Bool) (a : Act) (w : World), listed.size = l.length → C w → Same l a0 a → (∀ j oj d, l[j]? = some oj → oj.dst = some d → listed.getD j false = true → ∃ v, a.tmps[d]? = some v ∧ R j v w) → Region.ready .any l.toArray listed = [] → Q .normal a w :=
    fun listed a w hs hC hS hR hr => h.last a w hC hS fun j oj d hj hd => hR j oj d hj hd (all_listed h hs hr j (List.getElem?_eq_some_iff.1 hj).1)
  induction fuel with
  | zero =>
    intro listed a w hs hc hC hS hR
    have hr : Region.ready .any l.toArray listed = [] := by
      rw [List.eq_nil_iff_forall_not_mem]
      intro j hj
      have h1 := (mem_ready.1 hj).1
      have hlt : j < listed.size := by
        rcases Nat.lt_or_ge j listed.size with h' | h'
        · exact h'
        · simp [Array.getElem?_eq_none h'] at h1
      have : false ∈ listed.toList := by
        simp [hlt] at h1
        rw [← h1]; simp
      have := List.count_pos_iff.2 this
      omega
    exact ⟨hr, fin listed a w hs hC hS hR hr⟩
  | succ fuel ih =>
    intro listed a w hs hc hC hS hR
    refine ⟨fin listed a w hs hC hS hR, fun i hi => ?_⟩
    obtain ⟨hun, o, ho, hall⟩ := mem_ready.1 hi
    have ho' : l[i]? = some o := by simpa using ho
    have hlt : i < listed.size := by
      rcases Nat.lt_or_ge i listed.size with h' | h'
      · exact h'
      · simp [Array.getElem?_eq_none h'] at hun
    have hob := h.ob i o ho' a w hC hS (fun j oj d hj hd he => hR j oj d hj hd (by
      simp only [Array.any_eq_true', Bool.and_eq_true, beq_iff_eq] at he
      obtain ⟨e, he, hb, rfl⟩ := he
      exact hall e he hb))
    refine wpOp_step ho fun K' hK => ?_
    refine hob K' fun v w' hG hRv => hK _ _ ?_
    have hC' := h.keep _ _ hC hG
    refine ih _ _ _ (by simpa using hs) ?_ hC' (hS.put ho' v) ?_
    · have hl : i < listed.toList.length := by simpa using hlt
      have hf : listed.toList[i] = false := by simp [hlt] at hun; simpa using hun
      rw [Array.toList_setIfInBounds, List.count_set hl]
      have hp : 0 < listed.toList.count false := List.count_pos_iff.2 (hf ▸ List.getElem_mem hl)
      simp [hf]
      simp at hp hc
      omega
    · intro j oj d hj hd hlj
      by_cases hij : i = j
      · subst hij
        obtain rfl : o = oj := by rw [ho'] at hj; exact Option.some.inj hj
        rw [hd, put_same (by rw [hS.size]; exact inside_at h.inside hj hd)]
        exact ⟨_, rfl, hRv⟩
      · rw [put_other (fun he => hij (nodup_at h.nodup ho' hj he hd))]
        obtain ⟨v', h1, h2⟩ := hR j oj d hj hd (by rw [getD_set_ne false hij] at hlj; exact hlj)
        exact ⟨v', h1, h.stable _ _ _ _ hG h2⟩

/-- THE LAW. -/
theorem wp_region_pairs {id : Nat} {w : World} (hm : P.follows .mixedOrders = true) (hC : C w.drew) (h : Good P l R C G Q a0) : (Code.region id l.toArray true).wp P Q a0 w := by
  refine wp_region_any hm ?_
  refine wpAny_of h _ _ _ _ (by simp) (by simp) hC ⟨rfl, rfl, fun _ _ => rfl⟩ ?_
  intro j oj d hj _ hl
  have := (List.getElem?_eq_some_iff.1 hj).1
  simp [this] at hl

/-! ### For the walk -/
def markR (ms : List (Value → World → Prop)) (i : Nat) (v : Value) (w : World) : Prop := (ms.getD i fun _ _ => True) v w
def Obs (P : Program) (l : List Oper) (R : Nat → Value → World → Prop) (C : World → Prop) (G : World → World → Prop) (Q : Exit → Act → World → Prop) (a0 : Act) : Nat → List Oper → Prop
  | _, [] => True
  | k, o :: os => Ob P l R C G Q a0 k o ∧ Obs P l R C G Q a0 (k + 1) os
theorem Obs.at : ∀ {os : List Oper} {k : Nat}, Obs P l R C G Q a0 k os → ∀ i o, os[i]? = some o → Ob P l R C G Q a0 (k + i) o := by
  intro os
  induction os with
  | nil => intro k _ i o h; simp at h
  | cons x os ih =>
    intro k h i o hi
    cases i with
    | zero => simp at hi; subst hi; exact h.1
    | succ i => simp at hi; have := ih h.2 i o hi; rw [show k + (i + 1) = k + 1 + i by omega]; exact this
theorem Obs.all (h : Obs P l R C G Q a0 0 l) : ∀ i o, l[i]? = some o → Ob P l R C G Q a0 i o := fun i o hi => by
  have := h.at i o hi
  rwa [Nat.zero_add] at this
theorem Obs.nil {k : Nat} : Obs P l R C G Q a0 k [] := trivial
theorem Obs.cons {k k' : Nat} {o : Oper} {os : List Oper} (hk : k + 1 = k') (h : Ob P l R C G Q a0 k o) (hs : Obs P l R C G Q a0 k' os) : Obs P l R C G Q a0 k (o :: os) := ⟨h, hk ▸ hs⟩
def StableL (G : World → World → Prop) : List (Value → World → Prop) → Prop
  | [] => True
  | f :: fs => (∀ v w w', G w w' → f v w → f v w') ∧ StableL G fs
theorem StableL.all {ms : List (Value → World → Prop)} (h : StableL G ms) : ∀ i v w w', G w w' → markR ms i v w → markR ms i v w' := by
  induction ms with
  | nil => intro i v w w' _ _; simp [markR]
  | cons f fs ih =>
    intro i v w w' hG hm
    cases i with
    | zero => exact h.1 v w w' hG hm
    | succ i => exact ih h.2 i v w w' hG hm
theorem wanted_plain {o : Oper} {y : Nat → Option Bool} (h : o.guard = none) : Region.wanted o y = true := by simp [Region.wanted, h]
theorem wanted_guard {o og : Oper} {tmps : Array Value} {g : Nat} {want b : Bool} {t : Tmp} (h : o.guard = some (g, want)) (hg : l[g]? = some og) (ht : og.dst = some t) (hv : tmps[t]? = some (.bool b)) :
    Region.wanted o (yielded l.toArray tmps) = (b == want) := by
  simp [Region.wanted, h, yielded, hg, ht, hv]
  try cases b <;> cases want <;> rfl
end
end Go.Pairs
