/- Joined: PairL, PairN, FdA, FdB. -/
import Derived.Test.YtifgiclnofdnkaaGreatDoorBy23
import Derived.Test.YtifgiclnofdnkaaGreatDoorBy07
import Derived.Lib.DecodeN
import Derived.Shelf.GgClosure.StringsTrimFunc
import Derived.Shelf.GgClosure.StringsIndexFuncTop
import Derived.Laws.RangeAny
import Derived.Test.YtifgiclnofdnkaaGreatDoorLaidF
import Derived.Shelf.Strings.Runes
import Derived.Lib.IndexAny
namespace Go.Pairs
open Go
section
variable (P : Program) (l : List Oper) (n : Nat) (R : Nat → Value → World → Prop) (till : Nat → Option Nat) (D : World → Prop) (G : Nat → World → World → Prop) (Q : Exit → Act → World → Prop) (a0 : Act)
structure GoodL : Prop where
 nodup : nodupB (l.filterMap (·.dst)) = true
 on : onB 0 l = true
 inside : insideB a0.tmps.size l = true
 len : l.length = n + 1
 all : (List.range n).all (fun j => (l[n]?).any (fun o => waitsB o j)) = true
 keep : ∀ i w w', D w → G i w w' → D w'
 stable : ∀ i j, i ≠ j → till j ≠ some i → ∀ v w w', G i w w' → R j v w → R j v w'
 ob : ∀ i o, i < n → l[i]? = some o → ObT P l R till D G Q a0 i o
 last : ∀ o, l[n]? = some o → ∀ a w, D w → Same l a0 a → (∀ j oj d, j < n → l[j]? = some oj → oj.dst = some d → till j = none → ∃ v, a.tmps[d]? = some v ∧ R j v w) →
  ∀ K : Act → World → Prop, (∀ v w', Q .normal (a.put o.dst v) w' → K (a.put o.dst v) w') → if Region.wanted o (yielded l.toArray a.tmps) = true then o.wp P a w K Q else K (a.put o.dst undef) w
variable {P l n R till D G Q a0}
theorem GoodL.waits (h : GoodL P l n R till D G Q a0) {o : Oper} (ho : l[n]? = some o) {j : Nat} (hj : j < n) : waitsB o j = true := by
 have := List.all_eq_true.1 h.all j (List.mem_range.2 hj)
 rw [ho] at this
 simpa using this
theorem GoodL.goodF (h : GoodL P l n R till D G Q a0) : GoodF P l (fun ld a w => (ld n = false → CT l R till D a0 ld a w) ∧ (ld n = true → Q .normal a w)) Q a0 where
 on := h.on
 ob := fun i o ho ld a w hC hif hw hcl hS K hK => by
  by_cases hin : i = n
  ·
   subst hin
   obtain ⟨hD, -, hR⟩ := hC.1 hif
   refine h.last o ho a w hD hS (fun j oj d hjn hj hd htl => ?_) K fun v w' hq => hK _ _ ⟨fun hf => ?_, fun _ => hq⟩
   ·
    refine hR j oj d hj hd (hw j (h.waits ho hjn)) fun t ht => ?_
    rw [htl] at ht; cases ht
   ·
    unfold come at hf; rw [if_pos rfl] at hf; cases hf
  ·
   have hlt : i < n := by
    have := (List.getElem?_eq_some_iff.1 ho).1
    have := h.len
    omega
   have hn : ld n = false := by
    rcases hb : ld n with _ | _
    ·
     rfl
    ·
     have hl : n < l.length := by have := h.len; omega
     have := hcl n l[n] i (List.getElem?_eq_getElem hl) hb (h.waits (List.getElem?_eq_getElem hl) hlt)
     rw [hif] at this; cases this
   have hC := hC.1 hn
   refine h.ob i o hlt ho a w hC.1 hC.2.1 (fun j oj d hj hd hwj hlv => ?_) K fun v w' hG hRv => hK _ _ ⟨fun _ => ⟨h.keep _ _ _ hC.1 hG, hS.put ho v, ?_⟩, fun ht => ?_⟩
   ·
    refine hC.2.2 j oj d hj hd (hw j hwj) fun t ht => ?_
    rcases live_at hlv t ht with e | ⟨ot, e1, e2⟩
    ·
     subst e; exact hif
    ·
     rcases hb : ld t with _ | _
     ·
      rfl
     ·
      have := hcl t ot i e1 hb e2
      rw [hif] at this; cases this
   ·
    intro j oj d hj hd hl htl
    unfold come at hl htl
    by_cases hij : j = i
    ·
     subst hij
     obtain rfl : o = oj := by rw [ho] at hj; exact Option.some.inj hj
     rw [hd, put_same (by rw [hS.size]; exact inside_at h.inside hj hd)]
     exact ⟨_, rfl, hRv⟩
    ·
     rw [if_neg hij] at hl
     rw [put_other (fun he => hij (nodup_at h.nodup ho hj he hd).symm)]
     obtain ⟨v', h1, h2⟩ := hC.2.2 j oj d hj hd hl fun t ht => by
      have := htl t ht
      by_cases hti : t = i
      ·
       rw [if_pos hti] at this; cases this
      ·
       rwa [if_neg hti] at this
     refine ⟨v', h1, h.stable i j (fun e => hij e.symm) (fun e => ?_) _ _ _ hG h2⟩
     have := htl i e
     rw [if_pos rfl] at this; cases this
   ·
    unfold come at ht; rw [if_neg (fun e => hin e.symm), hn] at ht; cases ht
 last := fun ld a w hC hall hS => hC.2 (hall n (by have := h.len; omega))
def ObsU (P : Program) (l : List Oper) (R : Nat → Value → World → Prop) (till : Nat → Option Nat) (D : World → Prop) (G : Nat → World → World → Prop) (Q : Exit → Act → World → Prop) (a0 : Act) : Nat → Nat → List Oper → Prop
 | _, 0, _ => True
 | _, _, [] => True
 | k, m + 1, o :: os => ObT P l R till D G Q a0 k o ∧ ObsU P l R till D G Q a0 (k + 1) m os
theorem ObsU.at : ∀ {os : List Oper} {k m : Nat}, ObsU P l R till D G Q a0 k m os → ∀ i o, i < m → os[i]? = some o → ObT P l R till D G Q a0 (k + i) o := by
 intro os
 induction os with
 | nil => intro k m _ i o _ h; simp at h
 | cons x os ih =>
  intro k m h i o hi ho
  cases m with
  | zero => omega
  | succ m =>
   cases i with
   | zero => simp at ho; subst ho; exact h.1
   | succ i => simp at ho; have := ih h.2 i o (by omega) ho; rw [show k + (i + 1) = k + 1 + i by omega]; exact this
theorem ObsU.all (h : ObsU P l R till D G Q a0 0 n l) : ∀ i o, i < n → l[i]? = some o → ObT P l R till D G Q a0 i o := fun i o hi ho => by
 have := h.at i o hi ho
 rwa [Nat.zero_add] at this
theorem ObsU.nil {k : Nat} {os : List Oper} : ObsU P l R till D G Q a0 k 0 os := by unfold ObsU; trivial
theorem ObsU.cons {k k' m : Nat} {o : Oper} {os : List Oper} (hk : k + 1 = k') (h : ObT P l R till D G Q a0 k o) (hs : ObsU P l R till D G Q a0 k' m os) : ObsU P l R till D G Q a0 k (m + 1) (o :: os) := ⟨h, hk ▸ hs⟩
end
end Go.Pairs
namespace Go.Pairs
open Go
section
variable (P : Program) (l : List Oper) (x y : Nat) (dx : Tmp) (R : Nat → Value → World → Prop) (S : Value → World → Prop) (till : Nat → Option Nat) (D : World → Prop) (G : Nat → World → World → Prop) (Q : Exit → Act → World → Prop) (a0 : Act)
structure GoodX : Prop where
 nodup : nodupB (l.filterMap (·.dst)) = true
 on : onB 0 l = true
 inside : insideB a0.tmps.size l = true
 hx : (l[x]?).bind (·.dst) = some dx
 wyx : ((l[y]?).any (fun o => waitsB o x)) = true
 hxy : x ≠ y
 keep : ∀ i w w', D w → G i w w' → D w'
 stable : ∀ i j, i ≠ j → till j ≠ some i → ∀ v w w', G i w w' → R j v w → R j v w'
 sst : ∀ i, i ≠ y → ∀ v w w', G i w w' → S v w → S v w'
 ob : ∀ i o, l[i]? = some o → i = y ∨ ObT P l R till D G Q a0 i o
 oby : ∀ o, l[y]? = some o → ∀ a w, D w → Same l a0 a → (∀ j oj d, l[j]? = some oj → oj.dst = some d → waitsB o j = true → liveB till l y j = true → ∃ v, a.tmps[d]? = some v ∧ R j v w) →
  ∀ K : Act → World → Prop, (∀ v w', G y w w' → R y v w' → (∃ u, a.tmps[dx]? = some u ∧ S u w') → K (a.put o.dst v) w') → if Region.wanted o (yielded l.toArray a.tmps) = true then o.wp P a w K Q else K (a.put o.dst undef) w
 last : ∀ a w, D w → Same l a0 a → (∀ j oj d, l[j]? = some oj → oj.dst = some d → till j = none → ∃ v, a.tmps[d]? = some v ∧ R j v w) → (∃ v, a.tmps[dx]? = some v ∧ S v w) → Q .normal a w
variable {P l x y dx R S till D G Q a0}
theorem CT_step {i : Nat} {o : Oper} {ld : Nat → Bool} {a : Act} {w w' : World} {v : Value} (nodup : nodupB (l.filterMap (·.dst)) = true) (inside : insideB a0.tmps.size l = true) (keep : ∀ i w w', D w → G i w w' → D w')
  (stable : ∀ i j, i ≠ j → till j ≠ some i → ∀ v w w', G i w w' → R j v w → R j v w') (ho : l[i]? = some o) (hS : Same l a0 a) (hC : CT l R till D a0 ld a w) (hG : G i w w') (hRv : R i v w') : CT l R till D a0 (come ld i) (a.put o.dst v) w' := by
 refine ⟨keep _ _ _ hC.1 hG, hS.put ho v, ?_⟩
 intro j oj d hj hd hl htl
 unfold come at hl htl
 by_cases hij : j = i
 ·
  subst hij
  obtain rfl : o = oj := by rw [ho] at hj; exact Option.some.inj hj
  rw [hd, put_same (by rw [hS.size]; exact inside_at inside hj hd)]
  exact ⟨_, rfl, hRv⟩
 ·
  rw [if_neg hij] at hl
  rw [put_other (fun he => hij (nodup_at nodup ho hj he hd).symm)]
  obtain ⟨v', h1, h2⟩ := hC.2.2 j oj d hj hd hl fun t ht => by
   have := htl t ht
   by_cases hti : t = i
   ·
    rw [if_pos hti] at this; cases this
   ·
    rwa [if_neg hti] at this
  refine ⟨v', h1, stable i j (fun e => hij e.symm) (fun e => ?_) _ _ _ hG h2⟩
  have := htl i e
  rw [if_pos rfl] at this; cases this
theorem CT_marks {i : Nat} {o : Oper} {ld : Nat → Bool} {a : Act} {w : World} (hC : CT l R till D a0 ld a w) (hif : ld i = false) (hw : ∀ j, waitsB o j = true → ld j = true) (hcl : Closed l ld) :
  ∀ j oj d, l[j]? = some oj → oj.dst = some d → waitsB o j = true → liveB till l i j = true → ∃ v, a.tmps[d]? = some v ∧ R j v w := by
 intro j oj d hj hd hwj hlv
 refine hC.2.2 j oj d hj hd (hw j hwj) fun t ht => ?_
 rcases live_at hlv t ht with e | ⟨ot, e1, e2⟩
 ·
  subst e; exact hif
 ·
  rcases hb : ld t with _ | _
  ·
   rfl
  ·
   have := hcl t ot i e1 hb e2
   rw [hif] at this; cases this
theorem GoodX.goodF (h : GoodX P l x y dx R S till D G Q a0) : GoodF P l (fun ld a w => CT l R till D a0 ld a w ∧ (ld y = true → ∃ v, a.tmps[dx]? = some v ∧ S v w)) Q a0 where
 on := h.on
 ob := fun i o ho ld a w hC hif hw hcl hS K hK => by
  obtain ⟨ox, hox, hdx⟩ : ∃ ox, l[x]? = some ox ∧ ox.dst = some dx := by
   have := h.hx
   cases hl : l[x]? with
   | none => rw [hl] at this; cases this
   | some ox => rw [hl] at this; exact ⟨ox, rfl, this⟩
  have hm := CT_marks hC.1 hif hw hcl
  by_cases hiy : i = y
  ·
   subst hiy
   refine h.oby o ho a w hC.1.1 hS hm K fun v w' hG hRv hu => hK _ _ ⟨CT_step h.nodup h.inside h.keep h.stable ho hS hC.1 hG hRv, fun _ => ?_⟩
   obtain ⟨u, hu, hs⟩ := hu
   refine ⟨u, ?_, hs⟩
   rw [put_other (fun he => h.hxy (nodup_at h.nodup hox ho hdx he))]
   exact hu
  ·
   have hob := (h.ob i o ho).resolve_left hiy
   refine hob a w hC.1.1 hS hm K fun v w' hG hRv => hK _ _ ⟨CT_step h.nodup h.inside h.keep h.stable ho hS hC.1 hG hRv, fun hy => ?_⟩
   unfold come at hy
   rw [if_neg (fun e => hiy e.symm)] at hy
   obtain ⟨u, hu, hs⟩ := hC.2 hy
   have hix : i ≠ x := by
    rintro rfl
    have hwy := h.wyx
    cases hl : l[y]? with
    | none => rw [hl] at hwy; cases hwy
    | some oy =>
     rw [hl] at hwy
     have := hcl y oy i hl hy (by simpa using hwy)
     rw [hif] at this; cases this
   refine ⟨u, ?_, h.sst i hiy _ _ _ hG hs⟩
   rw [put_other (fun he => hix (nodup_at h.nodup ho hox he hdx))]
   exact hu
 last := fun ld a w hC hall hS => h.last a w hC.1.1 hS (fun j oj d hj hd htl =>
  hC.1.2.2 j oj d hj hd (hall j (List.getElem?_eq_some_iff.1 hj).1) fun t ht => by rw [htl] at ht; cases ht) (hC.2 (hall y (by
   have hwy := h.wyx
   cases hl : l[y]? with
   | none => rw [hl] at hwy; cases hwy
   | some oy => exact (List.getElem?_eq_some_iff.1 hl).1)))
theorem wp_region_tie {id : Nat} {w : World} (hm : P.follows .mixedOrders = true) (hD : D w.drew) (h : GoodX P l x y dx R S till D G Q a0) : (Code.region id l.toArray true).wp P Q a0 w :=
 wp_region_frame (C := fun ld a w => CT l R till D a0 ld a w ∧ (ld y = true → ∃ v, a.tmps[dx]? = some v ∧ S v w)) hm ⟨⟨hD, ⟨rfl, rfl, fun _ _ => rfl⟩, fun _ _ _ _ _ hl => by cases hl⟩, fun hl => by cases hl⟩ h.goodF
def ObsX (P : Program) (l : List Oper) (y : Nat) (R : Nat → Value → World → Prop) (till : Nat → Option Nat) (D : World → Prop) (G : Nat → World → World → Prop) (Q : Exit → Act → World → Prop) (a0 : Act) : Nat → List Oper → Prop
 | _, [] => True
 | k, o :: os => (k = y ∨ ObT P l R till D G Q a0 k o) ∧ ObsX P l y R till D G Q a0 (k + 1) os
theorem ObsX.at : ∀ {os : List Oper} {k : Nat}, ObsX P l y R till D G Q a0 k os → ∀ i o, os[i]? = some o → (k + i) = y ∨ ObT P l R till D G Q a0 (k + i) o := by
 intro os
 induction os with
 | nil => intro k _ i o h; simp at h
 | cons z os ih =>
  intro k h i o hi
  cases i with
  | zero => simp at hi; subst hi; exact h.1
  | succ i => simp at hi; have := ih h.2 i o hi; rw [show k + (i + 1) = k + 1 + i by omega]; exact this
theorem ObsX.all (h : ObsX P l y R till D G Q a0 0 l) : ∀ i o, l[i]? = some o → i = y ∨ ObT P l R till D G Q a0 i o := fun i o hi => by
 have := h.at i o hi
 rwa [Nat.zero_add] at this
theorem ObsX.nil {k : Nat} : ObsX P l y R till D G Q a0 k [] := trivial
theorem ObsX.cons {k k' : Nat} {o : Oper} {os : List Oper} (hk : k + 1 = k') (h : ObT P l R till D G Q a0 k o) (hs : ObsX P l y R till D G Q a0 k' os) : ObsX P l y R till D G Q a0 k (o :: os) := ⟨.inr h, hk ▸ hs⟩
theorem ObsX.skip {k k' : Nat} {o : Oper} {os : List Oper} (hk : k + 1 = k') (h : k = y) (hs : ObsX P l y R till D G Q a0 k' os) : ObsX P l y R till D G Q a0 k (o :: os) := ⟨.inl h, hk ▸ hs⟩
end
end Go.Pairs
set_option linter.unusedVariables false
set_option linter.unusedSimpArgs false
namespace Go.Proofs.YtifgiclnofdnkaaGreatDoor
open Go.RowKit
namespace Fd
theorem decode_low (s : ByteArray) (pos : Nat) (h : pos < s.size) (ha : (s[pos]'h).toNat < 128) : Utf8.decode s pos = ((s[pos]'h).toNat, 1) := by
 simp only [Utf8.decode, get_at s pos h, ha, if_true]
def fi (Q : UInt8 → Bool) : List UInt8 → Int → Int
 | [], _ => -1
 | c :: t, k => if Q c = true then k else fi Q t (k + 1)
theorem dn (n b0 b1 b2 b3 : Nat) (h : 128 ≤ b0) (n1 : 1 ≤ n) : (Lib.decodeN n b0 b1 b2 b3).2 ≤ n ∧ (Lib.decodeN n b0 b1 b2 b3).2 ≤ 4 ∧ (2 ≤ (Lib.decodeN n b0 b1 b2 b3).2 → 128 ≤ b1) ∧ (3 ≤ (Lib.decodeN n b0 b1 b2 b3).2 → 128 ≤ b2) ∧ (4 ≤ (Lib.decodeN n b0 b1 b2 b3).2 → 128 ≤ b3) := by
 unfold Lib.decodeN
 repeat' split
 all_goals (refine ⟨?_, ?_, ?_, ?_, ?_⟩ <;> simp only [] <;> omega)
theorem dec_high (s : ByteArray) (pos : Nat) (h : pos < s.size) (ha : 128 ≤ (s[pos]'h).toNat) : (Utf8.decode s pos).2 ≤ s.size - pos ∧ ∀ j, j < (Utf8.decode s pos).2 → ∀ hj : pos + j < s.size, 128 ≤ (s[pos + j]'hj).toNat := by
 rw [Lib.decode_at]
 have e : s.get! pos = s[pos]'h := get_at s pos h
 obtain ⟨d1, d2, d3, d4, d5⟩ := dn (s.size - pos) (s.get! pos).toNat (s.get! (pos + 1)).toNat (s.get! (pos + 2)).toNat (s.get! (pos + 3)).toNat (by rw [e]; exact ha) (by omega)
 refine ⟨d1, fun j hj hb => ?_⟩
 have e2 : s.get! (pos + j) = s[pos + j]'hb := get_at s (pos + j) hb
 rw [← e2]
 obtain rfl | rfl | rfl | rfl : j = 0 ∨ j = 1 ∨ j = 2 ∨ j = 3 := by omega
 ·
  show 128 ≤ (s.get! pos).toNat
  rw [e]; exact ha
 ·
  exact d3 (by omega)
 ·
  exact d4 (by omega)
 ·
  exact d5 (by omega)
theorem skip (Q : UInt8 → Bool) (s : ByteArray) : ∀ (K pos : Nat), pos + K ≤ s.size → (∀ j, j < K → ∀ hj : pos + j < s.size, Q (s[pos + j]'hj) = false) → fi Q (s.data.toList.drop pos) pos = fi Q (s.data.toList.drop (pos + K)) ((pos + K : Nat) : Int)
 | 0, pos, _, _ => rfl
 | K + 1, pos, h, hq => by
  rw [fd_drop s pos (by omega)]
  have h0 : Q (s[pos]'(by omega)) = false := hq 0 (by omega) (by omega)
  have hf : fi Q ((s[pos]'(by omega)) :: s.data.toList.drop (pos + 1)) pos = fi Q (s.data.toList.drop (pos + 1)) ((pos + 1 : Nat) : Int) := if_neg (by rw [h0]; decide)
  rw [hf]
  have r := skip Q s K (pos + 1) (by omega) (fun j hj hb => by
   have := hq (j + 1) (by omega) (by omega)
   simp only [show pos + (j + 1) = pos + 1 + j by omega] at this
   exact this)
  rw [show pos + (K + 1) = pos + 1 + K by omega, ← r]
theorem idx_yes (P : Nat → Bool) (hP : ∀ r, 128 ≤ r → P r = false) (s : ByteArray) : ∀ (f pos : Nat), s.size - pos ≤ f → Lib.idxFuncFrom P true s f pos = fi (fun c => P c.toNat) (s.data.toList.drop pos) pos
 | 0, pos, h => by
  rw [List.drop_of_length_le (by rw [fd_len]; omega)]
  rfl
 | f + 1, pos, h => by
  unfold Lib.idxFuncFrom
  by_cases hp : pos < s.size
  ·
   rw [if_pos hp]
   by_cases ha : (s[pos]'hp).toNat < 128
   ·
    rw [decode_low s pos hp ha, fd_drop s pos hp]
    unfold fi
    by_cases hq : P (s[pos]'hp).toNat = true
    ·
     rw [if_pos hq, if_pos hq]
    ·
     rw [if_neg hq, if_neg hq, idx_yes P hP s f (pos + 1) (by omega)]; rfl
   ·
    obtain ⟨r1, r2⟩ := decode_high s pos hp (by omega)
    obtain ⟨z1, z2⟩ := dec_high s pos hp (by omega)
    rw [if_neg (by rw [hP _ r1]; decide), idx_yes P hP s f _ (by omega)]
    exact (skip (fun c => P c.toNat) s _ pos (by omega) (fun j hj hb => hP _ (z2 j hj hb))).symm
  ·
   rw [if_neg hp, List.drop_of_length_le (by rw [fd_len]; omega)]
   rfl
theorem idx_no (P : Nat → Bool) (hP : ∀ r, 128 ≤ r → P r = false) (s : ByteArray) : ∀ (f pos : Nat), s.size - pos ≤ f → Lib.idxFuncFrom P false s f pos = fi (fun c => !P c.toNat) (s.data.toList.drop pos) pos
 | 0, pos, h => by
  rw [List.drop_of_length_le (by rw [fd_len]; omega)]
  rfl
 | f + 1, pos, h => by
  unfold Lib.idxFuncFrom
  by_cases hp : pos < s.size
  ·
   rw [if_pos hp, fd_drop s pos hp]
   by_cases ha : (s[pos]'hp).toNat < 128
   ·
    rw [decode_low s pos hp ha]
    unfold fi
    cases hq : P (s[pos]'hp).toNat
    ·
     rw [if_pos rfl]; rfl
    ·
     rw [if_neg (by decide), if_neg (by decide), idx_no P hP s f (pos + 1) (by omega)]; rfl
   ·
    obtain ⟨r1, r2⟩ := decode_high s pos hp (by omega)
    unfold fi
    rw [if_pos (hP _ r1), if_pos (by show (!P (s[pos]'hp).toNat) = true; rw [hP _ (by omega)]; rfl)]
  ·
   rw [if_neg hp, List.drop_of_length_le (by rw [fd_len]; omega)]
   rfl
theorem idx_mark (s : ByteArray) : Lib.idxFunc isK true s = fi (fun c => isK c.toNat) s.data.toList 0 := idx_yes isK (fun r h => by unfold isK; simp; omega) s s.size 0 (by omega)
theorem idx_blank (s : ByteArray) : Lib.idxFunc isW false s = fi (fun c => !isW c.toNat) s.data.toList 0 := idx_no isW (fun r h => by unfold isW; simp; omega) s s.size 0 (by omega)
end Fd
theorem isBlank_any (r : Nat) (w : World) : Calls Tryz.prog 103 #[.int .i32 (r : Int)] w fun e w' => e = .returned (.bool (Fd.isW r)) ∧ w = w' := by
 by_cases h1 : r = 32 <;> by_cases h2 : r = 9
 all_goals
  have z1 : ((r : Int) == 32) = decide (r = 32) := by rw [Bool.eq_iff_iff, beq_iff_eq, decide_eq_true_eq]; omega
  have z2 : ((r : Int) == 9) = decide (r = 9) := by rw [Bool.eq_iff_iff, beq_iff_eq, decide_eq_true_eq]; omega
  have z3 : (r : Int) = 32 ↔ r = 32 := by omega
  have z4 : (r : Int) = 9 ↔ r = 9 := by omega
  go_enter Tryz.func103, Tryz.ntmps103
  go_wp2
  all_goals first | (exfalso; omega) | (go_ret; exact ⟨by simp [Fd.isW, h1, h2], rfl⟩)
theorem isBlank_at (w : World) : PredAt Tryz.prog 103 #[] encR Fd.isW w := fun W r _ => by
 unfold FnGives
 exact (isBlank_any r W).mono fun e w' ⟨h, h2⟩ => ⟨h, 0, h2.symm⟩
theorem isMark_at (w : World) : PredAt Tryz.prog 77 #[] encR Fd.isK w := fun W r _ => by
 unfold FnGives
 have C := Lib.hid (fun W => isBlank_any r W)
 show Calls Tryz.prog 77 #[.int .i32 (r : Int)] W _
 have hw : Fd.isK r = (Fd.isW r || (decide (r = 34) || decide (r = 35))) := rfl
 rw [hw]
 generalize Fd.isW r = b at C ⊢
 have z1 : ((r : Int) == 34) = decide (r = 34) := by rw [Bool.eq_iff_iff, beq_iff_eq, decide_eq_true_eq]; omega
 have z2 : ((r : Int) == 35) = decide (r = 35) := by rw [Bool.eq_iff_iff, beq_iff_eq, decide_eq_true_eq]; omega
 generalize decide (r = 34) = b1 at z1 ⊢
 generalize decide (r = 35) = b2 at z2 ⊢
 generalize (r : Int) = R at z1 z2 C ⊢
 cases b
 ·
  cases b1 <;> cases b2
  all_goals
   go_enter Tryz.func77, Tryz.ntmps77
   go_wp2_with fail
   refine (C.out _).mono ?_; rintro e w1 ⟨rfl, rfl⟩
   go_wp2_with fail
   go_ret
   exact ⟨rfl, 0, rfl⟩
 ·
  rw [Bool.true_or]
  go_enter Tryz.func77, Tryz.ntmps77
  go_wp2_with fail
  refine (C.out _).mono ?_; rintro e w1 ⟨rfl, rfl⟩
  go_wp2_with fail
  go_ret
  exact ⟨rfl, 0, rfl⟩
namespace Fd
theorem fi_any (Q : UInt8 → Bool) : ∀ (l : List UInt8) (k : Int), 0 ≤ k → decide (0 ≤ fi Q l k) = l.any Q
 | [], k, h => rfl
 | c :: t, k, h => by
  unfold fi
  rw [List.any_cons]
  cases hq : Q c
  ·
   rw [if_neg (by decide), fi_any Q t (k + 1) (by omega)]; rfl
  ·
   rw [if_pos rfl, decide_eq_true h]; rfl
end Fd
theorem containsMark (s : ByteArray) (w : World) :
  Calls Tryz.prog 76 #[.string s, .func (.func 77) #[] #[]] w fun e w' => e = .returned (.bool (s.data.toList.any Fd.mkB)) ∧ Below w.heap.size w w' := by
 have : s.data.toList.any Fd.mkB = decide (0 ≤ Lib.idxFunc Fd.isK true s) := by rw [Fd.idx_mark, Fd.fi_any _ _ 0 (by omega)]; rfl
 rw [this]
 exact (Any.strings_ContainsFunc Tryz.laysGw17 77 #[] (enters_of Tryz.func77 (by kernel_rfl) rfl) Fd.isK s w (isMark_at w)).mono fun _ _ ⟨a, h⟩ => ⟨a, h⟩
theorem containsQuote (s : ByteArray) (w : World) :
  Calls Tryz.prog 75 #[.string s, .int .i32 34] w fun e w' => e = .returned (.bool (s.data.toList.contains 34)) ∧ w = w' := by
 rw [Lib.contains_iff_indexByte]
 exact (Any.strings_ContainsRune_ascii Tryz.lays151 s 34 w (by omega) (by omega)).mono fun _ _ ⟨a, h⟩ => ⟨a, h.symm⟩
set_option maxHeartbeats 4000000 in
theorem fdtext_any (s : ByteArray) (w : World) (hs : s.size ≤ 100000000) :
  Calls Tryz.prog 44 #[.string s] w fun e w' => e = .returned (.tuple #[.string ⟨(Fd.tx s.data.toList).1.toArray⟩, .int .i64 (Fd.tx s.data.toList).2]) ∧ Below w.heap.size w w' := by
 have CQ := Lib.hid (fun W => containsQuote s W)
 have CM := Lib.hid (fun W => containsMark s W)
 unfold Fd.tx
 cases hc : s.data.toList.contains 34
 ·
  rw [hc] at CQ
  rw [if_neg (by decide)]
  by_cases h0 : s.data.toList = []
  ·
   rw [if_pos (.inl h0)]
   obtain rfl : s = ⟨#[]⟩ := by apply ByteArray.ext; apply Array.toList_inj.1; rw [h0]
   clear h0 hc CM
   go_enter Tryz.func44, Tryz.ntmps44
   go_wp2_with fail
   refine (CQ.out _).mono ?_; rintro e w1 ⟨rfl, rfl⟩
   go_wp2_with fail
   go_ret2
   exact ⟨rfl, Below.refl _ _⟩
  ·
   have hp : 0 < s.size := by
    rcases Nat.eq_zero_or_pos s.size with h | h
    ·
     exact absurd (by rw [← List.length_eq_zero_iff, fd_len]; exact h) h0
    ·
     exact h
   obtain ⟨n1, n2⟩ := fd_ne hp
   cases hm : s.data.toList.any Fd.mkB
   ·
    rw [hm] at CM
    rw [if_neg (fun h => by rcases h with h | h; exact h0 h; cases h)]
    show Calls _ _ _ _ fun e w' => e = .returned (.tuple #[.string ⟨s.data.toList.toArray⟩, .int .i64 0]) ∧ Below w.heap.size w w'
    rw [show (⟨s.data.toList.toArray⟩ : ByteArray) = s from by apply ByteArray.ext; apply Array.toList_inj.1; simp]
    clear h0 hc hm
    go_enter Tryz.func44, Tryz.ntmps44
    go_wp2_with fail
    refine (CQ.out _).mono ?_; rintro e w1 ⟨rfl, rfl⟩
    go_wp2_with fail
    refine (CM.out _).mono ?_; rintro e w2 ⟨rfl, b2⟩
    have B2 := Lib.hid b2; clear b2
    go_wp2_with fail
    go_ret2
    exact ⟨rfl, B2.out⟩
   ·
    rw [hm] at CM
    rw [if_pos (.inr rfl)]
    show Calls _ _ _ _ fun e w' => e = .returned (.tuple #[.string ⟨(34 :: (s.data.toList ++ [34])).toArray⟩, .int .i64 0]) ∧ Below w.heap.size w w'
    have hR : (⟨(34 :: (s.data.toList ++ [34])).toArray⟩ : ByteArray) = (⟨#[34]⟩ ++ s) ++ ⟨#[34]⟩ := by
     apply ByteArray.ext; apply Array.toList_inj.1
     simp [ByteArray.data_append]
    rw [hR]
    have e1 : (⟨#[34]⟩ ++ s : ByteArray).size = 1 + s.size := by rw [ByteArray.size_append]; rfl
    clear h0 hc hm hR
    go_enter Tryz.func44, Tryz.ntmps44
    go_wp2_with fail
    refine (CQ.out _).mono ?_; rintro e w1 ⟨rfl, rfl⟩
    go_wp2_with fail
    refine (CM.out _).mono ?_; rintro e w2 ⟨rfl, b2⟩
    have B2 := Lib.hid b2; clear b2
    go_wp2_with fail
    go_ret2
    exact ⟨rfl, B2.out⟩
 ·
  rw [hc] at CQ
  rw [if_pos rfl]
  show Calls _ _ _ _ fun e w' => e = .returned (.tuple #[.string ⟨#[]⟩, .int .i64 8]) ∧ Below w.heap.size w w'
  clear hc CM
  go_enter Tryz.func44, Tryz.ntmps44
  go_wp2_with fail
  refine (CQ.out _).mono ?_; rintro e w1 ⟨rfl, rfl⟩
  go_wp2_with fail
  go_ret2
  exact ⟨rfl, Below.refl _ _⟩
end Go.Proofs.YtifgiclnofdnkaaGreatDoor
