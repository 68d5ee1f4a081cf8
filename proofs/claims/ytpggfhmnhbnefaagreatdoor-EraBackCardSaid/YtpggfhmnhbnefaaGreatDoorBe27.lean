/- Joined: BkS, RuE, GvU, RuF, RuH, YrE0, DsG, AmM0. -/
import Derived.Test.YtpggfhmnhbnefaaGreatDoorBe10
import Derived.Laws.IdiomCopy
import Derived.Test.YtpggfhmnhbnefaaGreatDoorBe17
import Derived.Test.YtpggfhmnhbnefaaGreatDoorBe23
import Derived.Test.YtpggfhmnhbnefaaGreatDoorBe02
import Derived.BigRegion
import Derived.Test.YtpggfhmnhbnefaaGreatDoorBe11
import Derived.Test.YtpggfhmnhbnefaaGreatDoorBe22
import Derived.Test.YtpggfhmnhbnefaaGreatDoorBe15
import Derived.Test.YtpggfhmnhbnefaaGreatDoorBe14
import Derived.Test.YtpggfhmnhbnefaaGreatDoorBe08
set_option linter.unusedVariables false
set_option linter.unusedSimpArgs false
namespace Go.Proofs.YtpggfhmnhbnefaaGreatDoor
open Go.RowKit
theorem Bk11.set2 {W W9 : World} {b : Nat} {v z0 z1 z2 z3 z4 z5 z6 z7 z8 z9 z10 : Value} (h : Bk11 W b z0 z1 z2 z3 z4 z5 z6 z7 z8 z9 z10) (e : W9 = W.setCell ⟨b, 2, none⟩ v) : Bk11 W9 b z0 z1 v z3 z4 z5 z6 z7 z8 z9 z10 := by
 subst e
 have hb := h.hb; have hf := h.fz
 have h0 := h.k0; have h1 := h.k1; have h2 := h.k2; have h3 := h.k3; have h4 := h.k4; have h5 := h.k5; have h6 := h.k6; have h7 := h.k7; have h8 := h.k8; have h9 := h.k9; have h10 := h.k10
 clear h
 exact ⟨by simpa using hb, fun j => by simpa using hf j, by simp [go_sem, h0], by simp [go_sem, h1], by simp [go_sem, h2], by simp [go_sem, h3], by simp [go_sem, h4], by simp [go_sem, h5], by simp [go_sem, h6], by simp [go_sem, h7], by simp [go_sem, h8], by simp [go_sem, h9], by simp [go_sem, h10]⟩
theorem Bk11.set5 {W W9 : World} {b : Nat} {v z0 z1 z2 z3 z4 z5 z6 z7 z8 z9 z10 : Value} (h : Bk11 W b z0 z1 z2 z3 z4 z5 z6 z7 z8 z9 z10) (e : W9 = W.setCell ⟨b, 5, none⟩ v) : Bk11 W9 b z0 z1 z2 z3 z4 v z6 z7 z8 z9 z10 := by
 subst e
 have hb := h.hb; have hf := h.fz
 have h0 := h.k0; have h1 := h.k1; have h2 := h.k2; have h3 := h.k3; have h4 := h.k4; have h5 := h.k5; have h6 := h.k6; have h7 := h.k7; have h8 := h.k8; have h9 := h.k9; have h10 := h.k10
 clear h
 exact ⟨by simpa using hb, fun j => by simpa using hf j, by simp [go_sem, h0], by simp [go_sem, h1], by simp [go_sem, h2], by simp [go_sem, h3], by simp [go_sem, h4], by simp [go_sem, h5], by simp [go_sem, h6], by simp [go_sem, h7], by simp [go_sem, h8], by simp [go_sem, h9], by simp [go_sem, h10]⟩
theorem Bk11.set6 {W W9 : World} {b : Nat} {v z0 z1 z2 z3 z4 z5 z6 z7 z8 z9 z10 : Value} (h : Bk11 W b z0 z1 z2 z3 z4 z5 z6 z7 z8 z9 z10) (e : W9 = W.setCell ⟨b, 6, none⟩ v) : Bk11 W9 b z0 z1 z2 z3 z4 z5 v z7 z8 z9 z10 := by
 subst e
 have hb := h.hb; have hf := h.fz
 have h0 := h.k0; have h1 := h.k1; have h2 := h.k2; have h3 := h.k3; have h4 := h.k4; have h5 := h.k5; have h6 := h.k6; have h7 := h.k7; have h8 := h.k8; have h9 := h.k9; have h10 := h.k10
 clear h
 exact ⟨by simpa using hb, fun j => by simpa using hf j, by simp [go_sem, h0], by simp [go_sem, h1], by simp [go_sem, h2], by simp [go_sem, h3], by simp [go_sem, h4], by simp [go_sem, h5], by simp [go_sem, h6], by simp [go_sem, h7], by simp [go_sem, h8], by simp [go_sem, h9], by simp [go_sem, h10]⟩
theorem Bk11.set7 {W W9 : World} {b : Nat} {v z0 z1 z2 z3 z4 z5 z6 z7 z8 z9 z10 : Value} (h : Bk11 W b z0 z1 z2 z3 z4 z5 z6 z7 z8 z9 z10) (e : W9 = W.setCell ⟨b, 7, none⟩ v) : Bk11 W9 b z0 z1 z2 z3 z4 z5 z6 v z8 z9 z10 := by
 subst e
 have hb := h.hb; have hf := h.fz
 have h0 := h.k0; have h1 := h.k1; have h2 := h.k2; have h3 := h.k3; have h4 := h.k4; have h5 := h.k5; have h6 := h.k6; have h7 := h.k7; have h8 := h.k8; have h9 := h.k9; have h10 := h.k10
 clear h
 exact ⟨by simpa using hb, fun j => by simpa using hf j, by simp [go_sem, h0], by simp [go_sem, h1], by simp [go_sem, h2], by simp [go_sem, h3], by simp [go_sem, h4], by simp [go_sem, h5], by simp [go_sem, h6], by simp [go_sem, h7], by simp [go_sem, h8], by simp [go_sem, h9], by simp [go_sem, h10]⟩
theorem Bk11.set8 {W W9 : World} {b : Nat} {v z0 z1 z2 z3 z4 z5 z6 z7 z8 z9 z10 : Value} (h : Bk11 W b z0 z1 z2 z3 z4 z5 z6 z7 z8 z9 z10) (e : W9 = W.setCell ⟨b, 8, none⟩ v) : Bk11 W9 b z0 z1 z2 z3 z4 z5 z6 z7 v z9 z10 := by
 subst e
 have hb := h.hb; have hf := h.fz
 have h0 := h.k0; have h1 := h.k1; have h2 := h.k2; have h3 := h.k3; have h4 := h.k4; have h5 := h.k5; have h6 := h.k6; have h7 := h.k7; have h8 := h.k8; have h9 := h.k9; have h10 := h.k10
 clear h
 exact ⟨by simpa using hb, fun j => by simpa using hf j, by simp [go_sem, h0], by simp [go_sem, h1], by simp [go_sem, h2], by simp [go_sem, h3], by simp [go_sem, h4], by simp [go_sem, h5], by simp [go_sem, h6], by simp [go_sem, h7], by simp [go_sem, h8], by simp [go_sem, h9], by simp [go_sem, h10]⟩
theorem Bk11.set9 {W W9 : World} {b : Nat} {v z0 z1 z2 z3 z4 z5 z6 z7 z8 z9 z10 : Value} (h : Bk11 W b z0 z1 z2 z3 z4 z5 z6 z7 z8 z9 z10) (e : W9 = W.setCell ⟨b, 9, none⟩ v) : Bk11 W9 b z0 z1 z2 z3 z4 z5 z6 z7 z8 v z10 := by
 subst e
 have hb := h.hb; have hf := h.fz
 have h0 := h.k0; have h1 := h.k1; have h2 := h.k2; have h3 := h.k3; have h4 := h.k4; have h5 := h.k5; have h6 := h.k6; have h7 := h.k7; have h8 := h.k8; have h9 := h.k9; have h10 := h.k10
 clear h
 exact ⟨by simpa using hb, fun j => by simpa using hf j, by simp [go_sem, h0], by simp [go_sem, h1], by simp [go_sem, h2], by simp [go_sem, h3], by simp [go_sem, h4], by simp [go_sem, h5], by simp [go_sem, h6], by simp [go_sem, h7], by simp [go_sem, h8], by simp [go_sem, h9], by simp [go_sem, h10]⟩
theorem Bk11.set10 {W W9 : World} {b : Nat} {v z0 z1 z2 z3 z4 z5 z6 z7 z8 z9 z10 : Value} (h : Bk11 W b z0 z1 z2 z3 z4 z5 z6 z7 z8 z9 z10) (e : W9 = W.setCell ⟨b, 10, none⟩ v) : Bk11 W9 b z0 z1 z2 z3 z4 z5 z6 z7 z8 z9 v := by
 subst e
 have hb := h.hb; have hf := h.fz
 have h0 := h.k0; have h1 := h.k1; have h2 := h.k2; have h3 := h.k3; have h4 := h.k4; have h5 := h.k5; have h6 := h.k6; have h7 := h.k7; have h8 := h.k8; have h9 := h.k9; have h10 := h.k10
 clear h
 exact ⟨by simpa using hb, fun j => by simpa using hf j, by simp [go_sem, h0], by simp [go_sem, h1], by simp [go_sem, h2], by simp [go_sem, h3], by simp [go_sem, h4], by simp [go_sem, h5], by simp [go_sem, h6], by simp [go_sem, h7], by simp [go_sem, h8], by simp [go_sem, h9], by simp [go_sem, h10]⟩
theorem Bk11.other {W W9 : World} {b c i : Nat} {v z0 z1 z2 z3 z4 z5 z6 z7 z8 z9 z10 : Value} (h : Bk11 W b z0 z1 z2 z3 z4 z5 z6 z7 z8 z9 z10) (e : W9 = W.setCell ⟨c, i, none⟩ v) (hne : c ≠ b) : Bk11 W9 b z0 z1 z2 z3 z4 z5 z6 z7 z8 z9 z10 := by
 subst e
 have hb := h.hb; have hf := h.fz; have hne2 := Ne.symm hne
 have h0 := h.k0; have h1 := h.k1; have h2 := h.k2; have h3 := h.k3; have h4 := h.k4; have h5 := h.k5; have h6 := h.k6; have h7 := h.k7; have h8 := h.k8; have h9 := h.k9; have h10 := h.k10
 clear h
 exact ⟨by simpa using hb, fun j => by simpa using hf j, by simp [go_sem, h0, hne, hne2], by simp [go_sem, h1, hne, hne2], by simp [go_sem, h2, hne, hne2], by simp [go_sem, h3, hne, hne2], by simp [go_sem, h4, hne, hne2], by simp [go_sem, h5, hne, hne2], by simp [go_sem, h6, hne, hne2], by simp [go_sem, h7, hne, hne2], by simp [go_sem, h8, hne, hne2], by simp [go_sem, h9, hne, hne2], by simp [go_sem, h10, hne, hne2]⟩
theorem set11 {W W9 : World} {b : Nat} {z0 z1 z2 z3 z4 z5 z6 z7 z8 z9 z10 v0 v1 v2 v3 v4 v5 v6 v7 v8 v9 v10 : Value} (h : Bk11 W b z0 z1 z2 z3 z4 z5 z6 z7 z8 z9 z10) (e : W9 = (((((((((((W.setCell ⟨b, 0, none⟩ v0).setCell ⟨b, 1, none⟩ v1).setCell ⟨b, 2, none⟩ v2).setCell ⟨b, 3, none⟩ v3).setCell ⟨b, 4, none⟩ v4).setCell ⟨b, 5, none⟩ v5).setCell ⟨b, 6, none⟩ v6).setCell ⟨b, 7, none⟩ v7).setCell ⟨b, 8, none⟩ v8).setCell ⟨b, 9, none⟩ v9).setCell ⟨b, 10, none⟩ v10)) : Bk11 W9 b v0 v1 v2 v3 v4 v5 v6 v7 v8 v9 v10 := by
 subst e
 have hb := h.hb; have hf := h.fz
 have h0 := h.k0; have h1 := h.k1; have h2 := h.k2; have h3 := h.k3; have h4 := h.k4; have h5 := h.k5; have h6 := h.k6; have h7 := h.k7; have h8 := h.k8; have h9 := h.k9; have h10 := h.k10
 clear h
 exact ⟨by simpa using hb, fun j => by simpa using hf j, by simp [go_sem, h0, h1, h2, h3, h4, h5, h6, h7, h8, h9, h10], by simp [go_sem, h0, h1, h2, h3, h4, h5, h6, h7, h8, h9, h10], by simp [go_sem, h0, h1, h2, h3, h4, h5, h6, h7, h8, h9, h10], by simp [go_sem, h0, h1, h2, h3, h4, h5, h6, h7, h8, h9, h10], by simp [go_sem, h0, h1, h2, h3, h4, h5, h6, h7, h8, h9, h10], by simp [go_sem, h0, h1, h2, h3, h4, h5, h6, h7, h8, h9, h10], by simp [go_sem, h0, h1, h2, h3, h4, h5, h6, h7, h8, h9, h10], by simp [go_sem, h0, h1, h2, h3, h4, h5, h6, h7, h8, h9, h10], by simp [go_sem, h0, h1, h2, h3, h4, h5, h6, h7, h8, h9, h10], by simp [go_sem, h0, h1, h2, h3, h4, h5, h6, h7, h8, h9, h10], by simp [go_sem, h0, h1, h2, h3, h4, h5, h6, h7, h8, h9, h10]⟩
section
variable {P : Program} {ops : Array Oper} {rest : List Oper} {o : Oper} {a : Act} {w : World} {Q : Exit → Act → World → Prop}
end
end Go.Proofs.YtpggfhmnhbnefaaGreatDoor
set_option linter.unusedVariables false
set_option linter.unusedSimpArgs false
namespace Go.Proofs.YtpggfhmnhbnefaaGreatDoor
open Go.RowKit Go.Sort
namespace Ru
theorem rd_nine (f0 f1 f2 f3 f4 f5 f6 f7 f8 : ByteArray) : rd [f0, f1, f2, f3, f4, f5, f6, f7, f8] = if fst (ws f0 f1 f2 f3 f4 f5 f6 f7 f8) = 0 then (rl f0 f1 f2 f4 f5 f6 f7 f8, 0) else (R0, fst (ws f0 f1 f2 f3 f4 f5 f6 f7 f8)) := rfl
theorem rd_no (l : List ByteArray) (h : (rd l).2 ≠ 0) : (rd l).1 = R0 := by
 by_cases h9 : l.length = 9
 ·
  obtain ⟨f0, f1, f2, f3, f4, f5, f6, f7, f8, rfl⟩ := nine l h9
  rw [rd_nine] at h ⊢
  by_cases h0 : fst (ws f0 f1 f2 f3 f4 f5 f6 f7 f8) = 0
  ·
   rw [if_pos h0] at h; exact absurd rfl h
  ·
   rw [if_neg h0]
 ·
  rw [rd_other (by omega)]
end Ru
namespace Ru
def R.ok (r : R) : Bool := rB r.s r.t r.fy r.ty r.m r.k r.wk r.d r.sec r.base r.save
def R.ts (r : R) : List ByteArray :=
 [r.s, (Yr.ft r.fy).1, (Yr.tt r.fy r.ty).1, ⟨#[45]⟩, Wd.t3 Wd.months (r.m - 1), (Ds.tx r.k r.wk r.d).1, (Cl.tx r.sec r.base).1, (Am.tx r.save).1, ⟨(Fo.ltx r.t.data.toList).1.toArray⟩]
def fl (r : R) : List (List UInt8) × Int := if r.ok = true then (r.ts.map (·.data.toList), 0) else ([], 4)
theorem fl_yes {r : R} (h : r.ok = true) : fl r = (r.ts.map (·.data.toList), 0) := if_pos h
theorem fl_no {r : R} (h : r.ok = false) : fl r = ([], 4) := if_neg (by rw [h]; decide)
theorem ok_of {r : R} (h : r.ok = true) : Lk.nm r.s.data.toList = 0 ∧ -32767 ≤ r.fy ∧ r.fy ≤ r.ty ∧ r.ty ≤ 32767 ∧ Dr.onF r.k r.wk r.d r.m = true ∧ Cl.rB r.sec r.base = true ∧ -10800 ≤ r.save ∧ r.save ≤ 10800 ∧ (Fo.ltx r.t.data.toList).2 = 0 := by
 unfold R.ok rB at h
 simp only [Bool.and_eq_true, decide_eq_true_eq, beq_iff_eq] at h
 obtain ⟨h0, h1, h2, h3, h4, h5, h6, h7, h8⟩ := h
 exact ⟨h0, h1, h2, h3, h4, h5, h6, h7, h8⟩
theorem ok_ft {r : R} (h : r.ok = true) : (Yr.ft r.fy).2 = 0 := by
 obtain ⟨_, h1, h2, h3, _⟩ := ok_of h
 unfold Yr.ft
 rw [if_pos (by unfold Yr.inY; simp; omega)]
 split <;> rfl
theorem ok_tt {r : R} (h : r.ok = true) : (Yr.tt r.fy r.ty).2 = 0 := by
 obtain ⟨_, h1, h2, h3, _⟩ := ok_of h
 unfold Yr.tt
 rw [if_pos (by unfold Yr.inY; simp; omega), if_neg (by omega)]
 split
 ·
  rfl
 ·
  split <;> rfl
end Ru
theorem StS.nine (W : World) (l : List ByteArray) (t : TypeId) (c : Nat) : StS (W.alloc (.cells (l.map Value.string).toArray t)) (.slice (some ⟨W.heap.size, 0, none⟩) l.length c) l :=
 ⟨_, _, rfl, fun _ => ⟨_, rfl, by simp, by
  intro j u hj
  rw [show (⟨W.heap.size, 0, none⟩ : Addr).add j = ⟨W.heap.size, j, none⟩ by simp [Addr.add]; exact fun h => h.symm]
  rw [Lib.cell_of_heap (heap_alloc_new W _)]
  simpa using hj⟩⟩
theorem StO.nine (B : Nat) (W : World) (l : List ByteArray) (t : TypeId) (c : Nat) (hB : B ≤ W.heap.size) : StO B (W.alloc (.cells (l.map Value.string).toArray t)) (.slice (some ⟨W.heap.size, 0, none⟩) l.length c) l :=
 ⟨_, _, rfl, fun _ => ⟨_, rfl, hB, by simp, by
  intro j u hj
  rw [show (⟨W.heap.size, 0, none⟩ : Addr).add j = ⟨W.heap.size, j, none⟩ by simp [Addr.add]; exact fun h => h.symm]
  rw [Lib.cell_of_heap (heap_alloc_new W _)]
  simpa using hj⟩⟩
namespace Yr
theorem starts_tab : ∀ n : Fin 256, (Num.dig (UInt8.ofNat n.val) || decide (n.val = 45)) = starts.contains (UInt8.ofNat n.val) := by decide +kernel
theorem starts_dig (c : UInt8) : starts.contains c = (Num.dig c || decide (c.toNat = 45)) := by
 have := starts_tab ⟨c.toNat, c.toNat_lt⟩
 rw [show UInt8.ofNat c.toNat = c from UInt8.ofNat_toNat] at this
 exact this.symm
theorem itoa_isN (n : Int) : isN (Lib.itoa n) = true := by
 unfold Lib.itoa
 split
 ·
  show starts.contains 45 = true
  decide
 ·
  obtain ⟨c, r, e, hd⟩ := Num.dec_head n.toNat
  rw [e]
  show starts.contains c = true
  rw [starts_dig, hd]; rfl
theorem itoa_rd {n : Int} (n0 : -9223372036854775808 ≤ n) (n1 : n ≤ 9223372036854775807) : Num.rd (Lib.itoa n) = (n, 0) := by
 unfold Num.rd
 rw [Num.isT_itoa, if_pos rfl, Num.parse_itoa n n0 n1]
theorem itoa_num {n : Int} (h : inY n = true) : num (Lib.itoa n) = (n, 0) := by
 have h2 := h
 unfold inY at h2
 rw [Bool.and_eq_true, decide_eq_true_eq, decide_eq_true_eq] at h2
 unfold num
 rw [itoa_rd (by omega) (by omega), if_pos rfl, h]; rfl
theorem tI_size {n : Int} (h : inY n = true) : (tI n).size ≤ 21 := by
 unfold inY at h
 rw [Bool.and_eq_true, decide_eq_true_eq, decide_eq_true_eq] at h
 show (Lib.itoa n).toArray.size ≤ 21
 rw [List.size_toArray]
 exact Lib.itoa_length_le n (by omega) (by omega)
theorem ft_back {y : Int} (h : (ft y).2 = 0) : fr (ft y).1.data.toList = (y, 0) := by
 revert h
 unfold ft
 cases hi : inY y
 ·
  simp only [Bool.false_eq_true, if_false]; intro h; exact absurd h (by decide)
 ·
  simp only [if_true]
  split
  ·
   rename_i e; subst e; intro _; decide +kernel
  ·
   intro _
   show fr (Lib.itoa y) = (y, 0)
   unfold fr
   rw [itoa_isN, if_pos rfl, itoa_num hi]
theorem only_w : word [111, 110, 108, 121] = (2, 0) ∧ isN [111, 110, 108, 121] = false := by decide +kernel
theorem max_w : word [109, 97, 120] = (1, 0) ∧ isN [109, 97, 120] = false := by decide +kernel
theorem tt_back {f y : Int} (h : (tt f y).2 = 0) : to (tt f y).1.data.toList f = (y, 0) := by
 revert h
 unfold tt
 cases hi : inY y
 ·
  simp only [Bool.false_eq_true, if_false]; intro h; exact absurd h (by decide)
 ·
  simp only [if_true]
  split
  ·
   intro h; exact absurd h (by decide)
  ·
   rename_i hlt
   split
   ·
    rename_i e
    intro _
    subst e
    have e : la [111, 110, 108, 121] y = (y, 0) := by
     unfold la
     rw [only_w.2, only_w.1]; rfl
    show to [111, 110, 108, 121] y = (y, 0)
    unfold to
    rw [e, if_pos rfl, if_pos (Int.le_refl _)]
   ·
    split
    ·
     rename_i e
     intro _
     subst e
     have e : la [109, 97, 120] f = (32767, 0) := by
      unfold la
      rw [max_w.2, max_w.1]; rfl
     show to [109, 97, 120] f = (32767, 0)
     unfold to
     rw [e, if_pos rfl, if_pos (by omega)]
    ·
     intro _
     have e : la (Lib.itoa y) f = (y, 0) := by
      unfold la
      rw [itoa_isN, if_pos rfl, itoa_num hi]
     show to (Lib.itoa y) f = (y, 0)
     unfold to
     rw [e, if_pos rfl, if_pos (by omega)]
theorem to_ge {l : List UInt8} {f : Int} (h : (to l f).2 = 0) : f ≤ (to l f).1 := by
 revert h
 unfold to
 split
 ·
  split
  ·
   rename_i h; intro _; exact h
  ·
   intro h; exact absurd h (by decide)
 ·
  rename_i h; intro h2; exact absurd h2 h
end Yr
structure Ds.Lv (w : World) (tp : TypeId) (p : Value) : Prop where
 tab : Lib.TabIs Tryz.prog w "internal/strconv.uint64pow10" .u64 Lib.pow10Tab
 rng : w.var? Tryz.prog "strconv.ErrRange" = some #[.iface tp p]
 days : Wd.DTabs w
theorem Ds.Lv.keep {w w' : World} {tp : TypeId} {p : Value} (h : Ds.Lv w tp p) (k : Below w.heap.size w w') : Ds.Lv w' tp p := ⟨var_keep k h.tab, var_keep k h.rng, h.days.on k⟩
namespace Wd
end Wd
namespace Ds
set_option maxRecDepth 100000 in
theorem rd_tab : ∀ k : Fin 4, ∀ w : Fin 7, ∀ d : Fin 32, Dr.onR k.val w.val d.val = true → rd (tx k.val w.val d.val).1.data.toList = ((k.val : Int), (w.val : Int), (d.val : Int), (0 : Int)) := by decide +kernel
theorem rd_tx {k w d : Int} (h : Dr.onR k w d = true) : rd (tx k w d).1.data.toList = (k, w, d, 0) := by
 have hb := Dr.onR_true.1 h
 obtain ⟨k', rfl⟩ : ∃ n : Nat, k = n := ⟨k.toNat, by omega⟩
 obtain ⟨w', rfl⟩ : ∃ n : Nat, w = n := ⟨w.toNat, by omega⟩
 obtain ⟨d', rfl⟩ : ∃ n : Nat, d = n := ⟨d.toNat, by omega⟩
 exact rd_tab ⟨k', by omega⟩ ⟨w', by omega⟩ ⟨d', by omega⟩ h
end Ds
end Go.Proofs.YtpggfhmnhbnefaaGreatDoor
set_option linter.unusedVariables false
set_option linter.unusedSimpArgs false
namespace Go.Proofs.YtpggfhmnhbnefaaGreatDoor
open Go Go.Lib
namespace Am
def nc (l : List UInt8) : Prop := ∀ c ∈ l, c ≠ 58
theorem nc_dig {l : List UInt8} (h : l.all Num.dig = true) : nc l := by
 intro c hc e
 subst e
 have := List.all_eq_true.1 h 58 hc
 revert this; decide
theorem pre58 (c : UInt8) (l : List UInt8) : ([58] : List UInt8).isPrefixOf (c :: l) = (58 == c) := by
 rw [List.isPrefixOf, List.isPrefixOf, Bool.and_true]
theorem ix_none : ∀ l : List UInt8, nc l → index l [58] = -1 := by
 intro l
 induction l with
 | nil => intro _; rfl
 | cons c l ih =>
  intro h
  have h1 : (58 == c) = false := by rw [beq_eq_false_iff_ne]; exact fun e => h c (List.mem_cons_self ..) e.symm
  unfold index
  rw [pre58, h1, ih (fun x hx => h x (List.mem_cons_of_mem _ hx))]
  rfl
theorem ix_at : ∀ (a r : List UInt8), nc a → index (a ++ 58 :: r) [58] = (a.length : Int) := by
 intro a
 induction a with
 | nil => intro r _; rw [List.nil_append]; unfold index; rw [pre58]; rfl
 | cons c a ih =>
  intro r h
  have h1 : (58 == c) = false := by rw [beq_eq_false_iff_ne]; exact fun e => h c (List.mem_cons_self ..) e.symm
  have h2 := ih r (fun x hx => h x (List.mem_cons_of_mem _ hx))
  have h3 : ((a.length : Int) == -1) = false := by rw [beq_eq_false_iff_ne]; omega
  rw [List.cons_append]
  unfold index
  rw [pre58, h1, h2, h3]
  simp
theorem splitK_at (a r : List UInt8) (k : Nat) (h : nc a) : splitK [58] 0 (k + 1) (a ++ 58 :: r) = a :: splitK [58] 0 k r := by
 have h3 : ((a.length : Int) == -1) = false := by rw [beq_eq_false_iff_ne]; omega
 conv => lhs; unfold splitK
 rw [ix_at a r h, h3]
 simp
theorem splitK_no (k : Nat) (l : List UInt8) (h : nc l) : splitK [58] 0 k l = [l] := by
 cases k with
 | zero => rfl
 | succ k => unfold splitK; rw [ix_none l h]; rfl
theorem pcs_data (s : ByteArray) : (pcs s).map (·.data.toList) = splitK [58] 0 (min 3 (s.size + 1) - 1) s.data.toList := splitB_data _ _ _ _
theorem isK_l (s : ByteArray) (k : Nat) : isK s k = match ((pcs s).map (·.data.toList))[k]? with | some x => isP k x | none => true := by
 unfold isK
 rw [List.getElem?_map]
 cases (pcs s)[k]? <;> rfl
theorem vK_l (s : ByteArray) (k : Nat) : vK s k = match ((pcs s).map (·.data.toList))[k]? with | some x => (Num.val 0 x : Int) | none => 0 := by
 unfold vK
 rw [List.getElem?_map]
 cases (pcs s)[k]? <;> rfl
theorem pcs3 {s : ByteArray} {a b c : List UInt8} (e : s.data.toList = a ++ 58 :: (b ++ 58 :: c)) (ha : nc a) (hb : nc b) : (pcs s).map (·.data.toList) = [a, b, c] := by
 have hl : 2 ≤ s.size := by rw [← ab_len s, e]; simp; omega
 rw [pcs_data, e, show min 3 (s.size + 1) - 1 = 2 by omega, splitK_at a _ 1 ha, splitK_at b _ 0 hb]
 rfl
theorem pcs2 {s : ByteArray} {a b : List UInt8} (e : s.data.toList = a ++ 58 :: b) (hl : 2 ≤ s.size) (ha : nc a) (hb : nc b) : (pcs s).map (·.data.toList) = [a, b] := by
 rw [pcs_data, e, show min 3 (s.size + 1) - 1 = 2 by omega, splitK_at a _ 1 ha, splitK_no 1 b hb]
theorem ok3 {s : ByteArray} {a b c : List UInt8} (e : s.data.toList = a ++ 58 :: (b ++ 58 :: c)) (ha : isP 0 a = true) (hb : isP 1 b = true) (hc : isP 2 c = true) :
  okK s = true ∧ vK s 0 = (Num.val 0 a : Int) ∧ vK s 1 = (Num.val 0 b : Int) ∧ vK s 2 = (Num.val 0 c : Int) := by
 have p := pcs3 e (nc_dig (isP_size ha).1) (nc_dig (isP_size hb).1)
 refine ⟨?_, by rw [vK_l, p]; rfl, by rw [vK_l, p]; rfl, by rw [vK_l, p]; rfl⟩
 unfold okK
 rw [isK_l, isK_l, isK_l, p]
 show (isP 0 a && (isP 1 b && isP 2 c)) = true
 rw [ha, hb, hc]; rfl
theorem ok2 {s : ByteArray} {a b : List UInt8} (e : s.data.toList = a ++ 58 :: b) (ha : isP 0 a = true) (hb : isP 1 b = true) :
  okK s = true ∧ vK s 0 = (Num.val 0 a : Int) ∧ vK s 1 = (Num.val 0 b : Int) ∧ vK s 2 = 0 := by
 have hl : 2 ≤ s.size := by
  rw [← ab_len s, e]
  unfold isP at hb
  rw [Bool.and_eq_true] at hb
  have := of_decide_eq_true hb.2
  simp; omega
 have p := pcs2 e hl (nc_dig (isP_size ha).1) (nc_dig (isP_size hb).1)
 refine ⟨?_, by rw [vK_l, p]; rfl, by rw [vK_l, p]; rfl, by rw [vK_l, p]; rfl⟩
 unfold okK
 rw [isK_l, isK_l, isK_l, p]
 show (isP 0 a && (isP 1 b && true)) = true
 rw [ha, hb]; rfl
theorem no1 {s : ByteArray} {a r : List UInt8} (e : s.data.toList = a ++ 58 :: r) (ha : nc a) (hp : isP 0 a = false) : okK s = false := by
 have hl : 1 ≤ s.size := by rw [← ab_len s, e]; simp; omega
 obtain ⟨k, hk⟩ : ∃ k, min 3 (s.size + 1) - 1 = k + 1 := ⟨min 3 (s.size + 1) - 2, by omega⟩
 have p : ((pcs s).map (·.data.toList))[0]? = some a := by rw [pcs_data, e, hk, splitK_at a r k ha]; rfl
 refine okK_no (k := 0) (by omega) ?_
 rw [isK_l, p]; exact hp
theorem un_dig {t : ByteArray} {c : UInt8} {r : List UInt8} (h : t.data.toList = c :: r) (hc : c ≠ 45) : un t = t ∧ neg t = false := by
 have e : trimPrefix t.data.toList [45] = t.data.toList := by rw [h]; exact Num.tp_other c r hc
 refine ⟨?_, ?_⟩
 ·
  unfold un; rw [e]
 ·
  unfold neg; rw [h, Num.hp_cons]; simpa using hc
theorem un_neg {t : ByteArray} {l : List UInt8} (h : t.data.toList = 45 :: l) : un t = ⟨l.toArray⟩ ∧ neg t = true := by
 refine ⟨?_, ?_⟩
 ·
  unfold un; rw [h, Num.tp_minus]
 ·
  unfold neg; rw [h, Num.hp_cons]; rfl
theorem alone {t : ByteArray} (h : 2 ≤ t.size) : (t.toList == [45]) = false := by
 rw [beq_eq_false_iff_ne, ByteArray.toList_eq]
 intro e
 have := ab_len t
 rw [e] at this
 simp at this; omega
theorem rd_of {t : ByteArray} {x y z : Int} {ng : Bool} (h2 : 2 ≤ t.size) (hn : neg t = ng) (h : okK (un t) = true ∧ vK (un t) 0 = x ∧ vK (un t) 1 = y ∧ vK (un t) 2 = z) :
  rd t = if y < 60 ∧ z < 60 ∧ x * 3600 + y * 60 + z ≤ 604799 then ((if ng then -(x * 3600 + y * 60 + z) else x * 3600 + y * 60 + z), 0) else (0, 1) := by
 obtain ⟨hk, v0, v1, v2⟩ := h
 unfold rd inR sum
 rw [alone h2, hk, v0, v1, v2, hn]
 simp only [Bool.false_eq_true, if_false]
 by_cases h1 : y < 60
 ·
  by_cases h3 : z < 60
  ·
   by_cases h4 : x * 3600 + y * 60 + z ≤ 604799
   ·
    simp [h1, h3, h4]
   ·
    simp [h1, h3, h4]
  ·
   simp [h1, h3]
 ·
  simp [h1]
theorem rd_no {t : ByteArray} (h2 : 2 ≤ t.size) (h : okK (un t) = false) : rd t = (0, 2) := by
 unfold rd
 rw [alone h2, h]; rfl
theorem h_tab : ∀ n : Fin 1000, (isP 0 (itoa (n.val : Int)) && (decide (Num.val 0 (itoa (n.val : Int)) = n.val) && (isP 0 (48 :: itoa (n.val : Int)) == decide (n.val < 100)))) = true := by decide +kernel
theorem d_tab : ∀ n : Fin 100, (isP 1 (itoa ((n.val : Int) / 10) ++ itoa ((n.val : Int) % 10)) && decide (Num.val 0 (itoa ((n.val : Int) / 10) ++ itoa ((n.val : Int) % 10)) = n.val)) = true := by decide +kernel
theorem e_tab : ∀ n : Fin 100, 10 ≤ n.val → (isP 1 (itoa (n.val : Int)) && decide (Num.val 0 (itoa (n.val : Int)) = n.val)) = true := by decide +kernel
theorem hours {n : Int} (h0 : 0 ≤ n) (h1 : n < 1000) : isP 0 (itoa n) = true ∧ (Num.val 0 (itoa n) : Int) = n ∧ isP 0 (48 :: itoa n) = decide (n < 100) := by
 have := h_tab ⟨n.toNat, by omega⟩
 rw [Bool.and_eq_true, Bool.and_eq_true, decide_eq_true_eq, beq_iff_eq] at this
 obtain ⟨a, b, c⟩ := this
 simp only [show ((n.toNat : Nat) : Int) = n by omega] at a b c
 refine ⟨a, by omega, ?_⟩
 rw [c, Bool.eq_iff_iff, decide_eq_true_eq, decide_eq_true_eq]; omega
theorem isP_12 {l : List UInt8} : isP 2 l = isP 1 l := rfl
theorem digits3 {n : Int} (h0 : 10 ≤ n) (h1 : n < 100) : isP 1 (itoa n) = true ∧ (Num.val 0 (itoa n) : Int) = n := by
 have := e_tab ⟨n.toNat, by omega⟩ (show 10 ≤ n.toNat by omega)
 rw [Bool.and_eq_true, decide_eq_true_eq] at this
 simp only [show ((n.toNat : Nat) : Int) = n by omega] at this
 exact ⟨this.1, by omega⟩
theorem isP_head {i : Int} {l : List UInt8} (h : isP i l = true) (hn : l ≠ []) : ∃ c r, l = c :: r ∧ c ≠ 45 := by
 cases l with
 | nil => exact absurd rfl hn
 | cons c r =>
  have := (isP_size (i := i.toNat) (l := c :: r))
  unfold isP at h
  rw [Bool.and_eq_true, List.all_cons, Bool.and_eq_true] at h
  exact ⟨c, r, rfl, (Num.dig_ne h.1.1).1⟩
end Am
end Go.Proofs.YtpggfhmnhbnefaaGreatDoor
