/- Joined: RuD, BkS, GvM, Qt. -/
import Derived.Test.YtjggjkeopbcmoaaGreatDoorBt03
import Derived.Test.YtjggjkeopbcmoaaGreatDoorBt11
import Derived.Test.YtjggjkeopbcmoaaGreatDoorBt10
import Derived.Test.YtjggjkeopbcmoaaGreatDoorBt12
import Derived.Test.YtjggjkeopbcmoaaGreatDoorBt05
import Derived.Test.YtjggjkeopbcmoaaGreatDoorBt01
import Derived.Laws.IdiomCopy
import Derived.Test.YtjggjkeopbcmoaaGreatDoorBt07
import Derived.StillTail
import Derived.Lib.QuietBelow
set_option linter.unusedVariables false
set_option linter.unusedSimpArgs false
namespace Go.Proofs.YtjggjkeopbcmoaaGreatDoor
open Go.RowKit Go.Sort
namespace Ru
structure Lv (w : World) (tp : TypeId) (p : Value) (y : Int) : Prop where
 tab : Lib.TabIs Tryz.prog w "internal/strconv.uint64pow10" .u64 Lib.pow10Tab
 rng : w.var? Tryz.prog "strconv.ErrRange" = some #[.iface tp p]
 mon : Wd.Tabs w
 ltr : Cl.Tab w
 mx : w.cell? ⟨3, 0, none⟩ = some (.int .i64 y)
theorem Lv.days {w : World} {tp : TypeId} {p : Value} {y : Int} (h : Lv w tp p y) : Wd.DTabs w := ⟨h.mon.d0, h.mon.d1, h.mon.d2, h.mon.d3, h.mon.d4, h.mon.d5, h.mon.d6⟩
theorem Lv.on {w w' : World} {tp : TypeId} {p : Value} {y : Int} (h : Lv w tp p y) (k : Below w.heap.size w w') : Lv w' tp p y :=
 ⟨var_keep k h.tab, var_keep k h.rng, h.mon.on k, h.ltr.on k, fd_keep h.mx k⟩
def fst : List Int → Int
 | [] => 0
 | q :: r => if q = 0 then fst r else q
theorem fst_yes {q : Int} {r : List Int} (h : q = 0) : fst (q :: r) = fst r := if_pos h
theorem fst_no {q : Int} {r : List Int} (h : q ≠ 0) : fst (q :: r) = q := if_neg h
structure R where
 s : ByteArray
 fy : Int
 ty : Int
 m : Int
 k : Int
 wk : Int
 d : Int
 sec : Int
 base : Int
 save : Int
 t : ByteArray
def R0 : R := ⟨⟨#[]⟩, 0, 0, 0, 0, 0, 0, 0, 0, 0, ⟨#[]⟩⟩
def R.v (r : R) : Value := .agg #[.string r.s, .int .i64 r.fy, .int .i64 r.ty, .int .i64 r.m, .int .i64 r.k, .int .i64 r.wk, .int .i64 r.d, .int .i64 r.sec, .int .i64 r.base, .int .i64 r.save, .string r.t]
def mo (f : ByteArray) : Int := Wd.up (Wd.mat f.data.toList Wd.months)
def ws (f0 f1 f2 f3 f4 f5 f6 f7 f8 : ByteArray) : List Int :=
 [Lk.nm f0.data.toList, (Yr.fr f1.data.toList).2, (Yr.to f2.data.toList (Yr.fr f1.data.toList).1).2, if f3 = ⟨#[45]⟩ then 0 else 3, (Wd.mat f4.data.toList Wd.months).2,
  (dy f5.data.toList (mo f4)).2.2.2, (Cl.rd f6).2.2, (sv f7).2, (Fo.lt f8.data.toList).2]
def rl (f0 f1 f2 f4 f5 f6 f7 f8 : ByteArray) : R :=
 ⟨f0, (Yr.fr f1.data.toList).1, (Yr.to f2.data.toList (Yr.fr f1.data.toList).1).1, mo f4, (dy f5.data.toList (mo f4)).1, (dy f5.data.toList (mo f4)).2.1, (dy f5.data.toList (mo f4)).2.2.1,
  (Cl.rd f6).1, (Cl.rd f6).2.1, (sv f7).1, ⟨(Fo.lt f8.data.toList).1.toArray⟩⟩
def rd : List ByteArray → R × Int
 | [f0, f1, f2, f3, f4, f5, f6, f7, f8] => if fst (ws f0 f1 f2 f3 f4 f5 f6 f7 f8) = 0 then (rl f0 f1 f2 f4 f5 f6 f7 f8, 0) else (R0, fst (ws f0 f1 f2 f3 f4 f5 f6 f7 f8))
 | l => (R0, if l.length < 9 then 5 else 6)
theorem rd_other {l : List ByteArray} (h : l.length < 9 ∨ 9 < l.length) : rd l = (R0, if l.length < 9 then 5 else 6) := by
 match l, h with
 | [f0, f1, f2, f3, f4, f5, f6, f7, f8], h => simp at h
 | [], _ => rfl
 | [_], _ => rfl
 | [_, _], _ => rfl
 | [_, _, _], _ => rfl
 | [_, _, _, _], _ => rfl
 | [_, _, _, _, _], _ => rfl
 | [_, _, _, _, _, _], _ => rfl
 | [_, _, _, _, _, _, _], _ => rfl
 | [_, _, _, _, _, _, _, _], _ => rfl
 | _ :: _ :: _ :: _ :: _ :: _ :: _ :: _ :: _ :: _ :: _, _ => rfl
theorem nine (l : List ByteArray) (h : l.length = 9) : ∃ f0 f1 f2 f3 f4 f5 f6 f7 f8, l = [f0, f1, f2, f3, f4, f5, f6, f7, f8] := by
 match l, h with
 | [f0, f1, f2, f3, f4, f5, f6, f7, f8], _ => exact ⟨_, _, _, _, _, _, _, _, _, rfl⟩
end Ru
end Go.Proofs.YtjggjkeopbcmoaaGreatDoor
set_option linter.unusedVariables false
set_option linter.unusedSimpArgs false
namespace Go.Proofs.YtjggjkeopbcmoaaGreatDoor
open Go.RowKit
theorem Bk11.set1 {W W9 : World} {b : Nat} {v z0 z1 z2 z3 z4 z5 z6 z7 z8 z9 z10 : Value} (h : Bk11 W b z0 z1 z2 z3 z4 z5 z6 z7 z8 z9 z10) (e : W9 = W.setCell ⟨b, 1, none⟩ v) : Bk11 W9 b z0 v z2 z3 z4 z5 z6 z7 z8 z9 z10 := by
 subst e
 have hb := h.hb; have hf := h.fz
 have h0 := h.k0; have h1 := h.k1; have h2 := h.k2; have h3 := h.k3; have h4 := h.k4; have h5 := h.k5; have h6 := h.k6; have h7 := h.k7; have h8 := h.k8; have h9 := h.k9; have h10 := h.k10
 clear h
 exact ⟨by simpa using hb, fun j => by simpa using hf j, by simp [go_sem, h0], by simp [go_sem, h1], by simp [go_sem, h2], by simp [go_sem, h3], by simp [go_sem, h4], by simp [go_sem, h5], by simp [go_sem, h6], by simp [go_sem, h7], by simp [go_sem, h8], by simp [go_sem, h9], by simp [go_sem, h10]⟩
theorem Bk11.set2 {W W9 : World} {b : Nat} {v z0 z1 z2 z3 z4 z5 z6 z7 z8 z9 z10 : Value} (h : Bk11 W b z0 z1 z2 z3 z4 z5 z6 z7 z8 z9 z10) (e : W9 = W.setCell ⟨b, 2, none⟩ v) : Bk11 W9 b z0 z1 v z3 z4 z5 z6 z7 z8 z9 z10 := by
 subst e
 have hb := h.hb; have hf := h.fz
 have h0 := h.k0; have h1 := h.k1; have h2 := h.k2; have h3 := h.k3; have h4 := h.k4; have h5 := h.k5; have h6 := h.k6; have h7 := h.k7; have h8 := h.k8; have h9 := h.k9; have h10 := h.k10
 clear h
 exact ⟨by simpa using hb, fun j => by simpa using hf j, by simp [go_sem, h0], by simp [go_sem, h1], by simp [go_sem, h2], by simp [go_sem, h3], by simp [go_sem, h4], by simp [go_sem, h5], by simp [go_sem, h6], by simp [go_sem, h7], by simp [go_sem, h8], by simp [go_sem, h9], by simp [go_sem, h10]⟩
theorem Bk11.set5 {W W9 : World} {b : Nat} {v z0 z1 z2 z3 z4 z5 z6 z7 z8 z9 z10 : Value} (h : Bk11 W b z0 z1 z2 z3 z4 z5 z6 z7 z8 z9 z10) (e : W9 = W.setCell ⟨b, 5, none⟩ v) : Bk11 W9 b z0 z1 z2 z3 z4 v z6 z7 z8 z9 z10 := by
 subst e
 have hb := h.hb; have hf := h.fz
 have h0 := h.k0; have h1 := h.k1; have h2 := h.k2; have h3 := h.k3; have h4 := h.k4; have h5 := h.k5; have h6 := h.k6; have h7 := h.k7; have h8 := h.k8; have h9 := h.k9; have h10 := h.k10
 clear h
 exact ⟨by simpa using hb, fun j => by simpa using hf j, by simp [go_sem, h0], by simp [go_sem, h1], by simp [go_sem, h2], by simp [go_sem, h3], by simp [go_sem, h4], by simp [go_sem, h5], by simp [go_sem, h6], by simp [go_sem, h7], by simp [go_sem, h8], by simp [go_sem, h9], by simp [go_sem, h10]⟩
theorem Bk11.set6 {W W9 : World} {b : Nat} {v z0 z1 z2 z3 z4 z5 z6 z7 z8 z9 z10 : Value} (h : Bk11 W b z0 z1 z2 z3 z4 z5 z6 z7 z8 z9 z10) (e : W9 = W.setCell ⟨b, 6, none⟩ v) : Bk11 W9 b z0 z1 z2 z3 z4 z5 v z7 z8 z9 z10 := by
 subst e
 have hb := h.hb; have hf := h.fz
 have h0 := h.k0; have h1 := h.k1; have h2 := h.k2; have h3 := h.k3; have h4 := h.k4; have h5 := h.k5; have h6 := h.k6; have h7 := h.k7; have h8 := h.k8; have h9 := h.k9; have h10 := h.k10
 clear h
 exact ⟨by simpa using hb, fun j => by simpa using hf j, by simp [go_sem, h0], by simp [go_sem, h1], by simp [go_sem, h2], by simp [go_sem, h3], by simp [go_sem, h4], by simp [go_sem, h5], by simp [go_sem, h6], by simp [go_sem, h7], by simp [go_sem, h8], by simp [go_sem, h9], by simp [go_sem, h10]⟩
theorem Bk11.set7 {W W9 : World} {b : Nat} {v z0 z1 z2 z3 z4 z5 z6 z7 z8 z9 z10 : Value} (h : Bk11 W b z0 z1 z2 z3 z4 z5 z6 z7 z8 z9 z10) (e : W9 = W.setCell ⟨b, 7, none⟩ v) : Bk11 W9 b z0 z1 z2 z3 z4 z5 z6 v z8 z9 z10 := by
 subst e
 have hb := h.hb; have hf := h.fz
 have h0 := h.k0; have h1 := h.k1; have h2 := h.k2; have h3 := h.k3; have h4 := h.k4; have h5 := h.k5; have h6 := h.k6; have h7 := h.k7; have h8 := h.k8; have h9 := h.k9; have h10 := h.k10
 clear h
 exact ⟨by simpa using hb, fun j => by simpa using hf j, by simp [go_sem, h0], by simp [go_sem, h1], by simp [go_sem, h2], by simp [go_sem, h3], by simp [go_sem, h4], by simp [go_sem, h5], by simp [go_sem, h6], by simp [go_sem, h7], by simp [go_sem, h8], by simp [go_sem, h9], by simp [go_sem, h10]⟩
theorem Bk11.set8 {W W9 : World} {b : Nat} {v z0 z1 z2 z3 z4 z5 z6 z7 z8 z9 z10 : Value} (h : Bk11 W b z0 z1 z2 z3 z4 z5 z6 z7 z8 z9 z10) (e : W9 = W.setCell ⟨b, 8, none⟩ v) : Bk11 W9 b z0 z1 z2 z3 z4 z5 z6 z7 v z9 z10 := by
 subst e
 have hb := h.hb; have hf := h.fz
 have h0 := h.k0; have h1 := h.k1; have h2 := h.k2; have h3 := h.k3; have h4 := h.k4; have h5 := h.k5; have h6 := h.k6; have h7 := h.k7; have h8 := h.k8; have h9 := h.k9; have h10 := h.k10
 clear h
 exact ⟨by simpa using hb, fun j => by simpa using hf j, by simp [go_sem, h0], by simp [go_sem, h1], by simp [go_sem, h2], by simp [go_sem, h3], by simp [go_sem, h4], by simp [go_sem, h5], by simp [go_sem, h6], by simp [go_sem, h7], by simp [go_sem, h8], by simp [go_sem, h9], by simp [go_sem, h10]⟩
theorem Bk11.set9 {W W9 : World} {b : Nat} {v z0 z1 z2 z3 z4 z5 z6 z7 z8 z9 z10 : Value} (h : Bk11 W b z0 z1 z2 z3 z4 z5 z6 z7 z8 z9 z10) (e : W9 = W.setCell ⟨b, 9, none⟩ v) : Bk11 W9 b z0 z1 z2 z3 z4 z5 z6 z7 z8 v z10 := by
 subst e
 have hb := h.hb; have hf := h.fz
 have h0 := h.k0; have h1 := h.k1; have h2 := h.k2; have h3 := h.k3; have h4 := h.k4; have h5 := h.k5; have h6 := h.k6; have h7 := h.k7; have h8 := h.k8; have h9 := h.k9; have h10 := h.k10
 clear h
 exact ⟨by simpa using hb, fun j => by simpa using hf j, by simp [go_sem, h0], by simp [go_sem, h1], by simp [go_sem, h2], by simp [go_sem, h3], by simp [go_sem, h4], by simp [go_sem, h5], by simp [go_sem, h6], by simp [go_sem, h7], by simp [go_sem, h8], by simp [go_sem, h9], by simp [go_sem, h10]⟩
theorem Bk11.set10 {W W9 : World} {b : Nat} {v z0 z1 z2 z3 z4 z5 z6 z7 z8 z9 z10 : Value} (h : Bk11 W b z0 z1 z2 z3 z4 z5 z6 z7 z8 z9 z10) (e : W9 = W.setCell ⟨b, 10, none⟩ v) : Bk11 W9 b z0 z1 z2 z3 z4 z5 z6 z7 z8 z9 v := by
 subst e
 have hb := h.hb; have hf := h.fz
 have h0 := h.k0; have h1 := h.k1; have h2 := h.k2; have h3 := h.k3; have h4 := h.k4; have h5 := h.k5; have h6 := h.k6; have h7 := h.k7; have h8 := h.k8; have h9 := h.k9; have h10 := h.k10
 clear h
 exact ⟨by simpa using hb, fun j => by simpa using hf j, by simp [go_sem, h0], by simp [go_sem, h1], by simp [go_sem, h2], by simp [go_sem, h3], by simp [go_sem, h4], by simp [go_sem, h5], by simp [go_sem, h6], by simp [go_sem, h7], by simp [go_sem, h8], by simp [go_sem, h9], by simp [go_sem, h10]⟩
theorem Bk11.other {W W9 : World} {b c i : Nat} {v z0 z1 z2 z3 z4 z5 z6 z7 z8 z9 z10 : Value} (h : Bk11 W b z0 z1 z2 z3 z4 z5 z6 z7 z8 z9 z10) (e : W9 = W.setCell ⟨c, i, none⟩ v) (hne : c ≠ b) : Bk11 W9 b z0 z1 z2 z3 z4 z5 z6 z7 z8 z9 z10 := by
 subst e
 have hb := h.hb; have hf := h.fz; have hne2 := Ne.symm hne
 have h0 := h.k0; have h1 := h.k1; have h2 := h.k2; have h3 := h.k3; have h4 := h.k4; have h5 := h.k5; have h6 := h.k6; have h7 := h.k7; have h8 := h.k8; have h9 := h.k9; have h10 := h.k10
 clear h
 exact ⟨by simpa using hb, fun j => by simpa using hf j, by simp [go_sem, h0, hne, hne2], by simp [go_sem, h1, hne, hne2], by simp [go_sem, h2, hne, hne2], by simp [go_sem, h3, hne, hne2], by simp [go_sem, h4, hne, hne2], by simp [go_sem, h5, hne, hne2], by simp [go_sem, h6, hne, hne2], by simp [go_sem, h7, hne, hne2], by simp [go_sem, h8, hne, hne2], by simp [go_sem, h9, hne, hne2], by simp [go_sem, h10, hne, hne2]⟩
theorem set11 {W W9 : World} {b : Nat} {z0 z1 z2 z3 z4 z5 z6 z7 z8 z9 z10 v0 v1 v2 v3 v4 v5 v6 v7 v8 v9 v10 : Value} (h : Bk11 W b z0 z1 z2 z3 z4 z5 z6 z7 z8 z9 z10) (e : W9 = (((((((((((W.setCell ⟨b, 0, none⟩ v0).setCell ⟨b, 1, none⟩ v1).setCell ⟨b, 2, none⟩ v2).setCell ⟨b, 3, none⟩ v3).setCell ⟨b, 4, none⟩ v4).setCell ⟨b, 5, none⟩ v5).setCell ⟨b, 6, none⟩ v6).setCell ⟨b, 7, none⟩ v7).setCell ⟨b, 8, none⟩ v8).setCell ⟨b, 9, none⟩ v9).setCell ⟨b, 10, none⟩ v10)) : Bk11 W9 b v0 v1 v2 v3 v4 v5 v6 v7 v8 v9 v10 := by
 subst e
 have hb := h.hb; have hf := h.fz
 have h0 := h.k0; have h1 := h.k1; have h2 := h.k2; have h3 := h.k3; have h4 := h.k4; have h5 := h.k5; have h6 := h.k6; have h7 := h.k7; have h8 := h.k8; have h9 := h.k9; have h10 := h.k10
 clear h
 exact ⟨by simpa using hb, fun j => by simpa using hf j, by simp [go_sem, h0, h1, h2, h3, h4, h5, h6, h7, h8, h9, h10], by simp [go_sem, h0, h1, h2, h3, h4, h5, h6, h7, h8, h9, h10], by simp [go_sem, h0, h1, h2, h3, h4, h5, h6, h7, h8, h9, h10], by simp [go_sem, h0, h1, h2, h3, h4, h5, h6, h7, h8, h9, h10], by simp [go_sem, h0, h1, h2, h3, h4, h5, h6, h7, h8, h9, h10], by simp [go_sem, h0, h1, h2, h3, h4, h5, h6, h7, h8, h9, h10], by simp [go_sem, h0, h1, h2, h3, h4, h5, h6, h7, h8, h9, h10], by simp [go_sem, h0, h1, h2, h3, h4, h5, h6, h7, h8, h9, h10], by simp [go_sem, h0, h1, h2, h3, h4, h5, h6, h7, h8, h9, h10], by simp [go_sem, h0, h1, h2, h3, h4, h5, h6, h7, h8, h9, h10], by simp [go_sem, h0, h1, h2, h3, h4, h5, h6, h7, h8, h9, h10]⟩
theorem below_set11 {W W9 : World} {b n : Nat} {u : World} {v0 v1 v2 v3 v4 v5 v6 v7 v8 v9 v10 : Value} (h : Below n u W) (hb : n ≤ b) (e : W9 = (((((((((((W.setCell ⟨b, 0, none⟩ v0).setCell ⟨b, 1, none⟩ v1).setCell ⟨b, 2, none⟩ v2).setCell ⟨b, 3, none⟩ v3).setCell ⟨b, 4, none⟩ v4).setCell ⟨b, 5, none⟩ v5).setCell ⟨b, 6, none⟩ v6).setCell ⟨b, 7, none⟩ v7).setCell ⟨b, 8, none⟩ v8).setCell ⟨b, 9, none⟩ v9).setCell ⟨b, 10, none⟩ v10)) : Below n u W9 := by
 subst e
 iterate 11 (refine Below.setCell ?_ (by simpa using hb) _)
 exact h
section
variable {P : Program} {ops : Array Oper} {rest : List Oper} {o : Oper} {a : Act} {w : World} {Q : Exit → Act → World → Prop}
theorem wpList_st11 (hgd : o.guard = none) (ty : TypeId) (x y : Operand) (ho : o.op = .store ty x y) (b : Nat) (v0 v1 v2 v3 v4 v5 v6 v7 v8 v9 v10 : Value) (hx : a.eval x = .pointer (some ⟨b, 0, none⟩)) (hy : a.eval y = .agg #[v0, v1, v2, v3, v4, v5, v6, v7, v8, v9, v10])
  (hi : (P.info? ty).map (·.size) = some 11) {z0 z1 z2 z3 z4 z5 z6 z7 z8 z9 z10 : Value} (B : Bk11 w b z0 z1 z2 z3 z4 z5 z6 z7 z8 z9 z10) (h1 : ∀ v ∈ [v0, v1, v2, v3, v4, v5, v6, v7, v8, v9, v10], v.oneCell' = true)
  (h : ∀ W9, Bk11 W9 b v0 v1 v2 v3 v4 v5 v6 v7 v8 v9 v10 → (∀ n u, n ≤ b → Below n u w → Below n u W9) → wpList P ops Q rest (a.put o.dst undef) W9) : wpList P ops Q (o :: rest) a w := by
 have hb := B.hb
 have hst := run_storeCells_cells (P := P) b 0 [v0, v1, v2, v3, v4, v5, v6, v7, v8, v9, v10] 0 w (fun j hj => by
   simp only [Nat.zero_add]
   match j, hj with
   | 0, _ => rw [B.k0]; rfl
   | 1, _ => rw [B.k1]; rfl
   | 2, _ => rw [B.k2]; rfl
   | 3, _ => rw [B.k3]; rfl
   | 4, _ => rw [B.k4]; rfl
   | 5, _ => rw [B.k5]; rfl
   | 6, _ => rw [B.k6]; rfl
   | 7, _ => rw [B.k7]; rfl
   | 8, _ => rw [B.k8]; rfl
   | 9, _ => rw [B.k9]; rfl
   | 10, _ => rw [B.k10]; rfl
   | n + 11, hj => simp at hj; omega) (fun j hj => by simp only [Nat.zero_add]; exact B.fz j) h1
 cases hq : P.info? ty with
 | none => simp [hq] at hi
 | some i =>
  have hs : i.size = 11 := by simpa [hq] using hi
  have hrun : (storeVar ty ⟨b, 0, none⟩ (.agg #[v0, v1, v2, v3, v4, v5, v6, v7, v8, v9, v10])).run P w = .ok () (w.setCells b 0 [v0, v1, v2, v3, v4, v5, v6, v7, v8, v9, v10]) := by
   simp [storeVar, sizeOf, typeInfo, hq, Value.cells, hs, hst]
  refine wpList_plain hgd fun K hK => ?_
  unfold Oper.wp execOp
  simp only [ho, hx, hy, Instr.storeAt, Instr.sureAddr, Sem.run_bind, Sem.run_pure, Result.andThen_ok, hrun]
  refine hK _ _ (h _ (set11 B rfl) (fun n u hn hu => below_set11 hu hn rfl))
end
end Go.Proofs.YtjggjkeopbcmoaaGreatDoor
set_option linter.unusedVariables false
set_option linter.unusedSimpArgs false
namespace Go.Proofs.YtjggjkeopbcmoaaGreatDoor
open Go.RowKit Go.Sort
theorem musto_yes (x0 x1 x2 : Int) (w : World) : Calls Tryz.prog 69 #[.agg #[.int .i64 x0, .int .i64 x1, .int .i64 x2], .int .i64 0] w fun e w' => e = .returned (.agg #[.int .i64 x0, .int .i64 x1, .int .i64 x2]) ∧ Below w.heap.size w w' := by
 go_enter Tryz.func69, Tryz.ntmps69
 go_wp2_with fail
 refine (for_yes _).mono ?_; rintro e v1 ⟨rfl, rfl⟩
 go_wp2_with fail
 refine bodyPost_ret (v := .agg #[.int .i64 x0, .int .i64 x1, .int .i64 x2]) (by simp [results, Tryz.results69, go_sem]) rfl ⟨rfl, ?_⟩
 exact gr0
theorem musto_no (x0 x1 x2 why : Int) (w : World) (h : why ≠ 0) : Calls Tryz.prog 69 #[.agg #[.int .i64 x0, .int .i64 x1, .int .i64 x2], .int .i64 why] w fun e w' => e = .panicked (gvP why) ∧ Below w.heap.size w w' := by
 have FN := Lib.hid (fun W => for_no why W h)
 clear h
 go_enter Tryz.func69, Tryz.ntmps69
 go_wp2_with fail
 refine (FN.out _).mono ?_; rintro e w1 ⟨rfl, rfl⟩
 refine (show bodyPost _ _ _ (Exit.panic (gvP why)) _ _ from ?_)
 simp only [bodyPost]
 exact ⟨trivial, by first | rfl | trivial, ((Below.refl _ _).alloc (Nat.le_refl _) _).alloc (by simp) _⟩
theorem musta_yes (x0 x1 : Int) (w : World) : Calls Tryz.prog 71 #[.agg #[.int .i64 x0, .int .i64 x1], .int .i64 0] w fun e w' => e = .returned (.agg #[.int .i64 x0, .int .i64 x1]) ∧ Below w.heap.size w w' := by
 go_enter Tryz.func71, Tryz.ntmps71
 go_wp2_with fail
 refine (for_yes _).mono ?_; rintro e v1 ⟨rfl, rfl⟩
 go_wp2_with fail
 refine bodyPost_ret (v := .agg #[.int .i64 x0, .int .i64 x1]) (by simp [results, Tryz.results71, go_sem]) rfl ⟨rfl, ?_⟩
 exact gr0
theorem musta_no (x0 x1 why : Int) (w : World) (h : why ≠ 0) : Calls Tryz.prog 71 #[.agg #[.int .i64 x0, .int .i64 x1], .int .i64 why] w fun e w' => e = .panicked (gvP why) ∧ Below w.heap.size w w' := by
 have FN := Lib.hid (fun W => for_no why W h)
 clear h
 go_enter Tryz.func71, Tryz.ntmps71
 go_wp2_with fail
 refine (FN.out _).mono ?_; rintro e w1 ⟨rfl, rfl⟩
 refine (show bodyPost _ _ _ (Exit.panic (gvP why)) _ _ from ?_)
 simp only [bodyPost]
 exact ⟨trivial, by first | rfl | trivial, ((Below.refl _ _).alloc (Nat.le_refl _) _).alloc (by simp) _⟩
theorem musts_yes (s : ByteArray) (w : World) : Calls Tryz.prog 17 #[.string s, .int .i64 0] w fun e w' => e = .returned (.string s) ∧ w = w' := by
 go_enter Tryz.func17, Tryz.ntmps17
 go_wp2_with fail
 refine (for_yes _).mono ?_; rintro e w1 ⟨rfl, rfl⟩
 go_wp2_with fail
 go_ret
 exact ⟨rfl, rfl⟩
theorem musts_no (s : ByteArray) (why : Int) (w : World) (h : why ≠ 0) : Calls Tryz.prog 17 #[.string s, .int .i64 why] w fun e w' => e = .panicked (gvP why) ∧ w = w' := by
 go_enter Tryz.func17, Tryz.ntmps17
 go_wp2_with fail
 refine (for_no why _ h).mono ?_; rintro e w1 ⟨rfl, rfl⟩
 refine (show bodyPost _ _ _ (Exit.panic (gvP why)) _ _ from ?_)
 simp [bodyPost]
end Go.Proofs.YtjggjkeopbcmoaaGreatDoor
set_option linter.unusedVariables false
set_option linter.unusedSimpArgs false
namespace Go.Proofs.YtjggjkeopbcmoaaGreatDoor
open Go Go.RowKit Go.Sort
section
variable {P : Program} {ops : Array Oper} {md : Region.Mode} {C : World → Prop}
def qtAny (P : Program) (md : Region.Mode) (ops : Array Oper) (C : World → Prop) (n : Nat) (L : Array Bool → Act → Prop) : Nat → Array Bool → Act → Prop
 | 0, ld, a => L ld a
 | f + 1, ld, a => Region.ready md ops ld ≠ [] ∧ ∀ i ∈ Region.ready md ops ld, i < n ∧ qOp P ops C i (qtAny P md ops C n L f (ld.setIfInBounds i true)) a
theorem qt_all {n g : Nat} {L : Array Bool → Act → Prop} {Q : Exit → Act → World → Prop} (hL : ∀ ld a w, C w → L ld a → wpAny P md ops Q g ld a w) :
  ∀ (f : Nat) (ld : Array Bool) (a : Act) (w : World), C w → qtAny P md ops C n L f ld a → wpAny P md ops Q (f + g) ld a w := by
 intro f
 induction f with
 | zero => intro ld a w hw h; rw [Nat.zero_add]; exact hL _ _ _ hw h
 | succ f ih =>
  intro ld a w hw h
  rw [Nat.succ_add]
  exact ⟨fun e => absurd e h.1, fun i hi => wpOp_of_qOp hw (fun a' w' hw' => ih _ a' w' hw') (h.2 i hi).2⟩
theorem qt_first {n i : Nat} {oi : Oper} {v : Value} {L : Array Bool → Act → Prop} (hi : ops[i]? = some oi) (hsel : ∀ (j : Nat) (o : Oper) cs b, ops[j]? = some o → o.op ≠ .select cs b)
  (hs : Region.sinkB md ops n = true) (hc : Region.chainB md ops n = true) (hn : n < ops.size) (hin : i < n)
  (hdone : ∀ ld a, L ld a → ∀ j ∈ Region.ready md ops ld, n ≤ j) :
  ∀ (f : Nat) (ld : Array Bool) (a : Act), HeadInv md ops n ld →
   (∀ j oj, ops[j]? = some oj → j ≠ i → ld.getD j true = false → (∀ e ∈ oj.after, Region.binds md e = true → e.on ≠ i) → oi.apart ops oj = true) →
   i ∈ Region.ready md ops ld → YieldsIn P ops C oi v a →
   qtAny P md ops C n L f (ld.setIfInBounds i true) (a.put oi.dst v) → qtAny P md ops C n L (f + 1) ld a := by
 intro f
 induction f with
 | zero =>
  intro ld a inv _ hr hy H
  refine ⟨fun e => (by rw [e] at hr; cases hr), fun j hj => ?_⟩
  have hjn : j < n := Nat.lt_of_not_le fun h => tail_waits hs hc hn inv _ i rfl hin (mem_ready.1 hr).1 j h hj
  by_cases e : j = i
  ·
   subst e; exact ⟨hjn, hy.qOp hi H⟩
  ·
   have := hdone _ _ H j (ready_mono hj e)
   omega
 | succ f ih =>
  intro ld a inv hfree hr hy H
  refine ⟨fun e => (by rw [e] at hr; cases hr), fun j hj => ?_⟩
  have hun := (mem_ready.1 hr).1
  have hjn : j < n := Nat.lt_of_not_le fun h => tail_waits hs hc hn inv _ i rfl hin hun j h hj
  refine ⟨hjn, ?_⟩
  by_cases e : j = i
  ·
   subst e; exact hy.qOp hi H
  ·
   have h1 := (H.2 j (ready_mono hj e)).2
   obtain ⟨hjun, oj, hoj, hall⟩ := mem_ready.1 hj
   have hnot : ∀ x ∈ oj.after, Region.binds md x = true → x.on ≠ i := fun x hx hb hq => by
    have h3 := hall x hx hb
    rw [hq, getD_both hun] at h3
    cases h3
   refine qOp_mono (fun a' h3 => ih (ld.setIfInBounds j true) a' (inv.set hj hjn) (fun k ok hk hki hu hno => ?_) (ready_mono hr (Ne.symm e)) h3.1 (by rw [Array.setIfInBounds_comm _ _ e]; exact h3.2)) (qOp_put hoj (hfree j oj hoj e hjun hnot) (fun cs b => hsel i oi cs b hi) (fun cs b => hsel j oj cs b hoj) hy h1)
   refine hfree k ok hk hki ?_ hno
   by_cases hjk : j = k
   ·
    subst hjk; exact hjun
   ·
    rw [getD_set_ne true hjk] at hu; exact hu
theorem qt_lex {n g : Nat} {R : Act → Prop} (hsel : Region.noSelect ops = true) (hs : Region.sinkB md ops n = true) (hc : Region.chainB md ops n = true) (hn : n < ops.size) :
  ∀ (l : List Oper) (k : Nat) (ld : Array Bool) (a : Act), (∀ j, j < l.length → l[j]? = ops[k + j]?) → k + l.length = n → HeadInv md ops n ld →
  Region.lexHead md ops g l.length k ld = true → wpQuiet P ops C R l a →
  qtAny P md ops C n (fun ld' a' => Region.seqB md ops g n ld' = true ∧ R a') l.length ld a := by
 intro l
 induction l with
 | nil =>
  intro k ld a _ hk inv hB h
  obtain rfl : k = n := by simpa using hk
  exact ⟨by simpa [Region.lexHead] using hB, h⟩
 | cons o l ih =>
  intro k ld a hl hk inv hB h
  have h0 : ops[k]? = some o := by simpa using (hl 0 (by simp)).symm
  simp only [List.length_cons, Region.lexHead, Bool.and_eq_true] at hB
  obtain ⟨⟨hr, hf⟩, hB'⟩ := hB
  have hkn : k < n := by simp only [List.length_cons] at hk; omega
  have hr' : k ∈ Region.ready md ops ld := by simpa using hr
  obtain ⟨v, hy, hK⟩ := yieldsIn_of_qOp (K := wpQuiet P ops C R l) h0 (by unfold qOp; simp only [h0]; exact h)
  refine qt_first h0 (Region.noSelect_spec hsel) hs hc hn hkn (fun ld' a' hL => seqB_ready hL.1) l.length ld a inv (Region.free_spec h0 hf) hr' hy ?_
  exact ih (k + 1) _ _ (fun j hj => by have := hl (j + 1) (by simp; omega); simpa [Nat.add_assoc, Nat.add_comm 1 j] using this) (by simp only [List.length_cons] at hk; omega) (inv.set hr' hkn) hB' hK
theorem wp_region_qtail {id : Nat} {Q : Exit → Act → World → Prop} {a : Act} {w : World} {l : List Oper} (n : Nat) (hm : P.follows .mixedOrders = true) (hB : Region.lexTailB .any l.toArray n = true)
  (hC : C { w with drawn := w.drawn + 1 })
  (h : wpQuiet P l.toArray C (fun a' => ∀ w', C w' → wpList P l.toArray Q (l.drop n) a' w') (l.take n) a) : (Code.region id l.toArray true).wp P Q a w := by
 simp only [Region.lexTailB, Bool.and_eq_true, decide_eq_true_eq] at hB
 obtain ⟨⟨⟨⟨hsel, hn⟩, hs⟩, hc⟩, hlex⟩ := hB
 have hn' : n < l.length := by simpa using hn
 have htl : (l.take n).length = n := by simp; omega
 have hdl : (l.drop n).length = l.toArray.size - n := by simp
 have inv0 : HeadInv .any l.toArray n (Array.replicate l.toArray.size false) :=
  ⟨by simp, fun j oj _ hl => (by rw [getD_replicate_false] at hl; cases hl), fun t _ ht => getD_in (by simpa using ht) (getD_replicate_false _ _)⟩
 have H := qt_lex (md := .any) (g := l.toArray.size - n) hsel hs hc hn (l.take n) 0 _ a (fun j hj => by
  rw [htl] at hj
  simp [hj]) (by simpa using htl) inv0 (by rw [htl]; exact hlex) h
 refine wp_region_any hm ?_
 have H2 := qt_all (Q := Q) (g := l.toArray.size - n) (fun ld a' w' hw hL => by
  have := wpAny_of_seq (md := .any) (Q' := Q) (l.drop n) n ld a' w' (fun j => by simp [List.getElem?_drop]) (by rw [hdl]; exact hL.1) (hL.2 w' hw)
  rwa [hdl] at this) _ _ _ _ hC H
 rw [htl, show n + (l.toArray.size - n) = l.toArray.size by omega] at H2
 exact H2
theorem qt_mono {R R' : Act → Prop} (h : ∀ a, R a → R' a) : ∀ (l : List Oper) (a : Act), wpQuiet P ops C R l a → wpQuiet P ops C R' l a := by
 intro l
 induction l with
 | nil => exact fun a => h a
 | cons o l ih =>
  intro a hh
  unfold wpQuiet at hh ⊢
  split
  ·
   rename_i hw; rw [if_pos hw] at hh; exact Oper.quiet_mono ih hh
  ·
   rename_i hw; rw [if_neg hw] at hh; exact ih _ hh
theorem wp_region_qbt {id : Nat} {Q : Exit → Act → World → Prop} {a : Act} {w W : World} {l : List Oper} (n : Nat) (hm : P.follows .mixedOrders = true) (hB : Region.lexTailB .any l.toArray n = true) (hb : Below w.heap.size w W)
  (h : wpQuiet P l.toArray (fun w' => ∃ p : Regrown, w' = grow (redrawn w p.d) p.os) (fun a' => ∀ w', Below w.heap.size w w' → wpList P l.toArray Q (l.drop n) a' w') (l.take n) a) : (Code.region id l.toArray true).wp P Q a W := by
 refine wp_region_qtail (C := fun w' => ∃ p : Regrown, w' = grow (redrawn w p.d) p.os) n hm hB (regrown_of_below hb.drew) ?_
 refine qt_mono (fun a' h w' hw => ?_) _ _ h
 obtain ⟨p, rfl⟩ := hw
 exact h _ (below_regrown _ _ _)
/-! A region that draws, one of whose calls panics: all that does not wait for it reads and calls. -/
def PanAt (P : Program) (C : World → Prop) (ch : List PanicEntry) (w : World) : Result Next → Prop
 | .ok (.enter f args) w' => w' = w ∧ Calls P f args w (fun e w'' => e = .panicked ch ∧ C w'')
 | _ => False
def PanicsIn (P : Program) (ops : Array Oper) (C : World → Prop) (ch : List PanicEntry) (o : Oper) (a : Act) : Prop :=
 Region.wanted o (yielded ops a.tmps) = true ∧ ∀ w, C w → PanAt P C ch w ((execOp a.eval o).run P w)
theorem PanicsIn.of_put {oi oj : Oper} {v : Value} {ch : List PanicEntry} {a : Act} (hap : oi.apart ops oj = true) (hsj : ∀ cs b, oj.op ≠ .select cs b) (h : PanicsIn P ops C ch oj (a.put oi.dst v)) : PanicsIn P ops C ch oj a := by
 obtain ⟨h1, h2, h3⟩ := Oper.apart_spec hap
 obtain ⟨hw, hp⟩ := h
 refine ⟨by rwa [wanted_put oj a oi.dst v h1] at hw, fun w hC => ?_⟩
 have := hp w hC
 rwa [execOp_put oj hsj a oi.dst v h1] at this
theorem PanicsIn.wp {o : Oper} {ch : List PanicEntry} {a : Act} {K : Act → World → Prop} {Q : Exit → Act → World → Prop} {w : World} (hC : C w) (hQ : ∀ w, C w → Q (.panic ch) a w) (h : PanicsIn P ops C ch o a) : o.wp P a w K Q := by
 have h3 := h.2 w hC
 unfold Oper.wp
 generalize (execOp a.eval o).run P w = r at *
 cases r with
 | ok n w' =>
  cases n <;> simp only [PanAt] at h3
  case enter f args =>
   obtain ⟨e1, hc⟩ := h3
   rw [e1]
   exact hc.mono fun e w'' ⟨he, hw''⟩ => by subst he; exact hQ _ hw''
 | halt x w' => simp only [PanAt] at h3
theorem put_defers (a : Act) (d : Option Nat) (v : Value) : (a.put d v).defers = a.defers := by cases d <;> rfl
def qpAny (P : Program) (md : Region.Mode) (ops : Array Oper) (C : World → Prop) (ch : List PanicEntry) (D : List Deferred) (p : Nat) (op : Oper) : Nat → Array Bool → Act → Prop
 | 0, _, _ => False
 | f + 1, ld, a => a.defers = D ∧ Region.ready md ops ld ≠ [] ∧ ∀ i ∈ Region.ready md ops ld, (i = p ∧ PanicsIn P ops C ch op a) ∨ (i ≠ p ∧ qOp P ops C i (qpAny P md ops C ch D p op f (ld.setIfInBounds i true)) a)
theorem qp_all {p : Nat} {op : Oper} {ch : List PanicEntry} {D : List Deferred} {Q : Exit → Act → World → Prop} (hp : ops[p]? = some op) (hQ : ∀ a w, a.defers = D → C w → Q (.panic ch) a w) :
  ∀ (f : Nat) (ld : Array Bool) (a : Act) (w : World), C w → qpAny P md ops C ch D p op f ld a → wpAny P md ops Q f ld a w := by
 intro f
 induction f with
 | zero => intro ld a w hw h; exact absurd h id
 | succ f ih =>
  intro ld a w hw h
  obtain ⟨hd, hne, h⟩ := h
  refine ⟨fun e => absurd e hne, fun i hi => ?_⟩
  rcases h i hi with ⟨rfl, h1⟩ | ⟨_, h1⟩
  ·
   unfold wpOp
   simp only [hp, h1.1, if_true]
   exact .inl (h1.wp hw fun w hc => hQ _ _ hd hc)
  ·
   exact wpOp_of_qOp hw (fun a' w' hw' => ih _ a' w' hw') h1
theorem qp_first {p i : Nat} {op oi : Oper} {v : Value} {ch : List PanicEntry} {D : List Deferred} (hp : ops[p]? = some op) (hi : ops[i]? = some oi) (hip : i ≠ p) (hsel : ∀ (j : Nat) (o : Oper) cs b, ops[j]? = some o → o.op ≠ .select cs b) :
  ∀ (f : Nat) (ld : Array Bool) (a : Act),
   (∀ j oj, ops[j]? = some oj → j ≠ i → ld.getD j true = false → (∀ e ∈ oj.after, Region.binds md e = true → e.on ≠ i) → oi.apart ops oj = true) →
   i ∈ Region.ready md ops ld → YieldsIn P ops C oi v a →
   qpAny P md ops C ch D p op f (ld.setIfInBounds i true) (a.put oi.dst v) → qpAny P md ops C ch D p op (f + 1) ld a := by
 intro f
 induction f with
 | zero => intro ld a _ _ _ H; exact absurd H id
 | succ f ih =>
  intro ld a hfree hr hy H
  have hun := (mem_ready.1 hr).1
  have hd : a.defers = D := by rw [← put_defers a oi.dst v]; exact H.1
  refine ⟨hd, fun e => (by rw [e] at hr; cases hr), fun j hj => ?_⟩
  by_cases e : j = i
  ·
   subst e; exact .inr ⟨hip, hy.qOp hi H⟩
  ·
   obtain ⟨hjun, oj, hoj, hall⟩ := mem_ready.1 hj
   have hnot : ∀ x ∈ oj.after, Region.binds md x = true → x.on ≠ i := fun x hx hb hq => by
    have h3 := hall x hx hb
    rw [hq, getD_both hun] at h3
    cases h3
   have hap := hfree j oj hoj e hjun hnot
   rcases H.2.2 j (ready_mono hj e) with ⟨rfl, h1⟩ | ⟨hjp, h1⟩
   ·
    obtain rfl : oj = op := Option.some.inj (hoj.symm.trans hp)
    exact .inl ⟨rfl, h1.of_put hap (fun cs b => hsel _ oj cs b hoj)⟩
   ·
    refine .inr ⟨hjp, qOp_mono (fun a' h3 => ih (ld.setIfInBounds j true) a' (fun k ok hk hki hu hno => ?_) (ready_mono hr (Ne.symm e)) h3.1 (by rw [Array.setIfInBounds_comm _ _ e]; exact h3.2)) (qOp_put hoj hap (fun cs b => hsel i oi cs b hi) (fun cs b => hsel j oj cs b hoj) hy h1)⟩
    refine hfree k ok hk hki ?_ hno
    by_cases hjk : j = k
    ·
     subst hjk; exact hjun
    ·
     rw [getD_set_ne true hjk] at hu; exact hu
def qpB (md : Region.Mode) (ops : Array Oper) (p : Nat) : List Nat → Array Bool → Bool
 | [], ld => decide (Region.ready md ops ld = [p])
 | i :: is, ld => decide (i ≠ p) && (Region.ready md ops ld).contains i && Region.free md ops ld i && qpB md ops p is (ld.setIfInBounds i true)
theorem qp_walk {p : Nat} {op : Oper} {ch : List PanicEntry} {D : List Deferred} (hp : ops[p]? = some op) (hsel : Region.noSelect ops = true) :
  ∀ (is : List Nat) (g : Nat) (ld : Array Bool) (a : Act), a.defers = D → qpB md ops p is ld = true → wpQuiet P ops C (PanicsIn P ops C ch op) (is.filterMap (ops[·]?)) a → qpAny P md ops C ch D p op (is.length + 1 + g) ld a := by
 intro is
 induction is with
 | nil =>
  intro g ld a hd hB h
  have hr : Region.ready md ops ld = [p] := by simpa [qpB] using hB
  rw [show ([] : List Nat).length + 1 + g = g + 1 by simp; omega]
  refine ⟨hd, by rw [hr]; simp, fun i hi => .inl ?_⟩
  rw [hr] at hi
  exact ⟨by simpa using hi, h⟩
 | cons i is ih =>
  intro g ld a hd hB h
  simp only [qpB, Bool.and_eq_true, decide_eq_true_eq] at hB
  obtain ⟨⟨⟨hip, hr⟩, hf⟩, hB'⟩ := hB
  have hr' : i ∈ Region.ready md ops ld := by simpa using hr
  obtain ⟨_, oi, hoi, _⟩ := mem_ready.1 hr'
  have h' : wpQuiet P ops C (PanicsIn P ops C ch op) (oi :: is.filterMap (ops[·]?)) a := by simpa [List.filterMap_cons, hoi] using h
  obtain ⟨v, hy, hK⟩ := yieldsIn_of_qOp (K := wpQuiet P ops C (PanicsIn P ops C ch op) (is.filterMap (ops[·]?))) hoi (by unfold qOp; simp only [hoi]; exact h')
  rw [show (i :: is).length + 1 + g = (is.length + 1 + g) + 1 by simp; omega]
  exact qp_first hp hoi hip (Region.noSelect_spec hsel) _ ld a (Region.free_spec hoi hf) hr' hy (ih g _ _ (by rw [put_defers]; exact hd) hB' hK)
theorem wp_region_qpanic {id : Nat} {Q : Exit → Act → World → Prop} {a : Act} {w W : World} {l : List Oper} (p : Nat) (is : List Nat) {op : Oper} {ch : List PanicEntry} (hm : P.follows .mixedOrders = true) (hp : l.toArray[p]? = some op)
  (hB : (Region.noSelect l.toArray && decide (is.length < l.toArray.size) && qpB .any l.toArray p is (Array.replicate l.toArray.size false)) = true) (hb : Below w.heap.size w W)
  (hQ : ∀ a' w', a'.defers = a.defers → Below w.heap.size w w' → Q (.panic ch) a' w')
  (h : wpQuiet P l.toArray (fun w' => ∃ p : Regrown, w' = grow (redrawn w p.d) p.os) (PanicsIn P l.toArray (fun w' => ∃ p : Regrown, w' = grow (redrawn w p.d) p.os) ch op) (is.filterMap (l.toArray[·]?)) a) : (Code.region id l.toArray true).wp P Q a W := by
 simp only [Bool.and_eq_true, decide_eq_true_eq] at hB
 obtain ⟨⟨hs, hn⟩, hB⟩ := hB
 refine wp_region_any hm ?_
 have H := qp_walk (md := .any) (g := l.toArray.size - (is.length + 1)) hp hs is _ a rfl hB h
 rw [show is.length + 1 + (l.toArray.size - (is.length + 1)) = l.toArray.size by omega] at H
 exact qp_all hp (fun a w' hd hw' => by obtain ⟨p, rfl⟩ := hw'; exact hQ _ _ hd (below_regrown _ _ _)) _ _ _ _ (regrown_of_below hb.drew) H
theorem panicked_regrown {f : FuncId} {args : Array Value} {w : World} {d : Nat} {os : Array Obj} {ch : List PanicEntry}
  (h : Calls P f args (grow (redrawn w d) os) fun e w' => e = .panicked ch ∧ Below (grow (redrawn w d) os).heap.size (grow (redrawn w d) os) w') : Calls P f args (grow (redrawn w d) os) fun e w'' => e = .panicked ch ∧ ∃ p : Regrown, w'' = grow (redrawn w p.d) p.os :=
 h.mono fun _ _ ⟨he, hb⟩ => ⟨he, regrown_of_below (below_step (below_regrown w d os) hb)⟩
end
end Go.Proofs.YtjggjkeopbcmoaaGreatDoor
