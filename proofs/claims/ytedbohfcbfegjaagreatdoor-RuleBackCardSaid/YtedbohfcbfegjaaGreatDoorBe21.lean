/- Joined: RuD, BkS, GvM. -/
import Derived.Test.YtedbohfcbfegjaaGreatDoorBe05
import Derived.Test.YtedbohfcbfegjaaGreatDoorBe18
import Derived.Test.YtedbohfcbfegjaaGreatDoorBe19
import Derived.Test.YtedbohfcbfegjaaGreatDoorBe17
import Derived.Test.YtedbohfcbfegjaaGreatDoorBe20
import Derived.Test.YtedbohfcbfegjaaGreatDoorBe08
import Derived.Test.YtedbohfcbfegjaaGreatDoorBe01
import Derived.Laws.IdiomCopy
import Derived.Test.YtedbohfcbfegjaaGreatDoorBe13
/- Rules: what the row's list gives; what fields mean. -/
set_option linter.unusedVariables false
set_option linter.unusedSimpArgs false
namespace Go.Proofs.YtedbohfcbfegjaaGreatDoor
open Go.RowKit Go.Sort

namespace Ru
/-- What the row's list gives. -/
structure Lv (w : World) (tp : TypeId) (p : Value) (y : Int) : Prop where
  tab : Lib.TabIs Tryz.prog w "internal/strconv.uint64pow10" .u64 Lib.pow10Tab
  rng : w.var? Tryz.prog "strconv.ErrRange" = some #[.iface tp p]
  mon : Wd.Tabs w
  ltr : Cl.Tab w
  mx : w.cell? ⟨3, 0, none⟩ = some (.int .i64 y)
theorem Lv.days {w : World} {tp : TypeId} {p : Value} {y : Int} (h : Lv w tp p y) : Wd.DTabs w := ⟨h.mon.d0, h.mon.d1, h.mon.d2, h.mon.d3, h.mon.d4, h.mon.d5, h.mon.d6⟩
theorem Lv.on {w w' : World} {tp : TypeId} {p : Value} {y : Int} (h : Lv w tp p y) (k : Below w.heap.size w w') : Lv w' tp p y :=
  ⟨var_keep k h.tab, var_keep k h.rng, h.mon.on k, h.ltr.on k, fd_keep h.mx k⟩
/-- The first that is wrong. -/
def fst : List Int → Int
  | [] => 0
  | q :: r => if q = 0 then fst r else q
theorem fst_yes {q : Int} {r : List Int} (h : q = 0) : fst (q :: r) = fst r := if_pos h
theorem fst_no {q : Int} {r : List Int} (h : q ≠ 0) : fst (q :: r) = q := if_neg h
/-- A rule. -/
structure R where
  s : ByteArray
  fy : Int
  ty : Int
  m : Int
  k : Int
  wk : Int
  d : Int
  sec : Int
  base : Int
  save : Int
  t : ByteArray
/-- No rule. -/
def R0 : R := ⟨⟨#[]⟩, 0, 0, 0, 0, 0, 0, 0, 0, 0, ⟨#[]⟩⟩
/-- The rule's value. -/
def R.v (r : R) : Value := .agg #[.string r.s, .int .i64 r.fy, .int .i64 r.ty, .int .i64 r.m, .int .i64 r.k, .int .i64 r.wk, .int .i64 r.d, .int .i64 r.sec, .int .i64 r.base, .int .i64 r.save, .string r.t]
def mo (f : ByteArray) : Int := Wd.up (Wd.mat f.data.toList Wd.months)
/-- What is wrong with each field. -/
def ws (f0 f1 f2 f3 f4 f5 f6 f7 f8 : ByteArray) : List Int :=
  [Lk.nm f0.data.toList, (Yr.fr f1.data.toList).2, (Yr.to f2.data.toList (Yr.fr f1.data.toList).1).2, if f3 = ⟨#[45]⟩ then 0 else 3, (Wd.mat f4.data.toList Wd.months).2,
    (dy f5.data.toList (mo f4)).2.2.2, (Cl.rd f6).2.2, (sv f7).2, (Fo.lt f8.data.toList).2]
/-- What the fields say. -/
def rl (f0 f1 f2 f4 f5 f6 f7 f8 : ByteArray) : R :=
  ⟨f0, (Yr.fr f1.data.toList).1, (Yr.to f2.data.toList (Yr.fr f1.data.toList).1).1, mo f4, (dy f5.data.toList (mo f4)).1, (dy f5.data.toList (mo f4)).2.1, (dy f5.data.toList (mo f4)).2.2.1,
    (Cl.rd f6).1, (Cl.rd f6).2.1, (sv f7).1, ⟨(Fo.lt f8.data.toList).1.toArray⟩⟩
/-- The rule of fields. -/
def rd : List ByteArray → R × Int
  | [f0, f1, f2, f3, f4, f5, f6, f7, f8] => if fst (ws f0 f1 f2 f3 f4 f5 f6 f7 f8) = 0 then (rl f0 f1 f2 f4 f5 f6 f7 f8, 0) else (R0, fst (ws f0 f1 f2 f3 f4 f5 f6 f7 f8))
  | l => (R0, if l.length < 9 then 5 else 6)
theorem rd_other {l : List ByteArray} (h : l.length < 9 ∨ 9 < l.length) : rd l = (R0, if l.length < 9 then 5 else 6) := by
  match l, h with
  | [f0, f1, f2, f3, f4, f5, f6, f7, f8], h => simp at h
  | [], _ => rfl
  | [_], _ => rfl
  | [_, _], _ => rfl
  | [_, _, _], _ => rfl
  | [_, _, _, _], _ => rfl
  | [_, _, _, _, _], _ => rfl
  | [_, _, _, _, _, _], _ => rfl
  | [_, _, _, _, _, _, _], _ => rfl
  | [_, _, _, _, _, _, _, _], _ => rfl
  | _ :: _ :: _ :: _ :: _ :: _ :: _ :: _ :: _ :: _ :: _, _ => rfl
theorem nine (l : List ByteArray) (h : l.length = 9) : ∃ f0 f1 f2 f3 f4 f5 f6 f7 f8, l = [f0, f1, f2, f3, f4, f5, f6, f7, f8] := by
  match l, h with
  | [f0, f1, f2, f3, f4, f5, f6, f7, f8], _ => exact ⟨_, _, _, _, _, _, _, _, _, rfl⟩
end Ru
end Go.Proofs.YtedbohfcbfegjaaGreatDoor

/- A block of 11 cells that is stored to, cell by cell. -/
set_option linter.unusedVariables false
set_option linter.unusedSimpArgs false
namespace Go.Proofs.YtedbohfcbfegjaaGreatDoor
open Go.RowKit

theorem Bk11.set0 {W W9 : World} {b : Nat} {v z0 z1 z2 z3 z4 z5 z6 z7 z8 z9 z10 : Value} (h : Bk11 W b z0 z1 z2 z3 z4 z5 z6 z7 z8 z9 z10) (e : W9 = W.setCell ⟨b, 0, none⟩ v) : Bk11 W9 b v z1 z2 z3 z4 z5 z6 z7 z8 z9 z10 := by
  subst e
  have hb := h.hb; have hf := h.fz
  have h0 := h.k0; have h1 := h.k1; have h2 := h.k2; have h3 := h.k3; have h4 := h.k4; have h5 := h.k5; have h6 := h.k6; have h7 := h.k7; have h8 := h.k8; have h9 := h.k9; have h10 := h.k10
  clear h
  exact ⟨by simpa using hb, fun j => by simpa using hf j, by simp [go_sem, h0], by simp [go_sem, h1], by simp [go_sem, h2], by simp [go_sem, h3], by simp [go_sem, h4], by simp [go_sem, h5], by simp [go_sem, h6], by simp [go_sem, h7], by simp [go_sem, h8], by simp [go_sem, h9], by simp [go_sem, h10]⟩
theorem Bk11.set1 {W W9 : World} {b : Nat} {v z0 z1 z2 z3 z4 z5 z6 z7 z8 z9 z10 : Value} (h : Bk11 W b z0 z1 z2 z3 z4 z5 z6 z7 z8 z9 z10) (e : W9 = W.setCell ⟨b, 1, none⟩ v) : Bk11 W9 b z0 v z2 z3 z4 z5 z6 z7 z8 z9 z10 := by
  subst e
  have hb := h.hb; have hf := h.fz
  have h0 := h.k0; have h1 := h.k1; have h2 := h.k2; have h3 := h.k3; have h4 := h.k4; have h5 := h.k5; have h6 := h.k6; have h7 := h.k7; have h8 := h.k8; have h9 := h.k9; have h10 := h.k10
  clear h
  exact ⟨by simpa using hb, fun j => by simpa using hf j, by simp [go_sem, h0], by simp [go_sem, h1], by simp [go_sem, h2], by simp [go_sem, h3], by simp [go_sem, h4], by simp [go_sem, h5], by simp [go_sem, h6], by simp [go_sem, h7], by simp [go_sem, h8], by simp [go_sem, h9], by simp [go_sem, h10]⟩
theorem Bk11.set2 {W W9 : World} {b : Nat} {v z0 z1 z2 z3 z4 z5 z6 z7 z8 z9 z10 : Value} (h : Bk11 W b z0 z1 z2 z3 z4 z5 z6 z7 z8 z9 z10) (e : W9 = W.setCell ⟨b, 2, none⟩ v) : Bk11 W9 b z0 z1 v z3 z4 z5 z6 z7 z8 z9 z10 := by
  subst e
  have hb := h.hb; have hf := h.fz
  have h0 := h.k0; have h1 := h.k1; have h2 := h.k2; have h3 := h.k3; have h4 := h.k4; have h5 := h.k5; have h6 := h.k6; have h7 := h.k7; have h8 := h.k8; have h9 := h.k9; have h10 := h.k10
  clear h
  exact ⟨by simpa using hb, fun j => by simpa using hf j, by simp [go_sem, h0], by simp [go_sem, h1], by simp [go_sem, h2], by simp [go_sem, h3], by simp [go_sem, h4], by simp [go_sem, h5], by simp [go_sem, h6], by simp [go_sem, h7], by simp [go_sem, h8], by simp [go_sem, h9], by simp [go_sem, h10]⟩
theorem Bk11.set3 {W W9 : World} {b : Nat} {v z0 z1 z2 z3 z4 z5 z6 z7 z8 z9 z10 : Value} (h : Bk11 W b z0 z1 z2 z3 z4 z5 z6 z7 z8 z9 z10) (e : W9 = W.setCell ⟨b, 3, none⟩ v) : Bk11 W9 b z0 z1 z2 v z4 z5 z6 z7 z8 z9 z10 := by
  subst e
  have hb := h.hb; have hf := h.fz
  have h0 := h.k0; have h1 := h.k1; have h2 := h.k2; have h3 := h.k3; have h4 := h.k4; have h5 := h.k5; have h6 := h.k6; have h7 := h.k7; have h8 := h.k8; have h9 := h.k9; have h10 := h.k10
  clear h
  exact ⟨by simpa using hb, fun j => by simpa using hf j, by simp [go_sem, h0], by simp [go_sem, h1], by simp [go_sem, h2], by simp [go_sem, h3], by simp [go_sem, h4], by simp [go_sem, h5], by simp [go_sem, h6], by simp [go_sem, h7], by simp [go_sem, h8], by simp [go_sem, h9], by simp [go_sem, h10]⟩
theorem Bk11.set4 {W W9 : World} {b : Nat} {v z0 z1 z2 z3 z4 z5 z6 z7 z8 z9 z10 : Value} (h : Bk11 W b z0 z1 z2 z3 z4 z5 z6 z7 z8 z9 z10) (e : W9 = W.setCell ⟨b, 4, none⟩ v) : Bk11 W9 b z0 z1 z2 z3 v z5 z6 z7 z8 z9 z10 := by
  subst e
  have hb := h.hb; have hf := h.fz
  have h0 := h.k0; have h1 := h.k1; have h2 := h.k2; have h3 := h.k3; have h4 := h.k4; have h5 := h.k5; have h6 := h.k6; have h7 := h.k7; have h8 := h.k8; have h9 := h.k9; have h10 := h.k10
  clear h
  exact ⟨by simpa using hb, fun j => by simpa using hf j, by simp [go_sem, h0], by simp [go_sem, h1], by simp [go_sem, h2], by simp [go_sem, h3], by simp [go_sem, h4], by simp [go_sem, h5], by simp [go_sem, h6], by simp [go_sem, h7], by simp [go_sem, h8], by simp [go_sem, h9], by simp [go_sem, h10]⟩
theorem Bk11.set5 {W W9 : World} {b : Nat} {v z0 z1 z2 z3 z4 z5 z6 z7 z8 z9 z10 : Value} (h : Bk11 W b z0 z1 z2 z3 z4 z5 z6 z7 z8 z9 z10) (e : W9 = W.setCell ⟨b, 5, none⟩ v) : Bk11 W9 b z0 z1 z2 z3 z4 v z6 z7 z8 z9 z10 := by
  subst e
  have hb := h.hb; have hf := h.fz
  have h0 := h.k0; have h1 := h.k1; have h2 := h.k2; have h3 := h.k3; have h4 := h.k4; have h5 := h.k5; have h6 := h.k6; have h7 := h.k7; have h8 := h.k8; have h9 := h.k9; have h10 := h.k10
  clear h
  exact ⟨by simpa using hb, fun j => by simpa using hf j, by simp [go_sem, h0], by simp [go_sem, h1], by simp [go_sem, h2], by simp [go_sem, h3], by simp [go_sem, h4], by simp [go_sem, h5], by simp [go_sem, h6], by simp [go_sem, h7], by simp [go_sem, h8], by simp [go_sem, h9], by simp [go_sem, h10]⟩
theorem Bk11.set6 {W W9 : World} {b : Nat} {v z0 z1 z2 z3 z4 z5 z6 z7 z8 z9 z10 : Value} (h : Bk11 W b z0 z1 z2 z3 z4 z5 z6 z7 z8 z9 z10) (e : W9 = W.setCell ⟨b, 6, none⟩ v) : Bk11 W9 b z0 z1 z2 z3 z4 z5 v z7 z8 z9 z10 := by
  subst e
  have hb := h.hb; have hf := h.fz
  have h0 := h.k0; have h1 := h.k1; have h2 := h.k2; have h3 := h.k3; have h4 := h.k4; have h5 := h.k5; have h6 := h.k6; have h7 := h.k7; have h8 := h.k8; have h9 := h.k9; have h10 := h.k10
  clear h
  exact ⟨by simpa using hb, fun j => by simpa using hf j, by simp [go_sem, h0], by simp [go_sem, h1], by simp [go_sem, h2], by simp [go_sem, h3], by simp [go_sem, h4], by simp [go_sem, h5], by simp [go_sem, h6], by simp [go_sem, h7], by simp [go_sem, h8], by simp [go_sem, h9], by simp [go_sem, h10]⟩
theorem Bk11.set7 {W W9 : World} {b : Nat} {v z0 z1 z2 z3 z4 z5 z6 z7 z8 z9 z10 : Value} (h : Bk11 W b z0 z1 z2 z3 z4 z5 z6 z7 z8 z9 z10) (e : W9 = W.setCell ⟨b, 7, none⟩ v) : Bk11 W9 b z0 z1 z2 z3 z4 z5 z6 v z8 z9 z10 := by
  subst e
  have hb := h.hb; have hf := h.fz
  have h0 := h.k0; have h1 := h.k1; have h2 := h.k2; have h3 := h.k3; have h4 := h.k4; have h5 := h.k5; have h6 := h.k6; have h7 := h.k7; have h8 := h.k8; have h9 := h.k9; have h10 := h.k10
  clear h
  exact ⟨by simpa using hb, fun j => by simpa using hf j, by simp [go_sem, h0], by simp [go_sem, h1], by simp [go_sem, h2], by simp [go_sem, h3], by simp [go_sem, h4], by simp [go_sem, h5], by simp [go_sem, h6], by simp [go_sem, h7], by simp [go_sem, h8], by simp [go_sem, h9], by simp [go_sem, h10]⟩
theorem Bk11.set8 {W W9 : World} {b : Nat} {v z0 z1 z2 z3 z4 z5 z6 z7 z8 z9 z10 : Value} (h : Bk11 W b z0 z1 z2 z3 z4 z5 z6 z7 z8 z9 z10) (e : W9 = W.setCell ⟨b, 8, none⟩ v) : Bk11 W9 b z0 z1 z2 z3 z4 z5 z6 z7 v z9 z10 := by
  subst e
  have hb := h.hb; have hf := h.fz
  have h0 := h.k0; have h1 := h.k1; have h2 := h.k2; have h3 := h.k3; have h4 := h.k4; have h5 := h.k5; have h6 := h.k6; have h7 := h.k7; have h8 := h.k8; have h9 := h.k9; have h10 := h.k10
  clear h
  exact ⟨by simpa using hb, fun j => by simpa using hf j, by simp [go_sem, h0], by simp [go_sem, h1], by simp [go_sem, h2], by simp [go_sem, h3], by simp [go_sem, h4], by simp [go_sem, h5], by simp [go_sem, h6], by simp [go_sem, h7], by simp [go_sem, h8], by simp [go_sem, h9], by simp [go_sem, h10]⟩
theorem Bk11.set9 {W W9 : World} {b : Nat} {v z0 z1 z2 z3 z4 z5 z6 z7 z8 z9 z10 : Value} (h : Bk11 W b z0 z1 z2 z3 z4 z5 z6 z7 z8 z9 z10) (e : W9 = W.setCell ⟨b, 9, none⟩ v) : Bk11 W9 b z0 z1 z2 z3 z4 z5 z6 z7 z8 v z10 := by
  subst e
  have hb := h.hb; have hf := h.fz
  have h0 := h.k0; have h1 := h.k1; have h2 := h.k2; have h3 := h.k3; have h4 := h.k4; have h5 := h.k5; have h6 := h.k6; have h7 := h.k7; have h8 := h.k8; have h9 := h.k9; have h10 := h.k10
  clear h
  exact ⟨by simpa using hb, fun j => by simpa using hf j, by simp [go_sem, h0], by simp [go_sem, h1], by simp [go_sem, h2], by simp [go_sem, h3], by simp [go_sem, h4], by simp [go_sem, h5], by simp [go_sem, h6], by simp [go_sem, h7], by simp [go_sem, h8], by simp [go_sem, h9], by simp [go_sem, h10]⟩
theorem Bk11.set10 {W W9 : World} {b : Nat} {v z0 z1 z2 z3 z4 z5 z6 z7 z8 z9 z10 : Value} (h : Bk11 W b z0 z1 z2 z3 z4 z5 z6 z7 z8 z9 z10) (e : W9 = W.setCell ⟨b, 10, none⟩ v) : Bk11 W9 b z0 z1 z2 z3 z4 z5 z6 z7 z8 z9 v := by
  subst e
  have hb := h.hb; have hf := h.fz
  have h0 := h.k0; have h1 := h.k1; have h2 := h.k2; have h3 := h.k3; have h4 := h.k4; have h5 := h.k5; have h6 := h.k6; have h7 := h.k7; have h8 := h.k8; have h9 := h.k9; have h10 := h.k10
  clear h
  exact ⟨by simpa using hb, fun j => by simpa using hf j, by simp [go_sem, h0], by simp [go_sem, h1], by simp [go_sem, h2], by simp [go_sem, h3], by simp [go_sem, h4], by simp [go_sem, h5], by simp [go_sem, h6], by simp [go_sem, h7], by simp [go_sem, h8], by simp [go_sem, h9], by simp [go_sem, h10]⟩
theorem Bk11.other {W W9 : World} {b c i : Nat} {v z0 z1 z2 z3 z4 z5 z6 z7 z8 z9 z10 : Value} (h : Bk11 W b z0 z1 z2 z3 z4 z5 z6 z7 z8 z9 z10) (e : W9 = W.setCell ⟨c, i, none⟩ v) (hne : c ≠ b) : Bk11 W9 b z0 z1 z2 z3 z4 z5 z6 z7 z8 z9 z10 := by
  subst e
  have hb := h.hb; have hf := h.fz; have hne2 := Ne.symm hne
  have h0 := h.k0; have h1 := h.k1; have h2 := h.k2; have h3 := h.k3; have h4 := h.k4; have h5 := h.k5; have h6 := h.k6; have h7 := h.k7; have h8 := h.k8; have h9 := h.k9; have h10 := h.k10
  clear h
  exact ⟨by simpa using hb, fun j => by simpa using hf j, by simp [go_sem, h0, hne, hne2], by simp [go_sem, h1, hne, hne2], by simp [go_sem, h2, hne, hne2], by simp [go_sem, h3, hne, hne2], by simp [go_sem, h4, hne, hne2], by simp [go_sem, h5, hne, hne2], by simp [go_sem, h6, hne, hne2], by simp [go_sem, h7, hne, hne2], by simp [go_sem, h8, hne, hne2], by simp [go_sem, h9, hne, hne2], by simp [go_sem, h10, hne, hne2]⟩
theorem set11 {W W9 : World} {b : Nat} {z0 z1 z2 z3 z4 z5 z6 z7 z8 z9 z10 v0 v1 v2 v3 v4 v5 v6 v7 v8 v9 v10 : Value} (h : Bk11 W b z0 z1 z2 z3 z4 z5 z6 z7 z8 z9 z10) (e : W9 = (((((((((((W.setCell ⟨b, 0, none⟩ v0).setCell ⟨b, 1, none⟩ v1).setCell ⟨b, 2, none⟩ v2).setCell ⟨b, 3, none⟩ v3).setCell ⟨b, 4, none⟩ v4).setCell ⟨b, 5, none⟩ v5).setCell ⟨b, 6, none⟩ v6).setCell ⟨b, 7, none⟩ v7).setCell ⟨b, 8, none⟩ v8).setCell ⟨b, 9, none⟩ v9).setCell ⟨b, 10, none⟩ v10)) : Bk11 W9 b v0 v1 v2 v3 v4 v5 v6 v7 v8 v9 v10 := by
  subst e
  have hb := h.hb; have hf := h.fz
  have h0 := h.k0; have h1 := h.k1; have h2 := h.k2; have h3 := h.k3; have h4 := h.k4; have h5 := h.k5; have h6 := h.k6; have h7 := h.k7; have h8 := h.k8; have h9 := h.k9; have h10 := h.k10
  clear h
  exact ⟨by simpa using hb, fun j => by simpa using hf j, by simp [go_sem, h0, h1, h2, h3, h4, h5, h6, h7, h8, h9, h10], by simp [go_sem, h0, h1, h2, h3, h4, h5, h6, h7, h8, h9, h10], by simp [go_sem, h0, h1, h2, h3, h4, h5, h6, h7, h8, h9, h10], by simp [go_sem, h0, h1, h2, h3, h4, h5, h6, h7, h8, h9, h10], by simp [go_sem, h0, h1, h2, h3, h4, h5, h6, h7, h8, h9, h10], by simp [go_sem, h0, h1, h2, h3, h4, h5, h6, h7, h8, h9, h10], by simp [go_sem, h0, h1, h2, h3, h4, h5, h6, h7, h8, h9, h10], by simp [go_sem, h0, h1, h2, h3, h4, h5, h6, h7, h8, h9, h10], by simp [go_sem, h0, h1, h2, h3, h4, h5, h6, h7, h8, h9, h10], by simp [go_sem, h0, h1, h2, h3, h4, h5, h6, h7, h8, h9, h10], by simp [go_sem, h0, h1, h2, h3, h4, h5, h6, h7, h8, h9, h10]⟩
theorem below_set11 {W W9 : World} {b n : Nat} {u : World} {v0 v1 v2 v3 v4 v5 v6 v7 v8 v9 v10 : Value} (h : Below n u W) (hb : n ≤ b) (e : W9 = (((((((((((W.setCell ⟨b, 0, none⟩ v0).setCell ⟨b, 1, none⟩ v1).setCell ⟨b, 2, none⟩ v2).setCell ⟨b, 3, none⟩ v3).setCell ⟨b, 4, none⟩ v4).setCell ⟨b, 5, none⟩ v5).setCell ⟨b, 6, none⟩ v6).setCell ⟨b, 7, none⟩ v7).setCell ⟨b, 8, none⟩ v8).setCell ⟨b, 9, none⟩ v9).setCell ⟨b, 10, none⟩ v10)) : Below n u W9 := by
  subst e
  iterate 11 (refine Below.setCell ?_ (by simpa using hb) _)
  exact h

section
variable {P : Program} {ops : Array Oper} {rest : List Oper} {o : Oper} {a : Act} {w : World} {Q : Exit → Act → World → Prop}
/-- The store of a struct of 11 cells, as one step. -/
theorem wpList_st11 (hgd : o.guard = none) (ty : TypeId) (x y : Operand) (ho : o.op = .store ty x y) (b : Nat) (v0 v1 v2 v3 v4 v5 v6 v7 v8 v9 v10 : Value) (hx : a.eval x = .pointer (some ⟨b, 0, none⟩)) (hy : a.eval y = .agg #[v0, v1, v2, v3, v4, v5, v6, v7, v8, v9, v10])
    (hi : (P.info? ty).map (·.size) = some 11) {z0 z1 z2 z3 z4 z5 z6 z7 z8 z9 z10 : Value} (B : Bk11 w b z0 z1 z2 z3 z4 z5 z6 z7 z8 z9 z10) (h1 : ∀ v ∈ [v0, v1, v2, v3, v4, v5, v6, v7, v8, v9, v10], v.oneCell' = true)
    (h : ∀ W9, Bk11 W9 b v0 v1 v2 v3 v4 v5 v6 v7 v8 v9 v10 → (∀ n u, n ≤ b → Below n u w → Below n u W9) → wpList P ops Q rest (a.put o.dst undef) W9) : wpList P ops Q (o :: rest) a w := by
  have hb := B.hb
  have hst := run_storeCells_cells (P := P) b 0 [v0, v1, v2, v3, v4, v5, v6, v7, v8, v9, v10] 0 w (fun j hj => by
      simp only [Nat.zero_add]
      match j, hj with
      | 0, _ => rw [B.k0]; rfl
      | 1, _ => rw [B.k1]; rfl
      | 2, _ => rw [B.k2]; rfl
      | 3, _ => rw [B.k3]; rfl
      | 4, _ => rw [B.k4]; rfl
      | 5, _ => rw [B.k5]; rfl
      | 6, _ => rw [B.k6]; rfl
      | 7, _ => rw [B.k7]; rfl
      | 8, _ => rw [B.k8]; rfl
      | 9, _ => rw [B.k9]; rfl
      | 10, _ => rw [B.k10]; rfl
      | n + 11, hj => simp at hj; omega) (fun j hj => by simp only [Nat.zero_add]; exact B.fz j) h1
  cases hq : P.info? ty with
  | none => simp [hq] at hi
  | some i =>
    have hs : i.size = 11 := by simpa [hq] using hi
    have hrun : (storeVar ty ⟨b, 0, none⟩ (.agg #[v0, v1, v2, v3, v4, v5, v6, v7, v8, v9, v10])).run P w = .ok () (w.setCells b 0 [v0, v1, v2, v3, v4, v5, v6, v7, v8, v9, v10]) := by
      simp [storeVar, sizeOf, typeInfo, hq, Value.cells, hs, hst]
    refine wpList_plain hgd fun K hK => ?_
    unfold Oper.wp execOp
    simp only [ho, hx, hy, Instr.storeAt, Instr.sureAddr, Sem.run_bind, Sem.run_pure, Result.andThen_ok, hrun]
    refine hK _ _ (h _ (set11 B rfl) (fun n u hn hu => below_set11 hu hn rfl))
end
end Go.Proofs.YtedbohfcbfegjaaGreatDoor

/- giveup: Must at days, times of day, texts. -/
set_option linter.unusedVariables false
set_option linter.unusedSimpArgs false
namespace Go.Proofs.YtedbohfcbfegjaaGreatDoor
open Go.RowKit Go.Sort

theorem musto_yes (x0 x1 x2 : Int) (w : World) : Calls Tryz.prog 83 #[.agg #[.int .i64 x0, .int .i64 x1, .int .i64 x2], .int .i64 0] w fun e w' => e = .returned (.agg #[.int .i64 x0, .int .i64 x1, .int .i64 x2]) ∧ Below w.heap.size w w' := by
  go_enter Tryz.func83, Tryz.ntmps83
  go_wp2_with fail
  refine (for_yes _).mono ?_; rintro e v1 ⟨rfl, rfl⟩
  go_wp2_with fail
  refine bodyPost_ret (v := .agg #[.int .i64 x0, .int .i64 x1, .int .i64 x2]) (by simp [results, Tryz.results83, go_sem]) rfl ⟨rfl, ?_⟩
  exact (by repeat (first | exact Below.refl _ _ | refine below_drewN ?_ _ | refine Below.drew ?_ | refine Below.setCell ?_ (by first | (simp; done) | (simp; omega) | omega) _ | refine Below.alloc ?_ (by first | (simp; done) | (simp; omega) | omega) _))
theorem musto_no (x0 x1 x2 why : Int) (w : World) (h : why ≠ 0) : Calls Tryz.prog 83 #[.agg #[.int .i64 x0, .int .i64 x1, .int .i64 x2], .int .i64 why] w fun e w' => e = .panicked (gvP why) ∧ Below w.heap.size w w' := by
  have FN := Lib.hid (fun W => for_no why W h)
  clear h
  go_enter Tryz.func83, Tryz.ntmps83
  go_wp2_with fail
  refine (FN.out _).mono ?_; rintro e w1 ⟨rfl, rfl⟩
  refine (show bodyPost _ _ _ (Exit.panic (gvP why)) _ _ from ?_)
  simp only [bodyPost]
  exact ⟨trivial, by first | rfl | trivial, ((Below.refl _ _).alloc (Nat.le_refl _) _).alloc (by simp) _⟩
theorem musta_yes (x0 x1 : Int) (w : World) : Calls Tryz.prog 85 #[.agg #[.int .i64 x0, .int .i64 x1], .int .i64 0] w fun e w' => e = .returned (.agg #[.int .i64 x0, .int .i64 x1]) ∧ Below w.heap.size w w' := by
  go_enter Tryz.func85, Tryz.ntmps85
  go_wp2_with fail
  refine (for_yes _).mono ?_; rintro e v1 ⟨rfl, rfl⟩
  go_wp2_with fail
  refine bodyPost_ret (v := .agg #[.int .i64 x0, .int .i64 x1]) (by simp [results, Tryz.results85, go_sem]) rfl ⟨rfl, ?_⟩
  exact (by repeat (first | exact Below.refl _ _ | refine below_drewN ?_ _ | refine Below.drew ?_ | refine Below.setCell ?_ (by first | (simp; done) | (simp; omega) | omega) _ | refine Below.alloc ?_ (by first | (simp; done) | (simp; omega) | omega) _))
theorem musta_no (x0 x1 why : Int) (w : World) (h : why ≠ 0) : Calls Tryz.prog 85 #[.agg #[.int .i64 x0, .int .i64 x1], .int .i64 why] w fun e w' => e = .panicked (gvP why) ∧ Below w.heap.size w w' := by
  have FN := Lib.hid (fun W => for_no why W h)
  clear h
  go_enter Tryz.func85, Tryz.ntmps85
  go_wp2_with fail
  refine (FN.out _).mono ?_; rintro e w1 ⟨rfl, rfl⟩
  refine (show bodyPost _ _ _ (Exit.panic (gvP why)) _ _ from ?_)
  simp only [bodyPost]
  exact ⟨trivial, by first | rfl | trivial, ((Below.refl _ _).alloc (Nat.le_refl _) _).alloc (by simp) _⟩
theorem musts_yes (s : ByteArray) (w : World) : Calls Tryz.prog 38 #[.string s, .int .i64 0] w fun e w' => e = .returned (.string s) ∧ w = w' := by
  go_enter Tryz.func38, Tryz.ntmps38
  go_wp2_with fail
  refine (for_yes _).mono ?_; rintro e w1 ⟨rfl, rfl⟩
  go_wp2_with fail
  go_ret
  exact ⟨rfl, rfl⟩
theorem musts_no (s : ByteArray) (why : Int) (w : World) (h : why ≠ 0) : Calls Tryz.prog 38 #[.string s, .int .i64 why] w fun e w' => e = .panicked (gvP why) ∧ w = w' := by
  go_enter Tryz.func38, Tryz.ntmps38
  go_wp2_with fail
  refine (for_no why _ h).mono ?_; rintro e w1 ⟨rfl, rfl⟩
  refine (show bodyPost _ _ _ (Exit.panic (gvP why)) _ _ from ?_)
  simp [bodyPost]
end Go.Proofs.YtedbohfcbfegjaaGreatDoor
