/- Joined: BkU, FoB. -/
import Derived.Test.YtjggjkeopbcmoaaGreatDoorBt01
import Derived.Test.YtjggjkeopbcmoaaGreatDoorBt02
import Derived.Test.YtjggjkeopbcmoaaGreatDoorLaid7
import Derived.Test.YtjggjkeopbcmoaaGreatDoorBt04
import Derived.Test.YtjggjkeopbcmoaaGreatDoorBt06
import Derived.Test.YtjggjkeopbcmoaaGreatDoorBt03
import Derived.Shelf.Strings.Count
import Derived.Shelf.Strings.Search3
import Derived.Shelf.Strings.Prefix
import Derived.Lib.SplitLaws
set_option linter.unusedVariables false
set_option linter.unusedSimpArgs false
namespace Go.Proofs.YtjggjkeopbcmoaaGreatDoor
open Go.RowKit
structure Bk8 (W : World) (b : Nat) (v0 v1 v2 v3 v4 v5 v6 v7 : Value) : Prop where
 hb : b < W.heap.size
 fz : ∀ j, W.frozen? ⟨b, j, none⟩ = false
 k0 : W.cell? ⟨b, 0, none⟩ = some v0
 k1 : W.cell? ⟨b, 1, none⟩ = some v1
 k2 : W.cell? ⟨b, 2, none⟩ = some v2
 k3 : W.cell? ⟨b, 3, none⟩ = some v3
 k4 : W.cell? ⟨b, 4, none⟩ = some v4
 k5 : W.cell? ⟨b, 5, none⟩ = some v5
 k6 : W.cell? ⟨b, 6, none⟩ = some v6
 k7 : W.cell? ⟨b, 7, none⟩ = some v7
theorem Bk8.of {W w1 : World} {b : Nat} {v0 v1 v2 v3 v4 v5 v6 v7 : Value} (k : Below W.heap.size W w1) (hb : b < W.heap.size) (hf : ∀ j, W.frozen? ⟨b, j, none⟩ = false) (h0 : W.cell? ⟨b, 0, none⟩ = some v0) (h1 : W.cell? ⟨b, 1, none⟩ = some v1) (h2 : W.cell? ⟨b, 2, none⟩ = some v2) (h3 : W.cell? ⟨b, 3, none⟩ = some v3) (h4 : W.cell? ⟨b, 4, none⟩ = some v4) (h5 : W.cell? ⟨b, 5, none⟩ = some v5) (h6 : W.cell? ⟨b, 6, none⟩ = some v6) (h7 : W.cell? ⟨b, 7, none⟩ = some v7) : Bk8 w1 b v0 v1 v2 v3 v4 v5 v6 v7 :=
 ⟨Nat.lt_of_lt_of_le hb k.size, fun j => (k.frozen (p := ⟨b, j, none⟩) hb).trans (hf j), (k.cell (p := ⟨b, 0, none⟩) hb).trans h0, (k.cell (p := ⟨b, 1, none⟩) hb).trans h1, (k.cell (p := ⟨b, 2, none⟩) hb).trans h2, (k.cell (p := ⟨b, 3, none⟩) hb).trans h3, (k.cell (p := ⟨b, 4, none⟩) hb).trans h4, (k.cell (p := ⟨b, 5, none⟩) hb).trans h5, (k.cell (p := ⟨b, 6, none⟩) hb).trans h6, (k.cell (p := ⟨b, 7, none⟩) hb).trans h7⟩
theorem Bk8.keep {W w1 : World} {b : Nat} {v0 v1 v2 v3 v4 v5 v6 v7 : Value} (h : Bk8 W b v0 v1 v2 v3 v4 v5 v6 v7) (k : Below W.heap.size W w1) : Bk8 w1 b v0 v1 v2 v3 v4 v5 v6 v7 :=
 Bk8.of k h.hb h.fz h.k0 h.k1 h.k2 h.k3 h.k4 h.k5 h.k6 h.k7
theorem Bk8.set1 {W W9 : World} {b : Nat} {v z0 z1 z2 z3 z4 z5 z6 z7 : Value} (h : Bk8 W b z0 z1 z2 z3 z4 z5 z6 z7) (e : W9 = W.setCell ⟨b, 1, none⟩ v) : Bk8 W9 b z0 v z2 z3 z4 z5 z6 z7 := by
 subst e
 have hb := h.hb; have hf := h.fz
 have h0 := h.k0; have h1 := h.k1; have h2 := h.k2; have h3 := h.k3; have h4 := h.k4; have h5 := h.k5; have h6 := h.k6; have h7 := h.k7
 clear h
 exact ⟨by simpa using hb, fun j => by simpa using hf j, by simp [go_sem, h0], by simp [go_sem, h1], by simp [go_sem, h2], by simp [go_sem, h3], by simp [go_sem, h4], by simp [go_sem, h5], by simp [go_sem, h6], by simp [go_sem, h7]⟩
theorem Bk8.set2 {W W9 : World} {b : Nat} {v z0 z1 z2 z3 z4 z5 z6 z7 : Value} (h : Bk8 W b z0 z1 z2 z3 z4 z5 z6 z7) (e : W9 = W.setCell ⟨b, 2, none⟩ v) : Bk8 W9 b z0 z1 v z3 z4 z5 z6 z7 := by
 subst e
 have hb := h.hb; have hf := h.fz
 have h0 := h.k0; have h1 := h.k1; have h2 := h.k2; have h3 := h.k3; have h4 := h.k4; have h5 := h.k5; have h6 := h.k6; have h7 := h.k7
 clear h
 exact ⟨by simpa using hb, fun j => by simpa using hf j, by simp [go_sem, h0], by simp [go_sem, h1], by simp [go_sem, h2], by simp [go_sem, h3], by simp [go_sem, h4], by simp [go_sem, h5], by simp [go_sem, h6], by simp [go_sem, h7]⟩
theorem Bk8.set5 {W W9 : World} {b : Nat} {v z0 z1 z2 z3 z4 z5 z6 z7 : Value} (h : Bk8 W b z0 z1 z2 z3 z4 z5 z6 z7) (e : W9 = W.setCell ⟨b, 5, none⟩ v) : Bk8 W9 b z0 z1 z2 z3 z4 v z6 z7 := by
 subst e
 have hb := h.hb; have hf := h.fz
 have h0 := h.k0; have h1 := h.k1; have h2 := h.k2; have h3 := h.k3; have h4 := h.k4; have h5 := h.k5; have h6 := h.k6; have h7 := h.k7
 clear h
 exact ⟨by simpa using hb, fun j => by simpa using hf j, by simp [go_sem, h0], by simp [go_sem, h1], by simp [go_sem, h2], by simp [go_sem, h3], by simp [go_sem, h4], by simp [go_sem, h5], by simp [go_sem, h6], by simp [go_sem, h7]⟩
theorem Bk8.set6 {W W9 : World} {b : Nat} {v z0 z1 z2 z3 z4 z5 z6 z7 : Value} (h : Bk8 W b z0 z1 z2 z3 z4 z5 z6 z7) (e : W9 = W.setCell ⟨b, 6, none⟩ v) : Bk8 W9 b z0 z1 z2 z3 z4 z5 v z7 := by
 subst e
 have hb := h.hb; have hf := h.fz
 have h0 := h.k0; have h1 := h.k1; have h2 := h.k2; have h3 := h.k3; have h4 := h.k4; have h5 := h.k5; have h6 := h.k6; have h7 := h.k7
 clear h
 exact ⟨by simpa using hb, fun j => by simpa using hf j, by simp [go_sem, h0], by simp [go_sem, h1], by simp [go_sem, h2], by simp [go_sem, h3], by simp [go_sem, h4], by simp [go_sem, h5], by simp [go_sem, h6], by simp [go_sem, h7]⟩
theorem Bk8.set7 {W W9 : World} {b : Nat} {v z0 z1 z2 z3 z4 z5 z6 z7 : Value} (h : Bk8 W b z0 z1 z2 z3 z4 z5 z6 z7) (e : W9 = W.setCell ⟨b, 7, none⟩ v) : Bk8 W9 b z0 z1 z2 z3 z4 z5 z6 v := by
 subst e
 have hb := h.hb; have hf := h.fz
 have h0 := h.k0; have h1 := h.k1; have h2 := h.k2; have h3 := h.k3; have h4 := h.k4; have h5 := h.k5; have h6 := h.k6; have h7 := h.k7
 clear h
 exact ⟨by simpa using hb, fun j => by simpa using hf j, by simp [go_sem, h0], by simp [go_sem, h1], by simp [go_sem, h2], by simp [go_sem, h3], by simp [go_sem, h4], by simp [go_sem, h5], by simp [go_sem, h6], by simp [go_sem, h7]⟩
theorem Bk8.other {W W9 : World} {b c i : Nat} {v z0 z1 z2 z3 z4 z5 z6 z7 : Value} (h : Bk8 W b z0 z1 z2 z3 z4 z5 z6 z7) (e : W9 = W.setCell ⟨c, i, none⟩ v) (hne : c ≠ b) : Bk8 W9 b z0 z1 z2 z3 z4 z5 z6 z7 := by
 subst e
 have hb := h.hb; have hf := h.fz; have hne2 := Ne.symm hne
 have h0 := h.k0; have h1 := h.k1; have h2 := h.k2; have h3 := h.k3; have h4 := h.k4; have h5 := h.k5; have h6 := h.k6; have h7 := h.k7
 clear h
 exact ⟨by simpa using hb, fun j => by simpa using hf j, by simp [go_sem, h0, hne, hne2], by simp [go_sem, h1, hne, hne2], by simp [go_sem, h2, hne, hne2], by simp [go_sem, h3, hne, hne2], by simp [go_sem, h4, hne, hne2], by simp [go_sem, h5, hne, hne2], by simp [go_sem, h6, hne, hne2], by simp [go_sem, h7, hne, hne2]⟩
theorem set8 {W W9 : World} {b : Nat} {z0 z1 z2 z3 z4 z5 z6 z7 v0 v1 v2 v3 v4 v5 v6 v7 : Value} (h : Bk8 W b z0 z1 z2 z3 z4 z5 z6 z7) (e : W9 = ((((((((W.setCell ⟨b, 0, none⟩ v0).setCell ⟨b, 1, none⟩ v1).setCell ⟨b, 2, none⟩ v2).setCell ⟨b, 3, none⟩ v3).setCell ⟨b, 4, none⟩ v4).setCell ⟨b, 5, none⟩ v5).setCell ⟨b, 6, none⟩ v6).setCell ⟨b, 7, none⟩ v7)) : Bk8 W9 b v0 v1 v2 v3 v4 v5 v6 v7 := by
 subst e
 have hb := h.hb; have hf := h.fz
 have h0 := h.k0; have h1 := h.k1; have h2 := h.k2; have h3 := h.k3; have h4 := h.k4; have h5 := h.k5; have h6 := h.k6; have h7 := h.k7
 clear h
 exact ⟨by simpa using hb, fun j => by simpa using hf j, by simp [go_sem, h0, h1, h2, h3, h4, h5, h6, h7], by simp [go_sem, h0, h1, h2, h3, h4, h5, h6, h7], by simp [go_sem, h0, h1, h2, h3, h4, h5, h6, h7], by simp [go_sem, h0, h1, h2, h3, h4, h5, h6, h7], by simp [go_sem, h0, h1, h2, h3, h4, h5, h6, h7], by simp [go_sem, h0, h1, h2, h3, h4, h5, h6, h7], by simp [go_sem, h0, h1, h2, h3, h4, h5, h6, h7], by simp [go_sem, h0, h1, h2, h3, h4, h5, h6, h7]⟩
theorem below_set8 {W W9 : World} {b n : Nat} {u : World} {v0 v1 v2 v3 v4 v5 v6 v7 : Value} (h : Below n u W) (hb : n ≤ b) (e : W9 = ((((((((W.setCell ⟨b, 0, none⟩ v0).setCell ⟨b, 1, none⟩ v1).setCell ⟨b, 2, none⟩ v2).setCell ⟨b, 3, none⟩ v3).setCell ⟨b, 4, none⟩ v4).setCell ⟨b, 5, none⟩ v5).setCell ⟨b, 6, none⟩ v6).setCell ⟨b, 7, none⟩ v7)) : Below n u W9 := by
 subst e
 iterate 8 (refine Below.setCell ?_ (by simpa using hb) _)
 exact h
section
variable {P : Program} {ops : Array Oper} {rest : List Oper} {o : Oper} {a : Act} {w : World} {Q : Exit → Act → World → Prop}
theorem wpList_st8 (hgd : o.guard = none) (ty : TypeId) (x y : Operand) (ho : o.op = .store ty x y) (b : Nat) (v0 v1 v2 v3 v4 v5 v6 v7 : Value) (hx : a.eval x = .pointer (some ⟨b, 0, none⟩)) (hy : a.eval y = .agg #[v0, v1, v2, v3, v4, v5, v6, v7])
  (hi : (P.info? ty).map (·.size) = some 8) {z0 z1 z2 z3 z4 z5 z6 z7 : Value} (B : Bk8 w b z0 z1 z2 z3 z4 z5 z6 z7) (h1 : ∀ v ∈ [v0, v1, v2, v3, v4, v5, v6, v7], v.oneCell' = true)
  (h : ∀ W9, Bk8 W9 b v0 v1 v2 v3 v4 v5 v6 v7 → (∀ n u, n ≤ b → Below n u w → Below n u W9) → wpList P ops Q rest (a.put o.dst undef) W9) : wpList P ops Q (o :: rest) a w := by
 have hb := B.hb
 have hst := run_storeCells_cells (P := P) b 0 [v0, v1, v2, v3, v4, v5, v6, v7] 0 w (fun j hj => by
   simp only [Nat.zero_add]
   match j, hj with
   | 0, _ => rw [B.k0]; rfl
   | 1, _ => rw [B.k1]; rfl
   | 2, _ => rw [B.k2]; rfl
   | 3, _ => rw [B.k3]; rfl
   | 4, _ => rw [B.k4]; rfl
   | 5, _ => rw [B.k5]; rfl
   | 6, _ => rw [B.k6]; rfl
   | 7, _ => rw [B.k7]; rfl
   | n + 8, hj => simp at hj; omega) (fun j hj => by simp only [Nat.zero_add]; exact B.fz j) h1
 cases hq : P.info? ty with
 | none => simp [hq] at hi
 | some i =>
  have hs : i.size = 8 := by simpa [hq] using hi
  have hrun : (storeVar ty ⟨b, 0, none⟩ (.agg #[v0, v1, v2, v3, v4, v5, v6, v7])).run P w = .ok () (w.setCells b 0 [v0, v1, v2, v3, v4, v5, v6, v7]) := by
   simp [storeVar, sizeOf, typeInfo, hq, Value.cells, hs, hst]
  refine wpList_plain hgd fun K hK => ?_
  unfold Oper.wp execOp
  simp only [ho, hx, hy, Instr.storeAt, Instr.sureAddr, Sem.run_bind, Sem.run_pure, Result.andThen_ok, hrun]
  refine hK _ _ (h _ (set8 B rfl) (fun n u hn hu => below_set8 hu hn rfl))
end
end Go.Proofs.YtjggjkeopbcmoaaGreatDoor
set_option linter.unusedVariables false
set_option linter.unusedSimpArgs false
namespace Go.Proofs.YtjggjkeopbcmoaaGreatDoor
open Go.RowKit
namespace Fo
def kd (l : List UInt8) : Int × Int :=
 if 16 < l.length then (0, 9) else if made [43, 45, 37, 47] l = false then (0, 4)
 else if l.count 37 = 0 ∧ l.count 47 = 0 then (0, 0)
 else if (l.count 37 = 1 ∧ l.count 47 = 0) ∧ Lib.contains l [37, 115] = true then (1, 0)
 else if (l == [37, 122]) = true then (2, 0)
 else if (l.count 37 = 0 ∧ l.count 47 = 1) ∧ Lib.hasPrefix l [47] = false ∧ Lib.hasSuffix l [47] = false then (3, 0) else (0, 4)
end Fo
set_option maxHeartbeats 4000000 in
set_option maxRecDepth 100000 in
theorem kind_core (s : ByteArray) (P Q : Nat) (mB cB zB pB sB : Bool) (R : Int × Int) (w : World) (hs : s.size ≤ 100000) (p0 : P ≤ 100000) (q0 : Q ≤ 100000) (hz : (s.toList == [37, 122]) = zB)
  (CP : Hid (∀ W, Calls Tryz.prog 147 #[.string s, .string ⟨#[37]⟩] W fun e w' => e = .returned (.int .i64 P) ∧ W = w'))
  (CQ : Hid (∀ W, Calls Tryz.prog 147 #[.string s, .string ⟨#[47]⟩] W fun e w' => e = .returned (.int .i64 Q) ∧ W = w'))
  (CM : Hid (∀ W, Calls Tryz.prog 92 #[.string s, .string ⟨#[43, 45, 37, 47]⟩] W fun e w' => e = .returned (.bool mB) ∧ W = w'))
  (CC : Hid (∀ W, w = W → Calls Tryz.prog 148 #[.string s, .string ⟨#[37, 115]⟩] W fun e w' => e = .returned (.bool cB) ∧ W = w'))
  (CH : Hid (∀ W, Calls Tryz.prog 149 #[.string s, .string ⟨#[47]⟩] W fun e w' => e = .returned (.bool pB) ∧ W = w'))
  (CS : Hid (∀ W, Calls Tryz.prog 150 #[.string s, .string ⟨#[47]⟩] W fun e w' => e = .returned (.bool sB) ∧ W = w'))
  (hR : Hid (R = if 16 < s.size then (0, 9) else if mB = false then (0, 4) else if P = 0 ∧ Q = 0 then (0, 0) else if (P = 1 ∧ Q = 0) ∧ cB = true then (1, 0) else if zB = true then (2, 0) else if (P = 0 ∧ Q = 1) ∧ pB = false ∧ sB = false then (3, 0) else (0, 4))) :
  Calls Tryz.prog 118 #[.string s] w fun e w' => e = .returned (.tuple #[.int .i64 R.1, .int .i64 R.2]) ∧ w = w' := by
 obtain ⟨R1, R2⟩ := R
 show Calls Tryz.prog 118 #[.string s] w fun e w' => e = .returned (.tuple #[.int .i64 R1, .int .i64 R2]) ∧ w = w'
 by_cases h16 : 16 < (s.size : Int)
 ·
  have h16n : 16 < s.size := by omega
  have HRR := Lib.hid (show R1 = 0 ∧ R2 = 9 by have := hR.out; rw [if_pos h16n] at this; exact ⟨congrArg Prod.fst this, congrArg Prod.snd this⟩)
  clear hR
  go_enter Tryz.func118, Tryz.ntmps118
  go_wp2_with fail
  refine (CP.out _).mono ?_; rintro e w1 ⟨rfl, rfl⟩
  go_wp2_with fail
  refine (CQ.out _).mono ?_; rintro e w1 ⟨rfl, rfl⟩
  go_wp2_with fail
  go_ret2
  exact ⟨by rw [HRR.out.1, HRR.out.2]; rfl, rfl⟩
 ·
  have h16n : ¬ 16 < s.size := by omega
  cases mB
  ·
   have X := Lib.hid h16n
   have HRR := Lib.hid (show R1 = 0 ∧ R2 = 4 by have := hR.out; rw [if_neg h16n, if_pos rfl] at this; exact ⟨congrArg Prod.fst this, congrArg Prod.snd this⟩)
   clear hR
   go_enter Tryz.func118, Tryz.ntmps118
   go_wp2_with fail
   refine (CP.out _).mono ?_; rintro e w1 ⟨rfl, rfl⟩
   go_wp2_with fail
   refine (CQ.out _).mono ?_; rintro e w1 ⟨rfl, rfl⟩
   go_wp2_with fail
   refine (CM.out _).mono ?_; rintro e w1 ⟨rfl, rfl⟩
   go_wp2_with fail
   go_ret2
   exact ⟨by rw [HRR.out.1, HRR.out.2]; rfl, rfl⟩
  ·
   rcases (show P = 0 ∨ P = 1 ∨ (P ≠ 0 ∧ P ≠ 1) by omega) with hP | hP | ⟨hP, hP1⟩
   ·
    rcases (show Q = 0 ∨ Q = 1 ∨ (Q ≠ 0 ∧ Q ≠ 1) by omega) with hQ | hQ | ⟨hQ, hQ1⟩
    ·
     subst hP
     subst hQ
     have HRR := Lib.hid (show R1 = 0 ∧ R2 = 0 by have := hR.out; rw [if_neg h16n, if_neg (by decide), if_pos ⟨rfl, rfl⟩] at this; exact ⟨congrArg Prod.fst this, congrArg Prod.snd this⟩)
     clear hR
     go_enter Tryz.func118, Tryz.ntmps118
     go_wp2_with fail
     refine (CP.out _).mono ?_; rintro e w1 ⟨rfl, rfl⟩
     go_wp2_with fail
     refine (CQ.out _).mono ?_; rintro e w1 ⟨rfl, rfl⟩
     go_wp2_with fail
     refine (CM.out _).mono ?_; rintro e w1 ⟨rfl, rfl⟩
     go_wp2_with fail
     go_ret2
     exact ⟨by rw [HRR.out.1, HRR.out.2]; rfl, rfl⟩
    ·
     subst hP
     subst hQ
     cases zB
     ·
      have X := Lib.hid h16n
      cases pB
      ·
       cases sB
       ·
        have Y := Lib.hid h16n
        have HRR := Lib.hid (show R1 = 3 ∧ R2 = 0 by have := hR.out; rw [if_neg h16n, if_neg (by decide), if_neg (fun h => by have h1 := h.1; have h2 := h.2; omega), if_neg (fun h => by have h1 := h.1.1; have h2 := h.1.2; omega), if_neg (by decide), if_pos ⟨⟨rfl, rfl⟩, rfl, rfl⟩] at this; exact ⟨congrArg Prod.fst this, congrArg Prod.snd this⟩)
        clear hR
        go_enter Tryz.func118, Tryz.ntmps118
        go_wp2_with fail
        refine (CP.out _).mono ?_; rintro e w1 ⟨rfl, rfl⟩
        go_wp2_with fail
        refine (CQ.out _).mono ?_; rintro e w1 ⟨rfl, rfl⟩
        go_wp2_with fail
        refine (CM.out _).mono ?_; rintro e w1 ⟨rfl, rfl⟩
        go_wp2_with fail
        refine (CH.out _).mono ?_; rintro e w1 ⟨rfl, rfl⟩
        go_wp2_with fail
        refine (CS.out _).mono ?_; rintro e w1 ⟨rfl, rfl⟩
        go_wp2_with fail
        go_ret2
        exact ⟨by rw [HRR.out.1, HRR.out.2]; rfl, rfl⟩
       ·
        have Y := Lib.hid h16n
        have HRR := Lib.hid (show R1 = 0 ∧ R2 = 4 by have := hR.out; rw [if_neg h16n, if_neg (by decide), if_neg (fun h => by have h1 := h.1; have h2 := h.2; omega), if_neg (fun h => by have h1 := h.1.1; have h2 := h.1.2; omega), if_neg (by decide), if_neg (fun h => by cases h.2.2)] at this; exact ⟨congrArg Prod.fst this, congrArg Prod.snd this⟩)
        clear hR
        go_enter Tryz.func118, Tryz.ntmps118
        go_wp2_with fail
        refine (CP.out _).mono ?_; rintro e w1 ⟨rfl, rfl⟩
        go_wp2_with fail
        refine (CQ.out _).mono ?_; rintro e w1 ⟨rfl, rfl⟩
        go_wp2_with fail
        refine (CM.out _).mono ?_; rintro e w1 ⟨rfl, rfl⟩
        go_wp2_with fail
        refine (CH.out _).mono ?_; rintro e w1 ⟨rfl, rfl⟩
        go_wp2_with fail
        refine (CS.out _).mono ?_; rintro e w1 ⟨rfl, rfl⟩
        go_wp2_with fail
        go_ret2
        exact ⟨by rw [HRR.out.1, HRR.out.2]; rfl, rfl⟩
      ·
       have Y := Lib.hid h16n
       have HRR := Lib.hid (show R1 = 0 ∧ R2 = 4 by have := hR.out; rw [if_neg h16n, if_neg (by decide), if_neg (fun h => by have h1 := h.1; have h2 := h.2; omega), if_neg (fun h => by have h1 := h.1.1; have h2 := h.1.2; omega), if_neg (by decide), if_neg (fun h => by cases h.2.1)] at this; exact ⟨congrArg Prod.fst this, congrArg Prod.snd this⟩)
       clear hR
       go_enter Tryz.func118, Tryz.ntmps118
       go_wp2_with fail
       refine (CP.out _).mono ?_; rintro e w1 ⟨rfl, rfl⟩
       go_wp2_with fail
       refine (CQ.out _).mono ?_; rintro e w1 ⟨rfl, rfl⟩
       go_wp2_with fail
       refine (CM.out _).mono ?_; rintro e w1 ⟨rfl, rfl⟩
       go_wp2_with fail
       refine (CH.out _).mono ?_; rintro e w1 ⟨rfl, rfl⟩
       go_wp2_with fail
       go_ret2
       exact ⟨by rw [HRR.out.1, HRR.out.2]; rfl, rfl⟩
     ·
      have X := Lib.hid h16n
      have HRR := Lib.hid (show R1 = 2 ∧ R2 = 0 by have := hR.out; rw [if_neg h16n, if_neg (by decide), if_neg (fun h => by have h1 := h.1; have h2 := h.2; omega), if_neg (fun h => by have h1 := h.1.1; have h2 := h.1.2; omega), if_pos rfl] at this; exact ⟨congrArg Prod.fst this, congrArg Prod.snd this⟩)
      clear hR
      go_enter Tryz.func118, Tryz.ntmps118
      go_wp2_with fail
      refine (CP.out _).mono ?_; rintro e w1 ⟨rfl, rfl⟩
      go_wp2_with fail
      refine (CQ.out _).mono ?_; rintro e w1 ⟨rfl, rfl⟩
      go_wp2_with fail
      refine (CM.out _).mono ?_; rintro e w1 ⟨rfl, rfl⟩
      go_wp2_with fail
      go_ret2
      exact ⟨by rw [HRR.out.1, HRR.out.2]; rfl, rfl⟩
    ·
     subst hP
     have gQ0 : ((Q : Int) == 0) = false := by rw [beq_eq_false_iff_ne]; omega
     have gQ1 : ((Q : Int) == 1) = false := by rw [beq_eq_false_iff_ne]; omega
     cases zB
     ·
      have X := Lib.hid h16n
      have HRR := Lib.hid (show R1 = 0 ∧ R2 = 4 by have := hR.out; rw [if_neg h16n, if_neg (by decide), if_neg (fun h => by have h1 := h.1; have h2 := h.2; omega), if_neg (fun h => by have h1 := h.1.1; have h2 := h.1.2; omega), if_neg (by decide), if_neg (fun h => by have h1 := h.1.1; have h2 := h.1.2; omega)] at this; exact ⟨congrArg Prod.fst this, congrArg Prod.snd this⟩)
      clear hR
      go_enter Tryz.func118, Tryz.ntmps118
      go_wp2_with fail
      refine (CP.out _).mono ?_; rintro e w1 ⟨rfl, rfl⟩
      go_wp2_with fail
      refine (CQ.out _).mono ?_; rintro e w1 ⟨rfl, rfl⟩
      go_wp2_with fail
      refine (CM.out _).mono ?_; rintro e w1 ⟨rfl, rfl⟩
      go_wp2_with fail
      go_ret2
      exact ⟨by rw [HRR.out.1, HRR.out.2]; rfl, rfl⟩
     ·
      have X := Lib.hid h16n
      have HRR := Lib.hid (show R1 = 2 ∧ R2 = 0 by have := hR.out; rw [if_neg h16n, if_neg (by decide), if_neg (fun h => by have h1 := h.1; have h2 := h.2; omega), if_neg (fun h => by have h1 := h.1.1; have h2 := h.1.2; omega), if_pos rfl] at this; exact ⟨congrArg Prod.fst this, congrArg Prod.snd this⟩)
      clear hR
      go_enter Tryz.func118, Tryz.ntmps118
      go_wp2_with fail
      refine (CP.out _).mono ?_; rintro e w1 ⟨rfl, rfl⟩
      go_wp2_with fail
      refine (CQ.out _).mono ?_; rintro e w1 ⟨rfl, rfl⟩
      go_wp2_with fail
      refine (CM.out _).mono ?_; rintro e w1 ⟨rfl, rfl⟩
      go_wp2_with fail
      go_ret2
      exact ⟨by rw [HRR.out.1, HRR.out.2]; rfl, rfl⟩
   ·
    rcases (show Q = 0 ∨ Q = 1 ∨ (Q ≠ 0 ∧ Q ≠ 1) by omega) with hQ | hQ | ⟨hQ, hQ1⟩
    ·
     subst hP
     subst hQ
     cases cB
     ·
      cases zB
      ·
       have X := Lib.hid h16n
       have HRR := Lib.hid (show R1 = 0 ∧ R2 = 4 by have := hR.out; rw [if_neg h16n, if_neg (by decide), if_neg (fun h => by have h1 := h.1; have h2 := h.2; omega), if_neg (fun h => by cases h.2), if_neg (by decide), if_neg (fun h => by have h1 := h.1.1; omega)] at this; exact ⟨congrArg Prod.fst this, congrArg Prod.snd this⟩)
       clear hR
       go_enter Tryz.func118, Tryz.ntmps118
       go_wp2_with fail
       refine (CP.out _).mono ?_; rintro e w1 ⟨rfl, rfl⟩
       go_wp2_with fail
       refine (CQ.out _).mono ?_; rintro e w1 ⟨rfl, rfl⟩
       go_wp2_with fail
       refine (CM.out _).mono ?_; rintro e w1 ⟨rfl, rfl⟩
       go_wp2_with fail
       refine (CC.out _ rfl).mono ?_; rintro e w1 ⟨rfl, rfl⟩
       go_wp2_with fail
       go_ret2
       exact ⟨by rw [HRR.out.1, HRR.out.2]; rfl, rfl⟩
      ·
       have X := Lib.hid h16n
       have HRR := Lib.hid (show R1 = 2 ∧ R2 = 0 by have := hR.out; rw [if_neg h16n, if_neg (by decide), if_neg (fun h => by have h1 := h.1; have h2 := h.2; omega), if_neg (fun h => by cases h.2), if_pos rfl] at this; exact ⟨congrArg Prod.fst this, congrArg Prod.snd this⟩)
       clear hR
       go_enter Tryz.func118, Tryz.ntmps118
       go_wp2_with fail
       refine (CP.out _).mono ?_; rintro e w1 ⟨rfl, rfl⟩
       go_wp2_with fail
       refine (CQ.out _).mono ?_; rintro e w1 ⟨rfl, rfl⟩
       go_wp2_with fail
       refine (CM.out _).mono ?_; rintro e w1 ⟨rfl, rfl⟩
       go_wp2_with fail
       refine (CC.out _ rfl).mono ?_; rintro e w1 ⟨rfl, rfl⟩
       go_wp2_with fail
       go_ret2
       exact ⟨by rw [HRR.out.1, HRR.out.2]; rfl, rfl⟩
     ·
      have X := Lib.hid h16n
      have HRR := Lib.hid (show R1 = 1 ∧ R2 = 0 by have := hR.out; rw [if_neg h16n, if_neg (by decide), if_neg (fun h => by have h1 := h.1; have h2 := h.2; omega), if_pos ⟨⟨rfl, rfl⟩, rfl⟩] at this; exact ⟨congrArg Prod.fst this, congrArg Prod.snd this⟩)
      clear hR
      go_enter Tryz.func118, Tryz.ntmps118
      go_wp2_with fail
      refine (CP.out _).mono ?_; rintro e w1 ⟨rfl, rfl⟩
      go_wp2_with fail
      refine (CQ.out _).mono ?_; rintro e w1 ⟨rfl, rfl⟩
      go_wp2_with fail
      refine (CM.out _).mono ?_; rintro e w1 ⟨rfl, rfl⟩
      go_wp2_with fail
      refine (CC.out _ rfl).mono ?_; rintro e w1 ⟨rfl, rfl⟩
      go_wp2_with fail
      go_ret2
      exact ⟨by rw [HRR.out.1, HRR.out.2]; rfl, rfl⟩
    ·
     subst hP
     subst hQ
     cases zB
     ·
      have X := Lib.hid h16n
      have HRR := Lib.hid (show R1 = 0 ∧ R2 = 4 by have := hR.out; rw [if_neg h16n, if_neg (by decide), if_neg (fun h => by have h1 := h.1; have h2 := h.2; omega), if_neg (fun h => by have h1 := h.1.1; have h2 := h.1.2; omega), if_neg (by decide), if_neg (fun h => by have h1 := h.1.1; have h2 := h.1.2; omega)] at this; exact ⟨congrArg Prod.fst this, congrArg Prod.snd this⟩)
      clear hR
      go_enter Tryz.func118, Tryz.ntmps118
      go_wp2_with fail
      refine (CP.out _).mono ?_; rintro e w1 ⟨rfl, rfl⟩
      go_wp2_with fail
      refine (CQ.out _).mono ?_; rintro e w1 ⟨rfl, rfl⟩
      go_wp2_with fail
      refine (CM.out _).mono ?_; rintro e w1 ⟨rfl, rfl⟩
      go_wp2_with fail
      go_ret2
      exact ⟨by rw [HRR.out.1, HRR.out.2]; rfl, rfl⟩
     ·
      have X := Lib.hid h16n
      have HRR := Lib.hid (show R1 = 2 ∧ R2 = 0 by have := hR.out; rw [if_neg h16n, if_neg (by decide), if_neg (fun h => by have h1 := h.1; have h2 := h.2; omega), if_neg (fun h => by have h1 := h.1.1; have h2 := h.1.2; omega), if_pos rfl] at this; exact ⟨congrArg Prod.fst this, congrArg Prod.snd this⟩)
      clear hR
      go_enter Tryz.func118, Tryz.ntmps118
      go_wp2_with fail
      refine (CP.out _).mono ?_; rintro e w1 ⟨rfl, rfl⟩
      go_wp2_with fail
      refine (CQ.out _).mono ?_; rintro e w1 ⟨rfl, rfl⟩
      go_wp2_with fail
      refine (CM.out _).mono ?_; rintro e w1 ⟨rfl, rfl⟩
      go_wp2_with fail
      go_ret2
      exact ⟨by rw [HRR.out.1, HRR.out.2]; rfl, rfl⟩
    ·
     subst hP
     have gQ0 : ((Q : Int) == 0) = false := by rw [beq_eq_false_iff_ne]; omega
     have gQ1 : ((Q : Int) == 1) = false := by rw [beq_eq_false_iff_ne]; omega
     cases zB
     ·
      have X := Lib.hid h16n
      have HRR := Lib.hid (show R1 = 0 ∧ R2 = 4 by have := hR.out; rw [if_neg h16n, if_neg (by decide), if_neg (fun h => by have h1 := h.1; have h2 := h.2; omega), if_neg (fun h => by have h1 := h.1.1; have h2 := h.1.2; omega), if_neg (by decide), if_neg (fun h => by have h1 := h.1.1; have h2 := h.1.2; omega)] at this; exact ⟨congrArg Prod.fst this, congrArg Prod.snd this⟩)
      clear hR
      go_enter Tryz.func118, Tryz.ntmps118
      go_wp2_with fail
      refine (CP.out _).mono ?_; rintro e w1 ⟨rfl, rfl⟩
      go_wp2_with fail
      refine (CQ.out _).mono ?_; rintro e w1 ⟨rfl, rfl⟩
      go_wp2_with fail
      refine (CM.out _).mono ?_; rintro e w1 ⟨rfl, rfl⟩
      go_wp2_with fail
      go_ret2
      exact ⟨by rw [HRR.out.1, HRR.out.2]; rfl, rfl⟩
     ·
      have X := Lib.hid h16n
      have HRR := Lib.hid (show R1 = 2 ∧ R2 = 0 by have := hR.out; rw [if_neg h16n, if_neg (by decide), if_neg (fun h => by have h1 := h.1; have h2 := h.2; omega), if_neg (fun h => by have h1 := h.1.1; have h2 := h.1.2; omega), if_pos rfl] at this; exact ⟨congrArg Prod.fst this, congrArg Prod.snd this⟩)
      clear hR
      go_enter Tryz.func118, Tryz.ntmps118
      go_wp2_with fail
      refine (CP.out _).mono ?_; rintro e w1 ⟨rfl, rfl⟩
      go_wp2_with fail
      refine (CQ.out _).mono ?_; rintro e w1 ⟨rfl, rfl⟩
      go_wp2_with fail
      refine (CM.out _).mono ?_; rintro e w1 ⟨rfl, rfl⟩
      go_wp2_with fail
      go_ret2
      exact ⟨by rw [HRR.out.1, HRR.out.2]; rfl, rfl⟩
   ·
    rcases (show Q = 0 ∨ Q = 1 ∨ (Q ≠ 0 ∧ Q ≠ 1) by omega) with hQ | hQ | ⟨hQ, hQ1⟩
    ·
     have gP0 : ((P : Int) == 0) = false := by rw [beq_eq_false_iff_ne]; omega
     have gP1 : ((P : Int) == 1) = false := by rw [beq_eq_false_iff_ne]; omega
     subst hQ
     cases zB
     ·
      have X := Lib.hid h16n
      have HRR := Lib.hid (show R1 = 0 ∧ R2 = 4 by have := hR.out; rw [if_neg h16n, if_neg (by decide), if_neg (fun h => by have h1 := h.1; have h2 := h.2; omega), if_neg (fun h => by have h1 := h.1.1; have h2 := h.1.2; omega), if_neg (by decide), if_neg (fun h => by have h1 := h.1.1; have h2 := h.1.2; omega)] at this; exact ⟨congrArg Prod.fst this, congrArg Prod.snd this⟩)
      clear hR
      go_enter Tryz.func118, Tryz.ntmps118
      go_wp2_with fail
      refine (CP.out _).mono ?_; rintro e w1 ⟨rfl, rfl⟩
      go_wp2_with fail
      refine (CQ.out _).mono ?_; rintro e w1 ⟨rfl, rfl⟩
      go_wp2_with fail
      refine (CM.out _).mono ?_; rintro e w1 ⟨rfl, rfl⟩
      go_wp2_with fail
      go_ret2
      exact ⟨by rw [HRR.out.1, HRR.out.2]; rfl, rfl⟩
     ·
      have X := Lib.hid h16n
      have HRR := Lib.hid (show R1 = 2 ∧ R2 = 0 by have := hR.out; rw [if_neg h16n, if_neg (by decide), if_neg (fun h => by have h1 := h.1; have h2 := h.2; omega), if_neg (fun h => by have h1 := h.1.1; have h2 := h.1.2; omega), if_pos rfl] at this; exact ⟨congrArg Prod.fst this, congrArg Prod.snd this⟩)
      clear hR
      go_enter Tryz.func118, Tryz.ntmps118
      go_wp2_with fail
      refine (CP.out _).mono ?_; rintro e w1 ⟨rfl, rfl⟩
      go_wp2_with fail
      refine (CQ.out _).mono ?_; rintro e w1 ⟨rfl, rfl⟩
      go_wp2_with fail
      refine (CM.out _).mono ?_; rintro e w1 ⟨rfl, rfl⟩
      go_wp2_with fail
      go_ret2
      exact ⟨by rw [HRR.out.1, HRR.out.2]; rfl, rfl⟩
    ·
     have gP0 : ((P : Int) == 0) = false := by rw [beq_eq_false_iff_ne]; omega
     have gP1 : ((P : Int) == 1) = false := by rw [beq_eq_false_iff_ne]; omega
     subst hQ
     cases zB
     ·
      have X := Lib.hid h16n
      have HRR := Lib.hid (show R1 = 0 ∧ R2 = 4 by have := hR.out; rw [if_neg h16n, if_neg (by decide), if_neg (fun h => by have h1 := h.1; have h2 := h.2; omega), if_neg (fun h => by have h1 := h.1.1; have h2 := h.1.2; omega), if_neg (by decide), if_neg (fun h => by have h1 := h.1.1; have h2 := h.1.2; omega)] at this; exact ⟨congrArg Prod.fst this, congrArg Prod.snd this⟩)
      clear hR
      go_enter Tryz.func118, Tryz.ntmps118
      go_wp2_with fail
      refine (CP.out _).mono ?_; rintro e w1 ⟨rfl, rfl⟩
      go_wp2_with fail
      refine (CQ.out _).mono ?_; rintro e w1 ⟨rfl, rfl⟩
      go_wp2_with fail
      refine (CM.out _).mono ?_; rintro e w1 ⟨rfl, rfl⟩
      go_wp2_with fail
      go_ret2
      exact ⟨by rw [HRR.out.1, HRR.out.2]; rfl, rfl⟩
     ·
      have X := Lib.hid h16n
      have HRR := Lib.hid (show R1 = 2 ∧ R2 = 0 by have := hR.out; rw [if_neg h16n, if_neg (by decide), if_neg (fun h => by have h1 := h.1; have h2 := h.2; omega), if_neg (fun h => by have h1 := h.1.1; have h2 := h.1.2; omega), if_pos rfl] at this; exact ⟨congrArg Prod.fst this, congrArg Prod.snd this⟩)
      clear hR
      go_enter Tryz.func118, Tryz.ntmps118
      go_wp2_with fail
      refine (CP.out _).mono ?_; rintro e w1 ⟨rfl, rfl⟩
      go_wp2_with fail
      refine (CQ.out _).mono ?_; rintro e w1 ⟨rfl, rfl⟩
      go_wp2_with fail
      refine (CM.out _).mono ?_; rintro e w1 ⟨rfl, rfl⟩
      go_wp2_with fail
      go_ret2
      exact ⟨by rw [HRR.out.1, HRR.out.2]; rfl, rfl⟩
    ·
     have gP0 : ((P : Int) == 0) = false := by rw [beq_eq_false_iff_ne]; omega
     have gP1 : ((P : Int) == 1) = false := by rw [beq_eq_false_iff_ne]; omega
     have gQ0 : ((Q : Int) == 0) = false := by rw [beq_eq_false_iff_ne]; omega
     have gQ1 : ((Q : Int) == 1) = false := by rw [beq_eq_false_iff_ne]; omega
     cases zB
     ·
      have X := Lib.hid h16n
      have HRR := Lib.hid (show R1 = 0 ∧ R2 = 4 by have := hR.out; rw [if_neg h16n, if_neg (by decide), if_neg (fun h => by have h1 := h.1; have h2 := h.2; omega), if_neg (fun h => by have h1 := h.1.1; have h2 := h.1.2; omega), if_neg (by decide), if_neg (fun h => by have h1 := h.1.1; have h2 := h.1.2; omega)] at this; exact ⟨congrArg Prod.fst this, congrArg Prod.snd this⟩)
      clear hR
      go_enter Tryz.func118, Tryz.ntmps118
      go_wp2_with fail
      refine (CP.out _).mono ?_; rintro e w1 ⟨rfl, rfl⟩
      go_wp2_with fail
      refine (CQ.out _).mono ?_; rintro e w1 ⟨rfl, rfl⟩
      go_wp2_with fail
      refine (CM.out _).mono ?_; rintro e w1 ⟨rfl, rfl⟩
      go_wp2_with fail
      go_ret2
      exact ⟨by rw [HRR.out.1, HRR.out.2]; rfl, rfl⟩
     ·
      have X := Lib.hid h16n
      have HRR := Lib.hid (show R1 = 2 ∧ R2 = 0 by have := hR.out; rw [if_neg h16n, if_neg (by decide), if_neg (fun h => by have h1 := h.1; have h2 := h.2; omega), if_neg (fun h => by have h1 := h.1.1; have h2 := h.1.2; omega), if_pos rfl] at this; exact ⟨congrArg Prod.fst this, congrArg Prod.snd this⟩)
      clear hR
      go_enter Tryz.func118, Tryz.ntmps118
      go_wp2_with fail
      refine (CP.out _).mono ?_; rintro e w1 ⟨rfl, rfl⟩
      go_wp2_with fail
      refine (CQ.out _).mono ?_; rintro e w1 ⟨rfl, rfl⟩
      go_wp2_with fail
      refine (CM.out _).mono ?_; rintro e w1 ⟨rfl, rfl⟩
      go_wp2_with fail
      go_ret2
      exact ⟨by rw [HRR.out.1, HRR.out.2]; rfl, rfl⟩
theorem cnt_le (c : UInt8) (s : ByteArray) : s.data.toList.count c ≤ s.size := by rw [← ab_len s]; exact List.count_le_length
theorem kind_any (s : ByteArray) (w : World) (m : Int) (hs : s.size ≤ 100000) (hm : w.cell? ⟨3, 0, none⟩ = some (.int .i64 m)) :
  Calls Tryz.prog 118 #[.string s] w fun e w' => e = .returned (.tuple #[.int .i64 (Fo.kd s.data.toList).1, .int .i64 (Fo.kd s.data.toList).2]) ∧ w = w' := by
 have h1 := cnt_le 37 s; have h2 := cnt_le 47 s
 refine kind_core s (s.data.toList.count 37) (s.data.toList.count 47) (Fo.made [43, 45, 37, 47] s.data.toList) (Lib.contains s.data.toList [37, 115]) (s.data.toList == [37, 122]) (Lib.hasPrefix s.data.toList [47]) (Lib.hasSuffix s.data.toList [47]) (Fo.kd s.data.toList) w hs (by omega) (by omega) (by rw [ByteArray.toList_eq]) ?_ ?_ ?_ ?_ ?_ ?_ ?_
 ·
  exact fun W => (Any.strings_Count_one Tryz.lays138 s 37 W).mono fun e w' ⟨h, h2⟩ => ⟨h, h2.symm⟩
 ·
  exact fun W => (Any.strings_Count_one Tryz.lays138 s 47 W).mono fun e w' ⟨h, h2⟩ => ⟨h, h2.symm⟩
 ·
  exact fun W => made_any s ⟨#[43, 45, 37, 47]⟩ W (by omega)
 ·
  rintro W rfl
  exact (Any.strings_Contains Tryz.lays144 s ⟨#[37, 115]⟩ m w (by omega) hm).mono fun e w' ⟨h, h2⟩ => ⟨h, h2.symm⟩
 ·
  exact fun W => (Any.strings_HasPrefix Tryz.lays99 s ⟨#[47]⟩ W).mono fun e w' ⟨h, h2⟩ => ⟨h, h2.symm⟩
 ·
  exact fun W => (Any.strings_HasSuffix Tryz.lays100 s ⟨#[47]⟩ W (by omega)).mono fun e w' ⟨h, h2⟩ => ⟨h, h2.symm⟩
 ·
  refine Lib.hid ?_
  unfold Fo.kd
  rw [ab_len]
theorem fcheck_any (s : ByteArray) (w : World) (m : Int) (hs : s.size ≤ 100000) (hm : w.cell? ⟨3, 0, none⟩ = some (.int .i64 m)) :
  Calls Tryz.prog 78 #[.string s] w fun e w' => e = .returned (.int .i64 (Fo.kd s.data.toList).2) ∧ w = w' := by
 have C := Lib.hid (kind_any s w m hs hm)
 generalize (Fo.kd s.data.toList).1 = a at C
 generalize (Fo.kd s.data.toList).2 = b at C ⊢
 clear hm
 go_enter Tryz.func78, Tryz.ntmps78
 go_wp2_with fail
 refine C.out.mono ?_; rintro e w1 ⟨rfl, rfl⟩
 go_wp2_with fail
 go_ret
 exact ⟨rfl, rfl⟩
set_option maxHeartbeats 4000000 in
set_option maxRecDepth 100000 in
theorem kind_big (s : ByteArray) (w : World) (h : 100000 < s.size) (hs : s.size ≤ 9223372036854775807) :
  Calls Tryz.prog 118 #[.string s] w fun e w' => e = .returned (.tuple #[.int .i64 0, .int .i64 9]) ∧ w = w' := by
 have C1 : Hid (∀ W, Calls Tryz.prog 147 #[.string s, .string ⟨#[37]⟩] W fun e w' => e = .returned (.int .i64 (s.data.toList.count 37 : Int)) ∧ W = w') := fun W => (Any.strings_Count_one Tryz.lays138 s 37 W).mono fun e w' ⟨h, h2⟩ => ⟨h, h2.symm⟩
 have C2 : Hid (∀ W, Calls Tryz.prog 147 #[.string s, .string ⟨#[47]⟩] W fun e w' => e = .returned (.int .i64 (s.data.toList.count 47 : Int)) ∧ W = w') := fun W => (Any.strings_Count_one Tryz.lays138 s 47 W).mono fun e w' ⟨h, h2⟩ => ⟨h, h2.symm⟩
 generalize s.data.toList.count 37 = P at *
 generalize s.data.toList.count 47 = Q at *
 have g : 16 < (s.size : Int) := by omega
 have g2 : (s.size : Int) ≤ 9223372036854775807 := by omega
 clear h hs
 go_enter Tryz.func118, Tryz.ntmps118
 go_wp2_with fail
 refine (C1.out _).mono ?_; rintro e v1 ⟨rfl, rfl⟩
 go_wp2_with fail
 refine (C2.out _).mono ?_; rintro e v2 ⟨rfl, rfl⟩
 go_wp2_with fail
 go_ret2
 exact ⟨rfl, rfl⟩
theorem fcheck_all (s : ByteArray) (w : World) (m : Int) (hs : s.size ≤ 9223372036854775807) (hm : w.cell? ⟨3, 0, none⟩ = some (.int .i64 m)) :
  Calls Tryz.prog 78 #[.string s] w fun e w' => e = .returned (.int .i64 (Fo.kd s.data.toList).2) ∧ w = w' := by
 by_cases h : s.size ≤ 100000
 ·
  exact fcheck_any s w m h hm
 ·
  have e : (Fo.kd s.data.toList).2 = 9 := by unfold Fo.kd; rw [if_pos (by rw [ab_len]; omega)]
  rw [e]
  have C := Lib.hid (kind_big s w (by omega) hs)
  clear hm hs h e
  go_enter Tryz.func78, Tryz.ntmps78
  go_wp2_with fail
  refine C.out.mono ?_; rintro e v1 ⟨rfl, rfl⟩
  go_wp2_with fail
  go_ret
  exact ⟨rfl, rfl⟩
end Go.Proofs.YtjggjkeopbcmoaaGreatDoor
