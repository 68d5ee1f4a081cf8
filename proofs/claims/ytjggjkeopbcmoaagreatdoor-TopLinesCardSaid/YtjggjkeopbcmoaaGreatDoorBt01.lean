/- Joined: Base, Sqz, Bk, BkR, FdL, FdC0, Sl, StL, FdS, LkA. -/
import Derived.Test.YtjggjkeopbcmoaaGreatDoorProg
import Derived.WalkKit
import Derived.WalkSpells
import Derived.WalkLawsBesides
import Derived.BigQuiet
import Derived.Deep.QuietTactic
import Derived.Deep.RegionHeld3
import Derived.WalkSmall
import Derived.Lib.Hide
import Derived.Handy
import Derived.Deep.Cut
import Derived.Below
import Derived.Lib.QuietBelow
import Derived.OwnWalk
import Derived.Laws.OwnMore
import Derived.Deep.AppendLies
import Derived.Deep.Draws
import Derived.Test.YtjggjkeopbcmoaaGreatDoorLaidK
import Derived.Lib.IndexAny
import Derived.Shelf.Small.Strs
set_option linter.unusedVariables false
set_option linter.unusedSimpArgs false
namespace Go.Proofs.YtjggjkeopbcmoaaGreatDoor
open Go.RowKit
theorem ret_int {k : IntKind} {a b : Int} (h : a = b) : Ending.returned (.int k a) = .returned (.int k b) := by rw [h]
theorem below_new (w : World) (o : Obj) (n : Nat) : Below w.heap.size w ((w.alloc o).drewN n) := below_drewN ((Below.refl _ _).alloc (Nat.le_refl _) _) n
theorem below_draw {B : Nat} (w : World) (n : Nat) : Below B w (w.drewN n) := below_drewN (Below.refl _ _) n
theorem below_step {w W W' : World} (h : Below w.heap.size w W) (k : Below W.heap.size W W') : Below w.heap.size w W' := h.trans (k.mono h.size)
section
variable {P : Program} {f : FuncId} {args : Array Value} {w : World} {n k : Nat} {v : Value}
theorem q_same (h : Calls P f args (w.drewN n) fun e w' => e = .returned v ∧ w.drewN n = w') : Calls P f args (w.drewN n) fun e w'' => e = .returned v ∧ ∃ m, w'' = w.drewN m :=
 h.mono fun _ _ ⟨he, hm⟩ => ⟨he, n, hm.symm⟩
theorem q_same2 (h : Calls P f args (w.drewN (n + k)) fun e w' => e = .returned v ∧ w.drewN (n + k) = w') : Calls P f args (w.drewN (n + k)) fun e w'' => e = .returned v ∧ ∃ m, w'' = w.drewN (n + m) :=
 h.mono fun _ _ ⟨he, hm⟩ => ⟨he, k, hm.symm⟩
end
end Go.Proofs.YtjggjkeopbcmoaaGreatDoor
namespace Go.Proofs.YtjggjkeopbcmoaaGreatDoor
open Go.RowKit Go.Sort
theorem gr0 {n : Nat} {u v : World} (h : Below n u v := by repeat (first | exact Below.refl _ _ | refine below_drewN ?_ _ | refine Below.drew ?_ | refine Below.setCell ?_ (by first | (simp; done) | (simp; omega) | omega) _ | refine Below.alloc ?_ (by first | (simp; done) | (simp; omega) | omega) _)) : Below n u v := h
theorem grP {n : Nat} {u v : World} (h : Below n u v := by first | exact Below.refl _ _ | exact (Below.refl _ _).alloc (Nat.le_refl _) _ | exact below_draw _ _ | assumption) : Below n u v := h
theorem kq {W : World} {fa : Act} {d : Option Nat} {KK : Act → World → Prop} (V : Value) (h : ∀ v w', Below W.heap.size W w' → v = V → KK (Act.put fa d v) w') : ∀ v w', Below W.heap.size W w' → v = V → KK (Act.put fa d v) w' := h
theorem grB {u v W : World} (b : Hid (Below u.heap.size u W)) (h : u.heap.size ≤ W.heap.size → Below u.heap.size u W → Below u.heap.size u v := by intro hz B; repeat (first | refine Below.setCell ?_ (by first | omega | (simp; done) | (simp; omega)) _ | refine Below.alloc ?_ (by first | omega | (simp; done) | (simp; omega)) _ | refine below_drewN ?_ _ | refine Below.drew ?_ | exact B)) : Below u.heap.size u v := h b.out.size b.out
end Go.Proofs.YtjggjkeopbcmoaaGreatDoor
set_option linter.unusedVariables false
set_option linter.unusedSimpArgs false
namespace Go.Proofs.YtjggjkeopbcmoaaGreatDoor
open Go.RowKit Go.Sort
structure Bk1 (W : World) (b : Nat) (v0 : Value) : Prop where
 hb : b < W.heap.size
 fz : ∀ j, W.frozen? ⟨b, j, none⟩ = false
 k0 : W.cell? ⟨b, 0, none⟩ = some v0
theorem Bk1.of {W w1 : World} {b : Nat} {v0 : Value} (k : Below W.heap.size W w1) (hb : b < W.heap.size) (hf : ∀ j, W.frozen? ⟨b, j, none⟩ = false) (h0 : W.cell? ⟨b, 0, none⟩ = some v0) : Bk1 w1 b v0 :=
 ⟨Nat.lt_of_lt_of_le hb k.size, fun j => (k.frozen (p := ⟨b, j, none⟩) hb).trans (hf j), (k.cell (p := ⟨b, 0, none⟩) hb).trans h0⟩
theorem Bk1.keep {W w1 : World} {b : Nat} {v0 : Value} (h : Bk1 W b v0) (k : Below W.heap.size W w1) : Bk1 w1 b v0 :=
 Bk1.of k h.hb h.fz h.k0
structure Bk2 (W : World) (b : Nat) (v0 v1 : Value) : Prop where
 hb : b < W.heap.size
 fz : ∀ j, W.frozen? ⟨b, j, none⟩ = false
 k0 : W.cell? ⟨b, 0, none⟩ = some v0
 k1 : W.cell? ⟨b, 1, none⟩ = some v1
theorem Bk2.of {W w1 : World} {b : Nat} {v0 v1 : Value} (k : Below W.heap.size W w1) (hb : b < W.heap.size) (hf : ∀ j, W.frozen? ⟨b, j, none⟩ = false) (h0 : W.cell? ⟨b, 0, none⟩ = some v0) (h1 : W.cell? ⟨b, 1, none⟩ = some v1) : Bk2 w1 b v0 v1 :=
 ⟨Nat.lt_of_lt_of_le hb k.size, fun j => (k.frozen (p := ⟨b, j, none⟩) hb).trans (hf j), (k.cell (p := ⟨b, 0, none⟩) hb).trans h0, (k.cell (p := ⟨b, 1, none⟩) hb).trans h1⟩
theorem Bk2.keep {W w1 : World} {b : Nat} {v0 v1 : Value} (h : Bk2 W b v0 v1) (k : Below W.heap.size W w1) : Bk2 w1 b v0 v1 :=
 Bk2.of k h.hb h.fz h.k0 h.k1
structure Bk3 (W : World) (b : Nat) (v0 v1 v2 : Value) : Prop where
 hb : b < W.heap.size
 fz : ∀ j, W.frozen? ⟨b, j, none⟩ = false
 k0 : W.cell? ⟨b, 0, none⟩ = some v0
 k1 : W.cell? ⟨b, 1, none⟩ = some v1
 k2 : W.cell? ⟨b, 2, none⟩ = some v2
theorem Bk3.of {W w1 : World} {b : Nat} {v0 v1 v2 : Value} (k : Below W.heap.size W w1) (hb : b < W.heap.size) (hf : ∀ j, W.frozen? ⟨b, j, none⟩ = false) (h0 : W.cell? ⟨b, 0, none⟩ = some v0) (h1 : W.cell? ⟨b, 1, none⟩ = some v1) (h2 : W.cell? ⟨b, 2, none⟩ = some v2) : Bk3 w1 b v0 v1 v2 :=
 ⟨Nat.lt_of_lt_of_le hb k.size, fun j => (k.frozen (p := ⟨b, j, none⟩) hb).trans (hf j), (k.cell (p := ⟨b, 0, none⟩) hb).trans h0, (k.cell (p := ⟨b, 1, none⟩) hb).trans h1, (k.cell (p := ⟨b, 2, none⟩) hb).trans h2⟩
theorem Bk3.keep {W w1 : World} {b : Nat} {v0 v1 v2 : Value} (h : Bk3 W b v0 v1 v2) (k : Below W.heap.size W w1) : Bk3 w1 b v0 v1 v2 :=
 Bk3.of k h.hb h.fz h.k0 h.k1 h.k2
structure Bk4 (W : World) (b : Nat) (v0 v1 v2 v3 : Value) : Prop where
 hb : b < W.heap.size
 fz : ∀ j, W.frozen? ⟨b, j, none⟩ = false
 k0 : W.cell? ⟨b, 0, none⟩ = some v0
 k1 : W.cell? ⟨b, 1, none⟩ = some v1
 k2 : W.cell? ⟨b, 2, none⟩ = some v2
 k3 : W.cell? ⟨b, 3, none⟩ = some v3
theorem Bk4.of {W w1 : World} {b : Nat} {v0 v1 v2 v3 : Value} (k : Below W.heap.size W w1) (hb : b < W.heap.size) (hf : ∀ j, W.frozen? ⟨b, j, none⟩ = false) (h0 : W.cell? ⟨b, 0, none⟩ = some v0) (h1 : W.cell? ⟨b, 1, none⟩ = some v1) (h2 : W.cell? ⟨b, 2, none⟩ = some v2) (h3 : W.cell? ⟨b, 3, none⟩ = some v3) : Bk4 w1 b v0 v1 v2 v3 :=
 ⟨Nat.lt_of_lt_of_le hb k.size, fun j => (k.frozen (p := ⟨b, j, none⟩) hb).trans (hf j), (k.cell (p := ⟨b, 0, none⟩) hb).trans h0, (k.cell (p := ⟨b, 1, none⟩) hb).trans h1, (k.cell (p := ⟨b, 2, none⟩) hb).trans h2, (k.cell (p := ⟨b, 3, none⟩) hb).trans h3⟩
theorem Bk4.keep {W w1 : World} {b : Nat} {v0 v1 v2 v3 : Value} (h : Bk4 W b v0 v1 v2 v3) (k : Below W.heap.size W w1) : Bk4 w1 b v0 v1 v2 v3 :=
 Bk4.of k h.hb h.fz h.k0 h.k1 h.k2 h.k3
structure Bk5 (W : World) (b : Nat) (v0 v1 v2 v3 v4 : Value) : Prop where
 hb : b < W.heap.size
 fz : ∀ j, W.frozen? ⟨b, j, none⟩ = false
 k0 : W.cell? ⟨b, 0, none⟩ = some v0
 k1 : W.cell? ⟨b, 1, none⟩ = some v1
 k2 : W.cell? ⟨b, 2, none⟩ = some v2
 k3 : W.cell? ⟨b, 3, none⟩ = some v3
 k4 : W.cell? ⟨b, 4, none⟩ = some v4
theorem Bk5.of {W w1 : World} {b : Nat} {v0 v1 v2 v3 v4 : Value} (k : Below W.heap.size W w1) (hb : b < W.heap.size) (hf : ∀ j, W.frozen? ⟨b, j, none⟩ = false) (h0 : W.cell? ⟨b, 0, none⟩ = some v0) (h1 : W.cell? ⟨b, 1, none⟩ = some v1) (h2 : W.cell? ⟨b, 2, none⟩ = some v2) (h3 : W.cell? ⟨b, 3, none⟩ = some v3) (h4 : W.cell? ⟨b, 4, none⟩ = some v4) : Bk5 w1 b v0 v1 v2 v3 v4 :=
 ⟨Nat.lt_of_lt_of_le hb k.size, fun j => (k.frozen (p := ⟨b, j, none⟩) hb).trans (hf j), (k.cell (p := ⟨b, 0, none⟩) hb).trans h0, (k.cell (p := ⟨b, 1, none⟩) hb).trans h1, (k.cell (p := ⟨b, 2, none⟩) hb).trans h2, (k.cell (p := ⟨b, 3, none⟩) hb).trans h3, (k.cell (p := ⟨b, 4, none⟩) hb).trans h4⟩
theorem Bk5.keep {W w1 : World} {b : Nat} {v0 v1 v2 v3 v4 : Value} (h : Bk5 W b v0 v1 v2 v3 v4) (k : Below W.heap.size W w1) : Bk5 w1 b v0 v1 v2 v3 v4 :=
 Bk5.of k h.hb h.fz h.k0 h.k1 h.k2 h.k3 h.k4
structure Bk6 (W : World) (b : Nat) (v0 v1 v2 v3 v4 v5 : Value) : Prop where
 hb : b < W.heap.size
 fz : ∀ j, W.frozen? ⟨b, j, none⟩ = false
 k0 : W.cell? ⟨b, 0, none⟩ = some v0
 k1 : W.cell? ⟨b, 1, none⟩ = some v1
 k2 : W.cell? ⟨b, 2, none⟩ = some v2
 k3 : W.cell? ⟨b, 3, none⟩ = some v3
 k4 : W.cell? ⟨b, 4, none⟩ = some v4
 k5 : W.cell? ⟨b, 5, none⟩ = some v5
theorem Bk6.of {W w1 : World} {b : Nat} {v0 v1 v2 v3 v4 v5 : Value} (k : Below W.heap.size W w1) (hb : b < W.heap.size) (hf : ∀ j, W.frozen? ⟨b, j, none⟩ = false) (h0 : W.cell? ⟨b, 0, none⟩ = some v0) (h1 : W.cell? ⟨b, 1, none⟩ = some v1) (h2 : W.cell? ⟨b, 2, none⟩ = some v2) (h3 : W.cell? ⟨b, 3, none⟩ = some v3) (h4 : W.cell? ⟨b, 4, none⟩ = some v4) (h5 : W.cell? ⟨b, 5, none⟩ = some v5) : Bk6 w1 b v0 v1 v2 v3 v4 v5 :=
 ⟨Nat.lt_of_lt_of_le hb k.size, fun j => (k.frozen (p := ⟨b, j, none⟩) hb).trans (hf j), (k.cell (p := ⟨b, 0, none⟩) hb).trans h0, (k.cell (p := ⟨b, 1, none⟩) hb).trans h1, (k.cell (p := ⟨b, 2, none⟩) hb).trans h2, (k.cell (p := ⟨b, 3, none⟩) hb).trans h3, (k.cell (p := ⟨b, 4, none⟩) hb).trans h4, (k.cell (p := ⟨b, 5, none⟩) hb).trans h5⟩
theorem Bk6.keep {W w1 : World} {b : Nat} {v0 v1 v2 v3 v4 v5 : Value} (h : Bk6 W b v0 v1 v2 v3 v4 v5) (k : Below W.heap.size W w1) : Bk6 w1 b v0 v1 v2 v3 v4 v5 :=
 Bk6.of k h.hb h.fz h.k0 h.k1 h.k2 h.k3 h.k4 h.k5
structure Bk7 (W : World) (b : Nat) (v0 v1 v2 v3 v4 v5 v6 : Value) : Prop where
 hb : b < W.heap.size
 fz : ∀ j, W.frozen? ⟨b, j, none⟩ = false
 k0 : W.cell? ⟨b, 0, none⟩ = some v0
 k1 : W.cell? ⟨b, 1, none⟩ = some v1
 k2 : W.cell? ⟨b, 2, none⟩ = some v2
 k3 : W.cell? ⟨b, 3, none⟩ = some v3
 k4 : W.cell? ⟨b, 4, none⟩ = some v4
 k5 : W.cell? ⟨b, 5, none⟩ = some v5
 k6 : W.cell? ⟨b, 6, none⟩ = some v6
theorem Bk7.of {W w1 : World} {b : Nat} {v0 v1 v2 v3 v4 v5 v6 : Value} (k : Below W.heap.size W w1) (hb : b < W.heap.size) (hf : ∀ j, W.frozen? ⟨b, j, none⟩ = false) (h0 : W.cell? ⟨b, 0, none⟩ = some v0) (h1 : W.cell? ⟨b, 1, none⟩ = some v1) (h2 : W.cell? ⟨b, 2, none⟩ = some v2) (h3 : W.cell? ⟨b, 3, none⟩ = some v3) (h4 : W.cell? ⟨b, 4, none⟩ = some v4) (h5 : W.cell? ⟨b, 5, none⟩ = some v5) (h6 : W.cell? ⟨b, 6, none⟩ = some v6) : Bk7 w1 b v0 v1 v2 v3 v4 v5 v6 :=
 ⟨Nat.lt_of_lt_of_le hb k.size, fun j => (k.frozen (p := ⟨b, j, none⟩) hb).trans (hf j), (k.cell (p := ⟨b, 0, none⟩) hb).trans h0, (k.cell (p := ⟨b, 1, none⟩) hb).trans h1, (k.cell (p := ⟨b, 2, none⟩) hb).trans h2, (k.cell (p := ⟨b, 3, none⟩) hb).trans h3, (k.cell (p := ⟨b, 4, none⟩) hb).trans h4, (k.cell (p := ⟨b, 5, none⟩) hb).trans h5, (k.cell (p := ⟨b, 6, none⟩) hb).trans h6⟩
theorem Bk7.keep {W w1 : World} {b : Nat} {v0 v1 v2 v3 v4 v5 v6 : Value} (h : Bk7 W b v0 v1 v2 v3 v4 v5 v6) (k : Below W.heap.size W w1) : Bk7 w1 b v0 v1 v2 v3 v4 v5 v6 :=
 Bk7.of k h.hb h.fz h.k0 h.k1 h.k2 h.k3 h.k4 h.k5 h.k6
theorem wp_named {c : Code} {P : Program} {Q : Exit → Act → World → Prop} {a : Act} {W : World} (h : ∀ w1, w1 = W → c.wp P Q a w1) : c.wp P Q a W := h W rfl
theorem wp_region_qb {P : Program} {id : Nat} {Q : Exit → Act → World → Prop} {a : Act} {w W : World} {l : List Oper} (hm : P.follows .mixedOrders = true) (hB : Region.lexB .any l.toArray = true) (hb : Below w.heap.size w W)
  (h : wpQuiet P l.toArray (fun w' => ∃ p : Regrown, w' = grow (redrawn w p.d) p.os) (fun a' => ∀ w', (∃ p : Regrown, w' = grow (redrawn w p.d) p.os) → Q .normal a' w') l a) : (Code.region id l.toArray true).wp P Q a W :=
 wp_region_quiet (C := fun w' => ∃ p : Regrown, w' = grow (redrawn w p.d) p.os) hm hB (regrown_of_below hb.drew) (by simpa using h)
end Go.Proofs.YtjggjkeopbcmoaaGreatDoor
set_option linter.unusedVariables false
set_option linter.unusedSimpArgs false
namespace Go.Proofs.YtjggjkeopbcmoaaGreatDoor
open Go.RowKit
structure Bk11 (W : World) (b : Nat) (v0 v1 v2 v3 v4 v5 v6 v7 v8 v9 v10 : Value) : Prop where
 hb : b < W.heap.size
 fz : ∀ j, W.frozen? ⟨b, j, none⟩ = false
 k0 : W.cell? ⟨b, 0, none⟩ = some v0
 k1 : W.cell? ⟨b, 1, none⟩ = some v1
 k2 : W.cell? ⟨b, 2, none⟩ = some v2
 k3 : W.cell? ⟨b, 3, none⟩ = some v3
 k4 : W.cell? ⟨b, 4, none⟩ = some v4
 k5 : W.cell? ⟨b, 5, none⟩ = some v5
 k6 : W.cell? ⟨b, 6, none⟩ = some v6
 k7 : W.cell? ⟨b, 7, none⟩ = some v7
 k8 : W.cell? ⟨b, 8, none⟩ = some v8
 k9 : W.cell? ⟨b, 9, none⟩ = some v9
 k10 : W.cell? ⟨b, 10, none⟩ = some v10
theorem Bk11.of {W w1 : World} {b : Nat} {v0 v1 v2 v3 v4 v5 v6 v7 v8 v9 v10 : Value} (k : Below W.heap.size W w1) (hb : b < W.heap.size) (hf : ∀ j, W.frozen? ⟨b, j, none⟩ = false) (h0 : W.cell? ⟨b, 0, none⟩ = some v0) (h1 : W.cell? ⟨b, 1, none⟩ = some v1) (h2 : W.cell? ⟨b, 2, none⟩ = some v2) (h3 : W.cell? ⟨b, 3, none⟩ = some v3) (h4 : W.cell? ⟨b, 4, none⟩ = some v4) (h5 : W.cell? ⟨b, 5, none⟩ = some v5) (h6 : W.cell? ⟨b, 6, none⟩ = some v6) (h7 : W.cell? ⟨b, 7, none⟩ = some v7) (h8 : W.cell? ⟨b, 8, none⟩ = some v8) (h9 : W.cell? ⟨b, 9, none⟩ = some v9) (h10 : W.cell? ⟨b, 10, none⟩ = some v10) : Bk11 w1 b v0 v1 v2 v3 v4 v5 v6 v7 v8 v9 v10 :=
 ⟨Nat.lt_of_lt_of_le hb k.size, fun j => (k.frozen (p := ⟨b, j, none⟩) hb).trans (hf j), (k.cell (p := ⟨b, 0, none⟩) hb).trans h0, (k.cell (p := ⟨b, 1, none⟩) hb).trans h1, (k.cell (p := ⟨b, 2, none⟩) hb).trans h2, (k.cell (p := ⟨b, 3, none⟩) hb).trans h3, (k.cell (p := ⟨b, 4, none⟩) hb).trans h4, (k.cell (p := ⟨b, 5, none⟩) hb).trans h5, (k.cell (p := ⟨b, 6, none⟩) hb).trans h6, (k.cell (p := ⟨b, 7, none⟩) hb).trans h7, (k.cell (p := ⟨b, 8, none⟩) hb).trans h8, (k.cell (p := ⟨b, 9, none⟩) hb).trans h9, (k.cell (p := ⟨b, 10, none⟩) hb).trans h10⟩
theorem Bk11.keep {W w1 : World} {b : Nat} {v0 v1 v2 v3 v4 v5 v6 v7 v8 v9 v10 : Value} (h : Bk11 W b v0 v1 v2 v3 v4 v5 v6 v7 v8 v9 v10) (k : Below W.heap.size W w1) : Bk11 w1 b v0 v1 v2 v3 v4 v5 v6 v7 v8 v9 v10 :=
 Bk11.of k h.hb h.fz h.k0 h.k1 h.k2 h.k3 h.k4 h.k5 h.k6 h.k7 h.k8 h.k9 h.k10
end Go.Proofs.YtjggjkeopbcmoaaGreatDoor
set_option linter.unusedVariables false
set_option linter.unusedSimpArgs false
namespace Go.Proofs.YtjggjkeopbcmoaaGreatDoor
namespace Fd
def isK (r : Nat) : Bool := (decide (r = 32) || decide (r = 9)) || (decide (r = 34) || decide (r = 35))
def isW (r : Nat) : Bool := decide (r = 32) || decide (r = 9)
def mkB (c : UInt8) : Bool := isK c.toNat
def tx (l : List UInt8) : List UInt8 × Int := if l.contains 34 = true then ([], 8) else if l = [] ∨ l.any mkB = true then (34 :: (l ++ [34]), 0) else (l, 0)
end Fd
end Go.Proofs.YtjggjkeopbcmoaaGreatDoor
set_option linter.unusedVariables false
set_option linter.unusedSimpArgs false
namespace Go.Proofs.YtjggjkeopbcmoaaGreatDoor
open Go.RowKit
theorem fd_len (a : ByteArray) : a.data.toList.length = a.size := Array.length_toList
theorem fd_drop (a : ByteArray) (k : Nat) (h : k < a.size) : a.data.toList.drop k = a[k] :: a.data.toList.drop (k + 1) := by
 rw [List.drop_eq_getElem_cons (by rw [fd_len]; exact h)]
 rfl
theorem fd_id (s : ByteArray) : (⟨s.data.toList.toArray⟩ : ByteArray) = s := by apply ByteArray.ext; apply Array.toList_inj.1; simp
theorem fd_ne {ds : ByteArray} (h : 0 < ds.size) : ds.toList.isEmpty = false ∧ ¬ ds.toList = [] := by
 have : ds.toList ≠ [] := by
  intro e
  have hl := fd_len ds
  rw [← ByteArray.toList_eq] at hl
  rw [e] at hl; simp at hl; omega
 exact ⟨by simpa using this, this⟩
theorem fd_ix (a : ByteArray) (k : Nat) (h : k < a.size) (w : World) : Sem.run Tryz.prog (Instr.index 9 (.string a) (.int .i64 (k : Int))) w = .ok (.int .u8 a[k].toNat) w := by
 rw [run_index_string w _ _ _ _ Tryz.underlying9, dif_pos ⟨by omega, by omega⟩]
 simp
end Go.Proofs.YtjggjkeopbcmoaaGreatDoor
set_option linter.unusedVariables false
set_option linter.unusedSimpArgs false
namespace Go.Proofs.YtjggjkeopbcmoaaGreatDoor
open Go.RowKit Go.Sort
theorem blk_add (a : Addr) (j : Nat) : (a.add j).block = a.block := by unfold Addr.add; split <;> rfl
theorem add_two (a : Addr) (i j : Nat) : (a.add i).add j = a.add (i + j) := by
 unfold Addr.add
 by_cases hi : i = 0 <;> by_cases hj : j = 0 <;> simp [hi, hj, Nat.add_assoc]
def Lst (w : World) (B : Nat) (v : Value) (n : Nat) (xs : List Value) : Prop :=
 ∃ A c, v = .slice A n c ∧ (0 < n → ∃ a, A = some a ∧ a.block < B ∧ ∀ (j : Nat) (u : Value), xs[j]? = some u → w.cell? (a.add j) = some u)
theorem Lst.nil (w : World) (B : Nat) : Lst w B (.slice none 0 0) 0 [] := ⟨none, 0, rfl, fun h => absurd h (by omega)⟩
theorem Lst.keep {w w' : World} {B : Nat} {v : Value} {n : Nat} {xs : List Value} (h : Lst w B v n xs) (k : ∀ p : Addr, p.block < B → w'.cell? p = w.cell? p) : Lst w' B v n xs := by
 obtain ⟨A, c, hv, ha⟩ := h
 refine ⟨A, c, hv, fun hn => ?_⟩
 obtain ⟨a, e, hb, hc⟩ := ha hn
 exact ⟨a, e, hb, fun j u hu => (k _ (by rw [blk_add]; exact hb)).trans (hc j u hu)⟩
theorem Lst.more {w : World} {B B' : Nat} {v : Value} {n : Nat} {xs : List Value} (h : Lst w B v n xs) (k : B ≤ B') : Lst w B' v n xs := by
 obtain ⟨A, c, hv, ha⟩ := h
 refine ⟨A, c, hv, fun hn => ?_⟩
 obtain ⟨a, e, hb, hc⟩ := ha hn
 exact ⟨a, e, Nat.lt_of_lt_of_le hb k, hc⟩
theorem Lst.below {w w' : World} {B : Nat} {v : Value} {n : Nat} {xs : List Value} (h : Lst w B v n xs) (k : Below B w w') : Lst w' B v n xs := h.keep fun _ hp => k.cell hp
theorem Lst.on {w w' : World} {v : Value} {n : Nat} {xs : List Value} (h : Lst w w.heap.size v n xs) (k : Below w.heap.size w w') : Lst w' w'.heap.size v n xs := (h.below k).more k.size
theorem Lst.drewN {w : World} {B : Nat} {v : Value} {n : Nat} {xs : List Value} (h : Lst w B v n xs) (k : Nat) : Lst (w.drewN k) B v n xs := h
theorem Lst.own {w : World} {base : Nat} {e : TypeId} {size : Nat} {v : Value} {n : Nat} {xs : List Value} (h : w.ownsRow base e size v n xs) : Lst w w.heap.size v n xs := by
 rcases Nat.eq_zero_or_pos n with h0 | h0
 ·
  have hx : xs = [] := by
   have := h.1
   rw [h0, Nat.zero_mul] at this
   exact List.eq_nil_of_length_eq_zero this
  rcases h.2 with ⟨hv, _⟩ | ⟨g, cap, cur, hv, _⟩
  ·
   exact ⟨none, 0, by rw [h0]; exact hv, fun hh => absurd hh (by omega)⟩
  ·
   exact ⟨_, _, hv, fun hh => absurd hh (by omega)⟩
 ·
  obtain ⟨g, cap, hv, _, hlt⟩ := h.form h0
  exact ⟨_, _, hv, fun _ => ⟨_, rfl, hlt, h.cells (g := g) (by rw [hv]; rfl)⟩⟩
theorem below_grown {w w' : World} {row : Option Nat} {B : Nat} (h : w.grownBy w' row) (hB : B ≤ w.heap.size) (hr : ∀ g, row = some g → B ≤ g) : Below B w w' :=
 ⟨h.os, h.tape, h.output, h.size, fun i hi => h.block i (by omega) (fun e => by have := hr _ e.symm; omega)⟩
theorem grown_below {w w' : World} (h : Below w.heap.size w w') (row : Option Nat) : w.grownBy w' row := ⟨h.os, h.tape, h.output, h.size, fun i hi _ => h.block i hi⟩
theorem own_on {w w' : World} {base : Nat} {e : TypeId} {size : Nat} {v : Value} {n : Nat} {xs : List Value} (h : w.ownsRow base e size v n xs) (k : Below w.heap.size w w') : w'.ownsRow base e size v n xs :=
 h.kept (grown_below k none) (by
  cases hv : v.ownBlock
  ·
   exact .inl rfl
  ·
   exact .inr (by simp))
theorem own_row {w : World} {base : Nat} {e : TypeId} {size : Nat} {v : Value} {n : Nat} {xs : List Value} (h : w.ownsRow base e size v n xs) : ∀ g, v.ownBlock = some g → base ≤ g := fun g hg => (h.lt g hg).1
def spc (l : List (Int × Int)) : List Value := l.flatMap fun p => [.int .i64 p.1, .int .i64 p.2]
theorem spc_at (l : List (Int × Int)) (k : Nat) (h : k < l.length) : (spc l)[k * 2]? = some (.int .i64 l[k].1) ∧ (spc l)[k * 2 + 1]? = some (.int .i64 l[k].2) := by
 induction l generalizing k with
 | nil => exact absurd h (by simp)
 | cons p l ih =>
  cases k with
  | zero => exact ⟨rfl, rfl⟩
  | succ k =>
   have := ih k (by simpa using h)
   have e : spc (p :: l) = .int .i64 p.1 :: .int .i64 p.2 :: spc l := rfl
   rw [e]
   rw [show (k + 1) * 2 = k * 2 + 1 + 1 by omega]
   simpa using this
def SpV (w : World) (v : Value) (l : List (Int × Int)) : Prop := Lst w w.heap.size v l.length (spc l)
theorem SpV.on {w w' : World} {v : Value} {l : List (Int × Int)} (h : SpV w v l) (k : Below w.heap.size w w') : SpV w' v l := Lst.on h k
theorem SpV.own {w : World} {base : Nat} {e : TypeId} {v : Value} {l : List (Int × Int)} (h : w.ownsRow base e 2 v l.length (spc l)) : SpV w v l := Lst.own h
theorem SpV.at_ {w : World} {v : Value} {l : List (Int × Int)} (h : SpV w v l) (k : Nat) (hk : k < l.length) : ∃ a c, v = .slice (some a) l.length c ∧ a.block < w.heap.size ∧ w.cell? (a.add (k * 2)) = some (.int .i64 l[k].1) ∧ w.cell? (a.add (k * 2 + 1)) = some (.int .i64 l[k].2) := by
 obtain ⟨A, c, hv, ha⟩ := h
 obtain ⟨a, e, hb, hc⟩ := ha (by omega)
 obtain ⟨h1, h2⟩ := spc_at l k hk
 exact ⟨a, c, by rw [hv, e], hb, hc _ _ h1, hc _ _ h2⟩
theorem SpV.get {w : World} {A : Option Addr} {n c : Nat} {l : List (Int × Int)} (h : SpV w (.slice A n c) l) (k : Nat) (hk : k < l.length) : ∃ a, A = some a ∧ a.block < w.heap.size ∧ w.cell? (a.add (k * 2)) = some (.int .i64 l[k].1) ∧ w.cell? ⟨(a.add (k * 2)).block, (a.add (k * 2)).off + 1, none⟩ = some (.int .i64 l[k].2) := by
 obtain ⟨a, c', hv, r⟩ := h.at_ k hk
 cases hv
 refine ⟨a, rfl, r.1, r.2.1, ?_⟩
 have e : (⟨(a.add (k * 2)).block, (a.add (k * 2)).off + 1, none⟩ : Addr) = a.add (k * 2 + 1) := by rw [← add_two]; rfl
 rw [e]
 exact r.2.2
theorem SpV.len {w : World} {A : Option Addr} {n c : Nat} {l : List (Int × Int)} (h : SpV w (.slice A n c) l) : n = l.length := by
 obtain ⟨A', c', hv, _⟩ := h
 cases hv
 rfl
def StS (w : World) (v : Value) (l : List ByteArray) : Prop := Lst w w.heap.size v l.length (l.map Value.string)
theorem StS.on {w w' : World} {v : Value} {l : List ByteArray} (h : StS w v l) (k : Below w.heap.size w w') : StS w' v l := Lst.on h k
theorem StS.get {w : World} {A : Option Addr} {n c : Nat} {l : List ByteArray} (h : StS w (.slice A n c) l) (k : Nat) (hk : k < l.length) : ∃ a, A = some a ∧ w.cell? (a.add k) = some (.string l[k]) := by
 obtain ⟨A', c', hv, ha⟩ := h
 cases hv
 obtain ⟨a, e, hb, hc⟩ := ha (by omega)
 refine ⟨a, e, hc k _ ?_⟩
 rw [List.getElem?_map, List.getElem?_eq_getElem hk]; rfl
theorem StS.len {w : World} {A : Option Addr} {n c : Nat} {l : List ByteArray} (h : StS w (.slice A n c) l) : n = l.length := by
 obtain ⟨A', c', hv, _⟩ := h
 cases hv; rfl
def AnsF (P : List (List UInt8) × Int) (w : World) (e : Ending) (w' : World) : Prop := ∃ (v : Value) (l : List ByteArray), StS w' v l ∧ l.map (·.data.toList) = P.1 ∧ e = .returned (.tuple #[v, .int .i64 P.2]) ∧ Below w.heap.size w w'
theorem fd_bytes {l l' : List ByteArray} (h : l.map (·.data.toList) = l'.map (·.data.toList)) : l = l' := by
 induction l generalizing l' with
 | nil => cases l' with
  | nil => rfl
  | cons _ _ => cases h
 | cons x r ih =>
  cases l' with
  | nil => cases h
  | cons y r' =>
   simp only [List.map_cons, List.cons.injEq] at h
   rw [ih h.2, show x = y from ByteArray.ext (Array.toList_inj.1 h.1)]
theorem fd_ext (s : ByteArray) (a b : Nat) : (s.extract a b).data.toList = (s.data.toList.take b).drop a := by
 rw [ByteArray.data_extract, Array.toList_extract, List.drop_take]
theorem fd_parts {i0 : Option TypeInfo} {z : Value} {n b : Nat} (h : i0.map (fun i => (i.zero, i.size, i.bytes)) = some (some z, n, b)) : ∃ i, i0 = some i ∧ i.zero = some z ∧ i.size = n ∧ i.bytes = b := by
 cases i0 with
 | none => cases h
 | some i => simp at h; exact ⟨i, rfl, h.1, h.2.1, h.2.2⟩
theorem fd_info : (Tryz.prog.info? 9).map (fun i => (i.zero, i.size, i.bytes)) = some (some (.string ⟨#[]⟩), 1, 16) := by kernel_rfl
theorem StS.nil (w : World) : StS w (.slice none 0 0) [] := Lst.nil w _
theorem fd_keep {P : Addr} {v : Value} {w W : World} (hm : w.cell? P = some v) (k : Below w.heap.size w W) : W.cell? P = some v :=
 (k.cell (World.block_lt_of_cell? _ _ hm)).trans hm
namespace Lk
def bg (c : Nat) : Bool := (decide (65 ≤ c) && decide (c ≤ 90)) || (decide (97 ≤ c) && decide (c ≤ 122)) || decide (c = 95)
def dg (c : Nat) : Bool := decide (48 ≤ c) && decide (c ≤ 57)
def sg (c : Nat) : Bool := decide (c = 45) || decide (c = 43) || decide (c = 47) || decide (c = 46)
def gn (c : Nat) : Bool := bg c || dg c || sg c
def bgB (c : UInt8) : Bool := bg c.toNat
def gnB (c : UInt8) : Bool := gn c.toNat
def isN (l : List UInt8) : Bool := l.all gnB && (match l with | [] => false | c :: _ => bgB c)
def nm (l : List UInt8) : Int := if 64 < l.length then 9 else if isN l = true then 0 else 10
theorem sg_of (c : UInt8) : decide (0 ≤ Lib.indexByte [45, 43, 47, 46] c) = sg c.toNat := by
 have h : ∀ n : Fin 256, decide (0 ≤ Lib.indexByte [45, 43, 47, 46] (UInt8.ofNat n.1)) = sg n.1 := by decide +kernel
 have := h ⟨c.toNat, c.toNat_lt⟩
 simpa using this
end Lk
set_option maxRecDepth 100000 in
theorem nbegins_any (c : Nat) (w : World) (hc : c ≤ 255) : Calls Tryz.prog 44 #[.int .u8 (c : Int)] w fun e w' => e = .returned (.bool (Lk.bg c)) ∧ w = w' := by
 unfold Lk.bg
 obtain ⟨C, hC⟩ : ∃ C : Int, C = c := ⟨_, rfl⟩
 rw [← hC]
 rcases (by omega : (0 ≤ c ∧ c ≤ 64) ∨ (65 ≤ c ∧ c ≤ 90) ∨ (91 ≤ c ∧ c ≤ 94) ∨ (95 ≤ c ∧ c ≤ 95) ∨ (96 ≤ c ∧ c ≤ 96) ∨ (97 ≤ c ∧ c ≤ 122) ∨ (123 ≤ c ∧ c ≤ 255)) with h | h | h | h | h | h | h
 ·
  have hb : (decide (65 ≤ c) && decide (c ≤ 90) || (decide (97 ≤ c) && decide (c ≤ 122)) || decide (c = 95)) = false := by
   simp; omega
  rw [hb]; clear hb
  have f65 : ¬ (65 : Int) ≤ C := by omega
  have f97 : ¬ (97 : Int) ≤ C := by omega
  have f90 : C ≤ (90 : Int) := by omega
  have f122 : C ≤ (122 : Int) := by omega
  have q95 : (C == (95 : Int)) = false := by rw [beq_eq_false_iff_ne]; omega
  clear hC h
  go_enter Tryz.func44, Tryz.ntmps44
  go_wp2_with fail
  go_ret
  exact ⟨rfl, rfl⟩
 ·
  have hb : (decide (65 ≤ c) && decide (c ≤ 90) || (decide (97 ≤ c) && decide (c ≤ 122)) || decide (c = 95)) = true := by
   simp; omega
  rw [hb]; clear hb
  have f65 : (65 : Int) ≤ C := by omega
  have f97 : ¬ (97 : Int) ≤ C := by omega
  have f90 : C ≤ (90 : Int) := by omega
  have f122 : C ≤ (122 : Int) := by omega
  have q95 : (C == (95 : Int)) = false := by rw [beq_eq_false_iff_ne]; omega
  clear hC h
  go_enter Tryz.func44, Tryz.ntmps44
  go_wp2_with fail
  go_ret
  exact ⟨rfl, rfl⟩
 ·
  have hb : (decide (65 ≤ c) && decide (c ≤ 90) || (decide (97 ≤ c) && decide (c ≤ 122)) || decide (c = 95)) = false := by
   simp; omega
  rw [hb]; clear hb
  have f65 : (65 : Int) ≤ C := by omega
  have f97 : ¬ (97 : Int) ≤ C := by omega
  have f90 : ¬ C ≤ (90 : Int) := by omega
  have f122 : C ≤ (122 : Int) := by omega
  have q95 : (C == (95 : Int)) = false := by rw [beq_eq_false_iff_ne]; omega
  clear hC h
  go_enter Tryz.func44, Tryz.ntmps44
  go_wp2_with fail
  go_ret
  exact ⟨rfl, rfl⟩
 ·
  have hb : (decide (65 ≤ c) && decide (c ≤ 90) || (decide (97 ≤ c) && decide (c ≤ 122)) || decide (c = 95)) = true := by
   simp; omega
  rw [hb]; clear hb
  obtain rfl : C = 95 := by omega
  clear hC h
  go_enter Tryz.func44, Tryz.ntmps44
  go_wp2_with fail
  go_ret
  exact ⟨rfl, rfl⟩
 ·
  have hb : (decide (65 ≤ c) && decide (c ≤ 90) || (decide (97 ≤ c) && decide (c ≤ 122)) || decide (c = 95)) = false := by
   simp; omega
  rw [hb]; clear hb
  have f65 : (65 : Int) ≤ C := by omega
  have f97 : ¬ (97 : Int) ≤ C := by omega
  have f90 : ¬ C ≤ (90 : Int) := by omega
  have f122 : C ≤ (122 : Int) := by omega
  have q95 : (C == (95 : Int)) = false := by rw [beq_eq_false_iff_ne]; omega
  clear hC h
  go_enter Tryz.func44, Tryz.ntmps44
  go_wp2_with fail
  go_ret
  exact ⟨rfl, rfl⟩
 ·
  have hb : (decide (65 ≤ c) && decide (c ≤ 90) || (decide (97 ≤ c) && decide (c ≤ 122)) || decide (c = 95)) = true := by
   simp; omega
  rw [hb]; clear hb
  have f65 : (65 : Int) ≤ C := by omega
  have f97 : (97 : Int) ≤ C := by omega
  have f90 : ¬ C ≤ (90 : Int) := by omega
  have f122 : C ≤ (122 : Int) := by omega
  have q95 : (C == (95 : Int)) = false := by rw [beq_eq_false_iff_ne]; omega
  clear hC h
  go_enter Tryz.func44, Tryz.ntmps44
  go_wp2_with fail
  go_ret
  exact ⟨rfl, rfl⟩
 ·
  have hb : (decide (65 ≤ c) && decide (c ≤ 90) || (decide (97 ≤ c) && decide (c ≤ 122)) || decide (c = 95)) = false := by
   simp; omega
  rw [hb]; clear hb
  have f65 : (65 : Int) ≤ C := by omega
  have f97 : (97 : Int) ≤ C := by omega
  have f90 : ¬ C ≤ (90 : Int) := by omega
  have f122 : ¬ C ≤ (122 : Int) := by omega
  have q95 : (C == (95 : Int)) = false := by rw [beq_eq_false_iff_ne]; omega
  clear hC h
  go_enter Tryz.func44, Tryz.ntmps44
  go_wp2_with fail
  go_ret
  exact ⟨rfl, rfl⟩
theorem nindex_any (c : UInt8) (w : World) : Calls Tryz.prog 85 #[.string ⟨#[45, 43, 47, 46]⟩, .int .u8 c.toNat] w fun e w' => ∃ i : Int, e = .returned (.int .i64 i) ∧ decide (0 ≤ i) = Lk.sg c.toNat ∧ w' = w := by
 have := Any.strings_IndexByte Tryz.lays137 ⟨#[45, 43, 47, 46]⟩ c.toNat w
 refine this.mono ?_
 rintro e w' ⟨he, hw⟩
 refine ⟨_, he, ?_, hw⟩
 rw [show ((c.toNat : Int)).toNat.toUInt8 = c by simp]
 exact Lk.sg_of c
set_option maxRecDepth 100000 in
theorem ngoes_any (c : UInt8) (w : World) : Calls Tryz.prog 43 #[.int .u8 c.toNat] w fun e w' => e = .returned (.bool (Lk.gn c.toNat)) ∧ w = w' := by
 have B := Lib.hid (fun W => nbegins_any c.toNat W (by have := c.toNat_lt; omega))
 have I := Lib.hid (fun W => nindex_any c W)
 unfold Lk.gn
 have hd : Lk.dg c.toNat = (decide ((48 : Int) ≤ (c.toNat : Int)) && decide ((c.toNat : Int) ≤ 57)) := by
  unfold Lk.dg
  rw [Bool.eq_iff_iff]; simp; omega
 generalize Lk.bg c.toNat = b at B ⊢
 generalize Lk.sg c.toNat = q at I ⊢
 generalize Lk.dg c.toNat = d at hd ⊢
 generalize (c.toNat : Int) = C at B I hd
 cases b
 ·
  by_cases h1 : (48 : Int) ≤ C
  ·
   by_cases h2 : C ≤ 57
   ·
    rw [decide_eq_true h1, decide_eq_true h2] at hd
    subst hd
    clear I
    go_enter Tryz.func43, Tryz.ntmps43
    go_wp2_with fail
    refine (B.out _).mono ?_; rintro e w1 ⟨rfl, rfl⟩
    go_wp2_with fail
    go_ret
    exact ⟨rfl, rfl⟩
   ·
    rw [decide_eq_true h1, decide_eq_false h2] at hd
    subst hd
    go_enter Tryz.func43, Tryz.ntmps43
    go_wp2_with fail
    refine (B.out _).mono ?_; rintro e w1 ⟨rfl, rfl⟩
    go_wp2_with fail
    refine (I.out _).mono ?_; rintro e w1 ⟨i, rfl, hq, rfl⟩
    cases q
    ·
     have hq := of_decide_eq_false hq
     go_wp2_with fail
     go_ret
     exact ⟨by first | rfl | simp [h2], rfl⟩
    ·
     have hq := of_decide_eq_true hq
     go_wp2_with fail
     go_ret
     exact ⟨by first | rfl | simp [h2], rfl⟩
  ·
   rw [decide_eq_false h1] at hd
   obtain rfl : d = false := by rw [hd]; rfl
   clear hd
   go_enter Tryz.func43, Tryz.ntmps43
   go_wp2_with fail
   refine (B.out _).mono ?_; rintro e w1 ⟨rfl, rfl⟩
   go_wp2_with fail
   refine (I.out _).mono ?_; rintro e w1 ⟨i, rfl, hq, rfl⟩
   cases q
   ·
    have hq := of_decide_eq_false hq
    go_wp2_with fail
    go_ret
    exact ⟨rfl, rfl⟩
   ·
    have hq := of_decide_eq_true hq
    go_wp2_with fail
    go_ret
    exact ⟨rfl, rfl⟩
 ·
  clear I hd
  go_enter Tryz.func43, Tryz.ntmps43
  go_wp2_with fail
  refine (B.out _).mono ?_; rintro e w1 ⟨rfl, rfl⟩
  go_wp2_with fail
  go_ret
  exact ⟨rfl, rfl⟩
set_option maxRecDepth 100000 in
theorem isname_any (s : ByteArray) (w : World) (hs : s.size ≤ 100) : Calls Tryz.prog 12 #[.string s] w fun e w' => e = .returned (.bool (Lk.isN s.data.toList)) ∧ w = w' := by
 obtain ⟨tot, htot⟩ : ∃ t, t = s.data.toList.all Lk.gnB := ⟨_, rfl⟩
 have HT := Lib.hid htot
 obtain ⟨hd, hhd⟩ : ∃ t : Bool, t = (match s.data.toList with | [] => false | c :: _ => Lk.bgB c) := ⟨_, rfl⟩
 have hN : Lk.isN s.data.toList = (tot && hd) := by rw [htot, hhd]; rfl
 have HH := Lib.hid hhd
 rw [hN]
 clear htot hhd hN
 go_enter Tryz.func12, Tryz.ntmps12
 go_wp2_with fail
 go_loopw [6] (fun i wr => ∃ k : Nat, k ≤ s.size ∧ i = .int .i64 k ∧ Hid ((s.data.toList.drop k).all Lk.gnB = tot) ∧ wr = w) (fun i _ => s.size - (intOf i).toNat)
 case atStart => exact ⟨0, Nat.zero_le _, rfl, HT.out.symm, rfl⟩
 case round =>
  obtain ⟨k, hk, rfl, hinv, hw⟩ := hrel
  obtain rfl : w = wr := hw.symm
  by_cases hlt : k < s.size
  ·
   have IX := fun W => fd_ix s k hlt W
   have G := Lib.hid (fun W => ngoes_any s[k] W)
   have hi := hinv.out
   rw [fd_drop s k hlt, List.all_cons] at hi
   have hgn : Lk.gnB s[k] = Lk.gn s[k].toNat := rfl
   rw [hgn] at hi
   generalize Lk.gn s[k].toNat = g at G hi
   generalize (s[k].toNat : Int) = C at G IX
   cases g
   ·
    obtain rfl : tot = false := by rw [← hi]; rfl
    clear hi hgn hinv HT
    go_wp2_with fail
    refine (G.out _).mono ?_; rintro e w1 ⟨rfl, hw1⟩
    cases hw1
    go_wp2_with fail
    go_ret
    exact ⟨rfl, rfl⟩
   ·
    have HI := Lib.hid (show (s.data.toList.drop (k + 1)).all Lk.gnB = tot by rw [← hi]; rfl)
    clear hi hgn hinv
    go_wp2_with fail
    refine (G.out _).mono ?_; rintro e w1 ⟨rfl, hw1⟩
    cases hw1
    go_wp2_with fail
    go_roundw
    case rel => exact ⟨k + 1, by omega, by go_num, HI, by first | rfl | trivial⟩
    case measure => simp [intOf]; omega
  ·
   obtain rfl : tot = true := by rw [← hinv.out, List.drop_of_length_le (by rw [fd_len]; omega)]; rfl
   clear HT hinv
   rcases Nat.eq_zero_or_pos s.size with h0 | h0
   ·
    obtain rfl : s = ⟨#[]⟩ := by
     apply ByteArray.ext; apply Array.toList_inj.1
     rw [show s.data.toList = [] by rw [← List.length_eq_zero_iff, fd_len]; exact h0]
    obtain rfl : hd = false := HH.out
    clear HH
    go_wp2_with fail
    go_ret
    exact ⟨rfl, rfl⟩
   ·
    obtain ⟨n1, n2⟩ := fd_ne h0
    have IX0 := fun W => fd_ix s 0 h0 W
    have B := Lib.hid (fun W => nbegins_any s[0].toNat W (by have := s[0].toNat_lt; omega))
    have hh : hd = Lk.bg s[0].toNat := by
     have e : s.data.toList = s[0] :: s.data.toList.drop 1 := by have := fd_drop s 0 h0; simpa using this
     rw [HH.out, e]; rfl
    rw [← hh] at B
    have IX0 : ∀ W, Sem.run Tryz.prog (Instr.index 9 (.string s) (.int .i64 0)) W = .ok (.int .u8 s[0].toNat) W := IX0
    generalize (s[0].toNat : Int) = C at B IX0
    clear hh HH
    go_wp2_with fail
    refine (B.out _).mono ?_; rintro e w1 ⟨rfl, hw1⟩
    cases hw1
    go_wp2_with fail
    go_ret
    exact ⟨rfl, rfl⟩
theorem rname_any (s : ByteArray) (w : World) (hs : s.size ≤ maxLen) : Calls Tryz.prog 4 #[.string s] w fun e w' => e = .returned (.int .i64 (Lk.nm s.data.toList)) ∧ w = w' := by
 unfold Lk.nm
 unfold maxLen at hs
 rw [fd_len]
 by_cases h : 64 < s.size
 ·
  rw [if_pos h]
  have h1 : 64 < (s.size : Int) := by omega
  clear h
  go_enter Tryz.func4, Tryz.ntmps4
  go_wp2_with fail
  go_ret
  exact ⟨rfl, rfl⟩
 ·
  rw [if_neg h]
  have h1 : ¬ 64 < (s.size : Int) := by omega
  have C := Lib.hid (fun W => isname_any s W (by omega))
  clear h
  generalize Lk.isN s.data.toList = b at C ⊢
  cases b
  all_goals
   go_enter Tryz.func4, Tryz.ntmps4
   go_wp2_with fail
   refine (C.out _).mono ?_; rintro e w1 ⟨rfl, rfl⟩
   go_wp2_with fail
   go_ret
   exact ⟨rfl, rfl⟩
end Go.Proofs.YtjggjkeopbcmoaaGreatDoor
