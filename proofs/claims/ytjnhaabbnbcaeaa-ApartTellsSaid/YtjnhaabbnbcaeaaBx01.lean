/- Joined: Base, Bk, BkR, FdL, FdC0. -/
import Derived.Test.YtjnhaabbnbcaeaaProg
import Derived.WalkKit
import Derived.WalkSpells
import Derived.WalkLawsBesides
import Derived.BigQuiet
import Derived.Deep.QuietTactic
import Derived.Deep.RegionHeld3
import Derived.WalkSmall
import Derived.Lib.Hide
import Derived.Handy
import Derived.Deep.Cut
import Derived.Lib.QuietBelow
/- What all texts of this seat share: the imports, and small facts on worlds. -/
set_option linter.unusedVariables false
set_option linter.unusedSimpArgs false
namespace Go.Proofs.Ytjnhaabbnbcaeaa
open Go.RowKit

theorem ret_int {k : IntKind} {a b : Int} (h : a = b) : Ending.returned (.int k a) = .returned (.int k b) := by rw [h]
theorem bcell {W w1 : World} (hb : Below W.heap.size W w1) : (∀ b o, b < W.heap.size → w1.cell? ⟨b, o, none⟩ = W.cell? ⟨b, o, none⟩) ∧ (∀ b o, b < W.heap.size → w1.frozen? ⟨b, o, none⟩ = W.frozen? ⟨b, o, none⟩) :=
  ⟨fun b o h => hb.cell (p := ⟨b, o, none⟩) h, fun b o h => hb.frozen (p := ⟨b, o, none⟩) h⟩
/-- A new block, and draws. -/
theorem below_new (w : World) (o : Obj) (n : Nat) : Below w.heap.size w ((w.alloc o).drewN n) := below_drewN ((Below.refl _ _).alloc (Nat.le_refl _) _) n
theorem below_draw {B : Nat} (w : World) (n : Nat) : Below B w (w.drewN n) := below_drewN (Below.refl _ _) n
/-- One call behind the other: nothing old has turned. -/
theorem below_step {w W W' : World} (h : Below w.heap.size w W) (k : Below W.heap.size W W') : Below w.heap.size w W' := h.trans (k.mono h.size)
section
variable {P : Program} {f : FuncId} {args : Array Value} {w : World} {n k : Nat} {v : Value}
/-- A callee in a region that only reads: it leaves the world alone, or draws; the world at hand has been drawn from once, or twice. -/
theorem q_same (h : Calls P f args (w.drewN n) fun e w' => e = .returned v ∧ w.drewN n = w') : Calls P f args (w.drewN n) fun e w'' => e = .returned v ∧ ∃ m, w'' = w.drewN m :=
  h.mono fun _ _ ⟨he, hm⟩ => ⟨he, n, hm.symm⟩
theorem q_same2 (h : Calls P f args (w.drewN (n + k)) fun e w' => e = .returned v ∧ w.drewN (n + k) = w') : Calls P f args (w.drewN (n + k)) fun e w'' => e = .returned v ∧ ∃ m, w'' = w.drewN (n + m) :=
  h.mono fun _ _ ⟨he, hm⟩ => ⟨he, k, hm.symm⟩
theorem q_draw (h : Calls P f args (w.drewN n) fun e w' => e = .returned v ∧ ∃ m, w' = (w.drewN n).drewN m) : Calls P f args (w.drewN n) fun e w'' => e = .returned v ∧ ∃ m, w'' = w.drewN m :=
  h.mono fun _ _ ⟨he, m, hm⟩ => ⟨he, n + m, by rw [hm, World.drewN_drewN]⟩
theorem q_draw2 (h : Calls P f args (w.drewN (n + k)) fun e w' => e = .returned v ∧ ∃ m, w' = (w.drewN (n + k)).drewN m) : Calls P f args (w.drewN (n + k)) fun e w'' => e = .returned v ∧ ∃ m, w'' = w.drewN (n + m) :=
  h.mono fun _ _ ⟨he, m, hm⟩ => ⟨he, k + m, by rw [hm, World.drewN_drewN, Nat.add_assoc]⟩
end
end Go.Proofs.Ytjnhaabbnbcaeaa

/- A block of one to six cells, through calls. -/
set_option linter.unusedVariables false
set_option linter.unusedSimpArgs false
namespace Go.Proofs.Ytjnhaabbnbcaeaa
open Go.RowKit Go.Sort

/-- A block of 1 cells. -/
structure Bk1 (W : World) (b : Nat) (v0 : Value) : Prop where
  hb : b < W.heap.size
  fz : ∀ j, W.frozen? ⟨b, j, none⟩ = false
  k0 : W.cell? ⟨b, 0, none⟩ = some v0
theorem Bk1.of {W w1 : World} {b : Nat} {v0 : Value} (k : Below W.heap.size W w1) (hb : b < W.heap.size) (hf : ∀ j, W.frozen? ⟨b, j, none⟩ = false) (h0 : W.cell? ⟨b, 0, none⟩ = some v0) : Bk1 w1 b v0 :=
  ⟨Nat.lt_of_lt_of_le hb k.size, fun j => (k.frozen (p := ⟨b, j, none⟩) hb).trans (hf j), (k.cell (p := ⟨b, 0, none⟩) hb).trans h0⟩
theorem Bk1.keep {W w1 : World} {b : Nat} {v0 : Value} (h : Bk1 W b v0) (k : Below W.heap.size W w1) : Bk1 w1 b v0 :=
  Bk1.of k h.hb h.fz h.k0
/-- A block of 2 cells. -/
structure Bk2 (W : World) (b : Nat) (v0 v1 : Value) : Prop where
  hb : b < W.heap.size
  fz : ∀ j, W.frozen? ⟨b, j, none⟩ = false
  k0 : W.cell? ⟨b, 0, none⟩ = some v0
  k1 : W.cell? ⟨b, 1, none⟩ = some v1
theorem Bk2.of {W w1 : World} {b : Nat} {v0 v1 : Value} (k : Below W.heap.size W w1) (hb : b < W.heap.size) (hf : ∀ j, W.frozen? ⟨b, j, none⟩ = false) (h0 : W.cell? ⟨b, 0, none⟩ = some v0) (h1 : W.cell? ⟨b, 1, none⟩ = some v1) : Bk2 w1 b v0 v1 :=
  ⟨Nat.lt_of_lt_of_le hb k.size, fun j => (k.frozen (p := ⟨b, j, none⟩) hb).trans (hf j), (k.cell (p := ⟨b, 0, none⟩) hb).trans h0, (k.cell (p := ⟨b, 1, none⟩) hb).trans h1⟩
theorem Bk2.keep {W w1 : World} {b : Nat} {v0 v1 : Value} (h : Bk2 W b v0 v1) (k : Below W.heap.size W w1) : Bk2 w1 b v0 v1 :=
  Bk2.of k h.hb h.fz h.k0 h.k1
/-- A block of 3 cells. -/
structure Bk3 (W : World) (b : Nat) (v0 v1 v2 : Value) : Prop where
  hb : b < W.heap.size
  fz : ∀ j, W.frozen? ⟨b, j, none⟩ = false
  k0 : W.cell? ⟨b, 0, none⟩ = some v0
  k1 : W.cell? ⟨b, 1, none⟩ = some v1
  k2 : W.cell? ⟨b, 2, none⟩ = some v2
theorem Bk3.of {W w1 : World} {b : Nat} {v0 v1 v2 : Value} (k : Below W.heap.size W w1) (hb : b < W.heap.size) (hf : ∀ j, W.frozen? ⟨b, j, none⟩ = false) (h0 : W.cell? ⟨b, 0, none⟩ = some v0) (h1 : W.cell? ⟨b, 1, none⟩ = some v1) (h2 : W.cell? ⟨b, 2, none⟩ = some v2) : Bk3 w1 b v0 v1 v2 :=
  ⟨Nat.lt_of_lt_of_le hb k.size, fun j => (k.frozen (p := ⟨b, j, none⟩) hb).trans (hf j), (k.cell (p := ⟨b, 0, none⟩) hb).trans h0, (k.cell (p := ⟨b, 1, none⟩) hb).trans h1, (k.cell (p := ⟨b, 2, none⟩) hb).trans h2⟩
theorem Bk3.keep {W w1 : World} {b : Nat} {v0 v1 v2 : Value} (h : Bk3 W b v0 v1 v2) (k : Below W.heap.size W w1) : Bk3 w1 b v0 v1 v2 :=
  Bk3.of k h.hb h.fz h.k0 h.k1 h.k2
/-- A block of 4 cells. -/
structure Bk4 (W : World) (b : Nat) (v0 v1 v2 v3 : Value) : Prop where
  hb : b < W.heap.size
  fz : ∀ j, W.frozen? ⟨b, j, none⟩ = false
  k0 : W.cell? ⟨b, 0, none⟩ = some v0
  k1 : W.cell? ⟨b, 1, none⟩ = some v1
  k2 : W.cell? ⟨b, 2, none⟩ = some v2
  k3 : W.cell? ⟨b, 3, none⟩ = some v3
theorem Bk4.of {W w1 : World} {b : Nat} {v0 v1 v2 v3 : Value} (k : Below W.heap.size W w1) (hb : b < W.heap.size) (hf : ∀ j, W.frozen? ⟨b, j, none⟩ = false) (h0 : W.cell? ⟨b, 0, none⟩ = some v0) (h1 : W.cell? ⟨b, 1, none⟩ = some v1) (h2 : W.cell? ⟨b, 2, none⟩ = some v2) (h3 : W.cell? ⟨b, 3, none⟩ = some v3) : Bk4 w1 b v0 v1 v2 v3 :=
  ⟨Nat.lt_of_lt_of_le hb k.size, fun j => (k.frozen (p := ⟨b, j, none⟩) hb).trans (hf j), (k.cell (p := ⟨b, 0, none⟩) hb).trans h0, (k.cell (p := ⟨b, 1, none⟩) hb).trans h1, (k.cell (p := ⟨b, 2, none⟩) hb).trans h2, (k.cell (p := ⟨b, 3, none⟩) hb).trans h3⟩
theorem Bk4.keep {W w1 : World} {b : Nat} {v0 v1 v2 v3 : Value} (h : Bk4 W b v0 v1 v2 v3) (k : Below W.heap.size W w1) : Bk4 w1 b v0 v1 v2 v3 :=
  Bk4.of k h.hb h.fz h.k0 h.k1 h.k2 h.k3
/-- A block of 5 cells. -/
structure Bk5 (W : World) (b : Nat) (v0 v1 v2 v3 v4 : Value) : Prop where
  hb : b < W.heap.size
  fz : ∀ j, W.frozen? ⟨b, j, none⟩ = false
  k0 : W.cell? ⟨b, 0, none⟩ = some v0
  k1 : W.cell? ⟨b, 1, none⟩ = some v1
  k2 : W.cell? ⟨b, 2, none⟩ = some v2
  k3 : W.cell? ⟨b, 3, none⟩ = some v3
  k4 : W.cell? ⟨b, 4, none⟩ = some v4
theorem Bk5.of {W w1 : World} {b : Nat} {v0 v1 v2 v3 v4 : Value} (k : Below W.heap.size W w1) (hb : b < W.heap.size) (hf : ∀ j, W.frozen? ⟨b, j, none⟩ = false) (h0 : W.cell? ⟨b, 0, none⟩ = some v0) (h1 : W.cell? ⟨b, 1, none⟩ = some v1) (h2 : W.cell? ⟨b, 2, none⟩ = some v2) (h3 : W.cell? ⟨b, 3, none⟩ = some v3) (h4 : W.cell? ⟨b, 4, none⟩ = some v4) : Bk5 w1 b v0 v1 v2 v3 v4 :=
  ⟨Nat.lt_of_lt_of_le hb k.size, fun j => (k.frozen (p := ⟨b, j, none⟩) hb).trans (hf j), (k.cell (p := ⟨b, 0, none⟩) hb).trans h0, (k.cell (p := ⟨b, 1, none⟩) hb).trans h1, (k.cell (p := ⟨b, 2, none⟩) hb).trans h2, (k.cell (p := ⟨b, 3, none⟩) hb).trans h3, (k.cell (p := ⟨b, 4, none⟩) hb).trans h4⟩
theorem Bk5.keep {W w1 : World} {b : Nat} {v0 v1 v2 v3 v4 : Value} (h : Bk5 W b v0 v1 v2 v3 v4) (k : Below W.heap.size W w1) : Bk5 w1 b v0 v1 v2 v3 v4 :=
  Bk5.of k h.hb h.fz h.k0 h.k1 h.k2 h.k3 h.k4
/-- A block of 6 cells. -/
structure Bk6 (W : World) (b : Nat) (v0 v1 v2 v3 v4 v5 : Value) : Prop where
  hb : b < W.heap.size
  fz : ∀ j, W.frozen? ⟨b, j, none⟩ = false
  k0 : W.cell? ⟨b, 0, none⟩ = some v0
  k1 : W.cell? ⟨b, 1, none⟩ = some v1
  k2 : W.cell? ⟨b, 2, none⟩ = some v2
  k3 : W.cell? ⟨b, 3, none⟩ = some v3
  k4 : W.cell? ⟨b, 4, none⟩ = some v4
  k5 : W.cell? ⟨b, 5, none⟩ = some v5
theorem Bk6.of {W w1 : World} {b : Nat} {v0 v1 v2 v3 v4 v5 : Value} (k : Below W.heap.size W w1) (hb : b < W.heap.size) (hf : ∀ j, W.frozen? ⟨b, j, none⟩ = false) (h0 : W.cell? ⟨b, 0, none⟩ = some v0) (h1 : W.cell? ⟨b, 1, none⟩ = some v1) (h2 : W.cell? ⟨b, 2, none⟩ = some v2) (h3 : W.cell? ⟨b, 3, none⟩ = some v3) (h4 : W.cell? ⟨b, 4, none⟩ = some v4) (h5 : W.cell? ⟨b, 5, none⟩ = some v5) : Bk6 w1 b v0 v1 v2 v3 v4 v5 :=
  ⟨Nat.lt_of_lt_of_le hb k.size, fun j => (k.frozen (p := ⟨b, j, none⟩) hb).trans (hf j), (k.cell (p := ⟨b, 0, none⟩) hb).trans h0, (k.cell (p := ⟨b, 1, none⟩) hb).trans h1, (k.cell (p := ⟨b, 2, none⟩) hb).trans h2, (k.cell (p := ⟨b, 3, none⟩) hb).trans h3, (k.cell (p := ⟨b, 4, none⟩) hb).trans h4, (k.cell (p := ⟨b, 5, none⟩) hb).trans h5⟩
theorem Bk6.keep {W w1 : World} {b : Nat} {v0 v1 v2 v3 v4 v5 : Value} (h : Bk6 W b v0 v1 v2 v3 v4 v5) (k : Below W.heap.size W w1) : Bk6 w1 b v0 v1 v2 v3 v4 v5 :=
  Bk6.of k h.hb h.fz h.k0 h.k1 h.k2 h.k3 h.k4 h.k5
/-- A block of 7 cells. -/
structure Bk7 (W : World) (b : Nat) (v0 v1 v2 v3 v4 v5 v6 : Value) : Prop where
  hb : b < W.heap.size
  fz : ∀ j, W.frozen? ⟨b, j, none⟩ = false
  k0 : W.cell? ⟨b, 0, none⟩ = some v0
  k1 : W.cell? ⟨b, 1, none⟩ = some v1
  k2 : W.cell? ⟨b, 2, none⟩ = some v2
  k3 : W.cell? ⟨b, 3, none⟩ = some v3
  k4 : W.cell? ⟨b, 4, none⟩ = some v4
  k5 : W.cell? ⟨b, 5, none⟩ = some v5
  k6 : W.cell? ⟨b, 6, none⟩ = some v6
theorem Bk7.of {W w1 : World} {b : Nat} {v0 v1 v2 v3 v4 v5 v6 : Value} (k : Below W.heap.size W w1) (hb : b < W.heap.size) (hf : ∀ j, W.frozen? ⟨b, j, none⟩ = false) (h0 : W.cell? ⟨b, 0, none⟩ = some v0) (h1 : W.cell? ⟨b, 1, none⟩ = some v1) (h2 : W.cell? ⟨b, 2, none⟩ = some v2) (h3 : W.cell? ⟨b, 3, none⟩ = some v3) (h4 : W.cell? ⟨b, 4, none⟩ = some v4) (h5 : W.cell? ⟨b, 5, none⟩ = some v5) (h6 : W.cell? ⟨b, 6, none⟩ = some v6) : Bk7 w1 b v0 v1 v2 v3 v4 v5 v6 :=
  ⟨Nat.lt_of_lt_of_le hb k.size, fun j => (k.frozen (p := ⟨b, j, none⟩) hb).trans (hf j), (k.cell (p := ⟨b, 0, none⟩) hb).trans h0, (k.cell (p := ⟨b, 1, none⟩) hb).trans h1, (k.cell (p := ⟨b, 2, none⟩) hb).trans h2, (k.cell (p := ⟨b, 3, none⟩) hb).trans h3, (k.cell (p := ⟨b, 4, none⟩) hb).trans h4, (k.cell (p := ⟨b, 5, none⟩) hb).trans h5, (k.cell (p := ⟨b, 6, none⟩) hb).trans h6⟩
theorem Bk7.keep {W w1 : World} {b : Nat} {v0 v1 v2 v3 v4 v5 v6 : Value} (h : Bk7 W b v0 v1 v2 v3 v4 v5 v6) (k : Below W.heap.size W w1) : Bk7 w1 b v0 v1 v2 v3 v4 v5 v6 :=
  Bk7.of k h.hb h.fz h.k0 h.k1 h.k2 h.k3 h.k4 h.k5 h.k6
/-- The world at hand under a name. -/
theorem wp_named {c : Code} {P : Program} {Q : Exit → Act → World → Prop} {a : Act} {W : World} (h : ∀ w1, w1 = W → c.wp P Q a w1) : c.wp P Q a W := h W rfl
/-- A region that draws its order, reads, and calls what makes memory: walked once, from a world behind w. -/
theorem wp_region_qb {P : Program} {id : Nat} {Q : Exit → Act → World → Prop} {a : Act} {w W : World} {l : List Oper} (hm : P.follows .mixedOrders = true) (hB : Region.lexB .any l.toArray = true) (hb : Below w.heap.size w W)
    (h : wpQuiet P l.toArray (fun w' => ∃ p : Regrown, w' = grow (redrawn w p.d) p.os) (fun a' => ∀ w', (∃ p : Regrown, w' = grow (redrawn w p.d) p.os) → Q .normal a' w') l a) : (Code.region id l.toArray true).wp P Q a W :=
  wp_region_quiet (C := fun w' => ∃ p : Regrown, w' = grow (redrawn w p.d) p.os) hm hB (regrown_of_below hb.drew) (by simpa using h)
end Go.Proofs.Ytjnhaabbnbcaeaa

/- A block of eleven cells. -/
set_option linter.unusedVariables false
set_option linter.unusedSimpArgs false
namespace Go.Proofs.Ytjnhaabbnbcaeaa
open Go.RowKit

/-- A block of 11 cells. -/
structure Bk11 (W : World) (b : Nat) (v0 v1 v2 v3 v4 v5 v6 v7 v8 v9 v10 : Value) : Prop where
  hb : b < W.heap.size
  fz : ∀ j, W.frozen? ⟨b, j, none⟩ = false
  k0 : W.cell? ⟨b, 0, none⟩ = some v0
  k1 : W.cell? ⟨b, 1, none⟩ = some v1
  k2 : W.cell? ⟨b, 2, none⟩ = some v2
  k3 : W.cell? ⟨b, 3, none⟩ = some v3
  k4 : W.cell? ⟨b, 4, none⟩ = some v4
  k5 : W.cell? ⟨b, 5, none⟩ = some v5
  k6 : W.cell? ⟨b, 6, none⟩ = some v6
  k7 : W.cell? ⟨b, 7, none⟩ = some v7
  k8 : W.cell? ⟨b, 8, none⟩ = some v8
  k9 : W.cell? ⟨b, 9, none⟩ = some v9
  k10 : W.cell? ⟨b, 10, none⟩ = some v10
theorem Bk11.of {W w1 : World} {b : Nat} {v0 v1 v2 v3 v4 v5 v6 v7 v8 v9 v10 : Value} (k : Below W.heap.size W w1) (hb : b < W.heap.size) (hf : ∀ j, W.frozen? ⟨b, j, none⟩ = false) (h0 : W.cell? ⟨b, 0, none⟩ = some v0) (h1 : W.cell? ⟨b, 1, none⟩ = some v1) (h2 : W.cell? ⟨b, 2, none⟩ = some v2) (h3 : W.cell? ⟨b, 3, none⟩ = some v3) (h4 : W.cell? ⟨b, 4, none⟩ = some v4) (h5 : W.cell? ⟨b, 5, none⟩ = some v5) (h6 : W.cell? ⟨b, 6, none⟩ = some v6) (h7 : W.cell? ⟨b, 7, none⟩ = some v7) (h8 : W.cell? ⟨b, 8, none⟩ = some v8) (h9 : W.cell? ⟨b, 9, none⟩ = some v9) (h10 : W.cell? ⟨b, 10, none⟩ = some v10) : Bk11 w1 b v0 v1 v2 v3 v4 v5 v6 v7 v8 v9 v10 :=
  ⟨Nat.lt_of_lt_of_le hb k.size, fun j => (k.frozen (p := ⟨b, j, none⟩) hb).trans (hf j), (k.cell (p := ⟨b, 0, none⟩) hb).trans h0, (k.cell (p := ⟨b, 1, none⟩) hb).trans h1, (k.cell (p := ⟨b, 2, none⟩) hb).trans h2, (k.cell (p := ⟨b, 3, none⟩) hb).trans h3, (k.cell (p := ⟨b, 4, none⟩) hb).trans h4, (k.cell (p := ⟨b, 5, none⟩) hb).trans h5, (k.cell (p := ⟨b, 6, none⟩) hb).trans h6, (k.cell (p := ⟨b, 7, none⟩) hb).trans h7, (k.cell (p := ⟨b, 8, none⟩) hb).trans h8, (k.cell (p := ⟨b, 9, none⟩) hb).trans h9, (k.cell (p := ⟨b, 10, none⟩) hb).trans h10⟩
theorem Bk11.keep {W w1 : World} {b : Nat} {v0 v1 v2 v3 v4 v5 v6 v7 v8 v9 v10 : Value} (h : Bk11 W b v0 v1 v2 v3 v4 v5 v6 v7 v8 v9 v10) (k : Below W.heap.size W w1) : Bk11 w1 b v0 v1 v2 v3 v4 v5 v6 v7 v8 v9 v10 :=
  Bk11.of k h.hb h.fz h.k0 h.k1 h.k2 h.k3 h.k4 h.k5 h.k6 h.k7 h.k8 h.k9 h.k10
end Go.Proofs.Ytjnhaabbnbcaeaa

/- Fields, in plain lists: marks, blanks, a field's text. -/
set_option linter.unusedVariables false
set_option linter.unusedSimpArgs false
namespace Go.Proofs.Ytjnhaabbnbcaeaa
namespace Fd
/-- A mark; a blank. -/
def isK (r : Nat) : Bool := (decide (r = 32) || decide (r = 9)) || (decide (r = 34) || decide (r = 35))
def isW (r : Nat) : Bool := decide (r = 32) || decide (r = 9)
def mkB (c : UInt8) : Bool := isK c.toNat
/-- A field's text. -/
def tx (l : List UInt8) : List UInt8 × Int := if l.contains 34 = true then ([], 8) else if l = [] ∨ l.any mkB = true then (34 :: (l ++ [34]), 0) else (l, 0)
end Fd
end Go.Proofs.Ytjnhaabbnbcaeaa

/- Texts as lists of bytes, where no text of num is at hand. -/
set_option linter.unusedVariables false
set_option linter.unusedSimpArgs false
namespace Go.Proofs.Ytjnhaabbnbcaeaa
open Go.RowKit

theorem fd_len (a : ByteArray) : a.data.toList.length = a.size := Array.length_toList
theorem fd_drop (a : ByteArray) (k : Nat) (h : k < a.size) : a.data.toList.drop k = a[k] :: a.data.toList.drop (k + 1) := by
  rw [List.drop_eq_getElem_cons (by rw [fd_len]; exact h)]
  rfl
theorem fd_id (s : ByteArray) : (⟨s.data.toList.toArray⟩ : ByteArray) = s := by apply ByteArray.ext; apply Array.toList_inj.1; simp
theorem fd_ne {ds : ByteArray} (h : 0 < ds.size) : ds.toList.isEmpty = false ∧ ¬ ds.toList = [] := by
  have : ds.toList ≠ [] := by
    intro e
    have hl := fd_len ds
    rw [← ByteArray.toList_eq] at hl
    rw [e] at hl; simp at hl; omega
  exact ⟨by simpa using this, this⟩
theorem fd_ix (a : ByteArray) (k : Nat) (h : k < a.size) (w : World) : Sem.run Try.prog (Instr.index 9 (.string a) (.int .i64 (k : Int))) w = .ok (.int .u8 a[k].toNat) w := by
  rw [run_index_string w _ _ _ _ Try.underlying9, dif_pos ⟨by omega, by omega⟩]
  simp
end Go.Proofs.Ytjnhaabbnbcaeaa
