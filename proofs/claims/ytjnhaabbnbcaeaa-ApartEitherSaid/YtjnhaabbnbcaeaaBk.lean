/- A block of one to six cells, through calls. -/
import Derived.Test.YtjnhaabbnbcaeaaBase
import Derived.Lib.QuietBelow
set_option linter.unusedVariables false
set_option linter.unusedSimpArgs false
namespace Go.Proofs.Ytjnhaabbnbcaeaa
open Go.RowKit Go.Sort

/-- A block of 1 cells. -/
structure Bk1 (W : World) (b : Nat) (v0 : Value) : Prop where
  hb : b < W.heap.size
  fz : ∀ j, W.frozen? ⟨b, j, none⟩ = false
  k0 : W.cell? ⟨b, 0, none⟩ = some v0
theorem Bk1.of {W w1 : World} {b : Nat} {v0 : Value} (k : Below W.heap.size W w1) (hb : b < W.heap.size) (hf : ∀ j, W.frozen? ⟨b, j, none⟩ = false) (h0 : W.cell? ⟨b, 0, none⟩ = some v0) : Bk1 w1 b v0 :=
  ⟨Nat.lt_of_lt_of_le hb k.size, fun j => (k.frozen (p := ⟨b, j, none⟩) hb).trans (hf j), (k.cell (p := ⟨b, 0, none⟩) hb).trans h0⟩
theorem Bk1.keep {W w1 : World} {b : Nat} {v0 : Value} (h : Bk1 W b v0) (k : Below W.heap.size W w1) : Bk1 w1 b v0 :=
  Bk1.of k h.hb h.fz h.k0
/-- A block of 2 cells. -/
structure Bk2 (W : World) (b : Nat) (v0 v1 : Value) : Prop where
  hb : b < W.heap.size
  fz : ∀ j, W.frozen? ⟨b, j, none⟩ = false
  k0 : W.cell? ⟨b, 0, none⟩ = some v0
  k1 : W.cell? ⟨b, 1, none⟩ = some v1
theorem Bk2.of {W w1 : World} {b : Nat} {v0 v1 : Value} (k : Below W.heap.size W w1) (hb : b < W.heap.size) (hf : ∀ j, W.frozen? ⟨b, j, none⟩ = false) (h0 : W.cell? ⟨b, 0, none⟩ = some v0) (h1 : W.cell? ⟨b, 1, none⟩ = some v1) : Bk2 w1 b v0 v1 :=
  ⟨Nat.lt_of_lt_of_le hb k.size, fun j => (k.frozen (p := ⟨b, j, none⟩) hb).trans (hf j), (k.cell (p := ⟨b, 0, none⟩) hb).trans h0, (k.cell (p := ⟨b, 1, none⟩) hb).trans h1⟩
theorem Bk2.keep {W w1 : World} {b : Nat} {v0 v1 : Value} (h : Bk2 W b v0 v1) (k : Below W.heap.size W w1) : Bk2 w1 b v0 v1 :=
  Bk2.of k h.hb h.fz h.k0 h.k1
/-- A block of 3 cells. -/
structure Bk3 (W : World) (b : Nat) (v0 v1 v2 : Value) : Prop where
  hb : b < W.heap.size
  fz : ∀ j, W.frozen? ⟨b, j, none⟩ = false
  k0 : W.cell? ⟨b, 0, none⟩ = some v0
  k1 : W.cell? ⟨b, 1, none⟩ = some v1
  k2 : W.cell? ⟨b, 2, none⟩ = some v2
theorem Bk3.of {W w1 : World} {b : Nat} {v0 v1 v2 : Value} (k : Below W.heap.size W w1) (hb : b < W.heap.size) (hf : ∀ j, W.frozen? ⟨b, j, none⟩ = false) (h0 : W.cell? ⟨b, 0, none⟩ = some v0) (h1 : W.cell? ⟨b, 1, none⟩ = some v1) (h2 : W.cell? ⟨b, 2, none⟩ = some v2) : Bk3 w1 b v0 v1 v2 :=
  ⟨Nat.lt_of_lt_of_le hb k.size, fun j => (k.frozen (p := ⟨b, j, none⟩) hb).trans (hf j), (k.cell (p := ⟨b, 0, none⟩) hb).trans h0, (k.cell (p := ⟨b, 1, none⟩) hb).trans h1, (k.cell (p := ⟨b, 2, none⟩) hb).trans h2⟩
theorem Bk3.keep {W w1 : World} {b : Nat} {v0 v1 v2 : Value} (h : Bk3 W b v0 v1 v2) (k : Below W.heap.size W w1) : Bk3 w1 b v0 v1 v2 :=
  Bk3.of k h.hb h.fz h.k0 h.k1 h.k2
/-- A block of 4 cells. -/
structure Bk4 (W : World) (b : Nat) (v0 v1 v2 v3 : Value) : Prop where
  hb : b < W.heap.size
  fz : ∀ j, W.frozen? ⟨b, j, none⟩ = false
  k0 : W.cell? ⟨b, 0, none⟩ = some v0
  k1 : W.cell? ⟨b, 1, none⟩ = some v1
  k2 : W.cell? ⟨b, 2, none⟩ = some v2
  k3 : W.cell? ⟨b, 3, none⟩ = some v3
theorem Bk4.of {W w1 : World} {b : Nat} {v0 v1 v2 v3 : Value} (k : Below W.heap.size W w1) (hb : b < W.heap.size) (hf : ∀ j, W.frozen? ⟨b, j, none⟩ = false) (h0 : W.cell? ⟨b, 0, none⟩ = some v0) (h1 : W.cell? ⟨b, 1, none⟩ = some v1) (h2 : W.cell? ⟨b, 2, none⟩ = some v2) (h3 : W.cell? ⟨b, 3, none⟩ = some v3) : Bk4 w1 b v0 v1 v2 v3 :=
  ⟨Nat.lt_of_lt_of_le hb k.size, fun j => (k.frozen (p := ⟨b, j, none⟩) hb).trans (hf j), (k.cell (p := ⟨b, 0, none⟩) hb).trans h0, (k.cell (p := ⟨b, 1, none⟩) hb).trans h1, (k.cell (p := ⟨b, 2, none⟩) hb).trans h2, (k.cell (p := ⟨b, 3, none⟩) hb).trans h3⟩
theorem Bk4.keep {W w1 : World} {b : Nat} {v0 v1 v2 v3 : Value} (h : Bk4 W b v0 v1 v2 v3) (k : Below W.heap.size W w1) : Bk4 w1 b v0 v1 v2 v3 :=
  Bk4.of k h.hb h.fz h.k0 h.k1 h.k2 h.k3
/-- A block of 5 cells. -/
structure Bk5 (W : World) (b : Nat) (v0 v1 v2 v3 v4 : Value) : Prop where
  hb : b < W.heap.size
  fz : ∀ j, W.frozen? ⟨b, j, none⟩ = false
  k0 : W.cell? ⟨b, 0, none⟩ = some v0
  k1 : W.cell? ⟨b, 1, none⟩ = some v1
  k2 : W.cell? ⟨b, 2, none⟩ = some v2
  k3 : W.cell? ⟨b, 3, none⟩ = some v3
  k4 : W.cell? ⟨b, 4, none⟩ = some v4
theorem Bk5.of {W w1 : World} {b : Nat} {v0 v1 v2 v3 v4 : Value} (k : Below W.heap.size W w1) (hb : b < W.heap.size) (hf : ∀ j, W.frozen? ⟨b, j, none⟩ = false) (h0 : W.cell? ⟨b, 0, none⟩ = some v0) (h1 : W.cell? ⟨b, 1, none⟩ = some v1) (h2 : W.cell? ⟨b, 2, none⟩ = some v2) (h3 : W.cell? ⟨b, 3, none⟩ = some v3) (h4 : W.cell? ⟨b, 4, none⟩ = some v4) : Bk5 w1 b v0 v1 v2 v3 v4 :=
  ⟨Nat.lt_of_lt_of_le hb k.size, fun j => (k.frozen (p := ⟨b, j, none⟩) hb).trans (hf j), (k.cell (p := ⟨b, 0, none⟩) hb).trans h0, (k.cell (p := ⟨b, 1, none⟩) hb).trans h1, (k.cell (p := ⟨b, 2, none⟩) hb).trans h2, (k.cell (p := ⟨b, 3, none⟩) hb).trans h3, (k.cell (p := ⟨b, 4, none⟩) hb).trans h4⟩
theorem Bk5.keep {W w1 : World} {b : Nat} {v0 v1 v2 v3 v4 : Value} (h : Bk5 W b v0 v1 v2 v3 v4) (k : Below W.heap.size W w1) : Bk5 w1 b v0 v1 v2 v3 v4 :=
  Bk5.of k h.hb h.fz h.k0 h.k1 h.k2 h.k3 h.k4
/-- A block of 6 cells. -/
structure Bk6 (W : World) (b : Nat) (v0 v1 v2 v3 v4 v5 : Value) : Prop where
  hb : b < W.heap.size
  fz : ∀ j, W.frozen? ⟨b, j, none⟩ = false
  k0 : W.cell? ⟨b, 0, none⟩ = some v0
  k1 : W.cell? ⟨b, 1, none⟩ = some v1
  k2 : W.cell? ⟨b, 2, none⟩ = some v2
  k3 : W.cell? ⟨b, 3, none⟩ = some v3
  k4 : W.cell? ⟨b, 4, none⟩ = some v4
  k5 : W.cell? ⟨b, 5, none⟩ = some v5
theorem Bk6.of {W w1 : World} {b : Nat} {v0 v1 v2 v3 v4 v5 : Value} (k : Below W.heap.size W w1) (hb : b < W.heap.size) (hf : ∀ j, W.frozen? ⟨b, j, none⟩ = false) (h0 : W.cell? ⟨b, 0, none⟩ = some v0) (h1 : W.cell? ⟨b, 1, none⟩ = some v1) (h2 : W.cell? ⟨b, 2, none⟩ = some v2) (h3 : W.cell? ⟨b, 3, none⟩ = some v3) (h4 : W.cell? ⟨b, 4, none⟩ = some v4) (h5 : W.cell? ⟨b, 5, none⟩ = some v5) : Bk6 w1 b v0 v1 v2 v3 v4 v5 :=
  ⟨Nat.lt_of_lt_of_le hb k.size, fun j => (k.frozen (p := ⟨b, j, none⟩) hb).trans (hf j), (k.cell (p := ⟨b, 0, none⟩) hb).trans h0, (k.cell (p := ⟨b, 1, none⟩) hb).trans h1, (k.cell (p := ⟨b, 2, none⟩) hb).trans h2, (k.cell (p := ⟨b, 3, none⟩) hb).trans h3, (k.cell (p := ⟨b, 4, none⟩) hb).trans h4, (k.cell (p := ⟨b, 5, none⟩) hb).trans h5⟩
theorem Bk6.keep {W w1 : World} {b : Nat} {v0 v1 v2 v3 v4 v5 : Value} (h : Bk6 W b v0 v1 v2 v3 v4 v5) (k : Below W.heap.size W w1) : Bk6 w1 b v0 v1 v2 v3 v4 v5 :=
  Bk6.of k h.hb h.fz h.k0 h.k1 h.k2 h.k3 h.k4 h.k5
/-- A block of 7 cells. -/
structure Bk7 (W : World) (b : Nat) (v0 v1 v2 v3 v4 v5 v6 : Value) : Prop where
  hb : b < W.heap.size
  fz : ∀ j, W.frozen? ⟨b, j, none⟩ = false
  k0 : W.cell? ⟨b, 0, none⟩ = some v0
  k1 : W.cell? ⟨b, 1, none⟩ = some v1
  k2 : W.cell? ⟨b, 2, none⟩ = some v2
  k3 : W.cell? ⟨b, 3, none⟩ = some v3
  k4 : W.cell? ⟨b, 4, none⟩ = some v4
  k5 : W.cell? ⟨b, 5, none⟩ = some v5
  k6 : W.cell? ⟨b, 6, none⟩ = some v6
theorem Bk7.of {W w1 : World} {b : Nat} {v0 v1 v2 v3 v4 v5 v6 : Value} (k : Below W.heap.size W w1) (hb : b < W.heap.size) (hf : ∀ j, W.frozen? ⟨b, j, none⟩ = false) (h0 : W.cell? ⟨b, 0, none⟩ = some v0) (h1 : W.cell? ⟨b, 1, none⟩ = some v1) (h2 : W.cell? ⟨b, 2, none⟩ = some v2) (h3 : W.cell? ⟨b, 3, none⟩ = some v3) (h4 : W.cell? ⟨b, 4, none⟩ = some v4) (h5 : W.cell? ⟨b, 5, none⟩ = some v5) (h6 : W.cell? ⟨b, 6, none⟩ = some v6) : Bk7 w1 b v0 v1 v2 v3 v4 v5 v6 :=
  ⟨Nat.lt_of_lt_of_le hb k.size, fun j => (k.frozen (p := ⟨b, j, none⟩) hb).trans (hf j), (k.cell (p := ⟨b, 0, none⟩) hb).trans h0, (k.cell (p := ⟨b, 1, none⟩) hb).trans h1, (k.cell (p := ⟨b, 2, none⟩) hb).trans h2, (k.cell (p := ⟨b, 3, none⟩) hb).trans h3, (k.cell (p := ⟨b, 4, none⟩) hb).trans h4, (k.cell (p := ⟨b, 5, none⟩) hb).trans h5, (k.cell (p := ⟨b, 6, none⟩) hb).trans h6⟩
theorem Bk7.keep {W w1 : World} {b : Nat} {v0 v1 v2 v3 v4 v5 v6 : Value} (h : Bk7 W b v0 v1 v2 v3 v4 v5 v6) (k : Below W.heap.size W w1) : Bk7 w1 b v0 v1 v2 v3 v4 v5 v6 :=
  Bk7.of k h.hb h.fz h.k0 h.k1 h.k2 h.k3 h.k4 h.k5 h.k6
/-- The world at hand under a name. -/
theorem wp_named {c : Code} {P : Program} {Q : Exit → Act → World → Prop} {a : Act} {W : World} (h : ∀ w1, w1 = W → c.wp P Q a w1) : c.wp P Q a W := h W rfl
/-- A region that draws its order, reads, and calls what makes memory: walked once, from a world behind w. -/
theorem wp_region_qb {P : Program} {id : Nat} {Q : Exit → Act → World → Prop} {a : Act} {w W : World} {l : List Oper} (hm : P.follows .mixedOrders = true) (hB : Region.lexB .any l.toArray = true) (hb : Below w.heap.size w W)
    (h : wpQuiet P l.toArray (fun w' => ∃ p : Regrown, w' = grow (redrawn w p.d) p.os) (fun a' => ∀ w', (∃ p : Regrown, w' = grow (redrawn w p.d) p.os) → Q .normal a' w') l a) : (Code.region id l.toArray true).wp P Q a W :=
  wp_region_quiet (C := fun w' => ∃ p : Regrown, w' = grow (redrawn w p.d) p.os) hm hB (regrown_of_below hb.drew) (by simpa using h)
end Go.Proofs.Ytjnhaabbnbcaeaa
