/- A block of eleven cells. -/
import Derived.Test.YtjnhaabbnbcaeaaBk
set_option linter.unusedVariables false
set_option linter.unusedSimpArgs false
namespace Go.Proofs.Ytjnhaabbnbcaeaa
open Go.RowKit

/-- A block of 11 cells. -/
structure Bk11 (W : World) (b : Nat) (v0 v1 v2 v3 v4 v5 v6 v7 v8 v9 v10 : Value) : Prop where
  hb : b < W.heap.size
  fz : ∀ j, W.frozen? ⟨b, j, none⟩ = false
  k0 : W.cell? ⟨b, 0, none⟩ = some v0
  k1 : W.cell? ⟨b, 1, none⟩ = some v1
  k2 : W.cell? ⟨b, 2, none⟩ = some v2
  k3 : W.cell? ⟨b, 3, none⟩ = some v3
  k4 : W.cell? ⟨b, 4, none⟩ = some v4
  k5 : W.cell? ⟨b, 5, none⟩ = some v5
  k6 : W.cell? ⟨b, 6, none⟩ = some v6
  k7 : W.cell? ⟨b, 7, none⟩ = some v7
  k8 : W.cell? ⟨b, 8, none⟩ = some v8
  k9 : W.cell? ⟨b, 9, none⟩ = some v9
  k10 : W.cell? ⟨b, 10, none⟩ = some v10
theorem Bk11.of {W w1 : World} {b : Nat} {v0 v1 v2 v3 v4 v5 v6 v7 v8 v9 v10 : Value} (k : Below W.heap.size W w1) (hb : b < W.heap.size) (hf : ∀ j, W.frozen? ⟨b, j, none⟩ = false) (h0 : W.cell? ⟨b, 0, none⟩ = some v0) (h1 : W.cell? ⟨b, 1, none⟩ = some v1) (h2 : W.cell? ⟨b, 2, none⟩ = some v2) (h3 : W.cell? ⟨b, 3, none⟩ = some v3) (h4 : W.cell? ⟨b, 4, none⟩ = some v4) (h5 : W.cell? ⟨b, 5, none⟩ = some v5) (h6 : W.cell? ⟨b, 6, none⟩ = some v6) (h7 : W.cell? ⟨b, 7, none⟩ = some v7) (h8 : W.cell? ⟨b, 8, none⟩ = some v8) (h9 : W.cell? ⟨b, 9, none⟩ = some v9) (h10 : W.cell? ⟨b, 10, none⟩ = some v10) : Bk11 w1 b v0 v1 v2 v3 v4 v5 v6 v7 v8 v9 v10 :=
  ⟨Nat.lt_of_lt_of_le hb k.size, fun j => (k.frozen (p := ⟨b, j, none⟩) hb).trans (hf j), (k.cell (p := ⟨b, 0, none⟩) hb).trans h0, (k.cell (p := ⟨b, 1, none⟩) hb).trans h1, (k.cell (p := ⟨b, 2, none⟩) hb).trans h2, (k.cell (p := ⟨b, 3, none⟩) hb).trans h3, (k.cell (p := ⟨b, 4, none⟩) hb).trans h4, (k.cell (p := ⟨b, 5, none⟩) hb).trans h5, (k.cell (p := ⟨b, 6, none⟩) hb).trans h6, (k.cell (p := ⟨b, 7, none⟩) hb).trans h7, (k.cell (p := ⟨b, 8, none⟩) hb).trans h8, (k.cell (p := ⟨b, 9, none⟩) hb).trans h9, (k.cell (p := ⟨b, 10, none⟩) hb).trans h10⟩
theorem Bk11.keep {W w1 : World} {b : Nat} {v0 v1 v2 v3 v4 v5 v6 v7 v8 v9 v10 : Value} (h : Bk11 W b v0 v1 v2 v3 v4 v5 v6 v7 v8 v9 v10) (k : Below W.heap.size W w1) : Bk11 w1 b v0 v1 v2 v3 v4 v5 v6 v7 v8 v9 v10 :=
  Bk11.of k h.hb h.fz h.k0 h.k1 h.k2 h.k3 h.k4 h.k5 h.k6 h.k7 h.k8 h.k9 h.k10
end Go.Proofs.Ytjnhaabbnbcaeaa
