/- Joined: BkN, Sm13. -/
import Derived.Test.YtedbohfcbfegjaaGreatDoorBe01
import Derived.Test.YtedbohfcbfegjaaGreatDoorBe02
/- A block of 9 cells. -/
set_option linter.unusedVariables false
set_option linter.unusedSimpArgs false
namespace Go.Proofs.YtedbohfcbfegjaaGreatDoor
open Go.RowKit

/-- A block of 9 cells. -/
structure Bk9 (W : World) (b : Nat) (v0 v1 v2 v3 v4 v5 v6 v7 v8 : Value) : Prop where
  hb : b < W.heap.size
  fz : ∀ j, W.frozen? ⟨b, j, none⟩ = false
  k0 : W.cell? ⟨b, 0, none⟩ = some v0
  k1 : W.cell? ⟨b, 1, none⟩ = some v1
  k2 : W.cell? ⟨b, 2, none⟩ = some v2
  k3 : W.cell? ⟨b, 3, none⟩ = some v3
  k4 : W.cell? ⟨b, 4, none⟩ = some v4
  k5 : W.cell? ⟨b, 5, none⟩ = some v5
  k6 : W.cell? ⟨b, 6, none⟩ = some v6
  k7 : W.cell? ⟨b, 7, none⟩ = some v7
  k8 : W.cell? ⟨b, 8, none⟩ = some v8
theorem Bk9.of {W w1 : World} {b : Nat} {v0 v1 v2 v3 v4 v5 v6 v7 v8 : Value} (k : Below W.heap.size W w1) (hb : b < W.heap.size) (hf : ∀ j, W.frozen? ⟨b, j, none⟩ = false) (h0 : W.cell? ⟨b, 0, none⟩ = some v0) (h1 : W.cell? ⟨b, 1, none⟩ = some v1) (h2 : W.cell? ⟨b, 2, none⟩ = some v2) (h3 : W.cell? ⟨b, 3, none⟩ = some v3) (h4 : W.cell? ⟨b, 4, none⟩ = some v4) (h5 : W.cell? ⟨b, 5, none⟩ = some v5) (h6 : W.cell? ⟨b, 6, none⟩ = some v6) (h7 : W.cell? ⟨b, 7, none⟩ = some v7) (h8 : W.cell? ⟨b, 8, none⟩ = some v8) : Bk9 w1 b v0 v1 v2 v3 v4 v5 v6 v7 v8 :=
  ⟨Nat.lt_of_lt_of_le hb k.size, fun j => (k.frozen (p := ⟨b, j, none⟩) hb).trans (hf j), (k.cell (p := ⟨b, 0, none⟩) hb).trans h0, (k.cell (p := ⟨b, 1, none⟩) hb).trans h1, (k.cell (p := ⟨b, 2, none⟩) hb).trans h2, (k.cell (p := ⟨b, 3, none⟩) hb).trans h3, (k.cell (p := ⟨b, 4, none⟩) hb).trans h4, (k.cell (p := ⟨b, 5, none⟩) hb).trans h5, (k.cell (p := ⟨b, 6, none⟩) hb).trans h6, (k.cell (p := ⟨b, 7, none⟩) hb).trans h7, (k.cell (p := ⟨b, 8, none⟩) hb).trans h8⟩
theorem Bk9.keep {W w1 : World} {b : Nat} {v0 v1 v2 v3 v4 v5 v6 v7 v8 : Value} (h : Bk9 W b v0 v1 v2 v3 v4 v5 v6 v7 v8) (k : Below W.heap.size W w1) : Bk9 w1 b v0 v1 v2 v3 v4 v5 v6 v7 v8 :=
  Bk9.of k h.hb h.fz h.k0 h.k1 h.k2 h.k3 h.k4 h.k5 h.k6 h.k7 h.k8
theorem Bk9.set0 {W W9 : World} {b : Nat} {v z0 z1 z2 z3 z4 z5 z6 z7 z8 : Value} (h : Bk9 W b z0 z1 z2 z3 z4 z5 z6 z7 z8) (e : W9 = W.setCell ⟨b, 0, none⟩ v) : Bk9 W9 b v z1 z2 z3 z4 z5 z6 z7 z8 := by
  subst e
  have hb := h.hb; have hf := h.fz
  have h0 := h.k0; have h1 := h.k1; have h2 := h.k2; have h3 := h.k3; have h4 := h.k4; have h5 := h.k5; have h6 := h.k6; have h7 := h.k7; have h8 := h.k8
  clear h
  exact ⟨by simpa using hb, fun j => by simpa using hf j, by simp [go_sem, h0], by simp [go_sem, h1], by simp [go_sem, h2], by simp [go_sem, h3], by simp [go_sem, h4], by simp [go_sem, h5], by simp [go_sem, h6], by simp [go_sem, h7], by simp [go_sem, h8]⟩
theorem Bk9.set1 {W W9 : World} {b : Nat} {v z0 z1 z2 z3 z4 z5 z6 z7 z8 : Value} (h : Bk9 W b z0 z1 z2 z3 z4 z5 z6 z7 z8) (e : W9 = W.setCell ⟨b, 1, none⟩ v) : Bk9 W9 b z0 v z2 z3 z4 z5 z6 z7 z8 := by
  subst e
  have hb := h.hb; have hf := h.fz
  have h0 := h.k0; have h1 := h.k1; have h2 := h.k2; have h3 := h.k3; have h4 := h.k4; have h5 := h.k5; have h6 := h.k6; have h7 := h.k7; have h8 := h.k8
  clear h
  exact ⟨by simpa using hb, fun j => by simpa using hf j, by simp [go_sem, h0], by simp [go_sem, h1], by simp [go_sem, h2], by simp [go_sem, h3], by simp [go_sem, h4], by simp [go_sem, h5], by simp [go_sem, h6], by simp [go_sem, h7], by simp [go_sem, h8]⟩
theorem Bk9.set2 {W W9 : World} {b : Nat} {v z0 z1 z2 z3 z4 z5 z6 z7 z8 : Value} (h : Bk9 W b z0 z1 z2 z3 z4 z5 z6 z7 z8) (e : W9 = W.setCell ⟨b, 2, none⟩ v) : Bk9 W9 b z0 z1 v z3 z4 z5 z6 z7 z8 := by
  subst e
  have hb := h.hb; have hf := h.fz
  have h0 := h.k0; have h1 := h.k1; have h2 := h.k2; have h3 := h.k3; have h4 := h.k4; have h5 := h.k5; have h6 := h.k6; have h7 := h.k7; have h8 := h.k8
  clear h
  exact ⟨by simpa using hb, fun j => by simpa using hf j, by simp [go_sem, h0], by simp [go_sem, h1], by simp [go_sem, h2], by simp [go_sem, h3], by simp [go_sem, h4], by simp [go_sem, h5], by simp [go_sem, h6], by simp [go_sem, h7], by simp [go_sem, h8]⟩
theorem Bk9.set3 {W W9 : World} {b : Nat} {v z0 z1 z2 z3 z4 z5 z6 z7 z8 : Value} (h : Bk9 W b z0 z1 z2 z3 z4 z5 z6 z7 z8) (e : W9 = W.setCell ⟨b, 3, none⟩ v) : Bk9 W9 b z0 z1 z2 v z4 z5 z6 z7 z8 := by
  subst e
  have hb := h.hb; have hf := h.fz
  have h0 := h.k0; have h1 := h.k1; have h2 := h.k2; have h3 := h.k3; have h4 := h.k4; have h5 := h.k5; have h6 := h.k6; have h7 := h.k7; have h8 := h.k8
  clear h
  exact ⟨by simpa using hb, fun j => by simpa using hf j, by simp [go_sem, h0], by simp [go_sem, h1], by simp [go_sem, h2], by simp [go_sem, h3], by simp [go_sem, h4], by simp [go_sem, h5], by simp [go_sem, h6], by simp [go_sem, h7], by simp [go_sem, h8]⟩
theorem Bk9.set4 {W W9 : World} {b : Nat} {v z0 z1 z2 z3 z4 z5 z6 z7 z8 : Value} (h : Bk9 W b z0 z1 z2 z3 z4 z5 z6 z7 z8) (e : W9 = W.setCell ⟨b, 4, none⟩ v) : Bk9 W9 b z0 z1 z2 z3 v z5 z6 z7 z8 := by
  subst e
  have hb := h.hb; have hf := h.fz
  have h0 := h.k0; have h1 := h.k1; have h2 := h.k2; have h3 := h.k3; have h4 := h.k4; have h5 := h.k5; have h6 := h.k6; have h7 := h.k7; have h8 := h.k8
  clear h
  exact ⟨by simpa using hb, fun j => by simpa using hf j, by simp [go_sem, h0], by simp [go_sem, h1], by simp [go_sem, h2], by simp [go_sem, h3], by simp [go_sem, h4], by simp [go_sem, h5], by simp [go_sem, h6], by simp [go_sem, h7], by simp [go_sem, h8]⟩
theorem Bk9.set5 {W W9 : World} {b : Nat} {v z0 z1 z2 z3 z4 z5 z6 z7 z8 : Value} (h : Bk9 W b z0 z1 z2 z3 z4 z5 z6 z7 z8) (e : W9 = W.setCell ⟨b, 5, none⟩ v) : Bk9 W9 b z0 z1 z2 z3 z4 v z6 z7 z8 := by
  subst e
  have hb := h.hb; have hf := h.fz
  have h0 := h.k0; have h1 := h.k1; have h2 := h.k2; have h3 := h.k3; have h4 := h.k4; have h5 := h.k5; have h6 := h.k6; have h7 := h.k7; have h8 := h.k8
  clear h
  exact ⟨by simpa using hb, fun j => by simpa using hf j, by simp [go_sem, h0], by simp [go_sem, h1], by simp [go_sem, h2], by simp [go_sem, h3], by simp [go_sem, h4], by simp [go_sem, h5], by simp [go_sem, h6], by simp [go_sem, h7], by simp [go_sem, h8]⟩
theorem Bk9.set6 {W W9 : World} {b : Nat} {v z0 z1 z2 z3 z4 z5 z6 z7 z8 : Value} (h : Bk9 W b z0 z1 z2 z3 z4 z5 z6 z7 z8) (e : W9 = W.setCell ⟨b, 6, none⟩ v) : Bk9 W9 b z0 z1 z2 z3 z4 z5 v z7 z8 := by
  subst e
  have hb := h.hb; have hf := h.fz
  have h0 := h.k0; have h1 := h.k1; have h2 := h.k2; have h3 := h.k3; have h4 := h.k4; have h5 := h.k5; have h6 := h.k6; have h7 := h.k7; have h8 := h.k8
  clear h
  exact ⟨by simpa using hb, fun j => by simpa using hf j, by simp [go_sem, h0], by simp [go_sem, h1], by simp [go_sem, h2], by simp [go_sem, h3], by simp [go_sem, h4], by simp [go_sem, h5], by simp [go_sem, h6], by simp [go_sem, h7], by simp [go_sem, h8]⟩
theorem Bk9.set7 {W W9 : World} {b : Nat} {v z0 z1 z2 z3 z4 z5 z6 z7 z8 : Value} (h : Bk9 W b z0 z1 z2 z3 z4 z5 z6 z7 z8) (e : W9 = W.setCell ⟨b, 7, none⟩ v) : Bk9 W9 b z0 z1 z2 z3 z4 z5 z6 v z8 := by
  subst e
  have hb := h.hb; have hf := h.fz
  have h0 := h.k0; have h1 := h.k1; have h2 := h.k2; have h3 := h.k3; have h4 := h.k4; have h5 := h.k5; have h6 := h.k6; have h7 := h.k7; have h8 := h.k8
  clear h
  exact ⟨by simpa using hb, fun j => by simpa using hf j, by simp [go_sem, h0], by simp [go_sem, h1], by simp [go_sem, h2], by simp [go_sem, h3], by simp [go_sem, h4], by simp [go_sem, h5], by simp [go_sem, h6], by simp [go_sem, h7], by simp [go_sem, h8]⟩
theorem Bk9.set8 {W W9 : World} {b : Nat} {v z0 z1 z2 z3 z4 z5 z6 z7 z8 : Value} (h : Bk9 W b z0 z1 z2 z3 z4 z5 z6 z7 z8) (e : W9 = W.setCell ⟨b, 8, none⟩ v) : Bk9 W9 b z0 z1 z2 z3 z4 z5 z6 z7 v := by
  subst e
  have hb := h.hb; have hf := h.fz
  have h0 := h.k0; have h1 := h.k1; have h2 := h.k2; have h3 := h.k3; have h4 := h.k4; have h5 := h.k5; have h6 := h.k6; have h7 := h.k7; have h8 := h.k8
  clear h
  exact ⟨by simpa using hb, fun j => by simpa using hf j, by simp [go_sem, h0], by simp [go_sem, h1], by simp [go_sem, h2], by simp [go_sem, h3], by simp [go_sem, h4], by simp [go_sem, h5], by simp [go_sem, h6], by simp [go_sem, h7], by simp [go_sem, h8]⟩
theorem Bk9.other {W W9 : World} {b c i : Nat} {v z0 z1 z2 z3 z4 z5 z6 z7 z8 : Value} (h : Bk9 W b z0 z1 z2 z3 z4 z5 z6 z7 z8) (e : W9 = W.setCell ⟨c, i, none⟩ v) (hne : c ≠ b) : Bk9 W9 b z0 z1 z2 z3 z4 z5 z6 z7 z8 := by
  subst e
  have hb := h.hb; have hf := h.fz; have hne2 := Ne.symm hne
  have h0 := h.k0; have h1 := h.k1; have h2 := h.k2; have h3 := h.k3; have h4 := h.k4; have h5 := h.k5; have h6 := h.k6; have h7 := h.k7; have h8 := h.k8
  clear h
  exact ⟨by simpa using hb, fun j => by simpa using hf j, by simp [go_sem, h0, hne, hne2], by simp [go_sem, h1, hne, hne2], by simp [go_sem, h2, hne, hne2], by simp [go_sem, h3, hne, hne2], by simp [go_sem, h4, hne, hne2], by simp [go_sem, h5, hne, hne2], by simp [go_sem, h6, hne, hne2], by simp [go_sem, h7, hne, hne2], by simp [go_sem, h8, hne, hne2]⟩
theorem set9 {W W9 : World} {b : Nat} {z0 z1 z2 z3 z4 z5 z6 z7 z8 v0 v1 v2 v3 v4 v5 v6 v7 v8 : Value} (h : Bk9 W b z0 z1 z2 z3 z4 z5 z6 z7 z8) (e : W9 = (((((((((W.setCell ⟨b, 0, none⟩ v0).setCell ⟨b, 1, none⟩ v1).setCell ⟨b, 2, none⟩ v2).setCell ⟨b, 3, none⟩ v3).setCell ⟨b, 4, none⟩ v4).setCell ⟨b, 5, none⟩ v5).setCell ⟨b, 6, none⟩ v6).setCell ⟨b, 7, none⟩ v7).setCell ⟨b, 8, none⟩ v8)) : Bk9 W9 b v0 v1 v2 v3 v4 v5 v6 v7 v8 := by
  subst e
  have hb := h.hb; have hf := h.fz
  have h0 := h.k0; have h1 := h.k1; have h2 := h.k2; have h3 := h.k3; have h4 := h.k4; have h5 := h.k5; have h6 := h.k6; have h7 := h.k7; have h8 := h.k8
  clear h
  exact ⟨by simpa using hb, fun j => by simpa using hf j, by simp [go_sem, h0, h1, h2, h3, h4, h5, h6, h7, h8], by simp [go_sem, h0, h1, h2, h3, h4, h5, h6, h7, h8], by simp [go_sem, h0, h1, h2, h3, h4, h5, h6, h7, h8], by simp [go_sem, h0, h1, h2, h3, h4, h5, h6, h7, h8], by simp [go_sem, h0, h1, h2, h3, h4, h5, h6, h7, h8], by simp [go_sem, h0, h1, h2, h3, h4, h5, h6, h7, h8], by simp [go_sem, h0, h1, h2, h3, h4, h5, h6, h7, h8], by simp [go_sem, h0, h1, h2, h3, h4, h5, h6, h7, h8], by simp [go_sem, h0, h1, h2, h3, h4, h5, h6, h7, h8]⟩
theorem below_set9 {W W9 : World} {b n : Nat} {u : World} {v0 v1 v2 v3 v4 v5 v6 v7 v8 : Value} (h : Below n u W) (hb : n ≤ b) (e : W9 = (((((((((W.setCell ⟨b, 0, none⟩ v0).setCell ⟨b, 1, none⟩ v1).setCell ⟨b, 2, none⟩ v2).setCell ⟨b, 3, none⟩ v3).setCell ⟨b, 4, none⟩ v4).setCell ⟨b, 5, none⟩ v5).setCell ⟨b, 6, none⟩ v6).setCell ⟨b, 7, none⟩ v7).setCell ⟨b, 8, none⟩ v8)) : Below n u W9 := by
  subst e
  iterate 9 (refine Below.setCell ?_ (by simpa using hb) _)
  exact h
end Go.Proofs.YtedbohfcbfegjaaGreatDoor

/- noontideref13.Same of two lists that are one: true. -/
set_option linter.unusedVariables false
set_option linter.unusedSimpArgs false
namespace Go.Proofs.YtedbohfcbfegjaaGreatDoor
open Go.RowKit Go.Sort

set_option maxHeartbeats 2000000 in
theorem same13_yes (v v' : Value) (l : List ByteArray) (w : World) (hl : l.length ≤ 10000000) (S : StS w v l) (S' : StS w v' l) :
    Calls Tryz.prog 12 #[v, v'] w fun e w' => e = .returned (.bool true) ∧ Below w.heap.size w w' := by
  have T := S; have T' := S'
  obtain ⟨A, c, rfl, -⟩ := T; obtain ⟨A', c', rfl, -⟩ := T'
  have H := Lib.hid S; have H' := Lib.hid S'
  clear S S'
  obtain ⟨N, hN⟩ : ∃ N, N = l.length := ⟨_, rfl⟩
  have HN := Lib.hid hN
  rw [← hN]
  have hNb : N ≤ 10000000 := by omega
  have H : Hid (StS w (.slice A N c) l) := by rw [hN]; exact H
  have H' : Hid (StS w (.slice A' N c') l) := by rw [hN]; exact H'
  clear hN hl
  go_enter Tryz.func12, Tryz.ntmps12
  go_wp2_with fail
  go_loopw [13] (fun i wr => ∃ k : Nat, k ≤ N ∧ i = .int .i64 k ∧ Hid (Below w.heap.size w wr)) (fun i _ => N - (intOf i).toNat)
  case atStart => exact ⟨0, Nat.zero_le _, rfl, Below.refl _ _⟩
  case round =>
    obtain ⟨k, hk, rfl, hbw⟩ := hrel
    by_cases hlt : k < N
    · obtain ⟨a, rfl, g⟩ := (H.out.on hbw.out).get k (by have := HN.out; omega)
      obtain ⟨a', rfl, g'⟩ := (H'.out.on hbw.out).get k (by have := HN.out; omega)
      generalize l[k]'(by have := HN.out; omega) = x at g g'
      go_wp2_with fail
      go_quiet (fail)
      go_wp2_with fail
      go_roundw
      case rel => exact ⟨k + 1, by omega, by go_num, Lib.hid (hbw.out.trans (below_draw _ _))⟩
      case measure => simp [intOf]; omega
    · go_wp2_with fail
      go_ret
      exact ⟨rfl, hbw.out⟩
end Go.Proofs.YtedbohfcbfegjaaGreatDoor
