/- Joined: LpP, LpQ, LpS, Bk. -/
import Derived.Test.YtifgiclnofdnkaaGreatDoorBy02
import Derived.Test.YtifgiclnofdnkaaGreatDoorBy01
import Derived.Lib.QuietBelow
set_option linter.unusedVariables false
set_option linter.unusedSimpArgs false
namespace Go.Proofs.YtifgiclnofdnkaaGreatDoor
namespace Lp
abbrev X := Int × Int
def ok1 (x : X) : Prop := -1096193779200 ≤ x.1 ∧ x.1 ≤ 971890963199 ∧ (x.2 = 1 ∨ x.2 = -1)
instance (x : X) : Decidable (ok1 x) := by unfold ok1; infer_instance
def far : List X → Bool
 | x :: y :: r => decide (2419200 ≤ y.1 - x.1) && far (y :: r)
 | _ => true
def right (l : List X) : Bool := decide (l.length ≤ 1000) && l.all (fun x => decide (ok1 x)) && far l
def cnt : List X → Int
 | [] => 0
 | x :: r => x.2 + cnt r
def at_ (l : List X) (t : Int) : Int := cnt (l.filter (fun x => decide (x.1 ≤ t)))
def gone (l : List X) (t : Int) : Int := t + at_ l t
theorem far_tail {x : X} {r : List X} (h : far (x :: r) = true) : far r = true := by
 cases r with
 | nil => rfl
 | cons y r => unfold far at h; rw [Bool.and_eq_true] at h; exact h.2
theorem far_lt {x : X} : ∀ {r : List X}, far (x :: r) = true → ∀ y ∈ r, x.1 + 2419200 ≤ y.1 := by
 intro r
 induction r generalizing x with
 | nil => intro _ y hy; cases hy
 | cons z r ih =>
  intro h y hy
  have h2 := h
  unfold far at h2
  rw [Bool.and_eq_true, decide_eq_true_eq] at h2
  rcases List.mem_cons.1 hy with rfl | hy
  ·
   omega
  ·
   have := ih h2.2 y hy; omega
theorem at_cons_yes {x : X} {r : List X} {t : Int} (h : x.1 ≤ t) : at_ (x :: r) t = x.2 + at_ r t := by
 unfold at_
 rw [List.filter_cons, if_pos (by simpa using h)]
 rfl
theorem at_none {r : List X} {t : Int} (h : ∀ y ∈ r, t < y.1) : at_ r t = 0 := by
 unfold at_
 rw [List.filter_eq_nil_iff.2 (fun y hy => by have := h y hy; simp; omega)]
 rfl
theorem at_cons_no {x : X} {r : List X} {t : Int} (hf : far (x :: r) = true) (h : t < x.1) : at_ (x :: r) t = 0 :=
 at_none (fun y hy => by
  rcases List.mem_cons.1 hy with rfl | hy
  ·
   exact h
  ·
   have := far_lt hf y hy; omega)
theorem gone_mono : ∀ (l : List X), far l = true → (∀ x ∈ l, x.2 = 1 ∨ x.2 = -1) → ∀ t t', t ≤ t' → gone l t ≤ gone l t'
 | [], _, _, t, t', h => by show t + 0 ≤ t' + 0; omega
 | x :: r, hf, hs, t, t', h => by
  have ih := gone_mono r (far_tail hf) (fun y hy => hs y (List.mem_cons_of_mem _ hy))
  have hx := hs x (List.mem_cons_self ..)
  unfold gone at ih ⊢
  by_cases h1 : x.1 ≤ t
  ·
   rw [at_cons_yes h1, at_cons_yes (by omega)]
   have := ih t t' h; omega
  ·
   rw [at_cons_no hf (by omega)]
   by_cases h2 : x.1 ≤ t'
   ·
    rw [at_cons_yes h2]
    have h3 := ih x.1 t' h2
    rw [at_none (t := x.1) (fun y hy => by have := far_lt hf y hy; omega)] at h3
    omega
   ·
    rw [at_cons_no hf (by omega)]; omega
theorem at_take : ∀ (l : List X) (k : Nat) (t : Int), far l = true → (∀ j x, j < k → l[j]? = some x → x.1 ≤ t) → (∀ x, l[k]? = some x → t < x.1) → at_ l t = cnt (l.take k)
 | [], k, t, _, _, _ => by rw [List.take_nil]; rfl
 | x :: r, 0, t, hf, _, h => at_cons_no hf (h x rfl)
 | x :: r, k + 1, t, hf, h1, h2 => by
  rw [at_cons_yes (h1 0 x (by omega) rfl), at_take r k t (far_tail hf) (fun j y hj hy => h1 (j + 1) y (by omega) (by simpa using hy)) (fun y hy => h2 y (by simpa using hy))]
  rfl
theorem cnt_take_succ : ∀ (l : List X) (k : Nat) (x : X), l[k]? = some x → cnt (l.take (k + 1)) = cnt (l.take k) + x.2
 | [], k, x, h => by simp at h
 | y :: r, 0, x, h => by simp at h; subst h; show y.2 + cnt [] = cnt [] + y.2; show y.2 + 0 = 0 + y.2; omega
 | y :: r, k + 1, x, h => by
  have := cnt_take_succ r k x (by simpa using h)
  show y.2 + cnt (r.take (k + 1)) = y.2 + cnt (r.take k) + x.2
  omega
theorem far_at : ∀ (l : List X) (i j : Nat) (x y : X), far l = true → i < j → l[i]? = some x → l[j]? = some y → x.1 + 2419200 ≤ y.1
 | [], i, j, x, y, _, _, h, _ => by simp at h
 | z :: r, 0, j + 1, x, y, hf, _, h1, h2 => by
  simp at h1 h2
  subst h1
  exact far_lt hf y (List.mem_of_getElem? h2)
 | z :: r, i + 1, j + 1, x, y, hf, hij, h1, h2 => far_at r i j x y (far_tail hf) (by omega) (by simpa using h1) (by simpa using h2)
theorem utc_spec (l : List X) (n : Int) (k : Nat) (t : Int) (hf : far l = true) (hs : ∀ x ∈ l, ok1 x) (hk : k ≤ l.length)
  (h1 : ∀ j x, j < k → l[j]? = some x → x.1 + cnt (l.take (j + 1)) ≤ n) (h2 : ∀ x, l[k]? = some x → n < x.1 + cnt (l.take (k + 1)))
  (ht : t = min (n - cnt (l.take k)) (match l[k]? with | some x => x.1 - 1 | none => 971890963199)) :
  gone l t = t + cnt (l.take k) ∧ gone l t ≤ n ∧ t ≤ 971890963199 ∧ ∀ t', t < t' → t' ≤ 971890963199 → n < gone l t' := by
 have hstep : ∀ x ∈ l, x.2 = 1 ∨ x.2 = -1 := fun x hx => (hs x hx).2.2
 have hprev : ∀ j x, j < k → l[j]? = some x → x.1 ≤ t := by
  intro j x hj hx
  obtain ⟨k', rfl⟩ : ∃ k', k = k' + 1 := ⟨k - 1, by omega⟩
  have hlt : k' < l.length := by omega
  have hm := h1 k' l[k'] (by omega) (List.getElem?_eq_getElem hlt)
  have hb := (hs l[k'] (List.getElem_mem hlt)).2.1
  have hx2 : x.1 ≤ l[k'].1 := by
   by_cases e : j = k'
   ·
    subst e; rw [List.getElem?_eq_getElem hlt] at hx; cases hx; omega
   ·
    have := far_at l j k' x l[k'] hf (by omega) hx (List.getElem?_eq_getElem hlt); omega
  rw [ht]
  cases hq : l[k' + 1]? with
  | none => simp only []; omega
  | some z =>
   have := far_at l k' (k' + 1) l[k'] z hf (by omega) (List.getElem?_eq_getElem hlt) hq
   simp only []; omega
 have hnext : ∀ x, l[k]? = some x → t < x.1 := by
  intro x hx
  rw [ht, hx]
  simp only []; omega
 have hg : gone l t = t + cnt (l.take k) := by unfold gone; rw [at_take l k t hf hprev hnext]
 have htop : t ≤ 971890963199 := by
  rw [ht]
  cases hq : l[k]? with
  | none => simp only []; omega
  | some z => have := (hs z (List.mem_of_getElem? hq)).2.1; simp only []; omega
 have hle : t ≤ n - cnt (l.take k) := by rw [ht]; omega
 refine ⟨hg, by omega, htop, fun t' h3 h4 => ?_⟩
 refine Int.lt_of_lt_of_le ?_ (gone_mono l hf hstep (t + 1) t' (by omega))
 by_cases hc : ∃ x, l[k]? = some x ∧ t + 1 = x.1
 ·
  obtain ⟨x, hx, e⟩ := hc
  have hlt : k < l.length := (List.getElem?_eq_some_iff.1 hx).1
  have : at_ l (t + 1) = cnt (l.take (k + 1)) := at_take l (k + 1) (t + 1) hf (fun j y hj hy => by
   by_cases ej : j = k
   ·
    subst ej; rw [hx] at hy; cases hy; omega
   ·
    have := hprev j y (by omega) hy; omega) (fun y hy => by have := far_at l k (k + 1) x y hf (by omega) hx hy; omega)
  unfold gone
  rw [this]
  have := h2 x hx
  omega
 ·
  have hn2 : ∀ x, l[k]? = some x → t + 1 < x.1 := fun x hx => by
   have := hnext x hx
   by_cases e : t + 1 = x.1
   ·
    exact absurd ⟨x, hx, e⟩ hc
   ·
    omega
  have : at_ l (t + 1) = cnt (l.take k) := at_take l k (t + 1) hf (fun j y hj hy => by have := hprev j y hj hy; omega) hn2
  unfold gone
  rw [this]
  have e : t = n - cnt (l.take k) := by
   cases hq : l[k]? with
   | none => rw [hq] at ht; simp only [] at ht; omega
   | some z => have := hn2 z hq; rw [hq] at ht; simp only [] at ht; omega
  omega
end Lp
namespace Lp
def left (l : List X) (t : Int) : Bool := l.any (fun x => decide (x.2 = -1 ∧ x.1 = t + 1))
end Lp
namespace Lp
structure IsU (l : List X) (n u : Int) : Prop where
 le : gone l u ≤ n
 top : u ≤ 971890963199
 next : ∀ t', u < t' → t' ≤ 971890963199 → n < gone l t'
theorem IsU.one {l : List X} {n u v : Int} (a : IsU l n u) (b : IsU l n v) : u = v := by
 rcases Int.lt_trichotomy u v with h | h | h
 ·
  have := a.next v h b.top; have := b.le; omega
 ·
  exact h
 ·
  have := b.next u h a.top; have := a.le; omega
theorem cnt_bd : ∀ (l : List X), (∀ x ∈ l, x.2 = 1 ∨ x.2 = -1) → -(l.length : Int) ≤ cnt l ∧ cnt l ≤ l.length
 | [], _ => ⟨by show -(0 : Int) ≤ 0; omega, by show (0 : Int) ≤ 0; omega⟩
 | x :: r, h => by
  have a := cnt_bd r (fun y hy => h y (List.mem_cons_of_mem _ hy))
  have b := h x (List.mem_cons_self ..)
  show -((r.length + 1 : Nat) : Int) ≤ x.2 + cnt r ∧ x.2 + cnt r ≤ ((r.length + 1 : Nat) : Int)
  omega
theorem at_bd (l : List X) (t : Int) (h : ∀ x ∈ l, x.2 = 1 ∨ x.2 = -1) (hl : l.length ≤ 1000) : -1000 ≤ at_ l t ∧ at_ l t ≤ 1000 := by
 have a := cnt_bd (l.filter (fun x => decide (x.1 ≤ t))) (fun x hx => h x (List.mem_filter.1 hx).1)
 have b := List.length_filter_le (fun x : X => decide (x.1 ≤ t)) l
 unfold at_
 omega
theorem down {l : List X} {n t : Int} (hf : far l = true) (hs : ∀ x ∈ l, x.2 = 1 ∨ x.2 = -1) (hl : l.length ≤ 1000) (h1 : gone l t ≤ n) (h2 : t ≤ min (n + 1001) 971890963199)
  (h3 : ∀ t', t < t' → t' ≤ min (n + 1001) 971890963199 → n < gone l t') : IsU l n t :=
 ⟨h1, by omega, fun t' h4 h5 => by
  by_cases h6 : t' ≤ n + 1001
  ·
   exact h3 t' h4 (by omega)
  ·
   have := (at_bd l t' hs hl).1
   unfold gone
   omega⟩
theorem isU_of {l : List X} {n : Int} {k : Nat} {t : Int} (hf : far l = true) (hs : ∀ x ∈ l, ok1 x) (hk : k ≤ l.length)
  (h1 : ∀ j x, j < k → l[j]? = some x → x.1 + cnt (l.take (j + 1)) ≤ n) (h2 : ∀ x, l[k]? = some x → n < x.1 + cnt (l.take (k + 1)))
  (ht : t = min (n - cnt (l.take k)) (match l[k]? with | some x => x.1 - 1 | none => 971890963199)) : IsU l n t ∧ gone l t = t + cnt (l.take k) := by
 obtain ⟨a, b, c, d⟩ := utc_spec l n k t hf hs hk h1 h2 ht
 exact ⟨⟨b, c, d⟩, a⟩
theorem halves {l : List X} {n : Int} (hf : far l = true) (hs : ∀ x ∈ l, x.2 = 1 ∨ x.2 = -1) {i j : Nat} {x y : X} (hij : i < j) (hx : l[i]? = some x) (hy : l[j]? = some y) (h : n < x.1 + cnt (l.take (i + 1))) : n < y.1 + cnt (l.take (j + 1)) := by
 have e1 : gone l x.1 = x.1 + cnt (l.take (i + 1)) := by
  unfold gone
  rw [at_take l (i + 1) x.1 hf (fun k z hk hz => by
   by_cases e : k = i
   ·
    subst e; rw [hx] at hz; cases hz; omega
   ·
    have := far_at l k i z x hf (by omega) hz hx; omega) (fun z hz => by have := far_at l i (i + 1) x z hf (by omega) hx hz; omega)]
 have e2 : gone l y.1 = y.1 + cnt (l.take (j + 1)) := by
  unfold gone
  rw [at_take l (j + 1) y.1 hf (fun k z hk hz => by
   by_cases e : k = j
   ·
    subst e; rw [hy] at hz; cases hz; omega
   ·
    have := far_at l k j z y hf (by omega) hz hy; omega) (fun z hz => by have := far_at l j (j + 1) y z hf (by omega) hy hz; omega)]
 have := far_at l i j x y hf hij hx hy
 have := gone_mono l hf hs x.1 y.1 (by omega)
 omega
end Lp
end Go.Proofs.YtifgiclnofdnkaaGreatDoor
set_option linter.unusedVariables false
set_option linter.unusedSimpArgs false
namespace Go.Proofs.YtifgiclnofdnkaaGreatDoor
open Go.RowKit Go.Sort
structure Bk1 (W : World) (b : Nat) (v0 : Value) : Prop where
 hb : b < W.heap.size
 fz : ∀ j, W.frozen? ⟨b, j, none⟩ = false
 k0 : W.cell? ⟨b, 0, none⟩ = some v0
theorem Bk1.of {W w1 : World} {b : Nat} {v0 : Value} (k : Below W.heap.size W w1) (hb : b < W.heap.size) (hf : ∀ j, W.frozen? ⟨b, j, none⟩ = false) (h0 : W.cell? ⟨b, 0, none⟩ = some v0) : Bk1 w1 b v0 :=
 ⟨Nat.lt_of_lt_of_le hb k.size, fun j => (k.frozen (p := ⟨b, j, none⟩) hb).trans (hf j), (k.cell (p := ⟨b, 0, none⟩) hb).trans h0⟩
theorem Bk1.keep {W w1 : World} {b : Nat} {v0 : Value} (h : Bk1 W b v0) (k : Below W.heap.size W w1) : Bk1 w1 b v0 :=
 Bk1.of k h.hb h.fz h.k0
structure Bk2 (W : World) (b : Nat) (v0 v1 : Value) : Prop where
 hb : b < W.heap.size
 fz : ∀ j, W.frozen? ⟨b, j, none⟩ = false
 k0 : W.cell? ⟨b, 0, none⟩ = some v0
 k1 : W.cell? ⟨b, 1, none⟩ = some v1
theorem Bk2.of {W w1 : World} {b : Nat} {v0 v1 : Value} (k : Below W.heap.size W w1) (hb : b < W.heap.size) (hf : ∀ j, W.frozen? ⟨b, j, none⟩ = false) (h0 : W.cell? ⟨b, 0, none⟩ = some v0) (h1 : W.cell? ⟨b, 1, none⟩ = some v1) : Bk2 w1 b v0 v1 :=
 ⟨Nat.lt_of_lt_of_le hb k.size, fun j => (k.frozen (p := ⟨b, j, none⟩) hb).trans (hf j), (k.cell (p := ⟨b, 0, none⟩) hb).trans h0, (k.cell (p := ⟨b, 1, none⟩) hb).trans h1⟩
theorem Bk2.keep {W w1 : World} {b : Nat} {v0 v1 : Value} (h : Bk2 W b v0 v1) (k : Below W.heap.size W w1) : Bk2 w1 b v0 v1 :=
 Bk2.of k h.hb h.fz h.k0 h.k1
structure Bk3 (W : World) (b : Nat) (v0 v1 v2 : Value) : Prop where
 hb : b < W.heap.size
 fz : ∀ j, W.frozen? ⟨b, j, none⟩ = false
 k0 : W.cell? ⟨b, 0, none⟩ = some v0
 k1 : W.cell? ⟨b, 1, none⟩ = some v1
 k2 : W.cell? ⟨b, 2, none⟩ = some v2
theorem Bk3.of {W w1 : World} {b : Nat} {v0 v1 v2 : Value} (k : Below W.heap.size W w1) (hb : b < W.heap.size) (hf : ∀ j, W.frozen? ⟨b, j, none⟩ = false) (h0 : W.cell? ⟨b, 0, none⟩ = some v0) (h1 : W.cell? ⟨b, 1, none⟩ = some v1) (h2 : W.cell? ⟨b, 2, none⟩ = some v2) : Bk3 w1 b v0 v1 v2 :=
 ⟨Nat.lt_of_lt_of_le hb k.size, fun j => (k.frozen (p := ⟨b, j, none⟩) hb).trans (hf j), (k.cell (p := ⟨b, 0, none⟩) hb).trans h0, (k.cell (p := ⟨b, 1, none⟩) hb).trans h1, (k.cell (p := ⟨b, 2, none⟩) hb).trans h2⟩
theorem Bk3.keep {W w1 : World} {b : Nat} {v0 v1 v2 : Value} (h : Bk3 W b v0 v1 v2) (k : Below W.heap.size W w1) : Bk3 w1 b v0 v1 v2 :=
 Bk3.of k h.hb h.fz h.k0 h.k1 h.k2
structure Bk4 (W : World) (b : Nat) (v0 v1 v2 v3 : Value) : Prop where
 hb : b < W.heap.size
 fz : ∀ j, W.frozen? ⟨b, j, none⟩ = false
 k0 : W.cell? ⟨b, 0, none⟩ = some v0
 k1 : W.cell? ⟨b, 1, none⟩ = some v1
 k2 : W.cell? ⟨b, 2, none⟩ = some v2
 k3 : W.cell? ⟨b, 3, none⟩ = some v3
theorem Bk4.of {W w1 : World} {b : Nat} {v0 v1 v2 v3 : Value} (k : Below W.heap.size W w1) (hb : b < W.heap.size) (hf : ∀ j, W.frozen? ⟨b, j, none⟩ = false) (h0 : W.cell? ⟨b, 0, none⟩ = some v0) (h1 : W.cell? ⟨b, 1, none⟩ = some v1) (h2 : W.cell? ⟨b, 2, none⟩ = some v2) (h3 : W.cell? ⟨b, 3, none⟩ = some v3) : Bk4 w1 b v0 v1 v2 v3 :=
 ⟨Nat.lt_of_lt_of_le hb k.size, fun j => (k.frozen (p := ⟨b, j, none⟩) hb).trans (hf j), (k.cell (p := ⟨b, 0, none⟩) hb).trans h0, (k.cell (p := ⟨b, 1, none⟩) hb).trans h1, (k.cell (p := ⟨b, 2, none⟩) hb).trans h2, (k.cell (p := ⟨b, 3, none⟩) hb).trans h3⟩
theorem Bk4.keep {W w1 : World} {b : Nat} {v0 v1 v2 v3 : Value} (h : Bk4 W b v0 v1 v2 v3) (k : Below W.heap.size W w1) : Bk4 w1 b v0 v1 v2 v3 :=
 Bk4.of k h.hb h.fz h.k0 h.k1 h.k2 h.k3
structure Bk5 (W : World) (b : Nat) (v0 v1 v2 v3 v4 : Value) : Prop where
 hb : b < W.heap.size
 fz : ∀ j, W.frozen? ⟨b, j, none⟩ = false
 k0 : W.cell? ⟨b, 0, none⟩ = some v0
 k1 : W.cell? ⟨b, 1, none⟩ = some v1
 k2 : W.cell? ⟨b, 2, none⟩ = some v2
 k3 : W.cell? ⟨b, 3, none⟩ = some v3
 k4 : W.cell? ⟨b, 4, none⟩ = some v4
theorem Bk5.of {W w1 : World} {b : Nat} {v0 v1 v2 v3 v4 : Value} (k : Below W.heap.size W w1) (hb : b < W.heap.size) (hf : ∀ j, W.frozen? ⟨b, j, none⟩ = false) (h0 : W.cell? ⟨b, 0, none⟩ = some v0) (h1 : W.cell? ⟨b, 1, none⟩ = some v1) (h2 : W.cell? ⟨b, 2, none⟩ = some v2) (h3 : W.cell? ⟨b, 3, none⟩ = some v3) (h4 : W.cell? ⟨b, 4, none⟩ = some v4) : Bk5 w1 b v0 v1 v2 v3 v4 :=
 ⟨Nat.lt_of_lt_of_le hb k.size, fun j => (k.frozen (p := ⟨b, j, none⟩) hb).trans (hf j), (k.cell (p := ⟨b, 0, none⟩) hb).trans h0, (k.cell (p := ⟨b, 1, none⟩) hb).trans h1, (k.cell (p := ⟨b, 2, none⟩) hb).trans h2, (k.cell (p := ⟨b, 3, none⟩) hb).trans h3, (k.cell (p := ⟨b, 4, none⟩) hb).trans h4⟩
theorem Bk5.keep {W w1 : World} {b : Nat} {v0 v1 v2 v3 v4 : Value} (h : Bk5 W b v0 v1 v2 v3 v4) (k : Below W.heap.size W w1) : Bk5 w1 b v0 v1 v2 v3 v4 :=
 Bk5.of k h.hb h.fz h.k0 h.k1 h.k2 h.k3 h.k4
structure Bk6 (W : World) (b : Nat) (v0 v1 v2 v3 v4 v5 : Value) : Prop where
 hb : b < W.heap.size
 fz : ∀ j, W.frozen? ⟨b, j, none⟩ = false
 k0 : W.cell? ⟨b, 0, none⟩ = some v0
 k1 : W.cell? ⟨b, 1, none⟩ = some v1
 k2 : W.cell? ⟨b, 2, none⟩ = some v2
 k3 : W.cell? ⟨b, 3, none⟩ = some v3
 k4 : W.cell? ⟨b, 4, none⟩ = some v4
 k5 : W.cell? ⟨b, 5, none⟩ = some v5
theorem Bk6.of {W w1 : World} {b : Nat} {v0 v1 v2 v3 v4 v5 : Value} (k : Below W.heap.size W w1) (hb : b < W.heap.size) (hf : ∀ j, W.frozen? ⟨b, j, none⟩ = false) (h0 : W.cell? ⟨b, 0, none⟩ = some v0) (h1 : W.cell? ⟨b, 1, none⟩ = some v1) (h2 : W.cell? ⟨b, 2, none⟩ = some v2) (h3 : W.cell? ⟨b, 3, none⟩ = some v3) (h4 : W.cell? ⟨b, 4, none⟩ = some v4) (h5 : W.cell? ⟨b, 5, none⟩ = some v5) : Bk6 w1 b v0 v1 v2 v3 v4 v5 :=
 ⟨Nat.lt_of_lt_of_le hb k.size, fun j => (k.frozen (p := ⟨b, j, none⟩) hb).trans (hf j), (k.cell (p := ⟨b, 0, none⟩) hb).trans h0, (k.cell (p := ⟨b, 1, none⟩) hb).trans h1, (k.cell (p := ⟨b, 2, none⟩) hb).trans h2, (k.cell (p := ⟨b, 3, none⟩) hb).trans h3, (k.cell (p := ⟨b, 4, none⟩) hb).trans h4, (k.cell (p := ⟨b, 5, none⟩) hb).trans h5⟩
theorem Bk6.keep {W w1 : World} {b : Nat} {v0 v1 v2 v3 v4 v5 : Value} (h : Bk6 W b v0 v1 v2 v3 v4 v5) (k : Below W.heap.size W w1) : Bk6 w1 b v0 v1 v2 v3 v4 v5 :=
 Bk6.of k h.hb h.fz h.k0 h.k1 h.k2 h.k3 h.k4 h.k5
structure Bk7 (W : World) (b : Nat) (v0 v1 v2 v3 v4 v5 v6 : Value) : Prop where
 hb : b < W.heap.size
 fz : ∀ j, W.frozen? ⟨b, j, none⟩ = false
 k0 : W.cell? ⟨b, 0, none⟩ = some v0
 k1 : W.cell? ⟨b, 1, none⟩ = some v1
 k2 : W.cell? ⟨b, 2, none⟩ = some v2
 k3 : W.cell? ⟨b, 3, none⟩ = some v3
 k4 : W.cell? ⟨b, 4, none⟩ = some v4
 k5 : W.cell? ⟨b, 5, none⟩ = some v5
 k6 : W.cell? ⟨b, 6, none⟩ = some v6
theorem Bk7.of {W w1 : World} {b : Nat} {v0 v1 v2 v3 v4 v5 v6 : Value} (k : Below W.heap.size W w1) (hb : b < W.heap.size) (hf : ∀ j, W.frozen? ⟨b, j, none⟩ = false) (h0 : W.cell? ⟨b, 0, none⟩ = some v0) (h1 : W.cell? ⟨b, 1, none⟩ = some v1) (h2 : W.cell? ⟨b, 2, none⟩ = some v2) (h3 : W.cell? ⟨b, 3, none⟩ = some v3) (h4 : W.cell? ⟨b, 4, none⟩ = some v4) (h5 : W.cell? ⟨b, 5, none⟩ = some v5) (h6 : W.cell? ⟨b, 6, none⟩ = some v6) : Bk7 w1 b v0 v1 v2 v3 v4 v5 v6 :=
 ⟨Nat.lt_of_lt_of_le hb k.size, fun j => (k.frozen (p := ⟨b, j, none⟩) hb).trans (hf j), (k.cell (p := ⟨b, 0, none⟩) hb).trans h0, (k.cell (p := ⟨b, 1, none⟩) hb).trans h1, (k.cell (p := ⟨b, 2, none⟩) hb).trans h2, (k.cell (p := ⟨b, 3, none⟩) hb).trans h3, (k.cell (p := ⟨b, 4, none⟩) hb).trans h4, (k.cell (p := ⟨b, 5, none⟩) hb).trans h5, (k.cell (p := ⟨b, 6, none⟩) hb).trans h6⟩
theorem Bk7.keep {W w1 : World} {b : Nat} {v0 v1 v2 v3 v4 v5 v6 : Value} (h : Bk7 W b v0 v1 v2 v3 v4 v5 v6) (k : Below W.heap.size W w1) : Bk7 w1 b v0 v1 v2 v3 v4 v5 v6 :=
 Bk7.of k h.hb h.fz h.k0 h.k1 h.k2 h.k3 h.k4 h.k5 h.k6
theorem wp_named {c : Code} {P : Program} {Q : Exit → Act → World → Prop} {a : Act} {W : World} (h : ∀ w1, w1 = W → c.wp P Q a w1) : c.wp P Q a W := h W rfl
theorem wp_region_qb {P : Program} {id : Nat} {Q : Exit → Act → World → Prop} {a : Act} {w W : World} {l : List Oper} (hm : P.follows .mixedOrders = true) (hB : Region.lexB .any l.toArray = true) (hb : Below w.heap.size w W)
  (h : wpQuiet P l.toArray (fun w' => ∃ p : Regrown, w' = grow (redrawn w p.d) p.os) (fun a' => ∀ w', (∃ p : Regrown, w' = grow (redrawn w p.d) p.os) → Q .normal a' w') l a) : (Code.region id l.toArray true).wp P Q a W :=
 wp_region_quiet (C := fun w' => ∃ p : Regrown, w' = grow (redrawn w p.d) p.os) hm hB (regrown_of_below hb.drew) (by simpa using h)
end Go.Proofs.YtifgiclnofdnkaaGreatDoor
