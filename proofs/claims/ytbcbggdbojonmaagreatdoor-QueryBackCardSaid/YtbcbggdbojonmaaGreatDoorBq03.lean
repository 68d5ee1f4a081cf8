/- Joined: RdM, RnM, AnP, FdC0, Bk. -/
import Derived.Test.YtbcbggdbojonmaaGreatDoorBq02
import Derived.Test.YtbcbggdbojonmaaGreatDoorBq01
import Derived.Lib.QuietBelow
set_option linter.unusedVariables false
set_option linter.unusedSimpArgs false
namespace Go.Proofs.YtbcbggdbojonmaaGreatDoor
open Go Go.Lib
namespace Num
theorem val_zeros (l : List UInt8) : ∀ k, val 0 (List.replicate k 48 ++ l) = val 0 l := by
 intro k
 induction k with
 | zero => rfl
 | succ k ih =>
  rw [List.replicate_succ, List.cons_append, val_cons, show stp 0 48 = 0 by rw [stp_eq]; rfl]
  exact ih
theorem dec_len : ∀ (j u : Nat), u < 10 ^ (j + 1) → (decDigits u).length ≤ j + 1 := by
 intro j
 induction j with
 | zero => intro u h; rw [dec_small (by simpa using h)]; simp
 | succ j ih =>
  intro u h
  by_cases h10 : u < 10
  ·
   rw [dec_small h10]; simp
  ·
   rw [dec_step h10, List.length_append]
   have := ih (u / 10) (by rw [Nat.pow_succ] at h; omega)
   simp; omega
theorem val_lt : ∀ (l : List UInt8) (a : Nat), l.all dig = true → val a l < (a + 1) * 10 ^ l.length := by
 intro l
 induction l with
 | nil => intro a _; rw [val_nil]; simp
 | cons c r ih =>
  intro a h
  simp only [List.all_cons, Bool.and_eq_true] at h
  have hc : 48 ≤ c.toNat ∧ c.toNat ≤ 57 := by have := h.1; unfold dig at this; exact of_decide_eq_true this
  have := ih (stp a c) h.2
  rw [val_cons, List.length_cons, Nat.pow_succ]
  have h1 : stp a c + 1 ≤ (a + 1) * 10 := by rw [stp_eq]; omega
  have h2 := Nat.mul_le_mul_right (10 ^ r.length) h1
  calc val (stp a c) r < (stp a c + 1) * 10 ^ r.length := this
   _ ≤ (a + 1) * 10 * 10 ^ r.length := h2
   _ = (a + 1) * (10 ^ r.length * 10) := by rw [Nat.mul_assoc, Nat.mul_comm 10]
theorem val_bd {l : List UInt8} {k : Nat} (hd : l.all dig = true) (hl : l.length ≤ k) : val 0 l < 10 ^ k := by
 have := val_lt l 0 hd
 have h2 := Nat.pow_le_pow_right (n := 10) (by omega) hl
 omega
theorem itoa_nat (n : Int) (h : 0 ≤ n) : itoa n = decDigits n.toNat := by unfold itoa; rw [if_neg (by omega)]
end Num
namespace Tx
theorem dg_dig (k : Nat) (n : Int) (h : 0 ≤ n) : (dg k n).all Num.dig = true := by
 unfold dg
 rw [Num.itoa_nat n h, List.all_append, (Num.dec_all n.toNat n.toNat (Nat.le_refl _)).1, Bool.and_true]
 rw [List.all_eq_true]
 intro x hx
 rw [List.eq_of_mem_replicate hx]; decide
theorem dg_val (k : Nat) (n : Int) (h : 0 ≤ n) : (Num.val 0 (dg k n) : Int) = n := by
 unfold dg
 rw [Num.val_zeros, Num.itoa_nat n h, (Num.dec_all n.toNat n.toNat (Nat.le_refl _)).2.2.1]
 omega
theorem dg_ge (k : Nat) (n : Int) : k ≤ (dg k n).length := by unfold dg; simp; omega
theorem dg_le (k j : Nat) (n : Int) (h0 : 0 ≤ n) (h : n.toNat < 10 ^ (j + 1)) (hk : k ≤ j + 1) : (dg k n).length ≤ j + 1 := by
 have := Num.dec_len j n.toNat h
 unfold dg
 rw [Num.itoa_nat n h0]; simp; omega
theorem dg_head (k : Nat) (n : Int) (h : 0 ≤ n) (hk : 1 ≤ k) (hl : k < (dg k n).length) : (dg k n).head? ≠ some 48 := by
 unfold dg at hl ⊢
 rw [Num.itoa_nat n h] at hl ⊢
 have hl2 : k < (decDigits n.toNat).length := by simp at hl; omega
 rw [show k - (decDigits n.toNat).length = 0 by omega, List.replicate_zero, List.nil_append]
 by_cases h10 : n.toNat < 10
 ·
  rw [Num.dec_small h10] at hl2; simp at hl2; omega
 ·
  obtain ⟨c, r, e, hc⟩ := (Num.dec_all n.toNat n.toNat (Nat.le_refl _)).2.2.2 (by omega)
  rw [e]
  simp only [List.head?_cons, ne_eq, Option.some.injEq]
  rintro rfl
  exact absurd hc (by decide)
end Tx
namespace Rd
def isY (l : List UInt8) : Bool :=
 !(decide ((trimPrefix l [45]).length < 4)) && (!(decide (4 < (trimPrefix l [45]).length) && ((trimPrefix l [45]).head? == some 48)) && ((trimPrefix l [45]).all Num.dig && !(hasPrefix l [45] && ((trimPrefix l [45]) == [48, 48, 48, 48]))))
def yv (l : List UInt8) : Int := if hasPrefix l [45] then -(Num.val 0 (trimPrefix l [45]) : Int) else (Num.val 0 (trimPrefix l [45]) : Int)
def yl (l : List UInt8) : Bool := decide ((trimPrefix l [45]).length ≤ 5)
def sg : List UInt8 := [45, 45, 84, 58, 58]
def pOk (l : List UInt8) (k : Nat) : Bool := decide (l.getD (3 * k) 0 = sg.getD k 0) && (((l.drop (3 * k + 1)).take 2).all Num.dig)
def pV (l : List UInt8) (k : Nat) : Int := (Num.val 0 ((l.drop (3 * k + 1)).take 2) : Int)
def bOk (l : List UInt8) : Bool := pOk l 0 && (pOk l 1 && (pOk l 2 && (pOk l 3 && pOk l 4)))
def hd (t : List UInt8) : List UInt8 := t.take (t.length - 15)
def tl (t : List UInt8) : List UInt8 := t.drop (t.length - 15)
def form (t : List UInt8) : Bool := decide (15 ≤ t.length) && (isY (hd t) && bOk (tl t))
theorem isY_iff {l : List UInt8} : isY l = true ↔ 4 ≤ (trimPrefix l [45]).length ∧ (4 < (trimPrefix l [45]).length → (trimPrefix l [45]).head? ≠ some 48) ∧ (trimPrefix l [45]).all Num.dig = true ∧ (hasPrefix l [45] = true → trimPrefix l [45] ≠ [48, 48, 48, 48]) := by
 unfold isY
 simp only [Bool.and_eq_true, Bool.not_eq_true', decide_eq_false_iff_not, Bool.and_eq_false_iff, beq_eq_false_iff_ne]
 constructor
 ·
  rintro ⟨a, b, c, d⟩
  refine ⟨by omega, fun h => ?_, c, fun h => ?_⟩
  ·
   rcases b with b | b
   ·
    exact absurd h b
   ·
    exact b
  ·
   rcases d with d | d
   ·
    rw [h] at d; cases d
   ·
    exact d
 ·
  rintro ⟨a, b, c, d⟩
  refine ⟨by omega, ?_, c, ?_⟩
  ·
   by_cases h : 4 < (trimPrefix l [45]).length
   ·
    exact .inr (b h)
   ·
    exact .inl h
  ·
   cases h : hasPrefix l [45]
   ·
    exact .inl rfl
   ·
    exact .inr (d h)
theorem tp_dig {l : List UInt8} (h : l.all Num.dig = true) (hn : l ≠ []) : trimPrefix l [45] = l ∧ hasPrefix l [45] = false := by
 cases l with
 | nil => exact absurd rfl hn
 | cons c r =>
  have hc : Num.dig c = true := by simp only [List.all_cons, Bool.and_eq_true] at h; exact h.1
  have := (Num.dig_ne hc).1
  exact ⟨Num.tp_other c r this, by rw [Num.hp_cons]; simpa using this⟩
theorem isY_yr {y : Int} (h0 : -100000 < y) (h1 : y < 100000) : isY (Tx.yr y) = true ∧ yv (Tx.yr y) = y ∧ yl (Tx.yr y) = true := by
 unfold Tx.yr
 by_cases hy : y < 0
 ·
  rw [if_pos hy]
  have e : trimPrefix (45 :: Tx.dg 4 (-y)) [45] = Tx.dg 4 (-y) := Num.tp_minus _
  have hp : hasPrefix (45 :: Tx.dg 4 (-y)) [45] = true := by rw [Num.hp_cons]; rfl
  have hv := Tx.dg_val 4 (-y) (by omega)
  refine ⟨isY_iff.2 ⟨by rw [e]; exact Tx.dg_ge 4 _, fun h => by rw [e] at h ⊢; exact Tx.dg_head 4 _ (by omega) (by omega) h, by rw [e]; exact Tx.dg_dig 4 _ (by omega), fun _ => ?_⟩, ?_, ?_⟩
  ·
   rw [e]
   intro h
   rw [h, show Num.val 0 [48, 48, 48, 48] = 0 from Num.val_zeros [] 4] at hv
   omega
  ·
   unfold yv; rw [hp, if_pos rfl, e, hv]; omega
  ·
   unfold yl; rw [e]; exact decide_eq_true (Tx.dg_le 4 4 _ (by omega) (by omega) (by omega))
 ·
  rw [if_neg hy]
  obtain ⟨e, hp⟩ := tp_dig (Tx.dg_dig 4 y (by omega)) (Tx.dg_ne 4 y)
  refine ⟨isY_iff.2 ⟨by rw [e]; exact Tx.dg_ge 4 _, fun h => by rw [e] at h ⊢; exact Tx.dg_head 4 _ (by omega) (by omega) h, by rw [e]; exact Tx.dg_dig 4 _ (by omega), fun h => ?_⟩, ?_, ?_⟩
  ·
   rw [hp] at h; cases h
  ·
   unfold yv; rw [hp, e]; exact Tx.dg_val 4 y (by omega)
  ·
   unfold yl; rw [e]; exact decide_eq_true (Tx.dg_le 4 4 _ (by omega) (by omega) (by omega))
end Rd
end Go.Proofs.YtbcbggdbojonmaaGreatDoor
set_option linter.unusedVariables false
namespace Go.Proofs.YtbcbggdbojonmaaGreatDoor.Num
open Go.RowKit Go.Lib
def rd (l : List UInt8) : Int × Int := if isT l then (match parseIntB 64 l with | .ok v => (v, 0) | _ => (0, 1)) else (0, 2)
end Go.Proofs.YtbcbggdbojonmaaGreatDoor.Num
set_option linter.unusedVariables false
set_option linter.unusedSimpArgs false
namespace Go.Proofs.YtbcbggdbojonmaaGreatDoor
namespace An
abbrev I := Int × Int × Int × Int × ByteArray
def I0 : I := (0, 0, 0, 0, ⟨#[]⟩)
def tl (i : I) : List (List UInt8) := [Lib.itoa i.1, Lib.itoa i.2.1, Lib.itoa i.2.2.1, Lib.itoa i.2.2.2.1, i.2.2.2.2.data.toList]
def inf (i : I) : List UInt8 × Int := Fd.jn (tl i)
def w4 (a b c d : List UInt8) : Int := if (Num.rd a).2 ≠ 0 then (Num.rd a).2 else if (Num.rd b).2 ≠ 0 then (Num.rd b).2 else if (Num.rd c).2 ≠ 0 then (Num.rd c).2 else (Num.rd d).2
def both (i j : I) : List UInt8 × Int := if (inf i).2 ≠ 0 then ([], (inf i).2) else if (inf j).2 ≠ 0 then ([], (inf j).2) else ((inf i).1 ++ [32, 47, 32] ++ (inf j).1, 0)
theorem numT_all {b : Bool} {l : List UInt8} (h : Num.numT b l = true) : ∀ c ∈ l, Num.dig c = true := by
 cases l with
 | nil => intro c hc; cases hc
 | cons x r =>
  unfold Num.numT at h
  rw [Bool.and_eq_true] at h
  exact List.all_eq_true.1 h.2
theorem itoa_ch (n : Int) : ∀ c ∈ Lib.itoa n, c = 45 ∨ Num.dig c = true := by
 have h := Num.isT_itoa n
 generalize Lib.itoa n = l at h
 intro c hc
 unfold Num.isT at h
 cases l with
 | nil => cases hc
 | cons x r =>
  by_cases hx : x = 45
  ·
   subst hx
   rw [Num.tp_minus] at h
   rcases List.mem_cons.1 hc with rfl | hr
   ·
    exact .inl rfl
   ·
    exact .inr (numT_all h c hr)
  ·
   rw [Num.tp_other _ _ hx] at h
   exact .inr (numT_all h c hc)
theorem tx_num (n : Int) : Fd.tx (Lib.itoa n) = (Lib.itoa n, 0) := by
 have h := itoa_ch n
 have hne := Num.itoa_ne n
 generalize Lib.itoa n = l at *
 have g : ∀ c ∈ l, Fd.mkB c = false ∧ c ≠ 34 := by
  intro c hc
  rcases h c hc with rfl | hd
  ·
   exact ⟨by decide, by decide⟩
  ·
   have hd : 48 ≤ c.toNat ∧ c.toNat ≤ 57 := by simpa [Num.dig] using hd
   refine ⟨?_, fun e => by subst e; revert hd; decide⟩
   unfold Fd.mkB Fd.isK
   simp
   omega
 unfold Fd.tx
 rw [if_neg, if_neg]
 ·
  rintro (e | e)
  ·
   exact hne e
  ·
   obtain ⟨c, hc, hb⟩ := List.any_eq_true.1 e
   rw [(g c hc).1] at hb; cases hb
 ·
  intro e
  have : (34 : UInt8) ∈ l := by simpa using e
  exact (g _ this).2 rfl
theorem rd_num {n : Int} (n0 : -9223372036854775808 ≤ n) (n1 : n ≤ 9223372036854775807) : Num.rd (Lib.itoa n) = (n, 0) := by
 unfold Num.rd
 rw [Num.isT_itoa, Num.parse_itoa n n0 n1]; rfl
def bd (n : Int) : Prop := -9223372036854775808 ≤ n ∧ n ≤ 9223372036854775807
theorem rd_bd {l : List UInt8} : bd (Num.rd l).1 := by
 unfold Num.rd bd
 cases ht : Num.isT l
 ·
  simp
 ·
  rcases Num.isT_read ht with h | ⟨x, h, -, h1, h2⟩
  ·
   rw [h]; simp
  ·
   rw [h]; exact ⟨h1, h2⟩
end An
end Go.Proofs.YtbcbggdbojonmaaGreatDoor
set_option linter.unusedVariables false
set_option linter.unusedSimpArgs false
namespace Go.Proofs.YtbcbggdbojonmaaGreatDoor
open Go.RowKit
theorem fd_len (a : ByteArray) : a.data.toList.length = a.size := Array.length_toList
theorem fd_drop (a : ByteArray) (k : Nat) (h : k < a.size) : a.data.toList.drop k = a[k] :: a.data.toList.drop (k + 1) := by
 rw [List.drop_eq_getElem_cons (by rw [fd_len]; exact h)]
 rfl
theorem fd_id (s : ByteArray) : (⟨s.data.toList.toArray⟩ : ByteArray) = s := by apply ByteArray.ext; apply Array.toList_inj.1; simp
theorem fd_ne {ds : ByteArray} (h : 0 < ds.size) : ds.toList.isEmpty = false ∧ ¬ ds.toList = [] := by
 have : ds.toList ≠ [] := by
  intro e
  have hl := fd_len ds
  rw [← ByteArray.toList_eq] at hl
  rw [e] at hl; simp at hl; omega
 exact ⟨by simpa using this, this⟩
theorem fd_ix (a : ByteArray) (k : Nat) (h : k < a.size) (w : World) : Sem.run Tryz.prog (Instr.index 9 (.string a) (.int .i64 (k : Int))) w = .ok (.int .u8 a[k].toNat) w := by
 rw [run_index_string w _ _ _ _ Tryz.underlying9, dif_pos ⟨by omega, by omega⟩]
 simp
end Go.Proofs.YtbcbggdbojonmaaGreatDoor
set_option linter.unusedVariables false
set_option linter.unusedSimpArgs false
namespace Go.Proofs.YtbcbggdbojonmaaGreatDoor
open Go.RowKit Go.Sort
structure Bk1 (W : World) (b : Nat) (v0 : Value) : Prop where
 hb : b < W.heap.size
 fz : ∀ j, W.frozen? ⟨b, j, none⟩ = false
 k0 : W.cell? ⟨b, 0, none⟩ = some v0
theorem Bk1.of {W w1 : World} {b : Nat} {v0 : Value} (k : Below W.heap.size W w1) (hb : b < W.heap.size) (hf : ∀ j, W.frozen? ⟨b, j, none⟩ = false) (h0 : W.cell? ⟨b, 0, none⟩ = some v0) : Bk1 w1 b v0 :=
 ⟨Nat.lt_of_lt_of_le hb k.size, fun j => (k.frozen (p := ⟨b, j, none⟩) hb).trans (hf j), (k.cell (p := ⟨b, 0, none⟩) hb).trans h0⟩
theorem Bk1.keep {W w1 : World} {b : Nat} {v0 : Value} (h : Bk1 W b v0) (k : Below W.heap.size W w1) : Bk1 w1 b v0 :=
 Bk1.of k h.hb h.fz h.k0
structure Bk2 (W : World) (b : Nat) (v0 v1 : Value) : Prop where
 hb : b < W.heap.size
 fz : ∀ j, W.frozen? ⟨b, j, none⟩ = false
 k0 : W.cell? ⟨b, 0, none⟩ = some v0
 k1 : W.cell? ⟨b, 1, none⟩ = some v1
theorem Bk2.of {W w1 : World} {b : Nat} {v0 v1 : Value} (k : Below W.heap.size W w1) (hb : b < W.heap.size) (hf : ∀ j, W.frozen? ⟨b, j, none⟩ = false) (h0 : W.cell? ⟨b, 0, none⟩ = some v0) (h1 : W.cell? ⟨b, 1, none⟩ = some v1) : Bk2 w1 b v0 v1 :=
 ⟨Nat.lt_of_lt_of_le hb k.size, fun j => (k.frozen (p := ⟨b, j, none⟩) hb).trans (hf j), (k.cell (p := ⟨b, 0, none⟩) hb).trans h0, (k.cell (p := ⟨b, 1, none⟩) hb).trans h1⟩
theorem Bk2.keep {W w1 : World} {b : Nat} {v0 v1 : Value} (h : Bk2 W b v0 v1) (k : Below W.heap.size W w1) : Bk2 w1 b v0 v1 :=
 Bk2.of k h.hb h.fz h.k0 h.k1
structure Bk3 (W : World) (b : Nat) (v0 v1 v2 : Value) : Prop where
 hb : b < W.heap.size
 fz : ∀ j, W.frozen? ⟨b, j, none⟩ = false
 k0 : W.cell? ⟨b, 0, none⟩ = some v0
 k1 : W.cell? ⟨b, 1, none⟩ = some v1
 k2 : W.cell? ⟨b, 2, none⟩ = some v2
theorem Bk3.of {W w1 : World} {b : Nat} {v0 v1 v2 : Value} (k : Below W.heap.size W w1) (hb : b < W.heap.size) (hf : ∀ j, W.frozen? ⟨b, j, none⟩ = false) (h0 : W.cell? ⟨b, 0, none⟩ = some v0) (h1 : W.cell? ⟨b, 1, none⟩ = some v1) (h2 : W.cell? ⟨b, 2, none⟩ = some v2) : Bk3 w1 b v0 v1 v2 :=
 ⟨Nat.lt_of_lt_of_le hb k.size, fun j => (k.frozen (p := ⟨b, j, none⟩) hb).trans (hf j), (k.cell (p := ⟨b, 0, none⟩) hb).trans h0, (k.cell (p := ⟨b, 1, none⟩) hb).trans h1, (k.cell (p := ⟨b, 2, none⟩) hb).trans h2⟩
theorem Bk3.keep {W w1 : World} {b : Nat} {v0 v1 v2 : Value} (h : Bk3 W b v0 v1 v2) (k : Below W.heap.size W w1) : Bk3 w1 b v0 v1 v2 :=
 Bk3.of k h.hb h.fz h.k0 h.k1 h.k2
structure Bk4 (W : World) (b : Nat) (v0 v1 v2 v3 : Value) : Prop where
 hb : b < W.heap.size
 fz : ∀ j, W.frozen? ⟨b, j, none⟩ = false
 k0 : W.cell? ⟨b, 0, none⟩ = some v0
 k1 : W.cell? ⟨b, 1, none⟩ = some v1
 k2 : W.cell? ⟨b, 2, none⟩ = some v2
 k3 : W.cell? ⟨b, 3, none⟩ = some v3
theorem Bk4.of {W w1 : World} {b : Nat} {v0 v1 v2 v3 : Value} (k : Below W.heap.size W w1) (hb : b < W.heap.size) (hf : ∀ j, W.frozen? ⟨b, j, none⟩ = false) (h0 : W.cell? ⟨b, 0, none⟩ = some v0) (h1 : W.cell? ⟨b, 1, none⟩ = some v1) (h2 : W.cell? ⟨b, 2, none⟩ = some v2) (h3 : W.cell? ⟨b, 3, none⟩ = some v3) : Bk4 w1 b v0 v1 v2 v3 :=
 ⟨Nat.lt_of_lt_of_le hb k.size, fun j => (k.frozen (p := ⟨b, j, none⟩) hb).trans (hf j), (k.cell (p := ⟨b, 0, none⟩) hb).trans h0, (k.cell (p := ⟨b, 1, none⟩) hb).trans h1, (k.cell (p := ⟨b, 2, none⟩) hb).trans h2, (k.cell (p := ⟨b, 3, none⟩) hb).trans h3⟩
theorem Bk4.keep {W w1 : World} {b : Nat} {v0 v1 v2 v3 : Value} (h : Bk4 W b v0 v1 v2 v3) (k : Below W.heap.size W w1) : Bk4 w1 b v0 v1 v2 v3 :=
 Bk4.of k h.hb h.fz h.k0 h.k1 h.k2 h.k3
structure Bk5 (W : World) (b : Nat) (v0 v1 v2 v3 v4 : Value) : Prop where
 hb : b < W.heap.size
 fz : ∀ j, W.frozen? ⟨b, j, none⟩ = false
 k0 : W.cell? ⟨b, 0, none⟩ = some v0
 k1 : W.cell? ⟨b, 1, none⟩ = some v1
 k2 : W.cell? ⟨b, 2, none⟩ = some v2
 k3 : W.cell? ⟨b, 3, none⟩ = some v3
 k4 : W.cell? ⟨b, 4, none⟩ = some v4
theorem Bk5.of {W w1 : World} {b : Nat} {v0 v1 v2 v3 v4 : Value} (k : Below W.heap.size W w1) (hb : b < W.heap.size) (hf : ∀ j, W.frozen? ⟨b, j, none⟩ = false) (h0 : W.cell? ⟨b, 0, none⟩ = some v0) (h1 : W.cell? ⟨b, 1, none⟩ = some v1) (h2 : W.cell? ⟨b, 2, none⟩ = some v2) (h3 : W.cell? ⟨b, 3, none⟩ = some v3) (h4 : W.cell? ⟨b, 4, none⟩ = some v4) : Bk5 w1 b v0 v1 v2 v3 v4 :=
 ⟨Nat.lt_of_lt_of_le hb k.size, fun j => (k.frozen (p := ⟨b, j, none⟩) hb).trans (hf j), (k.cell (p := ⟨b, 0, none⟩) hb).trans h0, (k.cell (p := ⟨b, 1, none⟩) hb).trans h1, (k.cell (p := ⟨b, 2, none⟩) hb).trans h2, (k.cell (p := ⟨b, 3, none⟩) hb).trans h3, (k.cell (p := ⟨b, 4, none⟩) hb).trans h4⟩
theorem Bk5.keep {W w1 : World} {b : Nat} {v0 v1 v2 v3 v4 : Value} (h : Bk5 W b v0 v1 v2 v3 v4) (k : Below W.heap.size W w1) : Bk5 w1 b v0 v1 v2 v3 v4 :=
 Bk5.of k h.hb h.fz h.k0 h.k1 h.k2 h.k3 h.k4
structure Bk6 (W : World) (b : Nat) (v0 v1 v2 v3 v4 v5 : Value) : Prop where
 hb : b < W.heap.size
 fz : ∀ j, W.frozen? ⟨b, j, none⟩ = false
 k0 : W.cell? ⟨b, 0, none⟩ = some v0
 k1 : W.cell? ⟨b, 1, none⟩ = some v1
 k2 : W.cell? ⟨b, 2, none⟩ = some v2
 k3 : W.cell? ⟨b, 3, none⟩ = some v3
 k4 : W.cell? ⟨b, 4, none⟩ = some v4
 k5 : W.cell? ⟨b, 5, none⟩ = some v5
theorem Bk6.of {W w1 : World} {b : Nat} {v0 v1 v2 v3 v4 v5 : Value} (k : Below W.heap.size W w1) (hb : b < W.heap.size) (hf : ∀ j, W.frozen? ⟨b, j, none⟩ = false) (h0 : W.cell? ⟨b, 0, none⟩ = some v0) (h1 : W.cell? ⟨b, 1, none⟩ = some v1) (h2 : W.cell? ⟨b, 2, none⟩ = some v2) (h3 : W.cell? ⟨b, 3, none⟩ = some v3) (h4 : W.cell? ⟨b, 4, none⟩ = some v4) (h5 : W.cell? ⟨b, 5, none⟩ = some v5) : Bk6 w1 b v0 v1 v2 v3 v4 v5 :=
 ⟨Nat.lt_of_lt_of_le hb k.size, fun j => (k.frozen (p := ⟨b, j, none⟩) hb).trans (hf j), (k.cell (p := ⟨b, 0, none⟩) hb).trans h0, (k.cell (p := ⟨b, 1, none⟩) hb).trans h1, (k.cell (p := ⟨b, 2, none⟩) hb).trans h2, (k.cell (p := ⟨b, 3, none⟩) hb).trans h3, (k.cell (p := ⟨b, 4, none⟩) hb).trans h4, (k.cell (p := ⟨b, 5, none⟩) hb).trans h5⟩
theorem Bk6.keep {W w1 : World} {b : Nat} {v0 v1 v2 v3 v4 v5 : Value} (h : Bk6 W b v0 v1 v2 v3 v4 v5) (k : Below W.heap.size W w1) : Bk6 w1 b v0 v1 v2 v3 v4 v5 :=
 Bk6.of k h.hb h.fz h.k0 h.k1 h.k2 h.k3 h.k4 h.k5
structure Bk7 (W : World) (b : Nat) (v0 v1 v2 v3 v4 v5 v6 : Value) : Prop where
 hb : b < W.heap.size
 fz : ∀ j, W.frozen? ⟨b, j, none⟩ = false
 k0 : W.cell? ⟨b, 0, none⟩ = some v0
 k1 : W.cell? ⟨b, 1, none⟩ = some v1
 k2 : W.cell? ⟨b, 2, none⟩ = some v2
 k3 : W.cell? ⟨b, 3, none⟩ = some v3
 k4 : W.cell? ⟨b, 4, none⟩ = some v4
 k5 : W.cell? ⟨b, 5, none⟩ = some v5
 k6 : W.cell? ⟨b, 6, none⟩ = some v6
theorem Bk7.of {W w1 : World} {b : Nat} {v0 v1 v2 v3 v4 v5 v6 : Value} (k : Below W.heap.size W w1) (hb : b < W.heap.size) (hf : ∀ j, W.frozen? ⟨b, j, none⟩ = false) (h0 : W.cell? ⟨b, 0, none⟩ = some v0) (h1 : W.cell? ⟨b, 1, none⟩ = some v1) (h2 : W.cell? ⟨b, 2, none⟩ = some v2) (h3 : W.cell? ⟨b, 3, none⟩ = some v3) (h4 : W.cell? ⟨b, 4, none⟩ = some v4) (h5 : W.cell? ⟨b, 5, none⟩ = some v5) (h6 : W.cell? ⟨b, 6, none⟩ = some v6) : Bk7 w1 b v0 v1 v2 v3 v4 v5 v6 :=
 ⟨Nat.lt_of_lt_of_le hb k.size, fun j => (k.frozen (p := ⟨b, j, none⟩) hb).trans (hf j), (k.cell (p := ⟨b, 0, none⟩) hb).trans h0, (k.cell (p := ⟨b, 1, none⟩) hb).trans h1, (k.cell (p := ⟨b, 2, none⟩) hb).trans h2, (k.cell (p := ⟨b, 3, none⟩) hb).trans h3, (k.cell (p := ⟨b, 4, none⟩) hb).trans h4, (k.cell (p := ⟨b, 5, none⟩) hb).trans h5, (k.cell (p := ⟨b, 6, none⟩) hb).trans h6⟩
theorem Bk7.keep {W w1 : World} {b : Nat} {v0 v1 v2 v3 v4 v5 v6 : Value} (h : Bk7 W b v0 v1 v2 v3 v4 v5 v6) (k : Below W.heap.size W w1) : Bk7 w1 b v0 v1 v2 v3 v4 v5 v6 :=
 Bk7.of k h.hb h.fz h.k0 h.k1 h.k2 h.k3 h.k4 h.k5 h.k6
theorem wp_named {c : Code} {P : Program} {Q : Exit → Act → World → Prop} {a : Act} {W : World} (h : ∀ w1, w1 = W → c.wp P Q a w1) : c.wp P Q a W := h W rfl
end Go.Proofs.YtbcbggdbojonmaaGreatDoor
