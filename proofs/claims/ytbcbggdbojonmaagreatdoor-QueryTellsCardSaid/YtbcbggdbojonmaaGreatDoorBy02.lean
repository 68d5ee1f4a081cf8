/- Joined: RdM, RnM, AnP, FdC0, Bk, Sl, StL, FdS, FdE0, WdM. -/
import Derived.Test.YtbcbggdbojonmaaGreatDoorBy01
import Derived.Lib.QuietBelow
import Derived.OwnWalk
import Derived.Laws.OwnMore
import Derived.Deep.AppendLies
import Derived.Deep.Draws
import Derived.Test.YtbcbggdbojonmaaGreatDoorProg
set_option linter.unusedVariables false
set_option linter.unusedSimpArgs false
namespace Go.Proofs.YtbcbggdbojonmaaGreatDoor
open Go Go.Lib
namespace Num
theorem dec_len : ∀ (j u : Nat), u < 10 ^ (j + 1) → (decDigits u).length ≤ j + 1 := by
 intro j
 induction j with
 | zero => intro u h; rw [dec_small (by simpa using h)]; simp
 | succ j ih =>
  intro u h
  by_cases h10 : u < 10
  ·
   rw [dec_small h10]; simp
  ·
   rw [dec_step h10, List.length_append]
   have := ih (u / 10) (by rw [Nat.pow_succ] at h; omega)
   simp; omega
theorem val_lt : ∀ (l : List UInt8) (a : Nat), l.all dig = true → val a l < (a + 1) * 10 ^ l.length := by
 intro l
 induction l with
 | nil => intro a _; rw [val_nil]; simp
 | cons c r ih =>
  intro a h
  simp only [List.all_cons, Bool.and_eq_true] at h
  have hc : 48 ≤ c.toNat ∧ c.toNat ≤ 57 := by have := h.1; unfold dig at this; exact of_decide_eq_true this
  have := ih (stp a c) h.2
  rw [val_cons, List.length_cons, Nat.pow_succ]
  have h1 : stp a c + 1 ≤ (a + 1) * 10 := by rw [stp_eq]; omega
  have h2 := Nat.mul_le_mul_right (10 ^ r.length) h1
  calc val (stp a c) r < (stp a c + 1) * 10 ^ r.length := this
   _ ≤ (a + 1) * 10 * 10 ^ r.length := h2
   _ = (a + 1) * (10 ^ r.length * 10) := by rw [Nat.mul_assoc, Nat.mul_comm 10]
theorem val_bd {l : List UInt8} {k : Nat} (hd : l.all dig = true) (hl : l.length ≤ k) : val 0 l < 10 ^ k := by
 have := val_lt l 0 hd
 have h2 := Nat.pow_le_pow_right (n := 10) (by omega) hl
 omega
end Num
namespace Tx
end Tx
namespace Rd
def isY (l : List UInt8) : Bool :=
 !(decide ((trimPrefix l [45]).length < 4)) && (!(decide (4 < (trimPrefix l [45]).length) && ((trimPrefix l [45]).head? == some 48)) && ((trimPrefix l [45]).all Num.dig && !(hasPrefix l [45] && ((trimPrefix l [45]) == [48, 48, 48, 48]))))
def yv (l : List UInt8) : Int := if hasPrefix l [45] then -(Num.val 0 (trimPrefix l [45]) : Int) else (Num.val 0 (trimPrefix l [45]) : Int)
def yl (l : List UInt8) : Bool := decide ((trimPrefix l [45]).length ≤ 5)
def sg : List UInt8 := [45, 45, 84, 58, 58]
def pOk (l : List UInt8) (k : Nat) : Bool := decide (l.getD (3 * k) 0 = sg.getD k 0) && (((l.drop (3 * k + 1)).take 2).all Num.dig)
def pV (l : List UInt8) (k : Nat) : Int := (Num.val 0 ((l.drop (3 * k + 1)).take 2) : Int)
def bOk (l : List UInt8) : Bool := pOk l 0 && (pOk l 1 && (pOk l 2 && (pOk l 3 && pOk l 4)))
def hd (t : List UInt8) : List UInt8 := t.take (t.length - 15)
def tl (t : List UInt8) : List UInt8 := t.drop (t.length - 15)
def form (t : List UInt8) : Bool := decide (15 ≤ t.length) && (isY (hd t) && bOk (tl t))
theorem isY_iff {l : List UInt8} : isY l = true ↔ 4 ≤ (trimPrefix l [45]).length ∧ (4 < (trimPrefix l [45]).length → (trimPrefix l [45]).head? ≠ some 48) ∧ (trimPrefix l [45]).all Num.dig = true ∧ (hasPrefix l [45] = true → trimPrefix l [45] ≠ [48, 48, 48, 48]) := by
 unfold isY
 simp only [Bool.and_eq_true, Bool.not_eq_true', decide_eq_false_iff_not, Bool.and_eq_false_iff, beq_eq_false_iff_ne]
 constructor
 ·
  rintro ⟨a, b, c, d⟩
  refine ⟨by omega, fun h => ?_, c, fun h => ?_⟩
  ·
   rcases b with b | b
   ·
    exact absurd h b
   ·
    exact b
  ·
   rcases d with d | d
   ·
    rw [h] at d; cases d
   ·
    exact d
 ·
  rintro ⟨a, b, c, d⟩
  refine ⟨by omega, ?_, c, ?_⟩
  ·
   by_cases h : 4 < (trimPrefix l [45]).length
   ·
    exact .inr (b h)
   ·
    exact .inl h
  ·
   cases h : hasPrefix l [45]
   ·
    exact .inl rfl
   ·
    exact .inr (d h)
end Rd
end Go.Proofs.YtbcbggdbojonmaaGreatDoor
set_option linter.unusedVariables false
namespace Go.Proofs.YtbcbggdbojonmaaGreatDoor.Num
open Go.RowKit Go.Lib
theorem rn_len (a : ByteArray) : a.data.toList.length = a.size := Array.length_toList
theorem rn_drop (a : ByteArray) (k : Nat) (h : k < a.size) : a.data.toList.drop k = a[k] :: a.data.toList.drop (k + 1) := by
 rw [List.drop_eq_getElem_cons (by rw [rn_len]; exact h)]
 rfl
theorem rn_dig (c : UInt8) : dig c = (decide (48 ≤ (c.toNat : Int)) && decide ((c.toNat : Int) ≤ 57)) := by
 unfold dig
 by_cases h1 : 48 ≤ c.toNat <;> by_cases h2 : c.toNat ≤ 57 <;> simp [h1, h2] <;> omega
theorem parse_le (M : Nat) (l : List UInt8) : ∀ (acc v : Nat), acc ≤ M → parseUintM M acc l = .ok v → v ≤ M := by
 induction l with
 | nil => intro acc v h e; rw [parse_nil] at e; injection e with e; omega
 | cons c r ih =>
  intro acc v h e
  rw [parseUintM] at e
  split at e
  ·
   split at e
   ·
    cases e
   ·
    split at e
    ·
     cases e
    ·
     exact ih _ v (by omega) e
  ·
   cases e
theorem val_le (l : List UInt8) : ∀ (a : Nat), a * 10 ^ l.length ≤ val a l := by
 induction l with
 | nil => intro a; rw [val_nil]; simp
 | cons c r ih =>
  intro a
  rw [val_cons]
  refine Nat.le_trans ?_ (ih (stp a c))
  rw [stp_eq, List.length_cons, Nat.pow_succ, Nat.mul_comm (10 ^ r.length) 10, ← Nat.mul_assoc]
  exact Nat.mul_le_mul_right _ (by omega)
theorem val_far {d : List UInt8} (ha : d.all dig = true) (hz : ∀ c r, d = c :: r → r ≠ [] → c ≠ 48) (hl : 19 < d.length) : 10000000000000000000 ≤ val 0 d := by
 cases d with
 | nil => simp at hl
 | cons c r =>
  have hr : 19 ≤ r.length := by simp at hl; omega
  have hc := hz c r rfl (by intro e; rw [e] at hr; simp at hr)
  have hd : 48 ≤ c.toNat ∧ c.toNat ≤ 57 := by
   simp only [List.all_cons, Bool.and_eq_true, dig, decide_eq_true_eq] at ha; exact ha.1
  have hc' : c.toNat ≠ 48 := fun e => hc (UInt8.toNat_inj.1 (by rw [e]; rfl))
  rw [val_cons]
  have h1 := val_le r (stp 0 c)
  have h2 : 1 ≤ stp 0 c := by rw [stp_eq]; omega
  have h3 := Nat.pow_le_pow_right (n := 10) (by omega) hr
  have h4 := Nat.mul_le_mul h2 h3
  have h5 : (1 : Nat) * 10 ^ 19 = 10000000000000000000 := by decide
  omega
def rd (l : List UInt8) : Int × Int := if isT l then (match parseIntB 64 l with | .ok v => (v, 0) | _ => (0, 1)) else (0, 2)
def rdD (b : Bool) (d : List UInt8) : Int × Int :=
 if numT b d then (if 19 < d.length then (0, 1) else if b then (if 9223372036854775808 < val 0 d then (0, 1) else (-(val 0 d : Int), 0)) else (if 9223372036854775807 < val 0 d then (0, 1) else ((val 0 d : Int), 0))) else (0, 2)
theorem parseU_at (d : List UInt8) (h : d ≠ []) (ha : d.all dig = true) : parseUintB 64 d = if val 0 d ≤ 18446744073709551615 then .ok (val 0 d) else .range := by
 have e : (2 : Nat) ^ 64 - 1 = 18446744073709551615 := by decide
 split
 ·
  rename_i hv
  unfold parseUintB
  rw [if_neg h, e]
  exact parse_ok _ (by unfold Small; decide) d 0 ha hv
 ·
  rename_i hv
  rcases parseU d h ha with hu | hu
  ·
   exfalso
   unfold parseUintB at hu
   rw [if_neg h, e] at hu
   exact hv (parse_le _ d 0 _ (by omega) hu)
  ·
   exact hu
theorem rd_eq (l : List UInt8) : rd l = rdD (hasPrefix l [45]) (trimPrefix l [45]) := by
 unfold rd rdD
 show (if isT l = true then _ else _) = (if isT l = true then _ else _)
 by_cases h : isT l = true
 ·
  rw [if_pos h, if_pos h]
  cases l with
  | nil => exact absurd h (by decide)
  | cons c d =>
   have e63 : (2 : Nat) ^ (64 - 1) = 9223372036854775808 := by decide
   by_cases hc : c = 45
   ·
    subst hc
    unfold isT at h
    rw [hp_cons, tp_minus] at h ⊢
    obtain ⟨a, b, e, f⟩ := numT_yes h
    have hu := parseU_at d a b
    rw [if_pos (show (45 == (45 : UInt8)) = true from rfl)]
    unfold parseIntB
    simp only [show (45 : UInt8).toNat = 45 from rfl, or_true, if_true, hu, e63]
    by_cases hv : val 0 d ≤ 18446744073709551615
    ·
     rw [if_pos hv]
     simp only [not_true_eq_false, false_and, if_false, true_and]
     by_cases hf : 9223372036854775808 < val 0 d
     ·
      rw [if_pos hf, if_pos hf]
      by_cases hl : 19 < d.length
      ·
       rw [if_pos hl]
      ·
       rw [if_neg hl]
     ·
      rw [if_neg hf, if_neg hf, if_neg (fun hl => by have := val_far b e hl; omega)]
    ·
     rw [if_neg hv]
     by_cases hl : 19 < d.length
     ·
      rw [if_pos hl]
     ·
      rw [if_neg hl, if_pos (by omega)]
   ·
    unfold isT at h
    rw [hp_cons, tp_other c d hc] at h ⊢
    obtain ⟨a, b, e, _⟩ := numT_yes h
    have hd : 48 ≤ c.toNat ∧ c.toNat ≤ 57 := by
     simp only [List.all_cons, Bool.and_eq_true, dig, decide_eq_true_eq] at b; exact b.1
    have n43 : ¬ (c.toNat = 43 ∨ c.toNat = 45) := by omega
    have n45 : ¬ c.toNat = 45 := by omega
    have hu := parseU_at (c :: d) a b
    rw [if_neg (show ¬ (c == (45 : UInt8)) = true by simpa using hc)]
    unfold parseIntB
    simp only [if_neg n43, hu, e63]
    by_cases hv : val 0 (c :: d) ≤ 18446744073709551615
    ·
     rw [if_pos hv]
     simp only [n45, not_false_eq_true, true_and, false_and, if_false]
     by_cases hf : 9223372036854775808 ≤ val 0 (c :: d)
     ·
      rw [if_pos hf, if_pos (show 9223372036854775807 < val 0 (c :: d) by omega)]
      by_cases hl : 19 < (c :: d).length
      ·
       rw [if_pos hl]
      ·
       rw [if_neg hl]
     ·
      rw [if_neg hf, if_neg (show ¬ 9223372036854775807 < val 0 (c :: d) by omega), if_neg (fun hl => by have := val_far b e hl; omega)]
    ·
     rw [if_neg hv]
     by_cases hl : 19 < (c :: d).length
     ·
      rw [if_pos hl]
     ·
      rw [if_neg hl, if_pos (by omega)]
 ·
  rw [if_neg h, if_neg h]
theorem dec_short (u : Nat) (h : u < 18446744073709551616) : (decDigits u).length ≤ 20 := by
 have e : (10 : Nat) ^ (19 + 1) = 100000000000000000000 := by decide
 exact dec_len 19 u (by rw [e]; omega)
end Go.Proofs.YtbcbggdbojonmaaGreatDoor.Num
set_option linter.unusedVariables false
set_option linter.unusedSimpArgs false
namespace Go.Proofs.YtbcbggdbojonmaaGreatDoor
namespace An
abbrev I := Int × Int × Int × Int × ByteArray
def I0 : I := (0, 0, 0, 0, ⟨#[]⟩)
def tl (i : I) : List (List UInt8) := [Lib.itoa i.1, Lib.itoa i.2.1, Lib.itoa i.2.2.1, Lib.itoa i.2.2.2.1, i.2.2.2.2.data.toList]
def inf (i : I) : List UInt8 × Int := Fd.jn (tl i)
def w4 (a b c d : List UInt8) : Int := if (Num.rd a).2 ≠ 0 then (Num.rd a).2 else if (Num.rd b).2 ≠ 0 then (Num.rd b).2 else if (Num.rd c).2 ≠ 0 then (Num.rd c).2 else (Num.rd d).2
def both (i j : I) : List UInt8 × Int := if (inf i).2 ≠ 0 then ([], (inf i).2) else if (inf j).2 ≠ 0 then ([], (inf j).2) else ((inf i).1 ++ [32, 47, 32] ++ (inf j).1, 0)
theorem numT_all {b : Bool} {l : List UInt8} (h : Num.numT b l = true) : ∀ c ∈ l, Num.dig c = true := by
 cases l with
 | nil => intro c hc; cases hc
 | cons x r =>
  unfold Num.numT at h
  rw [Bool.and_eq_true] at h
  exact List.all_eq_true.1 h.2
theorem itoa_ch (n : Int) : ∀ c ∈ Lib.itoa n, c = 45 ∨ Num.dig c = true := by
 have h := Num.isT_itoa n
 generalize Lib.itoa n = l at h
 intro c hc
 unfold Num.isT at h
 cases l with
 | nil => cases hc
 | cons x r =>
  by_cases hx : x = 45
  ·
   subst hx
   rw [Num.tp_minus] at h
   rcases List.mem_cons.1 hc with rfl | hr
   ·
    exact .inl rfl
   ·
    exact .inr (numT_all h c hr)
  ·
   rw [Num.tp_other _ _ hx] at h
   exact .inr (numT_all h c hc)
theorem tx_num (n : Int) : Fd.tx (Lib.itoa n) = (Lib.itoa n, 0) := by
 have h := itoa_ch n
 have hne := Num.itoa_ne n
 generalize Lib.itoa n = l at *
 have g : ∀ c ∈ l, Fd.mkB c = false ∧ c ≠ 34 := by
  intro c hc
  rcases h c hc with rfl | hd
  ·
   exact ⟨by decide, by decide⟩
  ·
   have hd : 48 ≤ c.toNat ∧ c.toNat ≤ 57 := by simpa [Num.dig] using hd
   refine ⟨?_, fun e => by subst e; revert hd; decide⟩
   unfold Fd.mkB Fd.isK
   simp
   omega
 unfold Fd.tx
 rw [if_neg, if_neg]
 ·
  rintro (e | e)
  ·
   exact hne e
  ·
   obtain ⟨c, hc, hb⟩ := List.any_eq_true.1 e
   rw [(g c hc).1] at hb; cases hb
 ·
  intro e
  have : (34 : UInt8) ∈ l := by simpa using e
  exact (g _ this).2 rfl
theorem rd_num {n : Int} (n0 : -9223372036854775808 ≤ n) (n1 : n ≤ 9223372036854775807) : Num.rd (Lib.itoa n) = (n, 0) := by
 unfold Num.rd
 rw [Num.isT_itoa, Num.parse_itoa n n0 n1]; rfl
def bd (n : Int) : Prop := -9223372036854775808 ≤ n ∧ n ≤ 9223372036854775807
end An
end Go.Proofs.YtbcbggdbojonmaaGreatDoor
set_option linter.unusedVariables false
set_option linter.unusedSimpArgs false
namespace Go.Proofs.YtbcbggdbojonmaaGreatDoor
open Go.RowKit
theorem fd_len (a : ByteArray) : a.data.toList.length = a.size := Array.length_toList
theorem fd_drop (a : ByteArray) (k : Nat) (h : k < a.size) : a.data.toList.drop k = a[k] :: a.data.toList.drop (k + 1) := by
 rw [List.drop_eq_getElem_cons (by rw [fd_len]; exact h)]
 rfl
theorem fd_id (s : ByteArray) : (⟨s.data.toList.toArray⟩ : ByteArray) = s := by apply ByteArray.ext; apply Array.toList_inj.1; simp
theorem fd_ne {ds : ByteArray} (h : 0 < ds.size) : ds.toList.isEmpty = false ∧ ¬ ds.toList = [] := by
 have : ds.toList ≠ [] := by
  intro e
  have hl := fd_len ds
  rw [← ByteArray.toList_eq] at hl
  rw [e] at hl; simp at hl; omega
 exact ⟨by simpa using this, this⟩
theorem fd_ix (a : ByteArray) (k : Nat) (h : k < a.size) (w : World) : Sem.run Tryz.prog (Instr.index 9 (.string a) (.int .i64 (k : Int))) w = .ok (.int .u8 a[k].toNat) w := by
 rw [run_index_string w _ _ _ _ Tryz.underlying9, dif_pos ⟨by omega, by omega⟩]
 simp
end Go.Proofs.YtbcbggdbojonmaaGreatDoor
set_option linter.unusedVariables false
set_option linter.unusedSimpArgs false
namespace Go.Proofs.YtbcbggdbojonmaaGreatDoor
open Go.RowKit Go.Sort
structure Bk1 (W : World) (b : Nat) (v0 : Value) : Prop where
 hb : b < W.heap.size
 fz : ∀ j, W.frozen? ⟨b, j, none⟩ = false
 k0 : W.cell? ⟨b, 0, none⟩ = some v0
theorem Bk1.of {W w1 : World} {b : Nat} {v0 : Value} (k : Below W.heap.size W w1) (hb : b < W.heap.size) (hf : ∀ j, W.frozen? ⟨b, j, none⟩ = false) (h0 : W.cell? ⟨b, 0, none⟩ = some v0) : Bk1 w1 b v0 :=
 ⟨Nat.lt_of_lt_of_le hb k.size, fun j => (k.frozen (p := ⟨b, j, none⟩) hb).trans (hf j), (k.cell (p := ⟨b, 0, none⟩) hb).trans h0⟩
theorem Bk1.keep {W w1 : World} {b : Nat} {v0 : Value} (h : Bk1 W b v0) (k : Below W.heap.size W w1) : Bk1 w1 b v0 :=
 Bk1.of k h.hb h.fz h.k0
structure Bk2 (W : World) (b : Nat) (v0 v1 : Value) : Prop where
 hb : b < W.heap.size
 fz : ∀ j, W.frozen? ⟨b, j, none⟩ = false
 k0 : W.cell? ⟨b, 0, none⟩ = some v0
 k1 : W.cell? ⟨b, 1, none⟩ = some v1
theorem Bk2.of {W w1 : World} {b : Nat} {v0 v1 : Value} (k : Below W.heap.size W w1) (hb : b < W.heap.size) (hf : ∀ j, W.frozen? ⟨b, j, none⟩ = false) (h0 : W.cell? ⟨b, 0, none⟩ = some v0) (h1 : W.cell? ⟨b, 1, none⟩ = some v1) : Bk2 w1 b v0 v1 :=
 ⟨Nat.lt_of_lt_of_le hb k.size, fun j => (k.frozen (p := ⟨b, j, none⟩) hb).trans (hf j), (k.cell (p := ⟨b, 0, none⟩) hb).trans h0, (k.cell (p := ⟨b, 1, none⟩) hb).trans h1⟩
theorem Bk2.keep {W w1 : World} {b : Nat} {v0 v1 : Value} (h : Bk2 W b v0 v1) (k : Below W.heap.size W w1) : Bk2 w1 b v0 v1 :=
 Bk2.of k h.hb h.fz h.k0 h.k1
structure Bk3 (W : World) (b : Nat) (v0 v1 v2 : Value) : Prop where
 hb : b < W.heap.size
 fz : ∀ j, W.frozen? ⟨b, j, none⟩ = false
 k0 : W.cell? ⟨b, 0, none⟩ = some v0
 k1 : W.cell? ⟨b, 1, none⟩ = some v1
 k2 : W.cell? ⟨b, 2, none⟩ = some v2
theorem Bk3.of {W w1 : World} {b : Nat} {v0 v1 v2 : Value} (k : Below W.heap.size W w1) (hb : b < W.heap.size) (hf : ∀ j, W.frozen? ⟨b, j, none⟩ = false) (h0 : W.cell? ⟨b, 0, none⟩ = some v0) (h1 : W.cell? ⟨b, 1, none⟩ = some v1) (h2 : W.cell? ⟨b, 2, none⟩ = some v2) : Bk3 w1 b v0 v1 v2 :=
 ⟨Nat.lt_of_lt_of_le hb k.size, fun j => (k.frozen (p := ⟨b, j, none⟩) hb).trans (hf j), (k.cell (p := ⟨b, 0, none⟩) hb).trans h0, (k.cell (p := ⟨b, 1, none⟩) hb).trans h1, (k.cell (p := ⟨b, 2, none⟩) hb).trans h2⟩
theorem Bk3.keep {W w1 : World} {b : Nat} {v0 v1 v2 : Value} (h : Bk3 W b v0 v1 v2) (k : Below W.heap.size W w1) : Bk3 w1 b v0 v1 v2 :=
 Bk3.of k h.hb h.fz h.k0 h.k1 h.k2
structure Bk4 (W : World) (b : Nat) (v0 v1 v2 v3 : Value) : Prop where
 hb : b < W.heap.size
 fz : ∀ j, W.frozen? ⟨b, j, none⟩ = false
 k0 : W.cell? ⟨b, 0, none⟩ = some v0
 k1 : W.cell? ⟨b, 1, none⟩ = some v1
 k2 : W.cell? ⟨b, 2, none⟩ = some v2
 k3 : W.cell? ⟨b, 3, none⟩ = some v3
theorem Bk4.of {W w1 : World} {b : Nat} {v0 v1 v2 v3 : Value} (k : Below W.heap.size W w1) (hb : b < W.heap.size) (hf : ∀ j, W.frozen? ⟨b, j, none⟩ = false) (h0 : W.cell? ⟨b, 0, none⟩ = some v0) (h1 : W.cell? ⟨b, 1, none⟩ = some v1) (h2 : W.cell? ⟨b, 2, none⟩ = some v2) (h3 : W.cell? ⟨b, 3, none⟩ = some v3) : Bk4 w1 b v0 v1 v2 v3 :=
 ⟨Nat.lt_of_lt_of_le hb k.size, fun j => (k.frozen (p := ⟨b, j, none⟩) hb).trans (hf j), (k.cell (p := ⟨b, 0, none⟩) hb).trans h0, (k.cell (p := ⟨b, 1, none⟩) hb).trans h1, (k.cell (p := ⟨b, 2, none⟩) hb).trans h2, (k.cell (p := ⟨b, 3, none⟩) hb).trans h3⟩
theorem Bk4.keep {W w1 : World} {b : Nat} {v0 v1 v2 v3 : Value} (h : Bk4 W b v0 v1 v2 v3) (k : Below W.heap.size W w1) : Bk4 w1 b v0 v1 v2 v3 :=
 Bk4.of k h.hb h.fz h.k0 h.k1 h.k2 h.k3
structure Bk5 (W : World) (b : Nat) (v0 v1 v2 v3 v4 : Value) : Prop where
 hb : b < W.heap.size
 fz : ∀ j, W.frozen? ⟨b, j, none⟩ = false
 k0 : W.cell? ⟨b, 0, none⟩ = some v0
 k1 : W.cell? ⟨b, 1, none⟩ = some v1
 k2 : W.cell? ⟨b, 2, none⟩ = some v2
 k3 : W.cell? ⟨b, 3, none⟩ = some v3
 k4 : W.cell? ⟨b, 4, none⟩ = some v4
theorem Bk5.of {W w1 : World} {b : Nat} {v0 v1 v2 v3 v4 : Value} (k : Below W.heap.size W w1) (hb : b < W.heap.size) (hf : ∀ j, W.frozen? ⟨b, j, none⟩ = false) (h0 : W.cell? ⟨b, 0, none⟩ = some v0) (h1 : W.cell? ⟨b, 1, none⟩ = some v1) (h2 : W.cell? ⟨b, 2, none⟩ = some v2) (h3 : W.cell? ⟨b, 3, none⟩ = some v3) (h4 : W.cell? ⟨b, 4, none⟩ = some v4) : Bk5 w1 b v0 v1 v2 v3 v4 :=
 ⟨Nat.lt_of_lt_of_le hb k.size, fun j => (k.frozen (p := ⟨b, j, none⟩) hb).trans (hf j), (k.cell (p := ⟨b, 0, none⟩) hb).trans h0, (k.cell (p := ⟨b, 1, none⟩) hb).trans h1, (k.cell (p := ⟨b, 2, none⟩) hb).trans h2, (k.cell (p := ⟨b, 3, none⟩) hb).trans h3, (k.cell (p := ⟨b, 4, none⟩) hb).trans h4⟩
theorem Bk5.keep {W w1 : World} {b : Nat} {v0 v1 v2 v3 v4 : Value} (h : Bk5 W b v0 v1 v2 v3 v4) (k : Below W.heap.size W w1) : Bk5 w1 b v0 v1 v2 v3 v4 :=
 Bk5.of k h.hb h.fz h.k0 h.k1 h.k2 h.k3 h.k4
structure Bk6 (W : World) (b : Nat) (v0 v1 v2 v3 v4 v5 : Value) : Prop where
 hb : b < W.heap.size
 fz : ∀ j, W.frozen? ⟨b, j, none⟩ = false
 k0 : W.cell? ⟨b, 0, none⟩ = some v0
 k1 : W.cell? ⟨b, 1, none⟩ = some v1
 k2 : W.cell? ⟨b, 2, none⟩ = some v2
 k3 : W.cell? ⟨b, 3, none⟩ = some v3
 k4 : W.cell? ⟨b, 4, none⟩ = some v4
 k5 : W.cell? ⟨b, 5, none⟩ = some v5
theorem Bk6.of {W w1 : World} {b : Nat} {v0 v1 v2 v3 v4 v5 : Value} (k : Below W.heap.size W w1) (hb : b < W.heap.size) (hf : ∀ j, W.frozen? ⟨b, j, none⟩ = false) (h0 : W.cell? ⟨b, 0, none⟩ = some v0) (h1 : W.cell? ⟨b, 1, none⟩ = some v1) (h2 : W.cell? ⟨b, 2, none⟩ = some v2) (h3 : W.cell? ⟨b, 3, none⟩ = some v3) (h4 : W.cell? ⟨b, 4, none⟩ = some v4) (h5 : W.cell? ⟨b, 5, none⟩ = some v5) : Bk6 w1 b v0 v1 v2 v3 v4 v5 :=
 ⟨Nat.lt_of_lt_of_le hb k.size, fun j => (k.frozen (p := ⟨b, j, none⟩) hb).trans (hf j), (k.cell (p := ⟨b, 0, none⟩) hb).trans h0, (k.cell (p := ⟨b, 1, none⟩) hb).trans h1, (k.cell (p := ⟨b, 2, none⟩) hb).trans h2, (k.cell (p := ⟨b, 3, none⟩) hb).trans h3, (k.cell (p := ⟨b, 4, none⟩) hb).trans h4, (k.cell (p := ⟨b, 5, none⟩) hb).trans h5⟩
theorem Bk6.keep {W w1 : World} {b : Nat} {v0 v1 v2 v3 v4 v5 : Value} (h : Bk6 W b v0 v1 v2 v3 v4 v5) (k : Below W.heap.size W w1) : Bk6 w1 b v0 v1 v2 v3 v4 v5 :=
 Bk6.of k h.hb h.fz h.k0 h.k1 h.k2 h.k3 h.k4 h.k5
structure Bk7 (W : World) (b : Nat) (v0 v1 v2 v3 v4 v5 v6 : Value) : Prop where
 hb : b < W.heap.size
 fz : ∀ j, W.frozen? ⟨b, j, none⟩ = false
 k0 : W.cell? ⟨b, 0, none⟩ = some v0
 k1 : W.cell? ⟨b, 1, none⟩ = some v1
 k2 : W.cell? ⟨b, 2, none⟩ = some v2
 k3 : W.cell? ⟨b, 3, none⟩ = some v3
 k4 : W.cell? ⟨b, 4, none⟩ = some v4
 k5 : W.cell? ⟨b, 5, none⟩ = some v5
 k6 : W.cell? ⟨b, 6, none⟩ = some v6
theorem Bk7.of {W w1 : World} {b : Nat} {v0 v1 v2 v3 v4 v5 v6 : Value} (k : Below W.heap.size W w1) (hb : b < W.heap.size) (hf : ∀ j, W.frozen? ⟨b, j, none⟩ = false) (h0 : W.cell? ⟨b, 0, none⟩ = some v0) (h1 : W.cell? ⟨b, 1, none⟩ = some v1) (h2 : W.cell? ⟨b, 2, none⟩ = some v2) (h3 : W.cell? ⟨b, 3, none⟩ = some v3) (h4 : W.cell? ⟨b, 4, none⟩ = some v4) (h5 : W.cell? ⟨b, 5, none⟩ = some v5) (h6 : W.cell? ⟨b, 6, none⟩ = some v6) : Bk7 w1 b v0 v1 v2 v3 v4 v5 v6 :=
 ⟨Nat.lt_of_lt_of_le hb k.size, fun j => (k.frozen (p := ⟨b, j, none⟩) hb).trans (hf j), (k.cell (p := ⟨b, 0, none⟩) hb).trans h0, (k.cell (p := ⟨b, 1, none⟩) hb).trans h1, (k.cell (p := ⟨b, 2, none⟩) hb).trans h2, (k.cell (p := ⟨b, 3, none⟩) hb).trans h3, (k.cell (p := ⟨b, 4, none⟩) hb).trans h4, (k.cell (p := ⟨b, 5, none⟩) hb).trans h5, (k.cell (p := ⟨b, 6, none⟩) hb).trans h6⟩
theorem Bk7.keep {W w1 : World} {b : Nat} {v0 v1 v2 v3 v4 v5 v6 : Value} (h : Bk7 W b v0 v1 v2 v3 v4 v5 v6) (k : Below W.heap.size W w1) : Bk7 w1 b v0 v1 v2 v3 v4 v5 v6 :=
 Bk7.of k h.hb h.fz h.k0 h.k1 h.k2 h.k3 h.k4 h.k5 h.k6
theorem wp_named {c : Code} {P : Program} {Q : Exit → Act → World → Prop} {a : Act} {W : World} (h : ∀ w1, w1 = W → c.wp P Q a w1) : c.wp P Q a W := h W rfl
theorem blk_add (a : Addr) (j : Nat) : (a.add j).block = a.block := by unfold Addr.add; split <;> rfl
theorem add_two (a : Addr) (i j : Nat) : (a.add i).add j = a.add (i + j) := by
 unfold Addr.add
 by_cases hi : i = 0 <;> by_cases hj : j = 0 <;> simp [hi, hj, Nat.add_assoc]
def Lst (w : World) (B : Nat) (v : Value) (n : Nat) (xs : List Value) : Prop :=
 ∃ A c, v = .slice A n c ∧ (0 < n → ∃ a, A = some a ∧ a.block < B ∧ ∀ (j : Nat) (u : Value), xs[j]? = some u → w.cell? (a.add j) = some u)
theorem Lst.nil (w : World) (B : Nat) : Lst w B (.slice none 0 0) 0 [] := ⟨none, 0, rfl, fun h => absurd h (by omega)⟩
theorem Lst.keep {w w' : World} {B : Nat} {v : Value} {n : Nat} {xs : List Value} (h : Lst w B v n xs) (k : ∀ p : Addr, p.block < B → w'.cell? p = w.cell? p) : Lst w' B v n xs := by
 obtain ⟨A, c, hv, ha⟩ := h
 refine ⟨A, c, hv, fun hn => ?_⟩
 obtain ⟨a, e, hb, hc⟩ := ha hn
 exact ⟨a, e, hb, fun j u hu => (k _ (by rw [blk_add]; exact hb)).trans (hc j u hu)⟩
theorem Lst.more {w : World} {B B' : Nat} {v : Value} {n : Nat} {xs : List Value} (h : Lst w B v n xs) (k : B ≤ B') : Lst w B' v n xs := by
 obtain ⟨A, c, hv, ha⟩ := h
 refine ⟨A, c, hv, fun hn => ?_⟩
 obtain ⟨a, e, hb, hc⟩ := ha hn
 exact ⟨a, e, Nat.lt_of_lt_of_le hb k, hc⟩
theorem Lst.below {w w' : World} {B : Nat} {v : Value} {n : Nat} {xs : List Value} (h : Lst w B v n xs) (k : Below B w w') : Lst w' B v n xs := h.keep fun _ hp => k.cell hp
theorem Lst.on {w w' : World} {v : Value} {n : Nat} {xs : List Value} (h : Lst w w.heap.size v n xs) (k : Below w.heap.size w w') : Lst w' w'.heap.size v n xs := (h.below k).more k.size
theorem Lst.drewN {w : World} {B : Nat} {v : Value} {n : Nat} {xs : List Value} (h : Lst w B v n xs) (k : Nat) : Lst (w.drewN k) B v n xs := h
theorem Lst.own {w : World} {base : Nat} {e : TypeId} {size : Nat} {v : Value} {n : Nat} {xs : List Value} (h : w.ownsRow base e size v n xs) : Lst w w.heap.size v n xs := by
 rcases Nat.eq_zero_or_pos n with h0 | h0
 ·
  have hx : xs = [] := by
   have := h.1
   rw [h0, Nat.zero_mul] at this
   exact List.eq_nil_of_length_eq_zero this
  rcases h.2 with ⟨hv, _⟩ | ⟨g, cap, cur, hv, _⟩
  ·
   exact ⟨none, 0, by rw [h0]; exact hv, fun hh => absurd hh (by omega)⟩
  ·
   exact ⟨_, _, hv, fun hh => absurd hh (by omega)⟩
 ·
  obtain ⟨g, cap, hv, _, hlt⟩ := h.form h0
  exact ⟨_, _, hv, fun _ => ⟨_, rfl, hlt, h.cells (g := g) (by rw [hv]; rfl)⟩⟩
theorem below_grown {w w' : World} {row : Option Nat} {B : Nat} (h : w.grownBy w' row) (hB : B ≤ w.heap.size) (hr : ∀ g, row = some g → B ≤ g) : Below B w w' :=
 ⟨h.os, h.tape, h.output, h.size, fun i hi => h.block i (by omega) (fun e => by have := hr _ e.symm; omega)⟩
theorem grown_below {w w' : World} (h : Below w.heap.size w w') (row : Option Nat) : w.grownBy w' row := ⟨h.os, h.tape, h.output, h.size, fun i hi _ => h.block i hi⟩
theorem own_on {w w' : World} {base : Nat} {e : TypeId} {size : Nat} {v : Value} {n : Nat} {xs : List Value} (h : w.ownsRow base e size v n xs) (k : Below w.heap.size w w') : w'.ownsRow base e size v n xs :=
 h.kept (grown_below k none) (by
  cases hv : v.ownBlock
  ·
   exact .inl rfl
  ·
   exact .inr (by simp))
theorem own_row {w : World} {base : Nat} {e : TypeId} {size : Nat} {v : Value} {n : Nat} {xs : List Value} (h : w.ownsRow base e size v n xs) : ∀ g, v.ownBlock = some g → base ≤ g := fun g hg => (h.lt g hg).1
def spc (l : List (Int × Int)) : List Value := l.flatMap fun p => [.int .i64 p.1, .int .i64 p.2]
theorem spc_at (l : List (Int × Int)) (k : Nat) (h : k < l.length) : (spc l)[k * 2]? = some (.int .i64 l[k].1) ∧ (spc l)[k * 2 + 1]? = some (.int .i64 l[k].2) := by
 induction l generalizing k with
 | nil => exact absurd h (by simp)
 | cons p l ih =>
  cases k with
  | zero => exact ⟨rfl, rfl⟩
  | succ k =>
   have := ih k (by simpa using h)
   have e : spc (p :: l) = .int .i64 p.1 :: .int .i64 p.2 :: spc l := rfl
   rw [e]
   rw [show (k + 1) * 2 = k * 2 + 1 + 1 by omega]
   simpa using this
def SpV (w : World) (v : Value) (l : List (Int × Int)) : Prop := Lst w w.heap.size v l.length (spc l)
theorem SpV.on {w w' : World} {v : Value} {l : List (Int × Int)} (h : SpV w v l) (k : Below w.heap.size w w') : SpV w' v l := Lst.on h k
theorem SpV.own {w : World} {base : Nat} {e : TypeId} {v : Value} {l : List (Int × Int)} (h : w.ownsRow base e 2 v l.length (spc l)) : SpV w v l := Lst.own h
theorem SpV.at_ {w : World} {v : Value} {l : List (Int × Int)} (h : SpV w v l) (k : Nat) (hk : k < l.length) : ∃ a c, v = .slice (some a) l.length c ∧ a.block < w.heap.size ∧ w.cell? (a.add (k * 2)) = some (.int .i64 l[k].1) ∧ w.cell? (a.add (k * 2 + 1)) = some (.int .i64 l[k].2) := by
 obtain ⟨A, c, hv, ha⟩ := h
 obtain ⟨a, e, hb, hc⟩ := ha (by omega)
 obtain ⟨h1, h2⟩ := spc_at l k hk
 exact ⟨a, c, by rw [hv, e], hb, hc _ _ h1, hc _ _ h2⟩
theorem SpV.get {w : World} {A : Option Addr} {n c : Nat} {l : List (Int × Int)} (h : SpV w (.slice A n c) l) (k : Nat) (hk : k < l.length) : ∃ a, A = some a ∧ a.block < w.heap.size ∧ w.cell? (a.add (k * 2)) = some (.int .i64 l[k].1) ∧ w.cell? ⟨(a.add (k * 2)).block, (a.add (k * 2)).off + 1, none⟩ = some (.int .i64 l[k].2) := by
 obtain ⟨a, c', hv, r⟩ := h.at_ k hk
 cases hv
 refine ⟨a, rfl, r.1, r.2.1, ?_⟩
 have e : (⟨(a.add (k * 2)).block, (a.add (k * 2)).off + 1, none⟩ : Addr) = a.add (k * 2 + 1) := by rw [← add_two]; rfl
 rw [e]
 exact r.2.2
theorem SpV.len {w : World} {A : Option Addr} {n c : Nat} {l : List (Int × Int)} (h : SpV w (.slice A n c) l) : n = l.length := by
 obtain ⟨A', c', hv, _⟩ := h
 cases hv
 rfl
def StS (w : World) (v : Value) (l : List ByteArray) : Prop := Lst w w.heap.size v l.length (l.map Value.string)
theorem StS.on {w w' : World} {v : Value} {l : List ByteArray} (h : StS w v l) (k : Below w.heap.size w w') : StS w' v l := Lst.on h k
theorem StS.get {w : World} {A : Option Addr} {n c : Nat} {l : List ByteArray} (h : StS w (.slice A n c) l) (k : Nat) (hk : k < l.length) : ∃ a, A = some a ∧ w.cell? (a.add k) = some (.string l[k]) := by
 obtain ⟨A', c', hv, ha⟩ := h
 cases hv
 obtain ⟨a, e, hb, hc⟩ := ha (by omega)
 refine ⟨a, e, hc k _ ?_⟩
 rw [List.getElem?_map, List.getElem?_eq_getElem hk]; rfl
theorem StS.len {w : World} {A : Option Addr} {n c : Nat} {l : List ByteArray} (h : StS w (.slice A n c) l) : n = l.length := by
 obtain ⟨A', c', hv, _⟩ := h
 cases hv; rfl
def AnsF (P : List (List UInt8) × Int) (w : World) (e : Ending) (w' : World) : Prop := ∃ (v : Value) (l : List ByteArray), StS w' v l ∧ l.map (·.data.toList) = P.1 ∧ e = .returned (.tuple #[v, .int .i64 P.2]) ∧ Below w.heap.size w w'
theorem fd_cut (s : ByteArray) (a b : Nat) (h1 : a ≤ b) (h2 : b ≤ s.size) (W : World) : Sem.run Tryz.prog (Instr.slice 9 (.string s) (some (.int .i64 (a : Int))) (some (.int .i64 (b : Int))) none) W = .ok (.string (s.extract a b)) W := by
 rw [run_slice_string W 9 s .i64 .i64 (a : Int) (b : Int) Tryz.underlying9 (by omega) (by omega) (by omega)]
 simp
theorem fd_ext (s : ByteArray) (a b : Nat) : (s.extract a b).data.toList = (s.data.toList.take b).drop a := by
 rw [ByteArray.data_extract, Array.toList_extract, List.drop_take]
theorem fd_one (s : ByteArray) (k : Nat) (h : k < s.size) : (s.extract k (k + 1)).data.toList = [s[k]] := by
 rw [fd_ext, List.take_succ_eq_append_getElem (by rw [fd_len]; exact h), List.drop_append_of_le_length (by rw [List.length_take, fd_len]; omega), List.drop_of_length_le (by rw [List.length_take]; omega)]
 rfl
theorem fd_app (a b : ByteArray) : (a ++ b).data.toList = a.data.toList ++ b.data.toList := by rw [ByteArray.data_append, Array.toList_append]
theorem fd_parts {i0 : Option TypeInfo} {z : Value} {n b : Nat} (h : i0.map (fun i => (i.zero, i.size, i.bytes)) = some (some z, n, b)) : ∃ i, i0 = some i ∧ i.zero = some z ∧ i.size = n ∧ i.bytes = b := by
 cases i0 with
 | none => cases h
 | some i => simp at h; exact ⟨i, rfl, h.1, h.2.1, h.2.2⟩
theorem fd_info : (Tryz.prog.info? 9).map (fun i => (i.zero, i.size, i.bytes)) = some (some (.string ⟨#[]⟩), 1, 16) := by kernel_rfl
theorem StS.nil (w : World) : StS w (.slice none 0 0) [] := Lst.nil w _
theorem fd_keep {P : Addr} {v : Value} {w W : World} (hm : w.cell? P = some v) (k : Below w.heap.size w W) : W.cell? P = some v :=
 (k.cell (World.block_lt_of_cell? _ _ hm)).trans hm
namespace Fd
def bl (l : List ByteArray) : List (List UInt8) := l.map (·.data.toList)
def tot (l : List ByteArray) : Nat := (l.map (·.size)).foldr (· + ·) 0
theorem jr_next (acc : List UInt8) (k : Nat) (x : List UInt8) (r : List (List UInt8)) (h : (tx x).2 = 0) : jr acc k (x :: r) = jr (acc ++ ((if k = 0 then [] else [32]) ++ (tx x).1)) (k + 1) r := by
 conv => lhs; unfold jr
 rw [if_pos h]
theorem bl_drop (l : List ByteArray) (k : Nat) (h : k < l.length) : (bl l).drop k = l[k].data.toList :: (bl l).drop (k + 1) := by
 unfold bl
 rw [List.drop_eq_getElem_cons (by simpa using h), List.getElem_map]
theorem arr_len (l : List UInt8) : (⟨l.toArray⟩ : ByteArray).size = l.length := List.size_toArray
end Fd
end Go.Proofs.YtbcbggdbojonmaaGreatDoor
set_option linter.unusedVariables false
set_option linter.unusedSimpArgs false
namespace Go.Proofs.YtbcbggdbojonmaaGreatDoor.Wd
open Go
def sm (b : UInt8) : Int := if 65 ≤ (b.toNat : Int) ∧ (b.toNat : Int) ≤ 90 then (b.toNat : Int) + 32 else b.toNat
def beg : List UInt8 → List UInt8 → Bool
 | _, [] => true
 | [], _ :: _ => false
 | w :: ws, s :: ss => decide (sm w = sm s) && beg ws ss
def same (a b : List UInt8) : Bool := decide (a.length = b.length) && beg a b
theorem beg_short : ∀ {a b : List UInt8}, a.length < b.length → beg a b = false := by
 intro a
 induction a with
 | nil => intro b h; cases b with
  | nil => simp at h
  | cons x b => rfl
 | cons w a ih => intro b h; cases b with
  | nil => simp at h
  | cons x b => simp only [beg, ih (by simpa using h), Bool.and_false]
theorem beg_iff : ∀ {a b : List UInt8}, beg a b = true ↔ b.length ≤ a.length ∧ ∀ i (h1 : i < a.length) (h2 : i < b.length), sm a[i] = sm b[i] := by
 intro a
 induction a with
 | nil => intro b; cases b with
  | nil => simp [beg]
  | cons x b => simp [beg]
 | cons w a ih => intro b; cases b with
  | nil => simp [beg]
  | cons x b =>
   simp only [beg, Bool.and_eq_true, decide_eq_true_eq, ih, List.length_cons]
   constructor
   ·
    rintro ⟨h, hl, hi⟩
    refine ⟨by omega, ?_⟩
    intro i h1 h2
    cases i with
    | zero => exact h
    | succ i => exact hi i (by omega) (by omega)
   ·
    rintro ⟨hl, hi⟩
    exact ⟨hi 0 (by omega) (by omega), by omega, fun i h1 h2 => hi (i + 1) (by omega) (by omega)⟩
theorem beg_no {a b : List UInt8} {i : Nat} (h1 : i < a.length) (h2 : i < b.length) (h : sm a[i] ≠ sm b[i]) : beg a b = false := by
 cases hb : beg a b
 ·
  rfl
 ·
  exact absurd ((beg_iff.1 hb).2 i h1 h2) h
theorem beg_yes {a b : List UInt8} (hl : b.length ≤ a.length) (h : ∀ i (h1 : i < a.length) (h2 : i < b.length), sm a[i] = sm b[i]) : beg a b = true := beg_iff.2 ⟨hl, h⟩
theorem same_iff {a b : List UInt8} : same a b = true ↔ a.length = b.length ∧ ∀ i (h1 : i < a.length) (h2 : i < b.length), sm a[i] = sm b[i] := by
 unfold same
 rw [Bool.and_eq_true, decide_eq_true_eq, beg_iff]
 constructor
 ·
  rintro ⟨h, -, hi⟩; exact ⟨h, hi⟩
 ·
  rintro ⟨h, hi⟩; exact ⟨h, by omega, hi⟩
theorem same_comm (a b : List UInt8) : same a b = same b a := by
 rw [Bool.eq_iff_iff, same_iff, same_iff]
 constructor <;> rintro ⟨h, hi⟩ <;> exact ⟨h.symm, fun i h1 h2 => (hi i h2 h1).symm⟩
def exact : List (List UInt8) → Nat → List UInt8 → Option Nat
 | [], _, _ => none
 | w :: ws, i, s => if same w s then some i else exact ws (i + 1) s
def first : List (List UInt8) → Nat → List UInt8 → Option Nat
 | [], _, _ => none
 | w :: ws, i, s => if beg w s then some i else first ws (i + 1) s
end Go.Proofs.YtbcbggdbojonmaaGreatDoor.Wd
