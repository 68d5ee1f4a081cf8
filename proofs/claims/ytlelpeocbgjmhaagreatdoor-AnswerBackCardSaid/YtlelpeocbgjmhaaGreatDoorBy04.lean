/- Joined: NumN, Tx, RdM, RnM, AnP. -/
import Derived.Test.YtlelpeocbgjmhaaGreatDoorBy03
import Derived.Lib.ItoaLen
import Derived.Test.YtlelpeocbgjmhaaGreatDoorBy02
set_option linter.unusedVariables false
namespace Go.Proofs.YtlelpeocbgjmhaaGreatDoor.Num
open Go Go.Lib
theorem itoa_ne (n : Int) : itoa n ≠ [] := by
 unfold itoa
 split
 ·
  simp
 ·
  exact (dec_all n.toNat n.toNat (Nat.le_refl _)).2.1
theorem numT_yes {b : Bool} {d : List UInt8} (h : numT b d = true) : d ≠ [] ∧ d.all dig = true ∧ (∀ c r, d = c :: r → r ≠ [] → c ≠ 48) ∧ (b = true → ∀ c r, d = c :: r → c ≠ 48) := by
 cases d with
 | nil => have h2 : false = true := h; cases h2
 | cons c r =>
  have h' : (!(c == 48 && (b || !r.isEmpty)) && (c :: r).all dig) = true := h
  rw [Bool.and_eq_true] at h'
  obtain ⟨h1, h2⟩ := h'
  refine ⟨by simp, h2, ?_, ?_⟩
  ·
   intro c' r' e hr hc
   injection e with e1 e2
   subst e1 e2
   rw [hc] at h1
   have : r.isEmpty = false := by simpa using hr
   rw [this] at h1; simp at h1
  ·
   intro hb c' r' e hc
   injection e with e1 e2
   subst e1 e2
   rw [hc, hb] at h1; simp at h1
theorem parseU (d : List UInt8) (h : d ≠ []) (ha : d.all dig = true) : parseUintB 64 d = .ok (val 0 d) ∨ parseUintB 64 d = .range := by
 unfold parseUintB
 rw [if_neg h]
 exact parse_all _ d 0 ha
theorem val_pos {d : List UInt8} (h : d ≠ []) (ha : d.all dig = true) (hz : ∀ c r, d = c :: r → c ≠ 48) : 1 ≤ val 0 d := by
 cases d with
 | nil => exact absurd rfl h
 | cons c r =>
  have hc := hz c r rfl
  have hd : 48 ≤ c.toNat ∧ c.toNat ≤ 57 := by
   simp only [List.all_cons, Bool.and_eq_true, dig, decide_eq_true_eq] at ha; exact ha.1
  have hc' : c.toNat ≠ 48 := fun e => hc (UInt8.toNat_inj.1 (by rw [e]; rfl))
  have hs : 1 ≤ stp 0 c := by rw [stp_eq]; omega
  rw [val_cons]; exact Nat.le_trans hs (val_ge r _)
theorem isT_read {l : List UInt8} (h : isT l = true) : parseIntB 64 l = .range ∨ ∃ x, parseIntB 64 l = .ok x ∧ itoa x = l ∧ -9223372036854775808 ≤ x ∧ x ≤ 9223372036854775807 := by
 cases l with
 | nil => exact absurd h (by decide)
 | cons c d =>
  by_cases hc : c = 45
  ·
   subst hc
   unfold isT at h
   rw [hp_cons, tp_minus] at h
   obtain ⟨a, b, e, f⟩ := numT_yes h
   have f := f rfl
   have hp := val_pos a b f
   have hv := dec_of_val d b a e
   unfold parseIntB
   simp only [show (45 : UInt8).toNat = 45 from rfl, or_true, if_true]
   rcases parseU d a b with hu | hu
   ·
    rw [hu]
    simp only [not_true_eq_false, false_and, if_false, true_and]
    by_cases hb : 2 ^ (64 - 1) < val 0 d
    ·
     left; rw [if_pos hb]
    ·
     right
     rw [if_neg hb]
     have hb2 : val 0 d ≤ 9223372036854775808 := by
      have : (2 : Nat) ^ (64 - 1) = 9223372036854775808 := by decide
      omega
     refine ⟨_, rfl, ?_, by omega, by omega⟩
     unfold itoa
     rw [if_pos (by omega), Int.natAbs_neg, Int.natAbs_natCast, hv]
   ·
    left; rw [hu]
  ·
   unfold isT at h
   rw [hp_cons, tp_other c d hc] at h
   obtain ⟨a, b, e, _⟩ := numT_yes h
   have hv := dec_of_val (c :: d) b a e
   have hd : 48 ≤ c.toNat ∧ c.toNat ≤ 57 := by
    simp only [List.all_cons, Bool.and_eq_true, dig, decide_eq_true_eq] at b; exact b.1
   have n43 : ¬ (c.toNat = 43 ∨ c.toNat = 45) := by omega
   have n45 : ¬ c.toNat = 45 := by omega
   unfold parseIntB
   simp only [if_neg n43]
   rcases parseU (c :: d) a b with hu | hu
   ·
    rw [hu]
    simp only [n45, not_false_eq_true, true_and, false_and, if_false]
    by_cases hb : 2 ^ (64 - 1) ≤ val 0 (c :: d)
    ·
     left; rw [if_pos hb]
    ·
     right
     rw [if_neg hb]
     have hb2 : val 0 (c :: d) < 9223372036854775808 := by
      have : (2 : Nat) ^ (64 - 1) = 9223372036854775808 := by decide
      omega
     refine ⟨_, rfl, ?_, by omega, by omega⟩
     unfold itoa
     rw [if_neg (by omega), Int.toNat_natCast, hv]
   ·
    left; rw [hu]
end Go.Proofs.YtlelpeocbgjmhaaGreatDoor.Num
set_option linter.unusedVariables false
set_option linter.unusedSimpArgs false
namespace Go.Proofs.YtlelpeocbgjmhaaGreatDoor.Tx
open Go Go.Lib
def dg (k : Nat) (n : Int) : List UInt8 := List.replicate (k - (itoa n).length) 48 ++ itoa n
def beh (m d h i s : Int) : List UInt8 := 45 :: (dg 2 m ++ (45 :: (dg 2 d ++ (84 :: (dg 2 h ++ (58 :: (dg 2 i ++ (58 :: dg 2 s))))))))
def yr (y : Int) : List UInt8 := if y < 0 then 45 :: dg 4 (-y) else dg 4 y
def txt (y m d h i s : Int) : List UInt8 := yr y ++ beh m d h i s
theorem two_tab : ∀ n : Fin 100, (dg 2 (n.val : Int)).length = 2 := by decide +kernel
theorem dg_two {n : Int} (h0 : 0 ≤ n) (h1 : n < 100) : (dg 2 n).length = 2 := by
 have := two_tab ⟨n.toNat, by omega⟩
 rwa [show ((n.toNat : Nat) : Int) = n by omega] at this
theorem beh_len {m d h i s : Int} (m0 : 0 ≤ m) (m1 : m < 100) (d0 : 0 ≤ d) (d1 : d < 100) (h0 : 0 ≤ h) (h1 : h < 100) (i0 : 0 ≤ i) (i1 : i < 100) (s0 : 0 ≤ s) (s1 : s < 100) : (beh m d h i s).length = 15 := by
 unfold beh
 simp [dg_two m0 m1, dg_two d0 d1, dg_two h0 h1, dg_two i0 i1, dg_two s0 s1]
theorem dg_len (k : Nat) (n : Int) (h0 : -9223372036854775808 ≤ n) (h1 : n ≤ 9223372036854775807) : (dg k n).length ≤ k + 21 := by
 have := itoa_length_le n h0 h1
 unfold dg; simp; omega
theorem dg_ne (k : Nat) (n : Int) : dg k n ≠ [] := by
 unfold dg
 intro h
 exact Num.itoa_ne n (List.append_eq_nil_iff.1 h).2
theorem yr_ne (y : Int) : yr y ≠ [] := by unfold yr; split <;> simp [dg_ne]
theorem yr_len (y : Int) (h0 : -9223372036854775807 ≤ y) (h1 : y ≤ 9223372036854775807) : 1 ≤ (yr y).length ∧ (yr y).length ≤ 30 := by
 refine ⟨List.length_pos_iff.2 (yr_ne y), ?_⟩
 unfold yr
 split
 ·
  have := dg_len 4 (-y) (by omega) (by omega); simp; omega
 ·
  have := dg_len 4 y (by omega) (by omega); omega
end Go.Proofs.YtlelpeocbgjmhaaGreatDoor.Tx
set_option linter.unusedVariables false
set_option linter.unusedSimpArgs false
namespace Go.Proofs.YtlelpeocbgjmhaaGreatDoor
open Go Go.Lib
namespace Num
end Num
namespace Tx
end Tx
namespace Rd
def isY (l : List UInt8) : Bool :=
 !(decide ((trimPrefix l [45]).length < 4)) && (!(decide (4 < (trimPrefix l [45]).length) && ((trimPrefix l [45]).head? == some 48)) && ((trimPrefix l [45]).all Num.dig && !(hasPrefix l [45] && ((trimPrefix l [45]) == [48, 48, 48, 48]))))
def yv (l : List UInt8) : Int := if hasPrefix l [45] then -(Num.val 0 (trimPrefix l [45]) : Int) else (Num.val 0 (trimPrefix l [45]) : Int)
def yl (l : List UInt8) : Bool := decide ((trimPrefix l [45]).length ≤ 5)
def sg : List UInt8 := [45, 45, 84, 58, 58]
def pOk (l : List UInt8) (k : Nat) : Bool := decide (l.getD (3 * k) 0 = sg.getD k 0) && (((l.drop (3 * k + 1)).take 2).all Num.dig)
def pV (l : List UInt8) (k : Nat) : Int := (Num.val 0 ((l.drop (3 * k + 1)).take 2) : Int)
def bOk (l : List UInt8) : Bool := pOk l 0 && (pOk l 1 && (pOk l 2 && (pOk l 3 && pOk l 4)))
def hd (t : List UInt8) : List UInt8 := t.take (t.length - 15)
def tl (t : List UInt8) : List UInt8 := t.drop (t.length - 15)
def form (t : List UInt8) : Bool := decide (15 ≤ t.length) && (isY (hd t) && bOk (tl t))
end Rd
end Go.Proofs.YtlelpeocbgjmhaaGreatDoor
set_option linter.unusedVariables false
namespace Go.Proofs.YtlelpeocbgjmhaaGreatDoor.Num
open Go.RowKit Go.Lib
def rd (l : List UInt8) : Int × Int := if isT l then (match parseIntB 64 l with | .ok v => (v, 0) | _ => (0, 1)) else (0, 2)
end Go.Proofs.YtlelpeocbgjmhaaGreatDoor.Num
set_option linter.unusedVariables false
set_option linter.unusedSimpArgs false
namespace Go.Proofs.YtlelpeocbgjmhaaGreatDoor
namespace An
abbrev I := Int × Int × Int × Int × ByteArray
def I0 : I := (0, 0, 0, 0, ⟨#[]⟩)
def tl (i : I) : List (List UInt8) := [Lib.itoa i.1, Lib.itoa i.2.1, Lib.itoa i.2.2.1, Lib.itoa i.2.2.2.1, i.2.2.2.2.data.toList]
def inf (i : I) : List UInt8 × Int := Fd.jn (tl i)
def w4 (a b c d : List UInt8) : Int := if (Num.rd a).2 ≠ 0 then (Num.rd a).2 else if (Num.rd b).2 ≠ 0 then (Num.rd b).2 else if (Num.rd c).2 ≠ 0 then (Num.rd c).2 else (Num.rd d).2
def rdL : List (List UInt8) → I × Int
 | [a, b, c, d, x] => if w4 a b c d ≠ 0 then (I0, w4 a b c d) else (((Num.rd a).1, (Num.rd b).1, (Num.rd c).1, (Num.rd d).1, ⟨x.toArray⟩), 0)
 | l => (I0, if l.length < 5 then 5 else 6)
def rdi (s : List UInt8) : I × Int := if (Fd.of s).2 ≠ 0 then (I0, (Fd.of s).2) else rdL (Fd.of s).1
def both (i j : I) : List UInt8 × Int := if (inf i).2 ≠ 0 then ([], (inf i).2) else if (inf j).2 ≠ 0 then ([], (inf j).2) else ((inf i).1 ++ [32, 47, 32] ++ (inf j).1, 0)
def loc (k : Int) (i j : I) : List UInt8 × Int :=
 if k = 1 then (if (inf i).2 ≠ 0 then ([], (inf i).2) else ([111, 110, 101, 32] ++ (inf i).1, 0))
 else if k = 2 then (if (both i j).2 ≠ 0 then ([], (both i j).2) else ([110, 111, 110, 101, 32] ++ (both i j).1, 0))
 else if k = 3 then (if (both i j).2 ≠ 0 then ([], (both i j).2) else ([116, 119, 111, 32] ++ (both i j).1, 0))
 else ([], 4)
theorem numT_all {b : Bool} {l : List UInt8} (h : Num.numT b l = true) : ∀ c ∈ l, Num.dig c = true := by
 cases l with
 | nil => intro c hc; cases hc
 | cons x r =>
  unfold Num.numT at h
  rw [Bool.and_eq_true] at h
  exact List.all_eq_true.1 h.2
theorem itoa_ch (n : Int) : ∀ c ∈ Lib.itoa n, c = 45 ∨ Num.dig c = true := by
 have h := Num.isT_itoa n
 generalize Lib.itoa n = l at h
 intro c hc
 unfold Num.isT at h
 cases l with
 | nil => cases hc
 | cons x r =>
  by_cases hx : x = 45
  ·
   subst hx
   rw [Num.tp_minus] at h
   rcases List.mem_cons.1 hc with rfl | hr
   ·
    exact .inl rfl
   ·
    exact .inr (numT_all h c hr)
  ·
   rw [Num.tp_other _ _ hx] at h
   exact .inr (numT_all h c hc)
theorem rdL_five (a b c d x : List UInt8) : rdL [a, b, c, d, x] = if w4 a b c d ≠ 0 then (I0, w4 a b c d) else (((Num.rd a).1, (Num.rd b).1, (Num.rd c).1, (Num.rd d).1, ⟨x.toArray⟩), 0) := rfl
theorem rdL_few (l : List (List UInt8)) (h : l.length < 5) : rdL l = (I0, 5) := by
 match l, h with
 | [], _ => rfl
 | [_], _ => rfl
 | [_, _], _ => rfl
 | [_, _, _], _ => rfl
 | [_, _, _, _], _ => rfl
theorem rdL_many (l : List (List UInt8)) (h : 5 < l.length) : rdL l = (I0, 6) := by
 match l, h with
 | a :: b :: c :: d :: x :: y :: r, h =>
  show (I0, if (a :: b :: c :: d :: x :: y :: r).length < 5 then (5 : Int) else 6) = _
  rw [if_neg (by simp)]
theorem tx_num (n : Int) : Fd.tx (Lib.itoa n) = (Lib.itoa n, 0) := by
 have h := itoa_ch n
 have hne := Num.itoa_ne n
 generalize Lib.itoa n = l at *
 have g : ∀ c ∈ l, Fd.mkB c = false ∧ c ≠ 34 := by
  intro c hc
  rcases h c hc with rfl | hd
  ·
   exact ⟨by decide, by decide⟩
  ·
   have hd : 48 ≤ c.toNat ∧ c.toNat ≤ 57 := by simpa [Num.dig] using hd
   refine ⟨?_, fun e => by subst e; revert hd; decide⟩
   unfold Fd.mkB Fd.isK
   simp
   omega
 unfold Fd.tx
 rw [if_neg, if_neg]
 ·
  rintro (e | e)
  ·
   exact hne e
  ·
   obtain ⟨c, hc, hb⟩ := List.any_eq_true.1 e
   rw [(g c hc).1] at hb; cases hb
 ·
  intro e
  have : (34 : UInt8) ∈ l := by simpa using e
  exact (g _ this).2 rfl
theorem inf_eq (a b c d : Int) (x : ByteArray) : inf (a, b, c, d, x) = if (Fd.tx x.data.toList).2 = 0 then (Lib.itoa a ++ 32 :: (Lib.itoa b ++ 32 :: (Lib.itoa c ++ 32 :: (Lib.itoa d ++ 32 :: (Fd.tx x.data.toList).1))), 0) else ([], (Fd.tx x.data.toList).2) := by
 unfold inf tl Fd.jn
 rw [if_neg (by simp)]
 simp only [Fd.jr, tx_num, if_true]
 by_cases h : (Fd.tx x.data.toList).2 = 0
 ·
  rw [if_pos h, if_pos h]; simp
 ·
  rw [if_neg h, if_neg h]
theorem rd_num {n : Int} (n0 : -9223372036854775808 ≤ n) (n1 : n ≤ 9223372036854775807) : Num.rd (Lib.itoa n) = (n, 0) := by
 unfold Num.rd
 rw [Num.isT_itoa, Num.parse_itoa n n0 n1]; rfl
def bd (n : Int) : Prop := -9223372036854775808 ≤ n ∧ n ≤ 9223372036854775807
theorem rdi_inf (i : I) (h1 : bd i.1) (h2 : bd i.2.1) (h3 : bd i.2.2.1) (h4 : bd i.2.2.2.1) (h : (inf i).2 = 0) : rdi (inf i).1 = (i, 0) := by
 obtain ⟨a, b, c, d, x⟩ := i
 have e : Fd.jn (tl (a, b, c, d, x)) = ((inf (a, b, c, d, x)).1, 0) := by rw [← h]; rfl
 have := Fd.of_jn _ _ e
 unfold rdi
 rw [this]
 rw [if_neg (by simp)]
 show rdL [Lib.itoa a, Lib.itoa b, Lib.itoa c, Lib.itoa d, x.data.toList] = _
 rw [rdL_five]
 unfold w4
 have r1 := rd_num h1.1 h1.2
 have r2 := rd_num h2.1 h2.2
 have r3 := rd_num h3.1 h3.2
 have r4 := rd_num h4.1 h4.2
 dsimp only at r1 r2 r3 r4
 rw [r1, r2, r3, r4]
 simp
theorem rd_bd {l : List UInt8} : bd (Num.rd l).1 := by
 unfold Num.rd bd
 cases ht : Num.isT l
 ·
  simp
 ·
  rcases Num.isT_read ht with h | ⟨x, h, -, h1, h2⟩
  ·
   rw [h]; simp
  ·
   rw [h]; exact ⟨h1, h2⟩
theorem inf_rdi {s : List UInt8} (h : (rdi s).2 = 0) : (inf (rdi s).1).2 = 0 ∧ bd (rdi s).1.1 ∧ bd (rdi s).1.2.1 ∧ bd (rdi s).1.2.2.1 ∧ bd (rdi s).1.2.2.2.1 := by
 unfold rdi at h ⊢
 by_cases hy : (Fd.of s).2 = 0
 ·
  rw [if_neg (by simp [hy])] at h ⊢
  have hn : ∀ x ∈ (Fd.of s).1, (34 : UInt8) ∉ x := by
   unfold Fd.of Fd.told at hy ⊢
   cases hg : Fd.go [] [] false false s with
   | none => rw [hg] at hy; simp at hy
   | some P =>
    rw [hg] at hy
    dsimp only at hy ⊢
    split at hy
    ·
     simp at hy
    ·
     rename_i h16
     rw [if_neg h16]
     exact Fd.go_no34 s [] [] false false P hg (by simp) (by simp)
  generalize (Fd.of s).1 = P at h hn
  match P, h with
  | [a, b, c, d, x], h =>
   rw [rdL_five] at h ⊢
   by_cases hw : w4 a b c d = 0
   ·
    rw [if_neg (by simp [hw])]
    dsimp only
    refine ⟨?_, rd_bd, rd_bd, rd_bd, rd_bd⟩
    rw [inf_eq, if_pos]
    have := Fd.tx_ok (x := x) (hn x (by simp))
    simpa using this
   ·
    rw [if_pos hw] at h; exact absurd h hw
  | [], h => simp [rdL] at h
  | [_], h => simp [rdL] at h
  | [_, _], h => simp [rdL] at h
  | [_, _, _], h => simp [rdL] at h
  | [_, _, _, _], h => simp [rdL] at h
  | _ :: _ :: _ :: _ :: _ :: _ :: r, h => simp [rdL] at h; split at h <;> omega
 ·
  rw [if_pos hy] at h; exact absurd h hy
end An
end Go.Proofs.YtlelpeocbgjmhaaGreatDoor
