/- Joined: QyH, BkQ, QyI, PairL. -/
import Derived.Test.YtbcbggdbojonmaaGreatDoorBq21
import Derived.Test.YtbcbggdbojonmaaGreatDoorBq03
import Derived.Laws.IdiomCopy
import Derived.Test.YtbcbggdbojonmaaGreatDoorBq20
set_option linter.unusedVariables false
set_option linter.unusedSimpArgs false
namespace Go.Proofs.YtbcbggdbojonmaaGreatDoor
namespace Qy
def one (s : Int) (x : List UInt8) (q : Q) : Q × Int :=
 if s = 0 then ((q.1, x, q.2.2.1, q.2.2.2.1, q.2.2.2.2.1, q.2.2.2.2.2), Lk.nm x)
 else if s = 1 then ((q.1, q.2.1, (sc x).1, q.2.2.2.1, q.2.2.2.2.1, q.2.2.2.2.2), (sc x).2)
 else if s = 5 then ((q.1, q.2.1, (Num.rd x).1, q.2.2.2.1, q.2.2.2.2.1, q.2.2.2.2.2), (Num.rd x).2)
 else if s = 2 ∨ s = 6 then ((q.1, q.2.1, q.2.2.1, (Num.rd x).1, q.2.2.2.2.1, q.2.2.2.2.2), (Num.rd x).2)
 else if s = 3 then ((q.1, q.2.1, q.2.2.1, q.2.2.2.1, (Wd.mat x units).1 + 1, q.2.2.2.2.2), (Wd.mat x units).2)
 else ((q.1, q.2.1, q.2.2.1, q.2.2.2.1, q.2.2.2.2.1, (Wd.mat x pols).1 + 1), (Wd.mat x pols).2)
theorem one_kind (s : Int) (x : List UInt8) (q : Q) : (one s x q).1.1 = q.1 := by
 unfold one
 repeat (split; · rfl)
 rfl
def stp : List Int → List (List UInt8) → Q → Q × Int
 | s :: l, x :: r, q => if (one s x q).2 ≠ 0 then (Q0, (one s x q).2) else stp l r (one s x q).1
 | _, _, q => (q, 0)
theorem stp_cons (s : Int) (l : List Int) (x : List UInt8) (r : List (List UInt8)) (q : Q) : stp (s :: l) (x :: r) q = if (one s x q).2 ≠ 0 then (Q0, (one s x q).2) else stp l r (one s x q).1 := rfl
theorem stp_no {s : Int} {l : List Int} {x : List UInt8} {r : List (List UInt8)} {q : Q} (h : (one s x q).2 ≠ 0) : stp (s :: l) (x :: r) q = (Q0, (one s x q).2) := if_pos h
theorem stp_yes {s : Int} {l : List Int} {x : List UInt8} {r : List (List UInt8)} {q : Q} (h : (one s x q).2 = 0) : stp (s :: l) (x :: r) q = stp l r (one s x q).1 := if_neg (by simp [h])
def aft (k : Int) (q : Q × Int) : Q × Int :=
 if q.2 ≠ 0 then (Q0, q.2) else if k = 7 then (if ¬ (yr q.1.2.2.1 ∧ yr q.1.2.2.2.1) then (Q0, 1) else if ¬ q.1.2.2.1 ≤ q.1.2.2.2.1 then (Q0, 14) else (q.1, 0)) else (q.1, 0)
theorem fin_cons (x : Int) (w : List Int) (q : Q) : fin (x :: w) q = if x ≠ 0 then (Q0, x) else fin w q := by
 by_cases h : x = 0
 ·
  subst h
  rw [if_neg (by simp)]
  unfold fin
  rw [fst_0]
 ·
  rw [if_pos h]
  unfold fin
  rw [show fst (x :: w) = x from if_pos h, if_neg h]
theorem fin_nil (q : Q) : fin [] q = (q, 0) := rfl
theorem aft_no (k : Int) {y : Int} (h : y ≠ 0) : aft k (Q0, y) = (Q0, y) := if_pos h
theorem rdK_stp (k : Nat) (r : List (List UInt8)) (h1 : 1 ≤ k) (h7 : k ≤ 7) :
  rdK k r = if r.length < (sl k).length then (Q0, 5) else if (sl k).length < r.length then (Q0, 6) else aft k (stp (sl k) r ((k : Int), [], 0, 0, 0, 0)) := by
 obtain rfl | rfl | rfl | rfl | rfl | rfl | rfl : k = 1 ∨ k = 2 ∨ k = 3 ∨ k = 4 ∨ k = 5 ∨ k = 6 ∨ k = 7 := by omega
 case inl | inr.inl | inr.inr.inr.inl =>
  match r with
  | [] => rfl
  | [_] => rfl
  | [z, s] =>
   show fin [Lk.nm z, (sc s).2] _ = aft _ (stp [0, 1] [z, s] _)
   rw [fin_cons]
   by_cases a : Lk.nm z = 0
   ·
    rw [if_neg (by simp [a]), stp_yes (s := 0) (x := z) a, fin_cons]
    by_cases b : (sc s).2 = 0
    ·
     rw [if_neg (by simp [b]), stp_yes (s := 1) (x := s) b]; rfl
    ·
     rw [if_pos b, stp_no (s := 1) (x := s) b]; exact (aft_no _ b).symm
   ·
    rw [if_pos a, stp_no (s := 0) (x := z) a]; exact (aft_no _ a).symm
  | _ :: _ :: _ :: r =>
   rw [if_neg (by simp [sl]), if_pos (by simp [sl])]
   unfold rdK
   simp
 case inr.inr.inl =>
  match r with
  | [] => rfl
  | [_] => rfl
  | [_, _] => rfl
  | [z, s, p] =>
   show fin [Lk.nm z, (sc s).2, (Wd.mat p pols).2] _ = aft _ (stp [0, 1, 4] [z, s, p] _)
   rw [fin_cons]
   by_cases a : Lk.nm z = 0
   ·
    rw [if_neg (by simp [a]), stp_yes (s := 0) (x := z) a, fin_cons]
    by_cases b : (sc s).2 = 0
    ·
     rw [if_neg (by simp [b]), stp_yes (s := 1) (x := s) b, fin_cons]
     by_cases c : (Wd.mat p pols).2 = 0
     ·
      rw [if_neg (by simp [c]), stp_yes (s := 4) (x := p) c]; rfl
     ·
      rw [if_pos c, stp_no (s := 4) (x := p) c]; exact (aft_no _ c).symm
    ·
     rw [if_pos b, stp_no (s := 1) (x := s) b]; exact (aft_no _ b).symm
   ·
    rw [if_pos a, stp_no (s := 0) (x := z) a]; exact (aft_no _ a).symm
  | _ :: _ :: _ :: _ :: r =>
   rw [if_neg (by simp [sl]), if_pos (by simp [sl])]
   unfold rdK
   simp
 case inr.inr.inr.inr.inl =>
  match r with
  | [] => rfl
  | [_] => rfl
  | [_, _] => rfl
  | [_, _, _] => rfl
  | [_, _, _, _] => rfl
  | [z, s, n, u, p] =>
   show fin [Lk.nm z, (sc s).2, (Num.rd n).2, (Wd.mat u units).2, (Wd.mat p pols).2] _ = aft _ (stp [0, 1, 2, 3, 4] [z, s, n, u, p] _)
   rw [fin_cons]
   by_cases a : Lk.nm z = 0
   ·
    rw [if_neg (by simp [a]), stp_yes (s := 0) (x := z) a, fin_cons]
    by_cases b : (sc s).2 = 0
    ·
     rw [if_neg (by simp [b]), stp_yes (s := 1) (x := s) b, fin_cons]
     by_cases d : (Num.rd n).2 = 0
     ·
      rw [if_neg (by simp [d]), stp_yes (s := 2) (x := n) d, fin_cons]
      by_cases e : (Wd.mat u units).2 = 0
      ·
       rw [if_neg (by simp [e]), stp_yes (s := 3) (x := u) e, fin_cons]
       by_cases c : (Wd.mat p pols).2 = 0
       ·
        rw [if_neg (by simp [c]), stp_yes (s := 4) (x := p) c]; rfl
       ·
        rw [if_pos c, stp_no (s := 4) (x := p) c]; exact (aft_no _ c).symm
      ·
       rw [if_pos e, stp_no (s := 3) (x := u) e]; exact (aft_no _ e).symm
     ·
      rw [if_pos d, stp_no (s := 2) (x := n) d]; exact (aft_no _ d).symm
    ·
     rw [if_pos b, stp_no (s := 1) (x := s) b]; exact (aft_no _ b).symm
   ·
    rw [if_pos a, stp_no (s := 0) (x := z) a]; exact (aft_no _ a).symm
  | _ :: _ :: _ :: _ :: _ :: _ :: r =>
   rw [if_neg (by simp [sl]), if_pos (by simp [sl])]
   unfold rdK
   simp
 case inr.inr.inr.inr.inr.inl =>
  match r with
  | [] => rfl
  | _ :: r =>
   rw [if_neg (by simp [sl]), if_pos (by simp [sl])]
   rfl
 case inr.inr.inr.inr.inr.inr =>
  match r with
  | [] => rfl
  | [_] => rfl
  | [_, _] => rfl
  | [z, a, b] =>
   show fin [Lk.nm z, (Num.rd a).2, (Num.rd b).2, _, _] _ = aft _ (stp [0, 5, 6] [z, a, b] _)
   rw [fin_cons]
   by_cases h : Lk.nm z = 0
   ·
    rw [if_neg (by simp [h]), stp_yes (s := 0) (x := z) h, fin_cons]
    by_cases h2 : (Num.rd a).2 = 0
    ·
     rw [if_neg (by simp [h2]), stp_yes (s := 5) (x := a) h2, fin_cons]
     by_cases h3 : (Num.rd b).2 = 0
     ·
      rw [if_neg (by simp [h3]), stp_yes (s := 6) (x := b) h3, fin_cons, fin_cons, fin_nil]
      show _ = if ¬ (yr (Num.rd a).1 ∧ yr (Num.rd b).1) then (Q0, (1 : Int)) else if ¬ (Num.rd a).1 ≤ (Num.rd b).1 then (Q0, 14) else _
      by_cases h4 : yr (Num.rd a).1 ∧ yr (Num.rd b).1
      ·
       by_cases h5 : (Num.rd a).1 ≤ (Num.rd b).1
       ·
        rw [if_pos h4, if_pos h5, if_neg (show ¬ ((0 : Int) ≠ 0) by decide), if_neg (show ¬ ((0 : Int) ≠ 0) by decide), if_neg (not_not_intro h4), if_neg (not_not_intro h5)]; rfl
       ·
        rw [if_pos h4, if_neg h5, if_neg (show ¬ ((0 : Int) ≠ 0) by decide), if_pos (show (14 : Int) ≠ 0 by decide), if_neg (not_not_intro h4), if_pos h5]
      ·
       rw [if_neg h4, if_pos (show (1 : Int) ≠ 0 by decide), if_pos h4]
     ·
      rw [if_pos h3, stp_no (s := 6) (x := b) h3]; exact (aft_no _ h3).symm
    ·
     rw [if_pos h2, stp_no (s := 5) (x := a) h2]; exact (aft_no _ h2).symm
   ·
    rw [if_pos h, stp_no (s := 0) (x := z) h]; exact (aft_no _ h).symm
  | _ :: _ :: _ :: _ :: r =>
   rw [if_neg (by simp [sl]), if_pos (by simp [sl])]
   unfold rdK
   simp
end Qy
end Go.Proofs.YtbcbggdbojonmaaGreatDoor
set_option linter.unusedVariables false
set_option linter.unusedSimpArgs false
namespace Go.Proofs.YtbcbggdbojonmaaGreatDoor
open Go.RowKit
theorem Bk6.set1 {W W9 : World} {b : Nat} {v z0 z1 z2 z3 z4 z5 : Value} (h : Bk6 W b z0 z1 z2 z3 z4 z5) (e : W9 = W.setCell ⟨b, 1, none⟩ v) : Bk6 W9 b z0 v z2 z3 z4 z5 := by
 subst e
 have hb := h.hb; have hf := h.fz
 have h0 := h.k0; have h1 := h.k1; have h2 := h.k2; have h3 := h.k3; have h4 := h.k4; have h5 := h.k5
 clear h
 exact ⟨by simpa using hb, fun j => by simpa using hf j, by simp [go_sem, h0], by simp [go_sem, h1], by simp [go_sem, h2], by simp [go_sem, h3], by simp [go_sem, h4], by simp [go_sem, h5]⟩
theorem Bk6.set2 {W W9 : World} {b : Nat} {v z0 z1 z2 z3 z4 z5 : Value} (h : Bk6 W b z0 z1 z2 z3 z4 z5) (e : W9 = W.setCell ⟨b, 2, none⟩ v) : Bk6 W9 b z0 z1 v z3 z4 z5 := by
 subst e
 have hb := h.hb; have hf := h.fz
 have h0 := h.k0; have h1 := h.k1; have h2 := h.k2; have h3 := h.k3; have h4 := h.k4; have h5 := h.k5
 clear h
 exact ⟨by simpa using hb, fun j => by simpa using hf j, by simp [go_sem, h0], by simp [go_sem, h1], by simp [go_sem, h2], by simp [go_sem, h3], by simp [go_sem, h4], by simp [go_sem, h5]⟩
theorem Bk6.set3 {W W9 : World} {b : Nat} {v z0 z1 z2 z3 z4 z5 : Value} (h : Bk6 W b z0 z1 z2 z3 z4 z5) (e : W9 = W.setCell ⟨b, 3, none⟩ v) : Bk6 W9 b z0 z1 z2 v z4 z5 := by
 subst e
 have hb := h.hb; have hf := h.fz
 have h0 := h.k0; have h1 := h.k1; have h2 := h.k2; have h3 := h.k3; have h4 := h.k4; have h5 := h.k5
 clear h
 exact ⟨by simpa using hb, fun j => by simpa using hf j, by simp [go_sem, h0], by simp [go_sem, h1], by simp [go_sem, h2], by simp [go_sem, h3], by simp [go_sem, h4], by simp [go_sem, h5]⟩
theorem Bk6.set4 {W W9 : World} {b : Nat} {v z0 z1 z2 z3 z4 z5 : Value} (h : Bk6 W b z0 z1 z2 z3 z4 z5) (e : W9 = W.setCell ⟨b, 4, none⟩ v) : Bk6 W9 b z0 z1 z2 z3 v z5 := by
 subst e
 have hb := h.hb; have hf := h.fz
 have h0 := h.k0; have h1 := h.k1; have h2 := h.k2; have h3 := h.k3; have h4 := h.k4; have h5 := h.k5
 clear h
 exact ⟨by simpa using hb, fun j => by simpa using hf j, by simp [go_sem, h0], by simp [go_sem, h1], by simp [go_sem, h2], by simp [go_sem, h3], by simp [go_sem, h4], by simp [go_sem, h5]⟩
theorem Bk6.set5 {W W9 : World} {b : Nat} {v z0 z1 z2 z3 z4 z5 : Value} (h : Bk6 W b z0 z1 z2 z3 z4 z5) (e : W9 = W.setCell ⟨b, 5, none⟩ v) : Bk6 W9 b z0 z1 z2 z3 z4 v := by
 subst e
 have hb := h.hb; have hf := h.fz
 have h0 := h.k0; have h1 := h.k1; have h2 := h.k2; have h3 := h.k3; have h4 := h.k4; have h5 := h.k5
 clear h
 exact ⟨by simpa using hb, fun j => by simpa using hf j, by simp [go_sem, h0], by simp [go_sem, h1], by simp [go_sem, h2], by simp [go_sem, h3], by simp [go_sem, h4], by simp [go_sem, h5]⟩
theorem Bk6.other {W W9 : World} {b c i : Nat} {v z0 z1 z2 z3 z4 z5 : Value} (h : Bk6 W b z0 z1 z2 z3 z4 z5) (e : W9 = W.setCell ⟨c, i, none⟩ v) (hne : c ≠ b) : Bk6 W9 b z0 z1 z2 z3 z4 z5 := by
 subst e
 have hb := h.hb; have hf := h.fz; have hne2 := Ne.symm hne
 have h0 := h.k0; have h1 := h.k1; have h2 := h.k2; have h3 := h.k3; have h4 := h.k4; have h5 := h.k5
 clear h
 exact ⟨by simpa using hb, fun j => by simpa using hf j, by simp [go_sem, h0, hne, hne2], by simp [go_sem, h1, hne, hne2], by simp [go_sem, h2, hne, hne2], by simp [go_sem, h3, hne, hne2], by simp [go_sem, h4, hne, hne2], by simp [go_sem, h5, hne, hne2]⟩
theorem set6 {W W9 : World} {b : Nat} {z0 z1 z2 z3 z4 z5 v0 v1 v2 v3 v4 v5 : Value} (h : Bk6 W b z0 z1 z2 z3 z4 z5) (e : W9 = ((((((W.setCell ⟨b, 0, none⟩ v0).setCell ⟨b, 1, none⟩ v1).setCell ⟨b, 2, none⟩ v2).setCell ⟨b, 3, none⟩ v3).setCell ⟨b, 4, none⟩ v4).setCell ⟨b, 5, none⟩ v5)) : Bk6 W9 b v0 v1 v2 v3 v4 v5 := by
 subst e
 have hb := h.hb; have hf := h.fz
 have h0 := h.k0; have h1 := h.k1; have h2 := h.k2; have h3 := h.k3; have h4 := h.k4; have h5 := h.k5
 clear h
 exact ⟨by simpa using hb, fun j => by simpa using hf j, by simp [go_sem, h0, h1, h2, h3, h4, h5], by simp [go_sem, h0, h1, h2, h3, h4, h5], by simp [go_sem, h0, h1, h2, h3, h4, h5], by simp [go_sem, h0, h1, h2, h3, h4, h5], by simp [go_sem, h0, h1, h2, h3, h4, h5], by simp [go_sem, h0, h1, h2, h3, h4, h5]⟩
theorem below_set6 {W W9 : World} {b n : Nat} {u : World} {v0 v1 v2 v3 v4 v5 : Value} (h : Below n u W) (hb : n ≤ b) (e : W9 = ((((((W.setCell ⟨b, 0, none⟩ v0).setCell ⟨b, 1, none⟩ v1).setCell ⟨b, 2, none⟩ v2).setCell ⟨b, 3, none⟩ v3).setCell ⟨b, 4, none⟩ v4).setCell ⟨b, 5, none⟩ v5)) : Below n u W9 := by
 subst e
 iterate 6 (refine Below.setCell ?_ (by simpa using hb) _)
 exact h
section
variable {P : Program} {ops : Array Oper} {rest : List Oper} {o : Oper} {a : Act} {w : World} {Q : Exit → Act → World → Prop}
end
end Go.Proofs.YtbcbggdbojonmaaGreatDoor
set_option linter.unusedVariables false
set_option linter.unusedSimpArgs false
namespace Go.Proofs.YtbcbggdbojonmaaGreatDoor
open Go.RowKit Go.Sort
def QBk (w : World) (b : Nat) (q : Qy.Q) : Prop := Bk6 w b (.int .i64 q.1) (.string ⟨q.2.1.toArray⟩) (.int .i64 q.2.2.1) (.int .i64 q.2.2.2.1) (.int .i64 q.2.2.2.2.1) (.int .i64 q.2.2.2.2.2)
theorem QBk.keep {w W : World} {b : Nat} {q : Qy.Q} (h : QBk w b q) (k : Below w.heap.size w W) : QBk W b q := Bk6.keep h k
def AnsQO (b : Nat) (R : Qy.Q × Int) (w : World) (e : Ending) (w' : World) : Prop := (R.2 = 0 ∧ e = .returned (.tuple #[]) ∧ QBk w' b R.1 ∧ (∀ n u, n ≤ b → n ≤ w.heap.size → Below n u w → Below n u w') ∧ ∀ base v l, b < base → NsS base w v l → NsS base w' v l) ∨ (R.2 ≠ 0 ∧ e = .panicked (gvP R.2) ∧ Below w.heap.size w w')
theorem qo_st {b c : Nat} {v : Value} {y : Int} {w : World} {e : Ending} {w' : World} {q q' : Qy.Q} (X : QBk w b q) (hs : ∀ w1 w2, Below w.heap.size w w1 → w2 = w1.setCell ⟨b, c, none⟩ v → QBk w2 b q') (h : AnsSt b c v y w e w') : AnsQO b (q', y) w e w' := by
 rcases h with ⟨h, rfl, w1, b1, rfl⟩ | ⟨h, rfl, b1⟩
 ·
  exact .inl ⟨h, rfl, hs _ _ b1 rfl, fun n u hb hn hu => Below.setCell (hu.trans (b1.mono hn)) hb _, fun base v l hb hv => (hv.on b1).other hb⟩
 ·
  exact .inr ⟨h, rfl, b1⟩
theorem qsread_any (s : Int) (h0 : 0 ≤ s) (h6 : s ≤ 6) (b : Nat) (q : Qy.Q) (x : ByteArray) (w : World) (X : QBk w b q) (hx : x.size ≤ 1000) (tp : TypeId) (pp : Value) (hvar : w.var? Tryz.prog "strconv.ErrRange" = some #[.iface tp pp]) :
  Calls Tryz.prog 48 #[.int .i64 s, .pointer (some ⟨b, 0, none⟩), .string x] w (AnsQO b (Qy.one s x.data.toList q) w) := by
 obtain ⟨k, z, t, n, u, p⟩ := q
 obtain rfl | rfl | rfl | rfl | rfl | rfl | rfl : s = 0 ∨ s = 1 ∨ s = 2 ∨ s = 3 ∨ s = 4 ∨ s = 5 ∨ s = 6 := by omega
 ·
  exact (qsread_z b _ _ _ _ _ _ x w X hx).mono fun e w' h => qo_st X (fun w1 w2 b1 e => by have t := (Bk6.keep X b1).set1 (v := .string x) e; rw [← fd_id x] at t; exact t) h
 ·
  exact (qsread_s b _ _ _ _ _ _ x w X hx tp pp hvar).mono fun e w' h => qo_st X (fun w1 w2 b1 e => (Bk6.keep X b1).set2 e) h
 ·
  exact (qsread_n2 b _ _ _ _ _ _ x w X hx tp pp hvar).mono fun e w' h => qo_st X (fun w1 w2 b1 e => (Bk6.keep X b1).set3 e) h
 ·
  exact (qsread_u b _ _ _ _ _ _ x w X hx).mono fun e w' h => qo_st X (fun w1 w2 b1 e => (Bk6.keep X b1).set4 e) h
 ·
  exact (qsread_p b _ _ _ _ _ _ x w X hx).mono fun e w' h => qo_st X (fun w1 w2 b1 e => (Bk6.keep X b1).set5 e) h
 ·
  exact (qsread_n5 b _ _ _ _ _ _ x w X hx tp pp hvar).mono fun e w' h => qo_st X (fun w1 w2 b1 e => (Bk6.keep X b1).set2 e) h
 ·
  exact (qsread_n6 b _ _ _ _ _ _ x w X hx tp pp hvar).mono fun e w' h => qo_st X (fun w1 w2 b1 e => (Bk6.keep X b1).set3 e) h
end Go.Proofs.YtbcbggdbojonmaaGreatDoor
namespace Go.Pairs
open Go
section
variable (P : Program) (l : List Oper) (n : Nat) (R : Nat → Value → World → Prop) (till : Nat → Option Nat) (D : World → Prop) (G : Nat → World → World → Prop) (Q : Exit → Act → World → Prop) (a0 : Act)
structure GoodL : Prop where
 nodup : nodupB (l.filterMap (·.dst)) = true
 on : onB 0 l = true
 inside : insideB a0.tmps.size l = true
 len : l.length = n + 1
 all : (List.range n).all (fun j => (l[n]?).any (fun o => waitsB o j)) = true
 keep : ∀ i w w', D w → G i w w' → D w'
 stable : ∀ i j, i ≠ j → till j ≠ some i → ∀ v w w', G i w w' → R j v w → R j v w'
 ob : ∀ i o, i < n → l[i]? = some o → ObT P l R till D G Q a0 i o
 last : ∀ o, l[n]? = some o → ∀ a w, D w → Same l a0 a → (∀ j oj d, j < n → l[j]? = some oj → oj.dst = some d → till j = none → ∃ v, a.tmps[d]? = some v ∧ R j v w) →
  ∀ K : Act → World → Prop, (∀ v w', Q .normal (a.put o.dst v) w' → K (a.put o.dst v) w') → if Region.wanted o (yielded l.toArray a.tmps) = true then o.wp P a w K Q else K (a.put o.dst undef) w
variable {P l n R till D G Q a0}
theorem GoodL.waits (h : GoodL P l n R till D G Q a0) {o : Oper} (ho : l[n]? = some o) {j : Nat} (hj : j < n) : waitsB o j = true := by
 have := List.all_eq_true.1 h.all j (List.mem_range.2 hj)
 rw [ho] at this
 simpa using this
theorem GoodL.goodF (h : GoodL P l n R till D G Q a0) : GoodF P l (fun ld a w => (ld n = false → CT l R till D a0 ld a w) ∧ (ld n = true → Q .normal a w)) Q a0 where
 on := h.on
 ob := fun i o ho ld a w hC hif hw hcl hS K hK => by
  by_cases hin : i = n
  ·
   subst hin
   obtain ⟨hD, -, hR⟩ := hC.1 hif
   refine h.last o ho a w hD hS (fun j oj d hjn hj hd htl => ?_) K fun v w' hq => hK _ _ ⟨fun hf => ?_, fun _ => hq⟩
   ·
    refine hR j oj d hj hd (hw j (h.waits ho hjn)) fun t ht => ?_
    rw [htl] at ht; cases ht
   ·
    unfold come at hf; rw [if_pos rfl] at hf; cases hf
  ·
   have hlt : i < n := by
    have := (List.getElem?_eq_some_iff.1 ho).1
    have := h.len
    omega
   have hn : ld n = false := by
    rcases hb : ld n with _ | _
    ·
     rfl
    ·
     have hl : n < l.length := by have := h.len; omega
     have := hcl n l[n] i (List.getElem?_eq_getElem hl) hb (h.waits (List.getElem?_eq_getElem hl) hlt)
     rw [hif] at this; cases this
   have hC := hC.1 hn
   refine h.ob i o hlt ho a w hC.1 hC.2.1 (fun j oj d hj hd hwj hlv => ?_) K fun v w' hG hRv => hK _ _ ⟨fun _ => ⟨h.keep _ _ _ hC.1 hG, hS.put ho v, ?_⟩, fun ht => ?_⟩
   ·
    refine hC.2.2 j oj d hj hd (hw j hwj) fun t ht => ?_
    rcases live_at hlv t ht with e | ⟨ot, e1, e2⟩
    ·
     subst e; exact hif
    ·
     rcases hb : ld t with _ | _
     ·
      rfl
     ·
      have := hcl t ot i e1 hb e2
      rw [hif] at this; cases this
   ·
    intro j oj d hj hd hl htl
    unfold come at hl htl
    by_cases hij : j = i
    ·
     subst hij
     obtain rfl : o = oj := by rw [ho] at hj; exact Option.some.inj hj
     rw [hd, put_same (by rw [hS.size]; exact inside_at h.inside hj hd)]
     exact ⟨_, rfl, hRv⟩
    ·
     rw [if_neg hij] at hl
     rw [put_other (fun he => hij (nodup_at h.nodup ho hj he hd).symm)]
     obtain ⟨v', h1, h2⟩ := hC.2.2 j oj d hj hd hl fun t ht => by
      have := htl t ht
      by_cases hti : t = i
      ·
       rw [if_pos hti] at this; cases this
      ·
       rwa [if_neg hti] at this
     refine ⟨v', h1, h.stable i j (fun e => hij e.symm) (fun e => ?_) _ _ _ hG h2⟩
     have := htl i e
     rw [if_pos rfl] at this; cases this
   ·
    unfold come at ht; rw [if_neg (fun e => hin e.symm), hn] at ht; cases ht
 last := fun ld a w hC hall hS => hC.2 (hall n (by have := h.len; omega))
theorem wp_region_last {id : Nat} {w : World} (hm : P.follows .mixedOrders = true) (hD : D w.drew) (h : GoodL P l n R till D G Q a0) : (Code.region id l.toArray true).wp P Q a0 w :=
 wp_region_frame (C := fun ld a w => (ld n = false → CT l R till D a0 ld a w) ∧ (ld n = true → Q .normal a w)) hm ⟨fun _ => ⟨hD, ⟨rfl, rfl, fun _ _ => rfl⟩, fun _ _ _ _ _ hl => by cases hl⟩, fun hl => by cases hl⟩ h.goodF
def ObsU (P : Program) (l : List Oper) (R : Nat → Value → World → Prop) (till : Nat → Option Nat) (D : World → Prop) (G : Nat → World → World → Prop) (Q : Exit → Act → World → Prop) (a0 : Act) : Nat → Nat → List Oper → Prop
 | _, 0, _ => True
 | _, _, [] => True
 | k, m + 1, o :: os => ObT P l R till D G Q a0 k o ∧ ObsU P l R till D G Q a0 (k + 1) m os
theorem ObsU.at : ∀ {os : List Oper} {k m : Nat}, ObsU P l R till D G Q a0 k m os → ∀ i o, i < m → os[i]? = some o → ObT P l R till D G Q a0 (k + i) o := by
 intro os
 induction os with
 | nil => intro k m _ i o _ h; simp at h
 | cons x os ih =>
  intro k m h i o hi ho
  cases m with
  | zero => omega
  | succ m =>
   cases i with
   | zero => simp at ho; subst ho; exact h.1
   | succ i => simp at ho; have := ih h.2 i o (by omega) ho; rw [show k + (i + 1) = k + 1 + i by omega]; exact this
theorem ObsU.all (h : ObsU P l R till D G Q a0 0 n l) : ∀ i o, i < n → l[i]? = some o → ObT P l R till D G Q a0 i o := fun i o hi ho => by
 have := h.at i o hi ho
 rwa [Nat.zero_add] at this
theorem ObsU.nil {k : Nat} {os : List Oper} : ObsU P l R till D G Q a0 k 0 os := by unfold ObsU; trivial
theorem ObsU.cons {k k' m : Nat} {o : Oper} {os : List Oper} (hk : k + 1 = k') (h : ObT P l R till D G Q a0 k o) (hs : ObsU P l R till D G Q a0 k' m os) : ObsU P l R till D G Q a0 k (m + 1) (o :: os) := ⟨h, hk ▸ hs⟩
end
end Go.Pairs
