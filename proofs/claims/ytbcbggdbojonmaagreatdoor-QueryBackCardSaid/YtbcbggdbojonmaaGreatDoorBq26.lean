/- Joined: FdA, FdB, FdG. -/
import Derived.Test.YtbcbggdbojonmaaGreatDoorBq03
import Derived.Lib.DecodeN
import Derived.Shelf.GgClosure.StringsTrimFunc
import Derived.Shelf.GgClosure.StringsIndexFuncTop
import Derived.Laws.RangeAny
import Derived.Test.YtbcbggdbojonmaaGreatDoorLaidF
import Derived.Shelf.Strings.Runes
import Derived.Lib.IndexAny
import Derived.Test.YtbcbggdbojonmaaGreatDoorBq01
import Derived.Test.YtbcbggdbojonmaaGreatDoorBq09
import Derived.Lib.IndexMore
import Derived.Lib.IndexBytes
set_option linter.unusedVariables false
set_option linter.unusedSimpArgs false
namespace Go.Proofs.YtbcbggdbojonmaaGreatDoor
open Go.RowKit
namespace Fd
theorem decode_low (s : ByteArray) (pos : Nat) (h : pos < s.size) (ha : (s[pos]'h).toNat < 128) : Utf8.decode s pos = ((s[pos]'h).toNat, 1) := by
 simp only [Utf8.decode, get_at s pos h, ha, if_true]
def fi (Q : UInt8 → Bool) : List UInt8 → Int → Int
 | [], _ => -1
 | c :: t, k => if Q c = true then k else fi Q t (k + 1)
theorem dn (n b0 b1 b2 b3 : Nat) (h : 128 ≤ b0) (n1 : 1 ≤ n) : (Lib.decodeN n b0 b1 b2 b3).2 ≤ n ∧ (Lib.decodeN n b0 b1 b2 b3).2 ≤ 4 ∧ (2 ≤ (Lib.decodeN n b0 b1 b2 b3).2 → 128 ≤ b1) ∧ (3 ≤ (Lib.decodeN n b0 b1 b2 b3).2 → 128 ≤ b2) ∧ (4 ≤ (Lib.decodeN n b0 b1 b2 b3).2 → 128 ≤ b3) := by
 unfold Lib.decodeN
 repeat' split
 all_goals (refine ⟨?_, ?_, ?_, ?_, ?_⟩ <;> simp only [] <;> omega)
theorem dec_high (s : ByteArray) (pos : Nat) (h : pos < s.size) (ha : 128 ≤ (s[pos]'h).toNat) : (Utf8.decode s pos).2 ≤ s.size - pos ∧ ∀ j, j < (Utf8.decode s pos).2 → ∀ hj : pos + j < s.size, 128 ≤ (s[pos + j]'hj).toNat := by
 rw [Lib.decode_at]
 have e : s.get! pos = s[pos]'h := get_at s pos h
 obtain ⟨d1, d2, d3, d4, d5⟩ := dn (s.size - pos) (s.get! pos).toNat (s.get! (pos + 1)).toNat (s.get! (pos + 2)).toNat (s.get! (pos + 3)).toNat (by rw [e]; exact ha) (by omega)
 refine ⟨d1, fun j hj hb => ?_⟩
 have e2 : s.get! (pos + j) = s[pos + j]'hb := get_at s (pos + j) hb
 rw [← e2]
 obtain rfl | rfl | rfl | rfl : j = 0 ∨ j = 1 ∨ j = 2 ∨ j = 3 := by omega
 ·
  show 128 ≤ (s.get! pos).toNat
  rw [e]; exact ha
 ·
  exact d3 (by omega)
 ·
  exact d4 (by omega)
 ·
  exact d5 (by omega)
theorem skip (Q : UInt8 → Bool) (s : ByteArray) : ∀ (K pos : Nat), pos + K ≤ s.size → (∀ j, j < K → ∀ hj : pos + j < s.size, Q (s[pos + j]'hj) = false) → fi Q (s.data.toList.drop pos) pos = fi Q (s.data.toList.drop (pos + K)) ((pos + K : Nat) : Int)
 | 0, pos, _, _ => rfl
 | K + 1, pos, h, hq => by
  rw [fd_drop s pos (by omega)]
  have h0 : Q (s[pos]'(by omega)) = false := hq 0 (by omega) (by omega)
  have hf : fi Q ((s[pos]'(by omega)) :: s.data.toList.drop (pos + 1)) pos = fi Q (s.data.toList.drop (pos + 1)) ((pos + 1 : Nat) : Int) := if_neg (by rw [h0]; decide)
  rw [hf]
  have r := skip Q s K (pos + 1) (by omega) (fun j hj hb => by
   have := hq (j + 1) (by omega) (by omega)
   simp only [show pos + (j + 1) = pos + 1 + j by omega] at this
   exact this)
  rw [show pos + (K + 1) = pos + 1 + K by omega, ← r]
theorem idx_yes (P : Nat → Bool) (hP : ∀ r, 128 ≤ r → P r = false) (s : ByteArray) : ∀ (f pos : Nat), s.size - pos ≤ f → Lib.idxFuncFrom P true s f pos = fi (fun c => P c.toNat) (s.data.toList.drop pos) pos
 | 0, pos, h => by
  rw [List.drop_of_length_le (by rw [fd_len]; omega)]
  rfl
 | f + 1, pos, h => by
  unfold Lib.idxFuncFrom
  by_cases hp : pos < s.size
  ·
   rw [if_pos hp]
   by_cases ha : (s[pos]'hp).toNat < 128
   ·
    rw [decode_low s pos hp ha, fd_drop s pos hp]
    unfold fi
    by_cases hq : P (s[pos]'hp).toNat = true
    ·
     rw [if_pos hq, if_pos hq]
    ·
     rw [if_neg hq, if_neg hq, idx_yes P hP s f (pos + 1) (by omega)]; rfl
   ·
    obtain ⟨r1, r2⟩ := decode_high s pos hp (by omega)
    obtain ⟨z1, z2⟩ := dec_high s pos hp (by omega)
    rw [if_neg (by rw [hP _ r1]; decide), idx_yes P hP s f _ (by omega)]
    exact (skip (fun c => P c.toNat) s _ pos (by omega) (fun j hj hb => hP _ (z2 j hj hb))).symm
  ·
   rw [if_neg hp, List.drop_of_length_le (by rw [fd_len]; omega)]
   rfl
theorem idx_no (P : Nat → Bool) (hP : ∀ r, 128 ≤ r → P r = false) (s : ByteArray) : ∀ (f pos : Nat), s.size - pos ≤ f → Lib.idxFuncFrom P false s f pos = fi (fun c => !P c.toNat) (s.data.toList.drop pos) pos
 | 0, pos, h => by
  rw [List.drop_of_length_le (by rw [fd_len]; omega)]
  rfl
 | f + 1, pos, h => by
  unfold Lib.idxFuncFrom
  by_cases hp : pos < s.size
  ·
   rw [if_pos hp, fd_drop s pos hp]
   by_cases ha : (s[pos]'hp).toNat < 128
   ·
    rw [decode_low s pos hp ha]
    unfold fi
    cases hq : P (s[pos]'hp).toNat
    ·
     rw [if_pos rfl]; rfl
    ·
     rw [if_neg (by decide), if_neg (by decide), idx_no P hP s f (pos + 1) (by omega)]; rfl
   ·
    obtain ⟨r1, r2⟩ := decode_high s pos hp (by omega)
    unfold fi
    rw [if_pos (hP _ r1), if_pos (by show (!P (s[pos]'hp).toNat) = true; rw [hP _ (by omega)]; rfl)]
  ·
   rw [if_neg hp, List.drop_of_length_le (by rw [fd_len]; omega)]
   rfl
theorem idx_mark (s : ByteArray) : Lib.idxFunc isK true s = fi (fun c => isK c.toNat) s.data.toList 0 := idx_yes isK (fun r h => by unfold isK; simp; omega) s s.size 0 (by omega)
theorem idx_blank (s : ByteArray) : Lib.idxFunc isW false s = fi (fun c => !isW c.toNat) s.data.toList 0 := idx_no isW (fun r h => by unfold isW; simp; omega) s s.size 0 (by omega)
end Fd
theorem isBlank_any (r : Nat) (w : World) : Calls Tryz.prog 105 #[.int .i32 (r : Int)] w fun e w' => e = .returned (.bool (Fd.isW r)) ∧ w = w' := by
 by_cases h1 : r = 32 <;> by_cases h2 : r = 9
 all_goals
  have z1 : ((r : Int) == 32) = decide (r = 32) := by rw [Bool.eq_iff_iff, beq_iff_eq, decide_eq_true_eq]; omega
  have z2 : ((r : Int) == 9) = decide (r = 9) := by rw [Bool.eq_iff_iff, beq_iff_eq, decide_eq_true_eq]; omega
  have z3 : (r : Int) = 32 ↔ r = 32 := by omega
  have z4 : (r : Int) = 9 ↔ r = 9 := by omega
  go_enter Tryz.func105, Tryz.ntmps105
  go_wp2
  all_goals first | (exfalso; omega) | (go_ret; exact ⟨by simp [Fd.isW, h1, h2], rfl⟩)
theorem isBlank_at (w : World) : PredAt Tryz.prog 105 #[] encR Fd.isW w := fun W r _ => by
 unfold FnGives
 exact (isBlank_any r W).mono fun e w' ⟨h, h2⟩ => ⟨h, 0, h2.symm⟩
theorem isMark_at (w : World) : PredAt Tryz.prog 124 #[] encR Fd.isK w := fun W r _ => by
 unfold FnGives
 have C := Lib.hid (fun W => isBlank_any r W)
 show Calls Tryz.prog 124 #[.int .i32 (r : Int)] W _
 have hw : Fd.isK r = (Fd.isW r || (decide (r = 34) || decide (r = 35))) := rfl
 rw [hw]
 generalize Fd.isW r = b at C ⊢
 have z1 : ((r : Int) == 34) = decide (r = 34) := by rw [Bool.eq_iff_iff, beq_iff_eq, decide_eq_true_eq]; omega
 have z2 : ((r : Int) == 35) = decide (r = 35) := by rw [Bool.eq_iff_iff, beq_iff_eq, decide_eq_true_eq]; omega
 generalize decide (r = 34) = b1 at z1 ⊢
 generalize decide (r = 35) = b2 at z2 ⊢
 generalize (r : Int) = R at z1 z2 C ⊢
 cases b
 ·
  cases b1 <;> cases b2
  all_goals
   go_enter Tryz.func124, Tryz.ntmps124
   go_wp2_with fail
   refine (C.out _).mono ?_; rintro e w1 ⟨rfl, rfl⟩
   go_wp2_with fail
   go_ret
   exact ⟨rfl, 0, rfl⟩
 ·
  rw [Bool.true_or]
  go_enter Tryz.func124, Tryz.ntmps124
  go_wp2_with fail
  refine (C.out _).mono ?_; rintro e w1 ⟨rfl, rfl⟩
  go_wp2_with fail
  go_ret
  exact ⟨rfl, 0, rfl⟩
namespace Fd
end Fd
end Go.Proofs.YtbcbggdbojonmaaGreatDoor
set_option linter.unusedVariables false
set_option linter.unusedSimpArgs false
namespace Go.Proofs.YtbcbggdbojonmaaGreatDoor
open Go.RowKit Go.Sort
namespace Fd
theorem fi_tw (Q : UInt8 → Bool) : ∀ (l : List UInt8) (k : Int), (l.any Q = true → fi Q l k = k + ((l.takeWhile (fun c => !Q c)).length : Nat)) ∧ (l.any Q = false → fi Q l k = -1)
 | [], k => ⟨fun h => (by cases h), fun _ => rfl⟩
 | c :: t, k => by
  have ih := fi_tw Q t (k + 1)
  unfold fi
  rw [List.any_cons]
  cases hq : Q c
  ·
   rw [if_neg (by decide), Bool.false_or, List.takeWhile_cons, if_pos (by rw [hq]; rfl)]
   refine ⟨fun h => ?_, ih.2⟩
   rw [ih.1 h, List.length_cons]; omega
  ·
   rw [if_pos rfl, List.takeWhile_cons, if_neg (by rw [hq]; decide)]
   refine ⟨fun _ => by simp, fun h => by cases h⟩
theorem tw_take (p : UInt8 → Bool) (l : List UInt8) : l.take (l.takeWhile p).length = l.takeWhile p := by
 conv => lhs; rw [← List.takeWhile_append_dropWhile (p := p) (l := l)]
 rw [List.takeWhile_append_dropWhile]
 induction l with
 | nil => rfl
 | cons c t ih =>
  rw [List.takeWhile_cons]
  cases h : p c
  ·
   rfl
  ·
   simp only [if_true, List.length_cons, List.take_succ_cons, ih]
theorem tw_drop (p : UInt8 → Bool) (l : List UInt8) : l.drop (l.takeWhile p).length = l.dropWhile p := by
 induction l with
 | nil => rfl
 | cons c t ih =>
  rw [List.takeWhile_cons, List.dropWhile_cons]
  cases h : p c
  ·
   rfl
  ·
   simp only [if_true, List.length_cons, List.drop_succ_cons, ih]
theorem tw_none (p : UInt8 → Bool) (l : List UInt8) (h : l.any (fun c => !p c) = false) : l.dropWhile p = [] := by
 induction l with
 | nil => rfl
 | cons c t ih =>
  rw [List.any_cons, Bool.or_eq_false_iff] at h
  rw [List.dropWhile_cons, if_pos (by simpa using h.1), ih h.2]
def pw (l : List UInt8) : List UInt8 := l.takeWhile (fun c => !mkB c)
def qw (l : List UInt8) : List UInt8 := l.dropWhile (fun c => !mkB c)
theorem pw_qw (l : List UInt8) : pw l ++ qw l = l := List.takeWhile_append_dropWhile
theorem pw_no : ∀ l : List UInt8, ∀ c ∈ pw l, mkB c = false
 | [], c, h => by cases h
 | x :: t, c, h => by
  unfold pw at h
  rw [List.takeWhile_cons] at h
  cases hx : mkB x
  ·
   rw [if_pos (by rw [hx]; rfl)] at h
   rcases List.mem_cons.1 h with rfl | h
   ·
    exact hx
   ·
    exact pw_no t c h
  ·
   rw [if_neg (by rw [hx]; decide)] at h; cases h
theorem qw_head : ∀ (l : List UInt8) (c : UInt8) (r : List UInt8), qw l = c :: r → mkB c = true
 | [], c, r, h => by cases h
 | x :: t, c, r, h => by
  unfold qw at h
  rw [List.dropWhile_cons] at h
  cases hx : mkB x
  ·
   rw [if_pos (by rw [hx]; rfl)] at h
   exact qw_head t c r h
  ·
   rw [if_neg (by rw [hx]; decide)] at h
   injection h with h1 _
   rw [← h1]; exact hx
theorem fl_pw (f l : List UInt8) : fl f false l = fl (f ++ pw l) false (qw l) := by
 conv => lhs; rw [← pw_qw l]
 exact fl_plain (qw l) (pw l) f (pw_no l)
theorem mark_at (s : ByteArray) : (0 ≤ Lib.idxFunc isK true s ∧ ∃ k : Nat, Lib.idxFunc isK true s = k ∧ k ≤ s.size ∧ s.data.toList.take k = pw s.data.toList ∧ s.data.toList.drop k = qw s.data.toList) ∨ (Lib.idxFunc isK true s = -1 ∧ pw s.data.toList = s.data.toList ∧ qw s.data.toList = []) := by
 rw [idx_mark]
 have h := fi_tw (fun c => isK c.toNat) s.data.toList 0
 cases ha : s.data.toList.any (fun c => isK c.toNat)
 ·
  right
  refine ⟨h.2 ha, ?_, ?_⟩
  ·
   have e := pw_qw s.data.toList
   have e2 : qw s.data.toList = [] := tw_none (fun c => !mkB c) _ (by simpa [mkB] using ha)
   rw [e2, List.append_nil] at e; exact e
  ·
   exact tw_none (fun c => !mkB c) _ (by simpa [mkB] using ha)
 ·
  left
  have h1 := h.1 ha
  have hle : (s.data.toList.takeWhile (fun c => !isK c.toNat)).length ≤ s.size := by
   rw [← fd_len]; exact (List.takeWhile_prefix _).length_le
  refine ⟨by omega, _, (by rw [h1]; omega), hle, tw_take _ _, tw_drop _ _⟩
theorem trim_dw (s : ByteArray) : (Lib.trimLeftF isW s).data.toList = dw s.data.toList := by
 unfold Lib.trimLeftF
 rw [idx_blank]
 have h := fi_tw (fun c => !isW c.toNat) s.data.toList 0
 have e : (fun c : UInt8 => !(!isW c.toNat)) = fun c => isW c.toNat := by funext c; simp
 rw [e] at h
 cases ha : s.data.toList.any (fun c => !isW c.toNat)
 ·
  rw [if_pos (h.2 ha)]
  exact (tw_none (fun c => isW c.toNat) _ ha).symm
 ·
  have h1 := h.1 ha
  rw [if_neg (by rw [h1]; omega), fd_ext, h1, List.take_of_length_le (by rw [fd_len]; exact Nat.le_refl _)]
  rw [show ((0 : Int) + ((s.data.toList.takeWhile (fun c => isW c.toNat)).length : Nat)).toNat = (s.data.toList.takeWhile (fun c => isW c.toNat)).length by omega]
  exact tw_drop _ _
theorem ib_34 : ∀ l : List UInt8, (Lib.indexByte l 34 = -1 ∧ ∀ c ∈ l, c ≠ 34) ∨ ∃ k : Nat, Lib.indexByte l 34 = k ∧ k < l.length ∧ (∀ c ∈ l.take k, c ≠ 34) ∧ l.drop k = 34 :: l.drop (k + 1)
 | [] => .inl ⟨by rw [← Lib.index_one]; rfl, fun c h => by cases h⟩
 | x :: t => by
  have e : Lib.indexByte (x :: t) 34 = if (34 == x) = true then 0 else if Lib.indexByte t 34 == -1 then -1 else Lib.indexByte t 34 + 1 := by
   rw [← Lib.index_one, ← Lib.index_one]
   conv => lhs; unfold Lib.index
   rw [show ([34] : List UInt8).isPrefixOf (x :: t) = (34 == x) by rw [List.isPrefixOf, List.isPrefixOf, Bool.and_true]]
  rw [e]
  by_cases hx : x = 34
  ·
   subst hx
   right
   exact ⟨0, rfl, by simp, fun c h => by simp at h, rfl⟩
  ·
   have h1 : ((34 : UInt8) == x) = false := by rw [beq_eq_false_iff_ne]; exact fun h => hx h.symm
   rw [if_neg (by rw [h1]; decide)]
   rcases ib_34 t with ⟨hm, hn⟩ | ⟨k, hk, hlt, hb, hd⟩
   ·
    left
    rw [hm]
    refine ⟨rfl, fun c h => ?_⟩
    rcases List.mem_cons.1 h with rfl | h
    ·
     exact hx
    ·
     exact hn c h
   ·
    right
    have h2 : ((k : Int) == -1) = false := by rw [beq_eq_false_iff_ne]; omega
    rw [hk, h2, if_neg (by decide)]
    refine ⟨k + 1, by omega, by simp; omega, fun c h => ?_, ?_⟩
    ·
     rw [List.take_succ_cons] at h
     rcases List.mem_cons.1 h with rfl | h
     ·
      exact hx
     ·
      exact hb c h
    ·
     rw [List.drop_succ_cons, List.drop_succ_cons]; exact hd
end Fd
theorem grown_of {w w' : World} (h : Below w.heap.size w w') (r : Option Nat) : w.grownBy w' r := ⟨h.os, h.tape, h.output, h.size, fun i hi _ => h.block i hi⟩
theorem grown_refl (w : World) (r : Option Nat) : w.grownBy w r := ⟨rfl, rfl, rfl, Nat.le_refl _, fun _ _ _ => rfl⟩
theorem grown_trans {w w1 w2 : World} {r : Option Nat} (h : w.grownBy w1 r) (k : w1.grownBy w2 r) : w.grownBy w2 r :=
 ⟨k.os.trans h.os, k.tape.trans h.tape, k.output.trans h.output, Nat.le_trans h.size k.size, fun i hi hr => (k.block i (Nat.lt_of_lt_of_le hi h.size) hr).trans (h.block i hi hr)⟩
theorem grown_set (w : World) (c : Nat) (v : Value) : w.grownBy (w.setCell ⟨c, 0, none⟩ v) (some c) :=
 ⟨rfl, rfl, rfl, by simp [World.setCell], fun k hk hr => by
  have : c ≠ k := fun e => hr (by rw [e])
  simp [World.setCell, Array.getElem?_modify, this]⟩
theorem grown_at {w w' : World} {c : Nat} (h : w.grownBy w' (some c)) (hc : c ≤ w.heap.size) : Below c w w' := ⟨h.os, h.tape, h.output, h.size, fun i hi => h.block i (by omega) (fun e => by injection e with e; omega)⟩
theorem bat_by {T e : TypeId} {B b c : Nat} {p : Value} {bs : List Value} {W W' : World} (h : Lib.BuilderAtF T e B b p bs W) (k : W.grownBy W' (some c)) (hc : c < B) (hBb : B ≤ b) : Lib.BuilderAtF T e B b p bs W' := by
 have hlt := h.lt
 obtain ⟨hB, v, hb, hown, hne⟩ := h
 refine ⟨hB, v, (k.block b hlt (fun e => by injection e with e; omega)).trans hb, ⟨hown.1, ?_⟩, hne⟩
 rcases hown.2 with h2 | ⟨g, cap, cur, fz, hv, hbg, hg, rest⟩
 ·
  exact .inl h2
 ·
  have hglt : g < W.heap.size := (Array.getElem?_eq_some_iff.1 hg).1
  exact .inr ⟨g, cap, cur, fz, hv, hbg, (k.block g hglt (fun e => by injection e with e; omega)).trans hg, rest⟩
theorem IsB.by_ {b c : Nat} {l : List UInt8} {W W' : World} (h : IsB b l W) (k : W.grownBy W' (some c)) (hc : c < b) : IsB b l W' :=
 h.elim (fun x => .inl (bat_by x k hc (Nat.le_refl _))) (fun x => .inr (bat_by x k hc (Nat.le_refl _)))
end Go.Proofs.YtbcbggdbojonmaaGreatDoor
