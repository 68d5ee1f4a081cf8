/- Joined: FdA, FdB, FdM, FdE0, BldP. -/
import Derived.Test.YtjggjkeopbcmoaaGreatDoorBt01
import Derived.Lib.DecodeN
import Derived.Shelf.GgClosure.StringsTrimFunc
import Derived.Shelf.GgClosure.StringsIndexFuncTop
import Derived.Laws.RangeAny
import Derived.Test.YtjggjkeopbcmoaaGreatDoorLaidF
import Derived.Shelf.Strings.Runes
import Derived.Lib.IndexAny
import Derived.Shelf.Strings.BuilderK
import Derived.Shelf.Strings.Prefix
import Derived.Lib.RuneBytes
import Derived.Lib.AppendIntMem
import Derived.WalkKit
import Derived.Laws.Externs
import Derived.OwnWalk
set_option linter.unusedVariables false
set_option linter.unusedSimpArgs false
namespace Go.Proofs.YtjggjkeopbcmoaaGreatDoor
open Go.RowKit
namespace Fd
theorem decode_low (s : ByteArray) (pos : Nat) (h : pos < s.size) (ha : (s[pos]'h).toNat < 128) : Utf8.decode s pos = ((s[pos]'h).toNat, 1) := by
 simp only [Utf8.decode, get_at s pos h, ha, if_true]
def fi (Q : UInt8 → Bool) : List UInt8 → Int → Int
 | [], _ => -1
 | c :: t, k => if Q c = true then k else fi Q t (k + 1)
theorem dn (n b0 b1 b2 b3 : Nat) (h : 128 ≤ b0) (n1 : 1 ≤ n) : (Lib.decodeN n b0 b1 b2 b3).2 ≤ n ∧ (Lib.decodeN n b0 b1 b2 b3).2 ≤ 4 ∧ (2 ≤ (Lib.decodeN n b0 b1 b2 b3).2 → 128 ≤ b1) ∧ (3 ≤ (Lib.decodeN n b0 b1 b2 b3).2 → 128 ≤ b2) ∧ (4 ≤ (Lib.decodeN n b0 b1 b2 b3).2 → 128 ≤ b3) := by
 unfold Lib.decodeN
 repeat' split
 all_goals (refine ⟨?_, ?_, ?_, ?_, ?_⟩ <;> simp only [] <;> omega)
theorem dec_high (s : ByteArray) (pos : Nat) (h : pos < s.size) (ha : 128 ≤ (s[pos]'h).toNat) : (Utf8.decode s pos).2 ≤ s.size - pos ∧ ∀ j, j < (Utf8.decode s pos).2 → ∀ hj : pos + j < s.size, 128 ≤ (s[pos + j]'hj).toNat := by
 rw [Lib.decode_at]
 have e : s.get! pos = s[pos]'h := get_at s pos h
 obtain ⟨d1, d2, d3, d4, d5⟩ := dn (s.size - pos) (s.get! pos).toNat (s.get! (pos + 1)).toNat (s.get! (pos + 2)).toNat (s.get! (pos + 3)).toNat (by rw [e]; exact ha) (by omega)
 refine ⟨d1, fun j hj hb => ?_⟩
 have e2 : s.get! (pos + j) = s[pos + j]'hb := get_at s (pos + j) hb
 rw [← e2]
 obtain rfl | rfl | rfl | rfl : j = 0 ∨ j = 1 ∨ j = 2 ∨ j = 3 := by omega
 ·
  show 128 ≤ (s.get! pos).toNat
  rw [e]; exact ha
 ·
  exact d3 (by omega)
 ·
  exact d4 (by omega)
 ·
  exact d5 (by omega)
theorem skip (Q : UInt8 → Bool) (s : ByteArray) : ∀ (K pos : Nat), pos + K ≤ s.size → (∀ j, j < K → ∀ hj : pos + j < s.size, Q (s[pos + j]'hj) = false) → fi Q (s.data.toList.drop pos) pos = fi Q (s.data.toList.drop (pos + K)) ((pos + K : Nat) : Int)
 | 0, pos, _, _ => rfl
 | K + 1, pos, h, hq => by
  rw [fd_drop s pos (by omega)]
  have h0 : Q (s[pos]'(by omega)) = false := hq 0 (by omega) (by omega)
  have hf : fi Q ((s[pos]'(by omega)) :: s.data.toList.drop (pos + 1)) pos = fi Q (s.data.toList.drop (pos + 1)) ((pos + 1 : Nat) : Int) := if_neg (by rw [h0]; decide)
  rw [hf]
  have r := skip Q s K (pos + 1) (by omega) (fun j hj hb => by
   have := hq (j + 1) (by omega) (by omega)
   simp only [show pos + (j + 1) = pos + 1 + j by omega] at this
   exact this)
  rw [show pos + (K + 1) = pos + 1 + K by omega, ← r]
theorem idx_yes (P : Nat → Bool) (hP : ∀ r, 128 ≤ r → P r = false) (s : ByteArray) : ∀ (f pos : Nat), s.size - pos ≤ f → Lib.idxFuncFrom P true s f pos = fi (fun c => P c.toNat) (s.data.toList.drop pos) pos
 | 0, pos, h => by
  rw [List.drop_of_length_le (by rw [fd_len]; omega)]
  rfl
 | f + 1, pos, h => by
  unfold Lib.idxFuncFrom
  by_cases hp : pos < s.size
  ·
   rw [if_pos hp]
   by_cases ha : (s[pos]'hp).toNat < 128
   ·
    rw [decode_low s pos hp ha, fd_drop s pos hp]
    unfold fi
    by_cases hq : P (s[pos]'hp).toNat = true
    ·
     rw [if_pos hq, if_pos hq]
    ·
     rw [if_neg hq, if_neg hq, idx_yes P hP s f (pos + 1) (by omega)]; rfl
   ·
    obtain ⟨r1, r2⟩ := decode_high s pos hp (by omega)
    obtain ⟨z1, z2⟩ := dec_high s pos hp (by omega)
    rw [if_neg (by rw [hP _ r1]; decide), idx_yes P hP s f _ (by omega)]
    exact (skip (fun c => P c.toNat) s _ pos (by omega) (fun j hj hb => hP _ (z2 j hj hb))).symm
  ·
   rw [if_neg hp, List.drop_of_length_le (by rw [fd_len]; omega)]
   rfl
theorem idx_no (P : Nat → Bool) (hP : ∀ r, 128 ≤ r → P r = false) (s : ByteArray) : ∀ (f pos : Nat), s.size - pos ≤ f → Lib.idxFuncFrom P false s f pos = fi (fun c => !P c.toNat) (s.data.toList.drop pos) pos
 | 0, pos, h => by
  rw [List.drop_of_length_le (by rw [fd_len]; omega)]
  rfl
 | f + 1, pos, h => by
  unfold Lib.idxFuncFrom
  by_cases hp : pos < s.size
  ·
   rw [if_pos hp, fd_drop s pos hp]
   by_cases ha : (s[pos]'hp).toNat < 128
   ·
    rw [decode_low s pos hp ha]
    unfold fi
    cases hq : P (s[pos]'hp).toNat
    ·
     rw [if_pos rfl]; rfl
    ·
     rw [if_neg (by decide), if_neg (by decide), idx_no P hP s f (pos + 1) (by omega)]; rfl
   ·
    obtain ⟨r1, r2⟩ := decode_high s pos hp (by omega)
    unfold fi
    rw [if_pos (hP _ r1), if_pos (by show (!P (s[pos]'hp).toNat) = true; rw [hP _ (by omega)]; rfl)]
  ·
   rw [if_neg hp, List.drop_of_length_le (by rw [fd_len]; omega)]
   rfl
theorem idx_mark (s : ByteArray) : Lib.idxFunc isK true s = fi (fun c => isK c.toNat) s.data.toList 0 := idx_yes isK (fun r h => by unfold isK; simp; omega) s s.size 0 (by omega)
theorem idx_blank (s : ByteArray) : Lib.idxFunc isW false s = fi (fun c => !isW c.toNat) s.data.toList 0 := idx_no isW (fun r h => by unfold isW; simp; omega) s s.size 0 (by omega)
end Fd
theorem isBlank_any (r : Nat) (w : World) : Calls Tryz.prog 94 #[.int .i32 (r : Int)] w fun e w' => e = .returned (.bool (Fd.isW r)) ∧ w = w' := by
 by_cases h1 : r = 32 <;> by_cases h2 : r = 9
 all_goals
  have z1 : ((r : Int) == 32) = decide (r = 32) := by rw [Bool.eq_iff_iff, beq_iff_eq, decide_eq_true_eq]; omega
  have z2 : ((r : Int) == 9) = decide (r = 9) := by rw [Bool.eq_iff_iff, beq_iff_eq, decide_eq_true_eq]; omega
  have z3 : (r : Int) = 32 ↔ r = 32 := by omega
  have z4 : (r : Int) = 9 ↔ r = 9 := by omega
  go_enter Tryz.func94, Tryz.ntmps94
  go_wp2
  all_goals first | (exfalso; omega) | (go_ret; exact ⟨by simp [Fd.isW, h1, h2], rfl⟩)
theorem isBlank_at (w : World) : PredAt Tryz.prog 94 #[] encR Fd.isW w := fun W r _ => by
 unfold FnGives
 exact (isBlank_any r W).mono fun e w' ⟨h, h2⟩ => ⟨h, 0, h2.symm⟩
theorem isMark_at (w : World) : PredAt Tryz.prog 59 #[] encR Fd.isK w := fun W r _ => by
 unfold FnGives
 have C := Lib.hid (fun W => isBlank_any r W)
 show Calls Tryz.prog 59 #[.int .i32 (r : Int)] W _
 have hw : Fd.isK r = (Fd.isW r || (decide (r = 34) || decide (r = 35))) := rfl
 rw [hw]
 generalize Fd.isW r = b at C ⊢
 have z1 : ((r : Int) == 34) = decide (r = 34) := by rw [Bool.eq_iff_iff, beq_iff_eq, decide_eq_true_eq]; omega
 have z2 : ((r : Int) == 35) = decide (r = 35) := by rw [Bool.eq_iff_iff, beq_iff_eq, decide_eq_true_eq]; omega
 generalize decide (r = 34) = b1 at z1 ⊢
 generalize decide (r = 35) = b2 at z2 ⊢
 generalize (r : Int) = R at z1 z2 C ⊢
 cases b
 ·
  cases b1 <;> cases b2
  all_goals
   go_enter Tryz.func59, Tryz.ntmps59
   go_wp2_with fail
   refine (C.out _).mono ?_; rintro e w1 ⟨rfl, rfl⟩
   go_wp2_with fail
   go_ret
   exact ⟨rfl, 0, rfl⟩
 ·
  rw [Bool.true_or]
  go_enter Tryz.func59, Tryz.ntmps59
  go_wp2_with fail
  refine (C.out _).mono ?_; rintro e w1 ⟨rfl, rfl⟩
  go_wp2_with fail
  go_ret
  exact ⟨rfl, 0, rfl⟩
namespace Fd
theorem fi_any (Q : UInt8 → Bool) : ∀ (l : List UInt8) (k : Int), 0 ≤ k → decide (0 ≤ fi Q l k) = l.any Q
 | [], k, h => rfl
 | c :: t, k, h => by
  unfold fi
  rw [List.any_cons]
  cases hq : Q c
  ·
   rw [if_neg (by decide), fi_any Q t (k + 1) (by omega)]; rfl
  ·
   rw [if_pos rfl, decide_eq_true h]; rfl
end Fd
theorem containsMark (s : ByteArray) (w : World) :
  Calls Tryz.prog 34 #[.string s, .func (.func 59) #[] #[]] w fun e w' => e = .returned (.bool (s.data.toList.any Fd.mkB)) ∧ Below w.heap.size w w' := by
 have : s.data.toList.any Fd.mkB = decide (0 ≤ Lib.idxFunc Fd.isK true s) := by rw [Fd.idx_mark, Fd.fi_any _ _ 0 (by omega)]; rfl
 rw [this]
 exact (Any.strings_ContainsFunc Tryz.laysGw17 59 #[] (enters_of Tryz.func59 (by kernel_rfl) rfl) Fd.isK s w (isMark_at w)).mono fun _ _ ⟨a, h⟩ => ⟨a, h⟩
theorem containsQuote (s : ByteArray) (w : World) :
  Calls Tryz.prog 58 #[.string s, .int .i32 34] w fun e w' => e = .returned (.bool (s.data.toList.contains 34)) ∧ w = w' := by
 rw [Lib.contains_iff_indexByte]
 exact (Any.strings_ContainsRune_ascii Tryz.lays151 s 34 w (by omega) (by omega)).mono fun _ _ ⟨a, h⟩ => ⟨a, h.symm⟩
set_option maxHeartbeats 4000000 in
theorem fdtext_any (s : ByteArray) (w : World) (hs : s.size ≤ 100000000) :
  Calls Tryz.prog 25 #[.string s] w fun e w' => e = .returned (.tuple #[.string ⟨(Fd.tx s.data.toList).1.toArray⟩, .int .i64 (Fd.tx s.data.toList).2]) ∧ Below w.heap.size w w' := by
 have CQ := Lib.hid (fun W => containsQuote s W)
 have CM := Lib.hid (fun W => containsMark s W)
 unfold Fd.tx
 cases hc : s.data.toList.contains 34
 ·
  rw [hc] at CQ
  rw [if_neg (by decide)]
  by_cases h0 : s.data.toList = []
  ·
   rw [if_pos (.inl h0)]
   obtain rfl : s = ⟨#[]⟩ := by apply ByteArray.ext; apply Array.toList_inj.1; rw [h0]
   clear h0 hc CM
   go_enter Tryz.func25, Tryz.ntmps25
   go_wp2_with fail
   refine (CQ.out _).mono ?_; rintro e w1 ⟨rfl, rfl⟩
   go_wp2_with fail
   go_ret2
   exact ⟨rfl, Below.refl _ _⟩
  ·
   have hp : 0 < s.size := by
    rcases Nat.eq_zero_or_pos s.size with h | h
    ·
     exact absurd (by rw [← List.length_eq_zero_iff, fd_len]; exact h) h0
    ·
     exact h
   obtain ⟨n1, n2⟩ := fd_ne hp
   cases hm : s.data.toList.any Fd.mkB
   ·
    rw [hm] at CM
    rw [if_neg (fun h => by rcases h with h | h; exact h0 h; cases h)]
    show Calls _ _ _ _ fun e w' => e = .returned (.tuple #[.string ⟨s.data.toList.toArray⟩, .int .i64 0]) ∧ Below w.heap.size w w'
    rw [show (⟨s.data.toList.toArray⟩ : ByteArray) = s from by apply ByteArray.ext; apply Array.toList_inj.1; simp]
    clear h0 hc hm
    go_enter Tryz.func25, Tryz.ntmps25
    go_wp2_with fail
    refine (CQ.out _).mono ?_; rintro e w1 ⟨rfl, rfl⟩
    go_wp2_with fail
    refine (CM.out _).mono ?_; rintro e w2 ⟨rfl, b2⟩
    have B2 := Lib.hid b2; clear b2
    go_wp2_with fail
    go_ret2
    exact ⟨rfl, B2.out⟩
   ·
    rw [hm] at CM
    rw [if_pos (.inr rfl)]
    show Calls _ _ _ _ fun e w' => e = .returned (.tuple #[.string ⟨(34 :: (s.data.toList ++ [34])).toArray⟩, .int .i64 0]) ∧ Below w.heap.size w w'
    have hR : (⟨(34 :: (s.data.toList ++ [34])).toArray⟩ : ByteArray) = (⟨#[34]⟩ ++ s) ++ ⟨#[34]⟩ := by
     apply ByteArray.ext; apply Array.toList_inj.1
     simp [ByteArray.data_append]
    rw [hR]
    have e1 : (⟨#[34]⟩ ++ s : ByteArray).size = 1 + s.size := by rw [ByteArray.size_append]; rfl
    clear h0 hc hm hR
    go_enter Tryz.func25, Tryz.ntmps25
    go_wp2_with fail
    refine (CQ.out _).mono ?_; rintro e w1 ⟨rfl, rfl⟩
    go_wp2_with fail
    refine (CM.out _).mono ?_; rintro e w2 ⟨rfl, b2⟩
    have B2 := Lib.hid b2; clear b2
    go_wp2_with fail
    go_ret2
    exact ⟨rfl, B2.out⟩
 ·
  rw [hc] at CQ
  rw [if_pos rfl]
  show Calls _ _ _ _ fun e w' => e = .returned (.tuple #[.string ⟨#[]⟩, .int .i64 8]) ∧ Below w.heap.size w w'
  clear hc CM
  go_enter Tryz.func25, Tryz.ntmps25
  go_wp2_with fail
  refine (CQ.out _).mono ?_; rintro e w1 ⟨rfl, rfl⟩
  go_wp2_with fail
  go_ret2
  exact ⟨rfl, Below.refl _ _⟩
end Go.Proofs.YtjggjkeopbcmoaaGreatDoor
set_option linter.unusedVariables false
set_option linter.unusedSimpArgs false
namespace Go.Proofs.YtjggjkeopbcmoaaGreatDoor
namespace Fd
def go (out : List (List UInt8)) (f : List UInt8) (op q : Bool) : List UInt8 → Option (List (List UInt8))
 | [] => if q = true then none else some (if op = true then out ++ [f] else out)
 | c :: r => if q = true then (if c = 34 then go out f op false r else go out (f ++ [c]) op true r)
  else if c = 35 then some (if op = true then out ++ [f] else out)
  else if isW c.toNat = true then go (if op = true then out ++ [f] else out) [] false false r
  else if c = 34 then go out f true true r
  else go out (f ++ [c]) true false r
def told : Option (List (List UInt8)) → List (List UInt8) × Int
 | none => ([], 8)
 | some P => if 16 < P.length then ([], 6) else (P, 0)
def of (l : List UInt8) : List (List UInt8) × Int := told (go [] [] false false l)
def fl (f : List UInt8) (q : Bool) : List UInt8 → Option (List UInt8 × List UInt8)
 | [] => if q = true then none else some (f, [])
 | c :: r => if q = true then (if c = 34 then fl f false r else fl (f ++ [c]) true r)
  else if c = 34 then fl f true r
  else if mkB c = true then some (f, c :: r)
  else fl (f ++ [c]) false r
def nx (out : List (List UInt8)) : Option (List UInt8 × List UInt8) → Option (List (List UInt8))
 | none => none
 | some (f, r) => go (out ++ [f]) [] false false r
theorem mk_no {c : UInt8} (h : mkB c = false) : c ≠ 34 ∧ c ≠ 35 ∧ isW c.toNat = false := by
 unfold mkB isK at h
 rw [Bool.or_eq_false_iff] at h
 obtain ⟨h1, h2⟩ := h
 rw [Bool.or_eq_false_iff, decide_eq_false_iff_not, decide_eq_false_iff_not] at h2
 refine ⟨?_, ?_, h1⟩
 ·
  rintro rfl; exact h2.1 (by decide)
 ·
  rintro rfl; exact h2.2 (by decide)
theorem mk_35 {c : UInt8} (h : mkB c = true) (h4 : c ≠ 34) (hw : isW c.toNat = false) : c = 35 := by
 unfold mkB isK at h
 unfold isW at hw
 rw [hw, Bool.false_or, Bool.or_eq_true, decide_eq_true_eq, decide_eq_true_eq] at h
 rcases h with h | h
 ·
  exact absurd (UInt8.toNat_inj.1 (show c.toNat = (34 : UInt8).toNat from h)) h4
 ·
  exact UInt8.toNat_inj.1 (show c.toNat = (35 : UInt8).toNat from h)
theorem go_s (out : List (List UInt8)) (f : List UInt8) (op : Bool) (c : UInt8) (r : List UInt8) : go out f op false (c :: r) = if c = 35 then some (if op = true then out ++ [f] else out)
  else if isW c.toNat = true then go (if op = true then out ++ [f] else out) [] false false r
  else if c = 34 then go out f true true r
  else go out (f ++ [c]) true false r := by
 conv => lhs; unfold go
 exact if_neg (by decide)
theorem go_fl (out : List (List UInt8)) : ∀ (l f : List UInt8) (q : Bool), go out f true q l = nx out (fl f q l)
 | [], f, q => by cases q <;> rfl
 | c :: r, f, true => by
  unfold go fl
  rw [if_pos rfl, if_pos rfl]
  by_cases h : c = 34
  ·
   rw [if_pos h, if_pos h]; exact go_fl out r f false
  ·
   rw [if_neg h, if_neg h]; exact go_fl out r _ true
 | c :: r, f, false => by
  by_cases h : c = 34
  ·
   subst h
   show (if false = true then _ else if (34 : UInt8) = 35 then _ else if isW (34 : UInt8).toNat = true then _ else if (34 : UInt8) = 34 then go out f true true r else _) = nx out (if false = true then _ else if (34 : UInt8) = 34 then fl f true r else _)
   rw [if_neg (by decide), if_neg (by decide), if_neg (by decide), if_pos rfl, if_neg (by decide), if_pos rfl]
   exact go_fl out r f true
  ·
   cases hm : mkB c
   ·
    obtain ⟨-, h5, hw⟩ := mk_no hm
    rw [go_s, if_neg h5, if_neg (by rw [hw]; decide), if_neg h]
    conv => rhs; unfold fl
    rw [if_neg (by decide), if_neg h, if_neg (by rw [hm]; decide)]
    exact go_fl out r _ false
   ·
    have e : fl f false (c :: r) = some (f, c :: r) := by
     unfold fl
     rw [if_neg (by decide), if_neg h, if_pos hm]
    rw [e]
    show _ = go (out ++ [f]) [] false false (c :: r)
    rw [go_s, go_s]
    by_cases h5 : c = 35
    ·
     rw [if_pos h5, if_pos h5]; rfl
    ·
     rw [if_neg h5, if_neg h5]
     cases hw : isW c.toNat
     ·
      exact absurd (mk_35 hm h hw) h5
     ·
      rw [if_pos rfl, if_pos rfl]; rfl
def dw (l : List UInt8) : List UInt8 := l.dropWhile (fun c => isW c.toNat)
theorem go_dw (out : List (List UInt8)) : ∀ l : List UInt8, go out [] false false l = go out [] false false (dw l)
 | [] => rfl
 | c :: r => by
  unfold dw
  rw [List.dropWhile_cons]
  cases hw : isW c.toNat
  ·
   rw [if_neg (by decide)]
  ·
   rw [if_pos rfl]
   have h5 : c ≠ 35 := by rintro rfl; cases hw
   have : go out [] false false (c :: r) = go out [] false false r := by
    rw [go_s, if_neg h5, if_pos hw]; rfl
   rw [this]
   exact go_dw out r
theorem dw_len (l : List UInt8) : (dw l).length ≤ l.length := by
 unfold dw
 have := List.dropWhile_suffix (l := l) (fun c => isW c.toNat)
 exact this.length_le
theorem dw_head (l : List UInt8) (c : UInt8) (r : List UInt8) (h : dw l = c :: r) : isW c.toNat = false := by
 induction l with
 | nil => cases h
 | cons x t ih =>
  unfold dw at h ih
  rw [List.dropWhile_cons] at h
  cases hw : isW x.toNat
  ·
   rw [if_neg (by rw [hw]; decide)] at h
   injection h with h1 h2
   rw [← h1]; exact hw
  ·
   rw [if_pos hw] at h
   exact ih h
theorem go_end (out : List (List UInt8)) (l : List UInt8) (h : l = [] ∨ ∃ r, l = 35 :: r) : go out [] false false l = some out := by
 rcases h with rfl | ⟨r, rfl⟩
 ·
  rfl
 ·
  rfl
theorem go_open (out : List (List UInt8)) (c : UInt8) (r : List UInt8) (hw : isW c.toNat = false) (h5 : c ≠ 35) : go out [] false false (c :: r) = nx out (fl [] false (c :: r)) := by
 rw [← go_fl, go_s, go_s, if_neg h5, if_neg h5, hw]
 rfl
theorem fl_plain (s : List UInt8) : ∀ (p f : List UInt8), (∀ c ∈ p, mkB c = false) → fl f false (p ++ s) = fl (f ++ p) false s
 | [], f, _ => by rw [List.append_nil]; rfl
 | c :: p, f, h => by
  have hm := h c (List.mem_cons_self ..)
  obtain ⟨h4, -, -⟩ := mk_no hm
  rw [List.cons_append]
  conv => lhs; unfold fl
  rw [if_neg (by decide), if_neg h4, if_neg (by rw [hm]; decide), fl_plain s p (f ++ [c]) (fun x hx => h x (List.mem_cons_of_mem _ hx)), List.append_assoc]
  rfl
theorem fl_shut (f : List UInt8) (c : UInt8) (r : List UInt8) (hm : mkB c = true) (h4 : c ≠ 34) : fl f false (c :: r) = some (f, c :: r) := by
 unfold fl
 rw [if_neg (by decide), if_neg h4, if_pos hm]
theorem fl_34 (f r : List UInt8) : fl f false (34 :: r) = fl f true r := rfl
theorem fl_quoted (u : List UInt8) : ∀ (x f : List UInt8), (∀ c ∈ x, c ≠ 34) → fl f true (x ++ 34 :: u) = fl (f ++ x) false u
 | [], f, _ => by rw [List.append_nil]; rfl
 | c :: x, f, h => by
  rw [List.cons_append]
  conv => lhs; unfold fl
  rw [if_pos rfl, if_neg (h c (List.mem_cons_self ..)), fl_quoted u x (f ++ [c]) (fun y hy => h y (List.mem_cons_of_mem _ hy)), List.append_assoc]
  rfl
theorem fl_lost : ∀ (x f : List UInt8), (∀ c ∈ x, c ≠ 34) → fl f true x = none
 | [], f, _ => rfl
 | c :: x, f, h => by
  unfold fl
  rw [if_pos rfl, if_neg (h c (List.mem_cons_self ..)), fl_lost x (f ++ [c]) (fun y hy => h y (List.mem_cons_of_mem _ hy))]
theorem fl_len : ∀ (l f : List UInt8) (q : Bool) (g r : List UInt8), fl f q l = some (g, r) → r.length ≤ l.length ∧ g.length ≤ f.length + l.length
 | [], f, q, g, r, h => by
  cases q
  ·
   injection h with h; injection h with h1 h2; subst h1; subst h2; simp
  ·
   cases h
 | c :: t, f, q, g, r, h => by
  unfold fl at h
  by_cases hq : q = true
  ·
   rw [if_pos hq] at h
   by_cases h4 : c = 34
   ·
    rw [if_pos h4] at h
    have := fl_len t f false g r h
    simp; omega
   ·
    rw [if_neg h4] at h
    have := fl_len t _ true g r h
    simp at this ⊢; omega
  ·
   rw [if_neg hq] at h
   by_cases h4 : c = 34
   ·
    rw [if_pos h4] at h
    have := fl_len t f true g r h
    simp; omega
   ·
    rw [if_neg h4] at h
    by_cases hm : mkB c = true
    ·
     rw [if_pos hm] at h
     injection h with h; injection h with h1 h2; subst h1; subst h2; simp
    ·
     rw [if_neg hm] at h
     have := fl_len t _ false g r h
     simp at this ⊢; omega
theorem fl_less (c : UInt8) (t : List UInt8) (g r : List UInt8) (hw : isW c.toNat = false) (h5 : c ≠ 35) (h : fl [] false (c :: t) = some (g, r)) : r.length ≤ t.length := by
 unfold fl at h
 rw [if_neg (by decide)] at h
 by_cases h4 : c = 34
 ·
  rw [if_pos h4] at h
  exact (fl_len t _ _ _ _ h).1
 ·
  rw [if_neg h4] at h
  cases hm : mkB c
  ·
   rw [if_neg (by rw [hm]; decide)] at h
   exact (fl_len t _ _ _ _ h).1
  ·
   exact absurd (mk_35 hm h4 hw) h5
def jr (acc : List UInt8) (k : Nat) : List (List UInt8) → List UInt8 × Int
 | [] => (acc, 0)
 | x :: r => if (tx x).2 = 0 then jr (acc ++ ((if k = 0 then [] else [32]) ++ (tx x).1)) (k + 1) r else ([], (tx x).2)
def jn (l : List (List UInt8)) : List UInt8 × Int := if 16 < l.length then ([], 6) else jr [] 0 l
theorem tx_len (l : List UInt8) : (tx l).1.length ≤ l.length + 2 := by
 unfold tx
 split
 ·
  simp
 ·
  split
  ·
   simp
  ·
   simp
theorem tx_why (l : List UInt8) : (tx l).2 = 0 ∨ (tx l).2 = 8 := by
 unfold tx
 split
 ·
  exact .inr rfl
 ·
  split <;> exact .inl rfl
end Fd
end Go.Proofs.YtjggjkeopbcmoaaGreatDoor
set_option linter.unusedVariables false
set_option linter.unusedSimpArgs false
namespace Go.Proofs.YtjggjkeopbcmoaaGreatDoor
open Go.RowKit Go.Sort
namespace Fd
def bl (l : List ByteArray) : List (List UInt8) := l.map (·.data.toList)
def tot (l : List ByteArray) : Nat := (l.map (·.size)).foldr (· + ·) 0
theorem tot_cons (x : ByteArray) (l : List ByteArray) : tot (x :: l) = x.size + tot l := rfl
theorem tot_drop (l : List ByteArray) (k : Nat) (h : k < l.length) : tot (l.drop k) = l[k].size + tot (l.drop (k + 1)) := by
 rw [List.drop_eq_getElem_cons h, tot_cons]
theorem jr_next (acc : List UInt8) (k : Nat) (x : List UInt8) (r : List (List UInt8)) (h : (tx x).2 = 0) : jr acc k (x :: r) = jr (acc ++ ((if k = 0 then [] else [32]) ++ (tx x).1)) (k + 1) r := by
 conv => lhs; unfold jr
 rw [if_pos h]
theorem jr_stop (acc : List UInt8) (k : Nat) (x : List UInt8) (r : List (List UInt8)) (h : (tx x).2 ≠ 0) : jr acc k (x :: r) = ([], (tx x).2) := by
 conv => lhs; unfold jr
 rw [if_neg h]
theorem bl_drop (l : List ByteArray) (k : Nat) (h : k < l.length) : (bl l).drop k = l[k].data.toList :: (bl l).drop (k + 1) := by
 unfold bl
 rw [List.drop_eq_getElem_cons (by simpa using h), List.getElem_map]
theorem arr_len (l : List UInt8) : (⟨l.toArray⟩ : ByteArray).size = l.length := List.size_toArray
end Fd
end Go.Proofs.YtjggjkeopbcmoaaGreatDoor
set_option linter.unusedVariables false
set_option linter.unusedSimpArgs false
namespace Go.Proofs.YtjggjkeopbcmoaaGreatDoor
open Go.RowKit
theorem extra169 : Builder.Extra Tryz.prog Tryz.lays169_ren := { sizeBuilder := by kernel_rfl, liesBuilder := by kernel_rfl, t5 := Tryz.underlying5, a5 := Tryz.isAgg5, z5 := Tryz.sizeOf5, v5 := Tryz.zeroValue5, infoByte := by kernel_rfl, cellsByte := by kernel_rfl, sizeByte := by kernel_rfl, neB5 := by decide }
def IsB (b : Nat) (l : List UInt8) (w : World) : Prop := Lib.IsBuilderF 62 5 b b (Lib.byteCells l) w
theorem BAt.on {T e : TypeId} {B b : Nat} {p : Value} {bs : List Value} {W W' : World} (h : Lib.BuilderAtF T e B b p bs W) (k : Below W.heap.size W W') : Lib.BuilderAtF T e B b p bs W' := by
 have hlt := h.lt
 obtain ⟨hB, v, hb, hown, hne⟩ := h
 refine ⟨hB, v, (k.block b hlt).trans hb, ⟨hown.1, ?_⟩, hne⟩
 rcases hown.2 with h2 | ⟨g, cap, cur, fz, hv, hbg, hg, rest⟩
 ·
  exact .inl h2
 ·
  have hglt : g < W.heap.size := (Array.getElem?_eq_some_iff.1 hg).1
  exact .inr ⟨g, cap, cur, fz, hv, hbg, (k.block g hglt).trans hg, rest⟩
theorem IsB.on {b : Nat} {l : List UInt8} {W W' : World} (h : IsB b l W) (k : Below W.heap.size W W') : IsB b l W' :=
 h.elim (fun x => .inl (BAt.on x k)) (fun x => .inr (BAt.on x k))
theorem IsB.lt {b : Nat} {l : List UInt8} {W : World} (h : IsB b l W) : b < W.heap.size := h.elim (·.lt) (·.lt)
theorem IsB.fresh (w : World) : IsB w.heap.size [] (w.alloc (.cells #[.pointer none, .slice none 0 0] 62)) := Lib.IsBuilderF.of (Lib.fresh_isBuilder _ _ w)
theorem sizeBuilder : (Tryz.prog.info? 62).map (·.size) = some 2 := by kernel_rfl
theorem liesBuilder : liesAt Tryz.prog Tryz.prog.depth 62 (2 / Tryz.prog.cellsOf 62) 0 62 1 = true := by kernel_rfl
theorem infoByte : (Tryz.prog.info? 5).map (fun i => (i.zero, i.size, i.bytes)) = some (some (.int .u8 0), 1, 1) := by kernel_rfl
set_option maxHeartbeats 1000000 in
set_option maxRecDepth 100000 in
theorem check_used (b : Nat) (w : World) (h0 : w.cell? ⟨b, 0, none⟩ = some (.pointer (some ⟨b, 0, none⟩))) :
  Calls Tryz.prog 60 #[.pointer (some ⟨b, 0, none⟩)] w fun e w' => e = .returned (.tuple #[]) ∧ w' = w := by
 obtain ⟨j, hj, _⟩ := Option.map_eq_some_iff.1 sizeBuilder
 go_enter Tryz.func60, Tryz.ntmps60
 go_wp2
 rw [Lib.run_neq_ptr_same w _ Tryz.underlying59 hj]
 go_wp2
 go_end0
 exact ⟨rfl, rfl⟩
set_option maxHeartbeats 1000000 in
set_option maxRecDepth 100000 in
theorem check_fresh (b : Nat) (w : World) (h0 : w.cell? ⟨b, 0, none⟩ = some (.pointer none)) (hsh : w.shape? b = some (62, 2)) (hfz : w.frozen? ⟨b, 0, none⟩ = false) :
  Calls Tryz.prog 60 #[.pointer (some ⟨b, 0, none⟩)] w fun e w' => e = .returned (.tuple #[]) ∧ w' = w.setCell ⟨b, 0, none⟩ (.pointer (some ⟨b, 0, none⟩)) := by
 obtain ⟨j, hj, hjs⟩ := Option.map_eq_some_iff.1 sizeBuilder
 go_enter Tryz.func60, Tryz.ntmps60
 go_wp2
 rw [Lib.run_to_unsafe w ⟨b, 0, none⟩ Tryz.underlying59 Tryz.underlying137 hj (by rw [hjs]; decide) hsh (Nat.zero_lt_succ 1)]
 simp only [Result.andThen]
 rw [Oper.upon_value]
 go_wp2
 rw [run_callFunc_extern Tryz.func95 (by kernel_rfl) (by kernel_rfl) (by kernel_rfl) (e := Extern.AbiNoEscape.same) (by kernel_rfl)]
 rw [Lib.run_noEscape]
 simp only [Result.andThen]
 rw [Oper.upon_value]
 go_wp2
 rw [Lib.run_from_unsafe w ⟨b, 0, none⟩ Tryz.underlying137 Tryz.underlying59 hj hsh liesBuilder]
 simp only [Result.andThen]
 rw [Oper.upon_value]
 go_wp2
 go_end0
 exact ⟨rfl, rfl⟩
theorem check_any (b : Nat) (l : List UInt8) (w : World) (h : IsB b l w) :
  Calls Tryz.prog 60 #[.pointer (some ⟨b, 0, none⟩)] w fun e w' => e = .returned (.tuple #[]) ∧ Lib.BuilderAtF 62 5 b b (.pointer (some ⟨b, 0, none⟩)) (Lib.byteCells l) w' ∧ Below b w w' := by
 rcases h with h | h
 ·
  refine (check_fresh b w h.cell0 h.shape h.frozen0).mono ?_
  rintro e w' ⟨rfl, rfl⟩
  exact ⟨rfl, h.used _, (Below.refl b w).setCell (p := ⟨b, 0, none⟩) (Nat.le_refl _) _⟩
 ·
  refine (check_used b w h.cell0).mono ?_
  rintro e w' ⟨rfl, rfl⟩
  exact ⟨rfl, h, Below.refl b _⟩
set_option maxHeartbeats 2000000 in
set_option maxRecDepth 100000 in
theorem bw_str (b : Nat) (l : List UInt8) (s : ByteArray) (w : World) (h : IsB b l w) (hl : l.length ≤ 1000000000) (hs : s.size ≤ 1000000000) :
  Calls Tryz.prog 27 #[.pointer (some ⟨b, 0, none⟩), .string s] w fun e w' => e = .returned (.tuple #[.int .i64 s.size, .nilIface]) ∧ (IsB b (l ++ s.data.toList) w' ∧ Below b w w') := by
 obtain ⟨i0, hi, hz0, hz1, hz2⟩ := info_parts infoByte
 have hlw := h.lt
 have hlen : (Lib.byteCells l).length = l.length := Lib.byteCells_length l
 have HC := Lib.hid (check_any b l w h)
 clear h
 go_enter Tryz.func27, Tryz.ntmps27
 go_wp2_with fail
 refine HC.out.mono ?_
 rintro e w1 ⟨rfl, h1, hb1⟩
 clear HC
 obtain ⟨hB, v, hbk, hown, hne⟩ := h1
 have hlt : b < w1.heap.size := Nat.lt_of_lt_of_le hlw hb1.size
 have c0 : w1.cell? ⟨b, 0, none⟩ = some (.pointer (some ⟨b, 0, none⟩)) := by rw [Lib.cell_of_heap hbk]; rfl
 have c1 : w1.cell? ⟨b, 1, none⟩ = some v := by rw [Lib.cell_of_heap hbk]; rfl
 go_wp2_with (at_builtin; refine Lib.wpList_append_own_stringF _ rfl _ _ 60 9 rfl b 5 i0 Tryz.underlying60 Tryz.underlying9 hi hz0 hz1 hz2 _ _ _ rfl hown s rfl ?c3 ?c4 ?c5 ?_)
 case c3 => unfold maxLen; omega
 case c4 => omega
 case c5 => omega
 intro v' w2 hown' hgrow _
 have hb2 : w2.heap[b]? = some (.cells #[.pointer (some ⟨b, 0, none⟩), v] 62 (0, 0)) := by
  rw [hgrow.block b hlt (fun e => hne e.symm)]
  exact hbk
 have d0 : w2.cell? ⟨b, 0, none⟩ = some (.pointer (some ⟨b, 0, none⟩)) := by rw [Lib.cell_of_heap hb2]; rfl
 have d1 : w2.cell? ⟨b, 1, none⟩ = some v := by rw [Lib.cell_of_heap hb2]; rfl
 have f1 : w2.frozen? ⟨b, 1, none⟩ = false := Lib.frozen_of_heap hb2 1
 obtain ⟨ao, n', cap, rfl⟩ : ∃ ao n' cap, v' = .slice ao n' cap := by
  rcases hown'.2 with ⟨hv, _⟩ | ⟨g, cap, cur, fz, hv, _⟩
  ·
   exact ⟨_, _, _, hv⟩
  ·
   exact ⟨_, _, _, hv⟩
 go_wp2
 go_ret2
 refine ⟨rfl, ?_, ?_⟩
 ·
  right
  rw [Lib.byteCells_append]
  exact Lib.BuilderAtF.put hB hb2 (bs' := Lib.byteCells l ++ Lib.strCells s) (by simpa [Lib.strCells_length, hlen] using hown') (by decide)
 ·
  exact (hb1.grown hgrow (by omega) (fun k hk => (hown.lt k hk).1)).setCell (p := ⟨b, 1, none⟩) hB _
theorem b_string (b : Nat) (l : List UInt8) (w : World) (h : IsB b l w) :
  Calls Tryz.prog 28 #[.pointer (some ⟨b, 0, none⟩)] w fun e w' => e = .returned (.string ⟨l.toArray⟩) ∧ (IsB b l w' ∧ Below b w w') :=
 (Any.Builder_String_any_k Tryz.lays169 extra169 b b l w h (Nat.le_of_lt h.lt)).mono fun _ _ ⟨e, h1, b1, _⟩ => ⟨e, h1, b1⟩
end Go.Proofs.YtjggjkeopbcmoaaGreatDoor
