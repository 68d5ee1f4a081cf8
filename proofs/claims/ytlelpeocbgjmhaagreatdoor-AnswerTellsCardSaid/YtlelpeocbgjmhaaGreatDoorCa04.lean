/- Joined: FdC0, FdA, FdB, Bk. -/
import Derived.Test.YtlelpeocbgjmhaaGreatDoorCa01
import Derived.Lib.DecodeN
import Derived.Shelf.GgClosure.StringsTrimFunc
import Derived.Shelf.GgClosure.StringsIndexFuncTop
import Derived.Laws.RangeAny
import Derived.Test.YtlelpeocbgjmhaaGreatDoorLaidF
import Derived.Shelf.Strings.Runes
import Derived.Lib.IndexAny
import Derived.Lib.QuietBelow
/- Texts as lists of bytes, where no text of num is at hand. -/
set_option linter.unusedVariables false
set_option linter.unusedSimpArgs false
namespace Go.Proofs.YtlelpeocbgjmhaaGreatDoor
open Go.RowKit

theorem fd_len (a : ByteArray) : a.data.toList.length = a.size := Array.length_toList
theorem fd_drop (a : ByteArray) (k : Nat) (h : k < a.size) : a.data.toList.drop k = a[k] :: a.data.toList.drop (k + 1) := by
  rw [List.drop_eq_getElem_cons (by rw [fd_len]; exact h)]
  rfl
theorem fd_id (s : ByteArray) : (⟨s.data.toList.toArray⟩ : ByteArray) = s := by apply ByteArray.ext; apply Array.toList_inj.1; simp
theorem fd_ne {ds : ByteArray} (h : 0 < ds.size) : ds.toList.isEmpty = false ∧ ¬ ds.toList = [] := by
  have : ds.toList ≠ [] := by
    intro e
    have hl := fd_len ds
    rw [← ByteArray.toList_eq] at hl
    rw [e] at hl; simp at hl; omega
  exact ⟨by simpa using this, this⟩
theorem fd_ix (a : ByteArray) (k : Nat) (h : k < a.size) (w : World) : Sem.run Tryz.prog (Instr.index 9 (.string a) (.int .i64 (k : Int))) w = .ok (.int .u8 a[k].toNat) w := by
  rw [run_index_string w _ _ _ _ Tryz.underlying9, dif_pos ⟨by omega, by omega⟩]
  simp
end Go.Proofs.YtlelpeocbgjmhaaGreatDoor

/- Fields: where a mark stands first, where the blanks end: in plain lists. -/
set_option linter.unusedVariables false
set_option linter.unusedSimpArgs false
namespace Go.Proofs.YtlelpeocbgjmhaaGreatDoor
open Go.RowKit

namespace Fd
theorem decode_low (s : ByteArray) (pos : Nat) (h : pos < s.size) (ha : (s[pos]'h).toNat < 128) : Utf8.decode s pos = ((s[pos]'h).toNat, 1) := by
  simp only [Utf8.decode, get_at s pos h, ha, if_true]
/-- The first place of a byte that is so; -1: none. -/
def fi (Q : UInt8 → Bool) : List UInt8 → Int → Int
  | [], _ => -1
  | c :: t, k => if Q c = true then k else fi Q t (k + 1)
theorem dn (n b0 b1 b2 b3 : Nat) (h : 128 ≤ b0) (n1 : 1 ≤ n) : (Lib.decodeN n b0 b1 b2 b3).2 ≤ n ∧ (Lib.decodeN n b0 b1 b2 b3).2 ≤ 4 ∧ (2 ≤ (Lib.decodeN n b0 b1 b2 b3).2 → 128 ≤ b1) ∧ (3 ≤ (Lib.decodeN n b0 b1 b2 b3).2 → 128 ≤ b2) ∧ (4 ≤ (Lib.decodeN n b0 b1 b2 b3).2 → 128 ≤ b3) := by
  unfold Lib.decodeN
  repeat' split
  all_goals (refine ⟨?_, ?_, ?_, ?_, ?_⟩ <;> simp only [] <;> omega)
theorem dec_high (s : ByteArray) (pos : Nat) (h : pos < s.size) (ha : 128 ≤ (s[pos]'h).toNat) : (Utf8.decode s pos).2 ≤ s.size - pos ∧ ∀ j, j < (Utf8.decode s pos).2 → ∀ hj : pos + j < s.size, 128 ≤ (s[pos + j]'hj).toNat := by
  rw [Lib.decode_at]
  have e : s.get! pos = s[pos]'h := get_at s pos h
  obtain ⟨d1, d2, d3, d4, d5⟩ := dn (s.size - pos) (s.get! pos).toNat (s.get! (pos + 1)).toNat (s.get! (pos + 2)).toNat (s.get! (pos + 3)).toNat (by rw [e]; exact ha) (by omega)
  refine ⟨d1, fun j hj hb => ?_⟩
  have e2 : s.get! (pos + j) = s[pos + j]'hb := get_at s (pos + j) hb
  rw [← e2]
  obtain rfl | rfl | rfl | rfl : j = 0 ∨ j = 1 ∨ j = 2 ∨ j = 3 := by omega
  · show 128 ≤ (s.get! pos).toNat
    rw [e]; exact ha
  · exact d3 (by omega)
  · exact d4 (by omega)
  · exact d5 (by omega)
theorem skip (Q : UInt8 → Bool) (s : ByteArray) : ∀ (K pos : Nat), pos + K ≤ s.size → (∀ j, j < K → ∀ hj : pos + j < s.size, Q (s[pos + j]'hj) = false) → fi Q (s.data.toList.drop pos) pos = fi Q (s.data.toList.drop (pos + K)) ((pos + K : Nat) : Int)
  | 0, pos, _, _ => rfl
  | K + 1, pos, h, hq => by
    rw [fd_drop s pos (by omega)]
    have h0 : Q (s[pos]'(by omega)) = false := hq 0 (by omega) (by omega)
    have hf : fi Q ((s[pos]'(by omega)) :: s.data.toList.drop (pos + 1)) pos = fi Q (s.data.toList.drop (pos + 1)) ((pos + 1 : Nat) : Int) := if_neg (by rw [h0]; decide)
    rw [hf]
    have r := skip Q s K (pos + 1) (by omega) (fun j hj hb => by
      have := hq (j + 1) (by omega) (by omega)
      simp only [show pos + (j + 1) = pos + 1 + j by omega] at this
      exact this)
    rw [show pos + (K + 1) = pos + 1 + K by omega, ← r]
theorem idx_yes (P : Nat → Bool) (hP : ∀ r, 128 ≤ r → P r = false) (s : ByteArray) : ∀ (f pos : Nat), s.size - pos ≤ f → Lib.idxFuncFrom P true s f pos = fi (fun c => P c.toNat) (s.data.toList.drop pos) pos
  | 0, pos, h => by
    rw [List.drop_of_length_le (by rw [fd_len]; omega)]
    rfl
  | f + 1, pos, h => by
    unfold Lib.idxFuncFrom
    by_cases hp : pos < s.size
    · rw [if_pos hp]
      by_cases ha : (s[pos]'hp).toNat < 128
      · rw [decode_low s pos hp ha, fd_drop s pos hp]
        unfold fi
        by_cases hq : P (s[pos]'hp).toNat = true
        · rw [if_pos hq, if_pos hq]
        · rw [if_neg hq, if_neg hq, idx_yes P hP s f (pos + 1) (by omega)]; rfl
      · obtain ⟨r1, r2⟩ := decode_high s pos hp (by omega)
        obtain ⟨z1, z2⟩ := dec_high s pos hp (by omega)
        rw [if_neg (by rw [hP _ r1]; decide), idx_yes P hP s f _ (by omega)]
        exact (skip (fun c => P c.toNat) s _ pos (by omega) (fun j hj hb => hP _ (z2 j hj hb))).symm
    · rw [if_neg hp, List.drop_of_length_le (by rw [fd_len]; omega)]
      rfl
theorem idx_no (P : Nat → Bool) (hP : ∀ r, 128 ≤ r → P r = false) (s : ByteArray) : ∀ (f pos : Nat), s.size - pos ≤ f → Lib.idxFuncFrom P false s f pos = fi (fun c => !P c.toNat) (s.data.toList.drop pos) pos
  | 0, pos, h => by
    rw [List.drop_of_length_le (by rw [fd_len]; omega)]
    rfl
  | f + 1, pos, h => by
    unfold Lib.idxFuncFrom
    by_cases hp : pos < s.size
    · rw [if_pos hp, fd_drop s pos hp]
      by_cases ha : (s[pos]'hp).toNat < 128
      · rw [decode_low s pos hp ha]
        unfold fi
        cases hq : P (s[pos]'hp).toNat
        · rw [if_pos rfl]; rfl
        · rw [if_neg (by decide), if_neg (by decide), idx_no P hP s f (pos + 1) (by omega)]; rfl
      · obtain ⟨r1, r2⟩ := decode_high s pos hp (by omega)
        unfold fi
        rw [if_pos (hP _ r1), if_pos (by show (!P (s[pos]'hp).toNat) = true; rw [hP _ (by omega)]; rfl)]
    · rw [if_neg hp, List.drop_of_length_le (by rw [fd_len]; omega)]
      rfl
theorem idx_mark (s : ByteArray) : Lib.idxFunc isK true s = fi (fun c => isK c.toNat) s.data.toList 0 := idx_yes isK (fun r h => by unfold isK; simp; omega) s s.size 0 (by omega)
theorem idx_blank (s : ByteArray) : Lib.idxFunc isW false s = fi (fun c => !isW c.toNat) s.data.toList 0 := idx_no isW (fun r h => by unfold isW; simp; omega) s s.size 0 (by omega)
end Fd
end Go.Proofs.YtlelpeocbgjmhaaGreatDoor

/- Fields: marks and blanks; Text. -/
set_option linter.unusedVariables false
set_option linter.unusedSimpArgs false
namespace Go.Proofs.YtlelpeocbgjmhaaGreatDoor
open Go.RowKit

theorem isBlank_any (r : Nat) (w : World) : Calls Tryz.prog 84 #[.int .i32 (r : Int)] w fun e w' => e = .returned (.bool (Fd.isW r)) ∧ w = w' := by
  by_cases h1 : r = 32 <;> by_cases h2 : r = 9
  all_goals
    have z1 : ((r : Int) == 32) = decide (r = 32) := by rw [Bool.eq_iff_iff, beq_iff_eq, decide_eq_true_eq]; omega
    have z2 : ((r : Int) == 9) = decide (r = 9) := by rw [Bool.eq_iff_iff, beq_iff_eq, decide_eq_true_eq]; omega
    have z3 : (r : Int) = 32 ↔ r = 32 := by omega
    have z4 : (r : Int) = 9 ↔ r = 9 := by omega
    go_enter Tryz.func84, Tryz.ntmps84
    go_wp2
    all_goals first | (exfalso; omega) | (go_ret; exact ⟨by simp [Fd.isW, h1, h2], rfl⟩)
theorem isBlank_at (w : World) : PredAt Tryz.prog 84 #[] encR Fd.isW w := fun W r _ => by
  unfold FnGives
  exact (isBlank_any r W).mono fun e w' ⟨h, h2⟩ => ⟨h, 0, h2.symm⟩
theorem isMark_at (w : World) : PredAt Tryz.prog 60 #[] encR Fd.isK w := fun W r _ => by
  unfold FnGives
  have C := Lib.hid (fun W => isBlank_any r W)
  show Calls Tryz.prog 60 #[.int .i32 (r : Int)] W _
  have hw : Fd.isK r = (Fd.isW r || (decide (r = 34) || decide (r = 35))) := rfl
  rw [hw]
  generalize Fd.isW r = b at C ⊢
  have z1 : ((r : Int) == 34) = decide (r = 34) := by rw [Bool.eq_iff_iff, beq_iff_eq, decide_eq_true_eq]; omega
  have z2 : ((r : Int) == 35) = decide (r = 35) := by rw [Bool.eq_iff_iff, beq_iff_eq, decide_eq_true_eq]; omega
  generalize decide (r = 34) = b1 at z1 ⊢
  generalize decide (r = 35) = b2 at z2 ⊢
  generalize (r : Int) = R at z1 z2 C ⊢
  cases b
  · cases b1 <;> cases b2
    all_goals
      go_enter Tryz.func60, Tryz.ntmps60
      go_wp2_with fail
      refine (C.out _).mono ?_; rintro e w1 ⟨rfl, rfl⟩
      go_wp2_with fail
      go_ret
      exact ⟨rfl, 0, rfl⟩
  · rw [Bool.true_or]
    go_enter Tryz.func60, Tryz.ntmps60
    go_wp2_with fail
    refine (C.out _).mono ?_; rintro e w1 ⟨rfl, rfl⟩
    go_wp2_with fail
    go_ret
    exact ⟨rfl, 0, rfl⟩
namespace Fd
theorem fi_any (Q : UInt8 → Bool) : ∀ (l : List UInt8) (k : Int), 0 ≤ k → decide (0 ≤ fi Q l k) = l.any Q
  | [], k, h => rfl
  | c :: t, k, h => by
    unfold fi
    rw [List.any_cons]
    cases hq : Q c
    · rw [if_neg (by decide), fi_any Q t (k + 1) (by omega)]; rfl
    · rw [if_pos rfl, decide_eq_true h]; rfl
end Fd
theorem containsMark (s : ByteArray) (w : World) :
    Calls Tryz.prog 59 #[.string s, .func (.func 60) #[] #[]] w fun e w' => e = .returned (.bool (s.data.toList.any Fd.mkB)) ∧ Below w.heap.size w w' := by
  have : s.data.toList.any Fd.mkB = decide (0 ≤ Lib.idxFunc Fd.isK true s) := by rw [Fd.idx_mark, Fd.fi_any _ _ 0 (by omega)]; rfl
  rw [this]
  exact (Any.strings_ContainsFunc Tryz.laysGw17 60 #[] (enters_of Tryz.func60 (by kernel_rfl) rfl) Fd.isK s w (isMark_at w)).mono fun _ _ ⟨a, h⟩ => ⟨a, h⟩
theorem containsQuote (s : ByteArray) (w : World) :
    Calls Tryz.prog 58 #[.string s, .int .i32 34] w fun e w' => e = .returned (.bool (s.data.toList.contains 34)) ∧ w = w' := by
  rw [Lib.contains_iff_indexByte]
  exact (Any.strings_ContainsRune_ascii Tryz.lays151 s 34 w (by omega) (by omega)).mono fun _ _ ⟨a, h⟩ => ⟨a, h.symm⟩
set_option maxHeartbeats 4000000 in
theorem fdtext_any (s : ByteArray) (w : World) (hs : s.size ≤ 100000000) :
    Calls Tryz.prog 37 #[.string s] w fun e w' => e = .returned (.tuple #[.string ⟨(Fd.tx s.data.toList).1.toArray⟩, .int .i64 (Fd.tx s.data.toList).2]) ∧ Below w.heap.size w w' := by
  have CQ := Lib.hid (fun W => containsQuote s W)
  have CM := Lib.hid (fun W => containsMark s W)
  unfold Fd.tx
  cases hc : s.data.toList.contains 34
  · rw [hc] at CQ
    rw [if_neg (by decide)]
    by_cases h0 : s.data.toList = []
    · rw [if_pos (.inl h0)]
      obtain rfl : s = ⟨#[]⟩ := by apply ByteArray.ext; apply Array.toList_inj.1; rw [h0]
      clear h0 hc CM
      go_enter Tryz.func37, Tryz.ntmps37
      go_wp2_with fail
      refine (CQ.out _).mono ?_; rintro e w1 ⟨rfl, rfl⟩
      go_wp2_with fail
      go_ret2
      exact ⟨rfl, Below.refl _ _⟩
    · have hp : 0 < s.size := by
        rcases Nat.eq_zero_or_pos s.size with h | h
        · exact absurd (by rw [← List.length_eq_zero_iff, fd_len]; exact h) h0
        · exact h
      obtain ⟨n1, n2⟩ := fd_ne hp
      cases hm : s.data.toList.any Fd.mkB
      · rw [hm] at CM
        rw [if_neg (fun h => by rcases h with h | h; exact h0 h; cases h)]
        show Calls _ _ _ _ fun e w' => e = .returned (.tuple #[.string ⟨s.data.toList.toArray⟩, .int .i64 0]) ∧ Below w.heap.size w w'
        rw [show (⟨s.data.toList.toArray⟩ : ByteArray) = s from by apply ByteArray.ext; apply Array.toList_inj.1; simp]
        clear h0 hc hm
        go_enter Tryz.func37, Tryz.ntmps37
        go_wp2_with fail
        refine (CQ.out _).mono ?_; rintro e w1 ⟨rfl, rfl⟩
        go_wp2_with fail
        refine (CM.out _).mono ?_; rintro e w2 ⟨rfl, b2⟩
        have B2 := Lib.hid b2; clear b2
        go_wp2_with fail
        go_ret2
        exact ⟨rfl, B2.out⟩
      · rw [hm] at CM
        rw [if_pos (.inr rfl)]
        show Calls _ _ _ _ fun e w' => e = .returned (.tuple #[.string ⟨(34 :: (s.data.toList ++ [34])).toArray⟩, .int .i64 0]) ∧ Below w.heap.size w w'
        have hR : (⟨(34 :: (s.data.toList ++ [34])).toArray⟩ : ByteArray) = (⟨#[34]⟩ ++ s) ++ ⟨#[34]⟩ := by
          apply ByteArray.ext; apply Array.toList_inj.1
          simp [ByteArray.data_append]
        rw [hR]
        have e1 : (⟨#[34]⟩ ++ s : ByteArray).size = 1 + s.size := by rw [ByteArray.size_append]; rfl
        clear h0 hc hm hR
        go_enter Tryz.func37, Tryz.ntmps37
        go_wp2_with fail
        refine (CQ.out _).mono ?_; rintro e w1 ⟨rfl, rfl⟩
        go_wp2_with fail
        refine (CM.out _).mono ?_; rintro e w2 ⟨rfl, b2⟩
        have B2 := Lib.hid b2; clear b2
        go_wp2_with fail
        go_ret2
        exact ⟨rfl, B2.out⟩
  · rw [hc] at CQ
    rw [if_pos rfl]
    show Calls _ _ _ _ fun e w' => e = .returned (.tuple #[.string ⟨#[]⟩, .int .i64 8]) ∧ Below w.heap.size w w'
    clear hc CM
    go_enter Tryz.func37, Tryz.ntmps37
    go_wp2_with fail
    refine (CQ.out _).mono ?_; rintro e w1 ⟨rfl, rfl⟩
    go_wp2_with fail
    go_ret2
    exact ⟨rfl, Below.refl _ _⟩
end Go.Proofs.YtlelpeocbgjmhaaGreatDoor

/- A block of one to six cells, through calls. -/
set_option linter.unusedVariables false
set_option linter.unusedSimpArgs false
namespace Go.Proofs.YtlelpeocbgjmhaaGreatDoor
open Go.RowKit Go.Sort

/-- A block of 1 cells. -/
structure Bk1 (W : World) (b : Nat) (v0 : Value) : Prop where
  hb : b < W.heap.size
  fz : ∀ j, W.frozen? ⟨b, j, none⟩ = false
  k0 : W.cell? ⟨b, 0, none⟩ = some v0
theorem Bk1.of {W w1 : World} {b : Nat} {v0 : Value} (k : Below W.heap.size W w1) (hb : b < W.heap.size) (hf : ∀ j, W.frozen? ⟨b, j, none⟩ = false) (h0 : W.cell? ⟨b, 0, none⟩ = some v0) : Bk1 w1 b v0 :=
  ⟨Nat.lt_of_lt_of_le hb k.size, fun j => (k.frozen (p := ⟨b, j, none⟩) hb).trans (hf j), (k.cell (p := ⟨b, 0, none⟩) hb).trans h0⟩
theorem Bk1.keep {W w1 : World} {b : Nat} {v0 : Value} (h : Bk1 W b v0) (k : Below W.heap.size W w1) : Bk1 w1 b v0 :=
  Bk1.of k h.hb h.fz h.k0
/-- A block of 2 cells. -/
structure Bk2 (W : World) (b : Nat) (v0 v1 : Value) : Prop where
  hb : b < W.heap.size
  fz : ∀ j, W.frozen? ⟨b, j, none⟩ = false
  k0 : W.cell? ⟨b, 0, none⟩ = some v0
  k1 : W.cell? ⟨b, 1, none⟩ = some v1
theorem Bk2.of {W w1 : World} {b : Nat} {v0 v1 : Value} (k : Below W.heap.size W w1) (hb : b < W.heap.size) (hf : ∀ j, W.frozen? ⟨b, j, none⟩ = false) (h0 : W.cell? ⟨b, 0, none⟩ = some v0) (h1 : W.cell? ⟨b, 1, none⟩ = some v1) : Bk2 w1 b v0 v1 :=
  ⟨Nat.lt_of_lt_of_le hb k.size, fun j => (k.frozen (p := ⟨b, j, none⟩) hb).trans (hf j), (k.cell (p := ⟨b, 0, none⟩) hb).trans h0, (k.cell (p := ⟨b, 1, none⟩) hb).trans h1⟩
theorem Bk2.keep {W w1 : World} {b : Nat} {v0 v1 : Value} (h : Bk2 W b v0 v1) (k : Below W.heap.size W w1) : Bk2 w1 b v0 v1 :=
  Bk2.of k h.hb h.fz h.k0 h.k1
/-- A block of 3 cells. -/
structure Bk3 (W : World) (b : Nat) (v0 v1 v2 : Value) : Prop where
  hb : b < W.heap.size
  fz : ∀ j, W.frozen? ⟨b, j, none⟩ = false
  k0 : W.cell? ⟨b, 0, none⟩ = some v0
  k1 : W.cell? ⟨b, 1, none⟩ = some v1
  k2 : W.cell? ⟨b, 2, none⟩ = some v2
theorem Bk3.of {W w1 : World} {b : Nat} {v0 v1 v2 : Value} (k : Below W.heap.size W w1) (hb : b < W.heap.size) (hf : ∀ j, W.frozen? ⟨b, j, none⟩ = false) (h0 : W.cell? ⟨b, 0, none⟩ = some v0) (h1 : W.cell? ⟨b, 1, none⟩ = some v1) (h2 : W.cell? ⟨b, 2, none⟩ = some v2) : Bk3 w1 b v0 v1 v2 :=
  ⟨Nat.lt_of_lt_of_le hb k.size, fun j => (k.frozen (p := ⟨b, j, none⟩) hb).trans (hf j), (k.cell (p := ⟨b, 0, none⟩) hb).trans h0, (k.cell (p := ⟨b, 1, none⟩) hb).trans h1, (k.cell (p := ⟨b, 2, none⟩) hb).trans h2⟩
theorem Bk3.keep {W w1 : World} {b : Nat} {v0 v1 v2 : Value} (h : Bk3 W b v0 v1 v2) (k : Below W.heap.size W w1) : Bk3 w1 b v0 v1 v2 :=
  Bk3.of k h.hb h.fz h.k0 h.k1 h.k2
/-- A block of 4 cells. -/
structure Bk4 (W : World) (b : Nat) (v0 v1 v2 v3 : Value) : Prop where
  hb : b < W.heap.size
  fz : ∀ j, W.frozen? ⟨b, j, none⟩ = false
  k0 : W.cell? ⟨b, 0, none⟩ = some v0
  k1 : W.cell? ⟨b, 1, none⟩ = some v1
  k2 : W.cell? ⟨b, 2, none⟩ = some v2
  k3 : W.cell? ⟨b, 3, none⟩ = some v3
theorem Bk4.of {W w1 : World} {b : Nat} {v0 v1 v2 v3 : Value} (k : Below W.heap.size W w1) (hb : b < W.heap.size) (hf : ∀ j, W.frozen? ⟨b, j, none⟩ = false) (h0 : W.cell? ⟨b, 0, none⟩ = some v0) (h1 : W.cell? ⟨b, 1, none⟩ = some v1) (h2 : W.cell? ⟨b, 2, none⟩ = some v2) (h3 : W.cell? ⟨b, 3, none⟩ = some v3) : Bk4 w1 b v0 v1 v2 v3 :=
  ⟨Nat.lt_of_lt_of_le hb k.size, fun j => (k.frozen (p := ⟨b, j, none⟩) hb).trans (hf j), (k.cell (p := ⟨b, 0, none⟩) hb).trans h0, (k.cell (p := ⟨b, 1, none⟩) hb).trans h1, (k.cell (p := ⟨b, 2, none⟩) hb).trans h2, (k.cell (p := ⟨b, 3, none⟩) hb).trans h3⟩
theorem Bk4.keep {W w1 : World} {b : Nat} {v0 v1 v2 v3 : Value} (h : Bk4 W b v0 v1 v2 v3) (k : Below W.heap.size W w1) : Bk4 w1 b v0 v1 v2 v3 :=
  Bk4.of k h.hb h.fz h.k0 h.k1 h.k2 h.k3
/-- A block of 5 cells. -/
structure Bk5 (W : World) (b : Nat) (v0 v1 v2 v3 v4 : Value) : Prop where
  hb : b < W.heap.size
  fz : ∀ j, W.frozen? ⟨b, j, none⟩ = false
  k0 : W.cell? ⟨b, 0, none⟩ = some v0
  k1 : W.cell? ⟨b, 1, none⟩ = some v1
  k2 : W.cell? ⟨b, 2, none⟩ = some v2
  k3 : W.cell? ⟨b, 3, none⟩ = some v3
  k4 : W.cell? ⟨b, 4, none⟩ = some v4
theorem Bk5.of {W w1 : World} {b : Nat} {v0 v1 v2 v3 v4 : Value} (k : Below W.heap.size W w1) (hb : b < W.heap.size) (hf : ∀ j, W.frozen? ⟨b, j, none⟩ = false) (h0 : W.cell? ⟨b, 0, none⟩ = some v0) (h1 : W.cell? ⟨b, 1, none⟩ = some v1) (h2 : W.cell? ⟨b, 2, none⟩ = some v2) (h3 : W.cell? ⟨b, 3, none⟩ = some v3) (h4 : W.cell? ⟨b, 4, none⟩ = some v4) : Bk5 w1 b v0 v1 v2 v3 v4 :=
  ⟨Nat.lt_of_lt_of_le hb k.size, fun j => (k.frozen (p := ⟨b, j, none⟩) hb).trans (hf j), (k.cell (p := ⟨b, 0, none⟩) hb).trans h0, (k.cell (p := ⟨b, 1, none⟩) hb).trans h1, (k.cell (p := ⟨b, 2, none⟩) hb).trans h2, (k.cell (p := ⟨b, 3, none⟩) hb).trans h3, (k.cell (p := ⟨b, 4, none⟩) hb).trans h4⟩
theorem Bk5.keep {W w1 : World} {b : Nat} {v0 v1 v2 v3 v4 : Value} (h : Bk5 W b v0 v1 v2 v3 v4) (k : Below W.heap.size W w1) : Bk5 w1 b v0 v1 v2 v3 v4 :=
  Bk5.of k h.hb h.fz h.k0 h.k1 h.k2 h.k3 h.k4
/-- A block of 6 cells. -/
structure Bk6 (W : World) (b : Nat) (v0 v1 v2 v3 v4 v5 : Value) : Prop where
  hb : b < W.heap.size
  fz : ∀ j, W.frozen? ⟨b, j, none⟩ = false
  k0 : W.cell? ⟨b, 0, none⟩ = some v0
  k1 : W.cell? ⟨b, 1, none⟩ = some v1
  k2 : W.cell? ⟨b, 2, none⟩ = some v2
  k3 : W.cell? ⟨b, 3, none⟩ = some v3
  k4 : W.cell? ⟨b, 4, none⟩ = some v4
  k5 : W.cell? ⟨b, 5, none⟩ = some v5
theorem Bk6.of {W w1 : World} {b : Nat} {v0 v1 v2 v3 v4 v5 : Value} (k : Below W.heap.size W w1) (hb : b < W.heap.size) (hf : ∀ j, W.frozen? ⟨b, j, none⟩ = false) (h0 : W.cell? ⟨b, 0, none⟩ = some v0) (h1 : W.cell? ⟨b, 1, none⟩ = some v1) (h2 : W.cell? ⟨b, 2, none⟩ = some v2) (h3 : W.cell? ⟨b, 3, none⟩ = some v3) (h4 : W.cell? ⟨b, 4, none⟩ = some v4) (h5 : W.cell? ⟨b, 5, none⟩ = some v5) : Bk6 w1 b v0 v1 v2 v3 v4 v5 :=
  ⟨Nat.lt_of_lt_of_le hb k.size, fun j => (k.frozen (p := ⟨b, j, none⟩) hb).trans (hf j), (k.cell (p := ⟨b, 0, none⟩) hb).trans h0, (k.cell (p := ⟨b, 1, none⟩) hb).trans h1, (k.cell (p := ⟨b, 2, none⟩) hb).trans h2, (k.cell (p := ⟨b, 3, none⟩) hb).trans h3, (k.cell (p := ⟨b, 4, none⟩) hb).trans h4, (k.cell (p := ⟨b, 5, none⟩) hb).trans h5⟩
theorem Bk6.keep {W w1 : World} {b : Nat} {v0 v1 v2 v3 v4 v5 : Value} (h : Bk6 W b v0 v1 v2 v3 v4 v5) (k : Below W.heap.size W w1) : Bk6 w1 b v0 v1 v2 v3 v4 v5 :=
  Bk6.of k h.hb h.fz h.k0 h.k1 h.k2 h.k3 h.k4 h.k5
/-- A block of 7 cells. -/
structure Bk7 (W : World) (b : Nat) (v0 v1 v2 v3 v4 v5 v6 : Value) : Prop where
  hb : b < W.heap.size
  fz : ∀ j, W.frozen? ⟨b, j, none⟩ = false
  k0 : W.cell? ⟨b, 0, none⟩ = some v0
  k1 : W.cell? ⟨b, 1, none⟩ = some v1
  k2 : W.cell? ⟨b, 2, none⟩ = some v2
  k3 : W.cell? ⟨b, 3, none⟩ = some v3
  k4 : W.cell? ⟨b, 4, none⟩ = some v4
  k5 : W.cell? ⟨b, 5, none⟩ = some v5
  k6 : W.cell? ⟨b, 6, none⟩ = some v6
theorem Bk7.of {W w1 : World} {b : Nat} {v0 v1 v2 v3 v4 v5 v6 : Value} (k : Below W.heap.size W w1) (hb : b < W.heap.size) (hf : ∀ j, W.frozen? ⟨b, j, none⟩ = false) (h0 : W.cell? ⟨b, 0, none⟩ = some v0) (h1 : W.cell? ⟨b, 1, none⟩ = some v1) (h2 : W.cell? ⟨b, 2, none⟩ = some v2) (h3 : W.cell? ⟨b, 3, none⟩ = some v3) (h4 : W.cell? ⟨b, 4, none⟩ = some v4) (h5 : W.cell? ⟨b, 5, none⟩ = some v5) (h6 : W.cell? ⟨b, 6, none⟩ = some v6) : Bk7 w1 b v0 v1 v2 v3 v4 v5 v6 :=
  ⟨Nat.lt_of_lt_of_le hb k.size, fun j => (k.frozen (p := ⟨b, j, none⟩) hb).trans (hf j), (k.cell (p := ⟨b, 0, none⟩) hb).trans h0, (k.cell (p := ⟨b, 1, none⟩) hb).trans h1, (k.cell (p := ⟨b, 2, none⟩) hb).trans h2, (k.cell (p := ⟨b, 3, none⟩) hb).trans h3, (k.cell (p := ⟨b, 4, none⟩) hb).trans h4, (k.cell (p := ⟨b, 5, none⟩) hb).trans h5, (k.cell (p := ⟨b, 6, none⟩) hb).trans h6⟩
theorem Bk7.keep {W w1 : World} {b : Nat} {v0 v1 v2 v3 v4 v5 v6 : Value} (h : Bk7 W b v0 v1 v2 v3 v4 v5 v6) (k : Below W.heap.size W w1) : Bk7 w1 b v0 v1 v2 v3 v4 v5 v6 :=
  Bk7.of k h.hb h.fz h.k0 h.k1 h.k2 h.k3 h.k4 h.k5 h.k6
/-- The world at hand under a name. -/
theorem wp_named {c : Code} {P : Program} {Q : Exit → Act → World → Prop} {a : Act} {W : World} (h : ∀ w1, w1 = W → c.wp P Q a w1) : c.wp P Q a W := h W rfl
/-- A region that draws its order, reads, and calls what makes memory: walked once, from a world behind w. -/
theorem wp_region_qb {P : Program} {id : Nat} {Q : Exit → Act → World → Prop} {a : Act} {w W : World} {l : List Oper} (hm : P.follows .mixedOrders = true) (hB : Region.lexB .any l.toArray = true) (hb : Below w.heap.size w W)
    (h : wpQuiet P l.toArray (fun w' => ∃ p : Regrown, w' = grow (redrawn w p.d) p.os) (fun a' => ∀ w', (∃ p : Regrown, w' = grow (redrawn w p.d) p.os) → Q .normal a' w') l a) : (Code.region id l.toArray true).wp P Q a W :=
  wp_region_quiet (C := fun w' => ∃ p : Regrown, w' = grow (redrawn w p.d) p.os) hm hB (regrown_of_below hb.drew) (by simpa using h)
end Go.Proofs.YtlelpeocbgjmhaaGreatDoor
