/- Fields: marks and blanks; Text. -/
import Derived.Test.YtnkmpchonlajpaaDoorFdA
import Derived.Test.YtnkmpchonlajpaaDoorLaidF
import Derived.Shelf.Strings.Runes
import Derived.Lib.IndexAny
set_option linter.unusedVariables false
set_option linter.unusedSimpArgs false
namespace Go.Proofs.YtnkmpchonlajpaaDoor
open Go.RowKit

theorem isBlank_any (r : Nat) (w : World) : Calls Tryd.prog 44 #[.int .i32 (r : Int)] w fun e w' => e = .returned (.bool (Fd.isW r)) ∧ w = w' := by
  by_cases h1 : r = 32 <;> by_cases h2 : r = 9
  all_goals
    have z1 : ((r : Int) == 32) = decide (r = 32) := by rw [Bool.eq_iff_iff, beq_iff_eq, decide_eq_true_eq]; omega
    have z2 : ((r : Int) == 9) = decide (r = 9) := by rw [Bool.eq_iff_iff, beq_iff_eq, decide_eq_true_eq]; omega
    have z3 : (r : Int) = 32 ↔ r = 32 := by omega
    have z4 : (r : Int) = 9 ↔ r = 9 := by omega
    go_enter Tryd.func44, Tryd.ntmps44
    go_wp2
    all_goals first | (exfalso; omega) | (go_ret; exact ⟨by simp [Fd.isW, h1, h2], rfl⟩)
theorem isBlank_at (w : World) : PredAt Tryd.prog 44 #[] encR Fd.isW w := fun W r _ => by
  unfold FnGives
  exact (isBlank_any r W).mono fun e w' ⟨h, h2⟩ => ⟨h, 0, h2.symm⟩
theorem isMark_at (w : World) : PredAt Tryd.prog 35 #[] encR Fd.isK w := fun W r _ => by
  unfold FnGives
  have C := Lib.hid (fun W => isBlank_any r W)
  show Calls Tryd.prog 35 #[.int .i32 (r : Int)] W _
  have hw : Fd.isK r = (Fd.isW r || (decide (r = 34) || decide (r = 35))) := rfl
  rw [hw]
  generalize Fd.isW r = b at C ⊢
  have z1 : ((r : Int) == 34) = decide (r = 34) := by rw [Bool.eq_iff_iff, beq_iff_eq, decide_eq_true_eq]; omega
  have z2 : ((r : Int) == 35) = decide (r = 35) := by rw [Bool.eq_iff_iff, beq_iff_eq, decide_eq_true_eq]; omega
  generalize decide (r = 34) = b1 at z1 ⊢
  generalize decide (r = 35) = b2 at z2 ⊢
  generalize (r : Int) = R at z1 z2 C ⊢
  cases b
  · cases b1 <;> cases b2
    all_goals
      go_enter Tryd.func35, Tryd.ntmps35
      go_wp2_with fail
      refine (C.out _).mono ?_; rintro e w1 ⟨rfl, rfl⟩
      go_wp2_with fail
      go_ret
      exact ⟨rfl, 0, rfl⟩
  · rw [Bool.true_or]
    go_enter Tryd.func35, Tryd.ntmps35
    go_wp2_with fail
    refine (C.out _).mono ?_; rintro e w1 ⟨rfl, rfl⟩
    go_wp2_with fail
    go_ret
    exact ⟨rfl, 0, rfl⟩
namespace Fd
theorem fi_any (Q : UInt8 → Bool) : ∀ (l : List UInt8) (k : Int), 0 ≤ k → decide (0 ≤ fi Q l k) = l.any Q
  | [], k, h => rfl
  | c :: t, k, h => by
    unfold fi
    rw [List.any_cons]
    cases hq : Q c
    · rw [if_neg (by decide), fi_any Q t (k + 1) (by omega)]; rfl
    · rw [if_pos rfl, decide_eq_true h]; rfl
end Fd
theorem containsMark (s : ByteArray) (w : World) :
    Calls Tryd.prog 18 #[.string s, .func (.func 35) #[] #[]] w fun e w' => e = .returned (.bool (s.data.toList.any Fd.mkB)) ∧ Below w.heap.size w w' := by
  have : s.data.toList.any Fd.mkB = decide (0 ≤ Lib.idxFunc Fd.isK true s) := by rw [Fd.idx_mark, Fd.fi_any _ _ 0 (by omega)]; rfl
  rw [this]
  exact (Any.strings_ContainsFunc Tryd.laysGw17 35 #[] (enters_of Tryd.func35 (by kernel_rfl) rfl) Fd.isK s w (isMark_at w)).mono fun _ _ ⟨a, h⟩ => ⟨a, h⟩
theorem containsQuote (s : ByteArray) (w : World) :
    Calls Tryd.prog 34 #[.string s, .int .i32 34] w fun e w' => e = .returned (.bool (s.data.toList.contains 34)) ∧ w = w' := by
  rw [Lib.contains_iff_indexByte]
  exact (Any.strings_ContainsRune_ascii Tryd.lays151 s 34 w (by omega) (by omega)).mono fun _ _ ⟨a, h⟩ => ⟨a, h.symm⟩
set_option maxHeartbeats 4000000 in
theorem fdtext_any (s : ByteArray) (w : World) (hs : s.size ≤ 100000000) :
    Calls Tryd.prog 25 #[.string s] w fun e w' => e = .returned (.tuple #[.string ⟨(Fd.tx s.data.toList).1.toArray⟩, .int .i64 (Fd.tx s.data.toList).2]) ∧ Below w.heap.size w w' := by
  have CQ := Lib.hid (fun W => containsQuote s W)
  have CM := Lib.hid (fun W => containsMark s W)
  unfold Fd.tx
  cases hc : s.data.toList.contains 34
  · rw [hc] at CQ
    rw [if_neg (by decide)]
    by_cases h0 : s.data.toList = []
    · rw [if_pos (.inl h0)]
      obtain rfl : s = ⟨#[]⟩ := by apply ByteArray.ext; apply Array.toList_inj.1; rw [h0]
      clear h0 hc CM
      go_enter Tryd.func25, Tryd.ntmps25
      go_wp2_with fail
      refine (CQ.out _).mono ?_; rintro e w1 ⟨rfl, rfl⟩
      go_wp2_with fail
      go_ret2
      exact ⟨rfl, Below.refl _ _⟩
    · have hp : 0 < s.size := by
        rcases Nat.eq_zero_or_pos s.size with h | h
        · exact absurd (by rw [← List.length_eq_zero_iff, fd_len]; exact h) h0
        · exact h
      obtain ⟨n1, n2⟩ := fd_ne hp
      cases hm : s.data.toList.any Fd.mkB
      · rw [hm] at CM
        rw [if_neg (fun h => by rcases h with h | h; exact h0 h; cases h)]
        show Calls _ _ _ _ fun e w' => e = .returned (.tuple #[.string ⟨s.data.toList.toArray⟩, .int .i64 0]) ∧ Below w.heap.size w w'
        rw [show (⟨s.data.toList.toArray⟩ : ByteArray) = s from by apply ByteArray.ext; apply Array.toList_inj.1; simp]
        clear h0 hc hm
        go_enter Tryd.func25, Tryd.ntmps25
        go_wp2_with fail
        refine (CQ.out _).mono ?_; rintro e w1 ⟨rfl, rfl⟩
        go_wp2_with fail
        refine (CM.out _).mono ?_; rintro e w2 ⟨rfl, b2⟩
        have B2 := Lib.hid b2; clear b2
        go_wp2_with fail
        go_ret2
        exact ⟨rfl, B2.out⟩
      · rw [hm] at CM
        rw [if_pos (.inr rfl)]
        show Calls _ _ _ _ fun e w' => e = .returned (.tuple #[.string ⟨(34 :: (s.data.toList ++ [34])).toArray⟩, .int .i64 0]) ∧ Below w.heap.size w w'
        have hR : (⟨(34 :: (s.data.toList ++ [34])).toArray⟩ : ByteArray) = (⟨#[34]⟩ ++ s) ++ ⟨#[34]⟩ := by
          apply ByteArray.ext; apply Array.toList_inj.1
          simp [ByteArray.data_append]
        rw [hR]
        have e1 : (⟨#[34]⟩ ++ s : ByteArray).size = 1 + s.size := by rw [ByteArray.size_append]; rfl
        clear h0 hc hm hR
        go_enter Tryd.func25, Tryd.ntmps25
        go_wp2_with fail
        refine (CQ.out _).mono ?_; rintro e w1 ⟨rfl, rfl⟩
        go_wp2_with fail
        refine (CM.out _).mono ?_; rintro e w2 ⟨rfl, b2⟩
        have B2 := Lib.hid b2; clear b2
        go_wp2_with fail
        go_ret2
        exact ⟨rfl, B2.out⟩
  · rw [hc] at CQ
    rw [if_pos rfl]
    show Calls _ _ _ _ fun e w' => e = .returned (.tuple #[.string ⟨#[]⟩, .int .i64 8]) ∧ Below w.heap.size w w'
    clear hc CM
    go_enter Tryd.func25, Tryd.ntmps25
    go_wp2_with fail
    refine (CQ.out _).mono ?_; rintro e w1 ⟨rfl, rfl⟩
    go_wp2_with fail
    go_ret2
    exact ⟨rfl, Below.refl _ _⟩
end Go.Proofs.YtnkmpchonlajpaaDoor

