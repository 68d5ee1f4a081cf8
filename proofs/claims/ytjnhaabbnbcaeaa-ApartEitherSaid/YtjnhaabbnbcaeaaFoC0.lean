/- Formats: letters. -/
import Derived.Test.YtjnhaabbnbcaeaaFoA
import Derived.Lib.ItoaNum
set_option linter.unusedVariables false
set_option linter.unusedSimpArgs false
namespace Go.Proofs.Ytjnhaabbnbcaeaa
open Go.RowKit

namespace Fo
/-- Letters that are meant. -/
def lt (l : List UInt8) : List UInt8 × Int := if l = [45] then ([], 0) else if 6 < l.length then ([], 9) else if made [43, 45] l = false then ([], 4) else (l, 0)
/-- How letters are written. -/
def ltx (l : List UInt8) : List UInt8 × Int := if l = [] then ([45], 0) else if (lt l).2 ≠ 0 ∨ (lt l).1 ≠ l then ([], 4) else (l, 0)
/-- Two digits. -/
def td (n : Int) : List UInt8 := Lib.itoa (n / 10) ++ Lib.itoa (n % 10)
/-- A difference, its sign taken off. -/
def dfa (a : Int) : List UInt8 := td (a / 3600) ++ ((if a % 3600 = 0 then [] else td (a / 60 % 60)) ++ (if a % 60 = 0 then [] else td (a % 60)))
def df (off : Int) : List UInt8 := if off < 0 then 45 :: dfa (-off) else 43 :: dfa off
end Fo
theorem bz_ne {s : ByteArray} {l : List UInt8} (h : s.data.toList ≠ l) : ¬ s.toList = l := by rw [ByteArray.toList_eq]; exact h
theorem bz_eq {s : ByteArray} {l : List UInt8} (h : s.data.toList = l) : s = ⟨l.toArray⟩ := by apply ByteArray.ext; apply Array.toList_inj.1; rw [h]
theorem bz_id (s : ByteArray) : (⟨s.data.toList.toArray⟩ : ByteArray) = s := by apply ByteArray.ext; apply Array.toList_inj.1; simp
set_option maxHeartbeats 2000000 in
theorem letter_any (s : ByteArray) (w : World) (hs : s.size ≤ 9223372036854775807) :
    Calls Try.prog 32 #[.string s] w fun e w' => e = .returned (.tuple #[.string ⟨(Fo.lt s.data.toList).1.toArray⟩, .int .i64 (Fo.lt s.data.toList).2]) ∧ w = w' := by
  unfold Fo.lt
  rw [ab_len]
  by_cases h45 : s.data.toList = [45]
  · rw [if_pos h45]
    rw [bz_eq h45]
    clear h45 hs
    go_enter Try.func32, Try.ntmps32
    go_wp2_with fail
    go_ret2
    exact ⟨rfl, rfl⟩
  · rw [if_neg h45]
    have n1 := bz_ne h45
    have n2 : (s.toList == [45]) = false := by rw [beq_eq_false_iff_ne]; exact n1
    by_cases h6 : 6 < s.size
    · rw [if_pos h6]
      have h6' : 6 < (s.size : Int) := by omega
      clear h6 h45
      go_enter Try.func32, Try.ntmps32
      go_wp2_with fail
      go_ret2
      exact ⟨rfl, rfl⟩
    · rw [if_neg h6]
      have h6' : ¬ 6 < (s.size : Int) := by omega
      have C : Hid (∀ W, Calls Try.prog 42 #[.string s, .string ⟨#[43, 45]⟩] W fun e w' => e = .returned (.bool (Fo.made [43, 45] s.data.toList)) ∧ W = w') := fun W => made_any s ⟨#[43, 45]⟩ W hs
      clear h6 h45
      cases hM : Fo.made [43, 45] s.data.toList
      · rw [hM] at C
        rw [if_pos rfl]
        clear hM
        go_enter Try.func32, Try.ntmps32
        go_wp2_with fail
        refine (C.out _).mono ?_; rintro e w1 ⟨rfl, rfl⟩
        go_wp2_with fail
        go_ret2
        exact ⟨rfl, rfl⟩
      · rw [hM] at C
        rw [if_neg (by decide), bz_id]
        clear hM
        go_enter Try.func32, Try.ntmps32
        go_wp2_with fail
        refine (C.out _).mono ?_; rintro e w1 ⟨rfl, rfl⟩
        go_wp2_with fail
        go_ret2
        exact ⟨rfl, rfl⟩
set_option maxHeartbeats 2000000 in
theorem lettertext_any (s : ByteArray) (w : World) (hs : s.size ≤ 9223372036854775807) :
    Calls Try.prog 18 #[.string s] w fun e w' => e = .returned (.tuple #[.string ⟨(Fo.ltx s.data.toList).1.toArray⟩, .int .i64 (Fo.ltx s.data.toList).2]) ∧ w = w' := by
  unfold Fo.ltx
  by_cases h0 : s.data.toList = []
  · rw [if_pos h0, bz_eq h0]
    clear h0 hs
    go_enter Try.func18, Try.ntmps18
    go_wp2_with fail
    go_ret2
    exact ⟨rfl, rfl⟩
  · rw [if_neg h0]
    have hp : 0 < s.size := by
      rcases Nat.eq_zero_or_pos s.size with h | h
      · exact absurd (by rw [← List.length_eq_zero_iff, ab_len]; exact h) h0
      · exact h
    obtain ⟨n1, n2⟩ := dne hp
    have C := Lib.hid (fun W => letter_any s W hs)
    generalize hl : Fo.lt s.data.toList = q at C ⊢
    obtain ⟨t, e⟩ := q
    have C : Hid (∀ W, Calls Try.prog 32 #[.string s] W fun e' w' => e' = .returned (.tuple #[.string ⟨t.toArray⟩, .int .i64 e]) ∧ W = w') := C
    show Calls Try.prog 18 #[.string s] w fun e' w' => e' = .returned (.tuple #[.string ⟨(if e ≠ 0 ∨ t ≠ s.data.toList then (([] : List UInt8), (4 : Int)) else (s.data.toList, 0)).1.toArray⟩, .int .i64 (if e ≠ 0 ∨ t ≠ s.data.toList then (([] : List UInt8), (4 : Int)) else (s.data.toList, 0)).2]) ∧ w = w'
    clear hl h0
    cases he : e == 0
    · have he0 : e ≠ 0 := fun h => by rw [h] at he; cases he
      have he2 : (e != 0) = true := by unfold bne; rw [he]; rfl
      rw [if_pos (.inl he0)]
      go_enter Try.func18, Try.ntmps18
      go_wp2_with fail
      refine (C.out _).mono ?_; rintro e w1 ⟨rfl, rfl⟩
      go_wp2_with fail
      go_ret2
      exact ⟨rfl, rfl⟩
    · have he0 : e = 0 := by rw [← beq_iff_eq]; exact he
      subst he0
      by_cases ht : t = s.data.toList
      · subst ht
        rw [if_neg (fun h => by rcases h with h | h; exact h rfl; exact h rfl), bz_id]
        rw [bz_id] at C
        go_enter Try.func18, Try.ntmps18
        go_wp2_with fail
        refine (C.out _).mono ?_; rintro e w1 ⟨rfl, rfl⟩
        go_wp2_with fail
        go_ret2
        exact ⟨rfl, rfl⟩
      · rw [if_pos (.inr ht)]
        have n3 : ¬ (⟨t.toArray⟩ : ByteArray).toList = s.toList := by rw [ByteArray.toList_eq, ByteArray.toList_eq]; simpa using ht
        have n4 : ((⟨t.toArray⟩ : ByteArray).toList == s.toList) = false := by rw [beq_eq_false_iff_ne]; exact n3
        generalize (⟨t.toArray⟩ : ByteArray) = T at C n3 n4
        clear ht
        go_enter Try.func18, Try.ntmps18
        go_wp2_with fail
        refine (C.out _).mono ?_; rintro e w1 ⟨rfl, rfl⟩
        go_wp2_with fail
        go_ret2
        exact ⟨rfl, rfl⟩
end Go.Proofs.Ytjnhaabbnbcaeaa

