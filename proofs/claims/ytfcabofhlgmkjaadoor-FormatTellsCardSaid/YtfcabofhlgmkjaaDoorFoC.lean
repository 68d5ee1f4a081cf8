/- Formats: letters, differences, one of two. -/
import Derived.Test.YtfcabofhlgmkjaaDoorFoB
import Derived.Test.YtfcabofhlgmkjaaDoorRsC
import Derived.Test.YtfcabofhlgmkjaaDoorBld
import Derived.Shelf.Strings.Replace
import Derived.Shelf.Strings.Cut
set_option linter.unusedVariables false
set_option linter.unusedSimpArgs false
namespace Go.Proofs.YtfcabofhlgmkjaaDoor
open Go.RowKit

namespace Fo
/-- Letters that are meant. -/
def lt (l : List UInt8) : List UInt8 × Int := if l = [45] then ([], 0) else if 6 < l.length then ([], 9) else if made [43, 45] l = false then ([], 4) else (l, 0)
/-- How letters are written. -/
def ltx (l : List UInt8) : List UInt8 × Int := if l = [] then ([45], 0) else if (lt l).2 ≠ 0 ∨ (lt l).1 ≠ l then ([], 4) else (l, 0)
/-- Two digits. -/
def td (n : Int) : List UInt8 := Lib.itoa (n / 10) ++ Lib.itoa (n % 10)
/-- A difference, its sign taken off. -/
def dfa (a : Int) : List UInt8 := td (a / 3600) ++ ((if a % 3600 = 0 then [] else td (a / 60 % 60)) ++ (if a % 60 = 0 then [] else td (a % 60)))
def df (off : Int) : List UInt8 := if off < 0 then 45 :: dfa (-off) else 43 :: dfa off
end Fo
theorem bz_ne {s : ByteArray} {l : List UInt8} (h : s.data.toList ≠ l) : ¬ s.toList = l := by rw [ByteArray.toList_eq]; exact h
theorem bz_eq {s : ByteArray} {l : List UInt8} (h : s.data.toList = l) : s = ⟨l.toArray⟩ := by apply ByteArray.ext; apply Array.toList_inj.1; rw [h]
theorem bz_id (s : ByteArray) : (⟨s.data.toList.toArray⟩ : ByteArray) = s := by apply ByteArray.ext; apply Array.toList_inj.1; simp
set_option maxHeartbeats 2000000 in
theorem letter_any (s : ByteArray) (w : World) (hs : s.size ≤ 100000) :
    Calls Tryd.prog 52 #[.string s] w fun e w' => e = .returned (.tuple #[.string ⟨(Fo.lt s.data.toList).1.toArray⟩, .int .i64 (Fo.lt s.data.toList).2]) ∧ w = w' := by
  unfold Fo.lt
  rw [ab_len]
  by_cases h45 : s.data.toList = [45]
  · rw [if_pos h45]
    rw [bz_eq h45]
    clear h45 hs
    go_enter Tryd.func52, Tryd.ntmps52
    go_wp2_with fail
    go_ret2
    exact ⟨rfl, rfl⟩
  · rw [if_neg h45]
    have n1 := bz_ne h45
    have n2 : (s.toList == [45]) = false := by rw [beq_eq_false_iff_ne]; exact n1
    by_cases h6 : 6 < s.size
    · rw [if_pos h6]
      have h6' : 6 < (s.size : Int) := by omega
      clear h6 h45
      go_enter Tryd.func52, Tryd.ntmps52
      go_wp2_with fail
      go_ret2
      exact ⟨rfl, rfl⟩
    · rw [if_neg h6]
      have h6' : ¬ 6 < (s.size : Int) := by omega
      have C : Hid (∀ W, Calls Tryd.prog 103 #[.string s, .string ⟨#[43, 45]⟩] W fun e w' => e = .returned (.bool (Fo.made [43, 45] s.data.toList)) ∧ W = w') := fun W => made_any s ⟨#[43, 45]⟩ W hs
      clear h6 h45
      cases hM : Fo.made [43, 45] s.data.toList
      · rw [hM] at C
        rw [if_pos rfl]
        clear hM
        go_enter Tryd.func52, Tryd.ntmps52
        go_wp2_with fail
        refine (C.out _).mono ?_; rintro e w1 ⟨rfl, rfl⟩
        go_wp2_with fail
        go_ret2
        exact ⟨rfl, rfl⟩
      · rw [hM] at C
        rw [if_neg (by decide), bz_id]
        clear hM
        go_enter Tryd.func52, Tryd.ntmps52
        go_wp2_with fail
        refine (C.out _).mono ?_; rintro e w1 ⟨rfl, rfl⟩
        go_wp2_with fail
        go_ret2
        exact ⟨rfl, rfl⟩
set_option maxHeartbeats 2000000 in
theorem lettertext_any (s : ByteArray) (w : World) (hs : s.size ≤ 100000) :
    Calls Tryd.prog 54 #[.string s] w fun e w' => e = .returned (.tuple #[.string ⟨(Fo.ltx s.data.toList).1.toArray⟩, .int .i64 (Fo.ltx s.data.toList).2]) ∧ w = w' := by
  unfold Fo.ltx
  by_cases h0 : s.data.toList = []
  · rw [if_pos h0, bz_eq h0]
    clear h0 hs
    go_enter Tryd.func54, Tryd.ntmps54
    go_wp2_with fail
    go_ret2
    exact ⟨rfl, rfl⟩
  · rw [if_neg h0]
    have hp : 0 < s.size := by
      rcases Nat.eq_zero_or_pos s.size with h | h
      · exact absurd (by rw [← List.length_eq_zero_iff, ab_len]; exact h) h0
      · exact h
    obtain ⟨n1, n2⟩ := dne hp
    have C := Lib.hid (fun W => letter_any s W hs)
    generalize hl : Fo.lt s.data.toList = q at C ⊢
    obtain ⟨t, e⟩ := q
    have C : Hid (∀ W, Calls Tryd.prog 52 #[.string s] W fun e' w' => e' = .returned (.tuple #[.string ⟨t.toArray⟩, .int .i64 e]) ∧ W = w') := C
    show Calls Tryd.prog 54 #[.string s] w fun e' w' => e' = .returned (.tuple #[.string ⟨(if e ≠ 0 ∨ t ≠ s.data.toList then (([] : List UInt8), (4 : Int)) else (s.data.toList, 0)).1.toArray⟩, .int .i64 (if e ≠ 0 ∨ t ≠ s.data.toList then (([] : List UInt8), (4 : Int)) else (s.data.toList, 0)).2]) ∧ w = w'
    clear hl h0
    cases he : e == 0
    · have he0 : e ≠ 0 := fun h => by rw [h] at he; cases he
      have he2 : (e != 0) = true := by unfold bne; rw [he]; rfl
      rw [if_pos (.inl he0)]
      go_enter Tryd.func54, Tryd.ntmps54
      go_wp2_with fail
      refine (C.out _).mono ?_; rintro e w1 ⟨rfl, rfl⟩
      go_wp2_with fail
      go_ret2
      exact ⟨rfl, rfl⟩
    · have he0 : e = 0 := by rw [← beq_iff_eq]; exact he
      subst he0
      by_cases ht : t = s.data.toList
      · subst ht
        rw [if_neg (fun h => by rcases h with h | h; exact h rfl; exact h rfl), bz_id]
        rw [bz_id] at C
        go_enter Tryd.func54, Tryd.ntmps54
        go_wp2_with fail
        refine (C.out _).mono ?_; rintro e w1 ⟨rfl, rfl⟩
        go_wp2_with fail
        go_ret2
        exact ⟨rfl, rfl⟩
      · rw [if_pos (.inr ht)]
        have n3 : ¬ (⟨t.toArray⟩ : ByteArray).toList = s.toList := by rw [ByteArray.toList_eq, ByteArray.toList_eq]; simpa using ht
        have n4 : ((⟨t.toArray⟩ : ByteArray).toList == s.toList) = false := by rw [beq_eq_false_iff_ne]; exact n3
        generalize (⟨t.toArray⟩ : ByteArray) = T at C n3 n4
        clear ht
        go_enter Tryd.func54, Tryd.ntmps54
        go_wp2_with fail
        refine (C.out _).mono ?_; rintro e w1 ⟨rfl, rfl⟩
        go_wp2_with fail
        go_ret2
        exact ⟨rfl, rfl⟩
theorem ar_cat (a b : List UInt8) : (⟨a.toArray⟩ ++ ⟨b.toArray⟩ : ByteArray) = ⟨(a ++ b).toArray⟩ := arr_app a b
set_option maxHeartbeats 2000000 in
theorem td_any (n : Int) (w : World) (n0 : 0 ≤ n) (n1 : n < 100) (htab : Lib.TabIs Tryd.prog w "internal/strconv.uint64pow10" .u64 Lib.pow10Tab) :
    Calls Tryd.prog 145 #[.int .i64 n] w fun e w' => e = .returned (.string ⟨(Fo.td n).toArray⟩) ∧ Below w.heap.size w w' := by
  have T0 := Lib.hid htab; clear htab
  have z1 := Lib.itoa_length_le (n / 10) (by omega) (by omega)
  have z2 := Lib.itoa_length_le (n % 10) (by omega) (by omega)
  have C1 : Hid (∀ W, Lib.TabIs Tryd.prog W "internal/strconv.uint64pow10" .u64 Lib.pow10Tab → Calls Tryd.prog 121 #[.int .i64 (n / 10), .int .i64 10] W fun e w' => e = .returned (.string ⟨(Lib.itoa (n / 10)).toArray⟩) ∧ Below W.heap.size W w') := fun W T => Tryd.formatInt (n / 10) (by omega) (by omega) W T
  have C2 : Hid (∀ W, Lib.TabIs Tryd.prog W "internal/strconv.uint64pow10" .u64 Lib.pow10Tab → Calls Tryd.prog 121 #[.int .i64 (n % 10), .int .i64 10] W fun e w' => e = .returned (.string ⟨(Lib.itoa (n % 10)).toArray⟩) ∧ Below W.heap.size W w') := fun W T => Tryd.formatInt (n % 10) (by omega) (by omega) W T
  unfold Fo.td
  rw [← ar_cat]
  have y1 := arr_size (Lib.itoa (n / 10)); have y2 := arr_size (Lib.itoa (n % 10))
  generalize (⟨(Lib.itoa (n / 10)).toArray⟩ : ByteArray) = A at C1 y1 ⊢
  generalize (⟨(Lib.itoa (n % 10)).toArray⟩ : ByteArray) = B at C2 y2 ⊢
  have zA : A.size ≤ 30 := by omega
  have zB : B.size ≤ 30 := by omega
  clear z1 z2 y1 y2
  go_enter Tryd.func145, Tryd.ntmps145
  go_wp2_with fail
  refine (C1.out _ T0.out).mono ?_; rintro e w1 ⟨rfl, b1⟩
  have B1 := Lib.hid b1; clear b1
  go_wp2_with fail
  refine (C2.out _ (var_keep B1.out T0.out)).mono ?_; rintro e w2 ⟨rfl, b2⟩
  have B2 := Lib.hid (below_step B1.out b2); clear b2
  go_wp2_with fail
  go_ret
  exact ⟨rfl, B2.out⟩
theorem td_len (n : Int) (n0 : 0 ≤ n) (n1 : n < 100) : (Fo.td n).length ≤ 60 := by
  have z1 := Lib.itoa_length_le (n / 10) (by omega) (by omega)
  have z2 := Lib.itoa_length_le (n % 10) (by omega) (by omega)
  unfold Fo.td; rw [List.length_append]; omega
set_option maxHeartbeats 4000000 in
theorem df_neg (a : Int) (w : World) (h0 : 0 < a) (a1 : a ≤ 359999) (htab : Lib.TabIs Tryd.prog w "internal/strconv.uint64pow10" .u64 Lib.pow10Tab) :
    Calls Tryd.prog 99 #[.int .i64 (-a)] w fun e w' => e = .returned (.string ⟨((45 : UInt8) :: Fo.dfa a).toArray⟩) ∧ Below w.heap.size w w' := by
  have T0 := Lib.hid htab; clear htab
  have a0 : 0 ≤ a := by omega
  have q0 : 0 ≤ a / 3600 := by omega
  have q1 : a / 3600 < 100 := by omega
  have q2 : 0 ≤ a / 60 % 60 := by omega
  have q3 : a / 60 % 60 < 60 := by omega
  have q4 : 0 ≤ a % 60 := by omega
  have q5 : a % 60 < 60 := by omega
  have C1 : Hid (∀ W, Lib.TabIs Tryd.prog W "internal/strconv.uint64pow10" .u64 Lib.pow10Tab → Calls Tryd.prog 145 #[.int .i64 (a / 3600)] W fun e w' => e = .returned (.string ⟨(Fo.td (a / 3600)).toArray⟩) ∧ Below W.heap.size W w') := fun W T => td_any _ W (by omega) (by omega) T
  have C2 : Hid (∀ W, Lib.TabIs Tryd.prog W "internal/strconv.uint64pow10" .u64 Lib.pow10Tab → Calls Tryd.prog 145 #[.int .i64 (a / 60 % 60)] W fun e w' => e = .returned (.string ⟨(Fo.td (a / 60 % 60)).toArray⟩) ∧ Below W.heap.size W w') := fun W T => td_any _ W (by omega) (by omega) T
  have C3 : Hid (∀ W, Lib.TabIs Tryd.prog W "internal/strconv.uint64pow10" .u64 Lib.pow10Tab → Calls Tryd.prog 145 #[.int .i64 (a % 60)] W fun e w' => e = .returned (.string ⟨(Fo.td (a % 60)).toArray⟩) ∧ Below W.heap.size W w') := fun W T => td_any _ W (by omega) (by omega) T
  have y1 := arr_size (Fo.td (a / 3600)); have y2 := arr_size (Fo.td (a / 60 % 60)); have y3 := arr_size (Fo.td (a % 60))
  have z1 := td_len (a / 3600) (by omega) (by omega); have z2 := td_len (a / 60 % 60) (by omega) (by omega); have z3 := td_len (a % 60) (by omega) (by omega)
  have HR := Lib.hid (show (⟨((45 : UInt8) :: Fo.dfa a).toArray⟩ : ByteArray) = if a % 3600 = 0 then (if a % 60 = 0 then ⟨#[45]⟩ ++ ⟨(Fo.td (a / 3600)).toArray⟩ else ⟨#[45]⟩ ++ ⟨(Fo.td (a / 3600)).toArray⟩ ++ ⟨(Fo.td (a % 60)).toArray⟩) else (if a % 60 = 0 then ⟨#[45]⟩ ++ ⟨(Fo.td (a / 3600)).toArray⟩ ++ ⟨(Fo.td (a / 60 % 60)).toArray⟩ else ⟨#[45]⟩ ++ ⟨(Fo.td (a / 3600)).toArray⟩ ++ ⟨(Fo.td (a / 60 % 60)).toArray⟩ ++ ⟨(Fo.td (a % 60)).toArray⟩) by
    have e : (⟨#[45]⟩ : ByteArray) = ⟨([45] : List UInt8).toArray⟩ := rfl
    rw [e]
    unfold Fo.dfa
    simp only [ar_cat]
    by_cases h1 : a % 3600 = 0 <;> by_cases h2 : a % 60 = 0 <;> simp [h1, h2])
  generalize (⟨((45 : UInt8) :: Fo.dfa a).toArray⟩ : ByteArray) = R at HR ⊢
  generalize (⟨(Fo.td (a / 3600)).toArray⟩ : ByteArray) = A at C1 y1 HR
  generalize (⟨(Fo.td (a / 60 % 60)).toArray⟩ : ByteArray) = B at C2 y2 HR
  generalize (⟨(Fo.td (a % 60)).toArray⟩ : ByteArray) = D at C3 y3 HR
  have zA : A.size ≤ 60 := by omega
  have zB : B.size ≤ 60 := by omega
  have zD : D.size ≤ 60 := by omega
  have e1 : (⟨#[45]⟩ ++ A : ByteArray).size = 1 + A.size := by rw [ByteArray.size_append]; rfl
  have e2 : (⟨#[45]⟩ ++ A ++ B : ByteArray).size = 1 + A.size + B.size := by rw [ByteArray.size_append, e1]
  clear y1 y2 y3 z1 z2 z3
  cases g1 : a % 3600 == 0
  · have n1' : ¬ a % 3600 = 0 := fun h => by rw [h] at g1; cases g1
    have g1' : (a % 3600 != 0) = true := by unfold bne; rw [g1]; rfl
    cases g2 : a % 60 == 0
    · have n2' : ¬ a % 60 = 0 := fun h => by rw [h] at g2; cases g2
      have g2' : (a % 60 != 0) = true := by unfold bne; rw [g2]; rfl
      have HV := Lib.hid (HR.out.trans (by rw [if_neg n1', if_neg n2']))
      clear HR n1' n2'
      go_enter Tryd.func99, Tryd.ntmps99
      go_wp2_with fail
      refine (C1.out _ T0.out).mono ?_; rintro e w1 ⟨rfl, b1⟩
      have B1 := Lib.hid b1; clear b1
      go_wp2_with fail
      refine (C2.out _ (var_keep B1.out T0.out)).mono ?_; rintro e w2 ⟨rfl, b2⟩
      have B2 := Lib.hid (below_step B1.out b2); clear b2
      go_wp2_with fail
      refine (C3.out _ (var_keep B2.out T0.out)).mono ?_; rintro e w3 ⟨rfl, b3⟩
      have B3 := Lib.hid (below_step B2.out b3); clear b3
      go_wp2_with fail
      go_ret
      exact ⟨by rw [HV.out]; rfl, B3.out⟩
    · have n2' : a % 60 = 0 := by rw [← beq_iff_eq]; exact g2
      have g2' : (a % 60 != 0) = false := by unfold bne; rw [g2]; rfl
      have HV := Lib.hid (HR.out.trans (by rw [if_neg n1', if_pos n2']))
      clear HR n1' n2'
      go_enter Tryd.func99, Tryd.ntmps99
      go_wp2_with fail
      refine (C1.out _ T0.out).mono ?_; rintro e w1 ⟨rfl, b1⟩
      have B1 := Lib.hid b1; clear b1
      go_wp2_with fail
      refine (C2.out _ (var_keep B1.out T0.out)).mono ?_; rintro e w2 ⟨rfl, b2⟩
      have B2 := Lib.hid (below_step B1.out b2); clear b2
      go_wp2_with fail
      go_ret
      exact ⟨by rw [HV.out]; rfl, B2.out⟩
  · have n1' : a % 3600 = 0 := by rw [← beq_iff_eq]; exact g1
    have g1' : (a % 3600 != 0) = false := by unfold bne; rw [g1]; rfl
    have n2' : a % 60 = 0 := by omega
    have g2 : (a % 60 == 0) = true := by rw [beq_iff_eq]; exact n2'
    have g2' : (a % 60 != 0) = false := by unfold bne; rw [g2]; rfl
    have HV := Lib.hid (HR.out.trans (by rw [if_pos n1', if_pos n2']))
    clear HR n1' n2'
    go_enter Tryd.func99, Tryd.ntmps99
    go_wp2_with fail
    refine (C1.out _ T0.out).mono ?_; rintro e w1 ⟨rfl, b1⟩
    have B1 := Lib.hid b1; clear b1
    go_wp2_with fail
    go_ret
    exact ⟨by rw [HV.out]; rfl, B1.out⟩
set_option maxHeartbeats 4000000 in
theorem df_pos (a : Int) (w : World) (h0 : 0 ≤ a) (a1 : a ≤ 359999) (htab : Lib.TabIs Tryd.prog w "internal/strconv.uint64pow10" .u64 Lib.pow10Tab) :
    Calls Tryd.prog 99 #[.int .i64 a] w fun e w' => e = .returned (.string ⟨((43 : UInt8) :: Fo.dfa a).toArray⟩) ∧ Below w.heap.size w w' := by
  have T0 := Lib.hid htab; clear htab
  have a0 : 0 ≤ a := by omega
  have q0 : 0 ≤ a / 3600 := by omega
  have q1 : a / 3600 < 100 := by omega
  have q2 : 0 ≤ a / 60 % 60 := by omega
  have q3 : a / 60 % 60 < 60 := by omega
  have q4 : 0 ≤ a % 60 := by omega
  have q5 : a % 60 < 60 := by omega
  have C1 : Hid (∀ W, Lib.TabIs Tryd.prog W "internal/strconv.uint64pow10" .u64 Lib.pow10Tab → Calls Tryd.prog 145 #[.int .i64 (a / 3600)] W fun e w' => e = .returned (.string ⟨(Fo.td (a / 3600)).toArray⟩) ∧ Below W.heap.size W w') := fun W T => td_any _ W (by omega) (by omega) T
  have C2 : Hid (∀ W, Lib.TabIs Tryd.prog W "internal/strconv.uint64pow10" .u64 Lib.pow10Tab → Calls Tryd.prog 145 #[.int .i64 (a / 60 % 60)] W fun e w' => e = .returned (.string ⟨(Fo.td (a / 60 % 60)).toArray⟩) ∧ Below W.heap.size W w') := fun W T => td_any _ W (by omega) (by omega) T
  have C3 : Hid (∀ W, Lib.TabIs Tryd.prog W "internal/strconv.uint64pow10" .u64 Lib.pow10Tab → Calls Tryd.prog 145 #[.int .i64 (a % 60)] W fun e w' => e = .returned (.string ⟨(Fo.td (a % 60)).toArray⟩) ∧ Below W.heap.size W w') := fun W T => td_any _ W (by omega) (by omega) T
  have y1 := arr_size (Fo.td (a / 3600)); have y2 := arr_size (Fo.td (a / 60 % 60)); have y3 := arr_size (Fo.td (a % 60))
  have z1 := td_len (a / 3600) (by omega) (by omega); have z2 := td_len (a / 60 % 60) (by omega) (by omega); have z3 := td_len (a % 60) (by omega) (by omega)
  have HR := Lib.hid (show (⟨((43 : UInt8) :: Fo.dfa a).toArray⟩ : ByteArray) = if a % 3600 = 0 then (if a % 60 = 0 then ⟨#[43]⟩ ++ ⟨(Fo.td (a / 3600)).toArray⟩ else ⟨#[43]⟩ ++ ⟨(Fo.td (a / 3600)).toArray⟩ ++ ⟨(Fo.td (a % 60)).toArray⟩) else (if a % 60 = 0 then ⟨#[43]⟩ ++ ⟨(Fo.td (a / 3600)).toArray⟩ ++ ⟨(Fo.td (a / 60 % 60)).toArray⟩ else ⟨#[43]⟩ ++ ⟨(Fo.td (a / 3600)).toArray⟩ ++ ⟨(Fo.td (a / 60 % 60)).toArray⟩ ++ ⟨(Fo.td (a % 60)).toArray⟩) by
    have e : (⟨#[43]⟩ : ByteArray) = ⟨([43] : List UInt8).toArray⟩ := rfl
    rw [e]
    unfold Fo.dfa
    simp only [ar_cat]
    by_cases h1 : a % 3600 = 0 <;> by_cases h2 : a % 60 = 0 <;> simp [h1, h2])
  generalize (⟨((43 : UInt8) :: Fo.dfa a).toArray⟩ : ByteArray) = R at HR ⊢
  generalize (⟨(Fo.td (a / 3600)).toArray⟩ : ByteArray) = A at C1 y1 HR
  generalize (⟨(Fo.td (a / 60 % 60)).toArray⟩ : ByteArray) = B at C2 y2 HR
  generalize (⟨(Fo.td (a % 60)).toArray⟩ : ByteArray) = D at C3 y3 HR
  have zA : A.size ≤ 60 := by omega
  have zB : B.size ≤ 60 := by omega
  have zD : D.size ≤ 60 := by omega
  have e1 : (⟨#[43]⟩ ++ A : ByteArray).size = 1 + A.size := by rw [ByteArray.size_append]; rfl
  have e2 : (⟨#[43]⟩ ++ A ++ B : ByteArray).size = 1 + A.size + B.size := by rw [ByteArray.size_append, e1]
  clear y1 y2 y3 z1 z2 z3
  cases g1 : a % 3600 == 0
  · have n1' : ¬ a % 3600 = 0 := fun h => by rw [h] at g1; cases g1
    have g1' : (a % 3600 != 0) = true := by unfold bne; rw [g1]; rfl
    cases g2 : a % 60 == 0
    · have n2' : ¬ a % 60 = 0 := fun h => by rw [h] at g2; cases g2
      have g2' : (a % 60 != 0) = true := by unfold bne; rw [g2]; rfl
      have HV := Lib.hid (HR.out.trans (by rw [if_neg n1', if_neg n2']))
      clear HR n1' n2'
      go_enter Tryd.func99, Tryd.ntmps99
      go_wp2_with fail
      refine (C1.out _ T0.out).mono ?_; rintro e w1 ⟨rfl, b1⟩
      have B1 := Lib.hid b1; clear b1
      go_wp2_with fail
      refine (C2.out _ (var_keep B1.out T0.out)).mono ?_; rintro e w2 ⟨rfl, b2⟩
      have B2 := Lib.hid (below_step B1.out b2); clear b2
      go_wp2_with fail
      refine (C3.out _ (var_keep B2.out T0.out)).mono ?_; rintro e w3 ⟨rfl, b3⟩
      have B3 := Lib.hid (below_step B2.out b3); clear b3
      go_wp2_with fail
      go_ret
      exact ⟨by rw [HV.out]; rfl, B3.out⟩
    · have n2' : a % 60 = 0 := by rw [← beq_iff_eq]; exact g2
      have g2' : (a % 60 != 0) = false := by unfold bne; rw [g2]; rfl
      have HV := Lib.hid (HR.out.trans (by rw [if_neg n1', if_pos n2']))
      clear HR n1' n2'
      go_enter Tryd.func99, Tryd.ntmps99
      go_wp2_with fail
      refine (C1.out _ T0.out).mono ?_; rintro e w1 ⟨rfl, b1⟩
      have B1 := Lib.hid b1; clear b1
      go_wp2_with fail
      refine (C2.out _ (var_keep B1.out T0.out)).mono ?_; rintro e w2 ⟨rfl, b2⟩
      have B2 := Lib.hid (below_step B1.out b2); clear b2
      go_wp2_with fail
      go_ret
      exact ⟨by rw [HV.out]; rfl, B2.out⟩
  · have n1' : a % 3600 = 0 := by rw [← beq_iff_eq]; exact g1
    have g1' : (a % 3600 != 0) = false := by unfold bne; rw [g1]; rfl
    have n2' : a % 60 = 0 := by omega
    have g2 : (a % 60 == 0) = true := by rw [beq_iff_eq]; exact n2'
    have g2' : (a % 60 != 0) = false := by unfold bne; rw [g2]; rfl
    have HV := Lib.hid (HR.out.trans (by rw [if_pos n1', if_pos n2']))
    clear HR n1' n2'
    go_enter Tryd.func99, Tryd.ntmps99
    go_wp2_with fail
    refine (C1.out _ T0.out).mono ?_; rintro e w1 ⟨rfl, b1⟩
    have B1 := Lib.hid b1; clear b1
    go_wp2_with fail
    go_ret
    exact ⟨by rw [HV.out]; rfl, B1.out⟩
theorem diff_any (off : Int) (w : World) (n0 : -359999 ≤ off) (n1 : off ≤ 359999) (htab : Lib.TabIs Tryd.prog w "internal/strconv.uint64pow10" .u64 Lib.pow10Tab) :
    Calls Tryd.prog 99 #[.int .i64 off] w fun e w' => e = .returned (.string ⟨(Fo.df off).toArray⟩) ∧ Below w.heap.size w w' := by
  unfold Fo.df
  by_cases h : off < 0
  · rw [if_pos h]
    have := df_neg (-off) w (by omega) (by omega) htab
    rwa [Int.neg_neg] at this
  · rw [if_neg h]; exact df_pos off w (by omega) n1 htab
set_option maxHeartbeats 2000000 in
theorem oneof_any (s : ByteArray) (z : Int) (w : World) (m : Int) (hs : s.size ≤ 100000) (hm : w.cell? ⟨1, 0, none⟩ = some (.int .i64 m)) :
    Calls Tryd.prog 100 #[.string s, .int .i64 z] w fun e w' => e = .returned (.string ⟨(if z = 0 then (Lib.cut s.data.toList [47]).1 else (Lib.cut s.data.toList [47]).2.1).toArray⟩) ∧ Below w.heap.size w w' := by
  have C := Lib.hid (Any.strings_Cut Tryd.lays145 s ⟨#[47]⟩ m w (by omega) hm)
  obtain ⟨A, hA⟩ : ∃ A : ByteArray, A = ⟨(Lib.cut s.data.toList [47]).1.toArray⟩ := ⟨_, rfl⟩
  obtain ⟨B, hB⟩ : ∃ B : ByteArray, B = ⟨(Lib.cut s.data.toList [47]).2.1.toArray⟩ := ⟨_, rfl⟩
  have C : Hid (Calls Tryd.prog 146 #[.string s, .string ⟨#[47]⟩] w fun e w' => e = .returned (.tuple #[.string A, .string B, .bool (Lib.cut s.data.toList [47]).2.2]) ∧ ∃ n, w' = w.drewN n) := by rw [hA, hB]; exact C
  generalize (Lib.cut s.data.toList [47]).2.2 = f at C
  cases hz : z == 0
  · have hz0 : ¬ z = 0 := fun h => by rw [h] at hz; cases hz
    rw [if_neg hz0, ← hB]
    clear hA hB hm hz0
    go_enter Tryd.func100, Tryd.ntmps100
    go_wp2_with fail
    refine C.out.mono ?_; rintro e w1 ⟨rfl, n, rfl⟩
    go_wp2_with fail
    go_ret
    exact ⟨rfl, below_draw _ _⟩
  · have hz0 : z = 0 := by rw [← beq_iff_eq]; exact hz
    rw [if_pos hz0, ← hA]
    clear hA hB hm hz0
    go_enter Tryd.func100, Tryd.ntmps100
    go_wp2_with fail
    refine C.out.mono ?_; rintro e w1 ⟨rfl, n, rfl⟩
    go_wp2_with fail
    go_ret
    exact ⟨rfl, below_draw _ _⟩
end Go.Proofs.YtfcabofhlgmkjaaDoor

