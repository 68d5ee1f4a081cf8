/- Joined: FpA, DrR, RefA0, RefB0. -/
import Derived.Test.YtjnhaabbnbcaeaaBx03
import Derived.Test.YtjnhaabbnbcaeaaBx05
import Derived.Test.YtjnhaabbnbcaeaaBx04
/- The reference's formats: which byte may stand; a byte's place; Letter, LetterText. -/
set_option linter.unusedVariables false
set_option linter.unusedSimpArgs false
namespace Go.Proofs.Ytjnhaabbnbcaeaa
open Go.RowKit

namespace Fp
def isR (c : Int) : Bool := Fo.isL c || (decide (c = 43) || decide (c = 45))
def okB (c : UInt8) : Bool := isR (c.toNat : Int)
/-- Where a byte is: -1: nowhere; -2: at more places than one. -/
def fr (c : UInt8) (at_ : Int) : List UInt8 → Int → Int
  | [], _ => at_
  | b :: t, k => if b = c then (if 0 ≤ at_ then -2 else fr c k t (k + 1)) else fr c at_ t (k + 1)
theorem okB_eq (c : UInt8) : okB c = (Fo.isB c || ([43, 45] : List UInt8).contains c) := by
  unfold okB isR Fo.isB
  congr 1
  rw [List.contains_cons, List.contains_cons, List.contains_nil, Bool.or_false]
  congr 1
  · rw [Bool.eq_iff_iff, decide_eq_true_eq, beq_iff_eq, ← UInt8.toNat_inj]
    show _ ↔ c.toNat = 43
    omega
  · rw [Bool.eq_iff_iff, decide_eq_true_eq, beq_iff_eq, ← UInt8.toNat_inj]
    show _ ↔ c.toNat = 45
    omega
theorem all_eq (l : List UInt8) : l.all okB = Fo.mdA [43, 45] l := by
  unfold Fo.mdA
  congr 1
  funext c; exact okB_eq c
end Fp
set_option maxHeartbeats 4000000 in
theorem rfletter_any (c : Int) (w : World) (h0 : 0 ≤ c) (h1 : c ≤ 255) :
    Calls Try.prog 56 #[.int .u8 c] w fun e w' => e = .returned (.bool (Fp.isR c)) ∧ w = w' := by
  by_cases e3 : c = 43
  · subst e3
    go_enter Try.func56, Try.ntmps56
    go_wp2_with fail
    go_ret
    exact ⟨rfl, rfl⟩
  · by_cases e5 : c = 45
    · subst e5
      go_enter Try.func56, Try.ntmps56
      go_wp2_with fail
      go_ret
      exact ⟨rfl, rfl⟩
    · have g3 : (c == 43) = false := by rw [beq_eq_false_iff_ne]; exact e3
      have g5 : (c == 45) = false := by rw [beq_eq_false_iff_ne]; exact e5
      unfold Fp.isR Fo.isL
      rw [decide_eq_false e3, decide_eq_false e5]
      by_cases a0 : 65 ≤ c <;> by_cases a1 : c ≤ 90 <;> by_cases b0 : 97 ≤ c <;> by_cases b1 : c ≤ 122 <;> by_cases d0 : 48 ≤ c <;> by_cases d1 : c ≤ 57
      all_goals try (exfalso; clear g3 g5; omega)
      all_goals
        go_enter Try.func56, Try.ntmps56
        go_wp2_with fail
        all_goals first | (exfalso; omega) | (go_ret; exact ⟨by simp [a0, a1, b0, b1, d0, d1], rfl⟩)
set_option maxHeartbeats 4000000 in
theorem rfLetter_any (s : ByteArray) (w : World) (hs : s.size ≤ 100000) :
    Calls Try.prog 52 #[.string s] w fun e w' => e = .returned (.tuple #[.string ⟨(Fo.lt s.data.toList).1.toArray⟩, .int .i64 (Fo.lt s.data.toList).2]) ∧ w = w' := by
  unfold Fo.lt
  rw [ab_len]
  by_cases h45 : s.data.toList = [45]
  · rw [if_pos h45]
    rw [bz_eq h45]
    clear h45 hs
    go_enter Try.func52, Try.ntmps52
    go_wp2_with fail
    go_ret2
    exact ⟨rfl, rfl⟩
  · rw [if_neg h45]
    have n1 := bz_ne h45
    have n2 : (s.toList == [45]) = false := by rw [beq_eq_false_iff_ne]; exact n1
    by_cases h6 : 6 < s.size
    · rw [if_pos h6]
      have h6' : 6 < (s.size : Int) := by omega
      clear h6 h45
      go_enter Try.func52, Try.ntmps52
      go_wp2_with fail
      go_ret2
      exact ⟨rfl, rfl⟩
    · rw [if_neg h6]
      have h6' : ¬ 6 < (s.size : Int) := by omega
      clear h6 h45
      have hM : Fo.made [43, 45] s.data.toList = (s.data.toList.all Fp.okB && !s.data.toList.isEmpty) := by rw [Fp.all_eq]; rfl
      obtain ⟨b, hb⟩ : ∃ b, b = s.data.toList.all Fp.okB := ⟨_, rfl⟩
      obtain ⟨R1, R2, hR⟩ : ∃ R1 R2, (R1, R2) = (if Fo.made [43, 45] s.data.toList = false then (([] : List UInt8), (4 : Int)) else (s.data.toList, 0)) := ⟨_, _, rfl⟩
      rw [← hR]
      show Calls _ _ _ _ fun e w' => e = .returned (.tuple #[.string ⟨R1.toArray⟩, .int .i64 R2]) ∧ w = w'
      rw [hM, ← hb] at hR
      have HR := Lib.hid hR; have HB := Lib.hid hb
      clear hR hb hM
      go_enter Try.func52, Try.ntmps52
      go_wp2_with fail
      go_loopw [4] (fun i wr => ∃ k : Nat, k ≤ s.size ∧ i = .int .i64 k ∧ Hid ((s.data.toList.drop k).all Fp.okB = b) ∧ wr = w) (fun i _ => s.size - (intOf i).toNat)
      case atStart => exact ⟨0, Nat.zero_le _, rfl, HB.out.symm, rfl⟩
      case round =>
        obtain ⟨k, hk, rfl, hr, hw⟩ := hrel
        obtain rfl : w = wr := hw.symm
        by_cases hlt : k < s.size
        · have IX := fun W => rn_ix s k hlt W
          have hn := hr.out
          rw [ab_drop s k hlt, List.all_cons] at hn
          have hc := s[k].toNat_lt
          have CL : Hid (∀ W, Calls Try.prog 56 #[.int .u8 (s[k].toNat : Int)] W fun e w' => e = .returned (.bool (Fp.okB s[k])) ∧ W = w') := fun W => rfletter_any _ W (by omega) (by omega)
          generalize Fp.okB s[k] = b1 at hn CL
          cases b1
          · have HN := Lib.hid (show R1 = [] ∧ R2 = 4 by
              have hbf : b = false := by rw [← hn]; rfl
              have := HR.out
              rw [hbf, Bool.false_and, if_pos rfl] at this
              exact ⟨congrArg Prod.fst this, congrArg Prod.snd this⟩)
            clear hn hr HR HB
            go_wp2_with fail
            refine (CL.out _).mono ?_; rintro e w1 ⟨rfl, rfl⟩
            go_wp2_with fail
            go_ret2
            exact ⟨by rw [HN.out.1, HN.out.2]; rfl, rfl⟩
          · have HN := Lib.hid (show (s.data.toList.drop (k + 1)).all Fp.okB = b by rw [← hn, Bool.true_and])
            clear hn hr
            go_wp2_with fail
            refine (CL.out _).mono ?_; rintro e w1 ⟨rfl, rfl⟩
            go_wp2_with fail
            go_roundw
            case rel => exact ⟨k + 1, by omega, by go_num, HN, by first | rfl | trivial⟩
            case measure => simp [intOf]; omega
        · have hbt : b = true := by rw [← hr.out, List.drop_of_length_le (by rw [ab_len]; omega)]; rfl
          rcases Nat.eq_zero_or_pos s.size with h0 | h0
          · have e : s = ⟨#[]⟩ := by
              have e : s.data.toList = [] := by rw [← List.length_eq_zero_iff, ab_len]; exact h0
              apply ByteArray.ext; apply Array.toList_inj.1; rw [e]
            have HN := Lib.hid (show R1 = [] ∧ R2 = 4 by
              have := HR.out
              rw [e, if_pos (by simp)] at this
              exact ⟨congrArg Prod.fst this, congrArg Prod.snd this⟩)
            clear hr HR HB
            subst e
            go_wp2_with fail
            go_ret2
            exact ⟨by rw [HN.out.1, HN.out.2]; rfl, rfl⟩
          · obtain ⟨m1, m2⟩ := dne h0
            have HN := Lib.hid (show R1 = s.data.toList ∧ R2 = 0 by
              have := HR.out
              have hne : (!s.data.toList.isEmpty) = true := by
                have := ab_len s
                cases hl : s.data.toList with
                | nil => rw [hl] at this; simp at this; omega
                | cons _ _ => rfl
              rw [hbt, hne, if_neg (by decide)] at this
              exact ⟨congrArg Prod.fst this, congrArg Prod.snd this⟩)
            clear hr HR HB
            go_wp2_with fail
            go_ret2
            exact ⟨by rw [HN.out.1, HN.out.2, bz_id]; rfl, rfl⟩
set_option maxHeartbeats 2000000 in
theorem rfltext_any (s : ByteArray) (w : World) (hs : s.size ≤ 100000) :
    Calls Try.prog 37 #[.string s] w fun e w' => e = .returned (.tuple #[.string ⟨(Fo.ltx s.data.toList).1.toArray⟩, .int .i64 (Fo.ltx s.data.toList).2]) ∧ w = w' := by
  unfold Fo.ltx
  by_cases h0 : s.data.toList = []
  · rw [if_pos h0, bz_eq h0]
    clear h0 hs
    go_enter Try.func37, Try.ntmps37
    go_wp2_with fail
    go_ret2
    exact ⟨rfl, rfl⟩
  · rw [if_neg h0]
    have hp : 0 < s.size := by
      rcases Nat.eq_zero_or_pos s.size with h | h
      · exact absurd (by rw [← List.length_eq_zero_iff, ab_len]; exact h) h0
      · exact h
    obtain ⟨n1, n2⟩ := dne hp
    have C := Lib.hid (fun W => rfLetter_any s W hs)
    generalize hl : Fo.lt s.data.toList = q at C ⊢
    obtain ⟨t, e⟩ := q
    have C : Hid (∀ W, Calls Try.prog 52 #[.string s] W fun e' w' => e' = .returned (.tuple #[.string ⟨t.toArray⟩, .int .i64 e]) ∧ W = w') := C
    show Calls Try.prog 37 #[.string s] w fun e' w' => e' = .returned (.tuple #[.string ⟨(if e ≠ 0 ∨ t ≠ s.data.toList then (([] : List UInt8), (4 : Int)) else (s.data.toList, 0)).1.toArray⟩, .int .i64 (if e ≠ 0 ∨ t ≠ s.data.toList then (([] : List UInt8), (4 : Int)) else (s.data.toList, 0)).2]) ∧ w = w'
    clear hl h0
    cases he : e == 0
    · have he0 : e ≠ 0 := fun h => by rw [h] at he; cases he
      have he2 : (e != 0) = true := by unfold bne; rw [he]; rfl
      rw [if_pos (.inl he0)]
      go_enter Try.func37, Try.ntmps37
      go_wp2_with fail
      refine (C.out _).mono ?_; rintro e w1 ⟨rfl, rfl⟩
      go_wp2_with fail
      go_ret2
      exact ⟨rfl, rfl⟩
    · have he0 : e = 0 := by rw [← beq_iff_eq]; exact he
      subst he0
      by_cases ht : t = s.data.toList
      · subst ht
        rw [if_neg (fun h => by rcases h with h | h; exact h rfl; exact h rfl), bz_id]
        rw [bz_id] at C
        go_enter Try.func37, Try.ntmps37
        go_wp2_with fail
        refine (C.out _).mono ?_; rintro e w1 ⟨rfl, rfl⟩
        go_wp2_with fail
        go_ret2
        exact ⟨rfl, rfl⟩
      · rw [if_pos (.inr ht)]
        have n3 : ¬ (⟨t.toArray⟩ : ByteArray).toList = s.toList := by rw [ByteArray.toList_eq, ByteArray.toList_eq]; simpa using ht
        have n4 : ((⟨t.toArray⟩ : ByteArray).toList == s.toList) = false := by rw [beq_eq_false_iff_ne]; exact n3
        generalize (⟨t.toArray⟩ : ByteArray) = T at C n3 n4
        clear ht
        go_enter Try.func37, Try.ntmps37
        go_wp2_with fail
        refine (C.out _).mono ?_; rintro e w1 ⟨rfl, rfl⟩
        go_wp2_with fail
        go_ret2
        exact ⟨rfl, rfl⟩
end Go.Proofs.Ytjnhaabbnbcaeaa

/- The contracts of the reference's functions on names of days: Right, Fits, Days, Window. -/
set_option linter.unusedVariables false
set_option linter.unusedSimpArgs false
namespace Go.Proofs.Ytjnhaabbnbcaeaa
open Go.RowKit

set_option maxHeartbeats 1000000 in
theorem roright_any (k wk d : Int) (w : World) :
    Calls Try.prog 53 #[.agg #[.int .i64 k, .int .i64 wk, .int .i64 d]] w fun e w' => e = .returned (.bool (Dr.onR k wk d)) ∧ Below w.heap.size w w' := by
  by_cases h1 : 1 ≤ d
  · by_cases h2 : 0 ≤ wk
    · by_cases hk : k = 0 ∨ k = 1 ∨ k = 2 ∨ k = 3
      · rcases hk with rfl | rfl | rfl | rfl
        all_goals
          go_enter Try.func53, Try.ntmps53
          go_wp2
          all_goals
            go_ret
            refine ⟨?_, by go_grown⟩
            exact on_br (by rw [Dr.onR_true]; simp; omega)
      · have b0 : (k == 0) = false := by simp; omega
        have b1 : (k == 1) = false := by simp; omega
        have b2 : (k == 2) = false := by simp; omega
        have b3 : (k == 3) = false := by simp; omega
        go_enter Try.func53, Try.ntmps53
        go_wp2
        all_goals
          go_ret
          refine ⟨?_, by go_grown⟩
          exact on_br (by rw [Dr.onR_true]; simp; omega)
    · have h2' : decide (0 ≤ wk) = false := by simpa using h2
      by_cases hk : k = 0 ∨ k = 1 ∨ k = 2 ∨ k = 3
      · rcases hk with rfl | rfl | rfl | rfl
        all_goals
          go_enter Try.func53, Try.ntmps53
          go_wp2
          all_goals
            go_ret
            refine ⟨?_, by go_grown⟩
            exact on_br (by rw [Dr.onR_true]; simp; omega)
      · have b0 : (k == 0) = false := by simp; omega
        have b1 : (k == 1) = false := by simp; omega
        have b2 : (k == 2) = false := by simp; omega
        have b3 : (k == 3) = false := by simp; omega
        go_enter Try.func53, Try.ntmps53
        go_wp2
        all_goals
          go_ret
          refine ⟨?_, by go_grown⟩
          exact on_br (by rw [Dr.onR_true]; simp; omega)
  · have h1' : decide (1 ≤ d) = false := by simpa using h1
    by_cases h2 : 0 ≤ wk
    · by_cases hk : k = 0 ∨ k = 1 ∨ k = 2 ∨ k = 3
      · rcases hk with rfl | rfl | rfl | rfl
        all_goals
          go_enter Try.func53, Try.ntmps53
          go_wp2
          all_goals
            go_ret
            refine ⟨?_, by go_grown⟩
            exact on_br (by rw [Dr.onR_true]; simp; omega)
      · have b0 : (k == 0) = false := by simp; omega
        have b1 : (k == 1) = false := by simp; omega
        have b2 : (k == 2) = false := by simp; omega
        have b3 : (k == 3) = false := by simp; omega
        go_enter Try.func53, Try.ntmps53
        go_wp2
        all_goals
          go_ret
          refine ⟨?_, by go_grown⟩
          exact on_br (by rw [Dr.onR_true]; simp; omega)
    · have h2' : decide (0 ≤ wk) = false := by simpa using h2
      by_cases hk : k = 0 ∨ k = 1 ∨ k = 2 ∨ k = 3
      · rcases hk with rfl | rfl | rfl | rfl
        all_goals
          go_enter Try.func53, Try.ntmps53
          go_wp2
          all_goals
            go_ret
            refine ⟨?_, by go_grown⟩
            exact on_br (by rw [Dr.onR_true]; simp; omega)
      · have b0 : (k == 0) = false := by simp; omega
        have b1 : (k == 1) = false := by simp; omega
        have b2 : (k == 2) = false := by simp; omega
        have b3 : (k == 3) = false := by simp; omega
        go_enter Try.func53, Try.ntmps53
        go_wp2
        all_goals
          go_ret
          refine ⟨?_, by go_grown⟩
          exact on_br (by rw [Dr.onR_true]; simp; omega)

end Go.Proofs.Ytjnhaabbnbcaeaa

/- The reference's calendar: leap years. -/
set_option linter.unusedVariables false
set_option linter.unusedSimpArgs false
namespace Go.Proofs.Ytjnhaabbnbcaeaa
open Go.RowKit

set_option maxHeartbeats 400000 in
theorem rleap_any (y : Int) (w : World) :
    Calls Try.prog 41 #[.int .i64 y] w fun e w' => e = .returned (.bool (lpB y)) ∧ w = w' := by
  have t4 := tmod_zero y 4
  have t100 := tmod_zero y 100
  have t400 := tmod_zero y 400
  go_enter Try.func41, Try.ntmps41
  go_wp2
  all_goals go_ret
  all_goals (refine ⟨?_, rfl⟩; rw [lpB_eq])
  · have h4 : y % 4 = 0 := by assumption
    have h100 : y % 100 = 0 := (tz y 100).1 (by assumption)
    simp [h4, h100]
  · have h4 : y % 4 = 0 := by assumption
    have h100 : ¬ y % 100 = 0 := fun h => absurd ((tz y 100).2 h) (by assumption)
    simp [h4, h100]
  · have h4 : ¬ y % 4 = 0 := by assumption
    have h400 : ¬ y % 400 = 0 := by omega
    rw [show (y % 4 == 0) = false by simpa using h4, show (y % 400 == 0) = false by simpa using h400]; rfl

end Go.Proofs.Ytjnhaabbnbcaeaa

/- The reference's calendar: how long a month is. -/
set_option linter.unusedVariables false
set_option linter.unusedSimpArgs false
namespace Go.Proofs.Ytjnhaabbnbcaeaa
open Go.RowKit

set_option maxHeartbeats 2000000 in
theorem rlen_any (y m : Int) (w : World) :
    Calls Try.prog 27 #[.int .i64 y, .int .i64 m] w fun e w' => e = .returned (.int .i64 (Cal.len y m)) ∧ Below w.heap.size w w' := by
  by_cases h : 1 ≤ m ∧ m ≤ 12
  · by_cases h2 : m = 2
    · subst h2
      have hl : Cal.len y 2 = 28 + Cal.lp y := by simp [Cal.len]
      rw [hl]; clear hl h
      cases hb : lpB y
      · have v := lp_false hb
        have V := Lib.hid v; clear v
        go_enter Try.func27, Try.ntmps27
        go_wp2_with (go_at_call 41; refine (rleap_any _ _).mono ?_; rintro e w' ⟨rfl, rfl⟩)
        go_ret; exact ⟨ret_int (by have := V.out; omega), by go_grown⟩
      · have v := lp_true hb
        have V := Lib.hid v; clear v
        go_enter Try.func27, Try.ntmps27
        go_wp2_with (go_at_call 41; refine (rleap_any _ _).mono ?_; rintro e w' ⟨rfl, rfl⟩)
        go_ret; exact ⟨ret_int (by have := V.out; omega), by go_grown⟩
    · rcases Cal.twelve h.1 h.2 with rfl | rfl | rfl | rfl | rfl | rfl | rfl | rfl | rfl | rfl | rfl | rfl
      case inr.inl => exact absurd rfl h2
      all_goals
        clear h h2
        go_enter Try.func27, Try.ntmps27
        go_wp2
        go_ret; exact ⟨rfl, by go_grown⟩
  · have hl : Cal.len y m = 0 := by unfold Cal.len; rw [if_neg (by omega), if_neg (by omega), if_neg (by omega)]
    rw [hl]; clear hl
    by_cases h1 : m < 1
    · clear h
      go_enter Try.func27, Try.ntmps27
      go_wp2
      go_ret; exact ⟨rfl, by go_grown⟩
    · have h12 : 12 < m := by omega
      clear h
      go_enter Try.func27, Try.ntmps27
      go_wp2
      go_ret; exact ⟨rfl, by go_grown⟩

end Go.Proofs.Ytjnhaabbnbcaeaa
