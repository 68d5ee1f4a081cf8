/- Formats: what may stand in them; counts; the kinds. -/
import Derived.Test.YtjnhaabbnbcaeaaLaidK
import Derived.Test.YtjnhaabbnbcaeaaBy0
import Derived.Laws.RangeAny
import Derived.Shelf.Small.Strs
set_option linter.unusedVariables false
set_option linter.unusedSimpArgs false
namespace Go.Proofs.Ytjnhaabbnbcaeaa
open Go.RowKit

namespace Fo
/-- A letter or a digit. -/
def isL (c : Int) : Bool := (decide (65 ≤ c) && decide (c ≤ 90)) || ((decide (97 ≤ c) && decide (c ≤ 122)) || (decide (48 ≤ c) && decide (c ≤ 57)))
def isB (c : UInt8) : Bool := isL (c.toNat : Int)
/-- Made of letters, digits and these signs. -/
def mdA (sg : List UInt8) (l : List UInt8) : Bool := l.all fun c => isB c || sg.contains c
def made (sg : List UInt8) (l : List UInt8) : Bool := mdA sg l && !l.isEmpty
theorem ix_key (c : UInt8) : ∀ l : List UInt8, (Lib.indexByte l c = -1 ∧ l.contains c = false) ∨ (0 ≤ Lib.indexByte l c ∧ l.contains c = true)
  | [] => .inl ⟨rfl, rfl⟩
  | b :: r => by
    unfold Lib.indexByte
    by_cases h : b = c
    · subst h; right; simp
    · have h2 : (b == c) = false := by rw [beq_eq_false_iff_ne]; exact h
      have h3 : (c == b) = false := by rw [beq_eq_false_iff_ne]; exact fun e => h e.symm
      rw [h2, List.contains_cons, h3, Bool.false_or]
      rcases ix_key c r with ⟨a, d⟩ | ⟨a, d⟩
      · left; rw [a]; exact ⟨rfl, d⟩
      · right
        have h4 : (Lib.indexByte r c == -1) = false := by rw [beq_eq_false_iff_ne]; omega
        rw [h4]
        refine ⟨?_, d⟩
        show 0 ≤ Lib.indexByte r c + 1
        omega
theorem ix_neg (sg : List UInt8) (c : UInt8) : decide (Lib.indexByte sg c < 0) = !(sg.contains c) := by
  rcases ix_key c sg with ⟨a, d⟩ | ⟨a, d⟩
  · rw [a, d]; rfl
  · rw [d, decide_eq_false (by omega)]; rfl
end Fo
set_option maxHeartbeats 2000000 in
theorem isLD_any (c : Int) (w : World) (h0 : 0 ≤ c) (h1 : c ≤ 255) :
    Calls Try.prog 54 #[.int .u8 c] w fun e w' => e = .returned (.bool (Fo.isL c)) ∧ w = w' := by
  unfold Fo.isL
  by_cases a0 : 65 ≤ c <;> by_cases a1 : c ≤ 90 <;> by_cases b0 : 97 ≤ c <;> by_cases b1 : c ≤ 122 <;> by_cases d0 : 48 ≤ c <;> by_cases d1 : c ≤ 57
  all_goals try (exfalso; omega)
  all_goals
    go_enter Try.func54, Try.ntmps54
    go_wp2_with fail
    all_goals first | (exfalso; omega) | (go_ret; exact ⟨by simp [a0, a1, b0, b1, d0, d1], rfl⟩)
set_option maxHeartbeats 4000000 in
set_option maxRecDepth 100000 in
theorem made_any (s sg : ByteArray) (w : World) (hs : s.size ≤ 9223372036854775807) :
    Calls Try.prog 42 #[.string s, .string sg] w fun e w' => e = .returned (.bool (Fo.made sg.data.toList s.data.toList)) ∧ w = w' := by
  obtain ⟨ans, hans⟩ : ∃ ans, ans = Fo.made sg.data.toList s.data.toList := ⟨_, rfl⟩
  rw [← hans]
  have HA := Lib.hid (show ans = (Fo.mdA sg.data.toList s.data.toList && !s.data.toList.isEmpty) from hans)
  have HE : Hid (0 < s.size → (!s.data.toList.isEmpty) = true) := fun h => by
    have := ab_len s
    cases hl : s.data.toList with
    | nil => rw [hl] at this; simp at this; omega
    | cons _ _ => rfl
  have HZ : Hid (s.size = 0 → (!s.data.toList.isEmpty) = false ∧ s = ⟨#[]⟩) := fun h => by
    have e : s.data.toList = [] := by rw [← List.length_eq_zero_iff, ab_len]; exact h
    exact ⟨by rw [e]; rfl, by apply ByteArray.ext; apply Array.toList_inj.1; rw [e]⟩
  clear hans
  go_enter Try.func42, Try.ntmps42
  go_wp2_with fail
  go_loopw [8] (fun i wr => ∃ k : Nat, k ≤ s.size ∧ i = .int .i64 k ∧ Hid (Fo.mdA sg.data.toList (s.data.toList.drop k) = Fo.mdA sg.data.toList s.data.toList) ∧ wr = w) (fun i _ => s.size - (intOf i).toNat)
  case atStart => exact ⟨0, Nat.zero_le _, rfl, Lib.hid rfl, rfl⟩
  case round =>
    obtain ⟨k, hk, rfl, hr, hw⟩ := hrel
    obtain rfl : w = wr := hw.symm
    by_cases hlt : k < s.size
    · have IX := fun W => rn_ix s k hlt W
      have hn : ((Fo.isB s[k] || sg.data.toList.contains s[k]) && Fo.mdA sg.data.toList (s.data.toList.drop (k + 1))) = Fo.mdA sg.data.toList s.data.toList := by rw [← hr.out, ab_drop s k hlt]; rfl
      have hc := s[k].toNat_lt
      have CL : Hid (∀ W, Calls Try.prog 54 #[.int .u8 (s[k].toNat : Int)] W fun e w' => e = .returned (.bool (Fo.isB s[k])) ∧ W = w') := fun W => isLD_any _ W (by omega) (by omega)
      have CI : Hid (∀ W, Calls Try.prog 55 #[.string sg, .int .u8 (s[k].toNat : Int)] W fun e w' => e = .returned (.int .i64 (Lib.indexByte sg.data.toList s[k])) ∧ W = w') := fun W =>
        (Any.strings_IndexByte Try.lays137 sg (s[k].toNat : Int) W).mono fun e w' ⟨h, h2⟩ => ⟨by rw [h]; congr 3; simp, h2.symm⟩
      have hx := Fo.ix_neg sg.data.toList s[k]
      generalize sg.data.toList.contains s[k] = b2 at hn hx
      generalize Lib.indexByte sg.data.toList s[k] = ix at CI hx
      generalize Fo.isB s[k] = b1 at hn CL
      have HN := Lib.hid hn
      clear hn
      cases b1
      · cases b2
        · have hno := Lib.hid (show ans = false by rw [HA.out, ← HN.out]; rfl)
          have hxx : ix < 0 := of_decide_eq_true hx
          clear HN hx
          go_wp2_with fail
          refine (CL.out _).mono ?_; rintro e w1 ⟨rfl, rfl⟩
          go_wp2_with fail
          refine (CI.out _).mono ?_; rintro e w1 ⟨rfl, rfl⟩
          go_wp2_with fail
          go_ret
          exact ⟨by rw [hno.out]; rfl, rfl⟩
        · have hxx : ¬ ix < 0 := of_decide_eq_false hx
          have HN2 := Lib.hid (show Fo.mdA sg.data.toList (s.data.toList.drop (k + 1)) = Fo.mdA sg.data.toList s.data.toList by rw [← HN.out]; rfl)
          clear HN hx
          go_wp2_with fail
          refine (CL.out _).mono ?_; rintro e w1 ⟨rfl, rfl⟩
          go_wp2_with fail
          refine (CI.out _).mono ?_; rintro e w1 ⟨rfl, rfl⟩
          go_wp2_with fail
          go_roundw
          case rel => exact ⟨k + 1, by omega, by go_num, HN2, by first | rfl | trivial⟩
          case measure => simp [intOf]; omega
      · have HN2 := Lib.hid (show Fo.mdA sg.data.toList (s.data.toList.drop (k + 1)) = Fo.mdA sg.data.toList s.data.toList by rw [← HN.out]; simp)
        clear HN hx CI
        go_wp2_with fail
        refine (CL.out _).mono ?_; rintro e w1 ⟨rfl, rfl⟩
        go_wp2_with fail
        go_roundw
        case rel => exact ⟨k + 1, by omega, by go_num, HN2, by first | rfl | trivial⟩
        case measure => simp [intOf]; omega
    · have hall := Lib.hid (show Fo.mdA sg.data.toList s.data.toList = true by rw [← hr.out, List.drop_of_length_le (by rw [ab_len]; omega)]; rfl)
      rcases Nat.eq_zero_or_pos s.size with h0 | h0
      · obtain ⟨e1, e2⟩ := HZ.out h0
        have hans := Lib.hid (show ans = false by rw [HA.out, e1, Bool.and_false])
        clear HA HE HZ hr hall e1
        subst e2
        go_wp2_with fail
        go_ret
        exact ⟨by rw [hans.out]; rfl, rfl⟩
      · have hans := Lib.hid (show ans = true by rw [HA.out, hall.out, HE.out h0]; rfl)
        obtain ⟨n1, n2⟩ := dne h0
        clear HA HE HZ hr hall
        go_wp2_with fail
        go_ret
        exact ⟨by rw [hans.out]; rfl, rfl⟩
end Go.Proofs.Ytjnhaabbnbcaeaa

