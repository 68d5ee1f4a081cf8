/- Joined: By0, FoA, FoC0. -/
import Derived.Test.YtjnhaabbnbcaeaaBx01
import Derived.Test.YtjnhaabbnbcaeaaLaidK
import Derived.Laws.RangeAny
import Derived.Shelf.Small.Strs
import Derived.Lib.ItoaNum
/- Texts as bytes: how long they are, what stands behind a place. -/
set_option linter.unusedVariables false
set_option linter.unusedSimpArgs false
namespace Go.Proofs.Ytjnhaabbnbcaeaa
open Go.RowKit

theorem ab_len (a : ByteArray) : a.data.toList.length = a.size := Array.length_toList
theorem ab_drop (a : ByteArray) (k : Nat) (h : k < a.size) : a.data.toList.drop k = a[k] :: a.data.toList.drop (k + 1) := by
  rw [List.drop_eq_getElem_cons (by rw [ab_len]; exact h)]
  rfl
theorem dne {ds : ByteArray} (h : 0 < ds.size) : ds.toList.isEmpty = false ∧ ¬ ds.toList = [] := by
  have : ds.toList ≠ [] := by
    intro e
    have hl := ab_len ds
    rw [← ByteArray.toList_eq] at hl
    rw [e] at hl; simp at hl; omega
  exact ⟨by simpa using this, this⟩
theorem rn_ix (a : ByteArray) (k : Nat) (h : k < a.size) (w : World) : Sem.run Try.prog (Instr.index 9 (.string a) (.int .i64 (k : Int))) w = .ok (.int .u8 a[k].toNat) w := by
  rw [run_index_string w _ _ _ _ Try.underlying9, dif_pos ⟨by omega, by omega⟩]
  simp
end Go.Proofs.Ytjnhaabbnbcaeaa

/- Formats: what may stand in them; counts; the kinds. -/
set_option linter.unusedVariables false
set_option linter.unusedSimpArgs false
namespace Go.Proofs.Ytjnhaabbnbcaeaa
open Go.RowKit

namespace Fo
/-- A letter or a digit. -/
def isL (c : Int) : Bool := (decide (65 ≤ c) && decide (c ≤ 90)) || ((decide (97 ≤ c) && decide (c ≤ 122)) || (decide (48 ≤ c) && decide (c ≤ 57)))
def isB (c : UInt8) : Bool := isL (c.toNat : Int)
/-- Made of letters, digits and these signs. -/
def mdA (sg : List UInt8) (l : List UInt8) : Bool := l.all fun c => isB c || sg.contains c
def made (sg : List UInt8) (l : List UInt8) : Bool := mdA sg l && !l.isEmpty
theorem ix_key (c : UInt8) : ∀ l : List UInt8, (Lib.indexByte l c = -1 ∧ l.contains c = false) ∨ (0 ≤ Lib.indexByte l c ∧ l.contains c = true)
  | [] => .inl ⟨rfl, rfl⟩
  | b :: r => by
    unfold Lib.indexByte
    by_cases h : b = c
    · subst h; right; simp
    · have h2 : (b == c) = false := by rw [beq_eq_false_iff_ne]; exact h
      have h3 : (c == b) = false := by rw [beq_eq_false_iff_ne]; exact fun e => h e.symm
      rw [h2, List.contains_cons, h3, Bool.false_or]
      rcases ix_key c r with ⟨a, d⟩ | ⟨a, d⟩
      · left; rw [a]; exact ⟨rfl, d⟩
      · right
        have h4 : (Lib.indexByte r c == -1) = false := by rw [beq_eq_false_iff_ne]; omega
        rw [h4]
        refine ⟨?_, d⟩
        show 0 ≤ Lib.indexByte r c + 1
        omega
theorem ix_neg (sg : List UInt8) (c : UInt8) : decide (Lib.indexByte sg c < 0) = !(sg.contains c) := by
  rcases ix_key c sg with ⟨a, d⟩ | ⟨a, d⟩
  · rw [a, d]; rfl
  · rw [d, decide_eq_false (by omega)]; rfl
end Fo
set_option maxHeartbeats 2000000 in
theorem isLD_any (c : Int) (w : World) (h0 : 0 ≤ c) (h1 : c ≤ 255) :
    Calls Try.prog 54 #[.int .u8 c] w fun e w' => e = .returned (.bool (Fo.isL c)) ∧ w = w' := by
  unfold Fo.isL
  by_cases a0 : 65 ≤ c <;> by_cases a1 : c ≤ 90 <;> by_cases b0 : 97 ≤ c <;> by_cases b1 : c ≤ 122 <;> by_cases d0 : 48 ≤ c <;> by_cases d1 : c ≤ 57
  all_goals try (exfalso; omega)
  all_goals
    go_enter Try.func54, Try.ntmps54
    go_wp2_with fail
    all_goals first | (exfalso; omega) | (go_ret; exact ⟨by simp [a0, a1, b0, b1, d0, d1], rfl⟩)
set_option maxHeartbeats 4000000 in
set_option maxRecDepth 100000 in
theorem made_any (s sg : ByteArray) (w : World) (hs : s.size ≤ 9223372036854775807) :
    Calls Try.prog 42 #[.string s, .string sg] w fun e w' => e = .returned (.bool (Fo.made sg.data.toList s.data.toList)) ∧ w = w' := by
  obtain ⟨ans, hans⟩ : ∃ ans, ans = Fo.made sg.data.toList s.data.toList := ⟨_, rfl⟩
  rw [← hans]
  have HA := Lib.hid (show ans = (Fo.mdA sg.data.toList s.data.toList && !s.data.toList.isEmpty) from hans)
  have HE : Hid (0 < s.size → (!s.data.toList.isEmpty) = true) := fun h => by
    have := ab_len s
    cases hl : s.data.toList with
    | nil => rw [hl] at this; simp at this; omega
    | cons _ _ => rfl
  have HZ : Hid (s.size = 0 → (!s.data.toList.isEmpty) = false ∧ s = ⟨#[]⟩) := fun h => by
    have e : s.data.toList = [] := by rw [← List.length_eq_zero_iff, ab_len]; exact h
    exact ⟨by rw [e]; rfl, by apply ByteArray.ext; apply Array.toList_inj.1; rw [e]⟩
  clear hans
  go_enter Try.func42, Try.ntmps42
  go_wp2_with fail
  go_loopw [8] (fun i wr => ∃ k : Nat, k ≤ s.size ∧ i = .int .i64 k ∧ Hid (Fo.mdA sg.data.toList (s.data.toList.drop k) = Fo.mdA sg.data.toList s.data.toList) ∧ wr = w) (fun i _ => s.size - (intOf i).toNat)
  case atStart => exact ⟨0, Nat.zero_le _, rfl, Lib.hid rfl, rfl⟩
  case round =>
    obtain ⟨k, hk, rfl, hr, hw⟩ := hrel
    obtain rfl : w = wr := hw.symm
    by_cases hlt : k < s.size
    · have IX := fun W => rn_ix s k hlt W
      have hn : ((Fo.isB s[k] || sg.data.toList.contains s[k]) && Fo.mdA sg.data.toList (s.data.toList.drop (k + 1))) = Fo.mdA sg.data.toList s.data.toList := by rw [← hr.out, ab_drop s k hlt]; rfl
      have hc := s[k].toNat_lt
      have CL : Hid (∀ W, Calls Try.prog 54 #[.int .u8 (s[k].toNat : Int)] W fun e w' => e = .returned (.bool (Fo.isB s[k])) ∧ W = w') := fun W => isLD_any _ W (by omega) (by omega)
      have CI : Hid (∀ W, Calls Try.prog 55 #[.string sg, .int .u8 (s[k].toNat : Int)] W fun e w' => e = .returned (.int .i64 (Lib.indexByte sg.data.toList s[k])) ∧ W = w') := fun W =>
        (Any.strings_IndexByte Try.lays137 sg (s[k].toNat : Int) W).mono fun e w' ⟨h, h2⟩ => ⟨by rw [h]; congr 3; simp, h2.symm⟩
      have hx := Fo.ix_neg sg.data.toList s[k]
      generalize sg.data.toList.contains s[k] = b2 at hn hx
      generalize Lib.indexByte sg.data.toList s[k] = ix at CI hx
      generalize Fo.isB s[k] = b1 at hn CL
      have HN := Lib.hid hn
      clear hn
      cases b1
      · cases b2
        · have hno := Lib.hid (show ans = false by rw [HA.out, ← HN.out]; rfl)
          have hxx : ix < 0 := of_decide_eq_true hx
          clear HN hx
          go_wp2_with fail
          refine (CL.out _).mono ?_; rintro e w1 ⟨rfl, rfl⟩
          go_wp2_with fail
          refine (CI.out _).mono ?_; rintro e w1 ⟨rfl, rfl⟩
          go_wp2_with fail
          go_ret
          exact ⟨by rw [hno.out]; rfl, rfl⟩
        · have hxx : ¬ ix < 0 := of_decide_eq_false hx
          have HN2 := Lib.hid (show Fo.mdA sg.data.toList (s.data.toList.drop (k + 1)) = Fo.mdA sg.data.toList s.data.toList by rw [← HN.out]; rfl)
          clear HN hx
          go_wp2_with fail
          refine (CL.out _).mono ?_; rintro e w1 ⟨rfl, rfl⟩
          go_wp2_with fail
          refine (CI.out _).mono ?_; rintro e w1 ⟨rfl, rfl⟩
          go_wp2_with fail
          go_roundw
          case rel => exact ⟨k + 1, by omega, by go_num, HN2, by first | rfl | trivial⟩
          case measure => simp [intOf]; omega
      · have HN2 := Lib.hid (show Fo.mdA sg.data.toList (s.data.toList.drop (k + 1)) = Fo.mdA sg.data.toList s.data.toList by rw [← HN.out]; simp)
        clear HN hx CI
        go_wp2_with fail
        refine (CL.out _).mono ?_; rintro e w1 ⟨rfl, rfl⟩
        go_wp2_with fail
        go_roundw
        case rel => exact ⟨k + 1, by omega, by go_num, HN2, by first | rfl | trivial⟩
        case measure => simp [intOf]; omega
    · have hall := Lib.hid (show Fo.mdA sg.data.toList s.data.toList = true by rw [← hr.out, List.drop_of_length_le (by rw [ab_len]; omega)]; rfl)
      rcases Nat.eq_zero_or_pos s.size with h0 | h0
      · obtain ⟨e1, e2⟩ := HZ.out h0
        have hans := Lib.hid (show ans = false by rw [HA.out, e1, Bool.and_false])
        clear HA HE HZ hr hall e1
        subst e2
        go_wp2_with fail
        go_ret
        exact ⟨by rw [hans.out]; rfl, rfl⟩
      · have hans := Lib.hid (show ans = true by rw [HA.out, hall.out, HE.out h0]; rfl)
        obtain ⟨n1, n2⟩ := dne h0
        clear HA HE HZ hr hall
        go_wp2_with fail
        go_ret
        exact ⟨by rw [hans.out]; rfl, rfl⟩
end Go.Proofs.Ytjnhaabbnbcaeaa

/- Formats: letters. -/
set_option linter.unusedVariables false
set_option linter.unusedSimpArgs false
namespace Go.Proofs.Ytjnhaabbnbcaeaa
open Go.RowKit

namespace Fo
/-- Letters that are meant. -/
def lt (l : List UInt8) : List UInt8 × Int := if l = [45] then ([], 0) else if 6 < l.length then ([], 9) else if made [43, 45] l = false then ([], 4) else (l, 0)
/-- How letters are written. -/
def ltx (l : List UInt8) : List UInt8 × Int := if l = [] then ([45], 0) else if (lt l).2 ≠ 0 ∨ (lt l).1 ≠ l then ([], 4) else (l, 0)
/-- Two digits. -/
def td (n : Int) : List UInt8 := Lib.itoa (n / 10) ++ Lib.itoa (n % 10)
/-- A difference, its sign taken off. -/
def dfa (a : Int) : List UInt8 := td (a / 3600) ++ ((if a % 3600 = 0 then [] else td (a / 60 % 60)) ++ (if a % 60 = 0 then [] else td (a % 60)))
def df (off : Int) : List UInt8 := if off < 0 then 45 :: dfa (-off) else 43 :: dfa off
end Fo
theorem bz_ne {s : ByteArray} {l : List UInt8} (h : s.data.toList ≠ l) : ¬ s.toList = l := by rw [ByteArray.toList_eq]; exact h
theorem bz_eq {s : ByteArray} {l : List UInt8} (h : s.data.toList = l) : s = ⟨l.toArray⟩ := by apply ByteArray.ext; apply Array.toList_inj.1; rw [h]
theorem bz_id (s : ByteArray) : (⟨s.data.toList.toArray⟩ : ByteArray) = s := by apply ByteArray.ext; apply Array.toList_inj.1; simp
set_option maxHeartbeats 2000000 in
theorem letter_any (s : ByteArray) (w : World) (hs : s.size ≤ 9223372036854775807) :
    Calls Try.prog 32 #[.string s] w fun e w' => e = .returned (.tuple #[.string ⟨(Fo.lt s.data.toList).1.toArray⟩, .int .i64 (Fo.lt s.data.toList).2]) ∧ w = w' := by
  unfold Fo.lt
  rw [ab_len]
  by_cases h45 : s.data.toList = [45]
  · rw [if_pos h45]
    rw [bz_eq h45]
    clear h45 hs
    go_enter Try.func32, Try.ntmps32
    go_wp2_with fail
    go_ret2
    exact ⟨rfl, rfl⟩
  · rw [if_neg h45]
    have n1 := bz_ne h45
    have n2 : (s.toList == [45]) = false := by rw [beq_eq_false_iff_ne]; exact n1
    by_cases h6 : 6 < s.size
    · rw [if_pos h6]
      have h6' : 6 < (s.size : Int) := by omega
      clear h6 h45
      go_enter Try.func32, Try.ntmps32
      go_wp2_with fail
      go_ret2
      exact ⟨rfl, rfl⟩
    · rw [if_neg h6]
      have h6' : ¬ 6 < (s.size : Int) := by omega
      have C : Hid (∀ W, Calls Try.prog 42 #[.string s, .string ⟨#[43, 45]⟩] W fun e w' => e = .returned (.bool (Fo.made [43, 45] s.data.toList)) ∧ W = w') := fun W => made_any s ⟨#[43, 45]⟩ W hs
      clear h6 h45
      cases hM : Fo.made [43, 45] s.data.toList
      · rw [hM] at C
        rw [if_pos rfl]
        clear hM
        go_enter Try.func32, Try.ntmps32
        go_wp2_with fail
        refine (C.out _).mono ?_; rintro e w1 ⟨rfl, rfl⟩
        go_wp2_with fail
        go_ret2
        exact ⟨rfl, rfl⟩
      · rw [hM] at C
        rw [if_neg (by decide), bz_id]
        clear hM
        go_enter Try.func32, Try.ntmps32
        go_wp2_with fail
        refine (C.out _).mono ?_; rintro e w1 ⟨rfl, rfl⟩
        go_wp2_with fail
        go_ret2
        exact ⟨rfl, rfl⟩
set_option maxHeartbeats 2000000 in
theorem lettertext_any (s : ByteArray) (w : World) (hs : s.size ≤ 9223372036854775807) :
    Calls Try.prog 18 #[.string s] w fun e w' => e = .returned (.tuple #[.string ⟨(Fo.ltx s.data.toList).1.toArray⟩, .int .i64 (Fo.ltx s.data.toList).2]) ∧ w = w' := by
  unfold Fo.ltx
  by_cases h0 : s.data.toList = []
  · rw [if_pos h0, bz_eq h0]
    clear h0 hs
    go_enter Try.func18, Try.ntmps18
    go_wp2_with fail
    go_ret2
    exact ⟨rfl, rfl⟩
  · rw [if_neg h0]
    have hp : 0 < s.size := by
      rcases Nat.eq_zero_or_pos s.size with h | h
      · exact absurd (by rw [← List.length_eq_zero_iff, ab_len]; exact h) h0
      · exact h
    obtain ⟨n1, n2⟩ := dne hp
    have C := Lib.hid (fun W => letter_any s W hs)
    generalize hl : Fo.lt s.data.toList = q at C ⊢
    obtain ⟨t, e⟩ := q
    have C : Hid (∀ W, Calls Try.prog 32 #[.string s] W fun e' w' => e' = .returned (.tuple #[.string ⟨t.toArray⟩, .int .i64 e]) ∧ W = w') := C
    show Calls Try.prog 18 #[.string s] w fun e' w' => e' = .returned (.tuple #[.string ⟨(if e ≠ 0 ∨ t ≠ s.data.toList then (([] : List UInt8), (4 : Int)) else (s.data.toList, 0)).1.toArray⟩, .int .i64 (if e ≠ 0 ∨ t ≠ s.data.toList then (([] : List UInt8), (4 : Int)) else (s.data.toList, 0)).2]) ∧ w = w'
    clear hl h0
    cases he : e == 0
    · have he0 : e ≠ 0 := fun h => by rw [h] at he; cases he
      have he2 : (e != 0) = true := by unfold bne; rw [he]; rfl
      rw [if_pos (.inl he0)]
      go_enter Try.func18, Try.ntmps18
      go_wp2_with fail
      refine (C.out _).mono ?_; rintro e w1 ⟨rfl, rfl⟩
      go_wp2_with fail
      go_ret2
      exact ⟨rfl, rfl⟩
    · have he0 : e = 0 := by rw [← beq_iff_eq]; exact he
      subst he0
      by_cases ht : t = s.data.toList
      · subst ht
        rw [if_neg (fun h => by rcases h with h | h; exact h rfl; exact h rfl), bz_id]
        rw [bz_id] at C
        go_enter Try.func18, Try.ntmps18
        go_wp2_with fail
        refine (C.out _).mono ?_; rintro e w1 ⟨rfl, rfl⟩
        go_wp2_with fail
        go_ret2
        exact ⟨rfl, rfl⟩
      · rw [if_pos (.inr ht)]
        have n3 : ¬ (⟨t.toArray⟩ : ByteArray).toList = s.toList := by rw [ByteArray.toList_eq, ByteArray.toList_eq]; simpa using ht
        have n4 : ((⟨t.toArray⟩ : ByteArray).toList == s.toList) = false := by rw [beq_eq_false_iff_ne]; exact n3
        generalize (⟨t.toArray⟩ : ByteArray) = T at C n3 n4
        clear ht
        go_enter Try.func18, Try.ntmps18
        go_wp2_with fail
        refine (C.out _).mono ?_; rintro e w1 ⟨rfl, rfl⟩
        go_wp2_with fail
        go_ret2
        exact ⟨rfl, rfl⟩
end Go.Proofs.Ytjnhaabbnbcaeaa
