/- Joined: By0, FoA, FoC0, Cal, CivA, DrM, One, DrAo, DrA, ClR0. -/
import Derived.Test.YtjggjkeopbcmoaaGreatDoorBt01
import Derived.Test.YtjggjkeopbcmoaaGreatDoorLaidK
import Derived.Laws.RangeAny
import Derived.Shelf.Small.Strs
import Derived.Lib.ItoaNum
set_option linter.unusedVariables false
set_option linter.unusedSimpArgs false
namespace Go.Proofs.YtjggjkeopbcmoaaGreatDoor
open Go.RowKit
theorem ab_len (a : ByteArray) : a.data.toList.length = a.size := Array.length_toList
theorem ab_drop (a : ByteArray) (k : Nat) (h : k < a.size) : a.data.toList.drop k = a[k] :: a.data.toList.drop (k + 1) := by
 rw [List.drop_eq_getElem_cons (by rw [ab_len]; exact h)]
 rfl
theorem dne {ds : ByteArray} (h : 0 < ds.size) : ds.toList.isEmpty = false ∧ ¬ ds.toList = [] := by
 have : ds.toList ≠ [] := by
  intro e
  have hl := ab_len ds
  rw [← ByteArray.toList_eq] at hl
  rw [e] at hl; simp at hl; omega
 exact ⟨by simpa using this, this⟩
theorem rn_ix (a : ByteArray) (k : Nat) (h : k < a.size) (w : World) : Sem.run Tryz.prog (Instr.index 9 (.string a) (.int .i64 (k : Int))) w = .ok (.int .u8 a[k].toNat) w := by
 rw [run_index_string w _ _ _ _ Tryz.underlying9, dif_pos ⟨by omega, by omega⟩]
 simp
namespace Fo
def isL (c : Int) : Bool := (decide (65 ≤ c) && decide (c ≤ 90)) || ((decide (97 ≤ c) && decide (c ≤ 122)) || (decide (48 ≤ c) && decide (c ≤ 57)))
def isB (c : UInt8) : Bool := isL (c.toNat : Int)
def mdA (sg : List UInt8) (l : List UInt8) : Bool := l.all fun c => isB c || sg.contains c
def made (sg : List UInt8) (l : List UInt8) : Bool := mdA sg l && !l.isEmpty
theorem ix_key (c : UInt8) : ∀ l : List UInt8, (Lib.indexByte l c = -1 ∧ l.contains c = false) ∨ (0 ≤ Lib.indexByte l c ∧ l.contains c = true)
 | [] => .inl ⟨rfl, rfl⟩
 | b :: r => by
  unfold Lib.indexByte
  by_cases h : b = c
  ·
   subst h; right; simp
  ·
   have h2 : (b == c) = false := by rw [beq_eq_false_iff_ne]; exact h
   have h3 : (c == b) = false := by rw [beq_eq_false_iff_ne]; exact fun e => h e.symm
   rw [h2, List.contains_cons, h3, Bool.false_or]
   rcases ix_key c r with ⟨a, d⟩ | ⟨a, d⟩
   ·
    left; rw [a]; exact ⟨rfl, d⟩
   ·
    right
    have h4 : (Lib.indexByte r c == -1) = false := by rw [beq_eq_false_iff_ne]; omega
    rw [h4]
    refine ⟨?_, d⟩
    show 0 ≤ Lib.indexByte r c + 1
    omega
theorem ix_neg (sg : List UInt8) (c : UInt8) : decide (Lib.indexByte sg c < 0) = !(sg.contains c) := by
 rcases ix_key c sg with ⟨a, d⟩ | ⟨a, d⟩
 ·
  rw [a, d]; rfl
 ·
  rw [d, decide_eq_false (by omega)]; rfl
end Fo
set_option maxHeartbeats 2000000 in
theorem isLD_any (c : Int) (w : World) (h0 : 0 ≤ c) (h1 : c ≤ 255) :
  Calls Tryz.prog 128 #[.int .u8 c] w fun e w' => e = .returned (.bool (Fo.isL c)) ∧ w = w' := by
 unfold Fo.isL
 by_cases a0 : 65 ≤ c <;> by_cases a1 : c ≤ 90 <;> by_cases b0 : 97 ≤ c <;> by_cases b1 : c ≤ 122 <;> by_cases d0 : 48 ≤ c <;> by_cases d1 : c ≤ 57
 all_goals try (exfalso; omega)
 all_goals
  go_enter Tryz.func128, Tryz.ntmps128
  go_wp2_with fail
  all_goals first | (exfalso; omega) | (go_ret; exact ⟨by simp [a0, a1, b0, b1, d0, d1], rfl⟩)
set_option maxHeartbeats 4000000 in
set_option maxRecDepth 100000 in
theorem made_any (s sg : ByteArray) (w : World) (hs : s.size ≤ 9223372036854775807) :
  Calls Tryz.prog 92 #[.string s, .string sg] w fun e w' => e = .returned (.bool (Fo.made sg.data.toList s.data.toList)) ∧ w = w' := by
 obtain ⟨ans, hans⟩ : ∃ ans, ans = Fo.made sg.data.toList s.data.toList := ⟨_, rfl⟩
 rw [← hans]
 have HA := Lib.hid (show ans = (Fo.mdA sg.data.toList s.data.toList && !s.data.toList.isEmpty) from hans)
 have HE : Hid (0 < s.size → (!s.data.toList.isEmpty) = true) := fun h => by
  have := ab_len s
  cases hl : s.data.toList with
  | nil => rw [hl] at this; simp at this; omega
  | cons _ _ => rfl
 have HZ : Hid (s.size = 0 → (!s.data.toList.isEmpty) = false ∧ s = ⟨#[]⟩) := fun h => by
  have e : s.data.toList = [] := by rw [← List.length_eq_zero_iff, ab_len]; exact h
  exact ⟨by rw [e]; rfl, by apply ByteArray.ext; apply Array.toList_inj.1; rw [e]⟩
 clear hans
 go_enter Tryz.func92, Tryz.ntmps92
 go_wp2_with fail
 go_loopw [8] (fun i wr => ∃ k : Nat, k ≤ s.size ∧ i = .int .i64 k ∧ Hid (Fo.mdA sg.data.toList (s.data.toList.drop k) = Fo.mdA sg.data.toList s.data.toList) ∧ wr = w) (fun i _ => s.size - (intOf i).toNat)
 case atStart => exact ⟨0, Nat.zero_le _, rfl, Lib.hid rfl, rfl⟩
 case round =>
  obtain ⟨k, hk, rfl, hr, hw⟩ := hrel
  obtain rfl : w = wr := hw.symm
  by_cases hlt : k < s.size
  ·
   have IX := fun W => rn_ix s k hlt W
   have hn : ((Fo.isB s[k] || sg.data.toList.contains s[k]) && Fo.mdA sg.data.toList (s.data.toList.drop (k + 1))) = Fo.mdA sg.data.toList s.data.toList := by rw [← hr.out, ab_drop s k hlt]; rfl
   have hc := s[k].toNat_lt
   have CL : Hid (∀ W, Calls Tryz.prog 128 #[.int .u8 (s[k].toNat : Int)] W fun e w' => e = .returned (.bool (Fo.isB s[k])) ∧ W = w') := fun W => isLD_any _ W (by omega) (by omega)
   have CI : Hid (∀ W, Calls Tryz.prog 85 #[.string sg, .int .u8 (s[k].toNat : Int)] W fun e w' => e = .returned (.int .i64 (Lib.indexByte sg.data.toList s[k])) ∧ W = w') := fun W =>
    (Any.strings_IndexByte Tryz.lays137 sg (s[k].toNat : Int) W).mono fun e w' ⟨h, h2⟩ => ⟨by rw [h]; congr 3; simp, h2.symm⟩
   have hx := Fo.ix_neg sg.data.toList s[k]
   generalize sg.data.toList.contains s[k] = b2 at hn hx
   generalize Lib.indexByte sg.data.toList s[k] = ix at CI hx
   generalize Fo.isB s[k] = b1 at hn CL
   have HN := Lib.hid hn
   clear hn
   cases b1
   ·
    cases b2
    ·
     have hno := Lib.hid (show ans = false by rw [HA.out, ← HN.out]; rfl)
     have hxx : ix < 0 := of_decide_eq_true hx
     clear HN hx
     go_wp2_with fail
     refine (CL.out _).mono ?_; rintro e w1 ⟨rfl, rfl⟩
     go_wp2_with fail
     refine (CI.out _).mono ?_; rintro e w1 ⟨rfl, rfl⟩
     go_wp2_with fail
     go_ret
     exact ⟨by rw [hno.out]; rfl, rfl⟩
    ·
     have hxx : ¬ ix < 0 := of_decide_eq_false hx
     have HN2 := Lib.hid (show Fo.mdA sg.data.toList (s.data.toList.drop (k + 1)) = Fo.mdA sg.data.toList s.data.toList by rw [← HN.out]; rfl)
     clear HN hx
     go_wp2_with fail
     refine (CL.out _).mono ?_; rintro e w1 ⟨rfl, rfl⟩
     go_wp2_with fail
     refine (CI.out _).mono ?_; rintro e w1 ⟨rfl, rfl⟩
     go_wp2_with fail
     go_roundw
     case rel => exact ⟨k + 1, by omega, by go_num, HN2, by first | rfl | trivial⟩
     case measure => simp [intOf]; omega
   ·
    have HN2 := Lib.hid (show Fo.mdA sg.data.toList (s.data.toList.drop (k + 1)) = Fo.mdA sg.data.toList s.data.toList by rw [← HN.out]; simp)
    clear HN hx CI
    go_wp2_with fail
    refine (CL.out _).mono ?_; rintro e w1 ⟨rfl, rfl⟩
    go_wp2_with fail
    go_roundw
    case rel => exact ⟨k + 1, by omega, by go_num, HN2, by first | rfl | trivial⟩
    case measure => simp [intOf]; omega
  ·
   have hall := Lib.hid (show Fo.mdA sg.data.toList s.data.toList = true by rw [← hr.out, List.drop_of_length_le (by rw [ab_len]; omega)]; rfl)
   rcases Nat.eq_zero_or_pos s.size with h0 | h0
   ·
    obtain ⟨e1, e2⟩ := HZ.out h0
    have hans := Lib.hid (show ans = false by rw [HA.out, e1, Bool.and_false])
    clear HA HE HZ hr hall e1
    subst e2
    go_wp2_with fail
    go_ret
    exact ⟨by rw [hans.out]; rfl, rfl⟩
   ·
    have hans := Lib.hid (show ans = true by rw [HA.out, hall.out, HE.out h0]; rfl)
    obtain ⟨n1, n2⟩ := dne h0
    clear HA HE HZ hr hall
    go_wp2_with fail
    go_ret
    exact ⟨by rw [hans.out]; rfl, rfl⟩
namespace Fo
def lt (l : List UInt8) : List UInt8 × Int := if l = [45] then ([], 0) else if 6 < l.length then ([], 9) else if made [43, 45] l = false then ([], 4) else (l, 0)
def ltx (l : List UInt8) : List UInt8 × Int := if l = [] then ([45], 0) else if (lt l).2 ≠ 0 ∨ (lt l).1 ≠ l then ([], 4) else (l, 0)
def td (n : Int) : List UInt8 := Lib.itoa (n / 10) ++ Lib.itoa (n % 10)
end Fo
theorem bz_ne {s : ByteArray} {l : List UInt8} (h : s.data.toList ≠ l) : ¬ s.toList = l := by rw [ByteArray.toList_eq]; exact h
theorem bz_eq {s : ByteArray} {l : List UInt8} (h : s.data.toList = l) : s = ⟨l.toArray⟩ := by apply ByteArray.ext; apply Array.toList_inj.1; rw [h]
theorem bz_id (s : ByteArray) : (⟨s.data.toList.toArray⟩ : ByteArray) = s := by apply ByteArray.ext; apply Array.toList_inj.1; simp
set_option maxHeartbeats 2000000 in
theorem letter_any (s : ByteArray) (w : World) (hs : s.size ≤ 9223372036854775807) :
  Calls Tryz.prog 57 #[.string s] w fun e w' => e = .returned (.tuple #[.string ⟨(Fo.lt s.data.toList).1.toArray⟩, .int .i64 (Fo.lt s.data.toList).2]) ∧ w = w' := by
 unfold Fo.lt
 rw [ab_len]
 by_cases h45 : s.data.toList = [45]
 ·
  rw [if_pos h45]
  rw [bz_eq h45]
  clear h45 hs
  go_enter Tryz.func57, Tryz.ntmps57
  go_wp2_with fail
  go_ret2
  exact ⟨rfl, rfl⟩
 ·
  rw [if_neg h45]
  have n1 := bz_ne h45
  have n2 : (s.toList == [45]) = false := by rw [beq_eq_false_iff_ne]; exact n1
  by_cases h6 : 6 < s.size
  ·
   rw [if_pos h6]
   have h6' : 6 < (s.size : Int) := by omega
   clear h6 h45
   go_enter Tryz.func57, Tryz.ntmps57
   go_wp2_with fail
   go_ret2
   exact ⟨rfl, rfl⟩
  ·
   rw [if_neg h6]
   have h6' : ¬ 6 < (s.size : Int) := by omega
   have C : Hid (∀ W, Calls Tryz.prog 92 #[.string s, .string ⟨#[43, 45]⟩] W fun e w' => e = .returned (.bool (Fo.made [43, 45] s.data.toList)) ∧ W = w') := fun W => made_any s ⟨#[43, 45]⟩ W hs
   clear h6 h45
   cases hM : Fo.made [43, 45] s.data.toList
   ·
    rw [hM] at C
    rw [if_pos rfl]
    clear hM
    go_enter Tryz.func57, Tryz.ntmps57
    go_wp2_with fail
    refine (C.out _).mono ?_; rintro e w1 ⟨rfl, rfl⟩
    go_wp2_with fail
    go_ret2
    exact ⟨rfl, rfl⟩
   ·
    rw [hM] at C
    rw [if_neg (by decide), bz_id]
    clear hM
    go_enter Tryz.func57, Tryz.ntmps57
    go_wp2_with fail
    refine (C.out _).mono ?_; rintro e w1 ⟨rfl, rfl⟩
    go_wp2_with fail
    go_ret2
    exact ⟨rfl, rfl⟩
set_option maxHeartbeats 2000000 in
theorem lettertext_any (s : ByteArray) (w : World) (hs : s.size ≤ 9223372036854775807) :
  Calls Tryz.prog 24 #[.string s] w fun e w' => e = .returned (.tuple #[.string ⟨(Fo.ltx s.data.toList).1.toArray⟩, .int .i64 (Fo.ltx s.data.toList).2]) ∧ w = w' := by
 unfold Fo.ltx
 by_cases h0 : s.data.toList = []
 ·
  rw [if_pos h0, bz_eq h0]
  clear h0 hs
  go_enter Tryz.func24, Tryz.ntmps24
  go_wp2_with fail
  go_ret2
  exact ⟨rfl, rfl⟩
 ·
  rw [if_neg h0]
  have hp : 0 < s.size := by
   rcases Nat.eq_zero_or_pos s.size with h | h
   ·
    exact absurd (by rw [← List.length_eq_zero_iff, ab_len]; exact h) h0
   ·
    exact h
  obtain ⟨n1, n2⟩ := dne hp
  have C := Lib.hid (fun W => letter_any s W hs)
  generalize hl : Fo.lt s.data.toList = q at C ⊢
  obtain ⟨t, e⟩ := q
  have C : Hid (∀ W, Calls Tryz.prog 57 #[.string s] W fun e' w' => e' = .returned (.tuple #[.string ⟨t.toArray⟩, .int .i64 e]) ∧ W = w') := C
  show Calls Tryz.prog 24 #[.string s] w fun e' w' => e' = .returned (.tuple #[.string ⟨(if e ≠ 0 ∨ t ≠ s.data.toList then (([] : List UInt8), (4 : Int)) else (s.data.toList, 0)).1.toArray⟩, .int .i64 (if e ≠ 0 ∨ t ≠ s.data.toList then (([] : List UInt8), (4 : Int)) else (s.data.toList, 0)).2]) ∧ w = w'
  clear hl h0
  cases he : e == 0
  ·
   have he0 : e ≠ 0 := fun h => by rw [h] at he; cases he
   have he2 : (e != 0) = true := by unfold bne; rw [he]; rfl
   rw [if_pos (.inl he0)]
   go_enter Tryz.func24, Tryz.ntmps24
   go_wp2_with fail
   refine (C.out _).mono ?_; rintro e w1 ⟨rfl, rfl⟩
   go_wp2_with fail
   go_ret2
   exact ⟨rfl, rfl⟩
  ·
   have he0 : e = 0 := by rw [← beq_iff_eq]; exact he
   subst he0
   by_cases ht : t = s.data.toList
   ·
    subst ht
    rw [if_neg (fun h => by rcases h with h | h; exact h rfl; exact h rfl), bz_id]
    rw [bz_id] at C
    go_enter Tryz.func24, Tryz.ntmps24
    go_wp2_with fail
    refine (C.out _).mono ?_; rintro e w1 ⟨rfl, rfl⟩
    go_wp2_with fail
    go_ret2
    exact ⟨rfl, rfl⟩
   ·
    rw [if_pos (.inr ht)]
    have n3 : ¬ (⟨t.toArray⟩ : ByteArray).toList = s.toList := by rw [ByteArray.toList_eq, ByteArray.toList_eq]; simpa using ht
    have n4 : ((⟨t.toArray⟩ : ByteArray).toList == s.toList) = false := by rw [beq_eq_false_iff_ne]; exact n3
    generalize (⟨t.toArray⟩ : ByteArray) = T at C n3 n4
    clear ht
    go_enter Tryz.func24, Tryz.ntmps24
    go_wp2_with fail
    refine (C.out _).mono ?_; rintro e w1 ⟨rfl, rfl⟩
    go_wp2_with fail
    go_ret2
    exact ⟨rfl, rfl⟩
end Go.Proofs.YtjggjkeopbcmoaaGreatDoor
set_option linter.unusedVariables false
set_option linter.unusedSimpArgs false
namespace Go.Proofs.YtjggjkeopbcmoaaGreatDoor.Cal
def lp (y : Int) : Int := if y % 4 = 0 ∧ (y % 100 ≠ 0 ∨ y % 400 = 0) then 1 else 0
def len (y m : Int) : Int := if m = 1 ∨ m = 3 ∨ m = 5 ∨ m = 7 ∨ m = 8 ∨ m = 10 ∨ m = 12 then 31 else if m = 4 ∨ m = 6 ∨ m = 9 ∨ m = 11 then 30 else if m = 2 then 28 + lp y else 0
def ahead (y : Int) : Int := 365 * (y - 1970) + ((y-1)/4 - (y-1)/100 + (y-1)/400) - 477
def cum (y m : Int) : Int := if m ≤ 1 then 0 else if m = 2 then 31 else (if m = 3 then 59 else if m = 4 then 90 else if m = 5 then 120 else if m = 6 then 151 else if m = 7 then 181 else if m = 8 then 212 else if m = 9 then 243 else if m = 10 then 273 else if m = 11 then 304 else if m = 12 then 334 else 365) + lp y
def num (y m d : Int) : Int := ahead y + cum y m + d - 1
structure Right (y m d : Int) : Prop where
 y0 : -40000 ≤ y
 y1 : y ≤ 40000
 d0 : 1 ≤ d
 d1 : d ≤ len y m
theorem lp_01 (y : Int) : 0 ≤ lp y ∧ lp y ≤ 1 := by unfold lp; split <;> omega
theorem ahead_succ (y : Int) : ahead (y + 1) = ahead y + 365 + lp y := by
 unfold ahead lp; split <;> omega
theorem month_of {y m d : Int} (h : Right y m d) : 1 ≤ m ∧ m ≤ 12 := by
 obtain ⟨_, _, h0, h1⟩ := h
 unfold len at h1; have := lp_01 y; omega
theorem twelve {m : Int} (h1 : 1 ≤ m) (h2 : m ≤ 12) : m = 1 ∨ m = 2 ∨ m = 3 ∨ m = 4 ∨ m = 5 ∨ m = 6 ∨ m = 7 ∨ m = 8 ∨ m = 9 ∨ m = 10 ∨ m = 11 ∨ m = 12 := by omega
theorem cum_bd (y m : Int) (h1 : 1 ≤ m) (h2 : m ≤ 12) : 0 ≤ cum y m ∧ cum y m + len y m ≤ 365 + lp y := by
 have := lp_01 y
 rcases twelve h1 h2 with rfl | rfl | rfl | rfl | rfl | rfl | rfl | rfl | rfl | rfl | rfl | rfl <;> simp [cum, len] <;> omega
theorem num_bd {y m d : Int} (h : Right y m d) : ahead y ≤ num y m d ∧ num y m d < ahead (y + 1) := by
 obtain ⟨a, b⟩ := month_of h
 have c := cum_bd y m a b
 rw [ahead_succ]; unfold num
 have := h.d0; have := h.d1
 omega
/-! ### as the code reckons -/
end Go.Proofs.YtjggjkeopbcmoaaGreatDoor.Cal
set_option linter.unusedVariables false
set_option linter.unusedSimpArgs false
namespace Go.Proofs.YtjggjkeopbcmoaaGreatDoor
open Go.RowKit
def lpB (y : Int) : Bool := decide (Cal.lp y = 1)
theorem tz (y k : Int) : y.tmod k = 0 ↔ y % k = 0 := by
 rw [← Int.dvd_iff_tmod_eq_zero, ← Int.dvd_iff_emod_eq_zero]
theorem tmod_zero (y k : Int) : (y.tmod k == 0) = (y % k == 0) := by
 rw [Bool.eq_iff_iff]; simp [← Int.dvd_iff_tmod_eq_zero, ← Int.dvd_iff_emod_eq_zero]
theorem lpB_eq (y : Int) : lpB y = (y % 4 == 0 && (y % 100 != 0 || y % 400 == 0)) := by
 unfold lpB Cal.lp
 rw [Bool.eq_iff_iff]; simp
theorem lp_true {y : Int} (h : lpB y = true) : Cal.lp y = 1 := by simpa [lpB] using h
theorem lp_false {y : Int} (h : lpB y = false) : Cal.lp y = 0 := by
 have := Cal.lp_01 y; have : ¬ Cal.lp y = 1 := by simpa [lpB] using h
 omega
set_option maxHeartbeats 400000 in
theorem leap_any (y : Int) (w : World) :
  Calls Tryz.prog 126 #[.int .i64 y] w fun e w' => e = .returned (.bool (lpB y)) ∧ w = w' := by
 have t4 := tmod_zero y 4
 have t100 := tmod_zero y 100
 have t400 := tmod_zero y 400
 go_enter Tryz.func126, Tryz.ntmps126
 go_wp2
 all_goals go_ret
 all_goals (refine ⟨?_, rfl⟩; rw [lpB_eq])
 ·
  have h4 : y % 4 = 0 := by assumption
  have h100 : y % 100 = 0 := (tz y 100).1 (by assumption)
  simp [h4, h100]
 ·
  have h4 : y % 4 = 0 := by assumption
  have h100 : ¬ y % 100 = 0 := fun h => absurd ((tz y 100).2 h) (by assumption)
  simp [h4, h100]
 ·
  have h4 : ¬ y % 4 = 0 := by assumption
  simp [h4]
set_option maxHeartbeats 400000 in
theorem len_any (y m : Int) (w : World) :
  Calls Tryz.prog 87 #[.int .i64 y, .int .i64 m] w fun e w' => e = .returned (.int .i64 (Cal.len y m)) ∧ w = w' := by
 by_cases h2 : m = 2
 ·
  subst h2
  have hl : Cal.len y 2 = 28 + Cal.lp y := by simp [Cal.len]
  rw [hl]; clear hl
  go_enter Tryz.func87, Tryz.ntmps87
  go_wp2_with (go_at_call 126; refine (leap_any _ _).mono ?_; rintro e w' ⟨rfl, rfl⟩)
  ·
   have h : lpB y = true := by assumption
   go_ret; exact ⟨ret_int (by have := lp_true h; omega), rfl⟩
  ·
   have h : lpB y = false := by simp_all
   go_ret; exact ⟨ret_int (by have := lp_false h; omega), rfl⟩
 ·
  by_cases h : m = 1 ∨ m = 3 ∨ m = 4 ∨ m = 5 ∨ m = 6 ∨ m = 7 ∨ m = 8 ∨ m = 9 ∨ m = 10 ∨ m = 11 ∨ m = 12
  ·
   rcases h with rfl | rfl | rfl | rfl | rfl | rfl | rfl | rfl | rfl | rfl | rfl
   all_goals
    go_enter Tryz.func87, Tryz.ntmps87
    go_wp2
    go_ret; exact ⟨rfl, rfl⟩
  ·
   have hl : Cal.len y m = 0 := by unfold Cal.len; rw [if_neg (by omega), if_neg (by omega), if_neg h2]
   rw [hl]; clear hl
   have b1 : ¬ m = 1 := by omega
   have b3 : ¬ m = 3 := by omega
   have b4 : ¬ m = 4 := by omega
   have b5 : ¬ m = 5 := by omega
   have b6 : ¬ m = 6 := by omega
   have b7 : ¬ m = 7 := by omega
   have b8 : ¬ m = 8 := by omega
   have b9 : ¬ m = 9 := by omega
   have b10 : ¬ m = 10 := by omega
   have b11 : ¬ m = 11 := by omega
   have b12 : ¬ m = 12 := by omega
   clear h
   go_enter Tryz.func87, Tryz.ntmps87
   go_wp2
   go_ret; exact ⟨rfl, rfl⟩
end Go.Proofs.YtjggjkeopbcmoaaGreatDoor
set_option linter.unusedVariables false
set_option linter.unusedSimpArgs false
namespace Go.Proofs.YtjggjkeopbcmoaaGreatDoor.Dr
open Go.Proofs.YtjggjkeopbcmoaaGreatDoor
def dayB (d : Int) : Bool := decide (1 ≤ d ∧ d ≤ 31)
def wkB (k : Int) : Bool := decide (0 ≤ k ∧ k ≤ 6)
def onR (k w d : Int) : Bool := decide ((k = 0 ∧ w = 0 ∧ 1 ≤ d ∧ d ≤ 31) ∨ (k = 1 ∧ 0 ≤ w ∧ w ≤ 6 ∧ d = 0) ∨ ((k = 2 ∨ k = 3) ∧ 0 ≤ w ∧ w ≤ 6 ∧ 1 ≤ d ∧ d ≤ 31))
theorem onR_true {k w d : Int} : onR k w d = true ↔ ((k = 0 ∧ w = 0 ∧ 1 ≤ d ∧ d ≤ 31) ∨ (k = 1 ∧ 0 ≤ w ∧ w ≤ 6 ∧ d = 0) ∨ ((k = 2 ∨ k = 3) ∧ 0 ≤ w ∧ w ≤ 6 ∧ 1 ≤ d ∧ d ≤ 31)) := by unfold onR; simp
def onF (k w d m : Int) : Bool := onR k w d && decide (1 ≤ m ∧ m ≤ 12 ∧ d ≤ Cal.len 2001 m)
theorem onF_true {k w d m : Int} : onF k w d m = true ↔ onR k w d = true ∧ 1 ≤ m ∧ m ≤ 12 ∧ d ≤ Cal.len 2001 m := by unfold onF; simp
theorem len_2001 (y m : Int) (h1 : 1 ≤ m) (h2 : m ≤ 12) : Cal.len 2001 m ≤ Cal.len y m ∧ Cal.len y m ≤ Cal.len 2000 m ∧ 28 ≤ Cal.len 2001 m ∧ Cal.len 2000 m ≤ 31 ∧ Cal.len 2000 m ≤ Cal.len 2001 m + 1 := by
 have := Cal.lp_01 y
 have a : Cal.lp 2001 = 0 := by decide
 have b : Cal.lp 2000 = 1 := by decide
 rcases Cal.twelve h1 h2 with rfl | rfl | rfl | rfl | rfl | rfl | rfl | rfl | rfl | rfl | rfl | rfl <;> simp [Cal.len, a, b] <;> omega
def base (k d y m : Int) : Int := if k = 1 then Cal.len y m else d
end Go.Proofs.YtjggjkeopbcmoaaGreatDoor.Dr
set_option linter.unusedVariables false
set_option linter.unusedSimpArgs false
namespace Go.Proofs.YtjggjkeopbcmoaaGreatDoor
open Go.RowKit
structure One (w W : World) (b : Nat) (v0 v1 v2 : Value) : Prop where
 bel : Below w.heap.size w W
 hb : b < W.heap.size
 k0 : W.cell? ⟨b, 0, none⟩ = some v0
 k1 : W.cell? ⟨b, 1, none⟩ = some v1
 k2 : W.cell? ⟨b, 2, none⟩ = some v2
theorem One.keep {w W W' : World} {b : Nat} {v0 v1 v2 : Value} (h : One w W b v0 v1 v2) (k : Below W.heap.size W W') : One w W' b v0 v1 v2 := by
 obtain ⟨hw, hb, h0, h1, h2⟩ := h
 have z := k.size
 refine ⟨below_step hw k, by omega, ?_, ?_, ?_⟩ <;> (rw [k.cell (p := ⟨b, _, none⟩) (by show b < _; omega)]; assumption)
theorem One.alloc {w W : World} {b : Nat} {v0 v1 v2 : Value} (h : One w W b v0 v1 v2) (o : Obj) : One w (W.alloc o) b v0 v1 v2 :=
 h.keep ((Below.refl _ _).alloc (Nat.le_refl _) _)
theorem One.draw {w W : World} {b : Nat} {v0 v1 v2 : Value} (h : One w W b v0 v1 v2) (n : Nat) : One w (W.drewN n) b v0 v1 v2 :=
 h.keep (below_draw _ _)
theorem One.new {w W : World} {v0 v1 v2 : Value} {t : TypeId} (h : Below w.heap.size w W) : One w (W.alloc (.cells #[v0, v1, v2] t)) W.heap.size v0 v1 v2 :=
 ⟨below_step h ((Below.refl _ _).alloc (Nat.le_refl _) _), by simp, by simp [go_sem], by simp [go_sem], by simp [go_sem]⟩
structure Two2 (w W : World) (b c : Nat) (v0 v1 v2 u0 u1 u2 : Value) : Prop where
 bel : Below w.heap.size w W
 hb : b < W.heap.size
 hc : c < W.heap.size
 k0 : W.cell? ⟨b, 0, none⟩ = some v0
 k1 : W.cell? ⟨b, 1, none⟩ = some v1
 k2 : W.cell? ⟨b, 2, none⟩ = some v2
 g0 : W.cell? ⟨c, 0, none⟩ = some u0
 g1 : W.cell? ⟨c, 1, none⟩ = some u1
 g2 : W.cell? ⟨c, 2, none⟩ = some u2
theorem Two2.keep {w W W' : World} {b c : Nat} {v0 v1 v2 u0 u1 u2 : Value} (h : Two2 w W b c v0 v1 v2 u0 u1 u2) (k : Below W.heap.size W W') : Two2 w W' b c v0 v1 v2 u0 u1 u2 := by
 obtain ⟨hw, hb, hc, h0, h1, h2, g0, g1, g2⟩ := h
 have z := k.size
 refine ⟨below_step hw k, by omega, by omega, ?_, ?_, ?_, ?_, ?_, ?_⟩ <;> (first | rw [k.cell (p := ⟨b, _, none⟩) (by show b < _; omega)]; assumption | rw [k.cell (p := ⟨c, _, none⟩) (by show c < _; omega)]; assumption)
theorem bool_br {p : Prop} [Decidable p] {b : Bool} (h : p ↔ b = true) : Ending.returned (.bool b) = .returned (.bool (decide p)) := by
 congr 2; rw [Bool.eq_iff_iff]; simp [h]
set_option maxHeartbeats 400000 in
theorem isDay_any (d : Int) (w : World) : Calls Tryz.prog 89 #[.int .i64 d] w fun e w' => e = .returned (.bool (Dr.dayB d)) ∧ w = w' := by
 unfold Dr.dayB
 by_cases h1 : 1 ≤ d
 ·
  go_enter Tryz.func89, Tryz.ntmps89
  go_wp2
  go_ret
  refine ⟨?_, rfl⟩; exact bool_br (by simp [h1])
 ·
  have hd : decide (1 ≤ d) = false := by simpa using h1
  go_enter Tryz.func89, Tryz.ntmps89
  go_wp2
  go_ret
  refine ⟨?_, rfl⟩
  rfl
set_option maxHeartbeats 400000 in
theorem isWeek_any (d : Int) (w : World) : Calls Tryz.prog 90 #[.int .i64 d] w fun e w' => e = .returned (.bool (Dr.wkB d)) ∧ w = w' := by
 unfold Dr.wkB
 by_cases h1 : 0 ≤ d
 ·
  go_enter Tryz.func90, Tryz.ntmps90
  go_wp2
  go_ret
  refine ⟨?_, rfl⟩; exact bool_br (by simp [h1]; omega)
 ·
  have hd : decide (0 ≤ d) = false := by simpa using h1
  go_enter Tryz.func90, Tryz.ntmps90
  go_wp2
  go_ret
  refine ⟨?_, rfl⟩
  rfl
theorem on_br {k w d : Int} {b : Bool} (h : (Dr.onR k w d = true) ↔ b = true) : Ending.returned (.bool b) = .returned (.bool (Dr.onR k w d)) := by
 congr 2; rw [Bool.eq_iff_iff, h]
set_option maxHeartbeats 1000000 in
theorem oright_any (k wk d : Int) (w : World) :
  Calls Tryz.prog 53 #[.agg #[.int .i64 k, .int .i64 wk, .int .i64 d]] w fun e w' => e = .returned (.bool (Dr.onR k wk d)) ∧ Below w.heap.size w w' := by
 by_cases h0 : k = 0
 ·
  subst h0
  by_cases hw : wk = 0
  ·
   subst hw
   go_enter Tryz.func53, Tryz.ntmps53
   go_wp2_with (first
    | (go_at_call 89; refine (isDay_any _ _).mono ?_; rintro e w1 ⟨rfl, rfl⟩)
    | (go_at_call 90; refine (isWeek_any _ _).mono ?_; rintro e w1 ⟨rfl, rfl⟩))
   go_ret
   refine ⟨?_, by go_grown⟩; exact on_br (by rw [Dr.onR_true]; simp [Dr.dayB])
  ·
   have hw' : (wk == 0) = false := by simpa using hw
   go_enter Tryz.func53, Tryz.ntmps53
   go_wp2_with (first
    | (go_at_call 89; refine (isDay_any _ _).mono ?_; rintro e w1 ⟨rfl, rfl⟩)
    | (go_at_call 90; refine (isWeek_any _ _).mono ?_; rintro e w1 ⟨rfl, rfl⟩))
   go_ret
   refine ⟨?_, by go_grown⟩; exact on_br (by rw [Dr.onR_true]; simp [hw])
 ·
  by_cases h1 : k = 1
  ·
   subst h1
   clear h0
   cases hw : Dr.wkB wk
   ·
    go_enter Tryz.func53, Tryz.ntmps53
    go_wp2_with (first
     | (go_at_call 89; refine (isDay_any _ _).mono ?_; rintro e w1 ⟨rfl, rfl⟩)
     | (go_at_call 90; refine (isWeek_any _ _).mono ?_; rintro e w1 ⟨rfl, rfl⟩))
    go_ret
    refine ⟨?_, by go_grown⟩; exact on_br (by rw [Dr.onR_true]; simp [Dr.wkB] at hw; simp; omega)
   ·
    go_enter Tryz.func53, Tryz.ntmps53
    go_wp2_with (first
     | (go_at_call 89; refine (isDay_any _ _).mono ?_; rintro e w1 ⟨rfl, rfl⟩)
     | (go_at_call 90; refine (isWeek_any _ _).mono ?_; rintro e w1 ⟨rfl, rfl⟩))
    go_ret
    refine ⟨?_, by go_grown⟩; exact on_br (by rw [Dr.onR_true]; simp [Dr.wkB] at hw; simp; omega)
  ·
   by_cases h2 : k = 2 ∨ k = 3
   ·
    rcases h2 with rfl | rfl
    all_goals
     clear h0 h1
     cases hw : Dr.wkB wk
     ·
      go_enter Tryz.func53, Tryz.ntmps53
      go_wp2_with (first
       | (go_at_call 89; refine (isDay_any _ _).mono ?_; rintro e w1 ⟨rfl, rfl⟩)
       | (go_at_call 90; refine (isWeek_any _ _).mono ?_; rintro e w1 ⟨rfl, rfl⟩))
      go_ret
      refine ⟨?_, by go_grown⟩; exact on_br (by rw [Dr.onR_true]; simp [Dr.wkB] at hw; simp; omega)
     ·
      go_enter Tryz.func53, Tryz.ntmps53
      go_wp2_with (first
       | (go_at_call 89; refine (isDay_any _ _).mono ?_; rintro e w1 ⟨rfl, rfl⟩)
       | (go_at_call 90; refine (isWeek_any _ _).mono ?_; rintro e w1 ⟨rfl, rfl⟩))
      go_ret
      refine ⟨?_, by go_grown⟩; exact on_br (by rw [Dr.onR_true]; simp [Dr.wkB] at hw; simp [Dr.dayB]; omega)
   ·
    have b0 : (k == 0) = false := by simpa using h0
    have b1 : (k == 1) = false := by simpa using h1
    have b2 : (k == 2) = false := by simp; omega
    have b3 : (k == 3) = false := by simp; omega
    go_enter Tryz.func53, Tryz.ntmps53
    go_wp2
    go_ret
    refine ⟨?_, by go_grown⟩; exact on_br (by rw [Dr.onR_true]; simp; omega)
theorem fits_br {k wk d m : Int} {b : Bool} (h : (Dr.onF k wk d m = true) ↔ b = true) : Ending.returned (.bool b) = .returned (.bool (Dr.onF k wk d m)) := by
 congr 2; rw [Bool.eq_iff_iff, h]
set_option maxHeartbeats 1000000 in
theorem ofits_any (k wk d m : Int) (w : World) :
  Calls Tryz.prog 47 #[.agg #[.int .i64 k, .int .i64 wk, .int .i64 d], .int .i64 m] w fun e w' => e = .returned (.bool (Dr.onF k wk d m)) ∧ Below w.heap.size w w' := by
 have O0 := One.new (t := 23) (v0 := .int .i64 k) (v1 := .int .i64 wk) (v2 := .int .i64 d) (Below.refl w.heap.size w)
 have hlen : 0 < Cal.len 2001 m ↔ 1 ≤ m ∧ m ≤ 12 := by
  constructor
  ·
   intro h
   unfold Cal.len at h; omega
  ·
   intro h; have := (Dr.len_2001 2001 m h.1 h.2).2.2.1; omega
 have HL := Lib.hid hlen; clear hlen
 cases hr : Dr.onR k wk d
 ·
  go_enter Tryz.func47, Tryz.ntmps47
  go_wp2_with fail
  refine (len_any _ _ _).mono ?_; rintro e w1 ⟨rfl, rfl⟩
  go_wp2_with fail
  refine (oright_any _ _ _ _).mono ?_; rintro e w1 ⟨rfl, b1⟩
  rw [hr]
  go_wp2_with fail
  go_ret
  refine ⟨?_, below_step O0.bel b1⟩
  exact fits_br (by rw [Dr.onF_true]; simp [hr])
 ·
  go_enter Tryz.func47, Tryz.ntmps47
  go_wp2_with fail
  refine (len_any _ _ _).mono ?_; rintro e w1 ⟨rfl, rfl⟩
  go_wp2_with fail
  refine (oright_any _ _ _ _).mono ?_; rintro e w1 ⟨rfl, b1⟩
  rw [hr]
  have O1 := O0.keep b1
  have k2 := O1.k2
  by_cases hp : 0 < Cal.len 2001 m
  ·
   go_wp2_with fail
   go_ret
   refine ⟨?_, O1.bel⟩
   exact fits_br (by rw [Dr.onF_true]; have := HL.out.1 hp; simp [hr]; omega)
  ·
   have hp' : decide (0 < Cal.len 2001 m) = false := by simpa using hp
   go_wp2_with fail
   go_ret
   refine ⟨?_, O1.bel⟩
   exact fits_br (by rw [Dr.onF_true]; have := mt HL.out.2 (by omega); simp [hr]; omega)
namespace Cl
def rB (n b : Int) : Bool := decide (0 ≤ n) && (decide (n ≤ 172800) && (decide (0 ≤ b) && decide (b < 3)))
end Cl
set_option maxHeartbeats 4000000 in
set_option maxRecDepth 100000 in
theorem clright_0 (n b : Int) (w : World) (c1 : ¬ 0 ≤ n) : Calls Tryz.prog 48 #[.agg #[.int .i64 n, .int .i64 b]] w fun e w' => e = .returned (.bool false) ∧ Below w.heap.size w w' := by
 go_enter Tryz.func48, Tryz.ntmps48
 go_wp2_with fail
 go_ret
 exact ⟨rfl, gr0⟩
set_option maxHeartbeats 4000000 in
set_option maxRecDepth 100000 in
theorem clright_1 (n b : Int) (w : World) (c1 : 0 ≤ n) (c2 : ¬ n ≤ 172800) : Calls Tryz.prog 48 #[.agg #[.int .i64 n, .int .i64 b]] w fun e w' => e = .returned (.bool false) ∧ Below w.heap.size w w' := by
 go_enter Tryz.func48, Tryz.ntmps48
 go_wp2_with fail
 go_ret
 exact ⟨rfl, gr0⟩
set_option maxHeartbeats 4000000 in
set_option maxRecDepth 100000 in
theorem clright_2 (n b : Int) (w : World) (c1 : 0 ≤ n) (c2 : n ≤ 172800) (c3 : ¬ 0 ≤ b) : Calls Tryz.prog 48 #[.agg #[.int .i64 n, .int .i64 b]] w fun e w' => e = .returned (.bool false) ∧ Below w.heap.size w w' := by
 go_enter Tryz.func48, Tryz.ntmps48
 go_wp2_with fail
 go_ret
 exact ⟨rfl, gr0⟩
set_option maxHeartbeats 4000000 in
set_option maxRecDepth 100000 in
theorem clright_3 (n b : Int) (w : World) (c1 : 0 ≤ n) (c2 : n ≤ 172800) (c3 : 0 ≤ b) (c4 : ¬ b < 3) : Calls Tryz.prog 48 #[.agg #[.int .i64 n, .int .i64 b]] w fun e w' => e = .returned (.bool false) ∧ Below w.heap.size w w' := by
 go_enter Tryz.func48, Tryz.ntmps48
 go_wp2_with fail
 go_ret
 exact ⟨rfl, gr0⟩
set_option maxHeartbeats 4000000 in
set_option maxRecDepth 100000 in
theorem clright_4 (n b : Int) (w : World) (c1 : 0 ≤ n) (c2 : n ≤ 172800) (c3 : 0 ≤ b) (c4 : b < 3) : Calls Tryz.prog 48 #[.agg #[.int .i64 n, .int .i64 b]] w fun e w' => e = .returned (.bool true) ∧ Below w.heap.size w w' := by
 go_enter Tryz.func48, Tryz.ntmps48
 go_wp2_with fail
 go_ret
 exact ⟨rfl, gr0⟩
theorem clright_any (n b : Int) (w : World) : Calls Tryz.prog 48 #[.agg #[.int .i64 n, .int .i64 b]] w fun e w' => e = .returned (.bool (Cl.rB n b)) ∧ Below w.heap.size w w' := by
 by_cases c1 : 0 ≤ n
 ·
  by_cases c2 : n ≤ 172800
  ·
   by_cases c3 : 0 ≤ b
   ·
    by_cases c4 : b < 3
    ·
     rw [show Cl.rB n b = true by unfold Cl.rB; simp [c1, c2, c3, c4]]; exact clright_4 n b w c1 c2 c3 c4
    ·
     rw [show Cl.rB n b = false by unfold Cl.rB; simp [c1, c2, c3, c4]]; exact clright_3 n b w c1 c2 c3 c4
   ·
    rw [show Cl.rB n b = false by unfold Cl.rB; simp [c1, c2, c3]]; exact clright_2 n b w c1 c2 c3
  ·
   rw [show Cl.rB n b = false by unfold Cl.rB; simp [c1, c2]]; exact clright_1 n b w c1 c2
 ·
  rw [show Cl.rB n b = false by unfold Cl.rB; simp [c1]]; exact clright_0 n b w c1
end Go.Proofs.YtjggjkeopbcmoaaGreatDoor
