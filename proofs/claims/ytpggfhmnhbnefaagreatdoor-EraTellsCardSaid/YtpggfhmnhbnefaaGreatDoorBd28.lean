/- Joined: FpA1, FpM, FpC. -/
import Derived.Test.YtpggfhmnhbnefaaGreatDoorBd20
import Derived.Test.YtpggfhmnhbnefaaGreatDoorBd04
import Derived.Shelf.Strings.Replace
import Derived.Shelf.Strings.Cut
set_option linter.unusedVariables false
set_option linter.unusedSimpArgs false
namespace Go.Proofs.YtpggfhmnhbnefaaGreatDoor
open Go.RowKit
set_option maxHeartbeats 4000000 in
theorem rfind_any (s : ByteArray) (c : UInt8) (w : World) (hs : s.size ≤ 100000) :
  Calls Tryz.prog 120 #[.string s, .int .u8 c.toNat] w fun e w' => e = .returned (.int .i64 (Fp.fr c (-1) s.data.toList 0)) ∧ w = w' := by
 obtain ⟨ans, hans⟩ : ∃ ans, ans = Fp.fr c (-1) s.data.toList 0 := ⟨_, rfl⟩
 rw [← hans]
 have HA := Lib.hid hans; clear hans
 have hc := c.toNat_lt
 go_enter Tryz.func120, Tryz.ntmps120
 go_wp2_with fail
 go_loopw [5, 6] (fun a i wr => ∃ (k : Nat) (at_ : Int), k ≤ s.size ∧ -1 ≤ at_ ∧ at_ ≤ 100000 ∧ i = .int .i64 k ∧ a = .int .i64 at_ ∧ Hid (Fp.fr c at_ (s.data.toList.drop k) (k : Int) = ans) ∧ wr = w) (fun _ i _ => s.size - (intOf i).toNat)
 case atStart => exact ⟨0, -1, Nat.zero_le _, by omega, by omega, rfl, rfl, HA.out.symm, rfl⟩
 case round =>
  obtain ⟨k, at_, hk, t0, t1, rfl, rfl, hr, hw⟩ := hrel
  obtain rfl : w = wr := hw.symm
  by_cases hlt : k < s.size
  ·
   have IX := fun W => rn_ix s k hlt W
   have hn := hr.out
   rw [ab_drop s k hlt] at hn
   unfold Fp.fr at hn
   by_cases he : s[k] = c
   ·
    rw [if_pos he] at hn
    rw [he] at IX
    by_cases ha : 0 ≤ at_
    ·
     rw [if_pos ha] at hn
     have HN := Lib.hid hn
     clear hn hr HA he
     generalize (c.toNat : Int) = cc at IX
     go_wp2_with fail
     go_ret
     exact ⟨by rw [← HN.out]; rfl, rfl⟩
    ·
     rw [if_neg ha] at hn
     have HN := Lib.hid (show Fp.fr c (k : Int) (s.data.toList.drop (k + 1)) ((k + 1 : Nat) : Int) = ans from hn)
     clear hn hr HA he
     generalize (c.toNat : Int) = cc at IX
     go_wp2_with fail
     go_roundw
     case rel => exact ⟨k + 1, (k : Int), by omega, by omega, by omega, by go_num, rfl, HN, by first | rfl | trivial⟩
     case measure => simp [intOf]; omega
   ·
    rw [if_neg he] at hn
    have HN := Lib.hid (show Fp.fr c at_ (s.data.toList.drop (k + 1)) ((k + 1 : Nat) : Int) = ans from hn)
    have g : ((s[k].toNat : Int) == (c.toNat : Int)) = false := by
     rw [beq_eq_false_iff_ne]; intro h; exact he (UInt8.toNat_inj.1 (by omega))
    clear hn hr HA he
    generalize (s[k].toNat : Int) = cs at IX g
    go_wp2_with fail
    go_roundw
    case rel => exact ⟨k + 1, at_, by omega, by omega, by omega, by go_num, rfl, HN, by first | rfl | trivial⟩
    case measure => simp [intOf]; omega
  ·
   have hn := hr.out
   rw [List.drop_of_length_le (by rw [ab_len]; omega)] at hn
   have HN := Lib.hid (show at_ = ans from hn)
   clear hn hr HA
   go_wp2_with fail
   go_ret
   exact ⟨by rw [HN.out]; rfl, rfl⟩
end Go.Proofs.YtpggfhmnhbnefaaGreatDoor
set_option linter.unusedVariables false
set_option linter.unusedSimpArgs false
namespace Go.Proofs.YtpggfhmnhbnefaaGreatDoor
open Go Go.Lib
namespace Fp
theorem fr_ge (c : UInt8) : ∀ (l : List UInt8) (at_ k : Int), 0 ≤ at_ → fr c at_ l k = if l.count c = 0 then at_ else -2
 | [], at_, k, h => by rw [if_pos (by simp)]; rfl
 | b :: t, at_, k, h => by
  unfold fr
  by_cases e : b = c
  ·
   rw [if_pos e, if_pos h, if_neg (by rw [e, List.count_cons_self]; omega)]
  ·
   rw [if_neg e, fr_ge c t at_ (k + 1) h, List.count_cons_of_ne (by simpa using e)]
theorem fr_cases (c : UInt8) : ∀ (l : List UInt8) (k : Int), 0 ≤ k → (l.count c = 0 ∧ fr c (-1) l k = -1) ∨ (∃ a b, l = a ++ c :: b ∧ l.count c = 1 ∧ a.count c = 0 ∧ b.count c = 0 ∧ fr c (-1) l k = k + a.length) ∨ (2 ≤ l.count c ∧ fr c (-1) l k = -2)
 | [], k, h => .inl ⟨by simp, rfl⟩
 | x :: t, k, h => by
  by_cases e : x = c
  ·
   subst e
   have hf : fr x (-1) (x :: t) k = if t.count x = 0 then k else -2 := by
    conv => lhs; unfold fr
    rw [if_pos rfl, if_neg (by omega), fr_ge x t k (k + 1) h]
   rw [hf, List.count_cons_self]
   by_cases h0 : t.count x = 0
   ·
    right; left
    exact ⟨[], t, rfl, by omega, by simp, h0, by rw [if_pos h0]; simp⟩
   ·
    right; right
    exact ⟨by omega, if_neg h0⟩
  ·
   have hf : fr c (-1) (x :: t) k = fr c (-1) t (k + 1) := by
    conv => lhs; unfold fr
    rw [if_neg e]
   have hc : (x :: t).count c = t.count c := List.count_cons_of_ne (by simpa using e)
   rw [hf, hc]
   rcases fr_cases c t (k + 1) (by omega) with h1 | ⟨a, b, h1, h2, h3, h4, h5⟩ | h1
   ·
    exact .inl h1
   ·
    refine .inr (.inl ⟨x :: a, b, by rw [h1]; rfl, h2, ?_, h4, ?_⟩)
    ·
     rw [List.count_cons_of_ne (by simpa using e)]; exact h3
    ·
     rw [h5, List.length_cons]; omega
   ·
    exact .inr (.inr h1)
theorem pre_s (c : UInt8) (l : List UInt8) : ([37, 115] : List UInt8).isPrefixOf (c :: l) = ((37 == c) && (l.head? == some 115)) := by
 rw [List.isPrefixOf]
 congr 1
 cases l with
 | nil => rfl
 | cons d l =>
  rw [List.isPrefixOf, List.isPrefixOf, Bool.and_true]
  show (115 == d) = (some d == some 115)
  rw [Bool.eq_iff_iff, beq_iff_eq, beq_iff_eq]
  exact ⟨fun h => by rw [h], fun h => (Option.some.inj h).symm⟩
theorem ixs_none : ∀ l : List UInt8, l.count 37 = 0 → index l [37, 115] = -1 := by
 intro l
 induction l with
 | nil => intro _; rfl
 | cons c l ih =>
  intro h
  have hc : c ≠ 37 := fun e => by rw [e, List.count_cons_self] at h; omega
  have h1 : (37 == c) = false := by rw [beq_eq_false_iff_ne]; exact fun e => hc e.symm
  rw [List.count_cons_of_ne (by simpa using hc)] at h
  unfold index
  rw [pre_s, h1, ih h]
  rfl
theorem ixs_at : ∀ (a b : List UInt8), a.count 37 = 0 → b.count 37 = 0 → index (a ++ 37 :: b) [37, 115] = if b.head? = some 115 then (a.length : Int) else -1 := by
 intro a
 induction a with
 | nil =>
  intro b _ hb
  rw [List.nil_append]
  unfold index
  rw [pre_s, ixs_none b hb]
  by_cases h : b.head? = some 115
  ·
   rw [if_pos h, h]; rfl
  ·
   rw [if_neg h]
   have : (b.head? == some 115) = false := by rw [beq_eq_false_iff_ne]; exact h
   rw [this]; rfl
 | cons c a ih =>
  intro b ha hb
  have hc : c ≠ 37 := fun e => by rw [e, List.count_cons_self] at ha; omega
  have h1 : (37 == c) = false := by rw [beq_eq_false_iff_ne]; exact fun e => hc e.symm
  rw [List.count_cons_of_ne (by simpa using hc)] at ha
  rw [List.cons_append]
  unfold index
  rw [pre_s, h1, ih b ha hb]
  by_cases h : b.head? = some 115
  ·
   have h3 : ((a.length : Int) == -1) = false := by rw [beq_eq_false_iff_ne]; omega
   rw [if_pos h, if_pos h, h3]; simp
  ·
   rw [if_neg h, if_neg h]; rfl
theorem ix47 : ∀ (a b : List UInt8), a.count 47 = 0 → index (a ++ 47 :: b) [47] = (a.length : Int) := by
 intro a
 have pre : ∀ (c : UInt8) (l : List UInt8), ([47] : List UInt8).isPrefixOf (c :: l) = (47 == c) := fun c l => by rw [List.isPrefixOf, List.isPrefixOf, Bool.and_true]
 induction a with
 | nil => intro b _; rw [List.nil_append]; unfold index; rw [pre]; rfl
 | cons c a ih =>
  intro b ha
  have hc : c ≠ 47 := fun e => by rw [e, List.count_cons_self] at ha; omega
  have h1 : (47 == c) = false := by rw [beq_eq_false_iff_ne]; exact fun e => hc e.symm
  rw [List.count_cons_of_ne (by simpa using hc)] at ha
  have h3 : ((a.length : Int) == -1) = false := by rw [beq_eq_false_iff_ne]; omega
  rw [List.cons_append]
  unfold index
  rw [pre, h1, ih b ha, h3]
  simp
theorem pre47 (a b : List UInt8) (ha : a.count 47 = 0) : hasPrefix (a ++ 47 :: b) [47] = decide (a = []) := by
 cases a with
 | nil => simp [hasPrefix, List.isPrefixOf]
 | cons c a =>
  have hc : c ≠ 47 := fun e => by rw [e, List.count_cons_self] at ha; omega
  have h1 : (47 == c) = false := by rw [beq_eq_false_iff_ne]; exact fun e => hc e.symm
  unfold hasPrefix
  rw [List.cons_append, List.isPrefixOf, h1]; simp
theorem suf47 (a b : List UInt8) (hb : b.count 47 = 0) : hasSuffix (a ++ 47 :: b) [47] = decide (b = []) := by
 unfold hasSuffix
 rw [Bool.eq_iff_iff, List.isSuffixOf_iff_suffix, decide_eq_true_eq]
 constructor
 ·
  rintro ⟨t, ht⟩
  rcases List.eq_nil_or_concat b with h | ⟨b', x, h⟩
  ·
   exact h
  ·
   exfalso
   have := congrArg List.getLast? ht
   rw [h, List.concat_eq_append] at this hb
   rw [show a ++ 47 :: (b' ++ [x]) = (a ++ 47 :: b') ++ [x] by simp, List.getLast?_concat, List.getLast?_concat] at this
   have := Option.some.inj this
   rw [← this] at hb
   simp at hb
 ·
  rintro rfl
  exact ⟨a, rfl⟩
theorem rep (a t L : List UInt8) (ha : a.count 37 = 0) (ht : t.count 37 = 0) : Lib.replace (a ++ 37 :: 115 :: t) [37, 115] L 1 = a ++ L ++ t := by
 have hi : index (a ++ 37 :: 115 :: t) [37, 115] = (a.length : Int) := by
  rw [ixs_at a (115 :: t) ha (by rw [List.count_cons_of_ne (by decide)]; exact ht)]; exact if_pos rfl
 unfold Lib.replace
 by_cases h : (([37, 115] : List UInt8) == L) = true
 ·
  rw [if_pos h, ← (beq_iff_eq.1 h)]; simp
 ·
  rw [if_neg h]
  have hn : replaceNum (a ++ 37 :: 115 :: t) [37, 115] 1 = 1 := by
   unfold replaceNum
   have hc : 1 ≤ Lib.count (a ++ 37 :: 115 :: t) [37, 115] := by
    have h3 : ((a.length : Int) == -1) = false := by rw [beq_eq_false_iff_ne]; omega
    unfold Lib.count countFrom
    rw [hi, h3]
    simp
   rw [if_neg (by omega)]; rfl
  rw [hn, replaceK_hit _ _ 0 _ a.length hi]
  simp [replaceK]
theorem made_ok {l : List UInt8} (hall : Fo.mdA [43, 45, 37, 47] l = true) (hn : l ≠ []) : Fo.made [43, 45, 37, 47] l = true := by
 unfold Fo.made
 rw [hall]
 cases l with
 | nil => exact absurd rfl hn
 | cons _ _ => rfl
theorem kd_of {l : List UInt8} (h16 : ¬ 16 < l.length) (hall : Fo.mdA [43, 45, 37, 47] l = true) (hn : l ≠ []) : Fo.kd l =
  if l.count 37 = 0 ∧ l.count 47 = 0 then (0, 0)
  else if (l.count 37 = 1 ∧ l.count 47 = 0) ∧ Lib.contains l [37, 115] = true then (1, 0)
  else if (l == [37, 122]) = true then (2, 0)
  else if (l.count 37 = 0 ∧ l.count 47 = 1) ∧ Lib.hasPrefix l [47] = false ∧ Lib.hasSuffix l [47] = false then (3, 0) else (0, 4) := by
 unfold Fo.kd
 rw [if_neg h16, if_neg (by rw [made_ok hall hn]; decide)]
theorem ne_z {l : List UInt8} (h : l.count 37 ≠ 1 ∨ l.count 47 ≠ 0) : l ≠ [37, 122] := fun e => by
 rw [e] at h
 rcases h with h | h
 ·
  exact h (by decide)
 ·
  exact h (by decide)
theorem nz {l : List UInt8} (h : l ≠ [37, 122]) : ¬ (l == [37, 122]) = true := fun e => h (beq_iff_eq.1 e)
theorem cls (l : List UInt8) (h16 : ¬ 16 < l.length) (hall : Fo.mdA [43, 45, 37, 47] l = true) (p q : Int) (hp : p = fr 37 (-1) l 0) (hq : q = fr 47 (-1) l 0) :
  (l = [] ∧ p = -1 ∧ q = -1 ∧ Fo.kd l = (0, 4)) ∨
  (l ≠ [] ∧ p = -1 ∧ q = -1 ∧ l ≠ [37, 122] ∧ Fo.kd l = (0, 0)) ∨
  (p = -1 ∧ ∃ a b, l = a ++ 47 :: b ∧ q = a.length ∧ l ≠ [37, 122] ∧ ((a ≠ [] ∧ b ≠ [] ∧ Fo.kd l = (3, 0) ∧ Lib.cut l [47] = (a, b, true)) ∨ ((a = [] ∨ b = []) ∧ Fo.kd l = (0, 4)))) ∨
  (p = -1 ∧ q = -2 ∧ l ≠ [37, 122] ∧ Fo.kd l = (0, 4)) ∨
  (q = -1 ∧ ∃ a b, l = a ++ 37 :: b ∧ p = a.length ∧ ((∃ t, b = 115 :: t ∧ Fo.kd l = (1, 0) ∧ l ≠ [37, 122] ∧ ∀ L, Lib.replace l [37, 115] L 1 = a ++ L ++ t) ∨ (b.head? ≠ some 115 ∧ ((l = [37, 122] ∧ Fo.kd l = (2, 0)) ∨ (l ≠ [37, 122] ∧ Fo.kd l = (0, 4)))))) ∨
  ((∃ a b, l = a ++ 37 :: b ∧ p = a.length) ∧ q ≠ -1 ∧ l ≠ [37, 122] ∧ Fo.kd l = (0, 4)) ∨
  (p = -2 ∧ l ≠ [37, 122] ∧ Fo.kd l = (0, 4)) := by
 by_cases hn : l = []
 ·
  subst hn; left; exact ⟨rfl, hp, hq, rfl⟩
 ·
  right
  have K := kd_of h16 hall hn
  rcases fr_cases 37 l 0 (by omega) with ⟨c1, f1⟩ | ⟨a, b, e1, c1, ca, cb, f1⟩ | ⟨c1, f1⟩
  ·
   rw [f1] at hp
   have Z := ne_z (l := l) (.inl (by omega))
   rcases fr_cases 47 l 0 (by omega) with ⟨c2, f2⟩ | ⟨a, b, e2, c2, ca, cb, f2⟩ | ⟨c2, f2⟩
   ·
    left
    rw [f2] at hq
    exact ⟨hn, hp, hq, Z, by rw [K, if_pos ⟨c1, c2⟩]⟩
   ·
    right; left
    rw [f2, Int.zero_add] at hq
    refine ⟨hp, a, b, e2, hq, Z, ?_⟩
    rw [if_neg (by omega), if_neg (fun h => by omega), if_neg (nz Z)] at K
    have P1 : Lib.hasPrefix l [47] = decide (a = []) := by rw [e2]; exact pre47 a b ca
    have S1 : Lib.hasSuffix l [47] = decide (b = []) := by rw [e2]; exact suf47 a b cb
    rw [P1, S1] at K
    by_cases ha : a = []
    ·
     right; exact ⟨.inl ha, by rw [K, if_neg (fun h => by have := of_decide_eq_false h.2.1; exact this ha)]⟩
    ·
     by_cases hb : b = []
     ·
      right; exact ⟨.inr hb, by rw [K, if_neg (fun h => by have := of_decide_eq_false h.2.2; exact this hb)]⟩
     ·
      left
      refine ⟨ha, hb, by rw [K, if_pos ⟨⟨c1, c2⟩, decide_eq_false ha, decide_eq_false hb⟩], ?_⟩
      unfold Lib.cut
      rw [e2, ix47 a b ca, if_pos (by omega)]
      simp
   ·
    right; right; left
    rw [f2] at hq
    exact ⟨hp, hq, Z, by rw [K, if_neg (by omega), if_neg (fun h => by omega), if_neg (nz Z), if_neg (fun h => by omega)]⟩
  ·
   right; right; right
   rw [f1, Int.zero_add] at hp
   rcases fr_cases 47 l 0 (by omega) with ⟨c2, f2⟩ | hrest
   ·
    left
    rw [f2] at hq
    refine ⟨hq, a, b, e1, hp, ?_⟩
    have C : Lib.contains l [37, 115] = decide (b.head? = some 115) := by
     unfold Lib.contains
     rw [e1, ixs_at a b ca cb]
     by_cases h : b.head? = some 115
     ·
      rw [if_pos h]; simp [h]
     ·
      rw [if_neg h]; simp [h]
    rw [C, if_neg (by omega)] at K
    by_cases h : b.head? = some 115
    ·
     left
     obtain ⟨t, ht⟩ : ∃ t, b = 115 :: t := by
      cases b with
      | nil => cases h
      | cons x t => exact ⟨t, by rw [Option.some.inj h]⟩
     rw [if_pos ⟨⟨c1, c2⟩, decide_eq_true h⟩] at K
     subst ht
     refine ⟨t, rfl, K, fun e => ?_, fun L => ?_⟩
     ·
      rw [e] at e1
      cases a with
      | nil => cases e1
      | cons x a =>
       have := congrArg List.length e1
       simp at this
       omega
     ·
      rw [e1]; exact rep a t L ca (by rw [List.count_cons_of_ne (by decide)] at cb; exact cb)
    ·
     right
     refine ⟨h, ?_⟩
     rw [if_neg (fun x => h (of_decide_eq_true x.2))] at K
     by_cases hz : l = [37, 122]
     ·
      left; exact ⟨hz, by rw [K, if_pos (beq_iff_eq.2 hz)]⟩
     ·
      right; exact ⟨hz, by rw [K, if_neg (nz hz), if_neg (fun h => by omega)]⟩
   ·
    right; left
    have c2 : l.count 47 ≠ 0 ∧ q ≠ -1 := by
     rcases hrest with ⟨a, b, -, c2, -, -, f2⟩ | ⟨c2, f2⟩
     ·
      exact ⟨by omega, by rw [hq, f2]; omega⟩
     ·
      exact ⟨by omega, by rw [hq, f2]; omega⟩
    have Z := ne_z (l := l) (.inr c2.1)
    exact ⟨⟨a, b, e1, hp⟩, c2.2, Z, by rw [K, if_neg (by omega), if_neg (fun h => by omega), if_neg (nz Z), if_neg (fun h => by omega)]⟩
  ·
   right; right; right; right; right
   rw [f1] at hp
   have Z := ne_z (l := l) (.inl (by omega))
   exact ⟨hp, Z, by rw [K, if_neg (by omega), if_neg (fun h => by omega), if_neg (nz Z), if_neg (fun h => by omega)]⟩
end Fp
end Go.Proofs.YtpggfhmnhbnefaaGreatDoor
set_option linter.unusedVariables false
set_option linter.unusedSimpArgs false
namespace Go.Proofs.YtpggfhmnhbnefaaGreatDoor
open Go.RowKit
namespace Fp
def ok4 (c : UInt8) : Bool := okB c || (c == 37 || c == 47)
theorem all4 (l : List UInt8) : l.all ok4 = Fo.mdA [43, 45, 37, 47] l := by
 unfold Fo.mdA
 congr 1
 funext c
 unfold ok4
 rw [okB_eq, Bool.or_assoc]
 congr 1
 simp only [List.contains_cons, List.contains_nil, Bool.or_false]
 cases (c == 43) <;> cases (c == 45) <;> cases (c == 37) <;> cases (c == 47) <;> rfl
end Fp
theorem bar_z {s : ByteArray} (h : s.data.toList ≠ [37, 122]) : ¬ s.toList = [37, 122] ∧ (s.toList == [37, 122]) = false := by
 have := bz_ne h
 exact ⟨this, by rw [beq_eq_false_iff_ne]; exact this⟩
set_option maxHeartbeats 8000000 in
set_option maxRecDepth 100000 in
theorem rcheck_any (s : ByteArray) (w : World) (hs : s.size ≤ 100000) :
  Calls Tryz.prog 66 #[.string s] w fun e w' => e = .returned (.int .i64 (Fo.kd s.data.toList).2) ∧ w = w' := by
 by_cases h16 : 16 < s.size
 ·
  have HK : (Fo.kd s.data.toList).2 = 9 := by unfold Fo.kd; rw [ab_len, if_pos h16]
  rw [HK]
  have h16' : 16 < (s.size : Int) := by omega
  clear HK h16
  go_enter Tryz.func66, Tryz.ntmps66
  go_wp2_with fail
  go_ret
  exact ⟨rfl, rfl⟩
 ·
  have h16' : ¬ 16 < (s.size : Int) := by omega
  have h16l : ¬ 16 < s.data.toList.length := by rw [ab_len]; exact h16
  have HM := Lib.hid (show Fo.mdA [43, 45, 37, 47] s.data.toList = false → (Fo.kd s.data.toList).2 = 4 from fun h => by
   unfold Fo.kd Fo.made
   rw [if_neg h16l, h, Bool.false_and, if_pos rfl])
  obtain ⟨p, hp⟩ : ∃ p, p = Fp.fr 37 (-1) s.data.toList 0 := ⟨_, rfl⟩
  obtain ⟨q, hq⟩ : ∃ q, q = Fp.fr 47 (-1) s.data.toList 0 := ⟨_, rfl⟩
  have CP : Hid (∀ W, Calls Tryz.prog 120 #[.string s, .int .u8 37] W fun e w' => e = .returned (.int .i64 p) ∧ W = w') := fun W => by rw [hp]; exact rfind_any s 37 W hs
  have CQ : Hid (∀ W, Calls Tryz.prog 120 #[.string s, .int .u8 47] W fun e w' => e = .returned (.int .i64 q) ∧ W = w') := fun W => by rw [hq]; exact rfind_any s 47 W hs
  have CLS := Lib.hid (fun hall => Fp.cls s.data.toList h16l hall p q hp hq)
  have HA := Lib.hid (Fp.all4 s.data.toList)
  clear h16 h16l hp hq
  go_enter Tryz.func66, Tryz.ntmps66
  go_wp2_with fail
  go_loopw [4] (fun i wr => ∃ k : Nat, k ≤ s.size ∧ i = .int .i64 k ∧ Hid ((s.data.toList.drop k).all Fp.ok4 = s.data.toList.all Fp.ok4) ∧ wr = w) (fun i _ => s.size - (intOf i).toNat)
  case atStart => exact ⟨0, Nat.zero_le _, rfl, Lib.hid rfl, rfl⟩
  case round =>
   obtain ⟨k, hk, rfl, hr, hw⟩ := hrel
   obtain rfl : w = wr := hw.symm
   by_cases hlt : k < s.size
   ·
    have IX := fun W => rn_ix s k hlt W
    have hn := hr.out
    rw [ab_drop s k hlt, List.all_cons] at hn
    have hc := s[k].toNat_lt
    have CL : Hid (∀ W, Calls Tryz.prog 96 #[.int .u8 (s[k].toNat : Int)] W fun e w' => e = .returned (.bool (Fp.okB s[k])) ∧ W = w') := fun W => rfletter_any _ W (by omega) (by omega)
    have hx : Fp.ok4 s[k] = (Fp.okB s[k] || (s[k] == 37 || s[k] == 47)) := rfl
    generalize Fp.okB s[k] = b1 at CL hx
    cases b1
    ·
     by_cases e3 : s[k] = 37
     ·
      have HN := Lib.hid (show (s.data.toList.drop (k + 1)).all Fp.ok4 = s.data.toList.all Fp.ok4 by rw [← hn, hx, e3]; rfl)
      rw [e3] at IX CL
      have IX : ∀ W, Sem.run Tryz.prog (Instr.index 9 (.string s) (.int .i64 (k : Int))) W = .ok (.int .u8 37) W := IX
      have CL : Hid (∀ W, Calls Tryz.prog 96 #[.int .u8 37] W fun e w' => e = .returned (.bool false) ∧ W = w') := CL
      clear hn hr hx e3 hc CP CQ
      go_wp2_with fail
      refine (CL.out _).mono ?_; rintro e w1 ⟨rfl, rfl⟩
      go_wp2_with fail
      go_roundw
      case rel => exact ⟨k + 1, by omega, by go_num, HN, by first | rfl | trivial⟩
      case measure => simp [intOf]; omega
     ·
      by_cases e4 : s[k] = 47
      ·
       have HN := Lib.hid (show (s.data.toList.drop (k + 1)).all Fp.ok4 = s.data.toList.all Fp.ok4 by rw [← hn, hx, e4]; rfl)
       rw [e4] at IX CL
       have IX : ∀ W, Sem.run Tryz.prog (Instr.index 9 (.string s) (.int .i64 (k : Int))) W = .ok (.int .u8 47) W := IX
       have CL : Hid (∀ W, Calls Tryz.prog 96 #[.int .u8 47] W fun e w' => e = .returned (.bool false) ∧ W = w') := CL
       clear hn hr hx e3 e4 hc CP CQ
       go_wp2_with fail
       refine (CL.out _).mono ?_; rintro e w1 ⟨rfl, rfl⟩
       go_wp2_with fail
       go_roundw
       case rel => exact ⟨k + 1, by omega, by go_num, HN, by first | rfl | trivial⟩
       case measure => simp [intOf]; omega
      ·
       have h3 : (s[k] == 37) = false := by rw [beq_eq_false_iff_ne]; exact e3
       have h4 : (s[k] == 47) = false := by rw [beq_eq_false_iff_ne]; exact e4
       have HN := Lib.hid (show (Fo.kd s.data.toList).2 = 4 from HM.out (by rw [← HA.out, ← hn, hx, h3, h4]; rfl))
       have g3 : ((s[k].toNat : Int) == 37) = false := by
        rw [beq_eq_false_iff_ne]; intro h; exact e3 (UInt8.toNat_inj.1 (by rw [show (37 : UInt8).toNat = 37 from rfl]; omega))
       have g4 : ((s[k].toNat : Int) == 47) = false := by
        rw [beq_eq_false_iff_ne]; intro h; exact e4 (UInt8.toNat_inj.1 (by rw [show (47 : UInt8).toNat = 47 from rfl]; omega))
       clear hn hr hx e3 e4 h3 h4 hc CP CQ
       generalize (s[k].toNat : Int) = cs at IX CL g3 g4
       have g3' : (cs != 37) = true := by unfold bne; rw [g3]; rfl
       have g4' : (cs != 47) = true := by unfold bne; rw [g4]; rfl
       go_wp2_with fail
       refine (CL.out _).mono ?_; rintro e w1 ⟨rfl, rfl⟩
       go_wp2_with fail
       go_ret
       exact ⟨by rw [HN.out]; rfl, rfl⟩
    ·
     have HN := Lib.hid (show (s.data.toList.drop (k + 1)).all Fp.ok4 = s.data.toList.all Fp.ok4 by rw [← hn, hx]; simp)
     clear hn hr hx CP CQ
     generalize (s[k].toNat : Int) = cs at IX CL
     go_wp2_with fail
     refine (CL.out _).mono ?_; rintro e w1 ⟨rfl, rfl⟩
     go_wp2_with fail
     go_roundw
     case rel => exact ⟨k + 1, by omega, by go_num, HN, by first | rfl | trivial⟩
     case measure => simp [intOf]; omega
   ·
    have hall : Fo.mdA [43, 45, 37, 47] s.data.toList = true := by rw [← HA.out, ← hr.out, List.drop_of_length_le (by rw [ab_len]; omega)]; rfl
    have H := CLS.out hall
    have hz : ∀ a (x : UInt8) b, s.data.toList = a ++ x :: b → s.size = a.length + 1 + b.length := fun a x b h => by rw [← ab_len, h, List.length_append, List.length_cons]; omega
    clear CLS HM HA hr hall
    rcases H with ⟨e0, rfl, rfl, hk⟩ | ⟨e0, rfl, rfl, ez, hk⟩ | ⟨rfl, a, b, e1, e2, ez, h⟩ | ⟨rfl, rfl, ez, hk⟩ | ⟨rfl, a, b, e1, e2, h⟩ | ⟨⟨a, b, e1, e2⟩, q1, ez, hk⟩ | ⟨rfl, ez, hk⟩
    ·
     obtain rfl : s = ⟨#[]⟩ := bz_eq e0
     have HR := Lib.hid (congrArg Prod.snd hk)
     clear hk e0 hz
     go_wp2_with fail; refine (CP.out _).mono ?_; rintro e w1 ⟨rfl, rfl⟩; go_wp2_with fail; refine (CQ.out _).mono ?_; rintro e w1 ⟨rfl, rfl⟩; go_wp2_with fail; go_ret; exact ⟨by rw [HR.out]; rfl, rfl⟩
    ·
     have hpos : 0 < (s.size : Int) := by
      rw [← ab_len]
      have := List.length_pos_iff.2 e0
      omega
     have HR := Lib.hid (congrArg Prod.snd hk)
     clear hk e0 ez hz
     go_wp2_with fail; refine (CP.out _).mono ?_; rintro e w1 ⟨rfl, rfl⟩; go_wp2_with fail; refine (CQ.out _).mono ?_; rintro e w1 ⟨rfl, rfl⟩; go_wp2_with fail; go_ret; exact ⟨by rw [HR.out]; rfl, rfl⟩
    ·
     have z := hz a 47 b e1
     obtain ⟨n1, n2⟩ := bar_z ez
     have q0 : 0 ≤ q := by omega
     have qm : (q == -1) = false := by rw [beq_eq_false_iff_ne]; omega
     rcases h with ⟨ha, hb, hk, -⟩ | ⟨hab, hk⟩
     ·
      have la := List.length_pos_iff.2 ha
      have lb := List.length_pos_iff.2 hb
      have r1 : 0 < q := by clear qm; omega
      have r2 : q < (s.size : Int) - 1 := by clear qm; omega
      have hpos : 0 < (s.size : Int) := by clear qm; omega
      have HR := Lib.hid (congrArg Prod.snd hk)
      clear hk ez hz e1 e2 ha hb la lb z
      go_wp2_with fail; refine (CP.out _).mono ?_; rintro e w1 ⟨rfl, rfl⟩; go_wp2_with fail; refine (CQ.out _).mono ?_; rintro e w1 ⟨rfl, rfl⟩; go_wp2_with fail; go_ret; exact ⟨by rw [HR.out]; rfl, rfl⟩
     ·
      have HR := Lib.hid (congrArg Prod.snd hk)
      have hpos : 0 < (s.size : Int) := by clear qm; omega
      by_cases r1 : 0 < q
      ·
       have r2 : ¬ q < (s.size : Int) - 1 := by
        rcases hab with h | h
        ·
         rw [h] at e2; simp at e2; clear qm; omega
        ·
         rw [h] at z; simp at z; clear qm; omega
       clear hk ez hz e1 e2 z hab
       go_wp2_with fail; refine (CP.out _).mono ?_; rintro e w1 ⟨rfl, rfl⟩; go_wp2_with fail; refine (CQ.out _).mono ?_; rintro e w1 ⟨rfl, rfl⟩; go_wp2_with fail; go_ret; exact ⟨by rw [HR.out]; rfl, rfl⟩
      ·
       clear hk ez hz e1 e2 z hab
       go_wp2_with fail; refine (CP.out _).mono ?_; rintro e w1 ⟨rfl, rfl⟩; go_wp2_with fail; refine (CQ.out _).mono ?_; rintro e w1 ⟨rfl, rfl⟩; go_wp2_with fail; go_ret; exact ⟨by rw [HR.out]; rfl, rfl⟩
    ·
     obtain ⟨n1, n2⟩ := bar_z ez
     have HR := Lib.hid (congrArg Prod.snd hk)
     clear hk ez hz
     by_cases hpos : 0 < (s.size : Int)
     ·
      go_wp2_with fail; refine (CP.out _).mono ?_; rintro e w1 ⟨rfl, rfl⟩; go_wp2_with fail; refine (CQ.out _).mono ?_; rintro e w1 ⟨rfl, rfl⟩; go_wp2_with fail; go_ret; exact ⟨by rw [HR.out]; rfl, rfl⟩
     ·
      go_wp2_with fail; refine (CP.out _).mono ?_; rintro e w1 ⟨rfl, rfl⟩; go_wp2_with fail; refine (CQ.out _).mono ?_; rintro e w1 ⟨rfl, rfl⟩; go_wp2_with fail; go_ret; exact ⟨by rw [HR.out]; rfl, rfl⟩
    ·
     have z := hz a 37 b e1
     have hpos : 0 < (s.size : Int) := by omega
     have p0 : 0 ≤ p := by omega
     have pb : p ≤ 100 := by omega
     have pm : (p == -1) = false := by rw [beq_eq_false_iff_ne]; omega
     have I1 : ∀ (h : a.length + 1 < s.size) W, Sem.run Tryz.prog (Instr.index 9 (.string s) (.int .i64 (p + 1))) W = .ok (.int .u8 s[a.length + 1].toNat) W := fun h W => by
      rw [e2, show ((a.length : Int) + 1) = ((a.length + 1 : Nat) : Int) by omega]; exact rn_ix s _ h W
     have hg : ∀ (h : a.length + 1 < s.size), b.head? = some s[a.length + 1] := fun h => by
      have : s.data.toList[a.length + 1]? = some s[a.length + 1] := by
       rw [Array.getElem?_toList]; exact Array.getElem?_eq_getElem h
      rw [e1] at this
      rw [← this]
      cases b <;> simp
     rcases h with ⟨t, hb, hk, ez, -⟩ | ⟨hb, h⟩
     ·
      obtain ⟨n1, n2⟩ := bar_z ez
      have hlt2 : a.length + 1 < s.size := by rw [z, hb, List.length_cons]; omega
      have r1 : p + 1 < (s.size : Int) := by clear pm; omega
      have IZ : ∀ W, Sem.run Tryz.prog (Instr.index 9 (.string s) (.int .i64 (p + 1))) W = .ok (.int .u8 115) W := fun W => by
       have hv := hg hlt2
       rw [hb] at hv
       have hv : (115 : UInt8) = s[a.length + 1] := Option.some.inj hv
       have := I1 hlt2 W
       rw [← hv] at this
       exact this
      have HR := Lib.hid (congrArg Prod.snd hk)
      clear hk ez hz e1 e2 z I1 hg hb hlt2
      go_wp2_with fail; refine (CP.out _).mono ?_; rintro e w1 ⟨rfl, rfl⟩; go_wp2_with fail; refine (CQ.out _).mono ?_; rintro e w1 ⟨rfl, rfl⟩; go_wp2_with fail; go_ret; exact ⟨by rw [HR.out]; rfl, rfl⟩
     ·
      by_cases hlt2 : a.length + 1 < s.size
      ·
       have r1 : p + 1 < (s.size : Int) := by clear pm; omega
       have I := I1 hlt2
       have hv := hg hlt2
       have g : ((s[a.length + 1].toNat : Int) == 115) = false := by
        rw [beq_eq_false_iff_ne]; intro x; exact hb (by rw [hv]; congr 1; exact UInt8.toNat_inj.1 (by rw [show (115 : UInt8).toNat = 115 from rfl]; omega))
       generalize (s[a.length + 1].toNat : Int) = cs at I g
       clear I1 hg hb hv
       rcases h with ⟨ez, hk⟩ | ⟨ez, hk⟩
       ·
        obtain rfl : s = ⟨#[37, 122]⟩ := bz_eq ez
        have HR := Lib.hid (congrArg Prod.snd hk)
        clear hk ez hz e1 e2 z hlt2
        go_wp2_with fail; refine (CP.out _).mono ?_; rintro e w1 ⟨rfl, rfl⟩; go_wp2_with fail; refine (CQ.out _).mono ?_; rintro e w1 ⟨rfl, rfl⟩; go_wp2_with fail; go_ret; exact ⟨by rw [HR.out]; rfl, rfl⟩
       ·
        obtain ⟨n1, n2⟩ := bar_z ez
        have HR := Lib.hid (congrArg Prod.snd hk)
        clear hk ez hz e1 e2 z hlt2
        go_wp2_with fail; refine (CP.out _).mono ?_; rintro e w1 ⟨rfl, rfl⟩; go_wp2_with fail; refine (CQ.out _).mono ?_; rintro e w1 ⟨rfl, rfl⟩; go_wp2_with fail; go_ret; exact ⟨by rw [HR.out]; rfl, rfl⟩
      ·
       have r1 : ¬ p + 1 < (s.size : Int) := by clear pm; omega
       rcases h with ⟨ez, hk⟩ | ⟨ez, hk⟩
       ·
        exfalso
        rw [ez] at e1
        cases a with
        | nil => rw [← ab_len, ez] at hlt2; simp at hlt2
        | cons x a =>
         have := congrArg List.length e1
         cases a with
         | nil =>
          rw [List.cons_append, List.nil_append] at e1
          have h2 := (List.cons.inj e1).2
          have h3 := (List.cons.inj h2).1
          exact absurd h3 (by decide)
         | cons y a => simp at this <;> omega
       ·
        obtain ⟨n1, n2⟩ := bar_z ez
        have HR := Lib.hid (congrArg Prod.snd hk)
        clear hk ez hz e1 e2 z I1 hg hb hlt2
        go_wp2_with fail; refine (CP.out _).mono ?_; rintro e w1 ⟨rfl, rfl⟩; go_wp2_with fail; refine (CQ.out _).mono ?_; rintro e w1 ⟨rfl, rfl⟩; go_wp2_with fail; go_ret; exact ⟨by rw [HR.out]; rfl, rfl⟩
    ·
     have z := hz a 37 b e1
     have hpos : 0 < (s.size : Int) := by omega
     have p0 : 0 ≤ p := by omega
     have pm : (p == -1) = false := by rw [beq_eq_false_iff_ne]; omega
     have qm : (q == -1) = false := by rw [beq_eq_false_iff_ne]; exact q1
     obtain ⟨n1, n2⟩ := bar_z ez
     have HR := Lib.hid (congrArg Prod.snd hk)
     clear hk ez hz e1 e2 z q1
     go_wp2_with fail; refine (CP.out _).mono ?_; rintro e w1 ⟨rfl, rfl⟩; go_wp2_with fail; refine (CQ.out _).mono ?_; rintro e w1 ⟨rfl, rfl⟩; go_wp2_with fail; go_ret; exact ⟨by rw [HR.out]; rfl, rfl⟩
    ·
     obtain ⟨n1, n2⟩ := bar_z ez
     have HR := Lib.hid (congrArg Prod.snd hk)
     clear hk ez hz
     by_cases hpos : 0 < (s.size : Int)
     ·
      go_wp2_with fail; refine (CP.out _).mono ?_; rintro e w1 ⟨rfl, rfl⟩; go_wp2_with fail; refine (CQ.out _).mono ?_; rintro e w1 ⟨rfl, rfl⟩; go_wp2_with fail; go_ret; exact ⟨by rw [HR.out]; rfl, rfl⟩
     ·
      go_wp2_with fail; refine (CP.out _).mono ?_; rintro e w1 ⟨rfl, rfl⟩; go_wp2_with fail; refine (CQ.out _).mono ?_; rintro e w1 ⟨rfl, rfl⟩; go_wp2_with fail; go_ret; exact ⟨by rw [HR.out]; rfl, rfl⟩
end Go.Proofs.YtpggfhmnhbnefaaGreatDoor
