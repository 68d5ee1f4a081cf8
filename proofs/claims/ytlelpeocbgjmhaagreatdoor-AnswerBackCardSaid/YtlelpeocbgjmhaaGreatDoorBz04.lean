/- Joined: RnM, AnP, FdC0, FdA. -/
import Derived.Test.YtlelpeocbgjmhaaGreatDoorBz03
import Derived.Test.YtlelpeocbgjmhaaGreatDoorBz02
import Derived.Test.YtlelpeocbgjmhaaGreatDoorBz01
import Derived.Lib.DecodeN
import Derived.Shelf.GgClosure.StringsTrimFunc
import Derived.Shelf.GgClosure.StringsIndexFuncTop
import Derived.Laws.RangeAny
/- Numbers' texts that are read, in plain arithmetic: by their digits alone. -/
set_option linter.unusedVariables false
namespace Go.Proofs.YtlelpeocbgjmhaaGreatDoor.Num
open Go.RowKit Go.Lib

theorem rn_len (a : ByteArray) : a.data.toList.length = a.size := Array.length_toList
theorem rn_drop (a : ByteArray) (k : Nat) (h : k < a.size) : a.data.toList.drop k = a[k] :: a.data.toList.drop (k + 1) := by
  rw [List.drop_eq_getElem_cons (by rw [rn_len]; exact h)]
  rfl
theorem rn_dig (c : UInt8) : dig c = (decide (48 ≤ (c.toNat : Int)) && decide ((c.toNat : Int) ≤ 57)) := by
  unfold dig
  by_cases h1 : 48 ≤ c.toNat <;> by_cases h2 : c.toNat ≤ 57 <;> simp [h1, h2] <;> omega
theorem parse_le (M : Nat) (l : List UInt8) : ∀ (acc v : Nat), acc ≤ M → parseUintM M acc l = .ok v → v ≤ M := by
  induction l with
  | nil => intro acc v h e; rw [parse_nil] at e; injection e with e; omega
  | cons c r ih =>
    intro acc v h e
    rw [parseUintM] at e
    split at e
    · split at e
      · cases e
      · split at e
        · cases e
        · exact ih _ v (by omega) e
    · cases e
theorem val_le (l : List UInt8) : ∀ (a : Nat), a * 10 ^ l.length ≤ val a l := by
  induction l with
  | nil => intro a; rw [val_nil]; simp
  | cons c r ih =>
    intro a
    rw [val_cons]
    refine Nat.le_trans ?_ (ih (stp a c))
    rw [stp_eq, List.length_cons, Nat.pow_succ, Nat.mul_comm (10 ^ r.length) 10, ← Nat.mul_assoc]
    exact Nat.mul_le_mul_right _ (by omega)
/-- A text of more than 19 digits, no nought ahead, is too far. -/
theorem val_far {d : List UInt8} (ha : d.all dig = true) (hz : ∀ c r, d = c :: r → r ≠ [] → c ≠ 48) (hl : 19 < d.length) : 10000000000000000000 ≤ val 0 d := by
  cases d with
  | nil => simp at hl
  | cons c r =>
    have hr : 19 ≤ r.length := by simp at hl; omega
    have hc := hz c r rfl (by intro e; rw [e] at hr; simp at hr)
    have hd : 48 ≤ c.toNat ∧ c.toNat ≤ 57 := by
      simp only [List.all_cons, Bool.and_eq_true, dig, decide_eq_true_eq] at ha; exact ha.1
    have hc' : c.toNat ≠ 48 := fun e => hc (UInt8.toNat_inj.1 (by rw [e]; rfl))
    rw [val_cons]
    have h1 := val_le r (stp 0 c)
    have h2 : 1 ≤ stp 0 c := by rw [stp_eq]; omega
    have h3 := Nat.pow_le_pow_right (n := 10) (by omega) hr
    have h4 := Nat.mul_le_mul h2 h3
    have h5 : (1 : Nat) * 10 ^ 19 = 10000000000000000000 := by decide
    omega
theorem val_near {d : List UInt8} (ha : d.all dig = true) (hl : d.length ≤ 19) : val 0 d < 10000000000000000000 := val_bd (k := 19) ha hl
/-- What a text is read as: the number, the error's. -/
def rd (l : List UInt8) : Int × Int := if isT l then (match parseIntB 64 l with | .ok v => (v, 0) | _ => (0, 1)) else (0, 2)
/-- The like, by its digits. -/
def rdD (b : Bool) (d : List UInt8) : Int × Int :=
  if numT b d then (if 19 < d.length then (0, 1) else if b then (if 9223372036854775808 < val 0 d then (0, 1) else (-(val 0 d : Int), 0)) else (if 9223372036854775807 < val 0 d then (0, 1) else ((val 0 d : Int), 0))) else (0, 2)
theorem parseU_at (d : List UInt8) (h : d ≠ []) (ha : d.all dig = true) : parseUintB 64 d = if val 0 d ≤ 18446744073709551615 then .ok (val 0 d) else .range := by
  have e : (2 : Nat) ^ 64 - 1 = 18446744073709551615 := by decide
  split
  · rename_i hv
    unfold parseUintB
    rw [if_neg h, e]
    exact parse_ok _ (by unfold Small; decide) d 0 ha hv
  · rename_i hv
    rcases parseU d h ha with hu | hu
    · exfalso
      unfold parseUintB at hu
      rw [if_neg h, e] at hu
      exact hv (parse_le _ d 0 _ (by omega) hu)
    · exact hu
theorem rd_eq (l : List UInt8) : rd l = rdD (hasPrefix l [45]) (trimPrefix l [45]) := by
  unfold rd rdD
  show (if isT l = true then _ else _) = (if isT l = true then _ else _)
  by_cases h : isT l = true
  · rw [if_pos h, if_pos h]
    cases l with
    | nil => exact absurd h (by decide)
    | cons c d =>
      have e63 : (2 : Nat) ^ (64 - 1) = 9223372036854775808 := by decide
      by_cases hc : c = 45
      · subst hc
        unfold isT at h
        rw [hp_cons, tp_minus] at h ⊢
        obtain ⟨a, b, e, f⟩ := numT_yes h
        have hu := parseU_at d a b
        rw [if_pos (show (45 == (45 : UInt8)) = true from rfl)]
        unfold parseIntB
        simp only [show (45 : UInt8).toNat = 45 from rfl, or_true, if_true, hu, e63]
        by_cases hv : val 0 d ≤ 18446744073709551615
        · rw [if_pos hv]
          simp only [not_true_eq_false, false_and, if_false, true_and]
          by_cases hf : 9223372036854775808 < val 0 d
          · rw [if_pos hf, if_pos hf]
            by_cases hl : 19 < d.length
            · rw [if_pos hl]
            · rw [if_neg hl]
          · rw [if_neg hf, if_neg hf, if_neg (fun hl => by have := val_far b e hl; omega)]
        · rw [if_neg hv]
          by_cases hl : 19 < d.length
          · rw [if_pos hl]
          · rw [if_neg hl, if_pos (by omega)]
      · unfold isT at h
        rw [hp_cons, tp_other c d hc] at h ⊢
        obtain ⟨a, b, e, _⟩ := numT_yes h
        have hd : 48 ≤ c.toNat ∧ c.toNat ≤ 57 := by
          simp only [List.all_cons, Bool.and_eq_true, dig, decide_eq_true_eq] at b; exact b.1
        have n43 : ¬ (c.toNat = 43 ∨ c.toNat = 45) := by omega
        have n45 : ¬ c.toNat = 45 := by omega
        have hu := parseU_at (c :: d) a b
        rw [if_neg (show ¬ (c == (45 : UInt8)) = true by simpa using hc)]
        unfold parseIntB
        simp only [if_neg n43, hu, e63]
        by_cases hv : val 0 (c :: d) ≤ 18446744073709551615
        · rw [if_pos hv]
          simp only [n45, not_false_eq_true, true_and, false_and, if_false]
          by_cases hf : 9223372036854775808 ≤ val 0 (c :: d)
          · rw [if_pos hf, if_pos (show 9223372036854775807 < val 0 (c :: d) by omega)]
            by_cases hl : 19 < (c :: d).length
            · rw [if_pos hl]
            · rw [if_neg hl]
          · rw [if_neg hf, if_neg (show ¬ 9223372036854775807 < val 0 (c :: d) by omega), if_neg (fun hl => by have := val_far b e hl; omega)]
        · rw [if_neg hv]
          by_cases hl : 19 < (c :: d).length
          · rw [if_pos hl]
          · rw [if_neg hl, if_pos (by omega)]
  · rw [if_neg h, if_neg h]
/-- Numbers' texts are short. -/
theorem dec_short (u : Nat) (h : u < 18446744073709551616) : (decDigits u).length ≤ 20 := by
  have e : (10 : Nat) ^ (19 + 1) = 100000000000000000000 := by decide
  exact dec_len 19 u (by rw [e]; omega)
end Go.Proofs.YtlelpeocbgjmhaaGreatDoor.Num

/- Answers, in plain lists: how an info is written and read; what a local time's text is. -/
set_option linter.unusedVariables false
set_option linter.unusedSimpArgs false
namespace Go.Proofs.YtlelpeocbgjmhaaGreatDoor
namespace An
/-- An info: from when, to when, what is added, what is saved, what it is called. -/
abbrev I := Int × Int × Int × Int × ByteArray
def I0 : I := (0, 0, 0, 0, ⟨#[]⟩)
def tl (i : I) : List (List UInt8) := [Lib.itoa i.1, Lib.itoa i.2.1, Lib.itoa i.2.2.1, Lib.itoa i.2.2.2.1, i.2.2.2.2.data.toList]
/-- An info's text, and why there is none. -/
def inf (i : I) : List UInt8 × Int := Fd.jn (tl i)
/-- The first thing that is wrong with four numbers. -/
def w4 (a b c d : List UInt8) : Int := if (Num.rd a).2 ≠ 0 then (Num.rd a).2 else if (Num.rd b).2 ≠ 0 then (Num.rd b).2 else if (Num.rd c).2 ≠ 0 then (Num.rd c).2 else (Num.rd d).2
def rdL : List (List UInt8) → I × Int
  | [a, b, c, d, x] => if w4 a b c d ≠ 0 then (I0, w4 a b c d) else (((Num.rd a).1, (Num.rd b).1, (Num.rd c).1, (Num.rd d).1, ⟨x.toArray⟩), 0)
  | l => (I0, if l.length < 5 then 5 else 6)
/-- The info of a text. -/
def rdi (s : List UInt8) : I × Int := if (Fd.of s).2 ≠ 0 then (I0, (Fd.of s).2) else rdL (Fd.of s).1
def both (i j : I) : List UInt8 × Int := if (inf i).2 ≠ 0 then ([], (inf i).2) else if (inf j).2 ≠ 0 then ([], (inf j).2) else ((inf i).1 ++ [32, 47, 32] ++ (inf j).1, 0)
/-- A local time's text. -/
def loc (k : Int) (i j : I) : List UInt8 × Int :=
  if k = 1 then (if (inf i).2 ≠ 0 then ([], (inf i).2) else ([111, 110, 101, 32] ++ (inf i).1, 0))
  else if k = 2 then (if (both i j).2 ≠ 0 then ([], (both i j).2) else ([110, 111, 110, 101, 32] ++ (both i j).1, 0))
  else if k = 3 then (if (both i j).2 ≠ 0 then ([], (both i j).2) else ([116, 119, 111, 32] ++ (both i j).1, 0))
  else ([], 4)
theorem numT_all {b : Bool} {l : List UInt8} (h : Num.numT b l = true) : ∀ c ∈ l, Num.dig c = true := by
  cases l with
  | nil => intro c hc; cases hc
  | cons x r =>
    unfold Num.numT at h
    rw [Bool.and_eq_true] at h
    exact List.all_eq_true.1 h.2
theorem itoa_ch (n : Int) : ∀ c ∈ Lib.itoa n, c = 45 ∨ Num.dig c = true := by
  have h := Num.isT_itoa n
  generalize Lib.itoa n = l at h
  intro c hc
  unfold Num.isT at h
  cases l with
  | nil => cases hc
  | cons x r =>
    by_cases hx : x = 45
    · subst hx
      rw [Num.tp_minus] at h
      rcases List.mem_cons.1 hc with rfl | hr
      · exact .inl rfl
      · exact .inr (numT_all h c hr)
    · rw [Num.tp_other _ _ hx] at h
      exact .inr (numT_all h c hc)
theorem rdL_five (a b c d x : List UInt8) : rdL [a, b, c, d, x] = if w4 a b c d ≠ 0 then (I0, w4 a b c d) else (((Num.rd a).1, (Num.rd b).1, (Num.rd c).1, (Num.rd d).1, ⟨x.toArray⟩), 0) := rfl
theorem rdL_few (l : List (List UInt8)) (h : l.length < 5) : rdL l = (I0, 5) := by
  match l, h with
  | [], _ => rfl
  | [_], _ => rfl
  | [_, _], _ => rfl
  | [_, _, _], _ => rfl
  | [_, _, _, _], _ => rfl
theorem rdL_many (l : List (List UInt8)) (h : 5 < l.length) : rdL l = (I0, 6) := by
  match l, h with
  | a :: b :: c :: d :: x :: y :: r, h =>
    show (I0, if (a :: b :: c :: d :: x :: y :: r).length < 5 then (5 : Int) else 6) = _
    rw [if_neg (by simp)]
theorem tx_num (n : Int) : Fd.tx (Lib.itoa n) = (Lib.itoa n, 0) := by
  have h := itoa_ch n
  have hne := Num.itoa_ne n
  generalize Lib.itoa n = l at *
  have g : ∀ c ∈ l, Fd.mkB c = false ∧ c ≠ 34 := by
    intro c hc
    rcases h c hc with rfl | hd
    · exact ⟨by decide, by decide⟩
    · have hd : 48 ≤ c.toNat ∧ c.toNat ≤ 57 := by simpa [Num.dig] using hd
      refine ⟨?_, fun e => by subst e; revert hd; decide⟩
      unfold Fd.mkB Fd.isK
      simp
      omega
  unfold Fd.tx
  rw [if_neg, if_neg]
  · rintro (e | e)
    · exact hne e
    · obtain ⟨c, hc, hb⟩ := List.any_eq_true.1 e
      rw [(g c hc).1] at hb; cases hb
  · intro e
    have : (34 : UInt8) ∈ l := by simpa using e
    exact (g _ this).2 rfl
theorem inf_eq (a b c d : Int) (x : ByteArray) : inf (a, b, c, d, x) = if (Fd.tx x.data.toList).2 = 0 then (Lib.itoa a ++ 32 :: (Lib.itoa b ++ 32 :: (Lib.itoa c ++ 32 :: (Lib.itoa d ++ 32 :: (Fd.tx x.data.toList).1))), 0) else ([], (Fd.tx x.data.toList).2) := by
  unfold inf tl Fd.jn
  rw [if_neg (by simp)]
  simp only [Fd.jr, tx_num, if_true]
  by_cases h : (Fd.tx x.data.toList).2 = 0
  · rw [if_pos h, if_pos h]; simp
  · rw [if_neg h, if_neg h]
theorem rd_num {n : Int} (n0 : -9223372036854775808 ≤ n) (n1 : n ≤ 9223372036854775807) : Num.rd (Lib.itoa n) = (n, 0) := by
  unfold Num.rd
  rw [Num.isT_itoa, Num.parse_itoa n n0 n1]; rfl
def bd (n : Int) : Prop := -9223372036854775808 ≤ n ∧ n ≤ 9223372036854775807
/-- What is written is read as it is. -/
theorem rdi_inf (i : I) (h1 : bd i.1) (h2 : bd i.2.1) (h3 : bd i.2.2.1) (h4 : bd i.2.2.2.1) (h : (inf i).2 = 0) : rdi (inf i).1 = (i, 0) := by
  obtain ⟨a, b, c, d, x⟩ := i
  have e : Fd.jn (tl (a, b, c, d, x)) = ((inf (a, b, c, d, x)).1, 0) := by rw [← h]; rfl
  have := Fd.of_jn _ _ e
  unfold rdi
  rw [this]
  rw [if_neg (by simp)]
  show rdL [Lib.itoa a, Lib.itoa b, Lib.itoa c, Lib.itoa d, x.data.toList] = _
  rw [rdL_five]
  unfold w4
  have r1 := rd_num h1.1 h1.2
  have r2 := rd_num h2.1 h2.2
  have r3 := rd_num h3.1 h3.2
  have r4 := rd_num h4.1 h4.2
  dsimp only at r1 r2 r3 r4
  rw [r1, r2, r3, r4]
  simp
theorem rd_bd {l : List UInt8} : bd (Num.rd l).1 := by
  unfold Num.rd bd
  cases ht : Num.isT l
  · simp
  · rcases Num.isT_read ht with h | ⟨x, h, -, h1, h2⟩
    · rw [h]; simp
    · rw [h]; exact ⟨h1, h2⟩
/-- What is read is written so that it is read the same. -/
theorem inf_rdi {s : List UInt8} (h : (rdi s).2 = 0) : (inf (rdi s).1).2 = 0 ∧ bd (rdi s).1.1 ∧ bd (rdi s).1.2.1 ∧ bd (rdi s).1.2.2.1 ∧ bd (rdi s).1.2.2.2.1 := by
  unfold rdi at h ⊢
  by_cases hy : (Fd.of s).2 = 0
  · rw [if_neg (by simp [hy])] at h ⊢
    have hn : ∀ x ∈ (Fd.of s).1, (34 : UInt8) ∉ x := by
      unfold Fd.of Fd.told at hy ⊢
      cases hg : Fd.go [] [] false false s with
      | none => rw [hg] at hy; simp at hy
      | some P =>
        rw [hg] at hy
        dsimp only at hy ⊢
        split at hy
        · simp at hy
        · rename_i h16
          rw [if_neg h16]
          exact Fd.go_no34 s [] [] false false P hg (by simp) (by simp)
    generalize (Fd.of s).1 = P at h hn
    match P, h with
    | [a, b, c, d, x], h =>
      rw [rdL_five] at h ⊢
      by_cases hw : w4 a b c d = 0
      · rw [if_neg (by simp [hw])]
        dsimp only
        refine ⟨?_, rd_bd, rd_bd, rd_bd, rd_bd⟩
        rw [inf_eq, if_pos]
        have := Fd.tx_ok (x := x) (hn x (by simp))
        simpa using this
      · rw [if_pos hw] at h; exact absurd h hw
    | [], h => simp [rdL] at h
    | [_], h => simp [rdL] at h
    | [_, _], h => simp [rdL] at h
    | [_, _, _], h => simp [rdL] at h
    | [_, _, _, _], h => simp [rdL] at h
    | _ :: _ :: _ :: _ :: _ :: _ :: r, h => simp [rdL] at h; split at h <;> omega
  · rw [if_pos hy] at h; exact absurd h hy
end An
end Go.Proofs.YtlelpeocbgjmhaaGreatDoor

/- Texts as lists of bytes, where no text of num is at hand. -/
set_option linter.unusedVariables false
set_option linter.unusedSimpArgs false
namespace Go.Proofs.YtlelpeocbgjmhaaGreatDoor
open Go.RowKit

theorem fd_len (a : ByteArray) : a.data.toList.length = a.size := Array.length_toList
theorem fd_drop (a : ByteArray) (k : Nat) (h : k < a.size) : a.data.toList.drop k = a[k] :: a.data.toList.drop (k + 1) := by
  rw [List.drop_eq_getElem_cons (by rw [fd_len]; exact h)]
  rfl
theorem fd_id (s : ByteArray) : (⟨s.data.toList.toArray⟩ : ByteArray) = s := by apply ByteArray.ext; apply Array.toList_inj.1; simp
theorem fd_ne {ds : ByteArray} (h : 0 < ds.size) : ds.toList.isEmpty = false ∧ ¬ ds.toList = [] := by
  have : ds.toList ≠ [] := by
    intro e
    have hl := fd_len ds
    rw [← ByteArray.toList_eq] at hl
    rw [e] at hl; simp at hl; omega
  exact ⟨by simpa using this, this⟩
theorem fd_ix (a : ByteArray) (k : Nat) (h : k < a.size) (w : World) : Sem.run Tryz.prog (Instr.index 9 (.string a) (.int .i64 (k : Int))) w = .ok (.int .u8 a[k].toNat) w := by
  rw [run_index_string w _ _ _ _ Tryz.underlying9, dif_pos ⟨by omega, by omega⟩]
  simp
end Go.Proofs.YtlelpeocbgjmhaaGreatDoor

/- Fields: where a mark stands first, where the blanks end: in plain lists. -/
set_option linter.unusedVariables false
set_option linter.unusedSimpArgs false
namespace Go.Proofs.YtlelpeocbgjmhaaGreatDoor
open Go.RowKit

namespace Fd
theorem decode_low (s : ByteArray) (pos : Nat) (h : pos < s.size) (ha : (s[pos]'h).toNat < 128) : Utf8.decode s pos = ((s[pos]'h).toNat, 1) := by
  simp only [Utf8.decode, get_at s pos h, ha, if_true]
/-- The first place of a byte that is so; -1: none. -/
def fi (Q : UInt8 → Bool) : List UInt8 → Int → Int
  | [], _ => -1
  | c :: t, k => if Q c = true then k else fi Q t (k + 1)
theorem dn (n b0 b1 b2 b3 : Nat) (h : 128 ≤ b0) (n1 : 1 ≤ n) : (Lib.decodeN n b0 b1 b2 b3).2 ≤ n ∧ (Lib.decodeN n b0 b1 b2 b3).2 ≤ 4 ∧ (2 ≤ (Lib.decodeN n b0 b1 b2 b3).2 → 128 ≤ b1) ∧ (3 ≤ (Lib.decodeN n b0 b1 b2 b3).2 → 128 ≤ b2) ∧ (4 ≤ (Lib.decodeN n b0 b1 b2 b3).2 → 128 ≤ b3) := by
  unfold Lib.decodeN
  repeat' split
  all_goals (refine ⟨?_, ?_, ?_, ?_, ?_⟩ <;> simp only [] <;> omega)
theorem dec_high (s : ByteArray) (pos : Nat) (h : pos < s.size) (ha : 128 ≤ (s[pos]'h).toNat) : (Utf8.decode s pos).2 ≤ s.size - pos ∧ ∀ j, j < (Utf8.decode s pos).2 → ∀ hj : pos + j < s.size, 128 ≤ (s[pos + j]'hj).toNat := by
  rw [Lib.decode_at]
  have e : s.get! pos = s[pos]'h := get_at s pos h
  obtain ⟨d1, d2, d3, d4, d5⟩ := dn (s.size - pos) (s.get! pos).toNat (s.get! (pos + 1)).toNat (s.get! (pos + 2)).toNat (s.get! (pos + 3)).toNat (by rw [e]; exact ha) (by omega)
  refine ⟨d1, fun j hj hb => ?_⟩
  have e2 : s.get! (pos + j) = s[pos + j]'hb := get_at s (pos + j) hb
  rw [← e2]
  obtain rfl | rfl | rfl | rfl : j = 0 ∨ j = 1 ∨ j = 2 ∨ j = 3 := by omega
  · show 128 ≤ (s.get! pos).toNat
    rw [e]; exact ha
  · exact d3 (by omega)
  · exact d4 (by omega)
  · exact d5 (by omega)
theorem skip (Q : UInt8 → Bool) (s : ByteArray) : ∀ (K pos : Nat), pos + K ≤ s.size → (∀ j, j < K → ∀ hj : pos + j < s.size, Q (s[pos + j]'hj) = false) → fi Q (s.data.toList.drop pos) pos = fi Q (s.data.toList.drop (pos + K)) ((pos + K : Nat) : Int)
  | 0, pos, _, _ => rfl
  | K + 1, pos, h, hq => by
    rw [fd_drop s pos (by omega)]
    have h0 : Q (s[pos]'(by omega)) = false := hq 0 (by omega) (by omega)
    have hf : fi Q ((s[pos]'(by omega)) :: s.data.toList.drop (pos + 1)) pos = fi Q (s.data.toList.drop (pos + 1)) ((pos + 1 : Nat) : Int) := if_neg (by rw [h0]; decide)
    rw [hf]
    have r := skip Q s K (pos + 1) (by omega) (fun j hj hb => by
      have := hq (j + 1) (by omega) (by omega)
      simp only [show pos + (j + 1) = pos + 1 + j by omega] at this
      exact this)
    rw [show pos + (K + 1) = pos + 1 + K by omega, ← r]
theorem idx_yes (P : Nat → Bool) (hP : ∀ r, 128 ≤ r → P r = false) (s : ByteArray) : ∀ (f pos : Nat), s.size - pos ≤ f → Lib.idxFuncFrom P true s f pos = fi (fun c => P c.toNat) (s.data.toList.drop pos) pos
  | 0, pos, h => by
    rw [List.drop_of_length_le (by rw [fd_len]; omega)]
    rfl
  | f + 1, pos, h => by
    unfold Lib.idxFuncFrom
    by_cases hp : pos < s.size
    · rw [if_pos hp]
      by_cases ha : (s[pos]'hp).toNat < 128
      · rw [decode_low s pos hp ha, fd_drop s pos hp]
        unfold fi
        by_cases hq : P (s[pos]'hp).toNat = true
        · rw [if_pos hq, if_pos hq]
        · rw [if_neg hq, if_neg hq, idx_yes P hP s f (pos + 1) (by omega)]; rfl
      · obtain ⟨r1, r2⟩ := decode_high s pos hp (by omega)
        obtain ⟨z1, z2⟩ := dec_high s pos hp (by omega)
        rw [if_neg (by rw [hP _ r1]; decide), idx_yes P hP s f _ (by omega)]
        exact (skip (fun c => P c.toNat) s _ pos (by omega) (fun j hj hb => hP _ (z2 j hj hb))).symm
    · rw [if_neg hp, List.drop_of_length_le (by rw [fd_len]; omega)]
      rfl
theorem idx_no (P : Nat → Bool) (hP : ∀ r, 128 ≤ r → P r = false) (s : ByteArray) : ∀ (f pos : Nat), s.size - pos ≤ f → Lib.idxFuncFrom P false s f pos = fi (fun c => !P c.toNat) (s.data.toList.drop pos) pos
  | 0, pos, h => by
    rw [List.drop_of_length_le (by rw [fd_len]; omega)]
    rfl
  | f + 1, pos, h => by
    unfold Lib.idxFuncFrom
    by_cases hp : pos < s.size
    · rw [if_pos hp, fd_drop s pos hp]
      by_cases ha : (s[pos]'hp).toNat < 128
      · rw [decode_low s pos hp ha]
        unfold fi
        cases hq : P (s[pos]'hp).toNat
        · rw [if_pos rfl]; rfl
        · rw [if_neg (by decide), if_neg (by decide), idx_no P hP s f (pos + 1) (by omega)]; rfl
      · obtain ⟨r1, r2⟩ := decode_high s pos hp (by omega)
        unfold fi
        rw [if_pos (hP _ r1), if_pos (by show (!P (s[pos]'hp).toNat) = true; rw [hP _ (by omega)]; rfl)]
    · rw [if_neg hp, List.drop_of_length_le (by rw [fd_len]; omega)]
      rfl
theorem idx_mark (s : ByteArray) : Lib.idxFunc isK true s = fi (fun c => isK c.toNat) s.data.toList 0 := idx_yes isK (fun r h => by unfold isK; simp; omega) s s.size 0 (by omega)
theorem idx_blank (s : ByteArray) : Lib.idxFunc isW false s = fi (fun c => !isW c.toNat) s.data.toList 0 := idx_no isW (fun r h => by unfold isW; simp; omega) s s.size 0 (by omega)
end Fd
end Go.Proofs.YtlelpeocbgjmhaaGreatDoor
