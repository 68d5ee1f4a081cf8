/- Joined: FdO, NumM. -/
import Derived.Test.YtlelpeocbgjmhaaGreatDoorBz01
import Derived.Lib.ItoaNum
import Derived.Lib.ParseIntB
import Derived.Lib.Strings
/- Fields, in plain lists: fields that are joined are cut as they were; blanks and remarks have no part. -/
set_option linter.unusedVariables false
set_option linter.unusedSimpArgs false
namespace Go.Proofs.YtlelpeocbgjmhaaGreatDoor
namespace Fd
/-- What may stand behind a field. -/
def Shut (R : List UInt8) : Prop := R = [] ∨ ∃ c r, R = c :: r ∧ mkB c = true ∧ c ≠ 34
theorem shut_32 (r : List UInt8) : Shut (32 :: r) := .inr ⟨32, r, rfl, by decide, by decide⟩
theorem fl_end (f R : List UInt8) (h : Shut R) : fl f false R = some (f, R) := by
  rcases h with rfl | ⟨c, r, rfl, hm, h4⟩
  · rfl
  · exact fl_shut f c r hm h4
theorem not_34 {x : List UInt8} (h : ¬ x.contains 34 = true) : ∀ c ∈ x, c ≠ 34 := by
  rintro c hc rfl
  exact h (by simpa using hc)
theorem no_mk {x : List UInt8} (h : ¬ (x.any mkB = true)) : ∀ c ∈ x, mkB c = false := by
  intro c hc
  cases hm : mkB c
  · rfl
  · exact absurd (List.any_eq_true.2 ⟨c, hc, hm⟩) h
theorem go_field (out : List (List UInt8)) (x R : List UInt8) (h : (tx x).2 = 0) (hR : Shut R) : go out [] false false ((tx x).1 ++ R) = go (out ++ [x]) [] false false R := by
  unfold tx at h ⊢
  by_cases hc : x.contains 34 = true
  · rw [if_pos hc] at h; cases h
  · rw [if_neg hc] at h ⊢
    by_cases hq : x = [] ∨ x.any mkB = true
    · rw [if_pos hq]
      show go out [] false false (34 :: ((x ++ [34]) ++ R)) = _
      rw [go_s, if_neg (by decide), if_neg (by decide), if_pos rfl, go_fl, List.append_assoc]
      rw [show ([34] ++ R : List UInt8) = 34 :: R from rfl, fl_quoted R x [] (not_34 hc), List.nil_append, fl_end _ _ hR]
      rfl
    · rw [if_neg hq]
      obtain ⟨h1, h2⟩ := not_or.1 hq
      have hm := no_mk h2
      cases x with
      | nil => exact absurd rfl h1
      | cons c t =>
        obtain ⟨h4, h5, hw⟩ := mk_no (hm c (List.mem_cons_self ..))
        show go out [] false false (c :: (t ++ R)) = _
        rw [go_s, if_neg h5, if_neg (by rw [hw]; decide), if_neg h4, go_fl]
        rw [fl_plain R t ([] ++ [c]) (fun y hy => hm y (List.mem_cons_of_mem _ hy)), fl_end _ _ hR]
        rfl
theorem go_blank (out : List (List UInt8)) (c : UInt8) (r : List UInt8) (h : isW c.toNat = true) : go out [] false false (c :: r) = go out [] false false r := by
  have h5 : c ≠ 35 := by rintro rfl; cases h
  rw [go_s, if_neg h5, if_pos h]; rfl
theorem go_blanks (out : List (List UInt8)) (r : List UInt8) : ∀ g : List UInt8, (∀ c ∈ g, isW c.toNat = true) → go out [] false false (g ++ r) = go out [] false false r
  | [], _ => rfl
  | c :: g, h => by
    rw [List.cons_append, go_blank _ _ _ (h c (List.mem_cons_self ..))]
    exact go_blanks out r g (fun y hy => h y (List.mem_cons_of_mem _ hy))
theorem jr_ok : ∀ (l : List (List UInt8)) (acc : List UInt8) (k : Nat) (J : List UInt8), jr acc k l = (J, 0) → ∃ T, J = acc ++ T ∧ (k ≠ 0 → T = [] ∨ ∃ r, T = 32 :: r) ∧ ∀ out, go out [] false false T = some (out ++ l)
  | [], acc, k, J, h => by
    injection h with h1 _
    exact ⟨[], by rw [List.append_nil]; exact h1.symm, fun _ => .inl rfl, fun out => by rw [List.append_nil]; rfl⟩
  | x :: r, acc, k, J, h => by
    unfold jr at h
    by_cases h0 : (tx x).2 = 0
    · rw [if_pos h0] at h
      obtain ⟨T, hJ, hT, hg⟩ := jr_ok r _ (k + 1) J h
      have hs : Shut T := by
        rcases hT (by omega) with rfl | ⟨u, rfl⟩
        · exact .inl rfl
        · exact shut_32 u
      have key : ∀ out, go out [] false false ((tx x).1 ++ T) = some (out ++ x :: r) := fun out => by
        rw [go_field out x T h0 hs, hg, List.append_assoc]; rfl
      by_cases hk : k = 0
      · rw [if_pos hk] at hJ
        exact ⟨(tx x).1 ++ T, by rw [hJ]; simp, fun h => absurd hk h, key⟩
      · rw [if_neg hk] at hJ
        refine ⟨32 :: ((tx x).1 ++ T), by rw [hJ]; simp, fun _ => .inr ⟨_, rfl⟩, fun out => ?_⟩
        rw [go_blank _ _ _ (by decide)]
        exact key out
    · rw [if_neg h0] at h
      injection h with _ h2
      exact absurd h2 h0
/-- Joined fields are cut as they were. -/
theorem of_jn (l : List (List UInt8)) (J : List UInt8) (h : jn l = (J, 0)) : of J = (l, 0) := by
  unfold jn at h
  by_cases h16 : 16 < l.length
  · rw [if_pos h16] at h; cases h
  · rw [if_neg h16] at h
    obtain ⟨T, hJ, -, hg⟩ := jr_ok l [] 0 J h
    unfold of
    rw [show J = T by rw [hJ]; rfl, hg []]
    exact if_neg h16
theorem go_no34 : ∀ (s : List UInt8) (out : List (List UInt8)) (f : List UInt8) (op q : Bool) (P : List (List UInt8)), go out f op q s = some P → (∀ x ∈ out, (34 : UInt8) ∉ x) → (34 : UInt8) ∉ f → ∀ x ∈ P, (34 : UInt8) ∉ x
  | [], out, f, op, q, P, h, ho, hf => by
    unfold go at h
    cases q
    · rw [if_neg (by decide)] at h
      injection h with h
      intro x hx
      rw [← h] at hx
      cases op
      · exact ho x (by simpa using hx)
      · rw [if_pos rfl] at hx
        rcases List.mem_append.1 hx with hx | hx
        · exact ho x hx
        · rw [List.mem_singleton.1 hx]; exact hf
    · rw [if_pos rfl] at h; cases h
  | c :: r, out, f, op, true, P, h, ho, hf => by
    unfold go at h
    rw [if_pos rfl] at h
    by_cases h4 : c = 34
    · rw [if_pos h4] at h
      exact go_no34 r out f op false P h ho hf
    · rw [if_neg h4] at h
      refine go_no34 r out (f ++ [c]) op true P h ho ?_
      simp only [List.mem_append, List.mem_singleton, not_or]
      exact ⟨hf, fun e => h4 e.symm⟩
  | c :: r, out, f, op, false, P, h, ho, hf => by
    rw [go_s] at h
    have ho2 : ∀ x ∈ (if op = true then out ++ [f] else out), (34 : UInt8) ∉ x := by
      intro x hx
      cases op
      · exact ho x (by simpa using hx)
      · rw [if_pos rfl] at hx
        rcases List.mem_append.1 hx with hx | hx
        · exact ho x hx
        · rw [List.mem_singleton.1 hx]; exact hf
    by_cases h5 : c = 35
    · rw [if_pos h5] at h
      injection h with h
      rw [← h]; exact ho2
    · rw [if_neg h5] at h
      cases hw : isW c.toNat
      · rw [hw, if_neg (by decide)] at h
        by_cases h4 : c = 34
        · rw [if_pos h4] at h
          exact go_no34 r out f true true P h ho hf
        · rw [if_neg h4] at h
          refine go_no34 r out (f ++ [c]) true false P h ho ?_
          simp only [List.mem_append, List.mem_singleton, not_or]
          exact ⟨hf, fun e => h4 e.symm⟩
      · rw [hw, if_pos rfl] at h
        exact go_no34 r _ [] false false P h ho2 (by simp)
theorem tx_ok {x : List UInt8} (h : (34 : UInt8) ∉ x) : (tx x).2 = 0 := by
  unfold tx
  rw [if_neg (by simpa using h)]
  split <;> rfl
theorem jr_some : ∀ (l : List (List UInt8)) (acc : List UInt8) (k : Nat), (∀ x ∈ l, (tx x).2 = 0) → (jr acc k l).2 = 0
  | [], acc, k, _ => rfl
  | x :: r, acc, k, h => by
    unfold jr
    rw [if_pos (h x (List.mem_cons_self ..))]
    exact jr_some r _ _ (fun y hy => h y (List.mem_cons_of_mem _ hy))
theorem jr_all : ∀ (l : List (List UInt8)) (acc : List UInt8) (k : Nat), (jr acc k l).2 = 0 → ∀ x ∈ l, (tx x).2 = 0
  | [], acc, k, _ => fun x hx => by cases hx
  | y :: r, acc, k, h => by
    unfold jr at h
    by_cases h0 : (tx y).2 = 0
    · rw [if_pos h0] at h
      intro x hx
      rcases List.mem_cons.1 hx with rfl | hx
      · exact h0
      · exact jr_all r _ _ h x hx
    · rw [if_neg h0] at h; exact absurd h h0
/-- What a line is cut into may be joined. -/
theorem jn_of (s : List UInt8) (P : List (List UInt8)) (h : of s = (P, 0)) : jn P = ((jn P).1, 0) ∧ P.length ≤ 16 := by
  unfold of at h
  cases hg : go [] [] false false s with
  | none => rw [hg] at h; cases h
  | some Q =>
    rw [hg] at h
    have h : (if 16 < Q.length then (([] : List (List UInt8)), (6 : Int)) else (Q, 0)) = (P, 0) := h
    by_cases h16 : 16 < Q.length
    · rw [if_pos h16] at h; cases h
    · rw [if_neg h16] at h
      injection h with h _
      subst h
      refine ⟨?_, by omega⟩
      unfold jn
      rw [if_neg h16]
      have := jr_some Q [] 0 (fun x hx => tx_ok (go_no34 s [] [] false false Q hg (by simp) (by simp) x hx))
      exact Prod.ext rfl this
/-- How long all are. -/
def sm (l : List (List UInt8)) : Nat := (l.map (·.length)).foldr (· + ·) 0
theorem sm_cons (x : List UInt8) (l : List (List UInt8)) : sm (x :: l) = x.length + sm l := rfl
theorem sm_app : ∀ l k : List (List UInt8), sm (l ++ k) = sm l + sm k
  | [], k => by simp [sm]
  | x :: l, k => by rw [List.cons_append, sm_cons, sm_cons, sm_app l k]; omega
theorem jr_len : ∀ (l : List (List UInt8)) (acc : List UInt8) (k : Nat), (jr acc k l).1.length ≤ acc.length + sm l + 3 * l.length
  | [], acc, k => by show acc.length ≤ _; omega
  | x :: r, acc, k => by
    unfold jr
    have hx := tx_len x
    by_cases h0 : (tx x).2 = 0
    · rw [if_pos h0]
      refine Nat.le_trans (jr_len r _ _) ?_
      rw [sm_cons, List.length_append, List.length_append, List.length_cons]
      have : (if k = 0 then ([] : List UInt8) else [32]).length ≤ 1 := by split <;> simp
      omega
    · rw [if_neg h0]; simp
theorem jn_len (l : List (List UInt8)) : (jn l).1.length ≤ sm l + 48 := by
  unfold jn
  by_cases h16 : 16 < l.length
  · rw [if_pos h16]; simp
  · rw [if_neg h16]
    have := jr_len l [] 0
    simp at this; omega
theorem go_len : ∀ (s : List UInt8) (out : List (List UInt8)) (f : List UInt8) (op q : Bool) (P : List (List UInt8)), go out f op q s = some P → sm P ≤ sm out + f.length + s.length
  | [], out, f, op, q, P, h => by
    unfold go at h
    cases q
    · rw [if_neg (by decide)] at h
      injection h with h
      rw [← h]
      cases op
      · simp <;> omega
      · rw [if_pos rfl, sm_app, sm_cons]; show _ + (_ + 0) ≤ _; omega
    · rw [if_pos rfl] at h; cases h
  | c :: r, out, f, op, true, P, h => by
    unfold go at h
    rw [if_pos rfl] at h
    by_cases h4 : c = 34
    · rw [if_pos h4] at h
      have := go_len r out f op false P h
      rw [List.length_cons]; omega
    · rw [if_neg h4] at h
      have := go_len r out (f ++ [c]) op true P h
      rw [List.length_append, List.length_singleton] at this
      rw [List.length_cons]; omega
  | c :: r, out, f, op, false, P, h => by
    rw [go_s] at h
    have ho2 : sm (if op = true then out ++ [f] else out) ≤ sm out + f.length := by
      cases op
      · simp
      · rw [if_pos rfl, sm_app, sm_cons]; show _ + (_ + 0) ≤ _; omega
    rw [List.length_cons]
    by_cases h5 : c = 35
    · rw [if_pos h5] at h
      injection h with h
      rw [← h]; omega
    · rw [if_neg h5] at h
      cases hw : isW c.toNat
      · rw [hw, if_neg (by decide)] at h
        by_cases h4 : c = 34
        · rw [if_pos h4] at h
          have := go_len r out f true true P h
          omega
        · rw [if_neg h4] at h
          have := go_len r out (f ++ [c]) true false P h
          rw [List.length_append, List.length_singleton] at this
          omega
      · rw [hw, if_pos rfl] at h
        have := go_len r _ [] false false P h
        rw [List.length_nil] at this
        omega
theorem of_len (s : List UInt8) : sm (of s).1 ≤ s.length ∧ (of s).1.length ≤ 16 := by
  unfold of
  cases hg : go [] [] false false s with
  | none => exact ⟨Nat.zero_le _, Nat.zero_le _⟩
  | some Q =>
    have := go_len s [] [] false false Q hg
    show sm (if 16 < Q.length then (([] : List (List UInt8)), (6 : Int)) else (Q, 0)).1 ≤ _ ∧ (if 16 < Q.length then (([] : List (List UInt8)), (6 : Int)) else (Q, 0)).1.length ≤ 16
    by_cases h16 : 16 < Q.length
    · rw [if_pos h16]; exact ⟨Nat.zero_le _, Nat.zero_le _⟩
    · rw [if_neg h16]
      refine ⟨?_, by show Q.length ≤ 16; omega⟩
      show sm Q ≤ _
      have e : sm ([] : List (List UInt8)) = 0 := rfl
      rw [e, List.length_nil] at this; omega
theorem of_why (s : List UInt8) (h : (of s).2 ≠ 0) : (of s).1 = [] := by
  unfold of at h ⊢
  cases hg : go [] [] false false s with
  | none => rfl
  | some Q =>
    rw [hg] at h
    have h : (if 16 < Q.length then (([] : List (List UInt8)), (6 : Int)) else (Q, 0)).2 ≠ 0 := h
    show (if 16 < Q.length then (([] : List (List UInt8)), (6 : Int)) else (Q, 0)).1 = []
    by_cases h16 : 16 < Q.length
    · rw [if_pos h16]
    · rw [if_neg h16] at h; exact absurd rfl h
end Fd
end Go.Proofs.YtlelpeocbgjmhaaGreatDoor

/- Numbers' texts, in plain arithmetic: the digits of a number, and the number of digits. -/
set_option linter.unusedVariables false
namespace Go.Proofs.YtlelpeocbgjmhaaGreatDoor.Num
open Go Go.Lib

def dig (c : UInt8) : Bool := decide (48 ≤ c.toNat ∧ c.toNat ≤ 57)
/-- One digit more. -/
@[irreducible] def stp (acc : Nat) (c : UInt8) : Nat := acc * 10 + (c.toNat - 48)
theorem stp_eq (acc : Nat) (c : UInt8) : stp acc c = acc * 10 + (c.toNat - 48) := by unfold stp; rfl
/-- The number of digits, behind acc. -/
def val (acc : Nat) (l : List UInt8) : Nat := l.foldl stp acc
theorem val_cons (acc : Nat) (c : UInt8) (r : List UInt8) : val acc (c :: r) = val (stp acc c) r := rfl
theorem val_nil (acc : Nat) : val acc [] = acc := rfl
theorem val_ge (l : List UInt8) : ∀ (acc : Nat), acc ≤ val acc l := by
  induction l with
  | nil => intro acc; exact Nat.le_refl _
  | cons c r ih =>
    intro acc
    rw [val_cons]
    exact Nat.le_trans (by rw [stp_eq]; omega) (ih _)
theorem val_append (l : List UInt8) (acc : Nat) (c : UInt8) : val acc (l ++ [c]) = val acc l * 10 + (c.toNat - 48) := by
  unfold val
  rw [List.foldl_append]
  exact stp_eq _ _
theorem parse_nil (M acc : Nat) : parseUintM M acc [] = .ok acc := by rw [parseUintM]
theorem parse_step (M acc : Nat) (c : UInt8) (r : List UInt8) (hc : 48 ≤ c.toNat ∧ c.toNat ≤ 57) (h0 : ¬ 1844674407370955162 ≤ acc) (h1 : ¬ M < stp acc c) :
    parseUintM M acc (c :: r) = parseUintM M (stp acc c) r := by
  rw [stp_eq] at h1 ⊢
  rw [parseUintM, if_pos hc, if_neg h0, if_neg h1]
/-- It fits 64 bits. -/
def Small (M : Nat) : Prop := M < 18446744073709551616
theorem small_of {M acc : Nat} {c : UInt8} (hM : Small M) (h : stp acc c ≤ M) : ¬ 1844674407370955162 ≤ acc := by rw [stp_eq] at h; unfold Small at hM; omega
theorem parse_ok (M : Nat) (hM : Small M) (l : List UInt8) : ∀ (acc : Nat), l.all dig = true → val acc l ≤ M → parseUintM M acc l = .ok (val acc l) := by
  induction l with
  | nil => intro acc ha hv; exact parse_nil M acc
  | cons c r ih =>
    intro acc hd hv
    simp only [List.all_cons, Bool.and_eq_true, dig, decide_eq_true_eq] at hd
    obtain ⟨hc, hr⟩ := hd
    rw [val_cons] at hv ⊢
    have h2 : stp acc c ≤ M := Nat.le_trans (val_ge r _) hv
    rw [parse_step M acc c r hc (small_of hM h2) (Nat.not_lt.2 h2)]
    exact ih _ hr hv
theorem parse_all (M : Nat) (l : List UInt8) : ∀ (acc : Nat), l.all dig = true → parseUintM M acc l = .ok (val acc l) ∨ parseUintM M acc l = .range := by
  induction l with
  | nil => intro acc _; exact .inl (parse_nil M acc)
  | cons c r ih =>
    intro acc hd
    simp only [List.all_cons, Bool.and_eq_true, dig, decide_eq_true_eq] at hd
    by_cases h0 : 1844674407370955162 ≤ acc
    · right; rw [parseUintM, if_pos hd.1, if_pos h0]
    · by_cases h1 : M < stp acc c
      · right; rw [stp_eq] at h1; rw [parseUintM, if_pos hd.1, if_neg h0, if_pos h1]
      · rw [parse_step M acc c r hd.1 h0 h1, val_cons]
        exact ih _ hd.2

theorem toNat_ofNat_dig {k : Nat} (h : k < 10) : (UInt8.ofNat (48 + k)).toNat = 48 + k := by
  rw [UInt8.toNat_ofNat']; omega
theorem dec_small {u : Nat} (h : u < 10) : decDigits u = [UInt8.ofNat (48 + u)] := decDigits_one h
theorem dec_step {u : Nat} (h : ¬ u < 10) : decDigits u = decDigits (u / 10) ++ [UInt8.ofNat (48 + u % 10)] := by
  rw [decDigits, dif_neg h]
theorem dec_all : ∀ (n u : Nat), u ≤ n → (decDigits u).all dig = true ∧ decDigits u ≠ [] ∧ val 0 (decDigits u) = u ∧ (10 ≤ u → ∃ c r, decDigits u = c :: r ∧ 49 ≤ c.toNat) := by
  intro n
  induction n with
  | zero =>
    intro u hu
    have : u = 0 := by omega
    subst this
    rw [dec_small (by omega)]
    exact ⟨by decide, by simp, by rw [val_cons, val_nil, stp_eq]; decide, by omega⟩
  | succ n ih =>
    intro u hu
    by_cases h : u < 10
    · rw [dec_small h]
      have e := toNat_ofNat_dig h
      refine ⟨by simp only [List.all_cons, List.all_nil, dig, e, Bool.and_true, decide_eq_true_eq]; omega, by simp, by rw [val_cons, val_nil, stp_eq, e]; omega, by omega⟩
    · obtain ⟨a, b, c, d⟩ := ih (u / 10) (by omega)
      have e := toNat_ofNat_dig (k := u % 10) (by omega)
      rw [dec_step h]
      refine ⟨by rw [List.all_append, a]; simp only [List.all_cons, List.all_nil, dig, e, Bool.and_true, Bool.true_and, decide_eq_true_eq]; omega, by simp, by rw [val_append, c, e]; omega, fun _ => ?_⟩
      by_cases h2 : u / 10 < 10
      · rw [dec_small h2]
        have e2 := toNat_ofNat_dig h2
        exact ⟨_, _, rfl, by rw [e2]; omega⟩
      · obtain ⟨x, r, hx, hc⟩ := d (by omega)
        rw [hx]
        exact ⟨x, _, rfl, hc⟩

/-- Digits alone, one at least, without a nought ahead of another one; behind a sign no nought at all. -/
def numT (b : Bool) (l : List UInt8) : Bool :=
  match l with
  | [] => false
  | c :: r => !(c == 48 && (b || !r.isEmpty)) && (c :: r).all dig

theorem dec_of_val (l : List UInt8) : l.all dig = true → l ≠ [] → (∀ c r, l = c :: r → r ≠ [] → c ≠ 48) → decDigits (val 0 l) = l := by
  induction h : l.length generalizing l with
  | zero => intro _ hn; exact absurd (List.eq_nil_of_length_eq_zero h) hn
  | succ k ih =>
    intro ha hn hz
    obtain ⟨q, c, rfl⟩ : ∃ q c, l = q ++ [c] := ⟨l.dropLast, l.getLast hn, (List.dropLast_concat_getLast hn).symm⟩
    rw [List.all_append] at ha
    simp only [Bool.and_eq_true, List.all_cons, List.all_nil, Bool.and_true, dig, decide_eq_true_eq] at ha
    have hc : UInt8.ofNat (48 + (c.toNat - 48)) = c := by
      apply UInt8.toNat_inj.1; rw [UInt8.toNat_ofNat']; omega
    by_cases hq : q = []
    · subst hq
      rw [List.nil_append, val_cons, val_nil, stp_eq, dec_small (by omega), Nat.zero_mul, Nat.zero_add, hc]
    · have hlen : q.length = k := by simp at h; exact h
      have hr := ih q hlen ha.1 hq (fun x r e hr => hz x (r ++ [c]) (by rw [e]; rfl) (by simp))
      rw [val_append]
      -- the first digit is no nought: so the number of what is ahead is not 0
      have hpos : 1 ≤ val 0 q := by
        obtain ⟨x, r, rfl⟩ : ∃ x r, q = x :: r := by cases q with
          | nil => exact absurd rfl hq
          | cons x r => exact ⟨x, r, rfl⟩
        have hx := hz x (r ++ [c]) rfl (by simp)
        have hd : 48 ≤ x.toNat ∧ x.toNat ≤ 57 := by
          have := ha.1; simp only [List.all_cons, Bool.and_eq_true, dig, decide_eq_true_eq] at this; exact this.1
        have hx' : x.toNat ≠ 48 := fun e => hx (UInt8.toNat_inj.1 (by rw [e]; rfl))
        have hs : 1 ≤ stp 0 x := by rw [stp_eq]; omega
        rw [val_cons]; exact Nat.le_trans hs (val_ge r _)
      rw [dec_step (by omega)]
      have e1 : (val 0 q * 10 + (c.toNat - 48)) / 10 = val 0 q := by omega
      have e2 : (val 0 q * 10 + (c.toNat - 48)) % 10 = c.toNat - 48 := by omega
      rw [e1, e2, hr, hc]

/-- A number's text, as a list of bytes. -/
def isT (l : List UInt8) : Bool := numT (hasPrefix l [45]) (trimPrefix l [45])
theorem hp_cons (c : UInt8) (r : List UInt8) : hasPrefix (c :: r) [45] = (c == 45) := by
  unfold hasPrefix
  rw [List.isPrefixOf, List.isPrefixOf, Bool.and_true]
  by_cases h : c = 45
  · subst h; rfl
  · rw [show (c == 45) = false by simpa using h, beq_eq_false_iff_ne]
    exact fun e => h e.symm
theorem tp_minus (r : List UInt8) : trimPrefix (45 :: r) [45] = r := by simp [trimPrefix, hasPrefix, List.isPrefixOf]
theorem tp_other (c : UInt8) (r : List UInt8) (h : c ≠ 45) : trimPrefix (c :: r) [45] = c :: r := by
  unfold trimPrefix; rw [hp_cons]; simp [h]
theorem numT_dec (u : Nat) : numT false (decDigits u) = true := by
  obtain ⟨a, b, c, d⟩ := dec_all u u (Nat.le_refl _)
  by_cases h : u < 10
  · rw [dec_small h] at a ⊢
    simp only [numT, a]; simp
  · obtain ⟨x, r, hx, hc⟩ := d (by omega)
    rw [hx] at a ⊢
    have : (x == 48) = false := by
      rw [beq_eq_false_iff_ne]; intro e; rw [e] at hc; exact absurd hc (by decide)
    simp only [numT, a, this]; simp
theorem numT_dec_neg (u : Nat) (h1 : 1 ≤ u) : numT true (decDigits u) = true := by
  obtain ⟨a, b, c, d⟩ := dec_all u u (Nat.le_refl _)
  by_cases h : u < 10
  · rw [dec_small h] at a ⊢
    have e := toNat_ofNat_dig h
    have : (UInt8.ofNat (48 + u) == 48) = false := by
      rw [beq_eq_false_iff_ne]; intro e2; rw [e2] at e; have : (48 : UInt8).toNat = 48 := rfl; omega
    simp only [numT, a, this]; simp
  · obtain ⟨x, r, hx, hc⟩ := d (by omega)
    rw [hx] at a ⊢
    have : (x == 48) = false := by
      rw [beq_eq_false_iff_ne]; intro e; rw [e] at hc; exact absurd hc (by decide)
    simp only [numT, a, this]; simp
theorem dec_head (u : Nat) : ∃ c r, decDigits u = c :: r ∧ dig c = true := by
  obtain ⟨a, b, _, _⟩ := dec_all u u (Nat.le_refl _)
  cases h : decDigits u with
  | nil => exact absurd h b
  | cons c r => rw [h] at a; simp only [List.all_cons, Bool.and_eq_true] at a; exact ⟨c, r, rfl, a.1⟩
theorem dig_ne {c : UInt8} (h : dig c = true) : c ≠ 45 ∧ c ≠ 43 := by
  simp only [dig, decide_eq_true_eq] at h
  constructor <;> (intro e; rw [e] at h; exact absurd h (by decide))
/-- The text of a number is one. -/
theorem isT_itoa (n : Int) : isT (itoa n) = true := by
  unfold isT itoa
  by_cases h : n < 0
  · rw [if_pos h, hp_cons, tp_minus]
    exact numT_dec_neg _ (by omega)
  · rw [if_neg h]
    obtain ⟨c, r, e, hd⟩ := dec_head n.toNat
    have hne := (dig_ne hd).1
    rw [e, hp_cons, tp_other c r hne, show (c == 45) = false by simpa using hne, ← e]
    exact numT_dec _
theorem parse_dec (u : Nat) (h : u < 18446744073709551616) : parseUintB 64 (decDigits u) = .ok u := by
  obtain ⟨a, b, c, _⟩ := dec_all u u (Nat.le_refl _)
  unfold parseUintB
  rw [if_neg b]
  have := parse_ok (2 ^ 64 - 1) (by unfold Small; decide) (decDigits u) 0 a (by rw [c]; omega)
  rw [this, c]
/-- The number of a number's text is the number. -/
theorem parse_itoa (n : Int) (h0 : -9223372036854775808 ≤ n) (h1 : n ≤ 9223372036854775807) : parseIntB 64 (itoa n) = .ok n := by
  unfold itoa
  by_cases h : n < 0
  · rw [if_pos h]
    unfold parseIntB
    have e := parse_dec n.natAbs (by omega)
    simp only [show (45 : UInt8).toNat = 45 from rfl, or_true, if_true, e]
    rw [if_neg (by simp), if_neg (by simp; omega)]
    simp; omega
  · rw [if_neg h]
    obtain ⟨c, r, e, hd⟩ := dec_head n.toNat
    have e2 := parse_dec n.toNat (by omega)
    rw [e] at e2 ⊢
    simp only [dig, decide_eq_true_eq] at hd
    unfold parseIntB
    have n43 : ¬ (c.toNat = 43 ∨ c.toNat = 45) := by omega
    have n45 : ¬ c.toNat = 45 := by omega
    simp only [if_neg n43, e2]
    simp only [n45, not_false_eq_true, true_and, false_and, if_false]
    have hlt : ¬ 2 ^ (64 - 1) ≤ n.toNat := by
      have : (2 : Nat) ^ (64 - 1) = 9223372036854775808 := by decide
      rw [this]; omega
    rw [if_neg hlt]
    congr 1
    exact Int.toNat_of_nonneg (by omega)
end Go.Proofs.YtlelpeocbgjmhaaGreatDoor.Num
