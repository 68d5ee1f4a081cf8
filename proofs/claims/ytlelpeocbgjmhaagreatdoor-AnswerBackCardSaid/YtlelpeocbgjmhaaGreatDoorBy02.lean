/- Joined: FdO. -/
import Derived.Test.YtlelpeocbgjmhaaGreatDoorBy01
set_option linter.unusedVariables false
set_option linter.unusedSimpArgs false
namespace Go.Proofs.YtlelpeocbgjmhaaGreatDoor
namespace Fd
def Shut (R : List UInt8) : Prop := R = [] ∨ ∃ c r, R = c :: r ∧ mkB c = true ∧ c ≠ 34
theorem shut_32 (r : List UInt8) : Shut (32 :: r) := .inr ⟨32, r, rfl, by decide, by decide⟩
theorem fl_end (f R : List UInt8) (h : Shut R) : fl f false R = some (f, R) := by
 rcases h with rfl | ⟨c, r, rfl, hm, h4⟩
 ·
  rfl
 ·
  exact fl_shut f c r hm h4
theorem not_34 {x : List UInt8} (h : ¬ x.contains 34 = true) : ∀ c ∈ x, c ≠ 34 := by
 rintro c hc rfl
 exact h (by simpa using hc)
theorem no_mk {x : List UInt8} (h : ¬ (x.any mkB = true)) : ∀ c ∈ x, mkB c = false := by
 intro c hc
 cases hm : mkB c
 ·
  rfl
 ·
  exact absurd (List.any_eq_true.2 ⟨c, hc, hm⟩) h
theorem go_field (out : List (List UInt8)) (x R : List UInt8) (h : (tx x).2 = 0) (hR : Shut R) : go out [] false false ((tx x).1 ++ R) = go (out ++ [x]) [] false false R := by
 unfold tx at h ⊢
 by_cases hc : x.contains 34 = true
 ·
  rw [if_pos hc] at h; cases h
 ·
  rw [if_neg hc] at h ⊢
  by_cases hq : x = [] ∨ x.any mkB = true
  ·
   rw [if_pos hq]
   show go out [] false false (34 :: ((x ++ [34]) ++ R)) = _
   rw [go_s, if_neg (by decide), if_neg (by decide), if_pos rfl, go_fl, List.append_assoc]
   rw [show ([34] ++ R : List UInt8) = 34 :: R from rfl, fl_quoted R x [] (not_34 hc), List.nil_append, fl_end _ _ hR]
   rfl
  ·
   rw [if_neg hq]
   obtain ⟨h1, h2⟩ := not_or.1 hq
   have hm := no_mk h2
   cases x with
   | nil => exact absurd rfl h1
   | cons c t =>
    obtain ⟨h4, h5, hw⟩ := mk_no (hm c (List.mem_cons_self ..))
    show go out [] false false (c :: (t ++ R)) = _
    rw [go_s, if_neg h5, if_neg (by rw [hw]; decide), if_neg h4, go_fl]
    rw [fl_plain R t ([] ++ [c]) (fun y hy => hm y (List.mem_cons_of_mem _ hy)), fl_end _ _ hR]
    rfl
theorem go_blank (out : List (List UInt8)) (c : UInt8) (r : List UInt8) (h : isW c.toNat = true) : go out [] false false (c :: r) = go out [] false false r := by
 have h5 : c ≠ 35 := by rintro rfl; cases h
 rw [go_s, if_neg h5, if_pos h]; rfl
theorem jr_ok : ∀ (l : List (List UInt8)) (acc : List UInt8) (k : Nat) (J : List UInt8), jr acc k l = (J, 0) → ∃ T, J = acc ++ T ∧ (k ≠ 0 → T = [] ∨ ∃ r, T = 32 :: r) ∧ ∀ out, go out [] false false T = some (out ++ l)
 | [], acc, k, J, h => by
  injection h with h1 _
  exact ⟨[], by rw [List.append_nil]; exact h1.symm, fun _ => .inl rfl, fun out => by rw [List.append_nil]; rfl⟩
 | x :: r, acc, k, J, h => by
  unfold jr at h
  by_cases h0 : (tx x).2 = 0
  ·
   rw [if_pos h0] at h
   obtain ⟨T, hJ, hT, hg⟩ := jr_ok r _ (k + 1) J h
   have hs : Shut T := by
    rcases hT (by omega) with rfl | ⟨u, rfl⟩
    ·
     exact .inl rfl
    ·
     exact shut_32 u
   have key : ∀ out, go out [] false false ((tx x).1 ++ T) = some (out ++ x :: r) := fun out => by
    rw [go_field out x T h0 hs, hg, List.append_assoc]; rfl
   by_cases hk : k = 0
   ·
    rw [if_pos hk] at hJ
    exact ⟨(tx x).1 ++ T, by rw [hJ]; simp, fun h => absurd hk h, key⟩
   ·
    rw [if_neg hk] at hJ
    refine ⟨32 :: ((tx x).1 ++ T), by rw [hJ]; simp, fun _ => .inr ⟨_, rfl⟩, fun out => ?_⟩
    rw [go_blank _ _ _ (by decide)]
    exact key out
  ·
   rw [if_neg h0] at h
   injection h with _ h2
   exact absurd h2 h0
theorem of_jn (l : List (List UInt8)) (J : List UInt8) (h : jn l = (J, 0)) : of J = (l, 0) := by
 unfold jn at h
 by_cases h16 : 16 < l.length
 ·
  rw [if_pos h16] at h; cases h
 ·
  rw [if_neg h16] at h
  obtain ⟨T, hJ, -, hg⟩ := jr_ok l [] 0 J h
  unfold of
  rw [show J = T by rw [hJ]; rfl, hg []]
  exact if_neg h16
theorem go_no34 : ∀ (s : List UInt8) (out : List (List UInt8)) (f : List UInt8) (op q : Bool) (P : List (List UInt8)), go out f op q s = some P → (∀ x ∈ out, (34 : UInt8) ∉ x) → (34 : UInt8) ∉ f → ∀ x ∈ P, (34 : UInt8) ∉ x
 | [], out, f, op, q, P, h, ho, hf => by
  unfold go at h
  cases q
  ·
   rw [if_neg (by decide)] at h
   injection h with h
   intro x hx
   rw [← h] at hx
   cases op
   ·
    exact ho x (by simpa using hx)
   ·
    rw [if_pos rfl] at hx
    rcases List.mem_append.1 hx with hx | hx
    ·
     exact ho x hx
    ·
     rw [List.mem_singleton.1 hx]; exact hf
  ·
   rw [if_pos rfl] at h; cases h
 | c :: r, out, f, op, true, P, h, ho, hf => by
  unfold go at h
  rw [if_pos rfl] at h
  by_cases h4 : c = 34
  ·
   rw [if_pos h4] at h
   exact go_no34 r out f op false P h ho hf
  ·
   rw [if_neg h4] at h
   refine go_no34 r out (f ++ [c]) op true P h ho ?_
   simp only [List.mem_append, List.mem_singleton, not_or]
   exact ⟨hf, fun e => h4 e.symm⟩
 | c :: r, out, f, op, false, P, h, ho, hf => by
  rw [go_s] at h
  have ho2 : ∀ x ∈ (if op = true then out ++ [f] else out), (34 : UInt8) ∉ x := by
   intro x hx
   cases op
   ·
    exact ho x (by simpa using hx)
   ·
    rw [if_pos rfl] at hx
    rcases List.mem_append.1 hx with hx | hx
    ·
     exact ho x hx
    ·
     rw [List.mem_singleton.1 hx]; exact hf
  by_cases h5 : c = 35
  ·
   rw [if_pos h5] at h
   injection h with h
   rw [← h]; exact ho2
  ·
   rw [if_neg h5] at h
   cases hw : isW c.toNat
   ·
    rw [hw, if_neg (by decide)] at h
    by_cases h4 : c = 34
    ·
     rw [if_pos h4] at h
     exact go_no34 r out f true true P h ho hf
    ·
     rw [if_neg h4] at h
     refine go_no34 r out (f ++ [c]) true false P h ho ?_
     simp only [List.mem_append, List.mem_singleton, not_or]
     exact ⟨hf, fun e => h4 e.symm⟩
   ·
    rw [hw, if_pos rfl] at h
    exact go_no34 r _ [] false false P h ho2 (by simp)
theorem tx_ok {x : List UInt8} (h : (34 : UInt8) ∉ x) : (tx x).2 = 0 := by
 unfold tx
 rw [if_neg (by simpa using h)]
 split <;> rfl
def sm (l : List (List UInt8)) : Nat := (l.map (·.length)).foldr (· + ·) 0
theorem sm_cons (x : List UInt8) (l : List (List UInt8)) : sm (x :: l) = x.length + sm l := rfl
theorem sm_app : ∀ l k : List (List UInt8), sm (l ++ k) = sm l + sm k
 | [], k => by simp [sm]
 | x :: l, k => by rw [List.cons_append, sm_cons, sm_cons, sm_app l k]; omega
theorem jr_len : ∀ (l : List (List UInt8)) (acc : List UInt8) (k : Nat), (jr acc k l).1.length ≤ acc.length + sm l + 3 * l.length
 | [], acc, k => by show acc.length ≤ _; omega
 | x :: r, acc, k => by
  unfold jr
  have hx := tx_len x
  by_cases h0 : (tx x).2 = 0
  ·
   rw [if_pos h0]
   refine Nat.le_trans (jr_len r _ _) ?_
   rw [sm_cons, List.length_append, List.length_append, List.length_cons]
   have : (if k = 0 then ([] : List UInt8) else [32]).length ≤ 1 := by split <;> simp
   omega
  ·
   rw [if_neg h0]; simp
theorem jn_len (l : List (List UInt8)) : (jn l).1.length ≤ sm l + 48 := by
 unfold jn
 by_cases h16 : 16 < l.length
 ·
  rw [if_pos h16]; simp
 ·
  rw [if_neg h16]
  have := jr_len l [] 0
  simp at this; omega
theorem go_len : ∀ (s : List UInt8) (out : List (List UInt8)) (f : List UInt8) (op q : Bool) (P : List (List UInt8)), go out f op q s = some P → sm P ≤ sm out + f.length + s.length
 | [], out, f, op, q, P, h => by
  unfold go at h
  cases q
  ·
   rw [if_neg (by decide)] at h
   injection h with h
   rw [← h]
   cases op
   ·
    simp <;> omega
   ·
    rw [if_pos rfl, sm_app, sm_cons]; show _ + (_ + 0) ≤ _; omega
  ·
   rw [if_pos rfl] at h; cases h
 | c :: r, out, f, op, true, P, h => by
  unfold go at h
  rw [if_pos rfl] at h
  by_cases h4 : c = 34
  ·
   rw [if_pos h4] at h
   have := go_len r out f op false P h
   rw [List.length_cons]; omega
  ·
   rw [if_neg h4] at h
   have := go_len r out (f ++ [c]) op true P h
   rw [List.length_append, List.length_singleton] at this
   rw [List.length_cons]; omega
 | c :: r, out, f, op, false, P, h => by
  rw [go_s] at h
  have ho2 : sm (if op = true then out ++ [f] else out) ≤ sm out + f.length := by
   cases op
   ·
    simp
   ·
    rw [if_pos rfl, sm_app, sm_cons]; show _ + (_ + 0) ≤ _; omega
  rw [List.length_cons]
  by_cases h5 : c = 35
  ·
   rw [if_pos h5] at h
   injection h with h
   rw [← h]; omega
  ·
   rw [if_neg h5] at h
   cases hw : isW c.toNat
   ·
    rw [hw, if_neg (by decide)] at h
    by_cases h4 : c = 34
    ·
     rw [if_pos h4] at h
     have := go_len r out f true true P h
     omega
    ·
     rw [if_neg h4] at h
     have := go_len r out (f ++ [c]) true false P h
     rw [List.length_append, List.length_singleton] at this
     omega
   ·
    rw [hw, if_pos rfl] at h
    have := go_len r _ [] false false P h
    rw [List.length_nil] at this
    omega
theorem of_len (s : List UInt8) : sm (of s).1 ≤ s.length ∧ (of s).1.length ≤ 16 := by
 unfold of
 cases hg : go [] [] false false s with
 | none => exact ⟨Nat.zero_le _, Nat.zero_le _⟩
 | some Q =>
  have := go_len s [] [] false false Q hg
  show sm (if 16 < Q.length then (([] : List (List UInt8)), (6 : Int)) else (Q, 0)).1 ≤ _ ∧ (if 16 < Q.length then (([] : List (List UInt8)), (6 : Int)) else (Q, 0)).1.length ≤ 16
  by_cases h16 : 16 < Q.length
  ·
   rw [if_pos h16]; exact ⟨Nat.zero_le _, Nat.zero_le _⟩
  ·
   rw [if_neg h16]
   refine ⟨?_, by show Q.length ≤ 16; omega⟩
   show sm Q ≤ _
   have e : sm ([] : List (List UInt8)) = 0 := rfl
   rw [e, List.length_nil] at this; omega
end Fd
end Go.Proofs.YtlelpeocbgjmhaaGreatDoor
