/- Joined: Base, Sqz, FdL, FdM, FdO. -/
import Derived.Test.YtifgiclnofdnkaaGreatDoorProg
import Derived.WalkKit
import Derived.WalkSpells
import Derived.WalkLawsBesides
import Derived.BigQuiet
import Derived.Deep.QuietTactic
import Derived.Deep.RegionHeld3
import Derived.WalkSmall
import Derived.Lib.Hide
import Derived.Handy
import Derived.Deep.Cut
import Derived.Below
set_option linter.unusedVariables false
set_option linter.unusedSimpArgs false
namespace Go.Proofs.YtifgiclnofdnkaaGreatDoor
open Go.RowKit
theorem ret_int {k : IntKind} {a b : Int} (h : a = b) : Ending.returned (.int k a) = .returned (.int k b) := by rw [h]
theorem bcell {W w1 : World} (hb : Below W.heap.size W w1) : (∀ b o, b < W.heap.size → w1.cell? ⟨b, o, none⟩ = W.cell? ⟨b, o, none⟩) ∧ (∀ b o, b < W.heap.size → w1.frozen? ⟨b, o, none⟩ = W.frozen? ⟨b, o, none⟩) :=
 ⟨fun b o h => hb.cell (p := ⟨b, o, none⟩) h, fun b o h => hb.frozen (p := ⟨b, o, none⟩) h⟩
theorem below_new (w : World) (o : Obj) (n : Nat) : Below w.heap.size w ((w.alloc o).drewN n) := _root_.Go.below_drewN ((Below.refl _ _).alloc (Nat.le_refl _) _) n
theorem below_draw {B : Nat} (w : World) (n : Nat) : Below B w (w.drewN n) := _root_.Go.below_drewN (Below.refl _ _) n
theorem below_step {w W W' : World} (h : Below w.heap.size w W) (k : Below W.heap.size W W') : Below w.heap.size w W' := h.trans (k.mono h.size)
section
variable {P : Program} {f : FuncId} {args : Array Value} {w : World} {n k : Nat} {v : Value}
theorem q_same (h : Calls P f args (w.drewN n) fun e w' => e = .returned v ∧ w.drewN n = w') : Calls P f args (w.drewN n) fun e w'' => e = .returned v ∧ ∃ m, w'' = w.drewN m :=
 h.mono fun _ _ ⟨he, hm⟩ => ⟨he, n, hm.symm⟩
theorem q_same2 (h : Calls P f args (w.drewN (n + k)) fun e w' => e = .returned v ∧ w.drewN (n + k) = w') : Calls P f args (w.drewN (n + k)) fun e w'' => e = .returned v ∧ ∃ m, w'' = w.drewN (n + m) :=
 h.mono fun _ _ ⟨he, hm⟩ => ⟨he, k, hm.symm⟩
end
end Go.Proofs.YtifgiclnofdnkaaGreatDoor
namespace Go.Sort
end Go.Sort
namespace Go.Proofs.YtifgiclnofdnkaaGreatDoor
open Go.RowKit Go.Sort
theorem gr0 {n : Nat} {u v : World} (h : Below n u v := by repeat (first | exact Below.refl _ _ | refine _root_.Go.below_drewN ?_ _ | refine Below.drew ?_ | refine Below.setCell ?_ (by first | (simp; done) | (simp; omega) | omega) _ | refine Below.alloc ?_ (by first | (simp; done) | (simp; omega) | omega) _)) : Below n u v := h
theorem grP {n : Nat} {u v : World} (h : Below n u v := by first | exact Below.refl _ _ | exact (Below.refl _ _).alloc (Nat.le_refl _) _ | exact below_draw _ _ | assumption) : Below n u v := h
theorem kq {W : World} {fa : Act} {d : Option Nat} {KK : Act → World → Prop} (V : Value) (h : ∀ v w', Below W.heap.size W w' → v = V → KK (Act.put fa d v) w') : ∀ v w', Below W.heap.size W w' → v = V → KK (Act.put fa d v) w' := h
theorem grB {u v W : World} (b : Hid (Below u.heap.size u W)) (h : u.heap.size ≤ W.heap.size → Below u.heap.size u W → Below u.heap.size u v := by intro hz B; repeat (first | refine Below.setCell ?_ (by first | omega | (simp; done) | (simp; omega)) _ | refine Below.alloc ?_ (by first | omega | (simp; done) | (simp; omega)) _ | refine _root_.Go.below_drewN ?_ _ | refine Below.drew ?_ | exact B)) : Below u.heap.size u v := h b.out.size b.out
end Go.Proofs.YtifgiclnofdnkaaGreatDoor
set_option linter.unusedVariables false
set_option linter.unusedSimpArgs false
namespace Go.Proofs.YtifgiclnofdnkaaGreatDoor
namespace Fd
def isK (r : Nat) : Bool := (decide (r = 32) || decide (r = 9)) || (decide (r = 34) || decide (r = 35))
def isW (r : Nat) : Bool := decide (r = 32) || decide (r = 9)
def mkB (c : UInt8) : Bool := isK c.toNat
def tx (l : List UInt8) : List UInt8 × Int := if l.contains 34 = true then ([], 8) else if l = [] ∨ l.any mkB = true then (34 :: (l ++ [34]), 0) else (l, 0)
end Fd
namespace Fd
def go (out : List (List UInt8)) (f : List UInt8) (op q : Bool) : List UInt8 → Option (List (List UInt8))
 | [] => if q = true then none else some (if op = true then out ++ [f] else out)
 | c :: r => if q = true then (if c = 34 then go out f op false r else go out (f ++ [c]) op true r)
  else if c = 35 then some (if op = true then out ++ [f] else out)
  else if isW c.toNat = true then go (if op = true then out ++ [f] else out) [] false false r
  else if c = 34 then go out f true true r
  else go out (f ++ [c]) true false r
def told : Option (List (List UInt8)) → List (List UInt8) × Int
 | none => ([], 8)
 | some P => if 16 < P.length then ([], 6) else (P, 0)
def of (l : List UInt8) : List (List UInt8) × Int := told (go [] [] false false l)
def fl (f : List UInt8) (q : Bool) : List UInt8 → Option (List UInt8 × List UInt8)
 | [] => if q = true then none else some (f, [])
 | c :: r => if q = true then (if c = 34 then fl f false r else fl (f ++ [c]) true r)
  else if c = 34 then fl f true r
  else if mkB c = true then some (f, c :: r)
  else fl (f ++ [c]) false r
def nx (out : List (List UInt8)) : Option (List UInt8 × List UInt8) → Option (List (List UInt8))
 | none => none
 | some (f, r) => go (out ++ [f]) [] false false r
theorem mk_no {c : UInt8} (h : mkB c = false) : c ≠ 34 ∧ c ≠ 35 ∧ isW c.toNat = false := by
 unfold mkB isK at h
 rw [Bool.or_eq_false_iff] at h
 obtain ⟨h1, h2⟩ := h
 rw [Bool.or_eq_false_iff, decide_eq_false_iff_not, decide_eq_false_iff_not] at h2
 refine ⟨?_, ?_, h1⟩
 ·
  rintro rfl; exact h2.1 (by decide)
 ·
  rintro rfl; exact h2.2 (by decide)
theorem mk_35 {c : UInt8} (h : mkB c = true) (h4 : c ≠ 34) (hw : isW c.toNat = false) : c = 35 := by
 unfold mkB isK at h
 unfold isW at hw
 rw [hw, Bool.false_or, Bool.or_eq_true, decide_eq_true_eq, decide_eq_true_eq] at h
 rcases h with h | h
 ·
  exact absurd (UInt8.toNat_inj.1 (show c.toNat = (34 : UInt8).toNat from h)) h4
 ·
  exact UInt8.toNat_inj.1 (show c.toNat = (35 : UInt8).toNat from h)
theorem go_s (out : List (List UInt8)) (f : List UInt8) (op : Bool) (c : UInt8) (r : List UInt8) : go out f op false (c :: r) = if c = 35 then some (if op = true then out ++ [f] else out)
  else if isW c.toNat = true then go (if op = true then out ++ [f] else out) [] false false r
  else if c = 34 then go out f true true r
  else go out (f ++ [c]) true false r := by
 conv => lhs; unfold go
 exact if_neg (by decide)
theorem go_fl (out : List (List UInt8)) : ∀ (l f : List UInt8) (q : Bool), go out f true q l = nx out (fl f q l)
 | [], f, q => by cases q <;> rfl
 | c :: r, f, true => by
  unfold go fl
  rw [if_pos rfl, if_pos rfl]
  by_cases h : c = 34
  ·
   rw [if_pos h, if_pos h]; exact go_fl out r f false
  ·
   rw [if_neg h, if_neg h]; exact go_fl out r _ true
 | c :: r, f, false => by
  by_cases h : c = 34
  ·
   subst h
   show (if false = true then _ else if (34 : UInt8) = 35 then _ else if isW (34 : UInt8).toNat = true then _ else if (34 : UInt8) = 34 then go out f true true r else _) = nx out (if false = true then _ else if (34 : UInt8) = 34 then fl f true r else _)
   rw [if_neg (by decide), if_neg (by decide), if_neg (by decide), if_pos rfl, if_neg (by decide), if_pos rfl]
   exact go_fl out r f true
  ·
   cases hm : mkB c
   ·
    obtain ⟨-, h5, hw⟩ := mk_no hm
    rw [go_s, if_neg h5, if_neg (by rw [hw]; decide), if_neg h]
    conv => rhs; unfold fl
    rw [if_neg (by decide), if_neg h, if_neg (by rw [hm]; decide)]
    exact go_fl out r _ false
   ·
    have e : fl f false (c :: r) = some (f, c :: r) := by
     unfold fl
     rw [if_neg (by decide), if_neg h, if_pos hm]
    rw [e]
    show _ = go (out ++ [f]) [] false false (c :: r)
    rw [go_s, go_s]
    by_cases h5 : c = 35
    ·
     rw [if_pos h5, if_pos h5]; rfl
    ·
     rw [if_neg h5, if_neg h5]
     cases hw : isW c.toNat
     ·
      exact absurd (mk_35 hm h hw) h5
     ·
      rw [if_pos rfl, if_pos rfl]; rfl
def dw (l : List UInt8) : List UInt8 := l.dropWhile (fun c => isW c.toNat)
theorem go_dw (out : List (List UInt8)) : ∀ l : List UInt8, go out [] false false l = go out [] false false (dw l)
 | [] => rfl
 | c :: r => by
  unfold dw
  rw [List.dropWhile_cons]
  cases hw : isW c.toNat
  ·
   rw [if_neg (by decide)]
  ·
   rw [if_pos rfl]
   have h5 : c ≠ 35 := by rintro rfl; cases hw
   have : go out [] false false (c :: r) = go out [] false false r := by
    rw [go_s, if_neg h5, if_pos hw]; rfl
   rw [this]
   exact go_dw out r
theorem dw_len (l : List UInt8) : (dw l).length ≤ l.length := by
 unfold dw
 have := List.dropWhile_suffix (l := l) (fun c => isW c.toNat)
 exact this.length_le
theorem dw_head (l : List UInt8) (c : UInt8) (r : List UInt8) (h : dw l = c :: r) : isW c.toNat = false := by
 induction l with
 | nil => cases h
 | cons x t ih =>
  unfold dw at h ih
  rw [List.dropWhile_cons] at h
  cases hw : isW x.toNat
  ·
   rw [if_neg (by rw [hw]; decide)] at h
   injection h with h1 h2
   rw [← h1]; exact hw
  ·
   rw [if_pos hw] at h
   exact ih h
theorem go_end (out : List (List UInt8)) (l : List UInt8) (h : l = [] ∨ ∃ r, l = 35 :: r) : go out [] false false l = some out := by
 rcases h with rfl | ⟨r, rfl⟩
 ·
  rfl
 ·
  rfl
theorem go_open (out : List (List UInt8)) (c : UInt8) (r : List UInt8) (hw : isW c.toNat = false) (h5 : c ≠ 35) : go out [] false false (c :: r) = nx out (fl [] false (c :: r)) := by
 rw [← go_fl, go_s, go_s, if_neg h5, if_neg h5, hw]
 rfl
theorem fl_plain (s : List UInt8) : ∀ (p f : List UInt8), (∀ c ∈ p, mkB c = false) → fl f false (p ++ s) = fl (f ++ p) false s
 | [], f, _ => by rw [List.append_nil]; rfl
 | c :: p, f, h => by
  have hm := h c (List.mem_cons_self ..)
  obtain ⟨h4, -, -⟩ := mk_no hm
  rw [List.cons_append]
  conv => lhs; unfold fl
  rw [if_neg (by decide), if_neg h4, if_neg (by rw [hm]; decide), fl_plain s p (f ++ [c]) (fun x hx => h x (List.mem_cons_of_mem _ hx)), List.append_assoc]
  rfl
theorem fl_shut (f : List UInt8) (c : UInt8) (r : List UInt8) (hm : mkB c = true) (h4 : c ≠ 34) : fl f false (c :: r) = some (f, c :: r) := by
 unfold fl
 rw [if_neg (by decide), if_neg h4, if_pos hm]
theorem fl_34 (f r : List UInt8) : fl f false (34 :: r) = fl f true r := rfl
theorem fl_quoted (u : List UInt8) : ∀ (x f : List UInt8), (∀ c ∈ x, c ≠ 34) → fl f true (x ++ 34 :: u) = fl (f ++ x) false u
 | [], f, _ => by rw [List.append_nil]; rfl
 | c :: x, f, h => by
  rw [List.cons_append]
  conv => lhs; unfold fl
  rw [if_pos rfl, if_neg (h c (List.mem_cons_self ..)), fl_quoted u x (f ++ [c]) (fun y hy => h y (List.mem_cons_of_mem _ hy)), List.append_assoc]
  rfl
theorem fl_lost : ∀ (x f : List UInt8), (∀ c ∈ x, c ≠ 34) → fl f true x = none
 | [], f, _ => rfl
 | c :: x, f, h => by
  unfold fl
  rw [if_pos rfl, if_neg (h c (List.mem_cons_self ..)), fl_lost x (f ++ [c]) (fun y hy => h y (List.mem_cons_of_mem _ hy))]
theorem fl_len : ∀ (l f : List UInt8) (q : Bool) (g r : List UInt8), fl f q l = some (g, r) → r.length ≤ l.length ∧ g.length ≤ f.length + l.length
 | [], f, q, g, r, h => by
  cases q
  ·
   injection h with h; injection h with h1 h2; subst h1; subst h2; simp
  ·
   cases h
 | c :: t, f, q, g, r, h => by
  unfold fl at h
  by_cases hq : q = true
  ·
   rw [if_pos hq] at h
   by_cases h4 : c = 34
   ·
    rw [if_pos h4] at h
    have := fl_len t f false g r h
    simp; omega
   ·
    rw [if_neg h4] at h
    have := fl_len t _ true g r h
    simp at this ⊢; omega
  ·
   rw [if_neg hq] at h
   by_cases h4 : c = 34
   ·
    rw [if_pos h4] at h
    have := fl_len t f true g r h
    simp; omega
   ·
    rw [if_neg h4] at h
    by_cases hm : mkB c = true
    ·
     rw [if_pos hm] at h
     injection h with h; injection h with h1 h2; subst h1; subst h2; simp
    ·
     rw [if_neg hm] at h
     have := fl_len t _ false g r h
     simp at this ⊢; omega
theorem fl_less (c : UInt8) (t : List UInt8) (g r : List UInt8) (hw : isW c.toNat = false) (h5 : c ≠ 35) (h : fl [] false (c :: t) = some (g, r)) : r.length ≤ t.length := by
 unfold fl at h
 rw [if_neg (by decide)] at h
 by_cases h4 : c = 34
 ·
  rw [if_pos h4] at h
  exact (fl_len t _ _ _ _ h).1
 ·
  rw [if_neg h4] at h
  cases hm : mkB c
  ·
   rw [if_neg (by rw [hm]; decide)] at h
   exact (fl_len t _ _ _ _ h).1
  ·
   exact absurd (mk_35 hm h4 hw) h5
def jr (acc : List UInt8) (k : Nat) : List (List UInt8) → List UInt8 × Int
 | [] => (acc, 0)
 | x :: r => if (tx x).2 = 0 then jr (acc ++ ((if k = 0 then [] else [32]) ++ (tx x).1)) (k + 1) r else ([], (tx x).2)
def jn (l : List (List UInt8)) : List UInt8 × Int := if 16 < l.length then ([], 6) else jr [] 0 l
theorem tx_len (l : List UInt8) : (tx l).1.length ≤ l.length + 2 := by
 unfold tx
 split
 ·
  simp
 ·
  split
  ·
   simp
  ·
   simp
theorem tx_why (l : List UInt8) : (tx l).2 = 0 ∨ (tx l).2 = 8 := by
 unfold tx
 split
 ·
  exact .inr rfl
 ·
  split <;> exact .inl rfl
end Fd
namespace Fd
def Shut (R : List UInt8) : Prop := R = [] ∨ ∃ c r, R = c :: r ∧ mkB c = true ∧ c ≠ 34
theorem shut_32 (r : List UInt8) : Shut (32 :: r) := .inr ⟨32, r, rfl, by decide, by decide⟩
theorem fl_end (f R : List UInt8) (h : Shut R) : fl f false R = some (f, R) := by
 rcases h with rfl | ⟨c, r, rfl, hm, h4⟩
 ·
  rfl
 ·
  exact fl_shut f c r hm h4
theorem not_34 {x : List UInt8} (h : ¬ x.contains 34 = true) : ∀ c ∈ x, c ≠ 34 := by
 rintro c hc rfl
 exact h (by simpa using hc)
theorem no_mk {x : List UInt8} (h : ¬ (x.any mkB = true)) : ∀ c ∈ x, mkB c = false := by
 intro c hc
 cases hm : mkB c
 ·
  rfl
 ·
  exact absurd (List.any_eq_true.2 ⟨c, hc, hm⟩) h
theorem go_field (out : List (List UInt8)) (x R : List UInt8) (h : (tx x).2 = 0) (hR : Shut R) : go out [] false false ((tx x).1 ++ R) = go (out ++ [x]) [] false false R := by
 unfold tx at h ⊢
 by_cases hc : x.contains 34 = true
 ·
  rw [if_pos hc] at h; cases h
 ·
  rw [if_neg hc] at h ⊢
  by_cases hq : x = [] ∨ x.any mkB = true
  ·
   rw [if_pos hq]
   show go out [] false false (34 :: ((x ++ [34]) ++ R)) = _
   rw [go_s, if_neg (by decide), if_neg (by decide), if_pos rfl, go_fl, List.append_assoc]
   rw [show ([34] ++ R : List UInt8) = 34 :: R from rfl, fl_quoted R x [] (not_34 hc), List.nil_append, fl_end _ _ hR]
   rfl
  ·
   rw [if_neg hq]
   obtain ⟨h1, h2⟩ := not_or.1 hq
   have hm := no_mk h2
   cases x with
   | nil => exact absurd rfl h1
   | cons c t =>
    obtain ⟨h4, h5, hw⟩ := mk_no (hm c (List.mem_cons_self ..))
    show go out [] false false (c :: (t ++ R)) = _
    rw [go_s, if_neg h5, if_neg (by rw [hw]; decide), if_neg h4, go_fl]
    rw [fl_plain R t ([] ++ [c]) (fun y hy => hm y (List.mem_cons_of_mem _ hy)), fl_end _ _ hR]
    rfl
theorem go_blank (out : List (List UInt8)) (c : UInt8) (r : List UInt8) (h : isW c.toNat = true) : go out [] false false (c :: r) = go out [] false false r := by
 have h5 : c ≠ 35 := by rintro rfl; cases h
 rw [go_s, if_neg h5, if_pos h]; rfl
theorem jr_ok : ∀ (l : List (List UInt8)) (acc : List UInt8) (k : Nat) (J : List UInt8), jr acc k l = (J, 0) → ∃ T, J = acc ++ T ∧ (k ≠ 0 → T = [] ∨ ∃ r, T = 32 :: r) ∧ ∀ out, go out [] false false T = some (out ++ l)
 | [], acc, k, J, h => by
  injection h with h1 _
  exact ⟨[], by rw [List.append_nil]; exact h1.symm, fun _ => .inl rfl, fun out => by rw [List.append_nil]; rfl⟩
 | x :: r, acc, k, J, h => by
  unfold jr at h
  by_cases h0 : (tx x).2 = 0
  ·
   rw [if_pos h0] at h
   obtain ⟨T, hJ, hT, hg⟩ := jr_ok r _ (k + 1) J h
   have hs : Shut T := by
    rcases hT (by omega) with rfl | ⟨u, rfl⟩
    ·
     exact .inl rfl
    ·
     exact shut_32 u
   have key : ∀ out, go out [] false false ((tx x).1 ++ T) = some (out ++ x :: r) := fun out => by
    rw [go_field out x T h0 hs, hg, List.append_assoc]; rfl
   by_cases hk : k = 0
   ·
    rw [if_pos hk] at hJ
    exact ⟨(tx x).1 ++ T, by rw [hJ]; simp, fun h => absurd hk h, key⟩
   ·
    rw [if_neg hk] at hJ
    refine ⟨32 :: ((tx x).1 ++ T), by rw [hJ]; simp, fun _ => .inr ⟨_, rfl⟩, fun out => ?_⟩
    rw [go_blank _ _ _ (by decide)]
    exact key out
  ·
   rw [if_neg h0] at h
   injection h with _ h2
   exact absurd h2 h0
theorem of_jn (l : List (List UInt8)) (J : List UInt8) (h : jn l = (J, 0)) : of J = (l, 0) := by
 unfold jn at h
 by_cases h16 : 16 < l.length
 ·
  rw [if_pos h16] at h; cases h
 ·
  rw [if_neg h16] at h
  obtain ⟨T, hJ, -, hg⟩ := jr_ok l [] 0 J h
  unfold of
  rw [show J = T by rw [hJ]; rfl, hg []]
  exact if_neg h16
def sm (l : List (List UInt8)) : Nat := (l.map (·.length)).foldr (· + ·) 0
theorem sm_cons (x : List UInt8) (l : List (List UInt8)) : sm (x :: l) = x.length + sm l := rfl
theorem sm_app : ∀ l k : List (List UInt8), sm (l ++ k) = sm l + sm k
 | [], k => by simp [sm]
 | x :: l, k => by rw [List.cons_append, sm_cons, sm_cons, sm_app l k]; omega
theorem go_len : ∀ (s : List UInt8) (out : List (List UInt8)) (f : List UInt8) (op q : Bool) (P : List (List UInt8)), go out f op q s = some P → sm P ≤ sm out + f.length + s.length
 | [], out, f, op, q, P, h => by
  unfold go at h
  cases q
  ·
   rw [if_neg (by decide)] at h
   injection h with h
   rw [← h]
   cases op
   ·
    simp <;> omega
   ·
    rw [if_pos rfl, sm_app, sm_cons]; show _ + (_ + 0) ≤ _; omega
  ·
   rw [if_pos rfl] at h; cases h
 | c :: r, out, f, op, true, P, h => by
  unfold go at h
  rw [if_pos rfl] at h
  by_cases h4 : c = 34
  ·
   rw [if_pos h4] at h
   have := go_len r out f op false P h
   rw [List.length_cons]; omega
  ·
   rw [if_neg h4] at h
   have := go_len r out (f ++ [c]) op true P h
   rw [List.length_append, List.length_singleton] at this
   rw [List.length_cons]; omega
 | c :: r, out, f, op, false, P, h => by
  rw [go_s] at h
  have ho2 : sm (if op = true then out ++ [f] else out) ≤ sm out + f.length := by
   cases op
   ·
    simp
   ·
    rw [if_pos rfl, sm_app, sm_cons]; show _ + (_ + 0) ≤ _; omega
  rw [List.length_cons]
  by_cases h5 : c = 35
  ·
   rw [if_pos h5] at h
   injection h with h
   rw [← h]; omega
  ·
   rw [if_neg h5] at h
   cases hw : isW c.toNat
   ·
    rw [hw, if_neg (by decide)] at h
    by_cases h4 : c = 34
    ·
     rw [if_pos h4] at h
     have := go_len r out f true true P h
     omega
    ·
     rw [if_neg h4] at h
     have := go_len r out (f ++ [c]) true false P h
     rw [List.length_append, List.length_singleton] at this
     omega
   ·
    rw [hw, if_pos rfl] at h
    have := go_len r _ [] false false P h
    rw [List.length_nil] at this
    omega
theorem of_len (s : List UInt8) : sm (of s).1 ≤ s.length ∧ (of s).1.length ≤ 16 := by
 unfold of
 cases hg : go [] [] false false s with
 | none => exact ⟨Nat.zero_le _, Nat.zero_le _⟩
 | some Q =>
  have := go_len s [] [] false false Q hg
  show sm (if 16 < Q.length then (([] : List (List UInt8)), (6 : Int)) else (Q, 0)).1 ≤ _ ∧ (if 16 < Q.length then (([] : List (List UInt8)), (6 : Int)) else (Q, 0)).1.length ≤ 16
  by_cases h16 : 16 < Q.length
  ·
   rw [if_pos h16]; exact ⟨Nat.zero_le _, Nat.zero_le _⟩
  ·
   rw [if_neg h16]
   refine ⟨?_, by show Q.length ≤ 16; omega⟩
   show sm Q ≤ _
   have e : sm ([] : List (List UInt8)) = 0 := rfl
   rw [e, List.length_nil] at this; omega
end Fd
end Go.Proofs.YtifgiclnofdnkaaGreatDoor
