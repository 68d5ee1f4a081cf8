/- Joined: MnE0, MnE1. -/
import Derived.Test.YtnfjdjfajkdiiaaMnD
set_option linter.unusedVariables false
set_option linter.unusedSimpArgs false
namespace Go.Proofs.Ytnfjdjfajkdiiaa
section
open Go.RowKit Go.Sort

namespace Fl
theorem cop_lt (op : BinOp) (x y : Nat) : cop op x y < 18446744073709551616 := by
  unfold cop
  cases h : floatBits op .f64 x y with
  | none => show (9221120237041090560 : Nat) < _; decide
  | some r => exact some_lt h
theorem cop_eqv {op : BinOp} (hop : op = .add ∨ op = .sub ∨ op = .mul ∨ op = .quo) {x x' y y' : Nat} (h : Eqv x x') (k : Eqv y y') : cop op x y = cop op x' y' := by
  rcases h.2 with rfl | ⟨a, b⟩
  · rcases k.2 with rfl | ⟨a, b⟩
    · rfl
    · unfold cop; rw [arith_nan2 hop a, arith_nan2 hop b]
  · unfold cop; rw [arith_nan1 hop a, arith_nan1 hop b]
/-- Lists of words, one by one the same, or no numbers. -/
def EqvL : List Nat → List Nat → Prop
  | [], [] => True
  | x :: l, y :: k => Eqv x y ∧ EqvL l k
  | _, _ => False
theorem EqvL.len : ∀ {l k : List Nat}, EqvL l k → l.length = k.length
  | [], [], _ => rfl
  | [], _ :: _, h => h.elim
  | _ :: _, [], h => h.elim
  | x :: l, y :: k, h => by rw [List.length_cons, List.length_cons, EqvL.len h.2]
theorem EqvL.snoc : ∀ {l k : List Nat} {x y : Nat}, EqvL l k → Eqv x y → EqvL (l ++ [x]) (k ++ [y])
  | [], [], _, _, _, h => ⟨h, trivial⟩
  | [], _ :: _, _, _, h, _ => h.elim
  | _ :: _, [], _, _, h, _ => h.elim
  | a :: l, b :: k, _, _, h, g => ⟨h.1, EqvL.snoc h.2 g⟩
theorem EqvL.refl : ∀ {l : List Nat}, (∀ x ∈ l, x < 18446744073709551616) → EqvL l l
  | [], _ => trivial
  | x :: l, h => ⟨Eqv.refl (h x (List.mem_cons_self ..)), EqvL.refl fun y hy => h y (List.mem_cons_of_mem _ hy)⟩
theorem EqvL.lt : ∀ {l k : List Nat}, EqvL l k → ∀ x ∈ l, x < 18446744073709551616
  | [], _, _, _, hx => absurd hx (by simp)
  | a :: l, [], h, _, _ => h.elim
  | a :: l, b :: k, h, x, hx => by
    rcases List.mem_cons.1 hx with rfl | hx
    · exact h.1.1
    · exact EqvL.lt h.2 x hx
theorem fold_eqv : ∀ {l k : List Nat} {s s' : Nat}, EqvL l k → Eqv s s' → Eqv (l.foldl (fun s y => cop .add s y) s) (k.foldl (fun s y => cop .add s y) s')
  | [], [], _, _, _, h => h
  | [], _ :: _, _, _, h, _ => h.elim
  | _ :: _, [], _, _, h, _ => h.elim
  | x :: l, y :: k, s, s', h, g => by
    rw [List.foldl_cons, List.foldl_cons]
    refine fold_eqv h.2 ?_
    rw [cop_eqv (.inl rfl) g h.1]
    exact Eqv.refl (cop_lt _ _ _)
theorem csum_eqv : ∀ {l k : List Nat}, EqvL l k → Eqv (csum l) (csum k)
  | [], [], _ => Eqv.refl (by decide)
  | [], _ :: _, h => h.elim
  | _ :: _, [], h => h.elim
  | x :: l, y :: k, h => fold_eqv h.2 h.1
theorem Eqv.trans {a b c : Nat} (h : Eqv a b) (k : Eqv b c) : Eqv a c := by
  refine ⟨h.1, ?_⟩
  rcases h.2 with rfl | ⟨a1, a2⟩
  · exact k.2
  · rcases k.2 with rfl | ⟨b1, b2⟩
    · exact .inr ⟨a1, a2⟩
    · exact .inr ⟨a1, b2⟩
end Fl
namespace Mn
/-- What a part weighs. -/
def pw (p : P) : Nat := Fl.cop .mul (FloatKind.f64.nearest p.2.2) (lw p)
def prods (l : List P) : List Nat := l.map pw
theorem prods_lt (l : List P) : ∀ x ∈ prods l, x < 18446744073709551616 := by
  intro x hx
  obtain ⟨p, _, rfl⟩ := List.mem_map.1 hx
  exact Fl.cop_lt _ _ _
/-- The mean, and why there is none. -/
def mean (s0 s1 : Int) (l : List P) : Nat := Fl.cop .quo (Fl.csum (prods (cnt s0 s1 l))) (Fl.csum (lens (cnt s0 s1 l)))
end Mn
end
section
open Go.RowKit Go.Sort Go.Shelf

theorem step64 {F : Fence} {n : Nat} {ops : Array Oper} {o : Oper} {a : Act} {w : World} {K : Act → World → Prop} {Q : Exit → Act → World → Prop} {E : Prop} (hg : o.guard = none) (s x : Operand)
    (hop : o.op = .call { callee := .builtin .append, args := #[s, x], argTypes := #[53, 53] })
    (base : Nat) (v : Value) (k : Nat) (xs : List Value) (hs : a.eval s = v) (hown : w.ownsRow base 43 1 v k xs)
    (ad : Addr) (m c : Nat) (news : List Value) (hx : a.eval x = .slice (some ad) m c) (hn : news.length = m * 1) (hc : ∀ j u, news[j]? = some u → w.cell? (ad.add j) = some u) (h1c : ∀ u ∈ news, u.oneCell' = true)
    (b1 : k + m ≤ maxLen) (b2 : (k + m) * 8 ≤ 140737488355328) (b3 : base ≤ w.heap.size)
    (hK : ∀ v' w', w'.ownsRow base 43 1 v' (k + m) (xs ++ news) → w.grownBy w' v.ownBlock → K (a.put o.dst v') w') : if Region.wanted o (yielded ops a.tmps) = true then Oper.wpIn F n Try.prog o a w K Q else E := by
  obtain ⟨i0, hi, hz0, hz1, hz2⟩ := info_parts info_f64
  exact stepIn_append_own hg s x 53 hop base 43 i0 (.float .f64 0) 1 8 Try.underlying53 hi hz0 hz1 hz2 rfl (by decide) v k xs hs hown ad m c news hx hn hc h1c b1 b2 b3 hK
theorem Mn.prods_snoc {rs : List Nat} {pre : List Mn.P} {r : Nat} {x : Mn.P} (h : Fl.EqvL rs (Mn.prods pre)) (k : Fl.Eqv r (Mn.pw x)) : Fl.EqvL (rs ++ [r]) (Mn.prods (pre ++ [x])) := by
  unfold Mn.prods; rw [List.map_append]; exact h.snoc k
end
end Go.Proofs.Ytnfjdjfajkdiiaa
