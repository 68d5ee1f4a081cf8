/- Parts: a number behind a row of its own, in a region in a round. -/
import Derived.Test.YtckcmhnhmobadaaMnE0
set_option linter.unusedVariables false
set_option linter.unusedSimpArgs false
namespace Go.Proofs.Ytckcmhnhmobadaa
open Go.RowKit Go.Sort Go.Shelf

theorem step64 {F : Fence} {n : Nat} {ops : Array Oper} {o : Oper} {a : Act} {w : World} {K : Act → World → Prop} {Q : Exit → Act → World → Prop} {E : Prop} (hg : o.guard = none) (s x : Operand)
    (hop : o.op = .call { callee := .builtin .append, args := #[s, x], argTypes := #[61, 61] })
    (base : Nat) (v : Value) (k : Nat) (xs : List Value) (hs : a.eval s = v) (hown : w.ownsRow base 40 1 v k xs)
    (ad : Addr) (m c : Nat) (news : List Value) (hx : a.eval x = .slice (some ad) m c) (hn : news.length = m * 1) (hc : ∀ j u, news[j]? = some u → w.cell? (ad.add j) = some u) (h1c : ∀ u ∈ news, u.oneCell' = true)
    (b1 : k + m ≤ maxLen) (b2 : (k + m) * 8 ≤ 140737488355328) (b3 : base ≤ w.heap.size)
    (hK : ∀ v' w', w'.ownsRow base 40 1 v' (k + m) (xs ++ news) → w.grownBy w' v.ownBlock → K (a.put o.dst v') w') : if Region.wanted o (yielded ops a.tmps) = true then Oper.wpIn F n Try.prog o a w K Q else E := by
  obtain ⟨i0, hi, hz0, hz1, hz2⟩ := info_parts info_f64
  exact stepIn_append_own hg s x 61 hop base 40 i0 (.float .f64 0) 1 8 Try.underlying61 hi hz0 hz1 hz2 rfl (by decide) v k xs hs hown ad m c news hx hn hc h1c b1 b2 b3 hK
theorem Mn.prods_snoc {rs : List Nat} {pre : List Mn.P} {r : Nat} {x : Mn.P} (h : Fl.EqvL rs (Mn.prods pre)) (k : Fl.Eqv r (Mn.pw x)) : Fl.EqvL (rs ++ [r]) (Mn.prods (pre ++ [x])) := by
  unfold Mn.prods; rw [List.map_append]; exact h.snoc k
end Go.Proofs.Ytckcmhnhmobadaa
