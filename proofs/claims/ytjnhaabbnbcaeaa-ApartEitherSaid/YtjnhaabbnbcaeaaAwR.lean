/- Rules in memory. -/
import Derived.Test.YtjnhaabbnbcaeaaAwP
import Derived.Test.YtjnhaabbnbcaeaaSl
set_option linter.unusedVariables false
set_option linter.unusedSimpArgs false
namespace Go.Proofs.Ytjnhaabbnbcaeaa
open Go.RowKit Go.Sort

namespace Aw
def rcs (l : List R) : List Value := l.flatMap enc
theorem enc_len (r : R) : (enc r).length = 11 := by obtain ⟨s, fy, ty, m, k, wk, d, sec, base, save, t⟩ := r; rfl
theorem rcs_cons (p : R) (l : List R) : rcs (p :: l) = enc p ++ rcs l := rfl
theorem rcs_at (l : List R) (k c : Nat) (h : k < l.length) (hc : c < 11) : (rcs l)[k * 11 + c]? = (enc l[k])[c]? := by
  induction l generalizing k with
  | nil => exact absurd h (by simp)
  | cons p l ih =>
    rw [rcs_cons]
    cases k with
    | zero =>
      rw [Nat.zero_mul, Nat.zero_add, List.getElem?_append_left (by rw [enc_len]; exact hc)]; rfl
    | succ k =>
      have := ih k (by simpa using h)
      rw [List.getElem?_append_right (by rw [enc_len]; omega), enc_len, show (k + 1) * 11 + c - 11 = k * 11 + c by omega, this]
      rfl
end Aw
def RuV (w : World) (v : Value) (l : List Aw.R) : Prop := Lst w w.heap.size v l.length (Aw.rcs l)
theorem RuV.on {w w' : World} {v : Value} {l : List Aw.R} (h : RuV w v l) (k : Below w.heap.size w w') : RuV w' v l := Lst.on h k
/-- The cells of a rule, from an address on. -/
structure RuC (w : World) (a : Addr) (s : ByteArray) (fy ty m k wk d sec base save : Int) (t : ByteArray) : Prop where
  k0 : w.cell? a = some (.string s)
  k1 : w.cell? ⟨a.block, a.off + 1, none⟩ = some (.int .i64 fy)
  k2 : w.cell? ⟨a.block, a.off + 2, none⟩ = some (.int .i64 ty)
  k3 : w.cell? ⟨a.block, a.off + 3, none⟩ = some (.int .i64 m)
  k4 : w.cell? ⟨a.block, a.off + 4, none⟩ = some (.int .i64 k)
  k5 : w.cell? ⟨a.block, a.off + 5, none⟩ = some (.int .i64 wk)
  k6 : w.cell? ⟨a.block, a.off + 6, none⟩ = some (.int .i64 d)
  k7 : w.cell? ⟨a.block, a.off + 7, none⟩ = some (.int .i64 sec)
  k8 : w.cell? ⟨a.block, a.off + 8, none⟩ = some (.int .i64 base)
  k9 : w.cell? ⟨a.block, a.off + 9, none⟩ = some (.int .i64 save)
  k10 : w.cell? ⟨a.block, a.off + 10, none⟩ = some (.string t)
theorem RuV.get {w : World} {A : Option Addr} {n c : Nat} {l : List Aw.R} (h : RuV w (.slice A n c) l) (j : Nat) (hj : j < l.length) {s : ByteArray} {fy ty m k wk d sec base save : Int} {t : ByteArray}
    (e : l[j] = (s, fy, ty, m, k, wk, d, sec, base, save, t)) : ∃ a, A = some a ∧ a.block < w.heap.size ∧ RuC w (a.add (j * 11)) s fy ty m k wk d sec base save t := by
  obtain ⟨A', c', hv, ha⟩ := h
  obtain ⟨a, e0, hb, hc⟩ := ha (by omega)
  cases hv
  subst e0
  have e1 : ∀ i, 0 < i → (⟨(a.add (j * 11)).block, (a.add (j * 11)).off + i, none⟩ : Addr) = a.add (j * 11 + i) := fun i hi => by
    rw [← add_two]
    have : ∀ b : Addr, (⟨b.block, b.off + i, none⟩ : Addr) = b.add i := fun b => by unfold Addr.add; rw [if_neg (by omega)]
    exact this _
  have g : ∀ c u, c < 11 → (Aw.enc (s, fy, ty, m, k, wk, d, sec, base, save, t))[c]? = some u → w.cell? (a.add (j * 11 + c)) = some u := fun c u h1 h2 => hc (j * 11 + c) u (by rw [Aw.rcs_at l j c hj h1, e]; exact h2)
  refine ⟨a, rfl, hb, ?_, ?_, ?_, ?_, ?_, ?_, ?_, ?_, ?_, ?_, ?_⟩
  · exact g 0 _ (by decide) rfl
  · rw [e1 1 (by decide)]; exact g 1 _ (by decide) rfl
  · rw [e1 2 (by decide)]; exact g 2 _ (by decide) rfl
  · rw [e1 3 (by decide)]; exact g 3 _ (by decide) rfl
  · rw [e1 4 (by decide)]; exact g 4 _ (by decide) rfl
  · rw [e1 5 (by decide)]; exact g 5 _ (by decide) rfl
  · rw [e1 6 (by decide)]; exact g 6 _ (by decide) rfl
  · rw [e1 7 (by decide)]; exact g 7 _ (by decide) rfl
  · rw [e1 8 (by decide)]; exact g 8 _ (by decide) rfl
  · rw [e1 9 (by decide)]; exact g 9 _ (by decide) rfl
  · rw [e1 10 (by decide)]; exact g 10 _ (by decide) rfl
end Go.Proofs.Ytjnhaabbnbcaeaa
