/- Infos, in lists: their cells. -/
import Derived.Test.YtmnmmbeageddkaaSl
import Derived.Test.YtmnmmbeageddkaaMnD0
set_option linter.unusedVariables false
set_option linter.unusedSimpArgs false
namespace Go.Proofs.Ytmnmmbeageddkaa
open Go.RowKit Go.Sort

namespace If
/-- An info: from, to, offset, saved, its name. -/
abbrev I := Int × Int × Int × Int × ByteArray
def enc (p : I) : List Value := [.int .i64 p.1, .int .i64 p.2.1, .int .i64 p.2.2.1, .int .i64 p.2.2.2.1, .string p.2.2.2.2]
def ifc (l : List I) : List Value := l.flatMap enc
theorem ifc_app (l k : List I) : ifc (l ++ k) = ifc l ++ ifc k := by unfold ifc; rw [List.flatMap_append]
theorem ifc_cons (p : I) (l : List I) : ifc (p :: l) = .int .i64 p.1 :: .int .i64 p.2.1 :: .int .i64 p.2.2.1 :: .int .i64 p.2.2.2.1 :: .string p.2.2.2.2 :: ifc l := rfl
theorem ifc_len (l : List I) : (ifc l).length = l.length * 5 := by
  induction l with
  | nil => rfl
  | cons p l ih => rw [ifc_cons]; simp only [List.length_cons]; omega
theorem ifc_one (l : List I) : ∀ u ∈ ifc l, u.oneCell' = true := by
  intro u hu
  unfold ifc at hu
  obtain ⟨p, _, hp⟩ := List.mem_flatMap.1 hu
  simp [enc] at hp
  rcases hp with rfl | rfl | rfl | rfl | rfl <;> rfl
theorem ifc_at (l : List I) (k c : Nat) (h : k < l.length) (hc : c < 5) : (ifc l)[k * 5 + c]? = (enc l[k])[c]? := by
  induction l generalizing k with
  | nil => exact absurd h (by simp)
  | cons p l ih =>
    cases k with
    | zero =>
      rw [ifc_cons]
      match c, hc with
      | 0, _ => rfl
      | 1, _ => rfl
      | 2, _ => rfl
      | 3, _ => rfl
      | 4, _ => rfl
    | succ k =>
      have := ih k (by simpa using h)
      rw [ifc_cons, show (k + 1) * 5 + c = (k * 5 + c) + 1 + 1 + 1 + 1 + 1 by omega]
      simpa using this
end If
def InV (w : World) (v : Value) (l : List If.I) : Prop := Lst w w.heap.size v l.length (If.ifc l)
theorem InV.on {w w' : World} {v : Value} {l : List If.I} (h : InV w v l) (k : Below w.heap.size w w') : InV w' v l := Lst.on h k
theorem InV.own {w : World} {base : Nat} {e : TypeId} {v : Value} {l : List If.I} (h : w.ownsRow base e 5 v l.length (If.ifc l)) : InV w v l := Lst.own h
theorem InV.nil (w : World) : InV w (.slice none 0 0) [] := Lst.nil _ _
theorem InV.get {w : World} {A : Option Addr} {n c : Nat} {l : List If.I} (h : InV w (.slice A n c) l) (k : Nat) (hk : k < l.length) : ∃ a, A = some a ∧ a.block < w.heap.size ∧
    w.cell? (a.add (k * 5)) = some (.int .i64 l[k].1) ∧ w.cell? ⟨(a.add (k * 5)).block, (a.add (k * 5)).off + 1, none⟩ = some (.int .i64 l[k].2.1) ∧ w.cell? ⟨(a.add (k * 5)).block, (a.add (k * 5)).off + 2, none⟩ = some (.int .i64 l[k].2.2.1) ∧
    w.cell? ⟨(a.add (k * 5)).block, (a.add (k * 5)).off + 3, none⟩ = some (.int .i64 l[k].2.2.2.1) ∧ w.cell? ⟨(a.add (k * 5)).block, (a.add (k * 5)).off + 4, none⟩ = some (.string l[k].2.2.2.2) := by
  obtain ⟨A', c', hv, ha⟩ := h
  obtain ⟨a, e, hb, hc⟩ := ha (by omega)
  cases hv
  subst e
  have e1 : ∀ j, 0 < j → (⟨(a.add (k * 5)).block, (a.add (k * 5)).off + j, none⟩ : Addr) = a.add (k * 5 + j) := fun j hj => by
    rw [← add_two]
    have : ∀ b : Addr, (⟨b.block, b.off + j, none⟩ : Addr) = b.add j := fun b => by unfold Addr.add; rw [if_neg (by omega)]
    exact this _
  refine ⟨a, rfl, hb, ?_, ?_, ?_, ?_, ?_⟩
  · have := hc (k * 5 + 0) _ (If.ifc_at l k 0 hk (by decide)); simpa [If.enc] using this
  · rw [e1 1 (by decide)]; have := hc (k * 5 + 1) (.int .i64 l[k].2.1) (by rw [If.ifc_at l k 1 hk (by decide)]; rfl); exact this
  · rw [e1 2 (by decide)]; have := hc (k * 5 + 2) (.int .i64 l[k].2.2.1) (by rw [If.ifc_at l k 2 hk (by decide)]; rfl); exact this
  · rw [e1 3 (by decide)]; have := hc (k * 5 + 3) (.int .i64 l[k].2.2.2.1) (by rw [If.ifc_at l k 3 hk (by decide)]; rfl); exact this
  · rw [e1 4 (by decide)]; have := hc (k * 5 + 4) (.string l[k].2.2.2.2) (by rw [If.ifc_at l k 4 hk (by decide)]; rfl); exact this
theorem InV.len {w : World} {A : Option Addr} {n c : Nat} {l : List If.I} (h : InV w (.slice A n c) l) : n = l.length := by
  obtain ⟨A', c', hv, -⟩ := h; cases hv; rfl
/-- A block that holds one info. -/
abbrev IfB (W : World) (B : Nat) (x0 x1 x2 x3 : Int) (x4 : ByteArray) : Prop := Blk W B 36 #[.int .i64 x0, .int .i64 x1, .int .i64 x2, .int .i64 x3, .string x4]
theorem Blk.c3 {W : World} {B : Nat} {t : TypeId} {u u' u'' v : Value} {vs : List Value} (h : Blk W B t (u :: u' :: u'' :: v :: vs).toArray) : W.cell? ⟨B, 3, none⟩ = some v := by simp [World.cell?, show W.heap[B]? = _ from h]
theorem Blk.c4 {W : World} {B : Nat} {t : TypeId} {u u' u'' u3 v : Value} {vs : List Value} (h : Blk W B t (u :: u' :: u'' :: u3 :: v :: vs).toArray) : W.cell? ⟨B, 4, none⟩ = some v := by simp [World.cell?, show W.heap[B]? = _ from h]
theorem info_inf : (Try.prog.info? 36).map (fun i => (i.zero, i.size, i.bytes)) = some (some (.agg #[.int .i64 0, .int .i64 0, .int .i64 0, .int .i64 0, .string ⟨#[]⟩]), 5, 48) := by kernel_rfl
theorem five_cells {w : World} {b : Nat} {x0 x1 x2 x3 x4 : Value} (h0 : w.cell? ⟨b, 0, none⟩ = some x0) (h1 : w.cell? ⟨b, 1, none⟩ = some x1) (h2 : w.cell? ⟨b, 2, none⟩ = some x2) (h3 : w.cell? ⟨b, 3, none⟩ = some x3) (h4 : w.cell? ⟨b, 4, none⟩ = some x4) : ∀ (j : Nat) (u : Value), [x0, x1, x2, x3, x4][j]? = some u → w.cell? ((⟨b, 0, none⟩ : Addr).add j) = some u := by
  intro j u hj
  match j, hj with
  | 0, hj => simp at hj; subst hj; simpa [Addr.add] using h0
  | 1, hj => simp at hj; subst hj; simpa [Addr.add] using h1
  | 2, hj => simp at hj; subst hj; simpa [Addr.add] using h2
  | 3, hj => simp at hj; subst hj; simpa [Addr.add] using h3
  | 4, hj => simp at hj; subst hj; simpa [Addr.add] using h4
end Go.Proofs.Ytmnmmbeageddkaa
