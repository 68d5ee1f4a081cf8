/- Stores: the program's and the reference's side by side; steps that came in. -/
import Derived.Test.YtmnmmbeageddkaaRfP
import Derived.Test.YtmnmmbeageddkaaStL
import Derived.Test.YtmnmmbeageddkaaIfO
set_option linter.unusedVariables false
set_option linter.unusedSimpArgs false
namespace Go.Proofs.Ytmnmmbeageddkaa
open Go.RowKit Go.Sort Go.Shelf

namespace Sg
/-- A step: its kind, an info, a second. -/
abbrev T := Int × If.I × Int
def enc (p : T) : List Value := [.int .i64 p.1, .int .i64 p.2.1.1, .int .i64 p.2.1.2.1, .int .i64 p.2.1.2.2.1, .int .i64 p.2.1.2.2.2.1, .string p.2.1.2.2.2.2, .int .i64 p.2.2]
def sgc (l : List T) : List Value := l.flatMap enc
theorem sgc_cons (p : T) (l : List T) : sgc (p :: l) = .int .i64 p.1 :: .int .i64 p.2.1.1 :: .int .i64 p.2.1.2.1 :: .int .i64 p.2.1.2.2.1 :: .int .i64 p.2.1.2.2.2.1 :: .string p.2.1.2.2.2.2 :: .int .i64 p.2.2 :: sgc l := rfl
theorem sgc_at (l : List T) (k c : Nat) (h : k < l.length) (hc : c < 7) : (sgc l)[k * 7 + c]? = (enc l[k])[c]? := by
  induction l generalizing k with
  | nil => exact absurd h (by simp)
  | cons p l ih =>
    cases k with
    | zero =>
      rw [sgc_cons]
      match c, hc with
      | 0, _ => rfl
      | 1, _ => rfl
      | 2, _ => rfl
      | 3, _ => rfl
      | 4, _ => rfl
      | 5, _ => rfl
      | 6, _ => rfl
    | succ k =>
      have := ih k (by simpa using h)
      rw [sgc_cons, show (k + 1) * 7 + c = (k * 7 + c) + 1 + 1 + 1 + 1 + 1 + 1 + 1 by omega]
      simpa using this
end Sg
def SgV (w : World) (v : Value) (l : List Sg.T) : Prop := Lst w w.heap.size v l.length (Sg.sgc l)
theorem SgV.on {w w' : World} {v : Value} {l : List Sg.T} (h : SgV w v l) (k : Below w.heap.size w w') : SgV w' v l := Lst.on h k
theorem SgV.get {w : World} {A : Option Addr} {n c : Nat} {l : List Sg.T} (h : SgV w (.slice A n c) l) (k : Nat) (hk : k < l.length) : ∃ a, A = some a ∧ a.block < w.heap.size ∧
    w.cell? (a.add (k * 7)) = some (.int .i64 l[k].1) ∧ w.cell? ⟨(a.add (k * 7)).block, (a.add (k * 7)).off + 1, none⟩ = some (.int .i64 l[k].2.1.1) ∧ w.cell? ⟨(a.add (k * 7)).block, (a.add (k * 7)).off + 2, none⟩ = some (.int .i64 l[k].2.1.2.1) ∧
    w.cell? ⟨(a.add (k * 7)).block, (a.add (k * 7)).off + 3, none⟩ = some (.int .i64 l[k].2.1.2.2.1) ∧ w.cell? ⟨(a.add (k * 7)).block, (a.add (k * 7)).off + 4, none⟩ = some (.int .i64 l[k].2.1.2.2.2.1) ∧
    w.cell? ⟨(a.add (k * 7)).block, (a.add (k * 7)).off + 5, none⟩ = some (.string l[k].2.1.2.2.2.2) ∧ w.cell? ⟨(a.add (k * 7)).block, (a.add (k * 7)).off + 6, none⟩ = some (.int .i64 l[k].2.2) := by
  obtain ⟨A', c', hv, ha⟩ := h
  obtain ⟨a, e, hb, hc⟩ := ha (by omega)
  cases hv
  subst e
  have e1 : ∀ j, 0 < j → (⟨(a.add (k * 7)).block, (a.add (k * 7)).off + j, none⟩ : Addr) = a.add (k * 7 + j) := fun j hj => by
    rw [← add_two]
    have : ∀ b : Addr, (⟨b.block, b.off + j, none⟩ : Addr) = b.add j := fun b => by unfold Addr.add; rw [if_neg (by omega)]
    exact this _
  refine ⟨a, rfl, hb, ?_, ?_, ?_, ?_, ?_, ?_, ?_⟩
  · have := hc (k * 7 + 0) _ (Sg.sgc_at l k 0 hk (by decide)); simpa [Sg.enc] using this
  · rw [e1 1 (by decide)]; exact hc (k * 7 + 1) (.int .i64 l[k].2.1.1) (by rw [Sg.sgc_at l k 1 hk (by decide)]; rfl)
  · rw [e1 2 (by decide)]; exact hc (k * 7 + 2) (.int .i64 l[k].2.1.2.1) (by rw [Sg.sgc_at l k 2 hk (by decide)]; rfl)
  · rw [e1 3 (by decide)]; exact hc (k * 7 + 3) (.int .i64 l[k].2.1.2.2.1) (by rw [Sg.sgc_at l k 3 hk (by decide)]; rfl)
  · rw [e1 4 (by decide)]; exact hc (k * 7 + 4) (.int .i64 l[k].2.1.2.2.2.1) (by rw [Sg.sgc_at l k 4 hk (by decide)]; rfl)
  · rw [e1 5 (by decide)]; exact hc (k * 7 + 5) (.string l[k].2.1.2.2.2.2) (by rw [Sg.sgc_at l k 5 hk (by decide)]; rfl)
  · rw [e1 6 (by decide)]; exact hc (k * 7 + 6) (.int .i64 l[k].2.2) (by rw [Sg.sgc_at l k 6 hk (by decide)]; rfl)
theorem Blk.c5 {W : World} {B : Nat} {t : TypeId} {u0 u1 u2 u3 u4 v : Value} {vs : List Value} (h : Blk W B t (u0 :: u1 :: u2 :: u3 :: u4 :: v :: vs).toArray) : W.cell? ⟨B, 5, none⟩ = some v := by simp [World.cell?, show W.heap[B]? = _ from h]
theorem Blk.c6 {W : World} {B : Nat} {t : TypeId} {u0 u1 u2 u3 u4 u5 v : Value} {vs : List Value} (h : Blk W B t (u0 :: u1 :: u2 :: u3 :: u4 :: u5 :: v :: vs).toArray) : W.cell? ⟨B, 6, none⟩ = some v := by simp [World.cell?, show W.heap[B]? = _ from h]

/-- The reference's store, somewhere, of a known list. -/
def RfW (W : World) (N m : Nat) (room : Int) (l : List If.I) : Prop := ∃ V, RfM W N m room V l
theorem RfW.on {W W' : World} {N m : Nat} {room : Int} {l : List If.I} (h : RfW W N m room l) (k : Below W.heap.size W W') : RfW W' N m room l := by
  obtain ⟨V, h⟩ := h; exact ⟨V, h.on k⟩
theorem own_of {W W' : World} {base : Nat} {e : TypeId} {size : Nat} {v : Value} {n : Nat} {xs : List Value} (h : W.ownsRow base e size v n xs) (k : ∀ g, v.ownBlock = some g → W'.heap[g]? = W.heap[g]?) : W'.ownsRow base e size v n xs := by
  refine ⟨h.1, ?_⟩
  rcases h.2 with h2 | ⟨g, cap, cur, rfl, hb, hg, h3⟩
  · exact .inl h2
  · exact .inr ⟨g, cap, cur, rfl, hb, (k g rfl).trans hg, h3⟩
theorem rows_ne {W : World} {b1 b2 s1 s2 n1 n2 : Nat} {e1 e2 : TypeId} {v1 v2 : Value} {x1 x2 : List Value} (h1 : W.ownsRow b1 e1 s1 v1 n1 x1) (h2 : W.ownsRow b2 e2 s2 v2 n2 x2) (he : e1 ≠ e2) {g : Nat} (hg : v1.ownBlock = some g) : some g ≠ v2.ownBlock := by
  rcases h1.2 with ⟨rfl, _⟩ | ⟨g1, c1, u1, rfl, _, k1, _⟩
  · cases hg
  · obtain rfl : g1 = g := by simpa [Value.ownBlock] using hg
    rcases h2.2 with ⟨rfl, _⟩ | ⟨g2, c2, u2, rfl, _, k2, _⟩
    · simp [Value.ownBlock]
    · intro e
      obtain rfl : g1 = g2 := by simpa [Value.ownBlock] using e
      have := k1.symm.trans k2
      simp at this
      exact he this.2
theorem own_lt {W : World} {base : Nat} {e : TypeId} {size : Nat} {v : Value} {n : Nat} {xs : List Value} (h : W.ownsRow base e size v n xs) {g : Nat} (hg : v.ownBlock = some g) : g < W.heap.size := (h.lt g hg).2
theorem blk_not_own {W : World} {B base n size : Nat} {t e : TypeId} {vs : Array Value} {v : Value} {xs : List Value} (h : Blk W B t vs) (hr : W.ownsRow base e size v n xs) (hte : t ≠ e) {g : Nat} (hg : v.ownBlock = some g) : g ≠ B := fun h' => h.not_row hte hr (by rw [hg, h'])
/-- The reference's store stays where the program's own alone may turn. -/
theorem RfM.keep {W W' : World} {N p m : Nat} {room r2 : Int} {V V2 : Value} {qs : List Nat} {l l2 : List If.I} (h : RfM W N m room V l) (s : StM W N p r2 V2 qs l2) (f : Fr W W' p V2.ownBlock) : RfM W' N m room V l :=
  ⟨h.base, f.blk h.blk (blk_ne h.blk s.blk (by decide)) (h.blk.not_row (by decide) s.row),
    own_of h.row fun g hg => f.block g (own_lt h.row hg) (blk_not_own s.blk h.row (by decide) hg) (rows_ne h.row s.row (by decide) hg)⟩
/-- The program's store stays where the reference's own alone may turn. -/
theorem StM.keep {W W' : World} {N p m : Nat} {room r2 : Int} {V V2 : Value} {qs : List Nat} {l l2 : List If.I} (s : StM W N p room V qs l) (h : RfM W N m r2 V2 l2) (f : Fr W W' m none) : StM W' N p room V qs l :=
  ⟨s.base, f.blk s.blk (blk_ne s.blk h.blk (by decide)) (by simp),
    own_of s.row fun g hg => f.block g (own_lt s.row hg) (blk_not_own h.blk s.row (by decide) hg) (by simp), s.len,
    fun k h1 h2 => f.blk (s.at_ k h1 h2) (blk_ne (s.at_ k h1 h2) h.blk (by decide)) (by simp)⟩
abbrev SgB (W : World) (B : Nat) (vs : Array Value) : Prop := Blk W B 38 vs
/-- Both stores. -/
def EP (w W : World) (p m : Nat) (room : Int) (ls lm : List If.I) : Prop := Below w.heap.size w W ∧ StW W w.heap.size p room ls ∧ RfW W w.heap.size m room lm
theorem EP.on {w W W' : World} {p m : Nat} {room : Int} {ls lm : List If.I} (h : EP w W p m room ls lm) (k : Below W.heap.size W W') : EP w W' p m room ls lm := ⟨below_step h.1 k, h.2.1.on k, h.2.2.on k⟩
/-- What turns one of them answers a number, and leaves the other, and all steps. -/
def AnsE (w W : World) (p m : Nat) (room : Int) (q : Int) (ls lm : List If.I) (e : Ending) (w' : World) : Prop :=
  e = .returned (.int .i64 q) ∧ EP w w' p m room ls lm ∧ ∀ b vs, SgB W b vs → SgB w' b vs
theorem ep_s {w W w' : World} {p m : Nat} {room : Int} {ls lm l' : List If.I} {q : Int} {e : Ending} (hB : Below w.heap.size w W) {V : Value} {qs : List Nat} (s : StM W w.heap.size p room V qs ls) (h : RfW W w.heap.size m room lm)
    (he : AnsP w.heap.size p room V (q, l') W e w') : AnsE w W p m room q l' lm e w' := by
  obtain ⟨V2, h2⟩ := h
  obtain ⟨rfl, f, V', qs', hm'⟩ := he
  exact ⟨rfl, ⟨hB.trans (f.below s.base (own_row s.row) hB.size), ⟨V', qs', hm'⟩, ⟨V2, h2.keep s f⟩⟩, fun b vs hb => f.blk hb (blk_ne hb s.blk (by decide)) (hb.not_row (by decide) s.row)⟩
theorem ep_m {w W w' : World} {p m : Nat} {room : Int} {ls lm l' : List If.I} {q : Int} {e : Ending} (hB : Below w.heap.size w W) {V : Value} (h : RfM W w.heap.size m room V lm) (s : StW W w.heap.size p room ls)
    (he : AnsRf w.heap.size m room (q, l') W e w') : AnsE w W p m room q ls l' e w' := by
  obtain ⟨V2, qs, s2⟩ := s
  obtain ⟨rfl, f, V', hm'⟩ := he
  exact ⟨rfl, ⟨hB.trans (f.below h.base (by simp) hB.size), ⟨V2, qs, s2.keep h f⟩, ⟨V', hm'⟩⟩, fun b vs hb => f.blk hb (blk_ne hb h.blk (by decide)) (by simp)⟩
theorem put_s {w W : World} {p m : Nat} {room : Int} {l lm l' : List If.I} {q : Int} {x : If.I} (h : EP w W p m room l lm) (hk : Sk.Kept l) (hn : l.length ≤ 90000) (hq : Sk.put room x l = (q, l')) :
    Calls Try.prog 11 #[.pointer (some ⟨p, 0, none⟩), IV x] W (AnsE w W p m room q l' lm) := by
  obtain ⟨hB, ⟨V, qs, s⟩, hr⟩ := h
  obtain ⟨x0, x1, x2, x3, x4⟩ := x
  have := st_put s hk hn hB.size x0 x1 x2 x3 x4
  rw [hq] at this
  exact this.mono fun e w' he => ep_s hB s hr he
theorem put_m {w W : World} {p m : Nat} {room : Int} {l ls l' : List If.I} {q : Int} {x : If.I} (h : EP w W p m room ls l) (hk : Sk.Kept l) (hn : l.length ≤ 90000) (hr : (l.length : Int) ≤ room) (hq : Sk.put room x l = (q, l')) :
    Calls Try.prog 12 #[.pointer (some ⟨m, 0, none⟩), IV x] W (AnsE w W p m room q ls l') := by
  obtain ⟨hB, s, ⟨V, h⟩⟩ := h
  obtain ⟨x0, x1, x2, x3, x4⟩ := x
  have := rf_put h hn hB.size x0 x1 x2 x3 x4
  rw [Rf.put_eq hk hr, hq] at this
  exact this.mono fun e w' he => ep_m hB h s he
theorem drop_s {w W : World} {p m : Nat} {room : Int} {l lm l' : List If.I} {q t : Int} (h : EP w W p m room l lm) (hk : Sk.Kept l) (hn : l.length ≤ 90000) (hq : Sk.drop t l = (q, l')) :
    Calls Try.prog 13 #[.pointer (some ⟨p, 0, none⟩), .int .i64 t] W (AnsE w W p m room q l' lm) := by
  obtain ⟨hB, ⟨V, qs, s⟩, hr⟩ := h
  have := st_drop s hk hn t
  rw [hq] at this
  exact this.mono fun e w' he => ep_s hB s hr he
theorem drop_m {w W : World} {p m : Nat} {room : Int} {l ls l' : List If.I} {q t : Int} (h : EP w W p m room ls l) (hk : Sk.Kept l) (hn : l.length ≤ 90000) (hq : Sk.drop t l = (q, l')) :
    Calls Try.prog 14 #[.pointer (some ⟨m, 0, none⟩), .int .i64 t] W (AnsE w W p m room q ls l') := by
  obtain ⟨hB, s, ⟨V, h⟩⟩ := h
  have := rf_drop h hn hB.size t
  rw [Rf.drop_eq hk, hq] at this
  exact this.mono fun e w' he => ep_m hB h s he
theorem find_s {w W : World} {p m : Nat} {room : Int} {l lm : List If.I} {x : If.I} {b : Bool} {t : Int} (h : EP w W p m room l lm) (hk : Sk.Kept l) (hn : l.length ≤ 90000) (hx : Sk.fnd t l = x) (hb : Sk.has t l = b) :
    Calls Try.prog 15 #[.pointer (some ⟨p, 0, none⟩), .int .i64 t] W fun e w' => e = .returned (.tuple #[IV x, .bool b]) ∧ Below W.heap.size W w' := by
  obtain ⟨-, ⟨V, qs, s⟩, -⟩ := h
  rw [← hx, ← hb]
  exact st_find s hk (by omega) t
theorem find_m {w W : World} {p m : Nat} {room : Int} {l ls : List If.I} {x : If.I} {b : Bool} {t : Int} (h : EP w W p m room ls l) (hk : Sk.Kept l) (hn : l.length ≤ 90000) (hx : Sk.fnd t l = x) (hb : Sk.has t l = b) :
    Calls Try.prog 16 #[.pointer (some ⟨m, 0, none⟩), .int .i64 t] W fun e w' => e = .returned (.tuple #[IV x, .bool b]) ∧ Below W.heap.size W w' := by
  obtain ⟨-, -, ⟨V, h⟩⟩ := h
  have := rf_find h hn t
  rw [Rf.fd_eq hk, hx, hb] at this
  exact this
theorem near_s {w W : World} {p m : Nat} {room : Int} {l lm : List If.I} {x y : If.I} {a b : Bool} {t : Int} (h : EP w W p m room l lm) (hk : Sk.Kept l) (hn : l.length ≤ 90000) (hx : Sk.nearA t l = (x, a)) (hy : Sk.nearB t l = (y, b)) :
    Calls Try.prog 17 #[.pointer (some ⟨p, 0, none⟩), .int .i64 t] W fun e w' => e = .returned (.tuple #[IV x, IV y, .bool a, .bool b]) ∧ Below W.heap.size W w' := by
  obtain ⟨-, ⟨V, qs, s⟩, -⟩ := h
  have := st_near s hk hn t
  rw [hx, hy] at this
  exact this
theorem near_m {w W : World} {p m : Nat} {room : Int} {l ls : List If.I} {x y : If.I} {a b : Bool} {t : Int} (h : EP w W p m room ls l) (hk : Sk.Kept l) (hn : l.length ≤ 90000) (hx : Sk.nearA t l = (x, a)) (hy : Sk.nearB t l = (y, b)) :
    Calls Try.prog 18 #[.pointer (some ⟨m, 0, none⟩), .int .i64 t] W fun e w' => e = .returned (.tuple #[IV x, IV y, .bool a, .bool b]) ∧ Below W.heap.size W w' := by
  obtain ⟨-, -, ⟨V, h⟩⟩ := h
  have := rf_near h hn t
  rw [Rf.nr_eq hk, hx, hy] at this
  exact this
theorem len_s {w W : World} {p m : Nat} {room : Int} {l lm : List If.I} (h : EP w W p m room l lm) :
    Calls Try.prog 19 #[.pointer (some ⟨p, 0, none⟩)] W fun e w' => e = .returned (.int .i64 l.length) ∧ Below W.heap.size W w' := by
  obtain ⟨-, ⟨V, qs, s⟩, -⟩ := h
  exact st_len s
theorem list_s {w W : World} {p m : Nat} {room : Int} {l lm : List If.I} (h : EP w W p m room l lm) (hl : l.length ≤ 90000) :
    Calls Try.prog 21 #[.pointer (some ⟨p, 0, none⟩)] W fun e w' => (∃ (A : Option Addr) (c : Nat), e = .returned (.slice A l.length c) ∧ InV w' (.slice A l.length c) l) ∧ Below W.heap.size W w' := by
  obtain ⟨-, ⟨V, qs, s⟩, -⟩ := h
  refine (st_list s (by omega)).mono ?_
  rintro e w' ⟨v, rfl, own, hb⟩
  obtain ⟨A, c, rfl⟩ := po_form own
  exact ⟨⟨A, c, rfl, InV.own own⟩, hb⟩
section
open Go.ChangeShapes Go.WideShapes Go.Joins
theorem cellsStep : Try.prog.cellsOf 38 = 7 := by kernel_rfl
theorem cellsIntS : Try.prog.cellsOf 3 = 1 := by kernel_rfl
variable {H : Type} {enc : TypeId × Value → H} {w : World} {base : Nat} {sp : Nat → Bool} {held : Bool}
set_option maxRecDepth 100000 in
theorem step_cells {n : Nat} {cs : List Value} {y : DataW H × List MemPlace} (h : DataW.trod enc Try.prog w base sp held n 38 cs = some y) : ∃ p : Sg.T, cs = Sg.enc p := by
  obtain ⟨xs, m, _, -, hl, hlen, hf⟩ := DataW.trod_struct Try.underlying38 h
  rw [cellsStep] at hl
  match xs, hlen with
  | [y0, y1, y2], _ =>
    have h0 : DataW.trod enc Try.prog w base sp held m 3 ((cs.drop 0).take (Try.prog.cellsOf 3)) = some y0 := hf 0 _ rfl
    have h1 : DataW.trod enc Try.prog w base sp held m 36 ((cs.drop 1).take (Try.prog.cellsOf 36)) = some y1 := hf 1 _ rfl
    have h2 : DataW.trod enc Try.prog w base sp held m 2 ((cs.drop 6).take (Try.prog.cellsOf 2)) = some y2 := hf 2 _ rfl
    match cs, hl with
    | [c0, c1, c2, c3, c4, c5, c6], _ =>
      simp only [cellsI64, cellsIntS, cellsInfo] at h0 h1 h2
      obtain ⟨a, e0, -, z0⟩ := DataW.trod_int Try.underlying3 h0
      obtain ⟨p, e1, z1⟩ := info_cells h1
      obtain ⟨t, e2, -, z2⟩ := DataW.trod_int Try.underlying2 h2
      simp [If.enc] at e0 e1 e2
      obtain ⟨rfl, rfl, rfl, rfl, rfl⟩ := e1
      subst e0; subst e2
      exact ⟨(a, p, t), rfl⟩
set_option maxRecDepth 100000 in
theorem steps_in {A : Option Addr} {n c : Nat} {fuel : Nat} {x : DataW H × List MemPlace} (h : DataW.trod enc Try.prog w base sp held fuel 22 [.slice A n c] = some x) :
    ∃ l : List Sg.T, SgV w (.slice A n c) l := by
  rcases DataW.trod_slice Try.underlying22 h with ⟨hcs, _⟩ | ⟨a, len, cap, elems, rest, m, _, hcs, _, _, hlc, _, hlen, hel, _, _⟩
  · injection hcs with h1 _
    rw [h1]
    exact ⟨[], Lst.nil _ _⟩
  · injection hcs with h1 _
    rw [h1]
    obtain ⟨l, hl, hz, hc⟩ := rows_at (w := w) (a := a) (k := 7) (len := len) (enc' := Sg.enc) (fun _ => rfl) (Q := fun _ => True) (fun i hi => by
      have := hel i hi
      rw [cellsStep, List.getElem?_eq_getElem (by omega), Option.bind_eq_some_iff] at this
      obtain ⟨cs, hcs, hy⟩ := this
      obtain ⟨p, rfl⟩ := step_cells hy
      exact ⟨p, trivial, (cells_some hcs).2⟩)
    refine ⟨l, ⟨some a, cap, by rw [hl], fun hpos => ⟨a, rfl, ?_, hc⟩⟩⟩
    match l, hpos with
    | p :: r, _ =>
      have := World.block_lt_of_cell? _ _ (hc 0 (.int .i64 p.1) rfl)
      rwa [blk_add] at this
end
end Go.Proofs.Ytmnmmbeageddkaa
