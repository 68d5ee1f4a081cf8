/- Stores: infos kept by pointers, in memory; their plain lists; all, Len, New. -/
import Derived.Test.YtmnmmbeageddkaaIfA
import Derived.Test.YtmnmmbeageddkaaMnG0
set_option linter.unusedVariables false
set_option linter.unusedSimpArgs false
namespace Go.Proofs.Ytmnmmbeageddkaa
open Go.RowKit Go.Sort Go.Shelf

namespace Sk
open If (I)
/-- In order, and each has a second. -/
def Kept (l : List I) : Prop := (∀ x ∈ l, x.1 < x.2.1) ∧ l.Pairwise fun x y => x.2.1 ≤ y.1
/-- How many end at a second, or ahead of it. -/
def pl (t : Int) (l : List I) : Nat := l.countP fun x => decide (x.2.1 ≤ t)
theorem pl_len (t : Int) (l : List I) : pl t l ≤ l.length := List.countP_le_length
theorem Kept.tail {p : I} {r : List I} (h : Kept (p :: r)) : Kept r := ⟨fun x hx => h.1 x (List.mem_cons_of_mem _ hx), (List.pairwise_cons.1 h.2).2⟩
theorem pl_lt {t : Int} {l : List I} (h : Kept l) (k : Nat) (hk : k < l.length) : k < pl t l ↔ l[k].2.1 ≤ t := by
  induction l generalizing k with
  | nil => simp at hk
  | cons p r ih =>
    have hp := (List.pairwise_cons.1 h.2).1
    by_cases hpt : p.2.1 ≤ t
    · have e : pl t (p :: r) = pl t r + 1 := by unfold pl; rw [List.countP_cons]; simp [hpt]
      cases k with
      | zero => rw [e]; simpa using hpt
      | succ k =>
        rw [e]
        have := ih h.tail k (by simpa using hk)
        simp only [List.getElem_cons_succ]
        rw [← this]; omega
    · have e : pl t (p :: r) = 0 := by
        unfold pl
        rw [List.countP_eq_zero]
        intro x hx
        rcases List.mem_cons.1 hx with rfl | hx
        · simpa using hpt
        · have h1 := hp x hx
          have h2 := h.1 x (List.mem_cons_of_mem _ hx)
          simp; omega
      rw [e]
      cases k with
      | zero => simp; omega
      | succ k =>
        simp only [List.getElem_cons_succ]
        have hx : r[k]'(by simpa using hk) ∈ r := List.getElem_mem _
        have h1 := hp _ hx
        have h2 := h.1 _ (List.mem_cons_of_mem _ hx)
        constructor
        · intro h; omega
        · intro h; omega
/-- The pointers to some blocks. -/
def ptc (qs : List Nat) : List Value := qs.map fun q => .pointer (some ⟨q, 0, none⟩)
theorem ptc_one (qs : List Nat) : ∀ u ∈ ptc qs, u.oneCell' = true := by
  intro u hu
  obtain ⟨q, _, rfl⟩ := List.mem_map.1 hu
  rfl
end Sk
/-- A store in memory: its block, the row of its pointers, the infos' blocks. -/
structure StM (W : World) (N p : Nat) (room : Int) (V : Value) (qs : List Nat) (l : List If.I) : Prop where
  base : N ≤ p
  blk : Blk W p 71 #[.int .i64 room, V]
  row : W.ownsRow N 74 1 V l.length (Sk.ptc qs)
  len : qs.length = l.length
  at_ : ∀ k (h : k < l.length) (h2 : k < qs.length), Blk W qs[k] 36 (If.enc l[k]).toArray
theorem StM.on {W W' : World} {N p : Nat} {room : Int} {V : Value} {qs : List Nat} {l : List If.I} (h : StM W N p room V qs l) (k : Below W.heap.size W W') : StM W' N p room V qs l :=
  ⟨h.base, h.blk.on k, own_on h.row k, h.len, fun j hj h2 => (h.at_ j hj h2).on k⟩
theorem StM.form {W : World} {N p : Nat} {room : Int} {V : Value} {qs : List Nat} {l : List If.I} (h : StM W N p room V qs l) : ∃ A c, V = .slice A l.length c := po_form h.row
/-- One info of a store, as an address reads it. -/
theorem StM.get {W : World} {N p : Nat} {room : Int} {A : Option Addr} {n c : Nat} {qs : List Nat} {l : List If.I} (h : StM W N p room (.slice A n c) qs l) (k : Nat) (hk : k < l.length) :
    ∃ a q, A = some a ∧ W.cell? (a.add k) = some (.pointer (some ⟨q, 0, none⟩)) ∧ IfB W q l[k].1 l[k].2.1 l[k].2.2.1 l[k].2.2.2.1 l[k].2.2.2.2 := by
  obtain ⟨A', c', hv, ha⟩ := Lst.own h.row
  cases hv
  obtain ⟨a, rfl, _, hc⟩ := ha (by omega)
  have h2 : k < qs.length := by rw [h.len]; exact hk
  exact ⟨a, qs[k], rfl, hc k _ (by unfold Sk.ptc; rw [List.getElem?_map, List.getElem?_eq_getElem h2]; rfl), h.at_ k hk h2⟩
set_option maxHeartbeats 1000000 in
theorem st_all {W : World} {N p : Nat} {room : Int} {V : Value} {qs : List Nat} {l : List If.I} (h : StM W N p room V qs l) :
    Calls Try.prog 46 #[.pointer (some ⟨p, 0, none⟩)] W fun e w' => e = .returned V ∧ Below W.heap.size W w' := by
  have c1 := h.blk.c1
  go_enter Try.func46, Try.ntmps46
  go_wp2
  go_ret
  exact ⟨rfl, by go_grown⟩
set_option maxHeartbeats 1000000 in
theorem st_all_nil (W : World) :
    Calls Try.prog 46 #[.pointer none] W fun e w' => e = .returned (.slice none 0 0) ∧ Below W.heap.size W w' := by
  go_enter Try.func46, Try.ntmps46
  go_wp2
  go_ret
  exact ⟨rfl, by go_grown⟩
set_option maxHeartbeats 1000000 in
theorem st_len {W : World} {N p : Nat} {room : Int} {V : Value} {qs : List Nat} {l : List If.I} (h : StM W N p room V qs l) :
    Calls Try.prog 19 #[.pointer (some ⟨p, 0, none⟩)] W fun e w' => e = .returned (.int .i64 l.length) ∧ Below W.heap.size W w' := by
  obtain ⟨A, c, rfl⟩ := h.form
  have H := Lib.hid h
  clear h
  go_enter Try.func19, Try.ntmps19
  go_wp2_with fail
  refine (st_all H.out).mono ?_
  rintro e w1 ⟨rfl, b1⟩
  go_wp2
  go_ret
  exact ⟨rfl, b1⟩
set_option maxHeartbeats 1000000 in
theorem st_len_nil (W : World) :
    Calls Try.prog 19 #[.pointer none] W fun e w' => e = .returned (.int .i64 0) ∧ Below W.heap.size W w' := by
  go_enter Try.func19, Try.ntmps19
  go_wp2_with fail
  refine (st_all_nil _).mono ?_
  rintro e w1 ⟨rfl, b1⟩
  go_wp2
  go_ret
  exact ⟨rfl, b1⟩
def AnsNew (room : Int) (N : Nat) (W : World) (e : Ending) (w' : World) : Prop := Below W.heap.size W w' ∧
      (((room < 1 ∨ 65536 < room) ∧ e = .returned (.tuple #[.pointer none, .int .i64 1])) ∨ ((1 ≤ room ∧ room ≤ 65536) ∧ ∃ p, e = .returned (.tuple #[.pointer (some ⟨p, 0, none⟩), .int .i64 0]) ∧ StM w' N p room (.slice none 0 0) [] []))
set_option maxHeartbeats 1000000 in
theorem st_new (room : Int) (W : World) (N : Nat) (hN : N ≤ W.heap.size) : Calls Try.prog 9 #[.int .i64 room] W (AnsNew room N W) := by
  by_cases h1 : room < 1
  · have H1 := Lib.hid h1
    go_enter Try.func9, Try.ntmps9
    go_wp2
    go_ret2
    exact ⟨by go_grown, .inl ⟨.inl H1.out, rfl⟩⟩
  by_cases h2 : 65536 < room
  · have H2 := Lib.hid h2
    go_enter Try.func9, Try.ntmps9
    go_wp2
    go_ret2
    exact ⟨by go_grown, .inl ⟨.inr H2.out, rfl⟩⟩
  have H3 := Lib.hid (show 1 ≤ room ∧ room ≤ 65536 by omega)
  have HN := Lib.hid hN
  go_enter Try.func9, Try.ntmps9
  go_wp2
  go_ret2
  exact ⟨by go_grown, .inr ⟨H3.out, _, rfl, ⟨HN.out, Blk.new _ _ _, World.ownsRow_nil _ _ _ _, rfl, fun k h => absurd h (by simp)⟩⟩⟩
end Go.Proofs.Ytmnmmbeageddkaa
