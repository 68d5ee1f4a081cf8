/- Joined: Sl, StL, FdS, LkA. -/
import Derived.Test.YtjnhaabbnbcaeaaBx01
import Derived.OwnWalk
import Derived.Laws.OwnMore
import Derived.Deep.AppendLies
import Derived.Deep.Draws
import Derived.Test.YtjnhaabbnbcaeaaLaidK
import Derived.Lib.IndexAny
import Derived.Shelf.Small.Strs
/- Slices that read as lists of cells; appended rows. -/
set_option linter.unusedVariables false
set_option linter.unusedSimpArgs false
namespace Go.Proofs.Ytjnhaabbnbcaeaa
open Go.RowKit Go.Sort

theorem blk_add (a : Addr) (j : Nat) : (a.add j).block = a.block := by unfold Addr.add; split <;> rfl
theorem add_two (a : Addr) (i j : Nat) : (a.add i).add j = a.add (i + j) := by
  unfold Addr.add
  by_cases hi : i = 0 <;> by_cases hj : j = 0 <;> simp [hi, hj, Nat.add_assoc]
/-- A slice of n elements that reads as the cells xs; its block lies below B. -/
def Lst (w : World) (B : Nat) (v : Value) (n : Nat) (xs : List Value) : Prop :=
  ∃ A c, v = .slice A n c ∧ (0 < n → ∃ a, A = some a ∧ a.block < B ∧ ∀ (j : Nat) (u : Value), xs[j]? = some u → w.cell? (a.add j) = some u)
theorem Lst.nil (w : World) (B : Nat) : Lst w B (.slice none 0 0) 0 [] := ⟨none, 0, rfl, fun h => absurd h (by omega)⟩
theorem Lst.keep {w w' : World} {B : Nat} {v : Value} {n : Nat} {xs : List Value} (h : Lst w B v n xs) (k : ∀ p : Addr, p.block < B → w'.cell? p = w.cell? p) : Lst w' B v n xs := by
  obtain ⟨A, c, hv, ha⟩ := h
  refine ⟨A, c, hv, fun hn => ?_⟩
  obtain ⟨a, e, hb, hc⟩ := ha hn
  exact ⟨a, e, hb, fun j u hu => (k _ (by rw [blk_add]; exact hb)).trans (hc j u hu)⟩
theorem Lst.more {w : World} {B B' : Nat} {v : Value} {n : Nat} {xs : List Value} (h : Lst w B v n xs) (k : B ≤ B') : Lst w B' v n xs := by
  obtain ⟨A, c, hv, ha⟩ := h
  refine ⟨A, c, hv, fun hn => ?_⟩
  obtain ⟨a, e, hb, hc⟩ := ha hn
  exact ⟨a, e, Nat.lt_of_lt_of_le hb k, hc⟩
theorem Lst.below {w w' : World} {B : Nat} {v : Value} {n : Nat} {xs : List Value} (h : Lst w B v n xs) (k : Below B w w') : Lst w' B v n xs := h.keep fun _ hp => k.cell hp
/-- Carried on: the world has grown behind a world that knew it all. -/
theorem Lst.on {w w' : World} {v : Value} {n : Nat} {xs : List Value} (h : Lst w w.heap.size v n xs) (k : Below w.heap.size w w') : Lst w' w'.heap.size v n xs := (h.below k).more k.size
theorem Lst.drewN {w : World} {B : Nat} {v : Value} {n : Nat} {xs : List Value} (h : Lst w B v n xs) (k : Nat) : Lst (w.drewN k) B v n xs := h
theorem Lst.own {w : World} {base : Nat} {e : TypeId} {size : Nat} {v : Value} {n : Nat} {xs : List Value} (h : w.ownsRow base e size v n xs) : Lst w w.heap.size v n xs := by
  rcases Nat.eq_zero_or_pos n with h0 | h0
  · have hx : xs = [] := by
      have := h.1
      rw [h0, Nat.zero_mul] at this
      exact List.eq_nil_of_length_eq_zero this
    rcases h.2 with ⟨hv, _⟩ | ⟨g, cap, cur, hv, _⟩
    · exact ⟨none, 0, by rw [h0]; exact hv, fun hh => absurd hh (by omega)⟩
    · exact ⟨_, _, hv, fun hh => absurd hh (by omega)⟩
  · obtain ⟨g, cap, hv, _, hlt⟩ := h.form h0
    exact ⟨_, _, hv, fun _ => ⟨_, rfl, hlt, h.cells (g := g) (by rw [hv]; rfl)⟩⟩
/-- Only one block, and what is new, has turned: all below it is as it was. -/
theorem below_grown {w w' : World} {row : Option Nat} {B : Nat} (h : w.grownBy w' row) (hB : B ≤ w.heap.size) (hr : ∀ g, row = some g → B ≤ g) : Below B w w' :=
  ⟨h.os, h.tape, h.output, h.size, fun i hi => h.block i (by omega) (fun e => by have := hr _ e.symm; omega)⟩
theorem grown_below {w w' : World} (h : Below w.heap.size w w') (row : Option Nat) : w.grownBy w' row := ⟨h.os, h.tape, h.output, h.size, fun i hi _ => h.block i hi⟩
/-- An own row stays, whatever is made behind it. -/
theorem own_on {w w' : World} {base : Nat} {e : TypeId} {size : Nat} {v : Value} {n : Nat} {xs : List Value} (h : w.ownsRow base e size v n xs) (k : Below w.heap.size w w') : w'.ownsRow base e size v n xs :=
  h.kept (grown_below k none) (by
    cases hv : v.ownBlock
    · exact .inl rfl
    · exact .inr (by simp))
/-- The row of a value lies at the base, or behind it. -/
theorem own_row {w : World} {base : Nat} {e : TypeId} {size : Nat} {v : Value} {n : Nat} {xs : List Value} (h : w.ownsRow base e size v n xs) : ∀ g, v.ownBlock = some g → base ≤ g := fun g hg => (h.lt g hg).1
/-- Two cells of a new block, as a source of an append. -/
theorem two_cells {w : World} {b : Nat} {x y : Value} (h0 : w.cell? ⟨b, 0, none⟩ = some x) (h1 : w.cell? ⟨b, 1, none⟩ = some y) : ∀ (j : Nat) (u : Value), [x, y][j]? = some u → w.cell? ((⟨b, 0, none⟩ : Addr).add j) = some u := by
  intro j u hj
  match j, hj with
  | 0, hj => simp at hj; subst hj; simpa [Addr.add] using h0
  | 1, hj => simp at hj; subst hj; simpa [Addr.add] using h1
/-- The cells of spans. -/
def spc (l : List (Int × Int)) : List Value := l.flatMap fun p => [.int .i64 p.1, .int .i64 p.2]
theorem spc_app (l k : List (Int × Int)) : spc (l ++ k) = spc l ++ spc k := by unfold spc; rw [List.flatMap_append]
theorem spc_at (l : List (Int × Int)) (k : Nat) (h : k < l.length) : (spc l)[k * 2]? = some (.int .i64 l[k].1) ∧ (spc l)[k * 2 + 1]? = some (.int .i64 l[k].2) := by
  induction l generalizing k with
  | nil => exact absurd h (by simp)
  | cons p l ih =>
    cases k with
    | zero => exact ⟨rfl, rfl⟩
    | succ k =>
      have := ih k (by simpa using h)
      have e : spc (p :: l) = .int .i64 p.1 :: .int .i64 p.2 :: spc l := rfl
      rw [e]
      rw [show (k + 1) * 2 = k * 2 + 1 + 1 by omega]
      simpa using this
/-- A value that reads as a list of spans. -/
def SpV (w : World) (v : Value) (l : List (Int × Int)) : Prop := Lst w w.heap.size v l.length (spc l)
theorem SpV.on {w w' : World} {v : Value} {l : List (Int × Int)} (h : SpV w v l) (k : Below w.heap.size w w') : SpV w' v l := Lst.on h k
theorem SpV.own {w : World} {base : Nat} {e : TypeId} {v : Value} {l : List (Int × Int)} (h : w.ownsRow base e 2 v l.length (spc l)) : SpV w v l := Lst.own h
/-- An element's cells. -/
theorem SpV.at_ {w : World} {v : Value} {l : List (Int × Int)} (h : SpV w v l) (k : Nat) (hk : k < l.length) : ∃ a c, v = .slice (some a) l.length c ∧ a.block < w.heap.size ∧ w.cell? (a.add (k * 2)) = some (.int .i64 l[k].1) ∧ w.cell? (a.add (k * 2 + 1)) = some (.int .i64 l[k].2) := by
  obtain ⟨A, c, hv, ha⟩ := h
  obtain ⟨a, e, hb, hc⟩ := ha (by omega)
  obtain ⟨h1, h2⟩ := spc_at l k hk
  exact ⟨a, c, by rw [hv, e], hb, hc _ _ h1, hc _ _ h2⟩
theorem SpV.get {w : World} {A : Option Addr} {n c : Nat} {l : List (Int × Int)} (h : SpV w (.slice A n c) l) (k : Nat) (hk : k < l.length) : ∃ a, A = some a ∧ a.block < w.heap.size ∧ w.cell? (a.add (k * 2)) = some (.int .i64 l[k].1) ∧ w.cell? ⟨(a.add (k * 2)).block, (a.add (k * 2)).off + 1, none⟩ = some (.int .i64 l[k].2) := by
  obtain ⟨a, c', hv, r⟩ := h.at_ k hk
  cases hv
  refine ⟨a, rfl, r.1, r.2.1, ?_⟩
  have e : (⟨(a.add (k * 2)).block, (a.add (k * 2)).off + 1, none⟩ : Addr) = a.add (k * 2 + 1) := by rw [← add_two]; rfl
  rw [e]
  exact r.2.2
theorem SpV.len {w : World} {A : Option Addr} {n c : Nat} {l : List (Int × Int)} (h : SpV w (.slice A n c) l) : n = l.length := by
  obtain ⟨A', c', hv, _⟩ := h
  cases hv
  rfl
/-- A slice that is no longer than its room. -/
def Cap (v : Value) : Prop := ∀ A n c, v = .slice A n c → n ≤ c
end Go.Proofs.Ytjnhaabbnbcaeaa

/- Lists of strings in memory. -/
set_option linter.unusedVariables false
set_option linter.unusedSimpArgs false
namespace Go.Proofs.Ytjnhaabbnbcaeaa
open Go.RowKit Go.Sort

/-- A slice value that reads as strings. -/
def StS (w : World) (v : Value) (l : List ByteArray) : Prop := Lst w w.heap.size v l.length (l.map Value.string)
theorem StS.on {w w' : World} {v : Value} {l : List ByteArray} (h : StS w v l) (k : Below w.heap.size w w') : StS w' v l := Lst.on h k
theorem StS.get {w : World} {A : Option Addr} {n c : Nat} {l : List ByteArray} (h : StS w (.slice A n c) l) (k : Nat) (hk : k < l.length) : ∃ a, A = some a ∧ w.cell? (a.add k) = some (.string l[k]) := by
  obtain ⟨A', c', hv, ha⟩ := h
  cases hv
  obtain ⟨a, e, hb, hc⟩ := ha (by omega)
  refine ⟨a, e, hc k _ ?_⟩
  rw [List.getElem?_map, List.getElem?_eq_getElem hk]; rfl
theorem StS.len {w : World} {A : Option Addr} {n c : Nat} {l : List ByteArray} (h : StS w (.slice A n c) l) : n = l.length := by
  obtain ⟨A', c', hv, _⟩ := h
  cases hv; rfl

end Go.Proofs.Ytjnhaabbnbcaeaa

/- Calls that answer lists of strings and why; cuts of strings; the reference's Same. -/
set_option linter.unusedVariables false
set_option linter.unusedSimpArgs false
namespace Go.Proofs.Ytjnhaabbnbcaeaa
open Go.RowKit Go.Sort

/-- A call that answers strings, and why. -/
def AnsF (P : List (List UInt8) × Int) (w : World) (e : Ending) (w' : World) : Prop := ∃ (v : Value) (l : List ByteArray), StS w' v l ∧ l.map (·.data.toList) = P.1 ∧ e = .returned (.tuple #[v, .int .i64 P.2]) ∧ Below w.heap.size w w'
theorem fd_bytes {l l' : List ByteArray} (h : l.map (·.data.toList) = l'.map (·.data.toList)) : l = l' := by
  induction l generalizing l' with
  | nil => cases l' with
    | nil => rfl
    | cons _ _ => cases h
  | cons x r ih =>
    cases l' with
    | nil => cases h
    | cons y r' =>
      simp only [List.map_cons, List.cons.injEq] at h
      rw [ih h.2, show x = y from ByteArray.ext (Array.toList_inj.1 h.1)]
theorem fd_cut (s : ByteArray) (a b : Nat) (h1 : a ≤ b) (h2 : b ≤ s.size) (W : World) : Sem.run Try.prog (Instr.slice 9 (.string s) (some (.int .i64 (a : Int))) (some (.int .i64 (b : Int))) none) W = .ok (.string (s.extract a b)) W := by
  rw [run_slice_string W 9 s .i64 .i64 (a : Int) (b : Int) Try.underlying9 (by omega) (by omega) (by omega)]
  simp
theorem fd_ext (s : ByteArray) (a b : Nat) : (s.extract a b).data.toList = (s.data.toList.take b).drop a := by
  rw [ByteArray.data_extract, Array.toList_extract, List.drop_take]
theorem fd_one (s : ByteArray) (k : Nat) (h : k < s.size) : (s.extract k (k + 1)).data.toList = [s[k]] := by
  rw [fd_ext, List.take_succ_eq_append_getElem (by rw [fd_len]; exact h), List.drop_append_of_le_length (by rw [List.length_take, fd_len]; omega), List.drop_of_length_le (by rw [List.length_take]; omega)]
  rfl
theorem fd_app (a b : ByteArray) : (a ++ b).data.toList = a.data.toList ++ b.data.toList := by rw [ByteArray.data_append, Array.toList_append]
theorem fd_parts {i0 : Option TypeInfo} {z : Value} {n b : Nat} (h : i0.map (fun i => (i.zero, i.size, i.bytes)) = some (some z, n, b)) : ∃ i, i0 = some i ∧ i.zero = some z ∧ i.size = n ∧ i.bytes = b := by
  cases i0 with
  | none => cases h
  | some i => simp at h; exact ⟨i, rfl, h.1, h.2.1, h.2.2⟩
theorem fd_info : (Try.prog.info? 9).map (fun i => (i.zero, i.size, i.bytes)) = some (some (.string ⟨#[]⟩), 1, 16) := by kernel_rfl
theorem StS.nil (w : World) : StS w (.slice none 0 0) [] := Lst.nil w _
theorem fd_keep {P : Addr} {v : Value} {w W : World} (hm : w.cell? P = some v) (k : Below w.heap.size w W) : W.cell? P = some v :=
  (k.cell (World.block_lt_of_cell? _ _ hm)).trans hm
end Go.Proofs.Ytjnhaabbnbcaeaa

/- Names: which bytes begin one, which go on; the program's Name. -/
set_option linter.unusedVariables false
set_option linter.unusedSimpArgs false
namespace Go.Proofs.Ytjnhaabbnbcaeaa
open Go.RowKit Go.Sort

namespace Lk
def bg (c : Nat) : Bool := (decide (65 ≤ c) && decide (c ≤ 90)) || (decide (97 ≤ c) && decide (c ≤ 122)) || decide (c = 95)
def dg (c : Nat) : Bool := decide (48 ≤ c) && decide (c ≤ 57)
def sg (c : Nat) : Bool := decide (c = 45) || decide (c = 43) || decide (c = 47) || decide (c = 46)
def gn (c : Nat) : Bool := bg c || dg c || sg c
def bgB (c : UInt8) : Bool := bg c.toNat
def gnB (c : UInt8) : Bool := gn c.toNat
/-- May a text be a name? -/
def isN (l : List UInt8) : Bool := l.all gnB && (match l with | [] => false | c :: _ => bgB c)
/-- Why a text is no name. -/
def nm (l : List UInt8) : Int := if 64 < l.length then 9 else if isN l = true then 0 else 10
theorem bg_gn {c : Nat} (h : bg c = true) : gn c = true := by unfold gn; rw [h]; rfl
theorem sg_of (c : UInt8) : decide (0 ≤ Lib.indexByte [45, 43, 47, 46] c) = sg c.toNat := by
  have h : ∀ n : Fin 256, decide (0 ≤ Lib.indexByte [45, 43, 47, 46] (UInt8.ofNat n.1)) = sg n.1 := by decide +kernel
  have := h ⟨c.toNat, c.toNat_lt⟩
  simpa using this
end Lk
set_option maxRecDepth 100000 in
theorem nbegins_any (c : Nat) (w : World) (hc : c ≤ 255) : Calls Try.prog 44 #[.int .u8 (c : Int)] w fun e w' => e = .returned (.bool (Lk.bg c)) ∧ w = w' := by
  unfold Lk.bg
  obtain ⟨C, hC⟩ : ∃ C : Int, C = c := ⟨_, rfl⟩
  rw [← hC]
  rcases (by omega : (0 ≤ c ∧ c ≤ 64) ∨ (65 ≤ c ∧ c ≤ 90) ∨ (91 ≤ c ∧ c ≤ 94) ∨ (95 ≤ c ∧ c ≤ 95) ∨ (96 ≤ c ∧ c ≤ 96) ∨ (97 ≤ c ∧ c ≤ 122) ∨ (123 ≤ c ∧ c ≤ 255)) with h | h | h | h | h | h | h
  · have hb : (decide (65 ≤ c) && decide (c ≤ 90) || (decide (97 ≤ c) && decide (c ≤ 122)) || decide (c = 95)) = false := by
      simp; omega
    rw [hb]; clear hb
    have f65 : ¬ (65 : Int) ≤ C := by omega
    have f97 : ¬ (97 : Int) ≤ C := by omega
    have f90 : C ≤ (90 : Int) := by omega
    have f122 : C ≤ (122 : Int) := by omega
    have q95 : (C == (95 : Int)) = false := by rw [beq_eq_false_iff_ne]; omega
    clear hC h
    go_enter Try.func44, Try.ntmps44
    go_wp2_with fail
    go_ret
    exact ⟨rfl, rfl⟩
  · have hb : (decide (65 ≤ c) && decide (c ≤ 90) || (decide (97 ≤ c) && decide (c ≤ 122)) || decide (c = 95)) = true := by
      simp; omega
    rw [hb]; clear hb
    have f65 : (65 : Int) ≤ C := by omega
    have f97 : ¬ (97 : Int) ≤ C := by omega
    have f90 : C ≤ (90 : Int) := by omega
    have f122 : C ≤ (122 : Int) := by omega
    have q95 : (C == (95 : Int)) = false := by rw [beq_eq_false_iff_ne]; omega
    clear hC h
    go_enter Try.func44, Try.ntmps44
    go_wp2_with fail
    go_ret
    exact ⟨rfl, rfl⟩
  · have hb : (decide (65 ≤ c) && decide (c ≤ 90) || (decide (97 ≤ c) && decide (c ≤ 122)) || decide (c = 95)) = false := by
      simp; omega
    rw [hb]; clear hb
    have f65 : (65 : Int) ≤ C := by omega
    have f97 : ¬ (97 : Int) ≤ C := by omega
    have f90 : ¬ C ≤ (90 : Int) := by omega
    have f122 : C ≤ (122 : Int) := by omega
    have q95 : (C == (95 : Int)) = false := by rw [beq_eq_false_iff_ne]; omega
    clear hC h
    go_enter Try.func44, Try.ntmps44
    go_wp2_with fail
    go_ret
    exact ⟨rfl, rfl⟩
  · have hb : (decide (65 ≤ c) && decide (c ≤ 90) || (decide (97 ≤ c) && decide (c ≤ 122)) || decide (c = 95)) = true := by
      simp; omega
    rw [hb]; clear hb
    obtain rfl : C = 95 := by omega
    clear hC h
    go_enter Try.func44, Try.ntmps44
    go_wp2_with fail
    go_ret
    exact ⟨rfl, rfl⟩
  · have hb : (decide (65 ≤ c) && decide (c ≤ 90) || (decide (97 ≤ c) && decide (c ≤ 122)) || decide (c = 95)) = false := by
      simp; omega
    rw [hb]; clear hb
    have f65 : (65 : Int) ≤ C := by omega
    have f97 : ¬ (97 : Int) ≤ C := by omega
    have f90 : ¬ C ≤ (90 : Int) := by omega
    have f122 : C ≤ (122 : Int) := by omega
    have q95 : (C == (95 : Int)) = false := by rw [beq_eq_false_iff_ne]; omega
    clear hC h
    go_enter Try.func44, Try.ntmps44
    go_wp2_with fail
    go_ret
    exact ⟨rfl, rfl⟩
  · have hb : (decide (65 ≤ c) && decide (c ≤ 90) || (decide (97 ≤ c) && decide (c ≤ 122)) || decide (c = 95)) = true := by
      simp; omega
    rw [hb]; clear hb
    have f65 : (65 : Int) ≤ C := by omega
    have f97 : (97 : Int) ≤ C := by omega
    have f90 : ¬ C ≤ (90 : Int) := by omega
    have f122 : C ≤ (122 : Int) := by omega
    have q95 : (C == (95 : Int)) = false := by rw [beq_eq_false_iff_ne]; omega
    clear hC h
    go_enter Try.func44, Try.ntmps44
    go_wp2_with fail
    go_ret
    exact ⟨rfl, rfl⟩
  · have hb : (decide (65 ≤ c) && decide (c ≤ 90) || (decide (97 ≤ c) && decide (c ≤ 122)) || decide (c = 95)) = false := by
      simp; omega
    rw [hb]; clear hb
    have f65 : (65 : Int) ≤ C := by omega
    have f97 : (97 : Int) ≤ C := by omega
    have f90 : ¬ C ≤ (90 : Int) := by omega
    have f122 : ¬ C ≤ (122 : Int) := by omega
    have q95 : (C == (95 : Int)) = false := by rw [beq_eq_false_iff_ne]; omega
    clear hC h
    go_enter Try.func44, Try.ntmps44
    go_wp2_with fail
    go_ret
    exact ⟨rfl, rfl⟩
theorem nindex_any (c : UInt8) (w : World) : Calls Try.prog 55 #[.string ⟨#[45, 43, 47, 46]⟩, .int .u8 c.toNat] w fun e w' => ∃ i : Int, e = .returned (.int .i64 i) ∧ decide (0 ≤ i) = Lk.sg c.toNat ∧ w' = w := by
  have := Any.strings_IndexByte Try.lays137 ⟨#[45, 43, 47, 46]⟩ c.toNat w
  refine this.mono ?_
  rintro e w' ⟨he, hw⟩
  refine ⟨_, he, ?_, hw⟩
  rw [show ((c.toNat : Int)).toNat.toUInt8 = c by simp]
  exact Lk.sg_of c
set_option maxRecDepth 100000 in
theorem ngoes_any (c : UInt8) (w : World) : Calls Try.prog 43 #[.int .u8 c.toNat] w fun e w' => e = .returned (.bool (Lk.gn c.toNat)) ∧ w = w' := by
  have B := Lib.hid (fun W => nbegins_any c.toNat W (by have := c.toNat_lt; omega))
  have I := Lib.hid (fun W => nindex_any c W)
  unfold Lk.gn
  have hd : Lk.dg c.toNat = (decide ((48 : Int) ≤ (c.toNat : Int)) && decide ((c.toNat : Int) ≤ 57)) := by
    unfold Lk.dg
    rw [Bool.eq_iff_iff]; simp; omega
  generalize Lk.bg c.toNat = b at B ⊢
  generalize Lk.sg c.toNat = q at I ⊢
  generalize Lk.dg c.toNat = d at hd ⊢
  generalize (c.toNat : Int) = C at B I hd
  cases b
  · by_cases h1 : (48 : Int) ≤ C
    · by_cases h2 : C ≤ 57
      · rw [decide_eq_true h1, decide_eq_true h2] at hd
        subst hd
        clear I
        go_enter Try.func43, Try.ntmps43
        go_wp2_with fail
        refine (B.out _).mono ?_; rintro e w1 ⟨rfl, rfl⟩
        go_wp2_with fail
        go_ret
        exact ⟨rfl, rfl⟩
      · rw [decide_eq_true h1, decide_eq_false h2] at hd
        subst hd
        go_enter Try.func43, Try.ntmps43
        go_wp2_with fail
        refine (B.out _).mono ?_; rintro e w1 ⟨rfl, rfl⟩
        go_wp2_with fail
        refine (I.out _).mono ?_; rintro e w1 ⟨i, rfl, hq, rfl⟩
        cases q
        · have hq := of_decide_eq_false hq
          go_wp2_with fail
          go_ret
          exact ⟨by first | rfl | simp [h2], rfl⟩
        · have hq := of_decide_eq_true hq
          go_wp2_with fail
          go_ret
          exact ⟨by first | rfl | simp [h2], rfl⟩
    · rw [decide_eq_false h1] at hd
      obtain rfl : d = false := by rw [hd]; rfl
      clear hd
      go_enter Try.func43, Try.ntmps43
      go_wp2_with fail
      refine (B.out _).mono ?_; rintro e w1 ⟨rfl, rfl⟩
      go_wp2_with fail
      refine (I.out _).mono ?_; rintro e w1 ⟨i, rfl, hq, rfl⟩
      cases q
      · have hq := of_decide_eq_false hq
        go_wp2_with fail
        go_ret
        exact ⟨rfl, rfl⟩
      · have hq := of_decide_eq_true hq
        go_wp2_with fail
        go_ret
        exact ⟨rfl, rfl⟩
  · clear I hd
    go_enter Try.func43, Try.ntmps43
    go_wp2_with fail
    refine (B.out _).mono ?_; rintro e w1 ⟨rfl, rfl⟩
    go_wp2_with fail
    go_ret
    exact ⟨rfl, rfl⟩
set_option maxRecDepth 100000 in
theorem isname_any (s : ByteArray) (w : World) (hs : s.size ≤ 100) : Calls Try.prog 33 #[.string s] w fun e w' => e = .returned (.bool (Lk.isN s.data.toList)) ∧ w = w' := by
  obtain ⟨tot, htot⟩ : ∃ t, t = s.data.toList.all Lk.gnB := ⟨_, rfl⟩
  have HT := Lib.hid htot
  obtain ⟨hd, hhd⟩ : ∃ t : Bool, t = (match s.data.toList with | [] => false | c :: _ => Lk.bgB c) := ⟨_, rfl⟩
  have hN : Lk.isN s.data.toList = (tot && hd) := by rw [htot, hhd]; rfl
  have HH := Lib.hid hhd
  rw [hN]
  clear htot hhd hN
  go_enter Try.func33, Try.ntmps33
  go_wp2_with fail
  go_loopw [6] (fun i wr => ∃ k : Nat, k ≤ s.size ∧ i = .int .i64 k ∧ Hid ((s.data.toList.drop k).all Lk.gnB = tot) ∧ wr = w) (fun i _ => s.size - (intOf i).toNat)
  case atStart => exact ⟨0, Nat.zero_le _, rfl, HT.out.symm, rfl⟩
  case round =>
    obtain ⟨k, hk, rfl, hinv, hw⟩ := hrel
    obtain rfl : w = wr := hw.symm
    by_cases hlt : k < s.size
    · have IX := fun W => fd_ix s k hlt W
      have G := Lib.hid (fun W => ngoes_any s[k] W)
      have hi := hinv.out
      rw [fd_drop s k hlt, List.all_cons] at hi
      have hgn : Lk.gnB s[k] = Lk.gn s[k].toNat := rfl
      rw [hgn] at hi
      generalize Lk.gn s[k].toNat = g at G hi
      generalize (s[k].toNat : Int) = C at G IX
      cases g
      · obtain rfl : tot = false := by rw [← hi]; rfl
        clear hi hgn hinv HT
        go_wp2_with fail
        refine (G.out _).mono ?_; rintro e w1 ⟨rfl, hw1⟩
        cases hw1
        go_wp2_with fail
        go_ret
        exact ⟨rfl, rfl⟩
      · have HI := Lib.hid (show (s.data.toList.drop (k + 1)).all Lk.gnB = tot by rw [← hi]; rfl)
        clear hi hgn hinv
        go_wp2_with fail
        refine (G.out _).mono ?_; rintro e w1 ⟨rfl, hw1⟩
        cases hw1
        go_wp2_with fail
        go_roundw
        case rel => exact ⟨k + 1, by omega, by go_num, HI, by first | rfl | trivial⟩
        case measure => simp [intOf]; omega
    · obtain rfl : tot = true := by rw [← hinv.out, List.drop_of_length_le (by rw [fd_len]; omega)]; rfl
      clear HT hinv
      rcases Nat.eq_zero_or_pos s.size with h0 | h0
      · obtain rfl : s = ⟨#[]⟩ := by
          apply ByteArray.ext; apply Array.toList_inj.1
          rw [show s.data.toList = [] by rw [← List.length_eq_zero_iff, fd_len]; exact h0]
        obtain rfl : hd = false := HH.out
        clear HH
        go_wp2_with fail
        go_ret
        exact ⟨rfl, rfl⟩
      · obtain ⟨n1, n2⟩ := fd_ne h0
        have IX0 := fun W => fd_ix s 0 h0 W
        have B := Lib.hid (fun W => nbegins_any s[0].toNat W (by have := s[0].toNat_lt; omega))
        have hh : hd = Lk.bg s[0].toNat := by
          have e : s.data.toList = s[0] :: s.data.toList.drop 1 := by have := fd_drop s 0 h0; simpa using this
          rw [HH.out, e]; rfl
        rw [← hh] at B
        have IX0 : ∀ W, Sem.run Try.prog (Instr.index 9 (.string s) (.int .i64 0)) W = .ok (.int .u8 s[0].toNat) W := IX0
        generalize (s[0].toNat : Int) = C at B IX0
        clear hh HH
        go_wp2_with fail
        refine (B.out _).mono ?_; rintro e w1 ⟨rfl, hw1⟩
        cases hw1
        go_wp2_with fail
        go_ret
        exact ⟨rfl, rfl⟩
theorem rname_any (s : ByteArray) (w : World) (hs : s.size ≤ maxLen) : Calls Try.prog 19 #[.string s] w fun e w' => e = .returned (.int .i64 (Lk.nm s.data.toList)) ∧ w = w' := by
  unfold Lk.nm
  unfold maxLen at hs
  rw [fd_len]
  by_cases h : 64 < s.size
  · rw [if_pos h]
    have h1 : 64 < (s.size : Int) := by omega
    clear h
    go_enter Try.func19, Try.ntmps19
    go_wp2_with fail
    go_ret
    exact ⟨rfl, rfl⟩
  · rw [if_neg h]
    have h1 : ¬ 64 < (s.size : Int) := by omega
    have C := Lib.hid (fun W => isname_any s W (by omega))
    clear h
    generalize Lk.isN s.data.toList = b at C ⊢
    cases b
    all_goals
      go_enter Try.func19, Try.ntmps19
      go_wp2_with fail
      refine (C.out _).mono ?_; rintro e w1 ⟨rfl, rfl⟩
      go_wp2_with fail
      go_ret
      exact ⟨rfl, rfl⟩
end Go.Proofs.Ytjnhaabbnbcaeaa
