/- Joined: FdL, FdC0, Sl, StL, FdS, LkA, Cal, CivA, DrM, One, DrAo, DrA, ClR0. -/
import Derived.Test.YtpggfhmnhbnefaaGreatDoorBd01
import Derived.OwnWalk
import Derived.Laws.OwnMore
import Derived.Deep.AppendLies
import Derived.Deep.Draws
import Derived.Test.YtpggfhmnhbnefaaGreatDoorLaidK
import Derived.Lib.IndexAny
import Derived.Shelf.Small.Strs
set_option linter.unusedVariables false
set_option linter.unusedSimpArgs false
namespace Go.Proofs.YtpggfhmnhbnefaaGreatDoor
namespace Fd
def isK (r : Nat) : Bool := (decide (r = 32) || decide (r = 9)) || (decide (r = 34) || decide (r = 35))
def mkB (c : UInt8) : Bool := isK c.toNat
def tx (l : List UInt8) : List UInt8 × Int := if l.contains 34 = true then ([], 8) else if l = [] ∨ l.any mkB = true then (34 :: (l ++ [34]), 0) else (l, 0)
end Fd
end Go.Proofs.YtpggfhmnhbnefaaGreatDoor
set_option linter.unusedVariables false
set_option linter.unusedSimpArgs false
namespace Go.Proofs.YtpggfhmnhbnefaaGreatDoor
open Go.RowKit
theorem fd_len (a : ByteArray) : a.data.toList.length = a.size := Array.length_toList
theorem fd_drop (a : ByteArray) (k : Nat) (h : k < a.size) : a.data.toList.drop k = a[k] :: a.data.toList.drop (k + 1) := by
 rw [List.drop_eq_getElem_cons (by rw [fd_len]; exact h)]
 rfl
theorem fd_ne {ds : ByteArray} (h : 0 < ds.size) : ds.toList.isEmpty = false ∧ ¬ ds.toList = [] := by
 have : ds.toList ≠ [] := by
  intro e
  have hl := fd_len ds
  rw [← ByteArray.toList_eq] at hl
  rw [e] at hl; simp at hl; omega
 exact ⟨by simpa using this, this⟩
theorem fd_ix (a : ByteArray) (k : Nat) (h : k < a.size) (w : World) : Sem.run Tryz.prog (Instr.index 9 (.string a) (.int .i64 (k : Int))) w = .ok (.int .u8 a[k].toNat) w := by
 rw [run_index_string w _ _ _ _ Tryz.underlying9, dif_pos ⟨by omega, by omega⟩]
 simp
end Go.Proofs.YtpggfhmnhbnefaaGreatDoor
set_option linter.unusedVariables false
set_option linter.unusedSimpArgs false
namespace Go.Proofs.YtpggfhmnhbnefaaGreatDoor
open Go.RowKit Go.Sort
theorem blk_add (a : Addr) (j : Nat) : (a.add j).block = a.block := by unfold Addr.add; split <;> rfl
theorem add_two (a : Addr) (i j : Nat) : (a.add i).add j = a.add (i + j) := by
 unfold Addr.add
 by_cases hi : i = 0 <;> by_cases hj : j = 0 <;> simp [hi, hj, Nat.add_assoc]
def Lst (w : World) (B : Nat) (v : Value) (n : Nat) (xs : List Value) : Prop :=
 ∃ A c, v = .slice A n c ∧ (0 < n → ∃ a, A = some a ∧ a.block < B ∧ ∀ (j : Nat) (u : Value), xs[j]? = some u → w.cell? (a.add j) = some u)
theorem Lst.nil (w : World) (B : Nat) : Lst w B (.slice none 0 0) 0 [] := ⟨none, 0, rfl, fun h => absurd h (by omega)⟩
theorem Lst.keep {w w' : World} {B : Nat} {v : Value} {n : Nat} {xs : List Value} (h : Lst w B v n xs) (k : ∀ p : Addr, p.block < B → w'.cell? p = w.cell? p) : Lst w' B v n xs := by
 obtain ⟨A, c, hv, ha⟩ := h
 refine ⟨A, c, hv, fun hn => ?_⟩
 obtain ⟨a, e, hb, hc⟩ := ha hn
 exact ⟨a, e, hb, fun j u hu => (k _ (by rw [blk_add]; exact hb)).trans (hc j u hu)⟩
theorem Lst.more {w : World} {B B' : Nat} {v : Value} {n : Nat} {xs : List Value} (h : Lst w B v n xs) (k : B ≤ B') : Lst w B' v n xs := by
 obtain ⟨A, c, hv, ha⟩ := h
 refine ⟨A, c, hv, fun hn => ?_⟩
 obtain ⟨a, e, hb, hc⟩ := ha hn
 exact ⟨a, e, Nat.lt_of_lt_of_le hb k, hc⟩
theorem Lst.below {w w' : World} {B : Nat} {v : Value} {n : Nat} {xs : List Value} (h : Lst w B v n xs) (k : Below B w w') : Lst w' B v n xs := h.keep fun _ hp => k.cell hp
theorem Lst.on {w w' : World} {v : Value} {n : Nat} {xs : List Value} (h : Lst w w.heap.size v n xs) (k : Below w.heap.size w w') : Lst w' w'.heap.size v n xs := (h.below k).more k.size
theorem Lst.drewN {w : World} {B : Nat} {v : Value} {n : Nat} {xs : List Value} (h : Lst w B v n xs) (k : Nat) : Lst (w.drewN k) B v n xs := h
theorem Lst.own {w : World} {base : Nat} {e : TypeId} {size : Nat} {v : Value} {n : Nat} {xs : List Value} (h : w.ownsRow base e size v n xs) : Lst w w.heap.size v n xs := by
 rcases Nat.eq_zero_or_pos n with h0 | h0
 ·
  have hx : xs = [] := by
   have := h.1
   rw [h0, Nat.zero_mul] at this
   exact List.eq_nil_of_length_eq_zero this
  rcases h.2 with ⟨hv, _⟩ | ⟨g, cap, cur, hv, _⟩
  ·
   exact ⟨none, 0, by rw [h0]; exact hv, fun hh => absurd hh (by omega)⟩
  ·
   exact ⟨_, _, hv, fun hh => absurd hh (by omega)⟩
 ·
  obtain ⟨g, cap, hv, _, hlt⟩ := h.form h0
  exact ⟨_, _, hv, fun _ => ⟨_, rfl, hlt, h.cells (g := g) (by rw [hv]; rfl)⟩⟩
theorem below_grown {w w' : World} {row : Option Nat} {B : Nat} (h : w.grownBy w' row) (hB : B ≤ w.heap.size) (hr : ∀ g, row = some g → B ≤ g) : Below B w w' :=
 ⟨h.os, h.tape, h.output, h.size, fun i hi => h.block i (by omega) (fun e => by have := hr _ e.symm; omega)⟩
theorem grown_below {w w' : World} (h : Below w.heap.size w w') (row : Option Nat) : w.grownBy w' row := ⟨h.os, h.tape, h.output, h.size, fun i hi _ => h.block i hi⟩
theorem own_on {w w' : World} {base : Nat} {e : TypeId} {size : Nat} {v : Value} {n : Nat} {xs : List Value} (h : w.ownsRow base e size v n xs) (k : Below w.heap.size w w') : w'.ownsRow base e size v n xs :=
 h.kept (grown_below k none) (by
  cases hv : v.ownBlock
  ·
   exact .inl rfl
  ·
   exact .inr (by simp))
theorem own_row {w : World} {base : Nat} {e : TypeId} {size : Nat} {v : Value} {n : Nat} {xs : List Value} (h : w.ownsRow base e size v n xs) : ∀ g, v.ownBlock = some g → base ≤ g := fun g hg => (h.lt g hg).1
def spc (l : List (Int × Int)) : List Value := l.flatMap fun p => [.int .i64 p.1, .int .i64 p.2]
theorem spc_at (l : List (Int × Int)) (k : Nat) (h : k < l.length) : (spc l)[k * 2]? = some (.int .i64 l[k].1) ∧ (spc l)[k * 2 + 1]? = some (.int .i64 l[k].2) := by
 induction l generalizing k with
 | nil => exact absurd h (by simp)
 | cons p l ih =>
  cases k with
  | zero => exact ⟨rfl, rfl⟩
  | succ k =>
   have := ih k (by simpa using h)
   have e : spc (p :: l) = .int .i64 p.1 :: .int .i64 p.2 :: spc l := rfl
   rw [e]
   rw [show (k + 1) * 2 = k * 2 + 1 + 1 by omega]
   simpa using this
def SpV (w : World) (v : Value) (l : List (Int × Int)) : Prop := Lst w w.heap.size v l.length (spc l)
theorem SpV.on {w w' : World} {v : Value} {l : List (Int × Int)} (h : SpV w v l) (k : Below w.heap.size w w') : SpV w' v l := Lst.on h k
theorem SpV.own {w : World} {base : Nat} {e : TypeId} {v : Value} {l : List (Int × Int)} (h : w.ownsRow base e 2 v l.length (spc l)) : SpV w v l := Lst.own h
theorem SpV.at_ {w : World} {v : Value} {l : List (Int × Int)} (h : SpV w v l) (k : Nat) (hk : k < l.length) : ∃ a c, v = .slice (some a) l.length c ∧ a.block < w.heap.size ∧ w.cell? (a.add (k * 2)) = some (.int .i64 l[k].1) ∧ w.cell? (a.add (k * 2 + 1)) = some (.int .i64 l[k].2) := by
 obtain ⟨A, c, hv, ha⟩ := h
 obtain ⟨a, e, hb, hc⟩ := ha (by omega)
 obtain ⟨h1, h2⟩ := spc_at l k hk
 exact ⟨a, c, by rw [hv, e], hb, hc _ _ h1, hc _ _ h2⟩
theorem SpV.get {w : World} {A : Option Addr} {n c : Nat} {l : List (Int × Int)} (h : SpV w (.slice A n c) l) (k : Nat) (hk : k < l.length) : ∃ a, A = some a ∧ a.block < w.heap.size ∧ w.cell? (a.add (k * 2)) = some (.int .i64 l[k].1) ∧ w.cell? ⟨(a.add (k * 2)).block, (a.add (k * 2)).off + 1, none⟩ = some (.int .i64 l[k].2) := by
 obtain ⟨a, c', hv, r⟩ := h.at_ k hk
 cases hv
 refine ⟨a, rfl, r.1, r.2.1, ?_⟩
 have e : (⟨(a.add (k * 2)).block, (a.add (k * 2)).off + 1, none⟩ : Addr) = a.add (k * 2 + 1) := by rw [← add_two]; rfl
 rw [e]
 exact r.2.2
theorem SpV.len {w : World} {A : Option Addr} {n c : Nat} {l : List (Int × Int)} (h : SpV w (.slice A n c) l) : n = l.length := by
 obtain ⟨A', c', hv, _⟩ := h
 cases hv
 rfl
def StS (w : World) (v : Value) (l : List ByteArray) : Prop := Lst w w.heap.size v l.length (l.map Value.string)
theorem StS.on {w w' : World} {v : Value} {l : List ByteArray} (h : StS w v l) (k : Below w.heap.size w w') : StS w' v l := Lst.on h k
theorem StS.get {w : World} {A : Option Addr} {n c : Nat} {l : List ByteArray} (h : StS w (.slice A n c) l) (k : Nat) (hk : k < l.length) : ∃ a, A = some a ∧ w.cell? (a.add k) = some (.string l[k]) := by
 obtain ⟨A', c', hv, ha⟩ := h
 cases hv
 obtain ⟨a, e, hb, hc⟩ := ha (by omega)
 refine ⟨a, e, hc k _ ?_⟩
 rw [List.getElem?_map, List.getElem?_eq_getElem hk]; rfl
theorem StS.len {w : World} {A : Option Addr} {n c : Nat} {l : List ByteArray} (h : StS w (.slice A n c) l) : n = l.length := by
 obtain ⟨A', c', hv, _⟩ := h
 cases hv; rfl
def AnsF (P : List (List UInt8) × Int) (w : World) (e : Ending) (w' : World) : Prop := ∃ (v : Value) (l : List ByteArray), StS w' v l ∧ l.map (·.data.toList) = P.1 ∧ e = .returned (.tuple #[v, .int .i64 P.2]) ∧ Below w.heap.size w w'
theorem fd_bytes {l l' : List ByteArray} (h : l.map (·.data.toList) = l'.map (·.data.toList)) : l = l' := by
 induction l generalizing l' with
 | nil => cases l' with
  | nil => rfl
  | cons _ _ => cases h
 | cons x r ih =>
  cases l' with
  | nil => cases h
  | cons y r' =>
   simp only [List.map_cons, List.cons.injEq] at h
   rw [ih h.2, show x = y from ByteArray.ext (Array.toList_inj.1 h.1)]
theorem fd_parts {i0 : Option TypeInfo} {z : Value} {n b : Nat} (h : i0.map (fun i => (i.zero, i.size, i.bytes)) = some (some z, n, b)) : ∃ i, i0 = some i ∧ i.zero = some z ∧ i.size = n ∧ i.bytes = b := by
 cases i0 with
 | none => cases h
 | some i => simp at h; exact ⟨i, rfl, h.1, h.2.1, h.2.2⟩
theorem fd_info : (Tryz.prog.info? 9).map (fun i => (i.zero, i.size, i.bytes)) = some (some (.string ⟨#[]⟩), 1, 16) := by kernel_rfl
theorem StS.nil (w : World) : StS w (.slice none 0 0) [] := Lst.nil w _
theorem fd_keep {P : Addr} {v : Value} {w W : World} (hm : w.cell? P = some v) (k : Below w.heap.size w W) : W.cell? P = some v :=
 (k.cell (World.block_lt_of_cell? _ _ hm)).trans hm
namespace Lk
def bg (c : Nat) : Bool := (decide (65 ≤ c) && decide (c ≤ 90)) || (decide (97 ≤ c) && decide (c ≤ 122)) || decide (c = 95)
def dg (c : Nat) : Bool := decide (48 ≤ c) && decide (c ≤ 57)
def sg (c : Nat) : Bool := decide (c = 45) || decide (c = 43) || decide (c = 47) || decide (c = 46)
def gn (c : Nat) : Bool := bg c || dg c || sg c
def bgB (c : UInt8) : Bool := bg c.toNat
def gnB (c : UInt8) : Bool := gn c.toNat
def isN (l : List UInt8) : Bool := l.all gnB && (match l with | [] => false | c :: _ => bgB c)
def nm (l : List UInt8) : Int := if 64 < l.length then 9 else if isN l = true then 0 else 10
theorem bg_gn {c : Nat} (h : bg c = true) : gn c = true := by unfold gn; rw [h]; rfl
theorem sg_of (c : UInt8) : decide (0 ≤ Lib.indexByte [45, 43, 47, 46] c) = sg c.toNat := by
 have h : ∀ n : Fin 256, decide (0 ≤ Lib.indexByte [45, 43, 47, 46] (UInt8.ofNat n.1)) = sg n.1 := by decide +kernel
 have := h ⟨c.toNat, c.toNat_lt⟩
 simpa using this
end Lk
set_option maxRecDepth 100000 in
theorem nbegins_any (c : Nat) (w : World) (hc : c ≤ 255) : Calls Tryz.prog 111 #[.int .u8 (c : Int)] w fun e w' => e = .returned (.bool (Lk.bg c)) ∧ w = w' := by
 unfold Lk.bg
 obtain ⟨C, hC⟩ : ∃ C : Int, C = c := ⟨_, rfl⟩
 rw [← hC]
 rcases (by omega : (0 ≤ c ∧ c ≤ 64) ∨ (65 ≤ c ∧ c ≤ 90) ∨ (91 ≤ c ∧ c ≤ 94) ∨ (95 ≤ c ∧ c ≤ 95) ∨ (96 ≤ c ∧ c ≤ 96) ∨ (97 ≤ c ∧ c ≤ 122) ∨ (123 ≤ c ∧ c ≤ 255)) with h | h | h | h | h | h | h
 ·
  have hb : (decide (65 ≤ c) && decide (c ≤ 90) || (decide (97 ≤ c) && decide (c ≤ 122)) || decide (c = 95)) = false := by
   simp; omega
  rw [hb]; clear hb
  have f65 : ¬ (65 : Int) ≤ C := by omega
  have f97 : ¬ (97 : Int) ≤ C := by omega
  have f90 : C ≤ (90 : Int) := by omega
  have f122 : C ≤ (122 : Int) := by omega
  have q95 : (C == (95 : Int)) = false := by rw [beq_eq_false_iff_ne]; omega
  clear hC h
  go_enter Tryz.func111, Tryz.ntmps111
  go_wp2_with fail
  go_ret
  exact ⟨rfl, rfl⟩
 ·
  have hb : (decide (65 ≤ c) && decide (c ≤ 90) || (decide (97 ≤ c) && decide (c ≤ 122)) || decide (c = 95)) = true := by
   simp; omega
  rw [hb]; clear hb
  have f65 : (65 : Int) ≤ C := by omega
  have f97 : ¬ (97 : Int) ≤ C := by omega
  have f90 : C ≤ (90 : Int) := by omega
  have f122 : C ≤ (122 : Int) := by omega
  have q95 : (C == (95 : Int)) = false := by rw [beq_eq_false_iff_ne]; omega
  clear hC h
  go_enter Tryz.func111, Tryz.ntmps111
  go_wp2_with fail
  go_ret
  exact ⟨rfl, rfl⟩
 ·
  have hb : (decide (65 ≤ c) && decide (c ≤ 90) || (decide (97 ≤ c) && decide (c ≤ 122)) || decide (c = 95)) = false := by
   simp; omega
  rw [hb]; clear hb
  have f65 : (65 : Int) ≤ C := by omega
  have f97 : ¬ (97 : Int) ≤ C := by omega
  have f90 : ¬ C ≤ (90 : Int) := by omega
  have f122 : C ≤ (122 : Int) := by omega
  have q95 : (C == (95 : Int)) = false := by rw [beq_eq_false_iff_ne]; omega
  clear hC h
  go_enter Tryz.func111, Tryz.ntmps111
  go_wp2_with fail
  go_ret
  exact ⟨rfl, rfl⟩
 ·
  have hb : (decide (65 ≤ c) && decide (c ≤ 90) || (decide (97 ≤ c) && decide (c ≤ 122)) || decide (c = 95)) = true := by
   simp; omega
  rw [hb]; clear hb
  obtain rfl : C = 95 := by omega
  clear hC h
  go_enter Tryz.func111, Tryz.ntmps111
  go_wp2_with fail
  go_ret
  exact ⟨rfl, rfl⟩
 ·
  have hb : (decide (65 ≤ c) && decide (c ≤ 90) || (decide (97 ≤ c) && decide (c ≤ 122)) || decide (c = 95)) = false := by
   simp; omega
  rw [hb]; clear hb
  have f65 : (65 : Int) ≤ C := by omega
  have f97 : ¬ (97 : Int) ≤ C := by omega
  have f90 : ¬ C ≤ (90 : Int) := by omega
  have f122 : C ≤ (122 : Int) := by omega
  have q95 : (C == (95 : Int)) = false := by rw [beq_eq_false_iff_ne]; omega
  clear hC h
  go_enter Tryz.func111, Tryz.ntmps111
  go_wp2_with fail
  go_ret
  exact ⟨rfl, rfl⟩
 ·
  have hb : (decide (65 ≤ c) && decide (c ≤ 90) || (decide (97 ≤ c) && decide (c ≤ 122)) || decide (c = 95)) = true := by
   simp; omega
  rw [hb]; clear hb
  have f65 : (65 : Int) ≤ C := by omega
  have f97 : (97 : Int) ≤ C := by omega
  have f90 : ¬ C ≤ (90 : Int) := by omega
  have f122 : C ≤ (122 : Int) := by omega
  have q95 : (C == (95 : Int)) = false := by rw [beq_eq_false_iff_ne]; omega
  clear hC h
  go_enter Tryz.func111, Tryz.ntmps111
  go_wp2_with fail
  go_ret
  exact ⟨rfl, rfl⟩
 ·
  have hb : (decide (65 ≤ c) && decide (c ≤ 90) || (decide (97 ≤ c) && decide (c ≤ 122)) || decide (c = 95)) = false := by
   simp; omega
  rw [hb]; clear hb
  have f65 : (65 : Int) ≤ C := by omega
  have f97 : (97 : Int) ≤ C := by omega
  have f90 : ¬ C ≤ (90 : Int) := by omega
  have f122 : ¬ C ≤ (122 : Int) := by omega
  have q95 : (C == (95 : Int)) = false := by rw [beq_eq_false_iff_ne]; omega
  clear hC h
  go_enter Tryz.func111, Tryz.ntmps111
  go_wp2_with fail
  go_ret
  exact ⟨rfl, rfl⟩
theorem nindex_any (c : UInt8) (w : World) : Calls Tryz.prog 156 #[.string ⟨#[45, 43, 47, 46]⟩, .int .u8 c.toNat] w fun e w' => ∃ i : Int, e = .returned (.int .i64 i) ∧ decide (0 ≤ i) = Lk.sg c.toNat ∧ w' = w := by
 have := Any.strings_IndexByte Tryz.lays137 ⟨#[45, 43, 47, 46]⟩ c.toNat w
 refine this.mono ?_
 rintro e w' ⟨he, hw⟩
 refine ⟨_, he, ?_, hw⟩
 rw [show ((c.toNat : Int)).toNat.toUInt8 = c by simp]
 exact Lk.sg_of c
set_option maxRecDepth 100000 in
theorem ngoes_any (c : UInt8) (w : World) : Calls Tryz.prog 110 #[.int .u8 c.toNat] w fun e w' => e = .returned (.bool (Lk.gn c.toNat)) ∧ w = w' := by
 have B := Lib.hid (fun W => nbegins_any c.toNat W (by have := c.toNat_lt; omega))
 have I := Lib.hid (fun W => nindex_any c W)
 unfold Lk.gn
 have hd : Lk.dg c.toNat = (decide ((48 : Int) ≤ (c.toNat : Int)) && decide ((c.toNat : Int) ≤ 57)) := by
  unfold Lk.dg
  rw [Bool.eq_iff_iff]; simp; omega
 generalize Lk.bg c.toNat = b at B ⊢
 generalize Lk.sg c.toNat = q at I ⊢
 generalize Lk.dg c.toNat = d at hd ⊢
 generalize (c.toNat : Int) = C at B I hd
 cases b
 ·
  by_cases h1 : (48 : Int) ≤ C
  ·
   by_cases h2 : C ≤ 57
   ·
    rw [decide_eq_true h1, decide_eq_true h2] at hd
    subst hd
    clear I
    go_enter Tryz.func110, Tryz.ntmps110
    go_wp2_with fail
    refine (B.out _).mono ?_; rintro e w1 ⟨rfl, rfl⟩
    go_wp2_with fail
    go_ret
    exact ⟨rfl, rfl⟩
   ·
    rw [decide_eq_true h1, decide_eq_false h2] at hd
    subst hd
    go_enter Tryz.func110, Tryz.ntmps110
    go_wp2_with fail
    refine (B.out _).mono ?_; rintro e w1 ⟨rfl, rfl⟩
    go_wp2_with fail
    refine (I.out _).mono ?_; rintro e w1 ⟨i, rfl, hq, rfl⟩
    cases q
    ·
     have hq := of_decide_eq_false hq
     go_wp2_with fail
     go_ret
     exact ⟨by first | rfl | simp [h2], rfl⟩
    ·
     have hq := of_decide_eq_true hq
     go_wp2_with fail
     go_ret
     exact ⟨by first | rfl | simp [h2], rfl⟩
  ·
   rw [decide_eq_false h1] at hd
   obtain rfl : d = false := by rw [hd]; rfl
   clear hd
   go_enter Tryz.func110, Tryz.ntmps110
   go_wp2_with fail
   refine (B.out _).mono ?_; rintro e w1 ⟨rfl, rfl⟩
   go_wp2_with fail
   refine (I.out _).mono ?_; rintro e w1 ⟨i, rfl, hq, rfl⟩
   cases q
   ·
    have hq := of_decide_eq_false hq
    go_wp2_with fail
    go_ret
    exact ⟨rfl, rfl⟩
   ·
    have hq := of_decide_eq_true hq
    go_wp2_with fail
    go_ret
    exact ⟨rfl, rfl⟩
 ·
  clear I hd
  go_enter Tryz.func110, Tryz.ntmps110
  go_wp2_with fail
  refine (B.out _).mono ?_; rintro e w1 ⟨rfl, rfl⟩
  go_wp2_with fail
  go_ret
  exact ⟨rfl, rfl⟩
set_option maxRecDepth 100000 in
theorem isname_any (s : ByteArray) (w : World) (hs : s.size ≤ 100) : Calls Tryz.prog 58 #[.string s] w fun e w' => e = .returned (.bool (Lk.isN s.data.toList)) ∧ w = w' := by
 obtain ⟨tot, htot⟩ : ∃ t, t = s.data.toList.all Lk.gnB := ⟨_, rfl⟩
 have HT := Lib.hid htot
 obtain ⟨hd, hhd⟩ : ∃ t : Bool, t = (match s.data.toList with | [] => false | c :: _ => Lk.bgB c) := ⟨_, rfl⟩
 have hN : Lk.isN s.data.toList = (tot && hd) := by rw [htot, hhd]; rfl
 have HH := Lib.hid hhd
 rw [hN]
 clear htot hhd hN
 go_enter Tryz.func58, Tryz.ntmps58
 go_wp2_with fail
 go_loopw [6] (fun i wr => ∃ k : Nat, k ≤ s.size ∧ i = .int .i64 k ∧ Hid ((s.data.toList.drop k).all Lk.gnB = tot) ∧ wr = w) (fun i _ => s.size - (intOf i).toNat)
 case atStart => exact ⟨0, Nat.zero_le _, rfl, HT.out.symm, rfl⟩
 case round =>
  obtain ⟨k, hk, rfl, hinv, hw⟩ := hrel
  obtain rfl : w = wr := hw.symm
  by_cases hlt : k < s.size
  ·
   have IX := fun W => fd_ix s k hlt W
   have G := Lib.hid (fun W => ngoes_any s[k] W)
   have hi := hinv.out
   rw [fd_drop s k hlt, List.all_cons] at hi
   have hgn : Lk.gnB s[k] = Lk.gn s[k].toNat := rfl
   rw [hgn] at hi
   generalize Lk.gn s[k].toNat = g at G hi
   generalize (s[k].toNat : Int) = C at G IX
   cases g
   ·
    obtain rfl : tot = false := by rw [← hi]; rfl
    clear hi hgn hinv HT
    go_wp2_with fail
    refine (G.out _).mono ?_; rintro e w1 ⟨rfl, hw1⟩
    cases hw1
    go_wp2_with fail
    go_ret
    exact ⟨rfl, rfl⟩
   ·
    have HI := Lib.hid (show (s.data.toList.drop (k + 1)).all Lk.gnB = tot by rw [← hi]; rfl)
    clear hi hgn hinv
    go_wp2_with fail
    refine (G.out _).mono ?_; rintro e w1 ⟨rfl, hw1⟩
    cases hw1
    go_wp2_with fail
    go_roundw
    case rel => exact ⟨k + 1, by omega, by go_num, HI, by first | rfl | trivial⟩
    case measure => simp [intOf]; omega
  ·
   obtain rfl : tot = true := by rw [← hinv.out, List.drop_of_length_le (by rw [fd_len]; omega)]; rfl
   clear HT hinv
   rcases Nat.eq_zero_or_pos s.size with h0 | h0
   ·
    obtain rfl : s = ⟨#[]⟩ := by
     apply ByteArray.ext; apply Array.toList_inj.1
     rw [show s.data.toList = [] by rw [← List.length_eq_zero_iff, fd_len]; exact h0]
    obtain rfl : hd = false := HH.out
    clear HH
    go_wp2_with fail
    go_ret
    exact ⟨rfl, rfl⟩
   ·
    obtain ⟨n1, n2⟩ := fd_ne h0
    have IX0 := fun W => fd_ix s 0 h0 W
    have B := Lib.hid (fun W => nbegins_any s[0].toNat W (by have := s[0].toNat_lt; omega))
    have hh : hd = Lk.bg s[0].toNat := by
     have e : s.data.toList = s[0] :: s.data.toList.drop 1 := by have := fd_drop s 0 h0; simpa using this
     rw [HH.out, e]; rfl
    rw [← hh] at B
    have IX0 : ∀ W, Sem.run Tryz.prog (Instr.index 9 (.string s) (.int .i64 0)) W = .ok (.int .u8 s[0].toNat) W := IX0
    generalize (s[0].toNat : Int) = C at B IX0
    clear hh HH
    go_wp2_with fail
    refine (B.out _).mono ?_; rintro e w1 ⟨rfl, hw1⟩
    cases hw1
    go_wp2_with fail
    go_ret
    exact ⟨rfl, rfl⟩
theorem rname_any (s : ByteArray) (w : World) (hs : s.size ≤ maxLen) : Calls Tryz.prog 15 #[.string s] w fun e w' => e = .returned (.int .i64 (Lk.nm s.data.toList)) ∧ w = w' := by
 unfold Lk.nm
 unfold maxLen at hs
 rw [fd_len]
 by_cases h : 64 < s.size
 ·
  rw [if_pos h]
  have h1 : 64 < (s.size : Int) := by omega
  clear h
  go_enter Tryz.func15, Tryz.ntmps15
  go_wp2_with fail
  go_ret
  exact ⟨rfl, rfl⟩
 ·
  rw [if_neg h]
  have h1 : ¬ 64 < (s.size : Int) := by omega
  have C := Lib.hid (fun W => isname_any s W (by omega))
  clear h
  generalize Lk.isN s.data.toList = b at C ⊢
  cases b
  all_goals
   go_enter Tryz.func15, Tryz.ntmps15
   go_wp2_with fail
   refine (C.out _).mono ?_; rintro e w1 ⟨rfl, rfl⟩
   go_wp2_with fail
   go_ret
   exact ⟨rfl, rfl⟩
end Go.Proofs.YtpggfhmnhbnefaaGreatDoor
set_option linter.unusedVariables false
set_option linter.unusedSimpArgs false
namespace Go.Proofs.YtpggfhmnhbnefaaGreatDoor.Cal
def lp (y : Int) : Int := if y % 4 = 0 ∧ (y % 100 ≠ 0 ∨ y % 400 = 0) then 1 else 0
def len (y m : Int) : Int := if m = 1 ∨ m = 3 ∨ m = 5 ∨ m = 7 ∨ m = 8 ∨ m = 10 ∨ m = 12 then 31 else if m = 4 ∨ m = 6 ∨ m = 9 ∨ m = 11 then 30 else if m = 2 then 28 + lp y else 0
def ahead (y : Int) : Int := 365 * (y - 1970) + ((y-1)/4 - (y-1)/100 + (y-1)/400) - 477
def cum (y m : Int) : Int := if m ≤ 1 then 0 else if m = 2 then 31 else (if m = 3 then 59 else if m = 4 then 90 else if m = 5 then 120 else if m = 6 then 151 else if m = 7 then 181 else if m = 8 then 212 else if m = 9 then 243 else if m = 10 then 273 else if m = 11 then 304 else if m = 12 then 334 else 365) + lp y
def num (y m d : Int) : Int := ahead y + cum y m + d - 1
structure Right (y m d : Int) : Prop where
 y0 : -40000 ≤ y
 y1 : y ≤ 40000
 d0 : 1 ≤ d
 d1 : d ≤ len y m
theorem lp_01 (y : Int) : 0 ≤ lp y ∧ lp y ≤ 1 := by unfold lp; split <;> omega
theorem twelve {m : Int} (h1 : 1 ≤ m) (h2 : m ≤ 12) : m = 1 ∨ m = 2 ∨ m = 3 ∨ m = 4 ∨ m = 5 ∨ m = 6 ∨ m = 7 ∨ m = 8 ∨ m = 9 ∨ m = 10 ∨ m = 11 ∨ m = 12 := by omega
/-! ### as the code reckons -/
end Go.Proofs.YtpggfhmnhbnefaaGreatDoor.Cal
set_option linter.unusedVariables false
set_option linter.unusedSimpArgs false
namespace Go.Proofs.YtpggfhmnhbnefaaGreatDoor
open Go.RowKit
def lpB (y : Int) : Bool := decide (Cal.lp y = 1)
theorem tz (y k : Int) : y.tmod k = 0 ↔ y % k = 0 := by
 rw [← Int.dvd_iff_tmod_eq_zero, ← Int.dvd_iff_emod_eq_zero]
theorem tmod_zero (y k : Int) : (y.tmod k == 0) = (y % k == 0) := by
 rw [Bool.eq_iff_iff]; simp [← Int.dvd_iff_tmod_eq_zero, ← Int.dvd_iff_emod_eq_zero]
theorem lpB_eq (y : Int) : lpB y = (y % 4 == 0 && (y % 100 != 0 || y % 400 == 0)) := by
 unfold lpB Cal.lp
 rw [Bool.eq_iff_iff]; simp
theorem lp_true {y : Int} (h : lpB y = true) : Cal.lp y = 1 := by simpa [lpB] using h
theorem lp_false {y : Int} (h : lpB y = false) : Cal.lp y = 0 := by
 have := Cal.lp_01 y; have : ¬ Cal.lp y = 1 := by simpa [lpB] using h
 omega
set_option maxHeartbeats 400000 in
theorem leap_any (y : Int) (w : World) :
  Calls Tryz.prog 154 #[.int .i64 y] w fun e w' => e = .returned (.bool (lpB y)) ∧ w = w' := by
 have t4 := tmod_zero y 4
 have t100 := tmod_zero y 100
 have t400 := tmod_zero y 400
 go_enter Tryz.func154, Tryz.ntmps154
 go_wp2
 all_goals go_ret
 all_goals (refine ⟨?_, rfl⟩; rw [lpB_eq])
 ·
  have h4 : y % 4 = 0 := by assumption
  have h100 : y % 100 = 0 := (tz y 100).1 (by assumption)
  simp [h4, h100]
 ·
  have h4 : y % 4 = 0 := by assumption
  have h100 : ¬ y % 100 = 0 := fun h => absurd ((tz y 100).2 h) (by assumption)
  simp [h4, h100]
 ·
  have h4 : ¬ y % 4 = 0 := by assumption
  simp [h4]
set_option maxHeartbeats 400000 in
theorem len_any (y m : Int) (w : World) :
  Calls Tryz.prog 108 #[.int .i64 y, .int .i64 m] w fun e w' => e = .returned (.int .i64 (Cal.len y m)) ∧ w = w' := by
 by_cases h2 : m = 2
 ·
  subst h2
  have hl : Cal.len y 2 = 28 + Cal.lp y := by simp [Cal.len]
  rw [hl]; clear hl
  go_enter Tryz.func108, Tryz.ntmps108
  go_wp2_with (go_at_call 154; refine (leap_any _ _).mono ?_; rintro e w' ⟨rfl, rfl⟩)
  ·
   have h : lpB y = true := by assumption
   go_ret; exact ⟨ret_int (by have := lp_true h; omega), rfl⟩
  ·
   have h : lpB y = false := by simp_all
   go_ret; exact ⟨ret_int (by have := lp_false h; omega), rfl⟩
 ·
  by_cases h : m = 1 ∨ m = 3 ∨ m = 4 ∨ m = 5 ∨ m = 6 ∨ m = 7 ∨ m = 8 ∨ m = 9 ∨ m = 10 ∨ m = 11 ∨ m = 12
  ·
   rcases h with rfl | rfl | rfl | rfl | rfl | rfl | rfl | rfl | rfl | rfl | rfl
   all_goals
    go_enter Tryz.func108, Tryz.ntmps108
    go_wp2
    go_ret; exact ⟨rfl, rfl⟩
  ·
   have hl : Cal.len y m = 0 := by unfold Cal.len; rw [if_neg (by omega), if_neg (by omega), if_neg h2]
   rw [hl]; clear hl
   have b1 : ¬ m = 1 := by omega
   have b3 : ¬ m = 3 := by omega
   have b4 : ¬ m = 4 := by omega
   have b5 : ¬ m = 5 := by omega
   have b6 : ¬ m = 6 := by omega
   have b7 : ¬ m = 7 := by omega
   have b8 : ¬ m = 8 := by omega
   have b9 : ¬ m = 9 := by omega
   have b10 : ¬ m = 10 := by omega
   have b11 : ¬ m = 11 := by omega
   have b12 : ¬ m = 12 := by omega
   clear h
   go_enter Tryz.func108, Tryz.ntmps108
   go_wp2
   go_ret; exact ⟨rfl, rfl⟩
end Go.Proofs.YtpggfhmnhbnefaaGreatDoor
set_option linter.unusedVariables false
set_option linter.unusedSimpArgs false
namespace Go.Proofs.YtpggfhmnhbnefaaGreatDoor.Dr
open Go.Proofs.YtpggfhmnhbnefaaGreatDoor
def dayB (d : Int) : Bool := decide (1 ≤ d ∧ d ≤ 31)
def wkB (k : Int) : Bool := decide (0 ≤ k ∧ k ≤ 6)
def onR (k w d : Int) : Bool := decide ((k = 0 ∧ w = 0 ∧ 1 ≤ d ∧ d ≤ 31) ∨ (k = 1 ∧ 0 ≤ w ∧ w ≤ 6 ∧ d = 0) ∨ ((k = 2 ∨ k = 3) ∧ 0 ≤ w ∧ w ≤ 6 ∧ 1 ≤ d ∧ d ≤ 31))
theorem onR_true {k w d : Int} : onR k w d = true ↔ ((k = 0 ∧ w = 0 ∧ 1 ≤ d ∧ d ≤ 31) ∨ (k = 1 ∧ 0 ≤ w ∧ w ≤ 6 ∧ d = 0) ∨ ((k = 2 ∨ k = 3) ∧ 0 ≤ w ∧ w ≤ 6 ∧ 1 ≤ d ∧ d ≤ 31)) := by unfold onR; simp
def onF (k w d m : Int) : Bool := onR k w d && decide (1 ≤ m ∧ m ≤ 12 ∧ d ≤ Cal.len 2001 m)
theorem onF_true {k w d m : Int} : onF k w d m = true ↔ onR k w d = true ∧ 1 ≤ m ∧ m ≤ 12 ∧ d ≤ Cal.len 2001 m := by unfold onF; simp
theorem len_2001 (y m : Int) (h1 : 1 ≤ m) (h2 : m ≤ 12) : Cal.len 2001 m ≤ Cal.len y m ∧ Cal.len y m ≤ Cal.len 2000 m ∧ 28 ≤ Cal.len 2001 m ∧ Cal.len 2000 m ≤ 31 ∧ Cal.len 2000 m ≤ Cal.len 2001 m + 1 := by
 have := Cal.lp_01 y
 have a : Cal.lp 2001 = 0 := by decide
 have b : Cal.lp 2000 = 1 := by decide
 rcases Cal.twelve h1 h2 with rfl | rfl | rfl | rfl | rfl | rfl | rfl | rfl | rfl | rfl | rfl | rfl <;> simp [Cal.len, a, b] <;> omega
def base (k d y m : Int) : Int := if k = 1 then Cal.len y m else d
end Go.Proofs.YtpggfhmnhbnefaaGreatDoor.Dr
set_option linter.unusedVariables false
set_option linter.unusedSimpArgs false
namespace Go.Proofs.YtpggfhmnhbnefaaGreatDoor
open Go.RowKit
structure One (w W : World) (b : Nat) (v0 v1 v2 : Value) : Prop where
 bel : Below w.heap.size w W
 hb : b < W.heap.size
 k0 : W.cell? ⟨b, 0, none⟩ = some v0
 k1 : W.cell? ⟨b, 1, none⟩ = some v1
 k2 : W.cell? ⟨b, 2, none⟩ = some v2
theorem One.keep {w W W' : World} {b : Nat} {v0 v1 v2 : Value} (h : One w W b v0 v1 v2) (k : Below W.heap.size W W') : One w W' b v0 v1 v2 := by
 obtain ⟨hw, hb, h0, h1, h2⟩ := h
 have z := k.size
 refine ⟨below_step hw k, by omega, ?_, ?_, ?_⟩ <;> (rw [k.cell (p := ⟨b, _, none⟩) (by show b < _; omega)]; assumption)
theorem One.alloc {w W : World} {b : Nat} {v0 v1 v2 : Value} (h : One w W b v0 v1 v2) (o : Obj) : One w (W.alloc o) b v0 v1 v2 :=
 h.keep ((Below.refl _ _).alloc (Nat.le_refl _) _)
theorem One.draw {w W : World} {b : Nat} {v0 v1 v2 : Value} (h : One w W b v0 v1 v2) (n : Nat) : One w (W.drewN n) b v0 v1 v2 :=
 h.keep (below_draw _ _)
theorem One.new {w W : World} {v0 v1 v2 : Value} {t : TypeId} (h : Below w.heap.size w W) : One w (W.alloc (.cells #[v0, v1, v2] t)) W.heap.size v0 v1 v2 :=
 ⟨below_step h ((Below.refl _ _).alloc (Nat.le_refl _) _), by simp, by simp [go_sem], by simp [go_sem], by simp [go_sem]⟩
structure Two2 (w W : World) (b c : Nat) (v0 v1 v2 u0 u1 u2 : Value) : Prop where
 bel : Below w.heap.size w W
 hb : b < W.heap.size
 hc : c < W.heap.size
 k0 : W.cell? ⟨b, 0, none⟩ = some v0
 k1 : W.cell? ⟨b, 1, none⟩ = some v1
 k2 : W.cell? ⟨b, 2, none⟩ = some v2
 g0 : W.cell? ⟨c, 0, none⟩ = some u0
 g1 : W.cell? ⟨c, 1, none⟩ = some u1
 g2 : W.cell? ⟨c, 2, none⟩ = some u2
theorem Two2.keep {w W W' : World} {b c : Nat} {v0 v1 v2 u0 u1 u2 : Value} (h : Two2 w W b c v0 v1 v2 u0 u1 u2) (k : Below W.heap.size W W') : Two2 w W' b c v0 v1 v2 u0 u1 u2 := by
 obtain ⟨hw, hb, hc, h0, h1, h2, g0, g1, g2⟩ := h
 have z := k.size
 refine ⟨below_step hw k, by omega, by omega, ?_, ?_, ?_, ?_, ?_, ?_⟩ <;> (first | rw [k.cell (p := ⟨b, _, none⟩) (by show b < _; omega)]; assumption | rw [k.cell (p := ⟨c, _, none⟩) (by show c < _; omega)]; assumption)
theorem bool_br {p : Prop} [Decidable p] {b : Bool} (h : p ↔ b = true) : Ending.returned (.bool b) = .returned (.bool (decide p)) := by
 congr 2; rw [Bool.eq_iff_iff]; simp [h]
set_option maxHeartbeats 400000 in
theorem isDay_any (d : Int) (w : World) : Calls Tryz.prog 150 #[.int .i64 d] w fun e w' => e = .returned (.bool (Dr.dayB d)) ∧ w = w' := by
 unfold Dr.dayB
 by_cases h1 : 1 ≤ d
 ·
  go_enter Tryz.func150, Tryz.ntmps150
  go_wp2
  go_ret
  refine ⟨?_, rfl⟩; exact bool_br (by simp [h1])
 ·
  have hd : decide (1 ≤ d) = false := by simpa using h1
  go_enter Tryz.func150, Tryz.ntmps150
  go_wp2
  go_ret
  refine ⟨?_, rfl⟩
  rfl
set_option maxHeartbeats 400000 in
theorem isWeek_any (d : Int) (w : World) : Calls Tryz.prog 151 #[.int .i64 d] w fun e w' => e = .returned (.bool (Dr.wkB d)) ∧ w = w' := by
 unfold Dr.wkB
 by_cases h1 : 0 ≤ d
 ·
  go_enter Tryz.func151, Tryz.ntmps151
  go_wp2
  go_ret
  refine ⟨?_, rfl⟩; exact bool_br (by simp [h1]; omega)
 ·
  have hd : decide (0 ≤ d) = false := by simpa using h1
  go_enter Tryz.func151, Tryz.ntmps151
  go_wp2
  go_ret
  refine ⟨?_, rfl⟩
  rfl
theorem on_br {k w d : Int} {b : Bool} (h : (Dr.onR k w d = true) ↔ b = true) : Ending.returned (.bool b) = .returned (.bool (Dr.onR k w d)) := by
 congr 2; rw [Bool.eq_iff_iff, h]
set_option maxHeartbeats 1000000 in
theorem oright_any (k wk d : Int) (w : World) :
  Calls Tryz.prog 100 #[.agg #[.int .i64 k, .int .i64 wk, .int .i64 d]] w fun e w' => e = .returned (.bool (Dr.onR k wk d)) ∧ Below w.heap.size w w' := by
 by_cases h0 : k = 0
 ·
  subst h0
  by_cases hw : wk = 0
  ·
   subst hw
   go_enter Tryz.func100, Tryz.ntmps100
   go_wp2_with (first
    | (go_at_call 150; refine (isDay_any _ _).mono ?_; rintro e w1 ⟨rfl, rfl⟩)
    | (go_at_call 151; refine (isWeek_any _ _).mono ?_; rintro e w1 ⟨rfl, rfl⟩))
   go_ret
   refine ⟨?_, by go_grown⟩; exact on_br (by rw [Dr.onR_true]; simp [Dr.dayB])
  ·
   have hw' : (wk == 0) = false := by simpa using hw
   go_enter Tryz.func100, Tryz.ntmps100
   go_wp2_with (first
    | (go_at_call 150; refine (isDay_any _ _).mono ?_; rintro e w1 ⟨rfl, rfl⟩)
    | (go_at_call 151; refine (isWeek_any _ _).mono ?_; rintro e w1 ⟨rfl, rfl⟩))
   go_ret
   refine ⟨?_, by go_grown⟩; exact on_br (by rw [Dr.onR_true]; simp [hw])
 ·
  by_cases h1 : k = 1
  ·
   subst h1
   clear h0
   cases hw : Dr.wkB wk
   ·
    go_enter Tryz.func100, Tryz.ntmps100
    go_wp2_with (first
     | (go_at_call 150; refine (isDay_any _ _).mono ?_; rintro e w1 ⟨rfl, rfl⟩)
     | (go_at_call 151; refine (isWeek_any _ _).mono ?_; rintro e w1 ⟨rfl, rfl⟩))
    go_ret
    refine ⟨?_, by go_grown⟩; exact on_br (by rw [Dr.onR_true]; simp [Dr.wkB] at hw; simp; omega)
   ·
    go_enter Tryz.func100, Tryz.ntmps100
    go_wp2_with (first
     | (go_at_call 150; refine (isDay_any _ _).mono ?_; rintro e w1 ⟨rfl, rfl⟩)
     | (go_at_call 151; refine (isWeek_any _ _).mono ?_; rintro e w1 ⟨rfl, rfl⟩))
    go_ret
    refine ⟨?_, by go_grown⟩; exact on_br (by rw [Dr.onR_true]; simp [Dr.wkB] at hw; simp; omega)
  ·
   by_cases h2 : k = 2 ∨ k = 3
   ·
    rcases h2 with rfl | rfl
    all_goals
     clear h0 h1
     cases hw : Dr.wkB wk
     ·
      go_enter Tryz.func100, Tryz.ntmps100
      go_wp2_with (first
       | (go_at_call 150; refine (isDay_any _ _).mono ?_; rintro e w1 ⟨rfl, rfl⟩)
       | (go_at_call 151; refine (isWeek_any _ _).mono ?_; rintro e w1 ⟨rfl, rfl⟩))
      go_ret
      refine ⟨?_, by go_grown⟩; exact on_br (by rw [Dr.onR_true]; simp [Dr.wkB] at hw; simp; omega)
     ·
      go_enter Tryz.func100, Tryz.ntmps100
      go_wp2_with (first
       | (go_at_call 150; refine (isDay_any _ _).mono ?_; rintro e w1 ⟨rfl, rfl⟩)
       | (go_at_call 151; refine (isWeek_any _ _).mono ?_; rintro e w1 ⟨rfl, rfl⟩))
      go_ret
      refine ⟨?_, by go_grown⟩; exact on_br (by rw [Dr.onR_true]; simp [Dr.wkB] at hw; simp [Dr.dayB]; omega)
   ·
    have b0 : (k == 0) = false := by simpa using h0
    have b1 : (k == 1) = false := by simpa using h1
    have b2 : (k == 2) = false := by simp; omega
    have b3 : (k == 3) = false := by simp; omega
    go_enter Tryz.func100, Tryz.ntmps100
    go_wp2
    go_ret
    refine ⟨?_, by go_grown⟩; exact on_br (by rw [Dr.onR_true]; simp; omega)
theorem fits_br {k wk d m : Int} {b : Bool} (h : (Dr.onF k wk d m = true) ↔ b = true) : Ending.returned (.bool b) = .returned (.bool (Dr.onF k wk d m)) := by
 congr 2; rw [Bool.eq_iff_iff, h]
set_option maxHeartbeats 1000000 in
theorem ofits_any (k wk d m : Int) (w : World) :
  Calls Tryz.prog 53 #[.agg #[.int .i64 k, .int .i64 wk, .int .i64 d], .int .i64 m] w fun e w' => e = .returned (.bool (Dr.onF k wk d m)) ∧ Below w.heap.size w w' := by
 have O0 := One.new (t := 24) (v0 := .int .i64 k) (v1 := .int .i64 wk) (v2 := .int .i64 d) (Below.refl w.heap.size w)
 have hlen : 0 < Cal.len 2001 m ↔ 1 ≤ m ∧ m ≤ 12 := by
  constructor
  ·
   intro h
   unfold Cal.len at h; omega
  ·
   intro h; have := (Dr.len_2001 2001 m h.1 h.2).2.2.1; omega
 have HL := Lib.hid hlen; clear hlen
 cases hr : Dr.onR k wk d
 ·
  go_enter Tryz.func53, Tryz.ntmps53
  go_wp2_with fail
  refine (len_any _ _ _).mono ?_; rintro e w1 ⟨rfl, rfl⟩
  go_wp2_with fail
  refine (oright_any _ _ _ _).mono ?_; rintro e w1 ⟨rfl, b1⟩
  rw [hr]
  go_wp2_with fail
  go_ret
  refine ⟨?_, below_step O0.bel b1⟩
  exact fits_br (by rw [Dr.onF_true]; simp [hr])
 ·
  go_enter Tryz.func53, Tryz.ntmps53
  go_wp2_with fail
  refine (len_any _ _ _).mono ?_; rintro e w1 ⟨rfl, rfl⟩
  go_wp2_with fail
  refine (oright_any _ _ _ _).mono ?_; rintro e w1 ⟨rfl, b1⟩
  rw [hr]
  have O1 := O0.keep b1
  have k2 := O1.k2
  by_cases hp : 0 < Cal.len 2001 m
  ·
   go_wp2_with fail
   go_ret
   refine ⟨?_, O1.bel⟩
   exact fits_br (by rw [Dr.onF_true]; have := HL.out.1 hp; simp [hr]; omega)
  ·
   have hp' : decide (0 < Cal.len 2001 m) = false := by simpa using hp
   go_wp2_with fail
   go_ret
   refine ⟨?_, O1.bel⟩
   exact fits_br (by rw [Dr.onF_true]; have := mt HL.out.2 (by omega); simp [hr]; omega)
namespace Cl
def rB (n b : Int) : Bool := decide (0 ≤ n) && (decide (n ≤ 172800) && (decide (0 ≤ b) && decide (b < 3)))
end Cl
set_option maxHeartbeats 4000000 in
set_option maxRecDepth 100000 in
theorem clright_0 (n b : Int) (w : World) (c1 : ¬ 0 ≤ n) : Calls Tryz.prog 54 #[.agg #[.int .i64 n, .int .i64 b]] w fun e w' => e = .returned (.bool false) ∧ Below w.heap.size w w' := by
 go_enter Tryz.func54, Tryz.ntmps54
 go_wp2_with fail
 go_ret
 exact ⟨rfl, gr0⟩
set_option maxHeartbeats 4000000 in
set_option maxRecDepth 100000 in
theorem clright_1 (n b : Int) (w : World) (c1 : 0 ≤ n) (c2 : ¬ n ≤ 172800) : Calls Tryz.prog 54 #[.agg #[.int .i64 n, .int .i64 b]] w fun e w' => e = .returned (.bool false) ∧ Below w.heap.size w w' := by
 go_enter Tryz.func54, Tryz.ntmps54
 go_wp2_with fail
 go_ret
 exact ⟨rfl, gr0⟩
set_option maxHeartbeats 4000000 in
set_option maxRecDepth 100000 in
theorem clright_2 (n b : Int) (w : World) (c1 : 0 ≤ n) (c2 : n ≤ 172800) (c3 : ¬ 0 ≤ b) : Calls Tryz.prog 54 #[.agg #[.int .i64 n, .int .i64 b]] w fun e w' => e = .returned (.bool false) ∧ Below w.heap.size w w' := by
 go_enter Tryz.func54, Tryz.ntmps54
 go_wp2_with fail
 go_ret
 exact ⟨rfl, gr0⟩
set_option maxHeartbeats 4000000 in
set_option maxRecDepth 100000 in
theorem clright_3 (n b : Int) (w : World) (c1 : 0 ≤ n) (c2 : n ≤ 172800) (c3 : 0 ≤ b) (c4 : ¬ b < 3) : Calls Tryz.prog 54 #[.agg #[.int .i64 n, .int .i64 b]] w fun e w' => e = .returned (.bool false) ∧ Below w.heap.size w w' := by
 go_enter Tryz.func54, Tryz.ntmps54
 go_wp2_with fail
 go_ret
 exact ⟨rfl, gr0⟩
set_option maxHeartbeats 4000000 in
set_option maxRecDepth 100000 in
theorem clright_4 (n b : Int) (w : World) (c1 : 0 ≤ n) (c2 : n ≤ 172800) (c3 : 0 ≤ b) (c4 : b < 3) : Calls Tryz.prog 54 #[.agg #[.int .i64 n, .int .i64 b]] w fun e w' => e = .returned (.bool true) ∧ Below w.heap.size w w' := by
 go_enter Tryz.func54, Tryz.ntmps54
 go_wp2_with fail
 go_ret
 exact ⟨rfl, gr0⟩
theorem clright_any (n b : Int) (w : World) : Calls Tryz.prog 54 #[.agg #[.int .i64 n, .int .i64 b]] w fun e w' => e = .returned (.bool (Cl.rB n b)) ∧ Below w.heap.size w w' := by
 by_cases c1 : 0 ≤ n
 ·
  by_cases c2 : n ≤ 172800
  ·
   by_cases c3 : 0 ≤ b
   ·
    by_cases c4 : b < 3
    ·
     rw [show Cl.rB n b = true by unfold Cl.rB; simp [c1, c2, c3, c4]]; exact clright_4 n b w c1 c2 c3 c4
    ·
     rw [show Cl.rB n b = false by unfold Cl.rB; simp [c1, c2, c3, c4]]; exact clright_3 n b w c1 c2 c3 c4
   ·
    rw [show Cl.rB n b = false by unfold Cl.rB; simp [c1, c2, c3]]; exact clright_2 n b w c1 c2 c3
  ·
   rw [show Cl.rB n b = false by unfold Cl.rB; simp [c1, c2]]; exact clright_1 n b w c1 c2
 ·
  rw [show Cl.rB n b = false by unfold Cl.rB; simp [c1]]; exact clright_0 n b w c1
end Go.Proofs.YtpggfhmnhbnefaaGreatDoor
