/- Joined: Sl, StL, FdS, FdE0, WdM, WdA. -/
import Derived.Test.YtbcbggdbojonmaaGreatDoorBq03
import Derived.OwnWalk
import Derived.Laws.OwnMore
import Derived.Deep.AppendLies
import Derived.Deep.Draws
import Derived.Test.YtbcbggdbojonmaaGreatDoorBq01
import Derived.Test.YtbcbggdbojonmaaGreatDoorProg
import Derived.Deep.QuietTactic
set_option linter.unusedVariables false
set_option linter.unusedSimpArgs false
namespace Go.Proofs.YtbcbggdbojonmaaGreatDoor
open Go.RowKit Go.Sort
theorem blk_add (a : Addr) (j : Nat) : (a.add j).block = a.block := by unfold Addr.add; split <;> rfl
theorem add_two (a : Addr) (i j : Nat) : (a.add i).add j = a.add (i + j) := by
 unfold Addr.add
 by_cases hi : i = 0 <;> by_cases hj : j = 0 <;> simp [hi, hj, Nat.add_assoc]
def Lst (w : World) (B : Nat) (v : Value) (n : Nat) (xs : List Value) : Prop :=
 ∃ A c, v = .slice A n c ∧ (0 < n → ∃ a, A = some a ∧ a.block < B ∧ ∀ (j : Nat) (u : Value), xs[j]? = some u → w.cell? (a.add j) = some u)
theorem Lst.nil (w : World) (B : Nat) : Lst w B (.slice none 0 0) 0 [] := ⟨none, 0, rfl, fun h => absurd h (by omega)⟩
theorem Lst.keep {w w' : World} {B : Nat} {v : Value} {n : Nat} {xs : List Value} (h : Lst w B v n xs) (k : ∀ p : Addr, p.block < B → w'.cell? p = w.cell? p) : Lst w' B v n xs := by
 obtain ⟨A, c, hv, ha⟩ := h
 refine ⟨A, c, hv, fun hn => ?_⟩
 obtain ⟨a, e, hb, hc⟩ := ha hn
 exact ⟨a, e, hb, fun j u hu => (k _ (by rw [blk_add]; exact hb)).trans (hc j u hu)⟩
theorem Lst.more {w : World} {B B' : Nat} {v : Value} {n : Nat} {xs : List Value} (h : Lst w B v n xs) (k : B ≤ B') : Lst w B' v n xs := by
 obtain ⟨A, c, hv, ha⟩ := h
 refine ⟨A, c, hv, fun hn => ?_⟩
 obtain ⟨a, e, hb, hc⟩ := ha hn
 exact ⟨a, e, Nat.lt_of_lt_of_le hb k, hc⟩
theorem Lst.below {w w' : World} {B : Nat} {v : Value} {n : Nat} {xs : List Value} (h : Lst w B v n xs) (k : Below B w w') : Lst w' B v n xs := h.keep fun _ hp => k.cell hp
theorem Lst.on {w w' : World} {v : Value} {n : Nat} {xs : List Value} (h : Lst w w.heap.size v n xs) (k : Below w.heap.size w w') : Lst w' w'.heap.size v n xs := (h.below k).more k.size
theorem Lst.drewN {w : World} {B : Nat} {v : Value} {n : Nat} {xs : List Value} (h : Lst w B v n xs) (k : Nat) : Lst (w.drewN k) B v n xs := h
theorem Lst.own {w : World} {base : Nat} {e : TypeId} {size : Nat} {v : Value} {n : Nat} {xs : List Value} (h : w.ownsRow base e size v n xs) : Lst w w.heap.size v n xs := by
 rcases Nat.eq_zero_or_pos n with h0 | h0
 ·
  have hx : xs = [] := by
   have := h.1
   rw [h0, Nat.zero_mul] at this
   exact List.eq_nil_of_length_eq_zero this
  rcases h.2 with ⟨hv, _⟩ | ⟨g, cap, cur, hv, _⟩
  ·
   exact ⟨none, 0, by rw [h0]; exact hv, fun hh => absurd hh (by omega)⟩
  ·
   exact ⟨_, _, hv, fun hh => absurd hh (by omega)⟩
 ·
  obtain ⟨g, cap, hv, _, hlt⟩ := h.form h0
  exact ⟨_, _, hv, fun _ => ⟨_, rfl, hlt, h.cells (g := g) (by rw [hv]; rfl)⟩⟩
theorem below_grown {w w' : World} {row : Option Nat} {B : Nat} (h : w.grownBy w' row) (hB : B ≤ w.heap.size) (hr : ∀ g, row = some g → B ≤ g) : Below B w w' :=
 ⟨h.os, h.tape, h.output, h.size, fun i hi => h.block i (by omega) (fun e => by have := hr _ e.symm; omega)⟩
theorem grown_below {w w' : World} (h : Below w.heap.size w w') (row : Option Nat) : w.grownBy w' row := ⟨h.os, h.tape, h.output, h.size, fun i hi _ => h.block i hi⟩
theorem own_on {w w' : World} {base : Nat} {e : TypeId} {size : Nat} {v : Value} {n : Nat} {xs : List Value} (h : w.ownsRow base e size v n xs) (k : Below w.heap.size w w') : w'.ownsRow base e size v n xs :=
 h.kept (grown_below k none) (by
  cases hv : v.ownBlock
  ·
   exact .inl rfl
  ·
   exact .inr (by simp))
theorem own_row {w : World} {base : Nat} {e : TypeId} {size : Nat} {v : Value} {n : Nat} {xs : List Value} (h : w.ownsRow base e size v n xs) : ∀ g, v.ownBlock = some g → base ≤ g := fun g hg => (h.lt g hg).1
def spc (l : List (Int × Int)) : List Value := l.flatMap fun p => [.int .i64 p.1, .int .i64 p.2]
theorem spc_at (l : List (Int × Int)) (k : Nat) (h : k < l.length) : (spc l)[k * 2]? = some (.int .i64 l[k].1) ∧ (spc l)[k * 2 + 1]? = some (.int .i64 l[k].2) := by
 induction l generalizing k with
 | nil => exact absurd h (by simp)
 | cons p l ih =>
  cases k with
  | zero => exact ⟨rfl, rfl⟩
  | succ k =>
   have := ih k (by simpa using h)
   have e : spc (p :: l) = .int .i64 p.1 :: .int .i64 p.2 :: spc l := rfl
   rw [e]
   rw [show (k + 1) * 2 = k * 2 + 1 + 1 by omega]
   simpa using this
def SpV (w : World) (v : Value) (l : List (Int × Int)) : Prop := Lst w w.heap.size v l.length (spc l)
theorem SpV.on {w w' : World} {v : Value} {l : List (Int × Int)} (h : SpV w v l) (k : Below w.heap.size w w') : SpV w' v l := Lst.on h k
theorem SpV.own {w : World} {base : Nat} {e : TypeId} {v : Value} {l : List (Int × Int)} (h : w.ownsRow base e 2 v l.length (spc l)) : SpV w v l := Lst.own h
theorem SpV.at_ {w : World} {v : Value} {l : List (Int × Int)} (h : SpV w v l) (k : Nat) (hk : k < l.length) : ∃ a c, v = .slice (some a) l.length c ∧ a.block < w.heap.size ∧ w.cell? (a.add (k * 2)) = some (.int .i64 l[k].1) ∧ w.cell? (a.add (k * 2 + 1)) = some (.int .i64 l[k].2) := by
 obtain ⟨A, c, hv, ha⟩ := h
 obtain ⟨a, e, hb, hc⟩ := ha (by omega)
 obtain ⟨h1, h2⟩ := spc_at l k hk
 exact ⟨a, c, by rw [hv, e], hb, hc _ _ h1, hc _ _ h2⟩
theorem SpV.get {w : World} {A : Option Addr} {n c : Nat} {l : List (Int × Int)} (h : SpV w (.slice A n c) l) (k : Nat) (hk : k < l.length) : ∃ a, A = some a ∧ a.block < w.heap.size ∧ w.cell? (a.add (k * 2)) = some (.int .i64 l[k].1) ∧ w.cell? ⟨(a.add (k * 2)).block, (a.add (k * 2)).off + 1, none⟩ = some (.int .i64 l[k].2) := by
 obtain ⟨a, c', hv, r⟩ := h.at_ k hk
 cases hv
 refine ⟨a, rfl, r.1, r.2.1, ?_⟩
 have e : (⟨(a.add (k * 2)).block, (a.add (k * 2)).off + 1, none⟩ : Addr) = a.add (k * 2 + 1) := by rw [← add_two]; rfl
 rw [e]
 exact r.2.2
theorem SpV.len {w : World} {A : Option Addr} {n c : Nat} {l : List (Int × Int)} (h : SpV w (.slice A n c) l) : n = l.length := by
 obtain ⟨A', c', hv, _⟩ := h
 cases hv
 rfl
def StS (w : World) (v : Value) (l : List ByteArray) : Prop := Lst w w.heap.size v l.length (l.map Value.string)
theorem StS.on {w w' : World} {v : Value} {l : List ByteArray} (h : StS w v l) (k : Below w.heap.size w w') : StS w' v l := Lst.on h k
theorem StS.get {w : World} {A : Option Addr} {n c : Nat} {l : List ByteArray} (h : StS w (.slice A n c) l) (k : Nat) (hk : k < l.length) : ∃ a, A = some a ∧ w.cell? (a.add k) = some (.string l[k]) := by
 obtain ⟨A', c', hv, ha⟩ := h
 cases hv
 obtain ⟨a, e, hb, hc⟩ := ha (by omega)
 refine ⟨a, e, hc k _ ?_⟩
 rw [List.getElem?_map, List.getElem?_eq_getElem hk]; rfl
theorem StS.len {w : World} {A : Option Addr} {n c : Nat} {l : List ByteArray} (h : StS w (.slice A n c) l) : n = l.length := by
 obtain ⟨A', c', hv, _⟩ := h
 cases hv; rfl
def AnsF (P : List (List UInt8) × Int) (w : World) (e : Ending) (w' : World) : Prop := ∃ (v : Value) (l : List ByteArray), StS w' v l ∧ l.map (·.data.toList) = P.1 ∧ e = .returned (.tuple #[v, .int .i64 P.2]) ∧ Below w.heap.size w w'
theorem fd_ext (s : ByteArray) (a b : Nat) : (s.extract a b).data.toList = (s.data.toList.take b).drop a := by
 rw [ByteArray.data_extract, Array.toList_extract, List.drop_take]
theorem fd_parts {i0 : Option TypeInfo} {z : Value} {n b : Nat} (h : i0.map (fun i => (i.zero, i.size, i.bytes)) = some (some z, n, b)) : ∃ i, i0 = some i ∧ i.zero = some z ∧ i.size = n ∧ i.bytes = b := by
 cases i0 with
 | none => cases h
 | some i => simp at h; exact ⟨i, rfl, h.1, h.2.1, h.2.2⟩
theorem fd_info : (Tryz.prog.info? 9).map (fun i => (i.zero, i.size, i.bytes)) = some (some (.string ⟨#[]⟩), 1, 16) := by kernel_rfl
theorem StS.nil (w : World) : StS w (.slice none 0 0) [] := Lst.nil w _
theorem fd_keep {P : Addr} {v : Value} {w W : World} (hm : w.cell? P = some v) (k : Below w.heap.size w W) : W.cell? P = some v :=
 (k.cell (World.block_lt_of_cell? _ _ hm)).trans hm
namespace Fd
def bl (l : List ByteArray) : List (List UInt8) := l.map (·.data.toList)
def tot (l : List ByteArray) : Nat := (l.map (·.size)).foldr (· + ·) 0
theorem jr_next (acc : List UInt8) (k : Nat) (x : List UInt8) (r : List (List UInt8)) (h : (tx x).2 = 0) : jr acc k (x :: r) = jr (acc ++ ((if k = 0 then [] else [32]) ++ (tx x).1)) (k + 1) r := by
 conv => lhs; unfold jr
 rw [if_pos h]
theorem bl_drop (l : List ByteArray) (k : Nat) (h : k < l.length) : (bl l).drop k = l[k].data.toList :: (bl l).drop (k + 1) := by
 unfold bl
 rw [List.drop_eq_getElem_cons (by simpa using h), List.getElem_map]
theorem arr_len (l : List UInt8) : (⟨l.toArray⟩ : ByteArray).size = l.length := List.size_toArray
end Fd
end Go.Proofs.YtbcbggdbojonmaaGreatDoor
set_option linter.unusedVariables false
set_option linter.unusedSimpArgs false
namespace Go.Proofs.YtbcbggdbojonmaaGreatDoor.Wd
open Go
def sm (b : UInt8) : Int := if 65 ≤ (b.toNat : Int) ∧ (b.toNat : Int) ≤ 90 then (b.toNat : Int) + 32 else b.toNat
def beg : List UInt8 → List UInt8 → Bool
 | _, [] => true
 | [], _ :: _ => false
 | w :: ws, s :: ss => decide (sm w = sm s) && beg ws ss
def same (a b : List UInt8) : Bool := decide (a.length = b.length) && beg a b
theorem beg_short : ∀ {a b : List UInt8}, a.length < b.length → beg a b = false := by
 intro a
 induction a with
 | nil => intro b h; cases b with
  | nil => simp at h
  | cons x b => rfl
 | cons w a ih => intro b h; cases b with
  | nil => simp at h
  | cons x b => simp only [beg, ih (by simpa using h), Bool.and_false]
theorem beg_iff : ∀ {a b : List UInt8}, beg a b = true ↔ b.length ≤ a.length ∧ ∀ i (h1 : i < a.length) (h2 : i < b.length), sm a[i] = sm b[i] := by
 intro a
 induction a with
 | nil => intro b; cases b with
  | nil => simp [beg]
  | cons x b => simp [beg]
 | cons w a ih => intro b; cases b with
  | nil => simp [beg]
  | cons x b =>
   simp only [beg, Bool.and_eq_true, decide_eq_true_eq, ih, List.length_cons]
   constructor
   ·
    rintro ⟨h, hl, hi⟩
    refine ⟨by omega, ?_⟩
    intro i h1 h2
    cases i with
    | zero => exact h
    | succ i => exact hi i (by omega) (by omega)
   ·
    rintro ⟨hl, hi⟩
    exact ⟨hi 0 (by omega) (by omega), by omega, fun i h1 h2 => hi (i + 1) (by omega) (by omega)⟩
theorem beg_no {a b : List UInt8} {i : Nat} (h1 : i < a.length) (h2 : i < b.length) (h : sm a[i] ≠ sm b[i]) : beg a b = false := by
 cases hb : beg a b
 ·
  rfl
 ·
  exact absurd ((beg_iff.1 hb).2 i h1 h2) h
theorem beg_yes {a b : List UInt8} (hl : b.length ≤ a.length) (h : ∀ i (h1 : i < a.length) (h2 : i < b.length), sm a[i] = sm b[i]) : beg a b = true := beg_iff.2 ⟨hl, h⟩
def exact : List (List UInt8) → Nat → List UInt8 → Option Nat
 | [], _, _ => none
 | w :: ws, i, s => if same w s then some i else exact ws (i + 1) s
def first : List (List UInt8) → Nat → List UInt8 → Option Nat
 | [], _, _ => none
 | w :: ws, i, s => if beg w s then some i else first ws (i + 1) s
end Go.Proofs.YtbcbggdbojonmaaGreatDoor.Wd
set_option linter.unusedVariables false
set_option linter.unusedSimpArgs false
namespace Go.Proofs.YtbcbggdbojonmaaGreatDoor
open Go.RowKit
theorem blen (a : ByteArray) : a.data.toList.length = a.size := Array.length_toList
theorem bget {a : ByteArray} {k : Nat} (h : k < a.size) : a.data.toList[k]'(by rw [blen]; exact h) = a[k] := rfl
set_option maxHeartbeats 1000000 in
theorem small_any (b : UInt8) (w : World) : Calls Tryz.prog 114 #[.int .u8 b.toNat] w fun e w' => e = .returned (.int .u8 (Wd.sm b)) ∧ w = w' := by
 have hb := b.toNat_lt
 obtain ⟨n, hn⟩ : ∃ n : Int, n = b.toNat := ⟨_, rfl⟩
 have E : Wd.sm b = if 65 ≤ n ∧ n ≤ 90 then n + 32 else n := by unfold Wd.sm; rw [hn]
 rw [E, ← hn]
 have n0 : 0 ≤ n := by omega
 have n1 : n < 256 := by omega
 clear E hn hb
 by_cases c1 : 65 ≤ n
 ·
  by_cases c2 : n ≤ 90
  ·
   rw [if_pos ⟨c1, c2⟩]
   go_enter Tryz.func114, Tryz.ntmps114
   go_wp2
   go_ret
   exact ⟨by first | rfl | (show Ending.returned (.int .u8 (n - 65 + 97)) = _; rw [show n - 65 + 97 = n + 32 by omega]), rfl⟩
  ·
   rw [if_neg (fun h => c2 h.2)]
   have g : decide (n ≤ 90) = false := decide_eq_false c2
   go_enter Tryz.func114, Tryz.ntmps114
   go_wp2
   go_ret
   exact ⟨rfl, rfl⟩
 ·
  rw [if_neg (fun h => c1 h.1)]
  have g : decide (65 ≤ n) = false := decide_eq_false c1
  go_enter Tryz.func114, Tryz.ntmps114
  go_wp2
  go_ret
  exact ⟨rfl, rfl⟩
set_option maxHeartbeats 2000000 in
set_option maxRecDepth 100000 in
theorem begins_any (a b : ByteArray) (w : World) (ha : a.size ≤ maxLen) (hb : b.size ≤ maxLen) :
  Calls Tryz.prog 96 #[.string a, .string b] w fun e w' => e = .returned (.bool (Wd.beg a.data.toList b.data.toList)) ∧ ∃ k, w' = w.drewN k := by
 unfold maxLen at ha hb
 by_cases hs : (a.size : Int) < (b.size : Int)
 ·
  rw [Wd.beg_short (by rw [blen, blen]; omega)]
  go_enter Tryz.func96, Tryz.ntmps96
  go_wp2
  go_ret
  exact ⟨rfl, 0, rfl⟩
 ·
  obtain ⟨ans, hans⟩ : ∃ ans, ans = Wd.beg a.data.toList b.data.toList := ⟨_, rfl⟩
  rw [← hans]
  have HA := Lib.hid hans; clear hans
  go_enter Tryz.func96, Tryz.ntmps96
  go_wp2_with fail
  go_loopw [13] (fun i wr => ∃ k j : Nat, k ≤ b.size ∧ i = .int .i64 k ∧ (∀ i (h1 : i < a.data.toList.length) (h2 : i < b.data.toList.length), i < k → Wd.sm a.data.toList[i] = Wd.sm b.data.toList[i]) ∧ wr = w.drewN j) (fun i _ => b.size - (intOf i).toNat)
  case atStart => exact ⟨0, 0, Nat.zero_le _, rfl, fun i _ _ h => absurd h (Nat.not_lt_zero _), rfl⟩
  case round =>
   obtain ⟨k, j, hk, rfl, hall, hw⟩ := hrel
   have HL := Lib.hid hall; have HW := Lib.hid hw; clear hall hw
   by_cases hlt : k < b.size
   ·
    have hlta : k < a.size := by omega
    by_cases he : Wd.sm a[k] = Wd.sm b[k]
    ·
     have HE := Lib.hid he
     have g : (Wd.sm a[k] == Wd.sm b[k]) = true := by rw [beq_iff_eq]; exact he
     clear he
     go_wp2_with fail
     go_quiet ((go_at_call 114; exact Calls.quiet_of_same ((small_any _ _).mono fun _ _ ⟨h1, h2⟩ => ⟨h1, h2.symm⟩)))
     go_wp2_with fail
     go_roundw
     case rel =>
      refine ⟨k + 1, _, by omega, by go_num, ?_, by rw [HW.out, World.drewN_drewN]⟩
      intro i h1 h2 h3
      by_cases hik : i = k
      ·
       subst hik; exact HE.out
      ·
       exact HL.out i h1 h2 (by omega)
     case measure => simp [intOf]; omega
    ·
     have g : (Wd.sm a[k] == Wd.sm b[k]) = false := by rw [beq_eq_false_iff_ne]; exact he
     have hno : ans = false := by
      rw [HA.out]
      exact Wd.beg_no (i := k) (by rw [blen]; exact hlta) (by rw [blen]; exact hlt) (by rw [bget hlta, bget hlt]; exact he)
     have HN := Lib.hid hno
     clear hno he
     go_wp2_with fail
     go_quiet ((go_at_call 114; exact Calls.quiet_of_same ((small_any _ _).mono fun _ _ ⟨h1, h2⟩ => ⟨h1, h2.symm⟩)))
     go_wp2_with fail
     go_ret
     exact ⟨by rw [HN.out]; rfl, _, by rw [HW.out, World.drewN_drewN]⟩
   ·
    have hyes : ans = true := by
     rw [HA.out]
     exact Wd.beg_yes (by rw [blen, blen]; omega) (fun i h1 h2 => HL.out i h1 h2 (by rw [blen] at h2; omega))
    have HY := Lib.hid hyes; clear hyes
    go_wp2_with fail
    go_ret
    exact ⟨by rw [HY.out]; rfl, _, HW.out⟩
set_option maxHeartbeats 1000000 in
theorem wsame_any (a b : ByteArray) (w : World) (ha : a.size ≤ maxLen) (hb : b.size ≤ maxLen) :
  Calls Tryz.prog 95 #[.string a, .string b] w fun e w' => e = .returned (.bool (Wd.same a.data.toList b.data.toList)) ∧ ∃ k, w' = w.drewN k := by
 have C := Lib.hid (fun w => begins_any a b w ha hb)
 have E := Lib.hid (show Wd.same a.data.toList b.data.toList = (decide (a.size = b.size) && Wd.beg a.data.toList b.data.toList) by unfold Wd.same; rw [blen, blen])
 generalize Wd.same a.data.toList b.data.toList = ans at E
 generalize Wd.beg a.data.toList b.data.toList = bg at C E
 by_cases hs : a.size = b.size
 ·
  have g : ((a.size : Int) == (b.size : Int)) = true := by rw [beq_iff_eq]; omega
  have E2 := Lib.hid (show ans = bg by rw [E.out, hs]; simp)
  clear E hs
  go_enter Tryz.func95, Tryz.ntmps95
  go_wp2_with fail
  refine (C.out _).mono ?_; rintro e w1 ⟨rfl, k, rfl⟩
  go_wp2_with fail
  go_ret
  exact ⟨by rw [E2.out]; rfl, k, rfl⟩
 ·
  have g : ((a.size : Int) == (b.size : Int)) = false := by rw [beq_eq_false_iff_ne]; omega
  have E2 := Lib.hid (show ans = false by rw [E.out, decide_eq_false hs]; rfl)
  clear E hs
  go_enter Tryz.func95, Tryz.ntmps95
  go_wp2_with fail
  go_ret
  exact ⟨by rw [E2.out]; rfl, 0, rfl⟩
end Go.Proofs.YtbcbggdbojonmaaGreatDoor
