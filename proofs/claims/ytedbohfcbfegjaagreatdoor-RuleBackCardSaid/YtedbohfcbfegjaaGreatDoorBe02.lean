/- Joined: StL, FdS, LkA, By0, FoA. -/
import Derived.Test.YtedbohfcbfegjaaGreatDoorBe01
import Derived.Test.YtedbohfcbfegjaaGreatDoorLaidK
import Derived.Lib.IndexAny
import Derived.Shelf.Small.Strs
import Derived.Laws.RangeAny
/- Lists of strings in memory. -/
set_option linter.unusedVariables false
set_option linter.unusedSimpArgs false
namespace Go.Proofs.YtedbohfcbfegjaaGreatDoor
open Go.RowKit Go.Sort

/-- A slice value that reads as strings. -/
def StS (w : World) (v : Value) (l : List ByteArray) : Prop := Lst w w.heap.size v l.length (l.map Value.string)
theorem StS.on {w w' : World} {v : Value} {l : List ByteArray} (h : StS w v l) (k : Below w.heap.size w w') : StS w' v l := Lst.on h k
theorem StS.get {w : World} {A : Option Addr} {n c : Nat} {l : List ByteArray} (h : StS w (.slice A n c) l) (k : Nat) (hk : k < l.length) : ∃ a, A = some a ∧ w.cell? (a.add k) = some (.string l[k]) := by
  obtain ⟨A', c', hv, ha⟩ := h
  cases hv
  obtain ⟨a, e, hb, hc⟩ := ha (by omega)
  refine ⟨a, e, hc k _ ?_⟩
  rw [List.getElem?_map, List.getElem?_eq_getElem hk]; rfl
theorem StS.len {w : World} {A : Option Addr} {n c : Nat} {l : List ByteArray} (h : StS w (.slice A n c) l) : n = l.length := by
  obtain ⟨A', c', hv, _⟩ := h
  cases hv; rfl

end Go.Proofs.YtedbohfcbfegjaaGreatDoor

/- Calls that answer lists of strings and why; cuts of strings; the reference's Same. -/
set_option linter.unusedVariables false
set_option linter.unusedSimpArgs false
namespace Go.Proofs.YtedbohfcbfegjaaGreatDoor
open Go.RowKit Go.Sort

/-- A call that answers strings, and why. -/
def AnsF (P : List (List UInt8) × Int) (w : World) (e : Ending) (w' : World) : Prop := ∃ (v : Value) (l : List ByteArray), StS w' v l ∧ l.map (·.data.toList) = P.1 ∧ e = .returned (.tuple #[v, .int .i64 P.2]) ∧ Below w.heap.size w w'
theorem fd_bytes {l l' : List ByteArray} (h : l.map (·.data.toList) = l'.map (·.data.toList)) : l = l' := by
  induction l generalizing l' with
  | nil => cases l' with
    | nil => rfl
    | cons _ _ => cases h
  | cons x r ih =>
    cases l' with
    | nil => cases h
    | cons y r' =>
      simp only [List.map_cons, List.cons.injEq] at h
      rw [ih h.2, show x = y from ByteArray.ext (Array.toList_inj.1 h.1)]
theorem fd_cut (s : ByteArray) (a b : Nat) (h1 : a ≤ b) (h2 : b ≤ s.size) (W : World) : Sem.run Tryz.prog (Instr.slice 9 (.string s) (some (.int .i64 (a : Int))) (some (.int .i64 (b : Int))) none) W = .ok (.string (s.extract a b)) W := by
  rw [run_slice_string W 9 s .i64 .i64 (a : Int) (b : Int) Tryz.underlying9 (by omega) (by omega) (by omega)]
  simp
theorem fd_ext (s : ByteArray) (a b : Nat) : (s.extract a b).data.toList = (s.data.toList.take b).drop a := by
  rw [ByteArray.data_extract, Array.toList_extract, List.drop_take]
theorem fd_one (s : ByteArray) (k : Nat) (h : k < s.size) : (s.extract k (k + 1)).data.toList = [s[k]] := by
  rw [fd_ext, List.take_succ_eq_append_getElem (by rw [fd_len]; exact h), List.drop_append_of_le_length (by rw [List.length_take, fd_len]; omega), List.drop_of_length_le (by rw [List.length_take]; omega)]
  rfl
theorem fd_app (a b : ByteArray) : (a ++ b).data.toList = a.data.toList ++ b.data.toList := by rw [ByteArray.data_append, Array.toList_append]
theorem fd_parts {i0 : Option TypeInfo} {z : Value} {n b : Nat} (h : i0.map (fun i => (i.zero, i.size, i.bytes)) = some (some z, n, b)) : ∃ i, i0 = some i ∧ i.zero = some z ∧ i.size = n ∧ i.bytes = b := by
  cases i0 with
  | none => cases h
  | some i => simp at h; exact ⟨i, rfl, h.1, h.2.1, h.2.2⟩
theorem fd_info : (Tryz.prog.info? 9).map (fun i => (i.zero, i.size, i.bytes)) = some (some (.string ⟨#[]⟩), 1, 16) := by kernel_rfl
theorem StS.nil (w : World) : StS w (.slice none 0 0) [] := Lst.nil w _
theorem fd_keep {P : Addr} {v : Value} {w W : World} (hm : w.cell? P = some v) (k : Below w.heap.size w W) : W.cell? P = some v :=
  (k.cell (World.block_lt_of_cell? _ _ hm)).trans hm
end Go.Proofs.YtedbohfcbfegjaaGreatDoor

/- Names: which bytes begin one, which go on; the program's Name. -/
set_option linter.unusedVariables false
set_option linter.unusedSimpArgs false
namespace Go.Proofs.YtedbohfcbfegjaaGreatDoor
open Go.RowKit Go.Sort

namespace Lk
def bg (c : Nat) : Bool := (decide (65 ≤ c) && decide (c ≤ 90)) || (decide (97 ≤ c) && decide (c ≤ 122)) || decide (c = 95)
def dg (c : Nat) : Bool := decide (48 ≤ c) && decide (c ≤ 57)
def sg (c : Nat) : Bool := decide (c = 45) || decide (c = 43) || decide (c = 47) || decide (c = 46)
def gn (c : Nat) : Bool := bg c || dg c || sg c
def bgB (c : UInt8) : Bool := bg c.toNat
def gnB (c : UInt8) : Bool := gn c.toNat
/-- May a text be a name? -/
def isN (l : List UInt8) : Bool := l.all gnB && (match l with | [] => false | c :: _ => bgB c)
/-- Why a text is no name. -/
def nm (l : List UInt8) : Int := if 64 < l.length then 9 else if isN l = true then 0 else 10
theorem bg_gn {c : Nat} (h : bg c = true) : gn c = true := by unfold gn; rw [h]; rfl
theorem sg_of (c : UInt8) : decide (0 ≤ Lib.indexByte [45, 43, 47, 46] c) = sg c.toNat := by
  have h : ∀ n : Fin 256, decide (0 ≤ Lib.indexByte [45, 43, 47, 46] (UInt8.ofNat n.1)) = sg n.1 := by decide +kernel
  have := h ⟨c.toNat, c.toNat_lt⟩
  simpa using this
end Lk
set_option maxRecDepth 100000 in
theorem nbegins_any (c : Nat) (w : World) (hc : c ≤ 255) : Calls Tryz.prog 111 #[.int .u8 (c : Int)] w fun e w' => e = .returned (.bool (Lk.bg c)) ∧ w = w' := by
  unfold Lk.bg
  obtain ⟨C, hC⟩ : ∃ C : Int, C = c := ⟨_, rfl⟩
  rw [← hC]
  rcases (by omega : (0 ≤ c ∧ c ≤ 64) ∨ (65 ≤ c ∧ c ≤ 90) ∨ (91 ≤ c ∧ c ≤ 94) ∨ (95 ≤ c ∧ c ≤ 95) ∨ (96 ≤ c ∧ c ≤ 96) ∨ (97 ≤ c ∧ c ≤ 122) ∨ (123 ≤ c ∧ c ≤ 255)) with h | h | h | h | h | h | h
  · have hb : (decide (65 ≤ c) && decide (c ≤ 90) || (decide (97 ≤ c) && decide (c ≤ 122)) || decide (c = 95)) = false := by
      simp; omega
    rw [hb]; clear hb
    have f65 : ¬ (65 : Int) ≤ C := by omega
    have f97 : ¬ (97 : Int) ≤ C := by omega
    have f90 : C ≤ (90 : Int) := by omega
    have f122 : C ≤ (122 : Int) := by omega
    have q95 : (C == (95 : Int)) = false := by rw [beq_eq_false_iff_ne]; omega
    clear hC h
    go_enter Tryz.func111, Tryz.ntmps111
    go_wp2_with fail
    go_ret
    exact ⟨rfl, rfl⟩
  · have hb : (decide (65 ≤ c) && decide (c ≤ 90) || (decide (97 ≤ c) && decide (c ≤ 122)) || decide (c = 95)) = true := by
      simp; omega
    rw [hb]; clear hb
    have f65 : (65 : Int) ≤ C := by omega
    have f97 : ¬ (97 : Int) ≤ C := by omega
    have f90 : C ≤ (90 : Int) := by omega
    have f122 : C ≤ (122 : Int) := by omega
    have q95 : (C == (95 : Int)) = false := by rw [beq_eq_false_iff_ne]; omega
    clear hC h
    go_enter Tryz.func111, Tryz.ntmps111
    go_wp2_with fail
    go_ret
    exact ⟨rfl, rfl⟩
  · have hb : (decide (65 ≤ c) && decide (c ≤ 90) || (decide (97 ≤ c) && decide (c ≤ 122)) || decide (c = 95)) = false := by
      simp; omega
    rw [hb]; clear hb
    have f65 : (65 : Int) ≤ C := by omega
    have f97 : ¬ (97 : Int) ≤ C := by omega
    have f90 : ¬ C ≤ (90 : Int) := by omega
    have f122 : C ≤ (122 : Int) := by omega
    have q95 : (C == (95 : Int)) = false := by rw [beq_eq_false_iff_ne]; omega
    clear hC h
    go_enter Tryz.func111, Tryz.ntmps111
    go_wp2_with fail
    go_ret
    exact ⟨rfl, rfl⟩
  · have hb : (decide (65 ≤ c) && decide (c ≤ 90) || (decide (97 ≤ c) && decide (c ≤ 122)) || decide (c = 95)) = true := by
      simp; omega
    rw [hb]; clear hb
    obtain rfl : C = 95 := by omega
    clear hC h
    go_enter Tryz.func111, Tryz.ntmps111
    go_wp2_with fail
    go_ret
    exact ⟨rfl, rfl⟩
  · have hb : (decide (65 ≤ c) && decide (c ≤ 90) || (decide (97 ≤ c) && decide (c ≤ 122)) || decide (c = 95)) = false := by
      simp; omega
    rw [hb]; clear hb
    have f65 : (65 : Int) ≤ C := by omega
    have f97 : ¬ (97 : Int) ≤ C := by omega
    have f90 : ¬ C ≤ (90 : Int) := by omega
    have f122 : C ≤ (122 : Int) := by omega
    have q95 : (C == (95 : Int)) = false := by rw [beq_eq_false_iff_ne]; omega
    clear hC h
    go_enter Tryz.func111, Tryz.ntmps111
    go_wp2_with fail
    go_ret
    exact ⟨rfl, rfl⟩
  · have hb : (decide (65 ≤ c) && decide (c ≤ 90) || (decide (97 ≤ c) && decide (c ≤ 122)) || decide (c = 95)) = true := by
      simp; omega
    rw [hb]; clear hb
    have f65 : (65 : Int) ≤ C := by omega
    have f97 : (97 : Int) ≤ C := by omega
    have f90 : ¬ C ≤ (90 : Int) := by omega
    have f122 : C ≤ (122 : Int) := by omega
    have q95 : (C == (95 : Int)) = false := by rw [beq_eq_false_iff_ne]; omega
    clear hC h
    go_enter Tryz.func111, Tryz.ntmps111
    go_wp2_with fail
    go_ret
    exact ⟨rfl, rfl⟩
  · have hb : (decide (65 ≤ c) && decide (c ≤ 90) || (decide (97 ≤ c) && decide (c ≤ 122)) || decide (c = 95)) = false := by
      simp; omega
    rw [hb]; clear hb
    have f65 : (65 : Int) ≤ C := by omega
    have f97 : (97 : Int) ≤ C := by omega
    have f90 : ¬ C ≤ (90 : Int) := by omega
    have f122 : ¬ C ≤ (122 : Int) := by omega
    have q95 : (C == (95 : Int)) = false := by rw [beq_eq_false_iff_ne]; omega
    clear hC h
    go_enter Tryz.func111, Tryz.ntmps111
    go_wp2_with fail
    go_ret
    exact ⟨rfl, rfl⟩
theorem nindex_any (c : UInt8) (w : World) : Calls Tryz.prog 156 #[.string ⟨#[45, 43, 47, 46]⟩, .int .u8 c.toNat] w fun e w' => ∃ i : Int, e = .returned (.int .i64 i) ∧ decide (0 ≤ i) = Lk.sg c.toNat ∧ w' = w := by
  have := Any.strings_IndexByte Tryz.lays137 ⟨#[45, 43, 47, 46]⟩ c.toNat w
  refine this.mono ?_
  rintro e w' ⟨he, hw⟩
  refine ⟨_, he, ?_, hw⟩
  rw [show ((c.toNat : Int)).toNat.toUInt8 = c by simp]
  exact Lk.sg_of c
set_option maxRecDepth 100000 in
theorem ngoes_any (c : UInt8) (w : World) : Calls Tryz.prog 110 #[.int .u8 c.toNat] w fun e w' => e = .returned (.bool (Lk.gn c.toNat)) ∧ w = w' := by
  have B := Lib.hid (fun W => nbegins_any c.toNat W (by have := c.toNat_lt; omega))
  have I := Lib.hid (fun W => nindex_any c W)
  unfold Lk.gn
  have hd : Lk.dg c.toNat = (decide ((48 : Int) ≤ (c.toNat : Int)) && decide ((c.toNat : Int) ≤ 57)) := by
    unfold Lk.dg
    rw [Bool.eq_iff_iff]; simp; omega
  generalize Lk.bg c.toNat = b at B ⊢
  generalize Lk.sg c.toNat = q at I ⊢
  generalize Lk.dg c.toNat = d at hd ⊢
  generalize (c.toNat : Int) = C at B I hd
  cases b
  · by_cases h1 : (48 : Int) ≤ C
    · by_cases h2 : C ≤ 57
      · rw [decide_eq_true h1, decide_eq_true h2] at hd
        subst hd
        clear I
        go_enter Tryz.func110, Tryz.ntmps110
        go_wp2_with fail
        refine (B.out _).mono ?_; rintro e w1 ⟨rfl, rfl⟩
        go_wp2_with fail
        go_ret
        exact ⟨rfl, rfl⟩
      · rw [decide_eq_true h1, decide_eq_false h2] at hd
        subst hd
        go_enter Tryz.func110, Tryz.ntmps110
        go_wp2_with fail
        refine (B.out _).mono ?_; rintro e w1 ⟨rfl, rfl⟩
        go_wp2_with fail
        refine (I.out _).mono ?_; rintro e w1 ⟨i, rfl, hq, rfl⟩
        cases q
        · have hq := of_decide_eq_false hq
          go_wp2_with fail
          go_ret
          exact ⟨by first | rfl | simp [h2], rfl⟩
        · have hq := of_decide_eq_true hq
          go_wp2_with fail
          go_ret
          exact ⟨by first | rfl | simp [h2], rfl⟩
    · rw [decide_eq_false h1] at hd
      obtain rfl : d = false := by rw [hd]; rfl
      clear hd
      go_enter Tryz.func110, Tryz.ntmps110
      go_wp2_with fail
      refine (B.out _).mono ?_; rintro e w1 ⟨rfl, rfl⟩
      go_wp2_with fail
      refine (I.out _).mono ?_; rintro e w1 ⟨i, rfl, hq, rfl⟩
      cases q
      · have hq := of_decide_eq_false hq
        go_wp2_with fail
        go_ret
        exact ⟨rfl, rfl⟩
      · have hq := of_decide_eq_true hq
        go_wp2_with fail
        go_ret
        exact ⟨rfl, rfl⟩
  · clear I hd
    go_enter Tryz.func110, Tryz.ntmps110
    go_wp2_with fail
    refine (B.out _).mono ?_; rintro e w1 ⟨rfl, rfl⟩
    go_wp2_with fail
    go_ret
    exact ⟨rfl, rfl⟩
set_option maxRecDepth 100000 in
theorem isname_any (s : ByteArray) (w : World) (hs : s.size ≤ 100) : Calls Tryz.prog 58 #[.string s] w fun e w' => e = .returned (.bool (Lk.isN s.data.toList)) ∧ w = w' := by
  obtain ⟨tot, htot⟩ : ∃ t, t = s.data.toList.all Lk.gnB := ⟨_, rfl⟩
  have HT := Lib.hid htot
  obtain ⟨hd, hhd⟩ : ∃ t : Bool, t = (match s.data.toList with | [] => false | c :: _ => Lk.bgB c) := ⟨_, rfl⟩
  have hN : Lk.isN s.data.toList = (tot && hd) := by rw [htot, hhd]; rfl
  have HH := Lib.hid hhd
  rw [hN]
  clear htot hhd hN
  go_enter Tryz.func58, Tryz.ntmps58
  go_wp2_with fail
  go_loopw [6] (fun i wr => ∃ k : Nat, k ≤ s.size ∧ i = .int .i64 k ∧ Hid ((s.data.toList.drop k).all Lk.gnB = tot) ∧ wr = w) (fun i _ => s.size - (intOf i).toNat)
  case atStart => exact ⟨0, Nat.zero_le _, rfl, HT.out.symm, rfl⟩
  case round =>
    obtain ⟨k, hk, rfl, hinv, hw⟩ := hrel
    obtain rfl : w = wr := hw.symm
    by_cases hlt : k < s.size
    · have IX := fun W => fd_ix s k hlt W
      have G := Lib.hid (fun W => ngoes_any s[k] W)
      have hi := hinv.out
      rw [fd_drop s k hlt, List.all_cons] at hi
      have hgn : Lk.gnB s[k] = Lk.gn s[k].toNat := rfl
      rw [hgn] at hi
      generalize Lk.gn s[k].toNat = g at G hi
      generalize (s[k].toNat : Int) = C at G IX
      cases g
      · obtain rfl : tot = false := by rw [← hi]; rfl
        clear hi hgn hinv HT
        go_wp2_with fail
        refine (G.out _).mono ?_; rintro e w1 ⟨rfl, hw1⟩
        cases hw1
        go_wp2_with fail
        go_ret
        exact ⟨rfl, rfl⟩
      · have HI := Lib.hid (show (s.data.toList.drop (k + 1)).all Lk.gnB = tot by rw [← hi]; rfl)
        clear hi hgn hinv
        go_wp2_with fail
        refine (G.out _).mono ?_; rintro e w1 ⟨rfl, hw1⟩
        cases hw1
        go_wp2_with fail
        go_roundw
        case rel => exact ⟨k + 1, by omega, by go_num, HI, by first | rfl | trivial⟩
        case measure => simp [intOf]; omega
    · obtain rfl : tot = true := by rw [← hinv.out, List.drop_of_length_le (by rw [fd_len]; omega)]; rfl
      clear HT hinv
      rcases Nat.eq_zero_or_pos s.size with h0 | h0
      · obtain rfl : s = ⟨#[]⟩ := by
          apply ByteArray.ext; apply Array.toList_inj.1
          rw [show s.data.toList = [] by rw [← List.length_eq_zero_iff, fd_len]; exact h0]
        obtain rfl : hd = false := HH.out
        clear HH
        go_wp2_with fail
        go_ret
        exact ⟨rfl, rfl⟩
      · obtain ⟨n1, n2⟩ := fd_ne h0
        have IX0 := fun W => fd_ix s 0 h0 W
        have B := Lib.hid (fun W => nbegins_any s[0].toNat W (by have := s[0].toNat_lt; omega))
        have hh : hd = Lk.bg s[0].toNat := by
          have e : s.data.toList = s[0] :: s.data.toList.drop 1 := by have := fd_drop s 0 h0; simpa using this
          rw [HH.out, e]; rfl
        rw [← hh] at B
        have IX0 : ∀ W, Sem.run Tryz.prog (Instr.index 9 (.string s) (.int .i64 0)) W = .ok (.int .u8 s[0].toNat) W := IX0
        generalize (s[0].toNat : Int) = C at B IX0
        clear hh HH
        go_wp2_with fail
        refine (B.out _).mono ?_; rintro e w1 ⟨rfl, hw1⟩
        cases hw1
        go_wp2_with fail
        go_ret
        exact ⟨rfl, rfl⟩
theorem rname_any (s : ByteArray) (w : World) (hs : s.size ≤ maxLen) : Calls Tryz.prog 15 #[.string s] w fun e w' => e = .returned (.int .i64 (Lk.nm s.data.toList)) ∧ w = w' := by
  unfold Lk.nm
  unfold maxLen at hs
  rw [fd_len]
  by_cases h : 64 < s.size
  · rw [if_pos h]
    have h1 : 64 < (s.size : Int) := by omega
    clear h
    go_enter Tryz.func15, Tryz.ntmps15
    go_wp2_with fail
    go_ret
    exact ⟨rfl, rfl⟩
  · rw [if_neg h]
    have h1 : ¬ 64 < (s.size : Int) := by omega
    have C := Lib.hid (fun W => isname_any s W (by omega))
    clear h
    generalize Lk.isN s.data.toList = b at C ⊢
    cases b
    all_goals
      go_enter Tryz.func15, Tryz.ntmps15
      go_wp2_with fail
      refine (C.out _).mono ?_; rintro e w1 ⟨rfl, rfl⟩
      go_wp2_with fail
      go_ret
      exact ⟨rfl, rfl⟩
end Go.Proofs.YtedbohfcbfegjaaGreatDoor

/- Texts as bytes: how long they are, what stands behind a place. -/
set_option linter.unusedVariables false
set_option linter.unusedSimpArgs false
namespace Go.Proofs.YtedbohfcbfegjaaGreatDoor
open Go.RowKit

theorem ab_len (a : ByteArray) : a.data.toList.length = a.size := Array.length_toList
theorem ab_drop (a : ByteArray) (k : Nat) (h : k < a.size) : a.data.toList.drop k = a[k] :: a.data.toList.drop (k + 1) := by
  rw [List.drop_eq_getElem_cons (by rw [ab_len]; exact h)]
  rfl
theorem dne {ds : ByteArray} (h : 0 < ds.size) : ds.toList.isEmpty = false ∧ ¬ ds.toList = [] := by
  have : ds.toList ≠ [] := by
    intro e
    have hl := ab_len ds
    rw [← ByteArray.toList_eq] at hl
    rw [e] at hl; simp at hl; omega
  exact ⟨by simpa using this, this⟩
theorem rn_ix (a : ByteArray) (k : Nat) (h : k < a.size) (w : World) : Sem.run Tryz.prog (Instr.index 9 (.string a) (.int .i64 (k : Int))) w = .ok (.int .u8 a[k].toNat) w := by
  rw [run_index_string w _ _ _ _ Tryz.underlying9, dif_pos ⟨by omega, by omega⟩]
  simp
end Go.Proofs.YtedbohfcbfegjaaGreatDoor

/- Formats: what may stand in them; counts; the kinds. -/
set_option linter.unusedVariables false
set_option linter.unusedSimpArgs false
namespace Go.Proofs.YtedbohfcbfegjaaGreatDoor
open Go.RowKit

namespace Fo
/-- A letter or a digit. -/
def isL (c : Int) : Bool := (decide (65 ≤ c) && decide (c ≤ 90)) || ((decide (97 ≤ c) && decide (c ≤ 122)) || (decide (48 ≤ c) && decide (c ≤ 57)))
def isB (c : UInt8) : Bool := isL (c.toNat : Int)
/-- Made of letters, digits and these signs. -/
def mdA (sg : List UInt8) (l : List UInt8) : Bool := l.all fun c => isB c || sg.contains c
def made (sg : List UInt8) (l : List UInt8) : Bool := mdA sg l && !l.isEmpty
theorem ix_key (c : UInt8) : ∀ l : List UInt8, (Lib.indexByte l c = -1 ∧ l.contains c = false) ∨ (0 ≤ Lib.indexByte l c ∧ l.contains c = true)
  | [] => .inl ⟨rfl, rfl⟩
  | b :: r => by
    unfold Lib.indexByte
    by_cases h : b = c
    · subst h; right; simp
    · have h2 : (b == c) = false := by rw [beq_eq_false_iff_ne]; exact h
      have h3 : (c == b) = false := by rw [beq_eq_false_iff_ne]; exact fun e => h e.symm
      rw [h2, List.contains_cons, h3, Bool.false_or]
      rcases ix_key c r with ⟨a, d⟩ | ⟨a, d⟩
      · left; rw [a]; exact ⟨rfl, d⟩
      · right
        have h4 : (Lib.indexByte r c == -1) = false := by rw [beq_eq_false_iff_ne]; omega
        rw [h4]
        refine ⟨?_, d⟩
        show 0 ≤ Lib.indexByte r c + 1
        omega
theorem ix_neg (sg : List UInt8) (c : UInt8) : decide (Lib.indexByte sg c < 0) = !(sg.contains c) := by
  rcases ix_key c sg with ⟨a, d⟩ | ⟨a, d⟩
  · rw [a, d]; rfl
  · rw [d, decide_eq_false (by omega)]; rfl
end Fo
set_option maxHeartbeats 2000000 in
theorem isLD_any (c : Int) (w : World) (h0 : 0 ≤ c) (h1 : c ≤ 255) :
    Calls Tryz.prog 181 #[.int .u8 c] w fun e w' => e = .returned (.bool (Fo.isL c)) ∧ w = w' := by
  unfold Fo.isL
  by_cases a0 : 65 ≤ c <;> by_cases a1 : c ≤ 90 <;> by_cases b0 : 97 ≤ c <;> by_cases b1 : c ≤ 122 <;> by_cases d0 : 48 ≤ c <;> by_cases d1 : c ≤ 57
  all_goals try (exfalso; omega)
  all_goals
    go_enter Tryz.func181, Tryz.ntmps181
    go_wp2_with fail
    all_goals first | (exfalso; omega) | (go_ret; exact ⟨by simp [a0, a1, b0, b1, d0, d1], rfl⟩)
set_option maxHeartbeats 4000000 in
set_option maxRecDepth 100000 in
theorem made_any (s sg : ByteArray) (w : World) (hs : s.size ≤ 100000) :
    Calls Tryz.prog 142 #[.string s, .string sg] w fun e w' => e = .returned (.bool (Fo.made sg.data.toList s.data.toList)) ∧ w = w' := by
  obtain ⟨ans, hans⟩ : ∃ ans, ans = Fo.made sg.data.toList s.data.toList := ⟨_, rfl⟩
  rw [← hans]
  have HA := Lib.hid (show ans = (Fo.mdA sg.data.toList s.data.toList && !s.data.toList.isEmpty) from hans)
  have HE : Hid (0 < s.size → (!s.data.toList.isEmpty) = true) := fun h => by
    have := ab_len s
    cases hl : s.data.toList with
    | nil => rw [hl] at this; simp at this; omega
    | cons _ _ => rfl
  have HZ : Hid (s.size = 0 → (!s.data.toList.isEmpty) = false ∧ s = ⟨#[]⟩) := fun h => by
    have e : s.data.toList = [] := by rw [← List.length_eq_zero_iff, ab_len]; exact h
    exact ⟨by rw [e]; rfl, by apply ByteArray.ext; apply Array.toList_inj.1; rw [e]⟩
  clear hans
  go_enter Tryz.func142, Tryz.ntmps142
  go_wp2_with fail
  go_loopw [8] (fun i wr => ∃ k : Nat, k ≤ s.size ∧ i = .int .i64 k ∧ Hid (Fo.mdA sg.data.toList (s.data.toList.drop k) = Fo.mdA sg.data.toList s.data.toList) ∧ wr = w) (fun i _ => s.size - (intOf i).toNat)
  case atStart => exact ⟨0, Nat.zero_le _, rfl, Lib.hid rfl, rfl⟩
  case round =>
    obtain ⟨k, hk, rfl, hr, hw⟩ := hrel
    obtain rfl : w = wr := hw.symm
    by_cases hlt : k < s.size
    · have IX := fun W => rn_ix s k hlt W
      have hn : ((Fo.isB s[k] || sg.data.toList.contains s[k]) && Fo.mdA sg.data.toList (s.data.toList.drop (k + 1))) = Fo.mdA sg.data.toList s.data.toList := by rw [← hr.out, ab_drop s k hlt]; rfl
      have hc := s[k].toNat_lt
      have CL : Hid (∀ W, Calls Tryz.prog 181 #[.int .u8 (s[k].toNat : Int)] W fun e w' => e = .returned (.bool (Fo.isB s[k])) ∧ W = w') := fun W => isLD_any _ W (by omega) (by omega)
      have CI : Hid (∀ W, Calls Tryz.prog 156 #[.string sg, .int .u8 (s[k].toNat : Int)] W fun e w' => e = .returned (.int .i64 (Lib.indexByte sg.data.toList s[k])) ∧ W = w') := fun W =>
        (Any.strings_IndexByte Tryz.lays137 sg (s[k].toNat : Int) W).mono fun e w' ⟨h, h2⟩ => ⟨by rw [h]; congr 3; simp, h2.symm⟩
      have hx := Fo.ix_neg sg.data.toList s[k]
      generalize sg.data.toList.contains s[k] = b2 at hn hx
      generalize Lib.indexByte sg.data.toList s[k] = ix at CI hx
      generalize Fo.isB s[k] = b1 at hn CL
      have HN := Lib.hid hn
      clear hn
      cases b1
      · cases b2
        · have hno := Lib.hid (show ans = false by rw [HA.out, ← HN.out]; rfl)
          have hxx : ix < 0 := of_decide_eq_true hx
          clear HN hx
          go_wp2_with fail
          refine (CL.out _).mono ?_; rintro e w1 ⟨rfl, rfl⟩
          go_wp2_with fail
          refine (CI.out _).mono ?_; rintro e w1 ⟨rfl, rfl⟩
          go_wp2_with fail
          go_ret
          exact ⟨by rw [hno.out]; rfl, rfl⟩
        · have hxx : ¬ ix < 0 := of_decide_eq_false hx
          have HN2 := Lib.hid (show Fo.mdA sg.data.toList (s.data.toList.drop (k + 1)) = Fo.mdA sg.data.toList s.data.toList by rw [← HN.out]; rfl)
          clear HN hx
          go_wp2_with fail
          refine (CL.out _).mono ?_; rintro e w1 ⟨rfl, rfl⟩
          go_wp2_with fail
          refine (CI.out _).mono ?_; rintro e w1 ⟨rfl, rfl⟩
          go_wp2_with fail
          go_roundw
          case rel => exact ⟨k + 1, by omega, by go_num, HN2, by first | rfl | trivial⟩
          case measure => simp [intOf]; omega
      · have HN2 := Lib.hid (show Fo.mdA sg.data.toList (s.data.toList.drop (k + 1)) = Fo.mdA sg.data.toList s.data.toList by rw [← HN.out]; simp)
        clear HN hx CI
        go_wp2_with fail
        refine (CL.out _).mono ?_; rintro e w1 ⟨rfl, rfl⟩
        go_wp2_with fail
        go_roundw
        case rel => exact ⟨k + 1, by omega, by go_num, HN2, by first | rfl | trivial⟩
        case measure => simp [intOf]; omega
    · have hall := Lib.hid (show Fo.mdA sg.data.toList s.data.toList = true by rw [← hr.out, List.drop_of_length_le (by rw [ab_len]; omega)]; rfl)
      rcases Nat.eq_zero_or_pos s.size with h0 | h0
      · obtain ⟨e1, e2⟩ := HZ.out h0
        have hans := Lib.hid (show ans = false by rw [HA.out, e1, Bool.and_false])
        clear HA HE HZ hr hall e1
        subst e2
        go_wp2_with fail
        go_ret
        exact ⟨by rw [hans.out]; rfl, rfl⟩
      · have hans := Lib.hid (show ans = true by rw [HA.out, hall.out, HE.out h0]; rfl)
        obtain ⟨n1, n2⟩ := dne h0
        clear HA HE HZ hr hall
        go_wp2_with fail
        go_ret
        exact ⟨by rw [hans.out]; rfl, rfl⟩
end Go.Proofs.YtedbohfcbfegjaaGreatDoor
