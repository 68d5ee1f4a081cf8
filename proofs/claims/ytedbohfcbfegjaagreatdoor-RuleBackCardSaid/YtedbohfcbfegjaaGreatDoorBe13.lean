/- Joined: WdA, WdB, WdCb, GvN0, GvN, GvQ, GvA. -/
import Derived.Test.YtedbohfcbfegjaaGreatDoorBe12
import Derived.Test.YtedbohfcbfegjaaGreatDoorBe01
import Derived.Deep.QuietTactic
import Derived.Test.YtedbohfcbfegjaaGreatDoorBe02
import Derived.Tactics
import Derived.Tactics2
import Derived.Defers
import Derived.Recover
import Derived.Laws.Pointers
/- Words: the contracts of small, begins and Same, the program's and the reference's. -/
set_option linter.unusedVariables false
set_option linter.unusedSimpArgs false
namespace Go.Proofs.YtedbohfcbfegjaaGreatDoor
open Go.RowKit

theorem blen (a : ByteArray) : a.data.toList.length = a.size := Array.length_toList
theorem bget {a : ByteArray} {k : Nat} (h : k < a.size) : a.data.toList[k]'(by rw [blen]; exact h) = a[k] := rfl
set_option maxHeartbeats 1000000 in
theorem small_any (b : UInt8) (w : World) : Calls Tryz.prog 198 #[.int .u8 b.toNat] w fun e w' => e = .returned (.int .u8 (Wd.sm b)) ∧ w = w' := by
  have hb := b.toNat_lt
  obtain ⟨n, hn⟩ : ∃ n : Int, n = b.toNat := ⟨_, rfl⟩
  have E : Wd.sm b = if 65 ≤ n ∧ n ≤ 90 then n + 32 else n := by unfold Wd.sm; rw [hn]
  rw [E, ← hn]
  have n0 : 0 ≤ n := by omega
  have n1 : n < 256 := by omega
  clear E hn hb
  by_cases c1 : 65 ≤ n
  · by_cases c2 : n ≤ 90
    · rw [if_pos ⟨c1, c2⟩]
      go_enter Tryz.func198, Tryz.ntmps198
      go_wp2
      go_ret
      exact ⟨by first | rfl | (show Ending.returned (.int .u8 (n - 65 + 97)) = _; rw [show n - 65 + 97 = n + 32 by omega]), rfl⟩
    · rw [if_neg (fun h => c2 h.2)]
      have g : decide (n ≤ 90) = false := decide_eq_false c2
      go_enter Tryz.func198, Tryz.ntmps198
      go_wp2
      go_ret
      exact ⟨rfl, rfl⟩
  · rw [if_neg (fun h => c1 h.1)]
    have g : decide (65 ≤ n) = false := decide_eq_false c1
    go_enter Tryz.func198, Tryz.ntmps198
    go_wp2
    go_ret
    exact ⟨rfl, rfl⟩
theorem at_index (a : ByteArray) (k : Nat) (h : k < a.size) (w : World) : Sem.run Tryz.prog (Instr.index 9 (.string a) (.int .i64 (k : Int))) w = .ok (.int .u8 a[k].toNat) w := by
  rw [run_index_string w _ _ _ _ Tryz.underlying9, dif_pos ⟨by omega, by omega⟩]
  simp
set_option maxHeartbeats 2000000 in
set_option maxRecDepth 100000 in
theorem begins_any (a b : ByteArray) (w : World) (ha : a.size ≤ maxLen) (hb : b.size ≤ maxLen) :
    Calls Tryz.prog 170 #[.string a, .string b] w fun e w' => e = .returned (.bool (Wd.beg a.data.toList b.data.toList)) ∧ ∃ k, w' = w.drewN k := by
  unfold maxLen at ha hb
  by_cases hs : (a.size : Int) < (b.size : Int)
  · rw [Wd.beg_short (by rw [blen, blen]; omega)]
    go_enter Tryz.func170, Tryz.ntmps170
    go_wp2
    go_ret
    exact ⟨rfl, 0, rfl⟩
  · obtain ⟨ans, hans⟩ : ∃ ans, ans = Wd.beg a.data.toList b.data.toList := ⟨_, rfl⟩
    rw [← hans]
    have HA := Lib.hid hans; clear hans
    go_enter Tryz.func170, Tryz.ntmps170
    go_wp2_with fail
    go_loopw [13] (fun i wr => ∃ k j : Nat, k ≤ b.size ∧ i = .int .i64 k ∧ (∀ i (h1 : i < a.data.toList.length) (h2 : i < b.data.toList.length), i < k → Wd.sm a.data.toList[i] = Wd.sm b.data.toList[i]) ∧ wr = w.drewN j) (fun i _ => b.size - (intOf i).toNat)
    case atStart => exact ⟨0, 0, Nat.zero_le _, rfl, fun i _ _ h => absurd h (Nat.not_lt_zero _), rfl⟩
    case round =>
      obtain ⟨k, j, hk, rfl, hall, hw⟩ := hrel
      have HL := Lib.hid hall; have HW := Lib.hid hw; clear hall hw
      by_cases hlt : k < b.size
      · have hlta : k < a.size := by omega
        by_cases he : Wd.sm a[k] = Wd.sm b[k]
        · have HE := Lib.hid he
          have g : (Wd.sm a[k] == Wd.sm b[k]) = true := by rw [beq_iff_eq]; exact he
          clear he
          go_wp2_with fail
          go_quiet ((go_at_call 198; exact Calls.quiet_of_same ((small_any _ _).mono fun _ _ ⟨h1, h2⟩ => ⟨h1, h2.symm⟩)))
          go_wp2_with fail
          go_roundw
          case rel =>
            refine ⟨k + 1, _, by omega, by go_num, ?_, by rw [HW.out, World.drewN_drewN]⟩
            intro i h1 h2 h3
            by_cases hik : i = k
            · subst hik; exact HE.out
            · exact HL.out i h1 h2 (by omega)
          case measure => simp [intOf]; omega
        · have g : (Wd.sm a[k] == Wd.sm b[k]) = false := by rw [beq_eq_false_iff_ne]; exact he
          have hno : ans = false := by
            rw [HA.out]
            exact Wd.beg_no (i := k) (by rw [blen]; exact hlta) (by rw [blen]; exact hlt) (by rw [bget hlta, bget hlt]; exact he)
          have HN := Lib.hid hno
          clear hno he
          go_wp2_with fail
          go_quiet ((go_at_call 198; exact Calls.quiet_of_same ((small_any _ _).mono fun _ _ ⟨h1, h2⟩ => ⟨h1, h2.symm⟩)))
          go_wp2_with fail
          go_ret
          exact ⟨by rw [HN.out]; rfl, _, by rw [HW.out, World.drewN_drewN]⟩
      · have hyes : ans = true := by
          rw [HA.out]
          exact Wd.beg_yes (by rw [blen, blen]; omega) (fun i h1 h2 => HL.out i h1 h2 (by rw [blen] at h2; omega))
        have HY := Lib.hid hyes; clear hyes
        go_wp2_with fail
        go_ret
        exact ⟨by rw [HY.out]; rfl, _, HW.out⟩
set_option maxHeartbeats 1000000 in
theorem wsame_any (a b : ByteArray) (w : World) (ha : a.size ≤ maxLen) (hb : b.size ≤ maxLen) :
    Calls Tryz.prog 169 #[.string a, .string b] w fun e w' => e = .returned (.bool (Wd.same a.data.toList b.data.toList)) ∧ ∃ k, w' = w.drewN k := by
  have C := Lib.hid (fun w => begins_any a b w ha hb)
  have E := Lib.hid (show Wd.same a.data.toList b.data.toList = (decide (a.size = b.size) && Wd.beg a.data.toList b.data.toList) by unfold Wd.same; rw [blen, blen])
  generalize Wd.same a.data.toList b.data.toList = ans at E
  generalize Wd.beg a.data.toList b.data.toList = bg at C E
  by_cases hs : a.size = b.size
  · have g : ((a.size : Int) == (b.size : Int)) = true := by rw [beq_iff_eq]; omega
    have E2 := Lib.hid (show ans = bg by rw [E.out, hs]; simp)
    clear E hs
    go_enter Tryz.func169, Tryz.ntmps169
    go_wp2_with fail
    refine (C.out _).mono ?_; rintro e w1 ⟨rfl, k, rfl⟩
    go_wp2_with fail
    go_ret
    exact ⟨by rw [E2.out]; rfl, k, rfl⟩
  · have g : ((a.size : Int) == (b.size : Int)) = false := by rw [beq_eq_false_iff_ne]; omega
    have E2 := Lib.hid (show ans = false by rw [E.out, decide_eq_false hs]; rfl)
    clear E hs
    go_enter Tryz.func169, Tryz.ntmps169
    go_wp2_with fail
    go_ret
    exact ⟨by rw [E2.out]; rfl, 0, rfl⟩
end Go.Proofs.YtedbohfcbfegjaaGreatDoor

/- Words: lists of strings in memory; the contract of Match. -/
set_option linter.unusedVariables false
set_option linter.unusedSimpArgs false
namespace Go.Proofs.YtedbohfcbfegjaaGreatDoor
open Go.RowKit Go.Sort

namespace Wd
/-- Word by word: the place found so far (-1: none), and whether there are several. -/
def run (s : List UInt8) (all : List ByteArray) : List ByteArray → Nat → Int → Bool → Int × Int
  | [], _, f, sv => if f < 0 ∨ sv = true then (0, 3) else (f, 0)
  | x :: r, i, f, sv => if same x.data.toList s = true then ((i : Int), 0) else if beg x.data.toList s = false then run s all r (i + 1) f sv else if f < 0 then run s all r (i + 1) (i : Int) sv
    else if same x.data.toList (all.getD f.toNat ByteArray.empty).data.toList = true then run s all r (i + 1) f sv else run s all r (i + 1) f true
def mat (s : List UInt8) (all : List ByteArray) : Int × Int := if s = [] then (0, 3) else run s all all 0 (-1) false
theorem run_nil {s : List UInt8} {all : List ByteArray} {k : Nat} {f : Int} {sv : Bool} : run s all [] k f sv = if f < 0 ∨ sv = true then (0, 3) else (f, 0) := rfl
theorem run_step {s : List UInt8} {all : List ByteArray} {k : Nat} {f : Int} {sv : Bool} (h : k < all.length) : run s all (all.drop k) k f sv =
    if same all[k].data.toList s = true then ((k : Int), 0) else if beg all[k].data.toList s = false then run s all (all.drop (k + 1)) (k + 1) f sv else if f < 0 then run s all (all.drop (k + 1)) (k + 1) (k : Int) sv
    else if same all[k].data.toList (all.getD f.toNat ByteArray.empty).data.toList = true then run s all (all.drop (k + 1)) (k + 1) f sv else run s all (all.drop (k + 1)) (k + 1) f true := by
  rw [List.drop_eq_getElem_cons h]
  rfl
end Wd
theorem wdne {ds : ByteArray} (h : 0 < ds.size) : ds.toList.isEmpty = false ∧ ¬ ds.toList = [] := by
  have : ds.toList ≠ [] := by
    intro e
    have hl := blen ds
    rw [← ByteArray.toList_eq] at hl
    rw [e] at hl; simp at hl; omega
  exact ⟨by simpa using this, this⟩
theorem s_nil {s : ByteArray} (h : s.size = 0) : s = ByteArray.empty := by
  apply ByteArray.ext
  have : s.data.size = 0 := h
  exact Array.size_eq_zero_iff.1 this

set_option maxHeartbeats 4000000 in
set_option maxRecDepth 100000 in
theorem match_any (s : ByteArray) (v : Value) (l : List ByteArray) (w : World) (hv : StS w v l) (hs : s.size ≤ maxLen) (hz : ∀ x ∈ l, x.size ≤ maxLen) (hm : l.length ≤ maxLen) :
    Calls Tryz.prog 133 #[.string s, v] w fun e w' => e = .returned (.tuple #[.int .i64 (Wd.mat s.data.toList l).1, .int .i64 (Wd.mat s.data.toList l).2]) ∧ ∃ k, w' = w.drewN k := by
  unfold maxLen at hm
  have HS := Lib.hid hs; clear hs
  by_cases h0 : s.size = 0
  · rw [show Wd.mat s.data.toList l = (0, 3) by unfold Wd.mat; rw [if_pos (by rw [← List.length_eq_zero_iff, blen]; exact h0)]]
    obtain rfl := s_nil h0
    obtain ⟨A, c, rfl, -⟩ := hv
    go_enter Tryz.func133, Tryz.ntmps133
    go_wp2
    go_ret2
    exact ⟨rfl, 0, rfl⟩
  · obtain ⟨t1, t2⟩ := wdne (ds := s) (by omega)
    obtain ⟨ans, hans⟩ : ∃ ans, ans = Wd.mat s.data.toList l := ⟨_, rfl⟩
    rw [← hans]
    have HA := Lib.hid (show Wd.run s.data.toList l (l.drop 0) 0 (-1) false = ans by rw [hans]; unfold Wd.mat; rw [if_neg (by rw [← List.length_eq_zero_iff, blen]; exact h0)]; rfl)
    have HV := Lib.hid hv
    obtain ⟨A, c, rfl, -⟩ := hv
    generalize hn : l.length = n at *
    have HN := Lib.hid hn
    have HZ := Lib.hid hz
    clear hn hz hans h0
    go_enter Tryz.func133, Tryz.ntmps133
    go_wp2_with fail
    go_loopw [6, 7, 14] (fun fv sv i wr => ∃ (k j : Nat) (f : Int) (b : Bool), k ≤ n ∧ i = .int .i64 k ∧ fv = .int .i64 f ∧ sv = .bool b ∧ -1 ≤ f ∧ f < n ∧ Wd.run s.data.toList l (l.drop k) k f b = ans ∧ wr = w.drewN j) (fun _ _ i _ => n - (intOf i).toNat)
    case atStart => exact ⟨0, 0, -1, false, Nat.zero_le _, rfl, rfl, rfl, by omega, by omega, HA.out, rfl⟩
    case round =>
      obtain ⟨k, j, f, b, hk, rfl, rfl, rfl, f0, f1, hr, rfl⟩ := hrel
      have HR := Lib.hid hr; clear hr
      by_cases hlt : k < n
      · obtain ⟨a, rfl, g1⟩ := HV.out.get k (by rw [HN.out]; exact hlt)
        have CS := Lib.hid (fun W => wsame_any (l[k]'(by rw [HN.out]; exact hlt)) s W (HZ.out _ (List.getElem_mem _)) HS.out)
        have CB := Lib.hid (fun W => begins_any (l[k]'(by rw [HN.out]; exact hlt)) s W (HZ.out _ (List.getElem_mem _)) HS.out)
        have ST := Lib.hid (Wd.run_step (s := s.data.toList) (all := l) (k := k) (f := f) (sv := b) (by rw [HN.out]; exact hlt))
        have KL : Hid (k < l.length) := by rw [HN.out]; exact hlt
        generalize hx : (l[k]'(by rw [HN.out]; exact hlt)) = x at *
        cases c1 : Wd.same x.data.toList s.data.toList
        · have C1 := Lib.hid c1
          cases c2 : Wd.beg x.data.toList s.data.toList
          · have C2 := Lib.hid c2
            have HE := Lib.hid (show Wd.run s.data.toList l (l.drop (k + 1)) (k + 1) f b = ans by rw [← HR.out, ST.out, c1, c2]; simp)
            clear c1 c2
            go_wp2_with fail
            refine (CS.out _).mono ?_; rintro e w1 ⟨rfl, j1, rfl⟩
            rw [C1.out]
            go_wp2_with fail
            refine (CB.out _).mono ?_; rintro e w2 ⟨rfl, j2, rfl⟩
            rw [C2.out]
            go_wp2_with fail
            go_roundw
            case rel => exact ⟨k + 1, _, f, b, by omega, by go_num, rfl, rfl, by omega, by omega, HE.out, by first | rfl | simp only [World.drewN_drewN]⟩
            case measure => simp [intOf]; omega
          · have C2 := Lib.hid c2
            by_cases c3 : f < 0
            · have HE := Lib.hid (show Wd.run s.data.toList l (l.drop (k + 1)) (k + 1) (k : Int) b = ans by rw [← HR.out, ST.out, c1, c2]; simp [c3])
              clear c1 c2
              go_wp2_with fail
              refine (CS.out _).mono ?_; rintro e w1 ⟨rfl, j1, rfl⟩
              rw [C1.out]
              go_wp2_with fail
              refine (CB.out _).mono ?_; rintro e w2 ⟨rfl, j2, rfl⟩
              rw [C2.out]
              go_wp2_with fail
              go_roundw
              case rel => exact ⟨k + 1, _, (k : Int), b, by omega, by go_num, rfl, rfl, by omega, by omega, HE.out, by first | rfl | simp only [World.drewN_drewN]⟩
              case measure => simp [intOf]; omega
            · have f2 : 0 ≤ f := by omega
              have hfl : f.toNat < l.length := by rw [HN.out]; omega
              obtain ⟨a', ha', g2⟩ := HV.out.get f.toNat hfl
              obtain rfl : a = a' := by injection ha'
              have CY := Lib.hid (fun W => wsame_any x (l[f.toNat]'hfl) W (by rw [← hx]; exact HZ.out _ (List.getElem_mem _)) (HZ.out _ (List.getElem_mem _)))
              have GD := Lib.hid (show l.getD f.toNat ByteArray.empty = l[f.toNat]'hfl by simp [List.getD, List.getElem?_eq_getElem hfl])
              generalize hy : l[f.toNat]'hfl = y at *
              cases c4 : Wd.same x.data.toList y.data.toList
              · have C4 := Lib.hid c4
                have HE := Lib.hid (show Wd.run s.data.toList l (l.drop (k + 1)) (k + 1) f true = ans by rw [← HR.out, ST.out, c1, c2, GD.out, c4]; simp [c3])
                clear c1 c2 c4
                go_wp2_with fail
                refine (CS.out _).mono ?_; rintro e w1 ⟨rfl, j1, rfl⟩
                rw [C1.out]
                go_wp2_with fail
                refine (CB.out _).mono ?_; rintro e w2 ⟨rfl, j2, rfl⟩
                rw [C2.out]
                go_wp2_with fail
                refine (CY.out _).mono ?_; rintro e w3 ⟨rfl, j3, rfl⟩
                rw [C4.out]
                go_wp2_with fail
                go_roundw
                case rel => exact ⟨k + 1, _, f, true, by omega, by go_num, rfl, rfl, by omega, by omega, HE.out, by first | rfl | simp only [World.drewN_drewN]⟩
                case measure => simp [intOf]; omega
              · have C4 := Lib.hid c4
                have HE := Lib.hid (show Wd.run s.data.toList l (l.drop (k + 1)) (k + 1) f b = ans by rw [← HR.out, ST.out, c1, c2, GD.out, c4]; simp [c3])
                clear c1 c2 c4
                go_wp2_with fail
                refine (CS.out _).mono ?_; rintro e w1 ⟨rfl, j1, rfl⟩
                rw [C1.out]
                go_wp2_with fail
                refine (CB.out _).mono ?_; rintro e w2 ⟨rfl, j2, rfl⟩
                rw [C2.out]
                go_wp2_with fail
                refine (CY.out _).mono ?_; rintro e w3 ⟨rfl, j3, rfl⟩
                rw [C4.out]
                go_wp2_with fail
                go_roundw
                case rel => exact ⟨k + 1, _, f, b, by omega, by go_num, rfl, rfl, by omega, by omega, HE.out, by first | rfl | simp only [World.drewN_drewN]⟩
                case measure => simp [intOf]; omega
        · have C1 := Lib.hid c1
          have HE := Lib.hid (show ans = ((k : Int), 0) by rw [← HR.out, ST.out, c1]; simp)
          clear c1
          go_wp2_with fail
          refine (CS.out _).mono ?_; rintro e w1 ⟨rfl, j1, rfl⟩
          rw [C1.out]
          go_wp2_with fail
          go_ret2
          exact ⟨by rw [HE.out]; rfl, _, by first | rfl | simp only [World.drewN_drewN]⟩
      · have HE := Lib.hid (show ans = if f < 0 ∨ b = true then (0, 3) else (f, 0) by rw [← HR.out, List.drop_of_length_le (by rw [HN.out]; omega)]; rfl)
        by_cases c3 : f < 0
        · have HE2 := Lib.hid (show ans = (0, 3) by rw [HE.out]; simp [c3])
          clear HE
          go_wp2_with fail
          go_ret2
          exact ⟨by rw [HE2.out]; rfl, _, rfl⟩
        · cases b
          · have HE2 := Lib.hid (show ans = (f, 0) by rw [HE.out]; simp [c3])
            clear HE
            go_wp2_with fail
            go_ret2
            exact ⟨by rw [HE2.out]; rfl, _, rfl⟩
          · have HE2 := Lib.hid (show ans = (0, 3) by rw [HE.out]; simp)
            clear HE
            go_wp2_with fail
            go_ret2
            exact ⟨by rw [HE2.out]; rfl, _, rfl⟩
end Go.Proofs.YtedbohfcbfegjaaGreatDoor

/- Words: what Match can answer. -/
set_option linter.unusedVariables false
set_option linter.unusedSimpArgs false
namespace Go.Proofs.YtedbohfcbfegjaaGreatDoor
open Go.RowKit Go.Sort

namespace Wd
theorem run_bd (s : List UInt8) (all : List ByteArray) (N : Nat) : ∀ (r : List ByteArray) (k : Nat) (f : Int) (sv : Bool), k + r.length ≤ N → f < N →
    0 ≤ (run s all r k f sv).1 ∧ (run s all r k f sv).1 ≤ N ∧ ((run s all r k f sv).2 = 0 ∨ (run s all r k f sv).2 = 3 ∧ (run s all r k f sv).1 = 0) := by
  intro r
  induction r with
  | nil =>
    intro k f sv h1 h2
    rw [run_nil]
    split
    · simp
    · rename_i h
      have : ¬ f < 0 := fun hh => h (.inl hh)
      simp; omega
  | cons x r ih =>
    intro k f sv h1 h2
    have h3 : k + 1 + r.length ≤ N := by simp at h1; omega
    have h4 : (k : Int) < N := by simp at h1; omega
    unfold run
    split
    · simp; omega
    · split
      · exact ih _ _ _ h3 h2
      · split
        · exact ih _ _ _ h3 h4
        · split
          · exact ih _ _ _ h3 h2
          · exact ih _ _ _ h3 h2
theorem mat_bd (s : List UInt8) (all : List ByteArray) : 0 ≤ (mat s all).1 ∧ (mat s all).1 ≤ all.length ∧ ((mat s all).2 = 0 ∨ (mat s all).2 = 3 ∧ (mat s all).1 = 0) := by
  unfold mat
  split
  · simp
  · rename_i h
    have hN : (-1 : Int) < (all.length : Int) := by omega
    exact run_bd s all all.length all 0 (-1) false (by omega) hN
def days : List ByteArray := [⟨#[83, 117, 110, 100, 97, 121]⟩, ⟨#[77, 111, 110, 100, 97, 121]⟩, ⟨#[84, 117, 101, 115, 100, 97, 121]⟩, ⟨#[87, 101, 100, 110, 101, 115, 100, 97, 121]⟩, ⟨#[84, 104, 117, 114, 115, 100, 97, 121]⟩, ⟨#[70, 114, 105, 100, 97, 121]⟩, ⟨#[83, 97, 116, 117, 114, 100, 97, 121]⟩]
/-- What a table's word means: one more than its place. -/
def up (p : Int × Int) : Int := if p.2 = 0 then p.1 + 1 else 0
/-- The first three letters of a word of a table; nothing of none. -/
def t3 (l : List ByteArray) (i : Int) : ByteArray := if 0 ≤ i ∧ i < l.length then (l.getD i.toNat ByteArray.empty).extract 0 3 else ByteArray.empty
end Wd
end Go.Proofs.YtedbohfcbfegjaaGreatDoor

/- giveup: what is panicked with; NeedAt, Need: they hand on, or give up. -/
set_option linter.unusedVariables false
set_option linter.unusedSimpArgs false
namespace Go.Proofs.YtedbohfcbfegjaaGreatDoor
open Go.RowKit

/-- What is panicked with: the line, why. -/
def gvV (line why : Int) : Value := .iface 128 (.agg #[.int .i64 line, .int .i64 why])
def gvL (line why : Int) : List PanicEntry := [{ v := gvV line why, recovered := false }]
abbrev gvP (why : Int) : List PanicEntry := gvL 0 why
theorem needat_yes (line why : Int) (w : World) : Calls Tryz.prog 77 #[.bool true, .int .i64 line, .int .i64 why] w fun e w' => e = .returned (.tuple #[]) ∧ w = w' := by
  go_enter Tryz.func77, Tryz.ntmps77
  go_wp2_with fail
  simp [bodyPost, results, Tryz.results77]
theorem gv_build (line why : Int) (W : World) : Sem.run Tryz.prog (Instr.build 128 #[(0, .agg #[.int .i64 line, .int .i64 why])]) W = .ok (.agg #[.int .i64 line, .int .i64 why]) W := by kernel_rfl
theorem needat_no (line why : Int) (w : World) : Calls Tryz.prog 77 #[.bool false, .int .i64 line, .int .i64 why] w fun e w' => e = .panicked (gvL line why) ∧ w = w' := by
  have hgb := gv_build line why
  go_enter Tryz.func77, Tryz.ntmps77
  go_wp2_with fail
  simp [bodyPost, gvL, gvV]
theorem need_yes (why : Int) (w : World) : Calls Tryz.prog 27 #[.bool true, .int .i64 why] w fun e w' => e = .returned (.tuple #[]) ∧ w = w' := by
  go_enter Tryz.func27, Tryz.ntmps27
  go_wp2_with fail
  refine (needat_yes 0 why _).mono ?_; rintro e w1 ⟨rfl, rfl⟩
  go_wp2_with fail
  simp [bodyPost, results, Tryz.results27]
theorem need_no (why : Int) (w : World) : Calls Tryz.prog 27 #[.bool false, .int .i64 why] w fun e w' => e = .panicked (gvP why) ∧ w = w' := by
  go_enter Tryz.func27, Tryz.ntmps27
  go_wp2_with fail
  refine (needat_no 0 why _).mono ?_; rintro e w1 ⟨rfl, rfl⟩
  refine (show bodyPost _ _ _ (Exit.panic (gvP why)) _ _ from ?_)
  simp [bodyPost]
end Go.Proofs.YtedbohfcbfegjaaGreatDoor

/- giveup: For. -/
set_option linter.unusedVariables false
set_option linter.unusedSimpArgs false
namespace Go.Proofs.YtedbohfcbfegjaaGreatDoor
open Go.RowKit

theorem for_yes (w : World) : Calls Tryz.prog 78 #[.int .i64 0] w fun e w' => e = .returned (.tuple #[]) ∧ w = w' := by
  go_enter Tryz.func78, Tryz.ntmps78
  go_wp2_with fail
  refine (need_yes 0 _).mono ?_; rintro e w1 ⟨rfl, rfl⟩
  go_wp2_with fail
  simp [bodyPost, results, Tryz.results78]
theorem for_no (why : Int) (w : World) (h : why ≠ 0) : Calls Tryz.prog 78 #[.int .i64 why] w fun e w' => e = .panicked (gvP why) ∧ w = w' := by
  have g : (why == 0) = false := by rw [beq_eq_false_iff_ne]; exact h
  clear h
  go_enter Tryz.func78, Tryz.ntmps78
  go_wp2_with fail
  refine (need_no why _).mono ?_; rintro e w1 ⟨rfl, rfl⟩
  refine (show bodyPost _ _ _ (Exit.panic (gvP why)) _ _ from ?_)
  simp [bodyPost]
end Go.Proofs.YtedbohfcbfegjaaGreatDoor

/- giveup: the reason that a deferred call finds. -/
set_option linter.unusedVariables false
set_option linter.unusedSimpArgs false
namespace Go.Proofs.YtedbohfcbfegjaaGreatDoor
open Go.RowKit

theorem gv_assert (line why : Int) (W : World) : Sem.run Tryz.prog (Instr.typeAssert (Value.iface 128 (Value.agg #[Value.int IntKind.i64 line, Value.int IntKind.i64 why])) 20 128 true) W = .ok (.tuple #[.agg #[.int .i64 line, .int .i64 why], .bool true]) W := by
  kernel_rfl
end Go.Proofs.YtedbohfcbfegjaaGreatDoor

/- giveup: Must. -/
set_option linter.unusedVariables false
set_option linter.unusedSimpArgs false
namespace Go.Proofs.YtedbohfcbfegjaaGreatDoor
open Go.RowKit

theorem must_yes (v : Int) (w : World) : Calls Tryz.prog 87 #[.int .i64 v, .int .i64 0] w fun e w' => e = .returned (.int .i64 v) ∧ w = w' := by
  go_enter Tryz.func87, Tryz.ntmps87
  go_wp2_with fail
  refine (for_yes _).mono ?_; rintro e w1 ⟨rfl, rfl⟩
  go_wp2_with fail
  go_ret
  exact ⟨rfl, rfl⟩
theorem must_no (v why : Int) (w : World) (h : why ≠ 0) : Calls Tryz.prog 87 #[.int .i64 v, .int .i64 why] w fun e w' => e = .panicked (gvP why) ∧ w = w' := by
  go_enter Tryz.func87, Tryz.ntmps87
  go_wp2_with fail
  refine (for_no why _ h).mono ?_; rintro e w1 ⟨rfl, rfl⟩
  refine (show bodyPost _ _ _ (Exit.panic (gvP why)) _ _ from ?_)
  simp [bodyPost]
theorem muti_yes (v : Int) (w : World) : Calls Tryz.prog 79 #[.int .i64 v, .int .i64 0] w fun e w' => e = .returned (.int .i64 v) ∧ w = w' := by
  go_enter Tryz.func79, Tryz.ntmps79
  go_wp2_with fail
  refine (for_yes _).mono ?_; rintro e w1 ⟨rfl, rfl⟩
  go_wp2_with fail
  go_ret
  exact ⟨rfl, rfl⟩
theorem muti_no (v why : Int) (w : World) (h : why ≠ 0) : Calls Tryz.prog 79 #[.int .i64 v, .int .i64 why] w fun e w' => e = .panicked (gvP why) ∧ w = w' := by
  go_enter Tryz.func79, Tryz.ntmps79
  go_wp2_with fail
  refine (for_no why _ h).mono ?_; rintro e w1 ⟨rfl, rfl⟩
  refine (show bodyPost _ _ _ (Exit.panic (gvP why)) _ _ from ?_)
  simp [bodyPost]
end Go.Proofs.YtedbohfcbfegjaaGreatDoor
