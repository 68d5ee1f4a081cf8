/- Joined: RdN, RsE, RsF, RsG, RefD. -/
import Derived.Test.YtlelpeocbgjmhaaGreatDoorCa03
import Derived.Test.YtlelpeocbgjmhaaGreatDoorCa25
import Derived.Test.YtlelpeocbgjmhaaGreatDoorCa19
import Derived.Test.YtlelpeocbgjmhaaGreatDoorCa24
import Derived.Test.YtlelpeocbgjmhaaGreatDoorCa05
import Derived.BigRegion
import Derived.Test.YtlelpeocbgjmhaaGreatDoorCa22
/- Stamps that are read, in plain lists of bytes: what stands behind the year; there and back. -/
set_option linter.unusedVariables false
set_option linter.unusedSimpArgs false
namespace Go.Proofs.YtlelpeocbgjmhaaGreatDoor.Rd
open Go Go.Lib

theorem two_of {n : Int} (h0 : 0 ≤ n) (h1 : n < 100) : ∃ p q, Tx.dg 2 n = [p, q] ∧ Num.dig p = true ∧ Num.dig q = true ∧ (Num.val 0 [p, q] : Int) = n := by
  have hl := Tx.dg_two h0 h1
  have hd := Tx.dg_dig 2 n h0
  have hv := Tx.dg_val 2 n h0
  match hg : Tx.dg 2 n, hl with
  | [p, q], _ =>
    rw [hg] at hd hv
    simp only [List.all_cons, List.all_nil, Bool.and_true, Bool.and_eq_true] at hd
    exact ⟨p, q, rfl, hd.1, hd.2, hv⟩
theorem beh_ok {m d h i s : Int} (m0 : 0 ≤ m) (m1 : m < 100) (d0 : 0 ≤ d) (d1 : d < 100) (h0 : 0 ≤ h) (h1 : h < 100) (i0 : 0 ≤ i) (i1 : i < 100) (s0 : 0 ≤ s) (s1 : s < 100) :
    bOk (Tx.beh m d h i s) = true ∧ pV (Tx.beh m d h i s) 0 = m ∧ pV (Tx.beh m d h i s) 1 = d ∧ pV (Tx.beh m d h i s) 2 = h ∧ pV (Tx.beh m d h i s) 3 = i ∧ pV (Tx.beh m d h i s) 4 = s := by
  obtain ⟨a0, a1, ea, ga0, ga1, va⟩ := two_of m0 m1
  obtain ⟨b0, b1, eb, gb0, gb1, vb⟩ := two_of d0 d1
  obtain ⟨c0, c1, ec, gc0, gc1, vc⟩ := two_of h0 h1
  obtain ⟨e0, e1, ee, ge0, ge1, ve⟩ := two_of i0 i1
  obtain ⟨f0, f1, ef, gf0, gf1, vf⟩ := two_of s0 s1
  have hb : Tx.beh m d h i s = [45, a0, a1, 45, b0, b1, 84, c0, c1, 58, e0, e1, 58, f0, f1] := by unfold Tx.beh; rw [ea, eb, ec, ee, ef]; rfl
  rw [hb]
  refine ⟨?_, va, vb, vc, ve, vf⟩
  simp [bOk, pOk, sg, ga0, ga1, gb0, gb1, gc0, gc1, ge0, ge1, gf0, gf1]
theorem pOk_at {l : List UInt8} {k : Nat} (h : pOk l k = true) : l.getD (3 * k) 0 = sg.getD k 0 ∧ ((l.drop (3 * k + 1)).take 2).all Num.dig = true := by
  unfold pOk at h
  rw [Bool.and_eq_true, decide_eq_true_eq] at h
  exact h
theorem beh_back {l : List UInt8} (hl : l.length = 15) (h : bOk l = true) : Tx.beh (pV l 0) (pV l 1) (pV l 2) (pV l 3) (pV l 4) = l := by
  unfold bOk at h
  simp only [Bool.and_eq_true] at h
  obtain ⟨h0, h1, h2, h3, h4⟩ := h
  match l, hl with
  | [x0, x1, x2, x3, x4, x5, x6, x7, x8, x9, x10, x11, x12, x13, x14], _ =>
    obtain ⟨s0, g0⟩ := pOk_at h0
    obtain ⟨s1, g1⟩ := pOk_at h1
    obtain ⟨s2, g2⟩ := pOk_at h2
    obtain ⟨s3, g3⟩ := pOk_at h3
    obtain ⟨s4, g4⟩ := pOk_at h4
    have e0 : Tx.dg 2 (pV [x0, x1, x2, x3, x4, x5, x6, x7, x8, x9, x10, x11, x12, x13, x14] 0) = [x1, x2] := Tx.dg_back 1 [x1, x2] rfl g0
    have e1 : Tx.dg 2 (pV [x0, x1, x2, x3, x4, x5, x6, x7, x8, x9, x10, x11, x12, x13, x14] 1) = [x4, x5] := Tx.dg_back 1 [x4, x5] rfl g1
    have e2 : Tx.dg 2 (pV [x0, x1, x2, x3, x4, x5, x6, x7, x8, x9, x10, x11, x12, x13, x14] 2) = [x7, x8] := Tx.dg_back 1 [x7, x8] rfl g2
    have e3 : Tx.dg 2 (pV [x0, x1, x2, x3, x4, x5, x6, x7, x8, x9, x10, x11, x12, x13, x14] 3) = [x10, x11] := Tx.dg_back 1 [x10, x11] rfl g3
    have e4 : Tx.dg 2 (pV [x0, x1, x2, x3, x4, x5, x6, x7, x8, x9, x10, x11, x12, x13, x14] 4) = [x13, x14] := Tx.dg_back 1 [x13, x14] rfl g4
    have t0 : x0 = 45 := s0
    have t1 : x3 = 45 := s1
    have t2 : x6 = 84 := s2
    have t3 : x9 = 58 := s3
    have t4 : x12 = 58 := s4
    unfold Tx.beh
    rw [e0, e1, e2, e3, e4, t0, t1, t2, t3, t4]
    rfl
/-- What a text means, as a stamp: the five numbers behind the year, the year. -/
def ok (t : List UInt8) : Bool := form t && (yl (hd t) && St.rB (yv (hd t)) (pV (tl t) 0) (pV (tl t) 1) (pV (tl t) 2) (pV (tl t) 3) (pV (tl t) 4))
theorem tl_len {t : List UInt8} (h : 15 ≤ t.length) : (tl t).length = 15 := by unfold tl; rw [List.length_drop]; omega
theorem hd_tl (t : List UInt8) : hd t ++ tl t = t := List.take_append_drop _ _
theorem txt_back {t : List UInt8} (h : form t = true) : Tx.txt (yv (hd t)) (pV (tl t) 0) (pV (tl t) 1) (pV (tl t) 2) (pV (tl t) 3) (pV (tl t) 4) = t := by
  unfold form at h
  simp only [Bool.and_eq_true, decide_eq_true_eq] at h
  obtain ⟨hl, hy, hb⟩ := h
  unfold Tx.txt
  rw [yr_back hy, beh_back (tl_len hl) hb, hd_tl]
theorem txt_read {y m d h i s : Int} (hr : St.rB y m d h i s = true) (y0 : -100000 < y) (y1 : y < 100000) (m0 : 0 ≤ m) (m1 : m < 100) (d0 : 0 ≤ d) (d1 : d < 100) :
    ok (Tx.txt y m d h i s) = true ∧ yv (hd (Tx.txt y m d h i s)) = y ∧ pV (tl (Tx.txt y m d h i s)) 0 = m ∧ pV (tl (Tx.txt y m d h i s)) 1 = d ∧ pV (tl (Tx.txt y m d h i s)) 2 = h ∧ pV (tl (Tx.txt y m d h i s)) 3 = i ∧ pV (tl (Tx.txt y m d h i s)) 4 = s := by
  obtain ⟨-, h0, h1, i0, i1, s0, s1⟩ := St.rB_true.1 hr
  obtain ⟨b, v0, v1, v2, v3, v4⟩ := beh_ok m0 m1 d0 d1 h0 (show h < 100 by omega) i0 (show i < 100 by omega) s0 (show s < 100 by omega)
  have hl := Tx.beh_len m0 m1 d0 d1 h0 (show h < 100 by omega) i0 (show i < 100 by omega) s0 (show s < 100 by omega)
  have e1 : tl (Tx.txt y m d h i s) = Tx.beh m d h i s := Tx.txt_drop y m d h i s hl
  have e2 : hd (Tx.txt y m d h i s) = Tx.yr y := by
    unfold hd Tx.txt
    rw [List.length_append, hl, show (Tx.yr y).length + 15 - 15 = (Tx.yr y).length by omega, List.take_left]
  obtain ⟨iy, yy, ll⟩ := isY_yr y0 y1
  unfold ok form
  rw [e1, e2, yy, v0, v1, v2, v3, v4, iy, b, ll, hr]
  refine ⟨?_, rfl, rfl, rfl, rfl, rfl, rfl⟩
  have : 15 ≤ (Tx.txt y m d h i s).length := by unfold Tx.txt; rw [List.length_append, hl]; omega
  simp [this]
end Go.Proofs.YtlelpeocbgjmhaaGreatDoor.Rd

/- The contracts of the reference's years, at any text, and of its stamps that are read. -/
set_option linter.unusedVariables false
set_option linter.unusedSimpArgs false
namespace Go.Proofs.YtlelpeocbgjmhaaGreatDoor
open Go.RowKit

namespace Rd
/-- A year that is read, and why not. -/
def y4 (l : List UInt8) : Int × Int := if isY l then (if yl l then (yv l, 0) else (0, 1)) else (0, 4)
theorem y4_no {l : List UInt8} (h : isY l = true → False) : y4 l = (0, 4) := by
  unfold y4
  cases hh : isY l
  · rfl
  · exact absurd hh (by simpa using h)
theorem mz5_no {s : ByteArray} (h : s.data.toList ≠ [45, 48, 48, 48, 48]) : (s.toList == [45, 48, 48, 48, 48]) = false := by
  rw [ByteArray.toList_eq]
  simpa using h
theorem ext1y (s : ByteArray) (r : List UInt8) (h : s.data.toList = 45 :: r) : (s.extract 1 s.size).data.toList = r := by
  rw [ByteArray.data_extract, Array.toList_extract, h]
  have hl := Num.rn_len s
  rw [h, List.length_cons] at hl
  show ((45 :: r).drop 1).take (s.size - 1) = r
  rw [List.drop_one, List.tail_cons, List.take_of_length_le (by omega)]
end Rd
end Go.Proofs.YtlelpeocbgjmhaaGreatDoor

/- The contract of the reference's stamps that are read: not of a form, or the parts behind the year. -/
set_option linter.unusedVariables false
set_option linter.unusedSimpArgs false
namespace Go.Proofs.YtlelpeocbgjmhaaGreatDoor
open Go.RowKit

theorem rf_ix (a : ByteArray) (k : Nat) (h : k < a.size) (w : World) : Sem.run Tryz.prog (Instr.index 9 (.string a) (.int .i64 (k : Int))) w = .ok (.int .u8 a[k].toNat) w := by
  rw [run_index_string w _ _ _ _ Tryz.underlying9, dif_pos ⟨by omega, by omega⟩]
  simp
theorem rf_ab (s : ByteArray) (a b : Nat) (h : a ≤ b) (hb : b ≤ s.size) (w : World) : Sem.run Tryz.prog (Instr.slice 9 (.string s) (some (.int .i64 (a : Int))) (some (.int .i64 (b : Int))) none) w = .ok (.string (s.extract a b)) w := by
  rw [run_slice_string w 9 s .i64 .i64 (a : Int) (b : Int) Tryz.underlying9 (by omega) (by omega) (by omega)]
  simp
theorem rf_list (s : ByteArray) (a b : Nat) : (s.extract a b).data.toList = (s.data.toList.take b).drop a := by
  rw [ByteArray.data_extract, Array.toList_extract]
  simp [List.extract_eq_take_drop, List.drop_take]
theorem val_two (x y : UInt8) (hx : Num.dig x = true) (hy : Num.dig y = true) : (Num.val 0 [x, y] : Int) = ((x.toNat : Int) - 48) * 10 + ((y.toNat : Int) - 48) := by
  have h1 : 48 ≤ x.toNat ∧ x.toNat ≤ 57 := by unfold Num.dig at hx; exact of_decide_eq_true hx
  have h2 : 48 ≤ y.toNat ∧ y.toNat ≤ 57 := by unfold Num.dig at hy; exact of_decide_eq_true hy
  rw [Num.val_cons, Num.val_cons, Num.stp_eq, Num.stp_eq]
  show (((0 * 10 + (x.toNat - 48)) * 10 + (y.toNat - 48) : Nat) : Int) = _
  omega
/-- The part of a text at a place of three bytes, as the reference cuts it. -/
theorem part4 (s : ByteArray) (hs : 15 ≤ s.size) (k : Nat) (hk : k < 5) : ∃ (Q R : ByteArray) (c g c0 c1 : Int), Q.size = 2 ∧ R.size ≤ s.size ∧ Rd.pOk (Rd.tl s.data.toList) k = ((c == g) && Q.data.toList.all Num.dig) ∧ (Q.data.toList.all Num.dig = true → 48 ≤ c0 ∧ c0 ≤ 57 ∧ 48 ≤ c1 ∧ c1 ≤ 57 ∧ Rd.pV (Rd.tl s.data.toList) k = (c0 - 48) * 10 + (c1 - 48)) ∧
    (∀ W, Sem.run Tryz.prog (Instr.index 9 (.string s) (.int .i64 ((s.size : Int) - 15 + 3 * (k : Int)))) W = .ok (.int .u8 c) W) ∧
    (∀ W, Sem.run Tryz.prog (Instr.index 9 (.string ⟨#[45, 45, 84, 58, 58]⟩) (.int .i64 (k : Int))) W = .ok (.int .u8 g) W) ∧
    (∀ W, Sem.run Tryz.prog (Instr.slice 9 (.string s) (some (.int .i64 ((s.size : Int) - 15 + 3 * (k : Int) + 1))) (some (.int .i64 ((s.size : Int) - 15 + 3 * (k : Int) + 3))) none) W = .ok (.string Q) W) ∧
    (∀ W, Sem.run Tryz.prog (Instr.slice 9 (.string s) (some (.int .i64 ((s.size : Int) - 15 + 3 * (k : Int) + 1))) none none) W = .ok (.string R) W) ∧
    (∀ W, Sem.run Tryz.prog (Instr.index 9 (.string R) (.int .i64 0)) W = .ok (.int .u8 c0) W) ∧
    (∀ W, Sem.run Tryz.prog (Instr.index 9 (.string R) (.int .i64 1)) W = .ok (.int .u8 c1) W) := by
  obtain ⟨b, hb⟩ : ∃ b, b = s.size - 15 + 3 * k := ⟨_, rfl⟩
  have hbl : b + 3 ≤ s.size := by omega
  have e : s.data.toList.length = s.size := Num.rn_len s
  have e0 : (s.size : Int) - 15 + 3 * (k : Int) = (b : Int) := by omega
  have e1 : (b : Int) + 1 = ((b + 1 : Nat) : Int) := by omega
  have e3 : (b : Int) + 3 = ((b + 3 : Nat) : Int) := by omega
  have hg : k < (⟨#[45, 45, 84, 58, 58]⟩ : ByteArray).size := hk
  have zQ : (s.extract (b + 1) (b + 3)).size = 2 := by rw [ByteArray.size_extract]; omega
  have zR : (s.extract (b + 1) s.size).size = s.size - (b + 1) := by rw [ByteArray.size_extract]; omega
  have g0 : (s.extract (b + 1) s.size)[0]'(by omega) = s[b + 1] := by simp [ByteArray.getElem_extract]
  have g1 : (s.extract (b + 1) s.size)[1]'(by omega) = s[b + 2] := by simp [ByteArray.getElem_extract]
  have lQ : (s.extract (b + 1) (b + 3)).data.toList = [s[b + 1], s[b + 2]] := by
    rw [rf_list, List.drop_take]
    have d1 := Num.rn_drop s (b + 1) (by omega)
    have d2 := Num.rn_drop s (b + 2) (by omega)
    rw [d1, d2, show b + 3 - (b + 1) = 2 by omega]
    rfl
  have tlk : (Rd.tl s.data.toList).drop (3 * k + 1) = s[b + 1] :: s[b + 2] :: s.data.toList.drop (b + 3) := by
    unfold Rd.tl
    rw [List.drop_drop, e, show s.size - 15 + (3 * k + 1) = b + 1 by omega, Num.rn_drop s (b + 1) (by omega), Num.rn_drop s (b + 2) (by omega)]
  have tl0 : (Rd.tl s.data.toList).getD (3 * k) 0 = s[b] := by
    unfold Rd.tl
    rw [List.getD_eq_getElem?_getD, List.getElem?_drop, e, show s.size - 15 + 3 * k = b by omega, List.getElem?_eq_getElem (by omega)]
    rfl
  rw [e0, e1, e3]
  refine ⟨_, _, (s[b].toNat : Int), ((⟨#[45, 45, 84, 58, 58]⟩ : ByteArray)[k].toNat : Int), (s[b + 1].toNat : Int), (s[b + 2].toNat : Int), zQ, by omega, ?_, ?_, rf_ix s b (by omega), rf_ix _ k hg, rf_ab s (b + 1) (b + 3) (by omega) (by omega), rn_cut s (b + 1) (by omega), fun W => ?_, fun W => ?_⟩
  · unfold Rd.pOk
    have e2 : Rd.sg.getD k 0 = (⟨#[45, 45, 84, 58, 58]⟩ : ByteArray)[k] := by
      have h1 : (⟨#[45, 45, 84, 58, 58]⟩ : ByteArray)[k] = (⟨#[45, 45, 84, 58, 58]⟩ : ByteArray).data.toList[k]'hk := rfl
      rw [h1, List.getD_eq_getElem?_getD]
      unfold Rd.sg
      rw [List.getElem?_eq_getElem hk]; rfl
    have E1 : ∀ x y : UInt8, decide (x = y) = ((x.toNat : Int) == (y.toNat : Int)) := by
      intro x y
      by_cases h : x = y
      · subst h; simp
      · rw [decide_eq_false h]
        symm
        rw [beq_eq_false_iff_ne]
        intro h2
        exact h (UInt8.toNat_inj.1 (by omega))
    rw [tl0, e2, E1, tlk, lQ]
    rfl
  · intro h
    rw [lQ] at h
    simp only [List.all_cons, List.all_nil, Bool.and_true, Bool.and_eq_true] at h
    have h1 : 48 ≤ s[b + 1].toNat ∧ s[b + 1].toNat ≤ 57 := by have := h.1; unfold Num.dig at this; exact of_decide_eq_true this
    have h2 : 48 ≤ s[b + 2].toNat ∧ s[b + 2].toNat ≤ 57 := by have := h.2; unfold Num.dig at this; exact of_decide_eq_true this
    refine ⟨by omega, by omega, by omega, by omega, ?_⟩
    unfold Rd.pV
    rw [tlk]
    exact val_two _ _ h.1 h.2
  · have := rf_ix (s.extract (b + 1) s.size) 0 (by omega) W
    rw [g0] at this
    exact this
  · have := rf_ix (s.extract (b + 1) s.size) 1 (by omega) W
    rw [g1] at this
    exact this
/-- The parts behind the year that have been read. -/
def pvs (s : ByteArray) (k : Nat) : List Value := (List.range k).map fun j => .int .i64 (Rd.pV (Rd.tl s.data.toList) j)
theorem pvs_succ (s : ByteArray) (k : Nat) : pvs s (k + 1) = pvs s k ++ [.int .i64 (Rd.pV (Rd.tl s.data.toList) k)] := by unfold pvs; rw [List.range_succ, List.map_append]; rfl
theorem pvs_len (s : ByteArray) (k : Nat) : (pvs s k).length = k := by unfold pvs; simp
theorem info_int : (Tryz.prog.info? 3).map (fun i => (i.zero, i.size, i.bytes)) = some (some (.int .i64 0), 1, 8) := by kernel_rfl
theorem rf_parts {i0 : Option TypeInfo} {z : Value} {n b : Nat} (h : i0.map (fun i => (i.zero, i.size, i.bytes)) = some (some z, n, b)) : ∃ i, i0 = some i ∧ i.zero = some z ∧ i.size = n ∧ i.bytes = b := by
  cases i0 with
  | none => cases h
  | some i => simp at h; exact ⟨i, rfl, h.1, h.2.1, h.2.2⟩
end Go.Proofs.YtlelpeocbgjmhaaGreatDoor

/- The contract of the reference's stamps that are read. -/
set_option linter.unusedVariables false
set_option linter.unusedSimpArgs false
namespace Go.Proofs.YtlelpeocbgjmhaaGreatDoor
open Go.RowKit

theorem pok_all {l : List UInt8} : Rd.bOk l = true ↔ ∀ j, j < 5 → Rd.pOk l j = true := by
  unfold Rd.bOk
  simp only [Bool.and_eq_true]
  constructor
  · rintro ⟨a, b, c, d, e⟩ j hj
    obtain rfl | rfl | rfl | rfl | rfl : j = 0 ∨ j = 1 ∨ j = 2 ∨ j = 3 ∨ j = 4 := by omega
    all_goals assumption
  · intro h
    exact ⟨h 0 (by omega), h 1 (by omega), h 2 (by omega), h 3 (by omega), h 4 (by omega)⟩
end Go.Proofs.YtlelpeocbgjmhaaGreatDoor

/- The contract of the reference's Date: the date that has the number. -/
set_option linter.unusedVariables false
set_option linter.unusedSimpArgs false
namespace Go.Proofs.YtlelpeocbgjmhaaGreatDoor
open Go.RowKit

set_option maxHeartbeats 400000 in
theorem rdate_no (n : Int) (w : World) (h : n < -15329228 ∨ 13890537 < n) :
    Calls Tryz.prog 66 #[.int .i64 n] w fun e w' => e = .returned (.tuple #[.agg #[.int .i64 0, .int .i64 0, .int .i64 0], .int .i64 1]) ∧ Below w.heap.size w w' := by
  rcases h with h | h
  · go_enter Tryz.func66, Tryz.ntmps66
    go_wp2_with fail
    refine (ahead_any (-40000) _ (by omega) (by omega)).mono ?_; rintro e w1 ⟨rfl, k1, rfl⟩
    rw [show Cal.ahead (-40000) = -15329228 by decide]
    go_wp2_with fail
    refine bodyPost_ret (v := .tuple #[.agg #[.int .i64 0, .int .i64 0, .int .i64 0], .int .i64 1]) (by simp [results, Tryz.results66, go_sem]) rfl ⟨rfl, ?_⟩
    repeat (first | exact Below.refl _ _ | refine _root_.Go.below_drewN ?_ _ | refine Below.setCell ?_ (by simp) _ | refine Below.alloc ?_ (by simp) _)
  · have h' : ¬ n < -15329228 := by omega
    go_enter Tryz.func66, Tryz.ntmps66
    go_wp2_with fail
    refine (ahead_any (-40000) _ (by omega) (by omega)).mono ?_; rintro e w1 ⟨rfl, k1, rfl⟩
    rw [show Cal.ahead (-40000) = -15329228 by decide]
    go_wp2_with fail
    refine (ahead_any 40001 _ (by omega) (by omega)).mono ?_; rintro e w1 ⟨rfl, k1, rfl⟩
    rw [show Cal.ahead 40001 = 13890538 by decide]
    go_wp2_with fail
    refine bodyPost_ret (v := .tuple #[.agg #[.int .i64 0, .int .i64 0, .int .i64 0], .int .i64 1]) (by simp [results, Tryz.results66, go_sem]) rfl ⟨rfl, ?_⟩
    repeat (first | exact Below.refl _ _ | refine _root_.Go.below_drewN ?_ _ | refine Below.setCell ?_ (by simp) _ | refine Below.alloc ?_ (by simp) _)

/-- The result's own block, empty till the end. -/
structure Own (w W : World) (b : Nat) : Prop where
  one : One w W b (.int .i64 0) (.int .i64 0) (.int .i64 0)
  old : w.heap.size ≤ b
  f0 : W.frozen? ⟨b, 0, none⟩ = false
  f1 : W.frozen? ⟨b, 1, none⟩ = false
  f2 : W.frozen? ⟨b, 2, none⟩ = false
theorem Own.keep {w W W' : World} {b : Nat} (h : Own w W b) (k : Below W.heap.size W W') : Own w W' b := by
  obtain ⟨h1, ho, f0, f1, f2⟩ := h
  have hb := h1.hb
  exact ⟨h1.keep k, ho, by rw [k.frozen (p := ⟨b, _, none⟩) hb]; exact f0, by rw [k.frozen (p := ⟨b, _, none⟩) hb]; exact f1, by rw [k.frozen (p := ⟨b, _, none⟩) hb]; exact f2⟩
theorem Own.new {w : World} {t : TypeId} : Own w (w.alloc (.cells #[.int .i64 0, .int .i64 0, .int .i64 0] t)) w.heap.size :=
  ⟨One.new (Below.refl _ _), Nat.le_refl _, by simp [go_sem], by simp [go_sem], by simp [go_sem]⟩

theorem ahead_le (y y' : Int) (h : y ≤ y') : Cal.ahead y ≤ Cal.ahead y' := by unfold Cal.ahead; omega
theorem ahead_range {y n : Int} (h0 : -15329228 ≤ n) (h : n < Cal.ahead y) : -40000 < y := by
  by_cases hy : -40000 < y
  · exact hy
  · have := ahead_le y (-40000) (by omega)
    have : Cal.ahead (-40000) = -15329228 := by decide
    omega
theorem ahead_range' {y n : Int} (h1 : n ≤ 13890537) (h : Cal.ahead y ≤ n) : y ≤ 40000 := by
  by_cases hy : y ≤ 40000
  · exact hy
  · have := ahead_le 40001 y (by omega)
    have : Cal.ahead 40001 = 13890538 := by decide
    omega
theorem ahead_bd {y : Int} (h0 : -50000 ≤ y) (h1 : y ≤ 50000) : -20000000 ≤ Cal.ahead y ∧ Cal.ahead y ≤ 20000000 := by unfold Cal.ahead; omega

set_option maxHeartbeats 2000000 in
set_option maxRecDepth 100000 in
theorem rdate_yes (n : Int) (w : World) (h0 : -15329228 ≤ n) (h1 : n ≤ 13890537) :
    Calls Tryz.prog 66 #[.int .i64 n] w fun e w' => e = .returned (.tuple #[.agg #[.int .i64 (Cal.dY n), .int .i64 (Cal.dM n), .int .i64 (Cal.dD n)], .int .i64 0]) ∧ Below w.heap.size w w' := by
  have O0 := Own.new (w := w) (t := 70)
  have g0 : -41884 ≤ n / 366 := by omega
  have g1 : n / 366 ≤ 37953 := by omega
  go_enter Tryz.func66, Tryz.ntmps66
  go_wp2_with fail
  refine (ahead_any (-40000) _ (by omega) (by omega)).mono ?_; rintro e w1 ⟨rfl, k1, rfl⟩
  rw [show Cal.ahead (-40000) = -15329228 by decide]
  go_wp2_with fail
  refine (ahead_any 40001 _ (by omega) (by omega)).mono ?_; rintro e w2 ⟨rfl, k2, rfl⟩
  rw [show Cal.ahead 40001 = 13890538 by decide]
  go_wp2_with fail
  refine (floor_pos _ _ _ (by omega) (by omega) (by omega) (by omega)).mono ?_; rintro e w3 ⟨rfl, k3, rfl⟩
  go_wp2_with fail
  have OW : Own w ((w.alloc (.cells #[.int .i64 0, .int .i64 0, .int .i64 0] 70)).drewN (k1 + k2 + k3)) w.heap.size := O0.keep (below_draw _ _)
  clear O0
  generalize (w.alloc (.cells #[.int .i64 0, .int .i64 0, .int .i64 0] 70)).drewN (k1 + k2 + k3) = W0 at OW ⊢
  go_loopw [4] (fun v4 wr => ∃ y : Int, -40000 ≤ y ∧ y ≤ 50000 ∧ v4 = .int .i64 y ∧ Own w wr w.heap.size) (fun v4 _ => (intOf v4 + 50000).toNat)
  case atStart => exact ⟨1970 + n / 366, by omega, by omega, rfl, OW⟩
  case round =>
    obtain ⟨y, hy0, hy1, rfl, O⟩ := hrel
    clear OW
    obtain ⟨ab0, ab1⟩ := ahead_bd (y := y) (by omega) (by omega)
    by_cases hlt : n < Cal.ahead y
    · have hr := ahead_range h0 hlt
      go_wp2_with (go_at_call 90; refine (ahead_any _ _ (by omega) (by omega)).mono ?_; rintro e w' ⟨rfl, j, rfl⟩)
      go_roundw
      case rel => exact ⟨y - 1, by omega, by omega, rfl, O.keep (below_draw _ _)⟩
      case measure => simp [intOf]; omega
    · go_wp2_with fail
      refine (ahead_any _ _ (by omega) (by omega)).mono ?_; rintro e w' ⟨rfl, j, rfl⟩
      have O := O.keep (below_draw (B := wr.heap.size) wr j)
      generalize wr.drewN j = W1 at O ⊢
      go_wp2_with fail
      go_loopw [4] (fun v4 wr => ∃ y : Int, -40000 ≤ y ∧ y ≤ 40000 ∧ Cal.ahead y ≤ n ∧ v4 = .int .i64 y ∧ Own w wr w.heap.size) (fun v4 _ => (50000 - intOf v4).toNat)
      case atStart => exact ⟨y, by omega, ahead_range' h1 (by omega), by omega, rfl, O⟩
      case round =>
        clear hy0 hy1 ab0 ab1 hlt O
        rename_i ww
        obtain ⟨z, hy0, hy1, hle, rfl, O⟩ := hrel
        obtain ⟨ab0, ab1⟩ := ahead_bd (y := z + 1) (by omega) (by omega)
        by_cases hlt : Cal.ahead (z + 1) ≤ n
        · have hr := ahead_range' h1 hlt
          go_wp2_with (go_at_call 90; refine (ahead_any _ _ (by omega) (by omega)).mono ?_; rintro e w' ⟨rfl, j, rfl⟩)
          go_roundw
          case rel => exact ⟨z + 1, by omega, by omega, hlt, rfl, O.keep (below_draw _ _)⟩
          case measure => simp [intOf]; omega
        · have hgt : n < Cal.ahead z + 365 + Cal.lp z := by rw [← Cal.ahead_succ]; omega
          obtain ⟨aa0, aa1⟩ := ahead_bd (y := z) (by omega) (by omega)
          go_wp2_with fail
          refine (ahead_any (z + 1) _ (by omega) (by omega)).mono ?_; rintro e w' ⟨rfl, j, rfl⟩
          have O := O.keep (below_draw (B := wr.heap.size) wr j)
          generalize wr.drewN j = W2 at O ⊢
          go_wp2_with fail
          refine (ahead_any z _ (by omega) (by omega)).mono ?_; rintro e w' ⟨rfl, j2, rfl⟩
          have O := O.keep (below_draw (B := W2.heap.size) W2 j2)
          generalize W2.drewN j2 = W3 at O ⊢
          clear ab0 ab1 hlt
          go_wp2_with fail
          go_loopw [5, 6] (fun v5 v6 wr => ∃ m : Int, 1 ≤ m ∧ m ≤ 12 ∧ v6 = .int .i64 m ∧ v5 = .int .i64 (n - Cal.ahead z - Cal.cum z m) ∧ 0 ≤ n - Cal.ahead z - Cal.cum z m ∧ Own w wr w.heap.size) (fun _ v6 _ => (12 - intOf v6).toNat)
          case atStart => exact ⟨1, by omega, by omega, rfl, by rw [show Cal.cum z 1 = 0 from rfl]; simp, by rw [show Cal.cum z 1 = 0 from rfl]; omega, O⟩
          case round =>
            clear O
            obtain ⟨m, hm0, hm1, rfl, rfl, hl0, O⟩ := hrel
            obtain ⟨c0, c1⟩ := Cal.cum_bd z m hm0 hm1
            obtain ⟨lp0, lp1⟩ := Cal.lp_01 z
            obtain ⟨l0, l1⟩ := Cal.len_bd z m
            have CS := Lib.hid (Cal.cum_succ z m hm0 hm1)
            by_cases hlt : Cal.len z m ≤ n - Cal.ahead z - Cal.cum z m
            · have hm2 : m < 12 := by
                by_cases h12 : m < 12
                · exact h12
                · exfalso
                  have e12 : m = 12 := by omega
                  rw [e12] at hlt
                  have : Cal.cum z 12 = 334 + Cal.lp z := rfl
                  have : Cal.len z 12 = 31 := rfl
                  omega
              go_wp2_with fail
              refine (rlen_any _ _ _).mono ?_; rintro e w4 ⟨rfl, b4⟩
              have O4 := O.keep b4
              clear O b4
              go_wp2_with fail
              refine (rlen_any _ _ _).mono ?_; rintro e w5 ⟨rfl, b5⟩
              have O5 := O4.keep b5
              clear O4 b5
              go_wp2_with fail
              go_roundw
              case rel => exact ⟨m + 1, by omega, by omega, rfl, by rw [CS.out]; go_num, by rw [CS.out]; omega, O5⟩
              case measure => simp [intOf]; omega
            · have hR : Cal.Right z m (n - Cal.ahead z - Cal.cum z m + 1) := ⟨hy0, hy1, by omega, by omega⟩
              have hN : Cal.num z m (n - Cal.ahead z - Cal.cum z m + 1) = n := by unfold Cal.num; omega
              have hE := Cal.date_of_num hR
              rw [hN] at hE
              have HE := Lib.hid hE
              clear hE hN hR
              go_wp2_with fail
              refine (rlen_any _ _ _).mono ?_; rintro e w4 ⟨rfl, b4⟩
              have O4 := O.keep b4
              clear O b4
              have f0 := O4.f0; have f1 := O4.f1; have f2 := O4.f2; have k0 := O4.one.k0; have k1 := O4.one.k1; have k2 := O4.one.k2
              go_wp2_with fail
              refine bodyPost_ret (v := .tuple #[.agg #[.int .i64 z, .int .i64 m, .int .i64 (n - Cal.ahead z - Cal.cum z m + 1)], .int .i64 0]) (by simp [results, Tryz.results66, go_sem, k0, k1, k2]) rfl ⟨?_, ?_⟩
              · obtain ⟨e1, e2, e3⟩ := HE.out
                rw [e1, e2, e3]
              · have B := O4.one.bel
                repeat (first | exact B | refine Below.setCell ?_ (by simp) _)
end Go.Proofs.YtlelpeocbgjmhaaGreatDoor
