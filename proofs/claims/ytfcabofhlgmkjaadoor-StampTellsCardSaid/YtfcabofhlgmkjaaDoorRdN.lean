/- Stamps that are read, in plain lists of bytes: what stands behind the year; there and back. -/
import Derived.Test.YtfcabofhlgmkjaaDoorRdM
import Derived.Test.YtfcabofhlgmkjaaDoorStX
set_option linter.unusedVariables false
set_option linter.unusedSimpArgs false
namespace Go.Proofs.YtfcabofhlgmkjaaDoor.Rd
open Go Go.Lib

theorem two_of {n : Int} (h0 : 0 ≤ n) (h1 : n < 100) : ∃ p q, Tx.dg 2 n = [p, q] ∧ Num.dig p = true ∧ Num.dig q = true ∧ (Num.val 0 [p, q] : Int) = n := by
  have hl := Tx.dg_two h0 h1
  have hd := Tx.dg_dig 2 n h0
  have hv := Tx.dg_val 2 n h0
  match hg : Tx.dg 2 n, hl with
  | [p, q], _ =>
    rw [hg] at hd hv
    simp only [List.all_cons, List.all_nil, Bool.and_true, Bool.and_eq_true] at hd
    exact ⟨p, q, rfl, hd.1, hd.2, hv⟩
theorem beh_ok {m d h i s : Int} (m0 : 0 ≤ m) (m1 : m < 100) (d0 : 0 ≤ d) (d1 : d < 100) (h0 : 0 ≤ h) (h1 : h < 100) (i0 : 0 ≤ i) (i1 : i < 100) (s0 : 0 ≤ s) (s1 : s < 100) :
    bOk (Tx.beh m d h i s) = true ∧ pV (Tx.beh m d h i s) 0 = m ∧ pV (Tx.beh m d h i s) 1 = d ∧ pV (Tx.beh m d h i s) 2 = h ∧ pV (Tx.beh m d h i s) 3 = i ∧ pV (Tx.beh m d h i s) 4 = s := by
  obtain ⟨a0, a1, ea, ga0, ga1, va⟩ := two_of m0 m1
  obtain ⟨b0, b1, eb, gb0, gb1, vb⟩ := two_of d0 d1
  obtain ⟨c0, c1, ec, gc0, gc1, vc⟩ := two_of h0 h1
  obtain ⟨e0, e1, ee, ge0, ge1, ve⟩ := two_of i0 i1
  obtain ⟨f0, f1, ef, gf0, gf1, vf⟩ := two_of s0 s1
  have hb : Tx.beh m d h i s = [45, a0, a1, 45, b0, b1, 84, c0, c1, 58, e0, e1, 58, f0, f1] := by unfold Tx.beh; rw [ea, eb, ec, ee, ef]; rfl
  rw [hb]
  refine ⟨?_, va, vb, vc, ve, vf⟩
  simp [bOk, pOk, sg, ga0, ga1, gb0, gb1, gc0, gc1, ge0, ge1, gf0, gf1]
theorem pOk_at {l : List UInt8} {k : Nat} (h : pOk l k = true) : l.getD (3 * k) 0 = sg.getD k 0 ∧ ((l.drop (3 * k + 1)).take 2).all Num.dig = true := by
  unfold pOk at h
  rw [Bool.and_eq_true, decide_eq_true_eq] at h
  exact h
theorem beh_back {l : List UInt8} (hl : l.length = 15) (h : bOk l = true) : Tx.beh (pV l 0) (pV l 1) (pV l 2) (pV l 3) (pV l 4) = l := by
  unfold bOk at h
  simp only [Bool.and_eq_true] at h
  obtain ⟨h0, h1, h2, h3, h4⟩ := h
  match l, hl with
  | [x0, x1, x2, x3, x4, x5, x6, x7, x8, x9, x10, x11, x12, x13, x14], _ =>
    obtain ⟨s0, g0⟩ := pOk_at h0
    obtain ⟨s1, g1⟩ := pOk_at h1
    obtain ⟨s2, g2⟩ := pOk_at h2
    obtain ⟨s3, g3⟩ := pOk_at h3
    obtain ⟨s4, g4⟩ := pOk_at h4
    have e0 : Tx.dg 2 (pV [x0, x1, x2, x3, x4, x5, x6, x7, x8, x9, x10, x11, x12, x13, x14] 0) = [x1, x2] := Tx.dg_back 1 [x1, x2] rfl g0
    have e1 : Tx.dg 2 (pV [x0, x1, x2, x3, x4, x5, x6, x7, x8, x9, x10, x11, x12, x13, x14] 1) = [x4, x5] := Tx.dg_back 1 [x4, x5] rfl g1
    have e2 : Tx.dg 2 (pV [x0, x1, x2, x3, x4, x5, x6, x7, x8, x9, x10, x11, x12, x13, x14] 2) = [x7, x8] := Tx.dg_back 1 [x7, x8] rfl g2
    have e3 : Tx.dg 2 (pV [x0, x1, x2, x3, x4, x5, x6, x7, x8, x9, x10, x11, x12, x13, x14] 3) = [x10, x11] := Tx.dg_back 1 [x10, x11] rfl g3
    have e4 : Tx.dg 2 (pV [x0, x1, x2, x3, x4, x5, x6, x7, x8, x9, x10, x11, x12, x13, x14] 4) = [x13, x14] := Tx.dg_back 1 [x13, x14] rfl g4
    have t0 : x0 = 45 := s0
    have t1 : x3 = 45 := s1
    have t2 : x6 = 84 := s2
    have t3 : x9 = 58 := s3
    have t4 : x12 = 58 := s4
    unfold Tx.beh
    rw [e0, e1, e2, e3, e4, t0, t1, t2, t3, t4]
    rfl
/-- What a text means, as a stamp: the five numbers behind the year, the year. -/
def ok (t : List UInt8) : Bool := form t && (yl (hd t) && St.rB (yv (hd t)) (pV (tl t) 0) (pV (tl t) 1) (pV (tl t) 2) (pV (tl t) 3) (pV (tl t) 4))
theorem tl_len {t : List UInt8} (h : 15 ≤ t.length) : (tl t).length = 15 := by unfold tl; rw [List.length_drop]; omega
theorem hd_tl (t : List UInt8) : hd t ++ tl t = t := List.take_append_drop _ _
theorem txt_back {t : List UInt8} (h : form t = true) : Tx.txt (yv (hd t)) (pV (tl t) 0) (pV (tl t) 1) (pV (tl t) 2) (pV (tl t) 3) (pV (tl t) 4) = t := by
  unfold form at h
  simp only [Bool.and_eq_true, decide_eq_true_eq] at h
  obtain ⟨hl, hy, hb⟩ := h
  unfold Tx.txt
  rw [yr_back hy, beh_back (tl_len hl) hb, hd_tl]
theorem txt_read {y m d h i s : Int} (hr : St.rB y m d h i s = true) (y0 : -100000 < y) (y1 : y < 100000) (m0 : 0 ≤ m) (m1 : m < 100) (d0 : 0 ≤ d) (d1 : d < 100) :
    ok (Tx.txt y m d h i s) = true ∧ yv (hd (Tx.txt y m d h i s)) = y ∧ pV (tl (Tx.txt y m d h i s)) 0 = m ∧ pV (tl (Tx.txt y m d h i s)) 1 = d ∧ pV (tl (Tx.txt y m d h i s)) 2 = h ∧ pV (tl (Tx.txt y m d h i s)) 3 = i ∧ pV (tl (Tx.txt y m d h i s)) 4 = s := by
  obtain ⟨-, h0, h1, i0, i1, s0, s1⟩ := St.rB_true.1 hr
  obtain ⟨b, v0, v1, v2, v3, v4⟩ := beh_ok m0 m1 d0 d1 h0 (show h < 100 by omega) i0 (show i < 100 by omega) s0 (show s < 100 by omega)
  have hl := Tx.beh_len m0 m1 d0 d1 h0 (show h < 100 by omega) i0 (show i < 100 by omega) s0 (show s < 100 by omega)
  have e1 : tl (Tx.txt y m d h i s) = Tx.beh m d h i s := Tx.txt_drop y m d h i s hl
  have e2 : hd (Tx.txt y m d h i s) = Tx.yr y := by
    unfold hd Tx.txt
    rw [List.length_append, hl, show (Tx.yr y).length + 15 - 15 = (Tx.yr y).length by omega, List.take_left]
  obtain ⟨iy, yy, ll⟩ := isY_yr y0 y1
  unfold ok form
  rw [e1, e2, yy, v0, v1, v2, v3, v4, iy, b, ll, hr]
  refine ⟨?_, rfl, rfl, rfl, rfl, rfl, rfl⟩
  have : 15 ≤ (Tx.txt y m d h i s).length := by unfold Tx.txt; rw [List.length_append, hl]; omega
  simp [this]
end Go.Proofs.YtfcabofhlgmkjaaDoor.Rd
