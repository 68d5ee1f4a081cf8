/- Joined: RdN, RsE, RsF, RsG, RefD, StG. -/
import Derived.Test.YtbcbggdbojonmaaGreatDoorBq03
import Derived.Test.YtbcbggdbojonmaaGreatDoorBq11
import Derived.Test.YtbcbggdbojonmaaGreatDoorBq06
import Derived.Test.YtbcbggdbojonmaaGreatDoorBq09
import Derived.Test.YtbcbggdbojonmaaGreatDoorBq04
import Derived.BigRegion
import Derived.Test.YtbcbggdbojonmaaGreatDoorBq08
set_option linter.unusedVariables false
set_option linter.unusedSimpArgs false
namespace Go.Proofs.YtbcbggdbojonmaaGreatDoor.Rd
open Go Go.Lib
theorem two_of {n : Int} (h0 : 0 ≤ n) (h1 : n < 100) : ∃ p q, Tx.dg 2 n = [p, q] ∧ Num.dig p = true ∧ Num.dig q = true ∧ (Num.val 0 [p, q] : Int) = n := by
 have hl := Tx.dg_two h0 h1
 have hd := Tx.dg_dig 2 n h0
 have hv := Tx.dg_val 2 n h0
 match hg : Tx.dg 2 n, hl with
 | [p, q], _ =>
  rw [hg] at hd hv
  simp only [List.all_cons, List.all_nil, Bool.and_true, Bool.and_eq_true] at hd
  exact ⟨p, q, rfl, hd.1, hd.2, hv⟩
theorem beh_ok {m d h i s : Int} (m0 : 0 ≤ m) (m1 : m < 100) (d0 : 0 ≤ d) (d1 : d < 100) (h0 : 0 ≤ h) (h1 : h < 100) (i0 : 0 ≤ i) (i1 : i < 100) (s0 : 0 ≤ s) (s1 : s < 100) :
  bOk (Tx.beh m d h i s) = true ∧ pV (Tx.beh m d h i s) 0 = m ∧ pV (Tx.beh m d h i s) 1 = d ∧ pV (Tx.beh m d h i s) 2 = h ∧ pV (Tx.beh m d h i s) 3 = i ∧ pV (Tx.beh m d h i s) 4 = s := by
 obtain ⟨a0, a1, ea, ga0, ga1, va⟩ := two_of m0 m1
 obtain ⟨b0, b1, eb, gb0, gb1, vb⟩ := two_of d0 d1
 obtain ⟨c0, c1, ec, gc0, gc1, vc⟩ := two_of h0 h1
 obtain ⟨e0, e1, ee, ge0, ge1, ve⟩ := two_of i0 i1
 obtain ⟨f0, f1, ef, gf0, gf1, vf⟩ := two_of s0 s1
 have hb : Tx.beh m d h i s = [45, a0, a1, 45, b0, b1, 84, c0, c1, 58, e0, e1, 58, f0, f1] := by unfold Tx.beh; rw [ea, eb, ec, ee, ef]; rfl
 rw [hb]
 refine ⟨?_, va, vb, vc, ve, vf⟩
 simp [bOk, pOk, sg, ga0, ga1, gb0, gb1, gc0, gc1, ge0, ge1, gf0, gf1]
def ok (t : List UInt8) : Bool := form t && (yl (hd t) && St.rB (yv (hd t)) (pV (tl t) 0) (pV (tl t) 1) (pV (tl t) 2) (pV (tl t) 3) (pV (tl t) 4))
theorem txt_read {y m d h i s : Int} (hr : St.rB y m d h i s = true) (y0 : -100000 < y) (y1 : y < 100000) (m0 : 0 ≤ m) (m1 : m < 100) (d0 : 0 ≤ d) (d1 : d < 100) :
  ok (Tx.txt y m d h i s) = true ∧ yv (hd (Tx.txt y m d h i s)) = y ∧ pV (tl (Tx.txt y m d h i s)) 0 = m ∧ pV (tl (Tx.txt y m d h i s)) 1 = d ∧ pV (tl (Tx.txt y m d h i s)) 2 = h ∧ pV (tl (Tx.txt y m d h i s)) 3 = i ∧ pV (tl (Tx.txt y m d h i s)) 4 = s := by
 obtain ⟨-, h0, h1, i0, i1, s0, s1⟩ := St.rB_true.1 hr
 obtain ⟨b, v0, v1, v2, v3, v4⟩ := beh_ok m0 m1 d0 d1 h0 (show h < 100 by omega) i0 (show i < 100 by omega) s0 (show s < 100 by omega)
 have hl := Tx.beh_len m0 m1 d0 d1 h0 (show h < 100 by omega) i0 (show i < 100 by omega) s0 (show s < 100 by omega)
 have e1 : tl (Tx.txt y m d h i s) = Tx.beh m d h i s := Tx.txt_drop y m d h i s hl
 have e2 : hd (Tx.txt y m d h i s) = Tx.yr y := by
  unfold hd Tx.txt
  rw [List.length_append, hl, show (Tx.yr y).length + 15 - 15 = (Tx.yr y).length by omega, List.take_left]
 obtain ⟨iy, yy, ll⟩ := isY_yr y0 y1
 unfold ok form
 rw [e1, e2, yy, v0, v1, v2, v3, v4, iy, b, ll, hr]
 refine ⟨?_, rfl, rfl, rfl, rfl, rfl, rfl⟩
 have : 15 ≤ (Tx.txt y m d h i s).length := by unfold Tx.txt; rw [List.length_append, hl]; omega
 simp [this]
end Go.Proofs.YtbcbggdbojonmaaGreatDoor.Rd
set_option linter.unusedVariables false
set_option linter.unusedSimpArgs false
namespace Go.Proofs.YtbcbggdbojonmaaGreatDoor
open Go.RowKit
namespace Rd
def y4 (l : List UInt8) : Int × Int := if isY l then (if yl l then (yv l, 0) else (0, 1)) else (0, 4)
end Rd
structure Own (w W : World) (b : Nat) : Prop where
 one : One w W b (.int .i64 0) (.int .i64 0) (.int .i64 0)
 old : w.heap.size ≤ b
 f0 : W.frozen? ⟨b, 0, none⟩ = false
 f1 : W.frozen? ⟨b, 1, none⟩ = false
 f2 : W.frozen? ⟨b, 2, none⟩ = false
theorem Own.keep {w W W' : World} {b : Nat} (h : Own w W b) (k : Below W.heap.size W W') : Own w W' b := by
 obtain ⟨h1, ho, f0, f1, f2⟩ := h
 have hb := h1.hb
 exact ⟨h1.keep k, ho, by rw [k.frozen (p := ⟨b, _, none⟩) hb]; exact f0, by rw [k.frozen (p := ⟨b, _, none⟩) hb]; exact f1, by rw [k.frozen (p := ⟨b, _, none⟩) hb]; exact f2⟩
theorem Own.new {w : World} {t : TypeId} : Own w (w.alloc (.cells #[.int .i64 0, .int .i64 0, .int .i64 0] t)) w.heap.size :=
 ⟨One.new (Below.refl _ _), Nat.le_refl _, by simp [go_sem], by simp [go_sem], by simp [go_sem]⟩
theorem tp_len (l p : List UInt8) : (Lib.trimPrefix l p).length ≤ l.length := by
 unfold Lib.trimPrefix
 split
 ·
  rw [List.length_drop]; omega
 ·
  omega
theorem cut_as (s : ByteArray) (W : World) : ∃ (D : ByteArray) (b : Bool), D.data.toList = Lib.trimPrefix s.data.toList [45] ∧ b = Lib.hasPrefix s.data.toList [45] ∧ D.size ≤ s.size ∧
  ∀ W, Calls Tryz.prog 121 #[.string s, .string ⟨#[45]⟩] W fun e w' => e = .returned (.tuple #[.string D, .bool b]) ∧ W = w' := by
 refine ⟨⟨(Lib.trimPrefix s.data.toList [45]).toArray⟩, _, rfl, rfl, ?_, fun W => cutPrefix s ⟨#[45]⟩ W⟩
 show (Lib.trimPrefix s.data.toList [45]).toArray.size ≤ s.size
 rw [List.size_toArray, ← bl_len s]
 exact tp_len _ _
theorem head_b {D : ByteArray} (h : 0 < D.size) : D.data.toList.head? = some D[0] := by
 rw [List.head?_eq_getElem?, List.getElem?_eq_getElem (by rw [bl_len]; exact h)]
 rfl
set_option maxHeartbeats 2000000 in
set_option maxRecDepth 100000 in
theorem isyear_any (s : ByteArray) (w : World) (hs : s.size ≤ maxLen) :
  Calls Tryz.prog 118 #[.string s] w fun e w' => e = .returned (.bool (Rd.isY s.data.toList)) ∧ w = w' := by
 obtain ⟨D, b, hD, hb, hz, C0⟩ := cut_as s w
 have C := Lib.hid C0; clear C0
 have A0 := Lib.hid (fun W => sdig_any D W (Nat.le_trans hz hs))
 have e : Rd.isY s.data.toList = (!(decide (D.size < 4)) && (!(decide (4 < D.size) && (D.data.toList.head? == some 48)) && (D.data.toList.all Num.dig && !(b && (D.data.toList == [48, 48, 48, 48]))))) := by
  unfold Rd.isY; rw [← hD, ← hb, bl_len]
 rw [e]
 clear e hD hb
 unfold maxLen at hs
 by_cases c1 : (D.size : Int) < 4
 ·
  rw [decide_eq_true (show D.size < 4 by omega)]
  go_enter Tryz.func118, Tryz.ntmps118
  go_wp2_with fail
  refine (C.out _).mono ?_; rintro e w1 ⟨rfl, rfl⟩
  go_wp2_with fail
  go_ret
  exact ⟨rfl, rfl⟩
 ·
  rw [decide_eq_false (show ¬ D.size < 4 by omega)]
  have hpos : 0 < D.size := by omega
  rw [head_b hpos]
  by_cases c2 : 4 < (D.size : Int) ∧ (D[0].toNat : Int) = 48
  ·
   obtain ⟨c2, c3⟩ := c2
   have h48 : D[0] = 48 := UInt8.toNat_inj.1 (by show D[0].toNat = 48; omega)
   rw [decide_eq_true (show 4 < D.size by omega), h48]
   have g : ((D[0].toNat : Int) == 48) = true := by rw [beq_iff_eq]; exact c3
   go_enter Tryz.func118, Tryz.ntmps118
   go_wp2_with fail
   refine (C.out _).mono ?_; rintro e w1 ⟨rfl, rfl⟩
   go_wp2_with fail
   go_ret
   exact ⟨rfl, rfl⟩
  ·
   have e1 : (!(decide (4 < D.size) && (some D[0] == some 48))) = true := by
    by_cases c3 : 4 < (D.size : Int)
    ·
     have h48 : D[0] ≠ 48 := fun h => c2 ⟨c3, by rw [h]; rfl⟩
     simp [h48]
    ·
     rw [decide_eq_false (show ¬ 4 < D.size by omega)]; rfl
   rw [e1]
   have hnot : 4 < (D.size : Int) → ((D[0].toNat : Int) == 48) = false := fun h => by rw [beq_eq_false_iff_ne]; exact fun h2 => c2 ⟨h, h2⟩
   have HN := Lib.hid hnot
   clear hnot e1 c2
   generalize hdd : D.data.toList.all Num.dig = dd at A0 ⊢
   have fin : ∀ r : Bool, (!false && (true && (dd && !r))) = (dd && !r) := fun r => by simp
   rw [fin]
   have e4 : (D.data.toList == [48, 48, 48, 48]) = (D.toList == [48, 48, 48, 48]) := by rw [ByteArray.toList_eq]
   rw [e4]
   clear fin e4 hdd
   by_cases c3 : 4 < (D.size : Int)
   ·
    have g := HN.out c3
    cases dd
    ·
     go_enter Tryz.func118, Tryz.ntmps118
     go_wp2_with fail
     refine (C.out _).mono ?_; rintro e w1 ⟨rfl, rfl⟩
     go_wp2_with fail
     refine (A0.out _).mono ?_; rintro e w1 ⟨rfl, rfl⟩
     go_wp2_with fail
     go_ret
     exact ⟨rfl, rfl⟩
    ·
     cases b
     ·
      go_enter Tryz.func118, Tryz.ntmps118
      go_wp2_with fail
      refine (C.out _).mono ?_; rintro e w1 ⟨rfl, rfl⟩
      go_wp2_with fail
      refine (A0.out _).mono ?_; rintro e w1 ⟨rfl, rfl⟩
      go_wp2_with fail
      go_ret
      exact ⟨rfl, rfl⟩
     ·
      skip
      go_enter Tryz.func118, Tryz.ntmps118
      go_wp2_with fail
      refine (C.out _).mono ?_; rintro e w1 ⟨rfl, rfl⟩
      go_wp2_with fail
      refine (A0.out _).mono ?_; rintro e w1 ⟨rfl, rfl⟩
      go_wp2_with fail
      go_ret
      exact ⟨rfl, rfl⟩
   ·
    cases dd
    ·
     go_enter Tryz.func118, Tryz.ntmps118
     go_wp2_with fail
     refine (C.out _).mono ?_; rintro e w1 ⟨rfl, rfl⟩
     go_wp2_with fail
     refine (A0.out _).mono ?_; rintro e w1 ⟨rfl, rfl⟩
     go_wp2_with fail
     go_ret
     exact ⟨rfl, rfl⟩
    ·
     cases b
     ·
      go_enter Tryz.func118, Tryz.ntmps118
      go_wp2_with fail
      refine (C.out _).mono ?_; rintro e w1 ⟨rfl, rfl⟩
      go_wp2_with fail
      refine (A0.out _).mono ?_; rintro e w1 ⟨rfl, rfl⟩
      go_wp2_with fail
      go_ret
      exact ⟨rfl, rfl⟩
     ·
      go_enter Tryz.func118, Tryz.ntmps118
      go_wp2_with fail
      refine (C.out _).mono ?_; rintro e w1 ⟨rfl, rfl⟩
      go_wp2_with fail
      refine (A0.out _).mono ?_; rintro e w1 ⟨rfl, rfl⟩
      go_wp2_with fail
      go_ret
      exact ⟨rfl, rfl⟩
namespace Rd
def ya (l : List UInt8) : Int := if yl l then yv l else 0
end Rd
set_option maxHeartbeats 2000000 in
set_option maxRecDepth 100000 in
theorem ryear_any (s : ByteArray) (w : World) (hd : (Lib.trimPrefix s.data.toList [45]).all Num.dig = true) :
  Calls Tryz.prog 120 #[.string s] w fun e w' => e = .returned (.tuple #[.int .i64 (Rd.ya s.data.toList), .bool (Rd.yl s.data.toList)]) ∧ w = w' := by
 obtain ⟨D, b, hD, hb, hz, C0⟩ := cut_as s w
 have C := Lib.hid C0; clear C0
 rw [← hD] at hd
 unfold Rd.ya Rd.yl Rd.yv
 rw [← hD, ← hb, bl_len]
 clear hD hb hz
 by_cases c1 : 5 < (D.size : Int)
 ·
  rw [decide_eq_false (show ¬ D.size ≤ 5 by omega)]
  clear hd
  go_enter Tryz.func120, Tryz.ntmps120
  go_wp2_with fail
  refine (C.out _).mono ?_; rintro e w1 ⟨rfl, rfl⟩
  go_wp2_with fail
  go_ret2
  exact ⟨rfl, rfl⟩
 ·
  rw [decide_eq_true (show D.size ≤ 5 by omega)]
  have V0 := Lib.hid (fun W => sval_any D W (by omega) hd)
  have bd := Num.val_bd hd (show D.data.toList.length ≤ 5 by rw [bl_len]; omega)
  generalize Num.val 0 D.data.toList = v at V0 bd ⊢
  have b0 : (0 : Int) ≤ v := by omega
  have b1 : (v : Int) ≤ 99999 := by omega
  generalize (v : Int) = v' at V0 b0 b1 ⊢
  clear hd bd
  cases b
  ·
   go_enter Tryz.func120, Tryz.ntmps120
   go_wp2_with fail
   refine (C.out _).mono ?_; rintro e w1 ⟨rfl, rfl⟩
   go_wp2_with fail
   refine (V0.out _).mono ?_; rintro e w1 ⟨rfl, rfl⟩
   go_wp2_with fail
   go_ret2
   exact ⟨rfl, rfl⟩
  ·
   go_enter Tryz.func120, Tryz.ntmps120
   go_wp2_with fail
   refine (C.out _).mono ?_; rintro e w1 ⟨rfl, rfl⟩
   go_wp2_with fail
   refine (V0.out _).mono ?_; rintro e w1 ⟨rfl, rfl⟩
   go_wp2_with fail
   go_ret2
   exact ⟨rfl, rfl⟩
end Go.Proofs.YtbcbggdbojonmaaGreatDoor
