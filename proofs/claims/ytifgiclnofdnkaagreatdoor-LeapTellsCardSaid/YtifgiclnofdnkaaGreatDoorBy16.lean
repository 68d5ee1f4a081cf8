/- Joined: RdN, RsE, RsF. -/
import Derived.Test.YtifgiclnofdnkaaGreatDoorBy02
import Derived.Test.YtifgiclnofdnkaaGreatDoorBy15
import Derived.Test.YtifgiclnofdnkaaGreatDoorBy09
import Derived.Test.YtifgiclnofdnkaaGreatDoorBy14
import Derived.Test.YtifgiclnofdnkaaGreatDoorBy04
set_option linter.unusedVariables false
set_option linter.unusedSimpArgs false
namespace Go.Proofs.YtifgiclnofdnkaaGreatDoor.Rd
open Go Go.Lib
theorem two_of {n : Int} (h0 : 0 ≤ n) (h1 : n < 100) : ∃ p q, Tx.dg 2 n = [p, q] ∧ Num.dig p = true ∧ Num.dig q = true ∧ (Num.val 0 [p, q] : Int) = n := by
 have hl := Tx.dg_two h0 h1
 have hd := Tx.dg_dig 2 n h0
 have hv := Tx.dg_val 2 n h0
 match hg : Tx.dg 2 n, hl with
 | [p, q], _ =>
  rw [hg] at hd hv
  simp only [List.all_cons, List.all_nil, Bool.and_true, Bool.and_eq_true] at hd
  exact ⟨p, q, rfl, hd.1, hd.2, hv⟩
theorem beh_ok {m d h i s : Int} (m0 : 0 ≤ m) (m1 : m < 100) (d0 : 0 ≤ d) (d1 : d < 100) (h0 : 0 ≤ h) (h1 : h < 100) (i0 : 0 ≤ i) (i1 : i < 100) (s0 : 0 ≤ s) (s1 : s < 100) :
  bOk (Tx.beh m d h i s) = true ∧ pV (Tx.beh m d h i s) 0 = m ∧ pV (Tx.beh m d h i s) 1 = d ∧ pV (Tx.beh m d h i s) 2 = h ∧ pV (Tx.beh m d h i s) 3 = i ∧ pV (Tx.beh m d h i s) 4 = s := by
 obtain ⟨a0, a1, ea, ga0, ga1, va⟩ := two_of m0 m1
 obtain ⟨b0, b1, eb, gb0, gb1, vb⟩ := two_of d0 d1
 obtain ⟨c0, c1, ec, gc0, gc1, vc⟩ := two_of h0 h1
 obtain ⟨e0, e1, ee, ge0, ge1, ve⟩ := two_of i0 i1
 obtain ⟨f0, f1, ef, gf0, gf1, vf⟩ := two_of s0 s1
 have hb : Tx.beh m d h i s = [45, a0, a1, 45, b0, b1, 84, c0, c1, 58, e0, e1, 58, f0, f1] := by unfold Tx.beh; rw [ea, eb, ec, ee, ef]; rfl
 rw [hb]
 refine ⟨?_, va, vb, vc, ve, vf⟩
 simp [bOk, pOk, sg, ga0, ga1, gb0, gb1, gc0, gc1, ge0, ge1, gf0, gf1]
def ok (t : List UInt8) : Bool := form t && (yl (hd t) && St.rB (yv (hd t)) (pV (tl t) 0) (pV (tl t) 1) (pV (tl t) 2) (pV (tl t) 3) (pV (tl t) 4))
theorem txt_read {y m d h i s : Int} (hr : St.rB y m d h i s = true) (y0 : -100000 < y) (y1 : y < 100000) (m0 : 0 ≤ m) (m1 : m < 100) (d0 : 0 ≤ d) (d1 : d < 100) :
  ok (Tx.txt y m d h i s) = true ∧ yv (hd (Tx.txt y m d h i s)) = y ∧ pV (tl (Tx.txt y m d h i s)) 0 = m ∧ pV (tl (Tx.txt y m d h i s)) 1 = d ∧ pV (tl (Tx.txt y m d h i s)) 2 = h ∧ pV (tl (Tx.txt y m d h i s)) 3 = i ∧ pV (tl (Tx.txt y m d h i s)) 4 = s := by
 obtain ⟨-, h0, h1, i0, i1, s0, s1⟩ := St.rB_true.1 hr
 obtain ⟨b, v0, v1, v2, v3, v4⟩ := beh_ok m0 m1 d0 d1 h0 (show h < 100 by omega) i0 (show i < 100 by omega) s0 (show s < 100 by omega)
 have hl := Tx.beh_len m0 m1 d0 d1 h0 (show h < 100 by omega) i0 (show i < 100 by omega) s0 (show s < 100 by omega)
 have e1 : tl (Tx.txt y m d h i s) = Tx.beh m d h i s := Tx.txt_drop y m d h i s hl
 have e2 : hd (Tx.txt y m d h i s) = Tx.yr y := by
  unfold hd Tx.txt
  rw [List.length_append, hl, show (Tx.yr y).length + 15 - 15 = (Tx.yr y).length by omega, List.take_left]
 obtain ⟨iy, yy, ll⟩ := isY_yr y0 y1
 unfold ok form
 rw [e1, e2, yy, v0, v1, v2, v3, v4, iy, b, ll, hr]
 refine ⟨?_, rfl, rfl, rfl, rfl, rfl, rfl⟩
 have : 15 ≤ (Tx.txt y m d h i s).length := by unfold Tx.txt; rw [List.length_append, hl]; omega
 simp [this]
end Go.Proofs.YtifgiclnofdnkaaGreatDoor.Rd
set_option linter.unusedVariables false
set_option linter.unusedSimpArgs false
namespace Go.Proofs.YtifgiclnofdnkaaGreatDoor
open Go.RowKit
namespace Rd
def y4 (l : List UInt8) : Int × Int := if isY l then (if yl l then (yv l, 0) else (0, 1)) else (0, 4)
theorem y4_no {l : List UInt8} (h : isY l = true → False) : y4 l = (0, 4) := by
 unfold y4
 cases hh : isY l
 ·
  rfl
 ·
  exact absurd hh (by simpa using h)
theorem mz5_no {s : ByteArray} (h : s.data.toList ≠ [45, 48, 48, 48, 48]) : (s.toList == [45, 48, 48, 48, 48]) = false := by
 rw [ByteArray.toList_eq]
 simpa using h
theorem ext1y (s : ByteArray) (r : List UInt8) (h : s.data.toList = 45 :: r) : (s.extract 1 s.size).data.toList = r := by
 rw [ByteArray.data_extract, Array.toList_extract, h]
 have hl := Num.rn_len s
 rw [h, List.length_cons] at hl
 show ((45 :: r).drop 1).take (s.size - 1) = r
 rw [List.drop_one, List.tail_cons, List.take_of_length_le (by omega)]
end Rd
theorem ry4_any (s : ByteArray) (w : World) (hs : s.size ≤ 1000) :
  Calls Tryz.prog 99 #[.string s] w fun e w' => e = .returned (.tuple #[.int .i64 (Rd.y4 s.data.toList).1, .int .i64 (Rd.y4 s.data.toList).2]) ∧ w = w' := by
 have hl := Num.rn_len s
 have hml : s.size ≤ maxLen := by unfold maxLen; omega
 cases hsl : s.data.toList with
 | nil =>
  have e : s = ⟨#[]⟩ := by apply ByteArray.ext; apply Array.toList_inj.1; rw [hsl]
  rw [e]
  exact ry4_nil w
 | cons c r =>
  have hpos : 0 < s.size := by rw [← hl, hsl]; simp
  have hc0 : s[0] = c := by
   have e : s[0] = s.data.toList[0]'(by rw [Num.rn_len]; exact hpos) := rfl
   rw [e]; simp [hsl]
  have IX : ∀ W, Sem.run Tryz.prog (Instr.index 9 (.string s) (.int .i64 0)) W = .ok (.int .u8 (c.toNat : Int)) W := fun W => by rw [← hc0]; exact rn_ix s 0 hpos W
  have to48 : ∀ x : UInt8, x ≠ 48 → (((x.toNat : Nat) : Int) == 48) = false := fun x hx => by
   rw [beq_eq_false_iff_ne]
   intro h; exact hx (UInt8.toNat_inj.1 (by rw [show (48 : UInt8).toNat = 48 from rfl]; omega))
  by_cases h45 : c = 45
  ·
   subst h45
   have T : Lib.trimPrefix (45 :: r) [45] = r := Num.tp_minus r
   have P : Lib.hasPrefix (45 :: r) [45] = true := by rw [Num.hp_cons]; rfl
   have hd := Rd.ext1y s r hsl
   have sl : ∀ W, Sem.run Tryz.prog (Instr.slice 9 (.string s) (some (.int .i64 1)) none none) W = .ok (.string (s.extract 1 s.size)) W := fun W => rn_cut s 1 hpos W
   obtain ⟨d, hdd⟩ : ∃ d, s.extract 1 s.size = d := ⟨_, rfl⟩
   rw [hdd] at hd sl
   have hdl := Num.rn_len d
   rw [hd] at hdl
   have ld : (d.size : Int) + 1 = (s.size : Int) := by
    have : s.data.toList.length = r.length + 1 := by rw [hsl]; rfl
    omega
   have CD : Hid (∀ W, Calls Tryz.prog 97 #[.string d] W fun e w' => e = .returned (.bool (Num.dgs r)) ∧ W = w') := fun W => by rw [← hd]; exact rdigs_any d W (by unfold maxLen; omega)
   by_cases h4 : (d.size : Int) < 4
   ·
    rw [Rd.y4_no (fun h => by have := (Rd.isY_iff.1 h).1; rw [T] at this; omega)]
    exact ry4_yshort s d _ 0 _ w (by omega) hs ld IX (by decide) sl CD h4
   ·
    have hne : r.isEmpty = false := by
     cases r with
     | nil => simp at hdl; omega
     | cons _ _ => rfl
    have hdg : Num.dgs r = r.all Num.dig := by unfold Num.dgs; rw [hne]; simp
    rw [hdg] at CD
    cases hg : r.all Num.dig
    ·
     rw [hg] at CD
     rw [Rd.y4_no (fun h => by have := (Rd.isY_iff.1 h).2.2.1; rw [T, hg] at this; cases this)]
     exact ry4_yno s d _ 0 _ w (by omega) hs ld IX (by decide) sl CD h4 rfl
    ·
     rw [hg] at CD
     cases r with
     | nil => cases hne
     | cons x y =>
      have hdp : 0 < d.size := by rw [← hdl]; simp
      have hx0 : d[0] = x := by
       have e : d[0] = d.data.toList[0]'(by rw [Num.rn_len]; exact hdp) := rfl
       rw [e]; simp [hd]
      have ID : ∀ W, Sem.run Tryz.prog (Instr.index 9 (.string d) (.int .i64 0)) W = .ok (.int .u8 (x.toNat : Int)) W := fun W => by rw [← hx0]; exact rn_ix d 0 hdp W
      by_cases hz : 4 < d.size ∧ x = 48
      ·
       obtain ⟨h1, rfl⟩ := hz
       rw [Rd.y4_no (fun h => by have := (Rd.isY_iff.1 h).2.1; rw [T] at this; exact this (by omega) rfl)]
       exact ry4_yzero s d _ _ _ w (by omega) hs ld IX (by decide) sl CD ID h4 rfl (by omega) (by decide)
      ·
       by_cases hm : (x :: y) = [48, 48, 48, 48]
       ·
        rw [Rd.y4_no (fun h => by have := (Rd.isY_iff.1 h).2.2.2; rw [T] at this; exact this P hm)]
        have es : s = ⟨#[45, 48, 48, 48, 48]⟩ := by apply ByteArray.ext; apply Array.toList_inj.1; rw [hsl, hm]
        rw [es]
        exact ry4_mz w
       ·
        have hY : Rd.isY (45 :: x :: y) = true := Rd.isY_iff.2 (by
         rw [T]
         refine ⟨by omega, fun h5 h6 => hz ⟨by omega, by simpa using h6⟩, hg, fun _ => hm⟩)
        have hmz : (s.toList == [45, 48, 48, 48, 48]) = false := Rd.mz5_no (by rw [hsl]; intro h; injection h with _ h; exact hm h)
        have hyl : Rd.yl (45 :: x :: y) = decide (d.size ≤ 5) := by unfold Rd.yl; rw [T, hdl]
        have hyv : Rd.yv (45 :: x :: y) = -(Num.val 0 d.data.toList : Int) := by unfold Rd.yv; rw [P, T, if_pos rfl, hd]
        by_cases h5 : 5 < d.size
        ·
         rw [show Rd.y4 (45 :: x :: y) = (0, 1) by unfold Rd.y4; rw [hY, if_pos rfl, hyl, decide_eq_false (by omega)]; rfl]
         exact ry4_yfar s d _ _ _ w (by omega) hs ld IX (by decide) sl CD ID h4 rfl (by omega) (to48 x (fun h => hz ⟨by omega, h⟩)) hmz
        ·
         rw [show Rd.y4 (45 :: x :: y) = (-(Num.val 0 d.data.toList : Int), 0) by unfold Rd.y4; rw [hY, if_pos rfl, hyl, decide_eq_true (by omega), if_pos rfl, hyv]]
         rw [← hd] at hg
         by_cases h1 : 4 < (d.size : Int)
         ·
          exact ry4_yvaln s d _ _ _ w (by omega) hs ld IX (by decide) sl CD ID h1 (to48 x (fun h => hz ⟨by omega, h⟩)) h4 (by omega) rfl hmz hg
         ·
          exact ry4_yvaly s d _ _ _ w (by omega) hs ld IX (by decide) sl CD ID h1 h4 (by omega) rfl hmz hg
  ·
   have T : Lib.trimPrefix (c :: r) [45] = c :: r := Num.tp_other c r h45
   have P : Lib.hasPrefix (c :: r) [45] = false := by rw [Num.hp_cons]; simpa using h45
   have hc45 : (((c.toNat : Nat) : Int) == 45) = false := by
    rw [beq_eq_false_iff_ne]
    intro h; exact h45 (UInt8.toNat_inj.1 (by rw [show (45 : UInt8).toNat = 45 from rfl]; omega))
   have hlen : (c :: r).length = s.size := by rw [← hsl]; exact hl
   have CD : Hid (∀ W, Calls Tryz.prog 97 #[.string s] W fun e w' => e = .returned (.bool ((c :: r).all Num.dig)) ∧ W = w') := fun W => by rw [← hsl]; exact rdigs_ne s W hpos hml
   by_cases h4 : (s.size : Int) < 4
   ·
    rw [Rd.y4_no (fun h => by have := (Rd.isY_iff.1 h).1; rw [T] at this; omega)]
    exact ry4_nshort s _ _ w (by omega) hs IX hc45 CD h4
   ·
    cases hg : (c :: r).all Num.dig
    ·
     rw [hg] at CD
     rw [Rd.y4_no (fun h => by have := (Rd.isY_iff.1 h).2.2.1; rw [T, hg] at this; cases this)]
     exact ry4_nno s _ _ w (by omega) hs IX hc45 CD h4 rfl
    ·
     rw [hg] at CD
     by_cases hz : 4 < s.size ∧ c = 48
     ·
      obtain ⟨h1, rfl⟩ := hz
      rw [Rd.y4_no (fun h => by have := (Rd.isY_iff.1 h).2.1; rw [T] at this; exact this (by omega) rfl)]
      exact ry4_nzero s _ _ w (by omega) hs IX hc45 CD h4 rfl (by omega) (by decide)
     ·
      have hY : Rd.isY (c :: r) = true := Rd.isY_iff.2 (by
       rw [T]
       refine ⟨by omega, fun h5 h6 => hz ⟨by omega, by simpa using h6⟩, hg, fun hh => by rw [P] at hh; cases hh⟩)
      have hmz : (s.toList == [45, 48, 48, 48, 48]) = false := Rd.mz5_no (by rw [hsl]; intro h; injection h with h _; exact h45 h)
      have hyl : Rd.yl (c :: r) = decide (s.size ≤ 5) := by unfold Rd.yl; rw [T, hlen]
      have hyv : Rd.yv (c :: r) = (Num.val 0 s.data.toList : Int) := by unfold Rd.yv; rw [P, T, hsl]; rfl
      by_cases h5 : 5 < s.size
      ·
       rw [show Rd.y4 (c :: r) = (0, 1) by unfold Rd.y4; rw [hY, if_pos rfl, hyl, decide_eq_false (by omega)]; rfl]
       exact ry4_nfar s _ _ w (by omega) hs IX hc45 CD h4 rfl (by omega) (to48 c (fun h => hz ⟨by omega, h⟩)) hmz
      ·
       rw [show Rd.y4 (c :: r) = ((Num.val 0 s.data.toList : Int), 0) by unfold Rd.y4; rw [hY, if_pos rfl, hyl, decide_eq_true (by omega), if_pos rfl, hyv]]
       rw [← hsl] at hg
       by_cases h1 : 4 < (s.size : Int)
       ·
        exact ry4_nvaln s _ _ w (by omega) hs IX hc45 CD h1 (to48 c (fun h => hz ⟨by omega, h⟩)) h4 (by omega) rfl hmz hg
       ·
        exact ry4_nvaly s _ _ w (by omega) hs IX hc45 CD h1 h4 (by omega) rfl hmz hg
theorem rf_ix (a : ByteArray) (k : Nat) (h : k < a.size) (w : World) : Sem.run Tryz.prog (Instr.index 9 (.string a) (.int .i64 (k : Int))) w = .ok (.int .u8 a[k].toNat) w := by
 rw [run_index_string w _ _ _ _ Tryz.underlying9, dif_pos ⟨by omega, by omega⟩]
 simp
theorem rf_ab (s : ByteArray) (a b : Nat) (h : a ≤ b) (hb : b ≤ s.size) (w : World) : Sem.run Tryz.prog (Instr.slice 9 (.string s) (some (.int .i64 (a : Int))) (some (.int .i64 (b : Int))) none) w = .ok (.string (s.extract a b)) w := by
 rw [run_slice_string w 9 s .i64 .i64 (a : Int) (b : Int) Tryz.underlying9 (by omega) (by omega) (by omega)]
 simp
theorem rf_list (s : ByteArray) (a b : Nat) : (s.extract a b).data.toList = (s.data.toList.take b).drop a := by
 rw [ByteArray.data_extract, Array.toList_extract]
 simp [List.extract_eq_take_drop, List.drop_take]
theorem val_two (x y : UInt8) (hx : Num.dig x = true) (hy : Num.dig y = true) : (Num.val 0 [x, y] : Int) = ((x.toNat : Int) - 48) * 10 + ((y.toNat : Int) - 48) := by
 have h1 : 48 ≤ x.toNat ∧ x.toNat ≤ 57 := by unfold Num.dig at hx; exact of_decide_eq_true hx
 have h2 : 48 ≤ y.toNat ∧ y.toNat ≤ 57 := by unfold Num.dig at hy; exact of_decide_eq_true hy
 rw [Num.val_cons, Num.val_cons, Num.stp_eq, Num.stp_eq]
 show (((0 * 10 + (x.toNat - 48)) * 10 + (y.toNat - 48) : Nat) : Int) = _
 omega
theorem part4 (s : ByteArray) (hs : 15 ≤ s.size) (k : Nat) (hk : k < 5) : ∃ (Q R : ByteArray) (c g c0 c1 : Int), Q.size = 2 ∧ R.size ≤ s.size ∧ Rd.pOk (Rd.tl s.data.toList) k = ((c == g) && Q.data.toList.all Num.dig) ∧ (Q.data.toList.all Num.dig = true → 48 ≤ c0 ∧ c0 ≤ 57 ∧ 48 ≤ c1 ∧ c1 ≤ 57 ∧ Rd.pV (Rd.tl s.data.toList) k = (c0 - 48) * 10 + (c1 - 48)) ∧
  (∀ W, Sem.run Tryz.prog (Instr.index 9 (.string s) (.int .i64 ((s.size : Int) - 15 + 3 * (k : Int)))) W = .ok (.int .u8 c) W) ∧
  (∀ W, Sem.run Tryz.prog (Instr.index 9 (.string ⟨#[45, 45, 84, 58, 58]⟩) (.int .i64 (k : Int))) W = .ok (.int .u8 g) W) ∧
  (∀ W, Sem.run Tryz.prog (Instr.slice 9 (.string s) (some (.int .i64 ((s.size : Int) - 15 + 3 * (k : Int) + 1))) (some (.int .i64 ((s.size : Int) - 15 + 3 * (k : Int) + 3))) none) W = .ok (.string Q) W) ∧
  (∀ W, Sem.run Tryz.prog (Instr.slice 9 (.string s) (some (.int .i64 ((s.size : Int) - 15 + 3 * (k : Int) + 1))) none none) W = .ok (.string R) W) ∧
  (∀ W, Sem.run Tryz.prog (Instr.index 9 (.string R) (.int .i64 0)) W = .ok (.int .u8 c0) W) ∧
  (∀ W, Sem.run Tryz.prog (Instr.index 9 (.string R) (.int .i64 1)) W = .ok (.int .u8 c1) W) := by
 obtain ⟨b, hb⟩ : ∃ b, b = s.size - 15 + 3 * k := ⟨_, rfl⟩
 have hbl : b + 3 ≤ s.size := by omega
 have e : s.data.toList.length = s.size := Num.rn_len s
 have e0 : (s.size : Int) - 15 + 3 * (k : Int) = (b : Int) := by omega
 have e1 : (b : Int) + 1 = ((b + 1 : Nat) : Int) := by omega
 have e3 : (b : Int) + 3 = ((b + 3 : Nat) : Int) := by omega
 have hg : k < (⟨#[45, 45, 84, 58, 58]⟩ : ByteArray).size := hk
 have zQ : (s.extract (b + 1) (b + 3)).size = 2 := by rw [ByteArray.size_extract]; omega
 have zR : (s.extract (b + 1) s.size).size = s.size - (b + 1) := by rw [ByteArray.size_extract]; omega
 have g0 : (s.extract (b + 1) s.size)[0]'(by omega) = s[b + 1] := by simp [ByteArray.getElem_extract]
 have g1 : (s.extract (b + 1) s.size)[1]'(by omega) = s[b + 2] := by simp [ByteArray.getElem_extract]
 have lQ : (s.extract (b + 1) (b + 3)).data.toList = [s[b + 1], s[b + 2]] := by
  rw [rf_list, List.drop_take]
  have d1 := Num.rn_drop s (b + 1) (by omega)
  have d2 := Num.rn_drop s (b + 2) (by omega)
  rw [d1, d2, show b + 3 - (b + 1) = 2 by omega]
  rfl
 have tlk : (Rd.tl s.data.toList).drop (3 * k + 1) = s[b + 1] :: s[b + 2] :: s.data.toList.drop (b + 3) := by
  unfold Rd.tl
  rw [List.drop_drop, e, show s.size - 15 + (3 * k + 1) = b + 1 by omega, Num.rn_drop s (b + 1) (by omega), Num.rn_drop s (b + 2) (by omega)]
 have tl0 : (Rd.tl s.data.toList).getD (3 * k) 0 = s[b] := by
  unfold Rd.tl
  rw [List.getD_eq_getElem?_getD, List.getElem?_drop, e, show s.size - 15 + 3 * k = b by omega, List.getElem?_eq_getElem (by omega)]
  rfl
 rw [e0, e1, e3]
 refine ⟨_, _, (s[b].toNat : Int), ((⟨#[45, 45, 84, 58, 58]⟩ : ByteArray)[k].toNat : Int), (s[b + 1].toNat : Int), (s[b + 2].toNat : Int), zQ, by omega, ?_, ?_, rf_ix s b (by omega), rf_ix _ k hg, rf_ab s (b + 1) (b + 3) (by omega) (by omega), rn_cut s (b + 1) (by omega), fun W => ?_, fun W => ?_⟩
 ·
  unfold Rd.pOk
  have e2 : Rd.sg.getD k 0 = (⟨#[45, 45, 84, 58, 58]⟩ : ByteArray)[k] := by
   have h1 : (⟨#[45, 45, 84, 58, 58]⟩ : ByteArray)[k] = (⟨#[45, 45, 84, 58, 58]⟩ : ByteArray).data.toList[k]'hk := rfl
   rw [h1, List.getD_eq_getElem?_getD]
   unfold Rd.sg
   rw [List.getElem?_eq_getElem hk]; rfl
  have E1 : ∀ x y : UInt8, decide (x = y) = ((x.toNat : Int) == (y.toNat : Int)) := by
   intro x y
   by_cases h : x = y
   ·
    subst h; simp
   ·
    rw [decide_eq_false h]
    symm
    rw [beq_eq_false_iff_ne]
    intro h2
    exact h (UInt8.toNat_inj.1 (by omega))
  rw [tl0, e2, E1, tlk, lQ]
  rfl
 ·
  intro h
  rw [lQ] at h
  simp only [List.all_cons, List.all_nil, Bool.and_true, Bool.and_eq_true] at h
  have h1 : 48 ≤ s[b + 1].toNat ∧ s[b + 1].toNat ≤ 57 := by have := h.1; unfold Num.dig at this; exact of_decide_eq_true this
  have h2 : 48 ≤ s[b + 2].toNat ∧ s[b + 2].toNat ≤ 57 := by have := h.2; unfold Num.dig at this; exact of_decide_eq_true this
  refine ⟨by omega, by omega, by omega, by omega, ?_⟩
  unfold Rd.pV
  rw [tlk]
  exact val_two _ _ h.1 h.2
 ·
  have := rf_ix (s.extract (b + 1) s.size) 0 (by omega) W
  rw [g0] at this
  exact this
 ·
  have := rf_ix (s.extract (b + 1) s.size) 1 (by omega) W
  rw [g1] at this
  exact this
def pvs (s : ByteArray) (k : Nat) : List Value := (List.range k).map fun j => .int .i64 (Rd.pV (Rd.tl s.data.toList) j)
theorem pvs_succ (s : ByteArray) (k : Nat) : pvs s (k + 1) = pvs s k ++ [.int .i64 (Rd.pV (Rd.tl s.data.toList) k)] := by unfold pvs; rw [List.range_succ, List.map_append]; rfl
theorem info_int : (Tryz.prog.info? 3).map (fun i => (i.zero, i.size, i.bytes)) = some (some (.int .i64 0), 1, 8) := by kernel_rfl
theorem rf_parts {i0 : Option TypeInfo} {z : Value} {n b : Nat} (h : i0.map (fun i => (i.zero, i.size, i.bytes)) = some (some z, n, b)) : ∃ i, i0 = some i ∧ i.zero = some z ∧ i.size = n ∧ i.bytes = b := by
 cases i0 with
 | none => cases h
 | some i => simp at h; exact ⟨i, rfl, h.1, h.2.1, h.2.2⟩
end Go.Proofs.YtifgiclnofdnkaaGreatDoor
