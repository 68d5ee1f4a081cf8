/- Joined: RsE, RsF, RsG, RefD. -/
import Derived.Test.YtbcbggdbojonmaaGreatDoorBy04
import Derived.Test.YtbcbggdbojonmaaGreatDoorBy06
import Derived.Test.YtbcbggdbojonmaaGreatDoorBy02
import Derived.Test.YtbcbggdbojonmaaGreatDoorBy01
import Derived.BigRegion
import Derived.Test.YtbcbggdbojonmaaGreatDoorBy05
set_option linter.unusedVariables false
set_option linter.unusedSimpArgs false
namespace Go.Proofs.YtbcbggdbojonmaaGreatDoor
open Go.RowKit
namespace Rd
def y4 (l : List UInt8) : Int × Int := if isY l then (if yl l then (yv l, 0) else (0, 1)) else (0, 4)
theorem y4_no {l : List UInt8} (h : isY l = true → False) : y4 l = (0, 4) := by
 unfold y4
 cases hh : isY l
 ·
  rfl
 ·
  exact absurd hh (by simpa using h)
theorem mz5_no {s : ByteArray} (h : s.data.toList ≠ [45, 48, 48, 48, 48]) : (s.toList == [45, 48, 48, 48, 48]) = false := by
 rw [ByteArray.toList_eq]
 simpa using h
theorem ext1y (s : ByteArray) (r : List UInt8) (h : s.data.toList = 45 :: r) : (s.extract 1 s.size).data.toList = r := by
 rw [ByteArray.data_extract, Array.toList_extract, h]
 have hl := Num.rn_len s
 rw [h, List.length_cons] at hl
 show ((45 :: r).drop 1).take (s.size - 1) = r
 rw [List.drop_one, List.tail_cons, List.take_of_length_le (by omega)]
end Rd
theorem ry4_any (s : ByteArray) (w : World) (hs : s.size ≤ 1000) :
  Calls Tryz.prog 87 #[.string s] w fun e w' => e = .returned (.tuple #[.int .i64 (Rd.y4 s.data.toList).1, .int .i64 (Rd.y4 s.data.toList).2]) ∧ w = w' := by
 have hl := Num.rn_len s
 have hml : s.size ≤ maxLen := by unfold maxLen; omega
 cases hsl : s.data.toList with
 | nil =>
  have e : s = ⟨#[]⟩ := by apply ByteArray.ext; apply Array.toList_inj.1; rw [hsl]
  rw [e]
  exact ry4_nil w
 | cons c r =>
  have hpos : 0 < s.size := by rw [← hl, hsl]; simp
  have hc0 : s[0] = c := by
   have e : s[0] = s.data.toList[0]'(by rw [Num.rn_len]; exact hpos) := rfl
   rw [e]; simp [hsl]
  have IX : ∀ W, Sem.run Tryz.prog (Instr.index 9 (.string s) (.int .i64 0)) W = .ok (.int .u8 (c.toNat : Int)) W := fun W => by rw [← hc0]; exact rn_ix s 0 hpos W
  have to48 : ∀ x : UInt8, x ≠ 48 → (((x.toNat : Nat) : Int) == 48) = false := fun x hx => by
   rw [beq_eq_false_iff_ne]
   intro h; exact hx (UInt8.toNat_inj.1 (by rw [show (48 : UInt8).toNat = 48 from rfl]; omega))
  by_cases h45 : c = 45
  ·
   subst h45
   have T : Lib.trimPrefix (45 :: r) [45] = r := Num.tp_minus r
   have P : Lib.hasPrefix (45 :: r) [45] = true := by rw [Num.hp_cons]; rfl
   have hd := Rd.ext1y s r hsl
   have sl : ∀ W, Sem.run Tryz.prog (Instr.slice 9 (.string s) (some (.int .i64 1)) none none) W = .ok (.string (s.extract 1 s.size)) W := fun W => rn_cut s 1 hpos W
   obtain ⟨d, hdd⟩ : ∃ d, s.extract 1 s.size = d := ⟨_, rfl⟩
   rw [hdd] at hd sl
   have hdl := Num.rn_len d
   rw [hd] at hdl
   have ld : (d.size : Int) + 1 = (s.size : Int) := by
    have : s.data.toList.length = r.length + 1 := by rw [hsl]; rfl
    omega
   have CD : Hid (∀ W, Calls Tryz.prog 58 #[.string d] W fun e w' => e = .returned (.bool (Num.dgs r)) ∧ W = w') := fun W => by rw [← hd]; exact rdigs_any d W (by unfold maxLen; omega)
   by_cases h4 : (d.size : Int) < 4
   ·
    rw [Rd.y4_no (fun h => by have := (Rd.isY_iff.1 h).1; rw [T] at this; omega)]
    exact ry4_yshort s d _ 0 _ w (by omega) hs ld IX (by decide) sl CD h4
   ·
    have hne : r.isEmpty = false := by
     cases r with
     | nil => simp at hdl; omega
     | cons _ _ => rfl
    have hdg : Num.dgs r = r.all Num.dig := by unfold Num.dgs; rw [hne]; simp
    rw [hdg] at CD
    cases hg : r.all Num.dig
    ·
     rw [hg] at CD
     rw [Rd.y4_no (fun h => by have := (Rd.isY_iff.1 h).2.2.1; rw [T, hg] at this; cases this)]
     exact ry4_yno s d _ 0 _ w (by omega) hs ld IX (by decide) sl CD h4 rfl
    ·
     rw [hg] at CD
     cases r with
     | nil => cases hne
     | cons x y =>
      have hdp : 0 < d.size := by rw [← hdl]; simp
      have hx0 : d[0] = x := by
       have e : d[0] = d.data.toList[0]'(by rw [Num.rn_len]; exact hdp) := rfl
       rw [e]; simp [hd]
      have ID : ∀ W, Sem.run Tryz.prog (Instr.index 9 (.string d) (.int .i64 0)) W = .ok (.int .u8 (x.toNat : Int)) W := fun W => by rw [← hx0]; exact rn_ix d 0 hdp W
      by_cases hz : 4 < d.size ∧ x = 48
      ·
       obtain ⟨h1, rfl⟩ := hz
       rw [Rd.y4_no (fun h => by have := (Rd.isY_iff.1 h).2.1; rw [T] at this; exact this (by omega) rfl)]
       exact ry4_yzero s d _ _ _ w (by omega) hs ld IX (by decide) sl CD ID h4 rfl (by omega) (by decide)
      ·
       by_cases hm : (x :: y) = [48, 48, 48, 48]
       ·
        rw [Rd.y4_no (fun h => by have := (Rd.isY_iff.1 h).2.2.2; rw [T] at this; exact this P hm)]
        have es : s = ⟨#[45, 48, 48, 48, 48]⟩ := by apply ByteArray.ext; apply Array.toList_inj.1; rw [hsl, hm]
        rw [es]
        exact ry4_mz w
       ·
        have hY : Rd.isY (45 :: x :: y) = true := Rd.isY_iff.2 (by
         rw [T]
         refine ⟨by omega, fun h5 h6 => hz ⟨by omega, by simpa using h6⟩, hg, fun _ => hm⟩)
        have hmz : (s.toList == [45, 48, 48, 48, 48]) = false := Rd.mz5_no (by rw [hsl]; intro h; injection h with _ h; exact hm h)
        have hyl : Rd.yl (45 :: x :: y) = decide (d.size ≤ 5) := by unfold Rd.yl; rw [T, hdl]
        have hyv : Rd.yv (45 :: x :: y) = -(Num.val 0 d.data.toList : Int) := by unfold Rd.yv; rw [P, T, if_pos rfl, hd]
        by_cases h5 : 5 < d.size
        ·
         rw [show Rd.y4 (45 :: x :: y) = (0, 1) by unfold Rd.y4; rw [hY, if_pos rfl, hyl, decide_eq_false (by omega)]; rfl]
         exact ry4_yfar s d _ _ _ w (by omega) hs ld IX (by decide) sl CD ID h4 rfl (by omega) (to48 x (fun h => hz ⟨by omega, h⟩)) hmz
        ·
         rw [show Rd.y4 (45 :: x :: y) = (-(Num.val 0 d.data.toList : Int), 0) by unfold Rd.y4; rw [hY, if_pos rfl, hyl, decide_eq_true (by omega), if_pos rfl, hyv]]
         rw [← hd] at hg
         by_cases h1 : 4 < (d.size : Int)
         ·
          exact ry4_yvaln s d _ _ _ w (by omega) hs ld IX (by decide) sl CD ID h1 (to48 x (fun h => hz ⟨by omega, h⟩)) h4 (by omega) rfl hmz hg
         ·
          exact ry4_yvaly s d _ _ _ w (by omega) hs ld IX (by decide) sl CD ID h1 h4 (by omega) rfl hmz hg
  ·
   have T : Lib.trimPrefix (c :: r) [45] = c :: r := Num.tp_other c r h45
   have P : Lib.hasPrefix (c :: r) [45] = false := by rw [Num.hp_cons]; simpa using h45
   have hc45 : (((c.toNat : Nat) : Int) == 45) = false := by
    rw [beq_eq_false_iff_ne]
    intro h; exact h45 (UInt8.toNat_inj.1 (by rw [show (45 : UInt8).toNat = 45 from rfl]; omega))
   have hlen : (c :: r).length = s.size := by rw [← hsl]; exact hl
   have CD : Hid (∀ W, Calls Tryz.prog 58 #[.string s] W fun e w' => e = .returned (.bool ((c :: r).all Num.dig)) ∧ W = w') := fun W => by rw [← hsl]; exact rdigs_ne s W hpos hml
   by_cases h4 : (s.size : Int) < 4
   ·
    rw [Rd.y4_no (fun h => by have := (Rd.isY_iff.1 h).1; rw [T] at this; omega)]
    exact ry4_nshort s _ _ w (by omega) hs IX hc45 CD h4
   ·
    cases hg : (c :: r).all Num.dig
    ·
     rw [hg] at CD
     rw [Rd.y4_no (fun h => by have := (Rd.isY_iff.1 h).2.2.1; rw [T, hg] at this; cases this)]
     exact ry4_nno s _ _ w (by omega) hs IX hc45 CD h4 rfl
    ·
     rw [hg] at CD
     by_cases hz : 4 < s.size ∧ c = 48
     ·
      obtain ⟨h1, rfl⟩ := hz
      rw [Rd.y4_no (fun h => by have := (Rd.isY_iff.1 h).2.1; rw [T] at this; exact this (by omega) rfl)]
      exact ry4_nzero s _ _ w (by omega) hs IX hc45 CD h4 rfl (by omega) (by decide)
     ·
      have hY : Rd.isY (c :: r) = true := Rd.isY_iff.2 (by
       rw [T]
       refine ⟨by omega, fun h5 h6 => hz ⟨by omega, by simpa using h6⟩, hg, fun hh => by rw [P] at hh; cases hh⟩)
      have hmz : (s.toList == [45, 48, 48, 48, 48]) = false := Rd.mz5_no (by rw [hsl]; intro h; injection h with h _; exact h45 h)
      have hyl : Rd.yl (c :: r) = decide (s.size ≤ 5) := by unfold Rd.yl; rw [T, hlen]
      have hyv : Rd.yv (c :: r) = (Num.val 0 s.data.toList : Int) := by unfold Rd.yv; rw [P, T, hsl]; rfl
      by_cases h5 : 5 < s.size
      ·
       rw [show Rd.y4 (c :: r) = (0, 1) by unfold Rd.y4; rw [hY, if_pos rfl, hyl, decide_eq_false (by omega)]; rfl]
       exact ry4_nfar s _ _ w (by omega) hs IX hc45 CD h4 rfl (by omega) (to48 c (fun h => hz ⟨by omega, h⟩)) hmz
      ·
       rw [show Rd.y4 (c :: r) = ((Num.val 0 s.data.toList : Int), 0) by unfold Rd.y4; rw [hY, if_pos rfl, hyl, decide_eq_true (by omega), if_pos rfl, hyv]]
       rw [← hsl] at hg
       by_cases h1 : 4 < (s.size : Int)
       ·
        exact ry4_nvaln s _ _ w (by omega) hs IX hc45 CD h1 (to48 c (fun h => hz ⟨by omega, h⟩)) h4 (by omega) rfl hmz hg
       ·
        exact ry4_nvaly s _ _ w (by omega) hs IX hc45 CD h1 h4 (by omega) rfl hmz hg
theorem rf_ix (a : ByteArray) (k : Nat) (h : k < a.size) (w : World) : Sem.run Tryz.prog (Instr.index 9 (.string a) (.int .i64 (k : Int))) w = .ok (.int .u8 a[k].toNat) w := by
 rw [run_index_string w _ _ _ _ Tryz.underlying9, dif_pos ⟨by omega, by omega⟩]
 simp
theorem rf_ab (s : ByteArray) (a b : Nat) (h : a ≤ b) (hb : b ≤ s.size) (w : World) : Sem.run Tryz.prog (Instr.slice 9 (.string s) (some (.int .i64 (a : Int))) (some (.int .i64 (b : Int))) none) w = .ok (.string (s.extract a b)) w := by
 rw [run_slice_string w 9 s .i64 .i64 (a : Int) (b : Int) Tryz.underlying9 (by omega) (by omega) (by omega)]
 simp
theorem rf_list (s : ByteArray) (a b : Nat) : (s.extract a b).data.toList = (s.data.toList.take b).drop a := by
 rw [ByteArray.data_extract, Array.toList_extract]
 simp [List.extract_eq_take_drop, List.drop_take]
theorem val_two (x y : UInt8) (hx : Num.dig x = true) (hy : Num.dig y = true) : (Num.val 0 [x, y] : Int) = ((x.toNat : Int) - 48) * 10 + ((y.toNat : Int) - 48) := by
 have h1 : 48 ≤ x.toNat ∧ x.toNat ≤ 57 := by unfold Num.dig at hx; exact of_decide_eq_true hx
 have h2 : 48 ≤ y.toNat ∧ y.toNat ≤ 57 := by unfold Num.dig at hy; exact of_decide_eq_true hy
 rw [Num.val_cons, Num.val_cons, Num.stp_eq, Num.stp_eq]
 show (((0 * 10 + (x.toNat - 48)) * 10 + (y.toNat - 48) : Nat) : Int) = _
 omega
theorem part4 (s : ByteArray) (hs : 15 ≤ s.size) (k : Nat) (hk : k < 5) : ∃ (Q R : ByteArray) (c g c0 c1 : Int), Q.size = 2 ∧ R.size ≤ s.size ∧ Rd.pOk (Rd.tl s.data.toList) k = ((c == g) && Q.data.toList.all Num.dig) ∧ (Q.data.toList.all Num.dig = true → 48 ≤ c0 ∧ c0 ≤ 57 ∧ 48 ≤ c1 ∧ c1 ≤ 57 ∧ Rd.pV (Rd.tl s.data.toList) k = (c0 - 48) * 10 + (c1 - 48)) ∧
  (∀ W, Sem.run Tryz.prog (Instr.index 9 (.string s) (.int .i64 ((s.size : Int) - 15 + 3 * (k : Int)))) W = .ok (.int .u8 c) W) ∧
  (∀ W, Sem.run Tryz.prog (Instr.index 9 (.string ⟨#[45, 45, 84, 58, 58]⟩) (.int .i64 (k : Int))) W = .ok (.int .u8 g) W) ∧
  (∀ W, Sem.run Tryz.prog (Instr.slice 9 (.string s) (some (.int .i64 ((s.size : Int) - 15 + 3 * (k : Int) + 1))) (some (.int .i64 ((s.size : Int) - 15 + 3 * (k : Int) + 3))) none) W = .ok (.string Q) W) ∧
  (∀ W, Sem.run Tryz.prog (Instr.slice 9 (.string s) (some (.int .i64 ((s.size : Int) - 15 + 3 * (k : Int) + 1))) none none) W = .ok (.string R) W) ∧
  (∀ W, Sem.run Tryz.prog (Instr.index 9 (.string R) (.int .i64 0)) W = .ok (.int .u8 c0) W) ∧
  (∀ W, Sem.run Tryz.prog (Instr.index 9 (.string R) (.int .i64 1)) W = .ok (.int .u8 c1) W) := by
 obtain ⟨b, hb⟩ : ∃ b, b = s.size - 15 + 3 * k := ⟨_, rfl⟩
 have hbl : b + 3 ≤ s.size := by omega
 have e : s.data.toList.length = s.size := Num.rn_len s
 have e0 : (s.size : Int) - 15 + 3 * (k : Int) = (b : Int) := by omega
 have e1 : (b : Int) + 1 = ((b + 1 : Nat) : Int) := by omega
 have e3 : (b : Int) + 3 = ((b + 3 : Nat) : Int) := by omega
 have hg : k < (⟨#[45, 45, 84, 58, 58]⟩ : ByteArray).size := hk
 have zQ : (s.extract (b + 1) (b + 3)).size = 2 := by rw [ByteArray.size_extract]; omega
 have zR : (s.extract (b + 1) s.size).size = s.size - (b + 1) := by rw [ByteArray.size_extract]; omega
 have g0 : (s.extract (b + 1) s.size)[0]'(by omega) = s[b + 1] := by simp [ByteArray.getElem_extract]
 have g1 : (s.extract (b + 1) s.size)[1]'(by omega) = s[b + 2] := by simp [ByteArray.getElem_extract]
 have lQ : (s.extract (b + 1) (b + 3)).data.toList = [s[b + 1], s[b + 2]] := by
  rw [rf_list, List.drop_take]
  have d1 := Num.rn_drop s (b + 1) (by omega)
  have d2 := Num.rn_drop s (b + 2) (by omega)
  rw [d1, d2, show b + 3 - (b + 1) = 2 by omega]
  rfl
 have tlk : (Rd.tl s.data.toList).drop (3 * k + 1) = s[b + 1] :: s[b + 2] :: s.data.toList.drop (b + 3) := by
  unfold Rd.tl
  rw [List.drop_drop, e, show s.size - 15 + (3 * k + 1) = b + 1 by omega, Num.rn_drop s (b + 1) (by omega), Num.rn_drop s (b + 2) (by omega)]
 have tl0 : (Rd.tl s.data.toList).getD (3 * k) 0 = s[b] := by
  unfold Rd.tl
  rw [List.getD_eq_getElem?_getD, List.getElem?_drop, e, show s.size - 15 + 3 * k = b by omega, List.getElem?_eq_getElem (by omega)]
  rfl
 rw [e0, e1, e3]
 refine ⟨_, _, (s[b].toNat : Int), ((⟨#[45, 45, 84, 58, 58]⟩ : ByteArray)[k].toNat : Int), (s[b + 1].toNat : Int), (s[b + 2].toNat : Int), zQ, by omega, ?_, ?_, rf_ix s b (by omega), rf_ix _ k hg, rf_ab s (b + 1) (b + 3) (by omega) (by omega), rn_cut s (b + 1) (by omega), fun W => ?_, fun W => ?_⟩
 ·
  unfold Rd.pOk
  have e2 : Rd.sg.getD k 0 = (⟨#[45, 45, 84, 58, 58]⟩ : ByteArray)[k] := by
   have h1 : (⟨#[45, 45, 84, 58, 58]⟩ : ByteArray)[k] = (⟨#[45, 45, 84, 58, 58]⟩ : ByteArray).data.toList[k]'hk := rfl
   rw [h1, List.getD_eq_getElem?_getD]
   unfold Rd.sg
   rw [List.getElem?_eq_getElem hk]; rfl
  have E1 : ∀ x y : UInt8, decide (x = y) = ((x.toNat : Int) == (y.toNat : Int)) := by
   intro x y
   by_cases h : x = y
   ·
    subst h; simp
   ·
    rw [decide_eq_false h]
    symm
    rw [beq_eq_false_iff_ne]
    intro h2
    exact h (UInt8.toNat_inj.1 (by omega))
  rw [tl0, e2, E1, tlk, lQ]
  rfl
 ·
  intro h
  rw [lQ] at h
  simp only [List.all_cons, List.all_nil, Bool.and_true, Bool.and_eq_true] at h
  have h1 : 48 ≤ s[b + 1].toNat ∧ s[b + 1].toNat ≤ 57 := by have := h.1; unfold Num.dig at this; exact of_decide_eq_true this
  have h2 : 48 ≤ s[b + 2].toNat ∧ s[b + 2].toNat ≤ 57 := by have := h.2; unfold Num.dig at this; exact of_decide_eq_true this
  refine ⟨by omega, by omega, by omega, by omega, ?_⟩
  unfold Rd.pV
  rw [tlk]
  exact val_two _ _ h.1 h.2
 ·
  have := rf_ix (s.extract (b + 1) s.size) 0 (by omega) W
  rw [g0] at this
  exact this
 ·
  have := rf_ix (s.extract (b + 1) s.size) 1 (by omega) W
  rw [g1] at this
  exact this
def pvs (s : ByteArray) (k : Nat) : List Value := (List.range k).map fun j => .int .i64 (Rd.pV (Rd.tl s.data.toList) j)
theorem pvs_succ (s : ByteArray) (k : Nat) : pvs s (k + 1) = pvs s k ++ [.int .i64 (Rd.pV (Rd.tl s.data.toList) k)] := by unfold pvs; rw [List.range_succ, List.map_append]; rfl
theorem info_int : (Tryz.prog.info? 3).map (fun i => (i.zero, i.size, i.bytes)) = some (some (.int .i64 0), 1, 8) := by kernel_rfl
theorem rf_parts {i0 : Option TypeInfo} {z : Value} {n b : Nat} (h : i0.map (fun i => (i.zero, i.size, i.bytes)) = some (some z, n, b)) : ∃ i, i0 = some i ∧ i.zero = some z ∧ i.size = n ∧ i.bytes = b := by
 cases i0 with
 | none => cases h
 | some i => simp at h; exact ⟨i, rfl, h.1, h.2.1, h.2.2⟩
set_option maxHeartbeats 4000000 in
set_option maxRecDepth 100000 in
theorem rsread_short (s : ByteArray) (w : World) (hs : s.size < 15) :
  Calls Tryz.prog 56 #[.string s] w fun e w' => e = .returned (.tuple #[.agg #[.int .i64 0, .int .i64 0, .int .i64 0, .int .i64 0, .int .i64 0, .int .i64 0], .int .i64 4]) ∧ Below w.heap.size w w' := by
 have h1 : (s.size : Int) - 15 < 0 := by omega
 clear hs
 go_enter Tryz.func56, Tryz.ntmps56
 go_upto_region 3 with (fail)
 refine wp_named ?_; intro w1 hw1
 have d1 : Below w.heap.size w w1 := by rw [hw1]; exact gr0
 have B1 := Lib.hid d1
 have R1 : Bk6 w1 (w.heap.size) (.int .i64 0) (.int .i64 0) (.int .i64 0) (.int .i64 0) (.int .i64 0) (.int .i64 0) := by rw [hw1]; exact ⟨by simp <;> omega, by intro j; simp [go_sem], by simp [go_sem], by simp [go_sem], by simp [go_sem], by simp [go_sem], by simp [go_sem], by simp [go_sem]⟩
 clear d1 hw1
 have tx := R1; obtain ⟨cR_b, cR_f, cR_0, cR_1, cR_2, cR_3, cR_4, cR_5⟩ := tx
 go_wp2_with fail
 refine bodyPost_ret (v := .tuple #[.agg #[.int .i64 0, .int .i64 0, .int .i64 0, .int .i64 0, .int .i64 0, .int .i64 0], .int .i64 4]) (by simp [results, Tryz.results56, go_sem, cR_b, cR_f, cR_0, cR_1, cR_2, cR_3, cR_4, cR_5]) rfl ⟨rfl, ?_⟩
 clear cR_b cR_f cR_0 cR_1 cR_2 cR_3 cR_4 cR_5
 have hz := B1.out.size
 iterate 6 (refine Below.setCell ?_ (by first | omega | (simp; done) | (simp; omega)) _)
 exact B1.out
theorem pok_all {l : List UInt8} : Rd.bOk l = true ↔ ∀ j, j < 5 → Rd.pOk l j = true := by
 unfold Rd.bOk
 simp only [Bool.and_eq_true]
 constructor
 ·
  rintro ⟨a, b, c, d, e⟩ j hj
  obtain rfl | rfl | rfl | rfl | rfl : j = 0 ∨ j = 1 ∨ j = 2 ∨ j = 3 ∨ j = 4 := by omega
  all_goals assumption
 ·
  intro h
  exact ⟨h 0 (by omega), h 1 (by omega), h 2 (by omega), h 3 (by omega), h 4 (by omega)⟩
set_option maxHeartbeats 16000000 in
set_option maxRecDepth 100000 in
theorem rsread_main (s : ByteArray) (a b : Int) (R : Value) (w : World) (hs : 15 ≤ s.size) (hm : s.size ≤ 1000)
  (CY : Hid (∀ W, Calls Tryz.prog 87 #[.string (s.extract 0 (s.size - 15))] W fun e w' => e = .returned (.tuple #[.int .i64 a, .int .i64 b]) ∧ W = w'))
  (H1 : Hid (Rd.bOk (Rd.tl s.data.toList) = false → R = .tuple #[.agg #[.int .i64 0, .int .i64 0, .int .i64 0, .int .i64 0, .int .i64 0, .int .i64 0], .int .i64 4]))
  (H2 : Hid (Rd.bOk (Rd.tl s.data.toList) = true → (b == 0) = false → R = .tuple #[.agg #[.int .i64 0, .int .i64 0, .int .i64 0, .int .i64 0, .int .i64 0, .int .i64 0], .int .i64 b]))
  (H3 : Hid (Rd.bOk (Rd.tl s.data.toList) = true → (b == 0) = true → St.rB a (Rd.pV (Rd.tl s.data.toList) 0) (Rd.pV (Rd.tl s.data.toList) 1) (Rd.pV (Rd.tl s.data.toList) 2) (Rd.pV (Rd.tl s.data.toList) 3) (Rd.pV (Rd.tl s.data.toList) 4) = false → R = .tuple #[.agg #[.int .i64 0, .int .i64 0, .int .i64 0, .int .i64 0, .int .i64 0, .int .i64 0], .int .i64 1]))
  (H4 : Hid (Rd.bOk (Rd.tl s.data.toList) = true → (b == 0) = true → St.rB a (Rd.pV (Rd.tl s.data.toList) 0) (Rd.pV (Rd.tl s.data.toList) 1) (Rd.pV (Rd.tl s.data.toList) 2) (Rd.pV (Rd.tl s.data.toList) 3) (Rd.pV (Rd.tl s.data.toList) 4) = true → R = .tuple #[.agg #[.int .i64 a, .int .i64 (Rd.pV (Rd.tl s.data.toList) 0), .int .i64 (Rd.pV (Rd.tl s.data.toList) 1), .int .i64 (Rd.pV (Rd.tl s.data.toList) 2), .int .i64 (Rd.pV (Rd.tl s.data.toList) 3), .int .i64 (Rd.pV (Rd.tl s.data.toList) 4)], .int .i64 0])) :
  Calls Tryz.prog 56 #[.string s] w fun e w' => e = .returned R ∧ Below w.heap.size w w' := by
 obtain ⟨i0, hi, hz0, hz1, hz2⟩ := rf_parts info_int
 have PT := Lib.hid (part4 s hs)
 have h1 : ¬ (s.size : Int) - 15 < 0 := by omega
 have h2 : 0 ≤ (s.size : Int) - 15 := by omega
 have h3 : (s.size : Int) - 15 ≤ (s.size : Int) := by omega
 have h4 : (s.size : Int) ≤ 1000 := by omega
 go_enter Tryz.func56, Tryz.ntmps56
 go_wp2_with fail
 go_loopw [6, 7] (fun n i wr => ∃ k : Nat, k ≤ 5 ∧ i = .int .i64 k ∧ Hid (∀ j, j < k → Rd.pOk (Rd.tl s.data.toList) j = true) ∧ Hid (wr.ownsRow (w.heap.size + 1) 3 1 n k (pvs s k)) ∧ Hid (Bk6 wr w.heap.size (.int .i64 0) (.int .i64 0) (.int .i64 0) (.int .i64 0) (.int .i64 0) (.int .i64 0)) ∧ Hid (Below w.heap.size w wr)) (fun _ i _ => 5 - (intOf i).toNat)
 case atStart =>
  refine ⟨0, Nat.zero_le _, rfl, fun j hj => absurd hj (Nat.not_lt_zero _), World.ownsRow_nil _ _ _ _, ?_, ?_⟩
  ·
   exact Bk6.of (Below.refl _ _) (by simp) (by intro j; simp [go_sem]) (by simp [go_sem]) (by simp [go_sem]) (by simp [go_sem]) (by simp [go_sem]) (by simp [go_sem]) (by simp [go_sem])
  ·
   exact (Below.refl _ _).alloc (Nat.le_refl _) _
 case round =>
  obtain ⟨k, hk, rfl, hok, hown, hbk, hbel⟩ := hrel
  by_cases hlt : k < 5
  ·
   obtain ⟨Q, R', c, g, c0, c1, zQ, zR, hp, hv, F1, F2, F3, F4, I0, I1⟩ := PT.out k hlt
   have HP := Lib.hid hp
   have HV := Lib.hid hv
   clear hp hv
   have zQ' : (Q.size : Int) = 2 := by omega
   have zR' : R'.size ≤ 1000 := by omega
   have hkI : (k : Int) ≤ 4 := by omega
   have B : Bk6 wr w.heap.size (.int .i64 0) (.int .i64 0) (.int .i64 0) (.int .i64 0) (.int .i64 0) (.int .i64 0) := hbk.out
   have c_b := B.hb; have c_f := B.fz; have c_0 := B.k0; have c_1 := B.k1; have c_2 := B.k2; have c_3 := B.k3; have c_4 := B.k4; have c_5 := B.k5
   clear B
   by_cases hc : c = g
   ·
    have gc : (c == g) = true := by rw [beq_iff_eq]; exact hc
    have gn : (c != g) = false := by unfold bne; rw [gc]; rfl
    have hdg : Num.dgs Q.data.toList = Q.data.toList.all Num.dig := by
     have : Q.data.toList.isEmpty = false := by
      have := Num.rn_len Q
      cases h : Q.data.toList with
      | nil => rw [h] at this; simp at this; omega
      | cons _ _ => rfl
     unfold Num.dgs; rw [this]; simp
    cases hd : Q.data.toList.all Num.dig
    ·
     have hno := Lib.hid (show R = .tuple #[.agg #[.int .i64 0, .int .i64 0, .int .i64 0, .int .i64 0, .int .i64 0, .int .i64 0], .int .i64 4] from H1.out (by
      rw [Bool.eq_false_iff]
      intro h
      have := pok_all.1 h k hlt
      rw [HP.out, hd] at this
      simp at this))
     have CD : Hid (∀ W, Calls Tryz.prog 58 #[.string Q] W fun e w' => e = .returned (.bool false) ∧ w' = W) := fun W => (hd ▸ hdg ▸ rdigs_any Q W (by unfold maxLen; omega)).mono fun _ _ ⟨a, b⟩ => ⟨a, b.symm⟩
     clear hd hc hdg PT
     go_wp2_with fail
     go_quiet ((go_at_call 58; exact Calls.quiet_of_same (CD.out _)))
     go_wp2_with fail
     refine bodyPost_ret (v := .tuple #[.agg #[.int .i64 0, .int .i64 0, .int .i64 0, .int .i64 0, .int .i64 0, .int .i64 0], .int .i64 4]) (by simp [results, Tryz.results56, go_sem, c_b, c_f, c_0, c_1, c_2, c_3, c_4, c_5]) rfl ⟨by rw [hno.out], ?_⟩
     clear F1 F2 F3 F4 I0 I1
     repeat (first | refine Below.setCell ?_ (by first | (simp; done) | (simp; omega) | omega) _ | refine _root_.Go.below_drewN ?_ _ | refine Below.drew ?_)
     exact hbel.out
    ·
     have CD : Hid (∀ W, Calls Tryz.prog 58 #[.string Q] W fun e w' => e = .returned (.bool true) ∧ w' = W) := fun W => (hd ▸ hdg ▸ rdigs_any Q W (by unfold maxLen; omega)).mono fun _ _ ⟨a, b⟩ => ⟨a, b.symm⟩
     obtain ⟨d0, d1, d2, d3, hpv⟩ := HV.out hd
     have CV : Hid (∀ W, Calls Tryz.prog 86 #[.string R'] W fun e w' => e = .returned (.int .i64 (Rd.pV (Rd.tl s.data.toList) k)) ∧ Below W.heap.size W w') := fun W => by
      rw [hpv]
      exact (two_any R' c0 c1 W I0 I1 d0 d1 d2 d3).mono fun e w' ⟨h1, n, h2⟩ => ⟨h1, by rw [h2]; exact below_draw _ _⟩
     have hok' := Lib.hid (show ∀ j, j < k + 1 → Rd.pOk (Rd.tl s.data.toList) j = true by
      intro j hj
      by_cases h : j = k
      ·
       subst h; rw [HP.out, gc, hd]; rfl
      ·
       exact hok.out j (by omega))
     have PS := Lib.hid (pvs_succ s k)
     generalize hv : Rd.pV (Rd.tl s.data.toList) k = v at CV PS
     clear hd hc hv hdg hpv d0 d1 d2 d3 I0 I1 HV HP PT
     go_wp2_with fail
     go_quiet ((go_at_call 58; exact Calls.quiet_of_same (CD.out _)))
     go_wp2_with fail
     refine (CV.out _).mono ?_; rintro e w1 ⟨rfl, b1⟩
     have e1 : Below wr.heap.size wr w1 := below_step gr0 b1
     have O1 := Lib.hid (own_on hown.out e1)
     have K1 := Lib.hid (hbk.out.keep e1)
     have B1 := Lib.hid (below_step hbel.out e1)
     have z1 := e1.size
     clear e1 b1 CV CD F1 F2 F3 F4 hbk hown hok c_f c_0 c_1 c_2 c_3 c_4 c_5
     go_wp2_with (at_builtin; refine wpList_append_own _ rfl _ _ 94 rfl (w.heap.size + 1) 3 i0 (.int .i64 0) 1 8 Tryz.underlying94 hi hz0 hz1 hz2 rfl (by decide) _ _ _ rfl (O1.out.alloc _) ⟨w1.heap.size, 0, none⟩ 1 1 [.int .i64 v] rfl rfl (by intro j u hj; match j, hj with | 0, hj => (simp at hj; subst hj; simp [go_sem])) (by intro u hu; simp at hu; subst hu; rfl) (by unfold maxLen; omega) (by omega) (by simp; omega) ?_)
     intro v6 w6 own6 grow6 _
     have B6 := Lib.hid (show Below w.heap.size w w6 from ((B1.out.alloc B1.out.size _).trans (below_grown grow6 (by have := B1.out.size; simp; omega) (fun g hg => by have := own_row O1.out g hg; omega))))
     have O6 := Lib.hid (show w6.ownsRow (w.heap.size + 1) 3 1 v6 (k + 1) (pvs s (k + 1)) from by rw [PS.out]; exact own6)
     have KK : Below (w.heap.size + 1) w1 w6 := ((Below.refl (w.heap.size + 1) w1).alloc (by omega) _).trans (below_grown grow6 (by simp; omega) (own_row O1.out))
     have K6 := Lib.hid (show Bk6 w6 w.heap.size (.int .i64 0) (.int .i64 0) (.int .i64 0) (.int .i64 0) (.int .i64 0) (.int .i64 0) from ⟨by have := KK.size; omega, fun j => (KK.frozen (p := ⟨w.heap.size, j, none⟩) (Nat.lt_succ_self _)).trans (K1.out.fz j), (KK.cell (p := ⟨w.heap.size, 0, none⟩) (Nat.lt_succ_self _)).trans K1.out.k0, (KK.cell (p := ⟨w.heap.size, 1, none⟩) (Nat.lt_succ_self _)).trans K1.out.k1, (KK.cell (p := ⟨w.heap.size, 2, none⟩) (Nat.lt_succ_self _)).trans K1.out.k2, (KK.cell (p := ⟨w.heap.size, 3, none⟩) (Nat.lt_succ_self _)).trans K1.out.k3, (KK.cell (p := ⟨w.heap.size, 4, none⟩) (Nat.lt_succ_self _)).trans K1.out.k4, (KK.cell (p := ⟨w.heap.size, 5, none⟩) (Nat.lt_succ_self _)).trans K1.out.k5⟩)
     clear own6 grow6 KK O1 K1 B1
     go_wp2_with fail
     go_roundw
     case rel => exact ⟨k + 1, by omega, by go_num, hok', O6, K6, B6⟩
     case measure => first | (simp [intOf]; done) | (simp [intOf]; omega)
   ·
    have gc : (c == g) = false := by rw [beq_eq_false_iff_ne]; exact hc
    have gn : (c != g) = true := by unfold bne; rw [gc]; rfl
    have hno := Lib.hid (show R = .tuple #[.agg #[.int .i64 0, .int .i64 0, .int .i64 0, .int .i64 0, .int .i64 0, .int .i64 0], .int .i64 4] from H1.out (by
     rw [Bool.eq_false_iff]
     intro h
     have := pok_all.1 h k hlt
     rw [HP.out, gc] at this
     simp at this))
    have CD : Hid (∀ W, Calls Tryz.prog 58 #[.string Q] W fun e w' => e = .returned (.bool (Num.dgs Q.data.toList)) ∧ w' = W) := fun W => (rdigs_any Q W (by unfold maxLen; omega)).mono fun _ _ ⟨a, b⟩ => ⟨a, b.symm⟩
    clear hc PT
    go_wp2_with fail
    go_quiet ((go_at_call 58; exact Calls.quiet_of_same (CD.out _)))
    go_wp2_with fail
    refine bodyPost_ret (v := .tuple #[.agg #[.int .i64 0, .int .i64 0, .int .i64 0, .int .i64 0, .int .i64 0, .int .i64 0], .int .i64 4]) (by simp [results, Tryz.results56, go_sem, c_b, c_f, c_0, c_1, c_2, c_3, c_4, c_5]) rfl ⟨by rw [hno.out], ?_⟩
    clear F1 F2 F3 F4 I0 I1
    repeat (first | refine Below.setCell ?_ (by first | (simp; done) | (simp; omega) | omega) _ | refine _root_.Go.below_drewN ?_ _ | refine Below.drew ?_)
    exact hbel.out
  ·
   obtain rfl : k = 5 := by omega
   have hb := Lib.hid (pok_all.2 hok.out)
   have B : Bk6 wr w.heap.size (.int .i64 0) (.int .i64 0) (.int .i64 0) (.int .i64 0) (.int .i64 0) (.int .i64 0) := hbk.out
   cases hbz : b == 0
   ·
    have HR := Lib.hid (H2.out hb.out hbz)
    have nb : (b != 0) = true := by unfold bne; rw [hbz]; rfl
    have c_b := B.hb; have c_f := B.fz; have c_0 := B.k0; have c_1 := B.k1; have c_2 := B.k2; have c_3 := B.k3; have c_4 := B.k4; have c_5 := B.k5
    clear B PT
    go_wp2_with fail
    refine (CY.out _).mono ?_; rintro e w1 ⟨rfl, rfl⟩
    go_wp2_with fail
    refine bodyPost_ret (v := .tuple #[.agg #[.int .i64 0, .int .i64 0, .int .i64 0, .int .i64 0, .int .i64 0, .int .i64 0], .int .i64 b]) (by simp [results, Tryz.results56, go_sem, c_b, c_f, c_0, c_1, c_2, c_3, c_4, c_5]) rfl ⟨by rw [HR.out], ?_⟩
    repeat (first | refine Below.setCell ?_ (by first | (simp; done) | (simp; omega) | omega) _ | refine _root_.Go.below_drewN ?_ _ | refine Below.drew ?_)
    exact hbel.out
   ·
    have nb : (b != 0) = false := by unfold bne; rw [hbz]; rfl
    obtain ⟨A, cc, rfl, ha⟩ := Lst.own hown.out
    obtain ⟨ad, rfl, hadl, hcc⟩ := ha (by omega)
    have g0 : wr.cell? ad = some (.int .i64 (Rd.pV (Rd.tl s.data.toList) 0)) := by have h := hcc 0 _ rfl; rw [Addr.add_zero'] at h; exact h
    have g1 : wr.cell? ⟨ad.block, ad.off + 1, none⟩ = some (.int .i64 (Rd.pV (Rd.tl s.data.toList) 1)) := by have h := hcc 1 _ rfl; rw [Addr.add_succ'] at h; exact h
    have g2 : wr.cell? ⟨ad.block, ad.off + 2, none⟩ = some (.int .i64 (Rd.pV (Rd.tl s.data.toList) 2)) := by have h := hcc 2 _ rfl; rw [Addr.add_succ'] at h; exact h
    have g3 : wr.cell? ⟨ad.block, ad.off + 3, none⟩ = some (.int .i64 (Rd.pV (Rd.tl s.data.toList) 3)) := by have h := hcc 3 _ rfl; rw [Addr.add_succ'] at h; exact h
    have g4 : wr.cell? ⟨ad.block, ad.off + 4, none⟩ = some (.int .i64 (Rd.pV (Rd.tl s.data.toList) 4)) := by have h := hcc 4 _ rfl; rw [Addr.add_succ'] at h; exact h
    have G3 := Lib.hid (H3.out hb.out hbz)
    have G4 := Lib.hid (H4.out hb.out hbz)
    have CS := Lib.hid (fun W => rsright_any a (Rd.pV (Rd.tl s.data.toList) 0) (Rd.pV (Rd.tl s.data.toList) 1) (Rd.pV (Rd.tl s.data.toList) 2) (Rd.pV (Rd.tl s.data.toList) 3) (Rd.pV (Rd.tl s.data.toList) 4) W)
    clear hcc ha PT H1 H2 H3 H4 hok hown hb
    generalize Rd.pV (Rd.tl s.data.toList) 0 = p0 at *
    generalize Rd.pV (Rd.tl s.data.toList) 1 = p1 at *
    generalize Rd.pV (Rd.tl s.data.toList) 2 = p2 at *
    generalize Rd.pV (Rd.tl s.data.toList) 3 = p3 at *
    generalize Rd.pV (Rd.tl s.data.toList) 4 = p4 at *
    have c_b := B.hb; have c_f := B.fz; have c_0 := B.k0; have c_1 := B.k1; have c_2 := B.k2; have c_3 := B.k3; have c_4 := B.k4; have c_5 := B.k5
    clear hbk
    go_wp2_with fail
    refine (CY.out _).mono ?_; rintro e w1 ⟨rfl, rfl⟩
    go_wp2_with fail
    go_region
    clear g0 g1 g2 g3 g4 c_f c_0 c_1 c_2 c_3 c_4 c_5
    cases hr : St.rB a p0 p1 p2 p3 p4
    ·
     have HR := Lib.hid (G3.out hr)
     rw [hr] at CS
     clear hr G3 G4
     go_wp2_with fail
     refine (CS.out _).mono ?_; rintro e w2 ⟨rfl, b2⟩
     have d2 : Below wr.heap.size wr w2 := below_step gr0 b2
     have Z := B.keep d2
     have E2 := Lib.hid (below_step hbel.out d2)
     have c_b := Z.hb; have c_f := Z.fz; have c_0 := Z.k0; have c_1 := Z.k1; have c_2 := Z.k2; have c_3 := Z.k3; have c_4 := Z.k4; have c_5 := Z.k5
     clear b2 d2 B Z hbel
     go_wp2_with fail
     refine bodyPost_ret (v := .tuple #[.agg #[.int .i64 0, .int .i64 0, .int .i64 0, .int .i64 0, .int .i64 0, .int .i64 0], .int .i64 1]) (by simp [results, Tryz.results56, go_sem, c_b, c_f, c_0, c_1, c_2, c_3, c_4, c_5]) rfl ⟨by rw [HR.out], ?_⟩
     repeat (first | refine Below.setCell ?_ (by first | (simp; done) | (simp; omega) | omega) _ | refine _root_.Go.below_drewN ?_ _ | refine Below.drew ?_)
     exact E2.out
    ·
     have HR := Lib.hid (G4.out hr)
     rw [hr] at CS
     clear hr G3 G4
     go_wp2_with fail
     refine (CS.out _).mono ?_; rintro e w2 ⟨rfl, b2⟩
     have X : Bk6 w2 wr.heap.size (.int .i64 a) (.int .i64 p0) (.int .i64 p1) (.int .i64 p2) (.int .i64 p3) (.int .i64 p4) := Bk6.of b2 (by simp) (by intro j; simp [go_sem]) (by simp [go_sem]) (by simp [go_sem]) (by simp [go_sem]) (by simp [go_sem]) (by simp [go_sem]) (by simp [go_sem])
     have d2 : Below wr.heap.size wr w2 := below_step gr0 b2
     have Z := B.keep d2
     have hlt2 := B.hb
     have E2 := Lib.hid (below_step hbel.out d2)
     have c_b := Z.hb; have c_f := Z.fz; have c_0 := Z.k0; have c_1 := Z.k1; have c_2 := Z.k2; have c_3 := Z.k3; have c_4 := Z.k4; have c_5 := Z.k5
     have x_b := X.hb; have x_f := X.fz; have x_0 := X.k0; have x_1 := X.k1; have x_2 := X.k2; have x_3 := X.k3; have x_4 := X.k4; have x_5 := X.k5
     clear b2 d2 B Z X hbel
     go_wp2_with fail
     refine bodyPost_ret (v := .tuple #[.agg #[.int .i64 a, .int .i64 p0, .int .i64 p1, .int .i64 p2, .int .i64 p3, .int .i64 p4], .int .i64 0]) (by simp [results, Tryz.results56, go_sem, c_b, c_f, c_0, c_1, c_2, c_3, c_4, c_5]) rfl ⟨by rw [HR.out], ?_⟩
     repeat (first | refine Below.setCell ?_ (by first | (simp; done) | (simp; omega) | omega) _ | refine _root_.Go.below_drewN ?_ _ | refine Below.drew ?_)
     exact E2.out
structure Own (w W : World) (b : Nat) : Prop where
 one : One w W b (.int .i64 0) (.int .i64 0) (.int .i64 0)
 old : w.heap.size ≤ b
 f0 : W.frozen? ⟨b, 0, none⟩ = false
 f1 : W.frozen? ⟨b, 1, none⟩ = false
 f2 : W.frozen? ⟨b, 2, none⟩ = false
theorem Own.keep {w W W' : World} {b : Nat} (h : Own w W b) (k : Below W.heap.size W W') : Own w W' b := by
 obtain ⟨h1, ho, f0, f1, f2⟩ := h
 have hb := h1.hb
 exact ⟨h1.keep k, ho, by rw [k.frozen (p := ⟨b, _, none⟩) hb]; exact f0, by rw [k.frozen (p := ⟨b, _, none⟩) hb]; exact f1, by rw [k.frozen (p := ⟨b, _, none⟩) hb]; exact f2⟩
theorem Own.new {w : World} {t : TypeId} : Own w (w.alloc (.cells #[.int .i64 0, .int .i64 0, .int .i64 0] t)) w.heap.size :=
 ⟨One.new (Below.refl _ _), Nat.le_refl _, by simp [go_sem], by simp [go_sem], by simp [go_sem]⟩
end Go.Proofs.YtbcbggdbojonmaaGreatDoor
