/- Joined: StG. -/
import Derived.Test.YtifgiclnofdnkaaGreatDoorBy08
import Derived.Test.YtifgiclnofdnkaaGreatDoorBy16
set_option linter.unusedVariables false
set_option linter.unusedSimpArgs false
namespace Go.Proofs.YtifgiclnofdnkaaGreatDoor
open Go.RowKit
theorem tp_len (l p : List UInt8) : (Lib.trimPrefix l p).length ≤ l.length := by
 unfold Lib.trimPrefix
 split
 ·
  rw [List.length_drop]; omega
 ·
  omega
theorem cut_as (s : ByteArray) (W : World) : ∃ (D : ByteArray) (b : Bool), D.data.toList = Lib.trimPrefix s.data.toList [45] ∧ b = Lib.hasPrefix s.data.toList [45] ∧ D.size ≤ s.size ∧
  ∀ W, Calls Tryz.prog 117 #[.string s, .string ⟨#[45]⟩] W fun e w' => e = .returned (.tuple #[.string D, .bool b]) ∧ W = w' := by
 refine ⟨⟨(Lib.trimPrefix s.data.toList [45]).toArray⟩, _, rfl, rfl, ?_, fun W => cutPrefix s ⟨#[45]⟩ W⟩
 show (Lib.trimPrefix s.data.toList [45]).toArray.size ≤ s.size
 rw [List.size_toArray, ← bl_len s]
 exact tp_len _ _
theorem head_b {D : ByteArray} (h : 0 < D.size) : D.data.toList.head? = some D[0] := by
 rw [List.head?_eq_getElem?, List.getElem?_eq_getElem (by rw [bl_len]; exact h)]
 rfl
set_option maxHeartbeats 2000000 in
set_option maxRecDepth 100000 in
theorem isyear_any (s : ByteArray) (w : World) (hs : s.size ≤ maxLen) :
  Calls Tryz.prog 92 #[.string s] w fun e w' => e = .returned (.bool (Rd.isY s.data.toList)) ∧ w = w' := by
 obtain ⟨D, b, hD, hb, hz, C0⟩ := cut_as s w
 have C := Lib.hid C0; clear C0
 have A0 := Lib.hid (fun W => sdig_any D W (Nat.le_trans hz hs))
 have e : Rd.isY s.data.toList = (!(decide (D.size < 4)) && (!(decide (4 < D.size) && (D.data.toList.head? == some 48)) && (D.data.toList.all Num.dig && !(b && (D.data.toList == [48, 48, 48, 48]))))) := by
  unfold Rd.isY; rw [← hD, ← hb, bl_len]
 rw [e]
 clear e hD hb
 unfold maxLen at hs
 by_cases c1 : (D.size : Int) < 4
 ·
  rw [decide_eq_true (show D.size < 4 by omega)]
  go_enter Tryz.func92, Tryz.ntmps92
  go_wp2_with fail
  refine (C.out _).mono ?_; rintro e w1 ⟨rfl, rfl⟩
  go_wp2_with fail
  go_ret
  exact ⟨rfl, rfl⟩
 ·
  rw [decide_eq_false (show ¬ D.size < 4 by omega)]
  have hpos : 0 < D.size := by omega
  rw [head_b hpos]
  by_cases c2 : 4 < (D.size : Int) ∧ (D[0].toNat : Int) = 48
  ·
   obtain ⟨c2, c3⟩ := c2
   have h48 : D[0] = 48 := UInt8.toNat_inj.1 (by show D[0].toNat = 48; omega)
   rw [decide_eq_true (show 4 < D.size by omega), h48]
   have g : ((D[0].toNat : Int) == 48) = true := by rw [beq_iff_eq]; exact c3
   go_enter Tryz.func92, Tryz.ntmps92
   go_wp2_with fail
   refine (C.out _).mono ?_; rintro e w1 ⟨rfl, rfl⟩
   go_wp2_with fail
   go_ret
   exact ⟨rfl, rfl⟩
  ·
   have e1 : (!(decide (4 < D.size) && (some D[0] == some 48))) = true := by
    by_cases c3 : 4 < (D.size : Int)
    ·
     have h48 : D[0] ≠ 48 := fun h => c2 ⟨c3, by rw [h]; rfl⟩
     simp [h48]
    ·
     rw [decide_eq_false (show ¬ 4 < D.size by omega)]; rfl
   rw [e1]
   have hnot : 4 < (D.size : Int) → ((D[0].toNat : Int) == 48) = false := fun h => by rw [beq_eq_false_iff_ne]; exact fun h2 => c2 ⟨h, h2⟩
   have HN := Lib.hid hnot
   clear hnot e1 c2
   generalize hdd : D.data.toList.all Num.dig = dd at A0 ⊢
   have fin : ∀ r : Bool, (!false && (true && (dd && !r))) = (dd && !r) := fun r => by simp
   rw [fin]
   have e4 : (D.data.toList == [48, 48, 48, 48]) = (D.toList == [48, 48, 48, 48]) := by rw [ByteArray.toList_eq]
   rw [e4]
   clear fin e4 hdd
   by_cases c3 : 4 < (D.size : Int)
   ·
    have g := HN.out c3
    cases dd
    ·
     go_enter Tryz.func92, Tryz.ntmps92
     go_wp2_with fail
     refine (C.out _).mono ?_; rintro e w1 ⟨rfl, rfl⟩
     go_wp2_with fail
     refine (A0.out _).mono ?_; rintro e w1 ⟨rfl, rfl⟩
     go_wp2_with fail
     go_ret
     exact ⟨rfl, rfl⟩
    ·
     cases b
     ·
      go_enter Tryz.func92, Tryz.ntmps92
      go_wp2_with fail
      refine (C.out _).mono ?_; rintro e w1 ⟨rfl, rfl⟩
      go_wp2_with fail
      refine (A0.out _).mono ?_; rintro e w1 ⟨rfl, rfl⟩
      go_wp2_with fail
      go_ret
      exact ⟨rfl, rfl⟩
     ·
      skip
      go_enter Tryz.func92, Tryz.ntmps92
      go_wp2_with fail
      refine (C.out _).mono ?_; rintro e w1 ⟨rfl, rfl⟩
      go_wp2_with fail
      refine (A0.out _).mono ?_; rintro e w1 ⟨rfl, rfl⟩
      go_wp2_with fail
      go_ret
      exact ⟨rfl, rfl⟩
   ·
    cases dd
    ·
     go_enter Tryz.func92, Tryz.ntmps92
     go_wp2_with fail
     refine (C.out _).mono ?_; rintro e w1 ⟨rfl, rfl⟩
     go_wp2_with fail
     refine (A0.out _).mono ?_; rintro e w1 ⟨rfl, rfl⟩
     go_wp2_with fail
     go_ret
     exact ⟨rfl, rfl⟩
    ·
     cases b
     ·
      go_enter Tryz.func92, Tryz.ntmps92
      go_wp2_with fail
      refine (C.out _).mono ?_; rintro e w1 ⟨rfl, rfl⟩
      go_wp2_with fail
      refine (A0.out _).mono ?_; rintro e w1 ⟨rfl, rfl⟩
      go_wp2_with fail
      go_ret
      exact ⟨rfl, rfl⟩
     ·
      go_enter Tryz.func92, Tryz.ntmps92
      go_wp2_with fail
      refine (C.out _).mono ?_; rintro e w1 ⟨rfl, rfl⟩
      go_wp2_with fail
      refine (A0.out _).mono ?_; rintro e w1 ⟨rfl, rfl⟩
      go_wp2_with fail
      go_ret
      exact ⟨rfl, rfl⟩
namespace Rd
def ya (l : List UInt8) : Int := if yl l then yv l else 0
end Rd
set_option maxHeartbeats 2000000 in
set_option maxRecDepth 100000 in
theorem ryear_any (s : ByteArray) (w : World) (hd : (Lib.trimPrefix s.data.toList [45]).all Num.dig = true) :
  Calls Tryz.prog 94 #[.string s] w fun e w' => e = .returned (.tuple #[.int .i64 (Rd.ya s.data.toList), .bool (Rd.yl s.data.toList)]) ∧ w = w' := by
 obtain ⟨D, b, hD, hb, hz, C0⟩ := cut_as s w
 have C := Lib.hid C0; clear C0
 rw [← hD] at hd
 unfold Rd.ya Rd.yl Rd.yv
 rw [← hD, ← hb, bl_len]
 clear hD hb hz
 by_cases c1 : 5 < (D.size : Int)
 ·
  rw [decide_eq_false (show ¬ D.size ≤ 5 by omega)]
  clear hd
  go_enter Tryz.func94, Tryz.ntmps94
  go_wp2_with fail
  refine (C.out _).mono ?_; rintro e w1 ⟨rfl, rfl⟩
  go_wp2_with fail
  go_ret2
  exact ⟨rfl, rfl⟩
 ·
  rw [decide_eq_true (show D.size ≤ 5 by omega)]
  have V0 := Lib.hid (fun W => sval_any D W (by omega) hd)
  have bd := Num.val_bd hd (show D.data.toList.length ≤ 5 by rw [bl_len]; omega)
  generalize Num.val 0 D.data.toList = v at V0 bd ⊢
  have b0 : (0 : Int) ≤ v := by omega
  have b1 : (v : Int) ≤ 99999 := by omega
  generalize (v : Int) = v' at V0 b0 b1 ⊢
  clear hd bd
  cases b
  ·
   go_enter Tryz.func94, Tryz.ntmps94
   go_wp2_with fail
   refine (C.out _).mono ?_; rintro e w1 ⟨rfl, rfl⟩
   go_wp2_with fail
   refine (V0.out _).mono ?_; rintro e w1 ⟨rfl, rfl⟩
   go_wp2_with fail
   go_ret2
   exact ⟨rfl, rfl⟩
  ·
   go_enter Tryz.func94, Tryz.ntmps94
   go_wp2_with fail
   refine (C.out _).mono ?_; rintro e w1 ⟨rfl, rfl⟩
   go_wp2_with fail
   refine (V0.out _).mono ?_; rintro e w1 ⟨rfl, rfl⟩
   go_wp2_with fail
   go_ret2
   exact ⟨rfl, rfl⟩
end Go.Proofs.YtifgiclnofdnkaaGreatDoor
