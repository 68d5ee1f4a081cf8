/- Joined: FdK, Byt, RnD, RnE, RnF, ShelfP, NumAr. -/
import Derived.Test.YtlelpeocbgjmhaaGreatDoorBy20
import Derived.Test.YtlelpeocbgjmhaaGreatDoorBy21
import Derived.Test.YtlelpeocbgjmhaaGreatDoorBy09
import Derived.Test.YtlelpeocbgjmhaaGreatDoorBy08
import Derived.Test.YtlelpeocbgjmhaaGreatDoorBy04
import Derived.Shelf.Strconv.ParseIntPublic10
import Derived.Shelf.Strconv.ErrVarParseInt
set_option linter.unusedVariables false
set_option linter.unusedSimpArgs false
namespace Go.Proofs.YtlelpeocbgjmhaaGreatDoor
open Go.RowKit Go.Sort
set_option maxRecDepth 100000 in
theorem fd_callFn (qs : Array Value) (W : World) : Sem.run Tryz.prog (callFunc 52 qs) W = .ok (.enter 52 qs) W := rfl
set_option maxHeartbeats 1000000 in
set_option maxRecDepth 100000 in
theorem of1_any (b : Nat) (s : ByteArray) (w : World) (hc : w.cell? ⟨b, 0, none⟩ = some (.string s)) (hs : s.size ≤ 100000000) :
  Calls Tryz.prog 52 #[.pointer (some ⟨b, 0, none⟩)] w fun e w' => Below w.heap.size w w' ∧ (((Fd.of s.data.toList).2 = 0 ∧ ∃ (v : Value) (l : List ByteArray), StO w.heap.size w' v l ∧ l.map (·.data.toList) = (Fd.of s.data.toList).1 ∧ e = .returned v) ∨ ((Fd.of s.data.toList).2 ≠ 0 ∧ e = .panicked (gvP (Fd.of s.data.toList).2))) := by
 have C := Lib.hid (fun b W H => cfields_any b s W H hs)
 unfold AnsCs at C
 generalize Fd.of s.data.toList = R at C ⊢
 clear hs
 go_enter Tryz.func52, Tryz.ntmps52
 go_wp2_with fail
 have hk : Bk1 (w.alloc (.cells #[.string s] 89)) w.heap.size (.string s) := ⟨by simp, fun j => by simp [go_sem], by simp [go_sem]⟩
 have hB : Below w.heap.size w (w.alloc (.cells #[.string s] 89)) := (Below.refl _ _).alloc (Nat.le_refl _) _
 refine (C.out _ _ hk).mono ?_; rintro e w1 ⟨g1, h1⟩
 have hsz := hB.size
 have hz : w.heap.size ≤ (w.alloc (.cells #[.string s] 89)).heap.size := hsz
 have B1 := Lib.hid (hB.trans (grown_at g1 hz))
 rcases h1 with ⟨h0, v, l, own, hl, rfl⟩ | ⟨h0, rfl⟩
 ·
  have ST := Lib.hid (StO.own own hz)
  have HL := Lib.hid hl
  clear own hl g1 hB hk
  go_wp2_with fail
  go_ret
  exact ⟨B1.out, .inl ⟨h0, v, l, ST.out, HL.out, rfl⟩⟩
 ·
  refine (show bodyPost _ _ _ (Exit.panic (gvP R.2)) _ _ from ?_)
  simp [bodyPost]
  exact ⟨B1.out, h0⟩
set_option maxHeartbeats 1000000 in
set_option maxRecDepth 100000 in
theorem fof_any (s : ByteArray) (w : World) (hs : s.size ≤ 100000000) :
  Calls Tryz.prog 30 #[.string s] w (AnsF (Fd.of s.data.toList) w) := by
 have C := Lib.hid (fun b W hc => of1_any b s W hc hs)
 have hR : (Fd.of s.data.toList).2 ≠ 0 → (Fd.of s.data.toList).1 = [] := by
  unfold Fd.of
  generalize Fd.go [] [] false false s.data.toList = o
  cases o with
  | none => intro _; rfl
  | some P =>
   rw [Fd.told_some]
   split
   ·
    intro _; rfl
   ·
    intro h; exact absurd rfl h
 generalize Fd.of s.data.toList = R at C hR ⊢
 obtain ⟨P, why⟩ := R
 by_cases h0 : why = 0
 ·
  subst h0
  have T := Lib.hid (fun b W (hc : W.cell? ⟨b, 0, none⟩ = some (.string s)) => tcaught_yes 52 #[.pointer (some ⟨b, 0, none⟩)] (fd_callFn _) P W (Lib.hid fun W' hB => (C.out b W' (fd_keep hc hB)).mono (by
   rintro e w' ⟨h1, ⟨-, v, l, h2, h3, h4⟩ | ⟨h2, -⟩⟩
   ·
    exact ⟨v, l, h2, h3, h4, h1⟩
   ·
    exact absurd rfl h2)))
  clear C hR
  go_enter Tryz.func30, Tryz.ntmps30
  go_wp2_with fail
  refine (T.out _ _ (by simp [go_sem])).mono ?_; rintro e w1 ⟨v, l, hst, hl, rfl, b1⟩
  have ST := Lib.hid hst; have HL := Lib.hid hl
  have B1 := Lib.hid (below_step ((Below.refl _ _).alloc (Nat.le_refl _) _) b1)
  clear hst hl b1
  go_wp2_with fail
  go_ret2
  exact ⟨v, l, ST.out, HL.out, rfl, B1.out⟩
 ·
  have hP : P = [] := hR h0
  subst hP
  have T := Lib.hid (fun b W (hc : W.cell? ⟨b, 0, none⟩ = some (.string s)) => tcaught_no 52 #[.pointer (some ⟨b, 0, none⟩)] (fd_callFn _) 0 why W (Lib.hid fun W' hB => (C.out b W' (fd_keep hc hB)).mono (by
   rintro e w' ⟨h1, ⟨h2, -⟩ | ⟨h2, h3⟩⟩
   ·
    exact absurd h2 h0
   ·
    exact ⟨h3, h1⟩)))
  clear C hR
  go_enter Tryz.func30, Tryz.ntmps30
  go_wp2_with fail
  refine (T.out _ _ (by simp [go_sem])).mono ?_; rintro e w1 ⟨rfl, b1⟩
  have B1 := Lib.hid (below_step ((Below.refl _ _).alloc (Nat.le_refl _) _) b1)
  clear b1
  go_wp2_with fail
  go_ret2
  exact ⟨_, [], StS.nil _, rfl, rfl, B1.out⟩
end Go.Proofs.YtlelpeocbgjmhaaGreatDoor
set_option linter.unusedVariables false
set_option linter.unusedSimpArgs false
namespace Go.Proofs.YtlelpeocbgjmhaaGreatDoor
open Go.RowKit
namespace Num
end Num
end Go.Proofs.YtlelpeocbgjmhaaGreatDoor
set_option linter.unusedVariables false
namespace Go.Proofs
open Go.Shelf
theorem Tryz.parseInt_ok (s : ByteArray) (hmax : s.size ≤ 9223372036854775806) (v : Int) (h : Lib.parseIntB 64 s.data.toList = .ok v) (w : World) :
  Calls Tryz.prog 55 #[.string s, .int .i64 10, .int .i64 64] w fun e w' => e = .returned (.tuple #[.int .i64 v, .nilIface]) ∧ RowKit.Below w.heap.size w w' :=
 (Any.strconv_ParseInt_10_at64_ok Tryz.laysC174 s hmax v h w).mono fun _ _ ⟨h, k⟩ => ⟨h, by
  rcases k with e | ⟨t, e⟩
  ·
   rw [e]; exact RowKit.Below.refl _ _
  ·
   rw [e]; exact Lib.bytesWorld_below _ _ _⟩
theorem Tryz.parseInt_range (s : ByteArray) (hlim : s.size ≤ 281474976710656) (h : Lib.parseIntB 64 s.data.toList = .range) (tp : TypeId) (p : Value) (w : World) (hvar : w.var? Tryz.prog "strconv.ErrRange" = some #[.iface tp p]) :
  Calls Tryz.prog 55 #[.string s, .int .i64 10, .int .i64 64] w fun e w' => (∃ N, e = .returned (.tuple #[.int .i64 (Lib.intSat 64 s.data.toList), .iface 140 (.pointer (some ⟨N, 0, none⟩))])) ∧ RowKit.Below w.heap.size w w' :=
 (Any.strconv_ParseInt_10_at64_range_var Tryz.laysC174 s hlim h tp p w hvar).mono fun _ _ ⟨N, h, _, _, b⟩ => ⟨⟨N, h⟩, b⟩
end Go.Proofs
set_option linter.unusedVariables false
set_option linter.unusedSimpArgs false
namespace Go.Proofs.YtlelpeocbgjmhaaGreatDoor
open Go.RowKit
set_option maxHeartbeats 4000000 in
theorem isText_any (s : ByteArray) (w : World) (hs : s.size ≤ maxLen) :
  Calls Tryz.prog 54 #[.string s] w fun e w' => e = .returned (.bool (Num.isT s.data.toList)) ∧ ∃ k, w' = w.drewN k := by
 rw [show Num.isT s.data.toList = Num.numT (Lib.hasPrefix s.data.toList [45]) (Lib.trimPrefix s.data.toList [45]) from rfl]
 have hl : (Lib.trimPrefix s.data.toList [45]).length ≤ s.size := by
  unfold Lib.trimPrefix
  have : s.data.toList.length = s.size := by simp
  split
  ·
   rw [List.length_drop]; omega
  ·
   omega
 obtain ⟨b, hb⟩ : ∃ b, Lib.hasPrefix s.data.toList [45] = b := ⟨_, rfl⟩
 obtain ⟨l, hl2⟩ : ∃ l, Lib.trimPrefix s.data.toList [45] = l := ⟨_, rfl⟩
 rw [hl2] at hl
 rw [hb, hl2]
 have HB := Lib.hid hb; have HL := Lib.hid hl2; clear hb hl2
 obtain ⟨ds, hds⟩ : ∃ ds : ByteArray, ds = ⟨l.toArray⟩ := ⟨_, rfl⟩
 have hdl : l = ds.data.toList := by rw [hds]
 have hsz : ds.size ≤ s.size := by rw [hds]; show l.toArray.size ≤ s.size; rw [List.size_toArray]; exact hl
 have HD := Lib.hid hds; clear hds
 unfold maxLen at hs
 rw [hdl]
 have HDL := Lib.hid hdl; clear hdl hl
 rcases Nat.eq_zero_or_pos ds.size with hz | hz
 ·
  have hnil : ds.data.toList = [] := by rw [← List.length_eq_zero_iff, dlen]; exact hz
  have ht : ds.toList = [] := by rw [ByteArray.toList_eq]; exact hnil
  have hte : ds.toList.isEmpty = true := by rw [ht]; rfl
  rw [hnil]
  have HZ := Lib.hid hz; clear hz hnil
  go_enter Tryz.func54, Tryz.ntmps54
  go_wp2_with fail
  refine (cutPrefix _ _ _).mono ?_; rintro e w1 ⟨rfl, rfl⟩
  rw [show (⟨#[45]⟩ : ByteArray).data.toList = [45] from rfl, HB.out, HL.out, ← HD.out]
  clear HB HL
  go_wp2_with fail
  go_ret
  exact ⟨rfl, 0, rfl⟩
 ·
  obtain ⟨t1, t2⟩ := dne hz
  by_cases h48 : ds[0].toNat = 48
  ·
   have h48' : ((ds[0].toNat : Int) == 48) = true := by rw [beq_iff_eq]; omega
   cases hbb : b
   ·
    by_cases h1 : 1 < ds.size
    ·
     have h1i : (1 : Int) < (ds.size : Int) := by omega
     have hno := front_no (b := false) hz h48 (.inr h1)
     have HN := Lib.hid hno; clear hno
     rw [hbb] at HB
     clear hbb
     have H48 := Lib.hid h48; clear h48
     go_enter Tryz.func54, Tryz.ntmps54
     go_wp2_with fail
     refine (cutPrefix _ _ _).mono ?_; rintro e w1 ⟨rfl, rfl⟩
     rw [show (⟨#[45]⟩ : ByteArray).data.toList = [45] from rfl, HB.out, HL.out, ← HD.out]
     clear HB HL
     go_wp2_with fail
     go_ret
     refine ⟨?_, 0, rfl⟩
     rw [HN.out]
     all_goals rfl
    ·
     have h1i : (ds.size : Int) ≤ 1 := by omega
     have hf := front (b := false) hz (fun _ => ⟨rfl, by omega⟩)
     have HF := Lib.hid hf; clear hf
     rw [hbb] at HB
     clear hbb
     have H48 := Lib.hid h48; clear h48
     go_enter Tryz.func54, Tryz.ntmps54
     go_wp2_with fail
     refine (cutPrefix _ _ _).mono ?_; rintro e w1 ⟨rfl, rfl⟩
     rw [show (⟨#[45]⟩ : ByteArray).data.toList = [45] from rfl, HB.out, HL.out, ← HD.out]
     clear HB HL
     go_wp2_with fail
     go_loop [28] (fun i => ∃ k : Nat, k ≤ ds.size ∧ i = .int .i64 k ∧ (ds.data.toList.take k).all Num.dig = true) (fun i => ds.size - (intOf i).toNat)
     case atStart => exact ⟨0, Nat.zero_le _, rfl, rfl⟩
     case round =>
      obtain ⟨k, hk, rfl, hall⟩ := hrel
      have HA := Lib.hid hall; clear hall
      by_cases hlt : k < ds.size
      ·
       by_cases h1 : (ds[k].toNat : Int) < 48
       ·
        have hno : ds.data.toList.all Num.dig = false := not_all hlt (by omega)
        have HN := Lib.hid hno; clear hno
        go_wp2
        go_ret
        refine ⟨?_, 0, rfl⟩
        rw [HF.out, HN.out]
        all_goals rfl
       ·
        by_cases h2 : 57 < (ds[k].toNat : Int)
        ·
         have hno : ds.data.toList.all Num.dig = false := not_all hlt (by omega)
         have HN := Lib.hid hno; clear hno
         go_wp2
         go_ret
         refine ⟨?_, 0, rfl⟩
         rw [HF.out, HN.out]
         all_goals rfl
        ·
         have hst : (ds.data.toList.take (k + 1)).all Num.dig = true := take_all hlt HA.out (by omega)
         have HS := Lib.hid hst; clear hst
         go_wp2
         go_round
         case rel => exact ⟨k + 1, by omega, by go_num, HS.out⟩
         case measure => simp [intOf]; omega
      ·
       have hend : ds.data.toList.all Num.dig = true := by
        have := HA.out
        rwa [List.take_of_length_le (by rw [dlen]; omega)] at this
       have HE := Lib.hid hend; clear hend
       go_wp2
       go_ret
       refine ⟨?_, 0, rfl⟩
       rw [HF.out, HE.out]
       all_goals rfl
   ·
    have hno := front_no (b := true) hz h48 (.inl rfl)
    have HN := Lib.hid hno; clear hno
    rw [hbb] at HB
    clear hbb
    have H48 := Lib.hid h48; clear h48
    go_enter Tryz.func54, Tryz.ntmps54
    go_wp2_with fail
    refine (cutPrefix _ _ _).mono ?_; rintro e w1 ⟨rfl, rfl⟩
    rw [show (⟨#[45]⟩ : ByteArray).data.toList = [45] from rfl, HB.out, HL.out, ← HD.out]
    clear HB HL
    go_wp2_with fail
    go_ret
    refine ⟨?_, 0, rfl⟩
    rw [HN.out]
    all_goals rfl
  ·
   have h48' : ((ds[0].toNat : Int) == 48) = false := by rw [beq_eq_false_iff_ne]; omega
   have hf := front (b := b) hz (fun h => absurd h h48)
   have HF := Lib.hid hf; clear hf
   clear h48
   go_enter Tryz.func54, Tryz.ntmps54
   go_wp2_with fail
   refine (cutPrefix _ _ _).mono ?_; rintro e w1 ⟨rfl, rfl⟩
   rw [show (⟨#[45]⟩ : ByteArray).data.toList = [45] from rfl, HB.out, HL.out, ← HD.out]
   clear HB HL
   go_wp2_with fail
   go_loop [28] (fun i => ∃ k : Nat, k ≤ ds.size ∧ i = .int .i64 k ∧ (ds.data.toList.take k).all Num.dig = true) (fun i => ds.size - (intOf i).toNat)
   case atStart => exact ⟨0, Nat.zero_le _, rfl, rfl⟩
   case round =>
    obtain ⟨k, hk, rfl, hall⟩ := hrel
    have HA := Lib.hid hall; clear hall
    by_cases hlt : k < ds.size
    ·
     by_cases h1 : (ds[k].toNat : Int) < 48
     ·
      have hno : ds.data.toList.all Num.dig = false := not_all hlt (by omega)
      have HN := Lib.hid hno; clear hno
      go_wp2
      go_ret
      refine ⟨?_, 0, rfl⟩
      rw [HF.out, HN.out]
      all_goals rfl
     ·
      by_cases h2 : 57 < (ds[k].toNat : Int)
      ·
       have hno : ds.data.toList.all Num.dig = false := not_all hlt (by omega)
       have HN := Lib.hid hno; clear hno
       go_wp2
       go_ret
       refine ⟨?_, 0, rfl⟩
       rw [HF.out, HN.out]
       all_goals rfl
      ·
       have hst : (ds.data.toList.take (k + 1)).all Num.dig = true := take_all hlt HA.out (by omega)
       have HS := Lib.hid hst; clear hst
       go_wp2
       go_round
       case rel => exact ⟨k + 1, by omega, by go_num, HS.out⟩
       case measure => simp [intOf]; omega
    ·
     have hend : ds.data.toList.all Num.dig = true := by
      have := HA.out
      rwa [List.take_of_length_le (by rw [dlen]; omega)] at this
     have HE := Lib.hid hend; clear hend
     go_wp2
     go_ret
     refine ⟨?_, 0, rfl⟩
     rw [HF.out, HE.out]
     all_goals rfl
set_option maxHeartbeats 1000000 in
theorem read_no (s : ByteArray) (w : World) (hs : s.size ≤ maxLen) (ht : Num.isT s.data.toList = false) :
  Calls Tryz.prog 32 #[.string s] w fun e w' => e = .returned (.tuple #[.int .i64 0, .int .i64 2]) ∧ Below w.heap.size w w' := by
 have HT := Lib.hid ht; clear ht
 go_enter Tryz.func32, Tryz.ntmps32
 go_wp2_with fail
 refine (isText_any _ _ hs).mono ?_; rintro e w1 ⟨rfl, k, rfl⟩
 rw [HT.out]
 go_wp2_with fail
 go_ret2
 exact ⟨rfl, below_draw _ _⟩
set_option maxHeartbeats 1000000 in
theorem read_ok (s : ByteArray) (v : Int) (w : World) (hs : s.size ≤ maxLen) (ht : Num.isT s.data.toList = true) (h : Lib.parseIntB 64 s.data.toList = .ok v) (hm : s.size ≤ 9223372036854775806) :
  Calls Tryz.prog 32 #[.string s] w fun e w' => e = .returned (.tuple #[.int .i64 v, .int .i64 0]) ∧ Below w.heap.size w w' := by
 have HT := Lib.hid ht; have H := Lib.hid h; have HM := Lib.hid hm; clear ht h hm
 go_enter Tryz.func32, Tryz.ntmps32
 go_wp2_with fail
 refine (isText_any _ _ hs).mono ?_; rintro e w1 ⟨rfl, k, rfl⟩
 rw [HT.out]
 go_wp2_with fail
 refine (Tryz.parseInt_ok _ HM.out v H.out _).mono ?_; rintro e w2 ⟨rfl, b2⟩
 have B2 := Lib.hid (below_step (below_draw w k) b2)
 clear b2
 go_wp2_with fail
 go_ret2
 exact ⟨rfl, B2.out⟩
set_option maxHeartbeats 1000000 in
theorem read_range (s : ByteArray) (w : World) (hs : s.size ≤ maxLen) (ht : Num.isT s.data.toList = true) (h : Lib.parseIntB 64 s.data.toList = .range) (hm : s.size ≤ 281474976710656) (tp : TypeId) (p : Value) (hvar : w.var? Tryz.prog "strconv.ErrRange" = some #[.iface tp p]) :
  Calls Tryz.prog 32 #[.string s] w fun e w' => e = .returned (.tuple #[.int .i64 0, .int .i64 1]) ∧ Below w.heap.size w w' := by
 have HT := Lib.hid ht; have H := Lib.hid h; have HM := Lib.hid hm; have HV := Lib.hid hvar; clear ht h hm hvar
 go_enter Tryz.func32, Tryz.ntmps32
 go_wp2_with fail
 refine (isText_any _ _ hs).mono ?_; rintro e w1 ⟨rfl, k, rfl⟩
 rw [HT.out]
 go_wp2_with fail
 refine (Tryz.parseInt_range _ HM.out H.out tp p _ (var_keep (below_draw w k) HV.out)).mono ?_; rintro e w2 ⟨⟨N, rfl⟩, b2⟩
 have B2 := Lib.hid (below_step (below_draw w k) b2)
 clear b2
 go_wp2_with fail
 go_ret2
 exact ⟨rfl, B2.out⟩
end Go.Proofs.YtlelpeocbgjmhaaGreatDoor
