/- Joined: GvN0, GvN, GvA, ShelfP, NumAr. -/
import Derived.Test.YtbcbggdbojonmaaGreatDoorBq01
import Derived.Tactics
import Derived.Tactics2
import Derived.Defers
import Derived.Recover
import Derived.Laws.Pointers
import Derived.Shelf.Strconv.ParseIntPublic10
import Derived.Shelf.Strconv.ErrVarParseInt
import Derived.Test.YtbcbggdbojonmaaGreatDoorBq06
set_option linter.unusedVariables false
set_option linter.unusedSimpArgs false
namespace Go.Proofs.YtbcbggdbojonmaaGreatDoor
open Go.RowKit
def gvV (line why : Int) : Value := .iface 110 (.agg #[.int .i64 line, .int .i64 why])
def gvL (line why : Int) : List PanicEntry := [{ v := gvV line why, recovered := false }]
abbrev gvP (why : Int) : List PanicEntry := gvL 0 why
theorem needat_yes (line why : Int) (w : World) : Calls Tryz.prog 72 #[.bool true, .int .i64 line, .int .i64 why] w fun e w' => e = .returned (.tuple #[]) ∧ w = w' := by
 go_enter Tryz.func72, Tryz.ntmps72
 go_wp2_with fail
 simp [bodyPost, results, Tryz.results72]
theorem gv_build (line why : Int) (W : World) : Sem.run Tryz.prog (Instr.build 110 #[(0, .agg #[.int .i64 line, .int .i64 why])]) W = .ok (.agg #[.int .i64 line, .int .i64 why]) W := by kernel_rfl
theorem needat_no (line why : Int) (w : World) : Calls Tryz.prog 72 #[.bool false, .int .i64 line, .int .i64 why] w fun e w' => e = .panicked (gvL line why) ∧ w = w' := by
 have hgb := gv_build line why
 go_enter Tryz.func72, Tryz.ntmps72
 go_wp2_with fail
 simp [bodyPost, gvL, gvV]
theorem need_yes (why : Int) (w : World) : Calls Tryz.prog 42 #[.bool true, .int .i64 why] w fun e w' => e = .returned (.tuple #[]) ∧ w = w' := by
 go_enter Tryz.func42, Tryz.ntmps42
 go_wp2_with fail
 refine (needat_yes 0 why _).mono ?_; rintro e w1 ⟨rfl, rfl⟩
 go_wp2_with fail
 simp [bodyPost, results, Tryz.results42]
theorem need_no (why : Int) (w : World) : Calls Tryz.prog 42 #[.bool false, .int .i64 why] w fun e w' => e = .panicked (gvP why) ∧ w = w' := by
 go_enter Tryz.func42, Tryz.ntmps42
 go_wp2_with fail
 refine (needat_no 0 why _).mono ?_; rintro e w1 ⟨rfl, rfl⟩
 refine (show bodyPost _ _ _ (Exit.panic (gvP why)) _ _ from ?_)
 simp [bodyPost]
theorem for_yes (w : World) : Calls Tryz.prog 16 #[.int .i64 0] w fun e w' => e = .returned (.tuple #[]) ∧ w = w' := by
 go_enter Tryz.func16, Tryz.ntmps16
 go_wp2_with fail
 refine (need_yes 0 _).mono ?_; rintro e w1 ⟨rfl, rfl⟩
 go_wp2_with fail
 simp [bodyPost, results, Tryz.results16]
theorem for_no (why : Int) (w : World) (h : why ≠ 0) : Calls Tryz.prog 16 #[.int .i64 why] w fun e w' => e = .panicked (gvP why) ∧ w = w' := by
 have g : (why == 0) = false := by rw [beq_eq_false_iff_ne]; exact h
 clear h
 go_enter Tryz.func16, Tryz.ntmps16
 go_wp2_with fail
 refine (need_no why _).mono ?_; rintro e w1 ⟨rfl, rfl⟩
 refine (show bodyPost _ _ _ (Exit.panic (gvP why)) _ _ from ?_)
 simp [bodyPost]
theorem must_yes (v : Int) (w : World) : Calls Tryz.prog 78 #[.int .i64 v, .int .i64 0] w fun e w' => e = .returned (.int .i64 v) ∧ w = w' := by
 go_enter Tryz.func78, Tryz.ntmps78
 go_wp2_with fail
 refine (for_yes _).mono ?_; rintro e w1 ⟨rfl, rfl⟩
 go_wp2_with fail
 go_ret
 exact ⟨rfl, rfl⟩
theorem must_no (v why : Int) (w : World) (h : why ≠ 0) : Calls Tryz.prog 78 #[.int .i64 v, .int .i64 why] w fun e w' => e = .panicked (gvP why) ∧ w = w' := by
 go_enter Tryz.func78, Tryz.ntmps78
 go_wp2_with fail
 refine (for_no why _ h).mono ?_; rintro e w1 ⟨rfl, rfl⟩
 refine (show bodyPost _ _ _ (Exit.panic (gvP why)) _ _ from ?_)
 simp [bodyPost]
end Go.Proofs.YtbcbggdbojonmaaGreatDoor
set_option linter.unusedVariables false
namespace Go.Proofs
open Go.Shelf
theorem Tryz.parseInt_ok (s : ByteArray) (hmax : s.size ≤ 9223372036854775806) (v : Int) (h : Lib.parseIntB 64 s.data.toList = .ok v) (w : World) :
  Calls Tryz.prog 102 #[.string s, .int .i64 10, .int .i64 64] w fun e w' => e = .returned (.tuple #[.int .i64 v, .nilIface]) ∧ RowKit.Below w.heap.size w w' :=
 (Any.strconv_ParseInt_10_at64_ok Tryz.laysC174 s hmax v h w).mono fun _ _ ⟨h, k⟩ => ⟨h, by
  rcases k with e | ⟨t, e⟩
  ·
   rw [e]; exact RowKit.Below.refl _ _
  ·
   rw [e]; exact Lib.bytesWorld_below _ _ _⟩
theorem Tryz.parseInt_range (s : ByteArray) (hlim : s.size ≤ 281474976710656) (h : Lib.parseIntB 64 s.data.toList = .range) (tp : TypeId) (p : Value) (w : World) (hvar : w.var? Tryz.prog "strconv.ErrRange" = some #[.iface tp p]) :
  Calls Tryz.prog 102 #[.string s, .int .i64 10, .int .i64 64] w fun e w' => (∃ N, e = .returned (.tuple #[.int .i64 (Lib.intSat 64 s.data.toList), .iface 157 (.pointer (some ⟨N, 0, none⟩))])) ∧ RowKit.Below w.heap.size w w' :=
 (Any.strconv_ParseInt_10_at64_range_var Tryz.laysC174 s hlim h tp p w hvar).mono fun _ _ ⟨N, h, _, _, b⟩ => ⟨⟨N, h⟩, b⟩
end Go.Proofs
set_option linter.unusedVariables false
set_option linter.unusedSimpArgs false
namespace Go.Proofs.YtbcbggdbojonmaaGreatDoor
open Go.RowKit
set_option maxHeartbeats 4000000 in
theorem isText_any (s : ByteArray) (w : World) (hs : s.size ≤ maxLen) :
  Calls Tryz.prog 101 #[.string s] w fun e w' => e = .returned (.bool (Num.isT s.data.toList)) ∧ ∃ k, w' = w.drewN k := by
 rw [show Num.isT s.data.toList = Num.numT (Lib.hasPrefix s.data.toList [45]) (Lib.trimPrefix s.data.toList [45]) from rfl]
 have hl : (Lib.trimPrefix s.data.toList [45]).length ≤ s.size := by
  unfold Lib.trimPrefix
  have : s.data.toList.length = s.size := by simp
  split
  ·
   rw [List.length_drop]; omega
  ·
   omega
 obtain ⟨b, hb⟩ : ∃ b, Lib.hasPrefix s.data.toList [45] = b := ⟨_, rfl⟩
 obtain ⟨l, hl2⟩ : ∃ l, Lib.trimPrefix s.data.toList [45] = l := ⟨_, rfl⟩
 rw [hl2] at hl
 rw [hb, hl2]
 have HB := Lib.hid hb; have HL := Lib.hid hl2; clear hb hl2
 obtain ⟨ds, hds⟩ : ∃ ds : ByteArray, ds = ⟨l.toArray⟩ := ⟨_, rfl⟩
 have hdl : l = ds.data.toList := by rw [hds]
 have hsz : ds.size ≤ s.size := by rw [hds]; show l.toArray.size ≤ s.size; rw [List.size_toArray]; exact hl
 have HD := Lib.hid hds; clear hds
 unfold maxLen at hs
 rw [hdl]
 have HDL := Lib.hid hdl; clear hdl hl
 rcases Nat.eq_zero_or_pos ds.size with hz | hz
 ·
  have hnil : ds.data.toList = [] := by rw [← List.length_eq_zero_iff, dlen]; exact hz
  have ht : ds.toList = [] := by rw [ByteArray.toList_eq]; exact hnil
  have hte : ds.toList.isEmpty = true := by rw [ht]; rfl
  rw [hnil]
  have HZ := Lib.hid hz; clear hz hnil
  go_enter Tryz.func101, Tryz.ntmps101
  go_wp2_with fail
  refine (cutPrefix _ _ _).mono ?_; rintro e w1 ⟨rfl, rfl⟩
  rw [show (⟨#[45]⟩ : ByteArray).data.toList = [45] from rfl, HB.out, HL.out, ← HD.out]
  clear HB HL
  go_wp2_with fail
  go_ret
  exact ⟨rfl, 0, rfl⟩
 ·
  obtain ⟨t1, t2⟩ := dne hz
  by_cases h48 : ds[0].toNat = 48
  ·
   have h48' : ((ds[0].toNat : Int) == 48) = true := by rw [beq_iff_eq]; omega
   cases hbb : b
   ·
    by_cases h1 : 1 < ds.size
    ·
     have h1i : (1 : Int) < (ds.size : Int) := by omega
     have hno := front_no (b := false) hz h48 (.inr h1)
     have HN := Lib.hid hno; clear hno
     rw [hbb] at HB
     clear hbb
     have H48 := Lib.hid h48; clear h48
     go_enter Tryz.func101, Tryz.ntmps101
     go_wp2_with fail
     refine (cutPrefix _ _ _).mono ?_; rintro e w1 ⟨rfl, rfl⟩
     rw [show (⟨#[45]⟩ : ByteArray).data.toList = [45] from rfl, HB.out, HL.out, ← HD.out]
     clear HB HL
     go_wp2_with fail
     go_ret
     refine ⟨?_, 0, rfl⟩
     rw [HN.out]
     all_goals rfl
    ·
     have h1i : (ds.size : Int) ≤ 1 := by omega
     have hf := front (b := false) hz (fun _ => ⟨rfl, by omega⟩)
     have HF := Lib.hid hf; clear hf
     rw [hbb] at HB
     clear hbb
     have H48 := Lib.hid h48; clear h48
     go_enter Tryz.func101, Tryz.ntmps101
     go_wp2_with fail
     refine (cutPrefix _ _ _).mono ?_; rintro e w1 ⟨rfl, rfl⟩
     rw [show (⟨#[45]⟩ : ByteArray).data.toList = [45] from rfl, HB.out, HL.out, ← HD.out]
     clear HB HL
     go_wp2_with fail
     go_loop [28] (fun i => ∃ k : Nat, k ≤ ds.size ∧ i = .int .i64 k ∧ (ds.data.toList.take k).all Num.dig = true) (fun i => ds.size - (intOf i).toNat)
     case atStart => exact ⟨0, Nat.zero_le _, rfl, rfl⟩
     case round =>
      obtain ⟨k, hk, rfl, hall⟩ := hrel
      have HA := Lib.hid hall; clear hall
      by_cases hlt : k < ds.size
      ·
       by_cases h1 : (ds[k].toNat : Int) < 48
       ·
        have hno : ds.data.toList.all Num.dig = false := not_all hlt (by omega)
        have HN := Lib.hid hno; clear hno
        go_wp2
        go_ret
        refine ⟨?_, 0, rfl⟩
        rw [HF.out, HN.out]
        all_goals rfl
       ·
        by_cases h2 : 57 < (ds[k].toNat : Int)
        ·
         have hno : ds.data.toList.all Num.dig = false := not_all hlt (by omega)
         have HN := Lib.hid hno; clear hno
         go_wp2
         go_ret
         refine ⟨?_, 0, rfl⟩
         rw [HF.out, HN.out]
         all_goals rfl
        ·
         have hst : (ds.data.toList.take (k + 1)).all Num.dig = true := take_all hlt HA.out (by omega)
         have HS := Lib.hid hst; clear hst
         go_wp2
         go_round
         case rel => exact ⟨k + 1, by omega, by go_num, HS.out⟩
         case measure => simp [intOf]; omega
      ·
       have hend : ds.data.toList.all Num.dig = true := by
        have := HA.out
        rwa [List.take_of_length_le (by rw [dlen]; omega)] at this
       have HE := Lib.hid hend; clear hend
       go_wp2
       go_ret
       refine ⟨?_, 0, rfl⟩
       rw [HF.out, HE.out]
       all_goals rfl
   ·
    have hno := front_no (b := true) hz h48 (.inl rfl)
    have HN := Lib.hid hno; clear hno
    rw [hbb] at HB
    clear hbb
    have H48 := Lib.hid h48; clear h48
    go_enter Tryz.func101, Tryz.ntmps101
    go_wp2_with fail
    refine (cutPrefix _ _ _).mono ?_; rintro e w1 ⟨rfl, rfl⟩
    rw [show (⟨#[45]⟩ : ByteArray).data.toList = [45] from rfl, HB.out, HL.out, ← HD.out]
    clear HB HL
    go_wp2_with fail
    go_ret
    refine ⟨?_, 0, rfl⟩
    rw [HN.out]
    all_goals rfl
  ·
   have h48' : ((ds[0].toNat : Int) == 48) = false := by rw [beq_eq_false_iff_ne]; omega
   have hf := front (b := b) hz (fun h => absurd h h48)
   have HF := Lib.hid hf; clear hf
   clear h48
   go_enter Tryz.func101, Tryz.ntmps101
   go_wp2_with fail
   refine (cutPrefix _ _ _).mono ?_; rintro e w1 ⟨rfl, rfl⟩
   rw [show (⟨#[45]⟩ : ByteArray).data.toList = [45] from rfl, HB.out, HL.out, ← HD.out]
   clear HB HL
   go_wp2_with fail
   go_loop [28] (fun i => ∃ k : Nat, k ≤ ds.size ∧ i = .int .i64 k ∧ (ds.data.toList.take k).all Num.dig = true) (fun i => ds.size - (intOf i).toNat)
   case atStart => exact ⟨0, Nat.zero_le _, rfl, rfl⟩
   case round =>
    obtain ⟨k, hk, rfl, hall⟩ := hrel
    have HA := Lib.hid hall; clear hall
    by_cases hlt : k < ds.size
    ·
     by_cases h1 : (ds[k].toNat : Int) < 48
     ·
      have hno : ds.data.toList.all Num.dig = false := not_all hlt (by omega)
      have HN := Lib.hid hno; clear hno
      go_wp2
      go_ret
      refine ⟨?_, 0, rfl⟩
      rw [HF.out, HN.out]
      all_goals rfl
     ·
      by_cases h2 : 57 < (ds[k].toNat : Int)
      ·
       have hno : ds.data.toList.all Num.dig = false := not_all hlt (by omega)
       have HN := Lib.hid hno; clear hno
       go_wp2
       go_ret
       refine ⟨?_, 0, rfl⟩
       rw [HF.out, HN.out]
       all_goals rfl
      ·
       have hst : (ds.data.toList.take (k + 1)).all Num.dig = true := take_all hlt HA.out (by omega)
       have HS := Lib.hid hst; clear hst
       go_wp2
       go_round
       case rel => exact ⟨k + 1, by omega, by go_num, HS.out⟩
       case measure => simp [intOf]; omega
    ·
     have hend : ds.data.toList.all Num.dig = true := by
      have := HA.out
      rwa [List.take_of_length_le (by rw [dlen]; omega)] at this
     have HE := Lib.hid hend; clear hend
     go_wp2
     go_ret
     refine ⟨?_, 0, rfl⟩
     rw [HF.out, HE.out]
     all_goals rfl
set_option maxHeartbeats 1000000 in
theorem read_no (s : ByteArray) (w : World) (hs : s.size ≤ maxLen) (ht : Num.isT s.data.toList = false) :
  Calls Tryz.prog 79 #[.string s] w fun e w' => e = .returned (.tuple #[.int .i64 0, .int .i64 2]) ∧ Below w.heap.size w w' := by
 have HT := Lib.hid ht; clear ht
 go_enter Tryz.func79, Tryz.ntmps79
 go_wp2_with fail
 refine (isText_any _ _ hs).mono ?_; rintro e w1 ⟨rfl, k, rfl⟩
 rw [HT.out]
 go_wp2_with fail
 go_ret2
 exact ⟨rfl, below_draw _ _⟩
set_option maxHeartbeats 1000000 in
theorem read_ok (s : ByteArray) (v : Int) (w : World) (hs : s.size ≤ maxLen) (ht : Num.isT s.data.toList = true) (h : Lib.parseIntB 64 s.data.toList = .ok v) (hm : s.size ≤ 9223372036854775806) :
  Calls Tryz.prog 79 #[.string s] w fun e w' => e = .returned (.tuple #[.int .i64 v, .int .i64 0]) ∧ Below w.heap.size w w' := by
 have HT := Lib.hid ht; have H := Lib.hid h; have HM := Lib.hid hm; clear ht h hm
 go_enter Tryz.func79, Tryz.ntmps79
 go_wp2_with fail
 refine (isText_any _ _ hs).mono ?_; rintro e w1 ⟨rfl, k, rfl⟩
 rw [HT.out]
 go_wp2_with fail
 refine (Tryz.parseInt_ok _ HM.out v H.out _).mono ?_; rintro e w2 ⟨rfl, b2⟩
 have B2 := Lib.hid (below_step (below_draw w k) b2)
 clear b2
 go_wp2_with fail
 go_ret2
 exact ⟨rfl, B2.out⟩
set_option maxHeartbeats 1000000 in
theorem read_range (s : ByteArray) (w : World) (hs : s.size ≤ maxLen) (ht : Num.isT s.data.toList = true) (h : Lib.parseIntB 64 s.data.toList = .range) (hm : s.size ≤ 281474976710656) (tp : TypeId) (p : Value) (hvar : w.var? Tryz.prog "strconv.ErrRange" = some #[.iface tp p]) :
  Calls Tryz.prog 79 #[.string s] w fun e w' => e = .returned (.tuple #[.int .i64 0, .int .i64 1]) ∧ Below w.heap.size w w' := by
 have HT := Lib.hid ht; have H := Lib.hid h; have HM := Lib.hid hm; have HV := Lib.hid hvar; clear ht h hm hvar
 go_enter Tryz.func79, Tryz.ntmps79
 go_wp2_with fail
 refine (isText_any _ _ hs).mono ?_; rintro e w1 ⟨rfl, k, rfl⟩
 rw [HT.out]
 go_wp2_with fail
 refine (Tryz.parseInt_range _ HM.out H.out tp p _ (var_keep (below_draw w k) HV.out)).mono ?_; rintro e w2 ⟨⟨N, rfl⟩, b2⟩
 have B2 := Lib.hid (below_step (below_draw w k) b2)
 clear b2
 go_wp2_with fail
 go_ret2
 exact ⟨rfl, B2.out⟩
end Go.Proofs.YtbcbggdbojonmaaGreatDoor
