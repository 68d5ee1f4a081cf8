/- Joined: AmC, GvN0, GvN, GvA, RnE, RnF, ShelfP, NumAr, RnG, ClA. -/
import Derived.Test.YtpggfhmnhbnefaaGreatDoorBe07
import Derived.Test.YtpggfhmnhbnefaaGreatDoorBe01
import Derived.Tactics
import Derived.Tactics2
import Derived.Defers
import Derived.Recover
import Derived.Laws.Pointers
import Derived.Test.YtpggfhmnhbnefaaGreatDoorBe05
import Derived.Shelf.Strconv.ParseIntPublic10
import Derived.Shelf.Strconv.ErrVarParseInt
import Derived.Test.YtpggfhmnhbnefaaGreatDoorBe04
import Derived.Test.YtpggfhmnhbnefaaGreatDoorLaid3
import Derived.Shelf.Small.Strs
set_option linter.unusedVariables false
set_option linter.unusedSimpArgs false
namespace Go.Proofs.YtpggfhmnhbnefaaGreatDoor
open Go.RowKit Go.Sort
namespace Am
def un (s : ByteArray) : ByteArray := ⟨(Lib.trimPrefix s.data.toList [45]).toArray⟩
def neg (s : ByteArray) : Bool := Lib.hasPrefix s.data.toList [45]
def sum (s : ByteArray) : Int := vK (un s) 0 * 3600 + vK (un s) 1 * 60 + vK (un s) 2
def inR (s : ByteArray) : Bool := decide (vK (un s) 1 < 60) && (decide (vK (un s) 2 < 60) && decide (sum s ≤ 604799))
def rd (s : ByteArray) : Int × Int :=
 if s.toList == [45] then (0, 0) else if okK (un s) = false then (0, 2) else if inR s = false then (0, 1) else ((if neg s then - sum s else sum s), 0)
theorem un_size (s : ByteArray) : (un s).size ≤ s.size := by
 unfold un
 show (Lib.trimPrefix s.data.toList [45]).toArray.size ≤ s.size
 rw [List.size_toArray, ← ab_len s]
 exact ab_trim _ _
theorem vK_bd {s : ByteArray} (h : okK s = true) (k : Nat) (hk : k < 3) : 0 ≤ vK s k ∧ vK s k ≤ 99999 := by
 have hi : isK s k = true := by
  unfold okK at h
  simp only [Bool.and_eq_true] at h
  obtain rfl | rfl | rfl : k = 0 ∨ k = 1 ∨ k = 2 := by omega
  ·
   exact h.1
  ·
   exact h.2.1
  ·
   exact h.2.2
 by_cases hl : k < (pcs s).length
 ·
  rw [vK_at hl]
  rw [isK_at hl] at hi
  obtain ⟨hd, h5⟩ := isP_size hi
  have := ab_val_bd hd h5
  omega
 ·
  rw [vK_no hl]; omega
end Am
set_option maxHeartbeats 4000000 in
set_option maxRecDepth 100000 in
theorem aread_any (s : ByteArray) (w : World) (m : Int) (hs : s.size < 4294967281) (hm : w.cell? ⟨3, 0, none⟩ = some (.int .i64 m)) :
  Calls Tryz.prog 88 #[.string s] w fun e w' => e = .returned (.tuple #[.int .i64 (Am.rd s).1, .int .i64 (Am.rd s).2]) ∧ Below w.heap.size w w' := by
 have C : Hid (∀ W, Calls Tryz.prog 140 #[.string s, .string ⟨#[45]⟩] W fun e w' => e = .returned (.tuple #[.string (Am.un s), .bool (Am.neg s)]) ∧ W = w') := fun W => cutPrefix s ⟨#[45]⟩ W
 have R := Lib.hid (fun W h => rparts_any (Am.un s) W m (Nat.lt_of_le_of_lt (Am.un_size s) hs) h)
 have HM := Lib.hid hm
 clear hm hs
 obtain ⟨ans, hans⟩ : ∃ ans, ans = Am.rd s := ⟨_, rfl⟩
 rw [← hans]
 unfold Am.rd Am.inR at hans
 unfold Am.sum at hans
 by_cases h0 : (s.toList == [45]) = true
 ·
  have e := Lib.hid (show ans = (0, 0) by rw [hans, if_pos h0])
  clear hans
  go_enter Tryz.func88, Tryz.ntmps88
  go_wp2_with fail
  go_ret2
  exact ⟨by rw [e.out]; rfl, Below.refl _ _⟩
 ·
  rw [if_neg h0] at hans
  have g0 : (s.toList == [45]) = false := by simpa using h0
  clear h0
  generalize Am.un s = U at *
  cases hk : Am.okK U
  ·
   have e := Lib.hid (show ans = (0, 2) by rw [hans, hk, if_pos rfl])
   unfold Am.va at R
   rw [hk] at R
   clear hans
   go_enter Tryz.func88, Tryz.ntmps88
   go_wp2_with fail
   refine (C.out _).mono ?_; rintro e w1 ⟨rfl, rfl⟩
   go_wp2_with fail
   refine (R.out _ HM.out).mono ?_; rintro e w1 ⟨rfl, b1⟩
   have B1 := Lib.hid b1; clear b1
   go_wp2_with fail
   go_ret2
   exact ⟨by rw [e.out]; rfl, by have hz := B1.out.size; repeat (first | exact B1.out | refine Below.setCell ?_ (by first | omega | (simp; omega)) _ | refine Below.alloc ?_ (by first | omega | (simp; omega)) _)⟩
  ·
   rw [hk, if_neg (by decide)] at hans
   obtain ⟨a0, a1⟩ := Am.vK_bd hk 0 (by omega)
   obtain ⟨b0, b1⟩ := Am.vK_bd hk 1 (by omega)
   obtain ⟨c0, c1⟩ := Am.vK_bd hk 2 (by omega)
   unfold Am.va at R
   rw [hk] at R
   simp only [if_true] at R
   clear hk
   generalize Am.vK U 0 = x at *
   generalize Am.vK U 1 = y at *
   generalize Am.vK U 2 = z at *
   generalize Am.neg s = ng at *
   by_cases h1 : 60 ≤ y
   ·
    have e := Lib.hid (show ans = (0, 1) by rw [hans, if_pos (by rw [decide_eq_false (show ¬ y < 60 by omega)]; rfl)])
    clear hans
    go_enter Tryz.func88, Tryz.ntmps88
    go_wp2_with fail
    refine (C.out _).mono ?_; rintro e w1 ⟨rfl, rfl⟩
    go_wp2_with fail
    refine (R.out _ HM.out).mono ?_; rintro e w1 ⟨rfl, d1⟩
    have B1 := Lib.hid d1; clear d1
    go_wp2_with fail
    go_ret2
    exact ⟨by rw [e.out]; rfl, by have hz := B1.out.size; repeat (first | exact B1.out | refine Below.setCell ?_ (by first | omega | (simp; omega)) _ | refine Below.alloc ?_ (by first | omega | (simp; omega)) _)⟩
   ·
    by_cases h2 : 60 ≤ z
    ·
     have e := Lib.hid (show ans = (0, 1) by rw [hans, if_pos (by rw [decide_eq_false (show ¬ z < 60 by omega)]; simp)])
     clear hans
     go_enter Tryz.func88, Tryz.ntmps88
     go_wp2_with fail
     refine (C.out _).mono ?_; rintro e w1 ⟨rfl, rfl⟩
     go_wp2_with fail
     refine (R.out _ HM.out).mono ?_; rintro e w1 ⟨rfl, d1⟩
     have B1 := Lib.hid d1; clear d1
     go_wp2_with fail
     go_ret2
     exact ⟨by rw [e.out]; rfl, by have hz := B1.out.size; repeat (first | exact B1.out | refine Below.setCell ?_ (by first | omega | (simp; omega)) _ | refine Below.alloc ?_ (by first | omega | (simp; omega)) _)⟩
    ·
     by_cases h3 : 604799 < x * 3600 + y * 60 + z
     ·
      have e := Lib.hid (show ans = (0, 1) by rw [hans, if_pos (by rw [decide_eq_false (show ¬ x * 3600 + y * 60 + z ≤ 604799 by omega)]; simp)])
      clear hans
      go_enter Tryz.func88, Tryz.ntmps88
      go_wp2_with fail
      refine (C.out _).mono ?_; rintro e w1 ⟨rfl, rfl⟩
      go_wp2_with fail
      refine (R.out _ HM.out).mono ?_; rintro e w1 ⟨rfl, d1⟩
      have B1 := Lib.hid d1; clear d1
      go_wp2_with fail
      go_ret2
      exact ⟨by rw [e.out]; rfl, by have hz := B1.out.size; repeat (first | exact B1.out | refine Below.setCell ?_ (by first | omega | (simp; omega)) _ | refine Below.alloc ?_ (by first | omega | (simp; omega)) _)⟩
     ·
      rw [if_neg (by rw [decide_eq_true (show y < 60 by omega), decide_eq_true (show z < 60 by omega), decide_eq_true (show x * 3600 + y * 60 + z ≤ 604799 by omega)]; simp)] at hans
      cases ng
      ·
       have e := Lib.hid (show ans = (x * 3600 + y * 60 + z, 0) by rw [hans]; rfl)
       clear hans
       go_enter Tryz.func88, Tryz.ntmps88
       go_wp2_with fail
       refine (C.out _).mono ?_; rintro e w1 ⟨rfl, rfl⟩
       go_wp2_with fail
       refine (R.out _ HM.out).mono ?_; rintro e w1 ⟨rfl, d1⟩
       have B1 := Lib.hid d1; clear d1
       go_wp2_with fail
       go_ret2
       exact ⟨by rw [e.out]; rfl, by have hz := B1.out.size; repeat (first | exact B1.out | refine Below.setCell ?_ (by first | omega | (simp; omega)) _ | refine Below.alloc ?_ (by first | omega | (simp; omega)) _)⟩
      ·
       have e := Lib.hid (show ans = (-(x * 3600 + y * 60 + z), 0) by rw [hans]; rfl)
       clear hans
       go_enter Tryz.func88, Tryz.ntmps88
       go_wp2_with fail
       refine (C.out _).mono ?_; rintro e w1 ⟨rfl, rfl⟩
       go_wp2_with fail
       refine (R.out _ HM.out).mono ?_; rintro e w1 ⟨rfl, d1⟩
       have B1 := Lib.hid d1; clear d1
       go_wp2_with fail
       go_ret2
       exact ⟨by rw [e.out]; rfl, by have hz := B1.out.size; repeat (first | exact B1.out | refine Below.setCell ?_ (by first | omega | (simp; omega)) _ | refine Below.alloc ?_ (by first | omega | (simp; omega)) _)⟩
end Go.Proofs.YtpggfhmnhbnefaaGreatDoor
set_option linter.unusedVariables false
set_option linter.unusedSimpArgs false
namespace Go.Proofs.YtpggfhmnhbnefaaGreatDoor
open Go.RowKit
def gvV (line why : Int) : Value := .iface 128 (.agg #[.int .i64 line, .int .i64 why])
def gvL (line why : Int) : List PanicEntry := [{ v := gvV line why, recovered := false }]
abbrev gvP (why : Int) : List PanicEntry := gvL 0 why
theorem needat_yes (line why : Int) (w : World) : Calls Tryz.prog 77 #[.bool true, .int .i64 line, .int .i64 why] w fun e w' => e = .returned (.tuple #[]) ∧ w = w' := by
 go_enter Tryz.func77, Tryz.ntmps77
 go_wp2_with fail
 simp [bodyPost, results, Tryz.results77]
theorem gv_build (line why : Int) (W : World) : Sem.run Tryz.prog (Instr.build 128 #[(0, .agg #[.int .i64 line, .int .i64 why])]) W = .ok (.agg #[.int .i64 line, .int .i64 why]) W := by kernel_rfl
theorem needat_no (line why : Int) (w : World) : Calls Tryz.prog 77 #[.bool false, .int .i64 line, .int .i64 why] w fun e w' => e = .panicked (gvL line why) ∧ w = w' := by
 have hgb := gv_build line why
 go_enter Tryz.func77, Tryz.ntmps77
 go_wp2_with fail
 simp [bodyPost, gvL, gvV]
theorem need_yes (why : Int) (w : World) : Calls Tryz.prog 27 #[.bool true, .int .i64 why] w fun e w' => e = .returned (.tuple #[]) ∧ w = w' := by
 go_enter Tryz.func27, Tryz.ntmps27
 go_wp2_with fail
 refine (needat_yes 0 why _).mono ?_; rintro e w1 ⟨rfl, rfl⟩
 go_wp2_with fail
 simp [bodyPost, results, Tryz.results27]
theorem need_no (why : Int) (w : World) : Calls Tryz.prog 27 #[.bool false, .int .i64 why] w fun e w' => e = .panicked (gvP why) ∧ w = w' := by
 go_enter Tryz.func27, Tryz.ntmps27
 go_wp2_with fail
 refine (needat_no 0 why _).mono ?_; rintro e w1 ⟨rfl, rfl⟩
 refine (show bodyPost _ _ _ (Exit.panic (gvP why)) _ _ from ?_)
 simp [bodyPost]
theorem for_yes (w : World) : Calls Tryz.prog 78 #[.int .i64 0] w fun e w' => e = .returned (.tuple #[]) ∧ w = w' := by
 go_enter Tryz.func78, Tryz.ntmps78
 go_wp2_with fail
 refine (need_yes 0 _).mono ?_; rintro e w1 ⟨rfl, rfl⟩
 go_wp2_with fail
 simp [bodyPost, results, Tryz.results78]
theorem for_no (why : Int) (w : World) (h : why ≠ 0) : Calls Tryz.prog 78 #[.int .i64 why] w fun e w' => e = .panicked (gvP why) ∧ w = w' := by
 have g : (why == 0) = false := by rw [beq_eq_false_iff_ne]; exact h
 clear h
 go_enter Tryz.func78, Tryz.ntmps78
 go_wp2_with fail
 refine (need_no why _).mono ?_; rintro e w1 ⟨rfl, rfl⟩
 refine (show bodyPost _ _ _ (Exit.panic (gvP why)) _ _ from ?_)
 simp [bodyPost]
theorem must_yes (v : Int) (w : World) : Calls Tryz.prog 87 #[.int .i64 v, .int .i64 0] w fun e w' => e = .returned (.int .i64 v) ∧ w = w' := by
 go_enter Tryz.func87, Tryz.ntmps87
 go_wp2_with fail
 refine (for_yes _).mono ?_; rintro e w1 ⟨rfl, rfl⟩
 go_wp2_with fail
 go_ret
 exact ⟨rfl, rfl⟩
theorem must_no (v why : Int) (w : World) (h : why ≠ 0) : Calls Tryz.prog 87 #[.int .i64 v, .int .i64 why] w fun e w' => e = .panicked (gvP why) ∧ w = w' := by
 go_enter Tryz.func87, Tryz.ntmps87
 go_wp2_with fail
 refine (for_no why _ h).mono ?_; rintro e w1 ⟨rfl, rfl⟩
 refine (show bodyPost _ _ _ (Exit.panic (gvP why)) _ _ from ?_)
 simp [bodyPost]
theorem muti_yes (v : Int) (w : World) : Calls Tryz.prog 79 #[.int .i64 v, .int .i64 0] w fun e w' => e = .returned (.int .i64 v) ∧ w = w' := by
 go_enter Tryz.func79, Tryz.ntmps79
 go_wp2_with fail
 refine (for_yes _).mono ?_; rintro e w1 ⟨rfl, rfl⟩
 go_wp2_with fail
 go_ret
 exact ⟨rfl, rfl⟩
theorem muti_no (v why : Int) (w : World) (h : why ≠ 0) : Calls Tryz.prog 79 #[.int .i64 v, .int .i64 why] w fun e w' => e = .panicked (gvP why) ∧ w = w' := by
 go_enter Tryz.func79, Tryz.ntmps79
 go_wp2_with fail
 refine (for_no why _ h).mono ?_; rintro e w1 ⟨rfl, rfl⟩
 refine (show bodyPost _ _ _ (Exit.panic (gvP why)) _ _ from ?_)
 simp [bodyPost]
end Go.Proofs.YtpggfhmnhbnefaaGreatDoor
set_option linter.unusedVariables false
namespace Go.Proofs
open Go.Shelf
theorem Tryz.parseInt_ok (s : ByteArray) (hmax : s.size ≤ 9223372036854775806) (v : Int) (h : Lib.parseIntB 64 s.data.toList = .ok v) (w : World) :
  Calls Tryz.prog 197 #[.string s, .int .i64 10, .int .i64 64] w fun e w' => e = .returned (.tuple #[.int .i64 v, .nilIface]) ∧ RowKit.Below w.heap.size w w' :=
 (Any.strconv_ParseInt_10_at64_ok Tryz.laysC174 s hmax v h w).mono fun _ _ ⟨h, k⟩ => ⟨h, by
  rcases k with e | ⟨t, e⟩
  ·
   rw [e]; exact RowKit.Below.refl _ _
  ·
   rw [e]; exact Lib.bytesWorld_below _ _ _⟩
theorem Tryz.parseInt_range (s : ByteArray) (hlim : s.size ≤ 281474976710656) (h : Lib.parseIntB 64 s.data.toList = .range) (tp : TypeId) (p : Value) (w : World) (hvar : w.var? Tryz.prog "strconv.ErrRange" = some #[.iface tp p]) :
  Calls Tryz.prog 197 #[.string s, .int .i64 10, .int .i64 64] w fun e w' => (∃ N, e = .returned (.tuple #[.int .i64 (Lib.intSat 64 s.data.toList), .iface 192 (.pointer (some ⟨N, 0, none⟩))])) ∧ RowKit.Below w.heap.size w w' :=
 (Any.strconv_ParseInt_10_at64_range_var Tryz.laysC174 s hlim h tp p w hvar).mono fun _ _ ⟨N, h, _, _, b⟩ => ⟨⟨N, h⟩, b⟩
end Go.Proofs
set_option linter.unusedVariables false
set_option linter.unusedSimpArgs false
namespace Go.Proofs.YtpggfhmnhbnefaaGreatDoor
open Go.RowKit
set_option maxHeartbeats 4000000 in
theorem isText_any (s : ByteArray) (w : World) (hs : s.size ≤ maxLen) :
  Calls Tryz.prog 196 #[.string s] w fun e w' => e = .returned (.bool (Num.isT s.data.toList)) ∧ ∃ k, w' = w.drewN k := by
 rw [show Num.isT s.data.toList = Num.numT (Lib.hasPrefix s.data.toList [45]) (Lib.trimPrefix s.data.toList [45]) from rfl]
 have hl : (Lib.trimPrefix s.data.toList [45]).length ≤ s.size := by
  unfold Lib.trimPrefix
  have : s.data.toList.length = s.size := by simp
  split
  ·
   rw [List.length_drop]; omega
  ·
   omega
 obtain ⟨b, hb⟩ : ∃ b, Lib.hasPrefix s.data.toList [45] = b := ⟨_, rfl⟩
 obtain ⟨l, hl2⟩ : ∃ l, Lib.trimPrefix s.data.toList [45] = l := ⟨_, rfl⟩
 rw [hl2] at hl
 rw [hb, hl2]
 have HB := Lib.hid hb; have HL := Lib.hid hl2; clear hb hl2
 obtain ⟨ds, hds⟩ : ∃ ds : ByteArray, ds = ⟨l.toArray⟩ := ⟨_, rfl⟩
 have hdl : l = ds.data.toList := by rw [hds]
 have hsz : ds.size ≤ s.size := by rw [hds]; show l.toArray.size ≤ s.size; rw [List.size_toArray]; exact hl
 have HD := Lib.hid hds; clear hds
 unfold maxLen at hs
 rw [hdl]
 have HDL := Lib.hid hdl; clear hdl hl
 rcases Nat.eq_zero_or_pos ds.size with hz | hz
 ·
  have hnil : ds.data.toList = [] := by rw [← List.length_eq_zero_iff, dlen]; exact hz
  have ht : ds.toList = [] := by rw [ByteArray.toList_eq]; exact hnil
  have hte : ds.toList.isEmpty = true := by rw [ht]; rfl
  rw [hnil]
  have HZ := Lib.hid hz; clear hz hnil
  go_enter Tryz.func196, Tryz.ntmps196
  go_wp2_with fail
  refine (cutPrefix _ _ _).mono ?_; rintro e w1 ⟨rfl, rfl⟩
  rw [show (⟨#[45]⟩ : ByteArray).data.toList = [45] from rfl, HB.out, HL.out, ← HD.out]
  clear HB HL
  go_wp2_with fail
  go_ret
  exact ⟨rfl, 0, rfl⟩
 ·
  obtain ⟨t1, t2⟩ := dne hz
  by_cases h48 : ds[0].toNat = 48
  ·
   have h48' : ((ds[0].toNat : Int) == 48) = true := by rw [beq_iff_eq]; omega
   cases hbb : b
   ·
    by_cases h1 : 1 < ds.size
    ·
     have h1i : (1 : Int) < (ds.size : Int) := by omega
     have hno := front_no (b := false) hz h48 (.inr h1)
     have HN := Lib.hid hno; clear hno
     rw [hbb] at HB
     clear hbb
     have H48 := Lib.hid h48; clear h48
     go_enter Tryz.func196, Tryz.ntmps196
     go_wp2_with fail
     refine (cutPrefix _ _ _).mono ?_; rintro e w1 ⟨rfl, rfl⟩
     rw [show (⟨#[45]⟩ : ByteArray).data.toList = [45] from rfl, HB.out, HL.out, ← HD.out]
     clear HB HL
     go_wp2_with fail
     go_ret
     refine ⟨?_, 0, rfl⟩
     rw [HN.out]
     all_goals rfl
    ·
     have h1i : (ds.size : Int) ≤ 1 := by omega
     have hf := front (b := false) hz (fun _ => ⟨rfl, by omega⟩)
     have HF := Lib.hid hf; clear hf
     rw [hbb] at HB
     clear hbb
     have H48 := Lib.hid h48; clear h48
     go_enter Tryz.func196, Tryz.ntmps196
     go_wp2_with fail
     refine (cutPrefix _ _ _).mono ?_; rintro e w1 ⟨rfl, rfl⟩
     rw [show (⟨#[45]⟩ : ByteArray).data.toList = [45] from rfl, HB.out, HL.out, ← HD.out]
     clear HB HL
     go_wp2_with fail
     go_loop [28] (fun i => ∃ k : Nat, k ≤ ds.size ∧ i = .int .i64 k ∧ (ds.data.toList.take k).all Num.dig = true) (fun i => ds.size - (intOf i).toNat)
     case atStart => exact ⟨0, Nat.zero_le _, rfl, rfl⟩
     case round =>
      obtain ⟨k, hk, rfl, hall⟩ := hrel
      have HA := Lib.hid hall; clear hall
      by_cases hlt : k < ds.size
      ·
       by_cases h1 : (ds[k].toNat : Int) < 48
       ·
        have hno : ds.data.toList.all Num.dig = false := not_all hlt (by omega)
        have HN := Lib.hid hno; clear hno
        go_wp2
        go_ret
        refine ⟨?_, 0, rfl⟩
        rw [HF.out, HN.out]
        all_goals rfl
       ·
        by_cases h2 : 57 < (ds[k].toNat : Int)
        ·
         have hno : ds.data.toList.all Num.dig = false := not_all hlt (by omega)
         have HN := Lib.hid hno; clear hno
         go_wp2
         go_ret
         refine ⟨?_, 0, rfl⟩
         rw [HF.out, HN.out]
         all_goals rfl
        ·
         have hst : (ds.data.toList.take (k + 1)).all Num.dig = true := take_all hlt HA.out (by omega)
         have HS := Lib.hid hst; clear hst
         go_wp2
         go_round
         case rel => exact ⟨k + 1, by omega, by go_num, HS.out⟩
         case measure => simp [intOf]; omega
      ·
       have hend : ds.data.toList.all Num.dig = true := by
        have := HA.out
        rwa [List.take_of_length_le (by rw [dlen]; omega)] at this
       have HE := Lib.hid hend; clear hend
       go_wp2
       go_ret
       refine ⟨?_, 0, rfl⟩
       rw [HF.out, HE.out]
       all_goals rfl
   ·
    have hno := front_no (b := true) hz h48 (.inl rfl)
    have HN := Lib.hid hno; clear hno
    rw [hbb] at HB
    clear hbb
    have H48 := Lib.hid h48; clear h48
    go_enter Tryz.func196, Tryz.ntmps196
    go_wp2_with fail
    refine (cutPrefix _ _ _).mono ?_; rintro e w1 ⟨rfl, rfl⟩
    rw [show (⟨#[45]⟩ : ByteArray).data.toList = [45] from rfl, HB.out, HL.out, ← HD.out]
    clear HB HL
    go_wp2_with fail
    go_ret
    refine ⟨?_, 0, rfl⟩
    rw [HN.out]
    all_goals rfl
  ·
   have h48' : ((ds[0].toNat : Int) == 48) = false := by rw [beq_eq_false_iff_ne]; omega
   have hf := front (b := b) hz (fun h => absurd h h48)
   have HF := Lib.hid hf; clear hf
   clear h48
   go_enter Tryz.func196, Tryz.ntmps196
   go_wp2_with fail
   refine (cutPrefix _ _ _).mono ?_; rintro e w1 ⟨rfl, rfl⟩
   rw [show (⟨#[45]⟩ : ByteArray).data.toList = [45] from rfl, HB.out, HL.out, ← HD.out]
   clear HB HL
   go_wp2_with fail
   go_loop [28] (fun i => ∃ k : Nat, k ≤ ds.size ∧ i = .int .i64 k ∧ (ds.data.toList.take k).all Num.dig = true) (fun i => ds.size - (intOf i).toNat)
   case atStart => exact ⟨0, Nat.zero_le _, rfl, rfl⟩
   case round =>
    obtain ⟨k, hk, rfl, hall⟩ := hrel
    have HA := Lib.hid hall; clear hall
    by_cases hlt : k < ds.size
    ·
     by_cases h1 : (ds[k].toNat : Int) < 48
     ·
      have hno : ds.data.toList.all Num.dig = false := not_all hlt (by omega)
      have HN := Lib.hid hno; clear hno
      go_wp2
      go_ret
      refine ⟨?_, 0, rfl⟩
      rw [HF.out, HN.out]
      all_goals rfl
     ·
      by_cases h2 : 57 < (ds[k].toNat : Int)
      ·
       have hno : ds.data.toList.all Num.dig = false := not_all hlt (by omega)
       have HN := Lib.hid hno; clear hno
       go_wp2
       go_ret
       refine ⟨?_, 0, rfl⟩
       rw [HF.out, HN.out]
       all_goals rfl
      ·
       have hst : (ds.data.toList.take (k + 1)).all Num.dig = true := take_all hlt HA.out (by omega)
       have HS := Lib.hid hst; clear hst
       go_wp2
       go_round
       case rel => exact ⟨k + 1, by omega, by go_num, HS.out⟩
       case measure => simp [intOf]; omega
    ·
     have hend : ds.data.toList.all Num.dig = true := by
      have := HA.out
      rwa [List.take_of_length_le (by rw [dlen]; omega)] at this
     have HE := Lib.hid hend; clear hend
     go_wp2
     go_ret
     refine ⟨?_, 0, rfl⟩
     rw [HF.out, HE.out]
     all_goals rfl
set_option maxHeartbeats 1000000 in
theorem read_no (s : ByteArray) (w : World) (hs : s.size ≤ maxLen) (ht : Num.isT s.data.toList = false) :
  Calls Tryz.prog 168 #[.string s] w fun e w' => e = .returned (.tuple #[.int .i64 0, .int .i64 2]) ∧ Below w.heap.size w w' := by
 have HT := Lib.hid ht; clear ht
 go_enter Tryz.func168, Tryz.ntmps168
 go_wp2_with fail
 refine (isText_any _ _ hs).mono ?_; rintro e w1 ⟨rfl, k, rfl⟩
 rw [HT.out]
 go_wp2_with fail
 go_ret2
 exact ⟨rfl, below_draw _ _⟩
set_option maxHeartbeats 1000000 in
theorem read_ok (s : ByteArray) (v : Int) (w : World) (hs : s.size ≤ maxLen) (ht : Num.isT s.data.toList = true) (h : Lib.parseIntB 64 s.data.toList = .ok v) (hm : s.size ≤ 9223372036854775806) :
  Calls Tryz.prog 168 #[.string s] w fun e w' => e = .returned (.tuple #[.int .i64 v, .int .i64 0]) ∧ Below w.heap.size w w' := by
 have HT := Lib.hid ht; have H := Lib.hid h; have HM := Lib.hid hm; clear ht h hm
 go_enter Tryz.func168, Tryz.ntmps168
 go_wp2_with fail
 refine (isText_any _ _ hs).mono ?_; rintro e w1 ⟨rfl, k, rfl⟩
 rw [HT.out]
 go_wp2_with fail
 refine (Tryz.parseInt_ok _ HM.out v H.out _).mono ?_; rintro e w2 ⟨rfl, b2⟩
 have B2 := Lib.hid (below_step (below_draw w k) b2)
 clear b2
 go_wp2_with fail
 go_ret2
 exact ⟨rfl, B2.out⟩
set_option maxHeartbeats 1000000 in
theorem read_range (s : ByteArray) (w : World) (hs : s.size ≤ maxLen) (ht : Num.isT s.data.toList = true) (h : Lib.parseIntB 64 s.data.toList = .range) (hm : s.size ≤ 281474976710656) (tp : TypeId) (p : Value) (hvar : w.var? Tryz.prog "strconv.ErrRange" = some #[.iface tp p]) :
  Calls Tryz.prog 168 #[.string s] w fun e w' => e = .returned (.tuple #[.int .i64 0, .int .i64 1]) ∧ Below w.heap.size w w' := by
 have HT := Lib.hid ht; have H := Lib.hid h; have HM := Lib.hid hm; have HV := Lib.hid hvar; clear ht h hm hvar
 go_enter Tryz.func168, Tryz.ntmps168
 go_wp2_with fail
 refine (isText_any _ _ hs).mono ?_; rintro e w1 ⟨rfl, k, rfl⟩
 rw [HT.out]
 go_wp2_with fail
 refine (Tryz.parseInt_range _ HM.out H.out tp p _ (var_keep (below_draw w k) HV.out)).mono ?_; rintro e w2 ⟨⟨N, rfl⟩, b2⟩
 have B2 := Lib.hid (below_step (below_draw w k) b2)
 clear b2
 go_wp2_with fail
 go_ret2
 exact ⟨rfl, B2.out⟩
namespace Num
end Num
theorem read_any (s : ByteArray) (w : World) (hs : s.size ≤ 1000) (tp : TypeId) (p : Value) (hvar : w.var? Tryz.prog "strconv.ErrRange" = some #[.iface tp p]) :
  Calls Tryz.prog 168 #[.string s] w fun e w' => e = .returned (.tuple #[.int .i64 (Num.rd s.data.toList).1, .int .i64 (Num.rd s.data.toList).2]) ∧ Below w.heap.size w w' := by
 have hml : s.size ≤ maxLen := by unfold maxLen; omega
 unfold Num.rd
 cases ht : Num.isT s.data.toList
 ·
  exact read_no s w hml ht
 ·
  rcases Num.isT_read ht with h | ⟨x, h, -⟩
  ·
   rw [h]; exact read_range s w hml ht h (by omega) tp p hvar
  ·
   rw [h]; exact read_ok s x w hml ht h (by omega)
end Go.Proofs.YtpggfhmnhbnefaaGreatDoor
set_option linter.unusedVariables false
set_option linter.unusedSimpArgs false
namespace Go.Proofs.YtpggfhmnhbnefaaGreatDoor
open Go.RowKit Go.Sort
namespace Cl
structure Tab (w : World) : Prop where
 c0 : w.cell? ⟨1, 0, none⟩ = some (.string ⟨#[119, 87]⟩)
 c1 : w.cell? ⟨1, 1, none⟩ = some (.string ⟨#[115, 83]⟩)
 c2 : w.cell? ⟨1, 2, none⟩ = some (.string ⟨#[117, 85, 103, 71, 122, 90]⟩)
theorem Tab.on {w w' : World} (h : Tab w) (k : Below w.heap.size w w') : Tab w' := ⟨(k.cell (World.block_lt_of_cell? _ _ h.c0)).trans h.c0, (k.cell (World.block_lt_of_cell? _ _ h.c1)).trans h.c1, (k.cell (World.block_lt_of_cell? _ _ h.c2)).trans h.c2⟩
def base (c : UInt8) : Nat := if c = 119 ∨ c = 87 then 0 else if c = 115 ∨ c = 83 then 1 else if c = 117 ∨ c = 85 ∨ c = 103 ∨ c = 71 ∨ c = 122 ∨ c = 90 then 2 else 3
theorem base_tab : ∀ n : Fin 256, ((decide (0 ≤ Lib.indexByte [119, 87] (UInt8.ofNat n.val)) == decide (base (UInt8.ofNat n.val) = 0)) && ((decide (0 ≤ Lib.indexByte [115, 83] (UInt8.ofNat n.val)) == decide (base (UInt8.ofNat n.val) = 1)) && (decide (0 ≤ Lib.indexByte [117, 85, 103, 71, 122, 90] (UInt8.ofNat n.val)) == decide (base (UInt8.ofNat n.val) = 2)))) = true := by decide +kernel
theorem base_at (c : UInt8) : (0 ≤ Lib.indexByte [119, 87] c ↔ base c = 0) ∧ (0 ≤ Lib.indexByte [115, 83] c ↔ base c = 1) ∧ (0 ≤ Lib.indexByte [117, 85, 103, 71, 122, 90] c ↔ base c = 2) := by
 have h := base_tab ⟨c.toNat, c.toNat_lt⟩
 have e : UInt8.ofNat c.toNat = c := UInt8.ofNat_toNat
 simp only [e, Bool.and_eq_true, beq_iff_eq, decide_eq_decide] at h
 exact h
def cutL (s : ByteArray) : ByteArray × Int := if h : 0 < s.size then (if base s[s.size - 1] = 3 then (s, 0) else (s.extract 0 (s.size - 1), (base s[s.size - 1] : Int))) else (s, 0)
end Cl
theorem ixb (s : ByteArray) (c : UInt8) (w : World) : Calls Tryz.prog 156 #[.string s, .int .u8 (c.toNat : Int)] w fun e w' => e = .returned (.int .i64 (Lib.indexByte s.data.toList c)) ∧ w = w' :=
 (Any.strings_IndexByte Tryz.lays137 s (c.toNat : Int) w).mono fun _ _ ⟨h, e⟩ => ⟨by rw [h]; simp, e.symm⟩
end Go.Proofs.YtpggfhmnhbnefaaGreatDoor
