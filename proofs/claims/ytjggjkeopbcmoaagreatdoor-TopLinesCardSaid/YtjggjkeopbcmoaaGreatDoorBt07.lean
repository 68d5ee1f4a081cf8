/- Joined: WdB, WdCb, GvN0, GvN, GvQ, GvA, GvC, GvD, YrA. -/
import Derived.Test.YtjggjkeopbcmoaaGreatDoorBt06
import Derived.Test.YtjggjkeopbcmoaaGreatDoorBt01
import Derived.Tactics
import Derived.Tactics2
import Derived.Defers
import Derived.Recover
import Derived.Laws.Pointers
import Derived.Test.YtjggjkeopbcmoaaGreatDoorBt05
set_option linter.unusedVariables false
set_option linter.unusedSimpArgs false
namespace Go.Proofs.YtjggjkeopbcmoaaGreatDoor
open Go.RowKit Go.Sort
namespace Wd
def run (s : List UInt8) (all : List ByteArray) : List ByteArray → Nat → Int → Bool → Int × Int
 | [], _, f, sv => if f < 0 ∨ sv = true then (0, 3) else (f, 0)
 | x :: r, i, f, sv => if same x.data.toList s = true then ((i : Int), 0) else if beg x.data.toList s = false then run s all r (i + 1) f sv else if f < 0 then run s all r (i + 1) (i : Int) sv
  else if same x.data.toList (all.getD f.toNat ByteArray.empty).data.toList = true then run s all r (i + 1) f sv else run s all r (i + 1) f true
def mat (s : List UInt8) (all : List ByteArray) : Int × Int := if s = [] then (0, 3) else run s all all 0 (-1) false
theorem run_nil {s : List UInt8} {all : List ByteArray} {k : Nat} {f : Int} {sv : Bool} : run s all [] k f sv = if f < 0 ∨ sv = true then (0, 3) else (f, 0) := rfl
theorem run_step {s : List UInt8} {all : List ByteArray} {k : Nat} {f : Int} {sv : Bool} (h : k < all.length) : run s all (all.drop k) k f sv =
  if same all[k].data.toList s = true then ((k : Int), 0) else if beg all[k].data.toList s = false then run s all (all.drop (k + 1)) (k + 1) f sv else if f < 0 then run s all (all.drop (k + 1)) (k + 1) (k : Int) sv
  else if same all[k].data.toList (all.getD f.toNat ByteArray.empty).data.toList = true then run s all (all.drop (k + 1)) (k + 1) f sv else run s all (all.drop (k + 1)) (k + 1) f true := by
 rw [List.drop_eq_getElem_cons h]
 rfl
end Wd
theorem wdne {ds : ByteArray} (h : 0 < ds.size) : ds.toList.isEmpty = false ∧ ¬ ds.toList = [] := by
 have : ds.toList ≠ [] := by
  intro e
  have hl := blen ds
  rw [← ByteArray.toList_eq] at hl
  rw [e] at hl; simp at hl; omega
 exact ⟨by simpa using this, this⟩
theorem s_nil {s : ByteArray} (h : s.size = 0) : s = ByteArray.empty := by
 apply ByteArray.ext
 have : s.data.size = 0 := h
 exact Array.size_eq_zero_iff.1 this
set_option maxHeartbeats 4000000 in
set_option maxRecDepth 100000 in
theorem match_any (s : ByteArray) (v : Value) (l : List ByteArray) (w : World) (hv : StS w v l) (hs : s.size ≤ maxLen) (hz : ∀ x ∈ l, x.size ≤ maxLen) (hm : l.length ≤ maxLen) :
  Calls Tryz.prog 108 #[.string s, v] w fun e w' => e = .returned (.tuple #[.int .i64 (Wd.mat s.data.toList l).1, .int .i64 (Wd.mat s.data.toList l).2]) ∧ ∃ k, w' = w.drewN k := by
 unfold maxLen at hm
 have HS := Lib.hid hs; clear hs
 by_cases h0 : s.size = 0
 ·
  rw [show Wd.mat s.data.toList l = (0, 3) by unfold Wd.mat; rw [if_pos (by rw [← List.length_eq_zero_iff, blen]; exact h0)]]
  obtain rfl := s_nil h0
  obtain ⟨A, c, rfl, -⟩ := hv
  go_enter Tryz.func108, Tryz.ntmps108
  go_wp2
  go_ret2
  exact ⟨rfl, 0, rfl⟩
 ·
  obtain ⟨t1, t2⟩ := wdne (ds := s) (by omega)
  obtain ⟨ans, hans⟩ : ∃ ans, ans = Wd.mat s.data.toList l := ⟨_, rfl⟩
  rw [← hans]
  have HA := Lib.hid (show Wd.run s.data.toList l (l.drop 0) 0 (-1) false = ans by rw [hans]; unfold Wd.mat; rw [if_neg (by rw [← List.length_eq_zero_iff, blen]; exact h0)]; rfl)
  have HV := Lib.hid hv
  obtain ⟨A, c, rfl, -⟩ := hv
  generalize hn : l.length = n at *
  have HN := Lib.hid hn
  have HZ := Lib.hid hz
  clear hn hz hans h0
  go_enter Tryz.func108, Tryz.ntmps108
  go_wp2_with fail
  go_loopw [6, 7, 14] (fun fv sv i wr => ∃ (k j : Nat) (f : Int) (b : Bool), k ≤ n ∧ i = .int .i64 k ∧ fv = .int .i64 f ∧ sv = .bool b ∧ -1 ≤ f ∧ f < n ∧ Wd.run s.data.toList l (l.drop k) k f b = ans ∧ wr = w.drewN j) (fun _ _ i _ => n - (intOf i).toNat)
  case atStart => exact ⟨0, 0, -1, false, Nat.zero_le _, rfl, rfl, rfl, by omega, by omega, HA.out, rfl⟩
  case round =>
   obtain ⟨k, j, f, b, hk, rfl, rfl, rfl, f0, f1, hr, rfl⟩ := hrel
   have HR := Lib.hid hr; clear hr
   by_cases hlt : k < n
   ·
    obtain ⟨a, rfl, g1⟩ := HV.out.get k (by rw [HN.out]; exact hlt)
    have CS := Lib.hid (fun W => wsame_any (l[k]'(by rw [HN.out]; exact hlt)) s W (HZ.out _ (List.getElem_mem _)) HS.out)
    have CB := Lib.hid (fun W => begins_any (l[k]'(by rw [HN.out]; exact hlt)) s W (HZ.out _ (List.getElem_mem _)) HS.out)
    have ST := Lib.hid (Wd.run_step (s := s.data.toList) (all := l) (k := k) (f := f) (sv := b) (by rw [HN.out]; exact hlt))
    have KL : Hid (k < l.length) := by rw [HN.out]; exact hlt
    generalize hx : (l[k]'(by rw [HN.out]; exact hlt)) = x at *
    cases c1 : Wd.same x.data.toList s.data.toList
    ·
     have C1 := Lib.hid c1
     cases c2 : Wd.beg x.data.toList s.data.toList
     ·
      have C2 := Lib.hid c2
      have HE := Lib.hid (show Wd.run s.data.toList l (l.drop (k + 1)) (k + 1) f b = ans by rw [← HR.out, ST.out, c1, c2]; simp)
      clear c1 c2
      go_wp2_with fail
      refine (CS.out _).mono ?_; rintro e w1 ⟨rfl, j1, rfl⟩
      rw [C1.out]
      go_wp2_with fail
      refine (CB.out _).mono ?_; rintro e w2 ⟨rfl, j2, rfl⟩
      rw [C2.out]
      go_wp2_with fail
      go_roundw
      case rel => exact ⟨k + 1, _, f, b, by omega, by go_num, rfl, rfl, by omega, by omega, HE.out, by first | rfl | simp only [World.drewN_drewN]⟩
      case measure => simp [intOf]; omega
     ·
      have C2 := Lib.hid c2
      by_cases c3 : f < 0
      ·
       have HE := Lib.hid (show Wd.run s.data.toList l (l.drop (k + 1)) (k + 1) (k : Int) b = ans by rw [← HR.out, ST.out, c1, c2]; simp [c3])
       clear c1 c2
       go_wp2_with fail
       refine (CS.out _).mono ?_; rintro e w1 ⟨rfl, j1, rfl⟩
       rw [C1.out]
       go_wp2_with fail
       refine (CB.out _).mono ?_; rintro e w2 ⟨rfl, j2, rfl⟩
       rw [C2.out]
       go_wp2_with fail
       go_roundw
       case rel => exact ⟨k + 1, _, (k : Int), b, by omega, by go_num, rfl, rfl, by omega, by omega, HE.out, by first | rfl | simp only [World.drewN_drewN]⟩
       case measure => simp [intOf]; omega
      ·
       have f2 : 0 ≤ f := by omega
       have hfl : f.toNat < l.length := by rw [HN.out]; omega
       obtain ⟨a', ha', g2⟩ := HV.out.get f.toNat hfl
       obtain rfl : a = a' := by injection ha'
       have CY := Lib.hid (fun W => wsame_any x (l[f.toNat]'hfl) W (by rw [← hx]; exact HZ.out _ (List.getElem_mem _)) (HZ.out _ (List.getElem_mem _)))
       have GD := Lib.hid (show l.getD f.toNat ByteArray.empty = l[f.toNat]'hfl by simp [List.getD, List.getElem?_eq_getElem hfl])
       generalize hy : l[f.toNat]'hfl = y at *
       cases c4 : Wd.same x.data.toList y.data.toList
       ·
        have C4 := Lib.hid c4
        have HE := Lib.hid (show Wd.run s.data.toList l (l.drop (k + 1)) (k + 1) f true = ans by rw [← HR.out, ST.out, c1, c2, GD.out, c4]; simp [c3])
        clear c1 c2 c4
        go_wp2_with fail
        refine (CS.out _).mono ?_; rintro e w1 ⟨rfl, j1, rfl⟩
        rw [C1.out]
        go_wp2_with fail
        refine (CB.out _).mono ?_; rintro e w2 ⟨rfl, j2, rfl⟩
        rw [C2.out]
        go_wp2_with fail
        refine (CY.out _).mono ?_; rintro e w3 ⟨rfl, j3, rfl⟩
        rw [C4.out]
        go_wp2_with fail
        go_roundw
        case rel => exact ⟨k + 1, _, f, true, by omega, by go_num, rfl, rfl, by omega, by omega, HE.out, by first | rfl | simp only [World.drewN_drewN]⟩
        case measure => simp [intOf]; omega
       ·
        have C4 := Lib.hid c4
        have HE := Lib.hid (show Wd.run s.data.toList l (l.drop (k + 1)) (k + 1) f b = ans by rw [← HR.out, ST.out, c1, c2, GD.out, c4]; simp [c3])
        clear c1 c2 c4
        go_wp2_with fail
        refine (CS.out _).mono ?_; rintro e w1 ⟨rfl, j1, rfl⟩
        rw [C1.out]
        go_wp2_with fail
        refine (CB.out _).mono ?_; rintro e w2 ⟨rfl, j2, rfl⟩
        rw [C2.out]
        go_wp2_with fail
        refine (CY.out _).mono ?_; rintro e w3 ⟨rfl, j3, rfl⟩
        rw [C4.out]
        go_wp2_with fail
        go_roundw
        case rel => exact ⟨k + 1, _, f, b, by omega, by go_num, rfl, rfl, by omega, by omega, HE.out, by first | rfl | simp only [World.drewN_drewN]⟩
        case measure => simp [intOf]; omega
    ·
     have C1 := Lib.hid c1
     have HE := Lib.hid (show ans = ((k : Int), 0) by rw [← HR.out, ST.out, c1]; simp)
     clear c1
     go_wp2_with fail
     refine (CS.out _).mono ?_; rintro e w1 ⟨rfl, j1, rfl⟩
     rw [C1.out]
     go_wp2_with fail
     go_ret2
     exact ⟨by rw [HE.out]; rfl, _, by first | rfl | simp only [World.drewN_drewN]⟩
   ·
    have HE := Lib.hid (show ans = if f < 0 ∨ b = true then (0, 3) else (f, 0) by rw [← HR.out, List.drop_of_length_le (by rw [HN.out]; omega)]; rfl)
    by_cases c3 : f < 0
    ·
     have HE2 := Lib.hid (show ans = (0, 3) by rw [HE.out]; simp [c3])
     clear HE
     go_wp2_with fail
     go_ret2
     exact ⟨by rw [HE2.out]; rfl, _, rfl⟩
    ·
     cases b
     ·
      have HE2 := Lib.hid (show ans = (f, 0) by rw [HE.out]; simp [c3])
      clear HE
      go_wp2_with fail
      go_ret2
      exact ⟨by rw [HE2.out]; rfl, _, rfl⟩
     ·
      have HE2 := Lib.hid (show ans = (0, 3) by rw [HE.out]; simp)
      clear HE
      go_wp2_with fail
      go_ret2
      exact ⟨by rw [HE2.out]; rfl, _, rfl⟩
namespace Wd
theorem run_bd (s : List UInt8) (all : List ByteArray) (N : Nat) : ∀ (r : List ByteArray) (k : Nat) (f : Int) (sv : Bool), k + r.length ≤ N → f < N →
  0 ≤ (run s all r k f sv).1 ∧ (run s all r k f sv).1 ≤ N ∧ ((run s all r k f sv).2 = 0 ∨ (run s all r k f sv).2 = 3 ∧ (run s all r k f sv).1 = 0) := by
 intro r
 induction r with
 | nil =>
  intro k f sv h1 h2
  rw [run_nil]
  split
  ·
   simp
  ·
   rename_i h
   have : ¬ f < 0 := fun hh => h (.inl hh)
   simp; omega
 | cons x r ih =>
  intro k f sv h1 h2
  have h3 : k + 1 + r.length ≤ N := by simp at h1; omega
  have h4 : (k : Int) < N := by simp at h1; omega
  unfold run
  split
  ·
   simp; omega
  ·
   split
   ·
    exact ih _ _ _ h3 h2
   ·
    split
    ·
     exact ih _ _ _ h3 h4
    ·
     split
     ·
      exact ih _ _ _ h3 h2
     ·
      exact ih _ _ _ h3 h2
theorem mat_bd (s : List UInt8) (all : List ByteArray) : 0 ≤ (mat s all).1 ∧ (mat s all).1 ≤ all.length ∧ ((mat s all).2 = 0 ∨ (mat s all).2 = 3 ∧ (mat s all).1 = 0) := by
 unfold mat
 split
 ·
  simp
 ·
  rename_i h
  have hN : (-1 : Int) < (all.length : Int) := by omega
  exact run_bd s all all.length all 0 (-1) false (by omega) hN
def days : List ByteArray := [⟨#[83, 117, 110, 100, 97, 121]⟩, ⟨#[77, 111, 110, 100, 97, 121]⟩, ⟨#[84, 117, 101, 115, 100, 97, 121]⟩, ⟨#[87, 101, 100, 110, 101, 115, 100, 97, 121]⟩, ⟨#[84, 104, 117, 114, 115, 100, 97, 121]⟩, ⟨#[70, 114, 105, 100, 97, 121]⟩, ⟨#[83, 97, 116, 117, 114, 100, 97, 121]⟩]
def up (p : Int × Int) : Int := if p.2 = 0 then p.1 + 1 else 0
def t3 (l : List ByteArray) (i : Int) : ByteArray := if 0 ≤ i ∧ i < l.length then (l.getD i.toNat ByteArray.empty).extract 0 3 else ByteArray.empty
end Wd
end Go.Proofs.YtjggjkeopbcmoaaGreatDoor
set_option linter.unusedVariables false
set_option linter.unusedSimpArgs false
namespace Go.Proofs.YtjggjkeopbcmoaaGreatDoor
open Go.RowKit
def gvV (line why : Int) : Value := .iface 130 (.agg #[.int .i64 line, .int .i64 why])
def gvL (line why : Int) : List PanicEntry := [{ v := gvV line why, recovered := false }]
abbrev gvP (why : Int) : List PanicEntry := gvL 0 why
theorem needat_yes (line why : Int) (w : World) : Calls Tryz.prog 46 #[.bool true, .int .i64 line, .int .i64 why] w fun e w' => e = .returned (.tuple #[]) ∧ w = w' := by
 go_enter Tryz.func46, Tryz.ntmps46
 go_wp2_with fail
 simp [bodyPost, results, Tryz.results46]
theorem gv_build (line why : Int) (W : World) : Sem.run Tryz.prog (Instr.build 130 #[(0, .agg #[.int .i64 line, .int .i64 why])]) W = .ok (.agg #[.int .i64 line, .int .i64 why]) W := by kernel_rfl
theorem needat_no (line why : Int) (w : World) : Calls Tryz.prog 46 #[.bool false, .int .i64 line, .int .i64 why] w fun e w' => e = .panicked (gvL line why) ∧ w = w' := by
 have hgb := gv_build line why
 go_enter Tryz.func46, Tryz.ntmps46
 go_wp2_with fail
 simp [bodyPost, gvL, gvV]
theorem need_yes (why : Int) (w : World) : Calls Tryz.prog 15 #[.bool true, .int .i64 why] w fun e w' => e = .returned (.tuple #[]) ∧ w = w' := by
 go_enter Tryz.func15, Tryz.ntmps15
 go_wp2_with fail
 refine (needat_yes 0 why _).mono ?_; rintro e w1 ⟨rfl, rfl⟩
 go_wp2_with fail
 simp [bodyPost, results, Tryz.results15]
theorem need_no (why : Int) (w : World) : Calls Tryz.prog 15 #[.bool false, .int .i64 why] w fun e w' => e = .panicked (gvP why) ∧ w = w' := by
 go_enter Tryz.func15, Tryz.ntmps15
 go_wp2_with fail
 refine (needat_no 0 why _).mono ?_; rintro e w1 ⟨rfl, rfl⟩
 refine (show bodyPost _ _ _ (Exit.panic (gvP why)) _ _ from ?_)
 simp [bodyPost]
theorem for_yes (w : World) : Calls Tryz.prog 50 #[.int .i64 0] w fun e w' => e = .returned (.tuple #[]) ∧ w = w' := by
 go_enter Tryz.func50, Tryz.ntmps50
 go_wp2_with fail
 refine (need_yes 0 _).mono ?_; rintro e w1 ⟨rfl, rfl⟩
 go_wp2_with fail
 simp [bodyPost, results, Tryz.results50]
theorem for_no (why : Int) (w : World) (h : why ≠ 0) : Calls Tryz.prog 50 #[.int .i64 why] w fun e w' => e = .panicked (gvP why) ∧ w = w' := by
 have g : (why == 0) = false := by rw [beq_eq_false_iff_ne]; exact h
 clear h
 go_enter Tryz.func50, Tryz.ntmps50
 go_wp2_with fail
 refine (need_no why _).mono ?_; rintro e w1 ⟨rfl, rfl⟩
 refine (show bodyPost _ _ _ (Exit.panic (gvP why)) _ _ from ?_)
 simp [bodyPost]
theorem gv_assert (line why : Int) (W : World) : Sem.run Tryz.prog (Instr.typeAssert (Value.iface 130 (Value.agg #[Value.int IntKind.i64 line, Value.int IntKind.i64 why])) 20 130 true) W = .ok (.tuple #[.agg #[.int .i64 line, .int .i64 why], .bool true]) W := by
 kernel_rfl
theorem must_yes (v : Int) (w : World) : Calls Tryz.prog 73 #[.int .i64 v, .int .i64 0] w fun e w' => e = .returned (.int .i64 v) ∧ w = w' := by
 go_enter Tryz.func73, Tryz.ntmps73
 go_wp2_with fail
 refine (for_yes _).mono ?_; rintro e w1 ⟨rfl, rfl⟩
 go_wp2_with fail
 go_ret
 exact ⟨rfl, rfl⟩
theorem must_no (v why : Int) (w : World) (h : why ≠ 0) : Calls Tryz.prog 73 #[.int .i64 v, .int .i64 why] w fun e w' => e = .panicked (gvP why) ∧ w = w' := by
 go_enter Tryz.func73, Tryz.ntmps73
 go_wp2_with fail
 refine (for_no why _ h).mono ?_; rintro e w1 ⟨rfl, rfl⟩
 refine (show bodyPost _ _ _ (Exit.panic (gvP why)) _ _ from ?_)
 simp [bodyPost]
theorem muti_yes (v : Int) (w : World) : Calls Tryz.prog 65 #[.int .i64 v, .int .i64 0] w fun e w' => e = .returned (.int .i64 v) ∧ w = w' := by
 go_enter Tryz.func65, Tryz.ntmps65
 go_wp2_with fail
 refine (for_yes _).mono ?_; rintro e w1 ⟨rfl, rfl⟩
 go_wp2_with fail
 go_ret
 exact ⟨rfl, rfl⟩
theorem muti_no (v why : Int) (w : World) (h : why ≠ 0) : Calls Tryz.prog 65 #[.int .i64 v, .int .i64 why] w fun e w' => e = .panicked (gvP why) ∧ w = w' := by
 go_enter Tryz.func65, Tryz.ntmps65
 go_wp2_with fail
 refine (for_no why _ h).mono ?_; rintro e w1 ⟨rfl, rfl⟩
 refine (show bodyPost _ _ _ (Exit.panic (gvP why)) _ _ from ?_)
 simp [bodyPost]
set_option maxRecDepth 100000 in
theorem gvi_catch (b : Nat) (x y line why : Int) (older : List PanicEntry) (w : World) (hb : b < w.heap.size) (hc : w.cell? ⟨b, 0, none⟩ = some (.int .i64 x)) (hd : w.cell? ⟨b, 1, none⟩ = some (.int .i64 y)) (hz : ∀ j, w.frozen? ⟨b, j, none⟩ = false) :
  CallsD Tryz.prog 161 #[.pointer (some ⟨b, 0, none⟩)] (.panicking ({ v := gvV line why, recovered := false } :: older)) w fun e u' w' =>
   e = .returned (.tuple #[]) ∧ u' = .panicking ({ v := gvV line why, recovered := true } :: older) ∧ w' = ((w.setCell ⟨b, 0, none⟩ (.int .i64 line)).setCell ⟨b, 1, none⟩ (.int .i64 why)).alloc (.cells #[.int .i64 line, .int .i64 why] 130) := by
 unfold gvV
 have hta := fun W => gv_assert line why W
 refine callsD_of_wpS Tryz.func161 rfl fun c₀ cs hu => ?_
 apply wpS_seq
 apply wpS_region
 simp [wpOpsS, go_sem, recoverD, hu, Tryz.ntmps161, Exit.thenS]
 refine wpS_of_wp ?_
 rw [show (#[Value.pointer (some ⟨b, 0, none⟩)] ++ (Array.replicate 11 undef).setIfInBounds 3 (Value.iface 130 (Value.agg #[Value.int IntKind.i64 line, Value.int IntKind.i64 why])) : Array Value) = #[.pointer (some ⟨b, 0, none⟩), undef, undef, undef, .iface 130 (.agg #[.int .i64 line, .int .i64 why]), undef, undef, undef, undef, undef, undef, undef] from rfl]
 have n1 : b ≠ w.heap.size := Nat.ne_of_lt hb
 have n2 : w.heap.size ≠ b := Nat.ne_of_gt hb
 go_wp2_with fail
 all_goals (cases c₀; simp_all [bodyPostS, results, Tryz.results161])
theorem gvi_idle (p : Addr) (w : World) :
  CallsD Tryz.prog 161 #[.pointer (some p)] .returning w fun e u' w' => e = .returned (.tuple #[]) ∧ u' = .returning ∧ w' = w := by
 refine callsD_of_wpS Tryz.func161 rfl fun c₀ cs hu => ?_
 apply wpS_seq
 apply wpS_region
 simp [wpOpsS, go_sem, recoverD, hu, Tryz.ntmps161, Exit.thenS]
 refine wpS_of_wp ?_
 rw [show (#[Value.pointer (some p)] ++ (Array.replicate 11 undef).setIfInBounds 3 Value.nilIface : Array Value) = #[.pointer (some p), undef, undef, undef, .nilIface, undef, undef, undef, undef, undef, undef, undef] from rfl]
 go_wp2_with fail
 all_goals (cases c₀; simp_all [bodyPostS, results, Tryz.results161])
set_option maxHeartbeats 1000000 in
set_option maxRecDepth 100000 in
theorem icaughtat_yes (g : FuncId) (qs : Array Value) (hg : ∀ W, Sem.run Tryz.prog (callFunc g qs) W = .ok (.enter g qs) W) (v : Int) (w : World)
  (CG : Hid (∀ W, Below w.heap.size w W → Calls Tryz.prog g qs W fun e w' => e = .returned (.int .i64 v) ∧ Below W.heap.size W w')) :
  Calls Tryz.prog 133 #[.func (Fn.func g) #[] qs] w fun e w' => e = .returned (.tuple #[.int .i64 v, .agg #[.int .i64 0, .int .i64 0]]) ∧ Below w.heap.size w w' := by
 have hmf : ∀ (fn : Fn) (first cap : Array Value) (w : World), (Instr.makeFunc fn first cap).run Tryz.prog w = .ok (.func fn first cap) w := fun _ _ _ _ => rfl
 go_enter_defers Tryz.func133, Tryz.ntmps133
 go_wp2_with fail
 refine (CG.out _ ((Below.refl _ _).alloc (Nat.le_refl _) _)).mono ?_; rintro e w1 ⟨rfl, b1⟩
 have B1 := Lib.hid (below_step ((Below.refl _ _).alloc (Nat.le_refl _) _) b1)
 have Q1 : Bk2 w1 w.heap.size (.int .i64 0) (.int .i64 0) := Bk2.of b1 (by simp) (by intro j; simp [go_sem]) (by simp [go_sem]) (by simp [go_sem])
 clear b1
 have c_b := Q1.hb; have c_f := Q1.fz; have c_0 := Q1.k0; have c_1 := Q1.k1
 clear Q1
 go_wp2_with fail
 refine leaves_cons (f := 161) (args := #[.pointer (some ⟨w.heap.size, 0, none⟩)]) (by simp) (by simp [go_sem]) ?_
 refine (gvi_idle ⟨w.heap.size, 0, none⟩ _).mono ?_
 rintro e u' w'' ⟨rfl, rfl, rfl⟩
 simp [Leaves, settle, results, Tryz.results133, go_sem, c_b, c_0, c_1, c_f]
 clear c_b c_f c_0 c_1
 repeat (refine Below.setCell ?_ (by first | omega | (simp; done) | (simp; omega)) _)
 exact B1.out
set_option maxHeartbeats 1000000 in
set_option maxRecDepth 100000 in
theorem icaughtat_no (g : FuncId) (qs : Array Value) (hg : ∀ W, Sem.run Tryz.prog (callFunc g qs) W = .ok (.enter g qs) W) (line why : Int) (w : World)
  (CG : Hid (∀ W, Below w.heap.size w W → Calls Tryz.prog g qs W fun e w' => e = .panicked (gvL line why) ∧ Below W.heap.size W w')) :
  Calls Tryz.prog 133 #[.func (Fn.func g) #[] qs] w fun e w' => e = .returned (.tuple #[.int .i64 0, .agg #[.int .i64 line, .int .i64 why]]) ∧ Below w.heap.size w w' := by
 have hmf : ∀ (fn : Fn) (first cap : Array Value) (w : World), (Instr.makeFunc fn first cap).run Tryz.prog w = .ok (.func fn first cap) w := fun _ _ _ _ => rfl
 go_enter_defers Tryz.func133, Tryz.ntmps133
 go_wp2_with fail
 refine (CG.out _ ((Below.refl _ _).alloc (Nat.le_refl _) _)).mono ?_; rintro e w1 ⟨rfl, b1⟩
 have B1 := Lib.hid (below_step ((Below.refl _ _).alloc (Nat.le_refl _) _) b1)
 have Q1 : Bk2 w1 w.heap.size (.int .i64 0) (.int .i64 0) := Bk2.of b1 (by simp) (by intro j; simp [go_sem]) (by simp [go_sem]) (by simp [go_sem])
 clear b1
 have c_b := Q1.hb; have c_f := Q1.fz; have c_0 := Q1.k0; have c_1 := Q1.k1
 clear Q1
 refine (show bodyPostD _ _ _ (Exit.panic (gvL line why)) _ _ from ?_)
 refine leaves_cons (f := 161) (args := #[.pointer (some ⟨w.heap.size, 0, none⟩)]) (by simp) (by simp [go_sem]) ?_
 refine (gvi_catch w.heap.size 0 0 line why [] _ c_b c_0 c_1 c_f).mono ?_
 rintro e u' w'' ⟨rfl, rfl, rfl⟩
 simp [Leaves, settle, results, Tryz.results133, go_sem, c_b, c_0, c_1, c_f]
 clear c_b c_f c_0 c_1
 refine Below.alloc (Below.setCell (Below.setCell B1.out (Nat.le_refl _) _) (Nat.le_refl _) _) (by simp; exact B1.out.size) _
set_option maxHeartbeats 1000000 in
set_option maxRecDepth 100000 in
theorem icaught_yes (g : FuncId) (qs : Array Value) (hg : ∀ W, Sem.run Tryz.prog (callFunc g qs) W = .ok (.enter g qs) W) (v : Int) (w : World)
  (CG : Hid (∀ W, Below w.heap.size w W → Calls Tryz.prog g qs W fun e w' => e = .returned (.int .i64 v) ∧ Below W.heap.size W w')) :
  Calls Tryz.prog 101 #[.func (Fn.func g) #[] qs] w fun e w' => e = .returned (.tuple #[.int .i64 v, .int .i64 0]) ∧ Below w.heap.size w w' := by
 go_enter Tryz.func101, Tryz.ntmps101
 go_wp2_with fail
 refine (icaughtat_yes g qs hg v _ CG).mono ?_; rintro e w1 ⟨rfl, b1⟩
 have B1 := Lib.hid b1
 clear b1
 go_wp2_with fail
 go_quiet (fail)
 go_wp2_with fail
 go_ret2
 exact ⟨rfl, by repeat (first | exact B1.out | refine below_drewN ?_ _ | refine Below.drew ?_ | refine Below.setCell ?_ (by first | omega | (simp; done) | (simp; exact B1.out.size) | (simp; omega)) _ | refine Below.alloc ?_ (by first | exact B1.out.size | omega | (simp; done) | (simp; omega)) _)⟩
set_option maxHeartbeats 1000000 in
set_option maxRecDepth 100000 in
theorem icaught_no (g : FuncId) (qs : Array Value) (hg : ∀ W, Sem.run Tryz.prog (callFunc g qs) W = .ok (.enter g qs) W) (line why : Int) (w : World)
  (CG : Hid (∀ W, Below w.heap.size w W → Calls Tryz.prog g qs W fun e w' => e = .panicked (gvL line why) ∧ Below W.heap.size W w')) :
  Calls Tryz.prog 101 #[.func (Fn.func g) #[] qs] w fun e w' => e = .returned (.tuple #[.int .i64 0, .int .i64 why]) ∧ Below w.heap.size w w' := by
 go_enter Tryz.func101, Tryz.ntmps101
 go_wp2_with fail
 refine (icaughtat_no g qs hg line why _ CG).mono ?_; rintro e w1 ⟨rfl, b1⟩
 have B1 := Lib.hid b1
 clear b1
 go_wp2_with fail
 go_quiet (fail)
 go_wp2_with fail
 go_ret2
 exact ⟨rfl, by repeat (first | exact B1.out | refine below_drewN ?_ _ | refine Below.drew ?_ | refine Below.setCell ?_ (by first | omega | (simp; done) | (simp; exact B1.out.size) | (simp; omega)) _ | refine Below.alloc ?_ (by first | exact B1.out.size | omega | (simp; done) | (simp; omega)) _)⟩
end Go.Proofs.YtjggjkeopbcmoaaGreatDoor
set_option linter.unusedVariables false
set_option linter.unusedSimpArgs false
namespace Go.Proofs.YtjggjkeopbcmoaaGreatDoor
open Go.RowKit Go.Sort
namespace Yr
def starts : List UInt8 := [45, 48, 49, 50, 51, 52, 53, 54, 55, 56, 57]
def isN (l : List UInt8) : Bool := match l with | [] => false | c :: _ => starts.contains c
theorem isN_ix (l : List UInt8) : isN l = (Lib.indexAny l starts == 0) := by
 cases l with
 | nil => rfl
 | cons c r =>
  show starts.contains c = _
  unfold Lib.indexAny
  cases h : starts.contains c
  ·
   have := Lib.indexAny_ge starts r
   rw [if_neg (by decide)]
   split
   ·
    rfl
   ·
    symm; rw [beq_eq_false_iff_ne]; rename_i hh; have : Lib.indexAny r starts ≠ -1 := by simpa using hh
    omega
  ·
   rfl
def inY (n : Int) : Bool := decide (-32767 ≤ n) && decide (n ≤ 32767)
def num (l : List UInt8) : Int × Int := if (Num.rd l).2 = 0 then (if inY (Num.rd l).1 then ((Num.rd l).1, 0) else (0, 1)) else (0, (Num.rd l).2)
def names : List ByteArray := [⟨#[109, 105, 110, 105, 109, 117, 109]⟩, ⟨#[109, 97, 120, 105, 109, 117, 109]⟩, ⟨#[111, 110, 108, 121]⟩]
def word (l : List UInt8) : Int × Int := Wd.mat l names
def fr (l : List UInt8) : Int × Int := if isN l then num l else if (word l).2 = 0 then (if (word l).1 = 0 then (-32767, 0) else (0, 3)) else (0, (word l).2)
def la (l : List UInt8) (f : Int) : Int × Int := if isN l then num l else if (word l).2 = 0 then (if (word l).1 = 0 then (0, 3) else if (word l).1 = 1 then (32767, 0) else (f, 0)) else (0, (word l).2)
def to (l : List UInt8) (f : Int) : Int × Int := if (la l f).2 = 0 then (if f ≤ (la l f).1 then ((la l f).1, 0) else (0, 14)) else (0, (la l f).2)
end Yr
theorem yisn_any (s : ByteArray) (w : World) (hs : s.size ≤ 1000) :
  Calls Tryz.prog 103 #[.string s] w fun e w' => e = .returned (.bool (Yr.isN s.data.toList)) ∧ Below w.heap.size w w' := by
 have e := Yr.isN_ix s.data.toList
 have C : Hid (∀ W, Calls Tryz.prog 122 #[.string s, .string ⟨#[45, 48, 49, 50, 51, 52, 53, 54, 55, 56, 57]⟩] W fun e w' => e = .returned (.int .i64 (Lib.indexAny s.data.toList Yr.starts)) ∧ Below W.heap.size W w') := fun W => ixany s ⟨#[45, 48, 49, 50, 51, 52, 53, 54, 55, 56, 57]⟩ W (by decide) (by omega) (by decide) (by decide)
 generalize Lib.indexAny s.data.toList Yr.starts = j at e C
 rw [e]
 clear e
 go_enter Tryz.func103, Tryz.ntmps103
 go_wp2_with fail
 refine (C.out _).mono ?_; rintro e w1 ⟨rfl, b1⟩
 have d1 : Below w.heap.size w w1 := below_step gr0 b1
 have B1 := Lib.hid d1
 clear b1 d1
 go_wp2_with fail
 go_ret
 exact ⟨rfl, (grB B1)⟩
theorem yin_any (n : Int) (w : World) : Calls Tryz.prog 51 #[.int .i64 n] w fun e w' => e = .returned (.bool (Yr.inY n)) ∧ w = w' := by
 unfold Yr.inY
 by_cases h1 : -32767 ≤ n
 ·
  go_enter Tryz.func51, Tryz.ntmps51
  go_wp2_with fail
  go_ret
  exact ⟨by simp [h1], rfl⟩
 ·
  rw [decide_eq_false h1]
  go_enter Tryz.func51, Tryz.ntmps51
  go_wp2_with fail
  go_ret
  exact ⟨rfl, rfl⟩
theorem ynum_yes (s : ByteArray) (v : Int) (w : World) (hs : s.size ≤ 1000) (tp : TypeId) (p : Value) (hv : w.var? Tryz.prog "strconv.ErrRange" = some #[.iface tp p]) (h : Yr.num s.data.toList = (v, 0)) :
  Calls Tryz.prog 104 #[.string s] w fun e w' => e = .returned (.int .i64 v) ∧ Below w.heap.size w w' := by
 have C := read_any s w hs tp p hv
 unfold Yr.num at h
 generalize (Num.rd s.data.toList).1 = x at C h
 generalize (Num.rd s.data.toList).2 = q at C h
 have hq : q = 0 := by
  by_cases hq : q = 0
  ·
   exact hq
  ·
   rw [if_neg hq] at h; exact congrArg Prod.snd h
 subst hq
 rw [if_pos rfl] at h
 have hin : Yr.inY x = true := by
  cases hi : Yr.inY x
  ·
   rw [hi] at h; exact absurd (congrArg Prod.snd h) (by simp)
  ·
   rfl
 rw [hin] at h
 obtain rfl : x = v := congrArg Prod.fst h
 have CI := Lib.hid (fun W => yin_any x W)
 rw [hin] at CI
 clear h hin
 go_enter Tryz.func104, Tryz.ntmps104
 go_wp2_with fail
 refine (C).mono ?_; rintro e w1 ⟨rfl, b1⟩
 have d1 : Below w.heap.size w w1 := below_step gr0 b1
 have B1 := Lib.hid d1
 clear b1 d1
 go_wp2_with fail
 refine (must_yes x _).mono ?_; rintro e v1 ⟨rfl, rfl⟩
 go_wp2_with fail
 refine (CI.out _).mono ?_; rintro e v2 ⟨rfl, rfl⟩
 go_wp2_with fail
 refine (need_yes 1 _).mono ?_; rintro e v3 ⟨rfl, rfl⟩
 go_wp2_with fail
 go_ret
 exact ⟨rfl, by first | exact B1.out | (repeat (first | exact B1.out | refine below_drewN ?_ _ | refine Below.drew ?_))⟩
theorem ynum_no (s : ByteArray) (q : Int) (w : World) (hs : s.size ≤ 1000) (tp : TypeId) (p : Value) (hv : w.var? Tryz.prog "strconv.ErrRange" = some #[.iface tp p]) (h : (Yr.num s.data.toList).2 = q) (hq : q ≠ 0) :
  Calls Tryz.prog 104 #[.string s] w fun e w' => e = .panicked (gvP q) ∧ Below w.heap.size w w' := by
 have C := read_any s w hs tp p hv
 unfold Yr.num at h
 generalize (Num.rd s.data.toList).1 = x at C h
 generalize (Num.rd s.data.toList).2 = q2 at C h
 by_cases hz : q2 = 0
 ·
  subst hz
  rw [if_pos rfl] at h
  have hin : Yr.inY x = false := by
   cases hi : Yr.inY x
   ·
    rfl
   ·
    rw [hi] at h; exact absurd h.symm hq
  rw [hin] at h
  obtain rfl : 1 = q := h
  have CI := Lib.hid (fun W => yin_any x W)
  rw [hin] at CI
  clear hin hq
  go_enter Tryz.func104, Tryz.ntmps104
  go_wp2_with fail
  refine (C).mono ?_; rintro e w1 ⟨rfl, b1⟩
  have d1 : Below w.heap.size w w1 := below_step gr0 b1
  have B1 := Lib.hid d1
  clear b1 d1
  go_wp2_with fail
  refine (must_yes x _).mono ?_; rintro e v1 ⟨rfl, rfl⟩
  go_wp2_with fail
  refine (CI.out _).mono ?_; rintro e v2 ⟨rfl, rfl⟩
  go_wp2_with fail
  refine (need_no 1 _).mono ?_; rintro e w5 ⟨rfl, rfl⟩
  refine (show bodyPost _ _ _ (Exit.panic (gvP 1)) _ _ from ?_)
  exact ⟨rfl, rfl, B1.out⟩
 ·
  rw [if_neg hz] at h
  obtain rfl : q2 = q := h
  go_enter Tryz.func104, Tryz.ntmps104
  go_wp2_with fail
  refine (C).mono ?_; rintro e w1 ⟨rfl, b1⟩
  have d1 : Below w.heap.size w w1 := below_step gr0 b1
  have B1 := Lib.hid d1
  clear b1 d1
  go_wp2_with fail
  refine (must_no x q2 _ hq).mono ?_; rintro e w5 ⟨rfl, rfl⟩
  refine (show bodyPost _ _ _ (Exit.panic (gvP q2)) _ _ from ?_)
  exact ⟨rfl, rfl, B1.out⟩
theorem names_st (W : World) (t : TypeId) : StS (W.alloc (.cells #[.string ⟨#[109, 105, 110, 105, 109, 117, 109]⟩, .string ⟨#[109, 97, 120, 105, 109, 117, 109]⟩, .string ⟨#[111, 110, 108, 121]⟩] t)) (.slice (some ⟨W.heap.size, 0, none⟩) 3 3) Yr.names := by
 refine ⟨some ⟨W.heap.size, 0, none⟩, 3, rfl, fun _ => ⟨_, rfl, by simp, ?_⟩⟩
 intro j u hj
 match j, hj with
 | 0, hj => rw [← (Option.some.inj hj)]; simp [go_sem]
 | 1, hj => rw [← (Option.some.inj hj)]; simp [go_sem]
 | 2, hj => rw [← (Option.some.inj hj)]; simp [go_sem]
 | (j + 3), hj => simp [Yr.names] at hj
theorem ymat (s : ByteArray) (hs : s.size ≤ 1000) : ∃ k q, Yr.word s.data.toList = (k, q) ∧ (q = 0 ∨ q = 3) ∧ (0 ≤ k ∧ k ≤ 3) ∧ Hid (∀ (W : World) (t : TypeId), Calls Tryz.prog 108 #[.string s, .slice (some ⟨W.heap.size, 0, none⟩) 3 3] (W.alloc (.cells #[.string ⟨#[109, 105, 110, 105, 109, 117, 109]⟩, .string ⟨#[109, 97, 120, 105, 109, 117, 109]⟩, .string ⟨#[111, 110, 108, 121]⟩] t)) fun e w' => e = .returned (.tuple #[.int .i64 k, .int .i64 q]) ∧ ∃ n, w' = (W.alloc (.cells #[.string ⟨#[109, 105, 110, 105, 109, 117, 109]⟩, .string ⟨#[109, 97, 120, 105, 109, 117, 109]⟩, .string ⟨#[111, 110, 108, 121]⟩] t)).drewN n) := by
 obtain ⟨b0, b1, b2⟩ := Wd.mat_bd s.data.toList Yr.names
 refine ⟨(Wd.mat s.data.toList Yr.names).1, (Wd.mat s.data.toList Yr.names).2, rfl, ?_, ⟨b0, b1⟩, fun W t => ?_⟩
 ·
  rcases b2 with h | ⟨h, _⟩
  ·
   exact .inl h
  ·
   exact .inr h
 ·
  exact match_any s _ Yr.names _ (names_st W t) (by unfold maxLen; omega) (by decide) (by decide)
set_option maxHeartbeats 1000000 in
theorem yword_yes (s : ByteArray) (k : Int) (w : World) (hs : s.size ≤ 1000) (h : Yr.word s.data.toList = (k, 0)) :
  Calls Tryz.prog 105 #[.string s] w fun e w' => e = .returned (.int .i64 k) ∧ Below w.heap.size w w' := by
 obtain ⟨k2, q2, e, -, -, C⟩ := ymat s hs
 rw [h] at e
 obtain ⟨rfl, rfl⟩ : k = k2 ∧ (0 : Int) = q2 := ⟨congrArg Prod.fst e, congrArg Prod.snd e⟩
 clear h e
 go_enter Tryz.func105, Tryz.ntmps105
 go_wp2_with fail
 refine (C.out w _).mono ?_; rintro e w1 ⟨rfl, n, rfl⟩
 go_wp2_with fail
 refine (muti_yes k _).mono ?_; rintro e w2 ⟨rfl, rfl⟩
 go_wp2_with fail
 go_ret
 exact ⟨rfl, below_new _ _ _⟩
set_option maxHeartbeats 1000000 in
theorem yword_no (s : ByteArray) (q : Int) (w : World) (hs : s.size ≤ 1000) (h : (Yr.word s.data.toList).2 = q) (hq : q ≠ 0) :
  Calls Tryz.prog 105 #[.string s] w fun e w' => e = .panicked (gvP q) ∧ Below w.heap.size w w' := by
 obtain ⟨k2, q2, e, -, -, C⟩ := ymat s hs
 rw [e] at h
 obtain rfl : q2 = q := h
 clear e
 go_enter Tryz.func105, Tryz.ntmps105
 go_wp2_with fail
 refine (C.out w _).mono ?_; rintro e w1 ⟨rfl, n, rfl⟩
 go_wp2_with fail
 refine (muti_no k2 q2 _ hq).mono ?_; rintro e w2 ⟨rfl, rfl⟩
 refine (show bodyPost _ _ _ (Exit.panic (gvP q2)) _ _ from ?_)
 exact ⟨rfl, rfl, below_new _ _ _⟩
end Go.Proofs.YtjggjkeopbcmoaaGreatDoor
