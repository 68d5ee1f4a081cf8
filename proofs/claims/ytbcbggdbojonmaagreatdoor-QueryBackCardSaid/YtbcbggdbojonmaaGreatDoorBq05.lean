/- Joined: WdB, WdCb, LkA. -/
import Derived.Test.YtbcbggdbojonmaaGreatDoorBq04
import Derived.Test.YtbcbggdbojonmaaGreatDoorLaidK
import Derived.Lib.IndexAny
import Derived.Shelf.Small.Strs
set_option linter.unusedVariables false
set_option linter.unusedSimpArgs false
namespace Go.Proofs.YtbcbggdbojonmaaGreatDoor
open Go.RowKit Go.Sort
namespace Wd
def run (s : List UInt8) (all : List ByteArray) : List ByteArray → Nat → Int → Bool → Int × Int
 | [], _, f, sv => if f < 0 ∨ sv = true then (0, 3) else (f, 0)
 | x :: r, i, f, sv => if same x.data.toList s = true then ((i : Int), 0) else if beg x.data.toList s = false then run s all r (i + 1) f sv else if f < 0 then run s all r (i + 1) (i : Int) sv
  else if same x.data.toList (all.getD f.toNat ByteArray.empty).data.toList = true then run s all r (i + 1) f sv else run s all r (i + 1) f true
def mat (s : List UInt8) (all : List ByteArray) : Int × Int := if s = [] then (0, 3) else run s all all 0 (-1) false
theorem run_nil {s : List UInt8} {all : List ByteArray} {k : Nat} {f : Int} {sv : Bool} : run s all [] k f sv = if f < 0 ∨ sv = true then (0, 3) else (f, 0) := rfl
theorem run_step {s : List UInt8} {all : List ByteArray} {k : Nat} {f : Int} {sv : Bool} (h : k < all.length) : run s all (all.drop k) k f sv =
  if same all[k].data.toList s = true then ((k : Int), 0) else if beg all[k].data.toList s = false then run s all (all.drop (k + 1)) (k + 1) f sv else if f < 0 then run s all (all.drop (k + 1)) (k + 1) (k : Int) sv
  else if same all[k].data.toList (all.getD f.toNat ByteArray.empty).data.toList = true then run s all (all.drop (k + 1)) (k + 1) f sv else run s all (all.drop (k + 1)) (k + 1) f true := by
 rw [List.drop_eq_getElem_cons h]
 rfl
end Wd
theorem wdne {ds : ByteArray} (h : 0 < ds.size) : ds.toList.isEmpty = false ∧ ¬ ds.toList = [] := by
 have : ds.toList ≠ [] := by
  intro e
  have hl := blen ds
  rw [← ByteArray.toList_eq] at hl
  rw [e] at hl; simp at hl; omega
 exact ⟨by simpa using this, this⟩
theorem s_nil {s : ByteArray} (h : s.size = 0) : s = ByteArray.empty := by
 apply ByteArray.ext
 have : s.data.size = 0 := h
 exact Array.size_eq_zero_iff.1 this
set_option maxHeartbeats 4000000 in
set_option maxRecDepth 100000 in
theorem match_any (s : ByteArray) (v : Value) (l : List ByteArray) (w : World) (hv : StS w v l) (hs : s.size ≤ maxLen) (hz : ∀ x ∈ l, x.size ≤ maxLen) (hm : l.length ≤ maxLen) :
  Calls Tryz.prog 75 #[.string s, v] w fun e w' => e = .returned (.tuple #[.int .i64 (Wd.mat s.data.toList l).1, .int .i64 (Wd.mat s.data.toList l).2]) ∧ ∃ k, w' = w.drewN k := by
 unfold maxLen at hm
 have HS := Lib.hid hs; clear hs
 by_cases h0 : s.size = 0
 ·
  rw [show Wd.mat s.data.toList l = (0, 3) by unfold Wd.mat; rw [if_pos (by rw [← List.length_eq_zero_iff, blen]; exact h0)]]
  obtain rfl := s_nil h0
  obtain ⟨A, c, rfl, -⟩ := hv
  go_enter Tryz.func75, Tryz.ntmps75
  go_wp2
  go_ret2
  exact ⟨rfl, 0, rfl⟩
 ·
  obtain ⟨t1, t2⟩ := wdne (ds := s) (by omega)
  obtain ⟨ans, hans⟩ : ∃ ans, ans = Wd.mat s.data.toList l := ⟨_, rfl⟩
  rw [← hans]
  have HA := Lib.hid (show Wd.run s.data.toList l (l.drop 0) 0 (-1) false = ans by rw [hans]; unfold Wd.mat; rw [if_neg (by rw [← List.length_eq_zero_iff, blen]; exact h0)]; rfl)
  have HV := Lib.hid hv
  obtain ⟨A, c, rfl, -⟩ := hv
  generalize hn : l.length = n at *
  have HN := Lib.hid hn
  have HZ := Lib.hid hz
  clear hn hz hans h0
  go_enter Tryz.func75, Tryz.ntmps75
  go_wp2_with fail
  go_loopw [6, 7, 14] (fun fv sv i wr => ∃ (k j : Nat) (f : Int) (b : Bool), k ≤ n ∧ i = .int .i64 k ∧ fv = .int .i64 f ∧ sv = .bool b ∧ -1 ≤ f ∧ f < n ∧ Wd.run s.data.toList l (l.drop k) k f b = ans ∧ wr = w.drewN j) (fun _ _ i _ => n - (intOf i).toNat)
  case atStart => exact ⟨0, 0, -1, false, Nat.zero_le _, rfl, rfl, rfl, by omega, by omega, HA.out, rfl⟩
  case round =>
   obtain ⟨k, j, f, b, hk, rfl, rfl, rfl, f0, f1, hr, rfl⟩ := hrel
   have HR := Lib.hid hr; clear hr
   by_cases hlt : k < n
   ·
    obtain ⟨a, rfl, g1⟩ := HV.out.get k (by rw [HN.out]; exact hlt)
    have CS := Lib.hid (fun W => wsame_any (l[k]'(by rw [HN.out]; exact hlt)) s W (HZ.out _ (List.getElem_mem _)) HS.out)
    have CB := Lib.hid (fun W => begins_any (l[k]'(by rw [HN.out]; exact hlt)) s W (HZ.out _ (List.getElem_mem _)) HS.out)
    have ST := Lib.hid (Wd.run_step (s := s.data.toList) (all := l) (k := k) (f := f) (sv := b) (by rw [HN.out]; exact hlt))
    have KL : Hid (k < l.length) := by rw [HN.out]; exact hlt
    generalize hx : (l[k]'(by rw [HN.out]; exact hlt)) = x at *
    cases c1 : Wd.same x.data.toList s.data.toList
    ·
     have C1 := Lib.hid c1
     cases c2 : Wd.beg x.data.toList s.data.toList
     ·
      have C2 := Lib.hid c2
      have HE := Lib.hid (show Wd.run s.data.toList l (l.drop (k + 1)) (k + 1) f b = ans by rw [← HR.out, ST.out, c1, c2]; simp)
      clear c1 c2
      go_wp2_with fail
      refine (CS.out _).mono ?_; rintro e w1 ⟨rfl, j1, rfl⟩
      rw [C1.out]
      go_wp2_with fail
      refine (CB.out _).mono ?_; rintro e w2 ⟨rfl, j2, rfl⟩
      rw [C2.out]
      go_wp2_with fail
      go_roundw
      case rel => exact ⟨k + 1, _, f, b, by omega, by go_num, rfl, rfl, by omega, by omega, HE.out, by first | rfl | simp only [World.drewN_drewN]⟩
      case measure => simp [intOf]; omega
     ·
      have C2 := Lib.hid c2
      by_cases c3 : f < 0
      ·
       have HE := Lib.hid (show Wd.run s.data.toList l (l.drop (k + 1)) (k + 1) (k : Int) b = ans by rw [← HR.out, ST.out, c1, c2]; simp [c3])
       clear c1 c2
       go_wp2_with fail
       refine (CS.out _).mono ?_; rintro e w1 ⟨rfl, j1, rfl⟩
       rw [C1.out]
       go_wp2_with fail
       refine (CB.out _).mono ?_; rintro e w2 ⟨rfl, j2, rfl⟩
       rw [C2.out]
       go_wp2_with fail
       go_roundw
       case rel => exact ⟨k + 1, _, (k : Int), b, by omega, by go_num, rfl, rfl, by omega, by omega, HE.out, by first | rfl | simp only [World.drewN_drewN]⟩
       case measure => simp [intOf]; omega
      ·
       have f2 : 0 ≤ f := by omega
       have hfl : f.toNat < l.length := by rw [HN.out]; omega
       obtain ⟨a', ha', g2⟩ := HV.out.get f.toNat hfl
       obtain rfl : a = a' := by injection ha'
       have CY := Lib.hid (fun W => wsame_any x (l[f.toNat]'hfl) W (by rw [← hx]; exact HZ.out _ (List.getElem_mem _)) (HZ.out _ (List.getElem_mem _)))
       have GD := Lib.hid (show l.getD f.toNat ByteArray.empty = l[f.toNat]'hfl by simp [List.getD, List.getElem?_eq_getElem hfl])
       generalize hy : l[f.toNat]'hfl = y at *
       cases c4 : Wd.same x.data.toList y.data.toList
       ·
        have C4 := Lib.hid c4
        have HE := Lib.hid (show Wd.run s.data.toList l (l.drop (k + 1)) (k + 1) f true = ans by rw [← HR.out, ST.out, c1, c2, GD.out, c4]; simp [c3])
        clear c1 c2 c4
        go_wp2_with fail
        refine (CS.out _).mono ?_; rintro e w1 ⟨rfl, j1, rfl⟩
        rw [C1.out]
        go_wp2_with fail
        refine (CB.out _).mono ?_; rintro e w2 ⟨rfl, j2, rfl⟩
        rw [C2.out]
        go_wp2_with fail
        refine (CY.out _).mono ?_; rintro e w3 ⟨rfl, j3, rfl⟩
        rw [C4.out]
        go_wp2_with fail
        go_roundw
        case rel => exact ⟨k + 1, _, f, true, by omega, by go_num, rfl, rfl, by omega, by omega, HE.out, by first | rfl | simp only [World.drewN_drewN]⟩
        case measure => simp [intOf]; omega
       ·
        have C4 := Lib.hid c4
        have HE := Lib.hid (show Wd.run s.data.toList l (l.drop (k + 1)) (k + 1) f b = ans by rw [← HR.out, ST.out, c1, c2, GD.out, c4]; simp [c3])
        clear c1 c2 c4
        go_wp2_with fail
        refine (CS.out _).mono ?_; rintro e w1 ⟨rfl, j1, rfl⟩
        rw [C1.out]
        go_wp2_with fail
        refine (CB.out _).mono ?_; rintro e w2 ⟨rfl, j2, rfl⟩
        rw [C2.out]
        go_wp2_with fail
        refine (CY.out _).mono ?_; rintro e w3 ⟨rfl, j3, rfl⟩
        rw [C4.out]
        go_wp2_with fail
        go_roundw
        case rel => exact ⟨k + 1, _, f, b, by omega, by go_num, rfl, rfl, by omega, by omega, HE.out, by first | rfl | simp only [World.drewN_drewN]⟩
        case measure => simp [intOf]; omega
    ·
     have C1 := Lib.hid c1
     have HE := Lib.hid (show ans = ((k : Int), 0) by rw [← HR.out, ST.out, c1]; simp)
     clear c1
     go_wp2_with fail
     refine (CS.out _).mono ?_; rintro e w1 ⟨rfl, j1, rfl⟩
     rw [C1.out]
     go_wp2_with fail
     go_ret2
     exact ⟨by rw [HE.out]; rfl, _, by first | rfl | simp only [World.drewN_drewN]⟩
   ·
    have HE := Lib.hid (show ans = if f < 0 ∨ b = true then (0, 3) else (f, 0) by rw [← HR.out, List.drop_of_length_le (by rw [HN.out]; omega)]; rfl)
    by_cases c3 : f < 0
    ·
     have HE2 := Lib.hid (show ans = (0, 3) by rw [HE.out]; simp [c3])
     clear HE
     go_wp2_with fail
     go_ret2
     exact ⟨by rw [HE2.out]; rfl, _, rfl⟩
    ·
     cases b
     ·
      have HE2 := Lib.hid (show ans = (f, 0) by rw [HE.out]; simp [c3])
      clear HE
      go_wp2_with fail
      go_ret2
      exact ⟨by rw [HE2.out]; rfl, _, rfl⟩
     ·
      have HE2 := Lib.hid (show ans = (0, 3) by rw [HE.out]; simp)
      clear HE
      go_wp2_with fail
      go_ret2
      exact ⟨by rw [HE2.out]; rfl, _, rfl⟩
namespace Wd
theorem run_bd (s : List UInt8) (all : List ByteArray) (N : Nat) : ∀ (r : List ByteArray) (k : Nat) (f : Int) (sv : Bool), k + r.length ≤ N → f < N →
  0 ≤ (run s all r k f sv).1 ∧ (run s all r k f sv).1 ≤ N ∧ ((run s all r k f sv).2 = 0 ∨ (run s all r k f sv).2 = 3 ∧ (run s all r k f sv).1 = 0) := by
 intro r
 induction r with
 | nil =>
  intro k f sv h1 h2
  rw [run_nil]
  split
  ·
   simp
  ·
   rename_i h
   have : ¬ f < 0 := fun hh => h (.inl hh)
   simp; omega
 | cons x r ih =>
  intro k f sv h1 h2
  have h3 : k + 1 + r.length ≤ N := by simp at h1; omega
  have h4 : (k : Int) < N := by simp at h1; omega
  unfold run
  split
  ·
   simp; omega
  ·
   split
   ·
    exact ih _ _ _ h3 h2
   ·
    split
    ·
     exact ih _ _ _ h3 h4
    ·
     split
     ·
      exact ih _ _ _ h3 h2
     ·
      exact ih _ _ _ h3 h2
theorem mat_bd (s : List UInt8) (all : List ByteArray) : 0 ≤ (mat s all).1 ∧ (mat s all).1 ≤ all.length ∧ ((mat s all).2 = 0 ∨ (mat s all).2 = 3 ∧ (mat s all).1 = 0) := by
 unfold mat
 split
 ·
  simp
 ·
  rename_i h
  have hN : (-1 : Int) < (all.length : Int) := by omega
  exact run_bd s all all.length all 0 (-1) false (by omega) hN
def days : List ByteArray := [⟨#[83, 117, 110, 100, 97, 121]⟩, ⟨#[77, 111, 110, 100, 97, 121]⟩, ⟨#[84, 117, 101, 115, 100, 97, 121]⟩, ⟨#[87, 101, 100, 110, 101, 115, 100, 97, 121]⟩, ⟨#[84, 104, 117, 114, 115, 100, 97, 121]⟩, ⟨#[70, 114, 105, 100, 97, 121]⟩, ⟨#[83, 97, 116, 117, 114, 100, 97, 121]⟩]
def up (p : Int × Int) : Int := if p.2 = 0 then p.1 + 1 else 0
end Wd
namespace Lk
def bg (c : Nat) : Bool := (decide (65 ≤ c) && decide (c ≤ 90)) || (decide (97 ≤ c) && decide (c ≤ 122)) || decide (c = 95)
def dg (c : Nat) : Bool := decide (48 ≤ c) && decide (c ≤ 57)
def sg (c : Nat) : Bool := decide (c = 45) || decide (c = 43) || decide (c = 47) || decide (c = 46)
def gn (c : Nat) : Bool := bg c || dg c || sg c
def bgB (c : UInt8) : Bool := bg c.toNat
def gnB (c : UInt8) : Bool := gn c.toNat
def isN (l : List UInt8) : Bool := l.all gnB && (match l with | [] => false | c :: _ => bgB c)
def nm (l : List UInt8) : Int := if 64 < l.length then 9 else if isN l = true then 0 else 10
theorem sg_of (c : UInt8) : decide (0 ≤ Lib.indexByte [45, 43, 47, 46] c) = sg c.toNat := by
 have h : ∀ n : Fin 256, decide (0 ≤ Lib.indexByte [45, 43, 47, 46] (UInt8.ofNat n.1)) = sg n.1 := by decide +kernel
 have := h ⟨c.toNat, c.toNat_lt⟩
 simpa using this
end Lk
set_option maxRecDepth 100000 in
theorem nbegins_any (c : Nat) (w : World) (hc : c ≤ 255) : Calls Tryz.prog 116 #[.int .u8 (c : Int)] w fun e w' => e = .returned (.bool (Lk.bg c)) ∧ w = w' := by
 unfold Lk.bg
 obtain ⟨C, hC⟩ : ∃ C : Int, C = c := ⟨_, rfl⟩
 rw [← hC]
 rcases (by omega : (0 ≤ c ∧ c ≤ 64) ∨ (65 ≤ c ∧ c ≤ 90) ∨ (91 ≤ c ∧ c ≤ 94) ∨ (95 ≤ c ∧ c ≤ 95) ∨ (96 ≤ c ∧ c ≤ 96) ∨ (97 ≤ c ∧ c ≤ 122) ∨ (123 ≤ c ∧ c ≤ 255)) with h | h | h | h | h | h | h
 ·
  have hb : (decide (65 ≤ c) && decide (c ≤ 90) || (decide (97 ≤ c) && decide (c ≤ 122)) || decide (c = 95)) = false := by
   simp; omega
  rw [hb]; clear hb
  have f65 : ¬ (65 : Int) ≤ C := by omega
  have f97 : ¬ (97 : Int) ≤ C := by omega
  have f90 : C ≤ (90 : Int) := by omega
  have f122 : C ≤ (122 : Int) := by omega
  have q95 : (C == (95 : Int)) = false := by rw [beq_eq_false_iff_ne]; omega
  clear hC h
  go_enter Tryz.func116, Tryz.ntmps116
  go_wp2_with fail
  go_ret
  exact ⟨rfl, rfl⟩
 ·
  have hb : (decide (65 ≤ c) && decide (c ≤ 90) || (decide (97 ≤ c) && decide (c ≤ 122)) || decide (c = 95)) = true := by
   simp; omega
  rw [hb]; clear hb
  have f65 : (65 : Int) ≤ C := by omega
  have f97 : ¬ (97 : Int) ≤ C := by omega
  have f90 : C ≤ (90 : Int) := by omega
  have f122 : C ≤ (122 : Int) := by omega
  have q95 : (C == (95 : Int)) = false := by rw [beq_eq_false_iff_ne]; omega
  clear hC h
  go_enter Tryz.func116, Tryz.ntmps116
  go_wp2_with fail
  go_ret
  exact ⟨rfl, rfl⟩
 ·
  have hb : (decide (65 ≤ c) && decide (c ≤ 90) || (decide (97 ≤ c) && decide (c ≤ 122)) || decide (c = 95)) = false := by
   simp; omega
  rw [hb]; clear hb
  have f65 : (65 : Int) ≤ C := by omega
  have f97 : ¬ (97 : Int) ≤ C := by omega
  have f90 : ¬ C ≤ (90 : Int) := by omega
  have f122 : C ≤ (122 : Int) := by omega
  have q95 : (C == (95 : Int)) = false := by rw [beq_eq_false_iff_ne]; omega
  clear hC h
  go_enter Tryz.func116, Tryz.ntmps116
  go_wp2_with fail
  go_ret
  exact ⟨rfl, rfl⟩
 ·
  have hb : (decide (65 ≤ c) && decide (c ≤ 90) || (decide (97 ≤ c) && decide (c ≤ 122)) || decide (c = 95)) = true := by
   simp; omega
  rw [hb]; clear hb
  obtain rfl : C = 95 := by omega
  clear hC h
  go_enter Tryz.func116, Tryz.ntmps116
  go_wp2_with fail
  go_ret
  exact ⟨rfl, rfl⟩
 ·
  have hb : (decide (65 ≤ c) && decide (c ≤ 90) || (decide (97 ≤ c) && decide (c ≤ 122)) || decide (c = 95)) = false := by
   simp; omega
  rw [hb]; clear hb
  have f65 : (65 : Int) ≤ C := by omega
  have f97 : ¬ (97 : Int) ≤ C := by omega
  have f90 : ¬ C ≤ (90 : Int) := by omega
  have f122 : C ≤ (122 : Int) := by omega
  have q95 : (C == (95 : Int)) = false := by rw [beq_eq_false_iff_ne]; omega
  clear hC h
  go_enter Tryz.func116, Tryz.ntmps116
  go_wp2_with fail
  go_ret
  exact ⟨rfl, rfl⟩
 ·
  have hb : (decide (65 ≤ c) && decide (c ≤ 90) || (decide (97 ≤ c) && decide (c ≤ 122)) || decide (c = 95)) = true := by
   simp; omega
  rw [hb]; clear hb
  have f65 : (65 : Int) ≤ C := by omega
  have f97 : (97 : Int) ≤ C := by omega
  have f90 : ¬ C ≤ (90 : Int) := by omega
  have f122 : C ≤ (122 : Int) := by omega
  have q95 : (C == (95 : Int)) = false := by rw [beq_eq_false_iff_ne]; omega
  clear hC h
  go_enter Tryz.func116, Tryz.ntmps116
  go_wp2_with fail
  go_ret
  exact ⟨rfl, rfl⟩
 ·
  have hb : (decide (65 ≤ c) && decide (c ≤ 90) || (decide (97 ≤ c) && decide (c ≤ 122)) || decide (c = 95)) = false := by
   simp; omega
  rw [hb]; clear hb
  have f65 : (65 : Int) ≤ C := by omega
  have f97 : (97 : Int) ≤ C := by omega
  have f90 : ¬ C ≤ (90 : Int) := by omega
  have f122 : ¬ C ≤ (122 : Int) := by omega
  have q95 : (C == (95 : Int)) = false := by rw [beq_eq_false_iff_ne]; omega
  clear hC h
  go_enter Tryz.func116, Tryz.ntmps116
  go_wp2_with fail
  go_ret
  exact ⟨rfl, rfl⟩
theorem nindex_any (c : UInt8) (w : World) : Calls Tryz.prog 133 #[.string ⟨#[45, 43, 47, 46]⟩, .int .u8 c.toNat] w fun e w' => ∃ i : Int, e = .returned (.int .i64 i) ∧ decide (0 ≤ i) = Lk.sg c.toNat ∧ w' = w := by
 have := Any.strings_IndexByte Tryz.lays137 ⟨#[45, 43, 47, 46]⟩ c.toNat w
 refine this.mono ?_
 rintro e w' ⟨he, hw⟩
 refine ⟨_, he, ?_, hw⟩
 rw [show ((c.toNat : Int)).toNat.toUInt8 = c by simp]
 exact Lk.sg_of c
set_option maxRecDepth 100000 in
theorem ngoes_any (c : UInt8) (w : World) : Calls Tryz.prog 115 #[.int .u8 c.toNat] w fun e w' => e = .returned (.bool (Lk.gn c.toNat)) ∧ w = w' := by
 have B := Lib.hid (fun W => nbegins_any c.toNat W (by have := c.toNat_lt; omega))
 have I := Lib.hid (fun W => nindex_any c W)
 unfold Lk.gn
 have hd : Lk.dg c.toNat = (decide ((48 : Int) ≤ (c.toNat : Int)) && decide ((c.toNat : Int) ≤ 57)) := by
  unfold Lk.dg
  rw [Bool.eq_iff_iff]; simp; omega
 generalize Lk.bg c.toNat = b at B ⊢
 generalize Lk.sg c.toNat = q at I ⊢
 generalize Lk.dg c.toNat = d at hd ⊢
 generalize (c.toNat : Int) = C at B I hd
 cases b
 ·
  by_cases h1 : (48 : Int) ≤ C
  ·
   by_cases h2 : C ≤ 57
   ·
    rw [decide_eq_true h1, decide_eq_true h2] at hd
    subst hd
    clear I
    go_enter Tryz.func115, Tryz.ntmps115
    go_wp2_with fail
    refine (B.out _).mono ?_; rintro e w1 ⟨rfl, rfl⟩
    go_wp2_with fail
    go_ret
    exact ⟨rfl, rfl⟩
   ·
    rw [decide_eq_true h1, decide_eq_false h2] at hd
    subst hd
    go_enter Tryz.func115, Tryz.ntmps115
    go_wp2_with fail
    refine (B.out _).mono ?_; rintro e w1 ⟨rfl, rfl⟩
    go_wp2_with fail
    refine (I.out _).mono ?_; rintro e w1 ⟨i, rfl, hq, rfl⟩
    cases q
    ·
     have hq := of_decide_eq_false hq
     go_wp2_with fail
     go_ret
     exact ⟨by first | rfl | simp [h2], rfl⟩
    ·
     have hq := of_decide_eq_true hq
     go_wp2_with fail
     go_ret
     exact ⟨by first | rfl | simp [h2], rfl⟩
  ·
   rw [decide_eq_false h1] at hd
   obtain rfl : d = false := by rw [hd]; rfl
   clear hd
   go_enter Tryz.func115, Tryz.ntmps115
   go_wp2_with fail
   refine (B.out _).mono ?_; rintro e w1 ⟨rfl, rfl⟩
   go_wp2_with fail
   refine (I.out _).mono ?_; rintro e w1 ⟨i, rfl, hq, rfl⟩
   cases q
   ·
    have hq := of_decide_eq_false hq
    go_wp2_with fail
    go_ret
    exact ⟨rfl, rfl⟩
   ·
    have hq := of_decide_eq_true hq
    go_wp2_with fail
    go_ret
    exact ⟨rfl, rfl⟩
 ·
  clear I hd
  go_enter Tryz.func115, Tryz.ntmps115
  go_wp2_with fail
  refine (B.out _).mono ?_; rintro e w1 ⟨rfl, rfl⟩
  go_wp2_with fail
  go_ret
  exact ⟨rfl, rfl⟩
set_option maxRecDepth 100000 in
theorem isname_any (s : ByteArray) (w : World) (hs : s.size ≤ 100) : Calls Tryz.prog 97 #[.string s] w fun e w' => e = .returned (.bool (Lk.isN s.data.toList)) ∧ w = w' := by
 obtain ⟨tot, htot⟩ : ∃ t, t = s.data.toList.all Lk.gnB := ⟨_, rfl⟩
 have HT := Lib.hid htot
 obtain ⟨hd, hhd⟩ : ∃ t : Bool, t = (match s.data.toList with | [] => false | c :: _ => Lk.bgB c) := ⟨_, rfl⟩
 have hN : Lk.isN s.data.toList = (tot && hd) := by rw [htot, hhd]; rfl
 have HH := Lib.hid hhd
 rw [hN]
 clear htot hhd hN
 go_enter Tryz.func97, Tryz.ntmps97
 go_wp2_with fail
 go_loopw [6] (fun i wr => ∃ k : Nat, k ≤ s.size ∧ i = .int .i64 k ∧ Hid ((s.data.toList.drop k).all Lk.gnB = tot) ∧ wr = w) (fun i _ => s.size - (intOf i).toNat)
 case atStart => exact ⟨0, Nat.zero_le _, rfl, HT.out.symm, rfl⟩
 case round =>
  obtain ⟨k, hk, rfl, hinv, hw⟩ := hrel
  obtain rfl : w = wr := hw.symm
  by_cases hlt : k < s.size
  ·
   have IX := fun W => fd_ix s k hlt W
   have G := Lib.hid (fun W => ngoes_any s[k] W)
   have hi := hinv.out
   rw [fd_drop s k hlt, List.all_cons] at hi
   have hgn : Lk.gnB s[k] = Lk.gn s[k].toNat := rfl
   rw [hgn] at hi
   generalize Lk.gn s[k].toNat = g at G hi
   generalize (s[k].toNat : Int) = C at G IX
   cases g
   ·
    obtain rfl : tot = false := by rw [← hi]; rfl
    clear hi hgn hinv HT
    go_wp2_with fail
    refine (G.out _).mono ?_; rintro e w1 ⟨rfl, hw1⟩
    cases hw1
    go_wp2_with fail
    go_ret
    exact ⟨rfl, rfl⟩
   ·
    have HI := Lib.hid (show (s.data.toList.drop (k + 1)).all Lk.gnB = tot by rw [← hi]; rfl)
    clear hi hgn hinv
    go_wp2_with fail
    refine (G.out _).mono ?_; rintro e w1 ⟨rfl, hw1⟩
    cases hw1
    go_wp2_with fail
    go_roundw
    case rel => exact ⟨k + 1, by omega, by go_num, HI, by first | rfl | trivial⟩
    case measure => simp [intOf]; omega
  ·
   obtain rfl : tot = true := by rw [← hinv.out, List.drop_of_length_le (by rw [fd_len]; omega)]; rfl
   clear HT hinv
   rcases Nat.eq_zero_or_pos s.size with h0 | h0
   ·
    obtain rfl : s = ⟨#[]⟩ := by
     apply ByteArray.ext; apply Array.toList_inj.1
     rw [show s.data.toList = [] by rw [← List.length_eq_zero_iff, fd_len]; exact h0]
    obtain rfl : hd = false := HH.out
    clear HH
    go_wp2_with fail
    go_ret
    exact ⟨rfl, rfl⟩
   ·
    obtain ⟨n1, n2⟩ := fd_ne h0
    have IX0 := fun W => fd_ix s 0 h0 W
    have B := Lib.hid (fun W => nbegins_any s[0].toNat W (by have := s[0].toNat_lt; omega))
    have hh : hd = Lk.bg s[0].toNat := by
     have e : s.data.toList = s[0] :: s.data.toList.drop 1 := by have := fd_drop s 0 h0; simpa using this
     rw [HH.out, e]; rfl
    rw [← hh] at B
    have IX0 : ∀ W, Sem.run Tryz.prog (Instr.index 9 (.string s) (.int .i64 0)) W = .ok (.int .u8 s[0].toNat) W := IX0
    generalize (s[0].toNat : Int) = C at B IX0
    clear hh HH
    go_wp2_with fail
    refine (B.out _).mono ?_; rintro e w1 ⟨rfl, hw1⟩
    cases hw1
    go_wp2_with fail
    go_ret
    exact ⟨rfl, rfl⟩
theorem rname_any (s : ByteArray) (w : World) (hs : s.size ≤ maxLen) : Calls Tryz.prog 76 #[.string s] w fun e w' => e = .returned (.int .i64 (Lk.nm s.data.toList)) ∧ w = w' := by
 unfold Lk.nm
 unfold maxLen at hs
 rw [fd_len]
 by_cases h : 64 < s.size
 ·
  rw [if_pos h]
  have h1 : 64 < (s.size : Int) := by omega
  clear h
  go_enter Tryz.func76, Tryz.ntmps76
  go_wp2_with fail
  go_ret
  exact ⟨rfl, rfl⟩
 ·
  rw [if_neg h]
  have h1 : ¬ 64 < (s.size : Int) := by omega
  have C := Lib.hid (fun W => isname_any s W (by omega))
  clear h
  generalize Lk.isN s.data.toList = b at C ⊢
  cases b
  all_goals
   go_enter Tryz.func76, Tryz.ntmps76
   go_wp2_with fail
   refine (C.out _).mono ?_; rintro e w1 ⟨rfl, rfl⟩
   go_wp2_with fail
   go_ret
   exact ⟨rfl, rfl⟩
end Go.Proofs.YtbcbggdbojonmaaGreatDoor
