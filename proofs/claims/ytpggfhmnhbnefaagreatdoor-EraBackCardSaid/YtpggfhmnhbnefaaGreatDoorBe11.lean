/- Joined: WdB, WdCb, GvQ, GvC, GvD, YrA, WdD. -/
import Derived.Test.YtpggfhmnhbnefaaGreatDoorBe10
import Derived.Test.YtpggfhmnhbnefaaGreatDoorBe02
import Derived.Test.YtpggfhmnhbnefaaGreatDoorBe08
import Derived.Test.YtpggfhmnhbnefaaGreatDoorBe01
import Derived.Test.YtpggfhmnhbnefaaGreatDoorBe09
set_option linter.unusedVariables false
set_option linter.unusedSimpArgs false
namespace Go.Proofs.YtpggfhmnhbnefaaGreatDoor
open Go.RowKit Go.Sort
namespace Wd
def run (s : List UInt8) (all : List ByteArray) : List ByteArray → Nat → Int → Bool → Int × Int
 | [], _, f, sv => if f < 0 ∨ sv = true then (0, 3) else (f, 0)
 | x :: r, i, f, sv => if same x.data.toList s = true then ((i : Int), 0) else if beg x.data.toList s = false then run s all r (i + 1) f sv else if f < 0 then run s all r (i + 1) (i : Int) sv
  else if same x.data.toList (all.getD f.toNat ByteArray.empty).data.toList = true then run s all r (i + 1) f sv else run s all r (i + 1) f true
def mat (s : List UInt8) (all : List ByteArray) : Int × Int := if s = [] then (0, 3) else run s all all 0 (-1) false
theorem run_nil {s : List UInt8} {all : List ByteArray} {k : Nat} {f : Int} {sv : Bool} : run s all [] k f sv = if f < 0 ∨ sv = true then (0, 3) else (f, 0) := rfl
theorem run_step {s : List UInt8} {all : List ByteArray} {k : Nat} {f : Int} {sv : Bool} (h : k < all.length) : run s all (all.drop k) k f sv =
  if same all[k].data.toList s = true then ((k : Int), 0) else if beg all[k].data.toList s = false then run s all (all.drop (k + 1)) (k + 1) f sv else if f < 0 then run s all (all.drop (k + 1)) (k + 1) (k : Int) sv
  else if same all[k].data.toList (all.getD f.toNat ByteArray.empty).data.toList = true then run s all (all.drop (k + 1)) (k + 1) f sv else run s all (all.drop (k + 1)) (k + 1) f true := by
 rw [List.drop_eq_getElem_cons h]
 rfl
end Wd
theorem wdne {ds : ByteArray} (h : 0 < ds.size) : ds.toList.isEmpty = false ∧ ¬ ds.toList = [] := by
 have : ds.toList ≠ [] := by
  intro e
  have hl := blen ds
  rw [← ByteArray.toList_eq] at hl
  rw [e] at hl; simp at hl; omega
 exact ⟨by simpa using this, this⟩
theorem s_nil {s : ByteArray} (h : s.size = 0) : s = ByteArray.empty := by
 apply ByteArray.ext
 have : s.data.size = 0 := h
 exact Array.size_eq_zero_iff.1 this
set_option maxHeartbeats 4000000 in
set_option maxRecDepth 100000 in
theorem match_any (s : ByteArray) (v : Value) (l : List ByteArray) (w : World) (hv : StS w v l) (hs : s.size ≤ maxLen) (hz : ∀ x ∈ l, x.size ≤ maxLen) (hm : l.length ≤ maxLen) :
  Calls Tryz.prog 133 #[.string s, v] w fun e w' => e = .returned (.tuple #[.int .i64 (Wd.mat s.data.toList l).1, .int .i64 (Wd.mat s.data.toList l).2]) ∧ ∃ k, w' = w.drewN k := by
 unfold maxLen at hm
 have HS := Lib.hid hs; clear hs
 by_cases h0 : s.size = 0
 ·
  rw [show Wd.mat s.data.toList l = (0, 3) by unfold Wd.mat; rw [if_pos (by rw [← List.length_eq_zero_iff, blen]; exact h0)]]
  obtain rfl := s_nil h0
  obtain ⟨A, c, rfl, -⟩ := hv
  go_enter Tryz.func133, Tryz.ntmps133
  go_wp2
  go_ret2
  exact ⟨rfl, 0, rfl⟩
 ·
  obtain ⟨t1, t2⟩ := wdne (ds := s) (by omega)
  obtain ⟨ans, hans⟩ : ∃ ans, ans = Wd.mat s.data.toList l := ⟨_, rfl⟩
  rw [← hans]
  have HA := Lib.hid (show Wd.run s.data.toList l (l.drop 0) 0 (-1) false = ans by rw [hans]; unfold Wd.mat; rw [if_neg (by rw [← List.length_eq_zero_iff, blen]; exact h0)]; rfl)
  have HV := Lib.hid hv
  obtain ⟨A, c, rfl, -⟩ := hv
  generalize hn : l.length = n at *
  have HN := Lib.hid hn
  have HZ := Lib.hid hz
  clear hn hz hans h0
  go_enter Tryz.func133, Tryz.ntmps133
  go_wp2_with fail
  go_loopw [6, 7, 14] (fun fv sv i wr => ∃ (k j : Nat) (f : Int) (b : Bool), k ≤ n ∧ i = .int .i64 k ∧ fv = .int .i64 f ∧ sv = .bool b ∧ -1 ≤ f ∧ f < n ∧ Wd.run s.data.toList l (l.drop k) k f b = ans ∧ wr = w.drewN j) (fun _ _ i _ => n - (intOf i).toNat)
  case atStart => exact ⟨0, 0, -1, false, Nat.zero_le _, rfl, rfl, rfl, by omega, by omega, HA.out, rfl⟩
  case round =>
   obtain ⟨k, j, f, b, hk, rfl, rfl, rfl, f0, f1, hr, rfl⟩ := hrel
   have HR := Lib.hid hr; clear hr
   by_cases hlt : k < n
   ·
    obtain ⟨a, rfl, g1⟩ := HV.out.get k (by rw [HN.out]; exact hlt)
    have CS := Lib.hid (fun W => wsame_any (l[k]'(by rw [HN.out]; exact hlt)) s W (HZ.out _ (List.getElem_mem _)) HS.out)
    have CB := Lib.hid (fun W => begins_any (l[k]'(by rw [HN.out]; exact hlt)) s W (HZ.out _ (List.getElem_mem _)) HS.out)
    have ST := Lib.hid (Wd.run_step (s := s.data.toList) (all := l) (k := k) (f := f) (sv := b) (by rw [HN.out]; exact hlt))
    have KL : Hid (k < l.length) := by rw [HN.out]; exact hlt
    generalize hx : (l[k]'(by rw [HN.out]; exact hlt)) = x at *
    cases c1 : Wd.same x.data.toList s.data.toList
    ·
     have C1 := Lib.hid c1
     cases c2 : Wd.beg x.data.toList s.data.toList
     ·
      have C2 := Lib.hid c2
      have HE := Lib.hid (show Wd.run s.data.toList l (l.drop (k + 1)) (k + 1) f b = ans by rw [← HR.out, ST.out, c1, c2]; simp)
      clear c1 c2
      go_wp2_with fail
      refine (CS.out _).mono ?_; rintro e w1 ⟨rfl, j1, rfl⟩
      rw [C1.out]
      go_wp2_with fail
      refine (CB.out _).mono ?_; rintro e w2 ⟨rfl, j2, rfl⟩
      rw [C2.out]
      go_wp2_with fail
      go_roundw
      case rel => exact ⟨k + 1, _, f, b, by omega, by go_num, rfl, rfl, by omega, by omega, HE.out, by first | rfl | simp only [World.drewN_drewN]⟩
      case measure => simp [intOf]; omega
     ·
      have C2 := Lib.hid c2
      by_cases c3 : f < 0
      ·
       have HE := Lib.hid (show Wd.run s.data.toList l (l.drop (k + 1)) (k + 1) (k : Int) b = ans by rw [← HR.out, ST.out, c1, c2]; simp [c3])
       clear c1 c2
       go_wp2_with fail
       refine (CS.out _).mono ?_; rintro e w1 ⟨rfl, j1, rfl⟩
       rw [C1.out]
       go_wp2_with fail
       refine (CB.out _).mono ?_; rintro e w2 ⟨rfl, j2, rfl⟩
       rw [C2.out]
       go_wp2_with fail
       go_roundw
       case rel => exact ⟨k + 1, _, (k : Int), b, by omega, by go_num, rfl, rfl, by omega, by omega, HE.out, by first | rfl | simp only [World.drewN_drewN]⟩
       case measure => simp [intOf]; omega
      ·
       have f2 : 0 ≤ f := by omega
       have hfl : f.toNat < l.length := by rw [HN.out]; omega
       obtain ⟨a', ha', g2⟩ := HV.out.get f.toNat hfl
       obtain rfl : a = a' := by injection ha'
       have CY := Lib.hid (fun W => wsame_any x (l[f.toNat]'hfl) W (by rw [← hx]; exact HZ.out _ (List.getElem_mem _)) (HZ.out _ (List.getElem_mem _)))
       have GD := Lib.hid (show l.getD f.toNat ByteArray.empty = l[f.toNat]'hfl by simp [List.getD, List.getElem?_eq_getElem hfl])
       generalize hy : l[f.toNat]'hfl = y at *
       cases c4 : Wd.same x.data.toList y.data.toList
       ·
        have C4 := Lib.hid c4
        have HE := Lib.hid (show Wd.run s.data.toList l (l.drop (k + 1)) (k + 1) f true = ans by rw [← HR.out, ST.out, c1, c2, GD.out, c4]; simp [c3])
        clear c1 c2 c4
        go_wp2_with fail
        refine (CS.out _).mono ?_; rintro e w1 ⟨rfl, j1, rfl⟩
        rw [C1.out]
        go_wp2_with fail
        refine (CB.out _).mono ?_; rintro e w2 ⟨rfl, j2, rfl⟩
        rw [C2.out]
        go_wp2_with fail
        refine (CY.out _).mono ?_; rintro e w3 ⟨rfl, j3, rfl⟩
        rw [C4.out]
        go_wp2_with fail
        go_roundw
        case rel => exact ⟨k + 1, _, f, true, by omega, by go_num, rfl, rfl, by omega, by omega, HE.out, by first | rfl | simp only [World.drewN_drewN]⟩
        case measure => simp [intOf]; omega
       ·
        have C4 := Lib.hid c4
        have HE := Lib.hid (show Wd.run s.data.toList l (l.drop (k + 1)) (k + 1) f b = ans by rw [← HR.out, ST.out, c1, c2, GD.out, c4]; simp [c3])
        clear c1 c2 c4
        go_wp2_with fail
        refine (CS.out _).mono ?_; rintro e w1 ⟨rfl, j1, rfl⟩
        rw [C1.out]
        go_wp2_with fail
        refine (CB.out _).mono ?_; rintro e w2 ⟨rfl, j2, rfl⟩
        rw [C2.out]
        go_wp2_with fail
        refine (CY.out _).mono ?_; rintro e w3 ⟨rfl, j3, rfl⟩
        rw [C4.out]
        go_wp2_with fail
        go_roundw
        case rel => exact ⟨k + 1, _, f, b, by omega, by go_num, rfl, rfl, by omega, by omega, HE.out, by first | rfl | simp only [World.drewN_drewN]⟩
        case measure => simp [intOf]; omega
    ·
     have C1 := Lib.hid c1
     have HE := Lib.hid (show ans = ((k : Int), 0) by rw [← HR.out, ST.out, c1]; simp)
     clear c1
     go_wp2_with fail
     refine (CS.out _).mono ?_; rintro e w1 ⟨rfl, j1, rfl⟩
     rw [C1.out]
     go_wp2_with fail
     go_ret2
     exact ⟨by rw [HE.out]; rfl, _, by first | rfl | simp only [World.drewN_drewN]⟩
   ·
    have HE := Lib.hid (show ans = if f < 0 ∨ b = true then (0, 3) else (f, 0) by rw [← HR.out, List.drop_of_length_le (by rw [HN.out]; omega)]; rfl)
    by_cases c3 : f < 0
    ·
     have HE2 := Lib.hid (show ans = (0, 3) by rw [HE.out]; simp [c3])
     clear HE
     go_wp2_with fail
     go_ret2
     exact ⟨by rw [HE2.out]; rfl, _, rfl⟩
    ·
     cases b
     ·
      have HE2 := Lib.hid (show ans = (f, 0) by rw [HE.out]; simp [c3])
      clear HE
      go_wp2_with fail
      go_ret2
      exact ⟨by rw [HE2.out]; rfl, _, rfl⟩
     ·
      have HE2 := Lib.hid (show ans = (0, 3) by rw [HE.out]; simp)
      clear HE
      go_wp2_with fail
      go_ret2
      exact ⟨by rw [HE2.out]; rfl, _, rfl⟩
namespace Wd
theorem run_bd (s : List UInt8) (all : List ByteArray) (N : Nat) : ∀ (r : List ByteArray) (k : Nat) (f : Int) (sv : Bool), k + r.length ≤ N → f < N →
  0 ≤ (run s all r k f sv).1 ∧ (run s all r k f sv).1 ≤ N ∧ ((run s all r k f sv).2 = 0 ∨ (run s all r k f sv).2 = 3 ∧ (run s all r k f sv).1 = 0) := by
 intro r
 induction r with
 | nil =>
  intro k f sv h1 h2
  rw [run_nil]
  split
  ·
   simp
  ·
   rename_i h
   have : ¬ f < 0 := fun hh => h (.inl hh)
   simp; omega
 | cons x r ih =>
  intro k f sv h1 h2
  have h3 : k + 1 + r.length ≤ N := by simp at h1; omega
  have h4 : (k : Int) < N := by simp at h1; omega
  unfold run
  split
  ·
   simp; omega
  ·
   split
   ·
    exact ih _ _ _ h3 h2
   ·
    split
    ·
     exact ih _ _ _ h3 h4
    ·
     split
     ·
      exact ih _ _ _ h3 h2
     ·
      exact ih _ _ _ h3 h2
theorem mat_bd (s : List UInt8) (all : List ByteArray) : 0 ≤ (mat s all).1 ∧ (mat s all).1 ≤ all.length ∧ ((mat s all).2 = 0 ∨ (mat s all).2 = 3 ∧ (mat s all).1 = 0) := by
 unfold mat
 split
 ·
  simp
 ·
  rename_i h
  have hN : (-1 : Int) < (all.length : Int) := by omega
  exact run_bd s all all.length all 0 (-1) false (by omega) hN
def days : List ByteArray := [⟨#[83, 117, 110, 100, 97, 121]⟩, ⟨#[77, 111, 110, 100, 97, 121]⟩, ⟨#[84, 117, 101, 115, 100, 97, 121]⟩, ⟨#[87, 101, 100, 110, 101, 115, 100, 97, 121]⟩, ⟨#[84, 104, 117, 114, 115, 100, 97, 121]⟩, ⟨#[70, 114, 105, 100, 97, 121]⟩, ⟨#[83, 97, 116, 117, 114, 100, 97, 121]⟩]
def up (p : Int × Int) : Int := if p.2 = 0 then p.1 + 1 else 0
def t3 (l : List ByteArray) (i : Int) : ByteArray := if 0 ≤ i ∧ i < l.length then (l.getD i.toNat ByteArray.empty).extract 0 3 else ByteArray.empty
end Wd
end Go.Proofs.YtpggfhmnhbnefaaGreatDoor
set_option linter.unusedVariables false
set_option linter.unusedSimpArgs false
namespace Go.Proofs.YtpggfhmnhbnefaaGreatDoor
open Go.RowKit
theorem gv_assert (line why : Int) (W : World) : Sem.run Tryz.prog (Instr.typeAssert (Value.iface 128 (Value.agg #[Value.int IntKind.i64 line, Value.int IntKind.i64 why])) 20 128 true) W = .ok (.tuple #[.agg #[.int .i64 line, .int .i64 why], .bool true]) W := by
 kernel_rfl
end Go.Proofs.YtpggfhmnhbnefaaGreatDoor
set_option linter.unusedVariables false
set_option linter.unusedSimpArgs false
namespace Go.Proofs.YtpggfhmnhbnefaaGreatDoor
open Go.RowKit Go.Sort
namespace Yr
def starts : List UInt8 := [45, 48, 49, 50, 51, 52, 53, 54, 55, 56, 57]
def isN (l : List UInt8) : Bool := match l with | [] => false | c :: _ => starts.contains c
theorem isN_ix (l : List UInt8) : isN l = (Lib.indexAny l starts == 0) := by
 cases l with
 | nil => rfl
 | cons c r =>
  show starts.contains c = _
  unfold Lib.indexAny
  cases h : starts.contains c
  ·
   have := Lib.indexAny_ge starts r
   rw [if_neg (by decide)]
   split
   ·
    rfl
   ·
    symm; rw [beq_eq_false_iff_ne]; rename_i hh; have : Lib.indexAny r starts ≠ -1 := by simpa using hh
    omega
  ·
   rfl
def inY (n : Int) : Bool := decide (-32767 ≤ n) && decide (n ≤ 32767)
def num (l : List UInt8) : Int × Int := if (Num.rd l).2 = 0 then (if inY (Num.rd l).1 then ((Num.rd l).1, 0) else (0, 1)) else (0, (Num.rd l).2)
def names : List ByteArray := [⟨#[109, 105, 110, 105, 109, 117, 109]⟩, ⟨#[109, 97, 120, 105, 109, 117, 109]⟩, ⟨#[111, 110, 108, 121]⟩]
def word (l : List UInt8) : Int × Int := Wd.mat l names
def fr (l : List UInt8) : Int × Int := if isN l then num l else if (word l).2 = 0 then (if (word l).1 = 0 then (-32767, 0) else (0, 3)) else (0, (word l).2)
def la (l : List UInt8) (f : Int) : Int × Int := if isN l then num l else if (word l).2 = 0 then (if (word l).1 = 0 then (0, 3) else if (word l).1 = 1 then (32767, 0) else (f, 0)) else (0, (word l).2)
def to (l : List UInt8) (f : Int) : Int × Int := if (la l f).2 = 0 then (if f ≤ (la l f).1 then ((la l f).1, 0) else (0, 14)) else (0, (la l f).2)
end Yr
structure Wd.DTabs (w : World) : Prop where
 d0 : w.cell? ⟨2, 0, none⟩ = some (.string ⟨#[83, 117, 110, 100, 97, 121]⟩)
 d1 : w.cell? ⟨2, 1, none⟩ = some (.string ⟨#[77, 111, 110, 100, 97, 121]⟩)
 d2 : w.cell? ⟨2, 2, none⟩ = some (.string ⟨#[84, 117, 101, 115, 100, 97, 121]⟩)
 d3 : w.cell? ⟨2, 3, none⟩ = some (.string ⟨#[87, 101, 100, 110, 101, 115, 100, 97, 121]⟩)
 d4 : w.cell? ⟨2, 4, none⟩ = some (.string ⟨#[84, 104, 117, 114, 115, 100, 97, 121]⟩)
 d5 : w.cell? ⟨2, 5, none⟩ = some (.string ⟨#[70, 114, 105, 100, 97, 121]⟩)
 d6 : w.cell? ⟨2, 6, none⟩ = some (.string ⟨#[83, 97, 116, 117, 114, 100, 97, 121]⟩)
theorem Wd.DTabs.on {w w' : World} (h : Wd.DTabs w) (k : Below w.heap.size w w') : Wd.DTabs w' := ⟨(k.cell (World.block_lt_of_cell? _ _ h.d0)).trans h.d0, (k.cell (World.block_lt_of_cell? _ _ h.d1)).trans h.d1, (k.cell (World.block_lt_of_cell? _ _ h.d2)).trans h.d2, (k.cell (World.block_lt_of_cell? _ _ h.d3)).trans h.d3, (k.cell (World.block_lt_of_cell? _ _ h.d4)).trans h.d4, (k.cell (World.block_lt_of_cell? _ _ h.d5)).trans h.d5, (k.cell (World.block_lt_of_cell? _ _ h.d6)).trans h.d6⟩
set_option maxHeartbeats 2000000 in
set_option maxRecDepth 100000 in
theorem wday_any (s : ByteArray) (w : World) (hs : s.size ≤ maxLen) (T : Wd.DTabs w) :
  Calls Tryz.prog 200 #[.string s] w fun e w' => e = .returned (.tuple #[.int .i64 (Wd.mat s.data.toList Wd.days).1, .int .i64 (Wd.mat s.data.toList Wd.days).2]) ∧ Below w.heap.size w w' := by
 have t_d0 := T.d0
 have t_d1 := T.d1
 have t_d2 := T.d2
 have t_d3 := T.d3
 have t_d4 := T.d4
 have t_d5 := T.d5
 have t_d6 := T.d6
 have SZ : ∀ x ∈ Wd.days, x.size ≤ maxLen := by unfold Wd.days maxLen; intro x hx; simp at hx; rcases hx with rfl | rfl | rfl | rfl | rfl | rfl | rfl <;> decide
 have ST : StS (w.alloc (.cells #[.string ⟨#[83, 117, 110, 100, 97, 121]⟩, .string ⟨#[77, 111, 110, 100, 97, 121]⟩, .string ⟨#[84, 117, 101, 115, 100, 97, 121]⟩, .string ⟨#[87, 101, 100, 110, 101, 115, 100, 97, 121]⟩, .string ⟨#[84, 104, 117, 114, 115, 100, 97, 121]⟩, .string ⟨#[70, 114, 105, 100, 97, 121]⟩, .string ⟨#[83, 97, 116, 117, 114, 100, 97, 121]⟩] 147)) (.slice (some ⟨w.heap.size, 0, none⟩) 7 7) Wd.days :=
  ⟨_, _, rfl, fun _ => ⟨_, rfl, by simp, by
   intro j u hj
   have hl : j < 7 := by
    have := (List.getElem?_eq_some_iff.1 hj).1
    simpa [Wd.days] using this
   obtain rfl | rfl | rfl | rfl | rfl | rfl | rfl : j = 0 ∨ j = 1 ∨ j = 2 ∨ j = 3 ∨ j = 4 ∨ j = 5 ∨ j = 6 := by omega
   all_goals (simp [Wd.days] at hj; subst hj; simp [Addr.add, go_sem])⟩⟩
 have HS := Lib.hid ST; clear ST
 have HM := Lib.hid (fun W (h : StS W (.slice (some ⟨w.heap.size, 0, none⟩) 7 7) Wd.days) => match_any s _ Wd.days W h hs SZ (by unfold maxLen; decide))
 have bd := Wd.mat_bd s.data.toList Wd.days
 have ln : Wd.days.length = 7 := rfl
 rw [ln] at bd
 clear SZ T ln
 generalize Wd.mat s.data.toList Wd.days = ans at HM bd ⊢
 obtain ⟨p, q⟩ := ans
 dsimp only at HM bd ⊢
 obtain ⟨p0, p1, hq⟩ := bd
 go_enter Tryz.func200, Tryz.ntmps200
 go_wp2_with fail
 refine (HM.out _ HS.out).mono ?_; rintro e w1 ⟨rfl, j, rfl⟩
 go_wp2_with fail
 go_ret2
 exact ⟨rfl, below_drewN ((Below.refl _ _).alloc (Nat.le_refl _) _) _⟩
set_option maxHeartbeats 4000000 in
set_option maxRecDepth 100000 in
theorem wdtx_any (n : Int) (w : World) (T : Wd.DTabs w) :
  Calls Tryz.prog 101 #[.int .i64 n] w fun e w' => e = .returned (.string (Wd.t3 Wd.days (n - 0))) ∧ Below w.heap.size w w' := by
 by_cases h : 0 ≤ n ∧ n ≤ 6
 ·
  obtain rfl | rfl | rfl | rfl | rfl | rfl | rfl : n = 0 ∨ n = 1 ∨ n = 2 ∨ n = 3 ∨ n = 4 ∨ n = 5 ∨ n = 6 := by omega
  ·
   have t := T.d0
   clear T
   go_enter Tryz.func101, Tryz.ntmps101
   go_wp2
   go_ret
   exact ⟨rfl, Below.refl _ _⟩
  ·
   have t := T.d1
   clear T
   go_enter Tryz.func101, Tryz.ntmps101
   go_wp2
   go_ret
   exact ⟨rfl, Below.refl _ _⟩
  ·
   have t := T.d2
   clear T
   go_enter Tryz.func101, Tryz.ntmps101
   go_wp2
   go_ret
   exact ⟨rfl, Below.refl _ _⟩
  ·
   have t := T.d3
   clear T
   go_enter Tryz.func101, Tryz.ntmps101
   go_wp2
   go_ret
   exact ⟨rfl, Below.refl _ _⟩
  ·
   have t := T.d4
   clear T
   go_enter Tryz.func101, Tryz.ntmps101
   go_wp2
   go_ret
   exact ⟨rfl, Below.refl _ _⟩
  ·
   have t := T.d5
   clear T
   go_enter Tryz.func101, Tryz.ntmps101
   go_wp2
   go_ret
   exact ⟨rfl, Below.refl _ _⟩
  ·
   have t := T.d6
   clear T
   go_enter Tryz.func101, Tryz.ntmps101
   go_wp2
   go_ret
   exact ⟨rfl, Below.refl _ _⟩
 ·
  rw [show Wd.t3 Wd.days (n - 0) = ByteArray.empty by unfold Wd.t3; rw [if_neg]; rw [show (Wd.days.length : Int) = 7 from rfl]; omega]
  clear T
  by_cases c1 : n < 0
  ·
   go_enter Tryz.func101, Tryz.ntmps101
   go_wp2
   go_ret
   exact ⟨rfl, Below.refl _ _⟩
  ·
   have c2 : 6 < n := by omega
   go_enter Tryz.func101, Tryz.ntmps101
   go_wp2
   go_ret
   exact ⟨rfl, Below.refl _ _⟩
end Go.Proofs.YtpggfhmnhbnefaaGreatDoor
