/- Joined: AmC, GvN0, GvN, GvA, RnE, RnF, ShelfP. -/
import Derived.Test.YtpggfhmnhbnefaaGreatDoorBd05
import Derived.Test.YtpggfhmnhbnefaaGreatDoorBd01
import Derived.Tactics
import Derived.Tactics2
import Derived.Defers
import Derived.Recover
import Derived.Laws.Pointers
import Derived.Test.YtpggfhmnhbnefaaGreatDoorBd03
import Derived.Shelf.Strconv.ParseIntPublic10
import Derived.Shelf.Strconv.ErrVarParseInt
set_option linter.unusedVariables false
set_option linter.unusedSimpArgs false
namespace Go.Proofs.YtpggfhmnhbnefaaGreatDoor
open Go.RowKit Go.Sort
namespace Am
def un (s : ByteArray) : ByteArray := ⟨(Lib.trimPrefix s.data.toList [45]).toArray⟩
def neg (s : ByteArray) : Bool := Lib.hasPrefix s.data.toList [45]
def sum (s : ByteArray) : Int := vK (un s) 0 * 3600 + vK (un s) 1 * 60 + vK (un s) 2
def inR (s : ByteArray) : Bool := decide (vK (un s) 1 < 60) && (decide (vK (un s) 2 < 60) && decide (sum s ≤ 604799))
def rd (s : ByteArray) : Int × Int :=
 if s.toList == [45] then (0, 0) else if okK (un s) = false then (0, 2) else if inR s = false then (0, 1) else ((if neg s then - sum s else sum s), 0)
theorem un_size (s : ByteArray) : (un s).size ≤ s.size := by
 unfold un
 show (Lib.trimPrefix s.data.toList [45]).toArray.size ≤ s.size
 rw [List.size_toArray, ← ab_len s]
 exact ab_trim _ _
theorem vK_bd {s : ByteArray} (h : okK s = true) (k : Nat) (hk : k < 3) : 0 ≤ vK s k ∧ vK s k ≤ 99999 := by
 have hi : isK s k = true := by
  unfold okK at h
  simp only [Bool.and_eq_true] at h
  obtain rfl | rfl | rfl : k = 0 ∨ k = 1 ∨ k = 2 := by omega
  ·
   exact h.1
  ·
   exact h.2.1
  ·
   exact h.2.2
 by_cases hl : k < (pcs s).length
 ·
  rw [vK_at hl]
  rw [isK_at hl] at hi
  obtain ⟨hd, h5⟩ := isP_size hi
  have := ab_val_bd hd h5
  omega
 ·
  rw [vK_no hl]; omega
end Am
set_option maxHeartbeats 4000000 in
set_option maxRecDepth 100000 in
theorem aread_any (s : ByteArray) (w : World) (m : Int) (hs : s.size < 4294967281) (hm : w.cell? ⟨3, 0, none⟩ = some (.int .i64 m)) :
  Calls Tryz.prog 88 #[.string s] w fun e w' => e = .returned (.tuple #[.int .i64 (Am.rd s).1, .int .i64 (Am.rd s).2]) ∧ Below w.heap.size w w' := by
 have C : Hid (∀ W, Calls Tryz.prog 140 #[.string s, .string ⟨#[45]⟩] W fun e w' => e = .returned (.tuple #[.string (Am.un s), .bool (Am.neg s)]) ∧ W = w') := fun W => cutPrefix s ⟨#[45]⟩ W
 have R := Lib.hid (fun W h => rparts_any (Am.un s) W m (Nat.lt_of_le_of_lt (Am.un_size s) hs) h)
 have HM := Lib.hid hm
 clear hm hs
 obtain ⟨ans, hans⟩ : ∃ ans, ans = Am.rd s := ⟨_, rfl⟩
 rw [← hans]
 unfold Am.rd Am.inR at hans
 unfold Am.sum at hans
 by_cases h0 : (s.toList == [45]) = true
 ·
  have e := Lib.hid (show ans = (0, 0) by rw [hans, if_pos h0])
  clear hans
  go_enter Tryz.func88, Tryz.ntmps88
  go_wp2_with fail
  go_ret2
  exact ⟨by rw [e.out]; rfl, Below.refl _ _⟩
 ·
  rw [if_neg h0] at hans
  have g0 : (s.toList == [45]) = false := by simpa using h0
  clear h0
  generalize Am.un s = U at *
  cases hk : Am.okK U
  ·
   have e := Lib.hid (show ans = (0, 2) by rw [hans, hk, if_pos rfl])
   unfold Am.va at R
   rw [hk] at R
   clear hans
   go_enter Tryz.func88, Tryz.ntmps88
   go_wp2_with fail
   refine (C.out _).mono ?_; rintro e w1 ⟨rfl, rfl⟩
   go_wp2_with fail
   refine (R.out _ HM.out).mono ?_; rintro e w1 ⟨rfl, b1⟩
   have B1 := Lib.hid b1; clear b1
   go_wp2_with fail
   go_ret2
   exact ⟨by rw [e.out]; rfl, by have hz := B1.out.size; repeat (first | exact B1.out | refine Below.setCell ?_ (by first | omega | (simp; omega)) _ | refine Below.alloc ?_ (by first | omega | (simp; omega)) _)⟩
  ·
   rw [hk, if_neg (by decide)] at hans
   obtain ⟨a0, a1⟩ := Am.vK_bd hk 0 (by omega)
   obtain ⟨b0, b1⟩ := Am.vK_bd hk 1 (by omega)
   obtain ⟨c0, c1⟩ := Am.vK_bd hk 2 (by omega)
   unfold Am.va at R
   rw [hk] at R
   simp only [if_true] at R
   clear hk
   generalize Am.vK U 0 = x at *
   generalize Am.vK U 1 = y at *
   generalize Am.vK U 2 = z at *
   generalize Am.neg s = ng at *
   by_cases h1 : 60 ≤ y
   ·
    have e := Lib.hid (show ans = (0, 1) by rw [hans, if_pos (by rw [decide_eq_false (show ¬ y < 60 by omega)]; rfl)])
    clear hans
    go_enter Tryz.func88, Tryz.ntmps88
    go_wp2_with fail
    refine (C.out _).mono ?_; rintro e w1 ⟨rfl, rfl⟩
    go_wp2_with fail
    refine (R.out _ HM.out).mono ?_; rintro e w1 ⟨rfl, d1⟩
    have B1 := Lib.hid d1; clear d1
    go_wp2_with fail
    go_ret2
    exact ⟨by rw [e.out]; rfl, by have hz := B1.out.size; repeat (first | exact B1.out | refine Below.setCell ?_ (by first | omega | (simp; omega)) _ | refine Below.alloc ?_ (by first | omega | (simp; omega)) _)⟩
   ·
    by_cases h2 : 60 ≤ z
    ·
     have e := Lib.hid (show ans = (0, 1) by rw [hans, if_pos (by rw [decide_eq_false (show ¬ z < 60 by omega)]; simp)])
     clear hans
     go_enter Tryz.func88, Tryz.ntmps88
     go_wp2_with fail
     refine (C.out _).mono ?_; rintro e w1 ⟨rfl, rfl⟩
     go_wp2_with fail
     refine (R.out _ HM.out).mono ?_; rintro e w1 ⟨rfl, d1⟩
     have B1 := Lib.hid d1; clear d1
     go_wp2_with fail
     go_ret2
     exact ⟨by rw [e.out]; rfl, by have hz := B1.out.size; repeat (first | exact B1.out | refine Below.setCell ?_ (by first | omega | (simp; omega)) _ | refine Below.alloc ?_ (by first | omega | (simp; omega)) _)⟩
    ·
     by_cases h3 : 604799 < x * 3600 + y * 60 + z
     ·
      have e := Lib.hid (show ans = (0, 1) by rw [hans, if_pos (by rw [decide_eq_false (show ¬ x * 3600 + y * 60 + z ≤ 604799 by omega)]; simp)])
      clear hans
      go_enter Tryz.func88, Tryz.ntmps88
      go_wp2_with fail
      refine (C.out _).mono ?_; rintro e w1 ⟨rfl, rfl⟩
      go_wp2_with fail
      refine (R.out _ HM.out).mono ?_; rintro e w1 ⟨rfl, d1⟩
      have B1 := Lib.hid d1; clear d1
      go_wp2_with fail
      go_ret2
      exact ⟨by rw [e.out]; rfl, by have hz := B1.out.size; repeat (first | exact B1.out | refine Below.setCell ?_ (by first | omega | (simp; omega)) _ | refine Below.alloc ?_ (by first | omega | (simp; omega)) _)⟩
     ·
      rw [if_neg (by rw [decide_eq_true (show y < 60 by omega), decide_eq_true (show z < 60 by omega), decide_eq_true (show x * 3600 + y * 60 + z ≤ 604799 by omega)]; simp)] at hans
      cases ng
      ·
       have e := Lib.hid (show ans = (x * 3600 + y * 60 + z, 0) by rw [hans]; rfl)
       clear hans
       go_enter Tryz.func88, Tryz.ntmps88
       go_wp2_with fail
       refine (C.out _).mono ?_; rintro e w1 ⟨rfl, rfl⟩
       go_wp2_with fail
       refine (R.out _ HM.out).mono ?_; rintro e w1 ⟨rfl, d1⟩
       have B1 := Lib.hid d1; clear d1
       go_wp2_with fail
       go_ret2
       exact ⟨by rw [e.out]; rfl, by have hz := B1.out.size; repeat (first | exact B1.out | refine Below.setCell ?_ (by first | omega | (simp; omega)) _ | refine Below.alloc ?_ (by first | omega | (simp; omega)) _)⟩
      ·
       have e := Lib.hid (show ans = (-(x * 3600 + y * 60 + z), 0) by rw [hans]; rfl)
       clear hans
       go_enter Tryz.func88, Tryz.ntmps88
       go_wp2_with fail
       refine (C.out _).mono ?_; rintro e w1 ⟨rfl, rfl⟩
       go_wp2_with fail
       refine (R.out _ HM.out).mono ?_; rintro e w1 ⟨rfl, d1⟩
       have B1 := Lib.hid d1; clear d1
       go_wp2_with fail
       go_ret2
       exact ⟨by rw [e.out]; rfl, by have hz := B1.out.size; repeat (first | exact B1.out | refine Below.setCell ?_ (by first | omega | (simp; omega)) _ | refine Below.alloc ?_ (by first | omega | (simp; omega)) _)⟩
end Go.Proofs.YtpggfhmnhbnefaaGreatDoor
set_option linter.unusedVariables false
set_option linter.unusedSimpArgs false
namespace Go.Proofs.YtpggfhmnhbnefaaGreatDoor
open Go.RowKit
def gvV (line why : Int) : Value := .iface 128 (.agg #[.int .i64 line, .int .i64 why])
def gvL (line why : Int) : List PanicEntry := [{ v := gvV line why, recovered := false }]
abbrev gvP (why : Int) : List PanicEntry := gvL 0 why
theorem needat_yes (line why : Int) (w : World) : Calls Tryz.prog 77 #[.bool true, .int .i64 line, .int .i64 why] w fun e w' => e = .returned (.tuple #[]) ∧ w = w' := by
 go_enter Tryz.func77, Tryz.ntmps77
 go_wp2_with fail
 simp [bodyPost, results, Tryz.results77]
theorem gv_build (line why : Int) (W : World) : Sem.run Tryz.prog (Instr.build 128 #[(0, .agg #[.int .i64 line, .int .i64 why])]) W = .ok (.agg #[.int .i64 line, .int .i64 why]) W := by kernel_rfl
theorem needat_no (line why : Int) (w : World) : Calls Tryz.prog 77 #[.bool false, .int .i64 line, .int .i64 why] w fun e w' => e = .panicked (gvL line why) ∧ w = w' := by
 have hgb := gv_build line why
 go_enter Tryz.func77, Tryz.ntmps77
 go_wp2_with fail
 simp [bodyPost, gvL, gvV]
theorem need_yes (why : Int) (w : World) : Calls Tryz.prog 27 #[.bool true, .int .i64 why] w fun e w' => e = .returned (.tuple #[]) ∧ w = w' := by
 go_enter Tryz.func27, Tryz.ntmps27
 go_wp2_with fail
 refine (needat_yes 0 why _).mono ?_; rintro e w1 ⟨rfl, rfl⟩
 go_wp2_with fail
 simp [bodyPost, results, Tryz.results27]
theorem need_no (why : Int) (w : World) : Calls Tryz.prog 27 #[.bool false, .int .i64 why] w fun e w' => e = .panicked (gvP why) ∧ w = w' := by
 go_enter Tryz.func27, Tryz.ntmps27
 go_wp2_with fail
 refine (needat_no 0 why _).mono ?_; rintro e w1 ⟨rfl, rfl⟩
 refine (show bodyPost _ _ _ (Exit.panic (gvP why)) _ _ from ?_)
 simp [bodyPost]
theorem for_yes (w : World) : Calls Tryz.prog 78 #[.int .i64 0] w fun e w' => e = .returned (.tuple #[]) ∧ w = w' := by
 go_enter Tryz.func78, Tryz.ntmps78
 go_wp2_with fail
 refine (need_yes 0 _).mono ?_; rintro e w1 ⟨rfl, rfl⟩
 go_wp2_with fail
 simp [bodyPost, results, Tryz.results78]
theorem for_no (why : Int) (w : World) (h : why ≠ 0) : Calls Tryz.prog 78 #[.int .i64 why] w fun e w' => e = .panicked (gvP why) ∧ w = w' := by
 have g : (why == 0) = false := by rw [beq_eq_false_iff_ne]; exact h
 clear h
 go_enter Tryz.func78, Tryz.ntmps78
 go_wp2_with fail
 refine (need_no why _).mono ?_; rintro e w1 ⟨rfl, rfl⟩
 refine (show bodyPost _ _ _ (Exit.panic (gvP why)) _ _ from ?_)
 simp [bodyPost]
theorem must_yes (v : Int) (w : World) : Calls Tryz.prog 87 #[.int .i64 v, .int .i64 0] w fun e w' => e = .returned (.int .i64 v) ∧ w = w' := by
 go_enter Tryz.func87, Tryz.ntmps87
 go_wp2_with fail
 refine (for_yes _).mono ?_; rintro e w1 ⟨rfl, rfl⟩
 go_wp2_with fail
 go_ret
 exact ⟨rfl, rfl⟩
theorem must_no (v why : Int) (w : World) (h : why ≠ 0) : Calls Tryz.prog 87 #[.int .i64 v, .int .i64 why] w fun e w' => e = .panicked (gvP why) ∧ w = w' := by
 go_enter Tryz.func87, Tryz.ntmps87
 go_wp2_with fail
 refine (for_no why _ h).mono ?_; rintro e w1 ⟨rfl, rfl⟩
 refine (show bodyPost _ _ _ (Exit.panic (gvP why)) _ _ from ?_)
 simp [bodyPost]
theorem muti_yes (v : Int) (w : World) : Calls Tryz.prog 79 #[.int .i64 v, .int .i64 0] w fun e w' => e = .returned (.int .i64 v) ∧ w = w' := by
 go_enter Tryz.func79, Tryz.ntmps79
 go_wp2_with fail
 refine (for_yes _).mono ?_; rintro e w1 ⟨rfl, rfl⟩
 go_wp2_with fail
 go_ret
 exact ⟨rfl, rfl⟩
theorem muti_no (v why : Int) (w : World) (h : why ≠ 0) : Calls Tryz.prog 79 #[.int .i64 v, .int .i64 why] w fun e w' => e = .panicked (gvP why) ∧ w = w' := by
 go_enter Tryz.func79, Tryz.ntmps79
 go_wp2_with fail
 refine (for_no why _ h).mono ?_; rintro e w1 ⟨rfl, rfl⟩
 refine (show bodyPost _ _ _ (Exit.panic (gvP why)) _ _ from ?_)
 simp [bodyPost]
theorem rread_nil (w : World) :
  Calls Tryz.prog 119 #[.string ⟨#[]⟩] w fun e w' => e = .returned (.tuple #[.int .i64 0, .int .i64 2]) ∧ w = w' := by
 have CD := Lib.hid (fun W => rdigs_nil W)
 go_enter Tryz.func119, Tryz.ntmps119
 go_wp2_with fail
 refine (CD.out _).mono ?_; rintro e w1 ⟨rfl, rfl⟩
 go_wp2_with fail
 go_ret2
 exact ⟨rfl, rfl⟩
theorem rread_mz (w : World) :
  Calls Tryz.prog 119 #[.string ⟨#[45, 48]⟩] w fun e w' => e = .returned (.tuple #[.int .i64 0, .int .i64 2]) ∧ w = w' := by
 have CD := Lib.hid (fun W => rdigs_ne ⟨#[48]⟩ W (by decide) (by decide))
 have IX : ∀ W, Sem.run Tryz.prog (Instr.index 9 (.string ⟨#[45, 48]⟩) (.int .i64 0)) W = .ok (.int .u8 45) W := fun W => rn_ix ⟨#[45, 48]⟩ 0 (by decide) W
 have sl : ∀ W, Sem.run Tryz.prog (Instr.slice 9 (.string ⟨#[45, 48]⟩) (some (.int .i64 1)) none none) W = .ok (.string ⟨#[48]⟩) W := fun W => rn_cut ⟨#[45, 48]⟩ 1 (by decide) W
 go_enter Tryz.func119, Tryz.ntmps119
 go_wp2_with fail
 refine (CD.out _).mono ?_; rintro e w1 ⟨rfl, rfl⟩
 go_wp2_with fail
 go_ret2
 exact ⟨rfl, rfl⟩
theorem rread_yno (s d : ByteArray) (c x : Int) (g : Bool) (w : World) (ls : 1 ≤ (s.size : Int)) (lm : s.size ≤ 1000) (ld : (d.size : Int) + 1 = (s.size : Int)) (IX : (∀ W, Sem.run Tryz.prog (Instr.index 9 (.string s) (.int .i64 0)) W = .ok (.int .u8 c) W)) (hc : (c == 45) = true) (sl : (∀ W, Sem.run Tryz.prog (Instr.slice 9 (.string s) (some (.int .i64 1)) none none) W = .ok (.string d) W)) (CD : Hid (∀ W, Calls Tryz.prog 162 #[.string d] W fun e w' => e = .returned (.bool g) ∧ W = w')) (hg : g = false) :
  Calls Tryz.prog 119 #[.string s] w fun e w' => e = .returned (.tuple #[.int .i64 0, .int .i64 2]) ∧ w = w' := by
 subst hg
 go_enter Tryz.func119, Tryz.ntmps119
 go_wp2_with fail
 refine (CD.out _).mono ?_; rintro e w1 ⟨rfl, rfl⟩
 go_wp2_with fail
 go_ret2
 exact ⟨rfl, rfl⟩
theorem rread_yzero (s d : ByteArray) (c x : Int) (g : Bool) (w : World) (ls : 1 ≤ (s.size : Int)) (lm : s.size ≤ 1000) (ld : (d.size : Int) + 1 = (s.size : Int)) (IX : (∀ W, Sem.run Tryz.prog (Instr.index 9 (.string s) (.int .i64 0)) W = .ok (.int .u8 c) W)) (hc : (c == 45) = true) (sl : (∀ W, Sem.run Tryz.prog (Instr.slice 9 (.string s) (some (.int .i64 1)) none none) W = .ok (.string d) W)) (CD : Hid (∀ W, Calls Tryz.prog 162 #[.string d] W fun e w' => e = .returned (.bool g) ∧ W = w')) (ID : (∀ W, Sem.run Tryz.prog (Instr.index 9 (.string d) (.int .i64 0)) W = .ok (.int .u8 x) W)) (hg : g = true) (h1 : 1 < (d.size : Int)) (hx : (x == 48) = true) :
  Calls Tryz.prog 119 #[.string s] w fun e w' => e = .returned (.tuple #[.int .i64 0, .int .i64 2]) ∧ w = w' := by
 subst hg
 go_enter Tryz.func119, Tryz.ntmps119
 go_wp2_with fail
 refine (CD.out _).mono ?_; rintro e w1 ⟨rfl, rfl⟩
 go_wp2_with fail
 go_ret2
 exact ⟨rfl, rfl⟩
theorem rread_yfar (s d : ByteArray) (c x : Int) (g : Bool) (w : World) (ls : 1 ≤ (s.size : Int)) (lm : s.size ≤ 1000) (ld : (d.size : Int) + 1 = (s.size : Int)) (IX : (∀ W, Sem.run Tryz.prog (Instr.index 9 (.string s) (.int .i64 0)) W = .ok (.int .u8 c) W)) (hc : (c == 45) = true) (sl : (∀ W, Sem.run Tryz.prog (Instr.slice 9 (.string s) (some (.int .i64 1)) none none) W = .ok (.string d) W)) (CD : Hid (∀ W, Calls Tryz.prog 162 #[.string d] W fun e w' => e = .returned (.bool g) ∧ W = w')) (ID : (∀ W, Sem.run Tryz.prog (Instr.index 9 (.string d) (.int .i64 0)) W = .ok (.int .u8 x) W)) (hg : g = true) (h1 : 19 < (d.size : Int)) (hx : (x == 48) = false) (hs : (s.toList == [45, 48]) = false) :
  Calls Tryz.prog 119 #[.string s] w fun e w' => e = .returned (.tuple #[.int .i64 0, .int .i64 1]) ∧ w = w' := by
 subst hg
 go_enter Tryz.func119, Tryz.ntmps119
 go_wp2_with fail
 refine (CD.out _).mono ?_; rintro e w1 ⟨rfl, rfl⟩
 go_wp2_with fail
 go_ret2
 exact ⟨rfl, rfl⟩
theorem rread_nno (s : ByteArray) (c : Int) (g : Bool) (w : World) (ls : 1 ≤ (s.size : Int)) (lm : s.size ≤ 1000) (IX : (∀ W, Sem.run Tryz.prog (Instr.index 9 (.string s) (.int .i64 0)) W = .ok (.int .u8 c) W)) (hc : (c == 45) = false) (CD : Hid (∀ W, Calls Tryz.prog 162 #[.string s] W fun e w' => e = .returned (.bool g) ∧ W = w')) (hg : g = false) :
  Calls Tryz.prog 119 #[.string s] w fun e w' => e = .returned (.tuple #[.int .i64 0, .int .i64 2]) ∧ w = w' := by
 subst hg
 go_enter Tryz.func119, Tryz.ntmps119
 go_wp2_with fail
 refine (CD.out _).mono ?_; rintro e w1 ⟨rfl, rfl⟩
 go_wp2_with fail
 go_ret2
 exact ⟨rfl, rfl⟩
theorem rread_nzero (s : ByteArray) (c : Int) (g : Bool) (w : World) (ls : 1 ≤ (s.size : Int)) (lm : s.size ≤ 1000) (IX : (∀ W, Sem.run Tryz.prog (Instr.index 9 (.string s) (.int .i64 0)) W = .ok (.int .u8 c) W)) (hc : (c == 45) = false) (CD : Hid (∀ W, Calls Tryz.prog 162 #[.string s] W fun e w' => e = .returned (.bool g) ∧ W = w'))  (hg : g = true) (h1 : 1 < (s.size : Int)) (hx : (c == 48) = true) :
  Calls Tryz.prog 119 #[.string s] w fun e w' => e = .returned (.tuple #[.int .i64 0, .int .i64 2]) ∧ w = w' := by
 subst hg
 go_enter Tryz.func119, Tryz.ntmps119
 go_wp2_with fail
 refine (CD.out _).mono ?_; rintro e w1 ⟨rfl, rfl⟩
 go_wp2_with fail
 go_ret2
 exact ⟨rfl, rfl⟩
theorem rread_nfar (s : ByteArray) (c : Int) (g : Bool) (w : World) (ls : 1 ≤ (s.size : Int)) (lm : s.size ≤ 1000) (IX : (∀ W, Sem.run Tryz.prog (Instr.index 9 (.string s) (.int .i64 0)) W = .ok (.int .u8 c) W)) (hc : (c == 45) = false) (CD : Hid (∀ W, Calls Tryz.prog 162 #[.string s] W fun e w' => e = .returned (.bool g) ∧ W = w'))  (hg : g = true) (h1 : 19 < (s.size : Int)) (hx : (c == 48) = false) (hs : (s.toList == [45, 48]) = false) :
  Calls Tryz.prog 119 #[.string s] w fun e w' => e = .returned (.tuple #[.int .i64 0, .int .i64 1]) ∧ w = w' := by
 subst hg
 go_enter Tryz.func119, Tryz.ntmps119
 go_wp2_with fail
 refine (CD.out _).mono ?_; rintro e w1 ⟨rfl, rfl⟩
 go_wp2_with fail
 go_ret2
 exact ⟨rfl, rfl⟩
set_option maxHeartbeats 2000000 in
set_option maxRecDepth 100000 in
theorem rread_yvaly (s d : ByteArray) (c x : Int) (w : World) (ls : 1 ≤ (s.size : Int)) (lm : s.size ≤ 1000) (ld : (d.size : Int) + 1 = (s.size : Int)) (IX : (∀ W, Sem.run Tryz.prog (Instr.index 9 (.string s) (.int .i64 0)) W = .ok (.int .u8 c) W)) (hc : (c == 45) = true) (sl : (∀ W, Sem.run Tryz.prog (Instr.slice 9 (.string s) (some (.int .i64 1)) none none) W = .ok (.string d) W)) (CD : Hid (∀ W, Calls Tryz.prog 162 #[.string d] W fun e w' => e = .returned (.bool true) ∧ W = w')) (ID : (∀ W, Sem.run Tryz.prog (Instr.index 9 (.string d) (.int .i64 0)) W = .ok (.int .u8 x) W)) (h1 : ¬ 1 < (d.size : Int)) (h19 : ¬ 19 < (d.size : Int)) (hs : (s.toList == [45, 48]) = false) (hd : d.data.toList.all Num.dig = true) (m1 : 1 ≤ Num.val 0 d.data.toList) :
  Calls Tryz.prog 119 #[.string s] w fun e w' => e = .returned (.tuple #[.int .i64 (if 9223372036854775808 < Num.val 0 d.data.toList then ((0 : Int), (1 : Int)) else (-(Num.val 0 d.data.toList : Int), 0)).1, .int .i64 (if 9223372036854775808 < Num.val 0 d.data.toList then ((0 : Int), (1 : Int)) else (-(Num.val 0 d.data.toList : Int), 0)).2]) ∧ w = w' := by
 obtain ⟨R, hR⟩ : ∃ R : Int × Int, R = (if 9223372036854775808 < Num.val 0 d.data.toList then ((0 : Int), (1 : Int)) else (-(Num.val 0 d.data.toList : Int), 0)) := ⟨_, rfl⟩
 rw [← hR]
 obtain ⟨ans, hans⟩ : ∃ ans, ans = Num.val 0 d.data.toList := ⟨_, rfl⟩
 rw [← hans] at hR
 have HR := Lib.hid hR; clear hR
 have HA := Lib.hid hans
 have HD := Lib.hid hd; clear hd
 have M1 := Lib.hid (show 9223372036854775808 = 9223372036854775808 → 1 ≤ ans by intro hh; first | (exact absurd hh (by decide)) | (rw [hans]; exact m1))
 clear hans
 try clear m1
 go_enter Tryz.func119, Tryz.ntmps119
 go_wp2_with fail
 refine (CD.out _).mono ?_; rintro e w1 ⟨rfl, rfl⟩
 go_wp2_with fail
 go_loopw [5, 6] (fun n i wr => ∃ k a : Nat, k ≤ d.size ∧ i = .int .i64 k ∧ n = .int .u64 a ∧ Hid (a + 1 ≤ 10 ^ k) ∧ Hid (Num.val a (d.data.toList.drop k) = ans) ∧ wr = w) (fun _ i _ => d.size - (intOf i).toNat)
 case atStart => exact ⟨0, 0, Nat.zero_le _, rfl, rfl, Nat.le_refl 1, HA.out.symm, rfl⟩
 case round =>
  obtain ⟨k, a, hk, rfl, rfl, hp, hr, hw⟩ := hrel
  obtain rfl : w = wr := hw.symm
  by_cases hlt : k < d.size
  ·
   have hb := d[k].toNat_lt
   have hdk : Num.dig d[k] = true := by
    have h := HD.out
    have := List.all_eq_true.1 h d[k] (by
     have e : d[k] = d.data.toList[k]'(by rw [Num.rn_len]; exact hlt) := rfl
     rw [e]; exact List.getElem_mem _)
    exact this
   have h48 : 48 ≤ d[k].toNat ∧ d[k].toNat ≤ 57 := by unfold Num.dig at hdk; exact of_decide_eq_true hdk
   obtain ⟨l48, l57⟩ := h48
   have ha : a ≤ 999999999999999999 := by
    have h := hp.out
    have := Nat.pow_le_pow_right (n := 10) (by omega) (show k ≤ 18 by omega)
    omega
   have hp' := Lib.hid (show Num.stp a d[k] + 1 ≤ 10 ^ (k + 1) by rw [Num.stp_eq, Nat.pow_succ]; have := hp.out; omega)
   have hr' := Lib.hid (show Num.val (Num.stp a d[k]) (d.data.toList.drop (k + 1)) = ans by rw [← hr.out, Num.rn_drop d k hlt, Num.val_cons])
   have hs' := Lib.hid (show 10 * (a : Int) + ((d[k].toNat : Int) - 48) = (Num.stp a d[k] : Int) by rw [Num.stp_eq]; omega)
   clear hdk hp hr
   go_wp2_with fail
   go_roundw
   case rel => exact ⟨k + 1, Num.stp a d[k], by omega, by go_num, by first | (rw [← hs'.out]; done) | (rw [← hs'.out]; rfl) | (congr 1; rw [← hs'.out]), hp', hr', by first | rfl | trivial⟩
   case measure => simp [intOf]; omega
  ·
   have hyes := Lib.hid (show a = ans by rw [← hr.out, List.drop_of_length_le (by rw [Num.rn_len]; omega)]; rfl)
   have hbd : a ≤ 9999999999999999999 := by
    have h := hp.out
    have := Nat.pow_le_pow_right (n := 10) (by omega) (show k ≤ 19 by omega)
    omega
   have hm : 9223372036854775808 = 9223372036854775808 → 1 ≤ a := by intro hh; first | (exact absurd hh (by decide)) | (rw [hyes.out]; exact M1.out (by first | trivial | exact hh))
   clear hp hr M1
   by_cases hf : 9223372036854775808 < a
   ·
    have hv := Lib.hid (show 9223372036854775808 < ans by rw [← hyes.out]; exact hf)
    have hfi : (9223372036854775808 : Int) < (a : Int) := by omega
    clear hf hm
    go_wp2_with fail
    go_ret2
    exact ⟨by rw [HR.out, if_pos hv.out]; rfl, rfl⟩
   ·
    have hv := Lib.hid hf
    have hm1 : 9223372036854775808 = 9223372036854775808 → 1 ≤ (a : Int) := fun h => by have := hm h; omega
    clear hm
    simp at hm1
    have hfi : ¬ (9223372036854775808 : Int) < (a : Int) := by omega
    clear hf
    have hv2 := Lib.hid (show (-((a : Int) - 1) - 1) = -(a : Int) by omega)
    go_wp2_with fail
    go_ret2
    exact ⟨by rw [HR.out, if_neg (by rw [← hyes.out]; exact hv.out), ← hyes.out]; first | rfl | (rw [← hv2.out]; rfl), rfl⟩
set_option maxHeartbeats 2000000 in
set_option maxRecDepth 100000 in
theorem rread_yvaln (s d : ByteArray) (c x : Int) (w : World) (ls : 1 ≤ (s.size : Int)) (lm : s.size ≤ 1000) (ld : (d.size : Int) + 1 = (s.size : Int)) (IX : (∀ W, Sem.run Tryz.prog (Instr.index 9 (.string s) (.int .i64 0)) W = .ok (.int .u8 c) W)) (hc : (c == 45) = true) (sl : (∀ W, Sem.run Tryz.prog (Instr.slice 9 (.string s) (some (.int .i64 1)) none none) W = .ok (.string d) W)) (CD : Hid (∀ W, Calls Tryz.prog 162 #[.string d] W fun e w' => e = .returned (.bool true) ∧ W = w')) (ID : (∀ W, Sem.run Tryz.prog (Instr.index 9 (.string d) (.int .i64 0)) W = .ok (.int .u8 x) W)) (h1 : 1 < (d.size : Int)) (hx : (x == 48) = false) (h19 : ¬ 19 < (d.size : Int)) (hs : (s.toList == [45, 48]) = false) (hd : d.data.toList.all Num.dig = true) (m1 : 1 ≤ Num.val 0 d.data.toList) :
  Calls Tryz.prog 119 #[.string s] w fun e w' => e = .returned (.tuple #[.int .i64 (if 9223372036854775808 < Num.val 0 d.data.toList then ((0 : Int), (1 : Int)) else (-(Num.val 0 d.data.toList : Int), 0)).1, .int .i64 (if 9223372036854775808 < Num.val 0 d.data.toList then ((0 : Int), (1 : Int)) else (-(Num.val 0 d.data.toList : Int), 0)).2]) ∧ w = w' := by
 obtain ⟨R, hR⟩ : ∃ R : Int × Int, R = (if 9223372036854775808 < Num.val 0 d.data.toList then ((0 : Int), (1 : Int)) else (-(Num.val 0 d.data.toList : Int), 0)) := ⟨_, rfl⟩
 rw [← hR]
 obtain ⟨ans, hans⟩ : ∃ ans, ans = Num.val 0 d.data.toList := ⟨_, rfl⟩
 rw [← hans] at hR
 have HR := Lib.hid hR; clear hR
 have HA := Lib.hid hans
 have HD := Lib.hid hd; clear hd
 have M1 := Lib.hid (show 9223372036854775808 = 9223372036854775808 → 1 ≤ ans by intro hh; first | (exact absurd hh (by decide)) | (rw [hans]; exact m1))
 clear hans
 try clear m1
 go_enter Tryz.func119, Tryz.ntmps119
 go_wp2_with fail
 refine (CD.out _).mono ?_; rintro e w1 ⟨rfl, rfl⟩
 go_wp2_with fail
 go_loopw [5, 6] (fun n i wr => ∃ k a : Nat, k ≤ d.size ∧ i = .int .i64 k ∧ n = .int .u64 a ∧ Hid (a + 1 ≤ 10 ^ k) ∧ Hid (Num.val a (d.data.toList.drop k) = ans) ∧ wr = w) (fun _ i _ => d.size - (intOf i).toNat)
 case atStart => exact ⟨0, 0, Nat.zero_le _, rfl, rfl, Nat.le_refl 1, HA.out.symm, rfl⟩
 case round =>
  obtain ⟨k, a, hk, rfl, rfl, hp, hr, hw⟩ := hrel
  obtain rfl : w = wr := hw.symm
  by_cases hlt : k < d.size
  ·
   have hb := d[k].toNat_lt
   have hdk : Num.dig d[k] = true := by
    have h := HD.out
    have := List.all_eq_true.1 h d[k] (by
     have e : d[k] = d.data.toList[k]'(by rw [Num.rn_len]; exact hlt) := rfl
     rw [e]; exact List.getElem_mem _)
    exact this
   have h48 : 48 ≤ d[k].toNat ∧ d[k].toNat ≤ 57 := by unfold Num.dig at hdk; exact of_decide_eq_true hdk
   obtain ⟨l48, l57⟩ := h48
   have ha : a ≤ 999999999999999999 := by
    have h := hp.out
    have := Nat.pow_le_pow_right (n := 10) (by omega) (show k ≤ 18 by omega)
    omega
   have hp' := Lib.hid (show Num.stp a d[k] + 1 ≤ 10 ^ (k + 1) by rw [Num.stp_eq, Nat.pow_succ]; have := hp.out; omega)
   have hr' := Lib.hid (show Num.val (Num.stp a d[k]) (d.data.toList.drop (k + 1)) = ans by rw [← hr.out, Num.rn_drop d k hlt, Num.val_cons])
   have hs' := Lib.hid (show 10 * (a : Int) + ((d[k].toNat : Int) - 48) = (Num.stp a d[k] : Int) by rw [Num.stp_eq]; omega)
   clear hdk hp hr
   go_wp2_with fail
   go_roundw
   case rel => exact ⟨k + 1, Num.stp a d[k], by omega, by go_num, by first | (rw [← hs'.out]; done) | (rw [← hs'.out]; rfl) | (congr 1; rw [← hs'.out]), hp', hr', by first | rfl | trivial⟩
   case measure => simp [intOf]; omega
  ·
   have hyes := Lib.hid (show a = ans by rw [← hr.out, List.drop_of_length_le (by rw [Num.rn_len]; omega)]; rfl)
   have hbd : a ≤ 9999999999999999999 := by
    have h := hp.out
    have := Nat.pow_le_pow_right (n := 10) (by omega) (show k ≤ 19 by omega)
    omega
   have hm : 9223372036854775808 = 9223372036854775808 → 1 ≤ a := by intro hh; first | (exact absurd hh (by decide)) | (rw [hyes.out]; exact M1.out (by first | trivial | exact hh))
   clear hp hr M1
   by_cases hf : 9223372036854775808 < a
   ·
    have hv := Lib.hid (show 9223372036854775808 < ans by rw [← hyes.out]; exact hf)
    have hfi : (9223372036854775808 : Int) < (a : Int) := by omega
    clear hf hm
    go_wp2_with fail
    go_ret2
    exact ⟨by rw [HR.out, if_pos hv.out]; rfl, rfl⟩
   ·
    have hv := Lib.hid hf
    have hm1 : 9223372036854775808 = 9223372036854775808 → 1 ≤ (a : Int) := fun h => by have := hm h; omega
    clear hm
    simp at hm1
    have hfi : ¬ (9223372036854775808 : Int) < (a : Int) := by omega
    clear hf
    have hv2 := Lib.hid (show (-((a : Int) - 1) - 1) = -(a : Int) by omega)
    go_wp2_with fail
    go_ret2
    exact ⟨by rw [HR.out, if_neg (by rw [← hyes.out]; exact hv.out), ← hyes.out]; first | rfl | (rw [← hv2.out]; rfl), rfl⟩
set_option maxHeartbeats 2000000 in
set_option maxRecDepth 100000 in
theorem rread_nvaly (s : ByteArray) (c : Int) (w : World) (ls : 1 ≤ (s.size : Int)) (lm : s.size ≤ 1000) (IX : (∀ W, Sem.run Tryz.prog (Instr.index 9 (.string s) (.int .i64 0)) W = .ok (.int .u8 c) W)) (hc : (c == 45) = false) (CD : Hid (∀ W, Calls Tryz.prog 162 #[.string s] W fun e w' => e = .returned (.bool true) ∧ W = w'))  (h1 : ¬ 1 < (s.size : Int)) (h19 : ¬ 19 < (s.size : Int)) (hs : (s.toList == [45, 48]) = false) (hd : s.data.toList.all Num.dig = true)  :
  Calls Tryz.prog 119 #[.string s] w fun e w' => e = .returned (.tuple #[.int .i64 (if 9223372036854775807 < Num.val 0 s.data.toList then ((0 : Int), (1 : Int)) else ((Num.val 0 s.data.toList : Int), 0)).1, .int .i64 (if 9223372036854775807 < Num.val 0 s.data.toList then ((0 : Int), (1 : Int)) else ((Num.val 0 s.data.toList : Int), 0)).2]) ∧ w = w' := by
 obtain ⟨R, hR⟩ : ∃ R : Int × Int, R = (if 9223372036854775807 < Num.val 0 s.data.toList then ((0 : Int), (1 : Int)) else ((Num.val 0 s.data.toList : Int), 0)) := ⟨_, rfl⟩
 rw [← hR]
 obtain ⟨ans, hans⟩ : ∃ ans, ans = Num.val 0 s.data.toList := ⟨_, rfl⟩
 rw [← hans] at hR
 have HR := Lib.hid hR; clear hR
 have HA := Lib.hid hans
 have HD := Lib.hid hd; clear hd
 have M1 := Lib.hid (show 9223372036854775807 = 9223372036854775808 → 1 ≤ ans by intro hh; first | (exact absurd hh (by decide)) | (rw [hans]; exact m1))
 clear hans
 try clear m1
 go_enter Tryz.func119, Tryz.ntmps119
 go_wp2_with fail
 refine (CD.out _).mono ?_; rintro e w1 ⟨rfl, rfl⟩
 go_wp2_with fail
 go_loopw [5, 6] (fun n i wr => ∃ k a : Nat, k ≤ s.size ∧ i = .int .i64 k ∧ n = .int .u64 a ∧ Hid (a + 1 ≤ 10 ^ k) ∧ Hid (Num.val a (s.data.toList.drop k) = ans) ∧ wr = w) (fun _ i _ => s.size - (intOf i).toNat)
 case atStart => exact ⟨0, 0, Nat.zero_le _, rfl, rfl, Nat.le_refl 1, HA.out.symm, rfl⟩
 case round =>
  obtain ⟨k, a, hk, rfl, rfl, hp, hr, hw⟩ := hrel
  obtain rfl : w = wr := hw.symm
  by_cases hlt : k < s.size
  ·
   have hb := s[k].toNat_lt
   have hdk : Num.dig s[k] = true := by
    have h := HD.out
    have := List.all_eq_true.1 h s[k] (by
     have e : s[k] = s.data.toList[k]'(by rw [Num.rn_len]; exact hlt) := rfl
     rw [e]; exact List.getElem_mem _)
    exact this
   have h48 : 48 ≤ s[k].toNat ∧ s[k].toNat ≤ 57 := by unfold Num.dig at hdk; exact of_decide_eq_true hdk
   obtain ⟨l48, l57⟩ := h48
   have ha : a ≤ 999999999999999999 := by
    have h := hp.out
    have := Nat.pow_le_pow_right (n := 10) (by omega) (show k ≤ 18 by omega)
    omega
   have hp' := Lib.hid (show Num.stp a s[k] + 1 ≤ 10 ^ (k + 1) by rw [Num.stp_eq, Nat.pow_succ]; have := hp.out; omega)
   have hr' := Lib.hid (show Num.val (Num.stp a s[k]) (s.data.toList.drop (k + 1)) = ans by rw [← hr.out, Num.rn_drop s k hlt, Num.val_cons])
   have hs' := Lib.hid (show 10 * (a : Int) + ((s[k].toNat : Int) - 48) = (Num.stp a s[k] : Int) by rw [Num.stp_eq]; omega)
   clear hdk hp hr
   go_wp2_with fail
   go_roundw
   case rel => exact ⟨k + 1, Num.stp a s[k], by omega, by go_num, by first | (rw [← hs'.out]; done) | (rw [← hs'.out]; rfl) | (congr 1; rw [← hs'.out]), hp', hr', by first | rfl | trivial⟩
   case measure => simp [intOf]; omega
  ·
   have hyes := Lib.hid (show a = ans by rw [← hr.out, List.drop_of_length_le (by rw [Num.rn_len]; omega)]; rfl)
   have hbd : a ≤ 9999999999999999999 := by
    have h := hp.out
    have := Nat.pow_le_pow_right (n := 10) (by omega) (show k ≤ 19 by omega)
    omega
   have hm : 9223372036854775807 = 9223372036854775808 → 1 ≤ a := by intro hh; first | (exact absurd hh (by decide)) | (rw [hyes.out]; exact M1.out (by first | trivial | exact hh))
   clear hp hr M1
   by_cases hf : 9223372036854775807 < a
   ·
    have hv := Lib.hid (show 9223372036854775807 < ans by rw [← hyes.out]; exact hf)
    have hfi : (9223372036854775807 : Int) < (a : Int) := by omega
    clear hf hm
    go_wp2_with fail
    go_ret2
    exact ⟨by rw [HR.out, if_pos hv.out]; rfl, rfl⟩
   ·
    have hv := Lib.hid hf
    have hm1 : 9223372036854775807 = 9223372036854775808 → 1 ≤ (a : Int) := fun h => by have := hm h; omega
    clear hm
    simp at hm1
    have hfi : ¬ (9223372036854775807 : Int) < (a : Int) := by omega
    clear hf
    have hv2 := Lib.hid (show (a : Int) = (a : Int) from rfl)
    go_wp2_with fail
    go_ret2
    exact ⟨by rw [HR.out, if_neg (by rw [← hyes.out]; exact hv.out), ← hyes.out]; first | rfl | (rw [← hv2.out]; rfl), rfl⟩
set_option maxHeartbeats 2000000 in
set_option maxRecDepth 100000 in
theorem rread_nvaln (s : ByteArray) (c : Int) (w : World) (ls : 1 ≤ (s.size : Int)) (lm : s.size ≤ 1000) (IX : (∀ W, Sem.run Tryz.prog (Instr.index 9 (.string s) (.int .i64 0)) W = .ok (.int .u8 c) W)) (hc : (c == 45) = false) (CD : Hid (∀ W, Calls Tryz.prog 162 #[.string s] W fun e w' => e = .returned (.bool true) ∧ W = w'))  (h1 : 1 < (s.size : Int)) (hx : (c == 48) = false) (h19 : ¬ 19 < (s.size : Int)) (hs : (s.toList == [45, 48]) = false) (hd : s.data.toList.all Num.dig = true)  :
  Calls Tryz.prog 119 #[.string s] w fun e w' => e = .returned (.tuple #[.int .i64 (if 9223372036854775807 < Num.val 0 s.data.toList then ((0 : Int), (1 : Int)) else ((Num.val 0 s.data.toList : Int), 0)).1, .int .i64 (if 9223372036854775807 < Num.val 0 s.data.toList then ((0 : Int), (1 : Int)) else ((Num.val 0 s.data.toList : Int), 0)).2]) ∧ w = w' := by
 obtain ⟨R, hR⟩ : ∃ R : Int × Int, R = (if 9223372036854775807 < Num.val 0 s.data.toList then ((0 : Int), (1 : Int)) else ((Num.val 0 s.data.toList : Int), 0)) := ⟨_, rfl⟩
 rw [← hR]
 obtain ⟨ans, hans⟩ : ∃ ans, ans = Num.val 0 s.data.toList := ⟨_, rfl⟩
 rw [← hans] at hR
 have HR := Lib.hid hR; clear hR
 have HA := Lib.hid hans
 have HD := Lib.hid hd; clear hd
 have M1 := Lib.hid (show 9223372036854775807 = 9223372036854775808 → 1 ≤ ans by intro hh; first | (exact absurd hh (by decide)) | (rw [hans]; exact m1))
 clear hans
 try clear m1
 go_enter Tryz.func119, Tryz.ntmps119
 go_wp2_with fail
 refine (CD.out _).mono ?_; rintro e w1 ⟨rfl, rfl⟩
 go_wp2_with fail
 go_loopw [5, 6] (fun n i wr => ∃ k a : Nat, k ≤ s.size ∧ i = .int .i64 k ∧ n = .int .u64 a ∧ Hid (a + 1 ≤ 10 ^ k) ∧ Hid (Num.val a (s.data.toList.drop k) = ans) ∧ wr = w) (fun _ i _ => s.size - (intOf i).toNat)
 case atStart => exact ⟨0, 0, Nat.zero_le _, rfl, rfl, Nat.le_refl 1, HA.out.symm, rfl⟩
 case round =>
  obtain ⟨k, a, hk, rfl, rfl, hp, hr, hw⟩ := hrel
  obtain rfl : w = wr := hw.symm
  by_cases hlt : k < s.size
  ·
   have hb := s[k].toNat_lt
   have hdk : Num.dig s[k] = true := by
    have h := HD.out
    have := List.all_eq_true.1 h s[k] (by
     have e : s[k] = s.data.toList[k]'(by rw [Num.rn_len]; exact hlt) := rfl
     rw [e]; exact List.getElem_mem _)
    exact this
   have h48 : 48 ≤ s[k].toNat ∧ s[k].toNat ≤ 57 := by unfold Num.dig at hdk; exact of_decide_eq_true hdk
   obtain ⟨l48, l57⟩ := h48
   have ha : a ≤ 999999999999999999 := by
    have h := hp.out
    have := Nat.pow_le_pow_right (n := 10) (by omega) (show k ≤ 18 by omega)
    omega
   have hp' := Lib.hid (show Num.stp a s[k] + 1 ≤ 10 ^ (k + 1) by rw [Num.stp_eq, Nat.pow_succ]; have := hp.out; omega)
   have hr' := Lib.hid (show Num.val (Num.stp a s[k]) (s.data.toList.drop (k + 1)) = ans by rw [← hr.out, Num.rn_drop s k hlt, Num.val_cons])
   have hs' := Lib.hid (show 10 * (a : Int) + ((s[k].toNat : Int) - 48) = (Num.stp a s[k] : Int) by rw [Num.stp_eq]; omega)
   clear hdk hp hr
   go_wp2_with fail
   go_roundw
   case rel => exact ⟨k + 1, Num.stp a s[k], by omega, by go_num, by first | (rw [← hs'.out]; done) | (rw [← hs'.out]; rfl) | (congr 1; rw [← hs'.out]), hp', hr', by first | rfl | trivial⟩
   case measure => simp [intOf]; omega
  ·
   have hyes := Lib.hid (show a = ans by rw [← hr.out, List.drop_of_length_le (by rw [Num.rn_len]; omega)]; rfl)
   have hbd : a ≤ 9999999999999999999 := by
    have h := hp.out
    have := Nat.pow_le_pow_right (n := 10) (by omega) (show k ≤ 19 by omega)
    omega
   have hm : 9223372036854775807 = 9223372036854775808 → 1 ≤ a := by intro hh; first | (exact absurd hh (by decide)) | (rw [hyes.out]; exact M1.out (by first | trivial | exact hh))
   clear hp hr M1
   by_cases hf : 9223372036854775807 < a
   ·
    have hv := Lib.hid (show 9223372036854775807 < ans by rw [← hyes.out]; exact hf)
    have hfi : (9223372036854775807 : Int) < (a : Int) := by omega
    clear hf hm
    go_wp2_with fail
    go_ret2
    exact ⟨by rw [HR.out, if_pos hv.out]; rfl, rfl⟩
   ·
    have hv := Lib.hid hf
    have hm1 : 9223372036854775807 = 9223372036854775808 → 1 ≤ (a : Int) := fun h => by have := hm h; omega
    clear hm
    simp at hm1
    have hfi : ¬ (9223372036854775807 : Int) < (a : Int) := by omega
    clear hf
    have hv2 := Lib.hid (show (a : Int) = (a : Int) from rfl)
    go_wp2_with fail
    go_ret2
    exact ⟨by rw [HR.out, if_neg (by rw [← hyes.out]; exact hv.out), ← hyes.out]; first | rfl | (rw [← hv2.out]; rfl), rfl⟩
end Go.Proofs.YtpggfhmnhbnefaaGreatDoor
set_option linter.unusedVariables false
namespace Go.Proofs
open Go.Shelf
theorem Tryz.parseInt_ok (s : ByteArray) (hmax : s.size ≤ 9223372036854775806) (v : Int) (h : Lib.parseIntB 64 s.data.toList = .ok v) (w : World) :
  Calls Tryz.prog 197 #[.string s, .int .i64 10, .int .i64 64] w fun e w' => e = .returned (.tuple #[.int .i64 v, .nilIface]) ∧ RowKit.Below w.heap.size w w' :=
 (Any.strconv_ParseInt_10_at64_ok Tryz.laysC174 s hmax v h w).mono fun _ _ ⟨h, k⟩ => ⟨h, by
  rcases k with e | ⟨t, e⟩
  ·
   rw [e]; exact RowKit.Below.refl _ _
  ·
   rw [e]; exact Lib.bytesWorld_below _ _ _⟩
theorem Tryz.parseInt_range (s : ByteArray) (hlim : s.size ≤ 281474976710656) (h : Lib.parseIntB 64 s.data.toList = .range) (tp : TypeId) (p : Value) (w : World) (hvar : w.var? Tryz.prog "strconv.ErrRange" = some #[.iface tp p]) :
  Calls Tryz.prog 197 #[.string s, .int .i64 10, .int .i64 64] w fun e w' => (∃ N, e = .returned (.tuple #[.int .i64 (Lib.intSat 64 s.data.toList), .iface 192 (.pointer (some ⟨N, 0, none⟩))])) ∧ RowKit.Below w.heap.size w w' :=
 (Any.strconv_ParseInt_10_at64_range_var Tryz.laysC174 s hlim h tp p w hvar).mono fun _ _ ⟨N, h, _, _, b⟩ => ⟨⟨N, h⟩, b⟩
end Go.Proofs
