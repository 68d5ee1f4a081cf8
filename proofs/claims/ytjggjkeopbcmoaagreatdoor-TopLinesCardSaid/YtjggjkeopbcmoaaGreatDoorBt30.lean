/- Joined: TpW, RuO. -/
import Derived.Test.YtjggjkeopbcmoaaGreatDoorBt01
import Derived.Test.YtjggjkeopbcmoaaGreatDoorBt29
import Derived.Test.YtjggjkeopbcmoaaGreatDoorProg
import Derived.OpenShut
import Derived.ShutString
import Derived.Lib.SmallJoins
import Derived.Deep.Strs
set_option linter.unusedVariables false
set_option linter.unusedSimpArgs false
namespace Go.Proofs.YtjggjkeopbcmoaaGreatDoor
open Go.RowKit Go.Sort
theorem tp_name (x : ByteArray) (q : Int) (h : Lk.nm x.data.toList = q) (hs : x.size ≤ 600) (W : World) : Calls Tryz.prog 4 #[.string x] W fun e w' => e = .returned (.int .i64 q) ∧ W = w' := by
 have := rname_any x W (by unfold maxLen; omega)
 rw [h] at this
 exact this
set_option maxHeartbeats 8000000 in
set_option maxRecDepth 100000 in
theorem toplines_walk (s : ByteArray) (fy ty m k wk d sec base save : Int) (t : ByteArray) (off kind sv : Int) (rs fm : ByteArray) (h : Bool) (yr em ek ewk ed esec ebase : Int) (w : World) (tp : TypeId) (pp : Value) (y : Int) (L : Ru.Lv w tp pp y) (hs : s.size ≤ maxLen) (ht : t.size ≤ maxLen) (hr : rs.size ≤ maxLen) (hf : fm.size ≤ maxLen) (y0 : -9223372036854775808 ≤ yr) (y1 : yr ≤ 9223372036854775807) :
  Calls Tryz.prog 3 #[.agg #[.string s, .int .i64 fy, .int .i64 ty, .int .i64 m, .int .i64 k, .int .i64 wk, .int .i64 d, .int .i64 sec, .int .i64 base, .int .i64 save, .string t], .agg #[.int .i64 off, .int .i64 kind, .int .i64 sv, .string rs, .string fm, .bool h, .int .i64 yr, .int .i64 em, .int .i64 ek, .int .i64 ewk, .int .i64 ed, .int .i64 esec, .int .i64 ebase]] w fun e w' => e = .returned (.bool true) ∧ Below w.heap.size w w' := by
 have HL := Lib.hid (fun W (b : Below w.heap.size w W) => L.on b)
 have NA := Lib.hid (tp_name ⟨#[65]⟩ 0 (by decide +kernel) (by decide))
 have NB := Lib.hid (tp_name ⟨#[49]⟩ 10 (by decide +kernel) (by decide))
 have R1 := Lib.hid (fun g => tp_rule_yes (⟨s, fy, ty, m, k, wk, d, sec, base, save, t⟩ : Ru.R) g hs ht tp pp y)
 have R0 := Lib.hid (fun g => tp_rule_no (⟨s, fy, ty, m, k, wk, d, sec, base, save, t⟩ : Ru.R) g hs ht tp pp y)
 have E1 := Lib.hid (fun g => tp_era_yes (⟨off, kind, sv, rs, fm, ⟨h, yr, em, ek, ewk, ed, esec, ebase⟩⟩ : Er.E) g hr hf y0 y1 tp pp y)
 have E0 := Lib.hid (fun g => tp_era_no (⟨off, kind, sv, rs, fm, ⟨h, yr, em, ek, ewk, ed, esec, ebase⟩⟩ : Er.E) g hr hf y0 y1 tp pp y)
 clear L hs ht hr hf y0 y1
 cases hr : (⟨s, fy, ty, m, k, wk, d, sec, base, save, t⟩ : Ru.R).ok
 ·
  have PF1 := Lib.hid (R0.out hr)
  dsimp only [Ru.R.v] at PF1
  clear hr R0 R1
  cases he : (⟨off, kind, sv, rs, fm, ⟨h, yr, em, ek, ewk, ed, esec, ebase⟩⟩ : Er.E).ok
  ·
   have PF2 := Lib.hid (E0.out he)
   dsimp only [Er.E.v, Er.ev] at PF2
   clear he E0 E1
   go_enter Tryz.func3, Tryz.ntmps3
   go_wp2_with fail
   refine (NA.out _).mono ?_; rintro e v1 ⟨rfl, rfl⟩
   go_wp2_with fail
   refine (NB.out _).mono ?_; rintro e v2 ⟨rfl, rfl⟩
   go_wp2_with fail
   refine (PF1.out _ (HL.out _ gr0)).mono ?_; rintro e w1 ⟨_, sV, rfl, b1⟩
   have SV_1 := Lib.hid sV; obtain ⟨AV, cV, rfl, -⟩ := sV
   have d1 : Below w.heap.size w w1 := below_step gr0 b1
   have B1 := Lib.hid d1
   have R1 : Bk11 w1 (w.heap.size) (.string s) (.int .i64 fy) (.int .i64 ty) (.int .i64 m) (.int .i64 k) (.int .i64 wk) (.int .i64 d) (.int .i64 sec) (.int .i64 base) (.int .i64 save) (.string t) := by refine Bk11.of b1 (by simp <;> omega) (by intro j; simp [go_sem]) ?_ ?_ ?_ ?_ ?_ ?_ ?_ ?_ ?_ ?_ ?_ <;> simp [go_sem]
   have E1 : Bk13 w1 (w.heap.size + 1) (.int .i64 off) (.int .i64 kind) (.int .i64 sv) (.string rs) (.string fm) (.bool h) (.int .i64 yr) (.int .i64 em) (.int .i64 ek) (.int .i64 ewk) (.int .i64 ed) (.int .i64 esec) (.int .i64 ebase) := by refine Bk13.of b1 (by simp <;> omega) (by intro j; simp [go_sem]) ?_ ?_ ?_ ?_ ?_ ?_ ?_ ?_ ?_ ?_ ?_ ?_ ?_ <;> simp [go_sem]
   clear b1 d1
   clear SV_1
   have tx := R1; obtain ⟨cR_b, cR_f, cR_0, cR_1, cR_2, cR_3, cR_4, cR_5, cR_6, cR_7, cR_8, cR_9, cR_10⟩ := tx
   have tx := E1; obtain ⟨cE_b, cE_f, cE_0, cE_1, cE_2, cE_3, cE_4, cE_5, cE_6, cE_7, cE_8, cE_9, cE_10, cE_11, cE_12⟩ := tx
   go_wp2_with fail
   clear cR_b cR_f cR_0 cR_1 cR_2 cR_3 cR_4 cR_5 cR_6 cR_7 cR_8 cR_9 cR_10 cE_b cE_f cE_0 cE_1 cE_2 cE_3 cE_4 cE_5 cE_6 cE_7 cE_8 cE_9 cE_10 cE_11 cE_12
   refine (PF2.out _ (HL.out _ (below_step B1.out gr0))).mono ?_; rintro e w2 ⟨_, sU, rfl, b2⟩
   have SU_2 := Lib.hid sU; obtain ⟨AU, cU, rfl, -⟩ := sU
   have d2 : Below w1.heap.size w1 w2 := below_step gr0 b2
   have B2 := Lib.hid (below_step B1.out d2)
   have R2 := R1.keep d2
   have E2 := E1.keep d2
   clear R1 E1 b2 d2 B1
   clear SU_2
   have tx := R2; obtain ⟨cR_b, cR_f, cR_0, cR_1, cR_2, cR_3, cR_4, cR_5, cR_6, cR_7, cR_8, cR_9, cR_10⟩ := tx
   have tx := E2; obtain ⟨cE_b, cE_f, cE_0, cE_1, cE_2, cE_3, cE_4, cE_5, cE_6, cE_7, cE_8, cE_9, cE_10, cE_11, cE_12⟩ := tx
   go_wp2_with fail
   clear cR_b cR_f cR_0 cR_1 cR_2 cR_3 cR_4 cR_5 cR_6 cR_7 cR_8 cR_9 cR_10 cE_b cE_f cE_0 cE_1 cE_2 cE_3 cE_4 cE_5 cE_6 cE_7 cE_8 cE_9 cE_10 cE_11 cE_12
   go_ret
   exact ⟨rfl, (grB B2)⟩
  ·
   obtain ⟨T2, J2, bj2, PF2, PJ2, PO2, PR2, PC2⟩ := E1.out he
   have PF2 := Lib.hid PF2; have PJ2 := Lib.hid PJ2; have PO2 := Lib.hid PO2; have PR2 := Lib.hid PR2; have PC2 := Lib.hid PC2
   dsimp only [Er.E.v, Er.ev] at PF2 PR2
   clear he E0 E1
   go_enter Tryz.func3, Tryz.ntmps3
   go_wp2_with fail
   refine (NA.out _).mono ?_; rintro e v1 ⟨rfl, rfl⟩
   go_wp2_with fail
   refine (NB.out _).mono ?_; rintro e v2 ⟨rfl, rfl⟩
   go_wp2_with fail
   refine (PF1.out _ (HL.out _ gr0)).mono ?_; rintro e w1 ⟨_, sV, rfl, b1⟩
   have SV_1 := Lib.hid sV; obtain ⟨AV, cV, rfl, -⟩ := sV
   have d1 : Below w.heap.size w w1 := below_step gr0 b1
   have B1 := Lib.hid d1
   have R1 : Bk11 w1 (w.heap.size) (.string s) (.int .i64 fy) (.int .i64 ty) (.int .i64 m) (.int .i64 k) (.int .i64 wk) (.int .i64 d) (.int .i64 sec) (.int .i64 base) (.int .i64 save) (.string t) := by refine Bk11.of b1 (by simp <;> omega) (by intro j; simp [go_sem]) ?_ ?_ ?_ ?_ ?_ ?_ ?_ ?_ ?_ ?_ ?_ <;> simp [go_sem]
   have E1 : Bk13 w1 (w.heap.size + 1) (.int .i64 off) (.int .i64 kind) (.int .i64 sv) (.string rs) (.string fm) (.bool h) (.int .i64 yr) (.int .i64 em) (.int .i64 ek) (.int .i64 ewk) (.int .i64 ed) (.int .i64 esec) (.int .i64 ebase) := by refine Bk13.of b1 (by simp <;> omega) (by intro j; simp [go_sem]) ?_ ?_ ?_ ?_ ?_ ?_ ?_ ?_ ?_ ?_ ?_ ?_ ?_ <;> simp [go_sem]
   clear b1 d1
   clear SV_1
   have tx := R1; obtain ⟨cR_b, cR_f, cR_0, cR_1, cR_2, cR_3, cR_4, cR_5, cR_6, cR_7, cR_8, cR_9, cR_10⟩ := tx
   have tx := E1; obtain ⟨cE_b, cE_f, cE_0, cE_1, cE_2, cE_3, cE_4, cE_5, cE_6, cE_7, cE_8, cE_9, cE_10, cE_11, cE_12⟩ := tx
   go_wp2_with fail
   clear cR_b cR_f cR_0 cR_1 cR_2 cR_3 cR_4 cR_5 cR_6 cR_7 cR_8 cR_9 cR_10 cE_b cE_f cE_0 cE_1 cE_2 cE_3 cE_4 cE_5 cE_6 cE_7 cE_8 cE_9 cE_10 cE_11 cE_12
   refine (PF2.out _ (HL.out _ (below_step B1.out gr0))).mono ?_; rintro e w2 ⟨_, sU, rfl, b2⟩
   have SU_2 := Lib.hid sU; obtain ⟨AU, cU, rfl, -⟩ := sU
   have d2 : Below w1.heap.size w1 w2 := below_step gr0 b2
   have B2 := Lib.hid (below_step B1.out d2)
   have R2 := R1.keep d2
   have E2 := E1.keep d2
   clear R1 E1 b2 d2 B1
   have tx := R2; obtain ⟨cR_b, cR_f, cR_0, cR_1, cR_2, cR_3, cR_4, cR_5, cR_6, cR_7, cR_8, cR_9, cR_10⟩ := tx
   have tx := E2; obtain ⟨cE_b, cE_f, cE_0, cE_1, cE_2, cE_3, cE_4, cE_5, cE_6, cE_7, cE_8, cE_9, cE_10, cE_11, cE_12⟩ := tx
   go_wp2_with fail
   clear cR_b cR_f cR_0 cR_1 cR_2 cR_3 cR_4 cR_5 cR_6 cR_7 cR_8 cR_9 cR_10 cE_b cE_f cE_0 cE_1 cE_2 cE_3 cE_4 cE_5 cE_6 cE_7 cE_8 cE_9 cE_10 cE_11 cE_12
   refine (PJ2.out _ _ (SU_2.out.on gr0)).mono ?_; rintro e w3 ⟨rfl, b3⟩
   have d3 : Below w2.heap.size w2 w3 := below_step gr0 b3
   have B3 := Lib.hid (below_step B2.out d3)
   have SU_3 := Lib.hid (SU_2.out.on d3)
   have R3 := R2.keep d3
   have E3 := E2.keep d3
   clear SU_2 R2 E2 b3 d3 B2
   clear SU_3
   have tx := R3; obtain ⟨cR_b, cR_f, cR_0, cR_1, cR_2, cR_3, cR_4, cR_5, cR_6, cR_7, cR_8, cR_9, cR_10⟩ := tx
   have tx := E3; obtain ⟨cE_b, cE_f, cE_0, cE_1, cE_2, cE_3, cE_4, cE_5, cE_6, cE_7, cE_8, cE_9, cE_10, cE_11, cE_12⟩ := tx
   go_wp2_with fail
   clear cR_b cR_f cR_0 cR_1 cR_2 cR_3 cR_4 cR_5 cR_6 cR_7 cR_8 cR_9 cR_10 cE_b cE_f cE_0 cE_1 cE_2 cE_3 cE_4 cE_5 cE_6 cE_7 cE_8 cE_9 cE_10 cE_11 cE_12
   refine (PO2.out _).mono ?_; rintro e w4 ⟨b4, AH, cH, rfl, fH⟩
   have d4 : Below w3.heap.size w3 w4 := below_step gr0 b4
   have B4 := Lib.hid (below_step B3.out d4)
   have R4 := R3.keep d4
   have E4 := E3.keep d4
   clear R3 E3 b4 d4 B3
   have SH0 := Lib.hid fH.2; have HH := Lib.hid fH.1; clear fH
   have tx := R4; obtain ⟨cR_b, cR_f, cR_0, cR_1, cR_2, cR_3, cR_4, cR_5, cR_6, cR_7, cR_8, cR_9, cR_10⟩ := tx
   have tx := E4; obtain ⟨cE_b, cE_f, cE_0, cE_1, cE_2, cE_3, cE_4, cE_5, cE_6, cE_7, cE_8, cE_9, cE_10, cE_11, cE_12⟩ := tx
   go_wp2_with fail
   clear cR_b cR_f cR_0 cR_1 cR_2 cR_3 cR_4 cR_5 cR_6 cR_7 cR_8 cR_9 cR_10 cE_b cE_f cE_0 cE_1 cE_2 cE_3 cE_4 cE_5 cE_6 cE_7 cE_8 cE_9 cE_10 cE_11 cE_12
   refine (PR2.out _ _ _ HH.out (SH0.out.on gr0) (HL.out _ (below_step B4.out gr0))).mono ?_; rintro e w5 ⟨rfl, b5⟩
   have d5 : Below w4.heap.size w4 w5 := below_step gr0 b5
   have B5 := Lib.hid (below_step B4.out d5)
   have SH_5 := Lib.hid (SH0.out.on d5)
   have R5 := R4.keep d5
   have E5 := E4.keep d5
   clear SH0 R4 E4 b5 d5 B4
   clear SH_5
   have tx := R5; obtain ⟨cR_b, cR_f, cR_0, cR_1, cR_2, cR_3, cR_4, cR_5, cR_6, cR_7, cR_8, cR_9, cR_10⟩ := tx
   have tx := E5; obtain ⟨cE_b, cE_f, cE_0, cE_1, cE_2, cE_3, cE_4, cE_5, cE_6, cE_7, cE_8, cE_9, cE_10, cE_11, cE_12⟩ := tx
   go_wp2_with fail
   clear cR_b cR_f cR_0 cR_1 cR_2 cR_3 cR_4 cR_5 cR_6 cR_7 cR_8 cR_9 cR_10 cE_b cE_f cE_0 cE_1 cE_2 cE_3 cE_4 cE_5 cE_6 cE_7 cE_8 cE_9 cE_10 cE_11 cE_12
   refine (PC2.out _).mono ?_; rintro e w6 ⟨rfl, b6⟩
   have d6 : Below w5.heap.size w5 w6 := below_step gr0 b6
   have B6 := Lib.hid (below_step B5.out d6)
   have R6 := R5.keep d6
   have E6 := E5.keep d6
   have aXE := B5.out.size
   have nXER := Nat.ne_of_lt R5.hb
   have oXER := Nat.ne_of_gt R5.hb
   have nXEE := Nat.ne_of_lt E5.hb
   have oXEE := Nat.ne_of_gt E5.hb
   have XE6 : Bk13 w6 (w5.heap.size) (.int .i64 off) (.int .i64 kind) (.int .i64 sv) (.string rs) (.string fm) (.bool h) (.int .i64 yr) (.int .i64 em) (.int .i64 ek) (.int .i64 ewk) (.int .i64 ed) (.int .i64 esec) (.int .i64 ebase) := by refine Bk13.of b6 (by simp <;> omega) (by intro j; simp [go_sem]) ?_ ?_ ?_ ?_ ?_ ?_ ?_ ?_ ?_ ?_ ?_ ?_ ?_ <;> simp [go_sem]
   clear R5 E5 b6 d6 B5
   have tx := R6; obtain ⟨cR_b, cR_f, cR_0, cR_1, cR_2, cR_3, cR_4, cR_5, cR_6, cR_7, cR_8, cR_9, cR_10⟩ := tx
   have tx := E6; obtain ⟨cE_b, cE_f, cE_0, cE_1, cE_2, cE_3, cE_4, cE_5, cE_6, cE_7, cE_8, cE_9, cE_10, cE_11, cE_12⟩ := tx
   have tx := XE6; obtain ⟨cXE_b, cXE_f, cXE_0, cXE_1, cXE_2, cXE_3, cXE_4, cXE_5, cXE_6, cXE_7, cXE_8, cXE_9, cXE_10, cXE_11, cXE_12⟩ := tx
   go_wp2_with fail
   clear cR_b cR_f cR_0 cR_1 cR_2 cR_3 cR_4 cR_5 cR_6 cR_7 cR_8 cR_9 cR_10 cE_b cE_f cE_0 cE_1 cE_2 cE_3 cE_4 cE_5 cE_6 cE_7 cE_8 cE_9 cE_10 cE_11 cE_12 cXE_b cXE_f cXE_0 cXE_1 cXE_2 cXE_3 cXE_4 cXE_5 cXE_6 cXE_7 cXE_8 cXE_9 cXE_10 cXE_11 cXE_12
   go_ret
   exact ⟨rfl, (grB B6)⟩
 ·
  obtain ⟨T1, J1, bj1, PF1, PJ1, PO1, PR1, PC1⟩ := R1.out hr
  have PF1 := Lib.hid PF1; have PJ1 := Lib.hid PJ1; have PO1 := Lib.hid PO1; have PR1 := Lib.hid PR1; have PC1 := Lib.hid PC1
  dsimp only [Ru.R.v] at PF1 PR1
  clear hr R0 R1
  cases he : (⟨off, kind, sv, rs, fm, ⟨h, yr, em, ek, ewk, ed, esec, ebase⟩⟩ : Er.E).ok
  ·
   have PF2 := Lib.hid (E0.out he)
   dsimp only [Er.E.v, Er.ev] at PF2
   clear he E0 E1
   go_enter Tryz.func3, Tryz.ntmps3
   go_wp2_with fail
   refine (NA.out _).mono ?_; rintro e v1 ⟨rfl, rfl⟩
   go_wp2_with fail
   refine (NB.out _).mono ?_; rintro e v2 ⟨rfl, rfl⟩
   go_wp2_with fail
   refine (PF1.out _ (HL.out _ gr0)).mono ?_; rintro e w1 ⟨_, sV, rfl, b1⟩
   have SV_1 := Lib.hid sV; obtain ⟨AV, cV, rfl, -⟩ := sV
   have d1 : Below w.heap.size w w1 := below_step gr0 b1
   have B1 := Lib.hid d1
   have R1 : Bk11 w1 (w.heap.size) (.string s) (.int .i64 fy) (.int .i64 ty) (.int .i64 m) (.int .i64 k) (.int .i64 wk) (.int .i64 d) (.int .i64 sec) (.int .i64 base) (.int .i64 save) (.string t) := by refine Bk11.of b1 (by simp <;> omega) (by intro j; simp [go_sem]) ?_ ?_ ?_ ?_ ?_ ?_ ?_ ?_ ?_ ?_ ?_ <;> simp [go_sem]
   have E1 : Bk13 w1 (w.heap.size + 1) (.int .i64 off) (.int .i64 kind) (.int .i64 sv) (.string rs) (.string fm) (.bool h) (.int .i64 yr) (.int .i64 em) (.int .i64 ek) (.int .i64 ewk) (.int .i64 ed) (.int .i64 esec) (.int .i64 ebase) := by refine Bk13.of b1 (by simp <;> omega) (by intro j; simp [go_sem]) ?_ ?_ ?_ ?_ ?_ ?_ ?_ ?_ ?_ ?_ ?_ ?_ ?_ <;> simp [go_sem]
   clear b1 d1
   have tx := R1; obtain ⟨cR_b, cR_f, cR_0, cR_1, cR_2, cR_3, cR_4, cR_5, cR_6, cR_7, cR_8, cR_9, cR_10⟩ := tx
   have tx := E1; obtain ⟨cE_b, cE_f, cE_0, cE_1, cE_2, cE_3, cE_4, cE_5, cE_6, cE_7, cE_8, cE_9, cE_10, cE_11, cE_12⟩ := tx
   go_wp2_with fail
   clear cR_b cR_f cR_0 cR_1 cR_2 cR_3 cR_4 cR_5 cR_6 cR_7 cR_8 cR_9 cR_10 cE_b cE_f cE_0 cE_1 cE_2 cE_3 cE_4 cE_5 cE_6 cE_7 cE_8 cE_9 cE_10 cE_11 cE_12
   refine (PJ1.out _ _ (SV_1.out.on gr0)).mono ?_; rintro e w2 ⟨rfl, b2⟩
   have d2 : Below w1.heap.size w1 w2 := below_step gr0 b2
   have B2 := Lib.hid (below_step B1.out d2)
   have SV_2 := Lib.hid (SV_1.out.on d2)
   have R2 := R1.keep d2
   have E2 := E1.keep d2
   clear SV_1 R1 E1 b2 d2 B1
   clear SV_2
   have tx := R2; obtain ⟨cR_b, cR_f, cR_0, cR_1, cR_2, cR_3, cR_4, cR_5, cR_6, cR_7, cR_8, cR_9, cR_10⟩ := tx
   have tx := E2; obtain ⟨cE_b, cE_f, cE_0, cE_1, cE_2, cE_3, cE_4, cE_5, cE_6, cE_7, cE_8, cE_9, cE_10, cE_11, cE_12⟩ := tx
   go_wp2_with fail
   clear cR_b cR_f cR_0 cR_1 cR_2 cR_3 cR_4 cR_5 cR_6 cR_7 cR_8 cR_9 cR_10 cE_b cE_f cE_0 cE_1 cE_2 cE_3 cE_4 cE_5 cE_6 cE_7 cE_8 cE_9 cE_10 cE_11 cE_12
   refine (PO1.out _).mono ?_; rintro e w3 ⟨b3, AG, cG, rfl, fG⟩
   have d3 : Below w2.heap.size w2 w3 := below_step gr0 b3
   have B3 := Lib.hid (below_step B2.out d3)
   have R3 := R2.keep d3
   have E3 := E2.keep d3
   clear R2 E2 b3 d3 B2
   have SG0 := Lib.hid fG.2; clear fG
   have tx := R3; obtain ⟨cR_b, cR_f, cR_0, cR_1, cR_2, cR_3, cR_4, cR_5, cR_6, cR_7, cR_8, cR_9, cR_10⟩ := tx
   have tx := E3; obtain ⟨cE_b, cE_f, cE_0, cE_1, cE_2, cE_3, cE_4, cE_5, cE_6, cE_7, cE_8, cE_9, cE_10, cE_11, cE_12⟩ := tx
   go_wp2_with fail
   clear cR_b cR_f cR_0 cR_1 cR_2 cR_3 cR_4 cR_5 cR_6 cR_7 cR_8 cR_9 cR_10 cE_b cE_f cE_0 cE_1 cE_2 cE_3 cE_4 cE_5 cE_6 cE_7 cE_8 cE_9 cE_10 cE_11 cE_12
   refine (PR1.out _ _ (SG0.out.on gr0) (HL.out _ (below_step B3.out gr0))).mono ?_; rintro e w4 ⟨rfl, b4⟩
   have d4 : Below w3.heap.size w3 w4 := below_step gr0 b4
   have B4 := Lib.hid (below_step B3.out d4)
   have SG_4 := Lib.hid (SG0.out.on d4)
   have R4 := R3.keep d4
   have E4 := E3.keep d4
   clear SG0 R3 E3 b4 d4 B3
   clear SG_4
   have tx := R4; obtain ⟨cR_b, cR_f, cR_0, cR_1, cR_2, cR_3, cR_4, cR_5, cR_6, cR_7, cR_8, cR_9, cR_10⟩ := tx
   have tx := E4; obtain ⟨cE_b, cE_f, cE_0, cE_1, cE_2, cE_3, cE_4, cE_5, cE_6, cE_7, cE_8, cE_9, cE_10, cE_11, cE_12⟩ := tx
   go_wp2_with fail
   clear cR_b cR_f cR_0 cR_1 cR_2 cR_3 cR_4 cR_5 cR_6 cR_7 cR_8 cR_9 cR_10 cE_b cE_f cE_0 cE_1 cE_2 cE_3 cE_4 cE_5 cE_6 cE_7 cE_8 cE_9 cE_10 cE_11 cE_12
   refine (PC1.out _).mono ?_; rintro e w5 ⟨rfl, b5⟩
   have d5 : Below w4.heap.size w4 w5 := below_step gr0 b5
   have B5 := Lib.hid (below_step B4.out d5)
   have R5 := R4.keep d5
   have E5 := E4.keep d5
   have aXR := B4.out.size
   have nXRR := Nat.ne_of_lt R4.hb
   have oXRR := Nat.ne_of_gt R4.hb
   have nXRE := Nat.ne_of_lt E4.hb
   have oXRE := Nat.ne_of_gt E4.hb
   have XR5 : Bk11 w5 (w4.heap.size) (.string s) (.int .i64 fy) (.int .i64 ty) (.int .i64 m) (.int .i64 k) (.int .i64 wk) (.int .i64 d) (.int .i64 sec) (.int .i64 base) (.int .i64 save) (.string t) := by refine Bk11.of b5 (by simp <;> omega) (by intro j; simp [go_sem]) ?_ ?_ ?_ ?_ ?_ ?_ ?_ ?_ ?_ ?_ ?_ <;> simp [go_sem]
   clear R4 E4 b5 d5 B4
   clear XR5 aXR
   have tx := R5; obtain ⟨cR_b, cR_f, cR_0, cR_1, cR_2, cR_3, cR_4, cR_5, cR_6, cR_7, cR_8, cR_9, cR_10⟩ := tx
   have tx := E5; obtain ⟨cE_b, cE_f, cE_0, cE_1, cE_2, cE_3, cE_4, cE_5, cE_6, cE_7, cE_8, cE_9, cE_10, cE_11, cE_12⟩ := tx
   go_wp2_with fail
   clear cR_b cR_f cR_0 cR_1 cR_2 cR_3 cR_4 cR_5 cR_6 cR_7 cR_8 cR_9 cR_10 cE_b cE_f cE_0 cE_1 cE_2 cE_3 cE_4 cE_5 cE_6 cE_7 cE_8 cE_9 cE_10 cE_11 cE_12
   refine (PF2.out _ (HL.out _ (below_step B5.out gr0))).mono ?_; rintro e w6 ⟨_, sU, rfl, b6⟩
   have SU_6 := Lib.hid sU; obtain ⟨AU, cU, rfl, -⟩ := sU
   have d6 : Below w5.heap.size w5 w6 := below_step gr0 b6
   have B6 := Lib.hid (below_step B5.out d6)
   have R6 := R5.keep d6
   have E6 := E5.keep d6
   clear R5 E5 b6 d6 B5
   clear SU_6
   have tx := R6; obtain ⟨cR_b, cR_f, cR_0, cR_1, cR_2, cR_3, cR_4, cR_5, cR_6, cR_7, cR_8, cR_9, cR_10⟩ := tx
   have tx := E6; obtain ⟨cE_b, cE_f, cE_0, cE_1, cE_2, cE_3, cE_4, cE_5, cE_6, cE_7, cE_8, cE_9, cE_10, cE_11, cE_12⟩ := tx
   go_wp2_with fail
   clear cR_b cR_f cR_0 cR_1 cR_2 cR_3 cR_4 cR_5 cR_6 cR_7 cR_8 cR_9 cR_10 cE_b cE_f cE_0 cE_1 cE_2 cE_3 cE_4 cE_5 cE_6 cE_7 cE_8 cE_9 cE_10 cE_11 cE_12
   go_ret
   exact ⟨rfl, (grB B6)⟩
  ·
   obtain ⟨T2, J2, bj2, PF2, PJ2, PO2, PR2, PC2⟩ := E1.out he
   have PF2 := Lib.hid PF2; have PJ2 := Lib.hid PJ2; have PO2 := Lib.hid PO2; have PR2 := Lib.hid PR2; have PC2 := Lib.hid PC2
   dsimp only [Er.E.v, Er.ev] at PF2 PR2
   clear he E0 E1
   go_enter Tryz.func3, Tryz.ntmps3
   go_wp2_with fail
   refine (NA.out _).mono ?_; rintro e v1 ⟨rfl, rfl⟩
   go_wp2_with fail
   refine (NB.out _).mono ?_; rintro e v2 ⟨rfl, rfl⟩
   go_wp2_with fail
   refine (PF1.out _ (HL.out _ gr0)).mono ?_; rintro e w1 ⟨_, sV, rfl, b1⟩
   have SV_1 := Lib.hid sV; obtain ⟨AV, cV, rfl, -⟩ := sV
   have d1 : Below w.heap.size w w1 := below_step gr0 b1
   have B1 := Lib.hid d1
   have R1 : Bk11 w1 (w.heap.size) (.string s) (.int .i64 fy) (.int .i64 ty) (.int .i64 m) (.int .i64 k) (.int .i64 wk) (.int .i64 d) (.int .i64 sec) (.int .i64 base) (.int .i64 save) (.string t) := by refine Bk11.of b1 (by simp <;> omega) (by intro j; simp [go_sem]) ?_ ?_ ?_ ?_ ?_ ?_ ?_ ?_ ?_ ?_ ?_ <;> simp [go_sem]
   have E1 : Bk13 w1 (w.heap.size + 1) (.int .i64 off) (.int .i64 kind) (.int .i64 sv) (.string rs) (.string fm) (.bool h) (.int .i64 yr) (.int .i64 em) (.int .i64 ek) (.int .i64 ewk) (.int .i64 ed) (.int .i64 esec) (.int .i64 ebase) := by refine Bk13.of b1 (by simp <;> omega) (by intro j; simp [go_sem]) ?_ ?_ ?_ ?_ ?_ ?_ ?_ ?_ ?_ ?_ ?_ ?_ ?_ <;> simp [go_sem]
   clear b1 d1
   have tx := R1; obtain ⟨cR_b, cR_f, cR_0, cR_1, cR_2, cR_3, cR_4, cR_5, cR_6, cR_7, cR_8, cR_9, cR_10⟩ := tx
   have tx := E1; obtain ⟨cE_b, cE_f, cE_0, cE_1, cE_2, cE_3, cE_4, cE_5, cE_6, cE_7, cE_8, cE_9, cE_10, cE_11, cE_12⟩ := tx
   go_wp2_with fail
   clear cR_b cR_f cR_0 cR_1 cR_2 cR_3 cR_4 cR_5 cR_6 cR_7 cR_8 cR_9 cR_10 cE_b cE_f cE_0 cE_1 cE_2 cE_3 cE_4 cE_5 cE_6 cE_7 cE_8 cE_9 cE_10 cE_11 cE_12
   refine (PJ1.out _ _ (SV_1.out.on gr0)).mono ?_; rintro e w2 ⟨rfl, b2⟩
   have d2 : Below w1.heap.size w1 w2 := below_step gr0 b2
   have B2 := Lib.hid (below_step B1.out d2)
   have SV_2 := Lib.hid (SV_1.out.on d2)
   have R2 := R1.keep d2
   have E2 := E1.keep d2
   clear SV_1 R1 E1 b2 d2 B1
   clear SV_2
   have tx := R2; obtain ⟨cR_b, cR_f, cR_0, cR_1, cR_2, cR_3, cR_4, cR_5, cR_6, cR_7, cR_8, cR_9, cR_10⟩ := tx
   have tx := E2; obtain ⟨cE_b, cE_f, cE_0, cE_1, cE_2, cE_3, cE_4, cE_5, cE_6, cE_7, cE_8, cE_9, cE_10, cE_11, cE_12⟩ := tx
   go_wp2_with fail
   clear cR_b cR_f cR_0 cR_1 cR_2 cR_3 cR_4 cR_5 cR_6 cR_7 cR_8 cR_9 cR_10 cE_b cE_f cE_0 cE_1 cE_2 cE_3 cE_4 cE_5 cE_6 cE_7 cE_8 cE_9 cE_10 cE_11 cE_12
   refine (PO1.out _).mono ?_; rintro e w3 ⟨b3, AG, cG, rfl, fG⟩
   have d3 : Below w2.heap.size w2 w3 := below_step gr0 b3
   have B3 := Lib.hid (below_step B2.out d3)
   have R3 := R2.keep d3
   have E3 := E2.keep d3
   clear R2 E2 b3 d3 B2
   have SG0 := Lib.hid fG.2; clear fG
   have tx := R3; obtain ⟨cR_b, cR_f, cR_0, cR_1, cR_2, cR_3, cR_4, cR_5, cR_6, cR_7, cR_8, cR_9, cR_10⟩ := tx
   have tx := E3; obtain ⟨cE_b, cE_f, cE_0, cE_1, cE_2, cE_3, cE_4, cE_5, cE_6, cE_7, cE_8, cE_9, cE_10, cE_11, cE_12⟩ := tx
   go_wp2_with fail
   clear cR_b cR_f cR_0 cR_1 cR_2 cR_3 cR_4 cR_5 cR_6 cR_7 cR_8 cR_9 cR_10 cE_b cE_f cE_0 cE_1 cE_2 cE_3 cE_4 cE_5 cE_6 cE_7 cE_8 cE_9 cE_10 cE_11 cE_12
   refine (PR1.out _ _ (SG0.out.on gr0) (HL.out _ (below_step B3.out gr0))).mono ?_; rintro e w4 ⟨rfl, b4⟩
   have d4 : Below w3.heap.size w3 w4 := below_step gr0 b4
   have B4 := Lib.hid (below_step B3.out d4)
   have SG_4 := Lib.hid (SG0.out.on d4)
   have R4 := R3.keep d4
   have E4 := E3.keep d4
   clear SG0 R3 E3 b4 d4 B3
   clear SG_4
   have tx := R4; obtain ⟨cR_b, cR_f, cR_0, cR_1, cR_2, cR_3, cR_4, cR_5, cR_6, cR_7, cR_8, cR_9, cR_10⟩ := tx
   have tx := E4; obtain ⟨cE_b, cE_f, cE_0, cE_1, cE_2, cE_3, cE_4, cE_5, cE_6, cE_7, cE_8, cE_9, cE_10, cE_11, cE_12⟩ := tx
   go_wp2_with fail
   clear cR_b cR_f cR_0 cR_1 cR_2 cR_3 cR_4 cR_5 cR_6 cR_7 cR_8 cR_9 cR_10 cE_b cE_f cE_0 cE_1 cE_2 cE_3 cE_4 cE_5 cE_6 cE_7 cE_8 cE_9 cE_10 cE_11 cE_12
   refine (PC1.out _).mono ?_; rintro e w5 ⟨rfl, b5⟩
   have d5 : Below w4.heap.size w4 w5 := below_step gr0 b5
   have B5 := Lib.hid (below_step B4.out d5)
   have R5 := R4.keep d5
   have E5 := E4.keep d5
   have aXR := B4.out.size
   have nXRR := Nat.ne_of_lt R4.hb
   have oXRR := Nat.ne_of_gt R4.hb
   have nXRE := Nat.ne_of_lt E4.hb
   have oXRE := Nat.ne_of_gt E4.hb
   have XR5 : Bk11 w5 (w4.heap.size) (.string s) (.int .i64 fy) (.int .i64 ty) (.int .i64 m) (.int .i64 k) (.int .i64 wk) (.int .i64 d) (.int .i64 sec) (.int .i64 base) (.int .i64 save) (.string t) := by refine Bk11.of b5 (by simp <;> omega) (by intro j; simp [go_sem]) ?_ ?_ ?_ ?_ ?_ ?_ ?_ ?_ ?_ ?_ ?_ <;> simp [go_sem]
   clear R4 E4 b5 d5 B4
   clear XR5 aXR
   have tx := R5; obtain ⟨cR_b, cR_f, cR_0, cR_1, cR_2, cR_3, cR_4, cR_5, cR_6, cR_7, cR_8, cR_9, cR_10⟩ := tx
   have tx := E5; obtain ⟨cE_b, cE_f, cE_0, cE_1, cE_2, cE_3, cE_4, cE_5, cE_6, cE_7, cE_8, cE_9, cE_10, cE_11, cE_12⟩ := tx
   go_wp2_with fail
   clear cR_b cR_f cR_0 cR_1 cR_2 cR_3 cR_4 cR_5 cR_6 cR_7 cR_8 cR_9 cR_10 cE_b cE_f cE_0 cE_1 cE_2 cE_3 cE_4 cE_5 cE_6 cE_7 cE_8 cE_9 cE_10 cE_11 cE_12
   refine (PF2.out _ (HL.out _ (below_step B5.out gr0))).mono ?_; rintro e w6 ⟨_, sU, rfl, b6⟩
   have SU_6 := Lib.hid sU; obtain ⟨AU, cU, rfl, -⟩ := sU
   have d6 : Below w5.heap.size w5 w6 := below_step gr0 b6
   have B6 := Lib.hid (below_step B5.out d6)
   have R6 := R5.keep d6
   have E6 := E5.keep d6
   clear R5 E5 b6 d6 B5
   have tx := R6; obtain ⟨cR_b, cR_f, cR_0, cR_1, cR_2, cR_3, cR_4, cR_5, cR_6, cR_7, cR_8, cR_9, cR_10⟩ := tx
   have tx := E6; obtain ⟨cE_b, cE_f, cE_0, cE_1, cE_2, cE_3, cE_4, cE_5, cE_6, cE_7, cE_8, cE_9, cE_10, cE_11, cE_12⟩ := tx
   go_wp2_with fail
   clear cR_b cR_f cR_0 cR_1 cR_2 cR_3 cR_4 cR_5 cR_6 cR_7 cR_8 cR_9 cR_10 cE_b cE_f cE_0 cE_1 cE_2 cE_3 cE_4 cE_5 cE_6 cE_7 cE_8 cE_9 cE_10 cE_11 cE_12
   refine (PJ2.out _ _ (SU_6.out.on gr0)).mono ?_; rintro e w7 ⟨rfl, b7⟩
   have d7 : Below w6.heap.size w6 w7 := below_step gr0 b7
   have B7 := Lib.hid (below_step B6.out d7)
   have SU_7 := Lib.hid (SU_6.out.on d7)
   have R7 := R6.keep d7
   have E7 := E6.keep d7
   clear SU_6 R6 E6 b7 d7 B6
   clear SU_7
   have tx := R7; obtain ⟨cR_b, cR_f, cR_0, cR_1, cR_2, cR_3, cR_4, cR_5, cR_6, cR_7, cR_8, cR_9, cR_10⟩ := tx
   have tx := E7; obtain ⟨cE_b, cE_f, cE_0, cE_1, cE_2, cE_3, cE_4, cE_5, cE_6, cE_7, cE_8, cE_9, cE_10, cE_11, cE_12⟩ := tx
   go_wp2_with fail
   clear cR_b cR_f cR_0 cR_1 cR_2 cR_3 cR_4 cR_5 cR_6 cR_7 cR_8 cR_9 cR_10 cE_b cE_f cE_0 cE_1 cE_2 cE_3 cE_4 cE_5 cE_6 cE_7 cE_8 cE_9 cE_10 cE_11 cE_12
   refine (PO2.out _).mono ?_; rintro e w8 ⟨b8, AH, cH, rfl, fH⟩
   have d8 : Below w7.heap.size w7 w8 := below_step gr0 b8
   have B8 := Lib.hid (below_step B7.out d8)
   have R8 := R7.keep d8
   have E8 := E7.keep d8
   clear R7 E7 b8 d8 B7
   have SH0 := Lib.hid fH.2; have HH := Lib.hid fH.1; clear fH
   have tx := R8; obtain ⟨cR_b, cR_f, cR_0, cR_1, cR_2, cR_3, cR_4, cR_5, cR_6, cR_7, cR_8, cR_9, cR_10⟩ := tx
   have tx := E8; obtain ⟨cE_b, cE_f, cE_0, cE_1, cE_2, cE_3, cE_4, cE_5, cE_6, cE_7, cE_8, cE_9, cE_10, cE_11, cE_12⟩ := tx
   go_wp2_with fail
   clear cR_b cR_f cR_0 cR_1 cR_2 cR_3 cR_4 cR_5 cR_6 cR_7 cR_8 cR_9 cR_10 cE_b cE_f cE_0 cE_1 cE_2 cE_3 cE_4 cE_5 cE_6 cE_7 cE_8 cE_9 cE_10 cE_11 cE_12
   refine (PR2.out _ _ _ HH.out (SH0.out.on gr0) (HL.out _ (below_step B8.out gr0))).mono ?_; rintro e w9 ⟨rfl, b9⟩
   have d9 : Below w8.heap.size w8 w9 := below_step gr0 b9
   have B9 := Lib.hid (below_step B8.out d9)
   have SH_9 := Lib.hid (SH0.out.on d9)
   have R9 := R8.keep d9
   have E9 := E8.keep d9
   clear SH0 R8 E8 b9 d9 B8
   clear SH_9
   have tx := R9; obtain ⟨cR_b, cR_f, cR_0, cR_1, cR_2, cR_3, cR_4, cR_5, cR_6, cR_7, cR_8, cR_9, cR_10⟩ := tx
   have tx := E9; obtain ⟨cE_b, cE_f, cE_0, cE_1, cE_2, cE_3, cE_4, cE_5, cE_6, cE_7, cE_8, cE_9, cE_10, cE_11, cE_12⟩ := tx
   go_wp2_with fail
   clear cR_b cR_f cR_0 cR_1 cR_2 cR_3 cR_4 cR_5 cR_6 cR_7 cR_8 cR_9 cR_10 cE_b cE_f cE_0 cE_1 cE_2 cE_3 cE_4 cE_5 cE_6 cE_7 cE_8 cE_9 cE_10 cE_11 cE_12
   refine (PC2.out _).mono ?_; rintro e w10 ⟨rfl, b10⟩
   have d10 : Below w9.heap.size w9 w10 := below_step gr0 b10
   have B10 := Lib.hid (below_step B9.out d10)
   have R10 := R9.keep d10
   have E10 := E9.keep d10
   have aXE := B9.out.size
   have nXER := Nat.ne_of_lt R9.hb
   have oXER := Nat.ne_of_gt R9.hb
   have nXEE := Nat.ne_of_lt E9.hb
   have oXEE := Nat.ne_of_gt E9.hb
   have XE10 : Bk13 w10 (w9.heap.size) (.int .i64 off) (.int .i64 kind) (.int .i64 sv) (.string rs) (.string fm) (.bool h) (.int .i64 yr) (.int .i64 em) (.int .i64 ek) (.int .i64 ewk) (.int .i64 ed) (.int .i64 esec) (.int .i64 ebase) := by refine Bk13.of b10 (by simp <;> omega) (by intro j; simp [go_sem]) ?_ ?_ ?_ ?_ ?_ ?_ ?_ ?_ ?_ ?_ ?_ ?_ ?_ <;> simp [go_sem]
   clear R9 E9 b10 d10 B9
   have tx := R10; obtain ⟨cR_b, cR_f, cR_0, cR_1, cR_2, cR_3, cR_4, cR_5, cR_6, cR_7, cR_8, cR_9, cR_10⟩ := tx
   have tx := E10; obtain ⟨cE_b, cE_f, cE_0, cE_1, cE_2, cE_3, cE_4, cE_5, cE_6, cE_7, cE_8, cE_9, cE_10, cE_11, cE_12⟩ := tx
   have tx := XE10; obtain ⟨cXE_b, cXE_f, cXE_0, cXE_1, cXE_2, cXE_3, cXE_4, cXE_5, cXE_6, cXE_7, cXE_8, cXE_9, cXE_10, cXE_11, cXE_12⟩ := tx
   go_wp2_with fail
   clear cR_b cR_f cR_0 cR_1 cR_2 cR_3 cR_4 cR_5 cR_6 cR_7 cR_8 cR_9 cR_10 cE_b cE_f cE_0 cE_1 cE_2 cE_3 cE_4 cE_5 cE_6 cE_7 cE_8 cE_9 cE_10 cE_11 cE_12 cXE_b cXE_f cXE_0 cXE_1 cXE_2 cXE_3 cXE_4 cXE_5 cXE_6 cXE_7 cXE_8 cXE_9 cXE_10 cXE_11 cXE_12
   go_ret
   exact ⟨rfl, (grB B10)⟩
end Go.Proofs.YtjggjkeopbcmoaaGreatDoor
set_option linter.unusedVariables false
set_option linter.unusedSimpArgs false
namespace Go.Proofs.YtjggjkeopbcmoaaGreatDoor
open Go Go.ChangeShapes Go.WideShapes Go.Joins Go.Deep
theorem array11 {α : Type} {cs : Array α} (h : cs.size = 11) : ∃ c0 c1 c2 c3 c4 c5 c6 c7 c8 c9 c10, cs = #[c0, c1, c2, c3, c4, c5, c6, c7, c8, c9, c10] := by
 obtain ⟨l⟩ := cs
 match l, h with
 | [a, b, c, d, e, f, g, h, i, j, k], _ => exact ⟨a, b, c, d, e, f, g, h, i, j, k, rfl⟩
theorem cellsRule : Tryz.prog.cellsOf 27 = 11 := by kernel_rfl
theorem cellsOnR : Tryz.prog.cellsOf 23 = 3 := by kernel_rfl
theorem cellsAtR : Tryz.prog.cellsOf 25 = 2 := by kernel_rfl
theorem cellsIntR : Tryz.prog.cellsOf 3 = 1 := by kernel_rfl
theorem cellsI64R : Tryz.prog.cellsOf 2 = 1 := by kernel_rfl
theorem cellsStrR : Tryz.prog.cellsOf 9 = 1 := by kernel_rfl
section
variable {H : Type} {enc : TypeId × Value → H} {P : Program} {w : World} {base : Nat} {spare : Nat → Bool} {held : Bool}
theorem trod_struct8 {t : TypeId} {f0 f1 f2 f3 f4 f5 f6 f7 : Field} {fuel : Nat} {cs : List Value} {x : DataW H × List MemPlace} (ht : P.underlying t = some (.struct #[f0, f1, f2, f3, f4, f5, f6, f7])) (h : DataW.trod enc P w base spare held fuel t cs = some x) :
  ∃ y0 y1 y2 y3 y4 y5 y6 y7 n, DataW.trod enc P w base spare held n f0.type ((cs.drop f0.offset).take (P.cellsOf f0.type)) = some y0 ∧ DataW.trod enc P w base spare held n f1.type ((cs.drop f1.offset).take (P.cellsOf f1.type)) = some y1 ∧
   DataW.trod enc P w base spare held n f2.type ((cs.drop f2.offset).take (P.cellsOf f2.type)) = some y2 ∧ DataW.trod enc P w base spare held n f3.type ((cs.drop f3.offset).take (P.cellsOf f3.type)) = some y3 ∧
   DataW.trod enc P w base spare held n f4.type ((cs.drop f4.offset).take (P.cellsOf f4.type)) = some y4 ∧ DataW.trod enc P w base spare held n f5.type ((cs.drop f5.offset).take (P.cellsOf f5.type)) = some y5 ∧
   DataW.trod enc P w base spare held n f6.type ((cs.drop f6.offset).take (P.cellsOf f6.type)) = some y6 ∧ DataW.trod enc P w base spare held n f7.type ((cs.drop f7.offset).take (P.cellsOf f7.type)) = some y7 := by
 obtain ⟨xs, n, _, rfl, hl, hlen, hf⟩ := DataW.trod_struct ht h
 match xs, hlen with
 | [y0, y1, y2, y3, y4, y5, y6, y7], _ => exact ⟨y0, y1, y2, y3, y4, y5, y6, y7, n, by simpa using hf 0 f0 rfl, by simpa using hf 1 f1 rfl, by simpa using hf 2 f2 rfl, by simpa using hf 3 f3 rfl, by simpa using hf 4 f4 rfl, by simpa using hf 5 f5 rfl, by simpa using hf 6 f6 rfl, by simpa using hf 7 f7 rfl⟩
end
section
variable {H : Type} {enc : TypeId × Value → H} {w : World} {base : Nat} {sp : Nat → Bool} {held : Bool}
set_option maxRecDepth 100000 in
theorem open_rule {r : Reach} {b0 : Nat} {v : Value} {d : DataW H} {p : List MemPlace} (hv : Value.okWide Tryz.prog w r b0 27 v) (h : DataW.Trod enc Tryz.prog w base sp held 27 v d p) :
  ∃ (s : ByteArray) (fy ty m k wk d sec base save : Int) (t : ByteArray), v = .agg #[.string s, .int .i64 fy, .int .i64 ty, .int .i64 m, .int .i64 k, .int .i64 wk, .int .i64 d, .int .i64 sec, .int .i64 base, .int .i64 save, .string t] ∧ s.size ≤ maxLen ∧ t.size ≤ maxLen := by
 obtain ⟨cs, rfl, hsz⟩ := okWide_struct Tryz.underlying27 hv
 rw [cellsRule] at hsz
 obtain ⟨c0, c1, c2, c3, c4, c5, c6, c7, c8, c9, c10, rfl⟩ := array11 hsz
 obtain ⟨fuel, hf⟩ := h
 obtain ⟨y0, y1, y2, y3, y4, y5, y6, y7, n, g0, g1, g2, g3, g4, g5, g6, g7⟩ := trod_struct8 Tryz.underlying27 hf
 have g0' : DataW.trod enc Tryz.prog w base sp held n 9 [c0] = some y0 := by simpa [Value.cells, cellsStrR] using g0
 have g1' : DataW.trod enc Tryz.prog w base sp held n 3 [c1] = some y1 := by simpa [Value.cells, cellsIntR] using g1
 have g2' : DataW.trod enc Tryz.prog w base sp held n 3 [c2] = some y2 := by simpa [Value.cells, cellsIntR] using g2
 have g3' : DataW.trod enc Tryz.prog w base sp held n 3 [c3] = some y3 := by simpa [Value.cells, cellsIntR] using g3
 have g4' : DataW.trod enc Tryz.prog w base sp held n 23 [c4, c5, c6] = some y4 := by simpa [Value.cells, cellsOnR] using g4
 have g5' : DataW.trod enc Tryz.prog w base sp held n 25 [c7, c8] = some y5 := by simpa [Value.cells, cellsAtR] using g5
 have g6' : DataW.trod enc Tryz.prog w base sp held n 2 [c9] = some y6 := by simpa [Value.cells, cellsI64R] using g6
 have g7' : DataW.trod enc Tryz.prog w base sp held n 9 [c10] = some y7 := by simpa [Value.cells, cellsStrR] using g7
 obtain ⟨x0, x1, x2, n1, _, _, k0, k1, k2⟩ := trod_struct3 Tryz.underlying23 g4'
 have k0' : DataW.trod enc Tryz.prog w base sp held n1 3 [c4] = some x0 := by simpa [cellsIntR] using k0
 have k1' : DataW.trod enc Tryz.prog w base sp held n1 3 [c5] = some x1 := by simpa [cellsIntR] using k1
 have k2' : DataW.trod enc Tryz.prog w base sp held n1 3 [c6] = some x2 := by simpa [cellsIntR] using k2
 obtain ⟨z0, z1, n2, _, _, m0, m1⟩ := trod_struct2 Tryz.underlying25 g5'
 have m0' : DataW.trod enc Tryz.prog w base sp held n2 2 [c7] = some z0 := by simpa [cellsI64R] using m0
 have m1' : DataW.trod enc Tryz.prog w base sp held n2 3 [c8] = some z1 := by simpa [cellsIntR] using m1
 obtain ⟨s, e0, -, q0⟩ := DataW.trod_string Tryz.underlying9 g0'
 obtain ⟨fy, e1, _, _⟩ := DataW.trod_int Tryz.underlying3 g1'
 obtain ⟨ty, e2, _, _⟩ := DataW.trod_int Tryz.underlying3 g2'
 obtain ⟨m, e3, _, _⟩ := DataW.trod_int Tryz.underlying3 g3'
 obtain ⟨k, e4, _, _⟩ := DataW.trod_int Tryz.underlying3 k0'
 obtain ⟨wk, e5, _, _⟩ := DataW.trod_int Tryz.underlying3 k1'
 obtain ⟨dd, e6, _, _⟩ := DataW.trod_int Tryz.underlying3 k2'
 obtain ⟨sec, e7, _, _⟩ := DataW.trod_int Tryz.underlying2 m0'
 obtain ⟨bb, e8, _, _⟩ := DataW.trod_int Tryz.underlying3 m1'
 obtain ⟨save, e9, _, _⟩ := DataW.trod_int Tryz.underlying2 g6'
 obtain ⟨t, e10, -, q10⟩ := DataW.trod_string Tryz.underlying9 g7'
 simp at e0 e1 e2 e3 e4 e5 e6 e7 e8 e9 e10
 subst e0 e1 e2 e3 e4 e5 e6 e7 e8 e9 e10
 exact ⟨s, fy, ty, m, k, wk, dd, sec, bb, save, t, rfl, q0, q10⟩
end
end Go.Proofs.YtjggjkeopbcmoaaGreatDoor
