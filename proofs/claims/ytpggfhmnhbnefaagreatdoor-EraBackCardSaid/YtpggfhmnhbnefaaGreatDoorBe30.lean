/- Joined: ErV. -/
import Derived.Test.YtpggfhmnhbnefaaGreatDoorBe01
import Derived.Test.YtpggfhmnhbnefaaGreatDoorBe26
import Derived.Test.YtpggfhmnhbnefaaGreatDoorBe29
set_option linter.unusedVariables false
set_option linter.unusedSimpArgs false
namespace Go.Proofs.YtpggfhmnhbnefaaGreatDoor
open Go.RowKit Go.Sort
theorem fieldsE_yes (e : Er.E) (h : e.ok = true) (hs : e.rs.size ≤ 500) (ht : e.fm.size ≤ 500) (y0 : -9223372036854775808 ≤ e.u.y) (y1 : e.u.y ≤ 9223372036854775807) (tp : TypeId) (pp : Value) (y : Int) :
  ∃ M : Nat, M = e.ts.length ∧ decide (3 < M) = e.u.h ∧ M ≤ 7 ∧ (∀ W, Ru.Lv W tp pp y → Calls Tryz.prog 20 #[e.v] W fun E w' => Below W.heap.size W w' ∧ ∃ A c, E = .returned (.tuple #[.slice A M c, .int .i64 0]) ∧ (M ≤ c ∧ StS w' (.slice A M c) e.ts)) ∧
   (∀ A c W, M ≤ c → StS W (.slice A M c) e.ts → Ru.Lv W tp pp y → Calls Tryz.prog 18 #[.slice A M c] W fun E w' => E = .returned (.tuple #[e.v, .int .i64 0]) ∧ Below W.heap.size W w') := by
 obtain ⟨b1, b2, b3, b4⟩ := Er.back h hs ht
 refine ⟨e.ts.length, rfl, b4, b3, fun W L => ?_, fun A c W hc S L => ?_⟩
 ·
  refine (erfields_any e.off e.kind e.save e.rs e.fm e.u.h e.u.y e.u.m e.u.k e.u.wk e.u.d e.u.sec e.u.base W (by omega) (by omega) y0 y1 tp pp y L).mono fun E w' a => ?_
  have hf : Er.fl ⟨e.off, e.kind, e.save, e.rs, e.fm, ⟨e.u.h, e.u.y, e.u.m, e.u.k, e.u.wk, e.u.d, e.u.sec, e.u.base⟩⟩ = (e.ts.map (·.data.toList), 0) := Er.fl_yes (e := e) h
  rw [hf] at a
  obtain ⟨A, n, c, l, hnc, S, hl, he, hb⟩ := a
  have hl' : l = e.ts := fd_bytes hl
  subst hl'
  have hn : n = e.ts.length := S.len
  subst hn
  exact ⟨hb, A, c, he, hnc, S⟩
 ·
  have := erRead_any A e.ts.length c e.ts W S hc (by omega) b2 tp pp y L
  rw [b1] at this
  exact this
theorem fieldsE_no (e : Er.E) (h : e.ok = false) (hs : e.rs.size ≤ 500) (ht : e.fm.size ≤ 500) (y0 : -9223372036854775808 ≤ e.u.y) (y1 : e.u.y ≤ 9223372036854775807) (tp : TypeId) (pp : Value) (y : Int) (W : World) (L : Ru.Lv W tp pp y) :
  Calls Tryz.prog 20 #[e.v] W fun E w' => ∃ v, StS w' v [] ∧ E = .returned (.tuple #[v, .int .i64 4]) ∧ Below W.heap.size W w' := by
 refine (erfields_any e.off e.kind e.save e.rs e.fm e.u.h e.u.y e.u.m e.u.k e.u.wk e.u.d e.u.sec e.u.base W (by omega) (by omega) y0 y1 tp pp y L).mono fun E w' a => ?_
 have hf : Er.fl ⟨e.off, e.kind, e.save, e.rs, e.fm, ⟨e.u.h, e.u.y, e.u.m, e.u.k, e.u.wk, e.u.d, e.u.sec, e.u.base⟩⟩ = ([], 4) := Er.fl_no (e := e) h
 rw [hf] at a
 obtain ⟨A, n, c, l, hnc, S, hl, he, hb⟩ := a
 have hl' : l = [] := by cases l with | nil => rfl | cons _ _ => exact absurd hl (by simp)
 subst hl'
 exact ⟨_, S, he, hb⟩
set_option maxHeartbeats 8000000 in
set_option maxRecDepth 100000 in
theorem erback_walk (A : Option Addr) (N c : Nat) (l : List ByteArray) (off kind save : Int) (rs fm : ByteArray) (h : Bool) (yr m k wk d sec base : Int) (w : World) (tp : TypeId) (pp : Value) (y : Int) (L : Ru.Lv w tp pp y) (S : StS w (.slice A N c) l) (hnc : N ≤ c) (hz : ∀ y ∈ l, y.size ≤ maxLen) (hs : rs.size ≤ maxLen) (ht : fm.size ≤ maxLen) (y0 : -9223372036854775808 ≤ yr) (y1 : yr ≤ 9223372036854775807) :
  Calls Tryz.prog 6 #[.slice A N c, .agg #[.int .i64 off, .int .i64 kind, .int .i64 save, .string rs, .string fm, .bool h, .int .i64 yr, .int .i64 m, .int .i64 k, .int .i64 wk, .int .i64 d, .int .i64 sec, .int .i64 base]] w fun e w' => e = .returned (.bool true) ∧ Below w.heap.size w w' := by
 have LV := Lib.hid (fun W (h : Ru.Lv W tp pp y) => lives22 W tp pp y h)
 have HL := Lib.hid (fun W (b : Below w.heap.size w W) => L.on b)
 have HN : Hid (N = l.length) := Lib.hid S.len
 have HS := Lib.hid S
 have HZ := Lib.hid hz
 have HC := Lib.hid hnc
 clear L hz S hnc
 have bs : rs.size ≤ 9223372036854775807 := by unfold maxLen at hs; omega
 have bt : fm.size ≤ 9223372036854775807 := by unfold maxLen at ht; omega
 have HY := Lib.hid (And.intro y0 y1)
 clear hs ht y0 y1
 by_cases h1 : 40 < (N : Int)
 ·
  clear bs bt
  go_enter Tryz.func6, Tryz.ntmps6
  go_wp2_with fail
  refine (LV.out _ (HL.out _ gr0)).mono ?_; rintro e w1 ⟨rfl, b1⟩
  have d1 : Below w.heap.size w w1 := below_step gr0 b1
  have B1 := Lib.hid d1
  have X1 : Bk13 w1 (w.heap.size) (.int .i64 off) (.int .i64 kind) (.int .i64 save) (.string rs) (.string fm) (.bool h) (.int .i64 yr) (.int .i64 m) (.int .i64 k) (.int .i64 wk) (.int .i64 d) (.int .i64 sec) (.int .i64 base) := by refine Bk13.of b1 (by simp <;> omega) (by intro j; simp [go_sem]) ?_ ?_ ?_ ?_ ?_ ?_ ?_ ?_ ?_ ?_ ?_ ?_ ?_ <;> simp [go_sem]
  clear b1 d1
  have tx := X1; obtain ⟨cX_b, cX_f, cX_0, cX_1, cX_2, cX_3, cX_4, cX_5, cX_6, cX_7, cX_8, cX_9, cX_10, cX_11, cX_12⟩ := tx
  go_wp2_with fail
  clear cX_b cX_f cX_0 cX_1 cX_2 cX_3 cX_4 cX_5 cX_6 cX_7 cX_8 cX_9 cX_10 cX_11 cX_12
  go_ret
  exact ⟨rfl, (grB B1)⟩
 by_cases h3 : 500 < (rs.size : Int)
 ·
  clear bt
  go_enter Tryz.func6, Tryz.ntmps6
  go_wp2_with fail
  refine (LV.out _ (HL.out _ gr0)).mono ?_; rintro e w1 ⟨rfl, b1⟩
  have d1 : Below w.heap.size w w1 := below_step gr0 b1
  have B1 := Lib.hid d1
  have X1 : Bk13 w1 (w.heap.size) (.int .i64 off) (.int .i64 kind) (.int .i64 save) (.string rs) (.string fm) (.bool h) (.int .i64 yr) (.int .i64 m) (.int .i64 k) (.int .i64 wk) (.int .i64 d) (.int .i64 sec) (.int .i64 base) := by refine Bk13.of b1 (by simp <;> omega) (by intro j; simp [go_sem]) ?_ ?_ ?_ ?_ ?_ ?_ ?_ ?_ ?_ ?_ ?_ ?_ ?_ <;> simp [go_sem]
  clear b1 d1
  have tx := X1; obtain ⟨cX_b, cX_f, cX_0, cX_1, cX_2, cX_3, cX_4, cX_5, cX_6, cX_7, cX_8, cX_9, cX_10, cX_11, cX_12⟩ := tx
  go_wp2_with fail
  clear cX_b cX_f cX_0 cX_1 cX_2 cX_3 cX_4 cX_5 cX_6 cX_7 cX_8 cX_9 cX_10 cX_11 cX_12
  go_ret
  exact ⟨rfl, (grB B1)⟩
 by_cases h4 : 500 < (fm.size : Int)
 ·
  skip
  go_enter Tryz.func6, Tryz.ntmps6
  go_wp2_with fail
  refine (LV.out _ (HL.out _ gr0)).mono ?_; rintro e w1 ⟨rfl, b1⟩
  have d1 : Below w.heap.size w w1 := below_step gr0 b1
  have B1 := Lib.hid d1
  have X1 : Bk13 w1 (w.heap.size) (.int .i64 off) (.int .i64 kind) (.int .i64 save) (.string rs) (.string fm) (.bool h) (.int .i64 yr) (.int .i64 m) (.int .i64 k) (.int .i64 wk) (.int .i64 d) (.int .i64 sec) (.int .i64 base) := by refine Bk13.of b1 (by simp <;> omega) (by intro j; simp [go_sem]) ?_ ?_ ?_ ?_ ?_ ?_ ?_ ?_ ?_ ?_ ?_ ?_ ?_ <;> simp [go_sem]
  clear b1 d1
  have tx := X1; obtain ⟨cX_b, cX_f, cX_0, cX_1, cX_2, cX_3, cX_4, cX_5, cX_6, cX_7, cX_8, cX_9, cX_10, cX_11, cX_12⟩ := tx
  go_wp2_with fail
  clear cX_b cX_f cX_0 cX_1 cX_2 cX_3 cX_4 cX_5 cX_6 cX_7 cX_8 cX_9 cX_10 cX_11 cX_12
  go_ret
  exact ⟨rfl, (grB B1)⟩
 have c1 : N ≤ 40 := by omega
 have c3 : rs.size ≤ 500 := by omega
 have c4 : fm.size ≤ 500 := by omega
 have RB := Lib.hid (fun W (g : Ru.Lv W tp pp y) => erright_any off kind save rs fm h yr m k wk d sec base W y (by omega) (by omega) HY.out.1 HY.out.2 g.mx)
 have FY := Lib.hid (fun h0 => fieldsE_yes (⟨off, kind, save, rs, fm, ⟨h, yr, m, k, wk, d, sec, base⟩⟩ : Er.E) h0 c3 c4 HY.out.1 HY.out.2 tp pp y)
 have FNO := Lib.hid (fun h0 => fieldsE_no (⟨off, kind, save, rs, fm, ⟨h, yr, m, k, wk, d, sec, base⟩⟩ : Er.E) h0 c3 c4 HY.out.1 HY.out.2 tp pp y)
 go_enter Tryz.func6, Tryz.ntmps6
 go_wp2_with fail
 refine (LV.out _ (HL.out _ gr0)).mono ?_; rintro e w1 ⟨rfl, b1⟩
 have d1 : Below w.heap.size w w1 := below_step gr0 b1
 have B1 := Lib.hid d1
 have X1 : Bk13 w1 (w.heap.size) (.int .i64 off) (.int .i64 kind) (.int .i64 save) (.string rs) (.string fm) (.bool h) (.int .i64 yr) (.int .i64 m) (.int .i64 k) (.int .i64 wk) (.int .i64 d) (.int .i64 sec) (.int .i64 base) := by refine Bk13.of b1 (by simp <;> omega) (by intro j; simp [go_sem]) ?_ ?_ ?_ ?_ ?_ ?_ ?_ ?_ ?_ ?_ ?_ ?_ ?_ <;> simp [go_sem]
 clear b1 d1
 have tx := X1; obtain ⟨cX_b, cX_f, cX_0, cX_1, cX_2, cX_3, cX_4, cX_5, cX_6, cX_7, cX_8, cX_9, cX_10, cX_11, cX_12⟩ := tx
 go_wp2_with fail
 clear cX_b cX_f cX_0 cX_1 cX_2 cX_3 cX_4 cX_5 cX_6 cX_7 cX_8 cX_9 cX_10 cX_11 cX_12
 clear bs bt h1 h3 h4 c3 c4
 go_loopw [36] (fun i wr => ∃ j : Nat, j ≤ N ∧ i = .int .i64 j ∧ Hid (∀ y ∈ l.take j, y.size ≤ 300) ∧ wr = w1) (fun i _ => N - (intOf i).toNat)
 case atStart => exact ⟨0, Nat.zero_le _, rfl, Lib.hid (fun y hy => by simp at hy), rfl⟩
 case round =>
  obtain ⟨j, hj, rfl, hsm, hw⟩ := hrel
  obtain rfl : w1 = wr := hw.symm
  by_cases hlt : j < N
  ·
   have hjl : j < l.length := by have := HN.out; omega
   obtain ⟨a, ha, g⟩ := (HS.out.on B1.out).get j hjl
   have hxz : l[j].size ≤ 9223372036854775807 := by have := HZ.out l[j] (List.getElem_mem hjl); unfold maxLen at this; omega
   have hsm2 : l[j].size ≤ 300 → Hid (∀ y ∈ l.take (j + 1), y.size ≤ 300) := fun h => Lib.hid (fun y hy => by
    rw [List.take_succ_eq_append_getElem hjl] at hy
    rcases List.mem_append.1 hy with hy | hy
    ·
     exact hsm.out y hy
    ·
     rw [List.mem_singleton.1 hy]; exact h)
   generalize l[j] = x at g hxz hsm2
   subst ha
   by_cases hx : 300 < (x.size : Int)
   ·
    clear hsm2
    go_wp2_with fail
    go_ret
    exact ⟨rfl, B1.out⟩
   ·
    have HX := hsm2 (by omega)
    clear hsm2
    go_wp2_with fail
    go_roundw
    case rel => exact ⟨j + 1, by omega, by go_num, HX, by first | rfl | trivial⟩
    case measure => simp [intOf]; omega
  ·
   have hall0 : ∀ y ∈ l, y.size ≤ 300 := fun y hy => hsm.out y (by rw [List.take_of_length_le (by have := HN.out; omega)]; exact hy)
   have hall : ∀ y ∈ l, y.size ≤ 600 := fun y hy => Nat.le_trans (hall0 y hy) (by decide)
   have PR := Lib.hid (fun W S h => erRead_any A N c l W S HC.out (by have := HN.out; omega) hall tp pp y h)
   have hno := Er.rd_no l
   have hyes := fun g => @Er.right l g hall0
   rw [← HN.out] at hyes
   generalize Er.rd l = rr at PR hno hyes
   obtain ⟨⟨z0, z1, z2, z3, z4, ⟨z5, z6, z7, z8, z9, z10, z11, z12⟩⟩, qr⟩ := rr
   dsimp only [Er.E.v, Er.ev] at PR hno hyes
   clear hall hsm hall0
   cases hrb : Er.ok off kind save rs fm h yr m k wk d sec base
   ·
    have PF := Lib.hid (FNO.out hrb)
    dsimp only [Er.E.v, Er.ev] at PF
    rw [hrb] at RB
    clear hrb FY FNO
    by_cases hq : qr = 0
    ·
     obtain ⟨k1, k2, k3, k4, k5, k6⟩ := hyes hq
     obtain ⟨M2, hM2, -, hM7, PG, PZ⟩ := fieldsE_yes (⟨z0, z1, z2, z3, z4, ⟨z5, z6, z7, z8, z9, z10, z11, z12⟩⟩ : Er.E) k1 (by show z3.size ≤ 500; omega) (by show z4.size ≤ 500; omega) (by show -9223372036854775808 ≤ z6; omega) (by show z6 ≤ 9223372036854775807; omega) tp pp y
     have RY := Lib.hid (fun W (g : Ru.Lv W tp pp y) => erright_any z0 z1 z2 z3 z4 z5 z6 z7 z8 z9 z10 z11 z12 W y (by omega) (by omega) (by omega) (by omega) g.mx)
     rw [show Er.ok z0 z1 z2 z3 z4 z5 z6 z7 z8 z9 z10 z11 z12 = true from k1] at RY
     have gMN : (M2 : Int) ≤ (N : Int) := by rw [hM2]; omega
     have PG := Lib.hid PG; have PZ := Lib.hid PZ
     dsimp only [Er.E.v, Er.ev] at PG PZ
     clear hno hyes k1 k2 k3 k4 k5 k6
     generalize (⟨z0, z1, z2, z3, z4, ⟨z5, z6, z7, z8, z9, z10, z11, z12⟩⟩ : Er.E).ts = T2 at *
     clear hM2
     subst hq
     have tx := X1; obtain ⟨cX_b, cX_f, cX_0, cX_1, cX_2, cX_3, cX_4, cX_5, cX_6, cX_7, cX_8, cX_9, cX_10, cX_11, cX_12⟩ := tx
     go_wp2_with fail
     clear cX_b cX_f cX_0 cX_1 cX_2 cX_3 cX_4 cX_5 cX_6 cX_7 cX_8 cX_9 cX_10 cX_11 cX_12
     refine (PF.out _ (HL.out _ (below_step B1.out gr0))).mono ?_; rintro e w2 ⟨_, sV, rfl, b2⟩
     have SV_2 := Lib.hid sV; obtain ⟨AV, cV, rfl, -⟩ := sV
     have d2 : Below w1.heap.size w1 w2 := below_step gr0 b2
     have B2 := Lib.hid (below_step B1.out d2)
     have X2 := X1.keep d2
     clear X1 b2 d2 B1
     clear SV_2
     have tx := X2; obtain ⟨cX_b, cX_f, cX_0, cX_1, cX_2, cX_3, cX_4, cX_5, cX_6, cX_7, cX_8, cX_9, cX_10, cX_11, cX_12⟩ := tx
     go_wp2_with fail
     clear cX_b cX_f cX_0 cX_1 cX_2 cX_3 cX_4 cX_5 cX_6 cX_7 cX_8 cX_9 cX_10 cX_11 cX_12
     refine (RB.out _ (HL.out _ (below_step B2.out gr0))).mono ?_; rintro e w3 ⟨rfl, b3⟩
     have d3 : Below w2.heap.size w2 w3 := below_step gr0 b3
     have B3 := Lib.hid (below_step B2.out d3)
     have X3 := X2.keep d3
     clear X2 b3 d3 B2
     have tx := X3; obtain ⟨cX_b, cX_f, cX_0, cX_1, cX_2, cX_3, cX_4, cX_5, cX_6, cX_7, cX_8, cX_9, cX_10, cX_11, cX_12⟩ := tx
     go_wp2_with fail
     clear cX_b cX_f cX_0 cX_1 cX_2 cX_3 cX_4 cX_5 cX_6 cX_7 cX_8 cX_9 cX_10 cX_11 cX_12
     refine (PR.out _ (HS.out.on (below_step B3.out gr0)) (HL.out _ (below_step B3.out gr0))).mono ?_; rintro e w4 ⟨rfl, b4⟩
     have d4 : Below w3.heap.size w3 w4 := below_step gr0 b4
     have B4 := Lib.hid (below_step B3.out d4)
     have X4 := X3.keep d4
     clear X3 b4 d4 B3
     have tx := X4; obtain ⟨cX_b, cX_f, cX_0, cX_1, cX_2, cX_3, cX_4, cX_5, cX_6, cX_7, cX_8, cX_9, cX_10, cX_11, cX_12⟩ := tx
     go_wp2_with fail
     clear cX_b cX_f cX_0 cX_1 cX_2 cX_3 cX_4 cX_5 cX_6 cX_7 cX_8 cX_9 cX_10 cX_11 cX_12
     refine (PG.out _ (HL.out _ (below_step B4.out gr0))).mono ?_; rintro e w5 ⟨b5, AG, cG, rfl, fG⟩
     have d5 : Below w4.heap.size w4 w5 := below_step gr0 b5
     have B5 := Lib.hid (below_step B4.out d5)
     have X5 := X4.keep d5
     have aY := B4.out.size
     have Y5 : Bk13 w5 (w4.heap.size) (.int .i64 z0) (.int .i64 z1) (.int .i64 z2) (.string z3) (.string z4) (.bool z5) (.int .i64 z6) (.int .i64 z7) (.int .i64 z8) (.int .i64 z9) (.int .i64 z10) (.int .i64 z11) (.int .i64 z12) := by refine Bk13.of b5 (by simp <;> omega) (by intro j; simp [go_sem]) ?_ ?_ ?_ ?_ ?_ ?_ ?_ ?_ ?_ ?_ ?_ ?_ ?_ <;> simp [go_sem]
     clear X4 b5 d5 B4
     have SG0 := Lib.hid fG.2; have HG := Lib.hid fG.1; clear fG
     have tx := X5; obtain ⟨cX_b, cX_f, cX_0, cX_1, cX_2, cX_3, cX_4, cX_5, cX_6, cX_7, cX_8, cX_9, cX_10, cX_11, cX_12⟩ := tx
     have tx := Y5; obtain ⟨cY_b, cY_f, cY_0, cY_1, cY_2, cY_3, cY_4, cY_5, cY_6, cY_7, cY_8, cY_9, cY_10, cY_11, cY_12⟩ := tx
     go_wp2_with fail
     clear cX_b cX_f cX_0 cX_1 cX_2 cX_3 cX_4 cX_5 cX_6 cX_7 cX_8 cX_9 cX_10 cX_11 cX_12 cY_b cY_f cY_0 cY_1 cY_2 cY_3 cY_4 cY_5 cY_6 cY_7 cY_8 cY_9 cY_10 cY_11 cY_12
     refine (PZ.out _ _ _ HG.out (SG0.out.on gr0) (HL.out _ (below_step B5.out gr0))).mono ?_; rintro e w6 ⟨rfl, b6⟩
     have d6 : Below w5.heap.size w5 w6 := below_step gr0 b6
     have B6 := Lib.hid (below_step B5.out d6)
     have SG_6 := Lib.hid (SG0.out.on d6)
     have X6 := X5.keep d6
     have Y6 := Y5.keep d6
     clear SG0 X5 Y5 b6 d6 B5
     have tx := X6; obtain ⟨cX_b, cX_f, cX_0, cX_1, cX_2, cX_3, cX_4, cX_5, cX_6, cX_7, cX_8, cX_9, cX_10, cX_11, cX_12⟩ := tx
     have tx := Y6; obtain ⟨cY_b, cY_f, cY_0, cY_1, cY_2, cY_3, cY_4, cY_5, cY_6, cY_7, cY_8, cY_9, cY_10, cY_11, cY_12⟩ := tx
     go_wp2_with fail
     clear cX_b cX_f cX_0 cX_1 cX_2 cX_3 cX_4 cX_5 cX_6 cX_7 cX_8 cX_9 cX_10 cX_11 cX_12 cY_b cY_f cY_0 cY_1 cY_2 cY_3 cY_4 cY_5 cY_6 cY_7 cY_8 cY_9 cY_10 cY_11 cY_12
     refine (RY.out _ (HL.out _ (below_step B6.out gr0))).mono ?_; rintro e w7 ⟨rfl, b7⟩
     have d7 : Below w6.heap.size w6 w7 := below_step gr0 b7
     have B7 := Lib.hid (below_step B6.out d7)
     have SG_7 := Lib.hid (SG_6.out.on d7)
     have X7 := X6.keep d7
     have Y7 := Y6.keep d7
     have aZZ := B6.out.size
     have nZZY := Nat.ne_of_lt Y6.hb
     have oZZY := Nat.ne_of_gt Y6.hb
     have ZZ7 : Bk13 w7 (w6.heap.size) (.int .i64 z0) (.int .i64 z1) (.int .i64 z2) (.string z3) (.string z4) (.bool z5) (.int .i64 z6) (.int .i64 z7) (.int .i64 z8) (.int .i64 z9) (.int .i64 z10) (.int .i64 z11) (.int .i64 z12) := by refine Bk13.of b7 (by simp <;> omega) (by intro j; simp [go_sem]) ?_ ?_ ?_ ?_ ?_ ?_ ?_ ?_ ?_ ?_ ?_ ?_ ?_ <;> simp [go_sem]
     clear SG_6 X6 Y6 b7 d7 B6
     have tx := X7; obtain ⟨cX_b, cX_f, cX_0, cX_1, cX_2, cX_3, cX_4, cX_5, cX_6, cX_7, cX_8, cX_9, cX_10, cX_11, cX_12⟩ := tx
     have tx := Y7; obtain ⟨cY_b, cY_f, cY_0, cY_1, cY_2, cY_3, cY_4, cY_5, cY_6, cY_7, cY_8, cY_9, cY_10, cY_11, cY_12⟩ := tx
     have tx := ZZ7; obtain ⟨cZZ_b, cZZ_f, cZZ_0, cZZ_1, cZZ_2, cZZ_3, cZZ_4, cZZ_5, cZZ_6, cZZ_7, cZZ_8, cZZ_9, cZZ_10, cZZ_11, cZZ_12⟩ := tx
     go_wp2_with fail
     clear cX_b cX_f cX_0 cX_1 cX_2 cX_3 cX_4 cX_5 cX_6 cX_7 cX_8 cX_9 cX_10 cX_11 cX_12 cY_b cY_f cY_0 cY_1 cY_2 cY_3 cY_4 cY_5 cY_6 cY_7 cY_8 cY_9 cY_10 cY_11 cY_12 cZZ_b cZZ_f cZZ_0 cZZ_1 cZZ_2 cZZ_3 cZZ_4 cZZ_5 cZZ_6 cZZ_7 cZZ_8 cZZ_9 cZZ_10 cZZ_11 cZZ_12
     go_ret
     exact ⟨rfl, (grB B7)⟩
    ·
     have e0 := hno hq
     unfold Er.E0 Er.U0 at e0
     injection e0 with i0 i1 i2 i3 i4 i5
     injection i5 with i6 i7 i8 i9 i10 i11 i12 i13
     subst i0; subst i1; subst i2; subst i3; subst i4; subst i6; subst i7; subst i8; subst i9; subst i10; subst i11; subst i12; subst i13
     have gq : (qr == 0) = false := by rw [beq_eq_false_iff_ne]; exact hq
     clear hno hyes
     have tx := X1; obtain ⟨cX_b, cX_f, cX_0, cX_1, cX_2, cX_3, cX_4, cX_5, cX_6, cX_7, cX_8, cX_9, cX_10, cX_11, cX_12⟩ := tx
     go_wp2_with fail
     clear cX_b cX_f cX_0 cX_1 cX_2 cX_3 cX_4 cX_5 cX_6 cX_7 cX_8 cX_9 cX_10 cX_11 cX_12
     refine (PF.out _ (HL.out _ (below_step B1.out gr0))).mono ?_; rintro e w2 ⟨_, sV, rfl, b2⟩
     have SV_2 := Lib.hid sV; obtain ⟨AV, cV, rfl, -⟩ := sV
     have d2 : Below w1.heap.size w1 w2 := below_step gr0 b2
     have B2 := Lib.hid (below_step B1.out d2)
     have X2 := X1.keep d2
     clear X1 b2 d2 B1
     clear SV_2
     have tx := X2; obtain ⟨cX_b, cX_f, cX_0, cX_1, cX_2, cX_3, cX_4, cX_5, cX_6, cX_7, cX_8, cX_9, cX_10, cX_11, cX_12⟩ := tx
     go_wp2_with fail
     clear cX_b cX_f cX_0 cX_1 cX_2 cX_3 cX_4 cX_5 cX_6 cX_7 cX_8 cX_9 cX_10 cX_11 cX_12
     refine (RB.out _ (HL.out _ (below_step B2.out gr0))).mono ?_; rintro e w3 ⟨rfl, b3⟩
     have d3 : Below w2.heap.size w2 w3 := below_step gr0 b3
     have B3 := Lib.hid (below_step B2.out d3)
     have X3 := X2.keep d3
     clear X2 b3 d3 B2
     have tx := X3; obtain ⟨cX_b, cX_f, cX_0, cX_1, cX_2, cX_3, cX_4, cX_5, cX_6, cX_7, cX_8, cX_9, cX_10, cX_11, cX_12⟩ := tx
     go_wp2_with fail
     clear cX_b cX_f cX_0 cX_1 cX_2 cX_3 cX_4 cX_5 cX_6 cX_7 cX_8 cX_9 cX_10 cX_11 cX_12
     refine (PR.out _ (HS.out.on (below_step B3.out gr0)) (HL.out _ (below_step B3.out gr0))).mono ?_; rintro e w4 ⟨rfl, b4⟩
     have d4 : Below w3.heap.size w3 w4 := below_step gr0 b4
     have B4 := Lib.hid (below_step B3.out d4)
     have X4 := X3.keep d4
     clear X3 b4 d4 B3
     have tx := X4; obtain ⟨cX_b, cX_f, cX_0, cX_1, cX_2, cX_3, cX_4, cX_5, cX_6, cX_7, cX_8, cX_9, cX_10, cX_11, cX_12⟩ := tx
     go_wp2_with fail
     clear cX_b cX_f cX_0 cX_1 cX_2 cX_3 cX_4 cX_5 cX_6 cX_7 cX_8 cX_9 cX_10 cX_11 cX_12
     go_ret
     exact ⟨rfl, (grB B4)⟩
   ·
    obtain ⟨M, -, hM3, hM7', PF, PX⟩ := FY.out hrb
    have PF := Lib.hid PF; have PX := Lib.hid PX
    dsimp only [Er.E.v, Er.ev] at PF PX hM3
    rw [hrb] at RB
    clear hrb FY FNO
    generalize (⟨off, kind, save, rs, fm, ⟨h, yr, m, k, wk, d, sec, base⟩⟩ : Er.E).ts = T1 at *
    have hM4 : (decide ((3 : Int) < (M : Int))) = h := by rw [← hM3]; by_cases g : 3 < M <;> simp [g] <;> omega
    clear hM3
    subst hM4
    by_cases hq : qr = 0
    ·
     obtain ⟨k1, k2, k3, k4, k5, k6⟩ := hyes hq
     obtain ⟨M2, hM2, -, hM7, PG, PZ⟩ := fieldsE_yes (⟨z0, z1, z2, z3, z4, ⟨z5, z6, z7, z8, z9, z10, z11, z12⟩⟩ : Er.E) k1 (by show z3.size ≤ 500; omega) (by show z4.size ≤ 500; omega) (by show -9223372036854775808 ≤ z6; omega) (by show z6 ≤ 9223372036854775807; omega) tp pp y
     have RY := Lib.hid (fun W (g : Ru.Lv W tp pp y) => erright_any z0 z1 z2 z3 z4 z5 z6 z7 z8 z9 z10 z11 z12 W y (by omega) (by omega) (by omega) (by omega) g.mx)
     rw [show Er.ok z0 z1 z2 z3 z4 z5 z6 z7 z8 z9 z10 z11 z12 = true from k1] at RY
     have gMN : (M2 : Int) ≤ (N : Int) := by rw [hM2]; omega
     have PG := Lib.hid PG; have PZ := Lib.hid PZ
     dsimp only [Er.E.v, Er.ev] at PG PZ
     clear hno hyes k1 k2 k3 k4 k5 k6
     generalize (⟨z0, z1, z2, z3, z4, ⟨z5, z6, z7, z8, z9, z10, z11, z12⟩⟩ : Er.E).ts = T2 at *
     clear hM2
     subst hq
     have tx := X1; obtain ⟨cX_b, cX_f, cX_0, cX_1, cX_2, cX_3, cX_4, cX_5, cX_6, cX_7, cX_8, cX_9, cX_10, cX_11, cX_12⟩ := tx
     go_wp2_with fail
     clear cX_b cX_f cX_0 cX_1 cX_2 cX_3 cX_4 cX_5 cX_6 cX_7 cX_8 cX_9 cX_10 cX_11 cX_12
     refine (PF.out _ (HL.out _ (below_step B1.out gr0))).mono ?_; rintro e w2 ⟨b2, AV, cV, rfl, fV⟩
     have d2 : Below w1.heap.size w1 w2 := below_step gr0 b2
     have B2 := Lib.hid (below_step B1.out d2)
     have X2 := X1.keep d2
     clear X1 b2 d2 B1
     have SV0 := Lib.hid fV.2; have HV := Lib.hid fV.1; clear fV
     have tx := X2; obtain ⟨cX_b, cX_f, cX_0, cX_1, cX_2, cX_3, cX_4, cX_5, cX_6, cX_7, cX_8, cX_9, cX_10, cX_11, cX_12⟩ := tx
     go_wp2_with fail
     clear cX_b cX_f cX_0 cX_1 cX_2 cX_3 cX_4 cX_5 cX_6 cX_7 cX_8 cX_9 cX_10 cX_11 cX_12
     refine (RB.out _ (HL.out _ (below_step B2.out gr0))).mono ?_; rintro e w3 ⟨rfl, b3⟩
     have d3 : Below w2.heap.size w2 w3 := below_step gr0 b3
     have B3 := Lib.hid (below_step B2.out d3)
     have SV_3 := Lib.hid (SV0.out.on d3)
     have X3 := X2.keep d3
     clear SV0 X2 b3 d3 B2
     have tx := X3; obtain ⟨cX_b, cX_f, cX_0, cX_1, cX_2, cX_3, cX_4, cX_5, cX_6, cX_7, cX_8, cX_9, cX_10, cX_11, cX_12⟩ := tx
     go_wp2_with fail
     clear cX_b cX_f cX_0 cX_1 cX_2 cX_3 cX_4 cX_5 cX_6 cX_7 cX_8 cX_9 cX_10 cX_11 cX_12
     refine (PX.out _ _ _ HV.out (SV_3.out.on gr0) (HL.out _ (below_step B3.out gr0))).mono ?_; rintro e w4 ⟨rfl, b4⟩
     have d4 : Below w3.heap.size w3 w4 := below_step gr0 b4
     have B4 := Lib.hid (below_step B3.out d4)
     have SV_4 := Lib.hid (SV_3.out.on d4)
     have X4 := X3.keep d4
     clear SV_3 X3 b4 d4 B3
     have tx := X4; obtain ⟨cX_b, cX_f, cX_0, cX_1, cX_2, cX_3, cX_4, cX_5, cX_6, cX_7, cX_8, cX_9, cX_10, cX_11, cX_12⟩ := tx
     go_wp2_with fail
     clear cX_b cX_f cX_0 cX_1 cX_2 cX_3 cX_4 cX_5 cX_6 cX_7 cX_8 cX_9 cX_10 cX_11 cX_12
     refine (PR.out _ (HS.out.on (below_step B4.out gr0)) (HL.out _ (below_step B4.out gr0))).mono ?_; rintro e w5 ⟨rfl, b5⟩
     have d5 : Below w4.heap.size w4 w5 := below_step gr0 b5
     have B5 := Lib.hid (below_step B4.out d5)
     have SV_5 := Lib.hid (SV_4.out.on d5)
     have X5 := X4.keep d5
     have aXA := B4.out.size
     have XA5 : Bk13 w5 (w4.heap.size) (.int .i64 off) (.int .i64 kind) (.int .i64 save) (.string rs) (.string fm) (.bool (decide ((3 : Int) < (M : Int)))) (.int .i64 yr) (.int .i64 m) (.int .i64 k) (.int .i64 wk) (.int .i64 d) (.int .i64 sec) (.int .i64 base) := by refine Bk13.of b5 (by simp <;> omega) (by intro j; simp [go_sem]) ?_ ?_ ?_ ?_ ?_ ?_ ?_ ?_ ?_ ?_ ?_ ?_ ?_ <;> simp [go_sem]
     clear SV_4 X4 b5 d5 B4
     have tx := X5; obtain ⟨cX_b, cX_f, cX_0, cX_1, cX_2, cX_3, cX_4, cX_5, cX_6, cX_7, cX_8, cX_9, cX_10, cX_11, cX_12⟩ := tx
     have tx := XA5; obtain ⟨cXA_b, cXA_f, cXA_0, cXA_1, cXA_2, cXA_3, cXA_4, cXA_5, cXA_6, cXA_7, cXA_8, cXA_9, cXA_10, cXA_11, cXA_12⟩ := tx
     go_wp2_with fail
     clear cX_b cX_f cX_0 cX_1 cX_2 cX_3 cX_4 cX_5 cX_6 cX_7 cX_8 cX_9 cX_10 cX_11 cX_12 cXA_b cXA_f cXA_0 cXA_1 cXA_2 cXA_3 cXA_4 cXA_5 cXA_6 cXA_7 cXA_8 cXA_9 cXA_10 cXA_11 cXA_12
     refine (PG.out _ (HL.out _ (below_step B5.out gr0))).mono ?_; rintro e w6 ⟨b6, AG, cG, rfl, fG⟩
     have d6 : Below w5.heap.size w5 w6 := below_step gr0 b6
     have B6 := Lib.hid (below_step B5.out d6)
     have SV_6 := Lib.hid (SV_5.out.on d6)
     have X6 := X5.keep d6
     have XA6 := XA5.keep d6
     have aY := B5.out.size
     have nYXA := Nat.ne_of_lt XA5.hb
     have oYXA := Nat.ne_of_gt XA5.hb
     have Y6 : Bk13 w6 (w5.heap.size) (.int .i64 z0) (.int .i64 z1) (.int .i64 z2) (.string z3) (.string z4) (.bool z5) (.int .i64 z6) (.int .i64 z7) (.int .i64 z8) (.int .i64 z9) (.int .i64 z10) (.int .i64 z11) (.int .i64 z12) := by refine Bk13.of b6 (by simp <;> omega) (by intro j; simp [go_sem]) ?_ ?_ ?_ ?_ ?_ ?_ ?_ ?_ ?_ ?_ ?_ ?_ ?_ <;> simp [go_sem]
     clear SV_5 X5 XA5 b6 d6 B5
     have SG0 := Lib.hid fG.2; have HG := Lib.hid fG.1; clear fG
     have tx := X6; obtain ⟨cX_b, cX_f, cX_0, cX_1, cX_2, cX_3, cX_4, cX_5, cX_6, cX_7, cX_8, cX_9, cX_10, cX_11, cX_12⟩ := tx
     have tx := XA6; obtain ⟨cXA_b, cXA_f, cXA_0, cXA_1, cXA_2, cXA_3, cXA_4, cXA_5, cXA_6, cXA_7, cXA_8, cXA_9, cXA_10, cXA_11, cXA_12⟩ := tx
     have tx := Y6; obtain ⟨cY_b, cY_f, cY_0, cY_1, cY_2, cY_3, cY_4, cY_5, cY_6, cY_7, cY_8, cY_9, cY_10, cY_11, cY_12⟩ := tx
     go_wp2_with fail
     clear cX_b cX_f cX_0 cX_1 cX_2 cX_3 cX_4 cX_5 cX_6 cX_7 cX_8 cX_9 cX_10 cX_11 cX_12 cXA_b cXA_f cXA_0 cXA_1 cXA_2 cXA_3 cXA_4 cXA_5 cXA_6 cXA_7 cXA_8 cXA_9 cXA_10 cXA_11 cXA_12 cY_b cY_f cY_0 cY_1 cY_2 cY_3 cY_4 cY_5 cY_6 cY_7 cY_8 cY_9 cY_10 cY_11 cY_12
     refine (PZ.out _ _ _ HG.out (SG0.out.on gr0) (HL.out _ (below_step B6.out gr0))).mono ?_; rintro e w7 ⟨rfl, b7⟩
     have d7 : Below w6.heap.size w6 w7 := below_step gr0 b7
     have B7 := Lib.hid (below_step B6.out d7)
     have SV_7 := Lib.hid (SV_6.out.on d7)
     have SG_7 := Lib.hid (SG0.out.on d7)
     have X7 := X6.keep d7
     have XA7 := XA6.keep d7
     have Y7 := Y6.keep d7
     clear SV_6 SG0 X6 XA6 Y6 b7 d7 B6
     have tx := X7; obtain ⟨cX_b, cX_f, cX_0, cX_1, cX_2, cX_3, cX_4, cX_5, cX_6, cX_7, cX_8, cX_9, cX_10, cX_11, cX_12⟩ := tx
     have tx := XA7; obtain ⟨cXA_b, cXA_f, cXA_0, cXA_1, cXA_2, cXA_3, cXA_4, cXA_5, cXA_6, cXA_7, cXA_8, cXA_9, cXA_10, cXA_11, cXA_12⟩ := tx
     have tx := Y7; obtain ⟨cY_b, cY_f, cY_0, cY_1, cY_2, cY_3, cY_4, cY_5, cY_6, cY_7, cY_8, cY_9, cY_10, cY_11, cY_12⟩ := tx
     go_wp2_with fail
     clear cX_b cX_f cX_0 cX_1 cX_2 cX_3 cX_4 cX_5 cX_6 cX_7 cX_8 cX_9 cX_10 cX_11 cX_12 cXA_b cXA_f cXA_0 cXA_1 cXA_2 cXA_3 cXA_4 cXA_5 cXA_6 cXA_7 cXA_8 cXA_9 cXA_10 cXA_11 cXA_12 cY_b cY_f cY_0 cY_1 cY_2 cY_3 cY_4 cY_5 cY_6 cY_7 cY_8 cY_9 cY_10 cY_11 cY_12
     refine (RY.out _ (HL.out _ (below_step B7.out gr0))).mono ?_; rintro e w8 ⟨rfl, b8⟩
     have d8 : Below w7.heap.size w7 w8 := below_step gr0 b8
     have B8 := Lib.hid (below_step B7.out d8)
     have SV_8 := Lib.hid (SV_7.out.on d8)
     have SG_8 := Lib.hid (SG_7.out.on d8)
     have X8 := X7.keep d8
     have XA8 := XA7.keep d8
     have Y8 := Y7.keep d8
     have aZZ := B7.out.size
     have nZZXA := Nat.ne_of_lt XA7.hb
     have oZZXA := Nat.ne_of_gt XA7.hb
     have nZZY := Nat.ne_of_lt Y7.hb
     have oZZY := Nat.ne_of_gt Y7.hb
     have ZZ8 : Bk13 w8 (w7.heap.size) (.int .i64 z0) (.int .i64 z1) (.int .i64 z2) (.string z3) (.string z4) (.bool z5) (.int .i64 z6) (.int .i64 z7) (.int .i64 z8) (.int .i64 z9) (.int .i64 z10) (.int .i64 z11) (.int .i64 z12) := by refine Bk13.of b8 (by simp <;> omega) (by intro j; simp [go_sem]) ?_ ?_ ?_ ?_ ?_ ?_ ?_ ?_ ?_ ?_ ?_ ?_ ?_ <;> simp [go_sem]
     clear SV_7 SG_7 X7 XA7 Y7 b8 d8 B7
     have tx := X8; obtain ⟨cX_b, cX_f, cX_0, cX_1, cX_2, cX_3, cX_4, cX_5, cX_6, cX_7, cX_8, cX_9, cX_10, cX_11, cX_12⟩ := tx
     have tx := XA8; obtain ⟨cXA_b, cXA_f, cXA_0, cXA_1, cXA_2, cXA_3, cXA_4, cXA_5, cXA_6, cXA_7, cXA_8, cXA_9, cXA_10, cXA_11, cXA_12⟩ := tx
     have tx := Y8; obtain ⟨cY_b, cY_f, cY_0, cY_1, cY_2, cY_3, cY_4, cY_5, cY_6, cY_7, cY_8, cY_9, cY_10, cY_11, cY_12⟩ := tx
     have tx := ZZ8; obtain ⟨cZZ_b, cZZ_f, cZZ_0, cZZ_1, cZZ_2, cZZ_3, cZZ_4, cZZ_5, cZZ_6, cZZ_7, cZZ_8, cZZ_9, cZZ_10, cZZ_11, cZZ_12⟩ := tx
     go_wp2_with fail
     clear cX_b cX_f cX_0 cX_1 cX_2 cX_3 cX_4 cX_5 cX_6 cX_7 cX_8 cX_9 cX_10 cX_11 cX_12 cXA_b cXA_f cXA_0 cXA_1 cXA_2 cXA_3 cXA_4 cXA_5 cXA_6 cXA_7 cXA_8 cXA_9 cXA_10 cXA_11 cXA_12 cY_b cY_f cY_0 cY_1 cY_2 cY_3 cY_4 cY_5 cY_6 cY_7 cY_8 cY_9 cY_10 cY_11 cY_12 cZZ_b cZZ_f cZZ_0 cZZ_1 cZZ_2 cZZ_3 cZZ_4 cZZ_5 cZZ_6 cZZ_7 cZZ_8 cZZ_9 cZZ_10 cZZ_11 cZZ_12
     go_ret
     exact ⟨rfl, (grB B8)⟩
    ·
     have e0 := hno hq
     unfold Er.E0 Er.U0 at e0
     injection e0 with i0 i1 i2 i3 i4 i5
     injection i5 with i6 i7 i8 i9 i10 i11 i12 i13
     subst i0; subst i1; subst i2; subst i3; subst i4; subst i6; subst i7; subst i8; subst i9; subst i10; subst i11; subst i12; subst i13
     have gq : (qr == 0) = false := by rw [beq_eq_false_iff_ne]; exact hq
     clear hno hyes
     have tx := X1; obtain ⟨cX_b, cX_f, cX_0, cX_1, cX_2, cX_3, cX_4, cX_5, cX_6, cX_7, cX_8, cX_9, cX_10, cX_11, cX_12⟩ := tx
     go_wp2_with fail
     clear cX_b cX_f cX_0 cX_1 cX_2 cX_3 cX_4 cX_5 cX_6 cX_7 cX_8 cX_9 cX_10 cX_11 cX_12
     refine (PF.out _ (HL.out _ (below_step B1.out gr0))).mono ?_; rintro e w2 ⟨b2, AV, cV, rfl, fV⟩
     have d2 : Below w1.heap.size w1 w2 := below_step gr0 b2
     have B2 := Lib.hid (below_step B1.out d2)
     have X2 := X1.keep d2
     clear X1 b2 d2 B1
     have SV0 := Lib.hid fV.2; have HV := Lib.hid fV.1; clear fV
     have tx := X2; obtain ⟨cX_b, cX_f, cX_0, cX_1, cX_2, cX_3, cX_4, cX_5, cX_6, cX_7, cX_8, cX_9, cX_10, cX_11, cX_12⟩ := tx
     go_wp2_with fail
     clear cX_b cX_f cX_0 cX_1 cX_2 cX_3 cX_4 cX_5 cX_6 cX_7 cX_8 cX_9 cX_10 cX_11 cX_12
     refine (RB.out _ (HL.out _ (below_step B2.out gr0))).mono ?_; rintro e w3 ⟨rfl, b3⟩
     have d3 : Below w2.heap.size w2 w3 := below_step gr0 b3
     have B3 := Lib.hid (below_step B2.out d3)
     have SV_3 := Lib.hid (SV0.out.on d3)
     have X3 := X2.keep d3
     clear SV0 X2 b3 d3 B2
     have tx := X3; obtain ⟨cX_b, cX_f, cX_0, cX_1, cX_2, cX_3, cX_4, cX_5, cX_6, cX_7, cX_8, cX_9, cX_10, cX_11, cX_12⟩ := tx
     go_wp2_with fail
     clear cX_b cX_f cX_0 cX_1 cX_2 cX_3 cX_4 cX_5 cX_6 cX_7 cX_8 cX_9 cX_10 cX_11 cX_12
     refine (PX.out _ _ _ HV.out (SV_3.out.on gr0) (HL.out _ (below_step B3.out gr0))).mono ?_; rintro e w4 ⟨rfl, b4⟩
     have d4 : Below w3.heap.size w3 w4 := below_step gr0 b4
     have B4 := Lib.hid (below_step B3.out d4)
     have SV_4 := Lib.hid (SV_3.out.on d4)
     have X4 := X3.keep d4
     clear SV_3 X3 b4 d4 B3
     have tx := X4; obtain ⟨cX_b, cX_f, cX_0, cX_1, cX_2, cX_3, cX_4, cX_5, cX_6, cX_7, cX_8, cX_9, cX_10, cX_11, cX_12⟩ := tx
     go_wp2_with fail
     clear cX_b cX_f cX_0 cX_1 cX_2 cX_3 cX_4 cX_5 cX_6 cX_7 cX_8 cX_9 cX_10 cX_11 cX_12
     refine (PR.out _ (HS.out.on (below_step B4.out gr0)) (HL.out _ (below_step B4.out gr0))).mono ?_; rintro e w5 ⟨rfl, b5⟩
     have d5 : Below w4.heap.size w4 w5 := below_step gr0 b5
     have B5 := Lib.hid (below_step B4.out d5)
     have SV_5 := Lib.hid (SV_4.out.on d5)
     have X5 := X4.keep d5
     have aXA := B4.out.size
     have XA5 : Bk13 w5 (w4.heap.size) (.int .i64 off) (.int .i64 kind) (.int .i64 save) (.string rs) (.string fm) (.bool (decide ((3 : Int) < (M : Int)))) (.int .i64 yr) (.int .i64 m) (.int .i64 k) (.int .i64 wk) (.int .i64 d) (.int .i64 sec) (.int .i64 base) := by refine Bk13.of b5 (by simp <;> omega) (by intro j; simp [go_sem]) ?_ ?_ ?_ ?_ ?_ ?_ ?_ ?_ ?_ ?_ ?_ ?_ ?_ <;> simp [go_sem]
     clear SV_4 X4 b5 d5 B4
     have tx := X5; obtain ⟨cX_b, cX_f, cX_0, cX_1, cX_2, cX_3, cX_4, cX_5, cX_6, cX_7, cX_8, cX_9, cX_10, cX_11, cX_12⟩ := tx
     have tx := XA5; obtain ⟨cXA_b, cXA_f, cXA_0, cXA_1, cXA_2, cXA_3, cXA_4, cXA_5, cXA_6, cXA_7, cXA_8, cXA_9, cXA_10, cXA_11, cXA_12⟩ := tx
     go_wp2_with fail
     clear cX_b cX_f cX_0 cX_1 cX_2 cX_3 cX_4 cX_5 cX_6 cX_7 cX_8 cX_9 cX_10 cX_11 cX_12 cXA_b cXA_f cXA_0 cXA_1 cXA_2 cXA_3 cXA_4 cXA_5 cXA_6 cXA_7 cXA_8 cXA_9 cXA_10 cXA_11 cXA_12
     go_ret
     exact ⟨rfl, (grB B5)⟩
end Go.Proofs.YtpggfhmnhbnefaaGreatDoor
