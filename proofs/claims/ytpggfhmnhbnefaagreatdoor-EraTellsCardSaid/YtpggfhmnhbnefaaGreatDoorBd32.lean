/- Joined: ErT, StrO, ErP, Tab. -/
import Derived.Test.YtpggfhmnhbnefaaGreatDoorBd01
import Derived.Test.YtpggfhmnhbnefaaGreatDoorBd19
import Derived.Test.YtpggfhmnhbnefaaGreatDoorBd29
import Derived.Test.YtpggfhmnhbnefaaGreatDoorBd31
import Derived.Test.YtpggfhmnhbnefaaGreatDoorBd02
import Derived.SliceStrings
import Derived.OpenShut
import Derived.LaidMore
import Derived.ChangeArms
import Derived.WalkSmall
import Derived.Test.YtpggfhmnhbnefaaGreatDoorProg
import Derived.ShutString
import Derived.Lib.SmallJoins
import Derived.Deep.Strs
import Derived.Stop.LaidErr
import Derived.Stop.Joined
import Derived.SizedLaws
set_option linter.unusedVariables false
set_option linter.unusedSimpArgs false
namespace Go.Proofs.YtpggfhmnhbnefaaGreatDoor
open Go.RowKit Go.Sort
theorem ansf_listE {P : List (List UInt8) × Int} {LL : List ByteArray} (h : LL.map (·.data.toList) = P.1) {w : World} {e : Ending} {w' : World} (a : AnsF P w e w') : ∃ v, StS w' v LL ∧ e = .returned (.tuple #[v, .int .i64 P.2]) ∧ Below w.heap.size w w' := by
 obtain ⟨v, l, S, hl, he, hb⟩ := a
 exact ⟨v, by rw [← fd_bytes (hl.trans h.symm)]; exact S, he, hb⟩
theorem Er.fl_list (r : Er.E) : ∃ LL : List ByteArray, LL.length ≤ 100 ∧ LL.map (·.data.toList) = (Er.fl r).1 := by
 cases h : r.ok
 ·
  exact ⟨[], by simp, by rw [Er.fl_no h]; rfl⟩
 ·
  refine ⟨r.ts, ?_, by rw [Er.fl_yes h]⟩
  unfold Er.E.ts Er.U.et Er.U.ts
  split
  ·
   rw [List.length_append, List.length_take]; simp; omega
  ·
   simp
set_option maxHeartbeats 8000000 in
set_option maxRecDepth 100000 in
theorem ertells_walk (A : Option Addr) (N c : Nat) (l : List ByteArray) (off kind save : Int) (rs fm : ByteArray) (h : Bool) (yr m k wk d sec base : Int) (w : World) (tp : TypeId) (pp : Value) (y : Int) (L : Ru.Lv w tp pp y) (S : StS w (.slice A N c) l) (hnc : N ≤ c) (hz : ∀ y ∈ l, y.size ≤ maxLen) (hs : rs.size ≤ maxLen) (ht : fm.size ≤ maxLen) (y0 : -9223372036854775808 ≤ yr) (y1 : yr ≤ 9223372036854775807) :
  Calls Tryz.prog 5 #[.slice A N c, .agg #[.int .i64 off, .int .i64 kind, .int .i64 save, .string rs, .string fm, .bool h, .int .i64 yr, .int .i64 m, .int .i64 k, .int .i64 wk, .int .i64 d, .int .i64 sec, .int .i64 base]] w fun e w' => e = .returned (.bool true) ∧ Below w.heap.size w w' := by
 have LV := Lib.hid (fun W (h : Ru.Lv W tp pp y) => lives22 W tp pp y h)
 have HL := Lib.hid (fun W (b : Below w.heap.size w W) => L.on b)
 have HN : Hid (N = l.length) := Lib.hid S.len
 have HS := Lib.hid S
 have HZ := Lib.hid hz
 have HC := Lib.hid hnc
 clear L hz S hnc
 have bs : rs.size ≤ 9223372036854775807 := by unfold maxLen at hs; omega
 have bt : fm.size ≤ 9223372036854775807 := by unfold maxLen at ht; omega
 have HY := Lib.hid (And.intro y0 y1)
 clear hs ht y0 y1
 by_cases h1 : 40 < (N : Int)
 ·
  clear bs bt
  go_enter Tryz.func5, Tryz.ntmps5
  go_wp2_with fail
  refine (LV.out _ (HL.out _ gr0)).mono ?_; rintro e w1 ⟨rfl, b1⟩
  have d1 : Below w.heap.size w w1 := below_step gr0 b1
  have B1 := Lib.hid d1
  have X1 : Bk13 w1 (w.heap.size) (.int .i64 off) (.int .i64 kind) (.int .i64 save) (.string rs) (.string fm) (.bool h) (.int .i64 yr) (.int .i64 m) (.int .i64 k) (.int .i64 wk) (.int .i64 d) (.int .i64 sec) (.int .i64 base) := by refine Bk13.of b1 (by simp <;> omega) (by intro j; simp [go_sem]) ?_ ?_ ?_ ?_ ?_ ?_ ?_ ?_ ?_ ?_ ?_ ?_ ?_ <;> simp [go_sem]
  clear b1 d1
  have tx := X1; obtain ⟨cX_b, cX_f, cX_0, cX_1, cX_2, cX_3, cX_4, cX_5, cX_6, cX_7, cX_8, cX_9, cX_10, cX_11, cX_12⟩ := tx
  go_wp2_with fail
  clear cX_b cX_f cX_0 cX_1 cX_2 cX_3 cX_4 cX_5 cX_6 cX_7 cX_8 cX_9 cX_10 cX_11 cX_12
  go_ret
  exact ⟨rfl, (grB B1)⟩
 by_cases h3 : 500 < (rs.size : Int)
 ·
  clear bt
  go_enter Tryz.func5, Tryz.ntmps5
  go_wp2_with fail
  refine (LV.out _ (HL.out _ gr0)).mono ?_; rintro e w1 ⟨rfl, b1⟩
  have d1 : Below w.heap.size w w1 := below_step gr0 b1
  have B1 := Lib.hid d1
  have X1 : Bk13 w1 (w.heap.size) (.int .i64 off) (.int .i64 kind) (.int .i64 save) (.string rs) (.string fm) (.bool h) (.int .i64 yr) (.int .i64 m) (.int .i64 k) (.int .i64 wk) (.int .i64 d) (.int .i64 sec) (.int .i64 base) := by refine Bk13.of b1 (by simp <;> omega) (by intro j; simp [go_sem]) ?_ ?_ ?_ ?_ ?_ ?_ ?_ ?_ ?_ ?_ ?_ ?_ ?_ <;> simp [go_sem]
  clear b1 d1
  have tx := X1; obtain ⟨cX_b, cX_f, cX_0, cX_1, cX_2, cX_3, cX_4, cX_5, cX_6, cX_7, cX_8, cX_9, cX_10, cX_11, cX_12⟩ := tx
  go_wp2_with fail
  clear cX_b cX_f cX_0 cX_1 cX_2 cX_3 cX_4 cX_5 cX_6 cX_7 cX_8 cX_9 cX_10 cX_11 cX_12
  go_ret
  exact ⟨rfl, (grB B1)⟩
 by_cases h4 : 500 < (fm.size : Int)
 ·
  skip
  go_enter Tryz.func5, Tryz.ntmps5
  go_wp2_with fail
  refine (LV.out _ (HL.out _ gr0)).mono ?_; rintro e w1 ⟨rfl, b1⟩
  have d1 : Below w.heap.size w w1 := below_step gr0 b1
  have B1 := Lib.hid d1
  have X1 : Bk13 w1 (w.heap.size) (.int .i64 off) (.int .i64 kind) (.int .i64 save) (.string rs) (.string fm) (.bool h) (.int .i64 yr) (.int .i64 m) (.int .i64 k) (.int .i64 wk) (.int .i64 d) (.int .i64 sec) (.int .i64 base) := by refine Bk13.of b1 (by simp <;> omega) (by intro j; simp [go_sem]) ?_ ?_ ?_ ?_ ?_ ?_ ?_ ?_ ?_ ?_ ?_ ?_ ?_ <;> simp [go_sem]
  clear b1 d1
  have tx := X1; obtain ⟨cX_b, cX_f, cX_0, cX_1, cX_2, cX_3, cX_4, cX_5, cX_6, cX_7, cX_8, cX_9, cX_10, cX_11, cX_12⟩ := tx
  go_wp2_with fail
  clear cX_b cX_f cX_0 cX_1 cX_2 cX_3 cX_4 cX_5 cX_6 cX_7 cX_8 cX_9 cX_10 cX_11 cX_12
  go_ret
  exact ⟨rfl, (grB B1)⟩
 have c1 : N ≤ 40 := by omega
 have c3 : rs.size ≤ 500 := by omega
 have c4 : fm.size ≤ 500 := by omega
 have RB := Lib.hid (fun W (g : Ru.Lv W tp pp y) => erright_any off kind save rs fm h yr m k wk d sec base W y (by omega) (by omega) HY.out.1 HY.out.2 g.mx)
 have RR := Lib.hid (fun W => rerright_any off kind save rs fm h yr m k wk d sec base W (by omega) (by omega) HY.out.1 HY.out.2)
 obtain ⟨LL, hll, hLL⟩ := Er.fl_list (⟨off, kind, save, rs, fm, ⟨h, yr, m, k, wk, d, sec, base⟩⟩ : Er.E)
 have PF := Lib.hid (fun W (g : Ru.Lv W tp pp y) => (erfields_any off kind save rs fm h yr m k wk d sec base W (by omega) (by omega) HY.out.1 HY.out.2 tp pp y g).mono fun _ _ a => ansf_listE hLL a.ans)
 have RF := Lib.hid (fun W => (rerfields_any off kind save rs fm h yr m k wk d sec base W (by omega) (by omega) HY.out.1 HY.out.2).mono fun _ _ a => ansf_listE hLL a)
 generalize (Er.fl (⟨off, kind, save, rs, fm, ⟨h, yr, m, k, wk, d, sec, base⟩⟩ : Er.E)).2 = qf at PF RF
 generalize Er.ok off kind save rs fm h yr m k wk d sec base = rb at RB RR
 clear hLL
 go_enter Tryz.func5, Tryz.ntmps5
 go_wp2_with fail
 refine wp_named ?_; intro w1 hw1
 have d1 : Below w.heap.size w w1 := by rw [hw1]; exact gr0
 have B1 := Lib.hid d1
 have X1 : Bk13 w1 (w.heap.size) (.int .i64 off) (.int .i64 kind) (.int .i64 save) (.string rs) (.string fm) (.bool h) (.int .i64 yr) (.int .i64 m) (.int .i64 k) (.int .i64 wk) (.int .i64 d) (.int .i64 sec) (.int .i64 base) := by rw [hw1]; exact ⟨by simp <;> omega, by intro j; simp [go_sem], by simp [go_sem], by simp [go_sem], by simp [go_sem], by simp [go_sem], by simp [go_sem], by simp [go_sem], by simp [go_sem], by simp [go_sem], by simp [go_sem], by simp [go_sem], by simp [go_sem], by simp [go_sem], by simp [go_sem]⟩
 clear d1 hw1
 clear bs bt h1 h3 h4 c3 c4
 go_loopw [33] (fun i wr => ∃ j : Nat, j ≤ N ∧ i = .int .i64 j ∧ Hid (∀ y ∈ l.take j, y.size ≤ 300) ∧ wr = w1) (fun i _ => N - (intOf i).toNat)
 case atStart => exact ⟨0, Nat.zero_le _, rfl, Lib.hid (fun y hy => by simp at hy), rfl⟩
 case round =>
  obtain ⟨j, hj, rfl, hsm, hw⟩ := hrel
  obtain rfl : w1 = wr := hw.symm
  by_cases hlt : j < N
  ·
   have hjl : j < l.length := by have := HN.out; omega
   obtain ⟨a, ha, g⟩ := (HS.out.on B1.out).get j hjl
   have hxz : l[j].size ≤ 9223372036854775807 := by have := HZ.out l[j] (List.getElem_mem hjl); unfold maxLen at this; omega
   have hsm2 : l[j].size ≤ 300 → Hid (∀ y ∈ l.take (j + 1), y.size ≤ 300) := fun h => Lib.hid (fun y hy => by
    rw [List.take_succ_eq_append_getElem hjl] at hy
    rcases List.mem_append.1 hy with hy | hy
    ·
     exact hsm.out y hy
    ·
     rw [List.mem_singleton.1 hy]; exact h)
   generalize l[j] = x at g hxz hsm2
   subst ha
   by_cases hx : 300 < (x.size : Int)
   ·
    clear hsm2
    go_wp2_with fail
    refine (LV.out _ (HL.out _ B1.out)).mono ?_; rintro e u1 ⟨rfl, b1⟩
    have C1 := Lib.hid (below_step B1.out b1)
    clear b1
    go_wp2_with fail
    go_ret
    exact ⟨rfl, C1.out⟩
   ·
    have HX := hsm2 (by omega)
    clear hsm2
    go_wp2_with fail
    go_roundw
    case rel => exact ⟨j + 1, by omega, by go_num, HX, by first | rfl | trivial⟩
    case measure => simp [intOf]; omega
  ·
   have hall : ∀ y ∈ l, y.size ≤ 600 := fun y hy => by
    have := hsm.out y (by rw [List.take_of_length_le (by have := HN.out; omega)]; exact hy)
    omega
   have PR := Lib.hid (fun W S h => erRead_any A N c l W S HC.out (by have := HN.out; omega) hall tp pp y h)
   have QR := Lib.hid (fun W S => rErRead_any A N c l W S HC.out (by have := HN.out; omega) hall)
   generalize (Er.rd l).2 = qr at PR QR
   generalize (Er.rd l).1 = EE at PR QR
   obtain ⟨z0, z1, z2, z3, z4, ⟨z5, z6, z7, z8, z9, z10, z11, z12⟩⟩ := EE
   dsimp only [Er.E.v, Er.ev] at PR QR
   clear hall hsm
   have tx := X1; obtain ⟨cX_b, cX_f, cX_0, cX_1, cX_2, cX_3, cX_4, cX_5, cX_6, cX_7, cX_8, cX_9, cX_10, cX_11, cX_12⟩ := tx
   go_wp2_with fail
   clear cX_b cX_f cX_0 cX_1 cX_2 cX_3 cX_4 cX_5 cX_6 cX_7 cX_8 cX_9 cX_10 cX_11 cX_12
   refine (PR.out _ (HS.out.on (below_step B1.out gr0)) (HL.out _ (below_step B1.out gr0))).mono ?_; rintro e w2 ⟨rfl, b2⟩
   have d2 : Below w1.heap.size w1 w2 := below_step gr0 b2
   have B2 := Lib.hid (below_step B1.out d2)
   have X2 := X1.keep d2
   clear X1 b2 d2 B1
   have tx := X2; obtain ⟨cX_b, cX_f, cX_0, cX_1, cX_2, cX_3, cX_4, cX_5, cX_6, cX_7, cX_8, cX_9, cX_10, cX_11, cX_12⟩ := tx
   go_wp2_with fail
   clear cX_b cX_f cX_0 cX_1 cX_2 cX_3 cX_4 cX_5 cX_6 cX_7 cX_8 cX_9 cX_10 cX_11 cX_12
   refine (QR.out _ (HS.out.on (below_step B2.out gr0))).mono ?_; rintro e w3 ⟨rfl, b3⟩
   have d3 : Below w2.heap.size w2 w3 := below_step gr0 b3
   have B3 := Lib.hid (below_step B2.out d3)
   have X3 := X2.keep d3
   have aPA := B2.out.size
   have nPAX := Nat.ne_of_lt X2.hb
   have oPAX := Nat.ne_of_gt X2.hb
   have PA3 : Bk13 w3 (w2.heap.size) (.int .i64 z0) (.int .i64 z1) (.int .i64 z2) (.string z3) (.string z4) (.bool z5) (.int .i64 z6) (.int .i64 z7) (.int .i64 z8) (.int .i64 z9) (.int .i64 z10) (.int .i64 z11) (.int .i64 z12) := by refine Bk13.of b3 (by simp <;> omega) (by intro j; simp [go_sem]) ?_ ?_ ?_ ?_ ?_ ?_ ?_ ?_ ?_ ?_ ?_ ?_ ?_ <;> simp [go_sem]
   clear X2 b3 d3 B2
   have tx := X3; obtain ⟨cX_b, cX_f, cX_0, cX_1, cX_2, cX_3, cX_4, cX_5, cX_6, cX_7, cX_8, cX_9, cX_10, cX_11, cX_12⟩ := tx
   have tx := PA3; obtain ⟨cPA_b, cPA_f, cPA_0, cPA_1, cPA_2, cPA_3, cPA_4, cPA_5, cPA_6, cPA_7, cPA_8, cPA_9, cPA_10, cPA_11, cPA_12⟩ := tx
   go_wp2_with fail
   clear cX_b cX_f cX_0 cX_1 cX_2 cX_3 cX_4 cX_5 cX_6 cX_7 cX_8 cX_9 cX_10 cX_11 cX_12 cPA_b cPA_f cPA_0 cPA_1 cPA_2 cPA_3 cPA_4 cPA_5 cPA_6 cPA_7 cPA_8 cPA_9 cPA_10 cPA_11 cPA_12
   refine (PF.out _ (HL.out _ (below_step B3.out gr0))).mono ?_; rintro e w4 ⟨_, sV, rfl, b4⟩
   have SV_4 := Lib.hid sV; obtain ⟨AV, cV, rfl, -⟩ := sV
   have d4 : Below w3.heap.size w3 w4 := below_step gr0 b4
   have B4 := Lib.hid (below_step B3.out d4)
   have X4 := X3.keep d4
   have PA4 := PA3.keep d4
   have aPB := B3.out.size
   have nPBX := Nat.ne_of_lt X3.hb
   have oPBX := Nat.ne_of_gt X3.hb
   have nPBPA := Nat.ne_of_lt PA3.hb
   have oPBPA := Nat.ne_of_gt PA3.hb
   have PB4 : Bk13 w4 (w3.heap.size) (.int .i64 z0) (.int .i64 z1) (.int .i64 z2) (.string z3) (.string z4) (.bool z5) (.int .i64 z6) (.int .i64 z7) (.int .i64 z8) (.int .i64 z9) (.int .i64 z10) (.int .i64 z11) (.int .i64 z12) := by refine Bk13.of b4 (by simp <;> omega) (by intro j; simp [go_sem]) ?_ ?_ ?_ ?_ ?_ ?_ ?_ ?_ ?_ ?_ ?_ ?_ ?_ <;> simp [go_sem]
   clear X3 PA3 b4 d4 B3
   have tx := X4; obtain ⟨cX_b, cX_f, cX_0, cX_1, cX_2, cX_3, cX_4, cX_5, cX_6, cX_7, cX_8, cX_9, cX_10, cX_11, cX_12⟩ := tx
   have tx := PA4; obtain ⟨cPA_b, cPA_f, cPA_0, cPA_1, cPA_2, cPA_3, cPA_4, cPA_5, cPA_6, cPA_7, cPA_8, cPA_9, cPA_10, cPA_11, cPA_12⟩ := tx
   have tx := PB4; obtain ⟨cPB_b, cPB_f, cPB_0, cPB_1, cPB_2, cPB_3, cPB_4, cPB_5, cPB_6, cPB_7, cPB_8, cPB_9, cPB_10, cPB_11, cPB_12⟩ := tx
   go_wp2_with fail
   clear cX_b cX_f cX_0 cX_1 cX_2 cX_3 cX_4 cX_5 cX_6 cX_7 cX_8 cX_9 cX_10 cX_11 cX_12 cPA_b cPA_f cPA_0 cPA_1 cPA_2 cPA_3 cPA_4 cPA_5 cPA_6 cPA_7 cPA_8 cPA_9 cPA_10 cPA_11 cPA_12 cPB_b cPB_f cPB_0 cPB_1 cPB_2 cPB_3 cPB_4 cPB_5 cPB_6 cPB_7 cPB_8 cPB_9 cPB_10 cPB_11 cPB_12
   refine (RF.out _).mono ?_; rintro e w5 ⟨_, sU, rfl, b5⟩
   have SU_5 := Lib.hid sU; obtain ⟨AU, cU, rfl, -⟩ := sU
   have d5 : Below w4.heap.size w4 w5 := below_step gr0 b5
   have B5 := Lib.hid (below_step B4.out d5)
   have SV_5 := Lib.hid (SV_4.out.on d5)
   have X5 := X4.keep d5
   have PA5 := PA4.keep d5
   have PB5 := PB4.keep d5
   clear SV_4 X4 PA4 PB4 b5 d5 B4
   have tx := X5; obtain ⟨cX_b, cX_f, cX_0, cX_1, cX_2, cX_3, cX_4, cX_5, cX_6, cX_7, cX_8, cX_9, cX_10, cX_11, cX_12⟩ := tx
   have tx := PA5; obtain ⟨cPA_b, cPA_f, cPA_0, cPA_1, cPA_2, cPA_3, cPA_4, cPA_5, cPA_6, cPA_7, cPA_8, cPA_9, cPA_10, cPA_11, cPA_12⟩ := tx
   have tx := PB5; obtain ⟨cPB_b, cPB_f, cPB_0, cPB_1, cPB_2, cPB_3, cPB_4, cPB_5, cPB_6, cPB_7, cPB_8, cPB_9, cPB_10, cPB_11, cPB_12⟩ := tx
   go_wp2_with fail
   clear cX_b cX_f cX_0 cX_1 cX_2 cX_3 cX_4 cX_5 cX_6 cX_7 cX_8 cX_9 cX_10 cX_11 cX_12 cPA_b cPA_f cPA_0 cPA_1 cPA_2 cPA_3 cPA_4 cPA_5 cPA_6 cPA_7 cPA_8 cPA_9 cPA_10 cPA_11 cPA_12 cPB_b cPB_f cPB_0 cPB_1 cPB_2 cPB_3 cPB_4 cPB_5 cPB_6 cPB_7 cPB_8 cPB_9 cPB_10 cPB_11 cPB_12
   have qX_0 := cell_regrown X5.k0
   have qX_1 := cell_regrown X5.k1
   have qX_2 := cell_regrown X5.k2
   have qX_3 := cell_regrown X5.k3
   have qX_4 := cell_regrown X5.k4
   have qX_5 := cell_regrown X5.k5
   have qX_6 := cell_regrown X5.k6
   have qX_7 := cell_regrown X5.k7
   have qX_8 := cell_regrown X5.k8
   have qX_9 := cell_regrown X5.k9
   have qX_10 := cell_regrown X5.k10
   have qX_11 := cell_regrown X5.k11
   have qX_12 := cell_regrown X5.k12
   have qPA_0 := cell_regrown PA5.k0
   have qPA_1 := cell_regrown PA5.k1
   have qPA_2 := cell_regrown PA5.k2
   have qPA_3 := cell_regrown PA5.k3
   have qPA_4 := cell_regrown PA5.k4
   have qPA_5 := cell_regrown PA5.k5
   have qPA_6 := cell_regrown PA5.k6
   have qPA_7 := cell_regrown PA5.k7
   have qPA_8 := cell_regrown PA5.k8
   have qPA_9 := cell_regrown PA5.k9
   have qPA_10 := cell_regrown PA5.k10
   have qPA_11 := cell_regrown PA5.k11
   have qPA_12 := cell_regrown PA5.k12
   have qPB_0 := cell_regrown PB5.k0
   have qPB_1 := cell_regrown PB5.k1
   have qPB_2 := cell_regrown PB5.k2
   have qPB_3 := cell_regrown PB5.k3
   have qPB_4 := cell_regrown PB5.k4
   have qPB_5 := cell_regrown PB5.k5
   have qPB_6 := cell_regrown PB5.k6
   have qPB_7 := cell_regrown PB5.k7
   have qPB_8 := cell_regrown PB5.k8
   have qPB_9 := cell_regrown PB5.k9
   have qPB_10 := cell_regrown PB5.k10
   have qPB_11 := cell_regrown PB5.k11
   have qPB_12 := cell_regrown PB5.k12
   refine wp_region_qb (w := w5) (by kernel_rfl) (by kernel_rfl) gr0 ?_
   repeat (any_goals (first | go_big_quiet_step (first | (go_at_call 12; exact Calls.regrown_of (same13_yes _ _ LL _ (by omega) (SV_5.out.on (below_regrown _ _ _)) (SU_5.out.on (below_regrown _ _ _)))) | (go_at_call 22; exact Calls.regrown_of (RB.out _ (HL.out _ (below_step B5.out (below_regrown _ _ _))))) | (go_at_call 23; exact Calls.regrown_of (RR.out _)) | (go_at_call 17; exact Calls.regrown_of (LV.out _ (HL.out _ (below_step B5.out (below_regrown _ _ _)))))) | quiet_step (first | (go_at_call 12; exact Calls.regrown_of (same13_yes _ _ LL _ (by omega) (SV_5.out.on (below_regrown _ _ _)) (SU_5.out.on (below_regrown _ _ _)))) | (go_at_call 22; exact Calls.regrown_of (RB.out _ (HL.out _ (below_step B5.out (below_regrown _ _ _))))) | (go_at_call 23; exact Calls.regrown_of (RR.out _)) | (go_at_call 17; exact Calls.regrown_of (LV.out _ (HL.out _ (below_step B5.out (below_regrown _ _ _))))))))
   refine wpQuiet_nil ?_
   intro w6 hq
   have b6 : Below w5.heap.size w5 w6 := by obtain ⟨p, hq⟩ := hq; rw [hq]; exact below_regrown _ _ _
   clear hq qX_0 qX_1 qX_2 qX_3 qX_4 qX_5 qX_6 qX_7 qX_8 qX_9 qX_10 qX_11 qX_12 qPA_0 qPA_1 qPA_2 qPA_3 qPA_4 qPA_5 qPA_6 qPA_7 qPA_8 qPA_9 qPA_10 qPA_11 qPA_12 qPB_0 qPB_1 qPB_2 qPB_3 qPB_4 qPB_5 qPB_6 qPB_7 qPB_8 qPB_9 qPB_10 qPB_11 qPB_12
   have d6 : Below w5.heap.size w5 w6 := below_step gr0 b6
   have B6 := Lib.hid (below_step B5.out d6)
   have SV_6 := Lib.hid (SV_5.out.on d6)
   have SU_6 := Lib.hid (SU_5.out.on d6)
   have X6 := X5.keep d6
   have PA6 := PA5.keep d6
   have PB6 := PB5.keep d6
   clear SV_5 SU_5 X5 PA5 PB5 b6 d6 B5
   have tx := X6; obtain ⟨cX_b, cX_f, cX_0, cX_1, cX_2, cX_3, cX_4, cX_5, cX_6, cX_7, cX_8, cX_9, cX_10, cX_11, cX_12⟩ := tx
   have tx := PA6; obtain ⟨cPA_b, cPA_f, cPA_0, cPA_1, cPA_2, cPA_3, cPA_4, cPA_5, cPA_6, cPA_7, cPA_8, cPA_9, cPA_10, cPA_11, cPA_12⟩ := tx
   have tx := PB6; obtain ⟨cPB_b, cPB_f, cPB_0, cPB_1, cPB_2, cPB_3, cPB_4, cPB_5, cPB_6, cPB_7, cPB_8, cPB_9, cPB_10, cPB_11, cPB_12⟩ := tx
   go_wp2_with fail
   clear cX_b cX_f cX_0 cX_1 cX_2 cX_3 cX_4 cX_5 cX_6 cX_7 cX_8 cX_9 cX_10 cX_11 cX_12 cPA_b cPA_f cPA_0 cPA_1 cPA_2 cPA_3 cPA_4 cPA_5 cPA_6 cPA_7 cPA_8 cPA_9 cPA_10 cPA_11 cPA_12 cPB_b cPB_f cPB_0 cPB_1 cPB_2 cPB_3 cPB_4 cPB_5 cPB_6 cPB_7 cPB_8 cPB_9 cPB_10 cPB_11 cPB_12
   go_ret
   exact ⟨rfl, (grB B6)⟩
end Go.Proofs.YtpggfhmnhbnefaaGreatDoor
set_option linter.unusedVariables false
set_option linter.unusedSimpArgs false
namespace Go.Proofs.YtpggfhmnhbnefaaGreatDoor
open Go.RowKit Go.Sort Go.ChangeShapes
theorem cellsStrO : Tryz.prog.cellsOf 9 = 1 := by kernel_rfl
theorem strs_in {H : Type} {enc : TypeId × Value → H} {w : World} {base : Nat} {sp : Nat → Bool} {held : Bool} {A : Option Addr} {n c : Nat} {fuel : Nat} {x : DataW H × List MemPlace}
  (h : DataW.trod enc Tryz.prog w base sp held fuel 22 [.slice A n c] = some x) : ∃ l : List ByteArray, StS w (.slice A n c) l ∧ ∀ y ∈ l, y.size ≤ maxLen := by
 rcases open_strings Tryz.underlying22 Tryz.underlying9 cellsStrO h with ⟨hcs, _⟩ | ⟨a, len, cap, ss, hcs, _, hl, hm, hz, _, hcell, hsz⟩
 ·
  injection hcs with h1 _
  rw [h1]
  exact ⟨[], Lst.nil _ _, by intro y hy; cases hy⟩
 ·
  injection hcs with h1 _
  rw [h1]
  have hle : len ≤ ss.length := by rw [hz]; split <;> omega
  have ht : (ss.take len).length = len := by rw [List.length_take]; omega
  refine ⟨ss.take len, ?_, fun y hy => hsz y (List.mem_of_mem_take hy)⟩
  refine ⟨some a, cap, by rw [ht], fun hpos => ⟨a, rfl, ?_, ?_⟩⟩
  ·
   rw [ht] at hpos
   have := World.block_lt_of_cell? _ _ (hcell 0 (by omega))
   rwa [blk_add] at this
  ·
   intro j u hj
   rw [List.getElem?_map] at hj
   have hjl : j < len := by
    cases hg : (ss.take len)[j]? with
    | none => rw [hg] at hj; cases hj
    | some z => have := (List.getElem?_eq_some_iff.1 hg).1; omega
   rw [List.getElem?_take_of_lt hjl, List.getElem?_eq_getElem (by omega)] at hj
   simp only [Option.map_some, Option.some.injEq] at hj
   rw [hcell j (by omega), ← hj]
   simp [List.getD, List.getElem?_eq_getElem (show j < ss.length by omega)]
theorem strs_room {H : Type} {enc : TypeId × Value → H} {w : World} {base : Nat} {sp : Nat → Bool} {held : Bool} {A : Option Addr} {n c : Nat} {fuel : Nat} {x : DataW H × List MemPlace}
  (h : DataW.trod enc Tryz.prog w base sp held fuel 22 [.slice A n c] = some x) : ∃ l : List ByteArray, StS w (.slice A n c) l ∧ n ≤ c ∧ ∀ y ∈ l, y.size ≤ maxLen := by
 have hnc : n ≤ c := by
  rcases open_strings Tryz.underlying22 Tryz.underlying9 cellsStrO h with ⟨hcs, _⟩ | ⟨a, len, cap, ss, hcs, _, hl, hm, hz, _, hcell, hsz⟩
  ·
   injection hcs with h1 _
   injection h1 with _ h2 h3
   omega
  ·
   injection hcs with h1 _
   injection h1 with _ h2 h3
   omega
 obtain ⟨l, h1, h2⟩ := strs_in h
 exact ⟨l, h1, hnc, h2⟩
end Go.Proofs.YtpggfhmnhbnefaaGreatDoor
set_option linter.unusedVariables false
set_option linter.unusedSimpArgs false
namespace Go.Proofs.YtpggfhmnhbnefaaGreatDoor
open Go Go.ChangeShapes Go.WideShapes Go.Joins Go.Deep
theorem array13 {α : Type} {cs : Array α} (h : cs.size = 13) : ∃ c0 c1 c2 c3 c4 c5 c6 c7 c8 c9 c10 c11 c12, cs = #[c0, c1, c2, c3, c4, c5, c6, c7, c8, c9, c10, c11, c12] := by
 obtain ⟨l⟩ := cs
 match l, h with
 | [x0, x1, x2, x3, x4, x5, x6, x7, x8, x9, x10, x11, x12], _ => exact ⟨x0, x1, x2, x3, x4, x5, x6, x7, x8, x9, x10, x11, x12, rfl⟩
theorem cellsEra : Tryz.prog.cellsOf 43 = 13 := by kernel_rfl
theorem cellsUnt : Tryz.prog.cellsOf 41 = 8 := by kernel_rfl
theorem cellsOnE : Tryz.prog.cellsOf 24 = 3 := by kernel_rfl
theorem cellsAtE : Tryz.prog.cellsOf 26 = 2 := by kernel_rfl
theorem cellsIntE : Tryz.prog.cellsOf 3 = 1 := by kernel_rfl
theorem cellsI64E : Tryz.prog.cellsOf 2 = 1 := by kernel_rfl
theorem cellsStrE : Tryz.prog.cellsOf 9 = 1 := by kernel_rfl
theorem cellsBoolE : Tryz.prog.cellsOf 4 = 1 := by kernel_rfl
section
variable {H : Type} {enc : TypeId × Value → H} {P : Program} {w : World} {base : Nat} {spare : Nat → Bool} {held : Bool}
theorem trodE5 {t : TypeId} {f0 f1 f2 f3 f4 : Field} {fuel : Nat} {cs : List Value} {x : DataW H × List MemPlace} (ht : P.underlying t = some (.struct #[f0, f1, f2, f3, f4])) (h : DataW.trod enc P w base spare held fuel t cs = some x) :
  ∃ y0 y1 y2 y3 y4 n, DataW.trod enc P w base spare held n f0.type ((cs.drop f0.offset).take (P.cellsOf f0.type)) = some y0 ∧ DataW.trod enc P w base spare held n f1.type ((cs.drop f1.offset).take (P.cellsOf f1.type)) = some y1 ∧ DataW.trod enc P w base spare held n f2.type ((cs.drop f2.offset).take (P.cellsOf f2.type)) = some y2 ∧ DataW.trod enc P w base spare held n f3.type ((cs.drop f3.offset).take (P.cellsOf f3.type)) = some y3 ∧ DataW.trod enc P w base spare held n f4.type ((cs.drop f4.offset).take (P.cellsOf f4.type)) = some y4 := by
 obtain ⟨xs, n, _, rfl, hl, hlen, hf⟩ := DataW.trod_struct ht h
 match xs, hlen with
 | [y0, y1, y2, y3, y4], _ => exact ⟨y0, y1, y2, y3, y4, n, by simpa using hf 0 f0 rfl, by simpa using hf 1 f1 rfl, by simpa using hf 2 f2 rfl, by simpa using hf 3 f3 rfl, by simpa using hf 4 f4 rfl⟩
theorem trodE6 {t : TypeId} {f0 f1 f2 f3 f4 f5 : Field} {fuel : Nat} {cs : List Value} {x : DataW H × List MemPlace} (ht : P.underlying t = some (.struct #[f0, f1, f2, f3, f4, f5])) (h : DataW.trod enc P w base spare held fuel t cs = some x) :
  ∃ y0 y1 y2 y3 y4 y5 n, DataW.trod enc P w base spare held n f0.type ((cs.drop f0.offset).take (P.cellsOf f0.type)) = some y0 ∧ DataW.trod enc P w base spare held n f1.type ((cs.drop f1.offset).take (P.cellsOf f1.type)) = some y1 ∧ DataW.trod enc P w base spare held n f2.type ((cs.drop f2.offset).take (P.cellsOf f2.type)) = some y2 ∧ DataW.trod enc P w base spare held n f3.type ((cs.drop f3.offset).take (P.cellsOf f3.type)) = some y3 ∧ DataW.trod enc P w base spare held n f4.type ((cs.drop f4.offset).take (P.cellsOf f4.type)) = some y4 ∧ DataW.trod enc P w base spare held n f5.type ((cs.drop f5.offset).take (P.cellsOf f5.type)) = some y5 := by
 obtain ⟨xs, n, _, rfl, hl, hlen, hf⟩ := DataW.trod_struct ht h
 match xs, hlen with
 | [y0, y1, y2, y3, y4, y5], _ => exact ⟨y0, y1, y2, y3, y4, y5, n, by simpa using hf 0 f0 rfl, by simpa using hf 1 f1 rfl, by simpa using hf 2 f2 rfl, by simpa using hf 3 f3 rfl, by simpa using hf 4 f4 rfl, by simpa using hf 5 f5 rfl⟩
end
section
variable {H : Type} {enc : TypeId × Value → H} {w : World} {base : Nat} {sp : Nat → Bool} {held : Bool}
set_option maxRecDepth 100000 in
theorem open_era {r : Reach} {b0 : Nat} {v : Value} {d : DataW H} {p : List MemPlace} (hv : Value.okWide Tryz.prog w r b0 43 v) (h : DataW.Trod enc Tryz.prog w base sp held 43 v d p) :
  ∃ (off kind save : Int) (rs fm : ByteArray) (hh : Bool) (yr m k wk dd sec bb : Int), v = .agg #[.int .i64 off, .int .i64 kind, .int .i64 save, .string rs, .string fm, .bool hh, .int .i64 yr, .int .i64 m, .int .i64 k, .int .i64 wk, .int .i64 dd, .int .i64 sec, .int .i64 bb] ∧ rs.size ≤ maxLen ∧ fm.size ≤ maxLen ∧ (Lit.int .i64 yr).wf = true := by
 obtain ⟨cs, rfl, hsz⟩ := okWide_struct Tryz.underlying43 hv
 rw [cellsEra] at hsz
 obtain ⟨c0, c1, c2, c3, c4, c5, c6, c7, c8, c9, c10, c11, c12, rfl⟩ := array13 hsz
 obtain ⟨fuel, hf⟩ := h
 obtain ⟨y0, y1, y2, y3, y4, y5, n, g0, g1, g2, g3, g4, g5⟩ := trodE6 Tryz.underlying43 hf
 have g0' : DataW.trod enc Tryz.prog w base sp held n 2 [c0] = some y0 := by simpa [Value.cells, cellsI64E] using g0
 have g1' : DataW.trod enc Tryz.prog w base sp held n 3 [c1] = some y1 := by simpa [Value.cells, cellsIntE] using g1
 have g2' : DataW.trod enc Tryz.prog w base sp held n 2 [c2] = some y2 := by simpa [Value.cells, cellsI64E] using g2
 have g3' : DataW.trod enc Tryz.prog w base sp held n 9 [c3] = some y3 := by simpa [Value.cells, cellsStrE] using g3
 have g4' : DataW.trod enc Tryz.prog w base sp held n 9 [c4] = some y4 := by simpa [Value.cells, cellsStrE] using g4
 have g5' : DataW.trod enc Tryz.prog w base sp held n 41 [c5, c6, c7, c8, c9, c10, c11, c12] = some y5 := by simpa [Value.cells, cellsUnt] using g5
 obtain ⟨u0, u1, u2, u3, u4, n1, k0, k1, k2, k3, k4⟩ := trodE5 Tryz.underlying41 g5'
 have k0' : DataW.trod enc Tryz.prog w base sp held n1 4 [c5] = some u0 := by simpa [cellsBoolE] using k0
 have k1' : DataW.trod enc Tryz.prog w base sp held n1 3 [c6] = some u1 := by simpa [cellsIntE] using k1
 have k2' : DataW.trod enc Tryz.prog w base sp held n1 3 [c7] = some u2 := by simpa [cellsIntE] using k2
 have k3' : DataW.trod enc Tryz.prog w base sp held n1 24 [c8, c9, c10] = some u3 := by simpa [cellsOnE] using k3
 have k4' : DataW.trod enc Tryz.prog w base sp held n1 26 [c11, c12] = some u4 := by simpa [cellsAtE] using k4
 obtain ⟨x0, x1, x2, n2, _, _, o0, o1, o2⟩ := trod_struct3 Tryz.underlying24 k3'
 have o0' : DataW.trod enc Tryz.prog w base sp held n2 3 [c8] = some x0 := by simpa [cellsIntE] using o0
 have o1' : DataW.trod enc Tryz.prog w base sp held n2 3 [c9] = some x1 := by simpa [cellsIntE] using o1
 have o2' : DataW.trod enc Tryz.prog w base sp held n2 3 [c10] = some x2 := by simpa [cellsIntE] using o2
 obtain ⟨z0, z1, n3, _, _, m0, m1⟩ := trod_struct2 Tryz.underlying26 k4'
 have m0' : DataW.trod enc Tryz.prog w base sp held n3 2 [c11] = some z0 := by simpa [cellsI64E] using m0
 have m1' : DataW.trod enc Tryz.prog w base sp held n3 3 [c12] = some z1 := by simpa [cellsIntE] using m1
 obtain ⟨off, e0, _, _⟩ := DataW.trod_int Tryz.underlying2 g0'
 obtain ⟨kind, e1, _, _⟩ := DataW.trod_int Tryz.underlying3 g1'
 obtain ⟨save, e2, _, _⟩ := DataW.trod_int Tryz.underlying2 g2'
 obtain ⟨rs, e3, -, q3⟩ := DataW.trod_string Tryz.underlying9 g3'
 obtain ⟨fm, e4, -, q4⟩ := DataW.trod_string Tryz.underlying9 g4'
 obtain ⟨hh, e5, _⟩ := DataW.trod_bool Tryz.underlying4 k0'
 obtain ⟨yr, e6, _, q6⟩ := DataW.trod_int Tryz.underlying3 k1'
 obtain ⟨m, e7, _, _⟩ := DataW.trod_int Tryz.underlying3 k2'
 obtain ⟨k, e8, _, _⟩ := DataW.trod_int Tryz.underlying3 o0'
 obtain ⟨wk, e9, _, _⟩ := DataW.trod_int Tryz.underlying3 o1'
 obtain ⟨dd, e10, _, _⟩ := DataW.trod_int Tryz.underlying3 o2'
 obtain ⟨sec, e11, _, _⟩ := DataW.trod_int Tryz.underlying2 m0'
 obtain ⟨bb, e12, _, _⟩ := DataW.trod_int Tryz.underlying3 m1'
 simp at e0 e1 e2 e3 e4 e5 e6 e7 e8 e9 e10 e11 e12
 subst e0 e1 e2 e3 e4 e5 e6 e7 e8 e9 e10 e11 e12
 exact ⟨off, kind, save, rs, fm, hh, yr, m, k, wk, dd, sec, bb, rfl, q3, q4, q6⟩
end
end Go.Proofs.YtpggfhmnhbnefaaGreatDoor
set_option linter.unusedVariables false
set_option linter.unusedSimpArgs false
namespace Go.Proofs.YtpggfhmnhbnefaaGreatDoor
open Go.RowKit Go.ChangeShapes
theorem str_cells {H : Type} {enc : TypeId × Value → H} {P : Program} {w : World} {base : Nat} {sp : Nat → Bool} {held : Bool} {fuel : Nat} {t e : TypeId} {n : Nat} {cs : List Value} {ss : List ByteArray} {p : List MemPlace}
  (ht : P.underlying t = some (.array n e)) (he : P.underlying e = some .string) (hce : P.cellsOf e = 1)
  (h : DataW.trod enc P w base sp held fuel t cs = some (.agg (ss.map fun s => .lit (.string s.data.toList)), p)) : ∀ i (hi : i < ss.length), cs[i]? = some (.string ss[i]) := by
 obtain ⟨xs, m, rfl, hx, hl, hn, hall⟩ := DataW.trod_array ht h
 have hxs : xs.map (·.1) = ss.map fun s => (DataW.lit (.string s.data.toList) : DataW H) := by
  have := congrArg Prod.fst hx
  simpa using this.symm
 have hln : xs.length = ss.length := by
  have := congrArg List.length hxs
  simpa using this
 intro i hi
 have hf := hall i (by omega)
 rw [hce, Nat.mul_one, List.getElem?_eq_getElem (by omega)] at hf
 obtain ⟨s, hc, hd, _⟩ := DataW.trod_string he hf
 have h1 : cs[i]? = some (.string s) := by
  have := congrArg (·[0]?) hc
  simpa [List.getElem?_take, List.getElem?_drop] using this
 have h2 : (xs.map (·.1))[i]? = some (DataW.lit (.string s.data.toList) : DataW H) := by simp [List.getElem?_eq_getElem (show i < xs.length by omega), hd]
 rw [hxs, List.getElem?_map, List.getElem?_eq_getElem hi] at h2
 simp only [Option.map_some, Option.some.injEq, DataW.lit.injEq, Lit.string.injEq] at h2
 have : ss[i] = s := by
  apply ByteArray.ext
  exact Array.toList_inj.1 h2
 rw [h1, this]
theorem tab_cells {P : Program} {W : World} {name : String} {ss : List ByteArray} {rest : List (String × DataW Unit)} {g : Nat} {t e : TypeId} {n : Nat}
  (hg : P.globalNamed name = some g) (hty : (P.globals[g]?).map (·.type) = some t) (ht : P.underlying t = some (.array n e)) (he : P.underlying e = some .string) (hce : P.cellsOf e = 1)
  (h : laidMet P ((name, .agg (ss.map fun s => .lit (.string s.data.toList))) :: rest) W) : ∀ i (hi : i < ss.length), W.cell? ⟨g, i, none⟩ = some (.string ss[i]) := by
 obtain ⟨ps, ⟨g', t', cs, fuel, p, q, hg', ht', hvar, hd, _, _⟩, _⟩ := h
 obtain rfl := Option.some.inj (hg.symm.trans hg')
 obtain rfl := Option.some.inj (hty.symm.trans ht')
 intro i hi
 have h1 := str_cells ht he hce hd i hi
 have := World.var?_cell hg hvar i
 rw [this]
 simpa using h1
theorem cellsString : Tryz.prog.cellsOf 9 = 1 := by kernel_rfl
end Go.Proofs.YtpggfhmnhbnefaaGreatDoor
