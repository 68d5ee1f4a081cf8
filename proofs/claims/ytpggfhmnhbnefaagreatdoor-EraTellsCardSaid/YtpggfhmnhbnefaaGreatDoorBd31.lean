/- Joined: ErN. -/
import Derived.Test.YtpggfhmnhbnefaaGreatDoorBd01
import Derived.Test.YtpggfhmnhbnefaaGreatDoorBd17
import Derived.Test.YtpggfhmnhbnefaaGreatDoorBd30
import Derived.Test.YtpggfhmnhbnefaaGreatDoorBd21
import Derived.Test.YtpggfhmnhbnefaaGreatDoorBd26
import Derived.Test.YtpggfhmnhbnefaaGreatDoorBd24
import Derived.Test.YtpggfhmnhbnefaaGreatDoorBd23
import Derived.Deep.Cut
set_option linter.unusedVariables false
set_option linter.unusedSimpArgs false
namespace Go.Proofs.YtpggfhmnhbnefaaGreatDoor
open Go.RowKit Go.Sort
theorem blk_cell {W : World} {B : Nat} {t : TypeId} {vs : Array Value} (h : Blk W B t vs) (j : Nat) (v : Value) (e : vs[j]? = some v) : W.cell? ⟨B, j, none⟩ = some v := by
 rw [← e]
 simp [World.cell?, show W.heap[B]? = _ from h]
set_option maxHeartbeats 8000000 in
set_option maxRecDepth 100000 in
theorem rerfields_any (off kind save : Int) (rs fm : ByteArray) (h : Bool) (y m k wk d sec base : Int) (w : World) (hs : rs.size ≤ 600) (hf : fm.size ≤ 600) (y0 : -9223372036854775808 ≤ y) (y1 : y ≤ 9223372036854775807) :
  Calls Tryz.prog 21 #[.agg #[.int .i64 off, .int .i64 kind, .int .i64 save, .string rs, .string fm, .bool h, .int .i64 y, .int .i64 m, .int .i64 k, .int .i64 wk, .int .i64 d, .int .i64 sec, .int .i64 base]] w (AnsF (Er.fl (⟨off, kind, save, rs, fm, ⟨h, y, m, k, wk, d, sec, base⟩⟩ : Er.E)) w) := by
 have RB := Lib.hid (fun W => rerright_any off kind save rs fm h y m k wk d sec base W hs hf y0 y1)
 cases hok : Er.ok off kind save rs fm h y m k wk d sec base
 ·
  rw [hok] at RB
  rw [Er.fl_no (e := (⟨off, kind, save, rs, fm, ⟨h, y, m, k, wk, d, sec, base⟩⟩ : Er.E)) hok]
  clear hok hs hf y0 y1
  go_enter Tryz.func21, Tryz.ntmps21
  go_wp2_with fail
  refine (RB.out _).mono ?_; rintro e w1 ⟨rfl, b1⟩
  have d1 : Below w.heap.size w w1 := below_step gr0 b1
  have B1 := Lib.hid d1
  have X1 : Bk13 w1 (w.heap.size) (.int .i64 off) (.int .i64 kind) (.int .i64 save) (.string rs) (.string fm) (.bool h) (.int .i64 y) (.int .i64 m) (.int .i64 k) (.int .i64 wk) (.int .i64 d) (.int .i64 sec) (.int .i64 base) := by refine Bk13.of b1 (by simp <;> omega) (by intro j; simp [go_sem]) ?_ ?_ ?_ ?_ ?_ ?_ ?_ ?_ ?_ ?_ ?_ ?_ ?_ <;> simp [go_sem]
  clear b1 d1
  have tx := X1; obtain ⟨cX_b, cX_f, cX_0, cX_1, cX_2, cX_3, cX_4, cX_5, cX_6, cX_7, cX_8, cX_9, cX_10, cX_11, cX_12⟩ := tx
  go_wp2_with fail
  clear cX_b cX_f cX_0 cX_1 cX_2 cX_3 cX_4 cX_5 cX_6 cX_7 cX_8 cX_9 cX_10 cX_11 cX_12
  go_ret2
  exact ⟨_, [], Lst.nil _ _, rfl, rfl, B1.out⟩
 ·
  rw [hok] at RB
  rw [Er.fl_yes (e := (⟨off, kind, save, rs, fm, ⟨h, y, m, k, wk, d, sec, base⟩⟩ : Er.E)) hok]
  obtain ⟨a0, a1, a2, a3, a4⟩ := Er.ok_of (e := (⟨off, kind, save, rs, fm, ⟨h, y, m, k, wk, d, sec, base⟩⟩ : Er.E)) hok
  simp only [] at a0 a1 a2 a3 a4
  have hk3 : (kind = 0 ∧ Er.rtx kind save rs = ⟨#[45]⟩) ∨ (kind = 1 ∧ Er.rtx kind save rs = (Am.tx save).1) ∨ (kind = 2 ∧ Er.rtx kind save rs = rs) := by
   unfold Er.rulR at a2
   by_cases k0 : kind = 0
   ·
    subst k0; exact .inl ⟨rfl, rfl⟩
   ·
    rw [if_neg k0] at a2
    by_cases k1 : kind = 1
    ·
     subst k1; exact .inr (.inl ⟨rfl, rfl⟩)
    ·
     rw [if_neg k1] at a2
     by_cases k2 : kind = 2
     ·
      subst k2; exact .inr (.inr ⟨rfl, rfl⟩)
     ·
      rw [if_neg k2] at a2; exact absurd a2 (by decide)
  have AT := Lib.hid (fun W => ratext_any off W)
  have AS := Lib.hid (fun W => ratext_any save W)
  have NT : Hid (∀ W, Calls Tryz.prog 70 #[.int .i64 y] W fun e w' => e = .returned (.string (Yr.tI y)) ∧ Below W.heap.size W w') := fun W => rtext_any y W y0 y1
  have MT := Lib.hid (fun W => mtextr_any m W)
  have DT := Lib.hid (fun W => rdtext_any k wk d W)
  have KT := Lib.hid (fun W => ktext_any sec base W)
  have ht : (⟨off, kind, save, rs, fm, ⟨h, y, m, k, wk, d, sec, base⟩⟩ : Er.E).ts = [(Am.tx off).1, Er.rtx kind save rs, fm] ++ (⟨h, y, m, k, wk, d, sec, base⟩ : Er.U).et := rfl
  rw [ht]
  have hE : (⟨h, y, m, k, wk, d, sec, base⟩ : Er.U).et = if h = true then [Yr.tI y, Wd.t3 Wd.months (m - 1), (Ds.tx k wk d).1, (Cl.tx sec base).1].take ((if ¬ (sec = 0 ∧ base = 0) then 3 else if ¬ (k = 0 ∧ wk = 0 ∧ d = 1) then 2 else if ¬ m = 1 then 1 else 0) + 1) else [] := rfl
  clear hok hs hf y0 y1 a0 a1 a2 a3 a4 ht
  generalize (⟨h, y, m, k, wk, d, sec, base⟩ : Er.U).et = E at *
  generalize (Am.tx off).1 = x0 at *
  generalize (Am.tx off).2 = q0 at *
  generalize Er.rtx kind save rs = x1 at *
  generalize (Am.tx save).1 = xs at *
  generalize (Am.tx save).2 = qs at *
  generalize Yr.tI y = t0 at *
  generalize Wd.t3 Wd.months (m - 1) = t1 at *
  generalize (Ds.tx k wk d).1 = t2 at *
  generalize (Ds.tx k wk d).2 = q2 at *
  generalize (Cl.tx sec base).1 = t3 at *
  generalize (Cl.tx sec base).2 = q3 at *
  have HE := Lib.hid hE; clear hE
  have HK := Lib.hid hk3; clear hk3
  obtain ⟨i0, hi, hz0, hz1, hz2⟩ := fd_parts fd_info
  go_enter Tryz.func21, Tryz.ntmps21
  go_wp2_with fail
  refine (RB.out _).mono ?_; rintro e w1 ⟨rfl, b1⟩
  have d1 : Below w.heap.size w w1 := below_step gr0 b1
  have B1 := Lib.hid d1
  have X1 : Bk13 w1 (w.heap.size) (.int .i64 off) (.int .i64 kind) (.int .i64 save) (.string rs) (.string fm) (.bool h) (.int .i64 y) (.int .i64 m) (.int .i64 k) (.int .i64 wk) (.int .i64 d) (.int .i64 sec) (.int .i64 base) := by refine Bk13.of b1 (by simp <;> omega) (by intro j; simp [go_sem]) ?_ ?_ ?_ ?_ ?_ ?_ ?_ ?_ ?_ ?_ ?_ ?_ ?_ <;> simp [go_sem]
  clear b1 d1
  have tx := X1; obtain ⟨cX_b, cX_f, cX_0, cX_1, cX_2, cX_3, cX_4, cX_5, cX_6, cX_7, cX_8, cX_9, cX_10, cX_11, cX_12⟩ := tx
  go_wp2_with fail
  clear cX_b cX_f cX_0 cX_1 cX_2 cX_3 cX_4 cX_5 cX_6 cX_7 cX_8 cX_9 cX_10 cX_11 cX_12
  refine (AT.out _).mono ?_; rintro e w2 ⟨rfl, b2⟩
  have d2 : Below w1.heap.size w1 w2 := below_step gr0 b2
  have B2 := Lib.hid (below_step B1.out d2)
  have X2 := X1.keep d2
  clear X1 b2 d2 B1
  have tx := X2; obtain ⟨cX_b, cX_f, cX_0, cX_1, cX_2, cX_3, cX_4, cX_5, cX_6, cX_7, cX_8, cX_9, cX_10, cX_11, cX_12⟩ := tx
  go_wp2_with fail
  clear cX_b cX_f cX_0 cX_1 cX_2 cX_3 cX_4 cX_5 cX_6 cX_7 cX_8 cX_9 cX_10 cX_11 cX_12
  refine (AS.out _).mono ?_; rintro e w3 ⟨rfl, b3⟩
  have d3 : Below w2.heap.size w2 w3 := below_step gr0 b3
  have B3 := Lib.hid (below_step B2.out d3)
  have X3 := X2.keep d3
  clear X2 b3 d3 B2
  have tx := X3; obtain ⟨cX_b, cX_f, cX_0, cX_1, cX_2, cX_3, cX_4, cX_5, cX_6, cX_7, cX_8, cX_9, cX_10, cX_11, cX_12⟩ := tx
  go_upto_region 6 with (fail)
  clear cX_b cX_f cX_0 cX_1 cX_2 cX_3 cX_4 cX_5 cX_6 cX_7 cX_8 cX_9 cX_10 cX_11 cX_12
  refine wp_named ?_; intro w4 hw4
  have d4 : Below w3.heap.size w3 w4 := by rw [hw4]; exact gr0
  have B4 := Lib.hid (below_step B3.out d4)
  have X4 := X3.keep d4
  have aK := B3.out.size
  have nKX := Nat.ne_of_lt X3.hb
  have oKX := Nat.ne_of_gt X3.hb
  have K4 : Bk3 w4 (w3.heap.size) (.string ⟨#[45]⟩) (.string xs) (.string rs) := by rw [hw4]; exact ⟨by simp <;> omega, by intro j; simp [go_sem], by simp [go_sem], by simp [go_sem], by simp [go_sem]⟩
  clear X3 d4 hw4 B3
  go_cut [9] from 37 (fun x wx => ∃ Bo c, x = .slice (some ⟨Bo, 0, none⟩) 3 c ∧ Below w.heap.size w wx ∧ Bk13 wx w.heap.size (.int .i64 off) (.int .i64 kind) (.int .i64 save) (.string rs) (.string fm) (.bool h) (.int .i64 y) (.int .i64 m) (.int .i64 k) (.int .i64 wk) (.int .i64 d) (.int .i64 sec) (.int .i64 base) ∧ wx.ownsRow w.heap.size 9 1 (.slice (some ⟨Bo, 0, none⟩) 3 c) 3 [.string x0, .string x1, .string fm])
  case first =>
   rcases HK.out with ⟨rfl, rfl⟩ | ⟨rfl, rfl⟩ | ⟨rfl, rfl⟩
   ·
    have XN := X4
    clear X4
    have tx := K4; obtain ⟨cK_b, cK_f, cK_0, cK_1, cK_2⟩ := tx
    have tx := XN; obtain ⟨cX_b, cX_f, cX_0, cX_1, cX_2, cX_3, cX_4, cX_5, cX_6, cX_7, cX_8, cX_9, cX_10, cX_11, cX_12⟩ := tx
    go_wp2_with fail
    clear cK_b cK_f cK_0 cK_1 cK_2 cX_b cX_f cX_0 cX_1 cX_2 cX_3 cX_4 cX_5 cX_6 cX_7 cX_8 cX_9 cX_10 cX_11 cX_12
    have qK_0 := cell_regrown K4.k0
    have qK_1 := cell_regrown K4.k1
    have qK_2 := cell_regrown K4.k2
    have qX_0 := cell_regrown XN.k0
    have qX_1 := cell_regrown XN.k1
    have qX_2 := cell_regrown XN.k2
    have qX_3 := cell_regrown XN.k3
    have qX_4 := cell_regrown XN.k4
    have qX_5 := cell_regrown XN.k5
    have qX_6 := cell_regrown XN.k6
    have qX_7 := cell_regrown XN.k7
    have qX_8 := cell_regrown XN.k8
    have qX_9 := cell_regrown XN.k9
    have qX_10 := cell_regrown XN.k10
    have qX_11 := cell_regrown XN.k11
    have qX_12 := cell_regrown XN.k12
    refine wp_region_qbt (w := w4) 8 (by kernel_rfl) (by kernel_rfl) gr0 ?_
    simp only [List.take_succ_cons, List.take_zero, List.drop_succ_cons, List.drop_zero]
    repeat (any_goals (first | go_big_quiet_step (fail) | quiet_step (fail)))
    refine wpQuiet_nil ?_
    intro w5 b5
    clear qK_0 qK_1 qK_2 qX_0 qX_1 qX_2 qX_3 qX_4 qX_5 qX_6 qX_7 qX_8 qX_9 qX_10 qX_11 qX_12
    have d5 : Below w4.heap.size w4 w5 := below_step gr0 b5
    have B5 := Lib.hid (below_step B4.out d5)
    have K5 := K4.keep d5
    have X5 := XN.keep d5
    clear K4 XN b5 d5 B4
    go_wp2_with fail
    go_meet
    exact ⟨_, _, rfl, below_step B5.out ((Below.refl _ _).alloc (Nat.le_refl _) _), X5.keep ((Below.refl _ _).alloc (Nat.le_refl _) _), World.ownsRow_lit _ _ 3 B5.out.size (by decide) rfl⟩
   ·
    have XN := X4
    clear X4
    have tx := K4; obtain ⟨cK_b, cK_f, cK_0, cK_1, cK_2⟩ := tx
    have tx := XN; obtain ⟨cX_b, cX_f, cX_0, cX_1, cX_2, cX_3, cX_4, cX_5, cX_6, cX_7, cX_8, cX_9, cX_10, cX_11, cX_12⟩ := tx
    go_wp2_with fail
    clear cK_b cK_f cK_0 cK_1 cK_2 cX_b cX_f cX_0 cX_1 cX_2 cX_3 cX_4 cX_5 cX_6 cX_7 cX_8 cX_9 cX_10 cX_11 cX_12
    have qK_0 := cell_regrown K4.k0
    have qK_1 := cell_regrown K4.k1
    have qK_2 := cell_regrown K4.k2
    have qX_0 := cell_regrown XN.k0
    have qX_1 := cell_regrown XN.k1
    have qX_2 := cell_regrown XN.k2
    have qX_3 := cell_regrown XN.k3
    have qX_4 := cell_regrown XN.k4
    have qX_5 := cell_regrown XN.k5
    have qX_6 := cell_regrown XN.k6
    have qX_7 := cell_regrown XN.k7
    have qX_8 := cell_regrown XN.k8
    have qX_9 := cell_regrown XN.k9
    have qX_10 := cell_regrown XN.k10
    have qX_11 := cell_regrown XN.k11
    have qX_12 := cell_regrown XN.k12
    refine wp_region_qbt (w := w4) 8 (by kernel_rfl) (by kernel_rfl) gr0 ?_
    simp only [List.take_succ_cons, List.take_zero, List.drop_succ_cons, List.drop_zero]
    repeat (any_goals (first | go_big_quiet_step (fail) | quiet_step (fail)))
    refine wpQuiet_nil ?_
    intro w5 b5
    clear qK_0 qK_1 qK_2 qX_0 qX_1 qX_2 qX_3 qX_4 qX_5 qX_6 qX_7 qX_8 qX_9 qX_10 qX_11 qX_12
    have d5 : Below w4.heap.size w4 w5 := below_step gr0 b5
    have B5 := Lib.hid (below_step B4.out d5)
    have K5 := K4.keep d5
    have X5 := XN.keep d5
    clear K4 XN b5 d5 B4
    go_wp2_with fail
    go_meet
    exact ⟨_, _, rfl, below_step B5.out ((Below.refl _ _).alloc (Nat.le_refl _) _), X5.keep ((Below.refl _ _).alloc (Nat.le_refl _) _), World.ownsRow_lit _ _ 3 B5.out.size (by decide) rfl⟩
   ·
    have XN := X4
    clear X4
    have tx := K4; obtain ⟨cK_b, cK_f, cK_0, cK_1, cK_2⟩ := tx
    have tx := XN; obtain ⟨cX_b, cX_f, cX_0, cX_1, cX_2, cX_3, cX_4, cX_5, cX_6, cX_7, cX_8, cX_9, cX_10, cX_11, cX_12⟩ := tx
    go_wp2_with fail
    clear cK_b cK_f cK_0 cK_1 cK_2 cX_b cX_f cX_0 cX_1 cX_2 cX_3 cX_4 cX_5 cX_6 cX_7 cX_8 cX_9 cX_10 cX_11 cX_12
    have qK_0 := cell_regrown K4.k0
    have qK_1 := cell_regrown K4.k1
    have qK_2 := cell_regrown K4.k2
    have qX_0 := cell_regrown XN.k0
    have qX_1 := cell_regrown XN.k1
    have qX_2 := cell_regrown XN.k2
    have qX_3 := cell_regrown XN.k3
    have qX_4 := cell_regrown XN.k4
    have qX_5 := cell_regrown XN.k5
    have qX_6 := cell_regrown XN.k6
    have qX_7 := cell_regrown XN.k7
    have qX_8 := cell_regrown XN.k8
    have qX_9 := cell_regrown XN.k9
    have qX_10 := cell_regrown XN.k10
    have qX_11 := cell_regrown XN.k11
    have qX_12 := cell_regrown XN.k12
    refine wp_region_qbt (w := w4) 8 (by kernel_rfl) (by kernel_rfl) gr0 ?_
    simp only [List.take_succ_cons, List.take_zero, List.drop_succ_cons, List.drop_zero]
    repeat (any_goals (first | go_big_quiet_step (fail) | quiet_step (fail)))
    refine wpQuiet_nil ?_
    intro w5 b5
    clear qK_0 qK_1 qK_2 qX_0 qX_1 qX_2 qX_3 qX_4 qX_5 qX_6 qX_7 qX_8 qX_9 qX_10 qX_11 qX_12
    have d5 : Below w4.heap.size w4 w5 := below_step gr0 b5
    have B5 := Lib.hid (below_step B4.out d5)
    have K5 := K4.keep d5
    have X5 := XN.keep d5
    clear K4 XN b5 d5 B4
    go_wp2_with fail
    go_meet
    exact ⟨_, _, rfl, below_step B5.out ((Below.refl _ _).alloc (Nat.le_refl _) _), X5.keep ((Below.refl _ _).alloc (Nat.le_refl _) _), World.ownsRow_lit _ _ 3 B5.out.size (by decide) rfl⟩
  obtain ⟨Bo, c9, rfl, b9, X9, o9⟩ := hcut
  have BB := Lib.hid b9
  have OO := Lib.hid o9
  clear X4 K4 B4 b9 o9
  have cx_b := X9.hb; have cx_f := X9.fz; have cx_0 := X9.k0; have cx_1 := X9.k1; have cx_2 := X9.k2; have cx_3 := X9.k3; have cx_4 := X9.k4; have cx_5 := X9.k5; have cx_6 := X9.k6; have cx_7 := X9.k7; have cx_8 := X9.k8; have cx_9 := X9.k9; have cx_10 := X9.k10; have cx_11 := X9.k11; have cx_12 := X9.k12
  clear X9
  cases h with
  | false =>
   go_wp2_with fail
   go_ret2
   obtain rfl : E = [] := by rw [HE.out]; rfl
   exact ⟨_, [x0, x1, fm] ++ [], Lst.own (own_on OO.out ((Below.refl _ _).alloc (Nat.le_refl _) _)), rfl, rfl, below_step BB.out ((Below.refl _ _).alloc (Nat.le_refl _) _)⟩
  | true =>
   go_upto_region 8 with (fail)
   refine wp_named ?_; intro wu hwu
   have bu : Below wc.heap.size wc wu := by rw [hwu]; exact (Below.refl _ _).alloc (Nat.le_refl _) _
   have BU : Blk wu wc.heap.size 41 #[.bool true, .int .i64 y, .int .i64 m, .int .i64 k, .int .i64 wk, .int .i64 d, .int .i64 sec, .int .i64 base] := by rw [hwu]; exact Blk.new _ _ _
   have own := own_on OO.out bu
   
   have BB0 := Lib.hid (below_step BB.out bu)
   clear hwu bu OO BB cx_b cx_f cx_0 cx_1 cx_2 cx_3 cx_4 cx_5 cx_6 cx_7 cx_8 cx_9 cx_10 cx_11 cx_12
   have u_0 := blk_cell BU 0 _ rfl; have u_1 := blk_cell BU 1 _ rfl; have u_2 := blk_cell BU 2 _ rfl; have u_3 := blk_cell BU 3 _ rfl; have u_4 := blk_cell BU 4 _ rfl; have u_5 := blk_cell BU 5 _ rfl; have u_6 := blk_cell BU 6 _ rfl; have u_7 := blk_cell BU 7 _ rfl
   have u_f := BU.frozen; have u_b := BU.lt
   go_wp2_with fail
   refine (NT.out _).mono ?_; rintro e wd ⟨rfl, bd⟩
   have BU1 := BU.on bd; have own1 := own_on own bd; have BB1 := Lib.hid (below_step BB0.out bd)
   clear BU own BB0 bd u_f u_b u_0 u_1 u_2 u_3 u_4 u_5 u_6 u_7
   have OL := Lib.hid (World.ownsRow_lit (base := wd.heap.size) (e := 9) (size := 1) wd #[.string t0] 1 (Nat.le_refl _) (by decide) rfl)
   have OX := Lib.hid (own_on own1 (show Below wd.heap.size wd (wd.alloc (.cells #[.string t0] 9)) from (Below.refl _ _).alloc (Nat.le_refl _) _))
   have BX := Lib.hid (BU1.alloc (.cells #[.string t0] 9))
   clear own1 BU1
   go_wp2_with (at_builtin; refine wpList_append_lst rfl _ _ 22 rfl w.heap.size 9 i0 (.string ⟨#[]⟩) 1 16 Tryz.underlying22 hi hz0 hz1 hz2 rfl (by decide) _ 3 _ rfl OX.out _ 1 _ [.string t0] rfl (Lst.own OL.out) rfl (by intro u hu; rcases List.mem_singleton.1 hu with rfl; rfl) (by decide) (by decide) (by have := BB1.out.size; simp; omega) ?_)
   intro va wa own2 grow2
   have BU := BX.out.kept grow2 (BX.out.not_row (by decide) OX.out)
   have bq : Below w.heap.size (wd.alloc (.cells #[.string t0] 9)) wa := below_grown grow2 (by have := BB1.out.size; simp; omega) (own_row OX.out)
   have BB0 : Hid (Below w.heap.size w wa) := Lib.hid ((below_step BB1.out ((Below.refl _ _).alloc (Nat.le_refl _) (.cells #[.string t0] 9))).trans bq)
   obtain ⟨A0, c0, hv0⟩ : ∃ A c, va = .slice A (3 + 1) c := by obtain ⟨A, c, h, _⟩ := own_room own2; exact ⟨A, c, h⟩
   subst hv0
   have own := own2
   clear own2 grow2 OL OX BX bq BB1
   obtain ⟨bm, hbm⟩ : ∃ b : Bool, b = !decide (m = 1) := ⟨_, rfl⟩
   obtain ⟨bd, hbd⟩ : ∃ b : Bool, b = !decide (k = 0 ∧ wk = 0 ∧ d = 1) := ⟨_, rfl⟩
   obtain ⟨bt, hbt⟩ : ∃ b : Bool, b = !decide (sec = 0 ∧ base = 0) := ⟨_, rfl⟩
   have HM := Lib.hid hbm; have HD := Lib.hid hbd; have HT := Lib.hid hbt
   clear hbm hbd hbt
   have u_0 := blk_cell BU 0 _ rfl; have u_1 := blk_cell BU 1 _ rfl; have u_2 := blk_cell BU 2 _ rfl; have u_3 := blk_cell BU 3 _ rfl; have u_4 := blk_cell BU 4 _ rfl; have u_5 := blk_cell BU 5 _ rfl; have u_6 := blk_cell BU 6 _ rfl; have u_7 := blk_cell BU 7 _ rfl
   go_upto_region 11 with (fail)
   go_cut [11, 12, 13] from 58 (fun a b c wx => a = .bool bm ∧ b = .bool bd ∧ c = .bool bt ∧ Below wa.heap.size wa wx)
   case first =>
    by_cases hsec : sec = 0
    ·
     subst hsec
     by_cases hbase : base = 0
     ·
      subst hbase
      by_cases hk : k = 0
      ·
       subst hk
       by_cases hwk : wk = 0
       ·
        subst hwk
        by_cases hd : d = 1
        ·
         subst hd
         by_cases hm : m = 1
         ·
          subst hm
          obtain rfl : bt = false := by rw [HT.out]; simp
          obtain rfl : bd = false := by rw [HD.out]; simp
          obtain rfl : bm = false := by rw [HM.out]; simp
          clear HM HD HT HE
          go_quiet (fail)
          go_wp2_with fail
          go_meet
          exact ⟨by first | rfl | simp [bne, *], by first | rfl | simp [bne, *], by first | rfl | simp [bne, *], by first | exact (Below.refl _ _).drew | exact Below.refl _ _ | exact below_drewN (Below.refl _ _) _⟩
         ·
          have zbm : (m == 1) = false := by rw [beq_eq_false_iff_ne]; exact hm
          obtain rfl : bt = false := by rw [HT.out]; simp
          obtain rfl : bd = false := by rw [HD.out]; simp
          obtain rfl : bm = true := by rw [HM.out]; simp [*]
          clear HM HD HT HE
          go_quiet (fail)
          go_wp2_with fail
          go_meet
          exact ⟨by first | rfl | simp [bne, *], by first | rfl | simp [bne, *], by first | rfl | simp [bne, *], by first | exact (Below.refl _ _).drew | exact Below.refl _ _ | exact below_drewN (Below.refl _ _) _⟩
        ·
         have zbd : (d == 1) = false := by rw [beq_eq_false_iff_ne]; exact hd
         by_cases hm : m = 1
         ·
          subst hm
          obtain rfl : bt = false := by rw [HT.out]; simp
          obtain rfl : bd = true := by rw [HD.out]; simp [*]
          obtain rfl : bm = false := by rw [HM.out]; simp
          clear HM HD HT HE
          go_quiet (fail)
          go_wp2_with fail
          go_meet
          exact ⟨by first | rfl | simp [bne, *], by first | rfl | simp [bne, *], by first | rfl | simp [bne, *], by first | exact (Below.refl _ _).drew | exact Below.refl _ _ | exact below_drewN (Below.refl _ _) _⟩
         ·
          have zbm : (m == 1) = false := by rw [beq_eq_false_iff_ne]; exact hm
          obtain rfl : bt = false := by rw [HT.out]; simp
          obtain rfl : bd = true := by rw [HD.out]; simp [*]
          obtain rfl : bm = true := by rw [HM.out]; simp [*]
          clear HM HD HT HE
          go_quiet (fail)
          go_wp2_with fail
          go_meet
          exact ⟨by first | rfl | simp [bne, *], by first | rfl | simp [bne, *], by first | rfl | simp [bne, *], by first | exact (Below.refl _ _).drew | exact Below.refl _ _ | exact below_drewN (Below.refl _ _) _⟩
       ·
        have zbwk : (wk == 0) = false := by rw [beq_eq_false_iff_ne]; exact hwk
        by_cases hm : m = 1
        ·
         subst hm
         obtain rfl : bt = false := by rw [HT.out]; simp
         obtain rfl : bd = true := by rw [HD.out]; simp [*]
         obtain rfl : bm = false := by rw [HM.out]; simp
         clear HM HD HT HE
         go_quiet (fail)
         go_wp2_with fail
         go_meet
         exact ⟨by first | rfl | simp [bne, *], by first | rfl | simp [bne, *], by first | rfl | simp [bne, *], by first | exact (Below.refl _ _).drew | exact Below.refl _ _ | exact below_drewN (Below.refl _ _) _⟩
        ·
         have zbm : (m == 1) = false := by rw [beq_eq_false_iff_ne]; exact hm
         obtain rfl : bt = false := by rw [HT.out]; simp
         obtain rfl : bd = true := by rw [HD.out]; simp [*]
         obtain rfl : bm = true := by rw [HM.out]; simp [*]
         clear HM HD HT HE
         go_quiet (fail)
         go_wp2_with fail
         go_meet
         exact ⟨by first | rfl | simp [bne, *], by first | rfl | simp [bne, *], by first | rfl | simp [bne, *], by first | exact (Below.refl _ _).drew | exact Below.refl _ _ | exact below_drewN (Below.refl _ _) _⟩
      ·
       have zbk : (k == 0) = false := by rw [beq_eq_false_iff_ne]; exact hk
       by_cases hm : m = 1
       ·
        subst hm
        obtain rfl : bt = false := by rw [HT.out]; simp
        obtain rfl : bd = true := by rw [HD.out]; simp [*]
        obtain rfl : bm = false := by rw [HM.out]; simp
        clear HM HD HT HE
        go_quiet (fail)
        go_wp2_with fail
        go_meet
        exact ⟨by first | rfl | simp [bne, *], by first | rfl | simp [bne, *], by first | rfl | simp [bne, *], by first | exact (Below.refl _ _).drew | exact Below.refl _ _ | exact below_drewN (Below.refl _ _) _⟩
       ·
        have zbm : (m == 1) = false := by rw [beq_eq_false_iff_ne]; exact hm
        obtain rfl : bt = false := by rw [HT.out]; simp
        obtain rfl : bd = true := by rw [HD.out]; simp [*]
        obtain rfl : bm = true := by rw [HM.out]; simp [*]
        clear HM HD HT HE
        go_quiet (fail)
        go_wp2_with fail
        go_meet
        exact ⟨by first | rfl | simp [bne, *], by first | rfl | simp [bne, *], by first | rfl | simp [bne, *], by first | exact (Below.refl _ _).drew | exact Below.refl _ _ | exact below_drewN (Below.refl _ _) _⟩
     ·
      have zbbase : (base == 0) = false := by rw [beq_eq_false_iff_ne]; exact hbase
      by_cases hk : k = 0
      ·
       subst hk
       by_cases hwk : wk = 0
       ·
        subst hwk
        by_cases hd : d = 1
        ·
         subst hd
         by_cases hm : m = 1
         ·
          subst hm
          obtain rfl : bt = true := by rw [HT.out]; simp [*]
          obtain rfl : bd = false := by rw [HD.out]; simp
          obtain rfl : bm = false := by rw [HM.out]; simp
          clear HM HD HT HE
          go_quiet (fail)
          go_wp2_with fail
          go_meet
          exact ⟨by first | rfl | simp [bne, *], by first | rfl | simp [bne, *], by first | rfl | simp [bne, *], by first | exact (Below.refl _ _).drew | exact Below.refl _ _ | exact below_drewN (Below.refl _ _) _⟩
         ·
          have zbm : (m == 1) = false := by rw [beq_eq_false_iff_ne]; exact hm
          obtain rfl : bt = true := by rw [HT.out]; simp [*]
          obtain rfl : bd = false := by rw [HD.out]; simp
          obtain rfl : bm = true := by rw [HM.out]; simp [*]
          clear HM HD HT HE
          go_quiet (fail)
          go_wp2_with fail
          go_meet
          exact ⟨by first | rfl | simp [bne, *], by first | rfl | simp [bne, *], by first | rfl | simp [bne, *], by first | exact (Below.refl _ _).drew | exact Below.refl _ _ | exact below_drewN (Below.refl _ _) _⟩
        ·
         have zbd : (d == 1) = false := by rw [beq_eq_false_iff_ne]; exact hd
         by_cases hm : m = 1
         ·
          subst hm
          obtain rfl : bt = true := by rw [HT.out]; simp [*]
          obtain rfl : bd = true := by rw [HD.out]; simp [*]
          obtain rfl : bm = false := by rw [HM.out]; simp
          clear HM HD HT HE
          go_quiet (fail)
          go_wp2_with fail
          go_meet
          exact ⟨by first | rfl | simp [bne, *], by first | rfl | simp [bne, *], by first | rfl | simp [bne, *], by first | exact (Below.refl _ _).drew | exact Below.refl _ _ | exact below_drewN (Below.refl _ _) _⟩
         ·
          have zbm : (m == 1) = false := by rw [beq_eq_false_iff_ne]; exact hm
          obtain rfl : bt = true := by rw [HT.out]; simp [*]
          obtain rfl : bd = true := by rw [HD.out]; simp [*]
          obtain rfl : bm = true := by rw [HM.out]; simp [*]
          clear HM HD HT HE
          go_quiet (fail)
          go_wp2_with fail
          go_meet
          exact ⟨by first | rfl | simp [bne, *], by first | rfl | simp [bne, *], by first | rfl | simp [bne, *], by first | exact (Below.refl _ _).drew | exact Below.refl _ _ | exact below_drewN (Below.refl _ _) _⟩
       ·
        have zbwk : (wk == 0) = false := by rw [beq_eq_false_iff_ne]; exact hwk
        by_cases hm : m = 1
        ·
         subst hm
         obtain rfl : bt = true := by rw [HT.out]; simp [*]
         obtain rfl : bd = true := by rw [HD.out]; simp [*]
         obtain rfl : bm = false := by rw [HM.out]; simp
         clear HM HD HT HE
         go_quiet (fail)
         go_wp2_with fail
         go_meet
         exact ⟨by first | rfl | simp [bne, *], by first | rfl | simp [bne, *], by first | rfl | simp [bne, *], by first | exact (Below.refl _ _).drew | exact Below.refl _ _ | exact below_drewN (Below.refl _ _) _⟩
        ·
         have zbm : (m == 1) = false := by rw [beq_eq_false_iff_ne]; exact hm
         obtain rfl : bt = true := by rw [HT.out]; simp [*]
         obtain rfl : bd = true := by rw [HD.out]; simp [*]
         obtain rfl : bm = true := by rw [HM.out]; simp [*]
         clear HM HD HT HE
         go_quiet (fail)
         go_wp2_with fail
         go_meet
         exact ⟨by first | rfl | simp [bne, *], by first | rfl | simp [bne, *], by first | rfl | simp [bne, *], by first | exact (Below.refl _ _).drew | exact Below.refl _ _ | exact below_drewN (Below.refl _ _) _⟩
      ·
       have zbk : (k == 0) = false := by rw [beq_eq_false_iff_ne]; exact hk
       by_cases hm : m = 1
       ·
        subst hm
        obtain rfl : bt = true := by rw [HT.out]; simp [*]
        obtain rfl : bd = true := by rw [HD.out]; simp [*]
        obtain rfl : bm = false := by rw [HM.out]; simp
        clear HM HD HT HE
        go_quiet (fail)
        go_wp2_with fail
        go_meet
        exact ⟨by first | rfl | simp [bne, *], by first | rfl | simp [bne, *], by first | rfl | simp [bne, *], by first | exact (Below.refl _ _).drew | exact Below.refl _ _ | exact below_drewN (Below.refl _ _) _⟩
       ·
        have zbm : (m == 1) = false := by rw [beq_eq_false_iff_ne]; exact hm
        obtain rfl : bt = true := by rw [HT.out]; simp [*]
        obtain rfl : bd = true := by rw [HD.out]; simp [*]
        obtain rfl : bm = true := by rw [HM.out]; simp [*]
        clear HM HD HT HE
        go_quiet (fail)
        go_wp2_with fail
        go_meet
        exact ⟨by first | rfl | simp [bne, *], by first | rfl | simp [bne, *], by first | rfl | simp [bne, *], by first | exact (Below.refl _ _).drew | exact Below.refl _ _ | exact below_drewN (Below.refl _ _) _⟩
    ·
     have zbsec : (sec == 0) = false := by rw [beq_eq_false_iff_ne]; exact hsec
     by_cases hk : k = 0
     ·
      subst hk
      by_cases hwk : wk = 0
      ·
       subst hwk
       by_cases hd : d = 1
       ·
        subst hd
        by_cases hm : m = 1
        ·
         subst hm
         obtain rfl : bt = true := by rw [HT.out]; simp [*]
         obtain rfl : bd = false := by rw [HD.out]; simp
         obtain rfl : bm = false := by rw [HM.out]; simp
         clear HM HD HT HE
         go_quiet (fail)
         go_wp2_with fail
         go_meet
         exact ⟨by first | rfl | simp [bne, *], by first | rfl | simp [bne, *], by first | rfl | simp [bne, *], by first | exact (Below.refl _ _).drew | exact Below.refl _ _ | exact below_drewN (Below.refl _ _) _⟩
        ·
         have zbm : (m == 1) = false := by rw [beq_eq_false_iff_ne]; exact hm
         obtain rfl : bt = true := by rw [HT.out]; simp [*]
         obtain rfl : bd = false := by rw [HD.out]; simp
         obtain rfl : bm = true := by rw [HM.out]; simp [*]
         clear HM HD HT HE
         go_quiet (fail)
         go_wp2_with fail
         go_meet
         exact ⟨by first | rfl | simp [bne, *], by first | rfl | simp [bne, *], by first | rfl | simp [bne, *], by first | exact (Below.refl _ _).drew | exact Below.refl _ _ | exact below_drewN (Below.refl _ _) _⟩
       ·
        have zbd : (d == 1) = false := by rw [beq_eq_false_iff_ne]; exact hd
        by_cases hm : m = 1
        ·
         subst hm
         obtain rfl : bt = true := by rw [HT.out]; simp [*]
         obtain rfl : bd = true := by rw [HD.out]; simp [*]
         obtain rfl : bm = false := by rw [HM.out]; simp
         clear HM HD HT HE
         go_quiet (fail)
         go_wp2_with fail
         go_meet
         exact ⟨by first | rfl | simp [bne, *], by first | rfl | simp [bne, *], by first | rfl | simp [bne, *], by first | exact (Below.refl _ _).drew | exact Below.refl _ _ | exact below_drewN (Below.refl _ _) _⟩
        ·
         have zbm : (m == 1) = false := by rw [beq_eq_false_iff_ne]; exact hm
         obtain rfl : bt = true := by rw [HT.out]; simp [*]
         obtain rfl : bd = true := by rw [HD.out]; simp [*]
         obtain rfl : bm = true := by rw [HM.out]; simp [*]
         clear HM HD HT HE
         go_quiet (fail)
         go_wp2_with fail
         go_meet
         exact ⟨by first | rfl | simp [bne, *], by first | rfl | simp [bne, *], by first | rfl | simp [bne, *], by first | exact (Below.refl _ _).drew | exact Below.refl _ _ | exact below_drewN (Below.refl _ _) _⟩
      ·
       have zbwk : (wk == 0) = false := by rw [beq_eq_false_iff_ne]; exact hwk
       by_cases hm : m = 1
       ·
        subst hm
        obtain rfl : bt = true := by rw [HT.out]; simp [*]
        obtain rfl : bd = true := by rw [HD.out]; simp [*]
        obtain rfl : bm = false := by rw [HM.out]; simp
        clear HM HD HT HE
        go_quiet (fail)
        go_wp2_with fail
        go_meet
        exact ⟨by first | rfl | simp [bne, *], by first | rfl | simp [bne, *], by first | rfl | simp [bne, *], by first | exact (Below.refl _ _).drew | exact Below.refl _ _ | exact below_drewN (Below.refl _ _) _⟩
       ·
        have zbm : (m == 1) = false := by rw [beq_eq_false_iff_ne]; exact hm
        obtain rfl : bt = true := by rw [HT.out]; simp [*]
        obtain rfl : bd = true := by rw [HD.out]; simp [*]
        obtain rfl : bm = true := by rw [HM.out]; simp [*]
        clear HM HD HT HE
        go_quiet (fail)
        go_wp2_with fail
        go_meet
        exact ⟨by first | rfl | simp [bne, *], by first | rfl | simp [bne, *], by first | rfl | simp [bne, *], by first | exact (Below.refl _ _).drew | exact Below.refl _ _ | exact below_drewN (Below.refl _ _) _⟩
     ·
      have zbk : (k == 0) = false := by rw [beq_eq_false_iff_ne]; exact hk
      by_cases hm : m = 1
      ·
       subst hm
       obtain rfl : bt = true := by rw [HT.out]; simp [*]
       obtain rfl : bd = true := by rw [HD.out]; simp [*]
       obtain rfl : bm = false := by rw [HM.out]; simp
       clear HM HD HT HE
       go_quiet (fail)
       go_wp2_with fail
       go_meet
       exact ⟨by first | rfl | simp [bne, *], by first | rfl | simp [bne, *], by first | rfl | simp [bne, *], by first | exact (Below.refl _ _).drew | exact Below.refl _ _ | exact below_drewN (Below.refl _ _) _⟩
      ·
       have zbm : (m == 1) = false := by rw [beq_eq_false_iff_ne]; exact hm
       obtain rfl : bt = true := by rw [HT.out]; simp [*]
       obtain rfl : bd = true := by rw [HD.out]; simp [*]
       obtain rfl : bm = true := by rw [HM.out]; simp [*]
       clear HM HD HT HE
       go_quiet (fail)
       go_wp2_with fail
       go_meet
       exact ⟨by first | rfl | simp [bne, *], by first | rfl | simp [bne, *], by first | rfl | simp [bne, *], by first | exact (Below.refl _ _).drew | exact Below.refl _ _ | exact below_drewN (Below.refl _ _) _⟩
   obtain ⟨rfl, rfl, rfl, b12⟩ := hcut
   have HE2 : Hid (E = [t0, t1, t2, t3].take ((if bt = true then 3 else if bd = true then 2 else if bm = true then 1 else 0) + 1)) := Lib.hid (by
    have := HE.out
    simp only [if_true] at this
    rw [this, HM.out, HD.out, HT.out]
    by_cases g1 : sec = 0 ∧ base = 0 <;> by_cases g2 : k = 0 ∧ wk = 0 ∧ d = 1 <;> by_cases g3 : m = 1 <;> simp [g1, g2, g3])
   clear u_0 u_1 u_2 u_3 u_4 u_5 u_6 u_7
   have BU := BU.on b12
   have own := own_on own b12
   have BB0 := Lib.hid (below_step BB0.out b12)
   clear b12 HE HM HD HT HK
   cases bt <;> cases bd <;> cases bm
   ·
    obtain rfl : E = [t0] := HE2.out
    have u_0 := blk_cell BU 0 _ rfl; have u_1 := blk_cell BU 1 _ rfl; have u_2 := blk_cell BU 2 _ rfl; have u_3 := blk_cell BU 3 _ rfl; have u_4 := blk_cell BU 4 _ rfl; have u_5 := blk_cell BU 5 _ rfl; have u_6 := blk_cell BU 6 _ rfl; have u_7 := blk_cell BU 7 _ rfl
    go_wp2_with fail
    go_ret2
    exact ⟨_, [x0, x1, fm] ++ [t0], Lst.own own, rfl, rfl, BB0.out⟩
   ·
    have u_0 := blk_cell BU 0 _ rfl; have u_1 := blk_cell BU 1 _ rfl; have u_2 := blk_cell BU 2 _ rfl; have u_3 := blk_cell BU 3 _ rfl; have u_4 := blk_cell BU 4 _ rfl; have u_5 := blk_cell BU 5 _ rfl; have u_6 := blk_cell BU 6 _ rfl; have u_7 := blk_cell BU 7 _ rfl
    have u_f := BU.frozen; have u_b := BU.lt
    go_wp2_with fail
    refine (MT.out _).mono ?_; rintro e wd ⟨rfl, bd⟩
    have BU1 := BU.on bd; have own1 := own_on own bd; have BB1 := Lib.hid (below_step BB0.out bd)
    clear BU own BB0 bd u_f u_b u_0 u_1 u_2 u_3 u_4 u_5 u_6 u_7
    have OL := Lib.hid (World.ownsRow_lit (base := wd.heap.size) (e := 9) (size := 1) wd #[.string t1] 1 (Nat.le_refl _) (by decide) rfl)
    have OX := Lib.hid (own_on own1 (show Below wd.heap.size wd (wd.alloc (.cells #[.string t1] 9)) from (Below.refl _ _).alloc (Nat.le_refl _) _))
    have BX := Lib.hid (BU1.alloc (.cells #[.string t1] 9))
    clear own1 BU1
    go_wp2_with (at_builtin; refine wpList_append_lst rfl _ _ 22 rfl w.heap.size 9 i0 (.string ⟨#[]⟩) 1 16 Tryz.underlying22 hi hz0 hz1 hz2 rfl (by decide) _ 4 _ rfl OX.out _ 1 _ [.string t1] rfl (Lst.own OL.out) rfl (by intro u hu; rcases List.mem_singleton.1 hu with rfl; rfl) (by decide) (by decide) (by have := BB1.out.size; simp; omega) ?_)
    intro va wa own2 grow2
    have BU := BX.out.kept grow2 (BX.out.not_row (by decide) OX.out)
    have bq : Below w.heap.size (wd.alloc (.cells #[.string t1] 9)) wa := below_grown grow2 (by have := BB1.out.size; simp; omega) (own_row OX.out)
    have BB0 : Hid (Below w.heap.size w wa) := Lib.hid ((below_step BB1.out ((Below.refl _ _).alloc (Nat.le_refl _) (.cells #[.string t1] 9))).trans bq)
    obtain ⟨A10, c10, hv10⟩ : ∃ A c, va = .slice A (4 + 1) c := by obtain ⟨A, c, h, _⟩ := own_room own2; exact ⟨A, c, h⟩
    subst hv10
    have own := own2
    clear own2 grow2 OL OX BX bq BB1
    obtain rfl : E = [t0, t1] := HE2.out
    have u_0 := blk_cell BU 0 _ rfl; have u_1 := blk_cell BU 1 _ rfl; have u_2 := blk_cell BU 2 _ rfl; have u_3 := blk_cell BU 3 _ rfl; have u_4 := blk_cell BU 4 _ rfl; have u_5 := blk_cell BU 5 _ rfl; have u_6 := blk_cell BU 6 _ rfl; have u_7 := blk_cell BU 7 _ rfl
    go_wp2_with fail
    go_ret2
    exact ⟨_, [x0, x1, fm] ++ [t0, t1], Lst.own own, rfl, rfl, BB0.out⟩
   ·
    have u_0 := blk_cell BU 0 _ rfl; have u_1 := blk_cell BU 1 _ rfl; have u_2 := blk_cell BU 2 _ rfl; have u_3 := blk_cell BU 3 _ rfl; have u_4 := blk_cell BU 4 _ rfl; have u_5 := blk_cell BU 5 _ rfl; have u_6 := blk_cell BU 6 _ rfl; have u_7 := blk_cell BU 7 _ rfl
    have u_f := BU.frozen; have u_b := BU.lt
    go_wp2_with fail
    refine (MT.out _).mono ?_; rintro e wd ⟨rfl, bd⟩
    have BU1 := BU.on bd; have own1 := own_on own bd; have BB1 := Lib.hid (below_step BB0.out bd)
    clear BU own BB0 bd u_f u_b u_0 u_1 u_2 u_3 u_4 u_5 u_6 u_7
    have OL := Lib.hid (World.ownsRow_lit (base := wd.heap.size) (e := 9) (size := 1) wd #[.string t1] 1 (Nat.le_refl _) (by decide) rfl)
    have OX := Lib.hid (own_on own1 (show Below wd.heap.size wd (wd.alloc (.cells #[.string t1] 9)) from (Below.refl _ _).alloc (Nat.le_refl _) _))
    have BX := Lib.hid (BU1.alloc (.cells #[.string t1] 9))
    clear own1 BU1
    go_wp2_with (at_builtin; refine wpList_append_lst rfl _ _ 22 rfl w.heap.size 9 i0 (.string ⟨#[]⟩) 1 16 Tryz.underlying22 hi hz0 hz1 hz2 rfl (by decide) _ 4 _ rfl OX.out _ 1 _ [.string t1] rfl (Lst.own OL.out) rfl (by intro u hu; rcases List.mem_singleton.1 hu with rfl; rfl) (by decide) (by decide) (by have := BB1.out.size; simp; omega) ?_)
    intro va wa own2 grow2
    have BU := BX.out.kept grow2 (BX.out.not_row (by decide) OX.out)
    have bq : Below w.heap.size (wd.alloc (.cells #[.string t1] 9)) wa := below_grown grow2 (by have := BB1.out.size; simp; omega) (own_row OX.out)
    have BB0 : Hid (Below w.heap.size w wa) := Lib.hid ((below_step BB1.out ((Below.refl _ _).alloc (Nat.le_refl _) (.cells #[.string t1] 9))).trans bq)
    obtain ⟨A10, c10, hv10⟩ : ∃ A c, va = .slice A (4 + 1) c := by obtain ⟨A, c, h, _⟩ := own_room own2; exact ⟨A, c, h⟩
    subst hv10
    have own := own2
    clear own2 grow2 OL OX BX bq BB1
    have u_0 := blk_cell BU 0 _ rfl; have u_1 := blk_cell BU 1 _ rfl; have u_2 := blk_cell BU 2 _ rfl; have u_3 := blk_cell BU 3 _ rfl; have u_4 := blk_cell BU 4 _ rfl; have u_5 := blk_cell BU 5 _ rfl; have u_6 := blk_cell BU 6 _ rfl; have u_7 := blk_cell BU 7 _ rfl
    have u_f := BU.frozen; have u_b := BU.lt
    go_wp2_with fail
    refine (DT.out _).mono ?_; rintro e wd ⟨rfl, bd⟩
    have BU1 := BU.on bd; have own1 := own_on own bd; have BB1 := Lib.hid (below_step BB0.out bd)
    clear BU own BB0 bd u_f u_b u_0 u_1 u_2 u_3 u_4 u_5 u_6 u_7
    have OL := Lib.hid (World.ownsRow_lit (base := wd.heap.size) (e := 9) (size := 1) wd #[.string t2] 1 (Nat.le_refl _) (by decide) rfl)
    have OX := Lib.hid (own_on own1 (show Below wd.heap.size wd (wd.alloc (.cells #[.string t2] 9)) from (Below.refl _ _).alloc (Nat.le_refl _) _))
    have BX := Lib.hid (BU1.alloc (.cells #[.string t2] 9))
    clear own1 BU1
    go_wp2_with (at_builtin; refine wpList_append_lst rfl _ _ 22 rfl w.heap.size 9 i0 (.string ⟨#[]⟩) 1 16 Tryz.underlying22 hi hz0 hz1 hz2 rfl (by decide) _ 5 _ rfl OX.out _ 1 _ [.string t2] rfl (Lst.own OL.out) rfl (by intro u hu; rcases List.mem_singleton.1 hu with rfl; rfl) (by decide) (by decide) (by have := BB1.out.size; simp; omega) ?_)
    intro va wa own2 grow2
    have BU := BX.out.kept grow2 (BX.out.not_row (by decide) OX.out)
    have bq : Below w.heap.size (wd.alloc (.cells #[.string t2] 9)) wa := below_grown grow2 (by have := BB1.out.size; simp; omega) (own_row OX.out)
    have BB0 : Hid (Below w.heap.size w wa) := Lib.hid ((below_step BB1.out ((Below.refl _ _).alloc (Nat.le_refl _) (.cells #[.string t2] 9))).trans bq)
    obtain ⟨A11, c11, hv11⟩ : ∃ A c, va = .slice A (5 + 1) c := by obtain ⟨A, c, h, _⟩ := own_room own2; exact ⟨A, c, h⟩
    subst hv11
    have own := own2
    clear own2 grow2 OL OX BX bq BB1
    obtain rfl : E = [t0, t1, t2] := HE2.out
    have u_0 := blk_cell BU 0 _ rfl; have u_1 := blk_cell BU 1 _ rfl; have u_2 := blk_cell BU 2 _ rfl; have u_3 := blk_cell BU 3 _ rfl; have u_4 := blk_cell BU 4 _ rfl; have u_5 := blk_cell BU 5 _ rfl; have u_6 := blk_cell BU 6 _ rfl; have u_7 := blk_cell BU 7 _ rfl
    go_wp2_with fail
    go_ret2
    exact ⟨_, [x0, x1, fm] ++ [t0, t1, t2], Lst.own own, rfl, rfl, BB0.out⟩
   ·
    have u_0 := blk_cell BU 0 _ rfl; have u_1 := blk_cell BU 1 _ rfl; have u_2 := blk_cell BU 2 _ rfl; have u_3 := blk_cell BU 3 _ rfl; have u_4 := blk_cell BU 4 _ rfl; have u_5 := blk_cell BU 5 _ rfl; have u_6 := blk_cell BU 6 _ rfl; have u_7 := blk_cell BU 7 _ rfl
    have u_f := BU.frozen; have u_b := BU.lt
    go_wp2_with fail
    refine (MT.out _).mono ?_; rintro e wd ⟨rfl, bd⟩
    have BU1 := BU.on bd; have own1 := own_on own bd; have BB1 := Lib.hid (below_step BB0.out bd)
    clear BU own BB0 bd u_f u_b u_0 u_1 u_2 u_3 u_4 u_5 u_6 u_7
    have OL := Lib.hid (World.ownsRow_lit (base := wd.heap.size) (e := 9) (size := 1) wd #[.string t1] 1 (Nat.le_refl _) (by decide) rfl)
    have OX := Lib.hid (own_on own1 (show Below wd.heap.size wd (wd.alloc (.cells #[.string t1] 9)) from (Below.refl _ _).alloc (Nat.le_refl _) _))
    have BX := Lib.hid (BU1.alloc (.cells #[.string t1] 9))
    clear own1 BU1
    go_wp2_with (at_builtin; refine wpList_append_lst rfl _ _ 22 rfl w.heap.size 9 i0 (.string ⟨#[]⟩) 1 16 Tryz.underlying22 hi hz0 hz1 hz2 rfl (by decide) _ 4 _ rfl OX.out _ 1 _ [.string t1] rfl (Lst.own OL.out) rfl (by intro u hu; rcases List.mem_singleton.1 hu with rfl; rfl) (by decide) (by decide) (by have := BB1.out.size; simp; omega) ?_)
    intro va wa own2 grow2
    have BU := BX.out.kept grow2 (BX.out.not_row (by decide) OX.out)
    have bq : Below w.heap.size (wd.alloc (.cells #[.string t1] 9)) wa := below_grown grow2 (by have := BB1.out.size; simp; omega) (own_row OX.out)
    have BB0 : Hid (Below w.heap.size w wa) := Lib.hid ((below_step BB1.out ((Below.refl _ _).alloc (Nat.le_refl _) (.cells #[.string t1] 9))).trans bq)
    obtain ⟨A10, c10, hv10⟩ : ∃ A c, va = .slice A (4 + 1) c := by obtain ⟨A, c, h, _⟩ := own_room own2; exact ⟨A, c, h⟩
    subst hv10
    have own := own2
    clear own2 grow2 OL OX BX bq BB1
    have u_0 := blk_cell BU 0 _ rfl; have u_1 := blk_cell BU 1 _ rfl; have u_2 := blk_cell BU 2 _ rfl; have u_3 := blk_cell BU 3 _ rfl; have u_4 := blk_cell BU 4 _ rfl; have u_5 := blk_cell BU 5 _ rfl; have u_6 := blk_cell BU 6 _ rfl; have u_7 := blk_cell BU 7 _ rfl
    have u_f := BU.frozen; have u_b := BU.lt
    go_wp2_with fail
    refine (DT.out _).mono ?_; rintro e wd ⟨rfl, bd⟩
    have BU1 := BU.on bd; have own1 := own_on own bd; have BB1 := Lib.hid (below_step BB0.out bd)
    clear BU own BB0 bd u_f u_b u_0 u_1 u_2 u_3 u_4 u_5 u_6 u_7
    have OL := Lib.hid (World.ownsRow_lit (base := wd.heap.size) (e := 9) (size := 1) wd #[.string t2] 1 (Nat.le_refl _) (by decide) rfl)
    have OX := Lib.hid (own_on own1 (show Below wd.heap.size wd (wd.alloc (.cells #[.string t2] 9)) from (Below.refl _ _).alloc (Nat.le_refl _) _))
    have BX := Lib.hid (BU1.alloc (.cells #[.string t2] 9))
    clear own1 BU1
    go_wp2_with (at_builtin; refine wpList_append_lst rfl _ _ 22 rfl w.heap.size 9 i0 (.string ⟨#[]⟩) 1 16 Tryz.underlying22 hi hz0 hz1 hz2 rfl (by decide) _ 5 _ rfl OX.out _ 1 _ [.string t2] rfl (Lst.own OL.out) rfl (by intro u hu; rcases List.mem_singleton.1 hu with rfl; rfl) (by decide) (by decide) (by have := BB1.out.size; simp; omega) ?_)
    intro va wa own2 grow2
    have BU := BX.out.kept grow2 (BX.out.not_row (by decide) OX.out)
    have bq : Below w.heap.size (wd.alloc (.cells #[.string t2] 9)) wa := below_grown grow2 (by have := BB1.out.size; simp; omega) (own_row OX.out)
    have BB0 : Hid (Below w.heap.size w wa) := Lib.hid ((below_step BB1.out ((Below.refl _ _).alloc (Nat.le_refl _) (.cells #[.string t2] 9))).trans bq)
    obtain ⟨A11, c11, hv11⟩ : ∃ A c, va = .slice A (5 + 1) c := by obtain ⟨A, c, h, _⟩ := own_room own2; exact ⟨A, c, h⟩
    subst hv11
    have own := own2
    clear own2 grow2 OL OX BX bq BB1
    obtain rfl : E = [t0, t1, t2] := HE2.out
    have u_0 := blk_cell BU 0 _ rfl; have u_1 := blk_cell BU 1 _ rfl; have u_2 := blk_cell BU 2 _ rfl; have u_3 := blk_cell BU 3 _ rfl; have u_4 := blk_cell BU 4 _ rfl; have u_5 := blk_cell BU 5 _ rfl; have u_6 := blk_cell BU 6 _ rfl; have u_7 := blk_cell BU 7 _ rfl
    go_wp2_with fail
    go_ret2
    exact ⟨_, [x0, x1, fm] ++ [t0, t1, t2], Lst.own own, rfl, rfl, BB0.out⟩
   ·
    have u_0 := blk_cell BU 0 _ rfl; have u_1 := blk_cell BU 1 _ rfl; have u_2 := blk_cell BU 2 _ rfl; have u_3 := blk_cell BU 3 _ rfl; have u_4 := blk_cell BU 4 _ rfl; have u_5 := blk_cell BU 5 _ rfl; have u_6 := blk_cell BU 6 _ rfl; have u_7 := blk_cell BU 7 _ rfl
    have u_f := BU.frozen; have u_b := BU.lt
    go_wp2_with fail
    refine (MT.out _).mono ?_; rintro e wd ⟨rfl, bd⟩
    have BU1 := BU.on bd; have own1 := own_on own bd; have BB1 := Lib.hid (below_step BB0.out bd)
    clear BU own BB0 bd u_f u_b u_0 u_1 u_2 u_3 u_4 u_5 u_6 u_7
    have OL := Lib.hid (World.ownsRow_lit (base := wd.heap.size) (e := 9) (size := 1) wd #[.string t1] 1 (Nat.le_refl _) (by decide) rfl)
    have OX := Lib.hid (own_on own1 (show Below wd.heap.size wd (wd.alloc (.cells #[.string t1] 9)) from (Below.refl _ _).alloc (Nat.le_refl _) _))
    have BX := Lib.hid (BU1.alloc (.cells #[.string t1] 9))
    clear own1 BU1
    go_wp2_with (at_builtin; refine wpList_append_lst rfl _ _ 22 rfl w.heap.size 9 i0 (.string ⟨#[]⟩) 1 16 Tryz.underlying22 hi hz0 hz1 hz2 rfl (by decide) _ 4 _ rfl OX.out _ 1 _ [.string t1] rfl (Lst.own OL.out) rfl (by intro u hu; rcases List.mem_singleton.1 hu with rfl; rfl) (by decide) (by decide) (by have := BB1.out.size; simp; omega) ?_)
    intro va wa own2 grow2
    have BU := BX.out.kept grow2 (BX.out.not_row (by decide) OX.out)
    have bq : Below w.heap.size (wd.alloc (.cells #[.string t1] 9)) wa := below_grown grow2 (by have := BB1.out.size; simp; omega) (own_row OX.out)
    have BB0 : Hid (Below w.heap.size w wa) := Lib.hid ((below_step BB1.out ((Below.refl _ _).alloc (Nat.le_refl _) (.cells #[.string t1] 9))).trans bq)
    obtain ⟨A10, c10, hv10⟩ : ∃ A c, va = .slice A (4 + 1) c := by obtain ⟨A, c, h, _⟩ := own_room own2; exact ⟨A, c, h⟩
    subst hv10
    have own := own2
    clear own2 grow2 OL OX BX bq BB1
    have u_0 := blk_cell BU 0 _ rfl; have u_1 := blk_cell BU 1 _ rfl; have u_2 := blk_cell BU 2 _ rfl; have u_3 := blk_cell BU 3 _ rfl; have u_4 := blk_cell BU 4 _ rfl; have u_5 := blk_cell BU 5 _ rfl; have u_6 := blk_cell BU 6 _ rfl; have u_7 := blk_cell BU 7 _ rfl
    have u_f := BU.frozen; have u_b := BU.lt
    go_wp2_with fail
    refine (DT.out _).mono ?_; rintro e wd ⟨rfl, bd⟩
    have BU1 := BU.on bd; have own1 := own_on own bd; have BB1 := Lib.hid (below_step BB0.out bd)
    clear BU own BB0 bd u_f u_b u_0 u_1 u_2 u_3 u_4 u_5 u_6 u_7
    have OL := Lib.hid (World.ownsRow_lit (base := wd.heap.size) (e := 9) (size := 1) wd #[.string t2] 1 (Nat.le_refl _) (by decide) rfl)
    have OX := Lib.hid (own_on own1 (show Below wd.heap.size wd (wd.alloc (.cells #[.string t2] 9)) from (Below.refl _ _).alloc (Nat.le_refl _) _))
    have BX := Lib.hid (BU1.alloc (.cells #[.string t2] 9))
    clear own1 BU1
    go_wp2_with (at_builtin; refine wpList_append_lst rfl _ _ 22 rfl w.heap.size 9 i0 (.string ⟨#[]⟩) 1 16 Tryz.underlying22 hi hz0 hz1 hz2 rfl (by decide) _ 5 _ rfl OX.out _ 1 _ [.string t2] rfl (Lst.own OL.out) rfl (by intro u hu; rcases List.mem_singleton.1 hu with rfl; rfl) (by decide) (by decide) (by have := BB1.out.size; simp; omega) ?_)
    intro va wa own2 grow2
    have BU := BX.out.kept grow2 (BX.out.not_row (by decide) OX.out)
    have bq : Below w.heap.size (wd.alloc (.cells #[.string t2] 9)) wa := below_grown grow2 (by have := BB1.out.size; simp; omega) (own_row OX.out)
    have BB0 : Hid (Below w.heap.size w wa) := Lib.hid ((below_step BB1.out ((Below.refl _ _).alloc (Nat.le_refl _) (.cells #[.string t2] 9))).trans bq)
    obtain ⟨A11, c11, hv11⟩ : ∃ A c, va = .slice A (5 + 1) c := by obtain ⟨A, c, h, _⟩ := own_room own2; exact ⟨A, c, h⟩
    subst hv11
    have own := own2
    clear own2 grow2 OL OX BX bq BB1
    have u_0 := blk_cell BU 0 _ rfl; have u_1 := blk_cell BU 1 _ rfl; have u_2 := blk_cell BU 2 _ rfl; have u_3 := blk_cell BU 3 _ rfl; have u_4 := blk_cell BU 4 _ rfl; have u_5 := blk_cell BU 5 _ rfl; have u_6 := blk_cell BU 6 _ rfl; have u_7 := blk_cell BU 7 _ rfl
    have u_f := BU.frozen; have u_b := BU.lt
    go_wp2_with fail
    refine (KT.out _).mono ?_; rintro e wd ⟨rfl, bd⟩
    have BU1 := BU.on bd; have own1 := own_on own bd; have BB1 := Lib.hid (below_step BB0.out bd)
    clear BU own BB0 bd u_f u_b u_0 u_1 u_2 u_3 u_4 u_5 u_6 u_7
    have OL := Lib.hid (World.ownsRow_lit (base := wd.heap.size) (e := 9) (size := 1) wd #[.string t3] 1 (Nat.le_refl _) (by decide) rfl)
    have OX := Lib.hid (own_on own1 (show Below wd.heap.size wd (wd.alloc (.cells #[.string t3] 9)) from (Below.refl _ _).alloc (Nat.le_refl _) _))
    have BX := Lib.hid (BU1.alloc (.cells #[.string t3] 9))
    clear own1 BU1
    go_wp2_with (at_builtin; refine wpList_append_lst rfl _ _ 22 rfl w.heap.size 9 i0 (.string ⟨#[]⟩) 1 16 Tryz.underlying22 hi hz0 hz1 hz2 rfl (by decide) _ 6 _ rfl OX.out _ 1 _ [.string t3] rfl (Lst.own OL.out) rfl (by intro u hu; rcases List.mem_singleton.1 hu with rfl; rfl) (by decide) (by decide) (by have := BB1.out.size; simp; omega) ?_)
    intro va wa own2 grow2
    have BU := BX.out.kept grow2 (BX.out.not_row (by decide) OX.out)
    have bq : Below w.heap.size (wd.alloc (.cells #[.string t3] 9)) wa := below_grown grow2 (by have := BB1.out.size; simp; omega) (own_row OX.out)
    have BB0 : Hid (Below w.heap.size w wa) := Lib.hid ((below_step BB1.out ((Below.refl _ _).alloc (Nat.le_refl _) (.cells #[.string t3] 9))).trans bq)
    obtain ⟨A12, c12, hv12⟩ : ∃ A c, va = .slice A (6 + 1) c := by obtain ⟨A, c, h, _⟩ := own_room own2; exact ⟨A, c, h⟩
    subst hv12
    have own := own2
    clear own2 grow2 OL OX BX bq BB1
    obtain rfl : E = [t0, t1, t2, t3] := HE2.out
    have u_0 := blk_cell BU 0 _ rfl; have u_1 := blk_cell BU 1 _ rfl; have u_2 := blk_cell BU 2 _ rfl; have u_3 := blk_cell BU 3 _ rfl; have u_4 := blk_cell BU 4 _ rfl; have u_5 := blk_cell BU 5 _ rfl; have u_6 := blk_cell BU 6 _ rfl; have u_7 := blk_cell BU 7 _ rfl
    go_wp2_with fail
    go_ret2
    exact ⟨_, [x0, x1, fm] ++ [t0, t1, t2, t3], Lst.own own, rfl, rfl, BB0.out⟩
   ·
    have u_0 := blk_cell BU 0 _ rfl; have u_1 := blk_cell BU 1 _ rfl; have u_2 := blk_cell BU 2 _ rfl; have u_3 := blk_cell BU 3 _ rfl; have u_4 := blk_cell BU 4 _ rfl; have u_5 := blk_cell BU 5 _ rfl; have u_6 := blk_cell BU 6 _ rfl; have u_7 := blk_cell BU 7 _ rfl
    have u_f := BU.frozen; have u_b := BU.lt
    go_wp2_with fail
    refine (MT.out _).mono ?_; rintro e wd ⟨rfl, bd⟩
    have BU1 := BU.on bd; have own1 := own_on own bd; have BB1 := Lib.hid (below_step BB0.out bd)
    clear BU own BB0 bd u_f u_b u_0 u_1 u_2 u_3 u_4 u_5 u_6 u_7
    have OL := Lib.hid (World.ownsRow_lit (base := wd.heap.size) (e := 9) (size := 1) wd #[.string t1] 1 (Nat.le_refl _) (by decide) rfl)
    have OX := Lib.hid (own_on own1 (show Below wd.heap.size wd (wd.alloc (.cells #[.string t1] 9)) from (Below.refl _ _).alloc (Nat.le_refl _) _))
    have BX := Lib.hid (BU1.alloc (.cells #[.string t1] 9))
    clear own1 BU1
    go_wp2_with (at_builtin; refine wpList_append_lst rfl _ _ 22 rfl w.heap.size 9 i0 (.string ⟨#[]⟩) 1 16 Tryz.underlying22 hi hz0 hz1 hz2 rfl (by decide) _ 4 _ rfl OX.out _ 1 _ [.string t1] rfl (Lst.own OL.out) rfl (by intro u hu; rcases List.mem_singleton.1 hu with rfl; rfl) (by decide) (by decide) (by have := BB1.out.size; simp; omega) ?_)
    intro va wa own2 grow2
    have BU := BX.out.kept grow2 (BX.out.not_row (by decide) OX.out)
    have bq : Below w.heap.size (wd.alloc (.cells #[.string t1] 9)) wa := below_grown grow2 (by have := BB1.out.size; simp; omega) (own_row OX.out)
    have BB0 : Hid (Below w.heap.size w wa) := Lib.hid ((below_step BB1.out ((Below.refl _ _).alloc (Nat.le_refl _) (.cells #[.string t1] 9))).trans bq)
    obtain ⟨A10, c10, hv10⟩ : ∃ A c, va = .slice A (4 + 1) c := by obtain ⟨A, c, h, _⟩ := own_room own2; exact ⟨A, c, h⟩
    subst hv10
    have own := own2
    clear own2 grow2 OL OX BX bq BB1
    have u_0 := blk_cell BU 0 _ rfl; have u_1 := blk_cell BU 1 _ rfl; have u_2 := blk_cell BU 2 _ rfl; have u_3 := blk_cell BU 3 _ rfl; have u_4 := blk_cell BU 4 _ rfl; have u_5 := blk_cell BU 5 _ rfl; have u_6 := blk_cell BU 6 _ rfl; have u_7 := blk_cell BU 7 _ rfl
    have u_f := BU.frozen; have u_b := BU.lt
    go_wp2_with fail
    refine (DT.out _).mono ?_; rintro e wd ⟨rfl, bd⟩
    have BU1 := BU.on bd; have own1 := own_on own bd; have BB1 := Lib.hid (below_step BB0.out bd)
    clear BU own BB0 bd u_f u_b u_0 u_1 u_2 u_3 u_4 u_5 u_6 u_7
    have OL := Lib.hid (World.ownsRow_lit (base := wd.heap.size) (e := 9) (size := 1) wd #[.string t2] 1 (Nat.le_refl _) (by decide) rfl)
    have OX := Lib.hid (own_on own1 (show Below wd.heap.size wd (wd.alloc (.cells #[.string t2] 9)) from (Below.refl _ _).alloc (Nat.le_refl _) _))
    have BX := Lib.hid (BU1.alloc (.cells #[.string t2] 9))
    clear own1 BU1
    go_wp2_with (at_builtin; refine wpList_append_lst rfl _ _ 22 rfl w.heap.size 9 i0 (.string ⟨#[]⟩) 1 16 Tryz.underlying22 hi hz0 hz1 hz2 rfl (by decide) _ 5 _ rfl OX.out _ 1 _ [.string t2] rfl (Lst.own OL.out) rfl (by intro u hu; rcases List.mem_singleton.1 hu with rfl; rfl) (by decide) (by decide) (by have := BB1.out.size; simp; omega) ?_)
    intro va wa own2 grow2
    have BU := BX.out.kept grow2 (BX.out.not_row (by decide) OX.out)
    have bq : Below w.heap.size (wd.alloc (.cells #[.string t2] 9)) wa := below_grown grow2 (by have := BB1.out.size; simp; omega) (own_row OX.out)
    have BB0 : Hid (Below w.heap.size w wa) := Lib.hid ((below_step BB1.out ((Below.refl _ _).alloc (Nat.le_refl _) (.cells #[.string t2] 9))).trans bq)
    obtain ⟨A11, c11, hv11⟩ : ∃ A c, va = .slice A (5 + 1) c := by obtain ⟨A, c, h, _⟩ := own_room own2; exact ⟨A, c, h⟩
    subst hv11
    have own := own2
    clear own2 grow2 OL OX BX bq BB1
    have u_0 := blk_cell BU 0 _ rfl; have u_1 := blk_cell BU 1 _ rfl; have u_2 := blk_cell BU 2 _ rfl; have u_3 := blk_cell BU 3 _ rfl; have u_4 := blk_cell BU 4 _ rfl; have u_5 := blk_cell BU 5 _ rfl; have u_6 := blk_cell BU 6 _ rfl; have u_7 := blk_cell BU 7 _ rfl
    have u_f := BU.frozen; have u_b := BU.lt
    go_wp2_with fail
    refine (KT.out _).mono ?_; rintro e wd ⟨rfl, bd⟩
    have BU1 := BU.on bd; have own1 := own_on own bd; have BB1 := Lib.hid (below_step BB0.out bd)
    clear BU own BB0 bd u_f u_b u_0 u_1 u_2 u_3 u_4 u_5 u_6 u_7
    have OL := Lib.hid (World.ownsRow_lit (base := wd.heap.size) (e := 9) (size := 1) wd #[.string t3] 1 (Nat.le_refl _) (by decide) rfl)
    have OX := Lib.hid (own_on own1 (show Below wd.heap.size wd (wd.alloc (.cells #[.string t3] 9)) from (Below.refl _ _).alloc (Nat.le_refl _) _))
    have BX := Lib.hid (BU1.alloc (.cells #[.string t3] 9))
    clear own1 BU1
    go_wp2_with (at_builtin; refine wpList_append_lst rfl _ _ 22 rfl w.heap.size 9 i0 (.string ⟨#[]⟩) 1 16 Tryz.underlying22 hi hz0 hz1 hz2 rfl (by decide) _ 6 _ rfl OX.out _ 1 _ [.string t3] rfl (Lst.own OL.out) rfl (by intro u hu; rcases List.mem_singleton.1 hu with rfl; rfl) (by decide) (by decide) (by have := BB1.out.size; simp; omega) ?_)
    intro va wa own2 grow2
    have BU := BX.out.kept grow2 (BX.out.not_row (by decide) OX.out)
    have bq : Below w.heap.size (wd.alloc (.cells #[.string t3] 9)) wa := below_grown grow2 (by have := BB1.out.size; simp; omega) (own_row OX.out)
    have BB0 : Hid (Below w.heap.size w wa) := Lib.hid ((below_step BB1.out ((Below.refl _ _).alloc (Nat.le_refl _) (.cells #[.string t3] 9))).trans bq)
    obtain ⟨A12, c12, hv12⟩ : ∃ A c, va = .slice A (6 + 1) c := by obtain ⟨A, c, h, _⟩ := own_room own2; exact ⟨A, c, h⟩
    subst hv12
    have own := own2
    clear own2 grow2 OL OX BX bq BB1
    obtain rfl : E = [t0, t1, t2, t3] := HE2.out
    have u_0 := blk_cell BU 0 _ rfl; have u_1 := blk_cell BU 1 _ rfl; have u_2 := blk_cell BU 2 _ rfl; have u_3 := blk_cell BU 3 _ rfl; have u_4 := blk_cell BU 4 _ rfl; have u_5 := blk_cell BU 5 _ rfl; have u_6 := blk_cell BU 6 _ rfl; have u_7 := blk_cell BU 7 _ rfl
    go_wp2_with fail
    go_ret2
    exact ⟨_, [x0, x1, fm] ++ [t0, t1, t2, t3], Lst.own own, rfl, rfl, BB0.out⟩
   ·
    have u_0 := blk_cell BU 0 _ rfl; have u_1 := blk_cell BU 1 _ rfl; have u_2 := blk_cell BU 2 _ rfl; have u_3 := blk_cell BU 3 _ rfl; have u_4 := blk_cell BU 4 _ rfl; have u_5 := blk_cell BU 5 _ rfl; have u_6 := blk_cell BU 6 _ rfl; have u_7 := blk_cell BU 7 _ rfl
    have u_f := BU.frozen; have u_b := BU.lt
    go_wp2_with fail
    refine (MT.out _).mono ?_; rintro e wd ⟨rfl, bd⟩
    have BU1 := BU.on bd; have own1 := own_on own bd; have BB1 := Lib.hid (below_step BB0.out bd)
    clear BU own BB0 bd u_f u_b u_0 u_1 u_2 u_3 u_4 u_5 u_6 u_7
    have OL := Lib.hid (World.ownsRow_lit (base := wd.heap.size) (e := 9) (size := 1) wd #[.string t1] 1 (Nat.le_refl _) (by decide) rfl)
    have OX := Lib.hid (own_on own1 (show Below wd.heap.size wd (wd.alloc (.cells #[.string t1] 9)) from (Below.refl _ _).alloc (Nat.le_refl _) _))
    have BX := Lib.hid (BU1.alloc (.cells #[.string t1] 9))
    clear own1 BU1
    go_wp2_with (at_builtin; refine wpList_append_lst rfl _ _ 22 rfl w.heap.size 9 i0 (.string ⟨#[]⟩) 1 16 Tryz.underlying22 hi hz0 hz1 hz2 rfl (by decide) _ 4 _ rfl OX.out _ 1 _ [.string t1] rfl (Lst.own OL.out) rfl (by intro u hu; rcases List.mem_singleton.1 hu with rfl; rfl) (by decide) (by decide) (by have := BB1.out.size; simp; omega) ?_)
    intro va wa own2 grow2
    have BU := BX.out.kept grow2 (BX.out.not_row (by decide) OX.out)
    have bq : Below w.heap.size (wd.alloc (.cells #[.string t1] 9)) wa := below_grown grow2 (by have := BB1.out.size; simp; omega) (own_row OX.out)
    have BB0 : Hid (Below w.heap.size w wa) := Lib.hid ((below_step BB1.out ((Below.refl _ _).alloc (Nat.le_refl _) (.cells #[.string t1] 9))).trans bq)
    obtain ⟨A10, c10, hv10⟩ : ∃ A c, va = .slice A (4 + 1) c := by obtain ⟨A, c, h, _⟩ := own_room own2; exact ⟨A, c, h⟩
    subst hv10
    have own := own2
    clear own2 grow2 OL OX BX bq BB1
    have u_0 := blk_cell BU 0 _ rfl; have u_1 := blk_cell BU 1 _ rfl; have u_2 := blk_cell BU 2 _ rfl; have u_3 := blk_cell BU 3 _ rfl; have u_4 := blk_cell BU 4 _ rfl; have u_5 := blk_cell BU 5 _ rfl; have u_6 := blk_cell BU 6 _ rfl; have u_7 := blk_cell BU 7 _ rfl
    have u_f := BU.frozen; have u_b := BU.lt
    go_wp2_with fail
    refine (DT.out _).mono ?_; rintro e wd ⟨rfl, bd⟩
    have BU1 := BU.on bd; have own1 := own_on own bd; have BB1 := Lib.hid (below_step BB0.out bd)
    clear BU own BB0 bd u_f u_b u_0 u_1 u_2 u_3 u_4 u_5 u_6 u_7
    have OL := Lib.hid (World.ownsRow_lit (base := wd.heap.size) (e := 9) (size := 1) wd #[.string t2] 1 (Nat.le_refl _) (by decide) rfl)
    have OX := Lib.hid (own_on own1 (show Below wd.heap.size wd (wd.alloc (.cells #[.string t2] 9)) from (Below.refl _ _).alloc (Nat.le_refl _) _))
    have BX := Lib.hid (BU1.alloc (.cells #[.string t2] 9))
    clear own1 BU1
    go_wp2_with (at_builtin; refine wpList_append_lst rfl _ _ 22 rfl w.heap.size 9 i0 (.string ⟨#[]⟩) 1 16 Tryz.underlying22 hi hz0 hz1 hz2 rfl (by decide) _ 5 _ rfl OX.out _ 1 _ [.string t2] rfl (Lst.own OL.out) rfl (by intro u hu; rcases List.mem_singleton.1 hu with rfl; rfl) (by decide) (by decide) (by have := BB1.out.size; simp; omega) ?_)
    intro va wa own2 grow2
    have BU := BX.out.kept grow2 (BX.out.not_row (by decide) OX.out)
    have bq : Below w.heap.size (wd.alloc (.cells #[.string t2] 9)) wa := below_grown grow2 (by have := BB1.out.size; simp; omega) (own_row OX.out)
    have BB0 : Hid (Below w.heap.size w wa) := Lib.hid ((below_step BB1.out ((Below.refl _ _).alloc (Nat.le_refl _) (.cells #[.string t2] 9))).trans bq)
    obtain ⟨A11, c11, hv11⟩ : ∃ A c, va = .slice A (5 + 1) c := by obtain ⟨A, c, h, _⟩ := own_room own2; exact ⟨A, c, h⟩
    subst hv11
    have own := own2
    clear own2 grow2 OL OX BX bq BB1
    have u_0 := blk_cell BU 0 _ rfl; have u_1 := blk_cell BU 1 _ rfl; have u_2 := blk_cell BU 2 _ rfl; have u_3 := blk_cell BU 3 _ rfl; have u_4 := blk_cell BU 4 _ rfl; have u_5 := blk_cell BU 5 _ rfl; have u_6 := blk_cell BU 6 _ rfl; have u_7 := blk_cell BU 7 _ rfl
    have u_f := BU.frozen; have u_b := BU.lt
    go_wp2_with fail
    refine (KT.out _).mono ?_; rintro e wd ⟨rfl, bd⟩
    have BU1 := BU.on bd; have own1 := own_on own bd; have BB1 := Lib.hid (below_step BB0.out bd)
    clear BU own BB0 bd u_f u_b u_0 u_1 u_2 u_3 u_4 u_5 u_6 u_7
    have OL := Lib.hid (World.ownsRow_lit (base := wd.heap.size) (e := 9) (size := 1) wd #[.string t3] 1 (Nat.le_refl _) (by decide) rfl)
    have OX := Lib.hid (own_on own1 (show Below wd.heap.size wd (wd.alloc (.cells #[.string t3] 9)) from (Below.refl _ _).alloc (Nat.le_refl _) _))
    have BX := Lib.hid (BU1.alloc (.cells #[.string t3] 9))
    clear own1 BU1
    go_wp2_with (at_builtin; refine wpList_append_lst rfl _ _ 22 rfl w.heap.size 9 i0 (.string ⟨#[]⟩) 1 16 Tryz.underlying22 hi hz0 hz1 hz2 rfl (by decide) _ 6 _ rfl OX.out _ 1 _ [.string t3] rfl (Lst.own OL.out) rfl (by intro u hu; rcases List.mem_singleton.1 hu with rfl; rfl) (by decide) (by decide) (by have := BB1.out.size; simp; omega) ?_)
    intro va wa own2 grow2
    have BU := BX.out.kept grow2 (BX.out.not_row (by decide) OX.out)
    have bq : Below w.heap.size (wd.alloc (.cells #[.string t3] 9)) wa := below_grown grow2 (by have := BB1.out.size; simp; omega) (own_row OX.out)
    have BB0 : Hid (Below w.heap.size w wa) := Lib.hid ((below_step BB1.out ((Below.refl _ _).alloc (Nat.le_refl _) (.cells #[.string t3] 9))).trans bq)
    obtain ⟨A12, c12, hv12⟩ : ∃ A c, va = .slice A (6 + 1) c := by obtain ⟨A, c, h, _⟩ := own_room own2; exact ⟨A, c, h⟩
    subst hv12
    have own := own2
    clear own2 grow2 OL OX BX bq BB1
    obtain rfl : E = [t0, t1, t2, t3] := HE2.out
    have u_0 := blk_cell BU 0 _ rfl; have u_1 := blk_cell BU 1 _ rfl; have u_2 := blk_cell BU 2 _ rfl; have u_3 := blk_cell BU 3 _ rfl; have u_4 := blk_cell BU 4 _ rfl; have u_5 := blk_cell BU 5 _ rfl; have u_6 := blk_cell BU 6 _ rfl; have u_7 := blk_cell BU 7 _ rfl
    go_wp2_with fail
    go_ret2
    exact ⟨_, [x0, x1, fm] ++ [t0, t1, t2, t3], Lst.own own, rfl, rfl, BB0.out⟩
   ·
    have u_0 := blk_cell BU 0 _ rfl; have u_1 := blk_cell BU 1 _ rfl; have u_2 := blk_cell BU 2 _ rfl; have u_3 := blk_cell BU 3 _ rfl; have u_4 := blk_cell BU 4 _ rfl; have u_5 := blk_cell BU 5 _ rfl; have u_6 := blk_cell BU 6 _ rfl; have u_7 := blk_cell BU 7 _ rfl
    have u_f := BU.frozen; have u_b := BU.lt
    go_wp2_with fail
    refine (MT.out _).mono ?_; rintro e wd ⟨rfl, bd⟩
    have BU1 := BU.on bd; have own1 := own_on own bd; have BB1 := Lib.hid (below_step BB0.out bd)
    clear BU own BB0 bd u_f u_b u_0 u_1 u_2 u_3 u_4 u_5 u_6 u_7
    have OL := Lib.hid (World.ownsRow_lit (base := wd.heap.size) (e := 9) (size := 1) wd #[.string t1] 1 (Nat.le_refl _) (by decide) rfl)
    have OX := Lib.hid (own_on own1 (show Below wd.heap.size wd (wd.alloc (.cells #[.string t1] 9)) from (Below.refl _ _).alloc (Nat.le_refl _) _))
    have BX := Lib.hid (BU1.alloc (.cells #[.string t1] 9))
    clear own1 BU1
    go_wp2_with (at_builtin; refine wpList_append_lst rfl _ _ 22 rfl w.heap.size 9 i0 (.string ⟨#[]⟩) 1 16 Tryz.underlying22 hi hz0 hz1 hz2 rfl (by decide) _ 4 _ rfl OX.out _ 1 _ [.string t1] rfl (Lst.own OL.out) rfl (by intro u hu; rcases List.mem_singleton.1 hu with rfl; rfl) (by decide) (by decide) (by have := BB1.out.size; simp; omega) ?_)
    intro va wa own2 grow2
    have BU := BX.out.kept grow2 (BX.out.not_row (by decide) OX.out)
    have bq : Below w.heap.size (wd.alloc (.cells #[.string t1] 9)) wa := below_grown grow2 (by have := BB1.out.size; simp; omega) (own_row OX.out)
    have BB0 : Hid (Below w.heap.size w wa) := Lib.hid ((below_step BB1.out ((Below.refl _ _).alloc (Nat.le_refl _) (.cells #[.string t1] 9))).trans bq)
    obtain ⟨A10, c10, hv10⟩ : ∃ A c, va = .slice A (4 + 1) c := by obtain ⟨A, c, h, _⟩ := own_room own2; exact ⟨A, c, h⟩
    subst hv10
    have own := own2
    clear own2 grow2 OL OX BX bq BB1
    have u_0 := blk_cell BU 0 _ rfl; have u_1 := blk_cell BU 1 _ rfl; have u_2 := blk_cell BU 2 _ rfl; have u_3 := blk_cell BU 3 _ rfl; have u_4 := blk_cell BU 4 _ rfl; have u_5 := blk_cell BU 5 _ rfl; have u_6 := blk_cell BU 6 _ rfl; have u_7 := blk_cell BU 7 _ rfl
    have u_f := BU.frozen; have u_b := BU.lt
    go_wp2_with fail
    refine (DT.out _).mono ?_; rintro e wd ⟨rfl, bd⟩
    have BU1 := BU.on bd; have own1 := own_on own bd; have BB1 := Lib.hid (below_step BB0.out bd)
    clear BU own BB0 bd u_f u_b u_0 u_1 u_2 u_3 u_4 u_5 u_6 u_7
    have OL := Lib.hid (World.ownsRow_lit (base := wd.heap.size) (e := 9) (size := 1) wd #[.string t2] 1 (Nat.le_refl _) (by decide) rfl)
    have OX := Lib.hid (own_on own1 (show Below wd.heap.size wd (wd.alloc (.cells #[.string t2] 9)) from (Below.refl _ _).alloc (Nat.le_refl _) _))
    have BX := Lib.hid (BU1.alloc (.cells #[.string t2] 9))
    clear own1 BU1
    go_wp2_with (at_builtin; refine wpList_append_lst rfl _ _ 22 rfl w.heap.size 9 i0 (.string ⟨#[]⟩) 1 16 Tryz.underlying22 hi hz0 hz1 hz2 rfl (by decide) _ 5 _ rfl OX.out _ 1 _ [.string t2] rfl (Lst.own OL.out) rfl (by intro u hu; rcases List.mem_singleton.1 hu with rfl; rfl) (by decide) (by decide) (by have := BB1.out.size; simp; omega) ?_)
    intro va wa own2 grow2
    have BU := BX.out.kept grow2 (BX.out.not_row (by decide) OX.out)
    have bq : Below w.heap.size (wd.alloc (.cells #[.string t2] 9)) wa := below_grown grow2 (by have := BB1.out.size; simp; omega) (own_row OX.out)
    have BB0 : Hid (Below w.heap.size w wa) := Lib.hid ((below_step BB1.out ((Below.refl _ _).alloc (Nat.le_refl _) (.cells #[.string t2] 9))).trans bq)
    obtain ⟨A11, c11, hv11⟩ : ∃ A c, va = .slice A (5 + 1) c := by obtain ⟨A, c, h, _⟩ := own_room own2; exact ⟨A, c, h⟩
    subst hv11
    have own := own2
    clear own2 grow2 OL OX BX bq BB1
    have u_0 := blk_cell BU 0 _ rfl; have u_1 := blk_cell BU 1 _ rfl; have u_2 := blk_cell BU 2 _ rfl; have u_3 := blk_cell BU 3 _ rfl; have u_4 := blk_cell BU 4 _ rfl; have u_5 := blk_cell BU 5 _ rfl; have u_6 := blk_cell BU 6 _ rfl; have u_7 := blk_cell BU 7 _ rfl
    have u_f := BU.frozen; have u_b := BU.lt
    go_wp2_with fail
    refine (KT.out _).mono ?_; rintro e wd ⟨rfl, bd⟩
    have BU1 := BU.on bd; have own1 := own_on own bd; have BB1 := Lib.hid (below_step BB0.out bd)
    clear BU own BB0 bd u_f u_b u_0 u_1 u_2 u_3 u_4 u_5 u_6 u_7
    have OL := Lib.hid (World.ownsRow_lit (base := wd.heap.size) (e := 9) (size := 1) wd #[.string t3] 1 (Nat.le_refl _) (by decide) rfl)
    have OX := Lib.hid (own_on own1 (show Below wd.heap.size wd (wd.alloc (.cells #[.string t3] 9)) from (Below.refl _ _).alloc (Nat.le_refl _) _))
    have BX := Lib.hid (BU1.alloc (.cells #[.string t3] 9))
    clear own1 BU1
    go_wp2_with (at_builtin; refine wpList_append_lst rfl _ _ 22 rfl w.heap.size 9 i0 (.string ⟨#[]⟩) 1 16 Tryz.underlying22 hi hz0 hz1 hz2 rfl (by decide) _ 6 _ rfl OX.out _ 1 _ [.string t3] rfl (Lst.own OL.out) rfl (by intro u hu; rcases List.mem_singleton.1 hu with rfl; rfl) (by decide) (by decide) (by have := BB1.out.size; simp; omega) ?_)
    intro va wa own2 grow2
    have BU := BX.out.kept grow2 (BX.out.not_row (by decide) OX.out)
    have bq : Below w.heap.size (wd.alloc (.cells #[.string t3] 9)) wa := below_grown grow2 (by have := BB1.out.size; simp; omega) (own_row OX.out)
    have BB0 : Hid (Below w.heap.size w wa) := Lib.hid ((below_step BB1.out ((Below.refl _ _).alloc (Nat.le_refl _) (.cells #[.string t3] 9))).trans bq)
    obtain ⟨A12, c12, hv12⟩ : ∃ A c, va = .slice A (6 + 1) c := by obtain ⟨A, c, h, _⟩ := own_room own2; exact ⟨A, c, h⟩
    subst hv12
    have own := own2
    clear own2 grow2 OL OX BX bq BB1
    obtain rfl : E = [t0, t1, t2, t3] := HE2.out
    have u_0 := blk_cell BU 0 _ rfl; have u_1 := blk_cell BU 1 _ rfl; have u_2 := blk_cell BU 2 _ rfl; have u_3 := blk_cell BU 3 _ rfl; have u_4 := blk_cell BU 4 _ rfl; have u_5 := blk_cell BU 5 _ rfl; have u_6 := blk_cell BU 6 _ rfl; have u_7 := blk_cell BU 7 _ rfl
    go_wp2_with fail
    go_ret2
    exact ⟨_, [x0, x1, fm] ++ [t0, t1, t2, t3], Lst.own own, rfl, rfl, BB0.out⟩
end Go.Proofs.YtpggfhmnhbnefaaGreatDoor
