/- The walk of TopCalendar: whatever year, month and second, the law answers true; nothing old turns. -/
import Derived.Test.YtcmnfbbccacpcacDoorStO
import Derived.Lib.QuietBelow
set_option linter.unusedVariables false
set_option linter.unusedSimpArgs false
namespace Go.Proofs.YtcmnfbbccacpcacDoor
open Go.RowKit Go.Sort

theorem days_c (y m d n : Int) (h : rightB y m d = true) (h2 : Cal.num y m d = n) (w : World) :
    Calls Tryd.prog 19 #[.agg #[.int .i64 y, .int .i64 m, .int .i64 d]] w fun e w' => e = .returned (.tuple #[.int .i64 n, .int .i64 0]) ∧ Below w.heap.size w w' := by
  have := days_any y m d w
  rw [h, h2] at this
  exact this
theorem len_c (y m n : Int) (h : Cal.len y m = n) (w : World) : Calls Tryd.prog 18 #[.int .i64 y, .int .i64 m] w fun e w' => e = .returned (.int .i64 n) ∧ Below w.heap.size w w' := by
  refine (len_any y m w).mono ?_
  rintro e w' ⟨rfl, rfl⟩
  exact ⟨by rw [h], Below.refl _ _⟩
theorem ts_size {l : List UInt8} {n : Nat} (h : l.length ≤ n) : (⟨l.toArray⟩ : ByteArray).size ≤ n := by show l.toArray.size ≤ n; rw [List.size_toArray]; exact h
theorem cut_run (a c : ByteArray) (w : World) (h0 : 0 ≤ (a.size : Int) - 15) (h : a.extract ((a.size : Int) - 15).toNat a.size = c) : Sem.run Tryd.prog (Instr.slice 9 (.string a) (some (.int .i64 ((a.size : Int) - 15))) none none) w = .ok (.string c) w := by
  have h1 : (a.size : Int) - 15 ≤ (a.size : Int) := by omega
  rw [run_slice_string_l w 9 a Tryd.underlying9 .i64 _ h0 h1, h]
theorem cut_15 (a c : List UInt8) (h : c.length = 15) : (⟨(a ++ c).toArray⟩ : ByteArray).extract a.length (a.length + 15) = ⟨c.toArray⟩ := by
  apply ByteArray.ext
  apply Array.toList_inj.1
  rw [Lib.extract_data]
  simp [h]
  exact List.take_of_length_le (by omega)

set_option maxHeartbeats 1000000 in
theorem begins2_any (w : World) : Calls Tryd.prog 17 #[] w fun e w' => e = .returned (.bool true) ∧ Below w.heap.size w w' := by
  have D := Lib.hid (days_c 2000 3 1 11017 (by decide +kernel) (by decide +kernel))
  have L := Lib.hid (len_c 2000 2 29 (by decide +kernel))
  go_enter Tryd.func17, Tryd.ntmps17
  go_wp2_with fail
  refine (D.out _).mono ?_; rintro e w1 ⟨rfl, b1⟩
  have d1 : Below w.heap.size w w1 := below_step (by repeat (first | exact Below.refl _ _ | refine below_drewN ?_ _ | refine Below.drew ?_ | refine Below.setCell ?_ (by first | (simp; done) | (simp; omega) | omega) _ | refine Below.alloc ?_ (by first | (simp; done) | (simp; omega) | omega) _)) b1
  have B1 := Lib.hid d1
  clear b1 d1
  go_wp2_with fail
  refine (L.out _).mono ?_; rintro e w2 ⟨rfl, b2⟩
  have d2 : Below w1.heap.size w1 w2 := below_step (by repeat (first | exact Below.refl _ _ | refine below_drewN ?_ _ | refine Below.drew ?_ | refine Below.setCell ?_ (by first | (simp; done) | (simp; omega) | omega) _ | refine Below.alloc ?_ (by first | (simp; done) | (simp; omega) | omega) _)) b2
  have B2 := Lib.hid (below_step B1.out d2)
  clear b2 d2 B1
  go_wp2_with fail
  go_ret
  exact ⟨rfl, (by have hz := B2.out.size; repeat (first | exact B2.out | refine below_drewN ?_ _ | refine Below.drew ?_ | refine Below.setCell ?_ (by first | omega | (simp; done) | (simp; omega)) _ | refine Below.alloc ?_ (by first | omega | (simp; done) | (simp; omega)) _))⟩

set_option maxHeartbeats 1000000 in
set_option maxRecDepth 100000 in
theorem tcal_out1 (y m s : Int) (w : World)  (h : y < -39000) :
    Calls Tryd.prog 6 #[.int .i64 y, .int .i64 m, .int .i64 s] w fun e w' => e = .returned (.bool true) ∧ Below w.heap.size w w' := by
  have B := Lib.hid begins2_any
  go_enter Tryd.func6, Tryd.ntmps6
  go_wp2_with fail
  refine (B.out _).mono ?_; rintro e w1 ⟨rfl, b1⟩
  have d1 : Below w.heap.size w w1 := below_step (by repeat (first | exact Below.refl _ _ | refine below_drewN ?_ _ | refine Below.drew ?_ | refine Below.setCell ?_ (by first | (simp; done) | (simp; omega) | omega) _ | refine Below.alloc ?_ (by first | (simp; done) | (simp; omega) | omega) _)) b1
  have B1 := Lib.hid d1
  clear b1 d1
  go_wp2_with fail
  go_ret
  exact ⟨rfl, (by have hz := B1.out.size; repeat (first | exact B1.out | refine below_drewN ?_ _ | refine Below.drew ?_ | refine Below.setCell ?_ (by first | omega | (simp; done) | (simp; omega)) _ | refine Below.alloc ?_ (by first | omega | (simp; done) | (simp; omega)) _))⟩
set_option maxHeartbeats 1000000 in
set_option maxRecDepth 100000 in
theorem tcal_out2 (y m s : Int) (w : World) (h1 : ¬ y < -39000) (h : 39000 < y) :
    Calls Tryd.prog 6 #[.int .i64 y, .int .i64 m, .int .i64 s] w fun e w' => e = .returned (.bool true) ∧ Below w.heap.size w w' := by
  have B := Lib.hid begins2_any
  go_enter Tryd.func6, Tryd.ntmps6
  go_wp2_with fail
  refine (B.out _).mono ?_; rintro e w1 ⟨rfl, b1⟩
  have d1 : Below w.heap.size w w1 := below_step (by repeat (first | exact Below.refl _ _ | refine below_drewN ?_ _ | refine Below.drew ?_ | refine Below.setCell ?_ (by first | (simp; done) | (simp; omega) | omega) _ | refine Below.alloc ?_ (by first | (simp; done) | (simp; omega) | omega) _)) b1
  have B1 := Lib.hid d1
  clear b1 d1
  go_wp2_with fail
  go_ret
  exact ⟨rfl, (by have hz := B1.out.size; repeat (first | exact B1.out | refine below_drewN ?_ _ | refine Below.drew ?_ | refine Below.setCell ?_ (by first | omega | (simp; done) | (simp; omega)) _ | refine Below.alloc ?_ (by first | omega | (simp; done) | (simp; omega)) _))⟩
set_option maxHeartbeats 1000000 in
set_option maxRecDepth 100000 in
theorem tcal_out3 (y m s : Int) (w : World) (h1 : ¬ y < -39000) (h2 : ¬ 39000 < y) (h : m < 1) :
    Calls Tryd.prog 6 #[.int .i64 y, .int .i64 m, .int .i64 s] w fun e w' => e = .returned (.bool true) ∧ Below w.heap.size w w' := by
  have B := Lib.hid begins2_any
  go_enter Tryd.func6, Tryd.ntmps6
  go_wp2_with fail
  refine (B.out _).mono ?_; rintro e w1 ⟨rfl, b1⟩
  have d1 : Below w.heap.size w w1 := below_step (by repeat (first | exact Below.refl _ _ | refine below_drewN ?_ _ | refine Below.drew ?_ | refine Below.setCell ?_ (by first | (simp; done) | (simp; omega) | omega) _ | refine Below.alloc ?_ (by first | (simp; done) | (simp; omega) | omega) _)) b1
  have B1 := Lib.hid d1
  clear b1 d1
  go_wp2_with fail
  go_ret
  exact ⟨rfl, (by have hz := B1.out.size; repeat (first | exact B1.out | refine below_drewN ?_ _ | refine Below.drew ?_ | refine Below.setCell ?_ (by first | omega | (simp; done) | (simp; omega)) _ | refine Below.alloc ?_ (by first | omega | (simp; done) | (simp; omega)) _))⟩
set_option maxHeartbeats 1000000 in
set_option maxRecDepth 100000 in
theorem tcal_out4 (y m s : Int) (w : World) (h1 : ¬ y < -39000) (h2 : ¬ 39000 < y) (h3 : ¬ m < 1) (h : 12 < m) :
    Calls Tryd.prog 6 #[.int .i64 y, .int .i64 m, .int .i64 s] w fun e w' => e = .returned (.bool true) ∧ Below w.heap.size w w' := by
  have B := Lib.hid begins2_any
  go_enter Tryd.func6, Tryd.ntmps6
  go_wp2_with fail
  refine (B.out _).mono ?_; rintro e w1 ⟨rfl, b1⟩
  have d1 : Below w.heap.size w w1 := below_step (by repeat (first | exact Below.refl _ _ | refine below_drewN ?_ _ | refine Below.drew ?_ | refine Below.setCell ?_ (by first | (simp; done) | (simp; omega) | omega) _ | refine Below.alloc ?_ (by first | (simp; done) | (simp; omega) | omega) _)) b1
  have B1 := Lib.hid d1
  clear b1 d1
  go_wp2_with fail
  go_ret
  exact ⟨rfl, (by have hz := B1.out.size; repeat (first | exact B1.out | refine below_drewN ?_ _ | refine Below.drew ?_ | refine Below.setCell ?_ (by first | omega | (simp; done) | (simp; omega)) _ | refine Below.alloc ?_ (by first | omega | (simp; done) | (simp; omega)) _))⟩
set_option maxHeartbeats 1000000 in
set_option maxRecDepth 100000 in
theorem tcal_out5 (y m s : Int) (w : World) (h1 : ¬ y < -39000) (h2 : ¬ 39000 < y) (h3 : ¬ m < 1) (h4 : ¬ 12 < m) (h : s < 0) :
    Calls Tryd.prog 6 #[.int .i64 y, .int .i64 m, .int .i64 s] w fun e w' => e = .returned (.bool true) ∧ Below w.heap.size w w' := by
  have B := Lib.hid begins2_any
  go_enter Tryd.func6, Tryd.ntmps6
  go_wp2_with fail
  refine (B.out _).mono ?_; rintro e w1 ⟨rfl, b1⟩
  have d1 : Below w.heap.size w w1 := below_step (by repeat (first | exact Below.refl _ _ | refine below_drewN ?_ _ | refine Below.drew ?_ | refine Below.setCell ?_ (by first | (simp; done) | (simp; omega) | omega) _ | refine Below.alloc ?_ (by first | (simp; done) | (simp; omega) | omega) _)) b1
  have B1 := Lib.hid d1
  clear b1 d1
  go_wp2_with fail
  go_ret
  exact ⟨rfl, (by have hz := B1.out.size; repeat (first | exact B1.out | refine below_drewN ?_ _ | refine Below.drew ?_ | refine Below.setCell ?_ (by first | omega | (simp; done) | (simp; omega)) _ | refine Below.alloc ?_ (by first | omega | (simp; done) | (simp; omega)) _))⟩
set_option maxHeartbeats 1000000 in
set_option maxRecDepth 100000 in
theorem tcal_out6 (y m s : Int) (w : World) (h1 : ¬ y < -39000) (h2 : ¬ 39000 < y) (h3 : ¬ m < 1) (h4 : ¬ 12 < m) (h5 : ¬ s < 0) (h : 86399 < s) :
    Calls Tryd.prog 6 #[.int .i64 y, .int .i64 m, .int .i64 s] w fun e w' => e = .returned (.bool true) ∧ Below w.heap.size w w' := by
  have B := Lib.hid begins2_any
  go_enter Tryd.func6, Tryd.ntmps6
  go_wp2_with fail
  refine (B.out _).mono ?_; rintro e w1 ⟨rfl, b1⟩
  have d1 : Below w.heap.size w w1 := below_step (by repeat (first | exact Below.refl _ _ | refine below_drewN ?_ _ | refine Below.drew ?_ | refine Below.setCell ?_ (by first | (simp; done) | (simp; omega) | omega) _ | refine Below.alloc ?_ (by first | (simp; done) | (simp; omega) | omega) _)) b1
  have B1 := Lib.hid d1
  clear b1 d1
  go_wp2_with fail
  go_ret
  exact ⟨rfl, (by have hz := B1.out.size; repeat (first | exact B1.out | refine below_drewN ?_ _ | refine Below.drew ?_ | refine Below.setCell ?_ (by first | omega | (simp; done) | (simp; omega)) _ | refine Below.alloc ?_ (by first | omega | (simp; done) | (simp; omega)) _))⟩
set_option maxHeartbeats 8000000 in
set_option maxRecDepth 100000 in
theorem tcal_in (y m s : Int) (w : World) (htab : Lib.TabIs Tryd.prog w "internal/strconv.uint64pow10" .u64 Lib.pow10Tab) (h1 : ¬ y < -39000) (h2 : ¬ 39000 < y) (h3 : ¬ m < 1) (h4 : ¬ 12 < m) (h5 : ¬ s < 0) (h6 : ¬ 86399 < s) :
    Calls Tryd.prog 6 #[.int .i64 y, .int .i64 m, .int .i64 s] w fun e w' => e = .returned (.bool true) ∧ Below w.heap.size w w' := by
  have B := Lib.hid begins2_any
  have T0 := Lib.hid htab
  have r0 : rightB y 1 1 = true := right_true.2 ⟨by omega, by omega, by omega, by simp [Cal.len]⟩
  have r1 : rightB (y + 1) 1 1 = true := right_true.2 ⟨by omega, by omega, by omega, by simp [Cal.len]⟩
  have r4 : rightB (y + 400) 1 1 = true := right_true.2 ⟨by omega, by omega, by omega, by simp [Cal.len]⟩
  have n0 : ∀ y, Cal.num y 1 1 = Cal.ahead y := fun y => by unfold Cal.num; simp [Cal.cum]
  obtain ⟨x, hx⟩ : ∃ x, x = Cal.ahead y := ⟨_, rfl⟩
  obtain ⟨q, hq⟩ : ∃ q, q = Cal.len y 2 := ⟨_, rfl⟩
  have lp := Cal.lp_01 y
  have ql : q = 28 + Cal.lp y := by rw [hq]; simp [Cal.len]
  have e1 : Cal.num (y + 1) 1 1 = x + (31 + q + 31 + 30 + 31 + 30 + 31 + 31 + 30 + 31 + 30 + 31) := by rw [n0, Cal.ahead_succ, hx, ql]; omega
  have e4 : Cal.num (y + 400) 1 1 = x + 146097 := by rw [n0, hx]; unfold Cal.ahead; omega
  have e0 : Cal.num y 1 1 = x := by rw [n0, hx]
  have xr := Cal.num_range (right_true.1 r0)
  have zr := Cal.num_range (right_true.1 r4)
  rw [e0] at xr; rw [e4] at zr
  obtain ⟨x0, x1⟩ := xr
  obtain ⟨z0, z1⟩ := zr
  have q0 : 28 ≤ q := by omega
  have q1 : q ≤ 29 := by omega
  have D0 := Lib.hid (days_c y 1 1 x r0 e0); have D1 := Lib.hid (days_c (y + 1) 1 1 _ r1 e1); have D4 := Lib.hid (days_c (y + 400) 1 1 _ r4 e4)
  obtain ⟨v, K0, K4⟩ : ∃ v, Hid (∀ w, Calls Tryd.prog 20 #[.int .i64 x] w fun e w' => e = .returned (.int .i64 v) ∧ Below w.heap.size w w') ∧ Hid (∀ w, Calls Tryd.prog 20 #[.int .i64 (x + 146097)] w fun e w' => e = .returned (.int .i64 v) ∧ Below w.heap.size w w') :=
    ⟨(x + 4) % 7, fun w => weekday_b x w (by omega) (by omega), fun w => by rw [show (x + 4) % 7 = (x + 146097 + 4) % 7 by omega]; exact weekday_b (x + 146097) w (by omega) (by omega)⟩
  have hd : ∀ (n : Int), (n * 86400 + s) / 86400 = n ∧ (n * 86400 + s) % 86400 = s := fun n => by omega
  obtain ⟨Y4, hY4⟩ : ∃ Y4, Y4 = y + 400 := ⟨_, rfl⟩
  obtain ⟨a, b, c, ab, O1, O4⟩ : ∃ a b c, Hid ((0 ≤ a ∧ a < 24) ∧ (0 ≤ b ∧ b < 60) ∧ (0 ≤ c ∧ c < 60)) ∧ Hid (∀ w, Calls Tryd.prog 21 #[.int .i64 (x * 86400 + s)] w fun e w' => e = .returned (.tuple #[.agg #[.int .i64 y, .int .i64 1, .int .i64 1, .int .i64 a, .int .i64 b, .int .i64 c], .int .i64 0]) ∧ Below w.heap.size w w') ∧ Hid (∀ w, Calls Tryd.prog 21 #[.int .i64 ((x + 146097) * 86400 + s)] w fun e w' => e = .returned (.tuple #[.agg #[.int .i64 Y4, .int .i64 1, .int .i64 1, .int .i64 a, .int .i64 b, .int .i64 c], .int .i64 0]) ∧ Below w.heap.size w w') := by
    rw [hY4]
    have d0 := Cal.date_of_num (right_true.1 r0); have d4 := Cal.date_of_num (right_true.1 r4)
    rw [e0] at d0; rw [e4] at d4
    refine ⟨s / 3600, s / 60 % 60, s % 60, Lib.hid ⟨by omega, by omega, by omega⟩, fun w => ?_, fun w => ?_⟩
    · have := sof_yes (x * 86400 + s) w (by omega) (by omega) (by rw [(hd x).1]; exact Cal.hasD_true.2 ⟨by omega, by omega⟩)
      rw [(hd x).1, (hd x).2, d0.1, d0.2.1, d0.2.2] at this
      exact this
    · have := sof_yes ((x + 146097) * 86400 + s) w (by omega) (by omega) (by rw [(hd (x + 146097)).1]; exact Cal.hasD_true.2 ⟨by omega, by omega⟩)
      rw [(hd (x + 146097)).1, (hd (x + 146097)).2, d4.1, d4.2.1, d4.2.2] at this
      exact this
  obtain ⟨F, XF, TX⟩ : ∃ F : Int → ByteArray, Hid (∀ Y w, Lib.TabIs Tryd.prog w "internal/strconv.uint64pow10" .u64 Lib.pow10Tab → Calls Tryd.prog 22 #[.agg #[.int .i64 Y, .int .i64 1, .int .i64 1, .int .i64 a, .int .i64 b, .int .i64 c]] w fun e w' => e = .returned (.string (F Y)) ∧ Below w.heap.size w w') ∧
      ∀ Y, -40000 ≤ Y → Y ≤ 40000 → ∃ (pa : Nat), (F Y).size = pa + 15 ∧ 1 ≤ pa ∧ pa ≤ 30 ∧ (F Y).extract pa (pa + 15) = ⟨(Tx.beh 1 1 a b c).toArray⟩ := by
    refine ⟨fun Y => ⟨(St.tx Y 1 1 a b c).toArray⟩, fun Y w h => stext_any Y 1 1 a b c w h, ?_⟩
    intro Y Y0 Y1
    obtain ⟨⟨a0, a1⟩, ⟨b0, b1⟩, c0, c1⟩ := ab.out
    have rr : St.rB Y 1 1 a b c = true := St.rB_true.2 ⟨right_true.2 ⟨by omega, by omega, by omega, by simp [Cal.len]⟩, a0, a1, b0, b1, c0, c1⟩
    have bl := Tx.beh_len (m := 1) (d := 1) (h := a) (i := b) (s := c) (by omega) (by omega) (by omega) (by omega) (by omega) (by omega) (by omega) (by omega) (by omega) (by omega)
    have yl := Tx.yr_len Y (by omega) (by omega)
    have et : St.tx Y 1 1 a b c = Tx.txt Y 1 1 a b c := by unfold St.tx; rw [rr]; rfl
    refine ⟨(Tx.yr Y).length, ?_, yl.1, yl.2, ?_⟩
    · show (St.tx Y 1 1 a b c).toArray.size = _
      rw [et, List.size_toArray]; unfold Tx.txt; rw [List.length_append, bl]
    · show (⟨(St.tx Y 1 1 a b c).toArray⟩ : ByteArray).extract _ _ = _
      rw [et]; exact cut_15 _ _ bl
  obtain ⟨pa, sA, pa1, pa2, xA⟩ := TX y (by omega) (by omega)
  obtain ⟨pb, sB, pb1, pb2, xB⟩ := TX Y4 (by omega) (by omega)
  have GY := Lib.hid (show (Y4 == y + 400) = true by rw [beq_iff_eq]; exact hY4)
  clear hY4
  generalize (⟨(Tx.beh 1 1 a b c).toArray⟩ : ByteArray) = cc at xA xB
  have SA := Lib.hid (show (15 : Int) < ((F y).size : Int) ∧ ((F y).size : Int) ≤ 1000 ∧ ∀ w, Sem.run Tryd.prog (Instr.slice 9 (.string (F y)) (some (.int .i64 (((F y).size : Int) - 15))) none none) w = .ok (.string cc) w from ⟨by omega, by omega, fun w => cut_run _ _ w (by omega) (by rw [show (((F y).size : Int) - 15).toNat = pa by omega, show (F y).size = pa + 15 from sA]; exact xA)⟩)
  have SB := Lib.hid (show (15 : Int) < ((F Y4).size : Int) ∧ ((F Y4).size : Int) ≤ 1000 ∧ ∀ w, Sem.run Tryd.prog (Instr.slice 9 (.string (F Y4)) (some (.int .i64 (((F Y4).size : Int) - 15))) none none) w = .ok (.string cc) w from ⟨by omega, by omega, fun w => cut_run _ _ w (by omega) (by rw [show (((F Y4).size : Int) - 15).toNat = pb by omega, show (F Y4).size = pb + 15 from sB]; exact xB)⟩)
  clear sA sB xA xB ab hd TX pa1 pa2 pb1 pb2
  have L1 := Lib.hid (len_c y 1 31 (by simp [Cal.len]))
  have L2 := Lib.hid (len_c y 2 q (by rw [hq]))
  have L3 := Lib.hid (len_c y 3 31 (by simp [Cal.len]))
  have L4 := Lib.hid (len_c y 4 30 (by simp [Cal.len]))
  have L5 := Lib.hid (len_c y 5 31 (by simp [Cal.len]))
  have L6 := Lib.hid (len_c y 6 30 (by simp [Cal.len]))
  have L7 := Lib.hid (len_c y 7 31 (by simp [Cal.len]))
  have L8 := Lib.hid (len_c y 8 31 (by simp [Cal.len]))
  have L9 := Lib.hid (len_c y 9 30 (by simp [Cal.len]))
  have L10 := Lib.hid (len_c y 10 31 (by simp [Cal.len]))
  have L11 := Lib.hid (len_c y 11 30 (by simp [Cal.len]))
  have L12 := Lib.hid (len_c y 12 31 (by simp [Cal.len]))
  clear hx hq ql lp e0 e1 e4 n0 r0 r1 r4 htab
  go_enter Tryd.func6, Tryd.ntmps6
  go_wp2_with fail
  refine (B.out _).mono ?_; rintro e w1 ⟨rfl, b1⟩
  have d1 : Below w.heap.size w w1 := below_step (by repeat (first | exact Below.refl _ _ | refine below_drewN ?_ _ | refine Below.drew ?_ | refine Below.setCell ?_ (by first | (simp; done) | (simp; omega) | omega) _ | refine Below.alloc ?_ (by first | (simp; done) | (simp; omega) | omega) _)) b1
  have B1 := Lib.hid d1
  clear b1 d1
  go_wp2_with fail
  refine wp_loop_rounds 13 ?_
  rw [rounds_succ]
  go_wp2_with fail
  refine (L1.out _).mono ?_; rintro e w2 ⟨rfl, b2⟩
  have d2 : Below w1.heap.size w1 w2 := below_step (by repeat (first | exact Below.refl _ _ | refine below_drewN ?_ _ | refine Below.drew ?_ | refine Below.setCell ?_ (by first | (simp; done) | (simp; omega) | omega) _ | refine Below.alloc ?_ (by first | (simp; done) | (simp; omega) | omega) _)) b2
  have B2 := Lib.hid (below_step B1.out d2)
  clear b2 d2 B1
  go_wp2_with fail
  rw [rounds_succ]
  go_wp2_with fail
  refine (L2.out _).mono ?_; rintro e w3 ⟨rfl, b3⟩
  have d3 : Below w2.heap.size w2 w3 := below_step (by repeat (first | exact Below.refl _ _ | refine below_drewN ?_ _ | refine Below.drew ?_ | refine Below.setCell ?_ (by first | (simp; done) | (simp; omega) | omega) _ | refine Below.alloc ?_ (by first | (simp; done) | (simp; omega) | omega) _)) b3
  have B3 := Lib.hid (below_step B2.out d3)
  clear b3 d3 B2
  go_wp2_with fail
  rw [rounds_succ]
  go_wp2_with fail
  refine (L3.out _).mono ?_; rintro e w4 ⟨rfl, b4⟩
  have d4 : Below w3.heap.size w3 w4 := below_step (by repeat (first | exact Below.refl _ _ | refine below_drewN ?_ _ | refine Below.drew ?_ | refine Below.setCell ?_ (by first | (simp; done) | (simp; omega) | omega) _ | refine Below.alloc ?_ (by first | (simp; done) | (simp; omega) | omega) _)) b4
  have B4 := Lib.hid (below_step B3.out d4)
  clear b4 d4 B3
  go_wp2_with fail
  rw [rounds_succ]
  go_wp2_with fail
  refine (L4.out _).mono ?_; rintro e w5 ⟨rfl, b5⟩
  have d5 : Below w4.heap.size w4 w5 := below_step (by repeat (first | exact Below.refl _ _ | refine below_drewN ?_ _ | refine Below.drew ?_ | refine Below.setCell ?_ (by first | (simp; done) | (simp; omega) | omega) _ | refine Below.alloc ?_ (by first | (simp; done) | (simp; omega) | omega) _)) b5
  have B5 := Lib.hid (below_step B4.out d5)
  clear b5 d5 B4
  go_wp2_with fail
  rw [rounds_succ]
  go_wp2_with fail
  refine (L5.out _).mono ?_; rintro e w6 ⟨rfl, b6⟩
  have d6 : Below w5.heap.size w5 w6 := below_step (by repeat (first | exact Below.refl _ _ | refine below_drewN ?_ _ | refine Below.drew ?_ | refine Below.setCell ?_ (by first | (simp; done) | (simp; omega) | omega) _ | refine Below.alloc ?_ (by first | (simp; done) | (simp; omega) | omega) _)) b6
  have B6 := Lib.hid (below_step B5.out d6)
  clear b6 d6 B5
  go_wp2_with fail
  rw [rounds_succ]
  go_wp2_with fail
  refine (L6.out _).mono ?_; rintro e w7 ⟨rfl, b7⟩
  have d7 : Below w6.heap.size w6 w7 := below_step (by repeat (first | exact Below.refl _ _ | refine below_drewN ?_ _ | refine Below.drew ?_ | refine Below.setCell ?_ (by first | (simp; done) | (simp; omega) | omega) _ | refine Below.alloc ?_ (by first | (simp; done) | (simp; omega) | omega) _)) b7
  have B7 := Lib.hid (below_step B6.out d7)
  clear b7 d7 B6
  go_wp2_with fail
  rw [rounds_succ]
  go_wp2_with fail
  refine (L7.out _).mono ?_; rintro e w8 ⟨rfl, b8⟩
  have d8 : Below w7.heap.size w7 w8 := below_step (by repeat (first | exact Below.refl _ _ | refine below_drewN ?_ _ | refine Below.drew ?_ | refine Below.setCell ?_ (by first | (simp; done) | (simp; omega) | omega) _ | refine Below.alloc ?_ (by first | (simp; done) | (simp; omega) | omega) _)) b8
  have B8 := Lib.hid (below_step B7.out d8)
  clear b8 d8 B7
  go_wp2_with fail
  rw [rounds_succ]
  go_wp2_with fail
  refine (L8.out _).mono ?_; rintro e w9 ⟨rfl, b9⟩
  have d9 : Below w8.heap.size w8 w9 := below_step (by repeat (first | exact Below.refl _ _ | refine below_drewN ?_ _ | refine Below.drew ?_ | refine Below.setCell ?_ (by first | (simp; done) | (simp; omega) | omega) _ | refine Below.alloc ?_ (by first | (simp; done) | (simp; omega) | omega) _)) b9
  have B9 := Lib.hid (below_step B8.out d9)
  clear b9 d9 B8
  go_wp2_with fail
  rw [rounds_succ]
  go_wp2_with fail
  refine (L9.out _).mono ?_; rintro e w10 ⟨rfl, b10⟩
  have d10 : Below w9.heap.size w9 w10 := below_step (by repeat (first | exact Below.refl _ _ | refine below_drewN ?_ _ | refine Below.drew ?_ | refine Below.setCell ?_ (by first | (simp; done) | (simp; omega) | omega) _ | refine Below.alloc ?_ (by first | (simp; done) | (simp; omega) | omega) _)) b10
  have B10 := Lib.hid (below_step B9.out d10)
  clear b10 d10 B9
  go_wp2_with fail
  rw [rounds_succ]
  go_wp2_with fail
  refine (L10.out _).mono ?_; rintro e w11 ⟨rfl, b11⟩
  have d11 : Below w10.heap.size w10 w11 := below_step (by repeat (first | exact Below.refl _ _ | refine below_drewN ?_ _ | refine Below.drew ?_ | refine Below.setCell ?_ (by first | (simp; done) | (simp; omega) | omega) _ | refine Below.alloc ?_ (by first | (simp; done) | (simp; omega) | omega) _)) b11
  have B11 := Lib.hid (below_step B10.out d11)
  clear b11 d11 B10
  go_wp2_with fail
  rw [rounds_succ]
  go_wp2_with fail
  refine (L11.out _).mono ?_; rintro e w12 ⟨rfl, b12⟩
  have d12 : Below w11.heap.size w11 w12 := below_step (by repeat (first | exact Below.refl _ _ | refine below_drewN ?_ _ | refine Below.drew ?_ | refine Below.setCell ?_ (by first | (simp; done) | (simp; omega) | omega) _ | refine Below.alloc ?_ (by first | (simp; done) | (simp; omega) | omega) _)) b12
  have B12 := Lib.hid (below_step B11.out d12)
  clear b12 d12 B11
  go_wp2_with fail
  rw [rounds_succ]
  go_wp2_with fail
  refine (L12.out _).mono ?_; rintro e w13 ⟨rfl, b13⟩
  have d13 : Below w12.heap.size w12 w13 := below_step (by repeat (first | exact Below.refl _ _ | refine below_drewN ?_ _ | refine Below.drew ?_ | refine Below.setCell ?_ (by first | (simp; done) | (simp; omega) | omega) _ | refine Below.alloc ?_ (by first | (simp; done) | (simp; omega) | omega) _)) b13
  have B13 := Lib.hid (below_step B12.out d13)
  clear b13 d13 B12
  go_wp2_with fail
  rw [rounds_succ]
  go_wp2_with fail
  refine (D0.out _).mono ?_; rintro e w14 ⟨rfl, b14⟩
  have d14 : Below w13.heap.size w13 w14 := below_step (by repeat (first | exact Below.refl _ _ | refine below_drewN ?_ _ | refine Below.drew ?_ | refine Below.setCell ?_ (by first | (simp; done) | (simp; omega) | omega) _ | refine Below.alloc ?_ (by first | (simp; done) | (simp; omega) | omega) _)) b14
  have B14 := Lib.hid (below_step B13.out d14)
  have aDd := B13.out.size
  have Dd14 : Bk3 w14 (w13.heap.size) (.int .i64 y) (.int .i64 1) (.int .i64 1) := Bk3.of b14 (by simp <;> omega) (by intro j; simp [go_sem]) (by simp [go_sem]) (by simp [go_sem]) (by simp [go_sem])
  have aEe := B13.out.size
  have Ee14 : Bk3 w14 (w13.heap.size + 1) (.int .i64 (y + 1)) (.int .i64 1) (.int .i64 1) := Bk3.of b14 (by simp <;> omega) (by intro j; simp [go_sem]) (by simp [go_sem]) (by simp [go_sem]) (by simp [go_sem])
  have aFf := B13.out.size
  have Ff14 : Bk3 w14 (w13.heap.size + 2) (.int .i64 (y + 400)) (.int .i64 1) (.int .i64 1) := Bk3.of b14 (by simp <;> omega) (by intro j; simp [go_sem]) (by simp [go_sem]) (by simp [go_sem]) (by simp [go_sem])
  clear b14 d14 B13
  have cDd_b := Dd14.hb
  have cDd_f := Dd14.fz
  have cDd_0 := Dd14.k0
  have cDd_1 := Dd14.k1
  have cDd_2 := Dd14.k2
  have cEe_b := Ee14.hb
  have cEe_f := Ee14.fz
  have cEe_0 := Ee14.k0
  have cEe_1 := Ee14.k1
  have cEe_2 := Ee14.k2
  have cFf_b := Ff14.hb
  have cFf_f := Ff14.fz
  have cFf_0 := Ff14.k0
  have cFf_1 := Ff14.k1
  have cFf_2 := Ff14.k2
  go_wp2_with fail
  clear cDd_b cDd_f cDd_0 cDd_1 cDd_2 cEe_b cEe_f cEe_0 cEe_1 cEe_2 cFf_b cFf_f cFf_0 cFf_1 cFf_2
  refine (D1.out _).mono ?_; rintro e w15 ⟨rfl, b15⟩
  have d15 : Below w14.heap.size w14 w15 := below_step (by repeat (first | exact Below.refl _ _ | refine below_drewN ?_ _ | refine Below.drew ?_ | refine Below.setCell ?_ (by first | (simp; done) | (simp; omega) | omega) _ | refine Below.alloc ?_ (by first | (simp; done) | (simp; omega) | omega) _)) b15
  have B15 := Lib.hid (below_step B14.out d15)
  have Dd15 := Dd14.keep d15
  have Ee15 := Ee14.keep d15
  have Ff15 := Ff14.keep d15
  clear Dd14 Ee14 Ff14 b15 d15 B14
  have cDd_b := Dd15.hb
  have cDd_f := Dd15.fz
  have cDd_0 := Dd15.k0
  have cDd_1 := Dd15.k1
  have cDd_2 := Dd15.k2
  have cEe_b := Ee15.hb
  have cEe_f := Ee15.fz
  have cEe_0 := Ee15.k0
  have cEe_1 := Ee15.k1
  have cEe_2 := Ee15.k2
  have cFf_b := Ff15.hb
  have cFf_f := Ff15.fz
  have cFf_0 := Ff15.k0
  have cFf_1 := Ff15.k1
  have cFf_2 := Ff15.k2
  go_wp2_with fail
  clear cDd_b cDd_f cDd_0 cDd_1 cDd_2 cEe_b cEe_f cEe_0 cEe_1 cEe_2 cFf_b cFf_f cFf_0 cFf_1 cFf_2
  refine (D4.out _).mono ?_; rintro e w16 ⟨rfl, b16⟩
  have d16 : Below w15.heap.size w15 w16 := below_step (by repeat (first | exact Below.refl _ _ | refine below_drewN ?_ _ | refine Below.drew ?_ | refine Below.setCell ?_ (by first | (simp; done) | (simp; omega) | omega) _ | refine Below.alloc ?_ (by first | (simp; done) | (simp; omega) | omega) _)) b16
  have B16 := Lib.hid (below_step B15.out d16)
  have Dd16 := Dd15.keep d16
  have Ee16 := Ee15.keep d16
  have Ff16 := Ff15.keep d16
  clear Dd15 Ee15 Ff15 b16 d16 B15
  clear Dd16 aDd
  clear Ee16 aEe
  clear Ff16 aFf
  go_wp2_with fail
  refine (K0.out _).mono ?_; rintro e w17 ⟨rfl, b17⟩
  have d17 : Below w16.heap.size w16 w17 := below_step (by repeat (first | exact Below.refl _ _ | refine below_drewN ?_ _ | refine Below.drew ?_ | refine Below.setCell ?_ (by first | (simp; done) | (simp; omega) | omega) _ | refine Below.alloc ?_ (by first | (simp; done) | (simp; omega) | omega) _)) b17
  have B17 := Lib.hid (below_step B16.out d17)
  clear b17 d17 B16
  go_wp2_with fail
  refine (K4.out _).mono ?_; rintro e w18 ⟨rfl, b18⟩
  have d18 : Below w17.heap.size w17 w18 := below_step (by repeat (first | exact Below.refl _ _ | refine below_drewN ?_ _ | refine Below.drew ?_ | refine Below.setCell ?_ (by first | (simp; done) | (simp; omega) | omega) _ | refine Below.alloc ?_ (by first | (simp; done) | (simp; omega) | omega) _)) b18
  have B18 := Lib.hid (below_step B17.out d18)
  clear b18 d18 B17
  go_wp2_with fail
  refine (O1.out _).mono ?_; rintro e w19 ⟨rfl, b19⟩
  have d19 : Below w18.heap.size w18 w19 := below_step (by repeat (first | exact Below.refl _ _ | refine below_drewN ?_ _ | refine Below.drew ?_ | refine Below.setCell ?_ (by first | (simp; done) | (simp; omega) | omega) _ | refine Below.alloc ?_ (by first | (simp; done) | (simp; omega) | omega) _)) b19
  have B19 := Lib.hid (below_step B18.out d19)
  clear b19 d19 B18
  go_wp2_with fail
  refine (O4.out _).mono ?_; rintro e w20 ⟨rfl, b20⟩
  have d20 : Below w19.heap.size w19 w20 := below_step (by repeat (first | exact Below.refl _ _ | refine below_drewN ?_ _ | refine Below.drew ?_ | refine Below.setCell ?_ (by first | (simp; done) | (simp; omega) | omega) _ | refine Below.alloc ?_ (by first | (simp; done) | (simp; omega) | omega) _)) b20
  have B20 := Lib.hid (below_step B19.out d20)
  have aAa := B19.out.size
  have Aa20 : Bk6 w20 (w19.heap.size) (.int .i64 y) (.int .i64 1) (.int .i64 1) (.int .i64 a) (.int .i64 b) (.int .i64 c) := Bk6.of b20 (by simp <;> omega) (by intro j; simp [go_sem]) (by simp [go_sem]) (by simp [go_sem]) (by simp [go_sem]) (by simp [go_sem]) (by simp [go_sem]) (by simp [go_sem])
  clear b20 d20 B19
  have cAa_b := Aa20.hb
  have cAa_f := Aa20.fz
  have cAa_0 := Aa20.k0
  have cAa_1 := Aa20.k1
  have cAa_2 := Aa20.k2
  have cAa_3 := Aa20.k3
  have cAa_4 := Aa20.k4
  have cAa_5 := Aa20.k5
  go_wp2_with fail
  clear cAa_b cAa_f cAa_0 cAa_1 cAa_2 cAa_3 cAa_4 cAa_5
  refine wp_named ?_; intro w21 hw21
  have d21 : Below w20.heap.size w20 w21 := by rw [hw21]; exact (by repeat (first | exact Below.refl _ _ | refine below_drewN ?_ _ | refine Below.drew ?_ | refine Below.setCell ?_ (by first | (simp; done) | (simp; omega) | omega) _ | refine Below.alloc ?_ (by first | (simp; done) | (simp; omega) | omega) _))
  have B21 := Lib.hid (below_step B20.out d21)
  have Aa21 := Aa20.keep d21
  have aBb := B20.out.size
  have nBbAa := Nat.ne_of_lt Aa20.hb
  have oBbAa := Nat.ne_of_gt Aa20.hb
  have Bb21 : Bk6 w21 (w20.heap.size) (.int .i64 Y4) (.int .i64 1) (.int .i64 1) (.int .i64 a) (.int .i64 b) (.int .i64 c) := by rw [hw21]; exact ⟨by simp <;> omega, by intro j; simp [go_sem], by simp [go_sem], by simp [go_sem], by simp [go_sem], by simp [go_sem], by simp [go_sem], by simp [go_sem]⟩
  clear Aa20 d21 hw21 B20
  have T1 := Lib.hid (var_keep B21.out T0.out)
  have qAa_0 := cell_regrown Aa21.k0
  have qAa_1 := cell_regrown Aa21.k1
  have qAa_2 := cell_regrown Aa21.k2
  have qAa_3 := cell_regrown Aa21.k3
  have qAa_4 := cell_regrown Aa21.k4
  have qAa_5 := cell_regrown Aa21.k5
  have qBb_0 := cell_regrown Bb21.k0
  have qBb_1 := cell_regrown Bb21.k1
  have qBb_2 := cell_regrown Bb21.k2
  have qBb_3 := cell_regrown Bb21.k3
  have qBb_4 := cell_regrown Bb21.k4
  have qBb_5 := cell_regrown Bb21.k5
  refine wp_region_qb (w := w21) (by kernel_rfl) (by kernel_rfl) (by repeat (first | exact Below.refl _ _ | refine below_drewN ?_ _ | refine Below.drew ?_ | refine Below.setCell ?_ (by first | (simp; done) | (simp; omega) | omega) _ | refine Below.alloc ?_ (by first | (simp; done) | (simp; omega) | omega) _)) ?_
  repeat (any_goals (first | go_big_quiet_step (first | (go_at_call 22; exact Calls.regrown_of (XF.out _ _ (var_keep (below_regrown _ _ _) T1.out)))) | quiet_step (first | (go_at_call 22; exact Calls.regrown_of (XF.out _ _ (var_keep (below_regrown _ _ _) T1.out))))))
  refine wpQuiet_nil ?_
  intro w22 hq
  have b22 : Below w21.heap.size w21 w22 := by obtain ⟨p, hq⟩ := hq; rw [hq]; exact below_regrown _ _ _
  clear hq qAa_0 qAa_1 qAa_2 qAa_3 qAa_4 qAa_5 qBb_0 qBb_1 qBb_2 qBb_3 qBb_4 qBb_5
  have d22 : Below w21.heap.size w21 w22 := below_step (by repeat (first | exact Below.refl _ _ | refine below_drewN ?_ _ | refine Below.drew ?_ | refine Below.setCell ?_ (by first | (simp; done) | (simp; omega) | omega) _ | refine Below.alloc ?_ (by first | (simp; done) | (simp; omega) | omega) _)) b22
  have B22 := Lib.hid (below_step B21.out d22)
  have Aa22 := Aa21.keep d22
  have Bb22 := Bb21.keep d22
  clear Aa21 Bb21 b22 d22 B21
  have gY := GY.out
  obtain ⟨gA, gA1, slA⟩ := SA.out; obtain ⟨gB, gB1, slB⟩ := SB.out
  have cAa_b := Aa22.hb
  have cAa_f := Aa22.fz
  have cAa_0 := Aa22.k0
  have cAa_1 := Aa22.k1
  have cAa_2 := Aa22.k2
  have cAa_3 := Aa22.k3
  have cAa_4 := Aa22.k4
  have cAa_5 := Aa22.k5
  have cBb_b := Bb22.hb
  have cBb_f := Bb22.fz
  have cBb_0 := Bb22.k0
  have cBb_1 := Bb22.k1
  have cBb_2 := Bb22.k2
  have cBb_3 := Bb22.k3
  have cBb_4 := Bb22.k4
  have cBb_5 := Bb22.k5
  go_wp2_with fail
  clear cAa_b cAa_f cAa_0 cAa_1 cAa_2 cAa_3 cAa_4 cAa_5 cBb_b cBb_f cBb_0 cBb_1 cBb_2 cBb_3 cBb_4 cBb_5
  refine wp_named ?_; intro w23 hw23
  have d23 : Below w22.heap.size w22 w23 := by rw [hw23]; exact (by repeat (first | exact Below.refl _ _ | refine below_drewN ?_ _ | refine Below.drew ?_ | refine Below.setCell ?_ (by first | (simp; done) | (simp; omega) | omega) _ | refine Below.alloc ?_ (by first | (simp; done) | (simp; omega) | omega) _))
  have B23 := Lib.hid (below_step B22.out d23)
  have Aa23 := Aa22.keep d23
  have Bb23 := Bb22.keep d23
  clear Aa22 Bb22 d23 hw23 B22
  have qAa_0 := cell_regrown Aa23.k0
  have qAa_1 := cell_regrown Aa23.k1
  have qAa_2 := cell_regrown Aa23.k2
  have qAa_3 := cell_regrown Aa23.k3
  have qAa_4 := cell_regrown Aa23.k4
  have qAa_5 := cell_regrown Aa23.k5
  have qBb_0 := cell_regrown Bb23.k0
  have qBb_1 := cell_regrown Bb23.k1
  have qBb_2 := cell_regrown Bb23.k2
  have qBb_3 := cell_regrown Bb23.k3
  have qBb_4 := cell_regrown Bb23.k4
  have qBb_5 := cell_regrown Bb23.k5
  refine wp_region_qb (w := w23) (by kernel_rfl) (by kernel_rfl) (by repeat (first | exact Below.refl _ _ | refine below_drewN ?_ _ | refine Below.drew ?_ | refine Below.setCell ?_ (by first | (simp; done) | (simp; omega) | omega) _ | refine Below.alloc ?_ (by first | (simp; done) | (simp; omega) | omega) _)) ?_
  repeat (any_goals (first | go_big_quiet_step (fail) | quiet_step (fail)))
  refine wpQuiet_nil ?_
  intro w24 hq
  have b24 : Below w23.heap.size w23 w24 := by obtain ⟨p, hq⟩ := hq; rw [hq]; exact below_regrown _ _ _
  clear hq qAa_0 qAa_1 qAa_2 qAa_3 qAa_4 qAa_5 qBb_0 qBb_1 qBb_2 qBb_3 qBb_4 qBb_5
  have d24 : Below w23.heap.size w23 w24 := below_step (by repeat (first | exact Below.refl _ _ | refine below_drewN ?_ _ | refine Below.drew ?_ | refine Below.setCell ?_ (by first | (simp; done) | (simp; omega) | omega) _ | refine Below.alloc ?_ (by first | (simp; done) | (simp; omega) | omega) _)) b24
  have B24 := Lib.hid (below_step B23.out d24)
  have Aa24 := Aa23.keep d24
  have Bb24 := Bb23.keep d24
  clear Aa23 Bb23 b24 d24 B23
  have cAa_b := Aa24.hb
  have cAa_f := Aa24.fz
  have cAa_0 := Aa24.k0
  have cAa_1 := Aa24.k1
  have cAa_2 := Aa24.k2
  have cAa_3 := Aa24.k3
  have cAa_4 := Aa24.k4
  have cAa_5 := Aa24.k5
  have cBb_b := Bb24.hb
  have cBb_f := Bb24.fz
  have cBb_0 := Bb24.k0
  have cBb_1 := Bb24.k1
  have cBb_2 := Bb24.k2
  have cBb_3 := Bb24.k3
  have cBb_4 := Bb24.k4
  have cBb_5 := Bb24.k5
  go_wp2_with fail
  clear cAa_b cAa_f cAa_0 cAa_1 cAa_2 cAa_3 cAa_4 cAa_5 cBb_b cBb_f cBb_0 cBb_1 cBb_2 cBb_3 cBb_4 cBb_5
  go_ret
  exact ⟨rfl, (by have hz := B24.out.size; repeat (first | exact B24.out | refine below_drewN ?_ _ | refine Below.drew ?_ | refine Below.setCell ?_ (by first | omega | (simp; done) | (simp; omega)) _ | refine Below.alloc ?_ (by first | omega | (simp; done) | (simp; omega)) _))⟩
theorem tcal_walk (y m s : Int) (w : World) (htab : Lib.TabIs Tryd.prog w "internal/strconv.uint64pow10" .u64 Lib.pow10Tab) :
    Calls Tryd.prog 6 #[.int .i64 y, .int .i64 m, .int .i64 s] w fun e w' => e = .returned (.bool true) ∧ Below w.heap.size w w' := by
  by_cases h1 : y < -39000
  · exact tcal_out1 y m s w h1
  by_cases h2 : 39000 < y
  · exact tcal_out2 y m s w h1 h2
  by_cases h3 : m < 1
  · exact tcal_out3 y m s w h1 h2 h3
  by_cases h4 : 12 < m
  · exact tcal_out4 y m s w h1 h2 h3 h4
  by_cases h5 : s < 0
  · exact tcal_out5 y m s w h1 h2 h3 h4 h5
  by_cases h6 : 86399 < s
  · exact tcal_out6 y m s w h1 h2 h3 h4 h5 h6
  exact tcal_in y m s w htab h1 h2 h3 h4 h5 h6
end Go.Proofs.YtcmnfbbccacpcacDoor

