/- Joined: RsI, Liv4, StTw, AnG. -/
import Derived.Test.YtlelpeocbgjmhaaGreatDoorCa27
import Derived.Lib.QuietBelow
import Derived.Test.YtlelpeocbgjmhaaGreatDoorCa11
/- The contract of the reference's stamp.Of; the numbers of stamps, on both sides. -/
set_option linter.unusedVariables false
set_option linter.unusedSimpArgs false
namespace Go.Proofs.YtlelpeocbgjmhaaGreatDoor
open Go.RowKit Go.Sort

set_option maxHeartbeats 2000000 in
theorem rsof_no (t : Int) (w : World) (t0 : -9223372036854775808 ≤ t) (t1 : t ≤ 9223372036854775807) (h : Cal.hasD (t / 86400) = false) :
    Calls Tryz.prog 41 #[.int .i64 t] w fun e w' => e = .returned (.tuple #[.agg #[.int .i64 0, .int .i64 0, .int .i64 0, .int .i64 0, .int .i64 0, .int .i64 0], .int .i64 1]) ∧ Below w.heap.size w w' := by
  have C : Hid (∀ w, Calls Tryz.prog 67 #[.int .i64 t, .int .i64 86400] w fun e w' => e = .returned (.int .i64 (t / 86400)) ∧ Below w.heap.size w w') := fun w => (floor_pos t 86400 w t0 t1 (by omega) (by omega)).mono fun _ _ ⟨h, n, e⟩ => ⟨h, by rw [e]; exact below_draw _ _⟩
  have D : Hid (∀ w, Calls Tryz.prog 66 #[.int .i64 (t / 86400)] w fun e w' => e = .returned (.tuple #[.agg #[.int .i64 0, .int .i64 0, .int .i64 0], .int .i64 1]) ∧ Below w.heap.size w w') := fun w => rdate_no (t / 86400) w (by
    have : ¬ (-15329228 ≤ t / 86400 ∧ t / 86400 ≤ 13890537) := fun hh => by rw [Cal.hasD_true.2 hh] at h; exact absurd h (by decide)
    omega)
  generalize t / 86400 = q at C D
  clear h
  go_enter Tryz.func41, Tryz.ntmps41
  go_wp2_with fail
  refine (C.out _).mono ?_; rintro e w1 ⟨rfl, b1⟩
  have d1 : Below w.heap.size w w1 := below_step (by repeat (first | exact Below.refl _ _ | refine _root_.Go.below_drewN ?_ _ | refine Below.drew ?_ | refine Below.setCell ?_ (by first | (simp; done) | (simp; omega) | omega) _ | refine Below.alloc ?_ (by first | (simp; done) | (simp; omega) | omega) _)) b1
  have B1 := Lib.hid d1
  have R1 : Bk6 w1 (w.heap.size) (.int .i64 0) (.int .i64 0) (.int .i64 0) (.int .i64 0) (.int .i64 0) (.int .i64 0) := Bk6.of b1 (by simp <;> omega) (by intro j; simp [go_sem]) (by simp [go_sem]) (by simp [go_sem]) (by simp [go_sem]) (by simp [go_sem]) (by simp [go_sem]) (by simp [go_sem])
  clear b1 d1
  have cR_b := R1.hb
  have cR_f := R1.fz
  have cR_0 := R1.k0
  have cR_1 := R1.k1
  have cR_2 := R1.k2
  have cR_3 := R1.k3
  have cR_4 := R1.k4
  have cR_5 := R1.k5
  go_wp2_with fail
  clear cR_b cR_f cR_0 cR_1 cR_2 cR_3 cR_4 cR_5
  refine (D.out _).mono ?_; rintro e w2 ⟨rfl, b2⟩
  have d2 : Below w1.heap.size w1 w2 := below_step (by repeat (first | exact Below.refl _ _ | refine _root_.Go.below_drewN ?_ _ | refine Below.drew ?_ | refine Below.setCell ?_ (by first | (simp; done) | (simp; omega) | omega) _ | refine Below.alloc ?_ (by first | (simp; done) | (simp; omega) | omega) _)) b2
  have B2 := Lib.hid (below_step B1.out d2)
  have R2 := R1.keep d2
  clear R1 b2 d2 B1
  have cR_b := R2.hb
  have cR_f := R2.fz
  have cR_0 := R2.k0
  have cR_1 := R2.k1
  have cR_2 := R2.k2
  have cR_3 := R2.k3
  have cR_4 := R2.k4
  have cR_5 := R2.k5
  go_upto_region 3 with (fail)
  clear cR_b cR_f cR_0 cR_1 cR_2 cR_3 cR_4 cR_5
  refine wp_named ?_; intro w3 hw3
  have d3 : Below w2.heap.size w2 w3 := by rw [hw3]; exact (by repeat (first | exact Below.refl _ _ | refine _root_.Go.below_drewN ?_ _ | refine Below.drew ?_ | refine Below.setCell ?_ (by first | (simp; done) | (simp; omega) | omega) _ | refine Below.alloc ?_ (by first | (simp; done) | (simp; omega) | omega) _))
  have B3 := Lib.hid (below_step B2.out d3)
  have R3 := R2.keep d3
  clear R2 d3 hw3 B2
  have cR_b := R3.hb
  have cR_f := R3.fz
  have cR_0 := R3.k0
  have cR_1 := R3.k1
  have cR_2 := R3.k2
  have cR_3 := R3.k3
  have cR_4 := R3.k4
  have cR_5 := R3.k5
  go_wp2_with fail
  refine bodyPost_ret (v := .tuple #[.agg #[.int .i64 0, .int .i64 0, .int .i64 0, .int .i64 0, .int .i64 0, .int .i64 0], .int .i64 1]) (by simp [results, Tryz.results41, go_sem, cR_b, cR_f, cR_0, cR_1, cR_2, cR_3, cR_4, cR_5]) rfl ⟨rfl, ?_⟩
  clear cR_b cR_f cR_0 cR_1 cR_2 cR_3 cR_4 cR_5
  have hz := B3.out.size
  iterate 6 (refine Below.setCell ?_ (by first | omega | (simp; done) | (simp; omega)) _)
  exact B3.out
set_option maxHeartbeats 2000000 in
theorem rsof_yes (t : Int) (w : World) (t0 : -9223372036854775808 ≤ t) (t1 : t ≤ 9223372036854775807) (h : Cal.hasD (t / 86400) = true) :
    Calls Tryz.prog 41 #[.int .i64 t] w fun e w' => e = .returned (.tuple #[.agg #[.int .i64 (Cal.dY (t / 86400)), .int .i64 (Cal.dM (t / 86400)), .int .i64 (Cal.dD (t / 86400)), .int .i64 (t % 86400 / 3600), .int .i64 (t % 86400 / 60 % 60), .int .i64 (t % 86400 % 60)], .int .i64 0]) ∧ Below w.heap.size w w' := by
  have C : Hid (∀ w, Calls Tryz.prog 67 #[.int .i64 t, .int .i64 86400] w fun e w' => e = .returned (.int .i64 (t / 86400)) ∧ Below w.heap.size w w') := fun w => (floor_pos t 86400 w t0 t1 (by omega) (by omega)).mono fun _ _ ⟨h, n, e⟩ => ⟨h, by rw [e]; exact below_draw _ _⟩
  have C2 : Hid (∀ w, Calls Tryz.prog 68 #[.int .i64 t, .int .i64 86400] w fun e w' => e = .returned (.int .i64 (t % 86400)) ∧ Below w.heap.size w w') := fun w => (rest_pos t 86400 w t0 t1 (by omega) (by omega)).mono fun _ _ ⟨h, n, e⟩ => ⟨h, by rw [e]; exact below_draw _ _⟩
  have hb := Cal.hasD_true.1 h
  have D : Hid (∀ w, Calls Tryz.prog 66 #[.int .i64 (t / 86400)] w fun e w' => e = .returned (.tuple #[.agg #[.int .i64 (Cal.dY (t / 86400)), .int .i64 (Cal.dM (t / 86400)), .int .i64 (Cal.dD (t / 86400))], .int .i64 0]) ∧ Below w.heap.size w w') := fun w => rdate_yes (t / 86400) w hb.1 hb.2
  have r0 : 0 ≤ t % 86400 := by omega
  have r1 : t % 86400 < 86400 := by omega
  generalize Cal.dY (t / 86400) = a at D ⊢
  generalize Cal.dM (t / 86400) = b at D ⊢
  generalize Cal.dD (t / 86400) = c at D ⊢
  generalize t / 86400 = q at C D
  generalize t % 86400 = r at C2 r0 r1 ⊢
  clear h t0 t1 hb
  go_enter Tryz.func41, Tryz.ntmps41
  go_wp2_with fail
  refine (C.out _).mono ?_; rintro e w1 ⟨rfl, b1⟩
  have d1 : Below w.heap.size w w1 := below_step (by repeat (first | exact Below.refl _ _ | refine _root_.Go.below_drewN ?_ _ | refine Below.drew ?_ | refine Below.setCell ?_ (by first | (simp; done) | (simp; omega) | omega) _ | refine Below.alloc ?_ (by first | (simp; done) | (simp; omega) | omega) _)) b1
  have B1 := Lib.hid d1
  have R1 : Bk6 w1 (w.heap.size) (.int .i64 0) (.int .i64 0) (.int .i64 0) (.int .i64 0) (.int .i64 0) (.int .i64 0) := Bk6.of b1 (by simp <;> omega) (by intro j; simp [go_sem]) (by simp [go_sem]) (by simp [go_sem]) (by simp [go_sem]) (by simp [go_sem]) (by simp [go_sem]) (by simp [go_sem])
  clear b1 d1
  have cR_b := R1.hb
  have cR_f := R1.fz
  have cR_0 := R1.k0
  have cR_1 := R1.k1
  have cR_2 := R1.k2
  have cR_3 := R1.k3
  have cR_4 := R1.k4
  have cR_5 := R1.k5
  go_wp2_with fail
  clear cR_b cR_f cR_0 cR_1 cR_2 cR_3 cR_4 cR_5
  refine (D.out _).mono ?_; rintro e w2 ⟨rfl, b2⟩
  have d2 : Below w1.heap.size w1 w2 := below_step (by repeat (first | exact Below.refl _ _ | refine _root_.Go.below_drewN ?_ _ | refine Below.drew ?_ | refine Below.setCell ?_ (by first | (simp; done) | (simp; omega) | omega) _ | refine Below.alloc ?_ (by first | (simp; done) | (simp; omega) | omega) _)) b2
  have B2 := Lib.hid (below_step B1.out d2)
  have R2 := R1.keep d2
  clear R1 b2 d2 B1
  have cR_b := R2.hb
  have cR_f := R2.fz
  have cR_0 := R2.k0
  have cR_1 := R2.k1
  have cR_2 := R2.k2
  have cR_3 := R2.k3
  have cR_4 := R2.k4
  have cR_5 := R2.k5
  go_wp2_with fail
  clear cR_b cR_f cR_0 cR_1 cR_2 cR_3 cR_4 cR_5
  refine (C2.out _).mono ?_; rintro e w3 ⟨rfl, b3⟩
  have d3 : Below w2.heap.size w2 w3 := below_step (by repeat (first | exact Below.refl _ _ | refine _root_.Go.below_drewN ?_ _ | refine Below.drew ?_ | refine Below.setCell ?_ (by first | (simp; done) | (simp; omega) | omega) _ | refine Below.alloc ?_ (by first | (simp; done) | (simp; omega) | omega) _)) b3
  have B3 := Lib.hid (below_step B2.out d3)
  have R3 := R2.keep d3
  have aX := B2.out.size
  have nXR := Nat.ne_of_lt R2.hb
  have oXR := Nat.ne_of_gt R2.hb
  have X3 : Bk3 w3 (w2.heap.size) (.int .i64 a) (.int .i64 b) (.int .i64 c) := Bk3.of b3 (by simp <;> omega) (by intro j; simp [go_sem]) (by simp [go_sem]) (by simp [go_sem]) (by simp [go_sem])
  clear R2 b3 d3 B2
  have cR_b := R3.hb
  have cR_f := R3.fz
  have cR_0 := R3.k0
  have cR_1 := R3.k1
  have cR_2 := R3.k2
  have cR_3 := R3.k3
  have cR_4 := R3.k4
  have cR_5 := R3.k5
  have cX_b := X3.hb
  have cX_f := X3.fz
  have cX_0 := X3.k0
  have cX_1 := X3.k1
  have cX_2 := X3.k2
  go_upto_region 5 with (fail)
  clear cR_b cR_f cR_0 cR_1 cR_2 cR_3 cR_4 cR_5 cX_b cX_f cX_0 cX_1 cX_2
  refine wp_named ?_; intro w4 hw4
  have d4 : Below w3.heap.size w3 w4 := by rw [hw4]; exact (by repeat (first | exact Below.refl _ _ | refine _root_.Go.below_drewN ?_ _ | refine Below.drew ?_ | refine Below.setCell ?_ (by first | (simp; done) | (simp; omega) | omega) _ | refine Below.alloc ?_ (by first | (simp; done) | (simp; omega) | omega) _))
  have B4 := Lib.hid (below_step B3.out d4)
  have R4 := R3.keep d4
  have X4 := X3.keep d4
  clear R3 X3 d4 hw4 B3
  have cR_b := R4.hb
  have cR_f := R4.fz
  have cR_0 := R4.k0
  have cR_1 := R4.k1
  have cR_2 := R4.k2
  have cR_3 := R4.k3
  have cR_4 := R4.k4
  have cR_5 := R4.k5
  have cX_b := X4.hb
  have cX_f := X4.fz
  have cX_0 := X4.k0
  have cX_1 := X4.k1
  have cX_2 := X4.k2
  go_wp2_with fail
  refine bodyPost_ret (v := .tuple #[.agg #[.int .i64 a, .int .i64 b, .int .i64 c, .int .i64 (r / 3600), .int .i64 (r / 60 % 60), .int .i64 (r % 60)], .int .i64 0]) (by simp [results, Tryz.results41, go_sem, cR_b, cR_f, cR_0, cR_1, cR_2, cR_3, cR_4, cR_5, cX_b, cX_f, cX_0, cX_1, cX_2]) rfl ⟨rfl, ?_⟩
  clear cR_b cR_f cR_0 cR_1 cR_2 cR_3 cR_4 cR_5 cX_b cX_f cX_0 cX_1 cX_2
  have hz := B4.out.size
  iterate 6 (refine Below.setCell ?_ (by first | omega | (simp; done) | (simp; omega)) _)
  exact B4.out
end Go.Proofs.YtlelpeocbgjmhaaGreatDoor

/- The answers that noontidelaw04.lives asks for: it is true. -/
set_option linter.unusedVariables false
set_option linter.unusedSimpArgs false
namespace Go.Proofs.YtlelpeocbgjmhaaGreatDoor
open Go.RowKit Go.Sort

theorem stext_c (y m d h i s : Int) (l : List UInt8) (e : St.tx y m d h i s = l) (w : World) (htab : Lib.TabIs Tryz.prog w "internal/strconv.uint64pow10" .u64 Lib.pow10Tab) :
    Calls Tryz.prog 40 #[.agg #[.int .i64 y, .int .i64 m, .int .i64 d, .int .i64 h, .int .i64 i, .int .i64 s]] w fun e w' => e = .returned (.string ⟨l.toArray⟩) ∧ Below w.heap.size w w' := by
  have := stext_any y m d h i s w htab
  rw [e] at this
  exact this
theorem sright_c (y m d h i s : Int) (b : Bool) (e : St.rB y m d h i s = b) (w : World) : Calls Tryz.prog 63 #[.agg #[.int .i64 y, .int .i64 m, .int .i64 d, .int .i64 h, .int .i64 i, .int .i64 s]] w fun e w' => e = .returned (.bool b) ∧ Below w.heap.size w w' := by
  have := sright_any y m d h i s w
  rw [e] at this
  exact this
theorem sof_c (t y m d h i s : Int) (t0 : -9223372036854775808 ≤ t) (t1 : t ≤ 9223372036854775807) (hh : Cal.hasD (t / 86400) = true) (e0 : Cal.dY (t / 86400) = y) (e1 : Cal.dM (t / 86400) = m) (e2 : Cal.dD (t / 86400) = d) (e3 : t % 86400 / 3600 = h) (e4 : t % 86400 / 60 % 60 = i) (e5 : t % 86400 % 60 = s) (w : World) :
    Calls Tryz.prog 39 #[.int .i64 t] w fun e w' => e = .returned (.tuple #[.agg #[.int .i64 y, .int .i64 m, .int .i64 d, .int .i64 h, .int .i64 i, .int .i64 s], .int .i64 0]) ∧ Below w.heap.size w w' := by
  have := sof_yes t w t0 t1 hh
  rw [e0, e1, e2, e3, e4, e5] at this
  exact this

end Go.Proofs.YtlelpeocbgjmhaaGreatDoor

/- The walk of StampTells: both sides answer alike. -/
set_option linter.unusedVariables false
set_option linter.unusedSimpArgs false
namespace Go.Proofs.YtlelpeocbgjmhaaGreatDoor
open Go.RowKit Go.Sort

theorem st_of (t : Int) (t0 : -9223372036854775808 ≤ t) (t1 : t ≤ 9223372036854775807) : ∃ a b c f g j k : Int, (Hid (∀ W, Calls Tryz.prog 39 #[.int .i64 t] W fun e w' => e = .returned (.tuple #[.agg #[.int .i64 a, .int .i64 b, .int .i64 c, .int .i64 f, .int .i64 g, .int .i64 j], .int .i64 k]) ∧ Below W.heap.size W w')) ∧
    (Hid (∀ W, Calls Tryz.prog 41 #[.int .i64 t] W fun e w' => e = .returned (.tuple #[.agg #[.int .i64 a, .int .i64 b, .int .i64 c, .int .i64 f, .int .i64 g, .int .i64 j], .int .i64 k]) ∧ Below W.heap.size W w')) := by
  cases hr : Cal.hasD (t / 86400)
  · exact ⟨_, _, _, _, _, _, _, fun W => sof_no t W t0 t1 hr, fun W => rsof_no t W t0 t1 hr⟩
  · exact ⟨_, _, _, _, _, _, _, fun W => sof_yes t W t0 t1 hr, fun W => rsof_yes t W t0 t1 hr⟩
end Go.Proofs.YtlelpeocbgjmhaaGreatDoor

/- Answers: a second's text, and a fault's, of the program. -/
set_option linter.unusedVariables false
set_option linter.unusedSimpArgs false
namespace Go.Proofs.YtlelpeocbgjmhaaGreatDoor
open Go.RowKit Go.Sort Go.Pairs
namespace An
/-- A second's text. -/
def sec (t : Int) : List UInt8 := if Cal.hasD (t / 86400) = true then Lib.itoa t ++ 32 :: St.tx (Cal.dY (t / 86400)) (Cal.dM (t / 86400)) (Cal.dD (t / 86400)) (t % 86400 / 3600) (t % 86400 / 60 % 60) (t % 86400 % 60) else Lib.itoa t
/-- A fault's text. -/
def flt (line err : Int) : List UInt8 := [101, 114, 114, 111, 114, 32] ++ Lib.itoa err ++ (if 0 < line then [32, 105, 110, 32, 108, 105, 110, 101, 32] ++ Lib.itoa line else [])
end An
set_option maxHeartbeats 4000000 in
set_option maxRecDepth 100000 in
theorem afault_any (line err : Int) (w : World) (hl : An.bd line) (he : An.bd err) (T : Lib.TabIs Tryz.prog w "internal/strconv.uint64pow10" .u64 Lib.pow10Tab) :
    Calls Tryz.prog 16 #[.agg #[.int .i64 line, .int .i64 err]] w fun e w' => e = .returned (.string ⟨(An.flt line err).toArray⟩) ∧ Below w.heap.size w w' := by
  obtain ⟨A, ea, za, CA⟩ := an_num err he
  obtain ⟨B, eb, zb, CB⟩ := an_num line hl
  have TT := Lib.hid T
  have hA : (⟨(Lib.itoa err).toArray⟩ : ByteArray) = A := by rw [← ea]
  have hB : (⟨(Lib.itoa line).toArray⟩ : ByteArray) = B := by rw [← eb]
  have hz1 : ¬ 9223372036854775807 < 6 + A.size := by omega
  unfold An.flt
  by_cases h : 0 < line
  · rw [if_pos h]
    rw [An.arr_app, An.arr_app, An.arr_app, hA, hB, show (⟨[101, 114, 114, 111, 114, 32].toArray⟩ : ByteArray) = ⟨#[101, 114, 114, 111, 114, 32]⟩ from rfl, show (⟨[32, 105, 110, 32, 108, 105, 110, 101, 32].toArray⟩ : ByteArray) = ⟨#[32, 105, 110, 32, 108, 105, 110, 101, 32]⟩ from rfl]
    have hz2 : ¬ 9223372036854775807 < 9 + B.size := by omega
    have hz3 : ¬ 9223372036854775807 < 6 + A.size + (9 + B.size) := by omega
    clear ea eb hA hB hl he T za zb
    go_enter Tryz.func16, Tryz.ntmps16
    go_wp2_with fail
    refine (CA.out _ (var_keep (by repeat (first | exact Below.refl _ _ | refine _root_.Go.below_drewN ?_ _ | refine Below.drew ?_ | refine Below.setCell ?_ (by first | (simp; done) | (simp; omega) | omega) _ | refine Below.alloc ?_ (by first | (simp; done) | (simp; omega) | omega) _)) TT.out)).mono ?_; rintro e w1 ⟨rfl, b1⟩
    have d1 : Below w.heap.size w w1 := below_step (by repeat (first | exact Below.refl _ _ | refine _root_.Go.below_drewN ?_ _ | refine Below.drew ?_ | refine Below.setCell ?_ (by first | (simp; done) | (simp; omega) | omega) _ | refine Below.alloc ?_ (by first | (simp; done) | (simp; omega) | omega) _)) b1
    have B1 := Lib.hid d1
    have X1 : Bk2 w1 (w.heap.size) (.int .i64 line) (.int .i64 err) := Bk2.of b1 (by simp <;> omega) (by intro j; simp [go_sem]) (by simp [go_sem]) (by simp [go_sem])
    clear b1 d1
    have cX_b := X1.hb
    have cX_f := X1.fz
    have cX_0 := X1.k0
    have cX_1 := X1.k1
    go_wp2_with fail
    clear cX_b cX_f cX_0 cX_1
    refine (CB.out _ (var_keep B1.out TT.out)).mono ?_; rintro e w2 ⟨rfl, b2⟩
    have d2 : Below w1.heap.size w1 w2 := below_step (by repeat (first | exact Below.refl _ _ | refine _root_.Go.below_drewN ?_ _ | refine Below.drew ?_ | refine Below.setCell ?_ (by first | (simp; done) | (simp; omega) | omega) _ | refine Below.alloc ?_ (by first | (simp; done) | (simp; omega) | omega) _)) b2
    have B2 := Lib.hid (below_step B1.out d2)
    have X2 := X1.keep d2
    clear X1 b2 d2 B1
    have cX_b := X2.hb
    have cX_f := X2.fz
    have cX_0 := X2.k0
    have cX_1 := X2.k1
    go_wp2_with fail
    clear cX_b cX_f cX_0 cX_1
    go_ret
    exact ⟨rfl, (by have hz := B2.out.size; repeat (first | exact B2.out | refine _root_.Go.below_drewN ?_ _ | refine Below.drew ?_ | refine Below.setCell ?_ (by first | omega | (simp; done) | (simp; omega)) _ | refine Below.alloc ?_ (by first | omega | (simp; done) | (simp; omega)) _))⟩
  · rw [if_neg h, List.append_nil]
    rw [An.arr_app, hA, show (⟨[101, 114, 114, 111, 114, 32].toArray⟩ : ByteArray) = ⟨#[101, 114, 114, 111, 114, 32]⟩ from rfl]
    clear ea eb hA hB hl he T za zb CB
    go_enter Tryz.func16, Tryz.ntmps16
    go_wp2_with fail
    refine (CA.out _ (var_keep (by repeat (first | exact Below.refl _ _ | refine _root_.Go.below_drewN ?_ _ | refine Below.drew ?_ | refine Below.setCell ?_ (by first | (simp; done) | (simp; omega) | omega) _ | refine Below.alloc ?_ (by first | (simp; done) | (simp; omega) | omega) _)) TT.out)).mono ?_; rintro e w1 ⟨rfl, b1⟩
    have d1 : Below w.heap.size w w1 := below_step (by repeat (first | exact Below.refl _ _ | refine _root_.Go.below_drewN ?_ _ | refine Below.drew ?_ | refine Below.setCell ?_ (by first | (simp; done) | (simp; omega) | omega) _ | refine Below.alloc ?_ (by first | (simp; done) | (simp; omega) | omega) _)) b1
    have B1 := Lib.hid d1
    have X1 : Bk2 w1 (w.heap.size) (.int .i64 line) (.int .i64 err) := Bk2.of b1 (by simp <;> omega) (by intro j; simp [go_sem]) (by simp [go_sem]) (by simp [go_sem])
    clear b1 d1
    have cX_b := X1.hb
    have cX_f := X1.fz
    have cX_0 := X1.k0
    have cX_1 := X1.k1
    go_wp2_with fail
    clear cX_b cX_f cX_0 cX_1
    go_ret
    exact ⟨rfl, (by have hz := B1.out.size; repeat (first | exact B1.out | refine _root_.Go.below_drewN ?_ _ | refine Below.drew ?_ | refine Below.setCell ?_ (by first | omega | (simp; done) | (simp; omega)) _ | refine Below.alloc ?_ (by first | omega | (simp; done) | (simp; omega)) _))⟩
theorem an_txt {y m d h i s : Int} (hr : St.rB y m d h i s = true) : (⟨(Tx.txt y m d h i s).toArray⟩ : ByteArray).size ≤ 60 := by
  obtain ⟨hR, h0, h1, i0, i1, s0, s1⟩ := St.rB_true.1 hr
  have R := right_true.1 hR
  have hm := Cal.month_of R
  have hd := Cal.len_bd y m
  obtain ⟨y0, y1, d0, d1⟩ := of_decide_eq_true (by unfold rightB at hR; exact hR)
  have hl := Tx.beh_len (m := m) (d := d) (h := h) (i := i) (s := s) (by omega) (by omega) (by omega) (by omega) h0 (by omega) i0 (by omega) s0 (by omega)
  have hyl := Tx.yr_len y (by omega) (by omega)
  show (Tx.txt y m d h i s).toArray.size ≤ 60
  rw [List.size_toArray]
  unfold Tx.txt
  rw [List.length_append, hl]
  omega
theorem an_stx (y m d h i s : Int) : (⟨(St.tx y m d h i s).toArray⟩ : ByteArray).size ≤ 1000 := by
  unfold St.tx
  cases hr : St.rB y m d h i s
  · rw [if_neg (by decide)]; decide
  · rw [if_pos rfl]; exact Nat.le_trans (an_txt hr) (by decide)
set_option maxHeartbeats 4000000 in
set_option maxRecDepth 100000 in
theorem asecond_txt (t : Int) (w : World) (ht : An.bd t) (T : Lib.TabIs Tryz.prog w "internal/strconv.uint64pow10" .u64 Lib.pow10Tab) :
    Calls Tryz.prog 14 #[.int .i64 t] w fun e w' => e = .returned (.string ⟨(An.sec t).toArray⟩) ∧ Below w.heap.size w w' := by
  obtain ⟨A, ea, za, CA⟩ := an_num t ht
  have TT := Lib.hid T
  have hA : (⟨(Lib.itoa t).toArray⟩ : ByteArray) = A := by rw [← ea]
  unfold An.sec
  cases hr : Cal.hasD (t / 86400)
  · rw [if_neg (by decide), hA]
    have OF := Lib.hid (fun W => sof_no t W ht.1 ht.2 hr)
    clear ea hA ht T hr
    go_enter Tryz.func14, Tryz.ntmps14
    go_wp2_with fail
    refine (OF.out _).mono ?_; rintro e w1 ⟨rfl, b1⟩
    have d1 : Below w.heap.size w w1 := below_step (by repeat (first | exact Below.refl _ _ | refine _root_.Go.below_drewN ?_ _ | refine Below.drew ?_ | refine Below.setCell ?_ (by first | (simp; done) | (simp; omega) | omega) _ | refine Below.alloc ?_ (by first | (simp; done) | (simp; omega) | omega) _)) b1
    have B1 := Lib.hid d1
    clear b1 d1
    go_wp2_with fail
    refine (CA.out _ (var_keep (below_step B1.out (by repeat (first | exact Below.refl _ _ | refine _root_.Go.below_drewN ?_ _ | refine Below.drew ?_ | refine Below.setCell ?_ (by first | (simp; done) | (simp; omega) | omega) _ | refine Below.alloc ?_ (by first | (simp; done) | (simp; omega) | omega) _))) TT.out)).mono ?_; rintro e w2 ⟨rfl, b2⟩
    have d2 : Below w1.heap.size w1 w2 := below_step (by repeat (first | exact Below.refl _ _ | refine _root_.Go.below_drewN ?_ _ | refine Below.drew ?_ | refine Below.setCell ?_ (by first | (simp; done) | (simp; omega) | omega) _ | refine Below.alloc ?_ (by first | (simp; done) | (simp; omega) | omega) _)) b2
    have B2 := Lib.hid (below_step B1.out d2)
    clear b2 d2 B1
    go_wp2_with fail
    go_ret
    exact ⟨rfl, (by have hz := B2.out.size; repeat (first | exact B2.out | refine _root_.Go.below_drewN ?_ _ | refine Below.drew ?_ | refine Below.setCell ?_ (by first | omega | (simp; done) | (simp; omega)) _ | refine Below.alloc ?_ (by first | omega | (simp; done) | (simp; omega)) _))⟩
  · rw [if_pos rfl]
    have OF := Lib.hid (fun W => sof_yes t W ht.1 ht.2 hr)
    have ST := Lib.hid (fun W T => stext_any (Cal.dY (t / 86400)) (Cal.dM (t / 86400)) (Cal.dD (t / 86400)) (t % 86400 / 3600) (t % 86400 / 60 % 60) (t % 86400 % 60) W T)
    have zs := an_stx (Cal.dY (t / 86400)) (Cal.dM (t / 86400)) (Cal.dD (t / 86400)) (t % 86400 / 3600) (t % 86400 / 60 % 60) (t % 86400 % 60)
    rw [An.arr_app, show ∀ l : List UInt8, 32 :: l = [32] ++ l from fun _ => rfl, An.arr_app, hA, show (⟨[32].toArray⟩ : ByteArray) = ⟨#[32]⟩ from rfl]
    generalize (⟨(St.tx (Cal.dY (t / 86400)) (Cal.dM (t / 86400)) (Cal.dD (t / 86400)) (t % 86400 / 3600) (t % 86400 / 60 % 60) (t % 86400 % 60)).toArray⟩ : ByteArray) = D at *
    generalize Cal.dY (t / 86400) = y0 at *
    generalize Cal.dM (t / 86400) = y1 at *
    generalize Cal.dD (t / 86400) = y2 at *
    generalize t % 86400 / 3600 = y3 at *
    generalize t % 86400 / 60 % 60 = y4 at *
    generalize t % 86400 % 60 = y5 at *
    rw [← ByteArray.append_assoc]
    have hz1 : ¬ 9223372036854775807 < A.size + 1 := by omega
    have hz2 : ¬ 9223372036854775807 < A.size + 1 + D.size := by omega
    clear ea hA ht T hr za zs
    go_enter Tryz.func14, Tryz.ntmps14
    go_wp2_with fail
    refine (OF.out _).mono ?_; rintro e w1 ⟨rfl, b1⟩
    have d1 : Below w.heap.size w w1 := below_step (by repeat (first | exact Below.refl _ _ | refine _root_.Go.below_drewN ?_ _ | refine Below.drew ?_ | refine Below.setCell ?_ (by first | (simp; done) | (simp; omega) | omega) _ | refine Below.alloc ?_ (by first | (simp; done) | (simp; omega) | omega) _)) b1
    have B1 := Lib.hid d1
    clear b1 d1
    go_upto_region 4 with (fail)
    refine wp_named ?_; intro w2 hw2
    have d2 : Below w1.heap.size w1 w2 := by rw [hw2]; exact (by repeat (first | exact Below.refl _ _ | refine _root_.Go.below_drewN ?_ _ | refine Below.drew ?_ | refine Below.setCell ?_ (by first | (simp; done) | (simp; omega) | omega) _ | refine Below.alloc ?_ (by first | (simp; done) | (simp; omega) | omega) _))
    have B2 := Lib.hid (below_step B1.out d2)
    have X2 : Bk6 w2 w1.heap.size (.int .i64 y0) (.int .i64 y1) (.int .i64 y2) (.int .i64 y3) (.int .i64 y4) (.int .i64 y5) := by rw [hw2]; exact ⟨by simp <;> omega, by intro j; simp [go_sem], by simp [go_sem], by simp [go_sem], by simp [go_sem], by simp [go_sem], by simp [go_sem], by simp [go_sem]⟩
    clear d2 hw2 B1
    refine wp_region_till (R := markR [(fun v _ => v = Value.int .i64 t), (fun v _ => v = Value.string A), (fun v _ => v = Value.string (A ++ ⟨#[32]⟩)), (fun v _ => v = Value.agg #[.int .i64 y0, .int .i64 y1, .int .i64 y2, .int .i64 y3, .int .i64 y4, .int .i64 y5]), (fun v _ => v = Value.string D), (fun v _ => v = Value.string (A ++ ⟨#[32]⟩ ++ D)), (fun v _ => v = Value.string (A ++ ⟨#[32]⟩ ++ D))]) (till := fun _ => none) (D := fun W => Below w2.heap.size w2 W) (G := fun _ W W' => Below W.heap.size W W') (by rfl) ?hbeg ⟨by kernel_rfl, by kernel_rfl, by kernel_rfl, ?hkeep, ?hstab, ObsT.all ?hobs, ?hlast⟩
    case hbeg => exact (Below.refl _ _).drew
    case hkeep => intro i w1 w2 hC hG; exact below_step hC hG
    case hstab =>
      intro i j hij ht v w1 w2 hG hm
      match j, hm with
      | 0, hm => exact hm
      | 1, hm => exact hm
      | 2, hm => exact hm
      | 3, hm => exact hm
      | 4, hm => exact hm
      | 5, hm => exact hm
      | 6, hm => exact hm
      | j + 7, hm => exact trivial
    case hobs =>
      refine ObsT.cons (k' := 1) rfl ?_ ?_
      · intro fa W hW hSame hRR KK hKK
        try dsimp only at hW
        have fb0 : fa.tmps[0]? = some (Value.int .i64 t) := (hSame.base 0 (by kernel_rfl)).trans (by kernel_rfl)
        replace hKK : ∀ v w', Below W.heap.size W w' → v = Value.int .i64 t → KK (Act.put fa _ v) w' := fun v w' h1 h2 => hKK v w' h1 h2
        clear hSame hRR
        rw [if_pos (wanted_plain rfl)]
        go_simp
        refine hKK _ _ ?_ ?_
        · first | exact Below.refl _ _ | exact (Below.refl _ _).alloc (Nat.le_refl _) _ | exact below_draw _ _ | assumption
        · exact rfl
      refine ObsT.cons (k' := 2) rfl ?_ ?_
      · intro fa W hW hSame hRR KK hKK
        try dsimp only at hW
        obtain ⟨fv0, ft0, fm0⟩ := hRR 0 _ 14 rfl rfl (by kernel_rfl) (by kernel_rfl)
        replace fm0 : fv0 = Value.int .i64 t := fm0
        subst fm0
        replace hKK : ∀ v w', Below W.heap.size W w' → v = Value.string A → KK (Act.put fa _ v) w' := fun v w' h1 h2 => hKK v w' h1 h2
        clear hSame hRR
        rw [if_pos (wanted_plain rfl)]
        go_simp
        refine (CA.out _ (var_keep (B2.out.trans (hW.mono B2.out.size)) TT.out)).mono ?_; rintro e w' ⟨rfl, hb⟩
        exact hKK _ _ hb rfl
      refine ObsT.cons (k' := 3) rfl ?_ ?_
      · intro fa W hW hSame hRR KK hKK
        try dsimp only at hW
        obtain ⟨fv1, ft1, fm1⟩ := hRR 1 _ 15 rfl rfl (by kernel_rfl) (by kernel_rfl)
        replace fm1 : fv1 = Value.string A := fm1
        subst fm1
        replace hKK : ∀ v w', Below W.heap.size W w' → v = Value.string (A ++ ⟨#[32]⟩) → KK (Act.put fa _ v) w' := fun v w' h1 h2 => hKK v w' h1 h2
        clear hSame hRR
        rw [if_pos (wanted_plain rfl)]
        go_simp
        refine hKK _ _ ?_ ?_
        · first | exact Below.refl _ _ | exact (Below.refl _ _).alloc (Nat.le_refl _) _ | exact below_draw _ _ | assumption
        · exact rfl
      refine ObsT.cons (k' := 4) rfl ?_ ?_
      · intro fa W hW hSame hRR KK hKK
        try dsimp only at hW
        have fb3 : fa.tmps[3]? = some (Value.pointer (some ⟨w1.heap.size, 0, none⟩)) := (hSame.base 3 (by kernel_rfl)).trans (by kernel_rfl)
        replace hKK : ∀ v w', Below W.heap.size W w' → v = Value.agg #[.int .i64 y0, .int .i64 y1, .int .i64 y2, .int .i64 y3, .int .i64 y4, .int .i64 y5] → KK (Act.put fa _ v) w' := fun v w' h1 h2 => hKK v w' h1 h2
        have hX := X2.keep hW
        have chb := hX.hb
        have cfz := hX.fz
        have ck0 := hX.k0
        have ck1 := hX.k1
        have ck2 := hX.k2
        have ck3 := hX.k3
        have ck4 := hX.k4
        have ck5 := hX.k5
        clear hSame hRR
        rw [if_pos (wanted_plain rfl)]
        go_simp
        refine hKK _ _ ?_ ?_
        · first | exact Below.refl _ _ | exact (Below.refl _ _).alloc (Nat.le_refl _) _ | exact below_draw _ _ | assumption
        · exact rfl
      refine ObsT.cons (k' := 5) rfl ?_ ?_
      · intro fa W hW hSame hRR KK hKK
        try dsimp only at hW
        obtain ⟨fv3, ft3, fm3⟩ := hRR 3 _ 17 rfl rfl (by kernel_rfl) (by kernel_rfl)
        replace fm3 : fv3 = Value.agg #[.int .i64 y0, .int .i64 y1, .int .i64 y2, .int .i64 y3, .int .i64 y4, .int .i64 y5] := fm3
        subst fm3
        replace hKK : ∀ v w', Below W.heap.size W w' → v = Value.string D → KK (Act.put fa _ v) w' := fun v w' h1 h2 => hKK v w' h1 h2
        clear hSame hRR
        rw [if_pos (wanted_plain rfl)]
        go_simp
        refine (ST.out _ (var_keep (B2.out.trans (hW.mono B2.out.size)) TT.out)).mono ?_; rintro e w' ⟨rfl, hb⟩
        exact hKK _ _ hb rfl
      refine ObsT.cons (k' := 6) rfl ?_ ?_
      · intro fa W hW hSame hRR KK hKK
        try dsimp only at hW
        obtain ⟨fv2, ft2, fm2⟩ := hRR 2 _ 16 rfl rfl (by kernel_rfl) (by kernel_rfl)
        replace fm2 : fv2 = Value.string (A ++ ⟨#[32]⟩) := fm2
        subst fm2
        obtain ⟨fv4, ft4, fm4⟩ := hRR 4 _ 18 rfl rfl (by kernel_rfl) (by kernel_rfl)
        replace fm4 : fv4 = Value.string D := fm4
        subst fm4
        replace hKK : ∀ v w', Below W.heap.size W w' → v = Value.string (A ++ ⟨#[32]⟩ ++ D) → KK (Act.put fa _ v) w' := fun v w' h1 h2 => hKK v w' h1 h2
        clear hSame hRR
        rw [if_pos (wanted_plain rfl)]
        go_simp
        refine hKK _ _ ?_ ?_
        · first | exact Below.refl _ _ | exact (Below.refl _ _).alloc (Nat.le_refl _) _ | exact below_draw _ _ | assumption
        · exact rfl
      refine ObsT.cons (k' := 7) rfl ?_ ?_
      · intro fa W hW hSame hRR KK hKK
        try dsimp only at hW
        obtain ⟨fv5, ft5, fm5⟩ := hRR 5 _ 19 rfl rfl (by kernel_rfl) (by kernel_rfl)
        replace fm5 : fv5 = Value.string (A ++ ⟨#[32]⟩ ++ D) := fm5
        subst fm5
        replace hKK : ∀ v w', Below W.heap.size W w' → v = Value.string (A ++ ⟨#[32]⟩ ++ D) → KK (Act.put fa _ v) w' := fun v w' h1 h2 => hKK v w' h1 h2
        clear hSame hRR
        rw [if_pos (wanted_plain rfl)]
        go_simp
        refine hKK _ _ ?_ ?_
        · first | exact Below.refl _ _ | exact (Below.refl _ _).alloc (Nat.le_refl _) _ | exact below_draw _ _ | assumption
        · exact rfl
      exact ObsT.nil
    case hlast =>
      intro fa w3 d3 hSame hRR
      try dsimp only at d3
      obtain ⟨zz6, f2, rfl⟩ := hRR 6 _ 2 rfl rfl rfl
      rw [Same_shape hSame]
      simp only [List.filterMap_cons, List.filterMap_nil, List.foldl_cons, List.foldl_nil]
      have g2 : fa.tmps.getD 2 undef = Value.string (A ++ ⟨#[32]⟩ ++ D) := by simp [Array.getD_eq_getD_getElem?, f2]
      rw [g2]
      generalize fa.tmps.getD 14 undef = y14
      generalize fa.tmps.getD 15 undef = y15
      generalize fa.tmps.getD 16 undef = y16
      generalize fa.tmps.getD 17 undef = y17
      generalize fa.tmps.getD 18 undef = y18
      generalize fa.tmps.getD 19 undef = y19
      clear hSame hRR f2 g2
      simp only [Act.put, List.setIfInBounds_toArray, List.set_cons_succ, List.set_cons_zero]
      have B3 := Lib.hid (below_step B2.out d3)
      go_wp2_with fail
      go_ret
      exact ⟨rfl, B3.out⟩
end Go.Proofs.YtlelpeocbgjmhaaGreatDoor
