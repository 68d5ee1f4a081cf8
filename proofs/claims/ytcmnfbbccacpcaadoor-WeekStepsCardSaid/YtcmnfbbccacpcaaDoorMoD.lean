/- The contract of monthly.Days, by itself. -/
import Derived.Test.YtcmnfbbccacpcaaDoorNumG
import Derived.Test.YtcmnfbbccacpcaaDoorCivT
set_option linter.unusedVariables false
set_option linter.unusedSimpArgs false
namespace Go.Proofs.YtcmnfbbccacpcaaDoor
open Go.RowKit

namespace Mo
def dok (y m d n : Int) : Bool := rightB y m d && Cal.hasD (Cal.num y m d + n)
end Mo
set_option maxHeartbeats 1000000 in
theorem mdays_no (y m d n : Int) (w : World) (h : rightB y m d = false) :
    Calls Tryd.prog 53 #[.agg #[.int .i64 y, .int .i64 m, .int .i64 d], .int .i64 n] w fun e w' => e = .returned (.tuple #[.agg #[.int .i64 0, .int .i64 0, .int .i64 0], .int .i64 1]) ∧ Below w.heap.size w w' := by
  have H := Lib.hid h; clear h
  go_enter Tryd.func53, Tryd.ntmps53
  go_wp2_with fail
  refine (days_no y m d _ H.out).mono ?_; rintro e w1 ⟨rfl, b1⟩
  have d1 : Below w.heap.size w w1 := below_step (by repeat (first | exact Below.refl _ _ | refine below_drewN ?_ _ | refine Below.drew ?_ | refine Below.setCell ?_ (by first | (simp; done) | (simp; omega) | omega) _ | refine Below.alloc ?_ (by first | (simp; done) | (simp; omega) | omega) _)) b1
  have B1 := Lib.hid d1
  have D1 : Bk3 w1 (w.heap.size) (.int .i64 y) (.int .i64 m) (.int .i64 d) := Bk3.of b1 (by simp <;> omega) (by intro j; simp [go_sem]) (by simp [go_sem]) (by simp [go_sem]) (by simp [go_sem])
  have R1 : Bk3 w1 (w.heap.size + 1) (.int .i64 0) (.int .i64 0) (.int .i64 0) := Bk3.of b1 (by simp <;> omega) (by intro j; simp [go_sem]) (by simp [go_sem]) (by simp [go_sem]) (by simp [go_sem])
  clear b1 d1
  have cD_b := D1.hb
  have cD_f := D1.fz
  have cD_0 := D1.k0
  have cD_1 := D1.k1
  have cD_2 := D1.k2
  have cR_b := R1.hb
  have cR_f := R1.fz
  have cR_0 := R1.k0
  have cR_1 := R1.k1
  have cR_2 := R1.k2
  go_wp2_with fail
  refine bodyPost_ret (v := .tuple #[.agg #[.int .i64 0, .int .i64 0, .int .i64 0], .int .i64 1]) (by simp [results, Tryd.results53, go_sem, cD_b, cD_f, cD_0, cD_1, cD_2, cR_b, cR_f, cR_0, cR_1, cR_2]) rfl ⟨rfl, ?_⟩
  clear cD_b cD_f cD_0 cD_1 cD_2 cR_b cR_f cR_0 cR_1 cR_2
  exact (by have hz := B1.out.size; repeat (first | exact B1.out | refine below_drewN ?_ _ | refine Below.drew ?_ | refine Below.setCell ?_ (by first | omega | (simp; done) | (simp; omega)) _ | refine Below.alloc ?_ (by first | omega | (simp; done) | (simp; omega)) _))
set_option maxHeartbeats 1000000 in
theorem mdays_over (y m d n : Int) (w : World) (h : rightB y m d = true) (n0 : -9223372036854775808 ≤ n) (n1 : n ≤ 9223372036854775807) (ho : Cal.num y m d + n < -9223372036854775808 ∨ 9223372036854775807 < Cal.num y m d + n) :
    Calls Tryd.prog 53 #[.agg #[.int .i64 y, .int .i64 m, .int .i64 d], .int .i64 n] w fun e w' => e = .returned (.tuple #[.agg #[.int .i64 0, .int .i64 0, .int .i64 0], .int .i64 1]) ∧ Below w.heap.size w w' := by
  obtain ⟨r0, r1⟩ := Cal.num_range (right_true.1 h)
  have H := Lib.hid h
  have E := Lib.hid (Nm.ok_no ho)
  clear h ho
  go_enter Tryd.func53, Tryd.ntmps53
  go_wp2_with fail
  refine (days_yes y m d _ H.out).mono ?_; rintro e w1 ⟨rfl, b1⟩
  have d1 : Below w.heap.size w w1 := below_step (by repeat (first | exact Below.refl _ _ | refine below_drewN ?_ _ | refine Below.drew ?_ | refine Below.setCell ?_ (by first | (simp; done) | (simp; omega) | omega) _ | refine Below.alloc ?_ (by first | (simp; done) | (simp; omega) | omega) _)) b1
  have B1 := Lib.hid d1
  have D1 : Bk3 w1 (w.heap.size) (.int .i64 y) (.int .i64 m) (.int .i64 d) := Bk3.of b1 (by simp <;> omega) (by intro j; simp [go_sem]) (by simp [go_sem]) (by simp [go_sem]) (by simp [go_sem])
  have R1 : Bk3 w1 (w.heap.size + 1) (.int .i64 0) (.int .i64 0) (.int .i64 0) := Bk3.of b1 (by simp <;> omega) (by intro j; simp [go_sem]) (by simp [go_sem]) (by simp [go_sem]) (by simp [go_sem])
  clear b1 d1
  have cD_b := D1.hb
  have cD_f := D1.fz
  have cD_0 := D1.k0
  have cD_1 := D1.k1
  have cD_2 := D1.k2
  have cR_b := R1.hb
  have cR_f := R1.fz
  have cR_0 := R1.k0
  have cR_1 := R1.k1
  have cR_2 := R1.k2
  go_wp2_with fail
  clear cD_b cD_f cD_0 cD_1 cD_2 cR_b cR_f cR_0 cR_1 cR_2
  refine (nadd_b (Cal.num y m d) n _ (by omega) (by omega) n0 n1).mono ?_; rintro e w2 ⟨rfl, b2⟩
  have d2 : Below w1.heap.size w1 w2 := below_step (by repeat (first | exact Below.refl _ _ | refine below_drewN ?_ _ | refine Below.drew ?_ | refine Below.setCell ?_ (by first | (simp; done) | (simp; omega) | omega) _ | refine Below.alloc ?_ (by first | (simp; done) | (simp; omega) | omega) _)) b2
  have B2 := Lib.hid (below_step B1.out d2)
  have D2 := D1.keep d2
  have R2 := R1.keep d2
  clear D1 R1 b2 d2 B1
  rw [E.out.1, E.out.2]
  have cD_b := D2.hb
  have cD_f := D2.fz
  have cD_0 := D2.k0
  have cD_1 := D2.k1
  have cD_2 := D2.k2
  have cR_b := R2.hb
  have cR_f := R2.fz
  have cR_0 := R2.k0
  have cR_1 := R2.k1
  have cR_2 := R2.k2
  go_wp2_with fail
  refine bodyPost_ret (v := .tuple #[.agg #[.int .i64 0, .int .i64 0, .int .i64 0], .int .i64 1]) (by simp [results, Tryd.results53, go_sem, cD_b, cD_f, cD_0, cD_1, cD_2, cR_b, cR_f, cR_0, cR_1, cR_2]) rfl ⟨rfl, ?_⟩
  clear cD_b cD_f cD_0 cD_1 cD_2 cR_b cR_f cR_0 cR_1 cR_2
  exact (by have hz := B2.out.size; repeat (first | exact B2.out | refine below_drewN ?_ _ | refine Below.drew ?_ | refine Below.setCell ?_ (by first | omega | (simp; done) | (simp; omega)) _ | refine Below.alloc ?_ (by first | omega | (simp; done) | (simp; omega)) _))
set_option maxHeartbeats 1000000 in
theorem mdays_in (y m d n : Int) (w : World) (h : rightB y m d = true) (n0 : -9223372036854775808 ≤ n) (n1 : n ≤ 9223372036854775807) (o0 : -9223372036854775808 ≤ Cal.num y m d + n) (o1 : Cal.num y m d + n ≤ 9223372036854775807) :
    Calls Tryd.prog 53 #[.agg #[.int .i64 y, .int .i64 m, .int .i64 d], .int .i64 n] w fun e w' => e = .returned (.tuple #[.agg #[.int .i64 (Cal.orz (Cal.hasD (Cal.num y m d + n)) (Cal.dY (Cal.num y m d + n))), .int .i64 (Cal.orz (Cal.hasD (Cal.num y m d + n)) (Cal.dM (Cal.num y m d + n))), .int .i64 (Cal.orz (Cal.hasD (Cal.num y m d + n)) (Cal.dD (Cal.num y m d + n)))], .int .i64 (Cal.why (Cal.hasD (Cal.num y m d + n)))]) ∧ Below w.heap.size w w' := by
  obtain ⟨r0, r1⟩ := Cal.num_range (right_true.1 h)
  have H := Lib.hid h
  have E := Lib.hid (Nm.ok_yes o0 o1)
  clear h
  go_enter Tryd.func53, Tryd.ntmps53
  go_wp2_with fail
  refine (days_yes y m d _ H.out).mono ?_; rintro e w1 ⟨rfl, b1⟩
  have d1 : Below w.heap.size w w1 := below_step (by repeat (first | exact Below.refl _ _ | refine below_drewN ?_ _ | refine Below.drew ?_ | refine Below.setCell ?_ (by first | (simp; done) | (simp; omega) | omega) _ | refine Below.alloc ?_ (by first | (simp; done) | (simp; omega) | omega) _)) b1
  have B1 := Lib.hid d1
  have D1 : Bk3 w1 (w.heap.size) (.int .i64 y) (.int .i64 m) (.int .i64 d) := Bk3.of b1 (by simp <;> omega) (by intro j; simp [go_sem]) (by simp [go_sem]) (by simp [go_sem]) (by simp [go_sem])
  have R1 : Bk3 w1 (w.heap.size + 1) (.int .i64 0) (.int .i64 0) (.int .i64 0) := Bk3.of b1 (by simp <;> omega) (by intro j; simp [go_sem]) (by simp [go_sem]) (by simp [go_sem]) (by simp [go_sem])
  clear b1 d1
  have cD_b := D1.hb
  have cD_f := D1.fz
  have cD_0 := D1.k0
  have cD_1 := D1.k1
  have cD_2 := D1.k2
  have cR_b := R1.hb
  have cR_f := R1.fz
  have cR_0 := R1.k0
  have cR_1 := R1.k1
  have cR_2 := R1.k2
  go_wp2_with fail
  clear cD_b cD_f cD_0 cD_1 cD_2 cR_b cR_f cR_0 cR_1 cR_2
  refine (nadd_b (Cal.num y m d) n _ (by omega) (by omega) n0 n1).mono ?_; rintro e w2 ⟨rfl, b2⟩
  have d2 : Below w1.heap.size w1 w2 := below_step (by repeat (first | exact Below.refl _ _ | refine below_drewN ?_ _ | refine Below.drew ?_ | refine Below.setCell ?_ (by first | (simp; done) | (simp; omega) | omega) _ | refine Below.alloc ?_ (by first | (simp; done) | (simp; omega) | omega) _)) b2
  have B2 := Lib.hid (below_step B1.out d2)
  have D2 := D1.keep d2
  have R2 := R1.keep d2
  clear D1 R1 b2 d2 B1
  rw [E.out.1, E.out.2]
  have cD_b := D2.hb
  have cD_f := D2.fz
  have cD_0 := D2.k0
  have cD_1 := D2.k1
  have cD_2 := D2.k2
  have cR_b := R2.hb
  have cR_f := R2.fz
  have cR_0 := R2.k0
  have cR_1 := R2.k1
  have cR_2 := R2.k2
  go_wp2_with fail
  clear cD_b cD_f cD_0 cD_1 cD_2 cR_b cR_f cR_0 cR_1 cR_2
  refine (date_any (Cal.num y m d + n) _).mono ?_; rintro e w3 ⟨rfl, b3⟩
  have d3 : Below w2.heap.size w2 w3 := below_step (by repeat (first | exact Below.refl _ _ | refine below_drewN ?_ _ | refine Below.drew ?_ | refine Below.setCell ?_ (by first | (simp; done) | (simp; omega) | omega) _ | refine Below.alloc ?_ (by first | (simp; done) | (simp; omega) | omega) _)) b3
  have B3 := Lib.hid (below_step B2.out d3)
  have D3 := D2.keep d3
  have R3 := R2.keep d3
  clear D2 R2 b3 d3 B2
  have cD_b := D3.hb
  have cD_f := D3.fz
  have cD_0 := D3.k0
  have cD_1 := D3.k1
  have cD_2 := D3.k2
  have cR_b := R3.hb
  have cR_f := R3.fz
  have cR_0 := R3.k0
  have cR_1 := R3.k1
  have cR_2 := R3.k2
  go_wp2_with fail
  refine bodyPost_ret (v := .tuple #[.agg #[.int .i64 (Cal.orz (Cal.hasD (Cal.num y m d + n)) (Cal.dY (Cal.num y m d + n))), .int .i64 (Cal.orz (Cal.hasD (Cal.num y m d + n)) (Cal.dM (Cal.num y m d + n))), .int .i64 (Cal.orz (Cal.hasD (Cal.num y m d + n)) (Cal.dD (Cal.num y m d + n)))], .int .i64 (Cal.why (Cal.hasD (Cal.num y m d + n)))]) (by simp [results, Tryd.results53, go_sem, cD_b, cD_f, cD_0, cD_1, cD_2, cR_b, cR_f, cR_0, cR_1, cR_2]) rfl ⟨rfl, ?_⟩
  clear cD_b cD_f cD_0 cD_1 cD_2 cR_b cR_f cR_0 cR_1 cR_2
  exact (by have hz := B3.out.size; repeat (first | exact B3.out | refine below_drewN ?_ _ | refine Below.drew ?_ | refine Below.setCell ?_ (by first | omega | (simp; done) | (simp; omega)) _ | refine Below.alloc ?_ (by first | omega | (simp; done) | (simp; omega)) _))
theorem mdays_any (y m d n : Int) (w : World) (n0 : -9223372036854775808 ≤ n) (n1 : n ≤ 9223372036854775807) :
    Calls Tryd.prog 53 #[.agg #[.int .i64 y, .int .i64 m, .int .i64 d], .int .i64 n] w fun e w' => e = .returned (.tuple #[.agg #[.int .i64 (Cal.orz (Mo.dok y m d n) (Cal.dY (Cal.num y m d + n))), .int .i64 (Cal.orz (Mo.dok y m d n) (Cal.dM (Cal.num y m d + n))), .int .i64 (Cal.orz (Mo.dok y m d n) (Cal.dD (Cal.num y m d + n)))], .int .i64 (Cal.why (Mo.dok y m d n))]) ∧ Below w.heap.size w w' := by
  cases h : rightB y m d
  · have e : Mo.dok y m d n = false := by unfold Mo.dok; rw [h]; rfl
    rw [e]; exact mdays_no y m d n w h
  · have e : Mo.dok y m d n = Cal.hasD (Cal.num y m d + n) := by unfold Mo.dok; rw [h]; rfl
    rw [e]
    by_cases ho : Cal.num y m d + n < -9223372036854775808 ∨ 9223372036854775807 < Cal.num y m d + n
    · have e : Cal.hasD (Cal.num y m d + n) = false := by
        cases hk : Cal.hasD (Cal.num y m d + n)
        · rfl
        · have := Cal.hasD_true.1 hk; omega
      rw [e]; exact mdays_over y m d n w h n0 n1 ho
    · exact mdays_in y m d n w h n0 n1 (by omega) (by omega)
end Go.Proofs.YtcmnfbbccacpcaaDoor

