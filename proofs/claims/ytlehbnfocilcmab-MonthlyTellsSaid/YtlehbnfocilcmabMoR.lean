/- The contracts of the reference's months: clamp, Add, Years, Days. -/
import Derived.Test.YtlehbnfocilcmabMoB
import Derived.Test.YtlehbnfocilcmabRefC
import Derived.Test.YtlehbnfocilcmabRefD
import Derived.Lib.MinMax
import Derived.Deep.RegionWith
set_option linter.unusedVariables false
set_option linter.unusedSimpArgs false
namespace Go.Proofs.Ytlehbnfocilcmab
open Go.RowKit Go.Sort

namespace Mo
def cok (Y : Int) : Bool := decide (-40000 ≤ Y ∧ Y ≤ 40000)
theorem mok_cok {y m d n : Int} (h : rightB y m d = true) : mok y m d n = cok (mY y m n) := by unfold mok cok; rw [h]; rfl
theorem mok_less {y m d n : Int} (h : mok y m d n = true) : -1000000 ≤ n ∧ n ≤ 1000000 := by
  obtain ⟨a, b, c⟩ := mok_true.1 h
  have a := right_true.1 a
  obtain ⟨m1, m2⟩ := Cal.month_of a
  have := a.y0; have := a.y1
  unfold mY mN at b c; omega
theorem dok_less {y m d n : Int} (h : dok y m d n = true) : -100000000 ≤ n ∧ n ≤ 100000000 := by
  unfold dok at h
  rw [Bool.and_eq_true] at h
  obtain ⟨h1, h2⟩ := h
  have r := Cal.hasD_true.1 h2
  have := Cal.num_range (right_true.1 h1)
  omega
end Mo

set_option maxHeartbeats 1000000 in
theorem rclamp_no (Y M D : Int) (w : World) (h : Y < -40000 ∨ 40000 < Y) :
    Calls Try.prog 54 #[.int .i64 Y, .int .i64 M, .int .i64 D] w fun e w' => e = .returned (.tuple #[.agg #[.int .i64 0, .int .i64 0, .int .i64 0], .int .i64 1]) ∧ Below w.heap.size w w' := by
  have h' : Y < -40000 ∨ (¬ Y < -40000 ∧ 40000 < Y) := by omega
  clear h
  rcases h' with h1 | ⟨h1, h2⟩
  all_goals
    go_enter Try.func54, Try.ntmps54
    go_wp2_with fail
    refine bodyPost_ret (v := .tuple #[.agg #[.int .i64 0, .int .i64 0, .int .i64 0], .int .i64 1]) (by simp [results, Try.results54, go_sem]) rfl ⟨rfl, ?_⟩
    exact (by repeat (first | exact Below.refl _ _ | refine below_drewN ?_ _ | refine Below.drew ?_ | refine Below.setCell ?_ (by simp) _ | refine Below.alloc ?_ (by simp) _))
set_option maxHeartbeats 1000000 in
theorem rclamp_yes (Y M D : Int) (w : World) (h1 : ¬ Y < -40000) (h2 : ¬ 40000 < Y) :
    Calls Try.prog 54 #[.int .i64 Y, .int .i64 M, .int .i64 D] w fun e w' => e = .returned (.tuple #[.agg #[.int .i64 Y, .int .i64 M, .int .i64 (min D (Cal.len Y M))], .int .i64 0]) ∧ Below w.heap.size w w' := by
  go_enter Try.func54, Try.ntmps54
  go_wp2_with fail
  refine (rlen_any Y M _).mono ?_; rintro e w1 ⟨rfl, b1⟩
  have d1 : Below w.heap.size w w1 := below_step (by repeat (first | exact Below.refl _ _ | refine below_drewN ?_ _ | refine Below.drew ?_ | refine Below.setCell ?_ (by simp) _ | refine Below.alloc ?_ (by simp) _)) b1
  have B1 := Lib.hid d1
  have R1 : Bk3 w1 (w.heap.size) (.int .i64 0) (.int .i64 0) (.int .i64 0) := Bk3.of b1 (by simp <;> omega) (by intro j; simp [go_sem]) (by simp [go_sem]) (by simp [go_sem]) (by simp [go_sem])
  clear b1 d1
  have cR_b := R1.hb
  have cR_f := R1.fz
  have cR_0 := R1.k0
  have cR_1 := R1.k1
  have cR_2 := R1.k2
  go_wp2_with fail
  refine bodyPost_ret (v := .tuple #[.agg #[.int .i64 Y, .int .i64 M, .int .i64 (min D (Cal.len Y M))], .int .i64 0]) (by simp [results, Try.results54, go_sem, cR_b, cR_f, cR_0, cR_1, cR_2]) rfl ⟨rfl, ?_⟩
  clear cR_b cR_f cR_0 cR_1 cR_2
  exact (by have hz := B1.out.size; repeat (first | exact B1.out | refine below_drewN ?_ _ | refine Below.drew ?_ | refine Below.setCell ?_ (by first | omega | (simp; done) | (simp; omega)) _ | refine Below.alloc ?_ (by first | omega | (simp; done) | (simp; omega)) _))
theorem rclamp_any (Y M D : Int) (w : World) :
    Calls Try.prog 54 #[.int .i64 Y, .int .i64 M, .int .i64 D] w fun e w' => e = .returned (.tuple #[.agg #[.int .i64 (Cal.orz (Mo.cok Y) Y), .int .i64 (Cal.orz (Mo.cok Y) M), .int .i64 (Cal.orz (Mo.cok Y) (min D (Cal.len Y M)))], .int .i64 (Cal.why (Mo.cok Y))]) ∧ Below w.heap.size w w' := by
  by_cases h : Y < -40000 ∨ 40000 < Y
  · have e : Mo.cok Y = false := by unfold Mo.cok; simp; omega
    rw [e]; exact rclamp_no Y M D w h
  · have e : Mo.cok Y = true := by unfold Mo.cok; simp; omega
    rw [e]; exact rclamp_yes Y M D w (by omega) (by omega)

set_option maxHeartbeats 1000000 in
theorem radd_notright (y m d n : Int) (w : World) (h : rightB y m d = false) :
    Calls Try.prog 25 #[.agg #[.int .i64 y, .int .i64 m, .int .i64 d], .int .i64 n] w fun e w' => e = .returned (.tuple #[.agg #[.int .i64 0, .int .i64 0, .int .i64 0], .int .i64 1]) ∧ Below w.heap.size w w' := by
  have H := Lib.hid h; clear h
  go_enter Try.func25, Try.ntmps25
  go_wp2_with fail
  refine (rright_any y m d _).mono ?_; rintro e w1 ⟨rfl, b1⟩
  have d1 : Below w.heap.size w w1 := below_step (by repeat (first | exact Below.refl _ _ | refine below_drewN ?_ _ | refine Below.drew ?_ | refine Below.setCell ?_ (by simp) _ | refine Below.alloc ?_ (by simp) _)) b1
  have B1 := Lib.hid d1
  have D1 : Bk3 w1 (w.heap.size) (.int .i64 y) (.int .i64 m) (.int .i64 d) := Bk3.of b1 (by simp <;> omega) (by intro j; simp [go_sem]) (by simp [go_sem]) (by simp [go_sem]) (by simp [go_sem])
  have R1 : Bk3 w1 (w.heap.size + 1) (.int .i64 0) (.int .i64 0) (.int .i64 0) := Bk3.of b1 (by simp <;> omega) (by intro j; simp [go_sem]) (by simp [go_sem]) (by simp [go_sem]) (by simp [go_sem])
  clear b1 d1
  rw [H.out]
  have cD_b := D1.hb
  have cD_f := D1.fz
  have cD_0 := D1.k0
  have cD_1 := D1.k1
  have cD_2 := D1.k2
  have cR_b := R1.hb
  have cR_f := R1.fz
  have cR_0 := R1.k0
  have cR_1 := R1.k1
  have cR_2 := R1.k2
  go_wp2_with fail
  refine bodyPost_ret (v := .tuple #[.agg #[.int .i64 0, .int .i64 0, .int .i64 0], .int .i64 1]) (by simp [results, Try.results25, go_sem, cD_b, cD_f, cD_0, cD_1, cD_2, cR_b, cR_f, cR_0, cR_1, cR_2]) rfl ⟨rfl, ?_⟩
  clear cD_b cD_f cD_0 cD_1 cD_2 cR_b cR_f cR_0 cR_1 cR_2
  exact (by have hz := B1.out.size; repeat (first | exact B1.out | refine below_drewN ?_ _ | refine Below.drew ?_ | refine Below.setCell ?_ (by first | omega | (simp; done) | (simp; omega)) _ | refine Below.alloc ?_ (by first | omega | (simp; done) | (simp; omega)) _))
set_option maxHeartbeats 1000000 in
theorem radd_over (y m d n : Int) (w : World) (h : rightB y m d = true) (hn : n < -1000000 ∨ 1000000 < n) :
    Calls Try.prog 25 #[.agg #[.int .i64 y, .int .i64 m, .int .i64 d], .int .i64 n] w fun e w' => e = .returned (.tuple #[.agg #[.int .i64 0, .int .i64 0, .int .i64 0], .int .i64 1]) ∧ Below w.heap.size w w' := by
  have H := Lib.hid h; clear h
  have h' : 1000000 < n ∨ (¬ 1000000 < n ∧ n < -1000000) := by omega
  clear hn
  rcases h' with h1 | ⟨h1, h2⟩
  all_goals
    go_enter Try.func25, Try.ntmps25
    go_wp2_with fail
    refine (rright_any y m d _).mono ?_; rintro e w1 ⟨rfl, b1⟩
    have d1 : Below w.heap.size w w1 := below_step (by repeat (first | exact Below.refl _ _ | refine below_drewN ?_ _ | refine Below.drew ?_ | refine Below.setCell ?_ (by simp) _ | refine Below.alloc ?_ (by simp) _)) b1
    have B1 := Lib.hid d1
    have D1 : Bk3 w1 (w.heap.size) (.int .i64 y) (.int .i64 m) (.int .i64 d) := Bk3.of b1 (by simp <;> omega) (by intro j; simp [go_sem]) (by simp [go_sem]) (by simp [go_sem]) (by simp [go_sem])
    have R1 : Bk3 w1 (w.heap.size + 1) (.int .i64 0) (.int .i64 0) (.int .i64 0) := Bk3.of b1 (by simp <;> omega) (by intro j; simp [go_sem]) (by simp [go_sem]) (by simp [go_sem]) (by simp [go_sem])
    clear b1 d1
    rw [H.out]
    have cD_b := D1.hb
    have cD_f := D1.fz
    have cD_0 := D1.k0
    have cD_1 := D1.k1
    have cD_2 := D1.k2
    have cR_b := R1.hb
    have cR_f := R1.fz
    have cR_0 := R1.k0
    have cR_1 := R1.k1
    have cR_2 := R1.k2
    go_wp2_with fail
    refine bodyPost_ret (v := .tuple #[.agg #[.int .i64 0, .int .i64 0, .int .i64 0], .int .i64 1]) (by simp [results, Try.results25, go_sem, cD_b, cD_f, cD_0, cD_1, cD_2, cR_b, cR_f, cR_0, cR_1, cR_2]) rfl ⟨rfl, ?_⟩
    clear cD_b cD_f cD_0 cD_1 cD_2 cR_b cR_f cR_0 cR_1 cR_2
    exact (by have hz := B1.out.size; repeat (first | exact B1.out | refine below_drewN ?_ _ | refine Below.drew ?_ | refine Below.setCell ?_ (by first | omega | (simp; done) | (simp; omega)) _ | refine Below.alloc ?_ (by first | omega | (simp; done) | (simp; omega)) _))
end Go.Proofs.Ytlehbnfocilcmab

