/- The walk of CivilBack: for any date and any number the call answers true; nothing old turns. -/
import Derived.Test.YtcephkmdedjecaaLiv3
set_option linter.unusedVariables false
set_option linter.unusedSimpArgs false
namespace Go.Proofs.Ytcephkmdedjecaa
open Go.RowKit

/-- A date lies in the block b; nothing old has turned. -/
structure One (w W : World) (b : Nat) (v0 v1 v2 : Value) : Prop where
  bel : Below w.heap.size w W
  hb : b < W.heap.size
  k0 : W.cell? ⟨b, 0, none⟩ = some v0
  k1 : W.cell? ⟨b, 1, none⟩ = some v1
  k2 : W.cell? ⟨b, 2, none⟩ = some v2
theorem One.keep {w W W' : World} {b : Nat} {v0 v1 v2 : Value} (h : One w W b v0 v1 v2) (k : Below W.heap.size W W') : One w W' b v0 v1 v2 := by
  obtain ⟨hw, hb, h0, h1, h2⟩ := h
  have z := k.size
  refine ⟨below_step hw k, by omega, ?_, ?_, ?_⟩ <;> (rw [k.cell (p := ⟨b, _, none⟩) (by show b < _; omega)]; assumption)
theorem One.alloc {w W : World} {b : Nat} {v0 v1 v2 : Value} (h : One w W b v0 v1 v2) (o : Obj) : One w (W.alloc o) b v0 v1 v2 :=
  h.keep ((Below.refl _ _).alloc (Nat.le_refl _) _)
theorem One.draw {w W : World} {b : Nat} {v0 v1 v2 : Value} (h : One w W b v0 v1 v2) (n : Nat) : One w (W.drewN n) b v0 v1 v2 :=
  h.keep (below_draw _ _)
theorem One.new {w W : World} {v0 v1 v2 : Value} {t : TypeId} (h : Below w.heap.size w W) : One w (W.alloc (.cells #[v0, v1, v2] t)) W.heap.size v0 v1 v2 :=
  ⟨below_step h ((Below.refl _ _).alloc (Nat.le_refl _) _), by simp, by simp [go_sem], by simp [go_sem], by simp [go_sem]⟩

set_option maxHeartbeats 4000000 in
set_option maxRecDepth 100000 in
theorem back_yy (y m d n : Int) (w : World) (hd : rightB y m d = true) (hr : (-15329228 ≤ n ∧ n ≤ 13890537)) :
    Calls Try.prog 7 #[.agg #[.int .i64 y, .int .i64 m, .int .i64 d], .int .i64 n] w fun e w' => e = .returned (.bool true) ∧ Below w.heap.size w w' := by
  have E := Lib.hid (Cal.date_of_num (right_true.1 hd))
  obtain ⟨H0, H1⟩ := Cal.num_range (right_true.1 hd)
  have hR : rightB (Cal.dY n) (Cal.dM n) (Cal.dD n) = true := right_true.2 (Cal.date_right n hr.1 hr.2)
  have HN := Lib.hid (Cal.date_num n)
  go_enter Try.func7, Try.ntmps7
  go_wp2_with fail
  refine (lives3 _).mono ?_; rintro e w1 ⟨rfl, b1⟩
  have O1 := (One.new (t := 40) (v0 := .int .i64 y) (v1 := .int .i64 m) (v2 := .int .i64 d) (Below.refl w.heap.size w)).keep b1
  clear b1
  have k10 := O1.k0; have k11 := O1.k1; have k12 := O1.k2
  go_wp2_with fail
  refine (days_yes y m d _ hd).mono ?_; rintro e w2 ⟨rfl, b2⟩
  have O2 := O1.keep b2
  clear O1 b2 k10 k11 k12
  have k20 := O2.k0; have k21 := O2.k1; have k22 := O2.k2
  go_wp2_with fail
  refine (right_any y m d _).mono ?_; rintro e w3 ⟨rfl, b3⟩
  have O3 := O2.keep b3
  clear O2 b3 k20 k21 k22
  go_wp2_with fail
  refine (date_yes (Cal.num y m d) _ H0 H1).mono ?_; rintro e w4 ⟨rfl, b4⟩
  rw [E.out.1, E.out.2.1, E.out.2.2]
  have O4a := O3.keep b4
  have O4 := O4a.alloc (.cells #[.int .i64 y, .int .i64 m, .int .i64 d] 40)
  clear O3 b4 O4a H0 H1
  have k40 := O4.k0; have k41 := O4.k1; have k42 := O4.k2
  go_wp2_with fail
  clear k40 k41 k42
  refine (date_yes n _ hr.1 hr.2).mono ?_; rintro e w5 ⟨rfl, b5⟩
  have Z5 := below_step O4.bel b5
  have O5 := One.new (t := 40) (v0 := .int .i64 (Cal.dY n)) (v1 := .int .i64 (Cal.dM n)) (v2 := .int .i64 (Cal.dD n)) Z5
  clear O4 b5 Z5
  go_wp2_with fail
  refine (days_yes (Cal.dY n) (Cal.dM n) (Cal.dD n) _ hR).mono ?_; rintro e w6 ⟨rfl, b6⟩
  rw [HN.out]
  have O6 := O5.keep b6
  clear O5 b6
  have k60 := O6.k0; have k61 := O6.k1; have k62 := O6.k2
  go_wp2_with fail
  refine (right_any (Cal.dY n) (Cal.dM n) (Cal.dD n) _).mono ?_; rintro e w7 ⟨rfl, b7⟩
  have Z7 := Lib.hid (below_step O6.bel b7)
  clear O6 b7 k60 k61 k62
  go_wp2_with fail
  go_ret
  exact ⟨rfl, Z7.out⟩

set_option maxHeartbeats 4000000 in
set_option maxRecDepth 100000 in
theorem back_yn (y m d n : Int) (w : World) (hd : rightB y m d = true) (hr : ¬ (-15329228 ≤ n ∧ n ≤ 13890537)) :
    Calls Try.prog 7 #[.agg #[.int .i64 y, .int .i64 m, .int .i64 d], .int .i64 n] w fun e w' => e = .returned (.bool true) ∧ Below w.heap.size w w' := by
  have E := Lib.hid (Cal.date_of_num (right_true.1 hd))
  obtain ⟨H0, H1⟩ := Cal.num_range (right_true.1 hd)
  go_enter Try.func7, Try.ntmps7
  go_wp2_with fail
  refine (lives3 _).mono ?_; rintro e w1 ⟨rfl, b1⟩
  have O1 := (One.new (t := 40) (v0 := .int .i64 y) (v1 := .int .i64 m) (v2 := .int .i64 d) (Below.refl w.heap.size w)).keep b1
  clear b1
  have k10 := O1.k0; have k11 := O1.k1; have k12 := O1.k2
  go_wp2_with fail
  refine (days_yes y m d _ hd).mono ?_; rintro e w2 ⟨rfl, b2⟩
  have O2 := O1.keep b2
  clear O1 b2 k10 k11 k12
  have k20 := O2.k0; have k21 := O2.k1; have k22 := O2.k2
  go_wp2_with fail
  refine (right_any y m d _).mono ?_; rintro e w3 ⟨rfl, b3⟩
  have O3 := O2.keep b3
  clear O2 b3 k20 k21 k22
  go_wp2_with fail
  refine (date_yes (Cal.num y m d) _ H0 H1).mono ?_; rintro e w4 ⟨rfl, b4⟩
  rw [E.out.1, E.out.2.1, E.out.2.2]
  have O4a := O3.keep b4
  have O4 := O4a.alloc (.cells #[.int .i64 y, .int .i64 m, .int .i64 d] 40)
  clear O3 b4 O4a H0 H1
  have k40 := O4.k0; have k41 := O4.k1; have k42 := O4.k2
  go_wp2_with fail
  clear k40 k41 k42
  refine (date_no n _ (by omega)).mono ?_; rintro e w5 ⟨rfl, b5⟩
  have Z5 := Lib.hid (below_step O4.bel b5)
  clear O4 b5
  go_wp2_with fail
  go_ret
  refine ⟨rfl, ?_⟩
  exact below_step Z5.out ((Below.refl _ _).alloc (Nat.le_refl _) _)

set_option maxHeartbeats 4000000 in
set_option maxRecDepth 100000 in
theorem back_ny (y m d n : Int) (w : World) (hd : rightB y m d = false) (hr : (-15329228 ≤ n ∧ n ≤ 13890537)) :
    Calls Try.prog 7 #[.agg #[.int .i64 y, .int .i64 m, .int .i64 d], .int .i64 n] w fun e w' => e = .returned (.bool true) ∧ Below w.heap.size w w' := by
  have hR : rightB (Cal.dY n) (Cal.dM n) (Cal.dD n) = true := right_true.2 (Cal.date_right n hr.1 hr.2)
  have HN := Lib.hid (Cal.date_num n)
  go_enter Try.func7, Try.ntmps7
  go_wp2_with fail
  refine (lives3 _).mono ?_; rintro e w1 ⟨rfl, b1⟩
  have O1 := (One.new (t := 40) (v0 := .int .i64 y) (v1 := .int .i64 m) (v2 := .int .i64 d) (Below.refl w.heap.size w)).keep b1
  clear b1
  have k10 := O1.k0; have k11 := O1.k1; have k12 := O1.k2
  go_wp2_with fail
  refine (days_no y m d _ hd).mono ?_; rintro e w2 ⟨rfl, b2⟩
  have O2 := O1.keep b2
  clear O1 b2 k10 k11 k12
  have k20 := O2.k0; have k21 := O2.k1; have k22 := O2.k2
  go_wp2_with fail
  refine (right_any y m d _).mono ?_; rintro e w3 ⟨rfl, b3⟩
  have O4 := O2.keep b3
  clear O2 b3 k20 k21 k22
  go_wp2_with fail
  refine (date_yes n _ hr.1 hr.2).mono ?_; rintro e w5 ⟨rfl, b5⟩
  have Z5 := below_step O4.bel b5
  have O5 := One.new (t := 40) (v0 := .int .i64 (Cal.dY n)) (v1 := .int .i64 (Cal.dM n)) (v2 := .int .i64 (Cal.dD n)) Z5
  clear O4 b5 Z5
  go_wp2_with fail
  refine (days_yes (Cal.dY n) (Cal.dM n) (Cal.dD n) _ hR).mono ?_; rintro e w6 ⟨rfl, b6⟩
  rw [HN.out]
  have O6 := O5.keep b6
  clear O5 b6
  have k60 := O6.k0; have k61 := O6.k1; have k62 := O6.k2
  go_wp2_with fail
  refine (right_any (Cal.dY n) (Cal.dM n) (Cal.dD n) _).mono ?_; rintro e w7 ⟨rfl, b7⟩
  have Z7 := Lib.hid (below_step O6.bel b7)
  clear O6 b7 k60 k61 k62
  go_wp2_with fail
  go_ret
  exact ⟨rfl, Z7.out⟩

set_option maxHeartbeats 4000000 in
set_option maxRecDepth 100000 in
theorem back_nn (y m d n : Int) (w : World) (hd : rightB y m d = false) (hr : ¬ (-15329228 ≤ n ∧ n ≤ 13890537)) :
    Calls Try.prog 7 #[.agg #[.int .i64 y, .int .i64 m, .int .i64 d], .int .i64 n] w fun e w' => e = .returned (.bool true) ∧ Below w.heap.size w w' := by
  go_enter Try.func7, Try.ntmps7
  go_wp2_with fail
  refine (lives3 _).mono ?_; rintro e w1 ⟨rfl, b1⟩
  have O1 := (One.new (t := 40) (v0 := .int .i64 y) (v1 := .int .i64 m) (v2 := .int .i64 d) (Below.refl w.heap.size w)).keep b1
  clear b1
  have k10 := O1.k0; have k11 := O1.k1; have k12 := O1.k2
  go_wp2_with fail
  refine (days_no y m d _ hd).mono ?_; rintro e w2 ⟨rfl, b2⟩
  have O2 := O1.keep b2
  clear O1 b2 k10 k11 k12
  have k20 := O2.k0; have k21 := O2.k1; have k22 := O2.k2
  go_wp2_with fail
  refine (right_any y m d _).mono ?_; rintro e w3 ⟨rfl, b3⟩
  have O4 := O2.keep b3
  clear O2 b3 k20 k21 k22
  go_wp2_with fail
  refine (date_no n _ (by omega)).mono ?_; rintro e w5 ⟨rfl, b5⟩
  have Z5 := Lib.hid (below_step O4.bel b5)
  clear O4 b5
  go_wp2_with fail
  go_ret
  refine ⟨rfl, ?_⟩
  exact below_step Z5.out ((Below.refl _ _).alloc (Nat.le_refl _) _)

theorem back_walk (y m d n : Int) (w : World) :
    Calls Try.prog 7 #[.agg #[.int .i64 y, .int .i64 m, .int .i64 d], .int .i64 n] w fun e w' => e = .returned (.bool true) ∧ Below w.heap.size w w' := by
  by_cases hr : -15329228 ≤ n ∧ n ≤ 13890537
  · cases hd : rightB y m d
    · exact back_ny y m d n w hd hr
    · exact back_yy y m d n w hd hr
  · cases hd : rightB y m d
    · exact back_nn y m d n w hd hr
    · exact back_yn y m d n w hd hr
end Go.Proofs.Ytcephkmdedjecaa
