/- The contract of the reference's week.Date. -/
import Derived.Test.YtfcabofhlgmkjaaDoorRwB
import Derived.Test.YtfcabofhlgmkjaaDoorWkD
import Derived.BigRegion
import Derived.Deep.RegionWith
set_option linter.unusedVariables false
set_option linter.unusedSimpArgs false
namespace Go.Proofs.YtfcabofhlgmkjaaDoor
open Go.RowKit Go.Sort

set_option maxHeartbeats 2000000 in
theorem rwdate_no (y k d : Int) (w : World) (h : Wk.rB y k d = false) :
    Calls Tryd.prog 15 #[.agg #[.int .i64 y, .int .i64 k, .int .i64 d]] w fun e w' => e = .returned (.tuple #[.agg #[.int .i64 0, .int .i64 0, .int .i64 0], .int .i64 1]) ∧ Below w.heap.size w w' := by
  have H := Lib.hid h; clear h
  go_enter Tryd.func15, Tryd.ntmps15
  go_wp2_with fail
  refine (rwright_any y k d _).mono ?_; rintro e w1 ⟨rfl, b1⟩
  have d1 : Below w.heap.size w w1 := below_step (by repeat (first | exact Below.refl _ _ | refine below_drewN ?_ _ | refine Below.drew ?_ | refine Below.setCell ?_ (by first | (simp; done) | (simp; omega) | omega) _ | refine Below.alloc ?_ (by first | (simp; done) | (simp; omega) | omega) _)) b1
  have B1 := Lib.hid d1
  have D1 : Bk3 w1 (w.heap.size) (.int .i64 y) (.int .i64 k) (.int .i64 d) := Bk3.of b1 (by simp <;> omega) (by intro j; simp [go_sem]) (by simp [go_sem]) (by simp [go_sem]) (by simp [go_sem])
  have R1 : Bk3 w1 (w.heap.size + 1) (.int .i64 0) (.int .i64 0) (.int .i64 0) := Bk3.of b1 (by simp <;> omega) (by intro j; simp [go_sem]) (by simp [go_sem]) (by simp [go_sem]) (by simp [go_sem])
  clear b1 d1
  rw [H.out]
  have cD_b := D1.hb
  have cD_f := D1.fz
  have cD_0 := D1.k0
  have cD_1 := D1.k1
  have cD_2 := D1.k2
  have cR_b := R1.hb
  have cR_f := R1.fz
  have cR_0 := R1.k0
  have cR_1 := R1.k1
  have cR_2 := R1.k2
  go_wp2_with fail
  refine bodyPost_ret (v := .tuple #[.agg #[.int .i64 0, .int .i64 0, .int .i64 0], .int .i64 1]) (by simp [results, Tryd.results15, go_sem, cD_b, cD_f, cD_0, cD_1, cD_2, cR_b, cR_f, cR_0, cR_1, cR_2]) rfl ⟨rfl, ?_⟩
  clear cD_b cD_f cD_0 cD_1 cD_2 cR_b cR_f cR_0 cR_1 cR_2
  exact (by have hz := B1.out.size; repeat (first | exact B1.out | refine below_drewN ?_ _ | refine Below.drew ?_ | refine Below.setCell ?_ (by first | omega | (simp; done) | (simp; omega)) _ | refine Below.alloc ?_ (by first | omega | (simp; done) | (simp; omega)) _))
set_option maxHeartbeats 4000000 in
set_option maxRecDepth 100000 in
theorem rwdate_yes (y k d : Int) (w : World) (h : Wk.rB y k d = true) :
    Calls Tryd.prog 15 #[.agg #[.int .i64 y, .int .i64 k, .int .i64 d]] w fun e w' => e = .returned (.tuple #[.agg #[.int .i64 (Cal.dY (Wk.dn y k d)), .int .i64 (Cal.dM (Wk.dn y k d)), .int .i64 (Cal.dD (Wk.dn y k d))], .int .i64 0]) ∧ Below w.heap.size w w' := by
  have B0 := Wk.back_of h
  have G := Cal.hasD_true.1 B0.1
  have hh := h
  unfold Wk.rB at hh
  simp only [Bool.and_eq_true, decide_eq_true_eq] at hh
  obtain ⟨k0, k1, d0, d1⟩ := hh
  obtain ⟨y0, y1⟩ := Wk.wks_y k0 k1
  have kb : k ≤ 53 := by
    have := (Wk.wks_is y0 y1).1; omega
  obtain ⟨f0, f1⟩ := Wk.fst_range (y := y) (by omega) (by omega)
  have H := Lib.hid h
  have hF : ∀ W, Calls Tryd.prog 65 #[.int .i64 y] W fun e w' => e = .returned (.int .i64 (Wk.fst y)) ∧ Below W.heap.size W w' := fun W => rfirst_any y W (by omega) (by omega)
  have hC : ∀ W, Calls Tryd.prog 66 #[.int .i64 (Wk.dn y k d)] W fun e w' => e = .returned (.tuple #[.agg #[.int .i64 (Cal.dY (Wk.dn y k d)), .int .i64 (Cal.dM (Wk.dn y k d)), .int .i64 (Cal.dD (Wk.dn y k d))], .int .i64 0]) ∧ Below W.heap.size W w' := fun W => rdate_yes _ W G.1 G.2
  have e5 : Wk.dn y k d = Wk.fst y + (k - 1) * 7 + (d - 1) := by unfold Wk.dn; omega
  obtain ⟨p1, hp1⟩ : ∃ p, p = k - 1 := ⟨_, rfl⟩
  obtain ⟨p2, hp2⟩ : ∃ p, p = p1 * 7 := ⟨_, rfl⟩
  obtain ⟨p3, hp3⟩ : ∃ p, p = Wk.fst y + p2 := ⟨_, rfl⟩
  obtain ⟨p4, hp4⟩ : ∃ p, p = d - 1 := ⟨_, rfl⟩
  have g1 : IntKind.i64.wrap (k - 1) = p1 := by rw [hp1]; exact IntWalk.i64_in _ (by omega)
  have g2 : IntKind.i64.wrap (p1 * 7) = p2 := by rw [hp2]; exact IntWalk.i64_in _ (by omega)
  have g3 : IntKind.i64.wrap (Wk.fst y + p2) = p3 := by rw [hp3]; exact IntWalk.i64_in _ (by omega)
  have g4 : IntKind.i64.wrap (d - 1) = p4 := by rw [hp4]; exact IntWalk.i64_in _ (by omega)
  have g5 : IntKind.i64.wrap (p3 + p4) = Wk.dn y k d := by rw [e5, ← hp4, ← hp1, ← hp2, ← hp3]; exact IntWalk.i64_in _ (by omega)
  generalize Cal.dY (Wk.dn y k d) = a1 at hC ⊢
  generalize Cal.dM (Wk.dn y k d) = a2 at hC ⊢
  generalize Cal.dD (Wk.dn y k d) = a3 at hC ⊢
  clear h k0 k1 d0 d1 y0 y1 kb B0 G f0 f1 e5 hp1 hp2 hp3 hp4
  generalize Wk.dn y k d = N at hC g5
  generalize Wk.fst y = f at hF g3
  go_enter Tryd.func15, Tryd.ntmps15
  go_wp2_with fail
  refine (rwright_any y k d _).mono ?_; rintro e w1 ⟨rfl, b1⟩
  have d1 : Below w.heap.size w w1 := below_step (by repeat (first | exact Below.refl _ _ | refine below_drewN ?_ _ | refine Below.drew ?_ | refine Below.setCell ?_ (by first | (simp; done) | (simp; omega) | omega) _ | refine Below.alloc ?_ (by first | (simp; done) | (simp; omega) | omega) _)) b1
  have B1 := Lib.hid d1
  have D1 : Bk3 w1 (w.heap.size) (.int .i64 y) (.int .i64 k) (.int .i64 d) := Bk3.of b1 (by simp <;> omega) (by intro j; simp [go_sem]) (by simp [go_sem]) (by simp [go_sem]) (by simp [go_sem])
  have R1 : Bk3 w1 (w.heap.size + 1) (.int .i64 0) (.int .i64 0) (.int .i64 0) := Bk3.of b1 (by simp <;> omega) (by intro j; simp [go_sem]) (by simp [go_sem]) (by simp [go_sem]) (by simp [go_sem])
  clear b1 d1
  rw [H.out]
  have cD_b := D1.hb
  have cD_f := D1.fz
  have cD_0 := D1.k0
  have cD_1 := D1.k1
  have cD_2 := D1.k2
  have cR_b := R1.hb
  have cR_f := R1.fz
  have cR_0 := R1.k0
  have cR_1 := R1.k1
  have cR_2 := R1.k2
  go_wp2_with fail
  clear cD_b cD_f cD_0 cD_1 cD_2 cR_b cR_f cR_0 cR_1 cR_2
  refine wp_named ?_; intro w2 hw2
  have d2 : Below w1.heap.size w1 w2 := by rw [hw2]; exact (by repeat (first | exact Below.refl _ _ | refine below_drewN ?_ _ | refine Below.drew ?_ | refine Below.setCell ?_ (by first | (simp; done) | (simp; omega) | omega) _ | refine Below.alloc ?_ (by first | (simp; done) | (simp; omega) | omega) _))
  have B2 := Lib.hid (below_step B1.out d2)
  have D2 := D1.keep d2
  have R2 := R1.keep d2
  clear D1 R1 d2 hw2 B1
  have cD_b := D2.hb
  have cD_f := D2.fz
  have cD_0 := D2.k0
  have cD_1 := D2.k1
  have cD_2 := D2.k2
  have cR_b := R2.hb
  have cR_f := R2.fz
  have cR_0 := R2.k0
  have cR_1 := R2.k1
  have cR_2 := R2.k2
  go_region_with (first
    | (go_at_call 65; refine (hF _).mono ?_; rintro e v1 ⟨rfl, b1⟩;
       have d1 : Below w2.heap.size w2 v1 := below_step (by repeat (first | exact Below.refl _ _ | refine below_drewN ?_ _ | refine Below.drew ?_)) b1;
       have D3 := D2.keep d1; have R3 := R2.keep d1; have x_b := D3.hb; have x_0 := D3.k0; have x_1 := D3.k1; have x_2 := D3.k2)
    | (go_at_call 66; refine (hC _).mono ?_; rintro e w3 ⟨rfl, b3⟩;
       have d3 : Below v1.heap.size v1 w3 := below_step (by repeat (first | exact Below.refl _ _ | refine below_drewN ?_ _ | refine Below.drew ?_)) b3;
       have R4 := R3.keep d3; have r_b := R4.hb; have r_f := R4.fz; have r_0 := R4.k0; have r_1 := R4.k1; have r_2 := R4.k2))
  all_goals
    go_wp2_with fail
    refine bodyPost_ret (v := .tuple #[.agg #[.int .i64 a1, .int .i64 a2, .int .i64 a3], .int .i64 0]) (by simp [results, Tryd.results15, go_sem, r_b, r_f, r_0, r_1, r_2]) rfl ⟨rfl, ?_⟩
    have B3 := below_step (below_step B2.out d1) d3
    have hz := B3.size
    repeat (first | exact B3 | refine below_drewN ?_ _ | refine Below.drew ?_ | refine Below.setCell ?_ (by first | omega | (simp; done) | (simp; omega)) _ | refine Below.alloc ?_ (by first | omega | (simp; done) | (simp; omega)) _)
theorem rwdate_any (y k d : Int) (w : World) :
    Calls Tryd.prog 15 #[.agg #[.int .i64 y, .int .i64 k, .int .i64 d]] w fun e w' => e = .returned (.tuple #[.agg #[.int .i64 (Cal.orz (Wk.rB y k d) (Cal.dY (Wk.dn y k d))), .int .i64 (Cal.orz (Wk.rB y k d) (Cal.dM (Wk.dn y k d))), .int .i64 (Cal.orz (Wk.rB y k d) (Cal.dD (Wk.dn y k d)))], .int .i64 (Cal.why (Wk.rB y k d))]) ∧ Below w.heap.size w w' := by
  cases h : Wk.rB y k d
  · exact rwdate_no y k d w h
  · exact rwdate_yes y k d w h
end Go.Proofs.YtfcabofhlgmkjaaDoor

