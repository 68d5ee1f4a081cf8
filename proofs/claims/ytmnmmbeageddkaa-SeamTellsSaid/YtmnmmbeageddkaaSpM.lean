/- Lists of spans: the contracts of the reference's Less and Same. -/
import Derived.Test.YtmnmmbeageddkaaSpL0
set_option linter.unusedVariables false
set_option linter.unusedSimpArgs false
namespace Go.Proofs.Ytmnmmbeageddkaa
open Go.RowKit Go.Sort

set_option maxHeartbeats 4000000 in
theorem rless_no (x0 x1 y0 y1 : Int) (w : World) (h : Sp.rb x0 x1 = false) :
    Calls Try.prog 88 #[.agg #[.int .i64 x0, .int .i64 x1], .agg #[.int .i64 y0, .int .i64 y1]] w (AnsS [] w) := by
  have H := Lib.hid h; clear h
  go_enter Try.func88, Try.ntmps88
  go_wp2_with fail
  refine (noontideref10_right x0 x1 _).mono ?_; rintro e w1 ⟨rfl, b1⟩
  have d1 : Below w.heap.size w w1 := below_step (by repeat (first | exact Below.refl _ _ | refine below_drewN ?_ _ | refine Below.drew ?_ | refine Below.setCell ?_ (by first | (simp; done) | (simp; omega) | omega) _ | refine Below.alloc ?_ (by first | (simp; done) | (simp; omega) | omega) _)) b1
  have B1 := Lib.hid d1
  have A1 : Bk2 w1 (w.heap.size) (.int .i64 x0) (.int .i64 x1) := Bk2.of b1 (by simp <;> omega) (by intro j; simp [go_sem]) (by simp [go_sem]) (by simp [go_sem])
  have Bb1 : Bk2 w1 (w.heap.size + 1) (.int .i64 y0) (.int .i64 y1) := Bk2.of b1 (by simp <;> omega) (by intro j; simp [go_sem]) (by simp [go_sem]) (by simp [go_sem])
  clear b1 d1
  rw [H.out]
  have cA_b := A1.hb
  have cA_f := A1.fz
  have cA_0 := A1.k0
  have cA_1 := A1.k1
  have cBb_b := Bb1.hb
  have cBb_f := Bb1.fz
  have cBb_0 := Bb1.k0
  have cBb_1 := Bb1.k1
  go_wp2_with fail
  clear cA_b cA_f cA_0 cA_1 cBb_b cBb_f cBb_0 cBb_1
  go_ret
  refine ⟨_, Lst.nil _ _, rfl, ?_⟩
  exact (by have hz := B1.out.size; repeat (first | exact B1.out | refine below_drewN ?_ _ | refine Below.drew ?_ | refine Below.setCell ?_ (by first | omega | (simp; done) | (simp; omega)) _ | refine Below.alloc ?_ (by first | omega | (simp; done) | (simp; omega)) _))
set_option maxHeartbeats 4000000 in
theorem rless_all (x0 x1 y0 y1 : Int) (w : World) (h : Sp.rb x0 x1 = true) (h2 : Sp.mt x0 x1 y0 y1 = false) :
    Calls Try.prog 88 #[.agg #[.int .i64 x0, .int .i64 x1], .agg #[.int .i64 y0, .int .i64 y1]] w (AnsS [(x0, x1)] w) := by
  have H := Lib.hid h; clear h
  have H2 := Lib.hid h2; clear h2
  go_enter Try.func88, Try.ntmps88
  go_wp2_with fail
  refine (noontideref10_right x0 x1 _).mono ?_; rintro e w1 ⟨rfl, b1⟩
  have d1 : Below w.heap.size w w1 := below_step (by repeat (first | exact Below.refl _ _ | refine below_drewN ?_ _ | refine Below.drew ?_ | refine Below.setCell ?_ (by first | (simp; done) | (simp; omega) | omega) _ | refine Below.alloc ?_ (by first | (simp; done) | (simp; omega) | omega) _)) b1
  have B1 := Lib.hid d1
  have A1 : Bk2 w1 (w.heap.size) (.int .i64 x0) (.int .i64 x1) := Bk2.of b1 (by simp <;> omega) (by intro j; simp [go_sem]) (by simp [go_sem]) (by simp [go_sem])
  have Bb1 : Bk2 w1 (w.heap.size + 1) (.int .i64 y0) (.int .i64 y1) := Bk2.of b1 (by simp <;> omega) (by intro j; simp [go_sem]) (by simp [go_sem]) (by simp [go_sem])
  clear b1 d1
  rw [H.out]
  have cA_b := A1.hb
  have cA_f := A1.fz
  have cA_0 := A1.k0
  have cA_1 := A1.k1
  have cBb_b := Bb1.hb
  have cBb_f := Bb1.fz
  have cBb_0 := Bb1.k0
  have cBb_1 := Bb1.k1
  go_wp2_with fail
  clear cA_b cA_f cA_0 cA_1 cBb_b cBb_f cBb_0 cBb_1
  refine (noontideref10_meet x0 x1 y0 y1 _).mono ?_; rintro e w2 ⟨rfl, b2⟩
  have d2 : Below w1.heap.size w1 w2 := below_step (by repeat (first | exact Below.refl _ _ | refine below_drewN ?_ _ | refine Below.drew ?_ | refine Below.setCell ?_ (by first | (simp; done) | (simp; omega) | omega) _ | refine Below.alloc ?_ (by first | (simp; done) | (simp; omega) | omega) _)) b2
  have B2 := Lib.hid (below_step B1.out d2)
  have A2 := A1.keep d2
  have Bb2 := Bb1.keep d2
  clear A1 Bb1 b2 d2 B1
  rw [H2.out]
  have cA_b := A2.hb
  have cA_f := A2.fz
  have cA_0 := A2.k0
  have cA_1 := A2.k1
  have cBb_b := Bb2.hb
  have cBb_f := Bb2.fz
  have cBb_0 := Bb2.k0
  have cBb_1 := Bb2.k1
  go_wp2_with fail
  clear cA_b cA_f cA_0 cA_1 cBb_b cBb_f cBb_0 cBb_1
  go_ret
  refine ⟨_, ⟨_, _, rfl, fun _ => ⟨_, rfl, by simp, two_cells (by simp [go_sem]) (by simp [go_sem])⟩⟩, rfl, ?_⟩
  exact (by have hz := B2.out.size; repeat (first | exact B2.out | refine below_drewN ?_ _ | refine Below.drew ?_ | refine Below.setCell ?_ (by first | omega | (simp; done) | (simp; omega)) _ | refine Below.alloc ?_ (by first | omega | (simp; done) | (simp; omega)) _))
set_option maxHeartbeats 4000000 in
theorem rless_true_true (x0 x1 y0 y1 : Int) (w : World) (h : Sp.rb x0 x1 = true) (h2 : Sp.mt x0 x1 y0 y1 = true) (d1 : decide (x0 < y0) = true) (d2 : decide (y1 < x1) = true) :
    Calls Try.prog 88 #[.agg #[.int .i64 x0, .int .i64 x1], .agg #[.int .i64 y0, .int .i64 y1]] w (AnsS ([(x0, y0)] ++ [(y1, x1)]) w) := by
  have H := Lib.hid h; clear h
  have H2 := Lib.hid h2; clear h2
  obtain ⟨i0, hi, hz0, hz1, hz2⟩ := info_parts info_span
  go_enter Try.func88, Try.ntmps88
  go_wp2_with fail
  refine (noontideref10_right x0 x1 _).mono ?_; rintro e w1 ⟨rfl, b1⟩
  have d1 : Below w.heap.size w w1 := below_step (by repeat (first | exact Below.refl _ _ | refine below_drewN ?_ _ | refine Below.drew ?_ | refine Below.setCell ?_ (by first | (simp; done) | (simp; omega) | omega) _ | refine Below.alloc ?_ (by first | (simp; done) | (simp; omega) | omega) _)) b1
  have B1 := Lib.hid d1
  have A1 : Bk2 w1 (w.heap.size) (.int .i64 x0) (.int .i64 x1) := Bk2.of b1 (by simp <;> omega) (by intro j; simp [go_sem]) (by simp [go_sem]) (by simp [go_sem])
  have Bb1 : Bk2 w1 (w.heap.size + 1) (.int .i64 y0) (.int .i64 y1) := Bk2.of b1 (by simp <;> omega) (by intro j; simp [go_sem]) (by simp [go_sem]) (by simp [go_sem])
  clear b1 d1
  rw [H.out]
  have cA_b := A1.hb
  have cA_f := A1.fz
  have cA_0 := A1.k0
  have cA_1 := A1.k1
  have cBb_b := Bb1.hb
  have cBb_f := Bb1.fz
  have cBb_0 := Bb1.k0
  have cBb_1 := Bb1.k1
  go_wp2_with fail
  clear cA_b cA_f cA_0 cA_1 cBb_b cBb_f cBb_0 cBb_1
  refine (noontideref10_meet x0 x1 y0 y1 _).mono ?_; rintro e w2 ⟨rfl, b2⟩
  have d2 : Below w1.heap.size w1 w2 := below_step (by repeat (first | exact Below.refl _ _ | refine below_drewN ?_ _ | refine Below.drew ?_ | refine Below.setCell ?_ (by first | (simp; done) | (simp; omega) | omega) _ | refine Below.alloc ?_ (by first | (simp; done) | (simp; omega) | omega) _)) b2
  have B2 := Lib.hid (below_step B1.out d2)
  have A2 := A1.keep d2
  have Bb2 := Bb1.keep d2
  clear A1 Bb1 b2 d2 B1
  rw [H2.out]
  have cA_b := A2.hb
  have cA_f := A2.fz
  have cA_0 := A2.k0
  have cA_1 := A2.k1
  have cBb_b := Bb2.hb
  have cBb_f := Bb2.fz
  have cBb_0 := Bb2.k0
  have cBb_1 := Bb2.k1
  go_wp2_with (at_builtin; refine wpList_append_own _ rfl _ _ 57 rfl w.heap.size 32 i0 (.agg #[.int .i64 0, .int .i64 0]) 2 16 Try.underlying57 hi hz0 hz1 hz2 rfl (by decide) _ _ _ rfl (World.ownsRow_nil _ _ _ _) ⟨w2.heap.size, 0, none⟩ 1 1 [.int .i64 (x0), .int .i64 (y0)] rfl rfl (two_cells (by simp [go_sem]) (by simp [go_sem])) (by intro u hu; simp at hu; rcases hu with rfl | rfl <;> rfl) (by unfold maxLen; omega) (by omega) (by have := B2.out.size; simp; omega) ?_)
  intro v3 w3 own3 grow3 _
  have D3 : Below w2.heap.size w2 w3 := ((Below.refl _ _).alloc (Nat.le_refl _) _).trans (below_grown grow3 (by simp) (by intro g hg; cases hg))
  have O3 := Lib.hid (show w3.ownsRow w.heap.size 32 2 v3 1 [.int .i64 x0, .int .i64 y0] from own3)
  have B3 := Lib.hid (below_step B2.out D3)
  have A3 := A2.keep D3
  have Bb3 := Bb2.keep D3
  clear cA_b cA_f cA_0 cA_1 cBb_b cBb_f cBb_0 cBb_1
  clear own3 grow3 D3 B2 A2 Bb2
  have cA_b := A3.hb
  have cA_f := A3.fz
  have cA_0 := A3.k0
  have cA_1 := A3.k1
  have cBb_b := Bb3.hb
  have cBb_f := Bb3.fz
  have cBb_0 := Bb3.k0
  have cBb_1 := Bb3.k1
  go_wp2_with (at_builtin; refine wpList_append_own _ rfl _ _ 57 rfl w.heap.size 32 i0 (.agg #[.int .i64 0, .int .i64 0]) 2 16 Try.underlying57 hi hz0 hz1 hz2 rfl (by decide) _ _ _ rfl (O3.out.alloc _) ⟨w3.heap.size, 0, none⟩ 1 1 [.int .i64 (y1), .int .i64 (x1)] rfl rfl (two_cells (by simp [go_sem]) (by simp [go_sem])) (by intro u hu; simp at hu; rcases hu with rfl | rfl <;> rfl) (by unfold maxLen; omega) (by omega) (by have := B3.out.size; simp; omega) ?_)
  intro v6 w6 own6 grow6 _
  have B6 := Lib.hid (show Below w.heap.size w w6 from ((B3.out.alloc B3.out.size _).trans (below_grown grow6 (by have := B3.out.size; simp; omega) (own_row O3.out))))
  have O6 := Lib.hid own6
  clear cA_b cA_f cA_0 cA_1 cBb_b cBb_f cBb_0 cBb_1
  clear own6 grow6
  go_wp2_with fail
  go_ret
  exact ⟨v6, SpV.own O6.out, rfl, B6.out⟩
set_option maxHeartbeats 4000000 in
theorem rless_true_false (x0 x1 y0 y1 : Int) (w : World) (h : Sp.rb x0 x1 = true) (h2 : Sp.mt x0 x1 y0 y1 = true) (d1 : decide (x0 < y0) = true) (d2 : decide (y1 < x1) = false) :
    Calls Try.prog 88 #[.agg #[.int .i64 x0, .int .i64 x1], .agg #[.int .i64 y0, .int .i64 y1]] w (AnsS ([(x0, y0)] ++ []) w) := by
  have H := Lib.hid h; clear h
  have H2 := Lib.hid h2; clear h2
  obtain ⟨i0, hi, hz0, hz1, hz2⟩ := info_parts info_span
  go_enter Try.func88, Try.ntmps88
  go_wp2_with fail
  refine (noontideref10_right x0 x1 _).mono ?_; rintro e w1 ⟨rfl, b1⟩
  have d1 : Below w.heap.size w w1 := below_step (by repeat (first | exact Below.refl _ _ | refine below_drewN ?_ _ | refine Below.drew ?_ | refine Below.setCell ?_ (by first | (simp; done) | (simp; omega) | omega) _ | refine Below.alloc ?_ (by first | (simp; done) | (simp; omega) | omega) _)) b1
  have B1 := Lib.hid d1
  have A1 : Bk2 w1 (w.heap.size) (.int .i64 x0) (.int .i64 x1) := Bk2.of b1 (by simp <;> omega) (by intro j; simp [go_sem]) (by simp [go_sem]) (by simp [go_sem])
  have Bb1 : Bk2 w1 (w.heap.size + 1) (.int .i64 y0) (.int .i64 y1) := Bk2.of b1 (by simp <;> omega) (by intro j; simp [go_sem]) (by simp [go_sem]) (by simp [go_sem])
  clear b1 d1
  rw [H.out]
  have cA_b := A1.hb
  have cA_f := A1.fz
  have cA_0 := A1.k0
  have cA_1 := A1.k1
  have cBb_b := Bb1.hb
  have cBb_f := Bb1.fz
  have cBb_0 := Bb1.k0
  have cBb_1 := Bb1.k1
  go_wp2_with fail
  clear cA_b cA_f cA_0 cA_1 cBb_b cBb_f cBb_0 cBb_1
  refine (noontideref10_meet x0 x1 y0 y1 _).mono ?_; rintro e w2 ⟨rfl, b2⟩
  have d2 : Below w1.heap.size w1 w2 := below_step (by repeat (first | exact Below.refl _ _ | refine below_drewN ?_ _ | refine Below.drew ?_ | refine Below.setCell ?_ (by first | (simp; done) | (simp; omega) | omega) _ | refine Below.alloc ?_ (by first | (simp; done) | (simp; omega) | omega) _)) b2
  have B2 := Lib.hid (below_step B1.out d2)
  have A2 := A1.keep d2
  have Bb2 := Bb1.keep d2
  clear A1 Bb1 b2 d2 B1
  rw [H2.out]
  have cA_b := A2.hb
  have cA_f := A2.fz
  have cA_0 := A2.k0
  have cA_1 := A2.k1
  have cBb_b := Bb2.hb
  have cBb_f := Bb2.fz
  have cBb_0 := Bb2.k0
  have cBb_1 := Bb2.k1
  go_wp2_with (at_builtin; refine wpList_append_own _ rfl _ _ 57 rfl w.heap.size 32 i0 (.agg #[.int .i64 0, .int .i64 0]) 2 16 Try.underlying57 hi hz0 hz1 hz2 rfl (by decide) _ _ _ rfl (World.ownsRow_nil _ _ _ _) ⟨w2.heap.size, 0, none⟩ 1 1 [.int .i64 (x0), .int .i64 (y0)] rfl rfl (two_cells (by simp [go_sem]) (by simp [go_sem])) (by intro u hu; simp at hu; rcases hu with rfl | rfl <;> rfl) (by unfold maxLen; omega) (by omega) (by have := B2.out.size; simp; omega) ?_)
  intro v3 w3 own3 grow3 _
  have D3 : Below w2.heap.size w2 w3 := ((Below.refl _ _).alloc (Nat.le_refl _) _).trans (below_grown grow3 (by simp) (by intro g hg; cases hg))
  have O3 := Lib.hid (show w3.ownsRow w.heap.size 32 2 v3 1 [.int .i64 x0, .int .i64 y0] from own3)
  have B3 := Lib.hid (below_step B2.out D3)
  have A3 := A2.keep D3
  have Bb3 := Bb2.keep D3
  clear cA_b cA_f cA_0 cA_1 cBb_b cBb_f cBb_0 cBb_1
  clear own3 grow3 D3 B2 A2 Bb2
  have cA_b := A3.hb
  have cA_f := A3.fz
  have cA_0 := A3.k0
  have cA_1 := A3.k1
  have cBb_b := Bb3.hb
  have cBb_f := Bb3.fz
  have cBb_0 := Bb3.k0
  have cBb_1 := Bb3.k1
  go_wp2_with fail
  clear cA_b cA_f cA_0 cA_1 cBb_b cBb_f cBb_0 cBb_1
  go_ret
  exact ⟨v3, SpV.own O3.out, rfl, B3.out⟩
set_option maxHeartbeats 4000000 in
theorem rless_false_true (x0 x1 y0 y1 : Int) (w : World) (h : Sp.rb x0 x1 = true) (h2 : Sp.mt x0 x1 y0 y1 = true) (d1 : decide (x0 < y0) = false) (d2 : decide (y1 < x1) = true) :
    Calls Try.prog 88 #[.agg #[.int .i64 x0, .int .i64 x1], .agg #[.int .i64 y0, .int .i64 y1]] w (AnsS (([] : List (Int × Int)) ++ [(y1, x1)]) w) := by
  have H := Lib.hid h; clear h
  have H2 := Lib.hid h2; clear h2
  obtain ⟨i0, hi, hz0, hz1, hz2⟩ := info_parts info_span
  go_enter Try.func88, Try.ntmps88
  go_wp2_with fail
  refine (noontideref10_right x0 x1 _).mono ?_; rintro e w1 ⟨rfl, b1⟩
  have d1 : Below w.heap.size w w1 := below_step (by repeat (first | exact Below.refl _ _ | refine below_drewN ?_ _ | refine Below.drew ?_ | refine Below.setCell ?_ (by first | (simp; done) | (simp; omega) | omega) _ | refine Below.alloc ?_ (by first | (simp; done) | (simp; omega) | omega) _)) b1
  have B1 := Lib.hid d1
  have A1 : Bk2 w1 (w.heap.size) (.int .i64 x0) (.int .i64 x1) := Bk2.of b1 (by simp <;> omega) (by intro j; simp [go_sem]) (by simp [go_sem]) (by simp [go_sem])
  have Bb1 : Bk2 w1 (w.heap.size + 1) (.int .i64 y0) (.int .i64 y1) := Bk2.of b1 (by simp <;> omega) (by intro j; simp [go_sem]) (by simp [go_sem]) (by simp [go_sem])
  clear b1 d1
  rw [H.out]
  have cA_b := A1.hb
  have cA_f := A1.fz
  have cA_0 := A1.k0
  have cA_1 := A1.k1
  have cBb_b := Bb1.hb
  have cBb_f := Bb1.fz
  have cBb_0 := Bb1.k0
  have cBb_1 := Bb1.k1
  go_wp2_with fail
  clear cA_b cA_f cA_0 cA_1 cBb_b cBb_f cBb_0 cBb_1
  refine (noontideref10_meet x0 x1 y0 y1 _).mono ?_; rintro e w2 ⟨rfl, b2⟩
  have d2 : Below w1.heap.size w1 w2 := below_step (by repeat (first | exact Below.refl _ _ | refine below_drewN ?_ _ | refine Below.drew ?_ | refine Below.setCell ?_ (by first | (simp; done) | (simp; omega) | omega) _ | refine Below.alloc ?_ (by first | (simp; done) | (simp; omega) | omega) _)) b2
  have B2 := Lib.hid (below_step B1.out d2)
  have A2 := A1.keep d2
  have Bb2 := Bb1.keep d2
  clear A1 Bb1 b2 d2 B1
  rw [H2.out]
  have cA_b := A2.hb
  have cA_f := A2.fz
  have cA_0 := A2.k0
  have cA_1 := A2.k1
  have cBb_b := Bb2.hb
  have cBb_f := Bb2.fz
  have cBb_0 := Bb2.k0
  have cBb_1 := Bb2.k1
  obtain ⟨v3, hv3⟩ : ∃ v3, v3 = Value.slice none 0 0 := ⟨_, rfl⟩
  have O3 := Lib.hid (show w2.ownsRow w.heap.size 32 2 v3 0 [] from by rw [hv3]; exact World.ownsRow_nil _ _ _ _)
  go_wp2_with (at_builtin; refine wpList_append_own _ rfl _ _ 57 rfl w.heap.size 32 i0 (.agg #[.int .i64 0, .int .i64 0]) 2 16 Try.underlying57 hi hz0 hz1 hz2 rfl (by decide) _ _ _ rfl (World.ownsRow_nil _ _ _ _) ⟨w2.heap.size, 0, none⟩ 1 1 [.int .i64 (y1), .int .i64 (x1)] rfl rfl (two_cells (by simp [go_sem]) (by simp [go_sem])) (by intro u hu; simp at hu; rcases hu with rfl | rfl <;> rfl) (by unfold maxLen; omega) (by omega) (by have := B2.out.size; simp; omega) ?_)
  intro v6 w6 own6 grow6 _
  have B6 := Lib.hid (show Below w.heap.size w w6 from ((B2.out.alloc B2.out.size _).trans (below_grown grow6 (by have := B2.out.size; simp; omega) (by intro g hg; cases hg))))
  have O6 := Lib.hid own6
  clear cA_b cA_f cA_0 cA_1 cBb_b cBb_f cBb_0 cBb_1
  clear own6 grow6
  go_wp2_with fail
  go_ret
  exact ⟨v6, SpV.own O6.out, rfl, B6.out⟩
set_option maxHeartbeats 4000000 in
theorem rless_false_false (x0 x1 y0 y1 : Int) (w : World) (h : Sp.rb x0 x1 = true) (h2 : Sp.mt x0 x1 y0 y1 = true) (d1 : decide (x0 < y0) = false) (d2 : decide (y1 < x1) = false) :
    Calls Try.prog 88 #[.agg #[.int .i64 x0, .int .i64 x1], .agg #[.int .i64 y0, .int .i64 y1]] w (AnsS (([] : List (Int × Int)) ++ []) w) := by
  have H := Lib.hid h; clear h
  have H2 := Lib.hid h2; clear h2
  obtain ⟨i0, hi, hz0, hz1, hz2⟩ := info_parts info_span
  go_enter Try.func88, Try.ntmps88
  go_wp2_with fail
  refine (noontideref10_right x0 x1 _).mono ?_; rintro e w1 ⟨rfl, b1⟩
  have d1 : Below w.heap.size w w1 := below_step (by repeat (first | exact Below.refl _ _ | refine below_drewN ?_ _ | refine Below.drew ?_ | refine Below.setCell ?_ (by first | (simp; done) | (simp; omega) | omega) _ | refine Below.alloc ?_ (by first | (simp; done) | (simp; omega) | omega) _)) b1
  have B1 := Lib.hid d1
  have A1 : Bk2 w1 (w.heap.size) (.int .i64 x0) (.int .i64 x1) := Bk2.of b1 (by simp <;> omega) (by intro j; simp [go_sem]) (by simp [go_sem]) (by simp [go_sem])
  have Bb1 : Bk2 w1 (w.heap.size + 1) (.int .i64 y0) (.int .i64 y1) := Bk2.of b1 (by simp <;> omega) (by intro j; simp [go_sem]) (by simp [go_sem]) (by simp [go_sem])
  clear b1 d1
  rw [H.out]
  have cA_b := A1.hb
  have cA_f := A1.fz
  have cA_0 := A1.k0
  have cA_1 := A1.k1
  have cBb_b := Bb1.hb
  have cBb_f := Bb1.fz
  have cBb_0 := Bb1.k0
  have cBb_1 := Bb1.k1
  go_wp2_with fail
  clear cA_b cA_f cA_0 cA_1 cBb_b cBb_f cBb_0 cBb_1
  refine (noontideref10_meet x0 x1 y0 y1 _).mono ?_; rintro e w2 ⟨rfl, b2⟩
  have d2 : Below w1.heap.size w1 w2 := below_step (by repeat (first | exact Below.refl _ _ | refine below_drewN ?_ _ | refine Below.drew ?_ | refine Below.setCell ?_ (by first | (simp; done) | (simp; omega) | omega) _ | refine Below.alloc ?_ (by first | (simp; done) | (simp; omega) | omega) _)) b2
  have B2 := Lib.hid (below_step B1.out d2)
  have A2 := A1.keep d2
  have Bb2 := Bb1.keep d2
  clear A1 Bb1 b2 d2 B1
  rw [H2.out]
  have cA_b := A2.hb
  have cA_f := A2.fz
  have cA_0 := A2.k0
  have cA_1 := A2.k1
  have cBb_b := Bb2.hb
  have cBb_f := Bb2.fz
  have cBb_0 := Bb2.k0
  have cBb_1 := Bb2.k1
  obtain ⟨v3, hv3⟩ : ∃ v3, v3 = Value.slice none 0 0 := ⟨_, rfl⟩
  have O3 := Lib.hid (show w2.ownsRow w.heap.size 32 2 v3 0 [] from by rw [hv3]; exact World.ownsRow_nil _ _ _ _)
  go_wp2_with fail
  clear cA_b cA_f cA_0 cA_1 cBb_b cBb_f cBb_0 cBb_1
  go_ret
  exact ⟨_, Lst.nil _ _, rfl, B2.out⟩
theorem rless_any (x0 x1 y0 y1 : Int) (w : World) :
    Calls Try.prog 88 #[.agg #[.int .i64 x0, .int .i64 x1], .agg #[.int .i64 y0, .int .i64 y1]] w (AnsS (Sp.less x0 x1 y0 y1) w) := by
  unfold Sp.less
  cases h : Sp.rb x0 x1
  · have h' : ¬ x0 < x1 := of_decide_eq_false h
    rw [Sp.mt_no1 h', if_neg (by decide), show Sp.one x0 x1 = [] by unfold Sp.one; rw [h]; rfl]
    exact rless_no x0 x1 y0 y1 w h
  · cases h2 : Sp.mt x0 x1 y0 y1
    · rw [if_neg (by decide), show Sp.one x0 x1 = [(x0, x1)] by unfold Sp.one; rw [h]; rfl]
      exact rless_all x0 x1 y0 y1 w h h2
    · rw [if_pos rfl]
      have e1 : Sp.one x0 (max x0 y0) = if decide (x0 < y0) then [(x0, y0)] else [] := by
        unfold Sp.one Sp.rb
        by_cases c : x0 < y0
        · rw [show max x0 y0 = y0 by omega]
        · rw [show max x0 y0 = x0 by omega, decide_eq_false c, decide_eq_false (by omega)]; rfl
      have e2 : Sp.one (min x1 y1) x1 = if decide (y1 < x1) then [(y1, x1)] else [] := by
        unfold Sp.one Sp.rb
        by_cases c : y1 < x1
        · rw [show min x1 y1 = y1 by omega]
        · rw [show min x1 y1 = x1 by omega, decide_eq_false c, decide_eq_false (by omega)]; rfl
      rw [e1, e2]
      cases d1 : decide (x0 < y0) <;> cases d2 : decide (y1 < x1)
      · exact rless_false_false x0 x1 y0 y1 w h h2 d1 d2
      · exact rless_false_true x0 x1 y0 y1 w h h2 d1 d2
      · exact rless_true_false x0 x1 y0 y1 w h h2 d1 d2
      · exact rless_true_true x0 x1 y0 y1 w h h2 d1 d2
end Go.Proofs.Ytmnmmbeageddkaa

