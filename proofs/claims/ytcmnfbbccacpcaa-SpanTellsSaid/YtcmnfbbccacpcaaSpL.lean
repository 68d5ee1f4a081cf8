/- Lists of spans: the contracts of span.Less, and of the reference's Less and Same. -/
import Derived.Test.YtcmnfbbccacpcaaSpB
import Derived.Test.YtcmnfbbccacpcaaSl
set_option linter.unusedVariables false
set_option linter.unusedSimpArgs false
namespace Go.Proofs.Ytcmnfbbccacpcaa
open Go.RowKit Go.Sort

namespace Sp
def one (x y : Int) : List (Int × Int) := if rb x y then [(x, y)] else []
/-- What is left of one span without another. -/
def less (x0 x1 y0 y1 : Int) : List (Int × Int) := if mt x0 x1 y0 y1 then one x0 (max x0 y0) ++ one (min x1 y1) x1 else one x0 x1
end Sp
theorem info_span : (Try.prog.info? 38).map (fun i => (i.zero, i.size, i.bytes)) = some (some (.agg #[.int .i64 0, .int .i64 0]), 2, 16) := by kernel_rfl
/-- A call that answers a list of spans, and turns nothing old. -/
def AnsS (l : List (Int × Int)) (w : World) (e : Ending) (w' : World) : Prop := ∃ v, SpV w' v l ∧ e = .returned v ∧ Below w.heap.size w w'
set_option maxHeartbeats 4000000 in
theorem sless_m_false_false (x0 x1 y0 y1 : Int) (w : World) (h : Sp.mt x0 x1 y0 y1 = true) (h0 : Sp.rb (x0) ((max x0 y0)) = false) (h1 : Sp.rb ((min x1 y1)) (x1) = false) :
    Calls Try.prog 41 #[.agg #[.int .i64 x0, .int .i64 x1], .agg #[.int .i64 y0, .int .i64 y1]] w (AnsS (Sp.one (x0) ((max x0 y0)) ++ Sp.one ((min x1 y1)) (x1)) w) := by
  have H := Lib.hid h
  have H0 := Lib.hid h0
  have H1 := Lib.hid h1
  have EL : Hid (Sp.one (x0) ((max x0 y0)) ++ Sp.one ((min x1 y1)) (x1) = (if false then [(x0, (max x0 y0))] else []) ++ (if false then [((min x1 y1), x1)] else [])) := Lib.hid (by unfold Sp.one; rw [h0, h1])
  clear h h0 h1
  have ix0 : ∀ a b c d w, Sem.run Try.prog (Instr.index 71 (.agg #[a, b, c, d]) (.int .i64 0)) w = .ok (.agg #[a, b]) w := fun _ _ _ _ _ => by kernel_rfl
  have ix1 : ∀ a b c d w, Sem.run Try.prog (Instr.index 71 (.agg #[a, b, c, d]) (.int .i64 1)) w = .ok (.agg #[c, d]) w := fun _ _ _ _ _ => by kernel_rfl
  obtain ⟨i0, hi, hz0, hz1, hz2⟩ := info_parts info_span
  go_enter Try.func41, Try.ntmps41
  go_wp2_with fail
  refine (span_both x0 x1 y0 y1 _).mono ?_; rintro e w1 ⟨rfl, b1⟩
  have d1 : Below w.heap.size w w1 := below_step (by repeat (first | exact Below.refl _ _ | refine below_drewN ?_ _ | refine Below.drew ?_ | refine Below.setCell ?_ (by first | (simp; done) | (simp; omega) | omega) _ | refine Below.alloc ?_ (by first | (simp; done) | (simp; omega) | omega) _)) b1
  have B1 := Lib.hid d1
  have A1 : Bk2 w1 (w.heap.size) (.int .i64 x0) (.int .i64 x1) := Bk2.of b1 (by simp <;> omega) (by intro j; simp [go_sem]) (by simp [go_sem]) (by simp [go_sem])
  have Bb1 : Bk2 w1 (w.heap.size + 1) (.int .i64 y0) (.int .i64 y1) := Bk2.of b1 (by simp <;> omega) (by intro j; simp [go_sem]) (by simp [go_sem]) (by simp [go_sem])
  have P1 : Bk4 w1 (w.heap.size + 2) (.int .i64 x0) (.int .i64 x1) (.int .i64 0) (.int .i64 0) := Bk4.of b1 (by simp <;> omega) (by intro j; simp [go_sem]) (by simp [go_sem]) (by simp [go_sem]) (by simp [go_sem]) (by simp [go_sem])
  clear b1 d1
  rw [H.out]
  simp only [Sp.bz, if_true, Bool.false_eq_true, if_false]
  have cA_b := A1.hb
  have cA_f := A1.fz
  have cA_0 := A1.k0
  have cA_1 := A1.k1
  have cBb_b := Bb1.hb
  have cBb_f := Bb1.fz
  have cBb_0 := Bb1.k0
  have cBb_1 := Bb1.k1
  have cP_b := P1.hb
  have cP_f := P1.fz
  have cP_0 := P1.k0
  have cP_1 := P1.k1
  have cP_2 := P1.k2
  have cP_3 := P1.k3
  go_wp2_with fail
  refine wp_named ?_; intro w2 hw2
  have B2 := Lib.hid (show Below w.heap.size w w2 from by rw [hw2]; exact (by have hz := B1.out.size; repeat (first | exact B1.out | refine below_drewN ?_ _ | refine Below.drew ?_ | refine Below.setCell ?_ (by first | omega | (simp; done) | (simp; omega)) _ | refine Below.alloc ?_ (by first | omega | (simp; done) | (simp; omega)) _)))
  clear cA_b cA_f cA_0 cA_1 cBb_b cBb_f cBb_0 cBb_1 cP_b cP_f cP_0 cP_1 cP_2 cP_3
  clear hw2 A1 Bb1 P1 B1
  refine wp_loop_rounds 3 ?_
  rw [rounds_succ]
  go_wp2_with fail
  refine (span_right (x0) ((max x0 y0)) _).mono ?_; rintro e w3 ⟨rfl, b3⟩
  rw [H0.out]
  have D3 : Below w2.heap.size w2 w3 := below_step (by repeat (first | exact Below.refl _ _ | refine Below.setCell ?_ (by first | (simp; done) | (simp; omega)) _ | refine Below.alloc ?_ (by first | (simp; done) | (simp; omega)) _)) b3
  have B3 := Lib.hid (below_step B2.out D3)
  have Q3 : Bk2 w3 w2.heap.size (.int .i64 (x0)) (.int .i64 ((max x0 y0))) := Bk2.of b3 (by simp <;> omega) (by intro j; simp [go_sem]) (by simp [go_sem]) (by simp [go_sem])
  clear b3 D3 B2
  have c3b := Q3.hb; have c3f := Q3.fz; have c30 := Q3.k0; have c31 := Q3.k1
  clear Q3
  obtain ⟨v4, hv4⟩ : ∃ v4, v4 = Value.slice none 0 0 := ⟨_, rfl⟩
  obtain ⟨w4, hw4⟩ : ∃ w4, w4 = w3 := ⟨_, rfl⟩
  have O4 := Lib.hid (show w4.ownsRow w.heap.size 38 2 v4 0 [] from by rw [hv4]; exact World.ownsRow_nil _ _ _ _)
  rw [← hw4] at B3 c3b c3f c30 c31 ⊢
  rw [← hv4]
  have B4 := B3
  clear B3 hw4 hv4
  clear c3b c3f c30 c31
  go_wp2_with fail
  rw [rounds_succ]
  go_wp2_with fail
  refine (span_right ((min x1 y1)) (x1) _).mono ?_; rintro e w5 ⟨rfl, b5⟩
  rw [H1.out]
  have D5 : Below w4.heap.size w4 w5 := below_step (by repeat (first | exact Below.refl _ _ | refine Below.setCell ?_ (by first | (simp; done) | (simp; omega)) _ | refine Below.alloc ?_ (by first | (simp; done) | (simp; omega)) _)) b5
  have B5 := Lib.hid (below_step B4.out D5)
  have O5 := Lib.hid (own_on O4.out D5)
  have Q5 : Bk2 w5 w4.heap.size (.int .i64 ((min x1 y1))) (.int .i64 (x1)) := Bk2.of b5 (by simp <;> omega) (by intro j; simp [go_sem]) (by simp [go_sem]) (by simp [go_sem])
  clear b5 D5 B4 O4
  have c5b := Q5.hb; have c5f := Q5.fz; have c50 := Q5.k0; have c51 := Q5.k1
  clear Q5
  skip
  clear c5b c5f c50 c51
  go_wp2_with fail
  rw [rounds_succ]
  go_wp2
  go_ret
  rw [EL.out]
  exact ⟨v4, SpV.own O5.out, rfl, B5.out⟩
set_option maxHeartbeats 4000000 in
theorem sless_m_false_true (x0 x1 y0 y1 : Int) (w : World) (h : Sp.mt x0 x1 y0 y1 = true) (h0 : Sp.rb (x0) ((max x0 y0)) = false) (h1 : Sp.rb ((min x1 y1)) (x1) = true) :
    Calls Try.prog 41 #[.agg #[.int .i64 x0, .int .i64 x1], .agg #[.int .i64 y0, .int .i64 y1]] w (AnsS (Sp.one (x0) ((max x0 y0)) ++ Sp.one ((min x1 y1)) (x1)) w) := by
  have H := Lib.hid h
  have H0 := Lib.hid h0
  have H1 := Lib.hid h1
  have EL : Hid (Sp.one (x0) ((max x0 y0)) ++ Sp.one ((min x1 y1)) (x1) = (if false then [(x0, (max x0 y0))] else []) ++ (if true then [((min x1 y1), x1)] else [])) := Lib.hid (by unfold Sp.one; rw [h0, h1])
  clear h h0 h1
  have ix0 : ∀ a b c d w, Sem.run Try.prog (Instr.index 71 (.agg #[a, b, c, d]) (.int .i64 0)) w = .ok (.agg #[a, b]) w := fun _ _ _ _ _ => by kernel_rfl
  have ix1 : ∀ a b c d w, Sem.run Try.prog (Instr.index 71 (.agg #[a, b, c, d]) (.int .i64 1)) w = .ok (.agg #[c, d]) w := fun _ _ _ _ _ => by kernel_rfl
  obtain ⟨i0, hi, hz0, hz1, hz2⟩ := info_parts info_span
  go_enter Try.func41, Try.ntmps41
  go_wp2_with fail
  refine (span_both x0 x1 y0 y1 _).mono ?_; rintro e w1 ⟨rfl, b1⟩
  have d1 : Below w.heap.size w w1 := below_step (by repeat (first | exact Below.refl _ _ | refine below_drewN ?_ _ | refine Below.drew ?_ | refine Below.setCell ?_ (by first | (simp; done) | (simp; omega) | omega) _ | refine Below.alloc ?_ (by first | (simp; done) | (simp; omega) | omega) _)) b1
  have B1 := Lib.hid d1
  have A1 : Bk2 w1 (w.heap.size) (.int .i64 x0) (.int .i64 x1) := Bk2.of b1 (by simp <;> omega) (by intro j; simp [go_sem]) (by simp [go_sem]) (by simp [go_sem])
  have Bb1 : Bk2 w1 (w.heap.size + 1) (.int .i64 y0) (.int .i64 y1) := Bk2.of b1 (by simp <;> omega) (by intro j; simp [go_sem]) (by simp [go_sem]) (by simp [go_sem])
  have P1 : Bk4 w1 (w.heap.size + 2) (.int .i64 x0) (.int .i64 x1) (.int .i64 0) (.int .i64 0) := Bk4.of b1 (by simp <;> omega) (by intro j; simp [go_sem]) (by simp [go_sem]) (by simp [go_sem]) (by simp [go_sem]) (by simp [go_sem])
  clear b1 d1
  rw [H.out]
  simp only [Sp.bz, if_true, Bool.false_eq_true, if_false]
  have cA_b := A1.hb
  have cA_f := A1.fz
  have cA_0 := A1.k0
  have cA_1 := A1.k1
  have cBb_b := Bb1.hb
  have cBb_f := Bb1.fz
  have cBb_0 := Bb1.k0
  have cBb_1 := Bb1.k1
  have cP_b := P1.hb
  have cP_f := P1.fz
  have cP_0 := P1.k0
  have cP_1 := P1.k1
  have cP_2 := P1.k2
  have cP_3 := P1.k3
  go_wp2_with fail
  refine wp_named ?_; intro w2 hw2
  have B2 := Lib.hid (show Below w.heap.size w w2 from by rw [hw2]; exact (by have hz := B1.out.size; repeat (first | exact B1.out | refine below_drewN ?_ _ | refine Below.drew ?_ | refine Below.setCell ?_ (by first | omega | (simp; done) | (simp; omega)) _ | refine Below.alloc ?_ (by first | omega | (simp; done) | (simp; omega)) _)))
  clear cA_b cA_f cA_0 cA_1 cBb_b cBb_f cBb_0 cBb_1 cP_b cP_f cP_0 cP_1 cP_2 cP_3
  clear hw2 A1 Bb1 P1 B1
  refine wp_loop_rounds 3 ?_
  rw [rounds_succ]
  go_wp2_with fail
  refine (span_right (x0) ((max x0 y0)) _).mono ?_; rintro e w3 ⟨rfl, b3⟩
  rw [H0.out]
  have D3 : Below w2.heap.size w2 w3 := below_step (by repeat (first | exact Below.refl _ _ | refine Below.setCell ?_ (by first | (simp; done) | (simp; omega)) _ | refine Below.alloc ?_ (by first | (simp; done) | (simp; omega)) _)) b3
  have B3 := Lib.hid (below_step B2.out D3)
  have Q3 : Bk2 w3 w2.heap.size (.int .i64 (x0)) (.int .i64 ((max x0 y0))) := Bk2.of b3 (by simp <;> omega) (by intro j; simp [go_sem]) (by simp [go_sem]) (by simp [go_sem])
  clear b3 D3 B2
  have c3b := Q3.hb; have c3f := Q3.fz; have c30 := Q3.k0; have c31 := Q3.k1
  clear Q3
  obtain ⟨v4, hv4⟩ : ∃ v4, v4 = Value.slice none 0 0 := ⟨_, rfl⟩
  obtain ⟨w4, hw4⟩ : ∃ w4, w4 = w3 := ⟨_, rfl⟩
  have O4 := Lib.hid (show w4.ownsRow w.heap.size 38 2 v4 0 [] from by rw [hv4]; exact World.ownsRow_nil _ _ _ _)
  rw [← hw4] at B3 c3b c3f c30 c31 ⊢
  rw [← hv4]
  have B4 := B3
  clear B3 hw4 hv4
  clear c3b c3f c30 c31
  go_wp2_with fail
  rw [rounds_succ]
  go_wp2_with fail
  refine (span_right ((min x1 y1)) (x1) _).mono ?_; rintro e w5 ⟨rfl, b5⟩
  rw [H1.out]
  have D5 : Below w4.heap.size w4 w5 := below_step (by repeat (first | exact Below.refl _ _ | refine Below.setCell ?_ (by first | (simp; done) | (simp; omega)) _ | refine Below.alloc ?_ (by first | (simp; done) | (simp; omega)) _)) b5
  have B5 := Lib.hid (below_step B4.out D5)
  have O5 := Lib.hid (own_on O4.out D5)
  have Q5 : Bk2 w5 w4.heap.size (.int .i64 ((min x1 y1))) (.int .i64 (x1)) := Bk2.of b5 (by simp <;> omega) (by intro j; simp [go_sem]) (by simp [go_sem]) (by simp [go_sem])
  clear b5 D5 B4 O4
  have c5b := Q5.hb; have c5f := Q5.fz; have c50 := Q5.k0; have c51 := Q5.k1
  clear Q5
  go_wp2_with (at_builtin; refine wpList_append_own _ rfl _ _ 48 rfl w.heap.size 38 i0 (.agg #[.int .i64 0, .int .i64 0]) 2 16 Try.underlying48 hi hz0 hz1 hz2 rfl (by decide) _ _ _ rfl (O5.out.alloc _) ⟨w5.heap.size, 0, none⟩ 1 1 [.int .i64 ((min x1 y1)), .int .i64 (x1)] rfl rfl (two_cells (by simp [go_sem]) (by simp [go_sem])) (by intro u hu; simp at hu; rcases hu with rfl | rfl <;> rfl) (by unfold maxLen; omega) (by omega) (by have := B5.out.size; simp; omega) ?_)
  intro v6 w6 own6 grow6 _
  have B6 := Lib.hid (show Below w.heap.size w w6 from ((B5.out.alloc B5.out.size _).trans (below_grown grow6 (by have := B5.out.size; simp; omega) (own_row O5.out))))
  have O6 := Lib.hid own6
  clear own6 grow6
  clear c5b c5f c50 c51
  go_wp2_with fail
  rw [rounds_succ]
  go_wp2
  go_ret
  rw [EL.out]
  exact ⟨v6, SpV.own O6.out, rfl, B6.out⟩
set_option maxHeartbeats 4000000 in
theorem sless_m_true_false (x0 x1 y0 y1 : Int) (w : World) (h : Sp.mt x0 x1 y0 y1 = true) (h0 : Sp.rb (x0) ((max x0 y0)) = true) (h1 : Sp.rb ((min x1 y1)) (x1) = false) :
    Calls Try.prog 41 #[.agg #[.int .i64 x0, .int .i64 x1], .agg #[.int .i64 y0, .int .i64 y1]] w (AnsS (Sp.one (x0) ((max x0 y0)) ++ Sp.one ((min x1 y1)) (x1)) w) := by
  have H := Lib.hid h
  have H0 := Lib.hid h0
  have H1 := Lib.hid h1
  have EL : Hid (Sp.one (x0) ((max x0 y0)) ++ Sp.one ((min x1 y1)) (x1) = (if true then [(x0, (max x0 y0))] else []) ++ (if false then [((min x1 y1), x1)] else [])) := Lib.hid (by unfold Sp.one; rw [h0, h1])
  clear h h0 h1
  have ix0 : ∀ a b c d w, Sem.run Try.prog (Instr.index 71 (.agg #[a, b, c, d]) (.int .i64 0)) w = .ok (.agg #[a, b]) w := fun _ _ _ _ _ => by kernel_rfl
  have ix1 : ∀ a b c d w, Sem.run Try.prog (Instr.index 71 (.agg #[a, b, c, d]) (.int .i64 1)) w = .ok (.agg #[c, d]) w := fun _ _ _ _ _ => by kernel_rfl
  obtain ⟨i0, hi, hz0, hz1, hz2⟩ := info_parts info_span
  go_enter Try.func41, Try.ntmps41
  go_wp2_with fail
  refine (span_both x0 x1 y0 y1 _).mono ?_; rintro e w1 ⟨rfl, b1⟩
  have d1 : Below w.heap.size w w1 := below_step (by repeat (first | exact Below.refl _ _ | refine below_drewN ?_ _ | refine Below.drew ?_ | refine Below.setCell ?_ (by first | (simp; done) | (simp; omega) | omega) _ | refine Below.alloc ?_ (by first | (simp; done) | (simp; omega) | omega) _)) b1
  have B1 := Lib.hid d1
  have A1 : Bk2 w1 (w.heap.size) (.int .i64 x0) (.int .i64 x1) := Bk2.of b1 (by simp <;> omega) (by intro j; simp [go_sem]) (by simp [go_sem]) (by simp [go_sem])
  have Bb1 : Bk2 w1 (w.heap.size + 1) (.int .i64 y0) (.int .i64 y1) := Bk2.of b1 (by simp <;> omega) (by intro j; simp [go_sem]) (by simp [go_sem]) (by simp [go_sem])
  have P1 : Bk4 w1 (w.heap.size + 2) (.int .i64 x0) (.int .i64 x1) (.int .i64 0) (.int .i64 0) := Bk4.of b1 (by simp <;> omega) (by intro j; simp [go_sem]) (by simp [go_sem]) (by simp [go_sem]) (by simp [go_sem]) (by simp [go_sem])
  clear b1 d1
  rw [H.out]
  simp only [Sp.bz, if_true, Bool.false_eq_true, if_false]
  have cA_b := A1.hb
  have cA_f := A1.fz
  have cA_0 := A1.k0
  have cA_1 := A1.k1
  have cBb_b := Bb1.hb
  have cBb_f := Bb1.fz
  have cBb_0 := Bb1.k0
  have cBb_1 := Bb1.k1
  have cP_b := P1.hb
  have cP_f := P1.fz
  have cP_0 := P1.k0
  have cP_1 := P1.k1
  have cP_2 := P1.k2
  have cP_3 := P1.k3
  go_wp2_with fail
  refine wp_named ?_; intro w2 hw2
  have B2 := Lib.hid (show Below w.heap.size w w2 from by rw [hw2]; exact (by have hz := B1.out.size; repeat (first | exact B1.out | refine below_drewN ?_ _ | refine Below.drew ?_ | refine Below.setCell ?_ (by first | omega | (simp; done) | (simp; omega)) _ | refine Below.alloc ?_ (by first | omega | (simp; done) | (simp; omega)) _)))
  clear cA_b cA_f cA_0 cA_1 cBb_b cBb_f cBb_0 cBb_1 cP_b cP_f cP_0 cP_1 cP_2 cP_3
  clear hw2 A1 Bb1 P1 B1
  refine wp_loop_rounds 3 ?_
  rw [rounds_succ]
  go_wp2_with fail
  refine (span_right (x0) ((max x0 y0)) _).mono ?_; rintro e w3 ⟨rfl, b3⟩
  rw [H0.out]
  have D3 : Below w2.heap.size w2 w3 := below_step (by repeat (first | exact Below.refl _ _ | refine Below.setCell ?_ (by first | (simp; done) | (simp; omega)) _ | refine Below.alloc ?_ (by first | (simp; done) | (simp; omega)) _)) b3
  have B3 := Lib.hid (below_step B2.out D3)
  have Q3 : Bk2 w3 w2.heap.size (.int .i64 (x0)) (.int .i64 ((max x0 y0))) := Bk2.of b3 (by simp <;> omega) (by intro j; simp [go_sem]) (by simp [go_sem]) (by simp [go_sem])
  clear b3 D3 B2
  have c3b := Q3.hb; have c3f := Q3.fz; have c30 := Q3.k0; have c31 := Q3.k1
  clear Q3
  go_wp2_with (at_builtin; refine wpList_append_own _ rfl _ _ 48 rfl w.heap.size 38 i0 (.agg #[.int .i64 0, .int .i64 0]) 2 16 Try.underlying48 hi hz0 hz1 hz2 rfl (by decide) _ _ _ rfl (World.ownsRow_nil _ _ _ _) ⟨w3.heap.size, 0, none⟩ 1 1 [.int .i64 (x0), .int .i64 ((max x0 y0))] rfl rfl (two_cells (by simp [go_sem]) (by simp [go_sem])) (by intro u hu; simp at hu; rcases hu with rfl | rfl <;> rfl) (by unfold maxLen; omega) (by omega) (by have := B3.out.size; simp; omega) ?_)
  intro v4 w4 own4 grow4 _
  have O4 := Lib.hid (show w4.ownsRow w.heap.size 38 2 v4 1 [.int .i64 (x0), .int .i64 ((max x0 y0))] from own4)
  have B4 := Lib.hid (show Below w.heap.size w w4 from ((B3.out.alloc B3.out.size _).trans (below_grown grow4 (by have := B3.out.size; simp; omega) (by intro g hg; cases hg))))
  clear own4 grow4 B3
  clear c3b c3f c30 c31
  go_wp2_with fail
  rw [rounds_succ]
  go_wp2_with fail
  refine (span_right ((min x1 y1)) (x1) _).mono ?_; rintro e w5 ⟨rfl, b5⟩
  rw [H1.out]
  have D5 : Below w4.heap.size w4 w5 := below_step (by repeat (first | exact Below.refl _ _ | refine Below.setCell ?_ (by first | (simp; done) | (simp; omega)) _ | refine Below.alloc ?_ (by first | (simp; done) | (simp; omega)) _)) b5
  have B5 := Lib.hid (below_step B4.out D5)
  have O5 := Lib.hid (own_on O4.out D5)
  have Q5 : Bk2 w5 w4.heap.size (.int .i64 ((min x1 y1))) (.int .i64 (x1)) := Bk2.of b5 (by simp <;> omega) (by intro j; simp [go_sem]) (by simp [go_sem]) (by simp [go_sem])
  clear b5 D5 B4 O4
  have c5b := Q5.hb; have c5f := Q5.fz; have c50 := Q5.k0; have c51 := Q5.k1
  clear Q5
  skip
  clear c5b c5f c50 c51
  go_wp2_with fail
  rw [rounds_succ]
  go_wp2
  go_ret
  rw [EL.out]
  exact ⟨v4, SpV.own O5.out, rfl, B5.out⟩
set_option maxHeartbeats 4000000 in
theorem sless_m_true_true (x0 x1 y0 y1 : Int) (w : World) (h : Sp.mt x0 x1 y0 y1 = true) (h0 : Sp.rb (x0) ((max x0 y0)) = true) (h1 : Sp.rb ((min x1 y1)) (x1) = true) :
    Calls Try.prog 41 #[.agg #[.int .i64 x0, .int .i64 x1], .agg #[.int .i64 y0, .int .i64 y1]] w (AnsS (Sp.one (x0) ((max x0 y0)) ++ Sp.one ((min x1 y1)) (x1)) w) := by
  have H := Lib.hid h
  have H0 := Lib.hid h0
  have H1 := Lib.hid h1
  have EL : Hid (Sp.one (x0) ((max x0 y0)) ++ Sp.one ((min x1 y1)) (x1) = (if true then [(x0, (max x0 y0))] else []) ++ (if true then [((min x1 y1), x1)] else [])) := Lib.hid (by unfold Sp.one; rw [h0, h1])
  clear h h0 h1
  have ix0 : ∀ a b c d w, Sem.run Try.prog (Instr.index 71 (.agg #[a, b, c, d]) (.int .i64 0)) w = .ok (.agg #[a, b]) w := fun _ _ _ _ _ => by kernel_rfl
  have ix1 : ∀ a b c d w, Sem.run Try.prog (Instr.index 71 (.agg #[a, b, c, d]) (.int .i64 1)) w = .ok (.agg #[c, d]) w := fun _ _ _ _ _ => by kernel_rfl
  obtain ⟨i0, hi, hz0, hz1, hz2⟩ := info_parts info_span
  go_enter Try.func41, Try.ntmps41
  go_wp2_with fail
  refine (span_both x0 x1 y0 y1 _).mono ?_; rintro e w1 ⟨rfl, b1⟩
  have d1 : Below w.heap.size w w1 := below_step (by repeat (first | exact Below.refl _ _ | refine below_drewN ?_ _ | refine Below.drew ?_ | refine Below.setCell ?_ (by first | (simp; done) | (simp; omega) | omega) _ | refine Below.alloc ?_ (by first | (simp; done) | (simp; omega) | omega) _)) b1
  have B1 := Lib.hid d1
  have A1 : Bk2 w1 (w.heap.size) (.int .i64 x0) (.int .i64 x1) := Bk2.of b1 (by simp <;> omega) (by intro j; simp [go_sem]) (by simp [go_sem]) (by simp [go_sem])
  have Bb1 : Bk2 w1 (w.heap.size + 1) (.int .i64 y0) (.int .i64 y1) := Bk2.of b1 (by simp <;> omega) (by intro j; simp [go_sem]) (by simp [go_sem]) (by simp [go_sem])
  have P1 : Bk4 w1 (w.heap.size + 2) (.int .i64 x0) (.int .i64 x1) (.int .i64 0) (.int .i64 0) := Bk4.of b1 (by simp <;> omega) (by intro j; simp [go_sem]) (by simp [go_sem]) (by simp [go_sem]) (by simp [go_sem]) (by simp [go_sem])
  clear b1 d1
  rw [H.out]
  simp only [Sp.bz, if_true, Bool.false_eq_true, if_false]
  have cA_b := A1.hb
  have cA_f := A1.fz
  have cA_0 := A1.k0
  have cA_1 := A1.k1
  have cBb_b := Bb1.hb
  have cBb_f := Bb1.fz
  have cBb_0 := Bb1.k0
  have cBb_1 := Bb1.k1
  have cP_b := P1.hb
  have cP_f := P1.fz
  have cP_0 := P1.k0
  have cP_1 := P1.k1
  have cP_2 := P1.k2
  have cP_3 := P1.k3
  go_wp2_with fail
  refine wp_named ?_; intro w2 hw2
  have B2 := Lib.hid (show Below w.heap.size w w2 from by rw [hw2]; exact (by have hz := B1.out.size; repeat (first | exact B1.out | refine below_drewN ?_ _ | refine Below.drew ?_ | refine Below.setCell ?_ (by first | omega | (simp; done) | (simp; omega)) _ | refine Below.alloc ?_ (by first | omega | (simp; done) | (simp; omega)) _)))
  clear cA_b cA_f cA_0 cA_1 cBb_b cBb_f cBb_0 cBb_1 cP_b cP_f cP_0 cP_1 cP_2 cP_3
  clear hw2 A1 Bb1 P1 B1
  refine wp_loop_rounds 3 ?_
  rw [rounds_succ]
  go_wp2_with fail
  refine (span_right (x0) ((max x0 y0)) _).mono ?_; rintro e w3 ⟨rfl, b3⟩
  rw [H0.out]
  have D3 : Below w2.heap.size w2 w3 := below_step (by repeat (first | exact Below.refl _ _ | refine Below.setCell ?_ (by first | (simp; done) | (simp; omega)) _ | refine Below.alloc ?_ (by first | (simp; done) | (simp; omega)) _)) b3
  have B3 := Lib.hid (below_step B2.out D3)
  have Q3 : Bk2 w3 w2.heap.size (.int .i64 (x0)) (.int .i64 ((max x0 y0))) := Bk2.of b3 (by simp <;> omega) (by intro j; simp [go_sem]) (by simp [go_sem]) (by simp [go_sem])
  clear b3 D3 B2
  have c3b := Q3.hb; have c3f := Q3.fz; have c30 := Q3.k0; have c31 := Q3.k1
  clear Q3
  go_wp2_with (at_builtin; refine wpList_append_own _ rfl _ _ 48 rfl w.heap.size 38 i0 (.agg #[.int .i64 0, .int .i64 0]) 2 16 Try.underlying48 hi hz0 hz1 hz2 rfl (by decide) _ _ _ rfl (World.ownsRow_nil _ _ _ _) ⟨w3.heap.size, 0, none⟩ 1 1 [.int .i64 (x0), .int .i64 ((max x0 y0))] rfl rfl (two_cells (by simp [go_sem]) (by simp [go_sem])) (by intro u hu; simp at hu; rcases hu with rfl | rfl <;> rfl) (by unfold maxLen; omega) (by omega) (by have := B3.out.size; simp; omega) ?_)
  intro v4 w4 own4 grow4 _
  have O4 := Lib.hid (show w4.ownsRow w.heap.size 38 2 v4 1 [.int .i64 (x0), .int .i64 ((max x0 y0))] from own4)
  have B4 := Lib.hid (show Below w.heap.size w w4 from ((B3.out.alloc B3.out.size _).trans (below_grown grow4 (by have := B3.out.size; simp; omega) (by intro g hg; cases hg))))
  clear own4 grow4 B3
  clear c3b c3f c30 c31
  go_wp2_with fail
  rw [rounds_succ]
  go_wp2_with fail
  refine (span_right ((min x1 y1)) (x1) _).mono ?_; rintro e w5 ⟨rfl, b5⟩
  rw [H1.out]
  have D5 : Below w4.heap.size w4 w5 := below_step (by repeat (first | exact Below.refl _ _ | refine Below.setCell ?_ (by first | (simp; done) | (simp; omega)) _ | refine Below.alloc ?_ (by first | (simp; done) | (simp; omega)) _)) b5
  have B5 := Lib.hid (below_step B4.out D5)
  have O5 := Lib.hid (own_on O4.out D5)
  have Q5 : Bk2 w5 w4.heap.size (.int .i64 ((min x1 y1))) (.int .i64 (x1)) := Bk2.of b5 (by simp <;> omega) (by intro j; simp [go_sem]) (by simp [go_sem]) (by simp [go_sem])
  clear b5 D5 B4 O4
  have c5b := Q5.hb; have c5f := Q5.fz; have c50 := Q5.k0; have c51 := Q5.k1
  clear Q5
  go_wp2_with (at_builtin; refine wpList_append_own _ rfl _ _ 48 rfl w.heap.size 38 i0 (.agg #[.int .i64 0, .int .i64 0]) 2 16 Try.underlying48 hi hz0 hz1 hz2 rfl (by decide) _ _ _ rfl (O5.out.alloc _) ⟨w5.heap.size, 0, none⟩ 1 1 [.int .i64 ((min x1 y1)), .int .i64 (x1)] rfl rfl (two_cells (by simp [go_sem]) (by simp [go_sem])) (by intro u hu; simp at hu; rcases hu with rfl | rfl <;> rfl) (by unfold maxLen; omega) (by omega) (by have := B5.out.size; simp; omega) ?_)
  intro v6 w6 own6 grow6 _
  have B6 := Lib.hid (show Below w.heap.size w w6 from ((B5.out.alloc B5.out.size _).trans (below_grown grow6 (by have := B5.out.size; simp; omega) (own_row O5.out))))
  have O6 := Lib.hid own6
  clear own6 grow6
  clear c5b c5f c50 c51
  go_wp2_with fail
  rw [rounds_succ]
  go_wp2
  go_ret
  rw [EL.out]
  exact ⟨v6, SpV.own O6.out, rfl, B6.out⟩
set_option maxHeartbeats 4000000 in
theorem sless_n_false_false (x0 x1 y0 y1 : Int) (w : World) (h : Sp.mt x0 x1 y0 y1 = false) (h0 : Sp.rb (x0) (x1) = false) (h1 : Sp.rb (0) (0) = false) :
    Calls Try.prog 41 #[.agg #[.int .i64 x0, .int .i64 x1], .agg #[.int .i64 y0, .int .i64 y1]] w (AnsS (Sp.one (x0) (x1) ++ Sp.one (0) (0)) w) := by
  have H := Lib.hid h
  have H0 := Lib.hid h0
  have H1 := Lib.hid h1
  have EL : Hid (Sp.one (x0) (x1) ++ Sp.one (0) (0) = (if false then [(x0, x1)] else []) ++ (if false then [(0, 0)] else [])) := Lib.hid (by unfold Sp.one; rw [h0, h1])
  clear h h0 h1
  have ix0 : ∀ a b c d w, Sem.run Try.prog (Instr.index 71 (.agg #[a, b, c, d]) (.int .i64 0)) w = .ok (.agg #[a, b]) w := fun _ _ _ _ _ => by kernel_rfl
  have ix1 : ∀ a b c d w, Sem.run Try.prog (Instr.index 71 (.agg #[a, b, c, d]) (.int .i64 1)) w = .ok (.agg #[c, d]) w := fun _ _ _ _ _ => by kernel_rfl
  obtain ⟨i0, hi, hz0, hz1, hz2⟩ := info_parts info_span
  go_enter Try.func41, Try.ntmps41
  go_wp2_with fail
  refine (span_both x0 x1 y0 y1 _).mono ?_; rintro e w1 ⟨rfl, b1⟩
  have d1 : Below w.heap.size w w1 := below_step (by repeat (first | exact Below.refl _ _ | refine below_drewN ?_ _ | refine Below.drew ?_ | refine Below.setCell ?_ (by first | (simp; done) | (simp; omega) | omega) _ | refine Below.alloc ?_ (by first | (simp; done) | (simp; omega) | omega) _)) b1
  have B1 := Lib.hid d1
  have A1 : Bk2 w1 (w.heap.size) (.int .i64 x0) (.int .i64 x1) := Bk2.of b1 (by simp <;> omega) (by intro j; simp [go_sem]) (by simp [go_sem]) (by simp [go_sem])
  have Bb1 : Bk2 w1 (w.heap.size + 1) (.int .i64 y0) (.int .i64 y1) := Bk2.of b1 (by simp <;> omega) (by intro j; simp [go_sem]) (by simp [go_sem]) (by simp [go_sem])
  have P1 : Bk4 w1 (w.heap.size + 2) (.int .i64 x0) (.int .i64 x1) (.int .i64 0) (.int .i64 0) := Bk4.of b1 (by simp <;> omega) (by intro j; simp [go_sem]) (by simp [go_sem]) (by simp [go_sem]) (by simp [go_sem]) (by simp [go_sem])
  clear b1 d1
  rw [H.out]
  simp only [Sp.bz, if_true, Bool.false_eq_true, if_false]
  have cA_b := A1.hb
  have cA_f := A1.fz
  have cA_0 := A1.k0
  have cA_1 := A1.k1
  have cBb_b := Bb1.hb
  have cBb_f := Bb1.fz
  have cBb_0 := Bb1.k0
  have cBb_1 := Bb1.k1
  have cP_b := P1.hb
  have cP_f := P1.fz
  have cP_0 := P1.k0
  have cP_1 := P1.k1
  have cP_2 := P1.k2
  have cP_3 := P1.k3
  go_wp2_with fail
  refine wp_named ?_; intro w2 hw2
  have B2 := Lib.hid (show Below w.heap.size w w2 from by rw [hw2]; exact (by have hz := B1.out.size; repeat (first | exact B1.out | refine below_drewN ?_ _ | refine Below.drew ?_ | refine Below.setCell ?_ (by first | omega | (simp; done) | (simp; omega)) _ | refine Below.alloc ?_ (by first | omega | (simp; done) | (simp; omega)) _)))
  clear cA_b cA_f cA_0 cA_1 cBb_b cBb_f cBb_0 cBb_1 cP_b cP_f cP_0 cP_1 cP_2 cP_3
  clear hw2 A1 Bb1 P1 B1
  refine wp_loop_rounds 3 ?_
  rw [rounds_succ]
  go_wp2_with fail
  refine (span_right (x0) (x1) _).mono ?_; rintro e w3 ⟨rfl, b3⟩
  rw [H0.out]
  have D3 : Below w2.heap.size w2 w3 := below_step (by repeat (first | exact Below.refl _ _ | refine Below.setCell ?_ (by first | (simp; done) | (simp; omega)) _ | refine Below.alloc ?_ (by first | (simp; done) | (simp; omega)) _)) b3
  have B3 := Lib.hid (below_step B2.out D3)
  have Q3 : Bk2 w3 w2.heap.size (.int .i64 (x0)) (.int .i64 (x1)) := Bk2.of b3 (by simp <;> omega) (by intro j; simp [go_sem]) (by simp [go_sem]) (by simp [go_sem])
  clear b3 D3 B2
  have c3b := Q3.hb; have c3f := Q3.fz; have c30 := Q3.k0; have c31 := Q3.k1
  clear Q3
  obtain ⟨v4, hv4⟩ : ∃ v4, v4 = Value.slice none 0 0 := ⟨_, rfl⟩
  obtain ⟨w4, hw4⟩ : ∃ w4, w4 = w3 := ⟨_, rfl⟩
  have O4 := Lib.hid (show w4.ownsRow w.heap.size 38 2 v4 0 [] from by rw [hv4]; exact World.ownsRow_nil _ _ _ _)
  rw [← hw4] at B3 c3b c3f c30 c31 ⊢
  rw [← hv4]
  have B4 := B3
  clear B3 hw4 hv4
  clear c3b c3f c30 c31
  go_wp2_with fail
  rw [rounds_succ]
  go_wp2_with fail
  refine (span_right (0) (0) _).mono ?_; rintro e w5 ⟨rfl, b5⟩
  rw [H1.out]
  have D5 : Below w4.heap.size w4 w5 := below_step (by repeat (first | exact Below.refl _ _ | refine Below.setCell ?_ (by first | (simp; done) | (simp; omega)) _ | refine Below.alloc ?_ (by first | (simp; done) | (simp; omega)) _)) b5
  have B5 := Lib.hid (below_step B4.out D5)
  have O5 := Lib.hid (own_on O4.out D5)
  have Q5 : Bk2 w5 w4.heap.size (.int .i64 (0)) (.int .i64 (0)) := Bk2.of b5 (by simp <;> omega) (by intro j; simp [go_sem]) (by simp [go_sem]) (by simp [go_sem])
  clear b5 D5 B4 O4
  have c5b := Q5.hb; have c5f := Q5.fz; have c50 := Q5.k0; have c51 := Q5.k1
  clear Q5
  skip
  clear c5b c5f c50 c51
  go_wp2_with fail
  rw [rounds_succ]
  go_wp2
  go_ret
  rw [EL.out]
  exact ⟨v4, SpV.own O5.out, rfl, B5.out⟩
set_option maxHeartbeats 4000000 in
theorem sless_n_true_false (x0 x1 y0 y1 : Int) (w : World) (h : Sp.mt x0 x1 y0 y1 = false) (h0 : Sp.rb (x0) (x1) = true) (h1 : Sp.rb (0) (0) = false) :
    Calls Try.prog 41 #[.agg #[.int .i64 x0, .int .i64 x1], .agg #[.int .i64 y0, .int .i64 y1]] w (AnsS (Sp.one (x0) (x1) ++ Sp.one (0) (0)) w) := by
  have H := Lib.hid h
  have H0 := Lib.hid h0
  have H1 := Lib.hid h1
  have EL : Hid (Sp.one (x0) (x1) ++ Sp.one (0) (0) = (if true then [(x0, x1)] else []) ++ (if false then [(0, 0)] else [])) := Lib.hid (by unfold Sp.one; rw [h0, h1])
  clear h h0 h1
  have ix0 : ∀ a b c d w, Sem.run Try.prog (Instr.index 71 (.agg #[a, b, c, d]) (.int .i64 0)) w = .ok (.agg #[a, b]) w := fun _ _ _ _ _ => by kernel_rfl
  have ix1 : ∀ a b c d w, Sem.run Try.prog (Instr.index 71 (.agg #[a, b, c, d]) (.int .i64 1)) w = .ok (.agg #[c, d]) w := fun _ _ _ _ _ => by kernel_rfl
  obtain ⟨i0, hi, hz0, hz1, hz2⟩ := info_parts info_span
  go_enter Try.func41, Try.ntmps41
  go_wp2_with fail
  refine (span_both x0 x1 y0 y1 _).mono ?_; rintro e w1 ⟨rfl, b1⟩
  have d1 : Below w.heap.size w w1 := below_step (by repeat (first | exact Below.refl _ _ | refine below_drewN ?_ _ | refine Below.drew ?_ | refine Below.setCell ?_ (by first | (simp; done) | (simp; omega) | omega) _ | refine Below.alloc ?_ (by first | (simp; done) | (simp; omega) | omega) _)) b1
  have B1 := Lib.hid d1
  have A1 : Bk2 w1 (w.heap.size) (.int .i64 x0) (.int .i64 x1) := Bk2.of b1 (by simp <;> omega) (by intro j; simp [go_sem]) (by simp [go_sem]) (by simp [go_sem])
  have Bb1 : Bk2 w1 (w.heap.size + 1) (.int .i64 y0) (.int .i64 y1) := Bk2.of b1 (by simp <;> omega) (by intro j; simp [go_sem]) (by simp [go_sem]) (by simp [go_sem])
  have P1 : Bk4 w1 (w.heap.size + 2) (.int .i64 x0) (.int .i64 x1) (.int .i64 0) (.int .i64 0) := Bk4.of b1 (by simp <;> omega) (by intro j; simp [go_sem]) (by simp [go_sem]) (by simp [go_sem]) (by simp [go_sem]) (by simp [go_sem])
  clear b1 d1
  rw [H.out]
  simp only [Sp.bz, if_true, Bool.false_eq_true, if_false]
  have cA_b := A1.hb
  have cA_f := A1.fz
  have cA_0 := A1.k0
  have cA_1 := A1.k1
  have cBb_b := Bb1.hb
  have cBb_f := Bb1.fz
  have cBb_0 := Bb1.k0
  have cBb_1 := Bb1.k1
  have cP_b := P1.hb
  have cP_f := P1.fz
  have cP_0 := P1.k0
  have cP_1 := P1.k1
  have cP_2 := P1.k2
  have cP_3 := P1.k3
  go_wp2_with fail
  refine wp_named ?_; intro w2 hw2
  have B2 := Lib.hid (show Below w.heap.size w w2 from by rw [hw2]; exact (by have hz := B1.out.size; repeat (first | exact B1.out | refine below_drewN ?_ _ | refine Below.drew ?_ | refine Below.setCell ?_ (by first | omega | (simp; done) | (simp; omega)) _ | refine Below.alloc ?_ (by first | omega | (simp; done) | (simp; omega)) _)))
  clear cA_b cA_f cA_0 cA_1 cBb_b cBb_f cBb_0 cBb_1 cP_b cP_f cP_0 cP_1 cP_2 cP_3
  clear hw2 A1 Bb1 P1 B1
  refine wp_loop_rounds 3 ?_
  rw [rounds_succ]
  go_wp2_with fail
  refine (span_right (x0) (x1) _).mono ?_; rintro e w3 ⟨rfl, b3⟩
  rw [H0.out]
  have D3 : Below w2.heap.size w2 w3 := below_step (by repeat (first | exact Below.refl _ _ | refine Below.setCell ?_ (by first | (simp; done) | (simp; omega)) _ | refine Below.alloc ?_ (by first | (simp; done) | (simp; omega)) _)) b3
  have B3 := Lib.hid (below_step B2.out D3)
  have Q3 : Bk2 w3 w2.heap.size (.int .i64 (x0)) (.int .i64 (x1)) := Bk2.of b3 (by simp <;> omega) (by intro j; simp [go_sem]) (by simp [go_sem]) (by simp [go_sem])
  clear b3 D3 B2
  have c3b := Q3.hb; have c3f := Q3.fz; have c30 := Q3.k0; have c31 := Q3.k1
  clear Q3
  go_wp2_with (at_builtin; refine wpList_append_own _ rfl _ _ 48 rfl w.heap.size 38 i0 (.agg #[.int .i64 0, .int .i64 0]) 2 16 Try.underlying48 hi hz0 hz1 hz2 rfl (by decide) _ _ _ rfl (World.ownsRow_nil _ _ _ _) ⟨w3.heap.size, 0, none⟩ 1 1 [.int .i64 (x0), .int .i64 (x1)] rfl rfl (two_cells (by simp [go_sem]) (by simp [go_sem])) (by intro u hu; simp at hu; rcases hu with rfl | rfl <;> rfl) (by unfold maxLen; omega) (by omega) (by have := B3.out.size; simp; omega) ?_)
  intro v4 w4 own4 grow4 _
  have O4 := Lib.hid (show w4.ownsRow w.heap.size 38 2 v4 1 [.int .i64 (x0), .int .i64 (x1)] from own4)
  have B4 := Lib.hid (show Below w.heap.size w w4 from ((B3.out.alloc B3.out.size _).trans (below_grown grow4 (by have := B3.out.size; simp; omega) (by intro g hg; cases hg))))
  clear own4 grow4 B3
  clear c3b c3f c30 c31
  go_wp2_with fail
  rw [rounds_succ]
  go_wp2_with fail
  refine (span_right (0) (0) _).mono ?_; rintro e w5 ⟨rfl, b5⟩
  rw [H1.out]
  have D5 : Below w4.heap.size w4 w5 := below_step (by repeat (first | exact Below.refl _ _ | refine Below.setCell ?_ (by first | (simp; done) | (simp; omega)) _ | refine Below.alloc ?_ (by first | (simp; done) | (simp; omega)) _)) b5
  have B5 := Lib.hid (below_step B4.out D5)
  have O5 := Lib.hid (own_on O4.out D5)
  have Q5 : Bk2 w5 w4.heap.size (.int .i64 (0)) (.int .i64 (0)) := Bk2.of b5 (by simp <;> omega) (by intro j; simp [go_sem]) (by simp [go_sem]) (by simp [go_sem])
  clear b5 D5 B4 O4
  have c5b := Q5.hb; have c5f := Q5.fz; have c50 := Q5.k0; have c51 := Q5.k1
  clear Q5
  skip
  clear c5b c5f c50 c51
  go_wp2_with fail
  rw [rounds_succ]
  go_wp2
  go_ret
  rw [EL.out]
  exact ⟨v4, SpV.own O5.out, rfl, B5.out⟩
theorem sless_any (x0 x1 y0 y1 : Int) (w : World) :
    Calls Try.prog 41 #[.agg #[.int .i64 x0, .int .i64 x1], .agg #[.int .i64 y0, .int .i64 y1]] w (AnsS (Sp.less x0 x1 y0 y1) w) := by
  unfold Sp.less
  cases h : Sp.mt x0 x1 y0 y1
  · rw [if_neg (by decide)]
    have e : Sp.one x0 x1 = Sp.one x0 x1 ++ Sp.one 0 0 := by rw [show Sp.one 0 0 = [] by decide, List.append_nil]
    rw [e]
    have h2 : Sp.rb 0 0 = false := by decide
    cases h1 : Sp.rb x0 x1
    · exact sless_n_false_false x0 x1 y0 y1 w h h1 h2
    · exact sless_n_true_false x0 x1 y0 y1 w h h1 h2
  · rw [if_pos rfl]
    cases h1 : Sp.rb x0 (max x0 y0)
    · cases h2 : Sp.rb (min x1 y1) x1
      · exact sless_m_false_false x0 x1 y0 y1 w h h1 h2
      · exact sless_m_false_true x0 x1 y0 y1 w h h1 h2
    · cases h2 : Sp.rb (min x1 y1) x1
      · exact sless_m_true_false x0 x1 y0 y1 w h h1 h2
      · exact sless_m_true_true x0 x1 y0 y1 w h h1 h2
end Go.Proofs.Ytcmnfbbccacpcaa

