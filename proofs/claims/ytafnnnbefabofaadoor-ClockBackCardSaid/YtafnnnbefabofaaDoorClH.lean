/- The walk of ClockBack: a clock of universal time. -/
import Derived.Test.YtafnnnbefabofaaDoorClF
set_option linter.unusedVariables false
set_option linter.unusedSimpArgs false
namespace Go.Proofs.YtafnnnbefabofaaDoor
open Go.RowKit Go.Sort

set_option maxHeartbeats 4000000 in
set_option maxRecDepth 100000 in
theorem clback_2 (n : Int) (w : World) (y : Int) (T : Cl.Tab w) (hm : w.cell? ⟨5, 0, none⟩ = some (.int .i64 y)) (htab : Lib.TabIs Tryd.prog w "internal/strconv.uint64pow10" .u64 Lib.pow10Tab) (n0 : 0 ≤ n) (n1 : n ≤ 172800) :
    Calls Tryd.prog 3 #[.agg #[.int .i64 n, .int .i64 2]] w fun e w' => e = .returned (.bool true) ∧ Below w.heap.size w w' := by
  have T0 := Lib.hid htab; clear htab
  have M0 := Lib.hid hm; clear hm
  have L0 := Lib.hid T; clear T
  have LV := Lib.hid (fun W a b c => lives19 W y a b c)
  have hr : Cl.rB n 2 = true := rB_iff.2 ⟨n0, n1, by omega, by omega⟩
  obtain ⟨z, _⟩ := atx_size n0 n1
  have r0 := Cl.rd_app n0 n1 117 2 (by decide) (by omega)
  have r1 := Cl.rd_app n0 n1 103 2 (by decide) (by omega)
  have r2 := Cl.rd_app n0 n1 90 2 (by decide) (by omega)
  have X := Lib.hid (cltext_c n 2 ((Am.tx n).1 ++ ⟨#[117]⟩) 0 (by unfold Cl.tx; rw [hr, if_neg (by decide), if_neg (by decide)]; rfl))
  have ce := Cl.cut_ext (Am.tx n).1 117
  have zs : ((Am.tx n).1 ++ ⟨#[117]⟩ : ByteArray).size = (Am.tx n).1.size + 1 := by rw [ByteArray.size_append]; rfl
  rw [← ce] at r1 r2
  generalize hS : ((Am.tx n).1 ++ ⟨#[117]⟩ : ByteArray) = S at *
  have zS : S.size ≤ 201 := by omega
  have zp : 1 ≤ S.size := by omega
  have zE : (S.extract 0 (S.size - 1)).size = S.size - 1 := by rw [ByteArray.size_extract]; omega
  clear ce hS zs z
  obtain ⟨C, hC⟩ : ∃ C, S.extract 0 (S.size - 1) = C := ⟨_, rfl⟩
  have n2 : 0 ≤ (S.size : Int) - 1 := by omega
  have FC := fun W => cut_hi1 S C W n2 hC
  rw [hC] at zE
  have zC : C.size ≤ 200 := by omega
  rw [hC] at r1 r2
  have R0 := Lib.hid (clread_c S n 2 0 r0 (by omega))
  have R1 := Lib.hid (clread_c (C ++ ⟨#[103]⟩) n 2 0 r1 (by rw [ByteArray.size_append]; show C.size + 1 < _; omega))
  have R2 := Lib.hid (clread_c (C ++ ⟨#[90]⟩) n 2 0 r2 (by rw [ByteArray.size_append]; show C.size + 1 < _; omega))
  clear r0 r1 r2 hr zE hC n2
  go_enter Tryd.func3, Tryd.ntmps3
  go_wp2_with fail
  refine (LV.out _ (L0.out.on (by repeat (first | exact Below.refl _ _ | refine below_drewN ?_ _ | refine Below.drew ?_ | refine Below.setCell ?_ (by first | (simp; done) | (simp; omega) | omega) _ | refine Below.alloc ?_ (by first | (simp; done) | (simp; omega) | omega) _))) (ckm (B := w.heap.size) (by repeat (first | exact Below.refl _ _ | refine below_drewN ?_ _ | refine Below.drew ?_ | refine Below.setCell ?_ (by first | (simp; done) | (simp; omega) | omega) _ | refine Below.alloc ?_ (by first | (simp; done) | (simp; omega) | omega) _)) M0.out) (var_keep (by repeat (first | exact Below.refl _ _ | refine below_drewN ?_ _ | refine Below.drew ?_ | refine Below.setCell ?_ (by first | (simp; done) | (simp; omega) | omega) _ | refine Below.alloc ?_ (by first | (simp; done) | (simp; omega) | omega) _)) T0.out)).mono ?_; rintro e w1 ⟨rfl, b1⟩
  have d1 : Below w.heap.size w w1 := below_step (by repeat (first | exact Below.refl _ _ | refine below_drewN ?_ _ | refine Below.drew ?_ | refine Below.setCell ?_ (by first | (simp; done) | (simp; omega) | omega) _ | refine Below.alloc ?_ (by first | (simp; done) | (simp; omega) | omega) _)) b1
  have B1 := Lib.hid d1
  have X1 : Bk2 w1 (w.heap.size) (.int .i64 n) (.int .i64 2) := Bk2.of b1 (by simp <;> omega) (by intro j; simp [go_sem]) (by simp [go_sem]) (by simp [go_sem])
  clear b1 d1
  have cX_b := X1.hb
  have cX_f := X1.fz
  have cX_0 := X1.k0
  have cX_1 := X1.k1
  go_wp2_with fail
  clear cX_b cX_f cX_0 cX_1
  refine (X.out _ (L0.out.on (below_step B1.out (by repeat (first | exact Below.refl _ _ | refine below_drewN ?_ _ | refine Below.drew ?_ | refine Below.setCell ?_ (by first | (simp; done) | (simp; omega) | omega) _ | refine Below.alloc ?_ (by first | (simp; done) | (simp; omega) | omega) _)))) (var_keep (below_step B1.out (by repeat (first | exact Below.refl _ _ | refine below_drewN ?_ _ | refine Below.drew ?_ | refine Below.setCell ?_ (by first | (simp; done) | (simp; omega) | omega) _ | refine Below.alloc ?_ (by first | (simp; done) | (simp; omega) | omega) _))) T0.out)).mono ?_; rintro e w2 ⟨rfl, b2⟩
  have d2 : Below w1.heap.size w1 w2 := below_step (by repeat (first | exact Below.refl _ _ | refine below_drewN ?_ _ | refine Below.drew ?_ | refine Below.setCell ?_ (by first | (simp; done) | (simp; omega) | omega) _ | refine Below.alloc ?_ (by first | (simp; done) | (simp; omega) | omega) _)) b2
  have B2 := Lib.hid (below_step B1.out d2)
  have X2 := X1.keep d2
  clear X1 b2 d2 B1
  have cX_b := X2.hb
  have cX_f := X2.fz
  have cX_0 := X2.k0
  have cX_1 := X2.k1
  go_wp2_with fail
  clear cX_b cX_f cX_0 cX_1
  refine (R0.out _ y (L0.out.on (below_step B2.out (by repeat (first | exact Below.refl _ _ | refine below_drewN ?_ _ | refine Below.drew ?_ | refine Below.setCell ?_ (by first | (simp; done) | (simp; omega) | omega) _ | refine Below.alloc ?_ (by first | (simp; done) | (simp; omega) | omega) _)))) (ckm (below_step B2.out (by repeat (first | exact Below.refl _ _ | refine below_drewN ?_ _ | refine Below.drew ?_ | refine Below.setCell ?_ (by first | (simp; done) | (simp; omega) | omega) _ | refine Below.alloc ?_ (by first | (simp; done) | (simp; omega) | omega) _))) M0.out)).mono ?_; rintro e w3 ⟨rfl, b3⟩
  have d3 : Below w2.heap.size w2 w3 := below_step (by repeat (first | exact Below.refl _ _ | refine below_drewN ?_ _ | refine Below.drew ?_ | refine Below.setCell ?_ (by first | (simp; done) | (simp; omega) | omega) _ | refine Below.alloc ?_ (by first | (simp; done) | (simp; omega) | omega) _)) b3
  have B3 := Lib.hid (below_step B2.out d3)
  have X3 := X2.keep d3
  clear X2 b3 d3 B2
  have cX_b := X3.hb
  have cX_f := X3.fz
  have cX_0 := X3.k0
  have cX_1 := X3.k1
  go_wp2_with fail
  clear cX_b cX_f cX_0 cX_1
  refine (R1.out _ y (L0.out.on (below_step B3.out (by repeat (first | exact Below.refl _ _ | refine below_drewN ?_ _ | refine Below.drew ?_ | refine Below.setCell ?_ (by first | (simp; done) | (simp; omega) | omega) _ | refine Below.alloc ?_ (by first | (simp; done) | (simp; omega) | omega) _)))) (ckm (below_step B3.out (by repeat (first | exact Below.refl _ _ | refine below_drewN ?_ _ | refine Below.drew ?_ | refine Below.setCell ?_ (by first | (simp; done) | (simp; omega) | omega) _ | refine Below.alloc ?_ (by first | (simp; done) | (simp; omega) | omega) _))) M0.out)).mono ?_; rintro e w4 ⟨rfl, b4⟩
  have d4 : Below w3.heap.size w3 w4 := below_step (by repeat (first | exact Below.refl _ _ | refine below_drewN ?_ _ | refine Below.drew ?_ | refine Below.setCell ?_ (by first | (simp; done) | (simp; omega) | omega) _ | refine Below.alloc ?_ (by first | (simp; done) | (simp; omega) | omega) _)) b4
  have B4 := Lib.hid (below_step B3.out d4)
  have X4 := X3.keep d4
  have aQ0 := B3.out.size
  have nQ0X := Nat.ne_of_lt X3.hb
  have oQ0X := Nat.ne_of_gt X3.hb
  have Q04 : Bk2 w4 (w3.heap.size) (.int .i64 n) (.int .i64 2) := Bk2.of b4 (by simp <;> omega) (by intro j; simp [go_sem]) (by simp [go_sem]) (by simp [go_sem])
  clear X3 b4 d4 B3
  have cX_b := X4.hb
  have cX_f := X4.fz
  have cX_0 := X4.k0
  have cX_1 := X4.k1
  have cQ0_b := Q04.hb
  have cQ0_f := Q04.fz
  have cQ0_0 := Q04.k0
  have cQ0_1 := Q04.k1
  go_wp2_with fail
  clear cX_b cX_f cX_0 cX_1 cQ0_b cQ0_f cQ0_0 cQ0_1
  refine (R2.out _ y (L0.out.on (below_step B4.out (by repeat (first | exact Below.refl _ _ | refine below_drewN ?_ _ | refine Below.drew ?_ | refine Below.setCell ?_ (by first | (simp; done) | (simp; omega) | omega) _ | refine Below.alloc ?_ (by first | (simp; done) | (simp; omega) | omega) _)))) (ckm (below_step B4.out (by repeat (first | exact Below.refl _ _ | refine below_drewN ?_ _ | refine Below.drew ?_ | refine Below.setCell ?_ (by first | (simp; done) | (simp; omega) | omega) _ | refine Below.alloc ?_ (by first | (simp; done) | (simp; omega) | omega) _))) M0.out)).mono ?_; rintro e w5 ⟨rfl, b5⟩
  have d5 : Below w4.heap.size w4 w5 := below_step (by repeat (first | exact Below.refl _ _ | refine below_drewN ?_ _ | refine Below.drew ?_ | refine Below.setCell ?_ (by first | (simp; done) | (simp; omega) | omega) _ | refine Below.alloc ?_ (by first | (simp; done) | (simp; omega) | omega) _)) b5
  have B5 := Lib.hid (below_step B4.out d5)
  have X5 := X4.keep d5
  have Q05 := Q04.keep d5
  have aQ1 := B4.out.size
  have nQ1X := Nat.ne_of_lt X4.hb
  have oQ1X := Nat.ne_of_gt X4.hb
  have nQ1Q0 := Nat.ne_of_lt Q04.hb
  have oQ1Q0 := Nat.ne_of_gt Q04.hb
  have Q15 : Bk2 w5 (w4.heap.size) (.int .i64 n) (.int .i64 2) := Bk2.of b5 (by simp <;> omega) (by intro j; simp [go_sem]) (by simp [go_sem]) (by simp [go_sem])
  clear X4 Q04 b5 d5 B4
  have cX_b := X5.hb
  have cX_f := X5.fz
  have cX_0 := X5.k0
  have cX_1 := X5.k1
  have cQ0_b := Q05.hb
  have cQ0_f := Q05.fz
  have cQ0_0 := Q05.k0
  have cQ0_1 := Q05.k1
  have cQ1_b := Q15.hb
  have cQ1_f := Q15.fz
  have cQ1_0 := Q15.k0
  have cQ1_1 := Q15.k1
  go_wp2_with fail
  clear cX_b cX_f cX_0 cX_1 cQ0_b cQ0_f cQ0_0 cQ0_1 cQ1_b cQ1_f cQ1_0 cQ1_1
  go_ret
  exact ⟨rfl, (by have hz := B5.out.size; repeat (first | exact B5.out | refine below_drewN ?_ _ | refine Below.drew ?_ | refine Below.setCell ?_ (by first | omega | (simp; done) | (simp; omega)) _ | refine Below.alloc ?_ (by first | omega | (simp; done) | (simp; omega)) _))⟩
end Go.Proofs.YtafnnnbefabofaaDoor

