/- The contracts of lon's Degrees and Norm, and of their reference's; the walk of LonTells. -/
import Derived.Test.YtpjddkcoolggaabLonB
set_option linter.unusedVariables false
set_option linter.unusedSimpArgs false
namespace Go.Proofs.Ytpjddkcoolggaab
open Go.RowKit

/-- A longitude brought between the ends. -/
def cnorm (x : Nat) : Nat := Fl.cop .sub x (Fl.cop .mul c360 (Fl.crd .down (Fl.cop .quo (Fl.cop .add x c180) c360)))
/-- A call that answers a word, or no number. -/
def OneF (c : Nat) (w : World) (e : Ending) (w' : World) : Prop := ∃ r, Fl.Eqv r c ∧ e = .returned (.float .f64 r) ∧ ∃ k, w' = w.drewN k
set_option maxHeartbeats 1000000 in
theorem lon_norm (x : Nat) (hx : x < 18446744073709551616) (w : World) : Calls Try.prog 43 #[.float .f64 x] w (OneF (cnorm x) w) := by
  obtain ⟨s, n1, hs, r1⟩ := Fl.fop_run Try.prog .add (.inl rfl) 22 x c180 w
  obtain ⟨q, n2, hq, r2⟩ := Fl.fop_run Try.prog .quo (.inr (.inr (.inr rfl))) 22 s c360 (w.drewN n1)
  have HS := Lib.hid hs; have HQ := Lib.hid hq
  clear hs hq hx
  unfold c180 at r1
  unfold c360 at r2
  go_enter Try.func43, Try.ntmps43
  go_wp2_with fail
  refine (round_down q HQ.out.1 _).mono ?_; rintro e w1 ⟨y, n, hy, rfl, rfl⟩
  have HY := Lib.hid hy; clear hy
  generalize hW : World.drewN _ _ = W1
  obtain ⟨t, n3, ht, r3⟩ := Fl.fop_run Try.prog .mul (.inr (.inr (.inl rfl))) 22 c360 y W1
  obtain ⟨r, n4, hr, r4⟩ := Fl.fop_run Try.prog .sub (.inr (.inl rfl)) 22 x t (W1.drewN n3)
  have HT := Lib.hid ht; have HR := Lib.hid hr
  have HW := Lib.hid hW
  clear ht hr hW
  unfold c360 at r3
  go_wp2
  go_ret
  refine ⟨r, HR.out.eqv2 (.inr (.inl rfl)) (HT.out.eqv2 (.inr (.inr (.inl rfl))) (HY.out.eqv (HQ.out.eqv (.inr (.inr (.inr rfl))) HS.out.cop))), rfl, ?_⟩
  rw [← HW.out]
  simp only [World.drewN_drewN]
  exact ⟨_, rfl⟩
set_option maxHeartbeats 1000000 in
theorem noontideref09_norm (x : Nat) (hx : x < 18446744073709551616) (w : World) : Calls Try.prog 44 #[.float .f64 x] w (OneF (cnorm x) w) := by
  obtain ⟨s, n1, hs, r1⟩ := Fl.fop_run Try.prog .add (.inl rfl) 22 x c180 w
  obtain ⟨q, n2, hq, r2⟩ := Fl.fop_run Try.prog .quo (.inr (.inr (.inr rfl))) 22 s c360 (w.drewN n1)
  have HS := Lib.hid hs; have HQ := Lib.hid hq
  clear hs hq hx
  unfold c180 at r1
  unfold c360 at r2
  go_enter Try.func44, Try.ntmps44
  go_wp2_with fail
  refine (roundr_ok q 1 HQ.out.1 (by decide) (by decide) _).mono ?_; rintro e w1 ⟨y, hy, rfl, rfl⟩
  have HY := Lib.hid hy; clear hy
  generalize hW : World.drewN _ _ = W1
  obtain ⟨t, n3, ht, r3⟩ := Fl.fop_run Try.prog .mul (.inr (.inr (.inl rfl))) 22 c360 y W1
  obtain ⟨r, n4, hr, r4⟩ := Fl.fop_run Try.prog .sub (.inr (.inl rfl)) 22 x t (W1.drewN n3)
  have HT := Lib.hid ht; have HR := Lib.hid hr
  have HW := Lib.hid hW
  clear ht hr hW
  unfold c360 at r3
  go_wp2
  go_ret
  refine ⟨r, HR.out.eqv2 (.inr (.inl rfl)) (HT.out.eqv2 (.inr (.inr (.inl rfl))) (HY.out.eqv (HQ.out.eqv (.inr (.inr (.inr rfl))) HS.out.cop))), rfl, ?_⟩
  rw [← HW.out]
  simp only [World.drewN_drewN]
  exact ⟨_, rfl⟩
/-- The longitude of an offset. -/
def cdeg (off : Int) : Nat := if off < -43200 ∨ 43200 < off then 0 else Fl.cop .quo (FloatKind.f64.nearest off) c240
def wdeg (off : Int) : Int := if off < -43200 ∨ 43200 < off then 1 else 0
/-- A call that answers a word, or no number, and why not. -/
def OneW (c : Nat) (y : Int) (w : World) (e : Ending) (w' : World) : Prop := ∃ r, Fl.Eqv r c ∧ e = .returned (.tuple #[.float .f64 r, .int .i64 y]) ∧ ∃ k, w' = w.drewN k
set_option maxHeartbeats 1000000 in
theorem lon_deg (off : Int) (w : World) : Calls Try.prog 39 #[.int .i64 off] w (OneW (cdeg off) (wdeg off) w) := by
  by_cases h : off < -43200
  · have e1 : cdeg off = 0 := by unfold cdeg; rw [if_pos (.inl h)]
    have e2 : wdeg off = 1 := by unfold wdeg; rw [if_pos (.inl h)]
    rw [e1, e2]; clear e1 e2
    go_enter Try.func39, Try.ntmps39
    go_wp2
    go_ret2
    exact ⟨0, Fl.Eqv.refl (by decide), rfl, 0, rfl⟩
  · have hd : decide (off < -43200) = false := decide_eq_false h
    by_cases h2 : 43200 < off
    · have e1 : cdeg off = 0 := by unfold cdeg; rw [if_pos (.inr h2)]
      have e2 : wdeg off = 1 := by unfold wdeg; rw [if_pos (.inr h2)]
      rw [e1, e2]; clear e1 e2 h
      go_enter Try.func39, Try.ntmps39
      go_wp2
      go_ret2
      exact ⟨0, Fl.Eqv.refl (by decide), rfl, 0, rfl⟩
    · have hd2 : decide (43200 < off) = false := decide_eq_false h2
      have e1 : cdeg off = Fl.cop .quo (FloatKind.f64.nearest off) c240 := by unfold cdeg; rw [if_neg (by omega)]
      have e2 : wdeg off = 0 := by unfold wdeg; rw [if_neg (by omega)]
      rw [e1, e2]; clear e1 e2 h h2
      obtain ⟨q, n2, hq, r2⟩ := Fl.fop_run Try.prog .quo (.inr (.inr (.inr rfl))) 22 (floatOfInt .f64 off) c240 w
      have HQ := Lib.hid hq; clear hq
      unfold c240 at r2
      go_enter Try.func39, Try.ntmps39
      go_wp2_with fail; refine (real_of off _).mono ?_; rintro e w1 ⟨rfl, rfl⟩; rw [show FloatKind.f64.nearest off = floatOfInt .f64 off from rfl]
      go_wp2
      go_ret2
      exact ⟨q, HQ.out.cop, rfl, n2, rfl⟩
set_option maxHeartbeats 1000000 in
theorem noontideref09_deg (off : Int) (w : World) : Calls Try.prog 40 #[.int .i64 off] w (OneW (cdeg off) (wdeg off) w) := by
  by_cases h : off < -43200
  · have e1 : cdeg off = 0 := by unfold cdeg; rw [if_pos (.inl h)]
    have e2 : wdeg off = 1 := by unfold wdeg; rw [if_pos (.inl h)]
    rw [e1, e2]; clear e1 e2
    go_enter Try.func40, Try.ntmps40
    go_wp2
    go_ret2
    exact ⟨0, Fl.Eqv.refl (by decide), rfl, 0, rfl⟩
  · have hd : decide (off < -43200) = false := decide_eq_false h
    by_cases h2 : 43200 < off
    · have e1 : cdeg off = 0 := by unfold cdeg; rw [if_pos (.inr h2)]
      have e2 : wdeg off = 1 := by unfold wdeg; rw [if_pos (.inr h2)]
      rw [e1, e2]; clear e1 e2 h
      go_enter Try.func40, Try.ntmps40
      go_wp2
      go_ret2
      exact ⟨0, Fl.Eqv.refl (by decide), rfl, 0, rfl⟩
    · have hd2 : decide (43200 < off) = false := decide_eq_false h2
      have e1 : cdeg off = Fl.cop .quo (FloatKind.f64.nearest off) c240 := by unfold cdeg; rw [if_neg (by omega)]
      have e2 : wdeg off = 0 := by unfold wdeg; rw [if_neg (by omega)]
      rw [e1, e2]; clear e1 e2 h h2
      obtain ⟨q, n2, hq, r2⟩ := Fl.fop_run Try.prog .quo (.inr (.inr (.inr rfl))) 22 (floatOfInt .f64 off) c240 w
      have HQ := Lib.hid hq; clear hq
      unfold c240 at r2
      go_enter Try.func40, Try.ntmps40
      skip
      go_wp2
      go_ret2
      exact ⟨q, HQ.out.cop, rfl, n2, rfl⟩
theorem Eqv_val {r c : Nat} (h : Fl.Eqv r c) (hc : Fl.nan c = false) : r = c := by
  rcases h.2 with e | ⟨_, e⟩
  · exact e
  · rw [hc] at e; cases e
theorem Eqv_nan {r c : Nat} (h : Fl.Eqv r c) (hc : Fl.nan c = true) : Fl.nan r = true := by
  rcases h.2 with e | ⟨e, _⟩
  · rw [e]; exact hc
  · exact e
set_option maxHeartbeats 4000000 in
set_option maxRecDepth 100000 in
theorem lives9 (w : World) :
    Calls Try.prog 45 #[] w fun e w' => e = .returned (.bool true) ∧ Below w.heap.size w w' := by
  go_enter Try.func45, Try.ntmps45
  go_wp2_with fail
  refine (edges_any _).mono ?_; rintro e w1 ⟨q, b, hq, hq2, rfl, E1, b1⟩
  have B1 := Lib.hid b1; have HQ := Lib.hid hq; have HQ2 := Lib.hid hq2
  clear b1 hq hq2
  have cE_b := E1.hb
  have cE_f := E1.fz
  have cE_0 := E1.k0
  have cE_1 := E1.k1
  have cE_2 := E1.k2
  have cE_3 := E1.k3
  have cE_4 := E1.k4
  go_wp2_with fail
  refine (lonoff_any 13858279740860792832 3 _).mono ?_; rintro e w2 ⟨rfl, n1, rfl⟩
  rw [show lonV 13858279740860792832 (Fl.cop .mul 13858279740860792832 c240) 3 = -17760 by decide +kernel, show lonW 13858279740860792832 (Fl.cop .mul 13858279740860792832 c240) 3 = 0 by decide +kernel]
  go_wp2_with fail
  refine (lonoff_any 4562254508917369340 2 _).mono ?_; rintro e w2 ⟨rfl, n2, rfl⟩
  rw [show lonV 4562254508917369340 (Fl.cop .mul 4562254508917369340 c240) 2 = 1 by decide +kernel, show lonW 4562254508917369340 (Fl.cop .mul 4562254508917369340 c240) 2 = 0 by decide +kernel]
  go_wp2_with fail
  refine (lonoff_any 4640554795726274560 2 _).mono ?_; rintro e w2 ⟨rfl, n3, rfl⟩
  rw [show lonV 4640554795726274560 (Fl.cop .mul 4640554795726274560 c240) 2 = 0 by decide +kernel, show lonW 4640554795726274560 (Fl.cop .mul 4640554795726274560 c240) 2 = 1 by decide +kernel]
  go_wp2_with fail
  refine (lonoff_any q 2 _).mono ?_; rintro e w2 ⟨rfl, n4, rfl⟩
  rw [(lon_nan (op := .mul) (c := c240) (m := 2) (.inr (.inr (.inl rfl))) HQ.out (by decide) (by decide)).1, (lon_nan (op := .mul) (c := c240) (m := 2) (.inr (.inr (.inl rfl))) HQ.out (by decide) (by decide)).2]
  go_wp2_with fail
  refine (lonoff_any q 0 _).mono ?_; rintro e w2 ⟨rfl, n5, rfl⟩
  rw [show lonV q (Fl.cop .mul q c240) 0 = 0 from rfl, show lonW q (Fl.cop .mul q c240) 0 = 4 from rfl]
  go_wp2_with fail
  refine (lon_deg (-43200) _).mono ?_; rintro e w2 ⟨r6, h6, rfl, n6, rfl⟩
  obtain rfl := Eqv_val (h6) (by decide +kernel)
  rw [show cdeg (-43200) = 13863909240395005952 by decide +kernel, show wdeg (-43200) = 0 by decide +kernel]
  clear h6
  go_wp2_with fail
  refine (lon_deg 43201 _).mono ?_; rintro e w2 ⟨r7, h7, rfl, n7, rfl⟩
  rw [show wdeg 43201 = 1 by decide +kernel]
  clear h7
  go_wp2_with fail
  refine (lonhours_any 4627026404658118656 _).mono ?_; rintro e w2 ⟨rfl, n8, rfl⟩
  rw [show lonV 4627026404658118656 (Fl.cop .quo 4627026404658118656 c15) 4 = 2 by decide +kernel, show lonW 4627026404658118656 (Fl.cop .quo 4627026404658118656 c15) 4 = 0 by decide +kernel]
  go_wp2_with fail
  refine (lonhours_any 18442240474082181120 _).mono ?_; rintro e w2 ⟨rfl, n9, rfl⟩
  rw [show lonV 18442240474082181120 (Fl.cop .quo 18442240474082181120 c15) 4 = 0 by decide +kernel, show lonW 18442240474082181120 (Fl.cop .quo 18442240474082181120 c15) 4 = 1 by decide +kernel]
  have g1 : (FloatKind.f64.format.order 13863909240395005952 13863909240395005952 == some Ordering.eq) = true := by decide +kernel
  have g2 : (FloatKind.f64.format.order 13863557396674117632 13863557396674117632 == some Ordering.eq) = true := by decide +kernel
  go_wp2_with fail
  refine (lon_norm 4640889047261118464 (by decide) _).mono ?_; rintro e w2 ⟨r10, h10, rfl, n10, rfl⟩
  obtain rfl := Eqv_val h10 (by decide +kernel)
  rw [show cnorm 4640889047261118464 = 13863557396674117632 by decide +kernel]
  clear h10
  go_wp2_with fail
  refine (lon_norm 13863909240395005952 (by decide) _).mono ?_; rintro e w2 ⟨r11, h11, rfl, n11, rfl⟩
  obtain rfl := Eqv_val h11 (by decide +kernel)
  rw [show cnorm 13863909240395005952 = 13863909240395005952 by decide +kernel]
  clear h11
  go_wp2_with fail
  refine (lon_norm 9223372036854775808 (by decide) _).mono ?_; rintro e w2 ⟨r12, h12, rfl, n12, rfl⟩
  obtain rfl := Eqv_val h12 (by decide +kernel)
  rw [show cnorm 9223372036854775808 = 9223372036854775808 by decide +kernel]
  clear h12
  go_wp2_with fail
  refine (kind_any 9223372036854775808 (by decide) _).mono ?_; rintro e w2 ⟨rfl, rfl⟩
  rw [show Fl.kd (Fl.rk 9223372036854775808) = 3 by decide +kernel]
  go_wp2_with fail
  refine (lon_norm 9218868437227405312 (by decide) _).mono ?_; rintro e w2 ⟨r13, h13, rfl, n13, rfl⟩
  have H13 := Lib.hid (Fl.kd_nan2 (Eqv_nan h13 (by decide +kernel)))
  have L13 := Lib.hid h13.1
  clear h13
  go_wp2_with fail
  refine (kind_any r13 L13.out _).mono ?_; rintro e w2 ⟨rfl, rfl⟩
  rw [H13.out]
  go_wp2
  go_ret
  clear cE_b cE_f cE_0 cE_1 cE_2 cE_3 cE_4
  exact ⟨rfl, by repeat (first | exact B1.out | refine below_drewN ?_ _)⟩
set_option maxHeartbeats 4000000 in
set_option maxRecDepth 100000 in
theorem ltells_walk (x : Nat) (m off : Int) (w : World) (hx : x < 18446744073709551616) :
    Calls Try.prog 7 #[.float .f64 x, .int .i64 m, .int .i64 off] w fun e w' => e = .returned (.bool true) ∧ Below w.heap.size w w' := by
  have HX := Lib.hid hx
  clear hx
  have S1 := Lib.hid (fun w => lonoff_any x m w)
  have S2 := Lib.hid (fun w => lonoffr_any x m HX.out w)
  have S3 := Lib.hid (fun w => lonhours_any x w)
  have S4 := Lib.hid (fun w => lonhoursr_any x HX.out w)
  generalize lonV x (Fl.cop .mul x c240) m = v1 at S1 S2
  generalize lonW x (Fl.cop .mul x c240) m = v2 at S1 S2
  generalize lonV x (Fl.cop .quo x c15) 4 = v3 at S3 S4
  generalize lonW x (Fl.cop .quo x c15) 4 = v4 at S3 S4
  go_enter Try.func7, Try.ntmps7
  go_wp2_with fail
  refine (S1.out _).mono ?_; rintro e w1 ⟨rfl, k1, rfl⟩
  go_wp2_with fail
  refine (S2.out _).mono ?_; rintro e w1 ⟨rfl, k2, rfl⟩
  go_wp2_with fail
  refine (lon_deg off _).mono ?_; rintro e w1 ⟨r1, h1, rfl, k3, rfl⟩
  have H1 := Lib.hid h1; clear h1
  go_wp2_with fail
  refine (noontideref09_deg off _).mono ?_; rintro e w1 ⟨r2, h2, rfl, k4, rfl⟩
  have H2 := Lib.hid h2; clear h2
  generalize wdeg off = v5
  go_wp2_with fail
  refine (S3.out _).mono ?_; rintro e w1 ⟨rfl, k5, rfl⟩
  go_wp2_with fail
  refine (S4.out _).mono ?_; rintro e w1 ⟨rfl, k6, rfl⟩
  go_wp2_with fail
  refine (samer_any r1 r2 H1.out.1 H2.out.1 _).mono ?_; rintro e w1 ⟨rfl, rfl⟩
  rw [show Fl.sameB r1 r2 = true from Fl.sameB_of H1.out H2.out]
  go_wp2_with fail
  refine (lon_norm x HX.out _).mono ?_; rintro e w1 ⟨r3, h3, rfl, k7, rfl⟩
  have H3 := Lib.hid h3; clear h3
  go_wp2_with fail
  refine (noontideref09_norm x HX.out _).mono ?_; rintro e w1 ⟨r4, h4, rfl, k8, rfl⟩
  have H4 := Lib.hid h4; clear h4
  go_wp2_with fail
  refine (samer_any r3 r4 H3.out.1 H4.out.1 _).mono ?_; rintro e w1 ⟨rfl, rfl⟩
  rw [show Fl.sameB r3 r4 = true from Fl.sameB_of H3.out H4.out]
  go_wp2_with fail
  refine (lives9 _).mono ?_; rintro e w1 ⟨rfl, b1⟩
  go_wp2
  go_ret
  exact ⟨rfl, below_step (by repeat (first | exact Below.refl _ _ | refine below_drewN ?_ _)) b1⟩
end Go.Proofs.Ytpjddkcoolggaab

