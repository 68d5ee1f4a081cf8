/- The walk of JulianTells: whatever is handed in, the law answers true; nothing old turns. -/
import Derived.Test.YtpjddkcoolggaabFe
import Derived.Test.YtpjddkcoolggaabLiv8
set_option linter.unusedVariables false
set_option linter.unusedSimpArgs false
namespace Go.Proofs.Ytpjddkcoolggaab
open Go.RowKit

/-- A call that answers two values, and at most draws. -/
def Two (n y : Int) (w : World) (e : Ending) (w' : World) : Prop := e = .returned (.tuple #[.int .i64 n, .int .i64 y]) ∧ ∃ k, w' = w.drewN k
set_option maxHeartbeats 1000000 in
theorem secsr_any (x : Nat) (m : Int) (m1 : 1 ≤ m) (m4 : m ≤ 4) (w : World) : Calls Try.prog 29 #[.float .f64 x, .int .i64 m] w (SecsP x m w) := by
  obtain ⟨s, n1, hs, r1⟩ := Fl.fop_run Try.prog .sub (.inr (.inl rfl)) 22 x Fl.zero w
  obtain ⟨p, n2, hp, r2⟩ := Fl.fop_run Try.prog .mul (.inr (.inr (.inl rfl))) 22 s Fl.day (w.drewN n1)
  have HS := Lib.hid hs; have HP := Lib.hid hp
  clear hs hp
  unfold Fl.zero at r1
  unfold Fl.day at r2
  go_enter Try.func29, Try.ntmps29
  go_wp2_with fail
  refine (wholer_any p m HP.out.1 m1 m4 _).mono ?_; rintro e w1 ⟨rfl, rfl⟩
  go_wp2
  go_ret2
  exact ⟨s, p, _, HS.out, HP.out, rfl, rfl⟩
set_option maxHeartbeats 1000000 in
theorem secsr_no (x : Nat) (m : Int) (hm : m < 1 ∨ 4 < m) (w : World) : Calls Try.prog 29 #[.float .f64 x, .int .i64 m] w fun e w' => e = .returned (.tuple #[.int .i64 0, .int .i64 4]) ∧ ∃ n, w' = w.drewN n := by
  obtain ⟨s, n1, hs, r1⟩ := Fl.fop_run Try.prog .sub (.inr (.inl rfl)) 22 x Fl.zero w
  obtain ⟨p, n2, hp, r2⟩ := Fl.fop_run Try.prog .mul (.inr (.inr (.inl rfl))) 22 s Fl.day (w.drewN n1)
  clear hs hp
  unfold Fl.zero at r1
  unfold Fl.day at r2
  have HM := Lib.hid hm; clear hm
  go_enter Try.func29, Try.ntmps29
  go_wp2_with fail
  refine (wholer_no p m HM.out _).mono ?_; rintro e w1 ⟨rfl, rfl⟩
  go_wp2
  go_ret2
  exact ⟨rfl, _, rfl⟩
theorem secs_of {x : Nat} {m : Int} {w w' : World} {e : Ending} (h : SecsP x m w e w') : Two (Fl.wv (Fl.wayOf m) (Fl.cop .mul (Fl.cop .sub x Fl.zero) Fl.day)) (Fl.ww (Fl.wayOf m) (Fl.cop .mul (Fl.cop .sub x Fl.zero) Fl.day)) w e w' := by
  obtain ⟨s, p, n, hs, hp, rfl, rfl⟩ := h
  obtain ⟨e1, e2⟩ := Fl.wv_eqv (way := Fl.wayOf m) (hp.eqv (.inr (.inr (.inl rfl))) hs.cop)
  rw [e1, e2]
  exact ⟨rfl, n, rfl⟩
/-- Both tell one pair. -/
theorem secs_pair (x : Nat) (m : Int) : ∃ n y, (∀ w, Calls Try.prog 28 #[.float .f64 x, .int .i64 m] w (Two n y w)) ∧ (∀ w, Calls Try.prog 29 #[.float .f64 x, .int .i64 m] w (Two n y w)) := by
  by_cases hm : m < 1 ∨ 4 < m
  · exact ⟨0, 4, fun w => jul_secs_no x m hm w, fun w => secsr_no x m hm w⟩
  · exact ⟨_, _, fun w => (jul_secs x m (by omega) (by omega) w).mono fun _ _ h => secs_of h, fun w => (secsr_any x m (by omega) (by omega) w).mono fun _ _ h => secs_of h⟩
set_option maxHeartbeats 1000000 in
theorem partsr_any (x : Nat) (hx : x < 18446744073709551616) (w : World) : Calls Try.prog 31 #[.float .f64 x] w (PartsP x w) := by
  have HX := Lib.hid hx; clear hx
  go_enter Try.func31, Try.ntmps31
  go_wp2_with fail
  refine (roundr_ok x 1 HX.out (by decide) (by decide) _).mono ?_; rintro e w1 ⟨y, hy, rfl, rfl⟩
  have HY := Lib.hid hy; clear hy
  obtain ⟨r, n1, hr, r1⟩ := Fl.fop_run Try.prog .sub (.inr (.inl rfl)) 22 x y w
  have HR := Lib.hid hr; clear hr
  go_wp2
  go_ret2
  exact ⟨y, r, _, HY.out, HR.out, rfl, rfl⟩
set_option maxHeartbeats 1000000 in
theorem modr_any (x : Nat) (w : World) : Calls Try.prog 35 #[.float .f64 x] w (ModP x w) := by
  obtain ⟨r, n1, hr, r1⟩ := Fl.fop_run Try.prog .sub (.inr (.inl rfl)) 22 x 4702408373176369152 w
  have HR := Lib.hid hr; clear hr
  go_enter Try.func35, Try.ntmps35
  go_wp2
  go_ret
  exact ⟨r, _, HR.out, rfl, rfl⟩
set_option maxHeartbeats 1000000 in
theorem julr_of (t : Int) (h0 : -9223372036854775808 ≤ t) (h1 : t ≤ 9223372036854775807) (w : World) : Calls Try.prog 33 #[.int .i64 t] w fun e w' => e = .returned (.float .f64 (Fl.jdB t)) ∧ w = w' := by
  obtain ⟨a, ha, hb⟩ := Fl.jd_some h0 h1
  have r1 : ∀ w, (binOp .quo 22 (.float .f64 (floatOfInt .f64 t)) (.float .f64 4680673776000565248)).run Try.prog w = .ok (.float .f64 a) w := fun w => run_float_arith w .quo _ .f64 _ _ _ ha
  have r2 : ∀ w, (binOp .add 22 (.float .f64 a) (.float .f64 4702495533095190528)).run Try.prog w = .ok (.float .f64 (Fl.jdB t)) w := fun w => run_float_arith w .add _ .f64 _ _ _ hb
  clear ha hb h0 h1
  go_enter Try.func33, Try.ntmps33
  go_wp2
  go_ret
  exact ⟨rfl, rfl⟩
theorem jd_lt {t : Int} (h0 : -9223372036854775808 ≤ t) (h1 : t ≤ 9223372036854775807) : Fl.jdB t < 18446744073709551616 := by
  obtain ⟨a, ha, hb⟩ := Fl.jd_some h0 h1
  exact Fl.some_lt hb
set_option maxHeartbeats 4000000 in
set_option maxRecDepth 100000 in
theorem jtells_walk (t : Int) (x : Nat) (m : Int) (w : World) (ht : -9223372036854775808 ≤ t ∧ t ≤ 9223372036854775807) (hx : x < 18446744073709551616) :
    Calls Try.prog 6 #[.int .i64 t, .float .f64 x, .int .i64 m] w fun e w' => e = .returned (.bool true) ∧ Below w.heap.size w w' := by
  obtain ⟨n, y, S1, S2⟩ := secs_pair x m
  have HX := Lib.hid hx
  have HT := Lib.hid ht
  have HJ := Lib.hid (jd_lt ht.1 ht.2)
  have S1 := Lib.hid S1
  have S2 := Lib.hid S2
  generalize hd : Fl.jdB t = d at HJ
  have HD := Lib.hid hd
  clear hx ht hd
  go_enter Try.func6, Try.ntmps6
  go_wp2_with fail
  refine (S1.out _).mono ?_; rintro e w1 ⟨rfl, k1, rfl⟩
  go_wp2_with fail
  refine (S2.out _).mono ?_; rintro e w1 ⟨rfl, k2, rfl⟩
  go_wp2_with fail
  refine (jul_parts x HX.out _).mono ?_; rintro e w1 ⟨y1, r1, k3, hy1, hr1, rfl, rfl⟩
  have Y1 := Lib.hid hy1; have R1 := Lib.hid hr1
  clear hy1 hr1
  go_wp2_with fail
  refine (partsr_any x HX.out _).mono ?_; rintro e w1 ⟨y2, r2, k4, hy2, hr2, rfl, rfl⟩
  have Y2 := Lib.hid hy2; have R2 := Lib.hid hr2
  clear hy2 hr2
  go_wp2_with fail
  refine (jul_of t HT.out.1 HT.out.2 _).mono ?_; rintro e w1 ⟨rfl, rfl⟩
  rw [HD.out]
  go_wp2_with fail
  refine (julr_of t HT.out.1 HT.out.2 _).mono ?_; rintro e w1 ⟨rfl, rfl⟩
  rw [HD.out]
  go_wp2_with fail
  refine (samer_any d d HJ.out HJ.out _).mono ?_; rintro e w1 ⟨rfl, rfl⟩
  rw [show Fl.sameB d d = true from Fl.sameB_of (Fl.Eqv.refl HJ.out) (Fl.Eqv.refl HJ.out)]
  go_wp2_with fail
  refine (jul_mod x _).mono ?_; rintro e w1 ⟨a, k5, ha, rfl, rfl⟩
  have HA := Lib.hid ha; clear ha
  go_wp2_with fail
  refine (modr_any x _).mono ?_; rintro e w1 ⟨b, k6, hb, rfl, rfl⟩
  have HB := Lib.hid hb; clear hb
  go_wp2_with fail
  refine (samer_any a b HA.out.1 HB.out.1 _).mono ?_; rintro e w1 ⟨rfl, rfl⟩
  rw [show Fl.sameB a b = true from Fl.sameB_of HA.out.cop HB.out.cop]
  go_wp2_with fail
  refine (samer_any y1 y2 Y1.out.1 Y2.out.1 _).mono ?_; rintro e w1 ⟨rfl, rfl⟩
  rw [show Fl.sameB y1 y2 = true from Fl.sameB_of Y1.out.crd Y2.out.crd]
  go_wp2_with fail
  refine (samer_any r1 r2 R1.out.1 R2.out.1 _).mono ?_; rintro e w1 ⟨rfl, rfl⟩
  rw [show Fl.sameB r1 r2 = true from Fl.sameB_of (R1.out.eqv2 (.inr (.inl rfl)) Y1.out.crd) (R2.out.eqv2 (.inr (.inl rfl)) Y2.out.crd)]
  go_wp2_with fail
  refine (lives8 _).mono ?_; rintro e w1 ⟨rfl, b1⟩
  go_wp2
  go_ret
  exact ⟨rfl, below_step (by repeat (first | exact Below.refl _ _ | refine below_drewN ?_ _)) b1⟩
end Go.Proofs.Ytpjddkcoolggaab
