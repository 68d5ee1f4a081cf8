/- The contracts of julian's functions, and of real.Of. -/
import Derived.Test.YtpjddkcoolggaabJulM
set_option linter.unusedVariables false
set_option linter.unusedSimpArgs false
namespace Go.Proofs.Ytpjddkcoolggaab
open Go.RowKit

namespace Fl
open Ieee
/-- A second's day number. -/
def jdB (t : Int) : Nat := ((floatBits .quo .f64 (FloatKind.f64.nearest t) day).bind fun a => floatBits .add .f64 a zero).getD 0
theorem val_top : val 4890909195324358656 = 9223372036854775808 * U := by
  have h := V_hi
  have e : V 4890909195324358656 = (val 4890909195324358656 : Int) := by unfold V; rw [show ng 4890909195324358656 = false by decide, show rg 4890909195324358656 = 4890909195324358656 by decide]; rfl
  rw [e] at h
  omega
theorem near_int_fin {n : Int} (h0 : -9223372036854775808 ≤ n) (h1 : n ≤ 9223372036854775807) : fin (FloatKind.f64.nearest n) ∧ FloatKind.f64.nearest n < 18446744073709551616 := by
  obtain ⟨R, hR, hn⟩ := int_near n
  have hz : (4890909195324358656 : Nat) < inf := by decide
  have hRi : R < inf := near_fin hn hz (by
    rw [val_top, Nat.mul_one]
    exact Nat.mul_le_mul_right _ (by omega))
  rw [hR, Nat.min_eq_left (Nat.le_of_lt hRi)]
  exact ⟨fin_wd hRi, wd_lt (rung_small hRi)⟩
theorem rg_day : rg day = day := by decide
theorem jd_some {t : Int} (h0 : -9223372036854775808 ≤ t) (h1 : t ≤ 9223372036854775807) : ∃ a, floatBits .quo .f64 (FloatKind.f64.nearest t) day = some a ∧ floatBits .add .f64 a zero = some (jdB t) := by
  obtain ⟨f, _⟩ := near_int_fin h0 h1
  obtain ⟨R, hR, hn⟩ := div_near f fin_day (by decide)
  have hRi : R < inf := near_fin (z := rg (FloatKind.f64.nearest t)) hn f (by
    rw [rg_day, val_day]
    exact Nat.mul_le_mul_left _ (by have := U_pos; omega))
  rw [Nat.min_eq_left (Nat.le_of_lt hRi)] at hR
  obtain ⟨S, hS, -⟩ := add_near (fin_wd hRi (s := ng (FloatKind.f64.nearest t) ^^ ng day)) fin_zero
  refine ⟨_, hR, ?_⟩
  have e : floatBits .add .f64 (wd (ng (FloatKind.f64.nearest t) ^^ ng day) R) zero = some _ := hS
  unfold jdB
  have e2 : floatBits .quo .f64 (FloatKind.f64.nearest t) day = some _ := hR
  rw [e2, Option.bind_some, e]
  rfl
theorem some_lt {op : BinOp} {x y r : Nat} (h : floatBits op .f64 x y = some r) : r < 18446744073709551616 := by
  have hw := floatBits_wf h
  have : r < 2 ^ 64 := by simpa [Lit.wf] using hw
  rw [show (2 : Nat) ^ 64 = 18446744073709551616 by decide] at this
  exact this
end Fl

set_option maxHeartbeats 1000000 in
theorem real_of (t : Int) (w : World) : Calls Try.prog 27 #[.int .i64 t] w fun e w' => e = .returned (.float .f64 (FloatKind.f64.nearest t)) ∧ w = w' := by
  go_enter Try.func27, Try.ntmps27
  go_wp2
  go_ret
  exact ⟨rfl, rfl⟩
set_option maxHeartbeats 1000000 in
theorem jul_of (t : Int) (h0 : -9223372036854775808 ≤ t) (h1 : t ≤ 9223372036854775807) (w : World) : Calls Try.prog 32 #[.int .i64 t] w fun e w' => e = .returned (.float .f64 (Fl.jdB t)) ∧ w = w' := by
  obtain ⟨a, ha, hb⟩ := Fl.jd_some h0 h1
  have r1 : ∀ w, (binOp .quo 22 (.float .f64 (FloatKind.f64.nearest t)) (.float .f64 4680673776000565248)).run Try.prog w = .ok (.float .f64 a) w := fun w => run_float_arith w .quo _ .f64 _ _ _ ha
  have r2 : ∀ w, (binOp .add 22 (.float .f64 a) (.float .f64 4702495533095190528)).run Try.prog w = .ok (.float .f64 (Fl.jdB t)) w := fun w => run_float_arith w .add _ .f64 _ _ _ hb
  clear ha hb h0 h1
  go_enter Try.func32, Try.ntmps32
  go_wp2_with fail
  refine (real_of _ _).mono ?_; rintro e w1 ⟨rfl, rfl⟩
  go_wp2
  go_ret
  exact ⟨rfl, rfl⟩
set_option maxHeartbeats 1000000 in
theorem jul_nought (w : World) : Calls Try.prog 81 #[] w fun e w' => e = .returned (.float .f64 4702495533095190528) ∧ w = w' := by
  go_enter Try.func81, Try.ntmps81
  go_wp2
  go_ret
  exact ⟨rfl, rfl⟩
/-- What Secs answers. -/
def SecsP (x : Nat) (m : Int) (w : World) (e : Ending) (w' : World) : Prop := ∃ s p n, Fl.FOp .sub x Fl.zero s ∧ Fl.FOp .mul s Fl.day p ∧ e = .returned (.tuple #[.int .i64 (Fl.wv (Fl.wayOf m) p), .int .i64 (Fl.ww (Fl.wayOf m) p)]) ∧ w' = w.drewN n
set_option maxHeartbeats 1000000 in
theorem jul_secs (x : Nat) (m : Int) (m1 : 1 ≤ m) (m4 : m ≤ 4) (w : World) : Calls Try.prog 28 #[.float .f64 x, .int .i64 m] w (SecsP x m w) := by
  obtain ⟨s, n1, hs, r1⟩ := Fl.fop_run Try.prog .sub (.inr (.inl rfl)) 22 x Fl.zero w
  obtain ⟨p, n2, hp, r2⟩ := Fl.fop_run Try.prog .mul (.inr (.inr (.inl rfl))) 22 s Fl.day (w.drewN n1)
  have HS := Lib.hid hs; have HP := Lib.hid hp
  clear hs hp
  unfold Fl.zero at r1
  unfold Fl.day at r2
  go_enter Try.func28, Try.ntmps28
  go_wp2_with fail
  refine (jul_nought _).mono ?_; rintro e w1 ⟨rfl, rfl⟩
  go_wp2_with fail
  refine (whole_any p m HP.out.1 m1 m4 _).mono ?_; rintro e w1 ⟨rfl, n3, rfl⟩
  go_wp2
  go_ret2
  exact ⟨s, p, _, HS.out, HP.out, rfl, rfl⟩
set_option maxHeartbeats 1000000 in
theorem whole_no (x : Nat) (m : Int) (hm : m < 1 ∨ 4 < m) (w : World) : Calls Try.prog 15 #[.float .f64 x, .int .i64 m] w fun e w' => e = .returned (.tuple #[.int .i64 0, .int .i64 4]) ∧ w = w' := by
  go_enter Try.func15, Try.ntmps15
  go_wp2_with fail
  refine (round_no x m hm _).mono ?_; rintro e w1 ⟨rfl, rfl⟩
  go_wp2
  go_ret2
  exact ⟨rfl, rfl⟩
set_option maxHeartbeats 1000000 in
theorem jul_secs_no (x : Nat) (m : Int) (hm : m < 1 ∨ 4 < m) (w : World) : Calls Try.prog 28 #[.float .f64 x, .int .i64 m] w fun e w' => e = .returned (.tuple #[.int .i64 0, .int .i64 4]) ∧ ∃ n, w' = w.drewN n := by
  obtain ⟨s, n1, hs, r1⟩ := Fl.fop_run Try.prog .sub (.inr (.inl rfl)) 22 x Fl.zero w
  obtain ⟨p, n2, hp, r2⟩ := Fl.fop_run Try.prog .mul (.inr (.inr (.inl rfl))) 22 s Fl.day (w.drewN n1)
  clear hs hp
  unfold Fl.zero at r1
  unfold Fl.day at r2
  have HM := Lib.hid hm; clear hm
  go_enter Try.func28, Try.ntmps28
  go_wp2_with fail
  refine (jul_nought _).mono ?_; rintro e w1 ⟨rfl, rfl⟩
  go_wp2_with fail
  refine (whole_no p m HM.out _).mono ?_; rintro e w1 ⟨rfl, rfl⟩
  go_wp2
  go_ret2
  exact ⟨rfl, _, rfl⟩
/-- What Parts answers. -/
def PartsP (x : Nat) (w : World) (e : Ending) (w' : World) : Prop := ∃ y r n, Fl.Rd .down x y ∧ Fl.FOp .sub x y r ∧ e = .returned (.tuple #[.float .f64 y, .float .f64 r]) ∧ w' = w.drewN n
set_option maxHeartbeats 1000000 in
theorem jul_parts (x : Nat) (hx : x < 18446744073709551616) (w : World) : Calls Try.prog 30 #[.float .f64 x] w (PartsP x w) := by
  have HX := Lib.hid hx; clear hx
  go_enter Try.func30, Try.ntmps30
  go_wp2_with fail
  refine (round_down x HX.out _).mono ?_; rintro e w1 ⟨y, n, hy, rfl, rfl⟩
  have HY := Lib.hid hy; clear hy
  obtain ⟨r, n1, hr, r1⟩ := Fl.fop_run Try.prog .sub (.inr (.inl rfl)) 22 x y (w.drewN n)
  have HR := Lib.hid hr; clear hr
  go_wp2
  go_ret2
  exact ⟨y, r, _, HY.out, HR.out, rfl, rfl⟩
/-- What Modified answers. -/
def ModP (x : Nat) (w : World) (e : Ending) (w' : World) : Prop := ∃ r n, Fl.FOp .sub x 4702408373176369152 r ∧ e = .returned (.float .f64 r) ∧ w' = w.drewN n
set_option maxHeartbeats 1000000 in
theorem jul_mod (x : Nat) (w : World) : Calls Try.prog 34 #[.float .f64 x] w (ModP x w) := by
  obtain ⟨r, n1, hr, r1⟩ := Fl.fop_run Try.prog .sub (.inr (.inl rfl)) 22 x 4702408373176369152 w
  have HR := Lib.hid hr; clear hr
  go_enter Try.func34, Try.ntmps34
  go_wp2
  go_ret
  exact ⟨r, _, HR.out, rfl, rfl⟩
end Go.Proofs.Ytpjddkcoolggaab
