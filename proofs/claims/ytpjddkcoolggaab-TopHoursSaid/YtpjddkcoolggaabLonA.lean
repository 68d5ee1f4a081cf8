/- The contracts of lon's functions, and of their reference's. -/
import Derived.Test.YtpjddkcoolggaabFe
set_option linter.unusedVariables false
set_option linter.unusedSimpArgs false
namespace Go.Proofs.Ytpjddkcoolggaab
open Go.RowKit

namespace Fl
/-- Is a longitude beyond the ends? -/
def lb (x : Nat) : Bool := FloatKind.f64.format.order x 13863909240395005952 == some Ordering.lt
def la (x : Nat) : Bool := FloatKind.f64.format.order x 4640537203540230144 == some Ordering.gt
/-- Why a longitude may not be: what is wrong of it, 0: nothing. -/
def lw (x : Nat) : Int := if nan x then 18 else if lb x || la x then 1 else 0
theorem lb_nan {x : Nat} (h : nan x = true) : lb x = false ∧ la x = false := by
  constructor
  · show (Ieee.double.order x 13863909240395005952 == some Ordering.lt) = false
    rw [order_nan1 (nan_true.1 h)]; rfl
  · show (Ieee.double.order x 4640537203540230144 == some Ordering.gt) = false
    rw [order_nan1 (nan_true.1 h)]; rfl
end Fl
/-- What a longitude, and what was made of it, come to: refused, or a whole number. -/
def lonV (x p : Nat) (m : Int) : Int := if m < 1 ∨ 4 < m then 0 else if Fl.ww (Fl.wayOf m) p = 0 then (if Fl.lb x || Fl.la x then 0 else Fl.wv (Fl.wayOf m) p) else 0
def lonW (x p : Nat) (m : Int) : Int := if m < 1 ∨ 4 < m then 4 else if Fl.ww (Fl.wayOf m) p = 0 then (if Fl.lb x || Fl.la x then 1 else 0) else Fl.ww (Fl.wayOf m) p
set_option maxHeartbeats 1000000 in
theorem lonwhole_any (x p : Nat) (m : Int) (hp : p < 18446744073709551616) (w : World) : Calls Try.prog 82 #[.float .f64 x, .float .f64 p, .int .i64 m] w fun e w' => e = .returned (.tuple #[.int .i64 (lonV x p m), .int .i64 (lonW x p m)]) ∧ ∃ n, w' = w.drewN n := by
  by_cases hm : m < 1 ∨ 4 < m
  · have e1 : lonV x p m = 0 := by unfold lonV; rw [if_pos hm]
    have e2 : lonW x p m = 4 := by unfold lonW; rw [if_pos hm]
    rw [e1, e2]
    have HM := Lib.hid hm; clear hm e1 e2
    go_enter Try.func82, Try.ntmps82
    go_wp2_with fail
    refine (whole_no p m HM.out _).mono ?_; rintro e w1 ⟨rfl, rfl⟩
    go_wp2
    go_ret2
    exact ⟨rfl, 0, rfl⟩
  · have h1 : 1 ≤ m := by omega
    have h4 : m ≤ 4 := by omega
    have HP := Lib.hid hp
    by_cases hw : Fl.ww (Fl.wayOf m) p = 0
    · have e1 : lonV x p m = (if Fl.lb x || Fl.la x then 0 else Fl.wv (Fl.wayOf m) p) := by unfold lonV; rw [if_neg hm, if_pos hw]
      have e2 : lonW x p m = (if Fl.lb x || Fl.la x then 1 else 0) := by unfold lonW; rw [if_neg hm, if_pos hw]
      rw [e1, e2]
      have HW := Lib.hid hw
      clear hm e1 e2 hw hp
      obtain ⟨b, hb⟩ : ∃ b, Fl.lb x = b := ⟨_, rfl⟩
      obtain ⟨a, ha⟩ : ∃ a, Fl.la x = a := ⟨_, rfl⟩
      have t1 : (FloatKind.f64.format.order x 13863909240395005952 == some Ordering.lt) = b := hb
      have t2 : (FloatKind.f64.format.order x 4640537203540230144 == some Ordering.gt) = a := ha
      rw [hb, ha]
      clear hb ha
      cases b <;> cases a
      all_goals
        go_enter Try.func82, Try.ntmps82
        go_wp2_with fail
        refine (whole_any p m HP.out h1 h4 _).mono ?_; rintro e w1 ⟨rfl, n, rfl⟩
        rw [HW.out]
        go_wp2
        go_ret2
        exact ⟨rfl, n, rfl⟩
    · have e1 : lonV x p m = 0 := by unfold lonV; rw [if_neg hm, if_neg hw]
      have e2 : lonW x p m = Fl.ww (Fl.wayOf m) p := by unfold lonW; rw [if_neg hm, if_neg hw]
      rw [e1, e2]
      generalize hq : Fl.ww (Fl.wayOf m) p = q at hw
      have HW := Lib.hid hq
      have t0 : (q != 0) = true := by rw [bne_iff_ne]; exact hw
      clear hm e1 e2 hw hp hq
      go_enter Try.func82, Try.ntmps82
      go_wp2_with fail
      refine (whole_any p m HP.out h1 h4 _).mono ?_; rintro e w1 ⟨rfl, n, rfl⟩
      rw [HW.out]
      go_wp2
      go_ret2
      exact ⟨rfl, n, rfl⟩
/-- The word of 240, of 15, of 180, of 360. -/
def c240 : Nat := 4642648265865560064
def c15 : Nat := 4624633867356078080
def c180 : Nat := 4640537203540230144
def c360 : Nat := 4645040803167600640
theorem lon_eqv {x p p' : Nat} {m : Int} (h : Fl.Eqv p p') : lonV x p m = lonV x p' m ∧ lonW x p m = lonW x p' m := by
  obtain ⟨e1, e2⟩ := Fl.wv_eqv (way := Fl.wayOf m) h
  unfold lonV lonW
  rw [e1, e2]; exact ⟨rfl, rfl⟩
/-- A call that answers two values, and at most draws. -/
def TwoL (n y : Int) (w : World) (e : Ending) (w' : World) : Prop := e = .returned (.tuple #[.int .i64 n, .int .i64 y]) ∧ ∃ k, w' = w.drewN k
set_option maxHeartbeats 1000000 in
theorem lonoff_any (x : Nat) (m : Int) (w : World) : Calls Try.prog 37 #[.float .f64 x, .int .i64 m] w (TwoL (lonV x (Fl.cop .mul x c240) m) (lonW x (Fl.cop .mul x c240) m) w) := by
  obtain ⟨p, n2, hp, r2⟩ := Fl.fop_run Try.prog .mul (.inr (.inr (.inl rfl))) 22 x c240 w
  have HE := Lib.hid (lon_eqv (x := x) (m := m) hp.cop)
  have HP := Lib.hid hp.1
  rw [← HE.out.1, ← HE.out.2]
  clear hp HE
  unfold c240 at r2
  go_enter Try.func37, Try.ntmps37
  go_wp2_with fail
  refine (lonwhole_any x p m HP.out _).mono ?_; rintro e w1 ⟨rfl, k, rfl⟩
  go_wp2
  go_ret2
  exact ⟨rfl, _, rfl⟩
set_option maxHeartbeats 1000000 in
theorem lonhours_any (x : Nat) (w : World) : Calls Try.prog 41 #[.float .f64 x] w (TwoL (lonV x (Fl.cop .quo x c15) 4) (lonW x (Fl.cop .quo x c15) 4) w) := by
  obtain ⟨p, n2, hp, r2⟩ := Fl.fop_run Try.prog .quo (.inr (.inr (.inr rfl))) 22 x c15 w
  have HE := Lib.hid (lon_eqv (x := x) (m := 4) hp.cop)
  have HP := Lib.hid hp.1
  rw [← HE.out.1, ← HE.out.2]
  clear hp HE
  unfold c15 at r2
  go_enter Try.func41, Try.ntmps41
  go_wp2_with fail
  refine (lonwhole_any x p 4 HP.out _).mono ?_; rintro e w1 ⟨rfl, k, rfl⟩
  go_wp2
  go_ret2
  exact ⟨rfl, _, rfl⟩
end Go.Proofs.Ytpjddkcoolggaab
