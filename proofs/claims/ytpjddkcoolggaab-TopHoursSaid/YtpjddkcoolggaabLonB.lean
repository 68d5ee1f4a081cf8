/- The contracts of lon's functions, and of their reference's: the rest. -/
import Derived.Test.YtpjddkcoolggaabLonA
set_option linter.unusedVariables false
set_option linter.unusedSimpArgs false
namespace Go.Proofs.Ytpjddkcoolggaab
open Go.RowKit

namespace Fl
theorem val_180 : val 4640537203540230144 = 180 * U := by
  have h : val 4640537203540230144 = 6333186975989760 * 2 ^ 1029 := valK 1029 6333186975989760 (.inr (by decide)) (by decide)
  have h2 : 6333186975989760 * 2 ^ 1029 = 180 * U := u_mul 1029 45 6333186975989760 180 rfl (by decide)
  exact h.trans h2
theorem fin_180 : fin 4640537203540230144 ∧ fin 13863909240395005952 := by constructor <;> (unfold fin; decide)
theorem V_180 : V 4640537203540230144 = 180 * (U : Int) ∧ V 13863909240395005952 = -(180 * (U : Int)) := by
  have h := val_180
  constructor
  · unfold V; rw [show ng 4640537203540230144 = false by decide, show rg 4640537203540230144 = 4640537203540230144 by decide]; simp only [Bool.false_eq_true, if_false]; omega
  · unfold V; rw [show ng 13863909240395005952 = true by decide, show rg 13863909240395005952 = 4640537203540230144 by decide]; simp only [if_true]; omega
theorem fin_c : fin c240 ∧ fin c15 := by constructor <;> (unfold fin; decide)
theorem nan_min (s : Bool) (R : Nat) : nan (wd s (min R inf)) = false := by
  have hi : inf = 9218868437227405312 := rfl
  refine nan_false.2 ?_
  rw [rg_wd (by omega)]; omega
theorem cop_mul_nan {x : Nat} (hx : x < 18446744073709551616) (h : nan x = false) : nan (cop .mul x c240) = false := by
  rcases five hx with h1 | rfl | rfl | rfl | rfl | ⟨f, h0⟩
  · rw [h] at h1; cases h1
  · decide +kernel
  · decide +kernel
  · decide +kernel
  · decide +kernel
  · obtain ⟨R, hR, _⟩ := mul_near f fin_c.1
    have e : floatBits .mul .f64 x c240 = some (wd (ng x ^^ ng c240) (min R inf)) := hR
    unfold cop
    rw [e]
    exact nan_min _ _
theorem in_180 {x : Nat} (hx : x < 18446744073709551616) (h : nan x = false) (hb : lb x = false) (ha : la x = false) : fin x ∧ val (rg x) ≤ 180 * U := by
  have key : fin x → fin x ∧ val (rg x) ≤ 180 * U := by
    intro f
    refine ⟨f, ?_⟩
    have b : decide (V x < V 13863909240395005952) = false := (ord_lt f fin_180.2).symm.trans hb
    have a : decide (V 4640537203540230144 < V x) = false := (ord_gt f fin_180.1).symm.trans ha
    rw [V_180.2, decide_eq_false_iff_not] at b
    rw [V_180.1, decide_eq_false_iff_not] at a
    have := V_natAbs x
    omega
  rcases five hx with h1 | rfl | rfl | rfl | rfl | ⟨f, h0⟩
  · rw [h] at h1; cases h1
  · exact absurd ha (by decide +kernel)
  · exact absurd hb (by decide +kernel)
  · exact key fin_00
  · exact key (by unfold fin; decide)
  · exact key f
theorem quo15_ww {x : Nat} (hx : fin x) (hv : val (rg x) ≤ 180 * U) : ww (wayOf 4) (cop .quo x c15) = 0 := by
  obtain ⟨R, hR, hn⟩ := div_near hx fin_c.2 (by decide)
  have hU := U_pos
  have h15 : U ≤ val (rg c15) := by
    have e : rg c15 = 4624633867356078080 := by decide
    rw [e]
    have h : val 4607182418800017408 = 4503599627370496 * 2 ^ 1022 := valK 1022 4503599627370496 (.inr (by decide)) (by decide)
    have h2 : 4503599627370496 * 2 ^ 1022 = 1 * U := u_mul 1022 52 4503599627370496 1 rfl (by decide)
    have h3 := val_le.2 (show 4607182418800017408 ≤ 4624633867356078080 by decide)
    rw [h, h2] at h3
    omega
  have hle : R ≤ rg x := hn.hi _ (Nat.mul_le_mul_left _ h15)
  have hRi : R < inf := Nat.lt_of_le_of_lt hle hx
  rw [Nat.min_eq_left (Nat.le_of_lt hRi)] at hR
  have e : floatBits .quo .f64 x c15 = some (wd (ng x ^^ ng c15) R) := hR
  have ec : cop .quo x c15 = wd (ng x ^^ ng c15) R := by unfold cop; rw [e]; rfl
  rw [ec]
  have f := fin_wd hRi (s := ng x ^^ ng c15)
  have hr : rg (wd (ng x ^^ ng c15) R) = R := rg_wd (rung_small hRi)
  generalize wd (ng x ^^ ng c15) R = p at *
  have hw := (whole_le (wayOf 4) (ng p) (val (rg p))).2
  have hq : val (rg p) / U ≤ 180 := by
    have := val_le.2 hle
    rw [hr]
    exact Nat.le_of_lt_succ ((Nat.div_lt_iff_lt_mul hU).2 (by omega))
  have ha := wn_abs (wayOf 4) p
  unfold ww
  rw [fin_nan f, if_neg (by decide), if_pos ⟨f, by omega, by omega⟩]
theorem cop_nan {op : BinOp} (hop : op = .add ∨ op = .sub ∨ op = .mul ∨ op = .quo) {x y : Nat} (h : nan x = true) : cop op x y = 9221120237041090560 := by
  unfold cop; rw [arith_nan1 hop h]; rfl
end Fl
set_option maxHeartbeats 1000000 in
theorem fits_any (x : Nat) (hx : x < 18446744073709551616) (w : World) : Calls Try.prog 83 #[.float .f64 x] w fun e w' => e = .returned (.int .i64 (Fl.lw x)) ∧ w = w' := by
  have HX := Lib.hid hx; clear hx
  cases hn : Fl.nan x
  · have t0 := kd_ne0 hn
    obtain ⟨b, hb⟩ : ∃ b, Fl.lb x = b := ⟨_, rfl⟩
    obtain ⟨a, ha⟩ : ∃ a, Fl.la x = a := ⟨_, rfl⟩
    have t1 : (FloatKind.f64.format.order x 13863909240395005952 == some Ordering.lt) = b := hb
    have t2 : (FloatKind.f64.format.order x 4640537203540230144 == some Ordering.gt) = a := ha
    have e : Fl.lw x = if b || a then 1 else 0 := by unfold Fl.lw; rw [hn, hb, ha]; rfl
    rw [e]
    clear hb ha hn e
    cases b <;> cases a
    all_goals
      go_enter Try.func83, Try.ntmps83
      go_wp2_with fail
      refine (kindr_any x HX.out _).mono ?_; rintro e w1 ⟨rfl, rfl⟩
      go_wp2
      go_ret
      exact ⟨rfl, rfl⟩
  · have e : Fl.lw x = 18 := by unfold Fl.lw; rw [hn]; rfl
    have HK := Lib.hid (Fl.kd_nan2 hn)
    rw [e]
    clear hn e
    go_enter Try.func83, Try.ntmps83
    go_wp2_with fail
    refine (kindr_any x HX.out _).mono ?_; rintro e w1 ⟨rfl, rfl⟩
    rw [HK.out]
    go_wp2
    go_ret
    exact ⟨rfl, rfl⟩
theorem lonV_in {x p : Nat} {m : Int} (h1 : 1 ≤ m) (h4 : m ≤ 4) : lonV x p m = if Fl.ww (Fl.wayOf m) p = 0 then (if Fl.lb x || Fl.la x then 0 else Fl.wv (Fl.wayOf m) p) else 0 := by unfold lonV; rw [if_neg (by omega)]
theorem lonW_in {x p : Nat} {m : Int} (h1 : 1 ≤ m) (h4 : m ≤ 4) : lonW x p m = if Fl.ww (Fl.wayOf m) p = 0 then (if Fl.lb x || Fl.la x then 1 else 0) else Fl.ww (Fl.wayOf m) p := by unfold lonW; rw [if_neg (by omega)]
/-- What a longitude comes to, by what is wrong of it. -/
theorem lon_nan {op : BinOp} (hop : op = .add ∨ op = .sub ∨ op = .mul ∨ op = .quo) {x c : Nat} {m : Int} (h : Fl.nan x = true) (h1 : 1 ≤ m) (h4 : m ≤ 4) : lonV x (Fl.cop op x c) m = 0 ∧ lonW x (Fl.cop op x c) m = 18 := by
  rw [Fl.cop_nan hop h]
  have e : Fl.ww (Fl.wayOf m) 9221120237041090560 = 18 := by unfold Fl.ww; rw [Fl.nan_q, if_pos rfl]
  rw [lonV_in h1 h4, lonW_in h1 h4, e]
  exact ⟨rfl, rfl⟩
theorem ww_01 {way : Ieee.Toward} {p : Nat} (h : Fl.nan p = false) : Fl.ww way p = 0 ∨ Fl.ww way p = 1 := by
  unfold Fl.ww; rw [h]; simp only [Bool.false_eq_true, if_false]; split <;> simp
theorem wv_0 {way : Ieee.Toward} {p : Nat} (h : Fl.ww way p ≠ 0) : Fl.wv way p = 0 := by unfold Fl.wv; rw [if_neg h]
set_option maxHeartbeats 1000000 in
theorem lonoffr_any (x : Nat) (m : Int) (hx : x < 18446744073709551616) (w : World) : Calls Try.prog 38 #[.float .f64 x, .int .i64 m] w (TwoL (lonV x (Fl.cop .mul x c240) m) (lonW x (Fl.cop .mul x c240) m) w) := by
  have HX := Lib.hid hx
  by_cases hm : m < 1 ∨ 4 < m
  · have e1 : lonV x (Fl.cop .mul x c240) m = 0 := by unfold lonV; rw [if_pos hm]
    have e2 : lonW x (Fl.cop .mul x c240) m = 4 := by unfold lonW; rw [if_pos hm]
    rw [e1, e2]
    have HM := Lib.hid hm; clear hm e1 e2
    go_enter Try.func38, Try.ntmps38
    go_wp2_with fail
    refine (roundr_no 0 m HM.out _).mono ?_; rintro e w1 ⟨rfl, rfl⟩
    go_wp2
    go_ret2
    exact ⟨rfl, 0, rfl⟩
  · have h1 : 1 ≤ m := by omega
    have h4 : m ≤ 4 := by omega
    by_cases hw : Fl.lw x = 0
    · have hn : Fl.nan x = false := by cases h : Fl.nan x; rfl; unfold Fl.lw at hw; rw [h, if_pos rfl] at hw; exact absurd hw (by decide)
      have hl : (Fl.lb x || Fl.la x) = false := by cases h : (Fl.lb x || Fl.la x); rfl; unfold Fl.lw at hw; rw [hn, h] at hw; exact absurd hw (by decide)
      have E : Hid (lonV x (Fl.cop .mul x c240) m = Fl.wv (Fl.wayOf m) (Fl.cop .mul x c240) ∧ lonW x (Fl.cop .mul x c240) m = Fl.ww (Fl.wayOf m) (Fl.cop .mul x c240)) := Lib.hid (by
        rw [lonV_in h1 h4, lonW_in h1 h4, hl]
        by_cases h0 : Fl.ww (Fl.wayOf m) (Fl.cop .mul x c240) = 0
        · rw [if_pos h0, if_pos h0, h0]; exact ⟨rfl, rfl⟩
        · rw [if_neg h0, if_neg h0, wv_0 h0]; exact ⟨rfl, rfl⟩)
      rw [E.out.1, E.out.2]
      obtain ⟨p, n2, hp, r2⟩ := Fl.fop_run Try.prog .mul (.inr (.inr (.inl rfl))) 22 x c240 w
      have HE := Lib.hid (Fl.wv_eqv (way := Fl.wayOf m) hp.cop)
      have HP := Lib.hid hp.1
      rw [← HE.out.1, ← HE.out.2]
      have HL := Lib.hid hw
      clear hp hm hw hn hl HE
      unfold c240 at r2
      go_enter Try.func38, Try.ntmps38
      go_wp2_with fail
      refine (roundr_ok 0 m (by decide) h1 h4 _).mono ?_; rintro e w1 ⟨y, hy, rfl, rfl⟩
      clear hy
      go_wp2_with fail
      refine (fits_any x HX.out _).mono ?_; rintro e w1 ⟨rfl, rfl⟩
      rw [HL.out]
      go_wp2_with fail
      refine (wholer_any p m HP.out h1 h4 _).mono ?_; rintro e w1 ⟨rfl, rfl⟩
      go_wp2
      go_ret2
      exact ⟨rfl, _, rfl⟩
    · have E : Hid (lonV x (Fl.cop .mul x c240) m = 0 ∧ lonW x (Fl.cop .mul x c240) m = Fl.lw x) := Lib.hid (by
        cases hn : Fl.nan x
        · have hl : (Fl.lb x || Fl.la x) = true := by cases h : (Fl.lb x || Fl.la x); unfold Fl.lw at hw; rw [hn, h] at hw; exact absurd rfl hw; rfl
          have e : Fl.lw x = 1 := by unfold Fl.lw; rw [hn, hl]; rfl
          rw [e]
          rw [lonV_in h1 h4, lonW_in h1 h4, hl]
          rcases ww_01 (way := Fl.wayOf m) (Fl.cop_mul_nan hx hn) with h | h
          · rw [h]; exact ⟨rfl, rfl⟩
          · rw [h]; exact ⟨rfl, rfl⟩
        · have e : Fl.lw x = 18 := by unfold Fl.lw; rw [hn]; rfl
          rw [e]
          exact lon_nan (.inr (.inr (.inl rfl))) hn h1 h4)
      rw [E.out.1, E.out.2]
      generalize hq : Fl.lw x = q at hw
      have HQ := Lib.hid hq
      have t0 : (q != 0) = true := by rw [bne_iff_ne]; exact hw
      clear hm hw hq E
      go_enter Try.func38, Try.ntmps38
      go_wp2_with fail
      refine (roundr_ok 0 m (by decide) h1 h4 _).mono ?_; rintro e w1 ⟨y, hy, rfl, rfl⟩
      clear hy
      go_wp2_with fail
      refine (fits_any x HX.out _).mono ?_; rintro e w1 ⟨rfl, rfl⟩
      rw [HQ.out]
      go_wp2
      go_ret2
      exact ⟨rfl, 0, rfl⟩
set_option maxHeartbeats 1000000 in
theorem lonhoursr_any (x : Nat) (hx : x < 18446744073709551616) (w : World) : Calls Try.prog 42 #[.float .f64 x] w (TwoL (lonV x (Fl.cop .quo x c15) 4) (lonW x (Fl.cop .quo x c15) 4) w) := by
  have HX := Lib.hid hx
  by_cases hw : Fl.lw x = 0
  · have hn : Fl.nan x = false := by cases h : Fl.nan x; rfl; unfold Fl.lw at hw; rw [h, if_pos rfl] at hw; exact absurd hw (by decide)
    have hl : (Fl.lb x || Fl.la x) = false := by cases h : (Fl.lb x || Fl.la x); rfl; unfold Fl.lw at hw; rw [hn, h] at hw; exact absurd hw (by decide)
    rw [Bool.or_eq_false_iff] at hl
    obtain ⟨f, hv⟩ := Fl.in_180 hx hn hl.1 hl.2
    have h0 := Fl.quo15_ww f hv
    have E : Hid (lonV x (Fl.cop .quo x c15) 4 = Fl.wv (Fl.wayOf 4) (Fl.cop .quo x c15) ∧ lonW x (Fl.cop .quo x c15) 4 = 0) := Lib.hid (by
      rw [lonV_in (by decide) (by decide), lonW_in (by decide) (by decide), hl.1, hl.2, if_pos h0, if_pos h0]; exact ⟨rfl, rfl⟩)
    rw [E.out.1, E.out.2]
    obtain ⟨p, n2, hp, r2⟩ := Fl.fop_run Try.prog .quo (.inr (.inr (.inr rfl))) 22 x c15 w
    have HE := Lib.hid (Fl.wv_eqv (way := Fl.wayOf 4) hp.cop)
    have HP := Lib.hid hp.1
    rw [← HE.out.1]
    have HL := Lib.hid hw
    clear hp hw hn hl HE f hv h0 E
    unfold c15 at r2
    go_enter Try.func42, Try.ntmps42
    go_wp2_with fail
    refine (fits_any x HX.out _).mono ?_; rintro e w1 ⟨rfl, rfl⟩
    rw [HL.out]
    go_wp2_with fail
    refine (wholer_any p 4 HP.out (by decide) (by decide) _).mono ?_; rintro e w1 ⟨rfl, rfl⟩
    go_wp2
    go_ret2
    exact ⟨rfl, _, rfl⟩
  · have E : Hid (lonV x (Fl.cop .quo x c15) 4 = 0 ∧ lonW x (Fl.cop .quo x c15) 4 = Fl.lw x) := Lib.hid (by
      cases hn : Fl.nan x
      · have hl : (Fl.lb x || Fl.la x) = true := by cases h : (Fl.lb x || Fl.la x); unfold Fl.lw at hw; rw [hn, h] at hw; exact absurd rfl hw; rfl
        have e : Fl.lw x = 1 := by unfold Fl.lw; rw [hn, hl]; rfl
        have hc : Fl.nan (Fl.cop .quo x c15) = false := by
          rcases Fl.five hx with h1 | rfl | rfl | rfl | rfl | ⟨f, h0⟩
          · rw [hn] at h1; cases h1
          · decide +kernel
          · decide +kernel
          · decide +kernel
          · decide +kernel
          · obtain ⟨R, hR, _⟩ := Fl.div_near f Fl.fin_c.2 (by decide)
            have e : floatBits .quo .f64 x c15 = some (Fl.wd (Fl.ng x ^^ Fl.ng c15) (min R Fl.inf)) := hR
            unfold Fl.cop
            rw [e]
            exact Fl.nan_min _ _
        rw [e]
        rw [lonV_in (by decide) (by decide), lonW_in (by decide) (by decide), hl]
        rcases ww_01 (way := Fl.wayOf 4) hc with h | h
        · rw [h]; exact ⟨rfl, rfl⟩
        · rw [h]; exact ⟨rfl, rfl⟩
      · have e : Fl.lw x = 18 := by unfold Fl.lw; rw [hn]; rfl
        rw [e]
        exact lon_nan (.inr (.inr (.inr rfl))) hn (by decide) (by decide))
    rw [E.out.1, E.out.2]
    generalize hq : Fl.lw x = q at hw
    have HQ := Lib.hid hq
    have t0 : (q != 0) = true := by rw [bne_iff_ne]; exact hw
    clear hw hq E
    go_enter Try.func42, Try.ntmps42
    go_wp2_with fail
    refine (fits_any x HX.out _).mono ?_; rintro e w1 ⟨rfl, rfl⟩
    rw [HQ.out]
    go_wp2
    go_ret2
    exact ⟨rfl, 0, rfl⟩
end Go.Proofs.Ytpjddkcoolggaab
