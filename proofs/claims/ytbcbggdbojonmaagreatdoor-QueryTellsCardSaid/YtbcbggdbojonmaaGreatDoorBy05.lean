/- Joined: RnA, RsA, Cal, CivA, RefA0, RefB0, Div, CivB, CivC, CivY, RefA, One, RefB. -/
import Derived.Test.YtbcbggdbojonmaaGreatDoorBy01
import Derived.Test.YtbcbggdbojonmaaGreatDoorBy02
set_option linter.unusedVariables false
set_option linter.unusedSimpArgs false
namespace Go.Proofs.YtbcbggdbojonmaaGreatDoor
open Go.RowKit
namespace Num
def dB (n : Int) : ByteArray := ⟨(Lib.decDigits n.toNat).toArray⟩
theorem one_tab : ∀ n : Fin 10, (⟨#[48, 49, 50, 51, 52, 53, 54, 55, 56, 57]⟩ : ByteArray).extract n.val (n.val + 1) = ⟨#[UInt8.ofNat (48 + n.val)]⟩ := by decide +kernel
theorem dB_one {n : Int} (h0 : 0 ≤ n) (h1 : n < 10) : (⟨#[48, 49, 50, 51, 52, 53, 54, 55, 56, 57]⟩ : ByteArray).extract n.toNat (n + 1).toNat = dB n := by
 have h := one_tab ⟨n.toNat, by omega⟩
 have e : (n + 1).toNat = n.toNat + 1 := by omega
 unfold dB
 rw [e, dec_small (by omega)]
 exact h
theorem dB_step {n : Int} (h : 10 ≤ n) : dB n = dB (n / 10) ++ dB (n % 10) := by
 unfold dB
 have e1 : (n / 10).toNat = n.toNat / 10 := by omega
 have e2 : (n % 10).toNat = n.toNat % 10 := by omega
 rw [e1, e2, dec_step (u := n.toNat) (by omega), dec_small (u := n.toNat % 10) (by omega)]
 apply ByteArray.ext
 apply Array.toList_inj.1
 rw [ByteArray.data_append, Array.toList_append]
theorem dB_size {n : Int} (h0 : 0 ≤ n) (h1 : n < 18446744073709551616) : (dB n).size ≤ 20 := by
 have := dec_short n.toNat (by omega)
 show (Lib.decDigits n.toNat).toArray.size ≤ 20
 rw [List.size_toArray]; exact this
theorem itoa_neg {n : Int} (h : n < 0) : (⟨(Lib.itoa n).toArray⟩ : ByteArray) = ⟨#[45]⟩ ++ dB (-n) := by
 unfold Lib.itoa dB
 rw [if_pos h]
 apply ByteArray.ext
 apply Array.toList_inj.1
 rw [ByteArray.data_append, Array.toList_append, show (-n).toNat = n.natAbs by omega]
 rfl
theorem itoa_pos {n : Int} (h : ¬ n < 0) : (⟨(Lib.itoa n).toArray⟩ : ByteArray) = dB n := by
 unfold Lib.itoa dB
 rw [if_neg h]
end Num
set_option maxHeartbeats 1000000 in
theorem rdg_one (n : Int) (w : World) (h0 : 0 ≤ n) (h1 : n < 10) :
  Calls Tryz.prog 62 #[.int .u64 n] w fun e w' => e = .returned (.string (Num.dB n)) ∧ Below w.heap.size w w' := by
 have E := Lib.hid (Num.dB_one h0 h1)
 go_enter Tryz.func62, Tryz.ntmps62
 go_wp2_with fail
 go_ret
 exact ⟨by rw [← E.out]; rfl, Below.refl _ _⟩
set_option maxHeartbeats 1000000 in
theorem rdg_all : ∀ (k : Nat) (n : Int) (w : World), n.toNat ≤ k → 0 ≤ n → n < 18446744073709551616 →
  Calls Tryz.prog 62 #[.int .u64 n] w fun e w' => e = .returned (.string (Num.dB n)) ∧ Below w.heap.size w w' := by
 intro k
 induction k with
 | zero => intro n w hk h0 h1; exact rdg_one n w h0 (by omega)
 | succ k ih =>
  intro n w hk h0 h1
  by_cases c : n < 10
  ·
   exact rdg_one n w h0 c
  ·
   have CA : Hid (∀ W, Calls Tryz.prog 62 #[.int .u64 (n / 10)] W fun e w' => e = .returned (.string (Num.dB (n / 10))) ∧ Below W.heap.size W w') := fun W => ih (n / 10) W (by omega) (by omega) (by omega)
   have CB : Hid (∀ W, Calls Tryz.prog 62 #[.int .u64 (n % 10)] W fun e w' => e = .returned (.string (Num.dB (n % 10))) ∧ Below W.heap.size W w') := fun W => rdg_one (n % 10) W (by omega) (by omega)
   have zA := Num.dB_size (n := n / 10) (by omega) (by omega)
   have zB := Num.dB_size (n := n % 10) (by omega) (by omega)
   have E := Lib.hid (Num.dB_step (n := n) (by omega))
   generalize Num.dB (n / 10) = A at *
   generalize Num.dB (n % 10) = B' at *
   generalize Num.dB n = R at *
   clear ih hk
   go_enter Tryz.func62, Tryz.ntmps62
   go_wp2_with fail
   refine (CA.out _).mono ?_; rintro e w1 ⟨rfl, b1⟩
   have d1 : Below w.heap.size w w1 := below_step gr0 b1
   have B1 := Lib.hid d1
   clear b1 d1
   go_wp2_with fail
   refine (CB.out _).mono ?_; rintro e w2 ⟨rfl, b2⟩
   have d2 : Below w1.heap.size w1 w2 := below_step gr0 b2
   have B2 := Lib.hid (below_step B1.out d2)
   clear b2 d2 B1
   go_wp2_with fail
   go_ret
   exact ⟨by rw [E.out]; rfl, B2.out⟩
theorem rdg_any (n : Int) (w : World) (h0 : 0 ≤ n) (h1 : n < 18446744073709551616) :
  Calls Tryz.prog 62 #[.int .u64 n] w fun e w' => e = .returned (.string (Num.dB n)) ∧ Below w.heap.size w w' := rdg_all _ n w (Nat.le_refl _) h0 h1
set_option maxHeartbeats 1000000 in
theorem rtext_any (n : Int) (w : World) (h0 : -9223372036854775808 ≤ n) (h1 : n ≤ 9223372036854775807) :
  Calls Tryz.prog 33 #[.int .i64 n] w fun e w' => e = .returned (.string ⟨(Lib.itoa n).toArray⟩) ∧ Below w.heap.size w w' := by
 by_cases h : n < 0
 ·
  have E := Lib.hid (Num.itoa_neg h)
  have CA : Hid (∀ W, Calls Tryz.prog 62 #[.int .u64 (-(n + 1) + 1)] W fun e w' => e = .returned (.string (Num.dB (-n))) ∧ Below W.heap.size W w') := fun W => by
   rw [show -(n + 1) + 1 = -n by omega]; exact rdg_any (-n) W (by omega) (by omega)
  have zA := Num.dB_size (n := -n) (by omega) (by omega)
  generalize Num.dB (-n) = A at *
  generalize (⟨(Lib.itoa n).toArray⟩ : ByteArray) = R at *
  go_enter Tryz.func33, Tryz.ntmps33
  go_wp2_with fail
  refine (CA.out _).mono ?_; rintro e w1 ⟨rfl, b1⟩
  have d1 : Below w.heap.size w w1 := below_step gr0 b1
  have B1 := Lib.hid d1
  clear b1 d1
  go_wp2_with fail
  go_ret
  exact ⟨by rw [E.out]; rfl, B1.out⟩
 ·
  have E := Lib.hid (Num.itoa_pos h)
  have CA : Hid (∀ W, Calls Tryz.prog 62 #[.int .u64 n] W fun e w' => e = .returned (.string (Num.dB n)) ∧ Below W.heap.size W w') := fun W => rdg_any n W (by omega) (by omega)
  generalize Num.dB n = A at *
  generalize (⟨(Lib.itoa n).toArray⟩ : ByteArray) = R at *
  go_enter Tryz.func33, Tryz.ntmps33
  go_wp2_with fail
  refine (CA.out _).mono ?_; rintro e w1 ⟨rfl, b1⟩
  have d1 : Below w.heap.size w w1 := below_step gr0 b1
  have B1 := Lib.hid d1
  clear b1 d1
  go_wp2_with fail
  go_ret
  exact ⟨by rw [E.out]; rfl, B1.out⟩
end Go.Proofs.YtbcbggdbojonmaaGreatDoor
set_option linter.unusedVariables false
set_option linter.unusedSimpArgs false
namespace Go.Proofs.YtbcbggdbojonmaaGreatDoor.Cal
def lp (y : Int) : Int := if y % 4 = 0 ∧ (y % 100 ≠ 0 ∨ y % 400 = 0) then 1 else 0
def len (y m : Int) : Int := if m = 1 ∨ m = 3 ∨ m = 5 ∨ m = 7 ∨ m = 8 ∨ m = 10 ∨ m = 12 then 31 else if m = 4 ∨ m = 6 ∨ m = 9 ∨ m = 11 then 30 else if m = 2 then 28 + lp y else 0
def ahead (y : Int) : Int := 365 * (y - 1970) + ((y-1)/4 - (y-1)/100 + (y-1)/400) - 477
def cum (y m : Int) : Int := if m ≤ 1 then 0 else if m = 2 then 31 else (if m = 3 then 59 else if m = 4 then 90 else if m = 5 then 120 else if m = 6 then 151 else if m = 7 then 181 else if m = 8 then 212 else if m = 9 then 243 else if m = 10 then 273 else if m = 11 then 304 else if m = 12 then 334 else 365) + lp y
def num (y m d : Int) : Int := ahead y + cum y m + d - 1
structure Right (y m d : Int) : Prop where
 y0 : -40000 ≤ y
 y1 : y ≤ 40000
 d0 : 1 ≤ d
 d1 : d ≤ len y m
theorem lp_01 (y : Int) : 0 ≤ lp y ∧ lp y ≤ 1 := by unfold lp; split <;> omega
theorem ahead_succ (y : Int) : ahead (y + 1) = ahead y + 365 + lp y := by
 unfold ahead lp; split <;> omega
theorem month_of {y m d : Int} (h : Right y m d) : 1 ≤ m ∧ m ≤ 12 := by
 obtain ⟨_, _, h0, h1⟩ := h
 unfold len at h1; have := lp_01 y; omega
theorem len_bd (y m : Int) : 0 ≤ len y m ∧ len y m ≤ 31 := by
 unfold len; have := lp_01 y; omega
theorem twelve {m : Int} (h1 : 1 ≤ m) (h2 : m ≤ 12) : m = 1 ∨ m = 2 ∨ m = 3 ∨ m = 4 ∨ m = 5 ∨ m = 6 ∨ m = 7 ∨ m = 8 ∨ m = 9 ∨ m = 10 ∨ m = 11 ∨ m = 12 := by omega
theorem cum_succ (y m : Int) (h1 : 1 ≤ m) (h2 : m ≤ 12) : cum y (m+1) = cum y m + len y m := by
 rcases twelve h1 h2 with rfl | rfl | rfl | rfl | rfl | rfl | rfl | rfl | rfl | rfl | rfl | rfl <;> simp [cum, len] <;> omega
theorem cum_bd (y m : Int) (h1 : 1 ≤ m) (h2 : m ≤ 12) : 0 ≤ cum y m ∧ cum y m + len y m ≤ 365 + lp y := by
 have := lp_01 y
 rcases twelve h1 h2 with rfl | rfl | rfl | rfl | rfl | rfl | rfl | rfl | rfl | rfl | rfl | rfl <;> simp [cum, len] <;> omega
theorem num_bd {y m d : Int} (h : Right y m d) : ahead y ≤ num y m d ∧ num y m d < ahead (y + 1) := by
 obtain ⟨a, b⟩ := month_of h
 have c := cum_bd y m a b
 rw [ahead_succ]; unfold num
 have := h.d0; have := h.d1
 omega
theorem num_range {y m d : Int} (h : Right y m d) : -15329228 ≤ num y m d ∧ num y m d ≤ 13890537 := by
 have a := num_bd h; have := h.y0; have := h.y1
 unfold ahead at a; omega
/-! ### as the code reckons -/
def yst (r : Int) : Int := r * 365 + r / 4 - r / 100
def mst (k : Int) : Int := (k * 153 + 2) / 5
def cdays (y m d : Int) : Int :=
 if m < 3 then -719468 + (y-1)/400 * 146097 + yst ((y-1) % 400) + mst (m + 9) + d - 1
 else -719468 + y/400 * 146097 + yst (y % 400) + mst (m - 3) + d - 1
theorem cdays_eq (y m d : Int) (h1 : 1 ≤ m) (h2 : m ≤ 12) : cdays y m d = num y m d := by
 rcases twelve h1 h2 with rfl | rfl | rfl | rfl | rfl | rfl | rfl | rfl | rfl | rfl | rfl | rfl <;>
  simp [cdays, num, cum, mst, yst, ahead, lp] <;> omega
theorem yst_bd (y : Int) (h0 : 0 ≤ y) (h1 : y < 400) : 0 ≤ yst y ∧ yst y ≤ 145731 := by unfold yst; omega
end Go.Proofs.YtbcbggdbojonmaaGreatDoor.Cal
set_option linter.unusedVariables false
set_option linter.unusedSimpArgs false
namespace Go.Proofs.YtbcbggdbojonmaaGreatDoor
open Go.RowKit
def lpB (y : Int) : Bool := decide (Cal.lp y = 1)
theorem tz (y k : Int) : y.tmod k = 0 ↔ y % k = 0 := by
 rw [← Int.dvd_iff_tmod_eq_zero, ← Int.dvd_iff_emod_eq_zero]
theorem tmod_zero (y k : Int) : (y.tmod k == 0) = (y % k == 0) := by
 rw [Bool.eq_iff_iff]; simp [← Int.dvd_iff_tmod_eq_zero, ← Int.dvd_iff_emod_eq_zero]
theorem lpB_eq (y : Int) : lpB y = (y % 4 == 0 && (y % 100 != 0 || y % 400 == 0)) := by
 unfold lpB Cal.lp
 rw [Bool.eq_iff_iff]; simp
theorem lp_true {y : Int} (h : lpB y = true) : Cal.lp y = 1 := by simpa [lpB] using h
theorem lp_false {y : Int} (h : lpB y = false) : Cal.lp y = 0 := by
 have := Cal.lp_01 y; have : ¬ Cal.lp y = 1 := by simpa [lpB] using h
 omega
set_option maxHeartbeats 400000 in
theorem leap_any (y : Int) (w : World) :
  Calls Tryz.prog 112 #[.int .i64 y] w fun e w' => e = .returned (.bool (lpB y)) ∧ w = w' := by
 have t4 := tmod_zero y 4
 have t100 := tmod_zero y 100
 have t400 := tmod_zero y 400
 go_enter Tryz.func112, Tryz.ntmps112
 go_wp2
 all_goals go_ret
 all_goals (refine ⟨?_, rfl⟩; rw [lpB_eq])
 ·
  have h4 : y % 4 = 0 := by assumption
  have h100 : y % 100 = 0 := (tz y 100).1 (by assumption)
  simp [h4, h100]
 ·
  have h4 : y % 4 = 0 := by assumption
  have h100 : ¬ y % 100 = 0 := fun h => absurd ((tz y 100).2 h) (by assumption)
  simp [h4, h100]
 ·
  have h4 : ¬ y % 4 = 0 := by assumption
  simp [h4]
set_option maxHeartbeats 400000 in
theorem len_any (y m : Int) (w : World) :
  Calls Tryz.prog 91 #[.int .i64 y, .int .i64 m] w fun e w' => e = .returned (.int .i64 (Cal.len y m)) ∧ w = w' := by
 by_cases h2 : m = 2
 ·
  subst h2
  have hl : Cal.len y 2 = 28 + Cal.lp y := by simp [Cal.len]
  rw [hl]; clear hl
  go_enter Tryz.func91, Tryz.ntmps91
  go_wp2_with (go_at_call 112; refine (leap_any _ _).mono ?_; rintro e w' ⟨rfl, rfl⟩)
  ·
   have h : lpB y = true := by assumption
   go_ret; exact ⟨ret_int (by have := lp_true h; omega), rfl⟩
  ·
   have h : lpB y = false := by simp_all
   go_ret; exact ⟨ret_int (by have := lp_false h; omega), rfl⟩
 ·
  by_cases h : m = 1 ∨ m = 3 ∨ m = 4 ∨ m = 5 ∨ m = 6 ∨ m = 7 ∨ m = 8 ∨ m = 9 ∨ m = 10 ∨ m = 11 ∨ m = 12
  ·
   rcases h with rfl | rfl | rfl | rfl | rfl | rfl | rfl | rfl | rfl | rfl | rfl
   all_goals
    go_enter Tryz.func91, Tryz.ntmps91
    go_wp2
    go_ret; exact ⟨rfl, rfl⟩
  ·
   have hl : Cal.len y m = 0 := by unfold Cal.len; rw [if_neg (by omega), if_neg (by omega), if_neg h2]
   rw [hl]; clear hl
   have b1 : ¬ m = 1 := by omega
   have b3 : ¬ m = 3 := by omega
   have b4 : ¬ m = 4 := by omega
   have b5 : ¬ m = 5 := by omega
   have b6 : ¬ m = 6 := by omega
   have b7 : ¬ m = 7 := by omega
   have b8 : ¬ m = 8 := by omega
   have b9 : ¬ m = 9 := by omega
   have b10 : ¬ m = 10 := by omega
   have b11 : ¬ m = 11 := by omega
   have b12 : ¬ m = 12 := by omega
   clear h
   go_enter Tryz.func91, Tryz.ntmps91
   go_wp2
   go_ret; exact ⟨rfl, rfl⟩
set_option maxHeartbeats 400000 in
theorem rleap_any (y : Int) (w : World) :
  Calls Tryz.prog 143 #[.int .i64 y] w fun e w' => e = .returned (.bool (lpB y)) ∧ w = w' := by
 have t4 := tmod_zero y 4
 have t100 := tmod_zero y 100
 have t400 := tmod_zero y 400
 go_enter Tryz.func143, Tryz.ntmps143
 go_wp2
 all_goals go_ret
 all_goals (refine ⟨?_, rfl⟩; rw [lpB_eq])
 ·
  have h4 : y % 4 = 0 := by assumption
  have h100 : y % 100 = 0 := (tz y 100).1 (by assumption)
  simp [h4, h100]
 ·
  have h4 : y % 4 = 0 := by assumption
  have h100 : ¬ y % 100 = 0 := fun h => absurd ((tz y 100).2 h) (by assumption)
  simp [h4, h100]
 ·
  have h4 : ¬ y % 4 = 0 := by assumption
  have h400 : ¬ y % 400 = 0 := by omega
  rw [show (y % 4 == 0) = false by simpa using h4, show (y % 400 == 0) = false by simpa using h400]; rfl
set_option maxHeartbeats 2000000 in
theorem rlen_any (y m : Int) (w : World) :
  Calls Tryz.prog 126 #[.int .i64 y, .int .i64 m] w fun e w' => e = .returned (.int .i64 (Cal.len y m)) ∧ Below w.heap.size w w' := by
 by_cases h : 1 ≤ m ∧ m ≤ 12
 ·
  by_cases h2 : m = 2
  ·
   subst h2
   have hl : Cal.len y 2 = 28 + Cal.lp y := by simp [Cal.len]
   rw [hl]; clear hl h
   cases hb : lpB y
   ·
    have v := lp_false hb
    have V := Lib.hid v; clear v
    go_enter Tryz.func126, Tryz.ntmps126
    go_wp2_with (go_at_call 143; refine (rleap_any _ _).mono ?_; rintro e w' ⟨rfl, rfl⟩)
    go_ret; exact ⟨ret_int (by have := V.out; omega), by go_grown⟩
   ·
    have v := lp_true hb
    have V := Lib.hid v; clear v
    go_enter Tryz.func126, Tryz.ntmps126
    go_wp2_with (go_at_call 143; refine (rleap_any _ _).mono ?_; rintro e w' ⟨rfl, rfl⟩)
    go_ret; exact ⟨ret_int (by have := V.out; omega), by go_grown⟩
  ·
   rcases Cal.twelve h.1 h.2 with rfl | rfl | rfl | rfl | rfl | rfl | rfl | rfl | rfl | rfl | rfl | rfl
   case inr.inl => exact absurd rfl h2
   all_goals
    clear h h2
    go_enter Tryz.func126, Tryz.ntmps126
    go_wp2
    go_ret; exact ⟨rfl, by go_grown⟩
 ·
  have hl : Cal.len y m = 0 := by unfold Cal.len; rw [if_neg (by omega), if_neg (by omega), if_neg (by omega)]
  rw [hl]; clear hl
  by_cases h1 : m < 1
  ·
   clear h
   go_enter Tryz.func126, Tryz.ntmps126
   go_wp2
   go_ret; exact ⟨rfl, by go_grown⟩
  ·
   have h12 : 12 < m := by omega
   clear h
   go_enter Tryz.func126, Tryz.ntmps126
   go_wp2
   go_ret; exact ⟨rfl, by go_grown⟩
theorem tdiv_lo {a b : Int} (hb : 1 ≤ b) (hs : a < 0) (hr : a % b = 0) : a.tdiv b = a / b ∧ a.tmod b = 0 := by
 have h : b ∣ a := Int.dvd_of_emod_eq_zero hr
 exact ⟨Int.tdiv_eq_ediv_of_dvd h, Int.tmod_eq_zero_of_dvd h⟩
theorem tdiv_mid {a b : Int} (hb : 1 ≤ b) (hs : a < 0) (hr : ¬ a % b = 0) : a.tdiv b = a / b + 1 ∧ a.tmod b = a % b - b := by
 have h1 : a.tdiv b = a / b + 1 := by
  rw [Int.tdiv_eq_ediv]
  have : ¬ (0 ≤ a ∨ b ∣ a) := by
   rintro (h | h)
   ·
    omega
   ·
    exact hr (Int.emod_eq_zero_of_dvd h)
  rw [if_neg this, Int.sign_eq_one_of_pos (by omega)]
 refine ⟨h1, ?_⟩
 have e1 := Int.tmod_def a b
 have e2 := Int.emod_def a b
 rw [h1] at e1
 rw [e1, e2, Int.mul_add]; omega
theorem ediv_ge {a b : Int} (ha : -9223372036854775808 ≤ a) (hs : a < 0) (hb : 1 ≤ b) : -9223372036854775808 ≤ a / b ∧ a / b < 0 := by
 refine ⟨?_, Int.ediv_neg_of_neg_of_pos hs (by omega)⟩
 have : a ≤ a / b := by
  rw [Int.le_ediv_iff_mul_le (by omega)]
  have h2 := Int.mul_le_mul_of_nonpos_left (a := a) (b := b) (c := 1) (by omega) hb
  omega
 omega
set_option maxHeartbeats 400000 in
theorem div_pos (a b : Int) (w : World) (ha : -9223372036854775808 ≤ a) (ha' : a ≤ 9223372036854775807) (hb : 1 ≤ b) (hb' : b ≤ 1000000) :
  Calls Tryz.prog 63 #[.int .i64 a, .int .i64 b] w fun e w' => e = .returned (.tuple #[.int .i64 (a / b), .int .i64 (a % b), .int .i64 0]) ∧ ∃ n, w' = w.drewN n := by
 have hb0 : (b == 0) = false := by simp; omega
 have hb1 : (b == -1) = false := by simp; omega
 have hm0 : 0 ≤ a % b := Int.emod_nonneg a (by omega)
 have hm1 : a % b < b := Int.emod_lt_of_pos a (by omega)
 have hq0 : 0 ≤ a → 0 ≤ a / b := fun h => Int.ediv_nonneg h (by omega)
 by_cases hs : 0 ≤ a
 ·
  have ht : (!(decide (a % b < 0) == decide (b < 0))) = false := by
   rw [decide_eq_false (by omega), decide_eq_false (by omega)]; rfl
  clear hq0
  go_enter Tryz.func63, Tryz.ntmps63
  go_wp2
  all_goals (go_quiet (fail))
  all_goals (go_wp2)
  all_goals (go_ret3; refine ⟨?_, _, rfl⟩; first | rfl | simp [*])
 ·
  clear hq0
  by_cases hr : a % b = 0
  ·
   obtain ⟨e1, e2⟩ := tdiv_lo hb (by omega) hr
   obtain ⟨hq0, hq1⟩ := ediv_ge ha (by omega) hb
   obtain ⟨c, hc⟩ : ∃ c, (a == -9223372036854775808) = c := ⟨_, rfl⟩
   go_enter Tryz.func63, Tryz.ntmps63
   go_wp2
   all_goals (go_quiet (fail))
   all_goals (go_wp2)
   all_goals (go_ret3; refine ⟨?_, _, rfl⟩; first | rfl | simp [*])
  ·
   obtain ⟨e1, e2⟩ := tdiv_mid hb (by omega) hr
   obtain ⟨c, hc⟩ : ∃ c, (a == -9223372036854775808) = c := ⟨_, rfl⟩
   have hm2 : 1 ≤ a % b := by omega
   obtain ⟨hq0, hq1⟩ := ediv_ge ha (by omega) hb
   have ht : (!(decide (a % b - b < 0) == decide (b < 0))) = true := by
    rw [decide_eq_true (by omega), decide_eq_false (by omega)]; rfl
   have hn : (a % b - b != 0) = true := by rw [bne_iff_ne]; omega
   go_enter Tryz.func63, Tryz.ntmps63
   go_wp2
   all_goals (go_quiet (fail))
   all_goals (go_wp2)
   all_goals (go_ret3; refine ⟨?_, _, rfl⟩; first | rfl | (simp [*]; omega))
end Go.Proofs.YtbcbggdbojonmaaGreatDoor
set_option linter.unusedVariables false
set_option linter.unusedSimpArgs false
namespace Go.Proofs.YtbcbggdbojonmaaGreatDoor
open Go.RowKit Go
def rightB (y m d : Int) : Bool := decide (-40000 ≤ y ∧ y ≤ 40000 ∧ 1 ≤ d ∧ d ≤ Cal.len y m)
theorem right_true {y m d : Int} : rightB y m d = true ↔ Cal.Right y m d := by
 unfold rightB; simp; exact ⟨fun ⟨a, b, c, d⟩ => ⟨a, b, c, d⟩, fun ⟨a, b, c, d⟩ => ⟨a, b, c, d⟩⟩
theorem right_br {y m d : Int} {b : Bool} (h : (-40000 ≤ y ∧ y ≤ 40000 ∧ 1 ≤ d ∧ d ≤ Cal.len y m) ↔ b = true) : Ending.returned (.bool b) = .returned (.bool (rightB y m d)) := by
 unfold rightB; congr 2; rw [Bool.eq_iff_iff]; simp [h]
set_option maxHeartbeats 400000 in
theorem right_any (y m d : Int) (w : World) :
  Calls Tryz.prog 67 #[.agg #[.int .i64 y, .int .i64 m, .int .i64 d]] w fun e w' => e = .returned (.bool (rightB y m d)) ∧ Below w.heap.size w w' := by
 by_cases h1 : -40000 ≤ y
 ·
  by_cases h2 : y ≤ 40000
  ·
   by_cases h3 : 1 ≤ d
   ·
    go_enter Tryz.func67, Tryz.ntmps67
    go_wp2
    go_quiet ((go_at_call 91; exact q_same (len_any _ _ _)))
    go_wp2
    go_ret
    exact ⟨right_br (by simp [h1, h2, h3]), below_new _ _ _⟩
   ·
    have hd : decide (1 ≤ d) = false := by simpa using h3
    go_enter Tryz.func67, Tryz.ntmps67
    go_wp2
    go_quiet (fail)
    go_wp2
    go_ret
    exact ⟨right_br (by simp; omega), below_new _ _ _⟩
  ·
   have hd : decide (y ≤ 40000) = false := by simpa using h2
   go_enter Tryz.func67, Tryz.ntmps67
   go_wp2
   go_quiet (fail)
   go_wp2
   go_ret
   exact ⟨right_br (by simp; omega), below_new _ _ _⟩
 ·
  have hd : decide (-40000 ≤ y) = false := by simpa using h1
  go_enter Tryz.func67, Tryz.ntmps67
  go_wp2
  go_quiet (fail)
  go_wp2
  go_ret
  exact ⟨right_br (by simp; omega), below_new _ _ _⟩
set_option maxHeartbeats 400000 in
theorem yearStart_any (y : Int) (w : World) (h0 : 0 ≤ y) (h1 : y ≤ 400) :
  Calls Tryz.prog 65 #[.int .i64 y] w fun e w' => e = .returned (.int .i64 (Cal.yst y)) ∧ w = w' := by
 go_enter Tryz.func65, Tryz.ntmps65
 go_wp2
 go_ret
 exact ⟨rfl, rfl⟩
set_option maxHeartbeats 400000 in
theorem monthStart_any (m : Int) (w : World) (h0 : 0 ≤ m) (h1 : m ≤ 12) :
  Calls Tryz.prog 66 #[.int .i64 m] w fun e w' => e = .returned (.int .i64 (Cal.mst m)) ∧ w = w' := by
 go_enter Tryz.func66, Tryz.ntmps66
 go_wp2
 go_ret
 exact ⟨rfl, rfl⟩
theorem mst_bd (m : Int) (h0 : 0 ≤ m) (h1 : m ≤ 12) : 0 ≤ Cal.mst m ∧ Cal.mst m ≤ 367 := by unfold Cal.mst; omega
set_option maxHeartbeats 400000 in
theorem days_no (y m d : Int) (w : World) (h : rightB y m d = false) :
  Calls Tryz.prog 117 #[.agg #[.int .i64 y, .int .i64 m, .int .i64 d]] w fun e w' => e = .returned (.tuple #[.int .i64 0, .int .i64 1]) ∧ Below w.heap.size w w' := by
 go_enter Tryz.func117, Tryz.ntmps117
 go_wp2_with (go_at_call 67; refine (right_any _ _ _ _).mono ?_; rintro e w' ⟨rfl, hb⟩; obtain ⟨hc, hf⟩ := bcell hb)
 go_ret2
 exact ⟨rfl, ((Below.refl _ _).alloc (Nat.le_refl _) _).trans (hb.mono (by simp))⟩
set_option maxHeartbeats 400000 in
theorem days_yes (y m d : Int) (w : World) (h : rightB y m d = true) :
  Calls Tryz.prog 117 #[.agg #[.int .i64 y, .int .i64 m, .int .i64 d]] w fun e w' => e = .returned (.tuple #[.int .i64 (Cal.num y m d), .int .i64 0]) ∧ Below w.heap.size w w' := by
 have hr := right_true.1 h
 obtain ⟨hm1, hm2⟩ := Cal.month_of hr
 have hl := Cal.len_bd y m
 obtain ⟨hy0, hy1, hd0, hd1⟩ := hr
 have hd2 : d ≤ 31 := by omega
 clear hd1 hl
 rw [← Cal.cdays_eq y m d hm1 hm2]
 by_cases hm : m < 3
 ·
  have e : Cal.cdays y m d = -719468 + (y-1)/400 * 146097 + Cal.yst ((y-1) % 400) + Cal.mst (m - 3 + 12) + d - 1 := by
   rw [show m - 3 + 12 = m + 9 by omega]; exact if_pos hm
  have E := Lib.hid e; clear e
  have q0 : -101 ≤ (y-1)/400 := by omega
  have q1 : (y-1)/400 ≤ 100 := by omega
  have r0 : 0 ≤ (y-1)%400 := by omega
  have r1 : (y-1)%400 ≤ 399 := by omega
  obtain ⟨s0, s1⟩ := Cal.yst_bd ((y-1)%400) r0 (by omega)
  obtain ⟨t0, t1⟩ := mst_bd (m - 3 + 12) (by omega) (by omega)
  go_enter Tryz.func117, Tryz.ntmps117
  go_wp2_with (go_at_call 67; refine (right_any _ _ _ _).mono ?_; rintro e w' ⟨rfl, hb⟩; obtain ⟨hc, hf⟩ := bcell hb)
  go_quiet (fail)
  go_wp2_with (go_at_call 63; refine (div_pos _ _ _ (by omega) (by omega) (by omega) (by omega)).mono ?_; rintro e w' ⟨rfl, n, rfl⟩)
  go_quiet (first
   | (go_at_call 65; refine q_same2 (yearStart_any _ _ (by omega) (by omega)))
   | (go_at_call 66; refine q_same2 (monthStart_any _ _ (by omega) (by omega))))
  go_wp2
  go_ret2
  refine ⟨?_, _root_.Go.below_drewN (_root_.Go.below_drewN (((Below.refl _ _).alloc (Nat.le_refl _) _).trans (hb.mono (by simp))) _) _⟩
  rw [E.out]; rfl
 ·
  have e : Cal.cdays y m d = -719468 + y/400 * 146097 + Cal.yst (y % 400) + Cal.mst (m - 3) + d - 1 := if_neg hm
  have E := Lib.hid e; clear e
  have q0 : -101 ≤ (y)/400 := by omega
  have q1 : (y)/400 ≤ 100 := by omega
  have r0 : 0 ≤ (y)%400 := by omega
  have r1 : (y)%400 ≤ 399 := by omega
  obtain ⟨s0, s1⟩ := Cal.yst_bd ((y)%400) r0 (by omega)
  obtain ⟨t0, t1⟩ := mst_bd (m - 3) (by omega) (by omega)
  go_enter Tryz.func117, Tryz.ntmps117
  go_wp2_with (go_at_call 67; refine (right_any _ _ _ _).mono ?_; rintro e w' ⟨rfl, hb⟩; obtain ⟨hc, hf⟩ := bcell hb)
  go_quiet (fail)
  go_wp2_with (go_at_call 63; refine (div_pos _ _ _ (by omega) (by omega) (by omega) (by omega)).mono ?_; rintro e w' ⟨rfl, n, rfl⟩)
  go_quiet (first
   | (go_at_call 65; refine q_same2 (yearStart_any _ _ (by omega) (by omega)))
   | (go_at_call 66; refine q_same2 (monthStart_any _ _ (by omega) (by omega))))
  go_wp2
  go_ret2
  refine ⟨?_, _root_.Go.below_drewN (_root_.Go.below_drewN (((Below.refl _ _).alloc (Nat.le_refl _) _).trans (hb.mono (by simp))) _) _⟩
  rw [E.out]; rfl
end Go.Proofs.YtbcbggdbojonmaaGreatDoor
set_option linter.unusedVariables false
set_option linter.unusedSimpArgs false
namespace Go.Proofs.YtbcbggdbojonmaaGreatDoor
open Go.RowKit
set_option maxHeartbeats 400000 in
theorem rdiv_pos (a b : Int) (w : World) (ha : -9223372036854775808 ≤ a) (ha' : a ≤ 9223372036854775807) (hb : 1 ≤ b) (hb' : b ≤ 1000000) :
  Calls Tryz.prog 158 #[.int .i64 a, .int .i64 b] w fun e w' => e = .returned (.tuple #[.int .i64 (a / b), .int .i64 (a % b), .int .i64 0]) ∧ ∃ n, w' = w.drewN n := by
 have hb0 : (b == 0) = false := by simp; omega
 have hb1 : (b == -1) = false := by simp; omega
 have hm0 : 0 ≤ a % b := Int.emod_nonneg a (by omega)
 have hm1 : a % b < b := Int.emod_lt_of_pos a (by omega)
 by_cases hs : 0 ≤ a
 ·
  have ht : (!(decide (a % b < 0) == decide (b < 0))) = false := by
   rw [decide_eq_false (by omega), decide_eq_false (by omega)]; rfl
  go_enter Tryz.func158, Tryz.ntmps158
  go_wp2
  all_goals (go_ret3; refine ⟨?_, 0, rfl⟩; first | rfl | simp [*])
 ·
  by_cases hr : a % b = 0
  ·
   obtain ⟨e1, e2⟩ := tdiv_lo hb (by omega) hr
   obtain ⟨hq0, hq1⟩ := ediv_ge ha (by omega) hb
   obtain ⟨c, hc⟩ : ∃ c, (a == -9223372036854775808) = c := ⟨_, rfl⟩
   go_enter Tryz.func158, Tryz.ntmps158
   go_wp2
   all_goals (go_ret3; refine ⟨?_, 0, rfl⟩; first | rfl | simp [*])
  ·
   obtain ⟨e1, e2⟩ := tdiv_mid hb (by omega) hr
   obtain ⟨c, hc⟩ : ∃ c, (a == -9223372036854775808) = c := ⟨_, rfl⟩
   have hm2 : 1 ≤ a % b := by omega
   obtain ⟨hq0, hq1⟩ := ediv_ge ha (by omega) hb
   have ht : (!(decide (a % b - b < 0) == decide (b < 0))) = true := by
    rw [decide_eq_true (by omega), decide_eq_false (by omega)]; rfl
   have hn : (a % b - b != 0) = true := by rw [bne_iff_ne]; omega
   go_enter Tryz.func158, Tryz.ntmps158
   go_wp2
   all_goals (go_ret3; refine ⟨?_, 0, rfl⟩; first | rfl | (simp [*]; done) | (simp [*]; omega))
set_option maxHeartbeats 400000 in
theorem floor_pos (a b : Int) (w : World) (ha : -9223372036854775808 ≤ a) (ha' : a ≤ 9223372036854775807) (hb : 1 ≤ b) (hb' : b ≤ 1000000) :
  Calls Tryz.prog 144 #[.int .i64 a, .int .i64 b] w fun e w' => e = .returned (.int .i64 (a / b)) ∧ ∃ n, w' = w.drewN n := by
 go_enter Tryz.func144, Tryz.ntmps144
 go_wp2_with (go_at_call 158; refine (rdiv_pos _ _ _ ha ha' hb hb').mono ?_; rintro e w' ⟨rfl, k, rfl⟩)
 go_ret
 exact ⟨rfl, _, rfl⟩
set_option maxHeartbeats 400000 in
theorem leaps_any (y : Int) (w : World) (h0 : -1000000 ≤ y) (h1 : y ≤ 1000000) :
  Calls Tryz.prog 127 #[.int .i64 y] w fun e w' => e = .returned (.int .i64 (y / 4 - y / 100 + y / 400)) ∧ ∃ k, w' = w.drewN k := by
 have a0 : -250000 ≤ y / 4 := by omega
 have a1 : y / 4 ≤ 250000 := by omega
 have b0 : -10000 ≤ y / 100 := by omega
 have b1 : y / 100 ≤ 10000 := by omega
 have c0 : -2500 ≤ y / 400 := by omega
 have c1 : y / 400 ≤ 2500 := by omega
 go_enter Tryz.func127, Tryz.ntmps127
 go_wp2_with (go_at_call 144; refine (floor_pos _ _ _ (by omega) (by omega) (by omega) (by omega)).mono ?_; rintro e w' ⟨rfl, k, rfl⟩)
 go_ret
 exact ⟨rfl, _, rfl⟩
set_option maxHeartbeats 400000 in
theorem ahead_any (y : Int) (w : World) (h0 : -100000 ≤ y) (h1 : y ≤ 100000) :
  Calls Tryz.prog 110 #[.int .i64 y] w fun e w' => e = .returned (.int .i64 (Cal.ahead y)) ∧ ∃ k, w' = w.drewN k := by
 have a0 : -26000 ≤ (y - 1) / 4 := by omega
 have a1 : (y - 1) / 4 ≤ 26000 := by omega
 have b0 : -1100 ≤ (y - 1) / 100 := by omega
 have b1 : (y - 1) / 100 ≤ 1100 := by omega
 have c0 : -300 ≤ (y - 1) / 400 := by omega
 have c1 : (y - 1) / 400 ≤ 300 := by omega
 go_enter Tryz.func110, Tryz.ntmps110
 go_wp2_with fail
 refine (leaps_any _ _ (by omega) (by omega)).mono ?_; rintro e w1 ⟨rfl, k1, rfl⟩
 go_wp2_with fail
 refine (leaps_any 1969 _ (by omega) (by omega)).mono ?_; rintro e w1 ⟨rfl, k2, rfl⟩
 rw [show (1969 : Int) / 4 - 1969 / 100 + 1969 / 400 = 477 by decide]
 go_wp2_with fail
 go_ret
 exact ⟨rfl, _, rfl⟩
structure One (w W : World) (b : Nat) (v0 v1 v2 : Value) : Prop where
 bel : Below w.heap.size w W
 hb : b < W.heap.size
 k0 : W.cell? ⟨b, 0, none⟩ = some v0
 k1 : W.cell? ⟨b, 1, none⟩ = some v1
 k2 : W.cell? ⟨b, 2, none⟩ = some v2
theorem One.keep {w W W' : World} {b : Nat} {v0 v1 v2 : Value} (h : One w W b v0 v1 v2) (k : Below W.heap.size W W') : One w W' b v0 v1 v2 := by
 obtain ⟨hw, hb, h0, h1, h2⟩ := h
 have z := k.size
 refine ⟨below_step hw k, by omega, ?_, ?_, ?_⟩ <;> (rw [k.cell (p := ⟨b, _, none⟩) (by show b < _; omega)]; assumption)
theorem One.alloc {w W : World} {b : Nat} {v0 v1 v2 : Value} (h : One w W b v0 v1 v2) (o : Obj) : One w (W.alloc o) b v0 v1 v2 :=
 h.keep ((Below.refl _ _).alloc (Nat.le_refl _) _)
theorem One.draw {w W : World} {b : Nat} {v0 v1 v2 : Value} (h : One w W b v0 v1 v2) (n : Nat) : One w (W.drewN n) b v0 v1 v2 :=
 h.keep (below_draw _ _)
theorem One.new {w W : World} {v0 v1 v2 : Value} {t : TypeId} (h : Below w.heap.size w W) : One w (W.alloc (.cells #[v0, v1, v2] t)) W.heap.size v0 v1 v2 :=
 ⟨below_step h ((Below.refl _ _).alloc (Nat.le_refl _) _), by simp, by simp [go_sem], by simp [go_sem], by simp [go_sem]⟩
theorem one_keep {w : World} {b : Nat} {W W' : World} {v0 v1 v2 : Value} (hb : Below W.heap.size W W')
  (h : Below w.heap.size w W ∧ b < W.heap.size ∧ W.cell? ⟨b, 0, none⟩ = some v0 ∧ W.cell? ⟨b, 1, none⟩ = some v1 ∧ W.cell? ⟨b, 2, none⟩ = some v2) :
  Below w.heap.size w W' ∧ b < W'.heap.size ∧ W'.cell? ⟨b, 0, none⟩ = some v0 ∧ W'.cell? ⟨b, 1, none⟩ = some v1 ∧ W'.cell? ⟨b, 2, none⟩ = some v2 := by
 obtain ⟨a1, a2, a3, a4, a5⟩ := h
 obtain ⟨b1, b2, b3, b4, b5⟩ := One.keep ⟨a1, a2, a3, a4, a5⟩ hb
 exact ⟨b1, b2, b3, b4, b5⟩
structure Two2 (w W : World) (b c : Nat) (v0 v1 v2 u0 u1 u2 : Value) : Prop where
 bel : Below w.heap.size w W
 hb : b < W.heap.size
 hc : c < W.heap.size
 k0 : W.cell? ⟨b, 0, none⟩ = some v0
 k1 : W.cell? ⟨b, 1, none⟩ = some v1
 k2 : W.cell? ⟨b, 2, none⟩ = some v2
 g0 : W.cell? ⟨c, 0, none⟩ = some u0
 g1 : W.cell? ⟨c, 1, none⟩ = some u1
 g2 : W.cell? ⟨c, 2, none⟩ = some u2
theorem Two2.keep {w W W' : World} {b c : Nat} {v0 v1 v2 u0 u1 u2 : Value} (h : Two2 w W b c v0 v1 v2 u0 u1 u2) (k : Below W.heap.size W W') : Two2 w W' b c v0 v1 v2 u0 u1 u2 := by
 obtain ⟨hw, hb, hc, h0, h1, h2, g0, g1, g2⟩ := h
 have z := k.size
 refine ⟨below_step hw k, by omega, by omega, ?_, ?_, ?_, ?_, ?_, ?_⟩ <;> (first | rw [k.cell (p := ⟨b, _, none⟩) (by show b < _; omega)]; assumption | rw [k.cell (p := ⟨c, _, none⟩) (by show c < _; omega)]; assumption)
set_option maxHeartbeats 2000000 in
theorem rright_any (y m d : Int) (w : World) :
  Calls Tryz.prog 108 #[.agg #[.int .i64 y, .int .i64 m, .int .i64 d]] w fun e w' => e = .returned (.bool (rightB y m d)) ∧ Below w.heap.size w w' := by
 by_cases h1 : -40000 ≤ y
 ·
  by_cases h2 : y ≤ 40000
  ·
   by_cases h3 : 1 ≤ d
   ·
    have O := One.new (t := 33) (v0 := .int .i64 y) (v1 := .int .i64 m) (v2 := .int .i64 d) (Below.refl w.heap.size w)
    go_enter Tryz.func108, Tryz.ntmps108
    go_wp2
    go_region_held3 (fun W => Below w.heap.size w W ∧ w.heap.size < W.heap.size ∧ W.cell? ⟨w.heap.size, 0, none⟩ = some (.int .i64 y) ∧ W.cell? ⟨w.heap.size, 1, none⟩ = some (.int .i64 m) ∧ W.cell? ⟨w.heap.size, 2, none⟩ = some (.int .i64 d)) (first | exact ⟨O.bel.drew, O.hb, O.k0, O.k1, O.k2⟩ | exact one_keep ‹Below _ _ _› ‹_ ∧ _›)
     (first
      | (go_at_call 126; refine (rlen_any _ _ _).mono ?_; rintro e w' ⟨rfl, hb⟩))
    rename_i hS
    have B := Lib.hid hS.1
    go_wp2
    go_ret
    exact ⟨right_br (by simp [h1, h2, h3]), B.out⟩
   ·
    have hd : decide (1 ≤ d) = false := by simpa using h3
    go_enter Tryz.func108, Tryz.ntmps108
    go_wp2
    go_quiet (fail)
    go_wp2
    go_ret
    exact ⟨right_br (by simp; omega), below_new _ _ _⟩
  ·
   have hd : decide (y ≤ 40000) = false := by simpa using h2
   go_enter Tryz.func108, Tryz.ntmps108
   go_wp2
   go_quiet (fail)
   go_wp2
   go_ret
   exact ⟨right_br (by simp; omega), below_new _ _ _⟩
 ·
  have hd : decide (-40000 ≤ y) = false := by simpa using h1
  go_enter Tryz.func108, Tryz.ntmps108
  go_wp2
  go_quiet (fail)
  go_wp2
  go_ret
  exact ⟨right_br (by simp; omega), below_new _ _ _⟩
set_option maxHeartbeats 2000000 in
theorem ryearDay_yes (y m d : Int) (w : World) (h : rightB y m d = true) :
  Calls Tryz.prog 109 #[.agg #[.int .i64 y, .int .i64 m, .int .i64 d]] w fun e w' => e = .returned (.tuple #[.int .i64 (Cal.cum y m + d), .int .i64 0]) ∧ Below w.heap.size w w' := by
 have hr := right_true.1 h
 obtain ⟨m0, m1⟩ := Cal.month_of hr
 have d1 := hr.d1
 have d0 := hr.d0
 have lb := Cal.len_bd y m
 have d2 : d ≤ 31 := by omega
 clear hr d1 lb
 have O0 := One.new (t := 33) (v0 := .int .i64 y) (v1 := .int .i64 m) (v2 := .int .i64 d) (Below.refl w.heap.size w)
 go_enter Tryz.func109, Tryz.ntmps109
 go_wp2_with fail
 refine (rright_any _ _ _ _).mono ?_; rintro e w1 ⟨rfl, b1⟩
 have O1 := O0.keep b1
 clear O0 b1
 have k0 := O1.k0; have k1 := O1.k1; have k2 := O1.k2
 go_wp2_with fail
 clear k0 k1 k2
 go_loopw [4, 5] (fun v4 v5 wr => ∃ k : Int, 1 ≤ k ∧ k ≤ m ∧ v4 = .int .i64 (d + Cal.cum y k) ∧ v5 = .int .i64 k ∧ One w wr w.heap.size (.int .i64 y) (.int .i64 m) (.int .i64 d)) (fun _ v5 _ => (m - intOf v5).toNat)
 case atStart => exact ⟨1, by omega, by omega, by rw [show Cal.cum y 1 = 0 from rfl]; simp, rfl, O1⟩
 case round =>
  obtain ⟨k, hk0, hk1, rfl, rfl, O⟩ := hrel
  have k0 := O.k0; have k1 := O.k1
  have cb := Cal.cum_bd y k hk0 (by omega)
  obtain ⟨c0, c1⟩ := cb
  have lp1 := Cal.lp_01 y
  obtain ⟨lp0, lp1⟩ := lp1
  have ln := Cal.len_bd y k
  obtain ⟨l0, l1⟩ := ln
  clear O1
  by_cases hlt : k < m
  ·
   have cs := Cal.cum_succ y k hk0 (by omega)
   have CS := Lib.hid cs; clear cs
   go_wp2_with (go_at_call 126; refine (rlen_any _ _ _).mono ?_; rintro e w2 ⟨rfl, b2⟩)
   go_roundw
   case rel => exact ⟨k + 1, by omega, by omega, by rw [CS.out]; go_num, rfl, O.keep b2⟩
   case measure => simp [intOf]; omega
  ·
   have hkm : k = m := by omega
   subst hkm
   go_wp2
   go_ret2
   refine ⟨?_, O.bel⟩
   show Ending.returned (.tuple #[.int .i64 (d + Cal.cum y k), .int .i64 0]) = _
   rw [Int.add_comm]
set_option maxHeartbeats 400000 in
theorem rdays_yes (y m d : Int) (w : World) (h : rightB y m d = true) :
  Calls Tryz.prog 89 #[.agg #[.int .i64 y, .int .i64 m, .int .i64 d]] w fun e w' => e = .returned (.tuple #[.int .i64 (Cal.num y m d), .int .i64 0]) ∧ Below w.heap.size w w' := by
 have hr := right_true.1 h
 have y0 := hr.y0
 have y1 := hr.y1
 have nb := Cal.num_range hr
 obtain ⟨m0, m1⟩ := Cal.month_of hr
 have cb := Cal.cum_bd y m m0 m1
 have lp1 := Cal.lp_01 y
 have d0 := hr.d0
 have d1 := hr.d1
 obtain ⟨n0, n1⟩ := nb
 obtain ⟨c0, c1⟩ := cb
 have a0 : -20000000 ≤ Cal.ahead y := by unfold Cal.num at n0; omega
 have a1 : Cal.ahead y ≤ 20000000 := by unfold Cal.num at n1; omega
 have q0 : 0 ≤ Cal.cum y m + d := by omega
 have q1 : Cal.cum y m + d ≤ 1000 := by omega
 have e : Cal.ahead y + (Cal.cum y m + d) - 1 = Cal.num y m d := by unfold Cal.num; omega
 have E := Lib.hid e; clear e
 have O0 := One.new (t := 33) (v0 := .int .i64 y) (v1 := .int .i64 m) (v2 := .int .i64 d) (Below.refl w.heap.size w)
 clear hr lp1 d0 d1 c0 c1 n0 n1 m0 m1
 go_enter Tryz.func89, Tryz.ntmps89
 go_wp2_with fail
 refine (ryearDay_yes _ _ _ _ h).mono ?_; rintro e w1 ⟨rfl, b1⟩
 have O1 := O0.keep b1
 clear O0 b1
 have k0 := O1.k0
 generalize Cal.cum y m + d = q at q0 q1 E ⊢
 go_wp2_with fail
 refine (ahead_any _ _ (by omega) (by omega)).mono ?_; rintro e w2 ⟨rfl, k, rfl⟩
 go_wp2_with fail
 go_ret2
 rw [E.out]
 exact ⟨rfl, _root_.Go.below_drewN O1.bel _⟩
end Go.Proofs.YtbcbggdbojonmaaGreatDoor
