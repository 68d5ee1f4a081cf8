/- Joined: RnA, RsA, Cal, CivA. -/
import Derived.Test.YtifgiclnofdnkaaGreatDoorBy01
import Derived.Test.YtifgiclnofdnkaaGreatDoorBy02
set_option linter.unusedVariables false
set_option linter.unusedSimpArgs false
namespace Go.Proofs.YtifgiclnofdnkaaGreatDoor
open Go.RowKit
namespace Num
def dB (n : Int) : ByteArray := ⟨(Lib.decDigits n.toNat).toArray⟩
theorem one_tab : ∀ n : Fin 10, (⟨#[48, 49, 50, 51, 52, 53, 54, 55, 56, 57]⟩ : ByteArray).extract n.val (n.val + 1) = ⟨#[UInt8.ofNat (48 + n.val)]⟩ := by decide +kernel
theorem dB_one {n : Int} (h0 : 0 ≤ n) (h1 : n < 10) : (⟨#[48, 49, 50, 51, 52, 53, 54, 55, 56, 57]⟩ : ByteArray).extract n.toNat (n + 1).toNat = dB n := by
 have h := one_tab ⟨n.toNat, by omega⟩
 have e : (n + 1).toNat = n.toNat + 1 := by omega
 unfold dB
 rw [e, dec_small (by omega)]
 exact h
theorem dB_step {n : Int} (h : 10 ≤ n) : dB n = dB (n / 10) ++ dB (n % 10) := by
 unfold dB
 have e1 : (n / 10).toNat = n.toNat / 10 := by omega
 have e2 : (n % 10).toNat = n.toNat % 10 := by omega
 rw [e1, e2, dec_step (u := n.toNat) (by omega), dec_small (u := n.toNat % 10) (by omega)]
 apply ByteArray.ext
 apply Array.toList_inj.1
 rw [ByteArray.data_append, Array.toList_append]
theorem dB_size {n : Int} (h0 : 0 ≤ n) (h1 : n < 18446744073709551616) : (dB n).size ≤ 20 := by
 have := dec_short n.toNat (by omega)
 show (Lib.decDigits n.toNat).toArray.size ≤ 20
 rw [List.size_toArray]; exact this
theorem itoa_neg {n : Int} (h : n < 0) : (⟨(Lib.itoa n).toArray⟩ : ByteArray) = ⟨#[45]⟩ ++ dB (-n) := by
 unfold Lib.itoa dB
 rw [if_pos h]
 apply ByteArray.ext
 apply Array.toList_inj.1
 rw [ByteArray.data_append, Array.toList_append, show (-n).toNat = n.natAbs by omega]
 rfl
theorem itoa_pos {n : Int} (h : ¬ n < 0) : (⟨(Lib.itoa n).toArray⟩ : ByteArray) = dB n := by
 unfold Lib.itoa dB
 rw [if_neg h]
end Num
set_option maxHeartbeats 1000000 in
theorem rdg_one (n : Int) (w : World) (h0 : 0 ≤ n) (h1 : n < 10) :
  Calls Tryz.prog 110 #[.int .u64 n] w fun e w' => e = .returned (.string (Num.dB n)) ∧ Below w.heap.size w w' := by
 have E := Lib.hid (Num.dB_one h0 h1)
 go_enter Tryz.func110, Tryz.ntmps110
 go_wp2_with fail
 go_ret
 exact ⟨by rw [← E.out]; rfl, Below.refl _ _⟩
set_option maxHeartbeats 1000000 in
theorem rdg_all : ∀ (k : Nat) (n : Int) (w : World), n.toNat ≤ k → 0 ≤ n → n < 18446744073709551616 →
  Calls Tryz.prog 110 #[.int .u64 n] w fun e w' => e = .returned (.string (Num.dB n)) ∧ Below w.heap.size w w' := by
 intro k
 induction k with
 | zero => intro n w hk h0 h1; exact rdg_one n w h0 (by omega)
 | succ k ih =>
  intro n w hk h0 h1
  by_cases c : n < 10
  ·
   exact rdg_one n w h0 c
  ·
   have CA : Hid (∀ W, Calls Tryz.prog 110 #[.int .u64 (n / 10)] W fun e w' => e = .returned (.string (Num.dB (n / 10))) ∧ Below W.heap.size W w') := fun W => ih (n / 10) W (by omega) (by omega) (by omega)
   have CB : Hid (∀ W, Calls Tryz.prog 110 #[.int .u64 (n % 10)] W fun e w' => e = .returned (.string (Num.dB (n % 10))) ∧ Below W.heap.size W w') := fun W => rdg_one (n % 10) W (by omega) (by omega)
   have zA := Num.dB_size (n := n / 10) (by omega) (by omega)
   have zB := Num.dB_size (n := n % 10) (by omega) (by omega)
   have E := Lib.hid (Num.dB_step (n := n) (by omega))
   generalize Num.dB (n / 10) = A at *
   generalize Num.dB (n % 10) = B' at *
   generalize Num.dB n = R at *
   clear ih hk
   go_enter Tryz.func110, Tryz.ntmps110
   go_wp2_with fail
   refine (CA.out _).mono ?_; rintro e w1 ⟨rfl, b1⟩
   have d1 : Below w.heap.size w w1 := below_step gr0 b1
   have B1 := Lib.hid d1
   clear b1 d1
   go_wp2_with fail
   refine (CB.out _).mono ?_; rintro e w2 ⟨rfl, b2⟩
   have d2 : Below w1.heap.size w1 w2 := below_step gr0 b2
   have B2 := Lib.hid (below_step B1.out d2)
   clear b2 d2 B1
   go_wp2_with fail
   go_ret
   exact ⟨by rw [E.out]; rfl, B2.out⟩
theorem rdg_any (n : Int) (w : World) (h0 : 0 ≤ n) (h1 : n < 18446744073709551616) :
  Calls Tryz.prog 110 #[.int .u64 n] w fun e w' => e = .returned (.string (Num.dB n)) ∧ Below w.heap.size w w' := rdg_all _ n w (Nat.le_refl _) h0 h1
set_option maxHeartbeats 1000000 in
theorem rtext_any (n : Int) (w : World) (h0 : -9223372036854775808 ≤ n) (h1 : n ≤ 9223372036854775807) :
  Calls Tryz.prog 86 #[.int .i64 n] w fun e w' => e = .returned (.string ⟨(Lib.itoa n).toArray⟩) ∧ Below w.heap.size w w' := by
 by_cases h : n < 0
 ·
  have E := Lib.hid (Num.itoa_neg h)
  have CA : Hid (∀ W, Calls Tryz.prog 110 #[.int .u64 (-(n + 1) + 1)] W fun e w' => e = .returned (.string (Num.dB (-n))) ∧ Below W.heap.size W w') := fun W => by
   rw [show -(n + 1) + 1 = -n by omega]; exact rdg_any (-n) W (by omega) (by omega)
  have zA := Num.dB_size (n := -n) (by omega) (by omega)
  generalize Num.dB (-n) = A at *
  generalize (⟨(Lib.itoa n).toArray⟩ : ByteArray) = R at *
  go_enter Tryz.func86, Tryz.ntmps86
  go_wp2_with fail
  refine (CA.out _).mono ?_; rintro e w1 ⟨rfl, b1⟩
  have d1 : Below w.heap.size w w1 := below_step gr0 b1
  have B1 := Lib.hid d1
  clear b1 d1
  go_wp2_with fail
  go_ret
  exact ⟨by rw [E.out]; rfl, B1.out⟩
 ·
  have E := Lib.hid (Num.itoa_pos h)
  have CA : Hid (∀ W, Calls Tryz.prog 110 #[.int .u64 n] W fun e w' => e = .returned (.string (Num.dB n)) ∧ Below W.heap.size W w') := fun W => rdg_any n W (by omega) (by omega)
  generalize Num.dB n = A at *
  generalize (⟨(Lib.itoa n).toArray⟩ : ByteArray) = R at *
  go_enter Tryz.func86, Tryz.ntmps86
  go_wp2_with fail
  refine (CA.out _).mono ?_; rintro e w1 ⟨rfl, b1⟩
  have d1 : Below w.heap.size w w1 := below_step gr0 b1
  have B1 := Lib.hid d1
  clear b1 d1
  go_wp2_with fail
  go_ret
  exact ⟨by rw [E.out]; rfl, B1.out⟩
theorem cons_arr (l : List UInt8) : (⟨#[48]⟩ ++ ⟨l.toArray⟩ : ByteArray) = ⟨((48 : UInt8) :: l).toArray⟩ := by
 apply ByteArray.ext
 rw [ByteArray.data_append]
 apply Array.toList_inj.1
 simp
set_option maxHeartbeats 4000000 in
set_option maxRecDepth 100000 in
theorem wide_any (n : Int) (k : Nat) (w : World) (hk : k ≤ 4) (n0 : -9223372036854775808 ≤ n) (n1 : n ≤ 9223372036854775807) :
  Calls Tryz.prog 56 #[.int .i64 n, .int .i64 k] w fun e w' => e = .returned (.string ⟨(Tx.dg k n).toArray⟩) ∧ Below w.heap.size w w' := by
 have tl : (Lib.itoa n).length ≤ 21 := Lib.itoa_length_le n n0 n1
 have CT : Hid (∀ W, Calls Tryz.prog 86 #[.int .i64 n] W fun e w' => e = .returned (.string ⟨(Lib.itoa n).toArray⟩) ∧ Below W.heap.size W w') := fun W => rtext_any n W n0 n1
 have E := Lib.hid (show Tx.dg k n = List.replicate (k - (Lib.itoa n).length) 48 ++ Lib.itoa n from rfl)
 generalize Tx.dg k n = R at E
 generalize Lib.itoa n = D at *
 go_enter Tryz.func56, Tryz.ntmps56
 go_wp2_with fail
 refine (CT.out _).mono ?_; rintro e w1 ⟨rfl, b1⟩
 have d1 : Below w.heap.size w w1 := below_step gr0 b1
 have B1 := Lib.hid d1
 clear b1 d1
 clear CT
 go_wp2_with fail
 go_loopw [5] (fun i wr => ∃ j : Nat, i = .string ⟨(List.replicate j 48 ++ D).toArray⟩ ∧ j ≤ k - D.length ∧ wr = w1) (fun i _ => match i with | .string s => k - s.size | _ => 0)
 case atStart => exact ⟨0, rfl, Nat.zero_le _, rfl⟩
 case round =>
  obtain ⟨j, rfl, hj, rfl⟩ := hrel
  obtain ⟨S, hS, hz⟩ : ∃ S : ByteArray, S = ⟨(List.replicate j 48 ++ D).toArray⟩ ∧ S.size = j + D.length := ⟨_, rfl, by show (List.replicate j 48 ++ D).toArray.size = _; rw [List.size_toArray]; simp⟩
  rw [← hS]
  have HS := Lib.hid hS; clear hS
  by_cases hlt : (S.size : Int) < (k : Int)
  ·
   go_wp2_with fail
   go_roundw
   case rel => exact ⟨j + 1, by rw [HS.out, cons_arr, List.replicate_succ]; rfl, by omega, by first | rfl | trivial⟩
   case measure => simp; show k - (1 + S.size) < k - S.size; omega
  ·
   have ej : j = k - D.length := by omega
   go_wp2_with fail
   go_ret
   refine ⟨?_, B1.out⟩
   rw [HS.out, E.out, ej]; rfl
end Go.Proofs.YtifgiclnofdnkaaGreatDoor
set_option linter.unusedVariables false
set_option linter.unusedSimpArgs false
namespace Go.Proofs.YtifgiclnofdnkaaGreatDoor.Cal
def lp (y : Int) : Int := if y % 4 = 0 ∧ (y % 100 ≠ 0 ∨ y % 400 = 0) then 1 else 0
def len (y m : Int) : Int := if m = 1 ∨ m = 3 ∨ m = 5 ∨ m = 7 ∨ m = 8 ∨ m = 10 ∨ m = 12 then 31 else if m = 4 ∨ m = 6 ∨ m = 9 ∨ m = 11 then 30 else if m = 2 then 28 + lp y else 0
def ahead (y : Int) : Int := 365 * (y - 1970) + ((y-1)/4 - (y-1)/100 + (y-1)/400) - 477
def cum (y m : Int) : Int := if m ≤ 1 then 0 else if m = 2 then 31 else (if m = 3 then 59 else if m = 4 then 90 else if m = 5 then 120 else if m = 6 then 151 else if m = 7 then 181 else if m = 8 then 212 else if m = 9 then 243 else if m = 10 then 273 else if m = 11 then 304 else if m = 12 then 334 else 365) + lp y
def num (y m d : Int) : Int := ahead y + cum y m + d - 1
structure Right (y m d : Int) : Prop where
  y0 : -40000 ≤ y
  y1 : y ≤ 40000
  d0 : 1 ≤ d
  d1 : d ≤ len y m
theorem lp_01 (y : Int) : 0 ≤ lp y ∧ lp y ≤ 1 := by unfold lp; split <;> omega
theorem ahead_succ (y : Int) : ahead (y + 1) = ahead y + 365 + lp y := by
  unfold ahead lp; split <;> omega
theorem month_of {y m d : Int} (h : Right y m d) : 1 ≤ m ∧ m ≤ 12 := by
  obtain ⟨_, _, h0, h1⟩ := h
  unfold len at h1; have := lp_01 y; omega
theorem len_bd (y m : Int) : 0 ≤ len y m ∧ len y m ≤ 31 := by
  unfold len; have := lp_01 y; omega
theorem twelve {m : Int} (h1 : 1 ≤ m) (h2 : m ≤ 12) : m = 1 ∨ m = 2 ∨ m = 3 ∨ m = 4 ∨ m = 5 ∨ m = 6 ∨ m = 7 ∨ m = 8 ∨ m = 9 ∨ m = 10 ∨ m = 11 ∨ m = 12 := by omega
theorem cum_succ (y m : Int) (h1 : 1 ≤ m) (h2 : m ≤ 12) : cum y (m+1) = cum y m + len y m := by
  rcases twelve h1 h2 with rfl | rfl | rfl | rfl | rfl | rfl | rfl | rfl | rfl | rfl | rfl | rfl <;> simp [cum, len] <;> omega
theorem cum_bd (y m : Int) (h1 : 1 ≤ m) (h2 : m ≤ 12) : 0 ≤ cum y m ∧ cum y m + len y m ≤ 365 + lp y := by
  have := lp_01 y
  rcases twelve h1 h2 with rfl | rfl | rfl | rfl | rfl | rfl | rfl | rfl | rfl | rfl | rfl | rfl <;> simp [cum, len] <;> omega
theorem cum_lt (y m m' : Int) (h1 : 1 ≤ m) (h : m < m') (h2 : m' ≤ 12) : cum y m + len y m ≤ cum y m' := by
  have := lp_01 y
  rcases twelve h1 (by omega) with rfl | rfl | rfl | rfl | rfl | rfl | rfl | rfl | rfl | rfl | rfl | rfl <;>
  rcases twelve (m := m') (by omega) h2 with rfl | rfl | rfl | rfl | rfl | rfl | rfl | rfl | rfl | rfl | rfl | rfl <;> first | (exfalso; omega) | (simp [cum, len] <;> omega)
theorem ahead_mono (y y' : Int) (h : y < y') : ahead y + 365 + lp y ≤ ahead y' := by
  have : ahead (y + 1) ≤ ahead y' := by unfold ahead; omega
  rw [ahead_succ] at this; exact this
theorem num_bd {y m d : Int} (h : Right y m d) : ahead y ≤ num y m d ∧ num y m d < ahead (y + 1) := by
  obtain ⟨a, b⟩ := month_of h
  have c := cum_bd y m a b
  rw [ahead_succ]; unfold num
  have := h.d0; have := h.d1
  omega
def Lt (y m d y' m' d' : Int) : Prop := y < y' ∨ y = y' ∧ (m < m' ∨ m = m' ∧ d < d')
theorem num_lt {y m d y' m' d' : Int} (h : Right y m d) (h' : Right y' m' d') (hl : Lt y m d y' m' d') : num y m d < num y' m' d' := by
  rcases hl with hl | ⟨rfl, hl | ⟨rfl, hl⟩⟩
  · have a := num_bd h; have b := num_bd h'; have c := ahead_mono y y' hl; rw [ahead_succ] at a; omega
  · have a := month_of h; have b := month_of h'
    have c := cum_lt y m m' a.1 hl b.2
    have := h.d1; have := h'.d0
    unfold num; omega
  · unfold num; omega
theorem lt_or {y m d y' m' d' : Int} : Lt y m d y' m' d' ∨ (y = y' ∧ m = m' ∧ d = d') ∨ Lt y' m' d' y m d := by unfold Lt; omega
theorem num_inj {y m d y' m' d' : Int} (h : Right y m d) (h' : Right y' m' d') (e : num y m d = num y' m' d') : y = y' ∧ m = m' ∧ d = d' := by
  rcases lt_or (y := y) (m := m) (d := d) (y' := y') (m' := m') (d' := d') with l | l | l
  · have := num_lt h h' l; omega
  · exact l
  · have := num_lt h' h l; omega
theorem num_range {y m d : Int} (h : Right y m d) : -15329228 ≤ num y m d ∧ num y m d ≤ 13890537 := by
  have a := num_bd h; have := h.y0; have := h.y1
  unfold ahead at a; omega
/-! ### as the code reckons -/
def yst (r : Int) : Int := r * 365 + r / 4 - r / 100
def mst (k : Int) : Int := (k * 153 + 2) / 5
def yof (n : Int) : Int := (n - n / 1460 + n / 36524 - n / 146096) / 365
def cdays (y m d : Int) : Int :=
  if m < 3 then -719468 + (y-1)/400 * 146097 + yst ((y-1) % 400) + mst (m + 9) + d - 1
  else -719468 + y/400 * 146097 + yst (y % 400) + mst (m - 3) + d - 1
theorem cdays_eq (y m d : Int) (h1 : 1 ≤ m) (h2 : m ≤ 12) : cdays y m d = num y m d := by
  rcases twelve h1 h2 with rfl | rfl | rfl | rfl | rfl | rfl | rfl | rfl | rfl | rfl | rfl | rfl <;>
    simp [cdays, num, cum, mst, yst, ahead, lp] <;> omega
theorem yof_mono (a b : Int) (h0 : 0 ≤ a) (h : a ≤ b) (h1 : b < 146097) : yof a ≤ yof b := by
  have : a - a / 1460 + a / 36524 - a / 146096 ≤ b - b / 1460 + b / 36524 - b / 146096 := by
    by_cases hb : b = 146096
    · subst hb; omega
    · have : a / 146096 = 0 := by omega
      have : b / 146096 = 0 := by omega
      have : a - a / 1460 ≤ b - b/1460 := by omega
      have : a / 36524 ≤ b / 36524 := by omega
      omega
  unfold yof; omega
theorem yof_tab : ∀ y : Fin 400, yof (yst (y.val : Int)) = y.val ∧ (y.val < 399 → yof (yst ((y.val : Int) + 1) - 1) = y.val) := by decide +kernel
theorem yof_lo (y : Int) (h0 : 0 ≤ y) (h1 : y < 400) : yof (yst y) = y := by
  have := (yof_tab ⟨y.toNat, by omega⟩).1
  simp at this; rwa [show max y 0 = y by omega] at this
theorem yof_hi (y : Int) (h0 : 0 ≤ y) (h1 : y < 399) : yof (yst (y + 1) - 1) = y := by
  have := (yof_tab ⟨y.toNat, by omega⟩).2 (by simp; omega)
  simp at this; rwa [show max y 0 = y by omega] at this
theorem yst_bd (y : Int) (h0 : 0 ≤ y) (h1 : y < 400) : 0 ≤ yst y ∧ yst y ≤ 145731 := by unfold yst; omega
theorem yof_ok (n : Int) (h0 : 0 ≤ n) (h1 : n < 146097) : 0 ≤ yof n ∧ yof n < 400 ∧ yst (yof n) ≤ n ∧ (yof n < 399 → n < yst (yof n + 1)) := by
  have hb : 0 ≤ yof n ∧ yof n < 400 := by
    have l := yof_mono 0 n (by omega) h0 h1
    have r := yof_mono n 146096 h0 (by omega) (by omega)
    have e0 : yof 0 = 0 := by decide
    have e1 : yof 146096 = 399 := by decide
    omega
  obtain ⟨b0, b1⟩ := hb
  have s := yst_bd (yof n) b0 b1
  refine ⟨b0, b1, ?_, ?_⟩
  · by_cases h : yst (yof n) ≤ n
    · exact h
    · exfalso
      by_cases hz : yof n = 0
      · rw [hz] at h; exact h h0
      · have e := yof_hi (yof n - 1) (by omega) (by omega)
        rw [show yof n - 1 + 1 = yof n by omega] at e
        have := yof_mono n (yst (yof n) - 1) h0 (by omega) (by omega)
        omega
  · intro hy
    by_cases h : n < yst (yof n + 1)
    · exact h
    · exfalso
      have s := yst_bd (yof n + 1) (by omega) (by omega)
      have e := yof_lo (yof n + 1) (by omega) (by omega)
      have := yof_mono (yst (yof n + 1)) n (by omega) (by omega) (by omega)
      omega
def dcyc (n : Int) : Int := (n + 719468) / 146097
def dday (n : Int) : Int := (n + 719468) % 146097
def dk (n : Int) : Int := dday n - yst (yof (dday n))
def dmon (n : Int) : Int := (dk n * 5 + 2) / 153
def dY (n : Int) : Int := yof (dday n) + dcyc n * 400 + if 10 ≤ dmon n then 1 else 0
def dM (n : Int) : Int := (dmon n - if 10 ≤ dmon n then 12 else 0) + 3
def dD (n : Int) : Int := dk n - mst (dmon n) + 1
theorem dk_bd (n : Int) : 0 ≤ dk n ∧ dk n ≤ 365 := by
  have o := yof_ok (dday n) (by unfold dday; omega) (by unfold dday; omega)
  have : dday n < 146097 := by unfold dday; omega
  obtain ⟨a, b, c, d⟩ := o
  refine ⟨by unfold dk; omega, ?_⟩
  unfold dk
  by_cases h : yof (dday n) < 399
  · have := d h; unfold yst at this ⊢; omega
  · have : yof (dday n) = 399 := by omega
    rw [this]; have : yst 399 = 145731 := by decide
    omega
theorem date_len (n : Int) : 1 ≤ dD n ∧ dD n ≤ len (dY n) (dM n) ∧ 1 ≤ dM n ∧ dM n ≤ 12 := by
  have o := yof_ok (dday n) (by unfold dday; omega) (by unfold dday; omega)
  have hday : dday n < 146097 := by unfold dday; omega
  obtain ⟨a, b, c, d⟩ := o
  have k := dk_bd n
  have hm : 0 ≤ dmon n ∧ dmon n ≤ 11 := by unfold dmon; omega
  have hd1 : 1 ≤ dD n := by unfold dD mst dmon; omega
  have hd2 : dD n ≤ 31 := by unfold dD mst dmon; omega
  have h12 : dmon n = 0 ∨ dmon n = 1 ∨ dmon n = 2 ∨ dmon n = 3 ∨ dmon n = 4 ∨ dmon n = 5 ∨ dmon n = 6 ∨ dmon n = 7 ∨ dmon n = 8 ∨ dmon n = 9 ∨ dmon n = 10 ∨ dmon n = 11 := by omega
  have hdm := show dmon n = (dk n * 5 + 2) / 153 from rfl
  by_cases h11 : dmon n = 11
  · have e2 : dM n = 2 := by unfold dM; rw [h11]; rfl
    have e3 : dY n = yof (dday n) + dcyc n * 400 + 1 := by unfold dY; rw [h11]; rfl
    rw [e2, e3]
    refine ⟨hd1, ?_, by omega, by omega⟩
    have e4 : dD n = dk n - 336 := by unfold dD; rw [h11]; have : mst 11 = 337 := by decide
                                      omega
    rw [e4]
    have e5 : len (yof (dday n) + dcyc n * 400 + 1) 2 = 28 + lp (yof (dday n) + dcyc n * 400 + 1) := by simp [len]
    rw [e5]
    by_cases h : yof (dday n) < 399
    · have dd := d h
      have : dk n = dday n - yst (yof (dday n)) := rfl
      unfold yst at dd this
      unfold lp; split <;> omega
    · have h9 : yof (dday n) = 399 := by omega
      rw [h9]; unfold lp; rw [if_pos (by omega)]; omega
  · have e6 : len (dY n) (dM n) = if dmon n = 0 ∨ dmon n = 2 ∨ dmon n = 4 ∨ dmon n = 5 ∨ dmon n = 7 ∨ dmon n = 9 ∨ dmon n = 10 then 31 else 30 := by
      rcases h12 with h | h | h | h | h | h | h | h | h | h | h | h <;> first | (exact absurd h h11) | (simp [dM, len, h])
    refine ⟨hd1, ?_, by unfold dM; split <;> omega, by unfold dM; split <;> omega⟩
    rw [e6]
    unfold dD mst
    rcases h12 with h | h | h | h | h | h | h | h | h | h | h | h <;> first | (exact absurd h h11) | (rw [h] at hdm ⊢; simp; omega)
theorem date_num (n : Int) : num (dY n) (dM n) (dD n) = n := by
  obtain ⟨_, _, h1, h2⟩ := date_len n
  have o := yof_ok (dday n) (by unfold dday; omega) (by unfold dday; omega)
  rw [← cdays_eq _ _ _ h1 h2]
  have hn : n = -719468 + dcyc n * 146097 + dday n := by unfold dcyc dday; omega
  have hm : 0 ≤ dmon n ∧ dmon n ≤ 11 := by have k := dk_bd n; unfold dmon; omega
  have hk : dday n = dk n + yst (yof (dday n)) := by unfold dk; omega
  unfold cdays dY dM dD
  by_cases h : 10 ≤ dmon n
  · simp only [if_pos h]
    rw [if_pos (by omega)]
    have e1 : yof (dday n) + dcyc n * 400 + 1 - 1 = yof (dday n) + dcyc n * 400 := by omega
    have e2 : (yof (dday n) + dcyc n * 400) / 400 = dcyc n := by omega
    have e3 : (yof (dday n) + dcyc n * 400) % 400 = yof (dday n) := by omega
    have e4 : dmon n - 12 + 3 + 9 = dmon n := by omega
    rw [e1, e2, e3, e4]; omega
  · simp only [if_neg h]
    rw [if_neg (by omega)]
    have e2 : (yof (dday n) + dcyc n * 400 + 0) / 400 = dcyc n := by omega
    have e3 : (yof (dday n) + dcyc n * 400 + 0) % 400 = yof (dday n) := by omega
    have e4 : dmon n - 0 + 3 - 3 = dmon n := by omega
    rw [e2, e3, e4]; omega
theorem date_right (n : Int) (h0 : -15329228 ≤ n) (h1 : n ≤ 13890537) : Right (dY n) (dM n) (dD n) := by
  obtain ⟨a, b, c, d⟩ := date_len n
  have e := date_num n
  have f := cum_bd (dY n) (dM n) c d
  have hl := lp_01 (dY n)
  unfold num at e
  refine ⟨?_, ?_, a, b⟩
  · by_cases h : -40000 ≤ dY n
    · exact h
    · have : ahead (dY n) + 365 + lp (dY n) ≤ ahead (-40000) := ahead_mono _ _ (by omega)
      have : ahead (-40000) = -15329228 := by decide
      omega
  · by_cases h : dY n ≤ 40000
    · exact h
    · have : ahead 40001 ≤ ahead (dY n) := by unfold ahead; omega
      have : ahead 40001 = 13890538 := by decide
      omega
theorem date_of_num {y m d : Int} (h : Right y m d) : dY (num y m d) = y ∧ dM (num y m d) = m ∧ dD (num y m d) = d := by
  have r := num_range h
  exact num_inj (date_right _ r.1 r.2) h (date_num _)
end Go.Proofs.YtifgiclnofdnkaaGreatDoor.Cal
set_option linter.unusedVariables false
set_option linter.unusedSimpArgs false
namespace Go.Proofs.YtifgiclnofdnkaaGreatDoor
open Go.RowKit
def lpB (y : Int) : Bool := decide (Cal.lp y = 1)
theorem tz (y k : Int) : y.tmod k = 0 ↔ y % k = 0 := by
 rw [← Int.dvd_iff_tmod_eq_zero, ← Int.dvd_iff_emod_eq_zero]
theorem tmod_zero (y k : Int) : (y.tmod k == 0) = (y % k == 0) := by
 rw [Bool.eq_iff_iff]; simp [← Int.dvd_iff_tmod_eq_zero, ← Int.dvd_iff_emod_eq_zero]
theorem lpB_eq (y : Int) : lpB y = (y % 4 == 0 && (y % 100 != 0 || y % 400 == 0)) := by
 unfold lpB Cal.lp
 rw [Bool.eq_iff_iff]; simp
theorem lp_true {y : Int} (h : lpB y = true) : Cal.lp y = 1 := by simpa [lpB] using h
theorem lp_false {y : Int} (h : lpB y = false) : Cal.lp y = 0 := by
 have := Cal.lp_01 y; have : ¬ Cal.lp y = 1 := by simpa [lpB] using h
 omega
set_option maxHeartbeats 400000 in
theorem leap_any (y : Int) (w : World) :
  Calls Tryz.prog 126 #[.int .i64 y] w fun e w' => e = .returned (.bool (lpB y)) ∧ w = w' := by
 have t4 := tmod_zero y 4
 have t100 := tmod_zero y 100
 have t400 := tmod_zero y 400
 go_enter Tryz.func126, Tryz.ntmps126
 go_wp2
 all_goals go_ret
 all_goals (refine ⟨?_, rfl⟩; rw [lpB_eq])
 ·
  have h4 : y % 4 = 0 := by assumption
  have h100 : y % 100 = 0 := (tz y 100).1 (by assumption)
  simp [h4, h100]
 ·
  have h4 : y % 4 = 0 := by assumption
  have h100 : ¬ y % 100 = 0 := fun h => absurd ((tz y 100).2 h) (by assumption)
  simp [h4, h100]
 ·
  have h4 : ¬ y % 4 = 0 := by assumption
  simp [h4]
set_option maxHeartbeats 400000 in
theorem len_any (y m : Int) (w : World) :
  Calls Tryz.prog 106 #[.int .i64 y, .int .i64 m] w fun e w' => e = .returned (.int .i64 (Cal.len y m)) ∧ w = w' := by
 by_cases h2 : m = 2
 ·
  subst h2
  have hl : Cal.len y 2 = 28 + Cal.lp y := by simp [Cal.len]
  rw [hl]; clear hl
  go_enter Tryz.func106, Tryz.ntmps106
  go_wp2_with (go_at_call 126; refine (leap_any _ _).mono ?_; rintro e w' ⟨rfl, rfl⟩)
  ·
   have h : lpB y = true := by assumption
   go_ret; exact ⟨ret_int (by have := lp_true h; omega), rfl⟩
  ·
   have h : lpB y = false := by simp_all
   go_ret; exact ⟨ret_int (by have := lp_false h; omega), rfl⟩
 ·
  by_cases h : m = 1 ∨ m = 3 ∨ m = 4 ∨ m = 5 ∨ m = 6 ∨ m = 7 ∨ m = 8 ∨ m = 9 ∨ m = 10 ∨ m = 11 ∨ m = 12
  ·
   rcases h with rfl | rfl | rfl | rfl | rfl | rfl | rfl | rfl | rfl | rfl | rfl
   all_goals
    go_enter Tryz.func106, Tryz.ntmps106
    go_wp2
    go_ret; exact ⟨rfl, rfl⟩
  ·
   have hl : Cal.len y m = 0 := by unfold Cal.len; rw [if_neg (by omega), if_neg (by omega), if_neg h2]
   rw [hl]; clear hl
   have b1 : ¬ m = 1 := by omega
   have b3 : ¬ m = 3 := by omega
   have b4 : ¬ m = 4 := by omega
   have b5 : ¬ m = 5 := by omega
   have b6 : ¬ m = 6 := by omega
   have b7 : ¬ m = 7 := by omega
   have b8 : ¬ m = 8 := by omega
   have b9 : ¬ m = 9 := by omega
   have b10 : ¬ m = 10 := by omega
   have b11 : ¬ m = 11 := by omega
   have b12 : ¬ m = 12 := by omega
   clear h
   go_enter Tryz.func106, Tryz.ntmps106
   go_wp2
   go_ret; exact ⟨rfl, rfl⟩
end Go.Proofs.YtifgiclnofdnkaaGreatDoor
