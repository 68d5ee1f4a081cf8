/- Joined: RefA0, RefB0, Div, CivB, CivC, CivY, RefA. -/
import Derived.Test.YtifgiclnofdnkaaGreatDoorBy10
import Derived.Test.YtifgiclnofdnkaaGreatDoorBy01
set_option linter.unusedVariables false
set_option linter.unusedSimpArgs false
namespace Go.Proofs.YtifgiclnofdnkaaGreatDoor
open Go.RowKit
set_option maxHeartbeats 400000 in
theorem rleap_any (y : Int) (w : World) :
  Calls Tryz.prog 109 #[.int .i64 y] w fun e w' => e = .returned (.bool (lpB y)) ∧ w = w' := by
 have t4 := tmod_zero y 4
 have t100 := tmod_zero y 100
 have t400 := tmod_zero y 400
 go_enter Tryz.func109, Tryz.ntmps109
 go_wp2
 all_goals go_ret
 all_goals (refine ⟨?_, rfl⟩; rw [lpB_eq])
 ·
  have h4 : y % 4 = 0 := by assumption
  have h100 : y % 100 = 0 := (tz y 100).1 (by assumption)
  simp [h4, h100]
 ·
  have h4 : y % 4 = 0 := by assumption
  have h100 : ¬ y % 100 = 0 := fun h => absurd ((tz y 100).2 h) (by assumption)
  simp [h4, h100]
 ·
  have h4 : ¬ y % 4 = 0 := by assumption
  have h400 : ¬ y % 400 = 0 := by omega
  rw [show (y % 4 == 0) = false by simpa using h4, show (y % 400 == 0) = false by simpa using h400]; rfl
set_option maxHeartbeats 2000000 in
theorem rlen_any (y m : Int) (w : World) :
  Calls Tryz.prog 83 #[.int .i64 y, .int .i64 m] w fun e w' => e = .returned (.int .i64 (Cal.len y m)) ∧ Below w.heap.size w w' := by
 by_cases h : 1 ≤ m ∧ m ≤ 12
 ·
  by_cases h2 : m = 2
  ·
   subst h2
   have hl : Cal.len y 2 = 28 + Cal.lp y := by simp [Cal.len]
   rw [hl]; clear hl h
   cases hb : lpB y
   ·
    have v := lp_false hb
    have V := Lib.hid v; clear v
    go_enter Tryz.func83, Tryz.ntmps83
    go_wp2_with (go_at_call 109; refine (rleap_any _ _).mono ?_; rintro e w' ⟨rfl, rfl⟩)
    go_ret; exact ⟨ret_int (by have := V.out; omega), by go_grown⟩
   ·
    have v := lp_true hb
    have V := Lib.hid v; clear v
    go_enter Tryz.func83, Tryz.ntmps83
    go_wp2_with (go_at_call 109; refine (rleap_any _ _).mono ?_; rintro e w' ⟨rfl, rfl⟩)
    go_ret; exact ⟨ret_int (by have := V.out; omega), by go_grown⟩
  ·
   rcases Cal.twelve h.1 h.2 with rfl | rfl | rfl | rfl | rfl | rfl | rfl | rfl | rfl | rfl | rfl | rfl
   case inr.inl => exact absurd rfl h2
   all_goals
    clear h h2
    go_enter Tryz.func83, Tryz.ntmps83
    go_wp2
    go_ret; exact ⟨rfl, by go_grown⟩
 ·
  have hl : Cal.len y m = 0 := by unfold Cal.len; rw [if_neg (by omega), if_neg (by omega), if_neg (by omega)]
  rw [hl]; clear hl
  by_cases h1 : m < 1
  ·
   clear h
   go_enter Tryz.func83, Tryz.ntmps83
   go_wp2
   go_ret; exact ⟨rfl, by go_grown⟩
  ·
   have h12 : 12 < m := by omega
   clear h
   go_enter Tryz.func83, Tryz.ntmps83
   go_wp2
   go_ret; exact ⟨rfl, by go_grown⟩
theorem tdiv_lo {a b : Int} (hb : 1 ≤ b) (hs : a < 0) (hr : a % b = 0) : a.tdiv b = a / b ∧ a.tmod b = 0 := by
 have h : b ∣ a := Int.dvd_of_emod_eq_zero hr
 exact ⟨Int.tdiv_eq_ediv_of_dvd h, Int.tmod_eq_zero_of_dvd h⟩
theorem tdiv_mid {a b : Int} (hb : 1 ≤ b) (hs : a < 0) (hr : ¬ a % b = 0) : a.tdiv b = a / b + 1 ∧ a.tmod b = a % b - b := by
 have h1 : a.tdiv b = a / b + 1 := by
  rw [Int.tdiv_eq_ediv]
  have : ¬ (0 ≤ a ∨ b ∣ a) := by
   rintro (h | h)
   ·
    omega
   ·
    exact hr (Int.emod_eq_zero_of_dvd h)
  rw [if_neg this, Int.sign_eq_one_of_pos (by omega)]
 refine ⟨h1, ?_⟩
 have e1 := Int.tmod_def a b
 have e2 := Int.emod_def a b
 rw [h1] at e1
 rw [e1, e2, Int.mul_add]; omega
theorem ediv_ge {a b : Int} (ha : -9223372036854775808 ≤ a) (hs : a < 0) (hb : 1 ≤ b) : -9223372036854775808 ≤ a / b ∧ a / b < 0 := by
 refine ⟨?_, Int.ediv_neg_of_neg_of_pos hs (by omega)⟩
 have : a ≤ a / b := by
  rw [Int.le_ediv_iff_mul_le (by omega)]
  have h2 := Int.mul_le_mul_of_nonpos_left (a := a) (b := b) (c := 1) (by omega) hb
  omega
 omega
set_option maxHeartbeats 400000 in
theorem div_pos (a b : Int) (w : World) (ha : -9223372036854775808 ≤ a) (ha' : a ≤ 9223372036854775807) (hb : 1 ≤ b) (hb' : b ≤ 1000000) :
  Calls Tryz.prog 71 #[.int .i64 a, .int .i64 b] w fun e w' => e = .returned (.tuple #[.int .i64 (a / b), .int .i64 (a % b), .int .i64 0]) ∧ ∃ n, w' = w.drewN n := by
 have hb0 : (b == 0) = false := by simp; omega
 have hb1 : (b == -1) = false := by simp; omega
 have hm0 : 0 ≤ a % b := Int.emod_nonneg a (by omega)
 have hm1 : a % b < b := Int.emod_lt_of_pos a (by omega)
 have hq0 : 0 ≤ a → 0 ≤ a / b := fun h => Int.ediv_nonneg h (by omega)
 by_cases hs : 0 ≤ a
 ·
  have ht : (!(decide (a % b < 0) == decide (b < 0))) = false := by
   rw [decide_eq_false (by omega), decide_eq_false (by omega)]; rfl
  clear hq0
  go_enter Tryz.func71, Tryz.ntmps71
  go_wp2
  all_goals (go_quiet (fail))
  all_goals (go_wp2)
  all_goals (go_ret3; refine ⟨?_, _, rfl⟩; first | rfl | simp [*])
 ·
  clear hq0
  by_cases hr : a % b = 0
  ·
   obtain ⟨e1, e2⟩ := tdiv_lo hb (by omega) hr
   obtain ⟨hq0, hq1⟩ := ediv_ge ha (by omega) hb
   obtain ⟨c, hc⟩ : ∃ c, (a == -9223372036854775808) = c := ⟨_, rfl⟩
   go_enter Tryz.func71, Tryz.ntmps71
   go_wp2
   all_goals (go_quiet (fail))
   all_goals (go_wp2)
   all_goals (go_ret3; refine ⟨?_, _, rfl⟩; first | rfl | simp [*])
  ·
   obtain ⟨e1, e2⟩ := tdiv_mid hb (by omega) hr
   obtain ⟨c, hc⟩ : ∃ c, (a == -9223372036854775808) = c := ⟨_, rfl⟩
   have hm2 : 1 ≤ a % b := by omega
   obtain ⟨hq0, hq1⟩ := ediv_ge ha (by omega) hb
   have ht : (!(decide (a % b - b < 0) == decide (b < 0))) = true := by
    rw [decide_eq_true (by omega), decide_eq_false (by omega)]; rfl
   have hn : (a % b - b != 0) = true := by rw [bne_iff_ne]; omega
   go_enter Tryz.func71, Tryz.ntmps71
   go_wp2
   all_goals (go_quiet (fail))
   all_goals (go_wp2)
   all_goals (go_ret3; refine ⟨?_, _, rfl⟩; first | rfl | (simp [*]; omega))
end Go.Proofs.YtifgiclnofdnkaaGreatDoor
set_option linter.unusedVariables false
set_option linter.unusedSimpArgs false
namespace Go.Proofs.YtifgiclnofdnkaaGreatDoor
open Go.RowKit Go
def rightB (y m d : Int) : Bool := decide (-40000 ≤ y ∧ y ≤ 40000 ∧ 1 ≤ d ∧ d ≤ Cal.len y m)
theorem right_true {y m d : Int} : rightB y m d = true ↔ Cal.Right y m d := by
 unfold rightB; simp; exact ⟨fun ⟨a, b, c, d⟩ => ⟨a, b, c, d⟩, fun ⟨a, b, c, d⟩ => ⟨a, b, c, d⟩⟩
theorem right_br {y m d : Int} {b : Bool} (h : (-40000 ≤ y ∧ y ≤ 40000 ∧ 1 ≤ d ∧ d ≤ Cal.len y m) ↔ b = true) : Ending.returned (.bool b) = .returned (.bool (rightB y m d)) := by
 unfold rightB; congr 2; rw [Bool.eq_iff_iff]; simp [h]
set_option maxHeartbeats 400000 in
theorem right_any (y m d : Int) (w : World) :
  Calls Tryz.prog 80 #[.agg #[.int .i64 y, .int .i64 m, .int .i64 d]] w fun e w' => e = .returned (.bool (rightB y m d)) ∧ Below w.heap.size w w' := by
 by_cases h1 : -40000 ≤ y
 ·
  by_cases h2 : y ≤ 40000
  ·
   by_cases h3 : 1 ≤ d
   ·
    go_enter Tryz.func80, Tryz.ntmps80
    go_wp2
    go_quiet ((go_at_call 106; exact q_same (len_any _ _ _)))
    go_wp2
    go_ret
    exact ⟨right_br (by simp [h1, h2, h3]), below_new _ _ _⟩
   ·
    have hd : decide (1 ≤ d) = false := by simpa using h3
    go_enter Tryz.func80, Tryz.ntmps80
    go_wp2
    go_quiet (fail)
    go_wp2
    go_ret
    exact ⟨right_br (by simp; omega), below_new _ _ _⟩
  ·
   have hd : decide (y ≤ 40000) = false := by simpa using h2
   go_enter Tryz.func80, Tryz.ntmps80
   go_wp2
   go_quiet (fail)
   go_wp2
   go_ret
   exact ⟨right_br (by simp; omega), below_new _ _ _⟩
 ·
  have hd : decide (-40000 ≤ y) = false := by simpa using h1
  go_enter Tryz.func80, Tryz.ntmps80
  go_wp2
  go_quiet (fail)
  go_wp2
  go_ret
  exact ⟨right_br (by simp; omega), below_new _ _ _⟩
set_option maxHeartbeats 400000 in
theorem yearStart_any (y : Int) (w : World) (h0 : 0 ≤ y) (h1 : y ≤ 400) :
  Calls Tryz.prog 73 #[.int .i64 y] w fun e w' => e = .returned (.int .i64 (Cal.yst y)) ∧ w = w' := by
 go_enter Tryz.func73, Tryz.ntmps73
 go_wp2
 go_ret
 exact ⟨rfl, rfl⟩
set_option maxHeartbeats 400000 in
theorem monthStart_any (m : Int) (w : World) (h0 : 0 ≤ m) (h1 : m ≤ 12) :
  Calls Tryz.prog 74 #[.int .i64 m] w fun e w' => e = .returned (.int .i64 (Cal.mst m)) ∧ w = w' := by
 go_enter Tryz.func74, Tryz.ntmps74
 go_wp2
 go_ret
 exact ⟨rfl, rfl⟩
set_option maxHeartbeats 400000 in
theorem yearOf_any (n : Int) (w : World) (h0 : 0 ≤ n) (h1 : n < 146097) :
  Calls Tryz.prog 72 #[.int .i64 n] w fun e w' => e = .returned (.int .i64 (Cal.yof n)) ∧ w = w' := by
 go_enter Tryz.func72, Tryz.ntmps72
 go_wp2
 go_ret
 exact ⟨rfl, rfl⟩
theorem mst_bd (m : Int) (h0 : 0 ≤ m) (h1 : m ≤ 12) : 0 ≤ Cal.mst m ∧ Cal.mst m ≤ 367 := by unfold Cal.mst; omega
set_option maxHeartbeats 400000 in
theorem days_no (y m d : Int) (w : World) (h : rightB y m d = false) :
  Calls Tryz.prog 95 #[.agg #[.int .i64 y, .int .i64 m, .int .i64 d]] w fun e w' => e = .returned (.tuple #[.int .i64 0, .int .i64 1]) ∧ Below w.heap.size w w' := by
 go_enter Tryz.func95, Tryz.ntmps95
 go_wp2_with (go_at_call 80; refine (right_any _ _ _ _).mono ?_; rintro e w' ⟨rfl, hb⟩; obtain ⟨hc, hf⟩ := bcell hb)
 go_ret2
 exact ⟨rfl, ((Below.refl _ _).alloc (Nat.le_refl _) _).trans (hb.mono (by simp))⟩
set_option maxHeartbeats 400000 in
theorem days_yes (y m d : Int) (w : World) (h : rightB y m d = true) :
  Calls Tryz.prog 95 #[.agg #[.int .i64 y, .int .i64 m, .int .i64 d]] w fun e w' => e = .returned (.tuple #[.int .i64 (Cal.num y m d), .int .i64 0]) ∧ Below w.heap.size w w' := by
 have hr := right_true.1 h
 obtain ⟨hm1, hm2⟩ := Cal.month_of hr
 have hl := Cal.len_bd y m
 obtain ⟨hy0, hy1, hd0, hd1⟩ := hr
 have hd2 : d ≤ 31 := by omega
 clear hd1 hl
 rw [← Cal.cdays_eq y m d hm1 hm2]
 by_cases hm : m < 3
 ·
  have e : Cal.cdays y m d = -719468 + (y-1)/400 * 146097 + Cal.yst ((y-1) % 400) + Cal.mst (m - 3 + 12) + d - 1 := by
   rw [show m - 3 + 12 = m + 9 by omega]; exact if_pos hm
  have E := Lib.hid e; clear e
  have q0 : -101 ≤ (y-1)/400 := by omega
  have q1 : (y-1)/400 ≤ 100 := by omega
  have r0 : 0 ≤ (y-1)%400 := by omega
  have r1 : (y-1)%400 ≤ 399 := by omega
  obtain ⟨s0, s1⟩ := Cal.yst_bd ((y-1)%400) r0 (by omega)
  obtain ⟨t0, t1⟩ := mst_bd (m - 3 + 12) (by omega) (by omega)
  go_enter Tryz.func95, Tryz.ntmps95
  go_wp2_with (go_at_call 80; refine (right_any _ _ _ _).mono ?_; rintro e w' ⟨rfl, hb⟩; obtain ⟨hc, hf⟩ := bcell hb)
  go_quiet (fail)
  go_wp2_with (go_at_call 71; refine (div_pos _ _ _ (by omega) (by omega) (by omega) (by omega)).mono ?_; rintro e w' ⟨rfl, n, rfl⟩)
  go_quiet (first
   | (go_at_call 73; refine q_same2 (yearStart_any _ _ (by omega) (by omega)))
   | (go_at_call 74; refine q_same2 (monthStart_any _ _ (by omega) (by omega))))
  go_wp2
  go_ret2
  refine ⟨?_, _root_.Go.below_drewN (_root_.Go.below_drewN (((Below.refl _ _).alloc (Nat.le_refl _) _).trans (hb.mono (by simp))) _) _⟩
  rw [E.out]; rfl
 ·
  have e : Cal.cdays y m d = -719468 + y/400 * 146097 + Cal.yst (y % 400) + Cal.mst (m - 3) + d - 1 := if_neg hm
  have E := Lib.hid e; clear e
  have q0 : -101 ≤ (y)/400 := by omega
  have q1 : (y)/400 ≤ 100 := by omega
  have r0 : 0 ≤ (y)%400 := by omega
  have r1 : (y)%400 ≤ 399 := by omega
  obtain ⟨s0, s1⟩ := Cal.yst_bd ((y)%400) r0 (by omega)
  obtain ⟨t0, t1⟩ := mst_bd (m - 3) (by omega) (by omega)
  go_enter Tryz.func95, Tryz.ntmps95
  go_wp2_with (go_at_call 80; refine (right_any _ _ _ _).mono ?_; rintro e w' ⟨rfl, hb⟩; obtain ⟨hc, hf⟩ := bcell hb)
  go_quiet (fail)
  go_wp2_with (go_at_call 71; refine (div_pos _ _ _ (by omega) (by omega) (by omega) (by omega)).mono ?_; rintro e w' ⟨rfl, n, rfl⟩)
  go_quiet (first
   | (go_at_call 73; refine q_same2 (yearStart_any _ _ (by omega) (by omega)))
   | (go_at_call 74; refine q_same2 (monthStart_any _ _ (by omega) (by omega))))
  go_wp2
  go_ret2
  refine ⟨?_, _root_.Go.below_drewN (_root_.Go.below_drewN (((Below.refl _ _).alloc (Nat.le_refl _) _).trans (hb.mono (by simp))) _) _⟩
  rw [E.out]; rfl
end Go.Proofs.YtifgiclnofdnkaaGreatDoor
set_option linter.unusedVariables false
set_option linter.unusedSimpArgs false
namespace Go.Proofs.YtifgiclnofdnkaaGreatDoor
open Go.RowKit
set_option maxHeartbeats 400000 in
theorem date_no (n : Int) (w : World) (h : n < -15329228 ∨ 13890537 < n) :
  Calls Tryz.prog 43 #[.int .i64 n] w fun e w' => e = .returned (.tuple #[.agg #[.int .i64 0, .int .i64 0, .int .i64 0], .int .i64 1]) ∧ Below w.heap.size w w' := by
 rcases h with h | h
 ·
  go_enter Tryz.func43, Tryz.ntmps43
  go_wp2
  exact bodyPost_ret (v := .tuple #[.agg #[.int .i64 0, .int .i64 0, .int .i64 0], .int .i64 1]) (by simp [results, Tryz.results43, go_sem]) rfl ⟨rfl, (Below.refl _ _).alloc (Nat.le_refl _) _⟩
 ·
  have h' : ¬ n < -15329228 := by omega
  go_enter Tryz.func43, Tryz.ntmps43
  go_wp2
  exact bodyPost_ret (v := .tuple #[.agg #[.int .i64 0, .int .i64 0, .int .i64 0], .int .i64 1]) (by simp [results, Tryz.results43, go_sem]) rfl ⟨rfl, (Below.refl _ _).alloc (Nat.le_refl _) _⟩
set_option maxHeartbeats 600000 in
theorem date_yes (n : Int) (w : World) (h0 : -15329228 ≤ n) (h1 : n ≤ 13890537) :
  Calls Tryz.prog 43 #[.int .i64 n] w fun e w' => e = .returned (.tuple #[.agg #[.int .i64 (Cal.dY n), .int .i64 (Cal.dM n), .int .i64 (Cal.dD n)], .int .i64 0]) ∧ Below w.heap.size w w' := by
 have D0 : 0 ≤ (n + 719468) % 146097 := by omega
 have D1 : (n + 719468) % 146097 < 146097 := by omega
 have C0 : -110 ≤ (n + 719468) / 146097 := by omega
 have C1 : (n + 719468) / 146097 ≤ 110 := by omega
 obtain ⟨Y0, Y1, _, _⟩ := Cal.yof_ok _ D0 D1
 have S := Cal.yst_bd (Cal.yof ((n + 719468) % 146097)) Y0 (by omega)
 obtain ⟨S0, S1⟩ := S
 obtain ⟨k0, k1⟩ := Cal.dk_bd n
 unfold Cal.dk Cal.dday at k0 k1
 have m0 : 0 ≤ (((n + 719468) % 146097 - Cal.yst (Cal.yof ((n + 719468) % 146097))) * 5 + 2) / 153 := by omega
 have m1 : (((n + 719468) % 146097 - Cal.yst (Cal.yof ((n + 719468) % 146097))) * 5 + 2) / 153 ≤ 11 := by omega
 obtain ⟨t0, t1⟩ := mst_bd _ m0 (by omega)
 by_cases hm : 10 ≤ (((n + 719468) % 146097 - Cal.yst (Cal.yof ((n + 719468) % 146097))) * 5 + 2) / 153
 ·
  have e : (Cal.dY n = Cal.yof ((n + 719468) % 146097) + (n + 719468) / 146097 * 400 + 1 ∧ Cal.dM n = (((n + 719468) % 146097 - Cal.yst (Cal.yof ((n + 719468) % 146097))) * 5 + 2) / 153 - 12 + 3) ∧ Cal.dD n = ((n + 719468) % 146097 - Cal.yst (Cal.yof ((n + 719468) % 146097))) - Cal.mst ((((n + 719468) % 146097 - Cal.yst (Cal.yof ((n + 719468) % 146097))) * 5 + 2) / 153) + 1 := by
   refine ⟨⟨?_, ?_⟩, rfl⟩
   ·
    unfold Cal.dY; rw [show Cal.dmon n = (((n + 719468) % 146097 - Cal.yst (Cal.yof ((n + 719468) % 146097))) * 5 + 2) / 153 from rfl]; first | (rw [if_pos hm]; rfl) | (rw [if_neg hm, Int.add_zero]; rfl)
   ·
    unfold Cal.dM; rw [show Cal.dmon n = (((n + 719468) % 146097 - Cal.yst (Cal.yof ((n + 719468) % 146097))) * 5 + 2) / 153 from rfl]; first | rw [if_pos hm] | (rw [if_neg hm, Int.sub_zero])
  have E := Lib.hid e; clear e
  go_enter Tryz.func43, Tryz.ntmps43
  go_wp2_with (first
   | (go_at_call 71; refine (div_pos _ _ _ (by omega) (by omega) (by omega) (by omega)).mono ?_; rintro e w' ⟨rfl, j, rfl⟩)
   | (go_at_call 72; refine (yearOf_any _ _ (by omega) (by omega)).mono ?_; rintro e w' ⟨rfl, rfl⟩)
   | (go_at_call 73; refine (yearStart_any _ _ (by omega) (by omega)).mono ?_; rintro e w' ⟨rfl, rfl⟩)
   | (go_at_call 74; refine (monthStart_any _ _ (by omega) (by omega)).mono ?_; rintro e w' ⟨rfl, rfl⟩))
  refine bodyPost_ret (v := .tuple #[.agg #[.int .i64 (Cal.yof ((n + 719468) % 146097) + (n + 719468) / 146097 * 400 + 1), .int .i64 ((((n + 719468) % 146097 - Cal.yst (Cal.yof ((n + 719468) % 146097))) * 5 + 2) / 153 - 12 + 3), .int .i64 (((n + 719468) % 146097 - Cal.yst (Cal.yof ((n + 719468) % 146097))) - Cal.mst ((((n + 719468) % 146097 - Cal.yst (Cal.yof ((n + 719468) % 146097))) * 5 + 2) / 153) + 1)], .int .i64 0]) (by simp [results, Tryz.results43, go_sem]) rfl ⟨?_, ?_⟩
  ·
   obtain ⟨⟨e1, e2⟩, e3⟩ := E.out
   rw [e1, e2, e3]
  ·
   repeat (first | exact Below.refl _ _ | refine _root_.Go.below_drewN ?_ _ | refine Below.setCell ?_ (by simp) _ | refine Below.alloc ?_ (by simp) _)
 ·
  have e : (Cal.dY n = Cal.yof ((n + 719468) % 146097) + (n + 719468) / 146097 * 400 ∧ Cal.dM n = (((n + 719468) % 146097 - Cal.yst (Cal.yof ((n + 719468) % 146097))) * 5 + 2) / 153 + 3) ∧ Cal.dD n = ((n + 719468) % 146097 - Cal.yst (Cal.yof ((n + 719468) % 146097))) - Cal.mst ((((n + 719468) % 146097 - Cal.yst (Cal.yof ((n + 719468) % 146097))) * 5 + 2) / 153) + 1 := by
   refine ⟨⟨?_, ?_⟩, rfl⟩
   ·
    unfold Cal.dY; rw [show Cal.dmon n = (((n + 719468) % 146097 - Cal.yst (Cal.yof ((n + 719468) % 146097))) * 5 + 2) / 153 from rfl]; first | (rw [if_pos hm]; rfl) | (rw [if_neg hm, Int.add_zero]; rfl)
   ·
    unfold Cal.dM; rw [show Cal.dmon n = (((n + 719468) % 146097 - Cal.yst (Cal.yof ((n + 719468) % 146097))) * 5 + 2) / 153 from rfl]; first | rw [if_pos hm] | (rw [if_neg hm, Int.sub_zero])
  have E := Lib.hid e; clear e
  go_enter Tryz.func43, Tryz.ntmps43
  go_wp2_with (first
   | (go_at_call 71; refine (div_pos _ _ _ (by omega) (by omega) (by omega) (by omega)).mono ?_; rintro e w' ⟨rfl, j, rfl⟩)
   | (go_at_call 72; refine (yearOf_any _ _ (by omega) (by omega)).mono ?_; rintro e w' ⟨rfl, rfl⟩)
   | (go_at_call 73; refine (yearStart_any _ _ (by omega) (by omega)).mono ?_; rintro e w' ⟨rfl, rfl⟩)
   | (go_at_call 74; refine (monthStart_any _ _ (by omega) (by omega)).mono ?_; rintro e w' ⟨rfl, rfl⟩))
  refine bodyPost_ret (v := .tuple #[.agg #[.int .i64 (Cal.yof ((n + 719468) % 146097) + (n + 719468) / 146097 * 400), .int .i64 ((((n + 719468) % 146097 - Cal.yst (Cal.yof ((n + 719468) % 146097))) * 5 + 2) / 153 + 3), .int .i64 (((n + 719468) % 146097 - Cal.yst (Cal.yof ((n + 719468) % 146097))) - Cal.mst ((((n + 719468) % 146097 - Cal.yst (Cal.yof ((n + 719468) % 146097))) * 5 + 2) / 153) + 1)], .int .i64 0]) (by simp [results, Tryz.results43, go_sem]) rfl ⟨?_, ?_⟩
  ·
   obtain ⟨⟨e1, e2⟩, e3⟩ := E.out
   rw [e1, e2, e3]
  ·
   repeat (first | exact Below.refl _ _ | refine _root_.Go.below_drewN ?_ _ | refine Below.setCell ?_ (by simp) _ | refine Below.alloc ?_ (by simp) _)
set_option maxHeartbeats 400000 in
theorem rdiv_pos (a b : Int) (w : World) (ha : -9223372036854775808 ≤ a) (ha' : a ≤ 9223372036854775807) (hb : 1 ≤ b) (hb' : b ≤ 1000000) :
  Calls Tryz.prog 84 #[.int .i64 a, .int .i64 b] w fun e w' => e = .returned (.tuple #[.int .i64 (a / b), .int .i64 (a % b), .int .i64 0]) ∧ ∃ n, w' = w.drewN n := by
 have hb0 : (b == 0) = false := by simp; omega
 have hb1 : (b == -1) = false := by simp; omega
 have hm0 : 0 ≤ a % b := Int.emod_nonneg a (by omega)
 have hm1 : a % b < b := Int.emod_lt_of_pos a (by omega)
 by_cases hs : 0 ≤ a
 ·
  have ht : (!(decide (a % b < 0) == decide (b < 0))) = false := by
   rw [decide_eq_false (by omega), decide_eq_false (by omega)]; rfl
  go_enter Tryz.func84, Tryz.ntmps84
  go_wp2
  all_goals (go_ret3; refine ⟨?_, 0, rfl⟩; first | rfl | simp [*])
 ·
  by_cases hr : a % b = 0
  ·
   obtain ⟨e1, e2⟩ := tdiv_lo hb (by omega) hr
   obtain ⟨hq0, hq1⟩ := ediv_ge ha (by omega) hb
   obtain ⟨c, hc⟩ : ∃ c, (a == -9223372036854775808) = c := ⟨_, rfl⟩
   go_enter Tryz.func84, Tryz.ntmps84
   go_wp2
   all_goals (go_ret3; refine ⟨?_, 0, rfl⟩; first | rfl | simp [*])
  ·
   obtain ⟨e1, e2⟩ := tdiv_mid hb (by omega) hr
   obtain ⟨c, hc⟩ : ∃ c, (a == -9223372036854775808) = c := ⟨_, rfl⟩
   have hm2 : 1 ≤ a % b := by omega
   obtain ⟨hq0, hq1⟩ := ediv_ge ha (by omega) hb
   have ht : (!(decide (a % b - b < 0) == decide (b < 0))) = true := by
    rw [decide_eq_true (by omega), decide_eq_false (by omega)]; rfl
   have hn : (a % b - b != 0) = true := by rw [bne_iff_ne]; omega
   go_enter Tryz.func84, Tryz.ntmps84
   go_wp2
   all_goals (go_ret3; refine ⟨?_, 0, rfl⟩; first | rfl | (simp [*]; done) | (simp [*]; omega))
set_option maxHeartbeats 400000 in
theorem floor_pos (a b : Int) (w : World) (ha : -9223372036854775808 ≤ a) (ha' : a ≤ 9223372036854775807) (hb : 1 ≤ b) (hb' : b ≤ 1000000) :
  Calls Tryz.prog 53 #[.int .i64 a, .int .i64 b] w fun e w' => e = .returned (.int .i64 (a / b)) ∧ ∃ n, w' = w.drewN n := by
 go_enter Tryz.func53, Tryz.ntmps53
 go_wp2_with (go_at_call 84; refine (rdiv_pos _ _ _ ha ha' hb hb').mono ?_; rintro e w' ⟨rfl, k, rfl⟩)
 go_ret
 exact ⟨rfl, _, rfl⟩
set_option maxHeartbeats 400000 in
theorem rest_pos (a b : Int) (w : World) (ha : -9223372036854775808 ≤ a) (ha' : a ≤ 9223372036854775807) (hb : 1 ≤ b) (hb' : b ≤ 1000000) :
  Calls Tryz.prog 54 #[.int .i64 a, .int .i64 b] w fun e w' => e = .returned (.int .i64 (a % b)) ∧ ∃ n, w' = w.drewN n := by
 go_enter Tryz.func54, Tryz.ntmps54
 go_wp2_with (go_at_call 84; refine (rdiv_pos _ _ _ ha ha' hb hb').mono ?_; rintro e w' ⟨rfl, k, rfl⟩)
 go_ret
 exact ⟨rfl, _, rfl⟩
set_option maxHeartbeats 400000 in
theorem leaps_any (y : Int) (w : World) (h0 : -1000000 ≤ y) (h1 : y ≤ 1000000) :
  Calls Tryz.prog 108 #[.int .i64 y] w fun e w' => e = .returned (.int .i64 (y / 4 - y / 100 + y / 400)) ∧ ∃ k, w' = w.drewN k := by
 have a0 : -250000 ≤ y / 4 := by omega
 have a1 : y / 4 ≤ 250000 := by omega
 have b0 : -10000 ≤ y / 100 := by omega
 have b1 : y / 100 ≤ 10000 := by omega
 have c0 : -2500 ≤ y / 400 := by omega
 have c1 : y / 400 ≤ 2500 := by omega
 go_enter Tryz.func108, Tryz.ntmps108
 go_wp2_with (go_at_call 53; refine (floor_pos _ _ _ (by omega) (by omega) (by omega) (by omega)).mono ?_; rintro e w' ⟨rfl, k, rfl⟩)
 go_ret
 exact ⟨rfl, _, rfl⟩
set_option maxHeartbeats 400000 in
theorem ahead_any (y : Int) (w : World) (h0 : -100000 ≤ y) (h1 : y ≤ 100000) :
  Calls Tryz.prog 82 #[.int .i64 y] w fun e w' => e = .returned (.int .i64 (Cal.ahead y)) ∧ ∃ k, w' = w.drewN k := by
 have a0 : -26000 ≤ (y - 1) / 4 := by omega
 have a1 : (y - 1) / 4 ≤ 26000 := by omega
 have b0 : -1100 ≤ (y - 1) / 100 := by omega
 have b1 : (y - 1) / 100 ≤ 1100 := by omega
 have c0 : -300 ≤ (y - 1) / 400 := by omega
 have c1 : (y - 1) / 400 ≤ 300 := by omega
 go_enter Tryz.func82, Tryz.ntmps82
 go_wp2_with fail
 refine (leaps_any _ _ (by omega) (by omega)).mono ?_; rintro e w1 ⟨rfl, k1, rfl⟩
 go_wp2_with fail
 refine (leaps_any 1969 _ (by omega) (by omega)).mono ?_; rintro e w1 ⟨rfl, k2, rfl⟩
 rw [show (1969 : Int) / 4 - 1969 / 100 + 1969 / 400 = 477 by decide]
 go_wp2_with fail
 go_ret
 exact ⟨rfl, _, rfl⟩
end Go.Proofs.YtifgiclnofdnkaaGreatDoor
