/- Joined: CivB, CivC, CivY, RefA, One. -/
import Derived.Test.YtifgiclnofdnkaaGreatDoorBx09
import Derived.Test.YtifgiclnofdnkaaGreatDoorBx01
set_option linter.unusedVariables false
set_option linter.unusedSimpArgs false
namespace Go.Proofs.YtifgiclnofdnkaaGreatDoor
open Go.RowKit Go
def rightB (y m d : Int) : Bool := decide (-40000 ≤ y ∧ y ≤ 40000 ∧ 1 ≤ d ∧ d ≤ Cal.len y m)
theorem right_true {y m d : Int} : rightB y m d = true ↔ Cal.Right y m d := by
 unfold rightB; simp; exact ⟨fun ⟨a, b, c, d⟩ => ⟨a, b, c, d⟩, fun ⟨a, b, c, d⟩ => ⟨a, b, c, d⟩⟩
theorem right_br {y m d : Int} {b : Bool} (h : (-40000 ≤ y ∧ y ≤ 40000 ∧ 1 ≤ d ∧ d ≤ Cal.len y m) ↔ b = true) : Ending.returned (.bool b) = .returned (.bool (rightB y m d)) := by
 unfold rightB; congr 2; rw [Bool.eq_iff_iff]; simp [h]
set_option maxHeartbeats 400000 in
theorem right_any (y m d : Int) (w : World) :
  Calls Tryz.prog 80 #[.agg #[.int .i64 y, .int .i64 m, .int .i64 d]] w fun e w' => e = .returned (.bool (rightB y m d)) ∧ Below w.heap.size w w' := by
 by_cases h1 : -40000 ≤ y
 ·
  by_cases h2 : y ≤ 40000
  ·
   by_cases h3 : 1 ≤ d
   ·
    go_enter Tryz.func80, Tryz.ntmps80
    go_wp2
    go_quiet ((go_at_call 106; exact q_same (len_any _ _ _)))
    go_wp2
    go_ret
    exact ⟨right_br (by simp [h1, h2, h3]), below_new _ _ _⟩
   ·
    have hd : decide (1 ≤ d) = false := by simpa using h3
    go_enter Tryz.func80, Tryz.ntmps80
    go_wp2
    go_quiet (fail)
    go_wp2
    go_ret
    exact ⟨right_br (by simp; omega), below_new _ _ _⟩
  ·
   have hd : decide (y ≤ 40000) = false := by simpa using h2
   go_enter Tryz.func80, Tryz.ntmps80
   go_wp2
   go_quiet (fail)
   go_wp2
   go_ret
   exact ⟨right_br (by simp; omega), below_new _ _ _⟩
 ·
  have hd : decide (-40000 ≤ y) = false := by simpa using h1
  go_enter Tryz.func80, Tryz.ntmps80
  go_wp2
  go_quiet (fail)
  go_wp2
  go_ret
  exact ⟨right_br (by simp; omega), below_new _ _ _⟩
set_option maxHeartbeats 400000 in
theorem yearStart_any (y : Int) (w : World) (h0 : 0 ≤ y) (h1 : y ≤ 400) :
  Calls Tryz.prog 73 #[.int .i64 y] w fun e w' => e = .returned (.int .i64 (Cal.yst y)) ∧ w = w' := by
 go_enter Tryz.func73, Tryz.ntmps73
 go_wp2
 go_ret
 exact ⟨rfl, rfl⟩
set_option maxHeartbeats 400000 in
theorem monthStart_any (m : Int) (w : World) (h0 : 0 ≤ m) (h1 : m ≤ 12) :
  Calls Tryz.prog 74 #[.int .i64 m] w fun e w' => e = .returned (.int .i64 (Cal.mst m)) ∧ w = w' := by
 go_enter Tryz.func74, Tryz.ntmps74
 go_wp2
 go_ret
 exact ⟨rfl, rfl⟩
set_option maxHeartbeats 400000 in
theorem yearOf_any (n : Int) (w : World) (h0 : 0 ≤ n) (h1 : n < 146097) :
  Calls Tryz.prog 72 #[.int .i64 n] w fun e w' => e = .returned (.int .i64 (Cal.yof n)) ∧ w = w' := by
 go_enter Tryz.func72, Tryz.ntmps72
 go_wp2
 go_ret
 exact ⟨rfl, rfl⟩
theorem mst_bd (m : Int) (h0 : 0 ≤ m) (h1 : m ≤ 12) : 0 ≤ Cal.mst m ∧ Cal.mst m ≤ 367 := by unfold Cal.mst; omega
set_option maxHeartbeats 400000 in
theorem days_no (y m d : Int) (w : World) (h : rightB y m d = false) :
  Calls Tryz.prog 95 #[.agg #[.int .i64 y, .int .i64 m, .int .i64 d]] w fun e w' => e = .returned (.tuple #[.int .i64 0, .int .i64 1]) ∧ Below w.heap.size w w' := by
 go_enter Tryz.func95, Tryz.ntmps95
 go_wp2_with (go_at_call 80; refine (right_any _ _ _ _).mono ?_; rintro e w' ⟨rfl, hb⟩; obtain ⟨hc, hf⟩ := bcell hb)
 go_ret2
 exact ⟨rfl, ((Below.refl _ _).alloc (Nat.le_refl _) _).trans (hb.mono (by simp))⟩
set_option maxHeartbeats 400000 in
theorem days_yes (y m d : Int) (w : World) (h : rightB y m d = true) :
  Calls Tryz.prog 95 #[.agg #[.int .i64 y, .int .i64 m, .int .i64 d]] w fun e w' => e = .returned (.tuple #[.int .i64 (Cal.num y m d), .int .i64 0]) ∧ Below w.heap.size w w' := by
 have hr := right_true.1 h
 obtain ⟨hm1, hm2⟩ := Cal.month_of hr
 have hl := Cal.len_bd y m
 obtain ⟨hy0, hy1, hd0, hd1⟩ := hr
 have hd2 : d ≤ 31 := by omega
 clear hd1 hl
 rw [← Cal.cdays_eq y m d hm1 hm2]
 by_cases hm : m < 3
 ·
  have e : Cal.cdays y m d = -719468 + (y-1)/400 * 146097 + Cal.yst ((y-1) % 400) + Cal.mst (m - 3 + 12) + d - 1 := by
   rw [show m - 3 + 12 = m + 9 by omega]; exact if_pos hm
  have E := Lib.hid e; clear e
  have q0 : -101 ≤ (y-1)/400 := by omega
  have q1 : (y-1)/400 ≤ 100 := by omega
  have r0 : 0 ≤ (y-1)%400 := by omega
  have r1 : (y-1)%400 ≤ 399 := by omega
  obtain ⟨s0, s1⟩ := Cal.yst_bd ((y-1)%400) r0 (by omega)
  obtain ⟨t0, t1⟩ := mst_bd (m - 3 + 12) (by omega) (by omega)
  go_enter Tryz.func95, Tryz.ntmps95
  go_wp2_with (go_at_call 80; refine (right_any _ _ _ _).mono ?_; rintro e w' ⟨rfl, hb⟩; obtain ⟨hc, hf⟩ := bcell hb)
  go_quiet (fail)
  go_wp2_with (go_at_call 71; refine (div_pos _ _ _ (by omega) (by omega) (by omega) (by omega)).mono ?_; rintro e w' ⟨rfl, n, rfl⟩)
  go_quiet (first
   | (go_at_call 73; refine q_same2 (yearStart_any _ _ (by omega) (by omega)))
   | (go_at_call 74; refine q_same2 (monthStart_any _ _ (by omega) (by omega))))
  go_wp2
  go_ret2
  refine ⟨?_, _root_.Go.below_drewN (_root_.Go.below_drewN (((Below.refl _ _).alloc (Nat.le_refl _) _).trans (hb.mono (by simp))) _) _⟩
  rw [E.out]; rfl
 ·
  have e : Cal.cdays y m d = -719468 + y/400 * 146097 + Cal.yst (y % 400) + Cal.mst (m - 3) + d - 1 := if_neg hm
  have E := Lib.hid e; clear e
  have q0 : -101 ≤ (y)/400 := by omega
  have q1 : (y)/400 ≤ 100 := by omega
  have r0 : 0 ≤ (y)%400 := by omega
  have r1 : (y)%400 ≤ 399 := by omega
  obtain ⟨s0, s1⟩ := Cal.yst_bd ((y)%400) r0 (by omega)
  obtain ⟨t0, t1⟩ := mst_bd (m - 3) (by omega) (by omega)
  go_enter Tryz.func95, Tryz.ntmps95
  go_wp2_with (go_at_call 80; refine (right_any _ _ _ _).mono ?_; rintro e w' ⟨rfl, hb⟩; obtain ⟨hc, hf⟩ := bcell hb)
  go_quiet (fail)
  go_wp2_with (go_at_call 71; refine (div_pos _ _ _ (by omega) (by omega) (by omega) (by omega)).mono ?_; rintro e w' ⟨rfl, n, rfl⟩)
  go_quiet (first
   | (go_at_call 73; refine q_same2 (yearStart_any _ _ (by omega) (by omega)))
   | (go_at_call 74; refine q_same2 (monthStart_any _ _ (by omega) (by omega))))
  go_wp2
  go_ret2
  refine ⟨?_, _root_.Go.below_drewN (_root_.Go.below_drewN (((Below.refl _ _).alloc (Nat.le_refl _) _).trans (hb.mono (by simp))) _) _⟩
  rw [E.out]; rfl
end Go.Proofs.YtifgiclnofdnkaaGreatDoor
set_option linter.unusedVariables false
set_option linter.unusedSimpArgs false
namespace Go.Proofs.YtifgiclnofdnkaaGreatDoor
open Go.RowKit
set_option maxHeartbeats 400000 in
theorem date_no (n : Int) (w : World) (h : n < -15329228 ∨ 13890537 < n) :
  Calls Tryz.prog 43 #[.int .i64 n] w fun e w' => e = .returned (.tuple #[.agg #[.int .i64 0, .int .i64 0, .int .i64 0], .int .i64 1]) ∧ Below w.heap.size w w' := by
 rcases h with h | h
 ·
  go_enter Tryz.func43, Tryz.ntmps43
  go_wp2
  exact bodyPost_ret (v := .tuple #[.agg #[.int .i64 0, .int .i64 0, .int .i64 0], .int .i64 1]) (by simp [results, Tryz.results43, go_sem]) rfl ⟨rfl, (Below.refl _ _).alloc (Nat.le_refl _) _⟩
 ·
  have h' : ¬ n < -15329228 := by omega
  go_enter Tryz.func43, Tryz.ntmps43
  go_wp2
  exact bodyPost_ret (v := .tuple #[.agg #[.int .i64 0, .int .i64 0, .int .i64 0], .int .i64 1]) (by simp [results, Tryz.results43, go_sem]) rfl ⟨rfl, (Below.refl _ _).alloc (Nat.le_refl _) _⟩
set_option maxHeartbeats 600000 in
theorem date_yes (n : Int) (w : World) (h0 : -15329228 ≤ n) (h1 : n ≤ 13890537) :
  Calls Tryz.prog 43 #[.int .i64 n] w fun e w' => e = .returned (.tuple #[.agg #[.int .i64 (Cal.dY n), .int .i64 (Cal.dM n), .int .i64 (Cal.dD n)], .int .i64 0]) ∧ Below w.heap.size w w' := by
 have D0 : 0 ≤ (n + 719468) % 146097 := by omega
 have D1 : (n + 719468) % 146097 < 146097 := by omega
 have C0 : -110 ≤ (n + 719468) / 146097 := by omega
 have C1 : (n + 719468) / 146097 ≤ 110 := by omega
 obtain ⟨Y0, Y1, _, _⟩ := Cal.yof_ok _ D0 D1
 have S := Cal.yst_bd (Cal.yof ((n + 719468) % 146097)) Y0 (by omega)
 obtain ⟨S0, S1⟩ := S
 obtain ⟨k0, k1⟩ := Cal.dk_bd n
 unfold Cal.dk Cal.dday at k0 k1
 have m0 : 0 ≤ (((n + 719468) % 146097 - Cal.yst (Cal.yof ((n + 719468) % 146097))) * 5 + 2) / 153 := by omega
 have m1 : (((n + 719468) % 146097 - Cal.yst (Cal.yof ((n + 719468) % 146097))) * 5 + 2) / 153 ≤ 11 := by omega
 obtain ⟨t0, t1⟩ := mst_bd _ m0 (by omega)
 by_cases hm : 10 ≤ (((n + 719468) % 146097 - Cal.yst (Cal.yof ((n + 719468) % 146097))) * 5 + 2) / 153
 ·
  have e : (Cal.dY n = Cal.yof ((n + 719468) % 146097) + (n + 719468) / 146097 * 400 + 1 ∧ Cal.dM n = (((n + 719468) % 146097 - Cal.yst (Cal.yof ((n + 719468) % 146097))) * 5 + 2) / 153 - 12 + 3) ∧ Cal.dD n = ((n + 719468) % 146097 - Cal.yst (Cal.yof ((n + 719468) % 146097))) - Cal.mst ((((n + 719468) % 146097 - Cal.yst (Cal.yof ((n + 719468) % 146097))) * 5 + 2) / 153) + 1 := by
   refine ⟨⟨?_, ?_⟩, rfl⟩
   ·
    unfold Cal.dY; rw [show Cal.dmon n = (((n + 719468) % 146097 - Cal.yst (Cal.yof ((n + 719468) % 146097))) * 5 + 2) / 153 from rfl]; first | (rw [if_pos hm]; rfl) | (rw [if_neg hm, Int.add_zero]; rfl)
   ·
    unfold Cal.dM; rw [show Cal.dmon n = (((n + 719468) % 146097 - Cal.yst (Cal.yof ((n + 719468) % 146097))) * 5 + 2) / 153 from rfl]; first | rw [if_pos hm] | (rw [if_neg hm, Int.sub_zero])
  have E := Lib.hid e; clear e
  go_enter Tryz.func43, Tryz.ntmps43
  go_wp2_with (first
   | (go_at_call 71; refine (div_pos _ _ _ (by omega) (by omega) (by omega) (by omega)).mono ?_; rintro e w' ⟨rfl, j, rfl⟩)
   | (go_at_call 72; refine (yearOf_any _ _ (by omega) (by omega)).mono ?_; rintro e w' ⟨rfl, rfl⟩)
   | (go_at_call 73; refine (yearStart_any _ _ (by omega) (by omega)).mono ?_; rintro e w' ⟨rfl, rfl⟩)
   | (go_at_call 74; refine (monthStart_any _ _ (by omega) (by omega)).mono ?_; rintro e w' ⟨rfl, rfl⟩))
  refine bodyPost_ret (v := .tuple #[.agg #[.int .i64 (Cal.yof ((n + 719468) % 146097) + (n + 719468) / 146097 * 400 + 1), .int .i64 ((((n + 719468) % 146097 - Cal.yst (Cal.yof ((n + 719468) % 146097))) * 5 + 2) / 153 - 12 + 3), .int .i64 (((n + 719468) % 146097 - Cal.yst (Cal.yof ((n + 719468) % 146097))) - Cal.mst ((((n + 719468) % 146097 - Cal.yst (Cal.yof ((n + 719468) % 146097))) * 5 + 2) / 153) + 1)], .int .i64 0]) (by simp [results, Tryz.results43, go_sem]) rfl ⟨?_, ?_⟩
  ·
   obtain ⟨⟨e1, e2⟩, e3⟩ := E.out
   rw [e1, e2, e3]
  ·
   repeat (first | exact Below.refl _ _ | refine _root_.Go.below_drewN ?_ _ | refine Below.setCell ?_ (by simp) _ | refine Below.alloc ?_ (by simp) _)
 ·
  have e : (Cal.dY n = Cal.yof ((n + 719468) % 146097) + (n + 719468) / 146097 * 400 ∧ Cal.dM n = (((n + 719468) % 146097 - Cal.yst (Cal.yof ((n + 719468) % 146097))) * 5 + 2) / 153 + 3) ∧ Cal.dD n = ((n + 719468) % 146097 - Cal.yst (Cal.yof ((n + 719468) % 146097))) - Cal.mst ((((n + 719468) % 146097 - Cal.yst (Cal.yof ((n + 719468) % 146097))) * 5 + 2) / 153) + 1 := by
   refine ⟨⟨?_, ?_⟩, rfl⟩
   ·
    unfold Cal.dY; rw [show Cal.dmon n = (((n + 719468) % 146097 - Cal.yst (Cal.yof ((n + 719468) % 146097))) * 5 + 2) / 153 from rfl]; first | (rw [if_pos hm]; rfl) | (rw [if_neg hm, Int.add_zero]; rfl)
   ·
    unfold Cal.dM; rw [show Cal.dmon n = (((n + 719468) % 146097 - Cal.yst (Cal.yof ((n + 719468) % 146097))) * 5 + 2) / 153 from rfl]; first | rw [if_pos hm] | (rw [if_neg hm, Int.sub_zero])
  have E := Lib.hid e; clear e
  go_enter Tryz.func43, Tryz.ntmps43
  go_wp2_with (first
   | (go_at_call 71; refine (div_pos _ _ _ (by omega) (by omega) (by omega) (by omega)).mono ?_; rintro e w' ⟨rfl, j, rfl⟩)
   | (go_at_call 72; refine (yearOf_any _ _ (by omega) (by omega)).mono ?_; rintro e w' ⟨rfl, rfl⟩)
   | (go_at_call 73; refine (yearStart_any _ _ (by omega) (by omega)).mono ?_; rintro e w' ⟨rfl, rfl⟩)
   | (go_at_call 74; refine (monthStart_any _ _ (by omega) (by omega)).mono ?_; rintro e w' ⟨rfl, rfl⟩))
  refine bodyPost_ret (v := .tuple #[.agg #[.int .i64 (Cal.yof ((n + 719468) % 146097) + (n + 719468) / 146097 * 400), .int .i64 ((((n + 719468) % 146097 - Cal.yst (Cal.yof ((n + 719468) % 146097))) * 5 + 2) / 153 + 3), .int .i64 (((n + 719468) % 146097 - Cal.yst (Cal.yof ((n + 719468) % 146097))) - Cal.mst ((((n + 719468) % 146097 - Cal.yst (Cal.yof ((n + 719468) % 146097))) * 5 + 2) / 153) + 1)], .int .i64 0]) (by simp [results, Tryz.results43, go_sem]) rfl ⟨?_, ?_⟩
  ·
   obtain ⟨⟨e1, e2⟩, e3⟩ := E.out
   rw [e1, e2, e3]
  ·
   repeat (first | exact Below.refl _ _ | refine _root_.Go.below_drewN ?_ _ | refine Below.setCell ?_ (by simp) _ | refine Below.alloc ?_ (by simp) _)
set_option maxHeartbeats 400000 in
theorem rdiv_pos (a b : Int) (w : World) (ha : -9223372036854775808 ≤ a) (ha' : a ≤ 9223372036854775807) (hb : 1 ≤ b) (hb' : b ≤ 1000000) :
  Calls Tryz.prog 84 #[.int .i64 a, .int .i64 b] w fun e w' => e = .returned (.tuple #[.int .i64 (a / b), .int .i64 (a % b), .int .i64 0]) ∧ ∃ n, w' = w.drewN n := by
 have hb0 : (b == 0) = false := by simp; omega
 have hb1 : (b == -1) = false := by simp; omega
 have hm0 : 0 ≤ a % b := Int.emod_nonneg a (by omega)
 have hm1 : a % b < b := Int.emod_lt_of_pos a (by omega)
 by_cases hs : 0 ≤ a
 ·
  have ht : (!(decide (a % b < 0) == decide (b < 0))) = false := by
   rw [decide_eq_false (by omega), decide_eq_false (by omega)]; rfl
  go_enter Tryz.func84, Tryz.ntmps84
  go_wp2
  all_goals (go_ret3; refine ⟨?_, 0, rfl⟩; first | rfl | simp [*])
 ·
  by_cases hr : a % b = 0
  ·
   obtain ⟨e1, e2⟩ := tdiv_lo hb (by omega) hr
   obtain ⟨hq0, hq1⟩ := ediv_ge ha (by omega) hb
   obtain ⟨c, hc⟩ : ∃ c, (a == -9223372036854775808) = c := ⟨_, rfl⟩
   go_enter Tryz.func84, Tryz.ntmps84
   go_wp2
   all_goals (go_ret3; refine ⟨?_, 0, rfl⟩; first | rfl | simp [*])
  ·
   obtain ⟨e1, e2⟩ := tdiv_mid hb (by omega) hr
   obtain ⟨c, hc⟩ : ∃ c, (a == -9223372036854775808) = c := ⟨_, rfl⟩
   have hm2 : 1 ≤ a % b := by omega
   obtain ⟨hq0, hq1⟩ := ediv_ge ha (by omega) hb
   have ht : (!(decide (a % b - b < 0) == decide (b < 0))) = true := by
    rw [decide_eq_true (by omega), decide_eq_false (by omega)]; rfl
   have hn : (a % b - b != 0) = true := by rw [bne_iff_ne]; omega
   go_enter Tryz.func84, Tryz.ntmps84
   go_wp2
   all_goals (go_ret3; refine ⟨?_, 0, rfl⟩; first | rfl | (simp [*]; done) | (simp [*]; omega))
set_option maxHeartbeats 400000 in
theorem floor_pos (a b : Int) (w : World) (ha : -9223372036854775808 ≤ a) (ha' : a ≤ 9223372036854775807) (hb : 1 ≤ b) (hb' : b ≤ 1000000) :
  Calls Tryz.prog 53 #[.int .i64 a, .int .i64 b] w fun e w' => e = .returned (.int .i64 (a / b)) ∧ ∃ n, w' = w.drewN n := by
 go_enter Tryz.func53, Tryz.ntmps53
 go_wp2_with (go_at_call 84; refine (rdiv_pos _ _ _ ha ha' hb hb').mono ?_; rintro e w' ⟨rfl, k, rfl⟩)
 go_ret
 exact ⟨rfl, _, rfl⟩
set_option maxHeartbeats 400000 in
theorem leaps_any (y : Int) (w : World) (h0 : -1000000 ≤ y) (h1 : y ≤ 1000000) :
  Calls Tryz.prog 108 #[.int .i64 y] w fun e w' => e = .returned (.int .i64 (y / 4 - y / 100 + y / 400)) ∧ ∃ k, w' = w.drewN k := by
 have a0 : -250000 ≤ y / 4 := by omega
 have a1 : y / 4 ≤ 250000 := by omega
 have b0 : -10000 ≤ y / 100 := by omega
 have b1 : y / 100 ≤ 10000 := by omega
 have c0 : -2500 ≤ y / 400 := by omega
 have c1 : y / 400 ≤ 2500 := by omega
 go_enter Tryz.func108, Tryz.ntmps108
 go_wp2_with (go_at_call 53; refine (floor_pos _ _ _ (by omega) (by omega) (by omega) (by omega)).mono ?_; rintro e w' ⟨rfl, k, rfl⟩)
 go_ret
 exact ⟨rfl, _, rfl⟩
set_option maxHeartbeats 400000 in
theorem ahead_any (y : Int) (w : World) (h0 : -100000 ≤ y) (h1 : y ≤ 100000) :
  Calls Tryz.prog 82 #[.int .i64 y] w fun e w' => e = .returned (.int .i64 (Cal.ahead y)) ∧ ∃ k, w' = w.drewN k := by
 have a0 : -26000 ≤ (y - 1) / 4 := by omega
 have a1 : (y - 1) / 4 ≤ 26000 := by omega
 have b0 : -1100 ≤ (y - 1) / 100 := by omega
 have b1 : (y - 1) / 100 ≤ 1100 := by omega
 have c0 : -300 ≤ (y - 1) / 400 := by omega
 have c1 : (y - 1) / 400 ≤ 300 := by omega
 go_enter Tryz.func82, Tryz.ntmps82
 go_wp2_with fail
 refine (leaps_any _ _ (by omega) (by omega)).mono ?_; rintro e w1 ⟨rfl, k1, rfl⟩
 go_wp2_with fail
 refine (leaps_any 1969 _ (by omega) (by omega)).mono ?_; rintro e w1 ⟨rfl, k2, rfl⟩
 rw [show (1969 : Int) / 4 - 1969 / 100 + 1969 / 400 = 477 by decide]
 go_wp2_with fail
 go_ret
 exact ⟨rfl, _, rfl⟩
structure One (w W : World) (b : Nat) (v0 v1 v2 : Value) : Prop where
 bel : Below w.heap.size w W
 hb : b < W.heap.size
 k0 : W.cell? ⟨b, 0, none⟩ = some v0
 k1 : W.cell? ⟨b, 1, none⟩ = some v1
 k2 : W.cell? ⟨b, 2, none⟩ = some v2
theorem One.keep {w W W' : World} {b : Nat} {v0 v1 v2 : Value} (h : One w W b v0 v1 v2) (k : Below W.heap.size W W') : One w W' b v0 v1 v2 := by
 obtain ⟨hw, hb, h0, h1, h2⟩ := h
 have z := k.size
 refine ⟨below_step hw k, by omega, ?_, ?_, ?_⟩ <;> (rw [k.cell (p := ⟨b, _, none⟩) (by show b < _; omega)]; assumption)
theorem One.alloc {w W : World} {b : Nat} {v0 v1 v2 : Value} (h : One w W b v0 v1 v2) (o : Obj) : One w (W.alloc o) b v0 v1 v2 :=
 h.keep ((Below.refl _ _).alloc (Nat.le_refl _) _)
theorem One.draw {w W : World} {b : Nat} {v0 v1 v2 : Value} (h : One w W b v0 v1 v2) (n : Nat) : One w (W.drewN n) b v0 v1 v2 :=
 h.keep (below_draw _ _)
theorem One.new {w W : World} {v0 v1 v2 : Value} {t : TypeId} (h : Below w.heap.size w W) : One w (W.alloc (.cells #[v0, v1, v2] t)) W.heap.size v0 v1 v2 :=
 ⟨below_step h ((Below.refl _ _).alloc (Nat.le_refl _) _), by simp, by simp [go_sem], by simp [go_sem], by simp [go_sem]⟩
theorem one_keep {w : World} {b : Nat} {W W' : World} {v0 v1 v2 : Value} (hb : Below W.heap.size W W')
  (h : Below w.heap.size w W ∧ b < W.heap.size ∧ W.cell? ⟨b, 0, none⟩ = some v0 ∧ W.cell? ⟨b, 1, none⟩ = some v1 ∧ W.cell? ⟨b, 2, none⟩ = some v2) :
  Below w.heap.size w W' ∧ b < W'.heap.size ∧ W'.cell? ⟨b, 0, none⟩ = some v0 ∧ W'.cell? ⟨b, 1, none⟩ = some v1 ∧ W'.cell? ⟨b, 2, none⟩ = some v2 := by
 obtain ⟨a1, a2, a3, a4, a5⟩ := h
 obtain ⟨b1, b2, b3, b4, b5⟩ := One.keep ⟨a1, a2, a3, a4, a5⟩ hb
 exact ⟨b1, b2, b3, b4, b5⟩
structure Two2 (w W : World) (b c : Nat) (v0 v1 v2 u0 u1 u2 : Value) : Prop where
 bel : Below w.heap.size w W
 hb : b < W.heap.size
 hc : c < W.heap.size
 k0 : W.cell? ⟨b, 0, none⟩ = some v0
 k1 : W.cell? ⟨b, 1, none⟩ = some v1
 k2 : W.cell? ⟨b, 2, none⟩ = some v2
 g0 : W.cell? ⟨c, 0, none⟩ = some u0
 g1 : W.cell? ⟨c, 1, none⟩ = some u1
 g2 : W.cell? ⟨c, 2, none⟩ = some u2
theorem Two2.keep {w W W' : World} {b c : Nat} {v0 v1 v2 u0 u1 u2 : Value} (h : Two2 w W b c v0 v1 v2 u0 u1 u2) (k : Below W.heap.size W W') : Two2 w W' b c v0 v1 v2 u0 u1 u2 := by
 obtain ⟨hw, hb, hc, h0, h1, h2, g0, g1, g2⟩ := h
 have z := k.size
 refine ⟨below_step hw k, by omega, by omega, ?_, ?_, ?_, ?_, ?_, ?_⟩ <;> (first | rw [k.cell (p := ⟨b, _, none⟩) (by show b < _; omega)]; assumption | rw [k.cell (p := ⟨c, _, none⟩) (by show c < _; omega)]; assumption)
end Go.Proofs.YtifgiclnofdnkaaGreatDoor
