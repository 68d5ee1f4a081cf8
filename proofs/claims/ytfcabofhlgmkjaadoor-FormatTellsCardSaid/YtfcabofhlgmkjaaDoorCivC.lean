/- The contracts of civil's functions: Date, Weekday. -/
import Derived.Test.YtfcabofhlgmkjaaDoorCivB
set_option linter.unusedVariables false
set_option linter.unusedSimpArgs false
namespace Go.Proofs.YtfcabofhlgmkjaaDoor
open Go.RowKit

set_option maxHeartbeats 400000 in
theorem date_no (n : Int) (w : World) (h : n < -15329228 ∨ 13890537 < n) :
    Calls Tryd.prog 62 #[.int .i64 n] w fun e w' => e = .returned (.tuple #[.agg #[.int .i64 0, .int .i64 0, .int .i64 0], .int .i64 1]) ∧ Below w.heap.size w w' := by
  rcases h with h | h
  · go_enter Tryd.func62, Tryd.ntmps62
    go_wp2
    exact bodyPost_ret (v := .tuple #[.agg #[.int .i64 0, .int .i64 0, .int .i64 0], .int .i64 1]) (by simp [results, Tryd.results62, go_sem]) rfl ⟨rfl, (Below.refl _ _).alloc (Nat.le_refl _) _⟩
  · have h' : ¬ n < -15329228 := by omega
    go_enter Tryd.func62, Tryd.ntmps62
    go_wp2
    exact bodyPost_ret (v := .tuple #[.agg #[.int .i64 0, .int .i64 0, .int .i64 0], .int .i64 1]) (by simp [results, Tryd.results62, go_sem]) rfl ⟨rfl, (Below.refl _ _).alloc (Nat.le_refl _) _⟩

set_option maxHeartbeats 600000 in
theorem date_yes (n : Int) (w : World) (h0 : -15329228 ≤ n) (h1 : n ≤ 13890537) :
    Calls Tryd.prog 62 #[.int .i64 n] w fun e w' => e = .returned (.tuple #[.agg #[.int .i64 (Cal.dY n), .int .i64 (Cal.dM n), .int .i64 (Cal.dD n)], .int .i64 0]) ∧ Below w.heap.size w w' := by
  have D0 : 0 ≤ (n + 719468) % 146097 := by omega
  have D1 : (n + 719468) % 146097 < 146097 := by omega
  have C0 : -110 ≤ (n + 719468) / 146097 := by omega
  have C1 : (n + 719468) / 146097 ≤ 110 := by omega
  obtain ⟨Y0, Y1, _, _⟩ := Cal.yof_ok _ D0 D1
  have S := Cal.yst_bd (Cal.yof ((n + 719468) % 146097)) Y0 (by omega)
  obtain ⟨S0, S1⟩ := S
  obtain ⟨k0, k1⟩ := Cal.dk_bd n
  unfold Cal.dk Cal.dday at k0 k1
  have m0 : 0 ≤ (((n + 719468) % 146097 - Cal.yst (Cal.yof ((n + 719468) % 146097))) * 5 + 2) / 153 := by omega
  have m1 : (((n + 719468) % 146097 - Cal.yst (Cal.yof ((n + 719468) % 146097))) * 5 + 2) / 153 ≤ 11 := by omega
  obtain ⟨t0, t1⟩ := mst_bd _ m0 (by omega)
  by_cases hm : 10 ≤ (((n + 719468) % 146097 - Cal.yst (Cal.yof ((n + 719468) % 146097))) * 5 + 2) / 153
  · have e : (Cal.dY n = Cal.yof ((n + 719468) % 146097) + (n + 719468) / 146097 * 400 + 1 ∧ Cal.dM n = (((n + 719468) % 146097 - Cal.yst (Cal.yof ((n + 719468) % 146097))) * 5 + 2) / 153 - 12 + 3) ∧ Cal.dD n = ((n + 719468) % 146097 - Cal.yst (Cal.yof ((n + 719468) % 146097))) - Cal.mst ((((n + 719468) % 146097 - Cal.yst (Cal.yof ((n + 719468) % 146097))) * 5 + 2) / 153) + 1 := by
      refine ⟨⟨?_, ?_⟩, rfl⟩
      · unfold Cal.dY; rw [show Cal.dmon n = (((n + 719468) % 146097 - Cal.yst (Cal.yof ((n + 719468) % 146097))) * 5 + 2) / 153 from rfl]; first | (rw [if_pos hm]; rfl) | (rw [if_neg hm, Int.add_zero]; rfl)
      · unfold Cal.dM; rw [show Cal.dmon n = (((n + 719468) % 146097 - Cal.yst (Cal.yof ((n + 719468) % 146097))) * 5 + 2) / 153 from rfl]; first | rw [if_pos hm] | (rw [if_neg hm, Int.sub_zero])
    have E := Lib.hid e; clear e
    go_enter Tryd.func62, Tryd.ntmps62
    go_wp2_with (first
      | (go_at_call 76; refine (div_pos _ _ _ (by omega) (by omega) (by omega) (by omega)).mono ?_; rintro e w' ⟨rfl, j, rfl⟩)
      | (go_at_call 115; refine (yearOf_any _ _ (by omega) (by omega)).mono ?_; rintro e w' ⟨rfl, rfl⟩)
      | (go_at_call 112; refine (yearStart_any _ _ (by omega) (by omega)).mono ?_; rintro e w' ⟨rfl, rfl⟩)
      | (go_at_call 113; refine (monthStart_any _ _ (by omega) (by omega)).mono ?_; rintro e w' ⟨rfl, rfl⟩))
    refine bodyPost_ret (v := .tuple #[.agg #[.int .i64 (Cal.yof ((n + 719468) % 146097) + (n + 719468) / 146097 * 400 + 1), .int .i64 ((((n + 719468) % 146097 - Cal.yst (Cal.yof ((n + 719468) % 146097))) * 5 + 2) / 153 - 12 + 3), .int .i64 (((n + 719468) % 146097 - Cal.yst (Cal.yof ((n + 719468) % 146097))) - Cal.mst ((((n + 719468) % 146097 - Cal.yst (Cal.yof ((n + 719468) % 146097))) * 5 + 2) / 153) + 1)], .int .i64 0]) (by simp [results, Tryd.results62, go_sem]) rfl ⟨?_, ?_⟩
    · obtain ⟨⟨e1, e2⟩, e3⟩ := E.out
      rw [e1, e2, e3]
    · repeat (first | exact Below.refl _ _ | refine below_drewN ?_ _ | refine Below.setCell ?_ (by simp) _ | refine Below.alloc ?_ (by simp) _)
  · have e : (Cal.dY n = Cal.yof ((n + 719468) % 146097) + (n + 719468) / 146097 * 400 ∧ Cal.dM n = (((n + 719468) % 146097 - Cal.yst (Cal.yof ((n + 719468) % 146097))) * 5 + 2) / 153 + 3) ∧ Cal.dD n = ((n + 719468) % 146097 - Cal.yst (Cal.yof ((n + 719468) % 146097))) - Cal.mst ((((n + 719468) % 146097 - Cal.yst (Cal.yof ((n + 719468) % 146097))) * 5 + 2) / 153) + 1 := by
      refine ⟨⟨?_, ?_⟩, rfl⟩
      · unfold Cal.dY; rw [show Cal.dmon n = (((n + 719468) % 146097 - Cal.yst (Cal.yof ((n + 719468) % 146097))) * 5 + 2) / 153 from rfl]; first | (rw [if_pos hm]; rfl) | (rw [if_neg hm, Int.add_zero]; rfl)
      · unfold Cal.dM; rw [show Cal.dmon n = (((n + 719468) % 146097 - Cal.yst (Cal.yof ((n + 719468) % 146097))) * 5 + 2) / 153 from rfl]; first | rw [if_pos hm] | (rw [if_neg hm, Int.sub_zero])
    have E := Lib.hid e; clear e
    go_enter Tryd.func62, Tryd.ntmps62
    go_wp2_with (first
      | (go_at_call 76; refine (div_pos _ _ _ (by omega) (by omega) (by omega) (by omega)).mono ?_; rintro e w' ⟨rfl, j, rfl⟩)
      | (go_at_call 115; refine (yearOf_any _ _ (by omega) (by omega)).mono ?_; rintro e w' ⟨rfl, rfl⟩)
      | (go_at_call 112; refine (yearStart_any _ _ (by omega) (by omega)).mono ?_; rintro e w' ⟨rfl, rfl⟩)
      | (go_at_call 113; refine (monthStart_any _ _ (by omega) (by omega)).mono ?_; rintro e w' ⟨rfl, rfl⟩))
    refine bodyPost_ret (v := .tuple #[.agg #[.int .i64 (Cal.yof ((n + 719468) % 146097) + (n + 719468) / 146097 * 400), .int .i64 ((((n + 719468) % 146097 - Cal.yst (Cal.yof ((n + 719468) % 146097))) * 5 + 2) / 153 + 3), .int .i64 (((n + 719468) % 146097 - Cal.yst (Cal.yof ((n + 719468) % 146097))) - Cal.mst ((((n + 719468) % 146097 - Cal.yst (Cal.yof ((n + 719468) % 146097))) * 5 + 2) / 153) + 1)], .int .i64 0]) (by simp [results, Tryd.results62, go_sem]) rfl ⟨?_, ?_⟩
    · obtain ⟨⟨e1, e2⟩, e3⟩ := E.out
      rw [e1, e2, e3]
    · repeat (first | exact Below.refl _ _ | refine below_drewN ?_ _ | refine Below.setCell ?_ (by simp) _ | refine Below.alloc ?_ (by simp) _)
set_option maxHeartbeats 400000 in
theorem weekday_any (n : Int) (w : World) (ha : -9223372036854775808 ≤ n) (ha' : n ≤ 9223372036854775807) :
    Calls Tryd.prog 114 #[.int .i64 n] w fun e w' => e = .returned (.int .i64 ((n + 4) % 7)) ∧ ∃ k, w' = w.drewN k := by
  have h0 : 0 ≤ n % 7 := by omega
  have h1 : n % 7 < 7 := by omega
  go_enter Tryd.func114, Tryd.ntmps114
  go_wp2_with (go_at_call 76; refine (div_pos _ _ _ ha ha' (by omega) (by omega)).mono ?_; rintro e w' ⟨rfl, k, rfl⟩)
  go_ret
  exact ⟨ret_int (by omega), _, rfl⟩

end Go.Proofs.YtfcabofhlgmkjaaDoor
