/- The contracts of civil's functions: Right, yearStart, monthStart, yearOf, Days. -/
import Derived.Test.YtjnhaabbnbcaeaaCivA
import Derived.Test.YtjnhaabbnbcaeaaDiv
set_option linter.unusedVariables false
set_option linter.unusedSimpArgs false
namespace Go.Proofs.Ytjnhaabbnbcaeaa
open Go.RowKit Go

/-- May the date be? -/
def rightB (y m d : Int) : Bool := decide (-40000 ≤ y ∧ y ≤ 40000 ∧ 1 ≤ d ∧ d ≤ Cal.len y m)
theorem right_true {y m d : Int} : rightB y m d = true ↔ Cal.Right y m d := by
  unfold rightB; simp; exact ⟨fun ⟨a, b, c, d⟩ => ⟨a, b, c, d⟩, fun ⟨a, b, c, d⟩ => ⟨a, b, c, d⟩⟩
theorem right_false {y m d : Int} : rightB y m d = false ↔ ¬ Cal.Right y m d := by
  rw [← right_true]; simp

theorem right_br {y m d : Int} {b : Bool} (h : (-40000 ≤ y ∧ y ≤ 40000 ∧ 1 ≤ d ∧ d ≤ Cal.len y m) ↔ b = true) : Ending.returned (.bool b) = .returned (.bool (rightB y m d)) := by
  unfold rightB; congr 2; rw [Bool.eq_iff_iff]; simp [h]

set_option maxHeartbeats 400000 in
theorem right_any (y m d : Int) (w : World) :
    Calls Try.prog 48 #[.agg #[.int .i64 y, .int .i64 m, .int .i64 d]] w fun e w' => e = .returned (.bool (rightB y m d)) ∧ Below w.heap.size w w' := by
  by_cases h1 : -40000 ≤ y
  · by_cases h2 : y ≤ 40000
    · by_cases h3 : 1 ≤ d
      · go_enter Try.func48, Try.ntmps48
        go_wp2
        go_quiet ((go_at_call 34; exact q_same (len_any _ _ _)))
        go_wp2
        go_ret
        exact ⟨right_br (by simp [h1, h2, h3]), below_new _ _ _⟩
      · have hd : decide (1 ≤ d) = false := by simpa using h3
        go_enter Try.func48, Try.ntmps48
        go_wp2
        go_quiet (fail)
        go_wp2
        go_ret
        exact ⟨right_br (by simp; omega), below_new _ _ _⟩
    · have hd : decide (y ≤ 40000) = false := by simpa using h2
      go_enter Try.func48, Try.ntmps48
      go_wp2
      go_quiet (fail)
      go_wp2
      go_ret
      exact ⟨right_br (by simp; omega), below_new _ _ _⟩
  · have hd : decide (-40000 ≤ y) = false := by simpa using h1
    go_enter Try.func48, Try.ntmps48
    go_wp2
    go_quiet (fail)
    go_wp2
    go_ret
    exact ⟨right_br (by simp; omega), below_new _ _ _⟩

set_option maxHeartbeats 400000 in
theorem yearStart_any (y : Int) (w : World) (h0 : 0 ≤ y) (h1 : y ≤ 400) :
    Calls Try.prog 50 #[.int .i64 y] w fun e w' => e = .returned (.int .i64 (Cal.yst y)) ∧ w = w' := by
  go_enter Try.func50, Try.ntmps50
  go_wp2
  go_ret
  exact ⟨rfl, rfl⟩
set_option maxHeartbeats 400000 in
theorem monthStart_any (m : Int) (w : World) (h0 : 0 ≤ m) (h1 : m ≤ 12) :
    Calls Try.prog 51 #[.int .i64 m] w fun e w' => e = .returned (.int .i64 (Cal.mst m)) ∧ w = w' := by
  go_enter Try.func51, Try.ntmps51
  go_wp2
  go_ret
  exact ⟨rfl, rfl⟩

theorem mst_bd (m : Int) (h0 : 0 ≤ m) (h1 : m ≤ 12) : 0 ≤ Cal.mst m ∧ Cal.mst m ≤ 367 := by unfold Cal.mst; omega

set_option maxHeartbeats 400000 in
theorem days_no (y m d : Int) (w : World) (h : rightB y m d = false) :
    Calls Try.prog 36 #[.agg #[.int .i64 y, .int .i64 m, .int .i64 d]] w fun e w' => e = .returned (.tuple #[.int .i64 0, .int .i64 1]) ∧ Below w.heap.size w w' := by
  go_enter Try.func36, Try.ntmps36
  go_wp2_with (go_at_call 48; refine (right_any _ _ _ _).mono ?_; rintro e w' ⟨rfl, hb⟩; obtain ⟨hc, hf⟩ := bcell hb)
  go_ret2
  exact ⟨rfl, ((Below.refl _ _).alloc (Nat.le_refl _) _).trans (hb.mono (by simp))⟩
set_option maxHeartbeats 400000 in
theorem days_yes (y m d : Int) (w : World) (h : rightB y m d = true) :
    Calls Try.prog 36 #[.agg #[.int .i64 y, .int .i64 m, .int .i64 d]] w fun e w' => e = .returned (.tuple #[.int .i64 (Cal.num y m d), .int .i64 0]) ∧ Below w.heap.size w w' := by
  have hr := right_true.1 h
  obtain ⟨hm1, hm2⟩ := Cal.month_of hr
  have hl := Cal.len_bd y m
  obtain ⟨hy0, hy1, hd0, hd1⟩ := hr
  have hd2 : d ≤ 31 := by omega
  clear hd1 hl
  rw [← Cal.cdays_eq y m d hm1 hm2]
  by_cases hm : m < 3
  · have e : Cal.cdays y m d = -719468 + (y-1)/400 * 146097 + Cal.yst ((y-1) % 400) + Cal.mst (m - 3 + 12) + d - 1 := by
      rw [show m - 3 + 12 = m + 9 by omega]; exact if_pos hm
    have E := Lib.hid e; clear e
    have q0 : -101 ≤ (y-1)/400 := by omega
    have q1 : (y-1)/400 ≤ 100 := by omega
    have r0 : 0 ≤ (y-1)%400 := by omega
    have r1 : (y-1)%400 ≤ 399 := by omega
    obtain ⟨s0, s1⟩ := Cal.yst_bd ((y-1)%400) r0 (by omega)
    obtain ⟨t0, t1⟩ := mst_bd (m - 3 + 12) (by omega) (by omega)
    go_enter Try.func36, Try.ntmps36
    go_wp2_with (go_at_call 48; refine (right_any _ _ _ _).mono ?_; rintro e w' ⟨rfl, hb⟩; obtain ⟨hc, hf⟩ := bcell hb)
    go_quiet (fail)
    go_wp2_with (go_at_call 49; refine (div_pos _ _ _ (by omega) (by omega) (by omega) (by omega)).mono ?_; rintro e w' ⟨rfl, n, rfl⟩)
    go_quiet (first
      | (go_at_call 50; refine q_same2 (yearStart_any _ _ (by omega) (by omega)))
      | (go_at_call 51; refine q_same2 (monthStart_any _ _ (by omega) (by omega))))
    go_wp2
    go_ret2
    refine ⟨?_, below_drewN (below_drewN (((Below.refl _ _).alloc (Nat.le_refl _) _).trans (hb.mono (by simp))) _) _⟩
    rw [E.out]; rfl
  · have e : Cal.cdays y m d = -719468 + y/400 * 146097 + Cal.yst (y % 400) + Cal.mst (m - 3) + d - 1 := if_neg hm
    have E := Lib.hid e; clear e
    have q0 : -101 ≤ (y)/400 := by omega
    have q1 : (y)/400 ≤ 100 := by omega
    have r0 : 0 ≤ (y)%400 := by omega
    have r1 : (y)%400 ≤ 399 := by omega
    obtain ⟨s0, s1⟩ := Cal.yst_bd ((y)%400) r0 (by omega)
    obtain ⟨t0, t1⟩ := mst_bd (m - 3) (by omega) (by omega)
    go_enter Try.func36, Try.ntmps36
    go_wp2_with (go_at_call 48; refine (right_any _ _ _ _).mono ?_; rintro e w' ⟨rfl, hb⟩; obtain ⟨hc, hf⟩ := bcell hb)
    go_quiet (fail)
    go_wp2_with (go_at_call 49; refine (div_pos _ _ _ (by omega) (by omega) (by omega) (by omega)).mono ?_; rintro e w' ⟨rfl, n, rfl⟩)
    go_quiet (first
      | (go_at_call 50; refine q_same2 (yearStart_any _ _ (by omega) (by omega)))
      | (go_at_call 51; refine q_same2 (monthStart_any _ _ (by omega) (by omega))))
    go_wp2
    go_ret2
    refine ⟨?_, below_drewN (below_drewN (((Below.refl _ _).alloc (Nat.le_refl _) _).trans (hb.mono (by simp))) _) _⟩
    rw [E.out]; rfl
end Go.Proofs.Ytjnhaabbnbcaeaa
