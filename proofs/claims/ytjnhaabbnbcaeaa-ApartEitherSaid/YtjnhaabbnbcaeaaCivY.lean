/- The contract of civil.YearDay. -/
import Derived.Test.YtjnhaabbnbcaeaaCivC
set_option linter.unusedVariables false
set_option linter.unusedSimpArgs false
namespace Go.Proofs.Ytjnhaabbnbcaeaa
open Go.RowKit

set_option maxHeartbeats 400000 in
theorem yearDay_no (y m d : Int) (w : World) (h : rightB y m d = false) :
    Calls Try.prog 23 #[.agg #[.int .i64 y, .int .i64 m, .int .i64 d]] w fun e w' => e = .returned (.tuple #[.int .i64 0, .int .i64 1]) ∧ Below w.heap.size w w' := by
  go_enter Try.func23, Try.ntmps23
  go_wp2_with (go_at_call 36; refine (days_no _ _ _ _ h).mono ?_; rintro e w' ⟨rfl, hb⟩)
  go_ret2
  exact ⟨rfl, ((Below.refl _ _).alloc (Nat.le_refl _) _).trans (hb.mono (by simp))⟩
set_option maxHeartbeats 400000 in
theorem yearDay_yes (y m d : Int) (w : World) (h : rightB y m d = true) :
    Calls Try.prog 23 #[.agg #[.int .i64 y, .int .i64 m, .int .i64 d]] w fun e w' => e = .returned (.tuple #[.int .i64 (Cal.cum y m + d), .int .i64 0]) ∧ Below w.heap.size w w' := by
  have hr := right_true.1 h
  have h1 : rightB y 1 1 = true := right_true.2 ⟨hr.y0, hr.y1, by omega, by simp [Cal.len]⟩
  have n1 := Cal.num_range hr
  have n2 := Cal.num_range (right_true.1 h1)
  have e : Cal.num y m d - Cal.num y 1 1 + 1 = Cal.cum y m + d := by unfold Cal.num; have : Cal.cum y 1 = 0 := rfl; omega
  have E := Lib.hid e; clear e
  obtain ⟨a0, a1⟩ := n1
  obtain ⟨b0, b1⟩ := n2
  clear hr
  go_enter Try.func23, Try.ntmps23
  go_wp2_with fail
  refine (days_yes _ _ _ _ h).mono ?_; rintro e w' ⟨rfl, hb⟩; obtain ⟨hc, hf⟩ := bcell hb
  go_wp2_with fail
  refine (days_yes _ _ _ _ h1).mono ?_; rintro e w2 ⟨rfl, hb2⟩
  go_wp2
  go_ret2
  rw [E.out]
  exact ⟨rfl, (((Below.refl _ _).alloc (Nat.le_refl _) _).trans (hb.mono (by simp))).trans (hb2.mono (by have := hb.size; simp at this; omega))⟩
end Go.Proofs.Ytjnhaabbnbcaeaa
