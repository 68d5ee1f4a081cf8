/- The contracts of the reference's numbers with a floating point: whole, Round, Whole. -/
import Derived.Test.YtndophkojnfcaaaR2A
import Derived.Laws.NewFold
set_option linter.unusedVariables false
set_option linter.unusedSimpArgs false
namespace Go.Proofs.Ytndophkojnfcaaa
open Go.RowKit

set_option maxHeartbeats 1000000 in
theorem mode_any (m : Int) (w : World) : Calls Try.prog 47 #[.int .i64 m] w fun e w' => e = .returned (.bool (decide (1 ≤ m ∧ m ≤ 4))) ∧ w = w' := by
  by_cases h1 : 1 ≤ m
  · by_cases h4 : m ≤ 4
    · rw [decide_eq_true (⟨h1, h4⟩ : 1 ≤ m ∧ m ≤ 4)]
      go_enter Try.func47, Try.ntmps47
      go_wp2
      go_ret
      exact ⟨rfl, rfl⟩
    · rw [decide_eq_false (by omega : ¬ (1 ≤ m ∧ m ≤ 4))]
      have t : decide (m ≤ 4) = false := decide_eq_false h4
      clear h4
      go_enter Try.func47, Try.ntmps47
      go_wp2
      go_ret
      exact ⟨rfl, rfl⟩
  · rw [decide_eq_false (by omega : ¬ (1 ≤ m ∧ m ≤ 4))]
    have t : decide (1 ≤ m) = false := decide_eq_false h1
    clear h1
    go_enter Try.func47, Try.ntmps47
    go_wp2
    go_ret
    exact ⟨rfl, rfl⟩
theorem conv_trunc {x : Nat} (h : Fl.fin x) (hb : Fl.val (Fl.rg x) < 4503599627370496 * Fl.U) (w : World) : (convert 22 2 (.float .f64 x)).run Try.prog w = .ok (.int .i64 (Fl.wn .zero x)) w :=
  run_convert_float_int w _ _ .f64 .i64 x _ (by rw [Try.underlying22]; rfl) Try.underlying2 (Fl.trunc_int h hb)
theorem wz_bd {x : Nat} (hb : Fl.val (Fl.rg x) < 4503599627370496 * Fl.U) : -4503599627370496 ≤ Fl.wn .zero x ∧ Fl.wn .zero x ≤ 4503599627370496 := by
  have e : Fl.whole .zero (Fl.ng x) (Fl.val (Fl.rg x)) = Fl.val (Fl.rg x) / Fl.U := by unfold Fl.whole Fl.more; simp
  have hq : Fl.val (Fl.rg x) / Fl.U < 4503599627370496 := by rw [Nat.div_lt_iff_lt_mul Fl.U_pos]; exact hb
  have := Fl.wn_abs .zero x
  omega
/-- What is left, by the walk's own words. -/
theorem rest_run {x : Nat} (h : Fl.fin x) (hb : Fl.val (Fl.rg x) < 4503599627370496 * Fl.U) : ∃ z, (∀ w, (binOp .sub 22 (.float .f64 x) (.float .f64 (floatOfInt .f64 (Fl.wn .zero x)))).run Try.prog w = .ok (.float .f64 z) w) ∧ Fl.fin z ∧
    Fl.V z = if Fl.ng x then -((Fl.val (Fl.rg x) % Fl.U : Nat) : Int) else ((Fl.val (Fl.rg x) % Fl.U : Nat) : Int) := by
  obtain ⟨z, hz, fz, vz⟩ := Fl.rest_sub h hb
  exact ⟨z, fun w => run_float_arith w .sub _ .f64 _ _ _ hz, fz, vz⟩
set_option maxHeartbeats 1000000 in
theorem whole_down (x : Nat) (h : Fl.fin x) (hb : Fl.val (Fl.rg x) < 4503599627370496 * Fl.U) (w : World) : Calls Try.prog 48 #[.float .f64 x, .int .i64 1] w fun e w' => e = .returned (.int .i64 (Fl.wn .down x)) ∧ w = w' := by
  have c1 := conv_trunc h hb
  obtain ⟨z, r1, fz, vz⟩ := rest_run h hb
  have t1 := (Fl.rest_ord fz vz).1
  have e := Fl.wn_rest .down x
  obtain ⟨n0, n1⟩ := wz_bd hb
  have E : Hid (Fl.wn .down x = if (Fl.more .down (Fl.ng x) (Fl.val (Fl.rg x) / Fl.U) (Fl.val (Fl.rg x) % Fl.U) Fl.U) then Fl.wn .zero x - 1 else Fl.wn .zero x) := Lib.hid (by
    rw [e]
    cases g : Fl.ng x
    · rw [if_neg (by decide)]
      generalize hb : Fl.more .down false (Fl.val (Fl.rg x) / Fl.U) (Fl.val (Fl.rg x) % Fl.U) Fl.U = b
      have : b = false := by rw [← hb]; rfl
      subst this; simp
    · rw [if_pos rfl]
      generalize hb : Fl.more .down true (Fl.val (Fl.rg x) / Fl.U) (Fl.val (Fl.rg x) % Fl.U) Fl.U = b
      cases b <;> simp)
  generalize Fl.more .down (Fl.ng x) (Fl.val (Fl.rg x) / Fl.U) (Fl.val (Fl.rg x) % Fl.U) Fl.U = b at t1 E
  generalize Fl.wn .zero x = n at *
  clear h hb fz vz e
  cases b
  all_goals
    go_enter Try.func48, Try.ntmps48
    go_wp2
    go_ret
    exact ⟨ret_int (by rw [E.out]; simp), rfl⟩
set_option maxHeartbeats 1000000 in
theorem whole_up (x : Nat) (h : Fl.fin x) (hb : Fl.val (Fl.rg x) < 4503599627370496 * Fl.U) (w : World) : Calls Try.prog 48 #[.float .f64 x, .int .i64 2] w fun e w' => e = .returned (.int .i64 (Fl.wn .up x)) ∧ w = w' := by
  have c1 := conv_trunc h hb
  obtain ⟨z, r1, fz, vz⟩ := rest_run h hb
  have t1 := (Fl.rest_ord fz vz).2
  have e := Fl.wn_rest .up x
  obtain ⟨n0, n1⟩ := wz_bd hb
  have E : Hid (Fl.wn .up x = if (Fl.more .up (Fl.ng x) (Fl.val (Fl.rg x) / Fl.U) (Fl.val (Fl.rg x) % Fl.U) Fl.U) then Fl.wn .zero x + 1 else Fl.wn .zero x) := Lib.hid (by
    rw [e]
    cases g : Fl.ng x
    · rw [if_neg (by decide)]
      generalize hb : Fl.more .up false (Fl.val (Fl.rg x) / Fl.U) (Fl.val (Fl.rg x) % Fl.U) Fl.U = b
      cases b <;> simp
    · rw [if_pos rfl]
      generalize hb : Fl.more .up true (Fl.val (Fl.rg x) / Fl.U) (Fl.val (Fl.rg x) % Fl.U) Fl.U = b
      have : b = false := by rw [← hb]; rfl
      subst this; simp)
  generalize Fl.more .up (Fl.ng x) (Fl.val (Fl.rg x) / Fl.U) (Fl.val (Fl.rg x) % Fl.U) Fl.U = b at t1 E
  generalize Fl.wn .zero x = n at *
  clear h hb fz vz e
  cases b
  all_goals
    go_enter Try.func48, Try.ntmps48
    go_wp2
    go_ret
    exact ⟨ret_int (by rw [E.out]; simp), rfl⟩
set_option maxHeartbeats 1000000 in
theorem whole_zero (x : Nat) (h : Fl.fin x) (hb : Fl.val (Fl.rg x) < 4503599627370496 * Fl.U) (w : World) : Calls Try.prog 48 #[.float .f64 x, .int .i64 3] w fun e w' => e = .returned (.int .i64 (Fl.wn .zero x)) ∧ w = w' := by
  have c1 := conv_trunc h hb
  obtain ⟨z, r1, fz, vz⟩ := rest_run h hb
  obtain ⟨n0, n1⟩ := wz_bd hb
  generalize Fl.wn .zero x = n at *
  clear h hb fz vz
  go_enter Try.func48, Try.ntmps48
  go_wp2
  go_ret
  exact ⟨rfl, rfl⟩
/-- Is a whole number odd? -/
theorem odd_tmod (q : Nat) (s : Bool) : ((if s then -(q : Int) else (q : Int)).tmod 2 != 0) = decide (q % 2 = 1) := by
  have e : (q : Int).tmod 2 = ((q % 2 : Nat) : Int) := by
    rw [show (2 : Int) = ((2 : Nat) : Int) from rfl, ← Int.ofNat_tmod]
  have h : q % 2 = 0 ∨ q % 2 = 1 := by omega
  cases s
  · simp only [Bool.false_eq_true, if_false]
    rw [e]
    rcases h with h | h <;> rw [h] <;> decide
  · simp only [if_true]
    rw [Int.neg_tmod, e]
    rcases h with h | h <;> rw [h] <;> decide
set_option maxHeartbeats 2000000 in
theorem whole_even (x : Nat) (h : Fl.fin x) (hb : Fl.val (Fl.rg x) < 4503599627370496 * Fl.U) (w : World) : Calls Try.prog 48 #[.float .f64 x, .int .i64 4] w fun e w' => e = .returned (.int .i64 (Fl.wn .even x)) ∧ w = w' := by
  have c1 := conv_trunc h hb
  obtain ⟨z, r1, fz, vz⟩ := rest_run h hb
  have t := Fl.rest_half fz vz
  have e := Fl.wn_rest .even x
  have o := odd_tmod (Fl.val (Fl.rg x) / Fl.U) (Fl.ng x)
  rw [← Fl.wn_zero] at o
  obtain ⟨n0, n1⟩ := wz_bd hb
  have E : Hid (Fl.wn .even x = if Fl.ng x then (if (decide (Fl.U < 2 * (Fl.val (Fl.rg x) % Fl.U)) || (decide (Fl.U = 2 * (Fl.val (Fl.rg x) % Fl.U)) && decide (Fl.val (Fl.rg x) / Fl.U % 2 = 1))) then Fl.wn .zero x - 1 else Fl.wn .zero x) else (if (decide (Fl.U < 2 * (Fl.val (Fl.rg x) % Fl.U)) || (decide (Fl.U = 2 * (Fl.val (Fl.rg x) % Fl.U)) && decide (Fl.val (Fl.rg x) / Fl.U % 2 = 1))) then Fl.wn .zero x + 1 else Fl.wn .zero x)) := Lib.hid (by
    rw [e]
    have e2 : ∀ s, Fl.more .even s (Fl.val (Fl.rg x) / Fl.U) (Fl.val (Fl.rg x) % Fl.U) Fl.U = (decide (Fl.U < 2 * (Fl.val (Fl.rg x) % Fl.U)) || (decide (Fl.U = 2 * (Fl.val (Fl.rg x) % Fl.U)) && decide (Fl.val (Fl.rg x) / Fl.U % 2 = 1))) := by
      intro s; unfold Fl.more; rw [Bool.eq_iff_iff]; simp
    rw [e2, e2]
    generalize (decide (Fl.U < 2 * (Fl.val (Fl.rg x) % Fl.U)) || (decide (Fl.U = 2 * (Fl.val (Fl.rg x) % Fl.U)) && decide (Fl.val (Fl.rg x) / Fl.U % 2 = 1))) = b
    cases b <;> simp)
  have hx : decide (Fl.U < 2 * (Fl.val (Fl.rg x) % Fl.U)) = true → decide (Fl.U = 2 * (Fl.val (Fl.rg x) % Fl.U)) = false := by simp; omega
  generalize decide (Fl.U < 2 * (Fl.val (Fl.rg x) % Fl.U)) = g1 at t E hx
  generalize decide (Fl.U = 2 * (Fl.val (Fl.rg x) % Fl.U)) = g2 at t E hx
  generalize decide (Fl.val (Fl.rg x) / Fl.U % 2 = 1) = g3 at o E
  generalize Fl.wn .zero x = n at *
  generalize Fl.ng x = s at *
  clear h hb fz vz e
  cases s
  · obtain ⟨t1, t2, t3, t4⟩ := t.1 rfl
    clear t
    cases g1
    · cases g2
      · clear hx
        go_enter Try.func48, Try.ntmps48
        go_wp2
        go_ret
        exact ⟨ret_int (by rw [E.out]; simp), rfl⟩
      · clear hx
        cases g3
        all_goals
          go_enter Try.func48, Try.ntmps48
          go_wp2
          go_ret
          exact ⟨ret_int (by rw [E.out]; simp), rfl⟩
    · obtain rfl := hx rfl
      clear hx
      go_enter Try.func48, Try.ntmps48
      go_wp2
      go_ret
      exact ⟨ret_int (by rw [E.out]; simp), rfl⟩
  · obtain ⟨t1, t2, t3, t4⟩ := t.2 rfl
    clear t
    cases g1
    · cases g2
      · clear hx
        go_enter Try.func48, Try.ntmps48
        go_wp2
        go_ret
        exact ⟨ret_int (by rw [E.out]; simp), rfl⟩
      · clear hx
        cases g3
        all_goals
          go_enter Try.func48, Try.ntmps48
          go_wp2
          go_ret
          exact ⟨ret_int (by rw [E.out]; simp), rfl⟩
    · obtain rfl := hx rfl
      clear hx
      go_enter Try.func48, Try.ntmps48
      go_wp2
      go_ret
      exact ⟨ret_int (by rw [E.out]; simp), rfl⟩
theorem whole_ref (x : Nat) (m : Int) (h1 : 1 ≤ m) (h4 : m ≤ 4) (h : Fl.fin x) (hb : Fl.val (Fl.rg x) < 4503599627370496 * Fl.U) (w : World) : Calls Try.prog 48 #[.float .f64 x, .int .i64 m] w fun e w' => e = .returned (.int .i64 (Fl.wn (Fl.wayOf m) x)) ∧ w = w' := by
  rcases (by omega : m = 1 ∨ m = 2 ∨ m = 3 ∨ m = 4) with rfl | rfl | rfl | rfl
  · exact whole_down x h hb w
  · exact whole_up x h hb w
  · exact whole_zero x h hb w
  · exact whole_even x h hb w
end Go.Proofs.Ytndophkojnfcaaa
