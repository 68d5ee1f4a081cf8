/- The contract of num.Mul: a product that fits is told, one that does not is refused. -/
import Derived.Test.YtafnnnbefabofaaDoorNumG
set_option linter.unusedVariables false
set_option linter.unusedSimpArgs false
namespace Go.Proofs.YtafnnnbefabofaaDoor
open Go.RowKit

namespace Nm
theorem mul_bd {x y X Y : Int} (h0 : 0 ≤ x) (h1 : x ≤ X) (h2 : 0 ≤ y) (h3 : y ≤ Y) : 0 ≤ x * y ∧ x * y ≤ X * Y :=
  ⟨Int.mul_nonneg h0 h2, Int.mul_le_mul h1 h3 h2 (by omega)⟩
theorem split_r (x y : Int) : x * (y / 4294967296) * 4294967296 + x * (y % 4294967296) = x * y := by
  rw [Int.mul_assoc, ← Int.mul_add]; congr 1; omega
theorem split_l (x y : Int) : x / 4294967296 * y * 4294967296 + x % 4294967296 * y = x * y := by
  rw [Int.mul_right_comm, ← Int.add_mul]; congr 1; omega
end Nm
set_option maxHeartbeats 1000000 in
theorem size_any (n : Int) (w : World) (h0 : -9223372036854775808 ≤ n) (h1 : n ≤ 9223372036854775807) :
    Calls Tryd.prog 94 #[.int .i64 n] w fun e w' => e = .returned (.int .u64 (n.natAbs : Nat)) ∧ w = w' := by
  by_cases h : n < 0
  · have e : -(n + 1) + 1 = ((n.natAbs : Nat) : Int) := by omega
    have E := Lib.hid e; clear e
    go_enter Tryd.func94, Tryd.ntmps94
    go_wp2
    go_ret
    exact ⟨ret_int E.out, rfl⟩
  · have e : n = ((n.natAbs : Nat) : Int) := by omega
    have E := Lib.hid e; clear e
    go_enter Tryd.func94, Tryd.ntmps94
    go_wp2
    go_ret
    exact ⟨ret_int E.out, rfl⟩
/-- What product answers. -/
def prodV (a b : Int) : Int := if a * b < 18446744073709551616 then a * b else 0
def prodB (a b : Int) : Bool := decide (a * b < 18446744073709551616)
set_option maxHeartbeats 2000000 in
theorem product_any (a b : Int) (w : World) (a0 : 0 ≤ a) (a1 : a < 18446744073709551616) (b0 : 0 ≤ b) (b1 : b < 18446744073709551616) :
    Calls Tryd.prog 93 #[.int .u64 a, .int .u64 b] w fun e w' => e = .returned (.tuple #[.int .u64 (prodV a b), .bool (prodB a b)]) ∧ ∃ n, w' = w.drewN n := by
  by_cases ha : a < 4294967296
  · have q0 : 0 ≤ b / 4294967296 := by omega
    have q1 : b / 4294967296 ≤ 4294967295 := by omega
    have r0 : 0 ≤ b % 4294967296 := by omega
    have r1 : b % 4294967296 ≤ 4294967295 := by omega
    have am : a % 4294967296 = a := by omega
    have ad : a / 4294967296 = 0 := by omega
    obtain ⟨p0, p1⟩ := Nm.mul_bd a0 (show a ≤ 4294967295 by omega) q0 q1
    obtain ⟨s0, s1⟩ := Nm.mul_bd a0 (show a ≤ 4294967295 by omega) r0 r1
    have e := Nm.split_r a b
    have E := Lib.hid e
    by_cases hf : a * b < 18446744073709551616
    · have v1 : prodV a b = a * b := by unfold prodV; rw [if_pos hf]
      have v2 : prodB a b = true := by unfold prodB; simpa using hf
      rw [v1, v2]
      have c0 : a * (b / 4294967296) + a * (b % 4294967296) / 4294967296 < 4294967296 := by omega
      have t0 : ((a * (b / 4294967296) + a * (b % 4294967296) / 4294967296) / 4294967296 != 0) = false := by simp; omega
      have fin : (a * (b / 4294967296) + a * (b % 4294967296) / 4294967296) * 4294967296 + a * (b % 4294967296) % 4294967296 = a * b := by omega
      have FIN := Lib.hid fin
      clear fin e v1 v2 hf
      go_enter Tryd.func93, Tryd.ntmps93
      go_wp2
      go_ret2
      refine ⟨?_, 0, rfl⟩
      rw [← FIN.out]
      rfl
    · have v1 : prodV a b = 0 := by unfold prodV; rw [if_neg hf]
      have v2 : prodB a b = false := by unfold prodB; simpa using hf
      rw [v1, v2]
      have c0 : 4294967296 ≤ a * (b / 4294967296) + a * (b % 4294967296) / 4294967296 := by omega
      have t0 : ((a * (b / 4294967296) + a * (b % 4294967296) / 4294967296) / 4294967296 != 0) = true := by rw [bne_iff_ne]; omega
      clear e v1 v2 hf
      go_enter Tryd.func93, Tryd.ntmps93
      go_wp2
      go_ret2
      exact ⟨rfl, 0, rfl⟩
  · by_cases hb : b < 4294967296
    · have q0 : 0 ≤ a / 4294967296 := by omega
      have q1 : a / 4294967296 ≤ 4294967295 := by omega
      have r0 : 0 ≤ a % 4294967296 := by omega
      have r1 : a % 4294967296 ≤ 4294967295 := by omega
      have bm : b % 4294967296 = b := by omega
      have bd : b / 4294967296 = 0 := by omega
      have ta : (a / 4294967296 != 0) = true := by rw [bne_iff_ne]; omega
      obtain ⟨p0, p1⟩ := Nm.mul_bd q0 q1 b0 (show b ≤ 4294967295 by omega)
      obtain ⟨s0, s1⟩ := Nm.mul_bd r0 r1 b0 (show b ≤ 4294967295 by omega)
      have e := Nm.split_l a b
      by_cases hf : a * b < 18446744073709551616
      · have v1 : prodV a b = a * b := by unfold prodV; rw [if_pos hf]
        have v2 : prodB a b = true := by unfold prodB; simpa using hf
        rw [v1, v2]
        have c0 : a / 4294967296 * b + a % 4294967296 * b / 4294967296 < 4294967296 := by omega
        have t0 : ((a / 4294967296 * b + a % 4294967296 * b / 4294967296) / 4294967296 != 0) = false := by simp; omega
        have fin : (a / 4294967296 * b + a % 4294967296 * b / 4294967296) * 4294967296 + a % 4294967296 * b % 4294967296 = a * b := by omega
        have FIN := Lib.hid fin
        clear fin e v1 v2 hf
        go_enter Tryd.func93, Tryd.ntmps93
        go_wp2
        go_ret2
        refine ⟨?_, 0, rfl⟩
        rw [← FIN.out]
        rfl
      · have v1 : prodV a b = 0 := by unfold prodV; rw [if_neg hf]
        have v2 : prodB a b = false := by unfold prodB; simpa using hf
        rw [v1, v2]
        have c0 : 4294967296 ≤ a / 4294967296 * b + a % 4294967296 * b / 4294967296 := by omega
        have t0 : ((a / 4294967296 * b + a % 4294967296 * b / 4294967296) / 4294967296 != 0) = true := by rw [bne_iff_ne]; omega
        clear e v1 v2 hf
        go_enter Tryd.func93, Tryd.ntmps93
        go_wp2
        go_ret2
        exact ⟨rfl, 0, rfl⟩
    · have hf : ¬ a * b < 18446744073709551616 := by
        have := Int.mul_le_mul (show 4294967296 ≤ a by omega) (show 4294967296 ≤ b by omega) (by decide) a0
        omega
      have v1 : prodV a b = 0 := by unfold prodV; rw [if_neg hf]
      have v2 : prodB a b = false := by unfold prodB; simpa using hf
      rw [v1, v2]
      have ta : (a / 4294967296 != 0) = true := by rw [bne_iff_ne]; omega
      have tb : (b / 4294967296 != 0) = true := by rw [bne_iff_ne]; omega
      clear v1 v2 hf
      go_enter Tryd.func93, Tryd.ntmps93
      go_wp2
      go_ret2
      exact ⟨rfl, 0, rfl⟩
/-- A magnitude with its sign. -/
def sgn (b : Bool) (n : Int) : Int := if b then -n else n
set_option maxHeartbeats 1000000 in
theorem signed_any (n : Int) (b : Bool) (w : World) (n0 : 0 ≤ n) (n1 : n < 18446744073709551616) :
    Calls Tryd.prog 95 #[.int .u64 n, .bool b] w fun e w' => e = .returned (.tuple #[.int .i64 (Nm.okv (sgn b n)), .int .i64 (Nm.okw (sgn b n))]) ∧ w = w' := by
  rcases Int.lt_trichotomy n 9223372036854775808 with h | h | h
  · have t1 : ¬ 9223372036854775808 < n := by omega
    have t2 : (n == 9223372036854775808) = false := by rw [beq_eq_false_iff_ne]; omega
    cases b
    · obtain ⟨e1, e2⟩ := Nm.ok_yes (n := sgn false n) (by show _ ≤ n; omega) (by show n ≤ _; omega)
      rw [e1, e2, show sgn false n = n from rfl]; clear e1 e2
      go_enter Tryd.func95, Tryd.ntmps95
      go_wp2
      go_ret2
      exact ⟨rfl, rfl⟩
    · obtain ⟨e1, e2⟩ := Nm.ok_yes (n := sgn true n) (by show _ ≤ -n; omega) (by show -n ≤ _; omega)
      rw [e1, e2, show sgn true n = -n from rfl]; clear e1 e2
      go_enter Tryd.func95, Tryd.ntmps95
      go_wp2
      go_ret2
      exact ⟨rfl, rfl⟩
  · subst h
    cases b
    · obtain ⟨e1, e2⟩ := Nm.ok_no (n := sgn false 9223372036854775808) (by right; show _ < (9223372036854775808 : Int); decide)
      rw [e1, e2]; clear e1 e2
      go_enter Tryd.func95, Tryd.ntmps95
      go_wp2
      go_ret2
      exact ⟨rfl, rfl⟩
    · obtain ⟨e1, e2⟩ := Nm.ok_yes (n := sgn true 9223372036854775808) (by decide) (by decide)
      rw [e1, e2, show sgn true 9223372036854775808 = -9223372036854775808 from rfl]; clear e1 e2
      go_enter Tryd.func95, Tryd.ntmps95
      go_wp2
      go_ret2
      exact ⟨rfl, rfl⟩
  · have e : Nm.okv (sgn b n) = 0 ∧ Nm.okw (sgn b n) = 1 := by
      cases b
      · exact Nm.ok_no (by right; show _ < n; omega)
      · exact Nm.ok_no (by left; show -n < _; omega)
    rw [e.1, e.2]; clear e
    go_enter Tryd.func95, Tryd.ntmps95
    go_wp2
    go_ret2
    exact ⟨rfl, rfl⟩
theorem sgn_abs (a b : Int) : a * b = sgn (!(decide (a < 0) == decide (b < 0))) ((a.natAbs : Int) * (b.natAbs : Int)) := by
  unfold sgn
  by_cases ha : a < 0
  · obtain ⟨x, hx⟩ : ∃ x : Nat, a = -(x : Int) := ⟨a.natAbs, by omega⟩
    by_cases hb : b < 0
    · obtain ⟨y, hy⟩ : ∃ y : Nat, b = -(y : Int) := ⟨b.natAbs, by omega⟩
      rw [decide_eq_true ha, decide_eq_true hb, hx, hy]; simp [Int.neg_mul_neg]
    · obtain ⟨y, hy⟩ : ∃ y : Nat, b = (y : Int) := ⟨b.natAbs, by omega⟩
      rw [decide_eq_true ha, decide_eq_false hb, hx, hy]; simp [Int.neg_mul]
  · obtain ⟨x, hx⟩ : ∃ x : Nat, a = (x : Int) := ⟨a.natAbs, by omega⟩
    by_cases hb : b < 0
    · obtain ⟨y, hy⟩ : ∃ y : Nat, b = -(y : Int) := ⟨b.natAbs, by omega⟩
      rw [decide_eq_false ha, decide_eq_true hb, hx, hy]; simp [Int.mul_neg]
    · obtain ⟨y, hy⟩ : ∃ y : Nat, b = (y : Int) := ⟨b.natAbs, by omega⟩
      rw [decide_eq_false ha, decide_eq_false hb, hx, hy]; simp
set_option maxHeartbeats 1000000 in
theorem nmul_any (a b : Int) (w : World) (a0 : -9223372036854775808 ≤ a) (a1 : a ≤ 9223372036854775807) (b0 : -9223372036854775808 ≤ b) (b1 : b ≤ 9223372036854775807) :
    Calls Tryd.prog 27 #[.int .i64 a, .int .i64 b] w fun e w' => e = .returned (.tuple #[.int .i64 (Nm.okv (a * b)), .int .i64 (Nm.okw (a * b))]) ∧ ∃ n, w' = w.drewN n := by
  have e := sgn_abs a b
  have na : (a.natAbs : Int) ≤ 9223372036854775808 := by omega
  have nb : (b.natAbs : Int) ≤ 9223372036854775808 := by omega
  have p0 : 0 ≤ (a.natAbs : Int) * (b.natAbs : Int) := Int.mul_nonneg (by omega) (by omega)
  obtain ⟨s, hs⟩ : ∃ s, (!(decide (a < 0) == decide (b < 0))) = s := ⟨_, rfl⟩
  rw [hs] at e
  have HS := Lib.hid hs
  by_cases hf : (a.natAbs : Int) * (b.natAbs : Int) < 18446744073709551616
  · have v1 : prodV a.natAbs b.natAbs = (a.natAbs : Int) * (b.natAbs : Int) := by unfold prodV; rw [if_pos hf]
    have v2 : prodB a.natAbs b.natAbs = true := by unfold prodB; simpa using hf
    have VV := Lib.hid (And.intro v1 v2)
    rw [e]
    clear e v1 v2
    generalize hP : (a.natAbs : Int) * (b.natAbs : Int) = P at p0 hf VV ⊢
    clear hP
    go_enter Tryd.func27, Tryd.ntmps27
    go_wp2_with fail
    refine (size_any a _ a0 a1).mono ?_; rintro e w1 ⟨rfl, rfl⟩
    go_wp2_with fail
    refine (size_any b _ b0 b1).mono ?_; rintro e w1 ⟨rfl, rfl⟩
    go_wp2_with fail
    refine (product_any _ _ _ (by omega) (by omega) (by omega) (by omega)).mono ?_; rintro e w1 ⟨rfl, k, rfl⟩
    rw [VV.out.1, VV.out.2]
    go_wp2_with fail
    refine (signed_any P s _ p0 hf).mono ?_; rintro e w1 ⟨rfl, rfl⟩
    go_wp2_with fail
    go_ret2
    exact ⟨rfl, _, rfl⟩
  · have v1 : prodV a.natAbs b.natAbs = 0 := by unfold prodV; rw [if_neg hf]
    have v2 : prodB a.natAbs b.natAbs = false := by unfold prodB; simpa using hf
    have VV := Lib.hid (And.intro v1 v2)
    have er : Nm.okv (a * b) = 0 ∧ Nm.okw (a * b) = 1 := by
      refine Nm.ok_no ?_
      rw [e]; unfold sgn
      cases s
      · right; simp; omega
      · left; simp; omega
    rw [er.1, er.2]
    clear e v1 v2 er hf hs p0
    go_enter Tryd.func27, Tryd.ntmps27
    go_wp2_with fail
    refine (size_any a _ a0 a1).mono ?_; rintro e w1 ⟨rfl, rfl⟩
    go_wp2_with fail
    refine (size_any b _ b0 b1).mono ?_; rintro e w1 ⟨rfl, rfl⟩
    go_wp2_with fail
    refine (product_any _ _ _ (by omega) (by omega) (by omega) (by omega)).mono ?_; rintro e w1 ⟨rfl, k, rfl⟩
    rw [VV.out.1, VV.out.2]
    go_wp2_with fail
    go_ret2
    exact ⟨rfl, _, rfl⟩
theorem nmul_b (a b : Int) (w : World) (a0 : -9223372036854775808 ≤ a) (a1 : a ≤ 9223372036854775807) (b0 : -9223372036854775808 ≤ b) (b1 : b ≤ 9223372036854775807) :
    Calls Tryd.prog 27 #[.int .i64 a, .int .i64 b] w fun e w' => e = .returned (.tuple #[.int .i64 (Nm.okv (a * b)), .int .i64 (Nm.okw (a * b))]) ∧ Below w.heap.size w w' :=
  (nmul_any a b w a0 a1 b0 b1).mono fun _ _ ⟨h, n, e⟩ => ⟨h, by rw [e]; exact below_draw _ _⟩
end Go.Proofs.YtafnnnbefabofaaDoor
