/- The contracts of Div at any numbers, the program's and the reference's; of both Clamps. -/
import Derived.Test.YtafnnnbefabofaaDoorBk
set_option linter.unusedVariables false
set_option linter.unusedSimpArgs false
namespace Go.Proofs.YtafnnnbefabofaaDoor
open Go.RowKit

namespace Nm
/-- May one divide? -/
def dOk (a b : Int) : Bool := !(b == 0) && !((a == -9223372036854775808) && (b == -1))
def tq (a b : Int) : Int := IntKind.i64.wrap (a.tdiv b)
def tr (a b : Int) : Int := a.tmod b
/-- Does Go's quotient lie above? -/
def dUp (a b : Int) : Bool := !(tr a b == 0) && (!(decide (tr a b < 0) == decide (b < 0)))
def dq (a b : Int) : Int := if dOk a b then (if dUp a b then wrap64 (tq a b - 1) else tq a b) else 0
def dr (a b : Int) : Int := if dOk a b then (if dUp a b then wrap64 (tr a b + b) else tr a b) else 0
def dw (a b : Int) : Int := if dOk a b then 0 else 1
def cl (n low high : Int) : Int := if n < low then low else if high < n then high else n
end Nm
set_option maxHeartbeats 1000000 in
theorem any_num.Div (a b : Int) (w : World) :
    Calls Tryd.prog 29 #[.int .i64 a, .int .i64 b] w fun e w' => e = .returned (.tuple #[.int .i64 (Nm.dq a b), .int .i64 (Nm.dr a b), .int .i64 (Nm.dw a b)]) ∧ Below w.heap.size w w' := by
  cases hk : Nm.dOk a b
  · have e1 : Nm.dq a b = 0 := by unfold Nm.dq; rw [hk]; rfl
    have e2 : Nm.dr a b = 0 := by unfold Nm.dr; rw [hk]; rfl
    have e3 : Nm.dw a b = 1 := by unfold Nm.dw; rw [hk]; rfl
    rw [e1, e2, e3]
    clear e1 e2 e3
    by_cases hb : b = 0
    · subst hb
      clear hk
      go_enter Tryd.func29, Tryd.ntmps29
      go_wp2_with fail
      go_ret3
      exact ⟨rfl, by go_grown⟩
    · have hb1 : (b == 0) = false := by simpa using hb
      have h2 : a = -9223372036854775808 ∧ b = -1 := by unfold Nm.dOk at hk; simp [hb1] at hk; exact hk
      obtain ⟨rfl, rfl⟩ := h2
      clear hk hb hb1
      go_enter Tryd.func29, Tryd.ntmps29
      go_wp2_with fail
      go_ret3
      exact ⟨rfl, by go_grown⟩
  · have hb : (b == 0) = false := by unfold Nm.dOk at hk; cases h : (b == 0) <;> simp [h] at hk ⊢
    have hb0 : b ≠ 0 := by simpa using hb
    have hcd : (a == -9223372036854775808) = false ∨ ((a == -9223372036854775808) = true ∧ (b == -1) = false) := by
      unfold Nm.dOk at hk
      cases h : (a == -9223372036854775808)
      · exact .inl rfl
      · cases h2 : (b == -1)
        · exact .inr ⟨rfl, rfl⟩
        · rw [h, h2] at hk; simp at hk
    have e3 : Nm.dw a b = 0 := by unfold Nm.dw; rw [hk]; rfl
    obtain ⟨q, hq⟩ : ∃ q, IntKind.i64.wrap (a.tdiv b) = q := ⟨_, rfl⟩
    obtain ⟨r, hr⟩ : ∃ r, a.tmod b = r := ⟨_, rfl⟩
    have hu : Nm.dUp a b = (!(r == 0) && (!(decide (r < 0) == decide (b < 0)))) := by unfold Nm.dUp Nm.tr; rw [hr]
    have e1 : Nm.dq a b = if (!(r == 0) && (!(decide (r < 0) == decide (b < 0)))) then wrap64 (q - 1) else q := by unfold Nm.dq Nm.tq; rw [hk, hu, hq]; rfl
    have e2 : Nm.dr a b = if (!(r == 0) && (!(decide (r < 0) == decide (b < 0)))) then wrap64 (r + b) else r := by unfold Nm.dr Nm.tr; rw [hk, hu, hr]; rfl
    rw [e1, e2, e3]
    clear hk e1 e2 e3 hu
    cases hz : (r == 0)
    · have hz1 : r ≠ 0 := by simpa using hz
      have hz2 : (r != 0) = true := by unfold bne; rw [hz]; rfl
      cases hs : (!(decide (r < 0) == decide (b < 0)))
      · rcases hcd with hc | ⟨hc, hd⟩
        · go_enter Tryd.func29, Tryd.ntmps29
          go_wp2_with fail
          try (go_quiet (fail))
          try go_wp2_with fail
          all_goals (go_ret3; exact ⟨rfl, by first | exact below_draw _ _ | exact Below.refl _ _⟩)
        · go_enter Tryd.func29, Tryd.ntmps29
          go_wp2_with fail
          try (go_quiet (fail))
          try go_wp2_with fail
          all_goals (go_ret3; exact ⟨rfl, by first | exact below_draw _ _ | exact Below.refl _ _⟩)
      · rcases hcd with hc | ⟨hc, hd⟩
        · go_enter Tryd.func29, Tryd.ntmps29
          go_wp2_with fail
          try (go_quiet (fail))
          try go_wp2_with fail
          all_goals (go_ret3; exact ⟨rfl, by first | exact below_draw _ _ | exact Below.refl _ _⟩)
        · go_enter Tryd.func29, Tryd.ntmps29
          go_wp2_with fail
          try (go_quiet (fail))
          try go_wp2_with fail
          all_goals (go_ret3; exact ⟨rfl, by first | exact below_draw _ _ | exact Below.refl _ _⟩)
    · have hr0 : r = 0 := by simpa using hz
      subst hr0
      rcases hcd with hc | ⟨hc, hd⟩
      · go_enter Tryd.func29, Tryd.ntmps29
        go_wp2_with fail
        try (go_quiet (fail))
        try go_wp2_with fail
        all_goals (go_ret3; exact ⟨rfl, by first | exact below_draw _ _ | exact Below.refl _ _⟩)
      · go_enter Tryd.func29, Tryd.ntmps29
        go_wp2_with fail
        try (go_quiet (fail))
        try go_wp2_with fail
        all_goals (go_ret3; exact ⟨rfl, by first | exact below_draw _ _ | exact Below.refl _ _⟩)
set_option maxHeartbeats 1000000 in
theorem any_noontideref01.Div (a b : Int) (w : World) :
    Calls Tryd.prog 30 #[.int .i64 a, .int .i64 b] w fun e w' => e = .returned (.tuple #[.int .i64 (Nm.dq a b), .int .i64 (Nm.dr a b), .int .i64 (Nm.dw a b)]) ∧ Below w.heap.size w w' := by
  cases hk : Nm.dOk a b
  · have e1 : Nm.dq a b = 0 := by unfold Nm.dq; rw [hk]; rfl
    have e2 : Nm.dr a b = 0 := by unfold Nm.dr; rw [hk]; rfl
    have e3 : Nm.dw a b = 1 := by unfold Nm.dw; rw [hk]; rfl
    rw [e1, e2, e3]
    clear e1 e2 e3
    by_cases hb : b = 0
    · subst hb
      clear hk
      go_enter Tryd.func30, Tryd.ntmps30
      go_wp2_with fail
      go_ret3
      exact ⟨rfl, by go_grown⟩
    · have hb1 : (b == 0) = false := by simpa using hb
      have h2 : a = -9223372036854775808 ∧ b = -1 := by unfold Nm.dOk at hk; simp [hb1] at hk; exact hk
      obtain ⟨rfl, rfl⟩ := h2
      clear hk hb hb1
      go_enter Tryd.func30, Tryd.ntmps30
      go_wp2_with fail
      go_ret3
      exact ⟨rfl, by go_grown⟩
  · have hb : (b == 0) = false := by unfold Nm.dOk at hk; cases h : (b == 0) <;> simp [h] at hk ⊢
    have hb0 : b ≠ 0 := by simpa using hb
    have hcd : (a == -9223372036854775808) = false ∨ ((a == -9223372036854775808) = true ∧ (b == -1) = false) := by
      unfold Nm.dOk at hk
      cases h : (a == -9223372036854775808)
      · exact .inl rfl
      · cases h2 : (b == -1)
        · exact .inr ⟨rfl, rfl⟩
        · rw [h, h2] at hk; simp at hk
    have e3 : Nm.dw a b = 0 := by unfold Nm.dw; rw [hk]; rfl
    obtain ⟨q, hq⟩ : ∃ q, IntKind.i64.wrap (a.tdiv b) = q := ⟨_, rfl⟩
    obtain ⟨r, hr⟩ : ∃ r, a.tmod b = r := ⟨_, rfl⟩
    have hu : Nm.dUp a b = (!(r == 0) && (!(decide (r < 0) == decide (b < 0)))) := by unfold Nm.dUp Nm.tr; rw [hr]
    have e1 : Nm.dq a b = if (!(r == 0) && (!(decide (r < 0) == decide (b < 0)))) then wrap64 (q - 1) else q := by unfold Nm.dq Nm.tq; rw [hk, hu, hq]; rfl
    have e2 : Nm.dr a b = if (!(r == 0) && (!(decide (r < 0) == decide (b < 0)))) then wrap64 (r + b) else r := by unfold Nm.dr Nm.tr; rw [hk, hu, hr]; rfl
    rw [e1, e2, e3]
    clear hk e1 e2 e3 hu
    cases hz : (r == 0)
    · have hz1 : r ≠ 0 := by simpa using hz
      have hz2 : (r != 0) = true := by unfold bne; rw [hz]; rfl
      cases hs : (!(decide (r < 0) == decide (b < 0)))
      · rcases hcd with hc | ⟨hc, hd⟩
        · go_enter Tryd.func30, Tryd.ntmps30
          go_wp2_with fail
          try (go_quiet (fail))
          try go_wp2_with fail
          all_goals (go_ret3; exact ⟨rfl, by first | exact below_draw _ _ | exact Below.refl _ _⟩)
        · go_enter Tryd.func30, Tryd.ntmps30
          go_wp2_with fail
          try (go_quiet (fail))
          try go_wp2_with fail
          all_goals (go_ret3; exact ⟨rfl, by first | exact below_draw _ _ | exact Below.refl _ _⟩)
      · rcases hcd with hc | ⟨hc, hd⟩
        · go_enter Tryd.func30, Tryd.ntmps30
          go_wp2_with fail
          try (go_quiet (fail))
          try go_wp2_with fail
          all_goals (go_ret3; exact ⟨rfl, by first | exact below_draw _ _ | exact Below.refl _ _⟩)
        · go_enter Tryd.func30, Tryd.ntmps30
          go_wp2_with fail
          try (go_quiet (fail))
          try go_wp2_with fail
          all_goals (go_ret3; exact ⟨rfl, by first | exact below_draw _ _ | exact Below.refl _ _⟩)
    · have hr0 : r = 0 := by simpa using hz
      subst hr0
      rcases hcd with hc | ⟨hc, hd⟩
      · go_enter Tryd.func30, Tryd.ntmps30
        go_wp2_with fail
        try (go_quiet (fail))
        try go_wp2_with fail
        all_goals (go_ret3; exact ⟨rfl, by first | exact below_draw _ _ | exact Below.refl _ _⟩)
      · go_enter Tryd.func30, Tryd.ntmps30
        go_wp2_with fail
        try (go_quiet (fail))
        try go_wp2_with fail
        all_goals (go_ret3; exact ⟨rfl, by first | exact below_draw _ _ | exact Below.refl _ _⟩)
set_option maxHeartbeats 1000000 in
theorem any_num.Clamp (n low high : Int) (w : World) :
    Calls Tryd.prog 35 #[.int .i64 n, .int .i64 low, .int .i64 high] w fun e w' => e = .returned (.int .i64 (Nm.cl n low high)) ∧ Below w.heap.size w w' := by
  unfold Nm.cl
  by_cases h1 : n < low
  · rw [if_pos h1]
    go_enter Tryd.func35, Tryd.ntmps35
    go_wp2_with fail
    go_ret
    exact ⟨rfl, Below.refl _ _⟩
  · rw [if_neg h1]
    by_cases h2 : high < n
    · rw [if_pos h2]
      go_enter Tryd.func35, Tryd.ntmps35
      go_wp2_with fail
      go_ret
      exact ⟨rfl, Below.refl _ _⟩
    · rw [if_neg h2]
      go_enter Tryd.func35, Tryd.ntmps35
      go_wp2_with fail
      go_ret
      exact ⟨rfl, Below.refl _ _⟩
set_option maxHeartbeats 1000000 in
theorem any_noontideref01.Clamp (n low high : Int) (w : World) :
    Calls Tryd.prog 36 #[.int .i64 n, .int .i64 low, .int .i64 high] w fun e w' => e = .returned (.int .i64 (Nm.cl n low high)) ∧ Below w.heap.size w w' := by
  unfold Nm.cl
  by_cases h1 : n < low
  · rw [if_pos h1]
    go_enter Tryd.func36, Tryd.ntmps36
    go_wp2_with fail
    go_ret
    exact ⟨rfl, Below.refl _ _⟩
  · rw [if_neg h1]
    by_cases h2 : high < n
    · rw [if_pos h2]
      go_enter Tryd.func36, Tryd.ntmps36
      go_wp2_with fail
      go_ret
      exact ⟨rfl, Below.refl _ _⟩
    · rw [if_neg h2]
      go_enter Tryd.func36, Tryd.ntmps36
      go_wp2_with fail
      go_ret
      exact ⟨rfl, Below.refl _ _⟩
end Go.Proofs.YtafnnnbefabofaaDoor

