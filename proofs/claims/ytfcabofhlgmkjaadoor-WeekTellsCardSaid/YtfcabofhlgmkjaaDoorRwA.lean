/- The year that holds a day's week, by the Mondays of weeks 1: in plain arithmetic. -/
import Derived.Test.YtfcabofhlgmkjaaDoorWkN
set_option linter.unusedVariables false
set_option linter.unusedSimpArgs false
namespace Go.Proofs.YtfcabofhlgmkjaaDoor
open Go.RowKit

namespace Wk
theorem fst_succ {y : Int} (y0 : -39999 ≤ y) (y1 : y ≤ 39999) : fst (y + 1) = fst y + 7 * wks y := by
  obtain ⟨w1, w2⟩ := wks_is y0 y1
  obtain ⟨f0, f1, f2⟩ := fst_bd y
  obtain ⟨g0, g1, g2⟩ := fst_bd (y + 1)
  have l := Cal.lp_01 y
  rw [Cal.ahead_succ] at g0 g1
  generalize Cal.ahead y = a at *
  generalize Cal.lp y = lp at *
  generalize fst y = f at *
  generalize fst (y + 1) = g at *
  generalize wks y = n at *
  rcases w1 with w1 | w1
  · have : ¬ (a % 7 = 0 ∨ (a + 364 + lp) % 7 = 0) := fun h => by have := w2.2 h; omega
    omega
  · have := w2.1 w1
    omega
/-- A year whose weeks hold a day. -/
def M (n y : Int) : Prop := -39999 ≤ y ∧ y ≤ 39999 ∧ fst y ≤ n ∧ n < fst (y + 1)
theorem M_is {n y : Int} (h : M n y) : Cal.hasD (mid n) = true ∧ wy n = y ∧ wk n = (n - fst y) / 7 + 1 ∧ dow n = (n - fst y) % 7 + 1 := by
  obtain ⟨y0, y1, a, b⟩ := h
  rw [fst_succ y0 y1] at b
  have e : dn y ((n - fst y) / 7 + 1) ((n - fst y) % 7 + 1) = n := by unfold dn; omega
  have r : rB y ((n - fst y) / 7 + 1) ((n - fst y) % 7 + 1) = true := by
    unfold rB
    rw [decide_eq_true (show 1 ≤ (n - fst y) / 7 + 1 by omega), decide_eq_true (show (n - fst y) / 7 + 1 ≤ wks y by omega), decide_eq_true (show 1 ≤ (n - fst y) % 7 + 1 by omega), decide_eq_true (show (n - fst y) % 7 + 1 ≤ 7 by omega)]
    rfl
  obtain ⟨_, h2, h3, h4, h5⟩ := back_of r
  rw [e] at h2 h3 h4 h5
  exact ⟨h2, h4, h5, h3⟩
theorem rB_M {n : Int} (h : Cal.hasD (mid n) = true) (hr : rB (wy n) (wk n) (dow n) = true) : M n (wy n) ∧ Cal.ahead (wy n) ≤ n + 3 ∧ n < Cal.ahead (wy n + 1) + 3 := by
  have e := dn_of h
  unfold rB at hr
  simp only [Bool.and_eq_true, decide_eq_true_eq] at hr
  obtain ⟨k0, k1, d0, d1⟩ := hr
  obtain ⟨y0, y1⟩ := wks_y k0 k1
  obtain ⟨t0, t1⟩ := thu_in k0 k1
  unfold dn at e
  refine ⟨⟨y0, y1, by omega, ?_⟩, by omega, by omega⟩
  rw [fst_succ y0 y1]
  omega
theorem M_near {y m d : Int} (hr : Cal.Right y m d) (h : Cal.hasD (mid (Cal.num y m d)) = true) (hb : rB (wy (Cal.num y m d)) (wk (Cal.num y m d)) (dow (Cal.num y m d)) = true) :
    M (Cal.num y m d) (wy (Cal.num y m d)) ∧ y - 1 ≤ wy (Cal.num y m d) ∧ wy (Cal.num y m d) ≤ y + 1 := by
  obtain ⟨a, b, c⟩ := rB_M h hb
  obtain ⟨n0, n1⟩ := Cal.num_bd hr
  refine ⟨a, ?_, ?_⟩
  · by_cases hh : wy (Cal.num y m d) + 1 < y
    · have := Cal.ahead_mono _ _ hh
      have := Cal.lp_01 (wy (Cal.num y m d) + 1)
      omega
    · omega
  · by_cases hh : y + 1 < wy (Cal.num y m d)
    · have := Cal.ahead_mono _ _ hh
      have := Cal.lp_01 (y + 1)
      omega
    · omega
/-- A day has a day by its week just if one of the years around has its week. -/
theorem wok_yes {y m d Y : Int} (hr : rightB y m d = true) (h : M (Cal.num y m d) Y) : wok y m d = true ∧ wy (Cal.num y m d) = Y ∧ wk (Cal.num y m d) = (Cal.num y m d - fst Y) / 7 + 1 ∧ dow (Cal.num y m d) = (Cal.num y m d - fst Y) % 7 + 1 := by
  obtain ⟨a, b, c, e⟩ := M_is h
  refine ⟨?_, b, c, e⟩
  have := rB_of a (by rw [b]; exact h.1) (by rw [b]; exact h.2.1)
  unfold wok
  rw [hr, a, this]; rfl
theorem wok_none {y m d : Int} (hr : rightB y m d = true) (h : ∀ j : Nat, j < 3 → ¬ M (Cal.num y m d) (y - 1 + j)) : wok y m d = false := by
  cases hw : wok y m d
  · rfl
  · exfalso
    unfold wok at hw
    simp only [Bool.and_eq_true] at hw
    obtain ⟨_, h2, h3⟩ := hw
    obtain ⟨a, b, c⟩ := M_near (right_true.1 hr) h2 h3
    have := h (wy (Cal.num y m d) - (y - 1)).toNat (by omega)
    rw [show y - 1 + (((wy (Cal.num y m d) - (y - 1)).toNat : Nat) : Int) = wy (Cal.num y m d) by omega] at this
    exact this a
theorem fst_range {y : Int} (y0 : -39999 ≤ y) (y1 : y ≤ 40000) : -20000000 ≤ fst y ∧ fst y ≤ 20000000 := by
  obtain ⟨f0, f1, _⟩ := fst_bd y
  unfold Cal.ahead at f0 f1
  omega
end Wk
end Go.Proofs.YtfcabofhlgmkjaaDoor
