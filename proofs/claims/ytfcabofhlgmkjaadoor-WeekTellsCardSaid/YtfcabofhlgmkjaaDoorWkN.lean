/- Weeks, in plain arithmetic: the date of a day's week is the date; the day by the week of a date it; seven days later the week is the next one. -/
import Derived.Test.YtfcabofhlgmkjaaDoorWkC
set_option linter.unusedVariables false
set_option linter.unusedSimpArgs false
namespace Go.Proofs.YtfcabofhlgmkjaaDoor
open Go.RowKit

namespace Wk
/-- The Monday of a year's week 1. -/
def fst (y : Int) : Int := Cal.num y 1 4 - (dow (Cal.num y 1 4) - 1)
/-- The number of a day by its week. -/
def dn (y k d : Int) : Int := fst y + ((k - 1) * 7 + d - 1)
theorem num14 (y : Int) : Cal.num y 1 4 = Cal.ahead y + 3 := by unfold Cal.num; simp [Cal.cum]; omega
theorem fst_bd (y : Int) : Cal.ahead y - 3 ≤ fst y ∧ fst y ≤ Cal.ahead y + 3 ∧ (fst y + 3) % 7 = 0 := by
  unfold fst; rw [num14]; unfold dow; omega
theorem num1231 (y : Int) : Cal.num y 12 31 = Cal.ahead y + 364 + Cal.lp y := by unfold Cal.num; rw [cum12]; omega
theorem wks_is {y : Int} (y0 : -39999 ≤ y) (y1 : y ≤ 39999) : (wks y = 52 ∨ wks y = 53) ∧ (wks y = 53 ↔ (Cal.ahead y % 7 = 0 ∨ (Cal.ahead y + 364 + Cal.lp y) % 7 = 0)) := by
  unfold wks
  rw [if_neg (by omega), num11, num1231]
  generalize Cal.ahead y = a
  generalize Cal.lp y = l
  unfold dow
  split <;> omega
theorem wks_y {y k : Int} (h : 1 ≤ k) (h2 : k ≤ wks y) : -39999 ≤ y ∧ y ≤ 39999 := by
  unfold wks at h2
  split at h2 <;> omega
/-- The Thursday of a week lies in its year. -/
theorem thu_in {y k : Int} (h : 1 ≤ k) (h2 : k ≤ wks y) : Cal.ahead y ≤ fst y + 3 + (k - 1) * 7 ∧ fst y + 3 + (k - 1) * 7 < Cal.ahead (y + 1) := by
  obtain ⟨y0, y1⟩ := wks_y h h2
  obtain ⟨w1, w2⟩ := wks_is y0 y1
  obtain ⟨f0, f1, f2⟩ := fst_bd y
  have l := Cal.lp_01 y
  rw [Cal.ahead_succ]
  generalize Cal.ahead y = a at *
  generalize Cal.lp y = l at *
  generalize fst y = f at *
  generalize wks y = n at *
  refine ⟨by omega, ?_⟩
  rcases w1 with w1 | w1
  · omega
  · have := w2.1 w1
    omega
theorem yr_of {n y : Int} (h : Cal.hasD n = true) (h0 : Cal.ahead y ≤ n) (h1 : n < Cal.ahead (y + 1)) : Cal.dY n = y := by
  have A := ahead_yd n
  have yb := yd_bd h
  have yl := yd_lp h
  have S := Cal.ahead_succ (Cal.dY n)
  have S' := Cal.ahead_succ y
  rcases Int.lt_trichotomy (Cal.dY n) y with hl | he | hg
  · have := Cal.ahead_mono _ _ hl; omega
  · exact he
  · have := Cal.ahead_mono _ _ hg; omega
theorem hasD_ahead {n y : Int} (y0 : -39999 ≤ y) (y1 : y ≤ 39999) (h0 : Cal.ahead y - 300 ≤ n) (h1 : n ≤ Cal.ahead (y + 1) + 300) : Cal.hasD n = true := by
  refine Cal.hasD_true.2 ?_
  have a : Cal.ahead (-40000) + 365 + Cal.lp (-40000) ≤ Cal.ahead y := Cal.ahead_mono _ _ (by omega)
  have b : Cal.ahead (y + 1) ≤ Cal.ahead 40000 := by
    rcases Int.lt_or_eq_of_le (show y + 1 ≤ 40000 by omega) with h | h
    · have := Cal.ahead_mono _ _ h; have := Cal.lp_01 (y + 1); omega
    · rw [h]; omega
  have ea : Cal.ahead (-40000) = -15329228 := by decide +kernel
  have eb : Cal.ahead 40000 = 13890172 := by decide +kernel
  have := Cal.lp_01 (-40000)
  omega
/-- Of a right day by its week: its number has a date, and the day by its week of that is it. -/
theorem back_of {y k d : Int} (h : rB y k d = true) : Cal.hasD (dn y k d) = true ∧ Cal.hasD (mid (dn y k d)) = true ∧ dow (dn y k d) = d ∧ wy (dn y k d) = y ∧ wk (dn y k d) = k := by
  unfold rB at h
  simp only [Bool.and_eq_true, decide_eq_true_eq] at h
  obtain ⟨k0, k1, d0, d1⟩ := h
  obtain ⟨y0, y1⟩ := wks_y k0 k1
  obtain ⟨t0, t1⟩ := thu_in k0 k1
  obtain ⟨f0, f1, f2⟩ := fst_bd y
  have ed : dow (dn y k d) = d := by unfold dn dow; omega
  have em : mid (dn y k d) = fst y + 3 + (k - 1) * 7 := by unfold mid; rw [ed]; unfold dn; omega
  have hm : Cal.hasD (mid (dn y k d)) = true := by rw [em]; exact hasD_ahead y0 y1 (by omega) (by omega)
  have hn : Cal.hasD (dn y k d) = true := hasD_ahead y0 y1 (by unfold dn; omega) (by unfold dn; omega)
  have ey : Cal.dY (mid (dn y k d)) = y := yr_of hm (by rw [em]; exact t0) (by rw [em]; exact t1)
  refine ⟨hn, hm, ed, ey, ?_⟩
  have A := ahead_yd (mid (dn y k d))
  rw [ey] at A
  unfold wk
  rw [em] at A ⊢
  generalize yd (fst y + 3 + (k - 1) * 7) = q at *
  omega
/-- The number of a day's week's day is the day's. -/
theorem dn_of {n : Int} (h : Cal.hasD (mid n) = true) : dn (wy n) (wk n) (dow n) = n := by
  have A := ahead_yd (mid n)
  have yb := yd_bd h
  obtain ⟨f0, f1, f2⟩ := fst_bd (wy n)
  have k4 := dow_mid n
  unfold dn wk
  unfold wy at f0 f1 f2 ⊢
  generalize hf : fst (Cal.dY (mid n)) = f at *
  generalize ha : Cal.ahead (Cal.dY (mid n)) = a at *
  generalize hq : yd (mid n) = q at *
  have e : mid n = n + (4 - dow n) := rfl
  generalize mid n = m at *
  generalize hd : dow n = d at *
  unfold dow at k4
  omega
/-- Seven days later. -/
theorem next_of {n : Int} (h : Cal.hasD (mid n) = true) (h2 : Cal.hasD (mid (n + 7)) = true) (hr : rB (wy n) (wk n) (dow n) = true) :
    dow (n + 7) = dow n ∧ (wy (n + 7) = wy n ∧ wk (n + 7) = wk n + 1 ∨ wy (n + 7) = wy n + 1 ∧ wk (n + 7) = 1 ∧ wk n = wks (wy n)) := by
  have ed : dow (n + 7) = dow n := by unfold dow; omega
  have em : mid (n + 7) = mid n + 7 := by unfold mid; rw [ed]; omega
  refine ⟨ed, ?_⟩
  unfold rB at hr
  simp only [Bool.and_eq_true, decide_eq_true_eq] at hr
  obtain ⟨k0, k1, -, -⟩ := hr
  obtain ⟨y0, y1⟩ := wks_y k0 k1
  obtain ⟨w1, w2⟩ := wks_is y0 y1
  have A := ahead_yd (mid n); have B := ahead_yd (mid (n + 7))
  have yb := yd_bd h; have yb2 := yd_bd h2
  have yl := yd_lp h; have yl2 := yd_lp h2
  have k4 := dow_mid n
  have l := Cal.lp_01 (Cal.dY (mid n))
  have l2 := Cal.lp_01 (Cal.dY (mid (n + 7)))
  have S := Cal.ahead_succ (Cal.dY (mid n))
  have S2 := Cal.ahead_succ (Cal.dY (mid (n + 7)))
  have C : Cal.dY (mid (n + 7)) = Cal.dY (mid n) ∨ Cal.dY (mid (n + 7)) = Cal.dY (mid n) + 1 := by
    rcases Int.lt_trichotomy (Cal.dY (mid (n + 7))) (Cal.dY (mid n)) with hl | he | hg
    · have := Cal.ahead_mono _ _ hl; omega
    · exact .inl he
    · right
      rcases Int.lt_trichotomy (Cal.dY (mid (n + 7))) (Cal.dY (mid n) + 1) with h' | h' | h'
      · omega
      · exact h'
      · have := Cal.ahead_mono _ _ h'
        have := Cal.lp_01 (Cal.dY (mid n) + 1); omega
  unfold wk wy at *
  rw [em] at *
  generalize yd (mid n + 7) = q2 at *
  generalize yd (mid n) = q at *
  generalize hY2 : Cal.dY (mid n + 7) = Y2 at *
  generalize hY : Cal.dY (mid n) = Y at *
  generalize mid n = m at *
  unfold dow at k4
  rcases C with C | C
  · left
    subst C
    refine ⟨rfl, ?_⟩
    omega
  · right
    subst C
    refine ⟨rfl, ?_, ?_⟩
    · omega
    · generalize wks Y = n at *
      generalize Cal.ahead (Y + 1) = a1 at *
      generalize Cal.ahead Y = a at *
      generalize Cal.lp Y = lp at *
      by_cases hq : 365 ≤ q
      · omega
      · have : ¬ (a % 7 = 0 ∨ (a + 364 + lp) % 7 = 0) := by omega
        have : ¬ n = 53 := fun e => this (w2.1 e)
        omega
end Wk
end Go.Proofs.YtfcabofhlgmkjaaDoor
