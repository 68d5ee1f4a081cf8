/- The week that holds a day is one of its year's: in plain arithmetic. -/
import Derived.Test.YtfcabofhlgmkjaaDoorWkB
set_option linter.unusedVariables false
set_option linter.unusedSimpArgs false
namespace Go.Proofs.YtfcabofhlgmkjaaDoor
open Go.RowKit

namespace Wk
theorem dow_mid (n : Int) : dow (mid n) = 4 := by unfold mid dow; omega
theorem cum12 (y : Int) : Cal.cum y 12 = 334 + Cal.lp y := by simp [Cal.cum]
theorem num11 (y : Int) : Cal.num y 1 1 = Cal.ahead y := by unfold Cal.num; simp [Cal.cum]
theorem yd_lp {n : Int} (h : Cal.hasD n = true) : yd n ≤ 365 + Cal.lp (Cal.dY n) := by
  obtain ⟨a, b⟩ := Cal.hasD_true.1 h
  have r := Cal.date_right n a b
  obtain ⟨m1, m2⟩ := Cal.month_of r
  have := Cal.cum_bd (Cal.dY n) (Cal.dM n) m1 m2
  have := r.d0; have := r.d1
  unfold yd; omega
theorem ahead_yd (n : Int) : Cal.ahead (Cal.dY n) = n - yd n + 1 := by
  have e := Cal.date_num n
  unfold Cal.num at e
  unfold yd; omega
theorem rB_of {n : Int} (h : Cal.hasD (mid n) = true) (y0 : -39999 ≤ wy n) (y1 : wy n ≤ 39999) : rB (wy n) (wk n) (dow n) = true := by
  have q := dow_bd n
  have k4 := dow_mid n
  have yb := yd_bd h
  have yl := yd_lp h
  have lp := Cal.lp_01 (Cal.dY (mid n))
  have A := ahead_yd (mid n)
  have W : 52 ≤ wks (wy n) ∧ (365 ≤ yd (mid n) → 53 ≤ wks (wy n)) := by
    unfold wks
    rw [if_neg (by omega)]
    constructor
    · split <;> omega
    · intro hy
      rw [if_pos]
      · omega
      · by_cases h5 : yd (mid n) = 365
        · left
          rw [num11]; unfold wy; rw [A, h5]
          generalize mid n = k at k4
          unfold dow at k4 ⊢; omega
        · right
          have e6 : yd (mid n) = 366 := by omega
          have e : Cal.num (wy n) 12 31 = mid n := by
            unfold wy Cal.num; rw [cum12, A]; omega
          rw [e]; exact k4
  have K : wk n ≤ wks (wy n) := by
    by_cases h5 : 365 ≤ yd (mid n)
    · have := W.2 h5
      unfold wk; omega
    · have := W.1
      unfold wk; omega
  have K1 : 1 ≤ wk n := by unfold wk; omega
  unfold rB
  simp [K, K1, q.1, q.2]
theorem dow_mod (n : Int) : dow n % 7 = (n + 4) % 7 := by unfold dow; omega
end Wk
end Go.Proofs.YtfcabofhlgmkjaaDoor
