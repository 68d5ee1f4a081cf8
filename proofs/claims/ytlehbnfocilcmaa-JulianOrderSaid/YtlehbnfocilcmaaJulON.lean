/- A day later, and a day number's parts, in plain arithmetic. -/
import Derived.Test.YtlehbnfocilcmaaJulOM
set_option linter.unusedVariables false
set_option linter.unusedSimpArgs false
namespace Go.Proofs.Ytlehbnfocilcmaa.Fl
open Ieee

def one : Nat := 4607182418800017408
theorem fin_one : fin one := by unfold fin; decide
theorem val_one : val one = U := by
  have h : val 4607182418800017408 = 4503599627370496 * 2 ^ 1022 := valK 1022 4503599627370496 (.inr (Nat.le_refl _)) (by decide)
  have g : ∀ c a k : Nat, ue = c + k → a = 2 ^ k → a * 2 ^ c = U := by
    intro c a k h1 h2
    unfold U; rw [h1, pow_split, h2, Nat.mul_comm]
  exact h.trans (g 1022 4503599627370496 52 rfl (by decide))
theorem V_one : V one = (U : Int) := by
  have : V one = (val one : Int) := by unfold V; rw [show ng one = false by decide, show rg one = one by decide]; rfl
  rw [this, val_one]
/-- A millionth, and a millionth below 0. -/
def mic : Nat := 4517329193108106637
def mic' : Nat := 13740701229962882445
theorem fin_mic : fin mic ∧ fin mic' := ⟨by unfold fin; decide, by unfold fin; decide⟩
theorem val_mic : 512 * G ≤ val mic := by
  have h : val 4517329193108106637 = (4503599627370496 + 218766855499149) * 2 ^ 1002 := val_at 1002 218766855499149 (by decide)
  have g : ∀ c a b k : Nat, ge = c + k → b * 2 ^ k ≤ a → b * G ≤ a * 2 ^ c := by
    intro c a b k h1 h2
    unfold G; rw [h1, pow_split, Nat.mul_comm (2 ^ c), ← Nat.mul_assoc]
    exact Nat.mul_le_mul_right _ h2
  have h2 := g 1002 (4503599627370496 + 218766855499149) 512 43 rfl (by decide)
  exact Nat.le_trans h2 (Nat.le_of_eq h.symm)
theorem V_mic : 512 * (G : Int) ≤ V mic ∧ V mic' ≤ -(512 * (G : Int)) := by
  have a : V mic = (val mic : Int) := by unfold V; rw [show ng mic = false by decide, show rg mic = mic by decide]; rfl
  have b : V mic' = -(val mic : Int) := by unfold V; rw [show ng mic' = true by decide, show rg mic' = mic by decide]; rfl
  have := val_mic
  rw [a, b]; omega
/-- A day later: 1 greater, but for a millionth. -/
theorem jd_day {t : Int} (h0 : -1096193779200 ≤ t) (h1 : t ≤ 971890963199) : ∃ s x, floatBits .sub .f64 (jdB (t + 86400)) (jdB t) = some s ∧ floatBits .sub .f64 s one = some x ∧ fin x ∧ ¬ V mic < V x ∧ ¬ V x < V mic' := by
  obtain ⟨a, b, ea, eb, fb, b1, b2⟩ := jd_steps (t := t) (by omega) (by omega)
  obtain ⟨c, d, ec, ed, fd, d1, d2⟩ := jd_steps (t := t + 86400) (by omega) (by omega)
  have hb : jdB t = b := by
    obtain ⟨a', x, y⟩ := jd_some (t := t) (by omega) (by omega)
    rw [ea] at x; obtain rfl := Option.some.inj x
    rw [eb] at y; exact (Option.some.inj y).symm
  have hd : jdB (t + 86400) = d := by
    obtain ⟨a', x, y⟩ := jd_some (t := t + 86400) (by omega) (by omega)
    rw [ec] at x; obtain rfl := Option.some.inj x
    rw [ed] at y; exact (Option.some.inj y).symm
  rw [hb, hd]
  have hUG : (U : Int) = 536870912 * (G : Int) := by rw [U_grid]; exact Int.natCast_mul _ _
  have hG : (1 : Int) ≤ (G : Int) := by have := G_pos; omega
  have hge : ge ≤ 1900 := by rw [ge_eq]; decide
  have hm := V_mic
  have e : (t + 86400) * (U : Int) = t * (U : Int) + 86400 * (U : Int) := Int.add_mul _ _ _
  rw [e] at d1 d2
  generalize t * (U : Int) = TU at *
  generalize hZ : 86400 * (1310280436940800 * (G : Int)) = Z at *
  have k : V d - V b - (U : Int) ≤ 5 * (G : Int) ∧ -(5 * (G : Int)) ≤ V d - V b - (U : Int) := by omega
  obtain ⟨s, es, fs, s1, s2⟩ := sub_grid (x := d) (y := b) ge fd fb hge (by rw [G_eq]; omega) (by rw [G_eq]; omega)
  rw [G_eq] at s1 s2
  have v1 := V_one
  obtain ⟨x, ex, fx, x1, x2⟩ := sub_grid (x := s) (y := one) ge fs fin_one hge (by rw [G_eq, v1]; omega) (by rw [G_eq, v1]; omega)
  rw [G_eq, v1] at x1 x2
  exact ⟨s, x, es, ex, fx, by omega, by omega⟩
theorem rep_U3 : ∃ z, z < inf ∧ val z = 72057594037927936 * U := by
  have g : ∀ c, c = ue + 3 → ∀ k, k ≤ 9007199254740992 → ∃ z, val z = k * 8 * U := by
    intro c hc k hk
    obtain ⟨z, hz⟩ := rep c k hk
    refine ⟨z, ?_⟩
    rw [hz, hc, pow_split, Nat.mul_comm (2 ^ ue), ← Nat.mul_assoc]; rfl
  obtain ⟨z, hz⟩ := g _ rfl 9007199254740992 (Nat.le_refl _)
  have hz' : val z = 72057594037927936 * U := by rw [hz, show 9007199254740992 * 8 = 72057594037927936 by decide]
  refine ⟨z, ?_, hz'⟩
  refine Nat.lt_of_le_of_lt (val_le.1 ?_) (show (4895412794951729152 : Nat) < inf by decide)
  rw [hz', val_big]
  exact Nat.mul_le_mul_right _ (by decide)
/-- Far from 0 rungs are far apart. -/
theorem gap {r : Nat} (h : 36028797018963968 * U < val r) : val r + 4 * U ≤ val (r + 1) := by
  obtain ⟨L, k, hk, hk2, rfl⟩ := rung_dec r
  rw [Nat.add_assoc, valK L (k + 1) (by omega) (by omega)]
  rw [valK L k hk (by omega)] at h ⊢
  rw [Nat.add_mul, Nat.one_mul]
  have h2 : k * 2 ^ L < 9007199254740992 * 2 ^ L := Nat.mul_lt_mul_of_pos_right hk2 (two_pos L)
  generalize 2 ^ L = Y at *
  omega
/-- A finite number's parts. -/
theorem parts {x y r : Nat} (hx : fin x) (hy : Rd .down x y) (hr : FOp .sub x y r) : fin y ∧ fin r ∧ 0 ≤ V r ∧ V r ≤ (U : Int) ∧ V y ≤ V x ∧
    ∃ p q, floatBits .add .f64 y r = some p ∧ floatBits .sub .f64 x one = some q ∧ fin p ∧ fin q ∧ V q ≤ V p := by
  obtain ⟨fy, -, vy, -, wy⟩ := hy.fin hx
  have hU := U_pos
  -- the whole part is not above, and less than 1 below
  have hw : V y ≤ V x ∧ V x ≤ V y + (U : Int) := by
    rw [vy]
    have hd := Nat.div_add_mod (val (rg x)) U
    have hm : val (rg x) % U < U := Nat.mod_lt _ hU
    have e0 : ((val (rg x) / U * U : Nat) : Int) = ((val (rg x) / U : Nat) : Int) * (U : Int) := Int.natCast_mul _ _
    have e1 : U * (val (rg x) / U) = val (rg x) / U * U := Nat.mul_comm _ _
    unfold wn whole more
    rcases V_cases x with ⟨g, v⟩ | ⟨g, v⟩
    · rw [g, v]
      simp only [Bool.false_and, Bool.toNat_false, Nat.add_zero, Bool.false_eq_true, if_false]
      omega
    · rw [g, v, if_pos rfl]
      by_cases hz : val (rg x) % U = 0
      · have : (true && val (rg x) % U != 0) = false := by rw [hz]; rfl
        rw [this, Bool.toNat_false, Nat.add_zero, Int.neg_mul]; omega
      · have : (true && val (rg x) % U != 0) = true := by simp; exact hz
        rw [this, Bool.toNat_true, Int.neg_mul]
        have e2 : ((val (rg x) / U + 1 : Nat) : Int) * (U : Int) = ((val (rg x) / U : Nat) : Int) * (U : Int) + (U : Int) := by
          rw [Int.natCast_add, Int.add_mul, Int.natCast_one, Int.one_mul]
        rw [e2]; omega
  obtain ⟨R, hR, hn⟩ := sub_near hx fy
  have hle : R ≤ one := hn.hi one (by rw [val_one, Nat.mul_one]; omega)
  have hRi : R < inf := Nat.lt_of_le_of_lt hle (by decide)
  rw [Nat.min_eq_left (Nat.le_of_lt hRi)] at hR
  have er : floatBits .sub .f64 x y = some _ := hR
  obtain rfl := hr.eq er
  have fr := fin_wd (s := if V x - V y = 0 then ng x && !ng y else decide (V x - V y < 0)) hRi
  have vr : 0 ≤ V (wd (if V x - V y = 0 then ng x && !ng y else decide (V x - V y < 0)) R) ∧ V (wd (if V x - V y = 0 then ng x && !ng y else decide (V x - V y < 0)) R) ≤ (U : Int) := by
    have hl := val_le.2 hle
    rw [val_one] at hl
    rcases sum_val hn sub_sg hRi with ⟨a, e⟩ | ⟨a, e⟩
    · rw [e]; omega
    · have z : V x - V y = 0 := by omega
      have : R = 0 := hn.exact (by rw [val_0, z]; rfl)
      rw [e, this, val_0]; omega
  have v0 : V y = V x → V (wd (if V x - V y = 0 then ng x && !ng y else decide (V x - V y < 0)) R) = 0 := by
    intro h
    have z : V x - V y = 0 := by omega
    have : R = 0 := hn.exact (by rw [val_0, z]; rfl)
    rw [this, V_wd (by decide), val_0]; simp
  refine ⟨fy, fr, vr.1, vr.2, hw.1, ?_⟩
  generalize wd (if V x - V y = 0 then ng x && !ng y else decide (V x - V y < 0)) R = r at *
  obtain ⟨P, hP, np⟩ := add_near fy fr
  obtain ⟨Q, hQ, nq⟩ := sub_near hx fin_one
  have v1 := V_one
  have fin2 : P < inf ∧ Q < inf := by
    by_cases hs : val (rg x) ≤ 36028797018963968 * U
    · obtain ⟨z, hz, hv⟩ := rep_U3
      have hx2 := V_natAbs x
      exact ⟨near_fin np hz (by rw [hv, Nat.mul_one]; omega), near_fin nq hz (by rw [hv, Nat.mul_one]; omega)⟩
    · have hpl : 0 ≤ pl (rg x) := by
        by_cases h : 0 ≤ pl (rg x)
        · exact h
        · exfalso
          have := pl_lo (r := rg x) (by omega)
          rw [Nat.div_lt_iff_lt_mul hU] at this
          omega
      have hwx : wn .down x * (U : Int) = V x := by
        obtain ⟨M, hM⟩ : ∃ M, val (rg x) = M * U := ⟨_, pl_hi hpl⟩
        have hwh : ∀ s, whole .down s (val (rg x)) = M := by intro s; rw [hM, whole_exact]
        have e3 : ((M * U : Nat) : Int) = (M : Int) * (U : Int) := Int.natCast_mul _ _
        unfold wn
        rw [hwh]
        rcases V_cases x with ⟨g, v⟩ | ⟨g, v⟩
        · rw [g, v, hM, if_neg (by decide), e3]
        · rw [g, v, hM, if_pos rfl, Int.neg_mul, e3]
      have hV : V y = V x := by rw [vy, hwx]
      have hr0 := v0 hV
      have hx2 := V_natAbs x
      refine ⟨near_fin np hx (by rw [Nat.mul_one]; omega), ?_⟩
      refine Nat.lt_of_le_of_lt ?_ hx
      by_cases hc : Q ≤ rg x
      · exact hc
      · exfalso
        have hd := nq.dn (by omega)
        rw [Nat.mul_one] at hd
        have m1 : val (rg x) ≤ val (Q - 1) := val_le.2 (by omega)
        have m2 : val (rg x + 1) ≤ val Q := val_le.2 (by omega)
        have gp := gap (r := rg x) (by omega)
        omega
  have hPi := fin2.1
  have hQi := fin2.2
  rw [Nat.min_eq_left (Nat.le_of_lt hPi)] at hP
  rw [Nat.min_eq_left (Nat.le_of_lt hQi)] at hQ
  exact ⟨_, _, hP, hQ, fin_wd hPi, fin_wd hQi, sum_mono nq np sub_sg add_sg hQi hPi (by omega)⟩
end Go.Proofs.Ytlehbnfocilcmaa.Fl
