/- Day numbers in their order, and a day number's parts, in plain arithmetic. -/
import Derived.Test.YtnfjdjfajkdiiaaJulW0
set_option linter.unusedVariables false
set_option linter.unusedSimpArgs false
namespace Go.Proofs.Ytnfjdjfajkdiiaa.Fl
open Ieee

/-- A rounded sum, as a value. -/
theorem sum_val {W : Int} {sg : Bool} {R : Nat} (h : Near W.natAbs 1 R) (hs : W = 0 ∨ sg = decide (W < 0)) (hR : R < inf) :
    (0 ≤ W ∧ V (wd sg R) = (val R : Int)) ∨ (W ≤ 0 ∧ V (wd sg R) = -(val R : Int)) := by
  rw [V_wd (rung_small hR)]
  rcases hs with hs | hs
  · subst hs
    have : R = 0 := h.exact (by rw [val_0]; rfl)
    left; rw [this, val_0]; exact ⟨Int.le_refl _, by cases sg <;> simp⟩
  · rw [hs]
    by_cases hW : W < 0
    · right; rw [decide_eq_true hW, if_pos rfl]; exact ⟨by omega, rfl⟩
    · left; rw [decide_eq_false hW, if_neg (by decide)]; exact ⟨by omega, rfl⟩
/-- A greater sum is rounded to no lesser number. -/
theorem sum_mono {W W' : Int} {sg sg' : Bool} {R R' : Nat} (h : Near W.natAbs 1 R) (h' : Near W'.natAbs 1 R') (hs : W = 0 ∨ sg = decide (W < 0)) (hs' : W' = 0 ∨ sg' = decide (W' < 0)) (hR : R < inf) (hR' : R' < inf) (hle : W ≤ W') : V (wd sg R) ≤ V (wd sg' R') := by
  have z : ∀ {X : Int} {r : Nat}, Near X.natAbs 1 r → X = 0 → r = 0 := fun hh e => hh.exact (by rw [val_0, e]; rfl)
  rcases sum_val h hs hR with ⟨a, e⟩ | ⟨a, e⟩ <;> rcases sum_val h' hs' hR' with ⟨a', e'⟩ | ⟨a', e'⟩ <;> rw [e, e']
  · have := val_le.2 (h.mono h' (Nat.le_refl 1) (Nat.le_refl 1) (by omega)); omega
  · have := z h (by omega); have := z h' (by omega)
    subst_vars; rw [val_0]; decide
  · omega
  · have := val_le.2 (h'.mono h (Nat.le_refl 1) (Nat.le_refl 1) (by omega)); omega
theorem add_sg {x y : Nat} : V x + V y = 0 ∨ (if V x + V y = 0 then ng x && ng y else decide (V x + V y < 0)) = decide (V x + V y < 0) := by
  by_cases h : V x + V y = 0
  · exact .inl h
  · right; rw [if_neg h]
theorem sub_sg {x y : Nat} : V x - V y = 0 ∨ (if V x - V y = 0 then ng x && !ng y else decide (V x - V y < 0)) = decide (V x - V y < 0) := by
  by_cases h : V x - V y = 0
  · exact .inl h
  · right; rw [if_neg h]
/-- A number's order, by values. -/
theorem ord_gt {x y : Nat} (hx : fin x) (hy : fin y) : (FloatKind.f64.format.order x y == some Ordering.gt) = decide (V y < V x) := by
  show (double.order x y == some Ordering.gt) = _
  rw [order_fin hx hy, Bool.eq_iff_iff]; simp [cmp_gt]
theorem ord_lt {x y : Nat} (hx : fin x) (hy : fin y) : (FloatKind.f64.format.order x y == some Ordering.lt) = decide (V x < V y) := by
  show (double.order x y == some Ordering.lt) = _
  rw [order_fin hx hy, Bool.eq_iff_iff]; simp [cmp_lt]
theorem ord_eq {x y : Nat} (hx : fin x) (hy : fin y) : (FloatKind.f64.format.order x y == some Ordering.eq) = decide (V x = V y) := by
  show (double.order x y == some Ordering.eq) = _
  rw [order_fin hx hy, Bool.eq_iff_iff]; simp [cmp_eq]

/-- A second's nearest number: in their order. -/
theorem near_mono {n k : Int} (h : n ≤ k) (n0 : -9223372036854775808 ≤ n) (n1 : n ≤ 9223372036854775807) (k0 : -9223372036854775808 ≤ k) (k1 : k ≤ 9223372036854775807) : V (FloatKind.f64.nearest n) ≤ V (FloatKind.f64.nearest k) := by
  obtain ⟨R, hR, hn⟩ := int_near n
  obtain ⟨S, hS, hk⟩ := int_near k
  have hz : (4890909195324358656 : Nat) < inf := by decide
  have hRi : R < inf := near_fin hn hz (by rw [val_top, Nat.mul_one]; exact Nat.mul_le_mul_right _ (by omega))
  have hSi : S < inf := near_fin hk hz (by rw [val_top, Nat.mul_one]; exact Nat.mul_le_mul_right _ (by omega))
  rw [hR, hS, Nat.min_eq_left (Nat.le_of_lt hRi), Nat.min_eq_left (Nat.le_of_lt hSi), V_wd (rung_small hRi), V_wd (rung_small hSi)]
  by_cases a : n < 0
  · rw [decide_eq_true a, if_pos rfl]
    by_cases b : k < 0
    · rw [decide_eq_true b, if_pos rfl]
      have := val_le.2 (hk.mono hn (Nat.le_refl 1) (Nat.le_refl 1) (by rw [Nat.mul_one, Nat.mul_one]; exact Nat.mul_le_mul_right _ (by omega)))
      omega
    · rw [decide_eq_false b, if_neg (by decide)]; omega
  · have b : ¬ k < 0 := by omega
    rw [decide_eq_false a, if_neg (by decide), decide_eq_false b, if_neg (by decide)]
    have := val_le.2 (hn.mono hk (Nat.le_refl 1) (Nat.le_refl 1) (by rw [Nat.mul_one, Nat.mul_one]; exact Nat.mul_le_mul_right _ (by omega)))
    omega
theorem ng_V {x : Nat} : (V x < 0 → ng x = true) ∧ (0 < V x → ng x = false) := by
  unfold V
  cases ng x
  · simp <;> omega
  · simp <;> omega
/-- Divided by the day. -/
theorem day_mono {x y a b : Nat} (hx : fin x) (hy : fin y) (h : V x ≤ V y) (ha : floatBits .quo .f64 x day = some a) (hb : floatBits .quo .f64 y day = some b) : fin a ∧ fin b ∧ V a ≤ V b := by
  have hU := U_pos
  have key : ∀ {z c : Nat}, fin z → floatBits .quo .f64 z day = some c → ∃ R, R < inf ∧ c = wd (ng z) R ∧ Near (val (rg z) * U) (86400 * U) R := by
    intro z c hz hc
    obtain ⟨R, hR, hn⟩ := div_near hz fin_day (by decide)
    rw [rg_day, val_day] at hn
    have hRi : R < inf := near_fin (z := rg z) hn hz (Nat.mul_le_mul_left _ (by omega))
    rw [Nat.min_eq_left (Nat.le_of_lt hRi), show ng day = false by decide, Bool.xor_false] at hR
    have e : floatBits .quo .f64 z day = some (wd (ng z) R) := hR
    rw [e] at hc
    exact ⟨R, hRi, (Option.some.inj hc).symm, hn⟩
  obtain ⟨R, r1, rfl, r2⟩ := key hx ha
  obtain ⟨S, s1, rfl, s2⟩ := key hy hb
  refine ⟨fin_wd r1, fin_wd s1, ?_⟩
  rw [V_wd (rung_small r1), V_wd (rung_small s1)]
  have h1 : 1 ≤ 86400 * U := by omega
  rcases V_cases x with ⟨g, v⟩ | ⟨g, v⟩ <;> rcases V_cases y with ⟨g', v'⟩ | ⟨g', v'⟩ <;> rw [g, g'] <;> rw [v, v'] at h
  · have := val_le.2 (r2.mono s2 h1 h1 (Nat.mul_le_mul_right _ (Nat.mul_le_mul_right _ (by omega))))
    simp; omega
  · have e1 : val (rg x) = 0 := by omega
    have e2 : val (rg y) = 0 := by omega
    rw [e1, Nat.zero_mul] at r2; rw [e2, Nat.zero_mul] at s2
    have q1 : R = 0 := r2.exact (by rw [val_0, Nat.zero_mul])
    have q2 : S = 0 := s2.exact (by rw [val_0, Nat.zero_mul])
    rw [q1, q2, val_0]; decide
  · simp <;> omega
  · have := val_le.2 (s2.mono r2 h1 h1 (Nat.mul_le_mul_right _ (Nat.mul_le_mul_right _ (by omega))))
    simp; omega
theorem day_le {x a : Nat} (hx : fin x) (ha : floatBits .quo .f64 x day = some a) : val (rg a) ≤ val (rg x) := by
  have hU := U_pos
  obtain ⟨R, hR, hn⟩ := div_near hx fin_day (by decide)
  rw [rg_day, val_day] at hn
  have hle : R ≤ rg x := hn.hi _ (Nat.mul_le_mul_left _ (by omega))
  have hRi : R < inf := Nat.lt_of_le_of_lt hle hx
  rw [Nat.min_eq_left (Nat.le_of_lt hRi)] at hR
  have e : floatBits .quo .f64 x day = some (wd (ng x ^^ ng day) R) := hR
  rw [e] at ha
  obtain rfl := Option.some.inj ha
  rw [rg_wd (rung_small hRi)]
  exact val_le.2 hle
theorem near_le {n : Int} (h0 : -9223372036854775808 ≤ n) (h1 : n ≤ 9223372036854775807) : val (rg (FloatKind.f64.nearest n)) ≤ 9223372036854775808 * U := by
  obtain ⟨R, hR, hn⟩ := int_near n
  have hle := hn.hi 4890909195324358656 (by rw [val_top, Nat.mul_one]; exact Nat.mul_le_mul_right _ (by omega))
  have hRi : R < inf := Nat.lt_of_le_of_lt hle (by decide)
  rw [hR, Nat.min_eq_left (Nat.le_of_lt hRi), rg_wd (rung_small hRi), ← val_top]
  exact val_le.2 hle
theorem val_big : val 4895412794951729152 = 18446744073709551616 * U := by
  have h : val 4895412794951729152 = 4503599627370496 * 2 ^ 1086 := valK 1086 4503599627370496 (.inr (Nat.le_refl _)) (by decide)
  have h2 : 4503599627370496 * 2 ^ 1086 = 18446744073709551616 * U := by
    have g : ∀ c a b k : Nat, c = ue + k → b = a * 2 ^ k → a * 2 ^ c = b * U := by
      intro c a b k h1 h2
      unfold U; rw [h1, pow_split, h2, Nat.mul_assoc, Nat.mul_comm (2 ^ k)]
    exact g 1086 4503599627370496 18446744073709551616 12 rfl (by decide)
  exact h.trans h2
theorem zero_le_U : val zero ≤ 9223372036854775808 * U := by
  rw [val_zero, U_grid]
  have := G_pos
  omega
/-- Later seconds have no lesser day numbers. -/
theorem jd_fin {t : Int} (h0 : -9223372036854775808 ≤ t) (h1 : t ≤ 9223372036854775807) : ∃ a R, floatBits .quo .f64 (FloatKind.f64.nearest t) day = some a ∧ fin a ∧ jdB t = wd (if V a + V zero = 0 then ng a && ng zero else decide (V a + V zero < 0)) R ∧ R < inf ∧ Near (V a + V zero).natAbs 1 R := by
  obtain ⟨a, ea, eb⟩ := jd_some h0 h1
  have fx := (near_int_fin h0 h1).1
  obtain ⟨fa, -, -⟩ := day_mono fx fx (Int.le_refl _) ea ea
  obtain ⟨R, hR, hn⟩ := add_near fa fin_zero
  have va := Nat.le_trans (day_le fx ea) (near_le h0 h1)
  have vz := zero_le_U
  have hW : (V a + V zero).natAbs ≤ val 4895412794951729152 * 1 := by
    rw [val_big, Nat.mul_one]
    have e1 := V_natAbs a
    have e2 := V_natAbs zero
    rw [show rg zero = zero by decide] at e2
    generalize val (rg a) = x at *
    generalize val zero = y at *
    generalize U = z at *
    omega
  have hRi : R < inf := near_fin hn (show (4895412794951729152 : Nat) < inf by decide) hW
  refine ⟨a, R, ea, fa, ?_, hRi, hn⟩
  rw [Nat.min_eq_left (Nat.le_of_lt hRi)] at hR
  have e : floatBits .add .f64 a zero = some _ := hR
  rw [e] at eb
  exact (Option.some.inj eb).symm
theorem jd_mono {t u : Int} (h : t ≤ u) (t0 : -9223372036854775808 ≤ t) (t1 : t ≤ 9223372036854775807) (u0 : -9223372036854775808 ≤ u) (u1 : u ≤ 9223372036854775807) : fin (jdB t) ∧ fin (jdB u) ∧ V (jdB t) ≤ V (jdB u) := by
  obtain ⟨a, R, ea, fa, e, r, n⟩ := jd_fin t0 t1
  obtain ⟨b, S, eb, fb, e', s, n'⟩ := jd_fin u0 u1
  have hm := (day_mono (near_int_fin t0 t1).1 (near_int_fin u0 u1).1 (near_mono h t0 t1 u0 u1) ea eb).2.2
  rw [e, e']
  exact ⟨fin_wd r, fin_wd s, sum_mono n n' add_sg add_sg r s (by omega)⟩
end Go.Proofs.Ytnfjdjfajkdiiaa.Fl
