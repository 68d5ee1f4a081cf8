/- Whole parts of numbers with a floating point, whole numbers that these have, and quotients. -/
import Derived.Test.YtnfjdjfajkdiiaaFlO
set_option linter.unusedVariables false
set_option linter.unusedSimpArgs false
namespace Go.Proofs.Ytnfjdjfajkdiiaa.Fl
open Ieee

/-! ### what may be -/
theorem rung_dec (R : Nat) : ∃ L k, (L = 0 ∨ 4503599627370496 ≤ k) ∧ k < 9007199254740992 ∧ R = L * 4503599627370496 + k := by
  by_cases h : R < 9007199254740992
  · exact ⟨0, R, .inl rfl, h, by omega⟩
  · exact ⟨R / 4503599627370496 - 1, 4503599627370496 + R % 4503599627370496, .inr (by omega), by omega, by omega⟩
theorem rep (e : Nat) : ∀ k, k ≤ 9007199254740992 → ∃ z, val z = k * 2 ^ e := by
  induction e with
  | zero => intro k hk; exact ⟨_, valK 0 k (.inl rfl) hk⟩
  | succ e ih =>
    intro k hk
    by_cases h : 4503599627370496 ≤ k
    · exact ⟨_, valK (e + 1) k (.inr h) hk⟩
    · obtain ⟨z, hz⟩ := ih (2 * k) (by omega)
      refine ⟨z, ?_⟩
      rw [hz]
      have e3 : 2 ^ (e + 1) = 2 ^ e * 2 := Nat.pow_succ ..
      rw [e3, Nat.mul_comm 2 k, Nat.mul_assoc, Nat.mul_comm 2]
def ui : Nat := 2046
theorem ui_eq : ui = 2046 := rfl
theorem val_inf : val inf = 4503599627370496 * 2 ^ ui := by
  have := valK ui 4503599627370496 (.inr (Nat.le_refl _)) (by decide)
  rw [← this]; congr 1
theorem lt_inf {z k : Nat} (h : val z = k * U) (hk : k ≤ 9007199254740992) : z < inf := by
  refine val_lt.1 ?_
  rw [h, val_inf]
  unfold U
  have h1 : k * 2 ^ ue ≤ 9007199254740992 * 2 ^ ue := Nat.mul_le_mul_right _ hk
  have h2 : 2 ^ (ue + 2) ≤ 2 ^ ui := pow_le (by rw [ue_eq, ui_eq]; decide)
  have h3 : 2 ^ (ue + 2) = 4 * 2 ^ ue := by rw [pow_split, Nat.mul_comm]
  have h0 := two_pos ue
  generalize 2 ^ ue = Y at *
  generalize 2 ^ (ue + 2) = Z at *
  generalize 2 ^ ui = T at *
  omega
theorem U_pos : 0 < U := two_pos _

/-! ### whole parts -/
def more (way : Toward) (neg : Bool) (low rest gap : Nat) : Bool :=
  match way with
  | .even => decide (gap < 2 * rest) || (gap == 2 * rest && low % 2 == 1)
  | .down => neg && rest != 0
  | .up => !neg && rest != 0
  | .zero => false
theorem more_scale (way : Toward) (neg : Bool) (low rest gap c : Nat) (hc : 0 < c) : more way neg low (rest * c) (gap * c) = more way neg low rest gap := by
  have h1 : (gap * c < 2 * (rest * c)) ↔ gap < 2 * rest := by rw [← Nat.mul_assoc]; exact Nat.mul_lt_mul_right hc
  have h2 : (gap * c = 2 * (rest * c)) ↔ gap = 2 * rest := by
    rw [← Nat.mul_assoc]; exact ⟨fun h => Nat.eq_of_mul_eq_mul_right hc h, fun h => by rw [h]⟩
  have h3 : (rest * c = 0) ↔ rest = 0 := by
    constructor
    · intro h; rcases Nat.mul_eq_zero.1 h with h | h
      · exact h
      · omega
    · intro h; rw [h, Nat.zero_mul]
  have b2 : (gap * c == 2 * (rest * c)) = (gap == 2 * rest) := by rw [Bool.eq_iff_iff, beq_iff_eq, beq_iff_eq]; exact h2
  have b3 : (rest * c != 0) = (rest != 0) := by rw [Bool.eq_iff_iff, bne_iff_ne, bne_iff_ne, Ne, Ne, h3]
  cases way
  · unfold more; simp only [h1, b2]
  · unfold more; simp only [b3]
  · unfold more; simp only [b3]
  · rfl
theorem cut_val (way : Toward) (neg : Bool) (n drop : Nat) : way.cut neg n drop = n / 2 ^ drop + (more way neg (n / 2 ^ drop) (n % 2 ^ drop) (2 ^ drop)).toNat := by
  unfold Toward.cut
  simp only
  by_cases hd : drop ≤ n.log2 + 2
  · rw [Nat.min_eq_left hd, shl, Nat.one_mul]
    cases way <;> rfl
  · rw [Nat.min_eq_right (by omega), shl, Nat.one_mul]
    have hn : n < 2 ^ (n.log2 + 1) := Nat.lt_log2_self
    have h2 : 2 ^ (n.log2 + 2) = 2 * 2 ^ (n.log2 + 1) := by rw [show n.log2 + 2 = (n.log2 + 1) + 1 from rfl, Nat.pow_succ, Nat.mul_comm]
    have h3 : 2 ^ (n.log2 + 2) ≤ 2 ^ drop := pow_le (by omega)
    generalize 2 ^ (n.log2 + 2) = Y at *
    generalize 2 ^ drop = Z at *
    have y1 : n < Y := by omega
    have z1 : n < Z := by omega
    rw [Nat.div_eq_of_lt y1, Nat.mod_eq_of_lt y1, Nat.div_eq_of_lt z1, Nat.mod_eq_of_lt z1]
    cases way
    · have a1 : (decide (Y < 2 * n) || (Y == 2 * n && 0 % 2 == 1)) = false := by simp; omega
      have a2 : (decide (Z < 2 * n) || (Z == 2 * n && 0 % 2 == 1)) = false := by simp; omega
      unfold more
      simp only [a1, a2]
    · rfl
    · rfl
    · rfl
/-- The whole part of a value, by a way. -/
def whole (way : Toward) (neg : Bool) (v : Nat) : Nat := v / U + (more way neg (v / U) (v % U) U).toNat
theorem cut_whole (way : Toward) (neg : Bool) (r : Nat) : way.cut neg (mg r <<< (pl r).toNat) (-pl r).toNat = whole way neg (val r) := by
  obtain ⟨h, e⟩ := mg_pl r
  rw [cut_val, shl]
  unfold whole
  rw [← e]
  obtain ⟨c, hc1, hc2⟩ : ∃ c, ue = (-pl r).toNat + c ∧ (pl r + 1074).toNat = (pl r).toNat + c := by
    have := ue_eq
    exact ⟨(pl r + 1074).toNat - (pl r).toNat, by omega, by omega⟩
  have hU : U = 2 ^ (-pl r).toNat * 2 ^ c := by unfold U; rw [hc1, pow_split]
  have hv : mg r * 2 ^ (pl r + 1074).toNat = mg r * 2 ^ (pl r).toNat * 2 ^ c := by rw [hc2, pow_split, Nat.mul_assoc]
  rw [hU, hv]
  have hc0 : 0 < 2 ^ c := two_pos c
  rw [Nat.mul_div_mul_right _ _ hc0, Nat.mul_mod_mul_right, more_scale _ _ _ _ _ _ hc0]
theorem whole_le (way : Toward) (neg : Bool) (v : Nat) : v / U ≤ whole way neg v ∧ whole way neg v ≤ v / U + 1 := by
  unfold whole
  generalize more way neg (v / U) (v % U) U = b
  cases b <;> simp
theorem whole_exact (way : Toward) (neg : Bool) (k : Nat) : whole way neg (k * U) = k := by
  unfold whole
  rw [Nat.mul_div_cancel _ U_pos, Nat.mul_mod_left]
  have h : more way neg k 0 U = false := by
    have := U_pos
    cases way
    · unfold more
      simp; omega
    · unfold more; simp
    · unfold more; simp
    · rfl
  rw [h]; rfl
theorem pl_hi {r : Nat} (h : 0 ≤ pl r) : val r = mg r * 2 ^ (pl r).toNat * U := by
  obtain ⟨_, e⟩ := mg_pl r
  rw [← e, Nat.mul_assoc]
  unfold U
  rw [← pow_split]
  congr 2
  have := ue_eq
  omega
theorem mg_lt (r : Nat) : mg r < 9007199254740992 := by unfold mg; split <;> omega
theorem pl_lo {r : Nat} (h : pl r < 0) : val r / U < 4503599627370496 := by
  obtain ⟨hp, e⟩ := mg_pl r
  have m := mg_lt r
  rw [Nat.div_lt_iff_lt_mul U_pos, ← e]
  obtain ⟨ut, hu⟩ : ∃ ut, ue = ut + 1 := ⟨1073, rfl⟩
  have hu2 := ue_eq
  have h1 : 2 ^ (pl r + 1074).toNat ≤ 2 ^ ut := pow_le (by omega)
  have h2 : U = 2 * 2 ^ ut := by
    unfold U; rw [hu, Nat.pow_succ, Nat.mul_comm]
  rw [h2]
  have h0 := two_pos ut
  generalize (2 : Nat) ^ ut = Y at *
  have h3 : mg r * 2 ^ (pl r + 1074).toNat ≤ mg r * Y := Nat.mul_le_mul_left _ h1
  have h4 : mg r * Y < 9007199254740992 * Y := Nat.mul_lt_mul_of_pos_right m h0
  omega
/-- A number made whole: its word. -/
theorem integral_fin (way : Toward) {x : Nat} (h : fin x) : ∃ r, FloatKind.f64.encode ((FloatKind.f64.decode x).integral way) = wd (ng x) r ∧ r < inf ∧ val r = whole way (ng x) (val (rg x)) * U := by
  show ∃ r, double.write ((double.read x).integral way) = _ ∧ _
  rw [read_fin h]
  show ∃ r, double.nearest (ng x) (way.cut (ng x) (mg (rg x) <<< (pl (rg x)).toNat) (-pl (rg x)).toNat) 0 = _ ∧ _
  rw [cut_whole]
  obtain ⟨R, hR, hn⟩ := write_near (ng x) (whole way (ng x) (val (rg x))) 0
  have N := hn (whole way (ng x) (val (rg x)) * U) 1 (Nat.le_refl _) (by
    rw [show (-1074 - (0 : Int)).toNat = 0 by decide, show ((0 : Int) + 1074).toNat = ue by decide, Nat.pow_zero]; rfl)
  have hex : ∃ z, z < inf ∧ val z = whole way (ng x) (val (rg x)) * U := by
    by_cases hp : 0 ≤ pl (rg x)
    · refine ⟨rg x, h, ?_⟩
      rw [pl_hi hp, whole_exact]
    · have h1 := pl_lo (r := rg x) (by omega)
      have h2 := (whole_le way (ng x) (val (rg x))).2
      obtain ⟨z, hz⟩ := rep ue (whole way (ng x) (val (rg x))) (by omega)
      exact ⟨z, lt_inf hz (by omega), hz⟩
  obtain ⟨z, hz1, hz2⟩ := hex
  have e : R = z := N.exact (by rw [hz2, Nat.mul_one])
  refine ⟨z, ?_, hz1, hz2⟩
  rw [hR, e, Nat.min_eq_left (Nat.le_of_lt hz1)]
/-- A number, cut towards 0, as a whole one. -/
theorem toInt_fin {x : Nat} (h : fin x) : (FloatKind.f64.decode x).toInt .zero = some (if ng x then -((val (rg x) / U : Nat) : Int) else ((val (rg x) / U : Nat) : Int)) := by
  show (double.read x).toInt .zero = _
  rw [read_fin h]
  unfold Datum.toInt Datum.integral
  simp only
  rw [cut_whole, signed_eq, Nat.pow_zero, Nat.mul_one]
  have : whole .zero (ng x) (val (rg x)) = val (rg x) / U := by unfold whole more; simp
  rw [this]
/-- A whole number up to 2^53 has a word. -/
theorem int_exact (n : Int) (h0 : -9007199254740992 ≤ n) (h1 : n ≤ 9007199254740992) : ∃ r, FloatKind.f64.nearest n = wd (decide (n < 0)) r ∧ r < inf ∧ val r = n.natAbs * U := by
  obtain ⟨R, hR, N⟩ := int_near n
  obtain ⟨z, hz⟩ := rep ue n.natAbs (by omega)
  have hl := lt_inf hz (by omega)
  have e : R = z := N.exact (by rw [hz, Nat.mul_one]; rfl)
  exact ⟨z, by rw [hR, e, Nat.min_eq_left (Nat.le_of_lt hl)], hl, hz⟩

/-! ### quotients -/
/-- What rungs, and what lies in the middle of two, come to, in halves. -/
def Pt (P : Nat) : Prop := ∃ k L, k < 18014398509481984 ∧ P = k * 2 ^ L
theorem pt_val (z : Nat) : Pt (2 * val z) := by
  obtain ⟨L, k, h, hk, e⟩ := rung_dec z
  exact ⟨2 * k, L, by omega, by rw [e, valK L k h (by omega), Nat.mul_assoc]⟩
theorem pt_mid (z : Nat) : Pt (val z + val (z + 1)) := by
  obtain ⟨L, k, h, hk, e⟩ := rung_dec z
  refine ⟨2 * k + 1, L, by omega, ?_⟩
  rw [e, valK L k h (by omega), Nat.add_assoc, valK L (k + 1) (by omega) (by omega), ← Nat.add_mul]
  congr 1; omega
theorem Near.of_pts {N D N' D' R : Nat} (h : Near N' D' R) (hc : ∀ P, Pt P → (P * D ≤ 2 * N ↔ P * D' ≤ 2 * N') ∧ (2 * N ≤ P * D ↔ 2 * N' ≤ P * D')) : Near N D R := by
  have tw : ∀ z X Y, val z * X ≤ Y ↔ 2 * val z * X ≤ 2 * Y := by intro z X Y; rw [Nat.mul_assoc]; omega
  have tw2 : ∀ z X Y, Y ≤ val z * X ↔ 2 * Y ≤ 2 * val z * X := by intro z X Y; rw [Nat.mul_assoc]; omega
  have eqq : ∀ P, Pt P → (2 * N = P * D ↔ 2 * N' = P * D') := by
    intro P hP
    have := hc P hP
    omega
  have prev : 1 ≤ R → Pt (val (R - 1) + val R) := by
    intro hR
    have := pt_mid (R - 1)
    rwa [Nat.sub_add_cancel hR] at this
  refine ⟨?_, ?_, ?_, ?_, ?_, ?_⟩
  · intro z hz
    rw [tw, (hc _ (pt_val z)).1, ← tw] at hz
    exact h.lo z hz
  · intro z hz
    rw [tw2, (hc _ (pt_val z)).2, ← tw2] at hz
    exact h.hi z hz
  · rw [(hc _ (pt_mid R)).2]; exact h.up
  · rw [eqq _ (pt_mid R)]; exact h.upe
  · intro hR; rw [(hc _ (prev hR)).1]; exact h.dn hR
  · intro hR; rw [eq_comm, eqq _ (prev hR), eq_comm]; exact h.dne hR
theorem quot_pts {n Q rem A B P : Nat} (hn : 0 < n) (hr : rem < n) (hQ : 9007199254740992 ≤ Q) (hP : Pt P) :
    (P * (n * 2 ^ B) ≤ 2 * ((Q * n + rem) * 2 ^ A) ↔ P * 2 ^ B ≤ (2 * Q + (rem != 0).toNat) * 2 ^ A) ∧ (2 * ((Q * n + rem) * 2 ^ A) ≤ P * (n * 2 ^ B) ↔ (2 * Q + (rem != 0).toNat) * 2 ^ A ≤ P * 2 ^ B) := by
  obtain ⟨k, L, hk, rfl⟩ := hP
  have hA := two_pos A
  have hs : (rem = 0 ∧ (rem != 0).toNat = 0) ∨ (0 < rem ∧ (rem != 0).toNat = 1) := by
    rcases Nat.eq_zero_or_pos rem with h | h
    · left; rw [h]; exact ⟨rfl, rfl⟩
    · right; refine ⟨h, ?_⟩; rw [show (rem != 0) = true by rw [bne_iff_ne]; omega]; rfl
  generalize (rem != 0).toNat = s at *
  by_cases hm : A + 1 ≤ L + B
  · obtain ⟨d, hd⟩ : ∃ d, L + B = A + 1 + d := ⟨L + B - (A + 1), by omega⟩
    have e1 : k * 2 ^ L * 2 ^ B = 2 * (k * 2 ^ d) * 2 ^ A := by
      rw [Nat.mul_assoc, ← pow_split, hd, pow_split, pow_split, Nat.pow_one]
      rw [show 2 ^ A * 2 * 2 ^ d = 2 * 2 ^ d * 2 ^ A by rw [Nat.mul_comm (2 ^ A), Nat.mul_right_comm], ← Nat.mul_assoc, ← Nat.mul_assoc, Nat.mul_comm k 2, Nat.mul_assoc 2 k]
    have e2 : k * 2 ^ L * (n * 2 ^ B) = 2 * ((k * 2 ^ d) * n * 2 ^ A) := by
      rw [Nat.mul_comm n, ← Nat.mul_assoc, e1, Nat.mul_right_comm, Nat.mul_assoc, Nat.mul_assoc, Nat.mul_assoc, Nat.mul_assoc, Nat.mul_assoc]
    rw [e1, e2]
    generalize k * 2 ^ d = v
    generalize 2 ^ A = Y at *
    have c1 : (2 * (v * n * Y) ≤ 2 * ((Q * n + rem) * Y)) ↔ v * n ≤ Q * n + rem := by
      rw [show (2 * (v * n * Y) ≤ 2 * ((Q * n + rem) * Y)) ↔ (v * n * Y ≤ (Q * n + rem) * Y) by omega, Nat.mul_le_mul_right_iff hA]
    have c2 : (2 * ((Q * n + rem) * Y) ≤ 2 * (v * n * Y)) ↔ Q * n + rem ≤ v * n := by
      rw [show (2 * ((Q * n + rem) * Y) ≤ 2 * (v * n * Y)) ↔ ((Q * n + rem) * Y ≤ v * n * Y) by omega, Nat.mul_le_mul_right_iff hA]
    rw [c1, c2, Nat.mul_le_mul_right_iff hA, Nat.mul_le_mul_right_iff hA]
    clear e1 e2 c1 c2 hA hm hd
    rcases Nat.lt_trichotomy v Q with h | h | h
    · have h1 : v * n + n ≤ Q * n := by have := Nat.mul_le_mul_right n h; rwa [Nat.succ_mul] at this
      omega
    · rw [h]
      omega
    · have h1 : Q * n + n ≤ v * n := by have := Nat.mul_le_mul_right n h; rwa [Nat.succ_mul] at this
      omega
  · have e1 : k * 2 ^ L * 2 ^ B < 2 * Q * 2 ^ A := by
      rw [Nat.mul_assoc, ← pow_split]
      have h1 : 2 ^ (L + B) ≤ 2 ^ A := pow_le (by omega)
      have h2 : k * 2 ^ (L + B) ≤ k * 2 ^ A := Nat.mul_le_mul_left _ h1
      have h3 : k * 2 ^ A < 2 * Q * 2 ^ A := Nat.mul_lt_mul_of_pos_right (by omega) hA
      omega
    have e2 : k * 2 ^ L * (n * 2 ^ B) < 2 * ((Q * n + rem) * 2 ^ A) := by
      have h1 : k * 2 ^ L * (n * 2 ^ B) = k * 2 ^ L * 2 ^ B * n := by rw [Nat.mul_comm n, ← Nat.mul_assoc]
      have h2 : k * 2 ^ L * 2 ^ B * n < 2 * Q * 2 ^ A * n := Nat.mul_lt_mul_of_pos_right e1 hn
      have h3 : 2 * Q * 2 ^ A * n = 2 * (Q * n * 2 ^ A) := by rw [Nat.mul_right_comm, Nat.mul_assoc, Nat.mul_assoc, Nat.mul_assoc]
      have h4 : Q * n * 2 ^ A ≤ (Q * n + rem) * 2 ^ A := Nat.mul_le_mul_right _ (by omega)
      omega
    have e3 : 2 * Q * 2 ^ A ≤ (2 * Q + s) * 2 ^ A := Nat.mul_le_mul_right _ (by omega)
    omega
theorem div_near {x y : Nat} (hx : fin x) (hy : fin y) (h0 : rg y ≠ 0) :
    ∃ R, double.div x y = some (wd (ng x ^^ ng y) (min R inf)) ∧ Near (val (rg x) * U) (val (rg y)) R := by
  unfold Format.div
  rw [read_fin hx, read_fin hy]
  obtain ⟨a, ex⟩ := mg_pl (rg x)
  obtain ⟨b, ey⟩ := mg_pl (rg y)
  have hn0 : mg (rg y) ≠ 0 := by
    intro h
    rw [h, Nat.zero_mul] at ey
    exact h0 (val_inj (ey.symm.trans (val_lo (by decide)).symm))
  have hm1 := mg_lt (rg x)
  have hd1 : double.fractionBits + 2 = 54 := rfl
  unfold Datum.quotient
  simp only
  rw [if_neg hn0, hd1]
  rw [Option.map_some]
  by_cases hm0 : mg (rg x) = 0
  · -- 0 divided
    obtain ⟨R, hR, hn⟩ := write_near (ng x ^^ ng y) (2 * ((mg (rg x) <<< (54 + (mg (rg y)).log2 - (mg (rg x)).log2)) / mg (rg y)) + ((mg (rg x) <<< (54 + (mg (rg y)).log2 - (mg (rg x)).log2)) % mg (rg y) != 0).toNat) (pl (rg x) - pl (rg y) - (54 + (mg (rg y)).log2 - (mg (rg x)).log2 : Nat) - 1)
    refine ⟨R, ?_, ?_⟩
    · show some (double.nearest _ _ _) = _
      rw [hR]
    · have hv : val (rg x) = 0 := by rw [← ex, hm0, Nat.zero_mul]
      have hy1 : 1 ≤ val (rg y) := by rw [← ey]; exact Nat.mul_pos (by omega) (two_pos _)
      rw [hv, Nat.zero_mul]
      refine hn 0 _ hy1 ?_
      rw [hm0]; simp
  · obtain ⟨mo, hmo⟩ : ∃ mo, 54 + (mg (rg y)).log2 - (mg (rg x)).log2 = mo := ⟨_, rfl⟩
    rw [hmo]
    have f1 : 2 ^ (mg (rg x)).log2 ≤ mg (rg x) := Nat.log2_self_le hm0
    have f2 : mg (rg y) < 2 ^ ((mg (rg y)).log2 + 1) := Nat.lt_log2_self
    have hlx : (mg (rg x)).log2 < 53 := (Nat.log2_lt hm0).2 (Nat.lt_of_lt_of_le hm1 (by decide))
    obtain ⟨R, hR, hn⟩ := write_near (ng x ^^ ng y) (2 * ((mg (rg x) <<< mo) / mg (rg y)) + ((mg (rg x) <<< mo) % mg (rg y) != 0).toNat) (pl (rg x) - pl (rg y) - (mo : Int) - 1)
    refine ⟨R, ?_, ?_⟩
    · show some (double.nearest _ _ _) = _
      rw [hR]
    · rw [shl] at hn
      have hQ : 9007199254740992 ≤ mg (rg x) * 2 ^ mo / mg (rg y) := by
        rw [Nat.le_div_iff_mul_le (by omega)]
        have h1 : 2 ^ (mg (rg x)).log2 * 2 ^ mo ≤ mg (rg x) * 2 ^ mo := Nat.mul_le_mul_right _ f1
        rw [← pow_split, show (mg (rg x)).log2 + mo = 53 + ((mg (rg y)).log2 + 1) by omega, pow_split] at h1
        have h2 : 9007199254740992 * mg (rg y) ≤ 9007199254740992 * 2 ^ ((mg (rg y)).log2 + 1) := Nat.mul_le_mul_left _ (Nat.le_of_lt f2)
        have h3 : (2 : Nat) ^ 53 = 9007199254740992 := by decide
        rw [h3] at h1
        exact Nat.le_trans h2 h1
      have hdm := Nat.div_add_mod (mg (rg x) * 2 ^ mo) (mg (rg y))
      have hrm : mg (rg x) * 2 ^ mo % mg (rg y) < mg (rg y) := Nat.mod_lt _ (by omega)
      have key := hn ((2 * (mg (rg x) * 2 ^ mo / mg (rg y)) + (mg (rg x) * 2 ^ mo % mg (rg y) != 0).toNat) * 2 ^ ((pl (rg x) + 1074).toNat + ue)) (2 ^ ((pl (rg y) + 1074).toNat + mo + 1)) (two_pos _) (by
        rw [Nat.mul_assoc, Nat.mul_assoc, ← pow_split, ← pow_split]
        have := ue_eq
        congr 2
        omega)
      generalize mg (rg x) * 2 ^ mo / mg (rg y) = Q at *
      generalize hrem : mg (rg x) * 2 ^ mo % mg (rg y) = rem at *
      refine key.of_pts ?_
      intro P hP
      have q := quot_pts (A := (pl (rg x) + 1074).toNat + ue) (B := (pl (rg y) + 1074).toNat + mo) (n := mg (rg y)) (by omega) hrm hQ hP
      have s1 : val (rg x) * U * 2 ^ mo = (Q * mg (rg y) + rem) * 2 ^ ((pl (rg x) + 1074).toNat + ue) := by
        rw [Nat.mul_comm Q, hdm, ← ex]
        unfold U
        rw [pow_split]
        generalize 2 ^ ue = Y
        generalize 2 ^ (pl (rg x) + 1074).toNat = Z
        generalize 2 ^ mo = T
        rw [Nat.mul_assoc, Nat.mul_assoc, Nat.mul_assoc, Nat.mul_comm T, Nat.mul_assoc]
      have s2 : val (rg y) * 2 ^ mo = mg (rg y) * 2 ^ ((pl (rg y) + 1074).toNat + mo) := by
        rw [← ey, Nat.mul_assoc, ← pow_split]
      have hmo0 := two_pos mo
      rw [← s1, ← s2] at q
      have t1 : P * (val (rg y) * 2 ^ mo) = P * val (rg y) * 2 ^ mo := (Nat.mul_assoc _ _ _).symm
      have t2 : 2 * (val (rg x) * U * 2 ^ mo) = 2 * (val (rg x) * U) * 2 ^ mo := (Nat.mul_assoc _ _ _).symm
      rw [t1, t2, Nat.mul_le_mul_right_iff hmo0, Nat.mul_le_mul_right_iff hmo0] at q
      rw [q.1, q.2]
      have t3 : P * 2 ^ ((pl (rg y) + 1074).toNat + mo + 1) = 2 * (P * 2 ^ ((pl (rg y) + 1074).toNat + mo)) := by
        rw [Nat.pow_succ, ← Nat.mul_assoc, Nat.mul_comm _ 2]
      rw [t3]
      omega
end Go.Proofs.Ytnfjdjfajkdiiaa.Fl
