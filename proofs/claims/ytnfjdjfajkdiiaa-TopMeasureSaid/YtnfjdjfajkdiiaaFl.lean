/- Numbers with a floating point, in whole numbers: a rung's magnitude in units of 2^-1074, and what rounding to the nearest rung keeps of the order. -/
import Ieee.Arith
import Derived.Laws.FloatBits
set_option linter.unusedVariables false
set_option linter.unusedSimpArgs false
namespace Go.Proofs.Ytnfjdjfajkdiiaa.Fl
open Ieee

/-- The magnitude of a rung, in units of 2^-1074. -/
def val (r : Nat) : Nat := if r < 4503599627370496 then r else (4503599627370496 + r % 4503599627370496) * 2 ^ (r / 4503599627370496 - 1)

theorem two_pos (k : Nat) : 1 ≤ 2 ^ k := Nat.one_le_two_pow
theorem val_hi {r : Nat} (h : 4503599627370496 ≤ r) : val r = (4503599627370496 + r % 4503599627370496) * 2 ^ (r / 4503599627370496 - 1) := if_neg (by omega)
theorem val_lo {r : Nat} (h : r < 4503599627370496) : val r = r := if_pos h
/-- A rung by its binade, its place told. -/
theorem val_at (e f : Nat) (hf : f < 4503599627370496) : val ((e + 1) * 4503599627370496 + f) = (4503599627370496 + f) * 2 ^ e := by
  rw [val_hi (by omega)]
  have h1 : ((e + 1) * 4503599627370496 + f) % 4503599627370496 = f := by omega
  have h2 : ((e + 1) * 4503599627370496 + f) / 4503599627370496 = e + 1 := by omega
  rw [h1, h2, Nat.add_sub_cancel]
theorem val_split {r : Nat} (h : 4503599627370496 ≤ r) : ∃ e f, f < 4503599627370496 ∧ r = (e + 1) * 4503599627370496 + f ∧ val r = (4503599627370496 + f) * 2 ^ e :=
  ⟨r / 4503599627370496 - 1, r % 4503599627370496, by omega, by omega, val_hi h⟩
theorem pow_le {a b : Nat} (h : a ≤ b) : 2 ^ a ≤ 2 ^ b := Nat.pow_le_pow_right (by omega) h
theorem val_mono {a b : Nat} (h : a < b) : val a < val b := by
  by_cases hb : b < 4503599627370496
  · rw [val_lo hb, val_lo (by omega)]; exact h
  · obtain ⟨e, f, hf, rfl, hv⟩ := val_split (r := b) (by omega)
    rw [hv]
    by_cases ha : a < 4503599627370496
    · rw [val_lo ha]
      have := Nat.mul_le_mul_left (4503599627370496 + f) (two_pos e)
      omega
    · obtain ⟨e', f', hf', rfl, hv'⟩ := val_split (r := a) (by omega)
      rw [hv']
      by_cases he : e' = e
      · subst he
        exact Nat.mul_lt_mul_of_pos_right (by omega) (two_pos _)
      · have hlt : e' + 1 ≤ e := by omega
        have h1 : (4503599627370496 + f') * 2 ^ e' < 9007199254740992 * 2 ^ e' := Nat.mul_lt_mul_of_pos_right (by omega) (two_pos _)
        have h2 : 9007199254740992 * 2 ^ e' = 4503599627370496 * 2 ^ (e' + 1) := by rw [Nat.pow_succ]; omega
        have h3 : 4503599627370496 * 2 ^ (e' + 1) ≤ 4503599627370496 * 2 ^ e := Nat.mul_le_mul_left _ (pow_le hlt)
        have h4 : 4503599627370496 * 2 ^ e ≤ (4503599627370496 + f) * 2 ^ e := Nat.mul_le_mul_right _ (by omega)
        omega
theorem val_le {a b : Nat} : val a ≤ val b ↔ a ≤ b := by
  constructor
  · intro h
    by_cases hc : a ≤ b
    · exact hc
    · have := val_mono (a := b) (b := a) (by omega); omega
  · intro h
    by_cases hc : a = b
    · rw [hc]; exact Nat.le_refl _
    · exact Nat.le_of_lt (val_mono (by omega))
theorem val_lt {a b : Nat} : val a < val b ↔ a < b := by
  constructor
  · intro h
    by_cases hc : a < b
    · exact hc
    · have := val_le.2 (show b ≤ a by omega); omega
  · exact val_mono
theorem val_inj {a b : Nat} (h : val a = val b) : a = b := by
  have h1 := val_le.1 (Nat.le_of_eq h); have h2 := val_le.1 (Nat.le_of_eq h.symm); omega

/-! ### rounding to the nearest whole number, ties to even -/
theorem shl (n k : Nat) : n <<< k = n * 2 ^ k := Nat.shiftLeft_eq n k
/-- What 'even' cuts: the whole part, or one more; one more only where something is left. -/
theorem cut_even (neg : Bool) (n drop : Nat) : ∃ k, Toward.even.cut neg n drop = k ∧ (∀ z, z * 2 ^ drop ≤ n → z ≤ k) ∧ (∀ z, n ≤ z * 2 ^ drop → k ≤ z) ∧ 2 * n ≤ (2 * k + 1) * 2 ^ drop ∧ (2 * n = (2 * k + 1) * 2 ^ drop → k % 2 = 0) ∧ 2 * k * 2 ^ drop ≤ 2 * n + 2 ^ drop ∧ (2 * k * 2 ^ drop = 2 * n + 2 ^ drop → k % 2 = 0) := by
  refine ⟨_, rfl, ?_⟩
  unfold Toward.cut
  simp only
  by_cases hd : drop ≤ n.log2 + 2
  · rw [Nat.min_eq_left hd, shl, Nat.one_mul]
    generalize hD : 2 ^ drop = D
    have hD0 : 1 ≤ D := by rw [← hD]; exact two_pos _
    have hn := Nat.div_add_mod n D
    have hr : n % D < D := Nat.mod_lt _ hD0
    generalize n / D = q at hn ⊢
    generalize n % D = r at hn hr ⊢
    have hlow : ∀ z, z * D ≤ n → z ≤ q := by
      intro z hz
      by_cases h : z ≤ q
      · exact h
      · have : (q + 1) * D ≤ z * D := Nat.mul_le_mul_right _ (by omega)
        have e : (q + 1) * D = D * q + D := by rw [Nat.add_mul, Nat.one_mul, Nat.mul_comm]
        omega
    have e2 : ∀ x : Nat, 2 * x * D = 2 * (D * x) := by intro x; rw [Nat.mul_assoc, Nat.mul_comm x D]
    have e3 : ∀ x : Nat, (2 * x + 1) * D = 2 * (D * x) + D := by intro x; rw [Nat.add_mul, Nat.one_mul, e2]
    have hge : ∀ z, n ≤ z * D → q ≤ z := by
      intro z hz
      by_cases h : q ≤ z
      · exact h
      · have : (z + 1) * D ≤ q * D := Nat.mul_le_mul_right _ (by omega)
        have e : (z + 1) * D = z * D + D := by rw [Nat.add_mul, Nat.one_mul]
        have : q * D = D * q := Nat.mul_comm _ _
        omega
    by_cases hup : (decide (D < 2 * r) || D == 2 * r && q % 2 == 1) = true
    · rw [hup]
      have hpos : 1 ≤ r ∧ D ≤ 2 * r ∧ (D = 2 * r → q % 2 = 1) := by
        rw [Bool.or_eq_true, Bool.and_eq_true] at hup
        simp at hup; omega
      have e4 : D * (q + 1) = D * q + D := by rw [Nat.mul_add, Nat.mul_one]
      show _ ∧ _ ∧ _ ∧ _ ∧ _ ∧ _
      simp only [Bool.toNat_true]
      refine ⟨fun z hz => Nat.le_succ_of_le (hlow z hz), ?_, ?_, ?_, ?_, ?_⟩
      · intro z hz
        by_cases h : q + 1 ≤ z
        · exact h
        · have : z * D ≤ q * D := Nat.mul_le_mul_right _ (by omega)
          have : q * D = D * q := Nat.mul_comm _ _
          omega
      · rw [e3]; omega
      · rw [e3]; omega
      · rw [e2]; omega
      · rw [e2]; omega
    · have hf : (decide (D < 2 * r) || D == 2 * r && q % 2 == 1) = false := by simpa using hup
      rw [hf]
      have hlo : 2 * r ≤ D ∧ (D = 2 * r → q % 2 = 0) := by
        rw [Bool.or_eq_false_iff] at hf
        simp at hf; omega
      show _ ∧ _ ∧ _ ∧ _ ∧ _ ∧ _
      simp only [Bool.toNat_false, Nat.add_zero]
      refine ⟨hlow, hge, ?_, ?_, ?_, ?_⟩
      · rw [e3]; omega
      · rw [e3]; omega
      · rw [e2]; omega
      · rw [e2]; omega
  · rw [Nat.min_eq_right (by omega), shl, Nat.one_mul]
    have hn : n < 2 ^ (n.log2 + 1) := Nat.lt_log2_self
    have h2 : 2 ^ (n.log2 + 2) = 2 * 2 ^ (n.log2 + 1) := by rw [show n.log2 + 2 = (n.log2 + 1) + 1 from rfl, Nat.pow_succ, Nat.mul_comm]
    have h3 : 2 ^ (n.log2 + 2) ≤ 2 ^ drop := pow_le (by omega)
    rw [Nat.div_eq_of_lt (by omega), Nat.mod_eq_of_lt (by omega)]
    have hf : (decide (2 ^ (n.log2 + 2) < 2 * n) || 2 ^ (n.log2 + 2) == 2 * n && 0 % 2 == 1) = false := by
      simp; omega
    rw [hf]
    simp only [Bool.toNat_false, Nat.add_zero]
    refine ⟨?_, fun z _ => Nat.zero_le _, by omega, fun _ => trivial, by omega, fun _ => trivial⟩
    intro z hz
    by_cases h : z = 0
    · omega
    · have : 1 * 2 ^ drop ≤ z * 2 ^ drop := Nat.mul_le_mul_right _ (by omega)
      omega

/-! ### rounding to the nearest rung -/
theorem aux1 {e f L k : Nat} (hf : f < 4503599627370496) (hk : 4503599627370496 ≤ k) (h : (e + 1) * 4503599627370496 ≤ L * 4503599627370496) : (e + 1) * 4503599627370496 + f ≤ L * 4503599627370496 + k :=
  Nat.add_le_add h (Nat.le_of_lt (Nat.lt_of_lt_of_le hf hk))
theorem aux2 {L k : Nat} (h : k = 9007199254740992) : L * 4503599627370496 + k + 1 = (L + 1) * 4503599627370496 + (4503599627370496 + 1) := by omega
theorem aux3g {l k P Q : Nat} (h : k = P) (hQ : Q + 1 = 2 * P) : (l + 1) * P + k - 1 = l * P + Q := by
  rw [h, Nat.add_mul, Nat.one_mul]; generalize l * P = Z; omega
theorem aux3 {l k : Nat} (h : k = 4503599627370496) : (l + 1) * 4503599627370496 + k - 1 = l * 4503599627370496 + 9007199254740991 := aux3g h (by decide)
theorem aux4 {e f L k : Nat} (hk : k ≤ 9007199254740992) (h : L + 1 ≤ e) : L * 4503599627370496 + k ≤ (e + 1) * 4503599627370496 + f := by omega
theorem aux5 {e f k : Nat} (h : k ≤ 4503599627370496 + f) : e * 4503599627370496 + k ≤ (e + 1) * 4503599627370496 + f := by omega
theorem aux6 {e f k : Nat} (h : 4503599627370496 + f ≤ k) : (e + 1) * 4503599627370496 + f ≤ e * 4503599627370496 + k := by omega
theorem valK (L k : Nat) (h : L = 0 ∨ 4503599627370496 ≤ k) (hk : k ≤ 9007199254740992) : val (L * 4503599627370496 + k) = k * 2 ^ L := by
  by_cases h1 : k < 4503599627370496
  · have h0 : L = 0 := by omega
    subst h0
    rw [Nat.zero_mul, Nat.zero_add, val_lo h1, Nat.pow_zero, Nat.mul_one]
  · by_cases h2 : k < 9007199254740992
    · rw [show L * 4503599627370496 + k = (L + 1) * 4503599627370496 + (k - 4503599627370496) by rw [Nat.add_mul]; omega, val_at _ _ (by omega)]
      rw [show 4503599627370496 + (k - 4503599627370496) = k by omega]
    · have h3 : k = 9007199254740992 := by omega
      subst h3
      have e1 : L * 4503599627370496 + 9007199254740992 = (L + 1 + 1) * 4503599627370496 + 0 := by omega
      have e2 := val_at (L + 1) 0 (by decide)
      have e3 : 2 ^ (L + 1) = 2 ^ L * 2 := Nat.pow_succ ..
      rw [e3] at e2
      generalize 2 ^ L = Y at e2 ⊢
      rw [e1, e2]
      clear e1 e2 e3
      omega
theorem near (neg : Bool) (mag : Nat) (place : Int) (hm : mag ≠ 0) : ∃ R, double.nearest neg mag place = double.word neg (min R double.infRung) ∧
    ∀ N D, 1 ≤ D → N * 2 ^ (-1074 - place).toNat = mag * 2 ^ (place + 1074).toNat * D → (∀ z, val z * D ≤ N → z ≤ R) ∧ (∀ z, N ≤ val z * D → R ≤ z) ∧
      2 * N ≤ (val R + val (R + 1)) * D ∧ (2 * N = (val R + val (R + 1)) * D → R % 2 = 0) ∧
      (1 ≤ R → (val (R - 1) + val R) * D ≤ 2 * N ∧ ((val (R - 1) + val R) * D = 2 * N → R % 2 = 0)) := by
  have e1 : double.leastPlace = -1074 := by decide
  have e2 : double.fractionBits = 52 := rfl
  have e3 : double.binade = 4503599627370496 := by decide
  unfold Format.nearest
  rw [if_neg hm]
  dsimp only
  rw [e1, e2, e3]
  obtain ⟨last, hl⟩ : ∃ last : Int, max (place + (mag.log2 : Int) - (52 : Nat)) (-1074) = last := ⟨_, rfl⟩
  rw [hl]
  obtain ⟨k, hk, c1, c2, c3, c4, c5, c6⟩ := cut_even neg (mag <<< (place - last).toNat) (last - place).toNat
  rw [hk]
  have hl1 : -1074 ≤ last := by omega
  have hl2 : place + (mag.log2 : Int) - 52 ≤ last := by omega
  have hl3 : 0 < (last - -1074).toNat → last = place + (mag.log2 : Int) - 52 := by omega
  clear hl hk
  refine ⟨(last - -1074).toNat * 4503599627370496 + k, rfl, ?_⟩
  intro N D hD hND
  have f1 : 2 ^ mag.log2 ≤ mag := Nat.log2_self_le hm
  have f2 : mag < 2 ^ (mag.log2 + 1) := Nat.lt_log2_self
  rw [shl] at c1 c2 c3 c4 c5 c6
  obtain ⟨c, hc1, hc2⟩ : ∃ c, (last - -1074).toNat + (-1074 - place).toNat = (last - place).toNat + c ∧ (place + 1074).toNat = (place - last).toNat + c := ⟨(place + 1074).toNat - (place - last).toNat, by omega, by omega⟩
  have hu : mag.log2 + 1 + (place - last).toNat ≤ 53 + (last - place).toNat := by omega
  have hv : 0 < (last - -1074).toNat → 52 + (last - place).toNat = mag.log2 + (place - last).toNat := by omega
  clear hl1 hl2 hl3
  generalize (last - -1074).toNat = L at *
  generalize (-1074 - place).toNat = A at *
  generalize (place + 1074).toNat = B at *
  generalize (last - place).toNat = dr at *
  generalize (place - last).toNat = p1 at *
  -- everything in units X
  obtain ⟨X, hX⟩ : ∃ X, 2 ^ L * 2 ^ A = X := ⟨_, rfl⟩
  obtain ⟨M, hM⟩ : ∃ M, mag * 2 ^ B = M := ⟨_, rfl⟩
  have hX1 : X = 2 ^ dr * 2 ^ c := by rw [← hX, ← Nat.pow_add, ← Nat.pow_add, hc1]
  have hM1 : M = mag * 2 ^ p1 * 2 ^ c := by rw [← hM, hc2, Nat.pow_add, Nat.mul_assoc]
  have hc0 : 0 < 2 ^ c := two_pos c
  have hX0 : 0 < X := by rw [hX1]; exact Nat.mul_pos (two_pos _) hc0
  have lo : ∀ z, z * X ≤ M → z ≤ k := by
    intro z hz
    rw [hX1, hM1, ← Nat.mul_assoc] at hz
    exact c1 z (Nat.le_of_mul_le_mul_right hz hc0)
  have hi : ∀ z, M ≤ z * X → k ≤ z := by
    intro z hz
    rw [hX1, hM1, ← Nat.mul_assoc] at hz
    exact c2 z (Nat.le_of_mul_le_mul_right hz hc0)
  have up : M < 9007199254740992 * X := by
    have h1 : mag * 2 ^ p1 < 2 ^ (mag.log2 + 1) * 2 ^ p1 := Nat.mul_lt_mul_of_pos_right f2 (two_pos _)
    rw [← Nat.pow_add] at h1
    have h2 : mag * 2 ^ p1 < 2 ^ (53 + dr) := Nat.lt_of_lt_of_le h1 (pow_le hu)
    rw [Nat.pow_add] at h2
    have h3 := Nat.mul_lt_mul_of_pos_right h2 hc0
    rw [hX1, hM1, show (9007199254740992 : Nat) = 2 ^ 53 by decide, ← Nat.mul_assoc]
    exact h3
  have dn : 0 < L → 4503599627370496 * X ≤ M := by
    intro h
    have h1 : 2 ^ mag.log2 * 2 ^ p1 ≤ mag * 2 ^ p1 := Nat.mul_le_mul_right _ f1
    rw [← Nat.pow_add, ← hv h, Nat.pow_add] at h1
    have h3 := Nat.mul_le_mul_right (2 ^ c) h1
    rw [hX1, hM1, show (4503599627370496 : Nat) = 2 ^ 52 by decide, ← Nat.mul_assoc]
    exact h3
  have klo : 0 < L → 4503599627370496 ≤ k := fun h => lo _ (dn h)
  have khi : k ≤ 9007199254740992 := hi _ (Nat.le_of_lt up)
  have hA : 0 < 2 ^ A := two_pos A
  -- from N, D to M, A
  have hND' : N * 2 ^ A = M * D := by rw [← hM]; exact hND
  have cross : ∀ v, (v * D ≤ N → v * 2 ^ A ≤ M) ∧ (N ≤ v * D → M ≤ v * 2 ^ A) := by
    intro v
    have e : N * 2 ^ A = M * D := by rw [← hM]; exact hND
    constructor
    · intro h
      have h1 := Nat.mul_le_mul_right (2 ^ A) h
      rw [e, Nat.mul_right_comm] at h1
      exact Nat.le_of_mul_le_mul_right h1 hD
    · intro h
      have h1 := Nat.mul_le_mul_right (2 ^ A) h
      rw [e, Nat.mul_right_comm] at h1
      exact Nat.le_of_mul_le_mul_right h1 hD
  have XL : ∀ v, v * 2 ^ L * 2 ^ A = v * X := by intro v; rw [Nat.mul_assoc, hX]
  have crossE : ∀ v, v * D = N → v * 2 ^ A = M := fun v h => Nat.le_antisymm ((cross v).1 (by omega)) ((cross v).2 (by omega))
  -- the nearest one, and the even one of two
  have n1 : 2 * M ≤ (2 * k + 1) * X ∧ (2 * M = (2 * k + 1) * X → k % 2 = 0) := by
    have e1 : 2 * M = 2 * (mag * 2 ^ p1) * 2 ^ c := by rw [hM1]; exact (Nat.mul_assoc 2 _ _).symm
    have e2 : (2 * k + 1) * X = (2 * k + 1) * 2 ^ dr * 2 ^ c := by rw [hX1]; exact (Nat.mul_assoc _ _ _).symm
    rw [e1, e2]
    exact ⟨Nat.mul_le_mul_right _ c3, fun h => c4 (Nat.eq_of_mul_eq_mul_right hc0 h)⟩
  have n2 : 2 * k * X ≤ 2 * M + X ∧ (2 * k * X = 2 * M + X → k % 2 = 0) := by
    have e1 : 2 * M + X = (2 * (mag * 2 ^ p1) + 2 ^ dr) * 2 ^ c := by rw [hM1, hX1, Nat.add_mul]; exact congrArg (· + _) (Nat.mul_assoc 2 _ _).symm
    have e2 : 2 * k * X = 2 * k * 2 ^ dr * 2 ^ c := by rw [hX1]; exact (Nat.mul_assoc _ _ _).symm
    rw [e1, e2]
    exact ⟨Nat.mul_le_mul_right _ c5, fun h => c6 (Nat.eq_of_mul_eq_mul_right hc0 h)⟩
  clear c1 c2 c3 c4 c5 c6
  have kL : L = 0 ∨ 4503599627370496 ≤ k := by
    rcases Nat.eq_zero_or_pos L with h0 | h0
    · exact .inl h0
    · exact .inr (klo h0)
  have vR := valK L k kL khi
  have par : (L * 4503599627370496 + k) % 2 = k % 2 := by omega
  have e2N : 2 * N * 2 ^ A = 2 * M * D := by rw [Nat.mul_assoc, hND', ← Nat.mul_assoc]
  have cross2 : ∀ v, (v * D ≤ 2 * N ↔ v * 2 ^ A ≤ 2 * M) ∧ (2 * N ≤ v * D ↔ 2 * M ≤ v * 2 ^ A) ∧ (2 * N = v * D ↔ 2 * M = v * 2 ^ A) := by
    intro v
    have a1 : v * D ≤ 2 * N ↔ v * 2 ^ A ≤ 2 * M := by
      rw [← Nat.mul_le_mul_right_iff hA, e2N, Nat.mul_right_comm, Nat.mul_le_mul_right_iff hD]
    have a2 : 2 * N ≤ v * D ↔ 2 * M ≤ v * 2 ^ A := by
      rw [← Nat.mul_le_mul_right_iff hA, e2N, Nat.mul_right_comm v, Nat.mul_le_mul_right_iff hD]
    exact ⟨a1, a2, by omega⟩
  refine ⟨?_, ?_, ?_⟩
  rotate_left
  rotate_left
  · rw [(cross2 _).2.1, (cross2 _).2.2, vR, par]
    refine ⟨?_, ?_, ?_⟩
    · by_cases h53 : k < 9007199254740992
      · rw [Nat.add_assoc, valK L (k + 1) (by omega) (by omega), ← Nat.add_mul, XL, show k + (k + 1) = 2 * k + 1 by omega]
        exact n1.1
      · have h3 : k = 9007199254740992 := by omega
        have h4 : val (L * 4503599627370496 + k + 1) = (4503599627370496 + 1) * 2 ^ (L + 1) := by
          rw [← valK (L + 1) (4503599627370496 + 1) (by omega) (by omega)]; exact congrArg val (aux2 h3)
        have h5 : (4503599627370496 + 1) * 2 ^ (L + 1) = (k + 2) * 2 ^ L := by
          have e3 : 2 ^ (L + 1) = 2 ^ L * 2 := Nat.pow_succ ..
          rw [e3, h3]; generalize 2 ^ L = Y; clear e3; omega
        rw [h4, h5, ← Nat.add_mul, XL]
        exact Nat.le_trans n1.1 (Nat.mul_le_mul_right _ (by omega))
    · by_cases h53 : k < 9007199254740992
      · rw [Nat.add_assoc, valK L (k + 1) (by omega) (by omega), ← Nat.add_mul, XL, show k + (k + 1) = 2 * k + 1 by omega]
        exact n1.2
      · intro _; omega
    · intro hR
      rw [(cross2 _).1, eq_comm, (cross2 _).2.2]
      by_cases hk1 : L = 0 ∨ 4503599627370496 ≤ k - 1
      · have hk0 : 1 ≤ k := by omega
        rw [show L * 4503599627370496 + k - 1 = L * 4503599627370496 + (k - 1) by omega, valK L (k - 1) (by omega) (by omega), ← Nat.add_mul, XL]
        have e : 2 * k * X = (k - 1 + k) * X + X := by
          rw [show 2 * k = (k - 1 + k) + 1 by omega, Nat.add_mul _ 1, Nat.one_mul]
        exact ⟨by omega, fun h => n2.2 (by omega)⟩
      · have hk2 : k = 4503599627370496 := by omega
        obtain ⟨l, rfl⟩ : ∃ l, L = l + 1 := ⟨L - 1, by omega⟩
        have h4 : val ((l + 1) * 4503599627370496 + k - 1) = 9007199254740991 * 2 ^ l := by
          rw [← valK l 9007199254740991 (by omega) (by omega)]; exact congrArg val (aux3 hk2)
        have h5 := dn (by omega)
        rw [h4, Nat.add_mul, XL]
        have h6 : 9007199254740991 * 2 ^ l * 2 ^ A < k * X := by
          rw [hk2, ← hX, ← Nat.mul_assoc]
          refine Nat.mul_lt_mul_of_pos_right ?_ hA
          have e3 : 2 ^ (l + 1) = 2 ^ l * 2 := Nat.pow_succ ..
          have := two_pos l
          rw [e3]; generalize 2 ^ l = Y at this ⊢; clear e3; omega
        rw [hk2] at h6 ⊢
        exact ⟨by omega, fun h => by omega⟩
  · intro z hz
    have hz := (cross _).1 hz
    by_cases h52 : z < 4503599627370496
    · rcases Nat.eq_zero_or_pos L with h0 | h0
      · rw [val_lo h52] at hz
        have := XL z
        rw [h0, Nat.pow_zero, Nat.mul_one] at this
        rw [this] at hz
        have := lo _ hz; omega
      · have := klo h0; omega
    · obtain ⟨e, f, hf, rfl, hvz⟩ := val_split (r := z) (by omega)
      rw [hvz] at hz
      rcases Nat.lt_trichotomy e L with h | h | h
      · have := klo (by omega)
        exact aux1 hf this (Nat.mul_le_mul_right _ h)
      · subst h
        rw [XL] at hz
        exact aux6 (lo _ hz)
      · exfalso
        have h1 : 2 ^ (L + 1) ≤ 2 ^ e := pow_le h
        have h2 : 4503599627370496 * 2 ^ (L + 1) ≤ (4503599627370496 + f) * 2 ^ e := Nat.mul_le_mul (by omega) h1
        have h3 : 4503599627370496 * 2 ^ (L + 1) * 2 ^ A ≤ M := Nat.le_trans (Nat.mul_le_mul_right _ h2) hz
        have h4 : 4503599627370496 * 2 ^ (L + 1) = 9007199254740992 * 2 ^ L := by
          have e3 : 2 ^ (L + 1) = 2 ^ L * 2 := Nat.pow_succ ..
          rw [e3]; generalize 2 ^ L = Y; clear e3; omega
        rw [h4, XL] at h3
        omega
  · intro z hz
    have hz := (cross _).2 hz
    by_cases h52 : z < 4503599627370496
    · rcases Nat.eq_zero_or_pos L with h0 | h0
      · rw [val_lo h52] at hz
        have := XL z
        rw [h0, Nat.pow_zero, Nat.mul_one] at this
        rw [this] at hz
        have := hi _ hz
        rw [h0]; omega
      · exfalso
        rw [val_lo h52] at hz
        have h1 := dn h0
        have h2 : 4503599627370496 * 2 ^ A ≤ 4503599627370496 * X := by
          rw [← hX]
          exact Nat.mul_le_mul_left _ (Nat.le_mul_of_pos_left _ (two_pos L))
        have h3 : z * 2 ^ A < 4503599627370496 * 2 ^ A := Nat.mul_lt_mul_of_pos_right h52 hA
        omega
    · obtain ⟨e, f, hf, rfl, hvz⟩ := val_split (r := z) (by omega)
      rw [hvz] at hz
      rcases Nat.lt_trichotomy e L with h | h | h
      · exfalso
        have h1 := dn (by omega)
        have h2 : 2 ^ (e + 1) ≤ 2 ^ L := pow_le h
        have h3 : (4503599627370496 + f) * 2 ^ e < 9007199254740992 * 2 ^ e := Nat.mul_lt_mul_of_pos_right (by omega) (two_pos e)
        have h4 : 9007199254740992 * 2 ^ e = 4503599627370496 * 2 ^ (e + 1) := by
          have e3 : 2 ^ (e + 1) = 2 ^ e * 2 := Nat.pow_succ ..
          rw [e3]; generalize 2 ^ e = Y; clear e3; omega
        have h5 : 4503599627370496 * 2 ^ (e + 1) ≤ 4503599627370496 * 2 ^ L := Nat.mul_le_mul_left _ h2
        have h6 : (4503599627370496 + f) * 2 ^ e * 2 ^ A < 4503599627370496 * 2 ^ L * 2 ^ A := Nat.mul_lt_mul_of_pos_right (by omega) hA
        rw [XL] at h6
        omega
      · subst h
        rw [XL] at hz
        exact aux5 (hi _ hz)
      · exact aux4 khi h
end Go.Proofs.Ytnfjdjfajkdiiaa.Fl
