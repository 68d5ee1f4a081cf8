/- Stamps' texts are in the order of their seconds, where years have four digits: in plain lists. -/
import Derived.Test.YtldpchkapcnfbaaDoorSbW
import Derived.Test.YtldpchkapcnfbaaDoorCmp
set_option linter.unusedVariables false
set_option linter.unusedSimpArgs false
namespace Go.Proofs.YtldpchkapcnfbaaDoor
open Go Go.Lib

theorem cmpI_lt {a b : Int} : cmpI a b < 0 ↔ a < b := by unfold cmpI; split <;> (try split) <;> omega
theorem cmpI_zero {a b : Int} : cmpI a b = 0 ↔ a = b := by unfold cmpI; split <;> (try split) <;> omega
theorem cmpD_lt {y m d y' m' d' : Int} : cmpD y m d y' m' d' < 0 ↔ Cal.Lt y m d y' m' d' := by
  have h1 := cmpI_lt (a := y) (b := y'); have h2 := cmpI_lt (a := m) (b := m'); have h3 := cmpI_lt (a := d) (b := d')
  have z1 := cmpI_zero (a := y) (b := y'); have z2 := cmpI_zero (a := m) (b := m')
  unfold cmpD orI Cal.Lt
  split
  · split <;> omega
  · omega
theorem cmpD_zero {y m d y' m' d' : Int} : cmpD y m d y' m' d' = 0 ↔ (y = y' ∧ m = m' ∧ d = d') := by
  have z1 := cmpI_zero (a := y) (b := y'); have z2 := cmpI_zero (a := m) (b := m'); have z3 := cmpI_zero (a := d) (b := d')
  unfold cmpD orI
  split
  · split <;> omega
  · omega
namespace So
theorem val_lo : ∀ (l : List UInt8) (a : Nat), l.all Num.dig = true → a * 10 ^ l.length ≤ Num.val a l := by
  intro l
  induction l with
  | nil => intro a _; rw [Num.val_nil]; simp
  | cons c r ih =>
    intro a h
    simp only [List.all_cons, Bool.and_eq_true] at h
    have := ih (Num.stp a c) h.2
    rw [Num.val_cons, List.length_cons, Nat.pow_succ]
    have h1 : a * 10 ≤ Num.stp a c := by rw [Num.stp_eq]; omega
    have h2 := Nat.mul_le_mul_right (10 ^ r.length) h1
    calc a * (10 ^ r.length * 10) = a * 10 * 10 ^ r.length := by rw [Nat.mul_assoc, Nat.mul_comm 10]
      _ ≤ Num.stp a c * 10 ^ r.length := h2
      _ ≤ Num.val (Num.stp a c) r := this
theorem less_digits : ∀ (p q : List UInt8), p.length = q.length → p.all Num.dig = true → q.all Num.dig = true → ∀ a, (Op.bytesLess p q = true ↔ Num.val a p < Num.val a q) ∧ (p = q ↔ Num.val a p = Num.val a q) := by
  intro p
  induction p with
  | nil =>
    intro q hl _ _ a
    have : q = [] := List.eq_nil_of_length_eq_zero hl.symm
    subst this
    simp [Op.bytesLess]
  | cons c p ih =>
    intro q hl hp hq a
    cases q with
    | nil => cases hl
    | cons d q =>
      have hl' : p.length = q.length := by simpa using hl
      simp only [List.all_cons, Bool.and_eq_true] at hp hq
      have hc : 48 ≤ c.toNat ∧ c.toNat ≤ 57 := by have := hp.1; unfold Num.dig at this; exact of_decide_eq_true this
      have hd : 48 ≤ d.toNat ∧ d.toNat ≤ 57 := by have := hq.1; unfold Num.dig at this; exact of_decide_eq_true this
      by_cases hcd : c = d
      · subst hcd
        obtain ⟨i1, i2⟩ := ih q hl' hp.2 hq.2 (Num.stp a c)
        rw [Num.val_cons, Num.val_cons]
        refine ⟨?_, ?_⟩
        · rw [← i1]
          have hcc : ¬ c < c := by rw [UInt8.lt_iff_toNat_lt]; omega
          simp [Op.bytesLess, hcc]
        · rw [← i2]; simp
      · rw [Num.val_cons, Num.val_cons]
        have hne : c.toNat ≠ d.toNat := fun h => hcd (UInt8.toNat_inj.1 h)
        have a1 := Num.val_lt p (Num.stp a c) hp.2
        have a2 := val_lo p (Num.stp a c) hp.2
        have b1 := Num.val_lt q (Num.stp a d) hq.2
        have b2 := val_lo q (Num.stp a d) hq.2
        rw [← hl'] at b1 b2
        have hbeq : (c == d) = false := by rw [beq_eq_false_iff_ne]; exact hcd
        rcases Nat.lt_or_ge c.toNat d.toNat with h | h
        · have h1 : Num.stp a c + 1 ≤ Num.stp a d := by rw [Num.stp_eq, Num.stp_eq]; omega
          have h2 := Nat.mul_le_mul_right (10 ^ p.length) h1
          have hv : Num.val (Num.stp a c) p < Num.val (Num.stp a d) q := by omega
          have hlt : c < d := by rw [UInt8.lt_iff_toNat_lt]; exact h
          refine ⟨⟨fun _ => hv, fun _ => by simp [Op.bytesLess, hlt]⟩, ⟨fun h => by injection h with h3 _; exact absurd h3 hcd, fun h => by omega⟩⟩
        · have h1 : Num.stp a d + 1 ≤ Num.stp a c := by rw [Num.stp_eq, Num.stp_eq]; omega
          have h2 := Nat.mul_le_mul_right (10 ^ p.length) h1
          have hv : Num.val (Num.stp a d) q < Num.val (Num.stp a c) p := by omega
          have hlt : ¬ c < d := by rw [UInt8.lt_iff_toNat_lt]; omega
          refine ⟨⟨fun h => by simp [Op.bytesLess, hlt, hbeq] at h, fun h => by omega⟩, ⟨fun h => by injection h with h3 _; exact absurd h3 hcd, fun h => by omega⟩⟩
theorem less_app : ∀ (p q x y : List UInt8), p.length = q.length → Op.bytesLess (p ++ x) (q ++ y) = (Op.bytesLess p q || (p == q && Op.bytesLess x y)) := by
  intro p
  induction p with
  | nil =>
    intro q x y hl
    have : q = [] := List.eq_nil_of_length_eq_zero hl.symm
    subst this
    simp [Op.bytesLess]
  | cons c p ih =>
    intro q x y hl
    cases q with
    | nil => cases hl
    | cons d q =>
      have hl' : p.length = q.length := by simpa using hl
      simp only [List.cons_append, Op.bytesLess, ih q x y hl']
      by_cases h1 : c < d
      · simp [h1]
      · by_cases h2 : c = d
        · subst h2; simp [h1]
        · have hbd : (c == d) = false := by rw [beq_eq_false_iff_ne]; exact h2
          simp [h1, hbd]
theorem less_same (c : UInt8) (x y : List UInt8) : Op.bytesLess (c :: x) (c :: y) = Op.bytesLess x y := by
  have hcc : ¬ c < c := by rw [UInt8.lt_iff_toNat_lt]; omega
  simp [Op.bytesLess, hcc]
/-- Two numbers of so many digits, and something behind each. -/
theorem less_dg {k : Nat} {a b : Int} (x y : List UInt8) (ha : 0 ≤ a) (hb : 0 ≤ b) (la : (Tx.dg k a).length = k) (lb : (Tx.dg k b).length = k) :
    (Op.bytesLess (Tx.dg k a ++ x) (Tx.dg k b ++ y) = true ↔ a < b ∨ a = b ∧ Op.bytesLess x y = true) := by
  obtain ⟨h1, h2⟩ := less_digits (Tx.dg k a) (Tx.dg k b) (by rw [la, lb]) (Tx.dg_dig k a ha) (Tx.dg_dig k b hb) 0
  have va := Tx.dg_val k a ha
  have vb := Tx.dg_val k b hb
  rw [less_app _ _ _ _ (by rw [la, lb]), Bool.or_eq_true, Bool.and_eq_true, beq_iff_eq, h1, h2]
  constructor
  · rintro (h | ⟨h, e⟩)
    · left; omega
    · right; exact ⟨by omega, e⟩
  · rintro (h | ⟨h, e⟩)
    · left; omega
    · right; exact ⟨by omega, e⟩
def Lt6 (y m d h i s y' m' d' h' i' s' : Int) : Prop := y < y' ∨ y = y' ∧ (m < m' ∨ m = m' ∧ (d < d' ∨ d = d' ∧ (h < h' ∨ h = h' ∧ (i < i' ∨ i = i' ∧ s < s'))))
theorem less_txt {y m d h i s y' m' d' h' i' s' : Int} (hr : St.rB y m d h i s = true) (hr' : St.rB y' m' d' h' i' s' = true) (y0 : 0 ≤ y) (y1 : y ≤ 9999) (z0 : 0 ≤ y') (z1 : y' ≤ 9999) :
    Op.bytesLess (Tx.txt y m d h i s) (Tx.txt y' m' d' h' i' s') = true ↔ Lt6 y m d h i s y' m' d' h' i' s' := by
  obtain ⟨hR, h0, h1, i0, i1, s0, s1⟩ := St.rB_true.1 hr
  have R := right_true.1 hR
  have hm := Cal.month_of R
  have hd := Cal.len_bd y m
  obtain ⟨_, _, d0, d1⟩ := of_decide_eq_true (by unfold rightB at hR; exact hR)
  obtain ⟨hR', h0', h1', i0', i1', s0', s1'⟩ := St.rB_true.1 hr'
  have R' := right_true.1 hR'
  have hm' := Cal.month_of R'
  have hd' := Cal.len_bd y' m'
  obtain ⟨_, _, d0', d1'⟩ := of_decide_eq_true (by unfold rightB at hR'; exact hR')
  have four : ∀ n : Int, 0 ≤ n → n ≤ 9999 → (Tx.dg 4 n).length = 4 := fun n a b => by
    have := Tx.dg_ge 4 n
    have := Tx.dg_le 4 3 n a (by omega) (by omega)
    omega
  unfold Tx.txt Tx.yr Tx.beh Lt6
  rw [if_neg (by omega), if_neg (by omega)]
  rw [less_dg _ _ y0 z0 (four _ y0 y1) (four _ z0 z1), less_same]
  rw [less_dg _ _ (by omega) (by omega) (Tx.dg_two (by omega) (by omega)) (Tx.dg_two (by omega) (by omega)), less_same]
  rw [less_dg _ _ (by omega) (by omega) (Tx.dg_two (by omega) (by omega)) (Tx.dg_two (by omega) (by omega)), less_same]
  rw [less_dg _ _ (by omega) (by omega) (Tx.dg_two (by omega) (by omega)) (Tx.dg_two (by omega) (by omega)), less_same]
  rw [less_dg _ _ (by omega) (by omega) (Tx.dg_two (by omega) (by omega)) (Tx.dg_two (by omega) (by omega)), less_same]
  have e := less_dg (k := 2) [] [] s0 s0' (Tx.dg_two s0 (by omega)) (Tx.dg_two s0' (by omega))
  rw [List.append_nil, List.append_nil] at e
  rw [e]
  simp [Op.bytesLess]
theorem sec_lt {y m d h i s y' m' d' h' i' s' : Int} (hr : St.rB y m d h i s = true) (hr' : St.rB y' m' d' h' i' s' = true) : Lt6 y m d h i s y' m' d' h' i' s' ↔ St.sec y m d h i s < St.sec y' m' d' h' i' s' := by
  obtain ⟨hR, h0, h1, i0, i1, s0, s1⟩ := St.rB_true.1 hr
  have R := right_true.1 hR
  obtain ⟨hR', h0', h1', i0', i1', s0', s1'⟩ := St.rB_true.1 hr'
  have R' := right_true.1 hR'
  unfold St.sec Lt6
  rcases Cal.lt_or (y := y) (m := m) (d := d) (y' := y') (m' := m') (d' := d') with h | ⟨rfl, rfl, rfl⟩ | h
  · have := Cal.num_lt R R' h
    unfold Cal.Lt at h
    constructor
    · intro _; omega
    · intro _; omega
  · constructor
    · intro h; omega
    · intro h; omega
  · have := Cal.num_lt R' R h
    unfold Cal.Lt at h
    constructor
    · intro h2; omega
    · intro h2; omega
end So
end Go.Proofs.YtldpchkapcnfbaaDoor
