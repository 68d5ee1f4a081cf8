/- Parts: what is merged has as long a total, but for what is rounded. -/
import Derived.Test.YtckcmhnhmobadaaMnH
import Derived.Test.YtckcmhnhmobadaaMnI
set_option linter.unusedVariables false
set_option linter.unusedSimpArgs false
namespace Go.Proofs.Ytckcmhnhmobadaa
open Go.RowKit Go.Sort

namespace Fl
open Ieee
theorem neg_rg (d : Nat) : rg (Op.negFloat .f64 d) = rg d := by
  unfold rg Op.negFloat
  rw [show (9223372036854775808 : Nat) = 2 ^ 63 by decide, show (FloatKind.f64.format.exponentBits + FloatKind.f64.format.fractionBits) = 63 by decide, Nat.xor_mod_two_pow]
  simp
theorem neg_ng (d : Nat) : ng (Op.negFloat .f64 d) = !ng d := by
  unfold ng Op.negFloat
  rw [show (9223372036854775808 : Nat) = 2 ^ 63 by decide, show (FloatKind.f64.format.exponentBits + FloatKind.f64.format.fractionBits) = 63 by decide, Nat.xor_div_two_pow]
  have e : ∀ a : Nat, (a ^^^ 1) % 2 = (a % 2) ^^^ 1 := fun a => Nat.xor_mod_two_pow (n := 1)
  rw [show (2 : Nat) ^ 63 / 2 ^ 63 = 1 by decide, e]
  rcases Nat.mod_two_eq_zero_or_one (d / 2 ^ 63) with h | h <;> rw [h] <;> decide
theorem neg_V {d : Nat} (h : fin d) : fin (Op.negFloat .f64 d) ∧ V (Op.negFloat .f64 d) = -V d := by
  unfold fin V
  rw [neg_rg, neg_ng]
  refine ⟨h, ?_⟩
  cases ng d <;> simp
/-- Not above, as it is asked. -/
theorem ord_le {x y : Nat} (hx : fin x) (hy : fin y) (h : V x ≤ V y) : FloatKind.f64.format.order x y = some Ordering.lt ∨ FloatKind.f64.format.order x y = some Ordering.eq := by
  show double.order x y = some Ordering.lt ∨ double.order x y = some Ordering.eq
  rw [order_fin hx hy]
  rcases Int.lt_or_eq_of_le h with g | g
  · left; rw [cmp_lt.2 g]
  · right; rw [cmp_eq.2 g]
end Fl
namespace Mn
open Fl
/-- Does a part have a length that its bits tell? -/
def Ln (p : P) : Prop := wl p.1 p.2.1 = p.2.1 - p.1 ∧ 1 ≤ p.2.1 - p.1 ∧ p.2.1 - p.1 ≤ 18446744073709551615
theorem tl_cons (p : P) (l : List P) : tl (p :: l) = (p.2.1 - p.1) + tl l := rfl
theorem tl_bd (l : List P) (h : ∀ p ∈ l, Ln p) : (l.length : Int) ≤ tl l ∧ tl l ≤ l.length * 18446744073709551615 ∧ ∀ p ∈ l, p.2.1 - p.1 ≤ tl l := by
  induction l with
  | nil => exact ⟨Int.le_refl _, Int.le_refl _, fun p hp => absurd hp (by simp)⟩
  | cons p l ih =>
    obtain ⟨a, b, c⟩ := ih fun q hq => h q (List.mem_cons_of_mem _ hq)
    obtain ⟨_, d, e⟩ := h p (List.mem_cons_self ..)
    rw [tl_cons]
    have hl : ((p :: l).length : Int) = l.length + 1 := by rw [List.length_cons]; push_cast; rfl
    refine ⟨by omega, by omega, fun q hq => ?_⟩
    rcases List.mem_cons.1 hq with rfl | hq
    · omega
    · have := c q hq; omega
def lx (l : List P) : List (Nat × Int) := l.map fun p => (lw p, (p.2.1 - p.1) * (Fl.U : Int))
theorem lx_fst (l : List P) : (lx l).map (fun p => p.1) = lens l := by unfold lx lens; rw [List.map_map]; rfl
theorem lx_sum (l : List P) (h : ∀ p ∈ l, Ln p) : sm (lx l) = tl l * (U : Int) ∧ ab (lx l) = tl l * (U : Int) := by
  induction l with
  | nil => exact ⟨by show (0 : Int) = 0 * _; rw [Int.zero_mul], by show (0 : Int) = 0 * _; rw [Int.zero_mul]⟩
  | cons p l ih =>
    obtain ⟨a, b⟩ := ih fun q hq => h q (List.mem_cons_of_mem _ hq)
    obtain ⟨_, d, e⟩ := h p (List.mem_cons_self ..)
    rw [show lx (p :: l) = (lw p, (p.2.1 - p.1) * (Fl.U : Int)) :: lx l from rfl, sm_cons, ab_cons, a, b, tl_cons, Int.add_mul]
    have : 0 ≤ (p.2.1 - p.1) * (U : Int) := Int.mul_nonneg (by omega) (by omega)
    refine ⟨rfl, ?_⟩
    show (((p.2.1 - p.1) * (U : Int)).natAbs : Int) + _ = _
    omega
/-- The total of some that count, in steps of a scale. -/
theorem len_wi (e : Nat) (he : e ≤ 1900) (Y : Int) (hY : ((2 ^ e : Nat) : Int) = Y) (l : List P) (h : ∀ p ∈ l, Ln p) (h0 : l ≠ []) (hl : l.length ≤ 60) (hb : tl l * (U : Int) ≤ 4503599627370496 * Y) : Wi (csum (lens l)) (tl l * (U : Int)) (121 * Y) := by
  obtain ⟨a, b⟩ := lx_sum l h
  obtain ⟨t0, t1, t2⟩ := tl_bd l h
  have hY0 : 0 < Y := by have := two_pos e; omega
  have := csum_wi e he Y hY (lx l) (by unfold lx; simpa using h0) (by unfold lx; simpa using hl) ?_ (by rw [b]; exact hb)
  · rw [lx_fst, a] at this; exact this
  · intro p hp
    unfold lx at hp
    obtain ⟨q, hq, rfl⟩ := List.mem_map.1 hp
    obtain ⟨u, v, z⟩ := h q hq
    have hm : (q.2.1 - q.1) * (U : Int) ≤ tl l * (U : Int) := Int.mul_le_mul_of_nonneg_right (t2 q hq) (by omega)
    have := near_wi e he (q.2.1 - q.1) (by rw [hY, show ((q.2.1 - q.1).natAbs : Int) = q.2.1 - q.1 by omega]; omega)
    rw [hY] at this
    show Wi (lw q) _ _
    unfold lw
    rw [u]; exact this
theorem U_big : 2251799813685248 ≤ U ∧ 1393796574908163946345982392040522594123776 * U < 2 ^ tp := by
  constructor
  · have : 2 ^ 51 ≤ 2 ^ ue := pow_le (by decide)
    rw [show (2 : Nat) ^ 51 = 2251799813685248 by decide] at this; exact this
  · have hU : (2 : Nat) ^ ue = U := rfl
    have h70 : (2 : Nat) ^ 140 = 1393796574908163946345982392040522594123776 := by decide
    have e1 : (2 : Nat) ^ (140 + ue) = 1393796574908163946345982392040522594123776 * U := by rw [pow_split, hU, h70]
    rw [← e1]; exact Nat.pow_lt_pow_right (by omega) (by have := Fl.ue_eq; have := Fl.tp_eq; omega)
/-- A scale for a total. -/
theorem tl_scale (l : List P) (h : ∀ p ∈ l, Ln p) (h0 : l ≠ []) (hl : l.length ≤ 60) : ∃ e, e ≤ 1900 ∧ 2251799813685248 * ((2 ^ e : Nat) : Int) ≤ tl l * (U : Int) ∧ tl l * (U : Int) < 4503599627370496 * ((2 ^ e : Nat) : Int) := by
  obtain ⟨t0, t1, t2⟩ := tl_bd l h
  have : 0 < l.length := List.length_pos_iff.2 h0
  obtain ⟨u0, u1⟩ := U_big
  have a : 1 * (U : Int) ≤ tl l * (U : Int) := Int.mul_le_mul_of_nonneg_right (by omega) (by omega)
  have b : tl l * (U : Int) ≤ 1180591620717411303424 * (U : Int) := Int.mul_le_mul_of_nonneg_right (by omega) (by omega)
  refine scale _ (by omega) ?_
  generalize 2 ^ tp = q at *
  omega
/-- Two totals that are as long: their difference is no more than a millionth. -/
theorem merged_near (l k : List P) (hl : ∀ p ∈ l, Ln p) (hk : ∀ p ∈ k, Ln p) (l0 : l ≠ []) (k0 : k ≠ []) (nl : l.length ≤ 60) (nk : k.length ≤ 60) (ht : tl l = tl k) :
    ∃ d t, floatBits .sub .f64 (csum (lens l)) (csum (lens k)) = some d ∧ floatBits .mul .f64 (csum (lens l)) mil = some t ∧ fin d ∧ fin t ∧ V d ≤ V t ∧ -V d ≤ V t := by
  obtain ⟨e, he, s0, s1⟩ := tl_scale l hl l0 nl
  obtain ⟨Y, hY⟩ : ∃ Y, ((2 ^ e : Nat) : Int) = Y := ⟨_, rfl⟩
  have hY0 : 0 < Y := by have := two_pos e; omega
  obtain ⟨fa, a1, a2⟩ := len_wi e he Y hY l hl l0 nl (by omega)
  obtain ⟨fb, b1, b2⟩ := len_wi e he Y hY k hk k0 nk (by rw [← ht]; omega)
  rw [← ht] at b1 b2
  rw [hY] at s0 s1
  obtain ⟨d, hd, fd, d1, d2⟩ := sub_grid e fa fb he (by rw [hY]; omega) (by rw [hY]; omega)
  obtain ⟨m0, m1, m2, m3⟩ := V_mil
  rw [hY] at d1 d2
  generalize tl l * (U : Int) = Z at *
  generalize csum (lens l) = a at *
  generalize csum (lens k) = b at *
  have hU : 0 < (U : Int) := by have := U_pos; omega
  have hva : 0 ≤ V a := by omega
  have p1 : 1048576 * (V a * V mil) = V a * (1048576 * V mil) := by rw [Int.mul_left_comm]
  have p2 : V a * (U : Int) ≤ V a * (1048576 * V mil) := Int.mul_le_mul_of_nonneg_left m1 hva
  have p3 : V a * (524288 * V mil) ≤ V a * (U : Int) := Int.mul_le_mul_of_nonneg_left m2 hva
  have p4 : 524288 * (V a * V mil) = V a * (524288 * V mil) := by rw [Int.mul_left_comm]
  have p5 : V a * (U : Int) ≤ (4503599627370617 * Y) * (U : Int) := Int.mul_le_mul_of_nonneg_right (by omega) (by omega)
  have p6 : (2251799813685127 * Y) * (U : Int) ≤ V a * (U : Int) := Int.mul_le_mul_of_nonneg_right (by omega) (by omega)
  have p7 : 0 < Y * (U : Int) := Int.mul_pos hY0 hU
  obtain ⟨t, hmt, ft, t1, t2⟩ := mul_grid (x := a) (y := mil) e fa fin_mil m3 he (by rw [hY]; rw [Int.mul_assoc] at p5 p6 ⊢; omega) (by rw [hY]; rw [Int.mul_assoc] at p5 p6 ⊢; omega)
  refine ⟨d, t, hd, hmt, fd, ft, ?_⟩
  have key : 1000 * Y ≤ V t := by
    refine Int.le_of_mul_le_mul_right ?_ hU
    rw [hY] at t1 t2
    rw [Int.mul_assoc] at p5 p6 ⊢
    omega
  constructor <;> omega
/-- Two totals of the same that counts, as they are asked for. -/
theorem merged_fin (s0 s1 : Int) (l k : List P) (hE : Ev (cnt s0 s1 l) (cnt s0 s1 k)) (hl : ∀ p ∈ cnt s0 s1 l, Ln p) (hk : ∀ p ∈ cnt s0 s1 k, Ln p) (nl : l.length ≤ 60) (nk : k.length ≤ 60) (a b : Nat) (ha : Eqv a (csum (lens (cnt s0 s1 l)))) (hb : Eqv b (csum (lens (cnt s0 s1 k)))) :
    ∃ t, floatBits .mul .f64 a mil = some t ∧ ∀ d, FOp .sub a b d → fin d ∧ fin t ∧ V d ≤ V t ∧ -V d ≤ V t := by
  have he : (cnt s0 s1 l).isEmpty = (cnt s0 s1 k).isEmpty := by
    have := ends_is (cnt s0 s1 l)
    have h2 := ends_is (cnt s0 s1 k)
    have h3 : ends (cnt s0 s1 l) = ends (cnt s0 s1 k) := hE.1 _
    rw [h3, h2] at this
    simpa using this.symm
  have num : ∀ {x c : Nat}, Eqv x c → fin c → x = c := by
    intro x c h hf
    rcases h.2 with e | ⟨_, e⟩
    · exact e
    · have := nan_true.1 e; unfold fin at hf; omega
  have cl := Nat.le_trans (cnt_len s0 s1 l) nl
  have ck := Nat.le_trans (cnt_len s0 s1 k) nk
  by_cases h0 : cnt s0 s1 l = []
  · have k0 : cnt s0 s1 k = [] := by rw [h0] at he; exact List.isEmpty_iff.1 he.symm
    rw [h0] at ha
    rw [k0] at hb
    have f0 : fin 0 := by unfold fin; decide
    have c0 : csum (lens ([] : List P)) = 0 := rfl
    rw [c0] at ha hb
    have a0 : a = 0 := num ha f0
    have b0 : b = 0 := num hb f0
    subst a0 b0
    refine ⟨0, by decide +kernel, fun d hd => ?_⟩
    obtain rfl : d = 0 := hd.eq (v := 0) (by decide +kernel)
    have v0 : V 0 = 0 := by decide +kernel
    exact ⟨f0, f0, by rw [v0]; exact Int.le_refl _, by rw [v0]; exact Int.le_refl _⟩
  · have k0 : cnt s0 s1 k ≠ [] := by intro e; rw [e] at he; exact h0 (List.isEmpty_iff.1 he)
    obtain ⟨e, h1, s0', s1'⟩ := tl_scale _ hl h0 cl
    obtain ⟨fa, _⟩ := len_wi e h1 _ rfl _ hl h0 cl (Int.le_of_lt s1')
    obtain ⟨fb, _⟩ := len_wi e h1 _ rfl _ hk k0 ck (by rw [← hE.2]; exact Int.le_of_lt s1')
    obtain ⟨d', t, g1, g2, g3, g4, g5, g6⟩ := merged_near _ _ hl hk h0 k0 cl ck hE.2
    rw [num ha fa, num hb fb]
    refine ⟨t, g2, fun d hd => ?_⟩
    obtain rfl := hd.eq g1
    exact ⟨g3, g4, g5, g6⟩
end Mn
end Go.Proofs.Ytckcmhnhmobadaa
