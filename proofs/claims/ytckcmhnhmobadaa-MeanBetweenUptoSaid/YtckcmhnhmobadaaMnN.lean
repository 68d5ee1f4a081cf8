/- Parts: the mean lies between the least and the greatest: the numbers. -/
import Derived.Test.YtckcmhnhmobadaaMnK
import Derived.Test.YtckcmhnhmobadaaJulM
set_option linter.unusedVariables false
set_option linter.unusedSimpArgs false
namespace Go.Proofs.Ytckcmhnhmobadaa
open Go.RowKit Go.Sort

namespace Mn
open Fl
def px (l : List P) : List (Nat × Int) := l.map fun p => (pw p, p.2.2 * (p.2.1 - p.1) * (Fl.U : Int))
theorem px_fst (l : List P) : (px l).map (fun p => p.1) = prods l := by unfold px prods; rw [List.map_map]; rfl
def qs (l : List P) : Int := (l.map fun p => p.2.2 * (p.2.1 - p.1)).sum
theorem px_sum (l : List P) : sm (px l) = qs l * (U : Int) := by
  induction l with
  | nil => show (0 : Int) = 0 * _; rw [Int.zero_mul]
  | cons p l ih =>
    rw [show px (p :: l) = (pw p, p.2.2 * (p.2.1 - p.1) * (Fl.U : Int)) :: px l from rfl, sm_cons, ih, show qs (p :: l) = p.2.2 * (p.2.1 - p.1) + qs l from rfl, Int.add_mul]
theorem px_ab (l : List P) (h : ∀ p ∈ l, Ln p) (B : Int) (hB : ∀ p ∈ l, -B ≤ p.2.2 ∧ p.2.2 ≤ B) : ab (px l) ≤ B * tl l * (U : Int) := by
  induction l with
  | nil => show (0 : Int) ≤ B * 0 * _; rw [Int.mul_zero, Int.zero_mul]; exact Int.le_refl _
  | cons p l ih =>
    have a := ih (fun q hq => h q (List.mem_cons_of_mem _ hq)) (fun q hq => hB q (List.mem_cons_of_mem _ hq))
    obtain ⟨_, d, e⟩ := h p (List.mem_cons_self ..)
    obtain ⟨b0, b1⟩ := hB p (List.mem_cons_self ..)
    rw [show px (p :: l) = (pw p, p.2.2 * (p.2.1 - p.1) * (Fl.U : Int)) :: px l from rfl, ab_cons, tl_cons, Int.mul_add, Int.add_mul]
    obtain ⟨m0, m1⟩ := mul_bd (x := p.2.2) (y := p.2.1 - p.1) (X := B) (Y := p.2.1 - p.1) b0 b1 (by omega) (by omega)
    obtain ⟨n0, n1⟩ := mul_bd (x := p.2.2 * (p.2.1 - p.1)) (y := (U : Int)) (X := B * (p.2.1 - p.1)) (Y := (U : Int)) m0 m1 (by omega) (by omega)
    show ((p.2.2 * (p.2.1 - p.1) * (U : Int)).natAbs : Int) + _ ≤ _
    omega
theorem qs_bd (l : List P) (h : ∀ p ∈ l, Ln p) (lo hi : Int) (hv : ∀ p ∈ l, lo ≤ p.2.2 ∧ p.2.2 ≤ hi) : lo * tl l ≤ qs l ∧ qs l ≤ hi * tl l := by
  induction l with
  | nil => exact ⟨by show lo * 0 ≤ 0; omega, by show 0 ≤ hi * 0; omega⟩
  | cons p l ih =>
    obtain ⟨a, b⟩ := ih (fun q hq => h q (List.mem_cons_of_mem _ hq)) (fun q hq => hv q (List.mem_cons_of_mem _ hq))
    obtain ⟨_, d, e⟩ := h p (List.mem_cons_self ..)
    obtain ⟨b0, b1⟩ := hv p (List.mem_cons_self ..)
    rw [show qs (p :: l) = p.2.2 * (p.2.1 - p.1) + qs l from rfl, tl_cons, Int.mul_add, Int.mul_add]
    have m0 : lo * (p.2.1 - p.1) ≤ p.2.2 * (p.2.1 - p.1) := Int.mul_le_mul_of_nonneg_right b0 (by omega)
    have m1 : p.2.2 * (p.2.1 - p.1) ≤ hi * (p.2.1 - p.1) := Int.mul_le_mul_of_nonneg_right b1 (by omega)
    omega
/-- The two millionths, the mean between. -/
theorem between_fin (l : List P) (hl : ∀ p ∈ l, Ln p) (l0 : l ≠ []) (nl : l.length ≤ 60) (lo hi : Int) (hv : ∀ p ∈ l, lo ≤ p.2.2 ∧ p.2.2 ≤ hi) (b0 : -9223372036854775808 ≤ lo) (b1 : hi ≤ 9223372036854775807) (hle : lo ≤ hi) :
    ∃ m mx s1 sl xl xh, floatBits .quo .f64 (csum (prods l)) (csum (lens l)) = some m ∧
      (∀ (ts : Array TypeId) (t : TypeId) (P : Program) (w : World), (Builtin.max_ ts t #[.float .f64 (FloatKind.f64.nearest hi), .float .f64 (Op.negFloat .f64 (FloatKind.f64.nearest lo)), .float .f64 13830554455654793216]).run P w = .ok (.float .f64 mx) w) ∧
      floatBits .add .f64 4607182418800017408 mx = some s1 ∧ floatBits .mul .f64 4517329193108106637 s1 = some sl ∧ floatBits .sub .f64 (FloatKind.f64.nearest lo) sl = some xl ∧ floatBits .add .f64 (FloatKind.f64.nearest hi) sl = some xh ∧
      fin m ∧ fin xl ∧ fin xh ∧ V xl ≤ V m ∧ V m ≤ V xh := by
  have hU : 0 < (U : Int) := by have := U_pos; omega
  obtain ⟨u0, u1⟩ := U_big
  obtain ⟨t0, t1, t2⟩ := tl_bd l hl
  have hlen : 0 < l.length := List.length_pos_iff.2 l0
  obtain ⟨S, hS⟩ : ∃ S, tl l = S := ⟨_, rfl⟩
  obtain ⟨M, hM⟩ : ∃ M : Int, M = max hi (-lo) := ⟨_, rfl⟩
  obtain ⟨B, hB⟩ : ∃ B : Int, B = 1 + M := ⟨_, rfl⟩
  have q0 : 0 ≤ M := by omega
  have hvB : ∀ p ∈ l, -B ≤ p.2.2 ∧ p.2.2 ≤ B := fun p hp => by have := hv p hp; omega
  obtain ⟨q1, q2⟩ := qs_bd l hl lo hi hv
  have qab := px_ab l hl B hvB
  rw [hS] at q1 q2 qab
  have hS1 : 1 ≤ S := by omega
  have hS2 : S ≤ 18446744073709551616 * 60 := by omega
  have hB1 : 1 ≤ B := by omega
  have hB2 : B ≤ 9223372036854775809 := by omega
  -- scales
  have z1 : 1 * (U : Int) ≤ B * (U : Int) := Int.mul_le_mul_of_nonneg_right hB1 (by omega)
  have z2 : B * (U : Int) ≤ 9223372036854775809 * (U : Int) := Int.mul_le_mul_of_nonneg_right hB2 (by omega)
  have z3 : 1 * (U : Int) ≤ S * (U : Int) := Int.mul_le_mul_of_nonneg_right hS1 (by omega)
  have z4 : S * (U : Int) ≤ (18446744073709551616 * 60) * (U : Int) := Int.mul_le_mul_of_nonneg_right hS2 (by omega)
  have z5 : 1 * 1 ≤ B * S := Int.mul_le_mul hB1 hS1 (by omega) (by omega)
  have z6 : B * S ≤ 9223372036854775809 * (18446744073709551616 * 60) := Int.mul_le_mul hB2 hS2 (by omega) (by omega)
  have z7 : 1 * 1 * (U : Int) ≤ B * S * (U : Int) := Int.mul_le_mul_of_nonneg_right z5 (by omega)
  have z8 : B * S * (U : Int) ≤ (9223372036854775809 * (18446744073709551616 * 60)) * (U : Int) := Int.mul_le_mul_of_nonneg_right z6 (by omega)
  obtain ⟨e1, he1, w0, w1⟩ := scale2 (B * (U : Int)) (by omega) (by generalize 2 ^ tp = q at *; omega)
  obtain ⟨e2, he2, w2, w3⟩ := scale2 (S * (U : Int)) (by omega) (by generalize 2 ^ tp = q at *; omega)
  obtain ⟨e3, he3, w4, w5⟩ := scale2 (B * S * (U : Int)) (by omega) (by generalize 2 ^ tp = q at *; omega)
  obtain ⟨Y1, hY1⟩ : ∃ Y, ((2 ^ e1 : Nat) : Int) = Y := ⟨_, rfl⟩
  obtain ⟨Y2, hY2⟩ : ∃ Y, ((2 ^ e2 : Nat) : Int) = Y := ⟨_, rfl⟩
  obtain ⟨Y3, hY3⟩ : ∃ Y, ((2 ^ e3 : Nat) : Int) = Y := ⟨_, rfl⟩
  have p1 : 0 < Y1 := by have := two_pos e1; omega
  have p2 : 0 < Y2 := by have := two_pos e2; omega
  have p3 : 0 < Y3 := by have := two_pos e3; omega
  have hY3' : ((2 ^ (e3 + 4) : Nat) : Int) = 16 * Y3 := by rw [pow_split, show (2 : Nat) ^ 4 = 16 by decide]; omega
  have hY1' : ((2 ^ (e1 + 1) : Nat) : Int) = 2 * Y1 := by rw [pow_split, show (2 : Nat) ^ 1 = 2 by decide]; omega
  rw [hY1] at w0 w1
  rw [hY2] at w2 w3
  rw [hY3] at w4 w5
  -- the products of the scales
  have pp : B * (U : Int) * (S * (U : Int)) = B * S * (U : Int) * (U : Int) := by rw [Int.mul_assoc B, Int.mul_left_comm (U : Int), ← Int.mul_assoc B, Int.mul_assoc (B * S)]
  have r0 : (2251799813685248 * Y1) * (2251799813685248 * Y2) ≤ B * (U : Int) * (S * (U : Int)) := Int.mul_le_mul w0 w2 (by omega) (by omega)
  have r1 : B * (U : Int) * (S * (U : Int)) ≤ (4503599627370496 * Y1) * (4503599627370496 * Y2) := Int.mul_le_mul (Int.le_of_lt w1) (Int.le_of_lt w3) (by omega) (by omega)
  have r2 : (2251799813685248 * Y3) * (U : Int) ≤ B * S * (U : Int) * (U : Int) := Int.mul_le_mul_of_nonneg_right w4 (by omega)
  have r3 : B * S * (U : Int) * (U : Int) ≤ (4503599627370496 * Y3) * (U : Int) := Int.mul_le_mul_of_nonneg_right (Int.le_of_lt w5) (by omega)
  rw [pp] at r0 r1
  have k0 : (2251799813685248 * Y1) * (2251799813685248 * Y2) = 5070602400912917605986812821504 * (Y1 * Y2) := by rw [Int.mul_assoc, Int.mul_left_comm Y1]; omega
  have k1 : (4503599627370496 * Y1) * (4503599627370496 * Y2) = 20282409603651670423947251286016 * (Y1 * Y2) := by rw [Int.mul_assoc, Int.mul_left_comm Y1]; omega
  rw [k0] at r0
  rw [k1] at r1
  rw [Int.mul_assoc] at r2
  rw [Int.mul_assoc 4503599627370496] at r3
  -- the total
  have hT := len_wi e2 (by omega) Y2 hY2 l hl l0 nl (by rw [hS]; omega)
  rw [hS] at hT
  have hTg : ng (csum (lens l)) = false := ng_V.2 (by have := hT.2.2; omega)
  -- the products
  have hx : ∀ p ∈ px l, Wi p.1 p.2 (16 * Y3) := by
    intro p hp
    unfold px at hp
    obtain ⟨q, hq, rfl⟩ := List.mem_map.1 hp
    obtain ⟨g1, g2, g3⟩ := hl q hq
    obtain ⟨v0, v1⟩ := hvB q hq
    have g4 := t2 q hq
    rw [hS] at g4
    obtain ⟨v, hvv⟩ : ∃ v, q.2.2 = v := ⟨_, rfl⟩
    obtain ⟨n, hn⟩ : ∃ n, q.2.1 - q.1 = n := ⟨_, rfl⟩
    show Wi (pw q) (q.2.2 * (q.2.1 - q.1) * (U : Int)) _
    unfold pw lw
    rw [g1, hvv, hn]
    rw [hvv] at v0 v1
    rw [hn] at g2 g3 g4
    obtain ⟨m0, m1⟩ := mul_bd (x := v) (y := (U : Int)) (X := B) (Y := (U : Int)) v0 v1 (by omega) (by omega)
    have m2 : n * (U : Int) ≤ S * (U : Int) := Int.mul_le_mul_of_nonneg_right g4 (by omega)
    have m3 : 0 ≤ n * (U : Int) := Int.mul_nonneg (by omega) (by omega)
    obtain ⟨m4, m5⟩ := mul_bd (x := v) (y := n) (X := B) (Y := S) v0 v1 (by omega) g4
    obtain ⟨m6, m7⟩ := mul_bd (x := v * n) (y := (U : Int)) (X := B * S) (Y := (U : Int)) m4 m5 (by omega) (by omega)
    obtain ⟨m8, m9⟩ := mul_bd (x := v * n * (U : Int)) (y := (U : Int)) (X := B * S * (U : Int)) (Y := (U : Int)) m6 m7 (by omega) (by omega)
    have av : (v.natAbs : Int) * (U : Int) ≤ B * (U : Int) := Int.mul_le_mul_of_nonneg_right (by omega) (by omega)
    have an : (n.natAbs : Int) * (U : Int) ≤ S * (U : Int) := Int.mul_le_mul_of_nonneg_right (by omega) (by omega)
    obtain ⟨fv, fv0, fv1⟩ := near_wi e1 (by omega) v (by rw [hY1]; omega)
    obtain ⟨fn, fn0, fn1⟩ := near_wi e2 (by omega) n (by rw [hY2]; omega)
    rw [hY1] at fv0 fv1
    rw [hY2] at fn0 fn1
    have hAC : v * (U : Int) * (n * (U : Int)) = v * n * (U : Int) * (U : Int) := by rw [Int.mul_assoc v, Int.mul_left_comm (U : Int), ← Int.mul_assoc v, Int.mul_assoc (v * n)]
    obtain ⟨r, hr, hw⟩ := prod_wi e3 (by omega) _ _ _ _ (v * (U : Int)) (n * (U : Int)) (v * n * (U : Int)) Y1 Y2 Y3 hY3 fv fn (near_ng (by omega)) rfl rfl fv0 fv1 fn0 fn1 p1 p2 m3 (by omega) (by omega) (by omega) (by omega) hAC (by omega) (by omega)
    unfold cop
    rw [hr]; exact hw
  have hP := csum_wi (e3 + 4) (by omega) (16 * Y3) hY3' (px l) (by unfold px; simpa using l0) (by unfold px; simpa using nl) hx (by omega)
  rw [px_fst, px_sum] at hP
  have hP' : Wi (csum (prods l)) (qs l * (U : Int)) (1936 * Y3) := ⟨hP.1, by have := hP.2.1; omega, by have := hP.2.2; omega⟩
  -- the bounds
  have hlo0 : -B * (U : Int) ≤ lo * (U : Int) := Int.mul_le_mul_of_nonneg_right (by omega) (by omega)
  have hlo1 : lo * (U : Int) ≤ B * (U : Int) := Int.mul_le_mul_of_nonneg_right (by omega) (by omega)
  have hhi0 : -B * (U : Int) ≤ hi * (U : Int) := Int.mul_le_mul_of_nonneg_right (by omega) (by omega)
  have hhi1 : hi * (U : Int) ≤ B * (U : Int) := Int.mul_le_mul_of_nonneg_right (by omega) (by omega)
  rw [Int.neg_mul] at hlo0 hhi0
  obtain ⟨m, hm, fm, m0, m1⟩ := quo_bd e1 (by omega) _ _ lo hi S (qs l) Y3 Y1 Y2 hY1 p1 p2 hT hP' hTg w2 (by omega) w3 (by omega) (by omega) (by omega) (by omega) q1 q2 (by omega)
  -- the slack
  have ahi : (hi.natAbs : Int) * (U : Int) ≤ B * (U : Int) := Int.mul_le_mul_of_nonneg_right (by omega) (by omega)
  have alo : (lo.natAbs : Int) * (U : Int) ≤ B * (U : Int) := Int.mul_le_mul_of_nonneg_right (by omega) (by omega)
  obtain ⟨fh, fh0, fh1⟩ := near_wi e1 (by omega) hi (by rw [hY1]; omega)
  obtain ⟨fl, fl0, fl1⟩ := near_wi e1 (by omega) lo (by rw [hY1]; omega)
  rw [hY1] at fh0 fh1 fl0 fl1
  obtain ⟨fn, vn⟩ := neg_V fl
  obtain ⟨f1, v1⟩ := V_int (n := 1) (by omega) (by omega)
  obtain ⟨f2, v2⟩ := V_int (n := -1) (by omega) (by omega)
  have c1 : FloatKind.f64.nearest 1 = 4607182418800017408 := by decide +kernel
  have c2 : FloatKind.f64.nearest (-1) = 13830554455654793216 := by decide +kernel
  rw [c1] at f1 v1
  rw [c2] at f2 v2
  obtain ⟨mx, hmx, fx, vx⟩ := max3_run fh fn f2
  rw [vn, v2] at vx
  have hMU : M * (U : Int) = max (hi * (U : Int)) (-(lo * (U : Int))) := by
    have a : hi * (U : Int) ≤ M * (U : Int) := Int.mul_le_mul_of_nonneg_right (by omega) (by omega)
    have b : -lo * (U : Int) ≤ M * (U : Int) := Int.mul_le_mul_of_nonneg_right (by omega) (by omega)
    rw [Int.neg_mul] at b
    have c : M = hi ∨ M = -lo := by omega
    rcases c with c | c
    · rw [c] at a b ⊢; omega
    · rw [c, Int.neg_mul] at a b ⊢; omega
  have hBU : B * (U : Int) = (U : Int) + M * (U : Int) := by rw [hB, Int.add_mul, Int.one_mul]
  have hM0 : 0 ≤ M * (U : Int) := Int.mul_nonneg q0 (by omega)
  rw [Int.one_mul] at v1
  obtain ⟨s1, hs1, fs1, s10, s11⟩ := add_grid (x := 4607182418800017408) (y := mx) e1 f1 fx (by omega) (by rw [hY1, v1, vx]; omega) (by rw [hY1, v1, vx]; omega)
  rw [hY1, v1, vx] at s10 s11
  have s1B : V s1 - B * (U : Int) ≤ 2 * Y1 ∧ B * (U : Int) - V s1 ≤ 2 * Y1 := by omega
  have hs1g : ng s1 = false := ng_V.2 (by omega)
  obtain ⟨i0, i1, i2, i3⟩ := V_mil
  have j1 : (U : Int) * V s1 ≤ (1048576 * V mil) * V s1 := Int.mul_le_mul_of_nonneg_right i1 (by omega)
  have j2 : (524288 * V mil) * V s1 ≤ (U : Int) * V s1 := Int.mul_le_mul_of_nonneg_right i2 (by omega)
  rw [Int.mul_assoc] at j1 j2
  have j3 : (U : Int) * V s1 ≤ (U : Int) * (4503599627370498 * Y1) := Int.mul_le_mul_of_nonneg_left (by omega) (by omega)
  have j4 : (U : Int) * (2251799813685246 * Y1) ≤ (U : Int) * V s1 := Int.mul_le_mul_of_nonneg_left (by omega) (by omega)
  rw [Int.mul_left_comm] at j3 j4
  have j5 : 9007199254740991 * Y1 * (U : Int) = 9007199254740991 * ((U : Int) * Y1) := by rw [Int.mul_assoc, Int.mul_comm Y1]
  have j6 : 0 < (U : Int) * Y1 := Int.mul_pos hU p1
  obtain ⟨sl, hsl, fsl, sl0, sl1⟩ := mul_grid (x := mil) (y := s1) e1 fin_mil fs1 hs1g (by omega) (by rw [hY1, j5]; omega) (by rw [hY1, j5]; omega)
  rw [hY1] at sl0 sl1
  have slb : 1073741824 * Y1 ≤ V sl := by
    refine Int.le_of_mul_le_mul_right (?_ : _ * (U : Int) ≤ _ * (U : Int)) hU
    rw [Int.mul_assoc, Int.mul_comm Y1] at *
    omega
  have slt : V sl ≤ 17179869184 * Y1 := by
    refine Int.le_of_mul_le_mul_right (?_ : _ * (U : Int) ≤ _ * (U : Int)) hU
    rw [Int.mul_assoc, Int.mul_comm Y1] at *
    omega
  obtain ⟨xl, hxl, fxl, xl0, xl1⟩ := sub_grid (x := FloatKind.f64.nearest lo) (y := sl) (e1 + 1) fl fsl (by omega) (by rw [hY1']; omega) (by rw [hY1']; omega)
  obtain ⟨xh, hxh, fxh, xh0, xh1⟩ := add_grid (x := FloatKind.f64.nearest hi) (y := sl) (e1 + 1) fh fsl (by omega) (by rw [hY1']; omega) (by rw [hY1']; omega)
  rw [hY1'] at xl0 xl1 xh0 xh1
  exact ⟨m, mx, s1, sl, xl, xh, hm, hmx, hs1, hsl, hxl, hxh, fm, fxl, fxh, by omega, by omega⟩
end Mn
end Go.Proofs.Ytckcmhnhmobadaa
