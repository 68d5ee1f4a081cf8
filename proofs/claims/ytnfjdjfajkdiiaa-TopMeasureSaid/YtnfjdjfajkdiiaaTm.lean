/- Joined: TmN, TmP, TmC. -/
import Derived.Test.YtnfjdjfajkdiiaaFlW
import Derived.Test.YtnfjdjfajkdiiaaMnE01
import Derived.Test.YtnfjdjfajkdiiaaJulOM
import Derived.Test.YtnfjdjfajkdiiaaSsP
import Derived.Test.YtnfjdjfajkdiiaaSsFH
import Derived.Test.YtnfjdjfajkdiiaaSsD
set_option linter.unusedVariables false
set_option linter.unusedSimpArgs false
namespace Go.Proofs.Ytnfjdjfajkdiiaa
section
open Go.RowKit Go.Sort

namespace Fl
open Ieee
/-- The word of a whole number that is not below nought. -/
theorem near_pos {n : Int} (h0 : 0 ≤ n) (h1 : n ≤ 9007199254740992) : ∃ z, FloatKind.f64.nearest n = z ∧ z < inf ∧ val z = n.natAbs * U ∧ rg z = z ∧ ng z = false ∧ fin z ∧ V z = n * (U : Int) := by
  obtain ⟨r, hr, ri, rv⟩ := int_exact n (by omega) h1
  rw [decide_eq_false (by omega : ¬ n < 0)] at hr
  have e : wd false r = r := rfl
  rw [e] at hr
  have g1 := rg_wd (s := false) (rung_small ri)
  have g2 := ng_wd (s := false) (rung_small ri)
  rw [e] at g1 g2
  refine ⟨r, hr, ri, rv, g1, g2, ?_, ?_⟩
  · unfold fin; rw [g1]; exact ri
  · unfold V; rw [g2, if_neg (by decide), g1, rv]
    rw [Int.natCast_mul]
    congr 1
    omega
/-- A finite word, not below nought, with a whole value, is that number's word. -/
theorem word_of {r : Nat} {n : Int} (hr : r < 18446744073709551616) (hg : ng r = false) (hv : V r = n * (U : Int)) (h0 : 0 ≤ n) (h1 : n ≤ 9007199254740992) : r = FloatKind.f64.nearest n := by
  obtain ⟨z, e, _, zv, zr, zg, _, zV⟩ := near_pos h0 h1
  rw [e]
  have e1 : r = rg r := by have := wd_rg hr; rw [hg] at this; exact this.symm
  have e2 : V r = (val (rg r) : Int) := by unfold V; rw [hg, if_neg (by decide)]
  have e3 : V z = (val z : Int) := by unfold V; rw [zg, if_neg (by decide), zr]
  rw [e1]
  refine val_inj ?_
  have : (val (rg r) : Int) = (val z : Int) := by rw [← e2, ← e3, hv, zV]
  exact_mod_cast this
theorem add_pos {s t : Int} (h0 : 0 ≤ s) (k0 : 0 ≤ t) (h : s + t ≤ 9007199254740992) : cop .add (FloatKind.f64.nearest s) (FloatKind.f64.nearest t) = FloatKind.f64.nearest (s + t) := by
  obtain ⟨x, ex, _, _, _, xg, xf, xV⟩ := near_pos h0 (by omega)
  obtain ⟨y, ey, _, _, _, yg, yf, yV⟩ := near_pos k0 (by omega)
  rw [ex, ey]
  by_cases hz : s + t = 0
  · have : s = 0 := by omega
    have : t = 0 := by omega
    subst s; subst t
    rw [← ex, ← ey]
    decide +kernel
  · obtain ⟨r, e, fr, vr⟩ := add_whole xf yf xV yV (by omega) h
    have ec : cop .add x y = r := by unfold cop; rw [e]; rfl
    rw [ec]
    have hU := U_pos
    have hp : 0 < V r := by rw [vr]; exact Int.mul_pos (by omega) (by omega)
    exact word_of (some_lt e) (ng_V.2 hp) vr (by omega) h
theorem fold_pos : ∀ (xs : List Int) (s : Int), 0 ≤ s → (∀ x ∈ xs, 0 ≤ x) → s + xs.sum ≤ 9007199254740992 →
    (xs.map FloatKind.f64.nearest).foldl (fun s y => cop .add s y) (FloatKind.f64.nearest s) = FloatKind.f64.nearest (s + xs.sum) := by
  intro xs
  induction xs with
  | nil => intro s _ _ _; simp
  | cons x xs ih =>
    intro s h0 hx h
    have hx0 := hx x (List.mem_cons_self ..)
    have hs : 0 ≤ xs.sum := by
      have : ∀ l : List Int, (∀ x ∈ l, 0 ≤ x) → 0 ≤ l.sum := by
        intro l
        induction l with
        | nil => intro _; simp
        | cons y l ih => intro h; rw [List.sum_cons]; have := h y (List.mem_cons_self ..); have := ih fun z hz => h z (List.mem_cons_of_mem _ hz); omega
      exact this xs fun y hy => hx y (List.mem_cons_of_mem _ hy)
    rw [List.sum_cons] at h
    rw [List.map_cons, List.foldl_cons, add_pos h0 hx0 (by omega), ih (s + x) (by omega) (fun y hy => hx y (List.mem_cons_of_mem _ hy)) (by omega), List.sum_cons, Int.add_assoc]
theorem csum_pos (xs : List Int) (hx : ∀ x ∈ xs, 0 ≤ x) (h : xs.sum ≤ 9007199254740992) : csum (xs.map FloatKind.f64.nearest) = FloatKind.f64.nearest xs.sum := by
  cases xs with
  | nil => show 0 = FloatKind.f64.nearest 0; decide +kernel
  | cons x xs =>
    rw [List.sum_cons] at h
    rw [List.sum_cons]
    exact fold_pos xs x (hx x (List.mem_cons_self ..)) (fun y hy => hx y (List.mem_cons_of_mem _ hy)) h
theorem mul_01 {v n : Int} (hv : v = 0 ∨ v = 1) (h0 : 0 ≤ n) (h1 : n ≤ 9007199254740992) : cop .mul (FloatKind.f64.nearest v) (FloatKind.f64.nearest n) = FloatKind.f64.nearest (v * n) := by
  obtain ⟨x, ex, _, xv, xr, xg, xf, xV⟩ := near_pos (n := v) (by omega) (by omega)
  obtain ⟨y, ey, _, yv, yr, yg, yf, yV⟩ := near_pos h0 h1
  obtain ⟨z, ez, zi, zv, zr, zg, zf, zV⟩ := near_pos (n := v * n) (by rcases hv with rfl | rfl <;> omega) (by rcases hv with rfl | rfl <;> omega)
  rw [ex, ey, ez]
  obtain ⟨R, hR, hn⟩ := mul_near xf yf
  rw [xr, yr, xv, yv] at hn
  have e : R = z := hn.exact (by
    rw [zv]
    rcases hv with rfl | rfl
    · simp
    · rw [show ((1 : Int)).natAbs = 1 from rfl, Nat.one_mul, Int.one_mul, Nat.mul_comm])
  subst e
  have : floatBits .mul .f64 x y = some R := by
    show double.mul x y = some R
    rw [hR, xg, yg, Nat.min_eq_left (Nat.le_of_lt zi)]; rfl
  unfold cop
  rw [this]; rfl
/-- A quotient of whole numbers, not below nought. -/
theorem quo_pos {t n : Int} (h0 : 0 ≤ t) (h1 : t ≤ n) (h2 : 1 ≤ n) (h3 : n ≤ 1125899906842624) : ∃ m, floatBits .quo .f64 (FloatKind.f64.nearest t) (FloatKind.f64.nearest n) = some m ∧ fin m ∧ (V m = 0 ↔ t = 0) := by
  obtain ⟨x, ex, _, xv, xr, xg, xf, xV⟩ := near_pos h0 (by omega)
  obtain ⟨y, ey, _, yv, yr, yg, yf, yV⟩ := near_pos (n := n) (by omega) (by omega)
  rw [ex, ey]
  have hU := U_pos
  have hy0 : 0 < val y := by rw [yv]; exact Nat.mul_pos (by omega) hU
  obtain ⟨R, hR, hn⟩ := div_near xf yf (by
    rw [yr]; intro e; rw [e, val_0] at hy0; omega)
  rw [xr, yr] at hn
  obtain ⟨o, eo, oi, ov, _, _, _, _⟩ := near_pos (n := 1) (by omega) (by omega)
  have hxy : val x ≤ val y := by rw [xv, yv]; exact Nat.mul_le_mul_right _ (by omega)
  have hRi : R < inf := near_fin hn oi (by rw [ov, show ((1 : Int)).natAbs = 1 from rfl, Nat.one_mul, Nat.mul_comm (val x)]; exact Nat.mul_le_mul_left _ hxy)
  have e : floatBits .quo .f64 x y = some R := by
    show double.div x y = some R
    rw [hR, xg, yg, Nat.min_eq_left (Nat.le_of_lt hRi)]; rfl
  have eR : wd false R = R := rfl
  refine ⟨R, e, ?_, ?_⟩
  · have := fin_wd (s := false) hRi; rwa [eR] at this
  · have eV : V R = (val R : Int) := by have := V_wd (s := false) (rung_small hRi); rw [eR] at this; simpa using this
    rw [eV]
    constructor
    · intro hv
      by_cases ht : t = 0
      · exact ht
      · exfalso
        -- one unit is not above the quotient
        have h4 : val 1 * val y ≤ val x * U := by
          rw [val_lo (by decide), Nat.one_mul, yv, xv, Nat.mul_assoc]
          have a : n.natAbs ≤ U := by
            have h50 : 2 ^ 50 ≤ U := pow_le (show 50 ≤ ue by rw [ue_eq]; omega)
            rw [show (2 : Nat) ^ 50 = 1125899906842624 by decide] at h50
            generalize U = q at *
            omega
          have b : 1 * (U * U) ≤ t.natAbs * (U * U) := Nat.mul_le_mul_right _ (by omega)
          have c : n.natAbs * U ≤ U * U := Nat.mul_le_mul_right _ a
          omega
        have := hn.lo 1 h4
        have h5 : val 0 < val R := val_lt.2 (by omega)
        rw [val_0] at h5
        omega
    · intro ht
      subst ht
      have hx0 : val x = 0 := by rw [xv]; simp
      have := hn.hi 0 (by rw [hx0]; simp)
      have : R = 0 := by omega
      subst this
      rw [val_0]; rfl
/-- A word less itself is nought. -/
theorem sub_self {m : Nat} (h : fin m) : floatBits .sub .f64 m m = some 0 := by
  obtain ⟨R, hR, hn⟩ := sub_near h h
  have e0 : V m - V m = 0 := by omega
  rw [e0] at hR hn
  have : R = 0 := hn.exact (by rw [val_0]; rfl)
  subst this
  show double.sub m m = some 0
  rw [hR, if_pos rfl]
  cases ng m <;> rfl
end Fl
end
section
open Go.RowKit Go.Sort

namespace Tm
abbrev S := Int × Int
abbrev P := Int × Int × Int
def mx : List S → List S → List P
  | [], [] => []
  | i :: is, [] => (i.1, i.2, 1) :: mx is []
  | [], o :: os => (o.1, o.2, 0) :: mx [] os
  | i :: is, o :: os => if i.1 < o.1 then (i.1, i.2, 1) :: mx is (o :: os) else (o.1, o.2, 0) :: mx (i :: is) os
termination_by i o => i.length + o.length
/-- Nothing in common. -/
def Dj (i o : List S) : Prop := ∀ t, ¬ (Ss.inl i t = true ∧ Ss.inl o t = true)
theorem rs_tail {x : S} {l : List S} (h : Ss.Rs (x :: l)) : Ss.Rs l ∧ (∀ y ∈ l, x.2 < y.1) ∧ x.1 < x.2 :=
  ⟨⟨(List.pairwise_cons.1 h.1).2, fun s hs => h.2 s (List.mem_cons_of_mem _ hs)⟩, (List.pairwise_cons.1 h.1).1, h.2 x (List.mem_cons_self ..)⟩
theorem inl_c (s : S) (l : List S) (t : Int) : Ss.inl (s :: l) t = (Sp.hs s.1 s.2 t || Ss.inl l t) := rfl
theorem inl_of {l : List S} {s : S} {t : Int} (h : s ∈ l) (h1 : s.1 ≤ t) (h2 : t < s.2) : Ss.inl l t = true := List.any_eq_true.2 ⟨s, h, by simp [Sp.hs, h1, h2]⟩
theorem dj_i {x : S} {i o : List S} (h : Dj (x :: i) o) : Dj i o := fun t ht => h t ⟨by rw [inl_c, ht.1, Bool.or_true], ht.2⟩
theorem dj_o {x : S} {i o : List S} (h : Dj i (x :: o)) : Dj i o := fun t ht => h t ⟨ht.1, by rw [inl_c, ht.2, Bool.or_true]⟩
theorem rt_cons (b : Option Int) (p : P) (r : List P) : Mn.rt b (p :: r) = (Sp.rb p.1 p.2.1 && (match b with | none => true | some t => decide (t ≤ p.1)) && Mn.rt (some p.2.1) r) := by cases b <;> rfl
theorem mx_rt : ∀ (i o : List S) (b : Option Int), Ss.Rs i → Ss.Rs o → Dj i o → (∀ t, b = some t → (∀ x ∈ i, t ≤ x.1) ∧ ∀ x ∈ o, t ≤ x.1) → Mn.rt b (mx i o) = true
  | [], [], b, _, _, _, _ => by rw [mx]; rfl
  | x :: i, [], b, hi, ho, hd, hb => by
    obtain ⟨r1, r2, r3⟩ := rs_tail hi
    rw [mx, rt_cons]
    have ih := mx_rt i [] (some x.2) r1 ho (dj_i hd) (fun t ht => by cases ht; exact ⟨fun y hy => Int.le_of_lt (r2 y hy), fun y hy => absurd hy (by simp)⟩)
    simp only [ih, Bool.and_true]
    rw [show Sp.rb x.1 x.2 = true from decide_eq_true r3, Bool.true_and]
    cases b with
    | none => rfl
    | some t => exact decide_eq_true ((hb t rfl).1 x (List.mem_cons_self ..))
  | [], x :: o, b, hi, ho, hd, hb => by
    obtain ⟨r1, r2, r3⟩ := rs_tail ho
    rw [mx, rt_cons]
    have ih := mx_rt [] o (some x.2) hi r1 (dj_o hd) (fun t ht => by cases ht; exact ⟨fun y hy => absurd hy (by simp), fun y hy => Int.le_of_lt (r2 y hy)⟩)
    simp only [ih, Bool.and_true]
    rw [show Sp.rb x.1 x.2 = true from decide_eq_true r3, Bool.true_and]
    cases b with
    | none => rfl
    | some t => exact decide_eq_true ((hb t rfl).2 x (List.mem_cons_self ..))
  | x :: i, y :: o, b, hi, ho, hd, hb => by
    obtain ⟨r1, r2, r3⟩ := rs_tail hi
    obtain ⟨q1, q2, q3⟩ := rs_tail ho
    have hx : x.1 ≤ y.1 → x.2 ≤ y.1 := by
      intro h
      rcases (by omega : y.1 < x.2 ∨ x.2 ≤ y.1) with g | g
      · exact absurd ⟨inl_of (l := x :: i) (List.mem_cons_self ..) h g, inl_of (l := y :: o) (List.mem_cons_self ..) (Int.le_refl _) q3⟩ (hd y.1)
      · exact g
    have hy : y.1 ≤ x.1 → y.2 ≤ x.1 := by
      intro h
      rcases (by omega : x.1 < y.2 ∨ y.2 ≤ x.1) with g | g
      · exact absurd ⟨inl_of (l := x :: i) (List.mem_cons_self ..) (Int.le_refl _) r3, inl_of (l := y :: o) (List.mem_cons_self ..) h g⟩ (hd x.1)
      · exact g
    rw [mx]
    by_cases c : x.1 < y.1
    · rw [if_pos c, rt_cons]
      have ih := mx_rt i (y :: o) (some x.2) r1 ho (dj_i hd) (fun t ht => by
        cases ht
        refine ⟨fun z hz => Int.le_of_lt (r2 z hz), fun z hz => ?_⟩
        rcases List.mem_cons.1 hz with rfl | hz
        · exact hx (by omega)
        · have := q2 z hz; have := hx (by omega); omega)
      simp only [ih, Bool.and_true]
      rw [show Sp.rb x.1 x.2 = true from decide_eq_true r3, Bool.true_and]
      cases b with
      | none => rfl
      | some t => exact decide_eq_true ((hb t rfl).1 x (List.mem_cons_self ..))
    · rw [if_neg c, rt_cons]
      have ih := mx_rt (x :: i) o (some y.2) hi q1 (dj_o hd) (fun t ht => by
        cases ht
        refine ⟨fun z hz => ?_, fun z hz => Int.le_of_lt (q2 z hz)⟩
        rcases List.mem_cons.1 hz with rfl | hz
        · exact hy (by omega)
        · have := r2 z hz; have := hy (by omega); omega)
      simp only [ih, Bool.and_true]
      rw [show Sp.rb y.1 y.2 = true from decide_eq_true q3, Bool.true_and]
      cases b with
      | none => rfl
      | some t => exact decide_eq_true ((hb t rfl).2 y (List.mem_cons_self ..))
termination_by i o => i.length + o.length
/-- A set in the seconds of one span lies in it. -/
theorem within {s0 s1 : Int} {l : List S} (h : Ss.Rs l) (hi : ∀ t, Ss.inl l t = true → Ss.inl [(s0, s1)] t = true) : ∀ x ∈ l, s0 ≤ x.1 ∧ x.1 < x.2 ∧ x.2 ≤ s1 := by
  intro x hx
  have h0 := h.2 x hx
  have a := hi x.1 (inl_of hx (Int.le_refl _) h0)
  have b := hi (x.2 - 1) (inl_of hx (by omega) (by omega))
  rw [Ss.inl_one] at a b
  simp [Sp.hs] at a b
  omega
/-- All seconds of parts, and those that weigh. -/
def tt (l : List P) : Int := (l.map fun p => p.2.1 - p.1).sum
def tw (l : List P) : Int := (l.map fun p => p.2.2 * (p.2.1 - p.1)).sum
theorem tt_cons (p : P) (l : List P) : tt (p :: l) = (p.2.1 - p.1) + tt l := rfl
theorem tw_cons (p : P) (l : List P) : tw (p :: l) = p.2.2 * (p.2.1 - p.1) + tw l := rfl
theorem mx_all : ∀ (i o : List S) (s0 s1 : Int), (∀ x ∈ i, s0 ≤ x.1 ∧ x.1 < x.2 ∧ x.2 ≤ s1) → (∀ x ∈ o, s0 ≤ x.1 ∧ x.1 < x.2 ∧ x.2 ≤ s1) →
    (∀ p ∈ mx i o, s0 ≤ p.1 ∧ p.1 < p.2.1 ∧ p.2.1 ≤ s1 ∧ (p.2.2 = 0 ∨ p.2.2 = 1)) ∧ (mx i o).length = i.length + o.length ∧ tt (mx i o) = Ss.ln i + Ss.ln o ∧ tw (mx i o) = Ss.ln i
  | [], [], s0, s1, hi, ho => by rw [mx]; exact ⟨fun p hp => absurd hp (by simp), rfl, rfl, rfl⟩
  | x :: i, [], s0, s1, hi, ho => by
    obtain ⟨a, b, c, d⟩ := mx_all i [] s0 s1 (fun y hy => hi y (List.mem_cons_of_mem _ hy)) ho
    have h := hi x (List.mem_cons_self ..)
    rw [mx, tt_cons, tw_cons, c, d]
    refine ⟨fun p hp => ?_, by simp [b], by simp only [Ss.ln]; omega, by simp only [Ss.ln]; omega⟩
    rcases List.mem_cons.1 hp with rfl | hp
    · exact ⟨h.1, h.2.1, h.2.2, .inr rfl⟩
    · exact a p hp
  | [], x :: o, s0, s1, hi, ho => by
    obtain ⟨a, b, c, d⟩ := mx_all [] o s0 s1 hi (fun y hy => ho y (List.mem_cons_of_mem _ hy))
    have h := ho x (List.mem_cons_self ..)
    rw [mx, tt_cons, tw_cons, c, d]
    refine ⟨fun p hp => ?_, by simp [b], by simp only [Ss.ln]; omega, by simp only [Ss.ln]; omega⟩
    rcases List.mem_cons.1 hp with rfl | hp
    · exact ⟨h.1, h.2.1, h.2.2, .inl rfl⟩
    · exact a p hp
  | x :: i, y :: o, s0, s1, hi, ho => by
    have hx := hi x (List.mem_cons_self ..)
    have hy := ho y (List.mem_cons_self ..)
    rw [mx]
    by_cases c : x.1 < y.1
    · rw [if_pos c]
      obtain ⟨a, b, c, d⟩ := mx_all i (y :: o) s0 s1 (fun z hz => hi z (List.mem_cons_of_mem _ hz)) ho
      rw [tt_cons, tw_cons, c, d]
      refine ⟨fun p hp => ?_, by simp [b]; omega, by simp only [Ss.ln]; omega, by simp only [Ss.ln]; omega⟩
      rcases List.mem_cons.1 hp with rfl | hp
      · exact ⟨hx.1, hx.2.1, hx.2.2, .inr rfl⟩
      · exact a p hp
    · rw [if_neg c]
      obtain ⟨a, b, c, d⟩ := mx_all (x :: i) o s0 s1 hi (fun z hz => ho z (List.mem_cons_of_mem _ hz))
      rw [tt_cons, tw_cons, c, d]
      refine ⟨fun p hp => ?_, by simp [b]; omega, by simp only [Ss.ln]; omega, by simp only [Ss.ln]; omega⟩
      rcases List.mem_cons.1 hp with rfl | hp
      · exact ⟨hy.1, hy.2.1, hy.2.2, .inl rfl⟩
      · exact a p hp
termination_by i o => i.length + o.length
/-- The mean of parts of a span, each of them 0 or 1. -/
theorem mean_01 (l : List P) (s0 s1 : Int) (b0 : -9223372036854775808 ≤ s0) (b1 : s1 ≤ 9223372036854775807) (h : ∀ p ∈ l, s0 ≤ p.1 ∧ p.1 < p.2.1 ∧ p.2.1 ≤ s1 ∧ (p.2.2 = 0 ∨ p.2.2 = 1)) (n : Int) (hn : tt l = n) (h2 : n ≤ 1125899906842624) :
    Mn.mean s0 s1 l = Fl.cop .quo (FloatKind.f64.nearest (tw l)) (FloatKind.f64.nearest n) := by
  have hc : Mn.cnt s0 s1 l = l := by
    clear hn
    induction l with
    | nil => rfl
    | cons p l ih =>
      have hp := h p (List.mem_cons_self ..)
      have e : Mn.bt s0 s1 p = some p := by
        unfold Mn.bt Sp.mt
        rw [if_pos (decide_eq_true (by omega)), show max p.1 s0 = p.1 by omega, show min p.2.1 s1 = p.2.1 by omega]
      show (p :: l).filterMap _ = _
      rw [List.filterMap_cons, e]
      show p :: Mn.cnt s0 s1 l = p :: l
      rw [ih fun q hq => h q (List.mem_cons_of_mem _ hq)]
  have hle : ∀ p ∈ l, p.2.1 - p.1 ≤ tt l := by
    clear hn hc
    induction l with
    | nil => intro p hp; exact absurd hp (by simp)
    | cons q l ih =>
      have hq := h q (List.mem_cons_self ..)
      have h' : ∀ p ∈ l, s0 ≤ p.1 ∧ p.1 < p.2.1 ∧ p.2.1 ≤ s1 ∧ (p.2.2 = 0 ∨ p.2.2 = 1) := fun p hp => h p (List.mem_cons_of_mem _ hp)
      have nn : 0 ≤ tt l := by
        clear ih
        have : ∀ l : List P, (∀ p ∈ l, s0 ≤ p.1 ∧ p.1 < p.2.1 ∧ p.2.1 ≤ s1 ∧ (p.2.2 = 0 ∨ p.2.2 = 1)) → 0 ≤ tt l := by
          intro l
          induction l with
          | nil => intro _; exact Int.le_refl _
          | cons r l ih => intro h; rw [tt_cons]; have := h r (List.mem_cons_self ..); have := ih fun p hp => h p (List.mem_cons_of_mem _ hp); omega
        exact this l h'
      intro p hp
      rw [tt_cons]
      rcases List.mem_cons.1 hp with rfl | hp
      · omega
      · have := ih h' p hp; omega
  rw [hn] at hle
  have hw : ∀ p ∈ l, Mn.wl p.1 p.2.1 = p.2.1 - p.1 := fun p hp => by
    have := h p hp
    exact Mn.wrap_sub ⟨by omega, by omega⟩ ⟨by omega, by omega⟩ (by omega)
  have hlens : Mn.lens l = (l.map fun p => p.2.1 - p.1).map FloatKind.f64.nearest := by
    unfold Mn.lens
    rw [List.map_map]
    exact List.map_congr_left fun p hp => by unfold Mn.lw; rw [hw p hp]; rfl
  have hprods : Mn.prods l = (l.map fun p => p.2.2 * (p.2.1 - p.1)).map FloatKind.f64.nearest := by
    unfold Mn.prods
    rw [List.map_map]
    refine List.map_congr_left fun p hp => ?_
    have a := h p hp
    have b := hle p hp
    show Fl.cop .mul (FloatKind.f64.nearest p.2.2) (FloatKind.f64.nearest (Mn.wl p.1 p.2.1)) = FloatKind.f64.nearest (p.2.2 * (p.2.1 - p.1))
    rw [hw p hp]
    exact Fl.mul_01 a.2.2.2 (by omega) (by omega)
  have htw : tw l ≤ tt l := by
    clear hn hle hw hlens hprods hc
    induction l with
    | nil => exact Int.le_refl _
    | cons q l ih =>
      have hq := h q (List.mem_cons_self ..)
      have := ih fun p hp => h p (List.mem_cons_of_mem _ hp)
      rw [tt_cons, tw_cons]
      rcases hq.2.2.2 with e | e <;> rw [e] <;> omega
  unfold Mn.mean
  rw [hc, hlens, hprods, Fl.csum_pos _ (by
      intro x hx
      obtain ⟨p, hp, rfl⟩ := List.mem_map.1 hx
      have := h p hp
      rcases this.2.2.2 with e | e <;> rw [e] <;> omega) (show tw l ≤ _ by omega), Fl.csum_pos _ (by
      intro x hx
      obtain ⟨p, hp, rfl⟩ := List.mem_map.1 hx
      have := h p hp; omega) (show tt l ≤ _ by omega)]
  show Fl.cop .quo (FloatKind.f64.nearest (tw l)) (FloatKind.f64.nearest (tt l)) = _
  rw [hn]
end Tm
end
section
open Go.RowKit Go.Sort Go.Shelf

set_option maxHeartbeats 2000000 in
theorem spansc_and (va vb : Value) (a b : List Ss.S) (w : World) (h : SpV w va a) (k : SpV w vb b) (ha : a.length ≤ 1000) (hb : b.length ≤ 1000) :
    Calls Try.prog 19 #[va, vb] w (AnsKc (fun x y => x && y) a b w) := by
  obtain ⟨A, c, rfl, -⟩ := id h
  obtain ⟨B, c', rfl, -⟩ := id k
  have C := Lib.hid (sweepc_And _ _ a b w h k ha hb)
  clear h k ha hb
  go_enter Try.func19, Try.ntmps19
  go_wp2_with fail
  refine C.out.mono ?_
  rintro e w1 ⟨v, l, rfl, h1, h2, h3, h4, h5, h6⟩
  go_wp2
  go_ret
  exact ⟨v, l, rfl, h1, h2, h3, h4, h5, h6⟩
set_option maxHeartbeats 2000000 in
theorem spansc_less (va vb : Value) (a b : List Ss.S) (w : World) (h : SpV w va a) (k : SpV w vb b) (ha : a.length ≤ 1000) (hb : b.length ≤ 1000) :
    Calls Try.prog 21 #[va, vb] w (AnsKc (fun x y => x && !y) a b w) := by
  obtain ⟨A, c, rfl, -⟩ := id h
  obtain ⟨B, c', rfl, -⟩ := id k
  have C := Lib.hid (sweepc_Less _ _ a b w h k ha hb)
  clear h k ha hb
  go_enter Try.func21, Try.ntmps21
  go_wp2_with fail
  refine C.out.mono ?_
  rintro e w1 ⟨v, l, rfl, h1, h2, h3, h4, h5, h6⟩
  go_wp2
  go_ret
  exact ⟨v, l, rfl, h1, h2, h3, h4, h5, h6⟩
set_option maxHeartbeats 2000000 in
theorem spansc_gaps (va : Value) (a : List Ss.S) (s0 s1 : Int) (w : World) (h : SpV w va a) (ha : a.length ≤ 1000) :
    Calls Try.prog 23 #[va, .agg #[.int .i64 s0, .int .i64 s1]] w (AnsKc (fun x y => x && !y) [(s0, s1)] a w) := by
  obtain ⟨A, c, rfl, -⟩ := id h
  have H := Lib.hid h
  have HA := Lib.hid ha
  clear h ha
  go_enter Try.func23, Try.ntmps23
  go_wp2_with fail
  have b1 : Below w.heap.size w (w.alloc (.cells #[.int .i64 s0, .int .i64 s1] 24)) := (Below.refl _ _).alloc (Nat.le_refl _) _
  have b2 : Below w.heap.size w ((w.alloc (.cells #[.int .i64 s0, .int .i64 s1] 24)).alloc (.cells #[.int .i64 s0, .int .i64 s1] 24)) := b1.alloc b1.size _
  have B2 := Lib.hid b2
  have e9 : w.heap.size + 1 = (w.alloc (.cells #[.int .i64 s0, .int .i64 s1] 24)).heap.size := by simp
  refine (spansc_less _ _ [(s0, s1)] a _ (by rw [e9]; exact spv_one _ s0 s1) (H.out.on b2) (by simp) HA.out).mono ?_
  clear b1 b2 e9
  rintro e w1 ⟨v, l, rfl, h1, h2, h3, h4, h5, h6⟩
  have Q := Lib.hid (And.intro h1 (And.intro h2 (And.intro h3 (And.intro h4 (And.intro (below_step B2.out h5) h6)))))
  clear h1 h2 h3 h4 h5 h6
  go_wp2
  go_ret
  exact ⟨v, l, rfl, Q.out⟩
end
end Go.Proofs.Ytnfjdjfajkdiiaa
