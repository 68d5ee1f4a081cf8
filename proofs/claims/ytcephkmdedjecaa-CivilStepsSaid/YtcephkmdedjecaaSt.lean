/- The walk of CivilSteps: for any two dates the call answers true; nothing old turns. -/
import Derived.Test.YtcephkmdedjecaaLiv3
set_option linter.unusedVariables false
set_option linter.unusedSimpArgs false
namespace Go.Proofs.Ytcephkmdedjecaa
open Go.RowKit

theorem cmpD_bd (y m d y' m' d' : Int) : -1 ≤ cmpD y m d y' m' d' ∧ cmpD y m d y' m' d' ≤ 1 := by
  unfold cmpD orI
  have := cmpI_bd y y'; have := cmpI_bd m m'; have := cmpI_bd d d'
  split <;> (try split) <;> omega
theorem cmpD_neg (y m d y' m' d' : Int) : cmpD y m d y' m' d' = - cmpD y' m' d' y m d := by
  have n : ∀ a b, cmpI a b = - cmpI b a := fun a b => by unfold cmpI; split <;> split <;> omega
  unfold cmpD orI
  rw [n y y', n m m', n d d']
  by_cases h : cmpI y' y = 0
  · by_cases h' : cmpI m' m = 0
    · simp [h, h']
    · simp [h, h']
  · simp [h]
theorem cmpI_lt {a b : Int} : cmpI a b < 0 ↔ a < b := by unfold cmpI; split <;> (try split) <;> omega
theorem cmpI_zero {a b : Int} : cmpI a b = 0 ↔ a = b := by unfold cmpI; split <;> (try split) <;> omega
theorem cmpD_lt {y m d y' m' d' : Int} : cmpD y m d y' m' d' < 0 ↔ Cal.Lt y m d y' m' d' := by
  have h1 := cmpI_lt (a := y) (b := y'); have h2 := cmpI_lt (a := m) (b := m'); have h3 := cmpI_lt (a := d) (b := d')
  have z1 := cmpI_zero (a := y) (b := y'); have z2 := cmpI_zero (a := m) (b := m')
  unfold cmpD orI Cal.Lt
  split
  · split <;> omega
  · omega
theorem cmpD_zero {y m d y' m' d' : Int} : cmpD y m d y' m' d' = 0 ↔ (y = y' ∧ m = m' ∧ d = d') := by
  have z1 := cmpI_zero (a := y) (b := y'); have z2 := cmpI_zero (a := m) (b := m'); have z3 := cmpI_zero (a := d) (b := d')
  unfold cmpD orI
  split
  · split <;> omega
  · omega
theorem order_lt {y m d y' m' d' : Int} (h : Cal.Right y m d) (h' : Cal.Right y' m' d') : decide (Cal.num y m d < Cal.num y' m' d') = decide (cmpD y m d y' m' d' < 0) := by
  rw [Bool.eq_iff_iff]; simp only [decide_eq_true_eq]; rw [cmpD_lt]
  refine ⟨fun l => ?_, Cal.num_lt h h'⟩
  rcases Cal.lt_or (y := y) (m := m) (d := d) (y' := y') (m' := m') (d' := d') with a | ⟨rfl, rfl, rfl⟩ | a
  · exact a
  · omega
  · have := Cal.num_lt h' h a; omega
theorem order_eq {y m d y' m' d' : Int} (h : Cal.Right y m d) (h' : Cal.Right y' m' d') : (Cal.num y m d == Cal.num y' m' d') = (cmpD y m d y' m' d' == 0) := by
  rw [Bool.eq_iff_iff]; simp only [beq_iff_eq]; rw [cmpD_zero]
  exact ⟨Cal.num_inj h h', fun ⟨a, b, c⟩ => by rw [a, b, c]⟩

/-- Two dates lie in two blocks; nothing old has turned. -/
theorem two_keep {w : World} {b : Nat} {W W' : World} {v0 v1 v2 u0 u1 u2 : Value} (hb : Below W.heap.size W W')
    (h : Below w.heap.size w W ∧ b + 1 < W.heap.size ∧ W.cell? ⟨b, 0, none⟩ = some v0 ∧ W.cell? ⟨b, 1, none⟩ = some v1 ∧ W.cell? ⟨b, 2, none⟩ = some v2 ∧ W.cell? ⟨b + 1, 0, none⟩ = some u0 ∧ W.cell? ⟨b + 1, 1, none⟩ = some u1 ∧ W.cell? ⟨b + 1, 2, none⟩ = some u2) :
    Below w.heap.size w W' ∧ b + 1 < W'.heap.size ∧ W'.cell? ⟨b, 0, none⟩ = some v0 ∧ W'.cell? ⟨b, 1, none⟩ = some v1 ∧ W'.cell? ⟨b, 2, none⟩ = some v2 ∧ W'.cell? ⟨b + 1, 0, none⟩ = some u0 ∧ W'.cell? ⟨b + 1, 1, none⟩ = some u1 ∧ W'.cell? ⟨b + 1, 2, none⟩ = some u2 := by
  obtain ⟨hw, hs, h0, h1, h2, g0, g1, g2⟩ := h
  have z := hb.size
  refine ⟨below_step hw hb, by omega, ?_, ?_, ?_, ?_, ?_, ?_⟩ <;> (first | rw [hb.cell (p := ⟨b, _, none⟩) (by show b < _; omega)] | rw [hb.cell (p := ⟨b + 1, _, none⟩) (by show b + 1 < _; omega)]) <;> assumption

theorem two_drew {w : World} {b : Nat} {W : World} {v0 v1 v2 u0 u1 u2 : Value}
    (h : Below w.heap.size w W ∧ b + 1 < W.heap.size ∧ W.cell? ⟨b, 0, none⟩ = some v0 ∧ W.cell? ⟨b, 1, none⟩ = some v1 ∧ W.cell? ⟨b, 2, none⟩ = some v2 ∧ W.cell? ⟨b + 1, 0, none⟩ = some u0 ∧ W.cell? ⟨b + 1, 1, none⟩ = some u1 ∧ W.cell? ⟨b + 1, 2, none⟩ = some u2) :
    Below w.heap.size w W.drew ∧ b + 1 < W.drew.heap.size ∧ W.drew.cell? ⟨b, 0, none⟩ = some v0 ∧ W.drew.cell? ⟨b, 1, none⟩ = some v1 ∧ W.drew.cell? ⟨b, 2, none⟩ = some v2 ∧ W.drew.cell? ⟨b + 1, 0, none⟩ = some u0 ∧ W.drew.cell? ⟨b + 1, 1, none⟩ = some u1 ∧ W.drew.cell? ⟨b + 1, 2, none⟩ = some u2 := ⟨h.1.drew, h.2⟩

theorem len_28 (y m : Int) (h1 : 1 ≤ m) (h2 : m ≤ 12) : 28 ≤ Cal.len y m := by
  have := Cal.lp_01 y
  rcases Cal.twelve h1 h2 with rfl | rfl | rfl | rfl | rfl | rfl | rfl | rfl | rfl | rfl | rfl | rfl <;> simp [Cal.len] <;> omega
/-- Two dates lie in the blocks b and c; nothing old has turned. -/
structure Dates (w W : World) (b c : Nat) (v0 v1 v2 u0 u1 u2 : Value) : Prop where
  bel : Below w.heap.size w W
  old : w.heap.size ≤ b
  lt : b < c
  hb : b < W.heap.size
  hc : c < W.heap.size
  k0 : W.cell? ⟨b, 0, none⟩ = some v0
  k1 : W.cell? ⟨b, 1, none⟩ = some v1
  k2 : W.cell? ⟨b, 2, none⟩ = some v2
  g0 : W.cell? ⟨c, 0, none⟩ = some u0
  g1 : W.cell? ⟨c, 1, none⟩ = some u1
  g2 : W.cell? ⟨c, 2, none⟩ = some u2
  f0 : W.frozen? ⟨c, 0, none⟩ = false
  f1 : W.frozen? ⟨c, 1, none⟩ = false
  f2 : W.frozen? ⟨c, 2, none⟩ = false
theorem Dates.keep {w W W' : World} {b c : Nat} {v0 v1 v2 u0 u1 u2 : Value} (h : Dates w W b c v0 v1 v2 u0 u1 u2) (k : Below W.heap.size W W') : Dates w W' b c v0 v1 v2 u0 u1 u2 := by
  obtain ⟨hw, ho, hlt, hb, hc, h0, h1, h2, g0, g1, g2, f0, f1, f2⟩ := h
  have z := k.size
  refine ⟨below_step hw k, ho, hlt, by omega, by omega, ?_, ?_, ?_, ?_, ?_, ?_, ?_, ?_, ?_⟩ <;> (first | rw [k.cell (p := ⟨b, _, none⟩) (by show b < _; omega)]; assumption | rw [k.cell (p := ⟨c, _, none⟩) (by show c < _; omega)]; assumption | rw [k.frozen (p := ⟨c, _, none⟩) (by show c < _; omega)]; assumption)
theorem Dates.new {w W : World} {b n : Nat} {v0 v1 v2 u0 u1 u2 x0 x1 x2 : Value} {t : TypeId} (ho : w.heap.size ≤ b)
    (h : Below w.heap.size w W ∧ b + 1 < W.heap.size ∧ W.cell? ⟨b, 0, none⟩ = some v0 ∧ W.cell? ⟨b, 1, none⟩ = some v1 ∧ W.cell? ⟨b, 2, none⟩ = some v2 ∧ W.cell? ⟨b + 1, 0, none⟩ = some x0 ∧ W.cell? ⟨b + 1, 1, none⟩ = some x1 ∧ W.cell? ⟨b + 1, 2, none⟩ = some x2) :
    Dates w ((W.alloc (.cells #[u0, u1, u2] t)).drewN n) b W.heap.size v0 v1 v2 u0 u1 u2 := by
  obtain ⟨hw, hs, h0, h1, h2, -, -, -⟩ := h
  have hz : b < W.heap.size := by omega
  refine ⟨below_step hw (below_new _ _ _), ho, hz, ?_, ?_, ?_, ?_, ?_, ?_, ?_, ?_, ?_, ?_, ?_⟩
  · show b < (W.alloc _).heap.size; simp; omega
  · show W.heap.size < (W.alloc _).heap.size; simp
  · show (W.alloc _).cell? _ = _; rw [World.cell?_alloc_lt _ _ _ hz]; exact h0
  · show (W.alloc _).cell? _ = _; rw [World.cell?_alloc_lt _ _ _ hz]; exact h1
  · show (W.alloc _).cell? _ = _; rw [World.cell?_alloc_lt _ _ _ hz]; exact h2
  · show (W.alloc _).cell? _ = _; simp [go_sem]
  · show (W.alloc _).cell? _ = _; simp [go_sem]
  · show (W.alloc _).cell? _ = _; simp [go_sem]
  · show (W.alloc _).frozen? _ = _; simp [go_sem]
  · show (W.alloc _).frozen? _ = _; simp [go_sem]
  · show (W.alloc _).frozen? _ = _; simp [go_sem]

theorem Dates.set0 {w W : World} {b c : Nat} {v0 v1 v2 u0 u1 u2 : Value} (h : Dates w W b c v0 v1 v2 u0 u1 u2) (v : Value) : Dates w (W.setCell ⟨c, 0, none⟩ v) b c v0 v1 v2 v u1 u2 := by
  obtain ⟨hw, ho, hlt, hb, hc, h0, h1, h2, g0, g1, g2, f0, f1, f2⟩ := h
  have ne : ¬ b = c := by omega
  refine ⟨hw.setCell (by show w.heap.size ≤ c; omega) _, ho, hlt, by simpa [World.setCell] using hb, by simpa [World.setCell] using hc, ?_, ?_, ?_, ?_, ?_, ?_, ?_, ?_, ?_⟩ <;> simp [*, go_sem, World.frozen?_setCell]
theorem Dates.set1 {w W : World} {b c : Nat} {v0 v1 v2 u0 u1 u2 : Value} (h : Dates w W b c v0 v1 v2 u0 u1 u2) (v : Value) : Dates w (W.setCell ⟨c, 1, none⟩ v) b c v0 v1 v2 u0 v u2 := by
  obtain ⟨hw, ho, hlt, hb, hc, h0, h1, h2, g0, g1, g2, f0, f1, f2⟩ := h
  have ne : ¬ b = c := by omega
  refine ⟨hw.setCell (by show w.heap.size ≤ c; omega) _, ho, hlt, by simpa [World.setCell] using hb, by simpa [World.setCell] using hc, ?_, ?_, ?_, ?_, ?_, ?_, ?_, ?_, ?_⟩ <;> simp [*, go_sem, World.frozen?_setCell]
theorem Dates.set2 {w W : World} {b c : Nat} {v0 v1 v2 u0 u1 u2 : Value} (h : Dates w W b c v0 v1 v2 u0 u1 u2) (v : Value) : Dates w (W.setCell ⟨c, 2, none⟩ v) b c v0 v1 v2 u0 u1 v := by
  obtain ⟨hw, ho, hlt, hb, hc, h0, h1, h2, g0, g1, g2, f0, f1, f2⟩ := h
  have ne : ¬ b = c := by omega
  refine ⟨hw.setCell (by show w.heap.size ≤ c; omega) _, ho, hlt, by simpa [World.setCell] using hb, by simpa [World.setCell] using hc, ?_, ?_, ?_, ?_, ?_, ?_, ?_, ?_, ?_⟩ <;> simp [*, go_sem, World.frozen?_setCell]
end Go.Proofs.Ytcephkmdedjecaa
