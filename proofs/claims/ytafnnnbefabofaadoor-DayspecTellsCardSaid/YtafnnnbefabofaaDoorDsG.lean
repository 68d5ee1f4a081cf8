/- Names of days: there and back in plain lists; the answers that noontidelaw18.lives asks for. -/
import Derived.Test.YtafnnnbefabofaaDoorDsCF
set_option linter.unusedVariables false
set_option linter.unusedSimpArgs false
namespace Go.Proofs.YtafnnnbefabofaaDoor
open Go.RowKit Go.Sort

/-- What the row's list gives. -/
structure Ds.Lv (w : World) (tp : TypeId) (p : Value) : Prop where
  tab : Lib.TabIs Tryd.prog w "internal/strconv.uint64pow10" .u64 Lib.pow10Tab
  rng : w.var? Tryd.prog "strconv.ErrRange" = some #[.iface tp p]
  days : Wd.DTabs w
theorem Ds.Lv.keep {w w' : World} {tp : TypeId} {p : Value} (h : Ds.Lv w tp p) (k : Below w.heap.size w w') : Ds.Lv w' tp p := ⟨var_keep k h.tab, var_keep k h.rng, h.days.on k⟩
namespace Wd
theorem run_lt (s : List UInt8) (all : List ByteArray) (N : Nat) : ∀ (r : List ByteArray) (k : Nat) (f : Int) (sv : Bool), k + r.length ≤ N → f < N → (run s all r k f sv).2 = 0 → (run s all r k f sv).1 < N := by
  intro r
  induction r with
  | nil =>
    intro k f sv h1 h2
    rw [run_nil]
    split
    · intro h; exact absurd h (by simp)
    · intro _; exact h2
  | cons x r ih =>
    intro k f sv h1 h2
    have h3 : k + 1 + r.length ≤ N := by simp at h1; omega
    have h4 : (k : Int) < N := by simp at h1; omega
    unfold run
    split
    · intro _; exact h4
    · split
      · exact ih _ _ _ h3 h2
      · split
        · exact ih _ _ _ h3 h4
        · split
          · exact ih _ _ _ h3 h2
          · exact ih _ _ _ h3 h2
theorem mat_lt {s : List UInt8} {all : List ByteArray} : (mat s all).2 = 0 → (mat s all).1 < all.length := by
  unfold mat
  split
  · intro h; exact absurd h (by simp)
  · have hN : (-1 : Int) < (all.length : Int) := by omega
    exact run_lt s all all.length all 0 (-1) false (by omega) hN
end Wd
namespace Ds
theorem wd_bd {l : List UInt8} (h : (wd l).2 = 0) : 0 ≤ (wd l).1 ∧ (wd l).1 ≤ 6 := by
  unfold wd at h ⊢
  obtain ⟨h0, h1, -⟩ := Wd.mat_bd l Wd.days
  have e : Wd.days.length = 7 := rfl
  rw [e] at h1
  refine ⟨h0, ?_⟩
  have := Wd.mat_lt h
  rw [e] at this
  omega
theorem day_bd {l : List UInt8} (h : (day l).2 = 0) : 1 ≤ (day l).1 ∧ (day l).1 ≤ 31 := by
  revert h; unfold day
  split
  · cases hi : inD (Num.rd l).1
    · intro h; exact absurd h (by simp)
    · intro _
      unfold inD at hi
      rw [Bool.and_eq_true, decide_eq_true_eq, decide_eq_true_eq] at hi
      exact hi
  · rename_i h; intro h2; exact absurd h2 h
theorem sw_R {k : Int} {a n : List UInt8} (hk : k = 2 ∨ k = 3) (h : (sw k a n).2.2.2 = 0) : Dr.onR (sw k a n).1 (sw k a n).2.1 (sw k a n).2.2.1 = true := by
  by_cases h1 : (wd a).2 = 0
  · by_cases h2 : (day n).2 = 0
    · rw [sw_y h1 h2]
      have a1 := wd_bd h1
      have a2 := day_bd h2
      exact Dr.onR_true.2 (.inr (.inr ⟨hk, a1.1, a1.2, a2.1, a2.2⟩))
    · rw [sw_d h1 h2] at h; exact absurd h h2
  · rw [sw_w h1] at h; exact absurd h h1
theorem rd_R {l : List UInt8} (h : (rd l).2.2.2 = 0) : Dr.onR (rd l).1 (rd l).2.1 (rd l).2.2.1 = true := by
  revert h; unfold rd
  split
  · unfold ws
    split
    · exact sw_R (.inl rfl)
    · split
      · exact sw_R (.inr rfl)
      · intro h; exact absurd h (by decide)
  · split
    · split
      · rename_i hd; intro _
        have a2 := day_bd hd
        exact Dr.onR_true.2 (.inl ⟨rfl, rfl, a2.1, a2.2⟩)
      · rename_i hd; intro h; exact absurd h hd
    · split
      · split
        · rename_i hw; intro _
          have a1 := wd_bd hw
          exact Dr.onR_true.2 (.inr (.inl ⟨rfl, a1.1, a1.2, rfl⟩))
        · rename_i hw; intro h; exact absurd h hw
      · intro h; exact absurd h (by decide)
set_option maxRecDepth 100000 in
theorem rd_tab : ∀ k : Fin 4, ∀ w : Fin 7, ∀ d : Fin 32, Dr.onR k.val w.val d.val = true → rd (tx k.val w.val d.val).1.data.toList = ((k.val : Int), (w.val : Int), (d.val : Int), (0 : Int)) := by decide +kernel
theorem rd_tx {k w d : Int} (h : Dr.onR k w d = true) : rd (tx k w d).1.data.toList = (k, w, d, 0) := by
  have hb := Dr.onR_true.1 h
  obtain ⟨k', rfl⟩ : ∃ n : Nat, k = n := ⟨k.toNat, by omega⟩
  obtain ⟨w', rfl⟩ : ∃ n : Nat, w = n := ⟨w.toNat, by omega⟩
  obtain ⟨d', rfl⟩ : ∃ n : Nat, d = n := ⟨d.toNat, by omega⟩
  exact rd_tab ⟨k', by omega⟩ ⟨w', by omega⟩ ⟨d', by omega⟩ h
theorem tx_ok {k w d : Int} (h : Dr.onR k w d = true) : (tx k w d).2 = 0 ∧ (tx k w d).1.size ≤ 1000 := by
  have hb := Dr.onR_true.1 h
  have a := td_sz d (by omega) (by omega)
  have b := tw_sz w (by omega) (by omega)
  unfold tx
  rw [if_pos h]
  refine ⟨rfl, ?_⟩
  show (if k = 1 then ⟨#[108, 97, 115, 116]⟩ ++ tw w else if k = 2 then tw w ++ ⟨#[62, 61]⟩ ++ td d else if k = 3 then tw w ++ ⟨#[60, 61]⟩ ++ td d else td d : ByteArray).size ≤ 1000
  have e1 : (⟨#[108, 97, 115, 116]⟩ : ByteArray).size = 4 := rfl
  have e2 : (⟨#[62, 61]⟩ : ByteArray).size = 2 := rfl
  have e3 : (⟨#[60, 61]⟩ : ByteArray).size = 2 := rfl
  split
  · rw [ByteArray.size_append]; omega
  · split
    · rw [ByteArray.size_append, ByteArray.size_append]; omega
    · split
      · rw [ByteArray.size_append, ByteArray.size_append]; omega
      · omega
theorem tx_no {k w d : Int} (h : Dr.onR k w d = false) : tx k w d = (⟨#[]⟩, 4) := by
  unfold tx; rw [h]; rfl
end Ds
theorem dRead_c (s : ByteArray) (x0 x1 x2 q : Int) (h : Ds.rd s.data.toList = (x0, x1, x2, q)) (hs : s.size ≤ 1000) (w : World) (tp : TypeId) (p : Value) (L : Ds.Lv w tp p) :
    Calls Tryd.prog 77 #[.string s] w fun e w' => e = .returned (.tuple #[.agg #[.int .i64 x0, .int .i64 x1, .int .i64 x2], .int .i64 q]) ∧ Below w.heap.size w w' := by
  have := dRead_any s w hs tp p L.rng L.days
  rw [h] at this
  exact this
theorem dText_c (k wk d : Int) (t : ByteArray) (q : Int) (h : Ds.tx k wk d = (t, q)) (w : World) (tp : TypeId) (p : Value) (L : Ds.Lv w tp p) :
    Calls Tryd.prog 75 #[.agg #[.int .i64 k, .int .i64 wk, .int .i64 d]] w fun e w' => e = .returned (.tuple #[.string t, .int .i64 q]) ∧ Below w.heap.size w w' := by
  have := dtext_any k wk d w L.tab L.days
  rw [h] at this
  exact this
set_option maxHeartbeats 4000000 in
set_option maxRecDepth 100000 in
theorem lives18 (w : World) (tp : TypeId) (p : Value) (L : Ds.Lv w tp p) :
    Calls Tryd.prog 74 #[] w fun e w' => e = .returned (.bool true) ∧ Below w.heap.size w w' := by
  have L0 := Lib.hid L; clear L
  have R0 := Lib.hid (dRead_c ⟨#[56]⟩ 0 0 8 0 (by decide +kernel) (by decide))
  have R1 := Lib.hid (dRead_c ⟨#[76, 65, 83, 84, 83, 85, 78, 68, 65, 89]⟩ 1 0 0 0 (by decide +kernel) (by decide))
  have R2 := Lib.hid (dRead_c ⟨#[83, 117, 110, 62, 61, 56]⟩ 2 0 8 0 (by decide +kernel) (by decide))
  have R3 := Lib.hid (dRead_c ⟨#[77, 60, 61, 50, 53]⟩ 3 1 25 0 (by decide +kernel) (by decide))
  have R4 := Lib.hid (dRead_c ⟨#[108, 97, 115, 116, 83]⟩ 0 0 0 3 (by decide +kernel) (by decide))
  have R5 := Lib.hid (dRead_c ⟨#[83, 117, 110, 62, 56]⟩ 0 0 0 4 (by decide +kernel) (by decide))
  have R6 := Lib.hid (dRead_c ⟨#[83, 117, 110, 100, 97, 121]⟩ 0 0 0 4 (by decide +kernel) (by decide))
  have R7 := Lib.hid (dRead_c ⟨#[83, 117, 110, 62, 61, 48]⟩ 0 0 0 1 (by decide +kernel) (by decide))
  have R8 := Lib.hid (dRead_c ⟨#[83, 117, 110, 62, 61, 48, 56]⟩ 0 0 0 2 (by decide +kernel) (by decide))
  have R9 := Lib.hid (dRead_c ⟨#[]⟩ 0 0 0 4 (by decide +kernel) (by decide))
  have R10 := Lib.hid (dRead_c ⟨#[120, 62, 61, 48]⟩ 0 0 0 3 (by decide +kernel) (by decide))
  have R11 := Lib.hid (dRead_c ⟨#[51, 50]⟩ 0 0 0 1 (by decide +kernel) (by decide))
  have R12 := Lib.hid (dRead_c ⟨#[108, 97, 115, 116]⟩ 0 0 0 3 (by decide +kernel) (by decide))
  have X0 := Lib.hid (dText_c 3 6 3 ⟨#[83, 97, 116, 60, 61, 51]⟩ 0 (by decide +kernel))
  have X1 := Lib.hid (dText_c 1 1 0 ⟨#[108, 97, 115, 116, 77, 111, 110]⟩ 0 (by decide +kernel))
  have X2 := Lib.hid (dText_c 0 0 0 ⟨#[]⟩ 4 (by decide +kernel))
  go_enter Tryd.func74, Tryd.ntmps74
  go_wp2_with fail
  refine (R0.out _ tp p L0.out).mono ?_; rintro e w1 ⟨rfl, b1⟩
  have d1 : Below w.heap.size w w1 := below_step (by repeat (first | exact Below.refl _ _ | refine below_drewN ?_ _ | refine Below.drew ?_ | refine Below.setCell ?_ (by first | (simp; done) | (simp; omega) | omega) _ | refine Below.alloc ?_ (by first | (simp; done) | (simp; omega) | omega) _)) b1
  have B1 := Lib.hid d1
  clear b1 d1
  go_wp2_with fail
  refine (R1.out _ tp p (L0.out.keep (below_step B1.out (by repeat (first | exact Below.refl _ _ | refine below_drewN ?_ _ | refine Below.drew ?_ | refine Below.setCell ?_ (by first | (simp; done) | (simp; omega) | omega) _ | refine Below.alloc ?_ (by first | (simp; done) | (simp; omega) | omega) _))))).mono ?_; rintro e w2 ⟨rfl, b2⟩
  have d2 : Below w1.heap.size w1 w2 := below_step (by repeat (first | exact Below.refl _ _ | refine below_drewN ?_ _ | refine Below.drew ?_ | refine Below.setCell ?_ (by first | (simp; done) | (simp; omega) | omega) _ | refine Below.alloc ?_ (by first | (simp; done) | (simp; omega) | omega) _)) b2
  have B2 := Lib.hid (below_step B1.out d2)
  have aQ0 := B1.out.size
  have Q02 : Bk3 w2 (w1.heap.size) (.int .i64 0) (.int .i64 0) (.int .i64 8) := Bk3.of b2 (by simp <;> omega) (by intro j; simp [go_sem]) (by simp [go_sem]) (by simp [go_sem]) (by simp [go_sem])
  clear b2 d2 B1
  have cQ0_b := Q02.hb
  have cQ0_f := Q02.fz
  have cQ0_0 := Q02.k0
  have cQ0_1 := Q02.k1
  have cQ0_2 := Q02.k2
  go_wp2_with fail
  clear cQ0_b cQ0_f cQ0_0 cQ0_1 cQ0_2
  refine (R2.out _ tp p (L0.out.keep (below_step B2.out (by repeat (first | exact Below.refl _ _ | refine below_drewN ?_ _ | refine Below.drew ?_ | refine Below.setCell ?_ (by first | (simp; done) | (simp; omega) | omega) _ | refine Below.alloc ?_ (by first | (simp; done) | (simp; omega) | omega) _))))).mono ?_; rintro e w3 ⟨rfl, b3⟩
  have d3 : Below w2.heap.size w2 w3 := below_step (by repeat (first | exact Below.refl _ _ | refine below_drewN ?_ _ | refine Below.drew ?_ | refine Below.setCell ?_ (by first | (simp; done) | (simp; omega) | omega) _ | refine Below.alloc ?_ (by first | (simp; done) | (simp; omega) | omega) _)) b3
  have B3 := Lib.hid (below_step B2.out d3)
  have Q03 := Q02.keep d3
  have aQ1 := B2.out.size
  have nQ1Q0 := Nat.ne_of_lt Q02.hb
  have oQ1Q0 := Nat.ne_of_gt Q02.hb
  have Q13 : Bk3 w3 (w2.heap.size) (.int .i64 1) (.int .i64 0) (.int .i64 0) := Bk3.of b3 (by simp <;> omega) (by intro j; simp [go_sem]) (by simp [go_sem]) (by simp [go_sem]) (by simp [go_sem])
  clear Q02 b3 d3 B2
  have cQ0_b := Q03.hb
  have cQ0_f := Q03.fz
  have cQ0_0 := Q03.k0
  have cQ0_1 := Q03.k1
  have cQ0_2 := Q03.k2
  have cQ1_b := Q13.hb
  have cQ1_f := Q13.fz
  have cQ1_0 := Q13.k0
  have cQ1_1 := Q13.k1
  have cQ1_2 := Q13.k2
  go_wp2_with fail
  clear cQ0_b cQ0_f cQ0_0 cQ0_1 cQ0_2 cQ1_b cQ1_f cQ1_0 cQ1_1 cQ1_2
  refine (R3.out _ tp p (L0.out.keep (below_step B3.out (by repeat (first | exact Below.refl _ _ | refine below_drewN ?_ _ | refine Below.drew ?_ | refine Below.setCell ?_ (by first | (simp; done) | (simp; omega) | omega) _ | refine Below.alloc ?_ (by first | (simp; done) | (simp; omega) | omega) _))))).mono ?_; rintro e w4 ⟨rfl, b4⟩
  have d4 : Below w3.heap.size w3 w4 := below_step (by repeat (first | exact Below.refl _ _ | refine below_drewN ?_ _ | refine Below.drew ?_ | refine Below.setCell ?_ (by first | (simp; done) | (simp; omega) | omega) _ | refine Below.alloc ?_ (by first | (simp; done) | (simp; omega) | omega) _)) b4
  have B4 := Lib.hid (below_step B3.out d4)
  have Q04 := Q03.keep d4
  have Q14 := Q13.keep d4
  have aQ2 := B3.out.size
  have nQ2Q0 := Nat.ne_of_lt Q03.hb
  have oQ2Q0 := Nat.ne_of_gt Q03.hb
  have nQ2Q1 := Nat.ne_of_lt Q13.hb
  have oQ2Q1 := Nat.ne_of_gt Q13.hb
  have Q24 : Bk3 w4 (w3.heap.size) (.int .i64 2) (.int .i64 0) (.int .i64 8) := Bk3.of b4 (by simp <;> omega) (by intro j; simp [go_sem]) (by simp [go_sem]) (by simp [go_sem]) (by simp [go_sem])
  clear Q03 Q13 b4 d4 B3
  have cQ0_b := Q04.hb
  have cQ0_f := Q04.fz
  have cQ0_0 := Q04.k0
  have cQ0_1 := Q04.k1
  have cQ0_2 := Q04.k2
  have cQ1_b := Q14.hb
  have cQ1_f := Q14.fz
  have cQ1_0 := Q14.k0
  have cQ1_1 := Q14.k1
  have cQ1_2 := Q14.k2
  have cQ2_b := Q24.hb
  have cQ2_f := Q24.fz
  have cQ2_0 := Q24.k0
  have cQ2_1 := Q24.k1
  have cQ2_2 := Q24.k2
  go_wp2_with fail
  clear cQ0_b cQ0_f cQ0_0 cQ0_1 cQ0_2 cQ1_b cQ1_f cQ1_0 cQ1_1 cQ1_2 cQ2_b cQ2_f cQ2_0 cQ2_1 cQ2_2
  refine (R4.out _ tp p (L0.out.keep (below_step B4.out (by repeat (first | exact Below.refl _ _ | refine below_drewN ?_ _ | refine Below.drew ?_ | refine Below.setCell ?_ (by first | (simp; done) | (simp; omega) | omega) _ | refine Below.alloc ?_ (by first | (simp; done) | (simp; omega) | omega) _))))).mono ?_; rintro e w5 ⟨rfl, b5⟩
  have d5 : Below w4.heap.size w4 w5 := below_step (by repeat (first | exact Below.refl _ _ | refine below_drewN ?_ _ | refine Below.drew ?_ | refine Below.setCell ?_ (by first | (simp; done) | (simp; omega) | omega) _ | refine Below.alloc ?_ (by first | (simp; done) | (simp; omega) | omega) _)) b5
  have B5 := Lib.hid (below_step B4.out d5)
  have Q05 := Q04.keep d5
  have Q15 := Q14.keep d5
  have Q25 := Q24.keep d5
  have aQ3 := B4.out.size
  have nQ3Q0 := Nat.ne_of_lt Q04.hb
  have oQ3Q0 := Nat.ne_of_gt Q04.hb
  have nQ3Q1 := Nat.ne_of_lt Q14.hb
  have oQ3Q1 := Nat.ne_of_gt Q14.hb
  have nQ3Q2 := Nat.ne_of_lt Q24.hb
  have oQ3Q2 := Nat.ne_of_gt Q24.hb
  have Q35 : Bk3 w5 (w4.heap.size) (.int .i64 3) (.int .i64 1) (.int .i64 25) := Bk3.of b5 (by simp <;> omega) (by intro j; simp [go_sem]) (by simp [go_sem]) (by simp [go_sem]) (by simp [go_sem])
  clear Q04 Q14 Q24 b5 d5 B4
  have cQ0_b := Q05.hb
  have cQ0_f := Q05.fz
  have cQ0_0 := Q05.k0
  have cQ0_1 := Q05.k1
  have cQ0_2 := Q05.k2
  have cQ1_b := Q15.hb
  have cQ1_f := Q15.fz
  have cQ1_0 := Q15.k0
  have cQ1_1 := Q15.k1
  have cQ1_2 := Q15.k2
  have cQ2_b := Q25.hb
  have cQ2_f := Q25.fz
  have cQ2_0 := Q25.k0
  have cQ2_1 := Q25.k1
  have cQ2_2 := Q25.k2
  have cQ3_b := Q35.hb
  have cQ3_f := Q35.fz
  have cQ3_0 := Q35.k0
  have cQ3_1 := Q35.k1
  have cQ3_2 := Q35.k2
  go_wp2_with fail
  clear cQ0_b cQ0_f cQ0_0 cQ0_1 cQ0_2 cQ1_b cQ1_f cQ1_0 cQ1_1 cQ1_2 cQ2_b cQ2_f cQ2_0 cQ2_1 cQ2_2 cQ3_b cQ3_f cQ3_0 cQ3_1 cQ3_2
  refine (R5.out _ tp p (L0.out.keep (below_step B5.out (by repeat (first | exact Below.refl _ _ | refine below_drewN ?_ _ | refine Below.drew ?_ | refine Below.setCell ?_ (by first | (simp; done) | (simp; omega) | omega) _ | refine Below.alloc ?_ (by first | (simp; done) | (simp; omega) | omega) _))))).mono ?_; rintro e w6 ⟨rfl, b6⟩
  have d6 : Below w5.heap.size w5 w6 := below_step (by repeat (first | exact Below.refl _ _ | refine below_drewN ?_ _ | refine Below.drew ?_ | refine Below.setCell ?_ (by first | (simp; done) | (simp; omega) | omega) _ | refine Below.alloc ?_ (by first | (simp; done) | (simp; omega) | omega) _)) b6
  have B6 := Lib.hid (below_step B5.out d6)
  have Q06 := Q05.keep d6
  have Q16 := Q15.keep d6
  have Q26 := Q25.keep d6
  have Q36 := Q35.keep d6
  have aQ4 := B5.out.size
  have nQ4Q0 := Nat.ne_of_lt Q05.hb
  have oQ4Q0 := Nat.ne_of_gt Q05.hb
  have nQ4Q1 := Nat.ne_of_lt Q15.hb
  have oQ4Q1 := Nat.ne_of_gt Q15.hb
  have nQ4Q2 := Nat.ne_of_lt Q25.hb
  have oQ4Q2 := Nat.ne_of_gt Q25.hb
  have nQ4Q3 := Nat.ne_of_lt Q35.hb
  have oQ4Q3 := Nat.ne_of_gt Q35.hb
  have Q46 : Bk3 w6 (w5.heap.size) (.int .i64 0) (.int .i64 0) (.int .i64 0) := Bk3.of b6 (by simp <;> omega) (by intro j; simp [go_sem]) (by simp [go_sem]) (by simp [go_sem]) (by simp [go_sem])
  clear Q05 Q15 Q25 Q35 b6 d6 B5
  have cQ0_b := Q06.hb
  have cQ0_f := Q06.fz
  have cQ0_0 := Q06.k0
  have cQ0_1 := Q06.k1
  have cQ0_2 := Q06.k2
  have cQ1_b := Q16.hb
  have cQ1_f := Q16.fz
  have cQ1_0 := Q16.k0
  have cQ1_1 := Q16.k1
  have cQ1_2 := Q16.k2
  have cQ2_b := Q26.hb
  have cQ2_f := Q26.fz
  have cQ2_0 := Q26.k0
  have cQ2_1 := Q26.k1
  have cQ2_2 := Q26.k2
  have cQ3_b := Q36.hb
  have cQ3_f := Q36.fz
  have cQ3_0 := Q36.k0
  have cQ3_1 := Q36.k1
  have cQ3_2 := Q36.k2
  have cQ4_b := Q46.hb
  have cQ4_f := Q46.fz
  have cQ4_0 := Q46.k0
  have cQ4_1 := Q46.k1
  have cQ4_2 := Q46.k2
  go_wp2_with fail
  clear cQ0_b cQ0_f cQ0_0 cQ0_1 cQ0_2 cQ1_b cQ1_f cQ1_0 cQ1_1 cQ1_2 cQ2_b cQ2_f cQ2_0 cQ2_1 cQ2_2 cQ3_b cQ3_f cQ3_0 cQ3_1 cQ3_2 cQ4_b cQ4_f cQ4_0 cQ4_1 cQ4_2
  refine (R6.out _ tp p (L0.out.keep (below_step B6.out (by repeat (first | exact Below.refl _ _ | refine below_drewN ?_ _ | refine Below.drew ?_ | refine Below.setCell ?_ (by first | (simp; done) | (simp; omega) | omega) _ | refine Below.alloc ?_ (by first | (simp; done) | (simp; omega) | omega) _))))).mono ?_; rintro e w7 ⟨rfl, b7⟩
  have d7 : Below w6.heap.size w6 w7 := below_step (by repeat (first | exact Below.refl _ _ | refine below_drewN ?_ _ | refine Below.drew ?_ | refine Below.setCell ?_ (by first | (simp; done) | (simp; omega) | omega) _ | refine Below.alloc ?_ (by first | (simp; done) | (simp; omega) | omega) _)) b7
  have B7 := Lib.hid (below_step B6.out d7)
  have Q07 := Q06.keep d7
  have Q17 := Q16.keep d7
  have Q27 := Q26.keep d7
  have Q37 := Q36.keep d7
  have Q47 := Q46.keep d7
  have aQ5 := B6.out.size
  have nQ5Q0 := Nat.ne_of_lt Q06.hb
  have oQ5Q0 := Nat.ne_of_gt Q06.hb
  have nQ5Q1 := Nat.ne_of_lt Q16.hb
  have oQ5Q1 := Nat.ne_of_gt Q16.hb
  have nQ5Q2 := Nat.ne_of_lt Q26.hb
  have oQ5Q2 := Nat.ne_of_gt Q26.hb
  have nQ5Q3 := Nat.ne_of_lt Q36.hb
  have oQ5Q3 := Nat.ne_of_gt Q36.hb
  have nQ5Q4 := Nat.ne_of_lt Q46.hb
  have oQ5Q4 := Nat.ne_of_gt Q46.hb
  have Q57 : Bk3 w7 (w6.heap.size) (.int .i64 0) (.int .i64 0) (.int .i64 0) := Bk3.of b7 (by simp <;> omega) (by intro j; simp [go_sem]) (by simp [go_sem]) (by simp [go_sem]) (by simp [go_sem])
  clear Q06 Q16 Q26 Q36 Q46 b7 d7 B6
  have cQ0_b := Q07.hb
  have cQ0_f := Q07.fz
  have cQ0_0 := Q07.k0
  have cQ0_1 := Q07.k1
  have cQ0_2 := Q07.k2
  have cQ1_b := Q17.hb
  have cQ1_f := Q17.fz
  have cQ1_0 := Q17.k0
  have cQ1_1 := Q17.k1
  have cQ1_2 := Q17.k2
  have cQ2_b := Q27.hb
  have cQ2_f := Q27.fz
  have cQ2_0 := Q27.k0
  have cQ2_1 := Q27.k1
  have cQ2_2 := Q27.k2
  have cQ3_b := Q37.hb
  have cQ3_f := Q37.fz
  have cQ3_0 := Q37.k0
  have cQ3_1 := Q37.k1
  have cQ3_2 := Q37.k2
  have cQ4_b := Q47.hb
  have cQ4_f := Q47.fz
  have cQ4_0 := Q47.k0
  have cQ4_1 := Q47.k1
  have cQ4_2 := Q47.k2
  have cQ5_b := Q57.hb
  have cQ5_f := Q57.fz
  have cQ5_0 := Q57.k0
  have cQ5_1 := Q57.k1
  have cQ5_2 := Q57.k2
  go_wp2_with fail
  clear cQ0_b cQ0_f cQ0_0 cQ0_1 cQ0_2 cQ1_b cQ1_f cQ1_0 cQ1_1 cQ1_2 cQ2_b cQ2_f cQ2_0 cQ2_1 cQ2_2 cQ3_b cQ3_f cQ3_0 cQ3_1 cQ3_2 cQ4_b cQ4_f cQ4_0 cQ4_1 cQ4_2 cQ5_b cQ5_f cQ5_0 cQ5_1 cQ5_2
  refine (R7.out _ tp p (L0.out.keep (below_step B7.out (by repeat (first | exact Below.refl _ _ | refine below_drewN ?_ _ | refine Below.drew ?_ | refine Below.setCell ?_ (by first | (simp; done) | (simp; omega) | omega) _ | refine Below.alloc ?_ (by first | (simp; done) | (simp; omega) | omega) _))))).mono ?_; rintro e w8 ⟨rfl, b8⟩
  have d8 : Below w7.heap.size w7 w8 := below_step (by repeat (first | exact Below.refl _ _ | refine below_drewN ?_ _ | refine Below.drew ?_ | refine Below.setCell ?_ (by first | (simp; done) | (simp; omega) | omega) _ | refine Below.alloc ?_ (by first | (simp; done) | (simp; omega) | omega) _)) b8
  have B8 := Lib.hid (below_step B7.out d8)
  have Q08 := Q07.keep d8
  have Q18 := Q17.keep d8
  have Q28 := Q27.keep d8
  have Q38 := Q37.keep d8
  have Q48 := Q47.keep d8
  have Q58 := Q57.keep d8
  have aQ6 := B7.out.size
  have nQ6Q0 := Nat.ne_of_lt Q07.hb
  have oQ6Q0 := Nat.ne_of_gt Q07.hb
  have nQ6Q1 := Nat.ne_of_lt Q17.hb
  have oQ6Q1 := Nat.ne_of_gt Q17.hb
  have nQ6Q2 := Nat.ne_of_lt Q27.hb
  have oQ6Q2 := Nat.ne_of_gt Q27.hb
  have nQ6Q3 := Nat.ne_of_lt Q37.hb
  have oQ6Q3 := Nat.ne_of_gt Q37.hb
  have nQ6Q4 := Nat.ne_of_lt Q47.hb
  have oQ6Q4 := Nat.ne_of_gt Q47.hb
  have nQ6Q5 := Nat.ne_of_lt Q57.hb
  have oQ6Q5 := Nat.ne_of_gt Q57.hb
  have Q68 : Bk3 w8 (w7.heap.size) (.int .i64 0) (.int .i64 0) (.int .i64 0) := Bk3.of b8 (by simp <;> omega) (by intro j; simp [go_sem]) (by simp [go_sem]) (by simp [go_sem]) (by simp [go_sem])
  clear Q07 Q17 Q27 Q37 Q47 Q57 b8 d8 B7
  have cQ0_b := Q08.hb
  have cQ0_f := Q08.fz
  have cQ0_0 := Q08.k0
  have cQ0_1 := Q08.k1
  have cQ0_2 := Q08.k2
  have cQ1_b := Q18.hb
  have cQ1_f := Q18.fz
  have cQ1_0 := Q18.k0
  have cQ1_1 := Q18.k1
  have cQ1_2 := Q18.k2
  have cQ2_b := Q28.hb
  have cQ2_f := Q28.fz
  have cQ2_0 := Q28.k0
  have cQ2_1 := Q28.k1
  have cQ2_2 := Q28.k2
  have cQ3_b := Q38.hb
  have cQ3_f := Q38.fz
  have cQ3_0 := Q38.k0
  have cQ3_1 := Q38.k1
  have cQ3_2 := Q38.k2
  have cQ4_b := Q48.hb
  have cQ4_f := Q48.fz
  have cQ4_0 := Q48.k0
  have cQ4_1 := Q48.k1
  have cQ4_2 := Q48.k2
  have cQ5_b := Q58.hb
  have cQ5_f := Q58.fz
  have cQ5_0 := Q58.k0
  have cQ5_1 := Q58.k1
  have cQ5_2 := Q58.k2
  have cQ6_b := Q68.hb
  have cQ6_f := Q68.fz
  have cQ6_0 := Q68.k0
  have cQ6_1 := Q68.k1
  have cQ6_2 := Q68.k2
  go_wp2_with fail
  clear cQ0_b cQ0_f cQ0_0 cQ0_1 cQ0_2 cQ1_b cQ1_f cQ1_0 cQ1_1 cQ1_2 cQ2_b cQ2_f cQ2_0 cQ2_1 cQ2_2 cQ3_b cQ3_f cQ3_0 cQ3_1 cQ3_2 cQ4_b cQ4_f cQ4_0 cQ4_1 cQ4_2 cQ5_b cQ5_f cQ5_0 cQ5_1 cQ5_2 cQ6_b cQ6_f cQ6_0 cQ6_1 cQ6_2
  refine (R8.out _ tp p (L0.out.keep (below_step B8.out (by repeat (first | exact Below.refl _ _ | refine below_drewN ?_ _ | refine Below.drew ?_ | refine Below.setCell ?_ (by first | (simp; done) | (simp; omega) | omega) _ | refine Below.alloc ?_ (by first | (simp; done) | (simp; omega) | omega) _))))).mono ?_; rintro e w9 ⟨rfl, b9⟩
  have d9 : Below w8.heap.size w8 w9 := below_step (by repeat (first | exact Below.refl _ _ | refine below_drewN ?_ _ | refine Below.drew ?_ | refine Below.setCell ?_ (by first | (simp; done) | (simp; omega) | omega) _ | refine Below.alloc ?_ (by first | (simp; done) | (simp; omega) | omega) _)) b9
  have B9 := Lib.hid (below_step B8.out d9)
  have Q09 := Q08.keep d9
  have Q19 := Q18.keep d9
  have Q29 := Q28.keep d9
  have Q39 := Q38.keep d9
  have Q49 := Q48.keep d9
  have Q59 := Q58.keep d9
  have Q69 := Q68.keep d9
  have aQ7 := B8.out.size
  have nQ7Q0 := Nat.ne_of_lt Q08.hb
  have oQ7Q0 := Nat.ne_of_gt Q08.hb
  have nQ7Q1 := Nat.ne_of_lt Q18.hb
  have oQ7Q1 := Nat.ne_of_gt Q18.hb
  have nQ7Q2 := Nat.ne_of_lt Q28.hb
  have oQ7Q2 := Nat.ne_of_gt Q28.hb
  have nQ7Q3 := Nat.ne_of_lt Q38.hb
  have oQ7Q3 := Nat.ne_of_gt Q38.hb
  have nQ7Q4 := Nat.ne_of_lt Q48.hb
  have oQ7Q4 := Nat.ne_of_gt Q48.hb
  have nQ7Q5 := Nat.ne_of_lt Q58.hb
  have oQ7Q5 := Nat.ne_of_gt Q58.hb
  have nQ7Q6 := Nat.ne_of_lt Q68.hb
  have oQ7Q6 := Nat.ne_of_gt Q68.hb
  have Q79 : Bk3 w9 (w8.heap.size) (.int .i64 0) (.int .i64 0) (.int .i64 0) := Bk3.of b9 (by simp <;> omega) (by intro j; simp [go_sem]) (by simp [go_sem]) (by simp [go_sem]) (by simp [go_sem])
  clear Q08 Q18 Q28 Q38 Q48 Q58 Q68 b9 d9 B8
  have cQ0_b := Q09.hb
  have cQ0_f := Q09.fz
  have cQ0_0 := Q09.k0
  have cQ0_1 := Q09.k1
  have cQ0_2 := Q09.k2
  have cQ1_b := Q19.hb
  have cQ1_f := Q19.fz
  have cQ1_0 := Q19.k0
  have cQ1_1 := Q19.k1
  have cQ1_2 := Q19.k2
  have cQ2_b := Q29.hb
  have cQ2_f := Q29.fz
  have cQ2_0 := Q29.k0
  have cQ2_1 := Q29.k1
  have cQ2_2 := Q29.k2
  have cQ3_b := Q39.hb
  have cQ3_f := Q39.fz
  have cQ3_0 := Q39.k0
  have cQ3_1 := Q39.k1
  have cQ3_2 := Q39.k2
  have cQ4_b := Q49.hb
  have cQ4_f := Q49.fz
  have cQ4_0 := Q49.k0
  have cQ4_1 := Q49.k1
  have cQ4_2 := Q49.k2
  have cQ5_b := Q59.hb
  have cQ5_f := Q59.fz
  have cQ5_0 := Q59.k0
  have cQ5_1 := Q59.k1
  have cQ5_2 := Q59.k2
  have cQ6_b := Q69.hb
  have cQ6_f := Q69.fz
  have cQ6_0 := Q69.k0
  have cQ6_1 := Q69.k1
  have cQ6_2 := Q69.k2
  have cQ7_b := Q79.hb
  have cQ7_f := Q79.fz
  have cQ7_0 := Q79.k0
  have cQ7_1 := Q79.k1
  have cQ7_2 := Q79.k2
  go_wp2_with fail
  clear cQ0_b cQ0_f cQ0_0 cQ0_1 cQ0_2 cQ1_b cQ1_f cQ1_0 cQ1_1 cQ1_2 cQ2_b cQ2_f cQ2_0 cQ2_1 cQ2_2 cQ3_b cQ3_f cQ3_0 cQ3_1 cQ3_2 cQ4_b cQ4_f cQ4_0 cQ4_1 cQ4_2 cQ5_b cQ5_f cQ5_0 cQ5_1 cQ5_2 cQ6_b cQ6_f cQ6_0 cQ6_1 cQ6_2 cQ7_b cQ7_f cQ7_0 cQ7_1 cQ7_2
  refine (R9.out _ tp p (L0.out.keep (below_step B9.out (by repeat (first | exact Below.refl _ _ | refine below_drewN ?_ _ | refine Below.drew ?_ | refine Below.setCell ?_ (by first | (simp; done) | (simp; omega) | omega) _ | refine Below.alloc ?_ (by first | (simp; done) | (simp; omega) | omega) _))))).mono ?_; rintro e w10 ⟨rfl, b10⟩
  have d10 : Below w9.heap.size w9 w10 := below_step (by repeat (first | exact Below.refl _ _ | refine below_drewN ?_ _ | refine Below.drew ?_ | refine Below.setCell ?_ (by first | (simp; done) | (simp; omega) | omega) _ | refine Below.alloc ?_ (by first | (simp; done) | (simp; omega) | omega) _)) b10
  have B10 := Lib.hid (below_step B9.out d10)
  have Q010 := Q09.keep d10
  have Q110 := Q19.keep d10
  have Q210 := Q29.keep d10
  have Q310 := Q39.keep d10
  have Q410 := Q49.keep d10
  have Q510 := Q59.keep d10
  have Q610 := Q69.keep d10
  have Q710 := Q79.keep d10
  have aQ8 := B9.out.size
  have nQ8Q0 := Nat.ne_of_lt Q09.hb
  have oQ8Q0 := Nat.ne_of_gt Q09.hb
  have nQ8Q1 := Nat.ne_of_lt Q19.hb
  have oQ8Q1 := Nat.ne_of_gt Q19.hb
  have nQ8Q2 := Nat.ne_of_lt Q29.hb
  have oQ8Q2 := Nat.ne_of_gt Q29.hb
  have nQ8Q3 := Nat.ne_of_lt Q39.hb
  have oQ8Q3 := Nat.ne_of_gt Q39.hb
  have nQ8Q4 := Nat.ne_of_lt Q49.hb
  have oQ8Q4 := Nat.ne_of_gt Q49.hb
  have nQ8Q5 := Nat.ne_of_lt Q59.hb
  have oQ8Q5 := Nat.ne_of_gt Q59.hb
  have nQ8Q6 := Nat.ne_of_lt Q69.hb
  have oQ8Q6 := Nat.ne_of_gt Q69.hb
  have nQ8Q7 := Nat.ne_of_lt Q79.hb
  have oQ8Q7 := Nat.ne_of_gt Q79.hb
  have Q810 : Bk3 w10 (w9.heap.size) (.int .i64 0) (.int .i64 0) (.int .i64 0) := Bk3.of b10 (by simp <;> omega) (by intro j; simp [go_sem]) (by simp [go_sem]) (by simp [go_sem]) (by simp [go_sem])
  clear Q09 Q19 Q29 Q39 Q49 Q59 Q69 Q79 b10 d10 B9
  have cQ0_b := Q010.hb
  have cQ0_f := Q010.fz
  have cQ0_0 := Q010.k0
  have cQ0_1 := Q010.k1
  have cQ0_2 := Q010.k2
  have cQ1_b := Q110.hb
  have cQ1_f := Q110.fz
  have cQ1_0 := Q110.k0
  have cQ1_1 := Q110.k1
  have cQ1_2 := Q110.k2
  have cQ2_b := Q210.hb
  have cQ2_f := Q210.fz
  have cQ2_0 := Q210.k0
  have cQ2_1 := Q210.k1
  have cQ2_2 := Q210.k2
  have cQ3_b := Q310.hb
  have cQ3_f := Q310.fz
  have cQ3_0 := Q310.k0
  have cQ3_1 := Q310.k1
  have cQ3_2 := Q310.k2
  have cQ4_b := Q410.hb
  have cQ4_f := Q410.fz
  have cQ4_0 := Q410.k0
  have cQ4_1 := Q410.k1
  have cQ4_2 := Q410.k2
  have cQ5_b := Q510.hb
  have cQ5_f := Q510.fz
  have cQ5_0 := Q510.k0
  have cQ5_1 := Q510.k1
  have cQ5_2 := Q510.k2
  have cQ6_b := Q610.hb
  have cQ6_f := Q610.fz
  have cQ6_0 := Q610.k0
  have cQ6_1 := Q610.k1
  have cQ6_2 := Q610.k2
  have cQ7_b := Q710.hb
  have cQ7_f := Q710.fz
  have cQ7_0 := Q710.k0
  have cQ7_1 := Q710.k1
  have cQ7_2 := Q710.k2
  have cQ8_b := Q810.hb
  have cQ8_f := Q810.fz
  have cQ8_0 := Q810.k0
  have cQ8_1 := Q810.k1
  have cQ8_2 := Q810.k2
  go_wp2_with fail
  clear cQ0_b cQ0_f cQ0_0 cQ0_1 cQ0_2 cQ1_b cQ1_f cQ1_0 cQ1_1 cQ1_2 cQ2_b cQ2_f cQ2_0 cQ2_1 cQ2_2 cQ3_b cQ3_f cQ3_0 cQ3_1 cQ3_2 cQ4_b cQ4_f cQ4_0 cQ4_1 cQ4_2 cQ5_b cQ5_f cQ5_0 cQ5_1 cQ5_2 cQ6_b cQ6_f cQ6_0 cQ6_1 cQ6_2 cQ7_b cQ7_f cQ7_0 cQ7_1 cQ7_2 cQ8_b cQ8_f cQ8_0 cQ8_1 cQ8_2
  refine (R10.out _ tp p (L0.out.keep (below_step B10.out (by repeat (first | exact Below.refl _ _ | refine below_drewN ?_ _ | refine Below.drew ?_ | refine Below.setCell ?_ (by first | (simp; done) | (simp; omega) | omega) _ | refine Below.alloc ?_ (by first | (simp; done) | (simp; omega) | omega) _))))).mono ?_; rintro e w11 ⟨rfl, b11⟩
  have d11 : Below w10.heap.size w10 w11 := below_step (by repeat (first | exact Below.refl _ _ | refine below_drewN ?_ _ | refine Below.drew ?_ | refine Below.setCell ?_ (by first | (simp; done) | (simp; omega) | omega) _ | refine Below.alloc ?_ (by first | (simp; done) | (simp; omega) | omega) _)) b11
  have B11 := Lib.hid (below_step B10.out d11)
  have Q011 := Q010.keep d11
  have Q111 := Q110.keep d11
  have Q211 := Q210.keep d11
  have Q311 := Q310.keep d11
  have Q411 := Q410.keep d11
  have Q511 := Q510.keep d11
  have Q611 := Q610.keep d11
  have Q711 := Q710.keep d11
  have Q811 := Q810.keep d11
  have aQ9 := B10.out.size
  have nQ9Q0 := Nat.ne_of_lt Q010.hb
  have oQ9Q0 := Nat.ne_of_gt Q010.hb
  have nQ9Q1 := Nat.ne_of_lt Q110.hb
  have oQ9Q1 := Nat.ne_of_gt Q110.hb
  have nQ9Q2 := Nat.ne_of_lt Q210.hb
  have oQ9Q2 := Nat.ne_of_gt Q210.hb
  have nQ9Q3 := Nat.ne_of_lt Q310.hb
  have oQ9Q3 := Nat.ne_of_gt Q310.hb
  have nQ9Q4 := Nat.ne_of_lt Q410.hb
  have oQ9Q4 := Nat.ne_of_gt Q410.hb
  have nQ9Q5 := Nat.ne_of_lt Q510.hb
  have oQ9Q5 := Nat.ne_of_gt Q510.hb
  have nQ9Q6 := Nat.ne_of_lt Q610.hb
  have oQ9Q6 := Nat.ne_of_gt Q610.hb
  have nQ9Q7 := Nat.ne_of_lt Q710.hb
  have oQ9Q7 := Nat.ne_of_gt Q710.hb
  have nQ9Q8 := Nat.ne_of_lt Q810.hb
  have oQ9Q8 := Nat.ne_of_gt Q810.hb
  have Q911 : Bk3 w11 (w10.heap.size) (.int .i64 0) (.int .i64 0) (.int .i64 0) := Bk3.of b11 (by simp <;> omega) (by intro j; simp [go_sem]) (by simp [go_sem]) (by simp [go_sem]) (by simp [go_sem])
  clear Q010 Q110 Q210 Q310 Q410 Q510 Q610 Q710 Q810 b11 d11 B10
  have cQ0_b := Q011.hb
  have cQ0_f := Q011.fz
  have cQ0_0 := Q011.k0
  have cQ0_1 := Q011.k1
  have cQ0_2 := Q011.k2
  have cQ1_b := Q111.hb
  have cQ1_f := Q111.fz
  have cQ1_0 := Q111.k0
  have cQ1_1 := Q111.k1
  have cQ1_2 := Q111.k2
  have cQ2_b := Q211.hb
  have cQ2_f := Q211.fz
  have cQ2_0 := Q211.k0
  have cQ2_1 := Q211.k1
  have cQ2_2 := Q211.k2
  have cQ3_b := Q311.hb
  have cQ3_f := Q311.fz
  have cQ3_0 := Q311.k0
  have cQ3_1 := Q311.k1
  have cQ3_2 := Q311.k2
  have cQ4_b := Q411.hb
  have cQ4_f := Q411.fz
  have cQ4_0 := Q411.k0
  have cQ4_1 := Q411.k1
  have cQ4_2 := Q411.k2
  have cQ5_b := Q511.hb
  have cQ5_f := Q511.fz
  have cQ5_0 := Q511.k0
  have cQ5_1 := Q511.k1
  have cQ5_2 := Q511.k2
  have cQ6_b := Q611.hb
  have cQ6_f := Q611.fz
  have cQ6_0 := Q611.k0
  have cQ6_1 := Q611.k1
  have cQ6_2 := Q611.k2
  have cQ7_b := Q711.hb
  have cQ7_f := Q711.fz
  have cQ7_0 := Q711.k0
  have cQ7_1 := Q711.k1
  have cQ7_2 := Q711.k2
  have cQ8_b := Q811.hb
  have cQ8_f := Q811.fz
  have cQ8_0 := Q811.k0
  have cQ8_1 := Q811.k1
  have cQ8_2 := Q811.k2
  have cQ9_b := Q911.hb
  have cQ9_f := Q911.fz
  have cQ9_0 := Q911.k0
  have cQ9_1 := Q911.k1
  have cQ9_2 := Q911.k2
  go_wp2_with fail
  clear cQ0_b cQ0_f cQ0_0 cQ0_1 cQ0_2 cQ1_b cQ1_f cQ1_0 cQ1_1 cQ1_2 cQ2_b cQ2_f cQ2_0 cQ2_1 cQ2_2 cQ3_b cQ3_f cQ3_0 cQ3_1 cQ3_2 cQ4_b cQ4_f cQ4_0 cQ4_1 cQ4_2 cQ5_b cQ5_f cQ5_0 cQ5_1 cQ5_2 cQ6_b cQ6_f cQ6_0 cQ6_1 cQ6_2 cQ7_b cQ7_f cQ7_0 cQ7_1 cQ7_2 cQ8_b cQ8_f cQ8_0 cQ8_1 cQ8_2 cQ9_b cQ9_f cQ9_0 cQ9_1 cQ9_2
  refine (R11.out _ tp p (L0.out.keep (below_step B11.out (by repeat (first | exact Below.refl _ _ | refine below_drewN ?_ _ | refine Below.drew ?_ | refine Below.setCell ?_ (by first | (simp; done) | (simp; omega) | omega) _ | refine Below.alloc ?_ (by first | (simp; done) | (simp; omega) | omega) _))))).mono ?_; rintro e w12 ⟨rfl, b12⟩
  have d12 : Below w11.heap.size w11 w12 := below_step (by repeat (first | exact Below.refl _ _ | refine below_drewN ?_ _ | refine Below.drew ?_ | refine Below.setCell ?_ (by first | (simp; done) | (simp; omega) | omega) _ | refine Below.alloc ?_ (by first | (simp; done) | (simp; omega) | omega) _)) b12
  have B12 := Lib.hid (below_step B11.out d12)
  have Q012 := Q011.keep d12
  have Q112 := Q111.keep d12
  have Q212 := Q211.keep d12
  have Q312 := Q311.keep d12
  have Q412 := Q411.keep d12
  have Q512 := Q511.keep d12
  have Q612 := Q611.keep d12
  have Q712 := Q711.keep d12
  have Q812 := Q811.keep d12
  have Q912 := Q911.keep d12
  have aQ10 := B11.out.size
  have nQ10Q0 := Nat.ne_of_lt Q011.hb
  have oQ10Q0 := Nat.ne_of_gt Q011.hb
  have nQ10Q1 := Nat.ne_of_lt Q111.hb
  have oQ10Q1 := Nat.ne_of_gt Q111.hb
  have nQ10Q2 := Nat.ne_of_lt Q211.hb
  have oQ10Q2 := Nat.ne_of_gt Q211.hb
  have nQ10Q3 := Nat.ne_of_lt Q311.hb
  have oQ10Q3 := Nat.ne_of_gt Q311.hb
  have nQ10Q4 := Nat.ne_of_lt Q411.hb
  have oQ10Q4 := Nat.ne_of_gt Q411.hb
  have nQ10Q5 := Nat.ne_of_lt Q511.hb
  have oQ10Q5 := Nat.ne_of_gt Q511.hb
  have nQ10Q6 := Nat.ne_of_lt Q611.hb
  have oQ10Q6 := Nat.ne_of_gt Q611.hb
  have nQ10Q7 := Nat.ne_of_lt Q711.hb
  have oQ10Q7 := Nat.ne_of_gt Q711.hb
  have nQ10Q8 := Nat.ne_of_lt Q811.hb
  have oQ10Q8 := Nat.ne_of_gt Q811.hb
  have nQ10Q9 := Nat.ne_of_lt Q911.hb
  have oQ10Q9 := Nat.ne_of_gt Q911.hb
  have Q1012 : Bk3 w12 (w11.heap.size) (.int .i64 0) (.int .i64 0) (.int .i64 0) := Bk3.of b12 (by simp <;> omega) (by intro j; simp [go_sem]) (by simp [go_sem]) (by simp [go_sem]) (by simp [go_sem])
  clear Q011 Q111 Q211 Q311 Q411 Q511 Q611 Q711 Q811 Q911 b12 d12 B11
  have cQ0_b := Q012.hb
  have cQ0_f := Q012.fz
  have cQ0_0 := Q012.k0
  have cQ0_1 := Q012.k1
  have cQ0_2 := Q012.k2
  have cQ1_b := Q112.hb
  have cQ1_f := Q112.fz
  have cQ1_0 := Q112.k0
  have cQ1_1 := Q112.k1
  have cQ1_2 := Q112.k2
  have cQ2_b := Q212.hb
  have cQ2_f := Q212.fz
  have cQ2_0 := Q212.k0
  have cQ2_1 := Q212.k1
  have cQ2_2 := Q212.k2
  have cQ3_b := Q312.hb
  have cQ3_f := Q312.fz
  have cQ3_0 := Q312.k0
  have cQ3_1 := Q312.k1
  have cQ3_2 := Q312.k2
  have cQ4_b := Q412.hb
  have cQ4_f := Q412.fz
  have cQ4_0 := Q412.k0
  have cQ4_1 := Q412.k1
  have cQ4_2 := Q412.k2
  have cQ5_b := Q512.hb
  have cQ5_f := Q512.fz
  have cQ5_0 := Q512.k0
  have cQ5_1 := Q512.k1
  have cQ5_2 := Q512.k2
  have cQ6_b := Q612.hb
  have cQ6_f := Q612.fz
  have cQ6_0 := Q612.k0
  have cQ6_1 := Q612.k1
  have cQ6_2 := Q612.k2
  have cQ7_b := Q712.hb
  have cQ7_f := Q712.fz
  have cQ7_0 := Q712.k0
  have cQ7_1 := Q712.k1
  have cQ7_2 := Q712.k2
  have cQ8_b := Q812.hb
  have cQ8_f := Q812.fz
  have cQ8_0 := Q812.k0
  have cQ8_1 := Q812.k1
  have cQ8_2 := Q812.k2
  have cQ9_b := Q912.hb
  have cQ9_f := Q912.fz
  have cQ9_0 := Q912.k0
  have cQ9_1 := Q912.k1
  have cQ9_2 := Q912.k2
  have cQ10_b := Q1012.hb
  have cQ10_f := Q1012.fz
  have cQ10_0 := Q1012.k0
  have cQ10_1 := Q1012.k1
  have cQ10_2 := Q1012.k2
  go_wp2_with fail
  clear cQ0_b cQ0_f cQ0_0 cQ0_1 cQ0_2 cQ1_b cQ1_f cQ1_0 cQ1_1 cQ1_2 cQ2_b cQ2_f cQ2_0 cQ2_1 cQ2_2 cQ3_b cQ3_f cQ3_0 cQ3_1 cQ3_2 cQ4_b cQ4_f cQ4_0 cQ4_1 cQ4_2 cQ5_b cQ5_f cQ5_0 cQ5_1 cQ5_2 cQ6_b cQ6_f cQ6_0 cQ6_1 cQ6_2 cQ7_b cQ7_f cQ7_0 cQ7_1 cQ7_2 cQ8_b cQ8_f cQ8_0 cQ8_1 cQ8_2 cQ9_b cQ9_f cQ9_0 cQ9_1 cQ9_2 cQ10_b cQ10_f cQ10_0 cQ10_1 cQ10_2
  refine (R12.out _ tp p (L0.out.keep (below_step B12.out (by repeat (first | exact Below.refl _ _ | refine below_drewN ?_ _ | refine Below.drew ?_ | refine Below.setCell ?_ (by first | (simp; done) | (simp; omega) | omega) _ | refine Below.alloc ?_ (by first | (simp; done) | (simp; omega) | omega) _))))).mono ?_; rintro e w13 ⟨rfl, b13⟩
  have d13 : Below w12.heap.size w12 w13 := below_step (by repeat (first | exact Below.refl _ _ | refine below_drewN ?_ _ | refine Below.drew ?_ | refine Below.setCell ?_ (by first | (simp; done) | (simp; omega) | omega) _ | refine Below.alloc ?_ (by first | (simp; done) | (simp; omega) | omega) _)) b13
  have B13 := Lib.hid (below_step B12.out d13)
  have Q013 := Q012.keep d13
  have Q113 := Q112.keep d13
  have Q213 := Q212.keep d13
  have Q313 := Q312.keep d13
  have Q413 := Q412.keep d13
  have Q513 := Q512.keep d13
  have Q613 := Q612.keep d13
  have Q713 := Q712.keep d13
  have Q813 := Q812.keep d13
  have Q913 := Q912.keep d13
  have Q1013 := Q1012.keep d13
  have aQ11 := B12.out.size
  have nQ11Q0 := Nat.ne_of_lt Q012.hb
  have oQ11Q0 := Nat.ne_of_gt Q012.hb
  have nQ11Q1 := Nat.ne_of_lt Q112.hb
  have oQ11Q1 := Nat.ne_of_gt Q112.hb
  have nQ11Q2 := Nat.ne_of_lt Q212.hb
  have oQ11Q2 := Nat.ne_of_gt Q212.hb
  have nQ11Q3 := Nat.ne_of_lt Q312.hb
  have oQ11Q3 := Nat.ne_of_gt Q312.hb
  have nQ11Q4 := Nat.ne_of_lt Q412.hb
  have oQ11Q4 := Nat.ne_of_gt Q412.hb
  have nQ11Q5 := Nat.ne_of_lt Q512.hb
  have oQ11Q5 := Nat.ne_of_gt Q512.hb
  have nQ11Q6 := Nat.ne_of_lt Q612.hb
  have oQ11Q6 := Nat.ne_of_gt Q612.hb
  have nQ11Q7 := Nat.ne_of_lt Q712.hb
  have oQ11Q7 := Nat.ne_of_gt Q712.hb
  have nQ11Q8 := Nat.ne_of_lt Q812.hb
  have oQ11Q8 := Nat.ne_of_gt Q812.hb
  have nQ11Q9 := Nat.ne_of_lt Q912.hb
  have oQ11Q9 := Nat.ne_of_gt Q912.hb
  have nQ11Q10 := Nat.ne_of_lt Q1012.hb
  have oQ11Q10 := Nat.ne_of_gt Q1012.hb
  have Q1113 : Bk3 w13 (w12.heap.size) (.int .i64 0) (.int .i64 0) (.int .i64 0) := Bk3.of b13 (by simp <;> omega) (by intro j; simp [go_sem]) (by simp [go_sem]) (by simp [go_sem]) (by simp [go_sem])
  clear Q012 Q112 Q212 Q312 Q412 Q512 Q612 Q712 Q812 Q912 Q1012 b13 d13 B12
  have cQ0_b := Q013.hb
  have cQ0_f := Q013.fz
  have cQ0_0 := Q013.k0
  have cQ0_1 := Q013.k1
  have cQ0_2 := Q013.k2
  have cQ1_b := Q113.hb
  have cQ1_f := Q113.fz
  have cQ1_0 := Q113.k0
  have cQ1_1 := Q113.k1
  have cQ1_2 := Q113.k2
  have cQ2_b := Q213.hb
  have cQ2_f := Q213.fz
  have cQ2_0 := Q213.k0
  have cQ2_1 := Q213.k1
  have cQ2_2 := Q213.k2
  have cQ3_b := Q313.hb
  have cQ3_f := Q313.fz
  have cQ3_0 := Q313.k0
  have cQ3_1 := Q313.k1
  have cQ3_2 := Q313.k2
  have cQ4_b := Q413.hb
  have cQ4_f := Q413.fz
  have cQ4_0 := Q413.k0
  have cQ4_1 := Q413.k1
  have cQ4_2 := Q413.k2
  have cQ5_b := Q513.hb
  have cQ5_f := Q513.fz
  have cQ5_0 := Q513.k0
  have cQ5_1 := Q513.k1
  have cQ5_2 := Q513.k2
  have cQ6_b := Q613.hb
  have cQ6_f := Q613.fz
  have cQ6_0 := Q613.k0
  have cQ6_1 := Q613.k1
  have cQ6_2 := Q613.k2
  have cQ7_b := Q713.hb
  have cQ7_f := Q713.fz
  have cQ7_0 := Q713.k0
  have cQ7_1 := Q713.k1
  have cQ7_2 := Q713.k2
  have cQ8_b := Q813.hb
  have cQ8_f := Q813.fz
  have cQ8_0 := Q813.k0
  have cQ8_1 := Q813.k1
  have cQ8_2 := Q813.k2
  have cQ9_b := Q913.hb
  have cQ9_f := Q913.fz
  have cQ9_0 := Q913.k0
  have cQ9_1 := Q913.k1
  have cQ9_2 := Q913.k2
  have cQ10_b := Q1013.hb
  have cQ10_f := Q1013.fz
  have cQ10_0 := Q1013.k0
  have cQ10_1 := Q1013.k1
  have cQ10_2 := Q1013.k2
  have cQ11_b := Q1113.hb
  have cQ11_f := Q1113.fz
  have cQ11_0 := Q1113.k0
  have cQ11_1 := Q1113.k1
  have cQ11_2 := Q1113.k2
  go_wp2_with fail
  clear cQ0_b cQ0_f cQ0_0 cQ0_1 cQ0_2 cQ1_b cQ1_f cQ1_0 cQ1_1 cQ1_2 cQ2_b cQ2_f cQ2_0 cQ2_1 cQ2_2 cQ3_b cQ3_f cQ3_0 cQ3_1 cQ3_2 cQ4_b cQ4_f cQ4_0 cQ4_1 cQ4_2 cQ5_b cQ5_f cQ5_0 cQ5_1 cQ5_2 cQ6_b cQ6_f cQ6_0 cQ6_1 cQ6_2 cQ7_b cQ7_f cQ7_0 cQ7_1 cQ7_2 cQ8_b cQ8_f cQ8_0 cQ8_1 cQ8_2 cQ9_b cQ9_f cQ9_0 cQ9_1 cQ9_2 cQ10_b cQ10_f cQ10_0 cQ10_1 cQ10_2 cQ11_b cQ11_f cQ11_0 cQ11_1 cQ11_2
  refine (X0.out _ tp p (L0.out.keep (below_step B13.out (by repeat (first | exact Below.refl _ _ | refine below_drewN ?_ _ | refine Below.drew ?_ | refine Below.setCell ?_ (by first | (simp; done) | (simp; omega) | omega) _ | refine Below.alloc ?_ (by first | (simp; done) | (simp; omega) | omega) _))))).mono ?_; rintro e w14 ⟨rfl, b14⟩
  have d14 : Below w13.heap.size w13 w14 := below_step (by repeat (first | exact Below.refl _ _ | refine below_drewN ?_ _ | refine Below.drew ?_ | refine Below.setCell ?_ (by first | (simp; done) | (simp; omega) | omega) _ | refine Below.alloc ?_ (by first | (simp; done) | (simp; omega) | omega) _)) b14
  have B14 := Lib.hid (below_step B13.out d14)
  have Q014 := Q013.keep d14
  have Q114 := Q113.keep d14
  have Q214 := Q213.keep d14
  have Q314 := Q313.keep d14
  have Q414 := Q413.keep d14
  have Q514 := Q513.keep d14
  have Q614 := Q613.keep d14
  have Q714 := Q713.keep d14
  have Q814 := Q813.keep d14
  have Q914 := Q913.keep d14
  have Q1014 := Q1013.keep d14
  have Q1114 := Q1113.keep d14
  have aQ12 := B13.out.size
  have nQ12Q0 := Nat.ne_of_lt Q013.hb
  have oQ12Q0 := Nat.ne_of_gt Q013.hb
  have nQ12Q1 := Nat.ne_of_lt Q113.hb
  have oQ12Q1 := Nat.ne_of_gt Q113.hb
  have nQ12Q2 := Nat.ne_of_lt Q213.hb
  have oQ12Q2 := Nat.ne_of_gt Q213.hb
  have nQ12Q3 := Nat.ne_of_lt Q313.hb
  have oQ12Q3 := Nat.ne_of_gt Q313.hb
  have nQ12Q4 := Nat.ne_of_lt Q413.hb
  have oQ12Q4 := Nat.ne_of_gt Q413.hb
  have nQ12Q5 := Nat.ne_of_lt Q513.hb
  have oQ12Q5 := Nat.ne_of_gt Q513.hb
  have nQ12Q6 := Nat.ne_of_lt Q613.hb
  have oQ12Q6 := Nat.ne_of_gt Q613.hb
  have nQ12Q7 := Nat.ne_of_lt Q713.hb
  have oQ12Q7 := Nat.ne_of_gt Q713.hb
  have nQ12Q8 := Nat.ne_of_lt Q813.hb
  have oQ12Q8 := Nat.ne_of_gt Q813.hb
  have nQ12Q9 := Nat.ne_of_lt Q913.hb
  have oQ12Q9 := Nat.ne_of_gt Q913.hb
  have nQ12Q10 := Nat.ne_of_lt Q1013.hb
  have oQ12Q10 := Nat.ne_of_gt Q1013.hb
  have nQ12Q11 := Nat.ne_of_lt Q1113.hb
  have oQ12Q11 := Nat.ne_of_gt Q1113.hb
  have Q1214 : Bk3 w14 (w13.heap.size) (.int .i64 0) (.int .i64 0) (.int .i64 0) := Bk3.of b14 (by simp <;> omega) (by intro j; simp [go_sem]) (by simp [go_sem]) (by simp [go_sem]) (by simp [go_sem])
  clear Q013 Q113 Q213 Q313 Q413 Q513 Q613 Q713 Q813 Q913 Q1013 Q1113 b14 d14 B13
  have cQ0_b := Q014.hb
  have cQ0_f := Q014.fz
  have cQ0_0 := Q014.k0
  have cQ0_1 := Q014.k1
  have cQ0_2 := Q014.k2
  have cQ1_b := Q114.hb
  have cQ1_f := Q114.fz
  have cQ1_0 := Q114.k0
  have cQ1_1 := Q114.k1
  have cQ1_2 := Q114.k2
  have cQ2_b := Q214.hb
  have cQ2_f := Q214.fz
  have cQ2_0 := Q214.k0
  have cQ2_1 := Q214.k1
  have cQ2_2 := Q214.k2
  have cQ3_b := Q314.hb
  have cQ3_f := Q314.fz
  have cQ3_0 := Q314.k0
  have cQ3_1 := Q314.k1
  have cQ3_2 := Q314.k2
  have cQ4_b := Q414.hb
  have cQ4_f := Q414.fz
  have cQ4_0 := Q414.k0
  have cQ4_1 := Q414.k1
  have cQ4_2 := Q414.k2
  have cQ5_b := Q514.hb
  have cQ5_f := Q514.fz
  have cQ5_0 := Q514.k0
  have cQ5_1 := Q514.k1
  have cQ5_2 := Q514.k2
  have cQ6_b := Q614.hb
  have cQ6_f := Q614.fz
  have cQ6_0 := Q614.k0
  have cQ6_1 := Q614.k1
  have cQ6_2 := Q614.k2
  have cQ7_b := Q714.hb
  have cQ7_f := Q714.fz
  have cQ7_0 := Q714.k0
  have cQ7_1 := Q714.k1
  have cQ7_2 := Q714.k2
  have cQ8_b := Q814.hb
  have cQ8_f := Q814.fz
  have cQ8_0 := Q814.k0
  have cQ8_1 := Q814.k1
  have cQ8_2 := Q814.k2
  have cQ9_b := Q914.hb
  have cQ9_f := Q914.fz
  have cQ9_0 := Q914.k0
  have cQ9_1 := Q914.k1
  have cQ9_2 := Q914.k2
  have cQ10_b := Q1014.hb
  have cQ10_f := Q1014.fz
  have cQ10_0 := Q1014.k0
  have cQ10_1 := Q1014.k1
  have cQ10_2 := Q1014.k2
  have cQ11_b := Q1114.hb
  have cQ11_f := Q1114.fz
  have cQ11_0 := Q1114.k0
  have cQ11_1 := Q1114.k1
  have cQ11_2 := Q1114.k2
  have cQ12_b := Q1214.hb
  have cQ12_f := Q1214.fz
  have cQ12_0 := Q1214.k0
  have cQ12_1 := Q1214.k1
  have cQ12_2 := Q1214.k2
  go_wp2_with fail
  clear cQ0_b cQ0_f cQ0_0 cQ0_1 cQ0_2 cQ1_b cQ1_f cQ1_0 cQ1_1 cQ1_2 cQ2_b cQ2_f cQ2_0 cQ2_1 cQ2_2 cQ3_b cQ3_f cQ3_0 cQ3_1 cQ3_2 cQ4_b cQ4_f cQ4_0 cQ4_1 cQ4_2 cQ5_b cQ5_f cQ5_0 cQ5_1 cQ5_2 cQ6_b cQ6_f cQ6_0 cQ6_1 cQ6_2 cQ7_b cQ7_f cQ7_0 cQ7_1 cQ7_2 cQ8_b cQ8_f cQ8_0 cQ8_1 cQ8_2 cQ9_b cQ9_f cQ9_0 cQ9_1 cQ9_2 cQ10_b cQ10_f cQ10_0 cQ10_1 cQ10_2 cQ11_b cQ11_f cQ11_0 cQ11_1 cQ11_2 cQ12_b cQ12_f cQ12_0 cQ12_1 cQ12_2
  refine (X1.out _ tp p (L0.out.keep (below_step B14.out (by repeat (first | exact Below.refl _ _ | refine below_drewN ?_ _ | refine Below.drew ?_ | refine Below.setCell ?_ (by first | (simp; done) | (simp; omega) | omega) _ | refine Below.alloc ?_ (by first | (simp; done) | (simp; omega) | omega) _))))).mono ?_; rintro e w15 ⟨rfl, b15⟩
  have d15 : Below w14.heap.size w14 w15 := below_step (by repeat (first | exact Below.refl _ _ | refine below_drewN ?_ _ | refine Below.drew ?_ | refine Below.setCell ?_ (by first | (simp; done) | (simp; omega) | omega) _ | refine Below.alloc ?_ (by first | (simp; done) | (simp; omega) | omega) _)) b15
  have B15 := Lib.hid (below_step B14.out d15)
  have Q015 := Q014.keep d15
  have Q115 := Q114.keep d15
  have Q215 := Q214.keep d15
  have Q315 := Q314.keep d15
  have Q415 := Q414.keep d15
  have Q515 := Q514.keep d15
  have Q615 := Q614.keep d15
  have Q715 := Q714.keep d15
  have Q815 := Q814.keep d15
  have Q915 := Q914.keep d15
  have Q1015 := Q1014.keep d15
  have Q1115 := Q1114.keep d15
  have Q1215 := Q1214.keep d15
  clear Q014 Q114 Q214 Q314 Q414 Q514 Q614 Q714 Q814 Q914 Q1014 Q1114 Q1214 b15 d15 B14
  have cQ0_b := Q015.hb
  have cQ0_f := Q015.fz
  have cQ0_0 := Q015.k0
  have cQ0_1 := Q015.k1
  have cQ0_2 := Q015.k2
  have cQ1_b := Q115.hb
  have cQ1_f := Q115.fz
  have cQ1_0 := Q115.k0
  have cQ1_1 := Q115.k1
  have cQ1_2 := Q115.k2
  have cQ2_b := Q215.hb
  have cQ2_f := Q215.fz
  have cQ2_0 := Q215.k0
  have cQ2_1 := Q215.k1
  have cQ2_2 := Q215.k2
  have cQ3_b := Q315.hb
  have cQ3_f := Q315.fz
  have cQ3_0 := Q315.k0
  have cQ3_1 := Q315.k1
  have cQ3_2 := Q315.k2
  have cQ4_b := Q415.hb
  have cQ4_f := Q415.fz
  have cQ4_0 := Q415.k0
  have cQ4_1 := Q415.k1
  have cQ4_2 := Q415.k2
  have cQ5_b := Q515.hb
  have cQ5_f := Q515.fz
  have cQ5_0 := Q515.k0
  have cQ5_1 := Q515.k1
  have cQ5_2 := Q515.k2
  have cQ6_b := Q615.hb
  have cQ6_f := Q615.fz
  have cQ6_0 := Q615.k0
  have cQ6_1 := Q615.k1
  have cQ6_2 := Q615.k2
  have cQ7_b := Q715.hb
  have cQ7_f := Q715.fz
  have cQ7_0 := Q715.k0
  have cQ7_1 := Q715.k1
  have cQ7_2 := Q715.k2
  have cQ8_b := Q815.hb
  have cQ8_f := Q815.fz
  have cQ8_0 := Q815.k0
  have cQ8_1 := Q815.k1
  have cQ8_2 := Q815.k2
  have cQ9_b := Q915.hb
  have cQ9_f := Q915.fz
  have cQ9_0 := Q915.k0
  have cQ9_1 := Q915.k1
  have cQ9_2 := Q915.k2
  have cQ10_b := Q1015.hb
  have cQ10_f := Q1015.fz
  have cQ10_0 := Q1015.k0
  have cQ10_1 := Q1015.k1
  have cQ10_2 := Q1015.k2
  have cQ11_b := Q1115.hb
  have cQ11_f := Q1115.fz
  have cQ11_0 := Q1115.k0
  have cQ11_1 := Q1115.k1
  have cQ11_2 := Q1115.k2
  have cQ12_b := Q1215.hb
  have cQ12_f := Q1215.fz
  have cQ12_0 := Q1215.k0
  have cQ12_1 := Q1215.k1
  have cQ12_2 := Q1215.k2
  go_wp2_with fail
  clear cQ0_b cQ0_f cQ0_0 cQ0_1 cQ0_2 cQ1_b cQ1_f cQ1_0 cQ1_1 cQ1_2 cQ2_b cQ2_f cQ2_0 cQ2_1 cQ2_2 cQ3_b cQ3_f cQ3_0 cQ3_1 cQ3_2 cQ4_b cQ4_f cQ4_0 cQ4_1 cQ4_2 cQ5_b cQ5_f cQ5_0 cQ5_1 cQ5_2 cQ6_b cQ6_f cQ6_0 cQ6_1 cQ6_2 cQ7_b cQ7_f cQ7_0 cQ7_1 cQ7_2 cQ8_b cQ8_f cQ8_0 cQ8_1 cQ8_2 cQ9_b cQ9_f cQ9_0 cQ9_1 cQ9_2 cQ10_b cQ10_f cQ10_0 cQ10_1 cQ10_2 cQ11_b cQ11_f cQ11_0 cQ11_1 cQ11_2 cQ12_b cQ12_f cQ12_0 cQ12_1 cQ12_2
  refine (X2.out _ tp p (L0.out.keep (below_step B15.out (by repeat (first | exact Below.refl _ _ | refine below_drewN ?_ _ | refine Below.drew ?_ | refine Below.setCell ?_ (by first | (simp; done) | (simp; omega) | omega) _ | refine Below.alloc ?_ (by first | (simp; done) | (simp; omega) | omega) _))))).mono ?_; rintro e w16 ⟨rfl, b16⟩
  have d16 : Below w15.heap.size w15 w16 := below_step (by repeat (first | exact Below.refl _ _ | refine below_drewN ?_ _ | refine Below.drew ?_ | refine Below.setCell ?_ (by first | (simp; done) | (simp; omega) | omega) _ | refine Below.alloc ?_ (by first | (simp; done) | (simp; omega) | omega) _)) b16
  have B16 := Lib.hid (below_step B15.out d16)
  have Q016 := Q015.keep d16
  have Q116 := Q115.keep d16
  have Q216 := Q215.keep d16
  have Q316 := Q315.keep d16
  have Q416 := Q415.keep d16
  have Q516 := Q515.keep d16
  have Q616 := Q615.keep d16
  have Q716 := Q715.keep d16
  have Q816 := Q815.keep d16
  have Q916 := Q915.keep d16
  have Q1016 := Q1015.keep d16
  have Q1116 := Q1115.keep d16
  have Q1216 := Q1215.keep d16
  clear Q015 Q115 Q215 Q315 Q415 Q515 Q615 Q715 Q815 Q915 Q1015 Q1115 Q1215 b16 d16 B15
  have cQ0_b := Q016.hb
  have cQ0_f := Q016.fz
  have cQ0_0 := Q016.k0
  have cQ0_1 := Q016.k1
  have cQ0_2 := Q016.k2
  have cQ1_b := Q116.hb
  have cQ1_f := Q116.fz
  have cQ1_0 := Q116.k0
  have cQ1_1 := Q116.k1
  have cQ1_2 := Q116.k2
  have cQ2_b := Q216.hb
  have cQ2_f := Q216.fz
  have cQ2_0 := Q216.k0
  have cQ2_1 := Q216.k1
  have cQ2_2 := Q216.k2
  have cQ3_b := Q316.hb
  have cQ3_f := Q316.fz
  have cQ3_0 := Q316.k0
  have cQ3_1 := Q316.k1
  have cQ3_2 := Q316.k2
  have cQ4_b := Q416.hb
  have cQ4_f := Q416.fz
  have cQ4_0 := Q416.k0
  have cQ4_1 := Q416.k1
  have cQ4_2 := Q416.k2
  have cQ5_b := Q516.hb
  have cQ5_f := Q516.fz
  have cQ5_0 := Q516.k0
  have cQ5_1 := Q516.k1
  have cQ5_2 := Q516.k2
  have cQ6_b := Q616.hb
  have cQ6_f := Q616.fz
  have cQ6_0 := Q616.k0
  have cQ6_1 := Q616.k1
  have cQ6_2 := Q616.k2
  have cQ7_b := Q716.hb
  have cQ7_f := Q716.fz
  have cQ7_0 := Q716.k0
  have cQ7_1 := Q716.k1
  have cQ7_2 := Q716.k2
  have cQ8_b := Q816.hb
  have cQ8_f := Q816.fz
  have cQ8_0 := Q816.k0
  have cQ8_1 := Q816.k1
  have cQ8_2 := Q816.k2
  have cQ9_b := Q916.hb
  have cQ9_f := Q916.fz
  have cQ9_0 := Q916.k0
  have cQ9_1 := Q916.k1
  have cQ9_2 := Q916.k2
  have cQ10_b := Q1016.hb
  have cQ10_f := Q1016.fz
  have cQ10_0 := Q1016.k0
  have cQ10_1 := Q1016.k1
  have cQ10_2 := Q1016.k2
  have cQ11_b := Q1116.hb
  have cQ11_f := Q1116.fz
  have cQ11_0 := Q1116.k0
  have cQ11_1 := Q1116.k1
  have cQ11_2 := Q1116.k2
  have cQ12_b := Q1216.hb
  have cQ12_f := Q1216.fz
  have cQ12_0 := Q1216.k0
  have cQ12_1 := Q1216.k1
  have cQ12_2 := Q1216.k2
  go_wp2_with fail
  clear cQ0_b cQ0_f cQ0_0 cQ0_1 cQ0_2 cQ1_b cQ1_f cQ1_0 cQ1_1 cQ1_2 cQ2_b cQ2_f cQ2_0 cQ2_1 cQ2_2 cQ3_b cQ3_f cQ3_0 cQ3_1 cQ3_2 cQ4_b cQ4_f cQ4_0 cQ4_1 cQ4_2 cQ5_b cQ5_f cQ5_0 cQ5_1 cQ5_2 cQ6_b cQ6_f cQ6_0 cQ6_1 cQ6_2 cQ7_b cQ7_f cQ7_0 cQ7_1 cQ7_2 cQ8_b cQ8_f cQ8_0 cQ8_1 cQ8_2 cQ9_b cQ9_f cQ9_0 cQ9_1 cQ9_2 cQ10_b cQ10_f cQ10_0 cQ10_1 cQ10_2 cQ11_b cQ11_f cQ11_0 cQ11_1 cQ11_2 cQ12_b cQ12_f cQ12_0 cQ12_1 cQ12_2
  go_ret
  exact ⟨rfl, (by have hz := B16.out.size; repeat (first | exact B16.out | refine below_drewN ?_ _ | refine Below.drew ?_ | refine Below.setCell ?_ (by first | omega | (simp; done) | (simp; omega)) _ | refine Below.alloc ?_ (by first | omega | (simp; done) | (simp; omega)) _))⟩
end Go.Proofs.YtafnnnbefabofaaDoor

