/- The contracts of clock.Right and clock.Read. -/
import Derived.Test.YtafnnnbefabofaaDoorClB
import Derived.Test.YtafnnnbefabofaaDoorGvE
set_option linter.unusedVariables false
set_option linter.unusedSimpArgs false
namespace Go.Proofs.YtafnnnbefabofaaDoor
open Go.RowKit Go.Sort

namespace Cl
def rB (n b : Int) : Bool := decide (0 ≤ n) && (decide (n ≤ 172800) && (decide (0 ≤ b) && decide (b < 3)))
end Cl
set_option maxHeartbeats 4000000 in
set_option maxRecDepth 100000 in
theorem clright_0 (n b : Int) (w : World) (c1 : ¬ 0 ≤ n) : Calls Tryd.prog 15 #[.agg #[.int .i64 n, .int .i64 b]] w fun e w' => e = .returned (.bool false) ∧ Below w.heap.size w w' := by
  go_enter Tryd.func15, Tryd.ntmps15
  go_wp2_with fail
  go_ret
  exact ⟨rfl, (by repeat (first | exact Below.refl _ _ | refine below_drewN ?_ _ | refine Below.drew ?_ | refine Below.setCell ?_ (by first | (simp; done) | (simp; omega) | omega) _ | refine Below.alloc ?_ (by first | (simp; done) | (simp; omega) | omega) _))⟩
set_option maxHeartbeats 4000000 in
set_option maxRecDepth 100000 in
theorem clright_1 (n b : Int) (w : World) (c1 : 0 ≤ n) (c2 : ¬ n ≤ 172800) : Calls Tryd.prog 15 #[.agg #[.int .i64 n, .int .i64 b]] w fun e w' => e = .returned (.bool false) ∧ Below w.heap.size w w' := by
  go_enter Tryd.func15, Tryd.ntmps15
  go_wp2_with fail
  go_ret
  exact ⟨rfl, (by repeat (first | exact Below.refl _ _ | refine below_drewN ?_ _ | refine Below.drew ?_ | refine Below.setCell ?_ (by first | (simp; done) | (simp; omega) | omega) _ | refine Below.alloc ?_ (by first | (simp; done) | (simp; omega) | omega) _))⟩
set_option maxHeartbeats 4000000 in
set_option maxRecDepth 100000 in
theorem clright_2 (n b : Int) (w : World) (c1 : 0 ≤ n) (c2 : n ≤ 172800) (c3 : ¬ 0 ≤ b) : Calls Tryd.prog 15 #[.agg #[.int .i64 n, .int .i64 b]] w fun e w' => e = .returned (.bool false) ∧ Below w.heap.size w w' := by
  go_enter Tryd.func15, Tryd.ntmps15
  go_wp2_with fail
  go_ret
  exact ⟨rfl, (by repeat (first | exact Below.refl _ _ | refine below_drewN ?_ _ | refine Below.drew ?_ | refine Below.setCell ?_ (by first | (simp; done) | (simp; omega) | omega) _ | refine Below.alloc ?_ (by first | (simp; done) | (simp; omega) | omega) _))⟩
set_option maxHeartbeats 4000000 in
set_option maxRecDepth 100000 in
theorem clright_3 (n b : Int) (w : World) (c1 : 0 ≤ n) (c2 : n ≤ 172800) (c3 : 0 ≤ b) (c4 : ¬ b < 3) : Calls Tryd.prog 15 #[.agg #[.int .i64 n, .int .i64 b]] w fun e w' => e = .returned (.bool false) ∧ Below w.heap.size w w' := by
  go_enter Tryd.func15, Tryd.ntmps15
  go_wp2_with fail
  go_ret
  exact ⟨rfl, (by repeat (first | exact Below.refl _ _ | refine below_drewN ?_ _ | refine Below.drew ?_ | refine Below.setCell ?_ (by first | (simp; done) | (simp; omega) | omega) _ | refine Below.alloc ?_ (by first | (simp; done) | (simp; omega) | omega) _))⟩
set_option maxHeartbeats 4000000 in
set_option maxRecDepth 100000 in
theorem clright_4 (n b : Int) (w : World) (c1 : 0 ≤ n) (c2 : n ≤ 172800) (c3 : 0 ≤ b) (c4 : b < 3) : Calls Tryd.prog 15 #[.agg #[.int .i64 n, .int .i64 b]] w fun e w' => e = .returned (.bool true) ∧ Below w.heap.size w w' := by
  go_enter Tryd.func15, Tryd.ntmps15
  go_wp2_with fail
  go_ret
  exact ⟨rfl, (by repeat (first | exact Below.refl _ _ | refine below_drewN ?_ _ | refine Below.drew ?_ | refine Below.setCell ?_ (by first | (simp; done) | (simp; omega) | omega) _ | refine Below.alloc ?_ (by first | (simp; done) | (simp; omega) | omega) _))⟩
theorem clright_any (n b : Int) (w : World) : Calls Tryd.prog 15 #[.agg #[.int .i64 n, .int .i64 b]] w fun e w' => e = .returned (.bool (Cl.rB n b)) ∧ Below w.heap.size w w' := by
  by_cases c1 : 0 ≤ n
  · by_cases c2 : n ≤ 172800
    · by_cases c3 : 0 ≤ b
      · by_cases c4 : b < 3
        · rw [show Cl.rB n b = true by unfold Cl.rB; simp [c1, c2, c3, c4]]; exact clright_4 n b w c1 c2 c3 c4
        · rw [show Cl.rB n b = false by unfold Cl.rB; simp [c1, c2, c3, c4]]; exact clright_3 n b w c1 c2 c3 c4
      · rw [show Cl.rB n b = false by unfold Cl.rB; simp [c1, c2, c3]]; exact clright_2 n b w c1 c2 c3
    · rw [show Cl.rB n b = false by unfold Cl.rB; simp [c1, c2]]; exact clright_1 n b w c1 c2
  · rw [show Cl.rB n b = false by unfold Cl.rB; simp [c1]]; exact clright_0 n b w c1
theorem clcut_any (s : ByteArray) (w : World) (T : Cl.Tab w) (hm : s.size ≤ maxLen) : Calls Tryd.prog 82 #[.string s] w fun e w' => e = .returned (.tuple #[.string (Cl.cutL s).1, .int .i64 (Cl.cutL s).2]) ∧ w = w' := by
  by_cases h : 0 < s.size
  · have hb : Cl.base s[s.size - 1] = 0 ∨ Cl.base s[s.size - 1] = 1 ∨ Cl.base s[s.size - 1] = 2 ∨ Cl.base s[s.size - 1] = 3 := by
      unfold Cl.base
      split
      · exact .inl rfl
      · split
        · exact .inr (.inl rfl)
        · split
          · exact .inr (.inr (.inl rfl))
          · exact .inr (.inr (.inr rfl))
    unfold Cl.cutL
    rw [dif_pos h]
    rcases hb with e | e | e | e
    · rw [e]; exact clcut_0 s w T h hm e
    · rw [e]; exact clcut_1 s w T h hm e
    · rw [e]; exact clcut_2 s w T h hm e
    · rw [e]; exact clcut_3 s w T h hm e
  · unfold Cl.cutL
    rw [dif_neg h]
    exact clcut_nil s w T (by omega)
set_option maxHeartbeats 4000000 in
set_option maxRecDepth 100000 in
theorem clin_why (s t : ByteArray) (b n y : Int) (W : World) (p : Nat) (hp : W.cell? ⟨p, 0, none⟩ = some (.string s)) (CC : Hid (∀ W, Cl.Tab W → Calls Tryd.prog 82 #[.string s] W fun e w' => e = .returned (.tuple #[.string t, .int .i64 b]) ∧ W = w')) (T : Cl.Tab W) (M : Hid (W.cell? ⟨5, 0, none⟩ = some (.int .i64 y))) (q : Int) (hq : q ≠ 0) (CA : Hid (∀ W, W.cell? ⟨5, 0, none⟩ = some (.int .i64 y) → Calls Tryd.prog 63 #[.string t] W fun e w' => e = .returned (.tuple #[.int .i64 n, .int .i64 q]) ∧ Below W.heap.size W w')) : Calls Tryd.prog 81 #[.pointer (some ⟨p, 0, none⟩)] W fun e w' => e = .panicked (gvP q) ∧ Below W.heap.size W w' := by
  have T0 := Lib.hid T; clear T
  have pl := World.block_lt_of_cell? _ _ hp
  have pn : p ≠ W.heap.size := Nat.ne_of_lt pl
  go_enter Tryd.func81, Tryd.ntmps81
  go_wp2_with fail
  have b0 : Below W.heap.size W (W.alloc (.cells #[.int .i64 0, .int .i64 0] 23)) := (Below.refl _ _).alloc (Nat.le_refl _) _
  refine (CC.out _ (T0.out.on b0)).mono ?_; rintro e w1 ⟨rfl, rfl⟩
  go_wp2_with fail
  refine (CA.out _ (ckm b0 M.out)).mono ?_; rintro e w2 ⟨rfl, b2⟩
  have B2 := Lib.hid (below_step b0 b2)
  have P2 : Bk2 w2 W.heap.size (.int .i64 0) (.int .i64 0) := Bk2.of b2 (by simp) (by intro j; simp [go_sem]) (by simp [go_sem]) (by simp [go_sem])
  clear b2 b0
  have p_b := P2.hb; have p_f := P2.fz; have p_0 := P2.k0; have p_1 := P2.k1
  go_wp2_with fail
  refine (must_no n q _ hq).mono ?_; rintro e w3 ⟨rfl, rfl⟩
  refine (show bodyPost _ _ _ (Exit.panic (gvP q)) _ _ from ?_)
  exact ⟨rfl, rfl, B2.out⟩
set_option maxHeartbeats 4000000 in
set_option maxRecDepth 100000 in
theorem clin_far (s t : ByteArray) (b n y : Int) (W : World) (p : Nat) (hp : W.cell? ⟨p, 0, none⟩ = some (.string s)) (CC : Hid (∀ W, Cl.Tab W → Calls Tryd.prog 82 #[.string s] W fun e w' => e = .returned (.tuple #[.string t, .int .i64 b]) ∧ W = w')) (T : Cl.Tab W) (M : Hid (W.cell? ⟨5, 0, none⟩ = some (.int .i64 y))) (CA : Hid (∀ W, W.cell? ⟨5, 0, none⟩ = some (.int .i64 y) → Calls Tryd.prog 63 #[.string t] W fun e w' => e = .returned (.tuple #[.int .i64 n, .int .i64 0]) ∧ Below W.heap.size W w')) (hr : Cl.rB n b = false) : Calls Tryd.prog 81 #[.pointer (some ⟨p, 0, none⟩)] W fun e w' => e = .panicked (gvP 1) ∧ Below W.heap.size W w' := by
  have CR : Hid (∀ W, Calls Tryd.prog 15 #[.agg #[.int .i64 n, .int .i64 b]] W fun e w' => e = .returned (.bool false) ∧ Below W.heap.size W w') := fun W => hr ▸ clright_any n b W
  clear hr
  have T0 := Lib.hid T; clear T
  have pl := World.block_lt_of_cell? _ _ hp
  have pn : p ≠ W.heap.size := Nat.ne_of_lt pl
  go_enter Tryd.func81, Tryd.ntmps81
  go_wp2_with fail
  have b0 : Below W.heap.size W (W.alloc (.cells #[.int .i64 0, .int .i64 0] 23)) := (Below.refl _ _).alloc (Nat.le_refl _) _
  refine (CC.out _ (T0.out.on b0)).mono ?_; rintro e w1 ⟨rfl, rfl⟩
  go_wp2_with fail
  refine (CA.out _ (ckm b0 M.out)).mono ?_; rintro e w2 ⟨rfl, b2⟩
  have B2 := Lib.hid (below_step b0 b2)
  have P2 : Bk2 w2 W.heap.size (.int .i64 0) (.int .i64 0) := Bk2.of b2 (by simp) (by intro j; simp [go_sem]) (by simp [go_sem]) (by simp [go_sem])
  clear b2 b0
  have p_b := P2.hb; have p_f := P2.fz; have p_0 := P2.k0; have p_1 := P2.k1
  go_wp2_with fail
  refine (must_yes n _).mono ?_; rintro e w3 ⟨rfl, rfl⟩
  go_wp2_with fail
  refine (CR.out _).mono ?_; rintro e w4 ⟨rfl, b4⟩
  have d4 : Below w2.heap.size w2 w4 := below_step ((Below.refl _ _).alloc (Nat.le_refl _) _) b4
  have B4 := Lib.hid (below_step B2.out d4)
  have P4 := P2.keep d4
  have X4 : Bk2 w4 w2.heap.size (.int .i64 n) (.int .i64 b) := Bk2.of b4 (by simp) (by intro j; simp [go_sem]) (by simp [go_sem]) (by simp [go_sem])
  clear p_b p_f p_0 p_1 P2 b4 d4
  have p_b := P4.hb; have p_f := P4.fz; have p_0 := P4.k0; have p_1 := P4.k1
  have x_b := X4.hb; have x_f := X4.fz; have x_0 := X4.k0; have x_1 := X4.k1
  clear P4 X4
  go_wp2_with fail
  refine (need_no 1 _).mono ?_; rintro e w5 ⟨rfl, rfl⟩
  refine (show bodyPost _ _ _ (Exit.panic (gvP 1)) _ _ from ?_)
  exact ⟨rfl, rfl, B4.out⟩
set_option maxHeartbeats 4000000 in
set_option maxRecDepth 100000 in
theorem clin_yes (s t : ByteArray) (b n y : Int) (W : World) (p : Nat) (hp : W.cell? ⟨p, 0, none⟩ = some (.string s)) (CC : Hid (∀ W, Cl.Tab W → Calls Tryd.prog 82 #[.string s] W fun e w' => e = .returned (.tuple #[.string t, .int .i64 b]) ∧ W = w')) (T : Cl.Tab W) (M : Hid (W.cell? ⟨5, 0, none⟩ = some (.int .i64 y))) (CA : Hid (∀ W, W.cell? ⟨5, 0, none⟩ = some (.int .i64 y) → Calls Tryd.prog 63 #[.string t] W fun e w' => e = .returned (.tuple #[.int .i64 n, .int .i64 0]) ∧ Below W.heap.size W w')) (hr : Cl.rB n b = true) : Calls Tryd.prog 81 #[.pointer (some ⟨p, 0, none⟩)] W fun e w' => e = .returned (.agg #[.int .i64 n, .int .i64 b]) ∧ Below W.heap.size W w' := by
  have CR : Hid (∀ W, Calls Tryd.prog 15 #[.agg #[.int .i64 n, .int .i64 b]] W fun e w' => e = .returned (.bool true) ∧ Below W.heap.size W w') := fun W => hr ▸ clright_any n b W
  clear hr
  have T0 := Lib.hid T; clear T
  have pl := World.block_lt_of_cell? _ _ hp
  have pn : p ≠ W.heap.size := Nat.ne_of_lt pl
  go_enter Tryd.func81, Tryd.ntmps81
  go_wp2_with fail
  have b0 : Below W.heap.size W (W.alloc (.cells #[.int .i64 0, .int .i64 0] 23)) := (Below.refl _ _).alloc (Nat.le_refl _) _
  refine (CC.out _ (T0.out.on b0)).mono ?_; rintro e w1 ⟨rfl, rfl⟩
  go_wp2_with fail
  refine (CA.out _ (ckm b0 M.out)).mono ?_; rintro e w2 ⟨rfl, b2⟩
  have B2 := Lib.hid (below_step b0 b2)
  have P2 : Bk2 w2 W.heap.size (.int .i64 0) (.int .i64 0) := Bk2.of b2 (by simp) (by intro j; simp [go_sem]) (by simp [go_sem]) (by simp [go_sem])
  clear b2 b0
  have p_b := P2.hb; have p_f := P2.fz; have p_0 := P2.k0; have p_1 := P2.k1
  go_wp2_with fail
  refine (must_yes n _).mono ?_; rintro e w3 ⟨rfl, rfl⟩
  go_wp2_with fail
  refine (CR.out _).mono ?_; rintro e w4 ⟨rfl, b4⟩
  have d4 : Below w2.heap.size w2 w4 := below_step ((Below.refl _ _).alloc (Nat.le_refl _) _) b4
  have B4 := Lib.hid (below_step B2.out d4)
  have P4 := P2.keep d4
  have X4 : Bk2 w4 w2.heap.size (.int .i64 n) (.int .i64 b) := Bk2.of b4 (by simp) (by intro j; simp [go_sem]) (by simp [go_sem]) (by simp [go_sem])
  clear p_b p_f p_0 p_1 P2 b4 d4
  have p_b := P4.hb; have p_f := P4.fz; have p_0 := P4.k0; have p_1 := P4.k1
  have x_b := X4.hb; have x_f := X4.fz; have x_0 := X4.k0; have x_1 := X4.k1
  clear P4 X4
  go_wp2_with fail
  refine (need_yes 1 _).mono ?_; rintro e w5 ⟨rfl, rfl⟩
  go_wp2_with fail
  refine bodyPost_ret (v := .agg #[.int .i64 n, .int .i64 b]) (by simp [results, Tryd.results81, go_sem, p_b, p_f, p_0, p_1, x_b, x_f, x_0, x_1]) rfl ⟨rfl, ?_⟩
  clear p_b p_f p_0 p_1 x_b x_f x_0 x_1
  repeat (refine Below.setCell ?_ (by first | (simp; done) | omega | (simp; omega)) _)
  exact B4.out
end Go.Proofs.YtafnnnbefabofaaDoor

