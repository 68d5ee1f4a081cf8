/- The contract of clock.cut. -/
import Derived.Test.YtafnnnbefabofaaDoorClA
set_option linter.unusedVariables false
set_option linter.unusedSimpArgs false
namespace Go.Proofs.YtafnnnbefabofaaDoor
open Go.RowKit Go.Sort

theorem ltr (k : Nat) (h : k < 3) : ∃ x : ByteArray, (#[ByteArray.mk #[119, 87], ByteArray.mk #[115, 83], ByteArray.mk #[117, 85, 103, 71, 122, 90]] : Array ByteArray)[k]? = some x := ⟨_, Array.getElem?_eq_getElem (by simpa using h)⟩
theorem ltr0 (W : World) : Sem.run Tryd.prog (Instr.index 79 (.agg #[.string ⟨#[119, 87]⟩, .string ⟨#[115, 83]⟩, .string ⟨#[117, 85, 103, 71, 122, 90]⟩]) (.int .i64 0)) W = .ok (.string ⟨#[119, 87]⟩) W := by kernel_rfl
theorem ltr1 (W : World) : Sem.run Tryd.prog (Instr.index 79 (.agg #[.string ⟨#[119, 87]⟩, .string ⟨#[115, 83]⟩, .string ⟨#[117, 85, 103, 71, 122, 90]⟩]) (.int .i64 1)) W = .ok (.string ⟨#[115, 83]⟩) W := by kernel_rfl
theorem ltr2 (W : World) : Sem.run Tryd.prog (Instr.index 79 (.agg #[.string ⟨#[119, 87]⟩, .string ⟨#[115, 83]⟩, .string ⟨#[117, 85, 103, 71, 122, 90]⟩]) (.int .i64 2)) W = .ok (.string ⟨#[117, 85, 103, 71, 122, 90]⟩) W := by kernel_rfl
theorem last_ix (s : ByteArray) (h : 0 < s.size) (W : World) : Sem.run Tryd.prog (Instr.index 9 (.string s) (.int .i64 ((s.size : Int) - 1))) W = .ok (.int .u8 s[s.size - 1].toNat) W := by
  rw [run_index_string W _ _ _ _ Tryd.underlying9, dif_pos ⟨by omega, by omega⟩]
  have e : ((s.size : Int) - 1).toNat = s.size - 1 := by omega
  simp [e]
set_option maxHeartbeats 4000000 in
set_option maxRecDepth 100000 in
theorem clcut_nil (s : ByteArray) (w : World) (T : Cl.Tab w) (h : s.size = 0) :
    Calls Tryd.prog 82 #[.string s] w fun e w' => e = .returned (.tuple #[.string s, .int .i64 0]) ∧ w = w' := by
  have h1 : (s.size : Int) = 0 := by omega
  have t0 := T.c0; have t1 := T.c1; have t2 := T.c2
  have l0 := ltr0; have l1 := ltr1; have l2 := ltr2
  clear T
  clear h
  go_enter Tryd.func82, Tryd.ntmps82
  go_wp2_with fail
  refine wp_loop_rounds 4 ?_
  rw [rounds_succ]
  go_wp2_with fail
  rw [rounds_succ]
  go_wp2_with fail
  rw [rounds_succ]
  go_wp2_with fail
  rw [rounds_succ]
  go_wp2_with fail
  go_ret2
  exact ⟨rfl, rfl⟩
set_option maxHeartbeats 4000000 in
set_option maxRecDepth 100000 in
theorem clcut_0 (s : ByteArray) (w : World) (T : Cl.Tab w) (h : 0 < s.size) (hm : s.size ≤ maxLen) (hb : Cl.base s[s.size - 1] = 0) :
    Calls Tryd.prog 82 #[.string s] w fun e w' => e = .returned (.tuple #[.string (s.extract 0 (s.size - 1)), .int .i64 0]) ∧ w = w' := by
  have t0 := T.c0; have t1 := T.c1; have t2 := T.c2
  have l0 := ltr0; have l1 := ltr1; have l2 := ltr2
  clear T
  have hx := last_ix s h
  have hbd := s[s.size - 1].toNat_lt
  obtain ⟨b0, b1, b2⟩ := Cl.base_at s[s.size - 1]
  rw [hb] at b0 b1 b2
  have C0 := Lib.hid (fun W => ixb ⟨#[119, 87]⟩ s[s.size - 1] W)
  have C1 := Lib.hid (fun W => ixb ⟨#[115, 83]⟩ s[s.size - 1] W)
  have C2 := Lib.hid (fun W => ixb ⟨#[117, 85, 103, 71, 122, 90]⟩ s[s.size - 1] W)
  change Hid (∀ W, Calls Tryd.prog 144 #[.string ⟨#[119, 87]⟩, .int .u8 (s[s.size - 1].toNat : Int)] W fun e w' => e = .returned (.int .i64 (Lib.indexByte [119, 87] s[s.size - 1])) ∧ W = w') at C0
  change Hid (∀ W, Calls Tryd.prog 144 #[.string ⟨#[115, 83]⟩, .int .u8 (s[s.size - 1].toNat : Int)] W fun e w' => e = .returned (.int .i64 (Lib.indexByte [115, 83] s[s.size - 1])) ∧ W = w') at C1
  change Hid (∀ W, Calls Tryd.prog 144 #[.string ⟨#[117, 85, 103, 71, 122, 90]⟩, .int .u8 (s[s.size - 1].toNat : Int)] W fun e w' => e = .returned (.int .i64 (Lib.indexByte [117, 85, 103, 71, 122, 90] s[s.size - 1])) ∧ W = w') at C2
  generalize Lib.indexByte [119, 87] s[s.size - 1] = j0 at *
  generalize Lib.indexByte [115, 83] s[s.size - 1] = j1 at *
  generalize Lib.indexByte [117, 85, 103, 71, 122, 90] s[s.size - 1] = j2 at *
  have n0 : 1 ≤ (s.size : Int) := by omega
  have n1 : (s.size : Int) ≤ 9223372036854775807 := by unfold maxLen at hm; omega
  have n2 : 0 ≤ (s.size : Int) - 1 := by omega
  have n3 : (s.size : Int) - 1 ≤ (s.size : Int) := by omega
  have g0 : 0 ≤ j0 := b0.2 rfl
  have g1 : ¬ 0 ≤ j1 := fun h => absurd (b1.1 h) (by decide)
  have g2 : ¬ 0 ≤ j2 := fun h => absurd (b2.1 h) (by decide)
  generalize (s[s.size - 1].toNat : Int) = c at hx C0 C1 C2
  clear b0 b1 b2 hb hm hbd
  go_enter Tryd.func82, Tryd.ntmps82
  go_wp2_with fail
  refine wp_loop_rounds 1 ?_
  rw [rounds_succ]
  go_wp2_with fail
  refine (C0.out _).mono ?_; rintro e w1 ⟨rfl, rfl⟩
  go_wp2_with fail
  go_ret2
  exact ⟨rfl, rfl⟩
set_option maxHeartbeats 4000000 in
set_option maxRecDepth 100000 in
theorem clcut_1 (s : ByteArray) (w : World) (T : Cl.Tab w) (h : 0 < s.size) (hm : s.size ≤ maxLen) (hb : Cl.base s[s.size - 1] = 1) :
    Calls Tryd.prog 82 #[.string s] w fun e w' => e = .returned (.tuple #[.string (s.extract 0 (s.size - 1)), .int .i64 1]) ∧ w = w' := by
  have t0 := T.c0; have t1 := T.c1; have t2 := T.c2
  have l0 := ltr0; have l1 := ltr1; have l2 := ltr2
  clear T
  have hx := last_ix s h
  have hbd := s[s.size - 1].toNat_lt
  obtain ⟨b0, b1, b2⟩ := Cl.base_at s[s.size - 1]
  rw [hb] at b0 b1 b2
  have C0 := Lib.hid (fun W => ixb ⟨#[119, 87]⟩ s[s.size - 1] W)
  have C1 := Lib.hid (fun W => ixb ⟨#[115, 83]⟩ s[s.size - 1] W)
  have C2 := Lib.hid (fun W => ixb ⟨#[117, 85, 103, 71, 122, 90]⟩ s[s.size - 1] W)
  change Hid (∀ W, Calls Tryd.prog 144 #[.string ⟨#[119, 87]⟩, .int .u8 (s[s.size - 1].toNat : Int)] W fun e w' => e = .returned (.int .i64 (Lib.indexByte [119, 87] s[s.size - 1])) ∧ W = w') at C0
  change Hid (∀ W, Calls Tryd.prog 144 #[.string ⟨#[115, 83]⟩, .int .u8 (s[s.size - 1].toNat : Int)] W fun e w' => e = .returned (.int .i64 (Lib.indexByte [115, 83] s[s.size - 1])) ∧ W = w') at C1
  change Hid (∀ W, Calls Tryd.prog 144 #[.string ⟨#[117, 85, 103, 71, 122, 90]⟩, .int .u8 (s[s.size - 1].toNat : Int)] W fun e w' => e = .returned (.int .i64 (Lib.indexByte [117, 85, 103, 71, 122, 90] s[s.size - 1])) ∧ W = w') at C2
  generalize Lib.indexByte [119, 87] s[s.size - 1] = j0 at *
  generalize Lib.indexByte [115, 83] s[s.size - 1] = j1 at *
  generalize Lib.indexByte [117, 85, 103, 71, 122, 90] s[s.size - 1] = j2 at *
  have n0 : 1 ≤ (s.size : Int) := by omega
  have n1 : (s.size : Int) ≤ 9223372036854775807 := by unfold maxLen at hm; omega
  have n2 : 0 ≤ (s.size : Int) - 1 := by omega
  have n3 : (s.size : Int) - 1 ≤ (s.size : Int) := by omega
  have g0 : ¬ 0 ≤ j0 := fun h => absurd (b0.1 h) (by decide)
  have g1 : 0 ≤ j1 := b1.2 rfl
  have g2 : ¬ 0 ≤ j2 := fun h => absurd (b2.1 h) (by decide)
  generalize (s[s.size - 1].toNat : Int) = c at hx C0 C1 C2
  clear b0 b1 b2 hb hm hbd
  go_enter Tryd.func82, Tryd.ntmps82
  go_wp2_with fail
  refine wp_loop_rounds 2 ?_
  rw [rounds_succ]
  go_wp2_with fail
  refine (C0.out _).mono ?_; rintro e w1 ⟨rfl, rfl⟩
  go_wp2_with fail
  rw [rounds_succ]
  go_wp2_with fail
  refine (C1.out _).mono ?_; rintro e w1 ⟨rfl, rfl⟩
  go_wp2_with fail
  go_ret2
  exact ⟨rfl, rfl⟩
set_option maxHeartbeats 4000000 in
set_option maxRecDepth 100000 in
theorem clcut_2 (s : ByteArray) (w : World) (T : Cl.Tab w) (h : 0 < s.size) (hm : s.size ≤ maxLen) (hb : Cl.base s[s.size - 1] = 2) :
    Calls Tryd.prog 82 #[.string s] w fun e w' => e = .returned (.tuple #[.string (s.extract 0 (s.size - 1)), .int .i64 2]) ∧ w = w' := by
  have t0 := T.c0; have t1 := T.c1; have t2 := T.c2
  have l0 := ltr0; have l1 := ltr1; have l2 := ltr2
  clear T
  have hx := last_ix s h
  have hbd := s[s.size - 1].toNat_lt
  obtain ⟨b0, b1, b2⟩ := Cl.base_at s[s.size - 1]
  rw [hb] at b0 b1 b2
  have C0 := Lib.hid (fun W => ixb ⟨#[119, 87]⟩ s[s.size - 1] W)
  have C1 := Lib.hid (fun W => ixb ⟨#[115, 83]⟩ s[s.size - 1] W)
  have C2 := Lib.hid (fun W => ixb ⟨#[117, 85, 103, 71, 122, 90]⟩ s[s.size - 1] W)
  change Hid (∀ W, Calls Tryd.prog 144 #[.string ⟨#[119, 87]⟩, .int .u8 (s[s.size - 1].toNat : Int)] W fun e w' => e = .returned (.int .i64 (Lib.indexByte [119, 87] s[s.size - 1])) ∧ W = w') at C0
  change Hid (∀ W, Calls Tryd.prog 144 #[.string ⟨#[115, 83]⟩, .int .u8 (s[s.size - 1].toNat : Int)] W fun e w' => e = .returned (.int .i64 (Lib.indexByte [115, 83] s[s.size - 1])) ∧ W = w') at C1
  change Hid (∀ W, Calls Tryd.prog 144 #[.string ⟨#[117, 85, 103, 71, 122, 90]⟩, .int .u8 (s[s.size - 1].toNat : Int)] W fun e w' => e = .returned (.int .i64 (Lib.indexByte [117, 85, 103, 71, 122, 90] s[s.size - 1])) ∧ W = w') at C2
  generalize Lib.indexByte [119, 87] s[s.size - 1] = j0 at *
  generalize Lib.indexByte [115, 83] s[s.size - 1] = j1 at *
  generalize Lib.indexByte [117, 85, 103, 71, 122, 90] s[s.size - 1] = j2 at *
  have n0 : 1 ≤ (s.size : Int) := by omega
  have n1 : (s.size : Int) ≤ 9223372036854775807 := by unfold maxLen at hm; omega
  have n2 : 0 ≤ (s.size : Int) - 1 := by omega
  have n3 : (s.size : Int) - 1 ≤ (s.size : Int) := by omega
  have g0 : ¬ 0 ≤ j0 := fun h => absurd (b0.1 h) (by decide)
  have g1 : ¬ 0 ≤ j1 := fun h => absurd (b1.1 h) (by decide)
  have g2 : 0 ≤ j2 := b2.2 rfl
  generalize (s[s.size - 1].toNat : Int) = c at hx C0 C1 C2
  clear b0 b1 b2 hb hm hbd
  go_enter Tryd.func82, Tryd.ntmps82
  go_wp2_with fail
  refine wp_loop_rounds 3 ?_
  rw [rounds_succ]
  go_wp2_with fail
  refine (C0.out _).mono ?_; rintro e w1 ⟨rfl, rfl⟩
  go_wp2_with fail
  rw [rounds_succ]
  go_wp2_with fail
  refine (C1.out _).mono ?_; rintro e w1 ⟨rfl, rfl⟩
  go_wp2_with fail
  rw [rounds_succ]
  go_wp2_with fail
  refine (C2.out _).mono ?_; rintro e w1 ⟨rfl, rfl⟩
  go_wp2_with fail
  go_ret2
  exact ⟨rfl, rfl⟩
set_option maxHeartbeats 4000000 in
set_option maxRecDepth 100000 in
theorem clcut_3 (s : ByteArray) (w : World) (T : Cl.Tab w) (h : 0 < s.size) (hm : s.size ≤ maxLen) (hb : Cl.base s[s.size - 1] = 3) :
    Calls Tryd.prog 82 #[.string s] w fun e w' => e = .returned (.tuple #[.string s, .int .i64 0]) ∧ w = w' := by
  have t0 := T.c0; have t1 := T.c1; have t2 := T.c2
  have l0 := ltr0; have l1 := ltr1; have l2 := ltr2
  clear T
  have hx := last_ix s h
  have hbd := s[s.size - 1].toNat_lt
  obtain ⟨b0, b1, b2⟩ := Cl.base_at s[s.size - 1]
  rw [hb] at b0 b1 b2
  have C0 := Lib.hid (fun W => ixb ⟨#[119, 87]⟩ s[s.size - 1] W)
  have C1 := Lib.hid (fun W => ixb ⟨#[115, 83]⟩ s[s.size - 1] W)
  have C2 := Lib.hid (fun W => ixb ⟨#[117, 85, 103, 71, 122, 90]⟩ s[s.size - 1] W)
  change Hid (∀ W, Calls Tryd.prog 144 #[.string ⟨#[119, 87]⟩, .int .u8 (s[s.size - 1].toNat : Int)] W fun e w' => e = .returned (.int .i64 (Lib.indexByte [119, 87] s[s.size - 1])) ∧ W = w') at C0
  change Hid (∀ W, Calls Tryd.prog 144 #[.string ⟨#[115, 83]⟩, .int .u8 (s[s.size - 1].toNat : Int)] W fun e w' => e = .returned (.int .i64 (Lib.indexByte [115, 83] s[s.size - 1])) ∧ W = w') at C1
  change Hid (∀ W, Calls Tryd.prog 144 #[.string ⟨#[117, 85, 103, 71, 122, 90]⟩, .int .u8 (s[s.size - 1].toNat : Int)] W fun e w' => e = .returned (.int .i64 (Lib.indexByte [117, 85, 103, 71, 122, 90] s[s.size - 1])) ∧ W = w') at C2
  generalize Lib.indexByte [119, 87] s[s.size - 1] = j0 at *
  generalize Lib.indexByte [115, 83] s[s.size - 1] = j1 at *
  generalize Lib.indexByte [117, 85, 103, 71, 122, 90] s[s.size - 1] = j2 at *
  have n0 : 1 ≤ (s.size : Int) := by omega
  have n1 : (s.size : Int) ≤ 9223372036854775807 := by unfold maxLen at hm; omega
  have n2 : 0 ≤ (s.size : Int) - 1 := by omega
  have n3 : (s.size : Int) - 1 ≤ (s.size : Int) := by omega
  have g0 : ¬ 0 ≤ j0 := fun h => absurd (b0.1 h) (by decide)
  have g1 : ¬ 0 ≤ j1 := fun h => absurd (b1.1 h) (by decide)
  have g2 : ¬ 0 ≤ j2 := fun h => absurd (b2.1 h) (by decide)
  generalize (s[s.size - 1].toNat : Int) = c at hx C0 C1 C2
  clear b0 b1 b2 hb hm hbd
  go_enter Tryd.func82, Tryd.ntmps82
  go_wp2_with fail
  refine wp_loop_rounds 4 ?_
  rw [rounds_succ]
  go_wp2_with fail
  refine (C0.out _).mono ?_; rintro e w1 ⟨rfl, rfl⟩
  go_wp2_with fail
  rw [rounds_succ]
  go_wp2_with fail
  refine (C1.out _).mono ?_; rintro e w1 ⟨rfl, rfl⟩
  go_wp2_with fail
  rw [rounds_succ]
  go_wp2_with fail
  refine (C2.out _).mono ?_; rintro e w1 ⟨rfl, rfl⟩
  go_wp2_with fail
  rw [rounds_succ]
  go_wp2_with fail
  go_ret2
  exact ⟨rfl, rfl⟩
end Go.Proofs.YtafnnnbefabofaaDoor
