/- Joined: ClBD. -/
import Derived.Test.YtpggfhmnhbnefaaGreatDoorBe08
import Derived.Test.YtpggfhmnhbnefaaGreatDoorBe03
import Derived.Test.YtpggfhmnhbnefaaGreatDoorBe15
set_option linter.unusedVariables false
set_option linter.unusedSimpArgs false
namespace Go.Proofs.YtpggfhmnhbnefaaGreatDoor
section
open Go.RowKit Go.Sort
theorem ltr (k : Nat) (h : k < 3) : ∃ x : ByteArray, (#[ByteArray.mk #[119, 87], ByteArray.mk #[115, 83], ByteArray.mk #[117, 85, 103, 71, 122, 90]] : Array ByteArray)[k]? = some x := ⟨_, Array.getElem?_eq_getElem (by simpa using h)⟩
theorem ltr0 (W : World) : Sem.run Tryz.prog (Instr.index 108 (.agg #[.string ⟨#[119, 87]⟩, .string ⟨#[115, 83]⟩, .string ⟨#[117, 85, 103, 71, 122, 90]⟩]) (.int .i64 0)) W = .ok (.string ⟨#[119, 87]⟩) W := by kernel_rfl
theorem ltr1 (W : World) : Sem.run Tryz.prog (Instr.index 108 (.agg #[.string ⟨#[119, 87]⟩, .string ⟨#[115, 83]⟩, .string ⟨#[117, 85, 103, 71, 122, 90]⟩]) (.int .i64 1)) W = .ok (.string ⟨#[115, 83]⟩) W := by kernel_rfl
theorem ltr2 (W : World) : Sem.run Tryz.prog (Instr.index 108 (.agg #[.string ⟨#[119, 87]⟩, .string ⟨#[115, 83]⟩, .string ⟨#[117, 85, 103, 71, 122, 90]⟩]) (.int .i64 2)) W = .ok (.string ⟨#[117, 85, 103, 71, 122, 90]⟩) W := by kernel_rfl
theorem last_ix (s : ByteArray) (h : 0 < s.size) (W : World) : Sem.run Tryz.prog (Instr.index 9 (.string s) (.int .i64 ((s.size : Int) - 1))) W = .ok (.int .u8 s[s.size - 1].toNat) W := by
 rw [run_index_string W _ _ _ _ Tryz.underlying9, dif_pos ⟨by omega, by omega⟩]
 have e : ((s.size : Int) - 1).toNat = s.size - 1 := by omega
 simp [e]
set_option maxHeartbeats 4000000 in
set_option maxRecDepth 100000 in
theorem clcut_nil (s : ByteArray) (w : World) (T : Cl.Tab w) (h : s.size = 0) :
  Calls Tryz.prog 139 #[.string s] w fun e w' => e = .returned (.tuple #[.string s, .int .i64 0]) ∧ w = w' := by
 have h1 : (s.size : Int) = 0 := by omega
 have t0 := T.c0; have t1 := T.c1; have t2 := T.c2
 have l0 := ltr0; have l1 := ltr1; have l2 := ltr2
 clear T
 clear h
 go_enter Tryz.func139, Tryz.ntmps139
 go_wp2_with fail
 refine wp_loop_rounds 4 ?_
 rw [rounds_succ]
 go_wp2_with fail
 rw [rounds_succ]
 go_wp2_with fail
 rw [rounds_succ]
 go_wp2_with fail
 rw [rounds_succ]
 go_wp2_with fail
 go_ret2
 exact ⟨rfl, rfl⟩
set_option maxHeartbeats 4000000 in
set_option maxRecDepth 100000 in
theorem clcut_0 (s : ByteArray) (w : World) (T : Cl.Tab w) (h : 0 < s.size) (hm : s.size ≤ maxLen) (hb : Cl.base s[s.size - 1] = 0) :
  Calls Tryz.prog 139 #[.string s] w fun e w' => e = .returned (.tuple #[.string (s.extract 0 (s.size - 1)), .int .i64 0]) ∧ w = w' := by
 have t0 := T.c0; have t1 := T.c1; have t2 := T.c2
 have l0 := ltr0; have l1 := ltr1; have l2 := ltr2
 clear T
 have hx := last_ix s h
 have hbd := s[s.size - 1].toNat_lt
 obtain ⟨b0, b1, b2⟩ := Cl.base_at s[s.size - 1]
 rw [hb] at b0 b1 b2
 have C0 := Lib.hid (fun W => ixb ⟨#[119, 87]⟩ s[s.size - 1] W)
 have C1 := Lib.hid (fun W => ixb ⟨#[115, 83]⟩ s[s.size - 1] W)
 have C2 := Lib.hid (fun W => ixb ⟨#[117, 85, 103, 71, 122, 90]⟩ s[s.size - 1] W)
 change Hid (∀ W, Calls Tryz.prog 156 #[.string ⟨#[119, 87]⟩, .int .u8 (s[s.size - 1].toNat : Int)] W fun e w' => e = .returned (.int .i64 (Lib.indexByte [119, 87] s[s.size - 1])) ∧ W = w') at C0
 change Hid (∀ W, Calls Tryz.prog 156 #[.string ⟨#[115, 83]⟩, .int .u8 (s[s.size - 1].toNat : Int)] W fun e w' => e = .returned (.int .i64 (Lib.indexByte [115, 83] s[s.size - 1])) ∧ W = w') at C1
 change Hid (∀ W, Calls Tryz.prog 156 #[.string ⟨#[117, 85, 103, 71, 122, 90]⟩, .int .u8 (s[s.size - 1].toNat : Int)] W fun e w' => e = .returned (.int .i64 (Lib.indexByte [117, 85, 103, 71, 122, 90] s[s.size - 1])) ∧ W = w') at C2
 generalize Lib.indexByte [119, 87] s[s.size - 1] = j0 at *
 generalize Lib.indexByte [115, 83] s[s.size - 1] = j1 at *
 generalize Lib.indexByte [117, 85, 103, 71, 122, 90] s[s.size - 1] = j2 at *
 have n0 : 1 ≤ (s.size : Int) := by omega
 have n1 : (s.size : Int) ≤ 9223372036854775807 := by unfold maxLen at hm; omega
 have n2 : 0 ≤ (s.size : Int) - 1 := by omega
 have n3 : (s.size : Int) - 1 ≤ (s.size : Int) := by omega
 have g0 : 0 ≤ j0 := b0.2 rfl
 have g1 : ¬ 0 ≤ j1 := fun h => absurd (b1.1 h) (by decide)
 have g2 : ¬ 0 ≤ j2 := fun h => absurd (b2.1 h) (by decide)
 generalize (s[s.size - 1].toNat : Int) = c at hx C0 C1 C2
 clear b0 b1 b2 hb hm hbd
 go_enter Tryz.func139, Tryz.ntmps139
 go_wp2_with fail
 refine wp_loop_rounds 1 ?_
 rw [rounds_succ]
 go_wp2_with fail
 refine (C0.out _).mono ?_; rintro e w1 ⟨rfl, rfl⟩
 go_wp2_with fail
 go_ret2
 exact ⟨rfl, rfl⟩
set_option maxHeartbeats 4000000 in
set_option maxRecDepth 100000 in
theorem clcut_1 (s : ByteArray) (w : World) (T : Cl.Tab w) (h : 0 < s.size) (hm : s.size ≤ maxLen) (hb : Cl.base s[s.size - 1] = 1) :
  Calls Tryz.prog 139 #[.string s] w fun e w' => e = .returned (.tuple #[.string (s.extract 0 (s.size - 1)), .int .i64 1]) ∧ w = w' := by
 have t0 := T.c0; have t1 := T.c1; have t2 := T.c2
 have l0 := ltr0; have l1 := ltr1; have l2 := ltr2
 clear T
 have hx := last_ix s h
 have hbd := s[s.size - 1].toNat_lt
 obtain ⟨b0, b1, b2⟩ := Cl.base_at s[s.size - 1]
 rw [hb] at b0 b1 b2
 have C0 := Lib.hid (fun W => ixb ⟨#[119, 87]⟩ s[s.size - 1] W)
 have C1 := Lib.hid (fun W => ixb ⟨#[115, 83]⟩ s[s.size - 1] W)
 have C2 := Lib.hid (fun W => ixb ⟨#[117, 85, 103, 71, 122, 90]⟩ s[s.size - 1] W)
 change Hid (∀ W, Calls Tryz.prog 156 #[.string ⟨#[119, 87]⟩, .int .u8 (s[s.size - 1].toNat : Int)] W fun e w' => e = .returned (.int .i64 (Lib.indexByte [119, 87] s[s.size - 1])) ∧ W = w') at C0
 change Hid (∀ W, Calls Tryz.prog 156 #[.string ⟨#[115, 83]⟩, .int .u8 (s[s.size - 1].toNat : Int)] W fun e w' => e = .returned (.int .i64 (Lib.indexByte [115, 83] s[s.size - 1])) ∧ W = w') at C1
 change Hid (∀ W, Calls Tryz.prog 156 #[.string ⟨#[117, 85, 103, 71, 122, 90]⟩, .int .u8 (s[s.size - 1].toNat : Int)] W fun e w' => e = .returned (.int .i64 (Lib.indexByte [117, 85, 103, 71, 122, 90] s[s.size - 1])) ∧ W = w') at C2
 generalize Lib.indexByte [119, 87] s[s.size - 1] = j0 at *
 generalize Lib.indexByte [115, 83] s[s.size - 1] = j1 at *
 generalize Lib.indexByte [117, 85, 103, 71, 122, 90] s[s.size - 1] = j2 at *
 have n0 : 1 ≤ (s.size : Int) := by omega
 have n1 : (s.size : Int) ≤ 9223372036854775807 := by unfold maxLen at hm; omega
 have n2 : 0 ≤ (s.size : Int) - 1 := by omega
 have n3 : (s.size : Int) - 1 ≤ (s.size : Int) := by omega
 have g0 : ¬ 0 ≤ j0 := fun h => absurd (b0.1 h) (by decide)
 have g1 : 0 ≤ j1 := b1.2 rfl
 have g2 : ¬ 0 ≤ j2 := fun h => absurd (b2.1 h) (by decide)
 generalize (s[s.size - 1].toNat : Int) = c at hx C0 C1 C2
 clear b0 b1 b2 hb hm hbd
 go_enter Tryz.func139, Tryz.ntmps139
 go_wp2_with fail
 refine wp_loop_rounds 2 ?_
 rw [rounds_succ]
 go_wp2_with fail
 refine (C0.out _).mono ?_; rintro e w1 ⟨rfl, rfl⟩
 go_wp2_with fail
 rw [rounds_succ]
 go_wp2_with fail
 refine (C1.out _).mono ?_; rintro e w1 ⟨rfl, rfl⟩
 go_wp2_with fail
 go_ret2
 exact ⟨rfl, rfl⟩
set_option maxHeartbeats 4000000 in
set_option maxRecDepth 100000 in
theorem clcut_2 (s : ByteArray) (w : World) (T : Cl.Tab w) (h : 0 < s.size) (hm : s.size ≤ maxLen) (hb : Cl.base s[s.size - 1] = 2) :
  Calls Tryz.prog 139 #[.string s] w fun e w' => e = .returned (.tuple #[.string (s.extract 0 (s.size - 1)), .int .i64 2]) ∧ w = w' := by
 have t0 := T.c0; have t1 := T.c1; have t2 := T.c2
 have l0 := ltr0; have l1 := ltr1; have l2 := ltr2
 clear T
 have hx := last_ix s h
 have hbd := s[s.size - 1].toNat_lt
 obtain ⟨b0, b1, b2⟩ := Cl.base_at s[s.size - 1]
 rw [hb] at b0 b1 b2
 have C0 := Lib.hid (fun W => ixb ⟨#[119, 87]⟩ s[s.size - 1] W)
 have C1 := Lib.hid (fun W => ixb ⟨#[115, 83]⟩ s[s.size - 1] W)
 have C2 := Lib.hid (fun W => ixb ⟨#[117, 85, 103, 71, 122, 90]⟩ s[s.size - 1] W)
 change Hid (∀ W, Calls Tryz.prog 156 #[.string ⟨#[119, 87]⟩, .int .u8 (s[s.size - 1].toNat : Int)] W fun e w' => e = .returned (.int .i64 (Lib.indexByte [119, 87] s[s.size - 1])) ∧ W = w') at C0
 change Hid (∀ W, Calls Tryz.prog 156 #[.string ⟨#[115, 83]⟩, .int .u8 (s[s.size - 1].toNat : Int)] W fun e w' => e = .returned (.int .i64 (Lib.indexByte [115, 83] s[s.size - 1])) ∧ W = w') at C1
 change Hid (∀ W, Calls Tryz.prog 156 #[.string ⟨#[117, 85, 103, 71, 122, 90]⟩, .int .u8 (s[s.size - 1].toNat : Int)] W fun e w' => e = .returned (.int .i64 (Lib.indexByte [117, 85, 103, 71, 122, 90] s[s.size - 1])) ∧ W = w') at C2
 generalize Lib.indexByte [119, 87] s[s.size - 1] = j0 at *
 generalize Lib.indexByte [115, 83] s[s.size - 1] = j1 at *
 generalize Lib.indexByte [117, 85, 103, 71, 122, 90] s[s.size - 1] = j2 at *
 have n0 : 1 ≤ (s.size : Int) := by omega
 have n1 : (s.size : Int) ≤ 9223372036854775807 := by unfold maxLen at hm; omega
 have n2 : 0 ≤ (s.size : Int) - 1 := by omega
 have n3 : (s.size : Int) - 1 ≤ (s.size : Int) := by omega
 have g0 : ¬ 0 ≤ j0 := fun h => absurd (b0.1 h) (by decide)
 have g1 : ¬ 0 ≤ j1 := fun h => absurd (b1.1 h) (by decide)
 have g2 : 0 ≤ j2 := b2.2 rfl
 generalize (s[s.size - 1].toNat : Int) = c at hx C0 C1 C2
 clear b0 b1 b2 hb hm hbd
 go_enter Tryz.func139, Tryz.ntmps139
 go_wp2_with fail
 refine wp_loop_rounds 3 ?_
 rw [rounds_succ]
 go_wp2_with fail
 refine (C0.out _).mono ?_; rintro e w1 ⟨rfl, rfl⟩
 go_wp2_with fail
 rw [rounds_succ]
 go_wp2_with fail
 refine (C1.out _).mono ?_; rintro e w1 ⟨rfl, rfl⟩
 go_wp2_with fail
 rw [rounds_succ]
 go_wp2_with fail
 refine (C2.out _).mono ?_; rintro e w1 ⟨rfl, rfl⟩
 go_wp2_with fail
 go_ret2
 exact ⟨rfl, rfl⟩
set_option maxHeartbeats 4000000 in
set_option maxRecDepth 100000 in
theorem clcut_3 (s : ByteArray) (w : World) (T : Cl.Tab w) (h : 0 < s.size) (hm : s.size ≤ maxLen) (hb : Cl.base s[s.size - 1] = 3) :
  Calls Tryz.prog 139 #[.string s] w fun e w' => e = .returned (.tuple #[.string s, .int .i64 0]) ∧ w = w' := by
 have t0 := T.c0; have t1 := T.c1; have t2 := T.c2
 have l0 := ltr0; have l1 := ltr1; have l2 := ltr2
 clear T
 have hx := last_ix s h
 have hbd := s[s.size - 1].toNat_lt
 obtain ⟨b0, b1, b2⟩ := Cl.base_at s[s.size - 1]
 rw [hb] at b0 b1 b2
 have C0 := Lib.hid (fun W => ixb ⟨#[119, 87]⟩ s[s.size - 1] W)
 have C1 := Lib.hid (fun W => ixb ⟨#[115, 83]⟩ s[s.size - 1] W)
 have C2 := Lib.hid (fun W => ixb ⟨#[117, 85, 103, 71, 122, 90]⟩ s[s.size - 1] W)
 change Hid (∀ W, Calls Tryz.prog 156 #[.string ⟨#[119, 87]⟩, .int .u8 (s[s.size - 1].toNat : Int)] W fun e w' => e = .returned (.int .i64 (Lib.indexByte [119, 87] s[s.size - 1])) ∧ W = w') at C0
 change Hid (∀ W, Calls Tryz.prog 156 #[.string ⟨#[115, 83]⟩, .int .u8 (s[s.size - 1].toNat : Int)] W fun e w' => e = .returned (.int .i64 (Lib.indexByte [115, 83] s[s.size - 1])) ∧ W = w') at C1
 change Hid (∀ W, Calls Tryz.prog 156 #[.string ⟨#[117, 85, 103, 71, 122, 90]⟩, .int .u8 (s[s.size - 1].toNat : Int)] W fun e w' => e = .returned (.int .i64 (Lib.indexByte [117, 85, 103, 71, 122, 90] s[s.size - 1])) ∧ W = w') at C2
 generalize Lib.indexByte [119, 87] s[s.size - 1] = j0 at *
 generalize Lib.indexByte [115, 83] s[s.size - 1] = j1 at *
 generalize Lib.indexByte [117, 85, 103, 71, 122, 90] s[s.size - 1] = j2 at *
 have n0 : 1 ≤ (s.size : Int) := by omega
 have n1 : (s.size : Int) ≤ 9223372036854775807 := by unfold maxLen at hm; omega
 have n2 : 0 ≤ (s.size : Int) - 1 := by omega
 have n3 : (s.size : Int) - 1 ≤ (s.size : Int) := by omega
 have g0 : ¬ 0 ≤ j0 := fun h => absurd (b0.1 h) (by decide)
 have g1 : ¬ 0 ≤ j1 := fun h => absurd (b1.1 h) (by decide)
 have g2 : ¬ 0 ≤ j2 := fun h => absurd (b2.1 h) (by decide)
 generalize (s[s.size - 1].toNat : Int) = c at hx C0 C1 C2
 clear b0 b1 b2 hb hm hbd
 go_enter Tryz.func139, Tryz.ntmps139
 go_wp2_with fail
 refine wp_loop_rounds 4 ?_
 rw [rounds_succ]
 go_wp2_with fail
 refine (C0.out _).mono ?_; rintro e w1 ⟨rfl, rfl⟩
 go_wp2_with fail
 rw [rounds_succ]
 go_wp2_with fail
 refine (C1.out _).mono ?_; rintro e w1 ⟨rfl, rfl⟩
 go_wp2_with fail
 rw [rounds_succ]
 go_wp2_with fail
 refine (C2.out _).mono ?_; rintro e w1 ⟨rfl, rfl⟩
 go_wp2_with fail
 rw [rounds_succ]
 go_wp2_with fail
 go_ret2
 exact ⟨rfl, rfl⟩
end
section
open Go.RowKit Go.Sort
theorem clcut_any (s : ByteArray) (w : World) (T : Cl.Tab w) (hm : s.size ≤ maxLen) : Calls Tryz.prog 139 #[.string s] w fun e w' => e = .returned (.tuple #[.string (Cl.cutL s).1, .int .i64 (Cl.cutL s).2]) ∧ w = w' := by
 by_cases h : 0 < s.size
 ·
  have hb : Cl.base s[s.size - 1] = 0 ∨ Cl.base s[s.size - 1] = 1 ∨ Cl.base s[s.size - 1] = 2 ∨ Cl.base s[s.size - 1] = 3 := by
   unfold Cl.base
   split
   ·
    exact .inl rfl
   ·
    split
    ·
     exact .inr (.inl rfl)
    ·
     split
     ·
      exact .inr (.inr (.inl rfl))
     ·
      exact .inr (.inr (.inr rfl))
  unfold Cl.cutL
  rw [dif_pos h]
  rcases hb with e | e | e | e
  ·
   rw [e]; exact clcut_0 s w T h hm e
  ·
   rw [e]; exact clcut_1 s w T h hm e
  ·
   rw [e]; exact clcut_2 s w T h hm e
  ·
   rw [e]; exact clcut_3 s w T h hm e
 ·
  unfold Cl.cutL
  rw [dif_neg h]
  exact clcut_nil s w T (by omega)
set_option maxHeartbeats 4000000 in
set_option maxRecDepth 100000 in
theorem clin_why (s t : ByteArray) (b n y : Int) (W : World) (p : Nat) (hp : W.cell? ⟨p, 0, none⟩ = some (.string s)) (CC : Hid (∀ W, Cl.Tab W → Calls Tryz.prog 139 #[.string s] W fun e w' => e = .returned (.tuple #[.string t, .int .i64 b]) ∧ W = w')) (T : Cl.Tab W) (M : Hid (W.cell? ⟨3, 0, none⟩ = some (.int .i64 y))) (q : Int) (hq : q ≠ 0) (CA : Hid (∀ W, W.cell? ⟨3, 0, none⟩ = some (.int .i64 y) → Calls Tryz.prog 88 #[.string t] W fun e w' => e = .returned (.tuple #[.int .i64 n, .int .i64 q]) ∧ Below W.heap.size W w')) : Calls Tryz.prog 138 #[.pointer (some ⟨p, 0, none⟩)] W fun e w' => e = .panicked (gvP q) ∧ Below W.heap.size W w' := by
 have T0 := Lib.hid T; clear T
 have pl := World.block_lt_of_cell? _ _ hp
 have pn : p ≠ W.heap.size := Nat.ne_of_lt pl
 go_enter Tryz.func138, Tryz.ntmps138
 go_wp2_with fail
 have b0 : Below W.heap.size W (W.alloc (.cells #[.int .i64 0, .int .i64 0] 26)) := (Below.refl _ _).alloc (Nat.le_refl _) _
 refine (CC.out _ (T0.out.on b0)).mono ?_; rintro e w1 ⟨rfl, rfl⟩
 go_wp2_with fail
 refine (CA.out _ (ckm b0 M.out)).mono ?_; rintro e w2 ⟨rfl, b2⟩
 have B2 := Lib.hid (below_step b0 b2)
 have P2 : Bk2 w2 W.heap.size (.int .i64 0) (.int .i64 0) := Bk2.of b2 (by simp) (by intro j; simp [go_sem]) (by simp [go_sem]) (by simp [go_sem])
 clear b2 b0
 have p_b := P2.hb; have p_f := P2.fz; have p_0 := P2.k0; have p_1 := P2.k1
 go_wp2_with fail
 refine (must_no n q _ hq).mono ?_; rintro e w3 ⟨rfl, rfl⟩
 refine (show bodyPost _ _ _ (Exit.panic (gvP q)) _ _ from ?_)
 exact ⟨rfl, rfl, B2.out⟩
set_option maxHeartbeats 4000000 in
set_option maxRecDepth 100000 in
theorem clin_far (s t : ByteArray) (b n y : Int) (W : World) (p : Nat) (hp : W.cell? ⟨p, 0, none⟩ = some (.string s)) (CC : Hid (∀ W, Cl.Tab W → Calls Tryz.prog 139 #[.string s] W fun e w' => e = .returned (.tuple #[.string t, .int .i64 b]) ∧ W = w')) (T : Cl.Tab W) (M : Hid (W.cell? ⟨3, 0, none⟩ = some (.int .i64 y))) (CA : Hid (∀ W, W.cell? ⟨3, 0, none⟩ = some (.int .i64 y) → Calls Tryz.prog 88 #[.string t] W fun e w' => e = .returned (.tuple #[.int .i64 n, .int .i64 0]) ∧ Below W.heap.size W w')) (hr : Cl.rB n b = false) : Calls Tryz.prog 138 #[.pointer (some ⟨p, 0, none⟩)] W fun e w' => e = .panicked (gvP 1) ∧ Below W.heap.size W w' := by
 have CR : Hid (∀ W, Calls Tryz.prog 54 #[.agg #[.int .i64 n, .int .i64 b]] W fun e w' => e = .returned (.bool false) ∧ Below W.heap.size W w') := fun W => hr ▸ clright_any n b W
 clear hr
 have T0 := Lib.hid T; clear T
 have pl := World.block_lt_of_cell? _ _ hp
 have pn : p ≠ W.heap.size := Nat.ne_of_lt pl
 go_enter Tryz.func138, Tryz.ntmps138
 go_wp2_with fail
 have b0 : Below W.heap.size W (W.alloc (.cells #[.int .i64 0, .int .i64 0] 26)) := (Below.refl _ _).alloc (Nat.le_refl _) _
 refine (CC.out _ (T0.out.on b0)).mono ?_; rintro e w1 ⟨rfl, rfl⟩
 go_wp2_with fail
 refine (CA.out _ (ckm b0 M.out)).mono ?_; rintro e w2 ⟨rfl, b2⟩
 have B2 := Lib.hid (below_step b0 b2)
 have P2 : Bk2 w2 W.heap.size (.int .i64 0) (.int .i64 0) := Bk2.of b2 (by simp) (by intro j; simp [go_sem]) (by simp [go_sem]) (by simp [go_sem])
 clear b2 b0
 have p_b := P2.hb; have p_f := P2.fz; have p_0 := P2.k0; have p_1 := P2.k1
 go_wp2_with fail
 refine (must_yes n _).mono ?_; rintro e w3 ⟨rfl, rfl⟩
 go_wp2_with fail
 refine (CR.out _).mono ?_; rintro e w4 ⟨rfl, b4⟩
 have d4 : Below w2.heap.size w2 w4 := below_step ((Below.refl _ _).alloc (Nat.le_refl _) _) b4
 have B4 := Lib.hid (below_step B2.out d4)
 have P4 := P2.keep d4
 have X4 : Bk2 w4 w2.heap.size (.int .i64 n) (.int .i64 b) := Bk2.of b4 (by simp) (by intro j; simp [go_sem]) (by simp [go_sem]) (by simp [go_sem])
 clear p_b p_f p_0 p_1 P2 b4 d4
 have p_b := P4.hb; have p_f := P4.fz; have p_0 := P4.k0; have p_1 := P4.k1
 have x_b := X4.hb; have x_f := X4.fz; have x_0 := X4.k0; have x_1 := X4.k1
 clear P4 X4
 go_wp2_with fail
 refine (need_no 1 _).mono ?_; rintro e w5 ⟨rfl, rfl⟩
 refine (show bodyPost _ _ _ (Exit.panic (gvP 1)) _ _ from ?_)
 exact ⟨rfl, rfl, B4.out⟩
set_option maxHeartbeats 4000000 in
set_option maxRecDepth 100000 in
theorem clin_yes (s t : ByteArray) (b n y : Int) (W : World) (p : Nat) (hp : W.cell? ⟨p, 0, none⟩ = some (.string s)) (CC : Hid (∀ W, Cl.Tab W → Calls Tryz.prog 139 #[.string s] W fun e w' => e = .returned (.tuple #[.string t, .int .i64 b]) ∧ W = w')) (T : Cl.Tab W) (M : Hid (W.cell? ⟨3, 0, none⟩ = some (.int .i64 y))) (CA : Hid (∀ W, W.cell? ⟨3, 0, none⟩ = some (.int .i64 y) → Calls Tryz.prog 88 #[.string t] W fun e w' => e = .returned (.tuple #[.int .i64 n, .int .i64 0]) ∧ Below W.heap.size W w')) (hr : Cl.rB n b = true) : Calls Tryz.prog 138 #[.pointer (some ⟨p, 0, none⟩)] W fun e w' => e = .returned (.agg #[.int .i64 n, .int .i64 b]) ∧ Below W.heap.size W w' := by
 have CR : Hid (∀ W, Calls Tryz.prog 54 #[.agg #[.int .i64 n, .int .i64 b]] W fun e w' => e = .returned (.bool true) ∧ Below W.heap.size W w') := fun W => hr ▸ clright_any n b W
 clear hr
 have T0 := Lib.hid T; clear T
 have pl := World.block_lt_of_cell? _ _ hp
 have pn : p ≠ W.heap.size := Nat.ne_of_lt pl
 go_enter Tryz.func138, Tryz.ntmps138
 go_wp2_with fail
 have b0 : Below W.heap.size W (W.alloc (.cells #[.int .i64 0, .int .i64 0] 26)) := (Below.refl _ _).alloc (Nat.le_refl _) _
 refine (CC.out _ (T0.out.on b0)).mono ?_; rintro e w1 ⟨rfl, rfl⟩
 go_wp2_with fail
 refine (CA.out _ (ckm b0 M.out)).mono ?_; rintro e w2 ⟨rfl, b2⟩
 have B2 := Lib.hid (below_step b0 b2)
 have P2 : Bk2 w2 W.heap.size (.int .i64 0) (.int .i64 0) := Bk2.of b2 (by simp) (by intro j; simp [go_sem]) (by simp [go_sem]) (by simp [go_sem])
 clear b2 b0
 have p_b := P2.hb; have p_f := P2.fz; have p_0 := P2.k0; have p_1 := P2.k1
 go_wp2_with fail
 refine (must_yes n _).mono ?_; rintro e w3 ⟨rfl, rfl⟩
 go_wp2_with fail
 refine (CR.out _).mono ?_; rintro e w4 ⟨rfl, b4⟩
 have d4 : Below w2.heap.size w2 w4 := below_step ((Below.refl _ _).alloc (Nat.le_refl _) _) b4
 have B4 := Lib.hid (below_step B2.out d4)
 have P4 := P2.keep d4
 have X4 : Bk2 w4 w2.heap.size (.int .i64 n) (.int .i64 b) := Bk2.of b4 (by simp) (by intro j; simp [go_sem]) (by simp [go_sem]) (by simp [go_sem])
 clear p_b p_f p_0 p_1 P2 b4 d4
 have p_b := P4.hb; have p_f := P4.fz; have p_0 := P4.k0; have p_1 := P4.k1
 have x_b := X4.hb; have x_f := X4.fz; have x_0 := X4.k0; have x_1 := X4.k1
 clear P4 X4
 go_wp2_with fail
 refine (need_yes 1 _).mono ?_; rintro e w5 ⟨rfl, rfl⟩
 go_wp2_with fail
 refine bodyPost_ret (v := .agg #[.int .i64 n, .int .i64 b]) (by simp [results, Tryz.results138, go_sem, p_b, p_f, p_0, p_1, x_b, x_f, x_0, x_1]) rfl ⟨rfl, ?_⟩
 clear p_b p_f p_0 p_1 x_b x_f x_0 x_1
 repeat (refine Below.setCell ?_ (by first | (simp; done) | omega | (simp; omega)) _)
 exact B4.out
end
section
open Go.RowKit Go.Sort
namespace Cl
def rd (s : ByteArray) : Int × Int × Int := if (Am.rd (cutL s).1).2 ≠ 0 then (0, 0, (Am.rd (cutL s).1).2) else if rB (Am.rd (cutL s).1).1 (cutL s).2 = false then (0, 0, 1) else ((Am.rd (cutL s).1).1, (cutL s).2, 0)
def sg (b : Int) : ByteArray := if b = 1 then ⟨#[115]⟩ else ⟨#[117]⟩
theorem cutL_size (s : ByteArray) : (cutL s).1.size ≤ s.size := by
 unfold cutL
 split
 ·
  split
  ·
   exact Nat.le_refl _
  ·
   rw [ByteArray.size_extract]; omega
 ·
  exact Nat.le_refl _
end Cl
set_option maxHeartbeats 4000000 in
set_option maxRecDepth 100000 in
theorem clread_any (s : ByteArray) (w : World) (y : Int) (hs : s.size < 4294967281) (T : Cl.Tab w) (hm : w.cell? ⟨3, 0, none⟩ = some (.int .i64 y)) :
  Calls Tryz.prog 86 #[.string s] w fun e w' => e = .returned (.tuple #[.agg #[.int .i64 (Cl.rd s).1, .int .i64 (Cl.rd s).2.1], .int .i64 (Cl.rd s).2.2]) ∧ Below w.heap.size w w' := by
 have CC := Lib.hid (fun W h => clcut_any s W h (by unfold maxLen; omega))
 have CA := Lib.hid (fun W h => aread_any (Cl.cutL s).1 W y (Nat.lt_of_le_of_lt (Cl.cutL_size s) hs) h)
 have hmf : ∀ (fn : Fn) (first cap : Array Value) (w : World), (Instr.makeFunc fn first cap).run Tryz.prog w = .ok (.func fn first cap) w := fun _ _ _ _ => rfl
 have b0 : Below w.heap.size w ((w.alloc (.cells #[.string s] 9)).alloc (.cells #[.int .i64 0, .int .i64 0] 26)) := ((Below.refl _ _).alloc (Nat.le_refl _) _).alloc (by simp) _
 have c0 : ((w.alloc (.cells #[.string s] 9)).alloc (.cells #[.int .i64 0, .int .i64 0] 26)).cell? ⟨w.heap.size, 0, none⟩ = some (.string s) := by simp [go_sem]
 have l0 : w.heap.size < ((w.alloc (.cells #[.string s] 9)).alloc (.cells #[.int .i64 0, .int .i64 0] 26)).heap.size := by simp <;> omega
 have T1 := T.on b0
 have M1 := Lib.hid (ckm b0 hm)
 obtain ⟨ans, hans⟩ : ∃ ans, ans = Cl.rd s := ⟨_, rfl⟩
 rw [← hans]
 unfold Cl.rd at hans
 generalize Cl.cutL s = p at *
 obtain ⟨t, b⟩ := p
 dsimp only at *
 generalize Am.rd t = r at *
 obtain ⟨n, q⟩ := r
 dsimp only at *
 have KC : ∀ W, Below ((w.alloc (.cells #[.string s] 9)).alloc (.cells #[.int .i64 0, .int .i64 0] 26)).heap.size ((w.alloc (.cells #[.string s] 9)).alloc (.cells #[.int .i64 0, .int .i64 0] 26)) W → W.cell? ⟨w.heap.size, 0, none⟩ = some (.string s) ∧ Cl.Tab W ∧ Hid (W.cell? ⟨3, 0, none⟩ = some (.int .i64 y)) := fun W k => ⟨(k.cell (p := ⟨w.heap.size, 0, none⟩) l0).trans c0, T1.on k, ckm k M1.out⟩
 by_cases hq : q = 0
 ·
  subst hq
  rw [if_neg (by simp)] at hans
  cases hr : Cl.rB n b
  ·
   rw [if_pos hr] at hans
   have e := Lib.hid hans
   have CG := Lib.hid (acaught_no 138 #[.pointer (some ⟨w.heap.size, 0, none⟩)] (fun _ => rfl) 0 1 ((w.alloc (.cells #[.string s] 9)).alloc (.cells #[.int .i64 0, .int .i64 0] 26)) (fun W k => by obtain ⟨k1, k2, k3⟩ := KC W k; exact clin_far s t b n y W w.heap.size k1 CC k2 k3 CA hr))
   clear hans hr KC T1 c0 l0 CC CA hm T
   go_enter Tryz.func86, Tryz.ntmps86
   go_wp2_with fail
   refine CG.out.mono ?_; rintro e w1 ⟨rfl, b1⟩
   have B1 := Lib.hid (below_step b0 b1)
   have P1 : Bk2 w1 (w.heap.size + 1) (.int .i64 0) (.int .i64 0) := by refine Bk2.of b1 (by simp <;> omega) (by intro j; simp [go_sem]) ?_ ?_ <;> simp [go_sem]
   have hz := B1.out.size
   clear b1
   have p_b := P1.hb; have p_f := P1.fz; have p_0 := P1.k0; have p_1 := P1.k1
   clear P1
   go_wp2_with fail
   refine bodyPost_ret (v := .tuple #[.agg #[.int .i64 0, .int .i64 0], .int .i64 1]) (by simp [results, Tryz.results86, go_sem, p_b, p_f, p_0, p_1]) rfl ⟨by rw [e.out], ?_⟩
   clear p_b p_f p_0 p_1
   repeat (refine Below.setCell ?_ (by first | omega | (simp; done) | (simp; omega)) _)
   exact B1.out
  ·
   rw [if_neg (by rw [hr]; decide)] at hans
   have e := Lib.hid hans
   have CG := Lib.hid (acaught_yes 138 #[.pointer (some ⟨w.heap.size, 0, none⟩)] (fun _ => rfl) n b ((w.alloc (.cells #[.string s] 9)).alloc (.cells #[.int .i64 0, .int .i64 0] 26)) (fun W k => by obtain ⟨k1, k2, k3⟩ := KC W k; exact clin_yes s t b n y W w.heap.size k1 CC k2 k3 CA hr))
   clear hans hr KC T1 c0 l0 CC CA hm T
   go_enter Tryz.func86, Tryz.ntmps86
   go_wp2_with fail
   refine CG.out.mono ?_; rintro e w1 ⟨rfl, b1⟩
   have B1 := Lib.hid (below_step b0 b1)
   have P1 : Bk2 w1 (w.heap.size + 1) (.int .i64 0) (.int .i64 0) := by refine Bk2.of b1 (by simp <;> omega) (by intro j; simp [go_sem]) ?_ ?_ <;> simp [go_sem]
   have hz := B1.out.size
   clear b1
   have p_b := P1.hb; have p_f := P1.fz; have p_0 := P1.k0; have p_1 := P1.k1
   clear P1
   go_wp2_with fail
   refine bodyPost_ret (v := .tuple #[.agg #[.int .i64 n, .int .i64 b], .int .i64 0]) (by simp [results, Tryz.results86, go_sem, p_b, p_f, p_0, p_1]) rfl ⟨by rw [e.out], ?_⟩
   clear p_b p_f p_0 p_1
   repeat (refine Below.setCell ?_ (by first | omega | (simp; done) | (simp; omega)) _)
   exact B1.out
 ·
  rw [if_pos hq] at hans
  have e := Lib.hid hans
  have CG := Lib.hid (acaught_no 138 #[.pointer (some ⟨w.heap.size, 0, none⟩)] (fun _ => rfl) 0 q ((w.alloc (.cells #[.string s] 9)).alloc (.cells #[.int .i64 0, .int .i64 0] 26)) (fun W k => by obtain ⟨k1, k2, k3⟩ := KC W k; exact clin_why s t b n y W w.heap.size k1 CC k2 k3 q hq CA))
  clear hans hq KC T1 c0 l0 CC CA hm T
  go_enter Tryz.func86, Tryz.ntmps86
  go_wp2_with fail
  refine CG.out.mono ?_; rintro e w1 ⟨rfl, b1⟩
  have B1 := Lib.hid (below_step b0 b1)
  have P1 : Bk2 w1 (w.heap.size + 1) (.int .i64 0) (.int .i64 0) := by refine Bk2.of b1 (by simp <;> omega) (by intro j; simp [go_sem]) ?_ ?_ <;> simp [go_sem]
  have hz := B1.out.size
  clear b1
  have p_b := P1.hb; have p_f := P1.fz; have p_0 := P1.k0; have p_1 := P1.k1
  clear P1
  go_wp2_with fail
  refine bodyPost_ret (v := .tuple #[.agg #[.int .i64 0, .int .i64 0], .int .i64 q]) (by simp [results, Tryz.results86, go_sem, p_b, p_f, p_0, p_1]) rfl ⟨by rw [e.out], ?_⟩
  clear p_b p_f p_0 p_1
  repeat (refine Below.setCell ?_ (by first | omega | (simp; done) | (simp; omega)) _)
  exact B1.out
end
end Go.Proofs.YtpggfhmnhbnefaaGreatDoor
