/- Joined: LpN. -/
import Derived.Test.YtifgiclnofdnkaaGreatDoorBy01
import Derived.Test.YtifgiclnofdnkaaGreatDoorBy06
import Derived.Test.YtifgiclnofdnkaaGreatDoorBy07
import Derived.Test.YtifgiclnofdnkaaGreatDoorBy26
import Derived.Test.YtifgiclnofdnkaaGreatDoorBy35
set_option linter.unusedVariables false
set_option linter.unusedSimpArgs false
namespace Go.Proofs.YtifgiclnofdnkaaGreatDoor
open Go.RowKit Go.Sort Go.Pairs
theorem lp_g0 : Lp.gn [(100, 1), (5000000, -1)] 99 = (99, 0) := by decide +kernel
theorem lp_g1 : Lp.gn [(100, 1), (5000000, -1)] 100 = (101, 0) := by decide +kernel
theorem lp_g2 : Lp.gn [(100, 1), (5000000, -1)] 5000000 = (5000000, 0) := by decide +kernel
theorem lp_g3 : Lp.gn [(100, 1), (5000000, -1)] 971890963200 = (0, 1) := by decide +kernel
theorem lp_g4 : Lp.gn [(0, 0)] 0 = (0, 4) := by decide +kernel
theorem lp_u0 : Lp.ut [(100, 1), (5000000, -1)] 100 = (99, true, 0) := by decide +kernel
theorem lp_u1 : Lp.ut [(100, 1), (5000000, -1)] 5000000 = (5000000, false, 0) := by decide +kernel
theorem lp_u2 : Lp.ut [(100, 1), (5000000, -1)] (-1096193779201) = (0, false, 1) := by decide +kernel
theorem lp_u3 : Lp.ut [(100, 1), (5000000, -1)] 971890963200 = (971890963199, true, 0) := by decide +kernel
theorem lp_u4 : Lp.ut [(100, 1), (5000000, -1)] 971890963201 = (0, false, 1) := by decide +kernel
theorem lp_t0 : Lp.tx [(100, 1)] = ([49, 57, 55, 48, 45, 48, 49, 45, 48, 49, 84, 48, 48, 58, 48, 49, 58, 52, 48, 32, 43, 10], 0) := by decide +kernel
theorem lp_t1 : Lp.tx [(5000000, -1), (100, 1)] = ([], 4) := by decide +kernel
theorem lp_r0 : Lp.rd [35, 32, 120, 10, 49, 57, 55, 48, 45, 48, 49, 45, 48, 49, 84, 48, 48, 58, 48, 49, 58, 52, 48, 32, 43, 10] = ([(100, 1)], 0, 0) := by decide +kernel
theorem lp_r1 : Lp.rd [49, 57, 55, 48, 45, 48, 49, 45, 48, 49, 84, 48, 48, 58, 48, 49, 58, 52, 48, 32, 120] = ([], 1, 3) := by decide +kernel
theorem lp_r2 : Lp.rd [10, 49, 57, 55, 48] = ([], 2, 5) := by decide +kernel
theorem lp_r3 : Lp.rd [49, 57, 55, 48, 45, 48, 49, 45, 48, 49, 84, 48, 48, 58, 48, 49, 58, 52, 48, 32, 43, 10, 49, 57, 55, 48, 45, 48, 49, 45, 48, 49, 84, 48, 48, 58, 48, 49, 58, 52, 48, 32, 43, 10] = ([], 0, 4) := by decide +kernel
theorem lp_read (s : ByteArray) (w : World) (m : Int) (l : List Lp.X) (a b : Int) (h : Lp.rd s.data.toList = (l, a, b)) (hm : w.cell? ⟨0, 0, none⟩ = some (.int .i64 m)) :
  Calls Tryz.prog 12 #[.string s] w fun e w' => ∃ v, SpV w' v l ∧ e = .returned (.tuple #[v, .agg #[.int .i64 a, .int .i64 b]]) ∧ Below w.heap.size w w' := by
 have := leRead_any s w m hm
 rw [h] at this
 exact this.mono (fun _ _ ⟨v, h1, h2, h3⟩ => ⟨v, h1.st, h2, h3⟩)
set_option maxHeartbeats 16000000 in
set_option maxRecDepth 100000 in
theorem lives53 (w : World) (T : Lib.TabIs Tryz.prog w "internal/strconv.uint64pow10" .u64 Lib.pow10Tab) (m : Int) (hm : w.cell? ⟨0, 0, none⟩ = some (.int .i64 m)) :
  Calls Tryz.prog 5 #[] w fun e w' => e = .returned (.bool true) ∧ Below w.heap.size w w' := by
 have TT := Lib.hid T
 have MX := Lib.hid (fun W (hW : Below w.heap.size w W) => (hW.cell (p := ⟨0, 0, none⟩) (World.block_lt_of_cell? _ _ hm)).trans hm)
 clear T hm
 have G0 := Lib.hid (fun W (S : SpV W (.slice (some ⟨w.heap.size, 0, none⟩) 2 2) [(100, 1), (5000000, -1)]) => leGone_any _ 2 2 [(100, 1), (5000000, -1)] W S (by decide) (by decide) (by decide) 99)
 rw [lp_g0] at G0; dsimp only at G0
 have G1 := Lib.hid (fun W (S : SpV W (.slice (some ⟨w.heap.size, 0, none⟩) 2 2) [(100, 1), (5000000, -1)]) => leGone_any _ 2 2 [(100, 1), (5000000, -1)] W S (by decide) (by decide) (by decide) 100)
 rw [lp_g1] at G1; dsimp only at G1
 have G2 := Lib.hid (fun W (S : SpV W (.slice (some ⟨w.heap.size, 0, none⟩) 2 2) [(100, 1), (5000000, -1)]) => leGone_any _ 2 2 [(100, 1), (5000000, -1)] W S (by decide) (by decide) (by decide) 5000000)
 rw [lp_g2] at G2; dsimp only at G2
 have G3 := Lib.hid (fun W (S : SpV W (.slice (some ⟨w.heap.size, 0, none⟩) 2 2) [(100, 1), (5000000, -1)]) => leGone_any _ 2 2 [(100, 1), (5000000, -1)] W S (by decide) (by decide) (by decide) 971890963200)
 rw [lp_g3] at G3; dsimp only at G3
 have G4 := Lib.hid (fun W b (S : SpV W (.slice (some ⟨b, 0, none⟩) 1 1) [(0, 0)]) => leGone_any _ 1 1 [(0, 0)] W S (by decide) (by decide) (by decide) 0)
 rw [lp_g4] at G4; dsimp only at G4
 have U0 := Lib.hid (fun W (S : SpV W (.slice (some ⟨w.heap.size, 0, none⟩) 2 2) [(100, 1), (5000000, -1)]) => leUtc_any _ 2 2 [(100, 1), (5000000, -1)] W S (by decide) (by decide) (by decide) 100)
 rw [lp_u0] at U0; dsimp only at U0
 have U1 := Lib.hid (fun W (S : SpV W (.slice (some ⟨w.heap.size, 0, none⟩) 2 2) [(100, 1), (5000000, -1)]) => leUtc_any _ 2 2 [(100, 1), (5000000, -1)] W S (by decide) (by decide) (by decide) 5000000)
 rw [lp_u1] at U1; dsimp only at U1
 have U2 := Lib.hid (fun W (S : SpV W (.slice (some ⟨w.heap.size, 0, none⟩) 2 2) [(100, 1), (5000000, -1)]) => leUtc_any _ 2 2 [(100, 1), (5000000, -1)] W S (by decide) (by decide) (by decide) (-1096193779201))
 rw [lp_u2] at U2; dsimp only at U2
 have U3 := Lib.hid (fun W (S : SpV W (.slice (some ⟨w.heap.size, 0, none⟩) 2 2) [(100, 1), (5000000, -1)]) => leUtc_any _ 2 2 [(100, 1), (5000000, -1)] W S (by decide) (by decide) (by decide) 971890963200)
 rw [lp_u3] at U3; dsimp only at U3
 have U4 := Lib.hid (fun W (S : SpV W (.slice (some ⟨w.heap.size, 0, none⟩) 2 2) [(100, 1), (5000000, -1)]) => leUtc_any _ 2 2 [(100, 1), (5000000, -1)] W S (by decide) (by decide) (by decide) 971890963201)
 rw [lp_u4] at U4; dsimp only at U4
 have X0 := Lib.hid (fun W (S : SpV W (.slice (some ⟨w.heap.size, 0, none⟩) 1 2) [(100, 1)]) T => leText_any _ 1 2 [(100, 1)] W S (by decide) T)
 rw [lp_t0] at X0; dsimp only at X0
 rw [show (⟨([49, 57, 55, 48, 45, 48, 49, 45, 48, 49, 84, 48, 48, 58, 48, 49, 58, 52, 48, 32, 43, 10] : List UInt8).toArray⟩ : ByteArray) = ⟨#[49, 57, 55, 48, 45, 48, 49, 45, 48, 49, 84, 48, 48, 58, 48, 49, 58, 52, 48, 32, 43, 10]⟩ from rfl] at X0
 have X1 := Lib.hid (fun W b (S : SpV W (.slice (some ⟨b, 0, none⟩) 2 2) [(5000000, -1), (100, 1)]) T => leText_any _ 2 2 [(5000000, -1), (100, 1)] W S (by decide) T)
 rw [lp_t1] at X1; dsimp only at X1
 rw [show (⟨([] : List UInt8).toArray⟩ : ByteArray) = ⟨#[]⟩ from rfl] at X1
 have R0 := Lib.hid (fun W hm => lp_read ⟨#[35, 32, 120, 10, 49, 57, 55, 48, 45, 48, 49, 45, 48, 49, 84, 48, 48, 58, 48, 49, 58, 52, 48, 32, 43, 10]⟩ W m _ _ _ lp_r0 hm)
 have R1 := Lib.hid (fun W hm => lp_read ⟨#[49, 57, 55, 48, 45, 48, 49, 45, 48, 49, 84, 48, 48, 58, 48, 49, 58, 52, 48, 32, 120]⟩ W m _ _ _ lp_r1 hm)
 have R2 := Lib.hid (fun W hm => lp_read ⟨#[10, 49, 57, 55, 48]⟩ W m _ _ _ lp_r2 hm)
 have R3 := Lib.hid (fun W hm => lp_read ⟨#[49, 57, 55, 48, 45, 48, 49, 45, 48, 49, 84, 48, 48, 58, 48, 49, 58, 52, 48, 32, 43, 10, 49, 57, 55, 48, 45, 48, 49, 45, 48, 49, 84, 48, 48, 58, 48, 49, 58, 52, 48, 32, 43, 10]⟩ W m _ _ _ lp_r3 hm)
 have RA := Lib.hid (fun W (S : SpV W (.slice (some ⟨w.heap.size, 0, none⟩) 2 2) [(100, 1), (5000000, -1)]) => leright_any _ _ W S (by decide))
 rw [show Lp.right [(100, 1), (5000000, -1)] = true by decide] at RA
 have RB := Lib.hid (fun W b (S : SpV W (.slice (some ⟨b, 0, none⟩) 1 1) [(1, 2)]) => leright_any _ _ W S (by decide))
 rw [show Lp.right [(1, 2)] = false by decide] at RB
 have RC := Lib.hid (fun W => leright_any (.slice none 0 0) [] W ⟨none, 0, rfl, fun h => absurd h (by simp)⟩ (by decide))
 rw [show Lp.right [] = true by decide] at RC
 go_enter Tryz.func5, Tryz.ntmps5
 go_upto_region 2 with (fail)
 refine wp_named ?_; intro w1 hw1
 have d1 : Below w.heap.size w w1 := by rw [hw1]; exact gr0
 have B1 := Lib.hid d1
 have SL_1 := Lib.hid (show SpV w1 (.slice (some ⟨w.heap.size, 0, none⟩) 2 2) [(100, 1), (5000000, -1)] by rw [hw1]; exact SpO.st (lp_spo 0 w [(100, 1), (5000000, -1)] _ rfl _ 2 (Nat.zero_le _)))
 have K1 : Bk4 w1 w.heap.size (.int .i64 100) (.int .i64 1) (.int .i64 5000000) (.int .i64 (-1)) := by rw [hw1]; exact ⟨by simp <;> omega, by intro j; simp [go_sem], by simp [go_sem], by simp [go_sem], by simp [go_sem], by simp [go_sem]⟩
 clear d1 hw1
 have tx := K1; obtain ⟨cK_b, cK_f, cK_0, cK_1, cK_2, cK_3⟩ := tx
 go_wp2_with fail
 clear cK_b cK_f cK_0 cK_1 cK_2 cK_3
 refine (G0.out _ SL_1.out).mono ?_; rintro e w2 ⟨rfl, b2⟩
 have d2 : Below w1.heap.size w1 w2 := below_step gr0 b2
 have B2 := Lib.hid (below_step B1.out d2)
 have SL_2 := Lib.hid (SL_1.out.on d2)
 have K2 := K1.keep d2
 clear SL_1 K1 b2 d2 B1
 have tx := K2; obtain ⟨cK_b, cK_f, cK_0, cK_1, cK_2, cK_3⟩ := tx
 go_wp2_with fail
 clear cK_b cK_f cK_0 cK_1 cK_2 cK_3
 refine (G1.out _ SL_2.out).mono ?_; rintro e w3 ⟨rfl, b3⟩
 have d3 : Below w2.heap.size w2 w3 := below_step gr0 b3
 have B3 := Lib.hid (below_step B2.out d3)
 have SL_3 := Lib.hid (SL_2.out.on d3)
 have K3 := K2.keep d3
 clear SL_2 K2 b3 d3 B2
 have tx := K3; obtain ⟨cK_b, cK_f, cK_0, cK_1, cK_2, cK_3⟩ := tx
 go_wp2_with fail
 clear cK_b cK_f cK_0 cK_1 cK_2 cK_3
 refine (G2.out _ SL_3.out).mono ?_; rintro e w4 ⟨rfl, b4⟩
 have d4 : Below w3.heap.size w3 w4 := below_step gr0 b4
 have B4 := Lib.hid (below_step B3.out d4)
 have SL_4 := Lib.hid (SL_3.out.on d4)
 have K4 := K3.keep d4
 clear SL_3 K3 b4 d4 B3
 have tx := K4; obtain ⟨cK_b, cK_f, cK_0, cK_1, cK_2, cK_3⟩ := tx
 go_wp2_with fail
 clear cK_b cK_f cK_0 cK_1 cK_2 cK_3
 refine (G3.out _ SL_4.out).mono ?_; rintro e w5 ⟨rfl, b5⟩
 have d5 : Below w4.heap.size w4 w5 := below_step gr0 b5
 have B5 := Lib.hid (below_step B4.out d5)
 have SL_5 := Lib.hid (SL_4.out.on d5)
 have K5 := K4.keep d5
 clear SL_4 K4 b5 d5 B4
 have tx := K5; obtain ⟨cK_b, cK_f, cK_0, cK_1, cK_2, cK_3⟩ := tx
 go_wp2_with fail
 clear cK_b cK_f cK_0 cK_1 cK_2 cK_3
 refine (G4.out _ _ (SpO.st (lp_spo 0 _ [(0, 0)] _ rfl _ 1 (Nat.zero_le _)))).mono ?_; rintro e w6 ⟨rfl, b6⟩
 have d6 : Below w5.heap.size w5 w6 := below_step gr0 b6
 have B6 := Lib.hid (below_step B5.out d6)
 have SL_6 := Lib.hid (SL_5.out.on d6)
 have K6 := K5.keep d6
 clear SL_5 K5 b6 d6 B5
 have tx := K6; obtain ⟨cK_b, cK_f, cK_0, cK_1, cK_2, cK_3⟩ := tx
 go_wp2_with fail
 clear cK_b cK_f cK_0 cK_1 cK_2 cK_3
 refine (U0.out _ (SL_6.out.on gr0)).mono ?_; rintro e w7 ⟨rfl, b7⟩
 have d7 : Below w6.heap.size w6 w7 := below_step gr0 b7
 have B7 := Lib.hid (below_step B6.out d7)
 have SL_7 := Lib.hid (SL_6.out.on d7)
 have K7 := K6.keep d7
 clear SL_6 K6 b7 d7 B6
 have tx := K7; obtain ⟨cK_b, cK_f, cK_0, cK_1, cK_2, cK_3⟩ := tx
 go_wp2_with fail
 clear cK_b cK_f cK_0 cK_1 cK_2 cK_3
 refine (U1.out _ SL_7.out).mono ?_; rintro e w8 ⟨rfl, b8⟩
 have d8 : Below w7.heap.size w7 w8 := below_step gr0 b8
 have B8 := Lib.hid (below_step B7.out d8)
 have SL_8 := Lib.hid (SL_7.out.on d8)
 have K8 := K7.keep d8
 clear SL_7 K7 b8 d8 B7
 have tx := K8; obtain ⟨cK_b, cK_f, cK_0, cK_1, cK_2, cK_3⟩ := tx
 go_wp2_with fail
 clear cK_b cK_f cK_0 cK_1 cK_2 cK_3
 refine (U2.out _ SL_8.out).mono ?_; rintro e w9 ⟨rfl, b9⟩
 have d9 : Below w8.heap.size w8 w9 := below_step gr0 b9
 have B9 := Lib.hid (below_step B8.out d9)
 have SL_9 := Lib.hid (SL_8.out.on d9)
 have K9 := K8.keep d9
 clear SL_8 K8 b9 d9 B8
 have tx := K9; obtain ⟨cK_b, cK_f, cK_0, cK_1, cK_2, cK_3⟩ := tx
 go_wp2_with fail
 clear cK_b cK_f cK_0 cK_1 cK_2 cK_3
 refine (U3.out _ SL_9.out).mono ?_; rintro e w10 ⟨rfl, b10⟩
 have d10 : Below w9.heap.size w9 w10 := below_step gr0 b10
 have B10 := Lib.hid (below_step B9.out d10)
 have SL_10 := Lib.hid (SL_9.out.on d10)
 have K10 := K9.keep d10
 clear SL_9 K9 b10 d10 B9
 have tx := K10; obtain ⟨cK_b, cK_f, cK_0, cK_1, cK_2, cK_3⟩ := tx
 go_wp2_with fail
 clear cK_b cK_f cK_0 cK_1 cK_2 cK_3
 refine (U4.out _ SL_10.out).mono ?_; rintro e w11 ⟨rfl, b11⟩
 have d11 : Below w10.heap.size w10 w11 := below_step gr0 b11
 have B11 := Lib.hid (below_step B10.out d11)
 have SL_11 := Lib.hid (SL_10.out.on d11)
 have K11 := K10.keep d11
 clear SL_10 K10 b11 d11 B10
 have tx := K11; obtain ⟨cK_b, cK_f, cK_0, cK_1, cK_2, cK_3⟩ := tx
 go_wp2_with fail
 clear cK_b cK_f cK_0 cK_1 cK_2 cK_3
 refine (X0.out _ (spv_take SL_11.out 1 (by decide) 2) (var_keep B11.out TT.out)).mono ?_; rintro e w12 ⟨rfl, b12⟩
 have d12 : Below w11.heap.size w11 w12 := below_step gr0 b12
 have B12 := Lib.hid (below_step B11.out d12)
 have SL_12 := Lib.hid (SL_11.out.on d12)
 have K12 := K11.keep d12
 clear SL_11 K11 b12 d12 B11
 go_upto_region 13 with (fail)
 refine wp_region_till (R := markR [(fun v _ => v = Value.slice (some ⟨w.heap.size, 0, none⟩) 2 2), (fun v _ => v = Value.pointer (some ⟨w.heap.size, 2, none⟩)), (fun v _ => v = Value.agg #[.int .i64 5000000, .int .i64 (-1)]), (fun v _ => v = Value.slice (some ⟨w.heap.size, 0, none⟩) 2 2), (fun v _ => v = Value.pointer (some ⟨w.heap.size, 0, none⟩)), (fun v _ => v = Value.agg #[.int .i64 100, .int .i64 1]), (fun v W => ∃ b, v = Value.slice (some ⟨b, 0, none⟩) 2 2 ∧ SpV W (.slice (some ⟨b, 0, none⟩) 2 2) [(5000000, -1), (100, 1)]), (fun v _ => v = Value.tuple #[.string ⟨#[]⟩, .int .i64 4]), (fun v _ => v = Value.tuple #[.string ⟨#[]⟩, .int .i64 4]), (fun v _ => v = Value.string ⟨#[]⟩), (fun v _ => v = Value.int .i64 4), (fun v _ => v = Value.string ⟨#[]⟩), (fun v _ => v = Value.int .i64 4)]) (till := fun _ => none) (D := fun W => Below w12.heap.size w12 W) (G := fun _ W W' => Below W.heap.size W W') (by rfl) ?hbeg ⟨by kernel_rfl, by kernel_rfl, by kernel_rfl, ?hkeep, ?hstab, ObsT.all ?hobs, ?hlast⟩
 case hbeg => exact (Below.refl _ _).drew
 case hkeep => intro i w1 w2 hC hG; exact below_step hC hG
 case hstab =>
  intro i j hij ht v w1 w2 hG hm
  match j, hm with
  | 0, hm => exact hm
  | 1, hm => exact hm
  | 2, hm => exact hm
  | 3, hm => exact hm
  | 4, hm => exact hm
  | 5, hm => exact hm
  | 6, hm => exact (by obtain ⟨b, e, h⟩ := hm; exact ⟨b, e, h.on hG⟩)
  | 7, hm => exact hm
  | 8, hm => exact hm
  | 9, hm => exact hm
  | 10, hm => exact hm
  | 11, hm => exact hm
  | 12, hm => exact hm
  | j + 13, hm => exact trivial
 case hobs =>
  refine ObsT.cons (k' := 1) rfl ?_ ?_
  ·
   intro fa W hW hSame hRR KK hKK
   try dsimp only at hW
   have fb1 : fa.tmps[1]? = some (Value.slice (some ⟨w.heap.size, 0, none⟩) 2 2) := (hSame.base 1 (by kernel_rfl)).trans (by kernel_rfl)
   replace hKK : ∀ v w', Below W.heap.size W w' → v = Value.slice (some ⟨w.heap.size, 0, none⟩) 2 2 → KK (Act.put fa _ v) w' := fun v w' h1 h2 => hKK v w' h1 h2
   clear hSame hRR
   rw [if_pos (wanted_plain rfl)]
   go_simp
   refine hKK _ _ ?_ ?_
   ·
    exact grP
   ·
    exact rfl
  refine ObsT.cons (k' := 2) rfl ?_ ?_
  ·
   intro fa W hW hSame hRR KK hKK
   try dsimp only at hW
   obtain ⟨fv0, ft0, (rfl : fv0 = Value.slice (some ⟨w.heap.size, 0, none⟩) 2 2)⟩ := hRR 0 _ 105 rfl rfl (by kernel_rfl) (by kernel_rfl)
   replace hKK : ∀ v w', Below W.heap.size W w' → v = Value.pointer (some ⟨w.heap.size, 2, none⟩) → KK (Act.put fa _ v) w' := fun v w' h1 h2 => hKK v w' h1 h2
   clear hSame hRR
   rw [if_pos (wanted_plain rfl)]
   go_simp
   refine hKK _ _ ?_ ?_
   ·
    exact grP
   ·
    exact rfl
  refine ObsT.cons (k' := 3) rfl ?_ ?_
  ·
   intro fa W hW hSame hRR KK hKK
   try dsimp only at hW
   obtain ⟨fv1, ft1, (rfl : fv1 = Value.pointer (some ⟨w.heap.size, 2, none⟩))⟩ := hRR 1 _ 106 rfl rfl (by kernel_rfl) (by kernel_rfl)
   replace hKK : ∀ v w', Below W.heap.size W w' → v = Value.agg #[.int .i64 5000000, .int .i64 (-1)] → KK (Act.put fa _ v) w' := fun v w' h1 h2 => hKK v w' h1 h2
   have hK := K12.keep hW
   have ck0 := hK.k0
   have ck1 := hK.k1
   have ck2 := hK.k2
   have ck3 := hK.k3
   clear hSame hRR
   rw [if_pos (wanted_plain rfl)]
   go_simp
   refine hKK _ _ ?_ ?_
   ·
    exact grP
   ·
    exact rfl
  refine ObsT.cons (k' := 4) rfl ?_ ?_
  ·
   intro fa W hW hSame hRR KK hKK
   try dsimp only at hW
   have fb1 : fa.tmps[1]? = some (Value.slice (some ⟨w.heap.size, 0, none⟩) 2 2) := (hSame.base 1 (by kernel_rfl)).trans (by kernel_rfl)
   replace hKK : ∀ v w', Below W.heap.size W w' → v = Value.slice (some ⟨w.heap.size, 0, none⟩) 2 2 → KK (Act.put fa _ v) w' := fun v w' h1 h2 => hKK v w' h1 h2
   clear hSame hRR
   rw [if_pos (wanted_plain rfl)]
   go_simp
   refine hKK _ _ ?_ ?_
   ·
    exact grP
   ·
    exact rfl
  refine ObsT.cons (k' := 5) rfl ?_ ?_
  ·
   intro fa W hW hSame hRR KK hKK
   try dsimp only at hW
   obtain ⟨fv3, ft3, (rfl : fv3 = Value.slice (some ⟨w.heap.size, 0, none⟩) 2 2)⟩ := hRR 3 _ 108 rfl rfl (by kernel_rfl) (by kernel_rfl)
   replace hKK : ∀ v w', Below W.heap.size W w' → v = Value.pointer (some ⟨w.heap.size, 0, none⟩) → KK (Act.put fa _ v) w' := fun v w' h1 h2 => hKK v w' h1 h2
   clear hSame hRR
   rw [if_pos (wanted_plain rfl)]
   go_simp
   refine hKK _ _ ?_ ?_
   ·
    exact grP
   ·
    exact rfl
  refine ObsT.cons (k' := 6) rfl ?_ ?_
  ·
   intro fa W hW hSame hRR KK hKK
   try dsimp only at hW
   obtain ⟨fv4, ft4, (rfl : fv4 = Value.pointer (some ⟨w.heap.size, 0, none⟩))⟩ := hRR 4 _ 109 rfl rfl (by kernel_rfl) (by kernel_rfl)
   replace hKK : ∀ v w', Below W.heap.size W w' → v = Value.agg #[.int .i64 100, .int .i64 1] → KK (Act.put fa _ v) w' := fun v w' h1 h2 => hKK v w' h1 h2
   have hK := K12.keep hW
   have ck0 := hK.k0
   have ck1 := hK.k1
   have ck2 := hK.k2
   have ck3 := hK.k3
   clear hSame hRR
   rw [if_pos (wanted_plain rfl)]
   go_simp
   refine hKK _ _ ?_ ?_
   ·
    exact grP
   ·
    exact rfl
  refine ObsT.cons (k' := 7) rfl ?_ ?_
  ·
   intro fa W hW hSame hRR KK hKK
   try dsimp only at hW
   obtain ⟨fv2, ft2, (rfl : fv2 = Value.agg #[.int .i64 5000000, .int .i64 (-1)])⟩ := hRR 2 _ 107 rfl rfl (by kernel_rfl) (by kernel_rfl)
   obtain ⟨fv5, ft5, (rfl : fv5 = Value.agg #[.int .i64 100, .int .i64 1])⟩ := hRR 5 _ 110 rfl rfl (by kernel_rfl) (by kernel_rfl)
   replace hKK : ∀ v w', Below W.heap.size W w' → (fun v W => ∃ b, v = Value.slice (some ⟨b, 0, none⟩) 2 2 ∧ SpV W (.slice (some ⟨b, 0, none⟩) 2 2) [(5000000, -1), (100, 1)]) v w' → KK (Act.put fa _ v) w' := fun v w' h1 h2 => hKK v w' h1 h2
   clear hSame hRR
   rw [if_pos (wanted_plain rfl)]
   go_simp
   refine hKK _ _ ((Below.refl _ _).alloc (Nat.le_refl _) _) ⟨_, rfl, ?_⟩
   exact SpO.st (lp_spo 0 W [(5000000, -1), (100, 1)] _ rfl _ 2 (Nat.zero_le _))
  refine ObsT.cons (k' := 8) rfl ?_ ?_
  ·
   intro fa W hW hSame hRR KK hKK
   try dsimp only at hW
   obtain ⟨fv6, ft6, ⟨b6, rfl, hS6⟩⟩ := hRR 6 _ 111 rfl rfl (by kernel_rfl) (by kernel_rfl)
   replace hKK : ∀ v w', Below W.heap.size W w' → v = Value.tuple #[.string ⟨#[]⟩, .int .i64 4] → KK (Act.put fa _ v) w' := fun v w' h1 h2 => hKK v w' h1 h2
   clear hSame hRR
   rw [if_pos (wanted_plain rfl)]
   go_simp
   refine (X1.out _ _ hS6 (var_keep (below_step B12.out hW) TT.out)).mono ?_; rintro e w' ⟨rfl, hb⟩
   exact hKK _ _ hb rfl
  refine ObsT.cons (k' := 9) rfl ?_ ?_
  ·
   intro fa W hW hSame hRR KK hKK
   try dsimp only at hW
   obtain ⟨fv7, ft7, (rfl : fv7 = Value.tuple #[.string ⟨#[]⟩, .int .i64 4])⟩ := hRR 7 _ 112 rfl rfl (by kernel_rfl) (by kernel_rfl)
   replace hKK : ∀ v w', Below W.heap.size W w' → v = Value.tuple #[.string ⟨#[]⟩, .int .i64 4] → KK (Act.put fa _ v) w' := fun v w' h1 h2 => hKK v w' h1 h2
   clear hSame hRR
   rw [if_pos (wanted_plain rfl)]
   go_simp
   refine hKK _ _ ?_ ?_
   ·
    exact grP
   ·
    exact rfl
  refine ObsT.cons (k' := 10) rfl ?_ ?_
  ·
   intro fa W hW hSame hRR KK hKK
   try dsimp only at hW
   obtain ⟨fv8, ft8, (rfl : fv8 = Value.tuple #[.string ⟨#[]⟩, .int .i64 4])⟩ := hRR 8 _ 104 rfl rfl (by kernel_rfl) (by kernel_rfl)
   replace hKK : ∀ v w', Below W.heap.size W w' → v = Value.string ⟨#[]⟩ → KK (Act.put fa _ v) w' := fun v w' h1 h2 => hKK v w' h1 h2
   clear hSame hRR
   rw [if_pos (wanted_plain rfl)]
   go_simp
   refine hKK _ _ ?_ ?_
   ·
    exact grP
   ·
    exact rfl
  refine ObsT.cons (k' := 11) rfl ?_ ?_
  ·
   intro fa W hW hSame hRR KK hKK
   try dsimp only at hW
   obtain ⟨fv8, ft8, (rfl : fv8 = Value.tuple #[.string ⟨#[]⟩, .int .i64 4])⟩ := hRR 8 _ 104 rfl rfl (by kernel_rfl) (by kernel_rfl)
   replace hKK : ∀ v w', Below W.heap.size W w' → v = Value.int .i64 4 → KK (Act.put fa _ v) w' := fun v w' h1 h2 => hKK v w' h1 h2
   clear hSame hRR
   rw [if_pos (wanted_plain rfl)]
   go_simp
   refine hKK _ _ ?_ ?_
   ·
    exact grP
   ·
    exact rfl
  refine ObsT.cons (k' := 12) rfl ?_ ?_
  ·
   intro fa W hW hSame hRR KK hKK
   try dsimp only at hW
   obtain ⟨fv9, ft9, (rfl : fv9 = Value.string ⟨#[]⟩)⟩ := hRR 9 _ 113 rfl rfl (by kernel_rfl) (by kernel_rfl)
   replace hKK : ∀ v w', Below W.heap.size W w' → v = Value.string ⟨#[]⟩ → KK (Act.put fa _ v) w' := fun v w' h1 h2 => hKK v w' h1 h2
   clear hSame hRR
   rw [if_pos (wanted_plain rfl)]
   go_simp
   refine hKK _ _ ?_ ?_
   ·
    exact grP
   ·
    exact rfl
  refine ObsT.cons (k' := 13) rfl ?_ ?_
  ·
   intro fa W hW hSame hRR KK hKK
   try dsimp only at hW
   obtain ⟨fv10, ft10, (rfl : fv10 = Value.int .i64 4)⟩ := hRR 10 _ 114 rfl rfl (by kernel_rfl) (by kernel_rfl)
   replace hKK : ∀ v w', Below W.heap.size W w' → v = Value.int .i64 4 → KK (Act.put fa _ v) w' := fun v w' h1 h2 => hKK v w' h1 h2
   clear hSame hRR
   rw [if_pos (wanted_plain rfl)]
   go_simp
   refine hKK _ _ ?_ ?_
   ·
    exact grP
   ·
    exact rfl
  exact ObsT.nil
 case hlast =>
  intro fa w13 d13 hSame hRR
  try dsimp only at d13
  obtain ⟨zz11, f29, rfl⟩ := hRR 11 _ 29 rfl rfl rfl
  obtain ⟨zz12, f30, rfl⟩ := hRR 12 _ 30 rfl rfl rfl
  rw [Same_shape hSame]
  simp only [List.filterMap_cons, List.filterMap_nil, List.foldl_cons, List.foldl_nil]
  have g29 : fa.tmps.getD 29 undef = Value.string ⟨#[]⟩ := by simp [Array.getD_eq_getD_getElem?, f29]
  have g30 : fa.tmps.getD 30 undef = Value.int .i64 4 := by simp [Array.getD_eq_getD_getElem?, f30]
  rw [g29, g30]
  generalize fa.tmps.getD 105 undef = y105
  generalize fa.tmps.getD 106 undef = y106
  generalize fa.tmps.getD 107 undef = y107
  generalize fa.tmps.getD 108 undef = y108
  generalize fa.tmps.getD 109 undef = y109
  generalize fa.tmps.getD 110 undef = y110
  generalize fa.tmps.getD 111 undef = y111
  generalize fa.tmps.getD 112 undef = y112
  generalize fa.tmps.getD 104 undef = y104
  generalize fa.tmps.getD 113 undef = y113
  generalize fa.tmps.getD 114 undef = y114
  clear hSame hRR f29 g29 f30 g30
  simp only [Act.put, List.setIfInBounds_toArray, List.set_cons_succ, List.set_cons_zero]
  have B13 := Lib.hid (below_step B12.out d13)
  have SL_13 := Lib.hid (SL_12.out.on d13)
  have K13 := K12.keep d13
  clear d13 SL_12 K12 B12
  simp only [Exit.then, Exit.inBlock]
  have tx := K13; obtain ⟨cK_b, cK_f, cK_0, cK_1, cK_2, cK_3⟩ := tx
  go_wp2_with fail
  clear cK_b cK_f cK_0 cK_1 cK_2 cK_3
  refine (R0.out _ (MX.out _ (below_step B13.out gr0))).mono ?_; rintro e w14 ⟨_, sM0, rfl, b14⟩
  have SM0_14 := Lib.hid sM0; obtain ⟨AM0, cM0, rfl, -⟩ := sM0
  have d14 : Below w13.heap.size w13 w14 := below_step gr0 b14
  have B14 := Lib.hid (below_step B13.out d14)
  have SL_14 := Lib.hid (SL_13.out.on d14)
  have K14 := K13.keep d14
  clear SL_13 K13 b14 d14 B13
  have tx := K14; obtain ⟨cK_b, cK_f, cK_0, cK_1, cK_2, cK_3⟩ := tx
  go_wp2_with fail
  clear cK_b cK_f cK_0 cK_1 cK_2 cK_3
  refine (R1.out _ (MX.out _ (below_step B14.out gr0))).mono ?_; rintro e w15 ⟨_, sM1, rfl, b15⟩
  have SM1_15 := Lib.hid sM1; obtain ⟨AM1, cM1, rfl, -⟩ := sM1
  have d15 : Below w14.heap.size w14 w15 := below_step gr0 b15
  have B15 := Lib.hid (below_step B14.out d15)
  have SL_15 := Lib.hid (SL_14.out.on d15)
  have SM0_15 := Lib.hid (SM0_14.out.on d15)
  have K15 := K14.keep d15
  have aF0 := B14.out.size
  have F015 : Bk2 w15 (w14.heap.size) (.int .i64 0) (.int .i64 0) := by refine Bk2.of b15 (by simp <;> omega) (by intro j; simp [go_sem]) ?_ ?_ <;> simp [go_sem]
  clear SL_14 SM0_14 K14 b15 d15 B14
  clear SM1_15
  have tx := K15; obtain ⟨cK_b, cK_f, cK_0, cK_1, cK_2, cK_3⟩ := tx
  have tx := F015; obtain ⟨cF0_b, cF0_f, cF0_0, cF0_1⟩ := tx
  go_wp2_with fail
  clear cK_b cK_f cK_0 cK_1 cK_2 cK_3 cF0_b cF0_f cF0_0 cF0_1
  refine (R2.out _ (MX.out _ (below_step B15.out gr0))).mono ?_; rintro e w16 ⟨_, sM2, rfl, b16⟩
  have SM2_16 := Lib.hid sM2; obtain ⟨AM2, cM2, rfl, -⟩ := sM2
  have d16 : Below w15.heap.size w15 w16 := below_step gr0 b16
  have B16 := Lib.hid (below_step B15.out d16)
  have SL_16 := Lib.hid (SL_15.out.on d16)
  have SM0_16 := Lib.hid (SM0_15.out.on d16)
  have K16 := K15.keep d16
  have F016 := F015.keep d16
  have aF1 := B15.out.size
  have nF1F0 := Nat.ne_of_lt F015.hb
  have oF1F0 := Nat.ne_of_gt F015.hb
  have F116 : Bk2 w16 (w15.heap.size) (.int .i64 1) (.int .i64 3) := by refine Bk2.of b16 (by simp <;> omega) (by intro j; simp [go_sem]) ?_ ?_ <;> simp [go_sem]
  clear SL_15 SM0_15 K15 F015 b16 d16 B15
  clear SM2_16
  have tx := K16; obtain ⟨cK_b, cK_f, cK_0, cK_1, cK_2, cK_3⟩ := tx
  have tx := F016; obtain ⟨cF0_b, cF0_f, cF0_0, cF0_1⟩ := tx
  have tx := F116; obtain ⟨cF1_b, cF1_f, cF1_0, cF1_1⟩ := tx
  go_wp2_with fail
  clear cK_b cK_f cK_0 cK_1 cK_2 cK_3 cF0_b cF0_f cF0_0 cF0_1 cF1_b cF1_f cF1_0 cF1_1
  refine (R3.out _ (MX.out _ (below_step B16.out gr0))).mono ?_; rintro e w17 ⟨_, sM3, rfl, b17⟩
  have SM3_17 := Lib.hid sM3; obtain ⟨AM3, cM3, rfl, -⟩ := sM3
  have d17 : Below w16.heap.size w16 w17 := below_step gr0 b17
  have B17 := Lib.hid (below_step B16.out d17)
  have SL_17 := Lib.hid (SL_16.out.on d17)
  have SM0_17 := Lib.hid (SM0_16.out.on d17)
  have K17 := K16.keep d17
  have F017 := F016.keep d17
  have F117 := F116.keep d17
  have aF2 := B16.out.size
  have nF2F0 := Nat.ne_of_lt F016.hb
  have oF2F0 := Nat.ne_of_gt F016.hb
  have nF2F1 := Nat.ne_of_lt F116.hb
  have oF2F1 := Nat.ne_of_gt F116.hb
  have F217 : Bk2 w17 (w16.heap.size) (.int .i64 2) (.int .i64 5) := by refine Bk2.of b17 (by simp <;> omega) (by intro j; simp [go_sem]) ?_ ?_ <;> simp [go_sem]
  clear SL_16 SM0_16 K16 F016 F116 b17 d17 B16
  clear SM3_17
  have tx := K17; obtain ⟨cK_b, cK_f, cK_0, cK_1, cK_2, cK_3⟩ := tx
  have tx := F017; obtain ⟨cF0_b, cF0_f, cF0_0, cF0_1⟩ := tx
  have tx := F117; obtain ⟨cF1_b, cF1_f, cF1_0, cF1_1⟩ := tx
  have tx := F217; obtain ⟨cF2_b, cF2_f, cF2_0, cF2_1⟩ := tx
  go_wp2_with fail
  clear cK_b cK_f cK_0 cK_1 cK_2 cK_3 cF0_b cF0_f cF0_0 cF0_1 cF1_b cF1_f cF1_0 cF1_1 cF2_b cF2_f cF2_0 cF2_1
  refine (lesame_yes _ _ [(100, 1)] _ (SM0_17.out.on gr0) (spv_take (SL_17.out.on gr0) 1 (by decide) 2) (by decide)).mono ?_; rintro e w18 ⟨rfl, b18⟩
  have d18 : Below w17.heap.size w17 w18 := below_step gr0 b18
  have B18 := Lib.hid (below_step B17.out d18)
  have SL_18 := Lib.hid (SL_17.out.on d18)
  have SM0_18 := Lib.hid (SM0_17.out.on d18)
  have K18 := K17.keep d18
  have F018 := F017.keep d18
  have F118 := F117.keep d18
  have F218 := F217.keep d18
  have aF3 := B17.out.size
  have nF3F0 := Nat.ne_of_lt F017.hb
  have oF3F0 := Nat.ne_of_gt F017.hb
  have nF3F1 := Nat.ne_of_lt F117.hb
  have oF3F1 := Nat.ne_of_gt F117.hb
  have nF3F2 := Nat.ne_of_lt F217.hb
  have oF3F2 := Nat.ne_of_gt F217.hb
  have F318 : Bk2 w18 (w17.heap.size) (.int .i64 0) (.int .i64 4) := by refine Bk2.of b18 (by simp <;> omega) (by intro j; simp [go_sem]) ?_ ?_ <;> simp [go_sem]
  clear SL_17 SM0_17 K17 F017 F117 F217 b18 d18 B17
  have tx := K18; obtain ⟨cK_b, cK_f, cK_0, cK_1, cK_2, cK_3⟩ := tx
  have tx := F018; obtain ⟨cF0_b, cF0_f, cF0_0, cF0_1⟩ := tx
  have tx := F118; obtain ⟨cF1_b, cF1_f, cF1_0, cF1_1⟩ := tx
  have tx := F218; obtain ⟨cF2_b, cF2_f, cF2_0, cF2_1⟩ := tx
  have tx := F318; obtain ⟨cF3_b, cF3_f, cF3_0, cF3_1⟩ := tx
  go_wp2_with fail
  clear cK_b cK_f cK_0 cK_1 cK_2 cK_3 cF0_b cF0_f cF0_0 cF0_1 cF1_b cF1_f cF1_0 cF1_1 cF2_b cF2_f cF2_0 cF2_1 cF3_b cF3_f cF3_0 cF3_1
  refine (RA.out _ SL_18.out).mono ?_; rintro e w19 ⟨rfl, b19⟩
  have d19 : Below w18.heap.size w18 w19 := below_step gr0 b19
  have B19 := Lib.hid (below_step B18.out d19)
  have SL_19 := Lib.hid (SL_18.out.on d19)
  have SM0_19 := Lib.hid (SM0_18.out.on d19)
  have K19 := K18.keep d19
  have F019 := F018.keep d19
  have F119 := F118.keep d19
  have F219 := F218.keep d19
  have F319 := F318.keep d19
  clear SL_18 SM0_18 K18 F018 F118 F218 F318 b19 d19 B18
  have tx := K19; obtain ⟨cK_b, cK_f, cK_0, cK_1, cK_2, cK_3⟩ := tx
  have tx := F019; obtain ⟨cF0_b, cF0_f, cF0_0, cF0_1⟩ := tx
  have tx := F119; obtain ⟨cF1_b, cF1_f, cF1_0, cF1_1⟩ := tx
  have tx := F219; obtain ⟨cF2_b, cF2_f, cF2_0, cF2_1⟩ := tx
  have tx := F319; obtain ⟨cF3_b, cF3_f, cF3_0, cF3_1⟩ := tx
  go_wp2_with fail
  clear cK_b cK_f cK_0 cK_1 cK_2 cK_3 cF0_b cF0_f cF0_0 cF0_1 cF1_b cF1_f cF1_0 cF1_1 cF2_b cF2_f cF2_0 cF2_1 cF3_b cF3_f cF3_0 cF3_1
  refine (RB.out _ _ (SpO.st (lp_spo 0 _ [(1, 2)] _ rfl _ 1 (Nat.zero_le _)))).mono ?_; rintro e w20 ⟨rfl, b20⟩
  have d20 : Below w19.heap.size w19 w20 := below_step gr0 b20
  have B20 := Lib.hid (below_step B19.out d20)
  have SL_20 := Lib.hid (SL_19.out.on d20)
  have SM0_20 := Lib.hid (SM0_19.out.on d20)
  have K20 := K19.keep d20
  have F020 := F019.keep d20
  have F120 := F119.keep d20
  have F220 := F219.keep d20
  have F320 := F319.keep d20
  clear SL_19 SM0_19 K19 F019 F119 F219 F319 b20 d20 B19
  have tx := K20; obtain ⟨cK_b, cK_f, cK_0, cK_1, cK_2, cK_3⟩ := tx
  have tx := F020; obtain ⟨cF0_b, cF0_f, cF0_0, cF0_1⟩ := tx
  have tx := F120; obtain ⟨cF1_b, cF1_f, cF1_0, cF1_1⟩ := tx
  have tx := F220; obtain ⟨cF2_b, cF2_f, cF2_0, cF2_1⟩ := tx
  have tx := F320; obtain ⟨cF3_b, cF3_f, cF3_0, cF3_1⟩ := tx
  go_wp2_with fail
  clear cK_b cK_f cK_0 cK_1 cK_2 cK_3 cF0_b cF0_f cF0_0 cF0_1 cF1_b cF1_f cF1_0 cF1_1 cF2_b cF2_f cF2_0 cF2_1 cF3_b cF3_f cF3_0 cF3_1
  refine (RC.out _).mono ?_; rintro e w21 ⟨rfl, b21⟩
  have d21 : Below w20.heap.size w20 w21 := below_step gr0 b21
  have B21 := Lib.hid (below_step B20.out d21)
  have SL_21 := Lib.hid (SL_20.out.on d21)
  have SM0_21 := Lib.hid (SM0_20.out.on d21)
  have K21 := K20.keep d21
  have F021 := F020.keep d21
  have F121 := F120.keep d21
  have F221 := F220.keep d21
  have F321 := F320.keep d21
  clear SL_20 SM0_20 K20 F020 F120 F220 F320 b21 d21 B20
  have tx := K21; obtain ⟨cK_b, cK_f, cK_0, cK_1, cK_2, cK_3⟩ := tx
  have tx := F021; obtain ⟨cF0_b, cF0_f, cF0_0, cF0_1⟩ := tx
  have tx := F121; obtain ⟨cF1_b, cF1_f, cF1_0, cF1_1⟩ := tx
  have tx := F221; obtain ⟨cF2_b, cF2_f, cF2_0, cF2_1⟩ := tx
  have tx := F321; obtain ⟨cF3_b, cF3_f, cF3_0, cF3_1⟩ := tx
  go_wp2_with fail
  clear cK_b cK_f cK_0 cK_1 cK_2 cK_3 cF0_b cF0_f cF0_0 cF0_1 cF1_b cF1_f cF1_0 cF1_1 cF2_b cF2_f cF2_0 cF2_1 cF3_b cF3_f cF3_0 cF3_1
  go_ret
  exact ⟨rfl, (grB B21)⟩
end Go.Proofs.YtifgiclnofdnkaaGreatDoor
