/- Joined: RuE. -/
import Derived.Test.YtjggjkeopbcmoaaGreatDoorBt01
import Derived.Test.YtjggjkeopbcmoaaGreatDoorBt13
import Derived.BigRegion
set_option linter.unusedVariables false
set_option linter.unusedSimpArgs false
namespace Go.Proofs.YtjggjkeopbcmoaaGreatDoor
open Go.RowKit Go.Sort
set_option maxHeartbeats 8000000 in
set_option maxRecDepth 100000 in
theorem ruread_nine (v : Value) (f0 f1 f2 f3 f4 f5 f6 f7 f8 : ByteArray) (w : World) (S : StS w v [f0, f1, f2, f3, f4, f5, f6, f7, f8]) (hz : ∀ x ∈ [f0, f1, f2, f3, f4, f5, f6, f7, f8], x.size ≤ 600) (tp : TypeId) (p : Value) (y : Int) (L : Ru.Lv w tp p y) :
  Calls Tryz.prog 33 #[v] w fun e w' => Below w.heap.size w w' ∧ ((Ru.fst (Ru.ws f0 f1 f2 f3 f4 f5 f6 f7 f8) = 0 ∧ e = .returned (Ru.rl f0 f1 f2 f4 f5 f6 f7 f8).v) ∨ (Ru.fst (Ru.ws f0 f1 f2 f3 f4 f5 f6 f7 f8) ≠ 0 ∧ e = .panicked (gvP (Ru.fst (Ru.ws f0 f1 f2 f3 f4 f5 f6 f7 f8))))) := by
 have z0 := hz f0 (by simp); have z1 := hz f1 (by simp); have z2 := hz f2 (by simp); have z4 := hz f4 (by simp); have z5 := hz f5 (by simp); have z6 := hz f6 (by simp); have z7 := hz f7 (by simp); have z8 := hz f8 (by simp)
 have hml : ∀ {n : Nat}, n ≤ 600 → n ≤ maxLen := fun h => Nat.le_trans h (by decide)
 have NM := Lib.hid (fun W => rname_any f0 W (hml z0))
 have YF := Lib.hid (fun W (h : Ru.Lv W tp p y) => yfrom_any f1 W (by omega) tp p h.rng)
 have YT := Lib.hid (fun W (h : Ru.Lv W tp p y) => yto_any f2 (Yr.fr f1.data.toList).1 W (by omega) tp p h.rng)
 have MO := Lib.hid (fun W (h : Ru.Lv W tp p y) => month_any f4 W (hml z4) h.mon)
 have DR := Lib.hid (fun W (h : Ru.Lv W tp p y) => dRead_any f5 W (by omega) tp p h.rng h.days)
 have CR := Lib.hid (fun W (h : Ru.Lv W tp p y) => clread_any f6 W y (by omega) h.ltr h.mx)
 have AR := Lib.hid (fun W (h : Ru.Lv W tp p y) => aread_any f7 W y (by omega) h.mx)
 have LT := Lib.hid (fun W => letter_any f8 W (by omega))
 have HL := Lib.hid (fun W (b : Below w.heap.size w W) => L.on b)
 have T := S
 obtain ⟨A, c, rfl, hA⟩ := T
 obtain ⟨q, rfl, hq, hcell⟩ := hA (by simp)
 have HC : Hid (∀ W, Below w.heap.size w W → W.cell? q = some (.string f0) ∧ W.cell? ⟨q.block, q.off + 1, none⟩ = some (.string f1) ∧ W.cell? ⟨q.block, q.off + 2, none⟩ = some (.string f2) ∧ W.cell? ⟨q.block, q.off + 3, none⟩ = some (.string f3) ∧ W.cell? ⟨q.block, q.off + 4, none⟩ = some (.string f4) ∧ W.cell? ⟨q.block, q.off + 5, none⟩ = some (.string f5) ∧ W.cell? ⟨q.block, q.off + 6, none⟩ = some (.string f6) ∧ W.cell? ⟨q.block, q.off + 7, none⟩ = some (.string f7) ∧ W.cell? ⟨q.block, q.off + 8, none⟩ = some (.string f8)) := fun W b => by
  have k : ∀ i x, ([f0, f1, f2, f3, f4, f5, f6, f7, f8].map Value.string)[i]? = some x → W.cell? (q.add i) = some x := fun i x hx => by
   have := hcell i x hx
   exact (b.cell (by rw [blk_add]; exact hq)).trans this
  have k0 := k 0 _ rfl
  rw [Addr.add_zero'] at k0
  have kk : ∀ i, q.add (i + 1) = ⟨q.block, q.off + (i + 1), none⟩ := fun i => by rw [Addr.add_succ']
  have k1 := k 1 _ rfl; have k2 := k 2 _ rfl; have k3 := k 3 _ rfl; have k4 := k 4 _ rfl; have k5 := k 5 _ rfl; have k6 := k 6 _ rfl; have k7 := k 7 _ rfl; have k8 := k 8 _ rfl
  rw [kk 0] at k1; rw [kk 1] at k2; rw [kk 2] at k3; rw [kk 3] at k4; rw [kk 4] at k5; rw [kk 5] at k6; rw [kk 6] at k7; rw [kk 7] at k8
  exact ⟨k0, k1, k2, k3, k4, k5, k6, k7, k8⟩
 have n1 : q.block ≠ w.heap.size := Nat.ne_of_lt hq
 have n2 : q.block ≠ w.heap.size + 1 := by omega
 have n3 : w.heap.size ≠ q.block := Nat.ne_of_gt hq
 have n4 : w.heap.size + 1 ≠ q.block := by omega
 clear hcell S L hz z0 z1 z2 z4 z5 z6 z7 z8 hml hA
 unfold Ru.rl Ru.R.v
 obtain ⟨F, hF⟩ : ∃ F, F = Ru.fst (Ru.ws f0 f1 f2 f3 f4 f5 f6 f7 f8) := ⟨_, rfl⟩
 rw [← hF]
 unfold Ru.ws at hF
 unfold Ru.mo Ru.dy Ru.sv at hF ⊢
 generalize Lk.nm f0.data.toList = q0 at *
 generalize (Yr.fr f1.data.toList).1 = v1 at *
 generalize (Yr.fr f1.data.toList).2 = q1 at *
 generalize (Yr.to f2.data.toList v1).1 = v2 at *
 generalize (Yr.to f2.data.toList v1).2 = q2 at *
 generalize Wd.up (Wd.mat f4.data.toList Wd.months) = v4 at *
 generalize (Wd.mat f4.data.toList Wd.months).2 = q4 at *
 generalize (Ds.rd f5.data.toList).1 = k at *
 generalize (Ds.rd f5.data.toList).2.1 = wk at *
 generalize (Ds.rd f5.data.toList).2.2.1 = d at *
 generalize (Ds.rd f5.data.toList).2.2.2 = q5 at *
 generalize (Cl.rd f6).1 = sec at *
 generalize (Cl.rd f6).2.1 = base at *
 generalize (Cl.rd f6).2.2 = q6 at *
 generalize (Am.rd f7).1 = save at *
 generalize (Am.rd f7).2 = q7 at *
 generalize (⟨(Fo.lt f8.data.toList).1.toArray⟩ : ByteArray) = t at *
 generalize (Fo.lt f8.data.toList).2 = q8 at *
 have HF := Lib.hid hF; clear hF
 have OF := Lib.hid (fun W => ofits_any k wk d v4 W)
 obtain ⟨o, ho⟩ : ∃ o, o = Dr.onF k wk d v4 := ⟨_, rfl⟩
 rw [← ho] at OF
 have HO := Lib.hid ho; clear ho
 go_enter Tryz.func33, Tryz.ntmps33
 obtain ⟨g0, g1, g2, g3, g4, g5, g6, g7, g8⟩ := HC.out _ (Below.refl _ _)
 go_wp2_with fail
 refine (NM.out _).mono ?_; rintro e v1 ⟨rfl, rfl⟩
 by_cases h0 : q0 = 0
 case neg =>
  obtain rfl : F = q0 := by rw [HF.out]; exact Ru.fst_no h0
  go_wp2_with fail
  refine (for_no _ _ h0).mono ?_; rintro e v ⟨rfl, rfl⟩
  refine (show bodyPost _ _ _ (Exit.panic _) _ _ from ?_); simp only [bodyPost]
  exact ⟨trivial, (Below.refl _ _).alloc (Nat.le_refl _) _, .inr ⟨h0, by first | rfl | trivial⟩⟩
 subst h0
 go_wp2_with fail
 refine (for_yes _).mono ?_; rintro e v0 ⟨rfl, rfl⟩
 go_wp2_with fail
 refine (YF.out _ (HL.out _ gr0)).mono ?_; rintro e w1 ⟨rfl, b1⟩
 have d1 : Below w.heap.size w w1 := below_step gr0 b1
 have B1 := Lib.hid d1
 have Z1 : Bk11 w1 (w.heap.size) (.string ⟨#[]⟩) (.int .i64 0) (.int .i64 0) (.int .i64 0) (.int .i64 0) (.int .i64 0) (.int .i64 0) (.int .i64 0) (.int .i64 0) (.int .i64 0) (.string ⟨#[]⟩) := by refine Bk11.of b1 (by simp <;> omega) (by intro j; simp [go_sem]) ?_ ?_ ?_ ?_ ?_ ?_ ?_ ?_ ?_ ?_ ?_ <;> simp [go_sem]
 have X1 : Bk11 w1 (w.heap.size + 1) (.string f0) (.int .i64 0) (.int .i64 0) (.int .i64 0) (.int .i64 0) (.int .i64 0) (.int .i64 0) (.int .i64 0) (.int .i64 0) (.int .i64 0) (.string ⟨#[]⟩) := by refine Bk11.of b1 (by simp <;> omega) (by intro j; simp [go_sem]) ?_ ?_ ?_ ?_ ?_ ?_ ?_ ?_ ?_ ?_ ?_ <;> simp [go_sem]
 clear b1 d1
 by_cases h1 : q1 = 0
 case neg =>
  obtain rfl : F = q1 := by rw [HF.out, Ru.fst_yes rfl]; exact Ru.fst_no h1
  go_wp2_with fail
  refine (muti_no _ _ _ h1).mono ?_; rintro e v ⟨rfl, rfl⟩
  refine (show bodyPost _ _ _ (Exit.panic _) _ _ from ?_); simp only [bodyPost]
  exact ⟨trivial, (grB B1), .inr ⟨h1, by first | rfl | trivial⟩⟩
 subst h1
 clear g0 g1 g2 g3 g4 g5 g6 g7 g8
 have tx := Z1; obtain ⟨cZ_b, cZ_f, cZ_0, cZ_1, cZ_2, cZ_3, cZ_4, cZ_5, cZ_6, cZ_7, cZ_8, cZ_9, cZ_10⟩ := tx
 have tx := X1; obtain ⟨cX_b, cX_f, cX_0, cX_1, cX_2, cX_3, cX_4, cX_5, cX_6, cX_7, cX_8, cX_9, cX_10⟩ := tx
 go_wp2_with fail
 refine (muti_yes _ _).mono ?_; rintro e v ⟨rfl, rfl⟩
 go_wp2_with fail
 clear cZ_b cZ_f cZ_0 cZ_1 cZ_2 cZ_3 cZ_4 cZ_5 cZ_6 cZ_7 cZ_8 cZ_9 cZ_10 cX_b cX_f cX_0 cX_1 cX_2 cX_3 cX_4 cX_5 cX_6 cX_7 cX_8 cX_9 cX_10
 refine wp_named ?_; intro w2 hw2
 have B2 := Lib.hid (show Below w.heap.size w w2 by rw [hw2]; exact grB B1)
 have X2 := X1.set1 (v := (.int .i64 v1)) hw2
 have Z2 := Z1.other hw2 (by have := Z1.hb; have := X1.hb; omega)
 clear X1 Z1 hw2 B1
 obtain ⟨g0, g1, g2, g3, g4, g5, g6, g7, g8⟩ := HC.out _ B2.out
 have r2 := cell_regrown g2
 by_cases h2 : q2 = 0
 case neg =>
  obtain rfl : F = q2 := by rw [HF.out, Ru.fst_yes rfl, Ru.fst_yes rfl]; exact Ru.fst_no h2
  have x1 := cell_regrown X2.k1
  refine wp_region_qpanic (w := w2) (ch := gvP F) 8 [0, 1, 2, 3, 4, 5, 6, 7] (by kernel_rfl) rfl (by kernel_rfl) (Below.refl _ _) (fun a w' hd b => ?_) ?_
  ·
   simp +zetaDelta only [Exit.then, bodyPost]
   exact ⟨hd, below_step B2.out b, .inr ⟨h2, by first | rfl | trivial⟩⟩
  ·
   simp only [List.filterMap_cons, List.filterMap_nil, List.getElem?_toArray, List.getElem?_cons_zero, List.getElem?_cons_succ]
   repeat (any_goals (first | go_big_quiet_step (first | (go_at_call 67; exact Calls.regrown_of (YT.out _ (HL.out _ (below_step B2.out (below_regrown _ _ _)))))) | quiet_step (first | (go_at_call 67; exact Calls.regrown_of (YT.out _ (HL.out _ (below_step B2.out (below_regrown _ _ _))))))))
   refine wpQuiet_nil ?_
   refine ⟨by rfl, fun W hW => ?_⟩
   obtain ⟨pp, rfl⟩ := hW
   go_simp
   exact ⟨rfl, panicked_regrown ((muti_no _ _ _ h2).mono fun _ _ ⟨e, k⟩ => ⟨e, k ▸ Below.refl _ _⟩)⟩
 subst h2
 have tx := X2; obtain ⟨cX_b, cX_f, cX_0, cX_1, cX_2, cX_3, cX_4, cX_5, cX_6, cX_7, cX_8, cX_9, cX_10⟩ := tx
 have tx := Z2; obtain ⟨cZ_b, cZ_f, cZ_0, cZ_1, cZ_2, cZ_3, cZ_4, cZ_5, cZ_6, cZ_7, cZ_8, cZ_9, cZ_10⟩ := tx
 have qX_0 := cell_regrown X2.k0
 have qX_1 := cell_regrown X2.k1
 have qX_2 := cell_regrown X2.k2
 have qX_3 := cell_regrown X2.k3
 have qX_4 := cell_regrown X2.k4
 have qX_5 := cell_regrown X2.k5
 have qX_6 := cell_regrown X2.k6
 have qX_7 := cell_regrown X2.k7
 have qX_8 := cell_regrown X2.k8
 have qX_9 := cell_regrown X2.k9
 have qX_10 := cell_regrown X2.k10
 have qZ_0 := cell_regrown Z2.k0
 have qZ_1 := cell_regrown Z2.k1
 have qZ_2 := cell_regrown Z2.k2
 have qZ_3 := cell_regrown Z2.k3
 have qZ_4 := cell_regrown Z2.k4
 have qZ_5 := cell_regrown Z2.k5
 have qZ_6 := cell_regrown Z2.k6
 have qZ_7 := cell_regrown Z2.k7
 have qZ_8 := cell_regrown Z2.k8
 have qZ_9 := cell_regrown Z2.k9
 have qZ_10 := cell_regrown Z2.k10
 refine wp_region_qbt (w := w2) 10 (by kernel_rfl) (by kernel_rfl) gr0 ?_
 simp only [List.take_succ_cons, List.take_zero, List.drop_succ_cons, List.drop_zero]
 repeat (any_goals (first | go_big_quiet_step (first | (go_at_call 67; exact Calls.regrown_of (YT.out _ (HL.out _ (below_step B2.out (below_regrown _ _ _))))) | (go_at_call 65; exact Calls.regrown_of ((muti_yes _ _).mono fun _ _ h => ⟨h.1, h.2 ▸ Below.refl _ _⟩))) | quiet_step (first | (go_at_call 67; exact Calls.regrown_of (YT.out _ (HL.out _ (below_step B2.out (below_regrown _ _ _))))) | (go_at_call 65; exact Calls.regrown_of ((muti_yes _ _).mono fun _ _ h => ⟨h.1, h.2 ▸ Below.refl _ _⟩)))))
 refine wpQuiet_nil ?_
 intro w3 b3
 clear qX_0 qX_1 qX_2 qX_3 qX_4 qX_5 qX_6 qX_7 qX_8 qX_9 qX_10 qZ_0 qZ_1 qZ_2 qZ_3 qZ_4 qZ_5 qZ_6 qZ_7 qZ_8 qZ_9 qZ_10
 have d3 : Below w2.heap.size w2 w3 := below_step gr0 b3
 have B3 := Lib.hid (below_step B2.out d3)
 have X3 := X2.keep d3
 have Z3 := Z2.keep d3
 clear X2 Z2 b3 d3 B2
 clear r2
 clear g0 g1 g2 g3 g4 g5 g6 g7 g8
 obtain ⟨g0, g1, g2, g3, g4, g5, g6, g7, g8⟩ := HC.out _ B3.out
 have tx := X3; obtain ⟨cX_b, cX_f, cX_0, cX_1, cX_2, cX_3, cX_4, cX_5, cX_6, cX_7, cX_8, cX_9, cX_10⟩ := tx
 have tx := Z3; obtain ⟨cZ_b, cZ_f, cZ_0, cZ_1, cZ_2, cZ_3, cZ_4, cZ_5, cZ_6, cZ_7, cZ_8, cZ_9, cZ_10⟩ := tx
 by_cases h3 : f3 = ⟨#[45]⟩
 case neg =>
  obtain rfl : F = 3 := by rw [HF.out, Ru.fst_yes rfl, Ru.fst_yes rfl, Ru.fst_yes rfl, if_neg h3]; rfl
  have m2 : (f3.toList == [45]) = false := by
   rw [beq_eq_false_iff_ne]
   intro e
   rw [ByteArray.toList_eq] at e
   exact h3 (ByteArray.ext (Array.toList_inj.1 e))
  go_wp2_with fail
  refine (need_no 3 _).mono ?_; rintro e v ⟨rfl, rfl⟩
  refine (show bodyPost _ _ _ (Exit.panic _) _ _ from ?_); simp only [bodyPost]
  exact ⟨trivial, (grB B3), .inr ⟨by decide, by first | rfl | trivial⟩⟩
 subst h3
 go_wp2_with fail
 refine (need_yes 3 _).mono ?_; rintro e v ⟨rfl, rfl⟩
 go_wp2_with fail
 refine (MO.out _ (HL.out _ (grB B3))).mono ?_; rintro e w4 ⟨rfl, b4⟩
 have hz := B3.out.size
 have B4 := Lib.hid (show Below w.heap.size w w4 from below_step (by repeat (first | exact B3.out | refine below_drewN ?_ _ | refine Below.drew ?_ | refine Below.setCell ?_ (by simp <;> omega) _ | refine Below.alloc ?_ (by simp <;> omega) _)) b4)
 have X4 : Bk11 w4 (w.heap.size + 1) (.string f0) (.int .i64 v1) (.int .i64 v2) (.int .i64 0) (.int .i64 0) (.int .i64 0) (.int .i64 0) (.int .i64 0) (.int .i64 0) (.int .i64 0) (.string ⟨#[]⟩) := by refine Bk11.of b4 (by simp <;> omega) (by intro j; simp [go_sem, cX_b, cX_f, cX_0, cX_1, cX_2, cX_3, cX_4, cX_5, cX_6, cX_7, cX_8, cX_9, cX_10, cZ_b, cZ_f, cZ_0, cZ_1, cZ_2, cZ_3, cZ_4, cZ_5, cZ_6, cZ_7, cZ_8, cZ_9, cZ_10]) ?_ ?_ ?_ ?_ ?_ ?_ ?_ ?_ ?_ ?_ ?_ <;> simp [go_sem, cX_b, cX_f, cX_0, cX_1, cX_2, cX_3, cX_4, cX_5, cX_6, cX_7, cX_8, cX_9, cX_10, cZ_b, cZ_f, cZ_0, cZ_1, cZ_2, cZ_3, cZ_4, cZ_5, cZ_6, cZ_7, cZ_8, cZ_9, cZ_10]
 have Z4 : Bk11 w4 (w.heap.size) (.string ⟨#[]⟩) (.int .i64 0) (.int .i64 0) (.int .i64 0) (.int .i64 0) (.int .i64 0) (.int .i64 0) (.int .i64 0) (.int .i64 0) (.int .i64 0) (.string ⟨#[]⟩) := by refine Bk11.of b4 (by simp <;> omega) (by intro j; simp [go_sem, cX_b, cX_f, cX_0, cX_1, cX_2, cX_3, cX_4, cX_5, cX_6, cX_7, cX_8, cX_9, cX_10, cZ_b, cZ_f, cZ_0, cZ_1, cZ_2, cZ_3, cZ_4, cZ_5, cZ_6, cZ_7, cZ_8, cZ_9, cZ_10]) ?_ ?_ ?_ ?_ ?_ ?_ ?_ ?_ ?_ ?_ ?_ <;> simp [go_sem, cX_b, cX_f, cX_0, cX_1, cX_2, cX_3, cX_4, cX_5, cX_6, cX_7, cX_8, cX_9, cX_10, cZ_b, cZ_f, cZ_0, cZ_1, cZ_2, cZ_3, cZ_4, cZ_5, cZ_6, cZ_7, cZ_8, cZ_9, cZ_10]
 clear b4 hz B3 X3 Z3 cX_b cX_f cX_0 cX_1 cX_2 cX_3 cX_4 cX_5 cX_6 cX_7 cX_8 cX_9 cX_10 cZ_b cZ_f cZ_0 cZ_1 cZ_2 cZ_3 cZ_4 cZ_5 cZ_6 cZ_7 cZ_8 cZ_9 cZ_10
 clear g0 g1 g2 g3 g4 g5 g6 g7 g8
 obtain ⟨g0, g1, g2, g3, g4, g5, g6, g7, g8⟩ := HC.out _ B4.out
 have tx := X4; obtain ⟨cX_b, cX_f, cX_0, cX_1, cX_2, cX_3, cX_4, cX_5, cX_6, cX_7, cX_8, cX_9, cX_10⟩ := tx
 have tx := Z4; obtain ⟨cZ_b, cZ_f, cZ_0, cZ_1, cZ_2, cZ_3, cZ_4, cZ_5, cZ_6, cZ_7, cZ_8, cZ_9, cZ_10⟩ := tx
 by_cases h4 : q4 = 0
 case neg =>
  obtain rfl : F = q4 := by rw [HF.out]; simp [Ru.fst, h4]
  go_wp2_with fail
  refine (muti_no _ _ _ h4).mono ?_; rintro e v ⟨rfl, rfl⟩
  refine (show bodyPost _ _ _ (Exit.panic _) _ _ from ?_); simp only [bodyPost]
  exact ⟨trivial, (grB B4), .inr ⟨h4, by first | rfl | trivial⟩⟩
 subst h4
 go_wp2_with fail
 refine (muti_yes _ _).mono ?_; rintro e v ⟨rfl, rfl⟩
 go_wp2_with fail
 refine (DR.out _ (HL.out _ (grB B4))).mono ?_; rintro e w5 ⟨rfl, b5⟩
 have hz := B4.out.size
 have B5 := Lib.hid (show Below w.heap.size w w5 from below_step (by repeat (first | exact B4.out | refine below_drewN ?_ _ | refine Below.drew ?_ | refine Below.setCell ?_ (by simp <;> omega) _ | refine Below.alloc ?_ (by simp <;> omega) _)) b5)
 have X5 : Bk11 w5 (w.heap.size + 1) (.string f0) (.int .i64 v1) (.int .i64 v2) (.int .i64 v4) (.int .i64 0) (.int .i64 0) (.int .i64 0) (.int .i64 0) (.int .i64 0) (.int .i64 0) (.string ⟨#[]⟩) := by refine Bk11.of b5 (by simp <;> omega) (by intro j; simp [go_sem, cX_b, cX_f, cX_0, cX_1, cX_2, cX_3, cX_4, cX_5, cX_6, cX_7, cX_8, cX_9, cX_10, cZ_b, cZ_f, cZ_0, cZ_1, cZ_2, cZ_3, cZ_4, cZ_5, cZ_6, cZ_7, cZ_8, cZ_9, cZ_10]) ?_ ?_ ?_ ?_ ?_ ?_ ?_ ?_ ?_ ?_ ?_ <;> simp [go_sem, cX_b, cX_f, cX_0, cX_1, cX_2, cX_3, cX_4, cX_5, cX_6, cX_7, cX_8, cX_9, cX_10, cZ_b, cZ_f, cZ_0, cZ_1, cZ_2, cZ_3, cZ_4, cZ_5, cZ_6, cZ_7, cZ_8, cZ_9, cZ_10]
 have Z5 : Bk11 w5 (w.heap.size) (.string ⟨#[]⟩) (.int .i64 0) (.int .i64 0) (.int .i64 0) (.int .i64 0) (.int .i64 0) (.int .i64 0) (.int .i64 0) (.int .i64 0) (.int .i64 0) (.string ⟨#[]⟩) := by refine Bk11.of b5 (by simp <;> omega) (by intro j; simp [go_sem, cX_b, cX_f, cX_0, cX_1, cX_2, cX_3, cX_4, cX_5, cX_6, cX_7, cX_8, cX_9, cX_10, cZ_b, cZ_f, cZ_0, cZ_1, cZ_2, cZ_3, cZ_4, cZ_5, cZ_6, cZ_7, cZ_8, cZ_9, cZ_10]) ?_ ?_ ?_ ?_ ?_ ?_ ?_ ?_ ?_ ?_ ?_ <;> simp [go_sem, cX_b, cX_f, cX_0, cX_1, cX_2, cX_3, cX_4, cX_5, cX_6, cX_7, cX_8, cX_9, cX_10, cZ_b, cZ_f, cZ_0, cZ_1, cZ_2, cZ_3, cZ_4, cZ_5, cZ_6, cZ_7, cZ_8, cZ_9, cZ_10]
 clear b5 hz B4 X4 Z4 cX_b cX_f cX_0 cX_1 cX_2 cX_3 cX_4 cX_5 cX_6 cX_7 cX_8 cX_9 cX_10 cZ_b cZ_f cZ_0 cZ_1 cZ_2 cZ_3 cZ_4 cZ_5 cZ_6 cZ_7 cZ_8 cZ_9 cZ_10
 clear g0 g1 g2 g3 g4 g5 g6 g7 g8
 obtain ⟨g0, g1, g2, g3, g4, g5, g6, g7, g8⟩ := HC.out _ B5.out
 by_cases h5 : q5 = 0
 case neg =>
  obtain rfl : F = q5 := by rw [HF.out]; simp [Ru.fst, Ru.dyF, h5]
  go_wp2_with fail
  refine (musto_no _ _ _ _ _ h5).mono ?_; rintro e v ⟨rfl, b⟩
  refine (show bodyPost _ _ _ (Exit.panic _) _ _ from ?_); simp only [bodyPost]
  exact ⟨trivial, below_step (grB B5) b, .inr ⟨h5, by first | rfl | trivial⟩⟩
 subst h5
 have tx := X5; obtain ⟨cX_b, cX_f, cX_0, cX_1, cX_2, cX_3, cX_4, cX_5, cX_6, cX_7, cX_8, cX_9, cX_10⟩ := tx
 have tx := Z5; obtain ⟨cZ_b, cZ_f, cZ_0, cZ_1, cZ_2, cZ_3, cZ_4, cZ_5, cZ_6, cZ_7, cZ_8, cZ_9, cZ_10⟩ := tx
 go_wp2_with fail
 clear cX_b cX_f cX_0 cX_1 cX_2 cX_3 cX_4 cX_5 cX_6 cX_7 cX_8 cX_9 cX_10 cZ_b cZ_f cZ_0 cZ_1 cZ_2 cZ_3 cZ_4 cZ_5 cZ_6 cZ_7 cZ_8 cZ_9 cZ_10
 refine (musto_yes k wk d _).mono ?_; rintro e w6 ⟨rfl, b6⟩
 have d6 : Below w5.heap.size w5 w6 := below_step gr0 b6
 have B6 := Lib.hid (below_step B5.out d6)
 have X6 := X5.keep d6
 have Z6 := Z5.keep d6
 clear X5 Z5 b6 d6 B5
 clear g0 g1 g2 g3 g4 g5 g6 g7 g8
 obtain ⟨g0, g1, g2, g3, g4, g5, g6, g7, g8⟩ := HC.out _ B6.out
 have tx := X6; obtain ⟨cX_b, cX_f, cX_0, cX_1, cX_2, cX_3, cX_4, cX_5, cX_6, cX_7, cX_8, cX_9, cX_10⟩ := tx
 have tx := Z6; obtain ⟨cZ_b, cZ_f, cZ_0, cZ_1, cZ_2, cZ_3, cZ_4, cZ_5, cZ_6, cZ_7, cZ_8, cZ_9, cZ_10⟩ := tx
 go_wp2_with fail
 refine (OF.out _).mono ?_; rintro e w7 ⟨rfl, b7⟩
 have hz := B6.out.size
 have B7 := Lib.hid (show Below w.heap.size w w7 from below_step (by repeat (first | exact B6.out | refine below_drewN ?_ _ | refine Below.drew ?_ | refine Below.setCell ?_ (by simp <;> omega) _ | refine Below.alloc ?_ (by simp <;> omega) _)) b7)
 have X7 : Bk11 w7 (w.heap.size + 1) (.string f0) (.int .i64 v1) (.int .i64 v2) (.int .i64 v4) (.int .i64 k) (.int .i64 wk) (.int .i64 d) (.int .i64 0) (.int .i64 0) (.int .i64 0) (.string ⟨#[]⟩) := by refine Bk11.of b7 (by simp <;> omega) (by intro j; simp [go_sem, cX_b, cX_f, cX_0, cX_1, cX_2, cX_3, cX_4, cX_5, cX_6, cX_7, cX_8, cX_9, cX_10, cZ_b, cZ_f, cZ_0, cZ_1, cZ_2, cZ_3, cZ_4, cZ_5, cZ_6, cZ_7, cZ_8, cZ_9, cZ_10]) ?_ ?_ ?_ ?_ ?_ ?_ ?_ ?_ ?_ ?_ ?_ <;> simp [go_sem, cX_b, cX_f, cX_0, cX_1, cX_2, cX_3, cX_4, cX_5, cX_6, cX_7, cX_8, cX_9, cX_10, cZ_b, cZ_f, cZ_0, cZ_1, cZ_2, cZ_3, cZ_4, cZ_5, cZ_6, cZ_7, cZ_8, cZ_9, cZ_10]
 have Z7 : Bk11 w7 (w.heap.size) (.string ⟨#[]⟩) (.int .i64 0) (.int .i64 0) (.int .i64 0) (.int .i64 0) (.int .i64 0) (.int .i64 0) (.int .i64 0) (.int .i64 0) (.int .i64 0) (.string ⟨#[]⟩) := by refine Bk11.of b7 (by simp <;> omega) (by intro j; simp [go_sem, cX_b, cX_f, cX_0, cX_1, cX_2, cX_3, cX_4, cX_5, cX_6, cX_7, cX_8, cX_9, cX_10, cZ_b, cZ_f, cZ_0, cZ_1, cZ_2, cZ_3, cZ_4, cZ_5, cZ_6, cZ_7, cZ_8, cZ_9, cZ_10]) ?_ ?_ ?_ ?_ ?_ ?_ ?_ ?_ ?_ ?_ ?_ <;> simp [go_sem, cX_b, cX_f, cX_0, cX_1, cX_2, cX_3, cX_4, cX_5, cX_6, cX_7, cX_8, cX_9, cX_10, cZ_b, cZ_f, cZ_0, cZ_1, cZ_2, cZ_3, cZ_4, cZ_5, cZ_6, cZ_7, cZ_8, cZ_9, cZ_10]
 clear b7 hz B6 X6 Z6 cX_b cX_f cX_0 cX_1 cX_2 cX_3 cX_4 cX_5 cX_6 cX_7 cX_8 cX_9 cX_10 cZ_b cZ_f cZ_0 cZ_1 cZ_2 cZ_3 cZ_4 cZ_5 cZ_6 cZ_7 cZ_8 cZ_9 cZ_10
 clear g0 g1 g2 g3 g4 g5 g6 g7 g8
 obtain ⟨g0, g1, g2, g3, g4, g5, g6, g7, g8⟩ := HC.out _ B7.out
 have tx := X7; obtain ⟨cX_b, cX_f, cX_0, cX_1, cX_2, cX_3, cX_4, cX_5, cX_6, cX_7, cX_8, cX_9, cX_10⟩ := tx
 have tx := Z7; obtain ⟨cZ_b, cZ_f, cZ_0, cZ_1, cZ_2, cZ_3, cZ_4, cZ_5, cZ_6, cZ_7, cZ_8, cZ_9, cZ_10⟩ := tx
 cases o
 case false =>
  have e5 : Ru.dyF k wk d 0 v4 = (0, 0, 0, 1) := by unfold Ru.dyF; rw [← HO.out]; rfl
  obtain rfl : F = 1 := by rw [HF.out, e5]; simp [Ru.fst]
  go_wp2_with fail
  refine (need_no 1 _).mono ?_; rintro e v ⟨rfl, rfl⟩
  refine (show bodyPost _ _ _ (Exit.panic _) _ _ from ?_); simp only [bodyPost]
  exact ⟨trivial, (grB B7), .inr ⟨by decide, by first | rfl | trivial⟩⟩
 have e5 : Ru.dyF k wk d 0 v4 = (k, wk, d, 0) := by unfold Ru.dyF; rw [← HO.out]; rfl
 rw [e5] at HF
 have E5 := Lib.hid e5
 clear e5
 go_wp2_with fail
 refine (need_yes 1 _).mono ?_; rintro e v ⟨rfl, rfl⟩
 go_wp2_with fail
 clear cX_b cX_f cX_0 cX_1 cX_2 cX_3 cX_4 cX_5 cX_6 cX_7 cX_8 cX_9 cX_10 cZ_b cZ_f cZ_0 cZ_1 cZ_2 cZ_3 cZ_4 cZ_5 cZ_6 cZ_7 cZ_8 cZ_9 cZ_10
 refine (CR.out _ (HL.out _ (grB B7))).mono ?_; rintro e w8 ⟨rfl, b8⟩
 have d8 : Below w7.heap.size w7 w8 := below_step gr0 b8
 have B8 := Lib.hid (below_step B7.out d8)
 have X8 := X7.keep d8
 have Z8 := Z7.keep d8
 clear X7 Z7 b8 d8 B7
 clear g0 g1 g2 g3 g4 g5 g6 g7 g8
 obtain ⟨g0, g1, g2, g3, g4, g5, g6, g7, g8⟩ := HC.out _ B8.out
 by_cases h6 : q6 = 0
 case neg =>
  obtain rfl : F = q6 := by rw [HF.out]; simp [Ru.fst, h6]
  go_wp2_with fail
  refine (musta_no _ _ _ _ h6).mono ?_; rintro e v ⟨rfl, b⟩
  refine (show bodyPost _ _ _ (Exit.panic _) _ _ from ?_); simp only [bodyPost]
  exact ⟨trivial, below_step (grB B8) b, .inr ⟨h6, by first | rfl | trivial⟩⟩
 subst h6
 have tx := X8; obtain ⟨cX_b, cX_f, cX_0, cX_1, cX_2, cX_3, cX_4, cX_5, cX_6, cX_7, cX_8, cX_9, cX_10⟩ := tx
 have tx := Z8; obtain ⟨cZ_b, cZ_f, cZ_0, cZ_1, cZ_2, cZ_3, cZ_4, cZ_5, cZ_6, cZ_7, cZ_8, cZ_9, cZ_10⟩ := tx
 go_wp2_with fail
 clear cX_b cX_f cX_0 cX_1 cX_2 cX_3 cX_4 cX_5 cX_6 cX_7 cX_8 cX_9 cX_10 cZ_b cZ_f cZ_0 cZ_1 cZ_2 cZ_3 cZ_4 cZ_5 cZ_6 cZ_7 cZ_8 cZ_9 cZ_10
 refine (musta_yes sec base _).mono ?_; rintro e w9 ⟨rfl, b9⟩
 have d9 : Below w8.heap.size w8 w9 := below_step gr0 b9
 have B9 := Lib.hid (below_step B8.out d9)
 have X9 := X8.keep d9
 have Z9 := Z8.keep d9
 clear X8 Z8 b9 d9 B8
 clear g0 g1 g2 g3 g4 g5 g6 g7 g8
 obtain ⟨g0, g1, g2, g3, g4, g5, g6, g7, g8⟩ := HC.out _ B9.out
 have tx := X9; obtain ⟨cX_b, cX_f, cX_0, cX_1, cX_2, cX_3, cX_4, cX_5, cX_6, cX_7, cX_8, cX_9, cX_10⟩ := tx
 have tx := Z9; obtain ⟨cZ_b, cZ_f, cZ_0, cZ_1, cZ_2, cZ_3, cZ_4, cZ_5, cZ_6, cZ_7, cZ_8, cZ_9, cZ_10⟩ := tx
 go_wp2_with fail
 refine (AR.out _ (HL.out _ (grB B9))).mono ?_; rintro e w10 ⟨rfl, b10⟩
 have hz := B9.out.size
 have B10 := Lib.hid (show Below w.heap.size w w10 from below_step (by repeat (first | exact B9.out | refine below_drewN ?_ _ | refine Below.drew ?_ | refine Below.setCell ?_ (by simp <;> omega) _ | refine Below.alloc ?_ (by simp <;> omega) _)) b10)
 have X10 : Bk11 w10 (w.heap.size + 1) (.string f0) (.int .i64 v1) (.int .i64 v2) (.int .i64 v4) (.int .i64 k) (.int .i64 wk) (.int .i64 d) (.int .i64 sec) (.int .i64 base) (.int .i64 0) (.string ⟨#[]⟩) := by refine Bk11.of b10 (by simp <;> omega) (by intro j; simp [go_sem, cX_b, cX_f, cX_0, cX_1, cX_2, cX_3, cX_4, cX_5, cX_6, cX_7, cX_8, cX_9, cX_10, cZ_b, cZ_f, cZ_0, cZ_1, cZ_2, cZ_3, cZ_4, cZ_5, cZ_6, cZ_7, cZ_8, cZ_9, cZ_10]) ?_ ?_ ?_ ?_ ?_ ?_ ?_ ?_ ?_ ?_ ?_ <;> simp [go_sem, cX_b, cX_f, cX_0, cX_1, cX_2, cX_3, cX_4, cX_5, cX_6, cX_7, cX_8, cX_9, cX_10, cZ_b, cZ_f, cZ_0, cZ_1, cZ_2, cZ_3, cZ_4, cZ_5, cZ_6, cZ_7, cZ_8, cZ_9, cZ_10]
 have Z10 : Bk11 w10 (w.heap.size) (.string ⟨#[]⟩) (.int .i64 0) (.int .i64 0) (.int .i64 0) (.int .i64 0) (.int .i64 0) (.int .i64 0) (.int .i64 0) (.int .i64 0) (.int .i64 0) (.string ⟨#[]⟩) := by refine Bk11.of b10 (by simp <;> omega) (by intro j; simp [go_sem, cX_b, cX_f, cX_0, cX_1, cX_2, cX_3, cX_4, cX_5, cX_6, cX_7, cX_8, cX_9, cX_10, cZ_b, cZ_f, cZ_0, cZ_1, cZ_2, cZ_3, cZ_4, cZ_5, cZ_6, cZ_7, cZ_8, cZ_9, cZ_10]) ?_ ?_ ?_ ?_ ?_ ?_ ?_ ?_ ?_ ?_ ?_ <;> simp [go_sem, cX_b, cX_f, cX_0, cX_1, cX_2, cX_3, cX_4, cX_5, cX_6, cX_7, cX_8, cX_9, cX_10, cZ_b, cZ_f, cZ_0, cZ_1, cZ_2, cZ_3, cZ_4, cZ_5, cZ_6, cZ_7, cZ_8, cZ_9, cZ_10]
 clear b10 hz B9 X9 Z9 cX_b cX_f cX_0 cX_1 cX_2 cX_3 cX_4 cX_5 cX_6 cX_7 cX_8 cX_9 cX_10 cZ_b cZ_f cZ_0 cZ_1 cZ_2 cZ_3 cZ_4 cZ_5 cZ_6 cZ_7 cZ_8 cZ_9 cZ_10
 clear g0 g1 g2 g3 g4 g5 g6 g7 g8
 obtain ⟨g0, g1, g2, g3, g4, g5, g6, g7, g8⟩ := HC.out _ B10.out
 have tx := X10; obtain ⟨cX_b, cX_f, cX_0, cX_1, cX_2, cX_3, cX_4, cX_5, cX_6, cX_7, cX_8, cX_9, cX_10⟩ := tx
 have tx := Z10; obtain ⟨cZ_b, cZ_f, cZ_0, cZ_1, cZ_2, cZ_3, cZ_4, cZ_5, cZ_6, cZ_7, cZ_8, cZ_9, cZ_10⟩ := tx
 by_cases h7 : q7 = 0
 case neg =>
  obtain rfl : F = q7 := by rw [HF.out]; simp [Ru.fst, Ru.svF, h7]
  go_wp2_with fail
  refine (must_no _ _ _ h7).mono ?_; rintro e v ⟨rfl, rfl⟩
  refine (show bodyPost _ _ _ (Exit.panic _) _ _ from ?_); simp only [bodyPost]
  exact ⟨trivial, (grB B10), .inr ⟨h7, by first | rfl | trivial⟩⟩
 subst h7
 go_wp2_with fail
 refine (must_yes _ _).mono ?_; rintro e v ⟨rfl, rfl⟩
 go_wp2_with fail
 refine (issaved_any save _).mono ?_; rintro e v ⟨rfl, rfl⟩
 by_cases h9 : -10800 ≤ save ∧ save ≤ 10800
 case neg =>
  have e7 : Ru.svF save 0 = (0, 1) := by unfold Ru.svF; rw [if_pos ⟨rfl, by omega⟩]
  obtain rfl : F = 1 := by rw [HF.out, e7]; simp [Ru.fst]
  rw [show (decide (-10800 ≤ save) && decide (save ≤ 10800)) = false by rw [← Bool.decide_and]; exact decide_eq_false h9]
  go_wp2_with fail
  refine (need_no 1 _).mono ?_; rintro e v ⟨rfl, rfl⟩
  refine (show bodyPost _ _ _ (Exit.panic _) _ _ from ?_); simp only [bodyPost]
  exact ⟨trivial, (grB B10), .inr ⟨by decide, by first | rfl | trivial⟩⟩
 have e7 : Ru.svF save 0 = (save, 0) := by unfold Ru.svF; rw [if_neg (by omega)]
 rw [e7] at HF
 have E7 := Lib.hid e7
 rw [show (decide (-10800 ≤ save) && decide (save ≤ 10800)) = true by rw [← Bool.decide_and]; exact decide_eq_true h9]
 clear e7 h9
 go_wp2_with fail
 refine (need_yes 1 _).mono ?_; rintro e v ⟨rfl, rfl⟩
 go_upto_region 12 with (fail)
 clear cX_b cX_f cX_0 cX_1 cX_2 cX_3 cX_4 cX_5 cX_6 cX_7 cX_8 cX_9 cX_10 cZ_b cZ_f cZ_0 cZ_1 cZ_2 cZ_3 cZ_4 cZ_5 cZ_6 cZ_7 cZ_8 cZ_9 cZ_10
 refine wp_named ?_; intro w11 hw11
 have B11 := Lib.hid (show Below w.heap.size w w11 by rw [hw11]; exact grB B10)
 have X11 := X10.set9 (v := (.int .i64 save)) hw11
 have Z11 := Z10.other hw11 (by have := Z10.hb; have := X10.hb; omega)
 clear X10 Z10 hw11 B10
 clear g0 g1 g2 g3 g4 g5 g6 g7 g8
 obtain ⟨g0, g1, g2, g3, g4, g5, g6, g7, g8⟩ := HC.out _ B11.out
 have tx := X11; obtain ⟨cX_b, cX_f, cX_0, cX_1, cX_2, cX_3, cX_4, cX_5, cX_6, cX_7, cX_8, cX_9, cX_10⟩ := tx
 have tx := Z11; obtain ⟨cZ_b, cZ_f, cZ_0, cZ_1, cZ_2, cZ_3, cZ_4, cZ_5, cZ_6, cZ_7, cZ_8, cZ_9, cZ_10⟩ := tx
 go_wp2_with fail
 refine (LT.out _).mono ?_; rintro e v ⟨rfl, rfl⟩
 by_cases h8 : q8 = 0
 case neg =>
  obtain rfl : F = q8 := by rw [HF.out]; simp [Ru.fst, h8]
  go_wp2_with fail
  refine (musts_no _ _ _ h8).mono ?_; rintro e v ⟨rfl, rfl⟩
  refine (show bodyPost _ _ _ (Exit.panic _) _ _ from ?_); simp only [bodyPost]
  exact ⟨trivial, (grB B11), .inr ⟨h8, by first | rfl | trivial⟩⟩
 subst h8
 obtain rfl : F = 0 := by rw [HF.out]; simp [Ru.fst]
 go_wp2_with fail
 refine (musts_yes _ _).mono ?_; rintro e v ⟨rfl, rfl⟩
 go_upto_region 13 with (fail)
 clear cX_b cX_f cX_0 cX_1 cX_2 cX_3 cX_4 cX_5 cX_6 cX_7 cX_8 cX_9 cX_10 cZ_b cZ_f cZ_0 cZ_1 cZ_2 cZ_3 cZ_4 cZ_5 cZ_6 cZ_7 cZ_8 cZ_9 cZ_10
 refine wp_named ?_; intro w12 hw12
 have B12 := Lib.hid (show Below w.heap.size w w12 by rw [hw12]; exact grB B11)
 have X12 := X11.set10 (v := (.string t)) hw12
 have Z12 := Z11.other hw12 (by have := Z11.hb; have := X11.hb; omega)
 clear X11 Z11 hw12 B11
 clear g0 g1 g2 g3 g4 g5 g6 g7 g8
 have tx := X12; obtain ⟨cX_b, cX_f, cX_0, cX_1, cX_2, cX_3, cX_4, cX_5, cX_6, cX_7, cX_8, cX_9, cX_10⟩ := tx
 have tx := Z12; obtain ⟨cZ_b, cZ_f, cZ_0, cZ_1, cZ_2, cZ_3, cZ_4, cZ_5, cZ_6, cZ_7, cZ_8, cZ_9, cZ_10⟩ := tx
 refine wp_region_lit ?_
 go_step; go_simp; go_step
 clear cX_b cX_f cX_0 cX_1 cX_2 cX_3 cX_4 cX_5 cX_6 cX_7 cX_8 cX_9 cX_10 cZ_b cZ_f cZ_0 cZ_1 cZ_2 cZ_3 cZ_4 cZ_5 cZ_6 cZ_7 cZ_8 cZ_9 cZ_10
 refine wpList_st11 ?_ 27 (Operand.tmp 2) (Operand.tmp 86) ?_ w.heap.size (.string f0) (.int .i64 v1) (.int .i64 v2) (.int .i64 v4) (.int .i64 k) (.int .i64 wk) (.int .i64 d) (.int .i64 sec) (.int .i64 base) (.int .i64 save) (.string t) ?_ ?_ ?_ Z12 ?_ (fun W9 C hbel => ?_)
 ·
  rfl
 ·
  rfl
 ·
  rfl
 ·
  rfl
 ·
  kernel_rfl
 ·
  simp [Value.oneCell']
 have d9 := hbel _ _ (Nat.le_refl _) B12.out
 clear hbel X12 Z12
 have e0 := C.k0; have e1 := C.k1; have e2 := C.k2; have e3 := C.k3; have e4 := C.k4; have e5 := C.k5; have e6 := C.k6; have e7 := C.k7; have e8 := C.k8; have e9 := C.k9; have e10 := C.k10
 clear C
 go_step
 go_simp
 go_step
 go_step
 simp +zetaDelta only [Exit.then, Exit.inBlock]
 exact bodyPost_ret (v := .agg #[.string f0, .int .i64 v1, .int .i64 v2, .int .i64 v4, .int .i64 k, .int .i64 wk, .int .i64 d, .int .i64 sec, .int .i64 base, .int .i64 save, .string t]) (by simp [results, Tryz.results33, go_sem, e0, e1, e2, e3, e4, e5, e6, e7, e8, e9, e10]) rfl ⟨d9, .inl ⟨by first | rfl | trivial, by rw [E5.out, E7.out]⟩⟩
end Go.Proofs.YtjggjkeopbcmoaaGreatDoor
