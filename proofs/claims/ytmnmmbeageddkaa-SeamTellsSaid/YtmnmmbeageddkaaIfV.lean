/- Infos: the answers that the law asks for. -/
import Derived.Test.YtmnmmbeageddkaaIfU
import Derived.Test.YtmnmmbeageddkaaPairF
import Derived.StillTailTactics
set_option linter.unusedVariables false
set_option linter.unusedSimpArgs false
namespace Go.Proofs.Ytmnmmbeageddkaa
open Go.RowKit Go.Sort Go.Shelf Go.Pairs

theorem sound39 {b : Bool} (v : Value) (l : List If.I) (hs : If.so none l = b) (hl : l.length ≤ 1000000) (W : World) (h : InV W v l) :
    Calls Try.prog 25 #[v] W fun e w' => e = .returned (.bool b) ∧ Below W.heap.size W w' := by
  rw [← hs]; exact seam_sound v l W h hl
theorem keep39 {w W W' : World} {v1 v2 v3 : Value} {l1 l2 l3 : List If.I} {a0 a1 a2 a3 a4 a5 a6 a7 a8 a9 a10 a11 a12 a13 a14 a15 a16 a17 a18 a19 a20 : Addr} {u0 u1 u2 u3 u4 u5 u6 u7 u8 u9 u10 u11 u12 u13 u14 u15 u16 u17 u18 u19 u20 : Value} (k : Below W.heap.size W W')
    (h : Below w.heap.size w W ∧ InV W v1 l1 ∧ InV W v2 l2 ∧ InV W v3 l3 ∧ W.cell? a0 = some u0 ∧ W.cell? a1 = some u1 ∧ W.cell? a2 = some u2 ∧ W.cell? a3 = some u3 ∧ W.cell? a4 = some u4 ∧ W.cell? a5 = some u5 ∧ W.cell? a6 = some u6 ∧ W.cell? a7 = some u7 ∧ W.cell? a8 = some u8 ∧ W.cell? a9 = some u9 ∧ W.cell? a10 = some u10 ∧ W.cell? a11 = some u11 ∧ W.cell? a12 = some u12 ∧ W.cell? a13 = some u13 ∧ W.cell? a14 = some u14 ∧ W.cell? a15 = some u15 ∧ W.cell? a16 = some u16 ∧ W.cell? a17 = some u17 ∧ W.cell? a18 = some u18 ∧ W.cell? a19 = some u19 ∧ W.cell? a20 = some u20) :
    Below w.heap.size w W' ∧ InV W' v1 l1 ∧ InV W' v2 l2 ∧ InV W' v3 l3 ∧ W'.cell? a0 = some u0 ∧ W'.cell? a1 = some u1 ∧ W'.cell? a2 = some u2 ∧ W'.cell? a3 = some u3 ∧ W'.cell? a4 = some u4 ∧ W'.cell? a5 = some u5 ∧ W'.cell? a6 = some u6 ∧ W'.cell? a7 = some u7 ∧ W'.cell? a8 = some u8 ∧ W'.cell? a9 = some u9 ∧ W'.cell? a10 = some u10 ∧ W'.cell? a11 = some u11 ∧ W'.cell? a12 = some u12 ∧ W'.cell? a13 = some u13 ∧ W'.cell? a14 = some u14 ∧ W'.cell? a15 = some u15 ∧ W'.cell? a16 = some u16 ∧ W'.cell? a17 = some u17 ∧ W'.cell? a18 = some u18 ∧ W'.cell? a19 = some u19 ∧ W'.cell? a20 = some u20 := by
  obtain ⟨hb, h1, h2, h3, g0, g1, g2, g3, g4, g5, g6, g7, g8, g9, g10, g11, g12, g13, g14, g15, g16, g17, g18, g19, g20⟩ := h
  exact ⟨below_step hb k, h1.on k, h2.on k, h3.on k, ckI k g0, ckI k g1, ckI k g2, ckI k g3, ckI k g4, ckI k g5, ckI k g6, ckI k g7, ckI k g8, ckI k g9, ckI k g10, ckI k g11, ckI k g12, ckI k g13, ckI k g14, ckI k g15, ckI k g16, ckI k g17, ckI k g18, ckI k g19, ckI k g20⟩
set_option maxRecDepth 100000 in
set_option maxHeartbeats 8000000 in
theorem lives39 (w : World) : Calls Try.prog 22 #[] w fun e w' => e = .returned (.bool true) ∧ Below w.heap.size w w' := by
  go_enter Try.func22, Try.ntmps22
  go_wp2_with fail
  refine wp_named ?_; intro w1 hw1
  have X1 := Lib.hid (show Blk w1 w.heap.size 34 #[.int .i64 0, .int .i64 0, .string BX] by rw [hw1]; exact ((Blk.new w _ _).alloc _).alloc _)
  have Y1 := Lib.hid (show Blk w1 (w.heap.size + 1) 34 #[.int .i64 0, .int .i64 0, .string BY] by rw [hw1]; exact (Blk.newAt _ _ (by rw [alloc_sz])).alloc _)
  have A1 := Lib.hid (show Blk w1 (w.heap.size + 1 + 1) 36 (If.ifc [(0, 5, 0, 0, BX), (5, 9, 0, 0, BY)]).toArray by rw [hw1]; exact Blk.newAt _ _ (by rw [alloc_sz, alloc_sz]))
  have B1 := Lib.hid (show Below w.heap.size w w1 by rw [hw1]; exact (((Below.refl _ _).alloc (Nat.le_refl _) _).alloc (by rw [alloc_sz]; omega) _).alloc (by rw [alloc_sz, alloc_sz]; omega) _)
  clear hw1
  generalize w.heap.size + 1 + 1 = ba at *
  generalize w.heap.size + 1 = bb at *
  obtain ⟨bx, hbx⟩ : ∃ b, b = w.heap.size := ⟨_, rfl⟩
  rw [← hbx] at X1 ⊢
  have HX := Lib.hid hbx
  clear hbx
  go_still_tail 6, (by kernel_rfl)
  rw [show ({heap := w1.heap, tape := w1.tape, drawn := w1.drawn + 1, os := w1.os, output := w1.output} : World) = w1.drew from rfl]
  have X2 := Lib.hid (show Blk w1.drew bx _ _ from X1.out)
  have Y2 := Lib.hid (show Blk w1.drew bb _ _ from Y1.out)
  have A2 := Lib.hid (show Blk w1.drew ba _ _ from A1.out)
  have B2 := Lib.hid (show Below w.heap.size w w1.drew from below_draw' B1.out)
  clear X1 Y1 A1 B1
  generalize w1.drew = w2 at *
  have a5 := A2.out.cell 5; have a6 := A2.out.cell 6; have a7 := A2.out.cell 7; have a8 := A2.out.cell 8; have a9 := A2.out.cell 9
  have y0 := Y2.out.cell 0; have y1 := Y2.out.cell 1; have y2 := Y2.out.cell 2
  have x0 := X2.out.cell 0; have x1 := X2.out.cell 1; have x2 := X2.out.cell 2
  simp only [If.ifc, If.enc, List.flatMap_cons, List.flatMap_nil, List.append_nil, List.cons_append, List.nil_append, List.getElem?_toArray, List.getElem?_cons_succ, List.getElem?_cons_zero] at a5 a6 a7 a8 a9
  simp at y0 y1 y2 x0 x1 x2
  repeat still_step
  refine wpStill_nil ?_
  have z0 := (X2.out.alloc (.cells #[.int .i64 5, .int .i64 9, .int .i64 0, .int .i64 0, .string BY, .int .i64 12, .int .i64 15, .int .i64 0, .int .i64 0, .string BY] 36)).cell 0
  have z1 := (X2.out.alloc (.cells #[.int .i64 5, .int .i64 9, .int .i64 0, .int .i64 0, .string BY, .int .i64 12, .int .i64 15, .int .i64 0, .int .i64 0, .string BY] 36)).cell 1
  have z2 := (X2.out.alloc (.cells #[.int .i64 5, .int .i64 9, .int .i64 0, .int .i64 0, .string BY, .int .i64 12, .int .i64 15, .int .i64 0, .int .i64 0, .string BY] 36)).cell 2
  rw [show (#[Value.int .i64 0, .int .i64 0, .string BX])[0]? = some (.int .i64 0) from rfl] at z0
  rw [show (#[Value.int .i64 0, .int .i64 0, .string BX])[1]? = some (.int .i64 0) from rfl] at z1
  rw [show (#[Value.int .i64 0, .int .i64 0, .string BX])[2]? = some (.string BX) from rfl] at z2
  go_wp2_with fail
  clear z0 z1 z2 a5 a6 a7 a8 a9 y0 y1 y2 x0 x1 x2
  generalize hw4 : World.alloc (World.alloc w2 _) _ = w4
  have X4 := Lib.hid (show Blk w4 bx _ _ by rw [← hw4]; exact (X2.out.alloc _).alloc _)
  have Y4 := Lib.hid (show Blk w4 bb _ _ by rw [← hw4]; exact (Y2.out.alloc _).alloc _)
  have A4 := Lib.hid (show Blk w4 ba _ _ by rw [← hw4]; exact (A2.out.alloc _).alloc _)
  have E4 := Lib.hid (show Blk w4 w2.heap.size 36 (If.ifc [(5, 9, 0, 0, BY), (12, 15, 0, 0, BY)]).toArray by rw [← hw4]; exact (Blk.newAt _ _ rfl).alloc _)
  have C4 := Lib.hid (show Blk w4 (w2.heap.size + 1) 36 (If.ifc [(0, 5, 0, 0, BX), (5, 9, 0, 0, BX)]).toArray by rw [← hw4]; exact Blk.newAt _ _ (by rw [alloc_sz]))
  have B4 := Lib.hid (show Below w.heap.size w w4 by rw [← hw4]; exact (B2.out.alloc B2.out.size _).alloc (by rw [alloc_sz]; have := B2.out.size; omega) _)
  clear hw4 X2 Y2 A2 B2
  generalize w2.heap.size + 1 = bc at *
  generalize w2.heap.size = be at *
  refine (seam_merge _ _ _ _ _ (inv_blk (l := [(0, 5, 0, 0, BX), (5, 9, 0, 0, BY)]) rfl A4.out) (inv_blk (l := [(5, 9, 0, 0, BY), (12, 15, 0, 0, BY)]) rfl E4.out) (by decide) (by decide)).mono ?_
  intro e w5 h5
  obtain ⟨b5, v5, rfl, m5'⟩ := mg_ok (m := [(0, 5, 0, 0, BX), (5, 9, 0, 0, BY), (12, 15, 0, 0, BY)]) (by decide) (by decide) (fun x => by simp [or_assoc]) h5
  obtain ⟨⟨A5, c5⟩, rfl, m5⟩ := m5'.form
  dsimp only [List.length] at m5 m5'
  clear m5'
  have X5 := Lib.hid (X4.out.on b5); have Y5 := Lib.hid (Y4.out.on b5); have A5 := Lib.hid (A4.out.on b5); have E5 := Lib.hid (E4.out.on b5); have C5 := Lib.hid (C4.out.on b5)
  have M5 := Lib.hid m5
  have B5 := Lib.hid (below_step B4.out b5)
  clear h5 b5 m5 X4 Y4 A4 E4 C4 B4
  go_wp2_with fail
  refine (seam_merge _ _ _ _ _ (inv_blk (l := [(0, 5, 0, 0, BX), (5, 9, 0, 0, BY)]) rfl A5.out) (inv_blk (l := [(0, 5, 0, 0, BX), (5, 9, 0, 0, BX)]) rfl C5.out) (by decide) (by decide)).mono ?_
  intro e w6 h6
  obtain ⟨b6, rfl⟩ := mg_form (by decide) h6
  have X6 := Lib.hid (X5.out.on b6); have Y6 := Lib.hid (Y5.out.on b6); have A6 := Lib.hid (A5.out.on b6); have E6 := Lib.hid (E5.out.on b6); have C6 := Lib.hid (C5.out.on b6)
  have M6 := Lib.hid (M5.out.on b6)
  have B6 := Lib.hid (below_step B5.out b6)
  clear h6 b6 X5 Y5 A5 E5 C5 M5 B5
  go_wp2_with fail
  refine (seam_merge _ _ _ _ _ (inv_blk (l := [(0, 5, 0, 0, BX), (5, 9, 0, 0, BY)]) rfl A6.out) (inv_tail C6.out) (by decide) (by decide)).mono ?_
  intro e w7 h7
  obtain ⟨b7, rfl⟩ := mg_state (by decide) (fun h => absurd (h (5, 9, 0, 0, BY) (by simp) (5, 9, 0, 0, BX) (by simp) rfl) (by decide)) h7
  have X7 := Lib.hid (X6.out.on b7); have Y7 := Lib.hid (Y6.out.on b7); have A7 := Lib.hid (A6.out.on b7); have E7 := Lib.hid (E6.out.on b7); have C7 := Lib.hid (C6.out.on b7)
  have M7 := Lib.hid (M6.out.on b7)
  have B7 := Lib.hid (below_step B6.out b7)
  clear h7 b7 X6 Y6 A6 E6 C6 M6 B6
  go_wp2_with fail
  have S1 := Lib.hid (sound39 (b := true) (.slice (some ⟨ba, 0, none⟩) 2 2) If.la (by decide) (by decide))
  have S2 := Lib.hid (sound39 (b := false) (.slice (some ⟨bc, 0, none⟩) 2 2) If.lc (by decide) (by decide))
  have S3 := Lib.hid (sound39 (b := true) (.slice none 0 0) [] rfl (by decide))
  have S4 := Lib.hid (fun v => sound39 (b := false) v [(0, 0, 0, 0, ⟨#[]⟩)] (by decide) (by decide))
  have E1 := Lib.hid (fun (v2 : Value) (W : World) (h1 : InV W (.slice A5 3 c5) If.lm) (h2 : InV W v2 If.lm) => if_same (.slice A5 3 c5) v2 If.lm W h1 h2 (by decide))
  have E2 := Lib.hid (fun (v1 v2 : Value) (W : World) (h1 : InV W v1 [(3, 5, 0, 0, BX), (5, 6, 0, 0, BY)]) (h2 : InV W v2 [(3, 5, 0, 0, BX), (5, 6, 0, 0, BY)]) => if_same v1 v2 [(3, 5, 0, 0, BX), (5, 6, 0, 0, BY)] W h1 h2 (by decide))
  have F1 := Lib.hid (fun (v1 v2 : Value) (W : World) (h1 : SpV W v1 [(0, 9), (12, 15)]) (h2 : SpV W v2 [(0, 9), (12, 15)]) => same_yes v1 v2 [(0, 9), (12, 15)] W h1 h2 (by unfold maxLen; decide))
  have F2 := Lib.hid (fun (v1 v2 : Value) (W : World) (h1 : SpV W v1 [(-1, 0), (9, 12)]) (h2 : SpV W v2 [(-1, 0), (9, 12)]) => same_yes v1 v2 [(-1, 0), (9, 12)] W h1 h2 (by unfold maxLen; decide))
  have CC := Lib.hid (show ((fun W => Below w.heap.size w W ∧ InV W (.slice (some ⟨ba, 0, none⟩) 2 2) If.la ∧ InV W (.slice (some ⟨bc, 0, none⟩) 2 2) If.lc ∧ InV W (.slice A5 3 c5) If.lm ∧ W.cell? ⟨bx, 0, none⟩ = some (.int .i64 0) ∧ W.cell? ⟨bx, 1, none⟩ = some (.int .i64 0) ∧ W.cell? ⟨bx, 2, none⟩ = some (.string BX) ∧ W.cell? ⟨bb, 0, none⟩ = some (.int .i64 0) ∧ W.cell? ⟨bb, 1, none⟩ = some (.int .i64 0) ∧ W.cell? ⟨bb, 2, none⟩ = some (.string BY) ∧ W.cell? ⟨ba, 0, none⟩ = some (.int .i64 0) ∧ W.cell? ⟨ba, 1, none⟩ = some (.int .i64 5) ∧ W.cell? ⟨ba, 2, none⟩ = some (.int .i64 0) ∧ W.cell? ⟨ba, 3, none⟩ = some (.int .i64 0) ∧ W.cell? ⟨ba, 4, none⟩ = some (.string BX) ∧ W.cell? ⟨ba, 5, none⟩ = some (.int .i64 5) ∧ W.cell? ⟨ba, 6, none⟩ = some (.int .i64 9) ∧ W.cell? ⟨ba, 7, none⟩ = some (.int .i64 0) ∧ W.cell? ⟨ba, 8, none⟩ = some (.int .i64 0) ∧ W.cell? ⟨ba, 9, none⟩ = some (.string BY) ∧ W.cell? ⟨be, 5, none⟩ = some (.int .i64 12) ∧ W.cell? ⟨be, 6, none⟩ = some (.int .i64 15) ∧ W.cell? ⟨be, 7, none⟩ = some (.int .i64 0) ∧ W.cell? ⟨be, 8, none⟩ = some (.int .i64 0) ∧ W.cell? ⟨be, 9, none⟩ = some (.string BY))) w7 from ⟨B7.out, inv_blk rfl A7.out, inv_blk rfl C7.out, M7.out, X7.out.cell 0, X7.out.cell 1, X7.out.cell 2, Y7.out.cell 0, Y7.out.cell 1, Y7.out.cell 2, A7.out.cell 0, A7.out.cell 1, A7.out.cell 2, A7.out.cell 3, A7.out.cell 4, A7.out.cell 5, A7.out.cell 6, A7.out.cell 7, A7.out.cell 8, A7.out.cell 9, E7.out.cell 5, E7.out.cell 6, E7.out.cell 7, E7.out.cell 8, E7.out.cell 9⟩)
  clear X7 Y7 A7 E7 C7 M7 B7 HX
  simp only [List.append]
  refine wp_region_pairs (C := fun W => Below w.heap.size w W ∧ InV W (.slice (some ⟨ba, 0, none⟩) 2 2) If.la ∧ InV W (.slice (some ⟨bc, 0, none⟩) 2 2) If.lc ∧ InV W (.slice A5 3 c5) If.lm ∧ W.cell? ⟨bx, 0, none⟩ = some (.int .i64 0) ∧ W.cell? ⟨bx, 1, none⟩ = some (.int .i64 0) ∧ W.cell? ⟨bx, 2, none⟩ = some (.string BX) ∧ W.cell? ⟨bb, 0, none⟩ = some (.int .i64 0) ∧ W.cell? ⟨bb, 1, none⟩ = some (.int .i64 0) ∧ W.cell? ⟨bb, 2, none⟩ = some (.string BY) ∧ W.cell? ⟨ba, 0, none⟩ = some (.int .i64 0) ∧ W.cell? ⟨ba, 1, none⟩ = some (.int .i64 5) ∧ W.cell? ⟨ba, 2, none⟩ = some (.int .i64 0) ∧ W.cell? ⟨ba, 3, none⟩ = some (.int .i64 0) ∧ W.cell? ⟨ba, 4, none⟩ = some (.string BX) ∧ W.cell? ⟨ba, 5, none⟩ = some (.int .i64 5) ∧ W.cell? ⟨ba, 6, none⟩ = some (.int .i64 9) ∧ W.cell? ⟨ba, 7, none⟩ = some (.int .i64 0) ∧ W.cell? ⟨ba, 8, none⟩ = some (.int .i64 0) ∧ W.cell? ⟨ba, 9, none⟩ = some (.string BY) ∧ W.cell? ⟨be, 5, none⟩ = some (.int .i64 12) ∧ W.cell? ⟨be, 6, none⟩ = some (.int .i64 15) ∧ W.cell? ⟨be, 7, none⟩ = some (.int .i64 0) ∧ W.cell? ⟨be, 8, none⟩ = some (.int .i64 0) ∧ W.cell? ⟨be, 9, none⟩ = some (.string BY)) (R := markR [(fun v _ => v = Value.slice (some { block := ba, off := 0 }) 2 2), (fun v _ => v = Value.bool true), (fun v _ => v = Value.bool true), (fun v _ => v = Value.slice (some { block := bc, off := 0 }) 2 2), (fun v _ => v = Value.bool false), (fun v _ => v = Value.bool true), (fun v _ => v = Value.bool true), (fun v _ => v = Value.bool true), (fun v _ => v = Value.bool true), (fun v _ => v = Value.bool true), (fun v _ => v = Value.bool true), (fun v _ => v = Value.agg #[Value.int IntKind.i64 0, Value.int IntKind.i64 0, Value.int IntKind.i64 0, Value.int IntKind.i64 0, Value.string { data := #[] }]), (fun v W => ∃ u, v = Value.slice (some ⟨u, 0, none⟩) 1 1 ∧ InV W v [(0, 0, 0, 0, ⟨#[]⟩)]), (fun v _ => v = Value.bool false), (fun v _ => v = Value.bool true), (fun v _ => v = Value.bool true), (fun v _ => v = Value.bool true), (fun v _ => v = Value.slice A5 3 c5), (fun v _ => v = Value.slice (some { block := ba, off := 0 }) 2 2), (fun v _ => v = Value.pointer (some { block := ba, off := 0 })), (fun v _ => v = Value.agg #[Value.int IntKind.i64 0, Value.int IntKind.i64 5, Value.int IntKind.i64 0, Value.int IntKind.i64 0, Value.string BX]), (fun v _ => v = Value.slice (some { block := ba, off := 0 }) 2 2), (fun v _ => v = Value.pointer (some { block := ba, off := 5 })), (fun v _ => v = Value.agg #[Value.int IntKind.i64 5, Value.int IntKind.i64 9, Value.int IntKind.i64 0, Value.int IntKind.i64 0, Value.string BY]), (fun v _ => v = Value.slice (some { block := be, off := 0 }) 2 2), (fun v _ => v = Value.pointer (some { block := be, off := 5 })), (fun v _ => v = Value.agg #[Value.int IntKind.i64 12, Value.int IntKind.i64 15, Value.int IntKind.i64 0, Value.int IntKind.i64 0, Value.string BY]), (fun v W => ∃ u, v = Value.slice (some ⟨u, 0, none⟩) 3 3 ∧ InV W v If.lm), (fun v _ => v = Value.bool true), (fun v _ => v = Value.bool true), (fun v _ => v = Value.bool true), (fun v _ => v = Value.int IntKind.i64 0), (fun v _ => v = Value.bool true), (fun v _ => v = Value.bool true), (fun v _ => v = Value.bool true), (fun v _ => v = Value.int IntKind.i64 4), (fun v _ => v = Value.bool true), (fun v _ => v = Value.bool true), (fun v _ => v = Value.bool true), (fun v _ => v = Value.int IntKind.i64 21), (fun v _ => v = Value.bool true), (fun v _ => v = Value.bool true), (fun v _ => v = Value.bool true), (fun v _ => v = Value.slice A5 3 c5), (fun v W => ∃ u : Option Addr × Nat, v = Value.slice u.1 2 u.2 ∧ SpV W (Value.slice u.1 2 u.2) [(0, 9), (12, 15)]), (fun v _ => v = Value.agg #[Value.int IntKind.i64 0, Value.int IntKind.i64 9]), (fun v _ => v = Value.agg #[Value.int IntKind.i64 12, Value.int IntKind.i64 15]), (fun v W => ∃ u, v = Value.slice (some ⟨u, 0, none⟩) 2 2 ∧ SpV W v [(0, 9), (12, 15)]), (fun v _ => v = Value.bool true), (fun v _ => v = Value.bool true), (fun v _ => v = Value.bool true), (fun v _ => v = Value.slice A5 3 c5), (fun v _ => v = Value.agg #[Value.int IntKind.i64 (-1), Value.int IntKind.i64 13]), (fun v W => ∃ u : Option Addr × Nat, v = Value.slice u.1 2 u.2 ∧ SpV W (Value.slice u.1 2 u.2) [(-1, 0), (9, 12)]), (fun v _ => v = Value.agg #[Value.int IntKind.i64 (-1), Value.int IntKind.i64 0]), (fun v _ => v = Value.agg #[Value.int IntKind.i64 9, Value.int IntKind.i64 12]), (fun v W => ∃ u, v = Value.slice (some ⟨u, 0, none⟩) 2 2 ∧ SpV W v [(-1, 0), (9, 12)]), (fun v _ => v = Value.bool true), (fun v _ => v = Value.bool true), (fun v _ => v = Value.bool true), (fun v _ => v = Value.slice A5 3 c5), (fun v _ => v = Value.agg #[Value.int IntKind.i64 3, Value.int IntKind.i64 6]), (fun v W => ∃ u : Option Addr × Nat, v = Value.slice u.1 2 u.2 ∧ InV W (Value.slice u.1 2 u.2) [(3, 5, 0, 0, BX), (5, 6, 0, 0, BY)]), (fun v _ => v = Value.agg #[Value.int IntKind.i64 3, Value.int IntKind.i64 5]), (fun v _ => v = Value.agg #[Value.int IntKind.i64 0, Value.int IntKind.i64 0, Value.string BX]), (fun v _ => v = Value.agg #[Value.int IntKind.i64 3, Value.int IntKind.i64 5, Value.int IntKind.i64 0, Value.int IntKind.i64 0, Value.string BX]), (fun v _ => v = Value.agg #[Value.int IntKind.i64 5, Value.int IntKind.i64 6]), (fun v _ => v = Value.agg #[Value.int IntKind.i64 0, Value.int IntKind.i64 0, Value.string BY]), (fun v _ => v = Value.agg #[Value.int IntKind.i64 5, Value.int IntKind.i64 6, Value.int IntKind.i64 0, Value.int IntKind.i64 0, Value.string BY]), (fun v W => ∃ u, v = Value.slice (some ⟨u, 0, none⟩) 2 2 ∧ InV W v [(3, 5, 0, 0, BX), (5, 6, 0, 0, BY)]), (fun v _ => v = Value.bool true), (fun v _ => v = Value.bool true), (fun v _ => v = Value.bool true), (fun v _ => v = Value.slice A5 3 c5), (fun v _ => v = Value.agg #[Value.int IntKind.i64 0, Value.int IntKind.i64 0]), (fun v W => ∃ u : Option Addr × Nat, v = Value.slice u.1 0 u.2 ∧ True), (fun v _ => v = Value.int IntKind.i64 0), (fun v _ => v = Value.bool true), (fun v _ => v = Value.bool true), (fun v _ => v = Value.bool true)]) (G := fun W W' => Below W.heap.size W W') (by rfl) ?hbeg ⟨by kernel_rfl, by kernel_rfl, by kernel_rfl, ?hkeep, ?hstab, Obs.all ?hobs, ?hlast⟩
  case hbeg =>
    try dsimp only
    exact keep39 ((Below.refl _ _).drew) CC.out
  case hkeep =>
    intro w' w'' hC hG
    try dsimp only at hC hG ⊢
    exact keep39 hG hC
  case hstab =>
    refine StableL.all ?_
    repeat (first | exact trivial | refine ⟨(by first | exact (fun _ _ _ _ h => h) | (exact fun v W W' hG h => by obtain ⟨u, hv, hs⟩ := h; exact ⟨u, hv, by first | exact hs.on hG | exact trivial⟩)), ?_⟩)
  case hobs =>
    refine Obs.cons (k' := 1) rfl ?_ ?_
    · intro fa W hW hSame hRR KK hKK
      try dsimp only at hW
      have fb3 := hSame.base 3 (by kernel_rfl)
      simp only [List.getElem?_toArray, List.getElem?_cons_succ, List.getElem?_cons_zero] at fb3
      replace hKK : ∀ v w', Go.RowKit.Below W.heap.size W w' → v = Value.slice (some { block := ba, off := 0 }) 2 2 → KK (Act.put fa _ v) w' := fun v w' h1 h2 => hKK v w' h1 h2
      clear hSame hRR
      rw [if_pos (wanted_plain rfl)]
      go_simp
      refine hKK _ _ ?_ ?_
      · first | exact Below.refl _ _ | exact (Below.refl _ _).alloc (Nat.le_refl _) _ | exact below_draw _ _ | assumption
      · exact rfl
    refine Obs.cons (k' := 2) rfl ?_ ?_
    · intro fa W hW hSame hRR KK hKK
      try dsimp only at hW
      obtain ⟨fv0, ft0, fm0⟩ := hRR 0 _ 54 rfl rfl (by kernel_rfl)
      replace fm0 : fv0 = Value.slice (some { block := ba, off := 0 }) 2 2 := fm0
      subst fm0
      replace hKK : ∀ v w', Go.RowKit.Below W.heap.size W w' → v = Value.bool true → KK (Act.put fa _ v) w' := fun v w' h1 h2 => hKK v w' h1 h2
      clear hSame hRR
      rw [if_pos (wanted_plain rfl)]
      go_simp
      first
        | (go_at_call 25; first
            | ((with_reducible refine (S1.out _ hW.2.1).mono ?_); rintro e w' ⟨rfl, hb⟩)
            | ((with_reducible refine (S2.out _ hW.2.2.1).mono ?_); rintro e w' ⟨rfl, hb⟩)
            | ((with_reducible refine (S3.out _ (InV.nil _)).mono ?_); rintro e w' ⟨rfl, hb⟩)
            | ((with_reducible refine (S4.out _ _ fm12).mono ?_); rintro e w' ⟨rfl, hb⟩))
        | (go_at_call 20; first
            | ((with_reducible refine (E1.out _ _ hW.2.2.2.1 fm27).mono ?_); rintro e w' ⟨rfl, n, rfl⟩)
            | ((with_reducible refine (E2.out _ _ _ fm62 fm69).mono ?_); rintro e w' ⟨rfl, n, rfl⟩))
        | (go_at_call 27; first
            | ((with_reducible refine (F1.out _ _ _ fm44 fm47).mono ?_); rintro e w' ⟨rfl, jj, rfl⟩)
            | ((with_reducible refine (F2.out _ _ _ fm53 fm56).mono ?_); rintro e w' ⟨rfl, jj, rfl⟩))
        | (go_at_call 28; refine (patches39 _ _ hW.2.2.2.1).mono ?_; rintro e w' ⟨u, rfl, hv, hb⟩)
        | (go_at_call 30; refine (missing39 _ _ hW.2.2.2.1).mono ?_; rintro e w' ⟨u, rfl, hv, hb⟩)
        | (go_at_call 32; first
            | ((with_reducible refine (cut39 _ _ hW.2.2.2.1).mono ?_); rintro e w' ⟨u, rfl, hv, hb⟩)
            | ((with_reducible refine (cut39n _ _ hW.2.2.2.1).mono ?_); rintro e w' ⟨u, rfl, hb⟩))
      try dsimp only
      refine hKK _ _ ?_ ?_
      · first | exact Below.refl _ _ | exact (Below.refl _ _).alloc (Nat.le_refl _) _ | exact below_draw _ _ | assumption
      · exact rfl
    refine Obs.cons (k' := 3) rfl ?_ ?_
    · intro fa W hW hSame hRR KK hKK
      try dsimp only at hW
      obtain ⟨fv1, ft1, fm1⟩ := hRR 1 _ 55 rfl rfl (by kernel_rfl)
      replace fm1 : fv1 = Value.bool true := fm1
      subst fm1
      replace hKK : ∀ v w', Go.RowKit.Below W.heap.size W w' → v = Value.bool true → KK (Act.put fa _ v) w' := fun v w' h1 h2 => hKK v w' h1 h2
      clear hSame hRR
      rw [if_pos (wanted_plain rfl)]
      go_simp
      refine hKK _ _ ?_ ?_
      · first | exact Below.refl _ _ | exact (Below.refl _ _).alloc (Nat.le_refl _) _ | exact below_draw _ _ | assumption
      · exact rfl
    refine Obs.cons (k' := 4) rfl ?_ ?_
    · intro fa W hW hSame hRR KK hKK
      try dsimp only at hW
      obtain ⟨fv2, ft2, fm2⟩ := hRR 2 _ 56 rfl rfl (by kernel_rfl)
      replace fm2 : fv2 = Value.bool true := fm2
      subst fm2
      have fb5 := hSame.base 5 (by kernel_rfl)
      simp only [List.getElem?_toArray, List.getElem?_cons_succ, List.getElem?_cons_zero] at fb5
      replace hKK : ∀ v w', Go.RowKit.Below W.heap.size W w' → v = Value.slice (some { block := bc, off := 0 }) 2 2 → KK (Act.put fa _ v) w' := fun v w' h1 h2 => hKK v w' h1 h2
      clear hSame hRR
      rw [wanted_guard rfl rfl rfl ft2]
      first | rw [if_pos (by rfl)] | rw [if_neg (by decide)]
      go_simp
      refine hKK _ _ ?_ ?_
      · first | exact Below.refl _ _ | exact (Below.refl _ _).alloc (Nat.le_refl _) _ | exact below_draw _ _ | assumption
      · exact rfl
    refine Obs.cons (k' := 5) rfl ?_ ?_
    · intro fa W hW hSame hRR KK hKK
      try dsimp only at hW
      obtain ⟨fv3, ft3, fm3⟩ := hRR 3 _ 57 rfl rfl (by kernel_rfl)
      replace fm3 : fv3 = Value.slice (some { block := bc, off := 0 }) 2 2 := fm3
      subst fm3
      obtain ⟨fv2, ft2, fm2⟩ := hRR 2 _ 56 rfl rfl (by kernel_rfl)
      replace fm2 : fv2 = Value.bool true := fm2
      subst fm2
      replace hKK : ∀ v w', Go.RowKit.Below W.heap.size W w' → v = Value.bool false → KK (Act.put fa _ v) w' := fun v w' h1 h2 => hKK v w' h1 h2
      clear hSame hRR
      rw [wanted_guard rfl rfl rfl ft2]
      first | rw [if_pos (by rfl)] | rw [if_neg (by decide)]
      go_simp
      first
        | (go_at_call 25; first
            | ((with_reducible refine (S1.out _ hW.2.1).mono ?_); rintro e w' ⟨rfl, hb⟩)
            | ((with_reducible refine (S2.out _ hW.2.2.1).mono ?_); rintro e w' ⟨rfl, hb⟩)
            | ((with_reducible refine (S3.out _ (InV.nil _)).mono ?_); rintro e w' ⟨rfl, hb⟩)
            | ((with_reducible refine (S4.out _ _ fm12).mono ?_); rintro e w' ⟨rfl, hb⟩))
        | (go_at_call 20; first
            | ((with_reducible refine (E1.out _ _ hW.2.2.2.1 fm27).mono ?_); rintro e w' ⟨rfl, n, rfl⟩)
            | ((with_reducible refine (E2.out _ _ _ fm62 fm69).mono ?_); rintro e w' ⟨rfl, n, rfl⟩))
        | (go_at_call 27; first
            | ((with_reducible refine (F1.out _ _ _ fm44 fm47).mono ?_); rintro e w' ⟨rfl, jj, rfl⟩)
            | ((with_reducible refine (F2.out _ _ _ fm53 fm56).mono ?_); rintro e w' ⟨rfl, jj, rfl⟩))
        | (go_at_call 28; refine (patches39 _ _ hW.2.2.2.1).mono ?_; rintro e w' ⟨u, rfl, hv, hb⟩)
        | (go_at_call 30; refine (missing39 _ _ hW.2.2.2.1).mono ?_; rintro e w' ⟨u, rfl, hv, hb⟩)
        | (go_at_call 32; first
            | ((with_reducible refine (cut39 _ _ hW.2.2.2.1).mono ?_); rintro e w' ⟨u, rfl, hv, hb⟩)
            | ((with_reducible refine (cut39n _ _ hW.2.2.2.1).mono ?_); rintro e w' ⟨u, rfl, hb⟩))
      try dsimp only
      refine hKK _ _ ?_ ?_
      · first | exact Below.refl _ _ | exact (Below.refl _ _).alloc (Nat.le_refl _) _ | exact below_draw _ _ | assumption
      · exact rfl
    refine Obs.cons (k' := 6) rfl ?_ ?_
    · intro fa W hW hSame hRR KK hKK
      try dsimp only at hW
      obtain ⟨fv4, ft4, fm4⟩ := hRR 4 _ 58 rfl rfl (by kernel_rfl)
      replace fm4 : fv4 = Value.bool false := fm4
      subst fm4
      obtain ⟨fv2, ft2, fm2⟩ := hRR 2 _ 56 rfl rfl (by kernel_rfl)
      replace fm2 : fv2 = Value.bool true := fm2
      subst fm2
      replace hKK : ∀ v w', Go.RowKit.Below W.heap.size W w' → v = Value.bool true → KK (Act.put fa _ v) w' := fun v w' h1 h2 => hKK v w' h1 h2
      clear hSame hRR
      rw [wanted_guard rfl rfl rfl ft2]
      first | rw [if_pos (by rfl)] | rw [if_neg (by decide)]
      go_simp
      refine hKK _ _ ?_ ?_
      · first | exact Below.refl _ _ | exact (Below.refl _ _).alloc (Nat.le_refl _) _ | exact below_draw _ _ | assumption
      · exact rfl
    refine Obs.cons (k' := 7) rfl ?_ ?_
    · intro fa W hW hSame hRR KK hKK
      try dsimp only at hW
      obtain ⟨fv2, ft2, fm2⟩ := hRR 2 _ 56 rfl rfl (by kernel_rfl)
      replace fm2 : fv2 = Value.bool true := fm2
      subst fm2
      obtain ⟨fv5, ft5, fm5⟩ := hRR 5 _ 59 rfl rfl (by kernel_rfl)
      replace fm5 : fv5 = Value.bool true := fm5
      subst fm5
      replace hKK : ∀ v w', Go.RowKit.Below W.heap.size W w' → v = Value.bool true → KK (Act.put fa _ v) w' := fun v w' h1 h2 => hKK v w' h1 h2
      clear hSame hRR
      rw [if_pos (wanted_plain rfl)]
      go_simp
      refine hKK _ _ ?_ ?_
      · first | exact Below.refl _ _ | exact (Below.refl _ _).alloc (Nat.le_refl _) _ | exact below_draw _ _ | assumption
      · exact rfl
    refine Obs.cons (k' := 8) rfl ?_ ?_
    · intro fa W hW hSame hRR KK hKK
      try dsimp only at hW
      obtain ⟨fv6, ft6, fm6⟩ := hRR 6 _ 60 rfl rfl (by kernel_rfl)
      replace fm6 : fv6 = Value.bool true := fm6
      subst fm6
      replace hKK : ∀ v w', Go.RowKit.Below W.heap.size W w' → v = Value.bool true → KK (Act.put fa _ v) w' := fun v w' h1 h2 => hKK v w' h1 h2
      clear hSame hRR
      rw [if_pos (wanted_plain rfl)]
      go_simp
      refine hKK _ _ ?_ ?_
      · first | exact Below.refl _ _ | exact (Below.refl _ _).alloc (Nat.le_refl _) _ | exact below_draw _ _ | assumption
      · exact rfl
    refine Obs.cons (k' := 9) rfl ?_ ?_
    · intro fa W hW hSame hRR KK hKK
      try dsimp only at hW
      obtain ⟨fv7, ft7, fm7⟩ := hRR 7 _ 61 rfl rfl (by kernel_rfl)
      replace fm7 : fv7 = Value.bool true := fm7
      subst fm7
      replace hKK : ∀ v w', Go.RowKit.Below W.heap.size W w' → v = Value.bool true → KK (Act.put fa _ v) w' := fun v w' h1 h2 => hKK v w' h1 h2
      clear hSame hRR
      rw [wanted_guard rfl rfl rfl ft7]
      first | rw [if_pos (by rfl)] | rw [if_neg (by decide)]
      go_simp
      first
        | (go_at_call 25; first
            | ((with_reducible refine (S1.out _ hW.2.1).mono ?_); rintro e w' ⟨rfl, hb⟩)
            | ((with_reducible refine (S2.out _ hW.2.2.1).mono ?_); rintro e w' ⟨rfl, hb⟩)
            | ((with_reducible refine (S3.out _ (InV.nil _)).mono ?_); rintro e w' ⟨rfl, hb⟩)
            | ((with_reducible refine (S4.out _ _ fm12).mono ?_); rintro e w' ⟨rfl, hb⟩))
        | (go_at_call 20; first
            | ((with_reducible refine (E1.out _ _ hW.2.2.2.1 fm27).mono ?_); rintro e w' ⟨rfl, n, rfl⟩)
            | ((with_reducible refine (E2.out _ _ _ fm62 fm69).mono ?_); rintro e w' ⟨rfl, n, rfl⟩))
        | (go_at_call 27; first
            | ((with_reducible refine (F1.out _ _ _ fm44 fm47).mono ?_); rintro e w' ⟨rfl, jj, rfl⟩)
            | ((with_reducible refine (F2.out _ _ _ fm53 fm56).mono ?_); rintro e w' ⟨rfl, jj, rfl⟩))
        | (go_at_call 28; refine (patches39 _ _ hW.2.2.2.1).mono ?_; rintro e w' ⟨u, rfl, hv, hb⟩)
        | (go_at_call 30; refine (missing39 _ _ hW.2.2.2.1).mono ?_; rintro e w' ⟨u, rfl, hv, hb⟩)
        | (go_at_call 32; first
            | ((with_reducible refine (cut39 _ _ hW.2.2.2.1).mono ?_); rintro e w' ⟨u, rfl, hv, hb⟩)
            | ((with_reducible refine (cut39n _ _ hW.2.2.2.1).mono ?_); rintro e w' ⟨u, rfl, hb⟩))
      try dsimp only
      refine hKK _ _ ?_ ?_
      · first | exact Below.refl _ _ | exact (Below.refl _ _).alloc (Nat.le_refl _) _ | exact below_draw _ _ | assumption
      · exact rfl
    refine Obs.cons (k' := 10) rfl ?_ ?_
    · intro fa W hW hSame hRR KK hKK
      try dsimp only at hW
      obtain ⟨fv7, ft7, fm7⟩ := hRR 7 _ 61 rfl rfl (by kernel_rfl)
      replace fm7 : fv7 = Value.bool true := fm7
      subst fm7
      obtain ⟨fv8, ft8, fm8⟩ := hRR 8 _ 62 rfl rfl (by kernel_rfl)
      replace fm8 : fv8 = Value.bool true := fm8
      subst fm8
      replace hKK : ∀ v w', Go.RowKit.Below W.heap.size W w' → v = Value.bool true → KK (Act.put fa _ v) w' := fun v w' h1 h2 => hKK v w' h1 h2
      clear hSame hRR
      rw [if_pos (wanted_plain rfl)]
      go_simp
      refine hKK _ _ ?_ ?_
      · first | exact Below.refl _ _ | exact (Below.refl _ _).alloc (Nat.le_refl _) _ | exact below_draw _ _ | assumption
      · exact rfl
    refine Obs.cons (k' := 11) rfl ?_ ?_
    · intro fa W hW hSame hRR KK hKK
      try dsimp only at hW
      obtain ⟨fv9, ft9, fm9⟩ := hRR 9 _ 63 rfl rfl (by kernel_rfl)
      replace fm9 : fv9 = Value.bool true := fm9
      subst fm9
      replace hKK : ∀ v w', Go.RowKit.Below W.heap.size W w' → v = Value.bool true → KK (Act.put fa _ v) w' := fun v w' h1 h2 => hKK v w' h1 h2
      clear hSame hRR
      rw [if_pos (wanted_plain rfl)]
      go_simp
      refine hKK _ _ ?_ ?_
      · first | exact Below.refl _ _ | exact (Below.refl _ _).alloc (Nat.le_refl _) _ | exact below_draw _ _ | assumption
      · exact rfl
    refine Obs.cons (k' := 12) rfl ?_ ?_
    · intro fa W hW hSame hRR KK hKK
      try dsimp only at hW
      obtain ⟨fv10, ft10, fm10⟩ := hRR 10 _ 64 rfl rfl (by kernel_rfl)
      replace fm10 : fv10 = Value.bool true := fm10
      subst fm10
      replace hKK : ∀ v w', Go.RowKit.Below W.heap.size W w' → v = Value.agg #[Value.int IntKind.i64 0, Value.int IntKind.i64 0, Value.int IntKind.i64 0, Value.int IntKind.i64 0, Value.string { data := #[] }] → KK (Act.put fa _ v) w' := fun v w' h1 h2 => hKK v w' h1 h2
      clear hSame hRR
      rw [wanted_guard rfl rfl rfl ft10]
      first | rw [if_pos (by rfl)] | rw [if_neg (by decide)]
      go_simp
      refine hKK _ _ ?_ ?_
      · first | exact Below.refl _ _ | exact (Below.refl _ _).alloc (Nat.le_refl _) _ | exact below_draw _ _ | assumption
      · exact rfl
    refine Obs.cons (k' := 13) rfl ?_ ?_
    · intro fa W hW hSame hRR KK hKK
      try dsimp only at hW
      obtain ⟨fv11, ft11, fm11⟩ := hRR 11 _ 65 rfl rfl (by kernel_rfl)
      replace fm11 : fv11 = Value.agg #[Value.int IntKind.i64 0, Value.int IntKind.i64 0, Value.int IntKind.i64 0, Value.int IntKind.i64 0, Value.string { data := #[] }] := fm11
      subst fm11
      obtain ⟨fv10, ft10, fm10⟩ := hRR 10 _ 64 rfl rfl (by kernel_rfl)
      replace fm10 : fv10 = Value.bool true := fm10
      subst fm10
      replace hKK : ∀ v w', Go.RowKit.Below W.heap.size W w' → (fun v W => ∃ u, v = Value.slice (some ⟨u, 0, none⟩) 1 1 ∧ InV W v [(0, 0, 0, 0, ⟨#[]⟩)]) v w' → KK (Act.put fa _ v) w' := fun v w' h1 h2 => hKK v w' h1 h2
      clear hSame hRR
      rw [wanted_guard rfl rfl rfl ft10]
      first | rw [if_pos (by rfl)] | rw [if_neg (by decide)]
      go_simp
      refine hKK _ _ ?_ ?_
      · first | exact Below.refl _ _ | exact (Below.refl _ _).alloc (Nat.le_refl _) _ | exact below_draw _ _ | assumption
      · try dsimp only
        first | exact trivial | exact rfl | (first | exact ⟨_, rfl, inv_new [(0, 0, 0, 0, ⟨#[]⟩)] _ rfl⟩ | exact ⟨_, rfl, inv_new If.lm _ rfl⟩ | exact ⟨_, rfl, inv_new [(3, 5, 0, 0, BX), (5, 6, 0, 0, BY)] _ rfl⟩ | exact ⟨_, rfl, spv_new [(0, 9), (12, 15)] _ rfl⟩ | exact ⟨_, rfl, spv_new [(-1, 0), (9, 12)] _ rfl⟩ | exact ⟨u, rfl, hv⟩ | exact ⟨u, rfl, trivial⟩)
    refine Obs.cons (k' := 14) rfl ?_ ?_
    · intro fa W hW hSame hRR KK hKK
      try dsimp only at hW
      obtain ⟨fv12, ft12, fm12⟩ := hRR 12 _ 66 rfl rfl (by kernel_rfl)
      replace fm12 : (fun v W => ∃ u, v = Value.slice (some ⟨u, 0, none⟩) 1 1 ∧ InV W v [(0, 0, 0, 0, ⟨#[]⟩)]) fv12 W := fm12
      try dsimp only at fm12
      first | subst fm12 | obtain ⟨_, rfl, fm12⟩ := fm12
      obtain ⟨fv10, ft10, fm10⟩ := hRR 10 _ 64 rfl rfl (by kernel_rfl)
      replace fm10 : fv10 = Value.bool true := fm10
      subst fm10
      replace hKK : ∀ v w', Go.RowKit.Below W.heap.size W w' → v = Value.bool false → KK (Act.put fa _ v) w' := fun v w' h1 h2 => hKK v w' h1 h2
      clear hSame hRR
      rw [wanted_guard rfl rfl rfl ft10]
      first | rw [if_pos (by rfl)] | rw [if_neg (by decide)]
      go_simp
      first
        | (go_at_call 25; first
            | ((with_reducible refine (S1.out _ hW.2.1).mono ?_); rintro e w' ⟨rfl, hb⟩)
            | ((with_reducible refine (S2.out _ hW.2.2.1).mono ?_); rintro e w' ⟨rfl, hb⟩)
            | ((with_reducible refine (S3.out _ (InV.nil _)).mono ?_); rintro e w' ⟨rfl, hb⟩)
            | ((with_reducible refine (S4.out _ _ fm12).mono ?_); rintro e w' ⟨rfl, hb⟩))
        | (go_at_call 20; first
            | ((with_reducible refine (E1.out _ _ hW.2.2.2.1 fm27).mono ?_); rintro e w' ⟨rfl, n, rfl⟩)
            | ((with_reducible refine (E2.out _ _ _ fm62 fm69).mono ?_); rintro e w' ⟨rfl, n, rfl⟩))
        | (go_at_call 27; first
            | ((with_reducible refine (F1.out _ _ _ fm44 fm47).mono ?_); rintro e w' ⟨rfl, jj, rfl⟩)
            | ((with_reducible refine (F2.out _ _ _ fm53 fm56).mono ?_); rintro e w' ⟨rfl, jj, rfl⟩))
        | (go_at_call 28; refine (patches39 _ _ hW.2.2.2.1).mono ?_; rintro e w' ⟨u, rfl, hv, hb⟩)
        | (go_at_call 30; refine (missing39 _ _ hW.2.2.2.1).mono ?_; rintro e w' ⟨u, rfl, hv, hb⟩)
        | (go_at_call 32; first
            | ((with_reducible refine (cut39 _ _ hW.2.2.2.1).mono ?_); rintro e w' ⟨u, rfl, hv, hb⟩)
            | ((with_reducible refine (cut39n _ _ hW.2.2.2.1).mono ?_); rintro e w' ⟨u, rfl, hb⟩))
      try dsimp only
      refine hKK _ _ ?_ ?_
      · first | exact Below.refl _ _ | exact (Below.refl _ _).alloc (Nat.le_refl _) _ | exact below_draw _ _ | assumption
      · exact rfl
    refine Obs.cons (k' := 15) rfl ?_ ?_
    · intro fa W hW hSame hRR KK hKK
      try dsimp only at hW
      obtain ⟨fv13, ft13, fm13⟩ := hRR 13 _ 67 rfl rfl (by kernel_rfl)
      replace fm13 : fv13 = Value.bool false := fm13
      subst fm13
      obtain ⟨fv10, ft10, fm10⟩ := hRR 10 _ 64 rfl rfl (by kernel_rfl)
      replace fm10 : fv10 = Value.bool true := fm10
      subst fm10
      replace hKK : ∀ v w', Go.RowKit.Below W.heap.size W w' → v = Value.bool true → KK (Act.put fa _ v) w' := fun v w' h1 h2 => hKK v w' h1 h2
      clear hSame hRR
      rw [wanted_guard rfl rfl rfl ft10]
      first | rw [if_pos (by rfl)] | rw [if_neg (by decide)]
      go_simp
      refine hKK _ _ ?_ ?_
      · first | exact Below.refl _ _ | exact (Below.refl _ _).alloc (Nat.le_refl _) _ | exact below_draw _ _ | assumption
      · exact rfl
    refine Obs.cons (k' := 16) rfl ?_ ?_
    · intro fa W hW hSame hRR KK hKK
      try dsimp only at hW
      obtain ⟨fv10, ft10, fm10⟩ := hRR 10 _ 64 rfl rfl (by kernel_rfl)
      replace fm10 : fv10 = Value.bool true := fm10
      subst fm10
      obtain ⟨fv14, ft14, fm14⟩ := hRR 14 _ 68 rfl rfl (by kernel_rfl)
      replace fm14 : fv14 = Value.bool true := fm14
      subst fm14
      replace hKK : ∀ v w', Go.RowKit.Below W.heap.size W w' → v = Value.bool true → KK (Act.put fa _ v) w' := fun v w' h1 h2 => hKK v w' h1 h2
      clear hSame hRR
      rw [if_pos (wanted_plain rfl)]
      go_simp
      refine hKK _ _ ?_ ?_
      · first | exact Below.refl _ _ | exact (Below.refl _ _).alloc (Nat.le_refl _) _ | exact below_draw _ _ | assumption
      · exact rfl
    refine Obs.cons (k' := 17) rfl ?_ ?_
    · intro fa W hW hSame hRR KK hKK
      try dsimp only at hW
      obtain ⟨fv15, ft15, fm15⟩ := hRR 15 _ 69 rfl rfl (by kernel_rfl)
      replace fm15 : fv15 = Value.bool true := fm15
      subst fm15
      replace hKK : ∀ v w', Go.RowKit.Below W.heap.size W w' → v = Value.bool true → KK (Act.put fa _ v) w' := fun v w' h1 h2 => hKK v w' h1 h2
      clear hSame hRR
      rw [if_pos (wanted_plain rfl)]
      go_simp
      refine hKK _ _ ?_ ?_
      · first | exact Below.refl _ _ | exact (Below.refl _ _).alloc (Nat.le_refl _) _ | exact below_draw _ _ | assumption
      · exact rfl
    refine Obs.cons (k' := 18) rfl ?_ ?_
    · intro fa W hW hSame hRR KK hKK
      try dsimp only at hW
      obtain ⟨fv16, ft16, fm16⟩ := hRR 16 _ 70 rfl rfl (by kernel_rfl)
      replace fm16 : fv16 = Value.bool true := fm16
      subst fm16
      have fb6 := hSame.base 6 (by kernel_rfl)
      simp only [List.getElem?_toArray, List.getElem?_cons_succ, List.getElem?_cons_zero] at fb6
      replace hKK : ∀ v w', Go.RowKit.Below W.heap.size W w' → v = Value.slice A5 3 c5 → KK (Act.put fa _ v) w' := fun v w' h1 h2 => hKK v w' h1 h2
      clear hSame hRR
      rw [wanted_guard rfl rfl rfl ft16]
      first | rw [if_pos (by rfl)] | rw [if_neg (by decide)]
      go_simp
      refine hKK _ _ ?_ ?_
      · first | exact Below.refl _ _ | exact (Below.refl _ _).alloc (Nat.le_refl _) _ | exact below_draw _ _ | assumption
      · exact rfl
    refine Obs.cons (k' := 19) rfl ?_ ?_
    · intro fa W hW hSame hRR KK hKK
      try dsimp only at hW
      obtain ⟨fv16, ft16, fm16⟩ := hRR 16 _ 70 rfl rfl (by kernel_rfl)
      replace fm16 : fv16 = Value.bool true := fm16
      subst fm16
      have fb3 := hSame.base 3 (by kernel_rfl)
      simp only [List.getElem?_toArray, List.getElem?_cons_succ, List.getElem?_cons_zero] at fb3
      replace hKK : ∀ v w', Go.RowKit.Below W.heap.size W w' → v = Value.slice (some { block := ba, off := 0 }) 2 2 → KK (Act.put fa _ v) w' := fun v w' h1 h2 => hKK v w' h1 h2
      clear hSame hRR
      rw [wanted_guard rfl rfl rfl ft16]
      first | rw [if_pos (by rfl)] | rw [if_neg (by decide)]
      go_simp
      refine hKK _ _ ?_ ?_
      · first | exact Below.refl _ _ | exact (Below.refl _ _).alloc (Nat.le_refl _) _ | exact below_draw _ _ | assumption
      · exact rfl
    refine Obs.cons (k' := 20) rfl ?_ ?_
    · intro fa W hW hSame hRR KK hKK
      try dsimp only at hW
      obtain ⟨fv18, ft18, fm18⟩ := hRR 18 _ 72 rfl rfl (by kernel_rfl)
      replace fm18 : fv18 = Value.slice (some { block := ba, off := 0 }) 2 2 := fm18
      subst fm18
      obtain ⟨fv16, ft16, fm16⟩ := hRR 16 _ 70 rfl rfl (by kernel_rfl)
      replace fm16 : fv16 = Value.bool true := fm16
      subst fm16
      replace hKK : ∀ v w', Go.RowKit.Below W.heap.size W w' → v = Value.pointer (some { block := ba, off := 0 }) → KK (Act.put fa _ v) w' := fun v w' h1 h2 => hKK v w' h1 h2
      clear hSame hRR
      rw [wanted_guard rfl rfl rfl ft16]
      first | rw [if_pos (by rfl)] | rw [if_neg (by decide)]
      go_simp
      refine hKK _ _ ?_ ?_
      · first | exact Below.refl _ _ | exact (Below.refl _ _).alloc (Nat.le_refl _) _ | exact below_draw _ _ | assumption
      · exact rfl
    refine Obs.cons (k' := 21) rfl ?_ ?_
    · intro fa W hW hSame hRR KK hKK
      try dsimp only at hW
      obtain ⟨fv19, ft19, fm19⟩ := hRR 19 _ 73 rfl rfl (by kernel_rfl)
      replace fm19 : fv19 = Value.pointer (some { block := ba, off := 0 }) := fm19
      subst fm19
      obtain ⟨fv16, ft16, fm16⟩ := hRR 16 _ 70 rfl rfl (by kernel_rfl)
      replace fm16 : fv16 = Value.bool true := fm16
      subst fm16
      replace hKK : ∀ v w', Go.RowKit.Below W.heap.size W w' → v = Value.agg #[Value.int IntKind.i64 0, Value.int IntKind.i64 5, Value.int IntKind.i64 0, Value.int IntKind.i64 0, Value.string BX] → KK (Act.put fa _ v) w' := fun v w' h1 h2 => hKK v w' h1 h2
      clear hSame hRR
      rw [wanted_guard rfl rfl rfl ft16]
      first | rw [if_pos (by rfl)] | rw [if_neg (by decide)]
      go_simp
      refine hKK _ _ ?_ ?_
      · first | exact Below.refl _ _ | exact (Below.refl _ _).alloc (Nat.le_refl _) _ | exact below_draw _ _ | assumption
      · exact rfl
    refine Obs.cons (k' := 22) rfl ?_ ?_
    · intro fa W hW hSame hRR KK hKK
      try dsimp only at hW
      obtain ⟨fv16, ft16, fm16⟩ := hRR 16 _ 70 rfl rfl (by kernel_rfl)
      replace fm16 : fv16 = Value.bool true := fm16
      subst fm16
      have fb3 := hSame.base 3 (by kernel_rfl)
      simp only [List.getElem?_toArray, List.getElem?_cons_succ, List.getElem?_cons_zero] at fb3
      replace hKK : ∀ v w', Go.RowKit.Below W.heap.size W w' → v = Value.slice (some { block := ba, off := 0 }) 2 2 → KK (Act.put fa _ v) w' := fun v w' h1 h2 => hKK v w' h1 h2
      clear hSame hRR
      rw [wanted_guard rfl rfl rfl ft16]
      first | rw [if_pos (by rfl)] | rw [if_neg (by decide)]
      go_simp
      refine hKK _ _ ?_ ?_
      · first | exact Below.refl _ _ | exact (Below.refl _ _).alloc (Nat.le_refl _) _ | exact below_draw _ _ | assumption
      · exact rfl
    refine Obs.cons (k' := 23) rfl ?_ ?_
    · intro fa W hW hSame hRR KK hKK
      try dsimp only at hW
      obtain ⟨fv21, ft21, fm21⟩ := hRR 21 _ 75 rfl rfl (by kernel_rfl)
      replace fm21 : fv21 = Value.slice (some { block := ba, off := 0 }) 2 2 := fm21
      subst fm21
      obtain ⟨fv16, ft16, fm16⟩ := hRR 16 _ 70 rfl rfl (by kernel_rfl)
      replace fm16 : fv16 = Value.bool true := fm16
      subst fm16
      replace hKK : ∀ v w', Go.RowKit.Below W.heap.size W w' → v = Value.pointer (some { block := ba, off := 5 }) → KK (Act.put fa _ v) w' := fun v w' h1 h2 => hKK v w' h1 h2
      clear hSame hRR
      rw [wanted_guard rfl rfl rfl ft16]
      first | rw [if_pos (by rfl)] | rw [if_neg (by decide)]
      go_simp
      refine hKK _ _ ?_ ?_
      · first | exact Below.refl _ _ | exact (Below.refl _ _).alloc (Nat.le_refl _) _ | exact below_draw _ _ | assumption
      · exact rfl
    refine Obs.cons (k' := 24) rfl ?_ ?_
    · intro fa W hW hSame hRR KK hKK
      try dsimp only at hW
      obtain ⟨fv22, ft22, fm22⟩ := hRR 22 _ 76 rfl rfl (by kernel_rfl)
      replace fm22 : fv22 = Value.pointer (some { block := ba, off := 5 }) := fm22
      subst fm22
      obtain ⟨fv16, ft16, fm16⟩ := hRR 16 _ 70 rfl rfl (by kernel_rfl)
      replace fm16 : fv16 = Value.bool true := fm16
      subst fm16
      replace hKK : ∀ v w', Go.RowKit.Below W.heap.size W w' → v = Value.agg #[Value.int IntKind.i64 5, Value.int IntKind.i64 9, Value.int IntKind.i64 0, Value.int IntKind.i64 0, Value.string BY] → KK (Act.put fa _ v) w' := fun v w' h1 h2 => hKK v w' h1 h2
      clear hSame hRR
      rw [wanted_guard rfl rfl rfl ft16]
      first | rw [if_pos (by rfl)] | rw [if_neg (by decide)]
      go_simp
      refine hKK _ _ ?_ ?_
      · first | exact Below.refl _ _ | exact (Below.refl _ _).alloc (Nat.le_refl _) _ | exact below_draw _ _ | assumption
      · exact rfl
    refine Obs.cons (k' := 25) rfl ?_ ?_
    · intro fa W hW hSame hRR KK hKK
      try dsimp only at hW
      obtain ⟨fv16, ft16, fm16⟩ := hRR 16 _ 70 rfl rfl (by kernel_rfl)
      replace fm16 : fv16 = Value.bool true := fm16
      subst fm16
      have fb4 := hSame.base 4 (by kernel_rfl)
      simp only [List.getElem?_toArray, List.getElem?_cons_succ, List.getElem?_cons_zero] at fb4
      replace hKK : ∀ v w', Go.RowKit.Below W.heap.size W w' → v = Value.slice (some { block := be, off := 0 }) 2 2 → KK (Act.put fa _ v) w' := fun v w' h1 h2 => hKK v w' h1 h2
      clear hSame hRR
      rw [wanted_guard rfl rfl rfl ft16]
      first | rw [if_pos (by rfl)] | rw [if_neg (by decide)]
      go_simp
      refine hKK _ _ ?_ ?_
      · first | exact Below.refl _ _ | exact (Below.refl _ _).alloc (Nat.le_refl _) _ | exact below_draw _ _ | assumption
      · exact rfl
    refine Obs.cons (k' := 26) rfl ?_ ?_
    · intro fa W hW hSame hRR KK hKK
      try dsimp only at hW
      obtain ⟨fv24, ft24, fm24⟩ := hRR 24 _ 78 rfl rfl (by kernel_rfl)
      replace fm24 : fv24 = Value.slice (some { block := be, off := 0 }) 2 2 := fm24
      subst fm24
      obtain ⟨fv16, ft16, fm16⟩ := hRR 16 _ 70 rfl rfl (by kernel_rfl)
      replace fm16 : fv16 = Value.bool true := fm16
      subst fm16
      replace hKK : ∀ v w', Go.RowKit.Below W.heap.size W w' → v = Value.pointer (some { block := be, off := 5 }) → KK (Act.put fa _ v) w' := fun v w' h1 h2 => hKK v w' h1 h2
      clear hSame hRR
      rw [wanted_guard rfl rfl rfl ft16]
      first | rw [if_pos (by rfl)] | rw [if_neg (by decide)]
      go_simp
      refine hKK _ _ ?_ ?_
      · first | exact Below.refl _ _ | exact (Below.refl _ _).alloc (Nat.le_refl _) _ | exact below_draw _ _ | assumption
      · exact rfl
    refine Obs.cons (k' := 27) rfl ?_ ?_
    · intro fa W hW hSame hRR KK hKK
      try dsimp only at hW
      obtain ⟨fv25, ft25, fm25⟩ := hRR 25 _ 79 rfl rfl (by kernel_rfl)
      replace fm25 : fv25 = Value.pointer (some { block := be, off := 5 }) := fm25
      subst fm25
      obtain ⟨fv16, ft16, fm16⟩ := hRR 16 _ 70 rfl rfl (by kernel_rfl)
      replace fm16 : fv16 = Value.bool true := fm16
      subst fm16
      replace hKK : ∀ v w', Go.RowKit.Below W.heap.size W w' → v = Value.agg #[Value.int IntKind.i64 12, Value.int IntKind.i64 15, Value.int IntKind.i64 0, Value.int IntKind.i64 0, Value.string BY] → KK (Act.put fa _ v) w' := fun v w' h1 h2 => hKK v w' h1 h2
      clear hSame hRR
      rw [wanted_guard rfl rfl rfl ft16]
      first | rw [if_pos (by rfl)] | rw [if_neg (by decide)]
      go_simp
      refine hKK _ _ ?_ ?_
      · first | exact Below.refl _ _ | exact (Below.refl _ _).alloc (Nat.le_refl _) _ | exact below_draw _ _ | assumption
      · exact rfl
    refine Obs.cons (k' := 28) rfl ?_ ?_
    · intro fa W hW hSame hRR KK hKK
      try dsimp only at hW
      obtain ⟨fv20, ft20, fm20⟩ := hRR 20 _ 74 rfl rfl (by kernel_rfl)
      replace fm20 : fv20 = Value.agg #[Value.int IntKind.i64 0, Value.int IntKind.i64 5, Value.int IntKind.i64 0, Value.int IntKind.i64 0, Value.string BX] := fm20
      subst fm20
      obtain ⟨fv23, ft23, fm23⟩ := hRR 23 _ 77 rfl rfl (by kernel_rfl)
      replace fm23 : fv23 = Value.agg #[Value.int IntKind.i64 5, Value.int IntKind.i64 9, Value.int IntKind.i64 0, Value.int IntKind.i64 0, Value.string BY] := fm23
      subst fm23
      obtain ⟨fv26, ft26, fm26⟩ := hRR 26 _ 80 rfl rfl (by kernel_rfl)
      replace fm26 : fv26 = Value.agg #[Value.int IntKind.i64 12, Value.int IntKind.i64 15, Value.int IntKind.i64 0, Value.int IntKind.i64 0, Value.string BY] := fm26
      subst fm26
      obtain ⟨fv16, ft16, fm16⟩ := hRR 16 _ 70 rfl rfl (by kernel_rfl)
      replace fm16 : fv16 = Value.bool true := fm16
      subst fm16
      replace hKK : ∀ v w', Go.RowKit.Below W.heap.size W w' → (fun v W => ∃ u, v = Value.slice (some ⟨u, 0, none⟩) 3 3 ∧ InV W v If.lm) v w' → KK (Act.put fa _ v) w' := fun v w' h1 h2 => hKK v w' h1 h2
      clear hSame hRR
      rw [wanted_guard rfl rfl rfl ft16]
      first | rw [if_pos (by rfl)] | rw [if_neg (by decide)]
      go_simp
      refine hKK _ _ ?_ ?_
      · first | exact Below.refl _ _ | exact (Below.refl _ _).alloc (Nat.le_refl _) _ | exact below_draw _ _ | assumption
      · try dsimp only
        first | exact trivial | exact rfl | (first | exact ⟨_, rfl, inv_new [(0, 0, 0, 0, ⟨#[]⟩)] _ rfl⟩ | exact ⟨_, rfl, inv_new If.lm _ rfl⟩ | exact ⟨_, rfl, inv_new [(3, 5, 0, 0, BX), (5, 6, 0, 0, BY)] _ rfl⟩ | exact ⟨_, rfl, spv_new [(0, 9), (12, 15)] _ rfl⟩ | exact ⟨_, rfl, spv_new [(-1, 0), (9, 12)] _ rfl⟩ | exact ⟨u, rfl, hv⟩ | exact ⟨u, rfl, trivial⟩)
    refine Obs.cons (k' := 29) rfl ?_ ?_
    · intro fa W hW hSame hRR KK hKK
      try dsimp only at hW
      obtain ⟨fv17, ft17, fm17⟩ := hRR 17 _ 71 rfl rfl (by kernel_rfl)
      replace fm17 : fv17 = Value.slice A5 3 c5 := fm17
      subst fm17
      obtain ⟨fv27, ft27, fm27⟩ := hRR 27 _ 81 rfl rfl (by kernel_rfl)
      replace fm27 : (fun v W => ∃ u, v = Value.slice (some ⟨u, 0, none⟩) 3 3 ∧ InV W v If.lm) fv27 W := fm27
      try dsimp only at fm27
      first | subst fm27 | obtain ⟨_, rfl, fm27⟩ := fm27
      obtain ⟨fv16, ft16, fm16⟩ := hRR 16 _ 70 rfl rfl (by kernel_rfl)
      replace fm16 : fv16 = Value.bool true := fm16
      subst fm16
      replace hKK : ∀ v w', Go.RowKit.Below W.heap.size W w' → v = Value.bool true → KK (Act.put fa _ v) w' := fun v w' h1 h2 => hKK v w' h1 h2
      clear hSame hRR
      rw [wanted_guard rfl rfl rfl ft16]
      first | rw [if_pos (by rfl)] | rw [if_neg (by decide)]
      go_simp
      first
        | (go_at_call 25; first
            | ((with_reducible refine (S1.out _ hW.2.1).mono ?_); rintro e w' ⟨rfl, hb⟩)
            | ((with_reducible refine (S2.out _ hW.2.2.1).mono ?_); rintro e w' ⟨rfl, hb⟩)
            | ((with_reducible refine (S3.out _ (InV.nil _)).mono ?_); rintro e w' ⟨rfl, hb⟩)
            | ((with_reducible refine (S4.out _ _ fm12).mono ?_); rintro e w' ⟨rfl, hb⟩))
        | (go_at_call 20; first
            | ((with_reducible refine (E1.out _ _ hW.2.2.2.1 fm27).mono ?_); rintro e w' ⟨rfl, n, rfl⟩)
            | ((with_reducible refine (E2.out _ _ _ fm62 fm69).mono ?_); rintro e w' ⟨rfl, n, rfl⟩))
        | (go_at_call 27; first
            | ((with_reducible refine (F1.out _ _ _ fm44 fm47).mono ?_); rintro e w' ⟨rfl, jj, rfl⟩)
            | ((with_reducible refine (F2.out _ _ _ fm53 fm56).mono ?_); rintro e w' ⟨rfl, jj, rfl⟩))
        | (go_at_call 28; refine (patches39 _ _ hW.2.2.2.1).mono ?_; rintro e w' ⟨u, rfl, hv, hb⟩)
        | (go_at_call 30; refine (missing39 _ _ hW.2.2.2.1).mono ?_; rintro e w' ⟨u, rfl, hv, hb⟩)
        | (go_at_call 32; first
            | ((with_reducible refine (cut39 _ _ hW.2.2.2.1).mono ?_); rintro e w' ⟨u, rfl, hv, hb⟩)
            | ((with_reducible refine (cut39n _ _ hW.2.2.2.1).mono ?_); rintro e w' ⟨u, rfl, hb⟩))
      try dsimp only
      refine hKK _ _ ?_ ?_
      · first | exact Below.refl _ _ | exact (Below.refl _ _).alloc (Nat.le_refl _) _ | exact below_draw _ _ | assumption
      · exact rfl
    refine Obs.cons (k' := 30) rfl ?_ ?_
    · intro fa W hW hSame hRR KK hKK
      try dsimp only at hW
      obtain ⟨fv16, ft16, fm16⟩ := hRR 16 _ 70 rfl rfl (by kernel_rfl)
      replace fm16 : fv16 = Value.bool true := fm16
      subst fm16
      obtain ⟨fv28, ft28, fm28⟩ := hRR 28 _ 82 rfl rfl (by kernel_rfl)
      replace fm28 : fv28 = Value.bool true := fm28
      subst fm28
      replace hKK : ∀ v w', Go.RowKit.Below W.heap.size W w' → v = Value.bool true → KK (Act.put fa _ v) w' := fun v w' h1 h2 => hKK v w' h1 h2
      clear hSame hRR
      rw [if_pos (wanted_plain rfl)]
      go_simp
      refine hKK _ _ ?_ ?_
      · first | exact Below.refl _ _ | exact (Below.refl _ _).alloc (Nat.le_refl _) _ | exact below_draw _ _ | assumption
      · exact rfl
    refine Obs.cons (k' := 31) rfl ?_ ?_
    · intro fa W hW hSame hRR KK hKK
      try dsimp only at hW
      obtain ⟨fv29, ft29, fm29⟩ := hRR 29 _ 83 rfl rfl (by kernel_rfl)
      replace fm29 : fv29 = Value.bool true := fm29
      subst fm29
      replace hKK : ∀ v w', Go.RowKit.Below W.heap.size W w' → v = Value.bool true → KK (Act.put fa _ v) w' := fun v w' h1 h2 => hKK v w' h1 h2
      clear hSame hRR
      rw [if_pos (wanted_plain rfl)]
      go_simp
      refine hKK _ _ ?_ ?_
      · first | exact Below.refl _ _ | exact (Below.refl _ _).alloc (Nat.le_refl _) _ | exact below_draw _ _ | assumption
      · exact rfl
    refine Obs.cons (k' := 32) rfl ?_ ?_
    · intro fa W hW hSame hRR KK hKK
      try dsimp only at hW
      obtain ⟨fv30, ft30, fm30⟩ := hRR 30 _ 84 rfl rfl (by kernel_rfl)
      replace fm30 : fv30 = Value.bool true := fm30
      subst fm30
      have fb7 := hSame.base 7 (by kernel_rfl)
      simp only [List.getElem?_toArray, List.getElem?_cons_succ, List.getElem?_cons_zero] at fb7
      replace hKK : ∀ v w', Go.RowKit.Below W.heap.size W w' → v = Value.int IntKind.i64 0 → KK (Act.put fa _ v) w' := fun v w' h1 h2 => hKK v w' h1 h2
      clear hSame hRR
      rw [wanted_guard rfl rfl rfl ft30]
      first | rw [if_pos (by rfl)] | rw [if_neg (by decide)]
      go_simp
      refine hKK _ _ ?_ ?_
      · first | exact Below.refl _ _ | exact (Below.refl _ _).alloc (Nat.le_refl _) _ | exact below_draw _ _ | assumption
      · exact rfl
    refine Obs.cons (k' := 33) rfl ?_ ?_
    · intro fa W hW hSame hRR KK hKK
      try dsimp only at hW
      obtain ⟨fv31, ft31, fm31⟩ := hRR 31 _ 85 rfl rfl (by kernel_rfl)
      replace fm31 : fv31 = Value.int IntKind.i64 0 := fm31
      subst fm31
      obtain ⟨fv30, ft30, fm30⟩ := hRR 30 _ 84 rfl rfl (by kernel_rfl)
      replace fm30 : fv30 = Value.bool true := fm30
      subst fm30
      replace hKK : ∀ v w', Go.RowKit.Below W.heap.size W w' → v = Value.bool true → KK (Act.put fa _ v) w' := fun v w' h1 h2 => hKK v w' h1 h2
      clear hSame hRR
      rw [wanted_guard rfl rfl rfl ft30]
      first | rw [if_pos (by rfl)] | rw [if_neg (by decide)]
      go_simp
      refine hKK _ _ ?_ ?_
      · first | exact Below.refl _ _ | exact (Below.refl _ _).alloc (Nat.le_refl _) _ | exact below_draw _ _ | assumption
      · exact rfl
    refine Obs.cons (k' := 34) rfl ?_ ?_
    · intro fa W hW hSame hRR KK hKK
      try dsimp only at hW
      obtain ⟨fv30, ft30, fm30⟩ := hRR 30 _ 84 rfl rfl (by kernel_rfl)
      replace fm30 : fv30 = Value.bool true := fm30
      subst fm30
      obtain ⟨fv32, ft32, fm32⟩ := hRR 32 _ 86 rfl rfl (by kernel_rfl)
      replace fm32 : fv32 = Value.bool true := fm32
      subst fm32
      replace hKK : ∀ v w', Go.RowKit.Below W.heap.size W w' → v = Value.bool true → KK (Act.put fa _ v) w' := fun v w' h1 h2 => hKK v w' h1 h2
      clear hSame hRR
      rw [if_pos (wanted_plain rfl)]
      go_simp
      refine hKK _ _ ?_ ?_
      · first | exact Below.refl _ _ | exact (Below.refl _ _).alloc (Nat.le_refl _) _ | exact below_draw _ _ | assumption
      · exact rfl
    refine Obs.cons (k' := 35) rfl ?_ ?_
    · intro fa W hW hSame hRR KK hKK
      try dsimp only at hW
      obtain ⟨fv33, ft33, fm33⟩ := hRR 33 _ 87 rfl rfl (by kernel_rfl)
      replace fm33 : fv33 = Value.bool true := fm33
      subst fm33
      replace hKK : ∀ v w', Go.RowKit.Below W.heap.size W w' → v = Value.bool true → KK (Act.put fa _ v) w' := fun v w' h1 h2 => hKK v w' h1 h2
      clear hSame hRR
      rw [if_pos (wanted_plain rfl)]
      go_simp
      refine hKK _ _ ?_ ?_
      · first | exact Below.refl _ _ | exact (Below.refl _ _).alloc (Nat.le_refl _) _ | exact below_draw _ _ | assumption
      · exact rfl
    refine Obs.cons (k' := 36) rfl ?_ ?_
    · intro fa W hW hSame hRR KK hKK
      try dsimp only at hW
      obtain ⟨fv34, ft34, fm34⟩ := hRR 34 _ 88 rfl rfl (by kernel_rfl)
      replace fm34 : fv34 = Value.bool true := fm34
      subst fm34
      have fb9 := hSame.base 9 (by kernel_rfl)
      simp only [List.getElem?_toArray, List.getElem?_cons_succ, List.getElem?_cons_zero] at fb9
      replace hKK : ∀ v w', Go.RowKit.Below W.heap.size W w' → v = Value.int IntKind.i64 4 → KK (Act.put fa _ v) w' := fun v w' h1 h2 => hKK v w' h1 h2
      clear hSame hRR
      rw [wanted_guard rfl rfl rfl ft34]
      first | rw [if_pos (by rfl)] | rw [if_neg (by decide)]
      go_simp
      refine hKK _ _ ?_ ?_
      · first | exact Below.refl _ _ | exact (Below.refl _ _).alloc (Nat.le_refl _) _ | exact below_draw _ _ | assumption
      · exact rfl
    refine Obs.cons (k' := 37) rfl ?_ ?_
    · intro fa W hW hSame hRR KK hKK
      try dsimp only at hW
      obtain ⟨fv35, ft35, fm35⟩ := hRR 35 _ 89 rfl rfl (by kernel_rfl)
      replace fm35 : fv35 = Value.int IntKind.i64 4 := fm35
      subst fm35
      obtain ⟨fv34, ft34, fm34⟩ := hRR 34 _ 88 rfl rfl (by kernel_rfl)
      replace fm34 : fv34 = Value.bool true := fm34
      subst fm34
      replace hKK : ∀ v w', Go.RowKit.Below W.heap.size W w' → v = Value.bool true → KK (Act.put fa _ v) w' := fun v w' h1 h2 => hKK v w' h1 h2
      clear hSame hRR
      rw [wanted_guard rfl rfl rfl ft34]
      first | rw [if_pos (by rfl)] | rw [if_neg (by decide)]
      go_simp
      refine hKK _ _ ?_ ?_
      · first | exact Below.refl _ _ | exact (Below.refl _ _).alloc (Nat.le_refl _) _ | exact below_draw _ _ | assumption
      · exact rfl
    refine Obs.cons (k' := 38) rfl ?_ ?_
    · intro fa W hW hSame hRR KK hKK
      try dsimp only at hW
      obtain ⟨fv34, ft34, fm34⟩ := hRR 34 _ 88 rfl rfl (by kernel_rfl)
      replace fm34 : fv34 = Value.bool true := fm34
      subst fm34
      obtain ⟨fv36, ft36, fm36⟩ := hRR 36 _ 90 rfl rfl (by kernel_rfl)
      replace fm36 : fv36 = Value.bool true := fm36
      subst fm36
      replace hKK : ∀ v w', Go.RowKit.Below W.heap.size W w' → v = Value.bool true → KK (Act.put fa _ v) w' := fun v w' h1 h2 => hKK v w' h1 h2
      clear hSame hRR
      rw [if_pos (wanted_plain rfl)]
      go_simp
      refine hKK _ _ ?_ ?_
      · first | exact Below.refl _ _ | exact (Below.refl _ _).alloc (Nat.le_refl _) _ | exact below_draw _ _ | assumption
      · exact rfl
    refine Obs.cons (k' := 39) rfl ?_ ?_
    · intro fa W hW hSame hRR KK hKK
      try dsimp only at hW
      obtain ⟨fv37, ft37, fm37⟩ := hRR 37 _ 91 rfl rfl (by kernel_rfl)
      replace fm37 : fv37 = Value.bool true := fm37
      subst fm37
      replace hKK : ∀ v w', Go.RowKit.Below W.heap.size W w' → v = Value.bool true → KK (Act.put fa _ v) w' := fun v w' h1 h2 => hKK v w' h1 h2
      clear hSame hRR
      rw [if_pos (wanted_plain rfl)]
      go_simp
      refine hKK _ _ ?_ ?_
      · first | exact Below.refl _ _ | exact (Below.refl _ _).alloc (Nat.le_refl _) _ | exact below_draw _ _ | assumption
      · exact rfl
    refine Obs.cons (k' := 40) rfl ?_ ?_
    · intro fa W hW hSame hRR KK hKK
      try dsimp only at hW
      obtain ⟨fv38, ft38, fm38⟩ := hRR 38 _ 92 rfl rfl (by kernel_rfl)
      replace fm38 : fv38 = Value.bool true := fm38
      subst fm38
      have fb11 := hSame.base 11 (by kernel_rfl)
      simp only [List.getElem?_toArray, List.getElem?_cons_succ, List.getElem?_cons_zero] at fb11
      replace hKK : ∀ v w', Go.RowKit.Below W.heap.size W w' → v = Value.int IntKind.i64 21 → KK (Act.put fa _ v) w' := fun v w' h1 h2 => hKK v w' h1 h2
      clear hSame hRR
      rw [wanted_guard rfl rfl rfl ft38]
      first | rw [if_pos (by rfl)] | rw [if_neg (by decide)]
      go_simp
      refine hKK _ _ ?_ ?_
      · first | exact Below.refl _ _ | exact (Below.refl _ _).alloc (Nat.le_refl _) _ | exact below_draw _ _ | assumption
      · exact rfl
    refine Obs.cons (k' := 41) rfl ?_ ?_
    · intro fa W hW hSame hRR KK hKK
      try dsimp only at hW
      obtain ⟨fv39, ft39, fm39⟩ := hRR 39 _ 93 rfl rfl (by kernel_rfl)
      replace fm39 : fv39 = Value.int IntKind.i64 21 := fm39
      subst fm39
      obtain ⟨fv38, ft38, fm38⟩ := hRR 38 _ 92 rfl rfl (by kernel_rfl)
      replace fm38 : fv38 = Value.bool true := fm38
      subst fm38
      replace hKK : ∀ v w', Go.RowKit.Below W.heap.size W w' → v = Value.bool true → KK (Act.put fa _ v) w' := fun v w' h1 h2 => hKK v w' h1 h2
      clear hSame hRR
      rw [wanted_guard rfl rfl rfl ft38]
      first | rw [if_pos (by rfl)] | rw [if_neg (by decide)]
      go_simp
      refine hKK _ _ ?_ ?_
      · first | exact Below.refl _ _ | exact (Below.refl _ _).alloc (Nat.le_refl _) _ | exact below_draw _ _ | assumption
      · exact rfl
    refine Obs.cons (k' := 42) rfl ?_ ?_
    · intro fa W hW hSame hRR KK hKK
      try dsimp only at hW
      obtain ⟨fv38, ft38, fm38⟩ := hRR 38 _ 92 rfl rfl (by kernel_rfl)
      replace fm38 : fv38 = Value.bool true := fm38
      subst fm38
      obtain ⟨fv40, ft40, fm40⟩ := hRR 40 _ 94 rfl rfl (by kernel_rfl)
      replace fm40 : fv40 = Value.bool true := fm40
      subst fm40
      replace hKK : ∀ v w', Go.RowKit.Below W.heap.size W w' → v = Value.bool true → KK (Act.put fa _ v) w' := fun v w' h1 h2 => hKK v w' h1 h2
      clear hSame hRR
      rw [if_pos (wanted_plain rfl)]
      go_simp
      refine hKK _ _ ?_ ?_
      · first | exact Below.refl _ _ | exact (Below.refl _ _).alloc (Nat.le_refl _) _ | exact below_draw _ _ | assumption
      · exact rfl
    refine Obs.cons (k' := 43) rfl ?_ ?_
    · intro fa W hW hSame hRR KK hKK
      try dsimp only at hW
      obtain ⟨fv41, ft41, fm41⟩ := hRR 41 _ 95 rfl rfl (by kernel_rfl)
      replace fm41 : fv41 = Value.bool true := fm41
      subst fm41
      replace hKK : ∀ v w', Go.RowKit.Below W.heap.size W w' → v = Value.bool true → KK (Act.put fa _ v) w' := fun v w' h1 h2 => hKK v w' h1 h2
      clear hSame hRR
      rw [if_pos (wanted_plain rfl)]
      go_simp
      refine hKK _ _ ?_ ?_
      · first | exact Below.refl _ _ | exact (Below.refl _ _).alloc (Nat.le_refl _) _ | exact below_draw _ _ | assumption
      · exact rfl
    refine Obs.cons (k' := 44) rfl ?_ ?_
    · intro fa W hW hSame hRR KK hKK
      try dsimp only at hW
      obtain ⟨fv42, ft42, fm42⟩ := hRR 42 _ 96 rfl rfl (by kernel_rfl)
      replace fm42 : fv42 = Value.bool true := fm42
      subst fm42
      have fb6 := hSame.base 6 (by kernel_rfl)
      simp only [List.getElem?_toArray, List.getElem?_cons_succ, List.getElem?_cons_zero] at fb6
      replace hKK : ∀ v w', Go.RowKit.Below W.heap.size W w' → v = Value.slice A5 3 c5 → KK (Act.put fa _ v) w' := fun v w' h1 h2 => hKK v w' h1 h2
      clear hSame hRR
      rw [wanted_guard rfl rfl rfl ft42]
      first | rw [if_pos (by rfl)] | rw [if_neg (by decide)]
      go_simp
      refine hKK _ _ ?_ ?_
      · first | exact Below.refl _ _ | exact (Below.refl _ _).alloc (Nat.le_refl _) _ | exact below_draw _ _ | assumption
      · exact rfl
    refine Obs.cons (k' := 45) rfl ?_ ?_
    · intro fa W hW hSame hRR KK hKK
      try dsimp only at hW
      obtain ⟨fv43, ft43, fm43⟩ := hRR 43 _ 97 rfl rfl (by kernel_rfl)
      replace fm43 : fv43 = Value.slice A5 3 c5 := fm43
      subst fm43
      obtain ⟨fv42, ft42, fm42⟩ := hRR 42 _ 96 rfl rfl (by kernel_rfl)
      replace fm42 : fv42 = Value.bool true := fm42
      subst fm42
      replace hKK : ∀ v w', Go.RowKit.Below W.heap.size W w' → (fun v W => ∃ u : Option Addr × Nat, v = Value.slice u.1 2 u.2 ∧ SpV W (Value.slice u.1 2 u.2) [(0, 9), (12, 15)]) v w' → KK (Act.put fa _ v) w' := fun v w' h1 h2 => hKK v w' h1 h2
      clear hSame hRR
      rw [wanted_guard rfl rfl rfl ft42]
      first | rw [if_pos (by rfl)] | rw [if_neg (by decide)]
      go_simp
      first
        | (go_at_call 25; first
            | ((with_reducible refine (S1.out _ hW.2.1).mono ?_); rintro e w' ⟨rfl, hb⟩)
            | ((with_reducible refine (S2.out _ hW.2.2.1).mono ?_); rintro e w' ⟨rfl, hb⟩)
            | ((with_reducible refine (S3.out _ (InV.nil _)).mono ?_); rintro e w' ⟨rfl, hb⟩)
            | ((with_reducible refine (S4.out _ _ fm12).mono ?_); rintro e w' ⟨rfl, hb⟩))
        | (go_at_call 20; first
            | ((with_reducible refine (E1.out _ _ hW.2.2.2.1 fm27).mono ?_); rintro e w' ⟨rfl, n, rfl⟩)
            | ((with_reducible refine (E2.out _ _ _ fm62 fm69).mono ?_); rintro e w' ⟨rfl, n, rfl⟩))
        | (go_at_call 27; first
            | ((with_reducible refine (F1.out _ _ _ fm44 fm47).mono ?_); rintro e w' ⟨rfl, jj, rfl⟩)
            | ((with_reducible refine (F2.out _ _ _ fm53 fm56).mono ?_); rintro e w' ⟨rfl, jj, rfl⟩))
        | (go_at_call 28; refine (patches39 _ _ hW.2.2.2.1).mono ?_; rintro e w' ⟨u, rfl, hv, hb⟩)
        | (go_at_call 30; refine (missing39 _ _ hW.2.2.2.1).mono ?_; rintro e w' ⟨u, rfl, hv, hb⟩)
        | (go_at_call 32; first
            | ((with_reducible refine (cut39 _ _ hW.2.2.2.1).mono ?_); rintro e w' ⟨u, rfl, hv, hb⟩)
            | ((with_reducible refine (cut39n _ _ hW.2.2.2.1).mono ?_); rintro e w' ⟨u, rfl, hb⟩))
      try dsimp only
      refine hKK _ _ ?_ ?_
      · first | exact Below.refl _ _ | exact (Below.refl _ _).alloc (Nat.le_refl _) _ | exact below_draw _ _ | assumption
      · try dsimp only
        first | exact trivial | exact rfl | (first | exact ⟨_, rfl, inv_new [(0, 0, 0, 0, ⟨#[]⟩)] _ rfl⟩ | exact ⟨_, rfl, inv_new If.lm _ rfl⟩ | exact ⟨_, rfl, inv_new [(3, 5, 0, 0, BX), (5, 6, 0, 0, BY)] _ rfl⟩ | exact ⟨_, rfl, spv_new [(0, 9), (12, 15)] _ rfl⟩ | exact ⟨_, rfl, spv_new [(-1, 0), (9, 12)] _ rfl⟩ | exact ⟨u, rfl, hv⟩ | exact ⟨u, rfl, trivial⟩)
    refine Obs.cons (k' := 46) rfl ?_ ?_
    · intro fa W hW hSame hRR KK hKK
      try dsimp only at hW
      obtain ⟨fv42, ft42, fm42⟩ := hRR 42 _ 96 rfl rfl (by kernel_rfl)
      replace fm42 : fv42 = Value.bool true := fm42
      subst fm42
      replace hKK : ∀ v w', Go.RowKit.Below W.heap.size W w' → v = Value.agg #[Value.int IntKind.i64 0, Value.int IntKind.i64 9] → KK (Act.put fa _ v) w' := fun v w' h1 h2 => hKK v w' h1 h2
      clear hSame hRR
      rw [wanted_guard rfl rfl rfl ft42]
      first | rw [if_pos (by rfl)] | rw [if_neg (by decide)]
      go_simp
      refine hKK _ _ ?_ ?_
      · first | exact Below.refl _ _ | exact (Below.refl _ _).alloc (Nat.le_refl _) _ | exact below_draw _ _ | assumption
      · exact rfl
    refine Obs.cons (k' := 47) rfl ?_ ?_
    · intro fa W hW hSame hRR KK hKK
      try dsimp only at hW
      obtain ⟨fv42, ft42, fm42⟩ := hRR 42 _ 96 rfl rfl (by kernel_rfl)
      replace fm42 : fv42 = Value.bool true := fm42
      subst fm42
      replace hKK : ∀ v w', Go.RowKit.Below W.heap.size W w' → v = Value.agg #[Value.int IntKind.i64 12, Value.int IntKind.i64 15] → KK (Act.put fa _ v) w' := fun v w' h1 h2 => hKK v w' h1 h2
      clear hSame hRR
      rw [wanted_guard rfl rfl rfl ft42]
      first | rw [if_pos (by rfl)] | rw [if_neg (by decide)]
      go_simp
      refine hKK _ _ ?_ ?_
      · first | exact Below.refl _ _ | exact (Below.refl _ _).alloc (Nat.le_refl _) _ | exact below_draw _ _ | assumption
      · exact rfl
    refine Obs.cons (k' := 48) rfl ?_ ?_
    · intro fa W hW hSame hRR KK hKK
      try dsimp only at hW
      obtain ⟨fv45, ft45, fm45⟩ := hRR 45 _ 99 rfl rfl (by kernel_rfl)
      replace fm45 : fv45 = Value.agg #[Value.int IntKind.i64 0, Value.int IntKind.i64 9] := fm45
      subst fm45
      obtain ⟨fv46, ft46, fm46⟩ := hRR 46 _ 100 rfl rfl (by kernel_rfl)
      replace fm46 : fv46 = Value.agg #[Value.int IntKind.i64 12, Value.int IntKind.i64 15] := fm46
      subst fm46
      obtain ⟨fv42, ft42, fm42⟩ := hRR 42 _ 96 rfl rfl (by kernel_rfl)
      replace fm42 : fv42 = Value.bool true := fm42
      subst fm42
      replace hKK : ∀ v w', Go.RowKit.Below W.heap.size W w' → (fun v W => ∃ u, v = Value.slice (some ⟨u, 0, none⟩) 2 2 ∧ SpV W v [(0, 9), (12, 15)]) v w' → KK (Act.put fa _ v) w' := fun v w' h1 h2 => hKK v w' h1 h2
      clear hSame hRR
      rw [wanted_guard rfl rfl rfl ft42]
      first | rw [if_pos (by rfl)] | rw [if_neg (by decide)]
      go_simp
      refine hKK _ _ ?_ ?_
      · first | exact Below.refl _ _ | exact (Below.refl _ _).alloc (Nat.le_refl _) _ | exact below_draw _ _ | assumption
      · try dsimp only
        first | exact trivial | exact rfl | (first | exact ⟨_, rfl, inv_new [(0, 0, 0, 0, ⟨#[]⟩)] _ rfl⟩ | exact ⟨_, rfl, inv_new If.lm _ rfl⟩ | exact ⟨_, rfl, inv_new [(3, 5, 0, 0, BX), (5, 6, 0, 0, BY)] _ rfl⟩ | exact ⟨_, rfl, spv_new [(0, 9), (12, 15)] _ rfl⟩ | exact ⟨_, rfl, spv_new [(-1, 0), (9, 12)] _ rfl⟩ | exact ⟨u, rfl, hv⟩ | exact ⟨u, rfl, trivial⟩)
    refine Obs.cons (k' := 49) rfl ?_ ?_
    · intro fa W hW hSame hRR KK hKK
      try dsimp only at hW
      obtain ⟨fv44, ft44, fm44⟩ := hRR 44 _ 98 rfl rfl (by kernel_rfl)
      replace fm44 : (fun v W => ∃ u : Option Addr × Nat, v = Value.slice u.1 2 u.2 ∧ SpV W (Value.slice u.1 2 u.2) [(0, 9), (12, 15)]) fv44 W := fm44
      try dsimp only at fm44
      first | subst fm44 | obtain ⟨_, rfl, fm44⟩ := fm44
      obtain ⟨fv47, ft47, fm47⟩ := hRR 47 _ 101 rfl rfl (by kernel_rfl)
      replace fm47 : (fun v W => ∃ u, v = Value.slice (some ⟨u, 0, none⟩) 2 2 ∧ SpV W v [(0, 9), (12, 15)]) fv47 W := fm47
      try dsimp only at fm47
      first | subst fm47 | obtain ⟨_, rfl, fm47⟩ := fm47
      obtain ⟨fv42, ft42, fm42⟩ := hRR 42 _ 96 rfl rfl (by kernel_rfl)
      replace fm42 : fv42 = Value.bool true := fm42
      subst fm42
      replace hKK : ∀ v w', Go.RowKit.Below W.heap.size W w' → v = Value.bool true → KK (Act.put fa _ v) w' := fun v w' h1 h2 => hKK v w' h1 h2
      clear hSame hRR
      rw [wanted_guard rfl rfl rfl ft42]
      first | rw [if_pos (by rfl)] | rw [if_neg (by decide)]
      go_simp
      first
        | (go_at_call 25; first
            | ((with_reducible refine (S1.out _ hW.2.1).mono ?_); rintro e w' ⟨rfl, hb⟩)
            | ((with_reducible refine (S2.out _ hW.2.2.1).mono ?_); rintro e w' ⟨rfl, hb⟩)
            | ((with_reducible refine (S3.out _ (InV.nil _)).mono ?_); rintro e w' ⟨rfl, hb⟩)
            | ((with_reducible refine (S4.out _ _ fm12).mono ?_); rintro e w' ⟨rfl, hb⟩))
        | (go_at_call 20; first
            | ((with_reducible refine (E1.out _ _ hW.2.2.2.1 fm27).mono ?_); rintro e w' ⟨rfl, n, rfl⟩)
            | ((with_reducible refine (E2.out _ _ _ fm62 fm69).mono ?_); rintro e w' ⟨rfl, n, rfl⟩))
        | (go_at_call 27; first
            | ((with_reducible refine (F1.out _ _ _ fm44 fm47).mono ?_); rintro e w' ⟨rfl, jj, rfl⟩)
            | ((with_reducible refine (F2.out _ _ _ fm53 fm56).mono ?_); rintro e w' ⟨rfl, jj, rfl⟩))
        | (go_at_call 28; refine (patches39 _ _ hW.2.2.2.1).mono ?_; rintro e w' ⟨u, rfl, hv, hb⟩)
        | (go_at_call 30; refine (missing39 _ _ hW.2.2.2.1).mono ?_; rintro e w' ⟨u, rfl, hv, hb⟩)
        | (go_at_call 32; first
            | ((with_reducible refine (cut39 _ _ hW.2.2.2.1).mono ?_); rintro e w' ⟨u, rfl, hv, hb⟩)
            | ((with_reducible refine (cut39n _ _ hW.2.2.2.1).mono ?_); rintro e w' ⟨u, rfl, hb⟩))
      try dsimp only
      refine hKK _ _ ?_ ?_
      · first | exact Below.refl _ _ | exact (Below.refl _ _).alloc (Nat.le_refl _) _ | exact below_draw _ _ | assumption
      · exact rfl
    refine Obs.cons (k' := 50) rfl ?_ ?_
    · intro fa W hW hSame hRR KK hKK
      try dsimp only at hW
      obtain ⟨fv42, ft42, fm42⟩ := hRR 42 _ 96 rfl rfl (by kernel_rfl)
      replace fm42 : fv42 = Value.bool true := fm42
      subst fm42
      obtain ⟨fv48, ft48, fm48⟩ := hRR 48 _ 102 rfl rfl (by kernel_rfl)
      replace fm48 : fv48 = Value.bool true := fm48
      subst fm48
      replace hKK : ∀ v w', Go.RowKit.Below W.heap.size W w' → v = Value.bool true → KK (Act.put fa _ v) w' := fun v w' h1 h2 => hKK v w' h1 h2
      clear hSame hRR
      rw [if_pos (wanted_plain rfl)]
      go_simp
      refine hKK _ _ ?_ ?_
      · first | exact Below.refl _ _ | exact (Below.refl _ _).alloc (Nat.le_refl _) _ | exact below_draw _ _ | assumption
      · exact rfl
    refine Obs.cons (k' := 51) rfl ?_ ?_
    · intro fa W hW hSame hRR KK hKK
      try dsimp only at hW
      obtain ⟨fv49, ft49, fm49⟩ := hRR 49 _ 103 rfl rfl (by kernel_rfl)
      replace fm49 : fv49 = Value.bool true := fm49
      subst fm49
      replace hKK : ∀ v w', Go.RowKit.Below W.heap.size W w' → v = Value.bool true → KK (Act.put fa _ v) w' := fun v w' h1 h2 => hKK v w' h1 h2
      clear hSame hRR
      rw [if_pos (wanted_plain rfl)]
      go_simp
      refine hKK _ _ ?_ ?_
      · first | exact Below.refl _ _ | exact (Below.refl _ _).alloc (Nat.le_refl _) _ | exact below_draw _ _ | assumption
      · exact rfl
    refine Obs.cons (k' := 52) rfl ?_ ?_
    · intro fa W hW hSame hRR KK hKK
      try dsimp only at hW
      obtain ⟨fv50, ft50, fm50⟩ := hRR 50 _ 104 rfl rfl (by kernel_rfl)
      replace fm50 : fv50 = Value.bool true := fm50
      subst fm50
      have fb6 := hSame.base 6 (by kernel_rfl)
      simp only [List.getElem?_toArray, List.getElem?_cons_succ, List.getElem?_cons_zero] at fb6
      replace hKK : ∀ v w', Go.RowKit.Below W.heap.size W w' → v = Value.slice A5 3 c5 → KK (Act.put fa _ v) w' := fun v w' h1 h2 => hKK v w' h1 h2
      clear hSame hRR
      rw [wanted_guard rfl rfl rfl ft50]
      first | rw [if_pos (by rfl)] | rw [if_neg (by decide)]
      go_simp
      refine hKK _ _ ?_ ?_
      · first | exact Below.refl _ _ | exact (Below.refl _ _).alloc (Nat.le_refl _) _ | exact below_draw _ _ | assumption
      · exact rfl
    refine Obs.cons (k' := 53) rfl ?_ ?_
    · intro fa W hW hSame hRR KK hKK
      try dsimp only at hW
      obtain ⟨fv50, ft50, fm50⟩ := hRR 50 _ 104 rfl rfl (by kernel_rfl)
      replace fm50 : fv50 = Value.bool true := fm50
      subst fm50
      replace hKK : ∀ v w', Go.RowKit.Below W.heap.size W w' → v = Value.agg #[Value.int IntKind.i64 (-1), Value.int IntKind.i64 13] → KK (Act.put fa _ v) w' := fun v w' h1 h2 => hKK v w' h1 h2
      clear hSame hRR
      rw [wanted_guard rfl rfl rfl ft50]
      first | rw [if_pos (by rfl)] | rw [if_neg (by decide)]
      go_simp
      refine hKK _ _ ?_ ?_
      · first | exact Below.refl _ _ | exact (Below.refl _ _).alloc (Nat.le_refl _) _ | exact below_draw _ _ | assumption
      · exact rfl
    refine Obs.cons (k' := 54) rfl ?_ ?_
    · intro fa W hW hSame hRR KK hKK
      try dsimp only at hW
      obtain ⟨fv51, ft51, fm51⟩ := hRR 51 _ 105 rfl rfl (by kernel_rfl)
      replace fm51 : fv51 = Value.slice A5 3 c5 := fm51
      subst fm51
      obtain ⟨fv52, ft52, fm52⟩ := hRR 52 _ 106 rfl rfl (by kernel_rfl)
      replace fm52 : fv52 = Value.agg #[Value.int IntKind.i64 (-1), Value.int IntKind.i64 13] := fm52
      subst fm52
      obtain ⟨fv50, ft50, fm50⟩ := hRR 50 _ 104 rfl rfl (by kernel_rfl)
      replace fm50 : fv50 = Value.bool true := fm50
      subst fm50
      replace hKK : ∀ v w', Go.RowKit.Below W.heap.size W w' → (fun v W => ∃ u : Option Addr × Nat, v = Value.slice u.1 2 u.2 ∧ SpV W (Value.slice u.1 2 u.2) [(-1, 0), (9, 12)]) v w' → KK (Act.put fa _ v) w' := fun v w' h1 h2 => hKK v w' h1 h2
      clear hSame hRR
      rw [wanted_guard rfl rfl rfl ft50]
      first | rw [if_pos (by rfl)] | rw [if_neg (by decide)]
      go_simp
      first
        | (go_at_call 25; first
            | ((with_reducible refine (S1.out _ hW.2.1).mono ?_); rintro e w' ⟨rfl, hb⟩)
            | ((with_reducible refine (S2.out _ hW.2.2.1).mono ?_); rintro e w' ⟨rfl, hb⟩)
            | ((with_reducible refine (S3.out _ (InV.nil _)).mono ?_); rintro e w' ⟨rfl, hb⟩)
            | ((with_reducible refine (S4.out _ _ fm12).mono ?_); rintro e w' ⟨rfl, hb⟩))
        | (go_at_call 20; first
            | ((with_reducible refine (E1.out _ _ hW.2.2.2.1 fm27).mono ?_); rintro e w' ⟨rfl, n, rfl⟩)
            | ((with_reducible refine (E2.out _ _ _ fm62 fm69).mono ?_); rintro e w' ⟨rfl, n, rfl⟩))
        | (go_at_call 27; first
            | ((with_reducible refine (F1.out _ _ _ fm44 fm47).mono ?_); rintro e w' ⟨rfl, jj, rfl⟩)
            | ((with_reducible refine (F2.out _ _ _ fm53 fm56).mono ?_); rintro e w' ⟨rfl, jj, rfl⟩))
        | (go_at_call 28; refine (patches39 _ _ hW.2.2.2.1).mono ?_; rintro e w' ⟨u, rfl, hv, hb⟩)
        | (go_at_call 30; refine (missing39 _ _ hW.2.2.2.1).mono ?_; rintro e w' ⟨u, rfl, hv, hb⟩)
        | (go_at_call 32; first
            | ((with_reducible refine (cut39 _ _ hW.2.2.2.1).mono ?_); rintro e w' ⟨u, rfl, hv, hb⟩)
            | ((with_reducible refine (cut39n _ _ hW.2.2.2.1).mono ?_); rintro e w' ⟨u, rfl, hb⟩))
      try dsimp only
      refine hKK _ _ ?_ ?_
      · first | exact Below.refl _ _ | exact (Below.refl _ _).alloc (Nat.le_refl _) _ | exact below_draw _ _ | assumption
      · try dsimp only
        first | exact trivial | exact rfl | (first | exact ⟨_, rfl, inv_new [(0, 0, 0, 0, ⟨#[]⟩)] _ rfl⟩ | exact ⟨_, rfl, inv_new If.lm _ rfl⟩ | exact ⟨_, rfl, inv_new [(3, 5, 0, 0, BX), (5, 6, 0, 0, BY)] _ rfl⟩ | exact ⟨_, rfl, spv_new [(0, 9), (12, 15)] _ rfl⟩ | exact ⟨_, rfl, spv_new [(-1, 0), (9, 12)] _ rfl⟩ | exact ⟨u, rfl, hv⟩ | exact ⟨u, rfl, trivial⟩)
    refine Obs.cons (k' := 55) rfl ?_ ?_
    · intro fa W hW hSame hRR KK hKK
      try dsimp only at hW
      obtain ⟨fv50, ft50, fm50⟩ := hRR 50 _ 104 rfl rfl (by kernel_rfl)
      replace fm50 : fv50 = Value.bool true := fm50
      subst fm50
      replace hKK : ∀ v w', Go.RowKit.Below W.heap.size W w' → v = Value.agg #[Value.int IntKind.i64 (-1), Value.int IntKind.i64 0] → KK (Act.put fa _ v) w' := fun v w' h1 h2 => hKK v w' h1 h2
      clear hSame hRR
      rw [wanted_guard rfl rfl rfl ft50]
      first | rw [if_pos (by rfl)] | rw [if_neg (by decide)]
      go_simp
      refine hKK _ _ ?_ ?_
      · first | exact Below.refl _ _ | exact (Below.refl _ _).alloc (Nat.le_refl _) _ | exact below_draw _ _ | assumption
      · exact rfl
    refine Obs.cons (k' := 56) rfl ?_ ?_
    · intro fa W hW hSame hRR KK hKK
      try dsimp only at hW
      obtain ⟨fv50, ft50, fm50⟩ := hRR 50 _ 104 rfl rfl (by kernel_rfl)
      replace fm50 : fv50 = Value.bool true := fm50
      subst fm50
      replace hKK : ∀ v w', Go.RowKit.Below W.heap.size W w' → v = Value.agg #[Value.int IntKind.i64 9, Value.int IntKind.i64 12] → KK (Act.put fa _ v) w' := fun v w' h1 h2 => hKK v w' h1 h2
      clear hSame hRR
      rw [wanted_guard rfl rfl rfl ft50]
      first | rw [if_pos (by rfl)] | rw [if_neg (by decide)]
      go_simp
      refine hKK _ _ ?_ ?_
      · first | exact Below.refl _ _ | exact (Below.refl _ _).alloc (Nat.le_refl _) _ | exact below_draw _ _ | assumption
      · exact rfl
    refine Obs.cons (k' := 57) rfl ?_ ?_
    · intro fa W hW hSame hRR KK hKK
      try dsimp only at hW
      obtain ⟨fv54, ft54, fm54⟩ := hRR 54 _ 108 rfl rfl (by kernel_rfl)
      replace fm54 : fv54 = Value.agg #[Value.int IntKind.i64 (-1), Value.int IntKind.i64 0] := fm54
      subst fm54
      obtain ⟨fv55, ft55, fm55⟩ := hRR 55 _ 109 rfl rfl (by kernel_rfl)
      replace fm55 : fv55 = Value.agg #[Value.int IntKind.i64 9, Value.int IntKind.i64 12] := fm55
      subst fm55
      obtain ⟨fv50, ft50, fm50⟩ := hRR 50 _ 104 rfl rfl (by kernel_rfl)
      replace fm50 : fv50 = Value.bool true := fm50
      subst fm50
      replace hKK : ∀ v w', Go.RowKit.Below W.heap.size W w' → (fun v W => ∃ u, v = Value.slice (some ⟨u, 0, none⟩) 2 2 ∧ SpV W v [(-1, 0), (9, 12)]) v w' → KK (Act.put fa _ v) w' := fun v w' h1 h2 => hKK v w' h1 h2
      clear hSame hRR
      rw [wanted_guard rfl rfl rfl ft50]
      first | rw [if_pos (by rfl)] | rw [if_neg (by decide)]
      go_simp
      refine hKK _ _ ?_ ?_
      · first | exact Below.refl _ _ | exact (Below.refl _ _).alloc (Nat.le_refl _) _ | exact below_draw _ _ | assumption
      · try dsimp only
        first | exact trivial | exact rfl | (first | exact ⟨_, rfl, inv_new [(0, 0, 0, 0, ⟨#[]⟩)] _ rfl⟩ | exact ⟨_, rfl, inv_new If.lm _ rfl⟩ | exact ⟨_, rfl, inv_new [(3, 5, 0, 0, BX), (5, 6, 0, 0, BY)] _ rfl⟩ | exact ⟨_, rfl, spv_new [(0, 9), (12, 15)] _ rfl⟩ | exact ⟨_, rfl, spv_new [(-1, 0), (9, 12)] _ rfl⟩ | exact ⟨u, rfl, hv⟩ | exact ⟨u, rfl, trivial⟩)
    refine Obs.cons (k' := 58) rfl ?_ ?_
    · intro fa W hW hSame hRR KK hKK
      try dsimp only at hW
      obtain ⟨fv53, ft53, fm53⟩ := hRR 53 _ 107 rfl rfl (by kernel_rfl)
      replace fm53 : (fun v W => ∃ u : Option Addr × Nat, v = Value.slice u.1 2 u.2 ∧ SpV W (Value.slice u.1 2 u.2) [(-1, 0), (9, 12)]) fv53 W := fm53
      try dsimp only at fm53
      first | subst fm53 | obtain ⟨_, rfl, fm53⟩ := fm53
      obtain ⟨fv56, ft56, fm56⟩ := hRR 56 _ 110 rfl rfl (by kernel_rfl)
      replace fm56 : (fun v W => ∃ u, v = Value.slice (some ⟨u, 0, none⟩) 2 2 ∧ SpV W v [(-1, 0), (9, 12)]) fv56 W := fm56
      try dsimp only at fm56
      first | subst fm56 | obtain ⟨_, rfl, fm56⟩ := fm56
      obtain ⟨fv50, ft50, fm50⟩ := hRR 50 _ 104 rfl rfl (by kernel_rfl)
      replace fm50 : fv50 = Value.bool true := fm50
      subst fm50
      replace hKK : ∀ v w', Go.RowKit.Below W.heap.size W w' → v = Value.bool true → KK (Act.put fa _ v) w' := fun v w' h1 h2 => hKK v w' h1 h2
      clear hSame hRR
      rw [wanted_guard rfl rfl rfl ft50]
      first | rw [if_pos (by rfl)] | rw [if_neg (by decide)]
      go_simp
      first
        | (go_at_call 25; first
            | ((with_reducible refine (S1.out _ hW.2.1).mono ?_); rintro e w' ⟨rfl, hb⟩)
            | ((with_reducible refine (S2.out _ hW.2.2.1).mono ?_); rintro e w' ⟨rfl, hb⟩)
            | ((with_reducible refine (S3.out _ (InV.nil _)).mono ?_); rintro e w' ⟨rfl, hb⟩)
            | ((with_reducible refine (S4.out _ _ fm12).mono ?_); rintro e w' ⟨rfl, hb⟩))
        | (go_at_call 20; first
            | ((with_reducible refine (E1.out _ _ hW.2.2.2.1 fm27).mono ?_); rintro e w' ⟨rfl, n, rfl⟩)
            | ((with_reducible refine (E2.out _ _ _ fm62 fm69).mono ?_); rintro e w' ⟨rfl, n, rfl⟩))
        | (go_at_call 27; first
            | ((with_reducible refine (F1.out _ _ _ fm44 fm47).mono ?_); rintro e w' ⟨rfl, jj, rfl⟩)
            | ((with_reducible refine (F2.out _ _ _ fm53 fm56).mono ?_); rintro e w' ⟨rfl, jj, rfl⟩))
        | (go_at_call 28; refine (patches39 _ _ hW.2.2.2.1).mono ?_; rintro e w' ⟨u, rfl, hv, hb⟩)
        | (go_at_call 30; refine (missing39 _ _ hW.2.2.2.1).mono ?_; rintro e w' ⟨u, rfl, hv, hb⟩)
        | (go_at_call 32; first
            | ((with_reducible refine (cut39 _ _ hW.2.2.2.1).mono ?_); rintro e w' ⟨u, rfl, hv, hb⟩)
            | ((with_reducible refine (cut39n _ _ hW.2.2.2.1).mono ?_); rintro e w' ⟨u, rfl, hb⟩))
      try dsimp only
      refine hKK _ _ ?_ ?_
      · first | exact Below.refl _ _ | exact (Below.refl _ _).alloc (Nat.le_refl _) _ | exact below_draw _ _ | assumption
      · exact rfl
    refine Obs.cons (k' := 59) rfl ?_ ?_
    · intro fa W hW hSame hRR KK hKK
      try dsimp only at hW
      obtain ⟨fv50, ft50, fm50⟩ := hRR 50 _ 104 rfl rfl (by kernel_rfl)
      replace fm50 : fv50 = Value.bool true := fm50
      subst fm50
      obtain ⟨fv57, ft57, fm57⟩ := hRR 57 _ 111 rfl rfl (by kernel_rfl)
      replace fm57 : fv57 = Value.bool true := fm57
      subst fm57
      replace hKK : ∀ v w', Go.RowKit.Below W.heap.size W w' → v = Value.bool true → KK (Act.put fa _ v) w' := fun v w' h1 h2 => hKK v w' h1 h2
      clear hSame hRR
      rw [if_pos (wanted_plain rfl)]
      go_simp
      refine hKK _ _ ?_ ?_
      · first | exact Below.refl _ _ | exact (Below.refl _ _).alloc (Nat.le_refl _) _ | exact below_draw _ _ | assumption
      · exact rfl
    refine Obs.cons (k' := 60) rfl ?_ ?_
    · intro fa W hW hSame hRR KK hKK
      try dsimp only at hW
      obtain ⟨fv58, ft58, fm58⟩ := hRR 58 _ 112 rfl rfl (by kernel_rfl)
      replace fm58 : fv58 = Value.bool true := fm58
      subst fm58
      replace hKK : ∀ v w', Go.RowKit.Below W.heap.size W w' → v = Value.bool true → KK (Act.put fa _ v) w' := fun v w' h1 h2 => hKK v w' h1 h2
      clear hSame hRR
      rw [if_pos (wanted_plain rfl)]
      go_simp
      refine hKK _ _ ?_ ?_
      · first | exact Below.refl _ _ | exact (Below.refl _ _).alloc (Nat.le_refl _) _ | exact below_draw _ _ | assumption
      · exact rfl
    refine Obs.cons (k' := 61) rfl ?_ ?_
    · intro fa W hW hSame hRR KK hKK
      try dsimp only at hW
      obtain ⟨fv59, ft59, fm59⟩ := hRR 59 _ 113 rfl rfl (by kernel_rfl)
      replace fm59 : fv59 = Value.bool true := fm59
      subst fm59
      have fb6 := hSame.base 6 (by kernel_rfl)
      simp only [List.getElem?_toArray, List.getElem?_cons_succ, List.getElem?_cons_zero] at fb6
      replace hKK : ∀ v w', Go.RowKit.Below W.heap.size W w' → v = Value.slice A5 3 c5 → KK (Act.put fa _ v) w' := fun v w' h1 h2 => hKK v w' h1 h2
      clear hSame hRR
      rw [wanted_guard rfl rfl rfl ft59]
      first | rw [if_pos (by rfl)] | rw [if_neg (by decide)]
      go_simp
      refine hKK _ _ ?_ ?_
      · first | exact Below.refl _ _ | exact (Below.refl _ _).alloc (Nat.le_refl _) _ | exact below_draw _ _ | assumption
      · exact rfl
    refine Obs.cons (k' := 62) rfl ?_ ?_
    · intro fa W hW hSame hRR KK hKK
      try dsimp only at hW
      obtain ⟨fv59, ft59, fm59⟩ := hRR 59 _ 113 rfl rfl (by kernel_rfl)
      replace fm59 : fv59 = Value.bool true := fm59
      subst fm59
      replace hKK : ∀ v w', Go.RowKit.Below W.heap.size W w' → v = Value.agg #[Value.int IntKind.i64 3, Value.int IntKind.i64 6] → KK (Act.put fa _ v) w' := fun v w' h1 h2 => hKK v w' h1 h2
      clear hSame hRR
      rw [wanted_guard rfl rfl rfl ft59]
      first | rw [if_pos (by rfl)] | rw [if_neg (by decide)]
      go_simp
      refine hKK _ _ ?_ ?_
      · first | exact Below.refl _ _ | exact (Below.refl _ _).alloc (Nat.le_refl _) _ | exact below_draw _ _ | assumption
      · exact rfl
    refine Obs.cons (k' := 63) rfl ?_ ?_
    · intro fa W hW hSame hRR KK hKK
      try dsimp only at hW
      obtain ⟨fv60, ft60, fm60⟩ := hRR 60 _ 114 rfl rfl (by kernel_rfl)
      replace fm60 : fv60 = Value.slice A5 3 c5 := fm60
      subst fm60
      obtain ⟨fv61, ft61, fm61⟩ := hRR 61 _ 115 rfl rfl (by kernel_rfl)
      replace fm61 : fv61 = Value.agg #[Value.int IntKind.i64 3, Value.int IntKind.i64 6] := fm61
      subst fm61
      obtain ⟨fv59, ft59, fm59⟩ := hRR 59 _ 113 rfl rfl (by kernel_rfl)
      replace fm59 : fv59 = Value.bool true := fm59
      subst fm59
      replace hKK : ∀ v w', Go.RowKit.Below W.heap.size W w' → (fun v W => ∃ u : Option Addr × Nat, v = Value.slice u.1 2 u.2 ∧ InV W (Value.slice u.1 2 u.2) [(3, 5, 0, 0, BX), (5, 6, 0, 0, BY)]) v w' → KK (Act.put fa _ v) w' := fun v w' h1 h2 => hKK v w' h1 h2
      clear hSame hRR
      rw [wanted_guard rfl rfl rfl ft59]
      first | rw [if_pos (by rfl)] | rw [if_neg (by decide)]
      go_simp
      first
        | (go_at_call 25; first
            | ((with_reducible refine (S1.out _ hW.2.1).mono ?_); rintro e w' ⟨rfl, hb⟩)
            | ((with_reducible refine (S2.out _ hW.2.2.1).mono ?_); rintro e w' ⟨rfl, hb⟩)
            | ((with_reducible refine (S3.out _ (InV.nil _)).mono ?_); rintro e w' ⟨rfl, hb⟩)
            | ((with_reducible refine (S4.out _ _ fm12).mono ?_); rintro e w' ⟨rfl, hb⟩))
        | (go_at_call 20; first
            | ((with_reducible refine (E1.out _ _ hW.2.2.2.1 fm27).mono ?_); rintro e w' ⟨rfl, n, rfl⟩)
            | ((with_reducible refine (E2.out _ _ _ fm62 fm69).mono ?_); rintro e w' ⟨rfl, n, rfl⟩))
        | (go_at_call 27; first
            | ((with_reducible refine (F1.out _ _ _ fm44 fm47).mono ?_); rintro e w' ⟨rfl, jj, rfl⟩)
            | ((with_reducible refine (F2.out _ _ _ fm53 fm56).mono ?_); rintro e w' ⟨rfl, jj, rfl⟩))
        | (go_at_call 28; refine (patches39 _ _ hW.2.2.2.1).mono ?_; rintro e w' ⟨u, rfl, hv, hb⟩)
        | (go_at_call 30; refine (missing39 _ _ hW.2.2.2.1).mono ?_; rintro e w' ⟨u, rfl, hv, hb⟩)
        | (go_at_call 32; first
            | ((with_reducible refine (cut39 _ _ hW.2.2.2.1).mono ?_); rintro e w' ⟨u, rfl, hv, hb⟩)
            | ((with_reducible refine (cut39n _ _ hW.2.2.2.1).mono ?_); rintro e w' ⟨u, rfl, hb⟩))
      try dsimp only
      refine hKK _ _ ?_ ?_
      · first | exact Below.refl _ _ | exact (Below.refl _ _).alloc (Nat.le_refl _) _ | exact below_draw _ _ | assumption
      · try dsimp only
        first | exact trivial | exact rfl | (first | exact ⟨_, rfl, inv_new [(0, 0, 0, 0, ⟨#[]⟩)] _ rfl⟩ | exact ⟨_, rfl, inv_new If.lm _ rfl⟩ | exact ⟨_, rfl, inv_new [(3, 5, 0, 0, BX), (5, 6, 0, 0, BY)] _ rfl⟩ | exact ⟨_, rfl, spv_new [(0, 9), (12, 15)] _ rfl⟩ | exact ⟨_, rfl, spv_new [(-1, 0), (9, 12)] _ rfl⟩ | exact ⟨u, rfl, hv⟩ | exact ⟨u, rfl, trivial⟩)
    refine Obs.cons (k' := 64) rfl ?_ ?_
    · intro fa W hW hSame hRR KK hKK
      try dsimp only at hW
      obtain ⟨fv59, ft59, fm59⟩ := hRR 59 _ 113 rfl rfl (by kernel_rfl)
      replace fm59 : fv59 = Value.bool true := fm59
      subst fm59
      replace hKK : ∀ v w', Go.RowKit.Below W.heap.size W w' → v = Value.agg #[Value.int IntKind.i64 3, Value.int IntKind.i64 5] → KK (Act.put fa _ v) w' := fun v w' h1 h2 => hKK v w' h1 h2
      clear hSame hRR
      rw [wanted_guard rfl rfl rfl ft59]
      first | rw [if_pos (by rfl)] | rw [if_neg (by decide)]
      go_simp
      refine hKK _ _ ?_ ?_
      · first | exact Below.refl _ _ | exact (Below.refl _ _).alloc (Nat.le_refl _) _ | exact below_draw _ _ | assumption
      · exact rfl
    refine Obs.cons (k' := 65) rfl ?_ ?_
    · intro fa W hW hSame hRR KK hKK
      try dsimp only at hW
      obtain ⟨fv59, ft59, fm59⟩ := hRR 59 _ 113 rfl rfl (by kernel_rfl)
      replace fm59 : fv59 = Value.bool true := fm59
      subst fm59
      have fb1 := hSame.base 1 (by kernel_rfl)
      simp only [List.getElem?_toArray, List.getElem?_cons_succ, List.getElem?_cons_zero] at fb1
      replace hKK : ∀ v w', Go.RowKit.Below W.heap.size W w' → v = Value.agg #[Value.int IntKind.i64 0, Value.int IntKind.i64 0, Value.string BX] → KK (Act.put fa _ v) w' := fun v w' h1 h2 => hKK v w' h1 h2
      clear hSame hRR
      rw [wanted_guard rfl rfl rfl ft59]
      first | rw [if_pos (by rfl)] | rw [if_neg (by decide)]
      go_simp
      refine hKK _ _ ?_ ?_
      · first | exact Below.refl _ _ | exact (Below.refl _ _).alloc (Nat.le_refl _) _ | exact below_draw _ _ | assumption
      · exact rfl
    refine Obs.cons (k' := 66) rfl ?_ ?_
    · intro fa W hW hSame hRR KK hKK
      try dsimp only at hW
      obtain ⟨fv63, ft63, fm63⟩ := hRR 63 _ 117 rfl rfl (by kernel_rfl)
      replace fm63 : fv63 = Value.agg #[Value.int IntKind.i64 3, Value.int IntKind.i64 5] := fm63
      subst fm63
      obtain ⟨fv64, ft64, fm64⟩ := hRR 64 _ 118 rfl rfl (by kernel_rfl)
      replace fm64 : fv64 = Value.agg #[Value.int IntKind.i64 0, Value.int IntKind.i64 0, Value.string BX] := fm64
      subst fm64
      obtain ⟨fv59, ft59, fm59⟩ := hRR 59 _ 113 rfl rfl (by kernel_rfl)
      replace fm59 : fv59 = Value.bool true := fm59
      subst fm59
      replace hKK : ∀ v w', Go.RowKit.Below W.heap.size W w' → v = Value.agg #[Value.int IntKind.i64 3, Value.int IntKind.i64 5, Value.int IntKind.i64 0, Value.int IntKind.i64 0, Value.string BX] → KK (Act.put fa _ v) w' := fun v w' h1 h2 => hKK v w' h1 h2
      clear hSame hRR
      rw [wanted_guard rfl rfl rfl ft59]
      first | rw [if_pos (by rfl)] | rw [if_neg (by decide)]
      go_simp
      refine hKK _ _ ?_ ?_
      · first | exact Below.refl _ _ | exact (Below.refl _ _).alloc (Nat.le_refl _) _ | exact below_draw _ _ | assumption
      · exact rfl
    refine Obs.cons (k' := 67) rfl ?_ ?_
    · intro fa W hW hSame hRR KK hKK
      try dsimp only at hW
      obtain ⟨fv59, ft59, fm59⟩ := hRR 59 _ 113 rfl rfl (by kernel_rfl)
      replace fm59 : fv59 = Value.bool true := fm59
      subst fm59
      replace hKK : ∀ v w', Go.RowKit.Below W.heap.size W w' → v = Value.agg #[Value.int IntKind.i64 5, Value.int IntKind.i64 6] → KK (Act.put fa _ v) w' := fun v w' h1 h2 => hKK v w' h1 h2
      clear hSame hRR
      rw [wanted_guard rfl rfl rfl ft59]
      first | rw [if_pos (by rfl)] | rw [if_neg (by decide)]
      go_simp
      refine hKK _ _ ?_ ?_
      · first | exact Below.refl _ _ | exact (Below.refl _ _).alloc (Nat.le_refl _) _ | exact below_draw _ _ | assumption
      · exact rfl
    refine Obs.cons (k' := 68) rfl ?_ ?_
    · intro fa W hW hSame hRR KK hKK
      try dsimp only at hW
      obtain ⟨fv59, ft59, fm59⟩ := hRR 59 _ 113 rfl rfl (by kernel_rfl)
      replace fm59 : fv59 = Value.bool true := fm59
      subst fm59
      have fb2 := hSame.base 2 (by kernel_rfl)
      simp only [List.getElem?_toArray, List.getElem?_cons_succ, List.getElem?_cons_zero] at fb2
      replace hKK : ∀ v w', Go.RowKit.Below W.heap.size W w' → v = Value.agg #[Value.int IntKind.i64 0, Value.int IntKind.i64 0, Value.string BY] → KK (Act.put fa _ v) w' := fun v w' h1 h2 => hKK v w' h1 h2
      clear hSame hRR
      rw [wanted_guard rfl rfl rfl ft59]
      first | rw [if_pos (by rfl)] | rw [if_neg (by decide)]
      go_simp
      refine hKK _ _ ?_ ?_
      · first | exact Below.refl _ _ | exact (Below.refl _ _).alloc (Nat.le_refl _) _ | exact below_draw _ _ | assumption
      · exact rfl
    refine Obs.cons (k' := 69) rfl ?_ ?_
    · intro fa W hW hSame hRR KK hKK
      try dsimp only at hW
      obtain ⟨fv66, ft66, fm66⟩ := hRR 66 _ 120 rfl rfl (by kernel_rfl)
      replace fm66 : fv66 = Value.agg #[Value.int IntKind.i64 5, Value.int IntKind.i64 6] := fm66
      subst fm66
      obtain ⟨fv67, ft67, fm67⟩ := hRR 67 _ 121 rfl rfl (by kernel_rfl)
      replace fm67 : fv67 = Value.agg #[Value.int IntKind.i64 0, Value.int IntKind.i64 0, Value.string BY] := fm67
      subst fm67
      obtain ⟨fv59, ft59, fm59⟩ := hRR 59 _ 113 rfl rfl (by kernel_rfl)
      replace fm59 : fv59 = Value.bool true := fm59
      subst fm59
      replace hKK : ∀ v w', Go.RowKit.Below W.heap.size W w' → v = Value.agg #[Value.int IntKind.i64 5, Value.int IntKind.i64 6, Value.int IntKind.i64 0, Value.int IntKind.i64 0, Value.string BY] → KK (Act.put fa _ v) w' := fun v w' h1 h2 => hKK v w' h1 h2
      clear hSame hRR
      rw [wanted_guard rfl rfl rfl ft59]
      first | rw [if_pos (by rfl)] | rw [if_neg (by decide)]
      go_simp
      refine hKK _ _ ?_ ?_
      · first | exact Below.refl _ _ | exact (Below.refl _ _).alloc (Nat.le_refl _) _ | exact below_draw _ _ | assumption
      · exact rfl
    refine Obs.cons (k' := 70) rfl ?_ ?_
    · intro fa W hW hSame hRR KK hKK
      try dsimp only at hW
      obtain ⟨fv65, ft65, fm65⟩ := hRR 65 _ 119 rfl rfl (by kernel_rfl)
      replace fm65 : fv65 = Value.agg #[Value.int IntKind.i64 3, Value.int IntKind.i64 5, Value.int IntKind.i64 0, Value.int IntKind.i64 0, Value.string BX] := fm65
      subst fm65
      obtain ⟨fv68, ft68, fm68⟩ := hRR 68 _ 122 rfl rfl (by kernel_rfl)
      replace fm68 : fv68 = Value.agg #[Value.int IntKind.i64 5, Value.int IntKind.i64 6, Value.int IntKind.i64 0, Value.int IntKind.i64 0, Value.string BY] := fm68
      subst fm68
      obtain ⟨fv59, ft59, fm59⟩ := hRR 59 _ 113 rfl rfl (by kernel_rfl)
      replace fm59 : fv59 = Value.bool true := fm59
      subst fm59
      replace hKK : ∀ v w', Go.RowKit.Below W.heap.size W w' → (fun v W => ∃ u, v = Value.slice (some ⟨u, 0, none⟩) 2 2 ∧ InV W v [(3, 5, 0, 0, BX), (5, 6, 0, 0, BY)]) v w' → KK (Act.put fa _ v) w' := fun v w' h1 h2 => hKK v w' h1 h2
      clear hSame hRR
      rw [wanted_guard rfl rfl rfl ft59]
      first | rw [if_pos (by rfl)] | rw [if_neg (by decide)]
      go_simp
      refine hKK _ _ ?_ ?_
      · first | exact Below.refl _ _ | exact (Below.refl _ _).alloc (Nat.le_refl _) _ | exact below_draw _ _ | assumption
      · try dsimp only
        first | exact trivial | exact rfl | (first | exact ⟨_, rfl, inv_new [(0, 0, 0, 0, ⟨#[]⟩)] _ rfl⟩ | exact ⟨_, rfl, inv_new If.lm _ rfl⟩ | exact ⟨_, rfl, inv_new [(3, 5, 0, 0, BX), (5, 6, 0, 0, BY)] _ rfl⟩ | exact ⟨_, rfl, spv_new [(0, 9), (12, 15)] _ rfl⟩ | exact ⟨_, rfl, spv_new [(-1, 0), (9, 12)] _ rfl⟩ | exact ⟨u, rfl, hv⟩ | exact ⟨u, rfl, trivial⟩)
    refine Obs.cons (k' := 71) rfl ?_ ?_
    · intro fa W hW hSame hRR KK hKK
      try dsimp only at hW
      obtain ⟨fv62, ft62, fm62⟩ := hRR 62 _ 116 rfl rfl (by kernel_rfl)
      replace fm62 : (fun v W => ∃ u : Option Addr × Nat, v = Value.slice u.1 2 u.2 ∧ InV W (Value.slice u.1 2 u.2) [(3, 5, 0, 0, BX), (5, 6, 0, 0, BY)]) fv62 W := fm62
      try dsimp only at fm62
      first | subst fm62 | obtain ⟨_, rfl, fm62⟩ := fm62
      obtain ⟨fv69, ft69, fm69⟩ := hRR 69 _ 123 rfl rfl (by kernel_rfl)
      replace fm69 : (fun v W => ∃ u, v = Value.slice (some ⟨u, 0, none⟩) 2 2 ∧ InV W v [(3, 5, 0, 0, BX), (5, 6, 0, 0, BY)]) fv69 W := fm69
      try dsimp only at fm69
      first | subst fm69 | obtain ⟨_, rfl, fm69⟩ := fm69
      obtain ⟨fv59, ft59, fm59⟩ := hRR 59 _ 113 rfl rfl (by kernel_rfl)
      replace fm59 : fv59 = Value.bool true := fm59
      subst fm59
      replace hKK : ∀ v w', Go.RowKit.Below W.heap.size W w' → v = Value.bool true → KK (Act.put fa _ v) w' := fun v w' h1 h2 => hKK v w' h1 h2
      clear hSame hRR
      rw [wanted_guard rfl rfl rfl ft59]
      first | rw [if_pos (by rfl)] | rw [if_neg (by decide)]
      go_simp
      first
        | (go_at_call 25; first
            | ((with_reducible refine (S1.out _ hW.2.1).mono ?_); rintro e w' ⟨rfl, hb⟩)
            | ((with_reducible refine (S2.out _ hW.2.2.1).mono ?_); rintro e w' ⟨rfl, hb⟩)
            | ((with_reducible refine (S3.out _ (InV.nil _)).mono ?_); rintro e w' ⟨rfl, hb⟩)
            | ((with_reducible refine (S4.out _ _ fm12).mono ?_); rintro e w' ⟨rfl, hb⟩))
        | (go_at_call 20; first
            | ((with_reducible refine (E1.out _ _ hW.2.2.2.1 fm27).mono ?_); rintro e w' ⟨rfl, n, rfl⟩)
            | ((with_reducible refine (E2.out _ _ _ fm62 fm69).mono ?_); rintro e w' ⟨rfl, n, rfl⟩))
        | (go_at_call 27; first
            | ((with_reducible refine (F1.out _ _ _ fm44 fm47).mono ?_); rintro e w' ⟨rfl, jj, rfl⟩)
            | ((with_reducible refine (F2.out _ _ _ fm53 fm56).mono ?_); rintro e w' ⟨rfl, jj, rfl⟩))
        | (go_at_call 28; refine (patches39 _ _ hW.2.2.2.1).mono ?_; rintro e w' ⟨u, rfl, hv, hb⟩)
        | (go_at_call 30; refine (missing39 _ _ hW.2.2.2.1).mono ?_; rintro e w' ⟨u, rfl, hv, hb⟩)
        | (go_at_call 32; first
            | ((with_reducible refine (cut39 _ _ hW.2.2.2.1).mono ?_); rintro e w' ⟨u, rfl, hv, hb⟩)
            | ((with_reducible refine (cut39n _ _ hW.2.2.2.1).mono ?_); rintro e w' ⟨u, rfl, hb⟩))
      try dsimp only
      refine hKK _ _ ?_ ?_
      · first | exact Below.refl _ _ | exact (Below.refl _ _).alloc (Nat.le_refl _) _ | exact below_draw _ _ | assumption
      · exact rfl
    refine Obs.cons (k' := 72) rfl ?_ ?_
    · intro fa W hW hSame hRR KK hKK
      try dsimp only at hW
      obtain ⟨fv59, ft59, fm59⟩ := hRR 59 _ 113 rfl rfl (by kernel_rfl)
      replace fm59 : fv59 = Value.bool true := fm59
      subst fm59
      obtain ⟨fv70, ft70, fm70⟩ := hRR 70 _ 124 rfl rfl (by kernel_rfl)
      replace fm70 : fv70 = Value.bool true := fm70
      subst fm70
      replace hKK : ∀ v w', Go.RowKit.Below W.heap.size W w' → v = Value.bool true → KK (Act.put fa _ v) w' := fun v w' h1 h2 => hKK v w' h1 h2
      clear hSame hRR
      rw [if_pos (wanted_plain rfl)]
      go_simp
      refine hKK _ _ ?_ ?_
      · first | exact Below.refl _ _ | exact (Below.refl _ _).alloc (Nat.le_refl _) _ | exact below_draw _ _ | assumption
      · exact rfl
    refine Obs.cons (k' := 73) rfl ?_ ?_
    · intro fa W hW hSame hRR KK hKK
      try dsimp only at hW
      obtain ⟨fv71, ft71, fm71⟩ := hRR 71 _ 125 rfl rfl (by kernel_rfl)
      replace fm71 : fv71 = Value.bool true := fm71
      subst fm71
      replace hKK : ∀ v w', Go.RowKit.Below W.heap.size W w' → v = Value.bool true → KK (Act.put fa _ v) w' := fun v w' h1 h2 => hKK v w' h1 h2
      clear hSame hRR
      rw [if_pos (wanted_plain rfl)]
      go_simp
      refine hKK _ _ ?_ ?_
      · first | exact Below.refl _ _ | exact (Below.refl _ _).alloc (Nat.le_refl _) _ | exact below_draw _ _ | assumption
      · exact rfl
    refine Obs.cons (k' := 74) rfl ?_ ?_
    · intro fa W hW hSame hRR KK hKK
      try dsimp only at hW
      obtain ⟨fv72, ft72, fm72⟩ := hRR 72 _ 126 rfl rfl (by kernel_rfl)
      replace fm72 : fv72 = Value.bool true := fm72
      subst fm72
      have fb6 := hSame.base 6 (by kernel_rfl)
      simp only [List.getElem?_toArray, List.getElem?_cons_succ, List.getElem?_cons_zero] at fb6
      replace hKK : ∀ v w', Go.RowKit.Below W.heap.size W w' → v = Value.slice A5 3 c5 → KK (Act.put fa _ v) w' := fun v w' h1 h2 => hKK v w' h1 h2
      clear hSame hRR
      rw [wanted_guard rfl rfl rfl ft72]
      first | rw [if_pos (by rfl)] | rw [if_neg (by decide)]
      go_simp
      refine hKK _ _ ?_ ?_
      · first | exact Below.refl _ _ | exact (Below.refl _ _).alloc (Nat.le_refl _) _ | exact below_draw _ _ | assumption
      · exact rfl
    refine Obs.cons (k' := 75) rfl ?_ ?_
    · intro fa W hW hSame hRR KK hKK
      try dsimp only at hW
      obtain ⟨fv72, ft72, fm72⟩ := hRR 72 _ 126 rfl rfl (by kernel_rfl)
      replace fm72 : fv72 = Value.bool true := fm72
      subst fm72
      replace hKK : ∀ v w', Go.RowKit.Below W.heap.size W w' → v = Value.agg #[Value.int IntKind.i64 0, Value.int IntKind.i64 0] → KK (Act.put fa _ v) w' := fun v w' h1 h2 => hKK v w' h1 h2
      clear hSame hRR
      rw [wanted_guard rfl rfl rfl ft72]
      first | rw [if_pos (by rfl)] | rw [if_neg (by decide)]
      go_simp
      refine hKK _ _ ?_ ?_
      · first | exact Below.refl _ _ | exact (Below.refl _ _).alloc (Nat.le_refl _) _ | exact below_draw _ _ | assumption
      · exact rfl
    refine Obs.cons (k' := 76) rfl ?_ ?_
    · intro fa W hW hSame hRR KK hKK
      try dsimp only at hW
      obtain ⟨fv73, ft73, fm73⟩ := hRR 73 _ 127 rfl rfl (by kernel_rfl)
      replace fm73 : fv73 = Value.slice A5 3 c5 := fm73
      subst fm73
      obtain ⟨fv74, ft74, fm74⟩ := hRR 74 _ 128 rfl rfl (by kernel_rfl)
      replace fm74 : fv74 = Value.agg #[Value.int IntKind.i64 0, Value.int IntKind.i64 0] := fm74
      subst fm74
      obtain ⟨fv72, ft72, fm72⟩ := hRR 72 _ 126 rfl rfl (by kernel_rfl)
      replace fm72 : fv72 = Value.bool true := fm72
      subst fm72
      replace hKK : ∀ v w', Go.RowKit.Below W.heap.size W w' → (fun v W => ∃ u : Option Addr × Nat, v = Value.slice u.1 0 u.2 ∧ True) v w' → KK (Act.put fa _ v) w' := fun v w' h1 h2 => hKK v w' h1 h2
      clear hSame hRR
      rw [wanted_guard rfl rfl rfl ft72]
      first | rw [if_pos (by rfl)] | rw [if_neg (by decide)]
      go_simp
      first
        | (go_at_call 25; first
            | ((with_reducible refine (S1.out _ hW.2.1).mono ?_); rintro e w' ⟨rfl, hb⟩)
            | ((with_reducible refine (S2.out _ hW.2.2.1).mono ?_); rintro e w' ⟨rfl, hb⟩)
            | ((with_reducible refine (S3.out _ (InV.nil _)).mono ?_); rintro e w' ⟨rfl, hb⟩)
            | ((with_reducible refine (S4.out _ _ fm12).mono ?_); rintro e w' ⟨rfl, hb⟩))
        | (go_at_call 20; first
            | ((with_reducible refine (E1.out _ _ hW.2.2.2.1 fm27).mono ?_); rintro e w' ⟨rfl, n, rfl⟩)
            | ((with_reducible refine (E2.out _ _ _ fm62 fm69).mono ?_); rintro e w' ⟨rfl, n, rfl⟩))
        | (go_at_call 27; first
            | ((with_reducible refine (F1.out _ _ _ fm44 fm47).mono ?_); rintro e w' ⟨rfl, jj, rfl⟩)
            | ((with_reducible refine (F2.out _ _ _ fm53 fm56).mono ?_); rintro e w' ⟨rfl, jj, rfl⟩))
        | (go_at_call 28; refine (patches39 _ _ hW.2.2.2.1).mono ?_; rintro e w' ⟨u, rfl, hv, hb⟩)
        | (go_at_call 30; refine (missing39 _ _ hW.2.2.2.1).mono ?_; rintro e w' ⟨u, rfl, hv, hb⟩)
        | (go_at_call 32; first
            | ((with_reducible refine (cut39 _ _ hW.2.2.2.1).mono ?_); rintro e w' ⟨u, rfl, hv, hb⟩)
            | ((with_reducible refine (cut39n _ _ hW.2.2.2.1).mono ?_); rintro e w' ⟨u, rfl, hb⟩))
      try dsimp only
      refine hKK _ _ ?_ ?_
      · first | exact Below.refl _ _ | exact (Below.refl _ _).alloc (Nat.le_refl _) _ | exact below_draw _ _ | assumption
      · try dsimp only
        first | exact trivial | exact rfl | (first | exact ⟨_, rfl, inv_new [(0, 0, 0, 0, ⟨#[]⟩)] _ rfl⟩ | exact ⟨_, rfl, inv_new If.lm _ rfl⟩ | exact ⟨_, rfl, inv_new [(3, 5, 0, 0, BX), (5, 6, 0, 0, BY)] _ rfl⟩ | exact ⟨_, rfl, spv_new [(0, 9), (12, 15)] _ rfl⟩ | exact ⟨_, rfl, spv_new [(-1, 0), (9, 12)] _ rfl⟩ | exact ⟨u, rfl, hv⟩ | exact ⟨u, rfl, trivial⟩)
    refine Obs.cons (k' := 77) rfl ?_ ?_
    · intro fa W hW hSame hRR KK hKK
      try dsimp only at hW
      obtain ⟨fv75, ft75, fm75⟩ := hRR 75 _ 129 rfl rfl (by kernel_rfl)
      replace fm75 : (fun v W => ∃ u : Option Addr × Nat, v = Value.slice u.1 0 u.2 ∧ True) fv75 W := fm75
      try dsimp only at fm75
      first | subst fm75 | obtain ⟨_, rfl, fm75⟩ := fm75
      obtain ⟨fv72, ft72, fm72⟩ := hRR 72 _ 126 rfl rfl (by kernel_rfl)
      replace fm72 : fv72 = Value.bool true := fm72
      subst fm72
      replace hKK : ∀ v w', Go.RowKit.Below W.heap.size W w' → v = Value.int IntKind.i64 0 → KK (Act.put fa _ v) w' := fun v w' h1 h2 => hKK v w' h1 h2
      clear hSame hRR
      rw [wanted_guard rfl rfl rfl ft72]
      first | rw [if_pos (by rfl)] | rw [if_neg (by decide)]
      go_simp
      refine hKK _ _ ?_ ?_
      · first | exact Below.refl _ _ | exact (Below.refl _ _).alloc (Nat.le_refl _) _ | exact below_draw _ _ | assumption
      · exact rfl
    refine Obs.cons (k' := 78) rfl ?_ ?_
    · intro fa W hW hSame hRR KK hKK
      try dsimp only at hW
      obtain ⟨fv76, ft76, fm76⟩ := hRR 76 _ 130 rfl rfl (by kernel_rfl)
      replace fm76 : fv76 = Value.int IntKind.i64 0 := fm76
      subst fm76
      obtain ⟨fv72, ft72, fm72⟩ := hRR 72 _ 126 rfl rfl (by kernel_rfl)
      replace fm72 : fv72 = Value.bool true := fm72
      subst fm72
      replace hKK : ∀ v w', Go.RowKit.Below W.heap.size W w' → v = Value.bool true → KK (Act.put fa _ v) w' := fun v w' h1 h2 => hKK v w' h1 h2
      clear hSame hRR
      rw [wanted_guard rfl rfl rfl ft72]
      first | rw [if_pos (by rfl)] | rw [if_neg (by decide)]
      go_simp
      refine hKK _ _ ?_ ?_
      · first | exact Below.refl _ _ | exact (Below.refl _ _).alloc (Nat.le_refl _) _ | exact below_draw _ _ | assumption
      · exact rfl
    refine Obs.cons (k' := 79) rfl ?_ ?_
    · intro fa W hW hSame hRR KK hKK
      try dsimp only at hW
      obtain ⟨fv72, ft72, fm72⟩ := hRR 72 _ 126 rfl rfl (by kernel_rfl)
      replace fm72 : fv72 = Value.bool true := fm72
      subst fm72
      obtain ⟨fv77, ft77, fm77⟩ := hRR 77 _ 131 rfl rfl (by kernel_rfl)
      replace fm77 : fv77 = Value.bool true := fm77
      subst fm77
      replace hKK : ∀ v w', Go.RowKit.Below W.heap.size W w' → v = Value.bool true → KK (Act.put fa _ v) w' := fun v w' h1 h2 => hKK v w' h1 h2
      clear hSame hRR
      rw [if_pos (wanted_plain rfl)]
      go_simp
      refine hKK _ _ ?_ ?_
      · first | exact Below.refl _ _ | exact (Below.refl _ _).alloc (Nat.le_refl _) _ | exact below_draw _ _ | assumption
      · exact rfl
    refine Obs.cons (k' := 80) rfl ?_ ?_
    · intro fa W hW hSame hRR KK hKK
      try dsimp only at hW
      obtain ⟨fv78, ft78, fm78⟩ := hRR 78 _ 132 rfl rfl (by kernel_rfl)
      replace fm78 : fv78 = Value.bool true := fm78
      subst fm78
      replace hKK : ∀ v w', Go.RowKit.Below W.heap.size W w' → v = Value.bool true → KK (Act.put fa _ v) w' := fun v w' h1 h2 => hKK v w' h1 h2
      clear hSame hRR
      rw [if_pos (wanted_plain rfl)]
      go_simp
      refine hKK _ _ ?_ ?_
      · first | exact Below.refl _ _ | exact (Below.refl _ _).alloc (Nat.le_refl _) _ | exact below_draw _ _ | assumption
      · exact rfl
    exact Obs.nil
  case hlast =>
    intro fa W hW hSame hRR
    try dsimp only at hW
    obtain ⟨fv79, ft79, fm79⟩ := hRR 79 _ 0 rfl rfl
    replace fm79 : fv79 = Value.bool true := fm79
    subst fm79
    have hdf := hSame.defers
    obtain ⟨tm, df⟩ := fa
    dsimp only at hdf ft79
    subst hdf
    have BB := Lib.hid hW.1
    clear hSame hRR hW
    go_wp2_with fail
    refine bodyPost_ret (v := .bool true) ?_ rfl ⟨rfl, BB.out⟩
    rw [results_tmp rfl]
    simp [Array.getD_eq_getD_getElem?, ft79]
end Go.Proofs.Ytmnmmbeageddkaa

