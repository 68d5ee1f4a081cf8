/- The answers that noontidelaw11.lives asks for: it is true. -/
import Derived.Test.YtnfjdjfajkdiiaaSsE
import Derived.Test.YtnfjdjfajkdiiaaSsF
import Derived.Test.YtnfjdjfajkdiiaaSsG
import Derived.Test.YtnfjdjfajkdiiaaSpS
set_option linter.unusedVariables false
set_option linter.unusedSimpArgs false
namespace Go.Proofs.Ytnfjdjfajkdiiaa
open Go.RowKit Go.Sort Go.Shelf

theorem spv_new {w : World} (l : List Ss.S) (cs : Array Value) (h : cs = (spc l).toArray) : SpV (w.alloc (.cells cs 24)) (.slice (some ⟨w.heap.size, 0, none⟩) l.length l.length) l := by
  refine ⟨_, _, rfl, fun _ => ⟨_, rfl, by simp, ?_⟩⟩
  intro j u hu
  have k := Blk.new w 24 cs
  rw [add_off]
  subst h
  have : (w.alloc (.cells (spc l).toArray 24)).heap[w.heap.size]? = _ := k
  unfold World.cell?
  rw [this]
  simpa using hu
theorem spv_len {w : World} {v : Value} {l : List Ss.S} {n : Nat} (h : SpV w v l) (hn : l.length = n) : ∃ u : Option Addr × Nat, v = .slice u.1 n u.2 := by
  obtain ⟨A, c, hv, -⟩ := h
  exact ⟨(A, c), by rw [← hn]; exact hv⟩
set_option maxRecDepth 100000 in
set_option maxHeartbeats 8000000 in
theorem lives11_any (w : World) : Calls Try.prog 7 #[] w fun e w' => e = .returned (.bool true) ∧ Below w.heap.size w w' := by
  have b0 : Below w.heap.size w (w.alloc (.cells #[.int .i64 3, .int .i64 5, .int .i64 0, .int .i64 3, .int .i64 9, .int .i64 8] 24)) := (Below.refl _ _).alloc (Nat.le_refl _) _
  have B0 := Lib.hid b0
  clear b0
  have C1 := Lib.hid (spans_of _ [(3, 5), (0, 3), (9, 8)] _ (spv_new (w := w) [(3, 5), (0, 3), (9, 8)] #[.int .i64 3, .int .i64 5, .int .i64 0, .int .i64 3, .int .i64 9, .int .i64 8] rfl) (by decide))
  go_enter Try.func7, Try.ntmps7
  go_wp2_with fail
  refine C1.out.mono ?_
  rintro e w1 ⟨v1, l1, rfl, h1, h2, h3, -, b1⟩
  obtain rfl : l1 = [(0, 5)] := Ss.rs_lit h2 (by decide) (fun t => by rw [h3 t, Bool.eq_iff_iff]; simp [Ss.inl, Sp.hs]; omega)
  obtain ⟨⟨A1, c1⟩, rfl⟩ := spv_len (n := 1) h1 rfl
  have S1 := Lib.hid h1
  have B1 := Lib.hid (below_step B0.out b1)
  clear h1 h2 h3 b1 B0 C1
  have C2 := Lib.hid (find_any _ [(0, 5)] 4 w1 S1.out (by decide))
  go_wp2_with fail
  refine C2.out.mono ?_
  rintro e w2 ⟨l2, h1, h2, rfl, b2⟩
  obtain rfl : l2 = [(0, 5)] := Ss.rs_lit h1 (by decide) h2
  rw [show Ss.fd 4 [(0, 5)] = (0, 5, true) by decide]
  have S2 := Lib.hid (S1.out.on b2)
  have B2 := Lib.hid (below_step B1.out b2)
  clear h1 h2 b2 S1 B1 C2
  go_wp2_with fail
  have bb : Below w2.heap.size w2 (w2.alloc (.cells #[.int .i64 0, .int .i64 5] 24)) := (Below.refl _ _).alloc (Nat.le_refl _) _
  have K2 := Lib.hid (Blk.new w2 24 #[.int .i64 0, .int .i64 5])
  have B2' := Lib.hid (below_step B2.out bb)
  refine (find_any _ [(0, 5)] 5 _ (S2.out.on bb) (by decide)).mono ?_
  rintro e w3 ⟨l3, h1, h2, rfl, b3⟩
  obtain rfl : l3 = [(0, 5)] := Ss.rs_lit h1 (by decide) h2
  rw [show Ss.fd 5 [(0, 5)] = (0, 0, false) by decide]
  have S3 := Lib.hid ((S2.out.on bb).on b3)
  have K3 := Lib.hid (K2.out.on b3)
  have B3 := Lib.hid (below_step B2'.out b3)
  clear h1 h2 b3 bb S2 K2 B2 B2'
  generalize w2.heap.size = eb at *
  go_wp2_with fail
  have bb : Below w3.heap.size w3 (w3.alloc (.cells #[.int .i64 0, .int .i64 0] 24)) := (Below.refl _ _).alloc (Nat.le_refl _) _
  refine (total_any _ [(0, 5)] _ (S3.out.on bb) (by decide) (fun s hs => by rw [List.mem_singleton.1 hs]; decide)).mono ?_
  rintro e w4 ⟨l4, h1, h2, rfl, b4⟩
  obtain rfl : l4 = [(0, 5)] := Ss.rs_lit h1 (by decide) h2
  rw [show Ss.tot 0 [(0, 5)] = (5, 0) by decide]
  have S4 := Lib.hid ((S3.out.on bb).on b4)
  have K4 := Lib.hid ((K3.out.on bb).on b4)
  have B4 := Lib.hid (below_step (below_step B3.out bb) b4)
  clear h1 h2 b4 bb S3 K3 B3
  generalize w3.heap.size = eb3 at *
  go_wp2_with fail
  have bb : Below w4.heap.size w4 (w4.alloc (.cells #[.int .i64 (-9223372036854775808), .int .i64 0, .int .i64 1, .int .i64 9223372036854775807] 24)) := (Below.refl _ _).alloc (Nat.le_refl _) _
  refine (total_any _ [(-9223372036854775808, 0), (1, 9223372036854775807)] _ (spv_new [(-9223372036854775808, 0), (1, 9223372036854775807)] _ rfl) (by decide) (fun s hs => by simp at hs; rcases hs with rfl | rfl <;> decide)).mono ?_
  rintro e w5 ⟨l5, h1, h2, rfl, b5⟩
  obtain rfl : l5 = [(-9223372036854775808, 0), (1, 9223372036854775807)] := Ss.rs_lit h1 (by decide) h2
  rw [show Ss.tot 0 [(-9223372036854775808, 0), (1, 9223372036854775807)] = (0, 1) by decide]
  have S5 := Lib.hid ((S4.out.on bb).on b5)
  have K5 := Lib.hid ((K4.out.on bb).on b5)
  have B5 := Lib.hid (below_step (below_step B4.out bb) b5)
  clear h1 h2 b5 bb S4 K4 B4
  have c0 := K5.out.c0; have c1 := K5.out.c1
  obtain ⟨g, hg⟩ : ∃ g, w5.heap.size = g := ⟨_, rfl⟩
  have d1 : Below w5.heap.size w5 (w5.alloc (.cells #[.int .i64 0, .int .i64 9] 24)) := (Below.refl _ _).alloc (Nat.le_refl _) _
  have A1' := spv_new (w := w5) [(0, 9)] #[.int .i64 0, .int .i64 9] rfl
  have a1' := Blk.new w5 24 #[.int .i64 0, .int .i64 9]
  have z1 : (w5.alloc (.cells #[.int .i64 0, .int .i64 9] 24)).heap.size = g + 1 := by simp [hg]
  rw [hg] at A1' a1'
  have l1 := S5.out.on d1
  have k1 := K5.out.on d1
  have b1 := below_step B5.out d1
  go_wp2_with fail
  generalize w5.alloc (.cells #[.int .i64 0, .int .i64 9] 24) = u1 at *
  have d2 : Below u1.heap.size u1 (u1.alloc (.cells #[.int .i64 2, .int .i64 4, .int .i64 8, .int .i64 12] 24)) := (Below.refl _ _).alloc (Nat.le_refl _) _
  have A2 := A1'.on d2
  have a2 := a1'.on d2
  have B2 := spv_new (w := u1) [(2, 4), (8, 12)] #[.int .i64 2, .int .i64 4, .int .i64 8, .int .i64 12] rfl
  rw [z1] at B2
  have l2 := l1.on d2
  have k2 := k1.on d2
  have b2 := below_step b1 d2
  have z2 : (u1.alloc (.cells #[.int .i64 2, .int .i64 4, .int .i64 8, .int .i64 12] 24)).heap.size = g + 1 + 1 := by simp [z1]
  generalize u1.alloc (.cells #[.int .i64 2, .int .i64 4, .int .i64 8, .int .i64 12] 24) = u2 at *
  have d3 : Below u2.heap.size u2 (u2.alloc (.cells #[.int .i64 0, .int .i64 5] 24)) := (Below.refl _ _).alloc (Nat.le_refl _) _
  have A3 := A2.on d3
  have a3 := a2.on d3
  have B3 := B2.on d3
  have E3 := spv_new (w := u2) [(0, 5)] #[.int .i64 0, .int .i64 5] rfl
  rw [z2] at E3
  have l3 := l2.on d3
  have k3 := k2.on d3
  have b3 := below_step b2 d3
  clear d1 d2 d3 A1' a1' z1 z2 l1 k1 b1 A2 a2 B2 l2 k2 b2 S5 K5 B5 c0 c1
  generalize u2.alloc (.cells #[.int .i64 0, .int .i64 5] 24) = u3 at *
  refine (same_yes _ _ [(0, 5)] _ l3 E3 (by decide)).mono ?_
  rintro e w6 ⟨rfl, n6, rfl⟩
  have bd : Below u3.heap.size u3 (u3.drewN n6) := below_draw u3 n6
  have A6 := Lib.hid (A3.on bd); have X6 := Lib.hid (a3.on bd); have Y6 := Lib.hid (B3.on bd); have K6 := Lib.hid (k3.on bd); have B6 := Lib.hid (below_step b3 bd)
  clear A3 a3 B3 E3 l3 k3 b3 bd
  generalize u3.drewN n6 = w6 at *
  have c0 := K6.out.c0; have c1 := K6.out.c1
  go_wp2_with fail
  refine (spans_or _ _ [(0, 9)] [(2, 4), (8, 12)] _ A6.out Y6.out (by decide) (by decide)).mono ?_
  rintro e w7 ⟨v7, l7, rfl, h1, h2, h3, -, b⟩
  obtain rfl : l7 = [(0, 12)] := Ss.rs_lit h2 (by decide) (fun t => by rw [h3 t, Bool.eq_iff_iff]; simp [Ss.inl, Sp.hs]; omega)
  obtain ⟨⟨E7, f7⟩, rfl⟩ := spv_len (n := 1) h1 rfl
  have A7 := Lib.hid (A6.out.on b); have X7 := Lib.hid (X6.out.on b); have Y7 := Lib.hid (Y6.out.on b); have B7 := Lib.hid (below_step B6.out b); have L7 := Lib.hid h1
  clear h1 h2 h3 b A6 X6 Y6 B6
  have c0 := X7.out.c0; have c1 := X7.out.c1
  go_wp2_with fail
  have d : Below w7.heap.size w7 (w7.alloc (.cells #[.int .i64 0, .int .i64 12] 24)) := (Below.refl _ _).alloc (Nat.le_refl _) _
  refine (same_yes _ _ [(0, 12)] _ (L7.out.on d) (spv_new [(0, 12)] _ rfl) (by decide)).mono ?_
  rintro e w8 ⟨rfl, n8, rfl⟩
  have d2 := d.trans ((below_draw (w7.alloc (.cells #[.int .i64 0, .int .i64 12] 24)) n8 : Below w7.heap.size _ _))
  have A8 := Lib.hid (A7.out.on d2); have X8 := Lib.hid (X7.out.on d2); have Y8 := Lib.hid (Y7.out.on d2); have B8 := Lib.hid (below_step B7.out d2)
  clear d d2 A7 X7 Y7 B7 L7 c0 c1
  generalize World.drewN _ n8 = w8 at *
  have c0 := X8.out.c0; have c1 := X8.out.c1
  go_wp2_with fail
  refine (spans_and _ _ [(0, 9)] [(2, 4), (8, 12)] _ A8.out Y8.out (by decide) (by decide)).mono ?_
  rintro e w9 ⟨v9, l9, rfl, h1, h2, h3, -, b⟩
  obtain rfl : l9 = [(2, 4), (8, 9)] := Ss.rs_lit h2 (by decide) (fun t => by rw [h3 t, Bool.eq_iff_iff]; simp [Ss.inl, Sp.hs]; omega)
  obtain ⟨⟨E9, f9⟩, rfl⟩ := spv_len (n := 2) h1 rfl
  have A9 := Lib.hid (A8.out.on b); have X9 := Lib.hid (X8.out.on b); have Y9 := Lib.hid (Y8.out.on b); have B9 := Lib.hid (below_step B8.out b); have L9 := Lib.hid h1
  clear h1 h2 h3 b A8 X8 Y8 B8
  have c0 := X9.out.c0; have c1 := X9.out.c1
  go_wp2_with fail
  have d : Below w9.heap.size w9 (w9.alloc (.cells #[.int .i64 2, .int .i64 4, .int .i64 8, .int .i64 9] 24)) := (Below.refl _ _).alloc (Nat.le_refl _) _
  refine (same_yes _ _ [(2, 4), (8, 9)] _ (L9.out.on d) (spv_new [(2, 4), (8, 9)] _ rfl) (by decide)).mono ?_
  rintro e w10 ⟨rfl, n10, rfl⟩
  have d2 := d.trans ((below_draw (w9.alloc (.cells #[.int .i64 2, .int .i64 4, .int .i64 8, .int .i64 9] 24)) n10 : Below w9.heap.size _ _))
  have A10 := Lib.hid (A9.out.on d2); have X10 := Lib.hid (X9.out.on d2); have Y10 := Lib.hid (Y9.out.on d2); have B10 := Lib.hid (below_step B9.out d2)
  clear d d2 A9 X9 Y9 B9 L9 c0 c1
  generalize World.drewN _ n10 = w10 at *
  have c0 := X10.out.c0; have c1 := X10.out.c1
  go_wp2_with fail
  refine (spans_less _ _ [(0, 9)] [(2, 4), (8, 12)] _ A10.out Y10.out (by decide) (by decide)).mono ?_
  rintro e w11 ⟨v11, l11, rfl, h1, h2, h3, -, b⟩
  obtain rfl : l11 = [(0, 2), (4, 8)] := Ss.rs_lit h2 (by decide) (fun t => by rw [h3 t, Bool.eq_iff_iff]; simp [Ss.inl, Sp.hs]; omega)
  obtain ⟨⟨E11, f11⟩, rfl⟩ := spv_len (n := 2) h1 rfl
  have A11 := Lib.hid (A10.out.on b); have X11 := Lib.hid (X10.out.on b); have Y11 := Lib.hid (Y10.out.on b); have B11 := Lib.hid (below_step B10.out b); have L11 := Lib.hid h1
  clear h1 h2 h3 b A10 X10 Y10 B10
  have c0 := X11.out.c0; have c1 := X11.out.c1
  go_wp2_with fail
  have d : Below w11.heap.size w11 (w11.alloc (.cells #[.int .i64 0, .int .i64 2, .int .i64 4, .int .i64 8] 24)) := (Below.refl _ _).alloc (Nat.le_refl _) _
  refine (same_yes _ _ [(0, 2), (4, 8)] _ (L11.out.on d) (spv_new [(0, 2), (4, 8)] _ rfl) (by decide)).mono ?_
  rintro e w12 ⟨rfl, n12, rfl⟩
  have d2 := d.trans ((below_draw (w11.alloc (.cells #[.int .i64 0, .int .i64 2, .int .i64 4, .int .i64 8] 24)) n12 : Below w11.heap.size _ _))
  have A12 := Lib.hid (A11.out.on d2); have X12 := Lib.hid (X11.out.on d2); have Y12 := Lib.hid (Y11.out.on d2); have B12 := Lib.hid (below_step B11.out d2)
  clear d d2 A11 X11 Y11 B11 L11 c0 c1
  generalize World.drewN _ n12 = w12 at *
  have c0 := X12.out.c0; have c1 := X12.out.c1
  go_wp2_with fail
  refine (spans_gaps _ [(2, 4), (8, 12)] 0 9 _ Y12.out (by decide)).mono ?_
  rintro e w13 ⟨v13, l13, rfl, h1, h2, h3, -, b⟩
  obtain rfl : l13 = [(0, 2), (4, 8)] := Ss.rs_lit h2 (by decide) (fun t => by rw [h3 t, Bool.eq_iff_iff]; simp [Ss.inl, Sp.hs]; omega)
  obtain ⟨⟨E13, f13⟩, rfl⟩ := spv_len (n := 2) h1 rfl
  have A13 := Lib.hid (A12.out.on b); have X13 := Lib.hid (X12.out.on b); have Y13 := Lib.hid (Y12.out.on b); have B13 := Lib.hid (below_step B12.out b); have L13 := Lib.hid h1
  clear h1 h2 h3 b A12 X12 Y12 B12
  have c0 := X13.out.c0; have c1 := X13.out.c1
  go_wp2_with fail
  have d : Below w13.heap.size w13 (w13.alloc (.cells #[.int .i64 0, .int .i64 2, .int .i64 4, .int .i64 8] 24)) := (Below.refl _ _).alloc (Nat.le_refl _) _
  refine (same_yes _ _ [(0, 2), (4, 8)] _ (L13.out.on d) (spv_new [(0, 2), (4, 8)] _ rfl) (by decide)).mono ?_
  rintro e w14 ⟨rfl, n14, rfl⟩
  have d2 := d.trans ((below_draw (w13.alloc (.cells #[.int .i64 0, .int .i64 2, .int .i64 4, .int .i64 8] 24)) n14 : Below w13.heap.size _ _))
  have A14 := Lib.hid (A13.out.on d2); have X14 := Lib.hid (X13.out.on d2); have Y14 := Lib.hid (Y13.out.on d2); have B14 := Lib.hid (below_step B13.out d2)
  clear d d2 A13 X13 Y13 B13 L13 c0 c1
  generalize World.drewN _ n14 = w14 at *
  have c0 := X14.out.c0; have c1 := X14.out.c1
  go_wp2_with fail
  refine (spans_gaps _ [(2, 4), (8, 12)] 0 0 _ Y14.out (by decide)).mono ?_
  rintro e w15 ⟨v15, l15, rfl, h1, h2, h3, -, b⟩
  obtain rfl : l15 = [] := Ss.rs_lit h2 rfl (fun t => by rw [h3 t, Bool.eq_iff_iff]; simp [Ss.inl, Sp.hs]; omega)
  obtain ⟨⟨E15, f15⟩, rfl⟩ := spv_len (n := 0) h1 rfl
  have Y15 := Lib.hid (Y14.out.on b); have B15 := Lib.hid (below_step B14.out b)
  clear h1 h2 h3 b A14 X14 Y14 B14 c0 c1
  go_wp2_with fail
  refine (spans_rset _ [(2, 4), (8, 12)] _ Y15.out (by decide)).mono ?_
  rintro e w16 ⟨rfl, b⟩
  rw [show Ss.rr none [(2, 4), (8, 12)] = true by decide]
  have B16 := Lib.hid (below_step B15.out b)
  clear b Y15 B15
  go_wp2_with fail
  have d : Below w16.heap.size w16 (w16.alloc (.cells #[.int .i64 0, .int .i64 2, .int .i64 2, .int .i64 3] 24)) := (Below.refl _ _).alloc (Nat.le_refl _) _
  refine (spans_rset _ [(0, 2), (2, 3)] _ (spv_new [(0, 2), (2, 3)] _ rfl) (by decide)).mono ?_
  rintro e w17 ⟨rfl, b⟩
  rw [show Ss.rr none [(0, 2), (2, 3)] = false by decide]
  have B17 := Lib.hid (below_step (below_step B16.out d) b)
  clear b d B16
  go_wp2_with fail
  have d : Below w17.heap.size w17 (w17.alloc (.cells #[.int .i64 0, .int .i64 0] 24)) := (Below.refl _ _).alloc (Nat.le_refl _) _
  refine (spans_rset _ [(0, 0)] _ (spv_new [(0, 0)] _ rfl) (by decide)).mono ?_
  rintro e w18 ⟨rfl, b⟩
  rw [show Ss.rr none [(0, 0)] = false by decide]
  have B18 := Lib.hid (below_step (below_step B17.out d) b)
  clear b d B17
  go_wp2_with fail
  refine (spans_rset (.slice none 0 0) [] _ (Lst.nil _ _) (by decide)).mono ?_
  rintro e w19 ⟨rfl, b⟩
  have B19 := Lib.hid (below_step B18.out b)
  clear b B18
  go_wp2
  go_ret
  exact ⟨rfl, B19.out⟩
end Go.Proofs.Ytnfjdjfajkdiiaa
