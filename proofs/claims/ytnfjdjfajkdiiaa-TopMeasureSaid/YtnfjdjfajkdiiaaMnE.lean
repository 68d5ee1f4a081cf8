/- Parts: the contract of the program's Mean. -/
import Derived.Test.YtnfjdjfajkdiiaaMnE01
set_option linter.unusedVariables false
set_option linter.unusedSimpArgs false
namespace Go.Proofs.Ytnfjdjfajkdiiaa
open Go.RowKit Go.Sort Go.Shelf
open Go.AllReadyIn renaming cons → arc, nil → arn
open Go renaming wpAnyIn_ready → rdy

attribute [local go_sem] Oper.semAt_some

set_option maxRecDepth 100000 in
set_option maxHeartbeats 100000000 in
theorem mmean_any (v : Value) (l : List Mn.P) (s0 s1 : Int) (w : World) (h : PtV w v l) (hm : l.length ≤ 1000000) :
    Calls Try.prog 28 #[v, .agg #[.int .i64 s0, .int .i64 s1]] w (AnsF2 (if Mn.rt none l then Mn.mean s0 s1 l else 0) (if Mn.rt none l then 0 else 4) w) := by
  have H := Lib.hid h
  obtain ⟨A, c, rfl, -⟩ := h
  obtain ⟨n, hn⟩ : ∃ n, l.length = n := ⟨_, rfl⟩
  rw [hn] at hm H ⊢
  have HN := Lib.hid hn
  clear hn
  obtain ⟨i0, hi, hz0, hz1, hz2⟩ := info_parts info_f64
  have b0 : Below w.heap.size w (w.alloc (.cells #[.int .i64 s0, .int .i64 s1] 24)) := (Below.refl _ _).alloc (Nat.le_refl _) _
  have C := Lib.hid (mtotal_any (.slice A n c) l s0 s1 _ (H.out.on b0) (by rw [HN.out]; exact hm))
  cases hr : Mn.rt none l
  · rw [hr] at C
    clear hr
    simp only [Bool.false_eq_true, if_false] at C ⊢
    go_enter Try.func28, Try.ntmps28
    go_wp2_with fail
    refine C.out.mono ?_
    rintro e w2 ⟨z, hz, rfl, b1⟩
    go_wp2
    go_ret2
    exact ⟨0, Fl.Eqv.refl (by decide), rfl, below_step b0 b1⟩
  · rw [hr] at C
    have HR := Lib.hid hr
    clear hr
    simp only [if_true] at C ⊢
    refine (callsIn_wide (n := 6)).1 ?_
    refine callsIn_of_wp_marks Try.func28 rfl trivial ?_ rfl
    simp only [Try.ntmps28, List.size_toArray, List.length_cons, List.length_nil, Nat.reduceAdd, Nat.reduceSub, Array.replicate_succ, Array.replicate_zero, List.push_toArray, List.append_toArray, List.nil_append, List.cons_append]
    gi_wp2_with fail
    refine ⟨trivial, (callsIn_wide.2 C.out).mono ?_⟩
    rintro e w2 ⟨tt, htt, rfl, b1⟩
    have HTT := Lib.hid htt
    clear htt C
    have S0 := ((Blk.new w 24 #[.int .i64 s0, .int .i64 s1]).on b1).alloc (.cells #[.slice none 0 0] 53)
    have c0 := S0.c0
    have c1 := S0.c1
    have B1 : Below w.heap.size w w2 := below_step b0 b1
    gi_wp2_with fail
    refine ⟨trivial, (counting_any _ _ _ _ _ _ _).mono ?_⟩
    rintro e w3 ⟨rfl, rfl⟩
    gi_wp2_with fail
    obtain ⟨W0, hW0⟩ : ∃ W0, ((w2.alloc (.cells #[.slice none 0 0] 53)).alloc (.cells #[.slice A n c] 40)).alloc (.cells #[.int .i64 s0, .int .i64 s1] 24) = W0 := ⟨_, rfl⟩
    have bL : Boxed W0 w2.heap.size 53 (.slice none 0 0) := by rw [← hW0]; exact ((Boxed.new w2 53 (.slice none 0 0)).alloc _).alloc _
    have kl : Blk W0 (w2.heap.size + 1) 40 #[.slice A n c] := by rw [← hW0]; exact (Blk.newAt _ _ (by simp)).alloc _
    have ks : Blk W0 (w2.heap.size + 1 + 1) 24 #[.int .i64 s0, .int .i64 s1] := by rw [← hW0]; exact Blk.newAt _ _ (by simp)
    have hz : W0.heap.size = w2.heap.size + 3 := by rw [← hW0]; simp
    have B0 : Below w2.heap.size w2 W0 := by rw [← hW0]; exact (((Below.refl _ w2).alloc (Nat.le_refl _) _).alloc (by simp) _).alloc (by simp; omega) _
    rw [hW0]
    clear hW0 S0 c0 c1
    have hLn : Lst W0 w2.heap.size (.slice A n c) n (Mn.ptc l) := by
      have := ((H.out.on B1).below B0)
      rwa [HN.out] at this
    refine wpIn_rangeFunc_ownH rfl (by omega) (gf := 53) (lb := #[.pointer (some ⟨w2.heap.size + 1, 0, none⟩), .pointer (some ⟨w2.heap.size + 1 + 1, 0, none⟩)]) rfl trivial (enters_of Try.func53 (by kernel_rfl) rfl)
      (counting_stops (6 - 1) (by omega) (w2.heap.size + 1) (w2.heap.size + 1 + 1) w2.heap.size A n c l s0 s1 HN.out.symm hm W0 (by omega) (by omega) (by omega) kl.c0 ks.c0 ks.c1 hLn) KpC.trans (KpC.putObj (by omega) (by omega)) (Below.refl _ _) (fun _ => rfl)
      (fun pre W => ((∃ rs, Fl.EqvL rs (Mn.prods pre) ∧ ∃ v, Boxed W w2.heap.size 53 v ∧ W.ownsRow w2.heap.size 43 1 v pre.length (flc rs) ∧ True) ∧ Blk W (w2.heap.size + 1 + 1) 24 #[.int .i64 s0, .int .i64 s1]) ∧ Below w2.heap.size w2 W)
      (fun _ _ _ => False)
      (OwnFrom.and (OwnFrom.and (Own.from (fun pre X Y row hs hg hr => by obtain ⟨rs, h1, h2⟩ := hs; exact ⟨rs, h1, holdsRow_own w2.heap.size w2.heap.size 53 43 1 (fun _ : Unit => pre.length) (fun _ => flc rs) (fun _ _ => True) () X Y row h2 hg hr⟩) _) (Own.from (blk_own _ _ _) _)) (ownFrom_below (Nat.le_refl _) (by omega)))
      (fun _ _ _ _ _ hs _ _ => hs)
      ⟨⟨⟨[], trivial, _, bL, World.ownsRow_nil _ _ _ _, trivial⟩, ks⟩, B0⟩
      (fun x a' W => ∃ Bx, w2.heap.size + 2 < Bx ∧ Blk W Bx 42 #[.int .i64 x.1, .int .i64 x.2.1, .int .i64 x.2.2] ∧ a' = { tmps := #[.slice A n c, .agg #[.int .i64 s0, .int .i64 s1], undef, .pointer (some ⟨w.heap.size, 0, none⟩), .float .f64 0, .int .i64 0, .float .f64 tt, .int .i64 0, .pointer (some ⟨w2.heap.size, 0, none⟩), .pointer (some ⟨Bx, 0, none⟩), .tuple #[.float .f64 tt, .int .i64 0], .slice A n c, .agg #[.int .i64 s0, .int .i64 s1], .tuple #[.float .f64 tt, .int .i64 0], .float .f64 tt, .int .i64 0, .int .i64 0, .bool false, undef, .slice A n c, .agg #[.int .i64 s0, .int .i64 s1], .func (.func 53) #[] #[.pointer (some ⟨w2.heap.size + 1, 0, none⟩), .pointer (some ⟨w2.heap.size + 1 + 1, 0, none⟩)], .agg #[.int .i64 x.1, .int .i64 x.2.1, .int .i64 x.2.2], undef, undef, undef, undef, undef, undef, undef, undef, undef, undef, undef, undef, undef, undef], defers := [] })
      (fun x a' _ X Y row hs hg hr => by obtain ⟨Bx, h1, h2, h3⟩ := hs; exact ⟨Bx, h1, blk_own Bx 42 (fun (_ : Unit) => #[Value.int .i64 x.1, Value.int .i64 x.2.1, Value.int .i64 x.2.2]) () X Y row h2 hg (fun r e => (hr r e).2), h3⟩)
      ?assign ?body ?done ?stop
    case assign =>
      rintro l' pre x W K ⟨⟨⟨rs, hrs, v, bv, hrow, -⟩, kS⟩, hB⟩ hK
      gi_wp2
      have hkl := kS.lt
      exact hK _ _ ((KeepsOthers.alloc _ _).from _) (KpC.of hB.size hkl ((Below.refl _ _).alloc (Nat.le_refl _) _)) ⟨⟨⟨rs, hrs, v, bv.alloc _, hrow.alloc _, trivial⟩, kS.alloc _⟩, hB.alloc hB.size _⟩ ⟨W.heap.size, hkl, Blk.new W _ _, rfl⟩
    case body =>
      rintro l' pre x a' W hl ⟨r, hr⟩ ⟨⟨⟨rs, hrs, v, bv, hrow, -⟩, kS⟩, hB⟩ ⟨Bx, hBx, bX, rfl⟩ hlt
      have x0 := bX.c0
      have x1 := bX.c1
      have x2 := bX.c2
      have cv := bv.cell
      have hmx : Try.prog.follows .mixedOrders = true := by kernel_rfl
      gi_wp2
      refine wpIn_region_any (by assumption) ?_
      try (change wpAnyIn _ _ _ _ _ _ _ _ _ (World.drew _))
      refine rdy (rs := [0, 1, 4]) (by kernel_rfl) (by simp) ?_
      refine arc rfl (fun K hK => ?_) ?_
      ·go_simp
       apply hK; clear hK K
       refine rdy (rs := [1, 4]) (by kernel_rfl) (by simp) ?_
       refine arc rfl (fun K hK => ?_) ?_
       ·go_simp
        apply hK; clear hK K
        refine rdy (rs := [2, 4]) (by kernel_rfl) (by simp) ?_
        refine arc rfl (fun K hK => ?_) ?_
        ·go_simp
         apply hK; clear hK K
         refine rdy (rs := [3, 4]) (by kernel_rfl) (by simp) ?_
         refine arc rfl (fun K hK => ?_) ?_
         ·go_simp; refine ⟨trivial, (CallsIn.inRound l' (callsIn_wide.2 (real_of x.2.2 _))).mono ?_⟩; rintro e w' ⟨rfl, rfl⟩; dsimp only
          apply hK; clear hK K
          refine rdy (rs := [4]) (by kernel_rfl) (by simp) ?_
          refine arc rfl (fun K hK => ?_) ?_
          ·go_simp
           apply hK; clear hK K
           refine rdy (rs := [5]) (by kernel_rfl) (by simp) ?_
           refine arc rfl (fun K hK => ?_) ?_
           ·go_simp
            apply hK; clear hK K
            refine rdy (rs := [6]) (by kernel_rfl) (by simp) ?_
            refine arc rfl (fun K hK => ?_) ?_
            ·go_simp; refine ⟨trivial, (CallsIn.inRound l' (callsIn_wide.2 (long_mean.length x.1 x.2.1 _))).mono ?_⟩; rintro e w3 ⟨rfl, b3⟩; have D3 : Below W.heap.size W w3 := ((Below.refl W.heap.size W).drew).trans b3; obtain ⟨r', n1, hr', r1⟩ := Fl.fop_run Try.prog .mul (.inr (.inr (.inl rfl))) 43 (FloatKind.f64.nearest x.2.2) (FloatKind.f64.nearest (Mn.wl x.1 x.2.1)) w3; have D5 : Below W.heap.size W (w3.drewN n1) := D3.trans (below_draw w3 n1); have cv3 := (boxed_on bv D3).cell; have bv5 := boxed_on bv D5; have hrow5 := own_on hrow D5; have cv5 := bv5.cell; have kS5 := kS.on D5; have cv5a := (bv5.alloc (.cells #[.float .f64 r'] 43)).cell; dsimp only
             apply hK; clear hK K
             refine rdy (rs := [7]) (by kernel_rfl) (by simp) ?_
             refine arc rfl (fun K hK => ?_) ?_
             ·go_simp
              apply hK; clear hK K
              refine rdy (rs := [8]) (by kernel_rfl) (by simp) ?_
              refine arc rfl (fun K hK => ?_) ?_
              ·go_simp
               apply hK; clear hK K
               refine rdy (rs := [9]) (by kernel_rfl) (by simp) ?_
               refine arc rfl (fun K hK => ?_) ?_
               ·refine step64 rfl (.tmp 23) (.tmp 31) rfl w2.heap.size _ _ _ rfl (hrow5.alloc _) ⟨(w3.drewN n1).heap.size, 0, none⟩ 1 1 [.float .f64 r'] rfl rfl (cell_one_new _ _ _) (by simp [Value.oneCell']) (by unfold maxLen; omega) (by omega) (by have := hB.size; have := D5.size; simp; simp at this; omega) ?_; intro v' w4 hown' hgrow; obtain ⟨g', cap', rfl⟩ := ownsRow_succ hown'; obtain ⟨hv1, hv2, hr2, hk2, hb2⟩ := bv5.appended (by decide) hrow5 (Nat.le_trans hB.size D5.size) (Nat.le_refl _) hown' hgrow; have kS4 := ((kS5.alloc _).kept hgrow (kS5.not_row (by decide) hrow5)).other (B' := w2.heap.size) (by omega) (.slice (some ⟨g', 0, none⟩) (pre.length + 1) cap'); have hc1 := hv1.cell; have hf1 := hv1.frozen; have fin1 := (KeepsOthers.of_grownBy (grown_below D5 none) (fun j o e => by cases e)).trans hk2; have fin2 := (D5.mono hB.size).trans hb2; have hr3 : (w4.setCell ⟨w2.heap.size, 0, none⟩ (.slice (some ⟨g', 0, none⟩) (pre.length + 1) cap')).ownsRow w2.heap.size 43 1 (.slice (some ⟨g', 0, none⟩) (pre.length + 1) cap') (pre ++ [x]).length (flc (rs ++ [r'])) := by simpa [flc] using hr2
                apply hK; clear hK K
                refine rdy (rs := [10]) (by kernel_rfl) (by simp) ?_
                refine arc rfl (fun K hK => ?_) ?_
                ·go_simp
                 apply hK; clear hK K
                 refine wpAnyIn_done (by kernel_rfl) ?_ _
                 exact ⟨fin1.from _, ⟨fin2, kS4.trans kS.symm⟩, ⟨⟨rs ++ [r'], Mn.prods_snoc hrs hr'.cop, _, hv2, hr3, trivial⟩, kS4⟩, hB.trans fin2⟩
                exact arn
               exact arn
              exact arn
             exact arn
            exact arn
           exact arn
          exact arn
         refine arc rfl (fun K hK => ?_) ?_
         ·go_simp
          apply hK; clear hK K
          refine rdy (rs := [3, 5]) (by kernel_rfl) (by simp) ?_
          refine arc rfl (fun K hK => ?_) ?_
          ·go_simp; refine ⟨trivial, (CallsIn.inRound l' (callsIn_wide.2 (real_of x.2.2 _))).mono ?_⟩; rintro e w' ⟨rfl, rfl⟩; dsimp only
           apply hK; clear hK K
           refine rdy (rs := [5]) (by kernel_rfl) (by simp) ?_
           refine arc rfl (fun K hK => ?_) ?_
           ·go_simp
            apply hK; clear hK K
            refine rdy (rs := [6]) (by kernel_rfl) (by simp) ?_
            refine arc rfl (fun K hK => ?_) ?_
            ·go_simp; refine ⟨trivial, (CallsIn.inRound l' (callsIn_wide.2 (long_mean.length x.1 x.2.1 _))).mono ?_⟩; rintro e w3 ⟨rfl, b3⟩; have D3 : Below W.heap.size W w3 := ((Below.refl W.heap.size W).drew).trans b3; obtain ⟨r', n1, hr', r1⟩ := Fl.fop_run Try.prog .mul (.inr (.inr (.inl rfl))) 43 (FloatKind.f64.nearest x.2.2) (FloatKind.f64.nearest (Mn.wl x.1 x.2.1)) w3; have D5 : Below W.heap.size W (w3.drewN n1) := D3.trans (below_draw w3 n1); have cv3 := (boxed_on bv D3).cell; have bv5 := boxed_on bv D5; have hrow5 := own_on hrow D5; have cv5 := bv5.cell; have kS5 := kS.on D5; have cv5a := (bv5.alloc (.cells #[.float .f64 r'] 43)).cell; dsimp only
             apply hK; clear hK K
             refine rdy (rs := [7]) (by kernel_rfl) (by simp) ?_
             refine arc rfl (fun K hK => ?_) ?_
             ·go_simp
              apply hK; clear hK K
              refine rdy (rs := [8]) (by kernel_rfl) (by simp) ?_
              refine arc rfl (fun K hK => ?_) ?_
              ·go_simp
               apply hK; clear hK K
               refine rdy (rs := [9]) (by kernel_rfl) (by simp) ?_
               refine arc rfl (fun K hK => ?_) ?_
               ·refine step64 rfl (.tmp 23) (.tmp 31) rfl w2.heap.size _ _ _ rfl (hrow5.alloc _) ⟨(w3.drewN n1).heap.size, 0, none⟩ 1 1 [.float .f64 r'] rfl rfl (cell_one_new _ _ _) (by simp [Value.oneCell']) (by unfold maxLen; omega) (by omega) (by have := hB.size; have := D5.size; simp; simp at this; omega) ?_; intro v' w4 hown' hgrow; obtain ⟨g', cap', rfl⟩ := ownsRow_succ hown'; obtain ⟨hv1, hv2, hr2, hk2, hb2⟩ := bv5.appended (by decide) hrow5 (Nat.le_trans hB.size D5.size) (Nat.le_refl _) hown' hgrow; have kS4 := ((kS5.alloc _).kept hgrow (kS5.not_row (by decide) hrow5)).other (B' := w2.heap.size) (by omega) (.slice (some ⟨g', 0, none⟩) (pre.length + 1) cap'); have hc1 := hv1.cell; have hf1 := hv1.frozen; have fin1 := (KeepsOthers.of_grownBy (grown_below D5 none) (fun j o e => by cases e)).trans hk2; have fin2 := (D5.mono hB.size).trans hb2; have hr3 : (w4.setCell ⟨w2.heap.size, 0, none⟩ (.slice (some ⟨g', 0, none⟩) (pre.length + 1) cap')).ownsRow w2.heap.size 43 1 (.slice (some ⟨g', 0, none⟩) (pre.length + 1) cap') (pre ++ [x]).length (flc (rs ++ [r'])) := by simpa [flc] using hr2
                apply hK; clear hK K
                refine rdy (rs := [10]) (by kernel_rfl) (by simp) ?_
                refine arc rfl (fun K hK => ?_) ?_
                ·go_simp
                 apply hK; clear hK K
                 refine wpAnyIn_done (by kernel_rfl) ?_ _
                 exact ⟨fin1.from _, ⟨fin2, kS4.trans kS.symm⟩, ⟨⟨rs ++ [r'], Mn.prods_snoc hrs hr'.cop, _, hv2, hr3, trivial⟩, kS4⟩, hB.trans fin2⟩
                exact arn
               exact arn
              exact arn
             exact arn
            exact arn
           exact arn
          refine arc rfl (fun K hK => ?_) ?_
          ·go_simp
           apply hK; clear hK K
           refine rdy (rs := [3]) (by kernel_rfl) (by simp) ?_
           refine arc rfl (fun K hK => ?_) ?_
           ·go_simp; refine ⟨trivial, (CallsIn.inRound l' (callsIn_wide.2 (real_of x.2.2 _))).mono ?_⟩; rintro e w' ⟨rfl, rfl⟩; dsimp only
            apply hK; clear hK K
            refine rdy (rs := [6]) (by kernel_rfl) (by simp) ?_
            refine arc rfl (fun K hK => ?_) ?_
            ·go_simp; refine ⟨trivial, (CallsIn.inRound l' (callsIn_wide.2 (long_mean.length x.1 x.2.1 _))).mono ?_⟩; rintro e w3 ⟨rfl, b3⟩; have D3 : Below W.heap.size W w3 := ((Below.refl W.heap.size W).drew).trans b3; obtain ⟨r', n1, hr', r1⟩ := Fl.fop_run Try.prog .mul (.inr (.inr (.inl rfl))) 43 (FloatKind.f64.nearest x.2.2) (FloatKind.f64.nearest (Mn.wl x.1 x.2.1)) w3; have D5 : Below W.heap.size W (w3.drewN n1) := D3.trans (below_draw w3 n1); have cv3 := (boxed_on bv D3).cell; have bv5 := boxed_on bv D5; have hrow5 := own_on hrow D5; have cv5 := bv5.cell; have kS5 := kS.on D5; have cv5a := (bv5.alloc (.cells #[.float .f64 r'] 43)).cell; dsimp only
             apply hK; clear hK K
             refine rdy (rs := [7]) (by kernel_rfl) (by simp) ?_
             refine arc rfl (fun K hK => ?_) ?_
             ·go_simp
              apply hK; clear hK K
              refine rdy (rs := [8]) (by kernel_rfl) (by simp) ?_
              refine arc rfl (fun K hK => ?_) ?_
              ·go_simp
               apply hK; clear hK K
               refine rdy (rs := [9]) (by kernel_rfl) (by simp) ?_
               refine arc rfl (fun K hK => ?_) ?_
               ·refine step64 rfl (.tmp 23) (.tmp 31) rfl w2.heap.size _ _ _ rfl (hrow5.alloc _) ⟨(w3.drewN n1).heap.size, 0, none⟩ 1 1 [.float .f64 r'] rfl rfl (cell_one_new _ _ _) (by simp [Value.oneCell']) (by unfold maxLen; omega) (by omega) (by have := hB.size; have := D5.size; simp; simp at this; omega) ?_; intro v' w4 hown' hgrow; obtain ⟨g', cap', rfl⟩ := ownsRow_succ hown'; obtain ⟨hv1, hv2, hr2, hk2, hb2⟩ := bv5.appended (by decide) hrow5 (Nat.le_trans hB.size D5.size) (Nat.le_refl _) hown' hgrow; have kS4 := ((kS5.alloc _).kept hgrow (kS5.not_row (by decide) hrow5)).other (B' := w2.heap.size) (by omega) (.slice (some ⟨g', 0, none⟩) (pre.length + 1) cap'); have hc1 := hv1.cell; have hf1 := hv1.frozen; have fin1 := (KeepsOthers.of_grownBy (grown_below D5 none) (fun j o e => by cases e)).trans hk2; have fin2 := (D5.mono hB.size).trans hb2; have hr3 : (w4.setCell ⟨w2.heap.size, 0, none⟩ (.slice (some ⟨g', 0, none⟩) (pre.length + 1) cap')).ownsRow w2.heap.size 43 1 (.slice (some ⟨g', 0, none⟩) (pre.length + 1) cap') (pre ++ [x]).length (flc (rs ++ [r'])) := by simpa [flc] using hr2
                apply hK; clear hK K
                refine rdy (rs := [10]) (by kernel_rfl) (by simp) ?_
                refine arc rfl (fun K hK => ?_) ?_
                ·go_simp
                 apply hK; clear hK K
                 refine wpAnyIn_done (by kernel_rfl) ?_ _
                 exact ⟨fin1.from _, ⟨fin2, kS4.trans kS.symm⟩, ⟨⟨rs ++ [r'], Mn.prods_snoc hrs hr'.cop, _, hv2, hr3, trivial⟩, kS4⟩, hB.trans fin2⟩
                exact arn
               exact arn
              exact arn
             exact arn
            exact arn
           exact arn
          exact arn
         exact arn
        refine arc rfl (fun K hK => ?_) ?_
        ·go_simp
         apply hK; clear hK K
         refine rdy (rs := [2, 5]) (by kernel_rfl) (by simp) ?_
         refine arc rfl (fun K hK => ?_) ?_
         ·go_simp
          apply hK; clear hK K
          refine rdy (rs := [3, 5]) (by kernel_rfl) (by simp) ?_
          refine arc rfl (fun K hK => ?_) ?_
          ·go_simp; refine ⟨trivial, (CallsIn.inRound l' (callsIn_wide.2 (real_of x.2.2 _))).mono ?_⟩; rintro e w' ⟨rfl, rfl⟩; dsimp only
           apply hK; clear hK K
           refine rdy (rs := [5]) (by kernel_rfl) (by simp) ?_
           refine arc rfl (fun K hK => ?_) ?_
           ·go_simp
            apply hK; clear hK K
            refine rdy (rs := [6]) (by kernel_rfl) (by simp) ?_
            refine arc rfl (fun K hK => ?_) ?_
            ·go_simp; refine ⟨trivial, (CallsIn.inRound l' (callsIn_wide.2 (long_mean.length x.1 x.2.1 _))).mono ?_⟩; rintro e w3 ⟨rfl, b3⟩; have D3 : Below W.heap.size W w3 := ((Below.refl W.heap.size W).drew).trans b3; obtain ⟨r', n1, hr', r1⟩ := Fl.fop_run Try.prog .mul (.inr (.inr (.inl rfl))) 43 (FloatKind.f64.nearest x.2.2) (FloatKind.f64.nearest (Mn.wl x.1 x.2.1)) w3; have D5 : Below W.heap.size W (w3.drewN n1) := D3.trans (below_draw w3 n1); have cv3 := (boxed_on bv D3).cell; have bv5 := boxed_on bv D5; have hrow5 := own_on hrow D5; have cv5 := bv5.cell; have kS5 := kS.on D5; have cv5a := (bv5.alloc (.cells #[.float .f64 r'] 43)).cell; dsimp only
             apply hK; clear hK K
             refine rdy (rs := [7]) (by kernel_rfl) (by simp) ?_
             refine arc rfl (fun K hK => ?_) ?_
             ·go_simp
              apply hK; clear hK K
              refine rdy (rs := [8]) (by kernel_rfl) (by simp) ?_
              refine arc rfl (fun K hK => ?_) ?_
              ·go_simp
               apply hK; clear hK K
               refine rdy (rs := [9]) (by kernel_rfl) (by simp) ?_
               refine arc rfl (fun K hK => ?_) ?_
               ·refine step64 rfl (.tmp 23) (.tmp 31) rfl w2.heap.size _ _ _ rfl (hrow5.alloc _) ⟨(w3.drewN n1).heap.size, 0, none⟩ 1 1 [.float .f64 r'] rfl rfl (cell_one_new _ _ _) (by simp [Value.oneCell']) (by unfold maxLen; omega) (by omega) (by have := hB.size; have := D5.size; simp; simp at this; omega) ?_; intro v' w4 hown' hgrow; obtain ⟨g', cap', rfl⟩ := ownsRow_succ hown'; obtain ⟨hv1, hv2, hr2, hk2, hb2⟩ := bv5.appended (by decide) hrow5 (Nat.le_trans hB.size D5.size) (Nat.le_refl _) hown' hgrow; have kS4 := ((kS5.alloc _).kept hgrow (kS5.not_row (by decide) hrow5)).other (B' := w2.heap.size) (by omega) (.slice (some ⟨g', 0, none⟩) (pre.length + 1) cap'); have hc1 := hv1.cell; have hf1 := hv1.frozen; have fin1 := (KeepsOthers.of_grownBy (grown_below D5 none) (fun j o e => by cases e)).trans hk2; have fin2 := (D5.mono hB.size).trans hb2; have hr3 : (w4.setCell ⟨w2.heap.size, 0, none⟩ (.slice (some ⟨g', 0, none⟩) (pre.length + 1) cap')).ownsRow w2.heap.size 43 1 (.slice (some ⟨g', 0, none⟩) (pre.length + 1) cap') (pre ++ [x]).length (flc (rs ++ [r'])) := by simpa [flc] using hr2
                apply hK; clear hK K
                refine rdy (rs := [10]) (by kernel_rfl) (by simp) ?_
                refine arc rfl (fun K hK => ?_) ?_
                ·go_simp
                 apply hK; clear hK K
                 refine wpAnyIn_done (by kernel_rfl) ?_ _
                 exact ⟨fin1.from _, ⟨fin2, kS4.trans kS.symm⟩, ⟨⟨rs ++ [r'], Mn.prods_snoc hrs hr'.cop, _, hv2, hr3, trivial⟩, kS4⟩, hB.trans fin2⟩
                exact arn
               exact arn
              exact arn
             exact arn
            exact arn
           exact arn
          refine arc rfl (fun K hK => ?_) ?_
          ·go_simp
           apply hK; clear hK K
           refine rdy (rs := [3]) (by kernel_rfl) (by simp) ?_
           refine arc rfl (fun K hK => ?_) ?_
           ·go_simp; refine ⟨trivial, (CallsIn.inRound l' (callsIn_wide.2 (real_of x.2.2 _))).mono ?_⟩; rintro e w' ⟨rfl, rfl⟩; dsimp only
            apply hK; clear hK K
            refine rdy (rs := [6]) (by kernel_rfl) (by simp) ?_
            refine arc rfl (fun K hK => ?_) ?_
            ·go_simp; refine ⟨trivial, (CallsIn.inRound l' (callsIn_wide.2 (long_mean.length x.1 x.2.1 _))).mono ?_⟩; rintro e w3 ⟨rfl, b3⟩; have D3 : Below W.heap.size W w3 := ((Below.refl W.heap.size W).drew).trans b3; obtain ⟨r', n1, hr', r1⟩ := Fl.fop_run Try.prog .mul (.inr (.inr (.inl rfl))) 43 (FloatKind.f64.nearest x.2.2) (FloatKind.f64.nearest (Mn.wl x.1 x.2.1)) w3; have D5 : Below W.heap.size W (w3.drewN n1) := D3.trans (below_draw w3 n1); have cv3 := (boxed_on bv D3).cell; have bv5 := boxed_on bv D5; have hrow5 := own_on hrow D5; have cv5 := bv5.cell; have kS5 := kS.on D5; have cv5a := (bv5.alloc (.cells #[.float .f64 r'] 43)).cell; dsimp only
             apply hK; clear hK K
             refine rdy (rs := [7]) (by kernel_rfl) (by simp) ?_
             refine arc rfl (fun K hK => ?_) ?_
             ·go_simp
              apply hK; clear hK K
              refine rdy (rs := [8]) (by kernel_rfl) (by simp) ?_
              refine arc rfl (fun K hK => ?_) ?_
              ·go_simp
               apply hK; clear hK K
               refine rdy (rs := [9]) (by kernel_rfl) (by simp) ?_
               refine arc rfl (fun K hK => ?_) ?_
               ·refine step64 rfl (.tmp 23) (.tmp 31) rfl w2.heap.size _ _ _ rfl (hrow5.alloc _) ⟨(w3.drewN n1).heap.size, 0, none⟩ 1 1 [.float .f64 r'] rfl rfl (cell_one_new _ _ _) (by simp [Value.oneCell']) (by unfold maxLen; omega) (by omega) (by have := hB.size; have := D5.size; simp; simp at this; omega) ?_; intro v' w4 hown' hgrow; obtain ⟨g', cap', rfl⟩ := ownsRow_succ hown'; obtain ⟨hv1, hv2, hr2, hk2, hb2⟩ := bv5.appended (by decide) hrow5 (Nat.le_trans hB.size D5.size) (Nat.le_refl _) hown' hgrow; have kS4 := ((kS5.alloc _).kept hgrow (kS5.not_row (by decide) hrow5)).other (B' := w2.heap.size) (by omega) (.slice (some ⟨g', 0, none⟩) (pre.length + 1) cap'); have hc1 := hv1.cell; have hf1 := hv1.frozen; have fin1 := (KeepsOthers.of_grownBy (grown_below D5 none) (fun j o e => by cases e)).trans hk2; have fin2 := (D5.mono hB.size).trans hb2; have hr3 : (w4.setCell ⟨w2.heap.size, 0, none⟩ (.slice (some ⟨g', 0, none⟩) (pre.length + 1) cap')).ownsRow w2.heap.size 43 1 (.slice (some ⟨g', 0, none⟩) (pre.length + 1) cap') (pre ++ [x]).length (flc (rs ++ [r'])) := by simpa [flc] using hr2
                apply hK; clear hK K
                refine rdy (rs := [10]) (by kernel_rfl) (by simp) ?_
                refine arc rfl (fun K hK => ?_) ?_
                ·go_simp
                 apply hK; clear hK K
                 refine wpAnyIn_done (by kernel_rfl) ?_ _
                 exact ⟨fin1.from _, ⟨fin2, kS4.trans kS.symm⟩, ⟨⟨rs ++ [r'], Mn.prods_snoc hrs hr'.cop, _, hv2, hr3, trivial⟩, kS4⟩, hB.trans fin2⟩
                exact arn
               exact arn
              exact arn
             exact arn
            exact arn
           exact arn
          exact arn
         refine arc rfl (fun K hK => ?_) ?_
         ·go_simp
          apply hK; clear hK K
          refine rdy (rs := [2]) (by kernel_rfl) (by simp) ?_
          refine arc rfl (fun K hK => ?_) ?_
          ·go_simp
           apply hK; clear hK K
           refine rdy (rs := [3]) (by kernel_rfl) (by simp) ?_
           refine arc rfl (fun K hK => ?_) ?_
           ·go_simp; refine ⟨trivial, (CallsIn.inRound l' (callsIn_wide.2 (real_of x.2.2 _))).mono ?_⟩; rintro e w' ⟨rfl, rfl⟩; dsimp only
            apply hK; clear hK K
            refine rdy (rs := [6]) (by kernel_rfl) (by simp) ?_
            refine arc rfl (fun K hK => ?_) ?_
            ·go_simp; refine ⟨trivial, (CallsIn.inRound l' (callsIn_wide.2 (long_mean.length x.1 x.2.1 _))).mono ?_⟩; rintro e w3 ⟨rfl, b3⟩; have D3 : Below W.heap.size W w3 := ((Below.refl W.heap.size W).drew).trans b3; obtain ⟨r', n1, hr', r1⟩ := Fl.fop_run Try.prog .mul (.inr (.inr (.inl rfl))) 43 (FloatKind.f64.nearest x.2.2) (FloatKind.f64.nearest (Mn.wl x.1 x.2.1)) w3; have D5 : Below W.heap.size W (w3.drewN n1) := D3.trans (below_draw w3 n1); have cv3 := (boxed_on bv D3).cell; have bv5 := boxed_on bv D5; have hrow5 := own_on hrow D5; have cv5 := bv5.cell; have kS5 := kS.on D5; have cv5a := (bv5.alloc (.cells #[.float .f64 r'] 43)).cell; dsimp only
             apply hK; clear hK K
             refine rdy (rs := [7]) (by kernel_rfl) (by simp) ?_
             refine arc rfl (fun K hK => ?_) ?_
             ·go_simp
              apply hK; clear hK K
              refine rdy (rs := [8]) (by kernel_rfl) (by simp) ?_
              refine arc rfl (fun K hK => ?_) ?_
              ·go_simp
               apply hK; clear hK K
               refine rdy (rs := [9]) (by kernel_rfl) (by simp) ?_
               refine arc rfl (fun K hK => ?_) ?_
               ·refine step64 rfl (.tmp 23) (.tmp 31) rfl w2.heap.size _ _ _ rfl (hrow5.alloc _) ⟨(w3.drewN n1).heap.size, 0, none⟩ 1 1 [.float .f64 r'] rfl rfl (cell_one_new _ _ _) (by simp [Value.oneCell']) (by unfold maxLen; omega) (by omega) (by have := hB.size; have := D5.size; simp; simp at this; omega) ?_; intro v' w4 hown' hgrow; obtain ⟨g', cap', rfl⟩ := ownsRow_succ hown'; obtain ⟨hv1, hv2, hr2, hk2, hb2⟩ := bv5.appended (by decide) hrow5 (Nat.le_trans hB.size D5.size) (Nat.le_refl _) hown' hgrow; have kS4 := ((kS5.alloc _).kept hgrow (kS5.not_row (by decide) hrow5)).other (B' := w2.heap.size) (by omega) (.slice (some ⟨g', 0, none⟩) (pre.length + 1) cap'); have hc1 := hv1.cell; have hf1 := hv1.frozen; have fin1 := (KeepsOthers.of_grownBy (grown_below D5 none) (fun j o e => by cases e)).trans hk2; have fin2 := (D5.mono hB.size).trans hb2; have hr3 : (w4.setCell ⟨w2.heap.size, 0, none⟩ (.slice (some ⟨g', 0, none⟩) (pre.length + 1) cap')).ownsRow w2.heap.size 43 1 (.slice (some ⟨g', 0, none⟩) (pre.length + 1) cap') (pre ++ [x]).length (flc (rs ++ [r'])) := by simpa [flc] using hr2
                apply hK; clear hK K
                refine rdy (rs := [10]) (by kernel_rfl) (by simp) ?_
                refine arc rfl (fun K hK => ?_) ?_
                ·go_simp
                 apply hK; clear hK K
                 refine wpAnyIn_done (by kernel_rfl) ?_ _
                 exact ⟨fin1.from _, ⟨fin2, kS4.trans kS.symm⟩, ⟨⟨rs ++ [r'], Mn.prods_snoc hrs hr'.cop, _, hv2, hr3, trivial⟩, kS4⟩, hB.trans fin2⟩
                exact arn
               exact arn
              exact arn
             exact arn
            exact arn
           exact arn
          exact arn
         exact arn
        exact arn
       refine arc rfl (fun K hK => ?_) ?_
       ·go_simp
        apply hK; clear hK K
        refine rdy (rs := [1, 5]) (by kernel_rfl) (by simp) ?_
        refine arc rfl (fun K hK => ?_) ?_
        ·go_simp
         apply hK; clear hK K
         refine rdy (rs := [2, 5]) (by kernel_rfl) (by simp) ?_
         refine arc rfl (fun K hK => ?_) ?_
         ·go_simp
          apply hK; clear hK K
          refine rdy (rs := [3, 5]) (by kernel_rfl) (by simp) ?_
          refine arc rfl (fun K hK => ?_) ?_
          ·go_simp; refine ⟨trivial, (CallsIn.inRound l' (callsIn_wide.2 (real_of x.2.2 _))).mono ?_⟩; rintro e w' ⟨rfl, rfl⟩; dsimp only
           apply hK; clear hK K
           refine rdy (rs := [5]) (by kernel_rfl) (by simp) ?_
           refine arc rfl (fun K hK => ?_) ?_
           ·go_simp
            apply hK; clear hK K
            refine rdy (rs := [6]) (by kernel_rfl) (by simp) ?_
            refine arc rfl (fun K hK => ?_) ?_
            ·go_simp; refine ⟨trivial, (CallsIn.inRound l' (callsIn_wide.2 (long_mean.length x.1 x.2.1 _))).mono ?_⟩; rintro e w3 ⟨rfl, b3⟩; have D3 : Below W.heap.size W w3 := ((Below.refl W.heap.size W).drew).trans b3; obtain ⟨r', n1, hr', r1⟩ := Fl.fop_run Try.prog .mul (.inr (.inr (.inl rfl))) 43 (FloatKind.f64.nearest x.2.2) (FloatKind.f64.nearest (Mn.wl x.1 x.2.1)) w3; have D5 : Below W.heap.size W (w3.drewN n1) := D3.trans (below_draw w3 n1); have cv3 := (boxed_on bv D3).cell; have bv5 := boxed_on bv D5; have hrow5 := own_on hrow D5; have cv5 := bv5.cell; have kS5 := kS.on D5; have cv5a := (bv5.alloc (.cells #[.float .f64 r'] 43)).cell; dsimp only
             apply hK; clear hK K
             refine rdy (rs := [7]) (by kernel_rfl) (by simp) ?_
             refine arc rfl (fun K hK => ?_) ?_
             ·go_simp
              apply hK; clear hK K
              refine rdy (rs := [8]) (by kernel_rfl) (by simp) ?_
              refine arc rfl (fun K hK => ?_) ?_
              ·go_simp
               apply hK; clear hK K
               refine rdy (rs := [9]) (by kernel_rfl) (by simp) ?_
               refine arc rfl (fun K hK => ?_) ?_
               ·refine step64 rfl (.tmp 23) (.tmp 31) rfl w2.heap.size _ _ _ rfl (hrow5.alloc _) ⟨(w3.drewN n1).heap.size, 0, none⟩ 1 1 [.float .f64 r'] rfl rfl (cell_one_new _ _ _) (by simp [Value.oneCell']) (by unfold maxLen; omega) (by omega) (by have := hB.size; have := D5.size; simp; simp at this; omega) ?_; intro v' w4 hown' hgrow; obtain ⟨g', cap', rfl⟩ := ownsRow_succ hown'; obtain ⟨hv1, hv2, hr2, hk2, hb2⟩ := bv5.appended (by decide) hrow5 (Nat.le_trans hB.size D5.size) (Nat.le_refl _) hown' hgrow; have kS4 := ((kS5.alloc _).kept hgrow (kS5.not_row (by decide) hrow5)).other (B' := w2.heap.size) (by omega) (.slice (some ⟨g', 0, none⟩) (pre.length + 1) cap'); have hc1 := hv1.cell; have hf1 := hv1.frozen; have fin1 := (KeepsOthers.of_grownBy (grown_below D5 none) (fun j o e => by cases e)).trans hk2; have fin2 := (D5.mono hB.size).trans hb2; have hr3 : (w4.setCell ⟨w2.heap.size, 0, none⟩ (.slice (some ⟨g', 0, none⟩) (pre.length + 1) cap')).ownsRow w2.heap.size 43 1 (.slice (some ⟨g', 0, none⟩) (pre.length + 1) cap') (pre ++ [x]).length (flc (rs ++ [r'])) := by simpa [flc] using hr2
                apply hK; clear hK K
                refine rdy (rs := [10]) (by kernel_rfl) (by simp) ?_
                refine arc rfl (fun K hK => ?_) ?_
                ·go_simp
                 apply hK; clear hK K
                 refine wpAnyIn_done (by kernel_rfl) ?_ _
                 exact ⟨fin1.from _, ⟨fin2, kS4.trans kS.symm⟩, ⟨⟨rs ++ [r'], Mn.prods_snoc hrs hr'.cop, _, hv2, hr3, trivial⟩, kS4⟩, hB.trans fin2⟩
                exact arn
               exact arn
              exact arn
             exact arn
            exact arn
           exact arn
          refine arc rfl (fun K hK => ?_) ?_
          ·go_simp
           apply hK; clear hK K
           refine rdy (rs := [3]) (by kernel_rfl) (by simp) ?_
           refine arc rfl (fun K hK => ?_) ?_
           ·go_simp; refine ⟨trivial, (CallsIn.inRound l' (callsIn_wide.2 (real_of x.2.2 _))).mono ?_⟩; rintro e w' ⟨rfl, rfl⟩; dsimp only
            apply hK; clear hK K
            refine rdy (rs := [6]) (by kernel_rfl) (by simp) ?_
            refine arc rfl (fun K hK => ?_) ?_
            ·go_simp; refine ⟨trivial, (CallsIn.inRound l' (callsIn_wide.2 (long_mean.length x.1 x.2.1 _))).mono ?_⟩; rintro e w3 ⟨rfl, b3⟩; have D3 : Below W.heap.size W w3 := ((Below.refl W.heap.size W).drew).trans b3; obtain ⟨r', n1, hr', r1⟩ := Fl.fop_run Try.prog .mul (.inr (.inr (.inl rfl))) 43 (FloatKind.f64.nearest x.2.2) (FloatKind.f64.nearest (Mn.wl x.1 x.2.1)) w3; have D5 : Below W.heap.size W (w3.drewN n1) := D3.trans (below_draw w3 n1); have cv3 := (boxed_on bv D3).cell; have bv5 := boxed_on bv D5; have hrow5 := own_on hrow D5; have cv5 := bv5.cell; have kS5 := kS.on D5; have cv5a := (bv5.alloc (.cells #[.float .f64 r'] 43)).cell; dsimp only
             apply hK; clear hK K
             refine rdy (rs := [7]) (by kernel_rfl) (by simp) ?_
             refine arc rfl (fun K hK => ?_) ?_
             ·go_simp
              apply hK; clear hK K
              refine rdy (rs := [8]) (by kernel_rfl) (by simp) ?_
              refine arc rfl (fun K hK => ?_) ?_
              ·go_simp
               apply hK; clear hK K
               refine rdy (rs := [9]) (by kernel_rfl) (by simp) ?_
               refine arc rfl (fun K hK => ?_) ?_
               ·refine step64 rfl (.tmp 23) (.tmp 31) rfl w2.heap.size _ _ _ rfl (hrow5.alloc _) ⟨(w3.drewN n1).heap.size, 0, none⟩ 1 1 [.float .f64 r'] rfl rfl (cell_one_new _ _ _) (by simp [Value.oneCell']) (by unfold maxLen; omega) (by omega) (by have := hB.size; have := D5.size; simp; simp at this; omega) ?_; intro v' w4 hown' hgrow; obtain ⟨g', cap', rfl⟩ := ownsRow_succ hown'; obtain ⟨hv1, hv2, hr2, hk2, hb2⟩ := bv5.appended (by decide) hrow5 (Nat.le_trans hB.size D5.size) (Nat.le_refl _) hown' hgrow; have kS4 := ((kS5.alloc _).kept hgrow (kS5.not_row (by decide) hrow5)).other (B' := w2.heap.size) (by omega) (.slice (some ⟨g', 0, none⟩) (pre.length + 1) cap'); have hc1 := hv1.cell; have hf1 := hv1.frozen; have fin1 := (KeepsOthers.of_grownBy (grown_below D5 none) (fun j o e => by cases e)).trans hk2; have fin2 := (D5.mono hB.size).trans hb2; have hr3 : (w4.setCell ⟨w2.heap.size, 0, none⟩ (.slice (some ⟨g', 0, none⟩) (pre.length + 1) cap')).ownsRow w2.heap.size 43 1 (.slice (some ⟨g', 0, none⟩) (pre.length + 1) cap') (pre ++ [x]).length (flc (rs ++ [r'])) := by simpa [flc] using hr2
                apply hK; clear hK K
                refine rdy (rs := [10]) (by kernel_rfl) (by simp) ?_
                refine arc rfl (fun K hK => ?_) ?_
                ·go_simp
                 apply hK; clear hK K
                 refine wpAnyIn_done (by kernel_rfl) ?_ _
                 exact ⟨fin1.from _, ⟨fin2, kS4.trans kS.symm⟩, ⟨⟨rs ++ [r'], Mn.prods_snoc hrs hr'.cop, _, hv2, hr3, trivial⟩, kS4⟩, hB.trans fin2⟩
                exact arn
               exact arn
              exact arn
             exact arn
            exact arn
           exact arn
          exact arn
         refine arc rfl (fun K hK => ?_) ?_
         ·go_simp
          apply hK; clear hK K
          refine rdy (rs := [2]) (by kernel_rfl) (by simp) ?_
          refine arc rfl (fun K hK => ?_) ?_
          ·go_simp
           apply hK; clear hK K
           refine rdy (rs := [3]) (by kernel_rfl) (by simp) ?_
           refine arc rfl (fun K hK => ?_) ?_
           ·go_simp; refine ⟨trivial, (CallsIn.inRound l' (callsIn_wide.2 (real_of x.2.2 _))).mono ?_⟩; rintro e w' ⟨rfl, rfl⟩; dsimp only
            apply hK; clear hK K
            refine rdy (rs := [6]) (by kernel_rfl) (by simp) ?_
            refine arc rfl (fun K hK => ?_) ?_
            ·go_simp; refine ⟨trivial, (CallsIn.inRound l' (callsIn_wide.2 (long_mean.length x.1 x.2.1 _))).mono ?_⟩; rintro e w3 ⟨rfl, b3⟩; have D3 : Below W.heap.size W w3 := ((Below.refl W.heap.size W).drew).trans b3; obtain ⟨r', n1, hr', r1⟩ := Fl.fop_run Try.prog .mul (.inr (.inr (.inl rfl))) 43 (FloatKind.f64.nearest x.2.2) (FloatKind.f64.nearest (Mn.wl x.1 x.2.1)) w3; have D5 : Below W.heap.size W (w3.drewN n1) := D3.trans (below_draw w3 n1); have cv3 := (boxed_on bv D3).cell; have bv5 := boxed_on bv D5; have hrow5 := own_on hrow D5; have cv5 := bv5.cell; have kS5 := kS.on D5; have cv5a := (bv5.alloc (.cells #[.float .f64 r'] 43)).cell; dsimp only
             apply hK; clear hK K
             refine rdy (rs := [7]) (by kernel_rfl) (by simp) ?_
             refine arc rfl (fun K hK => ?_) ?_
             ·go_simp
              apply hK; clear hK K
              refine rdy (rs := [8]) (by kernel_rfl) (by simp) ?_
              refine arc rfl (fun K hK => ?_) ?_
              ·go_simp
               apply hK; clear hK K
               refine rdy (rs := [9]) (by kernel_rfl) (by simp) ?_
               refine arc rfl (fun K hK => ?_) ?_
               ·refine step64 rfl (.tmp 23) (.tmp 31) rfl w2.heap.size _ _ _ rfl (hrow5.alloc _) ⟨(w3.drewN n1).heap.size, 0, none⟩ 1 1 [.float .f64 r'] rfl rfl (cell_one_new _ _ _) (by simp [Value.oneCell']) (by unfold maxLen; omega) (by omega) (by have := hB.size; have := D5.size; simp; simp at this; omega) ?_; intro v' w4 hown' hgrow; obtain ⟨g', cap', rfl⟩ := ownsRow_succ hown'; obtain ⟨hv1, hv2, hr2, hk2, hb2⟩ := bv5.appended (by decide) hrow5 (Nat.le_trans hB.size D5.size) (Nat.le_refl _) hown' hgrow; have kS4 := ((kS5.alloc _).kept hgrow (kS5.not_row (by decide) hrow5)).other (B' := w2.heap.size) (by omega) (.slice (some ⟨g', 0, none⟩) (pre.length + 1) cap'); have hc1 := hv1.cell; have hf1 := hv1.frozen; have fin1 := (KeepsOthers.of_grownBy (grown_below D5 none) (fun j o e => by cases e)).trans hk2; have fin2 := (D5.mono hB.size).trans hb2; have hr3 : (w4.setCell ⟨w2.heap.size, 0, none⟩ (.slice (some ⟨g', 0, none⟩) (pre.length + 1) cap')).ownsRow w2.heap.size 43 1 (.slice (some ⟨g', 0, none⟩) (pre.length + 1) cap') (pre ++ [x]).length (flc (rs ++ [r'])) := by simpa [flc] using hr2
                apply hK; clear hK K
                refine rdy (rs := [10]) (by kernel_rfl) (by simp) ?_
                refine arc rfl (fun K hK => ?_) ?_
                ·go_simp
                 apply hK; clear hK K
                 refine wpAnyIn_done (by kernel_rfl) ?_ _
                 exact ⟨fin1.from _, ⟨fin2, kS4.trans kS.symm⟩, ⟨⟨rs ++ [r'], Mn.prods_snoc hrs hr'.cop, _, hv2, hr3, trivial⟩, kS4⟩, hB.trans fin2⟩
                exact arn
               exact arn
              exact arn
             exact arn
            exact arn
           exact arn
          exact arn
         exact arn
        refine arc rfl (fun K hK => ?_) ?_
        ·go_simp
         apply hK; clear hK K
         refine rdy (rs := [1]) (by kernel_rfl) (by simp) ?_
         refine arc rfl (fun K hK => ?_) ?_
         ·go_simp
          apply hK; clear hK K
          refine rdy (rs := [2]) (by kernel_rfl) (by simp) ?_
          refine arc rfl (fun K hK => ?_) ?_
          ·go_simp
           apply hK; clear hK K
           refine rdy (rs := [3]) (by kernel_rfl) (by simp) ?_
           refine arc rfl (fun K hK => ?_) ?_
           ·go_simp; refine ⟨trivial, (CallsIn.inRound l' (callsIn_wide.2 (real_of x.2.2 _))).mono ?_⟩; rintro e w' ⟨rfl, rfl⟩; dsimp only
            apply hK; clear hK K
            refine rdy (rs := [6]) (by kernel_rfl) (by simp) ?_
            refine arc rfl (fun K hK => ?_) ?_
            ·go_simp; refine ⟨trivial, (CallsIn.inRound l' (callsIn_wide.2 (long_mean.length x.1 x.2.1 _))).mono ?_⟩; rintro e w3 ⟨rfl, b3⟩; have D3 : Below W.heap.size W w3 := ((Below.refl W.heap.size W).drew).trans b3; obtain ⟨r', n1, hr', r1⟩ := Fl.fop_run Try.prog .mul (.inr (.inr (.inl rfl))) 43 (FloatKind.f64.nearest x.2.2) (FloatKind.f64.nearest (Mn.wl x.1 x.2.1)) w3; have D5 : Below W.heap.size W (w3.drewN n1) := D3.trans (below_draw w3 n1); have cv3 := (boxed_on bv D3).cell; have bv5 := boxed_on bv D5; have hrow5 := own_on hrow D5; have cv5 := bv5.cell; have kS5 := kS.on D5; have cv5a := (bv5.alloc (.cells #[.float .f64 r'] 43)).cell; dsimp only
             apply hK; clear hK K
             refine rdy (rs := [7]) (by kernel_rfl) (by simp) ?_
             refine arc rfl (fun K hK => ?_) ?_
             ·go_simp
              apply hK; clear hK K
              refine rdy (rs := [8]) (by kernel_rfl) (by simp) ?_
              refine arc rfl (fun K hK => ?_) ?_
              ·go_simp
               apply hK; clear hK K
               refine rdy (rs := [9]) (by kernel_rfl) (by simp) ?_
               refine arc rfl (fun K hK => ?_) ?_
               ·refine step64 rfl (.tmp 23) (.tmp 31) rfl w2.heap.size _ _ _ rfl (hrow5.alloc _) ⟨(w3.drewN n1).heap.size, 0, none⟩ 1 1 [.float .f64 r'] rfl rfl (cell_one_new _ _ _) (by simp [Value.oneCell']) (by unfold maxLen; omega) (by omega) (by have := hB.size; have := D5.size; simp; simp at this; omega) ?_; intro v' w4 hown' hgrow; obtain ⟨g', cap', rfl⟩ := ownsRow_succ hown'; obtain ⟨hv1, hv2, hr2, hk2, hb2⟩ := bv5.appended (by decide) hrow5 (Nat.le_trans hB.size D5.size) (Nat.le_refl _) hown' hgrow; have kS4 := ((kS5.alloc _).kept hgrow (kS5.not_row (by decide) hrow5)).other (B' := w2.heap.size) (by omega) (.slice (some ⟨g', 0, none⟩) (pre.length + 1) cap'); have hc1 := hv1.cell; have hf1 := hv1.frozen; have fin1 := (KeepsOthers.of_grownBy (grown_below D5 none) (fun j o e => by cases e)).trans hk2; have fin2 := (D5.mono hB.size).trans hb2; have hr3 : (w4.setCell ⟨w2.heap.size, 0, none⟩ (.slice (some ⟨g', 0, none⟩) (pre.length + 1) cap')).ownsRow w2.heap.size 43 1 (.slice (some ⟨g', 0, none⟩) (pre.length + 1) cap') (pre ++ [x]).length (flc (rs ++ [r'])) := by simpa [flc] using hr2
                apply hK; clear hK K
                refine rdy (rs := [10]) (by kernel_rfl) (by simp) ?_
                refine arc rfl (fun K hK => ?_) ?_
                ·go_simp
                 apply hK; clear hK K
                 refine wpAnyIn_done (by kernel_rfl) ?_ _
                 exact ⟨fin1.from _, ⟨fin2, kS4.trans kS.symm⟩, ⟨⟨rs ++ [r'], Mn.prods_snoc hrs hr'.cop, _, hv2, hr3, trivial⟩, kS4⟩, hB.trans fin2⟩
                exact arn
               exact arn
              exact arn
             exact arn
            exact arn
           exact arn
          exact arn
         exact arn
        exact arn
       exact arn
      refine arc rfl (fun K hK => ?_) ?_
      ·go_simp
       apply hK; clear hK K
       refine rdy (rs := [0, 2, 4]) (by kernel_rfl) (by simp) ?_
       refine arc rfl (fun K hK => ?_) ?_
       ·go_simp
        apply hK; clear hK K
        refine rdy (rs := [2, 4]) (by kernel_rfl) (by simp) ?_
        refine arc rfl (fun K hK => ?_) ?_
        ·go_simp
         apply hK; clear hK K
         refine rdy (rs := [3, 4]) (by kernel_rfl) (by simp) ?_
         refine arc rfl (fun K hK => ?_) ?_
         ·go_simp; refine ⟨trivial, (CallsIn.inRound l' (callsIn_wide.2 (real_of x.2.2 _))).mono ?_⟩; rintro e w' ⟨rfl, rfl⟩; dsimp only
          apply hK; clear hK K
          refine rdy (rs := [4]) (by kernel_rfl) (by simp) ?_
          refine arc rfl (fun K hK => ?_) ?_
          ·go_simp
           apply hK; clear hK K
           refine rdy (rs := [5]) (by kernel_rfl) (by simp) ?_
           refine arc rfl (fun K hK => ?_) ?_
           ·go_simp
            apply hK; clear hK K
            refine rdy (rs := [6]) (by kernel_rfl) (by simp) ?_
            refine arc rfl (fun K hK => ?_) ?_
            ·go_simp; refine ⟨trivial, (CallsIn.inRound l' (callsIn_wide.2 (long_mean.length x.1 x.2.1 _))).mono ?_⟩; rintro e w3 ⟨rfl, b3⟩; have D3 : Below W.heap.size W w3 := ((Below.refl W.heap.size W).drew).trans b3; obtain ⟨r', n1, hr', r1⟩ := Fl.fop_run Try.prog .mul (.inr (.inr (.inl rfl))) 43 (FloatKind.f64.nearest x.2.2) (FloatKind.f64.nearest (Mn.wl x.1 x.2.1)) w3; have D5 : Below W.heap.size W (w3.drewN n1) := D3.trans (below_draw w3 n1); have cv3 := (boxed_on bv D3).cell; have bv5 := boxed_on bv D5; have hrow5 := own_on hrow D5; have cv5 := bv5.cell; have kS5 := kS.on D5; have cv5a := (bv5.alloc (.cells #[.float .f64 r'] 43)).cell; dsimp only
             apply hK; clear hK K
             refine rdy (rs := [7]) (by kernel_rfl) (by simp) ?_
             refine arc rfl (fun K hK => ?_) ?_
             ·go_simp
              apply hK; clear hK K
              refine rdy (rs := [8]) (by kernel_rfl) (by simp) ?_
              refine arc rfl (fun K hK => ?_) ?_
              ·go_simp
               apply hK; clear hK K
               refine rdy (rs := [9]) (by kernel_rfl) (by simp) ?_
               refine arc rfl (fun K hK => ?_) ?_
               ·refine step64 rfl (.tmp 23) (.tmp 31) rfl w2.heap.size _ _ _ rfl (hrow5.alloc _) ⟨(w3.drewN n1).heap.size, 0, none⟩ 1 1 [.float .f64 r'] rfl rfl (cell_one_new _ _ _) (by simp [Value.oneCell']) (by unfold maxLen; omega) (by omega) (by have := hB.size; have := D5.size; simp; simp at this; omega) ?_; intro v' w4 hown' hgrow; obtain ⟨g', cap', rfl⟩ := ownsRow_succ hown'; obtain ⟨hv1, hv2, hr2, hk2, hb2⟩ := bv5.appended (by decide) hrow5 (Nat.le_trans hB.size D5.size) (Nat.le_refl _) hown' hgrow; have kS4 := ((kS5.alloc _).kept hgrow (kS5.not_row (by decide) hrow5)).other (B' := w2.heap.size) (by omega) (.slice (some ⟨g', 0, none⟩) (pre.length + 1) cap'); have hc1 := hv1.cell; have hf1 := hv1.frozen; have fin1 := (KeepsOthers.of_grownBy (grown_below D5 none) (fun j o e => by cases e)).trans hk2; have fin2 := (D5.mono hB.size).trans hb2; have hr3 : (w4.setCell ⟨w2.heap.size, 0, none⟩ (.slice (some ⟨g', 0, none⟩) (pre.length + 1) cap')).ownsRow w2.heap.size 43 1 (.slice (some ⟨g', 0, none⟩) (pre.length + 1) cap') (pre ++ [x]).length (flc (rs ++ [r'])) := by simpa [flc] using hr2
                apply hK; clear hK K
                refine rdy (rs := [10]) (by kernel_rfl) (by simp) ?_
                refine arc rfl (fun K hK => ?_) ?_
                ·go_simp
                 apply hK; clear hK K
                 refine wpAnyIn_done (by kernel_rfl) ?_ _
                 exact ⟨fin1.from _, ⟨fin2, kS4.trans kS.symm⟩, ⟨⟨rs ++ [r'], Mn.prods_snoc hrs hr'.cop, _, hv2, hr3, trivial⟩, kS4⟩, hB.trans fin2⟩
                exact arn
               exact arn
              exact arn
             exact arn
            exact arn
           exact arn
          exact arn
         refine arc rfl (fun K hK => ?_) ?_
         ·go_simp
          apply hK; clear hK K
          refine rdy (rs := [3, 5]) (by kernel_rfl) (by simp) ?_
          refine arc rfl (fun K hK => ?_) ?_
          ·go_simp; refine ⟨trivial, (CallsIn.inRound l' (callsIn_wide.2 (real_of x.2.2 _))).mono ?_⟩; rintro e w' ⟨rfl, rfl⟩; dsimp only
           apply hK; clear hK K
           refine rdy (rs := [5]) (by kernel_rfl) (by simp) ?_
           refine arc rfl (fun K hK => ?_) ?_
           ·go_simp
            apply hK; clear hK K
            refine rdy (rs := [6]) (by kernel_rfl) (by simp) ?_
            refine arc rfl (fun K hK => ?_) ?_
            ·go_simp; refine ⟨trivial, (CallsIn.inRound l' (callsIn_wide.2 (long_mean.length x.1 x.2.1 _))).mono ?_⟩; rintro e w3 ⟨rfl, b3⟩; have D3 : Below W.heap.size W w3 := ((Below.refl W.heap.size W).drew).trans b3; obtain ⟨r', n1, hr', r1⟩ := Fl.fop_run Try.prog .mul (.inr (.inr (.inl rfl))) 43 (FloatKind.f64.nearest x.2.2) (FloatKind.f64.nearest (Mn.wl x.1 x.2.1)) w3; have D5 : Below W.heap.size W (w3.drewN n1) := D3.trans (below_draw w3 n1); have cv3 := (boxed_on bv D3).cell; have bv5 := boxed_on bv D5; have hrow5 := own_on hrow D5; have cv5 := bv5.cell; have kS5 := kS.on D5; have cv5a := (bv5.alloc (.cells #[.float .f64 r'] 43)).cell; dsimp only
             apply hK; clear hK K
             refine rdy (rs := [7]) (by kernel_rfl) (by simp) ?_
             refine arc rfl (fun K hK => ?_) ?_
             ·go_simp
              apply hK; clear hK K
              refine rdy (rs := [8]) (by kernel_rfl) (by simp) ?_
              refine arc rfl (fun K hK => ?_) ?_
              ·go_simp
               apply hK; clear hK K
               refine rdy (rs := [9]) (by kernel_rfl) (by simp) ?_
               refine arc rfl (fun K hK => ?_) ?_
               ·refine step64 rfl (.tmp 23) (.tmp 31) rfl w2.heap.size _ _ _ rfl (hrow5.alloc _) ⟨(w3.drewN n1).heap.size, 0, none⟩ 1 1 [.float .f64 r'] rfl rfl (cell_one_new _ _ _) (by simp [Value.oneCell']) (by unfold maxLen; omega) (by omega) (by have := hB.size; have := D5.size; simp; simp at this; omega) ?_; intro v' w4 hown' hgrow; obtain ⟨g', cap', rfl⟩ := ownsRow_succ hown'; obtain ⟨hv1, hv2, hr2, hk2, hb2⟩ := bv5.appended (by decide) hrow5 (Nat.le_trans hB.size D5.size) (Nat.le_refl _) hown' hgrow; have kS4 := ((kS5.alloc _).kept hgrow (kS5.not_row (by decide) hrow5)).other (B' := w2.heap.size) (by omega) (.slice (some ⟨g', 0, none⟩) (pre.length + 1) cap'); have hc1 := hv1.cell; have hf1 := hv1.frozen; have fin1 := (KeepsOthers.of_grownBy (grown_below D5 none) (fun j o e => by cases e)).trans hk2; have fin2 := (D5.mono hB.size).trans hb2; have hr3 : (w4.setCell ⟨w2.heap.size, 0, none⟩ (.slice (some ⟨g', 0, none⟩) (pre.length + 1) cap')).ownsRow w2.heap.size 43 1 (.slice (some ⟨g', 0, none⟩) (pre.length + 1) cap') (pre ++ [x]).length (flc (rs ++ [r'])) := by simpa [flc] using hr2
                apply hK; clear hK K
                refine rdy (rs := [10]) (by kernel_rfl) (by simp) ?_
                refine arc rfl (fun K hK => ?_) ?_
                ·go_simp
                 apply hK; clear hK K
                 refine wpAnyIn_done (by kernel_rfl) ?_ _
                 exact ⟨fin1.from _, ⟨fin2, kS4.trans kS.symm⟩, ⟨⟨rs ++ [r'], Mn.prods_snoc hrs hr'.cop, _, hv2, hr3, trivial⟩, kS4⟩, hB.trans fin2⟩
                exact arn
               exact arn
              exact arn
             exact arn
            exact arn
           exact arn
          refine arc rfl (fun K hK => ?_) ?_
          ·go_simp
           apply hK; clear hK K
           refine rdy (rs := [3]) (by kernel_rfl) (by simp) ?_
           refine arc rfl (fun K hK => ?_) ?_
           ·go_simp; refine ⟨trivial, (CallsIn.inRound l' (callsIn_wide.2 (real_of x.2.2 _))).mono ?_⟩; rintro e w' ⟨rfl, rfl⟩; dsimp only
            apply hK; clear hK K
            refine rdy (rs := [6]) (by kernel_rfl) (by simp) ?_
            refine arc rfl (fun K hK => ?_) ?_
            ·go_simp; refine ⟨trivial, (CallsIn.inRound l' (callsIn_wide.2 (long_mean.length x.1 x.2.1 _))).mono ?_⟩; rintro e w3 ⟨rfl, b3⟩; have D3 : Below W.heap.size W w3 := ((Below.refl W.heap.size W).drew).trans b3; obtain ⟨r', n1, hr', r1⟩ := Fl.fop_run Try.prog .mul (.inr (.inr (.inl rfl))) 43 (FloatKind.f64.nearest x.2.2) (FloatKind.f64.nearest (Mn.wl x.1 x.2.1)) w3; have D5 : Below W.heap.size W (w3.drewN n1) := D3.trans (below_draw w3 n1); have cv3 := (boxed_on bv D3).cell; have bv5 := boxed_on bv D5; have hrow5 := own_on hrow D5; have cv5 := bv5.cell; have kS5 := kS.on D5; have cv5a := (bv5.alloc (.cells #[.float .f64 r'] 43)).cell; dsimp only
             apply hK; clear hK K
             refine rdy (rs := [7]) (by kernel_rfl) (by simp) ?_
             refine arc rfl (fun K hK => ?_) ?_
             ·go_simp
              apply hK; clear hK K
              refine rdy (rs := [8]) (by kernel_rfl) (by simp) ?_
              refine arc rfl (fun K hK => ?_) ?_
              ·go_simp
               apply hK; clear hK K
               refine rdy (rs := [9]) (by kernel_rfl) (by simp) ?_
               refine arc rfl (fun K hK => ?_) ?_
               ·refine step64 rfl (.tmp 23) (.tmp 31) rfl w2.heap.size _ _ _ rfl (hrow5.alloc _) ⟨(w3.drewN n1).heap.size, 0, none⟩ 1 1 [.float .f64 r'] rfl rfl (cell_one_new _ _ _) (by simp [Value.oneCell']) (by unfold maxLen; omega) (by omega) (by have := hB.size; have := D5.size; simp; simp at this; omega) ?_; intro v' w4 hown' hgrow; obtain ⟨g', cap', rfl⟩ := ownsRow_succ hown'; obtain ⟨hv1, hv2, hr2, hk2, hb2⟩ := bv5.appended (by decide) hrow5 (Nat.le_trans hB.size D5.size) (Nat.le_refl _) hown' hgrow; have kS4 := ((kS5.alloc _).kept hgrow (kS5.not_row (by decide) hrow5)).other (B' := w2.heap.size) (by omega) (.slice (some ⟨g', 0, none⟩) (pre.length + 1) cap'); have hc1 := hv1.cell; have hf1 := hv1.frozen; have fin1 := (KeepsOthers.of_grownBy (grown_below D5 none) (fun j o e => by cases e)).trans hk2; have fin2 := (D5.mono hB.size).trans hb2; have hr3 : (w4.setCell ⟨w2.heap.size, 0, none⟩ (.slice (some ⟨g', 0, none⟩) (pre.length + 1) cap')).ownsRow w2.heap.size 43 1 (.slice (some ⟨g', 0, none⟩) (pre.length + 1) cap') (pre ++ [x]).length (flc (rs ++ [r'])) := by simpa [flc] using hr2
                apply hK; clear hK K
                refine rdy (rs := [10]) (by kernel_rfl) (by simp) ?_
                refine arc rfl (fun K hK => ?_) ?_
                ·go_simp
                 apply hK; clear hK K
                 refine wpAnyIn_done (by kernel_rfl) ?_ _
                 exact ⟨fin1.from _, ⟨fin2, kS4.trans kS.symm⟩, ⟨⟨rs ++ [r'], Mn.prods_snoc hrs hr'.cop, _, hv2, hr3, trivial⟩, kS4⟩, hB.trans fin2⟩
                exact arn
               exact arn
              exact arn
             exact arn
            exact arn
           exact arn
          exact arn
         exact arn
        refine arc rfl (fun K hK => ?_) ?_
        ·go_simp
         apply hK; clear hK K
         refine rdy (rs := [2, 5]) (by kernel_rfl) (by simp) ?_
         refine arc rfl (fun K hK => ?_) ?_
         ·go_simp
          apply hK; clear hK K
          refine rdy (rs := [3, 5]) (by kernel_rfl) (by simp) ?_
          refine arc rfl (fun K hK => ?_) ?_
          ·go_simp; refine ⟨trivial, (CallsIn.inRound l' (callsIn_wide.2 (real_of x.2.2 _))).mono ?_⟩; rintro e w' ⟨rfl, rfl⟩; dsimp only
           apply hK; clear hK K
           refine rdy (rs := [5]) (by kernel_rfl) (by simp) ?_
           refine arc rfl (fun K hK => ?_) ?_
           ·go_simp
            apply hK; clear hK K
            refine rdy (rs := [6]) (by kernel_rfl) (by simp) ?_
            refine arc rfl (fun K hK => ?_) ?_
            ·go_simp; refine ⟨trivial, (CallsIn.inRound l' (callsIn_wide.2 (long_mean.length x.1 x.2.1 _))).mono ?_⟩; rintro e w3 ⟨rfl, b3⟩; have D3 : Below W.heap.size W w3 := ((Below.refl W.heap.size W).drew).trans b3; obtain ⟨r', n1, hr', r1⟩ := Fl.fop_run Try.prog .mul (.inr (.inr (.inl rfl))) 43 (FloatKind.f64.nearest x.2.2) (FloatKind.f64.nearest (Mn.wl x.1 x.2.1)) w3; have D5 : Below W.heap.size W (w3.drewN n1) := D3.trans (below_draw w3 n1); have cv3 := (boxed_on bv D3).cell; have bv5 := boxed_on bv D5; have hrow5 := own_on hrow D5; have cv5 := bv5.cell; have kS5 := kS.on D5; have cv5a := (bv5.alloc (.cells #[.float .f64 r'] 43)).cell; dsimp only
             apply hK; clear hK K
             refine rdy (rs := [7]) (by kernel_rfl) (by simp) ?_
             refine arc rfl (fun K hK => ?_) ?_
             ·go_simp
              apply hK; clear hK K
              refine rdy (rs := [8]) (by kernel_rfl) (by simp) ?_
              refine arc rfl (fun K hK => ?_) ?_
              ·go_simp
               apply hK; clear hK K
               refine rdy (rs := [9]) (by kernel_rfl) (by simp) ?_
               refine arc rfl (fun K hK => ?_) ?_
               ·refine step64 rfl (.tmp 23) (.tmp 31) rfl w2.heap.size _ _ _ rfl (hrow5.alloc _) ⟨(w3.drewN n1).heap.size, 0, none⟩ 1 1 [.float .f64 r'] rfl rfl (cell_one_new _ _ _) (by simp [Value.oneCell']) (by unfold maxLen; omega) (by omega) (by have := hB.size; have := D5.size; simp; simp at this; omega) ?_; intro v' w4 hown' hgrow; obtain ⟨g', cap', rfl⟩ := ownsRow_succ hown'; obtain ⟨hv1, hv2, hr2, hk2, hb2⟩ := bv5.appended (by decide) hrow5 (Nat.le_trans hB.size D5.size) (Nat.le_refl _) hown' hgrow; have kS4 := ((kS5.alloc _).kept hgrow (kS5.not_row (by decide) hrow5)).other (B' := w2.heap.size) (by omega) (.slice (some ⟨g', 0, none⟩) (pre.length + 1) cap'); have hc1 := hv1.cell; have hf1 := hv1.frozen; have fin1 := (KeepsOthers.of_grownBy (grown_below D5 none) (fun j o e => by cases e)).trans hk2; have fin2 := (D5.mono hB.size).trans hb2; have hr3 : (w4.setCell ⟨w2.heap.size, 0, none⟩ (.slice (some ⟨g', 0, none⟩) (pre.length + 1) cap')).ownsRow w2.heap.size 43 1 (.slice (some ⟨g', 0, none⟩) (pre.length + 1) cap') (pre ++ [x]).length (flc (rs ++ [r'])) := by simpa [flc] using hr2
                apply hK; clear hK K
                refine rdy (rs := [10]) (by kernel_rfl) (by simp) ?_
                refine arc rfl (fun K hK => ?_) ?_
                ·go_simp
                 apply hK; clear hK K
                 refine wpAnyIn_done (by kernel_rfl) ?_ _
                 exact ⟨fin1.from _, ⟨fin2, kS4.trans kS.symm⟩, ⟨⟨rs ++ [r'], Mn.prods_snoc hrs hr'.cop, _, hv2, hr3, trivial⟩, kS4⟩, hB.trans fin2⟩
                exact arn
               exact arn
              exact arn
             exact arn
            exact arn
           exact arn
          refine arc rfl (fun K hK => ?_) ?_
          ·go_simp
           apply hK; clear hK K
           refine rdy (rs := [3]) (by kernel_rfl) (by simp) ?_
           refine arc rfl (fun K hK => ?_) ?_
           ·go_simp; refine ⟨trivial, (CallsIn.inRound l' (callsIn_wide.2 (real_of x.2.2 _))).mono ?_⟩; rintro e w' ⟨rfl, rfl⟩; dsimp only
            apply hK; clear hK K
            refine rdy (rs := [6]) (by kernel_rfl) (by simp) ?_
            refine arc rfl (fun K hK => ?_) ?_
            ·go_simp; refine ⟨trivial, (CallsIn.inRound l' (callsIn_wide.2 (long_mean.length x.1 x.2.1 _))).mono ?_⟩; rintro e w3 ⟨rfl, b3⟩; have D3 : Below W.heap.size W w3 := ((Below.refl W.heap.size W).drew).trans b3; obtain ⟨r', n1, hr', r1⟩ := Fl.fop_run Try.prog .mul (.inr (.inr (.inl rfl))) 43 (FloatKind.f64.nearest x.2.2) (FloatKind.f64.nearest (Mn.wl x.1 x.2.1)) w3; have D5 : Below W.heap.size W (w3.drewN n1) := D3.trans (below_draw w3 n1); have cv3 := (boxed_on bv D3).cell; have bv5 := boxed_on bv D5; have hrow5 := own_on hrow D5; have cv5 := bv5.cell; have kS5 := kS.on D5; have cv5a := (bv5.alloc (.cells #[.float .f64 r'] 43)).cell; dsimp only
             apply hK; clear hK K
             refine rdy (rs := [7]) (by kernel_rfl) (by simp) ?_
             refine arc rfl (fun K hK => ?_) ?_
             ·go_simp
              apply hK; clear hK K
              refine rdy (rs := [8]) (by kernel_rfl) (by simp) ?_
              refine arc rfl (fun K hK => ?_) ?_
              ·go_simp
               apply hK; clear hK K
               refine rdy (rs := [9]) (by kernel_rfl) (by simp) ?_
               refine arc rfl (fun K hK => ?_) ?_
               ·refine step64 rfl (.tmp 23) (.tmp 31) rfl w2.heap.size _ _ _ rfl (hrow5.alloc _) ⟨(w3.drewN n1).heap.size, 0, none⟩ 1 1 [.float .f64 r'] rfl rfl (cell_one_new _ _ _) (by simp [Value.oneCell']) (by unfold maxLen; omega) (by omega) (by have := hB.size; have := D5.size; simp; simp at this; omega) ?_; intro v' w4 hown' hgrow; obtain ⟨g', cap', rfl⟩ := ownsRow_succ hown'; obtain ⟨hv1, hv2, hr2, hk2, hb2⟩ := bv5.appended (by decide) hrow5 (Nat.le_trans hB.size D5.size) (Nat.le_refl _) hown' hgrow; have kS4 := ((kS5.alloc _).kept hgrow (kS5.not_row (by decide) hrow5)).other (B' := w2.heap.size) (by omega) (.slice (some ⟨g', 0, none⟩) (pre.length + 1) cap'); have hc1 := hv1.cell; have hf1 := hv1.frozen; have fin1 := (KeepsOthers.of_grownBy (grown_below D5 none) (fun j o e => by cases e)).trans hk2; have fin2 := (D5.mono hB.size).trans hb2; have hr3 : (w4.setCell ⟨w2.heap.size, 0, none⟩ (.slice (some ⟨g', 0, none⟩) (pre.length + 1) cap')).ownsRow w2.heap.size 43 1 (.slice (some ⟨g', 0, none⟩) (pre.length + 1) cap') (pre ++ [x]).length (flc (rs ++ [r'])) := by simpa [flc] using hr2
                apply hK; clear hK K
                refine rdy (rs := [10]) (by kernel_rfl) (by simp) ?_
                refine arc rfl (fun K hK => ?_) ?_
                ·go_simp
                 apply hK; clear hK K
                 refine wpAnyIn_done (by kernel_rfl) ?_ _
                 exact ⟨fin1.from _, ⟨fin2, kS4.trans kS.symm⟩, ⟨⟨rs ++ [r'], Mn.prods_snoc hrs hr'.cop, _, hv2, hr3, trivial⟩, kS4⟩, hB.trans fin2⟩
                exact arn
               exact arn
              exact arn
             exact arn
            exact arn
           exact arn
          exact arn
         refine arc rfl (fun K hK => ?_) ?_
         ·go_simp
          apply hK; clear hK K
          refine rdy (rs := [2]) (by kernel_rfl) (by simp) ?_
          refine arc rfl (fun K hK => ?_) ?_
          ·go_simp
           apply hK; clear hK K
           refine rdy (rs := [3]) (by kernel_rfl) (by simp) ?_
           refine arc rfl (fun K hK => ?_) ?_
           ·go_simp; refine ⟨trivial, (CallsIn.inRound l' (callsIn_wide.2 (real_of x.2.2 _))).mono ?_⟩; rintro e w' ⟨rfl, rfl⟩; dsimp only
            apply hK; clear hK K
            refine rdy (rs := [6]) (by kernel_rfl) (by simp) ?_
            refine arc rfl (fun K hK => ?_) ?_
            ·go_simp; refine ⟨trivial, (CallsIn.inRound l' (callsIn_wide.2 (long_mean.length x.1 x.2.1 _))).mono ?_⟩; rintro e w3 ⟨rfl, b3⟩; have D3 : Below W.heap.size W w3 := ((Below.refl W.heap.size W).drew).trans b3; obtain ⟨r', n1, hr', r1⟩ := Fl.fop_run Try.prog .mul (.inr (.inr (.inl rfl))) 43 (FloatKind.f64.nearest x.2.2) (FloatKind.f64.nearest (Mn.wl x.1 x.2.1)) w3; have D5 : Below W.heap.size W (w3.drewN n1) := D3.trans (below_draw w3 n1); have cv3 := (boxed_on bv D3).cell; have bv5 := boxed_on bv D5; have hrow5 := own_on hrow D5; have cv5 := bv5.cell; have kS5 := kS.on D5; have cv5a := (bv5.alloc (.cells #[.float .f64 r'] 43)).cell; dsimp only
             apply hK; clear hK K
             refine rdy (rs := [7]) (by kernel_rfl) (by simp) ?_
             refine arc rfl (fun K hK => ?_) ?_
             ·go_simp
              apply hK; clear hK K
              refine rdy (rs := [8]) (by kernel_rfl) (by simp) ?_
              refine arc rfl (fun K hK => ?_) ?_
              ·go_simp
               apply hK; clear hK K
               refine rdy (rs := [9]) (by kernel_rfl) (by simp) ?_
               refine arc rfl (fun K hK => ?_) ?_
               ·refine step64 rfl (.tmp 23) (.tmp 31) rfl w2.heap.size _ _ _ rfl (hrow5.alloc _) ⟨(w3.drewN n1).heap.size, 0, none⟩ 1 1 [.float .f64 r'] rfl rfl (cell_one_new _ _ _) (by simp [Value.oneCell']) (by unfold maxLen; omega) (by omega) (by have := hB.size; have := D5.size; simp; simp at this; omega) ?_; intro v' w4 hown' hgrow; obtain ⟨g', cap', rfl⟩ := ownsRow_succ hown'; obtain ⟨hv1, hv2, hr2, hk2, hb2⟩ := bv5.appended (by decide) hrow5 (Nat.le_trans hB.size D5.size) (Nat.le_refl _) hown' hgrow; have kS4 := ((kS5.alloc _).kept hgrow (kS5.not_row (by decide) hrow5)).other (B' := w2.heap.size) (by omega) (.slice (some ⟨g', 0, none⟩) (pre.length + 1) cap'); have hc1 := hv1.cell; have hf1 := hv1.frozen; have fin1 := (KeepsOthers.of_grownBy (grown_below D5 none) (fun j o e => by cases e)).trans hk2; have fin2 := (D5.mono hB.size).trans hb2; have hr3 : (w4.setCell ⟨w2.heap.size, 0, none⟩ (.slice (some ⟨g', 0, none⟩) (pre.length + 1) cap')).ownsRow w2.heap.size 43 1 (.slice (some ⟨g', 0, none⟩) (pre.length + 1) cap') (pre ++ [x]).length (flc (rs ++ [r'])) := by simpa [flc] using hr2
                apply hK; clear hK K
                refine rdy (rs := [10]) (by kernel_rfl) (by simp) ?_
                refine arc rfl (fun K hK => ?_) ?_
                ·go_simp
                 apply hK; clear hK K
                 refine wpAnyIn_done (by kernel_rfl) ?_ _
                 exact ⟨fin1.from _, ⟨fin2, kS4.trans kS.symm⟩, ⟨⟨rs ++ [r'], Mn.prods_snoc hrs hr'.cop, _, hv2, hr3, trivial⟩, kS4⟩, hB.trans fin2⟩
                exact arn
               exact arn
              exact arn
             exact arn
            exact arn
           exact arn
          exact arn
         exact arn
        exact arn
       refine arc rfl (fun K hK => ?_) ?_
       ·go_simp
        apply hK; clear hK K
        refine rdy (rs := [0, 3, 4]) (by kernel_rfl) (by simp) ?_
        refine arc rfl (fun K hK => ?_) ?_
        ·go_simp
         apply hK; clear hK K
         refine rdy (rs := [3, 4]) (by kernel_rfl) (by simp) ?_
         refine arc rfl (fun K hK => ?_) ?_
         ·go_simp; refine ⟨trivial, (CallsIn.inRound l' (callsIn_wide.2 (real_of x.2.2 _))).mono ?_⟩; rintro e w' ⟨rfl, rfl⟩; dsimp only
          apply hK; clear hK K
          refine rdy (rs := [4]) (by kernel_rfl) (by simp) ?_
          refine arc rfl (fun K hK => ?_) ?_
          ·go_simp
           apply hK; clear hK K
           refine rdy (rs := [5]) (by kernel_rfl) (by simp) ?_
           refine arc rfl (fun K hK => ?_) ?_
           ·go_simp
            apply hK; clear hK K
            refine rdy (rs := [6]) (by kernel_rfl) (by simp) ?_
            refine arc rfl (fun K hK => ?_) ?_
            ·go_simp; refine ⟨trivial, (CallsIn.inRound l' (callsIn_wide.2 (long_mean.length x.1 x.2.1 _))).mono ?_⟩; rintro e w3 ⟨rfl, b3⟩; have D3 : Below W.heap.size W w3 := ((Below.refl W.heap.size W).drew).trans b3; obtain ⟨r', n1, hr', r1⟩ := Fl.fop_run Try.prog .mul (.inr (.inr (.inl rfl))) 43 (FloatKind.f64.nearest x.2.2) (FloatKind.f64.nearest (Mn.wl x.1 x.2.1)) w3; have D5 : Below W.heap.size W (w3.drewN n1) := D3.trans (below_draw w3 n1); have cv3 := (boxed_on bv D3).cell; have bv5 := boxed_on bv D5; have hrow5 := own_on hrow D5; have cv5 := bv5.cell; have kS5 := kS.on D5; have cv5a := (bv5.alloc (.cells #[.float .f64 r'] 43)).cell; dsimp only
             apply hK; clear hK K
             refine rdy (rs := [7]) (by kernel_rfl) (by simp) ?_
             refine arc rfl (fun K hK => ?_) ?_
             ·go_simp
              apply hK; clear hK K
              refine rdy (rs := [8]) (by kernel_rfl) (by simp) ?_
              refine arc rfl (fun K hK => ?_) ?_
              ·go_simp
               apply hK; clear hK K
               refine rdy (rs := [9]) (by kernel_rfl) (by simp) ?_
               refine arc rfl (fun K hK => ?_) ?_
               ·refine step64 rfl (.tmp 23) (.tmp 31) rfl w2.heap.size _ _ _ rfl (hrow5.alloc _) ⟨(w3.drewN n1).heap.size, 0, none⟩ 1 1 [.float .f64 r'] rfl rfl (cell_one_new _ _ _) (by simp [Value.oneCell']) (by unfold maxLen; omega) (by omega) (by have := hB.size; have := D5.size; simp; simp at this; omega) ?_; intro v' w4 hown' hgrow; obtain ⟨g', cap', rfl⟩ := ownsRow_succ hown'; obtain ⟨hv1, hv2, hr2, hk2, hb2⟩ := bv5.appended (by decide) hrow5 (Nat.le_trans hB.size D5.size) (Nat.le_refl _) hown' hgrow; have kS4 := ((kS5.alloc _).kept hgrow (kS5.not_row (by decide) hrow5)).other (B' := w2.heap.size) (by omega) (.slice (some ⟨g', 0, none⟩) (pre.length + 1) cap'); have hc1 := hv1.cell; have hf1 := hv1.frozen; have fin1 := (KeepsOthers.of_grownBy (grown_below D5 none) (fun j o e => by cases e)).trans hk2; have fin2 := (D5.mono hB.size).trans hb2; have hr3 : (w4.setCell ⟨w2.heap.size, 0, none⟩ (.slice (some ⟨g', 0, none⟩) (pre.length + 1) cap')).ownsRow w2.heap.size 43 1 (.slice (some ⟨g', 0, none⟩) (pre.length + 1) cap') (pre ++ [x]).length (flc (rs ++ [r'])) := by simpa [flc] using hr2
                apply hK; clear hK K
                refine rdy (rs := [10]) (by kernel_rfl) (by simp) ?_
                refine arc rfl (fun K hK => ?_) ?_
                ·go_simp
                 apply hK; clear hK K
                 refine wpAnyIn_done (by kernel_rfl) ?_ _
                 exact ⟨fin1.from _, ⟨fin2, kS4.trans kS.symm⟩, ⟨⟨rs ++ [r'], Mn.prods_snoc hrs hr'.cop, _, hv2, hr3, trivial⟩, kS4⟩, hB.trans fin2⟩
                exact arn
               exact arn
              exact arn
             exact arn
            exact arn
           exact arn
          exact arn
         refine arc rfl (fun K hK => ?_) ?_
         ·go_simp
          apply hK; clear hK K
          refine rdy (rs := [3, 5]) (by kernel_rfl) (by simp) ?_
          refine arc rfl (fun K hK => ?_) ?_
          ·go_simp; refine ⟨trivial, (CallsIn.inRound l' (callsIn_wide.2 (real_of x.2.2 _))).mono ?_⟩; rintro e w' ⟨rfl, rfl⟩; dsimp only
           apply hK; clear hK K
           refine rdy (rs := [5]) (by kernel_rfl) (by simp) ?_
           refine arc rfl (fun K hK => ?_) ?_
           ·go_simp
            apply hK; clear hK K
            refine rdy (rs := [6]) (by kernel_rfl) (by simp) ?_
            refine arc rfl (fun K hK => ?_) ?_
            ·go_simp; refine ⟨trivial, (CallsIn.inRound l' (callsIn_wide.2 (long_mean.length x.1 x.2.1 _))).mono ?_⟩; rintro e w3 ⟨rfl, b3⟩; have D3 : Below W.heap.size W w3 := ((Below.refl W.heap.size W).drew).trans b3; obtain ⟨r', n1, hr', r1⟩ := Fl.fop_run Try.prog .mul (.inr (.inr (.inl rfl))) 43 (FloatKind.f64.nearest x.2.2) (FloatKind.f64.nearest (Mn.wl x.1 x.2.1)) w3; have D5 : Below W.heap.size W (w3.drewN n1) := D3.trans (below_draw w3 n1); have cv3 := (boxed_on bv D3).cell; have bv5 := boxed_on bv D5; have hrow5 := own_on hrow D5; have cv5 := bv5.cell; have kS5 := kS.on D5; have cv5a := (bv5.alloc (.cells #[.float .f64 r'] 43)).cell; dsimp only
             apply hK; clear hK K
             refine rdy (rs := [7]) (by kernel_rfl) (by simp) ?_
             refine arc rfl (fun K hK => ?_) ?_
             ·go_simp
              apply hK; clear hK K
              refine rdy (rs := [8]) (by kernel_rfl) (by simp) ?_
              refine arc rfl (fun K hK => ?_) ?_
              ·go_simp
               apply hK; clear hK K
               refine rdy (rs := [9]) (by kernel_rfl) (by simp) ?_
               refine arc rfl (fun K hK => ?_) ?_
               ·refine step64 rfl (.tmp 23) (.tmp 31) rfl w2.heap.size _ _ _ rfl (hrow5.alloc _) ⟨(w3.drewN n1).heap.size, 0, none⟩ 1 1 [.float .f64 r'] rfl rfl (cell_one_new _ _ _) (by simp [Value.oneCell']) (by unfold maxLen; omega) (by omega) (by have := hB.size; have := D5.size; simp; simp at this; omega) ?_; intro v' w4 hown' hgrow; obtain ⟨g', cap', rfl⟩ := ownsRow_succ hown'; obtain ⟨hv1, hv2, hr2, hk2, hb2⟩ := bv5.appended (by decide) hrow5 (Nat.le_trans hB.size D5.size) (Nat.le_refl _) hown' hgrow; have kS4 := ((kS5.alloc _).kept hgrow (kS5.not_row (by decide) hrow5)).other (B' := w2.heap.size) (by omega) (.slice (some ⟨g', 0, none⟩) (pre.length + 1) cap'); have hc1 := hv1.cell; have hf1 := hv1.frozen; have fin1 := (KeepsOthers.of_grownBy (grown_below D5 none) (fun j o e => by cases e)).trans hk2; have fin2 := (D5.mono hB.size).trans hb2; have hr3 : (w4.setCell ⟨w2.heap.size, 0, none⟩ (.slice (some ⟨g', 0, none⟩) (pre.length + 1) cap')).ownsRow w2.heap.size 43 1 (.slice (some ⟨g', 0, none⟩) (pre.length + 1) cap') (pre ++ [x]).length (flc (rs ++ [r'])) := by simpa [flc] using hr2
                apply hK; clear hK K
                refine rdy (rs := [10]) (by kernel_rfl) (by simp) ?_
                refine arc rfl (fun K hK => ?_) ?_
                ·go_simp
                 apply hK; clear hK K
                 refine wpAnyIn_done (by kernel_rfl) ?_ _
                 exact ⟨fin1.from _, ⟨fin2, kS4.trans kS.symm⟩, ⟨⟨rs ++ [r'], Mn.prods_snoc hrs hr'.cop, _, hv2, hr3, trivial⟩, kS4⟩, hB.trans fin2⟩
                exact arn
               exact arn
              exact arn
             exact arn
            exact arn
           exact arn
          refine arc rfl (fun K hK => ?_) ?_
          ·go_simp
           apply hK; clear hK K
           refine rdy (rs := [3]) (by kernel_rfl) (by simp) ?_
           refine arc rfl (fun K hK => ?_) ?_
           ·go_simp; refine ⟨trivial, (CallsIn.inRound l' (callsIn_wide.2 (real_of x.2.2 _))).mono ?_⟩; rintro e w' ⟨rfl, rfl⟩; dsimp only
            apply hK; clear hK K
            refine rdy (rs := [6]) (by kernel_rfl) (by simp) ?_
            refine arc rfl (fun K hK => ?_) ?_
            ·go_simp; refine ⟨trivial, (CallsIn.inRound l' (callsIn_wide.2 (long_mean.length x.1 x.2.1 _))).mono ?_⟩; rintro e w3 ⟨rfl, b3⟩; have D3 : Below W.heap.size W w3 := ((Below.refl W.heap.size W).drew).trans b3; obtain ⟨r', n1, hr', r1⟩ := Fl.fop_run Try.prog .mul (.inr (.inr (.inl rfl))) 43 (FloatKind.f64.nearest x.2.2) (FloatKind.f64.nearest (Mn.wl x.1 x.2.1)) w3; have D5 : Below W.heap.size W (w3.drewN n1) := D3.trans (below_draw w3 n1); have cv3 := (boxed_on bv D3).cell; have bv5 := boxed_on bv D5; have hrow5 := own_on hrow D5; have cv5 := bv5.cell; have kS5 := kS.on D5; have cv5a := (bv5.alloc (.cells #[.float .f64 r'] 43)).cell; dsimp only
             apply hK; clear hK K
             refine rdy (rs := [7]) (by kernel_rfl) (by simp) ?_
             refine arc rfl (fun K hK => ?_) ?_
             ·go_simp
              apply hK; clear hK K
              refine rdy (rs := [8]) (by kernel_rfl) (by simp) ?_
              refine arc rfl (fun K hK => ?_) ?_
              ·go_simp
               apply hK; clear hK K
               refine rdy (rs := [9]) (by kernel_rfl) (by simp) ?_
               refine arc rfl (fun K hK => ?_) ?_
               ·refine step64 rfl (.tmp 23) (.tmp 31) rfl w2.heap.size _ _ _ rfl (hrow5.alloc _) ⟨(w3.drewN n1).heap.size, 0, none⟩ 1 1 [.float .f64 r'] rfl rfl (cell_one_new _ _ _) (by simp [Value.oneCell']) (by unfold maxLen; omega) (by omega) (by have := hB.size; have := D5.size; simp; simp at this; omega) ?_; intro v' w4 hown' hgrow; obtain ⟨g', cap', rfl⟩ := ownsRow_succ hown'; obtain ⟨hv1, hv2, hr2, hk2, hb2⟩ := bv5.appended (by decide) hrow5 (Nat.le_trans hB.size D5.size) (Nat.le_refl _) hown' hgrow; have kS4 := ((kS5.alloc _).kept hgrow (kS5.not_row (by decide) hrow5)).other (B' := w2.heap.size) (by omega) (.slice (some ⟨g', 0, none⟩) (pre.length + 1) cap'); have hc1 := hv1.cell; have hf1 := hv1.frozen; have fin1 := (KeepsOthers.of_grownBy (grown_below D5 none) (fun j o e => by cases e)).trans hk2; have fin2 := (D5.mono hB.size).trans hb2; have hr3 : (w4.setCell ⟨w2.heap.size, 0, none⟩ (.slice (some ⟨g', 0, none⟩) (pre.length + 1) cap')).ownsRow w2.heap.size 43 1 (.slice (some ⟨g', 0, none⟩) (pre.length + 1) cap') (pre ++ [x]).length (flc (rs ++ [r'])) := by simpa [flc] using hr2
                apply hK; clear hK K
                refine rdy (rs := [10]) (by kernel_rfl) (by simp) ?_
                refine arc rfl (fun K hK => ?_) ?_
                ·go_simp
                 apply hK; clear hK K
                 refine wpAnyIn_done (by kernel_rfl) ?_ _
                 exact ⟨fin1.from _, ⟨fin2, kS4.trans kS.symm⟩, ⟨⟨rs ++ [r'], Mn.prods_snoc hrs hr'.cop, _, hv2, hr3, trivial⟩, kS4⟩, hB.trans fin2⟩
                exact arn
               exact arn
              exact arn
             exact arn
            exact arn
           exact arn
          exact arn
         exact arn
        refine arc rfl (fun K hK => ?_) ?_
        ·go_simp; refine ⟨trivial, (CallsIn.inRound l' (callsIn_wide.2 (real_of x.2.2 _))).mono ?_⟩; rintro e w' ⟨rfl, rfl⟩; dsimp only
         apply hK; clear hK K
         refine rdy (rs := [0, 4]) (by kernel_rfl) (by simp) ?_
         refine arc rfl (fun K hK => ?_) ?_
         ·go_simp
          apply hK; clear hK K
          refine rdy (rs := [4]) (by kernel_rfl) (by simp) ?_
          refine arc rfl (fun K hK => ?_) ?_
          ·go_simp
           apply hK; clear hK K
           refine rdy (rs := [5]) (by kernel_rfl) (by simp) ?_
           refine arc rfl (fun K hK => ?_) ?_
           ·go_simp
            apply hK; clear hK K
            refine rdy (rs := [6]) (by kernel_rfl) (by simp) ?_
            refine arc rfl (fun K hK => ?_) ?_
            ·go_simp; refine ⟨trivial, (CallsIn.inRound l' (callsIn_wide.2 (long_mean.length x.1 x.2.1 _))).mono ?_⟩; rintro e w3 ⟨rfl, b3⟩; have D3 : Below W.heap.size W w3 := ((Below.refl W.heap.size W).drew).trans b3; obtain ⟨r', n1, hr', r1⟩ := Fl.fop_run Try.prog .mul (.inr (.inr (.inl rfl))) 43 (FloatKind.f64.nearest x.2.2) (FloatKind.f64.nearest (Mn.wl x.1 x.2.1)) w3; have D5 : Below W.heap.size W (w3.drewN n1) := D3.trans (below_draw w3 n1); have cv3 := (boxed_on bv D3).cell; have bv5 := boxed_on bv D5; have hrow5 := own_on hrow D5; have cv5 := bv5.cell; have kS5 := kS.on D5; have cv5a := (bv5.alloc (.cells #[.float .f64 r'] 43)).cell; dsimp only
             apply hK; clear hK K
             refine rdy (rs := [7]) (by kernel_rfl) (by simp) ?_
             refine arc rfl (fun K hK => ?_) ?_
             ·go_simp
              apply hK; clear hK K
              refine rdy (rs := [8]) (by kernel_rfl) (by simp) ?_
              refine arc rfl (fun K hK => ?_) ?_
              ·go_simp
               apply hK; clear hK K
               refine rdy (rs := [9]) (by kernel_rfl) (by simp) ?_
               refine arc rfl (fun K hK => ?_) ?_
               ·refine step64 rfl (.tmp 23) (.tmp 31) rfl w2.heap.size _ _ _ rfl (hrow5.alloc _) ⟨(w3.drewN n1).heap.size, 0, none⟩ 1 1 [.float .f64 r'] rfl rfl (cell_one_new _ _ _) (by simp [Value.oneCell']) (by unfold maxLen; omega) (by omega) (by have := hB.size; have := D5.size; simp; simp at this; omega) ?_; intro v' w4 hown' hgrow; obtain ⟨g', cap', rfl⟩ := ownsRow_succ hown'; obtain ⟨hv1, hv2, hr2, hk2, hb2⟩ := bv5.appended (by decide) hrow5 (Nat.le_trans hB.size D5.size) (Nat.le_refl _) hown' hgrow; have kS4 := ((kS5.alloc _).kept hgrow (kS5.not_row (by decide) hrow5)).other (B' := w2.heap.size) (by omega) (.slice (some ⟨g', 0, none⟩) (pre.length + 1) cap'); have hc1 := hv1.cell; have hf1 := hv1.frozen; have fin1 := (KeepsOthers.of_grownBy (grown_below D5 none) (fun j o e => by cases e)).trans hk2; have fin2 := (D5.mono hB.size).trans hb2; have hr3 : (w4.setCell ⟨w2.heap.size, 0, none⟩ (.slice (some ⟨g', 0, none⟩) (pre.length + 1) cap')).ownsRow w2.heap.size 43 1 (.slice (some ⟨g', 0, none⟩) (pre.length + 1) cap') (pre ++ [x]).length (flc (rs ++ [r'])) := by simpa [flc] using hr2
                apply hK; clear hK K
                refine rdy (rs := [10]) (by kernel_rfl) (by simp) ?_
                refine arc rfl (fun K hK => ?_) ?_
                ·go_simp
                 apply hK; clear hK K
                 refine wpAnyIn_done (by kernel_rfl) ?_ _
                 exact ⟨fin1.from _, ⟨fin2, kS4.trans kS.symm⟩, ⟨⟨rs ++ [r'], Mn.prods_snoc hrs hr'.cop, _, hv2, hr3, trivial⟩, kS4⟩, hB.trans fin2⟩
                exact arn
               exact arn
              exact arn
             exact arn
            exact arn
           exact arn
          exact arn
         refine arc rfl (fun K hK => ?_) ?_
         ·go_simp
          apply hK; clear hK K
          refine rdy (rs := [0, 5]) (by kernel_rfl) (by simp) ?_
          refine arc rfl (fun K hK => ?_) ?_
          ·go_simp
           apply hK; clear hK K
           refine rdy (rs := [5]) (by kernel_rfl) (by simp) ?_
           refine arc rfl (fun K hK => ?_) ?_
           ·go_simp
            apply hK; clear hK K
            refine rdy (rs := [6]) (by kernel_rfl) (by simp) ?_
            refine arc rfl (fun K hK => ?_) ?_
            ·go_simp; refine ⟨trivial, (CallsIn.inRound l' (callsIn_wide.2 (long_mean.length x.1 x.2.1 _))).mono ?_⟩; rintro e w3 ⟨rfl, b3⟩; have D3 : Below W.heap.size W w3 := ((Below.refl W.heap.size W).drew).trans b3; obtain ⟨r', n1, hr', r1⟩ := Fl.fop_run Try.prog .mul (.inr (.inr (.inl rfl))) 43 (FloatKind.f64.nearest x.2.2) (FloatKind.f64.nearest (Mn.wl x.1 x.2.1)) w3; have D5 : Below W.heap.size W (w3.drewN n1) := D3.trans (below_draw w3 n1); have cv3 := (boxed_on bv D3).cell; have bv5 := boxed_on bv D5; have hrow5 := own_on hrow D5; have cv5 := bv5.cell; have kS5 := kS.on D5; have cv5a := (bv5.alloc (.cells #[.float .f64 r'] 43)).cell; dsimp only
             apply hK; clear hK K
             refine rdy (rs := [7]) (by kernel_rfl) (by simp) ?_
             refine arc rfl (fun K hK => ?_) ?_
             ·go_simp
              apply hK; clear hK K
              refine rdy (rs := [8]) (by kernel_rfl) (by simp) ?_
              refine arc rfl (fun K hK => ?_) ?_
              ·go_simp
               apply hK; clear hK K
               refine rdy (rs := [9]) (by kernel_rfl) (by simp) ?_
               refine arc rfl (fun K hK => ?_) ?_
               ·refine step64 rfl (.tmp 23) (.tmp 31) rfl w2.heap.size _ _ _ rfl (hrow5.alloc _) ⟨(w3.drewN n1).heap.size, 0, none⟩ 1 1 [.float .f64 r'] rfl rfl (cell_one_new _ _ _) (by simp [Value.oneCell']) (by unfold maxLen; omega) (by omega) (by have := hB.size; have := D5.size; simp; simp at this; omega) ?_; intro v' w4 hown' hgrow; obtain ⟨g', cap', rfl⟩ := ownsRow_succ hown'; obtain ⟨hv1, hv2, hr2, hk2, hb2⟩ := bv5.appended (by decide) hrow5 (Nat.le_trans hB.size D5.size) (Nat.le_refl _) hown' hgrow; have kS4 := ((kS5.alloc _).kept hgrow (kS5.not_row (by decide) hrow5)).other (B' := w2.heap.size) (by omega) (.slice (some ⟨g', 0, none⟩) (pre.length + 1) cap'); have hc1 := hv1.cell; have hf1 := hv1.frozen; have fin1 := (KeepsOthers.of_grownBy (grown_below D5 none) (fun j o e => by cases e)).trans hk2; have fin2 := (D5.mono hB.size).trans hb2; have hr3 : (w4.setCell ⟨w2.heap.size, 0, none⟩ (.slice (some ⟨g', 0, none⟩) (pre.length + 1) cap')).ownsRow w2.heap.size 43 1 (.slice (some ⟨g', 0, none⟩) (pre.length + 1) cap') (pre ++ [x]).length (flc (rs ++ [r'])) := by simpa [flc] using hr2
                apply hK; clear hK K
                refine rdy (rs := [10]) (by kernel_rfl) (by simp) ?_
                refine arc rfl (fun K hK => ?_) ?_
                ·go_simp
                 apply hK; clear hK K
                 refine wpAnyIn_done (by kernel_rfl) ?_ _
                 exact ⟨fin1.from _, ⟨fin2, kS4.trans kS.symm⟩, ⟨⟨rs ++ [r'], Mn.prods_snoc hrs hr'.cop, _, hv2, hr3, trivial⟩, kS4⟩, hB.trans fin2⟩
                exact arn
               exact arn
              exact arn
             exact arn
            exact arn
           exact arn
          refine arc rfl (fun K hK => ?_) ?_
          ·go_simp
           apply hK; clear hK K
           refine rdy (rs := [0, 6]) (by kernel_rfl) (by simp) ?_
           refine arc rfl (fun K hK => ?_) ?_
           ·go_simp
            apply hK; clear hK K
            refine rdy (rs := [6]) (by kernel_rfl) (by simp) ?_
            refine arc rfl (fun K hK => ?_) ?_
            ·go_simp; refine ⟨trivial, (CallsIn.inRound l' (callsIn_wide.2 (long_mean.length x.1 x.2.1 _))).mono ?_⟩; rintro e w3 ⟨rfl, b3⟩; have D3 : Below W.heap.size W w3 := ((Below.refl W.heap.size W).drew).trans b3; obtain ⟨r', n1, hr', r1⟩ := Fl.fop_run Try.prog .mul (.inr (.inr (.inl rfl))) 43 (FloatKind.f64.nearest x.2.2) (FloatKind.f64.nearest (Mn.wl x.1 x.2.1)) w3; have D5 : Below W.heap.size W (w3.drewN n1) := D3.trans (below_draw w3 n1); have cv3 := (boxed_on bv D3).cell; have bv5 := boxed_on bv D5; have hrow5 := own_on hrow D5; have cv5 := bv5.cell; have kS5 := kS.on D5; have cv5a := (bv5.alloc (.cells #[.float .f64 r'] 43)).cell; dsimp only
             apply hK; clear hK K
             refine rdy (rs := [7]) (by kernel_rfl) (by simp) ?_
             refine arc rfl (fun K hK => ?_) ?_
             ·go_simp
              apply hK; clear hK K
              refine rdy (rs := [8]) (by kernel_rfl) (by simp) ?_
              refine arc rfl (fun K hK => ?_) ?_
              ·go_simp
               apply hK; clear hK K
               refine rdy (rs := [9]) (by kernel_rfl) (by simp) ?_
               refine arc rfl (fun K hK => ?_) ?_
               ·refine step64 rfl (.tmp 23) (.tmp 31) rfl w2.heap.size _ _ _ rfl (hrow5.alloc _) ⟨(w3.drewN n1).heap.size, 0, none⟩ 1 1 [.float .f64 r'] rfl rfl (cell_one_new _ _ _) (by simp [Value.oneCell']) (by unfold maxLen; omega) (by omega) (by have := hB.size; have := D5.size; simp; simp at this; omega) ?_; intro v' w4 hown' hgrow; obtain ⟨g', cap', rfl⟩ := ownsRow_succ hown'; obtain ⟨hv1, hv2, hr2, hk2, hb2⟩ := bv5.appended (by decide) hrow5 (Nat.le_trans hB.size D5.size) (Nat.le_refl _) hown' hgrow; have kS4 := ((kS5.alloc _).kept hgrow (kS5.not_row (by decide) hrow5)).other (B' := w2.heap.size) (by omega) (.slice (some ⟨g', 0, none⟩) (pre.length + 1) cap'); have hc1 := hv1.cell; have hf1 := hv1.frozen; have fin1 := (KeepsOthers.of_grownBy (grown_below D5 none) (fun j o e => by cases e)).trans hk2; have fin2 := (D5.mono hB.size).trans hb2; have hr3 : (w4.setCell ⟨w2.heap.size, 0, none⟩ (.slice (some ⟨g', 0, none⟩) (pre.length + 1) cap')).ownsRow w2.heap.size 43 1 (.slice (some ⟨g', 0, none⟩) (pre.length + 1) cap') (pre ++ [x]).length (flc (rs ++ [r'])) := by simpa [flc] using hr2
                apply hK; clear hK K
                refine rdy (rs := [10]) (by kernel_rfl) (by simp) ?_
                refine arc rfl (fun K hK => ?_) ?_
                ·go_simp
                 apply hK; clear hK K
                 refine wpAnyIn_done (by kernel_rfl) ?_ _
                 exact ⟨fin1.from _, ⟨fin2, kS4.trans kS.symm⟩, ⟨⟨rs ++ [r'], Mn.prods_snoc hrs hr'.cop, _, hv2, hr3, trivial⟩, kS4⟩, hB.trans fin2⟩
                exact arn
               exact arn
              exact arn
             exact arn
            exact arn
           refine arc rfl (fun K hK => ?_) ?_
           ·go_simp; refine ⟨trivial, (CallsIn.inRound l' (callsIn_wide.2 (long_mean.length x.1 x.2.1 _))).mono ?_⟩; rintro e w3 ⟨rfl, b3⟩; have D3 : Below W.heap.size W w3 := ((Below.refl W.heap.size W).drew).trans b3; obtain ⟨r', n1, hr', r1⟩ := Fl.fop_run Try.prog .mul (.inr (.inr (.inl rfl))) 43 (FloatKind.f64.nearest x.2.2) (FloatKind.f64.nearest (Mn.wl x.1 x.2.1)) w3; have D5 : Below W.heap.size W (w3.drewN n1) := D3.trans (below_draw w3 n1); have cv3 := (boxed_on bv D3).cell; have bv5 := boxed_on bv D5; have hrow5 := own_on hrow D5; have cv5 := bv5.cell; have kS5 := kS.on D5; have cv5a := (bv5.alloc (.cells #[.float .f64 r'] 43)).cell; dsimp only
            apply hK; clear hK K
            refine rdy (rs := [0, 7]) (by kernel_rfl) (by simp) ?_
            refine arc rfl (fun K hK => ?_) ?_
            ·go_simp
             apply hK; clear hK K
             refine rdy (rs := [7]) (by kernel_rfl) (by simp) ?_
             refine arc rfl (fun K hK => ?_) ?_
             ·go_simp
              apply hK; clear hK K
              refine rdy (rs := [8]) (by kernel_rfl) (by simp) ?_
              refine arc rfl (fun K hK => ?_) ?_
              ·go_simp
               apply hK; clear hK K
               refine rdy (rs := [9]) (by kernel_rfl) (by simp) ?_
               refine arc rfl (fun K hK => ?_) ?_
               ·refine step64 rfl (.tmp 23) (.tmp 31) rfl w2.heap.size _ _ _ rfl (hrow5.alloc _) ⟨(w3.drewN n1).heap.size, 0, none⟩ 1 1 [.float .f64 r'] rfl rfl (cell_one_new _ _ _) (by simp [Value.oneCell']) (by unfold maxLen; omega) (by omega) (by have := hB.size; have := D5.size; simp; simp at this; omega) ?_; intro v' w4 hown' hgrow; obtain ⟨g', cap', rfl⟩ := ownsRow_succ hown'; obtain ⟨hv1, hv2, hr2, hk2, hb2⟩ := bv5.appended (by decide) hrow5 (Nat.le_trans hB.size D5.size) (Nat.le_refl _) hown' hgrow; have kS4 := ((kS5.alloc _).kept hgrow (kS5.not_row (by decide) hrow5)).other (B' := w2.heap.size) (by omega) (.slice (some ⟨g', 0, none⟩) (pre.length + 1) cap'); have hc1 := hv1.cell; have hf1 := hv1.frozen; have fin1 := (KeepsOthers.of_grownBy (grown_below D5 none) (fun j o e => by cases e)).trans hk2; have fin2 := (D5.mono hB.size).trans hb2; have hr3 : (w4.setCell ⟨w2.heap.size, 0, none⟩ (.slice (some ⟨g', 0, none⟩) (pre.length + 1) cap')).ownsRow w2.heap.size 43 1 (.slice (some ⟨g', 0, none⟩) (pre.length + 1) cap') (pre ++ [x]).length (flc (rs ++ [r'])) := by simpa [flc] using hr2
                apply hK; clear hK K
                refine rdy (rs := [10]) (by kernel_rfl) (by simp) ?_
                refine arc rfl (fun K hK => ?_) ?_
                ·go_simp
                 apply hK; clear hK K
                 refine wpAnyIn_done (by kernel_rfl) ?_ _
                 exact ⟨fin1.from _, ⟨fin2, kS4.trans kS.symm⟩, ⟨⟨rs ++ [r'], Mn.prods_snoc hrs hr'.cop, _, hv2, hr3, trivial⟩, kS4⟩, hB.trans fin2⟩
                exact arn
               exact arn
              exact arn
             exact arn
            refine arc rfl (fun K hK => ?_) ?_
            ·go_simp
             apply hK; clear hK K
             refine rdy (rs := [0, 8]) (by kernel_rfl) (by simp) ?_
             refine arc rfl (fun K hK => ?_) ?_
             ·go_simp
              apply hK; clear hK K
              refine rdy (rs := [8]) (by kernel_rfl) (by simp) ?_
              refine arc rfl (fun K hK => ?_) ?_
              ·go_simp
               apply hK; clear hK K
               refine rdy (rs := [9]) (by kernel_rfl) (by simp) ?_
               refine arc rfl (fun K hK => ?_) ?_
               ·refine step64 rfl (.tmp 23) (.tmp 31) rfl w2.heap.size _ _ _ rfl (hrow5.alloc _) ⟨(w3.drewN n1).heap.size, 0, none⟩ 1 1 [.float .f64 r'] rfl rfl (cell_one_new _ _ _) (by simp [Value.oneCell']) (by unfold maxLen; omega) (by omega) (by have := hB.size; have := D5.size; simp; simp at this; omega) ?_; intro v' w4 hown' hgrow; obtain ⟨g', cap', rfl⟩ := ownsRow_succ hown'; obtain ⟨hv1, hv2, hr2, hk2, hb2⟩ := bv5.appended (by decide) hrow5 (Nat.le_trans hB.size D5.size) (Nat.le_refl _) hown' hgrow; have kS4 := ((kS5.alloc _).kept hgrow (kS5.not_row (by decide) hrow5)).other (B' := w2.heap.size) (by omega) (.slice (some ⟨g', 0, none⟩) (pre.length + 1) cap'); have hc1 := hv1.cell; have hf1 := hv1.frozen; have fin1 := (KeepsOthers.of_grownBy (grown_below D5 none) (fun j o e => by cases e)).trans hk2; have fin2 := (D5.mono hB.size).trans hb2; have hr3 : (w4.setCell ⟨w2.heap.size, 0, none⟩ (.slice (some ⟨g', 0, none⟩) (pre.length + 1) cap')).ownsRow w2.heap.size 43 1 (.slice (some ⟨g', 0, none⟩) (pre.length + 1) cap') (pre ++ [x]).length (flc (rs ++ [r'])) := by simpa [flc] using hr2
                apply hK; clear hK K
                refine rdy (rs := [10]) (by kernel_rfl) (by simp) ?_
                refine arc rfl (fun K hK => ?_) ?_
                ·go_simp
                 apply hK; clear hK K
                 refine wpAnyIn_done (by kernel_rfl) ?_ _
                 exact ⟨fin1.from _, ⟨fin2, kS4.trans kS.symm⟩, ⟨⟨rs ++ [r'], Mn.prods_snoc hrs hr'.cop, _, hv2, hr3, trivial⟩, kS4⟩, hB.trans fin2⟩
                exact arn
               exact arn
              exact arn
             refine arc rfl (fun K hK => ?_) ?_
             ·go_simp
              apply hK; clear hK K
              refine rdy (rs := [0]) (by kernel_rfl) (by simp) ?_
              refine arc rfl (fun K hK => ?_) ?_
              ·go_simp
               apply hK; clear hK K
               refine rdy (rs := [9]) (by kernel_rfl) (by simp) ?_
               refine arc rfl (fun K hK => ?_) ?_
               ·refine step64 rfl (.tmp 23) (.tmp 31) rfl w2.heap.size _ _ _ rfl (hrow5.alloc _) ⟨(w3.drewN n1).heap.size, 0, none⟩ 1 1 [.float .f64 r'] rfl rfl (cell_one_new _ _ _) (by simp [Value.oneCell']) (by unfold maxLen; omega) (by omega) (by have := hB.size; have := D5.size; simp; simp at this; omega) ?_; intro v' w4 hown' hgrow; obtain ⟨g', cap', rfl⟩ := ownsRow_succ hown'; obtain ⟨hv1, hv2, hr2, hk2, hb2⟩ := bv5.appended (by decide) hrow5 (Nat.le_trans hB.size D5.size) (Nat.le_refl _) hown' hgrow; have kS4 := ((kS5.alloc _).kept hgrow (kS5.not_row (by decide) hrow5)).other (B' := w2.heap.size) (by omega) (.slice (some ⟨g', 0, none⟩) (pre.length + 1) cap'); have hc1 := hv1.cell; have hf1 := hv1.frozen; have fin1 := (KeepsOthers.of_grownBy (grown_below D5 none) (fun j o e => by cases e)).trans hk2; have fin2 := (D5.mono hB.size).trans hb2; have hr3 : (w4.setCell ⟨w2.heap.size, 0, none⟩ (.slice (some ⟨g', 0, none⟩) (pre.length + 1) cap')).ownsRow w2.heap.size 43 1 (.slice (some ⟨g', 0, none⟩) (pre.length + 1) cap') (pre ++ [x]).length (flc (rs ++ [r'])) := by simpa [flc] using hr2
                apply hK; clear hK K
                refine rdy (rs := [10]) (by kernel_rfl) (by simp) ?_
                refine arc rfl (fun K hK => ?_) ?_
                ·go_simp
                 apply hK; clear hK K
                 refine wpAnyIn_done (by kernel_rfl) ?_ _
                 exact ⟨fin1.from _, ⟨fin2, kS4.trans kS.symm⟩, ⟨⟨rs ++ [r'], Mn.prods_snoc hrs hr'.cop, _, hv2, hr3, trivial⟩, kS4⟩, hB.trans fin2⟩
                exact arn
               exact arn
              exact arn
             exact arn
            exact arn
           exact arn
          exact arn
         exact arn
        refine arc rfl (fun K hK => ?_) ?_
        ·go_simp
         apply hK; clear hK K
         refine rdy (rs := [0, 3, 5]) (by kernel_rfl) (by simp) ?_
         refine arc rfl (fun K hK => ?_) ?_
         ·go_simp
          apply hK; clear hK K
          refine rdy (rs := [3, 5]) (by kernel_rfl) (by simp) ?_
          refine arc rfl (fun K hK => ?_) ?_
          ·go_simp; refine ⟨trivial, (CallsIn.inRound l' (callsIn_wide.2 (real_of x.2.2 _))).mono ?_⟩; rintro e w' ⟨rfl, rfl⟩; dsimp only
           apply hK; clear hK K
           refine rdy (rs := [5]) (by kernel_rfl) (by simp) ?_
           refine arc rfl (fun K hK => ?_) ?_
           ·go_simp
            apply hK; clear hK K
            refine rdy (rs := [6]) (by kernel_rfl) (by simp) ?_
            refine arc rfl (fun K hK => ?_) ?_
            ·go_simp; refine ⟨trivial, (CallsIn.inRound l' (callsIn_wide.2 (long_mean.length x.1 x.2.1 _))).mono ?_⟩; rintro e w3 ⟨rfl, b3⟩; have D3 : Below W.heap.size W w3 := ((Below.refl W.heap.size W).drew).trans b3; obtain ⟨r', n1, hr', r1⟩ := Fl.fop_run Try.prog .mul (.inr (.inr (.inl rfl))) 43 (FloatKind.f64.nearest x.2.2) (FloatKind.f64.nearest (Mn.wl x.1 x.2.1)) w3; have D5 : Below W.heap.size W (w3.drewN n1) := D3.trans (below_draw w3 n1); have cv3 := (boxed_on bv D3).cell; have bv5 := boxed_on bv D5; have hrow5 := own_on hrow D5; have cv5 := bv5.cell; have kS5 := kS.on D5; have cv5a := (bv5.alloc (.cells #[.float .f64 r'] 43)).cell; dsimp only
             apply hK; clear hK K
             refine rdy (rs := [7]) (by kernel_rfl) (by simp) ?_
             refine arc rfl (fun K hK => ?_) ?_
             ·go_simp
              apply hK; clear hK K
              refine rdy (rs := [8]) (by kernel_rfl) (by simp) ?_
              refine arc rfl (fun K hK => ?_) ?_
              ·go_simp
               apply hK; clear hK K
               refine rdy (rs := [9]) (by kernel_rfl) (by simp) ?_
               refine arc rfl (fun K hK => ?_) ?_
               ·refine step64 rfl (.tmp 23) (.tmp 31) rfl w2.heap.size _ _ _ rfl (hrow5.alloc _) ⟨(w3.drewN n1).heap.size, 0, none⟩ 1 1 [.float .f64 r'] rfl rfl (cell_one_new _ _ _) (by simp [Value.oneCell']) (by unfold maxLen; omega) (by omega) (by have := hB.size; have := D5.size; simp; simp at this; omega) ?_; intro v' w4 hown' hgrow; obtain ⟨g', cap', rfl⟩ := ownsRow_succ hown'; obtain ⟨hv1, hv2, hr2, hk2, hb2⟩ := bv5.appended (by decide) hrow5 (Nat.le_trans hB.size D5.size) (Nat.le_refl _) hown' hgrow; have kS4 := ((kS5.alloc _).kept hgrow (kS5.not_row (by decide) hrow5)).other (B' := w2.heap.size) (by omega) (.slice (some ⟨g', 0, none⟩) (pre.length + 1) cap'); have hc1 := hv1.cell; have hf1 := hv1.frozen; have fin1 := (KeepsOthers.of_grownBy (grown_below D5 none) (fun j o e => by cases e)).trans hk2; have fin2 := (D5.mono hB.size).trans hb2; have hr3 : (w4.setCell ⟨w2.heap.size, 0, none⟩ (.slice (some ⟨g', 0, none⟩) (pre.length + 1) cap')).ownsRow w2.heap.size 43 1 (.slice (some ⟨g', 0, none⟩) (pre.length + 1) cap') (pre ++ [x]).length (flc (rs ++ [r'])) := by simpa [flc] using hr2
                apply hK; clear hK K
                refine rdy (rs := [10]) (by kernel_rfl) (by simp) ?_
                refine arc rfl (fun K hK => ?_) ?_
                ·go_simp
                 apply hK; clear hK K
                 refine wpAnyIn_done (by kernel_rfl) ?_ _
                 exact ⟨fin1.from _, ⟨fin2, kS4.trans kS.symm⟩, ⟨⟨rs ++ [r'], Mn.prods_snoc hrs hr'.cop, _, hv2, hr3, trivial⟩, kS4⟩, hB.trans fin2⟩
                exact arn
               exact arn
              exact arn
             exact arn
            exact arn
           exact arn
          refine arc rfl (fun K hK => ?_) ?_
          ·go_simp
           apply hK; clear hK K
           refine rdy (rs := [3]) (by kernel_rfl) (by simp) ?_
           refine arc rfl (fun K hK => ?_) ?_
           ·go_simp; refine ⟨trivial, (CallsIn.inRound l' (callsIn_wide.2 (real_of x.2.2 _))).mono ?_⟩; rintro e w' ⟨rfl, rfl⟩; dsimp only
            apply hK; clear hK K
            refine rdy (rs := [6]) (by kernel_rfl) (by simp) ?_
            refine arc rfl (fun K hK => ?_) ?_
            ·go_simp; refine ⟨trivial, (CallsIn.inRound l' (callsIn_wide.2 (long_mean.length x.1 x.2.1 _))).mono ?_⟩; rintro e w3 ⟨rfl, b3⟩; have D3 : Below W.heap.size W w3 := ((Below.refl W.heap.size W).drew).trans b3; obtain ⟨r', n1, hr', r1⟩ := Fl.fop_run Try.prog .mul (.inr (.inr (.inl rfl))) 43 (FloatKind.f64.nearest x.2.2) (FloatKind.f64.nearest (Mn.wl x.1 x.2.1)) w3; have D5 : Below W.heap.size W (w3.drewN n1) := D3.trans (below_draw w3 n1); have cv3 := (boxed_on bv D3).cell; have bv5 := boxed_on bv D5; have hrow5 := own_on hrow D5; have cv5 := bv5.cell; have kS5 := kS.on D5; have cv5a := (bv5.alloc (.cells #[.float .f64 r'] 43)).cell; dsimp only
             apply hK; clear hK K
             refine rdy (rs := [7]) (by kernel_rfl) (by simp) ?_
             refine arc rfl (fun K hK => ?_) ?_
             ·go_simp
              apply hK; clear hK K
              refine rdy (rs := [8]) (by kernel_rfl) (by simp) ?_
              refine arc rfl (fun K hK => ?_) ?_
              ·go_simp
               apply hK; clear hK K
               refine rdy (rs := [9]) (by kernel_rfl) (by simp) ?_
               refine arc rfl (fun K hK => ?_) ?_
               ·refine step64 rfl (.tmp 23) (.tmp 31) rfl w2.heap.size _ _ _ rfl (hrow5.alloc _) ⟨(w3.drewN n1).heap.size, 0, none⟩ 1 1 [.float .f64 r'] rfl rfl (cell_one_new _ _ _) (by simp [Value.oneCell']) (by unfold maxLen; omega) (by omega) (by have := hB.size; have := D5.size; simp; simp at this; omega) ?_; intro v' w4 hown' hgrow; obtain ⟨g', cap', rfl⟩ := ownsRow_succ hown'; obtain ⟨hv1, hv2, hr2, hk2, hb2⟩ := bv5.appended (by decide) hrow5 (Nat.le_trans hB.size D5.size) (Nat.le_refl _) hown' hgrow; have kS4 := ((kS5.alloc _).kept hgrow (kS5.not_row (by decide) hrow5)).other (B' := w2.heap.size) (by omega) (.slice (some ⟨g', 0, none⟩) (pre.length + 1) cap'); have hc1 := hv1.cell; have hf1 := hv1.frozen; have fin1 := (KeepsOthers.of_grownBy (grown_below D5 none) (fun j o e => by cases e)).trans hk2; have fin2 := (D5.mono hB.size).trans hb2; have hr3 : (w4.setCell ⟨w2.heap.size, 0, none⟩ (.slice (some ⟨g', 0, none⟩) (pre.length + 1) cap')).ownsRow w2.heap.size 43 1 (.slice (some ⟨g', 0, none⟩) (pre.length + 1) cap') (pre ++ [x]).length (flc (rs ++ [r'])) := by simpa [flc] using hr2
                apply hK; clear hK K
                refine rdy (rs := [10]) (by kernel_rfl) (by simp) ?_
                refine arc rfl (fun K hK => ?_) ?_
                ·go_simp
                 apply hK; clear hK K
                 refine wpAnyIn_done (by kernel_rfl) ?_ _
                 exact ⟨fin1.from _, ⟨fin2, kS4.trans kS.symm⟩, ⟨⟨rs ++ [r'], Mn.prods_snoc hrs hr'.cop, _, hv2, hr3, trivial⟩, kS4⟩, hB.trans fin2⟩
                exact arn
               exact arn
              exact arn
             exact arn
            exact arn
           exact arn
          exact arn
         refine arc rfl (fun K hK => ?_) ?_
         ·go_simp; refine ⟨trivial, (CallsIn.inRound l' (callsIn_wide.2 (real_of x.2.2 _))).mono ?_⟩; rintro e w' ⟨rfl, rfl⟩; dsimp only
          apply hK; clear hK K
          refine rdy (rs := [0, 5]) (by kernel_rfl) (by simp) ?_
          refine arc rfl (fun K hK => ?_) ?_
          ·go_simp
           apply hK; clear hK K
           refine rdy (rs := [5]) (by kernel_rfl) (by simp) ?_
           refine arc rfl (fun K hK => ?_) ?_
           ·go_simp
            apply hK; clear hK K
            refine rdy (rs := [6]) (by kernel_rfl) (by simp) ?_
            refine arc rfl (fun K hK => ?_) ?_
            ·go_simp; refine ⟨trivial, (CallsIn.inRound l' (callsIn_wide.2 (long_mean.length x.1 x.2.1 _))).mono ?_⟩; rintro e w3 ⟨rfl, b3⟩; have D3 : Below W.heap.size W w3 := ((Below.refl W.heap.size W).drew).trans b3; obtain ⟨r', n1, hr', r1⟩ := Fl.fop_run Try.prog .mul (.inr (.inr (.inl rfl))) 43 (FloatKind.f64.nearest x.2.2) (FloatKind.f64.nearest (Mn.wl x.1 x.2.1)) w3; have D5 : Below W.heap.size W (w3.drewN n1) := D3.trans (below_draw w3 n1); have cv3 := (boxed_on bv D3).cell; have bv5 := boxed_on bv D5; have hrow5 := own_on hrow D5; have cv5 := bv5.cell; have kS5 := kS.on D5; have cv5a := (bv5.alloc (.cells #[.float .f64 r'] 43)).cell; dsimp only
             apply hK; clear hK K
             refine rdy (rs := [7]) (by kernel_rfl) (by simp) ?_
             refine arc rfl (fun K hK => ?_) ?_
             ·go_simp
              apply hK; clear hK K
              refine rdy (rs := [8]) (by kernel_rfl) (by simp) ?_
              refine arc rfl (fun K hK => ?_) ?_
              ·go_simp
               apply hK; clear hK K
               refine rdy (rs := [9]) (by kernel_rfl) (by simp) ?_
               refine arc rfl (fun K hK => ?_) ?_
               ·refine step64 rfl (.tmp 23) (.tmp 31) rfl w2.heap.size _ _ _ rfl (hrow5.alloc _) ⟨(w3.drewN n1).heap.size, 0, none⟩ 1 1 [.float .f64 r'] rfl rfl (cell_one_new _ _ _) (by simp [Value.oneCell']) (by unfold maxLen; omega) (by omega) (by have := hB.size; have := D5.size; simp; simp at this; omega) ?_; intro v' w4 hown' hgrow; obtain ⟨g', cap', rfl⟩ := ownsRow_succ hown'; obtain ⟨hv1, hv2, hr2, hk2, hb2⟩ := bv5.appended (by decide) hrow5 (Nat.le_trans hB.size D5.size) (Nat.le_refl _) hown' hgrow; have kS4 := ((kS5.alloc _).kept hgrow (kS5.not_row (by decide) hrow5)).other (B' := w2.heap.size) (by omega) (.slice (some ⟨g', 0, none⟩) (pre.length + 1) cap'); have hc1 := hv1.cell; have hf1 := hv1.frozen; have fin1 := (KeepsOthers.of_grownBy (grown_below D5 none) (fun j o e => by cases e)).trans hk2; have fin2 := (D5.mono hB.size).trans hb2; have hr3 : (w4.setCell ⟨w2.heap.size, 0, none⟩ (.slice (some ⟨g', 0, none⟩) (pre.length + 1) cap')).ownsRow w2.heap.size 43 1 (.slice (some ⟨g', 0, none⟩) (pre.length + 1) cap') (pre ++ [x]).length (flc (rs ++ [r'])) := by simpa [flc] using hr2
                apply hK; clear hK K
                refine rdy (rs := [10]) (by kernel_rfl) (by simp) ?_
                refine arc rfl (fun K hK => ?_) ?_
                ·go_simp
                 apply hK; clear hK K
                 refine wpAnyIn_done (by kernel_rfl) ?_ _
                 exact ⟨fin1.from _, ⟨fin2, kS4.trans kS.symm⟩, ⟨⟨rs ++ [r'], Mn.prods_snoc hrs hr'.cop, _, hv2, hr3, trivial⟩, kS4⟩, hB.trans fin2⟩
                exact arn
               exact arn
              exact arn
             exact arn
            exact arn
           exact arn
          refine arc rfl (fun K hK => ?_) ?_
          ·go_simp
           apply hK; clear hK K
           refine rdy (rs := [0, 6]) (by kernel_rfl) (by simp) ?_
           refine arc rfl (fun K hK => ?_) ?_
           ·go_simp
            apply hK; clear hK K
            refine rdy (rs := [6]) (by kernel_rfl) (by simp) ?_
            refine arc rfl (fun K hK => ?_) ?_
            ·go_simp; refine ⟨trivial, (CallsIn.inRound l' (callsIn_wide.2 (long_mean.length x.1 x.2.1 _))).mono ?_⟩; rintro e w3 ⟨rfl, b3⟩; have D3 : Below W.heap.size W w3 := ((Below.refl W.heap.size W).drew).trans b3; obtain ⟨r', n1, hr', r1⟩ := Fl.fop_run Try.prog .mul (.inr (.inr (.inl rfl))) 43 (FloatKind.f64.nearest x.2.2) (FloatKind.f64.nearest (Mn.wl x.1 x.2.1)) w3; have D5 : Below W.heap.size W (w3.drewN n1) := D3.trans (below_draw w3 n1); have cv3 := (boxed_on bv D3).cell; have bv5 := boxed_on bv D5; have hrow5 := own_on hrow D5; have cv5 := bv5.cell; have kS5 := kS.on D5; have cv5a := (bv5.alloc (.cells #[.float .f64 r'] 43)).cell; dsimp only
             apply hK; clear hK K
             refine rdy (rs := [7]) (by kernel_rfl) (by simp) ?_
             refine arc rfl (fun K hK => ?_) ?_
             ·go_simp
              apply hK; clear hK K
              refine rdy (rs := [8]) (by kernel_rfl) (by simp) ?_
              refine arc rfl (fun K hK => ?_) ?_
              ·go_simp
               apply hK; clear hK K
               refine rdy (rs := [9]) (by kernel_rfl) (by simp) ?_
               refine arc rfl (fun K hK => ?_) ?_
               ·refine step64 rfl (.tmp 23) (.tmp 31) rfl w2.heap.size _ _ _ rfl (hrow5.alloc _) ⟨(w3.drewN n1).heap.size, 0, none⟩ 1 1 [.float .f64 r'] rfl rfl (cell_one_new _ _ _) (by simp [Value.oneCell']) (by unfold maxLen; omega) (by omega) (by have := hB.size; have := D5.size; simp; simp at this; omega) ?_; intro v' w4 hown' hgrow; obtain ⟨g', cap', rfl⟩ := ownsRow_succ hown'; obtain ⟨hv1, hv2, hr2, hk2, hb2⟩ := bv5.appended (by decide) hrow5 (Nat.le_trans hB.size D5.size) (Nat.le_refl _) hown' hgrow; have kS4 := ((kS5.alloc _).kept hgrow (kS5.not_row (by decide) hrow5)).other (B' := w2.heap.size) (by omega) (.slice (some ⟨g', 0, none⟩) (pre.length + 1) cap'); have hc1 := hv1.cell; have hf1 := hv1.frozen; have fin1 := (KeepsOthers.of_grownBy (grown_below D5 none) (fun j o e => by cases e)).trans hk2; have fin2 := (D5.mono hB.size).trans hb2; have hr3 : (w4.setCell ⟨w2.heap.size, 0, none⟩ (.slice (some ⟨g', 0, none⟩) (pre.length + 1) cap')).ownsRow w2.heap.size 43 1 (.slice (some ⟨g', 0, none⟩) (pre.length + 1) cap') (pre ++ [x]).length (flc (rs ++ [r'])) := by simpa [flc] using hr2
                apply hK; clear hK K
                refine rdy (rs := [10]) (by kernel_rfl) (by simp) ?_
                refine arc rfl (fun K hK => ?_) ?_
                ·go_simp
                 apply hK; clear hK K
                 refine wpAnyIn_done (by kernel_rfl) ?_ _
                 exact ⟨fin1.from _, ⟨fin2, kS4.trans kS.symm⟩, ⟨⟨rs ++ [r'], Mn.prods_snoc hrs hr'.cop, _, hv2, hr3, trivial⟩, kS4⟩, hB.trans fin2⟩
                exact arn
               exact arn
              exact arn
             exact arn
            exact arn
           refine arc rfl (fun K hK => ?_) ?_
           ·go_simp; refine ⟨trivial, (CallsIn.inRound l' (callsIn_wide.2 (long_mean.length x.1 x.2.1 _))).mono ?_⟩; rintro e w3 ⟨rfl, b3⟩; have D3 : Below W.heap.size W w3 := ((Below.refl W.heap.size W).drew).trans b3; obtain ⟨r', n1, hr', r1⟩ := Fl.fop_run Try.prog .mul (.inr (.inr (.inl rfl))) 43 (FloatKind.f64.nearest x.2.2) (FloatKind.f64.nearest (Mn.wl x.1 x.2.1)) w3; have D5 : Below W.heap.size W (w3.drewN n1) := D3.trans (below_draw w3 n1); have cv3 := (boxed_on bv D3).cell; have bv5 := boxed_on bv D5; have hrow5 := own_on hrow D5; have cv5 := bv5.cell; have kS5 := kS.on D5; have cv5a := (bv5.alloc (.cells #[.float .f64 r'] 43)).cell; dsimp only
            apply hK; clear hK K
            refine rdy (rs := [0, 7]) (by kernel_rfl) (by simp) ?_
            refine arc rfl (fun K hK => ?_) ?_
            ·go_simp
             apply hK; clear hK K
             refine rdy (rs := [7]) (by kernel_rfl) (by simp) ?_
             refine arc rfl (fun K hK => ?_) ?_
             ·go_simp
              apply hK; clear hK K
              refine rdy (rs := [8]) (by kernel_rfl) (by simp) ?_
              refine arc rfl (fun K hK => ?_) ?_
              ·go_simp
               apply hK; clear hK K
               refine rdy (rs := [9]) (by kernel_rfl) (by simp) ?_
               refine arc rfl (fun K hK => ?_) ?_
               ·refine step64 rfl (.tmp 23) (.tmp 31) rfl w2.heap.size _ _ _ rfl (hrow5.alloc _) ⟨(w3.drewN n1).heap.size, 0, none⟩ 1 1 [.float .f64 r'] rfl rfl (cell_one_new _ _ _) (by simp [Value.oneCell']) (by unfold maxLen; omega) (by omega) (by have := hB.size; have := D5.size; simp; simp at this; omega) ?_; intro v' w4 hown' hgrow; obtain ⟨g', cap', rfl⟩ := ownsRow_succ hown'; obtain ⟨hv1, hv2, hr2, hk2, hb2⟩ := bv5.appended (by decide) hrow5 (Nat.le_trans hB.size D5.size) (Nat.le_refl _) hown' hgrow; have kS4 := ((kS5.alloc _).kept hgrow (kS5.not_row (by decide) hrow5)).other (B' := w2.heap.size) (by omega) (.slice (some ⟨g', 0, none⟩) (pre.length + 1) cap'); have hc1 := hv1.cell; have hf1 := hv1.frozen; have fin1 := (KeepsOthers.of_grownBy (grown_below D5 none) (fun j o e => by cases e)).trans hk2; have fin2 := (D5.mono hB.size).trans hb2; have hr3 : (w4.setCell ⟨w2.heap.size, 0, none⟩ (.slice (some ⟨g', 0, none⟩) (pre.length + 1) cap')).ownsRow w2.heap.size 43 1 (.slice (some ⟨g', 0, none⟩) (pre.length + 1) cap') (pre ++ [x]).length (flc (rs ++ [r'])) := by simpa [flc] using hr2
                apply hK; clear hK K
                refine rdy (rs := [10]) (by kernel_rfl) (by simp) ?_
                refine arc rfl (fun K hK => ?_) ?_
                ·go_simp
                 apply hK; clear hK K
                 refine wpAnyIn_done (by kernel_rfl) ?_ _
                 exact ⟨fin1.from _, ⟨fin2, kS4.trans kS.symm⟩, ⟨⟨rs ++ [r'], Mn.prods_snoc hrs hr'.cop, _, hv2, hr3, trivial⟩, kS4⟩, hB.trans fin2⟩
                exact arn
               exact arn
              exact arn
             exact arn
            refine arc rfl (fun K hK => ?_) ?_
            ·go_simp
             apply hK; clear hK K
             refine rdy (rs := [0, 8]) (by kernel_rfl) (by simp) ?_
             refine arc rfl (fun K hK => ?_) ?_
             ·go_simp
              apply hK; clear hK K
              refine rdy (rs := [8]) (by kernel_rfl) (by simp) ?_
              refine arc rfl (fun K hK => ?_) ?_
              ·go_simp
               apply hK; clear hK K
               refine rdy (rs := [9]) (by kernel_rfl) (by simp) ?_
               refine arc rfl (fun K hK => ?_) ?_
               ·refine step64 rfl (.tmp 23) (.tmp 31) rfl w2.heap.size _ _ _ rfl (hrow5.alloc _) ⟨(w3.drewN n1).heap.size, 0, none⟩ 1 1 [.float .f64 r'] rfl rfl (cell_one_new _ _ _) (by simp [Value.oneCell']) (by unfold maxLen; omega) (by omega) (by have := hB.size; have := D5.size; simp; simp at this; omega) ?_; intro v' w4 hown' hgrow; obtain ⟨g', cap', rfl⟩ := ownsRow_succ hown'; obtain ⟨hv1, hv2, hr2, hk2, hb2⟩ := bv5.appended (by decide) hrow5 (Nat.le_trans hB.size D5.size) (Nat.le_refl _) hown' hgrow; have kS4 := ((kS5.alloc _).kept hgrow (kS5.not_row (by decide) hrow5)).other (B' := w2.heap.size) (by omega) (.slice (some ⟨g', 0, none⟩) (pre.length + 1) cap'); have hc1 := hv1.cell; have hf1 := hv1.frozen; have fin1 := (KeepsOthers.of_grownBy (grown_below D5 none) (fun j o e => by cases e)).trans hk2; have fin2 := (D5.mono hB.size).trans hb2; have hr3 : (w4.setCell ⟨w2.heap.size, 0, none⟩ (.slice (some ⟨g', 0, none⟩) (pre.length + 1) cap')).ownsRow w2.heap.size 43 1 (.slice (some ⟨g', 0, none⟩) (pre.length + 1) cap') (pre ++ [x]).length (flc (rs ++ [r'])) := by simpa [flc] using hr2
                apply hK; clear hK K
                refine rdy (rs := [10]) (by kernel_rfl) (by simp) ?_
                refine arc rfl (fun K hK => ?_) ?_
                ·go_simp
                 apply hK; clear hK K
                 refine wpAnyIn_done (by kernel_rfl) ?_ _
                 exact ⟨fin1.from _, ⟨fin2, kS4.trans kS.symm⟩, ⟨⟨rs ++ [r'], Mn.prods_snoc hrs hr'.cop, _, hv2, hr3, trivial⟩, kS4⟩, hB.trans fin2⟩
                exact arn
               exact arn
              exact arn
             refine arc rfl (fun K hK => ?_) ?_
             ·go_simp
              apply hK; clear hK K
              refine rdy (rs := [0]) (by kernel_rfl) (by simp) ?_
              refine arc rfl (fun K hK => ?_) ?_
              ·go_simp
               apply hK; clear hK K
               refine rdy (rs := [9]) (by kernel_rfl) (by simp) ?_
               refine arc rfl (fun K hK => ?_) ?_
               ·refine step64 rfl (.tmp 23) (.tmp 31) rfl w2.heap.size _ _ _ rfl (hrow5.alloc _) ⟨(w3.drewN n1).heap.size, 0, none⟩ 1 1 [.float .f64 r'] rfl rfl (cell_one_new _ _ _) (by simp [Value.oneCell']) (by unfold maxLen; omega) (by omega) (by have := hB.size; have := D5.size; simp; simp at this; omega) ?_; intro v' w4 hown' hgrow; obtain ⟨g', cap', rfl⟩ := ownsRow_succ hown'; obtain ⟨hv1, hv2, hr2, hk2, hb2⟩ := bv5.appended (by decide) hrow5 (Nat.le_trans hB.size D5.size) (Nat.le_refl _) hown' hgrow; have kS4 := ((kS5.alloc _).kept hgrow (kS5.not_row (by decide) hrow5)).other (B' := w2.heap.size) (by omega) (.slice (some ⟨g', 0, none⟩) (pre.length + 1) cap'); have hc1 := hv1.cell; have hf1 := hv1.frozen; have fin1 := (KeepsOthers.of_grownBy (grown_below D5 none) (fun j o e => by cases e)).trans hk2; have fin2 := (D5.mono hB.size).trans hb2; have hr3 : (w4.setCell ⟨w2.heap.size, 0, none⟩ (.slice (some ⟨g', 0, none⟩) (pre.length + 1) cap')).ownsRow w2.heap.size 43 1 (.slice (some ⟨g', 0, none⟩) (pre.length + 1) cap') (pre ++ [x]).length (flc (rs ++ [r'])) := by simpa [flc] using hr2
                apply hK; clear hK K
                refine rdy (rs := [10]) (by kernel_rfl) (by simp) ?_
                refine arc rfl (fun K hK => ?_) ?_
                ·go_simp
                 apply hK; clear hK K
                 refine wpAnyIn_done (by kernel_rfl) ?_ _
                 exact ⟨fin1.from _, ⟨fin2, kS4.trans kS.symm⟩, ⟨⟨rs ++ [r'], Mn.prods_snoc hrs hr'.cop, _, hv2, hr3, trivial⟩, kS4⟩, hB.trans fin2⟩
                exact arn
               exact arn
              exact arn
             exact arn
            exact arn
           exact arn
          exact arn
         refine arc rfl (fun K hK => ?_) ?_
         ·go_simp
          apply hK; clear hK K
          refine rdy (rs := [0, 3]) (by kernel_rfl) (by simp) ?_
          refine arc rfl (fun K hK => ?_) ?_
          ·go_simp
           apply hK; clear hK K
           refine rdy (rs := [3]) (by kernel_rfl) (by simp) ?_
           refine arc rfl (fun K hK => ?_) ?_
           ·go_simp; refine ⟨trivial, (CallsIn.inRound l' (callsIn_wide.2 (real_of x.2.2 _))).mono ?_⟩; rintro e w' ⟨rfl, rfl⟩; dsimp only
            apply hK; clear hK K
            refine rdy (rs := [6]) (by kernel_rfl) (by simp) ?_
            refine arc rfl (fun K hK => ?_) ?_
            ·go_simp; refine ⟨trivial, (CallsIn.inRound l' (callsIn_wide.2 (long_mean.length x.1 x.2.1 _))).mono ?_⟩; rintro e w3 ⟨rfl, b3⟩; have D3 : Below W.heap.size W w3 := ((Below.refl W.heap.size W).drew).trans b3; obtain ⟨r', n1, hr', r1⟩ := Fl.fop_run Try.prog .mul (.inr (.inr (.inl rfl))) 43 (FloatKind.f64.nearest x.2.2) (FloatKind.f64.nearest (Mn.wl x.1 x.2.1)) w3; have D5 : Below W.heap.size W (w3.drewN n1) := D3.trans (below_draw w3 n1); have cv3 := (boxed_on bv D3).cell; have bv5 := boxed_on bv D5; have hrow5 := own_on hrow D5; have cv5 := bv5.cell; have kS5 := kS.on D5; have cv5a := (bv5.alloc (.cells #[.float .f64 r'] 43)).cell; dsimp only
             apply hK; clear hK K
             refine rdy (rs := [7]) (by kernel_rfl) (by simp) ?_
             refine arc rfl (fun K hK => ?_) ?_
             ·go_simp
              apply hK; clear hK K
              refine rdy (rs := [8]) (by kernel_rfl) (by simp) ?_
              refine arc rfl (fun K hK => ?_) ?_
              ·go_simp
               apply hK; clear hK K
               refine rdy (rs := [9]) (by kernel_rfl) (by simp) ?_
               refine arc rfl (fun K hK => ?_) ?_
               ·refine step64 rfl (.tmp 23) (.tmp 31) rfl w2.heap.size _ _ _ rfl (hrow5.alloc _) ⟨(w3.drewN n1).heap.size, 0, none⟩ 1 1 [.float .f64 r'] rfl rfl (cell_one_new _ _ _) (by simp [Value.oneCell']) (by unfold maxLen; omega) (by omega) (by have := hB.size; have := D5.size; simp; simp at this; omega) ?_; intro v' w4 hown' hgrow; obtain ⟨g', cap', rfl⟩ := ownsRow_succ hown'; obtain ⟨hv1, hv2, hr2, hk2, hb2⟩ := bv5.appended (by decide) hrow5 (Nat.le_trans hB.size D5.size) (Nat.le_refl _) hown' hgrow; have kS4 := ((kS5.alloc _).kept hgrow (kS5.not_row (by decide) hrow5)).other (B' := w2.heap.size) (by omega) (.slice (some ⟨g', 0, none⟩) (pre.length + 1) cap'); have hc1 := hv1.cell; have hf1 := hv1.frozen; have fin1 := (KeepsOthers.of_grownBy (grown_below D5 none) (fun j o e => by cases e)).trans hk2; have fin2 := (D5.mono hB.size).trans hb2; have hr3 : (w4.setCell ⟨w2.heap.size, 0, none⟩ (.slice (some ⟨g', 0, none⟩) (pre.length + 1) cap')).ownsRow w2.heap.size 43 1 (.slice (some ⟨g', 0, none⟩) (pre.length + 1) cap') (pre ++ [x]).length (flc (rs ++ [r'])) := by simpa [flc] using hr2
                apply hK; clear hK K
                refine rdy (rs := [10]) (by kernel_rfl) (by simp) ?_
                refine arc rfl (fun K hK => ?_) ?_
                ·go_simp
                 apply hK; clear hK K
                 refine wpAnyIn_done (by kernel_rfl) ?_ _
                 exact ⟨fin1.from _, ⟨fin2, kS4.trans kS.symm⟩, ⟨⟨rs ++ [r'], Mn.prods_snoc hrs hr'.cop, _, hv2, hr3, trivial⟩, kS4⟩, hB.trans fin2⟩
                exact arn
               exact arn
              exact arn
             exact arn
            exact arn
           exact arn
          refine arc rfl (fun K hK => ?_) ?_
          ·go_simp; refine ⟨trivial, (CallsIn.inRound l' (callsIn_wide.2 (real_of x.2.2 _))).mono ?_⟩; rintro e w' ⟨rfl, rfl⟩; dsimp only
           apply hK; clear hK K
           refine rdy (rs := [0, 6]) (by kernel_rfl) (by simp) ?_
           refine arc rfl (fun K hK => ?_) ?_
           ·go_simp
            apply hK; clear hK K
            refine rdy (rs := [6]) (by kernel_rfl) (by simp) ?_
            refine arc rfl (fun K hK => ?_) ?_
            ·go_simp; refine ⟨trivial, (CallsIn.inRound l' (callsIn_wide.2 (long_mean.length x.1 x.2.1 _))).mono ?_⟩; rintro e w3 ⟨rfl, b3⟩; have D3 : Below W.heap.size W w3 := ((Below.refl W.heap.size W).drew).trans b3; obtain ⟨r', n1, hr', r1⟩ := Fl.fop_run Try.prog .mul (.inr (.inr (.inl rfl))) 43 (FloatKind.f64.nearest x.2.2) (FloatKind.f64.nearest (Mn.wl x.1 x.2.1)) w3; have D5 : Below W.heap.size W (w3.drewN n1) := D3.trans (below_draw w3 n1); have cv3 := (boxed_on bv D3).cell; have bv5 := boxed_on bv D5; have hrow5 := own_on hrow D5; have cv5 := bv5.cell; have kS5 := kS.on D5; have cv5a := (bv5.alloc (.cells #[.float .f64 r'] 43)).cell; dsimp only
             apply hK; clear hK K
             refine rdy (rs := [7]) (by kernel_rfl) (by simp) ?_
             refine arc rfl (fun K hK => ?_) ?_
             ·go_simp
              apply hK; clear hK K
              refine rdy (rs := [8]) (by kernel_rfl) (by simp) ?_
              refine arc rfl (fun K hK => ?_) ?_
              ·go_simp
               apply hK; clear hK K
               refine rdy (rs := [9]) (by kernel_rfl) (by simp) ?_
               refine arc rfl (fun K hK => ?_) ?_
               ·refine step64 rfl (.tmp 23) (.tmp 31) rfl w2.heap.size _ _ _ rfl (hrow5.alloc _) ⟨(w3.drewN n1).heap.size, 0, none⟩ 1 1 [.float .f64 r'] rfl rfl (cell_one_new _ _ _) (by simp [Value.oneCell']) (by unfold maxLen; omega) (by omega) (by have := hB.size; have := D5.size; simp; simp at this; omega) ?_; intro v' w4 hown' hgrow; obtain ⟨g', cap', rfl⟩ := ownsRow_succ hown'; obtain ⟨hv1, hv2, hr2, hk2, hb2⟩ := bv5.appended (by decide) hrow5 (Nat.le_trans hB.size D5.size) (Nat.le_refl _) hown' hgrow; have kS4 := ((kS5.alloc _).kept hgrow (kS5.not_row (by decide) hrow5)).other (B' := w2.heap.size) (by omega) (.slice (some ⟨g', 0, none⟩) (pre.length + 1) cap'); have hc1 := hv1.cell; have hf1 := hv1.frozen; have fin1 := (KeepsOthers.of_grownBy (grown_below D5 none) (fun j o e => by cases e)).trans hk2; have fin2 := (D5.mono hB.size).trans hb2; have hr3 : (w4.setCell ⟨w2.heap.size, 0, none⟩ (.slice (some ⟨g', 0, none⟩) (pre.length + 1) cap')).ownsRow w2.heap.size 43 1 (.slice (some ⟨g', 0, none⟩) (pre.length + 1) cap') (pre ++ [x]).length (flc (rs ++ [r'])) := by simpa [flc] using hr2
                apply hK; clear hK K
                refine rdy (rs := [10]) (by kernel_rfl) (by simp) ?_
                refine arc rfl (fun K hK => ?_) ?_
                ·go_simp
                 apply hK; clear hK K
                 refine wpAnyIn_done (by kernel_rfl) ?_ _
                 exact ⟨fin1.from _, ⟨fin2, kS4.trans kS.symm⟩, ⟨⟨rs ++ [r'], Mn.prods_snoc hrs hr'.cop, _, hv2, hr3, trivial⟩, kS4⟩, hB.trans fin2⟩
                exact arn
               exact arn
              exact arn
             exact arn
            exact arn
           refine arc rfl (fun K hK => ?_) ?_
           ·go_simp; refine ⟨trivial, (CallsIn.inRound l' (callsIn_wide.2 (long_mean.length x.1 x.2.1 _))).mono ?_⟩; rintro e w3 ⟨rfl, b3⟩; have D3 : Below W.heap.size W w3 := ((Below.refl W.heap.size W).drew).trans b3; obtain ⟨r', n1, hr', r1⟩ := Fl.fop_run Try.prog .mul (.inr (.inr (.inl rfl))) 43 (FloatKind.f64.nearest x.2.2) (FloatKind.f64.nearest (Mn.wl x.1 x.2.1)) w3; have D5 : Below W.heap.size W (w3.drewN n1) := D3.trans (below_draw w3 n1); have cv3 := (boxed_on bv D3).cell; have bv5 := boxed_on bv D5; have hrow5 := own_on hrow D5; have cv5 := bv5.cell; have kS5 := kS.on D5; have cv5a := (bv5.alloc (.cells #[.float .f64 r'] 43)).cell; dsimp only
            apply hK; clear hK K
            refine rdy (rs := [0, 7]) (by kernel_rfl) (by simp) ?_
            refine arc rfl (fun K hK => ?_) ?_
            ·go_simp
             apply hK; clear hK K
             refine rdy (rs := [7]) (by kernel_rfl) (by simp) ?_
             refine arc rfl (fun K hK => ?_) ?_
             ·go_simp
              apply hK; clear hK K
              refine rdy (rs := [8]) (by kernel_rfl) (by simp) ?_
              refine arc rfl (fun K hK => ?_) ?_
              ·go_simp
               apply hK; clear hK K
               refine rdy (rs := [9]) (by kernel_rfl) (by simp) ?_
               refine arc rfl (fun K hK => ?_) ?_
               ·refine step64 rfl (.tmp 23) (.tmp 31) rfl w2.heap.size _ _ _ rfl (hrow5.alloc _) ⟨(w3.drewN n1).heap.size, 0, none⟩ 1 1 [.float .f64 r'] rfl rfl (cell_one_new _ _ _) (by simp [Value.oneCell']) (by unfold maxLen; omega) (by omega) (by have := hB.size; have := D5.size; simp; simp at this; omega) ?_; intro v' w4 hown' hgrow; obtain ⟨g', cap', rfl⟩ := ownsRow_succ hown'; obtain ⟨hv1, hv2, hr2, hk2, hb2⟩ := bv5.appended (by decide) hrow5 (Nat.le_trans hB.size D5.size) (Nat.le_refl _) hown' hgrow; have kS4 := ((kS5.alloc _).kept hgrow (kS5.not_row (by decide) hrow5)).other (B' := w2.heap.size) (by omega) (.slice (some ⟨g', 0, none⟩) (pre.length + 1) cap'); have hc1 := hv1.cell; have hf1 := hv1.frozen; have fin1 := (KeepsOthers.of_grownBy (grown_below D5 none) (fun j o e => by cases e)).trans hk2; have fin2 := (D5.mono hB.size).trans hb2; have hr3 : (w4.setCell ⟨w2.heap.size, 0, none⟩ (.slice (some ⟨g', 0, none⟩) (pre.length + 1) cap')).ownsRow w2.heap.size 43 1 (.slice (some ⟨g', 0, none⟩) (pre.length + 1) cap') (pre ++ [x]).length (flc (rs ++ [r'])) := by simpa [flc] using hr2
                apply hK; clear hK K
                refine rdy (rs := [10]) (by kernel_rfl) (by simp) ?_
                refine arc rfl (fun K hK => ?_) ?_
                ·go_simp
                 apply hK; clear hK K
                 refine wpAnyIn_done (by kernel_rfl) ?_ _
                 exact ⟨fin1.from _, ⟨fin2, kS4.trans kS.symm⟩, ⟨⟨rs ++ [r'], Mn.prods_snoc hrs hr'.cop, _, hv2, hr3, trivial⟩, kS4⟩, hB.trans fin2⟩
                exact arn
               exact arn
              exact arn
             exact arn
            refine arc rfl (fun K hK => ?_) ?_
            ·go_simp
             apply hK; clear hK K
             refine rdy (rs := [0, 8]) (by kernel_rfl) (by simp) ?_
             refine arc rfl (fun K hK => ?_) ?_
             ·go_simp
              apply hK; clear hK K
              refine rdy (rs := [8]) (by kernel_rfl) (by simp) ?_
              refine arc rfl (fun K hK => ?_) ?_
              ·go_simp
               apply hK; clear hK K
               refine rdy (rs := [9]) (by kernel_rfl) (by simp) ?_
               refine arc rfl (fun K hK => ?_) ?_
               ·refine step64 rfl (.tmp 23) (.tmp 31) rfl w2.heap.size _ _ _ rfl (hrow5.alloc _) ⟨(w3.drewN n1).heap.size, 0, none⟩ 1 1 [.float .f64 r'] rfl rfl (cell_one_new _ _ _) (by simp [Value.oneCell']) (by unfold maxLen; omega) (by omega) (by have := hB.size; have := D5.size; simp; simp at this; omega) ?_; intro v' w4 hown' hgrow; obtain ⟨g', cap', rfl⟩ := ownsRow_succ hown'; obtain ⟨hv1, hv2, hr2, hk2, hb2⟩ := bv5.appended (by decide) hrow5 (Nat.le_trans hB.size D5.size) (Nat.le_refl _) hown' hgrow; have kS4 := ((kS5.alloc _).kept hgrow (kS5.not_row (by decide) hrow5)).other (B' := w2.heap.size) (by omega) (.slice (some ⟨g', 0, none⟩) (pre.length + 1) cap'); have hc1 := hv1.cell; have hf1 := hv1.frozen; have fin1 := (KeepsOthers.of_grownBy (grown_below D5 none) (fun j o e => by cases e)).trans hk2; have fin2 := (D5.mono hB.size).trans hb2; have hr3 : (w4.setCell ⟨w2.heap.size, 0, none⟩ (.slice (some ⟨g', 0, none⟩) (pre.length + 1) cap')).ownsRow w2.heap.size 43 1 (.slice (some ⟨g', 0, none⟩) (pre.length + 1) cap') (pre ++ [x]).length (flc (rs ++ [r'])) := by simpa [flc] using hr2
                apply hK; clear hK K
                refine rdy (rs := [10]) (by kernel_rfl) (by simp) ?_
                refine arc rfl (fun K hK => ?_) ?_
                ·go_simp
                 apply hK; clear hK K
                 refine wpAnyIn_done (by kernel_rfl) ?_ _
                 exact ⟨fin1.from _, ⟨fin2, kS4.trans kS.symm⟩, ⟨⟨rs ++ [r'], Mn.prods_snoc hrs hr'.cop, _, hv2, hr3, trivial⟩, kS4⟩, hB.trans fin2⟩
                exact arn
               exact arn
              exact arn
             refine arc rfl (fun K hK => ?_) ?_
             ·go_simp
              apply hK; clear hK K
              refine rdy (rs := [0]) (by kernel_rfl) (by simp) ?_
              refine arc rfl (fun K hK => ?_) ?_
              ·go_simp
               apply hK; clear hK K
               refine rdy (rs := [9]) (by kernel_rfl) (by simp) ?_
               refine arc rfl (fun K hK => ?_) ?_
               ·refine step64 rfl (.tmp 23) (.tmp 31) rfl w2.heap.size _ _ _ rfl (hrow5.alloc _) ⟨(w3.drewN n1).heap.size, 0, none⟩ 1 1 [.float .f64 r'] rfl rfl (cell_one_new _ _ _) (by simp [Value.oneCell']) (by unfold maxLen; omega) (by omega) (by have := hB.size; have := D5.size; simp; simp at this; omega) ?_; intro v' w4 hown' hgrow; obtain ⟨g', cap', rfl⟩ := ownsRow_succ hown'; obtain ⟨hv1, hv2, hr2, hk2, hb2⟩ := bv5.appended (by decide) hrow5 (Nat.le_trans hB.size D5.size) (Nat.le_refl _) hown' hgrow; have kS4 := ((kS5.alloc _).kept hgrow (kS5.not_row (by decide) hrow5)).other (B' := w2.heap.size) (by omega) (.slice (some ⟨g', 0, none⟩) (pre.length + 1) cap'); have hc1 := hv1.cell; have hf1 := hv1.frozen; have fin1 := (KeepsOthers.of_grownBy (grown_below D5 none) (fun j o e => by cases e)).trans hk2; have fin2 := (D5.mono hB.size).trans hb2; have hr3 : (w4.setCell ⟨w2.heap.size, 0, none⟩ (.slice (some ⟨g', 0, none⟩) (pre.length + 1) cap')).ownsRow w2.heap.size 43 1 (.slice (some ⟨g', 0, none⟩) (pre.length + 1) cap') (pre ++ [x]).length (flc (rs ++ [r'])) := by simpa [flc] using hr2
                apply hK; clear hK K
                refine rdy (rs := [10]) (by kernel_rfl) (by simp) ?_
                refine arc rfl (fun K hK => ?_) ?_
                ·go_simp
                 apply hK; clear hK K
                 refine wpAnyIn_done (by kernel_rfl) ?_ _
                 exact ⟨fin1.from _, ⟨fin2, kS4.trans kS.symm⟩, ⟨⟨rs ++ [r'], Mn.prods_snoc hrs hr'.cop, _, hv2, hr3, trivial⟩, kS4⟩, hB.trans fin2⟩
                exact arn
               exact arn
              exact arn
             exact arn
            exact arn
           exact arn
          exact arn
         exact arn
        exact arn
       refine arc rfl (fun K hK => ?_) ?_
       ·go_simp
        apply hK; clear hK K
        refine rdy (rs := [0, 2, 5]) (by kernel_rfl) (by simp) ?_
        refine arc rfl (fun K hK => ?_) ?_
        ·go_simp
         apply hK; clear hK K
         refine rdy (rs := [2, 5]) (by kernel_rfl) (by simp) ?_
         refine arc rfl (fun K hK => ?_) ?_
         ·go_simp
          apply hK; clear hK K
          refine rdy (rs := [3, 5]) (by kernel_rfl) (by simp) ?_
          refine arc rfl (fun K hK => ?_) ?_
          ·go_simp; refine ⟨trivial, (CallsIn.inRound l' (callsIn_wide.2 (real_of x.2.2 _))).mono ?_⟩; rintro e w' ⟨rfl, rfl⟩; dsimp only
           apply hK; clear hK K
           refine rdy (rs := [5]) (by kernel_rfl) (by simp) ?_
           refine arc rfl (fun K hK => ?_) ?_
           ·go_simp
            apply hK; clear hK K
            refine rdy (rs := [6]) (by kernel_rfl) (by simp) ?_
            refine arc rfl (fun K hK => ?_) ?_
            ·go_simp; refine ⟨trivial, (CallsIn.inRound l' (callsIn_wide.2 (long_mean.length x.1 x.2.1 _))).mono ?_⟩; rintro e w3 ⟨rfl, b3⟩; have D3 : Below W.heap.size W w3 := ((Below.refl W.heap.size W).drew).trans b3; obtain ⟨r', n1, hr', r1⟩ := Fl.fop_run Try.prog .mul (.inr (.inr (.inl rfl))) 43 (FloatKind.f64.nearest x.2.2) (FloatKind.f64.nearest (Mn.wl x.1 x.2.1)) w3; have D5 : Below W.heap.size W (w3.drewN n1) := D3.trans (below_draw w3 n1); have cv3 := (boxed_on bv D3).cell; have bv5 := boxed_on bv D5; have hrow5 := own_on hrow D5; have cv5 := bv5.cell; have kS5 := kS.on D5; have cv5a := (bv5.alloc (.cells #[.float .f64 r'] 43)).cell; dsimp only
             apply hK; clear hK K
             refine rdy (rs := [7]) (by kernel_rfl) (by simp) ?_
             refine arc rfl (fun K hK => ?_) ?_
             ·go_simp
              apply hK; clear hK K
              refine rdy (rs := [8]) (by kernel_rfl) (by simp) ?_
              refine arc rfl (fun K hK => ?_) ?_
              ·go_simp
               apply hK; clear hK K
               refine rdy (rs := [9]) (by kernel_rfl) (by simp) ?_
               refine arc rfl (fun K hK => ?_) ?_
               ·refine step64 rfl (.tmp 23) (.tmp 31) rfl w2.heap.size _ _ _ rfl (hrow5.alloc _) ⟨(w3.drewN n1).heap.size, 0, none⟩ 1 1 [.float .f64 r'] rfl rfl (cell_one_new _ _ _) (by simp [Value.oneCell']) (by unfold maxLen; omega) (by omega) (by have := hB.size; have := D5.size; simp; simp at this; omega) ?_; intro v' w4 hown' hgrow; obtain ⟨g', cap', rfl⟩ := ownsRow_succ hown'; obtain ⟨hv1, hv2, hr2, hk2, hb2⟩ := bv5.appended (by decide) hrow5 (Nat.le_trans hB.size D5.size) (Nat.le_refl _) hown' hgrow; have kS4 := ((kS5.alloc _).kept hgrow (kS5.not_row (by decide) hrow5)).other (B' := w2.heap.size) (by omega) (.slice (some ⟨g', 0, none⟩) (pre.length + 1) cap'); have hc1 := hv1.cell; have hf1 := hv1.frozen; have fin1 := (KeepsOthers.of_grownBy (grown_below D5 none) (fun j o e => by cases e)).trans hk2; have fin2 := (D5.mono hB.size).trans hb2; have hr3 : (w4.setCell ⟨w2.heap.size, 0, none⟩ (.slice (some ⟨g', 0, none⟩) (pre.length + 1) cap')).ownsRow w2.heap.size 43 1 (.slice (some ⟨g', 0, none⟩) (pre.length + 1) cap') (pre ++ [x]).length (flc (rs ++ [r'])) := by simpa [flc] using hr2
                apply hK; clear hK K
                refine rdy (rs := [10]) (by kernel_rfl) (by simp) ?_
                refine arc rfl (fun K hK => ?_) ?_
                ·go_simp
                 apply hK; clear hK K
                 refine wpAnyIn_done (by kernel_rfl) ?_ _
                 exact ⟨fin1.from _, ⟨fin2, kS4.trans kS.symm⟩, ⟨⟨rs ++ [r'], Mn.prods_snoc hrs hr'.cop, _, hv2, hr3, trivial⟩, kS4⟩, hB.trans fin2⟩
                exact arn
               exact arn
              exact arn
             exact arn
            exact arn
           exact arn
          refine arc rfl (fun K hK => ?_) ?_
          ·go_simp
           apply hK; clear hK K
           refine rdy (rs := [3]) (by kernel_rfl) (by simp) ?_
           refine arc rfl (fun K hK => ?_) ?_
           ·go_simp; refine ⟨trivial, (CallsIn.inRound l' (callsIn_wide.2 (real_of x.2.2 _))).mono ?_⟩; rintro e w' ⟨rfl, rfl⟩; dsimp only
            apply hK; clear hK K
            refine rdy (rs := [6]) (by kernel_rfl) (by simp) ?_
            refine arc rfl (fun K hK => ?_) ?_
            ·go_simp; refine ⟨trivial, (CallsIn.inRound l' (callsIn_wide.2 (long_mean.length x.1 x.2.1 _))).mono ?_⟩; rintro e w3 ⟨rfl, b3⟩; have D3 : Below W.heap.size W w3 := ((Below.refl W.heap.size W).drew).trans b3; obtain ⟨r', n1, hr', r1⟩ := Fl.fop_run Try.prog .mul (.inr (.inr (.inl rfl))) 43 (FloatKind.f64.nearest x.2.2) (FloatKind.f64.nearest (Mn.wl x.1 x.2.1)) w3; have D5 : Below W.heap.size W (w3.drewN n1) := D3.trans (below_draw w3 n1); have cv3 := (boxed_on bv D3).cell; have bv5 := boxed_on bv D5; have hrow5 := own_on hrow D5; have cv5 := bv5.cell; have kS5 := kS.on D5; have cv5a := (bv5.alloc (.cells #[.float .f64 r'] 43)).cell; dsimp only
             apply hK; clear hK K
             refine rdy (rs := [7]) (by kernel_rfl) (by simp) ?_
             refine arc rfl (fun K hK => ?_) ?_
             ·go_simp
              apply hK; clear hK K
              refine rdy (rs := [8]) (by kernel_rfl) (by simp) ?_
              refine arc rfl (fun K hK => ?_) ?_
              ·go_simp
               apply hK; clear hK K
               refine rdy (rs := [9]) (by kernel_rfl) (by simp) ?_
               refine arc rfl (fun K hK => ?_) ?_
               ·refine step64 rfl (.tmp 23) (.tmp 31) rfl w2.heap.size _ _ _ rfl (hrow5.alloc _) ⟨(w3.drewN n1).heap.size, 0, none⟩ 1 1 [.float .f64 r'] rfl rfl (cell_one_new _ _ _) (by simp [Value.oneCell']) (by unfold maxLen; omega) (by omega) (by have := hB.size; have := D5.size; simp; simp at this; omega) ?_; intro v' w4 hown' hgrow; obtain ⟨g', cap', rfl⟩ := ownsRow_succ hown'; obtain ⟨hv1, hv2, hr2, hk2, hb2⟩ := bv5.appended (by decide) hrow5 (Nat.le_trans hB.size D5.size) (Nat.le_refl _) hown' hgrow; have kS4 := ((kS5.alloc _).kept hgrow (kS5.not_row (by decide) hrow5)).other (B' := w2.heap.size) (by omega) (.slice (some ⟨g', 0, none⟩) (pre.length + 1) cap'); have hc1 := hv1.cell; have hf1 := hv1.frozen; have fin1 := (KeepsOthers.of_grownBy (grown_below D5 none) (fun j o e => by cases e)).trans hk2; have fin2 := (D5.mono hB.size).trans hb2; have hr3 : (w4.setCell ⟨w2.heap.size, 0, none⟩ (.slice (some ⟨g', 0, none⟩) (pre.length + 1) cap')).ownsRow w2.heap.size 43 1 (.slice (some ⟨g', 0, none⟩) (pre.length + 1) cap') (pre ++ [x]).length (flc (rs ++ [r'])) := by simpa [flc] using hr2
                apply hK; clear hK K
                refine rdy (rs := [10]) (by kernel_rfl) (by simp) ?_
                refine arc rfl (fun K hK => ?_) ?_
                ·go_simp
                 apply hK; clear hK K
                 refine wpAnyIn_done (by kernel_rfl) ?_ _
                 exact ⟨fin1.from _, ⟨fin2, kS4.trans kS.symm⟩, ⟨⟨rs ++ [r'], Mn.prods_snoc hrs hr'.cop, _, hv2, hr3, trivial⟩, kS4⟩, hB.trans fin2⟩
                exact arn
               exact arn
              exact arn
             exact arn
            exact arn
           exact arn
          exact arn
         refine arc rfl (fun K hK => ?_) ?_
         ·go_simp
          apply hK; clear hK K
          refine rdy (rs := [2]) (by kernel_rfl) (by simp) ?_
          refine arc rfl (fun K hK => ?_) ?_
          ·go_simp
           apply hK; clear hK K
           refine rdy (rs := [3]) (by kernel_rfl) (by simp) ?_
           refine arc rfl (fun K hK => ?_) ?_
           ·go_simp; refine ⟨trivial, (CallsIn.inRound l' (callsIn_wide.2 (real_of x.2.2 _))).mono ?_⟩; rintro e w' ⟨rfl, rfl⟩; dsimp only
            apply hK; clear hK K
            refine rdy (rs := [6]) (by kernel_rfl) (by simp) ?_
            refine arc rfl (fun K hK => ?_) ?_
            ·go_simp; refine ⟨trivial, (CallsIn.inRound l' (callsIn_wide.2 (long_mean.length x.1 x.2.1 _))).mono ?_⟩; rintro e w3 ⟨rfl, b3⟩; have D3 : Below W.heap.size W w3 := ((Below.refl W.heap.size W).drew).trans b3; obtain ⟨r', n1, hr', r1⟩ := Fl.fop_run Try.prog .mul (.inr (.inr (.inl rfl))) 43 (FloatKind.f64.nearest x.2.2) (FloatKind.f64.nearest (Mn.wl x.1 x.2.1)) w3; have D5 : Below W.heap.size W (w3.drewN n1) := D3.trans (below_draw w3 n1); have cv3 := (boxed_on bv D3).cell; have bv5 := boxed_on bv D5; have hrow5 := own_on hrow D5; have cv5 := bv5.cell; have kS5 := kS.on D5; have cv5a := (bv5.alloc (.cells #[.float .f64 r'] 43)).cell; dsimp only
             apply hK; clear hK K
             refine rdy (rs := [7]) (by kernel_rfl) (by simp) ?_
             refine arc rfl (fun K hK => ?_) ?_
             ·go_simp
              apply hK; clear hK K
              refine rdy (rs := [8]) (by kernel_rfl) (by simp) ?_
              refine arc rfl (fun K hK => ?_) ?_
              ·go_simp
               apply hK; clear hK K
               refine rdy (rs := [9]) (by kernel_rfl) (by simp) ?_
               refine arc rfl (fun K hK => ?_) ?_
               ·refine step64 rfl (.tmp 23) (.tmp 31) rfl w2.heap.size _ _ _ rfl (hrow5.alloc _) ⟨(w3.drewN n1).heap.size, 0, none⟩ 1 1 [.float .f64 r'] rfl rfl (cell_one_new _ _ _) (by simp [Value.oneCell']) (by unfold maxLen; omega) (by omega) (by have := hB.size; have := D5.size; simp; simp at this; omega) ?_; intro v' w4 hown' hgrow; obtain ⟨g', cap', rfl⟩ := ownsRow_succ hown'; obtain ⟨hv1, hv2, hr2, hk2, hb2⟩ := bv5.appended (by decide) hrow5 (Nat.le_trans hB.size D5.size) (Nat.le_refl _) hown' hgrow; have kS4 := ((kS5.alloc _).kept hgrow (kS5.not_row (by decide) hrow5)).other (B' := w2.heap.size) (by omega) (.slice (some ⟨g', 0, none⟩) (pre.length + 1) cap'); have hc1 := hv1.cell; have hf1 := hv1.frozen; have fin1 := (KeepsOthers.of_grownBy (grown_below D5 none) (fun j o e => by cases e)).trans hk2; have fin2 := (D5.mono hB.size).trans hb2; have hr3 : (w4.setCell ⟨w2.heap.size, 0, none⟩ (.slice (some ⟨g', 0, none⟩) (pre.length + 1) cap')).ownsRow w2.heap.size 43 1 (.slice (some ⟨g', 0, none⟩) (pre.length + 1) cap') (pre ++ [x]).length (flc (rs ++ [r'])) := by simpa [flc] using hr2
                apply hK; clear hK K
                refine rdy (rs := [10]) (by kernel_rfl) (by simp) ?_
                refine arc rfl (fun K hK => ?_) ?_
                ·go_simp
                 apply hK; clear hK K
                 refine wpAnyIn_done (by kernel_rfl) ?_ _
                 exact ⟨fin1.from _, ⟨fin2, kS4.trans kS.symm⟩, ⟨⟨rs ++ [r'], Mn.prods_snoc hrs hr'.cop, _, hv2, hr3, trivial⟩, kS4⟩, hB.trans fin2⟩
                exact arn
               exact arn
              exact arn
             exact arn
            exact arn
           exact arn
          exact arn
         exact arn
        refine arc rfl (fun K hK => ?_) ?_
        ·go_simp
         apply hK; clear hK K
         refine rdy (rs := [0, 3, 5]) (by kernel_rfl) (by simp) ?_
         refine arc rfl (fun K hK => ?_) ?_
         ·go_simp
          apply hK; clear hK K
          refine rdy (rs := [3, 5]) (by kernel_rfl) (by simp) ?_
          refine arc rfl (fun K hK => ?_) ?_
          ·go_simp; refine ⟨trivial, (CallsIn.inRound l' (callsIn_wide.2 (real_of x.2.2 _))).mono ?_⟩; rintro e w' ⟨rfl, rfl⟩; dsimp only
           apply hK; clear hK K
           refine rdy (rs := [5]) (by kernel_rfl) (by simp) ?_
           refine arc rfl (fun K hK => ?_) ?_
           ·go_simp
            apply hK; clear hK K
            refine rdy (rs := [6]) (by kernel_rfl) (by simp) ?_
            refine arc rfl (fun K hK => ?_) ?_
            ·go_simp; refine ⟨trivial, (CallsIn.inRound l' (callsIn_wide.2 (long_mean.length x.1 x.2.1 _))).mono ?_⟩; rintro e w3 ⟨rfl, b3⟩; have D3 : Below W.heap.size W w3 := ((Below.refl W.heap.size W).drew).trans b3; obtain ⟨r', n1, hr', r1⟩ := Fl.fop_run Try.prog .mul (.inr (.inr (.inl rfl))) 43 (FloatKind.f64.nearest x.2.2) (FloatKind.f64.nearest (Mn.wl x.1 x.2.1)) w3; have D5 : Below W.heap.size W (w3.drewN n1) := D3.trans (below_draw w3 n1); have cv3 := (boxed_on bv D3).cell; have bv5 := boxed_on bv D5; have hrow5 := own_on hrow D5; have cv5 := bv5.cell; have kS5 := kS.on D5; have cv5a := (bv5.alloc (.cells #[.float .f64 r'] 43)).cell; dsimp only
             apply hK; clear hK K
             refine rdy (rs := [7]) (by kernel_rfl) (by simp) ?_
             refine arc rfl (fun K hK => ?_) ?_
             ·go_simp
              apply hK; clear hK K
              refine rdy (rs := [8]) (by kernel_rfl) (by simp) ?_
              refine arc rfl (fun K hK => ?_) ?_
              ·go_simp
               apply hK; clear hK K
               refine rdy (rs := [9]) (by kernel_rfl) (by simp) ?_
               refine arc rfl (fun K hK => ?_) ?_
               ·refine step64 rfl (.tmp 23) (.tmp 31) rfl w2.heap.size _ _ _ rfl (hrow5.alloc _) ⟨(w3.drewN n1).heap.size, 0, none⟩ 1 1 [.float .f64 r'] rfl rfl (cell_one_new _ _ _) (by simp [Value.oneCell']) (by unfold maxLen; omega) (by omega) (by have := hB.size; have := D5.size; simp; simp at this; omega) ?_; intro v' w4 hown' hgrow; obtain ⟨g', cap', rfl⟩ := ownsRow_succ hown'; obtain ⟨hv1, hv2, hr2, hk2, hb2⟩ := bv5.appended (by decide) hrow5 (Nat.le_trans hB.size D5.size) (Nat.le_refl _) hown' hgrow; have kS4 := ((kS5.alloc _).kept hgrow (kS5.not_row (by decide) hrow5)).other (B' := w2.heap.size) (by omega) (.slice (some ⟨g', 0, none⟩) (pre.length + 1) cap'); have hc1 := hv1.cell; have hf1 := hv1.frozen; have fin1 := (KeepsOthers.of_grownBy (grown_below D5 none) (fun j o e => by cases e)).trans hk2; have fin2 := (D5.mono hB.size).trans hb2; have hr3 : (w4.setCell ⟨w2.heap.size, 0, none⟩ (.slice (some ⟨g', 0, none⟩) (pre.length + 1) cap')).ownsRow w2.heap.size 43 1 (.slice (some ⟨g', 0, none⟩) (pre.length + 1) cap') (pre ++ [x]).length (flc (rs ++ [r'])) := by simpa [flc] using hr2
                apply hK; clear hK K
                refine rdy (rs := [10]) (by kernel_rfl) (by simp) ?_
                refine arc rfl (fun K hK => ?_) ?_
                ·go_simp
                 apply hK; clear hK K
                 refine wpAnyIn_done (by kernel_rfl) ?_ _
                 exact ⟨fin1.from _, ⟨fin2, kS4.trans kS.symm⟩, ⟨⟨rs ++ [r'], Mn.prods_snoc hrs hr'.cop, _, hv2, hr3, trivial⟩, kS4⟩, hB.trans fin2⟩
                exact arn
               exact arn
              exact arn
             exact arn
            exact arn
           exact arn
          refine arc rfl (fun K hK => ?_) ?_
          ·go_simp
           apply hK; clear hK K
           refine rdy (rs := [3]) (by kernel_rfl) (by simp) ?_
           refine arc rfl (fun K hK => ?_) ?_
           ·go_simp; refine ⟨trivial, (CallsIn.inRound l' (callsIn_wide.2 (real_of x.2.2 _))).mono ?_⟩; rintro e w' ⟨rfl, rfl⟩; dsimp only
            apply hK; clear hK K
            refine rdy (rs := [6]) (by kernel_rfl) (by simp) ?_
            refine arc rfl (fun K hK => ?_) ?_
            ·go_simp; refine ⟨trivial, (CallsIn.inRound l' (callsIn_wide.2 (long_mean.length x.1 x.2.1 _))).mono ?_⟩; rintro e w3 ⟨rfl, b3⟩; have D3 : Below W.heap.size W w3 := ((Below.refl W.heap.size W).drew).trans b3; obtain ⟨r', n1, hr', r1⟩ := Fl.fop_run Try.prog .mul (.inr (.inr (.inl rfl))) 43 (FloatKind.f64.nearest x.2.2) (FloatKind.f64.nearest (Mn.wl x.1 x.2.1)) w3; have D5 : Below W.heap.size W (w3.drewN n1) := D3.trans (below_draw w3 n1); have cv3 := (boxed_on bv D3).cell; have bv5 := boxed_on bv D5; have hrow5 := own_on hrow D5; have cv5 := bv5.cell; have kS5 := kS.on D5; have cv5a := (bv5.alloc (.cells #[.float .f64 r'] 43)).cell; dsimp only
             apply hK; clear hK K
             refine rdy (rs := [7]) (by kernel_rfl) (by simp) ?_
             refine arc rfl (fun K hK => ?_) ?_
             ·go_simp
              apply hK; clear hK K
              refine rdy (rs := [8]) (by kernel_rfl) (by simp) ?_
              refine arc rfl (fun K hK => ?_) ?_
              ·go_simp
               apply hK; clear hK K
               refine rdy (rs := [9]) (by kernel_rfl) (by simp) ?_
               refine arc rfl (fun K hK => ?_) ?_
               ·refine step64 rfl (.tmp 23) (.tmp 31) rfl w2.heap.size _ _ _ rfl (hrow5.alloc _) ⟨(w3.drewN n1).heap.size, 0, none⟩ 1 1 [.float .f64 r'] rfl rfl (cell_one_new _ _ _) (by simp [Value.oneCell']) (by unfold maxLen; omega) (by omega) (by have := hB.size; have := D5.size; simp; simp at this; omega) ?_; intro v' w4 hown' hgrow; obtain ⟨g', cap', rfl⟩ := ownsRow_succ hown'; obtain ⟨hv1, hv2, hr2, hk2, hb2⟩ := bv5.appended (by decide) hrow5 (Nat.le_trans hB.size D5.size) (Nat.le_refl _) hown' hgrow; have kS4 := ((kS5.alloc _).kept hgrow (kS5.not_row (by decide) hrow5)).other (B' := w2.heap.size) (by omega) (.slice (some ⟨g', 0, none⟩) (pre.length + 1) cap'); have hc1 := hv1.cell; have hf1 := hv1.frozen; have fin1 := (KeepsOthers.of_grownBy (grown_below D5 none) (fun j o e => by cases e)).trans hk2; have fin2 := (D5.mono hB.size).trans hb2; have hr3 : (w4.setCell ⟨w2.heap.size, 0, none⟩ (.slice (some ⟨g', 0, none⟩) (pre.length + 1) cap')).ownsRow w2.heap.size 43 1 (.slice (some ⟨g', 0, none⟩) (pre.length + 1) cap') (pre ++ [x]).length (flc (rs ++ [r'])) := by simpa [flc] using hr2
                apply hK; clear hK K
                refine rdy (rs := [10]) (by kernel_rfl) (by simp) ?_
                refine arc rfl (fun K hK => ?_) ?_
                ·go_simp
                 apply hK; clear hK K
                 refine wpAnyIn_done (by kernel_rfl) ?_ _
                 exact ⟨fin1.from _, ⟨fin2, kS4.trans kS.symm⟩, ⟨⟨rs ++ [r'], Mn.prods_snoc hrs hr'.cop, _, hv2, hr3, trivial⟩, kS4⟩, hB.trans fin2⟩
                exact arn
               exact arn
              exact arn
             exact arn
            exact arn
           exact arn
          exact arn
         refine arc rfl (fun K hK => ?_) ?_
         ·go_simp; refine ⟨trivial, (CallsIn.inRound l' (callsIn_wide.2 (real_of x.2.2 _))).mono ?_⟩; rintro e w' ⟨rfl, rfl⟩; dsimp only
          apply hK; clear hK K
          refine rdy (rs := [0, 5]) (by kernel_rfl) (by simp) ?_
          refine arc rfl (fun K hK => ?_) ?_
          ·go_simp
           apply hK; clear hK K
           refine rdy (rs := [5]) (by kernel_rfl) (by simp) ?_
           refine arc rfl (fun K hK => ?_) ?_
           ·go_simp
            apply hK; clear hK K
            refine rdy (rs := [6]) (by kernel_rfl) (by simp) ?_
            refine arc rfl (fun K hK => ?_) ?_
            ·go_simp; refine ⟨trivial, (CallsIn.inRound l' (callsIn_wide.2 (long_mean.length x.1 x.2.1 _))).mono ?_⟩; rintro e w3 ⟨rfl, b3⟩; have D3 : Below W.heap.size W w3 := ((Below.refl W.heap.size W).drew).trans b3; obtain ⟨r', n1, hr', r1⟩ := Fl.fop_run Try.prog .mul (.inr (.inr (.inl rfl))) 43 (FloatKind.f64.nearest x.2.2) (FloatKind.f64.nearest (Mn.wl x.1 x.2.1)) w3; have D5 : Below W.heap.size W (w3.drewN n1) := D3.trans (below_draw w3 n1); have cv3 := (boxed_on bv D3).cell; have bv5 := boxed_on bv D5; have hrow5 := own_on hrow D5; have cv5 := bv5.cell; have kS5 := kS.on D5; have cv5a := (bv5.alloc (.cells #[.float .f64 r'] 43)).cell; dsimp only
             apply hK; clear hK K
             refine rdy (rs := [7]) (by kernel_rfl) (by simp) ?_
             refine arc rfl (fun K hK => ?_) ?_
             ·go_simp
              apply hK; clear hK K
              refine rdy (rs := [8]) (by kernel_rfl) (by simp) ?_
              refine arc rfl (fun K hK => ?_) ?_
              ·go_simp
               apply hK; clear hK K
               refine rdy (rs := [9]) (by kernel_rfl) (by simp) ?_
               refine arc rfl (fun K hK => ?_) ?_
               ·refine step64 rfl (.tmp 23) (.tmp 31) rfl w2.heap.size _ _ _ rfl (hrow5.alloc _) ⟨(w3.drewN n1).heap.size, 0, none⟩ 1 1 [.float .f64 r'] rfl rfl (cell_one_new _ _ _) (by simp [Value.oneCell']) (by unfold maxLen; omega) (by omega) (by have := hB.size; have := D5.size; simp; simp at this; omega) ?_; intro v' w4 hown' hgrow; obtain ⟨g', cap', rfl⟩ := ownsRow_succ hown'; obtain ⟨hv1, hv2, hr2, hk2, hb2⟩ := bv5.appended (by decide) hrow5 (Nat.le_trans hB.size D5.size) (Nat.le_refl _) hown' hgrow; have kS4 := ((kS5.alloc _).kept hgrow (kS5.not_row (by decide) hrow5)).other (B' := w2.heap.size) (by omega) (.slice (some ⟨g', 0, none⟩) (pre.length + 1) cap'); have hc1 := hv1.cell; have hf1 := hv1.frozen; have fin1 := (KeepsOthers.of_grownBy (grown_below D5 none) (fun j o e => by cases e)).trans hk2; have fin2 := (D5.mono hB.size).trans hb2; have hr3 : (w4.setCell ⟨w2.heap.size, 0, none⟩ (.slice (some ⟨g', 0, none⟩) (pre.length + 1) cap')).ownsRow w2.heap.size 43 1 (.slice (some ⟨g', 0, none⟩) (pre.length + 1) cap') (pre ++ [x]).length (flc (rs ++ [r'])) := by simpa [flc] using hr2
                apply hK; clear hK K
                refine rdy (rs := [10]) (by kernel_rfl) (by simp) ?_
                refine arc rfl (fun K hK => ?_) ?_
                ·go_simp
                 apply hK; clear hK K
                 refine wpAnyIn_done (by kernel_rfl) ?_ _
                 exact ⟨fin1.from _, ⟨fin2, kS4.trans kS.symm⟩, ⟨⟨rs ++ [r'], Mn.prods_snoc hrs hr'.cop, _, hv2, hr3, trivial⟩, kS4⟩, hB.trans fin2⟩
                exact arn
               exact arn
              exact arn
             exact arn
            exact arn
           exact arn
          refine arc rfl (fun K hK => ?_) ?_
          ·go_simp
           apply hK; clear hK K
           refine rdy (rs := [0, 6]) (by kernel_rfl) (by simp) ?_
           refine arc rfl (fun K hK => ?_) ?_
           ·go_simp
            apply hK; clear hK K
            refine rdy (rs := [6]) (by kernel_rfl) (by simp) ?_
            refine arc rfl (fun K hK => ?_) ?_
            ·go_simp; refine ⟨trivial, (CallsIn.inRound l' (callsIn_wide.2 (long_mean.length x.1 x.2.1 _))).mono ?_⟩; rintro e w3 ⟨rfl, b3⟩; have D3 : Below W.heap.size W w3 := ((Below.refl W.heap.size W).drew).trans b3; obtain ⟨r', n1, hr', r1⟩ := Fl.fop_run Try.prog .mul (.inr (.inr (.inl rfl))) 43 (FloatKind.f64.nearest x.2.2) (FloatKind.f64.nearest (Mn.wl x.1 x.2.1)) w3; have D5 : Below W.heap.size W (w3.drewN n1) := D3.trans (below_draw w3 n1); have cv3 := (boxed_on bv D3).cell; have bv5 := boxed_on bv D5; have hrow5 := own_on hrow D5; have cv5 := bv5.cell; have kS5 := kS.on D5; have cv5a := (bv5.alloc (.cells #[.float .f64 r'] 43)).cell; dsimp only
             apply hK; clear hK K
             refine rdy (rs := [7]) (by kernel_rfl) (by simp) ?_
             refine arc rfl (fun K hK => ?_) ?_
             ·go_simp
              apply hK; clear hK K
              refine rdy (rs := [8]) (by kernel_rfl) (by simp) ?_
              refine arc rfl (fun K hK => ?_) ?_
              ·go_simp
               apply hK; clear hK K
               refine rdy (rs := [9]) (by kernel_rfl) (by simp) ?_
               refine arc rfl (fun K hK => ?_) ?_
               ·refine step64 rfl (.tmp 23) (.tmp 31) rfl w2.heap.size _ _ _ rfl (hrow5.alloc _) ⟨(w3.drewN n1).heap.size, 0, none⟩ 1 1 [.float .f64 r'] rfl rfl (cell_one_new _ _ _) (by simp [Value.oneCell']) (by unfold maxLen; omega) (by omega) (by have := hB.size; have := D5.size; simp; simp at this; omega) ?_; intro v' w4 hown' hgrow; obtain ⟨g', cap', rfl⟩ := ownsRow_succ hown'; obtain ⟨hv1, hv2, hr2, hk2, hb2⟩ := bv5.appended (by decide) hrow5 (Nat.le_trans hB.size D5.size) (Nat.le_refl _) hown' hgrow; have kS4 := ((kS5.alloc _).kept hgrow (kS5.not_row (by decide) hrow5)).other (B' := w2.heap.size) (by omega) (.slice (some ⟨g', 0, none⟩) (pre.length + 1) cap'); have hc1 := hv1.cell; have hf1 := hv1.frozen; have fin1 := (KeepsOthers.of_grownBy (grown_below D5 none) (fun j o e => by cases e)).trans hk2; have fin2 := (D5.mono hB.size).trans hb2; have hr3 : (w4.setCell ⟨w2.heap.size, 0, none⟩ (.slice (some ⟨g', 0, none⟩) (pre.length + 1) cap')).ownsRow w2.heap.size 43 1 (.slice (some ⟨g', 0, none⟩) (pre.length + 1) cap') (pre ++ [x]).length (flc (rs ++ [r'])) := by simpa [flc] using hr2
                apply hK; clear hK K
                refine rdy (rs := [10]) (by kernel_rfl) (by simp) ?_
                refine arc rfl (fun K hK => ?_) ?_
                ·go_simp
                 apply hK; clear hK K
                 refine wpAnyIn_done (by kernel_rfl) ?_ _
                 exact ⟨fin1.from _, ⟨fin2, kS4.trans kS.symm⟩, ⟨⟨rs ++ [r'], Mn.prods_snoc hrs hr'.cop, _, hv2, hr3, trivial⟩, kS4⟩, hB.trans fin2⟩
                exact arn
               exact arn
              exact arn
             exact arn
            exact arn
           refine arc rfl (fun K hK => ?_) ?_
           ·go_simp; refine ⟨trivial, (CallsIn.inRound l' (callsIn_wide.2 (long_mean.length x.1 x.2.1 _))).mono ?_⟩; rintro e w3 ⟨rfl, b3⟩; have D3 : Below W.heap.size W w3 := ((Below.refl W.heap.size W).drew).trans b3; obtain ⟨r', n1, hr', r1⟩ := Fl.fop_run Try.prog .mul (.inr (.inr (.inl rfl))) 43 (FloatKind.f64.nearest x.2.2) (FloatKind.f64.nearest (Mn.wl x.1 x.2.1)) w3; have D5 : Below W.heap.size W (w3.drewN n1) := D3.trans (below_draw w3 n1); have cv3 := (boxed_on bv D3).cell; have bv5 := boxed_on bv D5; have hrow5 := own_on hrow D5; have cv5 := bv5.cell; have kS5 := kS.on D5; have cv5a := (bv5.alloc (.cells #[.float .f64 r'] 43)).cell; dsimp only
            apply hK; clear hK K
            refine rdy (rs := [0, 7]) (by kernel_rfl) (by simp) ?_
            refine arc rfl (fun K hK => ?_) ?_
            ·go_simp
             apply hK; clear hK K
             refine rdy (rs := [7]) (by kernel_rfl) (by simp) ?_
             refine arc rfl (fun K hK => ?_) ?_
             ·go_simp
              apply hK; clear hK K
              refine rdy (rs := [8]) (by kernel_rfl) (by simp) ?_
              refine arc rfl (fun K hK => ?_) ?_
              ·go_simp
               apply hK; clear hK K
               refine rdy (rs := [9]) (by kernel_rfl) (by simp) ?_
               refine arc rfl (fun K hK => ?_) ?_
               ·refine step64 rfl (.tmp 23) (.tmp 31) rfl w2.heap.size _ _ _ rfl (hrow5.alloc _) ⟨(w3.drewN n1).heap.size, 0, none⟩ 1 1 [.float .f64 r'] rfl rfl (cell_one_new _ _ _) (by simp [Value.oneCell']) (by unfold maxLen; omega) (by omega) (by have := hB.size; have := D5.size; simp; simp at this; omega) ?_; intro v' w4 hown' hgrow; obtain ⟨g', cap', rfl⟩ := ownsRow_succ hown'; obtain ⟨hv1, hv2, hr2, hk2, hb2⟩ := bv5.appended (by decide) hrow5 (Nat.le_trans hB.size D5.size) (Nat.le_refl _) hown' hgrow; have kS4 := ((kS5.alloc _).kept hgrow (kS5.not_row (by decide) hrow5)).other (B' := w2.heap.size) (by omega) (.slice (some ⟨g', 0, none⟩) (pre.length + 1) cap'); have hc1 := hv1.cell; have hf1 := hv1.frozen; have fin1 := (KeepsOthers.of_grownBy (grown_below D5 none) (fun j o e => by cases e)).trans hk2; have fin2 := (D5.mono hB.size).trans hb2; have hr3 : (w4.setCell ⟨w2.heap.size, 0, none⟩ (.slice (some ⟨g', 0, none⟩) (pre.length + 1) cap')).ownsRow w2.heap.size 43 1 (.slice (some ⟨g', 0, none⟩) (pre.length + 1) cap') (pre ++ [x]).length (flc (rs ++ [r'])) := by simpa [flc] using hr2
                apply hK; clear hK K
                refine rdy (rs := [10]) (by kernel_rfl) (by simp) ?_
                refine arc rfl (fun K hK => ?_) ?_
                ·go_simp
                 apply hK; clear hK K
                 refine wpAnyIn_done (by kernel_rfl) ?_ _
                 exact ⟨fin1.from _, ⟨fin2, kS4.trans kS.symm⟩, ⟨⟨rs ++ [r'], Mn.prods_snoc hrs hr'.cop, _, hv2, hr3, trivial⟩, kS4⟩, hB.trans fin2⟩
                exact arn
               exact arn
              exact arn
             exact arn
            refine arc rfl (fun K hK => ?_) ?_
            ·go_simp
             apply hK; clear hK K
             refine rdy (rs := [0, 8]) (by kernel_rfl) (by simp) ?_
             refine arc rfl (fun K hK => ?_) ?_
             ·go_simp
              apply hK; clear hK K
              refine rdy (rs := [8]) (by kernel_rfl) (by simp) ?_
              refine arc rfl (fun K hK => ?_) ?_
              ·go_simp
               apply hK; clear hK K
               refine rdy (rs := [9]) (by kernel_rfl) (by simp) ?_
               refine arc rfl (fun K hK => ?_) ?_
               ·refine step64 rfl (.tmp 23) (.tmp 31) rfl w2.heap.size _ _ _ rfl (hrow5.alloc _) ⟨(w3.drewN n1).heap.size, 0, none⟩ 1 1 [.float .f64 r'] rfl rfl (cell_one_new _ _ _) (by simp [Value.oneCell']) (by unfold maxLen; omega) (by omega) (by have := hB.size; have := D5.size; simp; simp at this; omega) ?_; intro v' w4 hown' hgrow; obtain ⟨g', cap', rfl⟩ := ownsRow_succ hown'; obtain ⟨hv1, hv2, hr2, hk2, hb2⟩ := bv5.appended (by decide) hrow5 (Nat.le_trans hB.size D5.size) (Nat.le_refl _) hown' hgrow; have kS4 := ((kS5.alloc _).kept hgrow (kS5.not_row (by decide) hrow5)).other (B' := w2.heap.size) (by omega) (.slice (some ⟨g', 0, none⟩) (pre.length + 1) cap'); have hc1 := hv1.cell; have hf1 := hv1.frozen; have fin1 := (KeepsOthers.of_grownBy (grown_below D5 none) (fun j o e => by cases e)).trans hk2; have fin2 := (D5.mono hB.size).trans hb2; have hr3 : (w4.setCell ⟨w2.heap.size, 0, none⟩ (.slice (some ⟨g', 0, none⟩) (pre.length + 1) cap')).ownsRow w2.heap.size 43 1 (.slice (some ⟨g', 0, none⟩) (pre.length + 1) cap') (pre ++ [x]).length (flc (rs ++ [r'])) := by simpa [flc] using hr2
                apply hK; clear hK K
                refine rdy (rs := [10]) (by kernel_rfl) (by simp) ?_
                refine arc rfl (fun K hK => ?_) ?_
                ·go_simp
                 apply hK; clear hK K
                 refine wpAnyIn_done (by kernel_rfl) ?_ _
                 exact ⟨fin1.from _, ⟨fin2, kS4.trans kS.symm⟩, ⟨⟨rs ++ [r'], Mn.prods_snoc hrs hr'.cop, _, hv2, hr3, trivial⟩, kS4⟩, hB.trans fin2⟩
                exact arn
               exact arn
              exact arn
             refine arc rfl (fun K hK => ?_) ?_
             ·go_simp
              apply hK; clear hK K
              refine rdy (rs := [0]) (by kernel_rfl) (by simp) ?_
              refine arc rfl (fun K hK => ?_) ?_
              ·go_simp
               apply hK; clear hK K
               refine rdy (rs := [9]) (by kernel_rfl) (by simp) ?_
               refine arc rfl (fun K hK => ?_) ?_
               ·refine step64 rfl (.tmp 23) (.tmp 31) rfl w2.heap.size _ _ _ rfl (hrow5.alloc _) ⟨(w3.drewN n1).heap.size, 0, none⟩ 1 1 [.float .f64 r'] rfl rfl (cell_one_new _ _ _) (by simp [Value.oneCell']) (by unfold maxLen; omega) (by omega) (by have := hB.size; have := D5.size; simp; simp at this; omega) ?_; intro v' w4 hown' hgrow; obtain ⟨g', cap', rfl⟩ := ownsRow_succ hown'; obtain ⟨hv1, hv2, hr2, hk2, hb2⟩ := bv5.appended (by decide) hrow5 (Nat.le_trans hB.size D5.size) (Nat.le_refl _) hown' hgrow; have kS4 := ((kS5.alloc _).kept hgrow (kS5.not_row (by decide) hrow5)).other (B' := w2.heap.size) (by omega) (.slice (some ⟨g', 0, none⟩) (pre.length + 1) cap'); have hc1 := hv1.cell; have hf1 := hv1.frozen; have fin1 := (KeepsOthers.of_grownBy (grown_below D5 none) (fun j o e => by cases e)).trans hk2; have fin2 := (D5.mono hB.size).trans hb2; have hr3 : (w4.setCell ⟨w2.heap.size, 0, none⟩ (.slice (some ⟨g', 0, none⟩) (pre.length + 1) cap')).ownsRow w2.heap.size 43 1 (.slice (some ⟨g', 0, none⟩) (pre.length + 1) cap') (pre ++ [x]).length (flc (rs ++ [r'])) := by simpa [flc] using hr2
                apply hK; clear hK K
                refine rdy (rs := [10]) (by kernel_rfl) (by simp) ?_
                refine arc rfl (fun K hK => ?_) ?_
                ·go_simp
                 apply hK; clear hK K
                 refine wpAnyIn_done (by kernel_rfl) ?_ _
                 exact ⟨fin1.from _, ⟨fin2, kS4.trans kS.symm⟩, ⟨⟨rs ++ [r'], Mn.prods_snoc hrs hr'.cop, _, hv2, hr3, trivial⟩, kS4⟩, hB.trans fin2⟩
                exact arn
               exact arn
              exact arn
             exact arn
            exact arn
           exact arn
          exact arn
         refine arc rfl (fun K hK => ?_) ?_
         ·go_simp
          apply hK; clear hK K
          refine rdy (rs := [0, 3]) (by kernel_rfl) (by simp) ?_
          refine arc rfl (fun K hK => ?_) ?_
          ·go_simp
           apply hK; clear hK K
           refine rdy (rs := [3]) (by kernel_rfl) (by simp) ?_
           refine arc rfl (fun K hK => ?_) ?_
           ·go_simp; refine ⟨trivial, (CallsIn.inRound l' (callsIn_wide.2 (real_of x.2.2 _))).mono ?_⟩; rintro e w' ⟨rfl, rfl⟩; dsimp only
            apply hK; clear hK K
            refine rdy (rs := [6]) (by kernel_rfl) (by simp) ?_
            refine arc rfl (fun K hK => ?_) ?_
            ·go_simp; refine ⟨trivial, (CallsIn.inRound l' (callsIn_wide.2 (long_mean.length x.1 x.2.1 _))).mono ?_⟩; rintro e w3 ⟨rfl, b3⟩; have D3 : Below W.heap.size W w3 := ((Below.refl W.heap.size W).drew).trans b3; obtain ⟨r', n1, hr', r1⟩ := Fl.fop_run Try.prog .mul (.inr (.inr (.inl rfl))) 43 (FloatKind.f64.nearest x.2.2) (FloatKind.f64.nearest (Mn.wl x.1 x.2.1)) w3; have D5 : Below W.heap.size W (w3.drewN n1) := D3.trans (below_draw w3 n1); have cv3 := (boxed_on bv D3).cell; have bv5 := boxed_on bv D5; have hrow5 := own_on hrow D5; have cv5 := bv5.cell; have kS5 := kS.on D5; have cv5a := (bv5.alloc (.cells #[.float .f64 r'] 43)).cell; dsimp only
             apply hK; clear hK K
             refine rdy (rs := [7]) (by kernel_rfl) (by simp) ?_
             refine arc rfl (fun K hK => ?_) ?_
             ·go_simp
              apply hK; clear hK K
              refine rdy (rs := [8]) (by kernel_rfl) (by simp) ?_
              refine arc rfl (fun K hK => ?_) ?_
              ·go_simp
               apply hK; clear hK K
               refine rdy (rs := [9]) (by kernel_rfl) (by simp) ?_
               refine arc rfl (fun K hK => ?_) ?_
               ·refine step64 rfl (.tmp 23) (.tmp 31) rfl w2.heap.size _ _ _ rfl (hrow5.alloc _) ⟨(w3.drewN n1).heap.size, 0, none⟩ 1 1 [.float .f64 r'] rfl rfl (cell_one_new _ _ _) (by simp [Value.oneCell']) (by unfold maxLen; omega) (by omega) (by have := hB.size; have := D5.size; simp; simp at this; omega) ?_; intro v' w4 hown' hgrow; obtain ⟨g', cap', rfl⟩ := ownsRow_succ hown'; obtain ⟨hv1, hv2, hr2, hk2, hb2⟩ := bv5.appended (by decide) hrow5 (Nat.le_trans hB.size D5.size) (Nat.le_refl _) hown' hgrow; have kS4 := ((kS5.alloc _).kept hgrow (kS5.not_row (by decide) hrow5)).other (B' := w2.heap.size) (by omega) (.slice (some ⟨g', 0, none⟩) (pre.length + 1) cap'); have hc1 := hv1.cell; have hf1 := hv1.frozen; have fin1 := (KeepsOthers.of_grownBy (grown_below D5 none) (fun j o e => by cases e)).trans hk2; have fin2 := (D5.mono hB.size).trans hb2; have hr3 : (w4.setCell ⟨w2.heap.size, 0, none⟩ (.slice (some ⟨g', 0, none⟩) (pre.length + 1) cap')).ownsRow w2.heap.size 43 1 (.slice (some ⟨g', 0, none⟩) (pre.length + 1) cap') (pre ++ [x]).length (flc (rs ++ [r'])) := by simpa [flc] using hr2
                apply hK; clear hK K
                refine rdy (rs := [10]) (by kernel_rfl) (by simp) ?_
                refine arc rfl (fun K hK => ?_) ?_
                ·go_simp
                 apply hK; clear hK K
                 refine wpAnyIn_done (by kernel_rfl) ?_ _
                 exact ⟨fin1.from _, ⟨fin2, kS4.trans kS.symm⟩, ⟨⟨rs ++ [r'], Mn.prods_snoc hrs hr'.cop, _, hv2, hr3, trivial⟩, kS4⟩, hB.trans fin2⟩
                exact arn
               exact arn
              exact arn
             exact arn
            exact arn
           exact arn
          refine arc rfl (fun K hK => ?_) ?_
          ·go_simp; refine ⟨trivial, (CallsIn.inRound l' (callsIn_wide.2 (real_of x.2.2 _))).mono ?_⟩; rintro e w' ⟨rfl, rfl⟩; dsimp only
           apply hK; clear hK K
           refine rdy (rs := [0, 6]) (by kernel_rfl) (by simp) ?_
           refine arc rfl (fun K hK => ?_) ?_
           ·go_simp
            apply hK; clear hK K
            refine rdy (rs := [6]) (by kernel_rfl) (by simp) ?_
            refine arc rfl (fun K hK => ?_) ?_
            ·go_simp; refine ⟨trivial, (CallsIn.inRound l' (callsIn_wide.2 (long_mean.length x.1 x.2.1 _))).mono ?_⟩; rintro e w3 ⟨rfl, b3⟩; have D3 : Below W.heap.size W w3 := ((Below.refl W.heap.size W).drew).trans b3; obtain ⟨r', n1, hr', r1⟩ := Fl.fop_run Try.prog .mul (.inr (.inr (.inl rfl))) 43 (FloatKind.f64.nearest x.2.2) (FloatKind.f64.nearest (Mn.wl x.1 x.2.1)) w3; have D5 : Below W.heap.size W (w3.drewN n1) := D3.trans (below_draw w3 n1); have cv3 := (boxed_on bv D3).cell; have bv5 := boxed_on bv D5; have hrow5 := own_on hrow D5; have cv5 := bv5.cell; have kS5 := kS.on D5; have cv5a := (bv5.alloc (.cells #[.float .f64 r'] 43)).cell; dsimp only
             apply hK; clear hK K
             refine rdy (rs := [7]) (by kernel_rfl) (by simp) ?_
             refine arc rfl (fun K hK => ?_) ?_
             ·go_simp
              apply hK; clear hK K
              refine rdy (rs := [8]) (by kernel_rfl) (by simp) ?_
              refine arc rfl (fun K hK => ?_) ?_
              ·go_simp
               apply hK; clear hK K
               refine rdy (rs := [9]) (by kernel_rfl) (by simp) ?_
               refine arc rfl (fun K hK => ?_) ?_
               ·refine step64 rfl (.tmp 23) (.tmp 31) rfl w2.heap.size _ _ _ rfl (hrow5.alloc _) ⟨(w3.drewN n1).heap.size, 0, none⟩ 1 1 [.float .f64 r'] rfl rfl (cell_one_new _ _ _) (by simp [Value.oneCell']) (by unfold maxLen; omega) (by omega) (by have := hB.size; have := D5.size; simp; simp at this; omega) ?_; intro v' w4 hown' hgrow; obtain ⟨g', cap', rfl⟩ := ownsRow_succ hown'; obtain ⟨hv1, hv2, hr2, hk2, hb2⟩ := bv5.appended (by decide) hrow5 (Nat.le_trans hB.size D5.size) (Nat.le_refl _) hown' hgrow; have kS4 := ((kS5.alloc _).kept hgrow (kS5.not_row (by decide) hrow5)).other (B' := w2.heap.size) (by omega) (.slice (some ⟨g', 0, none⟩) (pre.length + 1) cap'); have hc1 := hv1.cell; have hf1 := hv1.frozen; have fin1 := (KeepsOthers.of_grownBy (grown_below D5 none) (fun j o e => by cases e)).trans hk2; have fin2 := (D5.mono hB.size).trans hb2; have hr3 : (w4.setCell ⟨w2.heap.size, 0, none⟩ (.slice (some ⟨g', 0, none⟩) (pre.length + 1) cap')).ownsRow w2.heap.size 43 1 (.slice (some ⟨g', 0, none⟩) (pre.length + 1) cap') (pre ++ [x]).length (flc (rs ++ [r'])) := by simpa [flc] using hr2
                apply hK; clear hK K
                refine rdy (rs := [10]) (by kernel_rfl) (by simp) ?_
                refine arc rfl (fun K hK => ?_) ?_
                ·go_simp
                 apply hK; clear hK K
                 refine wpAnyIn_done (by kernel_rfl) ?_ _
                 exact ⟨fin1.from _, ⟨fin2, kS4.trans kS.symm⟩, ⟨⟨rs ++ [r'], Mn.prods_snoc hrs hr'.cop, _, hv2, hr3, trivial⟩, kS4⟩, hB.trans fin2⟩
                exact arn
               exact arn
              exact arn
             exact arn
            exact arn
           refine arc rfl (fun K hK => ?_) ?_
           ·go_simp; refine ⟨trivial, (CallsIn.inRound l' (callsIn_wide.2 (long_mean.length x.1 x.2.1 _))).mono ?_⟩; rintro e w3 ⟨rfl, b3⟩; have D3 : Below W.heap.size W w3 := ((Below.refl W.heap.size W).drew).trans b3; obtain ⟨r', n1, hr', r1⟩ := Fl.fop_run Try.prog .mul (.inr (.inr (.inl rfl))) 43 (FloatKind.f64.nearest x.2.2) (FloatKind.f64.nearest (Mn.wl x.1 x.2.1)) w3; have D5 : Below W.heap.size W (w3.drewN n1) := D3.trans (below_draw w3 n1); have cv3 := (boxed_on bv D3).cell; have bv5 := boxed_on bv D5; have hrow5 := own_on hrow D5; have cv5 := bv5.cell; have kS5 := kS.on D5; have cv5a := (bv5.alloc (.cells #[.float .f64 r'] 43)).cell; dsimp only
            apply hK; clear hK K
            refine rdy (rs := [0, 7]) (by kernel_rfl) (by simp) ?_
            refine arc rfl (fun K hK => ?_) ?_
            ·go_simp
             apply hK; clear hK K
             refine rdy (rs := [7]) (by kernel_rfl) (by simp) ?_
             refine arc rfl (fun K hK => ?_) ?_
             ·go_simp
              apply hK; clear hK K
              refine rdy (rs := [8]) (by kernel_rfl) (by simp) ?_
              refine arc rfl (fun K hK => ?_) ?_
              ·go_simp
               apply hK; clear hK K
               refine rdy (rs := [9]) (by kernel_rfl) (by simp) ?_
               refine arc rfl (fun K hK => ?_) ?_
               ·refine step64 rfl (.tmp 23) (.tmp 31) rfl w2.heap.size _ _ _ rfl (hrow5.alloc _) ⟨(w3.drewN n1).heap.size, 0, none⟩ 1 1 [.float .f64 r'] rfl rfl (cell_one_new _ _ _) (by simp [Value.oneCell']) (by unfold maxLen; omega) (by omega) (by have := hB.size; have := D5.size; simp; simp at this; omega) ?_; intro v' w4 hown' hgrow; obtain ⟨g', cap', rfl⟩ := ownsRow_succ hown'; obtain ⟨hv1, hv2, hr2, hk2, hb2⟩ := bv5.appended (by decide) hrow5 (Nat.le_trans hB.size D5.size) (Nat.le_refl _) hown' hgrow; have kS4 := ((kS5.alloc _).kept hgrow (kS5.not_row (by decide) hrow5)).other (B' := w2.heap.size) (by omega) (.slice (some ⟨g', 0, none⟩) (pre.length + 1) cap'); have hc1 := hv1.cell; have hf1 := hv1.frozen; have fin1 := (KeepsOthers.of_grownBy (grown_below D5 none) (fun j o e => by cases e)).trans hk2; have fin2 := (D5.mono hB.size).trans hb2; have hr3 : (w4.setCell ⟨w2.heap.size, 0, none⟩ (.slice (some ⟨g', 0, none⟩) (pre.length + 1) cap')).ownsRow w2.heap.size 43 1 (.slice (some ⟨g', 0, none⟩) (pre.length + 1) cap') (pre ++ [x]).length (flc (rs ++ [r'])) := by simpa [flc] using hr2
                apply hK; clear hK K
                refine rdy (rs := [10]) (by kernel_rfl) (by simp) ?_
                refine arc rfl (fun K hK => ?_) ?_
                ·go_simp
                 apply hK; clear hK K
                 refine wpAnyIn_done (by kernel_rfl) ?_ _
                 exact ⟨fin1.from _, ⟨fin2, kS4.trans kS.symm⟩, ⟨⟨rs ++ [r'], Mn.prods_snoc hrs hr'.cop, _, hv2, hr3, trivial⟩, kS4⟩, hB.trans fin2⟩
                exact arn
               exact arn
              exact arn
             exact arn
            refine arc rfl (fun K hK => ?_) ?_
            ·go_simp
             apply hK; clear hK K
             refine rdy (rs := [0, 8]) (by kernel_rfl) (by simp) ?_
             refine arc rfl (fun K hK => ?_) ?_
             ·go_simp
              apply hK; clear hK K
              refine rdy (rs := [8]) (by kernel_rfl) (by simp) ?_
              refine arc rfl (fun K hK => ?_) ?_
              ·go_simp
               apply hK; clear hK K
               refine rdy (rs := [9]) (by kernel_rfl) (by simp) ?_
               refine arc rfl (fun K hK => ?_) ?_
               ·refine step64 rfl (.tmp 23) (.tmp 31) rfl w2.heap.size _ _ _ rfl (hrow5.alloc _) ⟨(w3.drewN n1).heap.size, 0, none⟩ 1 1 [.float .f64 r'] rfl rfl (cell_one_new _ _ _) (by simp [Value.oneCell']) (by unfold maxLen; omega) (by omega) (by have := hB.size; have := D5.size; simp; simp at this; omega) ?_; intro v' w4 hown' hgrow; obtain ⟨g', cap', rfl⟩ := ownsRow_succ hown'; obtain ⟨hv1, hv2, hr2, hk2, hb2⟩ := bv5.appended (by decide) hrow5 (Nat.le_trans hB.size D5.size) (Nat.le_refl _) hown' hgrow; have kS4 := ((kS5.alloc _).kept hgrow (kS5.not_row (by decide) hrow5)).other (B' := w2.heap.size) (by omega) (.slice (some ⟨g', 0, none⟩) (pre.length + 1) cap'); have hc1 := hv1.cell; have hf1 := hv1.frozen; have fin1 := (KeepsOthers.of_grownBy (grown_below D5 none) (fun j o e => by cases e)).trans hk2; have fin2 := (D5.mono hB.size).trans hb2; have hr3 : (w4.setCell ⟨w2.heap.size, 0, none⟩ (.slice (some ⟨g', 0, none⟩) (pre.length + 1) cap')).ownsRow w2.heap.size 43 1 (.slice (some ⟨g', 0, none⟩) (pre.length + 1) cap') (pre ++ [x]).length (flc (rs ++ [r'])) := by simpa [flc] using hr2
                apply hK; clear hK K
                refine rdy (rs := [10]) (by kernel_rfl) (by simp) ?_
                refine arc rfl (fun K hK => ?_) ?_
                ·go_simp
                 apply hK; clear hK K
                 refine wpAnyIn_done (by kernel_rfl) ?_ _
                 exact ⟨fin1.from _, ⟨fin2, kS4.trans kS.symm⟩, ⟨⟨rs ++ [r'], Mn.prods_snoc hrs hr'.cop, _, hv2, hr3, trivial⟩, kS4⟩, hB.trans fin2⟩
                exact arn
               exact arn
              exact arn
             refine arc rfl (fun K hK => ?_) ?_
             ·go_simp
              apply hK; clear hK K
              refine rdy (rs := [0]) (by kernel_rfl) (by simp) ?_
              refine arc rfl (fun K hK => ?_) ?_
              ·go_simp
               apply hK; clear hK K
               refine rdy (rs := [9]) (by kernel_rfl) (by simp) ?_
               refine arc rfl (fun K hK => ?_) ?_
               ·refine step64 rfl (.tmp 23) (.tmp 31) rfl w2.heap.size _ _ _ rfl (hrow5.alloc _) ⟨(w3.drewN n1).heap.size, 0, none⟩ 1 1 [.float .f64 r'] rfl rfl (cell_one_new _ _ _) (by simp [Value.oneCell']) (by unfold maxLen; omega) (by omega) (by have := hB.size; have := D5.size; simp; simp at this; omega) ?_; intro v' w4 hown' hgrow; obtain ⟨g', cap', rfl⟩ := ownsRow_succ hown'; obtain ⟨hv1, hv2, hr2, hk2, hb2⟩ := bv5.appended (by decide) hrow5 (Nat.le_trans hB.size D5.size) (Nat.le_refl _) hown' hgrow; have kS4 := ((kS5.alloc _).kept hgrow (kS5.not_row (by decide) hrow5)).other (B' := w2.heap.size) (by omega) (.slice (some ⟨g', 0, none⟩) (pre.length + 1) cap'); have hc1 := hv1.cell; have hf1 := hv1.frozen; have fin1 := (KeepsOthers.of_grownBy (grown_below D5 none) (fun j o e => by cases e)).trans hk2; have fin2 := (D5.mono hB.size).trans hb2; have hr3 : (w4.setCell ⟨w2.heap.size, 0, none⟩ (.slice (some ⟨g', 0, none⟩) (pre.length + 1) cap')).ownsRow w2.heap.size 43 1 (.slice (some ⟨g', 0, none⟩) (pre.length + 1) cap') (pre ++ [x]).length (flc (rs ++ [r'])) := by simpa [flc] using hr2
                apply hK; clear hK K
                refine rdy (rs := [10]) (by kernel_rfl) (by simp) ?_
                refine arc rfl (fun K hK => ?_) ?_
                ·go_simp
                 apply hK; clear hK K
                 refine wpAnyIn_done (by kernel_rfl) ?_ _
                 exact ⟨fin1.from _, ⟨fin2, kS4.trans kS.symm⟩, ⟨⟨rs ++ [r'], Mn.prods_snoc hrs hr'.cop, _, hv2, hr3, trivial⟩, kS4⟩, hB.trans fin2⟩
                exact arn
               exact arn
              exact arn
             exact arn
            exact arn
           exact arn
          exact arn
         exact arn
        refine arc rfl (fun K hK => ?_) ?_
        ·go_simp
         apply hK; clear hK K
         refine rdy (rs := [0, 2]) (by kernel_rfl) (by simp) ?_
         refine arc rfl (fun K hK => ?_) ?_
         ·go_simp
          apply hK; clear hK K
          refine rdy (rs := [2]) (by kernel_rfl) (by simp) ?_
          refine arc rfl (fun K hK => ?_) ?_
          ·go_simp
           apply hK; clear hK K
           refine rdy (rs := [3]) (by kernel_rfl) (by simp) ?_
           refine arc rfl (fun K hK => ?_) ?_
           ·go_simp; refine ⟨trivial, (CallsIn.inRound l' (callsIn_wide.2 (real_of x.2.2 _))).mono ?_⟩; rintro e w' ⟨rfl, rfl⟩; dsimp only
            apply hK; clear hK K
            refine rdy (rs := [6]) (by kernel_rfl) (by simp) ?_
            refine arc rfl (fun K hK => ?_) ?_
            ·go_simp; refine ⟨trivial, (CallsIn.inRound l' (callsIn_wide.2 (long_mean.length x.1 x.2.1 _))).mono ?_⟩; rintro e w3 ⟨rfl, b3⟩; have D3 : Below W.heap.size W w3 := ((Below.refl W.heap.size W).drew).trans b3; obtain ⟨r', n1, hr', r1⟩ := Fl.fop_run Try.prog .mul (.inr (.inr (.inl rfl))) 43 (FloatKind.f64.nearest x.2.2) (FloatKind.f64.nearest (Mn.wl x.1 x.2.1)) w3; have D5 : Below W.heap.size W (w3.drewN n1) := D3.trans (below_draw w3 n1); have cv3 := (boxed_on bv D3).cell; have bv5 := boxed_on bv D5; have hrow5 := own_on hrow D5; have cv5 := bv5.cell; have kS5 := kS.on D5; have cv5a := (bv5.alloc (.cells #[.float .f64 r'] 43)).cell; dsimp only
             apply hK; clear hK K
             refine rdy (rs := [7]) (by kernel_rfl) (by simp) ?_
             refine arc rfl (fun K hK => ?_) ?_
             ·go_simp
              apply hK; clear hK K
              refine rdy (rs := [8]) (by kernel_rfl) (by simp) ?_
              refine arc rfl (fun K hK => ?_) ?_
              ·go_simp
               apply hK; clear hK K
               refine rdy (rs := [9]) (by kernel_rfl) (by simp) ?_
               refine arc rfl (fun K hK => ?_) ?_
               ·refine step64 rfl (.tmp 23) (.tmp 31) rfl w2.heap.size _ _ _ rfl (hrow5.alloc _) ⟨(w3.drewN n1).heap.size, 0, none⟩ 1 1 [.float .f64 r'] rfl rfl (cell_one_new _ _ _) (by simp [Value.oneCell']) (by unfold maxLen; omega) (by omega) (by have := hB.size; have := D5.size; simp; simp at this; omega) ?_; intro v' w4 hown' hgrow; obtain ⟨g', cap', rfl⟩ := ownsRow_succ hown'; obtain ⟨hv1, hv2, hr2, hk2, hb2⟩ := bv5.appended (by decide) hrow5 (Nat.le_trans hB.size D5.size) (Nat.le_refl _) hown' hgrow; have kS4 := ((kS5.alloc _).kept hgrow (kS5.not_row (by decide) hrow5)).other (B' := w2.heap.size) (by omega) (.slice (some ⟨g', 0, none⟩) (pre.length + 1) cap'); have hc1 := hv1.cell; have hf1 := hv1.frozen; have fin1 := (KeepsOthers.of_grownBy (grown_below D5 none) (fun j o e => by cases e)).trans hk2; have fin2 := (D5.mono hB.size).trans hb2; have hr3 : (w4.setCell ⟨w2.heap.size, 0, none⟩ (.slice (some ⟨g', 0, none⟩) (pre.length + 1) cap')).ownsRow w2.heap.size 43 1 (.slice (some ⟨g', 0, none⟩) (pre.length + 1) cap') (pre ++ [x]).length (flc (rs ++ [r'])) := by simpa [flc] using hr2
                apply hK; clear hK K
                refine rdy (rs := [10]) (by kernel_rfl) (by simp) ?_
                refine arc rfl (fun K hK => ?_) ?_
                ·go_simp
                 apply hK; clear hK K
                 refine wpAnyIn_done (by kernel_rfl) ?_ _
                 exact ⟨fin1.from _, ⟨fin2, kS4.trans kS.symm⟩, ⟨⟨rs ++ [r'], Mn.prods_snoc hrs hr'.cop, _, hv2, hr3, trivial⟩, kS4⟩, hB.trans fin2⟩
                exact arn
               exact arn
              exact arn
             exact arn
            exact arn
           exact arn
          exact arn
         refine arc rfl (fun K hK => ?_) ?_
         ·go_simp
          apply hK; clear hK K
          refine rdy (rs := [0, 3]) (by kernel_rfl) (by simp) ?_
          refine arc rfl (fun K hK => ?_) ?_
          ·go_simp
           apply hK; clear hK K
           refine rdy (rs := [3]) (by kernel_rfl) (by simp) ?_
           refine arc rfl (fun K hK => ?_) ?_
           ·go_simp; refine ⟨trivial, (CallsIn.inRound l' (callsIn_wide.2 (real_of x.2.2 _))).mono ?_⟩; rintro e w' ⟨rfl, rfl⟩; dsimp only
            apply hK; clear hK K
            refine rdy (rs := [6]) (by kernel_rfl) (by simp) ?_
            refine arc rfl (fun K hK => ?_) ?_
            ·go_simp; refine ⟨trivial, (CallsIn.inRound l' (callsIn_wide.2 (long_mean.length x.1 x.2.1 _))).mono ?_⟩; rintro e w3 ⟨rfl, b3⟩; have D3 : Below W.heap.size W w3 := ((Below.refl W.heap.size W).drew).trans b3; obtain ⟨r', n1, hr', r1⟩ := Fl.fop_run Try.prog .mul (.inr (.inr (.inl rfl))) 43 (FloatKind.f64.nearest x.2.2) (FloatKind.f64.nearest (Mn.wl x.1 x.2.1)) w3; have D5 : Below W.heap.size W (w3.drewN n1) := D3.trans (below_draw w3 n1); have cv3 := (boxed_on bv D3).cell; have bv5 := boxed_on bv D5; have hrow5 := own_on hrow D5; have cv5 := bv5.cell; have kS5 := kS.on D5; have cv5a := (bv5.alloc (.cells #[.float .f64 r'] 43)).cell; dsimp only
             apply hK; clear hK K
             refine rdy (rs := [7]) (by kernel_rfl) (by simp) ?_
             refine arc rfl (fun K hK => ?_) ?_
             ·go_simp
              apply hK; clear hK K
              refine rdy (rs := [8]) (by kernel_rfl) (by simp) ?_
              refine arc rfl (fun K hK => ?_) ?_
              ·go_simp
               apply hK; clear hK K
               refine rdy (rs := [9]) (by kernel_rfl) (by simp) ?_
               refine arc rfl (fun K hK => ?_) ?_
               ·refine step64 rfl (.tmp 23) (.tmp 31) rfl w2.heap.size _ _ _ rfl (hrow5.alloc _) ⟨(w3.drewN n1).heap.size, 0, none⟩ 1 1 [.float .f64 r'] rfl rfl (cell_one_new _ _ _) (by simp [Value.oneCell']) (by unfold maxLen; omega) (by omega) (by have := hB.size; have := D5.size; simp; simp at this; omega) ?_; intro v' w4 hown' hgrow; obtain ⟨g', cap', rfl⟩ := ownsRow_succ hown'; obtain ⟨hv1, hv2, hr2, hk2, hb2⟩ := bv5.appended (by decide) hrow5 (Nat.le_trans hB.size D5.size) (Nat.le_refl _) hown' hgrow; have kS4 := ((kS5.alloc _).kept hgrow (kS5.not_row (by decide) hrow5)).other (B' := w2.heap.size) (by omega) (.slice (some ⟨g', 0, none⟩) (pre.length + 1) cap'); have hc1 := hv1.cell; have hf1 := hv1.frozen; have fin1 := (KeepsOthers.of_grownBy (grown_below D5 none) (fun j o e => by cases e)).trans hk2; have fin2 := (D5.mono hB.size).trans hb2; have hr3 : (w4.setCell ⟨w2.heap.size, 0, none⟩ (.slice (some ⟨g', 0, none⟩) (pre.length + 1) cap')).ownsRow w2.heap.size 43 1 (.slice (some ⟨g', 0, none⟩) (pre.length + 1) cap') (pre ++ [x]).length (flc (rs ++ [r'])) := by simpa [flc] using hr2
                apply hK; clear hK K
                refine rdy (rs := [10]) (by kernel_rfl) (by simp) ?_
                refine arc rfl (fun K hK => ?_) ?_
                ·go_simp
                 apply hK; clear hK K
                 refine wpAnyIn_done (by kernel_rfl) ?_ _
                 exact ⟨fin1.from _, ⟨fin2, kS4.trans kS.symm⟩, ⟨⟨rs ++ [r'], Mn.prods_snoc hrs hr'.cop, _, hv2, hr3, trivial⟩, kS4⟩, hB.trans fin2⟩
                exact arn
               exact arn
              exact arn
             exact arn
            exact arn
           exact arn
          refine arc rfl (fun K hK => ?_) ?_
          ·go_simp; refine ⟨trivial, (CallsIn.inRound l' (callsIn_wide.2 (real_of x.2.2 _))).mono ?_⟩; rintro e w' ⟨rfl, rfl⟩; dsimp only
           apply hK; clear hK K
           refine rdy (rs := [0, 6]) (by kernel_rfl) (by simp) ?_
           refine arc rfl (fun K hK => ?_) ?_
           ·go_simp
            apply hK; clear hK K
            refine rdy (rs := [6]) (by kernel_rfl) (by simp) ?_
            refine arc rfl (fun K hK => ?_) ?_
            ·go_simp; refine ⟨trivial, (CallsIn.inRound l' (callsIn_wide.2 (long_mean.length x.1 x.2.1 _))).mono ?_⟩; rintro e w3 ⟨rfl, b3⟩; have D3 : Below W.heap.size W w3 := ((Below.refl W.heap.size W).drew).trans b3; obtain ⟨r', n1, hr', r1⟩ := Fl.fop_run Try.prog .mul (.inr (.inr (.inl rfl))) 43 (FloatKind.f64.nearest x.2.2) (FloatKind.f64.nearest (Mn.wl x.1 x.2.1)) w3; have D5 : Below W.heap.size W (w3.drewN n1) := D3.trans (below_draw w3 n1); have cv3 := (boxed_on bv D3).cell; have bv5 := boxed_on bv D5; have hrow5 := own_on hrow D5; have cv5 := bv5.cell; have kS5 := kS.on D5; have cv5a := (bv5.alloc (.cells #[.float .f64 r'] 43)).cell; dsimp only
             apply hK; clear hK K
             refine rdy (rs := [7]) (by kernel_rfl) (by simp) ?_
             refine arc rfl (fun K hK => ?_) ?_
             ·go_simp
              apply hK; clear hK K
              refine rdy (rs := [8]) (by kernel_rfl) (by simp) ?_
              refine arc rfl (fun K hK => ?_) ?_
              ·go_simp
               apply hK; clear hK K
               refine rdy (rs := [9]) (by kernel_rfl) (by simp) ?_
               refine arc rfl (fun K hK => ?_) ?_
               ·refine step64 rfl (.tmp 23) (.tmp 31) rfl w2.heap.size _ _ _ rfl (hrow5.alloc _) ⟨(w3.drewN n1).heap.size, 0, none⟩ 1 1 [.float .f64 r'] rfl rfl (cell_one_new _ _ _) (by simp [Value.oneCell']) (by unfold maxLen; omega) (by omega) (by have := hB.size; have := D5.size; simp; simp at this; omega) ?_; intro v' w4 hown' hgrow; obtain ⟨g', cap', rfl⟩ := ownsRow_succ hown'; obtain ⟨hv1, hv2, hr2, hk2, hb2⟩ := bv5.appended (by decide) hrow5 (Nat.le_trans hB.size D5.size) (Nat.le_refl _) hown' hgrow; have kS4 := ((kS5.alloc _).kept hgrow (kS5.not_row (by decide) hrow5)).other (B' := w2.heap.size) (by omega) (.slice (some ⟨g', 0, none⟩) (pre.length + 1) cap'); have hc1 := hv1.cell; have hf1 := hv1.frozen; have fin1 := (KeepsOthers.of_grownBy (grown_below D5 none) (fun j o e => by cases e)).trans hk2; have fin2 := (D5.mono hB.size).trans hb2; have hr3 : (w4.setCell ⟨w2.heap.size, 0, none⟩ (.slice (some ⟨g', 0, none⟩) (pre.length + 1) cap')).ownsRow w2.heap.size 43 1 (.slice (some ⟨g', 0, none⟩) (pre.length + 1) cap') (pre ++ [x]).length (flc (rs ++ [r'])) := by simpa [flc] using hr2
                apply hK; clear hK K
                refine rdy (rs := [10]) (by kernel_rfl) (by simp) ?_
                refine arc rfl (fun K hK => ?_) ?_
                ·go_simp
                 apply hK; clear hK K
                 refine wpAnyIn_done (by kernel_rfl) ?_ _
                 exact ⟨fin1.from _, ⟨fin2, kS4.trans kS.symm⟩, ⟨⟨rs ++ [r'], Mn.prods_snoc hrs hr'.cop, _, hv2, hr3, trivial⟩, kS4⟩, hB.trans fin2⟩
                exact arn
               exact arn
              exact arn
             exact arn
            exact arn
           refine arc rfl (fun K hK => ?_) ?_
           ·go_simp; refine ⟨trivial, (CallsIn.inRound l' (callsIn_wide.2 (long_mean.length x.1 x.2.1 _))).mono ?_⟩; rintro e w3 ⟨rfl, b3⟩; have D3 : Below W.heap.size W w3 := ((Below.refl W.heap.size W).drew).trans b3; obtain ⟨r', n1, hr', r1⟩ := Fl.fop_run Try.prog .mul (.inr (.inr (.inl rfl))) 43 (FloatKind.f64.nearest x.2.2) (FloatKind.f64.nearest (Mn.wl x.1 x.2.1)) w3; have D5 : Below W.heap.size W (w3.drewN n1) := D3.trans (below_draw w3 n1); have cv3 := (boxed_on bv D3).cell; have bv5 := boxed_on bv D5; have hrow5 := own_on hrow D5; have cv5 := bv5.cell; have kS5 := kS.on D5; have cv5a := (bv5.alloc (.cells #[.float .f64 r'] 43)).cell; dsimp only
            apply hK; clear hK K
            refine rdy (rs := [0, 7]) (by kernel_rfl) (by simp) ?_
            refine arc rfl (fun K hK => ?_) ?_
            ·go_simp
             apply hK; clear hK K
             refine rdy (rs := [7]) (by kernel_rfl) (by simp) ?_
             refine arc rfl (fun K hK => ?_) ?_
             ·go_simp
              apply hK; clear hK K
              refine rdy (rs := [8]) (by kernel_rfl) (by simp) ?_
              refine arc rfl (fun K hK => ?_) ?_
              ·go_simp
               apply hK; clear hK K
               refine rdy (rs := [9]) (by kernel_rfl) (by simp) ?_
               refine arc rfl (fun K hK => ?_) ?_
               ·refine step64 rfl (.tmp 23) (.tmp 31) rfl w2.heap.size _ _ _ rfl (hrow5.alloc _) ⟨(w3.drewN n1).heap.size, 0, none⟩ 1 1 [.float .f64 r'] rfl rfl (cell_one_new _ _ _) (by simp [Value.oneCell']) (by unfold maxLen; omega) (by omega) (by have := hB.size; have := D5.size; simp; simp at this; omega) ?_; intro v' w4 hown' hgrow; obtain ⟨g', cap', rfl⟩ := ownsRow_succ hown'; obtain ⟨hv1, hv2, hr2, hk2, hb2⟩ := bv5.appended (by decide) hrow5 (Nat.le_trans hB.size D5.size) (Nat.le_refl _) hown' hgrow; have kS4 := ((kS5.alloc _).kept hgrow (kS5.not_row (by decide) hrow5)).other (B' := w2.heap.size) (by omega) (.slice (some ⟨g', 0, none⟩) (pre.length + 1) cap'); have hc1 := hv1.cell; have hf1 := hv1.frozen; have fin1 := (KeepsOthers.of_grownBy (grown_below D5 none) (fun j o e => by cases e)).trans hk2; have fin2 := (D5.mono hB.size).trans hb2; have hr3 : (w4.setCell ⟨w2.heap.size, 0, none⟩ (.slice (some ⟨g', 0, none⟩) (pre.length + 1) cap')).ownsRow w2.heap.size 43 1 (.slice (some ⟨g', 0, none⟩) (pre.length + 1) cap') (pre ++ [x]).length (flc (rs ++ [r'])) := by simpa [flc] using hr2
                apply hK; clear hK K
                refine rdy (rs := [10]) (by kernel_rfl) (by simp) ?_
                refine arc rfl (fun K hK => ?_) ?_
                ·go_simp
                 apply hK; clear hK K
                 refine wpAnyIn_done (by kernel_rfl) ?_ _
                 exact ⟨fin1.from _, ⟨fin2, kS4.trans kS.symm⟩, ⟨⟨rs ++ [r'], Mn.prods_snoc hrs hr'.cop, _, hv2, hr3, trivial⟩, kS4⟩, hB.trans fin2⟩
                exact arn
               exact arn
              exact arn
             exact arn
            refine arc rfl (fun K hK => ?_) ?_
            ·go_simp
             apply hK; clear hK K
             refine rdy (rs := [0, 8]) (by kernel_rfl) (by simp) ?_
             refine arc rfl (fun K hK => ?_) ?_
             ·go_simp
              apply hK; clear hK K
              refine rdy (rs := [8]) (by kernel_rfl) (by simp) ?_
              refine arc rfl (fun K hK => ?_) ?_
              ·go_simp
               apply hK; clear hK K
               refine rdy (rs := [9]) (by kernel_rfl) (by simp) ?_
               refine arc rfl (fun K hK => ?_) ?_
               ·refine step64 rfl (.tmp 23) (.tmp 31) rfl w2.heap.size _ _ _ rfl (hrow5.alloc _) ⟨(w3.drewN n1).heap.size, 0, none⟩ 1 1 [.float .f64 r'] rfl rfl (cell_one_new _ _ _) (by simp [Value.oneCell']) (by unfold maxLen; omega) (by omega) (by have := hB.size; have := D5.size; simp; simp at this; omega) ?_; intro v' w4 hown' hgrow; obtain ⟨g', cap', rfl⟩ := ownsRow_succ hown'; obtain ⟨hv1, hv2, hr2, hk2, hb2⟩ := bv5.appended (by decide) hrow5 (Nat.le_trans hB.size D5.size) (Nat.le_refl _) hown' hgrow; have kS4 := ((kS5.alloc _).kept hgrow (kS5.not_row (by decide) hrow5)).other (B' := w2.heap.size) (by omega) (.slice (some ⟨g', 0, none⟩) (pre.length + 1) cap'); have hc1 := hv1.cell; have hf1 := hv1.frozen; have fin1 := (KeepsOthers.of_grownBy (grown_below D5 none) (fun j o e => by cases e)).trans hk2; have fin2 := (D5.mono hB.size).trans hb2; have hr3 : (w4.setCell ⟨w2.heap.size, 0, none⟩ (.slice (some ⟨g', 0, none⟩) (pre.length + 1) cap')).ownsRow w2.heap.size 43 1 (.slice (some ⟨g', 0, none⟩) (pre.length + 1) cap') (pre ++ [x]).length (flc (rs ++ [r'])) := by simpa [flc] using hr2
                apply hK; clear hK K
                refine rdy (rs := [10]) (by kernel_rfl) (by simp) ?_
                refine arc rfl (fun K hK => ?_) ?_
                ·go_simp
                 apply hK; clear hK K
                 refine wpAnyIn_done (by kernel_rfl) ?_ _
                 exact ⟨fin1.from _, ⟨fin2, kS4.trans kS.symm⟩, ⟨⟨rs ++ [r'], Mn.prods_snoc hrs hr'.cop, _, hv2, hr3, trivial⟩, kS4⟩, hB.trans fin2⟩
                exact arn
               exact arn
              exact arn
             refine arc rfl (fun K hK => ?_) ?_
             ·go_simp
              apply hK; clear hK K
              refine rdy (rs := [0]) (by kernel_rfl) (by simp) ?_
              refine arc rfl (fun K hK => ?_) ?_
              ·go_simp
               apply hK; clear hK K
               refine rdy (rs := [9]) (by kernel_rfl) (by simp) ?_
               refine arc rfl (fun K hK => ?_) ?_
               ·refine step64 rfl (.tmp 23) (.tmp 31) rfl w2.heap.size _ _ _ rfl (hrow5.alloc _) ⟨(w3.drewN n1).heap.size, 0, none⟩ 1 1 [.float .f64 r'] rfl rfl (cell_one_new _ _ _) (by simp [Value.oneCell']) (by unfold maxLen; omega) (by omega) (by have := hB.size; have := D5.size; simp; simp at this; omega) ?_; intro v' w4 hown' hgrow; obtain ⟨g', cap', rfl⟩ := ownsRow_succ hown'; obtain ⟨hv1, hv2, hr2, hk2, hb2⟩ := bv5.appended (by decide) hrow5 (Nat.le_trans hB.size D5.size) (Nat.le_refl _) hown' hgrow; have kS4 := ((kS5.alloc _).kept hgrow (kS5.not_row (by decide) hrow5)).other (B' := w2.heap.size) (by omega) (.slice (some ⟨g', 0, none⟩) (pre.length + 1) cap'); have hc1 := hv1.cell; have hf1 := hv1.frozen; have fin1 := (KeepsOthers.of_grownBy (grown_below D5 none) (fun j o e => by cases e)).trans hk2; have fin2 := (D5.mono hB.size).trans hb2; have hr3 : (w4.setCell ⟨w2.heap.size, 0, none⟩ (.slice (some ⟨g', 0, none⟩) (pre.length + 1) cap')).ownsRow w2.heap.size 43 1 (.slice (some ⟨g', 0, none⟩) (pre.length + 1) cap') (pre ++ [x]).length (flc (rs ++ [r'])) := by simpa [flc] using hr2
                apply hK; clear hK K
                refine rdy (rs := [10]) (by kernel_rfl) (by simp) ?_
                refine arc rfl (fun K hK => ?_) ?_
                ·go_simp
                 apply hK; clear hK K
                 refine wpAnyIn_done (by kernel_rfl) ?_ _
                 exact ⟨fin1.from _, ⟨fin2, kS4.trans kS.symm⟩, ⟨⟨rs ++ [r'], Mn.prods_snoc hrs hr'.cop, _, hv2, hr3, trivial⟩, kS4⟩, hB.trans fin2⟩
                exact arn
               exact arn
              exact arn
             exact arn
            exact arn
           exact arn
          exact arn
         exact arn
        exact arn
       exact arn
      refine arc rfl (fun K hK => ?_) ?_
      ·go_simp
       apply hK; clear hK K
       refine rdy (rs := [0, 1, 5]) (by kernel_rfl) (by simp) ?_
       refine arc rfl (fun K hK => ?_) ?_
       ·go_simp
        apply hK; clear hK K
        refine rdy (rs := [1, 5]) (by kernel_rfl) (by simp) ?_
        refine arc rfl (fun K hK => ?_) ?_
        ·go_simp
         apply hK; clear hK K
         refine rdy (rs := [2, 5]) (by kernel_rfl) (by simp) ?_
         refine arc rfl (fun K hK => ?_) ?_
         ·go_simp
          apply hK; clear hK K
          refine rdy (rs := [3, 5]) (by kernel_rfl) (by simp) ?_
          refine arc rfl (fun K hK => ?_) ?_
          ·go_simp; refine ⟨trivial, (CallsIn.inRound l' (callsIn_wide.2 (real_of x.2.2 _))).mono ?_⟩; rintro e w' ⟨rfl, rfl⟩; dsimp only
           apply hK; clear hK K
           refine rdy (rs := [5]) (by kernel_rfl) (by simp) ?_
           refine arc rfl (fun K hK => ?_) ?_
           ·go_simp
            apply hK; clear hK K
            refine rdy (rs := [6]) (by kernel_rfl) (by simp) ?_
            refine arc rfl (fun K hK => ?_) ?_
            ·go_simp; refine ⟨trivial, (CallsIn.inRound l' (callsIn_wide.2 (long_mean.length x.1 x.2.1 _))).mono ?_⟩; rintro e w3 ⟨rfl, b3⟩; have D3 : Below W.heap.size W w3 := ((Below.refl W.heap.size W).drew).trans b3; obtain ⟨r', n1, hr', r1⟩ := Fl.fop_run Try.prog .mul (.inr (.inr (.inl rfl))) 43 (FloatKind.f64.nearest x.2.2) (FloatKind.f64.nearest (Mn.wl x.1 x.2.1)) w3; have D5 : Below W.heap.size W (w3.drewN n1) := D3.trans (below_draw w3 n1); have cv3 := (boxed_on bv D3).cell; have bv5 := boxed_on bv D5; have hrow5 := own_on hrow D5; have cv5 := bv5.cell; have kS5 := kS.on D5; have cv5a := (bv5.alloc (.cells #[.float .f64 r'] 43)).cell; dsimp only
             apply hK; clear hK K
             refine rdy (rs := [7]) (by kernel_rfl) (by simp) ?_
             refine arc rfl (fun K hK => ?_) ?_
             ·go_simp
              apply hK; clear hK K
              refine rdy (rs := [8]) (by kernel_rfl) (by simp) ?_
              refine arc rfl (fun K hK => ?_) ?_
              ·go_simp
               apply hK; clear hK K
               refine rdy (rs := [9]) (by kernel_rfl) (by simp) ?_
               refine arc rfl (fun K hK => ?_) ?_
               ·refine step64 rfl (.tmp 23) (.tmp 31) rfl w2.heap.size _ _ _ rfl (hrow5.alloc _) ⟨(w3.drewN n1).heap.size, 0, none⟩ 1 1 [.float .f64 r'] rfl rfl (cell_one_new _ _ _) (by simp [Value.oneCell']) (by unfold maxLen; omega) (by omega) (by have := hB.size; have := D5.size; simp; simp at this; omega) ?_; intro v' w4 hown' hgrow; obtain ⟨g', cap', rfl⟩ := ownsRow_succ hown'; obtain ⟨hv1, hv2, hr2, hk2, hb2⟩ := bv5.appended (by decide) hrow5 (Nat.le_trans hB.size D5.size) (Nat.le_refl _) hown' hgrow; have kS4 := ((kS5.alloc _).kept hgrow (kS5.not_row (by decide) hrow5)).other (B' := w2.heap.size) (by omega) (.slice (some ⟨g', 0, none⟩) (pre.length + 1) cap'); have hc1 := hv1.cell; have hf1 := hv1.frozen; have fin1 := (KeepsOthers.of_grownBy (grown_below D5 none) (fun j o e => by cases e)).trans hk2; have fin2 := (D5.mono hB.size).trans hb2; have hr3 : (w4.setCell ⟨w2.heap.size, 0, none⟩ (.slice (some ⟨g', 0, none⟩) (pre.length + 1) cap')).ownsRow w2.heap.size 43 1 (.slice (some ⟨g', 0, none⟩) (pre.length + 1) cap') (pre ++ [x]).length (flc (rs ++ [r'])) := by simpa [flc] using hr2
                apply hK; clear hK K
                refine rdy (rs := [10]) (by kernel_rfl) (by simp) ?_
                refine arc rfl (fun K hK => ?_) ?_
                ·go_simp
                 apply hK; clear hK K
                 refine wpAnyIn_done (by kernel_rfl) ?_ _
                 exact ⟨fin1.from _, ⟨fin2, kS4.trans kS.symm⟩, ⟨⟨rs ++ [r'], Mn.prods_snoc hrs hr'.cop, _, hv2, hr3, trivial⟩, kS4⟩, hB.trans fin2⟩
                exact arn
               exact arn
              exact arn
             exact arn
            exact arn
           exact arn
          refine arc rfl (fun K hK => ?_) ?_
          ·go_simp
           apply hK; clear hK K
           refine rdy (rs := [3]) (by kernel_rfl) (by simp) ?_
           refine arc rfl (fun K hK => ?_) ?_
           ·go_simp; refine ⟨trivial, (CallsIn.inRound l' (callsIn_wide.2 (real_of x.2.2 _))).mono ?_⟩; rintro e w' ⟨rfl, rfl⟩; dsimp only
            apply hK; clear hK K
            refine rdy (rs := [6]) (by kernel_rfl) (by simp) ?_
            refine arc rfl (fun K hK => ?_) ?_
            ·go_simp; refine ⟨trivial, (CallsIn.inRound l' (callsIn_wide.2 (long_mean.length x.1 x.2.1 _))).mono ?_⟩; rintro e w3 ⟨rfl, b3⟩; have D3 : Below W.heap.size W w3 := ((Below.refl W.heap.size W).drew).trans b3; obtain ⟨r', n1, hr', r1⟩ := Fl.fop_run Try.prog .mul (.inr (.inr (.inl rfl))) 43 (FloatKind.f64.nearest x.2.2) (FloatKind.f64.nearest (Mn.wl x.1 x.2.1)) w3; have D5 : Below W.heap.size W (w3.drewN n1) := D3.trans (below_draw w3 n1); have cv3 := (boxed_on bv D3).cell; have bv5 := boxed_on bv D5; have hrow5 := own_on hrow D5; have cv5 := bv5.cell; have kS5 := kS.on D5; have cv5a := (bv5.alloc (.cells #[.float .f64 r'] 43)).cell; dsimp only
             apply hK; clear hK K
             refine rdy (rs := [7]) (by kernel_rfl) (by simp) ?_
             refine arc rfl (fun K hK => ?_) ?_
             ·go_simp
              apply hK; clear hK K
              refine rdy (rs := [8]) (by kernel_rfl) (by simp) ?_
              refine arc rfl (fun K hK => ?_) ?_
              ·go_simp
               apply hK; clear hK K
               refine rdy (rs := [9]) (by kernel_rfl) (by simp) ?_
               refine arc rfl (fun K hK => ?_) ?_
               ·refine step64 rfl (.tmp 23) (.tmp 31) rfl w2.heap.size _ _ _ rfl (hrow5.alloc _) ⟨(w3.drewN n1).heap.size, 0, none⟩ 1 1 [.float .f64 r'] rfl rfl (cell_one_new _ _ _) (by simp [Value.oneCell']) (by unfold maxLen; omega) (by omega) (by have := hB.size; have := D5.size; simp; simp at this; omega) ?_; intro v' w4 hown' hgrow; obtain ⟨g', cap', rfl⟩ := ownsRow_succ hown'; obtain ⟨hv1, hv2, hr2, hk2, hb2⟩ := bv5.appended (by decide) hrow5 (Nat.le_trans hB.size D5.size) (Nat.le_refl _) hown' hgrow; have kS4 := ((kS5.alloc _).kept hgrow (kS5.not_row (by decide) hrow5)).other (B' := w2.heap.size) (by omega) (.slice (some ⟨g', 0, none⟩) (pre.length + 1) cap'); have hc1 := hv1.cell; have hf1 := hv1.frozen; have fin1 := (KeepsOthers.of_grownBy (grown_below D5 none) (fun j o e => by cases e)).trans hk2; have fin2 := (D5.mono hB.size).trans hb2; have hr3 : (w4.setCell ⟨w2.heap.size, 0, none⟩ (.slice (some ⟨g', 0, none⟩) (pre.length + 1) cap')).ownsRow w2.heap.size 43 1 (.slice (some ⟨g', 0, none⟩) (pre.length + 1) cap') (pre ++ [x]).length (flc (rs ++ [r'])) := by simpa [flc] using hr2
                apply hK; clear hK K
                refine rdy (rs := [10]) (by kernel_rfl) (by simp) ?_
                refine arc rfl (fun K hK => ?_) ?_
                ·go_simp
                 apply hK; clear hK K
                 refine wpAnyIn_done (by kernel_rfl) ?_ _
                 exact ⟨fin1.from _, ⟨fin2, kS4.trans kS.symm⟩, ⟨⟨rs ++ [r'], Mn.prods_snoc hrs hr'.cop, _, hv2, hr3, trivial⟩, kS4⟩, hB.trans fin2⟩
                exact arn
               exact arn
              exact arn
             exact arn
            exact arn
           exact arn
          exact arn
         refine arc rfl (fun K hK => ?_) ?_
         ·go_simp
          apply hK; clear hK K
          refine rdy (rs := [2]) (by kernel_rfl) (by simp) ?_
          refine arc rfl (fun K hK => ?_) ?_
          ·go_simp
           apply hK; clear hK K
           refine rdy (rs := [3]) (by kernel_rfl) (by simp) ?_
           refine arc rfl (fun K hK => ?_) ?_
           ·go_simp; refine ⟨trivial, (CallsIn.inRound l' (callsIn_wide.2 (real_of x.2.2 _))).mono ?_⟩; rintro e w' ⟨rfl, rfl⟩; dsimp only
            apply hK; clear hK K
            refine rdy (rs := [6]) (by kernel_rfl) (by simp) ?_
            refine arc rfl (fun K hK => ?_) ?_
            ·go_simp; refine ⟨trivial, (CallsIn.inRound l' (callsIn_wide.2 (long_mean.length x.1 x.2.1 _))).mono ?_⟩; rintro e w3 ⟨rfl, b3⟩; have D3 : Below W.heap.size W w3 := ((Below.refl W.heap.size W).drew).trans b3; obtain ⟨r', n1, hr', r1⟩ := Fl.fop_run Try.prog .mul (.inr (.inr (.inl rfl))) 43 (FloatKind.f64.nearest x.2.2) (FloatKind.f64.nearest (Mn.wl x.1 x.2.1)) w3; have D5 : Below W.heap.size W (w3.drewN n1) := D3.trans (below_draw w3 n1); have cv3 := (boxed_on bv D3).cell; have bv5 := boxed_on bv D5; have hrow5 := own_on hrow D5; have cv5 := bv5.cell; have kS5 := kS.on D5; have cv5a := (bv5.alloc (.cells #[.float .f64 r'] 43)).cell; dsimp only
             apply hK; clear hK K
             refine rdy (rs := [7]) (by kernel_rfl) (by simp) ?_
             refine arc rfl (fun K hK => ?_) ?_
             ·go_simp
              apply hK; clear hK K
              refine rdy (rs := [8]) (by kernel_rfl) (by simp) ?_
              refine arc rfl (fun K hK => ?_) ?_
              ·go_simp
               apply hK; clear hK K
               refine rdy (rs := [9]) (by kernel_rfl) (by simp) ?_
               refine arc rfl (fun K hK => ?_) ?_
               ·refine step64 rfl (.tmp 23) (.tmp 31) rfl w2.heap.size _ _ _ rfl (hrow5.alloc _) ⟨(w3.drewN n1).heap.size, 0, none⟩ 1 1 [.float .f64 r'] rfl rfl (cell_one_new _ _ _) (by simp [Value.oneCell']) (by unfold maxLen; omega) (by omega) (by have := hB.size; have := D5.size; simp; simp at this; omega) ?_; intro v' w4 hown' hgrow; obtain ⟨g', cap', rfl⟩ := ownsRow_succ hown'; obtain ⟨hv1, hv2, hr2, hk2, hb2⟩ := bv5.appended (by decide) hrow5 (Nat.le_trans hB.size D5.size) (Nat.le_refl _) hown' hgrow; have kS4 := ((kS5.alloc _).kept hgrow (kS5.not_row (by decide) hrow5)).other (B' := w2.heap.size) (by omega) (.slice (some ⟨g', 0, none⟩) (pre.length + 1) cap'); have hc1 := hv1.cell; have hf1 := hv1.frozen; have fin1 := (KeepsOthers.of_grownBy (grown_below D5 none) (fun j o e => by cases e)).trans hk2; have fin2 := (D5.mono hB.size).trans hb2; have hr3 : (w4.setCell ⟨w2.heap.size, 0, none⟩ (.slice (some ⟨g', 0, none⟩) (pre.length + 1) cap')).ownsRow w2.heap.size 43 1 (.slice (some ⟨g', 0, none⟩) (pre.length + 1) cap') (pre ++ [x]).length (flc (rs ++ [r'])) := by simpa [flc] using hr2
                apply hK; clear hK K
                refine rdy (rs := [10]) (by kernel_rfl) (by simp) ?_
                refine arc rfl (fun K hK => ?_) ?_
                ·go_simp
                 apply hK; clear hK K
                 refine wpAnyIn_done (by kernel_rfl) ?_ _
                 exact ⟨fin1.from _, ⟨fin2, kS4.trans kS.symm⟩, ⟨⟨rs ++ [r'], Mn.prods_snoc hrs hr'.cop, _, hv2, hr3, trivial⟩, kS4⟩, hB.trans fin2⟩
                exact arn
               exact arn
              exact arn
             exact arn
            exact arn
           exact arn
          exact arn
         exact arn
        refine arc rfl (fun K hK => ?_) ?_
        ·go_simp
         apply hK; clear hK K
         refine rdy (rs := [1]) (by kernel_rfl) (by simp) ?_
         refine arc rfl (fun K hK => ?_) ?_
         ·go_simp
          apply hK; clear hK K
          refine rdy (rs := [2]) (by kernel_rfl) (by simp) ?_
          refine arc rfl (fun K hK => ?_) ?_
          ·go_simp
           apply hK; clear hK K
           refine rdy (rs := [3]) (by kernel_rfl) (by simp) ?_
           refine arc rfl (fun K hK => ?_) ?_
           ·go_simp; refine ⟨trivial, (CallsIn.inRound l' (callsIn_wide.2 (real_of x.2.2 _))).mono ?_⟩; rintro e w' ⟨rfl, rfl⟩; dsimp only
            apply hK; clear hK K
            refine rdy (rs := [6]) (by kernel_rfl) (by simp) ?_
            refine arc rfl (fun K hK => ?_) ?_
            ·go_simp; refine ⟨trivial, (CallsIn.inRound l' (callsIn_wide.2 (long_mean.length x.1 x.2.1 _))).mono ?_⟩; rintro e w3 ⟨rfl, b3⟩; have D3 : Below W.heap.size W w3 := ((Below.refl W.heap.size W).drew).trans b3; obtain ⟨r', n1, hr', r1⟩ := Fl.fop_run Try.prog .mul (.inr (.inr (.inl rfl))) 43 (FloatKind.f64.nearest x.2.2) (FloatKind.f64.nearest (Mn.wl x.1 x.2.1)) w3; have D5 : Below W.heap.size W (w3.drewN n1) := D3.trans (below_draw w3 n1); have cv3 := (boxed_on bv D3).cell; have bv5 := boxed_on bv D5; have hrow5 := own_on hrow D5; have cv5 := bv5.cell; have kS5 := kS.on D5; have cv5a := (bv5.alloc (.cells #[.float .f64 r'] 43)).cell; dsimp only
             apply hK; clear hK K
             refine rdy (rs := [7]) (by kernel_rfl) (by simp) ?_
             refine arc rfl (fun K hK => ?_) ?_
             ·go_simp
              apply hK; clear hK K
              refine rdy (rs := [8]) (by kernel_rfl) (by simp) ?_
              refine arc rfl (fun K hK => ?_) ?_
              ·go_simp
               apply hK; clear hK K
               refine rdy (rs := [9]) (by kernel_rfl) (by simp) ?_
               refine arc rfl (fun K hK => ?_) ?_
               ·refine step64 rfl (.tmp 23) (.tmp 31) rfl w2.heap.size _ _ _ rfl (hrow5.alloc _) ⟨(w3.drewN n1).heap.size, 0, none⟩ 1 1 [.float .f64 r'] rfl rfl (cell_one_new _ _ _) (by simp [Value.oneCell']) (by unfold maxLen; omega) (by omega) (by have := hB.size; have := D5.size; simp; simp at this; omega) ?_; intro v' w4 hown' hgrow; obtain ⟨g', cap', rfl⟩ := ownsRow_succ hown'; obtain ⟨hv1, hv2, hr2, hk2, hb2⟩ := bv5.appended (by decide) hrow5 (Nat.le_trans hB.size D5.size) (Nat.le_refl _) hown' hgrow; have kS4 := ((kS5.alloc _).kept hgrow (kS5.not_row (by decide) hrow5)).other (B' := w2.heap.size) (by omega) (.slice (some ⟨g', 0, none⟩) (pre.length + 1) cap'); have hc1 := hv1.cell; have hf1 := hv1.frozen; have fin1 := (KeepsOthers.of_grownBy (grown_below D5 none) (fun j o e => by cases e)).trans hk2; have fin2 := (D5.mono hB.size).trans hb2; have hr3 : (w4.setCell ⟨w2.heap.size, 0, none⟩ (.slice (some ⟨g', 0, none⟩) (pre.length + 1) cap')).ownsRow w2.heap.size 43 1 (.slice (some ⟨g', 0, none⟩) (pre.length + 1) cap') (pre ++ [x]).length (flc (rs ++ [r'])) := by simpa [flc] using hr2
                apply hK; clear hK K
                refine rdy (rs := [10]) (by kernel_rfl) (by simp) ?_
                refine arc rfl (fun K hK => ?_) ?_
                ·go_simp
                 apply hK; clear hK K
                 refine wpAnyIn_done (by kernel_rfl) ?_ _
                 exact ⟨fin1.from _, ⟨fin2, kS4.trans kS.symm⟩, ⟨⟨rs ++ [r'], Mn.prods_snoc hrs hr'.cop, _, hv2, hr3, trivial⟩, kS4⟩, hB.trans fin2⟩
                exact arn
               exact arn
              exact arn
             exact arn
            exact arn
           exact arn
          exact arn
         exact arn
        exact arn
       refine arc rfl (fun K hK => ?_) ?_
       ·go_simp
        apply hK; clear hK K
        refine rdy (rs := [0, 2, 5]) (by kernel_rfl) (by simp) ?_
        refine arc rfl (fun K hK => ?_) ?_
        ·go_simp
         apply hK; clear hK K
         refine rdy (rs := [2, 5]) (by kernel_rfl) (by simp) ?_
         refine arc rfl (fun K hK => ?_) ?_
         ·go_simp
          apply hK; clear hK K
          refine rdy (rs := [3, 5]) (by kernel_rfl) (by simp) ?_
          refine arc rfl (fun K hK => ?_) ?_
          ·go_simp; refine ⟨trivial, (CallsIn.inRound l' (callsIn_wide.2 (real_of x.2.2 _))).mono ?_⟩; rintro e w' ⟨rfl, rfl⟩; dsimp only
           apply hK; clear hK K
           refine rdy (rs := [5]) (by kernel_rfl) (by simp) ?_
           refine arc rfl (fun K hK => ?_) ?_
           ·go_simp
            apply hK; clear hK K
            refine rdy (rs := [6]) (by kernel_rfl) (by simp) ?_
            refine arc rfl (fun K hK => ?_) ?_
            ·go_simp; refine ⟨trivial, (CallsIn.inRound l' (callsIn_wide.2 (long_mean.length x.1 x.2.1 _))).mono ?_⟩; rintro e w3 ⟨rfl, b3⟩; have D3 : Below W.heap.size W w3 := ((Below.refl W.heap.size W).drew).trans b3; obtain ⟨r', n1, hr', r1⟩ := Fl.fop_run Try.prog .mul (.inr (.inr (.inl rfl))) 43 (FloatKind.f64.nearest x.2.2) (FloatKind.f64.nearest (Mn.wl x.1 x.2.1)) w3; have D5 : Below W.heap.size W (w3.drewN n1) := D3.trans (below_draw w3 n1); have cv3 := (boxed_on bv D3).cell; have bv5 := boxed_on bv D5; have hrow5 := own_on hrow D5; have cv5 := bv5.cell; have kS5 := kS.on D5; have cv5a := (bv5.alloc (.cells #[.float .f64 r'] 43)).cell; dsimp only
             apply hK; clear hK K
             refine rdy (rs := [7]) (by kernel_rfl) (by simp) ?_
             refine arc rfl (fun K hK => ?_) ?_
             ·go_simp
              apply hK; clear hK K
              refine rdy (rs := [8]) (by kernel_rfl) (by simp) ?_
              refine arc rfl (fun K hK => ?_) ?_
              ·go_simp
               apply hK; clear hK K
               refine rdy (rs := [9]) (by kernel_rfl) (by simp) ?_
               refine arc rfl (fun K hK => ?_) ?_
               ·refine step64 rfl (.tmp 23) (.tmp 31) rfl w2.heap.size _ _ _ rfl (hrow5.alloc _) ⟨(w3.drewN n1).heap.size, 0, none⟩ 1 1 [.float .f64 r'] rfl rfl (cell_one_new _ _ _) (by simp [Value.oneCell']) (by unfold maxLen; omega) (by omega) (by have := hB.size; have := D5.size; simp; simp at this; omega) ?_; intro v' w4 hown' hgrow; obtain ⟨g', cap', rfl⟩ := ownsRow_succ hown'; obtain ⟨hv1, hv2, hr2, hk2, hb2⟩ := bv5.appended (by decide) hrow5 (Nat.le_trans hB.size D5.size) (Nat.le_refl _) hown' hgrow; have kS4 := ((kS5.alloc _).kept hgrow (kS5.not_row (by decide) hrow5)).other (B' := w2.heap.size) (by omega) (.slice (some ⟨g', 0, none⟩) (pre.length + 1) cap'); have hc1 := hv1.cell; have hf1 := hv1.frozen; have fin1 := (KeepsOthers.of_grownBy (grown_below D5 none) (fun j o e => by cases e)).trans hk2; have fin2 := (D5.mono hB.size).trans hb2; have hr3 : (w4.setCell ⟨w2.heap.size, 0, none⟩ (.slice (some ⟨g', 0, none⟩) (pre.length + 1) cap')).ownsRow w2.heap.size 43 1 (.slice (some ⟨g', 0, none⟩) (pre.length + 1) cap') (pre ++ [x]).length (flc (rs ++ [r'])) := by simpa [flc] using hr2
                apply hK; clear hK K
                refine rdy (rs := [10]) (by kernel_rfl) (by simp) ?_
                refine arc rfl (fun K hK => ?_) ?_
                ·go_simp
                 apply hK; clear hK K
                 refine wpAnyIn_done (by kernel_rfl) ?_ _
                 exact ⟨fin1.from _, ⟨fin2, kS4.trans kS.symm⟩, ⟨⟨rs ++ [r'], Mn.prods_snoc hrs hr'.cop, _, hv2, hr3, trivial⟩, kS4⟩, hB.trans fin2⟩
                exact arn
               exact arn
              exact arn
             exact arn
            exact arn
           exact arn
          refine arc rfl (fun K hK => ?_) ?_
          ·go_simp
           apply hK; clear hK K
           refine rdy (rs := [3]) (by kernel_rfl) (by simp) ?_
           refine arc rfl (fun K hK => ?_) ?_
           ·go_simp; refine ⟨trivial, (CallsIn.inRound l' (callsIn_wide.2 (real_of x.2.2 _))).mono ?_⟩; rintro e w' ⟨rfl, rfl⟩; dsimp only
            apply hK; clear hK K
            refine rdy (rs := [6]) (by kernel_rfl) (by simp) ?_
            refine arc rfl (fun K hK => ?_) ?_
            ·go_simp; refine ⟨trivial, (CallsIn.inRound l' (callsIn_wide.2 (long_mean.length x.1 x.2.1 _))).mono ?_⟩; rintro e w3 ⟨rfl, b3⟩; have D3 : Below W.heap.size W w3 := ((Below.refl W.heap.size W).drew).trans b3; obtain ⟨r', n1, hr', r1⟩ := Fl.fop_run Try.prog .mul (.inr (.inr (.inl rfl))) 43 (FloatKind.f64.nearest x.2.2) (FloatKind.f64.nearest (Mn.wl x.1 x.2.1)) w3; have D5 : Below W.heap.size W (w3.drewN n1) := D3.trans (below_draw w3 n1); have cv3 := (boxed_on bv D3).cell; have bv5 := boxed_on bv D5; have hrow5 := own_on hrow D5; have cv5 := bv5.cell; have kS5 := kS.on D5; have cv5a := (bv5.alloc (.cells #[.float .f64 r'] 43)).cell; dsimp only
             apply hK; clear hK K
             refine rdy (rs := [7]) (by kernel_rfl) (by simp) ?_
             refine arc rfl (fun K hK => ?_) ?_
             ·go_simp
              apply hK; clear hK K
              refine rdy (rs := [8]) (by kernel_rfl) (by simp) ?_
              refine arc rfl (fun K hK => ?_) ?_
              ·go_simp
               apply hK; clear hK K
               refine rdy (rs := [9]) (by kernel_rfl) (by simp) ?_
               refine arc rfl (fun K hK => ?_) ?_
               ·refine step64 rfl (.tmp 23) (.tmp 31) rfl w2.heap.size _ _ _ rfl (hrow5.alloc _) ⟨(w3.drewN n1).heap.size, 0, none⟩ 1 1 [.float .f64 r'] rfl rfl (cell_one_new _ _ _) (by simp [Value.oneCell']) (by unfold maxLen; omega) (by omega) (by have := hB.size; have := D5.size; simp; simp at this; omega) ?_; intro v' w4 hown' hgrow; obtain ⟨g', cap', rfl⟩ := ownsRow_succ hown'; obtain ⟨hv1, hv2, hr2, hk2, hb2⟩ := bv5.appended (by decide) hrow5 (Nat.le_trans hB.size D5.size) (Nat.le_refl _) hown' hgrow; have kS4 := ((kS5.alloc _).kept hgrow (kS5.not_row (by decide) hrow5)).other (B' := w2.heap.size) (by omega) (.slice (some ⟨g', 0, none⟩) (pre.length + 1) cap'); have hc1 := hv1.cell; have hf1 := hv1.frozen; have fin1 := (KeepsOthers.of_grownBy (grown_below D5 none) (fun j o e => by cases e)).trans hk2; have fin2 := (D5.mono hB.size).trans hb2; have hr3 : (w4.setCell ⟨w2.heap.size, 0, none⟩ (.slice (some ⟨g', 0, none⟩) (pre.length + 1) cap')).ownsRow w2.heap.size 43 1 (.slice (some ⟨g', 0, none⟩) (pre.length + 1) cap') (pre ++ [x]).length (flc (rs ++ [r'])) := by simpa [flc] using hr2
                apply hK; clear hK K
                refine rdy (rs := [10]) (by kernel_rfl) (by simp) ?_
                refine arc rfl (fun K hK => ?_) ?_
                ·go_simp
                 apply hK; clear hK K
                 refine wpAnyIn_done (by kernel_rfl) ?_ _
                 exact ⟨fin1.from _, ⟨fin2, kS4.trans kS.symm⟩, ⟨⟨rs ++ [r'], Mn.prods_snoc hrs hr'.cop, _, hv2, hr3, trivial⟩, kS4⟩, hB.trans fin2⟩
                exact arn
               exact arn
              exact arn
             exact arn
            exact arn
           exact arn
          exact arn
         refine arc rfl (fun K hK => ?_) ?_
         ·go_simp
          apply hK; clear hK K
          refine rdy (rs := [2]) (by kernel_rfl) (by simp) ?_
          refine arc rfl (fun K hK => ?_) ?_
          ·go_simp
           apply hK; clear hK K
           refine rdy (rs := [3]) (by kernel_rfl) (by simp) ?_
           refine arc rfl (fun K hK => ?_) ?_
           ·go_simp; refine ⟨trivial, (CallsIn.inRound l' (callsIn_wide.2 (real_of x.2.2 _))).mono ?_⟩; rintro e w' ⟨rfl, rfl⟩; dsimp only
            apply hK; clear hK K
            refine rdy (rs := [6]) (by kernel_rfl) (by simp) ?_
            refine arc rfl (fun K hK => ?_) ?_
            ·go_simp; refine ⟨trivial, (CallsIn.inRound l' (callsIn_wide.2 (long_mean.length x.1 x.2.1 _))).mono ?_⟩; rintro e w3 ⟨rfl, b3⟩; have D3 : Below W.heap.size W w3 := ((Below.refl W.heap.size W).drew).trans b3; obtain ⟨r', n1, hr', r1⟩ := Fl.fop_run Try.prog .mul (.inr (.inr (.inl rfl))) 43 (FloatKind.f64.nearest x.2.2) (FloatKind.f64.nearest (Mn.wl x.1 x.2.1)) w3; have D5 : Below W.heap.size W (w3.drewN n1) := D3.trans (below_draw w3 n1); have cv3 := (boxed_on bv D3).cell; have bv5 := boxed_on bv D5; have hrow5 := own_on hrow D5; have cv5 := bv5.cell; have kS5 := kS.on D5; have cv5a := (bv5.alloc (.cells #[.float .f64 r'] 43)).cell; dsimp only
             apply hK; clear hK K
             refine rdy (rs := [7]) (by kernel_rfl) (by simp) ?_
             refine arc rfl (fun K hK => ?_) ?_
             ·go_simp
              apply hK; clear hK K
              refine rdy (rs := [8]) (by kernel_rfl) (by simp) ?_
              refine arc rfl (fun K hK => ?_) ?_
              ·go_simp
               apply hK; clear hK K
               refine rdy (rs := [9]) (by kernel_rfl) (by simp) ?_
               refine arc rfl (fun K hK => ?_) ?_
               ·refine step64 rfl (.tmp 23) (.tmp 31) rfl w2.heap.size _ _ _ rfl (hrow5.alloc _) ⟨(w3.drewN n1).heap.size, 0, none⟩ 1 1 [.float .f64 r'] rfl rfl (cell_one_new _ _ _) (by simp [Value.oneCell']) (by unfold maxLen; omega) (by omega) (by have := hB.size; have := D5.size; simp; simp at this; omega) ?_; intro v' w4 hown' hgrow; obtain ⟨g', cap', rfl⟩ := ownsRow_succ hown'; obtain ⟨hv1, hv2, hr2, hk2, hb2⟩ := bv5.appended (by decide) hrow5 (Nat.le_trans hB.size D5.size) (Nat.le_refl _) hown' hgrow; have kS4 := ((kS5.alloc _).kept hgrow (kS5.not_row (by decide) hrow5)).other (B' := w2.heap.size) (by omega) (.slice (some ⟨g', 0, none⟩) (pre.length + 1) cap'); have hc1 := hv1.cell; have hf1 := hv1.frozen; have fin1 := (KeepsOthers.of_grownBy (grown_below D5 none) (fun j o e => by cases e)).trans hk2; have fin2 := (D5.mono hB.size).trans hb2; have hr3 : (w4.setCell ⟨w2.heap.size, 0, none⟩ (.slice (some ⟨g', 0, none⟩) (pre.length + 1) cap')).ownsRow w2.heap.size 43 1 (.slice (some ⟨g', 0, none⟩) (pre.length + 1) cap') (pre ++ [x]).length (flc (rs ++ [r'])) := by simpa [flc] using hr2
                apply hK; clear hK K
                refine rdy (rs := [10]) (by kernel_rfl) (by simp) ?_
                refine arc rfl (fun K hK => ?_) ?_
                ·go_simp
                 apply hK; clear hK K
                 refine wpAnyIn_done (by kernel_rfl) ?_ _
                 exact ⟨fin1.from _, ⟨fin2, kS4.trans kS.symm⟩, ⟨⟨rs ++ [r'], Mn.prods_snoc hrs hr'.cop, _, hv2, hr3, trivial⟩, kS4⟩, hB.trans fin2⟩
                exact arn
               exact arn
              exact arn
             exact arn
            exact arn
           exact arn
          exact arn
         exact arn
        refine arc rfl (fun K hK => ?_) ?_
        ·go_simp
         apply hK; clear hK K
         refine rdy (rs := [0, 3, 5]) (by kernel_rfl) (by simp) ?_
         refine arc rfl (fun K hK => ?_) ?_
         ·go_simp
          apply hK; clear hK K
          refine rdy (rs := [3, 5]) (by kernel_rfl) (by simp) ?_
          refine arc rfl (fun K hK => ?_) ?_
          ·go_simp; refine ⟨trivial, (CallsIn.inRound l' (callsIn_wide.2 (real_of x.2.2 _))).mono ?_⟩; rintro e w' ⟨rfl, rfl⟩; dsimp only
           apply hK; clear hK K
           refine rdy (rs := [5]) (by kernel_rfl) (by simp) ?_
           refine arc rfl (fun K hK => ?_) ?_
           ·go_simp
            apply hK; clear hK K
            refine rdy (rs := [6]) (by kernel_rfl) (by simp) ?_
            refine arc rfl (fun K hK => ?_) ?_
            ·go_simp; refine ⟨trivial, (CallsIn.inRound l' (callsIn_wide.2 (long_mean.length x.1 x.2.1 _))).mono ?_⟩; rintro e w3 ⟨rfl, b3⟩; have D3 : Below W.heap.size W w3 := ((Below.refl W.heap.size W).drew).trans b3; obtain ⟨r', n1, hr', r1⟩ := Fl.fop_run Try.prog .mul (.inr (.inr (.inl rfl))) 43 (FloatKind.f64.nearest x.2.2) (FloatKind.f64.nearest (Mn.wl x.1 x.2.1)) w3; have D5 : Below W.heap.size W (w3.drewN n1) := D3.trans (below_draw w3 n1); have cv3 := (boxed_on bv D3).cell; have bv5 := boxed_on bv D5; have hrow5 := own_on hrow D5; have cv5 := bv5.cell; have kS5 := kS.on D5; have cv5a := (bv5.alloc (.cells #[.float .f64 r'] 43)).cell; dsimp only
             apply hK; clear hK K
             refine rdy (rs := [7]) (by kernel_rfl) (by simp) ?_
             refine arc rfl (fun K hK => ?_) ?_
             ·go_simp
              apply hK; clear hK K
              refine rdy (rs := [8]) (by kernel_rfl) (by simp) ?_
              refine arc rfl (fun K hK => ?_) ?_
              ·go_simp
               apply hK; clear hK K
               refine rdy (rs := [9]) (by kernel_rfl) (by simp) ?_
               refine arc rfl (fun K hK => ?_) ?_
               ·refine step64 rfl (.tmp 23) (.tmp 31) rfl w2.heap.size _ _ _ rfl (hrow5.alloc _) ⟨(w3.drewN n1).heap.size, 0, none⟩ 1 1 [.float .f64 r'] rfl rfl (cell_one_new _ _ _) (by simp [Value.oneCell']) (by unfold maxLen; omega) (by omega) (by have := hB.size; have := D5.size; simp; simp at this; omega) ?_; intro v' w4 hown' hgrow; obtain ⟨g', cap', rfl⟩ := ownsRow_succ hown'; obtain ⟨hv1, hv2, hr2, hk2, hb2⟩ := bv5.appended (by decide) hrow5 (Nat.le_trans hB.size D5.size) (Nat.le_refl _) hown' hgrow; have kS4 := ((kS5.alloc _).kept hgrow (kS5.not_row (by decide) hrow5)).other (B' := w2.heap.size) (by omega) (.slice (some ⟨g', 0, none⟩) (pre.length + 1) cap'); have hc1 := hv1.cell; have hf1 := hv1.frozen; have fin1 := (KeepsOthers.of_grownBy (grown_below D5 none) (fun j o e => by cases e)).trans hk2; have fin2 := (D5.mono hB.size).trans hb2; have hr3 : (w4.setCell ⟨w2.heap.size, 0, none⟩ (.slice (some ⟨g', 0, none⟩) (pre.length + 1) cap')).ownsRow w2.heap.size 43 1 (.slice (some ⟨g', 0, none⟩) (pre.length + 1) cap') (pre ++ [x]).length (flc (rs ++ [r'])) := by simpa [flc] using hr2
                apply hK; clear hK K
                refine rdy (rs := [10]) (by kernel_rfl) (by simp) ?_
                refine arc rfl (fun K hK => ?_) ?_
                ·go_simp
                 apply hK; clear hK K
                 refine wpAnyIn_done (by kernel_rfl) ?_ _
                 exact ⟨fin1.from _, ⟨fin2, kS4.trans kS.symm⟩, ⟨⟨rs ++ [r'], Mn.prods_snoc hrs hr'.cop, _, hv2, hr3, trivial⟩, kS4⟩, hB.trans fin2⟩
                exact arn
               exact arn
              exact arn
             exact arn
            exact arn
           exact arn
          refine arc rfl (fun K hK => ?_) ?_
          ·go_simp
           apply hK; clear hK K
           refine rdy (rs := [3]) (by kernel_rfl) (by simp) ?_
           refine arc rfl (fun K hK => ?_) ?_
           ·go_simp; refine ⟨trivial, (CallsIn.inRound l' (callsIn_wide.2 (real_of x.2.2 _))).mono ?_⟩; rintro e w' ⟨rfl, rfl⟩; dsimp only
            apply hK; clear hK K
            refine rdy (rs := [6]) (by kernel_rfl) (by simp) ?_
            refine arc rfl (fun K hK => ?_) ?_
            ·go_simp; refine ⟨trivial, (CallsIn.inRound l' (callsIn_wide.2 (long_mean.length x.1 x.2.1 _))).mono ?_⟩; rintro e w3 ⟨rfl, b3⟩; have D3 : Below W.heap.size W w3 := ((Below.refl W.heap.size W).drew).trans b3; obtain ⟨r', n1, hr', r1⟩ := Fl.fop_run Try.prog .mul (.inr (.inr (.inl rfl))) 43 (FloatKind.f64.nearest x.2.2) (FloatKind.f64.nearest (Mn.wl x.1 x.2.1)) w3; have D5 : Below W.heap.size W (w3.drewN n1) := D3.trans (below_draw w3 n1); have cv3 := (boxed_on bv D3).cell; have bv5 := boxed_on bv D5; have hrow5 := own_on hrow D5; have cv5 := bv5.cell; have kS5 := kS.on D5; have cv5a := (bv5.alloc (.cells #[.float .f64 r'] 43)).cell; dsimp only
             apply hK; clear hK K
             refine rdy (rs := [7]) (by kernel_rfl) (by simp) ?_
             refine arc rfl (fun K hK => ?_) ?_
             ·go_simp
              apply hK; clear hK K
              refine rdy (rs := [8]) (by kernel_rfl) (by simp) ?_
              refine arc rfl (fun K hK => ?_) ?_
              ·go_simp
               apply hK; clear hK K
               refine rdy (rs := [9]) (by kernel_rfl) (by simp) ?_
               refine arc rfl (fun K hK => ?_) ?_
               ·refine step64 rfl (.tmp 23) (.tmp 31) rfl w2.heap.size _ _ _ rfl (hrow5.alloc _) ⟨(w3.drewN n1).heap.size, 0, none⟩ 1 1 [.float .f64 r'] rfl rfl (cell_one_new _ _ _) (by simp [Value.oneCell']) (by unfold maxLen; omega) (by omega) (by have := hB.size; have := D5.size; simp; simp at this; omega) ?_; intro v' w4 hown' hgrow; obtain ⟨g', cap', rfl⟩ := ownsRow_succ hown'; obtain ⟨hv1, hv2, hr2, hk2, hb2⟩ := bv5.appended (by decide) hrow5 (Nat.le_trans hB.size D5.size) (Nat.le_refl _) hown' hgrow; have kS4 := ((kS5.alloc _).kept hgrow (kS5.not_row (by decide) hrow5)).other (B' := w2.heap.size) (by omega) (.slice (some ⟨g', 0, none⟩) (pre.length + 1) cap'); have hc1 := hv1.cell; have hf1 := hv1.frozen; have fin1 := (KeepsOthers.of_grownBy (grown_below D5 none) (fun j o e => by cases e)).trans hk2; have fin2 := (D5.mono hB.size).trans hb2; have hr3 : (w4.setCell ⟨w2.heap.size, 0, none⟩ (.slice (some ⟨g', 0, none⟩) (pre.length + 1) cap')).ownsRow w2.heap.size 43 1 (.slice (some ⟨g', 0, none⟩) (pre.length + 1) cap') (pre ++ [x]).length (flc (rs ++ [r'])) := by simpa [flc] using hr2
                apply hK; clear hK K
                refine rdy (rs := [10]) (by kernel_rfl) (by simp) ?_
                refine arc rfl (fun K hK => ?_) ?_
                ·go_simp
                 apply hK; clear hK K
                 refine wpAnyIn_done (by kernel_rfl) ?_ _
                 exact ⟨fin1.from _, ⟨fin2, kS4.trans kS.symm⟩, ⟨⟨rs ++ [r'], Mn.prods_snoc hrs hr'.cop, _, hv2, hr3, trivial⟩, kS4⟩, hB.trans fin2⟩
                exact arn
               exact arn
              exact arn
             exact arn
            exact arn
           exact arn
          exact arn
         refine arc rfl (fun K hK => ?_) ?_
         ·go_simp; refine ⟨trivial, (CallsIn.inRound l' (callsIn_wide.2 (real_of x.2.2 _))).mono ?_⟩; rintro e w' ⟨rfl, rfl⟩; dsimp only
          apply hK; clear hK K
          refine rdy (rs := [0, 5]) (by kernel_rfl) (by simp) ?_
          refine arc rfl (fun K hK => ?_) ?_
          ·go_simp
           apply hK; clear hK K
           refine rdy (rs := [5]) (by kernel_rfl) (by simp) ?_
           refine arc rfl (fun K hK => ?_) ?_
           ·go_simp
            apply hK; clear hK K
            refine rdy (rs := [6]) (by kernel_rfl) (by simp) ?_
            refine arc rfl (fun K hK => ?_) ?_
            ·go_simp; refine ⟨trivial, (CallsIn.inRound l' (callsIn_wide.2 (long_mean.length x.1 x.2.1 _))).mono ?_⟩; rintro e w3 ⟨rfl, b3⟩; have D3 : Below W.heap.size W w3 := ((Below.refl W.heap.size W).drew).trans b3; obtain ⟨r', n1, hr', r1⟩ := Fl.fop_run Try.prog .mul (.inr (.inr (.inl rfl))) 43 (FloatKind.f64.nearest x.2.2) (FloatKind.f64.nearest (Mn.wl x.1 x.2.1)) w3; have D5 : Below W.heap.size W (w3.drewN n1) := D3.trans (below_draw w3 n1); have cv3 := (boxed_on bv D3).cell; have bv5 := boxed_on bv D5; have hrow5 := own_on hrow D5; have cv5 := bv5.cell; have kS5 := kS.on D5; have cv5a := (bv5.alloc (.cells #[.float .f64 r'] 43)).cell; dsimp only
             apply hK; clear hK K
             refine rdy (rs := [7]) (by kernel_rfl) (by simp) ?_
             refine arc rfl (fun K hK => ?_) ?_
             ·go_simp
              apply hK; clear hK K
              refine rdy (rs := [8]) (by kernel_rfl) (by simp) ?_
              refine arc rfl (fun K hK => ?_) ?_
              ·go_simp
               apply hK; clear hK K
               refine rdy (rs := [9]) (by kernel_rfl) (by simp) ?_
               refine arc rfl (fun K hK => ?_) ?_
               ·refine step64 rfl (.tmp 23) (.tmp 31) rfl w2.heap.size _ _ _ rfl (hrow5.alloc _) ⟨(w3.drewN n1).heap.size, 0, none⟩ 1 1 [.float .f64 r'] rfl rfl (cell_one_new _ _ _) (by simp [Value.oneCell']) (by unfold maxLen; omega) (by omega) (by have := hB.size; have := D5.size; simp; simp at this; omega) ?_; intro v' w4 hown' hgrow; obtain ⟨g', cap', rfl⟩ := ownsRow_succ hown'; obtain ⟨hv1, hv2, hr2, hk2, hb2⟩ := bv5.appended (by decide) hrow5 (Nat.le_trans hB.size D5.size) (Nat.le_refl _) hown' hgrow; have kS4 := ((kS5.alloc _).kept hgrow (kS5.not_row (by decide) hrow5)).other (B' := w2.heap.size) (by omega) (.slice (some ⟨g', 0, none⟩) (pre.length + 1) cap'); have hc1 := hv1.cell; have hf1 := hv1.frozen; have fin1 := (KeepsOthers.of_grownBy (grown_below D5 none) (fun j o e => by cases e)).trans hk2; have fin2 := (D5.mono hB.size).trans hb2; have hr3 : (w4.setCell ⟨w2.heap.size, 0, none⟩ (.slice (some ⟨g', 0, none⟩) (pre.length + 1) cap')).ownsRow w2.heap.size 43 1 (.slice (some ⟨g', 0, none⟩) (pre.length + 1) cap') (pre ++ [x]).length (flc (rs ++ [r'])) := by simpa [flc] using hr2
                apply hK; clear hK K
                refine rdy (rs := [10]) (by kernel_rfl) (by simp) ?_
                refine arc rfl (fun K hK => ?_) ?_
                ·go_simp
                 apply hK; clear hK K
                 refine wpAnyIn_done (by kernel_rfl) ?_ _
                 exact ⟨fin1.from _, ⟨fin2, kS4.trans kS.symm⟩, ⟨⟨rs ++ [r'], Mn.prods_snoc hrs hr'.cop, _, hv2, hr3, trivial⟩, kS4⟩, hB.trans fin2⟩
                exact arn
               exact arn
              exact arn
             exact arn
            exact arn
           exact arn
          refine arc rfl (fun K hK => ?_) ?_
          ·go_simp
           apply hK; clear hK K
           refine rdy (rs := [0, 6]) (by kernel_rfl) (by simp) ?_
           refine arc rfl (fun K hK => ?_) ?_
           ·go_simp
            apply hK; clear hK K
            refine rdy (rs := [6]) (by kernel_rfl) (by simp) ?_
            refine arc rfl (fun K hK => ?_) ?_
            ·go_simp; refine ⟨trivial, (CallsIn.inRound l' (callsIn_wide.2 (long_mean.length x.1 x.2.1 _))).mono ?_⟩; rintro e w3 ⟨rfl, b3⟩; have D3 : Below W.heap.size W w3 := ((Below.refl W.heap.size W).drew).trans b3; obtain ⟨r', n1, hr', r1⟩ := Fl.fop_run Try.prog .mul (.inr (.inr (.inl rfl))) 43 (FloatKind.f64.nearest x.2.2) (FloatKind.f64.nearest (Mn.wl x.1 x.2.1)) w3; have D5 : Below W.heap.size W (w3.drewN n1) := D3.trans (below_draw w3 n1); have cv3 := (boxed_on bv D3).cell; have bv5 := boxed_on bv D5; have hrow5 := own_on hrow D5; have cv5 := bv5.cell; have kS5 := kS.on D5; have cv5a := (bv5.alloc (.cells #[.float .f64 r'] 43)).cell; dsimp only
             apply hK; clear hK K
             refine rdy (rs := [7]) (by kernel_rfl) (by simp) ?_
             refine arc rfl (fun K hK => ?_) ?_
             ·go_simp
              apply hK; clear hK K
              refine rdy (rs := [8]) (by kernel_rfl) (by simp) ?_
              refine arc rfl (fun K hK => ?_) ?_
              ·go_simp
               apply hK; clear hK K
               refine rdy (rs := [9]) (by kernel_rfl) (by simp) ?_
               refine arc rfl (fun K hK => ?_) ?_
               ·refine step64 rfl (.tmp 23) (.tmp 31) rfl w2.heap.size _ _ _ rfl (hrow5.alloc _) ⟨(w3.drewN n1).heap.size, 0, none⟩ 1 1 [.float .f64 r'] rfl rfl (cell_one_new _ _ _) (by simp [Value.oneCell']) (by unfold maxLen; omega) (by omega) (by have := hB.size; have := D5.size; simp; simp at this; omega) ?_; intro v' w4 hown' hgrow; obtain ⟨g', cap', rfl⟩ := ownsRow_succ hown'; obtain ⟨hv1, hv2, hr2, hk2, hb2⟩ := bv5.appended (by decide) hrow5 (Nat.le_trans hB.size D5.size) (Nat.le_refl _) hown' hgrow; have kS4 := ((kS5.alloc _).kept hgrow (kS5.not_row (by decide) hrow5)).other (B' := w2.heap.size) (by omega) (.slice (some ⟨g', 0, none⟩) (pre.length + 1) cap'); have hc1 := hv1.cell; have hf1 := hv1.frozen; have fin1 := (KeepsOthers.of_grownBy (grown_below D5 none) (fun j o e => by cases e)).trans hk2; have fin2 := (D5.mono hB.size).trans hb2; have hr3 : (w4.setCell ⟨w2.heap.size, 0, none⟩ (.slice (some ⟨g', 0, none⟩) (pre.length + 1) cap')).ownsRow w2.heap.size 43 1 (.slice (some ⟨g', 0, none⟩) (pre.length + 1) cap') (pre ++ [x]).length (flc (rs ++ [r'])) := by simpa [flc] using hr2
                apply hK; clear hK K
                refine rdy (rs := [10]) (by kernel_rfl) (by simp) ?_
                refine arc rfl (fun K hK => ?_) ?_
                ·go_simp
                 apply hK; clear hK K
                 refine wpAnyIn_done (by kernel_rfl) ?_ _
                 exact ⟨fin1.from _, ⟨fin2, kS4.trans kS.symm⟩, ⟨⟨rs ++ [r'], Mn.prods_snoc hrs hr'.cop, _, hv2, hr3, trivial⟩, kS4⟩, hB.trans fin2⟩
                exact arn
               exact arn
              exact arn
             exact arn
            exact arn
           refine arc rfl (fun K hK => ?_) ?_
           ·go_simp; refine ⟨trivial, (CallsIn.inRound l' (callsIn_wide.2 (long_mean.length x.1 x.2.1 _))).mono ?_⟩; rintro e w3 ⟨rfl, b3⟩; have D3 : Below W.heap.size W w3 := ((Below.refl W.heap.size W).drew).trans b3; obtain ⟨r', n1, hr', r1⟩ := Fl.fop_run Try.prog .mul (.inr (.inr (.inl rfl))) 43 (FloatKind.f64.nearest x.2.2) (FloatKind.f64.nearest (Mn.wl x.1 x.2.1)) w3; have D5 : Below W.heap.size W (w3.drewN n1) := D3.trans (below_draw w3 n1); have cv3 := (boxed_on bv D3).cell; have bv5 := boxed_on bv D5; have hrow5 := own_on hrow D5; have cv5 := bv5.cell; have kS5 := kS.on D5; have cv5a := (bv5.alloc (.cells #[.float .f64 r'] 43)).cell; dsimp only
            apply hK; clear hK K
            refine rdy (rs := [0, 7]) (by kernel_rfl) (by simp) ?_
            refine arc rfl (fun K hK => ?_) ?_
            ·go_simp
             apply hK; clear hK K
             refine rdy (rs := [7]) (by kernel_rfl) (by simp) ?_
             refine arc rfl (fun K hK => ?_) ?_
             ·go_simp
              apply hK; clear hK K
              refine rdy (rs := [8]) (by kernel_rfl) (by simp) ?_
              refine arc rfl (fun K hK => ?_) ?_
              ·go_simp
               apply hK; clear hK K
               refine rdy (rs := [9]) (by kernel_rfl) (by simp) ?_
               refine arc rfl (fun K hK => ?_) ?_
               ·refine step64 rfl (.tmp 23) (.tmp 31) rfl w2.heap.size _ _ _ rfl (hrow5.alloc _) ⟨(w3.drewN n1).heap.size, 0, none⟩ 1 1 [.float .f64 r'] rfl rfl (cell_one_new _ _ _) (by simp [Value.oneCell']) (by unfold maxLen; omega) (by omega) (by have := hB.size; have := D5.size; simp; simp at this; omega) ?_; intro v' w4 hown' hgrow; obtain ⟨g', cap', rfl⟩ := ownsRow_succ hown'; obtain ⟨hv1, hv2, hr2, hk2, hb2⟩ := bv5.appended (by decide) hrow5 (Nat.le_trans hB.size D5.size) (Nat.le_refl _) hown' hgrow; have kS4 := ((kS5.alloc _).kept hgrow (kS5.not_row (by decide) hrow5)).other (B' := w2.heap.size) (by omega) (.slice (some ⟨g', 0, none⟩) (pre.length + 1) cap'); have hc1 := hv1.cell; have hf1 := hv1.frozen; have fin1 := (KeepsOthers.of_grownBy (grown_below D5 none) (fun j o e => by cases e)).trans hk2; have fin2 := (D5.mono hB.size).trans hb2; have hr3 : (w4.setCell ⟨w2.heap.size, 0, none⟩ (.slice (some ⟨g', 0, none⟩) (pre.length + 1) cap')).ownsRow w2.heap.size 43 1 (.slice (some ⟨g', 0, none⟩) (pre.length + 1) cap') (pre ++ [x]).length (flc (rs ++ [r'])) := by simpa [flc] using hr2
                apply hK; clear hK K
                refine rdy (rs := [10]) (by kernel_rfl) (by simp) ?_
                refine arc rfl (fun K hK => ?_) ?_
                ·go_simp
                 apply hK; clear hK K
                 refine wpAnyIn_done (by kernel_rfl) ?_ _
                 exact ⟨fin1.from _, ⟨fin2, kS4.trans kS.symm⟩, ⟨⟨rs ++ [r'], Mn.prods_snoc hrs hr'.cop, _, hv2, hr3, trivial⟩, kS4⟩, hB.trans fin2⟩
                exact arn
               exact arn
              exact arn
             exact arn
            refine arc rfl (fun K hK => ?_) ?_
            ·go_simp
             apply hK; clear hK K
             refine rdy (rs := [0, 8]) (by kernel_rfl) (by simp) ?_
             refine arc rfl (fun K hK => ?_) ?_
             ·go_simp
              apply hK; clear hK K
              refine rdy (rs := [8]) (by kernel_rfl) (by simp) ?_
              refine arc rfl (fun K hK => ?_) ?_
              ·go_simp
               apply hK; clear hK K
               refine rdy (rs := [9]) (by kernel_rfl) (by simp) ?_
               refine arc rfl (fun K hK => ?_) ?_
               ·refine step64 rfl (.tmp 23) (.tmp 31) rfl w2.heap.size _ _ _ rfl (hrow5.alloc _) ⟨(w3.drewN n1).heap.size, 0, none⟩ 1 1 [.float .f64 r'] rfl rfl (cell_one_new _ _ _) (by simp [Value.oneCell']) (by unfold maxLen; omega) (by omega) (by have := hB.size; have := D5.size; simp; simp at this; omega) ?_; intro v' w4 hown' hgrow; obtain ⟨g', cap', rfl⟩ := ownsRow_succ hown'; obtain ⟨hv1, hv2, hr2, hk2, hb2⟩ := bv5.appended (by decide) hrow5 (Nat.le_trans hB.size D5.size) (Nat.le_refl _) hown' hgrow; have kS4 := ((kS5.alloc _).kept hgrow (kS5.not_row (by decide) hrow5)).other (B' := w2.heap.size) (by omega) (.slice (some ⟨g', 0, none⟩) (pre.length + 1) cap'); have hc1 := hv1.cell; have hf1 := hv1.frozen; have fin1 := (KeepsOthers.of_grownBy (grown_below D5 none) (fun j o e => by cases e)).trans hk2; have fin2 := (D5.mono hB.size).trans hb2; have hr3 : (w4.setCell ⟨w2.heap.size, 0, none⟩ (.slice (some ⟨g', 0, none⟩) (pre.length + 1) cap')).ownsRow w2.heap.size 43 1 (.slice (some ⟨g', 0, none⟩) (pre.length + 1) cap') (pre ++ [x]).length (flc (rs ++ [r'])) := by simpa [flc] using hr2
                apply hK; clear hK K
                refine rdy (rs := [10]) (by kernel_rfl) (by simp) ?_
                refine arc rfl (fun K hK => ?_) ?_
                ·go_simp
                 apply hK; clear hK K
                 refine wpAnyIn_done (by kernel_rfl) ?_ _
                 exact ⟨fin1.from _, ⟨fin2, kS4.trans kS.symm⟩, ⟨⟨rs ++ [r'], Mn.prods_snoc hrs hr'.cop, _, hv2, hr3, trivial⟩, kS4⟩, hB.trans fin2⟩
                exact arn
               exact arn
              exact arn
             refine arc rfl (fun K hK => ?_) ?_
             ·go_simp
              apply hK; clear hK K
              refine rdy (rs := [0]) (by kernel_rfl) (by simp) ?_
              refine arc rfl (fun K hK => ?_) ?_
              ·go_simp
               apply hK; clear hK K
               refine rdy (rs := [9]) (by kernel_rfl) (by simp) ?_
               refine arc rfl (fun K hK => ?_) ?_
               ·refine step64 rfl (.tmp 23) (.tmp 31) rfl w2.heap.size _ _ _ rfl (hrow5.alloc _) ⟨(w3.drewN n1).heap.size, 0, none⟩ 1 1 [.float .f64 r'] rfl rfl (cell_one_new _ _ _) (by simp [Value.oneCell']) (by unfold maxLen; omega) (by omega) (by have := hB.size; have := D5.size; simp; simp at this; omega) ?_; intro v' w4 hown' hgrow; obtain ⟨g', cap', rfl⟩ := ownsRow_succ hown'; obtain ⟨hv1, hv2, hr2, hk2, hb2⟩ := bv5.appended (by decide) hrow5 (Nat.le_trans hB.size D5.size) (Nat.le_refl _) hown' hgrow; have kS4 := ((kS5.alloc _).kept hgrow (kS5.not_row (by decide) hrow5)).other (B' := w2.heap.size) (by omega) (.slice (some ⟨g', 0, none⟩) (pre.length + 1) cap'); have hc1 := hv1.cell; have hf1 := hv1.frozen; have fin1 := (KeepsOthers.of_grownBy (grown_below D5 none) (fun j o e => by cases e)).trans hk2; have fin2 := (D5.mono hB.size).trans hb2; have hr3 : (w4.setCell ⟨w2.heap.size, 0, none⟩ (.slice (some ⟨g', 0, none⟩) (pre.length + 1) cap')).ownsRow w2.heap.size 43 1 (.slice (some ⟨g', 0, none⟩) (pre.length + 1) cap') (pre ++ [x]).length (flc (rs ++ [r'])) := by simpa [flc] using hr2
                apply hK; clear hK K
                refine rdy (rs := [10]) (by kernel_rfl) (by simp) ?_
                refine arc rfl (fun K hK => ?_) ?_
                ·go_simp
                 apply hK; clear hK K
                 refine wpAnyIn_done (by kernel_rfl) ?_ _
                 exact ⟨fin1.from _, ⟨fin2, kS4.trans kS.symm⟩, ⟨⟨rs ++ [r'], Mn.prods_snoc hrs hr'.cop, _, hv2, hr3, trivial⟩, kS4⟩, hB.trans fin2⟩
                exact arn
               exact arn
              exact arn
             exact arn
            exact arn
           exact arn
          exact arn
         refine arc rfl (fun K hK => ?_) ?_
         ·go_simp
          apply hK; clear hK K
          refine rdy (rs := [0, 3]) (by kernel_rfl) (by simp) ?_
          refine arc rfl (fun K hK => ?_) ?_
          ·go_simp
           apply hK; clear hK K
           refine rdy (rs := [3]) (by kernel_rfl) (by simp) ?_
           refine arc rfl (fun K hK => ?_) ?_
           ·go_simp; refine ⟨trivial, (CallsIn.inRound l' (callsIn_wide.2 (real_of x.2.2 _))).mono ?_⟩; rintro e w' ⟨rfl, rfl⟩; dsimp only
            apply hK; clear hK K
            refine rdy (rs := [6]) (by kernel_rfl) (by simp) ?_
            refine arc rfl (fun K hK => ?_) ?_
            ·go_simp; refine ⟨trivial, (CallsIn.inRound l' (callsIn_wide.2 (long_mean.length x.1 x.2.1 _))).mono ?_⟩; rintro e w3 ⟨rfl, b3⟩; have D3 : Below W.heap.size W w3 := ((Below.refl W.heap.size W).drew).trans b3; obtain ⟨r', n1, hr', r1⟩ := Fl.fop_run Try.prog .mul (.inr (.inr (.inl rfl))) 43 (FloatKind.f64.nearest x.2.2) (FloatKind.f64.nearest (Mn.wl x.1 x.2.1)) w3; have D5 : Below W.heap.size W (w3.drewN n1) := D3.trans (below_draw w3 n1); have cv3 := (boxed_on bv D3).cell; have bv5 := boxed_on bv D5; have hrow5 := own_on hrow D5; have cv5 := bv5.cell; have kS5 := kS.on D5; have cv5a := (bv5.alloc (.cells #[.float .f64 r'] 43)).cell; dsimp only
             apply hK; clear hK K
             refine rdy (rs := [7]) (by kernel_rfl) (by simp) ?_
             refine arc rfl (fun K hK => ?_) ?_
             ·go_simp
              apply hK; clear hK K
              refine rdy (rs := [8]) (by kernel_rfl) (by simp) ?_
              refine arc rfl (fun K hK => ?_) ?_
              ·go_simp
               apply hK; clear hK K
               refine rdy (rs := [9]) (by kernel_rfl) (by simp) ?_
               refine arc rfl (fun K hK => ?_) ?_
               ·refine step64 rfl (.tmp 23) (.tmp 31) rfl w2.heap.size _ _ _ rfl (hrow5.alloc _) ⟨(w3.drewN n1).heap.size, 0, none⟩ 1 1 [.float .f64 r'] rfl rfl (cell_one_new _ _ _) (by simp [Value.oneCell']) (by unfold maxLen; omega) (by omega) (by have := hB.size; have := D5.size; simp; simp at this; omega) ?_; intro v' w4 hown' hgrow; obtain ⟨g', cap', rfl⟩ := ownsRow_succ hown'; obtain ⟨hv1, hv2, hr2, hk2, hb2⟩ := bv5.appended (by decide) hrow5 (Nat.le_trans hB.size D5.size) (Nat.le_refl _) hown' hgrow; have kS4 := ((kS5.alloc _).kept hgrow (kS5.not_row (by decide) hrow5)).other (B' := w2.heap.size) (by omega) (.slice (some ⟨g', 0, none⟩) (pre.length + 1) cap'); have hc1 := hv1.cell; have hf1 := hv1.frozen; have fin1 := (KeepsOthers.of_grownBy (grown_below D5 none) (fun j o e => by cases e)).trans hk2; have fin2 := (D5.mono hB.size).trans hb2; have hr3 : (w4.setCell ⟨w2.heap.size, 0, none⟩ (.slice (some ⟨g', 0, none⟩) (pre.length + 1) cap')).ownsRow w2.heap.size 43 1 (.slice (some ⟨g', 0, none⟩) (pre.length + 1) cap') (pre ++ [x]).length (flc (rs ++ [r'])) := by simpa [flc] using hr2
                apply hK; clear hK K
                refine rdy (rs := [10]) (by kernel_rfl) (by simp) ?_
                refine arc rfl (fun K hK => ?_) ?_
                ·go_simp
                 apply hK; clear hK K
                 refine wpAnyIn_done (by kernel_rfl) ?_ _
                 exact ⟨fin1.from _, ⟨fin2, kS4.trans kS.symm⟩, ⟨⟨rs ++ [r'], Mn.prods_snoc hrs hr'.cop, _, hv2, hr3, trivial⟩, kS4⟩, hB.trans fin2⟩
                exact arn
               exact arn
              exact arn
             exact arn
            exact arn
           exact arn
          refine arc rfl (fun K hK => ?_) ?_
          ·go_simp; refine ⟨trivial, (CallsIn.inRound l' (callsIn_wide.2 (real_of x.2.2 _))).mono ?_⟩; rintro e w' ⟨rfl, rfl⟩; dsimp only
           apply hK; clear hK K
           refine rdy (rs := [0, 6]) (by kernel_rfl) (by simp) ?_
           refine arc rfl (fun K hK => ?_) ?_
           ·go_simp
            apply hK; clear hK K
            refine rdy (rs := [6]) (by kernel_rfl) (by simp) ?_
            refine arc rfl (fun K hK => ?_) ?_
            ·go_simp; refine ⟨trivial, (CallsIn.inRound l' (callsIn_wide.2 (long_mean.length x.1 x.2.1 _))).mono ?_⟩; rintro e w3 ⟨rfl, b3⟩; have D3 : Below W.heap.size W w3 := ((Below.refl W.heap.size W).drew).trans b3; obtain ⟨r', n1, hr', r1⟩ := Fl.fop_run Try.prog .mul (.inr (.inr (.inl rfl))) 43 (FloatKind.f64.nearest x.2.2) (FloatKind.f64.nearest (Mn.wl x.1 x.2.1)) w3; have D5 : Below W.heap.size W (w3.drewN n1) := D3.trans (below_draw w3 n1); have cv3 := (boxed_on bv D3).cell; have bv5 := boxed_on bv D5; have hrow5 := own_on hrow D5; have cv5 := bv5.cell; have kS5 := kS.on D5; have cv5a := (bv5.alloc (.cells #[.float .f64 r'] 43)).cell; dsimp only
             apply hK; clear hK K
             refine rdy (rs := [7]) (by kernel_rfl) (by simp) ?_
             refine arc rfl (fun K hK => ?_) ?_
             ·go_simp
              apply hK; clear hK K
              refine rdy (rs := [8]) (by kernel_rfl) (by simp) ?_
              refine arc rfl (fun K hK => ?_) ?_
              ·go_simp
               apply hK; clear hK K
               refine rdy (rs := [9]) (by kernel_rfl) (by simp) ?_
               refine arc rfl (fun K hK => ?_) ?_
               ·refine step64 rfl (.tmp 23) (.tmp 31) rfl w2.heap.size _ _ _ rfl (hrow5.alloc _) ⟨(w3.drewN n1).heap.size, 0, none⟩ 1 1 [.float .f64 r'] rfl rfl (cell_one_new _ _ _) (by simp [Value.oneCell']) (by unfold maxLen; omega) (by omega) (by have := hB.size; have := D5.size; simp; simp at this; omega) ?_; intro v' w4 hown' hgrow; obtain ⟨g', cap', rfl⟩ := ownsRow_succ hown'; obtain ⟨hv1, hv2, hr2, hk2, hb2⟩ := bv5.appended (by decide) hrow5 (Nat.le_trans hB.size D5.size) (Nat.le_refl _) hown' hgrow; have kS4 := ((kS5.alloc _).kept hgrow (kS5.not_row (by decide) hrow5)).other (B' := w2.heap.size) (by omega) (.slice (some ⟨g', 0, none⟩) (pre.length + 1) cap'); have hc1 := hv1.cell; have hf1 := hv1.frozen; have fin1 := (KeepsOthers.of_grownBy (grown_below D5 none) (fun j o e => by cases e)).trans hk2; have fin2 := (D5.mono hB.size).trans hb2; have hr3 : (w4.setCell ⟨w2.heap.size, 0, none⟩ (.slice (some ⟨g', 0, none⟩) (pre.length + 1) cap')).ownsRow w2.heap.size 43 1 (.slice (some ⟨g', 0, none⟩) (pre.length + 1) cap') (pre ++ [x]).length (flc (rs ++ [r'])) := by simpa [flc] using hr2
                apply hK; clear hK K
                refine rdy (rs := [10]) (by kernel_rfl) (by simp) ?_
                refine arc rfl (fun K hK => ?_) ?_
                ·go_simp
                 apply hK; clear hK K
                 refine wpAnyIn_done (by kernel_rfl) ?_ _
                 exact ⟨fin1.from _, ⟨fin2, kS4.trans kS.symm⟩, ⟨⟨rs ++ [r'], Mn.prods_snoc hrs hr'.cop, _, hv2, hr3, trivial⟩, kS4⟩, hB.trans fin2⟩
                exact arn
               exact arn
              exact arn
             exact arn
            exact arn
           refine arc rfl (fun K hK => ?_) ?_
           ·go_simp; refine ⟨trivial, (CallsIn.inRound l' (callsIn_wide.2 (long_mean.length x.1 x.2.1 _))).mono ?_⟩; rintro e w3 ⟨rfl, b3⟩; have D3 : Below W.heap.size W w3 := ((Below.refl W.heap.size W).drew).trans b3; obtain ⟨r', n1, hr', r1⟩ := Fl.fop_run Try.prog .mul (.inr (.inr (.inl rfl))) 43 (FloatKind.f64.nearest x.2.2) (FloatKind.f64.nearest (Mn.wl x.1 x.2.1)) w3; have D5 : Below W.heap.size W (w3.drewN n1) := D3.trans (below_draw w3 n1); have cv3 := (boxed_on bv D3).cell; have bv5 := boxed_on bv D5; have hrow5 := own_on hrow D5; have cv5 := bv5.cell; have kS5 := kS.on D5; have cv5a := (bv5.alloc (.cells #[.float .f64 r'] 43)).cell; dsimp only
            apply hK; clear hK K
            refine rdy (rs := [0, 7]) (by kernel_rfl) (by simp) ?_
            refine arc rfl (fun K hK => ?_) ?_
            ·go_simp
             apply hK; clear hK K
             refine rdy (rs := [7]) (by kernel_rfl) (by simp) ?_
             refine arc rfl (fun K hK => ?_) ?_
             ·go_simp
              apply hK; clear hK K
              refine rdy (rs := [8]) (by kernel_rfl) (by simp) ?_
              refine arc rfl (fun K hK => ?_) ?_
              ·go_simp
               apply hK; clear hK K
               refine rdy (rs := [9]) (by kernel_rfl) (by simp) ?_
               refine arc rfl (fun K hK => ?_) ?_
               ·refine step64 rfl (.tmp 23) (.tmp 31) rfl w2.heap.size _ _ _ rfl (hrow5.alloc _) ⟨(w3.drewN n1).heap.size, 0, none⟩ 1 1 [.float .f64 r'] rfl rfl (cell_one_new _ _ _) (by simp [Value.oneCell']) (by unfold maxLen; omega) (by omega) (by have := hB.size; have := D5.size; simp; simp at this; omega) ?_; intro v' w4 hown' hgrow; obtain ⟨g', cap', rfl⟩ := ownsRow_succ hown'; obtain ⟨hv1, hv2, hr2, hk2, hb2⟩ := bv5.appended (by decide) hrow5 (Nat.le_trans hB.size D5.size) (Nat.le_refl _) hown' hgrow; have kS4 := ((kS5.alloc _).kept hgrow (kS5.not_row (by decide) hrow5)).other (B' := w2.heap.size) (by omega) (.slice (some ⟨g', 0, none⟩) (pre.length + 1) cap'); have hc1 := hv1.cell; have hf1 := hv1.frozen; have fin1 := (KeepsOthers.of_grownBy (grown_below D5 none) (fun j o e => by cases e)).trans hk2; have fin2 := (D5.mono hB.size).trans hb2; have hr3 : (w4.setCell ⟨w2.heap.size, 0, none⟩ (.slice (some ⟨g', 0, none⟩) (pre.length + 1) cap')).ownsRow w2.heap.size 43 1 (.slice (some ⟨g', 0, none⟩) (pre.length + 1) cap') (pre ++ [x]).length (flc (rs ++ [r'])) := by simpa [flc] using hr2
                apply hK; clear hK K
                refine rdy (rs := [10]) (by kernel_rfl) (by simp) ?_
                refine arc rfl (fun K hK => ?_) ?_
                ·go_simp
                 apply hK; clear hK K
                 refine wpAnyIn_done (by kernel_rfl) ?_ _
                 exact ⟨fin1.from _, ⟨fin2, kS4.trans kS.symm⟩, ⟨⟨rs ++ [r'], Mn.prods_snoc hrs hr'.cop, _, hv2, hr3, trivial⟩, kS4⟩, hB.trans fin2⟩
                exact arn
               exact arn
              exact arn
             exact arn
            refine arc rfl (fun K hK => ?_) ?_
            ·go_simp
             apply hK; clear hK K
             refine rdy (rs := [0, 8]) (by kernel_rfl) (by simp) ?_
             refine arc rfl (fun K hK => ?_) ?_
             ·go_simp
              apply hK; clear hK K
              refine rdy (rs := [8]) (by kernel_rfl) (by simp) ?_
              refine arc rfl (fun K hK => ?_) ?_
              ·go_simp
               apply hK; clear hK K
               refine rdy (rs := [9]) (by kernel_rfl) (by simp) ?_
               refine arc rfl (fun K hK => ?_) ?_
               ·refine step64 rfl (.tmp 23) (.tmp 31) rfl w2.heap.size _ _ _ rfl (hrow5.alloc _) ⟨(w3.drewN n1).heap.size, 0, none⟩ 1 1 [.float .f64 r'] rfl rfl (cell_one_new _ _ _) (by simp [Value.oneCell']) (by unfold maxLen; omega) (by omega) (by have := hB.size; have := D5.size; simp; simp at this; omega) ?_; intro v' w4 hown' hgrow; obtain ⟨g', cap', rfl⟩ := ownsRow_succ hown'; obtain ⟨hv1, hv2, hr2, hk2, hb2⟩ := bv5.appended (by decide) hrow5 (Nat.le_trans hB.size D5.size) (Nat.le_refl _) hown' hgrow; have kS4 := ((kS5.alloc _).kept hgrow (kS5.not_row (by decide) hrow5)).other (B' := w2.heap.size) (by omega) (.slice (some ⟨g', 0, none⟩) (pre.length + 1) cap'); have hc1 := hv1.cell; have hf1 := hv1.frozen; have fin1 := (KeepsOthers.of_grownBy (grown_below D5 none) (fun j o e => by cases e)).trans hk2; have fin2 := (D5.mono hB.size).trans hb2; have hr3 : (w4.setCell ⟨w2.heap.size, 0, none⟩ (.slice (some ⟨g', 0, none⟩) (pre.length + 1) cap')).ownsRow w2.heap.size 43 1 (.slice (some ⟨g', 0, none⟩) (pre.length + 1) cap') (pre ++ [x]).length (flc (rs ++ [r'])) := by simpa [flc] using hr2
                apply hK; clear hK K
                refine rdy (rs := [10]) (by kernel_rfl) (by simp) ?_
                refine arc rfl (fun K hK => ?_) ?_
                ·go_simp
                 apply hK; clear hK K
                 refine wpAnyIn_done (by kernel_rfl) ?_ _
                 exact ⟨fin1.from _, ⟨fin2, kS4.trans kS.symm⟩, ⟨⟨rs ++ [r'], Mn.prods_snoc hrs hr'.cop, _, hv2, hr3, trivial⟩, kS4⟩, hB.trans fin2⟩
                exact arn
               exact arn
              exact arn
             refine arc rfl (fun K hK => ?_) ?_
             ·go_simp
              apply hK; clear hK K
              refine rdy (rs := [0]) (by kernel_rfl) (by simp) ?_
              refine arc rfl (fun K hK => ?_) ?_
              ·go_simp
               apply hK; clear hK K
               refine rdy (rs := [9]) (by kernel_rfl) (by simp) ?_
               refine arc rfl (fun K hK => ?_) ?_
               ·refine step64 rfl (.tmp 23) (.tmp 31) rfl w2.heap.size _ _ _ rfl (hrow5.alloc _) ⟨(w3.drewN n1).heap.size, 0, none⟩ 1 1 [.float .f64 r'] rfl rfl (cell_one_new _ _ _) (by simp [Value.oneCell']) (by unfold maxLen; omega) (by omega) (by have := hB.size; have := D5.size; simp; simp at this; omega) ?_; intro v' w4 hown' hgrow; obtain ⟨g', cap', rfl⟩ := ownsRow_succ hown'; obtain ⟨hv1, hv2, hr2, hk2, hb2⟩ := bv5.appended (by decide) hrow5 (Nat.le_trans hB.size D5.size) (Nat.le_refl _) hown' hgrow; have kS4 := ((kS5.alloc _).kept hgrow (kS5.not_row (by decide) hrow5)).other (B' := w2.heap.size) (by omega) (.slice (some ⟨g', 0, none⟩) (pre.length + 1) cap'); have hc1 := hv1.cell; have hf1 := hv1.frozen; have fin1 := (KeepsOthers.of_grownBy (grown_below D5 none) (fun j o e => by cases e)).trans hk2; have fin2 := (D5.mono hB.size).trans hb2; have hr3 : (w4.setCell ⟨w2.heap.size, 0, none⟩ (.slice (some ⟨g', 0, none⟩) (pre.length + 1) cap')).ownsRow w2.heap.size 43 1 (.slice (some ⟨g', 0, none⟩) (pre.length + 1) cap') (pre ++ [x]).length (flc (rs ++ [r'])) := by simpa [flc] using hr2
                apply hK; clear hK K
                refine rdy (rs := [10]) (by kernel_rfl) (by simp) ?_
                refine arc rfl (fun K hK => ?_) ?_
                ·go_simp
                 apply hK; clear hK K
                 refine wpAnyIn_done (by kernel_rfl) ?_ _
                 exact ⟨fin1.from _, ⟨fin2, kS4.trans kS.symm⟩, ⟨⟨rs ++ [r'], Mn.prods_snoc hrs hr'.cop, _, hv2, hr3, trivial⟩, kS4⟩, hB.trans fin2⟩
                exact arn
               exact arn
              exact arn
             exact arn
            exact arn
           exact arn
          exact arn
         exact arn
        refine arc rfl (fun K hK => ?_) ?_
        ·go_simp
         apply hK; clear hK K
         refine rdy (rs := [0, 2]) (by kernel_rfl) (by simp) ?_
         refine arc rfl (fun K hK => ?_) ?_
         ·go_simp
          apply hK; clear hK K
          refine rdy (rs := [2]) (by kernel_rfl) (by simp) ?_
          refine arc rfl (fun K hK => ?_) ?_
          ·go_simp
           apply hK; clear hK K
           refine rdy (rs := [3]) (by kernel_rfl) (by simp) ?_
           refine arc rfl (fun K hK => ?_) ?_
           ·go_simp; refine ⟨trivial, (CallsIn.inRound l' (callsIn_wide.2 (real_of x.2.2 _))).mono ?_⟩; rintro e w' ⟨rfl, rfl⟩; dsimp only
            apply hK; clear hK K
            refine rdy (rs := [6]) (by kernel_rfl) (by simp) ?_
            refine arc rfl (fun K hK => ?_) ?_
            ·go_simp; refine ⟨trivial, (CallsIn.inRound l' (callsIn_wide.2 (long_mean.length x.1 x.2.1 _))).mono ?_⟩; rintro e w3 ⟨rfl, b3⟩; have D3 : Below W.heap.size W w3 := ((Below.refl W.heap.size W).drew).trans b3; obtain ⟨r', n1, hr', r1⟩ := Fl.fop_run Try.prog .mul (.inr (.inr (.inl rfl))) 43 (FloatKind.f64.nearest x.2.2) (FloatKind.f64.nearest (Mn.wl x.1 x.2.1)) w3; have D5 : Below W.heap.size W (w3.drewN n1) := D3.trans (below_draw w3 n1); have cv3 := (boxed_on bv D3).cell; have bv5 := boxed_on bv D5; have hrow5 := own_on hrow D5; have cv5 := bv5.cell; have kS5 := kS.on D5; have cv5a := (bv5.alloc (.cells #[.float .f64 r'] 43)).cell; dsimp only
             apply hK; clear hK K
             refine rdy (rs := [7]) (by kernel_rfl) (by simp) ?_
             refine arc rfl (fun K hK => ?_) ?_
             ·go_simp
              apply hK; clear hK K
              refine rdy (rs := [8]) (by kernel_rfl) (by simp) ?_
              refine arc rfl (fun K hK => ?_) ?_
              ·go_simp
               apply hK; clear hK K
               refine rdy (rs := [9]) (by kernel_rfl) (by simp) ?_
               refine arc rfl (fun K hK => ?_) ?_
               ·refine step64 rfl (.tmp 23) (.tmp 31) rfl w2.heap.size _ _ _ rfl (hrow5.alloc _) ⟨(w3.drewN n1).heap.size, 0, none⟩ 1 1 [.float .f64 r'] rfl rfl (cell_one_new _ _ _) (by simp [Value.oneCell']) (by unfold maxLen; omega) (by omega) (by have := hB.size; have := D5.size; simp; simp at this; omega) ?_; intro v' w4 hown' hgrow; obtain ⟨g', cap', rfl⟩ := ownsRow_succ hown'; obtain ⟨hv1, hv2, hr2, hk2, hb2⟩ := bv5.appended (by decide) hrow5 (Nat.le_trans hB.size D5.size) (Nat.le_refl _) hown' hgrow; have kS4 := ((kS5.alloc _).kept hgrow (kS5.not_row (by decide) hrow5)).other (B' := w2.heap.size) (by omega) (.slice (some ⟨g', 0, none⟩) (pre.length + 1) cap'); have hc1 := hv1.cell; have hf1 := hv1.frozen; have fin1 := (KeepsOthers.of_grownBy (grown_below D5 none) (fun j o e => by cases e)).trans hk2; have fin2 := (D5.mono hB.size).trans hb2; have hr3 : (w4.setCell ⟨w2.heap.size, 0, none⟩ (.slice (some ⟨g', 0, none⟩) (pre.length + 1) cap')).ownsRow w2.heap.size 43 1 (.slice (some ⟨g', 0, none⟩) (pre.length + 1) cap') (pre ++ [x]).length (flc (rs ++ [r'])) := by simpa [flc] using hr2
                apply hK; clear hK K
                refine rdy (rs := [10]) (by kernel_rfl) (by simp) ?_
                refine arc rfl (fun K hK => ?_) ?_
                ·go_simp
                 apply hK; clear hK K
                 refine wpAnyIn_done (by kernel_rfl) ?_ _
                 exact ⟨fin1.from _, ⟨fin2, kS4.trans kS.symm⟩, ⟨⟨rs ++ [r'], Mn.prods_snoc hrs hr'.cop, _, hv2, hr3, trivial⟩, kS4⟩, hB.trans fin2⟩
                exact arn
               exact arn
              exact arn
             exact arn
            exact arn
           exact arn
          exact arn
         refine arc rfl (fun K hK => ?_) ?_
         ·go_simp
          apply hK; clear hK K
          refine rdy (rs := [0, 3]) (by kernel_rfl) (by simp) ?_
          refine arc rfl (fun K hK => ?_) ?_
          ·go_simp
           apply hK; clear hK K
           refine rdy (rs := [3]) (by kernel_rfl) (by simp) ?_
           refine arc rfl (fun K hK => ?_) ?_
           ·go_simp; refine ⟨trivial, (CallsIn.inRound l' (callsIn_wide.2 (real_of x.2.2 _))).mono ?_⟩; rintro e w' ⟨rfl, rfl⟩; dsimp only
            apply hK; clear hK K
            refine rdy (rs := [6]) (by kernel_rfl) (by simp) ?_
            refine arc rfl (fun K hK => ?_) ?_
            ·go_simp; refine ⟨trivial, (CallsIn.inRound l' (callsIn_wide.2 (long_mean.length x.1 x.2.1 _))).mono ?_⟩; rintro e w3 ⟨rfl, b3⟩; have D3 : Below W.heap.size W w3 := ((Below.refl W.heap.size W).drew).trans b3; obtain ⟨r', n1, hr', r1⟩ := Fl.fop_run Try.prog .mul (.inr (.inr (.inl rfl))) 43 (FloatKind.f64.nearest x.2.2) (FloatKind.f64.nearest (Mn.wl x.1 x.2.1)) w3; have D5 : Below W.heap.size W (w3.drewN n1) := D3.trans (below_draw w3 n1); have cv3 := (boxed_on bv D3).cell; have bv5 := boxed_on bv D5; have hrow5 := own_on hrow D5; have cv5 := bv5.cell; have kS5 := kS.on D5; have cv5a := (bv5.alloc (.cells #[.float .f64 r'] 43)).cell; dsimp only
             apply hK; clear hK K
             refine rdy (rs := [7]) (by kernel_rfl) (by simp) ?_
             refine arc rfl (fun K hK => ?_) ?_
             ·go_simp
              apply hK; clear hK K
              refine rdy (rs := [8]) (by kernel_rfl) (by simp) ?_
              refine arc rfl (fun K hK => ?_) ?_
              ·go_simp
               apply hK; clear hK K
               refine rdy (rs := [9]) (by kernel_rfl) (by simp) ?_
               refine arc rfl (fun K hK => ?_) ?_
               ·refine step64 rfl (.tmp 23) (.tmp 31) rfl w2.heap.size _ _ _ rfl (hrow5.alloc _) ⟨(w3.drewN n1).heap.size, 0, none⟩ 1 1 [.float .f64 r'] rfl rfl (cell_one_new _ _ _) (by simp [Value.oneCell']) (by unfold maxLen; omega) (by omega) (by have := hB.size; have := D5.size; simp; simp at this; omega) ?_; intro v' w4 hown' hgrow; obtain ⟨g', cap', rfl⟩ := ownsRow_succ hown'; obtain ⟨hv1, hv2, hr2, hk2, hb2⟩ := bv5.appended (by decide) hrow5 (Nat.le_trans hB.size D5.size) (Nat.le_refl _) hown' hgrow; have kS4 := ((kS5.alloc _).kept hgrow (kS5.not_row (by decide) hrow5)).other (B' := w2.heap.size) (by omega) (.slice (some ⟨g', 0, none⟩) (pre.length + 1) cap'); have hc1 := hv1.cell; have hf1 := hv1.frozen; have fin1 := (KeepsOthers.of_grownBy (grown_below D5 none) (fun j o e => by cases e)).trans hk2; have fin2 := (D5.mono hB.size).trans hb2; have hr3 : (w4.setCell ⟨w2.heap.size, 0, none⟩ (.slice (some ⟨g', 0, none⟩) (pre.length + 1) cap')).ownsRow w2.heap.size 43 1 (.slice (some ⟨g', 0, none⟩) (pre.length + 1) cap') (pre ++ [x]).length (flc (rs ++ [r'])) := by simpa [flc] using hr2
                apply hK; clear hK K
                refine rdy (rs := [10]) (by kernel_rfl) (by simp) ?_
                refine arc rfl (fun K hK => ?_) ?_
                ·go_simp
                 apply hK; clear hK K
                 refine wpAnyIn_done (by kernel_rfl) ?_ _
                 exact ⟨fin1.from _, ⟨fin2, kS4.trans kS.symm⟩, ⟨⟨rs ++ [r'], Mn.prods_snoc hrs hr'.cop, _, hv2, hr3, trivial⟩, kS4⟩, hB.trans fin2⟩
                exact arn
               exact arn
              exact arn
             exact arn
            exact arn
           exact arn
          refine arc rfl (fun K hK => ?_) ?_
          ·go_simp; refine ⟨trivial, (CallsIn.inRound l' (callsIn_wide.2 (real_of x.2.2 _))).mono ?_⟩; rintro e w' ⟨rfl, rfl⟩; dsimp only
           apply hK; clear hK K
           refine rdy (rs := [0, 6]) (by kernel_rfl) (by simp) ?_
           refine arc rfl (fun K hK => ?_) ?_
           ·go_simp
            apply hK; clear hK K
            refine rdy (rs := [6]) (by kernel_rfl) (by simp) ?_
            refine arc rfl (fun K hK => ?_) ?_
            ·go_simp; refine ⟨trivial, (CallsIn.inRound l' (callsIn_wide.2 (long_mean.length x.1 x.2.1 _))).mono ?_⟩; rintro e w3 ⟨rfl, b3⟩; have D3 : Below W.heap.size W w3 := ((Below.refl W.heap.size W).drew).trans b3; obtain ⟨r', n1, hr', r1⟩ := Fl.fop_run Try.prog .mul (.inr (.inr (.inl rfl))) 43 (FloatKind.f64.nearest x.2.2) (FloatKind.f64.nearest (Mn.wl x.1 x.2.1)) w3; have D5 : Below W.heap.size W (w3.drewN n1) := D3.trans (below_draw w3 n1); have cv3 := (boxed_on bv D3).cell; have bv5 := boxed_on bv D5; have hrow5 := own_on hrow D5; have cv5 := bv5.cell; have kS5 := kS.on D5; have cv5a := (bv5.alloc (.cells #[.float .f64 r'] 43)).cell; dsimp only
             apply hK; clear hK K
             refine rdy (rs := [7]) (by kernel_rfl) (by simp) ?_
             refine arc rfl (fun K hK => ?_) ?_
             ·go_simp
              apply hK; clear hK K
              refine rdy (rs := [8]) (by kernel_rfl) (by simp) ?_
              refine arc rfl (fun K hK => ?_) ?_
              ·go_simp
               apply hK; clear hK K
               refine rdy (rs := [9]) (by kernel_rfl) (by simp) ?_
               refine arc rfl (fun K hK => ?_) ?_
               ·refine step64 rfl (.tmp 23) (.tmp 31) rfl w2.heap.size _ _ _ rfl (hrow5.alloc _) ⟨(w3.drewN n1).heap.size, 0, none⟩ 1 1 [.float .f64 r'] rfl rfl (cell_one_new _ _ _) (by simp [Value.oneCell']) (by unfold maxLen; omega) (by omega) (by have := hB.size; have := D5.size; simp; simp at this; omega) ?_; intro v' w4 hown' hgrow; obtain ⟨g', cap', rfl⟩ := ownsRow_succ hown'; obtain ⟨hv1, hv2, hr2, hk2, hb2⟩ := bv5.appended (by decide) hrow5 (Nat.le_trans hB.size D5.size) (Nat.le_refl _) hown' hgrow; have kS4 := ((kS5.alloc _).kept hgrow (kS5.not_row (by decide) hrow5)).other (B' := w2.heap.size) (by omega) (.slice (some ⟨g', 0, none⟩) (pre.length + 1) cap'); have hc1 := hv1.cell; have hf1 := hv1.frozen; have fin1 := (KeepsOthers.of_grownBy (grown_below D5 none) (fun j o e => by cases e)).trans hk2; have fin2 := (D5.mono hB.size).trans hb2; have hr3 : (w4.setCell ⟨w2.heap.size, 0, none⟩ (.slice (some ⟨g', 0, none⟩) (pre.length + 1) cap')).ownsRow w2.heap.size 43 1 (.slice (some ⟨g', 0, none⟩) (pre.length + 1) cap') (pre ++ [x]).length (flc (rs ++ [r'])) := by simpa [flc] using hr2
                apply hK; clear hK K
                refine rdy (rs := [10]) (by kernel_rfl) (by simp) ?_
                refine arc rfl (fun K hK => ?_) ?_
                ·go_simp
                 apply hK; clear hK K
                 refine wpAnyIn_done (by kernel_rfl) ?_ _
                 exact ⟨fin1.from _, ⟨fin2, kS4.trans kS.symm⟩, ⟨⟨rs ++ [r'], Mn.prods_snoc hrs hr'.cop, _, hv2, hr3, trivial⟩, kS4⟩, hB.trans fin2⟩
                exact arn
               exact arn
              exact arn
             exact arn
            exact arn
           refine arc rfl (fun K hK => ?_) ?_
           ·go_simp; refine ⟨trivial, (CallsIn.inRound l' (callsIn_wide.2 (long_mean.length x.1 x.2.1 _))).mono ?_⟩; rintro e w3 ⟨rfl, b3⟩; have D3 : Below W.heap.size W w3 := ((Below.refl W.heap.size W).drew).trans b3; obtain ⟨r', n1, hr', r1⟩ := Fl.fop_run Try.prog .mul (.inr (.inr (.inl rfl))) 43 (FloatKind.f64.nearest x.2.2) (FloatKind.f64.nearest (Mn.wl x.1 x.2.1)) w3; have D5 : Below W.heap.size W (w3.drewN n1) := D3.trans (below_draw w3 n1); have cv3 := (boxed_on bv D3).cell; have bv5 := boxed_on bv D5; have hrow5 := own_on hrow D5; have cv5 := bv5.cell; have kS5 := kS.on D5; have cv5a := (bv5.alloc (.cells #[.float .f64 r'] 43)).cell; dsimp only
            apply hK; clear hK K
            refine rdy (rs := [0, 7]) (by kernel_rfl) (by simp) ?_
            refine arc rfl (fun K hK => ?_) ?_
            ·go_simp
             apply hK; clear hK K
             refine rdy (rs := [7]) (by kernel_rfl) (by simp) ?_
             refine arc rfl (fun K hK => ?_) ?_
             ·go_simp
              apply hK; clear hK K
              refine rdy (rs := [8]) (by kernel_rfl) (by simp) ?_
              refine arc rfl (fun K hK => ?_) ?_
              ·go_simp
               apply hK; clear hK K
               refine rdy (rs := [9]) (by kernel_rfl) (by simp) ?_
               refine arc rfl (fun K hK => ?_) ?_
               ·refine step64 rfl (.tmp 23) (.tmp 31) rfl w2.heap.size _ _ _ rfl (hrow5.alloc _) ⟨(w3.drewN n1).heap.size, 0, none⟩ 1 1 [.float .f64 r'] rfl rfl (cell_one_new _ _ _) (by simp [Value.oneCell']) (by unfold maxLen; omega) (by omega) (by have := hB.size; have := D5.size; simp; simp at this; omega) ?_; intro v' w4 hown' hgrow; obtain ⟨g', cap', rfl⟩ := ownsRow_succ hown'; obtain ⟨hv1, hv2, hr2, hk2, hb2⟩ := bv5.appended (by decide) hrow5 (Nat.le_trans hB.size D5.size) (Nat.le_refl _) hown' hgrow; have kS4 := ((kS5.alloc _).kept hgrow (kS5.not_row (by decide) hrow5)).other (B' := w2.heap.size) (by omega) (.slice (some ⟨g', 0, none⟩) (pre.length + 1) cap'); have hc1 := hv1.cell; have hf1 := hv1.frozen; have fin1 := (KeepsOthers.of_grownBy (grown_below D5 none) (fun j o e => by cases e)).trans hk2; have fin2 := (D5.mono hB.size).trans hb2; have hr3 : (w4.setCell ⟨w2.heap.size, 0, none⟩ (.slice (some ⟨g', 0, none⟩) (pre.length + 1) cap')).ownsRow w2.heap.size 43 1 (.slice (some ⟨g', 0, none⟩) (pre.length + 1) cap') (pre ++ [x]).length (flc (rs ++ [r'])) := by simpa [flc] using hr2
                apply hK; clear hK K
                refine rdy (rs := [10]) (by kernel_rfl) (by simp) ?_
                refine arc rfl (fun K hK => ?_) ?_
                ·go_simp
                 apply hK; clear hK K
                 refine wpAnyIn_done (by kernel_rfl) ?_ _
                 exact ⟨fin1.from _, ⟨fin2, kS4.trans kS.symm⟩, ⟨⟨rs ++ [r'], Mn.prods_snoc hrs hr'.cop, _, hv2, hr3, trivial⟩, kS4⟩, hB.trans fin2⟩
                exact arn
               exact arn
              exact arn
             exact arn
            refine arc rfl (fun K hK => ?_) ?_
            ·go_simp
             apply hK; clear hK K
             refine rdy (rs := [0, 8]) (by kernel_rfl) (by simp) ?_
             refine arc rfl (fun K hK => ?_) ?_
             ·go_simp
              apply hK; clear hK K
              refine rdy (rs := [8]) (by kernel_rfl) (by simp) ?_
              refine arc rfl (fun K hK => ?_) ?_
              ·go_simp
               apply hK; clear hK K
               refine rdy (rs := [9]) (by kernel_rfl) (by simp) ?_
               refine arc rfl (fun K hK => ?_) ?_
               ·refine step64 rfl (.tmp 23) (.tmp 31) rfl w2.heap.size _ _ _ rfl (hrow5.alloc _) ⟨(w3.drewN n1).heap.size, 0, none⟩ 1 1 [.float .f64 r'] rfl rfl (cell_one_new _ _ _) (by simp [Value.oneCell']) (by unfold maxLen; omega) (by omega) (by have := hB.size; have := D5.size; simp; simp at this; omega) ?_; intro v' w4 hown' hgrow; obtain ⟨g', cap', rfl⟩ := ownsRow_succ hown'; obtain ⟨hv1, hv2, hr2, hk2, hb2⟩ := bv5.appended (by decide) hrow5 (Nat.le_trans hB.size D5.size) (Nat.le_refl _) hown' hgrow; have kS4 := ((kS5.alloc _).kept hgrow (kS5.not_row (by decide) hrow5)).other (B' := w2.heap.size) (by omega) (.slice (some ⟨g', 0, none⟩) (pre.length + 1) cap'); have hc1 := hv1.cell; have hf1 := hv1.frozen; have fin1 := (KeepsOthers.of_grownBy (grown_below D5 none) (fun j o e => by cases e)).trans hk2; have fin2 := (D5.mono hB.size).trans hb2; have hr3 : (w4.setCell ⟨w2.heap.size, 0, none⟩ (.slice (some ⟨g', 0, none⟩) (pre.length + 1) cap')).ownsRow w2.heap.size 43 1 (.slice (some ⟨g', 0, none⟩) (pre.length + 1) cap') (pre ++ [x]).length (flc (rs ++ [r'])) := by simpa [flc] using hr2
                apply hK; clear hK K
                refine rdy (rs := [10]) (by kernel_rfl) (by simp) ?_
                refine arc rfl (fun K hK => ?_) ?_
                ·go_simp
                 apply hK; clear hK K
                 refine wpAnyIn_done (by kernel_rfl) ?_ _
                 exact ⟨fin1.from _, ⟨fin2, kS4.trans kS.symm⟩, ⟨⟨rs ++ [r'], Mn.prods_snoc hrs hr'.cop, _, hv2, hr3, trivial⟩, kS4⟩, hB.trans fin2⟩
                exact arn
               exact arn
              exact arn
             refine arc rfl (fun K hK => ?_) ?_
             ·go_simp
              apply hK; clear hK K
              refine rdy (rs := [0]) (by kernel_rfl) (by simp) ?_
              refine arc rfl (fun K hK => ?_) ?_
              ·go_simp
               apply hK; clear hK K
               refine rdy (rs := [9]) (by kernel_rfl) (by simp) ?_
               refine arc rfl (fun K hK => ?_) ?_
               ·refine step64 rfl (.tmp 23) (.tmp 31) rfl w2.heap.size _ _ _ rfl (hrow5.alloc _) ⟨(w3.drewN n1).heap.size, 0, none⟩ 1 1 [.float .f64 r'] rfl rfl (cell_one_new _ _ _) (by simp [Value.oneCell']) (by unfold maxLen; omega) (by omega) (by have := hB.size; have := D5.size; simp; simp at this; omega) ?_; intro v' w4 hown' hgrow; obtain ⟨g', cap', rfl⟩ := ownsRow_succ hown'; obtain ⟨hv1, hv2, hr2, hk2, hb2⟩ := bv5.appended (by decide) hrow5 (Nat.le_trans hB.size D5.size) (Nat.le_refl _) hown' hgrow; have kS4 := ((kS5.alloc _).kept hgrow (kS5.not_row (by decide) hrow5)).other (B' := w2.heap.size) (by omega) (.slice (some ⟨g', 0, none⟩) (pre.length + 1) cap'); have hc1 := hv1.cell; have hf1 := hv1.frozen; have fin1 := (KeepsOthers.of_grownBy (grown_below D5 none) (fun j o e => by cases e)).trans hk2; have fin2 := (D5.mono hB.size).trans hb2; have hr3 : (w4.setCell ⟨w2.heap.size, 0, none⟩ (.slice (some ⟨g', 0, none⟩) (pre.length + 1) cap')).ownsRow w2.heap.size 43 1 (.slice (some ⟨g', 0, none⟩) (pre.length + 1) cap') (pre ++ [x]).length (flc (rs ++ [r'])) := by simpa [flc] using hr2
                apply hK; clear hK K
                refine rdy (rs := [10]) (by kernel_rfl) (by simp) ?_
                refine arc rfl (fun K hK => ?_) ?_
                ·go_simp
                 apply hK; clear hK K
                 refine wpAnyIn_done (by kernel_rfl) ?_ _
                 exact ⟨fin1.from _, ⟨fin2, kS4.trans kS.symm⟩, ⟨⟨rs ++ [r'], Mn.prods_snoc hrs hr'.cop, _, hv2, hr3, trivial⟩, kS4⟩, hB.trans fin2⟩
                exact arn
               exact arn
              exact arn
             exact arn
            exact arn
           exact arn
          exact arn
         exact arn
        exact arn
       refine arc rfl (fun K hK => ?_) ?_
       ·go_simp
        apply hK; clear hK K
        refine rdy (rs := [0, 1]) (by kernel_rfl) (by simp) ?_
        refine arc rfl (fun K hK => ?_) ?_
        ·go_simp
         apply hK; clear hK K
         refine rdy (rs := [1]) (by kernel_rfl) (by simp) ?_
         refine arc rfl (fun K hK => ?_) ?_
         ·go_simp
          apply hK; clear hK K
          refine rdy (rs := [2]) (by kernel_rfl) (by simp) ?_
          refine arc rfl (fun K hK => ?_) ?_
          ·go_simp
           apply hK; clear hK K
           refine rdy (rs := [3]) (by kernel_rfl) (by simp) ?_
           refine arc rfl (fun K hK => ?_) ?_
           ·go_simp; refine ⟨trivial, (CallsIn.inRound l' (callsIn_wide.2 (real_of x.2.2 _))).mono ?_⟩; rintro e w' ⟨rfl, rfl⟩; dsimp only
            apply hK; clear hK K
            refine rdy (rs := [6]) (by kernel_rfl) (by simp) ?_
            refine arc rfl (fun K hK => ?_) ?_
            ·go_simp; refine ⟨trivial, (CallsIn.inRound l' (callsIn_wide.2 (long_mean.length x.1 x.2.1 _))).mono ?_⟩; rintro e w3 ⟨rfl, b3⟩; have D3 : Below W.heap.size W w3 := ((Below.refl W.heap.size W).drew).trans b3; obtain ⟨r', n1, hr', r1⟩ := Fl.fop_run Try.prog .mul (.inr (.inr (.inl rfl))) 43 (FloatKind.f64.nearest x.2.2) (FloatKind.f64.nearest (Mn.wl x.1 x.2.1)) w3; have D5 : Below W.heap.size W (w3.drewN n1) := D3.trans (below_draw w3 n1); have cv3 := (boxed_on bv D3).cell; have bv5 := boxed_on bv D5; have hrow5 := own_on hrow D5; have cv5 := bv5.cell; have kS5 := kS.on D5; have cv5a := (bv5.alloc (.cells #[.float .f64 r'] 43)).cell; dsimp only
             apply hK; clear hK K
             refine rdy (rs := [7]) (by kernel_rfl) (by simp) ?_
             refine arc rfl (fun K hK => ?_) ?_
             ·go_simp
              apply hK; clear hK K
              refine rdy (rs := [8]) (by kernel_rfl) (by simp) ?_
              refine arc rfl (fun K hK => ?_) ?_
              ·go_simp
               apply hK; clear hK K
               refine rdy (rs := [9]) (by kernel_rfl) (by simp) ?_
               refine arc rfl (fun K hK => ?_) ?_
               ·refine step64 rfl (.tmp 23) (.tmp 31) rfl w2.heap.size _ _ _ rfl (hrow5.alloc _) ⟨(w3.drewN n1).heap.size, 0, none⟩ 1 1 [.float .f64 r'] rfl rfl (cell_one_new _ _ _) (by simp [Value.oneCell']) (by unfold maxLen; omega) (by omega) (by have := hB.size; have := D5.size; simp; simp at this; omega) ?_; intro v' w4 hown' hgrow; obtain ⟨g', cap', rfl⟩ := ownsRow_succ hown'; obtain ⟨hv1, hv2, hr2, hk2, hb2⟩ := bv5.appended (by decide) hrow5 (Nat.le_trans hB.size D5.size) (Nat.le_refl _) hown' hgrow; have kS4 := ((kS5.alloc _).kept hgrow (kS5.not_row (by decide) hrow5)).other (B' := w2.heap.size) (by omega) (.slice (some ⟨g', 0, none⟩) (pre.length + 1) cap'); have hc1 := hv1.cell; have hf1 := hv1.frozen; have fin1 := (KeepsOthers.of_grownBy (grown_below D5 none) (fun j o e => by cases e)).trans hk2; have fin2 := (D5.mono hB.size).trans hb2; have hr3 : (w4.setCell ⟨w2.heap.size, 0, none⟩ (.slice (some ⟨g', 0, none⟩) (pre.length + 1) cap')).ownsRow w2.heap.size 43 1 (.slice (some ⟨g', 0, none⟩) (pre.length + 1) cap') (pre ++ [x]).length (flc (rs ++ [r'])) := by simpa [flc] using hr2
                apply hK; clear hK K
                refine rdy (rs := [10]) (by kernel_rfl) (by simp) ?_
                refine arc rfl (fun K hK => ?_) ?_
                ·go_simp
                 apply hK; clear hK K
                 refine wpAnyIn_done (by kernel_rfl) ?_ _
                 exact ⟨fin1.from _, ⟨fin2, kS4.trans kS.symm⟩, ⟨⟨rs ++ [r'], Mn.prods_snoc hrs hr'.cop, _, hv2, hr3, trivial⟩, kS4⟩, hB.trans fin2⟩
                exact arn
               exact arn
              exact arn
             exact arn
            exact arn
           exact arn
          exact arn
         exact arn
        refine arc rfl (fun K hK => ?_) ?_
        ·go_simp
         apply hK; clear hK K
         refine rdy (rs := [0, 2]) (by kernel_rfl) (by simp) ?_
         refine arc rfl (fun K hK => ?_) ?_
         ·go_simp
          apply hK; clear hK K
          refine rdy (rs := [2]) (by kernel_rfl) (by simp) ?_
          refine arc rfl (fun K hK => ?_) ?_
          ·go_simp
           apply hK; clear hK K
           refine rdy (rs := [3]) (by kernel_rfl) (by simp) ?_
           refine arc rfl (fun K hK => ?_) ?_
           ·go_simp; refine ⟨trivial, (CallsIn.inRound l' (callsIn_wide.2 (real_of x.2.2 _))).mono ?_⟩; rintro e w' ⟨rfl, rfl⟩; dsimp only
            apply hK; clear hK K
            refine rdy (rs := [6]) (by kernel_rfl) (by simp) ?_
            refine arc rfl (fun K hK => ?_) ?_
            ·go_simp; refine ⟨trivial, (CallsIn.inRound l' (callsIn_wide.2 (long_mean.length x.1 x.2.1 _))).mono ?_⟩; rintro e w3 ⟨rfl, b3⟩; have D3 : Below W.heap.size W w3 := ((Below.refl W.heap.size W).drew).trans b3; obtain ⟨r', n1, hr', r1⟩ := Fl.fop_run Try.prog .mul (.inr (.inr (.inl rfl))) 43 (FloatKind.f64.nearest x.2.2) (FloatKind.f64.nearest (Mn.wl x.1 x.2.1)) w3; have D5 : Below W.heap.size W (w3.drewN n1) := D3.trans (below_draw w3 n1); have cv3 := (boxed_on bv D3).cell; have bv5 := boxed_on bv D5; have hrow5 := own_on hrow D5; have cv5 := bv5.cell; have kS5 := kS.on D5; have cv5a := (bv5.alloc (.cells #[.float .f64 r'] 43)).cell; dsimp only
             apply hK; clear hK K
             refine rdy (rs := [7]) (by kernel_rfl) (by simp) ?_
             refine arc rfl (fun K hK => ?_) ?_
             ·go_simp
              apply hK; clear hK K
              refine rdy (rs := [8]) (by kernel_rfl) (by simp) ?_
              refine arc rfl (fun K hK => ?_) ?_
              ·go_simp
               apply hK; clear hK K
               refine rdy (rs := [9]) (by kernel_rfl) (by simp) ?_
               refine arc rfl (fun K hK => ?_) ?_
               ·refine step64 rfl (.tmp 23) (.tmp 31) rfl w2.heap.size _ _ _ rfl (hrow5.alloc _) ⟨(w3.drewN n1).heap.size, 0, none⟩ 1 1 [.float .f64 r'] rfl rfl (cell_one_new _ _ _) (by simp [Value.oneCell']) (by unfold maxLen; omega) (by omega) (by have := hB.size; have := D5.size; simp; simp at this; omega) ?_; intro v' w4 hown' hgrow; obtain ⟨g', cap', rfl⟩ := ownsRow_succ hown'; obtain ⟨hv1, hv2, hr2, hk2, hb2⟩ := bv5.appended (by decide) hrow5 (Nat.le_trans hB.size D5.size) (Nat.le_refl _) hown' hgrow; have kS4 := ((kS5.alloc _).kept hgrow (kS5.not_row (by decide) hrow5)).other (B' := w2.heap.size) (by omega) (.slice (some ⟨g', 0, none⟩) (pre.length + 1) cap'); have hc1 := hv1.cell; have hf1 := hv1.frozen; have fin1 := (KeepsOthers.of_grownBy (grown_below D5 none) (fun j o e => by cases e)).trans hk2; have fin2 := (D5.mono hB.size).trans hb2; have hr3 : (w4.setCell ⟨w2.heap.size, 0, none⟩ (.slice (some ⟨g', 0, none⟩) (pre.length + 1) cap')).ownsRow w2.heap.size 43 1 (.slice (some ⟨g', 0, none⟩) (pre.length + 1) cap') (pre ++ [x]).length (flc (rs ++ [r'])) := by simpa [flc] using hr2
                apply hK; clear hK K
                refine rdy (rs := [10]) (by kernel_rfl) (by simp) ?_
                refine arc rfl (fun K hK => ?_) ?_
                ·go_simp
                 apply hK; clear hK K
                 refine wpAnyIn_done (by kernel_rfl) ?_ _
                 exact ⟨fin1.from _, ⟨fin2, kS4.trans kS.symm⟩, ⟨⟨rs ++ [r'], Mn.prods_snoc hrs hr'.cop, _, hv2, hr3, trivial⟩, kS4⟩, hB.trans fin2⟩
                exact arn
               exact arn
              exact arn
             exact arn
            exact arn
           exact arn
          exact arn
         refine arc rfl (fun K hK => ?_) ?_
         ·go_simp
          apply hK; clear hK K
          refine rdy (rs := [0, 3]) (by kernel_rfl) (by simp) ?_
          refine arc rfl (fun K hK => ?_) ?_
          ·go_simp
           apply hK; clear hK K
           refine rdy (rs := [3]) (by kernel_rfl) (by simp) ?_
           refine arc rfl (fun K hK => ?_) ?_
           ·go_simp; refine ⟨trivial, (CallsIn.inRound l' (callsIn_wide.2 (real_of x.2.2 _))).mono ?_⟩; rintro e w' ⟨rfl, rfl⟩; dsimp only
            apply hK; clear hK K
            refine rdy (rs := [6]) (by kernel_rfl) (by simp) ?_
            refine arc rfl (fun K hK => ?_) ?_
            ·go_simp; refine ⟨trivial, (CallsIn.inRound l' (callsIn_wide.2 (long_mean.length x.1 x.2.1 _))).mono ?_⟩; rintro e w3 ⟨rfl, b3⟩; have D3 : Below W.heap.size W w3 := ((Below.refl W.heap.size W).drew).trans b3; obtain ⟨r', n1, hr', r1⟩ := Fl.fop_run Try.prog .mul (.inr (.inr (.inl rfl))) 43 (FloatKind.f64.nearest x.2.2) (FloatKind.f64.nearest (Mn.wl x.1 x.2.1)) w3; have D5 : Below W.heap.size W (w3.drewN n1) := D3.trans (below_draw w3 n1); have cv3 := (boxed_on bv D3).cell; have bv5 := boxed_on bv D5; have hrow5 := own_on hrow D5; have cv5 := bv5.cell; have kS5 := kS.on D5; have cv5a := (bv5.alloc (.cells #[.float .f64 r'] 43)).cell; dsimp only
             apply hK; clear hK K
             refine rdy (rs := [7]) (by kernel_rfl) (by simp) ?_
             refine arc rfl (fun K hK => ?_) ?_
             ·go_simp
              apply hK; clear hK K
              refine rdy (rs := [8]) (by kernel_rfl) (by simp) ?_
              refine arc rfl (fun K hK => ?_) ?_
              ·go_simp
               apply hK; clear hK K
               refine rdy (rs := [9]) (by kernel_rfl) (by simp) ?_
               refine arc rfl (fun K hK => ?_) ?_
               ·refine step64 rfl (.tmp 23) (.tmp 31) rfl w2.heap.size _ _ _ rfl (hrow5.alloc _) ⟨(w3.drewN n1).heap.size, 0, none⟩ 1 1 [.float .f64 r'] rfl rfl (cell_one_new _ _ _) (by simp [Value.oneCell']) (by unfold maxLen; omega) (by omega) (by have := hB.size; have := D5.size; simp; simp at this; omega) ?_; intro v' w4 hown' hgrow; obtain ⟨g', cap', rfl⟩ := ownsRow_succ hown'; obtain ⟨hv1, hv2, hr2, hk2, hb2⟩ := bv5.appended (by decide) hrow5 (Nat.le_trans hB.size D5.size) (Nat.le_refl _) hown' hgrow; have kS4 := ((kS5.alloc _).kept hgrow (kS5.not_row (by decide) hrow5)).other (B' := w2.heap.size) (by omega) (.slice (some ⟨g', 0, none⟩) (pre.length + 1) cap'); have hc1 := hv1.cell; have hf1 := hv1.frozen; have fin1 := (KeepsOthers.of_grownBy (grown_below D5 none) (fun j o e => by cases e)).trans hk2; have fin2 := (D5.mono hB.size).trans hb2; have hr3 : (w4.setCell ⟨w2.heap.size, 0, none⟩ (.slice (some ⟨g', 0, none⟩) (pre.length + 1) cap')).ownsRow w2.heap.size 43 1 (.slice (some ⟨g', 0, none⟩) (pre.length + 1) cap') (pre ++ [x]).length (flc (rs ++ [r'])) := by simpa [flc] using hr2
                apply hK; clear hK K
                refine rdy (rs := [10]) (by kernel_rfl) (by simp) ?_
                refine arc rfl (fun K hK => ?_) ?_
                ·go_simp
                 apply hK; clear hK K
                 refine wpAnyIn_done (by kernel_rfl) ?_ _
                 exact ⟨fin1.from _, ⟨fin2, kS4.trans kS.symm⟩, ⟨⟨rs ++ [r'], Mn.prods_snoc hrs hr'.cop, _, hv2, hr3, trivial⟩, kS4⟩, hB.trans fin2⟩
                exact arn
               exact arn
              exact arn
             exact arn
            exact arn
           exact arn
          refine arc rfl (fun K hK => ?_) ?_
          ·go_simp; refine ⟨trivial, (CallsIn.inRound l' (callsIn_wide.2 (real_of x.2.2 _))).mono ?_⟩; rintro e w' ⟨rfl, rfl⟩; dsimp only
           apply hK; clear hK K
           refine rdy (rs := [0, 6]) (by kernel_rfl) (by simp) ?_
           refine arc rfl (fun K hK => ?_) ?_
           ·go_simp
            apply hK; clear hK K
            refine rdy (rs := [6]) (by kernel_rfl) (by simp) ?_
            refine arc rfl (fun K hK => ?_) ?_
            ·go_simp; refine ⟨trivial, (CallsIn.inRound l' (callsIn_wide.2 (long_mean.length x.1 x.2.1 _))).mono ?_⟩; rintro e w3 ⟨rfl, b3⟩; have D3 : Below W.heap.size W w3 := ((Below.refl W.heap.size W).drew).trans b3; obtain ⟨r', n1, hr', r1⟩ := Fl.fop_run Try.prog .mul (.inr (.inr (.inl rfl))) 43 (FloatKind.f64.nearest x.2.2) (FloatKind.f64.nearest (Mn.wl x.1 x.2.1)) w3; have D5 : Below W.heap.size W (w3.drewN n1) := D3.trans (below_draw w3 n1); have cv3 := (boxed_on bv D3).cell; have bv5 := boxed_on bv D5; have hrow5 := own_on hrow D5; have cv5 := bv5.cell; have kS5 := kS.on D5; have cv5a := (bv5.alloc (.cells #[.float .f64 r'] 43)).cell; dsimp only
             apply hK; clear hK K
             refine rdy (rs := [7]) (by kernel_rfl) (by simp) ?_
             refine arc rfl (fun K hK => ?_) ?_
             ·go_simp
              apply hK; clear hK K
              refine rdy (rs := [8]) (by kernel_rfl) (by simp) ?_
              refine arc rfl (fun K hK => ?_) ?_
              ·go_simp
               apply hK; clear hK K
               refine rdy (rs := [9]) (by kernel_rfl) (by simp) ?_
               refine arc rfl (fun K hK => ?_) ?_
               ·refine step64 rfl (.tmp 23) (.tmp 31) rfl w2.heap.size _ _ _ rfl (hrow5.alloc _) ⟨(w3.drewN n1).heap.size, 0, none⟩ 1 1 [.float .f64 r'] rfl rfl (cell_one_new _ _ _) (by simp [Value.oneCell']) (by unfold maxLen; omega) (by omega) (by have := hB.size; have := D5.size; simp; simp at this; omega) ?_; intro v' w4 hown' hgrow; obtain ⟨g', cap', rfl⟩ := ownsRow_succ hown'; obtain ⟨hv1, hv2, hr2, hk2, hb2⟩ := bv5.appended (by decide) hrow5 (Nat.le_trans hB.size D5.size) (Nat.le_refl _) hown' hgrow; have kS4 := ((kS5.alloc _).kept hgrow (kS5.not_row (by decide) hrow5)).other (B' := w2.heap.size) (by omega) (.slice (some ⟨g', 0, none⟩) (pre.length + 1) cap'); have hc1 := hv1.cell; have hf1 := hv1.frozen; have fin1 := (KeepsOthers.of_grownBy (grown_below D5 none) (fun j o e => by cases e)).trans hk2; have fin2 := (D5.mono hB.size).trans hb2; have hr3 : (w4.setCell ⟨w2.heap.size, 0, none⟩ (.slice (some ⟨g', 0, none⟩) (pre.length + 1) cap')).ownsRow w2.heap.size 43 1 (.slice (some ⟨g', 0, none⟩) (pre.length + 1) cap') (pre ++ [x]).length (flc (rs ++ [r'])) := by simpa [flc] using hr2
                apply hK; clear hK K
                refine rdy (rs := [10]) (by kernel_rfl) (by simp) ?_
                refine arc rfl (fun K hK => ?_) ?_
                ·go_simp
                 apply hK; clear hK K
                 refine wpAnyIn_done (by kernel_rfl) ?_ _
                 exact ⟨fin1.from _, ⟨fin2, kS4.trans kS.symm⟩, ⟨⟨rs ++ [r'], Mn.prods_snoc hrs hr'.cop, _, hv2, hr3, trivial⟩, kS4⟩, hB.trans fin2⟩
                exact arn
               exact arn
              exact arn
             exact arn
            exact arn
           refine arc rfl (fun K hK => ?_) ?_
           ·go_simp; refine ⟨trivial, (CallsIn.inRound l' (callsIn_wide.2 (long_mean.length x.1 x.2.1 _))).mono ?_⟩; rintro e w3 ⟨rfl, b3⟩; have D3 : Below W.heap.size W w3 := ((Below.refl W.heap.size W).drew).trans b3; obtain ⟨r', n1, hr', r1⟩ := Fl.fop_run Try.prog .mul (.inr (.inr (.inl rfl))) 43 (FloatKind.f64.nearest x.2.2) (FloatKind.f64.nearest (Mn.wl x.1 x.2.1)) w3; have D5 : Below W.heap.size W (w3.drewN n1) := D3.trans (below_draw w3 n1); have cv3 := (boxed_on bv D3).cell; have bv5 := boxed_on bv D5; have hrow5 := own_on hrow D5; have cv5 := bv5.cell; have kS5 := kS.on D5; have cv5a := (bv5.alloc (.cells #[.float .f64 r'] 43)).cell; dsimp only
            apply hK; clear hK K
            refine rdy (rs := [0, 7]) (by kernel_rfl) (by simp) ?_
            refine arc rfl (fun K hK => ?_) ?_
            ·go_simp
             apply hK; clear hK K
             refine rdy (rs := [7]) (by kernel_rfl) (by simp) ?_
             refine arc rfl (fun K hK => ?_) ?_
             ·go_simp
              apply hK; clear hK K
              refine rdy (rs := [8]) (by kernel_rfl) (by simp) ?_
              refine arc rfl (fun K hK => ?_) ?_
              ·go_simp
               apply hK; clear hK K
               refine rdy (rs := [9]) (by kernel_rfl) (by simp) ?_
               refine arc rfl (fun K hK => ?_) ?_
               ·refine step64 rfl (.tmp 23) (.tmp 31) rfl w2.heap.size _ _ _ rfl (hrow5.alloc _) ⟨(w3.drewN n1).heap.size, 0, none⟩ 1 1 [.float .f64 r'] rfl rfl (cell_one_new _ _ _) (by simp [Value.oneCell']) (by unfold maxLen; omega) (by omega) (by have := hB.size; have := D5.size; simp; simp at this; omega) ?_; intro v' w4 hown' hgrow; obtain ⟨g', cap', rfl⟩ := ownsRow_succ hown'; obtain ⟨hv1, hv2, hr2, hk2, hb2⟩ := bv5.appended (by decide) hrow5 (Nat.le_trans hB.size D5.size) (Nat.le_refl _) hown' hgrow; have kS4 := ((kS5.alloc _).kept hgrow (kS5.not_row (by decide) hrow5)).other (B' := w2.heap.size) (by omega) (.slice (some ⟨g', 0, none⟩) (pre.length + 1) cap'); have hc1 := hv1.cell; have hf1 := hv1.frozen; have fin1 := (KeepsOthers.of_grownBy (grown_below D5 none) (fun j o e => by cases e)).trans hk2; have fin2 := (D5.mono hB.size).trans hb2; have hr3 : (w4.setCell ⟨w2.heap.size, 0, none⟩ (.slice (some ⟨g', 0, none⟩) (pre.length + 1) cap')).ownsRow w2.heap.size 43 1 (.slice (some ⟨g', 0, none⟩) (pre.length + 1) cap') (pre ++ [x]).length (flc (rs ++ [r'])) := by simpa [flc] using hr2
                apply hK; clear hK K
                refine rdy (rs := [10]) (by kernel_rfl) (by simp) ?_
                refine arc rfl (fun K hK => ?_) ?_
                ·go_simp
                 apply hK; clear hK K
                 refine wpAnyIn_done (by kernel_rfl) ?_ _
                 exact ⟨fin1.from _, ⟨fin2, kS4.trans kS.symm⟩, ⟨⟨rs ++ [r'], Mn.prods_snoc hrs hr'.cop, _, hv2, hr3, trivial⟩, kS4⟩, hB.trans fin2⟩
                exact arn
               exact arn
              exact arn
             exact arn
            refine arc rfl (fun K hK => ?_) ?_
            ·go_simp
             apply hK; clear hK K
             refine rdy (rs := [0, 8]) (by kernel_rfl) (by simp) ?_
             refine arc rfl (fun K hK => ?_) ?_
             ·go_simp
              apply hK; clear hK K
              refine rdy (rs := [8]) (by kernel_rfl) (by simp) ?_
              refine arc rfl (fun K hK => ?_) ?_
              ·go_simp
               apply hK; clear hK K
               refine rdy (rs := [9]) (by kernel_rfl) (by simp) ?_
               refine arc rfl (fun K hK => ?_) ?_
               ·refine step64 rfl (.tmp 23) (.tmp 31) rfl w2.heap.size _ _ _ rfl (hrow5.alloc _) ⟨(w3.drewN n1).heap.size, 0, none⟩ 1 1 [.float .f64 r'] rfl rfl (cell_one_new _ _ _) (by simp [Value.oneCell']) (by unfold maxLen; omega) (by omega) (by have := hB.size; have := D5.size; simp; simp at this; omega) ?_; intro v' w4 hown' hgrow; obtain ⟨g', cap', rfl⟩ := ownsRow_succ hown'; obtain ⟨hv1, hv2, hr2, hk2, hb2⟩ := bv5.appended (by decide) hrow5 (Nat.le_trans hB.size D5.size) (Nat.le_refl _) hown' hgrow; have kS4 := ((kS5.alloc _).kept hgrow (kS5.not_row (by decide) hrow5)).other (B' := w2.heap.size) (by omega) (.slice (some ⟨g', 0, none⟩) (pre.length + 1) cap'); have hc1 := hv1.cell; have hf1 := hv1.frozen; have fin1 := (KeepsOthers.of_grownBy (grown_below D5 none) (fun j o e => by cases e)).trans hk2; have fin2 := (D5.mono hB.size).trans hb2; have hr3 : (w4.setCell ⟨w2.heap.size, 0, none⟩ (.slice (some ⟨g', 0, none⟩) (pre.length + 1) cap')).ownsRow w2.heap.size 43 1 (.slice (some ⟨g', 0, none⟩) (pre.length + 1) cap') (pre ++ [x]).length (flc (rs ++ [r'])) := by simpa [flc] using hr2
                apply hK; clear hK K
                refine rdy (rs := [10]) (by kernel_rfl) (by simp) ?_
                refine arc rfl (fun K hK => ?_) ?_
                ·go_simp
                 apply hK; clear hK K
                 refine wpAnyIn_done (by kernel_rfl) ?_ _
                 exact ⟨fin1.from _, ⟨fin2, kS4.trans kS.symm⟩, ⟨⟨rs ++ [r'], Mn.prods_snoc hrs hr'.cop, _, hv2, hr3, trivial⟩, kS4⟩, hB.trans fin2⟩
                exact arn
               exact arn
              exact arn
             refine arc rfl (fun K hK => ?_) ?_
             ·go_simp
              apply hK; clear hK K
              refine rdy (rs := [0]) (by kernel_rfl) (by simp) ?_
              refine arc rfl (fun K hK => ?_) ?_
              ·go_simp
               apply hK; clear hK K
               refine rdy (rs := [9]) (by kernel_rfl) (by simp) ?_
               refine arc rfl (fun K hK => ?_) ?_
               ·refine step64 rfl (.tmp 23) (.tmp 31) rfl w2.heap.size _ _ _ rfl (hrow5.alloc _) ⟨(w3.drewN n1).heap.size, 0, none⟩ 1 1 [.float .f64 r'] rfl rfl (cell_one_new _ _ _) (by simp [Value.oneCell']) (by unfold maxLen; omega) (by omega) (by have := hB.size; have := D5.size; simp; simp at this; omega) ?_; intro v' w4 hown' hgrow; obtain ⟨g', cap', rfl⟩ := ownsRow_succ hown'; obtain ⟨hv1, hv2, hr2, hk2, hb2⟩ := bv5.appended (by decide) hrow5 (Nat.le_trans hB.size D5.size) (Nat.le_refl _) hown' hgrow; have kS4 := ((kS5.alloc _).kept hgrow (kS5.not_row (by decide) hrow5)).other (B' := w2.heap.size) (by omega) (.slice (some ⟨g', 0, none⟩) (pre.length + 1) cap'); have hc1 := hv1.cell; have hf1 := hv1.frozen; have fin1 := (KeepsOthers.of_grownBy (grown_below D5 none) (fun j o e => by cases e)).trans hk2; have fin2 := (D5.mono hB.size).trans hb2; have hr3 : (w4.setCell ⟨w2.heap.size, 0, none⟩ (.slice (some ⟨g', 0, none⟩) (pre.length + 1) cap')).ownsRow w2.heap.size 43 1 (.slice (some ⟨g', 0, none⟩) (pre.length + 1) cap') (pre ++ [x]).length (flc (rs ++ [r'])) := by simpa [flc] using hr2
                apply hK; clear hK K
                refine rdy (rs := [10]) (by kernel_rfl) (by simp) ?_
                refine arc rfl (fun K hK => ?_) ?_
                ·go_simp
                 apply hK; clear hK K
                 refine wpAnyIn_done (by kernel_rfl) ?_ _
                 exact ⟨fin1.from _, ⟨fin2, kS4.trans kS.symm⟩, ⟨⟨rs ++ [r'], Mn.prods_snoc hrs hr'.cop, _, hv2, hr3, trivial⟩, kS4⟩, hB.trans fin2⟩
                exact arn
               exact arn
              exact arn
             exact arn
            exact arn
           exact arn
          exact arn
         exact arn
        exact arn
       exact arn
      exact arn
    case done =>
      rintro D ys W hD rfl ⟨⟨⟨rs, hrs, v, bv, hrow, -⟩, kS⟩, hB⟩ hK
      have cv := bv.cell
      obtain ⟨A', c', rfl, hF, h1, h2⟩ := own_fl hrow (by rw [hrs.len]; unfold Mn.prods; rw [List.length_map])
      gi_wp2_with fail
      refine ⟨trivial, (callsIn_wide.2 (sum_all A' _ c' _ W hF h1 h2 hrs.lt)).mono ?_⟩
      rintro e w3 ⟨z, hz, rfl, k, rfl⟩
      obtain ⟨r', n1, hr', r1⟩ := Fl.fop_run Try.prog .quo (.inr (.inr (.inr rfl))) 43 z tt (W.drewN k)
      gi_wp2
      refine ⟨by simp, .inl ⟨_, _, rfl, run_takeDeferred (show (W.drewN (k + n1)).heap[D]? = _ from hK), ?_⟩⟩
      exact ⟨_, results_tmp2 rfl _ _ _, r', by
       have e := hr'.cop
       rw [Fl.cop_eqv (.inr (.inr (.inr rfl))) (hz.trans (Fl.csum_eqv hrs)) HTT.out] at e
       exact e, rfl, B1.trans (((hB.trans (below_draw W (k + n1))).trans (belowK_b (w := w2) (Nat.le_refl _) (W.drewN (k + n1)) D _ (.deferred none) (by have := B0.size; omega) hK rfl rfl)).mono B1.size)⟩
    case stop =>
      rintro D c pre W _ _ h _
      exact h.elim
end Go.Proofs.Ytnfjdjfajkdiiaa
