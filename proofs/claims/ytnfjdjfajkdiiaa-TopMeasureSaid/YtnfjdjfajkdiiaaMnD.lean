/- Parts: the contract of the program's Total. -/
import Derived.Test.YtnfjdjfajkdiiaaMnD0
import Derived.Test.YtnfjdjfajkdiiaaMnC
import Derived.RangeFuncBox
import Derived.Maps.AppendAt
import Derived.Test.YtnfjdjfajkdiiaaRlD
set_option linter.unusedVariables false
set_option linter.unusedSimpArgs false
namespace Go.Proofs.Ytnfjdjfajkdiiaa
open Go.RowKit Go.Sort Go.Shelf

attribute [local go_sem] Oper.semAt_some

theorem info_f64 : (Try.prog.info? 43).map (fun i => (i.zero, i.size, i.bytes)) = some (some (.float .f64 0), 1, 8) := by kernel_rfl
/-- A call that answers a number with a floating point, to the word of a NaN, and why. -/
def AnsF2 (c : Nat) (why : Int) (w : World) (e : Ending) (w' : World) : Prop := ∃ r, Fl.Eqv r c ∧ e = .returned (.tuple #[.float .f64 r, .int .i64 why]) ∧ Below w.heap.size w w'

theorem stepIn_append_own {F : Fence} {n : Nat} {P : Program} {ops : Array Oper} {o : Oper} {a : Act} {w : World} {K : Act → World → Prop} {Q : Exit → Act → World → Prop} {E : Prop} (hg : o.guard = none) (s x : Operand) (t : TypeId)
    (hop : o.op = .call { callee := .builtin .append, args := #[s, x], argTypes := #[t, t] })
    (base : Nat) (e : TypeId) (i : TypeInfo) (z : Value) (size bytes : Nat) (h1 : P.underlying t = some (.slice e)) (h2 : P.info? e = some i) (h3 : i.zero = some z)
    (h4 : i.size = size) (h5 : i.bytes = bytes) (h6 : z.cells.size = size) (h7 : 0 < size)
    (v : Value) (k : Nat) (xs : List Value) (hs : a.eval s = v) (hown : w.ownsRow base e size v k xs)
    (ad : Addr) (m c : Nat) (news : List Value) (hx : a.eval x = .slice (some ad) m c) (hn : news.length = m * size) (hc : ∀ j u, news[j]? = some u → w.cell? (ad.add j) = some u) (h1c : ∀ u ∈ news, u.oneCell' = true)
    (b1 : k + m ≤ maxLen) (b2 : (k + m) * bytes ≤ 140737488355328) (b3 : base ≤ w.heap.size)
    (hK : ∀ v' w', w'.ownsRow base e size v' (k + m) (xs ++ news) → w.grownBy w' v.ownBlock → K (a.put o.dst v') w') : if Region.wanted o (yielded ops a.tmps) = true then Oper.wpIn F n P o a w K Q else E := by
  rw [if_pos (by simp [Region.wanted, hg])]
  obtain ⟨v', w', hrun, r1, r2, r3⟩ := run_append_own (P := P) w base t o.type e i z size bytes h1 h2 h3 h4 h5 h6 h7 v k xs hown ad m c news hn hc h1c b1 b2 b3
  unfold Oper.wpIn
  refine ⟨?_, ?_⟩
  · simp [Oper.about, hop, resolve, Target.leads, Sem.run_pure]
  · rw [Oper.semAt_plain F _ _ (by rw [hop]; intro c hc'; cases hc')]
    simp [execOp, hop, resolve, invoke, builtin, hs, hx, hrun, Result.andThen]
    exact hK _ _ r1 r2
theorem own_fl {w : World} {base : Nat} {e : TypeId} {v : Value} {k : Nat} {l : List Nat} (h : w.ownsRow base e 1 v k (flc l)) (hk : k = l.length) : ∃ A c, v = .slice A l.length c ∧ FlS w v l ∧ l.length ≤ c ∧ c ≤ maxLen := by
  have hL := Lst.own h
  rw [hk] at hL
  rcases h.2 with ⟨rfl, h0⟩ | ⟨g, cap, cur, rfl, _, _, h1, h2, _⟩
  · exact ⟨none, 0, by rw [← hk, h0], hL, by omega, Nat.zero_le _⟩
  · exact ⟨_, cap, by rw [← hk], hL, by omega, h2⟩
theorem boxed_on {W W' : World} {B : Nat} {t : TypeId} {v : Value} (h : Boxed W B t v) (k : Below W.heap.size W W') : Boxed W' B t v := (k.block B h.lt).trans h
set_option maxRecDepth 100000 in
set_option maxHeartbeats 4000000 in
theorem mtotal_any (v : Value) (l : List Mn.P) (s0 s1 : Int) (w : World) (h : PtV w v l) (hm : l.length ≤ 1000000) :
    Calls Try.prog 43 #[v, .agg #[.int .i64 s0, .int .i64 s1]] w (AnsF2 (if Mn.rt none l then Fl.csum (Mn.lens (Mn.cnt s0 s1 l)) else 0) (if Mn.rt none l then 0 else 4) w) := by
  have H := Lib.hid h
  obtain ⟨A, c, rfl, -⟩ := h
  obtain ⟨n, hn⟩ : ∃ n, l.length = n := ⟨_, rfl⟩
  rw [hn] at hm H ⊢
  have HN := Lib.hid hn
  clear hn
  obtain ⟨i0, hi, hz0, hz1, hz2⟩ := info_parts info_f64
  cases hr : Mn.rt none l
  · have HR := Lib.hid hr
    clear hr
    simp only [Bool.false_eq_true, if_false]
    go_enter Try.func43, Try.ntmps43
    go_wp2_with fail
    have b0 : Below w.heap.size w (w.alloc (.cells #[.int .i64 s0, .int .i64 s1] 24)) := (Below.refl _ _).alloc (Nat.le_refl _) _
    refine (mean_right _ l _ (H.out.on b0) (by rw [HN.out]; exact hm)).mono ?_
    rintro e w1 ⟨rfl, b1⟩
    rw [HR.out]
    go_wp2
    go_ret2
    exact ⟨0, Fl.Eqv.refl (by decide), rfl, below_step b0 b1⟩
  · have HR := Lib.hid hr
    clear hr
    simp only [if_true]
    refine (callsIn_wide (n := 6)).1 ?_
    refine callsIn_of_wp_marks Try.func43 rfl trivial ?_ rfl
    simp only [Try.ntmps43, List.size_toArray, List.length_cons, List.length_nil, Nat.reduceAdd, Nat.reduceSub, Array.replicate_succ, Array.replicate_zero, List.push_toArray, List.append_toArray, List.nil_append, List.cons_append]
    gi_wp2_with fail
    have b0 : Below w.heap.size w (w.alloc (.cells #[.int .i64 s0, .int .i64 s1] 24)) := (Below.refl _ _).alloc (Nat.le_refl _) _
    refine ⟨trivial, (callsIn_wide.2 (mean_right _ l _ (H.out.on b0) (by rw [HN.out]; exact hm))).mono ?_⟩
    rintro e w1 ⟨rfl, b1⟩
    rw [HR.out]
    have S0 := ((Blk.new w 24 #[.int .i64 s0, .int .i64 s1]).on b1).alloc (.cells #[.slice none 0 0] 53)
    have c0 := S0.c0
    have c1 := S0.c1
    have B1 : Below w.heap.size w w1 := below_step b0 b1
    gi_wp2_with fail
    refine ⟨trivial, (counting_any _ _ _ _ _ _ _).mono ?_⟩
    rintro e w2 ⟨rfl, rfl⟩
    gi_wp2_with fail
    obtain ⟨W0, hW0⟩ : ∃ W0, ((w1.alloc (.cells #[.slice none 0 0] 53)).alloc (.cells #[.slice A n c] 40)).alloc (.cells #[.int .i64 s0, .int .i64 s1] 24) = W0 := ⟨_, rfl⟩
    have bL : Boxed W0 w1.heap.size 53 (.slice none 0 0) := by rw [← hW0]; exact ((Boxed.new w1 53 (.slice none 0 0)).alloc _).alloc _
    have kl : Blk W0 (w1.heap.size + 1) 40 #[.slice A n c] := by rw [← hW0]; exact (Blk.newAt _ _ (by simp)).alloc _
    have ks : Blk W0 (w1.heap.size + 1 + 1) 24 #[.int .i64 s0, .int .i64 s1] := by rw [← hW0]; exact Blk.newAt _ _ (by simp)
    have hz : W0.heap.size = w1.heap.size + 3 := by rw [← hW0]; simp
    have B0 : Below w1.heap.size w1 W0 := by rw [← hW0]; exact (((Below.refl _ w1).alloc (Nat.le_refl _) _).alloc (by simp) _).alloc (by simp; omega) _
    rw [hW0]
    clear hW0 S0 c0 c1
    have hLn : Lst W0 w1.heap.size (.slice A n c) n (Mn.ptc l) := by
      have := ((H.out.on B1).below B0)
      rwa [HN.out] at this
    refine wpIn_rangeFunc_ownH rfl (by omega) (gf := 53) (lb := #[.pointer (some ⟨w1.heap.size + 1, 0, none⟩), .pointer (some ⟨w1.heap.size + 1 + 1, 0, none⟩)]) rfl trivial (enters_of Try.func53 (by kernel_rfl) rfl)
      (counting_stops (6 - 1) (by omega) (w1.heap.size + 1) (w1.heap.size + 1 + 1) w1.heap.size A n c l s0 s1 HN.out.symm hm W0 (by omega) (by omega) (by omega) kl.c0 ks.c0 ks.c1 hLn) KpC.trans (KpC.putObj (by omega) (by omega)) (Below.refl _ _) (fun _ => rfl)
      (fun pre W => ((∃ v, Boxed W w1.heap.size 53 v ∧ W.ownsRow w1.heap.size 43 1 v pre.length (flc (Mn.lens pre)) ∧ True) ∧ Blk W (w1.heap.size + 1 + 1) 24 #[.int .i64 s0, .int .i64 s1]) ∧ Below w1.heap.size w1 W)
      (fun _ _ _ => False)
      (OwnFrom.and (OwnFrom.and (Own.from (holdsRow_own w1.heap.size w1.heap.size 53 43 1 (fun pre : List Mn.P => pre.length) (fun pre => flc (Mn.lens pre)) (fun _ _ => True)) _) (Own.from (blk_own _ _ _) _)) (ownFrom_below (Nat.le_refl _) (by omega)))
      (fun _ _ _ _ _ hs _ _ => hs)
      ⟨⟨⟨_, bL, World.ownsRow_nil _ _ _ _, trivial⟩, ks⟩, B0⟩
      (fun x a' W => ∃ Bx, w1.heap.size + 2 < Bx ∧ Blk W Bx 42 #[.int .i64 x.1, .int .i64 x.2.1, .int .i64 x.2.2] ∧ a' = { tmps := #[.slice A n c, .agg #[.int .i64 s0, .int .i64 s1], undef, .pointer (some ⟨w.heap.size, 0, none⟩), .float .f64 0, .int .i64 0, .pointer (some ⟨w1.heap.size, 0, none⟩), .pointer (some ⟨Bx, 0, none⟩), .slice A n c, .bool true, .bool false, .slice A n c, .agg #[.int .i64 s0, .int .i64 s1], .func (.func 53) #[] #[.pointer (some ⟨w1.heap.size + 1, 0, none⟩), .pointer (some ⟨w1.heap.size + 1 + 1, 0, none⟩)], .agg #[.int .i64 x.1, .int .i64 x.2.1, .int .i64 x.2.2], undef, undef, undef, undef, undef, undef, undef, undef], defers := [] })
      (fun x a' _ X Y row hs hg hr => by obtain ⟨Bx, h1, h2, h3⟩ := hs; exact ⟨Bx, h1, blk_own Bx 42 (fun (_ : Unit) => #[Value.int .i64 x.1, .int .i64 x.2.1, .int .i64 x.2.2]) () X Y row h2 hg (fun r e => (hr r e).2), h3⟩)
      ?assign ?body ?done ?stop
    case assign =>
      rintro l' pre x W K ⟨⟨⟨v, bv, hrow, -⟩, kS⟩, hB⟩ hK
      gi_wp2
      have hkl := kS.lt
      exact hK _ _ ((KeepsOthers.alloc _ _).from _) (KpC.of hB.size hkl ((Below.refl _ _).alloc (Nat.le_refl _) _)) ⟨⟨⟨v, bv.alloc _, hrow.alloc _, trivial⟩, kS.alloc _⟩, hB.alloc hB.size _⟩ ⟨W.heap.size, hkl, Blk.new W _ _, rfl⟩
    case body =>
      rintro l' pre x a' W hl ⟨r, hr⟩ ⟨⟨⟨v, bv, hrow, -⟩, kS⟩, hB⟩ ⟨Bx, hBx, bX, rfl⟩ hlt
      have x0 := bX.c0
      have x1 := bX.c1
      have cv := bv.cell
      have hmx : Try.prog.follows .mixedOrders = true := by kernel_rfl
      gi_wp2
      refine wpIn_region_any (by assumption) ?_
      try (change wpAnyIn _ _ _ _ _ _ _ _ _ (World.drew _))
      refine wpAnyIn_ready (rs := [0, 1]) (by kernel_rfl) (by simp) ?_
      refine AllReadyIn.cons rfl (fun K hK => ?_) ?_
      · go_simp
        refine hK _ _ ?_; clear hK K
        refine wpAnyIn_ready (rs := [1]) (by kernel_rfl) (by simp) ?_
        refine AllReadyIn.cons rfl (fun K hK => ?_) ?_
        · go_simp
          refine hK _ _ ?_; clear hK K
          refine wpAnyIn_ready (rs := [2]) (by kernel_rfl) (by simp) ?_
          refine AllReadyIn.cons rfl (fun K hK => ?_) ?_
          · go_simp
            refine hK _ _ ?_; clear hK K
            refine wpAnyIn_ready (rs := [3]) (by kernel_rfl) (by simp) ?_
            refine AllReadyIn.cons rfl (fun K hK => ?_) ?_
            · go_simp; refine ⟨trivial, (CallsIn.inRound l' (callsIn_wide.2 (long_mean.length x.1 x.2.1 _))).mono ?_⟩; rintro e w3 ⟨rfl, b3⟩; have D3 : Below W.heap.size W w3 := ((Below.refl W.heap.size W).drew).trans b3; have bv3 := boxed_on bv D3; have hrow3 := own_on hrow D3; have cv3 := bv3.cell; have kS3 := kS.on D3; have cv3a := (bv3.alloc (.cells #[.float .f64 (FloatKind.f64.nearest (Mn.wl x.1 x.2.1))] 43)).cell; dsimp only
              refine hK _ _ ?_; clear hK K
              refine wpAnyIn_ready (rs := [4]) (by kernel_rfl) (by simp) ?_
              refine AllReadyIn.cons rfl (fun K hK => ?_) ?_
              · go_simp
                refine hK _ _ ?_; clear hK K
                refine wpAnyIn_ready (rs := [5]) (by kernel_rfl) (by simp) ?_
                refine AllReadyIn.cons rfl (fun K hK => ?_) ?_
                · refine stepIn_append_own rfl (.tmp 15) (.tmp 19) 53 rfl w1.heap.size 43 i0 (.float .f64 0) 1 8 Try.underlying53 hi hz0 hz1 hz2 rfl (by decide) _ _ _ rfl (hrow3.alloc _) ⟨w3.heap.size, 0, none⟩ 1 1 [.float .f64 (FloatKind.f64.nearest (Mn.wl x.1 x.2.1))] rfl rfl (cell_one_new _ _ _) (by simp [Value.oneCell']) (by unfold maxLen; omega) (by omega) (by have := hB.size; have := D3.size; simp; omega) ?_; intro v' w4 hown' hgrow; obtain ⟨g', cap', rfl⟩ := ownsRow_succ hown'; obtain ⟨hv1, hv2, hr2, hk2, hb2⟩ := bv3.appended (by decide) hrow3 (Nat.le_trans hB.size D3.size) (Nat.le_refl _) hown' hgrow; have kS4 := ((kS3.alloc _).kept hgrow (kS3.not_row (by decide) hrow3)).other (B' := w1.heap.size) (by omega) (.slice (some ⟨g', 0, none⟩) (pre.length + 1) cap'); have hc1 := hv1.cell; have hf1 := hv1.frozen; have fin1 := (KeepsOthers.of_grownBy (grown_below D3 none) (fun j o e => by cases e)).trans hk2; have fin2 := (D3.mono hB.size).trans hb2; have hr3 : (w4.setCell ⟨w1.heap.size, 0, none⟩ (.slice (some ⟨g', 0, none⟩) (pre.length + 1) cap')).ownsRow w1.heap.size 43 1 (.slice (some ⟨g', 0, none⟩) (pre.length + 1) cap') (pre ++ [x]).length (flc (Mn.lens (pre ++ [x]))) := by simpa [flc, Mn.lens, Mn.lw] using hr2
                  refine hK _ _ ?_; clear hK K
                  refine wpAnyIn_ready (rs := [6]) (by kernel_rfl) (by simp) ?_
                  refine AllReadyIn.cons rfl (fun K hK => ?_) ?_
                  · go_simp
                    refine hK _ _ ?_; clear hK K
                    refine wpAnyIn_done (by kernel_rfl) ?_ _
                    exact ⟨fin1.from _, ⟨fin2, kS4.trans kS.symm⟩, ⟨⟨_, hv2, hr3, trivial⟩, kS4⟩, hB.trans fin2⟩
                  exact AllReadyIn.nil
                exact AllReadyIn.nil
              exact AllReadyIn.nil
            exact AllReadyIn.nil
          exact AllReadyIn.nil
        exact AllReadyIn.nil
      refine AllReadyIn.cons rfl (fun K hK => ?_) ?_
      · go_simp
        refine hK _ _ ?_; clear hK K
        refine wpAnyIn_ready (rs := [0, 2]) (by kernel_rfl) (by simp) ?_
        refine AllReadyIn.cons rfl (fun K hK => ?_) ?_
        · go_simp
          refine hK _ _ ?_; clear hK K
          refine wpAnyIn_ready (rs := [2]) (by kernel_rfl) (by simp) ?_
          refine AllReadyIn.cons rfl (fun K hK => ?_) ?_
          · go_simp
            refine hK _ _ ?_; clear hK K
            refine wpAnyIn_ready (rs := [3]) (by kernel_rfl) (by simp) ?_
            refine AllReadyIn.cons rfl (fun K hK => ?_) ?_
            · go_simp; refine ⟨trivial, (CallsIn.inRound l' (callsIn_wide.2 (long_mean.length x.1 x.2.1 _))).mono ?_⟩; rintro e w3 ⟨rfl, b3⟩; have D3 : Below W.heap.size W w3 := ((Below.refl W.heap.size W).drew).trans b3; have bv3 := boxed_on bv D3; have hrow3 := own_on hrow D3; have cv3 := bv3.cell; have kS3 := kS.on D3; have cv3a := (bv3.alloc (.cells #[.float .f64 (FloatKind.f64.nearest (Mn.wl x.1 x.2.1))] 43)).cell; dsimp only
              refine hK _ _ ?_; clear hK K
              refine wpAnyIn_ready (rs := [4]) (by kernel_rfl) (by simp) ?_
              refine AllReadyIn.cons rfl (fun K hK => ?_) ?_
              · go_simp
                refine hK _ _ ?_; clear hK K
                refine wpAnyIn_ready (rs := [5]) (by kernel_rfl) (by simp) ?_
                refine AllReadyIn.cons rfl (fun K hK => ?_) ?_
                · refine stepIn_append_own rfl (.tmp 15) (.tmp 19) 53 rfl w1.heap.size 43 i0 (.float .f64 0) 1 8 Try.underlying53 hi hz0 hz1 hz2 rfl (by decide) _ _ _ rfl (hrow3.alloc _) ⟨w3.heap.size, 0, none⟩ 1 1 [.float .f64 (FloatKind.f64.nearest (Mn.wl x.1 x.2.1))] rfl rfl (cell_one_new _ _ _) (by simp [Value.oneCell']) (by unfold maxLen; omega) (by omega) (by have := hB.size; have := D3.size; simp; omega) ?_; intro v' w4 hown' hgrow; obtain ⟨g', cap', rfl⟩ := ownsRow_succ hown'; obtain ⟨hv1, hv2, hr2, hk2, hb2⟩ := bv3.appended (by decide) hrow3 (Nat.le_trans hB.size D3.size) (Nat.le_refl _) hown' hgrow; have kS4 := ((kS3.alloc _).kept hgrow (kS3.not_row (by decide) hrow3)).other (B' := w1.heap.size) (by omega) (.slice (some ⟨g', 0, none⟩) (pre.length + 1) cap'); have hc1 := hv1.cell; have hf1 := hv1.frozen; have fin1 := (KeepsOthers.of_grownBy (grown_below D3 none) (fun j o e => by cases e)).trans hk2; have fin2 := (D3.mono hB.size).trans hb2; have hr3 : (w4.setCell ⟨w1.heap.size, 0, none⟩ (.slice (some ⟨g', 0, none⟩) (pre.length + 1) cap')).ownsRow w1.heap.size 43 1 (.slice (some ⟨g', 0, none⟩) (pre.length + 1) cap') (pre ++ [x]).length (flc (Mn.lens (pre ++ [x]))) := by simpa [flc, Mn.lens, Mn.lw] using hr2
                  refine hK _ _ ?_; clear hK K
                  refine wpAnyIn_ready (rs := [6]) (by kernel_rfl) (by simp) ?_
                  refine AllReadyIn.cons rfl (fun K hK => ?_) ?_
                  · go_simp
                    refine hK _ _ ?_; clear hK K
                    refine wpAnyIn_done (by kernel_rfl) ?_ _
                    exact ⟨fin1.from _, ⟨fin2, kS4.trans kS.symm⟩, ⟨⟨_, hv2, hr3, trivial⟩, kS4⟩, hB.trans fin2⟩
                  exact AllReadyIn.nil
                exact AllReadyIn.nil
              exact AllReadyIn.nil
            exact AllReadyIn.nil
          exact AllReadyIn.nil
        refine AllReadyIn.cons rfl (fun K hK => ?_) ?_
        · go_simp
          refine hK _ _ ?_; clear hK K
          refine wpAnyIn_ready (rs := [0, 3]) (by kernel_rfl) (by simp) ?_
          refine AllReadyIn.cons rfl (fun K hK => ?_) ?_
          · go_simp
            refine hK _ _ ?_; clear hK K
            refine wpAnyIn_ready (rs := [3]) (by kernel_rfl) (by simp) ?_
            refine AllReadyIn.cons rfl (fun K hK => ?_) ?_
            · go_simp; refine ⟨trivial, (CallsIn.inRound l' (callsIn_wide.2 (long_mean.length x.1 x.2.1 _))).mono ?_⟩; rintro e w3 ⟨rfl, b3⟩; have D3 : Below W.heap.size W w3 := ((Below.refl W.heap.size W).drew).trans b3; have bv3 := boxed_on bv D3; have hrow3 := own_on hrow D3; have cv3 := bv3.cell; have kS3 := kS.on D3; have cv3a := (bv3.alloc (.cells #[.float .f64 (FloatKind.f64.nearest (Mn.wl x.1 x.2.1))] 43)).cell; dsimp only
              refine hK _ _ ?_; clear hK K
              refine wpAnyIn_ready (rs := [4]) (by kernel_rfl) (by simp) ?_
              refine AllReadyIn.cons rfl (fun K hK => ?_) ?_
              · go_simp
                refine hK _ _ ?_; clear hK K
                refine wpAnyIn_ready (rs := [5]) (by kernel_rfl) (by simp) ?_
                refine AllReadyIn.cons rfl (fun K hK => ?_) ?_
                · refine stepIn_append_own rfl (.tmp 15) (.tmp 19) 53 rfl w1.heap.size 43 i0 (.float .f64 0) 1 8 Try.underlying53 hi hz0 hz1 hz2 rfl (by decide) _ _ _ rfl (hrow3.alloc _) ⟨w3.heap.size, 0, none⟩ 1 1 [.float .f64 (FloatKind.f64.nearest (Mn.wl x.1 x.2.1))] rfl rfl (cell_one_new _ _ _) (by simp [Value.oneCell']) (by unfold maxLen; omega) (by omega) (by have := hB.size; have := D3.size; simp; omega) ?_; intro v' w4 hown' hgrow; obtain ⟨g', cap', rfl⟩ := ownsRow_succ hown'; obtain ⟨hv1, hv2, hr2, hk2, hb2⟩ := bv3.appended (by decide) hrow3 (Nat.le_trans hB.size D3.size) (Nat.le_refl _) hown' hgrow; have kS4 := ((kS3.alloc _).kept hgrow (kS3.not_row (by decide) hrow3)).other (B' := w1.heap.size) (by omega) (.slice (some ⟨g', 0, none⟩) (pre.length + 1) cap'); have hc1 := hv1.cell; have hf1 := hv1.frozen; have fin1 := (KeepsOthers.of_grownBy (grown_below D3 none) (fun j o e => by cases e)).trans hk2; have fin2 := (D3.mono hB.size).trans hb2; have hr3 : (w4.setCell ⟨w1.heap.size, 0, none⟩ (.slice (some ⟨g', 0, none⟩) (pre.length + 1) cap')).ownsRow w1.heap.size 43 1 (.slice (some ⟨g', 0, none⟩) (pre.length + 1) cap') (pre ++ [x]).length (flc (Mn.lens (pre ++ [x]))) := by simpa [flc, Mn.lens, Mn.lw] using hr2
                  refine hK _ _ ?_; clear hK K
                  refine wpAnyIn_ready (rs := [6]) (by kernel_rfl) (by simp) ?_
                  refine AllReadyIn.cons rfl (fun K hK => ?_) ?_
                  · go_simp
                    refine hK _ _ ?_; clear hK K
                    refine wpAnyIn_done (by kernel_rfl) ?_ _
                    exact ⟨fin1.from _, ⟨fin2, kS4.trans kS.symm⟩, ⟨⟨_, hv2, hr3, trivial⟩, kS4⟩, hB.trans fin2⟩
                  exact AllReadyIn.nil
                exact AllReadyIn.nil
              exact AllReadyIn.nil
            exact AllReadyIn.nil
          refine AllReadyIn.cons rfl (fun K hK => ?_) ?_
          · go_simp; refine ⟨trivial, (CallsIn.inRound l' (callsIn_wide.2 (long_mean.length x.1 x.2.1 _))).mono ?_⟩; rintro e w3 ⟨rfl, b3⟩; have D3 : Below W.heap.size W w3 := ((Below.refl W.heap.size W).drew).trans b3; have bv3 := boxed_on bv D3; have hrow3 := own_on hrow D3; have cv3 := bv3.cell; have kS3 := kS.on D3; have cv3a := (bv3.alloc (.cells #[.float .f64 (FloatKind.f64.nearest (Mn.wl x.1 x.2.1))] 43)).cell; dsimp only
            refine hK _ _ ?_; clear hK K
            refine wpAnyIn_ready (rs := [0, 4]) (by kernel_rfl) (by simp) ?_
            refine AllReadyIn.cons rfl (fun K hK => ?_) ?_
            · go_simp
              refine hK _ _ ?_; clear hK K
              refine wpAnyIn_ready (rs := [4]) (by kernel_rfl) (by simp) ?_
              refine AllReadyIn.cons rfl (fun K hK => ?_) ?_
              · go_simp
                refine hK _ _ ?_; clear hK K
                refine wpAnyIn_ready (rs := [5]) (by kernel_rfl) (by simp) ?_
                refine AllReadyIn.cons rfl (fun K hK => ?_) ?_
                · refine stepIn_append_own rfl (.tmp 15) (.tmp 19) 53 rfl w1.heap.size 43 i0 (.float .f64 0) 1 8 Try.underlying53 hi hz0 hz1 hz2 rfl (by decide) _ _ _ rfl (hrow3.alloc _) ⟨w3.heap.size, 0, none⟩ 1 1 [.float .f64 (FloatKind.f64.nearest (Mn.wl x.1 x.2.1))] rfl rfl (cell_one_new _ _ _) (by simp [Value.oneCell']) (by unfold maxLen; omega) (by omega) (by have := hB.size; have := D3.size; simp; omega) ?_; intro v' w4 hown' hgrow; obtain ⟨g', cap', rfl⟩ := ownsRow_succ hown'; obtain ⟨hv1, hv2, hr2, hk2, hb2⟩ := bv3.appended (by decide) hrow3 (Nat.le_trans hB.size D3.size) (Nat.le_refl _) hown' hgrow; have kS4 := ((kS3.alloc _).kept hgrow (kS3.not_row (by decide) hrow3)).other (B' := w1.heap.size) (by omega) (.slice (some ⟨g', 0, none⟩) (pre.length + 1) cap'); have hc1 := hv1.cell; have hf1 := hv1.frozen; have fin1 := (KeepsOthers.of_grownBy (grown_below D3 none) (fun j o e => by cases e)).trans hk2; have fin2 := (D3.mono hB.size).trans hb2; have hr3 : (w4.setCell ⟨w1.heap.size, 0, none⟩ (.slice (some ⟨g', 0, none⟩) (pre.length + 1) cap')).ownsRow w1.heap.size 43 1 (.slice (some ⟨g', 0, none⟩) (pre.length + 1) cap') (pre ++ [x]).length (flc (Mn.lens (pre ++ [x]))) := by simpa [flc, Mn.lens, Mn.lw] using hr2
                  refine hK _ _ ?_; clear hK K
                  refine wpAnyIn_ready (rs := [6]) (by kernel_rfl) (by simp) ?_
                  refine AllReadyIn.cons rfl (fun K hK => ?_) ?_
                  · go_simp
                    refine hK _ _ ?_; clear hK K
                    refine wpAnyIn_done (by kernel_rfl) ?_ _
                    exact ⟨fin1.from _, ⟨fin2, kS4.trans kS.symm⟩, ⟨⟨_, hv2, hr3, trivial⟩, kS4⟩, hB.trans fin2⟩
                  exact AllReadyIn.nil
                exact AllReadyIn.nil
              exact AllReadyIn.nil
            refine AllReadyIn.cons rfl (fun K hK => ?_) ?_
            · go_simp
              refine hK _ _ ?_; clear hK K
              refine wpAnyIn_ready (rs := [0]) (by kernel_rfl) (by simp) ?_
              refine AllReadyIn.cons rfl (fun K hK => ?_) ?_
              · go_simp
                refine hK _ _ ?_; clear hK K
                refine wpAnyIn_ready (rs := [5]) (by kernel_rfl) (by simp) ?_
                refine AllReadyIn.cons rfl (fun K hK => ?_) ?_
                · refine stepIn_append_own rfl (.tmp 15) (.tmp 19) 53 rfl w1.heap.size 43 i0 (.float .f64 0) 1 8 Try.underlying53 hi hz0 hz1 hz2 rfl (by decide) _ _ _ rfl (hrow3.alloc _) ⟨w3.heap.size, 0, none⟩ 1 1 [.float .f64 (FloatKind.f64.nearest (Mn.wl x.1 x.2.1))] rfl rfl (cell_one_new _ _ _) (by simp [Value.oneCell']) (by unfold maxLen; omega) (by omega) (by have := hB.size; have := D3.size; simp; omega) ?_; intro v' w4 hown' hgrow; obtain ⟨g', cap', rfl⟩ := ownsRow_succ hown'; obtain ⟨hv1, hv2, hr2, hk2, hb2⟩ := bv3.appended (by decide) hrow3 (Nat.le_trans hB.size D3.size) (Nat.le_refl _) hown' hgrow; have kS4 := ((kS3.alloc _).kept hgrow (kS3.not_row (by decide) hrow3)).other (B' := w1.heap.size) (by omega) (.slice (some ⟨g', 0, none⟩) (pre.length + 1) cap'); have hc1 := hv1.cell; have hf1 := hv1.frozen; have fin1 := (KeepsOthers.of_grownBy (grown_below D3 none) (fun j o e => by cases e)).trans hk2; have fin2 := (D3.mono hB.size).trans hb2; have hr3 : (w4.setCell ⟨w1.heap.size, 0, none⟩ (.slice (some ⟨g', 0, none⟩) (pre.length + 1) cap')).ownsRow w1.heap.size 43 1 (.slice (some ⟨g', 0, none⟩) (pre.length + 1) cap') (pre ++ [x]).length (flc (Mn.lens (pre ++ [x]))) := by simpa [flc, Mn.lens, Mn.lw] using hr2
                  refine hK _ _ ?_; clear hK K
                  refine wpAnyIn_ready (rs := [6]) (by kernel_rfl) (by simp) ?_
                  refine AllReadyIn.cons rfl (fun K hK => ?_) ?_
                  · go_simp
                    refine hK _ _ ?_; clear hK K
                    refine wpAnyIn_done (by kernel_rfl) ?_ _
                    exact ⟨fin1.from _, ⟨fin2, kS4.trans kS.symm⟩, ⟨⟨_, hv2, hr3, trivial⟩, kS4⟩, hB.trans fin2⟩
                  exact AllReadyIn.nil
                exact AllReadyIn.nil
              exact AllReadyIn.nil
            exact AllReadyIn.nil
          exact AllReadyIn.nil
        exact AllReadyIn.nil
      exact AllReadyIn.nil
    case done =>
      rintro D ys W hD rfl ⟨⟨⟨v, bv, hrow, -⟩, kS⟩, hB⟩ hK
      have cv := bv.cell
      obtain ⟨A', c', rfl, hF, h1, h2⟩ := own_fl hrow (by unfold Mn.lens; rw [List.length_map])
      gi_wp2_with fail
      refine ⟨trivial, (callsIn_wide.2 (sum_all A' _ c' _ W hF h1 h2 (Mn.lens_lt _))).mono ?_⟩
      rintro e w3 ⟨z, hz, rfl, k, rfl⟩
      gi_wp2
      refine ⟨by simp, .inl ⟨_, _, rfl, run_takeDeferred (show (W.drewN k).heap[D]? = _ from hK), ?_⟩⟩
      exact ⟨_, results_tmp2 rfl _ _ _, z, hz, rfl, B1.trans (((hB.trans (below_draw W k)).trans (belowK_b (w := w1) (Nat.le_refl _) (W.drewN k) D _ (.deferred none) (by have := B0.size; omega) hK rfl rfl)).mono B1.size)⟩
    case stop =>
      rintro D c pre W _ _ h _
      exact h.elim
end Go.Proofs.Ytnfjdjfajkdiiaa
