/- TopMeasure: the walk. -/
import Derived.Test.YtnfjdjfajkdiiaaTm
import Derived.Test.YtnfjdjfajkdiiaaMnE
import Derived.Test.YtnfjdjfajkdiiaaMnG1
import Derived.Test.YtnfjdjfajkdiiaaPairF
import Derived.Test.YtnfjdjfajkdiiaaSsRG
import Derived.Deep.CutRange
import Derived.BigRegion
import Derived.Deep.DeepCutAuto
set_option linter.unusedVariables false
set_option linter.unusedSimpArgs false
namespace Go.Proofs.Ytnfjdjfajkdiiaa
open Go.RowKit Go.Sort Go.Shelf Go.Pairs

namespace Ss
def Is2 (kf : Bool → Bool → Bool) (a b l : List S) : Prop := Rs l ∧ (∀ t, inl l t = kf (inl a t) (inl b t)) ∧ l.length ≤ 2 * (a.length + b.length)
end Ss
theorem ckC {W W' : World} {a : Addr} {v : Value} (k : Below W.heap.size W W') (h : W.cell? a = some v) : W'.cell? a = some v := (k.cell (World.block_lt_of_cell? _ _ h)).trans h
theorem keepM {w W W' : World} {va : Value} {a : List Ss.S} {a0 a1 : Addr} {v0 v1 : Value} (k : Below W.heap.size W W') (h : Below w.heap.size w W ∧ SpV W va a ∧ W.cell? a0 = some v0 ∧ W.cell? a1 = some v1) :
    Below w.heap.size w W' ∧ SpV W' va a ∧ W'.cell? a0 = some v0 ∧ W'.cell? a1 = some v1 := ⟨below_step h.1 k, h.2.1.on k, ckC k h.2.2.1, ckC k h.2.2.2⟩
theorem spv_two (w : World) (a b c d : Int) : SpV (w.alloc (.cells #[.int .i64 a, .int .i64 b, .int .i64 c, .int .i64 d] 24)) (.slice (some ⟨w.heap.size, 0, none⟩) 2 2) [(a, b), (c, d)] := by
  refine ⟨_, _, rfl, fun _ => ⟨_, rfl, by simp, ?_⟩⟩
  intro j u hu
  have k := Blk.new w 24 #[.int .i64 a, .int .i64 b, .int .i64 c, .int .i64 d]
  rw [add_off]
  have : (w.alloc (.cells #[.int .i64 a, .int .i64 b, .int .i64 c, .int .i64 d] 24)).heap[w.heap.size]? = _ := k
  unfold World.cell?
  rw [this]
  simpa [spc] using hu
/-- A list without its first one. -/
theorem tail_spv {w : World} {a : Addr} {n c : Nat} {x : Ss.S} {l : List Ss.S} (hn : l.length = n) (h : SpV w (.slice (some a) (n + 1) c) (x :: l)) (hc : n + 1 ≤ c) :
    ∃ A', (∀ W, (Instr.slice 22 (.slice (some a) (n + 1) c) (some (.int .i64 1)) none none).run Try.prog W = .ok (.slice A' n (c - 1)) W) ∧ SpV w (.slice A' n (c - 1)) l ∧ n ≤ c - 1 := by
  refine ⟨if c = 1 then some a else some (a.add 2), fun W => ?_, ?_, by omega⟩
  · have e1 := run_slice_l (P := Try.prog) (w := W) 22 (some a) (n + 1) c (by kernel_rfl) .i64 1 (by omega) (by omega)
    rw [e1]
    have e2 : (sizeOf (Try.prog.elem 22)).run Try.prog W = .ok 2 W := by kernel_rfl
    rw [e2]
    simp only [Result.andThen, sliced]
    simp
  · by_cases h1 : c = 1
    · rw [if_pos h1]
      have : n = 0 := by omega
      subst this
      have hl : l = [] := List.eq_nil_of_length_eq_zero hn
      subst hl
      exact ⟨_, _, rfl, fun h => absurd h (by simp)⟩
    · rw [if_neg h1]
      obtain ⟨A, c', hv, ha⟩ := h
      obtain ⟨a', e, hb, hcell⟩ := ha (by simp)
      cases hv
      cases e
      refine ⟨some (a.add 2), c - 1, by rw [hn], fun hp => ⟨a.add 2, rfl, by rw [blk_add]; exact hb, fun j u hu => ?_⟩⟩
      rw [add_two]
      refine hcell (2 + j) u ?_
      show (spc (x :: l))[2 + j]? = some u
      have e0 : spc (x :: l) = .int .i64 x.1 :: .int .i64 x.2 :: spc l := rfl
      rw [e0, show 2 + j = j + 1 + 1 by omega]
      simpa using hu
def lenV : Value → Nat
  | .slice _ n _ => n
  | _ => 0
set_option maxRecDepth 100000 in
set_option maxHeartbeats 8000000 in
theorem topMeasure_any (va : Value) (l : List Ss.S) (s0 s1 : Int) (w : World) (h : SpV w va l) (hs0 : -9223372036854775808 ≤ s0 ∧ s0 ≤ 9223372036854775807) (hs1 : -9223372036854775808 ≤ s1 ∧ s1 ≤ 9223372036854775807) :
    Calls Try.prog 6 #[va, .agg #[.int .i64 s0, .int .i64 s1]] w fun e w' => e = .returned (.bool true) ∧ Below w.heap.size w w' := by
  obtain ⟨A, c, rfl, -⟩ := id h
  obtain ⟨i0, hi, hz0, hz1, hz2⟩ := info_parts info_part
  have bw : Below w.heap.size w (w.alloc (.cells #[.int .i64 s0, .int .i64 s1] 24)) := (Below.refl _ _).alloc (Nat.le_refl _) _
  have KS0 := Lib.hid (Blk.new w 24 #[.int .i64 s0, .int .i64 s1])
  have b1 : Below w.heap.size w ((w.alloc (.cells #[.int .i64 s0, .int .i64 s1] 24)).alloc (.cells #[.int .i64 0, .int .i64 3, .int .i64 3, .int .i64 5] 24)) := bw.alloc bw.size _
  have S1 := Lib.hid (spv_two (w.alloc (.cells #[.int .i64 s0, .int .i64 s1] 24)) 0 3 3 5)
  have KS1 := Lib.hid (KS0.out.alloc (.cells #[.int .i64 0, .int .i64 3, .int .i64 3, .int .i64 5] 24))
  have HA1 := Lib.hid (h.on b1); have B1 := Lib.hid b1
  have HS := Lib.hid (And.intro hs0 hs1)
  have e9 : (w.alloc (.cells #[.int .i64 s0, .int .i64 s1] 24)).heap.size = w.heap.size + 1 := by simp
  rw [e9] at S1
  clear h bw b1 KS0 hs0 hs1 e9
  go_enter Try.func6, Try.ntmps6
  go_wp2_with fail
  refine (spans_of _ [(0, 3), (3, 5)] _ S1.out (by decide)).mono ?_
  rintro e w2 ⟨v, l2, rfl, h1, h2, h3, -, bw⟩
  obtain rfl : l2 = [(0, 5)] := Ss.rs_lit h2 (by decide) (fun t => by rw [h3 t, Bool.eq_iff_iff]; simp [Ss.inl, Sp.hs]; omega)
  obtain ⟨A2, c2, hv, -⟩ := h1
  subst hv
  have HA2 := Lib.hid (HA1.out.on bw); have KS2 := Lib.hid (KS1.out.on bw); have B2 := Lib.hid (below_step B1.out bw)
  clear HA1 KS1 B1 h2 h3 bw S1
  obtain ⟨g, hg⟩ : ∃ g, w.heap.size = g := ⟨_, rfl⟩
  rw [hg] at KS2 ⊢
  clear hg
  have c0 := KS2.out.c0; have c1 := KS2.out.c1
  simp only [List.length_cons, List.length_nil]
  go_wp2_with fail
  clear c0 c1
  refine (span_len s0 s1 _ HS.out.1.1 HS.out.1.2 HS.out.2.1 HS.out.2.2).mono ?_
  rintro e w3 ⟨rfl, bw⟩
  have HA3 := Lib.hid (HA2.out.on bw); have KS3 := Lib.hid (KS2.out.on bw); have B3 := Lib.hid (below_step B2.out bw)
  clear HA2 KS2 B2 bw
  by_cases hl : (40 : Int) < l.length
  · generalize Sp.ln s0 s1 = q1
    generalize Sp.lw s0 s1 = q2
    go_wp2
    go_ret
    exact ⟨rfl, B3.out⟩
  by_cases hr : s0 < s1 ∧ s1 - s0 ≤ 9223372036854775807
  · have e1 : Sp.ln s0 s1 = s1 - s0 := by unfold Sp.ln Sp.rb Nm.okv; rw [decide_eq_true hr.1, if_pos rfl, if_pos (Nm.fits_true.2 ⟨by omega, hr.2⟩)]
    have e2 : Sp.lw s0 s1 = 0 := by unfold Sp.lw Sp.rb Nm.okw; rw [decide_eq_true hr.1, if_pos rfl, if_pos (Nm.fits_true.2 ⟨by omega, hr.2⟩)]
    rw [e1, e2]
    obtain ⟨n, hn⟩ : ∃ n, s1 - s0 = n := ⟨_, rfl⟩
    have HN := Lib.hid hn
    have HR := Lib.hid hr
    rw [hn]
    clear e1 e2 hr hn
    by_cases hbig : 1125899906842624 < n
    · go_wp2
      go_ret
      exact ⟨rfl, B3.out⟩
    · have HB := Lib.hid hbig
      have LA := Lib.hid (show l.length ≤ 1000 by omega)
      have CC := Lib.hid (show (fun W => Below w3.heap.size w3 W ∧ SpV W (.slice A l.length c) l ∧ W.cell? ⟨g, 0, none⟩ = some (.int .i64 s0) ∧ W.cell? ⟨g, 1, none⟩ = some (.int .i64 s1)) w3 from ⟨Below.refl _ _, HA3.out, KS3.out.c0, KS3.out.c1⟩)
      go_upto_region 7 with (fail)
      go_cut [8, 9] from 39 to 46 (fun vi vo wx => Below w3.heap.size w3 wx ∧ (fun v W => ∃ x : Option Addr × Nat × List Ss.S, v = .slice x.1 x.2.2.length x.2.1 ∧ SpV W (.slice x.1 x.2.2.length x.2.1) x.2.2 ∧ Ss.Is2 (fun x y => x && y) l [(s0, s1)] x.2.2 ∧ x.2.2.length ≤ x.2.1) vi wx ∧ (fun v W => ∃ x : Option Addr × Nat × List Ss.S, v = .slice x.1 x.2.2.length x.2.1 ∧ SpV W (.slice x.1 x.2.2.length x.2.1) x.2.2 ∧ Ss.Is2 (fun x y => x && !y) [(s0, s1)] l x.2.2 ∧ x.2.2.length ≤ x.2.1) vo wx)
      case first =>
        rename_i J0 K0 hJ hK
        refine wp_region_pairs (C := fun W => Below w3.heap.size w3 W ∧ SpV W (.slice A l.length c) l ∧ W.cell? ⟨g, 0, none⟩ = some (.int .i64 s0) ∧ W.cell? ⟨g, 1, none⟩ = some (.int .i64 s1)) (R := markR [(fun v _ => v = Value.slice A l.length c), (fun v _ => v = Value.agg #[Value.int IntKind.i64 s0, Value.int IntKind.i64 s1]), (fun v W => ∃ x : Nat, v = .slice (some ⟨x, 0, none⟩) 1 1 ∧ SpV W (.slice (some ⟨x, 0, none⟩) 1 1) [(s0, s1)]), (fun v W => ∃ x : Option Addr × Nat × List Ss.S, v = .slice x.1 x.2.2.length x.2.1 ∧ SpV W (.slice x.1 x.2.2.length x.2.1) x.2.2 ∧ Ss.Is2 (fun x y => x && y) l [(s0, s1)] x.2.2 ∧ x.2.2.length ≤ x.2.1), (fun v _ => v = Value.slice A l.length c), (fun v _ => v = Value.agg #[Value.int IntKind.i64 s0, Value.int IntKind.i64 s1]), (fun v W => ∃ x : Option Addr × Nat × List Ss.S, v = .slice x.1 x.2.2.length x.2.1 ∧ SpV W (.slice x.1 x.2.2.length x.2.1) x.2.2 ∧ Ss.Is2 (fun x y => x && !y) [(s0, s1)] l x.2.2 ∧ x.2.2.length ≤ x.2.1), (fun v W => ∃ x : Option Addr × Nat × List Ss.S, v = .slice x.1 x.2.2.length x.2.1 ∧ SpV W (.slice x.1 x.2.2.length x.2.1) x.2.2 ∧ Ss.Is2 (fun x y => x && y) l [(s0, s1)] x.2.2 ∧ x.2.2.length ≤ x.2.1), (fun v W => ∃ x : Option Addr × Nat × List Ss.S, v = .slice x.1 x.2.2.length x.2.1 ∧ SpV W (.slice x.1 x.2.2.length x.2.1) x.2.2 ∧ Ss.Is2 (fun x y => x && !y) [(s0, s1)] l x.2.2 ∧ x.2.2.length ≤ x.2.1)]) (G := fun W W' => Below W.heap.size W W') (by rfl) ?hbeg ⟨by kernel_rfl, by kernel_rfl, by kernel_rfl, ?hkeep, ?hstab, Obs.all ?hobs, ?hlast⟩
        case hbeg =>
          try dsimp only
          exact keepM ((Below.refl _ _).drew) CC.out
        case hkeep =>
          intro w' w'' hC hG
          try dsimp only at hC hG ⊢
          exact keepM hG hC
        case hstab =>
          refine StableL.all ?_
          repeat (first | exact trivial | refine ⟨(by first | exact (fun _ _ _ _ h => h) | (exact fun v W W' hG h => by obtain ⟨u, hv, hs⟩ := h; first | exact ⟨u, hv, hs.on hG⟩ | exact ⟨u, hv, hs.1.on hG, hs.2⟩)), ?_⟩)
        case hobs =>
          refine Obs.cons (k' := 1) rfl ?_ ?_
          · intro fa W hW hSame hRR KK hKK
            try dsimp only at hW
            have fb0 := hSame.base 0 (by kernel_rfl)
            simp only [List.getElem?_toArray, List.getElem?_cons_succ, List.getElem?_cons_zero] at fb0
            replace hKK : ∀ v w', Go.RowKit.Below W.heap.size W w' → v = Value.slice A l.length c → KK (Act.put fa _ v) w' := fun v w' h1 h2 => hKK v w' h1 h2
            clear hSame hRR
            rw [if_pos (wanted_plain rfl)]
            go_simp
            refine hKK _ _ ?_ ?_
            · first | exact Below.refl _ _ | exact (Below.refl _ _).alloc (Nat.le_refl _) _ | exact below_draw _ _ | assumption
            · exact rfl
          refine Obs.cons (k' := 2) rfl ?_ ?_
          · intro fa W hW hSame hRR KK hKK
            try dsimp only at hW
            have fb3 := hSame.base 3 (by kernel_rfl)
            simp only [List.getElem?_toArray, List.getElem?_cons_succ, List.getElem?_cons_zero] at fb3
            replace hKK : ∀ v w', Go.RowKit.Below W.heap.size W w' → v = Value.agg #[Value.int IntKind.i64 s0, Value.int IntKind.i64 s1] → KK (Act.put fa _ v) w' := fun v w' h1 h2 => hKK v w' h1 h2
            clear hSame hRR
            rw [if_pos (wanted_plain rfl)]
            go_simp
            refine hKK _ _ ?_ ?_
            · first | exact Below.refl _ _ | exact (Below.refl _ _).alloc (Nat.le_refl _) _ | exact below_draw _ _ | assumption
            · exact rfl
          refine Obs.cons (k' := 3) rfl ?_ ?_
          · intro fa W hW hSame hRR KK hKK
            try dsimp only at hW
            obtain ⟨fv1, ft1, fm1⟩ := hRR 1 _ 40 rfl rfl (by kernel_rfl)
            replace fm1 : fv1 = Value.agg #[Value.int IntKind.i64 s0, Value.int IntKind.i64 s1] := fm1
            subst fm1
            replace hKK : ∀ v w', Go.RowKit.Below W.heap.size W w' → (fun v W => ∃ x : Nat, v = .slice (some ⟨x, 0, none⟩) 1 1 ∧ SpV W (.slice (some ⟨x, 0, none⟩) 1 1) [(s0, s1)]) v w' → KK (Act.put fa _ v) w' := fun v w' h1 h2 => hKK v w' h1 h2
            clear hSame hRR
            rw [if_pos (wanted_plain rfl)]
            go_simp
            refine hKK _ _ ?_ ?_
            · first | exact Below.refl _ _ | exact (Below.refl _ _).alloc (Nat.le_refl _) _ | exact below_draw _ _ | assumption
            · try dsimp only
              first | exact trivial | exact rfl | (first | exact ⟨_, rfl, spv_one _ s0 s1⟩ | exact ⟨(_, _, _), rfl, hv, hr, h6 _ _ _ rfl⟩ | exact ⟨_, rfl, fm3⟩ | exact ⟨_, rfl, fm6⟩)
          refine Obs.cons (k' := 4) rfl ?_ ?_
          · intro fa W hW hSame hRR KK hKK
            try dsimp only at hW
            obtain ⟨fv0, ft0, fm0⟩ := hRR 0 _ 39 rfl rfl (by kernel_rfl)
            replace fm0 : fv0 = Value.slice A l.length c := fm0
            subst fm0
            obtain ⟨fv2, ft2, fm2⟩ := hRR 2 _ 41 rfl rfl (by kernel_rfl)
            replace fm2 : (fun v W => ∃ x : Nat, v = .slice (some ⟨x, 0, none⟩) 1 1 ∧ SpV W (.slice (some ⟨x, 0, none⟩) 1 1) [(s0, s1)]) fv2 W := fm2
            try dsimp only at fm2
            first | subst fm2 | obtain ⟨_, rfl, fm2⟩ := fm2
            replace hKK : ∀ v w', Go.RowKit.Below W.heap.size W w' → (fun v W => ∃ x : Option Addr × Nat × List Ss.S, v = .slice x.1 x.2.2.length x.2.1 ∧ SpV W (.slice x.1 x.2.2.length x.2.1) x.2.2 ∧ Ss.Is2 (fun x y => x && y) l [(s0, s1)] x.2.2 ∧ x.2.2.length ≤ x.2.1) v w' → KK (Act.put fa _ v) w' := fun v w' h1 h2 => hKK v w' h1 h2
            clear hSame hRR
            rw [if_pos (wanted_plain rfl)]
            go_simp
            first
                    | (go_at_call 19; refine (spansc_and _ _ l [(s0, s1)] _ hW.2.1 fm2 LA.out (by simp)).mono ?_; rintro e w' ⟨v, l, rfl, hv, h2, h3, h4, hb, h6⟩; obtain ⟨A', c', rfl, -⟩ := id hv; have hr : Ss.Is2 (fun x y => x && y) _ [(s0, s1)] l := ⟨h2, h3, h4⟩)
                    | (go_at_call 23; refine (spansc_gaps _ l s0 s1 _ hW.2.1 LA.out).mono ?_; rintro e w' ⟨v, l, rfl, hv, h2, h3, h4, hb, h6⟩; obtain ⟨A', c', rfl, -⟩ := id hv; have hr : Ss.Is2 (fun x y => x && !y) [(s0, s1)] _ l := ⟨h2, h3, h4⟩)
            try dsimp only
            refine hKK _ _ ?_ ?_
            · first | exact Below.refl _ _ | exact (Below.refl _ _).alloc (Nat.le_refl _) _ | exact below_draw _ _ | assumption
            · try dsimp only
              first | exact trivial | exact rfl | (first | exact ⟨_, rfl, spv_one _ s0 s1⟩ | exact ⟨(_, _, _), rfl, hv, hr, h6 _ _ _ rfl⟩ | exact ⟨_, rfl, fm3⟩ | exact ⟨_, rfl, fm6⟩)
          refine Obs.cons (k' := 5) rfl ?_ ?_
          · intro fa W hW hSame hRR KK hKK
            try dsimp only at hW
            have fb0 := hSame.base 0 (by kernel_rfl)
            simp only [List.getElem?_toArray, List.getElem?_cons_succ, List.getElem?_cons_zero] at fb0
            replace hKK : ∀ v w', Go.RowKit.Below W.heap.size W w' → v = Value.slice A l.length c → KK (Act.put fa _ v) w' := fun v w' h1 h2 => hKK v w' h1 h2
            clear hSame hRR
            rw [if_pos (wanted_plain rfl)]
            go_simp
            refine hKK _ _ ?_ ?_
            · first | exact Below.refl _ _ | exact (Below.refl _ _).alloc (Nat.le_refl _) _ | exact below_draw _ _ | assumption
            · exact rfl
          refine Obs.cons (k' := 6) rfl ?_ ?_
          · intro fa W hW hSame hRR KK hKK
            try dsimp only at hW
            have fb3 := hSame.base 3 (by kernel_rfl)
            simp only [List.getElem?_toArray, List.getElem?_cons_succ, List.getElem?_cons_zero] at fb3
            replace hKK : ∀ v w', Go.RowKit.Below W.heap.size W w' → v = Value.agg #[Value.int IntKind.i64 s0, Value.int IntKind.i64 s1] → KK (Act.put fa _ v) w' := fun v w' h1 h2 => hKK v w' h1 h2
            clear hSame hRR
            rw [if_pos (wanted_plain rfl)]
            go_simp
            refine hKK _ _ ?_ ?_
            · first | exact Below.refl _ _ | exact (Below.refl _ _).alloc (Nat.le_refl _) _ | exact below_draw _ _ | assumption
            · exact rfl
          refine Obs.cons (k' := 7) rfl ?_ ?_
          · intro fa W hW hSame hRR KK hKK
            try dsimp only at hW
            obtain ⟨fv4, ft4, fm4⟩ := hRR 4 _ 43 rfl rfl (by kernel_rfl)
            replace fm4 : fv4 = Value.slice A l.length c := fm4
            subst fm4
            obtain ⟨fv5, ft5, fm5⟩ := hRR 5 _ 44 rfl rfl (by kernel_rfl)
            replace fm5 : fv5 = Value.agg #[Value.int IntKind.i64 s0, Value.int IntKind.i64 s1] := fm5
            subst fm5
            replace hKK : ∀ v w', Go.RowKit.Below W.heap.size W w' → (fun v W => ∃ x : Option Addr × Nat × List Ss.S, v = .slice x.1 x.2.2.length x.2.1 ∧ SpV W (.slice x.1 x.2.2.length x.2.1) x.2.2 ∧ Ss.Is2 (fun x y => x && !y) [(s0, s1)] l x.2.2 ∧ x.2.2.length ≤ x.2.1) v w' → KK (Act.put fa _ v) w' := fun v w' h1 h2 => hKK v w' h1 h2
            clear hSame hRR
            rw [if_pos (wanted_plain rfl)]
            go_simp
            first
                    | (go_at_call 19; refine (spansc_and _ _ l [(s0, s1)] _ hW.2.1 fm2 LA.out (by simp)).mono ?_; rintro e w' ⟨v, l, rfl, hv, h2, h3, h4, hb, h6⟩; obtain ⟨A', c', rfl, -⟩ := id hv; have hr : Ss.Is2 (fun x y => x && y) _ [(s0, s1)] l := ⟨h2, h3, h4⟩)
                    | (go_at_call 23; refine (spansc_gaps _ l s0 s1 _ hW.2.1 LA.out).mono ?_; rintro e w' ⟨v, l, rfl, hv, h2, h3, h4, hb, h6⟩; obtain ⟨A', c', rfl, -⟩ := id hv; have hr : Ss.Is2 (fun x y => x && !y) [(s0, s1)] _ l := ⟨h2, h3, h4⟩)
            try dsimp only
            refine hKK _ _ ?_ ?_
            · first | exact Below.refl _ _ | exact (Below.refl _ _).alloc (Nat.le_refl _) _ | exact below_draw _ _ | assumption
            · try dsimp only
              first | exact trivial | exact rfl | (first | exact ⟨_, rfl, spv_one _ s0 s1⟩ | exact ⟨(_, _, _), rfl, hv, hr, h6 _ _ _ rfl⟩ | exact ⟨_, rfl, fm3⟩ | exact ⟨_, rfl, fm6⟩)
          refine Obs.cons (k' := 8) rfl ?_ ?_
          · intro fa W hW hSame hRR KK hKK
            try dsimp only at hW
            obtain ⟨fv3, ft3, fm3⟩ := hRR 3 _ 42 rfl rfl (by kernel_rfl)
            replace fm3 : (fun v W => ∃ x : Option Addr × Nat × List Ss.S, v = .slice x.1 x.2.2.length x.2.1 ∧ SpV W (.slice x.1 x.2.2.length x.2.1) x.2.2 ∧ Ss.Is2 (fun x y => x && y) l [(s0, s1)] x.2.2 ∧ x.2.2.length ≤ x.2.1) fv3 W := fm3
            try dsimp only at fm3
            first | subst fm3 | obtain ⟨_, rfl, fm3⟩ := fm3
            replace hKK : ∀ v w', Go.RowKit.Below W.heap.size W w' → (fun v W => ∃ x : Option Addr × Nat × List Ss.S, v = .slice x.1 x.2.2.length x.2.1 ∧ SpV W (.slice x.1 x.2.2.length x.2.1) x.2.2 ∧ Ss.Is2 (fun x y => x && y) l [(s0, s1)] x.2.2 ∧ x.2.2.length ≤ x.2.1) v w' → KK (Act.put fa _ v) w' := fun v w' h1 h2 => hKK v w' h1 h2
            clear hSame hRR
            rw [if_pos (wanted_plain rfl)]
            go_simp
            refine hKK _ _ ?_ ?_
            · first | exact Below.refl _ _ | exact (Below.refl _ _).alloc (Nat.le_refl _) _ | exact below_draw _ _ | assumption
            · try dsimp only
              first | exact trivial | exact rfl | (first | exact ⟨_, rfl, spv_one _ s0 s1⟩ | exact ⟨(_, _, _), rfl, hv, hr, h6 _ _ _ rfl⟩ | exact ⟨_, rfl, fm3⟩ | exact ⟨_, rfl, fm6⟩)
          refine Obs.cons (k' := 9) rfl ?_ ?_
          · intro fa W hW hSame hRR KK hKK
            try dsimp only at hW
            obtain ⟨fv6, ft6, fm6⟩ := hRR 6 _ 45 rfl rfl (by kernel_rfl)
            replace fm6 : (fun v W => ∃ x : Option Addr × Nat × List Ss.S, v = .slice x.1 x.2.2.length x.2.1 ∧ SpV W (.slice x.1 x.2.2.length x.2.1) x.2.2 ∧ Ss.Is2 (fun x y => x && !y) [(s0, s1)] l x.2.2 ∧ x.2.2.length ≤ x.2.1) fv6 W := fm6
            try dsimp only at fm6
            first | subst fm6 | obtain ⟨_, rfl, fm6⟩ := fm6
            replace hKK : ∀ v w', Go.RowKit.Below W.heap.size W w' → (fun v W => ∃ x : Option Addr × Nat × List Ss.S, v = .slice x.1 x.2.2.length x.2.1 ∧ SpV W (.slice x.1 x.2.2.length x.2.1) x.2.2 ∧ Ss.Is2 (fun x y => x && !y) [(s0, s1)] l x.2.2 ∧ x.2.2.length ≤ x.2.1) v w' → KK (Act.put fa _ v) w' := fun v w' h1 h2 => hKK v w' h1 h2
            clear hSame hRR
            rw [if_pos (wanted_plain rfl)]
            go_simp
            refine hKK _ _ ?_ ?_
            · first | exact Below.refl _ _ | exact (Below.refl _ _).alloc (Nat.le_refl _) _ | exact below_draw _ _ | assumption
            · try dsimp only
              first | exact trivial | exact rfl | (first | exact ⟨_, rfl, spv_one _ s0 s1⟩ | exact ⟨(_, _, _), rfl, hv, hr, h6 _ _ _ rfl⟩ | exact ⟨_, rfl, fm3⟩ | exact ⟨_, rfl, fm6⟩)
          exact Obs.nil
        case hlast =>
          intro fa W hW hSame hRR
          try dsimp only at hW
          obtain ⟨vo, ot, mo⟩ := hRR 7 _ 8 rfl rfl
          obtain ⟨vn, nt, mn⟩ := hRR 8 _ 9 rfl rfl
          refine hK _ _ (Met.intro (hJ _ _ ⟨fa.tmps.getD 8 undef, fa.tmps.getD 9 undef, fa.tmps.getD 39 undef, fa.tmps.getD 40 undef, fa.tmps.getD 41 undef, fa.tmps.getD 42 undef, fa.tmps.getD 43 undef, fa.tmps.getD 44 undef, fa.tmps.getD 45 undef, undef, ⟨hW.1, ?_, ?_⟩, hSame.fill.trans (by kernel_rfl)⟩))
          · rw [getD_of ot]; exact mo
          · rw [getD_of nt]; exact mn
      case rest =>
        obtain ⟨bw, ⟨⟨Ai, ci, li⟩, rfl, si, ii, zi⟩, ⟨⟨Ao, co, lo⟩, rfl, so, io, zo⟩⟩ := hcut
        dsimp only at si ii zi so io zo ⊢
        have HA4 := Lib.hid (HA3.out.on bw); have KS4 := Lib.hid (KS3.out.on bw); have B4 := Lib.hid (below_step B3.out bw)
        have II := Lib.hid ii; have IO := Lib.hid io
        have SI := Lib.hid (And.intro si zi); have SO := Lib.hid (And.intro so zo)
        have WI := Lib.hid (show ∀ x ∈ li, s0 ≤ x.1 ∧ x.1 < x.2 ∧ x.2 ≤ s1 from Tm.within ii.1 (fun t ht => by rw [ii.2.1 t, Bool.and_eq_true] at ht; exact ht.2))
        have WO := Lib.hid (show ∀ x ∈ lo, s0 ≤ x.1 ∧ x.1 < x.2 ∧ x.2 ≤ s1 from Tm.within io.1 (fun t ht => by rw [io.2.1 t, Bool.and_eq_true] at ht; exact ht.1))
        have DJ := Lib.hid (show Tm.Dj li lo from fun t ht => by have h1 := ht.1; have h2 := ht.2; rw [ii.2.1 t] at h1; rw [io.2.1 t] at h2; clear ht; cases hh : Ss.inl l t <;> rw [hh] at h1 h2 <;> simp at h1 h2)
        have LI := Lib.hid (show li.length ≤ 82 by have := ii.2.2; rw [List.length_singleton] at this; omega)
        have LO := Lib.hid (show lo.length ≤ 82 by have := io.2.2; rw [List.length_singleton] at this; omega)
        have LN := Lib.hid (show Ss.ln li + Ss.ln lo = n from by
          have e := Ss.ln_or ii.1 io.1 (o := [(s0, s1)]) (n := []) ⟨List.pairwise_singleton _ _, fun x hx => by rw [List.mem_singleton.1 hx]; exact HR.out.1⟩ ⟨List.Pairwise.nil, fun x hx => absurd hx (by simp)⟩ (fun t => by rw [ii.2.1 t, io.2.1 t]; cases Ss.inl l t <;> cases Ss.inl [(s0, s1)] t <;> rfl) (fun t => by rw [ii.2.1 t, io.2.1 t]; cases Ss.inl l t <;> cases Ss.inl [(s0, s1)] t <;> rfl)
          have := HN.out
          simp only [Ss.ln] at e; omega)
        clear HA3 KS3 B3 CC bw si zi so zo ii io
        obtain ⟨M, hM⟩ : ∃ M, Tm.mx li lo = M := ⟨_, rfl⟩
        have HM := Lib.hid hM
        have HM0 := Lib.hid (show ([] : List Mn.P) ++ Tm.mx li lo = M from hM)
        clear hM
        have O4 := Lib.hid (World.ownsRow_nil wc wc.heap.size 42 3)
        go_wp2_with fail
        go_loopw [8, 9, 10] (fun a b p wr => ∃ (Ai' Ao' : Option Addr) (ci' co' : Nat) (li' lo' : List Ss.S) (dn : List Mn.P), a = .slice Ai' li'.length ci' ∧ b = .slice Ao' lo'.length co' ∧ li'.length ≤ li.length ∧ lo'.length ≤ lo.length ∧ dn.length + li'.length + lo'.length = li.length + lo.length ∧ Hid (SpV wc (.slice Ai' li'.length ci') li' ∧ li'.length ≤ ci') ∧ Hid (SpV wc (.slice Ao' lo'.length co') lo' ∧ lo'.length ≤ co') ∧ Hid (dn ++ Tm.mx li' lo' = M) ∧ Hid (wr.ownsRow wc.heap.size 42 3 p dn.length (Mn.ptc dn)) ∧ Hid (Below wc.heap.size wc wr)) (fun a b _ _ => lenV a + lenV b)
        case atStart => exact ⟨Ai, Ao, ci, co, li, lo, [], rfl, rfl, Nat.le_refl _, Nat.le_refl _, by simp, SI, SO, HM0, O4, Lib.hid (Below.refl _ _)⟩
        case round =>
          rename World => w5
          obtain ⟨Ai', Ao', ci', co', li', lo', dn, rfl, rfl, q1, q2, q3, SI', SO', EM, O, D⟩ := hrel
          have hdl : dn.length ≤ 164 := by have := LI.out; have := LO.out; omega
          rcases li' with _ | ⟨x, li2⟩ <;> rcases lo' with _ | ⟨y, lo2⟩
          · -- the end
            have EM2 := EM.out
            rw [Tm.mx, List.append_nil] at EM2
            subst EM2
            have HA5 := Lib.hid (HA4.out.on D.out); have KS5 := Lib.hid (KS4.out.on D.out); have B5 := Lib.hid (below_step B4.out D.out)
            have PT5 := Lib.hid (PtV.own O.out)
            obtain ⟨Ap, cp, rfl⟩ := po_form O.out
            have F := Tm.mx_all li lo s0 s1 WI.out WO.out
            rw [HM.out] at F
            have FA := Lib.hid F.1
            have TT := Lib.hid (show Tm.tt dn = n by rw [F.2.2.1]; exact LN.out)
            have TW := Lib.hid (show Tm.tw dn = Ss.ln li from F.2.2.2)
            have RT := Lib.hid (show Mn.rt none dn = true by rw [← HM.out]; exact Tm.mx_rt li lo none II.out.1 IO.out.1 DJ.out (fun t ht => by cases ht))
            have LT := Lib.hid (show 0 ≤ Ss.ln li ∧ Ss.ln li ≤ n by have := Ss.ln_nn II.out.1; have := Ss.ln_nn IO.out.1; have := LN.out; omega)
            have BI := Lib.hid (show Ss.B64 li from fun x hx => by have := WI.out x hx; have := HS.out; omega)
            have N1 := Lib.hid (show 1 ≤ n by have := HR.out; have := HN.out; omega)
            have hdn : dn.length ≤ 1000000 := by omega
            have HDN := Lib.hid hdn
            have c0 := KS5.out.c0; have c1 := KS5.out.c1
            clear F HA4 KS4 B4 D O EM q1 q2 q3 SI' SO' hdl hdn SI SO WI WO DJ LI LO HM0 O4
            simp only [List.length_nil]
            go_wp2_with fail
            have bw : Below w5.heap.size w5 (w5.alloc (.cells #[.int .i64 s0, .int .i64 s1] 24)) := (Below.refl _ _).alloc (Nat.le_refl _) _
            refine (spans_and _ _ l [(s0, s1)] _ (HA5.out.on bw) (spv_one w5 s0 s1) LA.out (by simp)).mono ?_
            rintro e w6 ⟨v, l3, rfl, h1, h2, h3, h4, b2⟩
            obtain ⟨A3, c3, hv, -⟩ := id h1
            subst hv
            obtain rfl : li = l3 := (Ss.rs_ext _ _ h2 II.out.1 (fun u => by rw [h3 u, II.out.2.1 u])).symm
            have S6 := Lib.hid h1
            have KS6 := Lib.hid (KS5.out.on (below_step bw b2)); have B6 := Lib.hid (below_step B5.out (below_step bw b2)); have PT6 := Lib.hid (PT5.out.on (below_step bw b2))
            have L6 := Lib.hid (show li.length ≤ 1000 by rw [List.length_singleton] at h4; have := LA.out; omega)
            clear h1 h2 h3 h4 bw b2 HA5 KS5 B5 PT5 c0 c1
            go_wp2_with fail
            refine (total_any _ li _ S6.out L6.out BI.out).mono ?_
            rintro e w7 ⟨lt, r1, r2, rfl, bw⟩
            obtain rfl : li = lt := (Ss.rs_ext _ _ r1 II.out.1 r2).symm
            have ET : Ss.tot 0 li = (Ss.ln li, 0) := by
              rw [Ss.tot_eq li 0 (Int.le_refl _) II.out.1, Int.zero_add, if_pos (.inr (by have := LT.out; have := HB.out; omega))]
            rw [ET]
            have KS7 := Lib.hid (KS6.out.on bw); have B7 := Lib.hid (below_step B6.out bw); have PT7 := Lib.hid (PT6.out.on bw)
            clear r1 r2 bw KS6 B6 PT6 S6 ET
            obtain ⟨T, hT⟩ : ∃ T, Ss.ln li = T := ⟨_, rfl⟩
            rw [hT] at LT TW ⊢
            clear hT
            dsimp only
            have c0 := KS7.out.c0; have c1 := KS7.out.c1
            go_wp2_with fail
            refine (mmean_any _ dn s0 s1 _ PT7.out HDN.out).mono ?_
            rintro e w8 ⟨r, hr, rfl, bw⟩
            obtain ⟨m, hq, fm, hm0⟩ := Fl.quo_pos LT.out.1 LT.out.2 N1.out (by have := HB.out; omega)
            rw [RT.out, if_pos rfl, Tm.mean_01 dn s0 s1 HS.out.1.1 HS.out.2.2 FA.out n TT.out (by have := HB.out; omega), TW.out] at hr
            rw [RT.out, if_pos rfl]
            have em : Fl.cop .quo (FloatKind.f64.nearest T) (FloatKind.f64.nearest n) = m := by unfold Fl.cop; rw [hq]; rfl
            rw [em] at hr
            obtain rfl : m = r := by
              rcases hr.2 with e | ⟨_, e⟩
              · exact e.symm
              · rw [Fl.fin_nan fm] at e; cases e
            have B8 := Lib.hid (below_step B7.out bw)
            have hs := Fl.sub_self fm
            have g1 : (FloatKind.f64.format.order 0 4517329193108106637 == some Ordering.lt) = true := by decide +kernel
            have g2 : (FloatKind.f64.format.order 0 13740701229962882445 == some Ordering.gt) = true := by decide +kernel
            have g3 : (FloatKind.f64.format.order m 0 == some Ordering.eq) = (T == 0) := by
              rw [Fl.ord_eq fm (by unfold Fl.fin; decide), show Fl.V 0 = 0 by decide +kernel, Bool.eq_iff_iff]
              simp [hm0]
            have x1 := run_float_arith (P := Try.prog) w8 .quo 43 .f64 (floatOfInt FloatKind.f64 T) (floatOfInt FloatKind.f64 n) m hq
            have x2 := run_float_arith (P := Try.prog) w8 .sub 43 .f64 m m 0 hs
            clear hq hs
            clear hr em fm hm0 KS7 B7 PT7 bw c0 c1
            cases ht : (T == 0)
            · rw [ht] at g3
              go_wp2
              go_ret
              exact ⟨rfl, B8.out⟩
            · rw [ht] at g3
              go_wp2
              go_ret
              exact ⟨rfl, B8.out⟩
          · -- out alone
            have SA := Lib.hid SO'.out; have SB := Lib.hid SI'.out
            clear SI' SO'
            obtain ⟨ad, hA, hab, g1, g2⟩ := (SA.out.1.on D.out).get 0 (by simp)
            subst hA
            simp only [List.getElem_cons_zero, Nat.zero_mul, Addr.add_zero'] at g1 g2
            simp only [List.length_cons, List.length_nil] at SA SB q1 q2 q3 ⊢
            obtain ⟨n1, hn1⟩ : ∃ n1, lo2.length = n1 := ⟨_, rfl⟩
            have HN1 := Lib.hid hn1
            rw [hn1] at SA q3 ⊢
            try rw [hn1] at q1
            try rw [hn1] at q2
            obtain ⟨At, ht, sT, cT⟩ := tail_spv hn1 SA.out.1 SA.out.2
            have ST := Lib.hid (And.intro sT cT)
            clear hn1 sT cT
            obtain ⟨x0, x1⟩ := y
            dsimp only at g1 g2
            have EX : Tm.mx [] ((x0, x1) :: lo2) = (x0, x1, 0) :: Tm.mx [] lo2 := by rw [Tm.mx]
            have EM2 := Lib.hid (show (dn ++ [(x0, x1, 0)]) ++ Tm.mx [] lo2 = M by rw [List.append_assoc, List.singleton_append, ← EX]; exact EM.out)
            clear EX EM
            obtain ⟨N1, hN1⟩ : ∃ N1, n1 + 1 = N1 := ⟨_, rfl⟩
            rw [hN1] at ht SA q3 ⊢
            try rw [hN1] at q1
            try rw [hN1] at q2
            have gp : (0 : Int) < (N1 : Int) := by omega
            have gp1 : (N1 : Int) ≤ 82 := by have := LI.out; have := LO.out; omega
            have gp2 : ((N1 : Int) == 0) = false := by rw [beq_eq_false_iff_ne]; omega
            have gp3 : decide ((0 : Int) < (N1 : Int)) = true := decide_eq_true gp
            have HNN := Lib.hid hN1
            clear hN1
            have Q := Lib.hid (And.intro q1 (And.intro q2 q3))
            clear q1 q2 q3
            go_wp2
            go_quiet (fail)
            generalize hW : World.drewN _ _ = w6
            have bw : Below w5.heap.size w5 w6 := by rw [← hW]; exact below_draw _ _
            clear hW
            have O6 := Lib.hid (own_on O.out bw); have D6 := Lib.hid (below_step D.out bw)
            have g1' := (bw.cell hab).trans g1; have g2' := (bw.cell (p := ⟨ad.block, ad.off + 1, none⟩) hab).trans g2
            clear g1 g2 bw O D SA hab
            go_wp2_with (at_builtin; refine wpList_append_own _ rfl _ _ 40 rfl wc.heap.size 42 i0 (.agg #[.int .i64 0, .int .i64 0, .int .i64 0]) 3 24 Try.underlying40 hi hz0 hz1 hz2 rfl (by decide) _ _ _ rfl (O6.out.alloc _) ⟨w6.heap.size, 0, none⟩ 1 1 [.int .i64 x0, .int .i64 x1, .int .i64 0] rfl rfl (three_cells (by simp [go_sem]) (by simp [go_sem]) (by simp [go_sem])) (by intro u hu; simp at hu; rcases hu with rfl | rfl | rfl <;> rfl) (by unfold maxLen; omega) (by omega) (by have := D6.out.size; simp; omega) ?_)
            intro v7 w7 own7 grow7 _
            have D7 := Lib.hid (show Below wc.heap.size wc w7 from ((D6.out.alloc D6.out.size _).trans (below_grown grow7 (by have := D6.out.size; simp; omega) (own_row O6.out))))
            have O7 := Lib.hid (show w7.ownsRow wc.heap.size 42 3 v7 (dn ++ [(x0, x1, 0)]).length (Mn.ptc (dn ++ [(x0, x1, 0)])) by rw [Mn.ptc_app, List.length_append]; exact own7)
            clear own7 grow7 g1' g2'
            go_wp2
            go_roundw
            case rel =>
              obtain ⟨q1, q2, q3⟩ := Q.out
              exact ⟨Ai', At, ci', co' - 1, [], lo2, dn ++ [(x0, x1, 0)], by simp, by rw [HN1.out]; try rfl, by have := HN1.out; have := HNN.out; (try simp only [List.length_append, List.length_cons, List.length_nil]); omega, by have := HN1.out; have := HNN.out; (try simp only [List.length_append, List.length_cons, List.length_nil]); omega, by have := HN1.out; have := HNN.out; (try simp only [List.length_append, List.length_cons, List.length_nil]); omega, (by simpa using SB), (by rw [HN1.out]; exact ST), EM2, O7, D7⟩
            case measure => have := HNN.out; simp [lenV]; omega
          · -- in alone
            have SA := Lib.hid SI'.out; have SB := Lib.hid SO'.out
            clear SI' SO'
            obtain ⟨ad, hA, hab, g1, g2⟩ := (SA.out.1.on D.out).get 0 (by simp)
            subst hA
            simp only [List.getElem_cons_zero, Nat.zero_mul, Addr.add_zero'] at g1 g2
            simp only [List.length_cons, List.length_nil] at SA SB q1 q2 q3 ⊢
            obtain ⟨n1, hn1⟩ : ∃ n1, li2.length = n1 := ⟨_, rfl⟩
            have HN1 := Lib.hid hn1
            rw [hn1] at SA q3 ⊢
            try rw [hn1] at q1
            try rw [hn1] at q2
            obtain ⟨At, ht, sT, cT⟩ := tail_spv hn1 SA.out.1 SA.out.2
            have ST := Lib.hid (And.intro sT cT)
            clear hn1 sT cT
            obtain ⟨x0, x1⟩ := x
            dsimp only at g1 g2
            have EX : Tm.mx ((x0, x1) :: li2) [] = (x0, x1, 1) :: Tm.mx li2 [] := by rw [Tm.mx]
            have EM2 := Lib.hid (show (dn ++ [(x0, x1, 1)]) ++ Tm.mx li2 [] = M by rw [List.append_assoc, List.singleton_append, ← EX]; exact EM.out)
            clear EX EM
            obtain ⟨N1, hN1⟩ : ∃ N1, n1 + 1 = N1 := ⟨_, rfl⟩
            rw [hN1] at ht SA q3 ⊢
            try rw [hN1] at q1
            try rw [hN1] at q2
            have gp : (0 : Int) < (N1 : Int) := by omega
            have gp1 : (N1 : Int) ≤ 82 := by have := LI.out; have := LO.out; omega
            have gp2 : ((N1 : Int) == 0) = false := by rw [beq_eq_false_iff_ne]; omega
            have gp3 : decide ((0 : Int) < (N1 : Int)) = true := decide_eq_true gp
            have HNN := Lib.hid hN1
            clear hN1
            have Q := Lib.hid (And.intro q1 (And.intro q2 q3))
            clear q1 q2 q3
            go_wp2
            go_quiet (fail)
            generalize hW : World.drewN _ _ = w6
            have bw : Below w5.heap.size w5 w6 := by rw [← hW]; exact below_draw _ _
            clear hW
            have O6 := Lib.hid (own_on O.out bw); have D6 := Lib.hid (below_step D.out bw)
            have g1' := (bw.cell hab).trans g1; have g2' := (bw.cell (p := ⟨ad.block, ad.off + 1, none⟩) hab).trans g2
            clear g1 g2 bw O D SA hab
            go_wp2_with (at_builtin; refine wpList_append_own _ rfl _ _ 40 rfl wc.heap.size 42 i0 (.agg #[.int .i64 0, .int .i64 0, .int .i64 0]) 3 24 Try.underlying40 hi hz0 hz1 hz2 rfl (by decide) _ _ _ rfl (O6.out.alloc _) ⟨w6.heap.size, 0, none⟩ 1 1 [.int .i64 x0, .int .i64 x1, .int .i64 1] rfl rfl (three_cells (by simp [go_sem]) (by simp [go_sem]) (by simp [go_sem])) (by intro u hu; simp at hu; rcases hu with rfl | rfl | rfl <;> rfl) (by unfold maxLen; omega) (by omega) (by have := D6.out.size; simp; omega) ?_)
            intro v7 w7 own7 grow7 _
            have D7 := Lib.hid (show Below wc.heap.size wc w7 from ((D6.out.alloc D6.out.size _).trans (below_grown grow7 (by have := D6.out.size; simp; omega) (own_row O6.out))))
            have O7 := Lib.hid (show w7.ownsRow wc.heap.size 42 3 v7 (dn ++ [(x0, x1, 1)]).length (Mn.ptc (dn ++ [(x0, x1, 1)])) by rw [Mn.ptc_app, List.length_append]; exact own7)
            clear own7 grow7 g1' g2'
            go_wp2
            go_roundw
            case rel =>
              obtain ⟨q1, q2, q3⟩ := Q.out
              exact ⟨At, Ao', ci' - 1, co', li2, [], dn ++ [(x0, x1, 1)], by rw [HN1.out]; try rfl, by simp, by have := HN1.out; have := HNN.out; (try simp only [List.length_append, List.length_cons, List.length_nil]); omega, by have := HN1.out; have := HNN.out; (try simp only [List.length_append, List.length_cons, List.length_nil]); omega, by have := HN1.out; have := HNN.out; (try simp only [List.length_append, List.length_cons, List.length_nil]); omega, (by rw [HN1.out]; exact ST), (by simpa using SB), EM2, O7, D7⟩
            case measure => have := HNN.out; simp [lenV]; omega
          · by_cases hxy : x.1 < y.1
            · skip
              have SA := Lib.hid SI'.out; have SB := Lib.hid SO'.out
              clear SI' SO'
              obtain ⟨ad, hA, hab, g1, g2⟩ := (SA.out.1.on D.out).get 0 (by simp)
              subst hA
              simp only [List.getElem_cons_zero, Nat.zero_mul, Addr.add_zero'] at g1 g2
              obtain ⟨bd, hB, hbb, g3, g4⟩ := (SB.out.1.on D.out).get 0 (by simp)
              subst hB
              simp only [List.getElem_cons_zero, Nat.zero_mul, Addr.add_zero'] at g3 g4
              simp only [List.length_cons, List.length_nil] at SA SB q1 q2 q3 ⊢
              obtain ⟨n1, hn1⟩ : ∃ n1, li2.length = n1 := ⟨_, rfl⟩
              have HN1 := Lib.hid hn1
              rw [hn1] at SA q3 ⊢
              try rw [hn1] at q1
              try rw [hn1] at q2
              obtain ⟨n2, hn2⟩ : ∃ n2, lo2.length = n2 := ⟨_, rfl⟩
              have HN2 := Lib.hid hn2
              rw [hn2] at SB q3 ⊢
              try rw [hn2] at q1
              try rw [hn2] at q2
              clear hn2
              obtain ⟨At, ht, sT, cT⟩ := tail_spv hn1 SA.out.1 SA.out.2
              have ST := Lib.hid (And.intro sT cT)
              clear hn1 sT cT
              obtain ⟨x0, x1⟩ := x
              obtain ⟨y0, y1⟩ := y
              dsimp only at g1 g2 g3 g4
              have hc : (x0, x1).1 < (y0, y1).1 := hxy
              have EX : Tm.mx ((x0, x1) :: li2) ((y0, y1) :: lo2) = (x0, x1, 1) :: Tm.mx li2 ((y0, y1) :: lo2) := by rw [Tm.mx, if_pos hc]
              have EM2 := Lib.hid (show (dn ++ [(x0, x1, 1)]) ++ Tm.mx li2 ((y0, y1) :: lo2) = M by rw [List.append_assoc, List.singleton_append, ← EX]; exact EM.out)
              clear EX EM
              have hcB := hc
              have hc0 : x0 < y0 := hc
              clear hc hcB
              obtain ⟨N1, hN1⟩ : ∃ N1, n1 + 1 = N1 := ⟨_, rfl⟩
              rw [hN1] at ht SA q3 ⊢
              try rw [hN1] at q1
              try rw [hN1] at q2
              have gp : (0 : Int) < (N1 : Int) := by omega
              have gp1 : (N1 : Int) ≤ 82 := by have := LI.out; have := LO.out; omega
              have gp2 : ((N1 : Int) == 0) = false := by rw [beq_eq_false_iff_ne]; omega
              have gp3 : decide ((0 : Int) < (N1 : Int)) = true := decide_eq_true gp
              have HNN := Lib.hid hN1
              clear hN1
              obtain ⟨N2, hN2⟩ : ∃ N2, n2 + 1 = N2 := ⟨_, rfl⟩
              rw [hN2] at SB q3 ⊢
              try rw [hN2] at q1
              try rw [hN2] at q2
              have gq : (0 : Int) < (N2 : Int) := by omega
              have gq1 : (N2 : Int) ≤ 82 := by have := LI.out; have := LO.out; omega
              have gq2 : ((N2 : Int) == 0) = false := by rw [beq_eq_false_iff_ne]; omega
              have gq3 : decide ((0 : Int) < (N2 : Int)) = true := decide_eq_true gq
              have HNN2 := Lib.hid hN2
              clear hN2
              have hd : decide (x0 < y0) = true := decide_eq_true hc0
              clear hc0
              have Q := Lib.hid (And.intro q1 (And.intro q2 q3))
              clear q1 q2 q3
              have gk1 : decide (0 < N1) = true := decide_eq_true (by omega)
              have gk2 : decide (0 < N2) = true := decide_eq_true (by omega)
              have gk3 : 0 < N1 := by omega
              have gk4 : 0 < N2 := by omega
              go_wp2
              go_quiet (fail)
              generalize hW : World.drewN _ _ = w6
              have bw : Below w5.heap.size w5 w6 := by rw [← hW]; exact below_draw _ _
              clear hW
              have O6 := Lib.hid (own_on O.out bw); have D6 := Lib.hid (below_step D.out bw)
              have g1' := (bw.cell hab).trans g1; have g2' := (bw.cell (p := ⟨ad.block, ad.off + 1, none⟩) hab).trans g2
              clear g1 g2 bw O D SA hab g3 g4 hbb
              go_wp2_with (at_builtin; refine wpList_append_own _ rfl _ _ 40 rfl wc.heap.size 42 i0 (.agg #[.int .i64 0, .int .i64 0, .int .i64 0]) 3 24 Try.underlying40 hi hz0 hz1 hz2 rfl (by decide) _ _ _ rfl (O6.out.alloc _) ⟨w6.heap.size, 0, none⟩ 1 1 [.int .i64 x0, .int .i64 x1, .int .i64 1] rfl rfl (three_cells (by simp [go_sem]) (by simp [go_sem]) (by simp [go_sem])) (by intro u hu; simp at hu; rcases hu with rfl | rfl | rfl <;> rfl) (by unfold maxLen; omega) (by omega) (by have := D6.out.size; simp; omega) ?_)
              intro v7 w7 own7 grow7 _
              have D7 := Lib.hid (show Below wc.heap.size wc w7 from ((D6.out.alloc D6.out.size _).trans (below_grown grow7 (by have := D6.out.size; simp; omega) (own_row O6.out))))
              have O7 := Lib.hid (show w7.ownsRow wc.heap.size 42 3 v7 (dn ++ [(x0, x1, 1)]).length (Mn.ptc (dn ++ [(x0, x1, 1)])) by rw [Mn.ptc_app, List.length_append]; exact own7)
              clear own7 grow7 g1' g2'
              go_wp2
              go_roundw
              case rel =>
                obtain ⟨q1, q2, q3⟩ := Q.out
                exact ⟨At, (some bd), ci' - 1, co', li2, (y0, y1) :: lo2, dn ++ [(x0, x1, 1)], by rw [HN1.out]; try rfl, by rw [List.length_cons, HN2.out, HNN2.out], by have := HN1.out; have := HN2.out; have := HNN.out; have := HNN2.out; (try simp only [List.length_append, List.length_cons, List.length_nil]); omega, by have := HN1.out; have := HN2.out; have := HNN.out; have := HNN2.out; (try simp only [List.length_append, List.length_cons, List.length_nil]); omega, by have := HN1.out; have := HN2.out; have := HNN.out; have := HNN2.out; (try simp only [List.length_append, List.length_cons, List.length_nil]); omega, (by rw [HN1.out]; exact ST), (by simp only [List.length_cons, HN2.out, HNN2.out]; exact SB), EM2, O7, D7⟩
              case measure => have := HNN.out; simp [lenV]; omega
            · skip
              have SA := Lib.hid SO'.out; have SB := Lib.hid SI'.out
              clear SI' SO'
              obtain ⟨ad, hA, hab, g1, g2⟩ := (SA.out.1.on D.out).get 0 (by simp)
              subst hA
              simp only [List.getElem_cons_zero, Nat.zero_mul, Addr.add_zero'] at g1 g2
              obtain ⟨bd, hB, hbb, g3, g4⟩ := (SB.out.1.on D.out).get 0 (by simp)
              subst hB
              simp only [List.getElem_cons_zero, Nat.zero_mul, Addr.add_zero'] at g3 g4
              simp only [List.length_cons, List.length_nil] at SA SB q1 q2 q3 ⊢
              obtain ⟨n1, hn1⟩ : ∃ n1, lo2.length = n1 := ⟨_, rfl⟩
              have HN1 := Lib.hid hn1
              rw [hn1] at SA q3 ⊢
              try rw [hn1] at q1
              try rw [hn1] at q2
              obtain ⟨n2, hn2⟩ : ∃ n2, li2.length = n2 := ⟨_, rfl⟩
              have HN2 := Lib.hid hn2
              rw [hn2] at SB q3 ⊢
              try rw [hn2] at q1
              try rw [hn2] at q2
              clear hn2
              obtain ⟨At, ht, sT, cT⟩ := tail_spv hn1 SA.out.1 SA.out.2
              have ST := Lib.hid (And.intro sT cT)
              clear hn1 sT cT
              obtain ⟨x0, x1⟩ := y
              obtain ⟨y0, y1⟩ := x
              dsimp only at g1 g2 g3 g4
              have hc : ¬ (y0, y1).1 < (x0, x1).1 := hxy
              have EX : Tm.mx ((y0, y1) :: li2) ((x0, x1) :: lo2) = (x0, x1, 0) :: Tm.mx ((y0, y1) :: li2) lo2 := by rw [Tm.mx, if_neg hc]
              have EM2 := Lib.hid (show (dn ++ [(x0, x1, 0)]) ++ Tm.mx ((y0, y1) :: li2) lo2 = M by rw [List.append_assoc, List.singleton_append, ← EX]; exact EM.out)
              clear EX EM
              have hcB := hc
              have hc0 : ¬ y0 < x0 := hc
              clear hc hcB
              obtain ⟨N1, hN1⟩ : ∃ N1, n1 + 1 = N1 := ⟨_, rfl⟩
              rw [hN1] at ht SA q3 ⊢
              try rw [hN1] at q1
              try rw [hN1] at q2
              have gp : (0 : Int) < (N1 : Int) := by omega
              have gp1 : (N1 : Int) ≤ 82 := by have := LI.out; have := LO.out; omega
              have gp2 : ((N1 : Int) == 0) = false := by rw [beq_eq_false_iff_ne]; omega
              have gp3 : decide ((0 : Int) < (N1 : Int)) = true := decide_eq_true gp
              have HNN := Lib.hid hN1
              clear hN1
              obtain ⟨N2, hN2⟩ : ∃ N2, n2 + 1 = N2 := ⟨_, rfl⟩
              rw [hN2] at SB q3 ⊢
              try rw [hN2] at q1
              try rw [hN2] at q2
              have gq : (0 : Int) < (N2 : Int) := by omega
              have gq1 : (N2 : Int) ≤ 82 := by have := LI.out; have := LO.out; omega
              have gq2 : ((N2 : Int) == 0) = false := by rw [beq_eq_false_iff_ne]; omega
              have gq3 : decide ((0 : Int) < (N2 : Int)) = true := decide_eq_true gq
              have HNN2 := Lib.hid hN2
              clear hN2
              have hd : decide (y0 < x0) = false := decide_eq_false hc0
              clear hc0
              have Q := Lib.hid (And.intro q1 (And.intro q2 q3))
              clear q1 q2 q3
              have gk1 : decide (0 < N1) = true := decide_eq_true (by omega)
              have gk2 : decide (0 < N2) = true := decide_eq_true (by omega)
              have gk3 : 0 < N1 := by omega
              have gk4 : 0 < N2 := by omega
              go_wp2
              go_quiet (fail)
              generalize hW : World.drewN _ _ = w6
              have bw : Below w5.heap.size w5 w6 := by rw [← hW]; exact below_draw _ _
              clear hW
              have O6 := Lib.hid (own_on O.out bw); have D6 := Lib.hid (below_step D.out bw)
              have g1' := (bw.cell hab).trans g1; have g2' := (bw.cell (p := ⟨ad.block, ad.off + 1, none⟩) hab).trans g2
              clear g1 g2 bw O D SA hab g3 g4 hbb
              go_wp2_with (at_builtin; refine wpList_append_own _ rfl _ _ 40 rfl wc.heap.size 42 i0 (.agg #[.int .i64 0, .int .i64 0, .int .i64 0]) 3 24 Try.underlying40 hi hz0 hz1 hz2 rfl (by decide) _ _ _ rfl (O6.out.alloc _) ⟨w6.heap.size, 0, none⟩ 1 1 [.int .i64 x0, .int .i64 x1, .int .i64 0] rfl rfl (three_cells (by simp [go_sem]) (by simp [go_sem]) (by simp [go_sem])) (by intro u hu; simp at hu; rcases hu with rfl | rfl | rfl <;> rfl) (by unfold maxLen; omega) (by omega) (by have := D6.out.size; simp; omega) ?_)
              intro v7 w7 own7 grow7 _
              have D7 := Lib.hid (show Below wc.heap.size wc w7 from ((D6.out.alloc D6.out.size _).trans (below_grown grow7 (by have := D6.out.size; simp; omega) (own_row O6.out))))
              have O7 := Lib.hid (show w7.ownsRow wc.heap.size 42 3 v7 (dn ++ [(x0, x1, 0)]).length (Mn.ptc (dn ++ [(x0, x1, 0)])) by rw [Mn.ptc_app, List.length_append]; exact own7)
              clear own7 grow7 g1' g2'
              go_wp2
              go_roundw
              case rel =>
                obtain ⟨q1, q2, q3⟩ := Q.out
                exact ⟨(some bd), At, ci', co' - 1, (y0, y1) :: li2, lo2, dn ++ [(x0, x1, 0)], by rw [List.length_cons, HN2.out, HNN2.out], by rw [HN1.out]; try rfl, by have := HN1.out; have := HN2.out; have := HNN.out; have := HNN2.out; (try simp only [List.length_append, List.length_cons, List.length_nil]); omega, by have := HN1.out; have := HN2.out; have := HNN.out; have := HNN2.out; (try simp only [List.length_append, List.length_cons, List.length_nil]); omega, by have := HN1.out; have := HN2.out; have := HNN.out; have := HNN2.out; (try simp only [List.length_append, List.length_cons, List.length_nil]); omega, (by simp only [List.length_cons, HN2.out, HNN2.out]; exact SB), (by rw [HN1.out]; exact ST), EM2, O7, D7⟩
              case measure => have := HNN.out; simp [lenV]; omega
  · have e2 : Sp.lw s0 s1 = 1 := by
      unfold Sp.lw Sp.rb Nm.okw
      by_cases h0 : s0 < s1
      · rw [decide_eq_true h0, if_pos rfl, if_neg (fun h => hr ⟨h0, (Nm.fits_true.1 h).2⟩)]
      · rw [decide_eq_false h0]; rfl
    rw [e2]
    generalize Sp.ln s0 s1 = q1
    clear e2 hr
    go_wp2
    go_ret
    exact ⟨rfl, B3.out⟩
end Go.Proofs.Ytnfjdjfajkdiiaa

