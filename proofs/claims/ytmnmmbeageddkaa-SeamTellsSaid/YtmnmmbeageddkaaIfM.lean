/- Infos: what is missing, as a set. -/
import Derived.Test.YtmnmmbeageddkaaIfD
import Derived.Test.YtmnmmbeageddkaaPairF
set_option linter.unusedVariables false
set_option linter.unusedSimpArgs false
namespace Go.Proofs.Ytmnmmbeageddkaa
open Go.RowKit Go.Sort Go.Shelf Go.Pairs

theorem ckM {W W' : World} {a : Addr} {v : Value} (k : Below W.heap.size W W') (h : W.cell? a = some v) : W'.cell? a = some v := (k.cell (World.block_lt_of_cell? _ _ h)).trans h
theorem keepMi {w W W' : World} {v : Value} {l : List If.I} {a0 a1 : Addr} {v0 v1 : Value} (k : Below W.heap.size W W') (h : Below w.heap.size w W ∧ InV W v l ∧ W.cell? a0 = some v0 ∧ W.cell? a1 = some v1) :
    Below w.heap.size w W' ∧ InV W' v l ∧ W'.cell? a0 = some v0 ∧ W'.cell? a1 = some v1 := ⟨below_step h.1 k, h.2.1.on k, ckM k h.2.2.1, ckM k h.2.2.2⟩
set_option maxRecDepth 100000 in
set_option maxHeartbeats 4000000 in
theorem seam_missing (v : Value) (l : List If.I) (s0 s1 : Int) (w : World) (h : InV w v l) (hm : l.length ≤ 1000) :
    Calls Try.prog 30 #[v, .agg #[.int .i64 s0, .int .i64 s1]] w (AnsK (fun x y => x && !y) [(s0, s1)] (l.map If.sp) w) := by
  obtain ⟨A, c, rfl, -⟩ := id h
  have b0 : Below w.heap.size w (w.alloc (.cells #[.int .i64 s0, .int .i64 s1] 32)) := (Below.refl _ _).alloc (Nat.le_refl _) _
  have CS := Lib.hid (fun (W : World) (hW : InV W (.slice A l.length c) l) => seam_spans _ l W hW (by omega))
  have HL := Lib.hid (show (l.map If.sp).length ≤ 1000 by rw [List.length_map]; exact hm)
  have H0 := Lib.hid (h.on b0)
  have K0 := Lib.hid (Blk.new w 32 #[.int .i64 s0, .int .i64 s1])
  have B0 := Lib.hid b0
  clear h b0 hm
  go_enter Try.func30, Try.ntmps30
  go_upto_region 1 with (fail)
  generalize hw1 : w.alloc (.cells #[.int .i64 s0, .int .i64 s1] 32) = w1 at *
  have CC := Lib.hid (show (fun W => Below w.heap.size w W ∧ InV W (.slice A l.length c) l ∧ W.cell? ⟨w.heap.size, 0, none⟩ = some (.int .i64 s0) ∧ W.cell? ⟨w.heap.size, 1, none⟩ = some (.int .i64 s1)) w1 from ⟨B0.out, H0.out, K0.out.c0, K0.out.c1⟩)
  clear hw1 H0 K0 B0
  refine wp_region_pairs (C := fun W => Below w.heap.size w W ∧ InV W (.slice A l.length c) l ∧ W.cell? ⟨w.heap.size, 0, none⟩ = some (.int .i64 s0) ∧ W.cell? ⟨w.heap.size, 1, none⟩ = some (.int .i64 s1)) (R := markR [(fun v _ => v = Value.slice A l.length c), (fun v W => ∃ u : Option Addr × Nat, v = .slice u.1 l.length u.2 ∧ SpV W (.slice u.1 l.length u.2) (l.map If.sp)), (fun v _ => v = Value.agg #[Value.int IntKind.i64 s0, Value.int IntKind.i64 s1]), (fun v W => ∃ x : Option Addr × Nat × List Ss.S, v = .slice x.1 x.2.2.length x.2.1 ∧ SpV W (.slice x.1 x.2.2.length x.2.1) x.2.2 ∧ Ss.Rs x.2.2 ∧ (∀ t, Ss.inl x.2.2 t = (Ss.inl [(s0, s1)] t && !Ss.inl (l.map If.sp) t)) ∧ x.2.2.length ≤ 2 * ([(s0, s1)].length + (l.map If.sp).length)), (fun v W => ∃ x : Option Addr × Nat × List Ss.S, v = .slice x.1 x.2.2.length x.2.1 ∧ SpV W (.slice x.1 x.2.2.length x.2.1) x.2.2 ∧ Ss.Rs x.2.2 ∧ (∀ t, Ss.inl x.2.2 t = (Ss.inl [(s0, s1)] t && !Ss.inl (l.map If.sp) t)) ∧ x.2.2.length ≤ 2 * ([(s0, s1)].length + (l.map If.sp).length))]) (G := fun W W' => Below W.heap.size W W') (by rfl) ?hbeg ⟨by kernel_rfl, by kernel_rfl, by kernel_rfl, ?hkeep, ?hstab, Obs.all ?hobs, ?hlast⟩
  case hbeg =>
    try dsimp only
    exact keepMi ((Below.refl _ _).drew) CC.out
  case hkeep =>
    intro w' w'' hC hG
    try dsimp only at hC hG ⊢
    exact keepMi hG hC
  case hstab =>
    refine StableL.all ?_
    repeat (first | exact trivial | refine ⟨(by first | exact (fun _ _ _ _ h => h) | (exact fun v W W' hG h => by obtain ⟨u, hv, hs⟩ := h; first | exact ⟨u, hv, hs.on hG⟩ | exact ⟨u, hv, hs.1.on hG, hs.2⟩)), ?_⟩)
  case hobs =>
    refine Obs.cons (k' := 1) rfl ?_ ?_
    · intro fa W hW hSame hRR KK hKK
      try dsimp only at hW
      have fb0 := hSame.base 0 (by kernel_rfl)
      simp only [List.getElem?_toArray, List.getElem?_cons_succ, List.getElem?_cons_zero] at fb0
      replace hKK : ∀ v w', Go.RowKit.Below W.heap.size W w' → v = Value.slice A l.length c → KK (Act.put fa _ v) w' := fun v w' h1 h2 => hKK v w' h1 h2
      clear hSame hRR
      rw [if_pos (wanted_plain rfl)]
      go_simp
      refine hKK _ _ ?_ ?_
      · first | exact Below.refl _ _ | exact (Below.refl _ _).alloc (Nat.le_refl _) _ | exact below_draw _ _ | assumption
      · exact rfl
    refine Obs.cons (k' := 2) rfl ?_ ?_
    · intro fa W hW hSame hRR KK hKK
      try dsimp only at hW
      obtain ⟨fv0, ft0, fm0⟩ := hRR 0 _ 5 rfl rfl (by kernel_rfl)
      replace fm0 : fv0 = Value.slice A l.length c := fm0
      subst fm0
      replace hKK : ∀ v w', Go.RowKit.Below W.heap.size W w' → (fun v W => ∃ u : Option Addr × Nat, v = .slice u.1 l.length u.2 ∧ SpV W (.slice u.1 l.length u.2) (l.map If.sp)) v w' → KK (Act.put fa _ v) w' := fun v w' h1 h2 => hKK v w' h1 h2
      clear hSame hRR
      rw [if_pos (wanted_plain rfl)]
      go_simp
      first
        | (go_at_call 55; refine (CS.out _ hW.2.1).mono ?_; rintro e w' ⟨v, hv, rfl, hb⟩; obtain ⟨A', c', rfl, -⟩ := id hv; rw [List.length_map] at hv; rw [List.length_map])
        | (go_at_call 57; refine (spans_gaps _ (l.map If.sp) s0 s1 _ fm1 HL.out).mono ?_; rintro e w' ⟨v, l', rfl, hv, h2, h3, h4, hb⟩; obtain ⟨A', c', rfl, -⟩ := id hv)
      try dsimp only
      refine hKK _ _ ?_ ?_
      · first | exact Below.refl _ _ | exact (Below.refl _ _).alloc (Nat.le_refl _) _ | exact below_draw _ _ | assumption
      · try dsimp only
        first | exact trivial | exact rfl | (first | exact ⟨(_, _), rfl, hv⟩ | exact ⟨(_, _, _), rfl, hv, h2, h3, h4⟩ | exact ⟨_, rfl, fm3⟩)
    refine Obs.cons (k' := 3) rfl ?_ ?_
    · intro fa W hW hSame hRR KK hKK
      try dsimp only at hW
      have fb3 := hSame.base 3 (by kernel_rfl)
      simp only [List.getElem?_toArray, List.getElem?_cons_succ, List.getElem?_cons_zero] at fb3
      replace hKK : ∀ v w', Go.RowKit.Below W.heap.size W w' → v = Value.agg #[Value.int IntKind.i64 s0, Value.int IntKind.i64 s1] → KK (Act.put fa _ v) w' := fun v w' h1 h2 => hKK v w' h1 h2
      clear hSame hRR
      rw [if_pos (wanted_plain rfl)]
      go_simp
      refine hKK _ _ ?_ ?_
      · first | exact Below.refl _ _ | exact (Below.refl _ _).alloc (Nat.le_refl _) _ | exact below_draw _ _ | assumption
      · exact rfl
    refine Obs.cons (k' := 4) rfl ?_ ?_
    · intro fa W hW hSame hRR KK hKK
      try dsimp only at hW
      obtain ⟨fv1, ft1, fm1⟩ := hRR 1 _ 6 rfl rfl (by kernel_rfl)
      replace fm1 : (fun v W => ∃ u : Option Addr × Nat, v = .slice u.1 l.length u.2 ∧ SpV W (.slice u.1 l.length u.2) (l.map If.sp)) fv1 W := fm1
      try dsimp only at fm1
      first | subst fm1 | obtain ⟨_, rfl, fm1⟩ := fm1
      obtain ⟨fv2, ft2, fm2⟩ := hRR 2 _ 7 rfl rfl (by kernel_rfl)
      replace fm2 : fv2 = Value.agg #[Value.int IntKind.i64 s0, Value.int IntKind.i64 s1] := fm2
      subst fm2
      replace hKK : ∀ v w', Go.RowKit.Below W.heap.size W w' → (fun v W => ∃ x : Option Addr × Nat × List Ss.S, v = .slice x.1 x.2.2.length x.2.1 ∧ SpV W (.slice x.1 x.2.2.length x.2.1) x.2.2 ∧ Ss.Rs x.2.2 ∧ (∀ t, Ss.inl x.2.2 t = (Ss.inl [(s0, s1)] t && !Ss.inl (l.map If.sp) t)) ∧ x.2.2.length ≤ 2 * ([(s0, s1)].length + (l.map If.sp).length)) v w' → KK (Act.put fa _ v) w' := fun v w' h1 h2 => hKK v w' h1 h2
      clear hSame hRR
      rw [if_pos (wanted_plain rfl)]
      go_simp
      first
        | (go_at_call 55; refine (CS.out _ hW.2.1).mono ?_; rintro e w' ⟨v, hv, rfl, hb⟩; obtain ⟨A', c', rfl, -⟩ := id hv; rw [List.length_map] at hv; rw [List.length_map])
        | (go_at_call 57; refine (spans_gaps _ (l.map If.sp) s0 s1 _ fm1 HL.out).mono ?_; rintro e w' ⟨v, l', rfl, hv, h2, h3, h4, hb⟩; obtain ⟨A', c', rfl, -⟩ := id hv)
      try dsimp only
      refine hKK _ _ ?_ ?_
      · first | exact Below.refl _ _ | exact (Below.refl _ _).alloc (Nat.le_refl _) _ | exact below_draw _ _ | assumption
      · try dsimp only
        first | exact trivial | exact rfl | (first | exact ⟨(_, _), rfl, hv⟩ | exact ⟨(_, _, _), rfl, hv, h2, h3, h4⟩ | exact ⟨_, rfl, fm3⟩)
    refine Obs.cons (k' := 5) rfl ?_ ?_
    · intro fa W hW hSame hRR KK hKK
      try dsimp only at hW
      obtain ⟨fv3, ft3, fm3⟩ := hRR 3 _ 8 rfl rfl (by kernel_rfl)
      replace fm3 : (fun v W => ∃ x : Option Addr × Nat × List Ss.S, v = .slice x.1 x.2.2.length x.2.1 ∧ SpV W (.slice x.1 x.2.2.length x.2.1) x.2.2 ∧ Ss.Rs x.2.2 ∧ (∀ t, Ss.inl x.2.2 t = (Ss.inl [(s0, s1)] t && !Ss.inl (l.map If.sp) t)) ∧ x.2.2.length ≤ 2 * ([(s0, s1)].length + (l.map If.sp).length)) fv3 W := fm3
      try dsimp only at fm3
      first | subst fm3 | obtain ⟨_, rfl, fm3⟩ := fm3
      replace hKK : ∀ v w', Go.RowKit.Below W.heap.size W w' → (fun v W => ∃ x : Option Addr × Nat × List Ss.S, v = .slice x.1 x.2.2.length x.2.1 ∧ SpV W (.slice x.1 x.2.2.length x.2.1) x.2.2 ∧ Ss.Rs x.2.2 ∧ (∀ t, Ss.inl x.2.2 t = (Ss.inl [(s0, s1)] t && !Ss.inl (l.map If.sp) t)) ∧ x.2.2.length ≤ 2 * ([(s0, s1)].length + (l.map If.sp).length)) v w' → KK (Act.put fa _ v) w' := fun v w' h1 h2 => hKK v w' h1 h2
      clear hSame hRR
      rw [if_pos (wanted_plain rfl)]
      go_simp
      refine hKK _ _ ?_ ?_
      · first | exact Below.refl _ _ | exact (Below.refl _ _).alloc (Nat.le_refl _) _ | exact below_draw _ _ | assumption
      · try dsimp only
        first | exact trivial | exact rfl | (first | exact ⟨(_, _), rfl, hv⟩ | exact ⟨(_, _, _), rfl, hv, h2, h3, h4⟩ | exact ⟨_, rfl, fm3⟩)
    exact Obs.nil
  case hlast =>
    intro fa W hW hSame hRR
    try dsimp only at hW
    obtain ⟨vZ, ftZ, ⟨A3, c3, l3⟩, rfl, h1, h2, h3, h4⟩ := hRR 4 _ 4 rfl rfl
    dsimp only at h1 h2 h3 h4 ftZ
    have hdf := hSame.defers
    obtain ⟨tm, df⟩ := fa
    dsimp only at hdf ftZ
    subst hdf
    have Q := Lib.hid (And.intro h1 (And.intro h2 (And.intro h3 (And.intro h4 hW.1))))
    clear hSame hRR hW h1 h2 h3 h4
    go_wp2_with fail
    refine bodyPost_ret (v := .slice A3 l3.length c3) ?_ rfl ⟨_, l3, rfl, Q.out⟩
    rw [results_tmp rfl]
    simp [Array.getD_eq_getD_getElem?, ftZ]
end Go.Proofs.Ytmnmmbeageddkaa

