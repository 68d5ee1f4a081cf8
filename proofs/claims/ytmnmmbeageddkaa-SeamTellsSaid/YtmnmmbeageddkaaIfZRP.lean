/- Joined: IfZ, IfRP. -/
import Derived.Test.YtmnmmbeageddkaaIfP
import Derived.Test.YtmnmmbeageddkaaIfR
import Derived.Test.YtmnmmbeageddkaaIfM
import Derived.Test.YtmnmmbeageddkaaPairF
set_option linter.unusedVariables false
set_option linter.unusedSimpArgs false
namespace Go.Proofs.Ytmnmmbeageddkaa
section
open Go.RowKit Go.Sort Go.Shelf

namespace If
theorem mem_ins (x y : I) (l : List I) : y ∈ ins x l ↔ y = x ∨ y ∈ l := by
  induction l with
  | nil => simp [ins]
  | cons p r ih =>
    rw [ins]
    split
    · rw [List.mem_cons, ih, List.mem_cons]
      constructor
      · rintro (h | h | h)
        · exact .inr (.inl h)
        · exact .inl h
        · exact .inr (.inr h)
      · rintro (h | h | h)
        · exact .inr (.inl h)
        · exact .inl h
        · exact .inr (.inr h)
    · rw [List.mem_cons]
theorem ins_ord (x : I) (l : List I) (h : Ord l) : Ord (ins x l) := by
  induction l with
  | nil => exact List.pairwise_singleton _ _
  | cons p r ih =>
    obtain ⟨h1, h2⟩ := List.pairwise_cons.1 h
    rw [ins]
    split
    · rename_i hlt
      refine List.Pairwise.cons (fun y hy => ?_) (ih h2)
      rcases (mem_ins x y r).1 hy with rfl | hy
      · exact Int.le_of_lt hlt
      · exact h1 y hy
    · rename_i hlt
      refine List.Pairwise.cons (fun y hy => ?_) h
      rcases List.mem_cons.1 hy with rfl | hy
      · exact Int.not_lt.1 hlt
      · exact Int.le_trans (Int.not_lt.1 hlt) (h1 y hy)
theorem ins_nd (x : I) (l : List I) (h : l.Nodup) (hx : x ∉ l) : (ins x l).Nodup := by
  induction l with
  | nil => exact List.nodup_cons.2 ⟨by simp, List.nodup_nil⟩
  | cons p r ih =>
    obtain ⟨h1, h2⟩ := List.nodup_cons.1 h
    rw [ins]
    split
    · refine List.nodup_cons.2 ⟨fun hp => ?_, ih h2 (fun h => hx (List.mem_cons_of_mem _ h))⟩
      rcases (mem_ins x p r).1 hp with e | e
      · exact hx (e ▸ List.mem_cons_self ..)
      · exact h1 e
    · exact List.nodup_cons.2 ⟨hx, h⟩
theorem mgl_all (a : List I) (r : List I) : ∀ out, Ord out → out.Nodup → r.Nodup → (∀ y ∈ out, y ∈ a ∨ y ∉ r) → Ord (mgl a out r) ∧ (mgl a out r).Nodup ∧ ∀ y, y ∈ mgl a out r ↔ y ∈ out ∨ (y ∈ r ∧ y ∉ a) := by
  induction r with
  | nil => exact fun out h1 h2 _ _ => ⟨h1, h2, fun y => by simp [mgl]⟩
  | cons x r ih =>
    intro out h1 h2 h3 h4
    obtain ⟨n1, n2⟩ := List.nodup_cons.1 h3
    rw [mgl]
    split
    · rename_i hx
      rw [isin_iff] at hx
      obtain ⟨i1, i2, i3⟩ := ih out h1 h2 n2 (fun y hy => (h4 y hy).imp id (fun h e => h (List.mem_cons_of_mem _ e)))
      refine ⟨i1, i2, fun y => ?_⟩
      rw [i3 y, List.mem_cons]
      constructor
      · rintro (h | ⟨h, k⟩)
        · exact .inl h
        · exact .inr ⟨.inr h, k⟩
      · rintro (h | ⟨rfl | h, k⟩)
        · exact .inl h
        · exact absurd hx k
        · exact .inr ⟨h, k⟩
    · rename_i hx
      rw [isin_iff] at hx
      have hxo : x ∉ out := fun h => (h4 x h).elim hx (fun h => h (List.mem_cons_self ..))
      obtain ⟨i1, i2, i3⟩ := ih (ins x out) (ins_ord x out h1) (ins_nd x out h2 hxo) n2 (fun y hy => by
        rcases (mem_ins x y out).1 hy with rfl | hy
        · exact .inr n1
        · exact (h4 y hy).imp id (fun h e => h (List.mem_cons_of_mem _ e)))
      refine ⟨i1, i2, fun y => ?_⟩
      rw [i3 y, mem_ins, List.mem_cons]
      constructor
      · rintro ((rfl | h) | ⟨h, k⟩)
        · exact .inr ⟨.inl rfl, hx⟩
        · exact .inl h
        · exact .inr ⟨.inr h, k⟩
      · rintro (h | ⟨rfl | h, k⟩)
        · exact .inl (.inr h)
        · exact .inl (.inl rfl)
        · exact .inr ⟨h, k⟩
theorem st_nd {l : List I} (h : St l) : l.Nodup := h.imp fun {x y} hxy e => by rw [e] at hxy; omega
theorem st_of {l : List I} (h : Ord l) (hn : l.Nodup) (hf : Fn l) : St l := by
  refine (List.pairwise_iff_getElem.2 fun i j hi hj hij => ?_)
  have h1 := List.pairwise_iff_getElem.1 h i j hi hj hij
  have h2 := List.pairwise_iff_getElem.1 hn i j hi hj hij
  have h3 : l[i].1 ≠ l[j].1 := fun e => h2 (hf _ (List.getElem_mem hi) _ (List.getElem_mem hj) e)
  show l[i].1 < l[j].1
  omega
/-- What the reference puts together is what is sorted and made compact. -/
theorem mg_ref {a b d : List I} (ha : so none a = true) (hb : so none b = true) (hp : d.Perm (a ++ b)) (ho : Ord d) :
    so none (mgl a a b) = so none (dd d) ∧ (so none (dd d) = true → mgl a a b = dd d) := by
  have sa := so_st ha; have sb := so_st hb
  obtain ⟨h1, h2, h3⟩ := mgl_all a b a (sa.imp fun h => Int.le_of_lt h) (st_nd sa) (st_nd sb) (fun y hy => .inl hy)
  have hm : ∀ y, y ∈ mgl a a b ↔ y ∈ d := fun y => by
    rw [h3 y, hp.mem_iff, List.mem_append]
    by_cases hy : y ∈ a <;> simp [hy]
  rcases hd : so none (dd d) with _ | _
  · refine ⟨?_, fun e => by cases e⟩
    rcases hl : so none (mgl a a b) with _ | _
    · rfl
    · have e := dd_own hl (d := d) (fun x => (hm x).symm) ho
      rw [e, hl] at hd; cases hd
  · have hs := so_st hd
    have hf := st_fn hs
    have e : mgl a a b = dd d := st_eq _ _ (st_of h1 h2 fun x hx y hy => hf x ((mem_dd x d).2 ((hm x).1 hx)) y ((mem_dd y d).2 ((hm y).1 hy))) hs (fun x => (hm x).trans (mem_dd x d).symm)
    exact ⟨by rw [e, hd], fun _ => e⟩
end If
end
section
open Go.RowKit Go.Sort Go.Shelf Go.Pairs

set_option maxRecDepth 100000 in
set_option maxHeartbeats 4000000 in
theorem rpatches (v : Value) (l : List If.I) (w : World) (h : InV w v l) (hm : l.length ≤ 100000) :
    Calls Try.prog 29 #[v] w (AnsS (Ss.rof [] (l.map If.sp)) w) := by
  obtain ⟨P, hP⟩ : ∃ P, Ss.rof [] (l.map If.sp) = P := ⟨_, rfl⟩
  rw [hP]
  have HP := Lib.hid hP
  clear hP
  obtain ⟨i0, hi, hz0, hz1, hz2⟩ := info_parts info_span
  have H := Lib.hid h
  obtain ⟨A, c, rfl, -⟩ := h
  obtain ⟨n, hn⟩ : ∃ n, l.length = n := ⟨_, rfl⟩
  rw [hn] at hm H ⊢
  have HN := Lib.hid hn
  have O0 := Lib.hid (World.ownsRow_nil w w.heap.size 32 2)
  clear hn
  go_enter Try.func29, Try.ntmps29
  go_wp2
  go_loopw [3, 8] (fun u i wr => ∃ (k : Nat), k ≤ n ∧ i = .int .i64 k ∧ Hid (wr.ownsRow w.heap.size 32 2 u ((l.take k).map If.sp).length (spc ((l.take k).map If.sp))) ∧ Hid (Below w.heap.size w wr)) (fun _ i _ => n - (intOf i).toNat)
  case atStart => exact ⟨0, Nat.zero_le _, rfl, O0, Lib.hid (Below.refl _ _)⟩
  case round =>
    rename World => w2
    obtain ⟨k, hk, rfl, O, B⟩ := hrel
    by_cases hlt : k < n
    · have hkl : k < l.length := by rw [HN.out]; exact hlt
      obtain ⟨a, rfl, hab, g1, g2, g3, g4, g5⟩ := (H.out.on B.out).get k hkl
      have T := Lib.hid (If.sp_take l k hkl)
      have hlen : ((l.take k).map If.sp).length ≤ 100000 := by rw [List.length_map, List.length_take]; omega
      generalize hp : l[k] = p at *
      obtain ⟨x0, x1, x2, x3, x4⟩ := p
      dsimp only at g1 g2 g3 g4 g5
      clear hp
      have i1 : (k : Int) < n := by omega
      generalize (l.take k).map If.sp = r at *
      have P2 := Lib.hid (Blk.new w2 36 #[.int .i64 x0, .int .i64 x1, .int .i64 x2, .int .i64 x3, .string x4])
      have O2 := Lib.hid (O.out.alloc (.cells #[.int .i64 x0, .int .i64 x1, .int .i64 x2, .int .i64 x3, .string x4] 36))
      have B2 := Lib.hid (B.out.alloc B.out.size (.cells #[.int .i64 x0, .int .i64 x1, .int .i64 x2, .int .i64 x3, .string x4] 36))
      have c0 := P2.out.c0; have c1 := P2.out.c1
      clear O B
      go_wp2_with (at_builtin; refine wpList_append_own _ rfl _ _ 57 rfl w.heap.size 32 i0 (.agg #[.int .i64 0, .int .i64 0]) 2 16 Try.underlying57 hi hz0 hz1 hz2 rfl (by decide) _ _ _ rfl (O2.out.alloc _) ⟨w2.heap.size + 1, 0, none⟩ 1 1 [.int .i64 x0, .int .i64 x1] rfl rfl (two_cells (by simp [go_sem]) (by simp [go_sem])) (by intro u hu; simp at hu; rcases hu with rfl | rfl <;> rfl) (by unfold maxLen; omega) (by omega) (by have := B2.out.size; simp at this; simp; omega) ?_)
      intro v6 w6 own6 grow6 _
      have B6 := Lib.hid (show Below w.heap.size w w6 from ((B2.out.alloc B2.out.size _).trans (below_grown grow6 (by have := B2.out.size; simp at this; simp; omega) (own_row O2.out))))
      have O6 := Lib.hid own6
      clear own6 grow6 O2 B2 P2 c0 c1
      go_wp2
      go_roundw
      case rel => exact ⟨k + 1, by omega, by go_num, Lib.hid (by rw [T.out, spc_app, List.length_append]; exact O6.out), B6⟩
      case measure => simp [intOf]; omega
    · have E2 : l.take k = l := List.take_of_length_le (by rw [HN.out]; omega)
      rw [E2] at O
      obtain ⟨A2, c2, rfl⟩ := po_form O.out
      have O2 := Lib.hid (show SpV w2 (.slice A2 l.length c2) (l.map If.sp) by have := SpV.own O.out; rw [List.length_map] at this; exact this)
      have HL := Lib.hid (show (l.map If.sp).length ≤ 100000 by rw [List.length_map, HN.out]; exact hm)
      clear E2 O
      go_wp2_with fail
      refine (rof_any _ (l.map If.sp) _ O2.out HL.out).mono ?_
      rw [HP.out]
      rintro e w3 ⟨v3, h3, rfl, b3⟩
      obtain ⟨A3, c3, hv3, -⟩ := id h3
      subst hv3
      have O3 := Lib.hid h3; have B3 := Lib.hid (below_step B.out b3)
      clear h3 b3
      go_wp2
      go_ret
      exact ⟨_, O3.out, rfl, B3.out⟩
set_option maxRecDepth 100000 in
set_option maxHeartbeats 4000000 in
theorem rmissing (v : Value) (l : List If.I) (s0 s1 : Int) (w : World) (h : InV w v l) (hm : l.length ≤ 1000) :
    Calls Try.prog 31 #[v, .agg #[.int .i64 s0, .int .i64 s1]] w (AnsS (Ss.rls (Ss.rof [] [(s0, s1)]) (Ss.rof [] (l.map If.sp))) w) := by
  obtain ⟨A, c, rfl, -⟩ := id h
  have b0 : Below w.heap.size w (w.alloc (.cells #[.int .i64 s0, .int .i64 s1] 32)) := (Below.refl _ _).alloc (Nat.le_refl _) _
  obtain ⟨P, hP⟩ : ∃ P, Ss.rof [] (l.map If.sp) = P := ⟨_, rfl⟩
  have CS := Lib.hid (fun (W : World) (hW : InV W (.slice A l.length c) l) => hP ▸ rpatches _ l W hW (by omega))
  have HL := Lib.hid (show P.length ≤ 1000 by rw [← hP]; have := Ss.rof_len (l.map If.sp); rw [List.length_map] at this; omega)
  rw [hP]
  obtain ⟨M, hM⟩ : ∃ M, Ss.rls (Ss.rof [] [(s0, s1)]) P = M := ⟨_, rfl⟩
  have CG := Lib.hid (fun (W : World) (v : Value) (hW : SpV W v P) => hM ▸ rgaps_set v P s0 s1 W hW HL.out)
  rw [hM]
  have H0 := Lib.hid (h.on b0)
  have K0 := Lib.hid (Blk.new w 32 #[.int .i64 s0, .int .i64 s1])
  have B0 := Lib.hid b0
  clear h b0 hm hP hM
  go_enter Try.func31, Try.ntmps31
  go_upto_region 1 with (fail)
  generalize hw1 : w.alloc (.cells #[.int .i64 s0, .int .i64 s1] 32) = w1 at *
  have CC := Lib.hid (show (fun W => Below w.heap.size w W ∧ InV W (.slice A l.length c) l ∧ W.cell? ⟨w.heap.size, 0, none⟩ = some (.int .i64 s0) ∧ W.cell? ⟨w.heap.size, 1, none⟩ = some (.int .i64 s1)) w1 from ⟨B0.out, H0.out, K0.out.c0, K0.out.c1⟩)
  clear hw1 H0 K0 B0
  refine wp_region_pairs (C := fun W => Below w.heap.size w W ∧ InV W (.slice A l.length c) l ∧ W.cell? ⟨w.heap.size, 0, none⟩ = some (.int .i64 s0) ∧ W.cell? ⟨w.heap.size, 1, none⟩ = some (.int .i64 s1)) (R := markR [(fun v _ => v = Value.slice A l.length c), (fun v W => ∃ u : Option Addr × Nat, v = .slice u.1 P.length u.2 ∧ SpV W (.slice u.1 P.length u.2) P), (fun v _ => v = Value.agg #[Value.int IntKind.i64 s0, Value.int IntKind.i64 s1]), (fun v W => ∃ u : Option Addr × Nat, v = .slice u.1 M.length u.2 ∧ SpV W (.slice u.1 M.length u.2) M), (fun v W => ∃ u : Option Addr × Nat, v = .slice u.1 M.length u.2 ∧ SpV W (.slice u.1 M.length u.2) M)]) (G := fun W W' => Below W.heap.size W W') (by rfl) ?hbeg ⟨by kernel_rfl, by kernel_rfl, by kernel_rfl, ?hkeep, ?hstab, Obs.all ?hobs, ?hlast⟩
  case hbeg =>
    try dsimp only
    exact keepMi ((Below.refl _ _).drew) CC.out
  case hkeep =>
    intro w' w'' hC hG
    try dsimp only at hC hG ⊢
    exact keepMi hG hC
  case hstab =>
    refine StableL.all ?_
    repeat (first | exact trivial | refine ⟨(by first | exact (fun _ _ _ _ h => h) | (exact fun v W W' hG h => by obtain ⟨u, hv, hs⟩ := h; exact ⟨u, hv, hs.on hG⟩)), ?_⟩)
  case hobs =>
    refine Obs.cons (k' := 1) rfl ?_ ?_
    · intro fa W hW hSame hRR KK hKK
      try dsimp only at hW
      have fb0 := hSame.base 0 (by kernel_rfl)
      simp only [List.getElem?_toArray, List.getElem?_cons_succ, List.getElem?_cons_zero] at fb0
      replace hKK : ∀ v w', Go.RowKit.Below W.heap.size W w' → v = Value.slice A l.length c → KK (Act.put fa _ v) w' := fun v w' h1 h2 => hKK v w' h1 h2
      clear hSame hRR
      rw [if_pos (wanted_plain rfl)]
      go_simp
      refine hKK _ _ ?_ ?_
      · first | exact Below.refl _ _ | exact (Below.refl _ _).alloc (Nat.le_refl _) _ | exact below_draw _ _ | assumption
      · exact rfl
    refine Obs.cons (k' := 2) rfl ?_ ?_
    · intro fa W hW hSame hRR KK hKK
      try dsimp only at hW
      obtain ⟨fv0, ft0, fm0⟩ := hRR 0 _ 5 rfl rfl (by kernel_rfl)
      replace fm0 : fv0 = Value.slice A l.length c := fm0
      subst fm0
      replace hKK : ∀ v w', Go.RowKit.Below W.heap.size W w' → (fun v W => ∃ u : Option Addr × Nat, v = .slice u.1 P.length u.2 ∧ SpV W (.slice u.1 P.length u.2) P) v w' → KK (Act.put fa _ v) w' := fun v w' h1 h2 => hKK v w' h1 h2
      clear hSame hRR
      rw [if_pos (wanted_plain rfl)]
      go_simp
      first
        | (go_at_call 29; refine (CS.out _ hW.2.1).mono ?_; rintro e w' ⟨v, hv, rfl, hb⟩; obtain ⟨A', c', rfl, -⟩ := id hv)
        | (go_at_call 58; refine (CG.out _ _ fm1).mono ?_; rintro e w' ⟨v, hv, rfl, hb⟩; obtain ⟨A', c', rfl, -⟩ := id hv)
      try dsimp only
      refine hKK _ _ ?_ ?_
      · first | exact Below.refl _ _ | exact (Below.refl _ _).alloc (Nat.le_refl _) _ | exact below_draw _ _ | assumption
      · try dsimp only
        first | exact trivial | exact rfl | (first | exact ⟨(_, _), rfl, hv⟩ | exact ⟨_, rfl, fm3⟩)
    refine Obs.cons (k' := 3) rfl ?_ ?_
    · intro fa W hW hSame hRR KK hKK
      try dsimp only at hW
      have fb3 := hSame.base 3 (by kernel_rfl)
      simp only [List.getElem?_toArray, List.getElem?_cons_succ, List.getElem?_cons_zero] at fb3
      replace hKK : ∀ v w', Go.RowKit.Below W.heap.size W w' → v = Value.agg #[Value.int IntKind.i64 s0, Value.int IntKind.i64 s1] → KK (Act.put fa _ v) w' := fun v w' h1 h2 => hKK v w' h1 h2
      clear hSame hRR
      rw [if_pos (wanted_plain rfl)]
      go_simp
      refine hKK _ _ ?_ ?_
      · first | exact Below.refl _ _ | exact (Below.refl _ _).alloc (Nat.le_refl _) _ | exact below_draw _ _ | assumption
      · exact rfl
    refine Obs.cons (k' := 4) rfl ?_ ?_
    · intro fa W hW hSame hRR KK hKK
      try dsimp only at hW
      obtain ⟨fv1, ft1, fm1⟩ := hRR 1 _ 6 rfl rfl (by kernel_rfl)
      replace fm1 : (fun v W => ∃ u : Option Addr × Nat, v = .slice u.1 P.length u.2 ∧ SpV W (.slice u.1 P.length u.2) P) fv1 W := fm1
      try dsimp only at fm1
      first | subst fm1 | obtain ⟨_, rfl, fm1⟩ := fm1
      obtain ⟨fv2, ft2, fm2⟩ := hRR 2 _ 7 rfl rfl (by kernel_rfl)
      replace fm2 : fv2 = Value.agg #[Value.int IntKind.i64 s0, Value.int IntKind.i64 s1] := fm2
      subst fm2
      replace hKK : ∀ v w', Go.RowKit.Below W.heap.size W w' → (fun v W => ∃ u : Option Addr × Nat, v = .slice u.1 M.length u.2 ∧ SpV W (.slice u.1 M.length u.2) M) v w' → KK (Act.put fa _ v) w' := fun v w' h1 h2 => hKK v w' h1 h2
      clear hSame hRR
      rw [if_pos (wanted_plain rfl)]
      go_simp
      first
        | (go_at_call 29; refine (CS.out _ hW.2.1).mono ?_; rintro e w' ⟨v, hv, rfl, hb⟩; obtain ⟨A', c', rfl, -⟩ := id hv)
        | (go_at_call 58; refine (CG.out _ _ fm1).mono ?_; rintro e w' ⟨v, hv, rfl, hb⟩; obtain ⟨A', c', rfl, -⟩ := id hv)
      try dsimp only
      refine hKK _ _ ?_ ?_
      · first | exact Below.refl _ _ | exact (Below.refl _ _).alloc (Nat.le_refl _) _ | exact below_draw _ _ | assumption
      · try dsimp only
        first | exact trivial | exact rfl | (first | exact ⟨(_, _), rfl, hv⟩ | exact ⟨_, rfl, fm3⟩)
    refine Obs.cons (k' := 5) rfl ?_ ?_
    · intro fa W hW hSame hRR KK hKK
      try dsimp only at hW
      obtain ⟨fv3, ft3, fm3⟩ := hRR 3 _ 8 rfl rfl (by kernel_rfl)
      replace fm3 : (fun v W => ∃ u : Option Addr × Nat, v = .slice u.1 M.length u.2 ∧ SpV W (.slice u.1 M.length u.2) M) fv3 W := fm3
      try dsimp only at fm3
      first | subst fm3 | obtain ⟨_, rfl, fm3⟩ := fm3
      replace hKK : ∀ v w', Go.RowKit.Below W.heap.size W w' → (fun v W => ∃ u : Option Addr × Nat, v = .slice u.1 M.length u.2 ∧ SpV W (.slice u.1 M.length u.2) M) v w' → KK (Act.put fa _ v) w' := fun v w' h1 h2 => hKK v w' h1 h2
      clear hSame hRR
      rw [if_pos (wanted_plain rfl)]
      go_simp
      refine hKK _ _ ?_ ?_
      · first | exact Below.refl _ _ | exact (Below.refl _ _).alloc (Nat.le_refl _) _ | exact below_draw _ _ | assumption
      · try dsimp only
        first | exact trivial | exact rfl | (first | exact ⟨(_, _), rfl, hv⟩ | exact ⟨_, rfl, fm3⟩)
    exact Obs.nil
  case hlast =>
    intro fa W hW hSame hRR
    try dsimp only at hW
    obtain ⟨vZ, ftZ, ⟨A3, c3⟩, rfl, h1⟩ := hRR 4 _ 4 rfl rfl
    dsimp only at h1 ftZ
    have hdf := hSame.defers
    obtain ⟨tm, df⟩ := fa
    dsimp only at hdf ftZ
    subst hdf
    have Q := Lib.hid (And.intro h1 hW.1)
    clear hSame hRR hW h1
    go_wp2_with fail
    refine bodyPost_ret (v := .slice A3 M.length c3) ?_ rfl ⟨_, Q.out.1, rfl, Q.out.2⟩
    rw [results_tmp rfl]
    simp [Array.getD_eq_getD_getElem?, ftZ]
end
end Go.Proofs.Ytmnmmbeageddkaa
