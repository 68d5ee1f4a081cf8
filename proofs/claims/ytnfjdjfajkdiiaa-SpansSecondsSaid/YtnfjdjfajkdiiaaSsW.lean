/- SpansSeconds: the walk. -/
import Derived.Test.YtnfjdjfajkdiiaaLiv11
import Derived.Test.YtnfjdjfajkdiiaaPairF
import Derived.Deep.CutRange
import Derived.Deep.DeepCutAuto
set_option linter.unusedVariables false
set_option linter.unusedSimpArgs false
namespace Go.Proofs.Ytnfjdjfajkdiiaa
open Go.RowKit Go.Sort Go.Shelf Go.Pairs

namespace Ss
/-- A set that is told. -/
def Is (kf : Bool → Bool → Bool) (a b l : List S) : Prop := Rs l ∧ (∀ t, inl l t = kf (inl a t) (inl b t)) ∧ l.length ≤ 2 * (a.length + b.length)
end Ss
theorem ckB {W W' : World} {a : Addr} {v : Value} (k : Below W.heap.size W W') (h : W.cell? a = some v) : W'.cell? a = some v := (k.cell (World.block_lt_of_cell? _ _ h)).trans h
theorem keepS5 {w W W' : World} {va vb : Value} {a b : List Ss.S} {g : Nat} {s0 s1 : Int} (k : Below W.heap.size W W')
    (h : Below w.heap.size w W ∧ SpV W va a ∧ SpV W vb b ∧ W.cell? ⟨g, 0, none⟩ = some (.int .i64 s0) ∧ W.cell? ⟨g, 1, none⟩ = some (.int .i64 s1)) :
    Below w.heap.size w W' ∧ SpV W' va a ∧ SpV W' vb b ∧ W'.cell? ⟨g, 0, none⟩ = some (.int .i64 s0) ∧ W'.cell? ⟨g, 1, none⟩ = some (.int .i64 s1) :=
  ⟨below_step h.1 k, h.2.1.on k, h.2.2.1.on k, ckB k h.2.2.2.1, ckB k h.2.2.2.2⟩
theorem keepS10 {w W W' : World} {va vo vn vl vg : Value} {a lo ln ll lg : List Ss.S} {g : Nat} {s0 s1 : Int} (k : Below W.heap.size W W')
    (h : Below w.heap.size w W ∧ SpV W va a ∧ SpV W vo lo ∧ SpV W vn ln ∧ SpV W vl ll ∧ SpV W vg lg ∧ W.cell? ⟨g, 0, none⟩ = some (.int .i64 s0) ∧ W.cell? ⟨g, 1, none⟩ = some (.int .i64 s1)) :
    Below w.heap.size w W' ∧ SpV W' va a ∧ SpV W' vo lo ∧ SpV W' vn ln ∧ SpV W' vl ll ∧ SpV W' vg lg ∧ W'.cell? ⟨g, 0, none⟩ = some (.int .i64 s0) ∧ W'.cell? ⟨g, 1, none⟩ = some (.int .i64 s1) :=
  ⟨below_step h.1 k, h.2.1.on k, h.2.2.1.on k, h.2.2.2.1.on k, h.2.2.2.2.1.on k, h.2.2.2.2.2.1.on k, ckB k h.2.2.2.2.2.2.1, ckB k h.2.2.2.2.2.2.2⟩
set_option maxRecDepth 100000 in
set_option maxHeartbeats 8000000 in
theorem spansSeconds_any (va : Value) (a : List Ss.S) (vb : Value) (b : List Ss.S) (s0 s1 t : Int) (w : World) (h : SpV w va a) (k : SpV w vb b) :
    Calls Try.prog 4 #[va, vb, .agg #[.int .i64 s0, .int .i64 s1], .int .i64 t] w fun e w' => e = .returned (.bool true) ∧ Below w.heap.size w w' := by
  obtain ⟨A, c, rfl, -⟩ := id h
  obtain ⟨B, d, rfl, -⟩ := id k
  have b0 : Below w.heap.size w (w.alloc (.cells #[.int .i64 s0, .int .i64 s1] 24)) := (Below.refl _ _).alloc (Nat.le_refl _) _
  have HA := Lib.hid (h.on b0); have HB := Lib.hid (k.on b0); have KS := Lib.hid (Blk.new w 24 #[.int .i64 s0, .int .i64 s1])
  have B0 := Lib.hid b0
  clear h k b0
  go_enter Try.func4, Try.ntmps4
  go_wp2_with fail
  refine (lives11_any _).mono ?_; rintro e w1 ⟨rfl, b1⟩
  have HA1 := Lib.hid (HA.out.on b1); have HB1 := Lib.hid (HB.out.on b1); have KS1 := Lib.hid (KS.out.on b1); have B1 := Lib.hid (below_step B0.out b1)
  clear HA HB KS B0 b1
  by_cases ha : (40 : Int) < a.length
  · go_wp2
    go_ret
    exact ⟨rfl, B1.out⟩
  by_cases hb : (40 : Int) < b.length
  · go_wp2
    go_ret
    exact ⟨rfl, B1.out⟩
  obtain ⟨g, hg⟩ : ∃ g, w.heap.size = g := ⟨_, rfl⟩
  rw [hg] at KS1 ⊢
  clear hg
  have LA := Lib.hid (show a.length ≤ 1000 by omega); have LB := Lib.hid (show b.length ≤ 1000 by omega); have LS := Lib.hid (show 2 * (a.length + b.length) ≤ 160 by omega); have LT := Lib.hid (show 2 * (1 + a.length) ≤ 160 by omega)
  go_upto_region 5 with (fail)
  have CC := Lib.hid (show (fun W => Below w1.heap.size w1 W ∧ SpV W (.slice A a.length c) a ∧ SpV W (.slice B b.length d) b ∧ W.cell? ⟨g, 0, none⟩ = some (.int .i64 s0) ∧ W.cell? ⟨g, 1, none⟩ = some (.int .i64 s1)) w1 from ⟨Below.refl _ _, HA1.out, HB1.out, KS1.out.c0, KS1.out.c1⟩)
  go_cut [9, 10, 11, 12] from 27 to 39 (fun vo vn vl vg wx => Below w1.heap.size w1 wx ∧ (∃ x : Option Addr × Nat × List Ss.S, vo = .slice x.1 x.2.2.length x.2.1 ∧ SpV wx (.slice x.1 x.2.2.length x.2.1) x.2.2 ∧ Ss.Is (fun x y => x || y) a b x.2.2) ∧ (∃ x : Option Addr × Nat × List Ss.S, vn = .slice x.1 x.2.2.length x.2.1 ∧ SpV wx (.slice x.1 x.2.2.length x.2.1) x.2.2 ∧ Ss.Is (fun x y => x && y) a b x.2.2) ∧ (∃ x : Option Addr × Nat × List Ss.S, vl = .slice x.1 x.2.2.length x.2.1 ∧ SpV wx (.slice x.1 x.2.2.length x.2.1) x.2.2 ∧ Ss.Is (fun x y => x && !y) a b x.2.2) ∧ (∃ x : Option Addr × Nat × List Ss.S, vg = .slice x.1 x.2.2.length x.2.1 ∧ SpV wx (.slice x.1 x.2.2.length x.2.1) x.2.2 ∧ Ss.Is (fun x y => x && !y) [(s0, s1)] a x.2.2))
  case first =>
    rename_i J0 K0 hJ hK
    refine wp_region_pairs (C := fun W => Below w1.heap.size w1 W ∧ SpV W (.slice A a.length c) a ∧ SpV W (.slice B b.length d) b ∧ W.cell? ⟨g, 0, none⟩ = some (.int .i64 s0) ∧ W.cell? ⟨g, 1, none⟩ = some (.int .i64 s1)) (R := markR [(fun v _ => v = Value.slice A a.length c), (fun v _ => v = Value.slice B b.length d), (fun v W => ∃ x : Option Addr × Nat × List Ss.S, v = .slice x.1 x.2.2.length x.2.1 ∧ SpV W (.slice x.1 x.2.2.length x.2.1) x.2.2 ∧ Ss.Is (fun x y => x || y) a b x.2.2), (fun v _ => v = Value.slice A a.length c), (fun v _ => v = Value.slice B b.length d), (fun v W => ∃ x : Option Addr × Nat × List Ss.S, v = .slice x.1 x.2.2.length x.2.1 ∧ SpV W (.slice x.1 x.2.2.length x.2.1) x.2.2 ∧ Ss.Is (fun x y => x && y) a b x.2.2), (fun v _ => v = Value.slice A a.length c), (fun v _ => v = Value.slice B b.length d), (fun v W => ∃ x : Option Addr × Nat × List Ss.S, v = .slice x.1 x.2.2.length x.2.1 ∧ SpV W (.slice x.1 x.2.2.length x.2.1) x.2.2 ∧ Ss.Is (fun x y => x && !y) a b x.2.2), (fun v _ => v = Value.slice A a.length c), (fun v _ => v = Value.agg #[Value.int IntKind.i64 s0, Value.int IntKind.i64 s1]), (fun v W => ∃ x : Option Addr × Nat × List Ss.S, v = .slice x.1 x.2.2.length x.2.1 ∧ SpV W (.slice x.1 x.2.2.length x.2.1) x.2.2 ∧ Ss.Is (fun x y => x && !y) [(s0, s1)] a x.2.2), (fun v W => ∃ x : Option Addr × Nat × List Ss.S, v = .slice x.1 x.2.2.length x.2.1 ∧ SpV W (.slice x.1 x.2.2.length x.2.1) x.2.2 ∧ Ss.Is (fun x y => x || y) a b x.2.2), (fun v W => ∃ x : Option Addr × Nat × List Ss.S, v = .slice x.1 x.2.2.length x.2.1 ∧ SpV W (.slice x.1 x.2.2.length x.2.1) x.2.2 ∧ Ss.Is (fun x y => x && y) a b x.2.2), (fun v W => ∃ x : Option Addr × Nat × List Ss.S, v = .slice x.1 x.2.2.length x.2.1 ∧ SpV W (.slice x.1 x.2.2.length x.2.1) x.2.2 ∧ Ss.Is (fun x y => x && !y) a b x.2.2), (fun v W => ∃ x : Option Addr × Nat × List Ss.S, v = .slice x.1 x.2.2.length x.2.1 ∧ SpV W (.slice x.1 x.2.2.length x.2.1) x.2.2 ∧ Ss.Is (fun x y => x && !y) [(s0, s1)] a x.2.2)]) (G := fun W W' => Below W.heap.size W W') (by rfl) ?hbeg ⟨by kernel_rfl, by kernel_rfl, by kernel_rfl, ?hkeep, ?hstab, Obs.all ?hobs, ?hlast⟩
    case hbeg =>
      try dsimp only
      exact keepS5 ((Below.refl _ _).drew) CC.out
    case hkeep =>
      intro w' w'' hC hG
      try dsimp only at hC hG ⊢
      exact keepS5 hG hC
    case hstab =>
      refine StableL.all ?_
      repeat (first | exact trivial | refine ⟨(by first | exact (fun _ _ _ _ h => h) | (exact fun v W W' hG h => by obtain ⟨u, hv, hs, hr⟩ := h; exact ⟨u, hv, hs.on hG, hr⟩)), ?_⟩)
    case hobs =>
      refine Obs.cons (k' := 1) rfl ?_ ?_
      · intro fa W hW hSame hRR KK hKK
        try dsimp only at hW
        have fb0 := hSame.base 0 (by kernel_rfl)
        simp only [List.getElem?_toArray, List.getElem?_cons_succ, List.getElem?_cons_zero] at fb0
        replace hKK : ∀ v w', Go.RowKit.Below W.heap.size W w' → v = Value.slice A a.length c → KK (Act.put fa _ v) w' := fun v w' h1 h2 => hKK v w' h1 h2
        clear hSame hRR
        rw [if_pos (wanted_plain rfl)]
        go_simp
        refine hKK _ _ ?_ ?_
        · first | exact Below.refl _ _ | exact (Below.refl _ _).alloc (Nat.le_refl _) _ | exact below_draw _ _ | assumption
        · exact rfl
      refine Obs.cons (k' := 2) rfl ?_ ?_
      · intro fa W hW hSame hRR KK hKK
        try dsimp only at hW
        have fb1 := hSame.base 1 (by kernel_rfl)
        simp only [List.getElem?_toArray, List.getElem?_cons_succ, List.getElem?_cons_zero] at fb1
        replace hKK : ∀ v w', Go.RowKit.Below W.heap.size W w' → v = Value.slice B b.length d → KK (Act.put fa _ v) w' := fun v w' h1 h2 => hKK v w' h1 h2
        clear hSame hRR
        rw [if_pos (wanted_plain rfl)]
        go_simp
        refine hKK _ _ ?_ ?_
        · first | exact Below.refl _ _ | exact (Below.refl _ _).alloc (Nat.le_refl _) _ | exact below_draw _ _ | assumption
        · exact rfl
      refine Obs.cons (k' := 3) rfl ?_ ?_
      · intro fa W hW hSame hRR KK hKK
        try dsimp only at hW
        obtain ⟨fv0, ft0, fm0⟩ := hRR 0 _ 27 rfl rfl (by kernel_rfl)
        replace fm0 : fv0 = Value.slice A a.length c := fm0
        subst fm0
        obtain ⟨fv1, ft1, fm1⟩ := hRR 1 _ 28 rfl rfl (by kernel_rfl)
        replace fm1 : fv1 = Value.slice B b.length d := fm1
        subst fm1
        replace hKK : ∀ v w', Go.RowKit.Below W.heap.size W w' → (fun v W => ∃ x : Option Addr × Nat × List Ss.S, v = .slice x.1 x.2.2.length x.2.1 ∧ SpV W (.slice x.1 x.2.2.length x.2.1) x.2.2 ∧ Ss.Is (fun x y => x || y) a b x.2.2) v w' → KK (Act.put fa _ v) w' := fun v w' h1 h2 => hKK v w' h1 h2
        clear hSame hRR
        rw [if_pos (wanted_plain rfl)]
        go_simp
        first
            | (go_at_call 17; refine (spans_or _ _ a b _ hW.2.1 hW.2.2.1 LA.out LB.out).mono ?_; rintro e w' ⟨v, l, rfl, hv, h2, h3, h4, hb⟩; obtain ⟨A', c', rfl, -⟩ := id hv; have hr : Ss.Is (fun x y => x || y) a b l := ⟨h2, h3, h4⟩)
            | (go_at_call 19; refine (spans_and _ _ a b _ hW.2.1 hW.2.2.1 LA.out LB.out).mono ?_; rintro e w' ⟨v, l, rfl, hv, h2, h3, h4, hb⟩; obtain ⟨A', c', rfl, -⟩ := id hv; have hr : Ss.Is (fun x y => x && y) a b l := ⟨h2, h3, h4⟩)
            | (go_at_call 21; refine (spans_less _ _ a b _ hW.2.1 hW.2.2.1 LA.out LB.out).mono ?_; rintro e w' ⟨v, l, rfl, hv, h2, h3, h4, hb⟩; obtain ⟨A', c', rfl, -⟩ := id hv; have hr : Ss.Is (fun x y => x && !y) a b l := ⟨h2, h3, h4⟩)
            | (go_at_call 23; refine (spans_gaps _ a s0 s1 _ hW.2.1 LA.out).mono ?_; rintro e w' ⟨v, l, rfl, hv, h2, h3, h4, hb⟩; obtain ⟨A', c', rfl, -⟩ := id hv; have hr : Ss.Is (fun x y => x && !y) [(s0, s1)] a l := ⟨h2, h3, h4⟩)
        try dsimp only
        refine hKK _ _ ?_ ?_
        · first | exact Below.refl _ _ | exact (Below.refl _ _).alloc (Nat.le_refl _) _ | exact below_draw _ _ | assumption
        · try dsimp only
          first | exact trivial | exact rfl | (first | exact ⟨(_, _, _), rfl, hv, hr⟩ | exact ⟨_, rfl, fm2⟩ | exact ⟨_, rfl, fm5⟩ | exact ⟨_, rfl, fm8⟩ | exact ⟨_, rfl, fm11⟩)
      refine Obs.cons (k' := 4) rfl ?_ ?_
      · intro fa W hW hSame hRR KK hKK
        try dsimp only at hW
        have fb0 := hSame.base 0 (by kernel_rfl)
        simp only [List.getElem?_toArray, List.getElem?_cons_succ, List.getElem?_cons_zero] at fb0
        replace hKK : ∀ v w', Go.RowKit.Below W.heap.size W w' → v = Value.slice A a.length c → KK (Act.put fa _ v) w' := fun v w' h1 h2 => hKK v w' h1 h2
        clear hSame hRR
        rw [if_pos (wanted_plain rfl)]
        go_simp
        refine hKK _ _ ?_ ?_
        · first | exact Below.refl _ _ | exact (Below.refl _ _).alloc (Nat.le_refl _) _ | exact below_draw _ _ | assumption
        · exact rfl
      refine Obs.cons (k' := 5) rfl ?_ ?_
      · intro fa W hW hSame hRR KK hKK
        try dsimp only at hW
        have fb1 := hSame.base 1 (by kernel_rfl)
        simp only [List.getElem?_toArray, List.getElem?_cons_succ, List.getElem?_cons_zero] at fb1
        replace hKK : ∀ v w', Go.RowKit.Below W.heap.size W w' → v = Value.slice B b.length d → KK (Act.put fa _ v) w' := fun v w' h1 h2 => hKK v w' h1 h2
        clear hSame hRR
        rw [if_pos (wanted_plain rfl)]
        go_simp
        refine hKK _ _ ?_ ?_
        · first | exact Below.refl _ _ | exact (Below.refl _ _).alloc (Nat.le_refl _) _ | exact below_draw _ _ | assumption
        · exact rfl
      refine Obs.cons (k' := 6) rfl ?_ ?_
      · intro fa W hW hSame hRR KK hKK
        try dsimp only at hW
        obtain ⟨fv3, ft3, fm3⟩ := hRR 3 _ 30 rfl rfl (by kernel_rfl)
        replace fm3 : fv3 = Value.slice A a.length c := fm3
        subst fm3
        obtain ⟨fv4, ft4, fm4⟩ := hRR 4 _ 31 rfl rfl (by kernel_rfl)
        replace fm4 : fv4 = Value.slice B b.length d := fm4
        subst fm4
        replace hKK : ∀ v w', Go.RowKit.Below W.heap.size W w' → (fun v W => ∃ x : Option Addr × Nat × List Ss.S, v = .slice x.1 x.2.2.length x.2.1 ∧ SpV W (.slice x.1 x.2.2.length x.2.1) x.2.2 ∧ Ss.Is (fun x y => x && y) a b x.2.2) v w' → KK (Act.put fa _ v) w' := fun v w' h1 h2 => hKK v w' h1 h2
        clear hSame hRR
        rw [if_pos (wanted_plain rfl)]
        go_simp
        first
            | (go_at_call 17; refine (spans_or _ _ a b _ hW.2.1 hW.2.2.1 LA.out LB.out).mono ?_; rintro e w' ⟨v, l, rfl, hv, h2, h3, h4, hb⟩; obtain ⟨A', c', rfl, -⟩ := id hv; have hr : Ss.Is (fun x y => x || y) a b l := ⟨h2, h3, h4⟩)
            | (go_at_call 19; refine (spans_and _ _ a b _ hW.2.1 hW.2.2.1 LA.out LB.out).mono ?_; rintro e w' ⟨v, l, rfl, hv, h2, h3, h4, hb⟩; obtain ⟨A', c', rfl, -⟩ := id hv; have hr : Ss.Is (fun x y => x && y) a b l := ⟨h2, h3, h4⟩)
            | (go_at_call 21; refine (spans_less _ _ a b _ hW.2.1 hW.2.2.1 LA.out LB.out).mono ?_; rintro e w' ⟨v, l, rfl, hv, h2, h3, h4, hb⟩; obtain ⟨A', c', rfl, -⟩ := id hv; have hr : Ss.Is (fun x y => x && !y) a b l := ⟨h2, h3, h4⟩)
            | (go_at_call 23; refine (spans_gaps _ a s0 s1 _ hW.2.1 LA.out).mono ?_; rintro e w' ⟨v, l, rfl, hv, h2, h3, h4, hb⟩; obtain ⟨A', c', rfl, -⟩ := id hv; have hr : Ss.Is (fun x y => x && !y) [(s0, s1)] a l := ⟨h2, h3, h4⟩)
        try dsimp only
        refine hKK _ _ ?_ ?_
        · first | exact Below.refl _ _ | exact (Below.refl _ _).alloc (Nat.le_refl _) _ | exact below_draw _ _ | assumption
        · try dsimp only
          first | exact trivial | exact rfl | (first | exact ⟨(_, _, _), rfl, hv, hr⟩ | exact ⟨_, rfl, fm2⟩ | exact ⟨_, rfl, fm5⟩ | exact ⟨_, rfl, fm8⟩ | exact ⟨_, rfl, fm11⟩)
      refine Obs.cons (k' := 7) rfl ?_ ?_
      · intro fa W hW hSame hRR KK hKK
        try dsimp only at hW
        have fb0 := hSame.base 0 (by kernel_rfl)
        simp only [List.getElem?_toArray, List.getElem?_cons_succ, List.getElem?_cons_zero] at fb0
        replace hKK : ∀ v w', Go.RowKit.Below W.heap.size W w' → v = Value.slice A a.length c → KK (Act.put fa _ v) w' := fun v w' h1 h2 => hKK v w' h1 h2
        clear hSame hRR
        rw [if_pos (wanted_plain rfl)]
        go_simp
        refine hKK _ _ ?_ ?_
        · first | exact Below.refl _ _ | exact (Below.refl _ _).alloc (Nat.le_refl _) _ | exact below_draw _ _ | assumption
        · exact rfl
      refine Obs.cons (k' := 8) rfl ?_ ?_
      · intro fa W hW hSame hRR KK hKK
        try dsimp only at hW
        have fb1 := hSame.base 1 (by kernel_rfl)
        simp only [List.getElem?_toArray, List.getElem?_cons_succ, List.getElem?_cons_zero] at fb1
        replace hKK : ∀ v w', Go.RowKit.Below W.heap.size W w' → v = Value.slice B b.length d → KK (Act.put fa _ v) w' := fun v w' h1 h2 => hKK v w' h1 h2
        clear hSame hRR
        rw [if_pos (wanted_plain rfl)]
        go_simp
        refine hKK _ _ ?_ ?_
        · first | exact Below.refl _ _ | exact (Below.refl _ _).alloc (Nat.le_refl _) _ | exact below_draw _ _ | assumption
        · exact rfl
      refine Obs.cons (k' := 9) rfl ?_ ?_
      · intro fa W hW hSame hRR KK hKK
        try dsimp only at hW
        obtain ⟨fv6, ft6, fm6⟩ := hRR 6 _ 33 rfl rfl (by kernel_rfl)
        replace fm6 : fv6 = Value.slice A a.length c := fm6
        subst fm6
        obtain ⟨fv7, ft7, fm7⟩ := hRR 7 _ 34 rfl rfl (by kernel_rfl)
        replace fm7 : fv7 = Value.slice B b.length d := fm7
        subst fm7
        replace hKK : ∀ v w', Go.RowKit.Below W.heap.size W w' → (fun v W => ∃ x : Option Addr × Nat × List Ss.S, v = .slice x.1 x.2.2.length x.2.1 ∧ SpV W (.slice x.1 x.2.2.length x.2.1) x.2.2 ∧ Ss.Is (fun x y => x && !y) a b x.2.2) v w' → KK (Act.put fa _ v) w' := fun v w' h1 h2 => hKK v w' h1 h2
        clear hSame hRR
        rw [if_pos (wanted_plain rfl)]
        go_simp
        first
            | (go_at_call 17; refine (spans_or _ _ a b _ hW.2.1 hW.2.2.1 LA.out LB.out).mono ?_; rintro e w' ⟨v, l, rfl, hv, h2, h3, h4, hb⟩; obtain ⟨A', c', rfl, -⟩ := id hv; have hr : Ss.Is (fun x y => x || y) a b l := ⟨h2, h3, h4⟩)
            | (go_at_call 19; refine (spans_and _ _ a b _ hW.2.1 hW.2.2.1 LA.out LB.out).mono ?_; rintro e w' ⟨v, l, rfl, hv, h2, h3, h4, hb⟩; obtain ⟨A', c', rfl, -⟩ := id hv; have hr : Ss.Is (fun x y => x && y) a b l := ⟨h2, h3, h4⟩)
            | (go_at_call 21; refine (spans_less _ _ a b _ hW.2.1 hW.2.2.1 LA.out LB.out).mono ?_; rintro e w' ⟨v, l, rfl, hv, h2, h3, h4, hb⟩; obtain ⟨A', c', rfl, -⟩ := id hv; have hr : Ss.Is (fun x y => x && !y) a b l := ⟨h2, h3, h4⟩)
            | (go_at_call 23; refine (spans_gaps _ a s0 s1 _ hW.2.1 LA.out).mono ?_; rintro e w' ⟨v, l, rfl, hv, h2, h3, h4, hb⟩; obtain ⟨A', c', rfl, -⟩ := id hv; have hr : Ss.Is (fun x y => x && !y) [(s0, s1)] a l := ⟨h2, h3, h4⟩)
        try dsimp only
        refine hKK _ _ ?_ ?_
        · first | exact Below.refl _ _ | exact (Below.refl _ _).alloc (Nat.le_refl _) _ | exact below_draw _ _ | assumption
        · try dsimp only
          first | exact trivial | exact rfl | (first | exact ⟨(_, _, _), rfl, hv, hr⟩ | exact ⟨_, rfl, fm2⟩ | exact ⟨_, rfl, fm5⟩ | exact ⟨_, rfl, fm8⟩ | exact ⟨_, rfl, fm11⟩)
      refine Obs.cons (k' := 10) rfl ?_ ?_
      · intro fa W hW hSame hRR KK hKK
        try dsimp only at hW
        have fb0 := hSame.base 0 (by kernel_rfl)
        simp only [List.getElem?_toArray, List.getElem?_cons_succ, List.getElem?_cons_zero] at fb0
        replace hKK : ∀ v w', Go.RowKit.Below W.heap.size W w' → v = Value.slice A a.length c → KK (Act.put fa _ v) w' := fun v w' h1 h2 => hKK v w' h1 h2
        clear hSame hRR
        rw [if_pos (wanted_plain rfl)]
        go_simp
        refine hKK _ _ ?_ ?_
        · first | exact Below.refl _ _ | exact (Below.refl _ _).alloc (Nat.le_refl _) _ | exact below_draw _ _ | assumption
        · exact rfl
      refine Obs.cons (k' := 11) rfl ?_ ?_
      · intro fa W hW hSame hRR KK hKK
        try dsimp only at hW
        have fb6 := hSame.base 6 (by kernel_rfl)
        simp only [List.getElem?_toArray, List.getElem?_cons_succ, List.getElem?_cons_zero] at fb6
        replace hKK : ∀ v w', Go.RowKit.Below W.heap.size W w' → v = Value.agg #[Value.int IntKind.i64 s0, Value.int IntKind.i64 s1] → KK (Act.put fa _ v) w' := fun v w' h1 h2 => hKK v w' h1 h2
        clear hSame hRR
        rw [if_pos (wanted_plain rfl)]
        go_simp
        refine hKK _ _ ?_ ?_
        · first | exact Below.refl _ _ | exact (Below.refl _ _).alloc (Nat.le_refl _) _ | exact below_draw _ _ | assumption
        · exact rfl
      refine Obs.cons (k' := 12) rfl ?_ ?_
      · intro fa W hW hSame hRR KK hKK
        try dsimp only at hW
        obtain ⟨fv9, ft9, fm9⟩ := hRR 9 _ 36 rfl rfl (by kernel_rfl)
        replace fm9 : fv9 = Value.slice A a.length c := fm9
        subst fm9
        obtain ⟨fv10, ft10, fm10⟩ := hRR 10 _ 37 rfl rfl (by kernel_rfl)
        replace fm10 : fv10 = Value.agg #[Value.int IntKind.i64 s0, Value.int IntKind.i64 s1] := fm10
        subst fm10
        replace hKK : ∀ v w', Go.RowKit.Below W.heap.size W w' → (fun v W => ∃ x : Option Addr × Nat × List Ss.S, v = .slice x.1 x.2.2.length x.2.1 ∧ SpV W (.slice x.1 x.2.2.length x.2.1) x.2.2 ∧ Ss.Is (fun x y => x && !y) [(s0, s1)] a x.2.2) v w' → KK (Act.put fa _ v) w' := fun v w' h1 h2 => hKK v w' h1 h2
        clear hSame hRR
        rw [if_pos (wanted_plain rfl)]
        go_simp
        first
            | (go_at_call 17; refine (spans_or _ _ a b _ hW.2.1 hW.2.2.1 LA.out LB.out).mono ?_; rintro e w' ⟨v, l, rfl, hv, h2, h3, h4, hb⟩; obtain ⟨A', c', rfl, -⟩ := id hv; have hr : Ss.Is (fun x y => x || y) a b l := ⟨h2, h3, h4⟩)
            | (go_at_call 19; refine (spans_and _ _ a b _ hW.2.1 hW.2.2.1 LA.out LB.out).mono ?_; rintro e w' ⟨v, l, rfl, hv, h2, h3, h4, hb⟩; obtain ⟨A', c', rfl, -⟩ := id hv; have hr : Ss.Is (fun x y => x && y) a b l := ⟨h2, h3, h4⟩)
            | (go_at_call 21; refine (spans_less _ _ a b _ hW.2.1 hW.2.2.1 LA.out LB.out).mono ?_; rintro e w' ⟨v, l, rfl, hv, h2, h3, h4, hb⟩; obtain ⟨A', c', rfl, -⟩ := id hv; have hr : Ss.Is (fun x y => x && !y) a b l := ⟨h2, h3, h4⟩)
            | (go_at_call 23; refine (spans_gaps _ a s0 s1 _ hW.2.1 LA.out).mono ?_; rintro e w' ⟨v, l, rfl, hv, h2, h3, h4, hb⟩; obtain ⟨A', c', rfl, -⟩ := id hv; have hr : Ss.Is (fun x y => x && !y) [(s0, s1)] a l := ⟨h2, h3, h4⟩)
        try dsimp only
        refine hKK _ _ ?_ ?_
        · first | exact Below.refl _ _ | exact (Below.refl _ _).alloc (Nat.le_refl _) _ | exact below_draw _ _ | assumption
        · try dsimp only
          first | exact trivial | exact rfl | (first | exact ⟨(_, _, _), rfl, hv, hr⟩ | exact ⟨_, rfl, fm2⟩ | exact ⟨_, rfl, fm5⟩ | exact ⟨_, rfl, fm8⟩ | exact ⟨_, rfl, fm11⟩)
      refine Obs.cons (k' := 13) rfl ?_ ?_
      · intro fa W hW hSame hRR KK hKK
        try dsimp only at hW
        obtain ⟨fv2, ft2, fm2⟩ := hRR 2 _ 29 rfl rfl (by kernel_rfl)
        replace fm2 : (fun v W => ∃ x : Option Addr × Nat × List Ss.S, v = .slice x.1 x.2.2.length x.2.1 ∧ SpV W (.slice x.1 x.2.2.length x.2.1) x.2.2 ∧ Ss.Is (fun x y => x || y) a b x.2.2) fv2 W := fm2
        try dsimp only at fm2
        first | subst fm2 | obtain ⟨_, rfl, fm2⟩ := fm2
        replace hKK : ∀ v w', Go.RowKit.Below W.heap.size W w' → (fun v W => ∃ x : Option Addr × Nat × List Ss.S, v = .slice x.1 x.2.2.length x.2.1 ∧ SpV W (.slice x.1 x.2.2.length x.2.1) x.2.2 ∧ Ss.Is (fun x y => x || y) a b x.2.2) v w' → KK (Act.put fa _ v) w' := fun v w' h1 h2 => hKK v w' h1 h2
        clear hSame hRR
        rw [if_pos (wanted_plain rfl)]
        go_simp
        refine hKK _ _ ?_ ?_
        · first | exact Below.refl _ _ | exact (Below.refl _ _).alloc (Nat.le_refl _) _ | exact below_draw _ _ | assumption
        · try dsimp only
          first | exact trivial | exact rfl | (first | exact ⟨(_, _, _), rfl, hv, hr⟩ | exact ⟨_, rfl, fm2⟩ | exact ⟨_, rfl, fm5⟩ | exact ⟨_, rfl, fm8⟩ | exact ⟨_, rfl, fm11⟩)
      refine Obs.cons (k' := 14) rfl ?_ ?_
      · intro fa W hW hSame hRR KK hKK
        try dsimp only at hW
        obtain ⟨fv5, ft5, fm5⟩ := hRR 5 _ 32 rfl rfl (by kernel_rfl)
        replace fm5 : (fun v W => ∃ x : Option Addr × Nat × List Ss.S, v = .slice x.1 x.2.2.length x.2.1 ∧ SpV W (.slice x.1 x.2.2.length x.2.1) x.2.2 ∧ Ss.Is (fun x y => x && y) a b x.2.2) fv5 W := fm5
        try dsimp only at fm5
        first | subst fm5 | obtain ⟨_, rfl, fm5⟩ := fm5
        replace hKK : ∀ v w', Go.RowKit.Below W.heap.size W w' → (fun v W => ∃ x : Option Addr × Nat × List Ss.S, v = .slice x.1 x.2.2.length x.2.1 ∧ SpV W (.slice x.1 x.2.2.length x.2.1) x.2.2 ∧ Ss.Is (fun x y => x && y) a b x.2.2) v w' → KK (Act.put fa _ v) w' := fun v w' h1 h2 => hKK v w' h1 h2
        clear hSame hRR
        rw [if_pos (wanted_plain rfl)]
        go_simp
        refine hKK _ _ ?_ ?_
        · first | exact Below.refl _ _ | exact (Below.refl _ _).alloc (Nat.le_refl _) _ | exact below_draw _ _ | assumption
        · try dsimp only
          first | exact trivial | exact rfl | (first | exact ⟨(_, _, _), rfl, hv, hr⟩ | exact ⟨_, rfl, fm2⟩ | exact ⟨_, rfl, fm5⟩ | exact ⟨_, rfl, fm8⟩ | exact ⟨_, rfl, fm11⟩)
      refine Obs.cons (k' := 15) rfl ?_ ?_
      · intro fa W hW hSame hRR KK hKK
        try dsimp only at hW
        obtain ⟨fv8, ft8, fm8⟩ := hRR 8 _ 35 rfl rfl (by kernel_rfl)
        replace fm8 : (fun v W => ∃ x : Option Addr × Nat × List Ss.S, v = .slice x.1 x.2.2.length x.2.1 ∧ SpV W (.slice x.1 x.2.2.length x.2.1) x.2.2 ∧ Ss.Is (fun x y => x && !y) a b x.2.2) fv8 W := fm8
        try dsimp only at fm8
        first | subst fm8 | obtain ⟨_, rfl, fm8⟩ := fm8
        replace hKK : ∀ v w', Go.RowKit.Below W.heap.size W w' → (fun v W => ∃ x : Option Addr × Nat × List Ss.S, v = .slice x.1 x.2.2.length x.2.1 ∧ SpV W (.slice x.1 x.2.2.length x.2.1) x.2.2 ∧ Ss.Is (fun x y => x && !y) a b x.2.2) v w' → KK (Act.put fa _ v) w' := fun v w' h1 h2 => hKK v w' h1 h2
        clear hSame hRR
        rw [if_pos (wanted_plain rfl)]
        go_simp
        refine hKK _ _ ?_ ?_
        · first | exact Below.refl _ _ | exact (Below.refl _ _).alloc (Nat.le_refl _) _ | exact below_draw _ _ | assumption
        · try dsimp only
          first | exact trivial | exact rfl | (first | exact ⟨(_, _, _), rfl, hv, hr⟩ | exact ⟨_, rfl, fm2⟩ | exact ⟨_, rfl, fm5⟩ | exact ⟨_, rfl, fm8⟩ | exact ⟨_, rfl, fm11⟩)
      refine Obs.cons (k' := 16) rfl ?_ ?_
      · intro fa W hW hSame hRR KK hKK
        try dsimp only at hW
        obtain ⟨fv11, ft11, fm11⟩ := hRR 11 _ 38 rfl rfl (by kernel_rfl)
        replace fm11 : (fun v W => ∃ x : Option Addr × Nat × List Ss.S, v = .slice x.1 x.2.2.length x.2.1 ∧ SpV W (.slice x.1 x.2.2.length x.2.1) x.2.2 ∧ Ss.Is (fun x y => x && !y) [(s0, s1)] a x.2.2) fv11 W := fm11
        try dsimp only at fm11
        first | subst fm11 | obtain ⟨_, rfl, fm11⟩ := fm11
        replace hKK : ∀ v w', Go.RowKit.Below W.heap.size W w' → (fun v W => ∃ x : Option Addr × Nat × List Ss.S, v = .slice x.1 x.2.2.length x.2.1 ∧ SpV W (.slice x.1 x.2.2.length x.2.1) x.2.2 ∧ Ss.Is (fun x y => x && !y) [(s0, s1)] a x.2.2) v w' → KK (Act.put fa _ v) w' := fun v w' h1 h2 => hKK v w' h1 h2
        clear hSame hRR
        rw [if_pos (wanted_plain rfl)]
        go_simp
        refine hKK _ _ ?_ ?_
        · first | exact Below.refl _ _ | exact (Below.refl _ _).alloc (Nat.le_refl _) _ | exact below_draw _ _ | assumption
        · try dsimp only
          first | exact trivial | exact rfl | (first | exact ⟨(_, _, _), rfl, hv, hr⟩ | exact ⟨_, rfl, fm2⟩ | exact ⟨_, rfl, fm5⟩ | exact ⟨_, rfl, fm8⟩ | exact ⟨_, rfl, fm11⟩)
      exact Obs.nil
    case hlast =>
      intro fa W hW hSame hRR
      try dsimp only at hW
      obtain ⟨vo, ot, mo⟩ := hRR 12 _ 9 rfl rfl
      obtain ⟨vn, nt, mn⟩ := hRR 13 _ 10 rfl rfl
      obtain ⟨vl, lt, ml⟩ := hRR 14 _ 11 rfl rfl
      obtain ⟨vg, gt, mg⟩ := hRR 15 _ 12 rfl rfl
      refine hK _ _ (Met.intro (hJ _ _ ⟨fa.tmps.getD 9 undef, fa.tmps.getD 10 undef, fa.tmps.getD 11 undef, fa.tmps.getD 12 undef, fa.tmps.getD 27 undef, fa.tmps.getD 28 undef, fa.tmps.getD 29 undef, fa.tmps.getD 30 undef, fa.tmps.getD 31 undef, fa.tmps.getD 32 undef, fa.tmps.getD 33 undef, fa.tmps.getD 34 undef, fa.tmps.getD 35 undef, fa.tmps.getD 36 undef, fa.tmps.getD 37 undef, fa.tmps.getD 38 undef, undef, ⟨hW.1, ?_, ?_, ?_, ?_⟩, hSame.fill.trans (by kernel_rfl)⟩))
      · rw [getD_of ot]; exact mo
      · rw [getD_of nt]; exact mn
      · rw [getD_of lt]; exact ml
      · rw [getD_of gt]; exact mg
  case rest =>
    obtain ⟨bw, ⟨⟨Ao, co, lo⟩, rfl, so, io⟩, ⟨⟨An, cn, ln⟩, rfl, sn, iN⟩, ⟨⟨Al, cl, ll⟩, rfl, sl, il⟩, ⟨⟨Ag, cg, lg⟩, rfl, sg, ig⟩⟩ := hcut
    dsimp only at so io sn iN sl il sg ig ⊢
    obtain ⟨P, hP⟩ : ∃ P, Ss.inl a t = P := ⟨_, rfl⟩
    obtain ⟨Q, hQ⟩ : ∃ Q, Ss.inl b t = Q := ⟨_, rfl⟩
    obtain ⟨H, hH⟩ : ∃ H, Sp.hs s0 s1 t = H := ⟨_, rfl⟩
    have EP := Lib.hid hP; have EQ := Lib.hid hQ; have EH := Lib.hid hH
    have EO := Lib.hid (show Ss.inl lo t = (P || Q) by rw [io.2.1 t, hP, hQ])
    have EN := Lib.hid (show Ss.inl ln t = (P && Q) by rw [iN.2.1 t, hP, hQ])
    have EL := Lib.hid (show Ss.inl ll t = (P && !Q) by rw [il.2.1 t, hP, hQ])
    have EG := Lib.hid (show Ss.inl lg t = (H && !P) by rw [ig.2.1 t, Ss.inl_one, hP, hH])
    have IO := Lib.hid io; have IN := Lib.hid iN; have IL := Lib.hid il; have IG := Lib.hid ig
    have HA2 := Lib.hid (HA1.out.on bw); have HB2 := Lib.hid (HB1.out.on bw); have KS2 := Lib.hid (KS1.out.on bw); have B2 := Lib.hid (below_step B1.out bw)
    have So2 := Lib.hid so; have Sn2 := Lib.hid sn; have Sl2 := Lib.hid sl; have Sg2 := Lib.hid sg
    clear HA1 HB1 KS1 B1 bw so sn sl sg io iN il ig hP hQ hH CC
    go_wp2_with fail
    refine (find_any _ a t _ HA2.out LA.out).mono ?_
    rintro e w3 ⟨lf, r1, r2, rfl, bw⟩
    obtain ⟨f1, f2⟩ := Ss.fd_has t lf Ss.fd rfl (fun p r => rfl)
    rw [r2 t, EP.out] at f1 f2
    generalize Ss.fd t lf = q at *
    obtain ⟨x0, x1, x2⟩ := q
    dsimp only at f1 f2 ⊢
    subst x2
    have EX := Lib.hid f2
    have HA3 := Lib.hid (HA2.out.on bw); have HB3 := Lib.hid (HB2.out.on bw); have KS3 := Lib.hid (KS2.out.on bw); have B3 := Lib.hid (below_step B2.out bw); have So3 := Lib.hid (So2.out.on bw); have Sn3 := Lib.hid (Sn2.out.on bw); have Sl3 := Lib.hid (Sl2.out.on bw); have Sg3 := Lib.hid (Sg2.out.on bw)
    clear HA2 HB2 KS2 B2 So2 Sn2 Sl2 Sg2 bw f2 r1 r2
    have bw : Below w3.heap.size w3 (w3.alloc (.cells #[.int .i64 x0, .int .i64 x1] 24)) := (Below.refl _ _).alloc (Nat.le_refl _) _
    have KX4 := Lib.hid (Blk.new w3 24 #[.int .i64 x0, .int .i64 x1])
    have HA4 := Lib.hid (HA3.out.on bw); have HB4 := Lib.hid (HB3.out.on bw); have KS4 := Lib.hid (KS3.out.on bw); have B4 := Lib.hid (below_step B3.out bw); have So4 := Lib.hid (So3.out.on bw); have Sn4 := Lib.hid (Sn3.out.on bw); have Sl4 := Lib.hid (Sl3.out.on bw); have Sg4 := Lib.hid (Sg3.out.on bw)
    clear HA3 HB3 KS3 B3 So3 Sn3 Sl3 Sg3 bw
    go_wp2_with fail
    generalize w3.heap.size = gx at *
    refine (in_any _ a t _ HA4.out (by have := LA.out; omega)).mono ?_
    rintro e w5 ⟨rfl, bw⟩
    rw [EP.out]
    have HA5 := Lib.hid (HA4.out.on bw); have HB5 := Lib.hid (HB4.out.on bw); have KS5 := Lib.hid (KS4.out.on bw); have KX5 := Lib.hid (KX4.out.on bw); have B5 := Lib.hid (below_step B4.out bw); have So5 := Lib.hid (So4.out.on bw); have Sn5 := Lib.hid (Sn4.out.on bw); have Sl5 := Lib.hid (Sl4.out.on bw); have Sg5 := Lib.hid (Sg4.out.on bw)
    clear HA4 HB4 KS4 KX4 B4 So4 Sn4 Sl4 Sg4 bw
    have c0 := KX5.out.c0; have c1 := KX5.out.c1
    go_wp2_with fail
    refine (span_has x0 x1 t _).mono ?_
    rintro e w6 ⟨rfl, bw⟩
    rw [EX.out]
    clear c0 c1
    have HA6 := Lib.hid (HA5.out.on bw); have HB6 := Lib.hid (HB5.out.on bw); have KS6 := Lib.hid (KS5.out.on bw); have KX6 := Lib.hid (KX5.out.on bw); have B6 := Lib.hid (below_step B5.out bw); have So6 := Lib.hid (So5.out.on bw); have Sn6 := Lib.hid (Sn5.out.on bw); have Sl6 := Lib.hid (Sl5.out.on bw); have Sg6 := Lib.hid (Sg5.out.on bw)
    clear HA5 HB5 KS5 KX5 B5 So5 Sn5 Sl5 Sg5 bw
    go_wp2_with fail
    refine (spans_rset _ lo _ So6.out (by have := IO.out.2.2; have := LS.out; omega)).mono ?_
    rintro e w7 ⟨rfl, bw⟩
    rw [Ss.rr_none lo IO.out.1]
    have HA7 := Lib.hid (HA6.out.on bw); have HB7 := Lib.hid (HB6.out.on bw); have KS7 := Lib.hid (KS6.out.on bw); have KX7 := Lib.hid (KX6.out.on bw); have B7 := Lib.hid (below_step B6.out bw); have So7 := Lib.hid (So6.out.on bw); have Sn7 := Lib.hid (Sn6.out.on bw); have Sl7 := Lib.hid (Sl6.out.on bw); have Sg7 := Lib.hid (Sg6.out.on bw)
    clear HA6 HB6 KS6 KX6 B6 So6 Sn6 Sl6 Sg6 bw
    go_wp2_with fail
    refine (spans_rset _ ln _ Sn7.out (by have := IN.out.2.2; have := LS.out; omega)).mono ?_
    rintro e w8 ⟨rfl, bw⟩
    rw [Ss.rr_none ln IN.out.1]
    have HA8 := Lib.hid (HA7.out.on bw); have HB8 := Lib.hid (HB7.out.on bw); have KS8 := Lib.hid (KS7.out.on bw); have KX8 := Lib.hid (KX7.out.on bw); have B8 := Lib.hid (below_step B7.out bw); have So8 := Lib.hid (So7.out.on bw); have Sn8 := Lib.hid (Sn7.out.on bw); have Sl8 := Lib.hid (Sl7.out.on bw); have Sg8 := Lib.hid (Sg7.out.on bw)
    clear HA7 HB7 KS7 KX7 B7 So7 Sn7 Sl7 Sg7 bw
    go_wp2_with fail
    refine (spans_rset _ ll _ Sl8.out (by have := IL.out.2.2; have := LS.out; omega)).mono ?_
    rintro e w9 ⟨rfl, bw⟩
    rw [Ss.rr_none ll IL.out.1]
    have HA9 := Lib.hid (HA8.out.on bw); have HB9 := Lib.hid (HB8.out.on bw); have KS9 := Lib.hid (KS8.out.on bw); have KX9 := Lib.hid (KX8.out.on bw); have B9 := Lib.hid (below_step B8.out bw); have So9 := Lib.hid (So8.out.on bw); have Sn9 := Lib.hid (Sn8.out.on bw); have Sl9 := Lib.hid (Sl8.out.on bw); have Sg9 := Lib.hid (Sg8.out.on bw)
    clear HA8 HB8 KS8 KX8 B8 So8 Sn8 Sl8 Sg8 bw
    go_wp2_with fail
    refine (spans_rset _ lg _ Sg9.out (by have h := IG.out.2.2; have := LT.out; rw [List.length_singleton] at h; omega)).mono ?_
    rintro e w10 ⟨rfl, bw⟩
    rw [Ss.rr_none lg IG.out.1]
    have HA10 := Lib.hid (HA9.out.on bw); have HB10 := Lib.hid (HB9.out.on bw); have KS10 := Lib.hid (KS9.out.on bw); have KX10 := Lib.hid (KX9.out.on bw); have B10 := Lib.hid (below_step B9.out bw); have So10 := Lib.hid (So9.out.on bw); have Sn10 := Lib.hid (Sn9.out.on bw); have Sl10 := Lib.hid (Sl9.out.on bw); have Sg10 := Lib.hid (Sg9.out.on bw)
    clear HA9 HB9 KS9 KX9 B9 So9 Sn9 Sl9 Sg9 bw
    go_wp2_with fail
    refine (spans_of _ a _ HA10.out LA.out).mono ?_
    rintro e w11 ⟨v11, l11, rfl, h1, h2, h3, h4, bw⟩
    obtain ⟨A11, c11, hv, -⟩ := id h1
    subst hv
    have S11 := Lib.hid h1; have R11 := Lib.hid (And.intro h2 h4)
    clear h1 h2 h3 h4
    have HA11 := Lib.hid (HA10.out.on bw); have HB11 := Lib.hid (HB10.out.on bw); have KS11 := Lib.hid (KS10.out.on bw); have KX11 := Lib.hid (KX10.out.on bw); have B11 := Lib.hid (below_step B10.out bw); have So11 := Lib.hid (So10.out.on bw); have Sn11 := Lib.hid (Sn10.out.on bw); have Sl11 := Lib.hid (Sl10.out.on bw); have Sg11 := Lib.hid (Sg10.out.on bw)
    clear HA10 HB10 KS10 KX10 B10 So10 Sn10 Sl10 Sg10 bw
    go_wp2_with fail
    refine (spans_rset _ l11 _ S11.out (by have h := R11.out.2; have := LA.out; rw [List.length_nil] at h; omega)).mono ?_
    rintro e w12 ⟨rfl, bw⟩
    rw [Ss.rr_none l11 R11.out.1]
    have HA12 := Lib.hid (HA11.out.on bw); have HB12 := Lib.hid (HB11.out.on bw); have KS12 := Lib.hid (KS11.out.on bw); have KX12 := Lib.hid (KX11.out.on bw); have B12 := Lib.hid (below_step B11.out bw); have So12 := Lib.hid (So11.out.on bw); have Sn12 := Lib.hid (Sn11.out.on bw); have Sl12 := Lib.hid (Sl11.out.on bw); have Sg12 := Lib.hid (Sg11.out.on bw)
    clear HA11 HB11 KS11 KX11 B11 So11 Sn11 Sl11 Sg11 bw
    go_wp2_with fail
    refine (in_any _ a t _ HA12.out (by have := LA.out; omega)).mono ?_
    rintro e w13 ⟨rfl, bw⟩
    rw [EP.out]
    have HA13 := Lib.hid (HA12.out.on bw); have HB13 := Lib.hid (HB12.out.on bw); have KS13 := Lib.hid (KS12.out.on bw); have KX13 := Lib.hid (KX12.out.on bw); have B13 := Lib.hid (below_step B12.out bw); have So13 := Lib.hid (So12.out.on bw); have Sn13 := Lib.hid (Sn12.out.on bw); have Sl13 := Lib.hid (Sl12.out.on bw); have Sg13 := Lib.hid (Sg12.out.on bw)
    clear HA12 HB12 KS12 KX12 B12 So12 Sn12 Sl12 Sg12 bw
    go_wp2_with fail
    refine (in_any _ b t _ HB13.out (by have := LB.out; omega)).mono ?_
    rintro e w14 ⟨rfl, bw⟩
    rw [EQ.out]
    have HA14 := Lib.hid (HA13.out.on bw); have HB14 := Lib.hid (HB13.out.on bw); have KS14 := Lib.hid (KS13.out.on bw); have KX14 := Lib.hid (KX13.out.on bw); have B14 := Lib.hid (below_step B13.out bw); have So14 := Lib.hid (So13.out.on bw); have Sn14 := Lib.hid (Sn13.out.on bw); have Sl14 := Lib.hid (Sl13.out.on bw); have Sg14 := Lib.hid (Sg13.out.on bw)
    clear HA13 HB13 KS13 KX13 B13 So13 Sn13 Sl13 Sg13 bw
    go_wp2_with fail
    have CC := Lib.hid (show (fun W => Below w.heap.size w W ∧ SpV W (.slice A a.length c) a ∧ SpV W (.slice Ao lo.length co) lo ∧ SpV W (.slice An ln.length cn) ln ∧ SpV W (.slice Al ll.length cl) ll ∧ SpV W (.slice Ag lg.length cg) lg ∧ W.cell? ⟨g, 0, none⟩ = some (.int .i64 s0) ∧ W.cell? ⟨g, 1, none⟩ = some (.int .i64 s1)) w14 from ⟨B14.out, HA14.out, So14.out, Sn14.out, Sl14.out, Sg14.out, KS14.out.c0, KS14.out.c1⟩)
    have ZO := Lib.hid (show lo.length ≤ 100000 by have := IO.out.2.2; have := LS.out; omega); have ZN := Lib.hid (show ln.length ≤ 100000 by have := IN.out.2.2; have := LS.out; omega); have ZL := Lib.hid (show ll.length ≤ 100000 by have := IL.out.2.2; have := LS.out; omega); have ZG := Lib.hid (show lg.length ≤ 100000 by have h := IG.out.2.2; have := LT.out; rw [List.length_singleton] at h; omega)
    refine wp_region_pairs (C := fun W => Below w.heap.size w W ∧ SpV W (.slice A a.length c) a ∧ SpV W (.slice Ao lo.length co) lo ∧ SpV W (.slice An ln.length cn) ln ∧ SpV W (.slice Al ll.length cl) ll ∧ SpV W (.slice Ag lg.length cg) lg ∧ W.cell? ⟨g, 0, none⟩ = some (.int .i64 s0) ∧ W.cell? ⟨g, 1, none⟩ = some (.int .i64 s1)) (R := markR [(fun v _ => v = Value.slice A a.length c), (fun v W => ∃ x : Option Addr × Nat × List Ss.S, v = .slice x.1 x.2.2.length x.2.1 ∧ SpV W (.slice x.1 x.2.2.length x.2.1) x.2.2 ∧ Ss.Is (fun x y => x || y) a [] x.2.2), (fun v _ => v = Value.int IntKind.i64 t), (fun v _ => v = Value.bool P), (fun v _ => v = Value.bool P), (fun v _ => v = Value.bool true), (fun v _ => v = Value.bool true), (fun v _ => v = Value.slice Ao lo.length co), (fun v _ => v = Value.int IntKind.i64 t), (fun v _ => v = Value.bool (P || Q)), (fun v _ => v = Value.bool P), (fun v _ => v = Value.bool P), (fun v _ => v = cond P undef (.bool Q)), (fun v _ => v = .bool (P || Q)), (fun v _ => v = Value.bool true), (fun v _ => v = Value.bool true), (fun v _ => v = Value.bool true), (fun v _ => v = Value.slice An ln.length cn), (fun v _ => v = Value.int IntKind.i64 t), (fun v _ => v = Value.bool (P && Q)), (fun v _ => v = Value.bool P), (fun v _ => v = Value.bool P), (fun v _ => v = cond P (.bool Q) undef), (fun v _ => v = .bool (P && Q)), (fun v _ => v = Value.bool true), (fun v _ => v = Value.bool true), (fun v _ => v = Value.bool true), (fun v _ => v = Value.slice Al ll.length cl), (fun v _ => v = Value.int IntKind.i64 t), (fun v _ => v = Value.bool (P && !Q)), (fun v _ => v = Value.bool P), (fun v _ => v = Value.bool P), (fun v _ => v = cond P (.bool Q) undef), (fun v _ => v = cond P (.bool !Q) undef), (fun v _ => v = .bool (P && !Q)), (fun v _ => v = Value.bool true), (fun v _ => v = Value.bool true), (fun v _ => v = Value.bool true), (fun v _ => v = Value.slice Ag lg.length cg), (fun v _ => v = Value.int IntKind.i64 t), (fun v _ => v = Value.bool (H && !P)), (fun v _ => v = Value.agg #[Value.int IntKind.i64 s0, Value.int IntKind.i64 s1]), (fun v _ => v = Value.int IntKind.i64 t), (fun v _ => v = Value.bool H), (fun v _ => v = Value.bool H), (fun v _ => v = cond H (.bool P) undef), (fun v _ => v = cond H (.bool !P) undef), (fun v _ => v = .bool (H && !P)), (fun v _ => v = Value.bool true), (fun v _ => v = Value.bool true), (fun v _ => v = Value.bool true)]) (G := fun W W' => Below W.heap.size W W') (by rfl) ?hbeg ⟨by kernel_rfl, by kernel_rfl, by kernel_rfl, ?hkeep, ?hstab, Obs.all ?hobs, ?hlast⟩
    case hbeg =>
      try dsimp only
      exact keepS10 ((Below.refl _ _).drew) CC.out
    case hkeep =>
      intro w' w'' hC hG
      try dsimp only at hC hG ⊢
      exact keepS10 hG hC
    case hstab =>
      refine StableL.all ?_
      repeat (first | exact trivial | refine ⟨(by first | exact (fun _ _ _ _ h => h) | (exact fun v W W' hG h => by obtain ⟨u, hv, hs, hr⟩ := h; exact ⟨u, hv, hs.on hG, hr⟩)), ?_⟩)
    case hobs =>
      refine Obs.cons (k' := 1) rfl ?_ ?_
      · intro fa W hW hSame hRR KK hKK
        try dsimp only at hW
        have fb0 := hSame.base 0 (by kernel_rfl)
        simp only [List.getElem?_toArray, List.getElem?_cons_succ, List.getElem?_cons_zero] at fb0
        replace hKK : ∀ v w', Go.RowKit.Below W.heap.size W w' → v = Value.slice A a.length c → KK (Act.put fa _ v) w' := fun v w' h1 h2 => hKK v w' h1 h2
        clear hSame hRR
        rw [if_pos (wanted_plain rfl)]
        go_simp
        refine hKK _ _ ?_ ?_
        · first | exact Below.refl _ _ | exact (Below.refl _ _).alloc (Nat.le_refl _) _ | exact below_draw _ _ | assumption
        · exact rfl
      refine Obs.cons (k' := 2) rfl ?_ ?_
      · intro fa W hW hSame hRR KK hKK
        try dsimp only at hW
        obtain ⟨fv0, ft0, fm0⟩ := hRR 0 _ 89 rfl rfl (by kernel_rfl)
        replace fm0 : fv0 = Value.slice A a.length c := fm0
        subst fm0
        replace hKK : ∀ v w', Go.RowKit.Below W.heap.size W w' → (fun v W => ∃ x : Option Addr × Nat × List Ss.S, v = .slice x.1 x.2.2.length x.2.1 ∧ SpV W (.slice x.1 x.2.2.length x.2.1) x.2.2 ∧ Ss.Is (fun x y => x || y) a [] x.2.2) v w' → KK (Act.put fa _ v) w' := fun v w' h1 h2 => hKK v w' h1 h2
        clear hSame hRR
        rw [if_pos (wanted_plain rfl)]
        go_simp
        first
            | (go_at_call 15; refine (spans_of _ a _ hW.2.1 LA.out).mono ?_; rintro e w' ⟨v, l, rfl, hv, h2, h3, h4, hb⟩; obtain ⟨A', c', rfl, -⟩ := id hv; have hr : Ss.Is (fun x y => x || y) a [] l := ⟨h2, h3, h4⟩)
            | (go_at_call 26; refine (span_has s0 s1 t _).mono ?_; rintro e w' ⟨rfl, hb⟩; rw [EH.out])
            | (go_at_call 25; first
                | (obtain ⟨q1, q2, q3, q4⟩ := fm1; (with_reducible refine (in_any _ _ t _ q1 (by rw [List.length_nil] at q4; have := LA.out; omega)).mono ?_); rintro e w' ⟨rfl, hb⟩; rw [show Ss.inl _ t = P from (q3 t).trans (by rw [EP.out, show Ss.inl [] t = false from rfl]; exact Bool.or_false P)])
                | ((with_reducible refine (in_any _ lo t _ hW.2.2.1 ZO.out).mono ?_); rintro e w' ⟨rfl, hb⟩; rw [EO.out])
                | ((with_reducible refine (in_any _ ln t _ hW.2.2.2.1 ZN.out).mono ?_); rintro e w' ⟨rfl, hb⟩; rw [EN.out])
                | ((with_reducible refine (in_any _ ll t _ hW.2.2.2.2.1 ZL.out).mono ?_); rintro e w' ⟨rfl, hb⟩; rw [EL.out])
                | ((with_reducible refine (in_any _ lg t _ hW.2.2.2.2.2.1 ZG.out).mono ?_); rintro e w' ⟨rfl, hb⟩; rw [EG.out]))
        try dsimp only
        refine hKK _ _ ?_ ?_
        · first | exact Below.refl _ _ | exact (Below.refl _ _).alloc (Nat.le_refl _) _ | exact below_draw _ _ | assumption
        · try dsimp only
          first | exact trivial | exact rfl | (first | exact ⟨(_, _, _), rfl, hv, hr⟩)
      refine Obs.cons (k' := 3) rfl ?_ ?_
      · intro fa W hW hSame hRR KK hKK
        try dsimp only at hW
        have fb3 := hSame.base 3 (by kernel_rfl)
        simp only [List.getElem?_toArray, List.getElem?_cons_succ, List.getElem?_cons_zero] at fb3
        replace hKK : ∀ v w', Go.RowKit.Below W.heap.size W w' → v = Value.int IntKind.i64 t → KK (Act.put fa _ v) w' := fun v w' h1 h2 => hKK v w' h1 h2
        clear hSame hRR
        rw [if_pos (wanted_plain rfl)]
        go_simp
        refine hKK _ _ ?_ ?_
        · first | exact Below.refl _ _ | exact (Below.refl _ _).alloc (Nat.le_refl _) _ | exact below_draw _ _ | assumption
        · exact rfl
      refine Obs.cons (k' := 4) rfl ?_ ?_
      · intro fa W hW hSame hRR KK hKK
        try dsimp only at hW
        obtain ⟨fv1, ft1, fm1⟩ := hRR 1 _ 90 rfl rfl (by kernel_rfl)
        replace fm1 : (fun v W => ∃ x : Option Addr × Nat × List Ss.S, v = .slice x.1 x.2.2.length x.2.1 ∧ SpV W (.slice x.1 x.2.2.length x.2.1) x.2.2 ∧ Ss.Is (fun x y => x || y) a [] x.2.2) fv1 W := fm1
        try dsimp only at fm1
        first | subst fm1 | obtain ⟨_, rfl, fm1⟩ := fm1
        obtain ⟨fv2, ft2, fm2⟩ := hRR 2 _ 91 rfl rfl (by kernel_rfl)
        replace fm2 : fv2 = Value.int IntKind.i64 t := fm2
        subst fm2
        replace hKK : ∀ v w', Go.RowKit.Below W.heap.size W w' → v = Value.bool P → KK (Act.put fa _ v) w' := fun v w' h1 h2 => hKK v w' h1 h2
        clear hSame hRR
        rw [if_pos (wanted_plain rfl)]
        go_simp
        first
            | (go_at_call 15; refine (spans_of _ a _ hW.2.1 LA.out).mono ?_; rintro e w' ⟨v, l, rfl, hv, h2, h3, h4, hb⟩; obtain ⟨A', c', rfl, -⟩ := id hv; have hr : Ss.Is (fun x y => x || y) a [] l := ⟨h2, h3, h4⟩)
            | (go_at_call 26; refine (span_has s0 s1 t _).mono ?_; rintro e w' ⟨rfl, hb⟩; rw [EH.out])
            | (go_at_call 25; first
                | (obtain ⟨q1, q2, q3, q4⟩ := fm1; (with_reducible refine (in_any _ _ t _ q1 (by rw [List.length_nil] at q4; have := LA.out; omega)).mono ?_); rintro e w' ⟨rfl, hb⟩; rw [show Ss.inl _ t = P from (q3 t).trans (by rw [EP.out, show Ss.inl [] t = false from rfl]; exact Bool.or_false P)])
                | ((with_reducible refine (in_any _ lo t _ hW.2.2.1 ZO.out).mono ?_); rintro e w' ⟨rfl, hb⟩; rw [EO.out])
                | ((with_reducible refine (in_any _ ln t _ hW.2.2.2.1 ZN.out).mono ?_); rintro e w' ⟨rfl, hb⟩; rw [EN.out])
                | ((with_reducible refine (in_any _ ll t _ hW.2.2.2.2.1 ZL.out).mono ?_); rintro e w' ⟨rfl, hb⟩; rw [EL.out])
                | ((with_reducible refine (in_any _ lg t _ hW.2.2.2.2.2.1 ZG.out).mono ?_); rintro e w' ⟨rfl, hb⟩; rw [EG.out]))
        try dsimp only
        refine hKK _ _ ?_ ?_
        · first | exact Below.refl _ _ | exact (Below.refl _ _).alloc (Nat.le_refl _) _ | exact below_draw _ _ | assumption
        · exact rfl
      refine Obs.cons (k' := 5) rfl ?_ ?_
      · intro fa W hW hSame hRR KK hKK
        try dsimp only at hW
        have fb15 := hSame.base 15 (by kernel_rfl)
        simp only [List.getElem?_toArray, List.getElem?_cons_succ, List.getElem?_cons_zero] at fb15
        replace hKK : ∀ v w', Go.RowKit.Below W.heap.size W w' → v = Value.bool P → KK (Act.put fa _ v) w' := fun v w' h1 h2 => hKK v w' h1 h2
        clear hSame hRR
        rw [if_pos (wanted_plain rfl)]
        go_simp
        refine hKK _ _ ?_ ?_
        · first | exact Below.refl _ _ | exact (Below.refl _ _).alloc (Nat.le_refl _) _ | exact below_draw _ _ | assumption
        · exact rfl
      refine Obs.cons (k' := 6) rfl ?_ ?_
      · intro fa W hW hSame hRR KK hKK
        try dsimp only at hW
        obtain ⟨fv3, ft3, fm3⟩ := hRR 3 _ 92 rfl rfl (by kernel_rfl)
        replace fm3 : fv3 = Value.bool P := fm3
        subst fm3
        obtain ⟨fv4, ft4, fm4⟩ := hRR 4 _ 93 rfl rfl (by kernel_rfl)
        replace fm4 : fv4 = Value.bool P := fm4
        subst fm4
        replace hKK : ∀ v w', Go.RowKit.Below W.heap.size W w' → v = Value.bool true → KK (Act.put fa _ v) w' := fun v w' h1 h2 => hKK v w' h1 h2
        clear hSame hRR
        rw [if_pos (wanted_plain rfl)]
        go_simp
        refine hKK _ _ ?_ ?_
        · first | exact Below.refl _ _ | exact (Below.refl _ _).alloc (Nat.le_refl _) _ | exact below_draw _ _ | assumption
        · exact rfl
      refine Obs.cons (k' := 7) rfl ?_ ?_
      · intro fa W hW hSame hRR KK hKK
        try dsimp only at hW
        obtain ⟨fv5, ft5, fm5⟩ := hRR 5 _ 94 rfl rfl (by kernel_rfl)
        replace fm5 : fv5 = Value.bool true := fm5
        subst fm5
        replace hKK : ∀ v w', Go.RowKit.Below W.heap.size W w' → v = Value.bool true → KK (Act.put fa _ v) w' := fun v w' h1 h2 => hKK v w' h1 h2
        clear hSame hRR
        rw [if_pos (wanted_plain rfl)]
        go_simp
        refine hKK _ _ ?_ ?_
        · first | exact Below.refl _ _ | exact (Below.refl _ _).alloc (Nat.le_refl _) _ | exact below_draw _ _ | assumption
        · exact rfl
      refine Obs.cons (k' := 8) rfl ?_ ?_
      · intro fa W hW hSame hRR KK hKK
        try dsimp only at hW
        obtain ⟨fv6, ft6, fm6⟩ := hRR 6 _ 95 rfl rfl (by kernel_rfl)
        replace fm6 : fv6 = Value.bool true := fm6
        subst fm6
        have fb9 := hSame.base 9 (by kernel_rfl)
        simp only [List.getElem?_toArray, List.getElem?_cons_succ, List.getElem?_cons_zero] at fb9
        replace hKK : ∀ v w', Go.RowKit.Below W.heap.size W w' → v = Value.slice Ao lo.length co → KK (Act.put fa _ v) w' := fun v w' h1 h2 => hKK v w' h1 h2
        clear hSame hRR
        rw [wanted_guard rfl rfl rfl ft6]
        first | rw [if_pos (by rfl)] | rw [if_neg (by decide)]
        go_simp
        refine hKK _ _ ?_ ?_
        · first | exact Below.refl _ _ | exact (Below.refl _ _).alloc (Nat.le_refl _) _ | exact below_draw _ _ | assumption
        · exact rfl
      refine Obs.cons (k' := 9) rfl ?_ ?_
      · intro fa W hW hSame hRR KK hKK
        try dsimp only at hW
        obtain ⟨fv6, ft6, fm6⟩ := hRR 6 _ 95 rfl rfl (by kernel_rfl)
        replace fm6 : fv6 = Value.bool true := fm6
        subst fm6
        have fb3 := hSame.base 3 (by kernel_rfl)
        simp only [List.getElem?_toArray, List.getElem?_cons_succ, List.getElem?_cons_zero] at fb3
        replace hKK : ∀ v w', Go.RowKit.Below W.heap.size W w' → v = Value.int IntKind.i64 t → KK (Act.put fa _ v) w' := fun v w' h1 h2 => hKK v w' h1 h2
        clear hSame hRR
        rw [wanted_guard rfl rfl rfl ft6]
        first | rw [if_pos (by rfl)] | rw [if_neg (by decide)]
        go_simp
        refine hKK _ _ ?_ ?_
        · first | exact Below.refl _ _ | exact (Below.refl _ _).alloc (Nat.le_refl _) _ | exact below_draw _ _ | assumption
        · exact rfl
      refine Obs.cons (k' := 10) rfl ?_ ?_
      · intro fa W hW hSame hRR KK hKK
        try dsimp only at hW
        obtain ⟨fv7, ft7, fm7⟩ := hRR 7 _ 96 rfl rfl (by kernel_rfl)
        replace fm7 : fv7 = Value.slice Ao lo.length co := fm7
        subst fm7
        obtain ⟨fv8, ft8, fm8⟩ := hRR 8 _ 97 rfl rfl (by kernel_rfl)
        replace fm8 : fv8 = Value.int IntKind.i64 t := fm8
        subst fm8
        obtain ⟨fv6, ft6, fm6⟩ := hRR 6 _ 95 rfl rfl (by kernel_rfl)
        replace fm6 : fv6 = Value.bool true := fm6
        subst fm6
        replace hKK : ∀ v w', Go.RowKit.Below W.heap.size W w' → v = Value.bool (P || Q) → KK (Act.put fa _ v) w' := fun v w' h1 h2 => hKK v w' h1 h2
        clear hSame hRR
        rw [wanted_guard rfl rfl rfl ft6]
        first | rw [if_pos (by rfl)] | rw [if_neg (by decide)]
        go_simp
        first
            | (go_at_call 15; refine (spans_of _ a _ hW.2.1 LA.out).mono ?_; rintro e w' ⟨v, l, rfl, hv, h2, h3, h4, hb⟩; obtain ⟨A', c', rfl, -⟩ := id hv; have hr : Ss.Is (fun x y => x || y) a [] l := ⟨h2, h3, h4⟩)
            | (go_at_call 26; refine (span_has s0 s1 t _).mono ?_; rintro e w' ⟨rfl, hb⟩; rw [EH.out])
            | (go_at_call 25; first
                | (obtain ⟨q1, q2, q3, q4⟩ := fm1; (with_reducible refine (in_any _ _ t _ q1 (by rw [List.length_nil] at q4; have := LA.out; omega)).mono ?_); rintro e w' ⟨rfl, hb⟩; rw [show Ss.inl _ t = P from (q3 t).trans (by rw [EP.out, show Ss.inl [] t = false from rfl]; exact Bool.or_false P)])
                | ((with_reducible refine (in_any _ lo t _ hW.2.2.1 ZO.out).mono ?_); rintro e w' ⟨rfl, hb⟩; rw [EO.out])
                | ((with_reducible refine (in_any _ ln t _ hW.2.2.2.1 ZN.out).mono ?_); rintro e w' ⟨rfl, hb⟩; rw [EN.out])
                | ((with_reducible refine (in_any _ ll t _ hW.2.2.2.2.1 ZL.out).mono ?_); rintro e w' ⟨rfl, hb⟩; rw [EL.out])
                | ((with_reducible refine (in_any _ lg t _ hW.2.2.2.2.2.1 ZG.out).mono ?_); rintro e w' ⟨rfl, hb⟩; rw [EG.out]))
        try dsimp only
        refine hKK _ _ ?_ ?_
        · first | exact Below.refl _ _ | exact (Below.refl _ _).alloc (Nat.le_refl _) _ | exact below_draw _ _ | assumption
        · exact rfl
      refine Obs.cons (k' := 11) rfl ?_ ?_
      · intro fa W hW hSame hRR KK hKK
        try dsimp only at hW
        obtain ⟨fv6, ft6, fm6⟩ := hRR 6 _ 95 rfl rfl (by kernel_rfl)
        replace fm6 : fv6 = Value.bool true := fm6
        subst fm6
        have fb15 := hSame.base 15 (by kernel_rfl)
        simp only [List.getElem?_toArray, List.getElem?_cons_succ, List.getElem?_cons_zero] at fb15
        replace hKK : ∀ v w', Go.RowKit.Below W.heap.size W w' → v = Value.bool P → KK (Act.put fa _ v) w' := fun v w' h1 h2 => hKK v w' h1 h2
        clear hSame hRR
        rw [wanted_guard rfl rfl rfl ft6]
        first | rw [if_pos (by rfl)] | rw [if_neg (by decide)]
        go_simp
        refine hKK _ _ ?_ ?_
        · first | exact Below.refl _ _ | exact (Below.refl _ _).alloc (Nat.le_refl _) _ | exact below_draw _ _ | assumption
        · exact rfl
      refine Obs.cons (k' := 12) rfl ?_ ?_
      · intro fa W hW hSame hRR KK hKK
        try dsimp only at hW
        obtain ⟨fv10, ft10, fm10⟩ := hRR 10 _ 99 rfl rfl (by kernel_rfl)
        replace fm10 : fv10 = Value.bool P := fm10
        subst fm10
        obtain ⟨fv6, ft6, fm6⟩ := hRR 6 _ 95 rfl rfl (by kernel_rfl)
        replace fm6 : fv6 = Value.bool true := fm6
        subst fm6
        replace hKK : ∀ v w', Go.RowKit.Below W.heap.size W w' → v = Value.bool P → KK (Act.put fa _ v) w' := fun v w' h1 h2 => hKK v w' h1 h2
        clear hSame hRR
        rw [wanted_guard rfl rfl rfl ft6]
        first | rw [if_pos (by rfl)] | rw [if_neg (by decide)]
        go_simp
        refine hKK _ _ ?_ ?_
        · first | exact Below.refl _ _ | exact (Below.refl _ _).alloc (Nat.le_refl _) _ | exact below_draw _ _ | assumption
        · exact rfl
      refine Obs.cons (k' := 13) rfl ?_ ?_
      · intro fa W hW hSame hRR KK hKK
        try dsimp only at hW
        obtain ⟨fv11, ft11, fm11⟩ := hRR 11 _ 100 rfl rfl (by kernel_rfl)
        replace fm11 : fv11 = Value.bool P := fm11
        subst fm11
        have fb16 := hSame.base 16 (by kernel_rfl)
        simp only [List.getElem?_toArray, List.getElem?_cons_succ, List.getElem?_cons_zero] at fb16
        replace hKK : ∀ v w', Go.RowKit.Below W.heap.size W w' → (fun v _ => v = cond P undef (.bool Q)) v w' → KK (Act.put fa _ v) w' := fun v w' h1 h2 => hKK v w' h1 h2
        clear hSame hRR
        (cases P <;> cases Q <;> cases H) <;> ((rw [wanted_guard rfl rfl rfl ft11]; first | rw [if_pos (by rfl)] | rw [if_neg (by decide)])) <;> (try go_simp) <;> (refine hKK _ _ ?_ ?_) <;> first | (first | exact Below.refl _ _ | exact (Below.refl _ _).alloc (Nat.le_refl _) _ | exact below_draw _ _ | assumption) | exact rfl
      refine Obs.cons (k' := 14) rfl ?_ ?_
      · intro fa W hW hSame hRR KK hKK
        try dsimp only at hW
        obtain ⟨fv11, ft11, fm11⟩ := hRR 11 _ 100 rfl rfl (by kernel_rfl)
        replace fm11 : fv11 = Value.bool P := fm11
        subst fm11
        obtain ⟨fv12, ft12, fm12⟩ := hRR 12 _ 101 rfl rfl (by kernel_rfl)
        replace fm12 : (fun v _ => v = cond P undef (.bool Q)) fv12 W := fm12
        try dsimp only at fm12
        first | subst fm12 | obtain ⟨_, rfl, fm12⟩ := fm12
        obtain ⟨fv6, ft6, fm6⟩ := hRR 6 _ 95 rfl rfl (by kernel_rfl)
        replace fm6 : fv6 = Value.bool true := fm6
        subst fm6
        replace hKK : ∀ v w', Go.RowKit.Below W.heap.size W w' → (fun v _ => v = .bool (P || Q)) v w' → KK (Act.put fa _ v) w' := fun v w' h1 h2 => hKK v w' h1 h2
        clear hSame hRR
        (cases P <;> cases Q <;> cases H) <;> ((rw [wanted_guard rfl rfl rfl ft6]; first | rw [if_pos (by rfl)] | rw [if_neg (by decide)])) <;> (try go_simp) <;> (refine hKK _ _ ?_ ?_) <;> first | (first | exact Below.refl _ _ | exact (Below.refl _ _).alloc (Nat.le_refl _) _ | exact below_draw _ _ | assumption) | exact rfl
      refine Obs.cons (k' := 15) rfl ?_ ?_
      · intro fa W hW hSame hRR KK hKK
        try dsimp only at hW
        obtain ⟨fv9, ft9, fm9⟩ := hRR 9 _ 98 rfl rfl (by kernel_rfl)
        replace fm9 : fv9 = Value.bool (P || Q) := fm9
        subst fm9
        obtain ⟨fv13, ft13, fm13⟩ := hRR 13 _ 102 rfl rfl (by kernel_rfl)
        replace fm13 : (fun v _ => v = .bool (P || Q)) fv13 W := fm13
        try dsimp only at fm13
        first | subst fm13 | obtain ⟨_, rfl, fm13⟩ := fm13
        obtain ⟨fv6, ft6, fm6⟩ := hRR 6 _ 95 rfl rfl (by kernel_rfl)
        replace fm6 : fv6 = Value.bool true := fm6
        subst fm6
        replace hKK : ∀ v w', Go.RowKit.Below W.heap.size W w' → v = Value.bool true → KK (Act.put fa _ v) w' := fun v w' h1 h2 => hKK v w' h1 h2
        clear hSame hRR
        rw [wanted_guard rfl rfl rfl ft6]
        first | rw [if_pos (by rfl)] | rw [if_neg (by decide)]
        go_simp
        refine hKK _ _ ?_ ?_
        · first | exact Below.refl _ _ | exact (Below.refl _ _).alloc (Nat.le_refl _) _ | exact below_draw _ _ | assumption
        · exact rfl
      refine Obs.cons (k' := 16) rfl ?_ ?_
      · intro fa W hW hSame hRR KK hKK
        try dsimp only at hW
        obtain ⟨fv6, ft6, fm6⟩ := hRR 6 _ 95 rfl rfl (by kernel_rfl)
        replace fm6 : fv6 = Value.bool true := fm6
        subst fm6
        obtain ⟨fv14, ft14, fm14⟩ := hRR 14 _ 103 rfl rfl (by kernel_rfl)
        replace fm14 : fv14 = Value.bool true := fm14
        subst fm14
        replace hKK : ∀ v w', Go.RowKit.Below W.heap.size W w' → v = Value.bool true → KK (Act.put fa _ v) w' := fun v w' h1 h2 => hKK v w' h1 h2
        clear hSame hRR
        rw [if_pos (wanted_plain rfl)]
        go_simp
        refine hKK _ _ ?_ ?_
        · first | exact Below.refl _ _ | exact (Below.refl _ _).alloc (Nat.le_refl _) _ | exact below_draw _ _ | assumption
        · exact rfl
      refine Obs.cons (k' := 17) rfl ?_ ?_
      · intro fa W hW hSame hRR KK hKK
        try dsimp only at hW
        obtain ⟨fv15, ft15, fm15⟩ := hRR 15 _ 104 rfl rfl (by kernel_rfl)
        replace fm15 : fv15 = Value.bool true := fm15
        subst fm15
        replace hKK : ∀ v w', Go.RowKit.Below W.heap.size W w' → v = Value.bool true → KK (Act.put fa _ v) w' := fun v w' h1 h2 => hKK v w' h1 h2
        clear hSame hRR
        rw [if_pos (wanted_plain rfl)]
        go_simp
        refine hKK _ _ ?_ ?_
        · first | exact Below.refl _ _ | exact (Below.refl _ _).alloc (Nat.le_refl _) _ | exact below_draw _ _ | assumption
        · exact rfl
      refine Obs.cons (k' := 18) rfl ?_ ?_
      · intro fa W hW hSame hRR KK hKK
        try dsimp only at hW
        obtain ⟨fv16, ft16, fm16⟩ := hRR 16 _ 105 rfl rfl (by kernel_rfl)
        replace fm16 : fv16 = Value.bool true := fm16
        subst fm16
        have fb10 := hSame.base 10 (by kernel_rfl)
        simp only [List.getElem?_toArray, List.getElem?_cons_succ, List.getElem?_cons_zero] at fb10
        replace hKK : ∀ v w', Go.RowKit.Below W.heap.size W w' → v = Value.slice An ln.length cn → KK (Act.put fa _ v) w' := fun v w' h1 h2 => hKK v w' h1 h2
        clear hSame hRR
        rw [wanted_guard rfl rfl rfl ft16]
        first | rw [if_pos (by rfl)] | rw [if_neg (by decide)]
        go_simp
        refine hKK _ _ ?_ ?_
        · first | exact Below.refl _ _ | exact (Below.refl _ _).alloc (Nat.le_refl _) _ | exact below_draw _ _ | assumption
        · exact rfl
      refine Obs.cons (k' := 19) rfl ?_ ?_
      · intro fa W hW hSame hRR KK hKK
        try dsimp only at hW
        obtain ⟨fv16, ft16, fm16⟩ := hRR 16 _ 105 rfl rfl (by kernel_rfl)
        replace fm16 : fv16 = Value.bool true := fm16
        subst fm16
        have fb3 := hSame.base 3 (by kernel_rfl)
        simp only [List.getElem?_toArray, List.getElem?_cons_succ, List.getElem?_cons_zero] at fb3
        replace hKK : ∀ v w', Go.RowKit.Below W.heap.size W w' → v = Value.int IntKind.i64 t → KK (Act.put fa _ v) w' := fun v w' h1 h2 => hKK v w' h1 h2
        clear hSame hRR
        rw [wanted_guard rfl rfl rfl ft16]
        first | rw [if_pos (by rfl)] | rw [if_neg (by decide)]
        go_simp
        refine hKK _ _ ?_ ?_
        · first | exact Below.refl _ _ | exact (Below.refl _ _).alloc (Nat.le_refl _) _ | exact below_draw _ _ | assumption
        · exact rfl
      refine Obs.cons (k' := 20) rfl ?_ ?_
      · intro fa W hW hSame hRR KK hKK
        try dsimp only at hW
        obtain ⟨fv17, ft17, fm17⟩ := hRR 17 _ 106 rfl rfl (by kernel_rfl)
        replace fm17 : fv17 = Value.slice An ln.length cn := fm17
        subst fm17
        obtain ⟨fv18, ft18, fm18⟩ := hRR 18 _ 107 rfl rfl (by kernel_rfl)
        replace fm18 : fv18 = Value.int IntKind.i64 t := fm18
        subst fm18
        obtain ⟨fv16, ft16, fm16⟩ := hRR 16 _ 105 rfl rfl (by kernel_rfl)
        replace fm16 : fv16 = Value.bool true := fm16
        subst fm16
        replace hKK : ∀ v w', Go.RowKit.Below W.heap.size W w' → v = Value.bool (P && Q) → KK (Act.put fa _ v) w' := fun v w' h1 h2 => hKK v w' h1 h2
        clear hSame hRR
        rw [wanted_guard rfl rfl rfl ft16]
        first | rw [if_pos (by rfl)] | rw [if_neg (by decide)]
        go_simp
        first
            | (go_at_call 15; refine (spans_of _ a _ hW.2.1 LA.out).mono ?_; rintro e w' ⟨v, l, rfl, hv, h2, h3, h4, hb⟩; obtain ⟨A', c', rfl, -⟩ := id hv; have hr : Ss.Is (fun x y => x || y) a [] l := ⟨h2, h3, h4⟩)
            | (go_at_call 26; refine (span_has s0 s1 t _).mono ?_; rintro e w' ⟨rfl, hb⟩; rw [EH.out])
            | (go_at_call 25; first
                | (obtain ⟨q1, q2, q3, q4⟩ := fm1; (with_reducible refine (in_any _ _ t _ q1 (by rw [List.length_nil] at q4; have := LA.out; omega)).mono ?_); rintro e w' ⟨rfl, hb⟩; rw [show Ss.inl _ t = P from (q3 t).trans (by rw [EP.out, show Ss.inl [] t = false from rfl]; exact Bool.or_false P)])
                | ((with_reducible refine (in_any _ lo t _ hW.2.2.1 ZO.out).mono ?_); rintro e w' ⟨rfl, hb⟩; rw [EO.out])
                | ((with_reducible refine (in_any _ ln t _ hW.2.2.2.1 ZN.out).mono ?_); rintro e w' ⟨rfl, hb⟩; rw [EN.out])
                | ((with_reducible refine (in_any _ ll t _ hW.2.2.2.2.1 ZL.out).mono ?_); rintro e w' ⟨rfl, hb⟩; rw [EL.out])
                | ((with_reducible refine (in_any _ lg t _ hW.2.2.2.2.2.1 ZG.out).mono ?_); rintro e w' ⟨rfl, hb⟩; rw [EG.out]))
        try dsimp only
        refine hKK _ _ ?_ ?_
        · first | exact Below.refl _ _ | exact (Below.refl _ _).alloc (Nat.le_refl _) _ | exact below_draw _ _ | assumption
        · exact rfl
      refine Obs.cons (k' := 21) rfl ?_ ?_
      · intro fa W hW hSame hRR KK hKK
        try dsimp only at hW
        obtain ⟨fv16, ft16, fm16⟩ := hRR 16 _ 105 rfl rfl (by kernel_rfl)
        replace fm16 : fv16 = Value.bool true := fm16
        subst fm16
        have fb15 := hSame.base 15 (by kernel_rfl)
        simp only [List.getElem?_toArray, List.getElem?_cons_succ, List.getElem?_cons_zero] at fb15
        replace hKK : ∀ v w', Go.RowKit.Below W.heap.size W w' → v = Value.bool P → KK (Act.put fa _ v) w' := fun v w' h1 h2 => hKK v w' h1 h2
        clear hSame hRR
        rw [wanted_guard rfl rfl rfl ft16]
        first | rw [if_pos (by rfl)] | rw [if_neg (by decide)]
        go_simp
        refine hKK _ _ ?_ ?_
        · first | exact Below.refl _ _ | exact (Below.refl _ _).alloc (Nat.le_refl _) _ | exact below_draw _ _ | assumption
        · exact rfl
      refine Obs.cons (k' := 22) rfl ?_ ?_
      · intro fa W hW hSame hRR KK hKK
        try dsimp only at hW
        obtain ⟨fv20, ft20, fm20⟩ := hRR 20 _ 109 rfl rfl (by kernel_rfl)
        replace fm20 : fv20 = Value.bool P := fm20
        subst fm20
        obtain ⟨fv16, ft16, fm16⟩ := hRR 16 _ 105 rfl rfl (by kernel_rfl)
        replace fm16 : fv16 = Value.bool true := fm16
        subst fm16
        replace hKK : ∀ v w', Go.RowKit.Below W.heap.size W w' → v = Value.bool P → KK (Act.put fa _ v) w' := fun v w' h1 h2 => hKK v w' h1 h2
        clear hSame hRR
        rw [wanted_guard rfl rfl rfl ft16]
        first | rw [if_pos (by rfl)] | rw [if_neg (by decide)]
        go_simp
        refine hKK _ _ ?_ ?_
        · first | exact Below.refl _ _ | exact (Below.refl _ _).alloc (Nat.le_refl _) _ | exact below_draw _ _ | assumption
        · exact rfl
      refine Obs.cons (k' := 23) rfl ?_ ?_
      · intro fa W hW hSame hRR KK hKK
        try dsimp only at hW
        obtain ⟨fv21, ft21, fm21⟩ := hRR 21 _ 110 rfl rfl (by kernel_rfl)
        replace fm21 : fv21 = Value.bool P := fm21
        subst fm21
        have fb16 := hSame.base 16 (by kernel_rfl)
        simp only [List.getElem?_toArray, List.getElem?_cons_succ, List.getElem?_cons_zero] at fb16
        replace hKK : ∀ v w', Go.RowKit.Below W.heap.size W w' → (fun v _ => v = cond P (.bool Q) undef) v w' → KK (Act.put fa _ v) w' := fun v w' h1 h2 => hKK v w' h1 h2
        clear hSame hRR
        (cases P <;> cases Q <;> cases H) <;> ((rw [wanted_guard rfl rfl rfl ft21]; first | rw [if_pos (by rfl)] | rw [if_neg (by decide)])) <;> (try go_simp) <;> (refine hKK _ _ ?_ ?_) <;> first | (first | exact Below.refl _ _ | exact (Below.refl _ _).alloc (Nat.le_refl _) _ | exact below_draw _ _ | assumption) | exact rfl
      refine Obs.cons (k' := 24) rfl ?_ ?_
      · intro fa W hW hSame hRR KK hKK
        try dsimp only at hW
        obtain ⟨fv21, ft21, fm21⟩ := hRR 21 _ 110 rfl rfl (by kernel_rfl)
        replace fm21 : fv21 = Value.bool P := fm21
        subst fm21
        obtain ⟨fv22, ft22, fm22⟩ := hRR 22 _ 111 rfl rfl (by kernel_rfl)
        replace fm22 : (fun v _ => v = cond P (.bool Q) undef) fv22 W := fm22
        try dsimp only at fm22
        first | subst fm22 | obtain ⟨_, rfl, fm22⟩ := fm22
        obtain ⟨fv16, ft16, fm16⟩ := hRR 16 _ 105 rfl rfl (by kernel_rfl)
        replace fm16 : fv16 = Value.bool true := fm16
        subst fm16
        replace hKK : ∀ v w', Go.RowKit.Below W.heap.size W w' → (fun v _ => v = .bool (P && Q)) v w' → KK (Act.put fa _ v) w' := fun v w' h1 h2 => hKK v w' h1 h2
        clear hSame hRR
        (cases P <;> cases Q <;> cases H) <;> ((rw [wanted_guard rfl rfl rfl ft16]; first | rw [if_pos (by rfl)] | rw [if_neg (by decide)])) <;> (try go_simp) <;> (refine hKK _ _ ?_ ?_) <;> first | (first | exact Below.refl _ _ | exact (Below.refl _ _).alloc (Nat.le_refl _) _ | exact below_draw _ _ | assumption) | exact rfl
      refine Obs.cons (k' := 25) rfl ?_ ?_
      · intro fa W hW hSame hRR KK hKK
        try dsimp only at hW
        obtain ⟨fv19, ft19, fm19⟩ := hRR 19 _ 108 rfl rfl (by kernel_rfl)
        replace fm19 : fv19 = Value.bool (P && Q) := fm19
        subst fm19
        obtain ⟨fv23, ft23, fm23⟩ := hRR 23 _ 112 rfl rfl (by kernel_rfl)
        replace fm23 : (fun v _ => v = .bool (P && Q)) fv23 W := fm23
        try dsimp only at fm23
        first | subst fm23 | obtain ⟨_, rfl, fm23⟩ := fm23
        obtain ⟨fv16, ft16, fm16⟩ := hRR 16 _ 105 rfl rfl (by kernel_rfl)
        replace fm16 : fv16 = Value.bool true := fm16
        subst fm16
        replace hKK : ∀ v w', Go.RowKit.Below W.heap.size W w' → v = Value.bool true → KK (Act.put fa _ v) w' := fun v w' h1 h2 => hKK v w' h1 h2
        clear hSame hRR
        rw [wanted_guard rfl rfl rfl ft16]
        first | rw [if_pos (by rfl)] | rw [if_neg (by decide)]
        go_simp
        refine hKK _ _ ?_ ?_
        · first | exact Below.refl _ _ | exact (Below.refl _ _).alloc (Nat.le_refl _) _ | exact below_draw _ _ | assumption
        · exact rfl
      refine Obs.cons (k' := 26) rfl ?_ ?_
      · intro fa W hW hSame hRR KK hKK
        try dsimp only at hW
        obtain ⟨fv16, ft16, fm16⟩ := hRR 16 _ 105 rfl rfl (by kernel_rfl)
        replace fm16 : fv16 = Value.bool true := fm16
        subst fm16
        obtain ⟨fv24, ft24, fm24⟩ := hRR 24 _ 113 rfl rfl (by kernel_rfl)
        replace fm24 : fv24 = Value.bool true := fm24
        subst fm24
        replace hKK : ∀ v w', Go.RowKit.Below W.heap.size W w' → v = Value.bool true → KK (Act.put fa _ v) w' := fun v w' h1 h2 => hKK v w' h1 h2
        clear hSame hRR
        rw [if_pos (wanted_plain rfl)]
        go_simp
        refine hKK _ _ ?_ ?_
        · first | exact Below.refl _ _ | exact (Below.refl _ _).alloc (Nat.le_refl _) _ | exact below_draw _ _ | assumption
        · exact rfl
      refine Obs.cons (k' := 27) rfl ?_ ?_
      · intro fa W hW hSame hRR KK hKK
        try dsimp only at hW
        obtain ⟨fv25, ft25, fm25⟩ := hRR 25 _ 114 rfl rfl (by kernel_rfl)
        replace fm25 : fv25 = Value.bool true := fm25
        subst fm25
        replace hKK : ∀ v w', Go.RowKit.Below W.heap.size W w' → v = Value.bool true → KK (Act.put fa _ v) w' := fun v w' h1 h2 => hKK v w' h1 h2
        clear hSame hRR
        rw [if_pos (wanted_plain rfl)]
        go_simp
        refine hKK _ _ ?_ ?_
        · first | exact Below.refl _ _ | exact (Below.refl _ _).alloc (Nat.le_refl _) _ | exact below_draw _ _ | assumption
        · exact rfl
      refine Obs.cons (k' := 28) rfl ?_ ?_
      · intro fa W hW hSame hRR KK hKK
        try dsimp only at hW
        obtain ⟨fv26, ft26, fm26⟩ := hRR 26 _ 115 rfl rfl (by kernel_rfl)
        replace fm26 : fv26 = Value.bool true := fm26
        subst fm26
        have fb11 := hSame.base 11 (by kernel_rfl)
        simp only [List.getElem?_toArray, List.getElem?_cons_succ, List.getElem?_cons_zero] at fb11
        replace hKK : ∀ v w', Go.RowKit.Below W.heap.size W w' → v = Value.slice Al ll.length cl → KK (Act.put fa _ v) w' := fun v w' h1 h2 => hKK v w' h1 h2
        clear hSame hRR
        rw [wanted_guard rfl rfl rfl ft26]
        first | rw [if_pos (by rfl)] | rw [if_neg (by decide)]
        go_simp
        refine hKK _ _ ?_ ?_
        · first | exact Below.refl _ _ | exact (Below.refl _ _).alloc (Nat.le_refl _) _ | exact below_draw _ _ | assumption
        · exact rfl
      refine Obs.cons (k' := 29) rfl ?_ ?_
      · intro fa W hW hSame hRR KK hKK
        try dsimp only at hW
        obtain ⟨fv26, ft26, fm26⟩ := hRR 26 _ 115 rfl rfl (by kernel_rfl)
        replace fm26 : fv26 = Value.bool true := fm26
        subst fm26
        have fb3 := hSame.base 3 (by kernel_rfl)
        simp only [List.getElem?_toArray, List.getElem?_cons_succ, List.getElem?_cons_zero] at fb3
        replace hKK : ∀ v w', Go.RowKit.Below W.heap.size W w' → v = Value.int IntKind.i64 t → KK (Act.put fa _ v) w' := fun v w' h1 h2 => hKK v w' h1 h2
        clear hSame hRR
        rw [wanted_guard rfl rfl rfl ft26]
        first | rw [if_pos (by rfl)] | rw [if_neg (by decide)]
        go_simp
        refine hKK _ _ ?_ ?_
        · first | exact Below.refl _ _ | exact (Below.refl _ _).alloc (Nat.le_refl _) _ | exact below_draw _ _ | assumption
        · exact rfl
      refine Obs.cons (k' := 30) rfl ?_ ?_
      · intro fa W hW hSame hRR KK hKK
        try dsimp only at hW
        obtain ⟨fv27, ft27, fm27⟩ := hRR 27 _ 116 rfl rfl (by kernel_rfl)
        replace fm27 : fv27 = Value.slice Al ll.length cl := fm27
        subst fm27
        obtain ⟨fv28, ft28, fm28⟩ := hRR 28 _ 117 rfl rfl (by kernel_rfl)
        replace fm28 : fv28 = Value.int IntKind.i64 t := fm28
        subst fm28
        obtain ⟨fv26, ft26, fm26⟩ := hRR 26 _ 115 rfl rfl (by kernel_rfl)
        replace fm26 : fv26 = Value.bool true := fm26
        subst fm26
        replace hKK : ∀ v w', Go.RowKit.Below W.heap.size W w' → v = Value.bool (P && !Q) → KK (Act.put fa _ v) w' := fun v w' h1 h2 => hKK v w' h1 h2
        clear hSame hRR
        rw [wanted_guard rfl rfl rfl ft26]
        first | rw [if_pos (by rfl)] | rw [if_neg (by decide)]
        go_simp
        first
            | (go_at_call 15; refine (spans_of _ a _ hW.2.1 LA.out).mono ?_; rintro e w' ⟨v, l, rfl, hv, h2, h3, h4, hb⟩; obtain ⟨A', c', rfl, -⟩ := id hv; have hr : Ss.Is (fun x y => x || y) a [] l := ⟨h2, h3, h4⟩)
            | (go_at_call 26; refine (span_has s0 s1 t _).mono ?_; rintro e w' ⟨rfl, hb⟩; rw [EH.out])
            | (go_at_call 25; first
                | (obtain ⟨q1, q2, q3, q4⟩ := fm1; (with_reducible refine (in_any _ _ t _ q1 (by rw [List.length_nil] at q4; have := LA.out; omega)).mono ?_); rintro e w' ⟨rfl, hb⟩; rw [show Ss.inl _ t = P from (q3 t).trans (by rw [EP.out, show Ss.inl [] t = false from rfl]; exact Bool.or_false P)])
                | ((with_reducible refine (in_any _ lo t _ hW.2.2.1 ZO.out).mono ?_); rintro e w' ⟨rfl, hb⟩; rw [EO.out])
                | ((with_reducible refine (in_any _ ln t _ hW.2.2.2.1 ZN.out).mono ?_); rintro e w' ⟨rfl, hb⟩; rw [EN.out])
                | ((with_reducible refine (in_any _ ll t _ hW.2.2.2.2.1 ZL.out).mono ?_); rintro e w' ⟨rfl, hb⟩; rw [EL.out])
                | ((with_reducible refine (in_any _ lg t _ hW.2.2.2.2.2.1 ZG.out).mono ?_); rintro e w' ⟨rfl, hb⟩; rw [EG.out]))
        try dsimp only
        refine hKK _ _ ?_ ?_
        · first | exact Below.refl _ _ | exact (Below.refl _ _).alloc (Nat.le_refl _) _ | exact below_draw _ _ | assumption
        · exact rfl
      refine Obs.cons (k' := 31) rfl ?_ ?_
      · intro fa W hW hSame hRR KK hKK
        try dsimp only at hW
        obtain ⟨fv26, ft26, fm26⟩ := hRR 26 _ 115 rfl rfl (by kernel_rfl)
        replace fm26 : fv26 = Value.bool true := fm26
        subst fm26
        have fb15 := hSame.base 15 (by kernel_rfl)
        simp only [List.getElem?_toArray, List.getElem?_cons_succ, List.getElem?_cons_zero] at fb15
        replace hKK : ∀ v w', Go.RowKit.Below W.heap.size W w' → v = Value.bool P → KK (Act.put fa _ v) w' := fun v w' h1 h2 => hKK v w' h1 h2
        clear hSame hRR
        rw [wanted_guard rfl rfl rfl ft26]
        first | rw [if_pos (by rfl)] | rw [if_neg (by decide)]
        go_simp
        refine hKK _ _ ?_ ?_
        · first | exact Below.refl _ _ | exact (Below.refl _ _).alloc (Nat.le_refl _) _ | exact below_draw _ _ | assumption
        · exact rfl
      refine Obs.cons (k' := 32) rfl ?_ ?_
      · intro fa W hW hSame hRR KK hKK
        try dsimp only at hW
        obtain ⟨fv30, ft30, fm30⟩ := hRR 30 _ 119 rfl rfl (by kernel_rfl)
        replace fm30 : fv30 = Value.bool P := fm30
        subst fm30
        obtain ⟨fv26, ft26, fm26⟩ := hRR 26 _ 115 rfl rfl (by kernel_rfl)
        replace fm26 : fv26 = Value.bool true := fm26
        subst fm26
        replace hKK : ∀ v w', Go.RowKit.Below W.heap.size W w' → v = Value.bool P → KK (Act.put fa _ v) w' := fun v w' h1 h2 => hKK v w' h1 h2
        clear hSame hRR
        rw [wanted_guard rfl rfl rfl ft26]
        first | rw [if_pos (by rfl)] | rw [if_neg (by decide)]
        go_simp
        refine hKK _ _ ?_ ?_
        · first | exact Below.refl _ _ | exact (Below.refl _ _).alloc (Nat.le_refl _) _ | exact below_draw _ _ | assumption
        · exact rfl
      refine Obs.cons (k' := 33) rfl ?_ ?_
      · intro fa W hW hSame hRR KK hKK
        try dsimp only at hW
        obtain ⟨fv31, ft31, fm31⟩ := hRR 31 _ 120 rfl rfl (by kernel_rfl)
        replace fm31 : fv31 = Value.bool P := fm31
        subst fm31
        have fb16 := hSame.base 16 (by kernel_rfl)
        simp only [List.getElem?_toArray, List.getElem?_cons_succ, List.getElem?_cons_zero] at fb16
        replace hKK : ∀ v w', Go.RowKit.Below W.heap.size W w' → (fun v _ => v = cond P (.bool Q) undef) v w' → KK (Act.put fa _ v) w' := fun v w' h1 h2 => hKK v w' h1 h2
        clear hSame hRR
        (cases P <;> cases Q <;> cases H) <;> ((rw [wanted_guard rfl rfl rfl ft31]; first | rw [if_pos (by rfl)] | rw [if_neg (by decide)])) <;> (try go_simp) <;> (refine hKK _ _ ?_ ?_) <;> first | (first | exact Below.refl _ _ | exact (Below.refl _ _).alloc (Nat.le_refl _) _ | exact below_draw _ _ | assumption) | exact rfl
      refine Obs.cons (k' := 34) rfl ?_ ?_
      · intro fa W hW hSame hRR KK hKK
        try dsimp only at hW
        obtain ⟨fv32, ft32, fm32⟩ := hRR 32 _ 121 rfl rfl (by kernel_rfl)
        replace fm32 : (fun v _ => v = cond P (.bool Q) undef) fv32 W := fm32
        try dsimp only at fm32
        first | subst fm32 | obtain ⟨_, rfl, fm32⟩ := fm32
        obtain ⟨fv31, ft31, fm31⟩ := hRR 31 _ 120 rfl rfl (by kernel_rfl)
        replace fm31 : fv31 = Value.bool P := fm31
        subst fm31
        replace hKK : ∀ v w', Go.RowKit.Below W.heap.size W w' → (fun v _ => v = cond P (.bool !Q) undef) v w' → KK (Act.put fa _ v) w' := fun v w' h1 h2 => hKK v w' h1 h2
        clear hSame hRR
        (cases P <;> cases Q <;> cases H) <;> ((rw [wanted_guard rfl rfl rfl ft31]; first | rw [if_pos (by rfl)] | rw [if_neg (by decide)])) <;> (try go_simp) <;> (refine hKK _ _ ?_ ?_) <;> first | (first | exact Below.refl _ _ | exact (Below.refl _ _).alloc (Nat.le_refl _) _ | exact below_draw _ _ | assumption) | exact rfl
      refine Obs.cons (k' := 35) rfl ?_ ?_
      · intro fa W hW hSame hRR KK hKK
        try dsimp only at hW
        obtain ⟨fv31, ft31, fm31⟩ := hRR 31 _ 120 rfl rfl (by kernel_rfl)
        replace fm31 : fv31 = Value.bool P := fm31
        subst fm31
        obtain ⟨fv33, ft33, fm33⟩ := hRR 33 _ 122 rfl rfl (by kernel_rfl)
        replace fm33 : (fun v _ => v = cond P (.bool !Q) undef) fv33 W := fm33
        try dsimp only at fm33
        first | subst fm33 | obtain ⟨_, rfl, fm33⟩ := fm33
        obtain ⟨fv26, ft26, fm26⟩ := hRR 26 _ 115 rfl rfl (by kernel_rfl)
        replace fm26 : fv26 = Value.bool true := fm26
        subst fm26
        replace hKK : ∀ v w', Go.RowKit.Below W.heap.size W w' → (fun v _ => v = .bool (P && !Q)) v w' → KK (Act.put fa _ v) w' := fun v w' h1 h2 => hKK v w' h1 h2
        clear hSame hRR
        (cases P <;> cases Q <;> cases H) <;> ((rw [wanted_guard rfl rfl rfl ft26]; first | rw [if_pos (by rfl)] | rw [if_neg (by decide)])) <;> (try go_simp) <;> (refine hKK _ _ ?_ ?_) <;> first | (first | exact Below.refl _ _ | exact (Below.refl _ _).alloc (Nat.le_refl _) _ | exact below_draw _ _ | assumption) | exact rfl
      refine Obs.cons (k' := 36) rfl ?_ ?_
      · intro fa W hW hSame hRR KK hKK
        try dsimp only at hW
        obtain ⟨fv29, ft29, fm29⟩ := hRR 29 _ 118 rfl rfl (by kernel_rfl)
        replace fm29 : fv29 = Value.bool (P && !Q) := fm29
        subst fm29
        obtain ⟨fv34, ft34, fm34⟩ := hRR 34 _ 123 rfl rfl (by kernel_rfl)
        replace fm34 : (fun v _ => v = .bool (P && !Q)) fv34 W := fm34
        try dsimp only at fm34
        first | subst fm34 | obtain ⟨_, rfl, fm34⟩ := fm34
        obtain ⟨fv26, ft26, fm26⟩ := hRR 26 _ 115 rfl rfl (by kernel_rfl)
        replace fm26 : fv26 = Value.bool true := fm26
        subst fm26
        replace hKK : ∀ v w', Go.RowKit.Below W.heap.size W w' → v = Value.bool true → KK (Act.put fa _ v) w' := fun v w' h1 h2 => hKK v w' h1 h2
        clear hSame hRR
        rw [wanted_guard rfl rfl rfl ft26]
        first | rw [if_pos (by rfl)] | rw [if_neg (by decide)]
        go_simp
        refine hKK _ _ ?_ ?_
        · first | exact Below.refl _ _ | exact (Below.refl _ _).alloc (Nat.le_refl _) _ | exact below_draw _ _ | assumption
        · exact rfl
      refine Obs.cons (k' := 37) rfl ?_ ?_
      · intro fa W hW hSame hRR KK hKK
        try dsimp only at hW
        obtain ⟨fv26, ft26, fm26⟩ := hRR 26 _ 115 rfl rfl (by kernel_rfl)
        replace fm26 : fv26 = Value.bool true := fm26
        subst fm26
        obtain ⟨fv35, ft35, fm35⟩ := hRR 35 _ 124 rfl rfl (by kernel_rfl)
        replace fm35 : fv35 = Value.bool true := fm35
        subst fm35
        replace hKK : ∀ v w', Go.RowKit.Below W.heap.size W w' → v = Value.bool true → KK (Act.put fa _ v) w' := fun v w' h1 h2 => hKK v w' h1 h2
        clear hSame hRR
        rw [if_pos (wanted_plain rfl)]
        go_simp
        refine hKK _ _ ?_ ?_
        · first | exact Below.refl _ _ | exact (Below.refl _ _).alloc (Nat.le_refl _) _ | exact below_draw _ _ | assumption
        · exact rfl
      refine Obs.cons (k' := 38) rfl ?_ ?_
      · intro fa W hW hSame hRR KK hKK
        try dsimp only at hW
        obtain ⟨fv36, ft36, fm36⟩ := hRR 36 _ 125 rfl rfl (by kernel_rfl)
        replace fm36 : fv36 = Value.bool true := fm36
        subst fm36
        replace hKK : ∀ v w', Go.RowKit.Below W.heap.size W w' → v = Value.bool true → KK (Act.put fa _ v) w' := fun v w' h1 h2 => hKK v w' h1 h2
        clear hSame hRR
        rw [if_pos (wanted_plain rfl)]
        go_simp
        refine hKK _ _ ?_ ?_
        · first | exact Below.refl _ _ | exact (Below.refl _ _).alloc (Nat.le_refl _) _ | exact below_draw _ _ | assumption
        · exact rfl
      refine Obs.cons (k' := 39) rfl ?_ ?_
      · intro fa W hW hSame hRR KK hKK
        try dsimp only at hW
        obtain ⟨fv37, ft37, fm37⟩ := hRR 37 _ 126 rfl rfl (by kernel_rfl)
        replace fm37 : fv37 = Value.bool true := fm37
        subst fm37
        have fb12 := hSame.base 12 (by kernel_rfl)
        simp only [List.getElem?_toArray, List.getElem?_cons_succ, List.getElem?_cons_zero] at fb12
        replace hKK : ∀ v w', Go.RowKit.Below W.heap.size W w' → v = Value.slice Ag lg.length cg → KK (Act.put fa _ v) w' := fun v w' h1 h2 => hKK v w' h1 h2
        clear hSame hRR
        rw [wanted_guard rfl rfl rfl ft37]
        first | rw [if_pos (by rfl)] | rw [if_neg (by decide)]
        go_simp
        refine hKK _ _ ?_ ?_
        · first | exact Below.refl _ _ | exact (Below.refl _ _).alloc (Nat.le_refl _) _ | exact below_draw _ _ | assumption
        · exact rfl
      refine Obs.cons (k' := 40) rfl ?_ ?_
      · intro fa W hW hSame hRR KK hKK
        try dsimp only at hW
        obtain ⟨fv37, ft37, fm37⟩ := hRR 37 _ 126 rfl rfl (by kernel_rfl)
        replace fm37 : fv37 = Value.bool true := fm37
        subst fm37
        have fb3 := hSame.base 3 (by kernel_rfl)
        simp only [List.getElem?_toArray, List.getElem?_cons_succ, List.getElem?_cons_zero] at fb3
        replace hKK : ∀ v w', Go.RowKit.Below W.heap.size W w' → v = Value.int IntKind.i64 t → KK (Act.put fa _ v) w' := fun v w' h1 h2 => hKK v w' h1 h2
        clear hSame hRR
        rw [wanted_guard rfl rfl rfl ft37]
        first | rw [if_pos (by rfl)] | rw [if_neg (by decide)]
        go_simp
        refine hKK _ _ ?_ ?_
        · first | exact Below.refl _ _ | exact (Below.refl _ _).alloc (Nat.le_refl _) _ | exact below_draw _ _ | assumption
        · exact rfl
      refine Obs.cons (k' := 41) rfl ?_ ?_
      · intro fa W hW hSame hRR KK hKK
        try dsimp only at hW
        obtain ⟨fv38, ft38, fm38⟩ := hRR 38 _ 127 rfl rfl (by kernel_rfl)
        replace fm38 : fv38 = Value.slice Ag lg.length cg := fm38
        subst fm38
        obtain ⟨fv39, ft39, fm39⟩ := hRR 39 _ 128 rfl rfl (by kernel_rfl)
        replace fm39 : fv39 = Value.int IntKind.i64 t := fm39
        subst fm39
        obtain ⟨fv37, ft37, fm37⟩ := hRR 37 _ 126 rfl rfl (by kernel_rfl)
        replace fm37 : fv37 = Value.bool true := fm37
        subst fm37
        replace hKK : ∀ v w', Go.RowKit.Below W.heap.size W w' → v = Value.bool (H && !P) → KK (Act.put fa _ v) w' := fun v w' h1 h2 => hKK v w' h1 h2
        clear hSame hRR
        rw [wanted_guard rfl rfl rfl ft37]
        first | rw [if_pos (by rfl)] | rw [if_neg (by decide)]
        go_simp
        first
            | (go_at_call 15; refine (spans_of _ a _ hW.2.1 LA.out).mono ?_; rintro e w' ⟨v, l, rfl, hv, h2, h3, h4, hb⟩; obtain ⟨A', c', rfl, -⟩ := id hv; have hr : Ss.Is (fun x y => x || y) a [] l := ⟨h2, h3, h4⟩)
            | (go_at_call 26; refine (span_has s0 s1 t _).mono ?_; rintro e w' ⟨rfl, hb⟩; rw [EH.out])
            | (go_at_call 25; first
                | (obtain ⟨q1, q2, q3, q4⟩ := fm1; (with_reducible refine (in_any _ _ t _ q1 (by rw [List.length_nil] at q4; have := LA.out; omega)).mono ?_); rintro e w' ⟨rfl, hb⟩; rw [show Ss.inl _ t = P from (q3 t).trans (by rw [EP.out, show Ss.inl [] t = false from rfl]; exact Bool.or_false P)])
                | ((with_reducible refine (in_any _ lo t _ hW.2.2.1 ZO.out).mono ?_); rintro e w' ⟨rfl, hb⟩; rw [EO.out])
                | ((with_reducible refine (in_any _ ln t _ hW.2.2.2.1 ZN.out).mono ?_); rintro e w' ⟨rfl, hb⟩; rw [EN.out])
                | ((with_reducible refine (in_any _ ll t _ hW.2.2.2.2.1 ZL.out).mono ?_); rintro e w' ⟨rfl, hb⟩; rw [EL.out])
                | ((with_reducible refine (in_any _ lg t _ hW.2.2.2.2.2.1 ZG.out).mono ?_); rintro e w' ⟨rfl, hb⟩; rw [EG.out]))
        try dsimp only
        refine hKK _ _ ?_ ?_
        · first | exact Below.refl _ _ | exact (Below.refl _ _).alloc (Nat.le_refl _) _ | exact below_draw _ _ | assumption
        · exact rfl
      refine Obs.cons (k' := 42) rfl ?_ ?_
      · intro fa W hW hSame hRR KK hKK
        try dsimp only at hW
        obtain ⟨fv37, ft37, fm37⟩ := hRR 37 _ 126 rfl rfl (by kernel_rfl)
        replace fm37 : fv37 = Value.bool true := fm37
        subst fm37
        have fb6 := hSame.base 6 (by kernel_rfl)
        simp only [List.getElem?_toArray, List.getElem?_cons_succ, List.getElem?_cons_zero] at fb6
        replace hKK : ∀ v w', Go.RowKit.Below W.heap.size W w' → v = Value.agg #[Value.int IntKind.i64 s0, Value.int IntKind.i64 s1] → KK (Act.put fa _ v) w' := fun v w' h1 h2 => hKK v w' h1 h2
        clear hSame hRR
        rw [wanted_guard rfl rfl rfl ft37]
        first | rw [if_pos (by rfl)] | rw [if_neg (by decide)]
        go_simp
        refine hKK _ _ ?_ ?_
        · first | exact Below.refl _ _ | exact (Below.refl _ _).alloc (Nat.le_refl _) _ | exact below_draw _ _ | assumption
        · exact rfl
      refine Obs.cons (k' := 43) rfl ?_ ?_
      · intro fa W hW hSame hRR KK hKK
        try dsimp only at hW
        obtain ⟨fv37, ft37, fm37⟩ := hRR 37 _ 126 rfl rfl (by kernel_rfl)
        replace fm37 : fv37 = Value.bool true := fm37
        subst fm37
        have fb3 := hSame.base 3 (by kernel_rfl)
        simp only [List.getElem?_toArray, List.getElem?_cons_succ, List.getElem?_cons_zero] at fb3
        replace hKK : ∀ v w', Go.RowKit.Below W.heap.size W w' → v = Value.int IntKind.i64 t → KK (Act.put fa _ v) w' := fun v w' h1 h2 => hKK v w' h1 h2
        clear hSame hRR
        rw [wanted_guard rfl rfl rfl ft37]
        first | rw [if_pos (by rfl)] | rw [if_neg (by decide)]
        go_simp
        refine hKK _ _ ?_ ?_
        · first | exact Below.refl _ _ | exact (Below.refl _ _).alloc (Nat.le_refl _) _ | exact below_draw _ _ | assumption
        · exact rfl
      refine Obs.cons (k' := 44) rfl ?_ ?_
      · intro fa W hW hSame hRR KK hKK
        try dsimp only at hW
        obtain ⟨fv41, ft41, fm41⟩ := hRR 41 _ 130 rfl rfl (by kernel_rfl)
        replace fm41 : fv41 = Value.agg #[Value.int IntKind.i64 s0, Value.int IntKind.i64 s1] := fm41
        subst fm41
        obtain ⟨fv42, ft42, fm42⟩ := hRR 42 _ 131 rfl rfl (by kernel_rfl)
        replace fm42 : fv42 = Value.int IntKind.i64 t := fm42
        subst fm42
        obtain ⟨fv37, ft37, fm37⟩ := hRR 37 _ 126 rfl rfl (by kernel_rfl)
        replace fm37 : fv37 = Value.bool true := fm37
        subst fm37
        replace hKK : ∀ v w', Go.RowKit.Below W.heap.size W w' → v = Value.bool H → KK (Act.put fa _ v) w' := fun v w' h1 h2 => hKK v w' h1 h2
        clear hSame hRR
        rw [wanted_guard rfl rfl rfl ft37]
        first | rw [if_pos (by rfl)] | rw [if_neg (by decide)]
        go_simp
        first
            | (go_at_call 15; refine (spans_of _ a _ hW.2.1 LA.out).mono ?_; rintro e w' ⟨v, l, rfl, hv, h2, h3, h4, hb⟩; obtain ⟨A', c', rfl, -⟩ := id hv; have hr : Ss.Is (fun x y => x || y) a [] l := ⟨h2, h3, h4⟩)
            | (go_at_call 26; refine (span_has s0 s1 t _).mono ?_; rintro e w' ⟨rfl, hb⟩; rw [EH.out])
            | (go_at_call 25; first
                | (obtain ⟨q1, q2, q3, q4⟩ := fm1; (with_reducible refine (in_any _ _ t _ q1 (by rw [List.length_nil] at q4; have := LA.out; omega)).mono ?_); rintro e w' ⟨rfl, hb⟩; rw [show Ss.inl _ t = P from (q3 t).trans (by rw [EP.out, show Ss.inl [] t = false from rfl]; exact Bool.or_false P)])
                | ((with_reducible refine (in_any _ lo t _ hW.2.2.1 ZO.out).mono ?_); rintro e w' ⟨rfl, hb⟩; rw [EO.out])
                | ((with_reducible refine (in_any _ ln t _ hW.2.2.2.1 ZN.out).mono ?_); rintro e w' ⟨rfl, hb⟩; rw [EN.out])
                | ((with_reducible refine (in_any _ ll t _ hW.2.2.2.2.1 ZL.out).mono ?_); rintro e w' ⟨rfl, hb⟩; rw [EL.out])
                | ((with_reducible refine (in_any _ lg t _ hW.2.2.2.2.2.1 ZG.out).mono ?_); rintro e w' ⟨rfl, hb⟩; rw [EG.out]))
        try dsimp only
        refine hKK _ _ ?_ ?_
        · first | exact Below.refl _ _ | exact (Below.refl _ _).alloc (Nat.le_refl _) _ | exact below_draw _ _ | assumption
        · exact rfl
      refine Obs.cons (k' := 45) rfl ?_ ?_
      · intro fa W hW hSame hRR KK hKK
        try dsimp only at hW
        obtain ⟨fv43, ft43, fm43⟩ := hRR 43 _ 132 rfl rfl (by kernel_rfl)
        replace fm43 : fv43 = Value.bool H := fm43
        subst fm43
        obtain ⟨fv37, ft37, fm37⟩ := hRR 37 _ 126 rfl rfl (by kernel_rfl)
        replace fm37 : fv37 = Value.bool true := fm37
        subst fm37
        replace hKK : ∀ v w', Go.RowKit.Below W.heap.size W w' → v = Value.bool H → KK (Act.put fa _ v) w' := fun v w' h1 h2 => hKK v w' h1 h2
        clear hSame hRR
        rw [wanted_guard rfl rfl rfl ft37]
        first | rw [if_pos (by rfl)] | rw [if_neg (by decide)]
        go_simp
        refine hKK _ _ ?_ ?_
        · first | exact Below.refl _ _ | exact (Below.refl _ _).alloc (Nat.le_refl _) _ | exact below_draw _ _ | assumption
        · exact rfl
      refine Obs.cons (k' := 46) rfl ?_ ?_
      · intro fa W hW hSame hRR KK hKK
        try dsimp only at hW
        obtain ⟨fv44, ft44, fm44⟩ := hRR 44 _ 133 rfl rfl (by kernel_rfl)
        replace fm44 : fv44 = Value.bool H := fm44
        subst fm44
        have fb15 := hSame.base 15 (by kernel_rfl)
        simp only [List.getElem?_toArray, List.getElem?_cons_succ, List.getElem?_cons_zero] at fb15
        replace hKK : ∀ v w', Go.RowKit.Below W.heap.size W w' → (fun v _ => v = cond H (.bool P) undef) v w' → KK (Act.put fa _ v) w' := fun v w' h1 h2 => hKK v w' h1 h2
        clear hSame hRR
        (cases P <;> cases Q <;> cases H) <;> ((rw [wanted_guard rfl rfl rfl ft44]; first | rw [if_pos (by rfl)] | rw [if_neg (by decide)])) <;> (try go_simp) <;> (refine hKK _ _ ?_ ?_) <;> first | (first | exact Below.refl _ _ | exact (Below.refl _ _).alloc (Nat.le_refl _) _ | exact below_draw _ _ | assumption) | exact rfl
      refine Obs.cons (k' := 47) rfl ?_ ?_
      · intro fa W hW hSame hRR KK hKK
        try dsimp only at hW
        obtain ⟨fv45, ft45, fm45⟩ := hRR 45 _ 134 rfl rfl (by kernel_rfl)
        replace fm45 : (fun v _ => v = cond H (.bool P) undef) fv45 W := fm45
        try dsimp only at fm45
        first | subst fm45 | obtain ⟨_, rfl, fm45⟩ := fm45
        obtain ⟨fv44, ft44, fm44⟩ := hRR 44 _ 133 rfl rfl (by kernel_rfl)
        replace fm44 : fv44 = Value.bool H := fm44
        subst fm44
        replace hKK : ∀ v w', Go.RowKit.Below W.heap.size W w' → (fun v _ => v = cond H (.bool !P) undef) v w' → KK (Act.put fa _ v) w' := fun v w' h1 h2 => hKK v w' h1 h2
        clear hSame hRR
        (cases P <;> cases Q <;> cases H) <;> ((rw [wanted_guard rfl rfl rfl ft44]; first | rw [if_pos (by rfl)] | rw [if_neg (by decide)])) <;> (try go_simp) <;> (refine hKK _ _ ?_ ?_) <;> first | (first | exact Below.refl _ _ | exact (Below.refl _ _).alloc (Nat.le_refl _) _ | exact below_draw _ _ | assumption) | exact rfl
      refine Obs.cons (k' := 48) rfl ?_ ?_
      · intro fa W hW hSame hRR KK hKK
        try dsimp only at hW
        obtain ⟨fv44, ft44, fm44⟩ := hRR 44 _ 133 rfl rfl (by kernel_rfl)
        replace fm44 : fv44 = Value.bool H := fm44
        subst fm44
        obtain ⟨fv46, ft46, fm46⟩ := hRR 46 _ 135 rfl rfl (by kernel_rfl)
        replace fm46 : (fun v _ => v = cond H (.bool !P) undef) fv46 W := fm46
        try dsimp only at fm46
        first | subst fm46 | obtain ⟨_, rfl, fm46⟩ := fm46
        obtain ⟨fv37, ft37, fm37⟩ := hRR 37 _ 126 rfl rfl (by kernel_rfl)
        replace fm37 : fv37 = Value.bool true := fm37
        subst fm37
        replace hKK : ∀ v w', Go.RowKit.Below W.heap.size W w' → (fun v _ => v = .bool (H && !P)) v w' → KK (Act.put fa _ v) w' := fun v w' h1 h2 => hKK v w' h1 h2
        clear hSame hRR
        (cases P <;> cases Q <;> cases H) <;> ((rw [wanted_guard rfl rfl rfl ft37]; first | rw [if_pos (by rfl)] | rw [if_neg (by decide)])) <;> (try go_simp) <;> (refine hKK _ _ ?_ ?_) <;> first | (first | exact Below.refl _ _ | exact (Below.refl _ _).alloc (Nat.le_refl _) _ | exact below_draw _ _ | assumption) | exact rfl
      refine Obs.cons (k' := 49) rfl ?_ ?_
      · intro fa W hW hSame hRR KK hKK
        try dsimp only at hW
        obtain ⟨fv40, ft40, fm40⟩ := hRR 40 _ 129 rfl rfl (by kernel_rfl)
        replace fm40 : fv40 = Value.bool (H && !P) := fm40
        subst fm40
        obtain ⟨fv47, ft47, fm47⟩ := hRR 47 _ 136 rfl rfl (by kernel_rfl)
        replace fm47 : (fun v _ => v = .bool (H && !P)) fv47 W := fm47
        try dsimp only at fm47
        first | subst fm47 | obtain ⟨_, rfl, fm47⟩ := fm47
        obtain ⟨fv37, ft37, fm37⟩ := hRR 37 _ 126 rfl rfl (by kernel_rfl)
        replace fm37 : fv37 = Value.bool true := fm37
        subst fm37
        replace hKK : ∀ v w', Go.RowKit.Below W.heap.size W w' → v = Value.bool true → KK (Act.put fa _ v) w' := fun v w' h1 h2 => hKK v w' h1 h2
        clear hSame hRR
        rw [wanted_guard rfl rfl rfl ft37]
        first | rw [if_pos (by rfl)] | rw [if_neg (by decide)]
        go_simp
        refine hKK _ _ ?_ ?_
        · first | exact Below.refl _ _ | exact (Below.refl _ _).alloc (Nat.le_refl _) _ | exact below_draw _ _ | assumption
        · exact rfl
      refine Obs.cons (k' := 50) rfl ?_ ?_
      · intro fa W hW hSame hRR KK hKK
        try dsimp only at hW
        obtain ⟨fv37, ft37, fm37⟩ := hRR 37 _ 126 rfl rfl (by kernel_rfl)
        replace fm37 : fv37 = Value.bool true := fm37
        subst fm37
        obtain ⟨fv48, ft48, fm48⟩ := hRR 48 _ 137 rfl rfl (by kernel_rfl)
        replace fm48 : fv48 = Value.bool true := fm48
        subst fm48
        replace hKK : ∀ v w', Go.RowKit.Below W.heap.size W w' → v = Value.bool true → KK (Act.put fa _ v) w' := fun v w' h1 h2 => hKK v w' h1 h2
        clear hSame hRR
        rw [if_pos (wanted_plain rfl)]
        go_simp
        refine hKK _ _ ?_ ?_
        · first | exact Below.refl _ _ | exact (Below.refl _ _).alloc (Nat.le_refl _) _ | exact below_draw _ _ | assumption
        · exact rfl
      refine Obs.cons (k' := 51) rfl ?_ ?_
      · intro fa W hW hSame hRR KK hKK
        try dsimp only at hW
        obtain ⟨fv49, ft49, fm49⟩ := hRR 49 _ 138 rfl rfl (by kernel_rfl)
        replace fm49 : fv49 = Value.bool true := fm49
        subst fm49
        replace hKK : ∀ v w', Go.RowKit.Below W.heap.size W w' → v = Value.bool true → KK (Act.put fa _ v) w' := fun v w' h1 h2 => hKK v w' h1 h2
        clear hSame hRR
        rw [if_pos (wanted_plain rfl)]
        go_simp
        refine hKK _ _ ?_ ?_
        · first | exact Below.refl _ _ | exact (Below.refl _ _).alloc (Nat.le_refl _) _ | exact below_draw _ _ | assumption
        · exact rfl
      exact Obs.nil
    case hlast =>
      intro fa W hW hSame hRR
      try dsimp only at hW
      obtain ⟨fv50, ft50, fm50⟩ := hRR 50 _ 8 rfl rfl
      replace fm50 : fv50 = Value.bool true := fm50
      subst fm50
      have hdf := hSame.defers
      obtain ⟨tm, df⟩ := fa
      dsimp only at hdf ft50
      subst hdf
      have BB := Lib.hid hW.1
      clear hSame hRR hW
      go_wp2_with fail
      refine bodyPost_ret (v := .bool true) ?_ rfl ⟨rfl, BB.out⟩
      rw [results_tmp rfl]
      simp [Array.getD_eq_getD_getElem?, ft50]
end Go.Proofs.Ytnfjdjfajkdiiaa

