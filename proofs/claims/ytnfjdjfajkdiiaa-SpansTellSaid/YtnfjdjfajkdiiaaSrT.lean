/- SpansTell: the walk. -/
import Derived.Test.YtnfjdjfajkdiiaaLiv11
import Derived.Test.YtnfjdjfajkdiiaaSrD
import Derived.Test.YtnfjdjfajkdiiaaSrE
import Derived.Test.YtnfjdjfajkdiiaaPairF
set_option linter.unusedVariables false
set_option linter.unusedSimpArgs false
namespace Go.Proofs.Ytnfjdjfajkdiiaa
open Go.RowKit Go.Sort Go.Shelf Go.Pairs

namespace Ss
theorem anl_len (a b : List S) (m : Nat) (hb : b.length ≤ m) : (anl a b).length ≤ a.length * m := by
  have e : ∀ (x : S) (b : List S), (b.flatMap fun y => bth x y).length ≤ b.length := by
    intro x b
    induction b with
    | nil => simp
    | cons y b ih => rw [List.flatMap_cons, List.length_append, List.length_cons]; have := bth_len x y; omega
  induction a with
  | nil => simp [anl]
  | cons x a ih => unfold anl at *; rw [List.flatMap_cons, List.length_append, List.length_cons, Nat.add_mul]; have := e x b; omega
theorem rls_len (b : List S) : ∀ out, Rs out → (rls out b).length ≤ out.length + b.length := by
  induction b with
  | nil => intro out _; simp [rls]
  | cons y b ih =>
    intro out h
    have := ih _ (flat_set (fun x => lss x y) (fun x => lss_set x y) out h).1
    have := lss_grow y out h
    rw [rls, List.length_cons]; omega
end Ss
theorem ckB1 {W W' : World} {a : Addr} {v : Value} (k : Below W.heap.size W W') (h : W.cell? a = some v) : W'.cell? a = some v := (k.cell (World.block_lt_of_cell? _ _ h)).trans h
theorem keepT {w W W' : World} {va vb : Value} {a b : List Ss.S} {a0 a1 a2 a3 a4 a5 : Addr} {v0 v1 v2 v3 v4 v5 : Value} (k : Below W.heap.size W W')
    (h : Below w.heap.size w W ∧ SpV W va a ∧ SpV W vb b ∧ (W.cell? a0 = some v0 ∧ W.cell? a1 = some v1) ∧ (W.cell? a2 = some v2 ∧ W.cell? a3 = some v3) ∧ W.cell? a4 = some v4 ∧ W.cell? a5 = some v5) :
    Below w.heap.size w W' ∧ SpV W' va a ∧ SpV W' vb b ∧ (W'.cell? a0 = some v0 ∧ W'.cell? a1 = some v1) ∧ (W'.cell? a2 = some v2 ∧ W'.cell? a3 = some v3) ∧ W'.cell? a4 = some v4 ∧ W'.cell? a5 = some v5 :=
  ⟨below_step h.1 k, h.2.1.on k, h.2.2.1.on k, ⟨ckB1 k h.2.2.2.1.1, ckB1 k h.2.2.2.1.2⟩, ⟨ckB1 k h.2.2.2.2.1.1, ckB1 k h.2.2.2.2.1.2⟩, ckB1 k h.2.2.2.2.2.1, ckB1 k h.2.2.2.2.2.2⟩
set_option maxRecDepth 100000 in
set_option maxHeartbeats 8000000 in
theorem spansTell_any (va : Value) (a : List Ss.S) (vb : Value) (b : List Ss.S) (s0 s1 t : Int) (w : World) (h : SpV w va a) (hz : Ss.B64 a) (k : SpV w vb b) :
    Calls Try.prog 3 #[va, vb, .agg #[.int .i64 s0, .int .i64 s1], .int .i64 t] w fun e w' => e = .returned (.bool true) ∧ Below w.heap.size w w' := by
  obtain ⟨A, c, rfl, -⟩ := id h
  obtain ⟨B, d, rfl, -⟩ := id k
  have bw : Below w.heap.size w (w.alloc (.cells #[.int .i64 s0, .int .i64 s1] 24)) := (Below.refl _ _).alloc (Nat.le_refl _) _
  have HA0 := Lib.hid (h.on bw); have HB0 := Lib.hid (k.on bw); have KS0 := Lib.hid (Blk.new w 24 #[.int .i64 s0, .int .i64 s1])
  have B0 := Lib.hid bw
  have HZ := Lib.hid hz
  clear h k bw hz
  go_enter Try.func3, Try.ntmps3
  by_cases ha : (40 : Int) < a.length
  · go_wp2_with fail
    refine (lives11_any _).mono ?_; rintro e w1 ⟨rfl, b1⟩
    go_wp2
    go_ret
    exact ⟨rfl, below_step B0.out b1⟩
  by_cases hb : (40 : Int) < b.length
  · go_wp2_with fail
    refine (lives11_any _).mono ?_; rintro e w1 ⟨rfl, b1⟩
    go_wp2
    go_ret
    exact ⟨rfl, below_step B0.out b1⟩
  have LA := Lib.hid (show a.length ≤ 1000 by omega); have LB := Lib.hid (show b.length ≤ 1000 by omega); have LA1 := Lib.hid (show a.length ≤ 100 by omega); have LB1 := Lib.hid (show b.length ≤ 100 by omega)
  have LC := Lib.hid (show a.length ≤ 100000 by omega)
  go_wp2_with fail
  refine (find_any _ a t _ HA0.out LA.out).mono ?_
  rintro e w1 ⟨lf, r1, r2, rfl, bw⟩
  have HA1 := Lib.hid (HA0.out.on bw); have HB1 := Lib.hid (HB0.out.on bw); have KS1 := Lib.hid (KS0.out.on bw); have B1 := Lib.hid (below_step B0.out bw)
  clear HA0 HB0 KS0 B0 bw
  obtain ⟨x0, x1, x2, hx⟩ : ∃ x0 x1 x2, Ss.fd t lf = (x0, x1, x2) := ⟨_, _, _, rfl⟩
  rw [hx]
  have HX := Lib.hid hx; have RF := Lib.hid (And.intro r1 r2)
  clear hx r1 r2
  have bw : Below w1.heap.size w1 (w1.alloc (.cells #[.int .i64 x0, .int .i64 x1] 24)) := (Below.refl _ _).alloc (Nat.le_refl _) _
  have KX2 := Lib.hid (Blk.new w1 24 #[.int .i64 x0, .int .i64 x1])
  have HA2 := Lib.hid (HA1.out.on bw); have HB2 := Lib.hid (HB1.out.on bw); have KS2 := Lib.hid (KS1.out.on bw); have B2 := Lib.hid (below_step B1.out bw)
  clear HA1 HB1 KS1 B1 bw
  dsimp only
  go_wp2_with fail
  generalize w1.heap.size = gx at *
  refine (rfind_any _ a t _ HA2.out LA.out).mono ?_
  rintro e w3 ⟨lf2, r1, r2, rfl, bw⟩
  have HA3 := Lib.hid (HA2.out.on bw); have HB3 := Lib.hid (HB2.out.on bw); have KS3 := Lib.hid (KS2.out.on bw); have KX3 := Lib.hid (KX2.out.on bw); have B3 := Lib.hid (below_step B2.out bw)
  clear HA2 HB2 KS2 KX2 B2 bw
  obtain rfl : lf2 = lf := Ss.rs_ext _ _ r1 RF.out.1 (fun u => by rw [r2 u, RF.out.2 u])
  rw [HX.out]
  clear r1 r2
  have bw : Below w3.heap.size w3 (w3.alloc (.cells #[.int .i64 x0, .int .i64 x1] 24)) := (Below.refl _ _).alloc (Nat.le_refl _) _
  have KY4 := Lib.hid (Blk.new w3 24 #[.int .i64 x0, .int .i64 x1])
  have HA4 := Lib.hid (HA3.out.on bw); have HB4 := Lib.hid (HB3.out.on bw); have KS4 := Lib.hid (KS3.out.on bw); have KX4 := Lib.hid (KX3.out.on bw); have B4 := Lib.hid (below_step B3.out bw)
  clear HA3 HB3 KS3 KX3 B3 bw
  dsimp only
  go_wp2_with fail
  generalize w3.heap.size = gy at *
  refine (total_any _ a _ HA4.out LA.out HZ.out).mono ?_
  rintro e w5 ⟨lt, r1, r2, rfl, bw⟩
  obtain rfl : lt = lf2 := Ss.rs_ext _ _ r1 RF.out.1 (fun u => by rw [r2 u, RF.out.2 u])
  obtain ⟨n0, n1, hn⟩ : ∃ n0 n1, Ss.tot 0 lt = (n0, n1) := ⟨_, _, rfl⟩
  rw [hn]
  have HT := Lib.hid hn
  clear r1 r2 hn
  have HA5 := Lib.hid (HA4.out.on bw); have HB5 := Lib.hid (HB4.out.on bw); have KS5 := Lib.hid (KS4.out.on bw); have KX5 := Lib.hid (KX4.out.on bw); have KY5 := Lib.hid (KY4.out.on bw); have B5 := Lib.hid (below_step B4.out bw)
  clear HA4 HB4 KS4 KX4 KY4 B4 bw
  go_wp2_with fail
  refine (rtotal_any _ a _ HA5.out LA.out HZ.out).mono ?_
  rintro e w6 ⟨lu, r1, r2, rfl, bw⟩
  obtain rfl : lu = lt := Ss.rs_ext _ _ r1 RF.out.1 (fun u => by rw [r2 u, RF.out.2 u])
  rw [HT.out]
  clear r1 r2
  have HA6 := Lib.hid (HA5.out.on bw); have HB6 := Lib.hid (HB5.out.on bw); have KS6 := Lib.hid (KS5.out.on bw); have KX6 := Lib.hid (KX5.out.on bw); have KY6 := Lib.hid (KY5.out.on bw); have B6 := Lib.hid (below_step B5.out bw)
  clear HA5 HB5 KS5 KX5 KY5 B5 bw
  obtain ⟨L1, hL⟩ : ∃ L, Ss.rof [] a = L := ⟨_, rfl⟩
  have Q1 := Lib.hid hL
  have U1 := Lib.hid (show ∀ l, Ss.Rs l → (∀ t, Ss.inl l t = (Ss.inl a t || Ss.inl [] t)) → l = L1 from fun l h1 h2 => by rw [← hL]; exact Ss.rs_ext _ _ h1 (Ss.rof_nil a).1 (fun u => by rw [h2 u, (Ss.rof_nil a).2 u]; simp [Ss.inl]))
  clear hL
  obtain ⟨L2, hL⟩ : ∃ L, Ss.rof [] (a ++ b) = L := ⟨_, rfl⟩
  have Q2 := Lib.hid hL
  have U2 := Lib.hid (show ∀ l, Ss.Rs l → (∀ t, Ss.inl l t = (Ss.inl a t || Ss.inl b t)) → l = L2 from fun l h1 h2 => by rw [← hL]; exact Ss.rs_ext _ _ h1 (Ss.rof_nil (a ++ b)).1 (fun u => by rw [h2 u, (Ss.rof_nil (a ++ b)).2 u]; rw [Ss.inl_app]))
  clear hL
  obtain ⟨L3, hL⟩ : ∃ L, Ss.rof [] (Ss.anl a b) = L := ⟨_, rfl⟩
  have Q3 := Lib.hid hL
  have U3 := Lib.hid (show ∀ l, Ss.Rs l → (∀ t, Ss.inl l t = (Ss.inl a t && Ss.inl b t)) → l = L3 from fun l h1 h2 => by rw [← hL]; exact Ss.rs_ext _ _ h1 (Ss.rof_nil (Ss.anl a b)).1 (fun u => by rw [h2 u, (Ss.rof_nil (Ss.anl a b)).2 u]; rw [Ss.anl_in]))
  clear hL
  obtain ⟨L4, hL⟩ : ∃ L, Ss.rls (Ss.rof [] a) b = L := ⟨_, rfl⟩
  have Q4 := Lib.hid hL
  have U4 := Lib.hid (show ∀ l, Ss.Rs l → (∀ t, Ss.inl l t = (Ss.inl a t && !Ss.inl b t)) → l = L4 from fun l h1 h2 => by rw [← hL]; exact Ss.rs_ext _ _ h1 (Ss.rls_set b _ (Ss.rof_nil a).1).1 (fun u => by rw [h2 u, (Ss.rls_set b _ (Ss.rof_nil a).1).2 u]; rw [(Ss.rof_nil a).2]))
  clear hL
  obtain ⟨L5, hL⟩ : ∃ L, Ss.rls (Ss.rof [] [(s0, s1)]) a = L := ⟨_, rfl⟩
  have Q5 := Lib.hid hL
  have U5 := Lib.hid (show ∀ l, Ss.Rs l → (∀ t, Ss.inl l t = (Ss.inl [(s0, s1)] t && !Ss.inl a t)) → l = L5 from fun l h1 h2 => by rw [← hL]; exact Ss.rs_ext _ _ h1 (Ss.rls_set a _ (Ss.rof_nil [(s0, s1)]).1).1 (fun u => by rw [h2 u, (Ss.rls_set a _ (Ss.rof_nil [(s0, s1)]).1).2 u]; rw [(Ss.rof_nil [(s0, s1)]).2]))
  clear hL
  obtain ⟨rr, hrr⟩ : ∃ rr, Ss.rr none a = rr := ⟨_, rfl⟩
  have RR := Lib.hid hrr
  have LA6 := Lib.hid (show a.length ≤ 1000000 by omega)
  clear hrr
  have CC := Lib.hid (show (fun W => Below w.heap.size w W ∧ SpV W (.slice A a.length c) a ∧ SpV W (.slice B b.length d) b ∧ (W.cell? ⟨w.heap.size, 0, none⟩ = some (.int .i64 s0) ∧ W.cell? ⟨w.heap.size, 1, none⟩ = some (.int .i64 s1)) ∧ (W.cell? ⟨gx, 0, none⟩ = some (.int .i64 x0) ∧ W.cell? ⟨gx, 1, none⟩ = some (.int .i64 x1)) ∧ W.cell? ⟨gy, 0, none⟩ = some (.int .i64 x0) ∧ W.cell? ⟨gy, 1, none⟩ = some (.int .i64 x1)) w6 from ⟨B6.out, HA6.out, HB6.out, ⟨KS6.out.c0, KS6.out.c1⟩, ⟨KX6.out.c0, KX6.out.c1⟩, KY6.out.c0, KY6.out.c1⟩)
  clear B6 HA6 HB6 KS6 KX6 KY6
  have MX := Lib.hid (show L1.length ≤ maxLen ∧ L2.length ≤ maxLen ∧ L3.length ≤ maxLen ∧ L4.length ≤ maxLen ∧ L5.length ≤ maxLen from by
    refine ⟨?_, ?_, ?_, ?_, ?_⟩ <;> unfold maxLen
    · rw [← Q1.out]; have := Ss.rof_len a; omega
    · rw [← Q2.out]; have := Ss.rof_len (a ++ b); rw [List.length_append] at this; omega
    · rw [← Q3.out]; have := Ss.rof_len (Ss.anl a b); have h2 := Ss.anl_len a b 40 (by omega); omega
    · rw [← Q4.out]; have := Ss.rls_len b _ (Ss.rof_nil a).1; have := Ss.rof_len a; omega
    · rw [← Q5.out]; have := Ss.rls_len a _ (Ss.rof_nil [(s0, s1)]).1; have h2 := Ss.rof_len [(s0, s1)]; rw [List.length_singleton] at h2; omega)
  go_wp2_with fail
  simp only [List.append]
  refine wp_region_pairs (C := fun W => Below w.heap.size w W ∧ SpV W (.slice A a.length c) a ∧ SpV W (.slice B b.length d) b ∧ (W.cell? ⟨w.heap.size, 0, none⟩ = some (.int .i64 s0) ∧ W.cell? ⟨w.heap.size, 1, none⟩ = some (.int .i64 s1)) ∧ (W.cell? ⟨gx, 0, none⟩ = some (.int .i64 x0) ∧ W.cell? ⟨gx, 1, none⟩ = some (.int .i64 x1)) ∧ W.cell? ⟨gy, 0, none⟩ = some (.int .i64 x0) ∧ W.cell? ⟨gy, 1, none⟩ = some (.int .i64 x1)) (R := markR [(fun v _ => v = Value.agg #[Value.int IntKind.i64 x0, Value.int IntKind.i64 x1]), (fun v _ => v = Value.agg #[Value.int IntKind.i64 x0, Value.int IntKind.i64 x1]), (fun v _ => v = Value.bool true), (fun v _ => v = Value.bool true), (fun v _ => v = Value.bool x2), (fun v _ => v = Value.bool x2), (fun v _ => v = Value.bool true), (fun v _ => v = Value.bool true), (fun v _ => v = Value.bool true), (fun v _ => v = Value.int IntKind.i64 n0), (fun v _ => v = Value.int IntKind.i64 n0), (fun v _ => v = Value.bool true), (fun v _ => v = Value.bool true), (fun v _ => v = Value.bool true), (fun v _ => v = Value.int IntKind.i64 n1), (fun v _ => v = Value.int IntKind.i64 n1), (fun v _ => v = Value.bool true), (fun v _ => v = Value.bool true), (fun v _ => v = Value.bool true), (fun v _ => v = Value.slice A a.length c), (fun v _ => v = Value.bool rr), (fun v _ => v = Value.slice A a.length c), (fun v _ => v = Value.bool rr), (fun v _ => v = Value.bool true), (fun v _ => v = Value.bool true), (fun v _ => v = Value.bool true), (fun v _ => v = Value.slice A a.length c), (fun v W => ∃ u : Option Addr × Nat, v = .slice u.1 L1.length u.2 ∧ SpV W (.slice u.1 L1.length u.2) L1), (fun v _ => v = Value.slice A a.length c), (fun v W => ∃ u : Option Addr × Nat, v = .slice u.1 L1.length u.2 ∧ SpV W (.slice u.1 L1.length u.2) L1), (fun v _ => v = Value.bool true), (fun v _ => v = Value.bool true), (fun v _ => v = Value.bool true), (fun v _ => v = Value.slice A a.length c), (fun v _ => v = Value.slice B b.length d), (fun v W => ∃ u : Option Addr × Nat, v = .slice u.1 L2.length u.2 ∧ SpV W (.slice u.1 L2.length u.2) L2), (fun v _ => v = Value.slice A a.length c), (fun v _ => v = Value.slice B b.length d), (fun v W => ∃ u : Option Addr × Nat, v = .slice u.1 L2.length u.2 ∧ SpV W (.slice u.1 L2.length u.2) L2), (fun v _ => v = Value.bool true), (fun v _ => v = Value.bool true), (fun v _ => v = Value.bool true), (fun v _ => v = Value.slice A a.length c), (fun v _ => v = Value.slice B b.length d), (fun v W => ∃ u : Option Addr × Nat, v = .slice u.1 L3.length u.2 ∧ SpV W (.slice u.1 L3.length u.2) L3), (fun v _ => v = Value.slice A a.length c), (fun v _ => v = Value.slice B b.length d), (fun v W => ∃ u : Option Addr × Nat, v = .slice u.1 L3.length u.2 ∧ SpV W (.slice u.1 L3.length u.2) L3), (fun v _ => v = Value.bool true), (fun v _ => v = Value.bool true), (fun v _ => v = Value.bool true), (fun v _ => v = Value.slice A a.length c), (fun v _ => v = Value.slice B b.length d), (fun v W => ∃ u : Option Addr × Nat, v = .slice u.1 L4.length u.2 ∧ SpV W (.slice u.1 L4.length u.2) L4), (fun v _ => v = Value.slice A a.length c), (fun v _ => v = Value.slice B b.length d), (fun v W => ∃ u : Option Addr × Nat, v = .slice u.1 L4.length u.2 ∧ SpV W (.slice u.1 L4.length u.2) L4), (fun v _ => v = Value.bool true), (fun v _ => v = Value.bool true), (fun v _ => v = Value.bool true), (fun v _ => v = Value.slice A a.length c), (fun v _ => v = Value.agg #[Value.int IntKind.i64 s0, Value.int IntKind.i64 s1]), (fun v W => ∃ u : Option Addr × Nat, v = .slice u.1 L5.length u.2 ∧ SpV W (.slice u.1 L5.length u.2) L5), (fun v _ => v = Value.slice A a.length c), (fun v _ => v = Value.agg #[Value.int IntKind.i64 s0, Value.int IntKind.i64 s1]), (fun v W => ∃ u : Option Addr × Nat, v = .slice u.1 L5.length u.2 ∧ SpV W (.slice u.1 L5.length u.2) L5), (fun v _ => v = Value.bool true), (fun v _ => v = Value.bool true), (fun v _ => v = Value.bool true), (fun v _ => v = Value.bool true), (fun v _ => v = Value.bool true), (fun v _ => v = Value.bool true)]) (G := fun W W' => Below W.heap.size W W') (by rfl) ?hbeg ⟨by kernel_rfl, by kernel_rfl, by kernel_rfl, ?hkeep, ?hstab, Obs.all ?hobs, ?hlast⟩
  case hbeg =>
    try dsimp only
    exact keepT ((Below.refl _ _).drew) CC.out
  case hkeep =>
    intro w' w'' hC hG
    try dsimp only at hC hG ⊢
    exact keepT hG hC
  case hstab =>
    refine StableL.all ?_
    repeat (first | exact trivial | refine ⟨(by first | exact (fun _ _ _ _ h => h) | (exact fun v W W' hG h => by obtain ⟨u, hv, hs⟩ := h; exact ⟨u, hv, hs.on hG⟩)), ?_⟩)
  case hobs =>
    refine Obs.cons (k' := 1) rfl ?_ ?_
    · intro fa W hW hSame hRR KK hKK
      try dsimp only at hW
      have fb9 := hSame.base 9 (by kernel_rfl)
      simp only [List.getElem?_toArray, List.getElem?_cons_succ, List.getElem?_cons_zero] at fb9
      replace hKK : ∀ v w', Go.RowKit.Below W.heap.size W w' → v = Value.agg #[Value.int IntKind.i64 x0, Value.int IntKind.i64 x1] → KK (Act.put fa _ v) w' := fun v w' h1 h2 => hKK v w' h1 h2
      clear hSame hRR
      rw [if_pos (wanted_plain rfl)]
      go_simp
      refine hKK _ _ ?_ ?_
      · first | exact Below.refl _ _ | exact (Below.refl _ _).alloc (Nat.le_refl _) _ | exact below_draw _ _ | assumption
      · exact rfl
    refine Obs.cons (k' := 2) rfl ?_ ?_
    · intro fa W hW hSame hRR KK hKK
      try dsimp only at hW
      have fb11 := hSame.base 11 (by kernel_rfl)
      simp only [List.getElem?_toArray, List.getElem?_cons_succ, List.getElem?_cons_zero] at fb11
      replace hKK : ∀ v w', Go.RowKit.Below W.heap.size W w' → v = Value.agg #[Value.int IntKind.i64 x0, Value.int IntKind.i64 x1] → KK (Act.put fa _ v) w' := fun v w' h1 h2 => hKK v w' h1 h2
      clear hSame hRR
      rw [if_pos (wanted_plain rfl)]
      go_simp
      refine hKK _ _ ?_ ?_
      · first | exact Below.refl _ _ | exact (Below.refl _ _).alloc (Nat.le_refl _) _ | exact below_draw _ _ | assumption
      · exact rfl
    refine Obs.cons (k' := 3) rfl ?_ ?_
    · intro fa W hW hSame hRR KK hKK
      try dsimp only at hW
      obtain ⟨fv0, ft0, fm0⟩ := hRR 0 _ 48 rfl rfl (by kernel_rfl)
      replace fm0 : fv0 = Value.agg #[Value.int IntKind.i64 x0, Value.int IntKind.i64 x1] := fm0
      subst fm0
      obtain ⟨fv1, ft1, fm1⟩ := hRR 1 _ 49 rfl rfl (by kernel_rfl)
      replace fm1 : fv1 = Value.agg #[Value.int IntKind.i64 x0, Value.int IntKind.i64 x1] := fm1
      subst fm1
      replace hKK : ∀ v w', Go.RowKit.Below W.heap.size W w' → v = Value.bool true → KK (Act.put fa _ v) w' := fun v w' h1 h2 => hKK v w' h1 h2
      clear hSame hRR
      rw [if_pos (wanted_plain rfl)]
      go_simp
      refine hKK _ _ ?_ ?_
      · first | exact Below.refl _ _ | exact (Below.refl _ _).alloc (Nat.le_refl _) _ | exact below_draw _ _ | assumption
      · exact rfl
    refine Obs.cons (k' := 4) rfl ?_ ?_
    · intro fa W hW hSame hRR KK hKK
      try dsimp only at hW
      obtain ⟨fv2, ft2, fm2⟩ := hRR 2 _ 50 rfl rfl (by kernel_rfl)
      replace fm2 : fv2 = Value.bool true := fm2
      subst fm2
      replace hKK : ∀ v w', Go.RowKit.Below W.heap.size W w' → v = Value.bool true → KK (Act.put fa _ v) w' := fun v w' h1 h2 => hKK v w' h1 h2
      clear hSame hRR
      rw [if_pos (wanted_plain rfl)]
      go_simp
      refine hKK _ _ ?_ ?_
      · first | exact Below.refl _ _ | exact (Below.refl _ _).alloc (Nat.le_refl _) _ | exact below_draw _ _ | assumption
      · exact rfl
    refine Obs.cons (k' := 5) rfl ?_ ?_
    · intro fa W hW hSame hRR KK hKK
      try dsimp only at hW
      obtain ⟨fv3, ft3, fm3⟩ := hRR 3 _ 51 rfl rfl (by kernel_rfl)
      replace fm3 : fv3 = Value.bool true := fm3
      subst fm3
      have fb10 := hSame.base 10 (by kernel_rfl)
      simp only [List.getElem?_toArray, List.getElem?_cons_succ, List.getElem?_cons_zero] at fb10
      replace hKK : ∀ v w', Go.RowKit.Below W.heap.size W w' → v = Value.bool x2 → KK (Act.put fa _ v) w' := fun v w' h1 h2 => hKK v w' h1 h2
      clear hSame hRR
      rw [wanted_guard rfl rfl rfl ft3]
      first | rw [if_pos (by rfl)] | rw [if_neg (by decide)]
      go_simp
      refine hKK _ _ ?_ ?_
      · first | exact Below.refl _ _ | exact (Below.refl _ _).alloc (Nat.le_refl _) _ | exact below_draw _ _ | assumption
      · exact rfl
    refine Obs.cons (k' := 6) rfl ?_ ?_
    · intro fa W hW hSame hRR KK hKK
      try dsimp only at hW
      obtain ⟨fv3, ft3, fm3⟩ := hRR 3 _ 51 rfl rfl (by kernel_rfl)
      replace fm3 : fv3 = Value.bool true := fm3
      subst fm3
      have fb12 := hSame.base 12 (by kernel_rfl)
      simp only [List.getElem?_toArray, List.getElem?_cons_succ, List.getElem?_cons_zero] at fb12
      replace hKK : ∀ v w', Go.RowKit.Below W.heap.size W w' → v = Value.bool x2 → KK (Act.put fa _ v) w' := fun v w' h1 h2 => hKK v w' h1 h2
      clear hSame hRR
      rw [wanted_guard rfl rfl rfl ft3]
      first | rw [if_pos (by rfl)] | rw [if_neg (by decide)]
      go_simp
      refine hKK _ _ ?_ ?_
      · first | exact Below.refl _ _ | exact (Below.refl _ _).alloc (Nat.le_refl _) _ | exact below_draw _ _ | assumption
      · exact rfl
    refine Obs.cons (k' := 7) rfl ?_ ?_
    · intro fa W hW hSame hRR KK hKK
      try dsimp only at hW
      obtain ⟨fv4, ft4, fm4⟩ := hRR 4 _ 52 rfl rfl (by kernel_rfl)
      replace fm4 : fv4 = Value.bool x2 := fm4
      subst fm4
      obtain ⟨fv5, ft5, fm5⟩ := hRR 5 _ 53 rfl rfl (by kernel_rfl)
      replace fm5 : fv5 = Value.bool x2 := fm5
      subst fm5
      obtain ⟨fv3, ft3, fm3⟩ := hRR 3 _ 51 rfl rfl (by kernel_rfl)
      replace fm3 : fv3 = Value.bool true := fm3
      subst fm3
      replace hKK : ∀ v w', Go.RowKit.Below W.heap.size W w' → v = Value.bool true → KK (Act.put fa _ v) w' := fun v w' h1 h2 => hKK v w' h1 h2
      clear hSame hRR
      rw [wanted_guard rfl rfl rfl ft3]
      first | rw [if_pos (by rfl)] | rw [if_neg (by decide)]
      go_simp
      refine hKK _ _ ?_ ?_
      · first | exact Below.refl _ _ | exact (Below.refl _ _).alloc (Nat.le_refl _) _ | exact below_draw _ _ | assumption
      · exact rfl
    refine Obs.cons (k' := 8) rfl ?_ ?_
    · intro fa W hW hSame hRR KK hKK
      try dsimp only at hW
      obtain ⟨fv3, ft3, fm3⟩ := hRR 3 _ 51 rfl rfl (by kernel_rfl)
      replace fm3 : fv3 = Value.bool true := fm3
      subst fm3
      obtain ⟨fv6, ft6, fm6⟩ := hRR 6 _ 54 rfl rfl (by kernel_rfl)
      replace fm6 : fv6 = Value.bool true := fm6
      subst fm6
      replace hKK : ∀ v w', Go.RowKit.Below W.heap.size W w' → v = Value.bool true → KK (Act.put fa _ v) w' := fun v w' h1 h2 => hKK v w' h1 h2
      clear hSame hRR
      rw [if_pos (wanted_plain rfl)]
      go_simp
      refine hKK _ _ ?_ ?_
      · first | exact Below.refl _ _ | exact (Below.refl _ _).alloc (Nat.le_refl _) _ | exact below_draw _ _ | assumption
      · exact rfl
    refine Obs.cons (k' := 9) rfl ?_ ?_
    · intro fa W hW hSame hRR KK hKK
      try dsimp only at hW
      obtain ⟨fv7, ft7, fm7⟩ := hRR 7 _ 55 rfl rfl (by kernel_rfl)
      replace fm7 : fv7 = Value.bool true := fm7
      subst fm7
      replace hKK : ∀ v w', Go.RowKit.Below W.heap.size W w' → v = Value.bool true → KK (Act.put fa _ v) w' := fun v w' h1 h2 => hKK v w' h1 h2
      clear hSame hRR
      rw [if_pos (wanted_plain rfl)]
      go_simp
      refine hKK _ _ ?_ ?_
      · first | exact Below.refl _ _ | exact (Below.refl _ _).alloc (Nat.le_refl _) _ | exact below_draw _ _ | assumption
      · exact rfl
    refine Obs.cons (k' := 10) rfl ?_ ?_
    · intro fa W hW hSame hRR KK hKK
      try dsimp only at hW
      obtain ⟨fv8, ft8, fm8⟩ := hRR 8 _ 56 rfl rfl (by kernel_rfl)
      replace fm8 : fv8 = Value.bool true := fm8
      subst fm8
      have fb13 := hSame.base 13 (by kernel_rfl)
      simp only [List.getElem?_toArray, List.getElem?_cons_succ, List.getElem?_cons_zero] at fb13
      replace hKK : ∀ v w', Go.RowKit.Below W.heap.size W w' → v = Value.int IntKind.i64 n0 → KK (Act.put fa _ v) w' := fun v w' h1 h2 => hKK v w' h1 h2
      clear hSame hRR
      rw [wanted_guard rfl rfl rfl ft8]
      first | rw [if_pos (by rfl)] | rw [if_neg (by decide)]
      go_simp
      refine hKK _ _ ?_ ?_
      · first | exact Below.refl _ _ | exact (Below.refl _ _).alloc (Nat.le_refl _) _ | exact below_draw _ _ | assumption
      · exact rfl
    refine Obs.cons (k' := 11) rfl ?_ ?_
    · intro fa W hW hSame hRR KK hKK
      try dsimp only at hW
      obtain ⟨fv8, ft8, fm8⟩ := hRR 8 _ 56 rfl rfl (by kernel_rfl)
      replace fm8 : fv8 = Value.bool true := fm8
      subst fm8
      have fb15 := hSame.base 15 (by kernel_rfl)
      simp only [List.getElem?_toArray, List.getElem?_cons_succ, List.getElem?_cons_zero] at fb15
      replace hKK : ∀ v w', Go.RowKit.Below W.heap.size W w' → v = Value.int IntKind.i64 n0 → KK (Act.put fa _ v) w' := fun v w' h1 h2 => hKK v w' h1 h2
      clear hSame hRR
      rw [wanted_guard rfl rfl rfl ft8]
      first | rw [if_pos (by rfl)] | rw [if_neg (by decide)]
      go_simp
      refine hKK _ _ ?_ ?_
      · first | exact Below.refl _ _ | exact (Below.refl _ _).alloc (Nat.le_refl _) _ | exact below_draw _ _ | assumption
      · exact rfl
    refine Obs.cons (k' := 12) rfl ?_ ?_
    · intro fa W hW hSame hRR KK hKK
      try dsimp only at hW
      obtain ⟨fv9, ft9, fm9⟩ := hRR 9 _ 57 rfl rfl (by kernel_rfl)
      replace fm9 : fv9 = Value.int IntKind.i64 n0 := fm9
      subst fm9
      obtain ⟨fv10, ft10, fm10⟩ := hRR 10 _ 58 rfl rfl (by kernel_rfl)
      replace fm10 : fv10 = Value.int IntKind.i64 n0 := fm10
      subst fm10
      obtain ⟨fv8, ft8, fm8⟩ := hRR 8 _ 56 rfl rfl (by kernel_rfl)
      replace fm8 : fv8 = Value.bool true := fm8
      subst fm8
      replace hKK : ∀ v w', Go.RowKit.Below W.heap.size W w' → v = Value.bool true → KK (Act.put fa _ v) w' := fun v w' h1 h2 => hKK v w' h1 h2
      clear hSame hRR
      rw [wanted_guard rfl rfl rfl ft8]
      first | rw [if_pos (by rfl)] | rw [if_neg (by decide)]
      go_simp
      refine hKK _ _ ?_ ?_
      · first | exact Below.refl _ _ | exact (Below.refl _ _).alloc (Nat.le_refl _) _ | exact below_draw _ _ | assumption
      · exact rfl
    refine Obs.cons (k' := 13) rfl ?_ ?_
    · intro fa W hW hSame hRR KK hKK
      try dsimp only at hW
      obtain ⟨fv8, ft8, fm8⟩ := hRR 8 _ 56 rfl rfl (by kernel_rfl)
      replace fm8 : fv8 = Value.bool true := fm8
      subst fm8
      obtain ⟨fv11, ft11, fm11⟩ := hRR 11 _ 59 rfl rfl (by kernel_rfl)
      replace fm11 : fv11 = Value.bool true := fm11
      subst fm11
      replace hKK : ∀ v w', Go.RowKit.Below W.heap.size W w' → v = Value.bool true → KK (Act.put fa _ v) w' := fun v w' h1 h2 => hKK v w' h1 h2
      clear hSame hRR
      rw [if_pos (wanted_plain rfl)]
      go_simp
      refine hKK _ _ ?_ ?_
      · first | exact Below.refl _ _ | exact (Below.refl _ _).alloc (Nat.le_refl _) _ | exact below_draw _ _ | assumption
      · exact rfl
    refine Obs.cons (k' := 14) rfl ?_ ?_
    · intro fa W hW hSame hRR KK hKK
      try dsimp only at hW
      obtain ⟨fv12, ft12, fm12⟩ := hRR 12 _ 60 rfl rfl (by kernel_rfl)
      replace fm12 : fv12 = Value.bool true := fm12
      subst fm12
      replace hKK : ∀ v w', Go.RowKit.Below W.heap.size W w' → v = Value.bool true → KK (Act.put fa _ v) w' := fun v w' h1 h2 => hKK v w' h1 h2
      clear hSame hRR
      rw [if_pos (wanted_plain rfl)]
      go_simp
      refine hKK _ _ ?_ ?_
      · first | exact Below.refl _ _ | exact (Below.refl _ _).alloc (Nat.le_refl _) _ | exact below_draw _ _ | assumption
      · exact rfl
    refine Obs.cons (k' := 15) rfl ?_ ?_
    · intro fa W hW hSame hRR KK hKK
      try dsimp only at hW
      obtain ⟨fv13, ft13, fm13⟩ := hRR 13 _ 61 rfl rfl (by kernel_rfl)
      replace fm13 : fv13 = Value.bool true := fm13
      subst fm13
      have fb14 := hSame.base 14 (by kernel_rfl)
      simp only [List.getElem?_toArray, List.getElem?_cons_succ, List.getElem?_cons_zero] at fb14
      replace hKK : ∀ v w', Go.RowKit.Below W.heap.size W w' → v = Value.int IntKind.i64 n1 → KK (Act.put fa _ v) w' := fun v w' h1 h2 => hKK v w' h1 h2
      clear hSame hRR
      rw [wanted_guard rfl rfl rfl ft13]
      first | rw [if_pos (by rfl)] | rw [if_neg (by decide)]
      go_simp
      refine hKK _ _ ?_ ?_
      · first | exact Below.refl _ _ | exact (Below.refl _ _).alloc (Nat.le_refl _) _ | exact below_draw _ _ | assumption
      · exact rfl
    refine Obs.cons (k' := 16) rfl ?_ ?_
    · intro fa W hW hSame hRR KK hKK
      try dsimp only at hW
      obtain ⟨fv13, ft13, fm13⟩ := hRR 13 _ 61 rfl rfl (by kernel_rfl)
      replace fm13 : fv13 = Value.bool true := fm13
      subst fm13
      have fb16 := hSame.base 16 (by kernel_rfl)
      simp only [List.getElem?_toArray, List.getElem?_cons_succ, List.getElem?_cons_zero] at fb16
      replace hKK : ∀ v w', Go.RowKit.Below W.heap.size W w' → v = Value.int IntKind.i64 n1 → KK (Act.put fa _ v) w' := fun v w' h1 h2 => hKK v w' h1 h2
      clear hSame hRR
      rw [wanted_guard rfl rfl rfl ft13]
      first | rw [if_pos (by rfl)] | rw [if_neg (by decide)]
      go_simp
      refine hKK _ _ ?_ ?_
      · first | exact Below.refl _ _ | exact (Below.refl _ _).alloc (Nat.le_refl _) _ | exact below_draw _ _ | assumption
      · exact rfl
    refine Obs.cons (k' := 17) rfl ?_ ?_
    · intro fa W hW hSame hRR KK hKK
      try dsimp only at hW
      obtain ⟨fv14, ft14, fm14⟩ := hRR 14 _ 62 rfl rfl (by kernel_rfl)
      replace fm14 : fv14 = Value.int IntKind.i64 n1 := fm14
      subst fm14
      obtain ⟨fv15, ft15, fm15⟩ := hRR 15 _ 63 rfl rfl (by kernel_rfl)
      replace fm15 : fv15 = Value.int IntKind.i64 n1 := fm15
      subst fm15
      obtain ⟨fv13, ft13, fm13⟩ := hRR 13 _ 61 rfl rfl (by kernel_rfl)
      replace fm13 : fv13 = Value.bool true := fm13
      subst fm13
      replace hKK : ∀ v w', Go.RowKit.Below W.heap.size W w' → v = Value.bool true → KK (Act.put fa _ v) w' := fun v w' h1 h2 => hKK v w' h1 h2
      clear hSame hRR
      rw [wanted_guard rfl rfl rfl ft13]
      first | rw [if_pos (by rfl)] | rw [if_neg (by decide)]
      go_simp
      refine hKK _ _ ?_ ?_
      · first | exact Below.refl _ _ | exact (Below.refl _ _).alloc (Nat.le_refl _) _ | exact below_draw _ _ | assumption
      · exact rfl
    refine Obs.cons (k' := 18) rfl ?_ ?_
    · intro fa W hW hSame hRR KK hKK
      try dsimp only at hW
      obtain ⟨fv13, ft13, fm13⟩ := hRR 13 _ 61 rfl rfl (by kernel_rfl)
      replace fm13 : fv13 = Value.bool true := fm13
      subst fm13
      obtain ⟨fv16, ft16, fm16⟩ := hRR 16 _ 64 rfl rfl (by kernel_rfl)
      replace fm16 : fv16 = Value.bool true := fm16
      subst fm16
      replace hKK : ∀ v w', Go.RowKit.Below W.heap.size W w' → v = Value.bool true → KK (Act.put fa _ v) w' := fun v w' h1 h2 => hKK v w' h1 h2
      clear hSame hRR
      rw [if_pos (wanted_plain rfl)]
      go_simp
      refine hKK _ _ ?_ ?_
      · first | exact Below.refl _ _ | exact (Below.refl _ _).alloc (Nat.le_refl _) _ | exact below_draw _ _ | assumption
      · exact rfl
    refine Obs.cons (k' := 19) rfl ?_ ?_
    · intro fa W hW hSame hRR KK hKK
      try dsimp only at hW
      obtain ⟨fv17, ft17, fm17⟩ := hRR 17 _ 65 rfl rfl (by kernel_rfl)
      replace fm17 : fv17 = Value.bool true := fm17
      subst fm17
      replace hKK : ∀ v w', Go.RowKit.Below W.heap.size W w' → v = Value.bool true → KK (Act.put fa _ v) w' := fun v w' h1 h2 => hKK v w' h1 h2
      clear hSame hRR
      rw [if_pos (wanted_plain rfl)]
      go_simp
      refine hKK _ _ ?_ ?_
      · first | exact Below.refl _ _ | exact (Below.refl _ _).alloc (Nat.le_refl _) _ | exact below_draw _ _ | assumption
      · exact rfl
    refine Obs.cons (k' := 20) rfl ?_ ?_
    · intro fa W hW hSame hRR KK hKK
      try dsimp only at hW
      obtain ⟨fv18, ft18, fm18⟩ := hRR 18 _ 66 rfl rfl (by kernel_rfl)
      replace fm18 : fv18 = Value.bool true := fm18
      subst fm18
      have fb0 := hSame.base 0 (by kernel_rfl)
      simp only [List.getElem?_toArray, List.getElem?_cons_succ, List.getElem?_cons_zero] at fb0
      replace hKK : ∀ v w', Go.RowKit.Below W.heap.size W w' → v = Value.slice A a.length c → KK (Act.put fa _ v) w' := fun v w' h1 h2 => hKK v w' h1 h2
      clear hSame hRR
      rw [wanted_guard rfl rfl rfl ft18]
      first | rw [if_pos (by rfl)] | rw [if_neg (by decide)]
      go_simp
      refine hKK _ _ ?_ ?_
      · first | exact Below.refl _ _ | exact (Below.refl _ _).alloc (Nat.le_refl _) _ | exact below_draw _ _ | assumption
      · exact rfl
    refine Obs.cons (k' := 21) rfl ?_ ?_
    · intro fa W hW hSame hRR KK hKK
      try dsimp only at hW
      obtain ⟨fv19, ft19, fm19⟩ := hRR 19 _ 67 rfl rfl (by kernel_rfl)
      replace fm19 : fv19 = Value.slice A a.length c := fm19
      subst fm19
      obtain ⟨fv18, ft18, fm18⟩ := hRR 18 _ 66 rfl rfl (by kernel_rfl)
      replace fm18 : fv18 = Value.bool true := fm18
      subst fm18
      replace hKK : ∀ v w', Go.RowKit.Below W.heap.size W w' → v = Value.bool rr → KK (Act.put fa _ v) w' := fun v w' h1 h2 => hKK v w' h1 h2
      clear hSame hRR
      rw [wanted_guard rfl rfl rfl ft18]
      first | rw [if_pos (by rfl)] | rw [if_neg (by decide)]
      go_simp
      first
          | (go_at_call 12; refine (spans_rset _ a _ hW.2.1 LA6.out).mono ?_; rintro e w' ⟨rfl, hb⟩; rw [RR.out])
          | (go_at_call 13; refine (noontideref11_rset _ a _ hW.2.1 LA6.out).mono ?_; rintro e w' ⟨rfl, hb⟩; rw [RR.out])
          | (go_at_call 7; refine (lives11_any _).mono ?_; rintro e w' ⟨rfl, hb⟩)
          | (go_at_call 15; refine (spans_of _ a _ hW.2.1 LA.out).mono ?_; rintro e w' ⟨v, l, rfl, hv, h2, h3, h4, hb⟩; obtain rfl := U1.out l h2 h3; obtain ⟨A', c', rfl, -⟩ := id hv)
          | (go_at_call 17; refine (spans_or _ _ a b _ hW.2.1 hW.2.2.1 LA.out LB.out).mono ?_; rintro e w' ⟨v, l, rfl, hv, h2, h3, h4, hb⟩; obtain rfl := U2.out l h2 h3; obtain ⟨A', c', rfl, -⟩ := id hv)
          | (go_at_call 19; refine (spans_and _ _ a b _ hW.2.1 hW.2.2.1 LA.out LB.out).mono ?_; rintro e w' ⟨v, l, rfl, hv, h2, h3, h4, hb⟩; obtain rfl := U3.out l h2 h3; obtain ⟨A', c', rfl, -⟩ := id hv)
          | (go_at_call 21; refine (spans_less _ _ a b _ hW.2.1 hW.2.2.1 LA.out LB.out).mono ?_; rintro e w' ⟨v, l, rfl, hv, h2, h3, h4, hb⟩; obtain rfl := U4.out l h2 h3; obtain ⟨A', c', rfl, -⟩ := id hv)
          | (go_at_call 23; refine (spans_gaps _ a s0 s1 _ hW.2.1 LA.out).mono ?_; rintro e w' ⟨v, l, rfl, hv, h2, h3, h4, hb⟩; obtain rfl := U5.out l h2 h3; obtain ⟨A', c', rfl, -⟩ := id hv)
          | (go_at_call 16; refine (rof_any _ a _ hW.2.1 LC.out).mono ?_; rintro e w' ⟨v, hv, rfl, hb⟩; rw [Q1.out] at hv; obtain ⟨A', c', rfl, -⟩ := id hv)
          | (go_at_call 18; refine (ror_any _ _ a b _ hW.2.1 hW.2.2.1 LA.out LB.out).mono ?_; rintro e w' ⟨v, hv, rfl, hb⟩; rw [Q2.out] at hv; obtain ⟨A', c', rfl, -⟩ := id hv)
          | (go_at_call 20; refine (rand_any _ _ a b _ hW.2.1 hW.2.2.1 LA1.out LB1.out).mono ?_; rintro e w' ⟨v, hv, rfl, hb⟩; rw [Q3.out] at hv; obtain ⟨A', c', rfl, -⟩ := id hv)
          | (go_at_call 22; refine (rless_set _ _ a b _ hW.2.1 hW.2.2.1 LA.out LB.out).mono ?_; rintro e w' ⟨v, hv, rfl, hb⟩; rw [Q4.out] at hv; obtain ⟨A', c', rfl, -⟩ := id hv)
          | (go_at_call 24; refine (rgaps_set _ a s0 s1 _ hW.2.1 LA.out).mono ?_; rintro e w' ⟨v, hv, rfl, hb⟩; rw [Q5.out] at hv; obtain ⟨A', c', rfl, -⟩ := id hv)
          | (go_at_call 14; first
              | ((with_reducible refine (same_yes _ _ L1 _ fm27 fm29 MX.out.1).mono ?_); rintro e w' ⟨rfl, nn, rfl⟩)
              | ((with_reducible refine (same_yes _ _ L2 _ fm35 fm38 MX.out.2.1).mono ?_); rintro e w' ⟨rfl, nn, rfl⟩)
              | ((with_reducible refine (same_yes _ _ L3 _ fm44 fm47 MX.out.2.2.1).mono ?_); rintro e w' ⟨rfl, nn, rfl⟩)
              | ((with_reducible refine (same_yes _ _ L4 _ fm53 fm56 MX.out.2.2.2.1).mono ?_); rintro e w' ⟨rfl, nn, rfl⟩)
              | ((with_reducible refine (same_yes _ _ L5 _ fm62 fm65 MX.out.2.2.2.2).mono ?_); rintro e w' ⟨rfl, nn, rfl⟩))
      try dsimp only
      refine hKK _ _ ?_ ?_
      · first | exact Below.refl _ _ | exact (Below.refl _ _).alloc (Nat.le_refl _) _ | exact below_draw _ _ | assumption
      · exact rfl
    refine Obs.cons (k' := 22) rfl ?_ ?_
    · intro fa W hW hSame hRR KK hKK
      try dsimp only at hW
      obtain ⟨fv18, ft18, fm18⟩ := hRR 18 _ 66 rfl rfl (by kernel_rfl)
      replace fm18 : fv18 = Value.bool true := fm18
      subst fm18
      have fb0 := hSame.base 0 (by kernel_rfl)
      simp only [List.getElem?_toArray, List.getElem?_cons_succ, List.getElem?_cons_zero] at fb0
      replace hKK : ∀ v w', Go.RowKit.Below W.heap.size W w' → v = Value.slice A a.length c → KK (Act.put fa _ v) w' := fun v w' h1 h2 => hKK v w' h1 h2
      clear hSame hRR
      rw [wanted_guard rfl rfl rfl ft18]
      first | rw [if_pos (by rfl)] | rw [if_neg (by decide)]
      go_simp
      refine hKK _ _ ?_ ?_
      · first | exact Below.refl _ _ | exact (Below.refl _ _).alloc (Nat.le_refl _) _ | exact below_draw _ _ | assumption
      · exact rfl
    refine Obs.cons (k' := 23) rfl ?_ ?_
    · intro fa W hW hSame hRR KK hKK
      try dsimp only at hW
      obtain ⟨fv21, ft21, fm21⟩ := hRR 21 _ 69 rfl rfl (by kernel_rfl)
      replace fm21 : fv21 = Value.slice A a.length c := fm21
      subst fm21
      obtain ⟨fv18, ft18, fm18⟩ := hRR 18 _ 66 rfl rfl (by kernel_rfl)
      replace fm18 : fv18 = Value.bool true := fm18
      subst fm18
      replace hKK : ∀ v w', Go.RowKit.Below W.heap.size W w' → v = Value.bool rr → KK (Act.put fa _ v) w' := fun v w' h1 h2 => hKK v w' h1 h2
      clear hSame hRR
      rw [wanted_guard rfl rfl rfl ft18]
      first | rw [if_pos (by rfl)] | rw [if_neg (by decide)]
      go_simp
      first
          | (go_at_call 12; refine (spans_rset _ a _ hW.2.1 LA6.out).mono ?_; rintro e w' ⟨rfl, hb⟩; rw [RR.out])
          | (go_at_call 13; refine (noontideref11_rset _ a _ hW.2.1 LA6.out).mono ?_; rintro e w' ⟨rfl, hb⟩; rw [RR.out])
          | (go_at_call 7; refine (lives11_any _).mono ?_; rintro e w' ⟨rfl, hb⟩)
          | (go_at_call 15; refine (spans_of _ a _ hW.2.1 LA.out).mono ?_; rintro e w' ⟨v, l, rfl, hv, h2, h3, h4, hb⟩; obtain rfl := U1.out l h2 h3; obtain ⟨A', c', rfl, -⟩ := id hv)
          | (go_at_call 17; refine (spans_or _ _ a b _ hW.2.1 hW.2.2.1 LA.out LB.out).mono ?_; rintro e w' ⟨v, l, rfl, hv, h2, h3, h4, hb⟩; obtain rfl := U2.out l h2 h3; obtain ⟨A', c', rfl, -⟩ := id hv)
          | (go_at_call 19; refine (spans_and _ _ a b _ hW.2.1 hW.2.2.1 LA.out LB.out).mono ?_; rintro e w' ⟨v, l, rfl, hv, h2, h3, h4, hb⟩; obtain rfl := U3.out l h2 h3; obtain ⟨A', c', rfl, -⟩ := id hv)
          | (go_at_call 21; refine (spans_less _ _ a b _ hW.2.1 hW.2.2.1 LA.out LB.out).mono ?_; rintro e w' ⟨v, l, rfl, hv, h2, h3, h4, hb⟩; obtain rfl := U4.out l h2 h3; obtain ⟨A', c', rfl, -⟩ := id hv)
          | (go_at_call 23; refine (spans_gaps _ a s0 s1 _ hW.2.1 LA.out).mono ?_; rintro e w' ⟨v, l, rfl, hv, h2, h3, h4, hb⟩; obtain rfl := U5.out l h2 h3; obtain ⟨A', c', rfl, -⟩ := id hv)
          | (go_at_call 16; refine (rof_any _ a _ hW.2.1 LC.out).mono ?_; rintro e w' ⟨v, hv, rfl, hb⟩; rw [Q1.out] at hv; obtain ⟨A', c', rfl, -⟩ := id hv)
          | (go_at_call 18; refine (ror_any _ _ a b _ hW.2.1 hW.2.2.1 LA.out LB.out).mono ?_; rintro e w' ⟨v, hv, rfl, hb⟩; rw [Q2.out] at hv; obtain ⟨A', c', rfl, -⟩ := id hv)
          | (go_at_call 20; refine (rand_any _ _ a b _ hW.2.1 hW.2.2.1 LA1.out LB1.out).mono ?_; rintro e w' ⟨v, hv, rfl, hb⟩; rw [Q3.out] at hv; obtain ⟨A', c', rfl, -⟩ := id hv)
          | (go_at_call 22; refine (rless_set _ _ a b _ hW.2.1 hW.2.2.1 LA.out LB.out).mono ?_; rintro e w' ⟨v, hv, rfl, hb⟩; rw [Q4.out] at hv; obtain ⟨A', c', rfl, -⟩ := id hv)
          | (go_at_call 24; refine (rgaps_set _ a s0 s1 _ hW.2.1 LA.out).mono ?_; rintro e w' ⟨v, hv, rfl, hb⟩; rw [Q5.out] at hv; obtain ⟨A', c', rfl, -⟩ := id hv)
          | (go_at_call 14; first
              | ((with_reducible refine (same_yes _ _ L1 _ fm27 fm29 MX.out.1).mono ?_); rintro e w' ⟨rfl, nn, rfl⟩)
              | ((with_reducible refine (same_yes _ _ L2 _ fm35 fm38 MX.out.2.1).mono ?_); rintro e w' ⟨rfl, nn, rfl⟩)
              | ((with_reducible refine (same_yes _ _ L3 _ fm44 fm47 MX.out.2.2.1).mono ?_); rintro e w' ⟨rfl, nn, rfl⟩)
              | ((with_reducible refine (same_yes _ _ L4 _ fm53 fm56 MX.out.2.2.2.1).mono ?_); rintro e w' ⟨rfl, nn, rfl⟩)
              | ((with_reducible refine (same_yes _ _ L5 _ fm62 fm65 MX.out.2.2.2.2).mono ?_); rintro e w' ⟨rfl, nn, rfl⟩))
      try dsimp only
      refine hKK _ _ ?_ ?_
      · first | exact Below.refl _ _ | exact (Below.refl _ _).alloc (Nat.le_refl _) _ | exact below_draw _ _ | assumption
      · exact rfl
    refine Obs.cons (k' := 24) rfl ?_ ?_
    · intro fa W hW hSame hRR KK hKK
      try dsimp only at hW
      obtain ⟨fv20, ft20, fm20⟩ := hRR 20 _ 68 rfl rfl (by kernel_rfl)
      replace fm20 : fv20 = Value.bool rr := fm20
      subst fm20
      obtain ⟨fv22, ft22, fm22⟩ := hRR 22 _ 70 rfl rfl (by kernel_rfl)
      replace fm22 : fv22 = Value.bool rr := fm22
      subst fm22
      obtain ⟨fv18, ft18, fm18⟩ := hRR 18 _ 66 rfl rfl (by kernel_rfl)
      replace fm18 : fv18 = Value.bool true := fm18
      subst fm18
      replace hKK : ∀ v w', Go.RowKit.Below W.heap.size W w' → v = Value.bool true → KK (Act.put fa _ v) w' := fun v w' h1 h2 => hKK v w' h1 h2
      clear hSame hRR
      rw [wanted_guard rfl rfl rfl ft18]
      first | rw [if_pos (by rfl)] | rw [if_neg (by decide)]
      go_simp
      refine hKK _ _ ?_ ?_
      · first | exact Below.refl _ _ | exact (Below.refl _ _).alloc (Nat.le_refl _) _ | exact below_draw _ _ | assumption
      · exact rfl
    refine Obs.cons (k' := 25) rfl ?_ ?_
    · intro fa W hW hSame hRR KK hKK
      try dsimp only at hW
      obtain ⟨fv18, ft18, fm18⟩ := hRR 18 _ 66 rfl rfl (by kernel_rfl)
      replace fm18 : fv18 = Value.bool true := fm18
      subst fm18
      obtain ⟨fv23, ft23, fm23⟩ := hRR 23 _ 71 rfl rfl (by kernel_rfl)
      replace fm23 : fv23 = Value.bool true := fm23
      subst fm23
      replace hKK : ∀ v w', Go.RowKit.Below W.heap.size W w' → v = Value.bool true → KK (Act.put fa _ v) w' := fun v w' h1 h2 => hKK v w' h1 h2
      clear hSame hRR
      rw [if_pos (wanted_plain rfl)]
      go_simp
      refine hKK _ _ ?_ ?_
      · first | exact Below.refl _ _ | exact (Below.refl _ _).alloc (Nat.le_refl _) _ | exact below_draw _ _ | assumption
      · exact rfl
    refine Obs.cons (k' := 26) rfl ?_ ?_
    · intro fa W hW hSame hRR KK hKK
      try dsimp only at hW
      obtain ⟨fv24, ft24, fm24⟩ := hRR 24 _ 72 rfl rfl (by kernel_rfl)
      replace fm24 : fv24 = Value.bool true := fm24
      subst fm24
      replace hKK : ∀ v w', Go.RowKit.Below W.heap.size W w' → v = Value.bool true → KK (Act.put fa _ v) w' := fun v w' h1 h2 => hKK v w' h1 h2
      clear hSame hRR
      rw [if_pos (wanted_plain rfl)]
      go_simp
      refine hKK _ _ ?_ ?_
      · first | exact Below.refl _ _ | exact (Below.refl _ _).alloc (Nat.le_refl _) _ | exact below_draw _ _ | assumption
      · exact rfl
    refine Obs.cons (k' := 27) rfl ?_ ?_
    · intro fa W hW hSame hRR KK hKK
      try dsimp only at hW
      obtain ⟨fv25, ft25, fm25⟩ := hRR 25 _ 73 rfl rfl (by kernel_rfl)
      replace fm25 : fv25 = Value.bool true := fm25
      subst fm25
      have fb0 := hSame.base 0 (by kernel_rfl)
      simp only [List.getElem?_toArray, List.getElem?_cons_succ, List.getElem?_cons_zero] at fb0
      replace hKK : ∀ v w', Go.RowKit.Below W.heap.size W w' → v = Value.slice A a.length c → KK (Act.put fa _ v) w' := fun v w' h1 h2 => hKK v w' h1 h2
      clear hSame hRR
      rw [wanted_guard rfl rfl rfl ft25]
      first | rw [if_pos (by rfl)] | rw [if_neg (by decide)]
      go_simp
      refine hKK _ _ ?_ ?_
      · first | exact Below.refl _ _ | exact (Below.refl _ _).alloc (Nat.le_refl _) _ | exact below_draw _ _ | assumption
      · exact rfl
    refine Obs.cons (k' := 28) rfl ?_ ?_
    · intro fa W hW hSame hRR KK hKK
      try dsimp only at hW
      obtain ⟨fv26, ft26, fm26⟩ := hRR 26 _ 74 rfl rfl (by kernel_rfl)
      replace fm26 : fv26 = Value.slice A a.length c := fm26
      subst fm26
      obtain ⟨fv25, ft25, fm25⟩ := hRR 25 _ 73 rfl rfl (by kernel_rfl)
      replace fm25 : fv25 = Value.bool true := fm25
      subst fm25
      replace hKK : ∀ v w', Go.RowKit.Below W.heap.size W w' → (fun v W => ∃ u : Option Addr × Nat, v = .slice u.1 L1.length u.2 ∧ SpV W (.slice u.1 L1.length u.2) L1) v w' → KK (Act.put fa _ v) w' := fun v w' h1 h2 => hKK v w' h1 h2
      clear hSame hRR
      rw [wanted_guard rfl rfl rfl ft25]
      first | rw [if_pos (by rfl)] | rw [if_neg (by decide)]
      go_simp
      first
          | (go_at_call 12; refine (spans_rset _ a _ hW.2.1 LA6.out).mono ?_; rintro e w' ⟨rfl, hb⟩; rw [RR.out])
          | (go_at_call 13; refine (noontideref11_rset _ a _ hW.2.1 LA6.out).mono ?_; rintro e w' ⟨rfl, hb⟩; rw [RR.out])
          | (go_at_call 7; refine (lives11_any _).mono ?_; rintro e w' ⟨rfl, hb⟩)
          | (go_at_call 15; refine (spans_of _ a _ hW.2.1 LA.out).mono ?_; rintro e w' ⟨v, l, rfl, hv, h2, h3, h4, hb⟩; obtain rfl := U1.out l h2 h3; obtain ⟨A', c', rfl, -⟩ := id hv)
          | (go_at_call 17; refine (spans_or _ _ a b _ hW.2.1 hW.2.2.1 LA.out LB.out).mono ?_; rintro e w' ⟨v, l, rfl, hv, h2, h3, h4, hb⟩; obtain rfl := U2.out l h2 h3; obtain ⟨A', c', rfl, -⟩ := id hv)
          | (go_at_call 19; refine (spans_and _ _ a b _ hW.2.1 hW.2.2.1 LA.out LB.out).mono ?_; rintro e w' ⟨v, l, rfl, hv, h2, h3, h4, hb⟩; obtain rfl := U3.out l h2 h3; obtain ⟨A', c', rfl, -⟩ := id hv)
          | (go_at_call 21; refine (spans_less _ _ a b _ hW.2.1 hW.2.2.1 LA.out LB.out).mono ?_; rintro e w' ⟨v, l, rfl, hv, h2, h3, h4, hb⟩; obtain rfl := U4.out l h2 h3; obtain ⟨A', c', rfl, -⟩ := id hv)
          | (go_at_call 23; refine (spans_gaps _ a s0 s1 _ hW.2.1 LA.out).mono ?_; rintro e w' ⟨v, l, rfl, hv, h2, h3, h4, hb⟩; obtain rfl := U5.out l h2 h3; obtain ⟨A', c', rfl, -⟩ := id hv)
          | (go_at_call 16; refine (rof_any _ a _ hW.2.1 LC.out).mono ?_; rintro e w' ⟨v, hv, rfl, hb⟩; rw [Q1.out] at hv; obtain ⟨A', c', rfl, -⟩ := id hv)
          | (go_at_call 18; refine (ror_any _ _ a b _ hW.2.1 hW.2.2.1 LA.out LB.out).mono ?_; rintro e w' ⟨v, hv, rfl, hb⟩; rw [Q2.out] at hv; obtain ⟨A', c', rfl, -⟩ := id hv)
          | (go_at_call 20; refine (rand_any _ _ a b _ hW.2.1 hW.2.2.1 LA1.out LB1.out).mono ?_; rintro e w' ⟨v, hv, rfl, hb⟩; rw [Q3.out] at hv; obtain ⟨A', c', rfl, -⟩ := id hv)
          | (go_at_call 22; refine (rless_set _ _ a b _ hW.2.1 hW.2.2.1 LA.out LB.out).mono ?_; rintro e w' ⟨v, hv, rfl, hb⟩; rw [Q4.out] at hv; obtain ⟨A', c', rfl, -⟩ := id hv)
          | (go_at_call 24; refine (rgaps_set _ a s0 s1 _ hW.2.1 LA.out).mono ?_; rintro e w' ⟨v, hv, rfl, hb⟩; rw [Q5.out] at hv; obtain ⟨A', c', rfl, -⟩ := id hv)
          | (go_at_call 14; first
              | ((with_reducible refine (same_yes _ _ L1 _ fm27 fm29 MX.out.1).mono ?_); rintro e w' ⟨rfl, nn, rfl⟩)
              | ((with_reducible refine (same_yes _ _ L2 _ fm35 fm38 MX.out.2.1).mono ?_); rintro e w' ⟨rfl, nn, rfl⟩)
              | ((with_reducible refine (same_yes _ _ L3 _ fm44 fm47 MX.out.2.2.1).mono ?_); rintro e w' ⟨rfl, nn, rfl⟩)
              | ((with_reducible refine (same_yes _ _ L4 _ fm53 fm56 MX.out.2.2.2.1).mono ?_); rintro e w' ⟨rfl, nn, rfl⟩)
              | ((with_reducible refine (same_yes _ _ L5 _ fm62 fm65 MX.out.2.2.2.2).mono ?_); rintro e w' ⟨rfl, nn, rfl⟩))
      try dsimp only
      refine hKK _ _ ?_ ?_
      · first | exact Below.refl _ _ | exact (Below.refl _ _).alloc (Nat.le_refl _) _ | exact below_draw _ _ | assumption
      · try dsimp only
        first | exact trivial | exact rfl | (first | exact ⟨(_, _), rfl, hv⟩)
    refine Obs.cons (k' := 29) rfl ?_ ?_
    · intro fa W hW hSame hRR KK hKK
      try dsimp only at hW
      obtain ⟨fv25, ft25, fm25⟩ := hRR 25 _ 73 rfl rfl (by kernel_rfl)
      replace fm25 : fv25 = Value.bool true := fm25
      subst fm25
      have fb0 := hSame.base 0 (by kernel_rfl)
      simp only [List.getElem?_toArray, List.getElem?_cons_succ, List.getElem?_cons_zero] at fb0
      replace hKK : ∀ v w', Go.RowKit.Below W.heap.size W w' → v = Value.slice A a.length c → KK (Act.put fa _ v) w' := fun v w' h1 h2 => hKK v w' h1 h2
      clear hSame hRR
      rw [wanted_guard rfl rfl rfl ft25]
      first | rw [if_pos (by rfl)] | rw [if_neg (by decide)]
      go_simp
      refine hKK _ _ ?_ ?_
      · first | exact Below.refl _ _ | exact (Below.refl _ _).alloc (Nat.le_refl _) _ | exact below_draw _ _ | assumption
      · exact rfl
    refine Obs.cons (k' := 30) rfl ?_ ?_
    · intro fa W hW hSame hRR KK hKK
      try dsimp only at hW
      obtain ⟨fv28, ft28, fm28⟩ := hRR 28 _ 76 rfl rfl (by kernel_rfl)
      replace fm28 : fv28 = Value.slice A a.length c := fm28
      subst fm28
      obtain ⟨fv25, ft25, fm25⟩ := hRR 25 _ 73 rfl rfl (by kernel_rfl)
      replace fm25 : fv25 = Value.bool true := fm25
      subst fm25
      replace hKK : ∀ v w', Go.RowKit.Below W.heap.size W w' → (fun v W => ∃ u : Option Addr × Nat, v = .slice u.1 L1.length u.2 ∧ SpV W (.slice u.1 L1.length u.2) L1) v w' → KK (Act.put fa _ v) w' := fun v w' h1 h2 => hKK v w' h1 h2
      clear hSame hRR
      rw [wanted_guard rfl rfl rfl ft25]
      first | rw [if_pos (by rfl)] | rw [if_neg (by decide)]
      go_simp
      first
          | (go_at_call 12; refine (spans_rset _ a _ hW.2.1 LA6.out).mono ?_; rintro e w' ⟨rfl, hb⟩; rw [RR.out])
          | (go_at_call 13; refine (noontideref11_rset _ a _ hW.2.1 LA6.out).mono ?_; rintro e w' ⟨rfl, hb⟩; rw [RR.out])
          | (go_at_call 7; refine (lives11_any _).mono ?_; rintro e w' ⟨rfl, hb⟩)
          | (go_at_call 15; refine (spans_of _ a _ hW.2.1 LA.out).mono ?_; rintro e w' ⟨v, l, rfl, hv, h2, h3, h4, hb⟩; obtain rfl := U1.out l h2 h3; obtain ⟨A', c', rfl, -⟩ := id hv)
          | (go_at_call 17; refine (spans_or _ _ a b _ hW.2.1 hW.2.2.1 LA.out LB.out).mono ?_; rintro e w' ⟨v, l, rfl, hv, h2, h3, h4, hb⟩; obtain rfl := U2.out l h2 h3; obtain ⟨A', c', rfl, -⟩ := id hv)
          | (go_at_call 19; refine (spans_and _ _ a b _ hW.2.1 hW.2.2.1 LA.out LB.out).mono ?_; rintro e w' ⟨v, l, rfl, hv, h2, h3, h4, hb⟩; obtain rfl := U3.out l h2 h3; obtain ⟨A', c', rfl, -⟩ := id hv)
          | (go_at_call 21; refine (spans_less _ _ a b _ hW.2.1 hW.2.2.1 LA.out LB.out).mono ?_; rintro e w' ⟨v, l, rfl, hv, h2, h3, h4, hb⟩; obtain rfl := U4.out l h2 h3; obtain ⟨A', c', rfl, -⟩ := id hv)
          | (go_at_call 23; refine (spans_gaps _ a s0 s1 _ hW.2.1 LA.out).mono ?_; rintro e w' ⟨v, l, rfl, hv, h2, h3, h4, hb⟩; obtain rfl := U5.out l h2 h3; obtain ⟨A', c', rfl, -⟩ := id hv)
          | (go_at_call 16; refine (rof_any _ a _ hW.2.1 LC.out).mono ?_; rintro e w' ⟨v, hv, rfl, hb⟩; rw [Q1.out] at hv; obtain ⟨A', c', rfl, -⟩ := id hv)
          | (go_at_call 18; refine (ror_any _ _ a b _ hW.2.1 hW.2.2.1 LA.out LB.out).mono ?_; rintro e w' ⟨v, hv, rfl, hb⟩; rw [Q2.out] at hv; obtain ⟨A', c', rfl, -⟩ := id hv)
          | (go_at_call 20; refine (rand_any _ _ a b _ hW.2.1 hW.2.2.1 LA1.out LB1.out).mono ?_; rintro e w' ⟨v, hv, rfl, hb⟩; rw [Q3.out] at hv; obtain ⟨A', c', rfl, -⟩ := id hv)
          | (go_at_call 22; refine (rless_set _ _ a b _ hW.2.1 hW.2.2.1 LA.out LB.out).mono ?_; rintro e w' ⟨v, hv, rfl, hb⟩; rw [Q4.out] at hv; obtain ⟨A', c', rfl, -⟩ := id hv)
          | (go_at_call 24; refine (rgaps_set _ a s0 s1 _ hW.2.1 LA.out).mono ?_; rintro e w' ⟨v, hv, rfl, hb⟩; rw [Q5.out] at hv; obtain ⟨A', c', rfl, -⟩ := id hv)
          | (go_at_call 14; first
              | ((with_reducible refine (same_yes _ _ L1 _ fm27 fm29 MX.out.1).mono ?_); rintro e w' ⟨rfl, nn, rfl⟩)
              | ((with_reducible refine (same_yes _ _ L2 _ fm35 fm38 MX.out.2.1).mono ?_); rintro e w' ⟨rfl, nn, rfl⟩)
              | ((with_reducible refine (same_yes _ _ L3 _ fm44 fm47 MX.out.2.2.1).mono ?_); rintro e w' ⟨rfl, nn, rfl⟩)
              | ((with_reducible refine (same_yes _ _ L4 _ fm53 fm56 MX.out.2.2.2.1).mono ?_); rintro e w' ⟨rfl, nn, rfl⟩)
              | ((with_reducible refine (same_yes _ _ L5 _ fm62 fm65 MX.out.2.2.2.2).mono ?_); rintro e w' ⟨rfl, nn, rfl⟩))
      try dsimp only
      refine hKK _ _ ?_ ?_
      · first | exact Below.refl _ _ | exact (Below.refl _ _).alloc (Nat.le_refl _) _ | exact below_draw _ _ | assumption
      · try dsimp only
        first | exact trivial | exact rfl | (first | exact ⟨(_, _), rfl, hv⟩)
    refine Obs.cons (k' := 31) rfl ?_ ?_
    · intro fa W hW hSame hRR KK hKK
      try dsimp only at hW
      obtain ⟨fv27, ft27, fm27⟩ := hRR 27 _ 75 rfl rfl (by kernel_rfl)
      replace fm27 : (fun v W => ∃ u : Option Addr × Nat, v = .slice u.1 L1.length u.2 ∧ SpV W (.slice u.1 L1.length u.2) L1) fv27 W := fm27
      try dsimp only at fm27
      first | subst fm27 | obtain ⟨_, rfl, fm27⟩ := fm27
      obtain ⟨fv29, ft29, fm29⟩ := hRR 29 _ 77 rfl rfl (by kernel_rfl)
      replace fm29 : (fun v W => ∃ u : Option Addr × Nat, v = .slice u.1 L1.length u.2 ∧ SpV W (.slice u.1 L1.length u.2) L1) fv29 W := fm29
      try dsimp only at fm29
      first | subst fm29 | obtain ⟨_, rfl, fm29⟩ := fm29
      obtain ⟨fv25, ft25, fm25⟩ := hRR 25 _ 73 rfl rfl (by kernel_rfl)
      replace fm25 : fv25 = Value.bool true := fm25
      subst fm25
      replace hKK : ∀ v w', Go.RowKit.Below W.heap.size W w' → v = Value.bool true → KK (Act.put fa _ v) w' := fun v w' h1 h2 => hKK v w' h1 h2
      clear hSame hRR
      rw [wanted_guard rfl rfl rfl ft25]
      first | rw [if_pos (by rfl)] | rw [if_neg (by decide)]
      go_simp
      first
          | (go_at_call 12; refine (spans_rset _ a _ hW.2.1 LA6.out).mono ?_; rintro e w' ⟨rfl, hb⟩; rw [RR.out])
          | (go_at_call 13; refine (noontideref11_rset _ a _ hW.2.1 LA6.out).mono ?_; rintro e w' ⟨rfl, hb⟩; rw [RR.out])
          | (go_at_call 7; refine (lives11_any _).mono ?_; rintro e w' ⟨rfl, hb⟩)
          | (go_at_call 15; refine (spans_of _ a _ hW.2.1 LA.out).mono ?_; rintro e w' ⟨v, l, rfl, hv, h2, h3, h4, hb⟩; obtain rfl := U1.out l h2 h3; obtain ⟨A', c', rfl, -⟩ := id hv)
          | (go_at_call 17; refine (spans_or _ _ a b _ hW.2.1 hW.2.2.1 LA.out LB.out).mono ?_; rintro e w' ⟨v, l, rfl, hv, h2, h3, h4, hb⟩; obtain rfl := U2.out l h2 h3; obtain ⟨A', c', rfl, -⟩ := id hv)
          | (go_at_call 19; refine (spans_and _ _ a b _ hW.2.1 hW.2.2.1 LA.out LB.out).mono ?_; rintro e w' ⟨v, l, rfl, hv, h2, h3, h4, hb⟩; obtain rfl := U3.out l h2 h3; obtain ⟨A', c', rfl, -⟩ := id hv)
          | (go_at_call 21; refine (spans_less _ _ a b _ hW.2.1 hW.2.2.1 LA.out LB.out).mono ?_; rintro e w' ⟨v, l, rfl, hv, h2, h3, h4, hb⟩; obtain rfl := U4.out l h2 h3; obtain ⟨A', c', rfl, -⟩ := id hv)
          | (go_at_call 23; refine (spans_gaps _ a s0 s1 _ hW.2.1 LA.out).mono ?_; rintro e w' ⟨v, l, rfl, hv, h2, h3, h4, hb⟩; obtain rfl := U5.out l h2 h3; obtain ⟨A', c', rfl, -⟩ := id hv)
          | (go_at_call 16; refine (rof_any _ a _ hW.2.1 LC.out).mono ?_; rintro e w' ⟨v, hv, rfl, hb⟩; rw [Q1.out] at hv; obtain ⟨A', c', rfl, -⟩ := id hv)
          | (go_at_call 18; refine (ror_any _ _ a b _ hW.2.1 hW.2.2.1 LA.out LB.out).mono ?_; rintro e w' ⟨v, hv, rfl, hb⟩; rw [Q2.out] at hv; obtain ⟨A', c', rfl, -⟩ := id hv)
          | (go_at_call 20; refine (rand_any _ _ a b _ hW.2.1 hW.2.2.1 LA1.out LB1.out).mono ?_; rintro e w' ⟨v, hv, rfl, hb⟩; rw [Q3.out] at hv; obtain ⟨A', c', rfl, -⟩ := id hv)
          | (go_at_call 22; refine (rless_set _ _ a b _ hW.2.1 hW.2.2.1 LA.out LB.out).mono ?_; rintro e w' ⟨v, hv, rfl, hb⟩; rw [Q4.out] at hv; obtain ⟨A', c', rfl, -⟩ := id hv)
          | (go_at_call 24; refine (rgaps_set _ a s0 s1 _ hW.2.1 LA.out).mono ?_; rintro e w' ⟨v, hv, rfl, hb⟩; rw [Q5.out] at hv; obtain ⟨A', c', rfl, -⟩ := id hv)
          | (go_at_call 14; first
              | ((with_reducible refine (same_yes _ _ L1 _ fm27 fm29 MX.out.1).mono ?_); rintro e w' ⟨rfl, nn, rfl⟩)
              | ((with_reducible refine (same_yes _ _ L2 _ fm35 fm38 MX.out.2.1).mono ?_); rintro e w' ⟨rfl, nn, rfl⟩)
              | ((with_reducible refine (same_yes _ _ L3 _ fm44 fm47 MX.out.2.2.1).mono ?_); rintro e w' ⟨rfl, nn, rfl⟩)
              | ((with_reducible refine (same_yes _ _ L4 _ fm53 fm56 MX.out.2.2.2.1).mono ?_); rintro e w' ⟨rfl, nn, rfl⟩)
              | ((with_reducible refine (same_yes _ _ L5 _ fm62 fm65 MX.out.2.2.2.2).mono ?_); rintro e w' ⟨rfl, nn, rfl⟩))
      try dsimp only
      refine hKK _ _ ?_ ?_
      · first | exact Below.refl _ _ | exact (Below.refl _ _).alloc (Nat.le_refl _) _ | exact below_draw _ _ | assumption
      · exact rfl
    refine Obs.cons (k' := 32) rfl ?_ ?_
    · intro fa W hW hSame hRR KK hKK
      try dsimp only at hW
      obtain ⟨fv25, ft25, fm25⟩ := hRR 25 _ 73 rfl rfl (by kernel_rfl)
      replace fm25 : fv25 = Value.bool true := fm25
      subst fm25
      obtain ⟨fv30, ft30, fm30⟩ := hRR 30 _ 78 rfl rfl (by kernel_rfl)
      replace fm30 : fv30 = Value.bool true := fm30
      subst fm30
      replace hKK : ∀ v w', Go.RowKit.Below W.heap.size W w' → v = Value.bool true → KK (Act.put fa _ v) w' := fun v w' h1 h2 => hKK v w' h1 h2
      clear hSame hRR
      rw [if_pos (wanted_plain rfl)]
      go_simp
      refine hKK _ _ ?_ ?_
      · first | exact Below.refl _ _ | exact (Below.refl _ _).alloc (Nat.le_refl _) _ | exact below_draw _ _ | assumption
      · exact rfl
    refine Obs.cons (k' := 33) rfl ?_ ?_
    · intro fa W hW hSame hRR KK hKK
      try dsimp only at hW
      obtain ⟨fv31, ft31, fm31⟩ := hRR 31 _ 79 rfl rfl (by kernel_rfl)
      replace fm31 : fv31 = Value.bool true := fm31
      subst fm31
      replace hKK : ∀ v w', Go.RowKit.Below W.heap.size W w' → v = Value.bool true → KK (Act.put fa _ v) w' := fun v w' h1 h2 => hKK v w' h1 h2
      clear hSame hRR
      rw [if_pos (wanted_plain rfl)]
      go_simp
      refine hKK _ _ ?_ ?_
      · first | exact Below.refl _ _ | exact (Below.refl _ _).alloc (Nat.le_refl _) _ | exact below_draw _ _ | assumption
      · exact rfl
    refine Obs.cons (k' := 34) rfl ?_ ?_
    · intro fa W hW hSame hRR KK hKK
      try dsimp only at hW
      obtain ⟨fv32, ft32, fm32⟩ := hRR 32 _ 80 rfl rfl (by kernel_rfl)
      replace fm32 : fv32 = Value.bool true := fm32
      subst fm32
      have fb0 := hSame.base 0 (by kernel_rfl)
      simp only [List.getElem?_toArray, List.getElem?_cons_succ, List.getElem?_cons_zero] at fb0
      replace hKK : ∀ v w', Go.RowKit.Below W.heap.size W w' → v = Value.slice A a.length c → KK (Act.put fa _ v) w' := fun v w' h1 h2 => hKK v w' h1 h2
      clear hSame hRR
      rw [wanted_guard rfl rfl rfl ft32]
      first | rw [if_pos (by rfl)] | rw [if_neg (by decide)]
      go_simp
      refine hKK _ _ ?_ ?_
      · first | exact Below.refl _ _ | exact (Below.refl _ _).alloc (Nat.le_refl _) _ | exact below_draw _ _ | assumption
      · exact rfl
    refine Obs.cons (k' := 35) rfl ?_ ?_
    · intro fa W hW hSame hRR KK hKK
      try dsimp only at hW
      obtain ⟨fv32, ft32, fm32⟩ := hRR 32 _ 80 rfl rfl (by kernel_rfl)
      replace fm32 : fv32 = Value.bool true := fm32
      subst fm32
      have fb1 := hSame.base 1 (by kernel_rfl)
      simp only [List.getElem?_toArray, List.getElem?_cons_succ, List.getElem?_cons_zero] at fb1
      replace hKK : ∀ v w', Go.RowKit.Below W.heap.size W w' → v = Value.slice B b.length d → KK (Act.put fa _ v) w' := fun v w' h1 h2 => hKK v w' h1 h2
      clear hSame hRR
      rw [wanted_guard rfl rfl rfl ft32]
      first | rw [if_pos (by rfl)] | rw [if_neg (by decide)]
      go_simp
      refine hKK _ _ ?_ ?_
      · first | exact Below.refl _ _ | exact (Below.refl _ _).alloc (Nat.le_refl _) _ | exact below_draw _ _ | assumption
      · exact rfl
    refine Obs.cons (k' := 36) rfl ?_ ?_
    · intro fa W hW hSame hRR KK hKK
      try dsimp only at hW
      obtain ⟨fv33, ft33, fm33⟩ := hRR 33 _ 81 rfl rfl (by kernel_rfl)
      replace fm33 : fv33 = Value.slice A a.length c := fm33
      subst fm33
      obtain ⟨fv34, ft34, fm34⟩ := hRR 34 _ 82 rfl rfl (by kernel_rfl)
      replace fm34 : fv34 = Value.slice B b.length d := fm34
      subst fm34
      obtain ⟨fv32, ft32, fm32⟩ := hRR 32 _ 80 rfl rfl (by kernel_rfl)
      replace fm32 : fv32 = Value.bool true := fm32
      subst fm32
      replace hKK : ∀ v w', Go.RowKit.Below W.heap.size W w' → (fun v W => ∃ u : Option Addr × Nat, v = .slice u.1 L2.length u.2 ∧ SpV W (.slice u.1 L2.length u.2) L2) v w' → KK (Act.put fa _ v) w' := fun v w' h1 h2 => hKK v w' h1 h2
      clear hSame hRR
      rw [wanted_guard rfl rfl rfl ft32]
      first | rw [if_pos (by rfl)] | rw [if_neg (by decide)]
      go_simp
      first
          | (go_at_call 12; refine (spans_rset _ a _ hW.2.1 LA6.out).mono ?_; rintro e w' ⟨rfl, hb⟩; rw [RR.out])
          | (go_at_call 13; refine (noontideref11_rset _ a _ hW.2.1 LA6.out).mono ?_; rintro e w' ⟨rfl, hb⟩; rw [RR.out])
          | (go_at_call 7; refine (lives11_any _).mono ?_; rintro e w' ⟨rfl, hb⟩)
          | (go_at_call 15; refine (spans_of _ a _ hW.2.1 LA.out).mono ?_; rintro e w' ⟨v, l, rfl, hv, h2, h3, h4, hb⟩; obtain rfl := U1.out l h2 h3; obtain ⟨A', c', rfl, -⟩ := id hv)
          | (go_at_call 17; refine (spans_or _ _ a b _ hW.2.1 hW.2.2.1 LA.out LB.out).mono ?_; rintro e w' ⟨v, l, rfl, hv, h2, h3, h4, hb⟩; obtain rfl := U2.out l h2 h3; obtain ⟨A', c', rfl, -⟩ := id hv)
          | (go_at_call 19; refine (spans_and _ _ a b _ hW.2.1 hW.2.2.1 LA.out LB.out).mono ?_; rintro e w' ⟨v, l, rfl, hv, h2, h3, h4, hb⟩; obtain rfl := U3.out l h2 h3; obtain ⟨A', c', rfl, -⟩ := id hv)
          | (go_at_call 21; refine (spans_less _ _ a b _ hW.2.1 hW.2.2.1 LA.out LB.out).mono ?_; rintro e w' ⟨v, l, rfl, hv, h2, h3, h4, hb⟩; obtain rfl := U4.out l h2 h3; obtain ⟨A', c', rfl, -⟩ := id hv)
          | (go_at_call 23; refine (spans_gaps _ a s0 s1 _ hW.2.1 LA.out).mono ?_; rintro e w' ⟨v, l, rfl, hv, h2, h3, h4, hb⟩; obtain rfl := U5.out l h2 h3; obtain ⟨A', c', rfl, -⟩ := id hv)
          | (go_at_call 16; refine (rof_any _ a _ hW.2.1 LC.out).mono ?_; rintro e w' ⟨v, hv, rfl, hb⟩; rw [Q1.out] at hv; obtain ⟨A', c', rfl, -⟩ := id hv)
          | (go_at_call 18; refine (ror_any _ _ a b _ hW.2.1 hW.2.2.1 LA.out LB.out).mono ?_; rintro e w' ⟨v, hv, rfl, hb⟩; rw [Q2.out] at hv; obtain ⟨A', c', rfl, -⟩ := id hv)
          | (go_at_call 20; refine (rand_any _ _ a b _ hW.2.1 hW.2.2.1 LA1.out LB1.out).mono ?_; rintro e w' ⟨v, hv, rfl, hb⟩; rw [Q3.out] at hv; obtain ⟨A', c', rfl, -⟩ := id hv)
          | (go_at_call 22; refine (rless_set _ _ a b _ hW.2.1 hW.2.2.1 LA.out LB.out).mono ?_; rintro e w' ⟨v, hv, rfl, hb⟩; rw [Q4.out] at hv; obtain ⟨A', c', rfl, -⟩ := id hv)
          | (go_at_call 24; refine (rgaps_set _ a s0 s1 _ hW.2.1 LA.out).mono ?_; rintro e w' ⟨v, hv, rfl, hb⟩; rw [Q5.out] at hv; obtain ⟨A', c', rfl, -⟩ := id hv)
          | (go_at_call 14; first
              | ((with_reducible refine (same_yes _ _ L1 _ fm27 fm29 MX.out.1).mono ?_); rintro e w' ⟨rfl, nn, rfl⟩)
              | ((with_reducible refine (same_yes _ _ L2 _ fm35 fm38 MX.out.2.1).mono ?_); rintro e w' ⟨rfl, nn, rfl⟩)
              | ((with_reducible refine (same_yes _ _ L3 _ fm44 fm47 MX.out.2.2.1).mono ?_); rintro e w' ⟨rfl, nn, rfl⟩)
              | ((with_reducible refine (same_yes _ _ L4 _ fm53 fm56 MX.out.2.2.2.1).mono ?_); rintro e w' ⟨rfl, nn, rfl⟩)
              | ((with_reducible refine (same_yes _ _ L5 _ fm62 fm65 MX.out.2.2.2.2).mono ?_); rintro e w' ⟨rfl, nn, rfl⟩))
      try dsimp only
      refine hKK _ _ ?_ ?_
      · first | exact Below.refl _ _ | exact (Below.refl _ _).alloc (Nat.le_refl _) _ | exact below_draw _ _ | assumption
      · try dsimp only
        first | exact trivial | exact rfl | (first | exact ⟨(_, _), rfl, hv⟩)
    refine Obs.cons (k' := 37) rfl ?_ ?_
    · intro fa W hW hSame hRR KK hKK
      try dsimp only at hW
      obtain ⟨fv32, ft32, fm32⟩ := hRR 32 _ 80 rfl rfl (by kernel_rfl)
      replace fm32 : fv32 = Value.bool true := fm32
      subst fm32
      have fb0 := hSame.base 0 (by kernel_rfl)
      simp only [List.getElem?_toArray, List.getElem?_cons_succ, List.getElem?_cons_zero] at fb0
      replace hKK : ∀ v w', Go.RowKit.Below W.heap.size W w' → v = Value.slice A a.length c → KK (Act.put fa _ v) w' := fun v w' h1 h2 => hKK v w' h1 h2
      clear hSame hRR
      rw [wanted_guard rfl rfl rfl ft32]
      first | rw [if_pos (by rfl)] | rw [if_neg (by decide)]
      go_simp
      refine hKK _ _ ?_ ?_
      · first | exact Below.refl _ _ | exact (Below.refl _ _).alloc (Nat.le_refl _) _ | exact below_draw _ _ | assumption
      · exact rfl
    refine Obs.cons (k' := 38) rfl ?_ ?_
    · intro fa W hW hSame hRR KK hKK
      try dsimp only at hW
      obtain ⟨fv32, ft32, fm32⟩ := hRR 32 _ 80 rfl rfl (by kernel_rfl)
      replace fm32 : fv32 = Value.bool true := fm32
      subst fm32
      have fb1 := hSame.base 1 (by kernel_rfl)
      simp only [List.getElem?_toArray, List.getElem?_cons_succ, List.getElem?_cons_zero] at fb1
      replace hKK : ∀ v w', Go.RowKit.Below W.heap.size W w' → v = Value.slice B b.length d → KK (Act.put fa _ v) w' := fun v w' h1 h2 => hKK v w' h1 h2
      clear hSame hRR
      rw [wanted_guard rfl rfl rfl ft32]
      first | rw [if_pos (by rfl)] | rw [if_neg (by decide)]
      go_simp
      refine hKK _ _ ?_ ?_
      · first | exact Below.refl _ _ | exact (Below.refl _ _).alloc (Nat.le_refl _) _ | exact below_draw _ _ | assumption
      · exact rfl
    refine Obs.cons (k' := 39) rfl ?_ ?_
    · intro fa W hW hSame hRR KK hKK
      try dsimp only at hW
      obtain ⟨fv36, ft36, fm36⟩ := hRR 36 _ 84 rfl rfl (by kernel_rfl)
      replace fm36 : fv36 = Value.slice A a.length c := fm36
      subst fm36
      obtain ⟨fv37, ft37, fm37⟩ := hRR 37 _ 85 rfl rfl (by kernel_rfl)
      replace fm37 : fv37 = Value.slice B b.length d := fm37
      subst fm37
      obtain ⟨fv32, ft32, fm32⟩ := hRR 32 _ 80 rfl rfl (by kernel_rfl)
      replace fm32 : fv32 = Value.bool true := fm32
      subst fm32
      replace hKK : ∀ v w', Go.RowKit.Below W.heap.size W w' → (fun v W => ∃ u : Option Addr × Nat, v = .slice u.1 L2.length u.2 ∧ SpV W (.slice u.1 L2.length u.2) L2) v w' → KK (Act.put fa _ v) w' := fun v w' h1 h2 => hKK v w' h1 h2
      clear hSame hRR
      rw [wanted_guard rfl rfl rfl ft32]
      first | rw [if_pos (by rfl)] | rw [if_neg (by decide)]
      go_simp
      first
          | (go_at_call 12; refine (spans_rset _ a _ hW.2.1 LA6.out).mono ?_; rintro e w' ⟨rfl, hb⟩; rw [RR.out])
          | (go_at_call 13; refine (noontideref11_rset _ a _ hW.2.1 LA6.out).mono ?_; rintro e w' ⟨rfl, hb⟩; rw [RR.out])
          | (go_at_call 7; refine (lives11_any _).mono ?_; rintro e w' ⟨rfl, hb⟩)
          | (go_at_call 15; refine (spans_of _ a _ hW.2.1 LA.out).mono ?_; rintro e w' ⟨v, l, rfl, hv, h2, h3, h4, hb⟩; obtain rfl := U1.out l h2 h3; obtain ⟨A', c', rfl, -⟩ := id hv)
          | (go_at_call 17; refine (spans_or _ _ a b _ hW.2.1 hW.2.2.1 LA.out LB.out).mono ?_; rintro e w' ⟨v, l, rfl, hv, h2, h3, h4, hb⟩; obtain rfl := U2.out l h2 h3; obtain ⟨A', c', rfl, -⟩ := id hv)
          | (go_at_call 19; refine (spans_and _ _ a b _ hW.2.1 hW.2.2.1 LA.out LB.out).mono ?_; rintro e w' ⟨v, l, rfl, hv, h2, h3, h4, hb⟩; obtain rfl := U3.out l h2 h3; obtain ⟨A', c', rfl, -⟩ := id hv)
          | (go_at_call 21; refine (spans_less _ _ a b _ hW.2.1 hW.2.2.1 LA.out LB.out).mono ?_; rintro e w' ⟨v, l, rfl, hv, h2, h3, h4, hb⟩; obtain rfl := U4.out l h2 h3; obtain ⟨A', c', rfl, -⟩ := id hv)
          | (go_at_call 23; refine (spans_gaps _ a s0 s1 _ hW.2.1 LA.out).mono ?_; rintro e w' ⟨v, l, rfl, hv, h2, h3, h4, hb⟩; obtain rfl := U5.out l h2 h3; obtain ⟨A', c', rfl, -⟩ := id hv)
          | (go_at_call 16; refine (rof_any _ a _ hW.2.1 LC.out).mono ?_; rintro e w' ⟨v, hv, rfl, hb⟩; rw [Q1.out] at hv; obtain ⟨A', c', rfl, -⟩ := id hv)
          | (go_at_call 18; refine (ror_any _ _ a b _ hW.2.1 hW.2.2.1 LA.out LB.out).mono ?_; rintro e w' ⟨v, hv, rfl, hb⟩; rw [Q2.out] at hv; obtain ⟨A', c', rfl, -⟩ := id hv)
          | (go_at_call 20; refine (rand_any _ _ a b _ hW.2.1 hW.2.2.1 LA1.out LB1.out).mono ?_; rintro e w' ⟨v, hv, rfl, hb⟩; rw [Q3.out] at hv; obtain ⟨A', c', rfl, -⟩ := id hv)
          | (go_at_call 22; refine (rless_set _ _ a b _ hW.2.1 hW.2.2.1 LA.out LB.out).mono ?_; rintro e w' ⟨v, hv, rfl, hb⟩; rw [Q4.out] at hv; obtain ⟨A', c', rfl, -⟩ := id hv)
          | (go_at_call 24; refine (rgaps_set _ a s0 s1 _ hW.2.1 LA.out).mono ?_; rintro e w' ⟨v, hv, rfl, hb⟩; rw [Q5.out] at hv; obtain ⟨A', c', rfl, -⟩ := id hv)
          | (go_at_call 14; first
              | ((with_reducible refine (same_yes _ _ L1 _ fm27 fm29 MX.out.1).mono ?_); rintro e w' ⟨rfl, nn, rfl⟩)
              | ((with_reducible refine (same_yes _ _ L2 _ fm35 fm38 MX.out.2.1).mono ?_); rintro e w' ⟨rfl, nn, rfl⟩)
              | ((with_reducible refine (same_yes _ _ L3 _ fm44 fm47 MX.out.2.2.1).mono ?_); rintro e w' ⟨rfl, nn, rfl⟩)
              | ((with_reducible refine (same_yes _ _ L4 _ fm53 fm56 MX.out.2.2.2.1).mono ?_); rintro e w' ⟨rfl, nn, rfl⟩)
              | ((with_reducible refine (same_yes _ _ L5 _ fm62 fm65 MX.out.2.2.2.2).mono ?_); rintro e w' ⟨rfl, nn, rfl⟩))
      try dsimp only
      refine hKK _ _ ?_ ?_
      · first | exact Below.refl _ _ | exact (Below.refl _ _).alloc (Nat.le_refl _) _ | exact below_draw _ _ | assumption
      · try dsimp only
        first | exact trivial | exact rfl | (first | exact ⟨(_, _), rfl, hv⟩)
    refine Obs.cons (k' := 40) rfl ?_ ?_
    · intro fa W hW hSame hRR KK hKK
      try dsimp only at hW
      obtain ⟨fv35, ft35, fm35⟩ := hRR 35 _ 83 rfl rfl (by kernel_rfl)
      replace fm35 : (fun v W => ∃ u : Option Addr × Nat, v = .slice u.1 L2.length u.2 ∧ SpV W (.slice u.1 L2.length u.2) L2) fv35 W := fm35
      try dsimp only at fm35
      first | subst fm35 | obtain ⟨_, rfl, fm35⟩ := fm35
      obtain ⟨fv38, ft38, fm38⟩ := hRR 38 _ 86 rfl rfl (by kernel_rfl)
      replace fm38 : (fun v W => ∃ u : Option Addr × Nat, v = .slice u.1 L2.length u.2 ∧ SpV W (.slice u.1 L2.length u.2) L2) fv38 W := fm38
      try dsimp only at fm38
      first | subst fm38 | obtain ⟨_, rfl, fm38⟩ := fm38
      obtain ⟨fv32, ft32, fm32⟩ := hRR 32 _ 80 rfl rfl (by kernel_rfl)
      replace fm32 : fv32 = Value.bool true := fm32
      subst fm32
      replace hKK : ∀ v w', Go.RowKit.Below W.heap.size W w' → v = Value.bool true → KK (Act.put fa _ v) w' := fun v w' h1 h2 => hKK v w' h1 h2
      clear hSame hRR
      rw [wanted_guard rfl rfl rfl ft32]
      first | rw [if_pos (by rfl)] | rw [if_neg (by decide)]
      go_simp
      first
          | (go_at_call 12; refine (spans_rset _ a _ hW.2.1 LA6.out).mono ?_; rintro e w' ⟨rfl, hb⟩; rw [RR.out])
          | (go_at_call 13; refine (noontideref11_rset _ a _ hW.2.1 LA6.out).mono ?_; rintro e w' ⟨rfl, hb⟩; rw [RR.out])
          | (go_at_call 7; refine (lives11_any _).mono ?_; rintro e w' ⟨rfl, hb⟩)
          | (go_at_call 15; refine (spans_of _ a _ hW.2.1 LA.out).mono ?_; rintro e w' ⟨v, l, rfl, hv, h2, h3, h4, hb⟩; obtain rfl := U1.out l h2 h3; obtain ⟨A', c', rfl, -⟩ := id hv)
          | (go_at_call 17; refine (spans_or _ _ a b _ hW.2.1 hW.2.2.1 LA.out LB.out).mono ?_; rintro e w' ⟨v, l, rfl, hv, h2, h3, h4, hb⟩; obtain rfl := U2.out l h2 h3; obtain ⟨A', c', rfl, -⟩ := id hv)
          | (go_at_call 19; refine (spans_and _ _ a b _ hW.2.1 hW.2.2.1 LA.out LB.out).mono ?_; rintro e w' ⟨v, l, rfl, hv, h2, h3, h4, hb⟩; obtain rfl := U3.out l h2 h3; obtain ⟨A', c', rfl, -⟩ := id hv)
          | (go_at_call 21; refine (spans_less _ _ a b _ hW.2.1 hW.2.2.1 LA.out LB.out).mono ?_; rintro e w' ⟨v, l, rfl, hv, h2, h3, h4, hb⟩; obtain rfl := U4.out l h2 h3; obtain ⟨A', c', rfl, -⟩ := id hv)
          | (go_at_call 23; refine (spans_gaps _ a s0 s1 _ hW.2.1 LA.out).mono ?_; rintro e w' ⟨v, l, rfl, hv, h2, h3, h4, hb⟩; obtain rfl := U5.out l h2 h3; obtain ⟨A', c', rfl, -⟩ := id hv)
          | (go_at_call 16; refine (rof_any _ a _ hW.2.1 LC.out).mono ?_; rintro e w' ⟨v, hv, rfl, hb⟩; rw [Q1.out] at hv; obtain ⟨A', c', rfl, -⟩ := id hv)
          | (go_at_call 18; refine (ror_any _ _ a b _ hW.2.1 hW.2.2.1 LA.out LB.out).mono ?_; rintro e w' ⟨v, hv, rfl, hb⟩; rw [Q2.out] at hv; obtain ⟨A', c', rfl, -⟩ := id hv)
          | (go_at_call 20; refine (rand_any _ _ a b _ hW.2.1 hW.2.2.1 LA1.out LB1.out).mono ?_; rintro e w' ⟨v, hv, rfl, hb⟩; rw [Q3.out] at hv; obtain ⟨A', c', rfl, -⟩ := id hv)
          | (go_at_call 22; refine (rless_set _ _ a b _ hW.2.1 hW.2.2.1 LA.out LB.out).mono ?_; rintro e w' ⟨v, hv, rfl, hb⟩; rw [Q4.out] at hv; obtain ⟨A', c', rfl, -⟩ := id hv)
          | (go_at_call 24; refine (rgaps_set _ a s0 s1 _ hW.2.1 LA.out).mono ?_; rintro e w' ⟨v, hv, rfl, hb⟩; rw [Q5.out] at hv; obtain ⟨A', c', rfl, -⟩ := id hv)
          | (go_at_call 14; first
              | ((with_reducible refine (same_yes _ _ L1 _ fm27 fm29 MX.out.1).mono ?_); rintro e w' ⟨rfl, nn, rfl⟩)
              | ((with_reducible refine (same_yes _ _ L2 _ fm35 fm38 MX.out.2.1).mono ?_); rintro e w' ⟨rfl, nn, rfl⟩)
              | ((with_reducible refine (same_yes _ _ L3 _ fm44 fm47 MX.out.2.2.1).mono ?_); rintro e w' ⟨rfl, nn, rfl⟩)
              | ((with_reducible refine (same_yes _ _ L4 _ fm53 fm56 MX.out.2.2.2.1).mono ?_); rintro e w' ⟨rfl, nn, rfl⟩)
              | ((with_reducible refine (same_yes _ _ L5 _ fm62 fm65 MX.out.2.2.2.2).mono ?_); rintro e w' ⟨rfl, nn, rfl⟩))
      try dsimp only
      refine hKK _ _ ?_ ?_
      · first | exact Below.refl _ _ | exact (Below.refl _ _).alloc (Nat.le_refl _) _ | exact below_draw _ _ | assumption
      · exact rfl
    refine Obs.cons (k' := 41) rfl ?_ ?_
    · intro fa W hW hSame hRR KK hKK
      try dsimp only at hW
      obtain ⟨fv32, ft32, fm32⟩ := hRR 32 _ 80 rfl rfl (by kernel_rfl)
      replace fm32 : fv32 = Value.bool true := fm32
      subst fm32
      obtain ⟨fv39, ft39, fm39⟩ := hRR 39 _ 87 rfl rfl (by kernel_rfl)
      replace fm39 : fv39 = Value.bool true := fm39
      subst fm39
      replace hKK : ∀ v w', Go.RowKit.Below W.heap.size W w' → v = Value.bool true → KK (Act.put fa _ v) w' := fun v w' h1 h2 => hKK v w' h1 h2
      clear hSame hRR
      rw [if_pos (wanted_plain rfl)]
      go_simp
      refine hKK _ _ ?_ ?_
      · first | exact Below.refl _ _ | exact (Below.refl _ _).alloc (Nat.le_refl _) _ | exact below_draw _ _ | assumption
      · exact rfl
    refine Obs.cons (k' := 42) rfl ?_ ?_
    · intro fa W hW hSame hRR KK hKK
      try dsimp only at hW
      obtain ⟨fv40, ft40, fm40⟩ := hRR 40 _ 88 rfl rfl (by kernel_rfl)
      replace fm40 : fv40 = Value.bool true := fm40
      subst fm40
      replace hKK : ∀ v w', Go.RowKit.Below W.heap.size W w' → v = Value.bool true → KK (Act.put fa _ v) w' := fun v w' h1 h2 => hKK v w' h1 h2
      clear hSame hRR
      rw [if_pos (wanted_plain rfl)]
      go_simp
      refine hKK _ _ ?_ ?_
      · first | exact Below.refl _ _ | exact (Below.refl _ _).alloc (Nat.le_refl _) _ | exact below_draw _ _ | assumption
      · exact rfl
    refine Obs.cons (k' := 43) rfl ?_ ?_
    · intro fa W hW hSame hRR KK hKK
      try dsimp only at hW
      obtain ⟨fv41, ft41, fm41⟩ := hRR 41 _ 89 rfl rfl (by kernel_rfl)
      replace fm41 : fv41 = Value.bool true := fm41
      subst fm41
      have fb0 := hSame.base 0 (by kernel_rfl)
      simp only [List.getElem?_toArray, List.getElem?_cons_succ, List.getElem?_cons_zero] at fb0
      replace hKK : ∀ v w', Go.RowKit.Below W.heap.size W w' → v = Value.slice A a.length c → KK (Act.put fa _ v) w' := fun v w' h1 h2 => hKK v w' h1 h2
      clear hSame hRR
      rw [wanted_guard rfl rfl rfl ft41]
      first | rw [if_pos (by rfl)] | rw [if_neg (by decide)]
      go_simp
      refine hKK _ _ ?_ ?_
      · first | exact Below.refl _ _ | exact (Below.refl _ _).alloc (Nat.le_refl _) _ | exact below_draw _ _ | assumption
      · exact rfl
    refine Obs.cons (k' := 44) rfl ?_ ?_
    · intro fa W hW hSame hRR KK hKK
      try dsimp only at hW
      obtain ⟨fv41, ft41, fm41⟩ := hRR 41 _ 89 rfl rfl (by kernel_rfl)
      replace fm41 : fv41 = Value.bool true := fm41
      subst fm41
      have fb1 := hSame.base 1 (by kernel_rfl)
      simp only [List.getElem?_toArray, List.getElem?_cons_succ, List.getElem?_cons_zero] at fb1
      replace hKK : ∀ v w', Go.RowKit.Below W.heap.size W w' → v = Value.slice B b.length d → KK (Act.put fa _ v) w' := fun v w' h1 h2 => hKK v w' h1 h2
      clear hSame hRR
      rw [wanted_guard rfl rfl rfl ft41]
      first | rw [if_pos (by rfl)] | rw [if_neg (by decide)]
      go_simp
      refine hKK _ _ ?_ ?_
      · first | exact Below.refl _ _ | exact (Below.refl _ _).alloc (Nat.le_refl _) _ | exact below_draw _ _ | assumption
      · exact rfl
    refine Obs.cons (k' := 45) rfl ?_ ?_
    · intro fa W hW hSame hRR KK hKK
      try dsimp only at hW
      obtain ⟨fv42, ft42, fm42⟩ := hRR 42 _ 90 rfl rfl (by kernel_rfl)
      replace fm42 : fv42 = Value.slice A a.length c := fm42
      subst fm42
      obtain ⟨fv43, ft43, fm43⟩ := hRR 43 _ 91 rfl rfl (by kernel_rfl)
      replace fm43 : fv43 = Value.slice B b.length d := fm43
      subst fm43
      obtain ⟨fv41, ft41, fm41⟩ := hRR 41 _ 89 rfl rfl (by kernel_rfl)
      replace fm41 : fv41 = Value.bool true := fm41
      subst fm41
      replace hKK : ∀ v w', Go.RowKit.Below W.heap.size W w' → (fun v W => ∃ u : Option Addr × Nat, v = .slice u.1 L3.length u.2 ∧ SpV W (.slice u.1 L3.length u.2) L3) v w' → KK (Act.put fa _ v) w' := fun v w' h1 h2 => hKK v w' h1 h2
      clear hSame hRR
      rw [wanted_guard rfl rfl rfl ft41]
      first | rw [if_pos (by rfl)] | rw [if_neg (by decide)]
      go_simp
      first
          | (go_at_call 12; refine (spans_rset _ a _ hW.2.1 LA6.out).mono ?_; rintro e w' ⟨rfl, hb⟩; rw [RR.out])
          | (go_at_call 13; refine (noontideref11_rset _ a _ hW.2.1 LA6.out).mono ?_; rintro e w' ⟨rfl, hb⟩; rw [RR.out])
          | (go_at_call 7; refine (lives11_any _).mono ?_; rintro e w' ⟨rfl, hb⟩)
          | (go_at_call 15; refine (spans_of _ a _ hW.2.1 LA.out).mono ?_; rintro e w' ⟨v, l, rfl, hv, h2, h3, h4, hb⟩; obtain rfl := U1.out l h2 h3; obtain ⟨A', c', rfl, -⟩ := id hv)
          | (go_at_call 17; refine (spans_or _ _ a b _ hW.2.1 hW.2.2.1 LA.out LB.out).mono ?_; rintro e w' ⟨v, l, rfl, hv, h2, h3, h4, hb⟩; obtain rfl := U2.out l h2 h3; obtain ⟨A', c', rfl, -⟩ := id hv)
          | (go_at_call 19; refine (spans_and _ _ a b _ hW.2.1 hW.2.2.1 LA.out LB.out).mono ?_; rintro e w' ⟨v, l, rfl, hv, h2, h3, h4, hb⟩; obtain rfl := U3.out l h2 h3; obtain ⟨A', c', rfl, -⟩ := id hv)
          | (go_at_call 21; refine (spans_less _ _ a b _ hW.2.1 hW.2.2.1 LA.out LB.out).mono ?_; rintro e w' ⟨v, l, rfl, hv, h2, h3, h4, hb⟩; obtain rfl := U4.out l h2 h3; obtain ⟨A', c', rfl, -⟩ := id hv)
          | (go_at_call 23; refine (spans_gaps _ a s0 s1 _ hW.2.1 LA.out).mono ?_; rintro e w' ⟨v, l, rfl, hv, h2, h3, h4, hb⟩; obtain rfl := U5.out l h2 h3; obtain ⟨A', c', rfl, -⟩ := id hv)
          | (go_at_call 16; refine (rof_any _ a _ hW.2.1 LC.out).mono ?_; rintro e w' ⟨v, hv, rfl, hb⟩; rw [Q1.out] at hv; obtain ⟨A', c', rfl, -⟩ := id hv)
          | (go_at_call 18; refine (ror_any _ _ a b _ hW.2.1 hW.2.2.1 LA.out LB.out).mono ?_; rintro e w' ⟨v, hv, rfl, hb⟩; rw [Q2.out] at hv; obtain ⟨A', c', rfl, -⟩ := id hv)
          | (go_at_call 20; refine (rand_any _ _ a b _ hW.2.1 hW.2.2.1 LA1.out LB1.out).mono ?_; rintro e w' ⟨v, hv, rfl, hb⟩; rw [Q3.out] at hv; obtain ⟨A', c', rfl, -⟩ := id hv)
          | (go_at_call 22; refine (rless_set _ _ a b _ hW.2.1 hW.2.2.1 LA.out LB.out).mono ?_; rintro e w' ⟨v, hv, rfl, hb⟩; rw [Q4.out] at hv; obtain ⟨A', c', rfl, -⟩ := id hv)
          | (go_at_call 24; refine (rgaps_set _ a s0 s1 _ hW.2.1 LA.out).mono ?_; rintro e w' ⟨v, hv, rfl, hb⟩; rw [Q5.out] at hv; obtain ⟨A', c', rfl, -⟩ := id hv)
          | (go_at_call 14; first
              | ((with_reducible refine (same_yes _ _ L1 _ fm27 fm29 MX.out.1).mono ?_); rintro e w' ⟨rfl, nn, rfl⟩)
              | ((with_reducible refine (same_yes _ _ L2 _ fm35 fm38 MX.out.2.1).mono ?_); rintro e w' ⟨rfl, nn, rfl⟩)
              | ((with_reducible refine (same_yes _ _ L3 _ fm44 fm47 MX.out.2.2.1).mono ?_); rintro e w' ⟨rfl, nn, rfl⟩)
              | ((with_reducible refine (same_yes _ _ L4 _ fm53 fm56 MX.out.2.2.2.1).mono ?_); rintro e w' ⟨rfl, nn, rfl⟩)
              | ((with_reducible refine (same_yes _ _ L5 _ fm62 fm65 MX.out.2.2.2.2).mono ?_); rintro e w' ⟨rfl, nn, rfl⟩))
      try dsimp only
      refine hKK _ _ ?_ ?_
      · first | exact Below.refl _ _ | exact (Below.refl _ _).alloc (Nat.le_refl _) _ | exact below_draw _ _ | assumption
      · try dsimp only
        first | exact trivial | exact rfl | (first | exact ⟨(_, _), rfl, hv⟩)
    refine Obs.cons (k' := 46) rfl ?_ ?_
    · intro fa W hW hSame hRR KK hKK
      try dsimp only at hW
      obtain ⟨fv41, ft41, fm41⟩ := hRR 41 _ 89 rfl rfl (by kernel_rfl)
      replace fm41 : fv41 = Value.bool true := fm41
      subst fm41
      have fb0 := hSame.base 0 (by kernel_rfl)
      simp only [List.getElem?_toArray, List.getElem?_cons_succ, List.getElem?_cons_zero] at fb0
      replace hKK : ∀ v w', Go.RowKit.Below W.heap.size W w' → v = Value.slice A a.length c → KK (Act.put fa _ v) w' := fun v w' h1 h2 => hKK v w' h1 h2
      clear hSame hRR
      rw [wanted_guard rfl rfl rfl ft41]
      first | rw [if_pos (by rfl)] | rw [if_neg (by decide)]
      go_simp
      refine hKK _ _ ?_ ?_
      · first | exact Below.refl _ _ | exact (Below.refl _ _).alloc (Nat.le_refl _) _ | exact below_draw _ _ | assumption
      · exact rfl
    refine Obs.cons (k' := 47) rfl ?_ ?_
    · intro fa W hW hSame hRR KK hKK
      try dsimp only at hW
      obtain ⟨fv41, ft41, fm41⟩ := hRR 41 _ 89 rfl rfl (by kernel_rfl)
      replace fm41 : fv41 = Value.bool true := fm41
      subst fm41
      have fb1 := hSame.base 1 (by kernel_rfl)
      simp only [List.getElem?_toArray, List.getElem?_cons_succ, List.getElem?_cons_zero] at fb1
      replace hKK : ∀ v w', Go.RowKit.Below W.heap.size W w' → v = Value.slice B b.length d → KK (Act.put fa _ v) w' := fun v w' h1 h2 => hKK v w' h1 h2
      clear hSame hRR
      rw [wanted_guard rfl rfl rfl ft41]
      first | rw [if_pos (by rfl)] | rw [if_neg (by decide)]
      go_simp
      refine hKK _ _ ?_ ?_
      · first | exact Below.refl _ _ | exact (Below.refl _ _).alloc (Nat.le_refl _) _ | exact below_draw _ _ | assumption
      · exact rfl
    refine Obs.cons (k' := 48) rfl ?_ ?_
    · intro fa W hW hSame hRR KK hKK
      try dsimp only at hW
      obtain ⟨fv45, ft45, fm45⟩ := hRR 45 _ 93 rfl rfl (by kernel_rfl)
      replace fm45 : fv45 = Value.slice A a.length c := fm45
      subst fm45
      obtain ⟨fv46, ft46, fm46⟩ := hRR 46 _ 94 rfl rfl (by kernel_rfl)
      replace fm46 : fv46 = Value.slice B b.length d := fm46
      subst fm46
      obtain ⟨fv41, ft41, fm41⟩ := hRR 41 _ 89 rfl rfl (by kernel_rfl)
      replace fm41 : fv41 = Value.bool true := fm41
      subst fm41
      replace hKK : ∀ v w', Go.RowKit.Below W.heap.size W w' → (fun v W => ∃ u : Option Addr × Nat, v = .slice u.1 L3.length u.2 ∧ SpV W (.slice u.1 L3.length u.2) L3) v w' → KK (Act.put fa _ v) w' := fun v w' h1 h2 => hKK v w' h1 h2
      clear hSame hRR
      rw [wanted_guard rfl rfl rfl ft41]
      first | rw [if_pos (by rfl)] | rw [if_neg (by decide)]
      go_simp
      first
          | (go_at_call 12; refine (spans_rset _ a _ hW.2.1 LA6.out).mono ?_; rintro e w' ⟨rfl, hb⟩; rw [RR.out])
          | (go_at_call 13; refine (noontideref11_rset _ a _ hW.2.1 LA6.out).mono ?_; rintro e w' ⟨rfl, hb⟩; rw [RR.out])
          | (go_at_call 7; refine (lives11_any _).mono ?_; rintro e w' ⟨rfl, hb⟩)
          | (go_at_call 15; refine (spans_of _ a _ hW.2.1 LA.out).mono ?_; rintro e w' ⟨v, l, rfl, hv, h2, h3, h4, hb⟩; obtain rfl := U1.out l h2 h3; obtain ⟨A', c', rfl, -⟩ := id hv)
          | (go_at_call 17; refine (spans_or _ _ a b _ hW.2.1 hW.2.2.1 LA.out LB.out).mono ?_; rintro e w' ⟨v, l, rfl, hv, h2, h3, h4, hb⟩; obtain rfl := U2.out l h2 h3; obtain ⟨A', c', rfl, -⟩ := id hv)
          | (go_at_call 19; refine (spans_and _ _ a b _ hW.2.1 hW.2.2.1 LA.out LB.out).mono ?_; rintro e w' ⟨v, l, rfl, hv, h2, h3, h4, hb⟩; obtain rfl := U3.out l h2 h3; obtain ⟨A', c', rfl, -⟩ := id hv)
          | (go_at_call 21; refine (spans_less _ _ a b _ hW.2.1 hW.2.2.1 LA.out LB.out).mono ?_; rintro e w' ⟨v, l, rfl, hv, h2, h3, h4, hb⟩; obtain rfl := U4.out l h2 h3; obtain ⟨A', c', rfl, -⟩ := id hv)
          | (go_at_call 23; refine (spans_gaps _ a s0 s1 _ hW.2.1 LA.out).mono ?_; rintro e w' ⟨v, l, rfl, hv, h2, h3, h4, hb⟩; obtain rfl := U5.out l h2 h3; obtain ⟨A', c', rfl, -⟩ := id hv)
          | (go_at_call 16; refine (rof_any _ a _ hW.2.1 LC.out).mono ?_; rintro e w' ⟨v, hv, rfl, hb⟩; rw [Q1.out] at hv; obtain ⟨A', c', rfl, -⟩ := id hv)
          | (go_at_call 18; refine (ror_any _ _ a b _ hW.2.1 hW.2.2.1 LA.out LB.out).mono ?_; rintro e w' ⟨v, hv, rfl, hb⟩; rw [Q2.out] at hv; obtain ⟨A', c', rfl, -⟩ := id hv)
          | (go_at_call 20; refine (rand_any _ _ a b _ hW.2.1 hW.2.2.1 LA1.out LB1.out).mono ?_; rintro e w' ⟨v, hv, rfl, hb⟩; rw [Q3.out] at hv; obtain ⟨A', c', rfl, -⟩ := id hv)
          | (go_at_call 22; refine (rless_set _ _ a b _ hW.2.1 hW.2.2.1 LA.out LB.out).mono ?_; rintro e w' ⟨v, hv, rfl, hb⟩; rw [Q4.out] at hv; obtain ⟨A', c', rfl, -⟩ := id hv)
          | (go_at_call 24; refine (rgaps_set _ a s0 s1 _ hW.2.1 LA.out).mono ?_; rintro e w' ⟨v, hv, rfl, hb⟩; rw [Q5.out] at hv; obtain ⟨A', c', rfl, -⟩ := id hv)
          | (go_at_call 14; first
              | ((with_reducible refine (same_yes _ _ L1 _ fm27 fm29 MX.out.1).mono ?_); rintro e w' ⟨rfl, nn, rfl⟩)
              | ((with_reducible refine (same_yes _ _ L2 _ fm35 fm38 MX.out.2.1).mono ?_); rintro e w' ⟨rfl, nn, rfl⟩)
              | ((with_reducible refine (same_yes _ _ L3 _ fm44 fm47 MX.out.2.2.1).mono ?_); rintro e w' ⟨rfl, nn, rfl⟩)
              | ((with_reducible refine (same_yes _ _ L4 _ fm53 fm56 MX.out.2.2.2.1).mono ?_); rintro e w' ⟨rfl, nn, rfl⟩)
              | ((with_reducible refine (same_yes _ _ L5 _ fm62 fm65 MX.out.2.2.2.2).mono ?_); rintro e w' ⟨rfl, nn, rfl⟩))
      try dsimp only
      refine hKK _ _ ?_ ?_
      · first | exact Below.refl _ _ | exact (Below.refl _ _).alloc (Nat.le_refl _) _ | exact below_draw _ _ | assumption
      · try dsimp only
        first | exact trivial | exact rfl | (first | exact ⟨(_, _), rfl, hv⟩)
    refine Obs.cons (k' := 49) rfl ?_ ?_
    · intro fa W hW hSame hRR KK hKK
      try dsimp only at hW
      obtain ⟨fv44, ft44, fm44⟩ := hRR 44 _ 92 rfl rfl (by kernel_rfl)
      replace fm44 : (fun v W => ∃ u : Option Addr × Nat, v = .slice u.1 L3.length u.2 ∧ SpV W (.slice u.1 L3.length u.2) L3) fv44 W := fm44
      try dsimp only at fm44
      first | subst fm44 | obtain ⟨_, rfl, fm44⟩ := fm44
      obtain ⟨fv47, ft47, fm47⟩ := hRR 47 _ 95 rfl rfl (by kernel_rfl)
      replace fm47 : (fun v W => ∃ u : Option Addr × Nat, v = .slice u.1 L3.length u.2 ∧ SpV W (.slice u.1 L3.length u.2) L3) fv47 W := fm47
      try dsimp only at fm47
      first | subst fm47 | obtain ⟨_, rfl, fm47⟩ := fm47
      obtain ⟨fv41, ft41, fm41⟩ := hRR 41 _ 89 rfl rfl (by kernel_rfl)
      replace fm41 : fv41 = Value.bool true := fm41
      subst fm41
      replace hKK : ∀ v w', Go.RowKit.Below W.heap.size W w' → v = Value.bool true → KK (Act.put fa _ v) w' := fun v w' h1 h2 => hKK v w' h1 h2
      clear hSame hRR
      rw [wanted_guard rfl rfl rfl ft41]
      first | rw [if_pos (by rfl)] | rw [if_neg (by decide)]
      go_simp
      first
          | (go_at_call 12; refine (spans_rset _ a _ hW.2.1 LA6.out).mono ?_; rintro e w' ⟨rfl, hb⟩; rw [RR.out])
          | (go_at_call 13; refine (noontideref11_rset _ a _ hW.2.1 LA6.out).mono ?_; rintro e w' ⟨rfl, hb⟩; rw [RR.out])
          | (go_at_call 7; refine (lives11_any _).mono ?_; rintro e w' ⟨rfl, hb⟩)
          | (go_at_call 15; refine (spans_of _ a _ hW.2.1 LA.out).mono ?_; rintro e w' ⟨v, l, rfl, hv, h2, h3, h4, hb⟩; obtain rfl := U1.out l h2 h3; obtain ⟨A', c', rfl, -⟩ := id hv)
          | (go_at_call 17; refine (spans_or _ _ a b _ hW.2.1 hW.2.2.1 LA.out LB.out).mono ?_; rintro e w' ⟨v, l, rfl, hv, h2, h3, h4, hb⟩; obtain rfl := U2.out l h2 h3; obtain ⟨A', c', rfl, -⟩ := id hv)
          | (go_at_call 19; refine (spans_and _ _ a b _ hW.2.1 hW.2.2.1 LA.out LB.out).mono ?_; rintro e w' ⟨v, l, rfl, hv, h2, h3, h4, hb⟩; obtain rfl := U3.out l h2 h3; obtain ⟨A', c', rfl, -⟩ := id hv)
          | (go_at_call 21; refine (spans_less _ _ a b _ hW.2.1 hW.2.2.1 LA.out LB.out).mono ?_; rintro e w' ⟨v, l, rfl, hv, h2, h3, h4, hb⟩; obtain rfl := U4.out l h2 h3; obtain ⟨A', c', rfl, -⟩ := id hv)
          | (go_at_call 23; refine (spans_gaps _ a s0 s1 _ hW.2.1 LA.out).mono ?_; rintro e w' ⟨v, l, rfl, hv, h2, h3, h4, hb⟩; obtain rfl := U5.out l h2 h3; obtain ⟨A', c', rfl, -⟩ := id hv)
          | (go_at_call 16; refine (rof_any _ a _ hW.2.1 LC.out).mono ?_; rintro e w' ⟨v, hv, rfl, hb⟩; rw [Q1.out] at hv; obtain ⟨A', c', rfl, -⟩ := id hv)
          | (go_at_call 18; refine (ror_any _ _ a b _ hW.2.1 hW.2.2.1 LA.out LB.out).mono ?_; rintro e w' ⟨v, hv, rfl, hb⟩; rw [Q2.out] at hv; obtain ⟨A', c', rfl, -⟩ := id hv)
          | (go_at_call 20; refine (rand_any _ _ a b _ hW.2.1 hW.2.2.1 LA1.out LB1.out).mono ?_; rintro e w' ⟨v, hv, rfl, hb⟩; rw [Q3.out] at hv; obtain ⟨A', c', rfl, -⟩ := id hv)
          | (go_at_call 22; refine (rless_set _ _ a b _ hW.2.1 hW.2.2.1 LA.out LB.out).mono ?_; rintro e w' ⟨v, hv, rfl, hb⟩; rw [Q4.out] at hv; obtain ⟨A', c', rfl, -⟩ := id hv)
          | (go_at_call 24; refine (rgaps_set _ a s0 s1 _ hW.2.1 LA.out).mono ?_; rintro e w' ⟨v, hv, rfl, hb⟩; rw [Q5.out] at hv; obtain ⟨A', c', rfl, -⟩ := id hv)
          | (go_at_call 14; first
              | ((with_reducible refine (same_yes _ _ L1 _ fm27 fm29 MX.out.1).mono ?_); rintro e w' ⟨rfl, nn, rfl⟩)
              | ((with_reducible refine (same_yes _ _ L2 _ fm35 fm38 MX.out.2.1).mono ?_); rintro e w' ⟨rfl, nn, rfl⟩)
              | ((with_reducible refine (same_yes _ _ L3 _ fm44 fm47 MX.out.2.2.1).mono ?_); rintro e w' ⟨rfl, nn, rfl⟩)
              | ((with_reducible refine (same_yes _ _ L4 _ fm53 fm56 MX.out.2.2.2.1).mono ?_); rintro e w' ⟨rfl, nn, rfl⟩)
              | ((with_reducible refine (same_yes _ _ L5 _ fm62 fm65 MX.out.2.2.2.2).mono ?_); rintro e w' ⟨rfl, nn, rfl⟩))
      try dsimp only
      refine hKK _ _ ?_ ?_
      · first | exact Below.refl _ _ | exact (Below.refl _ _).alloc (Nat.le_refl _) _ | exact below_draw _ _ | assumption
      · exact rfl
    refine Obs.cons (k' := 50) rfl ?_ ?_
    · intro fa W hW hSame hRR KK hKK
      try dsimp only at hW
      obtain ⟨fv41, ft41, fm41⟩ := hRR 41 _ 89 rfl rfl (by kernel_rfl)
      replace fm41 : fv41 = Value.bool true := fm41
      subst fm41
      obtain ⟨fv48, ft48, fm48⟩ := hRR 48 _ 96 rfl rfl (by kernel_rfl)
      replace fm48 : fv48 = Value.bool true := fm48
      subst fm48
      replace hKK : ∀ v w', Go.RowKit.Below W.heap.size W w' → v = Value.bool true → KK (Act.put fa _ v) w' := fun v w' h1 h2 => hKK v w' h1 h2
      clear hSame hRR
      rw [if_pos (wanted_plain rfl)]
      go_simp
      refine hKK _ _ ?_ ?_
      · first | exact Below.refl _ _ | exact (Below.refl _ _).alloc (Nat.le_refl _) _ | exact below_draw _ _ | assumption
      · exact rfl
    refine Obs.cons (k' := 51) rfl ?_ ?_
    · intro fa W hW hSame hRR KK hKK
      try dsimp only at hW
      obtain ⟨fv49, ft49, fm49⟩ := hRR 49 _ 97 rfl rfl (by kernel_rfl)
      replace fm49 : fv49 = Value.bool true := fm49
      subst fm49
      replace hKK : ∀ v w', Go.RowKit.Below W.heap.size W w' → v = Value.bool true → KK (Act.put fa _ v) w' := fun v w' h1 h2 => hKK v w' h1 h2
      clear hSame hRR
      rw [if_pos (wanted_plain rfl)]
      go_simp
      refine hKK _ _ ?_ ?_
      · first | exact Below.refl _ _ | exact (Below.refl _ _).alloc (Nat.le_refl _) _ | exact below_draw _ _ | assumption
      · exact rfl
    refine Obs.cons (k' := 52) rfl ?_ ?_
    · intro fa W hW hSame hRR KK hKK
      try dsimp only at hW
      obtain ⟨fv50, ft50, fm50⟩ := hRR 50 _ 98 rfl rfl (by kernel_rfl)
      replace fm50 : fv50 = Value.bool true := fm50
      subst fm50
      have fb0 := hSame.base 0 (by kernel_rfl)
      simp only [List.getElem?_toArray, List.getElem?_cons_succ, List.getElem?_cons_zero] at fb0
      replace hKK : ∀ v w', Go.RowKit.Below W.heap.size W w' → v = Value.slice A a.length c → KK (Act.put fa _ v) w' := fun v w' h1 h2 => hKK v w' h1 h2
      clear hSame hRR
      rw [wanted_guard rfl rfl rfl ft50]
      first | rw [if_pos (by rfl)] | rw [if_neg (by decide)]
      go_simp
      refine hKK _ _ ?_ ?_
      · first | exact Below.refl _ _ | exact (Below.refl _ _).alloc (Nat.le_refl _) _ | exact below_draw _ _ | assumption
      · exact rfl
    refine Obs.cons (k' := 53) rfl ?_ ?_
    · intro fa W hW hSame hRR KK hKK
      try dsimp only at hW
      obtain ⟨fv50, ft50, fm50⟩ := hRR 50 _ 98 rfl rfl (by kernel_rfl)
      replace fm50 : fv50 = Value.bool true := fm50
      subst fm50
      have fb1 := hSame.base 1 (by kernel_rfl)
      simp only [List.getElem?_toArray, List.getElem?_cons_succ, List.getElem?_cons_zero] at fb1
      replace hKK : ∀ v w', Go.RowKit.Below W.heap.size W w' → v = Value.slice B b.length d → KK (Act.put fa _ v) w' := fun v w' h1 h2 => hKK v w' h1 h2
      clear hSame hRR
      rw [wanted_guard rfl rfl rfl ft50]
      first | rw [if_pos (by rfl)] | rw [if_neg (by decide)]
      go_simp
      refine hKK _ _ ?_ ?_
      · first | exact Below.refl _ _ | exact (Below.refl _ _).alloc (Nat.le_refl _) _ | exact below_draw _ _ | assumption
      · exact rfl
    refine Obs.cons (k' := 54) rfl ?_ ?_
    · intro fa W hW hSame hRR KK hKK
      try dsimp only at hW
      obtain ⟨fv51, ft51, fm51⟩ := hRR 51 _ 99 rfl rfl (by kernel_rfl)
      replace fm51 : fv51 = Value.slice A a.length c := fm51
      subst fm51
      obtain ⟨fv52, ft52, fm52⟩ := hRR 52 _ 100 rfl rfl (by kernel_rfl)
      replace fm52 : fv52 = Value.slice B b.length d := fm52
      subst fm52
      obtain ⟨fv50, ft50, fm50⟩ := hRR 50 _ 98 rfl rfl (by kernel_rfl)
      replace fm50 : fv50 = Value.bool true := fm50
      subst fm50
      replace hKK : ∀ v w', Go.RowKit.Below W.heap.size W w' → (fun v W => ∃ u : Option Addr × Nat, v = .slice u.1 L4.length u.2 ∧ SpV W (.slice u.1 L4.length u.2) L4) v w' → KK (Act.put fa _ v) w' := fun v w' h1 h2 => hKK v w' h1 h2
      clear hSame hRR
      rw [wanted_guard rfl rfl rfl ft50]
      first | rw [if_pos (by rfl)] | rw [if_neg (by decide)]
      go_simp
      first
          | (go_at_call 12; refine (spans_rset _ a _ hW.2.1 LA6.out).mono ?_; rintro e w' ⟨rfl, hb⟩; rw [RR.out])
          | (go_at_call 13; refine (noontideref11_rset _ a _ hW.2.1 LA6.out).mono ?_; rintro e w' ⟨rfl, hb⟩; rw [RR.out])
          | (go_at_call 7; refine (lives11_any _).mono ?_; rintro e w' ⟨rfl, hb⟩)
          | (go_at_call 15; refine (spans_of _ a _ hW.2.1 LA.out).mono ?_; rintro e w' ⟨v, l, rfl, hv, h2, h3, h4, hb⟩; obtain rfl := U1.out l h2 h3; obtain ⟨A', c', rfl, -⟩ := id hv)
          | (go_at_call 17; refine (spans_or _ _ a b _ hW.2.1 hW.2.2.1 LA.out LB.out).mono ?_; rintro e w' ⟨v, l, rfl, hv, h2, h3, h4, hb⟩; obtain rfl := U2.out l h2 h3; obtain ⟨A', c', rfl, -⟩ := id hv)
          | (go_at_call 19; refine (spans_and _ _ a b _ hW.2.1 hW.2.2.1 LA.out LB.out).mono ?_; rintro e w' ⟨v, l, rfl, hv, h2, h3, h4, hb⟩; obtain rfl := U3.out l h2 h3; obtain ⟨A', c', rfl, -⟩ := id hv)
          | (go_at_call 21; refine (spans_less _ _ a b _ hW.2.1 hW.2.2.1 LA.out LB.out).mono ?_; rintro e w' ⟨v, l, rfl, hv, h2, h3, h4, hb⟩; obtain rfl := U4.out l h2 h3; obtain ⟨A', c', rfl, -⟩ := id hv)
          | (go_at_call 23; refine (spans_gaps _ a s0 s1 _ hW.2.1 LA.out).mono ?_; rintro e w' ⟨v, l, rfl, hv, h2, h3, h4, hb⟩; obtain rfl := U5.out l h2 h3; obtain ⟨A', c', rfl, -⟩ := id hv)
          | (go_at_call 16; refine (rof_any _ a _ hW.2.1 LC.out).mono ?_; rintro e w' ⟨v, hv, rfl, hb⟩; rw [Q1.out] at hv; obtain ⟨A', c', rfl, -⟩ := id hv)
          | (go_at_call 18; refine (ror_any _ _ a b _ hW.2.1 hW.2.2.1 LA.out LB.out).mono ?_; rintro e w' ⟨v, hv, rfl, hb⟩; rw [Q2.out] at hv; obtain ⟨A', c', rfl, -⟩ := id hv)
          | (go_at_call 20; refine (rand_any _ _ a b _ hW.2.1 hW.2.2.1 LA1.out LB1.out).mono ?_; rintro e w' ⟨v, hv, rfl, hb⟩; rw [Q3.out] at hv; obtain ⟨A', c', rfl, -⟩ := id hv)
          | (go_at_call 22; refine (rless_set _ _ a b _ hW.2.1 hW.2.2.1 LA.out LB.out).mono ?_; rintro e w' ⟨v, hv, rfl, hb⟩; rw [Q4.out] at hv; obtain ⟨A', c', rfl, -⟩ := id hv)
          | (go_at_call 24; refine (rgaps_set _ a s0 s1 _ hW.2.1 LA.out).mono ?_; rintro e w' ⟨v, hv, rfl, hb⟩; rw [Q5.out] at hv; obtain ⟨A', c', rfl, -⟩ := id hv)
          | (go_at_call 14; first
              | ((with_reducible refine (same_yes _ _ L1 _ fm27 fm29 MX.out.1).mono ?_); rintro e w' ⟨rfl, nn, rfl⟩)
              | ((with_reducible refine (same_yes _ _ L2 _ fm35 fm38 MX.out.2.1).mono ?_); rintro e w' ⟨rfl, nn, rfl⟩)
              | ((with_reducible refine (same_yes _ _ L3 _ fm44 fm47 MX.out.2.2.1).mono ?_); rintro e w' ⟨rfl, nn, rfl⟩)
              | ((with_reducible refine (same_yes _ _ L4 _ fm53 fm56 MX.out.2.2.2.1).mono ?_); rintro e w' ⟨rfl, nn, rfl⟩)
              | ((with_reducible refine (same_yes _ _ L5 _ fm62 fm65 MX.out.2.2.2.2).mono ?_); rintro e w' ⟨rfl, nn, rfl⟩))
      try dsimp only
      refine hKK _ _ ?_ ?_
      · first | exact Below.refl _ _ | exact (Below.refl _ _).alloc (Nat.le_refl _) _ | exact below_draw _ _ | assumption
      · try dsimp only
        first | exact trivial | exact rfl | (first | exact ⟨(_, _), rfl, hv⟩)
    refine Obs.cons (k' := 55) rfl ?_ ?_
    · intro fa W hW hSame hRR KK hKK
      try dsimp only at hW
      obtain ⟨fv50, ft50, fm50⟩ := hRR 50 _ 98 rfl rfl (by kernel_rfl)
      replace fm50 : fv50 = Value.bool true := fm50
      subst fm50
      have fb0 := hSame.base 0 (by kernel_rfl)
      simp only [List.getElem?_toArray, List.getElem?_cons_succ, List.getElem?_cons_zero] at fb0
      replace hKK : ∀ v w', Go.RowKit.Below W.heap.size W w' → v = Value.slice A a.length c → KK (Act.put fa _ v) w' := fun v w' h1 h2 => hKK v w' h1 h2
      clear hSame hRR
      rw [wanted_guard rfl rfl rfl ft50]
      first | rw [if_pos (by rfl)] | rw [if_neg (by decide)]
      go_simp
      refine hKK _ _ ?_ ?_
      · first | exact Below.refl _ _ | exact (Below.refl _ _).alloc (Nat.le_refl _) _ | exact below_draw _ _ | assumption
      · exact rfl
    refine Obs.cons (k' := 56) rfl ?_ ?_
    · intro fa W hW hSame hRR KK hKK
      try dsimp only at hW
      obtain ⟨fv50, ft50, fm50⟩ := hRR 50 _ 98 rfl rfl (by kernel_rfl)
      replace fm50 : fv50 = Value.bool true := fm50
      subst fm50
      have fb1 := hSame.base 1 (by kernel_rfl)
      simp only [List.getElem?_toArray, List.getElem?_cons_succ, List.getElem?_cons_zero] at fb1
      replace hKK : ∀ v w', Go.RowKit.Below W.heap.size W w' → v = Value.slice B b.length d → KK (Act.put fa _ v) w' := fun v w' h1 h2 => hKK v w' h1 h2
      clear hSame hRR
      rw [wanted_guard rfl rfl rfl ft50]
      first | rw [if_pos (by rfl)] | rw [if_neg (by decide)]
      go_simp
      refine hKK _ _ ?_ ?_
      · first | exact Below.refl _ _ | exact (Below.refl _ _).alloc (Nat.le_refl _) _ | exact below_draw _ _ | assumption
      · exact rfl
    refine Obs.cons (k' := 57) rfl ?_ ?_
    · intro fa W hW hSame hRR KK hKK
      try dsimp only at hW
      obtain ⟨fv54, ft54, fm54⟩ := hRR 54 _ 102 rfl rfl (by kernel_rfl)
      replace fm54 : fv54 = Value.slice A a.length c := fm54
      subst fm54
      obtain ⟨fv55, ft55, fm55⟩ := hRR 55 _ 103 rfl rfl (by kernel_rfl)
      replace fm55 : fv55 = Value.slice B b.length d := fm55
      subst fm55
      obtain ⟨fv50, ft50, fm50⟩ := hRR 50 _ 98 rfl rfl (by kernel_rfl)
      replace fm50 : fv50 = Value.bool true := fm50
      subst fm50
      replace hKK : ∀ v w', Go.RowKit.Below W.heap.size W w' → (fun v W => ∃ u : Option Addr × Nat, v = .slice u.1 L4.length u.2 ∧ SpV W (.slice u.1 L4.length u.2) L4) v w' → KK (Act.put fa _ v) w' := fun v w' h1 h2 => hKK v w' h1 h2
      clear hSame hRR
      rw [wanted_guard rfl rfl rfl ft50]
      first | rw [if_pos (by rfl)] | rw [if_neg (by decide)]
      go_simp
      first
          | (go_at_call 12; refine (spans_rset _ a _ hW.2.1 LA6.out).mono ?_; rintro e w' ⟨rfl, hb⟩; rw [RR.out])
          | (go_at_call 13; refine (noontideref11_rset _ a _ hW.2.1 LA6.out).mono ?_; rintro e w' ⟨rfl, hb⟩; rw [RR.out])
          | (go_at_call 7; refine (lives11_any _).mono ?_; rintro e w' ⟨rfl, hb⟩)
          | (go_at_call 15; refine (spans_of _ a _ hW.2.1 LA.out).mono ?_; rintro e w' ⟨v, l, rfl, hv, h2, h3, h4, hb⟩; obtain rfl := U1.out l h2 h3; obtain ⟨A', c', rfl, -⟩ := id hv)
          | (go_at_call 17; refine (spans_or _ _ a b _ hW.2.1 hW.2.2.1 LA.out LB.out).mono ?_; rintro e w' ⟨v, l, rfl, hv, h2, h3, h4, hb⟩; obtain rfl := U2.out l h2 h3; obtain ⟨A', c', rfl, -⟩ := id hv)
          | (go_at_call 19; refine (spans_and _ _ a b _ hW.2.1 hW.2.2.1 LA.out LB.out).mono ?_; rintro e w' ⟨v, l, rfl, hv, h2, h3, h4, hb⟩; obtain rfl := U3.out l h2 h3; obtain ⟨A', c', rfl, -⟩ := id hv)
          | (go_at_call 21; refine (spans_less _ _ a b _ hW.2.1 hW.2.2.1 LA.out LB.out).mono ?_; rintro e w' ⟨v, l, rfl, hv, h2, h3, h4, hb⟩; obtain rfl := U4.out l h2 h3; obtain ⟨A', c', rfl, -⟩ := id hv)
          | (go_at_call 23; refine (spans_gaps _ a s0 s1 _ hW.2.1 LA.out).mono ?_; rintro e w' ⟨v, l, rfl, hv, h2, h3, h4, hb⟩; obtain rfl := U5.out l h2 h3; obtain ⟨A', c', rfl, -⟩ := id hv)
          | (go_at_call 16; refine (rof_any _ a _ hW.2.1 LC.out).mono ?_; rintro e w' ⟨v, hv, rfl, hb⟩; rw [Q1.out] at hv; obtain ⟨A', c', rfl, -⟩ := id hv)
          | (go_at_call 18; refine (ror_any _ _ a b _ hW.2.1 hW.2.2.1 LA.out LB.out).mono ?_; rintro e w' ⟨v, hv, rfl, hb⟩; rw [Q2.out] at hv; obtain ⟨A', c', rfl, -⟩ := id hv)
          | (go_at_call 20; refine (rand_any _ _ a b _ hW.2.1 hW.2.2.1 LA1.out LB1.out).mono ?_; rintro e w' ⟨v, hv, rfl, hb⟩; rw [Q3.out] at hv; obtain ⟨A', c', rfl, -⟩ := id hv)
          | (go_at_call 22; refine (rless_set _ _ a b _ hW.2.1 hW.2.2.1 LA.out LB.out).mono ?_; rintro e w' ⟨v, hv, rfl, hb⟩; rw [Q4.out] at hv; obtain ⟨A', c', rfl, -⟩ := id hv)
          | (go_at_call 24; refine (rgaps_set _ a s0 s1 _ hW.2.1 LA.out).mono ?_; rintro e w' ⟨v, hv, rfl, hb⟩; rw [Q5.out] at hv; obtain ⟨A', c', rfl, -⟩ := id hv)
          | (go_at_call 14; first
              | ((with_reducible refine (same_yes _ _ L1 _ fm27 fm29 MX.out.1).mono ?_); rintro e w' ⟨rfl, nn, rfl⟩)
              | ((with_reducible refine (same_yes _ _ L2 _ fm35 fm38 MX.out.2.1).mono ?_); rintro e w' ⟨rfl, nn, rfl⟩)
              | ((with_reducible refine (same_yes _ _ L3 _ fm44 fm47 MX.out.2.2.1).mono ?_); rintro e w' ⟨rfl, nn, rfl⟩)
              | ((with_reducible refine (same_yes _ _ L4 _ fm53 fm56 MX.out.2.2.2.1).mono ?_); rintro e w' ⟨rfl, nn, rfl⟩)
              | ((with_reducible refine (same_yes _ _ L5 _ fm62 fm65 MX.out.2.2.2.2).mono ?_); rintro e w' ⟨rfl, nn, rfl⟩))
      try dsimp only
      refine hKK _ _ ?_ ?_
      · first | exact Below.refl _ _ | exact (Below.refl _ _).alloc (Nat.le_refl _) _ | exact below_draw _ _ | assumption
      · try dsimp only
        first | exact trivial | exact rfl | (first | exact ⟨(_, _), rfl, hv⟩)
    refine Obs.cons (k' := 58) rfl ?_ ?_
    · intro fa W hW hSame hRR KK hKK
      try dsimp only at hW
      obtain ⟨fv53, ft53, fm53⟩ := hRR 53 _ 101 rfl rfl (by kernel_rfl)
      replace fm53 : (fun v W => ∃ u : Option Addr × Nat, v = .slice u.1 L4.length u.2 ∧ SpV W (.slice u.1 L4.length u.2) L4) fv53 W := fm53
      try dsimp only at fm53
      first | subst fm53 | obtain ⟨_, rfl, fm53⟩ := fm53
      obtain ⟨fv56, ft56, fm56⟩ := hRR 56 _ 104 rfl rfl (by kernel_rfl)
      replace fm56 : (fun v W => ∃ u : Option Addr × Nat, v = .slice u.1 L4.length u.2 ∧ SpV W (.slice u.1 L4.length u.2) L4) fv56 W := fm56
      try dsimp only at fm56
      first | subst fm56 | obtain ⟨_, rfl, fm56⟩ := fm56
      obtain ⟨fv50, ft50, fm50⟩ := hRR 50 _ 98 rfl rfl (by kernel_rfl)
      replace fm50 : fv50 = Value.bool true := fm50
      subst fm50
      replace hKK : ∀ v w', Go.RowKit.Below W.heap.size W w' → v = Value.bool true → KK (Act.put fa _ v) w' := fun v w' h1 h2 => hKK v w' h1 h2
      clear hSame hRR
      rw [wanted_guard rfl rfl rfl ft50]
      first | rw [if_pos (by rfl)] | rw [if_neg (by decide)]
      go_simp
      first
          | (go_at_call 12; refine (spans_rset _ a _ hW.2.1 LA6.out).mono ?_; rintro e w' ⟨rfl, hb⟩; rw [RR.out])
          | (go_at_call 13; refine (noontideref11_rset _ a _ hW.2.1 LA6.out).mono ?_; rintro e w' ⟨rfl, hb⟩; rw [RR.out])
          | (go_at_call 7; refine (lives11_any _).mono ?_; rintro e w' ⟨rfl, hb⟩)
          | (go_at_call 15; refine (spans_of _ a _ hW.2.1 LA.out).mono ?_; rintro e w' ⟨v, l, rfl, hv, h2, h3, h4, hb⟩; obtain rfl := U1.out l h2 h3; obtain ⟨A', c', rfl, -⟩ := id hv)
          | (go_at_call 17; refine (spans_or _ _ a b _ hW.2.1 hW.2.2.1 LA.out LB.out).mono ?_; rintro e w' ⟨v, l, rfl, hv, h2, h3, h4, hb⟩; obtain rfl := U2.out l h2 h3; obtain ⟨A', c', rfl, -⟩ := id hv)
          | (go_at_call 19; refine (spans_and _ _ a b _ hW.2.1 hW.2.2.1 LA.out LB.out).mono ?_; rintro e w' ⟨v, l, rfl, hv, h2, h3, h4, hb⟩; obtain rfl := U3.out l h2 h3; obtain ⟨A', c', rfl, -⟩ := id hv)
          | (go_at_call 21; refine (spans_less _ _ a b _ hW.2.1 hW.2.2.1 LA.out LB.out).mono ?_; rintro e w' ⟨v, l, rfl, hv, h2, h3, h4, hb⟩; obtain rfl := U4.out l h2 h3; obtain ⟨A', c', rfl, -⟩ := id hv)
          | (go_at_call 23; refine (spans_gaps _ a s0 s1 _ hW.2.1 LA.out).mono ?_; rintro e w' ⟨v, l, rfl, hv, h2, h3, h4, hb⟩; obtain rfl := U5.out l h2 h3; obtain ⟨A', c', rfl, -⟩ := id hv)
          | (go_at_call 16; refine (rof_any _ a _ hW.2.1 LC.out).mono ?_; rintro e w' ⟨v, hv, rfl, hb⟩; rw [Q1.out] at hv; obtain ⟨A', c', rfl, -⟩ := id hv)
          | (go_at_call 18; refine (ror_any _ _ a b _ hW.2.1 hW.2.2.1 LA.out LB.out).mono ?_; rintro e w' ⟨v, hv, rfl, hb⟩; rw [Q2.out] at hv; obtain ⟨A', c', rfl, -⟩ := id hv)
          | (go_at_call 20; refine (rand_any _ _ a b _ hW.2.1 hW.2.2.1 LA1.out LB1.out).mono ?_; rintro e w' ⟨v, hv, rfl, hb⟩; rw [Q3.out] at hv; obtain ⟨A', c', rfl, -⟩ := id hv)
          | (go_at_call 22; refine (rless_set _ _ a b _ hW.2.1 hW.2.2.1 LA.out LB.out).mono ?_; rintro e w' ⟨v, hv, rfl, hb⟩; rw [Q4.out] at hv; obtain ⟨A', c', rfl, -⟩ := id hv)
          | (go_at_call 24; refine (rgaps_set _ a s0 s1 _ hW.2.1 LA.out).mono ?_; rintro e w' ⟨v, hv, rfl, hb⟩; rw [Q5.out] at hv; obtain ⟨A', c', rfl, -⟩ := id hv)
          | (go_at_call 14; first
              | ((with_reducible refine (same_yes _ _ L1 _ fm27 fm29 MX.out.1).mono ?_); rintro e w' ⟨rfl, nn, rfl⟩)
              | ((with_reducible refine (same_yes _ _ L2 _ fm35 fm38 MX.out.2.1).mono ?_); rintro e w' ⟨rfl, nn, rfl⟩)
              | ((with_reducible refine (same_yes _ _ L3 _ fm44 fm47 MX.out.2.2.1).mono ?_); rintro e w' ⟨rfl, nn, rfl⟩)
              | ((with_reducible refine (same_yes _ _ L4 _ fm53 fm56 MX.out.2.2.2.1).mono ?_); rintro e w' ⟨rfl, nn, rfl⟩)
              | ((with_reducible refine (same_yes _ _ L5 _ fm62 fm65 MX.out.2.2.2.2).mono ?_); rintro e w' ⟨rfl, nn, rfl⟩))
      try dsimp only
      refine hKK _ _ ?_ ?_
      · first | exact Below.refl _ _ | exact (Below.refl _ _).alloc (Nat.le_refl _) _ | exact below_draw _ _ | assumption
      · exact rfl
    refine Obs.cons (k' := 59) rfl ?_ ?_
    · intro fa W hW hSame hRR KK hKK
      try dsimp only at hW
      obtain ⟨fv50, ft50, fm50⟩ := hRR 50 _ 98 rfl rfl (by kernel_rfl)
      replace fm50 : fv50 = Value.bool true := fm50
      subst fm50
      obtain ⟨fv57, ft57, fm57⟩ := hRR 57 _ 105 rfl rfl (by kernel_rfl)
      replace fm57 : fv57 = Value.bool true := fm57
      subst fm57
      replace hKK : ∀ v w', Go.RowKit.Below W.heap.size W w' → v = Value.bool true → KK (Act.put fa _ v) w' := fun v w' h1 h2 => hKK v w' h1 h2
      clear hSame hRR
      rw [if_pos (wanted_plain rfl)]
      go_simp
      refine hKK _ _ ?_ ?_
      · first | exact Below.refl _ _ | exact (Below.refl _ _).alloc (Nat.le_refl _) _ | exact below_draw _ _ | assumption
      · exact rfl
    refine Obs.cons (k' := 60) rfl ?_ ?_
    · intro fa W hW hSame hRR KK hKK
      try dsimp only at hW
      obtain ⟨fv58, ft58, fm58⟩ := hRR 58 _ 106 rfl rfl (by kernel_rfl)
      replace fm58 : fv58 = Value.bool true := fm58
      subst fm58
      replace hKK : ∀ v w', Go.RowKit.Below W.heap.size W w' → v = Value.bool true → KK (Act.put fa _ v) w' := fun v w' h1 h2 => hKK v w' h1 h2
      clear hSame hRR
      rw [if_pos (wanted_plain rfl)]
      go_simp
      refine hKK _ _ ?_ ?_
      · first | exact Below.refl _ _ | exact (Below.refl _ _).alloc (Nat.le_refl _) _ | exact below_draw _ _ | assumption
      · exact rfl
    refine Obs.cons (k' := 61) rfl ?_ ?_
    · intro fa W hW hSame hRR KK hKK
      try dsimp only at hW
      obtain ⟨fv59, ft59, fm59⟩ := hRR 59 _ 107 rfl rfl (by kernel_rfl)
      replace fm59 : fv59 = Value.bool true := fm59
      subst fm59
      have fb0 := hSame.base 0 (by kernel_rfl)
      simp only [List.getElem?_toArray, List.getElem?_cons_succ, List.getElem?_cons_zero] at fb0
      replace hKK : ∀ v w', Go.RowKit.Below W.heap.size W w' → v = Value.slice A a.length c → KK (Act.put fa _ v) w' := fun v w' h1 h2 => hKK v w' h1 h2
      clear hSame hRR
      rw [wanted_guard rfl rfl rfl ft59]
      first | rw [if_pos (by rfl)] | rw [if_neg (by decide)]
      go_simp
      refine hKK _ _ ?_ ?_
      · first | exact Below.refl _ _ | exact (Below.refl _ _).alloc (Nat.le_refl _) _ | exact below_draw _ _ | assumption
      · exact rfl
    refine Obs.cons (k' := 62) rfl ?_ ?_
    · intro fa W hW hSame hRR KK hKK
      try dsimp only at hW
      obtain ⟨fv59, ft59, fm59⟩ := hRR 59 _ 107 rfl rfl (by kernel_rfl)
      replace fm59 : fv59 = Value.bool true := fm59
      subst fm59
      have fb6 := hSame.base 6 (by kernel_rfl)
      simp only [List.getElem?_toArray, List.getElem?_cons_succ, List.getElem?_cons_zero] at fb6
      replace hKK : ∀ v w', Go.RowKit.Below W.heap.size W w' → v = Value.agg #[Value.int IntKind.i64 s0, Value.int IntKind.i64 s1] → KK (Act.put fa _ v) w' := fun v w' h1 h2 => hKK v w' h1 h2
      clear hSame hRR
      rw [wanted_guard rfl rfl rfl ft59]
      first | rw [if_pos (by rfl)] | rw [if_neg (by decide)]
      go_simp
      refine hKK _ _ ?_ ?_
      · first | exact Below.refl _ _ | exact (Below.refl _ _).alloc (Nat.le_refl _) _ | exact below_draw _ _ | assumption
      · exact rfl
    refine Obs.cons (k' := 63) rfl ?_ ?_
    · intro fa W hW hSame hRR KK hKK
      try dsimp only at hW
      obtain ⟨fv60, ft60, fm60⟩ := hRR 60 _ 108 rfl rfl (by kernel_rfl)
      replace fm60 : fv60 = Value.slice A a.length c := fm60
      subst fm60
      obtain ⟨fv61, ft61, fm61⟩ := hRR 61 _ 109 rfl rfl (by kernel_rfl)
      replace fm61 : fv61 = Value.agg #[Value.int IntKind.i64 s0, Value.int IntKind.i64 s1] := fm61
      subst fm61
      obtain ⟨fv59, ft59, fm59⟩ := hRR 59 _ 107 rfl rfl (by kernel_rfl)
      replace fm59 : fv59 = Value.bool true := fm59
      subst fm59
      replace hKK : ∀ v w', Go.RowKit.Below W.heap.size W w' → (fun v W => ∃ u : Option Addr × Nat, v = .slice u.1 L5.length u.2 ∧ SpV W (.slice u.1 L5.length u.2) L5) v w' → KK (Act.put fa _ v) w' := fun v w' h1 h2 => hKK v w' h1 h2
      clear hSame hRR
      rw [wanted_guard rfl rfl rfl ft59]
      first | rw [if_pos (by rfl)] | rw [if_neg (by decide)]
      go_simp
      first
          | (go_at_call 12; refine (spans_rset _ a _ hW.2.1 LA6.out).mono ?_; rintro e w' ⟨rfl, hb⟩; rw [RR.out])
          | (go_at_call 13; refine (noontideref11_rset _ a _ hW.2.1 LA6.out).mono ?_; rintro e w' ⟨rfl, hb⟩; rw [RR.out])
          | (go_at_call 7; refine (lives11_any _).mono ?_; rintro e w' ⟨rfl, hb⟩)
          | (go_at_call 15; refine (spans_of _ a _ hW.2.1 LA.out).mono ?_; rintro e w' ⟨v, l, rfl, hv, h2, h3, h4, hb⟩; obtain rfl := U1.out l h2 h3; obtain ⟨A', c', rfl, -⟩ := id hv)
          | (go_at_call 17; refine (spans_or _ _ a b _ hW.2.1 hW.2.2.1 LA.out LB.out).mono ?_; rintro e w' ⟨v, l, rfl, hv, h2, h3, h4, hb⟩; obtain rfl := U2.out l h2 h3; obtain ⟨A', c', rfl, -⟩ := id hv)
          | (go_at_call 19; refine (spans_and _ _ a b _ hW.2.1 hW.2.2.1 LA.out LB.out).mono ?_; rintro e w' ⟨v, l, rfl, hv, h2, h3, h4, hb⟩; obtain rfl := U3.out l h2 h3; obtain ⟨A', c', rfl, -⟩ := id hv)
          | (go_at_call 21; refine (spans_less _ _ a b _ hW.2.1 hW.2.2.1 LA.out LB.out).mono ?_; rintro e w' ⟨v, l, rfl, hv, h2, h3, h4, hb⟩; obtain rfl := U4.out l h2 h3; obtain ⟨A', c', rfl, -⟩ := id hv)
          | (go_at_call 23; refine (spans_gaps _ a s0 s1 _ hW.2.1 LA.out).mono ?_; rintro e w' ⟨v, l, rfl, hv, h2, h3, h4, hb⟩; obtain rfl := U5.out l h2 h3; obtain ⟨A', c', rfl, -⟩ := id hv)
          | (go_at_call 16; refine (rof_any _ a _ hW.2.1 LC.out).mono ?_; rintro e w' ⟨v, hv, rfl, hb⟩; rw [Q1.out] at hv; obtain ⟨A', c', rfl, -⟩ := id hv)
          | (go_at_call 18; refine (ror_any _ _ a b _ hW.2.1 hW.2.2.1 LA.out LB.out).mono ?_; rintro e w' ⟨v, hv, rfl, hb⟩; rw [Q2.out] at hv; obtain ⟨A', c', rfl, -⟩ := id hv)
          | (go_at_call 20; refine (rand_any _ _ a b _ hW.2.1 hW.2.2.1 LA1.out LB1.out).mono ?_; rintro e w' ⟨v, hv, rfl, hb⟩; rw [Q3.out] at hv; obtain ⟨A', c', rfl, -⟩ := id hv)
          | (go_at_call 22; refine (rless_set _ _ a b _ hW.2.1 hW.2.2.1 LA.out LB.out).mono ?_; rintro e w' ⟨v, hv, rfl, hb⟩; rw [Q4.out] at hv; obtain ⟨A', c', rfl, -⟩ := id hv)
          | (go_at_call 24; refine (rgaps_set _ a s0 s1 _ hW.2.1 LA.out).mono ?_; rintro e w' ⟨v, hv, rfl, hb⟩; rw [Q5.out] at hv; obtain ⟨A', c', rfl, -⟩ := id hv)
          | (go_at_call 14; first
              | ((with_reducible refine (same_yes _ _ L1 _ fm27 fm29 MX.out.1).mono ?_); rintro e w' ⟨rfl, nn, rfl⟩)
              | ((with_reducible refine (same_yes _ _ L2 _ fm35 fm38 MX.out.2.1).mono ?_); rintro e w' ⟨rfl, nn, rfl⟩)
              | ((with_reducible refine (same_yes _ _ L3 _ fm44 fm47 MX.out.2.2.1).mono ?_); rintro e w' ⟨rfl, nn, rfl⟩)
              | ((with_reducible refine (same_yes _ _ L4 _ fm53 fm56 MX.out.2.2.2.1).mono ?_); rintro e w' ⟨rfl, nn, rfl⟩)
              | ((with_reducible refine (same_yes _ _ L5 _ fm62 fm65 MX.out.2.2.2.2).mono ?_); rintro e w' ⟨rfl, nn, rfl⟩))
      try dsimp only
      refine hKK _ _ ?_ ?_
      · first | exact Below.refl _ _ | exact (Below.refl _ _).alloc (Nat.le_refl _) _ | exact below_draw _ _ | assumption
      · try dsimp only
        first | exact trivial | exact rfl | (first | exact ⟨(_, _), rfl, hv⟩)
    refine Obs.cons (k' := 64) rfl ?_ ?_
    · intro fa W hW hSame hRR KK hKK
      try dsimp only at hW
      obtain ⟨fv59, ft59, fm59⟩ := hRR 59 _ 107 rfl rfl (by kernel_rfl)
      replace fm59 : fv59 = Value.bool true := fm59
      subst fm59
      have fb0 := hSame.base 0 (by kernel_rfl)
      simp only [List.getElem?_toArray, List.getElem?_cons_succ, List.getElem?_cons_zero] at fb0
      replace hKK : ∀ v w', Go.RowKit.Below W.heap.size W w' → v = Value.slice A a.length c → KK (Act.put fa _ v) w' := fun v w' h1 h2 => hKK v w' h1 h2
      clear hSame hRR
      rw [wanted_guard rfl rfl rfl ft59]
      first | rw [if_pos (by rfl)] | rw [if_neg (by decide)]
      go_simp
      refine hKK _ _ ?_ ?_
      · first | exact Below.refl _ _ | exact (Below.refl _ _).alloc (Nat.le_refl _) _ | exact below_draw _ _ | assumption
      · exact rfl
    refine Obs.cons (k' := 65) rfl ?_ ?_
    · intro fa W hW hSame hRR KK hKK
      try dsimp only at hW
      obtain ⟨fv59, ft59, fm59⟩ := hRR 59 _ 107 rfl rfl (by kernel_rfl)
      replace fm59 : fv59 = Value.bool true := fm59
      subst fm59
      have fb6 := hSame.base 6 (by kernel_rfl)
      simp only [List.getElem?_toArray, List.getElem?_cons_succ, List.getElem?_cons_zero] at fb6
      replace hKK : ∀ v w', Go.RowKit.Below W.heap.size W w' → v = Value.agg #[Value.int IntKind.i64 s0, Value.int IntKind.i64 s1] → KK (Act.put fa _ v) w' := fun v w' h1 h2 => hKK v w' h1 h2
      clear hSame hRR
      rw [wanted_guard rfl rfl rfl ft59]
      first | rw [if_pos (by rfl)] | rw [if_neg (by decide)]
      go_simp
      refine hKK _ _ ?_ ?_
      · first | exact Below.refl _ _ | exact (Below.refl _ _).alloc (Nat.le_refl _) _ | exact below_draw _ _ | assumption
      · exact rfl
    refine Obs.cons (k' := 66) rfl ?_ ?_
    · intro fa W hW hSame hRR KK hKK
      try dsimp only at hW
      obtain ⟨fv63, ft63, fm63⟩ := hRR 63 _ 111 rfl rfl (by kernel_rfl)
      replace fm63 : fv63 = Value.slice A a.length c := fm63
      subst fm63
      obtain ⟨fv64, ft64, fm64⟩ := hRR 64 _ 112 rfl rfl (by kernel_rfl)
      replace fm64 : fv64 = Value.agg #[Value.int IntKind.i64 s0, Value.int IntKind.i64 s1] := fm64
      subst fm64
      obtain ⟨fv59, ft59, fm59⟩ := hRR 59 _ 107 rfl rfl (by kernel_rfl)
      replace fm59 : fv59 = Value.bool true := fm59
      subst fm59
      replace hKK : ∀ v w', Go.RowKit.Below W.heap.size W w' → (fun v W => ∃ u : Option Addr × Nat, v = .slice u.1 L5.length u.2 ∧ SpV W (.slice u.1 L5.length u.2) L5) v w' → KK (Act.put fa _ v) w' := fun v w' h1 h2 => hKK v w' h1 h2
      clear hSame hRR
      rw [wanted_guard rfl rfl rfl ft59]
      first | rw [if_pos (by rfl)] | rw [if_neg (by decide)]
      go_simp
      first
          | (go_at_call 12; refine (spans_rset _ a _ hW.2.1 LA6.out).mono ?_; rintro e w' ⟨rfl, hb⟩; rw [RR.out])
          | (go_at_call 13; refine (noontideref11_rset _ a _ hW.2.1 LA6.out).mono ?_; rintro e w' ⟨rfl, hb⟩; rw [RR.out])
          | (go_at_call 7; refine (lives11_any _).mono ?_; rintro e w' ⟨rfl, hb⟩)
          | (go_at_call 15; refine (spans_of _ a _ hW.2.1 LA.out).mono ?_; rintro e w' ⟨v, l, rfl, hv, h2, h3, h4, hb⟩; obtain rfl := U1.out l h2 h3; obtain ⟨A', c', rfl, -⟩ := id hv)
          | (go_at_call 17; refine (spans_or _ _ a b _ hW.2.1 hW.2.2.1 LA.out LB.out).mono ?_; rintro e w' ⟨v, l, rfl, hv, h2, h3, h4, hb⟩; obtain rfl := U2.out l h2 h3; obtain ⟨A', c', rfl, -⟩ := id hv)
          | (go_at_call 19; refine (spans_and _ _ a b _ hW.2.1 hW.2.2.1 LA.out LB.out).mono ?_; rintro e w' ⟨v, l, rfl, hv, h2, h3, h4, hb⟩; obtain rfl := U3.out l h2 h3; obtain ⟨A', c', rfl, -⟩ := id hv)
          | (go_at_call 21; refine (spans_less _ _ a b _ hW.2.1 hW.2.2.1 LA.out LB.out).mono ?_; rintro e w' ⟨v, l, rfl, hv, h2, h3, h4, hb⟩; obtain rfl := U4.out l h2 h3; obtain ⟨A', c', rfl, -⟩ := id hv)
          | (go_at_call 23; refine (spans_gaps _ a s0 s1 _ hW.2.1 LA.out).mono ?_; rintro e w' ⟨v, l, rfl, hv, h2, h3, h4, hb⟩; obtain rfl := U5.out l h2 h3; obtain ⟨A', c', rfl, -⟩ := id hv)
          | (go_at_call 16; refine (rof_any _ a _ hW.2.1 LC.out).mono ?_; rintro e w' ⟨v, hv, rfl, hb⟩; rw [Q1.out] at hv; obtain ⟨A', c', rfl, -⟩ := id hv)
          | (go_at_call 18; refine (ror_any _ _ a b _ hW.2.1 hW.2.2.1 LA.out LB.out).mono ?_; rintro e w' ⟨v, hv, rfl, hb⟩; rw [Q2.out] at hv; obtain ⟨A', c', rfl, -⟩ := id hv)
          | (go_at_call 20; refine (rand_any _ _ a b _ hW.2.1 hW.2.2.1 LA1.out LB1.out).mono ?_; rintro e w' ⟨v, hv, rfl, hb⟩; rw [Q3.out] at hv; obtain ⟨A', c', rfl, -⟩ := id hv)
          | (go_at_call 22; refine (rless_set _ _ a b _ hW.2.1 hW.2.2.1 LA.out LB.out).mono ?_; rintro e w' ⟨v, hv, rfl, hb⟩; rw [Q4.out] at hv; obtain ⟨A', c', rfl, -⟩ := id hv)
          | (go_at_call 24; refine (rgaps_set _ a s0 s1 _ hW.2.1 LA.out).mono ?_; rintro e w' ⟨v, hv, rfl, hb⟩; rw [Q5.out] at hv; obtain ⟨A', c', rfl, -⟩ := id hv)
          | (go_at_call 14; first
              | ((with_reducible refine (same_yes _ _ L1 _ fm27 fm29 MX.out.1).mono ?_); rintro e w' ⟨rfl, nn, rfl⟩)
              | ((with_reducible refine (same_yes _ _ L2 _ fm35 fm38 MX.out.2.1).mono ?_); rintro e w' ⟨rfl, nn, rfl⟩)
              | ((with_reducible refine (same_yes _ _ L3 _ fm44 fm47 MX.out.2.2.1).mono ?_); rintro e w' ⟨rfl, nn, rfl⟩)
              | ((with_reducible refine (same_yes _ _ L4 _ fm53 fm56 MX.out.2.2.2.1).mono ?_); rintro e w' ⟨rfl, nn, rfl⟩)
              | ((with_reducible refine (same_yes _ _ L5 _ fm62 fm65 MX.out.2.2.2.2).mono ?_); rintro e w' ⟨rfl, nn, rfl⟩))
      try dsimp only
      refine hKK _ _ ?_ ?_
      · first | exact Below.refl _ _ | exact (Below.refl _ _).alloc (Nat.le_refl _) _ | exact below_draw _ _ | assumption
      · try dsimp only
        first | exact trivial | exact rfl | (first | exact ⟨(_, _), rfl, hv⟩)
    refine Obs.cons (k' := 67) rfl ?_ ?_
    · intro fa W hW hSame hRR KK hKK
      try dsimp only at hW
      obtain ⟨fv62, ft62, fm62⟩ := hRR 62 _ 110 rfl rfl (by kernel_rfl)
      replace fm62 : (fun v W => ∃ u : Option Addr × Nat, v = .slice u.1 L5.length u.2 ∧ SpV W (.slice u.1 L5.length u.2) L5) fv62 W := fm62
      try dsimp only at fm62
      first | subst fm62 | obtain ⟨_, rfl, fm62⟩ := fm62
      obtain ⟨fv65, ft65, fm65⟩ := hRR 65 _ 113 rfl rfl (by kernel_rfl)
      replace fm65 : (fun v W => ∃ u : Option Addr × Nat, v = .slice u.1 L5.length u.2 ∧ SpV W (.slice u.1 L5.length u.2) L5) fv65 W := fm65
      try dsimp only at fm65
      first | subst fm65 | obtain ⟨_, rfl, fm65⟩ := fm65
      obtain ⟨fv59, ft59, fm59⟩ := hRR 59 _ 107 rfl rfl (by kernel_rfl)
      replace fm59 : fv59 = Value.bool true := fm59
      subst fm59
      replace hKK : ∀ v w', Go.RowKit.Below W.heap.size W w' → v = Value.bool true → KK (Act.put fa _ v) w' := fun v w' h1 h2 => hKK v w' h1 h2
      clear hSame hRR
      rw [wanted_guard rfl rfl rfl ft59]
      first | rw [if_pos (by rfl)] | rw [if_neg (by decide)]
      go_simp
      first
          | (go_at_call 12; refine (spans_rset _ a _ hW.2.1 LA6.out).mono ?_; rintro e w' ⟨rfl, hb⟩; rw [RR.out])
          | (go_at_call 13; refine (noontideref11_rset _ a _ hW.2.1 LA6.out).mono ?_; rintro e w' ⟨rfl, hb⟩; rw [RR.out])
          | (go_at_call 7; refine (lives11_any _).mono ?_; rintro e w' ⟨rfl, hb⟩)
          | (go_at_call 15; refine (spans_of _ a _ hW.2.1 LA.out).mono ?_; rintro e w' ⟨v, l, rfl, hv, h2, h3, h4, hb⟩; obtain rfl := U1.out l h2 h3; obtain ⟨A', c', rfl, -⟩ := id hv)
          | (go_at_call 17; refine (spans_or _ _ a b _ hW.2.1 hW.2.2.1 LA.out LB.out).mono ?_; rintro e w' ⟨v, l, rfl, hv, h2, h3, h4, hb⟩; obtain rfl := U2.out l h2 h3; obtain ⟨A', c', rfl, -⟩ := id hv)
          | (go_at_call 19; refine (spans_and _ _ a b _ hW.2.1 hW.2.2.1 LA.out LB.out).mono ?_; rintro e w' ⟨v, l, rfl, hv, h2, h3, h4, hb⟩; obtain rfl := U3.out l h2 h3; obtain ⟨A', c', rfl, -⟩ := id hv)
          | (go_at_call 21; refine (spans_less _ _ a b _ hW.2.1 hW.2.2.1 LA.out LB.out).mono ?_; rintro e w' ⟨v, l, rfl, hv, h2, h3, h4, hb⟩; obtain rfl := U4.out l h2 h3; obtain ⟨A', c', rfl, -⟩ := id hv)
          | (go_at_call 23; refine (spans_gaps _ a s0 s1 _ hW.2.1 LA.out).mono ?_; rintro e w' ⟨v, l, rfl, hv, h2, h3, h4, hb⟩; obtain rfl := U5.out l h2 h3; obtain ⟨A', c', rfl, -⟩ := id hv)
          | (go_at_call 16; refine (rof_any _ a _ hW.2.1 LC.out).mono ?_; rintro e w' ⟨v, hv, rfl, hb⟩; rw [Q1.out] at hv; obtain ⟨A', c', rfl, -⟩ := id hv)
          | (go_at_call 18; refine (ror_any _ _ a b _ hW.2.1 hW.2.2.1 LA.out LB.out).mono ?_; rintro e w' ⟨v, hv, rfl, hb⟩; rw [Q2.out] at hv; obtain ⟨A', c', rfl, -⟩ := id hv)
          | (go_at_call 20; refine (rand_any _ _ a b _ hW.2.1 hW.2.2.1 LA1.out LB1.out).mono ?_; rintro e w' ⟨v, hv, rfl, hb⟩; rw [Q3.out] at hv; obtain ⟨A', c', rfl, -⟩ := id hv)
          | (go_at_call 22; refine (rless_set _ _ a b _ hW.2.1 hW.2.2.1 LA.out LB.out).mono ?_; rintro e w' ⟨v, hv, rfl, hb⟩; rw [Q4.out] at hv; obtain ⟨A', c', rfl, -⟩ := id hv)
          | (go_at_call 24; refine (rgaps_set _ a s0 s1 _ hW.2.1 LA.out).mono ?_; rintro e w' ⟨v, hv, rfl, hb⟩; rw [Q5.out] at hv; obtain ⟨A', c', rfl, -⟩ := id hv)
          | (go_at_call 14; first
              | ((with_reducible refine (same_yes _ _ L1 _ fm27 fm29 MX.out.1).mono ?_); rintro e w' ⟨rfl, nn, rfl⟩)
              | ((with_reducible refine (same_yes _ _ L2 _ fm35 fm38 MX.out.2.1).mono ?_); rintro e w' ⟨rfl, nn, rfl⟩)
              | ((with_reducible refine (same_yes _ _ L3 _ fm44 fm47 MX.out.2.2.1).mono ?_); rintro e w' ⟨rfl, nn, rfl⟩)
              | ((with_reducible refine (same_yes _ _ L4 _ fm53 fm56 MX.out.2.2.2.1).mono ?_); rintro e w' ⟨rfl, nn, rfl⟩)
              | ((with_reducible refine (same_yes _ _ L5 _ fm62 fm65 MX.out.2.2.2.2).mono ?_); rintro e w' ⟨rfl, nn, rfl⟩))
      try dsimp only
      refine hKK _ _ ?_ ?_
      · first | exact Below.refl _ _ | exact (Below.refl _ _).alloc (Nat.le_refl _) _ | exact below_draw _ _ | assumption
      · exact rfl
    refine Obs.cons (k' := 68) rfl ?_ ?_
    · intro fa W hW hSame hRR KK hKK
      try dsimp only at hW
      obtain ⟨fv59, ft59, fm59⟩ := hRR 59 _ 107 rfl rfl (by kernel_rfl)
      replace fm59 : fv59 = Value.bool true := fm59
      subst fm59
      obtain ⟨fv66, ft66, fm66⟩ := hRR 66 _ 114 rfl rfl (by kernel_rfl)
      replace fm66 : fv66 = Value.bool true := fm66
      subst fm66
      replace hKK : ∀ v w', Go.RowKit.Below W.heap.size W w' → v = Value.bool true → KK (Act.put fa _ v) w' := fun v w' h1 h2 => hKK v w' h1 h2
      clear hSame hRR
      rw [if_pos (wanted_plain rfl)]
      go_simp
      refine hKK _ _ ?_ ?_
      · first | exact Below.refl _ _ | exact (Below.refl _ _).alloc (Nat.le_refl _) _ | exact below_draw _ _ | assumption
      · exact rfl
    refine Obs.cons (k' := 69) rfl ?_ ?_
    · intro fa W hW hSame hRR KK hKK
      try dsimp only at hW
      obtain ⟨fv67, ft67, fm67⟩ := hRR 67 _ 115 rfl rfl (by kernel_rfl)
      replace fm67 : fv67 = Value.bool true := fm67
      subst fm67
      replace hKK : ∀ v w', Go.RowKit.Below W.heap.size W w' → v = Value.bool true → KK (Act.put fa _ v) w' := fun v w' h1 h2 => hKK v w' h1 h2
      clear hSame hRR
      rw [if_pos (wanted_plain rfl)]
      go_simp
      refine hKK _ _ ?_ ?_
      · first | exact Below.refl _ _ | exact (Below.refl _ _).alloc (Nat.le_refl _) _ | exact below_draw _ _ | assumption
      · exact rfl
    refine Obs.cons (k' := 70) rfl ?_ ?_
    · intro fa W hW hSame hRR KK hKK
      try dsimp only at hW
      obtain ⟨fv68, ft68, fm68⟩ := hRR 68 _ 116 rfl rfl (by kernel_rfl)
      replace fm68 : fv68 = Value.bool true := fm68
      subst fm68
      replace hKK : ∀ v w', Go.RowKit.Below W.heap.size W w' → v = Value.bool true → KK (Act.put fa _ v) w' := fun v w' h1 h2 => hKK v w' h1 h2
      clear hSame hRR
      rw [wanted_guard rfl rfl rfl ft68]
      first | rw [if_pos (by rfl)] | rw [if_neg (by decide)]
      go_simp
      first
          | (go_at_call 12; refine (spans_rset _ a _ hW.2.1 LA6.out).mono ?_; rintro e w' ⟨rfl, hb⟩; rw [RR.out])
          | (go_at_call 13; refine (noontideref11_rset _ a _ hW.2.1 LA6.out).mono ?_; rintro e w' ⟨rfl, hb⟩; rw [RR.out])
          | (go_at_call 7; refine (lives11_any _).mono ?_; rintro e w' ⟨rfl, hb⟩)
          | (go_at_call 15; refine (spans_of _ a _ hW.2.1 LA.out).mono ?_; rintro e w' ⟨v, l, rfl, hv, h2, h3, h4, hb⟩; obtain rfl := U1.out l h2 h3; obtain ⟨A', c', rfl, -⟩ := id hv)
          | (go_at_call 17; refine (spans_or _ _ a b _ hW.2.1 hW.2.2.1 LA.out LB.out).mono ?_; rintro e w' ⟨v, l, rfl, hv, h2, h3, h4, hb⟩; obtain rfl := U2.out l h2 h3; obtain ⟨A', c', rfl, -⟩ := id hv)
          | (go_at_call 19; refine (spans_and _ _ a b _ hW.2.1 hW.2.2.1 LA.out LB.out).mono ?_; rintro e w' ⟨v, l, rfl, hv, h2, h3, h4, hb⟩; obtain rfl := U3.out l h2 h3; obtain ⟨A', c', rfl, -⟩ := id hv)
          | (go_at_call 21; refine (spans_less _ _ a b _ hW.2.1 hW.2.2.1 LA.out LB.out).mono ?_; rintro e w' ⟨v, l, rfl, hv, h2, h3, h4, hb⟩; obtain rfl := U4.out l h2 h3; obtain ⟨A', c', rfl, -⟩ := id hv)
          | (go_at_call 23; refine (spans_gaps _ a s0 s1 _ hW.2.1 LA.out).mono ?_; rintro e w' ⟨v, l, rfl, hv, h2, h3, h4, hb⟩; obtain rfl := U5.out l h2 h3; obtain ⟨A', c', rfl, -⟩ := id hv)
          | (go_at_call 16; refine (rof_any _ a _ hW.2.1 LC.out).mono ?_; rintro e w' ⟨v, hv, rfl, hb⟩; rw [Q1.out] at hv; obtain ⟨A', c', rfl, -⟩ := id hv)
          | (go_at_call 18; refine (ror_any _ _ a b _ hW.2.1 hW.2.2.1 LA.out LB.out).mono ?_; rintro e w' ⟨v, hv, rfl, hb⟩; rw [Q2.out] at hv; obtain ⟨A', c', rfl, -⟩ := id hv)
          | (go_at_call 20; refine (rand_any _ _ a b _ hW.2.1 hW.2.2.1 LA1.out LB1.out).mono ?_; rintro e w' ⟨v, hv, rfl, hb⟩; rw [Q3.out] at hv; obtain ⟨A', c', rfl, -⟩ := id hv)
          | (go_at_call 22; refine (rless_set _ _ a b _ hW.2.1 hW.2.2.1 LA.out LB.out).mono ?_; rintro e w' ⟨v, hv, rfl, hb⟩; rw [Q4.out] at hv; obtain ⟨A', c', rfl, -⟩ := id hv)
          | (go_at_call 24; refine (rgaps_set _ a s0 s1 _ hW.2.1 LA.out).mono ?_; rintro e w' ⟨v, hv, rfl, hb⟩; rw [Q5.out] at hv; obtain ⟨A', c', rfl, -⟩ := id hv)
          | (go_at_call 14; first
              | ((with_reducible refine (same_yes _ _ L1 _ fm27 fm29 MX.out.1).mono ?_); rintro e w' ⟨rfl, nn, rfl⟩)
              | ((with_reducible refine (same_yes _ _ L2 _ fm35 fm38 MX.out.2.1).mono ?_); rintro e w' ⟨rfl, nn, rfl⟩)
              | ((with_reducible refine (same_yes _ _ L3 _ fm44 fm47 MX.out.2.2.1).mono ?_); rintro e w' ⟨rfl, nn, rfl⟩)
              | ((with_reducible refine (same_yes _ _ L4 _ fm53 fm56 MX.out.2.2.2.1).mono ?_); rintro e w' ⟨rfl, nn, rfl⟩)
              | ((with_reducible refine (same_yes _ _ L5 _ fm62 fm65 MX.out.2.2.2.2).mono ?_); rintro e w' ⟨rfl, nn, rfl⟩))
      try dsimp only
      refine hKK _ _ ?_ ?_
      · first | exact Below.refl _ _ | exact (Below.refl _ _).alloc (Nat.le_refl _) _ | exact below_draw _ _ | assumption
      · exact rfl
    refine Obs.cons (k' := 71) rfl ?_ ?_
    · intro fa W hW hSame hRR KK hKK
      try dsimp only at hW
      obtain ⟨fv68, ft68, fm68⟩ := hRR 68 _ 116 rfl rfl (by kernel_rfl)
      replace fm68 : fv68 = Value.bool true := fm68
      subst fm68
      obtain ⟨fv69, ft69, fm69⟩ := hRR 69 _ 117 rfl rfl (by kernel_rfl)
      replace fm69 : fv69 = Value.bool true := fm69
      subst fm69
      replace hKK : ∀ v w', Go.RowKit.Below W.heap.size W w' → v = Value.bool true → KK (Act.put fa _ v) w' := fun v w' h1 h2 => hKK v w' h1 h2
      clear hSame hRR
      rw [if_pos (wanted_plain rfl)]
      go_simp
      refine hKK _ _ ?_ ?_
      · first | exact Below.refl _ _ | exact (Below.refl _ _).alloc (Nat.le_refl _) _ | exact below_draw _ _ | assumption
      · exact rfl
    refine Obs.cons (k' := 72) rfl ?_ ?_
    · intro fa W hW hSame hRR KK hKK
      try dsimp only at hW
      obtain ⟨fv70, ft70, fm70⟩ := hRR 70 _ 118 rfl rfl (by kernel_rfl)
      replace fm70 : fv70 = Value.bool true := fm70
      subst fm70
      replace hKK : ∀ v w', Go.RowKit.Below W.heap.size W w' → v = Value.bool true → KK (Act.put fa _ v) w' := fun v w' h1 h2 => hKK v w' h1 h2
      clear hSame hRR
      rw [if_pos (wanted_plain rfl)]
      go_simp
      refine hKK _ _ ?_ ?_
      · first | exact Below.refl _ _ | exact (Below.refl _ _).alloc (Nat.le_refl _) _ | exact below_draw _ _ | assumption
      · exact rfl
    exact Obs.nil
  case hlast =>
    intro fa W hW hSame hRR
    try dsimp only at hW
    obtain ⟨fvZ, ftZ, fmZ⟩ := hRR 71 _ 8 rfl rfl
    replace fmZ : fvZ = Value.bool true := fmZ
    subst fmZ
    have hdf := hSame.defers
    obtain ⟨tm, df⟩ := fa
    dsimp only at hdf ftZ
    subst hdf
    have BB := Lib.hid hW.1
    clear hSame hRR hW
    go_wp2_with fail
    refine bodyPost_ret (v := .bool true) ?_ rfl ⟨rfl, BB.out⟩
    rw [results_tmp rfl]
    simp [Array.getD_eq_getD_getElem?, ftZ]
end Go.Proofs.Ytnfjdjfajkdiiaa

