/- SeamTells: the walk. -/
import Derived.Test.YtmnmmbeageddkaaIfW
import Derived.Test.YtmnmmbeageddkaaIfZRP
import Derived.Test.YtmnmmbeageddkaaIfT
import Derived.Test.YtmnmmbeageddkaaPairF
set_option linter.unusedVariables false
set_option linter.unusedSimpArgs false
namespace Go.Proofs.Ytmnmmbeageddkaa
open Go.RowKit Go.Sort Go.Shelf Go.Pairs

theorem rls_len39 (b : List Ss.S) : ∀ out, Ss.Rs out → (Ss.rls out b).length ≤ out.length + b.length := by
  induction b with
  | nil => intro out _; simp [Ss.rls]
  | cons y b ih =>
    intro out h
    have := ih _ (Ss.flat_set (fun x => Ss.lss x y) (fun x => Ss.lss_set x y) out h).1
    have := Ss.lss_grow y out h
    rw [Ss.rls, List.length_cons]; omega
/-- What the reference puts together, and what the program does: one number, one list. -/
theorem mgr_ref {a b l : List If.I} {q : Int} {w w' : World} {e : Ending} (h : MgR a b q l) (k : AnsR a b w e w') :
    Below w.heap.size w w' ∧ ∃ u : Option Addr × Nat, e = .returned (.tuple #[.slice u.1 l.length u.2, .int .i64 q]) ∧ InV w' (.slice u.1 l.length u.2) l := by
  obtain ⟨kb, k⟩ := k
  refine ⟨kb, ?_⟩
  rcases h with ⟨h1, rfl, rfl⟩ | ⟨h1, d, hp, ho, h2⟩
  · rcases k with ⟨_, rfl⟩ | ⟨k1, _⟩
    · exact ⟨(none, 0), rfl, InV.nil _⟩
    · rw [h1] at k1; cases k1
  · rcases k with ⟨k1, _⟩ | ⟨k1, k2⟩
    · rw [h1] at k1; cases k1
    · rw [Bool.and_eq_true] at h1
      obtain ⟨m1, m2⟩ := If.mg_ref h1.1 h1.2 hp ho
      rcases h2 with ⟨h2, rfl, rfl⟩ | ⟨h2, rfl, rfl⟩
      · rcases k2 with ⟨_, rfl⟩ | ⟨k2, _⟩
        · exact ⟨(none, 0), rfl, InV.nil _⟩
        · rw [m1, h2] at k2; cases k2
      · rcases k2 with ⟨k2, _⟩ | ⟨_, v, rfl, hv⟩
        · rw [m1, h2] at k2; cases k2
        · rw [m2 h2] at hv
          obtain ⟨u, rfl, hu⟩ := hv.form
          exact ⟨u, rfl, hu⟩
theorem ckT {W W' : World} {a : Addr} {v : Value} (k : Below W.heap.size W W') (h : W.cell? a = some v) : W'.cell? a = some v := (k.cell (World.block_lt_of_cell? _ _ h)).trans h
theorem keepST {w W W' : World} {va vb vx vy : Value} {a b x : List If.I} {a0 a1 : Addr} {v0 v1 : Value} (k : Below W.heap.size W W')
    (h : Below w.heap.size w W ∧ InV W va a ∧ InV W vb b ∧ InV W vx x ∧ InV W vy x ∧ W.cell? a0 = some v0 ∧ W.cell? a1 = some v1) :
    Below w.heap.size w W' ∧ InV W' va a ∧ InV W' vb b ∧ InV W' vx x ∧ InV W' vy x ∧ W'.cell? a0 = some v0 ∧ W'.cell? a1 = some v1 :=
  ⟨below_step h.1 k, h.2.1.on k, h.2.2.1.on k, h.2.2.2.1.on k, h.2.2.2.2.1.on k, ckT k h.2.2.2.2.2.1, ckT k h.2.2.2.2.2.2⟩
set_option maxRecDepth 100000 in
set_option maxHeartbeats 16000000 in
theorem seam_tells (va vb : Value) (a b : List If.I) (s0 s1 : Int) (w : World) (h : InV w va a) (k : InV w vb b) :
    Calls Try.prog 5 #[va, vb, .agg #[.int .i64 s0, .int .i64 s1]] w fun e w' => e = .returned (.bool true) ∧ Below w.heap.size w w' := by
  obtain ⟨A, c, rfl, -⟩ := id h
  obtain ⟨B, d, rfl, -⟩ := id k
  have b0 : Below w.heap.size w (w.alloc (.cells #[.int .i64 s0, .int .i64 s1] 32)) := (Below.refl _ _).alloc (Nat.le_refl _) _
  have H0 := Lib.hid (h.on b0); have K0 := Lib.hid (k.on b0); have S0 := Lib.hid (Blk.new w 32 #[.int .i64 s0, .int .i64 s1]); have B0 := Lib.hid b0
  clear h k b0
  go_enter Try.func5, Try.ntmps5
  go_upto_region 1 with (fail)
  generalize w.alloc (.cells #[.int .i64 s0, .int .i64 s1] 32) = w0 at *
  by_cases ha : (40 : Int) < a.length
  · go_wp2_with fail
    refine (lives39 _).mono ?_; rintro e w1 ⟨rfl, b1⟩
    go_wp2
    go_ret
    exact ⟨rfl, below_step B0.out b1⟩
  by_cases hb : (40 : Int) < b.length
  · go_wp2_with fail
    refine (lives39 _).mono ?_; rintro e w1 ⟨rfl, b1⟩
    go_wp2
    go_ret
    exact ⟨rfl, below_step B0.out b1⟩
  have HA := Lib.hid (show a.length ≤ 40 by omega)
  have HB := Lib.hid (show b.length ≤ 40 by omega)
  go_wp2_with fail
  refine (seam_merge _ _ _ _ _ H0.out K0.out (by have := HA.out; omega) (by have := HB.out; omega)).mono ?_
  intro e w2 h2
  obtain ⟨b2, q, ⟨X, cx⟩, l, rfl, i2, r2⟩ := mg_res h2
  have H2 := Lib.hid (H0.out.on b2); have K2 := Lib.hid (K0.out.on b2); have S2 := Lib.hid (S0.out.on b2); have I2 := Lib.hid i2; have R2 := Lib.hid r2
  have B2 := Lib.hid (below_step B0.out b2)
  clear H0 K0 S0 B0 b2 h2 i2 r2
  go_wp2_with fail
  refine (rseam_merge _ _ _ _ _ H2.out K2.out (by have := HA.out; omega) (by have := HB.out; omega)).mono ?_
  intro e w3 h3
  obtain ⟨b3, ⟨Y, cy⟩, rfl, i3⟩ := mgr_ref R2.out h3
  have H3 := Lib.hid (H2.out.on b3); have K3 := Lib.hid (K2.out.on b3); have S3 := Lib.hid (S2.out.on b3); have I3 := Lib.hid (I2.out.on b3); have J3 := Lib.hid i3
  have B3 := Lib.hid (below_step B2.out b3)
  have LL := Lib.hid (show l.length ≤ 100000 by have := mgr_len R2.out; have := HA.out; have := HB.out; omega)
  clear H2 K2 S2 B2 I2 b3 h3 i3 R2
  have LA := Lib.hid (show a.length ≤ 1000 by have := HA.out; omega)
  have LC := Lib.hid (show a.length ≤ 100000 by have := HA.out; omega)
  have LD := Lib.hid (show a.length ≤ 1000000 by have := HA.out; omega)
  obtain ⟨so, hso⟩ : ∃ so, If.so none a = so := ⟨_, rfl⟩
  have SO := Lib.hid hso
  clear hso
  obtain ⟨P, hP⟩ : ∃ P, Ss.rof [] (a.map If.sp) = P := ⟨_, rfl⟩
  have QP := Lib.hid hP
  have UP := Lib.hid (show ∀ l, Ss.Rs l → (∀ t, Ss.inl l t = (Ss.inl (a.map If.sp) t || Ss.inl [] t)) → l = P from fun l h1 h2 => by rw [← hP]; exact Ss.rs_ext _ _ h1 (Ss.rof_nil _).1 (fun u => by rw [h2 u, (Ss.rof_nil _).2 u]; simp [Ss.inl]))
  clear hP
  obtain ⟨M, hM⟩ : ∃ M, Ss.rls (Ss.rof [] [(s0, s1)]) P = M := ⟨_, rfl⟩
  have QM := Lib.hid hM
  have UM := Lib.hid (show ∀ l, Ss.Rs l → (∀ t, Ss.inl l t = (Ss.inl [(s0, s1)] t && !Ss.inl (a.map If.sp) t)) → l = M from fun l h1 h2 => by
    rw [← hM]; exact Ss.rs_ext _ _ h1 (Ss.rls_set P _ (Ss.rof_nil [(s0, s1)]).1).1 (fun u => by rw [h2 u, (Ss.rls_set P _ (Ss.rof_nil [(s0, s1)]).1).2 u, (Ss.rof_nil [(s0, s1)]).2, ← QP.out, (Ss.rof_nil (a.map If.sp)).2]))
  clear hM
  obtain ⟨C, hC0⟩ : ∃ C, If.ct s0 s1 a = C := ⟨_, rfl⟩
  have QC := Lib.hid hC0
  clear hC0
  have MX := Lib.hid (show P.length ≤ maxLen ∧ M.length ≤ maxLen ∧ C.length ≤ 100000 from by
    refine ⟨?_, ?_, ?_⟩
    · unfold maxLen; rw [← QP.out]; have := Ss.rof_len (a.map If.sp); rw [List.length_map] at this; have := HA.out; omega
    · unfold maxLen; have h1 : P.length ≤ 40 := by rw [← QP.out]; have := Ss.rof_len (a.map If.sp); rw [List.length_map] at this; have := HA.out; omega
      rw [← QM.out]
      have h2 := rls_len39 P _ (Ss.rof_nil [(s0, s1)]).1
      have h3 := Ss.rof_len [(s0, s1)]
      rw [List.length_singleton] at h3; omega
    · rw [← QC.out]; have := If.ct_len s0 s1 a; have := HA.out; omega)
  go_upto_region 5 with (fail)
  have CC := Lib.hid (show (fun W => Below w.heap.size w W ∧ InV W (.slice A a.length c) a ∧ InV W (.slice B b.length d) b ∧ InV W (.slice X l.length cx) l ∧ InV W (.slice Y l.length cy) l ∧ W.cell? ⟨w.heap.size, 0, none⟩ = some (.int .i64 s0) ∧ W.cell? ⟨w.heap.size, 1, none⟩ = some (.int .i64 s1)) w3 from ⟨B3.out, H3.out, K3.out, I3.out, J3.out, S3.out.c0, S3.out.c1⟩)
  clear B3 H3 K3 I3 J3 S3
  refine wp_region_pairs (C := fun W => Below w.heap.size w W ∧ InV W (.slice A a.length c) a ∧ InV W (.slice B b.length d) b ∧ InV W (.slice X l.length cx) l ∧ InV W (.slice Y l.length cy) l ∧ W.cell? ⟨w.heap.size, 0, none⟩ = some (.int .i64 s0) ∧ W.cell? ⟨w.heap.size, 1, none⟩ = some (.int .i64 s1)) (R := markR [(fun v _ => v = Value.slice X l.length cx), (fun v _ => v = Value.slice Y l.length cy), (fun v _ => v = Value.bool true), (fun v _ => v = Value.bool true), (fun v _ => v = Value.int IntKind.i64 q), (fun v _ => v = Value.int IntKind.i64 q), (fun v _ => v = Value.bool true), (fun v _ => v = Value.bool true), (fun v _ => v = Value.bool true), (fun v _ => v = Value.slice A a.length c), (fun v _ => v = Value.bool so), (fun v _ => v = Value.slice A a.length c), (fun v _ => v = Value.bool so), (fun v _ => v = Value.bool true), (fun v _ => v = Value.bool true), (fun v _ => v = Value.bool true), (fun v _ => v = Value.slice A a.length c), (fun v W => ∃ u : Option Addr × Nat, v = .slice u.1 P.length u.2 ∧ SpV W (.slice u.1 P.length u.2) P), (fun v _ => v = Value.slice A a.length c), (fun v W => ∃ u : Option Addr × Nat, v = .slice u.1 P.length u.2 ∧ SpV W (.slice u.1 P.length u.2) P), (fun v _ => v = Value.bool true), (fun v _ => v = Value.bool true), (fun v _ => v = Value.bool true), (fun v _ => v = Value.slice A a.length c), (fun v _ => v = Value.agg #[Value.int IntKind.i64 s0, Value.int IntKind.i64 s1]), (fun v W => ∃ u : Option Addr × Nat, v = .slice u.1 M.length u.2 ∧ SpV W (.slice u.1 M.length u.2) M), (fun v _ => v = Value.slice A a.length c), (fun v _ => v = Value.agg #[Value.int IntKind.i64 s0, Value.int IntKind.i64 s1]), (fun v W => ∃ u : Option Addr × Nat, v = .slice u.1 M.length u.2 ∧ SpV W (.slice u.1 M.length u.2) M), (fun v _ => v = Value.bool true), (fun v _ => v = Value.bool true), (fun v _ => v = Value.bool true), (fun v _ => v = Value.slice A a.length c), (fun v _ => v = Value.agg #[Value.int IntKind.i64 s0, Value.int IntKind.i64 s1]), (fun v W => ∃ u : Option Addr × Nat, v = .slice u.1 C.length u.2 ∧ InV W (.slice u.1 C.length u.2) C), (fun v _ => v = Value.slice A a.length c), (fun v _ => v = Value.agg #[Value.int IntKind.i64 s0, Value.int IntKind.i64 s1]), (fun v W => ∃ u : Option Addr × Nat, v = .slice u.1 C.length u.2 ∧ InV W (.slice u.1 C.length u.2) C), (fun v _ => v = Value.bool true), (fun v _ => v = Value.bool true), (fun v _ => v = Value.bool true), (fun v _ => v = Value.bool true), (fun v _ => v = Value.bool true), (fun v _ => v = Value.bool true)]) (G := fun W W' => Below W.heap.size W W') (by rfl) ?hbeg ⟨by kernel_rfl, by kernel_rfl, by kernel_rfl, ?hkeep, ?hstab, Obs.all ?hobs, ?hlast⟩
  case hbeg =>
    try dsimp only
    exact keepST ((Below.refl _ _).drew) CC.out
  case hkeep =>
    intro w' w'' hC hG
    try dsimp only at hC hG ⊢
    exact keepST hG hC
  case hstab =>
    refine StableL.all ?_
    repeat (first | exact trivial | refine ⟨(by first | exact (fun _ _ _ _ h => h) | (exact fun v W W' hG h => by obtain ⟨u, hv, hs⟩ := h; exact ⟨u, hv, hs.on hG⟩)), ?_⟩)
  case hobs =>
    refine Obs.cons (k' := 1) rfl ?_ ?_
    · intro fa W hW hSame hRR KK hKK
      try dsimp only at hW
      have fb7 := hSame.base 7 (by kernel_rfl)
      simp only [List.getElem?_toArray, List.getElem?_cons_succ, List.getElem?_cons_zero] at fb7
      replace hKK : ∀ v w', Go.RowKit.Below W.heap.size W w' → v = Value.slice X l.length cx → KK (Act.put fa _ v) w' := fun v w' h1 h2 => hKK v w' h1 h2
      clear hSame hRR
      rw [if_pos (wanted_plain rfl)]
      go_simp
      refine hKK _ _ ?_ ?_
      · first | exact Below.refl _ _ | exact (Below.refl _ _).alloc (Nat.le_refl _) _ | exact below_draw _ _ | assumption
      · exact rfl
    refine Obs.cons (k' := 2) rfl ?_ ?_
    · intro fa W hW hSame hRR KK hKK
      try dsimp only at hW
      have fb9 := hSame.base 9 (by kernel_rfl)
      simp only [List.getElem?_toArray, List.getElem?_cons_succ, List.getElem?_cons_zero] at fb9
      replace hKK : ∀ v w', Go.RowKit.Below W.heap.size W w' → v = Value.slice Y l.length cy → KK (Act.put fa _ v) w' := fun v w' h1 h2 => hKK v w' h1 h2
      clear hSame hRR
      rw [if_pos (wanted_plain rfl)]
      go_simp
      refine hKK _ _ ?_ ?_
      · first | exact Below.refl _ _ | exact (Below.refl _ _).alloc (Nat.le_refl _) _ | exact below_draw _ _ | assumption
      · exact rfl
    refine Obs.cons (k' := 3) rfl ?_ ?_
    · intro fa W hW hSame hRR KK hKK
      try dsimp only at hW
      obtain ⟨fv0, ft0, fm0⟩ := hRR 0 _ 32 rfl rfl (by kernel_rfl)
      replace fm0 : fv0 = Value.slice X l.length cx := fm0
      subst fm0
      obtain ⟨fv1, ft1, fm1⟩ := hRR 1 _ 33 rfl rfl (by kernel_rfl)
      replace fm1 : fv1 = Value.slice Y l.length cy := fm1
      subst fm1
      replace hKK : ∀ v w', Go.RowKit.Below W.heap.size W w' → v = Value.bool true → KK (Act.put fa _ v) w' := fun v w' h1 h2 => hKK v w' h1 h2
      clear hSame hRR
      rw [if_pos (wanted_plain rfl)]
      go_simp
      first
          | (go_at_call 25; refine (seam_sound _ a _ hW.2.1 LD.out).mono ?_; rintro e w' ⟨rfl, hb⟩; rw [SO.out])
          | (go_at_call 26; refine (rseam_sound _ a _ hW.2.1 LD.out).mono ?_; rintro e w' ⟨rfl, hb⟩; rw [SO.out])
          | (go_at_call 22; refine (lives39 _).mono ?_; rintro e w' ⟨rfl, hb⟩)
          | (go_at_call 28; refine (seam_patches _ a _ hW.2.1 LA.out).mono ?_; rintro e w' ⟨v, l', rfl, hv, h2, h3, h4, hb⟩; obtain rfl := UP.out l' h2 h3; obtain ⟨A', c', rfl, -⟩ := id hv)
          | (go_at_call 29; refine (rpatches _ a _ hW.2.1 LC.out).mono ?_; rintro e w' ⟨v, hv, rfl, hb⟩; rw [QP.out] at hv; obtain ⟨A', c', rfl, -⟩ := id hv)
          | (go_at_call 30; refine (seam_missing _ a s0 s1 _ hW.2.1 LA.out).mono ?_; rintro e w' ⟨v, l', rfl, hv, h2, h3, h4, hb⟩; obtain rfl := UM.out l' h2 h3; obtain ⟨A', c', rfl, -⟩ := id hv)
          | (go_at_call 31; refine (rmissing _ a s0 s1 _ hW.2.1 LA.out).mono ?_; rintro e w' ⟨v, hv, rfl, hb⟩; rw [QP.out, QM.out] at hv; obtain ⟨A', c', rfl, -⟩ := id hv)
          | (go_at_call 32; refine (seam_cut _ a s0 s1 _ hW.2.1 LC.out).mono ?_; rintro e w' ⟨v, hv, rfl, hb⟩; rw [QC.out] at hv; obtain ⟨A', c', rfl, -⟩ := id hv)
          | (go_at_call 33; refine (noontideref39_cut _ a s0 s1 _ hW.2.1 LC.out).mono ?_; rintro e w' ⟨v, hv, rfl, hb⟩; rw [QC.out] at hv; obtain ⟨A', c', rfl, -⟩ := id hv)
          | (go_at_call 27; first
              | ((with_reducible refine (same_yes _ _ P _ fm17 fm19 MX.out.1).mono ?_); rintro e w' ⟨rfl, nn, rfl⟩)
              | ((with_reducible refine (same_yes _ _ M _ fm25 fm28 MX.out.2.1).mono ?_); rintro e w' ⟨rfl, nn, rfl⟩))
          | (go_at_call 20; first
              | ((with_reducible refine (if_same _ _ l _ hW.2.2.2.1 hW.2.2.2.2.1 LL.out).mono ?_); rintro e w' ⟨rfl, nn, rfl⟩)
              | ((with_reducible refine (if_same _ _ C _ fm34 fm37 MX.out.2.2).mono ?_); rintro e w' ⟨rfl, nn, rfl⟩))
      try dsimp only
      refine hKK _ _ ?_ ?_
      · first | exact Below.refl _ _ | exact (Below.refl _ _).alloc (Nat.le_refl _) _ | exact below_draw _ _ | assumption
      · exact rfl
    refine Obs.cons (k' := 4) rfl ?_ ?_
    · intro fa W hW hSame hRR KK hKK
      try dsimp only at hW
      obtain ⟨fv2, ft2, fm2⟩ := hRR 2 _ 34 rfl rfl (by kernel_rfl)
      replace fm2 : fv2 = Value.bool true := fm2
      subst fm2
      replace hKK : ∀ v w', Go.RowKit.Below W.heap.size W w' → v = Value.bool true → KK (Act.put fa _ v) w' := fun v w' h1 h2 => hKK v w' h1 h2
      clear hSame hRR
      rw [if_pos (wanted_plain rfl)]
      go_simp
      refine hKK _ _ ?_ ?_
      · first | exact Below.refl _ _ | exact (Below.refl _ _).alloc (Nat.le_refl _) _ | exact below_draw _ _ | assumption
      · exact rfl
    refine Obs.cons (k' := 5) rfl ?_ ?_
    · intro fa W hW hSame hRR KK hKK
      try dsimp only at hW
      obtain ⟨fv3, ft3, fm3⟩ := hRR 3 _ 35 rfl rfl (by kernel_rfl)
      replace fm3 : fv3 = Value.bool true := fm3
      subst fm3
      have fb8 := hSame.base 8 (by kernel_rfl)
      simp only [List.getElem?_toArray, List.getElem?_cons_succ, List.getElem?_cons_zero] at fb8
      replace hKK : ∀ v w', Go.RowKit.Below W.heap.size W w' → v = Value.int IntKind.i64 q → KK (Act.put fa _ v) w' := fun v w' h1 h2 => hKK v w' h1 h2
      clear hSame hRR
      rw [wanted_guard rfl rfl rfl ft3]
      first | rw [if_pos (by rfl)] | rw [if_neg (by decide)]
      go_simp
      refine hKK _ _ ?_ ?_
      · first | exact Below.refl _ _ | exact (Below.refl _ _).alloc (Nat.le_refl _) _ | exact below_draw _ _ | assumption
      · exact rfl
    refine Obs.cons (k' := 6) rfl ?_ ?_
    · intro fa W hW hSame hRR KK hKK
      try dsimp only at hW
      obtain ⟨fv3, ft3, fm3⟩ := hRR 3 _ 35 rfl rfl (by kernel_rfl)
      replace fm3 : fv3 = Value.bool true := fm3
      subst fm3
      have fb10 := hSame.base 10 (by kernel_rfl)
      simp only [List.getElem?_toArray, List.getElem?_cons_succ, List.getElem?_cons_zero] at fb10
      replace hKK : ∀ v w', Go.RowKit.Below W.heap.size W w' → v = Value.int IntKind.i64 q → KK (Act.put fa _ v) w' := fun v w' h1 h2 => hKK v w' h1 h2
      clear hSame hRR
      rw [wanted_guard rfl rfl rfl ft3]
      first | rw [if_pos (by rfl)] | rw [if_neg (by decide)]
      go_simp
      refine hKK _ _ ?_ ?_
      · first | exact Below.refl _ _ | exact (Below.refl _ _).alloc (Nat.le_refl _) _ | exact below_draw _ _ | assumption
      · exact rfl
    refine Obs.cons (k' := 7) rfl ?_ ?_
    · intro fa W hW hSame hRR KK hKK
      try dsimp only at hW
      obtain ⟨fv4, ft4, fm4⟩ := hRR 4 _ 36 rfl rfl (by kernel_rfl)
      replace fm4 : fv4 = Value.int IntKind.i64 q := fm4
      subst fm4
      obtain ⟨fv5, ft5, fm5⟩ := hRR 5 _ 37 rfl rfl (by kernel_rfl)
      replace fm5 : fv5 = Value.int IntKind.i64 q := fm5
      subst fm5
      obtain ⟨fv3, ft3, fm3⟩ := hRR 3 _ 35 rfl rfl (by kernel_rfl)
      replace fm3 : fv3 = Value.bool true := fm3
      subst fm3
      replace hKK : ∀ v w', Go.RowKit.Below W.heap.size W w' → v = Value.bool true → KK (Act.put fa _ v) w' := fun v w' h1 h2 => hKK v w' h1 h2
      clear hSame hRR
      rw [wanted_guard rfl rfl rfl ft3]
      first | rw [if_pos (by rfl)] | rw [if_neg (by decide)]
      go_simp
      refine hKK _ _ ?_ ?_
      · first | exact Below.refl _ _ | exact (Below.refl _ _).alloc (Nat.le_refl _) _ | exact below_draw _ _ | assumption
      · exact rfl
    refine Obs.cons (k' := 8) rfl ?_ ?_
    · intro fa W hW hSame hRR KK hKK
      try dsimp only at hW
      obtain ⟨fv3, ft3, fm3⟩ := hRR 3 _ 35 rfl rfl (by kernel_rfl)
      replace fm3 : fv3 = Value.bool true := fm3
      subst fm3
      obtain ⟨fv6, ft6, fm6⟩ := hRR 6 _ 38 rfl rfl (by kernel_rfl)
      replace fm6 : fv6 = Value.bool true := fm6
      subst fm6
      replace hKK : ∀ v w', Go.RowKit.Below W.heap.size W w' → v = Value.bool true → KK (Act.put fa _ v) w' := fun v w' h1 h2 => hKK v w' h1 h2
      clear hSame hRR
      rw [if_pos (wanted_plain rfl)]
      go_simp
      refine hKK _ _ ?_ ?_
      · first | exact Below.refl _ _ | exact (Below.refl _ _).alloc (Nat.le_refl _) _ | exact below_draw _ _ | assumption
      · exact rfl
    refine Obs.cons (k' := 9) rfl ?_ ?_
    · intro fa W hW hSame hRR KK hKK
      try dsimp only at hW
      obtain ⟨fv7, ft7, fm7⟩ := hRR 7 _ 39 rfl rfl (by kernel_rfl)
      replace fm7 : fv7 = Value.bool true := fm7
      subst fm7
      replace hKK : ∀ v w', Go.RowKit.Below W.heap.size W w' → v = Value.bool true → KK (Act.put fa _ v) w' := fun v w' h1 h2 => hKK v w' h1 h2
      clear hSame hRR
      rw [if_pos (wanted_plain rfl)]
      go_simp
      refine hKK _ _ ?_ ?_
      · first | exact Below.refl _ _ | exact (Below.refl _ _).alloc (Nat.le_refl _) _ | exact below_draw _ _ | assumption
      · exact rfl
    refine Obs.cons (k' := 10) rfl ?_ ?_
    · intro fa W hW hSame hRR KK hKK
      try dsimp only at hW
      obtain ⟨fv8, ft8, fm8⟩ := hRR 8 _ 40 rfl rfl (by kernel_rfl)
      replace fm8 : fv8 = Value.bool true := fm8
      subst fm8
      have fb0 := hSame.base 0 (by kernel_rfl)
      simp only [List.getElem?_toArray, List.getElem?_cons_succ, List.getElem?_cons_zero] at fb0
      replace hKK : ∀ v w', Go.RowKit.Below W.heap.size W w' → v = Value.slice A a.length c → KK (Act.put fa _ v) w' := fun v w' h1 h2 => hKK v w' h1 h2
      clear hSame hRR
      rw [wanted_guard rfl rfl rfl ft8]
      first | rw [if_pos (by rfl)] | rw [if_neg (by decide)]
      go_simp
      refine hKK _ _ ?_ ?_
      · first | exact Below.refl _ _ | exact (Below.refl _ _).alloc (Nat.le_refl _) _ | exact below_draw _ _ | assumption
      · exact rfl
    refine Obs.cons (k' := 11) rfl ?_ ?_
    · intro fa W hW hSame hRR KK hKK
      try dsimp only at hW
      obtain ⟨fv9, ft9, fm9⟩ := hRR 9 _ 41 rfl rfl (by kernel_rfl)
      replace fm9 : fv9 = Value.slice A a.length c := fm9
      subst fm9
      obtain ⟨fv8, ft8, fm8⟩ := hRR 8 _ 40 rfl rfl (by kernel_rfl)
      replace fm8 : fv8 = Value.bool true := fm8
      subst fm8
      replace hKK : ∀ v w', Go.RowKit.Below W.heap.size W w' → v = Value.bool so → KK (Act.put fa _ v) w' := fun v w' h1 h2 => hKK v w' h1 h2
      clear hSame hRR
      rw [wanted_guard rfl rfl rfl ft8]
      first | rw [if_pos (by rfl)] | rw [if_neg (by decide)]
      go_simp
      first
          | (go_at_call 25; refine (seam_sound _ a _ hW.2.1 LD.out).mono ?_; rintro e w' ⟨rfl, hb⟩; rw [SO.out])
          | (go_at_call 26; refine (rseam_sound _ a _ hW.2.1 LD.out).mono ?_; rintro e w' ⟨rfl, hb⟩; rw [SO.out])
          | (go_at_call 22; refine (lives39 _).mono ?_; rintro e w' ⟨rfl, hb⟩)
          | (go_at_call 28; refine (seam_patches _ a _ hW.2.1 LA.out).mono ?_; rintro e w' ⟨v, l', rfl, hv, h2, h3, h4, hb⟩; obtain rfl := UP.out l' h2 h3; obtain ⟨A', c', rfl, -⟩ := id hv)
          | (go_at_call 29; refine (rpatches _ a _ hW.2.1 LC.out).mono ?_; rintro e w' ⟨v, hv, rfl, hb⟩; rw [QP.out] at hv; obtain ⟨A', c', rfl, -⟩ := id hv)
          | (go_at_call 30; refine (seam_missing _ a s0 s1 _ hW.2.1 LA.out).mono ?_; rintro e w' ⟨v, l', rfl, hv, h2, h3, h4, hb⟩; obtain rfl := UM.out l' h2 h3; obtain ⟨A', c', rfl, -⟩ := id hv)
          | (go_at_call 31; refine (rmissing _ a s0 s1 _ hW.2.1 LA.out).mono ?_; rintro e w' ⟨v, hv, rfl, hb⟩; rw [QP.out, QM.out] at hv; obtain ⟨A', c', rfl, -⟩ := id hv)
          | (go_at_call 32; refine (seam_cut _ a s0 s1 _ hW.2.1 LC.out).mono ?_; rintro e w' ⟨v, hv, rfl, hb⟩; rw [QC.out] at hv; obtain ⟨A', c', rfl, -⟩ := id hv)
          | (go_at_call 33; refine (noontideref39_cut _ a s0 s1 _ hW.2.1 LC.out).mono ?_; rintro e w' ⟨v, hv, rfl, hb⟩; rw [QC.out] at hv; obtain ⟨A', c', rfl, -⟩ := id hv)
          | (go_at_call 27; first
              | ((with_reducible refine (same_yes _ _ P _ fm17 fm19 MX.out.1).mono ?_); rintro e w' ⟨rfl, nn, rfl⟩)
              | ((with_reducible refine (same_yes _ _ M _ fm25 fm28 MX.out.2.1).mono ?_); rintro e w' ⟨rfl, nn, rfl⟩))
          | (go_at_call 20; first
              | ((with_reducible refine (if_same _ _ l _ hW.2.2.2.1 hW.2.2.2.2.1 LL.out).mono ?_); rintro e w' ⟨rfl, nn, rfl⟩)
              | ((with_reducible refine (if_same _ _ C _ fm34 fm37 MX.out.2.2).mono ?_); rintro e w' ⟨rfl, nn, rfl⟩))
      try dsimp only
      refine hKK _ _ ?_ ?_
      · first | exact Below.refl _ _ | exact (Below.refl _ _).alloc (Nat.le_refl _) _ | exact below_draw _ _ | assumption
      · exact rfl
    refine Obs.cons (k' := 12) rfl ?_ ?_
    · intro fa W hW hSame hRR KK hKK
      try dsimp only at hW
      obtain ⟨fv8, ft8, fm8⟩ := hRR 8 _ 40 rfl rfl (by kernel_rfl)
      replace fm8 : fv8 = Value.bool true := fm8
      subst fm8
      have fb0 := hSame.base 0 (by kernel_rfl)
      simp only [List.getElem?_toArray, List.getElem?_cons_succ, List.getElem?_cons_zero] at fb0
      replace hKK : ∀ v w', Go.RowKit.Below W.heap.size W w' → v = Value.slice A a.length c → KK (Act.put fa _ v) w' := fun v w' h1 h2 => hKK v w' h1 h2
      clear hSame hRR
      rw [wanted_guard rfl rfl rfl ft8]
      first | rw [if_pos (by rfl)] | rw [if_neg (by decide)]
      go_simp
      refine hKK _ _ ?_ ?_
      · first | exact Below.refl _ _ | exact (Below.refl _ _).alloc (Nat.le_refl _) _ | exact below_draw _ _ | assumption
      · exact rfl
    refine Obs.cons (k' := 13) rfl ?_ ?_
    · intro fa W hW hSame hRR KK hKK
      try dsimp only at hW
      obtain ⟨fv11, ft11, fm11⟩ := hRR 11 _ 43 rfl rfl (by kernel_rfl)
      replace fm11 : fv11 = Value.slice A a.length c := fm11
      subst fm11
      obtain ⟨fv8, ft8, fm8⟩ := hRR 8 _ 40 rfl rfl (by kernel_rfl)
      replace fm8 : fv8 = Value.bool true := fm8
      subst fm8
      replace hKK : ∀ v w', Go.RowKit.Below W.heap.size W w' → v = Value.bool so → KK (Act.put fa _ v) w' := fun v w' h1 h2 => hKK v w' h1 h2
      clear hSame hRR
      rw [wanted_guard rfl rfl rfl ft8]
      first | rw [if_pos (by rfl)] | rw [if_neg (by decide)]
      go_simp
      first
          | (go_at_call 25; refine (seam_sound _ a _ hW.2.1 LD.out).mono ?_; rintro e w' ⟨rfl, hb⟩; rw [SO.out])
          | (go_at_call 26; refine (rseam_sound _ a _ hW.2.1 LD.out).mono ?_; rintro e w' ⟨rfl, hb⟩; rw [SO.out])
          | (go_at_call 22; refine (lives39 _).mono ?_; rintro e w' ⟨rfl, hb⟩)
          | (go_at_call 28; refine (seam_patches _ a _ hW.2.1 LA.out).mono ?_; rintro e w' ⟨v, l', rfl, hv, h2, h3, h4, hb⟩; obtain rfl := UP.out l' h2 h3; obtain ⟨A', c', rfl, -⟩ := id hv)
          | (go_at_call 29; refine (rpatches _ a _ hW.2.1 LC.out).mono ?_; rintro e w' ⟨v, hv, rfl, hb⟩; rw [QP.out] at hv; obtain ⟨A', c', rfl, -⟩ := id hv)
          | (go_at_call 30; refine (seam_missing _ a s0 s1 _ hW.2.1 LA.out).mono ?_; rintro e w' ⟨v, l', rfl, hv, h2, h3, h4, hb⟩; obtain rfl := UM.out l' h2 h3; obtain ⟨A', c', rfl, -⟩ := id hv)
          | (go_at_call 31; refine (rmissing _ a s0 s1 _ hW.2.1 LA.out).mono ?_; rintro e w' ⟨v, hv, rfl, hb⟩; rw [QP.out, QM.out] at hv; obtain ⟨A', c', rfl, -⟩ := id hv)
          | (go_at_call 32; refine (seam_cut _ a s0 s1 _ hW.2.1 LC.out).mono ?_; rintro e w' ⟨v, hv, rfl, hb⟩; rw [QC.out] at hv; obtain ⟨A', c', rfl, -⟩ := id hv)
          | (go_at_call 33; refine (noontideref39_cut _ a s0 s1 _ hW.2.1 LC.out).mono ?_; rintro e w' ⟨v, hv, rfl, hb⟩; rw [QC.out] at hv; obtain ⟨A', c', rfl, -⟩ := id hv)
          | (go_at_call 27; first
              | ((with_reducible refine (same_yes _ _ P _ fm17 fm19 MX.out.1).mono ?_); rintro e w' ⟨rfl, nn, rfl⟩)
              | ((with_reducible refine (same_yes _ _ M _ fm25 fm28 MX.out.2.1).mono ?_); rintro e w' ⟨rfl, nn, rfl⟩))
          | (go_at_call 20; first
              | ((with_reducible refine (if_same _ _ l _ hW.2.2.2.1 hW.2.2.2.2.1 LL.out).mono ?_); rintro e w' ⟨rfl, nn, rfl⟩)
              | ((with_reducible refine (if_same _ _ C _ fm34 fm37 MX.out.2.2).mono ?_); rintro e w' ⟨rfl, nn, rfl⟩))
      try dsimp only
      refine hKK _ _ ?_ ?_
      · first | exact Below.refl _ _ | exact (Below.refl _ _).alloc (Nat.le_refl _) _ | exact below_draw _ _ | assumption
      · exact rfl
    refine Obs.cons (k' := 14) rfl ?_ ?_
    · intro fa W hW hSame hRR KK hKK
      try dsimp only at hW
      obtain ⟨fv10, ft10, fm10⟩ := hRR 10 _ 42 rfl rfl (by kernel_rfl)
      replace fm10 : fv10 = Value.bool so := fm10
      subst fm10
      obtain ⟨fv12, ft12, fm12⟩ := hRR 12 _ 44 rfl rfl (by kernel_rfl)
      replace fm12 : fv12 = Value.bool so := fm12
      subst fm12
      obtain ⟨fv8, ft8, fm8⟩ := hRR 8 _ 40 rfl rfl (by kernel_rfl)
      replace fm8 : fv8 = Value.bool true := fm8
      subst fm8
      replace hKK : ∀ v w', Go.RowKit.Below W.heap.size W w' → v = Value.bool true → KK (Act.put fa _ v) w' := fun v w' h1 h2 => hKK v w' h1 h2
      clear hSame hRR
      rw [wanted_guard rfl rfl rfl ft8]
      first | rw [if_pos (by rfl)] | rw [if_neg (by decide)]
      go_simp
      refine hKK _ _ ?_ ?_
      · first | exact Below.refl _ _ | exact (Below.refl _ _).alloc (Nat.le_refl _) _ | exact below_draw _ _ | assumption
      · exact rfl
    refine Obs.cons (k' := 15) rfl ?_ ?_
    · intro fa W hW hSame hRR KK hKK
      try dsimp only at hW
      obtain ⟨fv8, ft8, fm8⟩ := hRR 8 _ 40 rfl rfl (by kernel_rfl)
      replace fm8 : fv8 = Value.bool true := fm8
      subst fm8
      obtain ⟨fv13, ft13, fm13⟩ := hRR 13 _ 45 rfl rfl (by kernel_rfl)
      replace fm13 : fv13 = Value.bool true := fm13
      subst fm13
      replace hKK : ∀ v w', Go.RowKit.Below W.heap.size W w' → v = Value.bool true → KK (Act.put fa _ v) w' := fun v w' h1 h2 => hKK v w' h1 h2
      clear hSame hRR
      rw [if_pos (wanted_plain rfl)]
      go_simp
      refine hKK _ _ ?_ ?_
      · first | exact Below.refl _ _ | exact (Below.refl _ _).alloc (Nat.le_refl _) _ | exact below_draw _ _ | assumption
      · exact rfl
    refine Obs.cons (k' := 16) rfl ?_ ?_
    · intro fa W hW hSame hRR KK hKK
      try dsimp only at hW
      obtain ⟨fv14, ft14, fm14⟩ := hRR 14 _ 46 rfl rfl (by kernel_rfl)
      replace fm14 : fv14 = Value.bool true := fm14
      subst fm14
      replace hKK : ∀ v w', Go.RowKit.Below W.heap.size W w' → v = Value.bool true → KK (Act.put fa _ v) w' := fun v w' h1 h2 => hKK v w' h1 h2
      clear hSame hRR
      rw [if_pos (wanted_plain rfl)]
      go_simp
      refine hKK _ _ ?_ ?_
      · first | exact Below.refl _ _ | exact (Below.refl _ _).alloc (Nat.le_refl _) _ | exact below_draw _ _ | assumption
      · exact rfl
    refine Obs.cons (k' := 17) rfl ?_ ?_
    · intro fa W hW hSame hRR KK hKK
      try dsimp only at hW
      obtain ⟨fv15, ft15, fm15⟩ := hRR 15 _ 47 rfl rfl (by kernel_rfl)
      replace fm15 : fv15 = Value.bool true := fm15
      subst fm15
      have fb0 := hSame.base 0 (by kernel_rfl)
      simp only [List.getElem?_toArray, List.getElem?_cons_succ, List.getElem?_cons_zero] at fb0
      replace hKK : ∀ v w', Go.RowKit.Below W.heap.size W w' → v = Value.slice A a.length c → KK (Act.put fa _ v) w' := fun v w' h1 h2 => hKK v w' h1 h2
      clear hSame hRR
      rw [wanted_guard rfl rfl rfl ft15]
      first | rw [if_pos (by rfl)] | rw [if_neg (by decide)]
      go_simp
      refine hKK _ _ ?_ ?_
      · first | exact Below.refl _ _ | exact (Below.refl _ _).alloc (Nat.le_refl _) _ | exact below_draw _ _ | assumption
      · exact rfl
    refine Obs.cons (k' := 18) rfl ?_ ?_
    · intro fa W hW hSame hRR KK hKK
      try dsimp only at hW
      obtain ⟨fv16, ft16, fm16⟩ := hRR 16 _ 48 rfl rfl (by kernel_rfl)
      replace fm16 : fv16 = Value.slice A a.length c := fm16
      subst fm16
      obtain ⟨fv15, ft15, fm15⟩ := hRR 15 _ 47 rfl rfl (by kernel_rfl)
      replace fm15 : fv15 = Value.bool true := fm15
      subst fm15
      replace hKK : ∀ v w', Go.RowKit.Below W.heap.size W w' → (fun v W => ∃ u : Option Addr × Nat, v = .slice u.1 P.length u.2 ∧ SpV W (.slice u.1 P.length u.2) P) v w' → KK (Act.put fa _ v) w' := fun v w' h1 h2 => hKK v w' h1 h2
      clear hSame hRR
      rw [wanted_guard rfl rfl rfl ft15]
      first | rw [if_pos (by rfl)] | rw [if_neg (by decide)]
      go_simp
      first
          | (go_at_call 25; refine (seam_sound _ a _ hW.2.1 LD.out).mono ?_; rintro e w' ⟨rfl, hb⟩; rw [SO.out])
          | (go_at_call 26; refine (rseam_sound _ a _ hW.2.1 LD.out).mono ?_; rintro e w' ⟨rfl, hb⟩; rw [SO.out])
          | (go_at_call 22; refine (lives39 _).mono ?_; rintro e w' ⟨rfl, hb⟩)
          | (go_at_call 28; refine (seam_patches _ a _ hW.2.1 LA.out).mono ?_; rintro e w' ⟨v, l', rfl, hv, h2, h3, h4, hb⟩; obtain rfl := UP.out l' h2 h3; obtain ⟨A', c', rfl, -⟩ := id hv)
          | (go_at_call 29; refine (rpatches _ a _ hW.2.1 LC.out).mono ?_; rintro e w' ⟨v, hv, rfl, hb⟩; rw [QP.out] at hv; obtain ⟨A', c', rfl, -⟩ := id hv)
          | (go_at_call 30; refine (seam_missing _ a s0 s1 _ hW.2.1 LA.out).mono ?_; rintro e w' ⟨v, l', rfl, hv, h2, h3, h4, hb⟩; obtain rfl := UM.out l' h2 h3; obtain ⟨A', c', rfl, -⟩ := id hv)
          | (go_at_call 31; refine (rmissing _ a s0 s1 _ hW.2.1 LA.out).mono ?_; rintro e w' ⟨v, hv, rfl, hb⟩; rw [QP.out, QM.out] at hv; obtain ⟨A', c', rfl, -⟩ := id hv)
          | (go_at_call 32; refine (seam_cut _ a s0 s1 _ hW.2.1 LC.out).mono ?_; rintro e w' ⟨v, hv, rfl, hb⟩; rw [QC.out] at hv; obtain ⟨A', c', rfl, -⟩ := id hv)
          | (go_at_call 33; refine (noontideref39_cut _ a s0 s1 _ hW.2.1 LC.out).mono ?_; rintro e w' ⟨v, hv, rfl, hb⟩; rw [QC.out] at hv; obtain ⟨A', c', rfl, -⟩ := id hv)
          | (go_at_call 27; first
              | ((with_reducible refine (same_yes _ _ P _ fm17 fm19 MX.out.1).mono ?_); rintro e w' ⟨rfl, nn, rfl⟩)
              | ((with_reducible refine (same_yes _ _ M _ fm25 fm28 MX.out.2.1).mono ?_); rintro e w' ⟨rfl, nn, rfl⟩))
          | (go_at_call 20; first
              | ((with_reducible refine (if_same _ _ l _ hW.2.2.2.1 hW.2.2.2.2.1 LL.out).mono ?_); rintro e w' ⟨rfl, nn, rfl⟩)
              | ((with_reducible refine (if_same _ _ C _ fm34 fm37 MX.out.2.2).mono ?_); rintro e w' ⟨rfl, nn, rfl⟩))
      try dsimp only
      refine hKK _ _ ?_ ?_
      · first | exact Below.refl _ _ | exact (Below.refl _ _).alloc (Nat.le_refl _) _ | exact below_draw _ _ | assumption
      · try dsimp only
        first | exact trivial | exact rfl | (first | exact ⟨(_, _), rfl, hv⟩)
    refine Obs.cons (k' := 19) rfl ?_ ?_
    · intro fa W hW hSame hRR KK hKK
      try dsimp only at hW
      obtain ⟨fv15, ft15, fm15⟩ := hRR 15 _ 47 rfl rfl (by kernel_rfl)
      replace fm15 : fv15 = Value.bool true := fm15
      subst fm15
      have fb0 := hSame.base 0 (by kernel_rfl)
      simp only [List.getElem?_toArray, List.getElem?_cons_succ, List.getElem?_cons_zero] at fb0
      replace hKK : ∀ v w', Go.RowKit.Below W.heap.size W w' → v = Value.slice A a.length c → KK (Act.put fa _ v) w' := fun v w' h1 h2 => hKK v w' h1 h2
      clear hSame hRR
      rw [wanted_guard rfl rfl rfl ft15]
      first | rw [if_pos (by rfl)] | rw [if_neg (by decide)]
      go_simp
      refine hKK _ _ ?_ ?_
      · first | exact Below.refl _ _ | exact (Below.refl _ _).alloc (Nat.le_refl _) _ | exact below_draw _ _ | assumption
      · exact rfl
    refine Obs.cons (k' := 20) rfl ?_ ?_
    · intro fa W hW hSame hRR KK hKK
      try dsimp only at hW
      obtain ⟨fv18, ft18, fm18⟩ := hRR 18 _ 50 rfl rfl (by kernel_rfl)
      replace fm18 : fv18 = Value.slice A a.length c := fm18
      subst fm18
      obtain ⟨fv15, ft15, fm15⟩ := hRR 15 _ 47 rfl rfl (by kernel_rfl)
      replace fm15 : fv15 = Value.bool true := fm15
      subst fm15
      replace hKK : ∀ v w', Go.RowKit.Below W.heap.size W w' → (fun v W => ∃ u : Option Addr × Nat, v = .slice u.1 P.length u.2 ∧ SpV W (.slice u.1 P.length u.2) P) v w' → KK (Act.put fa _ v) w' := fun v w' h1 h2 => hKK v w' h1 h2
      clear hSame hRR
      rw [wanted_guard rfl rfl rfl ft15]
      first | rw [if_pos (by rfl)] | rw [if_neg (by decide)]
      go_simp
      first
          | (go_at_call 25; refine (seam_sound _ a _ hW.2.1 LD.out).mono ?_; rintro e w' ⟨rfl, hb⟩; rw [SO.out])
          | (go_at_call 26; refine (rseam_sound _ a _ hW.2.1 LD.out).mono ?_; rintro e w' ⟨rfl, hb⟩; rw [SO.out])
          | (go_at_call 22; refine (lives39 _).mono ?_; rintro e w' ⟨rfl, hb⟩)
          | (go_at_call 28; refine (seam_patches _ a _ hW.2.1 LA.out).mono ?_; rintro e w' ⟨v, l', rfl, hv, h2, h3, h4, hb⟩; obtain rfl := UP.out l' h2 h3; obtain ⟨A', c', rfl, -⟩ := id hv)
          | (go_at_call 29; refine (rpatches _ a _ hW.2.1 LC.out).mono ?_; rintro e w' ⟨v, hv, rfl, hb⟩; rw [QP.out] at hv; obtain ⟨A', c', rfl, -⟩ := id hv)
          | (go_at_call 30; refine (seam_missing _ a s0 s1 _ hW.2.1 LA.out).mono ?_; rintro e w' ⟨v, l', rfl, hv, h2, h3, h4, hb⟩; obtain rfl := UM.out l' h2 h3; obtain ⟨A', c', rfl, -⟩ := id hv)
          | (go_at_call 31; refine (rmissing _ a s0 s1 _ hW.2.1 LA.out).mono ?_; rintro e w' ⟨v, hv, rfl, hb⟩; rw [QP.out, QM.out] at hv; obtain ⟨A', c', rfl, -⟩ := id hv)
          | (go_at_call 32; refine (seam_cut _ a s0 s1 _ hW.2.1 LC.out).mono ?_; rintro e w' ⟨v, hv, rfl, hb⟩; rw [QC.out] at hv; obtain ⟨A', c', rfl, -⟩ := id hv)
          | (go_at_call 33; refine (noontideref39_cut _ a s0 s1 _ hW.2.1 LC.out).mono ?_; rintro e w' ⟨v, hv, rfl, hb⟩; rw [QC.out] at hv; obtain ⟨A', c', rfl, -⟩ := id hv)
          | (go_at_call 27; first
              | ((with_reducible refine (same_yes _ _ P _ fm17 fm19 MX.out.1).mono ?_); rintro e w' ⟨rfl, nn, rfl⟩)
              | ((with_reducible refine (same_yes _ _ M _ fm25 fm28 MX.out.2.1).mono ?_); rintro e w' ⟨rfl, nn, rfl⟩))
          | (go_at_call 20; first
              | ((with_reducible refine (if_same _ _ l _ hW.2.2.2.1 hW.2.2.2.2.1 LL.out).mono ?_); rintro e w' ⟨rfl, nn, rfl⟩)
              | ((with_reducible refine (if_same _ _ C _ fm34 fm37 MX.out.2.2).mono ?_); rintro e w' ⟨rfl, nn, rfl⟩))
      try dsimp only
      refine hKK _ _ ?_ ?_
      · first | exact Below.refl _ _ | exact (Below.refl _ _).alloc (Nat.le_refl _) _ | exact below_draw _ _ | assumption
      · try dsimp only
        first | exact trivial | exact rfl | (first | exact ⟨(_, _), rfl, hv⟩)
    refine Obs.cons (k' := 21) rfl ?_ ?_
    · intro fa W hW hSame hRR KK hKK
      try dsimp only at hW
      obtain ⟨fv17, ft17, fm17⟩ := hRR 17 _ 49 rfl rfl (by kernel_rfl)
      replace fm17 : (fun v W => ∃ u : Option Addr × Nat, v = .slice u.1 P.length u.2 ∧ SpV W (.slice u.1 P.length u.2) P) fv17 W := fm17
      try dsimp only at fm17
      first | subst fm17 | obtain ⟨_, rfl, fm17⟩ := fm17
      obtain ⟨fv19, ft19, fm19⟩ := hRR 19 _ 51 rfl rfl (by kernel_rfl)
      replace fm19 : (fun v W => ∃ u : Option Addr × Nat, v = .slice u.1 P.length u.2 ∧ SpV W (.slice u.1 P.length u.2) P) fv19 W := fm19
      try dsimp only at fm19
      first | subst fm19 | obtain ⟨_, rfl, fm19⟩ := fm19
      obtain ⟨fv15, ft15, fm15⟩ := hRR 15 _ 47 rfl rfl (by kernel_rfl)
      replace fm15 : fv15 = Value.bool true := fm15
      subst fm15
      replace hKK : ∀ v w', Go.RowKit.Below W.heap.size W w' → v = Value.bool true → KK (Act.put fa _ v) w' := fun v w' h1 h2 => hKK v w' h1 h2
      clear hSame hRR
      rw [wanted_guard rfl rfl rfl ft15]
      first | rw [if_pos (by rfl)] | rw [if_neg (by decide)]
      go_simp
      first
          | (go_at_call 25; refine (seam_sound _ a _ hW.2.1 LD.out).mono ?_; rintro e w' ⟨rfl, hb⟩; rw [SO.out])
          | (go_at_call 26; refine (rseam_sound _ a _ hW.2.1 LD.out).mono ?_; rintro e w' ⟨rfl, hb⟩; rw [SO.out])
          | (go_at_call 22; refine (lives39 _).mono ?_; rintro e w' ⟨rfl, hb⟩)
          | (go_at_call 28; refine (seam_patches _ a _ hW.2.1 LA.out).mono ?_; rintro e w' ⟨v, l', rfl, hv, h2, h3, h4, hb⟩; obtain rfl := UP.out l' h2 h3; obtain ⟨A', c', rfl, -⟩ := id hv)
          | (go_at_call 29; refine (rpatches _ a _ hW.2.1 LC.out).mono ?_; rintro e w' ⟨v, hv, rfl, hb⟩; rw [QP.out] at hv; obtain ⟨A', c', rfl, -⟩ := id hv)
          | (go_at_call 30; refine (seam_missing _ a s0 s1 _ hW.2.1 LA.out).mono ?_; rintro e w' ⟨v, l', rfl, hv, h2, h3, h4, hb⟩; obtain rfl := UM.out l' h2 h3; obtain ⟨A', c', rfl, -⟩ := id hv)
          | (go_at_call 31; refine (rmissing _ a s0 s1 _ hW.2.1 LA.out).mono ?_; rintro e w' ⟨v, hv, rfl, hb⟩; rw [QP.out, QM.out] at hv; obtain ⟨A', c', rfl, -⟩ := id hv)
          | (go_at_call 32; refine (seam_cut _ a s0 s1 _ hW.2.1 LC.out).mono ?_; rintro e w' ⟨v, hv, rfl, hb⟩; rw [QC.out] at hv; obtain ⟨A', c', rfl, -⟩ := id hv)
          | (go_at_call 33; refine (noontideref39_cut _ a s0 s1 _ hW.2.1 LC.out).mono ?_; rintro e w' ⟨v, hv, rfl, hb⟩; rw [QC.out] at hv; obtain ⟨A', c', rfl, -⟩ := id hv)
          | (go_at_call 27; first
              | ((with_reducible refine (same_yes _ _ P _ fm17 fm19 MX.out.1).mono ?_); rintro e w' ⟨rfl, nn, rfl⟩)
              | ((with_reducible refine (same_yes _ _ M _ fm25 fm28 MX.out.2.1).mono ?_); rintro e w' ⟨rfl, nn, rfl⟩))
          | (go_at_call 20; first
              | ((with_reducible refine (if_same _ _ l _ hW.2.2.2.1 hW.2.2.2.2.1 LL.out).mono ?_); rintro e w' ⟨rfl, nn, rfl⟩)
              | ((with_reducible refine (if_same _ _ C _ fm34 fm37 MX.out.2.2).mono ?_); rintro e w' ⟨rfl, nn, rfl⟩))
      try dsimp only
      refine hKK _ _ ?_ ?_
      · first | exact Below.refl _ _ | exact (Below.refl _ _).alloc (Nat.le_refl _) _ | exact below_draw _ _ | assumption
      · exact rfl
    refine Obs.cons (k' := 22) rfl ?_ ?_
    · intro fa W hW hSame hRR KK hKK
      try dsimp only at hW
      obtain ⟨fv15, ft15, fm15⟩ := hRR 15 _ 47 rfl rfl (by kernel_rfl)
      replace fm15 : fv15 = Value.bool true := fm15
      subst fm15
      obtain ⟨fv20, ft20, fm20⟩ := hRR 20 _ 52 rfl rfl (by kernel_rfl)
      replace fm20 : fv20 = Value.bool true := fm20
      subst fm20
      replace hKK : ∀ v w', Go.RowKit.Below W.heap.size W w' → v = Value.bool true → KK (Act.put fa _ v) w' := fun v w' h1 h2 => hKK v w' h1 h2
      clear hSame hRR
      rw [if_pos (wanted_plain rfl)]
      go_simp
      refine hKK _ _ ?_ ?_
      · first | exact Below.refl _ _ | exact (Below.refl _ _).alloc (Nat.le_refl _) _ | exact below_draw _ _ | assumption
      · exact rfl
    refine Obs.cons (k' := 23) rfl ?_ ?_
    · intro fa W hW hSame hRR KK hKK
      try dsimp only at hW
      obtain ⟨fv21, ft21, fm21⟩ := hRR 21 _ 53 rfl rfl (by kernel_rfl)
      replace fm21 : fv21 = Value.bool true := fm21
      subst fm21
      replace hKK : ∀ v w', Go.RowKit.Below W.heap.size W w' → v = Value.bool true → KK (Act.put fa _ v) w' := fun v w' h1 h2 => hKK v w' h1 h2
      clear hSame hRR
      rw [if_pos (wanted_plain rfl)]
      go_simp
      refine hKK _ _ ?_ ?_
      · first | exact Below.refl _ _ | exact (Below.refl _ _).alloc (Nat.le_refl _) _ | exact below_draw _ _ | assumption
      · exact rfl
    refine Obs.cons (k' := 24) rfl ?_ ?_
    · intro fa W hW hSame hRR KK hKK
      try dsimp only at hW
      obtain ⟨fv22, ft22, fm22⟩ := hRR 22 _ 54 rfl rfl (by kernel_rfl)
      replace fm22 : fv22 = Value.bool true := fm22
      subst fm22
      have fb0 := hSame.base 0 (by kernel_rfl)
      simp only [List.getElem?_toArray, List.getElem?_cons_succ, List.getElem?_cons_zero] at fb0
      replace hKK : ∀ v w', Go.RowKit.Below W.heap.size W w' → v = Value.slice A a.length c → KK (Act.put fa _ v) w' := fun v w' h1 h2 => hKK v w' h1 h2
      clear hSame hRR
      rw [wanted_guard rfl rfl rfl ft22]
      first | rw [if_pos (by rfl)] | rw [if_neg (by decide)]
      go_simp
      refine hKK _ _ ?_ ?_
      · first | exact Below.refl _ _ | exact (Below.refl _ _).alloc (Nat.le_refl _) _ | exact below_draw _ _ | assumption
      · exact rfl
    refine Obs.cons (k' := 25) rfl ?_ ?_
    · intro fa W hW hSame hRR KK hKK
      try dsimp only at hW
      obtain ⟨fv22, ft22, fm22⟩ := hRR 22 _ 54 rfl rfl (by kernel_rfl)
      replace fm22 : fv22 = Value.bool true := fm22
      subst fm22
      have fb5 := hSame.base 5 (by kernel_rfl)
      simp only [List.getElem?_toArray, List.getElem?_cons_succ, List.getElem?_cons_zero] at fb5
      replace hKK : ∀ v w', Go.RowKit.Below W.heap.size W w' → v = Value.agg #[Value.int IntKind.i64 s0, Value.int IntKind.i64 s1] → KK (Act.put fa _ v) w' := fun v w' h1 h2 => hKK v w' h1 h2
      clear hSame hRR
      rw [wanted_guard rfl rfl rfl ft22]
      first | rw [if_pos (by rfl)] | rw [if_neg (by decide)]
      go_simp
      refine hKK _ _ ?_ ?_
      · first | exact Below.refl _ _ | exact (Below.refl _ _).alloc (Nat.le_refl _) _ | exact below_draw _ _ | assumption
      · exact rfl
    refine Obs.cons (k' := 26) rfl ?_ ?_
    · intro fa W hW hSame hRR KK hKK
      try dsimp only at hW
      obtain ⟨fv23, ft23, fm23⟩ := hRR 23 _ 55 rfl rfl (by kernel_rfl)
      replace fm23 : fv23 = Value.slice A a.length c := fm23
      subst fm23
      obtain ⟨fv24, ft24, fm24⟩ := hRR 24 _ 56 rfl rfl (by kernel_rfl)
      replace fm24 : fv24 = Value.agg #[Value.int IntKind.i64 s0, Value.int IntKind.i64 s1] := fm24
      subst fm24
      obtain ⟨fv22, ft22, fm22⟩ := hRR 22 _ 54 rfl rfl (by kernel_rfl)
      replace fm22 : fv22 = Value.bool true := fm22
      subst fm22
      replace hKK : ∀ v w', Go.RowKit.Below W.heap.size W w' → (fun v W => ∃ u : Option Addr × Nat, v = .slice u.1 M.length u.2 ∧ SpV W (.slice u.1 M.length u.2) M) v w' → KK (Act.put fa _ v) w' := fun v w' h1 h2 => hKK v w' h1 h2
      clear hSame hRR
      rw [wanted_guard rfl rfl rfl ft22]
      first | rw [if_pos (by rfl)] | rw [if_neg (by decide)]
      go_simp
      first
          | (go_at_call 25; refine (seam_sound _ a _ hW.2.1 LD.out).mono ?_; rintro e w' ⟨rfl, hb⟩; rw [SO.out])
          | (go_at_call 26; refine (rseam_sound _ a _ hW.2.1 LD.out).mono ?_; rintro e w' ⟨rfl, hb⟩; rw [SO.out])
          | (go_at_call 22; refine (lives39 _).mono ?_; rintro e w' ⟨rfl, hb⟩)
          | (go_at_call 28; refine (seam_patches _ a _ hW.2.1 LA.out).mono ?_; rintro e w' ⟨v, l', rfl, hv, h2, h3, h4, hb⟩; obtain rfl := UP.out l' h2 h3; obtain ⟨A', c', rfl, -⟩ := id hv)
          | (go_at_call 29; refine (rpatches _ a _ hW.2.1 LC.out).mono ?_; rintro e w' ⟨v, hv, rfl, hb⟩; rw [QP.out] at hv; obtain ⟨A', c', rfl, -⟩ := id hv)
          | (go_at_call 30; refine (seam_missing _ a s0 s1 _ hW.2.1 LA.out).mono ?_; rintro e w' ⟨v, l', rfl, hv, h2, h3, h4, hb⟩; obtain rfl := UM.out l' h2 h3; obtain ⟨A', c', rfl, -⟩ := id hv)
          | (go_at_call 31; refine (rmissing _ a s0 s1 _ hW.2.1 LA.out).mono ?_; rintro e w' ⟨v, hv, rfl, hb⟩; rw [QP.out, QM.out] at hv; obtain ⟨A', c', rfl, -⟩ := id hv)
          | (go_at_call 32; refine (seam_cut _ a s0 s1 _ hW.2.1 LC.out).mono ?_; rintro e w' ⟨v, hv, rfl, hb⟩; rw [QC.out] at hv; obtain ⟨A', c', rfl, -⟩ := id hv)
          | (go_at_call 33; refine (noontideref39_cut _ a s0 s1 _ hW.2.1 LC.out).mono ?_; rintro e w' ⟨v, hv, rfl, hb⟩; rw [QC.out] at hv; obtain ⟨A', c', rfl, -⟩ := id hv)
          | (go_at_call 27; first
              | ((with_reducible refine (same_yes _ _ P _ fm17 fm19 MX.out.1).mono ?_); rintro e w' ⟨rfl, nn, rfl⟩)
              | ((with_reducible refine (same_yes _ _ M _ fm25 fm28 MX.out.2.1).mono ?_); rintro e w' ⟨rfl, nn, rfl⟩))
          | (go_at_call 20; first
              | ((with_reducible refine (if_same _ _ l _ hW.2.2.2.1 hW.2.2.2.2.1 LL.out).mono ?_); rintro e w' ⟨rfl, nn, rfl⟩)
              | ((with_reducible refine (if_same _ _ C _ fm34 fm37 MX.out.2.2).mono ?_); rintro e w' ⟨rfl, nn, rfl⟩))
      try dsimp only
      refine hKK _ _ ?_ ?_
      · first | exact Below.refl _ _ | exact (Below.refl _ _).alloc (Nat.le_refl _) _ | exact below_draw _ _ | assumption
      · try dsimp only
        first | exact trivial | exact rfl | (first | exact ⟨(_, _), rfl, hv⟩)
    refine Obs.cons (k' := 27) rfl ?_ ?_
    · intro fa W hW hSame hRR KK hKK
      try dsimp only at hW
      obtain ⟨fv22, ft22, fm22⟩ := hRR 22 _ 54 rfl rfl (by kernel_rfl)
      replace fm22 : fv22 = Value.bool true := fm22
      subst fm22
      have fb0 := hSame.base 0 (by kernel_rfl)
      simp only [List.getElem?_toArray, List.getElem?_cons_succ, List.getElem?_cons_zero] at fb0
      replace hKK : ∀ v w', Go.RowKit.Below W.heap.size W w' → v = Value.slice A a.length c → KK (Act.put fa _ v) w' := fun v w' h1 h2 => hKK v w' h1 h2
      clear hSame hRR
      rw [wanted_guard rfl rfl rfl ft22]
      first | rw [if_pos (by rfl)] | rw [if_neg (by decide)]
      go_simp
      refine hKK _ _ ?_ ?_
      · first | exact Below.refl _ _ | exact (Below.refl _ _).alloc (Nat.le_refl _) _ | exact below_draw _ _ | assumption
      · exact rfl
    refine Obs.cons (k' := 28) rfl ?_ ?_
    · intro fa W hW hSame hRR KK hKK
      try dsimp only at hW
      obtain ⟨fv22, ft22, fm22⟩ := hRR 22 _ 54 rfl rfl (by kernel_rfl)
      replace fm22 : fv22 = Value.bool true := fm22
      subst fm22
      have fb5 := hSame.base 5 (by kernel_rfl)
      simp only [List.getElem?_toArray, List.getElem?_cons_succ, List.getElem?_cons_zero] at fb5
      replace hKK : ∀ v w', Go.RowKit.Below W.heap.size W w' → v = Value.agg #[Value.int IntKind.i64 s0, Value.int IntKind.i64 s1] → KK (Act.put fa _ v) w' := fun v w' h1 h2 => hKK v w' h1 h2
      clear hSame hRR
      rw [wanted_guard rfl rfl rfl ft22]
      first | rw [if_pos (by rfl)] | rw [if_neg (by decide)]
      go_simp
      refine hKK _ _ ?_ ?_
      · first | exact Below.refl _ _ | exact (Below.refl _ _).alloc (Nat.le_refl _) _ | exact below_draw _ _ | assumption
      · exact rfl
    refine Obs.cons (k' := 29) rfl ?_ ?_
    · intro fa W hW hSame hRR KK hKK
      try dsimp only at hW
      obtain ⟨fv26, ft26, fm26⟩ := hRR 26 _ 58 rfl rfl (by kernel_rfl)
      replace fm26 : fv26 = Value.slice A a.length c := fm26
      subst fm26
      obtain ⟨fv27, ft27, fm27⟩ := hRR 27 _ 59 rfl rfl (by kernel_rfl)
      replace fm27 : fv27 = Value.agg #[Value.int IntKind.i64 s0, Value.int IntKind.i64 s1] := fm27
      subst fm27
      obtain ⟨fv22, ft22, fm22⟩ := hRR 22 _ 54 rfl rfl (by kernel_rfl)
      replace fm22 : fv22 = Value.bool true := fm22
      subst fm22
      replace hKK : ∀ v w', Go.RowKit.Below W.heap.size W w' → (fun v W => ∃ u : Option Addr × Nat, v = .slice u.1 M.length u.2 ∧ SpV W (.slice u.1 M.length u.2) M) v w' → KK (Act.put fa _ v) w' := fun v w' h1 h2 => hKK v w' h1 h2
      clear hSame hRR
      rw [wanted_guard rfl rfl rfl ft22]
      first | rw [if_pos (by rfl)] | rw [if_neg (by decide)]
      go_simp
      first
          | (go_at_call 25; refine (seam_sound _ a _ hW.2.1 LD.out).mono ?_; rintro e w' ⟨rfl, hb⟩; rw [SO.out])
          | (go_at_call 26; refine (rseam_sound _ a _ hW.2.1 LD.out).mono ?_; rintro e w' ⟨rfl, hb⟩; rw [SO.out])
          | (go_at_call 22; refine (lives39 _).mono ?_; rintro e w' ⟨rfl, hb⟩)
          | (go_at_call 28; refine (seam_patches _ a _ hW.2.1 LA.out).mono ?_; rintro e w' ⟨v, l', rfl, hv, h2, h3, h4, hb⟩; obtain rfl := UP.out l' h2 h3; obtain ⟨A', c', rfl, -⟩ := id hv)
          | (go_at_call 29; refine (rpatches _ a _ hW.2.1 LC.out).mono ?_; rintro e w' ⟨v, hv, rfl, hb⟩; rw [QP.out] at hv; obtain ⟨A', c', rfl, -⟩ := id hv)
          | (go_at_call 30; refine (seam_missing _ a s0 s1 _ hW.2.1 LA.out).mono ?_; rintro e w' ⟨v, l', rfl, hv, h2, h3, h4, hb⟩; obtain rfl := UM.out l' h2 h3; obtain ⟨A', c', rfl, -⟩ := id hv)
          | (go_at_call 31; refine (rmissing _ a s0 s1 _ hW.2.1 LA.out).mono ?_; rintro e w' ⟨v, hv, rfl, hb⟩; rw [QP.out, QM.out] at hv; obtain ⟨A', c', rfl, -⟩ := id hv)
          | (go_at_call 32; refine (seam_cut _ a s0 s1 _ hW.2.1 LC.out).mono ?_; rintro e w' ⟨v, hv, rfl, hb⟩; rw [QC.out] at hv; obtain ⟨A', c', rfl, -⟩ := id hv)
          | (go_at_call 33; refine (noontideref39_cut _ a s0 s1 _ hW.2.1 LC.out).mono ?_; rintro e w' ⟨v, hv, rfl, hb⟩; rw [QC.out] at hv; obtain ⟨A', c', rfl, -⟩ := id hv)
          | (go_at_call 27; first
              | ((with_reducible refine (same_yes _ _ P _ fm17 fm19 MX.out.1).mono ?_); rintro e w' ⟨rfl, nn, rfl⟩)
              | ((with_reducible refine (same_yes _ _ M _ fm25 fm28 MX.out.2.1).mono ?_); rintro e w' ⟨rfl, nn, rfl⟩))
          | (go_at_call 20; first
              | ((with_reducible refine (if_same _ _ l _ hW.2.2.2.1 hW.2.2.2.2.1 LL.out).mono ?_); rintro e w' ⟨rfl, nn, rfl⟩)
              | ((with_reducible refine (if_same _ _ C _ fm34 fm37 MX.out.2.2).mono ?_); rintro e w' ⟨rfl, nn, rfl⟩))
      try dsimp only
      refine hKK _ _ ?_ ?_
      · first | exact Below.refl _ _ | exact (Below.refl _ _).alloc (Nat.le_refl _) _ | exact below_draw _ _ | assumption
      · try dsimp only
        first | exact trivial | exact rfl | (first | exact ⟨(_, _), rfl, hv⟩)
    refine Obs.cons (k' := 30) rfl ?_ ?_
    · intro fa W hW hSame hRR KK hKK
      try dsimp only at hW
      obtain ⟨fv25, ft25, fm25⟩ := hRR 25 _ 57 rfl rfl (by kernel_rfl)
      replace fm25 : (fun v W => ∃ u : Option Addr × Nat, v = .slice u.1 M.length u.2 ∧ SpV W (.slice u.1 M.length u.2) M) fv25 W := fm25
      try dsimp only at fm25
      first | subst fm25 | obtain ⟨_, rfl, fm25⟩ := fm25
      obtain ⟨fv28, ft28, fm28⟩ := hRR 28 _ 60 rfl rfl (by kernel_rfl)
      replace fm28 : (fun v W => ∃ u : Option Addr × Nat, v = .slice u.1 M.length u.2 ∧ SpV W (.slice u.1 M.length u.2) M) fv28 W := fm28
      try dsimp only at fm28
      first | subst fm28 | obtain ⟨_, rfl, fm28⟩ := fm28
      obtain ⟨fv22, ft22, fm22⟩ := hRR 22 _ 54 rfl rfl (by kernel_rfl)
      replace fm22 : fv22 = Value.bool true := fm22
      subst fm22
      replace hKK : ∀ v w', Go.RowKit.Below W.heap.size W w' → v = Value.bool true → KK (Act.put fa _ v) w' := fun v w' h1 h2 => hKK v w' h1 h2
      clear hSame hRR
      rw [wanted_guard rfl rfl rfl ft22]
      first | rw [if_pos (by rfl)] | rw [if_neg (by decide)]
      go_simp
      first
          | (go_at_call 25; refine (seam_sound _ a _ hW.2.1 LD.out).mono ?_; rintro e w' ⟨rfl, hb⟩; rw [SO.out])
          | (go_at_call 26; refine (rseam_sound _ a _ hW.2.1 LD.out).mono ?_; rintro e w' ⟨rfl, hb⟩; rw [SO.out])
          | (go_at_call 22; refine (lives39 _).mono ?_; rintro e w' ⟨rfl, hb⟩)
          | (go_at_call 28; refine (seam_patches _ a _ hW.2.1 LA.out).mono ?_; rintro e w' ⟨v, l', rfl, hv, h2, h3, h4, hb⟩; obtain rfl := UP.out l' h2 h3; obtain ⟨A', c', rfl, -⟩ := id hv)
          | (go_at_call 29; refine (rpatches _ a _ hW.2.1 LC.out).mono ?_; rintro e w' ⟨v, hv, rfl, hb⟩; rw [QP.out] at hv; obtain ⟨A', c', rfl, -⟩ := id hv)
          | (go_at_call 30; refine (seam_missing _ a s0 s1 _ hW.2.1 LA.out).mono ?_; rintro e w' ⟨v, l', rfl, hv, h2, h3, h4, hb⟩; obtain rfl := UM.out l' h2 h3; obtain ⟨A', c', rfl, -⟩ := id hv)
          | (go_at_call 31; refine (rmissing _ a s0 s1 _ hW.2.1 LA.out).mono ?_; rintro e w' ⟨v, hv, rfl, hb⟩; rw [QP.out, QM.out] at hv; obtain ⟨A', c', rfl, -⟩ := id hv)
          | (go_at_call 32; refine (seam_cut _ a s0 s1 _ hW.2.1 LC.out).mono ?_; rintro e w' ⟨v, hv, rfl, hb⟩; rw [QC.out] at hv; obtain ⟨A', c', rfl, -⟩ := id hv)
          | (go_at_call 33; refine (noontideref39_cut _ a s0 s1 _ hW.2.1 LC.out).mono ?_; rintro e w' ⟨v, hv, rfl, hb⟩; rw [QC.out] at hv; obtain ⟨A', c', rfl, -⟩ := id hv)
          | (go_at_call 27; first
              | ((with_reducible refine (same_yes _ _ P _ fm17 fm19 MX.out.1).mono ?_); rintro e w' ⟨rfl, nn, rfl⟩)
              | ((with_reducible refine (same_yes _ _ M _ fm25 fm28 MX.out.2.1).mono ?_); rintro e w' ⟨rfl, nn, rfl⟩))
          | (go_at_call 20; first
              | ((with_reducible refine (if_same _ _ l _ hW.2.2.2.1 hW.2.2.2.2.1 LL.out).mono ?_); rintro e w' ⟨rfl, nn, rfl⟩)
              | ((with_reducible refine (if_same _ _ C _ fm34 fm37 MX.out.2.2).mono ?_); rintro e w' ⟨rfl, nn, rfl⟩))
      try dsimp only
      refine hKK _ _ ?_ ?_
      · first | exact Below.refl _ _ | exact (Below.refl _ _).alloc (Nat.le_refl _) _ | exact below_draw _ _ | assumption
      · exact rfl
    refine Obs.cons (k' := 31) rfl ?_ ?_
    · intro fa W hW hSame hRR KK hKK
      try dsimp only at hW
      obtain ⟨fv22, ft22, fm22⟩ := hRR 22 _ 54 rfl rfl (by kernel_rfl)
      replace fm22 : fv22 = Value.bool true := fm22
      subst fm22
      obtain ⟨fv29, ft29, fm29⟩ := hRR 29 _ 61 rfl rfl (by kernel_rfl)
      replace fm29 : fv29 = Value.bool true := fm29
      subst fm29
      replace hKK : ∀ v w', Go.RowKit.Below W.heap.size W w' → v = Value.bool true → KK (Act.put fa _ v) w' := fun v w' h1 h2 => hKK v w' h1 h2
      clear hSame hRR
      rw [if_pos (wanted_plain rfl)]
      go_simp
      refine hKK _ _ ?_ ?_
      · first | exact Below.refl _ _ | exact (Below.refl _ _).alloc (Nat.le_refl _) _ | exact below_draw _ _ | assumption
      · exact rfl
    refine Obs.cons (k' := 32) rfl ?_ ?_
    · intro fa W hW hSame hRR KK hKK
      try dsimp only at hW
      obtain ⟨fv30, ft30, fm30⟩ := hRR 30 _ 62 rfl rfl (by kernel_rfl)
      replace fm30 : fv30 = Value.bool true := fm30
      subst fm30
      replace hKK : ∀ v w', Go.RowKit.Below W.heap.size W w' → v = Value.bool true → KK (Act.put fa _ v) w' := fun v w' h1 h2 => hKK v w' h1 h2
      clear hSame hRR
      rw [if_pos (wanted_plain rfl)]
      go_simp
      refine hKK _ _ ?_ ?_
      · first | exact Below.refl _ _ | exact (Below.refl _ _).alloc (Nat.le_refl _) _ | exact below_draw _ _ | assumption
      · exact rfl
    refine Obs.cons (k' := 33) rfl ?_ ?_
    · intro fa W hW hSame hRR KK hKK
      try dsimp only at hW
      obtain ⟨fv31, ft31, fm31⟩ := hRR 31 _ 63 rfl rfl (by kernel_rfl)
      replace fm31 : fv31 = Value.bool true := fm31
      subst fm31
      have fb0 := hSame.base 0 (by kernel_rfl)
      simp only [List.getElem?_toArray, List.getElem?_cons_succ, List.getElem?_cons_zero] at fb0
      replace hKK : ∀ v w', Go.RowKit.Below W.heap.size W w' → v = Value.slice A a.length c → KK (Act.put fa _ v) w' := fun v w' h1 h2 => hKK v w' h1 h2
      clear hSame hRR
      rw [wanted_guard rfl rfl rfl ft31]
      first | rw [if_pos (by rfl)] | rw [if_neg (by decide)]
      go_simp
      refine hKK _ _ ?_ ?_
      · first | exact Below.refl _ _ | exact (Below.refl _ _).alloc (Nat.le_refl _) _ | exact below_draw _ _ | assumption
      · exact rfl
    refine Obs.cons (k' := 34) rfl ?_ ?_
    · intro fa W hW hSame hRR KK hKK
      try dsimp only at hW
      obtain ⟨fv31, ft31, fm31⟩ := hRR 31 _ 63 rfl rfl (by kernel_rfl)
      replace fm31 : fv31 = Value.bool true := fm31
      subst fm31
      have fb5 := hSame.base 5 (by kernel_rfl)
      simp only [List.getElem?_toArray, List.getElem?_cons_succ, List.getElem?_cons_zero] at fb5
      replace hKK : ∀ v w', Go.RowKit.Below W.heap.size W w' → v = Value.agg #[Value.int IntKind.i64 s0, Value.int IntKind.i64 s1] → KK (Act.put fa _ v) w' := fun v w' h1 h2 => hKK v w' h1 h2
      clear hSame hRR
      rw [wanted_guard rfl rfl rfl ft31]
      first | rw [if_pos (by rfl)] | rw [if_neg (by decide)]
      go_simp
      refine hKK _ _ ?_ ?_
      · first | exact Below.refl _ _ | exact (Below.refl _ _).alloc (Nat.le_refl _) _ | exact below_draw _ _ | assumption
      · exact rfl
    refine Obs.cons (k' := 35) rfl ?_ ?_
    · intro fa W hW hSame hRR KK hKK
      try dsimp only at hW
      obtain ⟨fv32, ft32, fm32⟩ := hRR 32 _ 64 rfl rfl (by kernel_rfl)
      replace fm32 : fv32 = Value.slice A a.length c := fm32
      subst fm32
      obtain ⟨fv33, ft33, fm33⟩ := hRR 33 _ 65 rfl rfl (by kernel_rfl)
      replace fm33 : fv33 = Value.agg #[Value.int IntKind.i64 s0, Value.int IntKind.i64 s1] := fm33
      subst fm33
      obtain ⟨fv31, ft31, fm31⟩ := hRR 31 _ 63 rfl rfl (by kernel_rfl)
      replace fm31 : fv31 = Value.bool true := fm31
      subst fm31
      replace hKK : ∀ v w', Go.RowKit.Below W.heap.size W w' → (fun v W => ∃ u : Option Addr × Nat, v = .slice u.1 C.length u.2 ∧ InV W (.slice u.1 C.length u.2) C) v w' → KK (Act.put fa _ v) w' := fun v w' h1 h2 => hKK v w' h1 h2
      clear hSame hRR
      rw [wanted_guard rfl rfl rfl ft31]
      first | rw [if_pos (by rfl)] | rw [if_neg (by decide)]
      go_simp
      first
          | (go_at_call 25; refine (seam_sound _ a _ hW.2.1 LD.out).mono ?_; rintro e w' ⟨rfl, hb⟩; rw [SO.out])
          | (go_at_call 26; refine (rseam_sound _ a _ hW.2.1 LD.out).mono ?_; rintro e w' ⟨rfl, hb⟩; rw [SO.out])
          | (go_at_call 22; refine (lives39 _).mono ?_; rintro e w' ⟨rfl, hb⟩)
          | (go_at_call 28; refine (seam_patches _ a _ hW.2.1 LA.out).mono ?_; rintro e w' ⟨v, l', rfl, hv, h2, h3, h4, hb⟩; obtain rfl := UP.out l' h2 h3; obtain ⟨A', c', rfl, -⟩ := id hv)
          | (go_at_call 29; refine (rpatches _ a _ hW.2.1 LC.out).mono ?_; rintro e w' ⟨v, hv, rfl, hb⟩; rw [QP.out] at hv; obtain ⟨A', c', rfl, -⟩ := id hv)
          | (go_at_call 30; refine (seam_missing _ a s0 s1 _ hW.2.1 LA.out).mono ?_; rintro e w' ⟨v, l', rfl, hv, h2, h3, h4, hb⟩; obtain rfl := UM.out l' h2 h3; obtain ⟨A', c', rfl, -⟩ := id hv)
          | (go_at_call 31; refine (rmissing _ a s0 s1 _ hW.2.1 LA.out).mono ?_; rintro e w' ⟨v, hv, rfl, hb⟩; rw [QP.out, QM.out] at hv; obtain ⟨A', c', rfl, -⟩ := id hv)
          | (go_at_call 32; refine (seam_cut _ a s0 s1 _ hW.2.1 LC.out).mono ?_; rintro e w' ⟨v, hv, rfl, hb⟩; rw [QC.out] at hv; obtain ⟨A', c', rfl, -⟩ := id hv)
          | (go_at_call 33; refine (noontideref39_cut _ a s0 s1 _ hW.2.1 LC.out).mono ?_; rintro e w' ⟨v, hv, rfl, hb⟩; rw [QC.out] at hv; obtain ⟨A', c', rfl, -⟩ := id hv)
          | (go_at_call 27; first
              | ((with_reducible refine (same_yes _ _ P _ fm17 fm19 MX.out.1).mono ?_); rintro e w' ⟨rfl, nn, rfl⟩)
              | ((with_reducible refine (same_yes _ _ M _ fm25 fm28 MX.out.2.1).mono ?_); rintro e w' ⟨rfl, nn, rfl⟩))
          | (go_at_call 20; first
              | ((with_reducible refine (if_same _ _ l _ hW.2.2.2.1 hW.2.2.2.2.1 LL.out).mono ?_); rintro e w' ⟨rfl, nn, rfl⟩)
              | ((with_reducible refine (if_same _ _ C _ fm34 fm37 MX.out.2.2).mono ?_); rintro e w' ⟨rfl, nn, rfl⟩))
      try dsimp only
      refine hKK _ _ ?_ ?_
      · first | exact Below.refl _ _ | exact (Below.refl _ _).alloc (Nat.le_refl _) _ | exact below_draw _ _ | assumption
      · try dsimp only
        first | exact trivial | exact rfl | (first | exact ⟨(_, _), rfl, hv⟩)
    refine Obs.cons (k' := 36) rfl ?_ ?_
    · intro fa W hW hSame hRR KK hKK
      try dsimp only at hW
      obtain ⟨fv31, ft31, fm31⟩ := hRR 31 _ 63 rfl rfl (by kernel_rfl)
      replace fm31 : fv31 = Value.bool true := fm31
      subst fm31
      have fb0 := hSame.base 0 (by kernel_rfl)
      simp only [List.getElem?_toArray, List.getElem?_cons_succ, List.getElem?_cons_zero] at fb0
      replace hKK : ∀ v w', Go.RowKit.Below W.heap.size W w' → v = Value.slice A a.length c → KK (Act.put fa _ v) w' := fun v w' h1 h2 => hKK v w' h1 h2
      clear hSame hRR
      rw [wanted_guard rfl rfl rfl ft31]
      first | rw [if_pos (by rfl)] | rw [if_neg (by decide)]
      go_simp
      refine hKK _ _ ?_ ?_
      · first | exact Below.refl _ _ | exact (Below.refl _ _).alloc (Nat.le_refl _) _ | exact below_draw _ _ | assumption
      · exact rfl
    refine Obs.cons (k' := 37) rfl ?_ ?_
    · intro fa W hW hSame hRR KK hKK
      try dsimp only at hW
      obtain ⟨fv31, ft31, fm31⟩ := hRR 31 _ 63 rfl rfl (by kernel_rfl)
      replace fm31 : fv31 = Value.bool true := fm31
      subst fm31
      have fb5 := hSame.base 5 (by kernel_rfl)
      simp only [List.getElem?_toArray, List.getElem?_cons_succ, List.getElem?_cons_zero] at fb5
      replace hKK : ∀ v w', Go.RowKit.Below W.heap.size W w' → v = Value.agg #[Value.int IntKind.i64 s0, Value.int IntKind.i64 s1] → KK (Act.put fa _ v) w' := fun v w' h1 h2 => hKK v w' h1 h2
      clear hSame hRR
      rw [wanted_guard rfl rfl rfl ft31]
      first | rw [if_pos (by rfl)] | rw [if_neg (by decide)]
      go_simp
      refine hKK _ _ ?_ ?_
      · first | exact Below.refl _ _ | exact (Below.refl _ _).alloc (Nat.le_refl _) _ | exact below_draw _ _ | assumption
      · exact rfl
    refine Obs.cons (k' := 38) rfl ?_ ?_
    · intro fa W hW hSame hRR KK hKK
      try dsimp only at hW
      obtain ⟨fv35, ft35, fm35⟩ := hRR 35 _ 67 rfl rfl (by kernel_rfl)
      replace fm35 : fv35 = Value.slice A a.length c := fm35
      subst fm35
      obtain ⟨fv36, ft36, fm36⟩ := hRR 36 _ 68 rfl rfl (by kernel_rfl)
      replace fm36 : fv36 = Value.agg #[Value.int IntKind.i64 s0, Value.int IntKind.i64 s1] := fm36
      subst fm36
      obtain ⟨fv31, ft31, fm31⟩ := hRR 31 _ 63 rfl rfl (by kernel_rfl)
      replace fm31 : fv31 = Value.bool true := fm31
      subst fm31
      replace hKK : ∀ v w', Go.RowKit.Below W.heap.size W w' → (fun v W => ∃ u : Option Addr × Nat, v = .slice u.1 C.length u.2 ∧ InV W (.slice u.1 C.length u.2) C) v w' → KK (Act.put fa _ v) w' := fun v w' h1 h2 => hKK v w' h1 h2
      clear hSame hRR
      rw [wanted_guard rfl rfl rfl ft31]
      first | rw [if_pos (by rfl)] | rw [if_neg (by decide)]
      go_simp
      first
          | (go_at_call 25; refine (seam_sound _ a _ hW.2.1 LD.out).mono ?_; rintro e w' ⟨rfl, hb⟩; rw [SO.out])
          | (go_at_call 26; refine (rseam_sound _ a _ hW.2.1 LD.out).mono ?_; rintro e w' ⟨rfl, hb⟩; rw [SO.out])
          | (go_at_call 22; refine (lives39 _).mono ?_; rintro e w' ⟨rfl, hb⟩)
          | (go_at_call 28; refine (seam_patches _ a _ hW.2.1 LA.out).mono ?_; rintro e w' ⟨v, l', rfl, hv, h2, h3, h4, hb⟩; obtain rfl := UP.out l' h2 h3; obtain ⟨A', c', rfl, -⟩ := id hv)
          | (go_at_call 29; refine (rpatches _ a _ hW.2.1 LC.out).mono ?_; rintro e w' ⟨v, hv, rfl, hb⟩; rw [QP.out] at hv; obtain ⟨A', c', rfl, -⟩ := id hv)
          | (go_at_call 30; refine (seam_missing _ a s0 s1 _ hW.2.1 LA.out).mono ?_; rintro e w' ⟨v, l', rfl, hv, h2, h3, h4, hb⟩; obtain rfl := UM.out l' h2 h3; obtain ⟨A', c', rfl, -⟩ := id hv)
          | (go_at_call 31; refine (rmissing _ a s0 s1 _ hW.2.1 LA.out).mono ?_; rintro e w' ⟨v, hv, rfl, hb⟩; rw [QP.out, QM.out] at hv; obtain ⟨A', c', rfl, -⟩ := id hv)
          | (go_at_call 32; refine (seam_cut _ a s0 s1 _ hW.2.1 LC.out).mono ?_; rintro e w' ⟨v, hv, rfl, hb⟩; rw [QC.out] at hv; obtain ⟨A', c', rfl, -⟩ := id hv)
          | (go_at_call 33; refine (noontideref39_cut _ a s0 s1 _ hW.2.1 LC.out).mono ?_; rintro e w' ⟨v, hv, rfl, hb⟩; rw [QC.out] at hv; obtain ⟨A', c', rfl, -⟩ := id hv)
          | (go_at_call 27; first
              | ((with_reducible refine (same_yes _ _ P _ fm17 fm19 MX.out.1).mono ?_); rintro e w' ⟨rfl, nn, rfl⟩)
              | ((with_reducible refine (same_yes _ _ M _ fm25 fm28 MX.out.2.1).mono ?_); rintro e w' ⟨rfl, nn, rfl⟩))
          | (go_at_call 20; first
              | ((with_reducible refine (if_same _ _ l _ hW.2.2.2.1 hW.2.2.2.2.1 LL.out).mono ?_); rintro e w' ⟨rfl, nn, rfl⟩)
              | ((with_reducible refine (if_same _ _ C _ fm34 fm37 MX.out.2.2).mono ?_); rintro e w' ⟨rfl, nn, rfl⟩))
      try dsimp only
      refine hKK _ _ ?_ ?_
      · first | exact Below.refl _ _ | exact (Below.refl _ _).alloc (Nat.le_refl _) _ | exact below_draw _ _ | assumption
      · try dsimp only
        first | exact trivial | exact rfl | (first | exact ⟨(_, _), rfl, hv⟩)
    refine Obs.cons (k' := 39) rfl ?_ ?_
    · intro fa W hW hSame hRR KK hKK
      try dsimp only at hW
      obtain ⟨fv34, ft34, fm34⟩ := hRR 34 _ 66 rfl rfl (by kernel_rfl)
      replace fm34 : (fun v W => ∃ u : Option Addr × Nat, v = .slice u.1 C.length u.2 ∧ InV W (.slice u.1 C.length u.2) C) fv34 W := fm34
      try dsimp only at fm34
      first | subst fm34 | obtain ⟨_, rfl, fm34⟩ := fm34
      obtain ⟨fv37, ft37, fm37⟩ := hRR 37 _ 69 rfl rfl (by kernel_rfl)
      replace fm37 : (fun v W => ∃ u : Option Addr × Nat, v = .slice u.1 C.length u.2 ∧ InV W (.slice u.1 C.length u.2) C) fv37 W := fm37
      try dsimp only at fm37
      first | subst fm37 | obtain ⟨_, rfl, fm37⟩ := fm37
      obtain ⟨fv31, ft31, fm31⟩ := hRR 31 _ 63 rfl rfl (by kernel_rfl)
      replace fm31 : fv31 = Value.bool true := fm31
      subst fm31
      replace hKK : ∀ v w', Go.RowKit.Below W.heap.size W w' → v = Value.bool true → KK (Act.put fa _ v) w' := fun v w' h1 h2 => hKK v w' h1 h2
      clear hSame hRR
      rw [wanted_guard rfl rfl rfl ft31]
      first | rw [if_pos (by rfl)] | rw [if_neg (by decide)]
      go_simp
      first
          | (go_at_call 25; refine (seam_sound _ a _ hW.2.1 LD.out).mono ?_; rintro e w' ⟨rfl, hb⟩; rw [SO.out])
          | (go_at_call 26; refine (rseam_sound _ a _ hW.2.1 LD.out).mono ?_; rintro e w' ⟨rfl, hb⟩; rw [SO.out])
          | (go_at_call 22; refine (lives39 _).mono ?_; rintro e w' ⟨rfl, hb⟩)
          | (go_at_call 28; refine (seam_patches _ a _ hW.2.1 LA.out).mono ?_; rintro e w' ⟨v, l', rfl, hv, h2, h3, h4, hb⟩; obtain rfl := UP.out l' h2 h3; obtain ⟨A', c', rfl, -⟩ := id hv)
          | (go_at_call 29; refine (rpatches _ a _ hW.2.1 LC.out).mono ?_; rintro e w' ⟨v, hv, rfl, hb⟩; rw [QP.out] at hv; obtain ⟨A', c', rfl, -⟩ := id hv)
          | (go_at_call 30; refine (seam_missing _ a s0 s1 _ hW.2.1 LA.out).mono ?_; rintro e w' ⟨v, l', rfl, hv, h2, h3, h4, hb⟩; obtain rfl := UM.out l' h2 h3; obtain ⟨A', c', rfl, -⟩ := id hv)
          | (go_at_call 31; refine (rmissing _ a s0 s1 _ hW.2.1 LA.out).mono ?_; rintro e w' ⟨v, hv, rfl, hb⟩; rw [QP.out, QM.out] at hv; obtain ⟨A', c', rfl, -⟩ := id hv)
          | (go_at_call 32; refine (seam_cut _ a s0 s1 _ hW.2.1 LC.out).mono ?_; rintro e w' ⟨v, hv, rfl, hb⟩; rw [QC.out] at hv; obtain ⟨A', c', rfl, -⟩ := id hv)
          | (go_at_call 33; refine (noontideref39_cut _ a s0 s1 _ hW.2.1 LC.out).mono ?_; rintro e w' ⟨v, hv, rfl, hb⟩; rw [QC.out] at hv; obtain ⟨A', c', rfl, -⟩ := id hv)
          | (go_at_call 27; first
              | ((with_reducible refine (same_yes _ _ P _ fm17 fm19 MX.out.1).mono ?_); rintro e w' ⟨rfl, nn, rfl⟩)
              | ((with_reducible refine (same_yes _ _ M _ fm25 fm28 MX.out.2.1).mono ?_); rintro e w' ⟨rfl, nn, rfl⟩))
          | (go_at_call 20; first
              | ((with_reducible refine (if_same _ _ l _ hW.2.2.2.1 hW.2.2.2.2.1 LL.out).mono ?_); rintro e w' ⟨rfl, nn, rfl⟩)
              | ((with_reducible refine (if_same _ _ C _ fm34 fm37 MX.out.2.2).mono ?_); rintro e w' ⟨rfl, nn, rfl⟩))
      try dsimp only
      refine hKK _ _ ?_ ?_
      · first | exact Below.refl _ _ | exact (Below.refl _ _).alloc (Nat.le_refl _) _ | exact below_draw _ _ | assumption
      · exact rfl
    refine Obs.cons (k' := 40) rfl ?_ ?_
    · intro fa W hW hSame hRR KK hKK
      try dsimp only at hW
      obtain ⟨fv31, ft31, fm31⟩ := hRR 31 _ 63 rfl rfl (by kernel_rfl)
      replace fm31 : fv31 = Value.bool true := fm31
      subst fm31
      obtain ⟨fv38, ft38, fm38⟩ := hRR 38 _ 70 rfl rfl (by kernel_rfl)
      replace fm38 : fv38 = Value.bool true := fm38
      subst fm38
      replace hKK : ∀ v w', Go.RowKit.Below W.heap.size W w' → v = Value.bool true → KK (Act.put fa _ v) w' := fun v w' h1 h2 => hKK v w' h1 h2
      clear hSame hRR
      rw [if_pos (wanted_plain rfl)]
      go_simp
      refine hKK _ _ ?_ ?_
      · first | exact Below.refl _ _ | exact (Below.refl _ _).alloc (Nat.le_refl _) _ | exact below_draw _ _ | assumption
      · exact rfl
    refine Obs.cons (k' := 41) rfl ?_ ?_
    · intro fa W hW hSame hRR KK hKK
      try dsimp only at hW
      obtain ⟨fv39, ft39, fm39⟩ := hRR 39 _ 71 rfl rfl (by kernel_rfl)
      replace fm39 : fv39 = Value.bool true := fm39
      subst fm39
      replace hKK : ∀ v w', Go.RowKit.Below W.heap.size W w' → v = Value.bool true → KK (Act.put fa _ v) w' := fun v w' h1 h2 => hKK v w' h1 h2
      clear hSame hRR
      rw [if_pos (wanted_plain rfl)]
      go_simp
      refine hKK _ _ ?_ ?_
      · first | exact Below.refl _ _ | exact (Below.refl _ _).alloc (Nat.le_refl _) _ | exact below_draw _ _ | assumption
      · exact rfl
    refine Obs.cons (k' := 42) rfl ?_ ?_
    · intro fa W hW hSame hRR KK hKK
      try dsimp only at hW
      obtain ⟨fv40, ft40, fm40⟩ := hRR 40 _ 72 rfl rfl (by kernel_rfl)
      replace fm40 : fv40 = Value.bool true := fm40
      subst fm40
      replace hKK : ∀ v w', Go.RowKit.Below W.heap.size W w' → v = Value.bool true → KK (Act.put fa _ v) w' := fun v w' h1 h2 => hKK v w' h1 h2
      clear hSame hRR
      rw [wanted_guard rfl rfl rfl ft40]
      first | rw [if_pos (by rfl)] | rw [if_neg (by decide)]
      go_simp
      first
          | (go_at_call 25; refine (seam_sound _ a _ hW.2.1 LD.out).mono ?_; rintro e w' ⟨rfl, hb⟩; rw [SO.out])
          | (go_at_call 26; refine (rseam_sound _ a _ hW.2.1 LD.out).mono ?_; rintro e w' ⟨rfl, hb⟩; rw [SO.out])
          | (go_at_call 22; refine (lives39 _).mono ?_; rintro e w' ⟨rfl, hb⟩)
          | (go_at_call 28; refine (seam_patches _ a _ hW.2.1 LA.out).mono ?_; rintro e w' ⟨v, l', rfl, hv, h2, h3, h4, hb⟩; obtain rfl := UP.out l' h2 h3; obtain ⟨A', c', rfl, -⟩ := id hv)
          | (go_at_call 29; refine (rpatches _ a _ hW.2.1 LC.out).mono ?_; rintro e w' ⟨v, hv, rfl, hb⟩; rw [QP.out] at hv; obtain ⟨A', c', rfl, -⟩ := id hv)
          | (go_at_call 30; refine (seam_missing _ a s0 s1 _ hW.2.1 LA.out).mono ?_; rintro e w' ⟨v, l', rfl, hv, h2, h3, h4, hb⟩; obtain rfl := UM.out l' h2 h3; obtain ⟨A', c', rfl, -⟩ := id hv)
          | (go_at_call 31; refine (rmissing _ a s0 s1 _ hW.2.1 LA.out).mono ?_; rintro e w' ⟨v, hv, rfl, hb⟩; rw [QP.out, QM.out] at hv; obtain ⟨A', c', rfl, -⟩ := id hv)
          | (go_at_call 32; refine (seam_cut _ a s0 s1 _ hW.2.1 LC.out).mono ?_; rintro e w' ⟨v, hv, rfl, hb⟩; rw [QC.out] at hv; obtain ⟨A', c', rfl, -⟩ := id hv)
          | (go_at_call 33; refine (noontideref39_cut _ a s0 s1 _ hW.2.1 LC.out).mono ?_; rintro e w' ⟨v, hv, rfl, hb⟩; rw [QC.out] at hv; obtain ⟨A', c', rfl, -⟩ := id hv)
          | (go_at_call 27; first
              | ((with_reducible refine (same_yes _ _ P _ fm17 fm19 MX.out.1).mono ?_); rintro e w' ⟨rfl, nn, rfl⟩)
              | ((with_reducible refine (same_yes _ _ M _ fm25 fm28 MX.out.2.1).mono ?_); rintro e w' ⟨rfl, nn, rfl⟩))
          | (go_at_call 20; first
              | ((with_reducible refine (if_same _ _ l _ hW.2.2.2.1 hW.2.2.2.2.1 LL.out).mono ?_); rintro e w' ⟨rfl, nn, rfl⟩)
              | ((with_reducible refine (if_same _ _ C _ fm34 fm37 MX.out.2.2).mono ?_); rintro e w' ⟨rfl, nn, rfl⟩))
      try dsimp only
      refine hKK _ _ ?_ ?_
      · first | exact Below.refl _ _ | exact (Below.refl _ _).alloc (Nat.le_refl _) _ | exact below_draw _ _ | assumption
      · exact rfl
    refine Obs.cons (k' := 43) rfl ?_ ?_
    · intro fa W hW hSame hRR KK hKK
      try dsimp only at hW
      obtain ⟨fv40, ft40, fm40⟩ := hRR 40 _ 72 rfl rfl (by kernel_rfl)
      replace fm40 : fv40 = Value.bool true := fm40
      subst fm40
      obtain ⟨fv41, ft41, fm41⟩ := hRR 41 _ 73 rfl rfl (by kernel_rfl)
      replace fm41 : fv41 = Value.bool true := fm41
      subst fm41
      replace hKK : ∀ v w', Go.RowKit.Below W.heap.size W w' → v = Value.bool true → KK (Act.put fa _ v) w' := fun v w' h1 h2 => hKK v w' h1 h2
      clear hSame hRR
      rw [if_pos (wanted_plain rfl)]
      go_simp
      refine hKK _ _ ?_ ?_
      · first | exact Below.refl _ _ | exact (Below.refl _ _).alloc (Nat.le_refl _) _ | exact below_draw _ _ | assumption
      · exact rfl
    refine Obs.cons (k' := 44) rfl ?_ ?_
    · intro fa W hW hSame hRR KK hKK
      try dsimp only at hW
      obtain ⟨fv42, ft42, fm42⟩ := hRR 42 _ 74 rfl rfl (by kernel_rfl)
      replace fm42 : fv42 = Value.bool true := fm42
      subst fm42
      replace hKK : ∀ v w', Go.RowKit.Below W.heap.size W w' → v = Value.bool true → KK (Act.put fa _ v) w' := fun v w' h1 h2 => hKK v w' h1 h2
      clear hSame hRR
      rw [if_pos (wanted_plain rfl)]
      go_simp
      refine hKK _ _ ?_ ?_
      · first | exact Below.refl _ _ | exact (Below.refl _ _).alloc (Nat.le_refl _) _ | exact below_draw _ _ | assumption
      · exact rfl
    exact Obs.nil
  case hlast =>
    intro fa W hW hSame hRR
    try dsimp only at hW
    obtain ⟨fvZ, ftZ, fmZ⟩ := hRR 43 _ 6 rfl rfl
    replace fmZ : fvZ = Value.bool true := fmZ
    subst fmZ
    have hdf := hSame.defers
    obtain ⟨tm, df⟩ := fa
    dsimp only at hdf ftZ
    subst hdf
    have BB := Lib.hid hW.1
    clear hSame hRR hW
    go_wp2_with fail
    refine bodyPost_ret (v := .bool true) ?_ rfl ⟨rfl, BB.out⟩
    rw [results_tmp rfl]
    simp [Array.getD_eq_getD_getElem?, ftZ]
theorem seamTells_any (va : Value) (a : List If.I) (vb : Value) (b : List If.I) (s0 s1 : Int) (w : World) (h : InV w va a) (hc : Cap va) (k : InV w vb b) (hd : Cap vb) :
    Calls Try.prog 5 #[va, vb, .agg #[.int .i64 s0, .int .i64 s1]] w fun e w' => e = .returned (.bool true) ∧ Below w.heap.size w w' :=
  seam_tells va vb a b s0 s1 w h k
end Go.Proofs.Ytmnmmbeageddkaa

