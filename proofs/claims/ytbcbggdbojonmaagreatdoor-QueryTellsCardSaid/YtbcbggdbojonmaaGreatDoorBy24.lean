/- Joined: QyS. -/
import Derived.Test.YtbcbggdbojonmaaGreatDoorBy01
import Derived.Test.YtbcbggdbojonmaaGreatDoorBy23
import Derived.Test.YtbcbggdbojonmaaGreatDoorBy15
import Derived.Test.YtbcbggdbojonmaaGreatDoorBy05
set_option linter.unusedVariables false
set_option linter.unusedSimpArgs false
namespace Go.Proofs.YtbcbggdbojonmaaGreatDoor
open Go.RowKit Go.Sort Go.Pairs
theorem qy_num (n : Int) (h : An.bd n) : ∃ A : ByteArray, A.data.toList = Lib.itoa n ∧ A.size ≤ 21 ∧ Hid (∀ W, Calls Tryz.prog 33 #[.int .i64 n] W fun e w' => e = .returned (.string A) ∧ Below W.heap.size W w') :=
 ⟨⟨(Lib.itoa n).toArray⟩, rfl, by show (Lib.itoa n).toArray.size ≤ 21; rw [List.size_toArray]; exact Lib.itoa_length_le n h.1 h.2, fun W => rtext_any n W h.1 h.2⟩
theorem qy_word (L : List ByteArray) (n : Int) (h1 : 1 ≤ n) (h2 : n ≤ L.length) : ∃ A : ByteArray, A.data.toList = Qy.word L n ∧ ∀ W v, StS W v L → ∃ a c, v = .slice (some a) L.length c ∧ W.cell? (a.add (n - 1).toNat) = some (.string A) := by
 have hi : (n - 1).toNat < L.length := by omega
 refine ⟨L[(n - 1).toNat], ?_, fun W v S => ?_⟩
 ·
  unfold Qy.word
  rw [if_pos ⟨h1, by omega⟩, List.getD_eq_getElem?_getD, List.getElem?_eq_getElem hi, Option.getD_some]
 ·
  have T := S
  obtain ⟨A, c, rfl, -⟩ := T
  obtain ⟨a, e, g⟩ := StS.get S _ hi
  subst e
  have e9 : (L.map Value.string).length = L.length := List.length_map ..
  exact ⟨a, c, by first | rfl | rw [e9], g⟩
theorem qy_cell {P : Addr} {v : Value} {w W : World} (hm : w.cell? P = some v) (k : Below w.heap.size w W) : W.cell? P = some v :=
 (k.cell (World.block_lt_of_cell? _ _ hm)).trans hm
set_option maxHeartbeats 4000000 in
set_option maxRecDepth 100000 in
theorem rqtext_k (k : Int) (t : Int) (z : List UInt8) (w : World) (hz : z.length ≤ 1000) (ht : An.bd t) (hk : k = 1 ∨ k = 2 ∨ k = 4) (hr : Qy.right (k, z, t, 0, 0, 0)) :
  Calls Tryz.prog 9 #[Qy.V (k, z, t, 0, 0, 0)] w fun e w' => e = .returned (.tuple #[.string ⟨(Qy.sj (Qy.parts (k, z, t, 0, 0, 0))).toArray⟩, .int .i64 0]) ∧ Below w.heap.size w w' := by
 have RR := Lib.hid (fun W => rqright_any k t 0 0 0 z W hz)
 rw [decide_eq_true hr] at RR
 clear hr
 have KI := Lib.hid (fun W => rqheads_any W)
 have UI := Lib.hid (fun W => rqunits_any W)
 have PI := Lib.hid (fun W => rqpols_any W)
 obtain ⟨A0, ea, WA⟩ := qy_word Qy.heads k (by omega) (by show _ ≤ (7 : Int); omega)
 have za : A0.size ≤ 10 := by rw [← show A0.data.toList.length = A0.size from Array.length_toList, ea]; exact (Qy.word_len _).1
 have WA := Lib.hid WA
 have Hk := Lib.hid (show 1 ≤ k ∧ k ≤ 7 by omega)
 obtain ⟨T1, et, zt, CT⟩ := qy_num t ht
 obtain ⟨Z, hZ⟩ : ∃ Z : ByteArray, Z = ⟨z.toArray⟩ := ⟨_, rfl⟩
 have zz : Z.size ≤ 1000 := by rw [hZ]; show z.toArray.size ≤ 1000; simpa using hz
 have ez : Z.data.toList = z := by rw [hZ]
 rw [show (⟨(Qy.sj (Qy.parts (k, z, t, 0, 0, 0))).toArray⟩ : ByteArray) = A0 ++ (⟨#[32]⟩ ++ Z ++ ⟨#[32]⟩ ++ T1) from by
  have e9 : Qy.parts (k, z, t, 0, 0, 0) = [Qy.word Qy.heads k, z, Lib.itoa t] := by unfold Qy.parts; dsimp only; rw [if_pos hk]
  rw [e9]
  apply ByteArray.ext; apply Array.toList_inj.1
  simp [Qy.sj, Qy.sr, ByteArray.data_append, ea, et, ez]]
 unfold Qy.V at RR ⊢
 dsimp only at RR ⊢
 rw [← hZ] at RR ⊢
 clear hZ ez hz ea et ht
 have q0 : (k == 0) = false := by rw [beq_eq_false_iff_ne]; omega
 have q6 : (k == 6) = false := by rw [beq_eq_false_iff_ne]; omega
 have q3 : (k == 3) = false := by rw [beq_eq_false_iff_ne]; omega
 have q5 : (k == 5) = false := by rw [beq_eq_false_iff_ne]; omega
 have q7 : (k == 7) = false := by rw [beq_eq_false_iff_ne]; omega
 have hs1 : ¬ 9223372036854775807 < 1 + Z.size := by omega
 have hs2 : ¬ 9223372036854775807 < 1 + Z.size + 1 := by omega
 have hs3 : ¬ 9223372036854775807 < 1 + Z.size + 1 + T1.size := by omega
 have hs4 : ¬ 9223372036854775807 < A0.size + (1 + Z.size + 1 + T1.size) := by omega
 go_enter Tryz.func9, Tryz.ntmps9
 go_upto_region 1 with (fail)
 refine wp_named ?_; intro w0 hw0
 have d0 : Below w.heap.size w w0 := by rw [hw0]; exact gr0
 have B0 := Lib.hid d0
 have X0 : Hid (Bk6 w0 w.heap.size (.int .i64 k) (.string Z) (.int .i64 t) (.int .i64 0) (.int .i64 0) (.int .i64 0)) := Lib.hid (by rw [hw0]; exact ⟨by simp <;> omega, by intro j; simp [go_sem], by simp [go_sem], by simp [go_sem], by simp [go_sem], by simp [go_sem], by simp [go_sem], by simp [go_sem]⟩)
 clear d0 hw0
 have X := X0.out
 have Xh := X.hb; have Xf := X.fz; have X0c := X.k0; have X1c := X.k1; have X2c := X.k2; have X3c := X.k3; have X4c := X.k4; have X5c := X.k5
 clear X
 go_wp2_with fail
 refine (RR.out _).mono ?_; rintro e w1 ⟨rfl, b1⟩
 have B1 := Lib.hid (below_step B0.out b1)
 have X1 := Lib.hid (X0.out.keep b1)
 clear b1 Xh Xf X0c X1c X2c X3c X4c X5c X0 B0 RR
 have X := X1.out
 have Xh := X.hb; have Xf := X.fz; have X0c := X.k0; have X1c := X.k1; have X2c := X.k2; have X3c := X.k3; have X4c := X.k4; have X5c := X.k5
 clear X
 go_upto_region 5 with (fail)
 clear Xh Xf X0c X1c X2c X3c X4c X5c
 refine wp_region_till (R := markR [(fun v W => StS W v Qy.heads), (fun v _ => v = Value.pointer (some ⟨w.heap.size, 0, none⟩)), (fun v _ => v = Value.int .i64 k), (fun v _ => v = Value.int .i64 (k - 1)), (fun v W => ∃ ad, v = Value.pointer (some ad) ∧ W.cell? ad = some (.string A0)), (fun v _ => v = Value.string A0), (fun v _ => v = Value.string A0)]) (till := fun _ => none) (D := fun W => Below w1.heap.size w1 W) (G := fun _ W W' => Below W.heap.size W W') (by rfl) ?hbeg ⟨by kernel_rfl, by kernel_rfl, by kernel_rfl, ?hkeep, ?hstab, ObsT.all ?hobs, ?hlast⟩
 case hbeg => exact (Below.refl _ _).drew
 case hkeep => intro i w1 w2 hC hG; exact below_step hC hG
 case hstab =>
  intro i j hij ht v w1 w2 hG hm
  match j, hm with
  | 0, hm => exact StS.on hm hG
  | 1, hm => exact hm
  | 2, hm => exact hm
  | 3, hm => exact hm
  | 4, hm => exact (by obtain ⟨ad, e, hg⟩ := hm; exact ⟨ad, e, qy_cell hg hG⟩)
  | 5, hm => exact hm
  | 6, hm => exact hm
  | j + 7, hm => exact trivial
 case hobs =>
  refine ObsT.cons (k' := 1) rfl ?_ ?_
  ·
   intro fa W hW hSame hRR KK hKK
   try dsimp only at hW
   replace hKK : ∀ v w', Below W.heap.size W w' → (fun v W => StS W v Qy.heads) v w' → KK (Act.put fa _ v) w' := fun v w' h1 h2 => hKK v w' h1 h2
   clear hSame hRR
   rw [if_pos (wanted_plain rfl)]
   go_simp
   refine (KI.out _).mono ?_; rintro e w' ⟨v, rfl, hv, hb⟩
   exact hKK _ _ hb hv
  refine ObsT.cons (k' := 2) rfl ?_ ?_
  ·
   intro fa W hW hSame hRR KK hKK
   try dsimp only at hW
   have fb1 : fa.tmps[1]? = some (Value.pointer (some ⟨w.heap.size, 0, none⟩)) := (hSame.base 1 (by kernel_rfl)).trans (by kernel_rfl)
   replace hKK : ∀ v w', Below W.heap.size W w' → v = Value.pointer (some ⟨w.heap.size, 0, none⟩) → KK (Act.put fa _ v) w' := fun v w' h1 h2 => hKK v w' h1 h2
   have hX := X1.out.keep hW
   have tx := hX; obtain ⟨chb, cfz, ck0, ck1, ck2, ck3, ck4, ck5⟩ := tx
   clear hSame hRR
   rw [if_pos (wanted_plain rfl)]
   go_simp
   refine hKK _ _ ?_ ?_
   ·
    exact grP
   ·
    exact rfl
  refine ObsT.cons (k' := 3) rfl ?_ ?_
  ·
   intro fa W hW hSame hRR KK hKK
   try dsimp only at hW
   obtain ⟨fv1, ft1, (rfl : fv1 = Value.pointer (some ⟨w.heap.size, 0, none⟩))⟩ := hRR 1 _ 12 rfl rfl (by kernel_rfl) (by kernel_rfl)
   replace hKK : ∀ v w', Below W.heap.size W w' → v = Value.int .i64 k → KK (Act.put fa _ v) w' := fun v w' h1 h2 => hKK v w' h1 h2
   have hX := X1.out.keep hW
   have tx := hX; obtain ⟨chb, cfz, ck0, ck1, ck2, ck3, ck4, ck5⟩ := tx
   clear hSame hRR
   rw [if_pos (wanted_plain rfl)]
   go_simp
   refine hKK _ _ ?_ ?_
   ·
    exact grP
   ·
    exact rfl
  refine ObsT.cons (k' := 4) rfl ?_ ?_
  ·
   intro fa W hW hSame hRR KK hKK
   try dsimp only at hW
   obtain ⟨fv2, ft2, (rfl : fv2 = Value.int .i64 k)⟩ := hRR 2 _ 13 rfl rfl (by kernel_rfl) (by kernel_rfl)
   replace hKK : ∀ v w', Below W.heap.size W w' → v = Value.int .i64 (k - 1) → KK (Act.put fa _ v) w' := fun v w' h1 h2 => hKK v w' h1 h2
   clear hSame hRR
   rw [if_pos (wanted_plain rfl)]
   go_simp
   exact hKK _ _ (Below.refl _ _) (by have := Hk.out; rw [IntWalk.i64_in _ (by omega)])
  refine ObsT.cons (k' := 5) rfl ?_ ?_
  ·
   intro fa W hW hSame hRR KK hKK
   try dsimp only at hW
   obtain ⟨fv0, ft0, hk0⟩ := hRR 0 _ 11 rfl rfl (by kernel_rfl) (by kernel_rfl)
   obtain ⟨fv3, ft3, (rfl : fv3 = Value.int .i64 (k - 1))⟩ := hRR 3 _ 14 rfl rfl (by kernel_rfl) (by kernel_rfl)
   replace hKK : ∀ v w', Below W.heap.size W w' → (fun v W => ∃ ad, v = Value.pointer (some ad) ∧ W.cell? ad = some (.string A0)) v w' → KK (Act.put fa _ v) w' := fun v w' h1 h2 => hKK v w' h1 h2
   obtain ⟨a9, c9, rfl, h9⟩ := WA.out _ _ hk0
   clear hSame hRR
   rw [if_pos (wanted_plain rfl)]
   go_simp
   have hb9 := Hk.out
   rw [if_pos (by first | exact ⟨by omega, by show _ < (7 : Int); omega⟩ | (show _ < (7 : Int); omega))]
   refine hKK _ _ (Below.refl _ _) ⟨_, rfl, ?_⟩
   rw [show k.toNat - 1 = (k - 1).toNat by omega]
   exact h9
  refine ObsT.cons (k' := 6) rfl ?_ ?_
  ·
   intro fa W hW hSame hRR KK hKK
   try dsimp only at hW
   obtain ⟨fv4, ft4, ⟨ad, rfl, hg4⟩⟩ := hRR 4 _ 15 rfl rfl (by kernel_rfl) (by kernel_rfl)
   replace hKK : ∀ v w', Below W.heap.size W w' → v = Value.string A0 → KK (Act.put fa _ v) w' := fun v w' h1 h2 => hKK v w' h1 h2
   clear hSame hRR
   rw [if_pos (wanted_plain rfl)]
   go_simp
   refine hKK _ _ ?_ ?_
   ·
    exact grP
   ·
    exact rfl
  refine ObsT.cons (k' := 7) rfl ?_ ?_
  ·
   intro fa W hW hSame hRR KK hKK
   try dsimp only at hW
   obtain ⟨fv5, ft5, (rfl : fv5 = Value.string A0)⟩ := hRR 5 _ 16 rfl rfl (by kernel_rfl) (by kernel_rfl)
   replace hKK : ∀ v w', Below W.heap.size W w' → v = Value.string A0 → KK (Act.put fa _ v) w' := fun v w' h1 h2 => hKK v w' h1 h2
   clear hSame hRR
   rw [if_pos (wanted_plain rfl)]
   go_simp
   refine hKK _ _ ?_ ?_
   ·
    exact grP
   ·
    exact rfl
  exact ObsT.nil
 case hlast =>
  intro fa w2 d2 hSame hRR
  try dsimp only at d2
  obtain ⟨zz6, f4, rfl⟩ := hRR 6 _ 4 rfl rfl rfl
  rw [Same_shape hSame]
  simp only [List.filterMap_cons, List.filterMap_nil, List.foldl_cons, List.foldl_nil]
  have g4 : fa.tmps.getD 4 undef = Value.string A0 := by simp [Array.getD_eq_getD_getElem?, f4]
  rw [g4]
  generalize fa.tmps.getD 11 undef = y11
  generalize fa.tmps.getD 12 undef = y12
  generalize fa.tmps.getD 13 undef = y13
  generalize fa.tmps.getD 14 undef = y14
  generalize fa.tmps.getD 15 undef = y15
  generalize fa.tmps.getD 16 undef = y16
  clear hSame hRR f4 g4
  simp only [Act.put, List.setIfInBounds_toArray, List.set_cons_succ, List.set_cons_zero]
  have B2 := Lib.hid (below_step B1.out d2)
  have X2 := Lib.hid (X1.out.keep d2)
  clear d2 X1 B1
  have X := X2.out
  have Xh := X.hb; have Xf := X.fz; have X0c := X.k0; have X1c := X.k1; have X2c := X.k2; have X3c := X.k3; have X4c := X.k4; have X5c := X.k5
  clear X
  go_upto_region 8 with (fail)
  clear Xh Xf X0c X1c X2c X3c X4c X5c
  refine wp_region_lastm (n := 10) (R := markR [(fun v _ => v = Value.string A0), (fun v _ => v = Value.pointer (some ⟨w.heap.size, 1, none⟩)), (fun v _ => v = Value.string Z), (fun v _ => v = Value.string (⟨#[32]⟩ ++ Z)), (fun v _ => v = Value.string (⟨#[32]⟩ ++ Z ++ ⟨#[32]⟩)), (fun v _ => v = Value.pointer (some ⟨w.heap.size, 2, none⟩)), (fun v _ => v = Value.int .i64 t), (fun v _ => v = Value.string T1), (fun v _ => v = Value.string (⟨#[32]⟩ ++ Z ++ ⟨#[32]⟩ ++ T1)), (fun v _ => v = Value.string (A0 ++ (⟨#[32]⟩ ++ Z ++ ⟨#[32]⟩ ++ T1)))]) (till := fun _ => none) (D := fun W => Below w2.heap.size w2 W) (G := fun _ W W' => Below W.heap.size W W') (by rfl) ?hbeg ⟨by kernel_rfl, by kernel_rfl, by kernel_rfl, by kernel_rfl, by kernel_rfl, ?hkeep, ?hstab, ObsM.all ?hobs, ?hlast⟩
  case hbeg => exact (Below.refl _ _).drew
  case hkeep => intro i w1 w2 hC hG; exact below_step hC hG
  case hstab =>
   intro i j hij ht v w1 w2 hG hm
   match j, hm with
   | 0, hm => exact hm
   | 1, hm => exact hm
   | 2, hm => exact hm
   | 3, hm => exact hm
   | 4, hm => exact hm
   | 5, hm => exact hm
   | 6, hm => exact hm
   | 7, hm => exact hm
   | 8, hm => exact hm
   | 9, hm => exact hm
   | j + 10, hm => exact trivial
  case hobs =>
   refine ObsM.cons (k' := 1) rfl ?_ ?_
   ·
    intro fa W hW hSame hBs hRR KK hKK
    try dsimp only at hW
    have fb4 : fa.tmps[4]? = some (Value.string A0) := (hBs 4 (by kernel_rfl)).trans (by kernel_rfl)
    replace hKK : ∀ v w', Below W.heap.size W w' → v = Value.string A0 → KK (Act.put fa _ v) w' := fun v w' h1 h2 => hKK v w' h1 h2
    clear hSame hRR hBs
    rw [if_pos (wanted_plain rfl)]
    go_simp
    refine hKK _ _ ?_ ?_
    ·
     exact grP
    ·
     exact rfl
   refine ObsM.cons (k' := 2) rfl ?_ ?_
   ·
    intro fa W hW hSame hBs hRR KK hKK
    try dsimp only at hW
    have fb1 : fa.tmps[1]? = some (Value.pointer (some ⟨w.heap.size, 0, none⟩)) := (hSame.base 1 (by kernel_rfl)).trans (by kernel_rfl)
    replace hKK : ∀ v w', Below W.heap.size W w' → v = Value.pointer (some ⟨w.heap.size, 1, none⟩) → KK (Act.put fa _ v) w' := fun v w' h1 h2 => hKK v w' h1 h2
    have hX := X2.out.keep hW
    have tx := hX; obtain ⟨chb, cfz, ck0, ck1, ck2, ck3, ck4, ck5⟩ := tx
    clear hSame hRR hBs
    rw [if_pos (wanted_plain rfl)]
    go_simp
    refine hKK _ _ ?_ ?_
    ·
     exact grP
    ·
     exact rfl
   refine ObsM.cons (k' := 3) rfl ?_ ?_
   ·
    intro fa W hW hSame hBs hRR KK hKK
    try dsimp only at hW
    obtain ⟨fv1, ft1, (rfl : fv1 = Value.pointer (some ⟨w.heap.size, 1, none⟩))⟩ := hRR 1 _ 22 rfl rfl (by kernel_rfl) (by kernel_rfl)
    replace hKK : ∀ v w', Below W.heap.size W w' → v = Value.string Z → KK (Act.put fa _ v) w' := fun v w' h1 h2 => hKK v w' h1 h2
    have hX := X2.out.keep hW
    have tx := hX; obtain ⟨chb, cfz, ck0, ck1, ck2, ck3, ck4, ck5⟩ := tx
    clear hSame hRR hBs
    rw [if_pos (wanted_plain rfl)]
    go_simp
    refine hKK _ _ ?_ ?_
    ·
     exact grP
    ·
     exact rfl
   refine ObsM.cons (k' := 4) rfl ?_ ?_
   ·
    intro fa W hW hSame hBs hRR KK hKK
    try dsimp only at hW
    obtain ⟨fv2, ft2, (rfl : fv2 = Value.string Z)⟩ := hRR 2 _ 23 rfl rfl (by kernel_rfl) (by kernel_rfl)
    replace hKK : ∀ v w', Below W.heap.size W w' → v = Value.string (⟨#[32]⟩ ++ Z) → KK (Act.put fa _ v) w' := fun v w' h1 h2 => hKK v w' h1 h2
    clear hSame hRR hBs
    rw [if_pos (wanted_plain rfl)]
    go_simp
    refine hKK _ _ ?_ ?_
    ·
     exact grP
    ·
     exact rfl
   refine ObsM.cons (k' := 5) rfl ?_ ?_
   ·
    intro fa W hW hSame hBs hRR KK hKK
    try dsimp only at hW
    obtain ⟨fv3, ft3, (rfl : fv3 = Value.string (⟨#[32]⟩ ++ Z))⟩ := hRR 3 _ 24 rfl rfl (by kernel_rfl) (by kernel_rfl)
    replace hKK : ∀ v w', Below W.heap.size W w' → v = Value.string (⟨#[32]⟩ ++ Z ++ ⟨#[32]⟩) → KK (Act.put fa _ v) w' := fun v w' h1 h2 => hKK v w' h1 h2
    clear hSame hRR hBs
    rw [if_pos (wanted_plain rfl)]
    go_simp
    refine hKK _ _ ?_ ?_
    ·
     exact grP
    ·
     exact rfl
   refine ObsM.cons (k' := 6) rfl ?_ ?_
   ·
    intro fa W hW hSame hBs hRR KK hKK
    try dsimp only at hW
    have fb1 : fa.tmps[1]? = some (Value.pointer (some ⟨w.heap.size, 0, none⟩)) := (hSame.base 1 (by kernel_rfl)).trans (by kernel_rfl)
    replace hKK : ∀ v w', Below W.heap.size W w' → v = Value.pointer (some ⟨w.heap.size, 2, none⟩) → KK (Act.put fa _ v) w' := fun v w' h1 h2 => hKK v w' h1 h2
    have hX := X2.out.keep hW
    have tx := hX; obtain ⟨chb, cfz, ck0, ck1, ck2, ck3, ck4, ck5⟩ := tx
    clear hSame hRR hBs
    rw [if_pos (wanted_plain rfl)]
    go_simp
    refine hKK _ _ ?_ ?_
    ·
     exact grP
    ·
     exact rfl
   refine ObsM.cons (k' := 7) rfl ?_ ?_
   ·
    intro fa W hW hSame hBs hRR KK hKK
    try dsimp only at hW
    obtain ⟨fv5, ft5, (rfl : fv5 = Value.pointer (some ⟨w.heap.size, 2, none⟩))⟩ := hRR 5 _ 26 rfl rfl (by kernel_rfl) (by kernel_rfl)
    replace hKK : ∀ v w', Below W.heap.size W w' → v = Value.int .i64 t → KK (Act.put fa _ v) w' := fun v w' h1 h2 => hKK v w' h1 h2
    have hX := X2.out.keep hW
    have tx := hX; obtain ⟨chb, cfz, ck0, ck1, ck2, ck3, ck4, ck5⟩ := tx
    clear hSame hRR hBs
    rw [if_pos (wanted_plain rfl)]
    go_simp
    refine hKK _ _ ?_ ?_
    ·
     exact grP
    ·
     exact rfl
   refine ObsM.cons (k' := 8) rfl ?_ ?_
   ·
    intro fa W hW hSame hBs hRR KK hKK
    try dsimp only at hW
    obtain ⟨fv6, ft6, (rfl : fv6 = Value.int .i64 t)⟩ := hRR 6 _ 27 rfl rfl (by kernel_rfl) (by kernel_rfl)
    replace hKK : ∀ v w', Below W.heap.size W w' → v = Value.string T1 → KK (Act.put fa _ v) w' := fun v w' h1 h2 => hKK v w' h1 h2
    clear hSame hRR hBs
    rw [if_pos (wanted_plain rfl)]
    go_simp
    refine (CT.out _).mono ?_; rintro e w' ⟨rfl, hb⟩
    exact hKK _ _ hb rfl
   refine ObsM.cons (k' := 9) rfl ?_ ?_
   ·
    intro fa W hW hSame hBs hRR KK hKK
    try dsimp only at hW
    obtain ⟨fv4, ft4, (rfl : fv4 = Value.string (⟨#[32]⟩ ++ Z ++ ⟨#[32]⟩))⟩ := hRR 4 _ 25 rfl rfl (by kernel_rfl) (by kernel_rfl)
    obtain ⟨fv7, ft7, (rfl : fv7 = Value.string T1)⟩ := hRR 7 _ 28 rfl rfl (by kernel_rfl) (by kernel_rfl)
    replace hKK : ∀ v w', Below W.heap.size W w' → v = Value.string (⟨#[32]⟩ ++ Z ++ ⟨#[32]⟩ ++ T1) → KK (Act.put fa _ v) w' := fun v w' h1 h2 => hKK v w' h1 h2
    clear hSame hRR hBs
    rw [if_pos (wanted_plain rfl)]
    go_simp
    refine hKK _ _ ?_ ?_
    ·
     exact grP
    ·
     exact rfl
   refine ObsM.cons (k' := 10) rfl ?_ ?_
   ·
    intro fa W hW hSame hBs hRR KK hKK
    try dsimp only at hW
    obtain ⟨fv0, ft0, (rfl : fv0 = Value.string A0)⟩ := hRR 0 _ 21 rfl rfl (by kernel_rfl) (by kernel_rfl)
    obtain ⟨fv8, ft8, (rfl : fv8 = Value.string (⟨#[32]⟩ ++ Z ++ ⟨#[32]⟩ ++ T1))⟩ := hRR 8 _ 29 rfl rfl (by kernel_rfl) (by kernel_rfl)
    replace hKK : ∀ v w', Below W.heap.size W w' → v = Value.string (A0 ++ (⟨#[32]⟩ ++ Z ++ ⟨#[32]⟩ ++ T1)) → KK (Act.put fa _ v) w' := fun v w' h1 h2 => hKK v w' h1 h2
    clear hSame hRR hBs
    rw [if_pos (wanted_plain rfl)]
    go_simp
    refine hKK _ _ ?_ ?_
    ·
     exact grP
    ·
     exact rfl
   exact ObsM.nil
  case hlast =>
   intro o ho fa W hW hSame hBs hRR KK hKK
   replace ho := Option.some.inj (show some _ = some o from ho)
   subst ho
   try dsimp only at hW
   obtain ⟨fv9, ft9, (rfl : fv9 = Value.string (A0 ++ (⟨#[32]⟩ ++ Z ++ ⟨#[32]⟩ ++ T1)))⟩ := hRR 9 _ 30 (by decide) rfl rfl rfl
   rw [if_pos (wanted_plain rfl)]
   go_simp
   refine hKK _ _ ?_
   clear hKK
   rw [Same_shape hSame]
   simp only [List.filterMap_cons, List.filterMap_nil, List.foldl_cons, List.foldl_nil]
   generalize fa.tmps.getD 21 undef = y21
   generalize fa.tmps.getD 22 undef = y22
   generalize fa.tmps.getD 23 undef = y23
   generalize fa.tmps.getD 24 undef = y24
   generalize fa.tmps.getD 25 undef = y25
   generalize fa.tmps.getD 26 undef = y26
   generalize fa.tmps.getD 27 undef = y27
   generalize fa.tmps.getD 28 undef = y28
   generalize fa.tmps.getD 29 undef = y29
   generalize fa.tmps.getD 30 undef = y30
   generalize fa.tmps.getD 4 undef = y4
   clear hSame hBs hRR  ft9
   simp only [Act.put, List.setIfInBounds_toArray, List.set_cons_succ, List.set_cons_zero]
   rename World => w3
   have B3 := Lib.hid (below_step B2.out hW)
   have X3 := Lib.hid (X2.out.keep hW)
   clear hW X2 B2
   have X := X3.out
   have Xh := X.hb; have Xf := X.fz; have X0c := X.k0; have X1c := X.k1; have X2c := X.k2; have X3c := X.k3; have X4c := X.k4; have X5c := X.k5
   clear X
   go_wp2_with fail
   go_ret2
   exact ⟨rfl, B3.out⟩
set_option maxHeartbeats 4000000 in
set_option maxRecDepth 100000 in
theorem rqtext_3 (t p : Int) (z : List UInt8) (w : World) (hz : z.length ≤ 1000) (ht : An.bd t) (hp : 1 ≤ p ∧ p ≤ 3) (hr : Qy.right (3, z, t, 0, 0, p)) :
  Calls Tryz.prog 9 #[Qy.V (3, z, t, 0, 0, p)] w fun e w' => e = .returned (.tuple #[.string ⟨(Qy.sj (Qy.parts (3, z, t, 0, 0, p))).toArray⟩, .int .i64 0]) ∧ Below w.heap.size w w' := by
 have RR := Lib.hid (fun W => rqright_any 3 t 0 0 p z W hz)
 rw [decide_eq_true hr] at RR
 clear hr
 have KI := Lib.hid (fun W => rqheads_any W)
 have UI := Lib.hid (fun W => rqunits_any W)
 have PI := Lib.hid (fun W => rqpols_any W)
 obtain ⟨A0, ea, WA⟩ := qy_word Qy.heads 3 (by omega) (by show _ ≤ (7 : Int); omega)
 have za : A0.size ≤ 10 := by rw [← show A0.data.toList.length = A0.size from Array.length_toList, ea]; exact (Qy.word_len _).1
 have WA := Lib.hid WA
 have Hp := Lib.hid (show 1 ≤ p ∧ p ≤ 3 by omega)
 obtain ⟨T1, et, zt, CT⟩ := qy_num t ht
 obtain ⟨O1, ep, WP⟩ := qy_word Qy.pols p (by omega) (by show _ ≤ (3 : Int); omega)
 have zp : O1.size ≤ 10 := by rw [← show O1.data.toList.length = O1.size from Array.length_toList, ep]; exact (Qy.word_len _).2.2
 have WP := Lib.hid WP
 obtain ⟨Z, hZ⟩ : ∃ Z : ByteArray, Z = ⟨z.toArray⟩ := ⟨_, rfl⟩
 have zz : Z.size ≤ 1000 := by rw [hZ]; show z.toArray.size ≤ 1000; simpa using hz
 have ez : Z.data.toList = z := by rw [hZ]
 rw [show (⟨(Qy.sj (Qy.parts (3, z, t, 0, 0, p))).toArray⟩ : ByteArray) = A0 ++ (⟨#[32]⟩ ++ Z ++ ⟨#[32]⟩ ++ T1) ++ (⟨#[32]⟩ ++ O1) from by
  have e9 : Qy.parts (3, z, t, 0, 0, p) = [Qy.word Qy.heads 3, z, Lib.itoa t, Qy.word Qy.pols p] := rfl
  rw [e9]
  apply ByteArray.ext; apply Array.toList_inj.1
  simp [Qy.sj, Qy.sr, ByteArray.data_append, ea, et, ep, ez]]
 unfold Qy.V at RR ⊢
 dsimp only at RR ⊢
 rw [← hZ] at RR ⊢
 clear hZ ez hz ea et ep ht
 have hs1 : ¬ 9223372036854775807 < 1 + Z.size := by omega
 have hs2 : ¬ 9223372036854775807 < 1 + Z.size + 1 := by omega
 have hs3 : ¬ 9223372036854775807 < 1 + Z.size + 1 + T1.size := by omega
 have hs4 : ¬ 9223372036854775807 < A0.size + (1 + Z.size + 1 + T1.size) := by omega
 go_enter Tryz.func9, Tryz.ntmps9
 go_upto_region 1 with (fail)
 refine wp_named ?_; intro w0 hw0
 have d0 : Below w.heap.size w w0 := by rw [hw0]; exact gr0
 have B0 := Lib.hid d0
 have X0 : Hid (Bk6 w0 w.heap.size (.int .i64 3) (.string Z) (.int .i64 t) (.int .i64 0) (.int .i64 0) (.int .i64 p)) := Lib.hid (by rw [hw0]; exact ⟨by simp <;> omega, by intro j; simp [go_sem], by simp [go_sem], by simp [go_sem], by simp [go_sem], by simp [go_sem], by simp [go_sem], by simp [go_sem]⟩)
 clear d0 hw0
 have X := X0.out
 have Xh := X.hb; have Xf := X.fz; have X0c := X.k0; have X1c := X.k1; have X2c := X.k2; have X3c := X.k3; have X4c := X.k4; have X5c := X.k5
 clear X
 go_wp2_with fail
 refine (RR.out _).mono ?_; rintro e w1 ⟨rfl, b1⟩
 have B1 := Lib.hid (below_step B0.out b1)
 have X1 := Lib.hid (X0.out.keep b1)
 clear b1 Xh Xf X0c X1c X2c X3c X4c X5c X0 B0 RR
 have X := X1.out
 have Xh := X.hb; have Xf := X.fz; have X0c := X.k0; have X1c := X.k1; have X2c := X.k2; have X3c := X.k3; have X4c := X.k4; have X5c := X.k5
 clear X
 go_upto_region 5 with (fail)
 clear Xh Xf X0c X1c X2c X3c X4c X5c
 refine wp_region_till (R := markR [(fun v W => StS W v Qy.heads), (fun v _ => v = Value.pointer (some ⟨w.heap.size, 0, none⟩)), (fun v _ => v = Value.int .i64 3), (fun v _ => v = Value.int .i64 2), (fun v W => ∃ ad, v = Value.pointer (some ad) ∧ W.cell? ad = some (.string A0)), (fun v _ => v = Value.string A0), (fun v _ => v = Value.string A0)]) (till := fun _ => none) (D := fun W => Below w1.heap.size w1 W) (G := fun _ W W' => Below W.heap.size W W') (by rfl) ?hbeg ⟨by kernel_rfl, by kernel_rfl, by kernel_rfl, ?hkeep, ?hstab, ObsT.all ?hobs, ?hlast⟩
 case hbeg => exact (Below.refl _ _).drew
 case hkeep => intro i w1 w2 hC hG; exact below_step hC hG
 case hstab =>
  intro i j hij ht v w1 w2 hG hm
  match j, hm with
  | 0, hm => exact StS.on hm hG
  | 1, hm => exact hm
  | 2, hm => exact hm
  | 3, hm => exact hm
  | 4, hm => exact (by obtain ⟨ad, e, hg⟩ := hm; exact ⟨ad, e, qy_cell hg hG⟩)
  | 5, hm => exact hm
  | 6, hm => exact hm
  | j + 7, hm => exact trivial
 case hobs =>
  refine ObsT.cons (k' := 1) rfl ?_ ?_
  ·
   intro fa W hW hSame hRR KK hKK
   try dsimp only at hW
   replace hKK : ∀ v w', Below W.heap.size W w' → (fun v W => StS W v Qy.heads) v w' → KK (Act.put fa _ v) w' := fun v w' h1 h2 => hKK v w' h1 h2
   clear hSame hRR
   rw [if_pos (wanted_plain rfl)]
   go_simp
   refine (KI.out _).mono ?_; rintro e w' ⟨v, rfl, hv, hb⟩
   exact hKK _ _ hb hv
  refine ObsT.cons (k' := 2) rfl ?_ ?_
  ·
   intro fa W hW hSame hRR KK hKK
   try dsimp only at hW
   have fb1 : fa.tmps[1]? = some (Value.pointer (some ⟨w.heap.size, 0, none⟩)) := (hSame.base 1 (by kernel_rfl)).trans (by kernel_rfl)
   replace hKK : ∀ v w', Below W.heap.size W w' → v = Value.pointer (some ⟨w.heap.size, 0, none⟩) → KK (Act.put fa _ v) w' := fun v w' h1 h2 => hKK v w' h1 h2
   have hX := X1.out.keep hW
   have tx := hX; obtain ⟨chb, cfz, ck0, ck1, ck2, ck3, ck4, ck5⟩ := tx
   clear hSame hRR
   rw [if_pos (wanted_plain rfl)]
   go_simp
   refine hKK _ _ ?_ ?_
   ·
    exact grP
   ·
    exact rfl
  refine ObsT.cons (k' := 3) rfl ?_ ?_
  ·
   intro fa W hW hSame hRR KK hKK
   try dsimp only at hW
   obtain ⟨fv1, ft1, (rfl : fv1 = Value.pointer (some ⟨w.heap.size, 0, none⟩))⟩ := hRR 1 _ 12 rfl rfl (by kernel_rfl) (by kernel_rfl)
   replace hKK : ∀ v w', Below W.heap.size W w' → v = Value.int .i64 3 → KK (Act.put fa _ v) w' := fun v w' h1 h2 => hKK v w' h1 h2
   have hX := X1.out.keep hW
   have tx := hX; obtain ⟨chb, cfz, ck0, ck1, ck2, ck3, ck4, ck5⟩ := tx
   clear hSame hRR
   rw [if_pos (wanted_plain rfl)]
   go_simp
   refine hKK _ _ ?_ ?_
   ·
    exact grP
   ·
    exact rfl
  refine ObsT.cons (k' := 4) rfl ?_ ?_
  ·
   intro fa W hW hSame hRR KK hKK
   try dsimp only at hW
   obtain ⟨fv2, ft2, (rfl : fv2 = Value.int .i64 3)⟩ := hRR 2 _ 13 rfl rfl (by kernel_rfl) (by kernel_rfl)
   replace hKK : ∀ v w', Below W.heap.size W w' → v = Value.int .i64 2 → KK (Act.put fa _ v) w' := fun v w' h1 h2 => hKK v w' h1 h2
   clear hSame hRR
   rw [if_pos (wanted_plain rfl)]
   go_simp
   refine hKK _ _ ?_ ?_
   ·
    exact grP
   ·
    exact rfl
  refine ObsT.cons (k' := 5) rfl ?_ ?_
  ·
   intro fa W hW hSame hRR KK hKK
   try dsimp only at hW
   obtain ⟨fv0, ft0, hk0⟩ := hRR 0 _ 11 rfl rfl (by kernel_rfl) (by kernel_rfl)
   obtain ⟨fv3, ft3, (rfl : fv3 = Value.int .i64 2)⟩ := hRR 3 _ 14 rfl rfl (by kernel_rfl) (by kernel_rfl)
   replace hKK : ∀ v w', Below W.heap.size W w' → (fun v W => ∃ ad, v = Value.pointer (some ad) ∧ W.cell? ad = some (.string A0)) v w' → KK (Act.put fa _ v) w' := fun v w' h1 h2 => hKK v w' h1 h2
   obtain ⟨a9, c9, rfl, h9⟩ := WA.out _ _ hk0
   clear hSame hRR
   rw [if_pos (wanted_plain rfl)]
   go_simp
   refine hKK _ _ (Below.refl _ _) ⟨_, rfl, ?_⟩
   exact h9
  refine ObsT.cons (k' := 6) rfl ?_ ?_
  ·
   intro fa W hW hSame hRR KK hKK
   try dsimp only at hW
   obtain ⟨fv4, ft4, ⟨ad, rfl, hg4⟩⟩ := hRR 4 _ 15 rfl rfl (by kernel_rfl) (by kernel_rfl)
   replace hKK : ∀ v w', Below W.heap.size W w' → v = Value.string A0 → KK (Act.put fa _ v) w' := fun v w' h1 h2 => hKK v w' h1 h2
   clear hSame hRR
   rw [if_pos (wanted_plain rfl)]
   go_simp
   refine hKK _ _ ?_ ?_
   ·
    exact grP
   ·
    exact rfl
  refine ObsT.cons (k' := 7) rfl ?_ ?_
  ·
   intro fa W hW hSame hRR KK hKK
   try dsimp only at hW
   obtain ⟨fv5, ft5, (rfl : fv5 = Value.string A0)⟩ := hRR 5 _ 16 rfl rfl (by kernel_rfl) (by kernel_rfl)
   replace hKK : ∀ v w', Below W.heap.size W w' → v = Value.string A0 → KK (Act.put fa _ v) w' := fun v w' h1 h2 => hKK v w' h1 h2
   clear hSame hRR
   rw [if_pos (wanted_plain rfl)]
   go_simp
   refine hKK _ _ ?_ ?_
   ·
    exact grP
   ·
    exact rfl
  exact ObsT.nil
 case hlast =>
  intro fa w2 d2 hSame hRR
  try dsimp only at d2
  obtain ⟨zz6, f4, rfl⟩ := hRR 6 _ 4 rfl rfl rfl
  rw [Same_shape hSame]
  simp only [List.filterMap_cons, List.filterMap_nil, List.foldl_cons, List.foldl_nil]
  have g4 : fa.tmps.getD 4 undef = Value.string A0 := by simp [Array.getD_eq_getD_getElem?, f4]
  rw [g4]
  generalize fa.tmps.getD 11 undef = y11
  generalize fa.tmps.getD 12 undef = y12
  generalize fa.tmps.getD 13 undef = y13
  generalize fa.tmps.getD 14 undef = y14
  generalize fa.tmps.getD 15 undef = y15
  generalize fa.tmps.getD 16 undef = y16
  clear hSame hRR f4 g4
  simp only [Act.put, List.setIfInBounds_toArray, List.set_cons_succ, List.set_cons_zero]
  have B2 := Lib.hid (below_step B1.out d2)
  have X2 := Lib.hid (X1.out.keep d2)
  clear d2 X1 B1
  have X := X2.out
  have Xh := X.hb; have Xf := X.fz; have X0c := X.k0; have X1c := X.k1; have X2c := X.k2; have X3c := X.k3; have X4c := X.k4; have X5c := X.k5
  clear X
  go_upto_region 8 with (fail)
  clear Xh Xf X0c X1c X2c X3c X4c X5c
  refine wp_region_lastm (n := 10) (R := markR [(fun v _ => v = Value.string A0), (fun v _ => v = Value.pointer (some ⟨w.heap.size, 1, none⟩)), (fun v _ => v = Value.string Z), (fun v _ => v = Value.string (⟨#[32]⟩ ++ Z)), (fun v _ => v = Value.string (⟨#[32]⟩ ++ Z ++ ⟨#[32]⟩)), (fun v _ => v = Value.pointer (some ⟨w.heap.size, 2, none⟩)), (fun v _ => v = Value.int .i64 t), (fun v _ => v = Value.string T1), (fun v _ => v = Value.string (⟨#[32]⟩ ++ Z ++ ⟨#[32]⟩ ++ T1)), (fun v _ => v = Value.string (A0 ++ (⟨#[32]⟩ ++ Z ++ ⟨#[32]⟩ ++ T1)))]) (till := fun _ => none) (D := fun W => Below w2.heap.size w2 W) (G := fun _ W W' => Below W.heap.size W W') (by rfl) ?hbeg ⟨by kernel_rfl, by kernel_rfl, by kernel_rfl, by kernel_rfl, by kernel_rfl, ?hkeep, ?hstab, ObsM.all ?hobs, ?hlast⟩
  case hbeg => exact (Below.refl _ _).drew
  case hkeep => intro i w1 w2 hC hG; exact below_step hC hG
  case hstab =>
   intro i j hij ht v w1 w2 hG hm
   match j, hm with
   | 0, hm => exact hm
   | 1, hm => exact hm
   | 2, hm => exact hm
   | 3, hm => exact hm
   | 4, hm => exact hm
   | 5, hm => exact hm
   | 6, hm => exact hm
   | 7, hm => exact hm
   | 8, hm => exact hm
   | 9, hm => exact hm
   | j + 10, hm => exact trivial
  case hobs =>
   refine ObsM.cons (k' := 1) rfl ?_ ?_
   ·
    intro fa W hW hSame hBs hRR KK hKK
    try dsimp only at hW
    have fb4 : fa.tmps[4]? = some (Value.string A0) := (hBs 4 (by kernel_rfl)).trans (by kernel_rfl)
    replace hKK : ∀ v w', Below W.heap.size W w' → v = Value.string A0 → KK (Act.put fa _ v) w' := fun v w' h1 h2 => hKK v w' h1 h2
    clear hSame hRR hBs
    rw [if_pos (wanted_plain rfl)]
    go_simp
    refine hKK _ _ ?_ ?_
    ·
     exact grP
    ·
     exact rfl
   refine ObsM.cons (k' := 2) rfl ?_ ?_
   ·
    intro fa W hW hSame hBs hRR KK hKK
    try dsimp only at hW
    have fb1 : fa.tmps[1]? = some (Value.pointer (some ⟨w.heap.size, 0, none⟩)) := (hSame.base 1 (by kernel_rfl)).trans (by kernel_rfl)
    replace hKK : ∀ v w', Below W.heap.size W w' → v = Value.pointer (some ⟨w.heap.size, 1, none⟩) → KK (Act.put fa _ v) w' := fun v w' h1 h2 => hKK v w' h1 h2
    have hX := X2.out.keep hW
    have tx := hX; obtain ⟨chb, cfz, ck0, ck1, ck2, ck3, ck4, ck5⟩ := tx
    clear hSame hRR hBs
    rw [if_pos (wanted_plain rfl)]
    go_simp
    refine hKK _ _ ?_ ?_
    ·
     exact grP
    ·
     exact rfl
   refine ObsM.cons (k' := 3) rfl ?_ ?_
   ·
    intro fa W hW hSame hBs hRR KK hKK
    try dsimp only at hW
    obtain ⟨fv1, ft1, (rfl : fv1 = Value.pointer (some ⟨w.heap.size, 1, none⟩))⟩ := hRR 1 _ 22 rfl rfl (by kernel_rfl) (by kernel_rfl)
    replace hKK : ∀ v w', Below W.heap.size W w' → v = Value.string Z → KK (Act.put fa _ v) w' := fun v w' h1 h2 => hKK v w' h1 h2
    have hX := X2.out.keep hW
    have tx := hX; obtain ⟨chb, cfz, ck0, ck1, ck2, ck3, ck4, ck5⟩ := tx
    clear hSame hRR hBs
    rw [if_pos (wanted_plain rfl)]
    go_simp
    refine hKK _ _ ?_ ?_
    ·
     exact grP
    ·
     exact rfl
   refine ObsM.cons (k' := 4) rfl ?_ ?_
   ·
    intro fa W hW hSame hBs hRR KK hKK
    try dsimp only at hW
    obtain ⟨fv2, ft2, (rfl : fv2 = Value.string Z)⟩ := hRR 2 _ 23 rfl rfl (by kernel_rfl) (by kernel_rfl)
    replace hKK : ∀ v w', Below W.heap.size W w' → v = Value.string (⟨#[32]⟩ ++ Z) → KK (Act.put fa _ v) w' := fun v w' h1 h2 => hKK v w' h1 h2
    clear hSame hRR hBs
    rw [if_pos (wanted_plain rfl)]
    go_simp
    refine hKK _ _ ?_ ?_
    ·
     exact grP
    ·
     exact rfl
   refine ObsM.cons (k' := 5) rfl ?_ ?_
   ·
    intro fa W hW hSame hBs hRR KK hKK
    try dsimp only at hW
    obtain ⟨fv3, ft3, (rfl : fv3 = Value.string (⟨#[32]⟩ ++ Z))⟩ := hRR 3 _ 24 rfl rfl (by kernel_rfl) (by kernel_rfl)
    replace hKK : ∀ v w', Below W.heap.size W w' → v = Value.string (⟨#[32]⟩ ++ Z ++ ⟨#[32]⟩) → KK (Act.put fa _ v) w' := fun v w' h1 h2 => hKK v w' h1 h2
    clear hSame hRR hBs
    rw [if_pos (wanted_plain rfl)]
    go_simp
    refine hKK _ _ ?_ ?_
    ·
     exact grP
    ·
     exact rfl
   refine ObsM.cons (k' := 6) rfl ?_ ?_
   ·
    intro fa W hW hSame hBs hRR KK hKK
    try dsimp only at hW
    have fb1 : fa.tmps[1]? = some (Value.pointer (some ⟨w.heap.size, 0, none⟩)) := (hSame.base 1 (by kernel_rfl)).trans (by kernel_rfl)
    replace hKK : ∀ v w', Below W.heap.size W w' → v = Value.pointer (some ⟨w.heap.size, 2, none⟩) → KK (Act.put fa _ v) w' := fun v w' h1 h2 => hKK v w' h1 h2
    have hX := X2.out.keep hW
    have tx := hX; obtain ⟨chb, cfz, ck0, ck1, ck2, ck3, ck4, ck5⟩ := tx
    clear hSame hRR hBs
    rw [if_pos (wanted_plain rfl)]
    go_simp
    refine hKK _ _ ?_ ?_
    ·
     exact grP
    ·
     exact rfl
   refine ObsM.cons (k' := 7) rfl ?_ ?_
   ·
    intro fa W hW hSame hBs hRR KK hKK
    try dsimp only at hW
    obtain ⟨fv5, ft5, (rfl : fv5 = Value.pointer (some ⟨w.heap.size, 2, none⟩))⟩ := hRR 5 _ 26 rfl rfl (by kernel_rfl) (by kernel_rfl)
    replace hKK : ∀ v w', Below W.heap.size W w' → v = Value.int .i64 t → KK (Act.put fa _ v) w' := fun v w' h1 h2 => hKK v w' h1 h2
    have hX := X2.out.keep hW
    have tx := hX; obtain ⟨chb, cfz, ck0, ck1, ck2, ck3, ck4, ck5⟩ := tx
    clear hSame hRR hBs
    rw [if_pos (wanted_plain rfl)]
    go_simp
    refine hKK _ _ ?_ ?_
    ·
     exact grP
    ·
     exact rfl
   refine ObsM.cons (k' := 8) rfl ?_ ?_
   ·
    intro fa W hW hSame hBs hRR KK hKK
    try dsimp only at hW
    obtain ⟨fv6, ft6, (rfl : fv6 = Value.int .i64 t)⟩ := hRR 6 _ 27 rfl rfl (by kernel_rfl) (by kernel_rfl)
    replace hKK : ∀ v w', Below W.heap.size W w' → v = Value.string T1 → KK (Act.put fa _ v) w' := fun v w' h1 h2 => hKK v w' h1 h2
    clear hSame hRR hBs
    rw [if_pos (wanted_plain rfl)]
    go_simp
    refine (CT.out _).mono ?_; rintro e w' ⟨rfl, hb⟩
    exact hKK _ _ hb rfl
   refine ObsM.cons (k' := 9) rfl ?_ ?_
   ·
    intro fa W hW hSame hBs hRR KK hKK
    try dsimp only at hW
    obtain ⟨fv4, ft4, (rfl : fv4 = Value.string (⟨#[32]⟩ ++ Z ++ ⟨#[32]⟩))⟩ := hRR 4 _ 25 rfl rfl (by kernel_rfl) (by kernel_rfl)
    obtain ⟨fv7, ft7, (rfl : fv7 = Value.string T1)⟩ := hRR 7 _ 28 rfl rfl (by kernel_rfl) (by kernel_rfl)
    replace hKK : ∀ v w', Below W.heap.size W w' → v = Value.string (⟨#[32]⟩ ++ Z ++ ⟨#[32]⟩ ++ T1) → KK (Act.put fa _ v) w' := fun v w' h1 h2 => hKK v w' h1 h2
    clear hSame hRR hBs
    rw [if_pos (wanted_plain rfl)]
    go_simp
    refine hKK _ _ ?_ ?_
    ·
     exact grP
    ·
     exact rfl
   refine ObsM.cons (k' := 10) rfl ?_ ?_
   ·
    intro fa W hW hSame hBs hRR KK hKK
    try dsimp only at hW
    obtain ⟨fv0, ft0, (rfl : fv0 = Value.string A0)⟩ := hRR 0 _ 21 rfl rfl (by kernel_rfl) (by kernel_rfl)
    obtain ⟨fv8, ft8, (rfl : fv8 = Value.string (⟨#[32]⟩ ++ Z ++ ⟨#[32]⟩ ++ T1))⟩ := hRR 8 _ 29 rfl rfl (by kernel_rfl) (by kernel_rfl)
    replace hKK : ∀ v w', Below W.heap.size W w' → v = Value.string (A0 ++ (⟨#[32]⟩ ++ Z ++ ⟨#[32]⟩ ++ T1)) → KK (Act.put fa _ v) w' := fun v w' h1 h2 => hKK v w' h1 h2
    clear hSame hRR hBs
    rw [if_pos (wanted_plain rfl)]
    go_simp
    refine hKK _ _ ?_ ?_
    ·
     exact grP
    ·
     exact rfl
   exact ObsM.nil
  case hlast =>
   intro o ho fa W hW hSame hBs hRR KK hKK
   replace ho := Option.some.inj (show some _ = some o from ho)
   subst ho
   try dsimp only at hW
   obtain ⟨fv9, ft9, (rfl : fv9 = Value.string (A0 ++ (⟨#[32]⟩ ++ Z ++ ⟨#[32]⟩ ++ T1)))⟩ := hRR 9 _ 30 (by decide) rfl rfl rfl
   rw [if_pos (wanted_plain rfl)]
   go_simp
   refine hKK _ _ ?_
   clear hKK
   rw [Same_shape hSame]
   simp only [List.filterMap_cons, List.filterMap_nil, List.foldl_cons, List.foldl_nil]
   generalize fa.tmps.getD 21 undef = y21
   generalize fa.tmps.getD 22 undef = y22
   generalize fa.tmps.getD 23 undef = y23
   generalize fa.tmps.getD 24 undef = y24
   generalize fa.tmps.getD 25 undef = y25
   generalize fa.tmps.getD 26 undef = y26
   generalize fa.tmps.getD 27 undef = y27
   generalize fa.tmps.getD 28 undef = y28
   generalize fa.tmps.getD 29 undef = y29
   generalize fa.tmps.getD 30 undef = y30
   generalize fa.tmps.getD 4 undef = y4
   clear hSame hBs hRR  ft9
   simp only [Act.put, List.setIfInBounds_toArray, List.set_cons_succ, List.set_cons_zero]
   rename World => w3
   have B3 := Lib.hid (below_step B2.out hW)
   have X3 := Lib.hid (X2.out.keep hW)
   clear hW X2 B2
   have X := X3.out
   have Xh := X.hb; have Xf := X.fz; have X0c := X.k0; have X1c := X.k1; have X2c := X.k2; have X3c := X.k3; have X4c := X.k4; have X5c := X.k5
   clear X
   go_upto_region 14 with (fail)
   clear Xh Xf X0c X1c X2c X3c X4c X5c
   refine wp_region_lastm (n := 9) (R := markR [(fun v _ => v = Value.string (A0 ++ (⟨#[32]⟩ ++ Z ++ ⟨#[32]⟩ ++ T1))), (fun v W => StS W v Qy.pols), (fun v _ => v = Value.pointer (some ⟨w.heap.size, 5, none⟩)), (fun v _ => v = Value.int .i64 p), (fun v _ => v = Value.int .i64 (p - 1)), (fun v W => ∃ ad, v = Value.pointer (some ad) ∧ W.cell? ad = some (.string O1)), (fun v _ => v = Value.string O1), (fun v _ => v = Value.string (⟨#[32]⟩ ++ O1)), (fun v _ => v = Value.string (A0 ++ (⟨#[32]⟩ ++ Z ++ ⟨#[32]⟩ ++ T1) ++ (⟨#[32]⟩ ++ O1)))]) (till := fun _ => none) (D := fun W => Below w3.heap.size w3 W) (G := fun _ W W' => Below W.heap.size W W') (by rfl) ?hbeg ⟨by kernel_rfl, by kernel_rfl, by kernel_rfl, by kernel_rfl, by kernel_rfl, ?hkeep, ?hstab, ObsM.all ?hobs, ?hlast⟩
   case hbeg => exact (Below.refl _ _).drew
   case hkeep => intro i w1 w2 hC hG; exact below_step hC hG
   case hstab =>
    intro i j hij ht v w1 w2 hG hm
    match j, hm with
    | 0, hm => exact hm
    | 1, hm => exact StS.on hm hG
    | 2, hm => exact hm
    | 3, hm => exact hm
    | 4, hm => exact hm
    | 5, hm => exact (by obtain ⟨ad, e, hg⟩ := hm; exact ⟨ad, e, qy_cell hg hG⟩)
    | 6, hm => exact hm
    | 7, hm => exact hm
    | 8, hm => exact hm
    | j + 9, hm => exact trivial
   case hobs =>
    refine ObsM.cons (k' := 1) rfl ?_ ?_
    ·
     intro fa W hW hSame hBs hRR KK hKK
     try dsimp only at hW
     have fb4 : fa.tmps[4]? = some (Value.string (A0 ++ (⟨#[32]⟩ ++ Z ++ ⟨#[32]⟩ ++ T1))) := (hBs 4 (by kernel_rfl)).trans (by kernel_rfl)
     replace hKK : ∀ v w', Below W.heap.size W w' → v = Value.string (A0 ++ (⟨#[32]⟩ ++ Z ++ ⟨#[32]⟩ ++ T1)) → KK (Act.put fa _ v) w' := fun v w' h1 h2 => hKK v w' h1 h2
     clear hSame hRR hBs
     rw [if_pos (wanted_plain rfl)]
     go_simp
     refine hKK _ _ ?_ ?_
     ·
      exact grP
     ·
      exact rfl
    refine ObsM.cons (k' := 2) rfl ?_ ?_
    ·
     intro fa W hW hSame hBs hRR KK hKK
     try dsimp only at hW
     replace hKK : ∀ v w', Below W.heap.size W w' → (fun v W => StS W v Qy.pols) v w' → KK (Act.put fa _ v) w' := fun v w' h1 h2 => hKK v w' h1 h2
     clear hSame hRR hBs
     rw [if_pos (wanted_plain rfl)]
     go_simp
     refine (PI.out _).mono ?_; rintro e w' ⟨v, rfl, hv, hb⟩
     exact hKK _ _ hb hv
    refine ObsM.cons (k' := 3) rfl ?_ ?_
    ·
     intro fa W hW hSame hBs hRR KK hKK
     try dsimp only at hW
     have fb1 : fa.tmps[1]? = some (Value.pointer (some ⟨w.heap.size, 0, none⟩)) := (hSame.base 1 (by kernel_rfl)).trans (by kernel_rfl)
     replace hKK : ∀ v w', Below W.heap.size W w' → v = Value.pointer (some ⟨w.heap.size, 5, none⟩) → KK (Act.put fa _ v) w' := fun v w' h1 h2 => hKK v w' h1 h2
     have hX := X3.out.keep hW
     have tx := hX; obtain ⟨chb, cfz, ck0, ck1, ck2, ck3, ck4, ck5⟩ := tx
     clear hSame hRR hBs
     rw [if_pos (wanted_plain rfl)]
     go_simp
     refine hKK _ _ ?_ ?_
     ·
      exact grP
     ·
      exact rfl
    refine ObsM.cons (k' := 4) rfl ?_ ?_
    ·
     intro fa W hW hSame hBs hRR KK hKK
     try dsimp only at hW
     obtain ⟨fv2, ft2, (rfl : fv2 = Value.pointer (some ⟨w.heap.size, 5, none⟩))⟩ := hRR 2 _ 67 rfl rfl (by kernel_rfl) (by kernel_rfl)
     replace hKK : ∀ v w', Below W.heap.size W w' → v = Value.int .i64 p → KK (Act.put fa _ v) w' := fun v w' h1 h2 => hKK v w' h1 h2
     have hX := X3.out.keep hW
     have tx := hX; obtain ⟨chb, cfz, ck0, ck1, ck2, ck3, ck4, ck5⟩ := tx
     clear hSame hRR hBs
     rw [if_pos (wanted_plain rfl)]
     go_simp
     refine hKK _ _ ?_ ?_
     ·
      exact grP
     ·
      exact rfl
    refine ObsM.cons (k' := 5) rfl ?_ ?_
    ·
     intro fa W hW hSame hBs hRR KK hKK
     try dsimp only at hW
     obtain ⟨fv3, ft3, (rfl : fv3 = Value.int .i64 p)⟩ := hRR 3 _ 68 rfl rfl (by kernel_rfl) (by kernel_rfl)
     replace hKK : ∀ v w', Below W.heap.size W w' → v = Value.int .i64 (p - 1) → KK (Act.put fa _ v) w' := fun v w' h1 h2 => hKK v w' h1 h2
     clear hSame hRR hBs
     rw [if_pos (wanted_plain rfl)]
     go_simp
     exact hKK _ _ (Below.refl _ _) (by have := Hp.out; rw [IntWalk.i64_in _ (by omega)])
    refine ObsM.cons (k' := 6) rfl ?_ ?_
    ·
     intro fa W hW hSame hBs hRR KK hKK
     try dsimp only at hW
     obtain ⟨fv1, ft1, hk1⟩ := hRR 1 _ 66 rfl rfl (by kernel_rfl) (by kernel_rfl)
     obtain ⟨fv4, ft4, (rfl : fv4 = Value.int .i64 (p - 1))⟩ := hRR 4 _ 69 rfl rfl (by kernel_rfl) (by kernel_rfl)
     replace hKK : ∀ v w', Below W.heap.size W w' → (fun v W => ∃ ad, v = Value.pointer (some ad) ∧ W.cell? ad = some (.string O1)) v w' → KK (Act.put fa _ v) w' := fun v w' h1 h2 => hKK v w' h1 h2
     obtain ⟨a9, c9, rfl, h9⟩ := WP.out _ _ hk1
     clear hSame hRR hBs
     rw [if_pos (wanted_plain rfl)]
     go_simp
     have hb9 := Hp.out
     rw [if_pos (by first | exact ⟨by omega, by show _ < (3 : Int); omega⟩ | (show _ < (3 : Int); omega))]
     refine hKK _ _ (Below.refl _ _) ⟨_, rfl, ?_⟩
     rw [show p.toNat - 1 = (p - 1).toNat by omega]
     exact h9
    refine ObsM.cons (k' := 7) rfl ?_ ?_
    ·
     intro fa W hW hSame hBs hRR KK hKK
     try dsimp only at hW
     obtain ⟨fv5, ft5, ⟨ad, rfl, hg5⟩⟩ := hRR 5 _ 70 rfl rfl (by kernel_rfl) (by kernel_rfl)
     replace hKK : ∀ v w', Below W.heap.size W w' → v = Value.string O1 → KK (Act.put fa _ v) w' := fun v w' h1 h2 => hKK v w' h1 h2
     clear hSame hRR hBs
     rw [if_pos (wanted_plain rfl)]
     go_simp
     refine hKK _ _ ?_ ?_
     ·
      exact grP
     ·
      exact rfl
    refine ObsM.cons (k' := 8) rfl ?_ ?_
    ·
     intro fa W hW hSame hBs hRR KK hKK
     try dsimp only at hW
     obtain ⟨fv6, ft6, (rfl : fv6 = Value.string O1)⟩ := hRR 6 _ 71 rfl rfl (by kernel_rfl) (by kernel_rfl)
     replace hKK : ∀ v w', Below W.heap.size W w' → v = Value.string (⟨#[32]⟩ ++ O1) → KK (Act.put fa _ v) w' := fun v w' h1 h2 => hKK v w' h1 h2
     have hz9 : ¬ 9223372036854775807 < 1 + O1.size := by omega
     clear hSame hRR hBs
     rw [if_pos (wanted_plain rfl)]
     go_simp
     refine hKK _ _ ?_ ?_
     ·
      exact grP
     ·
      exact rfl
    refine ObsM.cons (k' := 9) rfl ?_ ?_
    ·
     intro fa W hW hSame hBs hRR KK hKK
     try dsimp only at hW
     obtain ⟨fv0, ft0, (rfl : fv0 = Value.string (A0 ++ (⟨#[32]⟩ ++ Z ++ ⟨#[32]⟩ ++ T1)))⟩ := hRR 0 _ 65 rfl rfl (by kernel_rfl) (by kernel_rfl)
     obtain ⟨fv7, ft7, (rfl : fv7 = Value.string (⟨#[32]⟩ ++ O1))⟩ := hRR 7 _ 72 rfl rfl (by kernel_rfl) (by kernel_rfl)
     replace hKK : ∀ v w', Below W.heap.size W w' → v = Value.string (A0 ++ (⟨#[32]⟩ ++ Z ++ ⟨#[32]⟩ ++ T1) ++ (⟨#[32]⟩ ++ O1)) → KK (Act.put fa _ v) w' := fun v w' h1 h2 => hKK v w' h1 h2
     have hz9 : ¬ 9223372036854775807 < A0.size + (1 + Z.size + 1 + T1.size) + (1 + O1.size) := by omega
     clear hSame hRR hBs
     rw [if_pos (wanted_plain rfl)]
     go_simp
     refine hKK _ _ ?_ ?_
     ·
      exact grP
     ·
      exact rfl
    exact ObsM.nil
   case hlast =>
    intro o ho fa W hW hSame hBs hRR KK hKK
    replace ho := Option.some.inj (show some _ = some o from ho)
    subst ho
    try dsimp only at hW
    obtain ⟨fv8, ft8, (rfl : fv8 = Value.string (A0 ++ (⟨#[32]⟩ ++ Z ++ ⟨#[32]⟩ ++ T1) ++ (⟨#[32]⟩ ++ O1)))⟩ := hRR 8 _ 73 (by decide) rfl rfl rfl
    rw [if_pos (wanted_plain rfl)]
    go_simp
    refine hKK _ _ ?_
    clear hKK
    rw [Same_shape hSame]
    simp only [List.filterMap_cons, List.filterMap_nil, List.foldl_cons, List.foldl_nil]
    generalize fa.tmps.getD 65 undef = y65
    generalize fa.tmps.getD 66 undef = y66
    generalize fa.tmps.getD 67 undef = y67
    generalize fa.tmps.getD 68 undef = y68
    generalize fa.tmps.getD 69 undef = y69
    generalize fa.tmps.getD 70 undef = y70
    generalize fa.tmps.getD 71 undef = y71
    generalize fa.tmps.getD 72 undef = y72
    generalize fa.tmps.getD 73 undef = y73
    generalize fa.tmps.getD 4 undef = y4
    clear hSame hBs hRR  ft8
    simp only [Act.put, List.setIfInBounds_toArray, List.set_cons_succ, List.set_cons_zero]
    rename World => w4
    have B4 := Lib.hid (below_step B3.out hW)
    have X4 := Lib.hid (X3.out.keep hW)
    clear hW X3 B3
    have X := X4.out
    have Xh := X.hb; have Xf := X.fz; have X0c := X.k0; have X1c := X.k1; have X2c := X.k2; have X3c := X.k3; have X4c := X.k4; have X5c := X.k5
    clear X
    go_wp2_with fail
    go_ret2
    exact ⟨rfl, B4.out⟩
set_option maxHeartbeats 4000000 in
set_option maxRecDepth 100000 in
theorem rqtext_5 (t n u p : Int) (z : List UInt8) (w : World) (hz : z.length ≤ 1000) (ht : An.bd t) (hn : An.bd n) (hu : 1 ≤ u ∧ u ≤ 4) (hp : 1 ≤ p ∧ p ≤ 3) (hr : Qy.right (5, z, t, n, u, p)) :
  Calls Tryz.prog 9 #[Qy.V (5, z, t, n, u, p)] w fun e w' => e = .returned (.tuple #[.string ⟨(Qy.sj (Qy.parts (5, z, t, n, u, p))).toArray⟩, .int .i64 0]) ∧ Below w.heap.size w w' := by
 have RR := Lib.hid (fun W => rqright_any 5 t n u p z W hz)
 rw [decide_eq_true hr] at RR
 clear hr
 have KI := Lib.hid (fun W => rqheads_any W)
 have UI := Lib.hid (fun W => rqunits_any W)
 have PI := Lib.hid (fun W => rqpols_any W)
 obtain ⟨A0, ea, WA⟩ := qy_word Qy.heads 5 (by omega) (by show _ ≤ (7 : Int); omega)
 have za : A0.size ≤ 10 := by rw [← show A0.data.toList.length = A0.size from Array.length_toList, ea]; exact (Qy.word_len _).1
 have WA := Lib.hid WA
 have Hu := Lib.hid (show 1 ≤ u ∧ u ≤ 4 by omega)
 have Hp := Lib.hid (show 1 ≤ p ∧ p ≤ 3 by omega)
 obtain ⟨T1, et, zt, CT⟩ := qy_num t ht
 obtain ⟨N1, en, zn, CN⟩ := qy_num n hn
 obtain ⟨U1, eu, WU⟩ := qy_word Qy.units u (by omega) (by show _ ≤ (4 : Int); omega)
 have zu : U1.size ≤ 10 := by rw [← show U1.data.toList.length = U1.size from Array.length_toList, eu]; exact (Qy.word_len _).2.1
 have WU := Lib.hid WU
 obtain ⟨O1, ep, WP⟩ := qy_word Qy.pols p (by omega) (by show _ ≤ (3 : Int); omega)
 have zp : O1.size ≤ 10 := by rw [← show O1.data.toList.length = O1.size from Array.length_toList, ep]; exact (Qy.word_len _).2.2
 have WP := Lib.hid WP
 obtain ⟨Z, hZ⟩ : ∃ Z : ByteArray, Z = ⟨z.toArray⟩ := ⟨_, rfl⟩
 have zz : Z.size ≤ 1000 := by rw [hZ]; show z.toArray.size ≤ 1000; simpa using hz
 have ez : Z.data.toList = z := by rw [hZ]
 rw [show (⟨(Qy.sj (Qy.parts (5, z, t, n, u, p))).toArray⟩ : ByteArray) = A0 ++ (⟨#[32]⟩ ++ Z ++ ⟨#[32]⟩ ++ T1) ++ (⟨#[32]⟩ ++ N1) ++ (⟨#[32]⟩ ++ U1) ++ (⟨#[32]⟩ ++ O1) from by
  have e9 : Qy.parts (5, z, t, n, u, p) = [Qy.word Qy.heads 5, z, Lib.itoa t, Lib.itoa n, Qy.word Qy.units u, Qy.word Qy.pols p] := rfl
  rw [e9]
  apply ByteArray.ext; apply Array.toList_inj.1
  simp [Qy.sj, Qy.sr, ByteArray.data_append, ea, et, en, eu, ep, ez]]
 unfold Qy.V at RR ⊢
 dsimp only at RR ⊢
 rw [← hZ] at RR ⊢
 clear hZ ez hz ea et en eu ep ht hn
 have hs1 : ¬ 9223372036854775807 < 1 + Z.size := by omega
 have hs2 : ¬ 9223372036854775807 < 1 + Z.size + 1 := by omega
 have hs3 : ¬ 9223372036854775807 < 1 + Z.size + 1 + T1.size := by omega
 have hs4 : ¬ 9223372036854775807 < A0.size + (1 + Z.size + 1 + T1.size) := by omega
 go_enter Tryz.func9, Tryz.ntmps9
 go_upto_region 1 with (fail)
 refine wp_named ?_; intro w0 hw0
 have d0 : Below w.heap.size w w0 := by rw [hw0]; exact gr0
 have B0 := Lib.hid d0
 have X0 : Hid (Bk6 w0 w.heap.size (.int .i64 5) (.string Z) (.int .i64 t) (.int .i64 n) (.int .i64 u) (.int .i64 p)) := Lib.hid (by rw [hw0]; exact ⟨by simp <;> omega, by intro j; simp [go_sem], by simp [go_sem], by simp [go_sem], by simp [go_sem], by simp [go_sem], by simp [go_sem], by simp [go_sem]⟩)
 clear d0 hw0
 have X := X0.out
 have Xh := X.hb; have Xf := X.fz; have X0c := X.k0; have X1c := X.k1; have X2c := X.k2; have X3c := X.k3; have X4c := X.k4; have X5c := X.k5
 clear X
 go_wp2_with fail
 refine (RR.out _).mono ?_; rintro e w1 ⟨rfl, b1⟩
 have B1 := Lib.hid (below_step B0.out b1)
 have X1 := Lib.hid (X0.out.keep b1)
 clear b1 Xh Xf X0c X1c X2c X3c X4c X5c X0 B0 RR
 have X := X1.out
 have Xh := X.hb; have Xf := X.fz; have X0c := X.k0; have X1c := X.k1; have X2c := X.k2; have X3c := X.k3; have X4c := X.k4; have X5c := X.k5
 clear X
 go_upto_region 5 with (fail)
 clear Xh Xf X0c X1c X2c X3c X4c X5c
 refine wp_region_till (R := markR [(fun v W => StS W v Qy.heads), (fun v _ => v = Value.pointer (some ⟨w.heap.size, 0, none⟩)), (fun v _ => v = Value.int .i64 5), (fun v _ => v = Value.int .i64 4), (fun v W => ∃ ad, v = Value.pointer (some ad) ∧ W.cell? ad = some (.string A0)), (fun v _ => v = Value.string A0), (fun v _ => v = Value.string A0)]) (till := fun _ => none) (D := fun W => Below w1.heap.size w1 W) (G := fun _ W W' => Below W.heap.size W W') (by rfl) ?hbeg ⟨by kernel_rfl, by kernel_rfl, by kernel_rfl, ?hkeep, ?hstab, ObsT.all ?hobs, ?hlast⟩
 case hbeg => exact (Below.refl _ _).drew
 case hkeep => intro i w1 w2 hC hG; exact below_step hC hG
 case hstab =>
  intro i j hij ht v w1 w2 hG hm
  match j, hm with
  | 0, hm => exact StS.on hm hG
  | 1, hm => exact hm
  | 2, hm => exact hm
  | 3, hm => exact hm
  | 4, hm => exact (by obtain ⟨ad, e, hg⟩ := hm; exact ⟨ad, e, qy_cell hg hG⟩)
  | 5, hm => exact hm
  | 6, hm => exact hm
  | j + 7, hm => exact trivial
 case hobs =>
  refine ObsT.cons (k' := 1) rfl ?_ ?_
  ·
   intro fa W hW hSame hRR KK hKK
   try dsimp only at hW
   replace hKK : ∀ v w', Below W.heap.size W w' → (fun v W => StS W v Qy.heads) v w' → KK (Act.put fa _ v) w' := fun v w' h1 h2 => hKK v w' h1 h2
   clear hSame hRR
   rw [if_pos (wanted_plain rfl)]
   go_simp
   refine (KI.out _).mono ?_; rintro e w' ⟨v, rfl, hv, hb⟩
   exact hKK _ _ hb hv
  refine ObsT.cons (k' := 2) rfl ?_ ?_
  ·
   intro fa W hW hSame hRR KK hKK
   try dsimp only at hW
   have fb1 : fa.tmps[1]? = some (Value.pointer (some ⟨w.heap.size, 0, none⟩)) := (hSame.base 1 (by kernel_rfl)).trans (by kernel_rfl)
   replace hKK : ∀ v w', Below W.heap.size W w' → v = Value.pointer (some ⟨w.heap.size, 0, none⟩) → KK (Act.put fa _ v) w' := fun v w' h1 h2 => hKK v w' h1 h2
   have hX := X1.out.keep hW
   have tx := hX; obtain ⟨chb, cfz, ck0, ck1, ck2, ck3, ck4, ck5⟩ := tx
   clear hSame hRR
   rw [if_pos (wanted_plain rfl)]
   go_simp
   refine hKK _ _ ?_ ?_
   ·
    exact grP
   ·
    exact rfl
  refine ObsT.cons (k' := 3) rfl ?_ ?_
  ·
   intro fa W hW hSame hRR KK hKK
   try dsimp only at hW
   obtain ⟨fv1, ft1, (rfl : fv1 = Value.pointer (some ⟨w.heap.size, 0, none⟩))⟩ := hRR 1 _ 12 rfl rfl (by kernel_rfl) (by kernel_rfl)
   replace hKK : ∀ v w', Below W.heap.size W w' → v = Value.int .i64 5 → KK (Act.put fa _ v) w' := fun v w' h1 h2 => hKK v w' h1 h2
   have hX := X1.out.keep hW
   have tx := hX; obtain ⟨chb, cfz, ck0, ck1, ck2, ck3, ck4, ck5⟩ := tx
   clear hSame hRR
   rw [if_pos (wanted_plain rfl)]
   go_simp
   refine hKK _ _ ?_ ?_
   ·
    exact grP
   ·
    exact rfl
  refine ObsT.cons (k' := 4) rfl ?_ ?_
  ·
   intro fa W hW hSame hRR KK hKK
   try dsimp only at hW
   obtain ⟨fv2, ft2, (rfl : fv2 = Value.int .i64 5)⟩ := hRR 2 _ 13 rfl rfl (by kernel_rfl) (by kernel_rfl)
   replace hKK : ∀ v w', Below W.heap.size W w' → v = Value.int .i64 4 → KK (Act.put fa _ v) w' := fun v w' h1 h2 => hKK v w' h1 h2
   clear hSame hRR
   rw [if_pos (wanted_plain rfl)]
   go_simp
   refine hKK _ _ ?_ ?_
   ·
    exact grP
   ·
    exact rfl
  refine ObsT.cons (k' := 5) rfl ?_ ?_
  ·
   intro fa W hW hSame hRR KK hKK
   try dsimp only at hW
   obtain ⟨fv0, ft0, hk0⟩ := hRR 0 _ 11 rfl rfl (by kernel_rfl) (by kernel_rfl)
   obtain ⟨fv3, ft3, (rfl : fv3 = Value.int .i64 4)⟩ := hRR 3 _ 14 rfl rfl (by kernel_rfl) (by kernel_rfl)
   replace hKK : ∀ v w', Below W.heap.size W w' → (fun v W => ∃ ad, v = Value.pointer (some ad) ∧ W.cell? ad = some (.string A0)) v w' → KK (Act.put fa _ v) w' := fun v w' h1 h2 => hKK v w' h1 h2
   obtain ⟨a9, c9, rfl, h9⟩ := WA.out _ _ hk0
   clear hSame hRR
   rw [if_pos (wanted_plain rfl)]
   go_simp
   refine hKK _ _ (Below.refl _ _) ⟨_, rfl, ?_⟩
   exact h9
  refine ObsT.cons (k' := 6) rfl ?_ ?_
  ·
   intro fa W hW hSame hRR KK hKK
   try dsimp only at hW
   obtain ⟨fv4, ft4, ⟨ad, rfl, hg4⟩⟩ := hRR 4 _ 15 rfl rfl (by kernel_rfl) (by kernel_rfl)
   replace hKK : ∀ v w', Below W.heap.size W w' → v = Value.string A0 → KK (Act.put fa _ v) w' := fun v w' h1 h2 => hKK v w' h1 h2
   clear hSame hRR
   rw [if_pos (wanted_plain rfl)]
   go_simp
   refine hKK _ _ ?_ ?_
   ·
    exact grP
   ·
    exact rfl
  refine ObsT.cons (k' := 7) rfl ?_ ?_
  ·
   intro fa W hW hSame hRR KK hKK
   try dsimp only at hW
   obtain ⟨fv5, ft5, (rfl : fv5 = Value.string A0)⟩ := hRR 5 _ 16 rfl rfl (by kernel_rfl) (by kernel_rfl)
   replace hKK : ∀ v w', Below W.heap.size W w' → v = Value.string A0 → KK (Act.put fa _ v) w' := fun v w' h1 h2 => hKK v w' h1 h2
   clear hSame hRR
   rw [if_pos (wanted_plain rfl)]
   go_simp
   refine hKK _ _ ?_ ?_
   ·
    exact grP
   ·
    exact rfl
  exact ObsT.nil
 case hlast =>
  intro fa w2 d2 hSame hRR
  try dsimp only at d2
  obtain ⟨zz6, f4, rfl⟩ := hRR 6 _ 4 rfl rfl rfl
  rw [Same_shape hSame]
  simp only [List.filterMap_cons, List.filterMap_nil, List.foldl_cons, List.foldl_nil]
  have g4 : fa.tmps.getD 4 undef = Value.string A0 := by simp [Array.getD_eq_getD_getElem?, f4]
  rw [g4]
  generalize fa.tmps.getD 11 undef = y11
  generalize fa.tmps.getD 12 undef = y12
  generalize fa.tmps.getD 13 undef = y13
  generalize fa.tmps.getD 14 undef = y14
  generalize fa.tmps.getD 15 undef = y15
  generalize fa.tmps.getD 16 undef = y16
  clear hSame hRR f4 g4
  simp only [Act.put, List.setIfInBounds_toArray, List.set_cons_succ, List.set_cons_zero]
  have B2 := Lib.hid (below_step B1.out d2)
  have X2 := Lib.hid (X1.out.keep d2)
  clear d2 X1 B1
  have X := X2.out
  have Xh := X.hb; have Xf := X.fz; have X0c := X.k0; have X1c := X.k1; have X2c := X.k2; have X3c := X.k3; have X4c := X.k4; have X5c := X.k5
  clear X
  go_upto_region 8 with (fail)
  clear Xh Xf X0c X1c X2c X3c X4c X5c
  refine wp_region_lastm (n := 10) (R := markR [(fun v _ => v = Value.string A0), (fun v _ => v = Value.pointer (some ⟨w.heap.size, 1, none⟩)), (fun v _ => v = Value.string Z), (fun v _ => v = Value.string (⟨#[32]⟩ ++ Z)), (fun v _ => v = Value.string (⟨#[32]⟩ ++ Z ++ ⟨#[32]⟩)), (fun v _ => v = Value.pointer (some ⟨w.heap.size, 2, none⟩)), (fun v _ => v = Value.int .i64 t), (fun v _ => v = Value.string T1), (fun v _ => v = Value.string (⟨#[32]⟩ ++ Z ++ ⟨#[32]⟩ ++ T1)), (fun v _ => v = Value.string (A0 ++ (⟨#[32]⟩ ++ Z ++ ⟨#[32]⟩ ++ T1)))]) (till := fun _ => none) (D := fun W => Below w2.heap.size w2 W) (G := fun _ W W' => Below W.heap.size W W') (by rfl) ?hbeg ⟨by kernel_rfl, by kernel_rfl, by kernel_rfl, by kernel_rfl, by kernel_rfl, ?hkeep, ?hstab, ObsM.all ?hobs, ?hlast⟩
  case hbeg => exact (Below.refl _ _).drew
  case hkeep => intro i w1 w2 hC hG; exact below_step hC hG
  case hstab =>
   intro i j hij ht v w1 w2 hG hm
   match j, hm with
   | 0, hm => exact hm
   | 1, hm => exact hm
   | 2, hm => exact hm
   | 3, hm => exact hm
   | 4, hm => exact hm
   | 5, hm => exact hm
   | 6, hm => exact hm
   | 7, hm => exact hm
   | 8, hm => exact hm
   | 9, hm => exact hm
   | j + 10, hm => exact trivial
  case hobs =>
   refine ObsM.cons (k' := 1) rfl ?_ ?_
   ·
    intro fa W hW hSame hBs hRR KK hKK
    try dsimp only at hW
    have fb4 : fa.tmps[4]? = some (Value.string A0) := (hBs 4 (by kernel_rfl)).trans (by kernel_rfl)
    replace hKK : ∀ v w', Below W.heap.size W w' → v = Value.string A0 → KK (Act.put fa _ v) w' := fun v w' h1 h2 => hKK v w' h1 h2
    clear hSame hRR hBs
    rw [if_pos (wanted_plain rfl)]
    go_simp
    refine hKK _ _ ?_ ?_
    ·
     exact grP
    ·
     exact rfl
   refine ObsM.cons (k' := 2) rfl ?_ ?_
   ·
    intro fa W hW hSame hBs hRR KK hKK
    try dsimp only at hW
    have fb1 : fa.tmps[1]? = some (Value.pointer (some ⟨w.heap.size, 0, none⟩)) := (hSame.base 1 (by kernel_rfl)).trans (by kernel_rfl)
    replace hKK : ∀ v w', Below W.heap.size W w' → v = Value.pointer (some ⟨w.heap.size, 1, none⟩) → KK (Act.put fa _ v) w' := fun v w' h1 h2 => hKK v w' h1 h2
    have hX := X2.out.keep hW
    have tx := hX; obtain ⟨chb, cfz, ck0, ck1, ck2, ck3, ck4, ck5⟩ := tx
    clear hSame hRR hBs
    rw [if_pos (wanted_plain rfl)]
    go_simp
    refine hKK _ _ ?_ ?_
    ·
     exact grP
    ·
     exact rfl
   refine ObsM.cons (k' := 3) rfl ?_ ?_
   ·
    intro fa W hW hSame hBs hRR KK hKK
    try dsimp only at hW
    obtain ⟨fv1, ft1, (rfl : fv1 = Value.pointer (some ⟨w.heap.size, 1, none⟩))⟩ := hRR 1 _ 22 rfl rfl (by kernel_rfl) (by kernel_rfl)
    replace hKK : ∀ v w', Below W.heap.size W w' → v = Value.string Z → KK (Act.put fa _ v) w' := fun v w' h1 h2 => hKK v w' h1 h2
    have hX := X2.out.keep hW
    have tx := hX; obtain ⟨chb, cfz, ck0, ck1, ck2, ck3, ck4, ck5⟩ := tx
    clear hSame hRR hBs
    rw [if_pos (wanted_plain rfl)]
    go_simp
    refine hKK _ _ ?_ ?_
    ·
     exact grP
    ·
     exact rfl
   refine ObsM.cons (k' := 4) rfl ?_ ?_
   ·
    intro fa W hW hSame hBs hRR KK hKK
    try dsimp only at hW
    obtain ⟨fv2, ft2, (rfl : fv2 = Value.string Z)⟩ := hRR 2 _ 23 rfl rfl (by kernel_rfl) (by kernel_rfl)
    replace hKK : ∀ v w', Below W.heap.size W w' → v = Value.string (⟨#[32]⟩ ++ Z) → KK (Act.put fa _ v) w' := fun v w' h1 h2 => hKK v w' h1 h2
    clear hSame hRR hBs
    rw [if_pos (wanted_plain rfl)]
    go_simp
    refine hKK _ _ ?_ ?_
    ·
     exact grP
    ·
     exact rfl
   refine ObsM.cons (k' := 5) rfl ?_ ?_
   ·
    intro fa W hW hSame hBs hRR KK hKK
    try dsimp only at hW
    obtain ⟨fv3, ft3, (rfl : fv3 = Value.string (⟨#[32]⟩ ++ Z))⟩ := hRR 3 _ 24 rfl rfl (by kernel_rfl) (by kernel_rfl)
    replace hKK : ∀ v w', Below W.heap.size W w' → v = Value.string (⟨#[32]⟩ ++ Z ++ ⟨#[32]⟩) → KK (Act.put fa _ v) w' := fun v w' h1 h2 => hKK v w' h1 h2
    clear hSame hRR hBs
    rw [if_pos (wanted_plain rfl)]
    go_simp
    refine hKK _ _ ?_ ?_
    ·
     exact grP
    ·
     exact rfl
   refine ObsM.cons (k' := 6) rfl ?_ ?_
   ·
    intro fa W hW hSame hBs hRR KK hKK
    try dsimp only at hW
    have fb1 : fa.tmps[1]? = some (Value.pointer (some ⟨w.heap.size, 0, none⟩)) := (hSame.base 1 (by kernel_rfl)).trans (by kernel_rfl)
    replace hKK : ∀ v w', Below W.heap.size W w' → v = Value.pointer (some ⟨w.heap.size, 2, none⟩) → KK (Act.put fa _ v) w' := fun v w' h1 h2 => hKK v w' h1 h2
    have hX := X2.out.keep hW
    have tx := hX; obtain ⟨chb, cfz, ck0, ck1, ck2, ck3, ck4, ck5⟩ := tx
    clear hSame hRR hBs
    rw [if_pos (wanted_plain rfl)]
    go_simp
    refine hKK _ _ ?_ ?_
    ·
     exact grP
    ·
     exact rfl
   refine ObsM.cons (k' := 7) rfl ?_ ?_
   ·
    intro fa W hW hSame hBs hRR KK hKK
    try dsimp only at hW
    obtain ⟨fv5, ft5, (rfl : fv5 = Value.pointer (some ⟨w.heap.size, 2, none⟩))⟩ := hRR 5 _ 26 rfl rfl (by kernel_rfl) (by kernel_rfl)
    replace hKK : ∀ v w', Below W.heap.size W w' → v = Value.int .i64 t → KK (Act.put fa _ v) w' := fun v w' h1 h2 => hKK v w' h1 h2
    have hX := X2.out.keep hW
    have tx := hX; obtain ⟨chb, cfz, ck0, ck1, ck2, ck3, ck4, ck5⟩ := tx
    clear hSame hRR hBs
    rw [if_pos (wanted_plain rfl)]
    go_simp
    refine hKK _ _ ?_ ?_
    ·
     exact grP
    ·
     exact rfl
   refine ObsM.cons (k' := 8) rfl ?_ ?_
   ·
    intro fa W hW hSame hBs hRR KK hKK
    try dsimp only at hW
    obtain ⟨fv6, ft6, (rfl : fv6 = Value.int .i64 t)⟩ := hRR 6 _ 27 rfl rfl (by kernel_rfl) (by kernel_rfl)
    replace hKK : ∀ v w', Below W.heap.size W w' → v = Value.string T1 → KK (Act.put fa _ v) w' := fun v w' h1 h2 => hKK v w' h1 h2
    clear hSame hRR hBs
    rw [if_pos (wanted_plain rfl)]
    go_simp
    refine (CT.out _).mono ?_; rintro e w' ⟨rfl, hb⟩
    exact hKK _ _ hb rfl
   refine ObsM.cons (k' := 9) rfl ?_ ?_
   ·
    intro fa W hW hSame hBs hRR KK hKK
    try dsimp only at hW
    obtain ⟨fv4, ft4, (rfl : fv4 = Value.string (⟨#[32]⟩ ++ Z ++ ⟨#[32]⟩))⟩ := hRR 4 _ 25 rfl rfl (by kernel_rfl) (by kernel_rfl)
    obtain ⟨fv7, ft7, (rfl : fv7 = Value.string T1)⟩ := hRR 7 _ 28 rfl rfl (by kernel_rfl) (by kernel_rfl)
    replace hKK : ∀ v w', Below W.heap.size W w' → v = Value.string (⟨#[32]⟩ ++ Z ++ ⟨#[32]⟩ ++ T1) → KK (Act.put fa _ v) w' := fun v w' h1 h2 => hKK v w' h1 h2
    clear hSame hRR hBs
    rw [if_pos (wanted_plain rfl)]
    go_simp
    refine hKK _ _ ?_ ?_
    ·
     exact grP
    ·
     exact rfl
   refine ObsM.cons (k' := 10) rfl ?_ ?_
   ·
    intro fa W hW hSame hBs hRR KK hKK
    try dsimp only at hW
    obtain ⟨fv0, ft0, (rfl : fv0 = Value.string A0)⟩ := hRR 0 _ 21 rfl rfl (by kernel_rfl) (by kernel_rfl)
    obtain ⟨fv8, ft8, (rfl : fv8 = Value.string (⟨#[32]⟩ ++ Z ++ ⟨#[32]⟩ ++ T1))⟩ := hRR 8 _ 29 rfl rfl (by kernel_rfl) (by kernel_rfl)
    replace hKK : ∀ v w', Below W.heap.size W w' → v = Value.string (A0 ++ (⟨#[32]⟩ ++ Z ++ ⟨#[32]⟩ ++ T1)) → KK (Act.put fa _ v) w' := fun v w' h1 h2 => hKK v w' h1 h2
    clear hSame hRR hBs
    rw [if_pos (wanted_plain rfl)]
    go_simp
    refine hKK _ _ ?_ ?_
    ·
     exact grP
    ·
     exact rfl
   exact ObsM.nil
  case hlast =>
   intro o ho fa W hW hSame hBs hRR KK hKK
   replace ho := Option.some.inj (show some _ = some o from ho)
   subst ho
   try dsimp only at hW
   obtain ⟨fv9, ft9, (rfl : fv9 = Value.string (A0 ++ (⟨#[32]⟩ ++ Z ++ ⟨#[32]⟩ ++ T1)))⟩ := hRR 9 _ 30 (by decide) rfl rfl rfl
   rw [if_pos (wanted_plain rfl)]
   go_simp
   refine hKK _ _ ?_
   clear hKK
   rw [Same_shape hSame]
   simp only [List.filterMap_cons, List.filterMap_nil, List.foldl_cons, List.foldl_nil]
   generalize fa.tmps.getD 21 undef = y21
   generalize fa.tmps.getD 22 undef = y22
   generalize fa.tmps.getD 23 undef = y23
   generalize fa.tmps.getD 24 undef = y24
   generalize fa.tmps.getD 25 undef = y25
   generalize fa.tmps.getD 26 undef = y26
   generalize fa.tmps.getD 27 undef = y27
   generalize fa.tmps.getD 28 undef = y28
   generalize fa.tmps.getD 29 undef = y29
   generalize fa.tmps.getD 30 undef = y30
   generalize fa.tmps.getD 4 undef = y4
   clear hSame hBs hRR  ft9
   simp only [Act.put, List.setIfInBounds_toArray, List.set_cons_succ, List.set_cons_zero]
   rename World => w3
   have B3 := Lib.hid (below_step B2.out hW)
   have X3 := Lib.hid (X2.out.keep hW)
   clear hW X2 B2
   have X := X3.out
   have Xh := X.hb; have Xf := X.fz; have X0c := X.k0; have X1c := X.k1; have X2c := X.k2; have X3c := X.k3; have X4c := X.k4; have X5c := X.k5
   clear X
   have hs5 : ¬ 9223372036854775807 < 1 + N1.size := by omega
   have hs6 : ¬ 9223372036854775807 < A0.size + (1 + Z.size + 1 + T1.size) + (1 + N1.size) := by omega
   go_wp2_with fail
   refine (CN.out _).mono ?_; rintro e w4 ⟨rfl, b9⟩
   have B4 := Lib.hid (below_step B3.out b9)
   have X4 := Lib.hid (X3.out.keep b9)
   clear b9 X3 B3 Xh Xf X0c X1c X2c X3c X4c X5c
   have X := X4.out
   have Xh := X.hb; have Xf := X.fz; have X0c := X.k0; have X1c := X.k1; have X2c := X.k2; have X3c := X.k3; have X4c := X.k4; have X5c := X.k5
   clear X
   go_upto_region 12 with (fail)
   clear Xh Xf X0c X1c X2c X3c X4c X5c
   refine wp_region_lastm (n := 9) (R := markR [(fun v _ => v = Value.string (A0 ++ (⟨#[32]⟩ ++ Z ++ ⟨#[32]⟩ ++ T1) ++ (⟨#[32]⟩ ++ N1))), (fun v W => StS W v Qy.units), (fun v _ => v = Value.pointer (some ⟨w.heap.size, 4, none⟩)), (fun v _ => v = Value.int .i64 u), (fun v _ => v = Value.int .i64 (u - 1)), (fun v W => ∃ ad, v = Value.pointer (some ad) ∧ W.cell? ad = some (.string U1)), (fun v _ => v = Value.string U1), (fun v _ => v = Value.string (⟨#[32]⟩ ++ U1)), (fun v _ => v = Value.string (A0 ++ (⟨#[32]⟩ ++ Z ++ ⟨#[32]⟩ ++ T1) ++ (⟨#[32]⟩ ++ N1) ++ (⟨#[32]⟩ ++ U1)))]) (till := fun _ => none) (D := fun W => Below w4.heap.size w4 W) (G := fun _ W W' => Below W.heap.size W W') (by rfl) ?hbeg ⟨by kernel_rfl, by kernel_rfl, by kernel_rfl, by kernel_rfl, by kernel_rfl, ?hkeep, ?hstab, ObsM.all ?hobs, ?hlast⟩
   case hbeg => exact (Below.refl _ _).drew
   case hkeep => intro i w1 w2 hC hG; exact below_step hC hG
   case hstab =>
    intro i j hij ht v w1 w2 hG hm
    match j, hm with
    | 0, hm => exact hm
    | 1, hm => exact StS.on hm hG
    | 2, hm => exact hm
    | 3, hm => exact hm
    | 4, hm => exact hm
    | 5, hm => exact (by obtain ⟨ad, e, hg⟩ := hm; exact ⟨ad, e, qy_cell hg hG⟩)
    | 6, hm => exact hm
    | 7, hm => exact hm
    | 8, hm => exact hm
    | j + 9, hm => exact trivial
   case hobs =>
    refine ObsM.cons (k' := 1) rfl ?_ ?_
    ·
     intro fa W hW hSame hBs hRR KK hKK
     try dsimp only at hW
     have fb4 : fa.tmps[4]? = some (Value.string (A0 ++ (⟨#[32]⟩ ++ Z ++ ⟨#[32]⟩ ++ T1) ++ (⟨#[32]⟩ ++ N1))) := (hBs 4 (by kernel_rfl)).trans (by kernel_rfl)
     replace hKK : ∀ v w', Below W.heap.size W w' → v = Value.string (A0 ++ (⟨#[32]⟩ ++ Z ++ ⟨#[32]⟩ ++ T1) ++ (⟨#[32]⟩ ++ N1)) → KK (Act.put fa _ v) w' := fun v w' h1 h2 => hKK v w' h1 h2
     clear hSame hRR hBs
     rw [if_pos (wanted_plain rfl)]
     go_simp
     refine hKK _ _ ?_ ?_
     ·
      exact grP
     ·
      exact rfl
    refine ObsM.cons (k' := 2) rfl ?_ ?_
    ·
     intro fa W hW hSame hBs hRR KK hKK
     try dsimp only at hW
     replace hKK : ∀ v w', Below W.heap.size W w' → (fun v W => StS W v Qy.units) v w' → KK (Act.put fa _ v) w' := fun v w' h1 h2 => hKK v w' h1 h2
     clear hSame hRR hBs
     rw [if_pos (wanted_plain rfl)]
     go_simp
     refine (UI.out _).mono ?_; rintro e w' ⟨v, rfl, hv, hb⟩
     exact hKK _ _ hb hv
    refine ObsM.cons (k' := 3) rfl ?_ ?_
    ·
     intro fa W hW hSame hBs hRR KK hKK
     try dsimp only at hW
     have fb1 : fa.tmps[1]? = some (Value.pointer (some ⟨w.heap.size, 0, none⟩)) := (hSame.base 1 (by kernel_rfl)).trans (by kernel_rfl)
     replace hKK : ∀ v w', Below W.heap.size W w' → v = Value.pointer (some ⟨w.heap.size, 4, none⟩) → KK (Act.put fa _ v) w' := fun v w' h1 h2 => hKK v w' h1 h2
     have hX := X4.out.keep hW
     have tx := hX; obtain ⟨chb, cfz, ck0, ck1, ck2, ck3, ck4, ck5⟩ := tx
     clear hSame hRR hBs
     rw [if_pos (wanted_plain rfl)]
     go_simp
     refine hKK _ _ ?_ ?_
     ·
      exact grP
     ·
      exact rfl
    refine ObsM.cons (k' := 4) rfl ?_ ?_
    ·
     intro fa W hW hSame hBs hRR KK hKK
     try dsimp only at hW
     obtain ⟨fv2, ft2, (rfl : fv2 = Value.pointer (some ⟨w.heap.size, 4, none⟩))⟩ := hRR 2 _ 50 rfl rfl (by kernel_rfl) (by kernel_rfl)
     replace hKK : ∀ v w', Below W.heap.size W w' → v = Value.int .i64 u → KK (Act.put fa _ v) w' := fun v w' h1 h2 => hKK v w' h1 h2
     have hX := X4.out.keep hW
     have tx := hX; obtain ⟨chb, cfz, ck0, ck1, ck2, ck3, ck4, ck5⟩ := tx
     clear hSame hRR hBs
     rw [if_pos (wanted_plain rfl)]
     go_simp
     refine hKK _ _ ?_ ?_
     ·
      exact grP
     ·
      exact rfl
    refine ObsM.cons (k' := 5) rfl ?_ ?_
    ·
     intro fa W hW hSame hBs hRR KK hKK
     try dsimp only at hW
     obtain ⟨fv3, ft3, (rfl : fv3 = Value.int .i64 u)⟩ := hRR 3 _ 51 rfl rfl (by kernel_rfl) (by kernel_rfl)
     replace hKK : ∀ v w', Below W.heap.size W w' → v = Value.int .i64 (u - 1) → KK (Act.put fa _ v) w' := fun v w' h1 h2 => hKK v w' h1 h2
     clear hSame hRR hBs
     rw [if_pos (wanted_plain rfl)]
     go_simp
     exact hKK _ _ (Below.refl _ _) (by have := Hu.out; rw [IntWalk.i64_in _ (by omega)])
    refine ObsM.cons (k' := 6) rfl ?_ ?_
    ·
     intro fa W hW hSame hBs hRR KK hKK
     try dsimp only at hW
     obtain ⟨fv1, ft1, hk1⟩ := hRR 1 _ 49 rfl rfl (by kernel_rfl) (by kernel_rfl)
     obtain ⟨fv4, ft4, (rfl : fv4 = Value.int .i64 (u - 1))⟩ := hRR 4 _ 52 rfl rfl (by kernel_rfl) (by kernel_rfl)
     replace hKK : ∀ v w', Below W.heap.size W w' → (fun v W => ∃ ad, v = Value.pointer (some ad) ∧ W.cell? ad = some (.string U1)) v w' → KK (Act.put fa _ v) w' := fun v w' h1 h2 => hKK v w' h1 h2
     obtain ⟨a9, c9, rfl, h9⟩ := WU.out _ _ hk1
     clear hSame hRR hBs
     rw [if_pos (wanted_plain rfl)]
     go_simp
     have hb9 := Hu.out
     rw [if_pos (by first | exact ⟨by omega, by show _ < (4 : Int); omega⟩ | (show _ < (4 : Int); omega))]
     refine hKK _ _ (Below.refl _ _) ⟨_, rfl, ?_⟩
     rw [show u.toNat - 1 = (u - 1).toNat by omega]
     exact h9
    refine ObsM.cons (k' := 7) rfl ?_ ?_
    ·
     intro fa W hW hSame hBs hRR KK hKK
     try dsimp only at hW
     obtain ⟨fv5, ft5, ⟨ad, rfl, hg5⟩⟩ := hRR 5 _ 53 rfl rfl (by kernel_rfl) (by kernel_rfl)
     replace hKK : ∀ v w', Below W.heap.size W w' → v = Value.string U1 → KK (Act.put fa _ v) w' := fun v w' h1 h2 => hKK v w' h1 h2
     clear hSame hRR hBs
     rw [if_pos (wanted_plain rfl)]
     go_simp
     refine hKK _ _ ?_ ?_
     ·
      exact grP
     ·
      exact rfl
    refine ObsM.cons (k' := 8) rfl ?_ ?_
    ·
     intro fa W hW hSame hBs hRR KK hKK
     try dsimp only at hW
     obtain ⟨fv6, ft6, (rfl : fv6 = Value.string U1)⟩ := hRR 6 _ 54 rfl rfl (by kernel_rfl) (by kernel_rfl)
     replace hKK : ∀ v w', Below W.heap.size W w' → v = Value.string (⟨#[32]⟩ ++ U1) → KK (Act.put fa _ v) w' := fun v w' h1 h2 => hKK v w' h1 h2
     have hz9 : ¬ 9223372036854775807 < 1 + U1.size := by omega
     clear hSame hRR hBs
     rw [if_pos (wanted_plain rfl)]
     go_simp
     refine hKK _ _ ?_ ?_
     ·
      exact grP
     ·
      exact rfl
    refine ObsM.cons (k' := 9) rfl ?_ ?_
    ·
     intro fa W hW hSame hBs hRR KK hKK
     try dsimp only at hW
     obtain ⟨fv0, ft0, (rfl : fv0 = Value.string (A0 ++ (⟨#[32]⟩ ++ Z ++ ⟨#[32]⟩ ++ T1) ++ (⟨#[32]⟩ ++ N1)))⟩ := hRR 0 _ 48 rfl rfl (by kernel_rfl) (by kernel_rfl)
     obtain ⟨fv7, ft7, (rfl : fv7 = Value.string (⟨#[32]⟩ ++ U1))⟩ := hRR 7 _ 55 rfl rfl (by kernel_rfl) (by kernel_rfl)
     replace hKK : ∀ v w', Below W.heap.size W w' → v = Value.string (A0 ++ (⟨#[32]⟩ ++ Z ++ ⟨#[32]⟩ ++ T1) ++ (⟨#[32]⟩ ++ N1) ++ (⟨#[32]⟩ ++ U1)) → KK (Act.put fa _ v) w' := fun v w' h1 h2 => hKK v w' h1 h2
     have hz9 : ¬ 9223372036854775807 < A0.size + (1 + Z.size + 1 + T1.size) + (1 + N1.size) + (1 + U1.size) := by omega
     clear hSame hRR hBs
     rw [if_pos (wanted_plain rfl)]
     go_simp
     refine hKK _ _ ?_ ?_
     ·
      exact grP
     ·
      exact rfl
    exact ObsM.nil
   case hlast =>
    intro o ho fa W hW hSame hBs hRR KK hKK
    replace ho := Option.some.inj (show some _ = some o from ho)
    subst ho
    try dsimp only at hW
    obtain ⟨fv8, ft8, (rfl : fv8 = Value.string (A0 ++ (⟨#[32]⟩ ++ Z ++ ⟨#[32]⟩ ++ T1) ++ (⟨#[32]⟩ ++ N1) ++ (⟨#[32]⟩ ++ U1)))⟩ := hRR 8 _ 56 (by decide) rfl rfl rfl
    rw [if_pos (wanted_plain rfl)]
    go_simp
    refine hKK _ _ ?_
    clear hKK
    rw [Same_shape hSame]
    simp only [List.filterMap_cons, List.filterMap_nil, List.foldl_cons, List.foldl_nil]
    generalize fa.tmps.getD 48 undef = y48
    generalize fa.tmps.getD 49 undef = y49
    generalize fa.tmps.getD 50 undef = y50
    generalize fa.tmps.getD 51 undef = y51
    generalize fa.tmps.getD 52 undef = y52
    generalize fa.tmps.getD 53 undef = y53
    generalize fa.tmps.getD 54 undef = y54
    generalize fa.tmps.getD 55 undef = y55
    generalize fa.tmps.getD 56 undef = y56
    generalize fa.tmps.getD 4 undef = y4
    clear hSame hBs hRR  ft8
    simp only [Act.put, List.setIfInBounds_toArray, List.set_cons_succ, List.set_cons_zero]
    rename World => w5
    have B5 := Lib.hid (below_step B4.out hW)
    have X5 := Lib.hid (X4.out.keep hW)
    clear hW X4 B4
    have X := X5.out
    have Xh := X.hb; have Xf := X.fz; have X0c := X.k0; have X1c := X.k1; have X2c := X.k2; have X3c := X.k3; have X4c := X.k4; have X5c := X.k5
    clear X
    go_upto_region 14 with (fail)
    clear Xh Xf X0c X1c X2c X3c X4c X5c
    refine wp_region_lastm (n := 9) (R := markR [(fun v _ => v = Value.string (A0 ++ (⟨#[32]⟩ ++ Z ++ ⟨#[32]⟩ ++ T1) ++ (⟨#[32]⟩ ++ N1) ++ (⟨#[32]⟩ ++ U1))), (fun v W => StS W v Qy.pols), (fun v _ => v = Value.pointer (some ⟨w.heap.size, 5, none⟩)), (fun v _ => v = Value.int .i64 p), (fun v _ => v = Value.int .i64 (p - 1)), (fun v W => ∃ ad, v = Value.pointer (some ad) ∧ W.cell? ad = some (.string O1)), (fun v _ => v = Value.string O1), (fun v _ => v = Value.string (⟨#[32]⟩ ++ O1)), (fun v _ => v = Value.string (A0 ++ (⟨#[32]⟩ ++ Z ++ ⟨#[32]⟩ ++ T1) ++ (⟨#[32]⟩ ++ N1) ++ (⟨#[32]⟩ ++ U1) ++ (⟨#[32]⟩ ++ O1)))]) (till := fun _ => none) (D := fun W => Below w5.heap.size w5 W) (G := fun _ W W' => Below W.heap.size W W') (by rfl) ?hbeg ⟨by kernel_rfl, by kernel_rfl, by kernel_rfl, by kernel_rfl, by kernel_rfl, ?hkeep, ?hstab, ObsM.all ?hobs, ?hlast⟩
    case hbeg => exact (Below.refl _ _).drew
    case hkeep => intro i w1 w2 hC hG; exact below_step hC hG
    case hstab =>
     intro i j hij ht v w1 w2 hG hm
     match j, hm with
     | 0, hm => exact hm
     | 1, hm => exact StS.on hm hG
     | 2, hm => exact hm
     | 3, hm => exact hm
     | 4, hm => exact hm
     | 5, hm => exact (by obtain ⟨ad, e, hg⟩ := hm; exact ⟨ad, e, qy_cell hg hG⟩)
     | 6, hm => exact hm
     | 7, hm => exact hm
     | 8, hm => exact hm
     | j + 9, hm => exact trivial
    case hobs =>
     refine ObsM.cons (k' := 1) rfl ?_ ?_
     ·
      intro fa W hW hSame hBs hRR KK hKK
      try dsimp only at hW
      have fb4 : fa.tmps[4]? = some (Value.string (A0 ++ (⟨#[32]⟩ ++ Z ++ ⟨#[32]⟩ ++ T1) ++ (⟨#[32]⟩ ++ N1) ++ (⟨#[32]⟩ ++ U1))) := (hBs 4 (by kernel_rfl)).trans (by kernel_rfl)
      replace hKK : ∀ v w', Below W.heap.size W w' → v = Value.string (A0 ++ (⟨#[32]⟩ ++ Z ++ ⟨#[32]⟩ ++ T1) ++ (⟨#[32]⟩ ++ N1) ++ (⟨#[32]⟩ ++ U1)) → KK (Act.put fa _ v) w' := fun v w' h1 h2 => hKK v w' h1 h2
      clear hSame hRR hBs
      rw [if_pos (wanted_plain rfl)]
      go_simp
      refine hKK _ _ ?_ ?_
      ·
       exact grP
      ·
       exact rfl
     refine ObsM.cons (k' := 2) rfl ?_ ?_
     ·
      intro fa W hW hSame hBs hRR KK hKK
      try dsimp only at hW
      replace hKK : ∀ v w', Below W.heap.size W w' → (fun v W => StS W v Qy.pols) v w' → KK (Act.put fa _ v) w' := fun v w' h1 h2 => hKK v w' h1 h2
      clear hSame hRR hBs
      rw [if_pos (wanted_plain rfl)]
      go_simp
      refine (PI.out _).mono ?_; rintro e w' ⟨v, rfl, hv, hb⟩
      exact hKK _ _ hb hv
     refine ObsM.cons (k' := 3) rfl ?_ ?_
     ·
      intro fa W hW hSame hBs hRR KK hKK
      try dsimp only at hW
      have fb1 : fa.tmps[1]? = some (Value.pointer (some ⟨w.heap.size, 0, none⟩)) := (hSame.base 1 (by kernel_rfl)).trans (by kernel_rfl)
      replace hKK : ∀ v w', Below W.heap.size W w' → v = Value.pointer (some ⟨w.heap.size, 5, none⟩) → KK (Act.put fa _ v) w' := fun v w' h1 h2 => hKK v w' h1 h2
      have hX := X5.out.keep hW
      have tx := hX; obtain ⟨chb, cfz, ck0, ck1, ck2, ck3, ck4, ck5⟩ := tx
      clear hSame hRR hBs
      rw [if_pos (wanted_plain rfl)]
      go_simp
      refine hKK _ _ ?_ ?_
      ·
       exact grP
      ·
       exact rfl
     refine ObsM.cons (k' := 4) rfl ?_ ?_
     ·
      intro fa W hW hSame hBs hRR KK hKK
      try dsimp only at hW
      obtain ⟨fv2, ft2, (rfl : fv2 = Value.pointer (some ⟨w.heap.size, 5, none⟩))⟩ := hRR 2 _ 67 rfl rfl (by kernel_rfl) (by kernel_rfl)
      replace hKK : ∀ v w', Below W.heap.size W w' → v = Value.int .i64 p → KK (Act.put fa _ v) w' := fun v w' h1 h2 => hKK v w' h1 h2
      have hX := X5.out.keep hW
      have tx := hX; obtain ⟨chb, cfz, ck0, ck1, ck2, ck3, ck4, ck5⟩ := tx
      clear hSame hRR hBs
      rw [if_pos (wanted_plain rfl)]
      go_simp
      refine hKK _ _ ?_ ?_
      ·
       exact grP
      ·
       exact rfl
     refine ObsM.cons (k' := 5) rfl ?_ ?_
     ·
      intro fa W hW hSame hBs hRR KK hKK
      try dsimp only at hW
      obtain ⟨fv3, ft3, (rfl : fv3 = Value.int .i64 p)⟩ := hRR 3 _ 68 rfl rfl (by kernel_rfl) (by kernel_rfl)
      replace hKK : ∀ v w', Below W.heap.size W w' → v = Value.int .i64 (p - 1) → KK (Act.put fa _ v) w' := fun v w' h1 h2 => hKK v w' h1 h2
      clear hSame hRR hBs
      rw [if_pos (wanted_plain rfl)]
      go_simp
      exact hKK _ _ (Below.refl _ _) (by have := Hp.out; rw [IntWalk.i64_in _ (by omega)])
     refine ObsM.cons (k' := 6) rfl ?_ ?_
     ·
      intro fa W hW hSame hBs hRR KK hKK
      try dsimp only at hW
      obtain ⟨fv1, ft1, hk1⟩ := hRR 1 _ 66 rfl rfl (by kernel_rfl) (by kernel_rfl)
      obtain ⟨fv4, ft4, (rfl : fv4 = Value.int .i64 (p - 1))⟩ := hRR 4 _ 69 rfl rfl (by kernel_rfl) (by kernel_rfl)
      replace hKK : ∀ v w', Below W.heap.size W w' → (fun v W => ∃ ad, v = Value.pointer (some ad) ∧ W.cell? ad = some (.string O1)) v w' → KK (Act.put fa _ v) w' := fun v w' h1 h2 => hKK v w' h1 h2
      obtain ⟨a9, c9, rfl, h9⟩ := WP.out _ _ hk1
      clear hSame hRR hBs
      rw [if_pos (wanted_plain rfl)]
      go_simp
      have hb9 := Hp.out
      rw [if_pos (by first | exact ⟨by omega, by show _ < (3 : Int); omega⟩ | (show _ < (3 : Int); omega))]
      refine hKK _ _ (Below.refl _ _) ⟨_, rfl, ?_⟩
      rw [show p.toNat - 1 = (p - 1).toNat by omega]
      exact h9
     refine ObsM.cons (k' := 7) rfl ?_ ?_
     ·
      intro fa W hW hSame hBs hRR KK hKK
      try dsimp only at hW
      obtain ⟨fv5, ft5, ⟨ad, rfl, hg5⟩⟩ := hRR 5 _ 70 rfl rfl (by kernel_rfl) (by kernel_rfl)
      replace hKK : ∀ v w', Below W.heap.size W w' → v = Value.string O1 → KK (Act.put fa _ v) w' := fun v w' h1 h2 => hKK v w' h1 h2
      clear hSame hRR hBs
      rw [if_pos (wanted_plain rfl)]
      go_simp
      refine hKK _ _ ?_ ?_
      ·
       exact grP
      ·
       exact rfl
     refine ObsM.cons (k' := 8) rfl ?_ ?_
     ·
      intro fa W hW hSame hBs hRR KK hKK
      try dsimp only at hW
      obtain ⟨fv6, ft6, (rfl : fv6 = Value.string O1)⟩ := hRR 6 _ 71 rfl rfl (by kernel_rfl) (by kernel_rfl)
      replace hKK : ∀ v w', Below W.heap.size W w' → v = Value.string (⟨#[32]⟩ ++ O1) → KK (Act.put fa _ v) w' := fun v w' h1 h2 => hKK v w' h1 h2
      have hz9 : ¬ 9223372036854775807 < 1 + O1.size := by omega
      clear hSame hRR hBs
      rw [if_pos (wanted_plain rfl)]
      go_simp
      refine hKK _ _ ?_ ?_
      ·
       exact grP
      ·
       exact rfl
     refine ObsM.cons (k' := 9) rfl ?_ ?_
     ·
      intro fa W hW hSame hBs hRR KK hKK
      try dsimp only at hW
      obtain ⟨fv0, ft0, (rfl : fv0 = Value.string (A0 ++ (⟨#[32]⟩ ++ Z ++ ⟨#[32]⟩ ++ T1) ++ (⟨#[32]⟩ ++ N1) ++ (⟨#[32]⟩ ++ U1)))⟩ := hRR 0 _ 65 rfl rfl (by kernel_rfl) (by kernel_rfl)
      obtain ⟨fv7, ft7, (rfl : fv7 = Value.string (⟨#[32]⟩ ++ O1))⟩ := hRR 7 _ 72 rfl rfl (by kernel_rfl) (by kernel_rfl)
      replace hKK : ∀ v w', Below W.heap.size W w' → v = Value.string (A0 ++ (⟨#[32]⟩ ++ Z ++ ⟨#[32]⟩ ++ T1) ++ (⟨#[32]⟩ ++ N1) ++ (⟨#[32]⟩ ++ U1) ++ (⟨#[32]⟩ ++ O1)) → KK (Act.put fa _ v) w' := fun v w' h1 h2 => hKK v w' h1 h2
      have hz9 : ¬ 9223372036854775807 < A0.size + (1 + Z.size + 1 + T1.size) + (1 + N1.size) + (1 + U1.size) + (1 + O1.size) := by omega
      clear hSame hRR hBs
      rw [if_pos (wanted_plain rfl)]
      go_simp
      refine hKK _ _ ?_ ?_
      ·
       exact grP
      ·
       exact rfl
     exact ObsM.nil
    case hlast =>
     intro o ho fa W hW hSame hBs hRR KK hKK
     replace ho := Option.some.inj (show some _ = some o from ho)
     subst ho
     try dsimp only at hW
     obtain ⟨fv8, ft8, (rfl : fv8 = Value.string (A0 ++ (⟨#[32]⟩ ++ Z ++ ⟨#[32]⟩ ++ T1) ++ (⟨#[32]⟩ ++ N1) ++ (⟨#[32]⟩ ++ U1) ++ (⟨#[32]⟩ ++ O1)))⟩ := hRR 8 _ 73 (by decide) rfl rfl rfl
     rw [if_pos (wanted_plain rfl)]
     go_simp
     refine hKK _ _ ?_
     clear hKK
     rw [Same_shape hSame]
     simp only [List.filterMap_cons, List.filterMap_nil, List.foldl_cons, List.foldl_nil]
     generalize fa.tmps.getD 65 undef = y65
     generalize fa.tmps.getD 66 undef = y66
     generalize fa.tmps.getD 67 undef = y67
     generalize fa.tmps.getD 68 undef = y68
     generalize fa.tmps.getD 69 undef = y69
     generalize fa.tmps.getD 70 undef = y70
     generalize fa.tmps.getD 71 undef = y71
     generalize fa.tmps.getD 72 undef = y72
     generalize fa.tmps.getD 73 undef = y73
     generalize fa.tmps.getD 4 undef = y4
     clear hSame hBs hRR  ft8
     simp only [Act.put, List.setIfInBounds_toArray, List.set_cons_succ, List.set_cons_zero]
     rename World => w6
     have B6 := Lib.hid (below_step B5.out hW)
     have X6 := Lib.hid (X5.out.keep hW)
     clear hW X5 B5
     have X := X6.out
     have Xh := X.hb; have Xf := X.fz; have X0c := X.k0; have X1c := X.k1; have X2c := X.k2; have X3c := X.k3; have X4c := X.k4; have X5c := X.k5
     clear X
     go_wp2_with fail
     go_ret2
     exact ⟨rfl, B6.out⟩
set_option maxHeartbeats 4000000 in
set_option maxRecDepth 100000 in
theorem rqtext_7 (t n : Int) (z : List UInt8) (w : World) (hz : z.length ≤ 1000) (ht : An.bd t) (hn : An.bd n) (hr : Qy.right (7, z, t, n, 0, 0)) :
  Calls Tryz.prog 9 #[Qy.V (7, z, t, n, 0, 0)] w fun e w' => e = .returned (.tuple #[.string ⟨(Qy.sj (Qy.parts (7, z, t, n, 0, 0))).toArray⟩, .int .i64 0]) ∧ Below w.heap.size w w' := by
 have RR := Lib.hid (fun W => rqright_any 7 t n 0 0 z W hz)
 rw [decide_eq_true hr] at RR
 clear hr
 have KI := Lib.hid (fun W => rqheads_any W)
 have UI := Lib.hid (fun W => rqunits_any W)
 have PI := Lib.hid (fun W => rqpols_any W)
 obtain ⟨A0, ea, WA⟩ := qy_word Qy.heads 7 (by omega) (by show _ ≤ (7 : Int); omega)
 have za : A0.size ≤ 10 := by rw [← show A0.data.toList.length = A0.size from Array.length_toList, ea]; exact (Qy.word_len _).1
 have WA := Lib.hid WA
 obtain ⟨T1, et, zt, CT⟩ := qy_num t ht
 obtain ⟨N1, en, zn, CN⟩ := qy_num n hn
 obtain ⟨Z, hZ⟩ : ∃ Z : ByteArray, Z = ⟨z.toArray⟩ := ⟨_, rfl⟩
 have zz : Z.size ≤ 1000 := by rw [hZ]; show z.toArray.size ≤ 1000; simpa using hz
 have ez : Z.data.toList = z := by rw [hZ]
 rw [show (⟨(Qy.sj (Qy.parts (7, z, t, n, 0, 0))).toArray⟩ : ByteArray) = A0 ++ (⟨#[32]⟩ ++ Z ++ ⟨#[32]⟩ ++ T1) ++ (⟨#[32]⟩ ++ N1) from by
  have e9 : Qy.parts (7, z, t, n, 0, 0) = [Qy.word Qy.heads 7, z, Lib.itoa t, Lib.itoa n] := rfl
  rw [e9]
  apply ByteArray.ext; apply Array.toList_inj.1
  simp [Qy.sj, Qy.sr, ByteArray.data_append, ea, et, en, ez]]
 unfold Qy.V at RR ⊢
 dsimp only at RR ⊢
 rw [← hZ] at RR ⊢
 clear hZ ez hz ea et en ht hn
 have hs1 : ¬ 9223372036854775807 < 1 + Z.size := by omega
 have hs2 : ¬ 9223372036854775807 < 1 + Z.size + 1 := by omega
 have hs3 : ¬ 9223372036854775807 < 1 + Z.size + 1 + T1.size := by omega
 have hs4 : ¬ 9223372036854775807 < A0.size + (1 + Z.size + 1 + T1.size) := by omega
 go_enter Tryz.func9, Tryz.ntmps9
 go_upto_region 1 with (fail)
 refine wp_named ?_; intro w0 hw0
 have d0 : Below w.heap.size w w0 := by rw [hw0]; exact gr0
 have B0 := Lib.hid d0
 have X0 : Hid (Bk6 w0 w.heap.size (.int .i64 7) (.string Z) (.int .i64 t) (.int .i64 n) (.int .i64 0) (.int .i64 0)) := Lib.hid (by rw [hw0]; exact ⟨by simp <;> omega, by intro j; simp [go_sem], by simp [go_sem], by simp [go_sem], by simp [go_sem], by simp [go_sem], by simp [go_sem], by simp [go_sem]⟩)
 clear d0 hw0
 have X := X0.out
 have Xh := X.hb; have Xf := X.fz; have X0c := X.k0; have X1c := X.k1; have X2c := X.k2; have X3c := X.k3; have X4c := X.k4; have X5c := X.k5
 clear X
 go_wp2_with fail
 refine (RR.out _).mono ?_; rintro e w1 ⟨rfl, b1⟩
 have B1 := Lib.hid (below_step B0.out b1)
 have X1 := Lib.hid (X0.out.keep b1)
 clear b1 Xh Xf X0c X1c X2c X3c X4c X5c X0 B0 RR
 have X := X1.out
 have Xh := X.hb; have Xf := X.fz; have X0c := X.k0; have X1c := X.k1; have X2c := X.k2; have X3c := X.k3; have X4c := X.k4; have X5c := X.k5
 clear X
 go_upto_region 5 with (fail)
 clear Xh Xf X0c X1c X2c X3c X4c X5c
 refine wp_region_till (R := markR [(fun v W => StS W v Qy.heads), (fun v _ => v = Value.pointer (some ⟨w.heap.size, 0, none⟩)), (fun v _ => v = Value.int .i64 7), (fun v _ => v = Value.int .i64 6), (fun v W => ∃ ad, v = Value.pointer (some ad) ∧ W.cell? ad = some (.string A0)), (fun v _ => v = Value.string A0), (fun v _ => v = Value.string A0)]) (till := fun _ => none) (D := fun W => Below w1.heap.size w1 W) (G := fun _ W W' => Below W.heap.size W W') (by rfl) ?hbeg ⟨by kernel_rfl, by kernel_rfl, by kernel_rfl, ?hkeep, ?hstab, ObsT.all ?hobs, ?hlast⟩
 case hbeg => exact (Below.refl _ _).drew
 case hkeep => intro i w1 w2 hC hG; exact below_step hC hG
 case hstab =>
  intro i j hij ht v w1 w2 hG hm
  match j, hm with
  | 0, hm => exact StS.on hm hG
  | 1, hm => exact hm
  | 2, hm => exact hm
  | 3, hm => exact hm
  | 4, hm => exact (by obtain ⟨ad, e, hg⟩ := hm; exact ⟨ad, e, qy_cell hg hG⟩)
  | 5, hm => exact hm
  | 6, hm => exact hm
  | j + 7, hm => exact trivial
 case hobs =>
  refine ObsT.cons (k' := 1) rfl ?_ ?_
  ·
   intro fa W hW hSame hRR KK hKK
   try dsimp only at hW
   replace hKK : ∀ v w', Below W.heap.size W w' → (fun v W => StS W v Qy.heads) v w' → KK (Act.put fa _ v) w' := fun v w' h1 h2 => hKK v w' h1 h2
   clear hSame hRR
   rw [if_pos (wanted_plain rfl)]
   go_simp
   refine (KI.out _).mono ?_; rintro e w' ⟨v, rfl, hv, hb⟩
   exact hKK _ _ hb hv
  refine ObsT.cons (k' := 2) rfl ?_ ?_
  ·
   intro fa W hW hSame hRR KK hKK
   try dsimp only at hW
   have fb1 : fa.tmps[1]? = some (Value.pointer (some ⟨w.heap.size, 0, none⟩)) := (hSame.base 1 (by kernel_rfl)).trans (by kernel_rfl)
   replace hKK : ∀ v w', Below W.heap.size W w' → v = Value.pointer (some ⟨w.heap.size, 0, none⟩) → KK (Act.put fa _ v) w' := fun v w' h1 h2 => hKK v w' h1 h2
   have hX := X1.out.keep hW
   have tx := hX; obtain ⟨chb, cfz, ck0, ck1, ck2, ck3, ck4, ck5⟩ := tx
   clear hSame hRR
   rw [if_pos (wanted_plain rfl)]
   go_simp
   refine hKK _ _ ?_ ?_
   ·
    exact grP
   ·
    exact rfl
  refine ObsT.cons (k' := 3) rfl ?_ ?_
  ·
   intro fa W hW hSame hRR KK hKK
   try dsimp only at hW
   obtain ⟨fv1, ft1, (rfl : fv1 = Value.pointer (some ⟨w.heap.size, 0, none⟩))⟩ := hRR 1 _ 12 rfl rfl (by kernel_rfl) (by kernel_rfl)
   replace hKK : ∀ v w', Below W.heap.size W w' → v = Value.int .i64 7 → KK (Act.put fa _ v) w' := fun v w' h1 h2 => hKK v w' h1 h2
   have hX := X1.out.keep hW
   have tx := hX; obtain ⟨chb, cfz, ck0, ck1, ck2, ck3, ck4, ck5⟩ := tx
   clear hSame hRR
   rw [if_pos (wanted_plain rfl)]
   go_simp
   refine hKK _ _ ?_ ?_
   ·
    exact grP
   ·
    exact rfl
  refine ObsT.cons (k' := 4) rfl ?_ ?_
  ·
   intro fa W hW hSame hRR KK hKK
   try dsimp only at hW
   obtain ⟨fv2, ft2, (rfl : fv2 = Value.int .i64 7)⟩ := hRR 2 _ 13 rfl rfl (by kernel_rfl) (by kernel_rfl)
   replace hKK : ∀ v w', Below W.heap.size W w' → v = Value.int .i64 6 → KK (Act.put fa _ v) w' := fun v w' h1 h2 => hKK v w' h1 h2
   clear hSame hRR
   rw [if_pos (wanted_plain rfl)]
   go_simp
   refine hKK _ _ ?_ ?_
   ·
    exact grP
   ·
    exact rfl
  refine ObsT.cons (k' := 5) rfl ?_ ?_
  ·
   intro fa W hW hSame hRR KK hKK
   try dsimp only at hW
   obtain ⟨fv0, ft0, hk0⟩ := hRR 0 _ 11 rfl rfl (by kernel_rfl) (by kernel_rfl)
   obtain ⟨fv3, ft3, (rfl : fv3 = Value.int .i64 6)⟩ := hRR 3 _ 14 rfl rfl (by kernel_rfl) (by kernel_rfl)
   replace hKK : ∀ v w', Below W.heap.size W w' → (fun v W => ∃ ad, v = Value.pointer (some ad) ∧ W.cell? ad = some (.string A0)) v w' → KK (Act.put fa _ v) w' := fun v w' h1 h2 => hKK v w' h1 h2
   obtain ⟨a9, c9, rfl, h9⟩ := WA.out _ _ hk0
   clear hSame hRR
   rw [if_pos (wanted_plain rfl)]
   go_simp
   refine hKK _ _ (Below.refl _ _) ⟨_, rfl, ?_⟩
   exact h9
  refine ObsT.cons (k' := 6) rfl ?_ ?_
  ·
   intro fa W hW hSame hRR KK hKK
   try dsimp only at hW
   obtain ⟨fv4, ft4, ⟨ad, rfl, hg4⟩⟩ := hRR 4 _ 15 rfl rfl (by kernel_rfl) (by kernel_rfl)
   replace hKK : ∀ v w', Below W.heap.size W w' → v = Value.string A0 → KK (Act.put fa _ v) w' := fun v w' h1 h2 => hKK v w' h1 h2
   clear hSame hRR
   rw [if_pos (wanted_plain rfl)]
   go_simp
   refine hKK _ _ ?_ ?_
   ·
    exact grP
   ·
    exact rfl
  refine ObsT.cons (k' := 7) rfl ?_ ?_
  ·
   intro fa W hW hSame hRR KK hKK
   try dsimp only at hW
   obtain ⟨fv5, ft5, (rfl : fv5 = Value.string A0)⟩ := hRR 5 _ 16 rfl rfl (by kernel_rfl) (by kernel_rfl)
   replace hKK : ∀ v w', Below W.heap.size W w' → v = Value.string A0 → KK (Act.put fa _ v) w' := fun v w' h1 h2 => hKK v w' h1 h2
   clear hSame hRR
   rw [if_pos (wanted_plain rfl)]
   go_simp
   refine hKK _ _ ?_ ?_
   ·
    exact grP
   ·
    exact rfl
  exact ObsT.nil
 case hlast =>
  intro fa w2 d2 hSame hRR
  try dsimp only at d2
  obtain ⟨zz6, f4, rfl⟩ := hRR 6 _ 4 rfl rfl rfl
  rw [Same_shape hSame]
  simp only [List.filterMap_cons, List.filterMap_nil, List.foldl_cons, List.foldl_nil]
  have g4 : fa.tmps.getD 4 undef = Value.string A0 := by simp [Array.getD_eq_getD_getElem?, f4]
  rw [g4]
  generalize fa.tmps.getD 11 undef = y11
  generalize fa.tmps.getD 12 undef = y12
  generalize fa.tmps.getD 13 undef = y13
  generalize fa.tmps.getD 14 undef = y14
  generalize fa.tmps.getD 15 undef = y15
  generalize fa.tmps.getD 16 undef = y16
  clear hSame hRR f4 g4
  simp only [Act.put, List.setIfInBounds_toArray, List.set_cons_succ, List.set_cons_zero]
  have B2 := Lib.hid (below_step B1.out d2)
  have X2 := Lib.hid (X1.out.keep d2)
  clear d2 X1 B1
  have X := X2.out
  have Xh := X.hb; have Xf := X.fz; have X0c := X.k0; have X1c := X.k1; have X2c := X.k2; have X3c := X.k3; have X4c := X.k4; have X5c := X.k5
  clear X
  go_upto_region 8 with (fail)
  clear Xh Xf X0c X1c X2c X3c X4c X5c
  refine wp_region_lastm (n := 10) (R := markR [(fun v _ => v = Value.string A0), (fun v _ => v = Value.pointer (some ⟨w.heap.size, 1, none⟩)), (fun v _ => v = Value.string Z), (fun v _ => v = Value.string (⟨#[32]⟩ ++ Z)), (fun v _ => v = Value.string (⟨#[32]⟩ ++ Z ++ ⟨#[32]⟩)), (fun v _ => v = Value.pointer (some ⟨w.heap.size, 2, none⟩)), (fun v _ => v = Value.int .i64 t), (fun v _ => v = Value.string T1), (fun v _ => v = Value.string (⟨#[32]⟩ ++ Z ++ ⟨#[32]⟩ ++ T1)), (fun v _ => v = Value.string (A0 ++ (⟨#[32]⟩ ++ Z ++ ⟨#[32]⟩ ++ T1)))]) (till := fun _ => none) (D := fun W => Below w2.heap.size w2 W) (G := fun _ W W' => Below W.heap.size W W') (by rfl) ?hbeg ⟨by kernel_rfl, by kernel_rfl, by kernel_rfl, by kernel_rfl, by kernel_rfl, ?hkeep, ?hstab, ObsM.all ?hobs, ?hlast⟩
  case hbeg => exact (Below.refl _ _).drew
  case hkeep => intro i w1 w2 hC hG; exact below_step hC hG
  case hstab =>
   intro i j hij ht v w1 w2 hG hm
   match j, hm with
   | 0, hm => exact hm
   | 1, hm => exact hm
   | 2, hm => exact hm
   | 3, hm => exact hm
   | 4, hm => exact hm
   | 5, hm => exact hm
   | 6, hm => exact hm
   | 7, hm => exact hm
   | 8, hm => exact hm
   | 9, hm => exact hm
   | j + 10, hm => exact trivial
  case hobs =>
   refine ObsM.cons (k' := 1) rfl ?_ ?_
   ·
    intro fa W hW hSame hBs hRR KK hKK
    try dsimp only at hW
    have fb4 : fa.tmps[4]? = some (Value.string A0) := (hBs 4 (by kernel_rfl)).trans (by kernel_rfl)
    replace hKK : ∀ v w', Below W.heap.size W w' → v = Value.string A0 → KK (Act.put fa _ v) w' := fun v w' h1 h2 => hKK v w' h1 h2
    clear hSame hRR hBs
    rw [if_pos (wanted_plain rfl)]
    go_simp
    refine hKK _ _ ?_ ?_
    ·
     exact grP
    ·
     exact rfl
   refine ObsM.cons (k' := 2) rfl ?_ ?_
   ·
    intro fa W hW hSame hBs hRR KK hKK
    try dsimp only at hW
    have fb1 : fa.tmps[1]? = some (Value.pointer (some ⟨w.heap.size, 0, none⟩)) := (hSame.base 1 (by kernel_rfl)).trans (by kernel_rfl)
    replace hKK : ∀ v w', Below W.heap.size W w' → v = Value.pointer (some ⟨w.heap.size, 1, none⟩) → KK (Act.put fa _ v) w' := fun v w' h1 h2 => hKK v w' h1 h2
    have hX := X2.out.keep hW
    have tx := hX; obtain ⟨chb, cfz, ck0, ck1, ck2, ck3, ck4, ck5⟩ := tx
    clear hSame hRR hBs
    rw [if_pos (wanted_plain rfl)]
    go_simp
    refine hKK _ _ ?_ ?_
    ·
     exact grP
    ·
     exact rfl
   refine ObsM.cons (k' := 3) rfl ?_ ?_
   ·
    intro fa W hW hSame hBs hRR KK hKK
    try dsimp only at hW
    obtain ⟨fv1, ft1, (rfl : fv1 = Value.pointer (some ⟨w.heap.size, 1, none⟩))⟩ := hRR 1 _ 22 rfl rfl (by kernel_rfl) (by kernel_rfl)
    replace hKK : ∀ v w', Below W.heap.size W w' → v = Value.string Z → KK (Act.put fa _ v) w' := fun v w' h1 h2 => hKK v w' h1 h2
    have hX := X2.out.keep hW
    have tx := hX; obtain ⟨chb, cfz, ck0, ck1, ck2, ck3, ck4, ck5⟩ := tx
    clear hSame hRR hBs
    rw [if_pos (wanted_plain rfl)]
    go_simp
    refine hKK _ _ ?_ ?_
    ·
     exact grP
    ·
     exact rfl
   refine ObsM.cons (k' := 4) rfl ?_ ?_
   ·
    intro fa W hW hSame hBs hRR KK hKK
    try dsimp only at hW
    obtain ⟨fv2, ft2, (rfl : fv2 = Value.string Z)⟩ := hRR 2 _ 23 rfl rfl (by kernel_rfl) (by kernel_rfl)
    replace hKK : ∀ v w', Below W.heap.size W w' → v = Value.string (⟨#[32]⟩ ++ Z) → KK (Act.put fa _ v) w' := fun v w' h1 h2 => hKK v w' h1 h2
    clear hSame hRR hBs
    rw [if_pos (wanted_plain rfl)]
    go_simp
    refine hKK _ _ ?_ ?_
    ·
     exact grP
    ·
     exact rfl
   refine ObsM.cons (k' := 5) rfl ?_ ?_
   ·
    intro fa W hW hSame hBs hRR KK hKK
    try dsimp only at hW
    obtain ⟨fv3, ft3, (rfl : fv3 = Value.string (⟨#[32]⟩ ++ Z))⟩ := hRR 3 _ 24 rfl rfl (by kernel_rfl) (by kernel_rfl)
    replace hKK : ∀ v w', Below W.heap.size W w' → v = Value.string (⟨#[32]⟩ ++ Z ++ ⟨#[32]⟩) → KK (Act.put fa _ v) w' := fun v w' h1 h2 => hKK v w' h1 h2
    clear hSame hRR hBs
    rw [if_pos (wanted_plain rfl)]
    go_simp
    refine hKK _ _ ?_ ?_
    ·
     exact grP
    ·
     exact rfl
   refine ObsM.cons (k' := 6) rfl ?_ ?_
   ·
    intro fa W hW hSame hBs hRR KK hKK
    try dsimp only at hW
    have fb1 : fa.tmps[1]? = some (Value.pointer (some ⟨w.heap.size, 0, none⟩)) := (hSame.base 1 (by kernel_rfl)).trans (by kernel_rfl)
    replace hKK : ∀ v w', Below W.heap.size W w' → v = Value.pointer (some ⟨w.heap.size, 2, none⟩) → KK (Act.put fa _ v) w' := fun v w' h1 h2 => hKK v w' h1 h2
    have hX := X2.out.keep hW
    have tx := hX; obtain ⟨chb, cfz, ck0, ck1, ck2, ck3, ck4, ck5⟩ := tx
    clear hSame hRR hBs
    rw [if_pos (wanted_plain rfl)]
    go_simp
    refine hKK _ _ ?_ ?_
    ·
     exact grP
    ·
     exact rfl
   refine ObsM.cons (k' := 7) rfl ?_ ?_
   ·
    intro fa W hW hSame hBs hRR KK hKK
    try dsimp only at hW
    obtain ⟨fv5, ft5, (rfl : fv5 = Value.pointer (some ⟨w.heap.size, 2, none⟩))⟩ := hRR 5 _ 26 rfl rfl (by kernel_rfl) (by kernel_rfl)
    replace hKK : ∀ v w', Below W.heap.size W w' → v = Value.int .i64 t → KK (Act.put fa _ v) w' := fun v w' h1 h2 => hKK v w' h1 h2
    have hX := X2.out.keep hW
    have tx := hX; obtain ⟨chb, cfz, ck0, ck1, ck2, ck3, ck4, ck5⟩ := tx
    clear hSame hRR hBs
    rw [if_pos (wanted_plain rfl)]
    go_simp
    refine hKK _ _ ?_ ?_
    ·
     exact grP
    ·
     exact rfl
   refine ObsM.cons (k' := 8) rfl ?_ ?_
   ·
    intro fa W hW hSame hBs hRR KK hKK
    try dsimp only at hW
    obtain ⟨fv6, ft6, (rfl : fv6 = Value.int .i64 t)⟩ := hRR 6 _ 27 rfl rfl (by kernel_rfl) (by kernel_rfl)
    replace hKK : ∀ v w', Below W.heap.size W w' → v = Value.string T1 → KK (Act.put fa _ v) w' := fun v w' h1 h2 => hKK v w' h1 h2
    clear hSame hRR hBs
    rw [if_pos (wanted_plain rfl)]
    go_simp
    refine (CT.out _).mono ?_; rintro e w' ⟨rfl, hb⟩
    exact hKK _ _ hb rfl
   refine ObsM.cons (k' := 9) rfl ?_ ?_
   ·
    intro fa W hW hSame hBs hRR KK hKK
    try dsimp only at hW
    obtain ⟨fv4, ft4, (rfl : fv4 = Value.string (⟨#[32]⟩ ++ Z ++ ⟨#[32]⟩))⟩ := hRR 4 _ 25 rfl rfl (by kernel_rfl) (by kernel_rfl)
    obtain ⟨fv7, ft7, (rfl : fv7 = Value.string T1)⟩ := hRR 7 _ 28 rfl rfl (by kernel_rfl) (by kernel_rfl)
    replace hKK : ∀ v w', Below W.heap.size W w' → v = Value.string (⟨#[32]⟩ ++ Z ++ ⟨#[32]⟩ ++ T1) → KK (Act.put fa _ v) w' := fun v w' h1 h2 => hKK v w' h1 h2
    clear hSame hRR hBs
    rw [if_pos (wanted_plain rfl)]
    go_simp
    refine hKK _ _ ?_ ?_
    ·
     exact grP
    ·
     exact rfl
   refine ObsM.cons (k' := 10) rfl ?_ ?_
   ·
    intro fa W hW hSame hBs hRR KK hKK
    try dsimp only at hW
    obtain ⟨fv0, ft0, (rfl : fv0 = Value.string A0)⟩ := hRR 0 _ 21 rfl rfl (by kernel_rfl) (by kernel_rfl)
    obtain ⟨fv8, ft8, (rfl : fv8 = Value.string (⟨#[32]⟩ ++ Z ++ ⟨#[32]⟩ ++ T1))⟩ := hRR 8 _ 29 rfl rfl (by kernel_rfl) (by kernel_rfl)
    replace hKK : ∀ v w', Below W.heap.size W w' → v = Value.string (A0 ++ (⟨#[32]⟩ ++ Z ++ ⟨#[32]⟩ ++ T1)) → KK (Act.put fa _ v) w' := fun v w' h1 h2 => hKK v w' h1 h2
    clear hSame hRR hBs
    rw [if_pos (wanted_plain rfl)]
    go_simp
    refine hKK _ _ ?_ ?_
    ·
     exact grP
    ·
     exact rfl
   exact ObsM.nil
  case hlast =>
   intro o ho fa W hW hSame hBs hRR KK hKK
   replace ho := Option.some.inj (show some _ = some o from ho)
   subst ho
   try dsimp only at hW
   obtain ⟨fv9, ft9, (rfl : fv9 = Value.string (A0 ++ (⟨#[32]⟩ ++ Z ++ ⟨#[32]⟩ ++ T1)))⟩ := hRR 9 _ 30 (by decide) rfl rfl rfl
   rw [if_pos (wanted_plain rfl)]
   go_simp
   refine hKK _ _ ?_
   clear hKK
   rw [Same_shape hSame]
   simp only [List.filterMap_cons, List.filterMap_nil, List.foldl_cons, List.foldl_nil]
   generalize fa.tmps.getD 21 undef = y21
   generalize fa.tmps.getD 22 undef = y22
   generalize fa.tmps.getD 23 undef = y23
   generalize fa.tmps.getD 24 undef = y24
   generalize fa.tmps.getD 25 undef = y25
   generalize fa.tmps.getD 26 undef = y26
   generalize fa.tmps.getD 27 undef = y27
   generalize fa.tmps.getD 28 undef = y28
   generalize fa.tmps.getD 29 undef = y29
   generalize fa.tmps.getD 30 undef = y30
   generalize fa.tmps.getD 4 undef = y4
   clear hSame hBs hRR  ft9
   simp only [Act.put, List.setIfInBounds_toArray, List.set_cons_succ, List.set_cons_zero]
   rename World => w3
   have B3 := Lib.hid (below_step B2.out hW)
   have X3 := Lib.hid (X2.out.keep hW)
   clear hW X2 B2
   have X := X3.out
   have Xh := X.hb; have Xf := X.fz; have X0c := X.k0; have X1c := X.k1; have X2c := X.k2; have X3c := X.k3; have X4c := X.k4; have X5c := X.k5
   clear X
   have hs5 : ¬ 9223372036854775807 < 1 + N1.size := by omega
   have hs6 : ¬ 9223372036854775807 < A0.size + (1 + Z.size + 1 + T1.size) + (1 + N1.size) := by omega
   go_wp2_with fail
   refine (CN.out _).mono ?_; rintro e w4 ⟨rfl, b9⟩
   have B4 := Lib.hid (below_step B3.out b9)
   have X4 := Lib.hid (X3.out.keep b9)
   clear b9 X3 B3 Xh Xf X0c X1c X2c X3c X4c X5c
   have X := X4.out
   have Xh := X.hb; have Xf := X.fz; have X0c := X.k0; have X1c := X.k1; have X2c := X.k2; have X3c := X.k3; have X4c := X.k4; have X5c := X.k5
   clear X
   go_wp2_with fail
   go_ret2
   exact ⟨rfl, B4.out⟩
set_option maxHeartbeats 4000000 in
set_option maxRecDepth 100000 in
theorem rqtext_0 (w : World) : Calls Tryz.prog 9 #[Qy.V (0, [], 0, 0, 0, 0)] w fun e w' => e = .returned (.tuple #[.string ⟨(Qy.sj (Qy.parts (0, [], 0, 0, 0, 0))).toArray⟩, .int .i64 0]) ∧ Below w.heap.size w w' := by
 have RR := Lib.hid (fun W => rqright_any 0 0 0 0 0 [] W (by decide))
 rw [decide_eq_true (show Qy.right (0, [], 0, 0, 0, 0) by decide)] at RR
 have KI := Lib.hid (fun W => rqheads_any W)
 rw [show (⟨(Qy.sj (Qy.parts (0, [], 0, 0, 0, 0))).toArray⟩ : ByteArray) = ⟨#[]⟩ from rfl]
 unfold Qy.V at RR ⊢
 dsimp only at RR ⊢
 rw [show (⟨([] : List UInt8).toArray⟩ : ByteArray) = ⟨#[]⟩ from rfl] at RR ⊢
 go_enter Tryz.func9, Tryz.ntmps9
 go_upto_region 1 with (fail)
 refine wp_named ?_; intro w0 hw0
 have d0 : Below w.heap.size w w0 := by rw [hw0]; exact gr0
 have B0 := Lib.hid d0
 have X0 : Hid (Bk6 w0 w.heap.size (.int .i64 0) (.string ⟨#[]⟩) (.int .i64 0) (.int .i64 0) (.int .i64 0) (.int .i64 0)) := Lib.hid (by rw [hw0]; exact ⟨by simp <;> omega, by intro j; simp [go_sem], by simp [go_sem], by simp [go_sem], by simp [go_sem], by simp [go_sem], by simp [go_sem], by simp [go_sem]⟩)
 clear d0 hw0
 have X := X0.out
 have Xh := X.hb; have Xf := X.fz; have X0c := X.k0; have X1c := X.k1; have X2c := X.k2; have X3c := X.k3; have X4c := X.k4; have X5c := X.k5
 clear X
 go_wp2_with fail
 refine (RR.out _).mono ?_; rintro e w1 ⟨rfl, b1⟩
 have B1 := Lib.hid (below_step B0.out b1)
 have X1 := Lib.hid (X0.out.keep b1)
 clear b1 Xh Xf X0c X1c X2c X3c X4c X5c X0 B0 RR
 have X := X1.out
 have Xh := X.hb; have Xf := X.fz; have X0c := X.k0; have X1c := X.k1; have X2c := X.k2; have X3c := X.k3; have X4c := X.k4; have X5c := X.k5
 clear X
 go_wp2_with fail
 go_ret2
 exact ⟨rfl, B1.out⟩
set_option maxHeartbeats 4000000 in
set_option maxRecDepth 100000 in
theorem rqtext_6 (w : World) : Calls Tryz.prog 9 #[Qy.V (6, [], 0, 0, 0, 0)] w fun e w' => e = .returned (.tuple #[.string ⟨(Qy.sj (Qy.parts (6, [], 0, 0, 0, 0))).toArray⟩, .int .i64 0]) ∧ Below w.heap.size w w' := by
 have RR := Lib.hid (fun W => rqright_any 6 0 0 0 0 [] W (by decide))
 rw [decide_eq_true (show Qy.right (6, [], 0, 0, 0, 0) by decide)] at RR
 have KI := Lib.hid (fun W => rqheads_any W)
 obtain ⟨A0, ea, WA⟩ := qy_word Qy.heads 6 (by omega) (by show _ ≤ (7 : Int); omega)
 have WA := Lib.hid WA
 rw [show (⟨(Qy.sj (Qy.parts (6, [], 0, 0, 0, 0))).toArray⟩ : ByteArray) = A0 from by
  apply ByteArray.ext; apply Array.toList_inj.1
  rw [ea]; rfl]
 clear ea
 unfold Qy.V at RR ⊢
 dsimp only at RR ⊢
 rw [show (⟨([] : List UInt8).toArray⟩ : ByteArray) = ⟨#[]⟩ from rfl] at RR ⊢
 go_enter Tryz.func9, Tryz.ntmps9
 go_upto_region 1 with (fail)
 refine wp_named ?_; intro w0 hw0
 have d0 : Below w.heap.size w w0 := by rw [hw0]; exact gr0
 have B0 := Lib.hid d0
 have X0 : Hid (Bk6 w0 w.heap.size (.int .i64 6) (.string ⟨#[]⟩) (.int .i64 0) (.int .i64 0) (.int .i64 0) (.int .i64 0)) := Lib.hid (by rw [hw0]; exact ⟨by simp <;> omega, by intro j; simp [go_sem], by simp [go_sem], by simp [go_sem], by simp [go_sem], by simp [go_sem], by simp [go_sem], by simp [go_sem]⟩)
 clear d0 hw0
 have X := X0.out
 have Xh := X.hb; have Xf := X.fz; have X0c := X.k0; have X1c := X.k1; have X2c := X.k2; have X3c := X.k3; have X4c := X.k4; have X5c := X.k5
 clear X
 go_wp2_with fail
 refine (RR.out _).mono ?_; rintro e w1 ⟨rfl, b1⟩
 have B1 := Lib.hid (below_step B0.out b1)
 have X1 := Lib.hid (X0.out.keep b1)
 clear b1 Xh Xf X0c X1c X2c X3c X4c X5c X0 B0 RR
 have X := X1.out
 have Xh := X.hb; have Xf := X.fz; have X0c := X.k0; have X1c := X.k1; have X2c := X.k2; have X3c := X.k3; have X4c := X.k4; have X5c := X.k5
 clear X
 go_upto_region 5 with (fail)
 clear Xh Xf X0c X1c X2c X3c X4c X5c
 refine wp_region_till (R := markR [(fun v W => StS W v Qy.heads), (fun v _ => v = Value.pointer (some ⟨w.heap.size, 0, none⟩)), (fun v _ => v = Value.int .i64 6), (fun v _ => v = Value.int .i64 5), (fun v W => ∃ ad, v = Value.pointer (some ad) ∧ W.cell? ad = some (.string A0)), (fun v _ => v = Value.string A0), (fun v _ => v = Value.string A0)]) (till := fun _ => none) (D := fun W => Below w1.heap.size w1 W) (G := fun _ W W' => Below W.heap.size W W') (by rfl) ?hbeg ⟨by kernel_rfl, by kernel_rfl, by kernel_rfl, ?hkeep, ?hstab, ObsT.all ?hobs, ?hlast⟩
 case hbeg => exact (Below.refl _ _).drew
 case hkeep => intro i w1 w2 hC hG; exact below_step hC hG
 case hstab =>
  intro i j hij ht v w1 w2 hG hm
  match j, hm with
  | 0, hm => exact StS.on hm hG
  | 1, hm => exact hm
  | 2, hm => exact hm
  | 3, hm => exact hm
  | 4, hm => exact (by obtain ⟨ad, e, hg⟩ := hm; exact ⟨ad, e, qy_cell hg hG⟩)
  | 5, hm => exact hm
  | 6, hm => exact hm
  | j + 7, hm => exact trivial
 case hobs =>
  refine ObsT.cons (k' := 1) rfl ?_ ?_
  ·
   intro fa W hW hSame hRR KK hKK
   try dsimp only at hW
   replace hKK : ∀ v w', Below W.heap.size W w' → (fun v W => StS W v Qy.heads) v w' → KK (Act.put fa _ v) w' := fun v w' h1 h2 => hKK v w' h1 h2
   clear hSame hRR
   rw [if_pos (wanted_plain rfl)]
   go_simp
   refine (KI.out _).mono ?_; rintro e w' ⟨v, rfl, hv, hb⟩
   exact hKK _ _ hb hv
  refine ObsT.cons (k' := 2) rfl ?_ ?_
  ·
   intro fa W hW hSame hRR KK hKK
   try dsimp only at hW
   have fb1 : fa.tmps[1]? = some (Value.pointer (some ⟨w.heap.size, 0, none⟩)) := (hSame.base 1 (by kernel_rfl)).trans (by kernel_rfl)
   replace hKK : ∀ v w', Below W.heap.size W w' → v = Value.pointer (some ⟨w.heap.size, 0, none⟩) → KK (Act.put fa _ v) w' := fun v w' h1 h2 => hKK v w' h1 h2
   have hX := X1.out.keep hW
   have tx := hX; obtain ⟨chb, cfz, ck0, ck1, ck2, ck3, ck4, ck5⟩ := tx
   clear hSame hRR
   rw [if_pos (wanted_plain rfl)]
   go_simp
   refine hKK _ _ ?_ ?_
   ·
    exact grP
   ·
    exact rfl
  refine ObsT.cons (k' := 3) rfl ?_ ?_
  ·
   intro fa W hW hSame hRR KK hKK
   try dsimp only at hW
   obtain ⟨fv1, ft1, (rfl : fv1 = Value.pointer (some ⟨w.heap.size, 0, none⟩))⟩ := hRR 1 _ 12 rfl rfl (by kernel_rfl) (by kernel_rfl)
   replace hKK : ∀ v w', Below W.heap.size W w' → v = Value.int .i64 6 → KK (Act.put fa _ v) w' := fun v w' h1 h2 => hKK v w' h1 h2
   have hX := X1.out.keep hW
   have tx := hX; obtain ⟨chb, cfz, ck0, ck1, ck2, ck3, ck4, ck5⟩ := tx
   clear hSame hRR
   rw [if_pos (wanted_plain rfl)]
   go_simp
   refine hKK _ _ ?_ ?_
   ·
    exact grP
   ·
    exact rfl
  refine ObsT.cons (k' := 4) rfl ?_ ?_
  ·
   intro fa W hW hSame hRR KK hKK
   try dsimp only at hW
   obtain ⟨fv2, ft2, (rfl : fv2 = Value.int .i64 6)⟩ := hRR 2 _ 13 rfl rfl (by kernel_rfl) (by kernel_rfl)
   replace hKK : ∀ v w', Below W.heap.size W w' → v = Value.int .i64 5 → KK (Act.put fa _ v) w' := fun v w' h1 h2 => hKK v w' h1 h2
   clear hSame hRR
   rw [if_pos (wanted_plain rfl)]
   go_simp
   refine hKK _ _ ?_ ?_
   ·
    exact grP
   ·
    exact rfl
  refine ObsT.cons (k' := 5) rfl ?_ ?_
  ·
   intro fa W hW hSame hRR KK hKK
   try dsimp only at hW
   obtain ⟨fv0, ft0, hk0⟩ := hRR 0 _ 11 rfl rfl (by kernel_rfl) (by kernel_rfl)
   obtain ⟨fv3, ft3, (rfl : fv3 = Value.int .i64 5)⟩ := hRR 3 _ 14 rfl rfl (by kernel_rfl) (by kernel_rfl)
   replace hKK : ∀ v w', Below W.heap.size W w' → (fun v W => ∃ ad, v = Value.pointer (some ad) ∧ W.cell? ad = some (.string A0)) v w' → KK (Act.put fa _ v) w' := fun v w' h1 h2 => hKK v w' h1 h2
   obtain ⟨a9, c9, rfl, h9⟩ := WA.out _ _ hk0
   clear hSame hRR
   rw [if_pos (wanted_plain rfl)]
   go_simp
   refine hKK _ _ (Below.refl _ _) ⟨_, rfl, ?_⟩
   exact h9
  refine ObsT.cons (k' := 6) rfl ?_ ?_
  ·
   intro fa W hW hSame hRR KK hKK
   try dsimp only at hW
   obtain ⟨fv4, ft4, ⟨ad, rfl, hg4⟩⟩ := hRR 4 _ 15 rfl rfl (by kernel_rfl) (by kernel_rfl)
   replace hKK : ∀ v w', Below W.heap.size W w' → v = Value.string A0 → KK (Act.put fa _ v) w' := fun v w' h1 h2 => hKK v w' h1 h2
   clear hSame hRR
   rw [if_pos (wanted_plain rfl)]
   go_simp
   refine hKK _ _ ?_ ?_
   ·
    exact grP
   ·
    exact rfl
  refine ObsT.cons (k' := 7) rfl ?_ ?_
  ·
   intro fa W hW hSame hRR KK hKK
   try dsimp only at hW
   obtain ⟨fv5, ft5, (rfl : fv5 = Value.string A0)⟩ := hRR 5 _ 16 rfl rfl (by kernel_rfl) (by kernel_rfl)
   replace hKK : ∀ v w', Below W.heap.size W w' → v = Value.string A0 → KK (Act.put fa _ v) w' := fun v w' h1 h2 => hKK v w' h1 h2
   clear hSame hRR
   rw [if_pos (wanted_plain rfl)]
   go_simp
   refine hKK _ _ ?_ ?_
   ·
    exact grP
   ·
    exact rfl
  exact ObsT.nil
 case hlast =>
  intro fa w2 d2 hSame hRR
  try dsimp only at d2
  obtain ⟨zz6, f4, rfl⟩ := hRR 6 _ 4 rfl rfl rfl
  rw [Same_shape hSame]
  simp only [List.filterMap_cons, List.filterMap_nil, List.foldl_cons, List.foldl_nil]
  have g4 : fa.tmps.getD 4 undef = Value.string A0 := by simp [Array.getD_eq_getD_getElem?, f4]
  rw [g4]
  generalize fa.tmps.getD 11 undef = y11
  generalize fa.tmps.getD 12 undef = y12
  generalize fa.tmps.getD 13 undef = y13
  generalize fa.tmps.getD 14 undef = y14
  generalize fa.tmps.getD 15 undef = y15
  generalize fa.tmps.getD 16 undef = y16
  clear hSame hRR f4 g4
  simp only [Act.put, List.setIfInBounds_toArray, List.set_cons_succ, List.set_cons_zero]
  have B2 := Lib.hid (below_step B1.out d2)
  have X := X1.out.keep d2
  have Xh := X.hb; have Xf := X.fz; have X0c := X.k0; have X1c := X.k1; have X2c := X.k2; have X3c := X.k3; have X4c := X.k4; have X5c := X.k5
  clear X d2
  go_wp2_with fail
  go_ret2
  exact ⟨rfl, B2.out⟩
set_option maxHeartbeats 4000000 in
set_option maxRecDepth 100000 in
theorem rqtext_no (k t n u p : Int) (z : List UInt8) (w : World) (hz : z.length ≤ 1000) (hr : ¬ Qy.right (k, z, t, n, u, p)) :
  Calls Tryz.prog 9 #[Qy.V (k, z, t, n, u, p)] w fun e w' => e = .returned (.tuple #[.string ⟨#[]⟩, .int .i64 4]) ∧ Below w.heap.size w w' := by
 have RR := Lib.hid (fun W => rqright_any k t n u p z W hz)
 rw [decide_eq_false hr] at RR
 unfold Qy.V at RR ⊢
 dsimp only at RR ⊢
 generalize (⟨z.toArray⟩ : ByteArray) = Z at RR ⊢
 clear hz hr
 go_enter Tryz.func9, Tryz.ntmps9
 go_wp2_with fail
 refine (RR.out _).mono ?_; rintro e w1 ⟨rfl, b1⟩
 have B1 := Lib.hid (below_step (show Below w.heap.size w _ from gr0) b1)
 clear b1
 go_wp2_with fail
 go_ret2
 exact ⟨rfl, B1.out⟩
theorem rqText_any (q : Qy.Q) (w : World) (ht : An.bd q.2.2.1) (hn : An.bd q.2.2.2.1) (hz : q.2.1.length ≤ 1000) :
  Calls Tryz.prog 9 #[Qy.V q] w fun e w' => e = .returned (.tuple #[.string ⟨(Qy.tx q).1.toArray⟩, .int .i64 (Qy.tx q).2]) ∧ Below w.heap.size w w' := by
 obtain ⟨k, z, t, n, u, p⟩ := q
 unfold Qy.tx
 by_cases hr : Qy.right (k, z, t, n, u, p)
 case neg => rw [if_neg hr]; exact rqtext_no k t n u p z w hz hr
 rw [if_pos hr]
 have T := hr
 rcases T with ⟨rfl, rfl, rfl, rfl, rfl, rfl⟩ | ⟨rfl, rfl, rfl, rfl, rfl, rfl⟩ | ⟨hk, -, rfl, rfl, rfl⟩ | ⟨rfl, -, rfl, rfl, hp⟩ | ⟨rfl, -, hu, hp⟩ | ⟨rfl, -, rfl, rfl, -⟩
 ·
  exact rqtext_0 w
 ·
  exact rqtext_6 w
 ·
  exact rqtext_k k t z w hz ht hk hr
 ·
  exact rqtext_3 t p z w hz ht hp hr
 ·
  exact rqtext_5 t n u p z w hz ht hn hu hp hr
 ·
  exact rqtext_7 t n z w hz ht hn hr
end Go.Proofs.YtbcbggdbojonmaaGreatDoor
