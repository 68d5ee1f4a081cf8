/- Joined: AnR. -/
import Derived.Test.YtlelpeocbgjmhaaGreatDoorCa28
/- Answers: a second's text, and a fault's, by the reference. -/
set_option linter.unusedVariables false
set_option linter.unusedSimpArgs false
namespace Go.Proofs.YtlelpeocbgjmhaaGreatDoor
open Go.RowKit Go.Sort Go.Pairs
theorem ran_num (n : Int) (h : An.bd n) : ∃ A : ByteArray, A.data.toList = Lib.itoa n ∧ A.size ≤ 21 ∧ Hid (∀ W, Calls Tryz.prog 21 #[.int .i64 n] W fun e w' => e = .returned (.string A) ∧ Below W.heap.size W w') :=
  ⟨⟨(Lib.itoa n).toArray⟩, rfl, by show (Lib.itoa n).toArray.size ≤ 21; rw [List.size_toArray]; exact Lib.itoa_length_le n h.1 h.2, fun W => rtext_any n W h.1 h.2⟩
set_option maxHeartbeats 4000000 in
set_option maxRecDepth 100000 in
theorem rafault_any (line err : Int) (w : World) (hl : An.bd line) (he : An.bd err) :
    Calls Tryz.prog 17 #[.agg #[.int .i64 line, .int .i64 err]] w fun e w' => e = .returned (.string ⟨(An.flt line err).toArray⟩) ∧ Below w.heap.size w w' := by
  obtain ⟨A, ea, za, CA⟩ := ran_num err he
  obtain ⟨B, eb, zb, CB⟩ := ran_num line hl
  have hA : (⟨(Lib.itoa err).toArray⟩ : ByteArray) = A := by rw [← ea]
  have hB : (⟨(Lib.itoa line).toArray⟩ : ByteArray) = B := by rw [← eb]
  have hz1 : ¬ 9223372036854775807 < 6 + A.size := by omega
  unfold An.flt
  by_cases h : 0 < line
  · rw [if_pos h]
    rw [An.arr_app, An.arr_app, An.arr_app, hA, hB, show (⟨[101, 114, 114, 111, 114, 32].toArray⟩ : ByteArray) = ⟨#[101, 114, 114, 111, 114, 32]⟩ from rfl, show (⟨[32, 105, 110, 32, 108, 105, 110, 101, 32].toArray⟩ : ByteArray) = ⟨#[32, 105, 110, 32, 108, 105, 110, 101, 32]⟩ from rfl]
    have hz2 : ¬ 9223372036854775807 < 9 + B.size := by omega
    have hz3 : ¬ 9223372036854775807 < 6 + A.size + (9 + B.size) := by omega
    clear ea eb hA hB hl he za zb
    go_enter Tryz.func17, Tryz.ntmps17
    go_wp2_with fail
    refine (CA.out _).mono ?_; rintro e w1 ⟨rfl, b1⟩
    have d1 : Below w.heap.size w w1 := below_step (by repeat (first | exact Below.refl _ _ | refine _root_.Go.below_drewN ?_ _ | refine Below.drew ?_ | refine Below.setCell ?_ (by first | (simp; done) | (simp; omega) | omega) _ | refine Below.alloc ?_ (by first | (simp; done) | (simp; omega) | omega) _)) b1
    have B1 := Lib.hid d1
    have X1 : Bk2 w1 (w.heap.size) (.int .i64 line) (.int .i64 err) := Bk2.of b1 (by simp <;> omega) (by intro j; simp [go_sem]) (by simp [go_sem]) (by simp [go_sem])
    clear b1 d1
    have cX_b := X1.hb
    have cX_f := X1.fz
    have cX_0 := X1.k0
    have cX_1 := X1.k1
    go_wp2_with fail
    clear cX_b cX_f cX_0 cX_1
    refine (CB.out _).mono ?_; rintro e w2 ⟨rfl, b2⟩
    have d2 : Below w1.heap.size w1 w2 := below_step (by repeat (first | exact Below.refl _ _ | refine _root_.Go.below_drewN ?_ _ | refine Below.drew ?_ | refine Below.setCell ?_ (by first | (simp; done) | (simp; omega) | omega) _ | refine Below.alloc ?_ (by first | (simp; done) | (simp; omega) | omega) _)) b2
    have B2 := Lib.hid (below_step B1.out d2)
    have X2 := X1.keep d2
    clear X1 b2 d2 B1
    have cX_b := X2.hb
    have cX_f := X2.fz
    have cX_0 := X2.k0
    have cX_1 := X2.k1
    go_wp2_with fail
    clear cX_b cX_f cX_0 cX_1
    go_ret
    exact ⟨rfl, (by have hz := B2.out.size; repeat (first | exact B2.out | refine _root_.Go.below_drewN ?_ _ | refine Below.drew ?_ | refine Below.setCell ?_ (by first | omega | (simp; done) | (simp; omega)) _ | refine Below.alloc ?_ (by first | omega | (simp; done) | (simp; omega)) _))⟩
  · rw [if_neg h, List.append_nil]
    rw [An.arr_app, hA, show (⟨[101, 114, 114, 111, 114, 32].toArray⟩ : ByteArray) = ⟨#[101, 114, 114, 111, 114, 32]⟩ from rfl]
    clear ea eb hA hB hl he za zb CB
    go_enter Tryz.func17, Tryz.ntmps17
    go_wp2_with fail
    refine (CA.out _).mono ?_; rintro e w1 ⟨rfl, b1⟩
    have d1 : Below w.heap.size w w1 := below_step (by repeat (first | exact Below.refl _ _ | refine _root_.Go.below_drewN ?_ _ | refine Below.drew ?_ | refine Below.setCell ?_ (by first | (simp; done) | (simp; omega) | omega) _ | refine Below.alloc ?_ (by first | (simp; done) | (simp; omega) | omega) _)) b1
    have B1 := Lib.hid d1
    have X1 : Bk2 w1 (w.heap.size) (.int .i64 line) (.int .i64 err) := Bk2.of b1 (by simp <;> omega) (by intro j; simp [go_sem]) (by simp [go_sem]) (by simp [go_sem])
    clear b1 d1
    have cX_b := X1.hb
    have cX_f := X1.fz
    have cX_0 := X1.k0
    have cX_1 := X1.k1
    go_wp2_with fail
    clear cX_b cX_f cX_0 cX_1
    go_ret
    exact ⟨rfl, (by have hz := B1.out.size; repeat (first | exact B1.out | refine _root_.Go.below_drewN ?_ _ | refine Below.drew ?_ | refine Below.setCell ?_ (by first | omega | (simp; done) | (simp; omega)) _ | refine Below.alloc ?_ (by first | omega | (simp; done) | (simp; omega)) _))⟩
set_option maxHeartbeats 4000000 in
set_option maxRecDepth 100000 in
theorem rasecond_txt (t : Int) (w : World) (ht : An.bd t) :
    Calls Tryz.prog 15 #[.int .i64 t] w fun e w' => e = .returned (.string ⟨(An.sec t).toArray⟩) ∧ Below w.heap.size w w' := by
  obtain ⟨A, ea, za, CA⟩ := ran_num t ht
  have hA : (⟨(Lib.itoa t).toArray⟩ : ByteArray) = A := by rw [← ea]
  unfold An.sec
  cases hr : Cal.hasD (t / 86400)
  · rw [if_neg (by decide), hA]
    have OF := Lib.hid (fun W => rsof_no t W ht.1 ht.2 hr)
    clear ea hA ht hr
    go_enter Tryz.func15, Tryz.ntmps15
    go_wp2_with fail
    refine (OF.out _).mono ?_; rintro e w1 ⟨rfl, b1⟩
    have d1 : Below w.heap.size w w1 := below_step (by repeat (first | exact Below.refl _ _ | refine _root_.Go.below_drewN ?_ _ | refine Below.drew ?_ | refine Below.setCell ?_ (by first | (simp; done) | (simp; omega) | omega) _ | refine Below.alloc ?_ (by first | (simp; done) | (simp; omega) | omega) _)) b1
    have B1 := Lib.hid d1
    clear b1 d1
    go_wp2_with fail
    refine (CA.out _).mono ?_; rintro e w2 ⟨rfl, b2⟩
    have d2 : Below w1.heap.size w1 w2 := below_step (by repeat (first | exact Below.refl _ _ | refine _root_.Go.below_drewN ?_ _ | refine Below.drew ?_ | refine Below.setCell ?_ (by first | (simp; done) | (simp; omega) | omega) _ | refine Below.alloc ?_ (by first | (simp; done) | (simp; omega) | omega) _)) b2
    have B2 := Lib.hid (below_step B1.out d2)
    clear b2 d2 B1
    go_wp2_with fail
    go_ret
    exact ⟨rfl, (by have hz := B2.out.size; repeat (first | exact B2.out | refine _root_.Go.below_drewN ?_ _ | refine Below.drew ?_ | refine Below.setCell ?_ (by first | omega | (simp; done) | (simp; omega)) _ | refine Below.alloc ?_ (by first | omega | (simp; done) | (simp; omega)) _))⟩
  · rw [if_pos rfl]
    have OF := Lib.hid (fun W => rsof_yes t W ht.1 ht.2 hr)
    have ST := Lib.hid (fun W => rstext_any (Cal.dY (t / 86400)) (Cal.dM (t / 86400)) (Cal.dD (t / 86400)) (t % 86400 / 3600) (t % 86400 / 60 % 60) (t % 86400 % 60) W)
    have zs := an_stx (Cal.dY (t / 86400)) (Cal.dM (t / 86400)) (Cal.dD (t / 86400)) (t % 86400 / 3600) (t % 86400 / 60 % 60) (t % 86400 % 60)
    rw [An.arr_app, show ∀ l : List UInt8, 32 :: l = [32] ++ l from fun _ => rfl, An.arr_app, hA, show (⟨[32].toArray⟩ : ByteArray) = ⟨#[32]⟩ from rfl]
    generalize (⟨(St.tx (Cal.dY (t / 86400)) (Cal.dM (t / 86400)) (Cal.dD (t / 86400)) (t % 86400 / 3600) (t % 86400 / 60 % 60) (t % 86400 % 60)).toArray⟩ : ByteArray) = D at *
    generalize Cal.dY (t / 86400) = y0 at *
    generalize Cal.dM (t / 86400) = y1 at *
    generalize Cal.dD (t / 86400) = y2 at *
    generalize t % 86400 / 3600 = y3 at *
    generalize t % 86400 / 60 % 60 = y4 at *
    generalize t % 86400 % 60 = y5 at *
    rw [← ByteArray.append_assoc]
    have hz1 : ¬ 9223372036854775807 < A.size + 1 := by omega
    have hz2 : ¬ 9223372036854775807 < A.size + 1 + D.size := by omega
    clear ea hA ht hr za zs
    go_enter Tryz.func15, Tryz.ntmps15
    go_wp2_with fail
    refine (OF.out _).mono ?_; rintro e w1 ⟨rfl, b1⟩
    have d1 : Below w.heap.size w w1 := below_step (by repeat (first | exact Below.refl _ _ | refine _root_.Go.below_drewN ?_ _ | refine Below.drew ?_ | refine Below.setCell ?_ (by first | (simp; done) | (simp; omega) | omega) _ | refine Below.alloc ?_ (by first | (simp; done) | (simp; omega) | omega) _)) b1
    have B1 := Lib.hid d1
    clear b1 d1
    go_upto_region 4 with (fail)
    refine wp_named ?_; intro w2 hw2
    have d2 : Below w1.heap.size w1 w2 := by rw [hw2]; exact (by repeat (first | exact Below.refl _ _ | refine _root_.Go.below_drewN ?_ _ | refine Below.drew ?_ | refine Below.setCell ?_ (by first | (simp; done) | (simp; omega) | omega) _ | refine Below.alloc ?_ (by first | (simp; done) | (simp; omega) | omega) _))
    have B2 := Lib.hid (below_step B1.out d2)
    have X2 : Bk6 w2 w1.heap.size (.int .i64 y0) (.int .i64 y1) (.int .i64 y2) (.int .i64 y3) (.int .i64 y4) (.int .i64 y5) := by rw [hw2]; exact ⟨by simp <;> omega, by intro j; simp [go_sem], by simp [go_sem], by simp [go_sem], by simp [go_sem], by simp [go_sem], by simp [go_sem], by simp [go_sem]⟩
    clear d2 hw2 B1
    refine wp_region_till (R := markR [(fun v _ => v = Value.int .i64 t), (fun v _ => v = Value.string A), (fun v _ => v = Value.string (A ++ ⟨#[32]⟩)), (fun v _ => v = Value.agg #[.int .i64 y0, .int .i64 y1, .int .i64 y2, .int .i64 y3, .int .i64 y4, .int .i64 y5]), (fun v _ => v = Value.string D), (fun v _ => v = Value.string (A ++ ⟨#[32]⟩ ++ D)), (fun v _ => v = Value.string (A ++ ⟨#[32]⟩ ++ D))]) (till := fun _ => none) (D := fun W => Below w2.heap.size w2 W) (G := fun _ W W' => Below W.heap.size W W') (by rfl) ?hbeg ⟨by kernel_rfl, by kernel_rfl, by kernel_rfl, ?hkeep, ?hstab, ObsT.all ?hobs, ?hlast⟩
    case hbeg => exact (Below.refl _ _).drew
    case hkeep => intro i w1 w2 hC hG; exact below_step hC hG
    case hstab =>
      intro i j hij ht v w1 w2 hG hm
      match j, hm with
      | 0, hm => exact hm
      | 1, hm => exact hm
      | 2, hm => exact hm
      | 3, hm => exact hm
      | 4, hm => exact hm
      | 5, hm => exact hm
      | 6, hm => exact hm
      | j + 7, hm => exact trivial
    case hobs =>
      refine ObsT.cons (k' := 1) rfl ?_ ?_
      · intro fa W hW hSame hRR KK hKK
        try dsimp only at hW
        have fb0 : fa.tmps[0]? = some (Value.int .i64 t) := (hSame.base 0 (by kernel_rfl)).trans (by kernel_rfl)
        replace hKK : ∀ v w', Below W.heap.size W w' → v = Value.int .i64 t → KK (Act.put fa _ v) w' := fun v w' h1 h2 => hKK v w' h1 h2
        clear hSame hRR
        rw [if_pos (wanted_plain rfl)]
        go_simp
        refine hKK _ _ ?_ ?_
        · first | exact Below.refl _ _ | exact (Below.refl _ _).alloc (Nat.le_refl _) _ | exact below_draw _ _ | assumption
        · exact rfl
      refine ObsT.cons (k' := 2) rfl ?_ ?_
      · intro fa W hW hSame hRR KK hKK
        try dsimp only at hW
        obtain ⟨fv0, ft0, fm0⟩ := hRR 0 _ 14 rfl rfl (by kernel_rfl) (by kernel_rfl)
        replace fm0 : fv0 = Value.int .i64 t := fm0
        subst fm0
        replace hKK : ∀ v w', Below W.heap.size W w' → v = Value.string A → KK (Act.put fa _ v) w' := fun v w' h1 h2 => hKK v w' h1 h2
        clear hSame hRR
        rw [if_pos (wanted_plain rfl)]
        go_simp
        refine (CA.out _).mono ?_; rintro e w' ⟨rfl, hb⟩
        exact hKK _ _ hb rfl
      refine ObsT.cons (k' := 3) rfl ?_ ?_
      · intro fa W hW hSame hRR KK hKK
        try dsimp only at hW
        obtain ⟨fv1, ft1, fm1⟩ := hRR 1 _ 15 rfl rfl (by kernel_rfl) (by kernel_rfl)
        replace fm1 : fv1 = Value.string A := fm1
        subst fm1
        replace hKK : ∀ v w', Below W.heap.size W w' → v = Value.string (A ++ ⟨#[32]⟩) → KK (Act.put fa _ v) w' := fun v w' h1 h2 => hKK v w' h1 h2
        clear hSame hRR
        rw [if_pos (wanted_plain rfl)]
        go_simp
        refine hKK _ _ ?_ ?_
        · first | exact Below.refl _ _ | exact (Below.refl _ _).alloc (Nat.le_refl _) _ | exact below_draw _ _ | assumption
        · exact rfl
      refine ObsT.cons (k' := 4) rfl ?_ ?_
      · intro fa W hW hSame hRR KK hKK
        try dsimp only at hW
        have fb3 : fa.tmps[3]? = some (Value.pointer (some ⟨w1.heap.size, 0, none⟩)) := (hSame.base 3 (by kernel_rfl)).trans (by kernel_rfl)
        replace hKK : ∀ v w', Below W.heap.size W w' → v = Value.agg #[.int .i64 y0, .int .i64 y1, .int .i64 y2, .int .i64 y3, .int .i64 y4, .int .i64 y5] → KK (Act.put fa _ v) w' := fun v w' h1 h2 => hKK v w' h1 h2
        have hX := X2.keep hW
        have chb := hX.hb
        have cfz := hX.fz
        have ck0 := hX.k0
        have ck1 := hX.k1
        have ck2 := hX.k2
        have ck3 := hX.k3
        have ck4 := hX.k4
        have ck5 := hX.k5
        clear hSame hRR
        rw [if_pos (wanted_plain rfl)]
        go_simp
        refine hKK _ _ ?_ ?_
        · first | exact Below.refl _ _ | exact (Below.refl _ _).alloc (Nat.le_refl _) _ | exact below_draw _ _ | assumption
        · exact rfl
      refine ObsT.cons (k' := 5) rfl ?_ ?_
      · intro fa W hW hSame hRR KK hKK
        try dsimp only at hW
        obtain ⟨fv3, ft3, fm3⟩ := hRR 3 _ 17 rfl rfl (by kernel_rfl) (by kernel_rfl)
        replace fm3 : fv3 = Value.agg #[.int .i64 y0, .int .i64 y1, .int .i64 y2, .int .i64 y3, .int .i64 y4, .int .i64 y5] := fm3
        subst fm3
        replace hKK : ∀ v w', Below W.heap.size W w' → v = Value.string D → KK (Act.put fa _ v) w' := fun v w' h1 h2 => hKK v w' h1 h2
        clear hSame hRR
        rw [if_pos (wanted_plain rfl)]
        go_simp
        refine (ST.out _).mono ?_; rintro e w' ⟨rfl, hb⟩
        exact hKK _ _ hb rfl
      refine ObsT.cons (k' := 6) rfl ?_ ?_
      · intro fa W hW hSame hRR KK hKK
        try dsimp only at hW
        obtain ⟨fv2, ft2, fm2⟩ := hRR 2 _ 16 rfl rfl (by kernel_rfl) (by kernel_rfl)
        replace fm2 : fv2 = Value.string (A ++ ⟨#[32]⟩) := fm2
        subst fm2
        obtain ⟨fv4, ft4, fm4⟩ := hRR 4 _ 18 rfl rfl (by kernel_rfl) (by kernel_rfl)
        replace fm4 : fv4 = Value.string D := fm4
        subst fm4
        replace hKK : ∀ v w', Below W.heap.size W w' → v = Value.string (A ++ ⟨#[32]⟩ ++ D) → KK (Act.put fa _ v) w' := fun v w' h1 h2 => hKK v w' h1 h2
        clear hSame hRR
        rw [if_pos (wanted_plain rfl)]
        go_simp
        refine hKK _ _ ?_ ?_
        · first | exact Below.refl _ _ | exact (Below.refl _ _).alloc (Nat.le_refl _) _ | exact below_draw _ _ | assumption
        · exact rfl
      refine ObsT.cons (k' := 7) rfl ?_ ?_
      · intro fa W hW hSame hRR KK hKK
        try dsimp only at hW
        obtain ⟨fv5, ft5, fm5⟩ := hRR 5 _ 19 rfl rfl (by kernel_rfl) (by kernel_rfl)
        replace fm5 : fv5 = Value.string (A ++ ⟨#[32]⟩ ++ D) := fm5
        subst fm5
        replace hKK : ∀ v w', Below W.heap.size W w' → v = Value.string (A ++ ⟨#[32]⟩ ++ D) → KK (Act.put fa _ v) w' := fun v w' h1 h2 => hKK v w' h1 h2
        clear hSame hRR
        rw [if_pos (wanted_plain rfl)]
        go_simp
        refine hKK _ _ ?_ ?_
        · first | exact Below.refl _ _ | exact (Below.refl _ _).alloc (Nat.le_refl _) _ | exact below_draw _ _ | assumption
        · exact rfl
      exact ObsT.nil
    case hlast =>
      intro fa w3 d3 hSame hRR
      try dsimp only at d3
      obtain ⟨zz6, f2, rfl⟩ := hRR 6 _ 2 rfl rfl rfl
      rw [Same_shape hSame]
      simp only [List.filterMap_cons, List.filterMap_nil, List.foldl_cons, List.foldl_nil]
      have g2 : fa.tmps.getD 2 undef = Value.string (A ++ ⟨#[32]⟩ ++ D) := by simp [Array.getD_eq_getD_getElem?, f2]
      rw [g2]
      generalize fa.tmps.getD 14 undef = y14
      generalize fa.tmps.getD 15 undef = y15
      generalize fa.tmps.getD 16 undef = y16
      generalize fa.tmps.getD 17 undef = y17
      generalize fa.tmps.getD 18 undef = y18
      generalize fa.tmps.getD 19 undef = y19
      clear hSame hRR f2 g2
      simp only [Act.put, List.setIfInBounds_toArray, List.set_cons_succ, List.set_cons_zero]
      have B3 := Lib.hid (below_step B2.out d3)
      go_wp2_with fail
      go_ret
      exact ⟨rfl, B3.out⟩
end Go.Proofs.YtlelpeocbgjmhaaGreatDoor
