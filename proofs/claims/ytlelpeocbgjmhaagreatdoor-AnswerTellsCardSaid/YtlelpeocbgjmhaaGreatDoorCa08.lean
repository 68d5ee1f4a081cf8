/- Joined: AnA. -/
import Derived.Test.YtlelpeocbgjmhaaGreatDoorCa03
import Derived.Test.YtlelpeocbgjmhaaGreatDoorCa06
import Derived.Test.YtlelpeocbgjmhaaGreatDoorCa04
import Derived.Test.YtlelpeocbgjmhaaGreatDoorCa07
import Derived.Lib.ItoaLen
/- Answers: an info's text, of the program. -/
set_option linter.unusedVariables false
set_option linter.unusedSimpArgs false
namespace Go.Proofs.YtlelpeocbgjmhaaGreatDoor
open Go.RowKit Go.Sort Go.Pairs
theorem StS.rowAt (W : World) (l : List ByteArray) (t : TypeId) (c : Nat) : StS (W.alloc (.cells (l.map Value.string).toArray t)) (.slice (some ⟨W.heap.size, 0, none⟩) l.length c) l :=
  ⟨_, _, rfl, fun _ => ⟨_, rfl, by simp, by
    intro j u hj
    rw [show (⟨W.heap.size, 0, none⟩ : Addr).add j = ⟨W.heap.size, j, none⟩ by simp [Addr.add]; exact fun h => h.symm]
    rw [Lib.cell_of_heap (heap_alloc_new W _)]
    simpa using hj⟩⟩
/-- A number's text, by the program. -/
theorem an_num (n : Int) (h : An.bd n) : ∃ A : ByteArray, A.data.toList = Lib.itoa n ∧ A.size ≤ 21 ∧ Hid (∀ W, Lib.TabIs Tryz.prog W "internal/strconv.uint64pow10" .u64 Lib.pow10Tab → Calls Tryz.prog 19 #[.int .i64 n] W fun e w' => e = .returned (.string A) ∧ Below W.heap.size W w') :=
  ⟨⟨(Lib.itoa n).toArray⟩, rfl, by show (Lib.itoa n).toArray.size ≤ 21; rw [List.size_toArray]; exact Lib.itoa_length_le n h.1 h.2, fun W T => text_any n W h.1 h.2 T⟩
set_option maxHeartbeats 4000000 in
set_option maxRecDepth 100000 in
theorem ainfo_any (a b c d : Int) (x : ByteArray) (w : World) (ha : An.bd a) (hb : An.bd b) (hc : An.bd c) (hd : An.bd d) (hx : x.size ≤ 1000000) (T : Lib.TabIs Tryz.prog w "internal/strconv.uint64pow10" .u64 Lib.pow10Tab) :
    Calls Tryz.prog 6 #[.agg #[.int .i64 a, .int .i64 b, .int .i64 c, .int .i64 d, .string x]] w fun e w' => e = .returned (.tuple #[.string ⟨(An.inf (a, b, c, d, x)).1.toArray⟩, .int .i64 (An.inf (a, b, c, d, x)).2]) ∧ Below w.heap.size w w' := by
  obtain ⟨A, ea, za, CA⟩ := an_num a ha
  obtain ⟨B, eb, zb, CB⟩ := an_num b hb
  obtain ⟨C, ec, zc, CC⟩ := an_num c hc
  obtain ⟨D, ed, zd, CD⟩ := an_num d hd
  have FJ := Lib.hid (fun v W S => fjoin_any v [A, B, C, D, x] W S (by simp) (by show A.size + (B.size + (C.size + (D.size + (x.size + 0)))) ≤ 50000000; omega))
  have eJ : Fd.bl [A, B, C, D, x] = An.tl (a, b, c, d, x) := by show [A.data.toList, B.data.toList, C.data.toList, D.data.toList, x.data.toList] = [Lib.itoa a, Lib.itoa b, Lib.itoa c, Lib.itoa d, x.data.toList]; rw [ea, eb, ec, ed]
  rw [eJ] at FJ
  rw [show Fd.jn (An.tl (a, b, c, d, x)) = An.inf (a, b, c, d, x) from rfl] at FJ
  generalize (⟨(An.inf (a, b, c, d, x)).1.toArray⟩ : ByteArray) = R at *
  generalize (An.inf (a, b, c, d, x)).2 = y at *
  have TT := Lib.hid T
  clear ea eb ec ed za zb zc zd ha hb hc hd hx eJ T
  go_enter Tryz.func6, Tryz.ntmps6
  go_upto_region 1 with (fail)
  refine wp_named ?_; intro w1 hw1
  have d1 : Below w.heap.size w w1 := by rw [hw1]; exact (by repeat (first | exact Below.refl _ _ | refine _root_.Go.below_drewN ?_ _ | refine Below.drew ?_ | refine Below.setCell ?_ (by first | (simp; done) | (simp; omega) | omega) _ | refine Below.alloc ?_ (by first | (simp; done) | (simp; omega) | omega) _))
  have B1 := Lib.hid d1
  have T1 := Lib.hid (var_keep d1 TT.out)
  have X1 : Bk5 w1 w.heap.size (.int .i64 a) (.int .i64 b) (.int .i64 c) (.int .i64 d) (.string x) := by rw [hw1]; exact ⟨by simp <;> omega, by intro j; simp [go_sem], by simp [go_sem], by simp [go_sem], by simp [go_sem], by simp [go_sem], by simp [go_sem]⟩
  clear d1 hw1 TT
  refine wp_region_till (R := markR [(fun v _ => v = Value.pointer (some ⟨w.heap.size, 0, none⟩)), (fun v _ => v = Value.pointer (some ⟨w.heap.size, 0, none⟩)), (fun v _ => v = Value.int .i64 a), (fun v _ => v = Value.string A), (fun v _ => v = Value.pointer (some ⟨w.heap.size, 0, none⟩)), (fun v _ => v = Value.pointer (some ⟨w.heap.size, 1, none⟩)), (fun v _ => v = Value.int .i64 b), (fun v _ => v = Value.string B), (fun v _ => v = Value.pointer (some ⟨w.heap.size, 2, none⟩)), (fun v _ => v = Value.pointer (some ⟨w.heap.size, 2, none⟩)), (fun v _ => v = Value.int .i64 c), (fun v _ => v = Value.string C), (fun v _ => v = Value.pointer (some ⟨w.heap.size, 2, none⟩)), (fun v _ => v = Value.pointer (some ⟨w.heap.size, 3, none⟩)), (fun v _ => v = Value.int .i64 d), (fun v _ => v = Value.string D), (fun v _ => v = Value.pointer (some ⟨w.heap.size, 2, none⟩)), (fun v _ => v = Value.pointer (some ⟨w.heap.size, 4, none⟩)), (fun v _ => v = Value.string x), (fun v W => ∃ u, v = Value.slice (some ⟨u, 0, none⟩) 5 5 ∧ StS W v [A, B, C, D, x]), (fun v _ => v = Value.tuple #[.string R, .int .i64 y]), (fun v _ => v = Value.string R), (fun v _ => v = Value.int .i64 y), (fun v _ => v = Value.string R), (fun v _ => v = Value.int .i64 y)]) (till := fun _ => none) (D := fun W => Below w1.heap.size w1 W) (G := fun _ W W' => Below W.heap.size W W') (by rfl) ?hbeg ⟨by kernel_rfl, by kernel_rfl, by kernel_rfl, ?hkeep, ?hstab, ObsT.all ?hobs, ?hlast⟩
  case hbeg => exact (Below.refl _ _).drew
  case hkeep => intro i w1 w2 hC hG; exact below_step hC hG
  case hstab =>
    intro i j hij ht v w1 w2 hG hm
    match j, hm with
    | 0, hm => exact hm
    | 1, hm => exact hm
    | 2, hm => exact hm
    | 3, hm => exact hm
    | 4, hm => exact hm
    | 5, hm => exact hm
    | 6, hm => exact hm
    | 7, hm => exact hm
    | 8, hm => exact hm
    | 9, hm => exact hm
    | 10, hm => exact hm
    | 11, hm => exact hm
    | 12, hm => exact hm
    | 13, hm => exact hm
    | 14, hm => exact hm
    | 15, hm => exact hm
    | 16, hm => exact hm
    | 17, hm => exact hm
    | 18, hm => exact hm
    | 19, hm => exact (by obtain ⟨u, hv, hs⟩ := hm; exact ⟨u, hv, hs.on hG⟩)
    | 20, hm => exact hm
    | 21, hm => exact hm
    | 22, hm => exact hm
    | 23, hm => exact hm
    | 24, hm => exact hm
    | j + 25, hm => exact trivial
  case hobs =>
    refine ObsT.cons (k' := 1) rfl ?_ ?_
    · intro fa W hW hSame hRR KK hKK
      try dsimp only at hW
      have fb1 : fa.tmps[1]? = some (Value.pointer (some ⟨w.heap.size, 0, none⟩)) := (hSame.base 1 (by kernel_rfl)).trans (by kernel_rfl)
      replace hKK : ∀ v w', Below W.heap.size W w' → v = Value.pointer (some ⟨w.heap.size, 0, none⟩) → KK (Act.put fa _ v) w' := fun v w' h1 h2 => hKK v w' h1 h2
      have hX := X1.keep hW
      have chb := hX.hb
      have cfz := hX.fz
      have ck0 := hX.k0
      have ck1 := hX.k1
      have ck2 := hX.k2
      have ck3 := hX.k3
      have ck4 := hX.k4
      clear hSame hRR
      rw [if_pos (wanted_plain rfl)]
      go_simp
      refine hKK _ _ ?_ ?_
      · first | exact Below.refl _ _ | exact (Below.refl _ _).alloc (Nat.le_refl _) _ | exact below_draw _ _ | assumption
      · exact rfl
    refine ObsT.cons (k' := 2) rfl ?_ ?_
    · intro fa W hW hSame hRR KK hKK
      try dsimp only at hW
      obtain ⟨fv0, ft0, fm0⟩ := hRR 0 _ 4 rfl rfl (by kernel_rfl) (by kernel_rfl)
      replace fm0 : fv0 = Value.pointer (some ⟨w.heap.size, 0, none⟩) := fm0
      subst fm0
      replace hKK : ∀ v w', Below W.heap.size W w' → v = Value.pointer (some ⟨w.heap.size, 0, none⟩) → KK (Act.put fa _ v) w' := fun v w' h1 h2 => hKK v w' h1 h2
      have hX := X1.keep hW
      have chb := hX.hb
      have cfz := hX.fz
      have ck0 := hX.k0
      have ck1 := hX.k1
      have ck2 := hX.k2
      have ck3 := hX.k3
      have ck4 := hX.k4
      clear hSame hRR
      rw [if_pos (wanted_plain rfl)]
      go_simp
      refine hKK _ _ ?_ ?_
      · first | exact Below.refl _ _ | exact (Below.refl _ _).alloc (Nat.le_refl _) _ | exact below_draw _ _ | assumption
      · exact rfl
    refine ObsT.cons (k' := 3) rfl ?_ ?_
    · intro fa W hW hSame hRR KK hKK
      try dsimp only at hW
      obtain ⟨fv1, ft1, fm1⟩ := hRR 1 _ 5 rfl rfl (by kernel_rfl) (by kernel_rfl)
      replace fm1 : fv1 = Value.pointer (some ⟨w.heap.size, 0, none⟩) := fm1
      subst fm1
      replace hKK : ∀ v w', Below W.heap.size W w' → v = Value.int .i64 a → KK (Act.put fa _ v) w' := fun v w' h1 h2 => hKK v w' h1 h2
      have hX := X1.keep hW
      have chb := hX.hb
      have cfz := hX.fz
      have ck0 := hX.k0
      have ck1 := hX.k1
      have ck2 := hX.k2
      have ck3 := hX.k3
      have ck4 := hX.k4
      clear hSame hRR
      rw [if_pos (wanted_plain rfl)]
      go_simp
      refine hKK _ _ ?_ ?_
      · first | exact Below.refl _ _ | exact (Below.refl _ _).alloc (Nat.le_refl _) _ | exact below_draw _ _ | assumption
      · exact rfl
    refine ObsT.cons (k' := 4) rfl ?_ ?_
    · intro fa W hW hSame hRR KK hKK
      try dsimp only at hW
      obtain ⟨fv2, ft2, fm2⟩ := hRR 2 _ 6 rfl rfl (by kernel_rfl) (by kernel_rfl)
      replace fm2 : fv2 = Value.int .i64 a := fm2
      subst fm2
      replace hKK : ∀ v w', Below W.heap.size W w' → v = Value.string A → KK (Act.put fa _ v) w' := fun v w' h1 h2 => hKK v w' h1 h2
      clear hSame hRR
      rw [if_pos (wanted_plain rfl)]
      go_simp
      refine (CA.out _ (var_keep hW T1.out)).mono ?_; rintro e w' ⟨rfl, hb⟩
      exact hKK _ _ hb rfl
    refine ObsT.cons (k' := 5) rfl ?_ ?_
    · intro fa W hW hSame hRR KK hKK
      try dsimp only at hW
      have fb1 : fa.tmps[1]? = some (Value.pointer (some ⟨w.heap.size, 0, none⟩)) := (hSame.base 1 (by kernel_rfl)).trans (by kernel_rfl)
      replace hKK : ∀ v w', Below W.heap.size W w' → v = Value.pointer (some ⟨w.heap.size, 0, none⟩) → KK (Act.put fa _ v) w' := fun v w' h1 h2 => hKK v w' h1 h2
      have hX := X1.keep hW
      have chb := hX.hb
      have cfz := hX.fz
      have ck0 := hX.k0
      have ck1 := hX.k1
      have ck2 := hX.k2
      have ck3 := hX.k3
      have ck4 := hX.k4
      clear hSame hRR
      rw [if_pos (wanted_plain rfl)]
      go_simp
      refine hKK _ _ ?_ ?_
      · first | exact Below.refl _ _ | exact (Below.refl _ _).alloc (Nat.le_refl _) _ | exact below_draw _ _ | assumption
      · exact rfl
    refine ObsT.cons (k' := 6) rfl ?_ ?_
    · intro fa W hW hSame hRR KK hKK
      try dsimp only at hW
      obtain ⟨fv4, ft4, fm4⟩ := hRR 4 _ 8 rfl rfl (by kernel_rfl) (by kernel_rfl)
      replace fm4 : fv4 = Value.pointer (some ⟨w.heap.size, 0, none⟩) := fm4
      subst fm4
      replace hKK : ∀ v w', Below W.heap.size W w' → v = Value.pointer (some ⟨w.heap.size, 1, none⟩) → KK (Act.put fa _ v) w' := fun v w' h1 h2 => hKK v w' h1 h2
      have hX := X1.keep hW
      have chb := hX.hb
      have cfz := hX.fz
      have ck0 := hX.k0
      have ck1 := hX.k1
      have ck2 := hX.k2
      have ck3 := hX.k3
      have ck4 := hX.k4
      clear hSame hRR
      rw [if_pos (wanted_plain rfl)]
      go_simp
      refine hKK _ _ ?_ ?_
      · first | exact Below.refl _ _ | exact (Below.refl _ _).alloc (Nat.le_refl _) _ | exact below_draw _ _ | assumption
      · exact rfl
    refine ObsT.cons (k' := 7) rfl ?_ ?_
    · intro fa W hW hSame hRR KK hKK
      try dsimp only at hW
      obtain ⟨fv5, ft5, fm5⟩ := hRR 5 _ 9 rfl rfl (by kernel_rfl) (by kernel_rfl)
      replace fm5 : fv5 = Value.pointer (some ⟨w.heap.size, 1, none⟩) := fm5
      subst fm5
      replace hKK : ∀ v w', Below W.heap.size W w' → v = Value.int .i64 b → KK (Act.put fa _ v) w' := fun v w' h1 h2 => hKK v w' h1 h2
      have hX := X1.keep hW
      have chb := hX.hb
      have cfz := hX.fz
      have ck0 := hX.k0
      have ck1 := hX.k1
      have ck2 := hX.k2
      have ck3 := hX.k3
      have ck4 := hX.k4
      clear hSame hRR
      rw [if_pos (wanted_plain rfl)]
      go_simp
      refine hKK _ _ ?_ ?_
      · first | exact Below.refl _ _ | exact (Below.refl _ _).alloc (Nat.le_refl _) _ | exact below_draw _ _ | assumption
      · exact rfl
    refine ObsT.cons (k' := 8) rfl ?_ ?_
    · intro fa W hW hSame hRR KK hKK
      try dsimp only at hW
      obtain ⟨fv6, ft6, fm6⟩ := hRR 6 _ 10 rfl rfl (by kernel_rfl) (by kernel_rfl)
      replace fm6 : fv6 = Value.int .i64 b := fm6
      subst fm6
      replace hKK : ∀ v w', Below W.heap.size W w' → v = Value.string B → KK (Act.put fa _ v) w' := fun v w' h1 h2 => hKK v w' h1 h2
      clear hSame hRR
      rw [if_pos (wanted_plain rfl)]
      go_simp
      refine (CB.out _ (var_keep hW T1.out)).mono ?_; rintro e w' ⟨rfl, hb⟩
      exact hKK _ _ hb rfl
    refine ObsT.cons (k' := 9) rfl ?_ ?_
    · intro fa W hW hSame hRR KK hKK
      try dsimp only at hW
      have fb1 : fa.tmps[1]? = some (Value.pointer (some ⟨w.heap.size, 0, none⟩)) := (hSame.base 1 (by kernel_rfl)).trans (by kernel_rfl)
      replace hKK : ∀ v w', Below W.heap.size W w' → v = Value.pointer (some ⟨w.heap.size, 2, none⟩) → KK (Act.put fa _ v) w' := fun v w' h1 h2 => hKK v w' h1 h2
      have hX := X1.keep hW
      have chb := hX.hb
      have cfz := hX.fz
      have ck0 := hX.k0
      have ck1 := hX.k1
      have ck2 := hX.k2
      have ck3 := hX.k3
      have ck4 := hX.k4
      clear hSame hRR
      rw [if_pos (wanted_plain rfl)]
      go_simp
      refine hKK _ _ ?_ ?_
      · first | exact Below.refl _ _ | exact (Below.refl _ _).alloc (Nat.le_refl _) _ | exact below_draw _ _ | assumption
      · exact rfl
    refine ObsT.cons (k' := 10) rfl ?_ ?_
    · intro fa W hW hSame hRR KK hKK
      try dsimp only at hW
      obtain ⟨fv8, ft8, fm8⟩ := hRR 8 _ 12 rfl rfl (by kernel_rfl) (by kernel_rfl)
      replace fm8 : fv8 = Value.pointer (some ⟨w.heap.size, 2, none⟩) := fm8
      subst fm8
      replace hKK : ∀ v w', Below W.heap.size W w' → v = Value.pointer (some ⟨w.heap.size, 2, none⟩) → KK (Act.put fa _ v) w' := fun v w' h1 h2 => hKK v w' h1 h2
      have hX := X1.keep hW
      have chb := hX.hb
      have cfz := hX.fz
      have ck0 := hX.k0
      have ck1 := hX.k1
      have ck2 := hX.k2
      have ck3 := hX.k3
      have ck4 := hX.k4
      clear hSame hRR
      rw [if_pos (wanted_plain rfl)]
      go_simp
      refine hKK _ _ ?_ ?_
      · first | exact Below.refl _ _ | exact (Below.refl _ _).alloc (Nat.le_refl _) _ | exact below_draw _ _ | assumption
      · exact rfl
    refine ObsT.cons (k' := 11) rfl ?_ ?_
    · intro fa W hW hSame hRR KK hKK
      try dsimp only at hW
      obtain ⟨fv9, ft9, fm9⟩ := hRR 9 _ 13 rfl rfl (by kernel_rfl) (by kernel_rfl)
      replace fm9 : fv9 = Value.pointer (some ⟨w.heap.size, 2, none⟩) := fm9
      subst fm9
      replace hKK : ∀ v w', Below W.heap.size W w' → v = Value.int .i64 c → KK (Act.put fa _ v) w' := fun v w' h1 h2 => hKK v w' h1 h2
      have hX := X1.keep hW
      have chb := hX.hb
      have cfz := hX.fz
      have ck0 := hX.k0
      have ck1 := hX.k1
      have ck2 := hX.k2
      have ck3 := hX.k3
      have ck4 := hX.k4
      clear hSame hRR
      rw [if_pos (wanted_plain rfl)]
      go_simp
      refine hKK _ _ ?_ ?_
      · first | exact Below.refl _ _ | exact (Below.refl _ _).alloc (Nat.le_refl _) _ | exact below_draw _ _ | assumption
      · exact rfl
    refine ObsT.cons (k' := 12) rfl ?_ ?_
    · intro fa W hW hSame hRR KK hKK
      try dsimp only at hW
      obtain ⟨fv10, ft10, fm10⟩ := hRR 10 _ 14 rfl rfl (by kernel_rfl) (by kernel_rfl)
      replace fm10 : fv10 = Value.int .i64 c := fm10
      subst fm10
      replace hKK : ∀ v w', Below W.heap.size W w' → v = Value.string C → KK (Act.put fa _ v) w' := fun v w' h1 h2 => hKK v w' h1 h2
      clear hSame hRR
      rw [if_pos (wanted_plain rfl)]
      go_simp
      refine (CC.out _ (var_keep hW T1.out)).mono ?_; rintro e w' ⟨rfl, hb⟩
      exact hKK _ _ hb rfl
    refine ObsT.cons (k' := 13) rfl ?_ ?_
    · intro fa W hW hSame hRR KK hKK
      try dsimp only at hW
      have fb1 : fa.tmps[1]? = some (Value.pointer (some ⟨w.heap.size, 0, none⟩)) := (hSame.base 1 (by kernel_rfl)).trans (by kernel_rfl)
      replace hKK : ∀ v w', Below W.heap.size W w' → v = Value.pointer (some ⟨w.heap.size, 2, none⟩) → KK (Act.put fa _ v) w' := fun v w' h1 h2 => hKK v w' h1 h2
      have hX := X1.keep hW
      have chb := hX.hb
      have cfz := hX.fz
      have ck0 := hX.k0
      have ck1 := hX.k1
      have ck2 := hX.k2
      have ck3 := hX.k3
      have ck4 := hX.k4
      clear hSame hRR
      rw [if_pos (wanted_plain rfl)]
      go_simp
      refine hKK _ _ ?_ ?_
      · first | exact Below.refl _ _ | exact (Below.refl _ _).alloc (Nat.le_refl _) _ | exact below_draw _ _ | assumption
      · exact rfl
    refine ObsT.cons (k' := 14) rfl ?_ ?_
    · intro fa W hW hSame hRR KK hKK
      try dsimp only at hW
      obtain ⟨fv12, ft12, fm12⟩ := hRR 12 _ 16 rfl rfl (by kernel_rfl) (by kernel_rfl)
      replace fm12 : fv12 = Value.pointer (some ⟨w.heap.size, 2, none⟩) := fm12
      subst fm12
      replace hKK : ∀ v w', Below W.heap.size W w' → v = Value.pointer (some ⟨w.heap.size, 3, none⟩) → KK (Act.put fa _ v) w' := fun v w' h1 h2 => hKK v w' h1 h2
      have hX := X1.keep hW
      have chb := hX.hb
      have cfz := hX.fz
      have ck0 := hX.k0
      have ck1 := hX.k1
      have ck2 := hX.k2
      have ck3 := hX.k3
      have ck4 := hX.k4
      clear hSame hRR
      rw [if_pos (wanted_plain rfl)]
      go_simp
      refine hKK _ _ ?_ ?_
      · first | exact Below.refl _ _ | exact (Below.refl _ _).alloc (Nat.le_refl _) _ | exact below_draw _ _ | assumption
      · exact rfl
    refine ObsT.cons (k' := 15) rfl ?_ ?_
    · intro fa W hW hSame hRR KK hKK
      try dsimp only at hW
      obtain ⟨fv13, ft13, fm13⟩ := hRR 13 _ 17 rfl rfl (by kernel_rfl) (by kernel_rfl)
      replace fm13 : fv13 = Value.pointer (some ⟨w.heap.size, 3, none⟩) := fm13
      subst fm13
      replace hKK : ∀ v w', Below W.heap.size W w' → v = Value.int .i64 d → KK (Act.put fa _ v) w' := fun v w' h1 h2 => hKK v w' h1 h2
      have hX := X1.keep hW
      have chb := hX.hb
      have cfz := hX.fz
      have ck0 := hX.k0
      have ck1 := hX.k1
      have ck2 := hX.k2
      have ck3 := hX.k3
      have ck4 := hX.k4
      clear hSame hRR
      rw [if_pos (wanted_plain rfl)]
      go_simp
      refine hKK _ _ ?_ ?_
      · first | exact Below.refl _ _ | exact (Below.refl _ _).alloc (Nat.le_refl _) _ | exact below_draw _ _ | assumption
      · exact rfl
    refine ObsT.cons (k' := 16) rfl ?_ ?_
    · intro fa W hW hSame hRR KK hKK
      try dsimp only at hW
      obtain ⟨fv14, ft14, fm14⟩ := hRR 14 _ 18 rfl rfl (by kernel_rfl) (by kernel_rfl)
      replace fm14 : fv14 = Value.int .i64 d := fm14
      subst fm14
      replace hKK : ∀ v w', Below W.heap.size W w' → v = Value.string D → KK (Act.put fa _ v) w' := fun v w' h1 h2 => hKK v w' h1 h2
      clear hSame hRR
      rw [if_pos (wanted_plain rfl)]
      go_simp
      refine (CD.out _ (var_keep hW T1.out)).mono ?_; rintro e w' ⟨rfl, hb⟩
      exact hKK _ _ hb rfl
    refine ObsT.cons (k' := 17) rfl ?_ ?_
    · intro fa W hW hSame hRR KK hKK
      try dsimp only at hW
      have fb1 : fa.tmps[1]? = some (Value.pointer (some ⟨w.heap.size, 0, none⟩)) := (hSame.base 1 (by kernel_rfl)).trans (by kernel_rfl)
      replace hKK : ∀ v w', Below W.heap.size W w' → v = Value.pointer (some ⟨w.heap.size, 2, none⟩) → KK (Act.put fa _ v) w' := fun v w' h1 h2 => hKK v w' h1 h2
      have hX := X1.keep hW
      have chb := hX.hb
      have cfz := hX.fz
      have ck0 := hX.k0
      have ck1 := hX.k1
      have ck2 := hX.k2
      have ck3 := hX.k3
      have ck4 := hX.k4
      clear hSame hRR
      rw [if_pos (wanted_plain rfl)]
      go_simp
      refine hKK _ _ ?_ ?_
      · first | exact Below.refl _ _ | exact (Below.refl _ _).alloc (Nat.le_refl _) _ | exact below_draw _ _ | assumption
      · exact rfl
    refine ObsT.cons (k' := 18) rfl ?_ ?_
    · intro fa W hW hSame hRR KK hKK
      try dsimp only at hW
      obtain ⟨fv16, ft16, fm16⟩ := hRR 16 _ 20 rfl rfl (by kernel_rfl) (by kernel_rfl)
      replace fm16 : fv16 = Value.pointer (some ⟨w.heap.size, 2, none⟩) := fm16
      subst fm16
      replace hKK : ∀ v w', Below W.heap.size W w' → v = Value.pointer (some ⟨w.heap.size, 4, none⟩) → KK (Act.put fa _ v) w' := fun v w' h1 h2 => hKK v w' h1 h2
      have hX := X1.keep hW
      have chb := hX.hb
      have cfz := hX.fz
      have ck0 := hX.k0
      have ck1 := hX.k1
      have ck2 := hX.k2
      have ck3 := hX.k3
      have ck4 := hX.k4
      clear hSame hRR
      rw [if_pos (wanted_plain rfl)]
      go_simp
      refine hKK _ _ ?_ ?_
      · first | exact Below.refl _ _ | exact (Below.refl _ _).alloc (Nat.le_refl _) _ | exact below_draw _ _ | assumption
      · exact rfl
    refine ObsT.cons (k' := 19) rfl ?_ ?_
    · intro fa W hW hSame hRR KK hKK
      try dsimp only at hW
      obtain ⟨fv17, ft17, fm17⟩ := hRR 17 _ 21 rfl rfl (by kernel_rfl) (by kernel_rfl)
      replace fm17 : fv17 = Value.pointer (some ⟨w.heap.size, 4, none⟩) := fm17
      subst fm17
      replace hKK : ∀ v w', Below W.heap.size W w' → v = Value.string x → KK (Act.put fa _ v) w' := fun v w' h1 h2 => hKK v w' h1 h2
      have hX := X1.keep hW
      have chb := hX.hb
      have cfz := hX.fz
      have ck0 := hX.k0
      have ck1 := hX.k1
      have ck2 := hX.k2
      have ck3 := hX.k3
      have ck4 := hX.k4
      clear hSame hRR
      rw [if_pos (wanted_plain rfl)]
      go_simp
      refine hKK _ _ ?_ ?_
      · first | exact Below.refl _ _ | exact (Below.refl _ _).alloc (Nat.le_refl _) _ | exact below_draw _ _ | assumption
      · exact rfl
    refine ObsT.cons (k' := 20) rfl ?_ ?_
    · intro fa W hW hSame hRR KK hKK
      try dsimp only at hW
      obtain ⟨fv3, ft3, fm3⟩ := hRR 3 _ 7 rfl rfl (by kernel_rfl) (by kernel_rfl)
      replace fm3 : fv3 = Value.string A := fm3
      subst fm3
      obtain ⟨fv7, ft7, fm7⟩ := hRR 7 _ 11 rfl rfl (by kernel_rfl) (by kernel_rfl)
      replace fm7 : fv7 = Value.string B := fm7
      subst fm7
      obtain ⟨fv11, ft11, fm11⟩ := hRR 11 _ 15 rfl rfl (by kernel_rfl) (by kernel_rfl)
      replace fm11 : fv11 = Value.string C := fm11
      subst fm11
      obtain ⟨fv15, ft15, fm15⟩ := hRR 15 _ 19 rfl rfl (by kernel_rfl) (by kernel_rfl)
      replace fm15 : fv15 = Value.string D := fm15
      subst fm15
      obtain ⟨fv18, ft18, fm18⟩ := hRR 18 _ 22 rfl rfl (by kernel_rfl) (by kernel_rfl)
      replace fm18 : fv18 = Value.string x := fm18
      subst fm18
      replace hKK : ∀ v w', Below W.heap.size W w' → (fun v W => ∃ u, v = Value.slice (some ⟨u, 0, none⟩) 5 5 ∧ StS W v [A, B, C, D, x]) v w' → KK (Act.put fa _ v) w' := fun v w' h1 h2 => hKK v w' h1 h2
      clear hSame hRR
      rw [if_pos (wanted_plain rfl)]
      go_simp
      exact hKK _ _ ((Below.refl _ _).alloc (Nat.le_refl _) _) ⟨_, rfl, StS.rowAt _ [A, B, C, D, x] _ _⟩
    refine ObsT.cons (k' := 21) rfl ?_ ?_
    · intro fa W hW hSame hRR KK hKK
      try dsimp only at hW
      obtain ⟨fv19, ft19, ⟨u19, rfl, fs19⟩⟩ := hRR 19 _ 23 rfl rfl (by kernel_rfl) (by kernel_rfl)
      replace hKK : ∀ v w', Below W.heap.size W w' → v = Value.tuple #[.string R, .int .i64 y] → KK (Act.put fa _ v) w' := fun v w' h1 h2 => hKK v w' h1 h2
      clear hSame hRR
      rw [if_pos (wanted_plain rfl)]
      go_simp
      refine (FJ.out _ _ fs19).mono ?_; rintro e w' ⟨rfl, hb⟩
      exact hKK _ _ hb rfl
    refine ObsT.cons (k' := 22) rfl ?_ ?_
    · intro fa W hW hSame hRR KK hKK
      try dsimp only at hW
      obtain ⟨fv20, ft20, fm20⟩ := hRR 20 _ 24 rfl rfl (by kernel_rfl) (by kernel_rfl)
      replace fm20 : fv20 = Value.tuple #[.string R, .int .i64 y] := fm20
      subst fm20
      replace hKK : ∀ v w', Below W.heap.size W w' → v = Value.string R → KK (Act.put fa _ v) w' := fun v w' h1 h2 => hKK v w' h1 h2
      clear hSame hRR
      rw [if_pos (wanted_plain rfl)]
      go_simp
      refine hKK _ _ ?_ ?_
      · first | exact Below.refl _ _ | exact (Below.refl _ _).alloc (Nat.le_refl _) _ | exact below_draw _ _ | assumption
      · exact rfl
    refine ObsT.cons (k' := 23) rfl ?_ ?_
    · intro fa W hW hSame hRR KK hKK
      try dsimp only at hW
      obtain ⟨fv20, ft20, fm20⟩ := hRR 20 _ 24 rfl rfl (by kernel_rfl) (by kernel_rfl)
      replace fm20 : fv20 = Value.tuple #[.string R, .int .i64 y] := fm20
      subst fm20
      replace hKK : ∀ v w', Below W.heap.size W w' → v = Value.int .i64 y → KK (Act.put fa _ v) w' := fun v w' h1 h2 => hKK v w' h1 h2
      clear hSame hRR
      rw [if_pos (wanted_plain rfl)]
      go_simp
      refine hKK _ _ ?_ ?_
      · first | exact Below.refl _ _ | exact (Below.refl _ _).alloc (Nat.le_refl _) _ | exact below_draw _ _ | assumption
      · exact rfl
    refine ObsT.cons (k' := 24) rfl ?_ ?_
    · intro fa W hW hSame hRR KK hKK
      try dsimp only at hW
      obtain ⟨fv21, ft21, fm21⟩ := hRR 21 _ 25 rfl rfl (by kernel_rfl) (by kernel_rfl)
      replace fm21 : fv21 = Value.string R := fm21
      subst fm21
      replace hKK : ∀ v w', Below W.heap.size W w' → v = Value.string R → KK (Act.put fa _ v) w' := fun v w' h1 h2 => hKK v w' h1 h2
      clear hSame hRR
      rw [if_pos (wanted_plain rfl)]
      go_simp
      refine hKK _ _ ?_ ?_
      · first | exact Below.refl _ _ | exact (Below.refl _ _).alloc (Nat.le_refl _) _ | exact below_draw _ _ | assumption
      · exact rfl
    refine ObsT.cons (k' := 25) rfl ?_ ?_
    · intro fa W hW hSame hRR KK hKK
      try dsimp only at hW
      obtain ⟨fv22, ft22, fm22⟩ := hRR 22 _ 26 rfl rfl (by kernel_rfl) (by kernel_rfl)
      replace fm22 : fv22 = Value.int .i64 y := fm22
      subst fm22
      replace hKK : ∀ v w', Below W.heap.size W w' → v = Value.int .i64 y → KK (Act.put fa _ v) w' := fun v w' h1 h2 => hKK v w' h1 h2
      clear hSame hRR
      rw [if_pos (wanted_plain rfl)]
      go_simp
      refine hKK _ _ ?_ ?_
      · first | exact Below.refl _ _ | exact (Below.refl _ _).alloc (Nat.le_refl _) _ | exact below_draw _ _ | assumption
      · exact rfl
    exact ObsT.nil
  case hlast =>
    intro fa w2 d2 hSame hRR
    try dsimp only at d2
    obtain ⟨zz23, f2, rfl⟩ := hRR 23 _ 2 rfl rfl rfl
    obtain ⟨zz24, f3, rfl⟩ := hRR 24 _ 3 rfl rfl rfl
    rw [Same_shape hSame]
    simp only [List.filterMap_cons, List.filterMap_nil, List.foldl_cons, List.foldl_nil]
    have g2 : fa.tmps.getD 2 undef = Value.string R := by simp [Array.getD_eq_getD_getElem?, f2]
    have g3 : fa.tmps.getD 3 undef = Value.int .i64 y := by simp [Array.getD_eq_getD_getElem?, f3]
    rw [g2, g3]
    generalize fa.tmps.getD 4 undef = y4
    generalize fa.tmps.getD 5 undef = y5
    generalize fa.tmps.getD 6 undef = y6
    generalize fa.tmps.getD 7 undef = y7
    generalize fa.tmps.getD 8 undef = y8
    generalize fa.tmps.getD 9 undef = y9
    generalize fa.tmps.getD 10 undef = y10
    generalize fa.tmps.getD 11 undef = y11
    generalize fa.tmps.getD 12 undef = y12
    generalize fa.tmps.getD 13 undef = y13
    generalize fa.tmps.getD 14 undef = y14
    generalize fa.tmps.getD 15 undef = y15
    generalize fa.tmps.getD 16 undef = y16
    generalize fa.tmps.getD 17 undef = y17
    generalize fa.tmps.getD 18 undef = y18
    generalize fa.tmps.getD 19 undef = y19
    generalize fa.tmps.getD 20 undef = y20
    generalize fa.tmps.getD 21 undef = y21
    generalize fa.tmps.getD 22 undef = y22
    generalize fa.tmps.getD 23 undef = y23
    generalize fa.tmps.getD 24 undef = y24
    generalize fa.tmps.getD 25 undef = y25
    generalize fa.tmps.getD 26 undef = y26
    clear hSame hRR f2 g2 f3 g3
    simp only [Act.put, List.setIfInBounds_toArray, List.set_cons_succ, List.set_cons_zero]
    have B2 := Lib.hid (below_step B1.out d2)
    go_wp2_with fail
    go_ret2
    exact ⟨rfl, B2.out⟩
end Go.Proofs.YtlelpeocbgjmhaaGreatDoor
