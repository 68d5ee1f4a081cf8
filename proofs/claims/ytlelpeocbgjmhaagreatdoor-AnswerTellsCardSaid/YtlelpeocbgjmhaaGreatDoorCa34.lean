/- Joined: AnS. -/
import Derived.Test.YtlelpeocbgjmhaaGreatDoorCa31
import Derived.Test.YtlelpeocbgjmhaaGreatDoorCa32
import Derived.Test.YtlelpeocbgjmhaaGreatDoorCa33
/- Answers: an info's text, and a local time's, by the reference. -/
set_option linter.unusedVariables false
set_option linter.unusedSimpArgs false
namespace Go.Proofs.YtlelpeocbgjmhaaGreatDoor
open Go.RowKit Go.Sort Go.Pairs
theorem an_blank (l m : List UInt8) : (⟨(l ++ 32 :: m).toArray⟩ : ByteArray) = ⟨l.toArray⟩ ++ ⟨#[32]⟩ ++ ⟨m.toArray⟩ := by
  rw [show 32 :: m = [32] ++ m from rfl, An.arr_app, An.arr_app, ← ByteArray.append_assoc]
set_option maxHeartbeats 4000000 in
set_option maxRecDepth 100000 in
theorem rainfo_any (a b c d : Int) (x : ByteArray) (w : World) (ha : An.bd a) (hb : An.bd b) (hc : An.bd c) (hd : An.bd d) (hx : x.size ≤ 1000000) :
    Calls Tryz.prog 7 #[.agg #[.int .i64 a, .int .i64 b, .int .i64 c, .int .i64 d, .string x]] w fun e w' => e = .returned (.tuple #[.string ⟨(An.inf (a, b, c, d, x)).1.toArray⟩, .int .i64 (An.inf (a, b, c, d, x)).2]) ∧ Below w.heap.size w w' := by
  obtain ⟨A, ea, za, CA⟩ := ran_num a ha
  obtain ⟨B, eb, zb, CB⟩ := ran_num b hb
  obtain ⟨C, ec, zc, CC⟩ := ran_num c hc
  obtain ⟨D, ed, zd, CD⟩ := ran_num d hd
  have FT := Lib.hid (fun W => rftext_any x W (by omega))
  have zt := Fd.tx_len x.data.toList
  rw [fd_len] at zt
  rw [An.inf_eq]
  by_cases hy : (Fd.tx x.data.toList).2 = 0
  case neg =>
    rw [if_neg hy]
    have gy : ((Fd.tx x.data.toList).2 == 0) = false := by rw [beq_eq_false_iff_ne]; exact hy
    generalize (Fd.tx x.data.toList).2 = y at *
    generalize (⟨(Fd.tx x.data.toList).1.toArray⟩ : ByteArray) = X0 at *
    clear CA CB CC CD ea eb ec ed za zb zc zd zt
    go_enter Tryz.func7, Tryz.ntmps7
    go_wp2_with fail
    refine (FT.out _).mono ?_; rintro e v1 ⟨rfl, rfl⟩
    go_wp2_with fail
    go_ret2
    exact ⟨rfl, (by repeat (first | exact Below.refl _ _ | refine _root_.Go.below_drewN ?_ _ | refine Below.drew ?_ | refine Below.setCell ?_ (by first | (simp; done) | (simp; omega) | omega) _ | refine Below.alloc ?_ (by first | (simp; done) | (simp; omega) | omega) _))⟩
  rw [if_pos hy]
  rw [hy] at FT
  dsimp only
  have eR : (⟨(Lib.itoa a ++ 32 :: (Lib.itoa b ++ 32 :: (Lib.itoa c ++ 32 :: (Lib.itoa d ++ 32 :: (Fd.tx x.data.toList).1)))).toArray⟩ : ByteArray) = A ++ ⟨#[32]⟩ ++ B ++ ⟨#[32]⟩ ++ C ++ ⟨#[32]⟩ ++ D ++ ⟨#[32]⟩ ++ ⟨(Fd.tx x.data.toList).1.toArray⟩ := by
    rw [an_blank, an_blank, an_blank, an_blank, show (⟨(Lib.itoa a).toArray⟩ : ByteArray) = A by rw [← ea], show (⟨(Lib.itoa b).toArray⟩ : ByteArray) = B by rw [← eb], show (⟨(Lib.itoa c).toArray⟩ : ByteArray) = C by rw [← ec], show (⟨(Lib.itoa d).toArray⟩ : ByteArray) = D by rw [← ed]]
    simp only [ByteArray.append_assoc]
  rw [eR]
  have zX : (⟨(Fd.tx x.data.toList).1.toArray⟩ : ByteArray).size ≤ 1000002 := by rw [arr_size]; omega
  generalize (⟨(Fd.tx x.data.toList).1.toArray⟩ : ByteArray) = X0 at *
  clear ea eb ec ed eR zt hy ha hb hc hd hx
  go_enter Tryz.func7, Tryz.ntmps7
  go_wp2_with fail
  refine (FT.out _).mono ?_; rintro e v1 ⟨rfl, rfl⟩
  go_upto_region 4 with (fail)
  refine wp_named ?_; intro w1 hw1
  have d1 : Below w.heap.size w w1 := by rw [hw1]; exact (by repeat (first | exact Below.refl _ _ | refine _root_.Go.below_drewN ?_ _ | refine Below.drew ?_ | refine Below.setCell ?_ (by first | (simp; done) | (simp; omega) | omega) _ | refine Below.alloc ?_ (by first | (simp; done) | (simp; omega) | omega) _))
  have B1 := Lib.hid d1
  have X1 : Bk5 w1 w.heap.size (.int .i64 a) (.int .i64 b) (.int .i64 c) (.int .i64 d) (.string x) := by rw [hw1]; exact ⟨by simp <;> omega, by intro j; simp [go_sem], by simp [go_sem], by simp [go_sem], by simp [go_sem], by simp [go_sem], by simp [go_sem]⟩
  clear d1 hw1
  refine wp_region_till (R := markR [(fun v _ => v = Value.pointer (some ⟨w.heap.size, 0, none⟩)), (fun v _ => v = Value.pointer (some ⟨w.heap.size, 0, none⟩)), (fun v _ => v = Value.int .i64 a), (fun v _ => v = Value.string A), (fun v _ => v = Value.string (A ++ ⟨#[32]⟩)), (fun v _ => v = Value.pointer (some ⟨w.heap.size, 0, none⟩)), (fun v _ => v = Value.pointer (some ⟨w.heap.size, 1, none⟩)), (fun v _ => v = Value.int .i64 b), (fun v _ => v = Value.string B), (fun v _ => v = Value.string (A ++ ⟨#[32]⟩ ++ B)), (fun v _ => v = Value.string (A ++ ⟨#[32]⟩ ++ B ++ ⟨#[32]⟩)), (fun v _ => v = Value.pointer (some ⟨w.heap.size, 2, none⟩)), (fun v _ => v = Value.pointer (some ⟨w.heap.size, 2, none⟩)), (fun v _ => v = Value.int .i64 c), (fun v _ => v = Value.string C), (fun v _ => v = Value.string (A ++ ⟨#[32]⟩ ++ B ++ ⟨#[32]⟩ ++ C)), (fun v _ => v = Value.string (A ++ ⟨#[32]⟩ ++ B ++ ⟨#[32]⟩ ++ C ++ ⟨#[32]⟩)), (fun v _ => v = Value.pointer (some ⟨w.heap.size, 2, none⟩)), (fun v _ => v = Value.pointer (some ⟨w.heap.size, 3, none⟩)), (fun v _ => v = Value.int .i64 d), (fun v _ => v = Value.string D), (fun v _ => v = Value.string (A ++ ⟨#[32]⟩ ++ B ++ ⟨#[32]⟩ ++ C ++ ⟨#[32]⟩ ++ D)), (fun v _ => v = Value.string (A ++ ⟨#[32]⟩ ++ B ++ ⟨#[32]⟩ ++ C ++ ⟨#[32]⟩ ++ D ++ ⟨#[32]⟩)), (fun v _ => v = Value.string X0), (fun v _ => v = Value.string (A ++ ⟨#[32]⟩ ++ B ++ ⟨#[32]⟩ ++ C ++ ⟨#[32]⟩ ++ D ++ ⟨#[32]⟩ ++ X0)), (fun v _ => v = Value.string (A ++ ⟨#[32]⟩ ++ B ++ ⟨#[32]⟩ ++ C ++ ⟨#[32]⟩ ++ D ++ ⟨#[32]⟩ ++ X0)), (fun v _ => v = Value.int .i64 0)]) (till := fun _ => none) (D := fun W => Below w1.heap.size w1 W) (G := fun _ W W' => Below W.heap.size W W') (by rfl) ?hbeg ⟨by kernel_rfl, by kernel_rfl, by kernel_rfl, ?hkeep, ?hstab, ObsT.all ?hobs, ?hlast⟩
  case hbeg => exact (Below.refl _ _).drew
  case hkeep => intro i w1 w2 hC hG; exact below_step hC hG
  case hstab =>
    intro i j hij ht v w1 w2 hG hm
    match j, hm with
    | 0, hm => exact hm
    | 1, hm => exact hm
    | 2, hm => exact hm
    | 3, hm => exact hm
    | 4, hm => exact hm
    | 5, hm => exact hm
    | 6, hm => exact hm
    | 7, hm => exact hm
    | 8, hm => exact hm
    | 9, hm => exact hm
    | 10, hm => exact hm
    | 11, hm => exact hm
    | 12, hm => exact hm
    | 13, hm => exact hm
    | 14, hm => exact hm
    | 15, hm => exact hm
    | 16, hm => exact hm
    | 17, hm => exact hm
    | 18, hm => exact hm
    | 19, hm => exact hm
    | 20, hm => exact hm
    | 21, hm => exact hm
    | 22, hm => exact hm
    | 23, hm => exact hm
    | 24, hm => exact hm
    | 25, hm => exact hm
    | 26, hm => exact hm
    | j + 27, hm => exact trivial
  case hobs =>
    refine ObsT.cons (k' := 1) rfl ?_ ?_
    · intro fa W hW hSame hRR KK hKK
      try dsimp only at hW
      have fb1 : fa.tmps[1]? = some (Value.pointer (some ⟨w.heap.size, 0, none⟩)) := (hSame.base 1 (by kernel_rfl)).trans (by kernel_rfl)
      replace hKK : ∀ v w', Below W.heap.size W w' → v = Value.pointer (some ⟨w.heap.size, 0, none⟩) → KK (Act.put fa _ v) w' := fun v w' h1 h2 => hKK v w' h1 h2
      have hX := X1.keep hW
      have chb := hX.hb
      have cfz := hX.fz
      have ck0 := hX.k0
      have ck1 := hX.k1
      have ck2 := hX.k2
      have ck3 := hX.k3
      have ck4 := hX.k4
      clear hSame hRR
      rw [if_pos (wanted_plain rfl)]
      go_simp
      refine hKK _ _ ?_ ?_
      · first | exact Below.refl _ _ | exact (Below.refl _ _).alloc (Nat.le_refl _) _ | exact below_draw _ _ | assumption
      · exact rfl
    refine ObsT.cons (k' := 2) rfl ?_ ?_
    · intro fa W hW hSame hRR KK hKK
      try dsimp only at hW
      obtain ⟨fv0, ft0, fm0⟩ := hRR 0 _ 16 rfl rfl (by kernel_rfl) (by kernel_rfl)
      replace fm0 : fv0 = Value.pointer (some ⟨w.heap.size, 0, none⟩) := fm0
      subst fm0
      replace hKK : ∀ v w', Below W.heap.size W w' → v = Value.pointer (some ⟨w.heap.size, 0, none⟩) → KK (Act.put fa _ v) w' := fun v w' h1 h2 => hKK v w' h1 h2
      have hX := X1.keep hW
      have chb := hX.hb
      have cfz := hX.fz
      have ck0 := hX.k0
      have ck1 := hX.k1
      have ck2 := hX.k2
      have ck3 := hX.k3
      have ck4 := hX.k4
      clear hSame hRR
      rw [if_pos (wanted_plain rfl)]
      go_simp
      refine hKK _ _ ?_ ?_
      · first | exact Below.refl _ _ | exact (Below.refl _ _).alloc (Nat.le_refl _) _ | exact below_draw _ _ | assumption
      · exact rfl
    refine ObsT.cons (k' := 3) rfl ?_ ?_
    · intro fa W hW hSame hRR KK hKK
      try dsimp only at hW
      obtain ⟨fv1, ft1, fm1⟩ := hRR 1 _ 17 rfl rfl (by kernel_rfl) (by kernel_rfl)
      replace fm1 : fv1 = Value.pointer (some ⟨w.heap.size, 0, none⟩) := fm1
      subst fm1
      replace hKK : ∀ v w', Below W.heap.size W w' → v = Value.int .i64 a → KK (Act.put fa _ v) w' := fun v w' h1 h2 => hKK v w' h1 h2
      have hX := X1.keep hW
      have chb := hX.hb
      have cfz := hX.fz
      have ck0 := hX.k0
      have ck1 := hX.k1
      have ck2 := hX.k2
      have ck3 := hX.k3
      have ck4 := hX.k4
      clear hSame hRR
      rw [if_pos (wanted_plain rfl)]
      go_simp
      refine hKK _ _ ?_ ?_
      · first | exact Below.refl _ _ | exact (Below.refl _ _).alloc (Nat.le_refl _) _ | exact below_draw _ _ | assumption
      · exact rfl
    refine ObsT.cons (k' := 4) rfl ?_ ?_
    · intro fa W hW hSame hRR KK hKK
      try dsimp only at hW
      obtain ⟨fv2, ft2, fm2⟩ := hRR 2 _ 18 rfl rfl (by kernel_rfl) (by kernel_rfl)
      replace fm2 : fv2 = Value.int .i64 a := fm2
      subst fm2
      replace hKK : ∀ v w', Below W.heap.size W w' → v = Value.string A → KK (Act.put fa _ v) w' := fun v w' h1 h2 => hKK v w' h1 h2
      clear hSame hRR
      rw [if_pos (wanted_plain rfl)]
      go_simp
      refine (CA.out _).mono ?_; rintro e w' ⟨rfl, hb⟩
      exact hKK _ _ hb rfl
    refine ObsT.cons (k' := 5) rfl ?_ ?_
    · intro fa W hW hSame hRR KK hKK
      try dsimp only at hW
      obtain ⟨fv3, ft3, fm3⟩ := hRR 3 _ 19 rfl rfl (by kernel_rfl) (by kernel_rfl)
      replace fm3 : fv3 = Value.string A := fm3
      subst fm3
      replace hKK : ∀ v w', Below W.heap.size W w' → v = Value.string (A ++ ⟨#[32]⟩) → KK (Act.put fa _ v) w' := fun v w' h1 h2 => hKK v w' h1 h2
      have hz : ¬ 9223372036854775807 < A.size + 1 := by omega
      clear hSame hRR
      rw [if_pos (wanted_plain rfl)]
      go_simp
      refine hKK _ _ ?_ ?_
      · first | exact Below.refl _ _ | exact (Below.refl _ _).alloc (Nat.le_refl _) _ | exact below_draw _ _ | assumption
      · exact rfl
    refine ObsT.cons (k' := 6) rfl ?_ ?_
    · intro fa W hW hSame hRR KK hKK
      try dsimp only at hW
      have fb1 : fa.tmps[1]? = some (Value.pointer (some ⟨w.heap.size, 0, none⟩)) := (hSame.base 1 (by kernel_rfl)).trans (by kernel_rfl)
      replace hKK : ∀ v w', Below W.heap.size W w' → v = Value.pointer (some ⟨w.heap.size, 0, none⟩) → KK (Act.put fa _ v) w' := fun v w' h1 h2 => hKK v w' h1 h2
      have hX := X1.keep hW
      have chb := hX.hb
      have cfz := hX.fz
      have ck0 := hX.k0
      have ck1 := hX.k1
      have ck2 := hX.k2
      have ck3 := hX.k3
      have ck4 := hX.k4
      clear hSame hRR
      rw [if_pos (wanted_plain rfl)]
      go_simp
      refine hKK _ _ ?_ ?_
      · first | exact Below.refl _ _ | exact (Below.refl _ _).alloc (Nat.le_refl _) _ | exact below_draw _ _ | assumption
      · exact rfl
    refine ObsT.cons (k' := 7) rfl ?_ ?_
    · intro fa W hW hSame hRR KK hKK
      try dsimp only at hW
      obtain ⟨fv5, ft5, fm5⟩ := hRR 5 _ 21 rfl rfl (by kernel_rfl) (by kernel_rfl)
      replace fm5 : fv5 = Value.pointer (some ⟨w.heap.size, 0, none⟩) := fm5
      subst fm5
      replace hKK : ∀ v w', Below W.heap.size W w' → v = Value.pointer (some ⟨w.heap.size, 1, none⟩) → KK (Act.put fa _ v) w' := fun v w' h1 h2 => hKK v w' h1 h2
      have hX := X1.keep hW
      have chb := hX.hb
      have cfz := hX.fz
      have ck0 := hX.k0
      have ck1 := hX.k1
      have ck2 := hX.k2
      have ck3 := hX.k3
      have ck4 := hX.k4
      clear hSame hRR
      rw [if_pos (wanted_plain rfl)]
      go_simp
      refine hKK _ _ ?_ ?_
      · first | exact Below.refl _ _ | exact (Below.refl _ _).alloc (Nat.le_refl _) _ | exact below_draw _ _ | assumption
      · exact rfl
    refine ObsT.cons (k' := 8) rfl ?_ ?_
    · intro fa W hW hSame hRR KK hKK
      try dsimp only at hW
      obtain ⟨fv6, ft6, fm6⟩ := hRR 6 _ 22 rfl rfl (by kernel_rfl) (by kernel_rfl)
      replace fm6 : fv6 = Value.pointer (some ⟨w.heap.size, 1, none⟩) := fm6
      subst fm6
      replace hKK : ∀ v w', Below W.heap.size W w' → v = Value.int .i64 b → KK (Act.put fa _ v) w' := fun v w' h1 h2 => hKK v w' h1 h2
      have hX := X1.keep hW
      have chb := hX.hb
      have cfz := hX.fz
      have ck0 := hX.k0
      have ck1 := hX.k1
      have ck2 := hX.k2
      have ck3 := hX.k3
      have ck4 := hX.k4
      clear hSame hRR
      rw [if_pos (wanted_plain rfl)]
      go_simp
      refine hKK _ _ ?_ ?_
      · first | exact Below.refl _ _ | exact (Below.refl _ _).alloc (Nat.le_refl _) _ | exact below_draw _ _ | assumption
      · exact rfl
    refine ObsT.cons (k' := 9) rfl ?_ ?_
    · intro fa W hW hSame hRR KK hKK
      try dsimp only at hW
      obtain ⟨fv7, ft7, fm7⟩ := hRR 7 _ 23 rfl rfl (by kernel_rfl) (by kernel_rfl)
      replace fm7 : fv7 = Value.int .i64 b := fm7
      subst fm7
      replace hKK : ∀ v w', Below W.heap.size W w' → v = Value.string B → KK (Act.put fa _ v) w' := fun v w' h1 h2 => hKK v w' h1 h2
      clear hSame hRR
      rw [if_pos (wanted_plain rfl)]
      go_simp
      refine (CB.out _).mono ?_; rintro e w' ⟨rfl, hb⟩
      exact hKK _ _ hb rfl
    refine ObsT.cons (k' := 10) rfl ?_ ?_
    · intro fa W hW hSame hRR KK hKK
      try dsimp only at hW
      obtain ⟨fv4, ft4, fm4⟩ := hRR 4 _ 20 rfl rfl (by kernel_rfl) (by kernel_rfl)
      replace fm4 : fv4 = Value.string (A ++ ⟨#[32]⟩) := fm4
      subst fm4
      obtain ⟨fv8, ft8, fm8⟩ := hRR 8 _ 24 rfl rfl (by kernel_rfl) (by kernel_rfl)
      replace fm8 : fv8 = Value.string B := fm8
      subst fm8
      replace hKK : ∀ v w', Below W.heap.size W w' → v = Value.string (A ++ ⟨#[32]⟩ ++ B) → KK (Act.put fa _ v) w' := fun v w' h1 h2 => hKK v w' h1 h2
      have hz : ¬ 9223372036854775807 < A.size + 1 + B.size := by omega
      clear hSame hRR
      rw [if_pos (wanted_plain rfl)]
      go_simp
      refine hKK _ _ ?_ ?_
      · first | exact Below.refl _ _ | exact (Below.refl _ _).alloc (Nat.le_refl _) _ | exact below_draw _ _ | assumption
      · exact rfl
    refine ObsT.cons (k' := 11) rfl ?_ ?_
    · intro fa W hW hSame hRR KK hKK
      try dsimp only at hW
      obtain ⟨fv9, ft9, fm9⟩ := hRR 9 _ 25 rfl rfl (by kernel_rfl) (by kernel_rfl)
      replace fm9 : fv9 = Value.string (A ++ ⟨#[32]⟩ ++ B) := fm9
      subst fm9
      replace hKK : ∀ v w', Below W.heap.size W w' → v = Value.string (A ++ ⟨#[32]⟩ ++ B ++ ⟨#[32]⟩) → KK (Act.put fa _ v) w' := fun v w' h1 h2 => hKK v w' h1 h2
      have hz : ¬ 9223372036854775807 < A.size + 1 + B.size + 1 := by omega
      clear hSame hRR
      rw [if_pos (wanted_plain rfl)]
      go_simp
      refine hKK _ _ ?_ ?_
      · first | exact Below.refl _ _ | exact (Below.refl _ _).alloc (Nat.le_refl _) _ | exact below_draw _ _ | assumption
      · exact rfl
    refine ObsT.cons (k' := 12) rfl ?_ ?_
    · intro fa W hW hSame hRR KK hKK
      try dsimp only at hW
      have fb1 : fa.tmps[1]? = some (Value.pointer (some ⟨w.heap.size, 0, none⟩)) := (hSame.base 1 (by kernel_rfl)).trans (by kernel_rfl)
      replace hKK : ∀ v w', Below W.heap.size W w' → v = Value.pointer (some ⟨w.heap.size, 2, none⟩) → KK (Act.put fa _ v) w' := fun v w' h1 h2 => hKK v w' h1 h2
      have hX := X1.keep hW
      have chb := hX.hb
      have cfz := hX.fz
      have ck0 := hX.k0
      have ck1 := hX.k1
      have ck2 := hX.k2
      have ck3 := hX.k3
      have ck4 := hX.k4
      clear hSame hRR
      rw [if_pos (wanted_plain rfl)]
      go_simp
      refine hKK _ _ ?_ ?_
      · first | exact Below.refl _ _ | exact (Below.refl _ _).alloc (Nat.le_refl _) _ | exact below_draw _ _ | assumption
      · exact rfl
    refine ObsT.cons (k' := 13) rfl ?_ ?_
    · intro fa W hW hSame hRR KK hKK
      try dsimp only at hW
      obtain ⟨fv11, ft11, fm11⟩ := hRR 11 _ 27 rfl rfl (by kernel_rfl) (by kernel_rfl)
      replace fm11 : fv11 = Value.pointer (some ⟨w.heap.size, 2, none⟩) := fm11
      subst fm11
      replace hKK : ∀ v w', Below W.heap.size W w' → v = Value.pointer (some ⟨w.heap.size, 2, none⟩) → KK (Act.put fa _ v) w' := fun v w' h1 h2 => hKK v w' h1 h2
      have hX := X1.keep hW
      have chb := hX.hb
      have cfz := hX.fz
      have ck0 := hX.k0
      have ck1 := hX.k1
      have ck2 := hX.k2
      have ck3 := hX.k3
      have ck4 := hX.k4
      clear hSame hRR
      rw [if_pos (wanted_plain rfl)]
      go_simp
      refine hKK _ _ ?_ ?_
      · first | exact Below.refl _ _ | exact (Below.refl _ _).alloc (Nat.le_refl _) _ | exact below_draw _ _ | assumption
      · exact rfl
    refine ObsT.cons (k' := 14) rfl ?_ ?_
    · intro fa W hW hSame hRR KK hKK
      try dsimp only at hW
      obtain ⟨fv12, ft12, fm12⟩ := hRR 12 _ 28 rfl rfl (by kernel_rfl) (by kernel_rfl)
      replace fm12 : fv12 = Value.pointer (some ⟨w.heap.size, 2, none⟩) := fm12
      subst fm12
      replace hKK : ∀ v w', Below W.heap.size W w' → v = Value.int .i64 c → KK (Act.put fa _ v) w' := fun v w' h1 h2 => hKK v w' h1 h2
      have hX := X1.keep hW
      have chb := hX.hb
      have cfz := hX.fz
      have ck0 := hX.k0
      have ck1 := hX.k1
      have ck2 := hX.k2
      have ck3 := hX.k3
      have ck4 := hX.k4
      clear hSame hRR
      rw [if_pos (wanted_plain rfl)]
      go_simp
      refine hKK _ _ ?_ ?_
      · first | exact Below.refl _ _ | exact (Below.refl _ _).alloc (Nat.le_refl _) _ | exact below_draw _ _ | assumption
      · exact rfl
    refine ObsT.cons (k' := 15) rfl ?_ ?_
    · intro fa W hW hSame hRR KK hKK
      try dsimp only at hW
      obtain ⟨fv13, ft13, fm13⟩ := hRR 13 _ 29 rfl rfl (by kernel_rfl) (by kernel_rfl)
      replace fm13 : fv13 = Value.int .i64 c := fm13
      subst fm13
      replace hKK : ∀ v w', Below W.heap.size W w' → v = Value.string C → KK (Act.put fa _ v) w' := fun v w' h1 h2 => hKK v w' h1 h2
      clear hSame hRR
      rw [if_pos (wanted_plain rfl)]
      go_simp
      refine (CC.out _).mono ?_; rintro e w' ⟨rfl, hb⟩
      exact hKK _ _ hb rfl
    refine ObsT.cons (k' := 16) rfl ?_ ?_
    · intro fa W hW hSame hRR KK hKK
      try dsimp only at hW
      obtain ⟨fv10, ft10, fm10⟩ := hRR 10 _ 26 rfl rfl (by kernel_rfl) (by kernel_rfl)
      replace fm10 : fv10 = Value.string (A ++ ⟨#[32]⟩ ++ B ++ ⟨#[32]⟩) := fm10
      subst fm10
      obtain ⟨fv14, ft14, fm14⟩ := hRR 14 _ 30 rfl rfl (by kernel_rfl) (by kernel_rfl)
      replace fm14 : fv14 = Value.string C := fm14
      subst fm14
      replace hKK : ∀ v w', Below W.heap.size W w' → v = Value.string (A ++ ⟨#[32]⟩ ++ B ++ ⟨#[32]⟩ ++ C) → KK (Act.put fa _ v) w' := fun v w' h1 h2 => hKK v w' h1 h2
      have hz : ¬ 9223372036854775807 < A.size + 1 + B.size + 1 + C.size := by omega
      clear hSame hRR
      rw [if_pos (wanted_plain rfl)]
      go_simp
      refine hKK _ _ ?_ ?_
      · first | exact Below.refl _ _ | exact (Below.refl _ _).alloc (Nat.le_refl _) _ | exact below_draw _ _ | assumption
      · exact rfl
    refine ObsT.cons (k' := 17) rfl ?_ ?_
    · intro fa W hW hSame hRR KK hKK
      try dsimp only at hW
      obtain ⟨fv15, ft15, fm15⟩ := hRR 15 _ 31 rfl rfl (by kernel_rfl) (by kernel_rfl)
      replace fm15 : fv15 = Value.string (A ++ ⟨#[32]⟩ ++ B ++ ⟨#[32]⟩ ++ C) := fm15
      subst fm15
      replace hKK : ∀ v w', Below W.heap.size W w' → v = Value.string (A ++ ⟨#[32]⟩ ++ B ++ ⟨#[32]⟩ ++ C ++ ⟨#[32]⟩) → KK (Act.put fa _ v) w' := fun v w' h1 h2 => hKK v w' h1 h2
      have hz : ¬ 9223372036854775807 < A.size + 1 + B.size + 1 + C.size + 1 := by omega
      clear hSame hRR
      rw [if_pos (wanted_plain rfl)]
      go_simp
      refine hKK _ _ ?_ ?_
      · first | exact Below.refl _ _ | exact (Below.refl _ _).alloc (Nat.le_refl _) _ | exact below_draw _ _ | assumption
      · exact rfl
    refine ObsT.cons (k' := 18) rfl ?_ ?_
    · intro fa W hW hSame hRR KK hKK
      try dsimp only at hW
      have fb1 : fa.tmps[1]? = some (Value.pointer (some ⟨w.heap.size, 0, none⟩)) := (hSame.base 1 (by kernel_rfl)).trans (by kernel_rfl)
      replace hKK : ∀ v w', Below W.heap.size W w' → v = Value.pointer (some ⟨w.heap.size, 2, none⟩) → KK (Act.put fa _ v) w' := fun v w' h1 h2 => hKK v w' h1 h2
      have hX := X1.keep hW
      have chb := hX.hb
      have cfz := hX.fz
      have ck0 := hX.k0
      have ck1 := hX.k1
      have ck2 := hX.k2
      have ck3 := hX.k3
      have ck4 := hX.k4
      clear hSame hRR
      rw [if_pos (wanted_plain rfl)]
      go_simp
      refine hKK _ _ ?_ ?_
      · first | exact Below.refl _ _ | exact (Below.refl _ _).alloc (Nat.le_refl _) _ | exact below_draw _ _ | assumption
      · exact rfl
    refine ObsT.cons (k' := 19) rfl ?_ ?_
    · intro fa W hW hSame hRR KK hKK
      try dsimp only at hW
      obtain ⟨fv17, ft17, fm17⟩ := hRR 17 _ 33 rfl rfl (by kernel_rfl) (by kernel_rfl)
      replace fm17 : fv17 = Value.pointer (some ⟨w.heap.size, 2, none⟩) := fm17
      subst fm17
      replace hKK : ∀ v w', Below W.heap.size W w' → v = Value.pointer (some ⟨w.heap.size, 3, none⟩) → KK (Act.put fa _ v) w' := fun v w' h1 h2 => hKK v w' h1 h2
      have hX := X1.keep hW
      have chb := hX.hb
      have cfz := hX.fz
      have ck0 := hX.k0
      have ck1 := hX.k1
      have ck2 := hX.k2
      have ck3 := hX.k3
      have ck4 := hX.k4
      clear hSame hRR
      rw [if_pos (wanted_plain rfl)]
      go_simp
      refine hKK _ _ ?_ ?_
      · first | exact Below.refl _ _ | exact (Below.refl _ _).alloc (Nat.le_refl _) _ | exact below_draw _ _ | assumption
      · exact rfl
    refine ObsT.cons (k' := 20) rfl ?_ ?_
    · intro fa W hW hSame hRR KK hKK
      try dsimp only at hW
      obtain ⟨fv18, ft18, fm18⟩ := hRR 18 _ 34 rfl rfl (by kernel_rfl) (by kernel_rfl)
      replace fm18 : fv18 = Value.pointer (some ⟨w.heap.size, 3, none⟩) := fm18
      subst fm18
      replace hKK : ∀ v w', Below W.heap.size W w' → v = Value.int .i64 d → KK (Act.put fa _ v) w' := fun v w' h1 h2 => hKK v w' h1 h2
      have hX := X1.keep hW
      have chb := hX.hb
      have cfz := hX.fz
      have ck0 := hX.k0
      have ck1 := hX.k1
      have ck2 := hX.k2
      have ck3 := hX.k3
      have ck4 := hX.k4
      clear hSame hRR
      rw [if_pos (wanted_plain rfl)]
      go_simp
      refine hKK _ _ ?_ ?_
      · first | exact Below.refl _ _ | exact (Below.refl _ _).alloc (Nat.le_refl _) _ | exact below_draw _ _ | assumption
      · exact rfl
    refine ObsT.cons (k' := 21) rfl ?_ ?_
    · intro fa W hW hSame hRR KK hKK
      try dsimp only at hW
      obtain ⟨fv19, ft19, fm19⟩ := hRR 19 _ 35 rfl rfl (by kernel_rfl) (by kernel_rfl)
      replace fm19 : fv19 = Value.int .i64 d := fm19
      subst fm19
      replace hKK : ∀ v w', Below W.heap.size W w' → v = Value.string D → KK (Act.put fa _ v) w' := fun v w' h1 h2 => hKK v w' h1 h2
      clear hSame hRR
      rw [if_pos (wanted_plain rfl)]
      go_simp
      refine (CD.out _).mono ?_; rintro e w' ⟨rfl, hb⟩
      exact hKK _ _ hb rfl
    refine ObsT.cons (k' := 22) rfl ?_ ?_
    · intro fa W hW hSame hRR KK hKK
      try dsimp only at hW
      obtain ⟨fv16, ft16, fm16⟩ := hRR 16 _ 32 rfl rfl (by kernel_rfl) (by kernel_rfl)
      replace fm16 : fv16 = Value.string (A ++ ⟨#[32]⟩ ++ B ++ ⟨#[32]⟩ ++ C ++ ⟨#[32]⟩) := fm16
      subst fm16
      obtain ⟨fv20, ft20, fm20⟩ := hRR 20 _ 36 rfl rfl (by kernel_rfl) (by kernel_rfl)
      replace fm20 : fv20 = Value.string D := fm20
      subst fm20
      replace hKK : ∀ v w', Below W.heap.size W w' → v = Value.string (A ++ ⟨#[32]⟩ ++ B ++ ⟨#[32]⟩ ++ C ++ ⟨#[32]⟩ ++ D) → KK (Act.put fa _ v) w' := fun v w' h1 h2 => hKK v w' h1 h2
      have hz : ¬ 9223372036854775807 < A.size + 1 + B.size + 1 + C.size + 1 + D.size := by omega
      clear hSame hRR
      rw [if_pos (wanted_plain rfl)]
      go_simp
      refine hKK _ _ ?_ ?_
      · first | exact Below.refl _ _ | exact (Below.refl _ _).alloc (Nat.le_refl _) _ | exact below_draw _ _ | assumption
      · exact rfl
    refine ObsT.cons (k' := 23) rfl ?_ ?_
    · intro fa W hW hSame hRR KK hKK
      try dsimp only at hW
      obtain ⟨fv21, ft21, fm21⟩ := hRR 21 _ 37 rfl rfl (by kernel_rfl) (by kernel_rfl)
      replace fm21 : fv21 = Value.string (A ++ ⟨#[32]⟩ ++ B ++ ⟨#[32]⟩ ++ C ++ ⟨#[32]⟩ ++ D) := fm21
      subst fm21
      replace hKK : ∀ v w', Below W.heap.size W w' → v = Value.string (A ++ ⟨#[32]⟩ ++ B ++ ⟨#[32]⟩ ++ C ++ ⟨#[32]⟩ ++ D ++ ⟨#[32]⟩) → KK (Act.put fa _ v) w' := fun v w' h1 h2 => hKK v w' h1 h2
      have hz : ¬ 9223372036854775807 < A.size + 1 + B.size + 1 + C.size + 1 + D.size + 1 := by omega
      clear hSame hRR
      rw [if_pos (wanted_plain rfl)]
      go_simp
      refine hKK _ _ ?_ ?_
      · first | exact Below.refl _ _ | exact (Below.refl _ _).alloc (Nat.le_refl _) _ | exact below_draw _ _ | assumption
      · exact rfl
    refine ObsT.cons (k' := 24) rfl ?_ ?_
    · intro fa W hW hSame hRR KK hKK
      try dsimp only at hW
      have fb4 : fa.tmps[4]? = some (Value.string X0) := (hSame.base 4 (by kernel_rfl)).trans (by kernel_rfl)
      replace hKK : ∀ v w', Below W.heap.size W w' → v = Value.string X0 → KK (Act.put fa _ v) w' := fun v w' h1 h2 => hKK v w' h1 h2
      clear hSame hRR
      rw [if_pos (wanted_plain rfl)]
      go_simp
      refine hKK _ _ ?_ ?_
      · first | exact Below.refl _ _ | exact (Below.refl _ _).alloc (Nat.le_refl _) _ | exact below_draw _ _ | assumption
      · exact rfl
    refine ObsT.cons (k' := 25) rfl ?_ ?_
    · intro fa W hW hSame hRR KK hKK
      try dsimp only at hW
      obtain ⟨fv22, ft22, fm22⟩ := hRR 22 _ 38 rfl rfl (by kernel_rfl) (by kernel_rfl)
      replace fm22 : fv22 = Value.string (A ++ ⟨#[32]⟩ ++ B ++ ⟨#[32]⟩ ++ C ++ ⟨#[32]⟩ ++ D ++ ⟨#[32]⟩) := fm22
      subst fm22
      obtain ⟨fv23, ft23, fm23⟩ := hRR 23 _ 39 rfl rfl (by kernel_rfl) (by kernel_rfl)
      replace fm23 : fv23 = Value.string X0 := fm23
      subst fm23
      replace hKK : ∀ v w', Below W.heap.size W w' → v = Value.string (A ++ ⟨#[32]⟩ ++ B ++ ⟨#[32]⟩ ++ C ++ ⟨#[32]⟩ ++ D ++ ⟨#[32]⟩ ++ X0) → KK (Act.put fa _ v) w' := fun v w' h1 h2 => hKK v w' h1 h2
      have hz : ¬ 9223372036854775807 < A.size + 1 + B.size + 1 + C.size + 1 + D.size + 1 + X0.size := by omega
      clear hSame hRR
      rw [if_pos (wanted_plain rfl)]
      go_simp
      refine hKK _ _ ?_ ?_
      · first | exact Below.refl _ _ | exact (Below.refl _ _).alloc (Nat.le_refl _) _ | exact below_draw _ _ | assumption
      · exact rfl
    refine ObsT.cons (k' := 26) rfl ?_ ?_
    · intro fa W hW hSame hRR KK hKK
      try dsimp only at hW
      obtain ⟨fv24, ft24, fm24⟩ := hRR 24 _ 40 rfl rfl (by kernel_rfl) (by kernel_rfl)
      replace fm24 : fv24 = Value.string (A ++ ⟨#[32]⟩ ++ B ++ ⟨#[32]⟩ ++ C ++ ⟨#[32]⟩ ++ D ++ ⟨#[32]⟩ ++ X0) := fm24
      subst fm24
      replace hKK : ∀ v w', Below W.heap.size W w' → v = Value.string (A ++ ⟨#[32]⟩ ++ B ++ ⟨#[32]⟩ ++ C ++ ⟨#[32]⟩ ++ D ++ ⟨#[32]⟩ ++ X0) → KK (Act.put fa _ v) w' := fun v w' h1 h2 => hKK v w' h1 h2
      clear hSame hRR
      rw [if_pos (wanted_plain rfl)]
      go_simp
      refine hKK _ _ ?_ ?_
      · first | exact Below.refl _ _ | exact (Below.refl _ _).alloc (Nat.le_refl _) _ | exact below_draw _ _ | assumption
      · exact rfl
    refine ObsT.cons (k' := 27) rfl ?_ ?_
    · intro fa W hW hSame hRR KK hKK
      try dsimp only at hW
      replace hKK : ∀ v w', Below W.heap.size W w' → v = Value.int .i64 0 → KK (Act.put fa _ v) w' := fun v w' h1 h2 => hKK v w' h1 h2
      clear hSame hRR
      rw [if_pos (wanted_plain rfl)]
      go_simp
      refine hKK _ _ ?_ ?_
      · first | exact Below.refl _ _ | exact (Below.refl _ _).alloc (Nat.le_refl _) _ | exact below_draw _ _ | assumption
      · exact rfl
    exact ObsT.nil
  case hlast =>
    intro fa w2 d2 hSame hRR
    try dsimp only at d2
    obtain ⟨zz25, f2, rfl⟩ := hRR 25 _ 2 rfl rfl rfl
    obtain ⟨zz26, f3, rfl⟩ := hRR 26 _ 3 rfl rfl rfl
    rw [Same_shape hSame]
    simp only [List.filterMap_cons, List.filterMap_nil, List.foldl_cons, List.foldl_nil]
    have g2 : fa.tmps.getD 2 undef = Value.string (A ++ ⟨#[32]⟩ ++ B ++ ⟨#[32]⟩ ++ C ++ ⟨#[32]⟩ ++ D ++ ⟨#[32]⟩ ++ X0) := by simp [Array.getD_eq_getD_getElem?, f2]
    have g3 : fa.tmps.getD 3 undef = Value.int .i64 0 := by simp [Array.getD_eq_getD_getElem?, f3]
    rw [g2, g3]
    generalize fa.tmps.getD 16 undef = y16
    generalize fa.tmps.getD 17 undef = y17
    generalize fa.tmps.getD 18 undef = y18
    generalize fa.tmps.getD 19 undef = y19
    generalize fa.tmps.getD 20 undef = y20
    generalize fa.tmps.getD 21 undef = y21
    generalize fa.tmps.getD 22 undef = y22
    generalize fa.tmps.getD 23 undef = y23
    generalize fa.tmps.getD 24 undef = y24
    generalize fa.tmps.getD 25 undef = y25
    generalize fa.tmps.getD 26 undef = y26
    generalize fa.tmps.getD 27 undef = y27
    generalize fa.tmps.getD 28 undef = y28
    generalize fa.tmps.getD 29 undef = y29
    generalize fa.tmps.getD 30 undef = y30
    generalize fa.tmps.getD 31 undef = y31
    generalize fa.tmps.getD 32 undef = y32
    generalize fa.tmps.getD 33 undef = y33
    generalize fa.tmps.getD 34 undef = y34
    generalize fa.tmps.getD 35 undef = y35
    generalize fa.tmps.getD 36 undef = y36
    generalize fa.tmps.getD 37 undef = y37
    generalize fa.tmps.getD 38 undef = y38
    generalize fa.tmps.getD 39 undef = y39
    generalize fa.tmps.getD 40 undef = y40
    clear hSame hRR f2 g2 f3 g3
    simp only [Act.put, List.setIfInBounds_toArray, List.set_cons_succ, List.set_cons_zero]
    have B2 := Lib.hid (below_step B1.out d2)
    go_wp2_with fail
    go_ret2
    exact ⟨rfl, B2.out⟩
end Go.Proofs.YtlelpeocbgjmhaaGreatDoor
