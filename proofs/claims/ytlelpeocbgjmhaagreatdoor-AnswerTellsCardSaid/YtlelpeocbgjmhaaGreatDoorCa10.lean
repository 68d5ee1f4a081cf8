/- Joined: AnB. -/
import Derived.Test.YtlelpeocbgjmhaaGreatDoorCa08
import Derived.Test.YtlelpeocbgjmhaaGreatDoorCa09
/- Answers: both infos' texts, of the program. -/
set_option linter.unusedVariables false
set_option linter.unusedSimpArgs false
namespace Go.Proofs.YtlelpeocbgjmhaaGreatDoor
open Go.RowKit Go.Sort Go.Pairs
theorem An.arr_app (l m : List UInt8) : (⟨(l ++ m).toArray⟩ : ByteArray) = ⟨l.toArray⟩ ++ ⟨m.toArray⟩ := by
  apply ByteArray.ext
  simp
theorem An.inf_len (a b c d : Int) (x : ByteArray) (ha : An.bd a) (hb : An.bd b) (hc : An.bd c) (hd : An.bd d) : (⟨(An.inf (a, b, c, d, x)).1.toArray⟩ : ByteArray).size ≤ x.size + 200 := by
  have h := Fd.jn_len (An.tl (a, b, c, d, x))
  have h1 := Lib.itoa_length_le a ha.1 ha.2
  have h2 := Lib.itoa_length_le b hb.1 hb.2
  have h3 := Lib.itoa_length_le c hc.1 hc.2
  have h4 := Lib.itoa_length_le d hd.1 hd.2
  have e : Fd.sm (An.tl (a, b, c, d, x)) = (Lib.itoa a).length + ((Lib.itoa b).length + ((Lib.itoa c).length + ((Lib.itoa d).length + (x.data.toList.length + 0)))) := rfl
  have e2 : x.data.toList.length = x.size := Array.length_toList
  show (An.inf (a, b, c, d, x)).1.toArray.size ≤ _
  rw [List.size_toArray]
  show (Fd.jn (An.tl (a, b, c, d, x))).1.length ≤ _
  omega
set_option maxHeartbeats 4000000 in
set_option maxRecDepth 100000 in
theorem aboth_yes (k a b c d : Int) (x : ByteArray) (a' b' c' d' : Int) (x' : ByteArray) (w : World) (ha : An.bd a) (hb : An.bd b) (hc : An.bd c) (hd : An.bd d) (hx : x.size ≤ 1000000) (ha' : An.bd a') (hb' : An.bd b') (hc' : An.bd c') (hd' : An.bd d') (hx' : x'.size ≤ 1000000) (T : Lib.TabIs Tryz.prog w "internal/strconv.uint64pow10" .u64 Lib.pow10Tab) (h1 : (An.inf (a, b, c, d, x)).2 = 0) (h2 : (An.inf (a', b', c', d', x')).2 = 0) :
    Calls Tryz.prog 25 #[.agg #[.int .i64 k, .int .i64 a, .int .i64 b, .int .i64 c, .int .i64 d, .string x, .int .i64 a', .int .i64 b', .int .i64 c', .int .i64 d', .string x']] w fun e w' => e = .returned (.string (⟨(An.inf (a, b, c, d, x)).1.toArray⟩ ++ ⟨#[32, 47, 32]⟩ ++ ⟨(An.inf (a', b', c', d', x')).1.toArray⟩)) ∧ Below w.heap.size w w' := by
  have IA := Lib.hid (fun W T => ainfo_any a b c d x W ha hb hc hd hx T)
  have IB := Lib.hid (fun W T => ainfo_any a' b' c' d' x' W ha' hb' hc' hd' hx' T)
  have TT := Lib.hid T
  rw [h1] at IA
  rw [h2] at IB
  have z1 := An.inf_len a b c d x ha hb hc hd
  have z2 := An.inf_len a' b' c' d' x' ha' hb' hc' hd'
  generalize (⟨(An.inf (a, b, c, d, x)).1.toArray⟩ : ByteArray) = R1 at *
  generalize (⟨(An.inf (a', b', c', d', x')).1.toArray⟩ : ByteArray) = R2 at *
  have z1 : R1.size ≤ 2000000 := by omega
  have z2 : R2.size ≤ 2000000 := by omega
  clear ha hb hc hd hx ha' hb' hc' hd' hx' T h1 h2
  go_enter Tryz.func25, Tryz.ntmps25
  go_upto_region 1 with (fail)
  refine wp_named ?_; intro w1 hw1
  have d1 : Below w.heap.size w w1 := by rw [hw1]; exact (by repeat (first | exact Below.refl _ _ | refine _root_.Go.below_drewN ?_ _ | refine Below.drew ?_ | refine Below.setCell ?_ (by first | (simp; done) | (simp; omega) | omega) _ | refine Below.alloc ?_ (by first | (simp; done) | (simp; omega) | omega) _))
  have B1 := Lib.hid d1
  have T1 := Lib.hid (var_keep d1 TT.out)
  have X1 : Bk11 w1 w.heap.size (.int .i64 k) (.int .i64 a) (.int .i64 b) (.int .i64 c) (.int .i64 d) (.string x) (.int .i64 a') (.int .i64 b') (.int .i64 c') (.int .i64 d') (.string x') := by rw [hw1]; exact ⟨by simp <;> omega, by intro j; simp [go_sem], by simp [go_sem], by simp [go_sem], by simp [go_sem], by simp [go_sem], by simp [go_sem], by simp [go_sem], by simp [go_sem], by simp [go_sem], by simp [go_sem], by simp [go_sem], by simp [go_sem]⟩
  clear d1 hw1 TT
  refine wp_region_till (R := markR [(fun v _ => v = Value.pointer (some ⟨w.heap.size, 1, none⟩)), (fun v _ => v = Value.agg #[.int .i64 a, .int .i64 b, .int .i64 c, .int .i64 d, .string x]), (fun v _ => v = Value.tuple #[.string R1, .int .i64 0]), (fun v _ => v = Value.string R1), (fun v _ => v = Value.int .i64 0), (fun v _ => v = Value.string R1), (fun v _ => v = Value.string (R1 ++ ⟨#[32, 47, 32]⟩)), (fun v _ => v = Value.pointer (some ⟨w.heap.size, 6, none⟩)), (fun v _ => v = Value.agg #[.int .i64 a', .int .i64 b', .int .i64 c', .int .i64 d', .string x']), (fun v _ => v = Value.tuple #[.string R2, .int .i64 0]), (fun v _ => v = Value.string R2), (fun v _ => v = Value.int .i64 0), (fun v _ => v = Value.string R2), (fun v _ => v = Value.string (R1 ++ ⟨#[32, 47, 32]⟩ ++ R2)), (fun v _ => v = Value.string (R1 ++ ⟨#[32, 47, 32]⟩ ++ R2))]) (till := fun _ => none) (D := fun W => Below w1.heap.size w1 W) (G := fun _ W W' => Below W.heap.size W W') (by rfl) ?hbeg ⟨by kernel_rfl, by kernel_rfl, by kernel_rfl, ?hkeep, ?hstab, ObsT.all ?hobs, ?hlast⟩
  case hbeg => exact (Below.refl _ _).drew
  case hkeep => intro i w1 w2 hC hG; exact below_step hC hG
  case hstab =>
    intro i j hij ht v w1 w2 hG hm
    match j, hm with
    | 0, hm => exact hm
    | 1, hm => exact hm
    | 2, hm => exact hm
    | 3, hm => exact hm
    | 4, hm => exact hm
    | 5, hm => exact hm
    | 6, hm => exact hm
    | 7, hm => exact hm
    | 8, hm => exact hm
    | 9, hm => exact hm
    | 10, hm => exact hm
    | 11, hm => exact hm
    | 12, hm => exact hm
    | 13, hm => exact hm
    | 14, hm => exact hm
    | j + 15, hm => exact trivial
  case hobs =>
    refine ObsT.cons (k' := 1) rfl ?_ ?_
    · intro fa W hW hSame hRR KK hKK
      try dsimp only at hW
      have fb1 : fa.tmps[1]? = some (Value.pointer (some ⟨w.heap.size, 0, none⟩)) := (hSame.base 1 (by kernel_rfl)).trans (by kernel_rfl)
      replace hKK : ∀ v w', Below W.heap.size W w' → v = Value.pointer (some ⟨w.heap.size, 1, none⟩) → KK (Act.put fa _ v) w' := fun v w' h1 h2 => hKK v w' h1 h2
      have hX := X1.keep hW
      have chb := hX.hb
      have cfz := hX.fz
      have ck0 := hX.k0
      have ck1 := hX.k1
      have ck2 := hX.k2
      have ck3 := hX.k3
      have ck4 := hX.k4
      have ck5 := hX.k5
      have ck6 := hX.k6
      have ck7 := hX.k7
      have ck8 := hX.k8
      have ck9 := hX.k9
      have ck10 := hX.k10
      clear hSame hRR
      rw [if_pos (wanted_plain rfl)]
      go_simp
      refine hKK _ _ ?_ ?_
      · first | exact Below.refl _ _ | exact (Below.refl _ _).alloc (Nat.le_refl _) _ | exact below_draw _ _ | assumption
      · exact rfl
    refine ObsT.cons (k' := 2) rfl ?_ ?_
    · intro fa W hW hSame hRR KK hKK
      try dsimp only at hW
      obtain ⟨fv0, ft0, fm0⟩ := hRR 0 _ 3 rfl rfl (by kernel_rfl) (by kernel_rfl)
      replace fm0 : fv0 = Value.pointer (some ⟨w.heap.size, 1, none⟩) := fm0
      subst fm0
      replace hKK : ∀ v w', Below W.heap.size W w' → v = Value.agg #[.int .i64 a, .int .i64 b, .int .i64 c, .int .i64 d, .string x] → KK (Act.put fa _ v) w' := fun v w' h1 h2 => hKK v w' h1 h2
      have hX := X1.keep hW
      have chb := hX.hb
      have cfz := hX.fz
      have ck0 := hX.k0
      have ck1 := hX.k1
      have ck2 := hX.k2
      have ck3 := hX.k3
      have ck4 := hX.k4
      have ck5 := hX.k5
      have ck6 := hX.k6
      have ck7 := hX.k7
      have ck8 := hX.k8
      have ck9 := hX.k9
      have ck10 := hX.k10
      clear hSame hRR
      rw [if_pos (wanted_plain rfl)]
      go_simp
      refine hKK _ _ ?_ ?_
      · first | exact Below.refl _ _ | exact (Below.refl _ _).alloc (Nat.le_refl _) _ | exact below_draw _ _ | assumption
      · exact rfl
    refine ObsT.cons (k' := 3) rfl ?_ ?_
    · intro fa W hW hSame hRR KK hKK
      try dsimp only at hW
      obtain ⟨fv1, ft1, fm1⟩ := hRR 1 _ 4 rfl rfl (by kernel_rfl) (by kernel_rfl)
      replace fm1 : fv1 = Value.agg #[.int .i64 a, .int .i64 b, .int .i64 c, .int .i64 d, .string x] := fm1
      subst fm1
      replace hKK : ∀ v w', Below W.heap.size W w' → v = Value.tuple #[.string R1, .int .i64 0] → KK (Act.put fa _ v) w' := fun v w' h1 h2 => hKK v w' h1 h2
      clear hSame hRR
      rw [if_pos (wanted_plain rfl)]
      go_simp
      refine (IA.out _ (var_keep hW T1.out)).mono ?_; rintro e w' ⟨rfl, hb⟩
      exact hKK _ _ hb rfl
    refine ObsT.cons (k' := 4) rfl ?_ ?_
    · intro fa W hW hSame hRR KK hKK
      try dsimp only at hW
      obtain ⟨fv2, ft2, fm2⟩ := hRR 2 _ 5 rfl rfl (by kernel_rfl) (by kernel_rfl)
      replace fm2 : fv2 = Value.tuple #[.string R1, .int .i64 0] := fm2
      subst fm2
      replace hKK : ∀ v w', Below W.heap.size W w' → v = Value.string R1 → KK (Act.put fa _ v) w' := fun v w' h1 h2 => hKK v w' h1 h2
      clear hSame hRR
      rw [if_pos (wanted_plain rfl)]
      go_simp
      refine hKK _ _ ?_ ?_
      · first | exact Below.refl _ _ | exact (Below.refl _ _).alloc (Nat.le_refl _) _ | exact below_draw _ _ | assumption
      · exact rfl
    refine ObsT.cons (k' := 5) rfl ?_ ?_
    · intro fa W hW hSame hRR KK hKK
      try dsimp only at hW
      obtain ⟨fv2, ft2, fm2⟩ := hRR 2 _ 5 rfl rfl (by kernel_rfl) (by kernel_rfl)
      replace fm2 : fv2 = Value.tuple #[.string R1, .int .i64 0] := fm2
      subst fm2
      replace hKK : ∀ v w', Below W.heap.size W w' → v = Value.int .i64 0 → KK (Act.put fa _ v) w' := fun v w' h1 h2 => hKK v w' h1 h2
      clear hSame hRR
      rw [if_pos (wanted_plain rfl)]
      go_simp
      refine hKK _ _ ?_ ?_
      · first | exact Below.refl _ _ | exact (Below.refl _ _).alloc (Nat.le_refl _) _ | exact below_draw _ _ | assumption
      · exact rfl
    refine ObsT.cons (k' := 6) rfl ?_ ?_
    · intro fa W hW hSame hRR KK hKK
      try dsimp only at hW
      obtain ⟨fv3, ft3, fm3⟩ := hRR 3 _ 6 rfl rfl (by kernel_rfl) (by kernel_rfl)
      replace fm3 : fv3 = Value.string R1 := fm3
      subst fm3
      obtain ⟨fv4, ft4, fm4⟩ := hRR 4 _ 7 rfl rfl (by kernel_rfl) (by kernel_rfl)
      replace fm4 : fv4 = Value.int .i64 0 := fm4
      subst fm4
      replace hKK : ∀ v w', Below W.heap.size W w' → v = Value.string R1 → KK (Act.put fa _ v) w' := fun v w' h1 h2 => hKK v w' h1 h2
      clear hSame hRR
      rw [if_pos (wanted_plain rfl)]
      go_simp
      refine (musts_yes _ _).mono ?_; rintro e w' ⟨rfl, rfl⟩
      exact hKK _ _ (Below.refl _ _) rfl
    refine ObsT.cons (k' := 7) rfl ?_ ?_
    · intro fa W hW hSame hRR KK hKK
      try dsimp only at hW
      obtain ⟨fv5, ft5, fm5⟩ := hRR 5 _ 8 rfl rfl (by kernel_rfl) (by kernel_rfl)
      replace fm5 : fv5 = Value.string R1 := fm5
      subst fm5
      replace hKK : ∀ v w', Below W.heap.size W w' → v = Value.string (R1 ++ ⟨#[32, 47, 32]⟩) → KK (Act.put fa _ v) w' := fun v w' h1 h2 => hKK v w' h1 h2
      have hz : ¬ 9223372036854775807 < R1.size + 3 := by omega
      clear hSame hRR
      rw [if_pos (wanted_plain rfl)]
      go_simp
      refine hKK _ _ ?_ ?_
      · first | exact Below.refl _ _ | exact (Below.refl _ _).alloc (Nat.le_refl _) _ | exact below_draw _ _ | assumption
      · exact rfl
    refine ObsT.cons (k' := 8) rfl ?_ ?_
    · intro fa W hW hSame hRR KK hKK
      try dsimp only at hW
      have fb1 : fa.tmps[1]? = some (Value.pointer (some ⟨w.heap.size, 0, none⟩)) := (hSame.base 1 (by kernel_rfl)).trans (by kernel_rfl)
      replace hKK : ∀ v w', Below W.heap.size W w' → v = Value.pointer (some ⟨w.heap.size, 6, none⟩) → KK (Act.put fa _ v) w' := fun v w' h1 h2 => hKK v w' h1 h2
      have hX := X1.keep hW
      have chb := hX.hb
      have cfz := hX.fz
      have ck0 := hX.k0
      have ck1 := hX.k1
      have ck2 := hX.k2
      have ck3 := hX.k3
      have ck4 := hX.k4
      have ck5 := hX.k5
      have ck6 := hX.k6
      have ck7 := hX.k7
      have ck8 := hX.k8
      have ck9 := hX.k9
      have ck10 := hX.k10
      clear hSame hRR
      rw [if_pos (wanted_plain rfl)]
      go_simp
      refine hKK _ _ ?_ ?_
      · first | exact Below.refl _ _ | exact (Below.refl _ _).alloc (Nat.le_refl _) _ | exact below_draw _ _ | assumption
      · exact rfl
    refine ObsT.cons (k' := 9) rfl ?_ ?_
    · intro fa W hW hSame hRR KK hKK
      try dsimp only at hW
      obtain ⟨fv7, ft7, fm7⟩ := hRR 7 _ 10 rfl rfl (by kernel_rfl) (by kernel_rfl)
      replace fm7 : fv7 = Value.pointer (some ⟨w.heap.size, 6, none⟩) := fm7
      subst fm7
      replace hKK : ∀ v w', Below W.heap.size W w' → v = Value.agg #[.int .i64 a', .int .i64 b', .int .i64 c', .int .i64 d', .string x'] → KK (Act.put fa _ v) w' := fun v w' h1 h2 => hKK v w' h1 h2
      have hX := X1.keep hW
      have chb := hX.hb
      have cfz := hX.fz
      have ck0 := hX.k0
      have ck1 := hX.k1
      have ck2 := hX.k2
      have ck3 := hX.k3
      have ck4 := hX.k4
      have ck5 := hX.k5
      have ck6 := hX.k6
      have ck7 := hX.k7
      have ck8 := hX.k8
      have ck9 := hX.k9
      have ck10 := hX.k10
      clear hSame hRR
      rw [if_pos (wanted_plain rfl)]
      go_simp
      refine hKK _ _ ?_ ?_
      · first | exact Below.refl _ _ | exact (Below.refl _ _).alloc (Nat.le_refl _) _ | exact below_draw _ _ | assumption
      · exact rfl
    refine ObsT.cons (k' := 10) rfl ?_ ?_
    · intro fa W hW hSame hRR KK hKK
      try dsimp only at hW
      obtain ⟨fv8, ft8, fm8⟩ := hRR 8 _ 11 rfl rfl (by kernel_rfl) (by kernel_rfl)
      replace fm8 : fv8 = Value.agg #[.int .i64 a', .int .i64 b', .int .i64 c', .int .i64 d', .string x'] := fm8
      subst fm8
      replace hKK : ∀ v w', Below W.heap.size W w' → v = Value.tuple #[.string R2, .int .i64 0] → KK (Act.put fa _ v) w' := fun v w' h1 h2 => hKK v w' h1 h2
      clear hSame hRR
      rw [if_pos (wanted_plain rfl)]
      go_simp
      refine (IB.out _ (var_keep hW T1.out)).mono ?_; rintro e w' ⟨rfl, hb⟩
      exact hKK _ _ hb rfl
    refine ObsT.cons (k' := 11) rfl ?_ ?_
    · intro fa W hW hSame hRR KK hKK
      try dsimp only at hW
      obtain ⟨fv9, ft9, fm9⟩ := hRR 9 _ 12 rfl rfl (by kernel_rfl) (by kernel_rfl)
      replace fm9 : fv9 = Value.tuple #[.string R2, .int .i64 0] := fm9
      subst fm9
      replace hKK : ∀ v w', Below W.heap.size W w' → v = Value.string R2 → KK (Act.put fa _ v) w' := fun v w' h1 h2 => hKK v w' h1 h2
      clear hSame hRR
      rw [if_pos (wanted_plain rfl)]
      go_simp
      refine hKK _ _ ?_ ?_
      · first | exact Below.refl _ _ | exact (Below.refl _ _).alloc (Nat.le_refl _) _ | exact below_draw _ _ | assumption
      · exact rfl
    refine ObsT.cons (k' := 12) rfl ?_ ?_
    · intro fa W hW hSame hRR KK hKK
      try dsimp only at hW
      obtain ⟨fv9, ft9, fm9⟩ := hRR 9 _ 12 rfl rfl (by kernel_rfl) (by kernel_rfl)
      replace fm9 : fv9 = Value.tuple #[.string R2, .int .i64 0] := fm9
      subst fm9
      replace hKK : ∀ v w', Below W.heap.size W w' → v = Value.int .i64 0 → KK (Act.put fa _ v) w' := fun v w' h1 h2 => hKK v w' h1 h2
      clear hSame hRR
      rw [if_pos (wanted_plain rfl)]
      go_simp
      refine hKK _ _ ?_ ?_
      · first | exact Below.refl _ _ | exact (Below.refl _ _).alloc (Nat.le_refl _) _ | exact below_draw _ _ | assumption
      · exact rfl
    refine ObsT.cons (k' := 13) rfl ?_ ?_
    · intro fa W hW hSame hRR KK hKK
      try dsimp only at hW
      obtain ⟨fv10, ft10, fm10⟩ := hRR 10 _ 13 rfl rfl (by kernel_rfl) (by kernel_rfl)
      replace fm10 : fv10 = Value.string R2 := fm10
      subst fm10
      obtain ⟨fv11, ft11, fm11⟩ := hRR 11 _ 14 rfl rfl (by kernel_rfl) (by kernel_rfl)
      replace fm11 : fv11 = Value.int .i64 0 := fm11
      subst fm11
      replace hKK : ∀ v w', Below W.heap.size W w' → v = Value.string R2 → KK (Act.put fa _ v) w' := fun v w' h1 h2 => hKK v w' h1 h2
      clear hSame hRR
      rw [if_pos (wanted_plain rfl)]
      go_simp
      refine (musts_yes _ _).mono ?_; rintro e w' ⟨rfl, rfl⟩
      exact hKK _ _ (Below.refl _ _) rfl
    refine ObsT.cons (k' := 14) rfl ?_ ?_
    · intro fa W hW hSame hRR KK hKK
      try dsimp only at hW
      obtain ⟨fv6, ft6, fm6⟩ := hRR 6 _ 9 rfl rfl (by kernel_rfl) (by kernel_rfl)
      replace fm6 : fv6 = Value.string (R1 ++ ⟨#[32, 47, 32]⟩) := fm6
      subst fm6
      obtain ⟨fv12, ft12, fm12⟩ := hRR 12 _ 15 rfl rfl (by kernel_rfl) (by kernel_rfl)
      replace fm12 : fv12 = Value.string R2 := fm12
      subst fm12
      replace hKK : ∀ v w', Below W.heap.size W w' → v = Value.string (R1 ++ ⟨#[32, 47, 32]⟩ ++ R2) → KK (Act.put fa _ v) w' := fun v w' h1 h2 => hKK v w' h1 h2
      have hz : ¬ 9223372036854775807 < R1.size + 3 + R2.size := by omega
      clear hSame hRR
      rw [if_pos (wanted_plain rfl)]
      go_simp
      refine hKK _ _ ?_ ?_
      · first | exact Below.refl _ _ | exact (Below.refl _ _).alloc (Nat.le_refl _) _ | exact below_draw _ _ | assumption
      · exact rfl
    refine ObsT.cons (k' := 15) rfl ?_ ?_
    · intro fa W hW hSame hRR KK hKK
      try dsimp only at hW
      obtain ⟨fv13, ft13, fm13⟩ := hRR 13 _ 16 rfl rfl (by kernel_rfl) (by kernel_rfl)
      replace fm13 : fv13 = Value.string (R1 ++ ⟨#[32, 47, 32]⟩ ++ R2) := fm13
      subst fm13
      replace hKK : ∀ v w', Below W.heap.size W w' → v = Value.string (R1 ++ ⟨#[32, 47, 32]⟩ ++ R2) → KK (Act.put fa _ v) w' := fun v w' h1 h2 => hKK v w' h1 h2
      clear hSame hRR
      rw [if_pos (wanted_plain rfl)]
      go_simp
      refine hKK _ _ ?_ ?_
      · first | exact Below.refl _ _ | exact (Below.refl _ _).alloc (Nat.le_refl _) _ | exact below_draw _ _ | assumption
      · exact rfl
    exact ObsT.nil
  case hlast =>
    intro fa w2 d2 hSame hRR
    try dsimp only at d2
    obtain ⟨zz14, f2, rfl⟩ := hRR 14 _ 2 rfl rfl rfl
    rw [Same_shape hSame]
    simp only [List.filterMap_cons, List.filterMap_nil, List.foldl_cons, List.foldl_nil]
    have g2 : fa.tmps.getD 2 undef = Value.string (R1 ++ ⟨#[32, 47, 32]⟩ ++ R2) := by simp [Array.getD_eq_getD_getElem?, f2]
    rw [g2]
    generalize fa.tmps.getD 3 undef = y3
    generalize fa.tmps.getD 4 undef = y4
    generalize fa.tmps.getD 5 undef = y5
    generalize fa.tmps.getD 6 undef = y6
    generalize fa.tmps.getD 7 undef = y7
    generalize fa.tmps.getD 8 undef = y8
    generalize fa.tmps.getD 9 undef = y9
    generalize fa.tmps.getD 10 undef = y10
    generalize fa.tmps.getD 11 undef = y11
    generalize fa.tmps.getD 12 undef = y12
    generalize fa.tmps.getD 13 undef = y13
    generalize fa.tmps.getD 14 undef = y14
    generalize fa.tmps.getD 15 undef = y15
    generalize fa.tmps.getD 16 undef = y16
    clear hSame hRR f2 g2
    simp only [Act.put, List.setIfInBounds_toArray, List.set_cons_succ, List.set_cons_zero]
    have B2 := Lib.hid (below_step B1.out d2)
    go_wp2_with fail
    go_ret
    exact ⟨rfl, B2.out⟩
set_option maxHeartbeats 4000000 in
set_option maxRecDepth 100000 in
theorem aboth_no1 (k a b c d : Int) (x : ByteArray) (a' b' c' d' : Int) (x' : ByteArray) (w : World) (ha : An.bd a) (hb : An.bd b) (hc : An.bd c) (hd : An.bd d) (hx : x.size ≤ 1000000) (ha' : An.bd a') (hb' : An.bd b') (hc' : An.bd c') (hd' : An.bd d') (hx' : x'.size ≤ 1000000) (T : Lib.TabIs Tryz.prog w "internal/strconv.uint64pow10" .u64 Lib.pow10Tab) (h1 : (An.inf (a, b, c, d, x)).2 ≠ 0) :
    Calls Tryz.prog 25 #[.agg #[.int .i64 k, .int .i64 a, .int .i64 b, .int .i64 c, .int .i64 d, .string x, .int .i64 a', .int .i64 b', .int .i64 c', .int .i64 d', .string x']] w fun e w' => e = .panicked (gvP (An.inf (a, b, c, d, x)).2) ∧ Below w.heap.size w w' := by
  have IA := Lib.hid (fun W T => ainfo_any a b c d x W ha hb hc hd hx T)
  have IB := Lib.hid (fun W T => ainfo_any a' b' c' d' x' W ha' hb' hc' hd' hx' T)
  have TT := Lib.hid T
  have z1 := An.inf_len a b c d x ha hb hc hd
  have z2 := An.inf_len a' b' c' d' x' ha' hb' hc' hd'
  generalize (⟨(An.inf (a, b, c, d, x)).1.toArray⟩ : ByteArray) = R1 at *
  generalize (⟨(An.inf (a', b', c', d', x')).1.toArray⟩ : ByteArray) = R2 at *
  generalize (An.inf (a, b, c, d, x)).2 = y1 at *
  generalize (An.inf (a', b', c', d', x')).2 = y2 at *
  have z1 : R1.size ≤ 2000000 := by omega
  have z2 : R2.size ≤ 2000000 := by omega
  clear ha hb hc hd hx ha' hb' hc' hd' hx' T
  go_enter Tryz.func25, Tryz.ntmps25
  go_upto_region 1 with (fail)
  refine wp_named ?_; intro w1 hw1
  have d1 : Below w.heap.size w w1 := by rw [hw1]; exact (by repeat (first | exact Below.refl _ _ | refine _root_.Go.below_drewN ?_ _ | refine Below.drew ?_ | refine Below.setCell ?_ (by first | (simp; done) | (simp; omega) | omega) _ | refine Below.alloc ?_ (by first | (simp; done) | (simp; omega) | omega) _))
  have B1 := Lib.hid d1
  have T1 := Lib.hid (var_keep d1 TT.out)
  have X1 : Bk11 w1 w.heap.size (.int .i64 k) (.int .i64 a) (.int .i64 b) (.int .i64 c) (.int .i64 d) (.string x) (.int .i64 a') (.int .i64 b') (.int .i64 c') (.int .i64 d') (.string x') := by rw [hw1]; exact ⟨by simp <;> omega, by intro j; simp [go_sem], by simp [go_sem], by simp [go_sem], by simp [go_sem], by simp [go_sem], by simp [go_sem], by simp [go_sem], by simp [go_sem], by simp [go_sem], by simp [go_sem], by simp [go_sem], by simp [go_sem]⟩
  clear d1 hw1 TT
  refine wp_region_till (R := markR [(fun v _ => v = Value.pointer (some ⟨w.heap.size, 1, none⟩)), (fun v _ => v = Value.agg #[.int .i64 a, .int .i64 b, .int .i64 c, .int .i64 d, .string x]), (fun v _ => v = Value.tuple #[.string R1, .int .i64 y1]), (fun v _ => v = Value.string R1), (fun v _ => v = Value.int .i64 y1), (fun _ _ => False), (fun _ _ => False), (fun v _ => v = Value.pointer (some ⟨w.heap.size, 6, none⟩)), (fun v _ => v = Value.agg #[.int .i64 a', .int .i64 b', .int .i64 c', .int .i64 d', .string x']), (fun _ _ => False), (fun _ _ => False), (fun _ _ => False), (fun _ _ => False), (fun _ _ => False), (fun _ _ => False)]) (till := fun _ => none) (D := fun W => Below w1.heap.size w1 W) (G := fun _ W W' => Below W.heap.size W W') (by rfl) ?hbeg ⟨by kernel_rfl, by kernel_rfl, by kernel_rfl, ?hkeep, ?hstab, ObsT.all ?hobs, ?hlast⟩
  case hbeg => exact (Below.refl _ _).drew
  case hkeep => intro i w1 w2 hC hG; exact below_step hC hG
  case hstab =>
    intro i j hij ht v w1 w2 hG hm
    match j, hm with
    | 0, hm => exact hm
    | 1, hm => exact hm
    | 2, hm => exact hm
    | 3, hm => exact hm
    | 4, hm => exact hm
    | 5, hm => exact hm
    | 6, hm => exact hm
    | 7, hm => exact hm
    | 8, hm => exact hm
    | 9, hm => exact hm
    | 10, hm => exact hm
    | 11, hm => exact hm
    | 12, hm => exact hm
    | 13, hm => exact hm
    | 14, hm => exact hm
    | j + 15, hm => exact trivial
  case hobs =>
    refine ObsT.cons (k' := 1) rfl ?_ ?_
    · intro fa W hW hSame hRR KK hKK
      try dsimp only at hW
      have fb1 : fa.tmps[1]? = some (Value.pointer (some ⟨w.heap.size, 0, none⟩)) := (hSame.base 1 (by kernel_rfl)).trans (by kernel_rfl)
      replace hKK : ∀ v w', Below W.heap.size W w' → v = Value.pointer (some ⟨w.heap.size, 1, none⟩) → KK (Act.put fa _ v) w' := fun v w' h1 h2 => hKK v w' h1 h2
      have hX := X1.keep hW
      have chb := hX.hb
      have cfz := hX.fz
      have ck0 := hX.k0
      have ck1 := hX.k1
      have ck2 := hX.k2
      have ck3 := hX.k3
      have ck4 := hX.k4
      have ck5 := hX.k5
      have ck6 := hX.k6
      have ck7 := hX.k7
      have ck8 := hX.k8
      have ck9 := hX.k9
      have ck10 := hX.k10
      clear hSame hRR
      rw [if_pos (wanted_plain rfl)]
      go_simp
      refine hKK _ _ ?_ ?_
      · first | exact Below.refl _ _ | exact (Below.refl _ _).alloc (Nat.le_refl _) _ | exact below_draw _ _ | assumption
      · exact rfl
    refine ObsT.cons (k' := 2) rfl ?_ ?_
    · intro fa W hW hSame hRR KK hKK
      try dsimp only at hW
      obtain ⟨fv0, ft0, fm0⟩ := hRR 0 _ 3 rfl rfl (by kernel_rfl) (by kernel_rfl)
      replace fm0 : fv0 = Value.pointer (some ⟨w.heap.size, 1, none⟩) := fm0
      subst fm0
      replace hKK : ∀ v w', Below W.heap.size W w' → v = Value.agg #[.int .i64 a, .int .i64 b, .int .i64 c, .int .i64 d, .string x] → KK (Act.put fa _ v) w' := fun v w' h1 h2 => hKK v w' h1 h2
      have hX := X1.keep hW
      have chb := hX.hb
      have cfz := hX.fz
      have ck0 := hX.k0
      have ck1 := hX.k1
      have ck2 := hX.k2
      have ck3 := hX.k3
      have ck4 := hX.k4
      have ck5 := hX.k5
      have ck6 := hX.k6
      have ck7 := hX.k7
      have ck8 := hX.k8
      have ck9 := hX.k9
      have ck10 := hX.k10
      clear hSame hRR
      rw [if_pos (wanted_plain rfl)]
      go_simp
      refine hKK _ _ ?_ ?_
      · first | exact Below.refl _ _ | exact (Below.refl _ _).alloc (Nat.le_refl _) _ | exact below_draw _ _ | assumption
      · exact rfl
    refine ObsT.cons (k' := 3) rfl ?_ ?_
    · intro fa W hW hSame hRR KK hKK
      try dsimp only at hW
      obtain ⟨fv1, ft1, fm1⟩ := hRR 1 _ 4 rfl rfl (by kernel_rfl) (by kernel_rfl)
      replace fm1 : fv1 = Value.agg #[.int .i64 a, .int .i64 b, .int .i64 c, .int .i64 d, .string x] := fm1
      subst fm1
      replace hKK : ∀ v w', Below W.heap.size W w' → v = Value.tuple #[.string R1, .int .i64 y1] → KK (Act.put fa _ v) w' := fun v w' h1 h2 => hKK v w' h1 h2
      clear hSame hRR
      rw [if_pos (wanted_plain rfl)]
      go_simp
      refine (IA.out _ (var_keep hW T1.out)).mono ?_; rintro e w' ⟨rfl, hb⟩
      exact hKK _ _ hb rfl
    refine ObsT.cons (k' := 4) rfl ?_ ?_
    · intro fa W hW hSame hRR KK hKK
      try dsimp only at hW
      obtain ⟨fv2, ft2, fm2⟩ := hRR 2 _ 5 rfl rfl (by kernel_rfl) (by kernel_rfl)
      replace fm2 : fv2 = Value.tuple #[.string R1, .int .i64 y1] := fm2
      subst fm2
      replace hKK : ∀ v w', Below W.heap.size W w' → v = Value.string R1 → KK (Act.put fa _ v) w' := fun v w' h1 h2 => hKK v w' h1 h2
      clear hSame hRR
      rw [if_pos (wanted_plain rfl)]
      go_simp
      refine hKK _ _ ?_ ?_
      · first | exact Below.refl _ _ | exact (Below.refl _ _).alloc (Nat.le_refl _) _ | exact below_draw _ _ | assumption
      · exact rfl
    refine ObsT.cons (k' := 5) rfl ?_ ?_
    · intro fa W hW hSame hRR KK hKK
      try dsimp only at hW
      obtain ⟨fv2, ft2, fm2⟩ := hRR 2 _ 5 rfl rfl (by kernel_rfl) (by kernel_rfl)
      replace fm2 : fv2 = Value.tuple #[.string R1, .int .i64 y1] := fm2
      subst fm2
      replace hKK : ∀ v w', Below W.heap.size W w' → v = Value.int .i64 y1 → KK (Act.put fa _ v) w' := fun v w' h1 h2 => hKK v w' h1 h2
      clear hSame hRR
      rw [if_pos (wanted_plain rfl)]
      go_simp
      refine hKK _ _ ?_ ?_
      · first | exact Below.refl _ _ | exact (Below.refl _ _).alloc (Nat.le_refl _) _ | exact below_draw _ _ | assumption
      · exact rfl
    refine ObsT.cons (k' := 6) rfl ?_ ?_
    · intro fa W hW hSame hRR KK hKK
      try dsimp only at hW
      obtain ⟨fv3, ft3, fm3⟩ := hRR 3 _ 6 rfl rfl (by kernel_rfl) (by kernel_rfl)
      replace fm3 : fv3 = Value.string R1 := fm3
      subst fm3
      obtain ⟨fv4, ft4, fm4⟩ := hRR 4 _ 7 rfl rfl (by kernel_rfl) (by kernel_rfl)
      replace fm4 : fv4 = Value.int .i64 y1 := fm4
      subst fm4
      replace hKK : ∀ v w', Below W.heap.size W w' → (fun _ _ => False) v w' → KK (Act.put fa _ v) w' := fun v w' h1 h2 => hKK v w' h1 h2
      have hdf : fa.defers = [] := hSame.defers
      clear hSame hRR
      rw [if_pos (wanted_plain rfl)]
      go_simp
      refine (musts_no _ _ _ h1).mono ?_; rintro e w' ⟨rfl, rfl⟩
      simp +zetaDelta only [Exit.then, bodyPost]
      exact ⟨hdf, by first | rfl | trivial, below_step B1.out hW⟩
    refine ObsT.cons (k' := 7) rfl ?_ ?_
    · intro fa W hW hSame hRR KK hKK
      try dsimp only at hW
      obtain ⟨fv5, ft5, hF5⟩ := hRR 5 _ 8 rfl rfl (by kernel_rfl) (by kernel_rfl)
      replace hKK : ∀ v w', Below W.heap.size W w' → (fun _ _ => False) v w' → KK (Act.put fa _ v) w' := fun v w' h1 h2 => hKK v w' h1 h2
      clear hSame hRR
      exact hF5.elim
    refine ObsT.cons (k' := 8) rfl ?_ ?_
    · intro fa W hW hSame hRR KK hKK
      try dsimp only at hW
      have fb1 : fa.tmps[1]? = some (Value.pointer (some ⟨w.heap.size, 0, none⟩)) := (hSame.base 1 (by kernel_rfl)).trans (by kernel_rfl)
      replace hKK : ∀ v w', Below W.heap.size W w' → v = Value.pointer (some ⟨w.heap.size, 6, none⟩) → KK (Act.put fa _ v) w' := fun v w' h1 h2 => hKK v w' h1 h2
      have hX := X1.keep hW
      have chb := hX.hb
      have cfz := hX.fz
      have ck0 := hX.k0
      have ck1 := hX.k1
      have ck2 := hX.k2
      have ck3 := hX.k3
      have ck4 := hX.k4
      have ck5 := hX.k5
      have ck6 := hX.k6
      have ck7 := hX.k7
      have ck8 := hX.k8
      have ck9 := hX.k9
      have ck10 := hX.k10
      clear hSame hRR
      rw [if_pos (wanted_plain rfl)]
      go_simp
      refine hKK _ _ ?_ ?_
      · first | exact Below.refl _ _ | exact (Below.refl _ _).alloc (Nat.le_refl _) _ | exact below_draw _ _ | assumption
      · exact rfl
    refine ObsT.cons (k' := 9) rfl ?_ ?_
    · intro fa W hW hSame hRR KK hKK
      try dsimp only at hW
      obtain ⟨fv7, ft7, fm7⟩ := hRR 7 _ 10 rfl rfl (by kernel_rfl) (by kernel_rfl)
      replace fm7 : fv7 = Value.pointer (some ⟨w.heap.size, 6, none⟩) := fm7
      subst fm7
      replace hKK : ∀ v w', Below W.heap.size W w' → v = Value.agg #[.int .i64 a', .int .i64 b', .int .i64 c', .int .i64 d', .string x'] → KK (Act.put fa _ v) w' := fun v w' h1 h2 => hKK v w' h1 h2
      have hX := X1.keep hW
      have chb := hX.hb
      have cfz := hX.fz
      have ck0 := hX.k0
      have ck1 := hX.k1
      have ck2 := hX.k2
      have ck3 := hX.k3
      have ck4 := hX.k4
      have ck5 := hX.k5
      have ck6 := hX.k6
      have ck7 := hX.k7
      have ck8 := hX.k8
      have ck9 := hX.k9
      have ck10 := hX.k10
      clear hSame hRR
      rw [if_pos (wanted_plain rfl)]
      go_simp
      refine hKK _ _ ?_ ?_
      · first | exact Below.refl _ _ | exact (Below.refl _ _).alloc (Nat.le_refl _) _ | exact below_draw _ _ | assumption
      · exact rfl
    refine ObsT.cons (k' := 10) rfl ?_ ?_
    · intro fa W hW hSame hRR KK hKK
      try dsimp only at hW
      obtain ⟨fv5, ft5, hF5⟩ := hRR 5 _ 8 rfl rfl (by kernel_rfl) (by kernel_rfl)
      replace hKK : ∀ v w', Below W.heap.size W w' → (fun _ _ => False) v w' → KK (Act.put fa _ v) w' := fun v w' h1 h2 => hKK v w' h1 h2
      clear hSame hRR
      exact hF5.elim
    refine ObsT.cons (k' := 11) rfl ?_ ?_
    · intro fa W hW hSame hRR KK hKK
      try dsimp only at hW
      obtain ⟨fv9, ft9, hF9⟩ := hRR 9 _ 12 rfl rfl (by kernel_rfl) (by kernel_rfl)
      replace hKK : ∀ v w', Below W.heap.size W w' → (fun _ _ => False) v w' → KK (Act.put fa _ v) w' := fun v w' h1 h2 => hKK v w' h1 h2
      clear hSame hRR
      exact hF9.elim
    refine ObsT.cons (k' := 12) rfl ?_ ?_
    · intro fa W hW hSame hRR KK hKK
      try dsimp only at hW
      obtain ⟨fv9, ft9, hF9⟩ := hRR 9 _ 12 rfl rfl (by kernel_rfl) (by kernel_rfl)
      replace hKK : ∀ v w', Below W.heap.size W w' → (fun _ _ => False) v w' → KK (Act.put fa _ v) w' := fun v w' h1 h2 => hKK v w' h1 h2
      clear hSame hRR
      exact hF9.elim
    refine ObsT.cons (k' := 13) rfl ?_ ?_
    · intro fa W hW hSame hRR KK hKK
      try dsimp only at hW
      obtain ⟨fv10, ft10, hF10⟩ := hRR 10 _ 13 rfl rfl (by kernel_rfl) (by kernel_rfl)
      replace hKK : ∀ v w', Below W.heap.size W w' → (fun _ _ => False) v w' → KK (Act.put fa _ v) w' := fun v w' h1 h2 => hKK v w' h1 h2
      clear hSame hRR
      exact hF10.elim
    refine ObsT.cons (k' := 14) rfl ?_ ?_
    · intro fa W hW hSame hRR KK hKK
      try dsimp only at hW
      obtain ⟨fv12, ft12, hF12⟩ := hRR 12 _ 15 rfl rfl (by kernel_rfl) (by kernel_rfl)
      replace hKK : ∀ v w', Below W.heap.size W w' → (fun _ _ => False) v w' → KK (Act.put fa _ v) w' := fun v w' h1 h2 => hKK v w' h1 h2
      clear hSame hRR
      exact hF12.elim
    refine ObsT.cons (k' := 15) rfl ?_ ?_
    · intro fa W hW hSame hRR KK hKK
      try dsimp only at hW
      obtain ⟨fv13, ft13, hF13⟩ := hRR 13 _ 16 rfl rfl (by kernel_rfl) (by kernel_rfl)
      replace hKK : ∀ v w', Below W.heap.size W w' → (fun _ _ => False) v w' → KK (Act.put fa _ v) w' := fun v w' h1 h2 => hKK v w' h1 h2
      clear hSame hRR
      exact hF13.elim
    exact ObsT.nil
  case hlast =>
    intro fa w2 d2 hSame hRR
    obtain ⟨_, _, hF⟩ := hRR 14 _ 2 rfl rfl rfl
    exact hF.elim
set_option maxHeartbeats 4000000 in
set_option maxRecDepth 100000 in
theorem aboth_no2 (k a b c d : Int) (x : ByteArray) (a' b' c' d' : Int) (x' : ByteArray) (w : World) (ha : An.bd a) (hb : An.bd b) (hc : An.bd c) (hd : An.bd d) (hx : x.size ≤ 1000000) (ha' : An.bd a') (hb' : An.bd b') (hc' : An.bd c') (hd' : An.bd d') (hx' : x'.size ≤ 1000000) (T : Lib.TabIs Tryz.prog w "internal/strconv.uint64pow10" .u64 Lib.pow10Tab) (h1 : (An.inf (a, b, c, d, x)).2 = 0) (h2 : (An.inf (a', b', c', d', x')).2 ≠ 0) :
    Calls Tryz.prog 25 #[.agg #[.int .i64 k, .int .i64 a, .int .i64 b, .int .i64 c, .int .i64 d, .string x, .int .i64 a', .int .i64 b', .int .i64 c', .int .i64 d', .string x']] w fun e w' => e = .panicked (gvP (An.inf (a', b', c', d', x')).2) ∧ Below w.heap.size w w' := by
  have IA := Lib.hid (fun W T => ainfo_any a b c d x W ha hb hc hd hx T)
  have IB := Lib.hid (fun W T => ainfo_any a' b' c' d' x' W ha' hb' hc' hd' hx' T)
  have TT := Lib.hid T
  rw [h1] at IA
  have z1 := An.inf_len a b c d x ha hb hc hd
  have z2 := An.inf_len a' b' c' d' x' ha' hb' hc' hd'
  generalize (⟨(An.inf (a, b, c, d, x)).1.toArray⟩ : ByteArray) = R1 at *
  generalize (⟨(An.inf (a', b', c', d', x')).1.toArray⟩ : ByteArray) = R2 at *
  generalize (An.inf (a', b', c', d', x')).2 = y2 at *
  have z1 : R1.size ≤ 2000000 := by omega
  have z2 : R2.size ≤ 2000000 := by omega
  clear ha hb hc hd hx ha' hb' hc' hd' hx' T h1
  go_enter Tryz.func25, Tryz.ntmps25
  go_upto_region 1 with (fail)
  refine wp_named ?_; intro w1 hw1
  have d1 : Below w.heap.size w w1 := by rw [hw1]; exact (by repeat (first | exact Below.refl _ _ | refine _root_.Go.below_drewN ?_ _ | refine Below.drew ?_ | refine Below.setCell ?_ (by first | (simp; done) | (simp; omega) | omega) _ | refine Below.alloc ?_ (by first | (simp; done) | (simp; omega) | omega) _))
  have B1 := Lib.hid d1
  have T1 := Lib.hid (var_keep d1 TT.out)
  have X1 : Bk11 w1 w.heap.size (.int .i64 k) (.int .i64 a) (.int .i64 b) (.int .i64 c) (.int .i64 d) (.string x) (.int .i64 a') (.int .i64 b') (.int .i64 c') (.int .i64 d') (.string x') := by rw [hw1]; exact ⟨by simp <;> omega, by intro j; simp [go_sem], by simp [go_sem], by simp [go_sem], by simp [go_sem], by simp [go_sem], by simp [go_sem], by simp [go_sem], by simp [go_sem], by simp [go_sem], by simp [go_sem], by simp [go_sem], by simp [go_sem]⟩
  clear d1 hw1 TT
  refine wp_region_till (R := markR [(fun v _ => v = Value.pointer (some ⟨w.heap.size, 1, none⟩)), (fun v _ => v = Value.agg #[.int .i64 a, .int .i64 b, .int .i64 c, .int .i64 d, .string x]), (fun v _ => v = Value.tuple #[.string R1, .int .i64 0]), (fun v _ => v = Value.string R1), (fun v _ => v = Value.int .i64 0), (fun v _ => v = Value.string R1), (fun v _ => v = Value.string (R1 ++ ⟨#[32, 47, 32]⟩)), (fun v _ => v = Value.pointer (some ⟨w.heap.size, 6, none⟩)), (fun v _ => v = Value.agg #[.int .i64 a', .int .i64 b', .int .i64 c', .int .i64 d', .string x']), (fun v _ => v = Value.tuple #[.string R2, .int .i64 y2]), (fun v _ => v = Value.string R2), (fun v _ => v = Value.int .i64 y2), (fun _ _ => False), (fun _ _ => False), (fun _ _ => False)]) (till := fun _ => none) (D := fun W => Below w1.heap.size w1 W) (G := fun _ W W' => Below W.heap.size W W') (by rfl) ?hbeg ⟨by kernel_rfl, by kernel_rfl, by kernel_rfl, ?hkeep, ?hstab, ObsT.all ?hobs, ?hlast⟩
  case hbeg => exact (Below.refl _ _).drew
  case hkeep => intro i w1 w2 hC hG; exact below_step hC hG
  case hstab =>
    intro i j hij ht v w1 w2 hG hm
    match j, hm with
    | 0, hm => exact hm
    | 1, hm => exact hm
    | 2, hm => exact hm
    | 3, hm => exact hm
    | 4, hm => exact hm
    | 5, hm => exact hm
    | 6, hm => exact hm
    | 7, hm => exact hm
    | 8, hm => exact hm
    | 9, hm => exact hm
    | 10, hm => exact hm
    | 11, hm => exact hm
    | 12, hm => exact hm
    | 13, hm => exact hm
    | 14, hm => exact hm
    | j + 15, hm => exact trivial
  case hobs =>
    refine ObsT.cons (k' := 1) rfl ?_ ?_
    · intro fa W hW hSame hRR KK hKK
      try dsimp only at hW
      have fb1 : fa.tmps[1]? = some (Value.pointer (some ⟨w.heap.size, 0, none⟩)) := (hSame.base 1 (by kernel_rfl)).trans (by kernel_rfl)
      replace hKK : ∀ v w', Below W.heap.size W w' → v = Value.pointer (some ⟨w.heap.size, 1, none⟩) → KK (Act.put fa _ v) w' := fun v w' h1 h2 => hKK v w' h1 h2
      have hX := X1.keep hW
      have chb := hX.hb
      have cfz := hX.fz
      have ck0 := hX.k0
      have ck1 := hX.k1
      have ck2 := hX.k2
      have ck3 := hX.k3
      have ck4 := hX.k4
      have ck5 := hX.k5
      have ck6 := hX.k6
      have ck7 := hX.k7
      have ck8 := hX.k8
      have ck9 := hX.k9
      have ck10 := hX.k10
      clear hSame hRR
      rw [if_pos (wanted_plain rfl)]
      go_simp
      refine hKK _ _ ?_ ?_
      · first | exact Below.refl _ _ | exact (Below.refl _ _).alloc (Nat.le_refl _) _ | exact below_draw _ _ | assumption
      · exact rfl
    refine ObsT.cons (k' := 2) rfl ?_ ?_
    · intro fa W hW hSame hRR KK hKK
      try dsimp only at hW
      obtain ⟨fv0, ft0, fm0⟩ := hRR 0 _ 3 rfl rfl (by kernel_rfl) (by kernel_rfl)
      replace fm0 : fv0 = Value.pointer (some ⟨w.heap.size, 1, none⟩) := fm0
      subst fm0
      replace hKK : ∀ v w', Below W.heap.size W w' → v = Value.agg #[.int .i64 a, .int .i64 b, .int .i64 c, .int .i64 d, .string x] → KK (Act.put fa _ v) w' := fun v w' h1 h2 => hKK v w' h1 h2
      have hX := X1.keep hW
      have chb := hX.hb
      have cfz := hX.fz
      have ck0 := hX.k0
      have ck1 := hX.k1
      have ck2 := hX.k2
      have ck3 := hX.k3
      have ck4 := hX.k4
      have ck5 := hX.k5
      have ck6 := hX.k6
      have ck7 := hX.k7
      have ck8 := hX.k8
      have ck9 := hX.k9
      have ck10 := hX.k10
      clear hSame hRR
      rw [if_pos (wanted_plain rfl)]
      go_simp
      refine hKK _ _ ?_ ?_
      · first | exact Below.refl _ _ | exact (Below.refl _ _).alloc (Nat.le_refl _) _ | exact below_draw _ _ | assumption
      · exact rfl
    refine ObsT.cons (k' := 3) rfl ?_ ?_
    · intro fa W hW hSame hRR KK hKK
      try dsimp only at hW
      obtain ⟨fv1, ft1, fm1⟩ := hRR 1 _ 4 rfl rfl (by kernel_rfl) (by kernel_rfl)
      replace fm1 : fv1 = Value.agg #[.int .i64 a, .int .i64 b, .int .i64 c, .int .i64 d, .string x] := fm1
      subst fm1
      replace hKK : ∀ v w', Below W.heap.size W w' → v = Value.tuple #[.string R1, .int .i64 0] → KK (Act.put fa _ v) w' := fun v w' h1 h2 => hKK v w' h1 h2
      clear hSame hRR
      rw [if_pos (wanted_plain rfl)]
      go_simp
      refine (IA.out _ (var_keep hW T1.out)).mono ?_; rintro e w' ⟨rfl, hb⟩
      exact hKK _ _ hb rfl
    refine ObsT.cons (k' := 4) rfl ?_ ?_
    · intro fa W hW hSame hRR KK hKK
      try dsimp only at hW
      obtain ⟨fv2, ft2, fm2⟩ := hRR 2 _ 5 rfl rfl (by kernel_rfl) (by kernel_rfl)
      replace fm2 : fv2 = Value.tuple #[.string R1, .int .i64 0] := fm2
      subst fm2
      replace hKK : ∀ v w', Below W.heap.size W w' → v = Value.string R1 → KK (Act.put fa _ v) w' := fun v w' h1 h2 => hKK v w' h1 h2
      clear hSame hRR
      rw [if_pos (wanted_plain rfl)]
      go_simp
      refine hKK _ _ ?_ ?_
      · first | exact Below.refl _ _ | exact (Below.refl _ _).alloc (Nat.le_refl _) _ | exact below_draw _ _ | assumption
      · exact rfl
    refine ObsT.cons (k' := 5) rfl ?_ ?_
    · intro fa W hW hSame hRR KK hKK
      try dsimp only at hW
      obtain ⟨fv2, ft2, fm2⟩ := hRR 2 _ 5 rfl rfl (by kernel_rfl) (by kernel_rfl)
      replace fm2 : fv2 = Value.tuple #[.string R1, .int .i64 0] := fm2
      subst fm2
      replace hKK : ∀ v w', Below W.heap.size W w' → v = Value.int .i64 0 → KK (Act.put fa _ v) w' := fun v w' h1 h2 => hKK v w' h1 h2
      clear hSame hRR
      rw [if_pos (wanted_plain rfl)]
      go_simp
      refine hKK _ _ ?_ ?_
      · first | exact Below.refl _ _ | exact (Below.refl _ _).alloc (Nat.le_refl _) _ | exact below_draw _ _ | assumption
      · exact rfl
    refine ObsT.cons (k' := 6) rfl ?_ ?_
    · intro fa W hW hSame hRR KK hKK
      try dsimp only at hW
      obtain ⟨fv3, ft3, fm3⟩ := hRR 3 _ 6 rfl rfl (by kernel_rfl) (by kernel_rfl)
      replace fm3 : fv3 = Value.string R1 := fm3
      subst fm3
      obtain ⟨fv4, ft4, fm4⟩ := hRR 4 _ 7 rfl rfl (by kernel_rfl) (by kernel_rfl)
      replace fm4 : fv4 = Value.int .i64 0 := fm4
      subst fm4
      replace hKK : ∀ v w', Below W.heap.size W w' → v = Value.string R1 → KK (Act.put fa _ v) w' := fun v w' h1 h2 => hKK v w' h1 h2
      clear hSame hRR
      rw [if_pos (wanted_plain rfl)]
      go_simp
      refine (musts_yes _ _).mono ?_; rintro e w' ⟨rfl, rfl⟩
      exact hKK _ _ (Below.refl _ _) rfl
    refine ObsT.cons (k' := 7) rfl ?_ ?_
    · intro fa W hW hSame hRR KK hKK
      try dsimp only at hW
      obtain ⟨fv5, ft5, fm5⟩ := hRR 5 _ 8 rfl rfl (by kernel_rfl) (by kernel_rfl)
      replace fm5 : fv5 = Value.string R1 := fm5
      subst fm5
      replace hKK : ∀ v w', Below W.heap.size W w' → v = Value.string (R1 ++ ⟨#[32, 47, 32]⟩) → KK (Act.put fa _ v) w' := fun v w' h1 h2 => hKK v w' h1 h2
      have hz : ¬ 9223372036854775807 < R1.size + 3 := by omega
      clear hSame hRR
      rw [if_pos (wanted_plain rfl)]
      go_simp
      refine hKK _ _ ?_ ?_
      · first | exact Below.refl _ _ | exact (Below.refl _ _).alloc (Nat.le_refl _) _ | exact below_draw _ _ | assumption
      · exact rfl
    refine ObsT.cons (k' := 8) rfl ?_ ?_
    · intro fa W hW hSame hRR KK hKK
      try dsimp only at hW
      have fb1 : fa.tmps[1]? = some (Value.pointer (some ⟨w.heap.size, 0, none⟩)) := (hSame.base 1 (by kernel_rfl)).trans (by kernel_rfl)
      replace hKK : ∀ v w', Below W.heap.size W w' → v = Value.pointer (some ⟨w.heap.size, 6, none⟩) → KK (Act.put fa _ v) w' := fun v w' h1 h2 => hKK v w' h1 h2
      have hX := X1.keep hW
      have chb := hX.hb
      have cfz := hX.fz
      have ck0 := hX.k0
      have ck1 := hX.k1
      have ck2 := hX.k2
      have ck3 := hX.k3
      have ck4 := hX.k4
      have ck5 := hX.k5
      have ck6 := hX.k6
      have ck7 := hX.k7
      have ck8 := hX.k8
      have ck9 := hX.k9
      have ck10 := hX.k10
      clear hSame hRR
      rw [if_pos (wanted_plain rfl)]
      go_simp
      refine hKK _ _ ?_ ?_
      · first | exact Below.refl _ _ | exact (Below.refl _ _).alloc (Nat.le_refl _) _ | exact below_draw _ _ | assumption
      · exact rfl
    refine ObsT.cons (k' := 9) rfl ?_ ?_
    · intro fa W hW hSame hRR KK hKK
      try dsimp only at hW
      obtain ⟨fv7, ft7, fm7⟩ := hRR 7 _ 10 rfl rfl (by kernel_rfl) (by kernel_rfl)
      replace fm7 : fv7 = Value.pointer (some ⟨w.heap.size, 6, none⟩) := fm7
      subst fm7
      replace hKK : ∀ v w', Below W.heap.size W w' → v = Value.agg #[.int .i64 a', .int .i64 b', .int .i64 c', .int .i64 d', .string x'] → KK (Act.put fa _ v) w' := fun v w' h1 h2 => hKK v w' h1 h2
      have hX := X1.keep hW
      have chb := hX.hb
      have cfz := hX.fz
      have ck0 := hX.k0
      have ck1 := hX.k1
      have ck2 := hX.k2
      have ck3 := hX.k3
      have ck4 := hX.k4
      have ck5 := hX.k5
      have ck6 := hX.k6
      have ck7 := hX.k7
      have ck8 := hX.k8
      have ck9 := hX.k9
      have ck10 := hX.k10
      clear hSame hRR
      rw [if_pos (wanted_plain rfl)]
      go_simp
      refine hKK _ _ ?_ ?_
      · first | exact Below.refl _ _ | exact (Below.refl _ _).alloc (Nat.le_refl _) _ | exact below_draw _ _ | assumption
      · exact rfl
    refine ObsT.cons (k' := 10) rfl ?_ ?_
    · intro fa W hW hSame hRR KK hKK
      try dsimp only at hW
      obtain ⟨fv8, ft8, fm8⟩ := hRR 8 _ 11 rfl rfl (by kernel_rfl) (by kernel_rfl)
      replace fm8 : fv8 = Value.agg #[.int .i64 a', .int .i64 b', .int .i64 c', .int .i64 d', .string x'] := fm8
      subst fm8
      replace hKK : ∀ v w', Below W.heap.size W w' → v = Value.tuple #[.string R2, .int .i64 y2] → KK (Act.put fa _ v) w' := fun v w' h1 h2 => hKK v w' h1 h2
      clear hSame hRR
      rw [if_pos (wanted_plain rfl)]
      go_simp
      refine (IB.out _ (var_keep hW T1.out)).mono ?_; rintro e w' ⟨rfl, hb⟩
      exact hKK _ _ hb rfl
    refine ObsT.cons (k' := 11) rfl ?_ ?_
    · intro fa W hW hSame hRR KK hKK
      try dsimp only at hW
      obtain ⟨fv9, ft9, fm9⟩ := hRR 9 _ 12 rfl rfl (by kernel_rfl) (by kernel_rfl)
      replace fm9 : fv9 = Value.tuple #[.string R2, .int .i64 y2] := fm9
      subst fm9
      replace hKK : ∀ v w', Below W.heap.size W w' → v = Value.string R2 → KK (Act.put fa _ v) w' := fun v w' h1 h2 => hKK v w' h1 h2
      clear hSame hRR
      rw [if_pos (wanted_plain rfl)]
      go_simp
      refine hKK _ _ ?_ ?_
      · first | exact Below.refl _ _ | exact (Below.refl _ _).alloc (Nat.le_refl _) _ | exact below_draw _ _ | assumption
      · exact rfl
    refine ObsT.cons (k' := 12) rfl ?_ ?_
    · intro fa W hW hSame hRR KK hKK
      try dsimp only at hW
      obtain ⟨fv9, ft9, fm9⟩ := hRR 9 _ 12 rfl rfl (by kernel_rfl) (by kernel_rfl)
      replace fm9 : fv9 = Value.tuple #[.string R2, .int .i64 y2] := fm9
      subst fm9
      replace hKK : ∀ v w', Below W.heap.size W w' → v = Value.int .i64 y2 → KK (Act.put fa _ v) w' := fun v w' h1 h2 => hKK v w' h1 h2
      clear hSame hRR
      rw [if_pos (wanted_plain rfl)]
      go_simp
      refine hKK _ _ ?_ ?_
      · first | exact Below.refl _ _ | exact (Below.refl _ _).alloc (Nat.le_refl _) _ | exact below_draw _ _ | assumption
      · exact rfl
    refine ObsT.cons (k' := 13) rfl ?_ ?_
    · intro fa W hW hSame hRR KK hKK
      try dsimp only at hW
      obtain ⟨fv10, ft10, fm10⟩ := hRR 10 _ 13 rfl rfl (by kernel_rfl) (by kernel_rfl)
      replace fm10 : fv10 = Value.string R2 := fm10
      subst fm10
      obtain ⟨fv11, ft11, fm11⟩ := hRR 11 _ 14 rfl rfl (by kernel_rfl) (by kernel_rfl)
      replace fm11 : fv11 = Value.int .i64 y2 := fm11
      subst fm11
      replace hKK : ∀ v w', Below W.heap.size W w' → (fun _ _ => False) v w' → KK (Act.put fa _ v) w' := fun v w' h1 h2 => hKK v w' h1 h2
      have hdf : fa.defers = [] := hSame.defers
      clear hSame hRR
      rw [if_pos (wanted_plain rfl)]
      go_simp
      refine (musts_no _ _ _ h2).mono ?_; rintro e w' ⟨rfl, rfl⟩
      simp +zetaDelta only [Exit.then, bodyPost]
      exact ⟨hdf, by first | rfl | trivial, below_step B1.out hW⟩
    refine ObsT.cons (k' := 14) rfl ?_ ?_
    · intro fa W hW hSame hRR KK hKK
      try dsimp only at hW
      obtain ⟨fv12, ft12, hF12⟩ := hRR 12 _ 15 rfl rfl (by kernel_rfl) (by kernel_rfl)
      replace hKK : ∀ v w', Below W.heap.size W w' → (fun _ _ => False) v w' → KK (Act.put fa _ v) w' := fun v w' h1 h2 => hKK v w' h1 h2
      clear hSame hRR
      exact hF12.elim
    refine ObsT.cons (k' := 15) rfl ?_ ?_
    · intro fa W hW hSame hRR KK hKK
      try dsimp only at hW
      obtain ⟨fv13, ft13, hF13⟩ := hRR 13 _ 16 rfl rfl (by kernel_rfl) (by kernel_rfl)
      replace hKK : ∀ v w', Below W.heap.size W w' → (fun _ _ => False) v w' → KK (Act.put fa _ v) w' := fun v w' h1 h2 => hKK v w' h1 h2
      clear hSame hRR
      exact hF13.elim
    exact ObsT.nil
  case hlast =>
    intro fa w2 d2 hSame hRR
    obtain ⟨_, _, hF⟩ := hRR 14 _ 2 rfl rfl rfl
    exact hF.elim
end Go.Proofs.YtlelpeocbgjmhaaGreatDoor
