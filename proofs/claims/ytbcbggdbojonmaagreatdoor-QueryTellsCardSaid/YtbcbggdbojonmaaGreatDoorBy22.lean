/- Joined: QyO. -/
import Derived.Test.YtbcbggdbojonmaaGreatDoorBy01
import Derived.Test.YtbcbggdbojonmaaGreatDoorBy21
import Derived.Test.YtbcbggdbojonmaaGreatDoorBy14
set_option linter.unusedVariables false
set_option linter.unusedSimpArgs false
namespace Go.Proofs.YtbcbggdbojonmaaGreatDoor
open Go.RowKit Go.Sort Go.Pairs
set_option maxHeartbeats 4000000 in
set_option maxRecDepth 100000 in
theorem rqright_neg (k t n u p : Int) (z : ByteArray) (w : World) (h : k < 0) :
  Calls Tryz.prog 11 #[.agg #[.int .i64 k, .string z, .int .i64 t, .int .i64 n, .int .i64 u, .int .i64 p]] w fun e w' => e = .returned (.bool false) ∧ Below w.heap.size w w' := by
 have g0 : decide (k < 0) = true := decide_eq_true h
 go_enter Tryz.func11, Tryz.ntmps11
 go_upto_region 1 with (fail)
 refine wp_named ?_; intro w1 hw1
 have d1 : Below w.heap.size w w1 := by rw [hw1]; exact gr0
 have B1 := Lib.hid d1
 have X1 : Hid (Bk6 w1 w.heap.size (.int .i64 k) (.string z) (.int .i64 t) (.int .i64 n) (.int .i64 u) (.int .i64 p)) := Lib.hid (by rw [hw1]; exact ⟨by simp <;> omega, by intro j; simp [go_sem], by simp [go_sem], by simp [go_sem], by simp [go_sem], by simp [go_sem], by simp [go_sem], by simp [go_sem]⟩)
 clear d1 hw1
 refine wp_region_till (R := markR [(fun v _ => v = Value.pointer (some ⟨w.heap.size, 0, none⟩)), (fun v _ => v = Value.int .i64 k), (fun v _ => v = Value.bool true), (fun v _ => v = Value.bool true), (fun _ _ => True), (fun _ _ => True), (fun _ _ => True), (fun v _ => v = Value.bool true), (fun v _ => v = Value.bool true), (fun _ _ => True), (fun _ _ => True), (fun _ _ => True), (fun _ _ => True), (fun v _ => v = Value.bool true)]) (till := fun _ => none) (D := fun W => Below w1.heap.size w1 W) (G := fun _ W W' => Below W.heap.size W W') (by rfl) ?hbeg ⟨by kernel_rfl, by kernel_rfl, by kernel_rfl, ?hkeep, ?hstab, ObsT.all ?hobs, ?hlast⟩
 case hbeg => exact (Below.refl _ _).drew
 case hkeep => intro i w1 w2 hC hG; exact below_step hC hG
 case hstab =>
  intro i j hij ht v w1 w2 hG hm
  match j, hm with
  | 0, hm => exact hm
  | 1, hm => exact hm
  | 2, hm => exact hm
  | 3, hm => exact hm
  | 4, hm => exact trivial
  | 5, hm => exact trivial
  | 6, hm => exact trivial
  | 7, hm => exact hm
  | 8, hm => exact hm
  | 9, hm => exact trivial
  | 10, hm => exact trivial
  | 11, hm => exact trivial
  | 12, hm => exact trivial
  | 13, hm => exact hm
  | j + 14, hm => exact trivial
 case hobs =>
  refine ObsT.cons (k' := 1) rfl ?_ ?_
  ·
   intro fa W hW hSame hRR KK hKK
   try dsimp only at hW
   have fb1 : fa.tmps[1]? = some (Value.pointer (some ⟨w.heap.size, 0, none⟩)) := (hSame.base 1 (by kernel_rfl)).trans (by kernel_rfl)
   replace hKK : ∀ v w', Below W.heap.size W w' → v = Value.pointer (some ⟨w.heap.size, 0, none⟩) → KK (Act.put fa _ v) w' := fun v w' h1 h2 => hKK v w' h1 h2
   clear hSame hRR
   rw [if_pos (wanted_plain rfl)]
   go_simp
   refine hKK _ _ ?_ ?_
   ·
    exact grP
   ·
    exact rfl
  refine ObsT.cons (k' := 2) rfl ?_ ?_
  ·
   intro fa W hW hSame hRR KK hKK
   try dsimp only at hW
   obtain ⟨fv0, ft0, (rfl : fv0 = Value.pointer (some ⟨w.heap.size, 0, none⟩))⟩ := hRR 0 _ 5 rfl rfl (by kernel_rfl) (by kernel_rfl)
   replace hKK : ∀ v w', Below W.heap.size W w' → v = Value.int .i64 k → KK (Act.put fa _ v) w' := fun v w' h1 h2 => hKK v w' h1 h2
   have hX := X1.out.keep hW
   have tx := hX; obtain ⟨chb, cfz, ck0, ck1, ck2, ck3, ck4, ck5⟩ := tx
   clear hSame hRR
   rw [if_pos (wanted_plain rfl)]
   go_simp
   refine hKK _ _ ?_ ?_
   ·
    exact grP
   ·
    exact rfl
  refine ObsT.cons (k' := 3) rfl ?_ ?_
  ·
   intro fa W hW hSame hRR KK hKK
   try dsimp only at hW
   obtain ⟨fv1, ft1, (rfl : fv1 = Value.int .i64 k)⟩ := hRR 1 _ 6 rfl rfl (by kernel_rfl) (by kernel_rfl)
   replace hKK : ∀ v w', Below W.heap.size W w' → v = Value.bool true → KK (Act.put fa _ v) w' := fun v w' h1 h2 => hKK v w' h1 h2
   clear hSame hRR
   rw [if_pos (wanted_plain rfl)]
   go_simp
   refine hKK _ _ ?_ ?_
   ·
    exact grP
   ·
    exact rfl
  refine ObsT.cons (k' := 4) rfl ?_ ?_
  ·
   intro fa W hW hSame hRR KK hKK
   try dsimp only at hW
   obtain ⟨fv2, ft2, (rfl : fv2 = Value.bool true)⟩ := hRR 2 _ 7 rfl rfl (by kernel_rfl) (by kernel_rfl)
   replace hKK : ∀ v w', Below W.heap.size W w' → v = Value.bool true → KK (Act.put fa _ v) w' := fun v w' h1 h2 => hKK v w' h1 h2
   clear hSame hRR
   rw [if_pos (wanted_plain rfl)]
   go_simp
   refine hKK _ _ ?_ ?_
   ·
    exact grP
   ·
    exact rfl
  refine ObsT.cons (k' := 5) rfl ?_ ?_
  ·
   intro fa W hW hSame hRR KK hKK
   try dsimp only at hW
   obtain ⟨fv3, ft3, (rfl : fv3 = Value.bool true)⟩ := hRR 3 _ 8 rfl rfl (by kernel_rfl) (by kernel_rfl)
   replace hKK : ∀ v w', Below W.heap.size W w' → (fun _ _ => True) v w' → KK (Act.put fa _ v) w' := fun v w' h1 h2 => hKK v w' h1 h2
   clear hSame hRR
   rw [wanted_guard rfl rfl rfl ft3]
   rw [if_neg (by decide)]
   exact hKK _ _ (Below.refl _ _) trivial
  refine ObsT.cons (k' := 6) rfl ?_ ?_
  ·
   intro fa W hW hSame hRR KK hKK
   try dsimp only at hW
   obtain ⟨fv3, ft3, (rfl : fv3 = Value.bool true)⟩ := hRR 3 _ 8 rfl rfl (by kernel_rfl) (by kernel_rfl)
   replace hKK : ∀ v w', Below W.heap.size W w' → (fun _ _ => True) v w' → KK (Act.put fa _ v) w' := fun v w' h1 h2 => hKK v w' h1 h2
   clear hSame hRR
   rw [wanted_guard rfl rfl rfl ft3]
   rw [if_neg (by decide)]
   exact hKK _ _ (Below.refl _ _) trivial
  refine ObsT.cons (k' := 7) rfl ?_ ?_
  ·
   intro fa W hW hSame hRR KK hKK
   try dsimp only at hW
   obtain ⟨fv3, ft3, (rfl : fv3 = Value.bool true)⟩ := hRR 3 _ 8 rfl rfl (by kernel_rfl) (by kernel_rfl)
   replace hKK : ∀ v w', Below W.heap.size W w' → (fun _ _ => True) v w' → KK (Act.put fa _ v) w' := fun v w' h1 h2 => hKK v w' h1 h2
   clear hSame hRR
   rw [wanted_guard rfl rfl rfl ft3]
   rw [if_neg (by decide)]
   exact hKK _ _ (Below.refl _ _) trivial
  refine ObsT.cons (k' := 8) rfl ?_ ?_
  ·
   intro fa W hW hSame hRR KK hKK
   try dsimp only at hW
   obtain ⟨fv3, ft3, (rfl : fv3 = Value.bool true)⟩ := hRR 3 _ 8 rfl rfl (by kernel_rfl) (by kernel_rfl)
   replace hKK : ∀ v w', Below W.heap.size W w' → v = Value.bool true → KK (Act.put fa _ v) w' := fun v w' h1 h2 => hKK v w' h1 h2
   clear hSame hRR
   rw [if_pos (wanted_plain rfl)]
   go_simp
   refine hKK _ _ ?_ ?_
   ·
    exact grP
   ·
    exact rfl
  refine ObsT.cons (k' := 9) rfl ?_ ?_
  ·
   intro fa W hW hSame hRR KK hKK
   try dsimp only at hW
   obtain ⟨fv7, ft7, (rfl : fv7 = Value.bool true)⟩ := hRR 7 _ 12 rfl rfl (by kernel_rfl) (by kernel_rfl)
   replace hKK : ∀ v w', Below W.heap.size W w' → v = Value.bool true → KK (Act.put fa _ v) w' := fun v w' h1 h2 => hKK v w' h1 h2
   clear hSame hRR
   rw [if_pos (wanted_plain rfl)]
   go_simp
   refine hKK _ _ ?_ ?_
   ·
    exact grP
   ·
    exact rfl
  refine ObsT.cons (k' := 10) rfl ?_ ?_
  ·
   intro fa W hW hSame hRR KK hKK
   try dsimp only at hW
   obtain ⟨fv8, ft8, (rfl : fv8 = Value.bool true)⟩ := hRR 8 _ 13 rfl rfl (by kernel_rfl) (by kernel_rfl)
   replace hKK : ∀ v w', Below W.heap.size W w' → (fun _ _ => True) v w' → KK (Act.put fa _ v) w' := fun v w' h1 h2 => hKK v w' h1 h2
   clear hSame hRR
   rw [wanted_guard rfl rfl rfl ft8]
   rw [if_neg (by decide)]
   exact hKK _ _ (Below.refl _ _) trivial
  refine ObsT.cons (k' := 11) rfl ?_ ?_
  ·
   intro fa W hW hSame hRR KK hKK
   try dsimp only at hW
   obtain ⟨fv8, ft8, (rfl : fv8 = Value.bool true)⟩ := hRR 8 _ 13 rfl rfl (by kernel_rfl) (by kernel_rfl)
   replace hKK : ∀ v w', Below W.heap.size W w' → (fun _ _ => True) v w' → KK (Act.put fa _ v) w' := fun v w' h1 h2 => hKK v w' h1 h2
   clear hSame hRR
   rw [wanted_guard rfl rfl rfl ft8]
   rw [if_neg (by decide)]
   exact hKK _ _ (Below.refl _ _) trivial
  refine ObsT.cons (k' := 12) rfl ?_ ?_
  ·
   intro fa W hW hSame hRR KK hKK
   try dsimp only at hW
   obtain ⟨fv8, ft8, (rfl : fv8 = Value.bool true)⟩ := hRR 8 _ 13 rfl rfl (by kernel_rfl) (by kernel_rfl)
   replace hKK : ∀ v w', Below W.heap.size W w' → (fun _ _ => True) v w' → KK (Act.put fa _ v) w' := fun v w' h1 h2 => hKK v w' h1 h2
   clear hSame hRR
   rw [wanted_guard rfl rfl rfl ft8]
   rw [if_neg (by decide)]
   exact hKK _ _ (Below.refl _ _) trivial
  refine ObsT.cons (k' := 13) rfl ?_ ?_
  ·
   intro fa W hW hSame hRR KK hKK
   try dsimp only at hW
   obtain ⟨fv8, ft8, (rfl : fv8 = Value.bool true)⟩ := hRR 8 _ 13 rfl rfl (by kernel_rfl) (by kernel_rfl)
   replace hKK : ∀ v w', Below W.heap.size W w' → (fun _ _ => True) v w' → KK (Act.put fa _ v) w' := fun v w' h1 h2 => hKK v w' h1 h2
   clear hSame hRR
   rw [wanted_guard rfl rfl rfl ft8]
   rw [if_neg (by decide)]
   exact hKK _ _ (Below.refl _ _) trivial
  refine ObsT.cons (k' := 14) rfl ?_ ?_
  ·
   intro fa W hW hSame hRR KK hKK
   try dsimp only at hW
   obtain ⟨fv8, ft8, (rfl : fv8 = Value.bool true)⟩ := hRR 8 _ 13 rfl rfl (by kernel_rfl) (by kernel_rfl)
   replace hKK : ∀ v w', Below W.heap.size W w' → v = Value.bool true → KK (Act.put fa _ v) w' := fun v w' h1 h2 => hKK v w' h1 h2
   clear hSame hRR
   rw [if_pos (wanted_plain rfl)]
   go_simp
   refine hKK _ _ ?_ ?_
   ·
    exact grP
   ·
    exact rfl
  exact ObsT.nil
 case hlast =>
  intro fa w2 d2 hSame hRR
  try dsimp only at d2
  obtain ⟨zz13, f18, rfl⟩ := hRR 13 _ 18 rfl rfl rfl
  rw [Same_shape hSame]
  simp only [List.filterMap_cons, List.filterMap_nil, List.foldl_cons, List.foldl_nil]
  have g18 : fa.tmps.getD 18 undef = Value.bool true := by simp [Array.getD_eq_getD_getElem?, f18]
  rw [g18]
  generalize fa.tmps.getD 5 undef = y5
  generalize fa.tmps.getD 6 undef = y6
  generalize fa.tmps.getD 7 undef = y7
  generalize fa.tmps.getD 8 undef = y8
  generalize fa.tmps.getD 9 undef = y9
  generalize fa.tmps.getD 10 undef = y10
  generalize fa.tmps.getD 11 undef = y11
  generalize fa.tmps.getD 12 undef = y12
  generalize fa.tmps.getD 13 undef = y13
  generalize fa.tmps.getD 14 undef = y14
  generalize fa.tmps.getD 15 undef = y15
  generalize fa.tmps.getD 16 undef = y16
  generalize fa.tmps.getD 17 undef = y17
  clear hSame hRR f18 g18
  simp only [Act.put, List.setIfInBounds_toArray, List.set_cons_succ, List.set_cons_zero]
  have B2 := Lib.hid (below_step B1.out d2)
  clear d2
  go_wp2_with fail
  go_ret
  exact ⟨rfl, B2.out⟩
set_option maxHeartbeats 4000000 in
set_option maxRecDepth 100000 in
theorem rqright_big (k t n u p : Int) (z : ByteArray) (w : World) (h : 7 < k) :
  Calls Tryz.prog 11 #[.agg #[.int .i64 k, .string z, .int .i64 t, .int .i64 n, .int .i64 u, .int .i64 p]] w fun e w' => e = .returned (.bool false) ∧ Below w.heap.size w w' := by
 have g0 : decide (k < 0) = false := decide_eq_false (by omega)
 have g8 : decide (7 < k) = true := decide_eq_true h
 go_enter Tryz.func11, Tryz.ntmps11
 go_upto_region 1 with (fail)
 refine wp_named ?_; intro w1 hw1
 have d1 : Below w.heap.size w w1 := by rw [hw1]; exact gr0
 have B1 := Lib.hid d1
 have X1 : Hid (Bk6 w1 w.heap.size (.int .i64 k) (.string z) (.int .i64 t) (.int .i64 n) (.int .i64 u) (.int .i64 p)) := Lib.hid (by rw [hw1]; exact ⟨by simp <;> omega, by intro j; simp [go_sem], by simp [go_sem], by simp [go_sem], by simp [go_sem], by simp [go_sem], by simp [go_sem], by simp [go_sem]⟩)
 clear d1 hw1
 refine wp_region_till (R := markR [(fun v _ => v = Value.pointer (some ⟨w.heap.size, 0, none⟩)), (fun v _ => v = Value.int .i64 k), (fun v _ => v = Value.bool false), (fun v _ => v = Value.bool false), (fun v _ => v = Value.pointer (some ⟨w.heap.size, 0, none⟩)), (fun v _ => v = Value.int .i64 k), (fun v _ => v = Value.bool true), (fun v _ => v = Value.bool true), (fun v _ => v = Value.bool true), (fun _ _ => True), (fun _ _ => True), (fun _ _ => True), (fun _ _ => True), (fun v _ => v = Value.bool true)]) (till := fun _ => none) (D := fun W => Below w1.heap.size w1 W) (G := fun _ W W' => Below W.heap.size W W') (by rfl) ?hbeg ⟨by kernel_rfl, by kernel_rfl, by kernel_rfl, ?hkeep, ?hstab, ObsT.all ?hobs, ?hlast⟩
 case hbeg => exact (Below.refl _ _).drew
 case hkeep => intro i w1 w2 hC hG; exact below_step hC hG
 case hstab =>
  intro i j hij ht v w1 w2 hG hm
  match j, hm with
  | 0, hm => exact hm
  | 1, hm => exact hm
  | 2, hm => exact hm
  | 3, hm => exact hm
  | 4, hm => exact hm
  | 5, hm => exact hm
  | 6, hm => exact hm
  | 7, hm => exact hm
  | 8, hm => exact hm
  | 9, hm => exact trivial
  | 10, hm => exact trivial
  | 11, hm => exact trivial
  | 12, hm => exact trivial
  | 13, hm => exact hm
  | j + 14, hm => exact trivial
 case hobs =>
  refine ObsT.cons (k' := 1) rfl ?_ ?_
  ·
   intro fa W hW hSame hRR KK hKK
   try dsimp only at hW
   have fb1 : fa.tmps[1]? = some (Value.pointer (some ⟨w.heap.size, 0, none⟩)) := (hSame.base 1 (by kernel_rfl)).trans (by kernel_rfl)
   replace hKK : ∀ v w', Below W.heap.size W w' → v = Value.pointer (some ⟨w.heap.size, 0, none⟩) → KK (Act.put fa _ v) w' := fun v w' h1 h2 => hKK v w' h1 h2
   clear hSame hRR
   rw [if_pos (wanted_plain rfl)]
   go_simp
   refine hKK _ _ ?_ ?_
   ·
    exact grP
   ·
    exact rfl
  refine ObsT.cons (k' := 2) rfl ?_ ?_
  ·
   intro fa W hW hSame hRR KK hKK
   try dsimp only at hW
   obtain ⟨fv0, ft0, (rfl : fv0 = Value.pointer (some ⟨w.heap.size, 0, none⟩))⟩ := hRR 0 _ 5 rfl rfl (by kernel_rfl) (by kernel_rfl)
   replace hKK : ∀ v w', Below W.heap.size W w' → v = Value.int .i64 k → KK (Act.put fa _ v) w' := fun v w' h1 h2 => hKK v w' h1 h2
   have hX := X1.out.keep hW
   have tx := hX; obtain ⟨chb, cfz, ck0, ck1, ck2, ck3, ck4, ck5⟩ := tx
   clear hSame hRR
   rw [if_pos (wanted_plain rfl)]
   go_simp
   refine hKK _ _ ?_ ?_
   ·
    exact grP
   ·
    exact rfl
  refine ObsT.cons (k' := 3) rfl ?_ ?_
  ·
   intro fa W hW hSame hRR KK hKK
   try dsimp only at hW
   obtain ⟨fv1, ft1, (rfl : fv1 = Value.int .i64 k)⟩ := hRR 1 _ 6 rfl rfl (by kernel_rfl) (by kernel_rfl)
   replace hKK : ∀ v w', Below W.heap.size W w' → v = Value.bool false → KK (Act.put fa _ v) w' := fun v w' h1 h2 => hKK v w' h1 h2
   clear hSame hRR
   rw [if_pos (wanted_plain rfl)]
   go_simp
   refine hKK _ _ ?_ ?_
   ·
    exact grP
   ·
    exact rfl
  refine ObsT.cons (k' := 4) rfl ?_ ?_
  ·
   intro fa W hW hSame hRR KK hKK
   try dsimp only at hW
   obtain ⟨fv2, ft2, (rfl : fv2 = Value.bool false)⟩ := hRR 2 _ 7 rfl rfl (by kernel_rfl) (by kernel_rfl)
   replace hKK : ∀ v w', Below W.heap.size W w' → v = Value.bool false → KK (Act.put fa _ v) w' := fun v w' h1 h2 => hKK v w' h1 h2
   clear hSame hRR
   rw [if_pos (wanted_plain rfl)]
   go_simp
   refine hKK _ _ ?_ ?_
   ·
    exact grP
   ·
    exact rfl
  refine ObsT.cons (k' := 5) rfl ?_ ?_
  ·
   intro fa W hW hSame hRR KK hKK
   try dsimp only at hW
   have fb1 : fa.tmps[1]? = some (Value.pointer (some ⟨w.heap.size, 0, none⟩)) := (hSame.base 1 (by kernel_rfl)).trans (by kernel_rfl)
   obtain ⟨fv3, ft3, (rfl : fv3 = Value.bool false)⟩ := hRR 3 _ 8 rfl rfl (by kernel_rfl) (by kernel_rfl)
   replace hKK : ∀ v w', Below W.heap.size W w' → v = Value.pointer (some ⟨w.heap.size, 0, none⟩) → KK (Act.put fa _ v) w' := fun v w' h1 h2 => hKK v w' h1 h2
   clear hSame hRR
   rw [wanted_guard rfl rfl rfl ft3]
   rw [if_pos (by rfl)]
   go_simp
   refine hKK _ _ ?_ ?_
   ·
    exact grP
   ·
    exact rfl
  refine ObsT.cons (k' := 6) rfl ?_ ?_
  ·
   intro fa W hW hSame hRR KK hKK
   try dsimp only at hW
   obtain ⟨fv3, ft3, (rfl : fv3 = Value.bool false)⟩ := hRR 3 _ 8 rfl rfl (by kernel_rfl) (by kernel_rfl)
   obtain ⟨fv4, ft4, (rfl : fv4 = Value.pointer (some ⟨w.heap.size, 0, none⟩))⟩ := hRR 4 _ 9 rfl rfl (by kernel_rfl) (by kernel_rfl)
   replace hKK : ∀ v w', Below W.heap.size W w' → v = Value.int .i64 k → KK (Act.put fa _ v) w' := fun v w' h1 h2 => hKK v w' h1 h2
   have hX := X1.out.keep hW
   have tx := hX; obtain ⟨chb, cfz, ck0, ck1, ck2, ck3, ck4, ck5⟩ := tx
   clear hSame hRR
   rw [wanted_guard rfl rfl rfl ft3]
   rw [if_pos (by rfl)]
   go_simp
   refine hKK _ _ ?_ ?_
   ·
    exact grP
   ·
    exact rfl
  refine ObsT.cons (k' := 7) rfl ?_ ?_
  ·
   intro fa W hW hSame hRR KK hKK
   try dsimp only at hW
   obtain ⟨fv3, ft3, (rfl : fv3 = Value.bool false)⟩ := hRR 3 _ 8 rfl rfl (by kernel_rfl) (by kernel_rfl)
   obtain ⟨fv5, ft5, (rfl : fv5 = Value.int .i64 k)⟩ := hRR 5 _ 10 rfl rfl (by kernel_rfl) (by kernel_rfl)
   replace hKK : ∀ v w', Below W.heap.size W w' → v = Value.bool true → KK (Act.put fa _ v) w' := fun v w' h1 h2 => hKK v w' h1 h2
   clear hSame hRR
   rw [wanted_guard rfl rfl rfl ft3]
   rw [if_pos (by rfl)]
   go_simp
   refine hKK _ _ ?_ ?_
   ·
    exact grP
   ·
    exact rfl
  refine ObsT.cons (k' := 8) rfl ?_ ?_
  ·
   intro fa W hW hSame hRR KK hKK
   try dsimp only at hW
   obtain ⟨fv3, ft3, (rfl : fv3 = Value.bool false)⟩ := hRR 3 _ 8 rfl rfl (by kernel_rfl) (by kernel_rfl)
   obtain ⟨fv6, ft6, (rfl : fv6 = Value.bool true)⟩ := hRR 6 _ 11 rfl rfl (by kernel_rfl) (by kernel_rfl)
   replace hKK : ∀ v w', Below W.heap.size W w' → v = Value.bool true → KK (Act.put fa _ v) w' := fun v w' h1 h2 => hKK v w' h1 h2
   clear hSame hRR
   rw [if_pos (wanted_plain rfl)]
   go_simp
   refine hKK _ _ ?_ ?_
   ·
    exact grP
   ·
    exact rfl
  refine ObsT.cons (k' := 9) rfl ?_ ?_
  ·
   intro fa W hW hSame hRR KK hKK
   try dsimp only at hW
   obtain ⟨fv7, ft7, (rfl : fv7 = Value.bool true)⟩ := hRR 7 _ 12 rfl rfl (by kernel_rfl) (by kernel_rfl)
   replace hKK : ∀ v w', Below W.heap.size W w' → v = Value.bool true → KK (Act.put fa _ v) w' := fun v w' h1 h2 => hKK v w' h1 h2
   clear hSame hRR
   rw [if_pos (wanted_plain rfl)]
   go_simp
   refine hKK _ _ ?_ ?_
   ·
    exact grP
   ·
    exact rfl
  refine ObsT.cons (k' := 10) rfl ?_ ?_
  ·
   intro fa W hW hSame hRR KK hKK
   try dsimp only at hW
   obtain ⟨fv8, ft8, (rfl : fv8 = Value.bool true)⟩ := hRR 8 _ 13 rfl rfl (by kernel_rfl) (by kernel_rfl)
   replace hKK : ∀ v w', Below W.heap.size W w' → (fun _ _ => True) v w' → KK (Act.put fa _ v) w' := fun v w' h1 h2 => hKK v w' h1 h2
   clear hSame hRR
   rw [wanted_guard rfl rfl rfl ft8]
   rw [if_neg (by decide)]
   exact hKK _ _ (Below.refl _ _) trivial
  refine ObsT.cons (k' := 11) rfl ?_ ?_
  ·
   intro fa W hW hSame hRR KK hKK
   try dsimp only at hW
   obtain ⟨fv8, ft8, (rfl : fv8 = Value.bool true)⟩ := hRR 8 _ 13 rfl rfl (by kernel_rfl) (by kernel_rfl)
   replace hKK : ∀ v w', Below W.heap.size W w' → (fun _ _ => True) v w' → KK (Act.put fa _ v) w' := fun v w' h1 h2 => hKK v w' h1 h2
   clear hSame hRR
   rw [wanted_guard rfl rfl rfl ft8]
   rw [if_neg (by decide)]
   exact hKK _ _ (Below.refl _ _) trivial
  refine ObsT.cons (k' := 12) rfl ?_ ?_
  ·
   intro fa W hW hSame hRR KK hKK
   try dsimp only at hW
   obtain ⟨fv8, ft8, (rfl : fv8 = Value.bool true)⟩ := hRR 8 _ 13 rfl rfl (by kernel_rfl) (by kernel_rfl)
   replace hKK : ∀ v w', Below W.heap.size W w' → (fun _ _ => True) v w' → KK (Act.put fa _ v) w' := fun v w' h1 h2 => hKK v w' h1 h2
   clear hSame hRR
   rw [wanted_guard rfl rfl rfl ft8]
   rw [if_neg (by decide)]
   exact hKK _ _ (Below.refl _ _) trivial
  refine ObsT.cons (k' := 13) rfl ?_ ?_
  ·
   intro fa W hW hSame hRR KK hKK
   try dsimp only at hW
   obtain ⟨fv8, ft8, (rfl : fv8 = Value.bool true)⟩ := hRR 8 _ 13 rfl rfl (by kernel_rfl) (by kernel_rfl)
   replace hKK : ∀ v w', Below W.heap.size W w' → (fun _ _ => True) v w' → KK (Act.put fa _ v) w' := fun v w' h1 h2 => hKK v w' h1 h2
   clear hSame hRR
   rw [wanted_guard rfl rfl rfl ft8]
   rw [if_neg (by decide)]
   exact hKK _ _ (Below.refl _ _) trivial
  refine ObsT.cons (k' := 14) rfl ?_ ?_
  ·
   intro fa W hW hSame hRR KK hKK
   try dsimp only at hW
   obtain ⟨fv8, ft8, (rfl : fv8 = Value.bool true)⟩ := hRR 8 _ 13 rfl rfl (by kernel_rfl) (by kernel_rfl)
   replace hKK : ∀ v w', Below W.heap.size W w' → v = Value.bool true → KK (Act.put fa _ v) w' := fun v w' h1 h2 => hKK v w' h1 h2
   clear hSame hRR
   rw [if_pos (wanted_plain rfl)]
   go_simp
   refine hKK _ _ ?_ ?_
   ·
    exact grP
   ·
    exact rfl
  exact ObsT.nil
 case hlast =>
  intro fa w2 d2 hSame hRR
  try dsimp only at d2
  obtain ⟨zz13, f18, rfl⟩ := hRR 13 _ 18 rfl rfl rfl
  rw [Same_shape hSame]
  simp only [List.filterMap_cons, List.filterMap_nil, List.foldl_cons, List.foldl_nil]
  have g18 : fa.tmps.getD 18 undef = Value.bool true := by simp [Array.getD_eq_getD_getElem?, f18]
  rw [g18]
  generalize fa.tmps.getD 5 undef = y5
  generalize fa.tmps.getD 6 undef = y6
  generalize fa.tmps.getD 7 undef = y7
  generalize fa.tmps.getD 8 undef = y8
  generalize fa.tmps.getD 9 undef = y9
  generalize fa.tmps.getD 10 undef = y10
  generalize fa.tmps.getD 11 undef = y11
  generalize fa.tmps.getD 12 undef = y12
  generalize fa.tmps.getD 13 undef = y13
  generalize fa.tmps.getD 14 undef = y14
  generalize fa.tmps.getD 15 undef = y15
  generalize fa.tmps.getD 16 undef = y16
  generalize fa.tmps.getD 17 undef = y17
  clear hSame hRR f18 g18
  simp only [Act.put, List.setIfInBounds_toArray, List.set_cons_succ, List.set_cons_zero]
  have B2 := Lib.hid (below_step B1.out d2)
  clear d2
  go_wp2_with fail
  go_ret
  exact ⟨rfl, B2.out⟩
set_option maxHeartbeats 4000000 in
set_option maxRecDepth 100000 in
theorem rqright_oth (k t n u p : Int) (z : ByteArray) (w : World) (t2 n2 u2 p2 : Int) (z2 : ByteArray) (h0 : 0 ≤ k) (h7 : k ≤ 7) (PL : Hid (∀ W, Calls Tryz.prog 34 #[.agg #[.int .i64 k, .string z, .int .i64 t, .int .i64 n, .int .i64 u, .int .i64 p]] W fun e w' => e = .returned (.agg #[.int .i64 k, .string z2, .int .i64 t2, .int .i64 n2, .int .i64 u2, .int .i64 p2]) ∧ Below W.heap.size W w')) (hne : (z2, t2, n2, u2, p2) ≠ (z, t, n, u, p)) :
  Calls Tryz.prog 11 #[.agg #[.int .i64 k, .string z, .int .i64 t, .int .i64 n, .int .i64 u, .int .i64 p]] w fun e w' => e = .returned (.bool false) ∧ Below w.heap.size w w' := by
 have g0 : decide (k < 0) = false := decide_eq_false (by omega)
 have g8 : decide (7 < k) = false := decide_eq_false (by omega)
 go_enter Tryz.func11, Tryz.ntmps11
 go_upto_region 1 with (fail)
 refine wp_named ?_; intro w1 hw1
 have d1 : Below w.heap.size w w1 := by rw [hw1]; exact gr0
 have B1 := Lib.hid d1
 have X1 : Hid (Bk6 w1 w.heap.size (.int .i64 k) (.string z) (.int .i64 t) (.int .i64 n) (.int .i64 u) (.int .i64 p)) := Lib.hid (by rw [hw1]; exact ⟨by simp <;> omega, by intro j; simp [go_sem], by simp [go_sem], by simp [go_sem], by simp [go_sem], by simp [go_sem], by simp [go_sem], by simp [go_sem]⟩)
 clear d1 hw1
 refine wp_region_till (R := markR [(fun v _ => v = Value.pointer (some ⟨w.heap.size, 0, none⟩)), (fun v _ => v = Value.int .i64 k), (fun v _ => v = Value.bool false), (fun v _ => v = Value.bool false), (fun v _ => v = Value.pointer (some ⟨w.heap.size, 0, none⟩)), (fun v _ => v = Value.int .i64 k), (fun v _ => v = Value.bool false), (fun v _ => v = Value.bool false), (fun v _ => v = Value.bool false), (fun v _ => v = Value.agg #[.int .i64 k, .string z, .int .i64 t, .int .i64 n, .int .i64 u, .int .i64 p]), (fun v _ => v = Value.agg #[.int .i64 k, .string z2, .int .i64 t2, .int .i64 n2, .int .i64 u2, .int .i64 p2]), (fun v _ => v = Value.agg #[.int .i64 k, .string z, .int .i64 t, .int .i64 n, .int .i64 u, .int .i64 p]), (fun v _ => v = Value.bool true), (fun v _ => v = Value.bool true)]) (till := fun _ => none) (D := fun W => Below w1.heap.size w1 W) (G := fun _ W W' => Below W.heap.size W W') (by rfl) ?hbeg ⟨by kernel_rfl, by kernel_rfl, by kernel_rfl, ?hkeep, ?hstab, ObsT.all ?hobs, ?hlast⟩
 case hbeg => exact (Below.refl _ _).drew
 case hkeep => intro i w1 w2 hC hG; exact below_step hC hG
 case hstab =>
  intro i j hij ht v w1 w2 hG hm
  match j, hm with
  | 0, hm => exact hm
  | 1, hm => exact hm
  | 2, hm => exact hm
  | 3, hm => exact hm
  | 4, hm => exact hm
  | 5, hm => exact hm
  | 6, hm => exact hm
  | 7, hm => exact hm
  | 8, hm => exact hm
  | 9, hm => exact hm
  | 10, hm => exact hm
  | 11, hm => exact hm
  | 12, hm => exact hm
  | 13, hm => exact hm
  | j + 14, hm => exact trivial
 case hobs =>
  refine ObsT.cons (k' := 1) rfl ?_ ?_
  ·
   intro fa W hW hSame hRR KK hKK
   try dsimp only at hW
   have fb1 : fa.tmps[1]? = some (Value.pointer (some ⟨w.heap.size, 0, none⟩)) := (hSame.base 1 (by kernel_rfl)).trans (by kernel_rfl)
   replace hKK : ∀ v w', Below W.heap.size W w' → v = Value.pointer (some ⟨w.heap.size, 0, none⟩) → KK (Act.put fa _ v) w' := fun v w' h1 h2 => hKK v w' h1 h2
   clear hSame hRR
   rw [if_pos (wanted_plain rfl)]
   go_simp
   refine hKK _ _ ?_ ?_
   ·
    exact grP
   ·
    exact rfl
  refine ObsT.cons (k' := 2) rfl ?_ ?_
  ·
   intro fa W hW hSame hRR KK hKK
   try dsimp only at hW
   obtain ⟨fv0, ft0, (rfl : fv0 = Value.pointer (some ⟨w.heap.size, 0, none⟩))⟩ := hRR 0 _ 5 rfl rfl (by kernel_rfl) (by kernel_rfl)
   replace hKK : ∀ v w', Below W.heap.size W w' → v = Value.int .i64 k → KK (Act.put fa _ v) w' := fun v w' h1 h2 => hKK v w' h1 h2
   have hX := X1.out.keep hW
   have tx := hX; obtain ⟨chb, cfz, ck0, ck1, ck2, ck3, ck4, ck5⟩ := tx
   clear hSame hRR
   rw [if_pos (wanted_plain rfl)]
   go_simp
   refine hKK _ _ ?_ ?_
   ·
    exact grP
   ·
    exact rfl
  refine ObsT.cons (k' := 3) rfl ?_ ?_
  ·
   intro fa W hW hSame hRR KK hKK
   try dsimp only at hW
   obtain ⟨fv1, ft1, (rfl : fv1 = Value.int .i64 k)⟩ := hRR 1 _ 6 rfl rfl (by kernel_rfl) (by kernel_rfl)
   replace hKK : ∀ v w', Below W.heap.size W w' → v = Value.bool false → KK (Act.put fa _ v) w' := fun v w' h1 h2 => hKK v w' h1 h2
   clear hSame hRR
   rw [if_pos (wanted_plain rfl)]
   go_simp
   refine hKK _ _ ?_ ?_
   ·
    exact grP
   ·
    exact rfl
  refine ObsT.cons (k' := 4) rfl ?_ ?_
  ·
   intro fa W hW hSame hRR KK hKK
   try dsimp only at hW
   obtain ⟨fv2, ft2, (rfl : fv2 = Value.bool false)⟩ := hRR 2 _ 7 rfl rfl (by kernel_rfl) (by kernel_rfl)
   replace hKK : ∀ v w', Below W.heap.size W w' → v = Value.bool false → KK (Act.put fa _ v) w' := fun v w' h1 h2 => hKK v w' h1 h2
   clear hSame hRR
   rw [if_pos (wanted_plain rfl)]
   go_simp
   refine hKK _ _ ?_ ?_
   ·
    exact grP
   ·
    exact rfl
  refine ObsT.cons (k' := 5) rfl ?_ ?_
  ·
   intro fa W hW hSame hRR KK hKK
   try dsimp only at hW
   have fb1 : fa.tmps[1]? = some (Value.pointer (some ⟨w.heap.size, 0, none⟩)) := (hSame.base 1 (by kernel_rfl)).trans (by kernel_rfl)
   obtain ⟨fv3, ft3, (rfl : fv3 = Value.bool false)⟩ := hRR 3 _ 8 rfl rfl (by kernel_rfl) (by kernel_rfl)
   replace hKK : ∀ v w', Below W.heap.size W w' → v = Value.pointer (some ⟨w.heap.size, 0, none⟩) → KK (Act.put fa _ v) w' := fun v w' h1 h2 => hKK v w' h1 h2
   clear hSame hRR
   rw [wanted_guard rfl rfl rfl ft3]
   rw [if_pos (by rfl)]
   go_simp
   refine hKK _ _ ?_ ?_
   ·
    exact grP
   ·
    exact rfl
  refine ObsT.cons (k' := 6) rfl ?_ ?_
  ·
   intro fa W hW hSame hRR KK hKK
   try dsimp only at hW
   obtain ⟨fv3, ft3, (rfl : fv3 = Value.bool false)⟩ := hRR 3 _ 8 rfl rfl (by kernel_rfl) (by kernel_rfl)
   obtain ⟨fv4, ft4, (rfl : fv4 = Value.pointer (some ⟨w.heap.size, 0, none⟩))⟩ := hRR 4 _ 9 rfl rfl (by kernel_rfl) (by kernel_rfl)
   replace hKK : ∀ v w', Below W.heap.size W w' → v = Value.int .i64 k → KK (Act.put fa _ v) w' := fun v w' h1 h2 => hKK v w' h1 h2
   have hX := X1.out.keep hW
   have tx := hX; obtain ⟨chb, cfz, ck0, ck1, ck2, ck3, ck4, ck5⟩ := tx
   clear hSame hRR
   rw [wanted_guard rfl rfl rfl ft3]
   rw [if_pos (by rfl)]
   go_simp
   refine hKK _ _ ?_ ?_
   ·
    exact grP
   ·
    exact rfl
  refine ObsT.cons (k' := 7) rfl ?_ ?_
  ·
   intro fa W hW hSame hRR KK hKK
   try dsimp only at hW
   obtain ⟨fv3, ft3, (rfl : fv3 = Value.bool false)⟩ := hRR 3 _ 8 rfl rfl (by kernel_rfl) (by kernel_rfl)
   obtain ⟨fv5, ft5, (rfl : fv5 = Value.int .i64 k)⟩ := hRR 5 _ 10 rfl rfl (by kernel_rfl) (by kernel_rfl)
   replace hKK : ∀ v w', Below W.heap.size W w' → v = Value.bool false → KK (Act.put fa _ v) w' := fun v w' h1 h2 => hKK v w' h1 h2
   clear hSame hRR
   rw [wanted_guard rfl rfl rfl ft3]
   rw [if_pos (by rfl)]
   go_simp
   refine hKK _ _ ?_ ?_
   ·
    exact grP
   ·
    exact rfl
  refine ObsT.cons (k' := 8) rfl ?_ ?_
  ·
   intro fa W hW hSame hRR KK hKK
   try dsimp only at hW
   obtain ⟨fv3, ft3, (rfl : fv3 = Value.bool false)⟩ := hRR 3 _ 8 rfl rfl (by kernel_rfl) (by kernel_rfl)
   obtain ⟨fv6, ft6, (rfl : fv6 = Value.bool false)⟩ := hRR 6 _ 11 rfl rfl (by kernel_rfl) (by kernel_rfl)
   replace hKK : ∀ v w', Below W.heap.size W w' → v = Value.bool false → KK (Act.put fa _ v) w' := fun v w' h1 h2 => hKK v w' h1 h2
   clear hSame hRR
   rw [if_pos (wanted_plain rfl)]
   go_simp
   refine hKK _ _ ?_ ?_
   ·
    exact grP
   ·
    exact rfl
  refine ObsT.cons (k' := 9) rfl ?_ ?_
  ·
   intro fa W hW hSame hRR KK hKK
   try dsimp only at hW
   obtain ⟨fv7, ft7, (rfl : fv7 = Value.bool false)⟩ := hRR 7 _ 12 rfl rfl (by kernel_rfl) (by kernel_rfl)
   replace hKK : ∀ v w', Below W.heap.size W w' → v = Value.bool false → KK (Act.put fa _ v) w' := fun v w' h1 h2 => hKK v w' h1 h2
   clear hSame hRR
   rw [if_pos (wanted_plain rfl)]
   go_simp
   refine hKK _ _ ?_ ?_
   ·
    exact grP
   ·
    exact rfl
  refine ObsT.cons (k' := 10) rfl ?_ ?_
  ·
   intro fa W hW hSame hRR KK hKK
   try dsimp only at hW
   have fb1 : fa.tmps[1]? = some (Value.pointer (some ⟨w.heap.size, 0, none⟩)) := (hSame.base 1 (by kernel_rfl)).trans (by kernel_rfl)
   obtain ⟨fv8, ft8, (rfl : fv8 = Value.bool false)⟩ := hRR 8 _ 13 rfl rfl (by kernel_rfl) (by kernel_rfl)
   replace hKK : ∀ v w', Below W.heap.size W w' → v = Value.agg #[.int .i64 k, .string z, .int .i64 t, .int .i64 n, .int .i64 u, .int .i64 p] → KK (Act.put fa _ v) w' := fun v w' h1 h2 => hKK v w' h1 h2
   have hX := X1.out.keep hW
   have tx := hX; obtain ⟨chb, cfz, ck0, ck1, ck2, ck3, ck4, ck5⟩ := tx
   clear hSame hRR
   rw [wanted_guard rfl rfl rfl ft8]
   rw [if_pos (by rfl)]
   go_simp
   refine hKK _ _ ?_ ?_
   ·
    exact grP
   ·
    exact rfl
  refine ObsT.cons (k' := 11) rfl ?_ ?_
  ·
   intro fa W hW hSame hRR KK hKK
   try dsimp only at hW
   obtain ⟨fv8, ft8, (rfl : fv8 = Value.bool false)⟩ := hRR 8 _ 13 rfl rfl (by kernel_rfl) (by kernel_rfl)
   obtain ⟨fv9, ft9, (rfl : fv9 = Value.agg #[.int .i64 k, .string z, .int .i64 t, .int .i64 n, .int .i64 u, .int .i64 p])⟩ := hRR 9 _ 14 rfl rfl (by kernel_rfl) (by kernel_rfl)
   replace hKK : ∀ v w', Below W.heap.size W w' → v = Value.agg #[.int .i64 k, .string z2, .int .i64 t2, .int .i64 n2, .int .i64 u2, .int .i64 p2] → KK (Act.put fa _ v) w' := fun v w' h1 h2 => hKK v w' h1 h2
   clear hSame hRR
   rw [wanted_guard rfl rfl rfl ft8]
   rw [if_pos (by rfl)]
   go_simp
   refine (PL.out _).mono ?_; rintro e w' ⟨rfl, hb⟩
   exact hKK _ _ hb rfl
  refine ObsT.cons (k' := 12) rfl ?_ ?_
  ·
   intro fa W hW hSame hRR KK hKK
   try dsimp only at hW
   have fb1 : fa.tmps[1]? = some (Value.pointer (some ⟨w.heap.size, 0, none⟩)) := (hSame.base 1 (by kernel_rfl)).trans (by kernel_rfl)
   obtain ⟨fv8, ft8, (rfl : fv8 = Value.bool false)⟩ := hRR 8 _ 13 rfl rfl (by kernel_rfl) (by kernel_rfl)
   replace hKK : ∀ v w', Below W.heap.size W w' → v = Value.agg #[.int .i64 k, .string z, .int .i64 t, .int .i64 n, .int .i64 u, .int .i64 p] → KK (Act.put fa _ v) w' := fun v w' h1 h2 => hKK v w' h1 h2
   have hX := X1.out.keep hW
   have tx := hX; obtain ⟨chb, cfz, ck0, ck1, ck2, ck3, ck4, ck5⟩ := tx
   clear hSame hRR
   rw [wanted_guard rfl rfl rfl ft8]
   rw [if_pos (by rfl)]
   go_simp
   refine hKK _ _ ?_ ?_
   ·
    exact grP
   ·
    exact rfl
  refine ObsT.cons (k' := 13) rfl ?_ ?_
  ·
   intro fa W hW hSame hRR KK hKK
   try dsimp only at hW
   obtain ⟨fv8, ft8, (rfl : fv8 = Value.bool false)⟩ := hRR 8 _ 13 rfl rfl (by kernel_rfl) (by kernel_rfl)
   obtain ⟨fv10, ft10, (rfl : fv10 = Value.agg #[.int .i64 k, .string z2, .int .i64 t2, .int .i64 n2, .int .i64 u2, .int .i64 p2])⟩ := hRR 10 _ 15 rfl rfl (by kernel_rfl) (by kernel_rfl)
   obtain ⟨fv11, ft11, (rfl : fv11 = Value.agg #[.int .i64 k, .string z, .int .i64 t, .int .i64 n, .int .i64 u, .int .i64 p])⟩ := hRR 11 _ 16 rfl rfl (by kernel_rfl) (by kernel_rfl)
   replace hKK : ∀ v w', Below W.heap.size W w' → v = Value.bool true → KK (Act.put fa _ v) w' := fun v w' h1 h2 => hKK v w' h1 h2
   clear hSame hRR
   rw [wanted_guard rfl rfl rfl ft8]
   rw [if_pos (by rfl)]
   go_simp
   repeat' split
   all_goals first | exact hKK _ _ (Below.refl _ _) rfl | skip
   exfalso
   rename_i e1 e2 e3 e4 e5
   apply hne
   rw [ByteArray.toList_eq, ByteArray.toList_eq] at e1
   rw [show z2 = z from ByteArray.ext (Array.toList_inj.1 e1), e2, e3, e4, e5]
  refine ObsT.cons (k' := 14) rfl ?_ ?_
  ·
   intro fa W hW hSame hRR KK hKK
   try dsimp only at hW
   obtain ⟨fv8, ft8, (rfl : fv8 = Value.bool false)⟩ := hRR 8 _ 13 rfl rfl (by kernel_rfl) (by kernel_rfl)
   obtain ⟨fv12, ft12, (rfl : fv12 = Value.bool true)⟩ := hRR 12 _ 17 rfl rfl (by kernel_rfl) (by kernel_rfl)
   replace hKK : ∀ v w', Below W.heap.size W w' → v = Value.bool true → KK (Act.put fa _ v) w' := fun v w' h1 h2 => hKK v w' h1 h2
   clear hSame hRR
   rw [if_pos (wanted_plain rfl)]
   go_simp
   refine hKK _ _ ?_ ?_
   ·
    exact grP
   ·
    exact rfl
  exact ObsT.nil
 case hlast =>
  intro fa w2 d2 hSame hRR
  try dsimp only at d2
  obtain ⟨zz13, f18, rfl⟩ := hRR 13 _ 18 rfl rfl rfl
  rw [Same_shape hSame]
  simp only [List.filterMap_cons, List.filterMap_nil, List.foldl_cons, List.foldl_nil]
  have g18 : fa.tmps.getD 18 undef = Value.bool true := by simp [Array.getD_eq_getD_getElem?, f18]
  rw [g18]
  generalize fa.tmps.getD 5 undef = y5
  generalize fa.tmps.getD 6 undef = y6
  generalize fa.tmps.getD 7 undef = y7
  generalize fa.tmps.getD 8 undef = y8
  generalize fa.tmps.getD 9 undef = y9
  generalize fa.tmps.getD 10 undef = y10
  generalize fa.tmps.getD 11 undef = y11
  generalize fa.tmps.getD 12 undef = y12
  generalize fa.tmps.getD 13 undef = y13
  generalize fa.tmps.getD 14 undef = y14
  generalize fa.tmps.getD 15 undef = y15
  generalize fa.tmps.getD 16 undef = y16
  generalize fa.tmps.getD 17 undef = y17
  clear hSame hRR f18 g18
  simp only [Act.put, List.setIfInBounds_toArray, List.set_cons_succ, List.set_cons_zero]
  have B2 := Lib.hid (below_step B1.out d2)
  clear d2
  go_wp2_with fail
  go_ret
  exact ⟨rfl, B2.out⟩
set_option maxHeartbeats 4000000 in
set_option maxRecDepth 100000 in
theorem rqright_none (w : World)  :
  Calls Tryz.prog 11 #[.agg #[.int .i64 0, .string ⟨#[]⟩, .int .i64 0, .int .i64 0, .int .i64 0, .int .i64 0]] w fun e w' => e = .returned (.bool true) ∧ Below w.heap.size w w' := by
 have PL := Lib.hid (fun W => rqplain_any 0 0 0 0 0 ⟨#[]⟩ W)
 simp only [Int.reduceEq, or_false, false_or, or_true, true_or, or_self, if_true, if_false] at PL
 go_enter Tryz.func11, Tryz.ntmps11
 go_upto_region 1 with (fail)
 refine wp_named ?_; intro w1 hw1
 have d1 : Below w.heap.size w w1 := by rw [hw1]; exact gr0
 have B1 := Lib.hid d1
 have X1 : Hid (Bk6 w1 w.heap.size (.int .i64 0) (.string ⟨#[]⟩) (.int .i64 0) (.int .i64 0) (.int .i64 0) (.int .i64 0)) := Lib.hid (by rw [hw1]; exact ⟨by simp <;> omega, by intro j; simp [go_sem], by simp [go_sem], by simp [go_sem], by simp [go_sem], by simp [go_sem], by simp [go_sem], by simp [go_sem]⟩)
 clear d1 hw1
 refine wp_region_till (R := markR [(fun v _ => v = Value.pointer (some ⟨w.heap.size, 0, none⟩)), (fun v _ => v = Value.int .i64 0), (fun v _ => v = Value.bool false), (fun v _ => v = Value.bool false), (fun v _ => v = Value.pointer (some ⟨w.heap.size, 0, none⟩)), (fun v _ => v = Value.int .i64 0), (fun v _ => v = Value.bool false), (fun v _ => v = Value.bool false), (fun v _ => v = Value.bool false), (fun v _ => v = Value.agg #[.int .i64 0, .string ⟨#[]⟩, .int .i64 0, .int .i64 0, .int .i64 0, .int .i64 0]), (fun v _ => v = Value.agg #[.int .i64 0, .string ⟨#[]⟩, .int .i64 0, .int .i64 0, .int .i64 0, .int .i64 0]), (fun v _ => v = Value.agg #[.int .i64 0, .string ⟨#[]⟩, .int .i64 0, .int .i64 0, .int .i64 0, .int .i64 0]), (fun v _ => v = Value.bool false), (fun v _ => v = Value.bool false)]) (till := fun _ => none) (D := fun W => Below w1.heap.size w1 W) (G := fun _ W W' => Below W.heap.size W W') (by rfl) ?hbeg ⟨by kernel_rfl, by kernel_rfl, by kernel_rfl, ?hkeep, ?hstab, ObsT.all ?hobs, ?hlast⟩
 case hbeg => exact (Below.refl _ _).drew
 case hkeep => intro i w1 w2 hC hG; exact below_step hC hG
 case hstab =>
  intro i j hij ht v w1 w2 hG hm
  match j, hm with
  | 0, hm => exact hm
  | 1, hm => exact hm
  | 2, hm => exact hm
  | 3, hm => exact hm
  | 4, hm => exact hm
  | 5, hm => exact hm
  | 6, hm => exact hm
  | 7, hm => exact hm
  | 8, hm => exact hm
  | 9, hm => exact hm
  | 10, hm => exact hm
  | 11, hm => exact hm
  | 12, hm => exact hm
  | 13, hm => exact hm
  | j + 14, hm => exact trivial
 case hobs =>
  refine ObsT.cons (k' := 1) rfl ?_ ?_
  ·
   intro fa W hW hSame hRR KK hKK
   try dsimp only at hW
   have fb1 : fa.tmps[1]? = some (Value.pointer (some ⟨w.heap.size, 0, none⟩)) := (hSame.base 1 (by kernel_rfl)).trans (by kernel_rfl)
   replace hKK : ∀ v w', Below W.heap.size W w' → v = Value.pointer (some ⟨w.heap.size, 0, none⟩) → KK (Act.put fa _ v) w' := fun v w' h1 h2 => hKK v w' h1 h2
   clear hSame hRR
   rw [if_pos (wanted_plain rfl)]
   go_simp
   refine hKK _ _ ?_ ?_
   ·
    exact grP
   ·
    exact rfl
  refine ObsT.cons (k' := 2) rfl ?_ ?_
  ·
   intro fa W hW hSame hRR KK hKK
   try dsimp only at hW
   obtain ⟨fv0, ft0, (rfl : fv0 = Value.pointer (some ⟨w.heap.size, 0, none⟩))⟩ := hRR 0 _ 5 rfl rfl (by kernel_rfl) (by kernel_rfl)
   replace hKK : ∀ v w', Below W.heap.size W w' → v = Value.int .i64 0 → KK (Act.put fa _ v) w' := fun v w' h1 h2 => hKK v w' h1 h2
   have hX := X1.out.keep hW
   have tx := hX; obtain ⟨chb, cfz, ck0, ck1, ck2, ck3, ck4, ck5⟩ := tx
   clear hSame hRR
   rw [if_pos (wanted_plain rfl)]
   go_simp
   refine hKK _ _ ?_ ?_
   ·
    exact grP
   ·
    exact rfl
  refine ObsT.cons (k' := 3) rfl ?_ ?_
  ·
   intro fa W hW hSame hRR KK hKK
   try dsimp only at hW
   obtain ⟨fv1, ft1, (rfl : fv1 = Value.int .i64 0)⟩ := hRR 1 _ 6 rfl rfl (by kernel_rfl) (by kernel_rfl)
   replace hKK : ∀ v w', Below W.heap.size W w' → v = Value.bool false → KK (Act.put fa _ v) w' := fun v w' h1 h2 => hKK v w' h1 h2
   clear hSame hRR
   rw [if_pos (wanted_plain rfl)]
   go_simp
   refine hKK _ _ ?_ ?_
   ·
    exact grP
   ·
    exact rfl
  refine ObsT.cons (k' := 4) rfl ?_ ?_
  ·
   intro fa W hW hSame hRR KK hKK
   try dsimp only at hW
   obtain ⟨fv2, ft2, (rfl : fv2 = Value.bool false)⟩ := hRR 2 _ 7 rfl rfl (by kernel_rfl) (by kernel_rfl)
   replace hKK : ∀ v w', Below W.heap.size W w' → v = Value.bool false → KK (Act.put fa _ v) w' := fun v w' h1 h2 => hKK v w' h1 h2
   clear hSame hRR
   rw [if_pos (wanted_plain rfl)]
   go_simp
   refine hKK _ _ ?_ ?_
   ·
    exact grP
   ·
    exact rfl
  refine ObsT.cons (k' := 5) rfl ?_ ?_
  ·
   intro fa W hW hSame hRR KK hKK
   try dsimp only at hW
   have fb1 : fa.tmps[1]? = some (Value.pointer (some ⟨w.heap.size, 0, none⟩)) := (hSame.base 1 (by kernel_rfl)).trans (by kernel_rfl)
   obtain ⟨fv3, ft3, (rfl : fv3 = Value.bool false)⟩ := hRR 3 _ 8 rfl rfl (by kernel_rfl) (by kernel_rfl)
   replace hKK : ∀ v w', Below W.heap.size W w' → v = Value.pointer (some ⟨w.heap.size, 0, none⟩) → KK (Act.put fa _ v) w' := fun v w' h1 h2 => hKK v w' h1 h2
   clear hSame hRR
   rw [wanted_guard rfl rfl rfl ft3]
   rw [if_pos (by rfl)]
   go_simp
   refine hKK _ _ ?_ ?_
   ·
    exact grP
   ·
    exact rfl
  refine ObsT.cons (k' := 6) rfl ?_ ?_
  ·
   intro fa W hW hSame hRR KK hKK
   try dsimp only at hW
   obtain ⟨fv3, ft3, (rfl : fv3 = Value.bool false)⟩ := hRR 3 _ 8 rfl rfl (by kernel_rfl) (by kernel_rfl)
   obtain ⟨fv4, ft4, (rfl : fv4 = Value.pointer (some ⟨w.heap.size, 0, none⟩))⟩ := hRR 4 _ 9 rfl rfl (by kernel_rfl) (by kernel_rfl)
   replace hKK : ∀ v w', Below W.heap.size W w' → v = Value.int .i64 0 → KK (Act.put fa _ v) w' := fun v w' h1 h2 => hKK v w' h1 h2
   have hX := X1.out.keep hW
   have tx := hX; obtain ⟨chb, cfz, ck0, ck1, ck2, ck3, ck4, ck5⟩ := tx
   clear hSame hRR
   rw [wanted_guard rfl rfl rfl ft3]
   rw [if_pos (by rfl)]
   go_simp
   refine hKK _ _ ?_ ?_
   ·
    exact grP
   ·
    exact rfl
  refine ObsT.cons (k' := 7) rfl ?_ ?_
  ·
   intro fa W hW hSame hRR KK hKK
   try dsimp only at hW
   obtain ⟨fv3, ft3, (rfl : fv3 = Value.bool false)⟩ := hRR 3 _ 8 rfl rfl (by kernel_rfl) (by kernel_rfl)
   obtain ⟨fv5, ft5, (rfl : fv5 = Value.int .i64 0)⟩ := hRR 5 _ 10 rfl rfl (by kernel_rfl) (by kernel_rfl)
   replace hKK : ∀ v w', Below W.heap.size W w' → v = Value.bool false → KK (Act.put fa _ v) w' := fun v w' h1 h2 => hKK v w' h1 h2
   clear hSame hRR
   rw [wanted_guard rfl rfl rfl ft3]
   rw [if_pos (by rfl)]
   go_simp
   refine hKK _ _ ?_ ?_
   ·
    exact grP
   ·
    exact rfl
  refine ObsT.cons (k' := 8) rfl ?_ ?_
  ·
   intro fa W hW hSame hRR KK hKK
   try dsimp only at hW
   obtain ⟨fv3, ft3, (rfl : fv3 = Value.bool false)⟩ := hRR 3 _ 8 rfl rfl (by kernel_rfl) (by kernel_rfl)
   obtain ⟨fv6, ft6, (rfl : fv6 = Value.bool false)⟩ := hRR 6 _ 11 rfl rfl (by kernel_rfl) (by kernel_rfl)
   replace hKK : ∀ v w', Below W.heap.size W w' → v = Value.bool false → KK (Act.put fa _ v) w' := fun v w' h1 h2 => hKK v w' h1 h2
   clear hSame hRR
   rw [if_pos (wanted_plain rfl)]
   go_simp
   refine hKK _ _ ?_ ?_
   ·
    exact grP
   ·
    exact rfl
  refine ObsT.cons (k' := 9) rfl ?_ ?_
  ·
   intro fa W hW hSame hRR KK hKK
   try dsimp only at hW
   obtain ⟨fv7, ft7, (rfl : fv7 = Value.bool false)⟩ := hRR 7 _ 12 rfl rfl (by kernel_rfl) (by kernel_rfl)
   replace hKK : ∀ v w', Below W.heap.size W w' → v = Value.bool false → KK (Act.put fa _ v) w' := fun v w' h1 h2 => hKK v w' h1 h2
   clear hSame hRR
   rw [if_pos (wanted_plain rfl)]
   go_simp
   refine hKK _ _ ?_ ?_
   ·
    exact grP
   ·
    exact rfl
  refine ObsT.cons (k' := 10) rfl ?_ ?_
  ·
   intro fa W hW hSame hRR KK hKK
   try dsimp only at hW
   have fb1 : fa.tmps[1]? = some (Value.pointer (some ⟨w.heap.size, 0, none⟩)) := (hSame.base 1 (by kernel_rfl)).trans (by kernel_rfl)
   obtain ⟨fv8, ft8, (rfl : fv8 = Value.bool false)⟩ := hRR 8 _ 13 rfl rfl (by kernel_rfl) (by kernel_rfl)
   replace hKK : ∀ v w', Below W.heap.size W w' → v = Value.agg #[.int .i64 0, .string ⟨#[]⟩, .int .i64 0, .int .i64 0, .int .i64 0, .int .i64 0] → KK (Act.put fa _ v) w' := fun v w' h1 h2 => hKK v w' h1 h2
   have hX := X1.out.keep hW
   have tx := hX; obtain ⟨chb, cfz, ck0, ck1, ck2, ck3, ck4, ck5⟩ := tx
   clear hSame hRR
   rw [wanted_guard rfl rfl rfl ft8]
   rw [if_pos (by rfl)]
   go_simp
   refine hKK _ _ ?_ ?_
   ·
    exact grP
   ·
    exact rfl
  refine ObsT.cons (k' := 11) rfl ?_ ?_
  ·
   intro fa W hW hSame hRR KK hKK
   try dsimp only at hW
   obtain ⟨fv8, ft8, (rfl : fv8 = Value.bool false)⟩ := hRR 8 _ 13 rfl rfl (by kernel_rfl) (by kernel_rfl)
   obtain ⟨fv9, ft9, (rfl : fv9 = Value.agg #[.int .i64 0, .string ⟨#[]⟩, .int .i64 0, .int .i64 0, .int .i64 0, .int .i64 0])⟩ := hRR 9 _ 14 rfl rfl (by kernel_rfl) (by kernel_rfl)
   replace hKK : ∀ v w', Below W.heap.size W w' → v = Value.agg #[.int .i64 0, .string ⟨#[]⟩, .int .i64 0, .int .i64 0, .int .i64 0, .int .i64 0] → KK (Act.put fa _ v) w' := fun v w' h1 h2 => hKK v w' h1 h2
   clear hSame hRR
   rw [wanted_guard rfl rfl rfl ft8]
   rw [if_pos (by rfl)]
   go_simp
   refine (PL.out _).mono ?_; rintro e w' ⟨rfl, hb⟩
   exact hKK _ _ hb rfl
  refine ObsT.cons (k' := 12) rfl ?_ ?_
  ·
   intro fa W hW hSame hRR KK hKK
   try dsimp only at hW
   have fb1 : fa.tmps[1]? = some (Value.pointer (some ⟨w.heap.size, 0, none⟩)) := (hSame.base 1 (by kernel_rfl)).trans (by kernel_rfl)
   obtain ⟨fv8, ft8, (rfl : fv8 = Value.bool false)⟩ := hRR 8 _ 13 rfl rfl (by kernel_rfl) (by kernel_rfl)
   replace hKK : ∀ v w', Below W.heap.size W w' → v = Value.agg #[.int .i64 0, .string ⟨#[]⟩, .int .i64 0, .int .i64 0, .int .i64 0, .int .i64 0] → KK (Act.put fa _ v) w' := fun v w' h1 h2 => hKK v w' h1 h2
   have hX := X1.out.keep hW
   have tx := hX; obtain ⟨chb, cfz, ck0, ck1, ck2, ck3, ck4, ck5⟩ := tx
   clear hSame hRR
   rw [wanted_guard rfl rfl rfl ft8]
   rw [if_pos (by rfl)]
   go_simp
   refine hKK _ _ ?_ ?_
   ·
    exact grP
   ·
    exact rfl
  refine ObsT.cons (k' := 13) rfl ?_ ?_
  ·
   intro fa W hW hSame hRR KK hKK
   try dsimp only at hW
   obtain ⟨fv8, ft8, (rfl : fv8 = Value.bool false)⟩ := hRR 8 _ 13 rfl rfl (by kernel_rfl) (by kernel_rfl)
   obtain ⟨fv10, ft10, (rfl : fv10 = Value.agg #[.int .i64 0, .string ⟨#[]⟩, .int .i64 0, .int .i64 0, .int .i64 0, .int .i64 0])⟩ := hRR 10 _ 15 rfl rfl (by kernel_rfl) (by kernel_rfl)
   obtain ⟨fv11, ft11, (rfl : fv11 = Value.agg #[.int .i64 0, .string ⟨#[]⟩, .int .i64 0, .int .i64 0, .int .i64 0, .int .i64 0])⟩ := hRR 11 _ 16 rfl rfl (by kernel_rfl) (by kernel_rfl)
   replace hKK : ∀ v w', Below W.heap.size W w' → v = Value.bool false → KK (Act.put fa _ v) w' := fun v w' h1 h2 => hKK v w' h1 h2
   clear hSame hRR
   rw [wanted_guard rfl rfl rfl ft8]
   rw [if_pos (by rfl)]
   go_simp
   refine hKK _ _ ?_ ?_
   ·
    exact grP
   ·
    exact rfl
  refine ObsT.cons (k' := 14) rfl ?_ ?_
  ·
   intro fa W hW hSame hRR KK hKK
   try dsimp only at hW
   obtain ⟨fv8, ft8, (rfl : fv8 = Value.bool false)⟩ := hRR 8 _ 13 rfl rfl (by kernel_rfl) (by kernel_rfl)
   obtain ⟨fv12, ft12, (rfl : fv12 = Value.bool false)⟩ := hRR 12 _ 17 rfl rfl (by kernel_rfl) (by kernel_rfl)
   replace hKK : ∀ v w', Below W.heap.size W w' → v = Value.bool false → KK (Act.put fa _ v) w' := fun v w' h1 h2 => hKK v w' h1 h2
   clear hSame hRR
   rw [if_pos (wanted_plain rfl)]
   go_simp
   refine hKK _ _ ?_ ?_
   ·
    exact grP
   ·
    exact rfl
  exact ObsT.nil
 case hlast =>
  intro fa w2 d2 hSame hRR
  try dsimp only at d2
  obtain ⟨zz13, f18, rfl⟩ := hRR 13 _ 18 rfl rfl rfl
  rw [Same_shape hSame]
  simp only [List.filterMap_cons, List.filterMap_nil, List.foldl_cons, List.foldl_nil]
  have g18 : fa.tmps.getD 18 undef = Value.bool false := by simp [Array.getD_eq_getD_getElem?, f18]
  rw [g18]
  generalize fa.tmps.getD 5 undef = y5
  generalize fa.tmps.getD 6 undef = y6
  generalize fa.tmps.getD 7 undef = y7
  generalize fa.tmps.getD 8 undef = y8
  generalize fa.tmps.getD 9 undef = y9
  generalize fa.tmps.getD 10 undef = y10
  generalize fa.tmps.getD 11 undef = y11
  generalize fa.tmps.getD 12 undef = y12
  generalize fa.tmps.getD 13 undef = y13
  generalize fa.tmps.getD 14 undef = y14
  generalize fa.tmps.getD 15 undef = y15
  generalize fa.tmps.getD 16 undef = y16
  generalize fa.tmps.getD 17 undef = y17
  clear hSame hRR f18 g18
  simp only [Act.put, List.setIfInBounds_toArray, List.set_cons_succ, List.set_cons_zero]
  have B2 := Lib.hid (below_step B1.out d2)
  have X := X1.out.keep d2
  have Xh := X.hb; have Xf := X.fz; have X0c := X.k0; have X1c := X.k1; have X2c := X.k2; have X3c := X.k3; have X4c := X.k4; have X5c := X.k5
  clear d2 X
  go_wp2_with fail
  go_ret
  exact ⟨rfl, B2.out⟩
set_option maxHeartbeats 4000000 in
set_option maxRecDepth 100000 in
theorem rqright_names (w : World)  :
  Calls Tryz.prog 11 #[.agg #[.int .i64 6, .string ⟨#[]⟩, .int .i64 0, .int .i64 0, .int .i64 0, .int .i64 0]] w fun e w' => e = .returned (.bool true) ∧ Below w.heap.size w w' := by
 have PL := Lib.hid (fun W => rqplain_any 6 0 0 0 0 ⟨#[]⟩ W)
 simp only [Int.reduceEq, or_false, false_or, or_true, true_or, or_self, if_true, if_false] at PL
 go_enter Tryz.func11, Tryz.ntmps11
 go_upto_region 1 with (fail)
 refine wp_named ?_; intro w1 hw1
 have d1 : Below w.heap.size w w1 := by rw [hw1]; exact gr0
 have B1 := Lib.hid d1
 have X1 : Hid (Bk6 w1 w.heap.size (.int .i64 6) (.string ⟨#[]⟩) (.int .i64 0) (.int .i64 0) (.int .i64 0) (.int .i64 0)) := Lib.hid (by rw [hw1]; exact ⟨by simp <;> omega, by intro j; simp [go_sem], by simp [go_sem], by simp [go_sem], by simp [go_sem], by simp [go_sem], by simp [go_sem], by simp [go_sem]⟩)
 clear d1 hw1
 refine wp_region_till (R := markR [(fun v _ => v = Value.pointer (some ⟨w.heap.size, 0, none⟩)), (fun v _ => v = Value.int .i64 6), (fun v _ => v = Value.bool false), (fun v _ => v = Value.bool false), (fun v _ => v = Value.pointer (some ⟨w.heap.size, 0, none⟩)), (fun v _ => v = Value.int .i64 6), (fun v _ => v = Value.bool false), (fun v _ => v = Value.bool false), (fun v _ => v = Value.bool false), (fun v _ => v = Value.agg #[.int .i64 6, .string ⟨#[]⟩, .int .i64 0, .int .i64 0, .int .i64 0, .int .i64 0]), (fun v _ => v = Value.agg #[.int .i64 6, .string ⟨#[]⟩, .int .i64 0, .int .i64 0, .int .i64 0, .int .i64 0]), (fun v _ => v = Value.agg #[.int .i64 6, .string ⟨#[]⟩, .int .i64 0, .int .i64 0, .int .i64 0, .int .i64 0]), (fun v _ => v = Value.bool false), (fun v _ => v = Value.bool false)]) (till := fun _ => none) (D := fun W => Below w1.heap.size w1 W) (G := fun _ W W' => Below W.heap.size W W') (by rfl) ?hbeg ⟨by kernel_rfl, by kernel_rfl, by kernel_rfl, ?hkeep, ?hstab, ObsT.all ?hobs, ?hlast⟩
 case hbeg => exact (Below.refl _ _).drew
 case hkeep => intro i w1 w2 hC hG; exact below_step hC hG
 case hstab =>
  intro i j hij ht v w1 w2 hG hm
  match j, hm with
  | 0, hm => exact hm
  | 1, hm => exact hm
  | 2, hm => exact hm
  | 3, hm => exact hm
  | 4, hm => exact hm
  | 5, hm => exact hm
  | 6, hm => exact hm
  | 7, hm => exact hm
  | 8, hm => exact hm
  | 9, hm => exact hm
  | 10, hm => exact hm
  | 11, hm => exact hm
  | 12, hm => exact hm
  | 13, hm => exact hm
  | j + 14, hm => exact trivial
 case hobs =>
  refine ObsT.cons (k' := 1) rfl ?_ ?_
  ·
   intro fa W hW hSame hRR KK hKK
   try dsimp only at hW
   have fb1 : fa.tmps[1]? = some (Value.pointer (some ⟨w.heap.size, 0, none⟩)) := (hSame.base 1 (by kernel_rfl)).trans (by kernel_rfl)
   replace hKK : ∀ v w', Below W.heap.size W w' → v = Value.pointer (some ⟨w.heap.size, 0, none⟩) → KK (Act.put fa _ v) w' := fun v w' h1 h2 => hKK v w' h1 h2
   clear hSame hRR
   rw [if_pos (wanted_plain rfl)]
   go_simp
   refine hKK _ _ ?_ ?_
   ·
    exact grP
   ·
    exact rfl
  refine ObsT.cons (k' := 2) rfl ?_ ?_
  ·
   intro fa W hW hSame hRR KK hKK
   try dsimp only at hW
   obtain ⟨fv0, ft0, (rfl : fv0 = Value.pointer (some ⟨w.heap.size, 0, none⟩))⟩ := hRR 0 _ 5 rfl rfl (by kernel_rfl) (by kernel_rfl)
   replace hKK : ∀ v w', Below W.heap.size W w' → v = Value.int .i64 6 → KK (Act.put fa _ v) w' := fun v w' h1 h2 => hKK v w' h1 h2
   have hX := X1.out.keep hW
   have tx := hX; obtain ⟨chb, cfz, ck0, ck1, ck2, ck3, ck4, ck5⟩ := tx
   clear hSame hRR
   rw [if_pos (wanted_plain rfl)]
   go_simp
   refine hKK _ _ ?_ ?_
   ·
    exact grP
   ·
    exact rfl
  refine ObsT.cons (k' := 3) rfl ?_ ?_
  ·
   intro fa W hW hSame hRR KK hKK
   try dsimp only at hW
   obtain ⟨fv1, ft1, (rfl : fv1 = Value.int .i64 6)⟩ := hRR 1 _ 6 rfl rfl (by kernel_rfl) (by kernel_rfl)
   replace hKK : ∀ v w', Below W.heap.size W w' → v = Value.bool false → KK (Act.put fa _ v) w' := fun v w' h1 h2 => hKK v w' h1 h2
   clear hSame hRR
   rw [if_pos (wanted_plain rfl)]
   go_simp
   refine hKK _ _ ?_ ?_
   ·
    exact grP
   ·
    exact rfl
  refine ObsT.cons (k' := 4) rfl ?_ ?_
  ·
   intro fa W hW hSame hRR KK hKK
   try dsimp only at hW
   obtain ⟨fv2, ft2, (rfl : fv2 = Value.bool false)⟩ := hRR 2 _ 7 rfl rfl (by kernel_rfl) (by kernel_rfl)
   replace hKK : ∀ v w', Below W.heap.size W w' → v = Value.bool false → KK (Act.put fa _ v) w' := fun v w' h1 h2 => hKK v w' h1 h2
   clear hSame hRR
   rw [if_pos (wanted_plain rfl)]
   go_simp
   refine hKK _ _ ?_ ?_
   ·
    exact grP
   ·
    exact rfl
  refine ObsT.cons (k' := 5) rfl ?_ ?_
  ·
   intro fa W hW hSame hRR KK hKK
   try dsimp only at hW
   have fb1 : fa.tmps[1]? = some (Value.pointer (some ⟨w.heap.size, 0, none⟩)) := (hSame.base 1 (by kernel_rfl)).trans (by kernel_rfl)
   obtain ⟨fv3, ft3, (rfl : fv3 = Value.bool false)⟩ := hRR 3 _ 8 rfl rfl (by kernel_rfl) (by kernel_rfl)
   replace hKK : ∀ v w', Below W.heap.size W w' → v = Value.pointer (some ⟨w.heap.size, 0, none⟩) → KK (Act.put fa _ v) w' := fun v w' h1 h2 => hKK v w' h1 h2
   clear hSame hRR
   rw [wanted_guard rfl rfl rfl ft3]
   rw [if_pos (by rfl)]
   go_simp
   refine hKK _ _ ?_ ?_
   ·
    exact grP
   ·
    exact rfl
  refine ObsT.cons (k' := 6) rfl ?_ ?_
  ·
   intro fa W hW hSame hRR KK hKK
   try dsimp only at hW
   obtain ⟨fv3, ft3, (rfl : fv3 = Value.bool false)⟩ := hRR 3 _ 8 rfl rfl (by kernel_rfl) (by kernel_rfl)
   obtain ⟨fv4, ft4, (rfl : fv4 = Value.pointer (some ⟨w.heap.size, 0, none⟩))⟩ := hRR 4 _ 9 rfl rfl (by kernel_rfl) (by kernel_rfl)
   replace hKK : ∀ v w', Below W.heap.size W w' → v = Value.int .i64 6 → KK (Act.put fa _ v) w' := fun v w' h1 h2 => hKK v w' h1 h2
   have hX := X1.out.keep hW
   have tx := hX; obtain ⟨chb, cfz, ck0, ck1, ck2, ck3, ck4, ck5⟩ := tx
   clear hSame hRR
   rw [wanted_guard rfl rfl rfl ft3]
   rw [if_pos (by rfl)]
   go_simp
   refine hKK _ _ ?_ ?_
   ·
    exact grP
   ·
    exact rfl
  refine ObsT.cons (k' := 7) rfl ?_ ?_
  ·
   intro fa W hW hSame hRR KK hKK
   try dsimp only at hW
   obtain ⟨fv3, ft3, (rfl : fv3 = Value.bool false)⟩ := hRR 3 _ 8 rfl rfl (by kernel_rfl) (by kernel_rfl)
   obtain ⟨fv5, ft5, (rfl : fv5 = Value.int .i64 6)⟩ := hRR 5 _ 10 rfl rfl (by kernel_rfl) (by kernel_rfl)
   replace hKK : ∀ v w', Below W.heap.size W w' → v = Value.bool false → KK (Act.put fa _ v) w' := fun v w' h1 h2 => hKK v w' h1 h2
   clear hSame hRR
   rw [wanted_guard rfl rfl rfl ft3]
   rw [if_pos (by rfl)]
   go_simp
   refine hKK _ _ ?_ ?_
   ·
    exact grP
   ·
    exact rfl
  refine ObsT.cons (k' := 8) rfl ?_ ?_
  ·
   intro fa W hW hSame hRR KK hKK
   try dsimp only at hW
   obtain ⟨fv3, ft3, (rfl : fv3 = Value.bool false)⟩ := hRR 3 _ 8 rfl rfl (by kernel_rfl) (by kernel_rfl)
   obtain ⟨fv6, ft6, (rfl : fv6 = Value.bool false)⟩ := hRR 6 _ 11 rfl rfl (by kernel_rfl) (by kernel_rfl)
   replace hKK : ∀ v w', Below W.heap.size W w' → v = Value.bool false → KK (Act.put fa _ v) w' := fun v w' h1 h2 => hKK v w' h1 h2
   clear hSame hRR
   rw [if_pos (wanted_plain rfl)]
   go_simp
   refine hKK _ _ ?_ ?_
   ·
    exact grP
   ·
    exact rfl
  refine ObsT.cons (k' := 9) rfl ?_ ?_
  ·
   intro fa W hW hSame hRR KK hKK
   try dsimp only at hW
   obtain ⟨fv7, ft7, (rfl : fv7 = Value.bool false)⟩ := hRR 7 _ 12 rfl rfl (by kernel_rfl) (by kernel_rfl)
   replace hKK : ∀ v w', Below W.heap.size W w' → v = Value.bool false → KK (Act.put fa _ v) w' := fun v w' h1 h2 => hKK v w' h1 h2
   clear hSame hRR
   rw [if_pos (wanted_plain rfl)]
   go_simp
   refine hKK _ _ ?_ ?_
   ·
    exact grP
   ·
    exact rfl
  refine ObsT.cons (k' := 10) rfl ?_ ?_
  ·
   intro fa W hW hSame hRR KK hKK
   try dsimp only at hW
   have fb1 : fa.tmps[1]? = some (Value.pointer (some ⟨w.heap.size, 0, none⟩)) := (hSame.base 1 (by kernel_rfl)).trans (by kernel_rfl)
   obtain ⟨fv8, ft8, (rfl : fv8 = Value.bool false)⟩ := hRR 8 _ 13 rfl rfl (by kernel_rfl) (by kernel_rfl)
   replace hKK : ∀ v w', Below W.heap.size W w' → v = Value.agg #[.int .i64 6, .string ⟨#[]⟩, .int .i64 0, .int .i64 0, .int .i64 0, .int .i64 0] → KK (Act.put fa _ v) w' := fun v w' h1 h2 => hKK v w' h1 h2
   have hX := X1.out.keep hW
   have tx := hX; obtain ⟨chb, cfz, ck0, ck1, ck2, ck3, ck4, ck5⟩ := tx
   clear hSame hRR
   rw [wanted_guard rfl rfl rfl ft8]
   rw [if_pos (by rfl)]
   go_simp
   refine hKK _ _ ?_ ?_
   ·
    exact grP
   ·
    exact rfl
  refine ObsT.cons (k' := 11) rfl ?_ ?_
  ·
   intro fa W hW hSame hRR KK hKK
   try dsimp only at hW
   obtain ⟨fv8, ft8, (rfl : fv8 = Value.bool false)⟩ := hRR 8 _ 13 rfl rfl (by kernel_rfl) (by kernel_rfl)
   obtain ⟨fv9, ft9, (rfl : fv9 = Value.agg #[.int .i64 6, .string ⟨#[]⟩, .int .i64 0, .int .i64 0, .int .i64 0, .int .i64 0])⟩ := hRR 9 _ 14 rfl rfl (by kernel_rfl) (by kernel_rfl)
   replace hKK : ∀ v w', Below W.heap.size W w' → v = Value.agg #[.int .i64 6, .string ⟨#[]⟩, .int .i64 0, .int .i64 0, .int .i64 0, .int .i64 0] → KK (Act.put fa _ v) w' := fun v w' h1 h2 => hKK v w' h1 h2
   clear hSame hRR
   rw [wanted_guard rfl rfl rfl ft8]
   rw [if_pos (by rfl)]
   go_simp
   refine (PL.out _).mono ?_; rintro e w' ⟨rfl, hb⟩
   exact hKK _ _ hb rfl
  refine ObsT.cons (k' := 12) rfl ?_ ?_
  ·
   intro fa W hW hSame hRR KK hKK
   try dsimp only at hW
   have fb1 : fa.tmps[1]? = some (Value.pointer (some ⟨w.heap.size, 0, none⟩)) := (hSame.base 1 (by kernel_rfl)).trans (by kernel_rfl)
   obtain ⟨fv8, ft8, (rfl : fv8 = Value.bool false)⟩ := hRR 8 _ 13 rfl rfl (by kernel_rfl) (by kernel_rfl)
   replace hKK : ∀ v w', Below W.heap.size W w' → v = Value.agg #[.int .i64 6, .string ⟨#[]⟩, .int .i64 0, .int .i64 0, .int .i64 0, .int .i64 0] → KK (Act.put fa _ v) w' := fun v w' h1 h2 => hKK v w' h1 h2
   have hX := X1.out.keep hW
   have tx := hX; obtain ⟨chb, cfz, ck0, ck1, ck2, ck3, ck4, ck5⟩ := tx
   clear hSame hRR
   rw [wanted_guard rfl rfl rfl ft8]
   rw [if_pos (by rfl)]
   go_simp
   refine hKK _ _ ?_ ?_
   ·
    exact grP
   ·
    exact rfl
  refine ObsT.cons (k' := 13) rfl ?_ ?_
  ·
   intro fa W hW hSame hRR KK hKK
   try dsimp only at hW
   obtain ⟨fv8, ft8, (rfl : fv8 = Value.bool false)⟩ := hRR 8 _ 13 rfl rfl (by kernel_rfl) (by kernel_rfl)
   obtain ⟨fv10, ft10, (rfl : fv10 = Value.agg #[.int .i64 6, .string ⟨#[]⟩, .int .i64 0, .int .i64 0, .int .i64 0, .int .i64 0])⟩ := hRR 10 _ 15 rfl rfl (by kernel_rfl) (by kernel_rfl)
   obtain ⟨fv11, ft11, (rfl : fv11 = Value.agg #[.int .i64 6, .string ⟨#[]⟩, .int .i64 0, .int .i64 0, .int .i64 0, .int .i64 0])⟩ := hRR 11 _ 16 rfl rfl (by kernel_rfl) (by kernel_rfl)
   replace hKK : ∀ v w', Below W.heap.size W w' → v = Value.bool false → KK (Act.put fa _ v) w' := fun v w' h1 h2 => hKK v w' h1 h2
   clear hSame hRR
   rw [wanted_guard rfl rfl rfl ft8]
   rw [if_pos (by rfl)]
   go_simp
   refine hKK _ _ ?_ ?_
   ·
    exact grP
   ·
    exact rfl
  refine ObsT.cons (k' := 14) rfl ?_ ?_
  ·
   intro fa W hW hSame hRR KK hKK
   try dsimp only at hW
   obtain ⟨fv8, ft8, (rfl : fv8 = Value.bool false)⟩ := hRR 8 _ 13 rfl rfl (by kernel_rfl) (by kernel_rfl)
   obtain ⟨fv12, ft12, (rfl : fv12 = Value.bool false)⟩ := hRR 12 _ 17 rfl rfl (by kernel_rfl) (by kernel_rfl)
   replace hKK : ∀ v w', Below W.heap.size W w' → v = Value.bool false → KK (Act.put fa _ v) w' := fun v w' h1 h2 => hKK v w' h1 h2
   clear hSame hRR
   rw [if_pos (wanted_plain rfl)]
   go_simp
   refine hKK _ _ ?_ ?_
   ·
    exact grP
   ·
    exact rfl
  exact ObsT.nil
 case hlast =>
  intro fa w2 d2 hSame hRR
  try dsimp only at d2
  obtain ⟨zz13, f18, rfl⟩ := hRR 13 _ 18 rfl rfl rfl
  rw [Same_shape hSame]
  simp only [List.filterMap_cons, List.filterMap_nil, List.foldl_cons, List.foldl_nil]
  have g18 : fa.tmps.getD 18 undef = Value.bool false := by simp [Array.getD_eq_getD_getElem?, f18]
  rw [g18]
  generalize fa.tmps.getD 5 undef = y5
  generalize fa.tmps.getD 6 undef = y6
  generalize fa.tmps.getD 7 undef = y7
  generalize fa.tmps.getD 8 undef = y8
  generalize fa.tmps.getD 9 undef = y9
  generalize fa.tmps.getD 10 undef = y10
  generalize fa.tmps.getD 11 undef = y11
  generalize fa.tmps.getD 12 undef = y12
  generalize fa.tmps.getD 13 undef = y13
  generalize fa.tmps.getD 14 undef = y14
  generalize fa.tmps.getD 15 undef = y15
  generalize fa.tmps.getD 16 undef = y16
  generalize fa.tmps.getD 17 undef = y17
  clear hSame hRR f18 g18
  simp only [Act.put, List.setIfInBounds_toArray, List.set_cons_succ, List.set_cons_zero]
  have B2 := Lib.hid (below_step B1.out d2)
  have X := X1.out.keep d2
  have Xh := X.hb; have Xf := X.fz; have X0c := X.k0; have X1c := X.k1; have X2c := X.k2; have X3c := X.k3; have X4c := X.k4; have X5c := X.k5
  clear d2 X
  go_wp2_with fail
  go_ret
  exact ⟨rfl, B2.out⟩
set_option maxHeartbeats 4000000 in
set_option maxRecDepth 100000 in
theorem rqright_kn (k : Int) (t : Int) (z : ByteArray) (hzs : z.size ≤ 1000) (w : World) (hk : k = 1 ∨ k = 2 ∨ k = 4) (hnm : Lk.nm z.data.toList ≠ 0) :
  Calls Tryz.prog 11 #[.agg #[.int .i64 k, .string z, .int .i64 t, .int .i64 0, .int .i64 0, .int .i64 0]] w fun e w' => e = .returned (.bool false) ∧ Below w.heap.size w w' := by
 have PL := Lib.hid (fun W => rqplain_any k t 0 0 0 z W)
 rw [if_neg (by omega), if_neg (by omega), if_neg (by omega), if_neg (by omega), if_neg (by omega)] at PL
 have g0 : decide (k < 0) = false := decide_eq_false (by omega)
 have g8 : decide (7 < k) = false := decide_eq_false (by omega)
 have q0 : (k == 0) = false := by rw [beq_eq_false_iff_ne]; omega
 have q6 : (k == 6) = false := by rw [beq_eq_false_iff_ne]; omega
 have q3 : (k == 3) = false := by rw [beq_eq_false_iff_ne]; omega
 have q5 : (k == 5) = false := by rw [beq_eq_false_iff_ne]; omega
 have q7 : (k == 7) = false := by rw [beq_eq_false_iff_ne]; omega
 have NM := Lib.hid (fun W => rrname_any z W (by unfold maxLen; omega))
 obtain ⟨y, hy⟩ : ∃ y, y = Lk.nm z.data.toList := ⟨_, rfl⟩
 rw [← hy] at NM hnm
 have gy : (y == 0) = false := by rw [beq_eq_false_iff_ne]; exact hnm
 clear hy
 go_enter Tryz.func11, Tryz.ntmps11
 go_upto_region 1 with (fail)
 refine wp_named ?_; intro w1 hw1
 have d1 : Below w.heap.size w w1 := by rw [hw1]; exact gr0
 have B1 := Lib.hid d1
 have X1 : Hid (Bk6 w1 w.heap.size (.int .i64 k) (.string z) (.int .i64 t) (.int .i64 0) (.int .i64 0) (.int .i64 0)) := Lib.hid (by rw [hw1]; exact ⟨by simp <;> omega, by intro j; simp [go_sem], by simp [go_sem], by simp [go_sem], by simp [go_sem], by simp [go_sem], by simp [go_sem], by simp [go_sem]⟩)
 clear d1 hw1
 refine wp_region_till (R := markR [(fun v _ => v = Value.pointer (some ⟨w.heap.size, 0, none⟩)), (fun v _ => v = Value.int .i64 k), (fun v _ => v = Value.bool false), (fun v _ => v = Value.bool false), (fun v _ => v = Value.pointer (some ⟨w.heap.size, 0, none⟩)), (fun v _ => v = Value.int .i64 k), (fun v _ => v = Value.bool false), (fun v _ => v = Value.bool false), (fun v _ => v = Value.bool false), (fun v _ => v = Value.agg #[.int .i64 k, .string z, .int .i64 t, .int .i64 0, .int .i64 0, .int .i64 0]), (fun v _ => v = Value.agg #[.int .i64 k, .string z, .int .i64 t, .int .i64 0, .int .i64 0, .int .i64 0]), (fun v _ => v = Value.agg #[.int .i64 k, .string z, .int .i64 t, .int .i64 0, .int .i64 0, .int .i64 0]), (fun v _ => v = Value.bool false), (fun v _ => v = Value.bool false)]) (till := fun _ => none) (D := fun W => Below w1.heap.size w1 W) (G := fun _ W W' => Below W.heap.size W W') (by rfl) ?hbeg ⟨by kernel_rfl, by kernel_rfl, by kernel_rfl, ?hkeep, ?hstab, ObsT.all ?hobs, ?hlast⟩
 case hbeg => exact (Below.refl _ _).drew
 case hkeep => intro i w1 w2 hC hG; exact below_step hC hG
 case hstab =>
  intro i j hij ht v w1 w2 hG hm
  match j, hm with
  | 0, hm => exact hm
  | 1, hm => exact hm
  | 2, hm => exact hm
  | 3, hm => exact hm
  | 4, hm => exact hm
  | 5, hm => exact hm
  | 6, hm => exact hm
  | 7, hm => exact hm
  | 8, hm => exact hm
  | 9, hm => exact hm
  | 10, hm => exact hm
  | 11, hm => exact hm
  | 12, hm => exact hm
  | 13, hm => exact hm
  | j + 14, hm => exact trivial
 case hobs =>
  refine ObsT.cons (k' := 1) rfl ?_ ?_
  ·
   intro fa W hW hSame hRR KK hKK
   try dsimp only at hW
   have fb1 : fa.tmps[1]? = some (Value.pointer (some ⟨w.heap.size, 0, none⟩)) := (hSame.base 1 (by kernel_rfl)).trans (by kernel_rfl)
   replace hKK : ∀ v w', Below W.heap.size W w' → v = Value.pointer (some ⟨w.heap.size, 0, none⟩) → KK (Act.put fa _ v) w' := fun v w' h1 h2 => hKK v w' h1 h2
   clear hSame hRR
   rw [if_pos (wanted_plain rfl)]
   go_simp
   refine hKK _ _ ?_ ?_
   ·
    exact grP
   ·
    exact rfl
  refine ObsT.cons (k' := 2) rfl ?_ ?_
  ·
   intro fa W hW hSame hRR KK hKK
   try dsimp only at hW
   obtain ⟨fv0, ft0, (rfl : fv0 = Value.pointer (some ⟨w.heap.size, 0, none⟩))⟩ := hRR 0 _ 5 rfl rfl (by kernel_rfl) (by kernel_rfl)
   replace hKK : ∀ v w', Below W.heap.size W w' → v = Value.int .i64 k → KK (Act.put fa _ v) w' := fun v w' h1 h2 => hKK v w' h1 h2
   have hX := X1.out.keep hW
   have tx := hX; obtain ⟨chb, cfz, ck0, ck1, ck2, ck3, ck4, ck5⟩ := tx
   clear hSame hRR
   rw [if_pos (wanted_plain rfl)]
   go_simp
   refine hKK _ _ ?_ ?_
   ·
    exact grP
   ·
    exact rfl
  refine ObsT.cons (k' := 3) rfl ?_ ?_
  ·
   intro fa W hW hSame hRR KK hKK
   try dsimp only at hW
   obtain ⟨fv1, ft1, (rfl : fv1 = Value.int .i64 k)⟩ := hRR 1 _ 6 rfl rfl (by kernel_rfl) (by kernel_rfl)
   replace hKK : ∀ v w', Below W.heap.size W w' → v = Value.bool false → KK (Act.put fa _ v) w' := fun v w' h1 h2 => hKK v w' h1 h2
   clear hSame hRR
   rw [if_pos (wanted_plain rfl)]
   go_simp
   refine hKK _ _ ?_ ?_
   ·
    exact grP
   ·
    exact rfl
  refine ObsT.cons (k' := 4) rfl ?_ ?_
  ·
   intro fa W hW hSame hRR KK hKK
   try dsimp only at hW
   obtain ⟨fv2, ft2, (rfl : fv2 = Value.bool false)⟩ := hRR 2 _ 7 rfl rfl (by kernel_rfl) (by kernel_rfl)
   replace hKK : ∀ v w', Below W.heap.size W w' → v = Value.bool false → KK (Act.put fa _ v) w' := fun v w' h1 h2 => hKK v w' h1 h2
   clear hSame hRR
   rw [if_pos (wanted_plain rfl)]
   go_simp
   refine hKK _ _ ?_ ?_
   ·
    exact grP
   ·
    exact rfl
  refine ObsT.cons (k' := 5) rfl ?_ ?_
  ·
   intro fa W hW hSame hRR KK hKK
   try dsimp only at hW
   have fb1 : fa.tmps[1]? = some (Value.pointer (some ⟨w.heap.size, 0, none⟩)) := (hSame.base 1 (by kernel_rfl)).trans (by kernel_rfl)
   obtain ⟨fv3, ft3, (rfl : fv3 = Value.bool false)⟩ := hRR 3 _ 8 rfl rfl (by kernel_rfl) (by kernel_rfl)
   replace hKK : ∀ v w', Below W.heap.size W w' → v = Value.pointer (some ⟨w.heap.size, 0, none⟩) → KK (Act.put fa _ v) w' := fun v w' h1 h2 => hKK v w' h1 h2
   clear hSame hRR
   rw [wanted_guard rfl rfl rfl ft3]
   rw [if_pos (by rfl)]
   go_simp
   refine hKK _ _ ?_ ?_
   ·
    exact grP
   ·
    exact rfl
  refine ObsT.cons (k' := 6) rfl ?_ ?_
  ·
   intro fa W hW hSame hRR KK hKK
   try dsimp only at hW
   obtain ⟨fv3, ft3, (rfl : fv3 = Value.bool false)⟩ := hRR 3 _ 8 rfl rfl (by kernel_rfl) (by kernel_rfl)
   obtain ⟨fv4, ft4, (rfl : fv4 = Value.pointer (some ⟨w.heap.size, 0, none⟩))⟩ := hRR 4 _ 9 rfl rfl (by kernel_rfl) (by kernel_rfl)
   replace hKK : ∀ v w', Below W.heap.size W w' → v = Value.int .i64 k → KK (Act.put fa _ v) w' := fun v w' h1 h2 => hKK v w' h1 h2
   have hX := X1.out.keep hW
   have tx := hX; obtain ⟨chb, cfz, ck0, ck1, ck2, ck3, ck4, ck5⟩ := tx
   clear hSame hRR
   rw [wanted_guard rfl rfl rfl ft3]
   rw [if_pos (by rfl)]
   go_simp
   refine hKK _ _ ?_ ?_
   ·
    exact grP
   ·
    exact rfl
  refine ObsT.cons (k' := 7) rfl ?_ ?_
  ·
   intro fa W hW hSame hRR KK hKK
   try dsimp only at hW
   obtain ⟨fv3, ft3, (rfl : fv3 = Value.bool false)⟩ := hRR 3 _ 8 rfl rfl (by kernel_rfl) (by kernel_rfl)
   obtain ⟨fv5, ft5, (rfl : fv5 = Value.int .i64 k)⟩ := hRR 5 _ 10 rfl rfl (by kernel_rfl) (by kernel_rfl)
   replace hKK : ∀ v w', Below W.heap.size W w' → v = Value.bool false → KK (Act.put fa _ v) w' := fun v w' h1 h2 => hKK v w' h1 h2
   clear hSame hRR
   rw [wanted_guard rfl rfl rfl ft3]
   rw [if_pos (by rfl)]
   go_simp
   refine hKK _ _ ?_ ?_
   ·
    exact grP
   ·
    exact rfl
  refine ObsT.cons (k' := 8) rfl ?_ ?_
  ·
   intro fa W hW hSame hRR KK hKK
   try dsimp only at hW
   obtain ⟨fv3, ft3, (rfl : fv3 = Value.bool false)⟩ := hRR 3 _ 8 rfl rfl (by kernel_rfl) (by kernel_rfl)
   obtain ⟨fv6, ft6, (rfl : fv6 = Value.bool false)⟩ := hRR 6 _ 11 rfl rfl (by kernel_rfl) (by kernel_rfl)
   replace hKK : ∀ v w', Below W.heap.size W w' → v = Value.bool false → KK (Act.put fa _ v) w' := fun v w' h1 h2 => hKK v w' h1 h2
   clear hSame hRR
   rw [if_pos (wanted_plain rfl)]
   go_simp
   refine hKK _ _ ?_ ?_
   ·
    exact grP
   ·
    exact rfl
  refine ObsT.cons (k' := 9) rfl ?_ ?_
  ·
   intro fa W hW hSame hRR KK hKK
   try dsimp only at hW
   obtain ⟨fv7, ft7, (rfl : fv7 = Value.bool false)⟩ := hRR 7 _ 12 rfl rfl (by kernel_rfl) (by kernel_rfl)
   replace hKK : ∀ v w', Below W.heap.size W w' → v = Value.bool false → KK (Act.put fa _ v) w' := fun v w' h1 h2 => hKK v w' h1 h2
   clear hSame hRR
   rw [if_pos (wanted_plain rfl)]
   go_simp
   refine hKK _ _ ?_ ?_
   ·
    exact grP
   ·
    exact rfl
  refine ObsT.cons (k' := 10) rfl ?_ ?_
  ·
   intro fa W hW hSame hRR KK hKK
   try dsimp only at hW
   have fb1 : fa.tmps[1]? = some (Value.pointer (some ⟨w.heap.size, 0, none⟩)) := (hSame.base 1 (by kernel_rfl)).trans (by kernel_rfl)
   obtain ⟨fv8, ft8, (rfl : fv8 = Value.bool false)⟩ := hRR 8 _ 13 rfl rfl (by kernel_rfl) (by kernel_rfl)
   replace hKK : ∀ v w', Below W.heap.size W w' → v = Value.agg #[.int .i64 k, .string z, .int .i64 t, .int .i64 0, .int .i64 0, .int .i64 0] → KK (Act.put fa _ v) w' := fun v w' h1 h2 => hKK v w' h1 h2
   have hX := X1.out.keep hW
   have tx := hX; obtain ⟨chb, cfz, ck0, ck1, ck2, ck3, ck4, ck5⟩ := tx
   clear hSame hRR
   rw [wanted_guard rfl rfl rfl ft8]
   rw [if_pos (by rfl)]
   go_simp
   refine hKK _ _ ?_ ?_
   ·
    exact grP
   ·
    exact rfl
  refine ObsT.cons (k' := 11) rfl ?_ ?_
  ·
   intro fa W hW hSame hRR KK hKK
   try dsimp only at hW
   obtain ⟨fv8, ft8, (rfl : fv8 = Value.bool false)⟩ := hRR 8 _ 13 rfl rfl (by kernel_rfl) (by kernel_rfl)
   obtain ⟨fv9, ft9, (rfl : fv9 = Value.agg #[.int .i64 k, .string z, .int .i64 t, .int .i64 0, .int .i64 0, .int .i64 0])⟩ := hRR 9 _ 14 rfl rfl (by kernel_rfl) (by kernel_rfl)
   replace hKK : ∀ v w', Below W.heap.size W w' → v = Value.agg #[.int .i64 k, .string z, .int .i64 t, .int .i64 0, .int .i64 0, .int .i64 0] → KK (Act.put fa _ v) w' := fun v w' h1 h2 => hKK v w' h1 h2
   clear hSame hRR
   rw [wanted_guard rfl rfl rfl ft8]
   rw [if_pos (by rfl)]
   go_simp
   refine (PL.out _).mono ?_; rintro e w' ⟨rfl, hb⟩
   exact hKK _ _ hb rfl
  refine ObsT.cons (k' := 12) rfl ?_ ?_
  ·
   intro fa W hW hSame hRR KK hKK
   try dsimp only at hW
   have fb1 : fa.tmps[1]? = some (Value.pointer (some ⟨w.heap.size, 0, none⟩)) := (hSame.base 1 (by kernel_rfl)).trans (by kernel_rfl)
   obtain ⟨fv8, ft8, (rfl : fv8 = Value.bool false)⟩ := hRR 8 _ 13 rfl rfl (by kernel_rfl) (by kernel_rfl)
   replace hKK : ∀ v w', Below W.heap.size W w' → v = Value.agg #[.int .i64 k, .string z, .int .i64 t, .int .i64 0, .int .i64 0, .int .i64 0] → KK (Act.put fa _ v) w' := fun v w' h1 h2 => hKK v w' h1 h2
   have hX := X1.out.keep hW
   have tx := hX; obtain ⟨chb, cfz, ck0, ck1, ck2, ck3, ck4, ck5⟩ := tx
   clear hSame hRR
   rw [wanted_guard rfl rfl rfl ft8]
   rw [if_pos (by rfl)]
   go_simp
   refine hKK _ _ ?_ ?_
   ·
    exact grP
   ·
    exact rfl
  refine ObsT.cons (k' := 13) rfl ?_ ?_
  ·
   intro fa W hW hSame hRR KK hKK
   try dsimp only at hW
   obtain ⟨fv8, ft8, (rfl : fv8 = Value.bool false)⟩ := hRR 8 _ 13 rfl rfl (by kernel_rfl) (by kernel_rfl)
   obtain ⟨fv10, ft10, (rfl : fv10 = Value.agg #[.int .i64 k, .string z, .int .i64 t, .int .i64 0, .int .i64 0, .int .i64 0])⟩ := hRR 10 _ 15 rfl rfl (by kernel_rfl) (by kernel_rfl)
   obtain ⟨fv11, ft11, (rfl : fv11 = Value.agg #[.int .i64 k, .string z, .int .i64 t, .int .i64 0, .int .i64 0, .int .i64 0])⟩ := hRR 11 _ 16 rfl rfl (by kernel_rfl) (by kernel_rfl)
   replace hKK : ∀ v w', Below W.heap.size W w' → v = Value.bool false → KK (Act.put fa _ v) w' := fun v w' h1 h2 => hKK v w' h1 h2
   clear hSame hRR
   rw [wanted_guard rfl rfl rfl ft8]
   rw [if_pos (by rfl)]
   go_simp
   refine hKK _ _ ?_ ?_
   ·
    exact grP
   ·
    exact rfl
  refine ObsT.cons (k' := 14) rfl ?_ ?_
  ·
   intro fa W hW hSame hRR KK hKK
   try dsimp only at hW
   obtain ⟨fv8, ft8, (rfl : fv8 = Value.bool false)⟩ := hRR 8 _ 13 rfl rfl (by kernel_rfl) (by kernel_rfl)
   obtain ⟨fv12, ft12, (rfl : fv12 = Value.bool false)⟩ := hRR 12 _ 17 rfl rfl (by kernel_rfl) (by kernel_rfl)
   replace hKK : ∀ v w', Below W.heap.size W w' → v = Value.bool false → KK (Act.put fa _ v) w' := fun v w' h1 h2 => hKK v w' h1 h2
   clear hSame hRR
   rw [if_pos (wanted_plain rfl)]
   go_simp
   refine hKK _ _ ?_ ?_
   ·
    exact grP
   ·
    exact rfl
  exact ObsT.nil
 case hlast =>
  intro fa w2 d2 hSame hRR
  try dsimp only at d2
  obtain ⟨zz13, f18, rfl⟩ := hRR 13 _ 18 rfl rfl rfl
  rw [Same_shape hSame]
  simp only [List.filterMap_cons, List.filterMap_nil, List.foldl_cons, List.foldl_nil]
  have g18 : fa.tmps.getD 18 undef = Value.bool false := by simp [Array.getD_eq_getD_getElem?, f18]
  rw [g18]
  generalize fa.tmps.getD 5 undef = y5
  generalize fa.tmps.getD 6 undef = y6
  generalize fa.tmps.getD 7 undef = y7
  generalize fa.tmps.getD 8 undef = y8
  generalize fa.tmps.getD 9 undef = y9
  generalize fa.tmps.getD 10 undef = y10
  generalize fa.tmps.getD 11 undef = y11
  generalize fa.tmps.getD 12 undef = y12
  generalize fa.tmps.getD 13 undef = y13
  generalize fa.tmps.getD 14 undef = y14
  generalize fa.tmps.getD 15 undef = y15
  generalize fa.tmps.getD 16 undef = y16
  generalize fa.tmps.getD 17 undef = y17
  clear hSame hRR f18 g18
  simp only [Act.put, List.setIfInBounds_toArray, List.set_cons_succ, List.set_cons_zero]
  have B2 := Lib.hid (below_step B1.out d2)
  have X := X1.out.keep d2
  have Xh := X.hb; have Xf := X.fz; have X0c := X.k0; have X1c := X.k1; have X2c := X.k2; have X3c := X.k3; have X4c := X.k4; have X5c := X.k5
  clear d2 X
  go_wp2_with fail
  refine (NM.out _).mono ?_; rintro e w3 ⟨rfl, rfl⟩
  go_wp2_with fail
  go_ret
  exact ⟨rfl, B2.out⟩
set_option maxHeartbeats 4000000 in
set_option maxRecDepth 100000 in
theorem rqright_5n (t n u p : Int) (z : ByteArray) (hzs : z.size ≤ 1000) (w : World) (hnm : Lk.nm z.data.toList ≠ 0) :
  Calls Tryz.prog 11 #[.agg #[.int .i64 5, .string z, .int .i64 t, .int .i64 n, .int .i64 u, .int .i64 p]] w fun e w' => e = .returned (.bool false) ∧ Below w.heap.size w w' := by
 have PL := Lib.hid (fun W => rqplain_any 5 t n u p z W)
 simp only [Int.reduceEq, or_false, false_or, or_true, true_or, or_self, if_true, if_false] at PL
 have NM := Lib.hid (fun W => rrname_any z W (by unfold maxLen; omega))
 obtain ⟨y, hy⟩ : ∃ y, y = Lk.nm z.data.toList := ⟨_, rfl⟩
 rw [← hy] at NM hnm
 have gy : (y == 0) = false := by rw [beq_eq_false_iff_ne]; exact hnm
 clear hy
 go_enter Tryz.func11, Tryz.ntmps11
 go_upto_region 1 with (fail)
 refine wp_named ?_; intro w1 hw1
 have d1 : Below w.heap.size w w1 := by rw [hw1]; exact gr0
 have B1 := Lib.hid d1
 have X1 : Hid (Bk6 w1 w.heap.size (.int .i64 5) (.string z) (.int .i64 t) (.int .i64 n) (.int .i64 u) (.int .i64 p)) := Lib.hid (by rw [hw1]; exact ⟨by simp <;> omega, by intro j; simp [go_sem], by simp [go_sem], by simp [go_sem], by simp [go_sem], by simp [go_sem], by simp [go_sem], by simp [go_sem]⟩)
 clear d1 hw1
 refine wp_region_till (R := markR [(fun v _ => v = Value.pointer (some ⟨w.heap.size, 0, none⟩)), (fun v _ => v = Value.int .i64 5), (fun v _ => v = Value.bool false), (fun v _ => v = Value.bool false), (fun v _ => v = Value.pointer (some ⟨w.heap.size, 0, none⟩)), (fun v _ => v = Value.int .i64 5), (fun v _ => v = Value.bool false), (fun v _ => v = Value.bool false), (fun v _ => v = Value.bool false), (fun v _ => v = Value.agg #[.int .i64 5, .string z, .int .i64 t, .int .i64 n, .int .i64 u, .int .i64 p]), (fun v _ => v = Value.agg #[.int .i64 5, .string z, .int .i64 t, .int .i64 n, .int .i64 u, .int .i64 p]), (fun v _ => v = Value.agg #[.int .i64 5, .string z, .int .i64 t, .int .i64 n, .int .i64 u, .int .i64 p]), (fun v _ => v = Value.bool false), (fun v _ => v = Value.bool false)]) (till := fun _ => none) (D := fun W => Below w1.heap.size w1 W) (G := fun _ W W' => Below W.heap.size W W') (by rfl) ?hbeg ⟨by kernel_rfl, by kernel_rfl, by kernel_rfl, ?hkeep, ?hstab, ObsT.all ?hobs, ?hlast⟩
 case hbeg => exact (Below.refl _ _).drew
 case hkeep => intro i w1 w2 hC hG; exact below_step hC hG
 case hstab =>
  intro i j hij ht v w1 w2 hG hm
  match j, hm with
  | 0, hm => exact hm
  | 1, hm => exact hm
  | 2, hm => exact hm
  | 3, hm => exact hm
  | 4, hm => exact hm
  | 5, hm => exact hm
  | 6, hm => exact hm
  | 7, hm => exact hm
  | 8, hm => exact hm
  | 9, hm => exact hm
  | 10, hm => exact hm
  | 11, hm => exact hm
  | 12, hm => exact hm
  | 13, hm => exact hm
  | j + 14, hm => exact trivial
 case hobs =>
  refine ObsT.cons (k' := 1) rfl ?_ ?_
  ·
   intro fa W hW hSame hRR KK hKK
   try dsimp only at hW
   have fb1 : fa.tmps[1]? = some (Value.pointer (some ⟨w.heap.size, 0, none⟩)) := (hSame.base 1 (by kernel_rfl)).trans (by kernel_rfl)
   replace hKK : ∀ v w', Below W.heap.size W w' → v = Value.pointer (some ⟨w.heap.size, 0, none⟩) → KK (Act.put fa _ v) w' := fun v w' h1 h2 => hKK v w' h1 h2
   clear hSame hRR
   rw [if_pos (wanted_plain rfl)]
   go_simp
   refine hKK _ _ ?_ ?_
   ·
    exact grP
   ·
    exact rfl
  refine ObsT.cons (k' := 2) rfl ?_ ?_
  ·
   intro fa W hW hSame hRR KK hKK
   try dsimp only at hW
   obtain ⟨fv0, ft0, (rfl : fv0 = Value.pointer (some ⟨w.heap.size, 0, none⟩))⟩ := hRR 0 _ 5 rfl rfl (by kernel_rfl) (by kernel_rfl)
   replace hKK : ∀ v w', Below W.heap.size W w' → v = Value.int .i64 5 → KK (Act.put fa _ v) w' := fun v w' h1 h2 => hKK v w' h1 h2
   have hX := X1.out.keep hW
   have tx := hX; obtain ⟨chb, cfz, ck0, ck1, ck2, ck3, ck4, ck5⟩ := tx
   clear hSame hRR
   rw [if_pos (wanted_plain rfl)]
   go_simp
   refine hKK _ _ ?_ ?_
   ·
    exact grP
   ·
    exact rfl
  refine ObsT.cons (k' := 3) rfl ?_ ?_
  ·
   intro fa W hW hSame hRR KK hKK
   try dsimp only at hW
   obtain ⟨fv1, ft1, (rfl : fv1 = Value.int .i64 5)⟩ := hRR 1 _ 6 rfl rfl (by kernel_rfl) (by kernel_rfl)
   replace hKK : ∀ v w', Below W.heap.size W w' → v = Value.bool false → KK (Act.put fa _ v) w' := fun v w' h1 h2 => hKK v w' h1 h2
   clear hSame hRR
   rw [if_pos (wanted_plain rfl)]
   go_simp
   refine hKK _ _ ?_ ?_
   ·
    exact grP
   ·
    exact rfl
  refine ObsT.cons (k' := 4) rfl ?_ ?_
  ·
   intro fa W hW hSame hRR KK hKK
   try dsimp only at hW
   obtain ⟨fv2, ft2, (rfl : fv2 = Value.bool false)⟩ := hRR 2 _ 7 rfl rfl (by kernel_rfl) (by kernel_rfl)
   replace hKK : ∀ v w', Below W.heap.size W w' → v = Value.bool false → KK (Act.put fa _ v) w' := fun v w' h1 h2 => hKK v w' h1 h2
   clear hSame hRR
   rw [if_pos (wanted_plain rfl)]
   go_simp
   refine hKK _ _ ?_ ?_
   ·
    exact grP
   ·
    exact rfl
  refine ObsT.cons (k' := 5) rfl ?_ ?_
  ·
   intro fa W hW hSame hRR KK hKK
   try dsimp only at hW
   have fb1 : fa.tmps[1]? = some (Value.pointer (some ⟨w.heap.size, 0, none⟩)) := (hSame.base 1 (by kernel_rfl)).trans (by kernel_rfl)
   obtain ⟨fv3, ft3, (rfl : fv3 = Value.bool false)⟩ := hRR 3 _ 8 rfl rfl (by kernel_rfl) (by kernel_rfl)
   replace hKK : ∀ v w', Below W.heap.size W w' → v = Value.pointer (some ⟨w.heap.size, 0, none⟩) → KK (Act.put fa _ v) w' := fun v w' h1 h2 => hKK v w' h1 h2
   clear hSame hRR
   rw [wanted_guard rfl rfl rfl ft3]
   rw [if_pos (by rfl)]
   go_simp
   refine hKK _ _ ?_ ?_
   ·
    exact grP
   ·
    exact rfl
  refine ObsT.cons (k' := 6) rfl ?_ ?_
  ·
   intro fa W hW hSame hRR KK hKK
   try dsimp only at hW
   obtain ⟨fv3, ft3, (rfl : fv3 = Value.bool false)⟩ := hRR 3 _ 8 rfl rfl (by kernel_rfl) (by kernel_rfl)
   obtain ⟨fv4, ft4, (rfl : fv4 = Value.pointer (some ⟨w.heap.size, 0, none⟩))⟩ := hRR 4 _ 9 rfl rfl (by kernel_rfl) (by kernel_rfl)
   replace hKK : ∀ v w', Below W.heap.size W w' → v = Value.int .i64 5 → KK (Act.put fa _ v) w' := fun v w' h1 h2 => hKK v w' h1 h2
   have hX := X1.out.keep hW
   have tx := hX; obtain ⟨chb, cfz, ck0, ck1, ck2, ck3, ck4, ck5⟩ := tx
   clear hSame hRR
   rw [wanted_guard rfl rfl rfl ft3]
   rw [if_pos (by rfl)]
   go_simp
   refine hKK _ _ ?_ ?_
   ·
    exact grP
   ·
    exact rfl
  refine ObsT.cons (k' := 7) rfl ?_ ?_
  ·
   intro fa W hW hSame hRR KK hKK
   try dsimp only at hW
   obtain ⟨fv3, ft3, (rfl : fv3 = Value.bool false)⟩ := hRR 3 _ 8 rfl rfl (by kernel_rfl) (by kernel_rfl)
   obtain ⟨fv5, ft5, (rfl : fv5 = Value.int .i64 5)⟩ := hRR 5 _ 10 rfl rfl (by kernel_rfl) (by kernel_rfl)
   replace hKK : ∀ v w', Below W.heap.size W w' → v = Value.bool false → KK (Act.put fa _ v) w' := fun v w' h1 h2 => hKK v w' h1 h2
   clear hSame hRR
   rw [wanted_guard rfl rfl rfl ft3]
   rw [if_pos (by rfl)]
   go_simp
   refine hKK _ _ ?_ ?_
   ·
    exact grP
   ·
    exact rfl
  refine ObsT.cons (k' := 8) rfl ?_ ?_
  ·
   intro fa W hW hSame hRR KK hKK
   try dsimp only at hW
   obtain ⟨fv3, ft3, (rfl : fv3 = Value.bool false)⟩ := hRR 3 _ 8 rfl rfl (by kernel_rfl) (by kernel_rfl)
   obtain ⟨fv6, ft6, (rfl : fv6 = Value.bool false)⟩ := hRR 6 _ 11 rfl rfl (by kernel_rfl) (by kernel_rfl)
   replace hKK : ∀ v w', Below W.heap.size W w' → v = Value.bool false → KK (Act.put fa _ v) w' := fun v w' h1 h2 => hKK v w' h1 h2
   clear hSame hRR
   rw [if_pos (wanted_plain rfl)]
   go_simp
   refine hKK _ _ ?_ ?_
   ·
    exact grP
   ·
    exact rfl
  refine ObsT.cons (k' := 9) rfl ?_ ?_
  ·
   intro fa W hW hSame hRR KK hKK
   try dsimp only at hW
   obtain ⟨fv7, ft7, (rfl : fv7 = Value.bool false)⟩ := hRR 7 _ 12 rfl rfl (by kernel_rfl) (by kernel_rfl)
   replace hKK : ∀ v w', Below W.heap.size W w' → v = Value.bool false → KK (Act.put fa _ v) w' := fun v w' h1 h2 => hKK v w' h1 h2
   clear hSame hRR
   rw [if_pos (wanted_plain rfl)]
   go_simp
   refine hKK _ _ ?_ ?_
   ·
    exact grP
   ·
    exact rfl
  refine ObsT.cons (k' := 10) rfl ?_ ?_
  ·
   intro fa W hW hSame hRR KK hKK
   try dsimp only at hW
   have fb1 : fa.tmps[1]? = some (Value.pointer (some ⟨w.heap.size, 0, none⟩)) := (hSame.base 1 (by kernel_rfl)).trans (by kernel_rfl)
   obtain ⟨fv8, ft8, (rfl : fv8 = Value.bool false)⟩ := hRR 8 _ 13 rfl rfl (by kernel_rfl) (by kernel_rfl)
   replace hKK : ∀ v w', Below W.heap.size W w' → v = Value.agg #[.int .i64 5, .string z, .int .i64 t, .int .i64 n, .int .i64 u, .int .i64 p] → KK (Act.put fa _ v) w' := fun v w' h1 h2 => hKK v w' h1 h2
   have hX := X1.out.keep hW
   have tx := hX; obtain ⟨chb, cfz, ck0, ck1, ck2, ck3, ck4, ck5⟩ := tx
   clear hSame hRR
   rw [wanted_guard rfl rfl rfl ft8]
   rw [if_pos (by rfl)]
   go_simp
   refine hKK _ _ ?_ ?_
   ·
    exact grP
   ·
    exact rfl
  refine ObsT.cons (k' := 11) rfl ?_ ?_
  ·
   intro fa W hW hSame hRR KK hKK
   try dsimp only at hW
   obtain ⟨fv8, ft8, (rfl : fv8 = Value.bool false)⟩ := hRR 8 _ 13 rfl rfl (by kernel_rfl) (by kernel_rfl)
   obtain ⟨fv9, ft9, (rfl : fv9 = Value.agg #[.int .i64 5, .string z, .int .i64 t, .int .i64 n, .int .i64 u, .int .i64 p])⟩ := hRR 9 _ 14 rfl rfl (by kernel_rfl) (by kernel_rfl)
   replace hKK : ∀ v w', Below W.heap.size W w' → v = Value.agg #[.int .i64 5, .string z, .int .i64 t, .int .i64 n, .int .i64 u, .int .i64 p] → KK (Act.put fa _ v) w' := fun v w' h1 h2 => hKK v w' h1 h2
   clear hSame hRR
   rw [wanted_guard rfl rfl rfl ft8]
   rw [if_pos (by rfl)]
   go_simp
   refine (PL.out _).mono ?_; rintro e w' ⟨rfl, hb⟩
   exact hKK _ _ hb rfl
  refine ObsT.cons (k' := 12) rfl ?_ ?_
  ·
   intro fa W hW hSame hRR KK hKK
   try dsimp only at hW
   have fb1 : fa.tmps[1]? = some (Value.pointer (some ⟨w.heap.size, 0, none⟩)) := (hSame.base 1 (by kernel_rfl)).trans (by kernel_rfl)
   obtain ⟨fv8, ft8, (rfl : fv8 = Value.bool false)⟩ := hRR 8 _ 13 rfl rfl (by kernel_rfl) (by kernel_rfl)
   replace hKK : ∀ v w', Below W.heap.size W w' → v = Value.agg #[.int .i64 5, .string z, .int .i64 t, .int .i64 n, .int .i64 u, .int .i64 p] → KK (Act.put fa _ v) w' := fun v w' h1 h2 => hKK v w' h1 h2
   have hX := X1.out.keep hW
   have tx := hX; obtain ⟨chb, cfz, ck0, ck1, ck2, ck3, ck4, ck5⟩ := tx
   clear hSame hRR
   rw [wanted_guard rfl rfl rfl ft8]
   rw [if_pos (by rfl)]
   go_simp
   refine hKK _ _ ?_ ?_
   ·
    exact grP
   ·
    exact rfl
  refine ObsT.cons (k' := 13) rfl ?_ ?_
  ·
   intro fa W hW hSame hRR KK hKK
   try dsimp only at hW
   obtain ⟨fv8, ft8, (rfl : fv8 = Value.bool false)⟩ := hRR 8 _ 13 rfl rfl (by kernel_rfl) (by kernel_rfl)
   obtain ⟨fv10, ft10, (rfl : fv10 = Value.agg #[.int .i64 5, .string z, .int .i64 t, .int .i64 n, .int .i64 u, .int .i64 p])⟩ := hRR 10 _ 15 rfl rfl (by kernel_rfl) (by kernel_rfl)
   obtain ⟨fv11, ft11, (rfl : fv11 = Value.agg #[.int .i64 5, .string z, .int .i64 t, .int .i64 n, .int .i64 u, .int .i64 p])⟩ := hRR 11 _ 16 rfl rfl (by kernel_rfl) (by kernel_rfl)
   replace hKK : ∀ v w', Below W.heap.size W w' → v = Value.bool false → KK (Act.put fa _ v) w' := fun v w' h1 h2 => hKK v w' h1 h2
   clear hSame hRR
   rw [wanted_guard rfl rfl rfl ft8]
   rw [if_pos (by rfl)]
   go_simp
   refine hKK _ _ ?_ ?_
   ·
    exact grP
   ·
    exact rfl
  refine ObsT.cons (k' := 14) rfl ?_ ?_
  ·
   intro fa W hW hSame hRR KK hKK
   try dsimp only at hW
   obtain ⟨fv8, ft8, (rfl : fv8 = Value.bool false)⟩ := hRR 8 _ 13 rfl rfl (by kernel_rfl) (by kernel_rfl)
   obtain ⟨fv12, ft12, (rfl : fv12 = Value.bool false)⟩ := hRR 12 _ 17 rfl rfl (by kernel_rfl) (by kernel_rfl)
   replace hKK : ∀ v w', Below W.heap.size W w' → v = Value.bool false → KK (Act.put fa _ v) w' := fun v w' h1 h2 => hKK v w' h1 h2
   clear hSame hRR
   rw [if_pos (wanted_plain rfl)]
   go_simp
   refine hKK _ _ ?_ ?_
   ·
    exact grP
   ·
    exact rfl
  exact ObsT.nil
 case hlast =>
  intro fa w2 d2 hSame hRR
  try dsimp only at d2
  obtain ⟨zz13, f18, rfl⟩ := hRR 13 _ 18 rfl rfl rfl
  rw [Same_shape hSame]
  simp only [List.filterMap_cons, List.filterMap_nil, List.foldl_cons, List.foldl_nil]
  have g18 : fa.tmps.getD 18 undef = Value.bool false := by simp [Array.getD_eq_getD_getElem?, f18]
  rw [g18]
  generalize fa.tmps.getD 5 undef = y5
  generalize fa.tmps.getD 6 undef = y6
  generalize fa.tmps.getD 7 undef = y7
  generalize fa.tmps.getD 8 undef = y8
  generalize fa.tmps.getD 9 undef = y9
  generalize fa.tmps.getD 10 undef = y10
  generalize fa.tmps.getD 11 undef = y11
  generalize fa.tmps.getD 12 undef = y12
  generalize fa.tmps.getD 13 undef = y13
  generalize fa.tmps.getD 14 undef = y14
  generalize fa.tmps.getD 15 undef = y15
  generalize fa.tmps.getD 16 undef = y16
  generalize fa.tmps.getD 17 undef = y17
  clear hSame hRR f18 g18
  simp only [Act.put, List.setIfInBounds_toArray, List.set_cons_succ, List.set_cons_zero]
  have B2 := Lib.hid (below_step B1.out d2)
  have X := X1.out.keep d2
  have Xh := X.hb; have Xf := X.fz; have X0c := X.k0; have X1c := X.k1; have X2c := X.k2; have X3c := X.k3; have X4c := X.k4; have X5c := X.k5
  clear d2 X
  go_wp2_with fail
  refine (NM.out _).mono ?_; rintro e w3 ⟨rfl, rfl⟩
  go_wp2_with fail
  go_ret
  exact ⟨rfl, B2.out⟩
set_option maxHeartbeats 4000000 in
set_option maxRecDepth 100000 in
theorem rqright_7n (t n : Int) (z : ByteArray) (hzs : z.size ≤ 1000) (w : World) (hnm : Lk.nm z.data.toList ≠ 0) :
  Calls Tryz.prog 11 #[.agg #[.int .i64 7, .string z, .int .i64 t, .int .i64 n, .int .i64 0, .int .i64 0]] w fun e w' => e = .returned (.bool false) ∧ Below w.heap.size w w' := by
 have PL := Lib.hid (fun W => rqplain_any 7 t n 0 0 z W)
 simp only [Int.reduceEq, or_false, false_or, or_true, true_or, or_self, if_true, if_false] at PL
 have NM := Lib.hid (fun W => rrname_any z W (by unfold maxLen; omega))
 obtain ⟨y, hy⟩ : ∃ y, y = Lk.nm z.data.toList := ⟨_, rfl⟩
 rw [← hy] at NM hnm
 have gy : (y == 0) = false := by rw [beq_eq_false_iff_ne]; exact hnm
 clear hy
 go_enter Tryz.func11, Tryz.ntmps11
 go_upto_region 1 with (fail)
 refine wp_named ?_; intro w1 hw1
 have d1 : Below w.heap.size w w1 := by rw [hw1]; exact gr0
 have B1 := Lib.hid d1
 have X1 : Hid (Bk6 w1 w.heap.size (.int .i64 7) (.string z) (.int .i64 t) (.int .i64 n) (.int .i64 0) (.int .i64 0)) := Lib.hid (by rw [hw1]; exact ⟨by simp <;> omega, by intro j; simp [go_sem], by simp [go_sem], by simp [go_sem], by simp [go_sem], by simp [go_sem], by simp [go_sem], by simp [go_sem]⟩)
 clear d1 hw1
 refine wp_region_till (R := markR [(fun v _ => v = Value.pointer (some ⟨w.heap.size, 0, none⟩)), (fun v _ => v = Value.int .i64 7), (fun v _ => v = Value.bool false), (fun v _ => v = Value.bool false), (fun v _ => v = Value.pointer (some ⟨w.heap.size, 0, none⟩)), (fun v _ => v = Value.int .i64 7), (fun v _ => v = Value.bool false), (fun v _ => v = Value.bool false), (fun v _ => v = Value.bool false), (fun v _ => v = Value.agg #[.int .i64 7, .string z, .int .i64 t, .int .i64 n, .int .i64 0, .int .i64 0]), (fun v _ => v = Value.agg #[.int .i64 7, .string z, .int .i64 t, .int .i64 n, .int .i64 0, .int .i64 0]), (fun v _ => v = Value.agg #[.int .i64 7, .string z, .int .i64 t, .int .i64 n, .int .i64 0, .int .i64 0]), (fun v _ => v = Value.bool false), (fun v _ => v = Value.bool false)]) (till := fun _ => none) (D := fun W => Below w1.heap.size w1 W) (G := fun _ W W' => Below W.heap.size W W') (by rfl) ?hbeg ⟨by kernel_rfl, by kernel_rfl, by kernel_rfl, ?hkeep, ?hstab, ObsT.all ?hobs, ?hlast⟩
 case hbeg => exact (Below.refl _ _).drew
 case hkeep => intro i w1 w2 hC hG; exact below_step hC hG
 case hstab =>
  intro i j hij ht v w1 w2 hG hm
  match j, hm with
  | 0, hm => exact hm
  | 1, hm => exact hm
  | 2, hm => exact hm
  | 3, hm => exact hm
  | 4, hm => exact hm
  | 5, hm => exact hm
  | 6, hm => exact hm
  | 7, hm => exact hm
  | 8, hm => exact hm
  | 9, hm => exact hm
  | 10, hm => exact hm
  | 11, hm => exact hm
  | 12, hm => exact hm
  | 13, hm => exact hm
  | j + 14, hm => exact trivial
 case hobs =>
  refine ObsT.cons (k' := 1) rfl ?_ ?_
  ·
   intro fa W hW hSame hRR KK hKK
   try dsimp only at hW
   have fb1 : fa.tmps[1]? = some (Value.pointer (some ⟨w.heap.size, 0, none⟩)) := (hSame.base 1 (by kernel_rfl)).trans (by kernel_rfl)
   replace hKK : ∀ v w', Below W.heap.size W w' → v = Value.pointer (some ⟨w.heap.size, 0, none⟩) → KK (Act.put fa _ v) w' := fun v w' h1 h2 => hKK v w' h1 h2
   clear hSame hRR
   rw [if_pos (wanted_plain rfl)]
   go_simp
   refine hKK _ _ ?_ ?_
   ·
    exact grP
   ·
    exact rfl
  refine ObsT.cons (k' := 2) rfl ?_ ?_
  ·
   intro fa W hW hSame hRR KK hKK
   try dsimp only at hW
   obtain ⟨fv0, ft0, (rfl : fv0 = Value.pointer (some ⟨w.heap.size, 0, none⟩))⟩ := hRR 0 _ 5 rfl rfl (by kernel_rfl) (by kernel_rfl)
   replace hKK : ∀ v w', Below W.heap.size W w' → v = Value.int .i64 7 → KK (Act.put fa _ v) w' := fun v w' h1 h2 => hKK v w' h1 h2
   have hX := X1.out.keep hW
   have tx := hX; obtain ⟨chb, cfz, ck0, ck1, ck2, ck3, ck4, ck5⟩ := tx
   clear hSame hRR
   rw [if_pos (wanted_plain rfl)]
   go_simp
   refine hKK _ _ ?_ ?_
   ·
    exact grP
   ·
    exact rfl
  refine ObsT.cons (k' := 3) rfl ?_ ?_
  ·
   intro fa W hW hSame hRR KK hKK
   try dsimp only at hW
   obtain ⟨fv1, ft1, (rfl : fv1 = Value.int .i64 7)⟩ := hRR 1 _ 6 rfl rfl (by kernel_rfl) (by kernel_rfl)
   replace hKK : ∀ v w', Below W.heap.size W w' → v = Value.bool false → KK (Act.put fa _ v) w' := fun v w' h1 h2 => hKK v w' h1 h2
   clear hSame hRR
   rw [if_pos (wanted_plain rfl)]
   go_simp
   refine hKK _ _ ?_ ?_
   ·
    exact grP
   ·
    exact rfl
  refine ObsT.cons (k' := 4) rfl ?_ ?_
  ·
   intro fa W hW hSame hRR KK hKK
   try dsimp only at hW
   obtain ⟨fv2, ft2, (rfl : fv2 = Value.bool false)⟩ := hRR 2 _ 7 rfl rfl (by kernel_rfl) (by kernel_rfl)
   replace hKK : ∀ v w', Below W.heap.size W w' → v = Value.bool false → KK (Act.put fa _ v) w' := fun v w' h1 h2 => hKK v w' h1 h2
   clear hSame hRR
   rw [if_pos (wanted_plain rfl)]
   go_simp
   refine hKK _ _ ?_ ?_
   ·
    exact grP
   ·
    exact rfl
  refine ObsT.cons (k' := 5) rfl ?_ ?_
  ·
   intro fa W hW hSame hRR KK hKK
   try dsimp only at hW
   have fb1 : fa.tmps[1]? = some (Value.pointer (some ⟨w.heap.size, 0, none⟩)) := (hSame.base 1 (by kernel_rfl)).trans (by kernel_rfl)
   obtain ⟨fv3, ft3, (rfl : fv3 = Value.bool false)⟩ := hRR 3 _ 8 rfl rfl (by kernel_rfl) (by kernel_rfl)
   replace hKK : ∀ v w', Below W.heap.size W w' → v = Value.pointer (some ⟨w.heap.size, 0, none⟩) → KK (Act.put fa _ v) w' := fun v w' h1 h2 => hKK v w' h1 h2
   clear hSame hRR
   rw [wanted_guard rfl rfl rfl ft3]
   rw [if_pos (by rfl)]
   go_simp
   refine hKK _ _ ?_ ?_
   ·
    exact grP
   ·
    exact rfl
  refine ObsT.cons (k' := 6) rfl ?_ ?_
  ·
   intro fa W hW hSame hRR KK hKK
   try dsimp only at hW
   obtain ⟨fv3, ft3, (rfl : fv3 = Value.bool false)⟩ := hRR 3 _ 8 rfl rfl (by kernel_rfl) (by kernel_rfl)
   obtain ⟨fv4, ft4, (rfl : fv4 = Value.pointer (some ⟨w.heap.size, 0, none⟩))⟩ := hRR 4 _ 9 rfl rfl (by kernel_rfl) (by kernel_rfl)
   replace hKK : ∀ v w', Below W.heap.size W w' → v = Value.int .i64 7 → KK (Act.put fa _ v) w' := fun v w' h1 h2 => hKK v w' h1 h2
   have hX := X1.out.keep hW
   have tx := hX; obtain ⟨chb, cfz, ck0, ck1, ck2, ck3, ck4, ck5⟩ := tx
   clear hSame hRR
   rw [wanted_guard rfl rfl rfl ft3]
   rw [if_pos (by rfl)]
   go_simp
   refine hKK _ _ ?_ ?_
   ·
    exact grP
   ·
    exact rfl
  refine ObsT.cons (k' := 7) rfl ?_ ?_
  ·
   intro fa W hW hSame hRR KK hKK
   try dsimp only at hW
   obtain ⟨fv3, ft3, (rfl : fv3 = Value.bool false)⟩ := hRR 3 _ 8 rfl rfl (by kernel_rfl) (by kernel_rfl)
   obtain ⟨fv5, ft5, (rfl : fv5 = Value.int .i64 7)⟩ := hRR 5 _ 10 rfl rfl (by kernel_rfl) (by kernel_rfl)
   replace hKK : ∀ v w', Below W.heap.size W w' → v = Value.bool false → KK (Act.put fa _ v) w' := fun v w' h1 h2 => hKK v w' h1 h2
   clear hSame hRR
   rw [wanted_guard rfl rfl rfl ft3]
   rw [if_pos (by rfl)]
   go_simp
   refine hKK _ _ ?_ ?_
   ·
    exact grP
   ·
    exact rfl
  refine ObsT.cons (k' := 8) rfl ?_ ?_
  ·
   intro fa W hW hSame hRR KK hKK
   try dsimp only at hW
   obtain ⟨fv3, ft3, (rfl : fv3 = Value.bool false)⟩ := hRR 3 _ 8 rfl rfl (by kernel_rfl) (by kernel_rfl)
   obtain ⟨fv6, ft6, (rfl : fv6 = Value.bool false)⟩ := hRR 6 _ 11 rfl rfl (by kernel_rfl) (by kernel_rfl)
   replace hKK : ∀ v w', Below W.heap.size W w' → v = Value.bool false → KK (Act.put fa _ v) w' := fun v w' h1 h2 => hKK v w' h1 h2
   clear hSame hRR
   rw [if_pos (wanted_plain rfl)]
   go_simp
   refine hKK _ _ ?_ ?_
   ·
    exact grP
   ·
    exact rfl
  refine ObsT.cons (k' := 9) rfl ?_ ?_
  ·
   intro fa W hW hSame hRR KK hKK
   try dsimp only at hW
   obtain ⟨fv7, ft7, (rfl : fv7 = Value.bool false)⟩ := hRR 7 _ 12 rfl rfl (by kernel_rfl) (by kernel_rfl)
   replace hKK : ∀ v w', Below W.heap.size W w' → v = Value.bool false → KK (Act.put fa _ v) w' := fun v w' h1 h2 => hKK v w' h1 h2
   clear hSame hRR
   rw [if_pos (wanted_plain rfl)]
   go_simp
   refine hKK _ _ ?_ ?_
   ·
    exact grP
   ·
    exact rfl
  refine ObsT.cons (k' := 10) rfl ?_ ?_
  ·
   intro fa W hW hSame hRR KK hKK
   try dsimp only at hW
   have fb1 : fa.tmps[1]? = some (Value.pointer (some ⟨w.heap.size, 0, none⟩)) := (hSame.base 1 (by kernel_rfl)).trans (by kernel_rfl)
   obtain ⟨fv8, ft8, (rfl : fv8 = Value.bool false)⟩ := hRR 8 _ 13 rfl rfl (by kernel_rfl) (by kernel_rfl)
   replace hKK : ∀ v w', Below W.heap.size W w' → v = Value.agg #[.int .i64 7, .string z, .int .i64 t, .int .i64 n, .int .i64 0, .int .i64 0] → KK (Act.put fa _ v) w' := fun v w' h1 h2 => hKK v w' h1 h2
   have hX := X1.out.keep hW
   have tx := hX; obtain ⟨chb, cfz, ck0, ck1, ck2, ck3, ck4, ck5⟩ := tx
   clear hSame hRR
   rw [wanted_guard rfl rfl rfl ft8]
   rw [if_pos (by rfl)]
   go_simp
   refine hKK _ _ ?_ ?_
   ·
    exact grP
   ·
    exact rfl
  refine ObsT.cons (k' := 11) rfl ?_ ?_
  ·
   intro fa W hW hSame hRR KK hKK
   try dsimp only at hW
   obtain ⟨fv8, ft8, (rfl : fv8 = Value.bool false)⟩ := hRR 8 _ 13 rfl rfl (by kernel_rfl) (by kernel_rfl)
   obtain ⟨fv9, ft9, (rfl : fv9 = Value.agg #[.int .i64 7, .string z, .int .i64 t, .int .i64 n, .int .i64 0, .int .i64 0])⟩ := hRR 9 _ 14 rfl rfl (by kernel_rfl) (by kernel_rfl)
   replace hKK : ∀ v w', Below W.heap.size W w' → v = Value.agg #[.int .i64 7, .string z, .int .i64 t, .int .i64 n, .int .i64 0, .int .i64 0] → KK (Act.put fa _ v) w' := fun v w' h1 h2 => hKK v w' h1 h2
   clear hSame hRR
   rw [wanted_guard rfl rfl rfl ft8]
   rw [if_pos (by rfl)]
   go_simp
   refine (PL.out _).mono ?_; rintro e w' ⟨rfl, hb⟩
   exact hKK _ _ hb rfl
  refine ObsT.cons (k' := 12) rfl ?_ ?_
  ·
   intro fa W hW hSame hRR KK hKK
   try dsimp only at hW
   have fb1 : fa.tmps[1]? = some (Value.pointer (some ⟨w.heap.size, 0, none⟩)) := (hSame.base 1 (by kernel_rfl)).trans (by kernel_rfl)
   obtain ⟨fv8, ft8, (rfl : fv8 = Value.bool false)⟩ := hRR 8 _ 13 rfl rfl (by kernel_rfl) (by kernel_rfl)
   replace hKK : ∀ v w', Below W.heap.size W w' → v = Value.agg #[.int .i64 7, .string z, .int .i64 t, .int .i64 n, .int .i64 0, .int .i64 0] → KK (Act.put fa _ v) w' := fun v w' h1 h2 => hKK v w' h1 h2
   have hX := X1.out.keep hW
   have tx := hX; obtain ⟨chb, cfz, ck0, ck1, ck2, ck3, ck4, ck5⟩ := tx
   clear hSame hRR
   rw [wanted_guard rfl rfl rfl ft8]
   rw [if_pos (by rfl)]
   go_simp
   refine hKK _ _ ?_ ?_
   ·
    exact grP
   ·
    exact rfl
  refine ObsT.cons (k' := 13) rfl ?_ ?_
  ·
   intro fa W hW hSame hRR KK hKK
   try dsimp only at hW
   obtain ⟨fv8, ft8, (rfl : fv8 = Value.bool false)⟩ := hRR 8 _ 13 rfl rfl (by kernel_rfl) (by kernel_rfl)
   obtain ⟨fv10, ft10, (rfl : fv10 = Value.agg #[.int .i64 7, .string z, .int .i64 t, .int .i64 n, .int .i64 0, .int .i64 0])⟩ := hRR 10 _ 15 rfl rfl (by kernel_rfl) (by kernel_rfl)
   obtain ⟨fv11, ft11, (rfl : fv11 = Value.agg #[.int .i64 7, .string z, .int .i64 t, .int .i64 n, .int .i64 0, .int .i64 0])⟩ := hRR 11 _ 16 rfl rfl (by kernel_rfl) (by kernel_rfl)
   replace hKK : ∀ v w', Below W.heap.size W w' → v = Value.bool false → KK (Act.put fa _ v) w' := fun v w' h1 h2 => hKK v w' h1 h2
   clear hSame hRR
   rw [wanted_guard rfl rfl rfl ft8]
   rw [if_pos (by rfl)]
   go_simp
   refine hKK _ _ ?_ ?_
   ·
    exact grP
   ·
    exact rfl
  refine ObsT.cons (k' := 14) rfl ?_ ?_
  ·
   intro fa W hW hSame hRR KK hKK
   try dsimp only at hW
   obtain ⟨fv8, ft8, (rfl : fv8 = Value.bool false)⟩ := hRR 8 _ 13 rfl rfl (by kernel_rfl) (by kernel_rfl)
   obtain ⟨fv12, ft12, (rfl : fv12 = Value.bool false)⟩ := hRR 12 _ 17 rfl rfl (by kernel_rfl) (by kernel_rfl)
   replace hKK : ∀ v w', Below W.heap.size W w' → v = Value.bool false → KK (Act.put fa _ v) w' := fun v w' h1 h2 => hKK v w' h1 h2
   clear hSame hRR
   rw [if_pos (wanted_plain rfl)]
   go_simp
   refine hKK _ _ ?_ ?_
   ·
    exact grP
   ·
    exact rfl
  exact ObsT.nil
 case hlast =>
  intro fa w2 d2 hSame hRR
  try dsimp only at d2
  obtain ⟨zz13, f18, rfl⟩ := hRR 13 _ 18 rfl rfl rfl
  rw [Same_shape hSame]
  simp only [List.filterMap_cons, List.filterMap_nil, List.foldl_cons, List.foldl_nil]
  have g18 : fa.tmps.getD 18 undef = Value.bool false := by simp [Array.getD_eq_getD_getElem?, f18]
  rw [g18]
  generalize fa.tmps.getD 5 undef = y5
  generalize fa.tmps.getD 6 undef = y6
  generalize fa.tmps.getD 7 undef = y7
  generalize fa.tmps.getD 8 undef = y8
  generalize fa.tmps.getD 9 undef = y9
  generalize fa.tmps.getD 10 undef = y10
  generalize fa.tmps.getD 11 undef = y11
  generalize fa.tmps.getD 12 undef = y12
  generalize fa.tmps.getD 13 undef = y13
  generalize fa.tmps.getD 14 undef = y14
  generalize fa.tmps.getD 15 undef = y15
  generalize fa.tmps.getD 16 undef = y16
  generalize fa.tmps.getD 17 undef = y17
  clear hSame hRR f18 g18
  simp only [Act.put, List.setIfInBounds_toArray, List.set_cons_succ, List.set_cons_zero]
  have B2 := Lib.hid (below_step B1.out d2)
  have X := X1.out.keep d2
  have Xh := X.hb; have Xf := X.fz; have X0c := X.k0; have X1c := X.k1; have X2c := X.k2; have X3c := X.k3; have X4c := X.k4; have X5c := X.k5
  clear d2 X
  go_wp2_with fail
  refine (NM.out _).mono ?_; rintro e w3 ⟨rfl, rfl⟩
  go_wp2_with fail
  go_ret
  exact ⟨rfl, B2.out⟩
set_option maxHeartbeats 4000000 in
set_option maxRecDepth 100000 in
theorem rqright_3n (t p : Int) (z : ByteArray) (hzs : z.size ≤ 1000) (w : World) (hnm : Lk.nm z.data.toList ≠ 0) :
  Calls Tryz.prog 11 #[.agg #[.int .i64 3, .string z, .int .i64 t, .int .i64 0, .int .i64 0, .int .i64 p]] w fun e w' => e = .returned (.bool false) ∧ Below w.heap.size w w' := by
 have PL := Lib.hid (fun W => rqplain_any 3 t 0 0 p z W)
 simp only [Int.reduceEq, or_false, false_or, or_true, true_or, or_self, if_true, if_false] at PL
 have NM := Lib.hid (fun W => rrname_any z W (by unfold maxLen; omega))
 obtain ⟨y, hy⟩ : ∃ y, y = Lk.nm z.data.toList := ⟨_, rfl⟩
 rw [← hy] at NM hnm
 have gy : (y == 0) = false := by rw [beq_eq_false_iff_ne]; exact hnm
 clear hy
 go_enter Tryz.func11, Tryz.ntmps11
 go_upto_region 1 with (fail)
 refine wp_named ?_; intro w1 hw1
 have d1 : Below w.heap.size w w1 := by rw [hw1]; exact gr0
 have B1 := Lib.hid d1
 have X1 : Hid (Bk6 w1 w.heap.size (.int .i64 3) (.string z) (.int .i64 t) (.int .i64 0) (.int .i64 0) (.int .i64 p)) := Lib.hid (by rw [hw1]; exact ⟨by simp <;> omega, by intro j; simp [go_sem], by simp [go_sem], by simp [go_sem], by simp [go_sem], by simp [go_sem], by simp [go_sem], by simp [go_sem]⟩)
 clear d1 hw1
 refine wp_region_till (R := markR [(fun v _ => v = Value.pointer (some ⟨w.heap.size, 0, none⟩)), (fun v _ => v = Value.int .i64 3), (fun v _ => v = Value.bool false), (fun v _ => v = Value.bool false), (fun v _ => v = Value.pointer (some ⟨w.heap.size, 0, none⟩)), (fun v _ => v = Value.int .i64 3), (fun v _ => v = Value.bool false), (fun v _ => v = Value.bool false), (fun v _ => v = Value.bool false), (fun v _ => v = Value.agg #[.int .i64 3, .string z, .int .i64 t, .int .i64 0, .int .i64 0, .int .i64 p]), (fun v _ => v = Value.agg #[.int .i64 3, .string z, .int .i64 t, .int .i64 0, .int .i64 0, .int .i64 p]), (fun v _ => v = Value.agg #[.int .i64 3, .string z, .int .i64 t, .int .i64 0, .int .i64 0, .int .i64 p]), (fun v _ => v = Value.bool false), (fun v _ => v = Value.bool false)]) (till := fun _ => none) (D := fun W => Below w1.heap.size w1 W) (G := fun _ W W' => Below W.heap.size W W') (by rfl) ?hbeg ⟨by kernel_rfl, by kernel_rfl, by kernel_rfl, ?hkeep, ?hstab, ObsT.all ?hobs, ?hlast⟩
 case hbeg => exact (Below.refl _ _).drew
 case hkeep => intro i w1 w2 hC hG; exact below_step hC hG
 case hstab =>
  intro i j hij ht v w1 w2 hG hm
  match j, hm with
  | 0, hm => exact hm
  | 1, hm => exact hm
  | 2, hm => exact hm
  | 3, hm => exact hm
  | 4, hm => exact hm
  | 5, hm => exact hm
  | 6, hm => exact hm
  | 7, hm => exact hm
  | 8, hm => exact hm
  | 9, hm => exact hm
  | 10, hm => exact hm
  | 11, hm => exact hm
  | 12, hm => exact hm
  | 13, hm => exact hm
  | j + 14, hm => exact trivial
 case hobs =>
  refine ObsT.cons (k' := 1) rfl ?_ ?_
  ·
   intro fa W hW hSame hRR KK hKK
   try dsimp only at hW
   have fb1 : fa.tmps[1]? = some (Value.pointer (some ⟨w.heap.size, 0, none⟩)) := (hSame.base 1 (by kernel_rfl)).trans (by kernel_rfl)
   replace hKK : ∀ v w', Below W.heap.size W w' → v = Value.pointer (some ⟨w.heap.size, 0, none⟩) → KK (Act.put fa _ v) w' := fun v w' h1 h2 => hKK v w' h1 h2
   clear hSame hRR
   rw [if_pos (wanted_plain rfl)]
   go_simp
   refine hKK _ _ ?_ ?_
   ·
    exact grP
   ·
    exact rfl
  refine ObsT.cons (k' := 2) rfl ?_ ?_
  ·
   intro fa W hW hSame hRR KK hKK
   try dsimp only at hW
   obtain ⟨fv0, ft0, (rfl : fv0 = Value.pointer (some ⟨w.heap.size, 0, none⟩))⟩ := hRR 0 _ 5 rfl rfl (by kernel_rfl) (by kernel_rfl)
   replace hKK : ∀ v w', Below W.heap.size W w' → v = Value.int .i64 3 → KK (Act.put fa _ v) w' := fun v w' h1 h2 => hKK v w' h1 h2
   have hX := X1.out.keep hW
   have tx := hX; obtain ⟨chb, cfz, ck0, ck1, ck2, ck3, ck4, ck5⟩ := tx
   clear hSame hRR
   rw [if_pos (wanted_plain rfl)]
   go_simp
   refine hKK _ _ ?_ ?_
   ·
    exact grP
   ·
    exact rfl
  refine ObsT.cons (k' := 3) rfl ?_ ?_
  ·
   intro fa W hW hSame hRR KK hKK
   try dsimp only at hW
   obtain ⟨fv1, ft1, (rfl : fv1 = Value.int .i64 3)⟩ := hRR 1 _ 6 rfl rfl (by kernel_rfl) (by kernel_rfl)
   replace hKK : ∀ v w', Below W.heap.size W w' → v = Value.bool false → KK (Act.put fa _ v) w' := fun v w' h1 h2 => hKK v w' h1 h2
   clear hSame hRR
   rw [if_pos (wanted_plain rfl)]
   go_simp
   refine hKK _ _ ?_ ?_
   ·
    exact grP
   ·
    exact rfl
  refine ObsT.cons (k' := 4) rfl ?_ ?_
  ·
   intro fa W hW hSame hRR KK hKK
   try dsimp only at hW
   obtain ⟨fv2, ft2, (rfl : fv2 = Value.bool false)⟩ := hRR 2 _ 7 rfl rfl (by kernel_rfl) (by kernel_rfl)
   replace hKK : ∀ v w', Below W.heap.size W w' → v = Value.bool false → KK (Act.put fa _ v) w' := fun v w' h1 h2 => hKK v w' h1 h2
   clear hSame hRR
   rw [if_pos (wanted_plain rfl)]
   go_simp
   refine hKK _ _ ?_ ?_
   ·
    exact grP
   ·
    exact rfl
  refine ObsT.cons (k' := 5) rfl ?_ ?_
  ·
   intro fa W hW hSame hRR KK hKK
   try dsimp only at hW
   have fb1 : fa.tmps[1]? = some (Value.pointer (some ⟨w.heap.size, 0, none⟩)) := (hSame.base 1 (by kernel_rfl)).trans (by kernel_rfl)
   obtain ⟨fv3, ft3, (rfl : fv3 = Value.bool false)⟩ := hRR 3 _ 8 rfl rfl (by kernel_rfl) (by kernel_rfl)
   replace hKK : ∀ v w', Below W.heap.size W w' → v = Value.pointer (some ⟨w.heap.size, 0, none⟩) → KK (Act.put fa _ v) w' := fun v w' h1 h2 => hKK v w' h1 h2
   clear hSame hRR
   rw [wanted_guard rfl rfl rfl ft3]
   rw [if_pos (by rfl)]
   go_simp
   refine hKK _ _ ?_ ?_
   ·
    exact grP
   ·
    exact rfl
  refine ObsT.cons (k' := 6) rfl ?_ ?_
  ·
   intro fa W hW hSame hRR KK hKK
   try dsimp only at hW
   obtain ⟨fv3, ft3, (rfl : fv3 = Value.bool false)⟩ := hRR 3 _ 8 rfl rfl (by kernel_rfl) (by kernel_rfl)
   obtain ⟨fv4, ft4, (rfl : fv4 = Value.pointer (some ⟨w.heap.size, 0, none⟩))⟩ := hRR 4 _ 9 rfl rfl (by kernel_rfl) (by kernel_rfl)
   replace hKK : ∀ v w', Below W.heap.size W w' → v = Value.int .i64 3 → KK (Act.put fa _ v) w' := fun v w' h1 h2 => hKK v w' h1 h2
   have hX := X1.out.keep hW
   have tx := hX; obtain ⟨chb, cfz, ck0, ck1, ck2, ck3, ck4, ck5⟩ := tx
   clear hSame hRR
   rw [wanted_guard rfl rfl rfl ft3]
   rw [if_pos (by rfl)]
   go_simp
   refine hKK _ _ ?_ ?_
   ·
    exact grP
   ·
    exact rfl
  refine ObsT.cons (k' := 7) rfl ?_ ?_
  ·
   intro fa W hW hSame hRR KK hKK
   try dsimp only at hW
   obtain ⟨fv3, ft3, (rfl : fv3 = Value.bool false)⟩ := hRR 3 _ 8 rfl rfl (by kernel_rfl) (by kernel_rfl)
   obtain ⟨fv5, ft5, (rfl : fv5 = Value.int .i64 3)⟩ := hRR 5 _ 10 rfl rfl (by kernel_rfl) (by kernel_rfl)
   replace hKK : ∀ v w', Below W.heap.size W w' → v = Value.bool false → KK (Act.put fa _ v) w' := fun v w' h1 h2 => hKK v w' h1 h2
   clear hSame hRR
   rw [wanted_guard rfl rfl rfl ft3]
   rw [if_pos (by rfl)]
   go_simp
   refine hKK _ _ ?_ ?_
   ·
    exact grP
   ·
    exact rfl
  refine ObsT.cons (k' := 8) rfl ?_ ?_
  ·
   intro fa W hW hSame hRR KK hKK
   try dsimp only at hW
   obtain ⟨fv3, ft3, (rfl : fv3 = Value.bool false)⟩ := hRR 3 _ 8 rfl rfl (by kernel_rfl) (by kernel_rfl)
   obtain ⟨fv6, ft6, (rfl : fv6 = Value.bool false)⟩ := hRR 6 _ 11 rfl rfl (by kernel_rfl) (by kernel_rfl)
   replace hKK : ∀ v w', Below W.heap.size W w' → v = Value.bool false → KK (Act.put fa _ v) w' := fun v w' h1 h2 => hKK v w' h1 h2
   clear hSame hRR
   rw [if_pos (wanted_plain rfl)]
   go_simp
   refine hKK _ _ ?_ ?_
   ·
    exact grP
   ·
    exact rfl
  refine ObsT.cons (k' := 9) rfl ?_ ?_
  ·
   intro fa W hW hSame hRR KK hKK
   try dsimp only at hW
   obtain ⟨fv7, ft7, (rfl : fv7 = Value.bool false)⟩ := hRR 7 _ 12 rfl rfl (by kernel_rfl) (by kernel_rfl)
   replace hKK : ∀ v w', Below W.heap.size W w' → v = Value.bool false → KK (Act.put fa _ v) w' := fun v w' h1 h2 => hKK v w' h1 h2
   clear hSame hRR
   rw [if_pos (wanted_plain rfl)]
   go_simp
   refine hKK _ _ ?_ ?_
   ·
    exact grP
   ·
    exact rfl
  refine ObsT.cons (k' := 10) rfl ?_ ?_
  ·
   intro fa W hW hSame hRR KK hKK
   try dsimp only at hW
   have fb1 : fa.tmps[1]? = some (Value.pointer (some ⟨w.heap.size, 0, none⟩)) := (hSame.base 1 (by kernel_rfl)).trans (by kernel_rfl)
   obtain ⟨fv8, ft8, (rfl : fv8 = Value.bool false)⟩ := hRR 8 _ 13 rfl rfl (by kernel_rfl) (by kernel_rfl)
   replace hKK : ∀ v w', Below W.heap.size W w' → v = Value.agg #[.int .i64 3, .string z, .int .i64 t, .int .i64 0, .int .i64 0, .int .i64 p] → KK (Act.put fa _ v) w' := fun v w' h1 h2 => hKK v w' h1 h2
   have hX := X1.out.keep hW
   have tx := hX; obtain ⟨chb, cfz, ck0, ck1, ck2, ck3, ck4, ck5⟩ := tx
   clear hSame hRR
   rw [wanted_guard rfl rfl rfl ft8]
   rw [if_pos (by rfl)]
   go_simp
   refine hKK _ _ ?_ ?_
   ·
    exact grP
   ·
    exact rfl
  refine ObsT.cons (k' := 11) rfl ?_ ?_
  ·
   intro fa W hW hSame hRR KK hKK
   try dsimp only at hW
   obtain ⟨fv8, ft8, (rfl : fv8 = Value.bool false)⟩ := hRR 8 _ 13 rfl rfl (by kernel_rfl) (by kernel_rfl)
   obtain ⟨fv9, ft9, (rfl : fv9 = Value.agg #[.int .i64 3, .string z, .int .i64 t, .int .i64 0, .int .i64 0, .int .i64 p])⟩ := hRR 9 _ 14 rfl rfl (by kernel_rfl) (by kernel_rfl)
   replace hKK : ∀ v w', Below W.heap.size W w' → v = Value.agg #[.int .i64 3, .string z, .int .i64 t, .int .i64 0, .int .i64 0, .int .i64 p] → KK (Act.put fa _ v) w' := fun v w' h1 h2 => hKK v w' h1 h2
   clear hSame hRR
   rw [wanted_guard rfl rfl rfl ft8]
   rw [if_pos (by rfl)]
   go_simp
   refine (PL.out _).mono ?_; rintro e w' ⟨rfl, hb⟩
   exact hKK _ _ hb rfl
  refine ObsT.cons (k' := 12) rfl ?_ ?_
  ·
   intro fa W hW hSame hRR KK hKK
   try dsimp only at hW
   have fb1 : fa.tmps[1]? = some (Value.pointer (some ⟨w.heap.size, 0, none⟩)) := (hSame.base 1 (by kernel_rfl)).trans (by kernel_rfl)
   obtain ⟨fv8, ft8, (rfl : fv8 = Value.bool false)⟩ := hRR 8 _ 13 rfl rfl (by kernel_rfl) (by kernel_rfl)
   replace hKK : ∀ v w', Below W.heap.size W w' → v = Value.agg #[.int .i64 3, .string z, .int .i64 t, .int .i64 0, .int .i64 0, .int .i64 p] → KK (Act.put fa _ v) w' := fun v w' h1 h2 => hKK v w' h1 h2
   have hX := X1.out.keep hW
   have tx := hX; obtain ⟨chb, cfz, ck0, ck1, ck2, ck3, ck4, ck5⟩ := tx
   clear hSame hRR
   rw [wanted_guard rfl rfl rfl ft8]
   rw [if_pos (by rfl)]
   go_simp
   refine hKK _ _ ?_ ?_
   ·
    exact grP
   ·
    exact rfl
  refine ObsT.cons (k' := 13) rfl ?_ ?_
  ·
   intro fa W hW hSame hRR KK hKK
   try dsimp only at hW
   obtain ⟨fv8, ft8, (rfl : fv8 = Value.bool false)⟩ := hRR 8 _ 13 rfl rfl (by kernel_rfl) (by kernel_rfl)
   obtain ⟨fv10, ft10, (rfl : fv10 = Value.agg #[.int .i64 3, .string z, .int .i64 t, .int .i64 0, .int .i64 0, .int .i64 p])⟩ := hRR 10 _ 15 rfl rfl (by kernel_rfl) (by kernel_rfl)
   obtain ⟨fv11, ft11, (rfl : fv11 = Value.agg #[.int .i64 3, .string z, .int .i64 t, .int .i64 0, .int .i64 0, .int .i64 p])⟩ := hRR 11 _ 16 rfl rfl (by kernel_rfl) (by kernel_rfl)
   replace hKK : ∀ v w', Below W.heap.size W w' → v = Value.bool false → KK (Act.put fa _ v) w' := fun v w' h1 h2 => hKK v w' h1 h2
   clear hSame hRR
   rw [wanted_guard rfl rfl rfl ft8]
   rw [if_pos (by rfl)]
   go_simp
   refine hKK _ _ ?_ ?_
   ·
    exact grP
   ·
    exact rfl
  refine ObsT.cons (k' := 14) rfl ?_ ?_
  ·
   intro fa W hW hSame hRR KK hKK
   try dsimp only at hW
   obtain ⟨fv8, ft8, (rfl : fv8 = Value.bool false)⟩ := hRR 8 _ 13 rfl rfl (by kernel_rfl) (by kernel_rfl)
   obtain ⟨fv12, ft12, (rfl : fv12 = Value.bool false)⟩ := hRR 12 _ 17 rfl rfl (by kernel_rfl) (by kernel_rfl)
   replace hKK : ∀ v w', Below W.heap.size W w' → v = Value.bool false → KK (Act.put fa _ v) w' := fun v w' h1 h2 => hKK v w' h1 h2
   clear hSame hRR
   rw [if_pos (wanted_plain rfl)]
   go_simp
   refine hKK _ _ ?_ ?_
   ·
    exact grP
   ·
    exact rfl
  exact ObsT.nil
 case hlast =>
  intro fa w2 d2 hSame hRR
  try dsimp only at d2
  obtain ⟨zz13, f18, rfl⟩ := hRR 13 _ 18 rfl rfl rfl
  rw [Same_shape hSame]
  simp only [List.filterMap_cons, List.filterMap_nil, List.foldl_cons, List.foldl_nil]
  have g18 : fa.tmps.getD 18 undef = Value.bool false := by simp [Array.getD_eq_getD_getElem?, f18]
  rw [g18]
  generalize fa.tmps.getD 5 undef = y5
  generalize fa.tmps.getD 6 undef = y6
  generalize fa.tmps.getD 7 undef = y7
  generalize fa.tmps.getD 8 undef = y8
  generalize fa.tmps.getD 9 undef = y9
  generalize fa.tmps.getD 10 undef = y10
  generalize fa.tmps.getD 11 undef = y11
  generalize fa.tmps.getD 12 undef = y12
  generalize fa.tmps.getD 13 undef = y13
  generalize fa.tmps.getD 14 undef = y14
  generalize fa.tmps.getD 15 undef = y15
  generalize fa.tmps.getD 16 undef = y16
  generalize fa.tmps.getD 17 undef = y17
  clear hSame hRR f18 g18
  simp only [Act.put, List.setIfInBounds_toArray, List.set_cons_succ, List.set_cons_zero]
  have B2 := Lib.hid (below_step B1.out d2)
  have X := X1.out.keep d2
  have Xh := X.hb; have Xf := X.fz; have X0c := X.k0; have X1c := X.k1; have X2c := X.k2; have X3c := X.k3; have X4c := X.k4; have X5c := X.k5
  clear d2 X
  go_wp2_with fail
  refine (NM.out _).mono ?_; rintro e w3 ⟨rfl, rfl⟩
  go_wp2_with fail
  go_ret
  exact ⟨rfl, B2.out⟩
set_option maxHeartbeats 4000000 in
set_option maxRecDepth 100000 in
theorem rqright_ky (k : Int) (t : Int) (z : ByteArray) (hzs : z.size ≤ 1000) (w : World) (hk : k = 1 ∨ k = 2 ∨ k = 4) (hnm : Lk.nm z.data.toList = 0) :
  Calls Tryz.prog 11 #[.agg #[.int .i64 k, .string z, .int .i64 t, .int .i64 0, .int .i64 0, .int .i64 0]] w fun e w' => e = .returned (.bool true) ∧ Below w.heap.size w w' := by
 have PL := Lib.hid (fun W => rqplain_any k t 0 0 0 z W)
 rw [if_neg (by omega), if_neg (by omega), if_neg (by omega), if_neg (by omega), if_neg (by omega)] at PL
 have g0 : decide (k < 0) = false := decide_eq_false (by omega)
 have g8 : decide (7 < k) = false := decide_eq_false (by omega)
 have q0 : (k == 0) = false := by rw [beq_eq_false_iff_ne]; omega
 have q6 : (k == 6) = false := by rw [beq_eq_false_iff_ne]; omega
 have q3 : (k == 3) = false := by rw [beq_eq_false_iff_ne]; omega
 have q5 : (k == 5) = false := by rw [beq_eq_false_iff_ne]; omega
 have q7 : (k == 7) = false := by rw [beq_eq_false_iff_ne]; omega
 have NM := Lib.hid (fun W => rrname_any z W (by unfold maxLen; omega))
 obtain ⟨y, hy⟩ : ∃ y, y = Lk.nm z.data.toList := ⟨_, rfl⟩
 rw [← hy] at NM hnm
 subst hnm
 clear hy
 go_enter Tryz.func11, Tryz.ntmps11
 go_upto_region 1 with (fail)
 refine wp_named ?_; intro w1 hw1
 have d1 : Below w.heap.size w w1 := by rw [hw1]; exact gr0
 have B1 := Lib.hid d1
 have X1 : Hid (Bk6 w1 w.heap.size (.int .i64 k) (.string z) (.int .i64 t) (.int .i64 0) (.int .i64 0) (.int .i64 0)) := Lib.hid (by rw [hw1]; exact ⟨by simp <;> omega, by intro j; simp [go_sem], by simp [go_sem], by simp [go_sem], by simp [go_sem], by simp [go_sem], by simp [go_sem], by simp [go_sem]⟩)
 clear d1 hw1
 refine wp_region_till (R := markR [(fun v _ => v = Value.pointer (some ⟨w.heap.size, 0, none⟩)), (fun v _ => v = Value.int .i64 k), (fun v _ => v = Value.bool false), (fun v _ => v = Value.bool false), (fun v _ => v = Value.pointer (some ⟨w.heap.size, 0, none⟩)), (fun v _ => v = Value.int .i64 k), (fun v _ => v = Value.bool false), (fun v _ => v = Value.bool false), (fun v _ => v = Value.bool false), (fun v _ => v = Value.agg #[.int .i64 k, .string z, .int .i64 t, .int .i64 0, .int .i64 0, .int .i64 0]), (fun v _ => v = Value.agg #[.int .i64 k, .string z, .int .i64 t, .int .i64 0, .int .i64 0, .int .i64 0]), (fun v _ => v = Value.agg #[.int .i64 k, .string z, .int .i64 t, .int .i64 0, .int .i64 0, .int .i64 0]), (fun v _ => v = Value.bool false), (fun v _ => v = Value.bool false)]) (till := fun _ => none) (D := fun W => Below w1.heap.size w1 W) (G := fun _ W W' => Below W.heap.size W W') (by rfl) ?hbeg ⟨by kernel_rfl, by kernel_rfl, by kernel_rfl, ?hkeep, ?hstab, ObsT.all ?hobs, ?hlast⟩
 case hbeg => exact (Below.refl _ _).drew
 case hkeep => intro i w1 w2 hC hG; exact below_step hC hG
 case hstab =>
  intro i j hij ht v w1 w2 hG hm
  match j, hm with
  | 0, hm => exact hm
  | 1, hm => exact hm
  | 2, hm => exact hm
  | 3, hm => exact hm
  | 4, hm => exact hm
  | 5, hm => exact hm
  | 6, hm => exact hm
  | 7, hm => exact hm
  | 8, hm => exact hm
  | 9, hm => exact hm
  | 10, hm => exact hm
  | 11, hm => exact hm
  | 12, hm => exact hm
  | 13, hm => exact hm
  | j + 14, hm => exact trivial
 case hobs =>
  refine ObsT.cons (k' := 1) rfl ?_ ?_
  ·
   intro fa W hW hSame hRR KK hKK
   try dsimp only at hW
   have fb1 : fa.tmps[1]? = some (Value.pointer (some ⟨w.heap.size, 0, none⟩)) := (hSame.base 1 (by kernel_rfl)).trans (by kernel_rfl)
   replace hKK : ∀ v w', Below W.heap.size W w' → v = Value.pointer (some ⟨w.heap.size, 0, none⟩) → KK (Act.put fa _ v) w' := fun v w' h1 h2 => hKK v w' h1 h2
   clear hSame hRR
   rw [if_pos (wanted_plain rfl)]
   go_simp
   refine hKK _ _ ?_ ?_
   ·
    exact grP
   ·
    exact rfl
  refine ObsT.cons (k' := 2) rfl ?_ ?_
  ·
   intro fa W hW hSame hRR KK hKK
   try dsimp only at hW
   obtain ⟨fv0, ft0, (rfl : fv0 = Value.pointer (some ⟨w.heap.size, 0, none⟩))⟩ := hRR 0 _ 5 rfl rfl (by kernel_rfl) (by kernel_rfl)
   replace hKK : ∀ v w', Below W.heap.size W w' → v = Value.int .i64 k → KK (Act.put fa _ v) w' := fun v w' h1 h2 => hKK v w' h1 h2
   have hX := X1.out.keep hW
   have tx := hX; obtain ⟨chb, cfz, ck0, ck1, ck2, ck3, ck4, ck5⟩ := tx
   clear hSame hRR
   rw [if_pos (wanted_plain rfl)]
   go_simp
   refine hKK _ _ ?_ ?_
   ·
    exact grP
   ·
    exact rfl
  refine ObsT.cons (k' := 3) rfl ?_ ?_
  ·
   intro fa W hW hSame hRR KK hKK
   try dsimp only at hW
   obtain ⟨fv1, ft1, (rfl : fv1 = Value.int .i64 k)⟩ := hRR 1 _ 6 rfl rfl (by kernel_rfl) (by kernel_rfl)
   replace hKK : ∀ v w', Below W.heap.size W w' → v = Value.bool false → KK (Act.put fa _ v) w' := fun v w' h1 h2 => hKK v w' h1 h2
   clear hSame hRR
   rw [if_pos (wanted_plain rfl)]
   go_simp
   refine hKK _ _ ?_ ?_
   ·
    exact grP
   ·
    exact rfl
  refine ObsT.cons (k' := 4) rfl ?_ ?_
  ·
   intro fa W hW hSame hRR KK hKK
   try dsimp only at hW
   obtain ⟨fv2, ft2, (rfl : fv2 = Value.bool false)⟩ := hRR 2 _ 7 rfl rfl (by kernel_rfl) (by kernel_rfl)
   replace hKK : ∀ v w', Below W.heap.size W w' → v = Value.bool false → KK (Act.put fa _ v) w' := fun v w' h1 h2 => hKK v w' h1 h2
   clear hSame hRR
   rw [if_pos (wanted_plain rfl)]
   go_simp
   refine hKK _ _ ?_ ?_
   ·
    exact grP
   ·
    exact rfl
  refine ObsT.cons (k' := 5) rfl ?_ ?_
  ·
   intro fa W hW hSame hRR KK hKK
   try dsimp only at hW
   have fb1 : fa.tmps[1]? = some (Value.pointer (some ⟨w.heap.size, 0, none⟩)) := (hSame.base 1 (by kernel_rfl)).trans (by kernel_rfl)
   obtain ⟨fv3, ft3, (rfl : fv3 = Value.bool false)⟩ := hRR 3 _ 8 rfl rfl (by kernel_rfl) (by kernel_rfl)
   replace hKK : ∀ v w', Below W.heap.size W w' → v = Value.pointer (some ⟨w.heap.size, 0, none⟩) → KK (Act.put fa _ v) w' := fun v w' h1 h2 => hKK v w' h1 h2
   clear hSame hRR
   rw [wanted_guard rfl rfl rfl ft3]
   rw [if_pos (by rfl)]
   go_simp
   refine hKK _ _ ?_ ?_
   ·
    exact grP
   ·
    exact rfl
  refine ObsT.cons (k' := 6) rfl ?_ ?_
  ·
   intro fa W hW hSame hRR KK hKK
   try dsimp only at hW
   obtain ⟨fv3, ft3, (rfl : fv3 = Value.bool false)⟩ := hRR 3 _ 8 rfl rfl (by kernel_rfl) (by kernel_rfl)
   obtain ⟨fv4, ft4, (rfl : fv4 = Value.pointer (some ⟨w.heap.size, 0, none⟩))⟩ := hRR 4 _ 9 rfl rfl (by kernel_rfl) (by kernel_rfl)
   replace hKK : ∀ v w', Below W.heap.size W w' → v = Value.int .i64 k → KK (Act.put fa _ v) w' := fun v w' h1 h2 => hKK v w' h1 h2
   have hX := X1.out.keep hW
   have tx := hX; obtain ⟨chb, cfz, ck0, ck1, ck2, ck3, ck4, ck5⟩ := tx
   clear hSame hRR
   rw [wanted_guard rfl rfl rfl ft3]
   rw [if_pos (by rfl)]
   go_simp
   refine hKK _ _ ?_ ?_
   ·
    exact grP
   ·
    exact rfl
  refine ObsT.cons (k' := 7) rfl ?_ ?_
  ·
   intro fa W hW hSame hRR KK hKK
   try dsimp only at hW
   obtain ⟨fv3, ft3, (rfl : fv3 = Value.bool false)⟩ := hRR 3 _ 8 rfl rfl (by kernel_rfl) (by kernel_rfl)
   obtain ⟨fv5, ft5, (rfl : fv5 = Value.int .i64 k)⟩ := hRR 5 _ 10 rfl rfl (by kernel_rfl) (by kernel_rfl)
   replace hKK : ∀ v w', Below W.heap.size W w' → v = Value.bool false → KK (Act.put fa _ v) w' := fun v w' h1 h2 => hKK v w' h1 h2
   clear hSame hRR
   rw [wanted_guard rfl rfl rfl ft3]
   rw [if_pos (by rfl)]
   go_simp
   refine hKK _ _ ?_ ?_
   ·
    exact grP
   ·
    exact rfl
  refine ObsT.cons (k' := 8) rfl ?_ ?_
  ·
   intro fa W hW hSame hRR KK hKK
   try dsimp only at hW
   obtain ⟨fv3, ft3, (rfl : fv3 = Value.bool false)⟩ := hRR 3 _ 8 rfl rfl (by kernel_rfl) (by kernel_rfl)
   obtain ⟨fv6, ft6, (rfl : fv6 = Value.bool false)⟩ := hRR 6 _ 11 rfl rfl (by kernel_rfl) (by kernel_rfl)
   replace hKK : ∀ v w', Below W.heap.size W w' → v = Value.bool false → KK (Act.put fa _ v) w' := fun v w' h1 h2 => hKK v w' h1 h2
   clear hSame hRR
   rw [if_pos (wanted_plain rfl)]
   go_simp
   refine hKK _ _ ?_ ?_
   ·
    exact grP
   ·
    exact rfl
  refine ObsT.cons (k' := 9) rfl ?_ ?_
  ·
   intro fa W hW hSame hRR KK hKK
   try dsimp only at hW
   obtain ⟨fv7, ft7, (rfl : fv7 = Value.bool false)⟩ := hRR 7 _ 12 rfl rfl (by kernel_rfl) (by kernel_rfl)
   replace hKK : ∀ v w', Below W.heap.size W w' → v = Value.bool false → KK (Act.put fa _ v) w' := fun v w' h1 h2 => hKK v w' h1 h2
   clear hSame hRR
   rw [if_pos (wanted_plain rfl)]
   go_simp
   refine hKK _ _ ?_ ?_
   ·
    exact grP
   ·
    exact rfl
  refine ObsT.cons (k' := 10) rfl ?_ ?_
  ·
   intro fa W hW hSame hRR KK hKK
   try dsimp only at hW
   have fb1 : fa.tmps[1]? = some (Value.pointer (some ⟨w.heap.size, 0, none⟩)) := (hSame.base 1 (by kernel_rfl)).trans (by kernel_rfl)
   obtain ⟨fv8, ft8, (rfl : fv8 = Value.bool false)⟩ := hRR 8 _ 13 rfl rfl (by kernel_rfl) (by kernel_rfl)
   replace hKK : ∀ v w', Below W.heap.size W w' → v = Value.agg #[.int .i64 k, .string z, .int .i64 t, .int .i64 0, .int .i64 0, .int .i64 0] → KK (Act.put fa _ v) w' := fun v w' h1 h2 => hKK v w' h1 h2
   have hX := X1.out.keep hW
   have tx := hX; obtain ⟨chb, cfz, ck0, ck1, ck2, ck3, ck4, ck5⟩ := tx
   clear hSame hRR
   rw [wanted_guard rfl rfl rfl ft8]
   rw [if_pos (by rfl)]
   go_simp
   refine hKK _ _ ?_ ?_
   ·
    exact grP
   ·
    exact rfl
  refine ObsT.cons (k' := 11) rfl ?_ ?_
  ·
   intro fa W hW hSame hRR KK hKK
   try dsimp only at hW
   obtain ⟨fv8, ft8, (rfl : fv8 = Value.bool false)⟩ := hRR 8 _ 13 rfl rfl (by kernel_rfl) (by kernel_rfl)
   obtain ⟨fv9, ft9, (rfl : fv9 = Value.agg #[.int .i64 k, .string z, .int .i64 t, .int .i64 0, .int .i64 0, .int .i64 0])⟩ := hRR 9 _ 14 rfl rfl (by kernel_rfl) (by kernel_rfl)
   replace hKK : ∀ v w', Below W.heap.size W w' → v = Value.agg #[.int .i64 k, .string z, .int .i64 t, .int .i64 0, .int .i64 0, .int .i64 0] → KK (Act.put fa _ v) w' := fun v w' h1 h2 => hKK v w' h1 h2
   clear hSame hRR
   rw [wanted_guard rfl rfl rfl ft8]
   rw [if_pos (by rfl)]
   go_simp
   refine (PL.out _).mono ?_; rintro e w' ⟨rfl, hb⟩
   exact hKK _ _ hb rfl
  refine ObsT.cons (k' := 12) rfl ?_ ?_
  ·
   intro fa W hW hSame hRR KK hKK
   try dsimp only at hW
   have fb1 : fa.tmps[1]? = some (Value.pointer (some ⟨w.heap.size, 0, none⟩)) := (hSame.base 1 (by kernel_rfl)).trans (by kernel_rfl)
   obtain ⟨fv8, ft8, (rfl : fv8 = Value.bool false)⟩ := hRR 8 _ 13 rfl rfl (by kernel_rfl) (by kernel_rfl)
   replace hKK : ∀ v w', Below W.heap.size W w' → v = Value.agg #[.int .i64 k, .string z, .int .i64 t, .int .i64 0, .int .i64 0, .int .i64 0] → KK (Act.put fa _ v) w' := fun v w' h1 h2 => hKK v w' h1 h2
   have hX := X1.out.keep hW
   have tx := hX; obtain ⟨chb, cfz, ck0, ck1, ck2, ck3, ck4, ck5⟩ := tx
   clear hSame hRR
   rw [wanted_guard rfl rfl rfl ft8]
   rw [if_pos (by rfl)]
   go_simp
   refine hKK _ _ ?_ ?_
   ·
    exact grP
   ·
    exact rfl
  refine ObsT.cons (k' := 13) rfl ?_ ?_
  ·
   intro fa W hW hSame hRR KK hKK
   try dsimp only at hW
   obtain ⟨fv8, ft8, (rfl : fv8 = Value.bool false)⟩ := hRR 8 _ 13 rfl rfl (by kernel_rfl) (by kernel_rfl)
   obtain ⟨fv10, ft10, (rfl : fv10 = Value.agg #[.int .i64 k, .string z, .int .i64 t, .int .i64 0, .int .i64 0, .int .i64 0])⟩ := hRR 10 _ 15 rfl rfl (by kernel_rfl) (by kernel_rfl)
   obtain ⟨fv11, ft11, (rfl : fv11 = Value.agg #[.int .i64 k, .string z, .int .i64 t, .int .i64 0, .int .i64 0, .int .i64 0])⟩ := hRR 11 _ 16 rfl rfl (by kernel_rfl) (by kernel_rfl)
   replace hKK : ∀ v w', Below W.heap.size W w' → v = Value.bool false → KK (Act.put fa _ v) w' := fun v w' h1 h2 => hKK v w' h1 h2
   clear hSame hRR
   rw [wanted_guard rfl rfl rfl ft8]
   rw [if_pos (by rfl)]
   go_simp
   refine hKK _ _ ?_ ?_
   ·
    exact grP
   ·
    exact rfl
  refine ObsT.cons (k' := 14) rfl ?_ ?_
  ·
   intro fa W hW hSame hRR KK hKK
   try dsimp only at hW
   obtain ⟨fv8, ft8, (rfl : fv8 = Value.bool false)⟩ := hRR 8 _ 13 rfl rfl (by kernel_rfl) (by kernel_rfl)
   obtain ⟨fv12, ft12, (rfl : fv12 = Value.bool false)⟩ := hRR 12 _ 17 rfl rfl (by kernel_rfl) (by kernel_rfl)
   replace hKK : ∀ v w', Below W.heap.size W w' → v = Value.bool false → KK (Act.put fa _ v) w' := fun v w' h1 h2 => hKK v w' h1 h2
   clear hSame hRR
   rw [if_pos (wanted_plain rfl)]
   go_simp
   refine hKK _ _ ?_ ?_
   ·
    exact grP
   ·
    exact rfl
  exact ObsT.nil
 case hlast =>
  intro fa w2 d2 hSame hRR
  try dsimp only at d2
  obtain ⟨zz13, f18, rfl⟩ := hRR 13 _ 18 rfl rfl rfl
  rw [Same_shape hSame]
  simp only [List.filterMap_cons, List.filterMap_nil, List.foldl_cons, List.foldl_nil]
  have g18 : fa.tmps.getD 18 undef = Value.bool false := by simp [Array.getD_eq_getD_getElem?, f18]
  rw [g18]
  generalize fa.tmps.getD 5 undef = y5
  generalize fa.tmps.getD 6 undef = y6
  generalize fa.tmps.getD 7 undef = y7
  generalize fa.tmps.getD 8 undef = y8
  generalize fa.tmps.getD 9 undef = y9
  generalize fa.tmps.getD 10 undef = y10
  generalize fa.tmps.getD 11 undef = y11
  generalize fa.tmps.getD 12 undef = y12
  generalize fa.tmps.getD 13 undef = y13
  generalize fa.tmps.getD 14 undef = y14
  generalize fa.tmps.getD 15 undef = y15
  generalize fa.tmps.getD 16 undef = y16
  generalize fa.tmps.getD 17 undef = y17
  clear hSame hRR f18 g18
  simp only [Act.put, List.setIfInBounds_toArray, List.set_cons_succ, List.set_cons_zero]
  have B2 := Lib.hid (below_step B1.out d2)
  have X := X1.out.keep d2
  have Xh := X.hb; have Xf := X.fz; have X0c := X.k0; have X1c := X.k1; have X2c := X.k2; have X3c := X.k3; have X4c := X.k4; have X5c := X.k5
  clear d2 X
  go_wp2_with fail
  refine (NM.out _).mono ?_; rintro e w3 ⟨rfl, rfl⟩
  go_wp2_with fail
  go_ret
  exact ⟨rfl, B2.out⟩
set_option maxHeartbeats 4000000 in
set_option maxRecDepth 100000 in
theorem rqright_3y (t p : Int) (z : ByteArray) (hzs : z.size ≤ 1000) (w : World) (b1 b2 : Bool) (g1 : decide (1 ≤ p) = b1) (g2 : decide (p ≤ 3) = b2) (hnm : Lk.nm z.data.toList = 0) :
  Calls Tryz.prog 11 #[.agg #[.int .i64 3, .string z, .int .i64 t, .int .i64 0, .int .i64 0, .int .i64 p]] w fun e w' => e = .returned (.bool (b1 && b2)) ∧ Below w.heap.size w w' := by
 have PL := Lib.hid (fun W => rqplain_any 3 t 0 0 p z W)
 simp only [Int.reduceEq, or_false, false_or, or_true, true_or, or_self, if_true, if_false] at PL
 have NM := Lib.hid (fun W => rrname_any z W (by unfold maxLen; omega))
 obtain ⟨y, hy⟩ : ∃ y, y = Lk.nm z.data.toList := ⟨_, rfl⟩
 rw [← hy] at NM hnm
 subst hnm
 clear hy
 go_enter Tryz.func11, Tryz.ntmps11
 go_upto_region 1 with (fail)
 refine wp_named ?_; intro w1 hw1
 have d1 : Below w.heap.size w w1 := by rw [hw1]; exact gr0
 have B1 := Lib.hid d1
 have X1 : Hid (Bk6 w1 w.heap.size (.int .i64 3) (.string z) (.int .i64 t) (.int .i64 0) (.int .i64 0) (.int .i64 p)) := Lib.hid (by rw [hw1]; exact ⟨by simp <;> omega, by intro j; simp [go_sem], by simp [go_sem], by simp [go_sem], by simp [go_sem], by simp [go_sem], by simp [go_sem], by simp [go_sem]⟩)
 clear d1 hw1
 refine wp_region_till (R := markR [(fun v _ => v = Value.pointer (some ⟨w.heap.size, 0, none⟩)), (fun v _ => v = Value.int .i64 3), (fun v _ => v = Value.bool false), (fun v _ => v = Value.bool false), (fun v _ => v = Value.pointer (some ⟨w.heap.size, 0, none⟩)), (fun v _ => v = Value.int .i64 3), (fun v _ => v = Value.bool false), (fun v _ => v = Value.bool false), (fun v _ => v = Value.bool false), (fun v _ => v = Value.agg #[.int .i64 3, .string z, .int .i64 t, .int .i64 0, .int .i64 0, .int .i64 p]), (fun v _ => v = Value.agg #[.int .i64 3, .string z, .int .i64 t, .int .i64 0, .int .i64 0, .int .i64 p]), (fun v _ => v = Value.agg #[.int .i64 3, .string z, .int .i64 t, .int .i64 0, .int .i64 0, .int .i64 p]), (fun v _ => v = Value.bool false), (fun v _ => v = Value.bool false)]) (till := fun _ => none) (D := fun W => Below w1.heap.size w1 W) (G := fun _ W W' => Below W.heap.size W W') (by rfl) ?hbeg ⟨by kernel_rfl, by kernel_rfl, by kernel_rfl, ?hkeep, ?hstab, ObsT.all ?hobs, ?hlast⟩
 case hbeg => exact (Below.refl _ _).drew
 case hkeep => intro i w1 w2 hC hG; exact below_step hC hG
 case hstab =>
  intro i j hij ht v w1 w2 hG hm
  match j, hm with
  | 0, hm => exact hm
  | 1, hm => exact hm
  | 2, hm => exact hm
  | 3, hm => exact hm
  | 4, hm => exact hm
  | 5, hm => exact hm
  | 6, hm => exact hm
  | 7, hm => exact hm
  | 8, hm => exact hm
  | 9, hm => exact hm
  | 10, hm => exact hm
  | 11, hm => exact hm
  | 12, hm => exact hm
  | 13, hm => exact hm
  | j + 14, hm => exact trivial
 case hobs =>
  refine ObsT.cons (k' := 1) rfl ?_ ?_
  ·
   intro fa W hW hSame hRR KK hKK
   try dsimp only at hW
   have fb1 : fa.tmps[1]? = some (Value.pointer (some ⟨w.heap.size, 0, none⟩)) := (hSame.base 1 (by kernel_rfl)).trans (by kernel_rfl)
   replace hKK : ∀ v w', Below W.heap.size W w' → v = Value.pointer (some ⟨w.heap.size, 0, none⟩) → KK (Act.put fa _ v) w' := fun v w' h1 h2 => hKK v w' h1 h2
   clear hSame hRR
   rw [if_pos (wanted_plain rfl)]
   go_simp
   refine hKK _ _ ?_ ?_
   ·
    exact grP
   ·
    exact rfl
  refine ObsT.cons (k' := 2) rfl ?_ ?_
  ·
   intro fa W hW hSame hRR KK hKK
   try dsimp only at hW
   obtain ⟨fv0, ft0, (rfl : fv0 = Value.pointer (some ⟨w.heap.size, 0, none⟩))⟩ := hRR 0 _ 5 rfl rfl (by kernel_rfl) (by kernel_rfl)
   replace hKK : ∀ v w', Below W.heap.size W w' → v = Value.int .i64 3 → KK (Act.put fa _ v) w' := fun v w' h1 h2 => hKK v w' h1 h2
   have hX := X1.out.keep hW
   have tx := hX; obtain ⟨chb, cfz, ck0, ck1, ck2, ck3, ck4, ck5⟩ := tx
   clear hSame hRR
   rw [if_pos (wanted_plain rfl)]
   go_simp
   refine hKK _ _ ?_ ?_
   ·
    exact grP
   ·
    exact rfl
  refine ObsT.cons (k' := 3) rfl ?_ ?_
  ·
   intro fa W hW hSame hRR KK hKK
   try dsimp only at hW
   obtain ⟨fv1, ft1, (rfl : fv1 = Value.int .i64 3)⟩ := hRR 1 _ 6 rfl rfl (by kernel_rfl) (by kernel_rfl)
   replace hKK : ∀ v w', Below W.heap.size W w' → v = Value.bool false → KK (Act.put fa _ v) w' := fun v w' h1 h2 => hKK v w' h1 h2
   clear hSame hRR
   rw [if_pos (wanted_plain rfl)]
   go_simp
   refine hKK _ _ ?_ ?_
   ·
    exact grP
   ·
    exact rfl
  refine ObsT.cons (k' := 4) rfl ?_ ?_
  ·
   intro fa W hW hSame hRR KK hKK
   try dsimp only at hW
   obtain ⟨fv2, ft2, (rfl : fv2 = Value.bool false)⟩ := hRR 2 _ 7 rfl rfl (by kernel_rfl) (by kernel_rfl)
   replace hKK : ∀ v w', Below W.heap.size W w' → v = Value.bool false → KK (Act.put fa _ v) w' := fun v w' h1 h2 => hKK v w' h1 h2
   clear hSame hRR
   rw [if_pos (wanted_plain rfl)]
   go_simp
   refine hKK _ _ ?_ ?_
   ·
    exact grP
   ·
    exact rfl
  refine ObsT.cons (k' := 5) rfl ?_ ?_
  ·
   intro fa W hW hSame hRR KK hKK
   try dsimp only at hW
   have fb1 : fa.tmps[1]? = some (Value.pointer (some ⟨w.heap.size, 0, none⟩)) := (hSame.base 1 (by kernel_rfl)).trans (by kernel_rfl)
   obtain ⟨fv3, ft3, (rfl : fv3 = Value.bool false)⟩ := hRR 3 _ 8 rfl rfl (by kernel_rfl) (by kernel_rfl)
   replace hKK : ∀ v w', Below W.heap.size W w' → v = Value.pointer (some ⟨w.heap.size, 0, none⟩) → KK (Act.put fa _ v) w' := fun v w' h1 h2 => hKK v w' h1 h2
   clear hSame hRR
   rw [wanted_guard rfl rfl rfl ft3]
   rw [if_pos (by rfl)]
   go_simp
   refine hKK _ _ ?_ ?_
   ·
    exact grP
   ·
    exact rfl
  refine ObsT.cons (k' := 6) rfl ?_ ?_
  ·
   intro fa W hW hSame hRR KK hKK
   try dsimp only at hW
   obtain ⟨fv3, ft3, (rfl : fv3 = Value.bool false)⟩ := hRR 3 _ 8 rfl rfl (by kernel_rfl) (by kernel_rfl)
   obtain ⟨fv4, ft4, (rfl : fv4 = Value.pointer (some ⟨w.heap.size, 0, none⟩))⟩ := hRR 4 _ 9 rfl rfl (by kernel_rfl) (by kernel_rfl)
   replace hKK : ∀ v w', Below W.heap.size W w' → v = Value.int .i64 3 → KK (Act.put fa _ v) w' := fun v w' h1 h2 => hKK v w' h1 h2
   have hX := X1.out.keep hW
   have tx := hX; obtain ⟨chb, cfz, ck0, ck1, ck2, ck3, ck4, ck5⟩ := tx
   clear hSame hRR
   rw [wanted_guard rfl rfl rfl ft3]
   rw [if_pos (by rfl)]
   go_simp
   refine hKK _ _ ?_ ?_
   ·
    exact grP
   ·
    exact rfl
  refine ObsT.cons (k' := 7) rfl ?_ ?_
  ·
   intro fa W hW hSame hRR KK hKK
   try dsimp only at hW
   obtain ⟨fv3, ft3, (rfl : fv3 = Value.bool false)⟩ := hRR 3 _ 8 rfl rfl (by kernel_rfl) (by kernel_rfl)
   obtain ⟨fv5, ft5, (rfl : fv5 = Value.int .i64 3)⟩ := hRR 5 _ 10 rfl rfl (by kernel_rfl) (by kernel_rfl)
   replace hKK : ∀ v w', Below W.heap.size W w' → v = Value.bool false → KK (Act.put fa _ v) w' := fun v w' h1 h2 => hKK v w' h1 h2
   clear hSame hRR
   rw [wanted_guard rfl rfl rfl ft3]
   rw [if_pos (by rfl)]
   go_simp
   refine hKK _ _ ?_ ?_
   ·
    exact grP
   ·
    exact rfl
  refine ObsT.cons (k' := 8) rfl ?_ ?_
  ·
   intro fa W hW hSame hRR KK hKK
   try dsimp only at hW
   obtain ⟨fv3, ft3, (rfl : fv3 = Value.bool false)⟩ := hRR 3 _ 8 rfl rfl (by kernel_rfl) (by kernel_rfl)
   obtain ⟨fv6, ft6, (rfl : fv6 = Value.bool false)⟩ := hRR 6 _ 11 rfl rfl (by kernel_rfl) (by kernel_rfl)
   replace hKK : ∀ v w', Below W.heap.size W w' → v = Value.bool false → KK (Act.put fa _ v) w' := fun v w' h1 h2 => hKK v w' h1 h2
   clear hSame hRR
   rw [if_pos (wanted_plain rfl)]
   go_simp
   refine hKK _ _ ?_ ?_
   ·
    exact grP
   ·
    exact rfl
  refine ObsT.cons (k' := 9) rfl ?_ ?_
  ·
   intro fa W hW hSame hRR KK hKK
   try dsimp only at hW
   obtain ⟨fv7, ft7, (rfl : fv7 = Value.bool false)⟩ := hRR 7 _ 12 rfl rfl (by kernel_rfl) (by kernel_rfl)
   replace hKK : ∀ v w', Below W.heap.size W w' → v = Value.bool false → KK (Act.put fa _ v) w' := fun v w' h1 h2 => hKK v w' h1 h2
   clear hSame hRR
   rw [if_pos (wanted_plain rfl)]
   go_simp
   refine hKK _ _ ?_ ?_
   ·
    exact grP
   ·
    exact rfl
  refine ObsT.cons (k' := 10) rfl ?_ ?_
  ·
   intro fa W hW hSame hRR KK hKK
   try dsimp only at hW
   have fb1 : fa.tmps[1]? = some (Value.pointer (some ⟨w.heap.size, 0, none⟩)) := (hSame.base 1 (by kernel_rfl)).trans (by kernel_rfl)
   obtain ⟨fv8, ft8, (rfl : fv8 = Value.bool false)⟩ := hRR 8 _ 13 rfl rfl (by kernel_rfl) (by kernel_rfl)
   replace hKK : ∀ v w', Below W.heap.size W w' → v = Value.agg #[.int .i64 3, .string z, .int .i64 t, .int .i64 0, .int .i64 0, .int .i64 p] → KK (Act.put fa _ v) w' := fun v w' h1 h2 => hKK v w' h1 h2
   have hX := X1.out.keep hW
   have tx := hX; obtain ⟨chb, cfz, ck0, ck1, ck2, ck3, ck4, ck5⟩ := tx
   clear hSame hRR
   rw [wanted_guard rfl rfl rfl ft8]
   rw [if_pos (by rfl)]
   go_simp
   refine hKK _ _ ?_ ?_
   ·
    exact grP
   ·
    exact rfl
  refine ObsT.cons (k' := 11) rfl ?_ ?_
  ·
   intro fa W hW hSame hRR KK hKK
   try dsimp only at hW
   obtain ⟨fv8, ft8, (rfl : fv8 = Value.bool false)⟩ := hRR 8 _ 13 rfl rfl (by kernel_rfl) (by kernel_rfl)
   obtain ⟨fv9, ft9, (rfl : fv9 = Value.agg #[.int .i64 3, .string z, .int .i64 t, .int .i64 0, .int .i64 0, .int .i64 p])⟩ := hRR 9 _ 14 rfl rfl (by kernel_rfl) (by kernel_rfl)
   replace hKK : ∀ v w', Below W.heap.size W w' → v = Value.agg #[.int .i64 3, .string z, .int .i64 t, .int .i64 0, .int .i64 0, .int .i64 p] → KK (Act.put fa _ v) w' := fun v w' h1 h2 => hKK v w' h1 h2
   clear hSame hRR
   rw [wanted_guard rfl rfl rfl ft8]
   rw [if_pos (by rfl)]
   go_simp
   refine (PL.out _).mono ?_; rintro e w' ⟨rfl, hb⟩
   exact hKK _ _ hb rfl
  refine ObsT.cons (k' := 12) rfl ?_ ?_
  ·
   intro fa W hW hSame hRR KK hKK
   try dsimp only at hW
   have fb1 : fa.tmps[1]? = some (Value.pointer (some ⟨w.heap.size, 0, none⟩)) := (hSame.base 1 (by kernel_rfl)).trans (by kernel_rfl)
   obtain ⟨fv8, ft8, (rfl : fv8 = Value.bool false)⟩ := hRR 8 _ 13 rfl rfl (by kernel_rfl) (by kernel_rfl)
   replace hKK : ∀ v w', Below W.heap.size W w' → v = Value.agg #[.int .i64 3, .string z, .int .i64 t, .int .i64 0, .int .i64 0, .int .i64 p] → KK (Act.put fa _ v) w' := fun v w' h1 h2 => hKK v w' h1 h2
   have hX := X1.out.keep hW
   have tx := hX; obtain ⟨chb, cfz, ck0, ck1, ck2, ck3, ck4, ck5⟩ := tx
   clear hSame hRR
   rw [wanted_guard rfl rfl rfl ft8]
   rw [if_pos (by rfl)]
   go_simp
   refine hKK _ _ ?_ ?_
   ·
    exact grP
   ·
    exact rfl
  refine ObsT.cons (k' := 13) rfl ?_ ?_
  ·
   intro fa W hW hSame hRR KK hKK
   try dsimp only at hW
   obtain ⟨fv8, ft8, (rfl : fv8 = Value.bool false)⟩ := hRR 8 _ 13 rfl rfl (by kernel_rfl) (by kernel_rfl)
   obtain ⟨fv10, ft10, (rfl : fv10 = Value.agg #[.int .i64 3, .string z, .int .i64 t, .int .i64 0, .int .i64 0, .int .i64 p])⟩ := hRR 10 _ 15 rfl rfl (by kernel_rfl) (by kernel_rfl)
   obtain ⟨fv11, ft11, (rfl : fv11 = Value.agg #[.int .i64 3, .string z, .int .i64 t, .int .i64 0, .int .i64 0, .int .i64 p])⟩ := hRR 11 _ 16 rfl rfl (by kernel_rfl) (by kernel_rfl)
   replace hKK : ∀ v w', Below W.heap.size W w' → v = Value.bool false → KK (Act.put fa _ v) w' := fun v w' h1 h2 => hKK v w' h1 h2
   clear hSame hRR
   rw [wanted_guard rfl rfl rfl ft8]
   rw [if_pos (by rfl)]
   go_simp
   refine hKK _ _ ?_ ?_
   ·
    exact grP
   ·
    exact rfl
  refine ObsT.cons (k' := 14) rfl ?_ ?_
  ·
   intro fa W hW hSame hRR KK hKK
   try dsimp only at hW
   obtain ⟨fv8, ft8, (rfl : fv8 = Value.bool false)⟩ := hRR 8 _ 13 rfl rfl (by kernel_rfl) (by kernel_rfl)
   obtain ⟨fv12, ft12, (rfl : fv12 = Value.bool false)⟩ := hRR 12 _ 17 rfl rfl (by kernel_rfl) (by kernel_rfl)
   replace hKK : ∀ v w', Below W.heap.size W w' → v = Value.bool false → KK (Act.put fa _ v) w' := fun v w' h1 h2 => hKK v w' h1 h2
   clear hSame hRR
   rw [if_pos (wanted_plain rfl)]
   go_simp
   refine hKK _ _ ?_ ?_
   ·
    exact grP
   ·
    exact rfl
  exact ObsT.nil
 case hlast =>
  intro fa w2 d2 hSame hRR
  try dsimp only at d2
  obtain ⟨zz13, f18, rfl⟩ := hRR 13 _ 18 rfl rfl rfl
  rw [Same_shape hSame]
  simp only [List.filterMap_cons, List.filterMap_nil, List.foldl_cons, List.foldl_nil]
  have g18 : fa.tmps.getD 18 undef = Value.bool false := by simp [Array.getD_eq_getD_getElem?, f18]
  rw [g18]
  generalize fa.tmps.getD 5 undef = y5
  generalize fa.tmps.getD 6 undef = y6
  generalize fa.tmps.getD 7 undef = y7
  generalize fa.tmps.getD 8 undef = y8
  generalize fa.tmps.getD 9 undef = y9
  generalize fa.tmps.getD 10 undef = y10
  generalize fa.tmps.getD 11 undef = y11
  generalize fa.tmps.getD 12 undef = y12
  generalize fa.tmps.getD 13 undef = y13
  generalize fa.tmps.getD 14 undef = y14
  generalize fa.tmps.getD 15 undef = y15
  generalize fa.tmps.getD 16 undef = y16
  generalize fa.tmps.getD 17 undef = y17
  clear hSame hRR f18 g18
  simp only [Act.put, List.setIfInBounds_toArray, List.set_cons_succ, List.set_cons_zero]
  have B2 := Lib.hid (below_step B1.out d2)
  have X := X1.out.keep d2
  have Xh := X.hb; have Xf := X.fz; have X0c := X.k0; have X1c := X.k1; have X2c := X.k2; have X3c := X.k3; have X4c := X.k4; have X5c := X.k5
  clear d2 X
  go_wp2_with fail
  refine (NM.out _).mono ?_; rintro e w3 ⟨rfl, rfl⟩
  cases b1 <;> cases b2
  all_goals (go_wp2_with fail; go_ret; exact ⟨rfl, B2.out⟩)
set_option maxHeartbeats 4000000 in
set_option maxRecDepth 100000 in
theorem rqright_5y (t n u p : Int) (z : ByteArray) (hzs : z.size ≤ 1000) (w : World) (b1 b2 : Bool) (g1 : decide (1 ≤ p) = b1) (g2 : decide (p ≤ 3) = b2) (b3 b4 : Bool) (g3 : decide (1 ≤ u) = b3) (g4 : decide (u ≤ 4) = b4) (hnm : Lk.nm z.data.toList = 0) :
  Calls Tryz.prog 11 #[.agg #[.int .i64 5, .string z, .int .i64 t, .int .i64 n, .int .i64 u, .int .i64 p]] w fun e w' => e = .returned (.bool (b1 && b2 && (b3 && b4))) ∧ Below w.heap.size w w' := by
 have PL := Lib.hid (fun W => rqplain_any 5 t n u p z W)
 simp only [Int.reduceEq, or_false, false_or, or_true, true_or, or_self, if_true, if_false] at PL
 have NM := Lib.hid (fun W => rrname_any z W (by unfold maxLen; omega))
 obtain ⟨y, hy⟩ : ∃ y, y = Lk.nm z.data.toList := ⟨_, rfl⟩
 rw [← hy] at NM hnm
 subst hnm
 clear hy
 go_enter Tryz.func11, Tryz.ntmps11
 go_upto_region 1 with (fail)
 refine wp_named ?_; intro w1 hw1
 have d1 : Below w.heap.size w w1 := by rw [hw1]; exact gr0
 have B1 := Lib.hid d1
 have X1 : Hid (Bk6 w1 w.heap.size (.int .i64 5) (.string z) (.int .i64 t) (.int .i64 n) (.int .i64 u) (.int .i64 p)) := Lib.hid (by rw [hw1]; exact ⟨by simp <;> omega, by intro j; simp [go_sem], by simp [go_sem], by simp [go_sem], by simp [go_sem], by simp [go_sem], by simp [go_sem], by simp [go_sem]⟩)
 clear d1 hw1
 refine wp_region_till (R := markR [(fun v _ => v = Value.pointer (some ⟨w.heap.size, 0, none⟩)), (fun v _ => v = Value.int .i64 5), (fun v _ => v = Value.bool false), (fun v _ => v = Value.bool false), (fun v _ => v = Value.pointer (some ⟨w.heap.size, 0, none⟩)), (fun v _ => v = Value.int .i64 5), (fun v _ => v = Value.bool false), (fun v _ => v = Value.bool false), (fun v _ => v = Value.bool false), (fun v _ => v = Value.agg #[.int .i64 5, .string z, .int .i64 t, .int .i64 n, .int .i64 u, .int .i64 p]), (fun v _ => v = Value.agg #[.int .i64 5, .string z, .int .i64 t, .int .i64 n, .int .i64 u, .int .i64 p]), (fun v _ => v = Value.agg #[.int .i64 5, .string z, .int .i64 t, .int .i64 n, .int .i64 u, .int .i64 p]), (fun v _ => v = Value.bool false), (fun v _ => v = Value.bool false)]) (till := fun _ => none) (D := fun W => Below w1.heap.size w1 W) (G := fun _ W W' => Below W.heap.size W W') (by rfl) ?hbeg ⟨by kernel_rfl, by kernel_rfl, by kernel_rfl, ?hkeep, ?hstab, ObsT.all ?hobs, ?hlast⟩
 case hbeg => exact (Below.refl _ _).drew
 case hkeep => intro i w1 w2 hC hG; exact below_step hC hG
 case hstab =>
  intro i j hij ht v w1 w2 hG hm
  match j, hm with
  | 0, hm => exact hm
  | 1, hm => exact hm
  | 2, hm => exact hm
  | 3, hm => exact hm
  | 4, hm => exact hm
  | 5, hm => exact hm
  | 6, hm => exact hm
  | 7, hm => exact hm
  | 8, hm => exact hm
  | 9, hm => exact hm
  | 10, hm => exact hm
  | 11, hm => exact hm
  | 12, hm => exact hm
  | 13, hm => exact hm
  | j + 14, hm => exact trivial
 case hobs =>
  refine ObsT.cons (k' := 1) rfl ?_ ?_
  ·
   intro fa W hW hSame hRR KK hKK
   try dsimp only at hW
   have fb1 : fa.tmps[1]? = some (Value.pointer (some ⟨w.heap.size, 0, none⟩)) := (hSame.base 1 (by kernel_rfl)).trans (by kernel_rfl)
   replace hKK : ∀ v w', Below W.heap.size W w' → v = Value.pointer (some ⟨w.heap.size, 0, none⟩) → KK (Act.put fa _ v) w' := fun v w' h1 h2 => hKK v w' h1 h2
   clear hSame hRR
   rw [if_pos (wanted_plain rfl)]
   go_simp
   refine hKK _ _ ?_ ?_
   ·
    exact grP
   ·
    exact rfl
  refine ObsT.cons (k' := 2) rfl ?_ ?_
  ·
   intro fa W hW hSame hRR KK hKK
   try dsimp only at hW
   obtain ⟨fv0, ft0, (rfl : fv0 = Value.pointer (some ⟨w.heap.size, 0, none⟩))⟩ := hRR 0 _ 5 rfl rfl (by kernel_rfl) (by kernel_rfl)
   replace hKK : ∀ v w', Below W.heap.size W w' → v = Value.int .i64 5 → KK (Act.put fa _ v) w' := fun v w' h1 h2 => hKK v w' h1 h2
   have hX := X1.out.keep hW
   have tx := hX; obtain ⟨chb, cfz, ck0, ck1, ck2, ck3, ck4, ck5⟩ := tx
   clear hSame hRR
   rw [if_pos (wanted_plain rfl)]
   go_simp
   refine hKK _ _ ?_ ?_
   ·
    exact grP
   ·
    exact rfl
  refine ObsT.cons (k' := 3) rfl ?_ ?_
  ·
   intro fa W hW hSame hRR KK hKK
   try dsimp only at hW
   obtain ⟨fv1, ft1, (rfl : fv1 = Value.int .i64 5)⟩ := hRR 1 _ 6 rfl rfl (by kernel_rfl) (by kernel_rfl)
   replace hKK : ∀ v w', Below W.heap.size W w' → v = Value.bool false → KK (Act.put fa _ v) w' := fun v w' h1 h2 => hKK v w' h1 h2
   clear hSame hRR
   rw [if_pos (wanted_plain rfl)]
   go_simp
   refine hKK _ _ ?_ ?_
   ·
    exact grP
   ·
    exact rfl
  refine ObsT.cons (k' := 4) rfl ?_ ?_
  ·
   intro fa W hW hSame hRR KK hKK
   try dsimp only at hW
   obtain ⟨fv2, ft2, (rfl : fv2 = Value.bool false)⟩ := hRR 2 _ 7 rfl rfl (by kernel_rfl) (by kernel_rfl)
   replace hKK : ∀ v w', Below W.heap.size W w' → v = Value.bool false → KK (Act.put fa _ v) w' := fun v w' h1 h2 => hKK v w' h1 h2
   clear hSame hRR
   rw [if_pos (wanted_plain rfl)]
   go_simp
   refine hKK _ _ ?_ ?_
   ·
    exact grP
   ·
    exact rfl
  refine ObsT.cons (k' := 5) rfl ?_ ?_
  ·
   intro fa W hW hSame hRR KK hKK
   try dsimp only at hW
   have fb1 : fa.tmps[1]? = some (Value.pointer (some ⟨w.heap.size, 0, none⟩)) := (hSame.base 1 (by kernel_rfl)).trans (by kernel_rfl)
   obtain ⟨fv3, ft3, (rfl : fv3 = Value.bool false)⟩ := hRR 3 _ 8 rfl rfl (by kernel_rfl) (by kernel_rfl)
   replace hKK : ∀ v w', Below W.heap.size W w' → v = Value.pointer (some ⟨w.heap.size, 0, none⟩) → KK (Act.put fa _ v) w' := fun v w' h1 h2 => hKK v w' h1 h2
   clear hSame hRR
   rw [wanted_guard rfl rfl rfl ft3]
   rw [if_pos (by rfl)]
   go_simp
   refine hKK _ _ ?_ ?_
   ·
    exact grP
   ·
    exact rfl
  refine ObsT.cons (k' := 6) rfl ?_ ?_
  ·
   intro fa W hW hSame hRR KK hKK
   try dsimp only at hW
   obtain ⟨fv3, ft3, (rfl : fv3 = Value.bool false)⟩ := hRR 3 _ 8 rfl rfl (by kernel_rfl) (by kernel_rfl)
   obtain ⟨fv4, ft4, (rfl : fv4 = Value.pointer (some ⟨w.heap.size, 0, none⟩))⟩ := hRR 4 _ 9 rfl rfl (by kernel_rfl) (by kernel_rfl)
   replace hKK : ∀ v w', Below W.heap.size W w' → v = Value.int .i64 5 → KK (Act.put fa _ v) w' := fun v w' h1 h2 => hKK v w' h1 h2
   have hX := X1.out.keep hW
   have tx := hX; obtain ⟨chb, cfz, ck0, ck1, ck2, ck3, ck4, ck5⟩ := tx
   clear hSame hRR
   rw [wanted_guard rfl rfl rfl ft3]
   rw [if_pos (by rfl)]
   go_simp
   refine hKK _ _ ?_ ?_
   ·
    exact grP
   ·
    exact rfl
  refine ObsT.cons (k' := 7) rfl ?_ ?_
  ·
   intro fa W hW hSame hRR KK hKK
   try dsimp only at hW
   obtain ⟨fv3, ft3, (rfl : fv3 = Value.bool false)⟩ := hRR 3 _ 8 rfl rfl (by kernel_rfl) (by kernel_rfl)
   obtain ⟨fv5, ft5, (rfl : fv5 = Value.int .i64 5)⟩ := hRR 5 _ 10 rfl rfl (by kernel_rfl) (by kernel_rfl)
   replace hKK : ∀ v w', Below W.heap.size W w' → v = Value.bool false → KK (Act.put fa _ v) w' := fun v w' h1 h2 => hKK v w' h1 h2
   clear hSame hRR
   rw [wanted_guard rfl rfl rfl ft3]
   rw [if_pos (by rfl)]
   go_simp
   refine hKK _ _ ?_ ?_
   ·
    exact grP
   ·
    exact rfl
  refine ObsT.cons (k' := 8) rfl ?_ ?_
  ·
   intro fa W hW hSame hRR KK hKK
   try dsimp only at hW
   obtain ⟨fv3, ft3, (rfl : fv3 = Value.bool false)⟩ := hRR 3 _ 8 rfl rfl (by kernel_rfl) (by kernel_rfl)
   obtain ⟨fv6, ft6, (rfl : fv6 = Value.bool false)⟩ := hRR 6 _ 11 rfl rfl (by kernel_rfl) (by kernel_rfl)
   replace hKK : ∀ v w', Below W.heap.size W w' → v = Value.bool false → KK (Act.put fa _ v) w' := fun v w' h1 h2 => hKK v w' h1 h2
   clear hSame hRR
   rw [if_pos (wanted_plain rfl)]
   go_simp
   refine hKK _ _ ?_ ?_
   ·
    exact grP
   ·
    exact rfl
  refine ObsT.cons (k' := 9) rfl ?_ ?_
  ·
   intro fa W hW hSame hRR KK hKK
   try dsimp only at hW
   obtain ⟨fv7, ft7, (rfl : fv7 = Value.bool false)⟩ := hRR 7 _ 12 rfl rfl (by kernel_rfl) (by kernel_rfl)
   replace hKK : ∀ v w', Below W.heap.size W w' → v = Value.bool false → KK (Act.put fa _ v) w' := fun v w' h1 h2 => hKK v w' h1 h2
   clear hSame hRR
   rw [if_pos (wanted_plain rfl)]
   go_simp
   refine hKK _ _ ?_ ?_
   ·
    exact grP
   ·
    exact rfl
  refine ObsT.cons (k' := 10) rfl ?_ ?_
  ·
   intro fa W hW hSame hRR KK hKK
   try dsimp only at hW
   have fb1 : fa.tmps[1]? = some (Value.pointer (some ⟨w.heap.size, 0, none⟩)) := (hSame.base 1 (by kernel_rfl)).trans (by kernel_rfl)
   obtain ⟨fv8, ft8, (rfl : fv8 = Value.bool false)⟩ := hRR 8 _ 13 rfl rfl (by kernel_rfl) (by kernel_rfl)
   replace hKK : ∀ v w', Below W.heap.size W w' → v = Value.agg #[.int .i64 5, .string z, .int .i64 t, .int .i64 n, .int .i64 u, .int .i64 p] → KK (Act.put fa _ v) w' := fun v w' h1 h2 => hKK v w' h1 h2
   have hX := X1.out.keep hW
   have tx := hX; obtain ⟨chb, cfz, ck0, ck1, ck2, ck3, ck4, ck5⟩ := tx
   clear hSame hRR
   rw [wanted_guard rfl rfl rfl ft8]
   rw [if_pos (by rfl)]
   go_simp
   refine hKK _ _ ?_ ?_
   ·
    exact grP
   ·
    exact rfl
  refine ObsT.cons (k' := 11) rfl ?_ ?_
  ·
   intro fa W hW hSame hRR KK hKK
   try dsimp only at hW
   obtain ⟨fv8, ft8, (rfl : fv8 = Value.bool false)⟩ := hRR 8 _ 13 rfl rfl (by kernel_rfl) (by kernel_rfl)
   obtain ⟨fv9, ft9, (rfl : fv9 = Value.agg #[.int .i64 5, .string z, .int .i64 t, .int .i64 n, .int .i64 u, .int .i64 p])⟩ := hRR 9 _ 14 rfl rfl (by kernel_rfl) (by kernel_rfl)
   replace hKK : ∀ v w', Below W.heap.size W w' → v = Value.agg #[.int .i64 5, .string z, .int .i64 t, .int .i64 n, .int .i64 u, .int .i64 p] → KK (Act.put fa _ v) w' := fun v w' h1 h2 => hKK v w' h1 h2
   clear hSame hRR
   rw [wanted_guard rfl rfl rfl ft8]
   rw [if_pos (by rfl)]
   go_simp
   refine (PL.out _).mono ?_; rintro e w' ⟨rfl, hb⟩
   exact hKK _ _ hb rfl
  refine ObsT.cons (k' := 12) rfl ?_ ?_
  ·
   intro fa W hW hSame hRR KK hKK
   try dsimp only at hW
   have fb1 : fa.tmps[1]? = some (Value.pointer (some ⟨w.heap.size, 0, none⟩)) := (hSame.base 1 (by kernel_rfl)).trans (by kernel_rfl)
   obtain ⟨fv8, ft8, (rfl : fv8 = Value.bool false)⟩ := hRR 8 _ 13 rfl rfl (by kernel_rfl) (by kernel_rfl)
   replace hKK : ∀ v w', Below W.heap.size W w' → v = Value.agg #[.int .i64 5, .string z, .int .i64 t, .int .i64 n, .int .i64 u, .int .i64 p] → KK (Act.put fa _ v) w' := fun v w' h1 h2 => hKK v w' h1 h2
   have hX := X1.out.keep hW
   have tx := hX; obtain ⟨chb, cfz, ck0, ck1, ck2, ck3, ck4, ck5⟩ := tx
   clear hSame hRR
   rw [wanted_guard rfl rfl rfl ft8]
   rw [if_pos (by rfl)]
   go_simp
   refine hKK _ _ ?_ ?_
   ·
    exact grP
   ·
    exact rfl
  refine ObsT.cons (k' := 13) rfl ?_ ?_
  ·
   intro fa W hW hSame hRR KK hKK
   try dsimp only at hW
   obtain ⟨fv8, ft8, (rfl : fv8 = Value.bool false)⟩ := hRR 8 _ 13 rfl rfl (by kernel_rfl) (by kernel_rfl)
   obtain ⟨fv10, ft10, (rfl : fv10 = Value.agg #[.int .i64 5, .string z, .int .i64 t, .int .i64 n, .int .i64 u, .int .i64 p])⟩ := hRR 10 _ 15 rfl rfl (by kernel_rfl) (by kernel_rfl)
   obtain ⟨fv11, ft11, (rfl : fv11 = Value.agg #[.int .i64 5, .string z, .int .i64 t, .int .i64 n, .int .i64 u, .int .i64 p])⟩ := hRR 11 _ 16 rfl rfl (by kernel_rfl) (by kernel_rfl)
   replace hKK : ∀ v w', Below W.heap.size W w' → v = Value.bool false → KK (Act.put fa _ v) w' := fun v w' h1 h2 => hKK v w' h1 h2
   clear hSame hRR
   rw [wanted_guard rfl rfl rfl ft8]
   rw [if_pos (by rfl)]
   go_simp
   refine hKK _ _ ?_ ?_
   ·
    exact grP
   ·
    exact rfl
  refine ObsT.cons (k' := 14) rfl ?_ ?_
  ·
   intro fa W hW hSame hRR KK hKK
   try dsimp only at hW
   obtain ⟨fv8, ft8, (rfl : fv8 = Value.bool false)⟩ := hRR 8 _ 13 rfl rfl (by kernel_rfl) (by kernel_rfl)
   obtain ⟨fv12, ft12, (rfl : fv12 = Value.bool false)⟩ := hRR 12 _ 17 rfl rfl (by kernel_rfl) (by kernel_rfl)
   replace hKK : ∀ v w', Below W.heap.size W w' → v = Value.bool false → KK (Act.put fa _ v) w' := fun v w' h1 h2 => hKK v w' h1 h2
   clear hSame hRR
   rw [if_pos (wanted_plain rfl)]
   go_simp
   refine hKK _ _ ?_ ?_
   ·
    exact grP
   ·
    exact rfl
  exact ObsT.nil
 case hlast =>
  intro fa w2 d2 hSame hRR
  try dsimp only at d2
  obtain ⟨zz13, f18, rfl⟩ := hRR 13 _ 18 rfl rfl rfl
  rw [Same_shape hSame]
  simp only [List.filterMap_cons, List.filterMap_nil, List.foldl_cons, List.foldl_nil]
  have g18 : fa.tmps.getD 18 undef = Value.bool false := by simp [Array.getD_eq_getD_getElem?, f18]
  rw [g18]
  generalize fa.tmps.getD 5 undef = y5
  generalize fa.tmps.getD 6 undef = y6
  generalize fa.tmps.getD 7 undef = y7
  generalize fa.tmps.getD 8 undef = y8
  generalize fa.tmps.getD 9 undef = y9
  generalize fa.tmps.getD 10 undef = y10
  generalize fa.tmps.getD 11 undef = y11
  generalize fa.tmps.getD 12 undef = y12
  generalize fa.tmps.getD 13 undef = y13
  generalize fa.tmps.getD 14 undef = y14
  generalize fa.tmps.getD 15 undef = y15
  generalize fa.tmps.getD 16 undef = y16
  generalize fa.tmps.getD 17 undef = y17
  clear hSame hRR f18 g18
  simp only [Act.put, List.setIfInBounds_toArray, List.set_cons_succ, List.set_cons_zero]
  have B2 := Lib.hid (below_step B1.out d2)
  have X := X1.out.keep d2
  have Xh := X.hb; have Xf := X.fz; have X0c := X.k0; have X1c := X.k1; have X2c := X.k2; have X3c := X.k3; have X4c := X.k4; have X5c := X.k5
  clear d2 X
  go_wp2_with fail
  refine (NM.out _).mono ?_; rintro e w3 ⟨rfl, rfl⟩
  cases b1 <;> cases b2 <;> cases b3 <;> cases b4
  all_goals (go_wp2_with fail; go_ret; exact ⟨rfl, B2.out⟩)
set_option maxHeartbeats 4000000 in
set_option maxRecDepth 100000 in
theorem rqright_7y (t n : Int) (z : ByteArray) (hzs : z.size ≤ 1000) (w : World) (bt bn bo : Bool) (ht : decide (Qy.yr t) = bt) (hn : decide (Qy.yr n) = bn) (ho : decide (t ≤ n) = bo) (hnm : Lk.nm z.data.toList = 0) :
  Calls Tryz.prog 11 #[.agg #[.int .i64 7, .string z, .int .i64 t, .int .i64 n, .int .i64 0, .int .i64 0]] w fun e w' => e = .returned (.bool (bt && bn && bo)) ∧ Below w.heap.size w w' := by
 have PL := Lib.hid (fun W => rqplain_any 7 t n 0 0 z W)
 simp only [Int.reduceEq, or_false, false_or, or_true, true_or, or_self, if_true, if_false] at PL
 have NM := Lib.hid (fun W => rrname_any z W (by unfold maxLen; omega))
 obtain ⟨y, hy⟩ : ∃ y, y = Lk.nm z.data.toList := ⟨_, rfl⟩
 rw [← hy] at NM hnm
 subst hnm
 clear hy
 have YA := Lib.hid (fun W => rqyear_any t W)
 have YB := Lib.hid (fun W => rqyear_any n W)
 rw [ht] at YA
 rw [hn] at YB
 clear ht hn
 go_enter Tryz.func11, Tryz.ntmps11
 go_upto_region 1 with (fail)
 refine wp_named ?_; intro w1 hw1
 have d1 : Below w.heap.size w w1 := by rw [hw1]; exact gr0
 have B1 := Lib.hid d1
 have X1 : Hid (Bk6 w1 w.heap.size (.int .i64 7) (.string z) (.int .i64 t) (.int .i64 n) (.int .i64 0) (.int .i64 0)) := Lib.hid (by rw [hw1]; exact ⟨by simp <;> omega, by intro j; simp [go_sem], by simp [go_sem], by simp [go_sem], by simp [go_sem], by simp [go_sem], by simp [go_sem], by simp [go_sem]⟩)
 clear d1 hw1
 refine wp_region_till (R := markR [(fun v _ => v = Value.pointer (some ⟨w.heap.size, 0, none⟩)), (fun v _ => v = Value.int .i64 7), (fun v _ => v = Value.bool false), (fun v _ => v = Value.bool false), (fun v _ => v = Value.pointer (some ⟨w.heap.size, 0, none⟩)), (fun v _ => v = Value.int .i64 7), (fun v _ => v = Value.bool false), (fun v _ => v = Value.bool false), (fun v _ => v = Value.bool false), (fun v _ => v = Value.agg #[.int .i64 7, .string z, .int .i64 t, .int .i64 n, .int .i64 0, .int .i64 0]), (fun v _ => v = Value.agg #[.int .i64 7, .string z, .int .i64 t, .int .i64 n, .int .i64 0, .int .i64 0]), (fun v _ => v = Value.agg #[.int .i64 7, .string z, .int .i64 t, .int .i64 n, .int .i64 0, .int .i64 0]), (fun v _ => v = Value.bool false), (fun v _ => v = Value.bool false)]) (till := fun _ => none) (D := fun W => Below w1.heap.size w1 W) (G := fun _ W W' => Below W.heap.size W W') (by rfl) ?hbeg ⟨by kernel_rfl, by kernel_rfl, by kernel_rfl, ?hkeep, ?hstab, ObsT.all ?hobs, ?hlast⟩
 case hbeg => exact (Below.refl _ _).drew
 case hkeep => intro i w1 w2 hC hG; exact below_step hC hG
 case hstab =>
  intro i j hij ht v w1 w2 hG hm
  match j, hm with
  | 0, hm => exact hm
  | 1, hm => exact hm
  | 2, hm => exact hm
  | 3, hm => exact hm
  | 4, hm => exact hm
  | 5, hm => exact hm
  | 6, hm => exact hm
  | 7, hm => exact hm
  | 8, hm => exact hm
  | 9, hm => exact hm
  | 10, hm => exact hm
  | 11, hm => exact hm
  | 12, hm => exact hm
  | 13, hm => exact hm
  | j + 14, hm => exact trivial
 case hobs =>
  refine ObsT.cons (k' := 1) rfl ?_ ?_
  ·
   intro fa W hW hSame hRR KK hKK
   try dsimp only at hW
   have fb1 : fa.tmps[1]? = some (Value.pointer (some ⟨w.heap.size, 0, none⟩)) := (hSame.base 1 (by kernel_rfl)).trans (by kernel_rfl)
   replace hKK : ∀ v w', Below W.heap.size W w' → v = Value.pointer (some ⟨w.heap.size, 0, none⟩) → KK (Act.put fa _ v) w' := fun v w' h1 h2 => hKK v w' h1 h2
   clear hSame hRR
   rw [if_pos (wanted_plain rfl)]
   go_simp
   refine hKK _ _ ?_ ?_
   ·
    exact grP
   ·
    exact rfl
  refine ObsT.cons (k' := 2) rfl ?_ ?_
  ·
   intro fa W hW hSame hRR KK hKK
   try dsimp only at hW
   obtain ⟨fv0, ft0, (rfl : fv0 = Value.pointer (some ⟨w.heap.size, 0, none⟩))⟩ := hRR 0 _ 5 rfl rfl (by kernel_rfl) (by kernel_rfl)
   replace hKK : ∀ v w', Below W.heap.size W w' → v = Value.int .i64 7 → KK (Act.put fa _ v) w' := fun v w' h1 h2 => hKK v w' h1 h2
   have hX := X1.out.keep hW
   have tx := hX; obtain ⟨chb, cfz, ck0, ck1, ck2, ck3, ck4, ck5⟩ := tx
   clear hSame hRR
   rw [if_pos (wanted_plain rfl)]
   go_simp
   refine hKK _ _ ?_ ?_
   ·
    exact grP
   ·
    exact rfl
  refine ObsT.cons (k' := 3) rfl ?_ ?_
  ·
   intro fa W hW hSame hRR KK hKK
   try dsimp only at hW
   obtain ⟨fv1, ft1, (rfl : fv1 = Value.int .i64 7)⟩ := hRR 1 _ 6 rfl rfl (by kernel_rfl) (by kernel_rfl)
   replace hKK : ∀ v w', Below W.heap.size W w' → v = Value.bool false → KK (Act.put fa _ v) w' := fun v w' h1 h2 => hKK v w' h1 h2
   clear hSame hRR
   rw [if_pos (wanted_plain rfl)]
   go_simp
   refine hKK _ _ ?_ ?_
   ·
    exact grP
   ·
    exact rfl
  refine ObsT.cons (k' := 4) rfl ?_ ?_
  ·
   intro fa W hW hSame hRR KK hKK
   try dsimp only at hW
   obtain ⟨fv2, ft2, (rfl : fv2 = Value.bool false)⟩ := hRR 2 _ 7 rfl rfl (by kernel_rfl) (by kernel_rfl)
   replace hKK : ∀ v w', Below W.heap.size W w' → v = Value.bool false → KK (Act.put fa _ v) w' := fun v w' h1 h2 => hKK v w' h1 h2
   clear hSame hRR
   rw [if_pos (wanted_plain rfl)]
   go_simp
   refine hKK _ _ ?_ ?_
   ·
    exact grP
   ·
    exact rfl
  refine ObsT.cons (k' := 5) rfl ?_ ?_
  ·
   intro fa W hW hSame hRR KK hKK
   try dsimp only at hW
   have fb1 : fa.tmps[1]? = some (Value.pointer (some ⟨w.heap.size, 0, none⟩)) := (hSame.base 1 (by kernel_rfl)).trans (by kernel_rfl)
   obtain ⟨fv3, ft3, (rfl : fv3 = Value.bool false)⟩ := hRR 3 _ 8 rfl rfl (by kernel_rfl) (by kernel_rfl)
   replace hKK : ∀ v w', Below W.heap.size W w' → v = Value.pointer (some ⟨w.heap.size, 0, none⟩) → KK (Act.put fa _ v) w' := fun v w' h1 h2 => hKK v w' h1 h2
   clear hSame hRR
   rw [wanted_guard rfl rfl rfl ft3]
   rw [if_pos (by rfl)]
   go_simp
   refine hKK _ _ ?_ ?_
   ·
    exact grP
   ·
    exact rfl
  refine ObsT.cons (k' := 6) rfl ?_ ?_
  ·
   intro fa W hW hSame hRR KK hKK
   try dsimp only at hW
   obtain ⟨fv3, ft3, (rfl : fv3 = Value.bool false)⟩ := hRR 3 _ 8 rfl rfl (by kernel_rfl) (by kernel_rfl)
   obtain ⟨fv4, ft4, (rfl : fv4 = Value.pointer (some ⟨w.heap.size, 0, none⟩))⟩ := hRR 4 _ 9 rfl rfl (by kernel_rfl) (by kernel_rfl)
   replace hKK : ∀ v w', Below W.heap.size W w' → v = Value.int .i64 7 → KK (Act.put fa _ v) w' := fun v w' h1 h2 => hKK v w' h1 h2
   have hX := X1.out.keep hW
   have tx := hX; obtain ⟨chb, cfz, ck0, ck1, ck2, ck3, ck4, ck5⟩ := tx
   clear hSame hRR
   rw [wanted_guard rfl rfl rfl ft3]
   rw [if_pos (by rfl)]
   go_simp
   refine hKK _ _ ?_ ?_
   ·
    exact grP
   ·
    exact rfl
  refine ObsT.cons (k' := 7) rfl ?_ ?_
  ·
   intro fa W hW hSame hRR KK hKK
   try dsimp only at hW
   obtain ⟨fv3, ft3, (rfl : fv3 = Value.bool false)⟩ := hRR 3 _ 8 rfl rfl (by kernel_rfl) (by kernel_rfl)
   obtain ⟨fv5, ft5, (rfl : fv5 = Value.int .i64 7)⟩ := hRR 5 _ 10 rfl rfl (by kernel_rfl) (by kernel_rfl)
   replace hKK : ∀ v w', Below W.heap.size W w' → v = Value.bool false → KK (Act.put fa _ v) w' := fun v w' h1 h2 => hKK v w' h1 h2
   clear hSame hRR
   rw [wanted_guard rfl rfl rfl ft3]
   rw [if_pos (by rfl)]
   go_simp
   refine hKK _ _ ?_ ?_
   ·
    exact grP
   ·
    exact rfl
  refine ObsT.cons (k' := 8) rfl ?_ ?_
  ·
   intro fa W hW hSame hRR KK hKK
   try dsimp only at hW
   obtain ⟨fv3, ft3, (rfl : fv3 = Value.bool false)⟩ := hRR 3 _ 8 rfl rfl (by kernel_rfl) (by kernel_rfl)
   obtain ⟨fv6, ft6, (rfl : fv6 = Value.bool false)⟩ := hRR 6 _ 11 rfl rfl (by kernel_rfl) (by kernel_rfl)
   replace hKK : ∀ v w', Below W.heap.size W w' → v = Value.bool false → KK (Act.put fa _ v) w' := fun v w' h1 h2 => hKK v w' h1 h2
   clear hSame hRR
   rw [if_pos (wanted_plain rfl)]
   go_simp
   refine hKK _ _ ?_ ?_
   ·
    exact grP
   ·
    exact rfl
  refine ObsT.cons (k' := 9) rfl ?_ ?_
  ·
   intro fa W hW hSame hRR KK hKK
   try dsimp only at hW
   obtain ⟨fv7, ft7, (rfl : fv7 = Value.bool false)⟩ := hRR 7 _ 12 rfl rfl (by kernel_rfl) (by kernel_rfl)
   replace hKK : ∀ v w', Below W.heap.size W w' → v = Value.bool false → KK (Act.put fa _ v) w' := fun v w' h1 h2 => hKK v w' h1 h2
   clear hSame hRR
   rw [if_pos (wanted_plain rfl)]
   go_simp
   refine hKK _ _ ?_ ?_
   ·
    exact grP
   ·
    exact rfl
  refine ObsT.cons (k' := 10) rfl ?_ ?_
  ·
   intro fa W hW hSame hRR KK hKK
   try dsimp only at hW
   have fb1 : fa.tmps[1]? = some (Value.pointer (some ⟨w.heap.size, 0, none⟩)) := (hSame.base 1 (by kernel_rfl)).trans (by kernel_rfl)
   obtain ⟨fv8, ft8, (rfl : fv8 = Value.bool false)⟩ := hRR 8 _ 13 rfl rfl (by kernel_rfl) (by kernel_rfl)
   replace hKK : ∀ v w', Below W.heap.size W w' → v = Value.agg #[.int .i64 7, .string z, .int .i64 t, .int .i64 n, .int .i64 0, .int .i64 0] → KK (Act.put fa _ v) w' := fun v w' h1 h2 => hKK v w' h1 h2
   have hX := X1.out.keep hW
   have tx := hX; obtain ⟨chb, cfz, ck0, ck1, ck2, ck3, ck4, ck5⟩ := tx
   clear hSame hRR
   rw [wanted_guard rfl rfl rfl ft8]
   rw [if_pos (by rfl)]
   go_simp
   refine hKK _ _ ?_ ?_
   ·
    exact grP
   ·
    exact rfl
  refine ObsT.cons (k' := 11) rfl ?_ ?_
  ·
   intro fa W hW hSame hRR KK hKK
   try dsimp only at hW
   obtain ⟨fv8, ft8, (rfl : fv8 = Value.bool false)⟩ := hRR 8 _ 13 rfl rfl (by kernel_rfl) (by kernel_rfl)
   obtain ⟨fv9, ft9, (rfl : fv9 = Value.agg #[.int .i64 7, .string z, .int .i64 t, .int .i64 n, .int .i64 0, .int .i64 0])⟩ := hRR 9 _ 14 rfl rfl (by kernel_rfl) (by kernel_rfl)
   replace hKK : ∀ v w', Below W.heap.size W w' → v = Value.agg #[.int .i64 7, .string z, .int .i64 t, .int .i64 n, .int .i64 0, .int .i64 0] → KK (Act.put fa _ v) w' := fun v w' h1 h2 => hKK v w' h1 h2
   clear hSame hRR
   rw [wanted_guard rfl rfl rfl ft8]
   rw [if_pos (by rfl)]
   go_simp
   refine (PL.out _).mono ?_; rintro e w' ⟨rfl, hb⟩
   exact hKK _ _ hb rfl
  refine ObsT.cons (k' := 12) rfl ?_ ?_
  ·
   intro fa W hW hSame hRR KK hKK
   try dsimp only at hW
   have fb1 : fa.tmps[1]? = some (Value.pointer (some ⟨w.heap.size, 0, none⟩)) := (hSame.base 1 (by kernel_rfl)).trans (by kernel_rfl)
   obtain ⟨fv8, ft8, (rfl : fv8 = Value.bool false)⟩ := hRR 8 _ 13 rfl rfl (by kernel_rfl) (by kernel_rfl)
   replace hKK : ∀ v w', Below W.heap.size W w' → v = Value.agg #[.int .i64 7, .string z, .int .i64 t, .int .i64 n, .int .i64 0, .int .i64 0] → KK (Act.put fa _ v) w' := fun v w' h1 h2 => hKK v w' h1 h2
   have hX := X1.out.keep hW
   have tx := hX; obtain ⟨chb, cfz, ck0, ck1, ck2, ck3, ck4, ck5⟩ := tx
   clear hSame hRR
   rw [wanted_guard rfl rfl rfl ft8]
   rw [if_pos (by rfl)]
   go_simp
   refine hKK _ _ ?_ ?_
   ·
    exact grP
   ·
    exact rfl
  refine ObsT.cons (k' := 13) rfl ?_ ?_
  ·
   intro fa W hW hSame hRR KK hKK
   try dsimp only at hW
   obtain ⟨fv8, ft8, (rfl : fv8 = Value.bool false)⟩ := hRR 8 _ 13 rfl rfl (by kernel_rfl) (by kernel_rfl)
   obtain ⟨fv10, ft10, (rfl : fv10 = Value.agg #[.int .i64 7, .string z, .int .i64 t, .int .i64 n, .int .i64 0, .int .i64 0])⟩ := hRR 10 _ 15 rfl rfl (by kernel_rfl) (by kernel_rfl)
   obtain ⟨fv11, ft11, (rfl : fv11 = Value.agg #[.int .i64 7, .string z, .int .i64 t, .int .i64 n, .int .i64 0, .int .i64 0])⟩ := hRR 11 _ 16 rfl rfl (by kernel_rfl) (by kernel_rfl)
   replace hKK : ∀ v w', Below W.heap.size W w' → v = Value.bool false → KK (Act.put fa _ v) w' := fun v w' h1 h2 => hKK v w' h1 h2
   clear hSame hRR
   rw [wanted_guard rfl rfl rfl ft8]
   rw [if_pos (by rfl)]
   go_simp
   refine hKK _ _ ?_ ?_
   ·
    exact grP
   ·
    exact rfl
  refine ObsT.cons (k' := 14) rfl ?_ ?_
  ·
   intro fa W hW hSame hRR KK hKK
   try dsimp only at hW
   obtain ⟨fv8, ft8, (rfl : fv8 = Value.bool false)⟩ := hRR 8 _ 13 rfl rfl (by kernel_rfl) (by kernel_rfl)
   obtain ⟨fv12, ft12, (rfl : fv12 = Value.bool false)⟩ := hRR 12 _ 17 rfl rfl (by kernel_rfl) (by kernel_rfl)
   replace hKK : ∀ v w', Below W.heap.size W w' → v = Value.bool false → KK (Act.put fa _ v) w' := fun v w' h1 h2 => hKK v w' h1 h2
   clear hSame hRR
   rw [if_pos (wanted_plain rfl)]
   go_simp
   refine hKK _ _ ?_ ?_
   ·
    exact grP
   ·
    exact rfl
  exact ObsT.nil
 case hlast =>
  intro fa w2 d2 hSame hRR
  try dsimp only at d2
  obtain ⟨zz13, f18, rfl⟩ := hRR 13 _ 18 rfl rfl rfl
  rw [Same_shape hSame]
  simp only [List.filterMap_cons, List.filterMap_nil, List.foldl_cons, List.foldl_nil]
  have g18 : fa.tmps.getD 18 undef = Value.bool false := by simp [Array.getD_eq_getD_getElem?, f18]
  rw [g18]
  generalize fa.tmps.getD 5 undef = y5
  generalize fa.tmps.getD 6 undef = y6
  generalize fa.tmps.getD 7 undef = y7
  generalize fa.tmps.getD 8 undef = y8
  generalize fa.tmps.getD 9 undef = y9
  generalize fa.tmps.getD 10 undef = y10
  generalize fa.tmps.getD 11 undef = y11
  generalize fa.tmps.getD 12 undef = y12
  generalize fa.tmps.getD 13 undef = y13
  generalize fa.tmps.getD 14 undef = y14
  generalize fa.tmps.getD 15 undef = y15
  generalize fa.tmps.getD 16 undef = y16
  generalize fa.tmps.getD 17 undef = y17
  clear hSame hRR f18 g18
  simp only [Act.put, List.setIfInBounds_toArray, List.set_cons_succ, List.set_cons_zero]
  have B2 := Lib.hid (below_step B1.out d2)
  have X := X1.out.keep d2
  have Xh := X.hb; have Xf := X.fz; have X0c := X.k0; have X1c := X.k1; have X2c := X.k2; have X3c := X.k3; have X4c := X.k4; have X5c := X.k5
  clear d2 X
  go_wp2_with fail
  refine (NM.out _).mono ?_; rintro e w3 ⟨rfl, rfl⟩
  go_wp2_with fail
  refine (YA.out _).mono ?_; rintro e w4 ⟨rfl, rfl⟩
  cases bt
  ·
   go_wp2_with fail
   go_ret
   exact ⟨rfl, B2.out⟩
  ·
   go_wp2_with fail
   refine (YB.out _).mono ?_; rintro e w5 ⟨rfl, rfl⟩
   cases bn
   ·
    go_wp2_with fail
    go_ret
    exact ⟨rfl, B2.out⟩
   ·
    cases bo
    all_goals (go_wp2_with fail; go_ret; exact ⟨rfl, B2.out⟩)
end Go.Proofs.YtbcbggdbojonmaaGreatDoor
