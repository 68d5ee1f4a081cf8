/- Joined: QyM. -/
import Derived.Test.YtbcbggdbojonmaaGreatDoorBq01
import Derived.Test.YtbcbggdbojonmaaGreatDoorBq24
import Derived.Test.YtbcbggdbojonmaaGreatDoorBq04
set_option linter.unusedVariables false
set_option linter.unusedSimpArgs false
namespace Go.Proofs.YtbcbggdbojonmaaGreatDoor
open Go.RowKit Go.Sort Go.Pairs
set_option maxHeartbeats 4000000 in
set_option maxRecDepth 100000 in
theorem qtext_neg (k t n u p : Int) (z : ByteArray) (w : World) (h : k < 0) :
  Calls Tryz.prog 32 #[.agg #[.int .i64 k, .string z, .int .i64 t, .int .i64 n, .int .i64 u, .int .i64 p]] w fun e w' => e = .returned (.string ⟨#[]⟩) ∧ Below w.heap.size w w' := by
 have SLO := Lib.hid (fun W => qslots_any W)
 have g0 : decide (k < 0) = true := decide_eq_true h
 go_enter Tryz.func32, Tryz.ntmps32
 go_upto_region 1 with (fail)
 refine wp_named ?_; intro w1 hw1
 have d1 : Below w.heap.size w w1 := by rw [hw1]; exact gr0
 have B1 := Lib.hid d1
 have X1 : Hid (Bk6 w1 w.heap.size (.int .i64 k) (.string z) (.int .i64 t) (.int .i64 n) (.int .i64 u) (.int .i64 p)) := Lib.hid (by rw [hw1]; exact ⟨by simp <;> omega, by intro j; simp [go_sem], by simp [go_sem], by simp [go_sem], by simp [go_sem], by simp [go_sem], by simp [go_sem], by simp [go_sem]⟩)
 clear d1 hw1
 refine wp_region_till (R := markR [(fun v _ => v = Value.pointer (some ⟨w.heap.size, 0, none⟩)), (fun v _ => v = Value.int .i64 k), (fun v _ => v = Value.bool true), (fun v _ => v = Value.bool true), (fun _ _ => True), (fun _ _ => True), (fun _ _ => True), (fun _ _ => True), (fun _ _ => True), (fun v _ => v = Value.bool true)]) (till := fun _ => none) (D := fun W => Below w1.heap.size w1 W) (G := fun _ W W' => Below W.heap.size W W') (by rfl) ?hbeg ⟨by kernel_rfl, by kernel_rfl, by kernel_rfl, ?hkeep, ?hstab, ObsT.all ?hobs, ?hlast⟩
 case hbeg => exact (Below.refl _ _).drew
 case hkeep => intro i w1 w2 hC hG; exact below_step hC hG
 case hstab =>
  intro i j hij ht v w1 w2 hG hm
  match j, hm with
  | 0, hm => exact hm
  | 1, hm => exact hm
  | 2, hm => exact hm
  | 3, hm => exact hm
  | 4, hm => exact trivial
  | 5, hm => exact trivial
  | 6, hm => exact trivial
  | 7, hm => exact trivial
  | 8, hm => exact trivial
  | 9, hm => exact hm
  | j + 10, hm => exact trivial
 case hobs =>
  refine ObsT.cons (k' := 1) rfl ?_ ?_
  ·
   intro fa W hW hSame hRR KK hKK
   try dsimp only at hW
   have fb1 : fa.tmps[1]? = some (Value.pointer (some ⟨w.heap.size, 0, none⟩)) := (hSame.base 1 (by kernel_rfl)).trans (by kernel_rfl)
   replace hKK : ∀ v w', Below W.heap.size W w' → v = Value.pointer (some ⟨w.heap.size, 0, none⟩) → KK (Act.put fa _ v) w' := fun v w' h1 h2 => hKK v w' h1 h2
   clear hSame hRR
   rw [if_pos (wanted_plain rfl)]
   go_simp
   refine hKK _ _ ?_ ?_
   ·
    exact grP
   ·
    exact rfl
  refine ObsT.cons (k' := 2) rfl ?_ ?_
  ·
   intro fa W hW hSame hRR KK hKK
   try dsimp only at hW
   obtain ⟨fv0, ft0, (rfl : fv0 = Value.pointer (some ⟨w.heap.size, 0, none⟩))⟩ := hRR 0 _ 6 rfl rfl (by kernel_rfl) (by kernel_rfl)
   replace hKK : ∀ v w', Below W.heap.size W w' → v = Value.int .i64 k → KK (Act.put fa _ v) w' := fun v w' h1 h2 => hKK v w' h1 h2
   have hX := X1.out.keep hW
   have tx := hX; obtain ⟨chb, cfz, ck0, ck1, ck2, ck3, ck4, ck5⟩ := tx
   clear hSame hRR
   rw [if_pos (wanted_plain rfl)]
   go_simp
   refine hKK _ _ ?_ ?_
   ·
    exact grP
   ·
    exact rfl
  refine ObsT.cons (k' := 3) rfl ?_ ?_
  ·
   intro fa W hW hSame hRR KK hKK
   try dsimp only at hW
   obtain ⟨fv1, ft1, (rfl : fv1 = Value.int .i64 k)⟩ := hRR 1 _ 7 rfl rfl (by kernel_rfl) (by kernel_rfl)
   replace hKK : ∀ v w', Below W.heap.size W w' → v = Value.bool true → KK (Act.put fa _ v) w' := fun v w' h1 h2 => hKK v w' h1 h2
   clear hSame hRR
   rw [if_pos (wanted_plain rfl)]
   go_simp
   refine hKK _ _ ?_ ?_
   ·
    exact grP
   ·
    exact rfl
  refine ObsT.cons (k' := 4) rfl ?_ ?_
  ·
   intro fa W hW hSame hRR KK hKK
   try dsimp only at hW
   obtain ⟨fv2, ft2, (rfl : fv2 = Value.bool true)⟩ := hRR 2 _ 8 rfl rfl (by kernel_rfl) (by kernel_rfl)
   replace hKK : ∀ v w', Below W.heap.size W w' → v = Value.bool true → KK (Act.put fa _ v) w' := fun v w' h1 h2 => hKK v w' h1 h2
   clear hSame hRR
   rw [if_pos (wanted_plain rfl)]
   go_simp
   refine hKK _ _ ?_ ?_
   ·
    exact grP
   ·
    exact rfl
  refine ObsT.cons (k' := 5) rfl ?_ ?_
  ·
   intro fa W hW hSame hRR KK hKK
   try dsimp only at hW
   obtain ⟨fv3, ft3, (rfl : fv3 = Value.bool true)⟩ := hRR 3 _ 9 rfl rfl (by kernel_rfl) (by kernel_rfl)
   replace hKK : ∀ v w', Below W.heap.size W w' → (fun _ _ => True) v w' → KK (Act.put fa _ v) w' := fun v w' h1 h2 => hKK v w' h1 h2
   clear hSame hRR
   rw [wanted_guard rfl rfl rfl ft3]
   rw [if_neg (by decide)]
   exact hKK _ _ (Below.refl _ _) trivial
  refine ObsT.cons (k' := 6) rfl ?_ ?_
  ·
   intro fa W hW hSame hRR KK hKK
   try dsimp only at hW
   obtain ⟨fv3, ft3, (rfl : fv3 = Value.bool true)⟩ := hRR 3 _ 9 rfl rfl (by kernel_rfl) (by kernel_rfl)
   replace hKK : ∀ v w', Below W.heap.size W w' → (fun _ _ => True) v w' → KK (Act.put fa _ v) w' := fun v w' h1 h2 => hKK v w' h1 h2
   clear hSame hRR
   rw [wanted_guard rfl rfl rfl ft3]
   rw [if_neg (by decide)]
   exact hKK _ _ (Below.refl _ _) trivial
  refine ObsT.cons (k' := 7) rfl ?_ ?_
  ·
   intro fa W hW hSame hRR KK hKK
   try dsimp only at hW
   obtain ⟨fv3, ft3, (rfl : fv3 = Value.bool true)⟩ := hRR 3 _ 9 rfl rfl (by kernel_rfl) (by kernel_rfl)
   replace hKK : ∀ v w', Below W.heap.size W w' → (fun _ _ => True) v w' → KK (Act.put fa _ v) w' := fun v w' h1 h2 => hKK v w' h1 h2
   clear hSame hRR
   rw [wanted_guard rfl rfl rfl ft3]
   rw [if_neg (by decide)]
   exact hKK _ _ (Below.refl _ _) trivial
  refine ObsT.cons (k' := 8) rfl ?_ ?_
  ·
   intro fa W hW hSame hRR KK hKK
   try dsimp only at hW
   obtain ⟨fv3, ft3, (rfl : fv3 = Value.bool true)⟩ := hRR 3 _ 9 rfl rfl (by kernel_rfl) (by kernel_rfl)
   replace hKK : ∀ v w', Below W.heap.size W w' → (fun _ _ => True) v w' → KK (Act.put fa _ v) w' := fun v w' h1 h2 => hKK v w' h1 h2
   clear hSame hRR
   rw [wanted_guard rfl rfl rfl ft3]
   rw [if_neg (by decide)]
   exact hKK _ _ (Below.refl _ _) trivial
  refine ObsT.cons (k' := 9) rfl ?_ ?_
  ·
   intro fa W hW hSame hRR KK hKK
   try dsimp only at hW
   obtain ⟨fv3, ft3, (rfl : fv3 = Value.bool true)⟩ := hRR 3 _ 9 rfl rfl (by kernel_rfl) (by kernel_rfl)
   replace hKK : ∀ v w', Below W.heap.size W w' → (fun _ _ => True) v w' → KK (Act.put fa _ v) w' := fun v w' h1 h2 => hKK v w' h1 h2
   clear hSame hRR
   rw [wanted_guard rfl rfl rfl ft3]
   rw [if_neg (by decide)]
   exact hKK _ _ (Below.refl _ _) trivial
  refine ObsT.cons (k' := 10) rfl ?_ ?_
  ·
   intro fa W hW hSame hRR KK hKK
   try dsimp only at hW
   obtain ⟨fv3, ft3, (rfl : fv3 = Value.bool true)⟩ := hRR 3 _ 9 rfl rfl (by kernel_rfl) (by kernel_rfl)
   replace hKK : ∀ v w', Below W.heap.size W w' → v = Value.bool true → KK (Act.put fa _ v) w' := fun v w' h1 h2 => hKK v w' h1 h2
   clear hSame hRR
   rw [if_pos (wanted_plain rfl)]
   go_simp
   refine hKK _ _ ?_ ?_
   ·
    exact grP
   ·
    exact rfl
  exact ObsT.nil
 case hlast =>
  intro fa w2 d2 hSame hRR
  try dsimp only at d2
  obtain ⟨zz9, f15, rfl⟩ := hRR 9 _ 15 rfl rfl rfl
  rw [Same_shape hSame]
  simp only [List.filterMap_cons, List.filterMap_nil, List.foldl_cons, List.foldl_nil]
  have g15 : fa.tmps.getD 15 undef = Value.bool true := by simp [Array.getD_eq_getD_getElem?, f15]
  rw [g15]
  generalize fa.tmps.getD 6 undef = y6
  generalize fa.tmps.getD 7 undef = y7
  generalize fa.tmps.getD 8 undef = y8
  generalize fa.tmps.getD 9 undef = y9
  generalize fa.tmps.getD 10 undef = y10
  generalize fa.tmps.getD 11 undef = y11
  generalize fa.tmps.getD 12 undef = y12
  generalize fa.tmps.getD 13 undef = y13
  generalize fa.tmps.getD 14 undef = y14
  clear hSame hRR f15 g15
  simp only [Act.put, List.setIfInBounds_toArray, List.set_cons_succ, List.set_cons_zero]
  have B2 := Lib.hid (below_step B1.out d2)
  clear d2
  go_wp2_with fail
  go_ret
  exact ⟨rfl, B2.out⟩
set_option maxHeartbeats 4000000 in
set_option maxRecDepth 100000 in
theorem qtext_big (k t n u p : Int) (z : ByteArray) (w : World) (h : 8 ≤ k) :
  Calls Tryz.prog 32 #[.agg #[.int .i64 k, .string z, .int .i64 t, .int .i64 n, .int .i64 u, .int .i64 p]] w fun e w' => e = .returned (.string ⟨#[]⟩) ∧ Below w.heap.size w w' := by
 have SLO := Lib.hid (fun W => qslots_any W)
 have g0 : decide (k < 0) = false := decide_eq_false (by omega)
 have g8 : decide (8 ≤ k) = true := decide_eq_true h
 go_enter Tryz.func32, Tryz.ntmps32
 go_upto_region 1 with (fail)
 refine wp_named ?_; intro w1 hw1
 have d1 : Below w.heap.size w w1 := by rw [hw1]; exact gr0
 have B1 := Lib.hid d1
 have X1 : Hid (Bk6 w1 w.heap.size (.int .i64 k) (.string z) (.int .i64 t) (.int .i64 n) (.int .i64 u) (.int .i64 p)) := Lib.hid (by rw [hw1]; exact ⟨by simp <;> omega, by intro j; simp [go_sem], by simp [go_sem], by simp [go_sem], by simp [go_sem], by simp [go_sem], by simp [go_sem], by simp [go_sem]⟩)
 clear d1 hw1
 refine wp_region_till (R := markR [(fun v _ => v = Value.pointer (some ⟨w.heap.size, 0, none⟩)), (fun v _ => v = Value.int .i64 k), (fun v _ => v = Value.bool false), (fun v _ => v = Value.bool false), (fun v _ => v = Value.pointer (some ⟨w.heap.size, 0, none⟩)), (fun v _ => v = Value.int .i64 k), (fun _ _ => True), (fun v _ => v = Value.int .i64 8), (fun v _ => v = Value.bool true), (fun v _ => v = Value.bool true)]) (till := fun _ => none) (D := fun W => Below w1.heap.size w1 W) (G := fun _ W W' => Below W.heap.size W W') (by rfl) ?hbeg ⟨by kernel_rfl, by kernel_rfl, by kernel_rfl, ?hkeep, ?hstab, ObsT.all ?hobs, ?hlast⟩
 case hbeg => exact (Below.refl _ _).drew
 case hkeep => intro i w1 w2 hC hG; exact below_step hC hG
 case hstab =>
  intro i j hij ht v w1 w2 hG hm
  match j, hm with
  | 0, hm => exact hm
  | 1, hm => exact hm
  | 2, hm => exact hm
  | 3, hm => exact hm
  | 4, hm => exact hm
  | 5, hm => exact hm
  | 6, hm => exact trivial
  | 7, hm => exact hm
  | 8, hm => exact hm
  | 9, hm => exact hm
  | j + 10, hm => exact trivial
 case hobs =>
  refine ObsT.cons (k' := 1) rfl ?_ ?_
  ·
   intro fa W hW hSame hRR KK hKK
   try dsimp only at hW
   have fb1 : fa.tmps[1]? = some (Value.pointer (some ⟨w.heap.size, 0, none⟩)) := (hSame.base 1 (by kernel_rfl)).trans (by kernel_rfl)
   replace hKK : ∀ v w', Below W.heap.size W w' → v = Value.pointer (some ⟨w.heap.size, 0, none⟩) → KK (Act.put fa _ v) w' := fun v w' h1 h2 => hKK v w' h1 h2
   clear hSame hRR
   rw [if_pos (wanted_plain rfl)]
   go_simp
   refine hKK _ _ ?_ ?_
   ·
    exact grP
   ·
    exact rfl
  refine ObsT.cons (k' := 2) rfl ?_ ?_
  ·
   intro fa W hW hSame hRR KK hKK
   try dsimp only at hW
   obtain ⟨fv0, ft0, (rfl : fv0 = Value.pointer (some ⟨w.heap.size, 0, none⟩))⟩ := hRR 0 _ 6 rfl rfl (by kernel_rfl) (by kernel_rfl)
   replace hKK : ∀ v w', Below W.heap.size W w' → v = Value.int .i64 k → KK (Act.put fa _ v) w' := fun v w' h1 h2 => hKK v w' h1 h2
   have hX := X1.out.keep hW
   have tx := hX; obtain ⟨chb, cfz, ck0, ck1, ck2, ck3, ck4, ck5⟩ := tx
   clear hSame hRR
   rw [if_pos (wanted_plain rfl)]
   go_simp
   refine hKK _ _ ?_ ?_
   ·
    exact grP
   ·
    exact rfl
  refine ObsT.cons (k' := 3) rfl ?_ ?_
  ·
   intro fa W hW hSame hRR KK hKK
   try dsimp only at hW
   obtain ⟨fv1, ft1, (rfl : fv1 = Value.int .i64 k)⟩ := hRR 1 _ 7 rfl rfl (by kernel_rfl) (by kernel_rfl)
   replace hKK : ∀ v w', Below W.heap.size W w' → v = Value.bool false → KK (Act.put fa _ v) w' := fun v w' h1 h2 => hKK v w' h1 h2
   clear hSame hRR
   rw [if_pos (wanted_plain rfl)]
   go_simp
   refine hKK _ _ ?_ ?_
   ·
    exact grP
   ·
    exact rfl
  refine ObsT.cons (k' := 4) rfl ?_ ?_
  ·
   intro fa W hW hSame hRR KK hKK
   try dsimp only at hW
   obtain ⟨fv2, ft2, (rfl : fv2 = Value.bool false)⟩ := hRR 2 _ 8 rfl rfl (by kernel_rfl) (by kernel_rfl)
   replace hKK : ∀ v w', Below W.heap.size W w' → v = Value.bool false → KK (Act.put fa _ v) w' := fun v w' h1 h2 => hKK v w' h1 h2
   clear hSame hRR
   rw [if_pos (wanted_plain rfl)]
   go_simp
   refine hKK _ _ ?_ ?_
   ·
    exact grP
   ·
    exact rfl
  refine ObsT.cons (k' := 5) rfl ?_ ?_
  ·
   intro fa W hW hSame hRR KK hKK
   try dsimp only at hW
   have fb1 : fa.tmps[1]? = some (Value.pointer (some ⟨w.heap.size, 0, none⟩)) := (hSame.base 1 (by kernel_rfl)).trans (by kernel_rfl)
   obtain ⟨fv3, ft3, (rfl : fv3 = Value.bool false)⟩ := hRR 3 _ 9 rfl rfl (by kernel_rfl) (by kernel_rfl)
   replace hKK : ∀ v w', Below W.heap.size W w' → v = Value.pointer (some ⟨w.heap.size, 0, none⟩) → KK (Act.put fa _ v) w' := fun v w' h1 h2 => hKK v w' h1 h2
   clear hSame hRR
   rw [wanted_guard rfl rfl rfl ft3]
   rw [if_pos (by rfl)]
   go_simp
   refine hKK _ _ ?_ ?_
   ·
    exact grP
   ·
    exact rfl
  refine ObsT.cons (k' := 6) rfl ?_ ?_
  ·
   intro fa W hW hSame hRR KK hKK
   try dsimp only at hW
   obtain ⟨fv3, ft3, (rfl : fv3 = Value.bool false)⟩ := hRR 3 _ 9 rfl rfl (by kernel_rfl) (by kernel_rfl)
   obtain ⟨fv4, ft4, (rfl : fv4 = Value.pointer (some ⟨w.heap.size, 0, none⟩))⟩ := hRR 4 _ 10 rfl rfl (by kernel_rfl) (by kernel_rfl)
   replace hKK : ∀ v w', Below W.heap.size W w' → v = Value.int .i64 k → KK (Act.put fa _ v) w' := fun v w' h1 h2 => hKK v w' h1 h2
   have hX := X1.out.keep hW
   have tx := hX; obtain ⟨chb, cfz, ck0, ck1, ck2, ck3, ck4, ck5⟩ := tx
   clear hSame hRR
   rw [wanted_guard rfl rfl rfl ft3]
   rw [if_pos (by rfl)]
   go_simp
   refine hKK _ _ ?_ ?_
   ·
    exact grP
   ·
    exact rfl
  refine ObsT.cons (k' := 7) rfl ?_ ?_
  ·
   intro fa W hW hSame hRR KK hKK
   try dsimp only at hW
   obtain ⟨fv3, ft3, (rfl : fv3 = Value.bool false)⟩ := hRR 3 _ 9 rfl rfl (by kernel_rfl) (by kernel_rfl)
   replace hKK : ∀ v w', Below W.heap.size W w' → (fun _ _ => True) v w' → KK (Act.put fa _ v) w' := fun v w' h1 h2 => hKK v w' h1 h2
   clear hSame hRR
   rw [wanted_guard rfl rfl rfl ft3]
   rw [if_pos (by rfl)]
   go_simp
   refine (SLO.out _).mono ?_; rintro e w' ⟨vs, h1, rfl, h2, hb⟩
   exact hKK _ _ hb trivial
  refine ObsT.cons (k' := 8) rfl ?_ ?_
  ·
   intro fa W hW hSame hRR KK hKK
   try dsimp only at hW
   obtain ⟨fv3, ft3, (rfl : fv3 = Value.bool false)⟩ := hRR 3 _ 9 rfl rfl (by kernel_rfl) (by kernel_rfl)
   replace hKK : ∀ v w', Below W.heap.size W w' → v = Value.int .i64 8 → KK (Act.put fa _ v) w' := fun v w' h1 h2 => hKK v w' h1 h2
   clear hSame hRR
   rw [wanted_guard rfl rfl rfl ft3]
   rw [if_pos (by rfl)]
   go_simp
   refine hKK _ _ ?_ ?_
   ·
    exact grP
   ·
    exact rfl
  refine ObsT.cons (k' := 9) rfl ?_ ?_
  ·
   intro fa W hW hSame hRR KK hKK
   try dsimp only at hW
   obtain ⟨fv3, ft3, (rfl : fv3 = Value.bool false)⟩ := hRR 3 _ 9 rfl rfl (by kernel_rfl) (by kernel_rfl)
   obtain ⟨fv5, ft5, (rfl : fv5 = Value.int .i64 k)⟩ := hRR 5 _ 11 rfl rfl (by kernel_rfl) (by kernel_rfl)
   obtain ⟨fv7, ft7, (rfl : fv7 = Value.int .i64 8)⟩ := hRR 7 _ 13 rfl rfl (by kernel_rfl) (by kernel_rfl)
   replace hKK : ∀ v w', Below W.heap.size W w' → v = Value.bool true → KK (Act.put fa _ v) w' := fun v w' h1 h2 => hKK v w' h1 h2
   clear hSame hRR
   rw [wanted_guard rfl rfl rfl ft3]
   rw [if_pos (by rfl)]
   go_simp
   refine hKK _ _ ?_ ?_
   ·
    exact grP
   ·
    exact rfl
  refine ObsT.cons (k' := 10) rfl ?_ ?_
  ·
   intro fa W hW hSame hRR KK hKK
   try dsimp only at hW
   obtain ⟨fv3, ft3, (rfl : fv3 = Value.bool false)⟩ := hRR 3 _ 9 rfl rfl (by kernel_rfl) (by kernel_rfl)
   obtain ⟨fv8, ft8, (rfl : fv8 = Value.bool true)⟩ := hRR 8 _ 14 rfl rfl (by kernel_rfl) (by kernel_rfl)
   replace hKK : ∀ v w', Below W.heap.size W w' → v = Value.bool true → KK (Act.put fa _ v) w' := fun v w' h1 h2 => hKK v w' h1 h2
   clear hSame hRR
   rw [if_pos (wanted_plain rfl)]
   go_simp
   refine hKK _ _ ?_ ?_
   ·
    exact grP
   ·
    exact rfl
  exact ObsT.nil
 case hlast =>
  intro fa w2 d2 hSame hRR
  try dsimp only at d2
  obtain ⟨zz9, f15, rfl⟩ := hRR 9 _ 15 rfl rfl rfl
  rw [Same_shape hSame]
  simp only [List.filterMap_cons, List.filterMap_nil, List.foldl_cons, List.foldl_nil]
  have g15 : fa.tmps.getD 15 undef = Value.bool true := by simp [Array.getD_eq_getD_getElem?, f15]
  rw [g15]
  generalize fa.tmps.getD 6 undef = y6
  generalize fa.tmps.getD 7 undef = y7
  generalize fa.tmps.getD 8 undef = y8
  generalize fa.tmps.getD 9 undef = y9
  generalize fa.tmps.getD 10 undef = y10
  generalize fa.tmps.getD 11 undef = y11
  generalize fa.tmps.getD 12 undef = y12
  generalize fa.tmps.getD 13 undef = y13
  generalize fa.tmps.getD 14 undef = y14
  clear hSame hRR f15 g15
  simp only [Act.put, List.setIfInBounds_toArray, List.set_cons_succ, List.set_cons_zero]
  have B2 := Lib.hid (below_step B1.out d2)
  clear d2
  go_wp2_with fail
  go_ret
  exact ⟨rfl, B2.out⟩
set_option maxHeartbeats 4000000 in
set_option maxRecDepth 100000 in
theorem qtext_in (k : Nat) (h8 : k < 8) (t n u p : Int) (z : List UInt8) (w : World) (ht : An.bd t) (hn : An.bd n) (hz : z.length ≤ 100000) (T : Lib.TabIs Tryz.prog w "internal/strconv.uint64pow10" .u64 Lib.pow10Tab) :
  Calls Tryz.prog 32 #[Qy.V ((k : Int), z, t, n, u, p)] w fun e w' => e = .returned (.string ⟨(Qy.sj (Qy.parts ((k : Int), z, t, n, u, p))).toArray⟩) ∧ Below w.heap.size w w' := by
 have SLO := Lib.hid (fun W => qslots_any W)
 have KI := Lib.hid (fun W => qkinds_any W)
 have CW := Lib.hid (fun v W S => qword_any v Qy.heads (k : Int) W S (by decide))
 have ST := Lib.hid (fun s h0 h6 W T => qstext_any s h0 h6 (k : Int) t n u p z W ht hn T)
 have TT := Lib.hid T
 have ZZ := Lib.hid (Qy.sj_len k z t n u p h8 ht hn)
 have EP := Lib.hid (Qy.parts_sl k z t n u p h8)
 obtain ⟨i0, hi, hz0, hz1, hz2⟩ := fd_parts fd_info
 obtain ⟨L, hL⟩ : ∃ L, L = Qy.sl k := ⟨_, rfl⟩
 have sL : L.length ≤ 5 ∧ ∀ s ∈ L, 0 ≤ s ∧ s ≤ 6 := by
  subst hL
  obtain rfl | rfl | rfl | rfl | rfl | rfl | rfl | rfl : k = 0 ∨ k = 1 ∨ k = 2 ∨ k = 3 ∨ k = 4 ∨ k = 5 ∨ k = 6 ∨ k = 7 := by omega
  all_goals decide
 obtain ⟨BS, hBS⟩ : ∃ BS : Int → ByteArray, BS = fun s => ⟨(Qy.stx ((k : Int), z, t, n, u, p) s).toArray⟩ := ⟨_, rfl⟩
 obtain ⟨A0, hA0⟩ : ∃ A0 : ByteArray, A0 = ⟨(Qy.word Qy.heads (k : Int)).toArray⟩ := ⟨_, rfl⟩
 have ST : Hid (∀ s, 0 ≤ s → s ≤ 6 → ∀ W, Lib.TabIs Tryz.prog W "internal/strconv.uint64pow10" .u64 Lib.pow10Tab → Calls Tryz.prog 60 #[.int .i64 s, Qy.V ((k : Int), z, t, n, u, p)] W fun e w' => e = .returned (.string (BS s)) ∧ Below W.heap.size W w') := Lib.hid (by rw [hBS]; exact ST.out)
 rw [← hA0] at CW
 obtain ⟨tot, htot⟩ : ∃ tot, tot = Qy.sj (Qy.parts ((k : Int), z, t, n, u, p)) := ⟨_, rfl⟩
 rw [← htot] at ZZ ⊢
 have HTT : Hid (tot = Qy.sj ((A0 :: L.map BS).map (·.data.toList))) := Lib.hid (by
  rw [htot, EP.out, hL, hA0, hBS]
  congr 1
  rw [List.map_cons, List.map_map]
  rfl)
 rw [← hL] at EP
 have HS := Lib.hid sL
 have HL := Lib.hid hL
 unfold Qy.V at ST ⊢
 dsimp only at ST ⊢
 obtain ⟨Z, hZ⟩ : ∃ Z : ByteArray, (⟨z.toArray⟩ : ByteArray) = Z := ⟨_, rfl⟩
 rw [hZ] at ST ⊢
 have g0 : decide ((k : Int) < 0) = false := decide_eq_false (by omega)
 have g8 : decide ((8 : Int) ≤ (k : Int)) = false := decide_eq_false (by omega)
 clear sL hL hBS hA0 htot hZ T EP ht hn
 go_enter Tryz.func32, Tryz.ntmps32
 go_upto_region 1 with (fail)
 refine wp_named ?_; intro w1 hw1
 have d1 : Below w.heap.size w w1 := by rw [hw1]; exact gr0
 have B1 := Lib.hid d1
 have X1 : Hid (Bk6 w1 w.heap.size (.int .i64 k) (.string Z) (.int .i64 t) (.int .i64 n) (.int .i64 u) (.int .i64 p)) := Lib.hid (by rw [hw1]; exact ⟨by simp <;> omega, by intro j; simp [go_sem], by simp [go_sem], by simp [go_sem], by simp [go_sem], by simp [go_sem], by simp [go_sem], by simp [go_sem]⟩)
 clear d1 hw1
 refine wp_region_till (R := markR [(fun v _ => v = Value.pointer (some ⟨w.heap.size, 0, none⟩)), (fun v _ => v = Value.int .i64 k), (fun v _ => v = Value.bool false), (fun v _ => v = Value.bool false), (fun v _ => v = Value.pointer (some ⟨w.heap.size, 0, none⟩)), (fun v _ => v = Value.int .i64 k), (fun _ _ => True), (fun v _ => v = Value.int .i64 8), (fun v _ => v = Value.bool false), (fun v _ => v = Value.bool false)]) (till := fun _ => none) (D := fun W => Below w1.heap.size w1 W) (G := fun _ W W' => Below W.heap.size W W') (by rfl) ?hbeg ⟨by kernel_rfl, by kernel_rfl, by kernel_rfl, ?hkeep, ?hstab, ObsT.all ?hobs, ?hlast⟩
 case hbeg => exact (Below.refl _ _).drew
 case hkeep => intro i w1 w2 hC hG; exact below_step hC hG
 case hstab =>
  intro i j hij ht v w1 w2 hG hm
  match j, hm with
  | 0, hm => exact hm
  | 1, hm => exact hm
  | 2, hm => exact hm
  | 3, hm => exact hm
  | 4, hm => exact hm
  | 5, hm => exact hm
  | 6, hm => exact trivial
  | 7, hm => exact hm
  | 8, hm => exact hm
  | 9, hm => exact hm
  | j + 10, hm => exact trivial
 case hobs =>
  refine ObsT.cons (k' := 1) rfl ?_ ?_
  ·
   intro fa W hW hSame hRR KK hKK
   try dsimp only at hW
   have fb1 : fa.tmps[1]? = some (Value.pointer (some ⟨w.heap.size, 0, none⟩)) := (hSame.base 1 (by kernel_rfl)).trans (by kernel_rfl)
   replace hKK : ∀ v w', Below W.heap.size W w' → v = Value.pointer (some ⟨w.heap.size, 0, none⟩) → KK (Act.put fa _ v) w' := fun v w' h1 h2 => hKK v w' h1 h2
   clear hSame hRR
   rw [if_pos (wanted_plain rfl)]
   go_simp
   refine hKK _ _ ?_ ?_
   ·
    exact grP
   ·
    exact rfl
  refine ObsT.cons (k' := 2) rfl ?_ ?_
  ·
   intro fa W hW hSame hRR KK hKK
   try dsimp only at hW
   obtain ⟨fv0, ft0, (rfl : fv0 = Value.pointer (some ⟨w.heap.size, 0, none⟩))⟩ := hRR 0 _ 6 rfl rfl (by kernel_rfl) (by kernel_rfl)
   replace hKK : ∀ v w', Below W.heap.size W w' → v = Value.int .i64 k → KK (Act.put fa _ v) w' := fun v w' h1 h2 => hKK v w' h1 h2
   have hX := X1.out.keep hW
   have tx := hX; obtain ⟨chb, cfz, ck0, ck1, ck2, ck3, ck4, ck5⟩ := tx
   clear hSame hRR
   rw [if_pos (wanted_plain rfl)]
   go_simp
   refine hKK _ _ ?_ ?_
   ·
    exact grP
   ·
    exact rfl
  refine ObsT.cons (k' := 3) rfl ?_ ?_
  ·
   intro fa W hW hSame hRR KK hKK
   try dsimp only at hW
   obtain ⟨fv1, ft1, (rfl : fv1 = Value.int .i64 k)⟩ := hRR 1 _ 7 rfl rfl (by kernel_rfl) (by kernel_rfl)
   replace hKK : ∀ v w', Below W.heap.size W w' → v = Value.bool false → KK (Act.put fa _ v) w' := fun v w' h1 h2 => hKK v w' h1 h2
   clear hSame hRR
   rw [if_pos (wanted_plain rfl)]
   go_simp
   refine hKK _ _ ?_ ?_
   ·
    exact grP
   ·
    exact rfl
  refine ObsT.cons (k' := 4) rfl ?_ ?_
  ·
   intro fa W hW hSame hRR KK hKK
   try dsimp only at hW
   obtain ⟨fv2, ft2, (rfl : fv2 = Value.bool false)⟩ := hRR 2 _ 8 rfl rfl (by kernel_rfl) (by kernel_rfl)
   replace hKK : ∀ v w', Below W.heap.size W w' → v = Value.bool false → KK (Act.put fa _ v) w' := fun v w' h1 h2 => hKK v w' h1 h2
   clear hSame hRR
   rw [if_pos (wanted_plain rfl)]
   go_simp
   refine hKK _ _ ?_ ?_
   ·
    exact grP
   ·
    exact rfl
  refine ObsT.cons (k' := 5) rfl ?_ ?_
  ·
   intro fa W hW hSame hRR KK hKK
   try dsimp only at hW
   have fb1 : fa.tmps[1]? = some (Value.pointer (some ⟨w.heap.size, 0, none⟩)) := (hSame.base 1 (by kernel_rfl)).trans (by kernel_rfl)
   obtain ⟨fv3, ft3, (rfl : fv3 = Value.bool false)⟩ := hRR 3 _ 9 rfl rfl (by kernel_rfl) (by kernel_rfl)
   replace hKK : ∀ v w', Below W.heap.size W w' → v = Value.pointer (some ⟨w.heap.size, 0, none⟩) → KK (Act.put fa _ v) w' := fun v w' h1 h2 => hKK v w' h1 h2
   clear hSame hRR
   rw [wanted_guard rfl rfl rfl ft3]
   rw [if_pos (by rfl)]
   go_simp
   refine hKK _ _ ?_ ?_
   ·
    exact grP
   ·
    exact rfl
  refine ObsT.cons (k' := 6) rfl ?_ ?_
  ·
   intro fa W hW hSame hRR KK hKK
   try dsimp only at hW
   obtain ⟨fv3, ft3, (rfl : fv3 = Value.bool false)⟩ := hRR 3 _ 9 rfl rfl (by kernel_rfl) (by kernel_rfl)
   obtain ⟨fv4, ft4, (rfl : fv4 = Value.pointer (some ⟨w.heap.size, 0, none⟩))⟩ := hRR 4 _ 10 rfl rfl (by kernel_rfl) (by kernel_rfl)
   replace hKK : ∀ v w', Below W.heap.size W w' → v = Value.int .i64 k → KK (Act.put fa _ v) w' := fun v w' h1 h2 => hKK v w' h1 h2
   have hX := X1.out.keep hW
   have tx := hX; obtain ⟨chb, cfz, ck0, ck1, ck2, ck3, ck4, ck5⟩ := tx
   clear hSame hRR
   rw [wanted_guard rfl rfl rfl ft3]
   rw [if_pos (by rfl)]
   go_simp
   refine hKK _ _ ?_ ?_
   ·
    exact grP
   ·
    exact rfl
  refine ObsT.cons (k' := 7) rfl ?_ ?_
  ·
   intro fa W hW hSame hRR KK hKK
   try dsimp only at hW
   obtain ⟨fv3, ft3, (rfl : fv3 = Value.bool false)⟩ := hRR 3 _ 9 rfl rfl (by kernel_rfl) (by kernel_rfl)
   replace hKK : ∀ v w', Below W.heap.size W w' → (fun _ _ => True) v w' → KK (Act.put fa _ v) w' := fun v w' h1 h2 => hKK v w' h1 h2
   clear hSame hRR
   rw [wanted_guard rfl rfl rfl ft3]
   rw [if_pos (by rfl)]
   go_simp
   refine (SLO.out _).mono ?_; rintro e w' ⟨vs, h1, rfl, h2, hb⟩
   exact hKK _ _ hb trivial
  refine ObsT.cons (k' := 8) rfl ?_ ?_
  ·
   intro fa W hW hSame hRR KK hKK
   try dsimp only at hW
   obtain ⟨fv3, ft3, (rfl : fv3 = Value.bool false)⟩ := hRR 3 _ 9 rfl rfl (by kernel_rfl) (by kernel_rfl)
   replace hKK : ∀ v w', Below W.heap.size W w' → v = Value.int .i64 8 → KK (Act.put fa _ v) w' := fun v w' h1 h2 => hKK v w' h1 h2
   clear hSame hRR
   rw [wanted_guard rfl rfl rfl ft3]
   rw [if_pos (by rfl)]
   go_simp
   refine hKK _ _ ?_ ?_
   ·
    exact grP
   ·
    exact rfl
  refine ObsT.cons (k' := 9) rfl ?_ ?_
  ·
   intro fa W hW hSame hRR KK hKK
   try dsimp only at hW
   obtain ⟨fv3, ft3, (rfl : fv3 = Value.bool false)⟩ := hRR 3 _ 9 rfl rfl (by kernel_rfl) (by kernel_rfl)
   obtain ⟨fv5, ft5, (rfl : fv5 = Value.int .i64 k)⟩ := hRR 5 _ 11 rfl rfl (by kernel_rfl) (by kernel_rfl)
   obtain ⟨fv7, ft7, (rfl : fv7 = Value.int .i64 8)⟩ := hRR 7 _ 13 rfl rfl (by kernel_rfl) (by kernel_rfl)
   replace hKK : ∀ v w', Below W.heap.size W w' → v = Value.bool false → KK (Act.put fa _ v) w' := fun v w' h1 h2 => hKK v w' h1 h2
   clear hSame hRR
   rw [wanted_guard rfl rfl rfl ft3]
   rw [if_pos (by rfl)]
   go_simp
   refine hKK _ _ ?_ ?_
   ·
    exact grP
   ·
    exact rfl
  refine ObsT.cons (k' := 10) rfl ?_ ?_
  ·
   intro fa W hW hSame hRR KK hKK
   try dsimp only at hW
   obtain ⟨fv3, ft3, (rfl : fv3 = Value.bool false)⟩ := hRR 3 _ 9 rfl rfl (by kernel_rfl) (by kernel_rfl)
   obtain ⟨fv8, ft8, (rfl : fv8 = Value.bool false)⟩ := hRR 8 _ 14 rfl rfl (by kernel_rfl) (by kernel_rfl)
   replace hKK : ∀ v w', Below W.heap.size W w' → v = Value.bool false → KK (Act.put fa _ v) w' := fun v w' h1 h2 => hKK v w' h1 h2
   clear hSame hRR
   rw [if_pos (wanted_plain rfl)]
   go_simp
   refine hKK _ _ ?_ ?_
   ·
    exact grP
   ·
    exact rfl
  exact ObsT.nil
 case hlast =>
  intro fa w2 d2 hSame hRR
  try dsimp only at d2
  obtain ⟨zz9, f15, rfl⟩ := hRR 9 _ 15 rfl rfl rfl
  rw [Same_shape hSame]
  simp only [List.filterMap_cons, List.filterMap_nil, List.foldl_cons, List.foldl_nil]
  have g15 : fa.tmps.getD 15 undef = Value.bool false := by simp [Array.getD_eq_getD_getElem?, f15]
  rw [g15]
  generalize fa.tmps.getD 6 undef = y6
  generalize fa.tmps.getD 7 undef = y7
  generalize fa.tmps.getD 8 undef = y8
  generalize fa.tmps.getD 9 undef = y9
  generalize fa.tmps.getD 10 undef = y10
  generalize fa.tmps.getD 11 undef = y11
  generalize fa.tmps.getD 12 undef = y12
  generalize fa.tmps.getD 13 undef = y13
  generalize fa.tmps.getD 14 undef = y14
  clear hSame hRR f15 g15
  simp only [Act.put, List.setIfInBounds_toArray, List.set_cons_succ, List.set_cons_zero]
  have B2 := Lib.hid (below_step B1.out d2)
  have X2 := Lib.hid (X1.out.keep d2)
  have DX := Lib.hid d2
  clear d2 g0 g8
  go_upto_region 3 with (fail)
  refine wp_region_till (R := markR [(fun v W => StS W v Qy.heads), (fun v _ => v = Value.pointer (some ⟨w.heap.size, 0, none⟩)), (fun v _ => v = Value.int .i64 k), (fun v _ => v = Value.string A0), (fun v W => W.ownsRow w2.heap.size 9 1 v 1 [Value.string A0]), (fun v W => W.ownsRow w2.heap.size 9 1 v 1 [Value.string A0])]) (till := fun _ => none) (D := fun W => Below w2.heap.size w2 W) (G := fun _ W W' => Below W.heap.size W W') (by rfl) ?hbeg ⟨by kernel_rfl, by kernel_rfl, by kernel_rfl, ?hkeep, ?hstab, ObsT.all ?hobs, ?hlast⟩
  case hbeg => exact (Below.refl _ _).drew
  case hkeep => intro i w1 w2 hC hG; exact below_step hC hG
  case hstab =>
   intro i j hij ht v w1 w2 hG hm
   match j, hm with
   | 0, hm => exact StS.on hm hG
   | 1, hm => exact hm
   | 2, hm => exact hm
   | 3, hm => exact hm
   | 4, hm => exact own_on hm hG
   | 5, hm => exact own_on hm hG
   | j + 6, hm => exact trivial
  case hobs =>
   refine ObsT.cons (k' := 1) rfl ?_ ?_
   ·
    intro fa W hW hSame hRR KK hKK
    try dsimp only at hW
    replace hKK : ∀ v w', Below W.heap.size W w' → (fun v W => StS W v Qy.heads) v w' → KK (Act.put fa _ v) w' := fun v w' h1 h2 => hKK v w' h1 h2
    clear hSame hRR
    rw [if_pos (wanted_plain rfl)]
    go_simp
    refine (KI.out _).mono ?_; rintro e w' ⟨v, rfl, hv, hb⟩
    exact hKK _ _ hb hv
   refine ObsT.cons (k' := 2) rfl ?_ ?_
   ·
    intro fa W hW hSame hRR KK hKK
    try dsimp only at hW
    have fb1 : fa.tmps[1]? = some (Value.pointer (some ⟨w.heap.size, 0, none⟩)) := (hSame.base 1 (by kernel_rfl)).trans (by kernel_rfl)
    replace hKK : ∀ v w', Below W.heap.size W w' → v = Value.pointer (some ⟨w.heap.size, 0, none⟩) → KK (Act.put fa _ v) w' := fun v w' h1 h2 => hKK v w' h1 h2
    clear hSame hRR
    rw [if_pos (wanted_plain rfl)]
    go_simp
    refine hKK _ _ ?_ ?_
    ·
     exact grP
    ·
     exact rfl
   refine ObsT.cons (k' := 3) rfl ?_ ?_
   ·
    intro fa W hW hSame hRR KK hKK
    try dsimp only at hW
    obtain ⟨fv1, ft1, (rfl : fv1 = Value.pointer (some ⟨w.heap.size, 0, none⟩))⟩ := hRR 1 _ 17 rfl rfl (by kernel_rfl) (by kernel_rfl)
    replace hKK : ∀ v w', Below W.heap.size W w' → v = Value.int .i64 k → KK (Act.put fa _ v) w' := fun v w' h1 h2 => hKK v w' h1 h2
    have hX := X2.out.keep hW
    have tx := hX; obtain ⟨chb, cfz, ck0, ck1, ck2, ck3, ck4, ck5⟩ := tx
    clear hSame hRR
    rw [if_pos (wanted_plain rfl)]
    go_simp
    refine hKK _ _ ?_ ?_
    ·
     exact grP
    ·
     exact rfl
   refine ObsT.cons (k' := 4) rfl ?_ ?_
   ·
    intro fa W hW hSame hRR KK hKK
    try dsimp only at hW
    obtain ⟨fv0, ft0, hk0⟩ := hRR 0 _ 16 rfl rfl (by kernel_rfl) (by kernel_rfl)
    obtain ⟨fv2, ft2, (rfl : fv2 = Value.int .i64 k)⟩ := hRR 2 _ 18 rfl rfl (by kernel_rfl) (by kernel_rfl)
    replace hKK : ∀ v w', Below W.heap.size W w' → v = Value.string A0 → KK (Act.put fa _ v) w' := fun v w' h1 h2 => hKK v w' h1 h2
    clear hSame hRR
    rw [if_pos (wanted_plain rfl)]
    go_simp
    refine (CW.out _ _ hk0).mono ?_; rintro e w' ⟨rfl, rfl⟩
    exact hKK _ _ (Below.refl _ _) rfl
   refine ObsT.cons (k' := 5) rfl ?_ ?_
   ·
    intro fa W hW hSame hRR KK hKK
    try dsimp only at hW
    obtain ⟨fv3, ft3, (rfl : fv3 = Value.string A0)⟩ := hRR 3 _ 19 rfl rfl (by kernel_rfl) (by kernel_rfl)
    replace hKK : ∀ v w', Below W.heap.size W w' → (fun v W => W.ownsRow w2.heap.size 9 1 v 1 [Value.string A0]) v w' → KK (Act.put fa _ v) w' := fun v w' h1 h2 => hKK v w' h1 h2
    clear hSame hRR
    rw [if_pos (wanted_plain rfl)]
    go_simp
    refine hKK _ _ ((Below.refl _ _).alloc (Nat.le_refl _) _) ?_
    exact World.ownsRow_lit _ #[Value.string A0] 1 hW.size (by decide) rfl
   refine ObsT.cons (k' := 6) rfl ?_ ?_
   ·
    intro fa W hW hSame hRR KK hKK
    try dsimp only at hW
    obtain ⟨fv4, ft4, ho4⟩ := hRR 4 _ 20 rfl rfl (by kernel_rfl) (by kernel_rfl)
    replace hKK : ∀ v w', Below W.heap.size W w' → (fun v W => W.ownsRow w2.heap.size 9 1 v 1 [Value.string A0]) v w' → KK (Act.put fa _ v) w' := fun v w' h1 h2 => hKK v w' h1 h2
    clear hSame hRR
    rw [if_pos (wanted_plain rfl)]
    go_simp
    exact hKK _ _ (Below.refl _ _) ho4
   exact ObsT.nil
  case hlast =>
   intro fa w3 d3 hSame hRR
   try dsimp only at d3
   obtain ⟨zz5, f3, ho5⟩ := hRR 5 _ 3 rfl rfl rfl
   rw [Same_shape hSame]
   simp only [List.filterMap_cons, List.filterMap_nil, List.foldl_cons, List.foldl_nil]
   have g3 : fa.tmps.getD 3 undef = zz5 := by simp [Array.getD_eq_getD_getElem?, f3]
   rw [g3]
   generalize fa.tmps.getD 16 undef = y16
   generalize fa.tmps.getD 17 undef = y17
   generalize fa.tmps.getD 18 undef = y18
   generalize fa.tmps.getD 19 undef = y19
   generalize fa.tmps.getD 20 undef = y20
   clear hSame hRR f3 g3
   simp only [Act.put, List.setIfInBounds_toArray, List.set_cons_succ, List.set_cons_zero]
   have B3 := Lib.hid (below_step B2.out d3)
   have X3 := Lib.hid (X2.out.keep d3)
   have O3 := Lib.hid ho5
   have D3 := Lib.hid d3
   clear d3 ho5 X2
   go_upto_region 4 with (fail)
   refine wp_region_till (R := markR [(fun v W => ∃ vs : List Value, vs.length = 8 ∧ v = Value.agg vs.toArray ∧ ∀ k (h : k < vs.length), NsS w3.heap.size W vs[k] (Qy.sl k)), (fun v _ => v = Value.pointer (some ⟨w.heap.size, 0, none⟩)), (fun v _ => v = Value.int .i64 k), (fun v W => NsS w3.heap.size W v L), (fun v _ => v = Value.int .i64 (L.length : Nat)), (fun v _ => v = Value.int .i64 0)]) (till := fun _ => none) (D := fun W => Below w3.heap.size w3 W) (G := fun _ W W' => Below W.heap.size W W') (by rfl) ?hbeg ⟨by kernel_rfl, by kernel_rfl, by kernel_rfl, ?hkeep, ?hstab, ObsT.all ?hobs, ?hlast⟩
   case hbeg => exact (Below.refl _ _).drew
   case hkeep => intro i w1 w2 hC hG; exact below_step hC hG
   case hstab =>
    intro i j hij ht v w1 w2 hG hm
    match j, hm with
    | 0, hm => exact (by obtain ⟨vs, h1, h2, h3⟩ := hm; exact ⟨vs, h1, h2, fun k h => (h3 k h).on hG⟩)
    | 1, hm => exact hm
    | 2, hm => exact hm
    | 3, hm => exact hm.on hG
    | 4, hm => exact hm
    | 5, hm => exact hm
    | j + 6, hm => exact trivial
   case hobs =>
    refine ObsT.cons (k' := 1) rfl ?_ ?_
    ·
     intro fa W hW hSame hRR KK hKK
     try dsimp only at hW
     replace hKK : ∀ v w', Below W.heap.size W w' → (fun v W => ∃ vs : List Value, vs.length = 8 ∧ v = Value.agg vs.toArray ∧ ∀ k (h : k < vs.length), NsS w3.heap.size W vs[k] (Qy.sl k)) v w' → KK (Act.put fa _ v) w' := fun v w' h1 h2 => hKK v w' h1 h2
     clear hSame hRR
     rw [if_pos (wanted_plain rfl)]
     go_simp
     refine (SLO.out _).mono ?_; rintro e w' ⟨vs, h1, rfl, h2, hb⟩
     exact hKK _ _ hb ⟨vs, h1, rfl, fun k h => (h2 k h).low hW.size⟩
    refine ObsT.cons (k' := 2) rfl ?_ ?_
    ·
     intro fa W hW hSame hRR KK hKK
     try dsimp only at hW
     have fb1 : fa.tmps[1]? = some (Value.pointer (some ⟨w.heap.size, 0, none⟩)) := (hSame.base 1 (by kernel_rfl)).trans (by kernel_rfl)
     replace hKK : ∀ v w', Below W.heap.size W w' → v = Value.pointer (some ⟨w.heap.size, 0, none⟩) → KK (Act.put fa _ v) w' := fun v w' h1 h2 => hKK v w' h1 h2
     clear hSame hRR
     rw [if_pos (wanted_plain rfl)]
     go_simp
     refine hKK _ _ ?_ ?_
     ·
      exact grP
     ·
      exact rfl
    refine ObsT.cons (k' := 3) rfl ?_ ?_
    ·
     intro fa W hW hSame hRR KK hKK
     try dsimp only at hW
     obtain ⟨fv1, ft1, (rfl : fv1 = Value.pointer (some ⟨w.heap.size, 0, none⟩))⟩ := hRR 1 _ 22 rfl rfl (by kernel_rfl) (by kernel_rfl)
     replace hKK : ∀ v w', Below W.heap.size W w' → v = Value.int .i64 k → KK (Act.put fa _ v) w' := fun v w' h1 h2 => hKK v w' h1 h2
     have hX := X3.out.keep hW
     have tx := hX; obtain ⟨chb, cfz, ck0, ck1, ck2, ck3, ck4, ck5⟩ := tx
     clear hSame hRR
     rw [if_pos (wanted_plain rfl)]
     go_simp
     refine hKK _ _ ?_ ?_
     ·
      exact grP
     ·
      exact rfl
    refine ObsT.cons (k' := 4) rfl ?_ ?_
    ·
     intro fa W hW hSame hRR KK hKK
     try dsimp only at hW
     obtain ⟨fv0, ft0, ⟨vs, hvl, rfl, hvs⟩⟩ := hRR 0 _ 21 rfl rfl (by kernel_rfl) (by kernel_rfl)
     obtain ⟨fv2, ft2, (rfl : fv2 = Value.int .i64 k)⟩ := hRR 2 _ 23 rfl rfl (by kernel_rfl) (by kernel_rfl)
     replace hKK : ∀ v w', Below W.heap.size W w' → (fun v W => NsS w3.heap.size W v L) v w' → KK (Act.put fa _ v) w' := fun v w' h1 h2 => hKK v w' h1 h2
     have IX := fun W => qix vs hvl k (by omega) W
     clear hSame hRR
     rw [if_pos (wanted_plain rfl)]
     go_simp
     refine hKK _ _ (Below.refl _ _) (by rw [HL.out]; exact hvs k (by omega))
    refine ObsT.cons (k' := 5) rfl ?_ ?_
    ·
     intro fa W hW hSame hRR KK hKK
     try dsimp only at hW
     obtain ⟨fv3, ft3, hn3⟩ := hRR 3 _ 24 rfl rfl (by kernel_rfl) (by kernel_rfl)
     replace hKK : ∀ v w', Below W.heap.size W w' → v = Value.int .i64 (L.length : Nat) → KK (Act.put fa _ v) w' := fun v w' h1 h2 => hKK v w' h1 h2
     obtain ⟨A9, c9, rfl, h9⟩ := hn3
     clear hSame hRR
     rw [if_pos (wanted_plain rfl)]
     go_simp
     refine hKK _ _ ?_ ?_
     ·
      exact grP
     ·
      exact rfl
    refine ObsT.cons (k' := 6) rfl ?_ ?_
    ·
     intro fa W hW hSame hRR KK hKK
     try dsimp only at hW
     replace hKK : ∀ v w', Below W.heap.size W w' → v = Value.int .i64 0 → KK (Act.put fa _ v) w' := fun v w' h1 h2 => hKK v w' h1 h2
     clear hSame hRR
     rw [if_pos (wanted_plain rfl)]
     go_simp
     refine hKK _ _ ?_ ?_
     ·
      exact grP
     ·
      exact rfl
    exact ObsT.nil
   case hlast =>
    intro fa w4 d4 hSame hRR
    try dsimp only at d4
    obtain ⟨zz3, f24, hn3⟩ := hRR 3 _ 24 rfl rfl rfl
    obtain ⟨zz4, f25, rfl⟩ := hRR 4 _ 25 rfl rfl rfl
    obtain ⟨zz5, f26, rfl⟩ := hRR 5 _ 26 rfl rfl rfl
    rw [Same_shape hSame]
    simp only [List.filterMap_cons, List.filterMap_nil, List.foldl_cons, List.foldl_nil]
    have g24 : fa.tmps.getD 24 undef = zz3 := by simp [Array.getD_eq_getD_getElem?, f24]
    have g25 : fa.tmps.getD 25 undef = Value.int .i64 (L.length : Nat) := by simp [Array.getD_eq_getD_getElem?, f25]
    have g26 : fa.tmps.getD 26 undef = Value.int .i64 0 := by simp [Array.getD_eq_getD_getElem?, f26]
    rw [g24, g25, g26]
    generalize fa.tmps.getD 21 undef = y21
    generalize fa.tmps.getD 22 undef = y22
    generalize fa.tmps.getD 23 undef = y23
    clear hSame hRR f24 g24 f25 g25 f26 g26
    simp only [Act.put, List.setIfInBounds_toArray, List.set_cons_succ, List.set_cons_zero]
    have N4 := hn3
    obtain ⟨A2, c2, rfl, -⟩ := hn3
    obtain ⟨N, hN⟩ : ∃ N, N = L.length := ⟨_, rfl⟩
    rw [← hN] at N4
    rw [← hN]
    have hN5 : N ≤ 5 := by have := HS.out.1; omega
    have HN := Lib.hid hN
    have HN4 := Lib.hid N4
    have B4 := Lib.hid (below_step B3.out d4)
    have D4 := Lib.hid (below_step D3.out d4)
    have O4 := Lib.hid (own_on O3.out d4)
    have X4 := Lib.hid (X3.out.keep d4)
    have HZ2 := Lib.hid X1.out.hb
    have HB2 := Lib.hid B2.out.size
    have HX1 := Lib.hid (X1.out.keep (show Below w1.heap.size w1 w2 from DX.out))
    clear d4 O3 D3 X3 hN N4
    go_wp2_with fail
    go_loopw [3, 26] (fun P i wr => ∃ j : Nat, j ≤ N ∧ i = .int .i64 j ∧ Hid (wr.ownsRow w2.heap.size 9 1 P (j + 1) ((A0 :: (L.take j).map BS).map Value.string)) ∧ Hid (NsS w3.heap.size wr (.slice A2 N c2) L) ∧ Hid (Below w2.heap.size w2 wr)) (fun _ i _ => N - (intOf i).toNat)
    case atStart => exact ⟨0, by omega, rfl, O4, HN4, D4⟩
    case round =>
     obtain ⟨j, hj, rfl, hO, hNs, hB⟩ := hrel
     clear O4 HN4 D4 X4
     by_cases hlt : j < N
     ·
      have hjL : j < L.length := by rw [← HN.out]; exact hlt
      have hs := HS.out.2 L[j] (List.getElem_mem _)
      have ht : L.take (j + 1) = L.take j ++ [L[j]] := by rw [List.take_succ_eq_append_getElem]
      have Tn := hNs.out
      obtain ⟨A9, c9, e9, ha⟩ := Tn
      obtain ⟨a9, ea, -, -, -, gl⟩ := ha (by omega)
      injection e9 with e91 e92 e93
      subst e91
      subst ea
      clear e92 e93 ha
      have gl := gl j _ (List.getElem?_eq_getElem hjL)
      generalize L[j] = s9 at hs gl ht
      have HT9 := Lib.hid ht
      have X := HX1.out.keep hB.out
      have Xh := X.hb; have Xf := X.fz; have X0 := X.k0; have X1c := X.k1; have X2c := X.k2; have X3c := X.k3; have X4c := X.k4; have X5c := X.k5
      have SX := Lib.hid (fun W T => ST.out s9 hs.1 hs.2 W T)
      have BW := Lib.hid (below_step B2.out hB.out)
      have VT := Lib.hid (var_keep BW.out TT.out)
      clear ht hs X hjL
      go_wp2_with fail
      refine (SX.out _ VT.out).mono ?_; rintro e w5 ⟨rfl, b5⟩
      have hO5 := Lib.hid (own_on hO.out b5)
      have hN5' := Lib.hid (hNs.out.on b5)
      have hB5 := Lib.hid (below_step hB.out b5)
      clear b5 hO hNs hB SX gl Xh Xf X0 X1c X2c X3c X4c X5c VT BW
      go_wp2_with (at_builtin; refine wpList_append_own _ rfl _ _ 43 rfl w2.heap.size 9 i0 (.string ⟨#[]⟩) 1 16 Tryz.underlying43 hi hz0 hz1 hz2 rfl (by decide) _ _ _ rfl (hO5.out.alloc _) ⟨w5.heap.size, 0, none⟩ 1 1 [.string (BS s9)] rfl rfl (by intro j u hj; match j, hj with | 0, hj => (simp at hj; subst hj; simp [go_sem])) (by intro u hu; simp at hu; subst hu; rfl) (by unfold maxLen; omega) (by omega) (by have := hB5.out.size; simp; omega) ?_)
      intro v6 w6 own6 grow6 _
      have B6 := Lib.hid (show Below w2.heap.size w2 w6 from ((hB5.out.alloc hB5.out.size _).trans (below_grown grow6 (by have := hB5.out.size; simp; omega) (own_row hO5.out))))
      have N6 := Lib.hid ((hN5'.out.on ((Below.refl _ _).alloc (Nat.le_refl _) _)).grown grow6 (fun b hb => ⟨A0, by
       have := (hO5.out.alloc (Obj.cells #[Value.string (BS s9)] 9)).cells hb 0 (.string A0) rfl
       rw [Addr.add_zero'] at this
       exact this⟩))
      have O6 := Lib.hid (show w6.ownsRow w2.heap.size 9 1 v6 (j + 1 + 1) ((A0 :: (L.take (j + 1)).map BS).map Value.string) by rw [show ((A0 :: (L.take (j + 1)).map BS).map Value.string) = (Value.string A0 :: (List.take j (List.map (Value.string ∘ BS) L) ++ [Value.string (BS s9)])) by rw [HT9.out]; simp [List.map_take]]; exact own6)
      clear own6 grow6 hO5 hN5' hB5
      go_wp2_with fail
      go_roundw
      case rel => exact ⟨j + 1, by omega, by go_num, O6, N6, B6⟩
      case measure => simp [intOf]; omega
     ·
      obtain rfl : j = N := by omega
      have hO9 := hO.out
      rw [List.take_of_length_le (by rw [← HN.out]; exact Nat.le_refl _)] at hO9
      rw [show j + 1 = (A0 :: L.map BS).length by rw [List.length_cons, List.length_map, ← HN.out]] at hO9
      have QJ := Lib.hid (qjoin_any _ _ _ _ hO9 (by simp) (by rw [List.length_cons, List.length_map, ← HN.out]; omega) (by rw [← HTT.out]; have := ZZ.out; omega))
      rw [← HTT.out] at QJ
      have BW := Lib.hid (below_step B2.out hB.out)
      clear hO9 hO hNs hB
      go_wp2_with fail
      refine QJ.out.mono ?_; rintro e w5 ⟨rfl, b5⟩
      have B5 := Lib.hid (below_step BW.out b5)
      clear b5
      go_wp2_with fail
      go_ret
      exact ⟨rfl, B5.out⟩
end Go.Proofs.YtbcbggdbojonmaaGreatDoor
