/- Joined: PairT, QyD. -/
import Derived.Test.YtbcbggdbojonmaaGreatDoorBq19
import Derived.Test.YtbcbggdbojonmaaGreatDoorBq01
import Derived.Test.YtbcbggdbojonmaaGreatDoorBq18
namespace Go.Pairs
open Go
section
variable (P : Program) (l : List Oper) (R : Nat → Value → World → Prop) (till : Nat → Option Nat) (D : World → Prop) (G : Nat → World → World → Prop) (Q : Exit → Act → World → Prop) (a0 : Act)
def CT (ld : Nat → Bool) (a : Act) (w : World) : Prop :=
 D w ∧ Same l a0 a ∧ ∀ j oj d, l[j]? = some oj → oj.dst = some d → ld j = true → (∀ t, till j = some t → ld t = false) → ∃ v, a.tmps[d]? = some v ∧ R j v w
def liveB (till : Nat → Option Nat) (l : List Oper) (i j : Nat) : Bool :=
 match till j with
 | none => true
 | some t => t == i || (match l[t]? with | some ot => waitsB ot i | none => false)
def ObT (i : Nat) (o : Oper) : Prop :=
 ∀ a w, D w → Same l a0 a → (∀ j oj d, l[j]? = some oj → oj.dst = some d → waitsB o j = true → liveB till l i j = true → ∃ v, a.tmps[d]? = some v ∧ R j v w) →
  ∀ K : Act → World → Prop, (∀ v w', G i w w' → R i v w' → K (a.put o.dst v) w') → if Region.wanted o (yielded l.toArray a.tmps) = true then o.wp P a w K Q else K (a.put o.dst undef) w
structure GoodT : Prop where
 nodup : nodupB (l.filterMap (·.dst)) = true
 on : onB 0 l = true
 inside : insideB a0.tmps.size l = true
 keep : ∀ i w w', D w → G i w w' → D w'
 stable : ∀ i j, i ≠ j → till j ≠ some i → ∀ v w w', G i w w' → R j v w → R j v w'
 ob : ∀ i o, l[i]? = some o → ObT P l R till D G Q a0 i o
 last : ∀ a w, D w → Same l a0 a → (∀ j oj d, l[j]? = some oj → oj.dst = some d → till j = none → ∃ v, a.tmps[d]? = some v ∧ R j v w) → Q .normal a w
variable {P l R till D G Q a0}
theorem live_at {i j : Nat} (h : liveB till l i j = true) : ∀ t, till j = some t → t = i ∨ ∃ ot, l[t]? = some ot ∧ waitsB ot i = true := by
 intro t ht
 unfold liveB at h
 rw [ht] at h
 simp only [Bool.or_eq_true, beq_iff_eq] at h
 rcases h with h | h
 ·
  exact Or.inl h
 ·
  cases hlt : l[t]? with
  | none => rw [hlt] at h; cases h
  | some ot => rw [hlt] at h; exact Or.inr ⟨ot, rfl, h⟩
theorem GoodT.goodF (h : GoodT P l R till D G Q a0) : GoodF P l (CT l R till D a0) Q a0 where
 on := h.on
 ob := fun i o ho ld a w hC hif hw hcl hS K hK => by
  refine h.ob i o ho a w hC.1 hC.2.1 (fun j oj d hj hd hwj hlv => ?_) K fun v w' hG hRv => hK _ _ ⟨h.keep _ _ _ hC.1 hG, hS.put ho v, ?_⟩
  ·
   refine hC.2.2 j oj d hj hd (hw j hwj) fun t ht => ?_
   rcases live_at hlv t ht with e | ⟨ot, e1, e2⟩
   ·
    subst e; exact hif
   ·
    rcases hb : ld t with _ | _
    ·
     rfl
    ·
     have := hcl t ot i e1 hb e2
     rw [hif] at this; cases this
  ·
   intro j oj d hj hd hl htl
   unfold come at hl htl
   by_cases hij : j = i
   ·
    subst hij
    obtain rfl : o = oj := by rw [ho] at hj; exact Option.some.inj hj
    rw [hd, put_same (by rw [hS.size]; exact inside_at h.inside hj hd)]
    exact ⟨_, rfl, hRv⟩
   ·
    rw [if_neg hij] at hl
    rw [put_other (fun he => hij (nodup_at h.nodup ho hj he hd).symm)]
    obtain ⟨v', h1, h2⟩ := hC.2.2 j oj d hj hd hl fun t ht => by
     have := htl t ht
     by_cases hti : t = i
     ·
      rw [if_pos hti] at this; cases this
     ·
      rwa [if_neg hti] at this
    refine ⟨v', h1, h.stable i j (fun e => hij e.symm) (fun e => ?_) _ _ _ hG h2⟩
    have := htl i e
    rw [if_pos rfl] at this; cases this
 last := fun ld a w hC hall hS => h.last a w hC.1 hS fun j oj d hj hd htl =>
  hC.2.2 j oj d hj hd (hall j (List.getElem?_eq_some_iff.1 hj).1) fun t ht => by rw [htl] at ht; cases ht
theorem wp_region_till {id : Nat} {w : World} (hm : P.follows .mixedOrders = true) (hD : D w.drew) (h : GoodT P l R till D G Q a0) : (Code.region id l.toArray true).wp P Q a0 w :=
 wp_region_frame (C := CT l R till D a0) hm ⟨hD, ⟨rfl, rfl, fun _ _ => rfl⟩, fun _ _ _ _ _ hl => by cases hl⟩ h.goodF
def ObsT (P : Program) (l : List Oper) (R : Nat → Value → World → Prop) (till : Nat → Option Nat) (D : World → Prop) (G : Nat → World → World → Prop) (Q : Exit → Act → World → Prop) (a0 : Act) : Nat → List Oper → Prop
 | _, [] => True
 | k, o :: os => ObT P l R till D G Q a0 k o ∧ ObsT P l R till D G Q a0 (k + 1) os
theorem ObsT.at : ∀ {os : List Oper} {k : Nat}, ObsT P l R till D G Q a0 k os → ∀ i o, os[i]? = some o → ObT P l R till D G Q a0 (k + i) o := by
 intro os
 induction os with
 | nil => intro k _ i o h; simp at h
 | cons x os ih =>
  intro k h i o hi
  cases i with
  | zero => simp at hi; subst hi; exact h.1
  | succ i => simp at hi; have := ih h.2 i o hi; rw [show k + (i + 1) = k + 1 + i by omega]; exact this
theorem ObsT.all (h : ObsT P l R till D G Q a0 0 l) : ∀ i o, l[i]? = some o → ObT P l R till D G Q a0 i o := fun i o hi => by
 have := h.at i o hi
 rwa [Nat.zero_add] at this
theorem ObsT.nil {k : Nat} : ObsT P l R till D G Q a0 k [] := trivial
theorem ObsT.cons {k k' : Nat} {o : Oper} {os : List Oper} (hk : k + 1 = k') (h : ObT P l R till D G Q a0 k o) (hs : ObsT P l R till D G Q a0 k' os) : ObsT P l R till D G Q a0 k (o :: os) := ⟨h, hk ▸ hs⟩
end
theorem shape_ds (x : Nat → Value) : ∀ (ds : List Nat) (b : Act) (tm : Array Value), b.tmps.size = tm.size → (∀ i, i < tm.size → tm[i]? = some (x i)) → (∀ i, ds.contains i = false → tm[i]? = b.tmps[i]?) →
  (ds.foldl (fun b d => b.put (some d) (x d)) b).tmps = tm ∧ (ds.foldl (fun b d => b.put (some d) (x d)) b).defers = b.defers := by
 intro ds
 induction ds with
 | nil => intro b tm hs hx h; exact ⟨Array.ext_getElem? (fun i => (h i rfl).symm), rfl⟩
 | cons d ds ih =>
  intro b tm hs hx h
  have := ih (b.put (some d) (x d)) tm (by simpa [Act.put] using hs) hx (fun i hi => by
   by_cases e : i = d
   ·
    subst e
    by_cases hlt : i < tm.size
    ·
     rw [put_same (a := b) (by rw [hs]; exact hlt)]; exact hx i hlt
    ·
     rw [Array.getElem?_eq_none (by omega), Array.getElem?_eq_none (by simp [Act.put]; omega)]
   ·
    rw [put_other (by simpa using fun e' => e e'.symm)]
    exact h i (by simpa [e] using hi))
  exact ⟨this.1, this.2⟩
theorem Same_shape {l : List Oper} {a0 a : Act} (h : Same l a0 a) : a = (l.filterMap (·.dst)).foldl (fun b d => b.put (some d) (a.tmps.getD d undef)) a0 := by
 obtain ⟨h1, h2⟩ := shape_ds (fun d => a.tmps.getD d undef) (l.filterMap (·.dst)) a0 a.tmps h.size.symm (fun i hi => by simp [hi]) h.base
 obtain ⟨tm, df⟩ := a
 have := h.defers
 generalize List.foldl _ _ _ = z at *
 obtain ⟨zt, zd⟩ := z
 dsimp only at h1 h2 this ⊢
 subst h1; subst h2; rw [this]
end Go.Pairs
set_option linter.unusedVariables false
set_option linter.unusedSimpArgs false
namespace Go.Proofs.YtbcbggdbojonmaaGreatDoor
open Go.RowKit Go.Sort Go.Pairs
set_option maxHeartbeats 1000000 in
set_option maxRecDepth 100000 in
theorem qstext_z (k t n u p : Int) (z : ByteArray) (w : World) : Calls Tryz.prog 60 #[.int .i64 0, .agg #[.int .i64 k, .string z, .int .i64 t, .int .i64 n, .int .i64 u, .int .i64 p]] w fun e w' => e = .returned (.string z) ∧ Below w.heap.size w w' := by
 go_enter Tryz.func60, Tryz.ntmps60
 go_wp2_with fail
 go_ret
 exact ⟨rfl, gr0⟩
set_option maxHeartbeats 1000000 in
set_option maxRecDepth 100000 in
theorem qstext_t1 (k t n u p : Int) (z : ByteArray) (w : World) (h : An.bd t) (T : Lib.TabIs Tryz.prog w "internal/strconv.uint64pow10" .u64 Lib.pow10Tab) : Calls Tryz.prog 60 #[.int .i64 1, .agg #[.int .i64 k, .string z, .int .i64 t, .int .i64 n, .int .i64 u, .int .i64 p]] w fun e w' => e = .returned (.string ⟨(Lib.itoa t).toArray⟩) ∧ Below w.heap.size w w' := by
 have C := Lib.hid (fun W T => text_any t W h.1 h.2 T)
 have TT := Lib.hid T
 clear T h
 generalize (⟨(Lib.itoa t).toArray⟩ : ByteArray) = R at C ⊢
 go_enter Tryz.func60, Tryz.ntmps60
 go_wp2_with fail
 refine (C.out _ (var_keep gr0 TT.out)).mono ?_; rintro e w1 ⟨rfl, b1⟩
 have B1 : Hid (Below w.heap.size w w1) := Lib.hid (below_step gr0 b1)
 clear b1
 go_wp2_with fail
 go_ret
 exact ⟨rfl, B1.out⟩
set_option maxHeartbeats 1000000 in
set_option maxRecDepth 100000 in
theorem qstext_t5 (k t n u p : Int) (z : ByteArray) (w : World) (h : An.bd t) (T : Lib.TabIs Tryz.prog w "internal/strconv.uint64pow10" .u64 Lib.pow10Tab) : Calls Tryz.prog 60 #[.int .i64 5, .agg #[.int .i64 k, .string z, .int .i64 t, .int .i64 n, .int .i64 u, .int .i64 p]] w fun e w' => e = .returned (.string ⟨(Lib.itoa t).toArray⟩) ∧ Below w.heap.size w w' := by
 have C := Lib.hid (fun W T => text_any t W h.1 h.2 T)
 have TT := Lib.hid T
 clear T h
 generalize (⟨(Lib.itoa t).toArray⟩ : ByteArray) = R at C ⊢
 go_enter Tryz.func60, Tryz.ntmps60
 go_wp2_with fail
 refine (C.out _ (var_keep gr0 TT.out)).mono ?_; rintro e w1 ⟨rfl, b1⟩
 have B1 : Hid (Below w.heap.size w w1) := Lib.hid (below_step gr0 b1)
 clear b1
 go_wp2_with fail
 go_ret
 exact ⟨rfl, B1.out⟩
set_option maxHeartbeats 1000000 in
set_option maxRecDepth 100000 in
theorem qstext_n2 (k t n u p : Int) (z : ByteArray) (w : World) (h : An.bd n) (T : Lib.TabIs Tryz.prog w "internal/strconv.uint64pow10" .u64 Lib.pow10Tab) : Calls Tryz.prog 60 #[.int .i64 2, .agg #[.int .i64 k, .string z, .int .i64 t, .int .i64 n, .int .i64 u, .int .i64 p]] w fun e w' => e = .returned (.string ⟨(Lib.itoa n).toArray⟩) ∧ Below w.heap.size w w' := by
 have C := Lib.hid (fun W T => text_any n W h.1 h.2 T)
 have TT := Lib.hid T
 clear T h
 generalize (⟨(Lib.itoa n).toArray⟩ : ByteArray) = R at C ⊢
 go_enter Tryz.func60, Tryz.ntmps60
 go_wp2_with fail
 refine (C.out _ (var_keep gr0 TT.out)).mono ?_; rintro e w1 ⟨rfl, b1⟩
 have B1 : Hid (Below w.heap.size w w1) := Lib.hid (below_step gr0 b1)
 clear b1
 go_wp2_with fail
 go_ret
 exact ⟨rfl, B1.out⟩
set_option maxHeartbeats 1000000 in
set_option maxRecDepth 100000 in
theorem qstext_n6 (k t n u p : Int) (z : ByteArray) (w : World) (h : An.bd n) (T : Lib.TabIs Tryz.prog w "internal/strconv.uint64pow10" .u64 Lib.pow10Tab) : Calls Tryz.prog 60 #[.int .i64 6, .agg #[.int .i64 k, .string z, .int .i64 t, .int .i64 n, .int .i64 u, .int .i64 p]] w fun e w' => e = .returned (.string ⟨(Lib.itoa n).toArray⟩) ∧ Below w.heap.size w w' := by
 have C := Lib.hid (fun W T => text_any n W h.1 h.2 T)
 have TT := Lib.hid T
 clear T h
 generalize (⟨(Lib.itoa n).toArray⟩ : ByteArray) = R at C ⊢
 go_enter Tryz.func60, Tryz.ntmps60
 go_wp2_with fail
 refine (C.out _ (var_keep gr0 TT.out)).mono ?_; rintro e w1 ⟨rfl, b1⟩
 have B1 : Hid (Below w.heap.size w w1) := Lib.hid (below_step gr0 b1)
 clear b1
 go_wp2_with fail
 go_ret
 exact ⟨rfl, B1.out⟩
set_option maxHeartbeats 1000000 in
set_option maxRecDepth 100000 in
theorem qstext_u (k t n u p : Int) (z : ByteArray) (w : World) : Calls Tryz.prog 60 #[.int .i64 3, .agg #[.int .i64 k, .string z, .int .i64 t, .int .i64 n, .int .i64 u, .int .i64 p]] w fun e w' => e = .returned (.string ⟨(Qy.word Qy.units u).toArray⟩) ∧ Below w.heap.size w w' := by
 have CU := Lib.hid (fun W => qunits_any W)
 have CW := Lib.hid (fun v W S => qword_any v Qy.units u W S (by decide))
 generalize (⟨(Qy.word Qy.units u).toArray⟩ : ByteArray) = R at CW ⊢
 go_enter Tryz.func60, Tryz.ntmps60
 go_upto_region 11 with (fail)
 refine wp_named ?_; intro w1 hw1
 have d1 : Below w.heap.size w w1 := by rw [hw1]; exact gr0
 have B1 := Lib.hid d1
 have X1 : Bk6 w1 w.heap.size (.int .i64 k) (.string z) (.int .i64 t) (.int .i64 n) (.int .i64 u) (.int .i64 p) := by rw [hw1]; exact ⟨by simp <;> omega, by intro j; simp [go_sem], by simp [go_sem], by simp [go_sem], by simp [go_sem], by simp [go_sem], by simp [go_sem], by simp [go_sem]⟩
 clear d1 hw1
 refine wp_region_till (R := markR [(fun v W => StS W v Qy.units), (fun v _ => v = Value.pointer (some ⟨w.heap.size, 4, none⟩)), (fun v _ => v = Value.int .i64 u), (fun v _ => v = Value.string R), (fun v _ => v = Value.string R)]) (till := fun _ => none) (D := fun W => Below w1.heap.size w1 W) (G := fun _ W W' => Below W.heap.size W W') (by rfl) ?hbeg ⟨by kernel_rfl, by kernel_rfl, by kernel_rfl, ?hkeep, ?hstab, ObsT.all ?hobs, ?hlast⟩
 case hbeg => exact (Below.refl _ _).drew
 case hkeep => intro i w1 w2 hC hG; exact below_step hC hG
 case hstab =>
  intro i j hij ht v w1 w2 hG hm
  match j, hm with
  | 0, hm => exact (StS.on hm hG)
  | 1, hm => exact hm
  | 2, hm => exact hm
  | 3, hm => exact hm
  | 4, hm => exact hm
  | j + 5, hm => exact trivial
 case hobs =>
  refine ObsT.cons (k' := 1) rfl ?_ ?_
  ·
   intro fa W hW hSame hRR KK hKK
   try dsimp only at hW
   replace hKK : ∀ v w', Below W.heap.size W w' → (fun v W => StS W v Qy.units) v w' → KK (Act.put fa _ v) w' := fun v w' h1 h2 => hKK v w' h1 h2
   clear hSame hRR
   rw [if_pos (wanted_plain rfl)]
   go_simp
   refine (CU.out _).mono ?_; rintro e w' ⟨v, rfl, hs, hb⟩
   exact hKK _ _ hb hs
  refine ObsT.cons (k' := 2) rfl ?_ ?_
  ·
   intro fa W hW hSame hRR KK hKK
   try dsimp only at hW
   have fb3 : fa.tmps[3]? = some (Value.pointer (some ⟨w.heap.size, 0, none⟩)) := (hSame.base 3 (by kernel_rfl)).trans (by kernel_rfl)
   replace hKK : ∀ v w', Below W.heap.size W w' → v = Value.pointer (some ⟨w.heap.size, 4, none⟩) → KK (Act.put fa _ v) w' := fun v w' h1 h2 => hKK v w' h1 h2
   have hX := X1.keep hW
   have tx := hX; obtain ⟨chb, cfz, ck0, ck1, ck2, ck3, ck4, ck5⟩ := tx
   clear hSame hRR
   rw [if_pos (wanted_plain rfl)]
   go_simp
   refine hKK _ _ ?_ ?_
   ·
    exact grP
   ·
    exact rfl
  refine ObsT.cons (k' := 3) rfl ?_ ?_
  ·
   intro fa W hW hSame hRR KK hKK
   try dsimp only at hW
   obtain ⟨fv1, ft1, (rfl : fv1 = Value.pointer (some ⟨w.heap.size, 4, none⟩))⟩ := hRR 1 _ 25 rfl rfl (by kernel_rfl) (by kernel_rfl)
   replace hKK : ∀ v w', Below W.heap.size W w' → v = Value.int .i64 u → KK (Act.put fa _ v) w' := fun v w' h1 h2 => hKK v w' h1 h2
   have hX := X1.keep hW
   have tx := hX; obtain ⟨chb, cfz, ck0, ck1, ck2, ck3, ck4, ck5⟩ := tx
   clear hSame hRR
   rw [if_pos (wanted_plain rfl)]
   go_simp
   refine hKK _ _ ?_ ?_
   ·
    exact grP
   ·
    exact rfl
  refine ObsT.cons (k' := 4) rfl ?_ ?_
  ·
   intro fa W hW hSame hRR KK hKK
   try dsimp only at hW
   obtain ⟨fv0, ft0, fs0⟩ := hRR 0 _ 24 rfl rfl (by kernel_rfl) (by kernel_rfl)
   obtain ⟨fv2, ft2, (rfl : fv2 = Value.int .i64 u)⟩ := hRR 2 _ 26 rfl rfl (by kernel_rfl) (by kernel_rfl)
   replace hKK : ∀ v w', Below W.heap.size W w' → v = Value.string R → KK (Act.put fa _ v) w' := fun v w' h1 h2 => hKK v w' h1 h2
   clear hSame hRR
   rw [if_pos (wanted_plain rfl)]
   go_simp
   refine (CW.out _ _ fs0).mono ?_; rintro e w' ⟨rfl, rfl⟩
   exact hKK _ _ (Below.refl _ _) rfl
  refine ObsT.cons (k' := 5) rfl ?_ ?_
  ·
   intro fa W hW hSame hRR KK hKK
   try dsimp only at hW
   obtain ⟨fv3, ft3, (rfl : fv3 = Value.string R)⟩ := hRR 3 _ 27 rfl rfl (by kernel_rfl) (by kernel_rfl)
   replace hKK : ∀ v w', Below W.heap.size W w' → v = Value.string R → KK (Act.put fa _ v) w' := fun v w' h1 h2 => hKK v w' h1 h2
   clear hSame hRR
   rw [if_pos (wanted_plain rfl)]
   go_simp
   refine hKK _ _ ?_ ?_
   ·
    exact grP
   ·
    exact rfl
  exact ObsT.nil
 case hlast =>
  intro fa w2 d2 hSame hRR
  try dsimp only at d2
  obtain ⟨zz4, f4, rfl⟩ := hRR 4 _ 4 rfl rfl rfl
  rw [Same_shape hSame]
  simp only [List.filterMap_cons, List.filterMap_nil, List.foldl_cons, List.foldl_nil]
  have g4 : fa.tmps.getD 4 undef = Value.string R := by simp [Array.getD_eq_getD_getElem?, f4]
  rw [g4]
  generalize fa.tmps.getD 24 undef = y24
  generalize fa.tmps.getD 25 undef = y25
  generalize fa.tmps.getD 26 undef = y26
  generalize fa.tmps.getD 27 undef = y27
  clear hSame hRR f4 g4
  simp only [Act.put, List.setIfInBounds_toArray, List.set_cons_succ, List.set_cons_zero]
  have B2 := Lib.hid (below_step B1.out d2)
  go_wp2_with fail
  go_ret
  exact ⟨rfl, B2.out⟩
set_option maxHeartbeats 1000000 in
set_option maxRecDepth 100000 in
theorem qstext_p (k t n u p : Int) (z : ByteArray) (w : World) : Calls Tryz.prog 60 #[.int .i64 4, .agg #[.int .i64 k, .string z, .int .i64 t, .int .i64 n, .int .i64 u, .int .i64 p]] w fun e w' => e = .returned (.string ⟨(Qy.word Qy.pols p).toArray⟩) ∧ Below w.heap.size w w' := by
 have CU := Lib.hid (fun W => qpols_any W)
 have CW := Lib.hid (fun v W S => qword_any v Qy.pols p W S (by decide))
 generalize (⟨(Qy.word Qy.pols p).toArray⟩ : ByteArray) = R at CW ⊢
 go_enter Tryz.func60, Tryz.ntmps60
 go_upto_region 12 with (fail)
 refine wp_named ?_; intro w1 hw1
 have d1 : Below w.heap.size w w1 := by rw [hw1]; exact gr0
 have B1 := Lib.hid d1
 have X1 : Bk6 w1 w.heap.size (.int .i64 k) (.string z) (.int .i64 t) (.int .i64 n) (.int .i64 u) (.int .i64 p) := by rw [hw1]; exact ⟨by simp <;> omega, by intro j; simp [go_sem], by simp [go_sem], by simp [go_sem], by simp [go_sem], by simp [go_sem], by simp [go_sem], by simp [go_sem]⟩
 clear d1 hw1
 refine wp_region_till (R := markR [(fun v W => StS W v Qy.pols), (fun v _ => v = Value.pointer (some ⟨w.heap.size, 5, none⟩)), (fun v _ => v = Value.int .i64 p), (fun v _ => v = Value.string R), (fun v _ => v = Value.string R)]) (till := fun _ => none) (D := fun W => Below w1.heap.size w1 W) (G := fun _ W W' => Below W.heap.size W W') (by rfl) ?hbeg ⟨by kernel_rfl, by kernel_rfl, by kernel_rfl, ?hkeep, ?hstab, ObsT.all ?hobs, ?hlast⟩
 case hbeg => exact (Below.refl _ _).drew
 case hkeep => intro i w1 w2 hC hG; exact below_step hC hG
 case hstab =>
  intro i j hij ht v w1 w2 hG hm
  match j, hm with
  | 0, hm => exact (StS.on hm hG)
  | 1, hm => exact hm
  | 2, hm => exact hm
  | 3, hm => exact hm
  | 4, hm => exact hm
  | j + 5, hm => exact trivial
 case hobs =>
  refine ObsT.cons (k' := 1) rfl ?_ ?_
  ·
   intro fa W hW hSame hRR KK hKK
   try dsimp only at hW
   replace hKK : ∀ v w', Below W.heap.size W w' → (fun v W => StS W v Qy.pols) v w' → KK (Act.put fa _ v) w' := fun v w' h1 h2 => hKK v w' h1 h2
   clear hSame hRR
   rw [if_pos (wanted_plain rfl)]
   go_simp
   refine (CU.out _).mono ?_; rintro e w' ⟨v, rfl, hs, hb⟩
   exact hKK _ _ hb hs
  refine ObsT.cons (k' := 2) rfl ?_ ?_
  ·
   intro fa W hW hSame hRR KK hKK
   try dsimp only at hW
   have fb3 : fa.tmps[3]? = some (Value.pointer (some ⟨w.heap.size, 0, none⟩)) := (hSame.base 3 (by kernel_rfl)).trans (by kernel_rfl)
   replace hKK : ∀ v w', Below W.heap.size W w' → v = Value.pointer (some ⟨w.heap.size, 5, none⟩) → KK (Act.put fa _ v) w' := fun v w' h1 h2 => hKK v w' h1 h2
   have hX := X1.keep hW
   have tx := hX; obtain ⟨chb, cfz, ck0, ck1, ck2, ck3, ck4, ck5⟩ := tx
   clear hSame hRR
   rw [if_pos (wanted_plain rfl)]
   go_simp
   refine hKK _ _ ?_ ?_
   ·
    exact grP
   ·
    exact rfl
  refine ObsT.cons (k' := 3) rfl ?_ ?_
  ·
   intro fa W hW hSame hRR KK hKK
   try dsimp only at hW
   obtain ⟨fv1, ft1, (rfl : fv1 = Value.pointer (some ⟨w.heap.size, 5, none⟩))⟩ := hRR 1 _ 29 rfl rfl (by kernel_rfl) (by kernel_rfl)
   replace hKK : ∀ v w', Below W.heap.size W w' → v = Value.int .i64 p → KK (Act.put fa _ v) w' := fun v w' h1 h2 => hKK v w' h1 h2
   have hX := X1.keep hW
   have tx := hX; obtain ⟨chb, cfz, ck0, ck1, ck2, ck3, ck4, ck5⟩ := tx
   clear hSame hRR
   rw [if_pos (wanted_plain rfl)]
   go_simp
   refine hKK _ _ ?_ ?_
   ·
    exact grP
   ·
    exact rfl
  refine ObsT.cons (k' := 4) rfl ?_ ?_
  ·
   intro fa W hW hSame hRR KK hKK
   try dsimp only at hW
   obtain ⟨fv0, ft0, fs0⟩ := hRR 0 _ 28 rfl rfl (by kernel_rfl) (by kernel_rfl)
   obtain ⟨fv2, ft2, (rfl : fv2 = Value.int .i64 p)⟩ := hRR 2 _ 30 rfl rfl (by kernel_rfl) (by kernel_rfl)
   replace hKK : ∀ v w', Below W.heap.size W w' → v = Value.string R → KK (Act.put fa _ v) w' := fun v w' h1 h2 => hKK v w' h1 h2
   clear hSame hRR
   rw [if_pos (wanted_plain rfl)]
   go_simp
   refine (CW.out _ _ fs0).mono ?_; rintro e w' ⟨rfl, rfl⟩
   exact hKK _ _ (Below.refl _ _) rfl
  refine ObsT.cons (k' := 5) rfl ?_ ?_
  ·
   intro fa W hW hSame hRR KK hKK
   try dsimp only at hW
   obtain ⟨fv3, ft3, (rfl : fv3 = Value.string R)⟩ := hRR 3 _ 31 rfl rfl (by kernel_rfl) (by kernel_rfl)
   replace hKK : ∀ v w', Below W.heap.size W w' → v = Value.string R → KK (Act.put fa _ v) w' := fun v w' h1 h2 => hKK v w' h1 h2
   clear hSame hRR
   rw [if_pos (wanted_plain rfl)]
   go_simp
   refine hKK _ _ ?_ ?_
   ·
    exact grP
   ·
    exact rfl
  exact ObsT.nil
 case hlast =>
  intro fa w2 d2 hSame hRR
  try dsimp only at d2
  obtain ⟨zz4, f4, rfl⟩ := hRR 4 _ 4 rfl rfl rfl
  rw [Same_shape hSame]
  simp only [List.filterMap_cons, List.filterMap_nil, List.foldl_cons, List.foldl_nil]
  have g4 : fa.tmps.getD 4 undef = Value.string R := by simp [Array.getD_eq_getD_getElem?, f4]
  rw [g4]
  generalize fa.tmps.getD 28 undef = y28
  generalize fa.tmps.getD 29 undef = y29
  generalize fa.tmps.getD 30 undef = y30
  generalize fa.tmps.getD 31 undef = y31
  clear hSame hRR f4 g4
  simp only [Act.put, List.setIfInBounds_toArray, List.set_cons_succ, List.set_cons_zero]
  have B2 := Lib.hid (below_step B1.out d2)
  go_wp2_with fail
  go_ret
  exact ⟨rfl, B2.out⟩
end Go.Proofs.YtbcbggdbojonmaaGreatDoor
