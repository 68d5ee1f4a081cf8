/- Joined: PairT, QyD, QyE, QyF. -/
import Derived.Test.YtbcbggdbojonmaaGreatDoorBy11
import Derived.Test.YtbcbggdbojonmaaGreatDoorBy01
import Derived.Laws.AppendOwn
namespace Go.Pairs
open Go
section
variable (P : Program) (l : List Oper) (R : Nat → Value → World → Prop) (till : Nat → Option Nat) (D : World → Prop) (G : Nat → World → World → Prop) (Q : Exit → Act → World → Prop) (a0 : Act)
def CT (ld : Nat → Bool) (a : Act) (w : World) : Prop :=
 D w ∧ Same l a0 a ∧ ∀ j oj d, l[j]? = some oj → oj.dst = some d → ld j = true → (∀ t, till j = some t → ld t = false) → ∃ v, a.tmps[d]? = some v ∧ R j v w
def liveB (till : Nat → Option Nat) (l : List Oper) (i j : Nat) : Bool :=
 match till j with
 | none => true
 | some t => t == i || (match l[t]? with | some ot => waitsB ot i | none => false)
def ObT (i : Nat) (o : Oper) : Prop :=
 ∀ a w, D w → Same l a0 a → (∀ j oj d, l[j]? = some oj → oj.dst = some d → waitsB o j = true → liveB till l i j = true → ∃ v, a.tmps[d]? = some v ∧ R j v w) →
  ∀ K : Act → World → Prop, (∀ v w', G i w w' → R i v w' → K (a.put o.dst v) w') → if Region.wanted o (yielded l.toArray a.tmps) = true then o.wp P a w K Q else K (a.put o.dst undef) w
structure GoodT : Prop where
 nodup : nodupB (l.filterMap (·.dst)) = true
 on : onB 0 l = true
 inside : insideB a0.tmps.size l = true
 keep : ∀ i w w', D w → G i w w' → D w'
 stable : ∀ i j, i ≠ j → till j ≠ some i → ∀ v w w', G i w w' → R j v w → R j v w'
 ob : ∀ i o, l[i]? = some o → ObT P l R till D G Q a0 i o
 last : ∀ a w, D w → Same l a0 a → (∀ j oj d, l[j]? = some oj → oj.dst = some d → till j = none → ∃ v, a.tmps[d]? = some v ∧ R j v w) → Q .normal a w
variable {P l R till D G Q a0}
theorem live_at {i j : Nat} (h : liveB till l i j = true) : ∀ t, till j = some t → t = i ∨ ∃ ot, l[t]? = some ot ∧ waitsB ot i = true := by
 intro t ht
 unfold liveB at h
 rw [ht] at h
 simp only [Bool.or_eq_true, beq_iff_eq] at h
 rcases h with h | h
 ·
  exact Or.inl h
 ·
  cases hlt : l[t]? with
  | none => rw [hlt] at h; cases h
  | some ot => rw [hlt] at h; exact Or.inr ⟨ot, rfl, h⟩
theorem GoodT.goodF (h : GoodT P l R till D G Q a0) : GoodF P l (CT l R till D a0) Q a0 where
 on := h.on
 ob := fun i o ho ld a w hC hif hw hcl hS K hK => by
  refine h.ob i o ho a w hC.1 hC.2.1 (fun j oj d hj hd hwj hlv => ?_) K fun v w' hG hRv => hK _ _ ⟨h.keep _ _ _ hC.1 hG, hS.put ho v, ?_⟩
  ·
   refine hC.2.2 j oj d hj hd (hw j hwj) fun t ht => ?_
   rcases live_at hlv t ht with e | ⟨ot, e1, e2⟩
   ·
    subst e; exact hif
   ·
    rcases hb : ld t with _ | _
    ·
     rfl
    ·
     have := hcl t ot i e1 hb e2
     rw [hif] at this; cases this
  ·
   intro j oj d hj hd hl htl
   unfold come at hl htl
   by_cases hij : j = i
   ·
    subst hij
    obtain rfl : o = oj := by rw [ho] at hj; exact Option.some.inj hj
    rw [hd, put_same (by rw [hS.size]; exact inside_at h.inside hj hd)]
    exact ⟨_, rfl, hRv⟩
   ·
    rw [if_neg hij] at hl
    rw [put_other (fun he => hij (nodup_at h.nodup ho hj he hd).symm)]
    obtain ⟨v', h1, h2⟩ := hC.2.2 j oj d hj hd hl fun t ht => by
     have := htl t ht
     by_cases hti : t = i
     ·
      rw [if_pos hti] at this; cases this
     ·
      rwa [if_neg hti] at this
    refine ⟨v', h1, h.stable i j (fun e => hij e.symm) (fun e => ?_) _ _ _ hG h2⟩
    have := htl i e
    rw [if_pos rfl] at this; cases this
 last := fun ld a w hC hall hS => h.last a w hC.1 hS fun j oj d hj hd htl =>
  hC.2.2 j oj d hj hd (hall j (List.getElem?_eq_some_iff.1 hj).1) fun t ht => by rw [htl] at ht; cases ht
theorem wp_region_till {id : Nat} {w : World} (hm : P.follows .mixedOrders = true) (hD : D w.drew) (h : GoodT P l R till D G Q a0) : (Code.region id l.toArray true).wp P Q a0 w :=
 wp_region_frame (C := CT l R till D a0) hm ⟨hD, ⟨rfl, rfl, fun _ _ => rfl⟩, fun _ _ _ _ _ hl => by cases hl⟩ h.goodF
def ObsT (P : Program) (l : List Oper) (R : Nat → Value → World → Prop) (till : Nat → Option Nat) (D : World → Prop) (G : Nat → World → World → Prop) (Q : Exit → Act → World → Prop) (a0 : Act) : Nat → List Oper → Prop
 | _, [] => True
 | k, o :: os => ObT P l R till D G Q a0 k o ∧ ObsT P l R till D G Q a0 (k + 1) os
theorem ObsT.at : ∀ {os : List Oper} {k : Nat}, ObsT P l R till D G Q a0 k os → ∀ i o, os[i]? = some o → ObT P l R till D G Q a0 (k + i) o := by
 intro os
 induction os with
 | nil => intro k _ i o h; simp at h
 | cons x os ih =>
  intro k h i o hi
  cases i with
  | zero => simp at hi; subst hi; exact h.1
  | succ i => simp at hi; have := ih h.2 i o hi; rw [show k + (i + 1) = k + 1 + i by omega]; exact this
theorem ObsT.all (h : ObsT P l R till D G Q a0 0 l) : ∀ i o, l[i]? = some o → ObT P l R till D G Q a0 i o := fun i o hi => by
 have := h.at i o hi
 rwa [Nat.zero_add] at this
theorem ObsT.nil {k : Nat} : ObsT P l R till D G Q a0 k [] := trivial
theorem ObsT.cons {k k' : Nat} {o : Oper} {os : List Oper} (hk : k + 1 = k') (h : ObT P l R till D G Q a0 k o) (hs : ObsT P l R till D G Q a0 k' os) : ObsT P l R till D G Q a0 k (o :: os) := ⟨h, hk ▸ hs⟩
end
theorem shape_ds (x : Nat → Value) : ∀ (ds : List Nat) (b : Act) (tm : Array Value), b.tmps.size = tm.size → (∀ i, i < tm.size → tm[i]? = some (x i)) → (∀ i, ds.contains i = false → tm[i]? = b.tmps[i]?) →
  (ds.foldl (fun b d => b.put (some d) (x d)) b).tmps = tm ∧ (ds.foldl (fun b d => b.put (some d) (x d)) b).defers = b.defers := by
 intro ds
 induction ds with
 | nil => intro b tm hs hx h; exact ⟨Array.ext_getElem? (fun i => (h i rfl).symm), rfl⟩
 | cons d ds ih =>
  intro b tm hs hx h
  have := ih (b.put (some d) (x d)) tm (by simpa [Act.put] using hs) hx (fun i hi => by
   by_cases e : i = d
   ·
    subst e
    by_cases hlt : i < tm.size
    ·
     rw [put_same (a := b) (by rw [hs]; exact hlt)]; exact hx i hlt
    ·
     rw [Array.getElem?_eq_none (by omega), Array.getElem?_eq_none (by simp [Act.put]; omega)]
   ·
    rw [put_other (by simpa using fun e' => e e'.symm)]
    exact h i (by simpa [e] using hi))
  exact ⟨this.1, this.2⟩
theorem Same_shape {l : List Oper} {a0 a : Act} (h : Same l a0 a) : a = (l.filterMap (·.dst)).foldl (fun b d => b.put (some d) (a.tmps.getD d undef)) a0 := by
 obtain ⟨h1, h2⟩ := shape_ds (fun d => a.tmps.getD d undef) (l.filterMap (·.dst)) a0 a.tmps h.size.symm (fun i hi => by simp [hi]) h.base
 obtain ⟨tm, df⟩ := a
 have := h.defers
 generalize List.foldl _ _ _ = z at *
 obtain ⟨zt, zd⟩ := z
 dsimp only at h1 h2 this ⊢
 subst h1; subst h2; rw [this]
end Go.Pairs
set_option linter.unusedVariables false
set_option linter.unusedSimpArgs false
namespace Go.Proofs.YtbcbggdbojonmaaGreatDoor
open Go.RowKit Go.Sort Go.Pairs
set_option maxHeartbeats 1000000 in
set_option maxRecDepth 100000 in
theorem qstext_z (k t n u p : Int) (z : ByteArray) (w : World) : Calls Tryz.prog 60 #[.int .i64 0, .agg #[.int .i64 k, .string z, .int .i64 t, .int .i64 n, .int .i64 u, .int .i64 p]] w fun e w' => e = .returned (.string z) ∧ Below w.heap.size w w' := by
 go_enter Tryz.func60, Tryz.ntmps60
 go_wp2_with fail
 go_ret
 exact ⟨rfl, gr0⟩
set_option maxHeartbeats 1000000 in
set_option maxRecDepth 100000 in
theorem qstext_t1 (k t n u p : Int) (z : ByteArray) (w : World) (h : An.bd t) (T : Lib.TabIs Tryz.prog w "internal/strconv.uint64pow10" .u64 Lib.pow10Tab) : Calls Tryz.prog 60 #[.int .i64 1, .agg #[.int .i64 k, .string z, .int .i64 t, .int .i64 n, .int .i64 u, .int .i64 p]] w fun e w' => e = .returned (.string ⟨(Lib.itoa t).toArray⟩) ∧ Below w.heap.size w w' := by
 have C := Lib.hid (fun W T => text_any t W h.1 h.2 T)
 have TT := Lib.hid T
 clear T h
 generalize (⟨(Lib.itoa t).toArray⟩ : ByteArray) = R at C ⊢
 go_enter Tryz.func60, Tryz.ntmps60
 go_wp2_with fail
 refine (C.out _ (var_keep gr0 TT.out)).mono ?_; rintro e w1 ⟨rfl, b1⟩
 have B1 : Hid (Below w.heap.size w w1) := Lib.hid (below_step gr0 b1)
 clear b1
 go_wp2_with fail
 go_ret
 exact ⟨rfl, B1.out⟩
set_option maxHeartbeats 1000000 in
set_option maxRecDepth 100000 in
theorem qstext_t5 (k t n u p : Int) (z : ByteArray) (w : World) (h : An.bd t) (T : Lib.TabIs Tryz.prog w "internal/strconv.uint64pow10" .u64 Lib.pow10Tab) : Calls Tryz.prog 60 #[.int .i64 5, .agg #[.int .i64 k, .string z, .int .i64 t, .int .i64 n, .int .i64 u, .int .i64 p]] w fun e w' => e = .returned (.string ⟨(Lib.itoa t).toArray⟩) ∧ Below w.heap.size w w' := by
 have C := Lib.hid (fun W T => text_any t W h.1 h.2 T)
 have TT := Lib.hid T
 clear T h
 generalize (⟨(Lib.itoa t).toArray⟩ : ByteArray) = R at C ⊢
 go_enter Tryz.func60, Tryz.ntmps60
 go_wp2_with fail
 refine (C.out _ (var_keep gr0 TT.out)).mono ?_; rintro e w1 ⟨rfl, b1⟩
 have B1 : Hid (Below w.heap.size w w1) := Lib.hid (below_step gr0 b1)
 clear b1
 go_wp2_with fail
 go_ret
 exact ⟨rfl, B1.out⟩
set_option maxHeartbeats 1000000 in
set_option maxRecDepth 100000 in
theorem qstext_n2 (k t n u p : Int) (z : ByteArray) (w : World) (h : An.bd n) (T : Lib.TabIs Tryz.prog w "internal/strconv.uint64pow10" .u64 Lib.pow10Tab) : Calls Tryz.prog 60 #[.int .i64 2, .agg #[.int .i64 k, .string z, .int .i64 t, .int .i64 n, .int .i64 u, .int .i64 p]] w fun e w' => e = .returned (.string ⟨(Lib.itoa n).toArray⟩) ∧ Below w.heap.size w w' := by
 have C := Lib.hid (fun W T => text_any n W h.1 h.2 T)
 have TT := Lib.hid T
 clear T h
 generalize (⟨(Lib.itoa n).toArray⟩ : ByteArray) = R at C ⊢
 go_enter Tryz.func60, Tryz.ntmps60
 go_wp2_with fail
 refine (C.out _ (var_keep gr0 TT.out)).mono ?_; rintro e w1 ⟨rfl, b1⟩
 have B1 : Hid (Below w.heap.size w w1) := Lib.hid (below_step gr0 b1)
 clear b1
 go_wp2_with fail
 go_ret
 exact ⟨rfl, B1.out⟩
set_option maxHeartbeats 1000000 in
set_option maxRecDepth 100000 in
theorem qstext_n6 (k t n u p : Int) (z : ByteArray) (w : World) (h : An.bd n) (T : Lib.TabIs Tryz.prog w "internal/strconv.uint64pow10" .u64 Lib.pow10Tab) : Calls Tryz.prog 60 #[.int .i64 6, .agg #[.int .i64 k, .string z, .int .i64 t, .int .i64 n, .int .i64 u, .int .i64 p]] w fun e w' => e = .returned (.string ⟨(Lib.itoa n).toArray⟩) ∧ Below w.heap.size w w' := by
 have C := Lib.hid (fun W T => text_any n W h.1 h.2 T)
 have TT := Lib.hid T
 clear T h
 generalize (⟨(Lib.itoa n).toArray⟩ : ByteArray) = R at C ⊢
 go_enter Tryz.func60, Tryz.ntmps60
 go_wp2_with fail
 refine (C.out _ (var_keep gr0 TT.out)).mono ?_; rintro e w1 ⟨rfl, b1⟩
 have B1 : Hid (Below w.heap.size w w1) := Lib.hid (below_step gr0 b1)
 clear b1
 go_wp2_with fail
 go_ret
 exact ⟨rfl, B1.out⟩
set_option maxHeartbeats 1000000 in
set_option maxRecDepth 100000 in
theorem qstext_u (k t n u p : Int) (z : ByteArray) (w : World) : Calls Tryz.prog 60 #[.int .i64 3, .agg #[.int .i64 k, .string z, .int .i64 t, .int .i64 n, .int .i64 u, .int .i64 p]] w fun e w' => e = .returned (.string ⟨(Qy.word Qy.units u).toArray⟩) ∧ Below w.heap.size w w' := by
 have CU := Lib.hid (fun W => qunits_any W)
 have CW := Lib.hid (fun v W S => qword_any v Qy.units u W S (by decide))
 generalize (⟨(Qy.word Qy.units u).toArray⟩ : ByteArray) = R at CW ⊢
 go_enter Tryz.func60, Tryz.ntmps60
 go_upto_region 11 with (fail)
 refine wp_named ?_; intro w1 hw1
 have d1 : Below w.heap.size w w1 := by rw [hw1]; exact gr0
 have B1 := Lib.hid d1
 have X1 : Bk6 w1 w.heap.size (.int .i64 k) (.string z) (.int .i64 t) (.int .i64 n) (.int .i64 u) (.int .i64 p) := by rw [hw1]; exact ⟨by simp <;> omega, by intro j; simp [go_sem], by simp [go_sem], by simp [go_sem], by simp [go_sem], by simp [go_sem], by simp [go_sem], by simp [go_sem]⟩
 clear d1 hw1
 refine wp_region_till (R := markR [(fun v W => StS W v Qy.units), (fun v _ => v = Value.pointer (some ⟨w.heap.size, 4, none⟩)), (fun v _ => v = Value.int .i64 u), (fun v _ => v = Value.string R), (fun v _ => v = Value.string R)]) (till := fun _ => none) (D := fun W => Below w1.heap.size w1 W) (G := fun _ W W' => Below W.heap.size W W') (by rfl) ?hbeg ⟨by kernel_rfl, by kernel_rfl, by kernel_rfl, ?hkeep, ?hstab, ObsT.all ?hobs, ?hlast⟩
 case hbeg => exact (Below.refl _ _).drew
 case hkeep => intro i w1 w2 hC hG; exact below_step hC hG
 case hstab =>
  intro i j hij ht v w1 w2 hG hm
  match j, hm with
  | 0, hm => exact (StS.on hm hG)
  | 1, hm => exact hm
  | 2, hm => exact hm
  | 3, hm => exact hm
  | 4, hm => exact hm
  | j + 5, hm => exact trivial
 case hobs =>
  refine ObsT.cons (k' := 1) rfl ?_ ?_
  ·
   intro fa W hW hSame hRR KK hKK
   try dsimp only at hW
   replace hKK : ∀ v w', Below W.heap.size W w' → (fun v W => StS W v Qy.units) v w' → KK (Act.put fa _ v) w' := fun v w' h1 h2 => hKK v w' h1 h2
   clear hSame hRR
   rw [if_pos (wanted_plain rfl)]
   go_simp
   refine (CU.out _).mono ?_; rintro e w' ⟨v, rfl, hs, hb⟩
   exact hKK _ _ hb hs
  refine ObsT.cons (k' := 2) rfl ?_ ?_
  ·
   intro fa W hW hSame hRR KK hKK
   try dsimp only at hW
   have fb3 : fa.tmps[3]? = some (Value.pointer (some ⟨w.heap.size, 0, none⟩)) := (hSame.base 3 (by kernel_rfl)).trans (by kernel_rfl)
   replace hKK : ∀ v w', Below W.heap.size W w' → v = Value.pointer (some ⟨w.heap.size, 4, none⟩) → KK (Act.put fa _ v) w' := fun v w' h1 h2 => hKK v w' h1 h2
   have hX := X1.keep hW
   have tx := hX; obtain ⟨chb, cfz, ck0, ck1, ck2, ck3, ck4, ck5⟩ := tx
   clear hSame hRR
   rw [if_pos (wanted_plain rfl)]
   go_simp
   refine hKK _ _ ?_ ?_
   ·
    exact grP
   ·
    exact rfl
  refine ObsT.cons (k' := 3) rfl ?_ ?_
  ·
   intro fa W hW hSame hRR KK hKK
   try dsimp only at hW
   obtain ⟨fv1, ft1, (rfl : fv1 = Value.pointer (some ⟨w.heap.size, 4, none⟩))⟩ := hRR 1 _ 25 rfl rfl (by kernel_rfl) (by kernel_rfl)
   replace hKK : ∀ v w', Below W.heap.size W w' → v = Value.int .i64 u → KK (Act.put fa _ v) w' := fun v w' h1 h2 => hKK v w' h1 h2
   have hX := X1.keep hW
   have tx := hX; obtain ⟨chb, cfz, ck0, ck1, ck2, ck3, ck4, ck5⟩ := tx
   clear hSame hRR
   rw [if_pos (wanted_plain rfl)]
   go_simp
   refine hKK _ _ ?_ ?_
   ·
    exact grP
   ·
    exact rfl
  refine ObsT.cons (k' := 4) rfl ?_ ?_
  ·
   intro fa W hW hSame hRR KK hKK
   try dsimp only at hW
   obtain ⟨fv0, ft0, fs0⟩ := hRR 0 _ 24 rfl rfl (by kernel_rfl) (by kernel_rfl)
   obtain ⟨fv2, ft2, (rfl : fv2 = Value.int .i64 u)⟩ := hRR 2 _ 26 rfl rfl (by kernel_rfl) (by kernel_rfl)
   replace hKK : ∀ v w', Below W.heap.size W w' → v = Value.string R → KK (Act.put fa _ v) w' := fun v w' h1 h2 => hKK v w' h1 h2
   clear hSame hRR
   rw [if_pos (wanted_plain rfl)]
   go_simp
   refine (CW.out _ _ fs0).mono ?_; rintro e w' ⟨rfl, rfl⟩
   exact hKK _ _ (Below.refl _ _) rfl
  refine ObsT.cons (k' := 5) rfl ?_ ?_
  ·
   intro fa W hW hSame hRR KK hKK
   try dsimp only at hW
   obtain ⟨fv3, ft3, (rfl : fv3 = Value.string R)⟩ := hRR 3 _ 27 rfl rfl (by kernel_rfl) (by kernel_rfl)
   replace hKK : ∀ v w', Below W.heap.size W w' → v = Value.string R → KK (Act.put fa _ v) w' := fun v w' h1 h2 => hKK v w' h1 h2
   clear hSame hRR
   rw [if_pos (wanted_plain rfl)]
   go_simp
   refine hKK _ _ ?_ ?_
   ·
    exact grP
   ·
    exact rfl
  exact ObsT.nil
 case hlast =>
  intro fa w2 d2 hSame hRR
  try dsimp only at d2
  obtain ⟨zz4, f4, rfl⟩ := hRR 4 _ 4 rfl rfl rfl
  rw [Same_shape hSame]
  simp only [List.filterMap_cons, List.filterMap_nil, List.foldl_cons, List.foldl_nil]
  have g4 : fa.tmps.getD 4 undef = Value.string R := by simp [Array.getD_eq_getD_getElem?, f4]
  rw [g4]
  generalize fa.tmps.getD 24 undef = y24
  generalize fa.tmps.getD 25 undef = y25
  generalize fa.tmps.getD 26 undef = y26
  generalize fa.tmps.getD 27 undef = y27
  clear hSame hRR f4 g4
  simp only [Act.put, List.setIfInBounds_toArray, List.set_cons_succ, List.set_cons_zero]
  have B2 := Lib.hid (below_step B1.out d2)
  go_wp2_with fail
  go_ret
  exact ⟨rfl, B2.out⟩
set_option maxHeartbeats 1000000 in
set_option maxRecDepth 100000 in
theorem qstext_p (k t n u p : Int) (z : ByteArray) (w : World) : Calls Tryz.prog 60 #[.int .i64 4, .agg #[.int .i64 k, .string z, .int .i64 t, .int .i64 n, .int .i64 u, .int .i64 p]] w fun e w' => e = .returned (.string ⟨(Qy.word Qy.pols p).toArray⟩) ∧ Below w.heap.size w w' := by
 have CU := Lib.hid (fun W => qpols_any W)
 have CW := Lib.hid (fun v W S => qword_any v Qy.pols p W S (by decide))
 generalize (⟨(Qy.word Qy.pols p).toArray⟩ : ByteArray) = R at CW ⊢
 go_enter Tryz.func60, Tryz.ntmps60
 go_upto_region 12 with (fail)
 refine wp_named ?_; intro w1 hw1
 have d1 : Below w.heap.size w w1 := by rw [hw1]; exact gr0
 have B1 := Lib.hid d1
 have X1 : Bk6 w1 w.heap.size (.int .i64 k) (.string z) (.int .i64 t) (.int .i64 n) (.int .i64 u) (.int .i64 p) := by rw [hw1]; exact ⟨by simp <;> omega, by intro j; simp [go_sem], by simp [go_sem], by simp [go_sem], by simp [go_sem], by simp [go_sem], by simp [go_sem], by simp [go_sem]⟩
 clear d1 hw1
 refine wp_region_till (R := markR [(fun v W => StS W v Qy.pols), (fun v _ => v = Value.pointer (some ⟨w.heap.size, 5, none⟩)), (fun v _ => v = Value.int .i64 p), (fun v _ => v = Value.string R), (fun v _ => v = Value.string R)]) (till := fun _ => none) (D := fun W => Below w1.heap.size w1 W) (G := fun _ W W' => Below W.heap.size W W') (by rfl) ?hbeg ⟨by kernel_rfl, by kernel_rfl, by kernel_rfl, ?hkeep, ?hstab, ObsT.all ?hobs, ?hlast⟩
 case hbeg => exact (Below.refl _ _).drew
 case hkeep => intro i w1 w2 hC hG; exact below_step hC hG
 case hstab =>
  intro i j hij ht v w1 w2 hG hm
  match j, hm with
  | 0, hm => exact (StS.on hm hG)
  | 1, hm => exact hm
  | 2, hm => exact hm
  | 3, hm => exact hm
  | 4, hm => exact hm
  | j + 5, hm => exact trivial
 case hobs =>
  refine ObsT.cons (k' := 1) rfl ?_ ?_
  ·
   intro fa W hW hSame hRR KK hKK
   try dsimp only at hW
   replace hKK : ∀ v w', Below W.heap.size W w' → (fun v W => StS W v Qy.pols) v w' → KK (Act.put fa _ v) w' := fun v w' h1 h2 => hKK v w' h1 h2
   clear hSame hRR
   rw [if_pos (wanted_plain rfl)]
   go_simp
   refine (CU.out _).mono ?_; rintro e w' ⟨v, rfl, hs, hb⟩
   exact hKK _ _ hb hs
  refine ObsT.cons (k' := 2) rfl ?_ ?_
  ·
   intro fa W hW hSame hRR KK hKK
   try dsimp only at hW
   have fb3 : fa.tmps[3]? = some (Value.pointer (some ⟨w.heap.size, 0, none⟩)) := (hSame.base 3 (by kernel_rfl)).trans (by kernel_rfl)
   replace hKK : ∀ v w', Below W.heap.size W w' → v = Value.pointer (some ⟨w.heap.size, 5, none⟩) → KK (Act.put fa _ v) w' := fun v w' h1 h2 => hKK v w' h1 h2
   have hX := X1.keep hW
   have tx := hX; obtain ⟨chb, cfz, ck0, ck1, ck2, ck3, ck4, ck5⟩ := tx
   clear hSame hRR
   rw [if_pos (wanted_plain rfl)]
   go_simp
   refine hKK _ _ ?_ ?_
   ·
    exact grP
   ·
    exact rfl
  refine ObsT.cons (k' := 3) rfl ?_ ?_
  ·
   intro fa W hW hSame hRR KK hKK
   try dsimp only at hW
   obtain ⟨fv1, ft1, (rfl : fv1 = Value.pointer (some ⟨w.heap.size, 5, none⟩))⟩ := hRR 1 _ 29 rfl rfl (by kernel_rfl) (by kernel_rfl)
   replace hKK : ∀ v w', Below W.heap.size W w' → v = Value.int .i64 p → KK (Act.put fa _ v) w' := fun v w' h1 h2 => hKK v w' h1 h2
   have hX := X1.keep hW
   have tx := hX; obtain ⟨chb, cfz, ck0, ck1, ck2, ck3, ck4, ck5⟩ := tx
   clear hSame hRR
   rw [if_pos (wanted_plain rfl)]
   go_simp
   refine hKK _ _ ?_ ?_
   ·
    exact grP
   ·
    exact rfl
  refine ObsT.cons (k' := 4) rfl ?_ ?_
  ·
   intro fa W hW hSame hRR KK hKK
   try dsimp only at hW
   obtain ⟨fv0, ft0, fs0⟩ := hRR 0 _ 28 rfl rfl (by kernel_rfl) (by kernel_rfl)
   obtain ⟨fv2, ft2, (rfl : fv2 = Value.int .i64 p)⟩ := hRR 2 _ 30 rfl rfl (by kernel_rfl) (by kernel_rfl)
   replace hKK : ∀ v w', Below W.heap.size W w' → v = Value.string R → KK (Act.put fa _ v) w' := fun v w' h1 h2 => hKK v w' h1 h2
   clear hSame hRR
   rw [if_pos (wanted_plain rfl)]
   go_simp
   refine (CW.out _ _ fs0).mono ?_; rintro e w' ⟨rfl, rfl⟩
   exact hKK _ _ (Below.refl _ _) rfl
  refine ObsT.cons (k' := 5) rfl ?_ ?_
  ·
   intro fa W hW hSame hRR KK hKK
   try dsimp only at hW
   obtain ⟨fv3, ft3, (rfl : fv3 = Value.string R)⟩ := hRR 3 _ 31 rfl rfl (by kernel_rfl) (by kernel_rfl)
   replace hKK : ∀ v w', Below W.heap.size W w' → v = Value.string R → KK (Act.put fa _ v) w' := fun v w' h1 h2 => hKK v w' h1 h2
   clear hSame hRR
   rw [if_pos (wanted_plain rfl)]
   go_simp
   refine hKK _ _ ?_ ?_
   ·
    exact grP
   ·
    exact rfl
  exact ObsT.nil
 case hlast =>
  intro fa w2 d2 hSame hRR
  try dsimp only at d2
  obtain ⟨zz4, f4, rfl⟩ := hRR 4 _ 4 rfl rfl rfl
  rw [Same_shape hSame]
  simp only [List.filterMap_cons, List.filterMap_nil, List.foldl_cons, List.foldl_nil]
  have g4 : fa.tmps.getD 4 undef = Value.string R := by simp [Array.getD_eq_getD_getElem?, f4]
  rw [g4]
  generalize fa.tmps.getD 28 undef = y28
  generalize fa.tmps.getD 29 undef = y29
  generalize fa.tmps.getD 30 undef = y30
  generalize fa.tmps.getD 31 undef = y31
  clear hSame hRR f4 g4
  simp only [Act.put, List.setIfInBounds_toArray, List.set_cons_succ, List.set_cons_zero]
  have B2 := Lib.hid (below_step B1.out d2)
  go_wp2_with fail
  go_ret
  exact ⟨rfl, B2.out⟩
end Go.Proofs.YtbcbggdbojonmaaGreatDoor
set_option linter.unusedVariables false
set_option linter.unusedSimpArgs false
namespace Go.Proofs.YtbcbggdbojonmaaGreatDoor
open Go.RowKit Go.Sort
def AnsSt (b c : Nat) (v : Value) (y : Int) (w : World) (e : Ending) (w' : World) : Prop := (y = 0 ∧ e = .returned (.tuple #[]) ∧ ∃ w1, Below w.heap.size w w1 ∧ w' = w1.setCell ⟨b, c, none⟩ v) ∨ (y ≠ 0 ∧ e = .panicked (gvP y) ∧ Below w.heap.size w w')
set_option maxHeartbeats 1000000 in
set_option maxRecDepth 100000 in
theorem qsread_z (b : Nat) (v0 v1 v2 v3 v4 v5 : Value) (s : ByteArray) (w : World) (X : Bk6 w b v0 v1 v2 v3 v4 v5) (hs : s.size ≤ 1000) :
  Calls Tryz.prog 48 #[.int .i64 0, .pointer (some ⟨b, 0, none⟩), .string s] w (AnsSt b 1 (.string s) (Lk.nm s.data.toList) w) := by
 have C := Lib.hid (fun W => rname_any s W (by unfold maxLen; omega))
 generalize Lk.nm s.data.toList = y at C ⊢
 by_cases h : y = 0
 ·
  subst h
  go_enter Tryz.func48, Tryz.ntmps48
  go_wp2_with fail
  refine (C.out _).mono ?_; rintro e w1 ⟨rfl, rfl⟩
  go_wp2_with fail
  refine (for_yes _).mono ?_; rintro e w1 ⟨rfl, rfl⟩
  have X1 := X.keep (Below.refl w.heap.size w)
  have cb := X1.hb; have cf := X1.fz; have c0 := X1.k0; have c1 := X1.k1; have c2 := X1.k2; have c3 := X1.k3; have c4 := X1.k4; have c5 := X1.k5
  have BX := Lib.hid ((Below.refl w.heap.size w))
  clear X1
  go_wp2_with fail
  exact bodyPost_ret (v := .tuple #[]) (by simp [results, Tryz.results48, go_sem]) rfl (.inl ⟨rfl, rfl, _, BX.out, rfl⟩)
 ·
  go_enter Tryz.func48, Tryz.ntmps48
  go_wp2_with fail
  refine (C.out _).mono ?_; rintro e w1 ⟨rfl, rfl⟩
  go_wp2_with fail
  refine (for_no _ _ h).mono ?_; rintro e w1 ⟨rfl, rfl⟩
  refine (show bodyPost _ _ _ (Exit.panic (gvP _)) _ _ from ?_)
  simp only [bodyPost]
  exact ⟨trivial, .inr ⟨h, by first | rfl | trivial, Below.refl _ _⟩⟩
set_option maxHeartbeats 1000000 in
set_option maxRecDepth 100000 in
theorem qsread_s (b : Nat) (v0 v1 v2 v3 v4 v5 : Value) (s : ByteArray) (w : World) (X : Bk6 w b v0 v1 v2 v3 v4 v5) (hs : s.size ≤ 1000) (tp : TypeId) (pp : Value) (hvar : w.var? Tryz.prog "strconv.ErrRange" = some #[.iface tp pp]) :
  Calls Tryz.prog 48 #[.int .i64 1, .pointer (some ⟨b, 0, none⟩), .string s] w (AnsSt b 2 (.int .i64 (Qy.sc s.data.toList).1) ((Qy.sc s.data.toList).2) w) := by
 have C := Lib.hid (qsecond_any s w hs tp pp hvar)
 generalize Qy.sc s.data.toList = q at C ⊢
 obtain ⟨n, y⟩ := q
 clear hvar
 go_enter Tryz.func48, Tryz.ntmps48
 go_wp2_with fail
 refine C.out.mono ?_; rintro e w1 ⟨b1, ⟨h0, rfl⟩ | ⟨h0, rfl⟩⟩
 ·
  have X1 := X.keep b1
  have cb := X1.hb; have cf := X1.fz; have c0 := X1.k0; have c1 := X1.k1; have c2 := X1.k2; have c3 := X1.k3; have c4 := X1.k4; have c5 := X1.k5
  have BX := Lib.hid (b1)
  clear X1
  clear b1
  go_wp2_with fail
  exact bodyPost_ret (v := .tuple #[]) (by simp [results, Tryz.results48, go_sem]) rfl (.inl ⟨h0, rfl, _, BX.out, rfl⟩)
 ·
  have B1 := Lib.hid b1
  refine (show bodyPost _ _ _ (Exit.panic (gvP _)) _ _ from ?_)
  simp only [bodyPost]
  exact ⟨trivial, .inr ⟨h0, by first | rfl | trivial, B1.out⟩⟩
set_option maxHeartbeats 1000000 in
set_option maxRecDepth 100000 in
theorem qsread_n5 (b : Nat) (v0 v1 v2 v3 v4 v5 : Value) (s : ByteArray) (w : World) (X : Bk6 w b v0 v1 v2 v3 v4 v5) (hs : s.size ≤ 1000) (tp : TypeId) (pp : Value) (hvar : w.var? Tryz.prog "strconv.ErrRange" = some #[.iface tp pp]) :
  Calls Tryz.prog 48 #[.int .i64 5, .pointer (some ⟨b, 0, none⟩), .string s] w (AnsSt b 2 (.int .i64 (Num.rd s.data.toList).1) ((Num.rd s.data.toList).2) w) := by
 have C := Lib.hid (qy_read s w (by omega) tp pp hvar)
 generalize Num.rd s.data.toList = q at C ⊢
 obtain ⟨n, y⟩ := q
 have MU := Lib.hid (fun W => must64_ans n y W)
 clear hvar
 go_enter Tryz.func48, Tryz.ntmps48
 go_wp2_with fail
 refine C.out.mono ?_; rintro e w1 ⟨rfl, b1⟩
 go_wp2_with fail
 refine (MU.out _).mono ?_; rintro e w2 ⟨b2, ⟨h0, rfl⟩ | ⟨h0, rfl⟩⟩
 ·
  have d2 := below_step b1 b2
  have X2 := X.keep d2
  have cb := X2.hb; have cf := X2.fz; have c0 := X2.k0; have c1 := X2.k1; have c2 := X2.k2; have c3 := X2.k3; have c4 := X2.k4; have c5 := X2.k5
  have BX := Lib.hid (d2)
  clear X2
  clear d2 b1 b2
  go_wp2_with fail
  exact bodyPost_ret (v := .tuple #[]) (by simp [results, Tryz.results48, go_sem]) rfl (.inl ⟨h0, rfl, _, BX.out, rfl⟩)
 ·
  have B2 := Lib.hid (below_step b1 b2)
  refine (show bodyPost _ _ _ (Exit.panic (gvP _)) _ _ from ?_)
  simp only [bodyPost]
  exact ⟨trivial, .inr ⟨h0, by first | rfl | trivial, B2.out⟩⟩
set_option maxHeartbeats 1000000 in
set_option maxRecDepth 100000 in
theorem qsread_n2 (b : Nat) (v0 v1 v2 v3 v4 v5 : Value) (s : ByteArray) (w : World) (X : Bk6 w b v0 v1 v2 v3 v4 v5) (hs : s.size ≤ 1000) (tp : TypeId) (pp : Value) (hvar : w.var? Tryz.prog "strconv.ErrRange" = some #[.iface tp pp]) :
  Calls Tryz.prog 48 #[.int .i64 2, .pointer (some ⟨b, 0, none⟩), .string s] w (AnsSt b 3 (.int .i64 (Num.rd s.data.toList).1) ((Num.rd s.data.toList).2) w) := by
 have C := Lib.hid (qy_read s w (by omega) tp pp hvar)
 generalize Num.rd s.data.toList = q at C ⊢
 obtain ⟨n, y⟩ := q
 have MU := Lib.hid (fun W => must64_ans n y W)
 clear hvar
 go_enter Tryz.func48, Tryz.ntmps48
 go_wp2_with fail
 refine C.out.mono ?_; rintro e w1 ⟨rfl, b1⟩
 go_wp2_with fail
 refine (MU.out _).mono ?_; rintro e w2 ⟨b2, ⟨h0, rfl⟩ | ⟨h0, rfl⟩⟩
 ·
  have d2 := below_step b1 b2
  have X2 := X.keep d2
  have cb := X2.hb; have cf := X2.fz; have c0 := X2.k0; have c1 := X2.k1; have c2 := X2.k2; have c3 := X2.k3; have c4 := X2.k4; have c5 := X2.k5
  have BX := Lib.hid (d2)
  clear X2
  clear d2 b1 b2
  go_wp2_with fail
  exact bodyPost_ret (v := .tuple #[]) (by simp [results, Tryz.results48, go_sem]) rfl (.inl ⟨h0, rfl, _, BX.out, rfl⟩)
 ·
  have B2 := Lib.hid (below_step b1 b2)
  refine (show bodyPost _ _ _ (Exit.panic (gvP _)) _ _ from ?_)
  simp only [bodyPost]
  exact ⟨trivial, .inr ⟨h0, by first | rfl | trivial, B2.out⟩⟩
set_option maxHeartbeats 1000000 in
set_option maxRecDepth 100000 in
theorem qsread_n6 (b : Nat) (v0 v1 v2 v3 v4 v5 : Value) (s : ByteArray) (w : World) (X : Bk6 w b v0 v1 v2 v3 v4 v5) (hs : s.size ≤ 1000) (tp : TypeId) (pp : Value) (hvar : w.var? Tryz.prog "strconv.ErrRange" = some #[.iface tp pp]) :
  Calls Tryz.prog 48 #[.int .i64 6, .pointer (some ⟨b, 0, none⟩), .string s] w (AnsSt b 3 (.int .i64 (Num.rd s.data.toList).1) ((Num.rd s.data.toList).2) w) := by
 have C := Lib.hid (qy_read s w (by omega) tp pp hvar)
 generalize Num.rd s.data.toList = q at C ⊢
 obtain ⟨n, y⟩ := q
 have MU := Lib.hid (fun W => must64_ans n y W)
 clear hvar
 go_enter Tryz.func48, Tryz.ntmps48
 go_wp2_with fail
 refine C.out.mono ?_; rintro e w1 ⟨rfl, b1⟩
 go_wp2_with fail
 refine (MU.out _).mono ?_; rintro e w2 ⟨b2, ⟨h0, rfl⟩ | ⟨h0, rfl⟩⟩
 ·
  have d2 := below_step b1 b2
  have X2 := X.keep d2
  have cb := X2.hb; have cf := X2.fz; have c0 := X2.k0; have c1 := X2.k1; have c2 := X2.k2; have c3 := X2.k3; have c4 := X2.k4; have c5 := X2.k5
  have BX := Lib.hid (d2)
  clear X2
  clear d2 b1 b2
  go_wp2_with fail
  exact bodyPost_ret (v := .tuple #[]) (by simp [results, Tryz.results48, go_sem]) rfl (.inl ⟨h0, rfl, _, BX.out, rfl⟩)
 ·
  have B2 := Lib.hid (below_step b1 b2)
  refine (show bodyPost _ _ _ (Exit.panic (gvP _)) _ _ from ?_)
  simp only [bodyPost]
  exact ⟨trivial, .inr ⟨h0, by first | rfl | trivial, B2.out⟩⟩
set_option maxHeartbeats 1000000 in
set_option maxRecDepth 100000 in
theorem qsread_u (b : Nat) (v0 v1 v2 v3 v4 v5 : Value) (s : ByteArray) (w : World) (X : Bk6 w b v0 v1 v2 v3 v4 v5) (hs : s.size ≤ 1000) :
  Calls Tryz.prog 48 #[.int .i64 3, .pointer (some ⟨b, 0, none⟩), .string s] w (AnsSt b 4 (.int .i64 ((Wd.mat s.data.toList Qy.units).1 + 1)) ((Wd.mat s.data.toList Qy.units).2) w) := by
 have CU := Lib.hid (fun W => qunits_any W)
 have CM := Lib.hid (fun v W S => qmeant_any s v Qy.units W S hs (by decide) (by decide))
 generalize Wd.mat s.data.toList Qy.units = q at CM ⊢
 obtain ⟨n, y⟩ := q
 dsimp only at CM ⊢
 generalize n + 1 = n1 at CM ⊢
 go_enter Tryz.func48, Tryz.ntmps48
 go_wp2_with fail
 refine (CU.out _).mono ?_; rintro e w1 ⟨v, rfl, hv, b1⟩
 go_wp2_with fail
 refine (CM.out _ _ hv).mono ?_; rintro e w2 ⟨b2, ⟨h0, rfl⟩ | ⟨h0, rfl⟩⟩
 ·
  have d2 := below_step b1 b2
  have X2 := X.keep d2
  have cb := X2.hb; have cf := X2.fz; have c0 := X2.k0; have c1 := X2.k1; have c2 := X2.k2; have c3 := X2.k3; have c4 := X2.k4; have c5 := X2.k5
  have BX := Lib.hid (d2)
  clear X2
  clear d2 b1 b2 hv
  go_wp2_with fail
  exact bodyPost_ret (v := .tuple #[]) (by simp [results, Tryz.results48, go_sem]) rfl (.inl ⟨h0, rfl, _, BX.out, rfl⟩)
 ·
  have B2 := Lib.hid (below_step b1 b2)
  refine (show bodyPost _ _ _ (Exit.panic (gvP _)) _ _ from ?_)
  simp only [bodyPost]
  exact ⟨trivial, .inr ⟨h0, by first | rfl | trivial, B2.out⟩⟩
set_option maxHeartbeats 1000000 in
set_option maxRecDepth 100000 in
theorem qsread_p (b : Nat) (v0 v1 v2 v3 v4 v5 : Value) (s : ByteArray) (w : World) (X : Bk6 w b v0 v1 v2 v3 v4 v5) (hs : s.size ≤ 1000) :
  Calls Tryz.prog 48 #[.int .i64 4, .pointer (some ⟨b, 0, none⟩), .string s] w (AnsSt b 5 (.int .i64 ((Wd.mat s.data.toList Qy.pols).1 + 1)) ((Wd.mat s.data.toList Qy.pols).2) w) := by
 have CU := Lib.hid (fun W => qpols_any W)
 have CM := Lib.hid (fun v W S => qmeant_any s v Qy.pols W S hs (by decide) (by decide))
 generalize Wd.mat s.data.toList Qy.pols = q at CM ⊢
 obtain ⟨n, y⟩ := q
 dsimp only at CM ⊢
 generalize n + 1 = n1 at CM ⊢
 go_enter Tryz.func48, Tryz.ntmps48
 go_wp2_with fail
 refine (CU.out _).mono ?_; rintro e w1 ⟨v, rfl, hv, b1⟩
 go_wp2_with fail
 refine (CM.out _ _ hv).mono ?_; rintro e w2 ⟨b2, ⟨h0, rfl⟩ | ⟨h0, rfl⟩⟩
 ·
  have d2 := below_step b1 b2
  have X2 := X.keep d2
  have cb := X2.hb; have cf := X2.fz; have c0 := X2.k0; have c1 := X2.k1; have c2 := X2.k2; have c3 := X2.k3; have c4 := X2.k4; have c5 := X2.k5
  have BX := Lib.hid (d2)
  clear X2
  clear d2 b1 b2 hv
  go_wp2_with fail
  exact bodyPost_ret (v := .tuple #[]) (by simp [results, Tryz.results48, go_sem]) rfl (.inl ⟨h0, rfl, _, BX.out, rfl⟩)
 ·
  have B2 := Lib.hid (below_step b1 b2)
  refine (show bodyPost _ _ _ (Exit.panic (gvP _)) _ _ from ?_)
  simp only [bodyPost]
  exact ⟨trivial, .inr ⟨h0, by first | rfl | trivial, B2.out⟩⟩
def NsS (base : Nat) (w : World) (v : Value) (l : List Int) : Prop := ∃ A c, v = .slice A l.length c ∧ (0 < l.length → ∃ a, A = some a ∧ base ≤ a.block ∧ a.block < w.heap.size ∧ (a.off = 0 ∧ a.spot = none) ∧ ∀ i x, l[i]? = some x → w.cell? (a.add i) = some (.int .i64 x))
theorem NsS.on {base : Nat} {w w' : World} {v : Value} {l : List Int} (h : NsS base w v l) (k : Below w.heap.size w w') : NsS base w' v l := by
 obtain ⟨A, c, hv, ha⟩ := h
 refine ⟨A, c, hv, fun hp => ?_⟩
 obtain ⟨a, h1, h0, h2, hz, h3⟩ := ha hp
 exact ⟨a, h1, h0, Nat.lt_of_lt_of_le h2 k.size, hz, fun i x hx => (k.cell (by rw [blk_add]; exact h2)).trans (h3 i x hx)⟩
theorem NsS.low {base b0 : Nat} {w : World} {v : Value} {l : List Int} (h : NsS base w v l) (k : b0 ≤ base) : NsS b0 w v l := by
 obtain ⟨A, c, hv, ha⟩ := h
 refine ⟨A, c, hv, fun hp => ?_⟩
 obtain ⟨a, h1, h0, h2, hz, h3⟩ := ha hp
 exact ⟨a, h1, Nat.le_trans k h0, h2, hz, h3⟩
theorem NsS.other {base b j : Nat} {w : World} {v u : Value} {l : List Int} (h : NsS base w v l) (hb : b < base) : NsS base (w.setCell ⟨b, j, none⟩ u) v l := by
 obtain ⟨A, c, hv, ha⟩ := h
 refine ⟨A, c, hv, fun hp => ?_⟩
 obtain ⟨a, h1, h0, h2, hz, h3⟩ := ha hp
 refine ⟨a, h1, h0, by simpa using h2, hz, fun i x hx => ?_⟩
 have hne : b ≠ a.block := by omega
 have hk := h3 i x hx
 have e : a.add i = ⟨a.block, (a.add i).off, (a.add i).spot⟩ := by rw [← blk_add a i]
 rw [e] at hk ⊢
 simp [go_sem, hk, hne, hne.symm]
theorem NsS.mk {base : Nat} {W : World} (b c : Nat) (l : List Int) (h0 : base ≤ b) (hb : b < W.heap.size) (h : ∀ i (hi : i < l.length), W.cell? ⟨b, i, none⟩ = some (.int .i64 l[i])) : NsS base W (.slice (some ⟨b, 0, none⟩) l.length c) l := by
 refine ⟨_, c, rfl, fun _ => ⟨_, rfl, h0, hb, ⟨rfl, rfl⟩, fun i x hx => ?_⟩⟩
 obtain ⟨hi, rfl⟩ := List.getElem?_eq_some_iff.1 hx
 rw [show (⟨b, 0, none⟩ : Addr).add i = ⟨b, i, none⟩ by simp [Addr.add]; exact fun h => h.symm]
 exact h i hi
theorem NsS.grown {base : Nat} {w w' : World} {v : Value} {l : List Int} {row : Option Nat} (h : NsS base w v l) (g : w.grownBy w' row) (hr : ∀ b, row = some b → ∃ s, w.cell? ⟨b, 0, none⟩ = some (.string s)) : NsS base w' v l := by
 obtain ⟨A, c, hv, ha⟩ := h
 refine ⟨A, c, hv, fun hp => ?_⟩
 obtain ⟨a, h1, h0, h2, hz, h3⟩ := ha hp
 have hne : some a.block ≠ row := by
  intro e
  obtain ⟨s, hs⟩ := hr a.block e.symm
  have := h3 0 l[0] (List.getElem?_eq_getElem hp)
  rw [Addr.add_zero'] at this
  have ea : a = ⟨a.block, 0, none⟩ := by rcases a with ⟨ab, ao, asp⟩; obtain ⟨e1, e2⟩ := hz; subst e1; subst e2; rfl
  rw [ea, hs] at this
  cases this
 exact ⟨a, h1, h0, Nat.lt_of_lt_of_le h2 g.size, hz, fun i x hx => g.cell (h3 i x hx) (by rw [blk_add]; exact hne)⟩
theorem NsS.nil (base : Nat) (W : World) : NsS base W (.slice none 0 0) [] := ⟨none, 0, rfl, fun h => absurd h (by simp)⟩
def Qy.sl (k : Nat) : List Int := if k = 1 ∨ k = 2 ∨ k = 4 then [0, 1] else if k = 3 then [0, 1, 4] else if k = 5 then [0, 1, 2, 3, 4] else if k = 7 then [0, 5, 6] else []
set_option maxHeartbeats 2000000 in
set_option maxRecDepth 100000 in
theorem qslots_any (w : World) : Calls Tryz.prog 47 #[] w fun e w' => ∃ vs : List Value, vs.length = 8 ∧ e = .returned (.agg vs.toArray) ∧ (∀ k (h : k < vs.length), NsS w.heap.size w' vs[k] (Qy.sl k)) ∧ Below w.heap.size w w' := by
 go_enter Tryz.func47, Tryz.ntmps47
 go_wp2_with fail
 refine bodyPost_ret (v := .agg #[.slice none 0 0, .slice (some ⟨w.heap.size + 1, 0, none⟩) 2 2, .slice (some ⟨w.heap.size + 1 + 1, 0, none⟩) 2 2, .slice (some ⟨w.heap.size + 1 + 1 + 1, 0, none⟩) 3 3, .slice (some ⟨w.heap.size + 1 + 1 + 1 + 1, 0, none⟩) 2 2, .slice (some ⟨w.heap.size + 1 + 1 + 1 + 1 + 1, 0, none⟩) 5 5, .slice none 0 0, .slice (some ⟨w.heap.size + 1 + 1 + 1 + 1 + 1 + 1, 0, none⟩) 3 3]) (by simp [results, Tryz.results47, go_sem]) rfl ⟨[.slice none 0 0, .slice (some ⟨w.heap.size + 1, 0, none⟩) 2 2, .slice (some ⟨w.heap.size + 1 + 1, 0, none⟩) 2 2, .slice (some ⟨w.heap.size + 1 + 1 + 1, 0, none⟩) 3 3, .slice (some ⟨w.heap.size + 1 + 1 + 1 + 1, 0, none⟩) 2 2, .slice (some ⟨w.heap.size + 1 + 1 + 1 + 1 + 1, 0, none⟩) 5 5, .slice none 0 0, .slice (some ⟨w.heap.size + 1 + 1 + 1 + 1 + 1 + 1, 0, none⟩) 3 3], rfl, rfl, ?_, gr0⟩
 intro k h
 match k, h with
 | 0, _ => exact NsS.nil _ _
 | 1, _ => exact NsS.mk (w.heap.size + 1) 2 [0, 1] (by omega) (by simp <;> omega) (fun i hi => by
   match i, hi with
   | 0, _ => simp [go_sem]
   | 1, _ => simp [go_sem]
   | i + 2, hi => exact absurd hi (by simp))
 | 2, _ => exact NsS.mk (w.heap.size + 1 + 1) 2 [0, 1] (by omega) (by simp <;> omega) (fun i hi => by
   match i, hi with
   | 0, _ => simp [go_sem]
   | 1, _ => simp [go_sem]
   | i + 2, hi => exact absurd hi (by simp))
 | 3, _ => exact NsS.mk (w.heap.size + 1 + 1 + 1) 3 [0, 1, 4] (by omega) (by simp <;> omega) (fun i hi => by
   match i, hi with
   | 0, _ => simp [go_sem]
   | 1, _ => simp [go_sem]
   | 2, _ => simp [go_sem]
   | i + 3, hi => exact absurd hi (by simp))
 | 4, _ => exact NsS.mk (w.heap.size + 1 + 1 + 1 + 1) 2 [0, 1] (by omega) (by simp <;> omega) (fun i hi => by
   match i, hi with
   | 0, _ => simp [go_sem]
   | 1, _ => simp [go_sem]
   | i + 2, hi => exact absurd hi (by simp))
 | 5, _ => exact NsS.mk (w.heap.size + 1 + 1 + 1 + 1 + 1) 5 [0, 1, 2, 3, 4] (by omega) (by simp <;> omega) (fun i hi => by
   match i, hi with
   | 0, _ => simp [go_sem]
   | 1, _ => simp [go_sem]
   | 2, _ => simp [go_sem]
   | 3, _ => simp [go_sem]
   | 4, _ => simp [go_sem]
   | i + 5, hi => exact absurd hi (by simp))
 | 6, _ => exact NsS.nil _ _
 | 7, _ => exact NsS.mk (w.heap.size + 1 + 1 + 1 + 1 + 1 + 1) 3 [0, 5, 6] (by omega) (by simp <;> omega) (fun i hi => by
   match i, hi with
   | 0, _ => simp [go_sem]
   | 1, _ => simp [go_sem]
   | 2, _ => simp [go_sem]
   | i + 3, hi => exact absurd hi (by simp))
 | k + 8, h => exact absurd h (by simp)
end Go.Proofs.YtbcbggdbojonmaaGreatDoor
