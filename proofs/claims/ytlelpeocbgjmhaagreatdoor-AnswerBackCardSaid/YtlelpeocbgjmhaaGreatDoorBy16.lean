/- Joined: AnC. -/
import Derived.Test.YtlelpeocbgjmhaaGreatDoorBy01
import Derived.Test.YtlelpeocbgjmhaaGreatDoorBy14
import Derived.Test.YtlelpeocbgjmhaaGreatDoorBy15
set_option linter.unusedVariables false
set_option linter.unusedSimpArgs false
namespace Go.Proofs.YtlelpeocbgjmhaaGreatDoor
open Go.RowKit Go.Sort
theorem An.both_yes (i j : An.I) (h1 : (An.inf i).2 = 0) (h2 : (An.inf j).2 = 0) : (An.both i j).2 = 0 ∧ (⟨(An.both i j).1.toArray⟩ : ByteArray) = ⟨(An.inf i).1.toArray⟩ ++ ⟨#[32, 47, 32]⟩ ++ ⟨(An.inf j).1.toArray⟩ := by
 unfold An.both
 rw [if_neg (by simp [h1]), if_neg (by simp [h2])]
 exact ⟨rfl, by rw [An.arr_app, An.arr_app]⟩
theorem An.both_no1 (i j : An.I) (h1 : (An.inf i).2 ≠ 0) : (An.both i j).2 = (An.inf i).2 := by unfold An.both; rw [if_pos h1]
theorem An.both_no2 (i j : An.I) (h1 : (An.inf i).2 = 0) (h2 : (An.inf j).2 ≠ 0) : (An.both i j).2 = (An.inf j).2 := by unfold An.both; rw [if_neg (by simp [h1]), if_pos h2]
def AnsS (R : ByteArray) (y : Int) (w : World) (e : Ending) (w' : World) : Prop := Below w.heap.size w w' ∧ ((y = 0 ∧ e = .returned (.string R)) ∨ (y ≠ 0 ∧ e = .panicked (gvP y)))
theorem aboth_any (k a b c d : Int) (x : ByteArray) (a' b' c' d' : Int) (x' : ByteArray) (w : World) (ha : An.bd a) (hb : An.bd b) (hc : An.bd c) (hd : An.bd d) (hx : x.size ≤ 1000000) (ha' : An.bd a') (hb' : An.bd b') (hc' : An.bd c') (hd' : An.bd d') (hx' : x'.size ≤ 1000000) (T : Lib.TabIs Tryz.prog w "internal/strconv.uint64pow10" .u64 Lib.pow10Tab) :
  Calls Tryz.prog 25 #[.agg #[.int .i64 k, .int .i64 a, .int .i64 b, .int .i64 c, .int .i64 d, .string x, .int .i64 a', .int .i64 b', .int .i64 c', .int .i64 d', .string x']] w (AnsS ⟨(An.both (a, b, c, d, x) (a', b', c', d', x')).1.toArray⟩ (An.both (a, b, c, d, x) (a', b', c', d', x')).2 w) := by
 by_cases h1 : (An.inf (a, b, c, d, x)).2 = 0
 ·
  by_cases h2 : (An.inf (a', b', c', d', x')).2 = 0
  ·
   obtain ⟨e1, e2⟩ := An.both_yes (a, b, c, d, x) (a', b', c', d', x') h1 h2
   rw [e1, e2]
   exact (aboth_yes k a b c d x a' b' c' d' x' w ha hb hc hd hx ha' hb' hc' hd' hx' T h1 h2).mono fun e w' h => ⟨h.2, .inl ⟨rfl, h.1⟩⟩
  ·
   rw [An.both_no2 (a, b, c, d, x) (a', b', c', d', x') h1 h2]
   exact (aboth_no2 k a b c d x a' b' c' d' x' w ha hb hc hd hx ha' hb' hc' hd' hx' T h1 h2).mono fun e w' h => ⟨h.2, .inr ⟨h2, h.1⟩⟩
 ·
  rw [An.both_no1 (a, b, c, d, x) (a', b', c', d', x') h1]
  exact (aboth_no1 k a b c d x a' b' c' d' x' w ha hb hc hd hx ha' hb' hc' hd' hx' T h1).mono fun e w' h => ⟨h.2, .inr ⟨h1, h.1⟩⟩
theorem An.both_len (i j : An.I) : ((⟨(An.both i j).1.toArray⟩ : ByteArray)).size ≤ (An.inf i).1.length + 3 + (An.inf j).1.length := by
 show (An.both i j).1.toArray.size ≤ _
 rw [List.size_toArray]
 unfold An.both
 split
 ·
  simp
 ·
  split
  ·
   simp
  ·
   simp; omega
set_option maxHeartbeats 4000000 in
set_option maxRecDepth 100000 in
theorem alocal1_any (p : Nat) (k a b c d : Int) (x : ByteArray) (a' b' c' d' : Int) (x' : ByteArray) (w : World) (B : Bk11 w p (.int .i64 k) (.int .i64 a) (.int .i64 b) (.int .i64 c) (.int .i64 d) (.string x) (.int .i64 a') (.int .i64 b') (.int .i64 c') (.int .i64 d') (.string x')) (ha : An.bd a) (hb : An.bd b) (hc : An.bd c) (hd : An.bd d) (hx : x.size ≤ 1000000) (ha' : An.bd a') (hb' : An.bd b') (hc' : An.bd c') (hd' : An.bd d') (hx' : x'.size ≤ 1000000) (T : Lib.TabIs Tryz.prog w "internal/strconv.uint64pow10" .u64 Lib.pow10Tab) :
  Calls Tryz.prog 23 #[.pointer (some ⟨p, 0, none⟩)] w (AnsS ⟨(An.loc k (a, b, c, d, x) (a', b', c', d', x')).1.toArray⟩ (An.loc k (a, b, c, d, x) (a', b', c', d', x')).2 w) := by
 have IA := Lib.hid (ainfo_any a b c d x w ha hb hc hd hx T)
 have BO := Lib.hid (aboth_any k a b c d x a' b' c' d' x' w ha hb hc hd hx ha' hb' hc' hd' hx' T)
 have z1 := An.inf_len a b c d x ha hb hc hd
 have z2 := An.inf_len a' b' c' d' x' ha' hb' hc' hd'
 have z3 := An.both_len (a, b, c, d, x) (a', b', c', d', x')
 have l1 : (⟨(An.inf (a, b, c, d, x)).1.toArray⟩ : ByteArray).size = (An.inf (a, b, c, d, x)).1.length := List.size_toArray ..
 have l2 : (⟨(An.inf (a', b', c', d', x')).1.toArray⟩ : ByteArray).size = (An.inf (a', b', c', d', x')).1.length := List.size_toArray ..
 have zb : (⟨(An.both (a, b, c, d, x) (a', b', c', d', x')).1.toArray⟩ : ByteArray).size ≤ 3000000 := by omega
 have za : (⟨(An.inf (a, b, c, d, x)).1.toArray⟩ : ByteArray).size ≤ 2000000 := by omega
 clear z1 z2 z3 l1 l2 ha hb hc hd hx ha' hb' hc' hd' hx'
 by_cases k1 : k = 1
 ·
  subst k1
  clear BO
  by_cases h1 : (An.inf (a, b, c, d, x)).2 = 0
  ·
   have e1 : An.loc 1 (a, b, c, d, x) (a', b', c', d', x') = ([111, 110, 101, 32] ++ (An.inf (a, b, c, d, x)).1, 0) := by unfold An.loc; rw [if_pos rfl, if_neg (by simp [h1])]
   rw [e1]
   dsimp only
   rw [An.arr_app, show (⟨[111, 110, 101, 32].toArray⟩ : ByteArray) = ⟨#[111, 110, 101, 32]⟩ from rfl]
   rw [h1] at IA
   generalize (⟨(An.inf (a, b, c, d, x)).1.toArray⟩ : ByteArray) = R at *
   have hz : ¬ 9223372036854775807 < 4 + R.size := by omega
   clear e1
   go_enter Tryz.func23, Tryz.ntmps23
   have tx := B; obtain ⟨cX_b, cX_f, cX_0, cX_1, cX_2, cX_3, cX_4, cX_5, cX_6, cX_7, cX_8, cX_9, cX_10⟩ := tx
   go_wp2_with fail
   clear cX_b cX_f cX_0 cX_1 cX_2 cX_3 cX_4 cX_5 cX_6 cX_7 cX_8 cX_9 cX_10
   refine (IA.out).mono ?_; rintro e w1 ⟨rfl, b1⟩
   have d1 : Below w.heap.size w w1 := below_step gr0 b1
   have B1 := Lib.hid d1
   have X1 := B.keep d1
   clear B b1 d1
   have tx := X1; obtain ⟨cX_b, cX_f, cX_0, cX_1, cX_2, cX_3, cX_4, cX_5, cX_6, cX_7, cX_8, cX_9, cX_10⟩ := tx
   go_wp2_with fail
   clear cX_b cX_f cX_0 cX_1 cX_2 cX_3 cX_4 cX_5 cX_6 cX_7 cX_8 cX_9 cX_10
   refine (musts_yes _ _).mono ?_; rintro e v1 ⟨rfl, rfl⟩
   have tx := X1; obtain ⟨cX_b, cX_f, cX_0, cX_1, cX_2, cX_3, cX_4, cX_5, cX_6, cX_7, cX_8, cX_9, cX_10⟩ := tx
   go_wp2_with fail
   clear cX_b cX_f cX_0 cX_1 cX_2 cX_3 cX_4 cX_5 cX_6 cX_7 cX_8 cX_9 cX_10
   go_ret
   exact ⟨B1.out, .inl ⟨rfl, rfl⟩⟩
  ·
   have e1 : An.loc 1 (a, b, c, d, x) (a', b', c', d', x') = ([], (An.inf (a, b, c, d, x)).2) := by unfold An.loc; rw [if_pos rfl, if_pos h1]
   rw [e1]
   dsimp only
   generalize (⟨(An.inf (a, b, c, d, x)).1.toArray⟩ : ByteArray) = R at *
   generalize (An.inf (a, b, c, d, x)).2 = y at *
   clear e1
   go_enter Tryz.func23, Tryz.ntmps23
   have tx := B; obtain ⟨cX_b, cX_f, cX_0, cX_1, cX_2, cX_3, cX_4, cX_5, cX_6, cX_7, cX_8, cX_9, cX_10⟩ := tx
   go_wp2_with fail
   clear cX_b cX_f cX_0 cX_1 cX_2 cX_3 cX_4 cX_5 cX_6 cX_7 cX_8 cX_9 cX_10
   refine (IA.out).mono ?_; rintro e w1 ⟨rfl, b1⟩
   have d1 : Below w.heap.size w w1 := below_step gr0 b1
   have B1 := Lib.hid d1
   have X1 := B.keep d1
   clear B b1 d1
   have tx := X1; obtain ⟨cX_b, cX_f, cX_0, cX_1, cX_2, cX_3, cX_4, cX_5, cX_6, cX_7, cX_8, cX_9, cX_10⟩ := tx
   go_wp2_with fail
   clear cX_b cX_f cX_0 cX_1 cX_2 cX_3 cX_4 cX_5 cX_6 cX_7 cX_8 cX_9 cX_10
   refine (musts_no _ _ _ h1).mono ?_; rintro e u1 ⟨rfl, rfl⟩
   refine (show bodyPost _ _ _ (Exit.panic (gvP _)) _ _ from ?_)
   simp only [bodyPost]
   exact ⟨trivial, B1.out, .inr ⟨h1, by first | rfl | trivial⟩⟩
 by_cases k2 : k = 2
 ·
  subst k2
  clear IA
  by_cases h1 : (An.both (a, b, c, d, x) (a', b', c', d', x')).2 = 0
  ·
   have e1 : An.loc 2 (a, b, c, d, x) (a', b', c', d', x') = ([110, 111, 110, 101, 32] ++ (An.both (a, b, c, d, x) (a', b', c', d', x')).1, 0) := by unfold An.loc; rw [if_neg (by decide)]; rw [if_pos rfl, if_neg (by simp [h1])]
   rw [e1]
   dsimp only
   rw [An.arr_app, show (⟨[110, 111, 110, 101, 32].toArray⟩ : ByteArray) = ⟨#[110, 111, 110, 101, 32]⟩ from rfl]
   rw [h1] at BO
   generalize (⟨(An.both (a, b, c, d, x) (a', b', c', d', x')).1.toArray⟩ : ByteArray) = R at *
   have hz : ¬ 9223372036854775807 < 5 + R.size := by omega
   clear e1
   go_enter Tryz.func23, Tryz.ntmps23
   have tx := B; obtain ⟨cX_b, cX_f, cX_0, cX_1, cX_2, cX_3, cX_4, cX_5, cX_6, cX_7, cX_8, cX_9, cX_10⟩ := tx
   go_wp2_with fail
   clear cX_b cX_f cX_0 cX_1 cX_2 cX_3 cX_4 cX_5 cX_6 cX_7 cX_8 cX_9 cX_10
   refine BO.out.mono ?_; rintro e w1 ⟨b1, ⟨-, rfl⟩ | ⟨h0, -⟩⟩
   case inr => exact absurd rfl h0
   have B1 := Lib.hid b1
   clear b1
   go_wp2_with fail
   go_ret
   exact ⟨B1.out, .inl ⟨rfl, rfl⟩⟩
  ·
   have e1 : An.loc 2 (a, b, c, d, x) (a', b', c', d', x') = ([], (An.both (a, b, c, d, x) (a', b', c', d', x')).2) := by unfold An.loc; rw [if_neg (by decide)]; rw [if_pos rfl, if_pos h1]
   rw [e1]
   dsimp only
   generalize (⟨(An.both (a, b, c, d, x) (a', b', c', d', x')).1.toArray⟩ : ByteArray) = R at *
   generalize (An.both (a, b, c, d, x) (a', b', c', d', x')).2 = y at *
   clear e1
   go_enter Tryz.func23, Tryz.ntmps23
   have tx := B; obtain ⟨cX_b, cX_f, cX_0, cX_1, cX_2, cX_3, cX_4, cX_5, cX_6, cX_7, cX_8, cX_9, cX_10⟩ := tx
   go_wp2_with fail
   clear cX_b cX_f cX_0 cX_1 cX_2 cX_3 cX_4 cX_5 cX_6 cX_7 cX_8 cX_9 cX_10
   refine BO.out.mono ?_; rintro e w1 ⟨b1, ⟨h0, -⟩ | ⟨-, rfl⟩⟩
   case inl => exact absurd h0 h1
   have B1 := Lib.hid b1
   refine (show bodyPost _ _ _ (Exit.panic (gvP _)) _ _ from ?_)
   simp only [bodyPost]
   exact ⟨trivial, B1.out, .inr ⟨h1, by first | rfl | trivial⟩⟩
 by_cases k3 : k = 3
 ·
  subst k3
  clear IA
  by_cases h1 : (An.both (a, b, c, d, x) (a', b', c', d', x')).2 = 0
  ·
   have e1 : An.loc 3 (a, b, c, d, x) (a', b', c', d', x') = ([116, 119, 111, 32] ++ (An.both (a, b, c, d, x) (a', b', c', d', x')).1, 0) := by unfold An.loc; rw [if_neg (by decide)]; rw [if_neg (by decide)]; rw [if_pos rfl, if_neg (by simp [h1])]
   rw [e1]
   dsimp only
   rw [An.arr_app, show (⟨[116, 119, 111, 32].toArray⟩ : ByteArray) = ⟨#[116, 119, 111, 32]⟩ from rfl]
   rw [h1] at BO
   generalize (⟨(An.both (a, b, c, d, x) (a', b', c', d', x')).1.toArray⟩ : ByteArray) = R at *
   have hz : ¬ 9223372036854775807 < 4 + R.size := by omega
   clear e1
   go_enter Tryz.func23, Tryz.ntmps23
   have tx := B; obtain ⟨cX_b, cX_f, cX_0, cX_1, cX_2, cX_3, cX_4, cX_5, cX_6, cX_7, cX_8, cX_9, cX_10⟩ := tx
   go_wp2_with fail
   clear cX_b cX_f cX_0 cX_1 cX_2 cX_3 cX_4 cX_5 cX_6 cX_7 cX_8 cX_9 cX_10
   refine (need_yes 4 _).mono ?_; rintro e v1 ⟨rfl, rfl⟩
   have tx := B; obtain ⟨cX_b, cX_f, cX_0, cX_1, cX_2, cX_3, cX_4, cX_5, cX_6, cX_7, cX_8, cX_9, cX_10⟩ := tx
   go_wp2_with fail
   clear cX_b cX_f cX_0 cX_1 cX_2 cX_3 cX_4 cX_5 cX_6 cX_7 cX_8 cX_9 cX_10
   refine BO.out.mono ?_; rintro e w1 ⟨b1, ⟨-, rfl⟩ | ⟨h0, -⟩⟩
   case inr => exact absurd rfl h0
   have B1 := Lib.hid b1
   clear b1
   go_wp2_with fail
   go_ret
   exact ⟨B1.out, .inl ⟨rfl, rfl⟩⟩
  ·
   have e1 : An.loc 3 (a, b, c, d, x) (a', b', c', d', x') = ([], (An.both (a, b, c, d, x) (a', b', c', d', x')).2) := by unfold An.loc; rw [if_neg (by decide)]; rw [if_neg (by decide)]; rw [if_pos rfl, if_pos h1]
   rw [e1]
   dsimp only
   generalize (⟨(An.both (a, b, c, d, x) (a', b', c', d', x')).1.toArray⟩ : ByteArray) = R at *
   generalize (An.both (a, b, c, d, x) (a', b', c', d', x')).2 = y at *
   clear e1
   go_enter Tryz.func23, Tryz.ntmps23
   have tx := B; obtain ⟨cX_b, cX_f, cX_0, cX_1, cX_2, cX_3, cX_4, cX_5, cX_6, cX_7, cX_8, cX_9, cX_10⟩ := tx
   go_wp2_with fail
   clear cX_b cX_f cX_0 cX_1 cX_2 cX_3 cX_4 cX_5 cX_6 cX_7 cX_8 cX_9 cX_10
   refine (need_yes 4 _).mono ?_; rintro e v1 ⟨rfl, rfl⟩
   have tx := B; obtain ⟨cX_b, cX_f, cX_0, cX_1, cX_2, cX_3, cX_4, cX_5, cX_6, cX_7, cX_8, cX_9, cX_10⟩ := tx
   go_wp2_with fail
   clear cX_b cX_f cX_0 cX_1 cX_2 cX_3 cX_4 cX_5 cX_6 cX_7 cX_8 cX_9 cX_10
   refine BO.out.mono ?_; rintro e w1 ⟨b1, ⟨h0, -⟩ | ⟨-, rfl⟩⟩
   case inl => exact absurd h0 h1
   have B1 := Lib.hid b1
   refine (show bodyPost _ _ _ (Exit.panic (gvP _)) _ _ from ?_)
   simp only [bodyPost]
   exact ⟨trivial, B1.out, .inr ⟨h1, by first | rfl | trivial⟩⟩
 clear IA BO za zb
 rw [show An.loc k (a, b, c, d, x) (a', b', c', d', x') = ([], 4) by unfold An.loc; rw [if_neg k1, if_neg k2, if_neg k3]]
 dsimp only
 have g1 : (k == 1) = false := by rw [beq_eq_false_iff_ne]; exact k1
 have g2 : (k == 2) = false := by rw [beq_eq_false_iff_ne]; exact k2
 have g3 : (k == 3) = false := by rw [beq_eq_false_iff_ne]; exact k3
 have hB := Lib.hid (Below.refl w.heap.size w)
 go_enter Tryz.func23, Tryz.ntmps23
 have tx := B; obtain ⟨cX_b, cX_f, cX_0, cX_1, cX_2, cX_3, cX_4, cX_5, cX_6, cX_7, cX_8, cX_9, cX_10⟩ := tx
 go_wp2_with fail
 clear cX_b cX_f cX_0 cX_1 cX_2 cX_3 cX_4 cX_5 cX_6 cX_7 cX_8 cX_9 cX_10
 refine (need_no 4 _).mono ?_; rintro e u1 ⟨rfl, rfl⟩
 refine (show bodyPost _ _ _ (Exit.panic (gvP _)) _ _ from ?_)
 simp only [bodyPost]
 exact ⟨trivial, hB.out, .inr ⟨by decide, by first | rfl | trivial⟩⟩
end Go.Proofs.YtlelpeocbgjmhaaGreatDoor
