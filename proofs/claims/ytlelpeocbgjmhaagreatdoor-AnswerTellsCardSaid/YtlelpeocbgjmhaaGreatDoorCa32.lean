/- Joined: AnM. -/
import Derived.Test.YtlelpeocbgjmhaaGreatDoorCa30
/- Answers: there and back, the walk. -/
set_option linter.unusedVariables false
set_option linter.unusedSimpArgs false
namespace Go.Proofs.YtlelpeocbgjmhaaGreatDoor
open Go.RowKit Go.Sort
theorem an_arr (l : List UInt8) : (⟨l.toArray⟩ : ByteArray).data.toList = l := by simp
theorem An.rd_len (s : ByteArray) : (An.rdi s.data.toList).1.2.2.2.2.size ≤ s.size := by
  have h1 := (Fd.of_len s.data.toList).1
  have e2 : s.data.toList.length = s.size := Array.length_toList
  have key : ∀ P : List (List UInt8), (An.rdL P).1.2.2.2.2.size ≤ Fd.sm P := by
    intro P
    by_cases h : (An.rdL P).2 = 0
    · match P, h with
      | [a, b, c, d, x], h =>
        rw [An.rdL_five] at h ⊢
        by_cases hw : An.w4 a b c d = 0
        · rw [if_neg (by simp [hw])]
          have := An.sm_mem [a, b, c, d, x] x (by simp)
          show x.toArray.size ≤ _
          rw [List.size_toArray]; exact this
        · rw [if_pos hw] at h; exact absurd h hw
      | [], h => simp [An.rdL] at h
      | [_], h => simp [An.rdL] at h
      | [_, _], h => simp [An.rdL] at h
      | [_, _, _], h => simp [An.rdL] at h
      | [_, _, _, _], h => simp [An.rdL] at h
      | _ :: _ :: _ :: _ :: _ :: _ :: r, h => simp [An.rdL] at h; split at h <;> omega
    · rw [An.rdL_no _ h]; exact Nat.zero_le _
  unfold An.rdi
  split
  · exact Nat.zero_le _
  · exact Nat.le_trans (key _) (by omega)
theorem An.loc_1 (i j : An.I) (h : (An.inf i).2 = 0) : (An.loc 1 i j).2 = 0 ∧ (⟨(An.loc 1 i j).1.toArray⟩ : ByteArray) = ⟨#[111, 110, 101, 32]⟩ ++ ⟨(An.inf i).1.toArray⟩ := by
  have e : An.loc 1 i j = ([111, 110, 101, 32] ++ (An.inf i).1, 0) := by unfold An.loc; rw [if_pos rfl, if_neg (by simp [h])]
  rw [e]; exact ⟨rfl, An.arr_app _ _⟩
theorem An.loc_1n (i j : An.I) (h : (An.inf i).2 ≠ 0) : (An.loc 1 i j).2 = (An.inf i).2 ∧ (⟨(An.loc 1 i j).1.toArray⟩ : ByteArray) = ⟨#[]⟩ := by
  have e : An.loc 1 i j = ([], (An.inf i).2) := by unfold An.loc; rw [if_pos rfl, if_pos h]
  rw [e]; exact ⟨rfl, rfl⟩
theorem An.loc_2 (i j : An.I) (h : (An.inf i).2 = 0) (h2 : (An.inf j).2 = 0) : (An.loc 2 i j).2 = 0 ∧ (⟨(An.loc 2 i j).1.toArray⟩ : ByteArray) = ⟨#[110, 111, 110, 101, 32]⟩ ++ ⟨(An.inf i).1.toArray⟩ ++ ⟨#[32, 47, 32]⟩ ++ ⟨(An.inf j).1.toArray⟩ := by
  obtain ⟨b1, b2⟩ := An.both_yes i j h h2
  have e : An.loc 2 i j = ([110, 111, 110, 101, 32] ++ (An.both i j).1, 0) := by unfold An.loc; rw [if_neg (by decide), if_pos rfl, if_neg (by simp [b1])]
  rw [e]; exact ⟨rfl, by rw [An.arr_app, b2]; simp only [ByteArray.append_assoc]⟩
theorem An.loc_3 (i j : An.I) (h : (An.inf i).2 = 0) (h2 : (An.inf j).2 = 0) : (An.loc 3 i j).2 = 0 ∧ (⟨(An.loc 3 i j).1.toArray⟩ : ByteArray) = ⟨#[116, 119, 111, 32]⟩ ++ ⟨(An.inf i).1.toArray⟩ ++ ⟨#[32, 47, 32]⟩ ++ ⟨(An.inf j).1.toArray⟩ := by
  obtain ⟨b1, b2⟩ := An.both_yes i j h h2
  have e : An.loc 3 i j = ([116, 119, 111, 32] ++ (An.both i j).1, 0) := by unfold An.loc; rw [if_neg (by decide), if_neg (by decide), if_pos rfl, if_neg (by simp [b1])]
  rw [e]; exact ⟨rfl, by rw [An.arr_app, b2]; simp only [ByteArray.append_assoc]⟩
theorem An.loc_no (k : Int) (i j : An.I) (h1 : k ≠ 1) (h : ¬ ((k = 2 ∨ k = 3) ∧ (An.inf i).2 = 0 ∧ (An.inf j).2 = 0)) : (An.loc k i j).2 ≠ 0 ∧ (⟨(An.loc k i j).1.toArray⟩ : ByteArray) = ⟨#[]⟩ := by
  by_cases hk : k = 2 ∨ k = 3
  · have hb : (An.both i j).2 ≠ 0 := by
      by_cases y1 : (An.inf i).2 = 0
      · by_cases y2 : (An.inf j).2 = 0
        · exact absurd ⟨hk, y1, y2⟩ h
        · rw [An.both_no2 i j y1 y2]; exact y2
      · rw [An.both_no1 i j y1]; exact y1
    have e : An.loc k i j = ([], (An.both i j).2) := by
      unfold An.loc
      rcases hk with rfl | rfl
      · rw [if_neg (by decide), if_pos rfl, if_pos hb]
      · rw [if_neg (by decide), if_neg (by decide), if_pos rfl, if_pos hb]
    rw [e]; exact ⟨hb, rfl⟩
  · have e : An.loc k i j = ([], 4) := by unfold An.loc; rw [if_neg h1, if_neg (fun e => hk (.inl e)), if_neg (fun e => hk (.inr e))]
    rw [e]; exact ⟨by decide, rfl⟩
set_option maxHeartbeats 16000000 in
set_option maxRecDepth 100000 in
theorem answer_back (k a b c d : Int) (x : ByteArray) (a' b' c' d' : Int) (x' s : ByteArray) (w : World) (ha : An.bd a) (hb : An.bd b) (hc : An.bd c) (hd : An.bd d) (hx : x.size ≤ 140737488355328) (ha' : An.bd a') (hb' : An.bd b') (hc' : An.bd c') (hd' : An.bd d') (hx' : x'.size ≤ 140737488355328) (hs : s.size ≤ 140737488355328)
    (T : Lib.TabIs Tryz.prog w "internal/strconv.uint64pow10" .u64 Lib.pow10Tab) (tp : TypeId) (pp : Value) (V : w.var? Tryz.prog "strconv.ErrRange" = some #[.iface tp pp]) :
    Calls Tryz.prog 4 #[.agg #[.int .i64 k, .int .i64 a, .int .i64 b, .int .i64 c, .int .i64 d, .string x, .int .i64 a', .int .i64 b', .int .i64 c', .int .i64 d', .string x'], .string s] w fun e w' => e = .returned (.bool true) ∧ Below w.heap.size w w' := by
  have TT := Lib.hid T; have VV := Lib.hid V
  have LV := Lib.hid (fun W T V => lives45 W T tp pp V)
  clear T V
  by_cases hbig : 1000 < x.size + x'.size + s.size
  case pos =>
    have g : (1000 : Int) < (x.size : Int) + (x'.size : Int) + (s.size : Int) := by omega
    clear ha hb hc hd ha' hb' hc' hd' hbig
    go_enter Tryz.func4, Tryz.ntmps4
    go_wp2_with fail
    refine (LV.out _ (var_keep (by repeat (first | exact Below.refl _ _ | refine _root_.Go.below_drewN ?_ _ | refine Below.drew ?_ | refine Below.setCell ?_ (by first | (simp; done) | (simp; omega) | omega) _ | refine Below.alloc ?_ (by first | (simp; done) | (simp; omega) | omega) _)) TT.out) (var_keep (by repeat (first | exact Below.refl _ _ | refine _root_.Go.below_drewN ?_ _ | refine Below.drew ?_ | refine Below.setCell ?_ (by first | (simp; done) | (simp; omega) | omega) _ | refine Below.alloc ?_ (by first | (simp; done) | (simp; omega) | omega) _)) VV.out)).mono ?_; rintro e w1 ⟨rfl, b1⟩
    have d1 : Below w.heap.size w w1 := below_step (by repeat (first | exact Below.refl _ _ | refine _root_.Go.below_drewN ?_ _ | refine Below.drew ?_ | refine Below.setCell ?_ (by first | (simp; done) | (simp; omega) | omega) _ | refine Below.alloc ?_ (by first | (simp; done) | (simp; omega) | omega) _)) b1
    have B1 := Lib.hid d1
    have X1 : Bk11 w1 (w.heap.size) (.int .i64 k) (.int .i64 a) (.int .i64 b) (.int .i64 c) (.int .i64 d) (.string x) (.int .i64 a') (.int .i64 b') (.int .i64 c') (.int .i64 d') (.string x') := Bk11.of b1 (by simp <;> omega) (by intro j; simp [go_sem]) (by simp [go_sem]) (by simp [go_sem]) (by simp [go_sem]) (by simp [go_sem]) (by simp [go_sem]) (by simp [go_sem]) (by simp [go_sem]) (by simp [go_sem]) (by simp [go_sem]) (by simp [go_sem]) (by simp [go_sem])
    clear b1 d1
    have cX_b := X1.hb
    have cX_f := X1.fz
    have cX_0 := X1.k0
    have cX_1 := X1.k1
    have cX_2 := X1.k2
    have cX_3 := X1.k3
    have cX_4 := X1.k4
    have cX_5 := X1.k5
    have cX_6 := X1.k6
    have cX_7 := X1.k7
    have cX_8 := X1.k8
    have cX_9 := X1.k9
    have cX_10 := X1.k10
    go_wp2_with fail
    clear cX_b cX_f cX_0 cX_1 cX_2 cX_3 cX_4 cX_5 cX_6 cX_7 cX_8 cX_9 cX_10
    go_ret
    exact ⟨rfl, (by have hz := B1.out.size; repeat (first | exact B1.out | refine _root_.Go.below_drewN ?_ _ | refine Below.drew ?_ | refine Below.setCell ?_ (by first | omega | (simp; done) | (simp; omega)) _ | refine Below.alloc ?_ (by first | omega | (simp; done) | (simp; omega)) _))⟩
  have g : ¬ (1000 : Int) < (x.size : Int) + (x'.size : Int) + (s.size : Int) := by omega
  have zx : x.size ≤ 1000 := by omega
  have zx' : x'.size ≤ 1000 := by omega
  have zs : s.size ≤ 1000 := by omega
  have IA := Lib.hid (fun W T => ainfo_any a b c d x W ha hb hc hd (by omega) T)
  have IB := Lib.hid (fun W T => ainfo_any a' b' c' d' x' W ha' hb' hc' hd' (by omega) T)
  have LO := Lib.hid (fun W T => alocal_any k a b c d x a' b' c' d' x' W ha hb hc hd (by omega) ha' hb' hc' hd' (by omega) T)
  have z1 := An.inf_len a b c d x ha hb hc hd
  have z2 := An.inf_len a' b' c' d' x' ha' hb' hc' hd'
  have RA := Lib.hid (fun W V => aread_any ⟨(An.inf (a, b, c, d, x)).1.toArray⟩ W (by omega) tp pp V)
  rw [an_arr] at RA
  have rb := An.rdi_inf (a, b, c, d, x) ha hb hc hd
  have RS := Lib.hid (fun W V => aread_any s W (by omega) tp pp V)
  have l1 := An.loc_1 (a, b, c, d, x) (a', b', c', d', x'); have l1n := An.loc_1n (a, b, c, d, x) (a', b', c', d', x'); have l2 := An.loc_2 (a, b, c, d, x) (a', b', c', d', x'); have l3 := An.loc_3 (a, b, c, d, x) (a', b', c', d', x'); have ln := An.loc_no k (a, b, c, d, x) (a', b', c', d', x')
  have ir := @An.inf_rdi s.data.toList
  have rz := An.rd_len s
  generalize hRS : An.rdi s.data.toList = RR at RS ir rz
  obtain ⟨⟨e1, e2, e3, e4, e5⟩, y3⟩ := RR
  dsimp only at RS ir rz
  have IE0 : y3 = 0 → Hid (∀ W, Lib.TabIs Tryz.prog W "internal/strconv.uint64pow10" .u64 Lib.pow10Tab → Calls Tryz.prog 6 #[.agg #[.int .i64 e1, .int .i64 e2, .int .i64 e3, .int .i64 e4, .string e5]] W fun e w' => e = .returned (.tuple #[.string ⟨(An.inf (e1, e2, e3, e4, e5)).1.toArray⟩, .int .i64 0]) ∧ Below W.heap.size W w') ∧ Hid (∀ W, W.var? Tryz.prog "strconv.ErrRange" = some #[.iface tp pp] → Calls Tryz.prog 10 #[.string ⟨(An.inf (e1, e2, e3, e4, e5)).1.toArray⟩] W fun e w' => e = .returned (.tuple #[.agg #[.int .i64 e1, .int .i64 e2, .int .i64 e3, .int .i64 e4, .string e5], .int .i64 0]) ∧ Below W.heap.size W w') := by
    intro h
    obtain ⟨q0, q1, q2, q3, q4⟩ := ir h
    have zz := An.inf_len e1 e2 e3 e4 e5 q1 q2 q3 q4
    have aa := Lib.hid (fun W T => ainfo_any e1 e2 e3 e4 e5 W q1 q2 q3 q4 (by omega) T)
    have bb := Lib.hid (fun W V => aread_any ⟨(An.inf (e1, e2, e3, e4, e5)).1.toArray⟩ W (by omega) tp pp V)
    rw [an_arr, An.rdi_inf (e1, e2, e3, e4, e5) q1 q2 q3 q4 q0] at bb
    rw [q0] at aa
    exact ⟨aa, bb⟩
  generalize (⟨(An.inf (e1, e2, e3, e4, e5)).1.toArray⟩ : ByteArray) = R3 at IE0
  have f1 : k = 1 → (An.inf (a, b, c, d, x)).2 = 0 → (An.loc k (a, b, c, d, x) (a', b', c', d', x')).2 = 0 ∧ (⟨(An.loc k (a, b, c, d, x) (a', b', c', d', x')).1.toArray⟩ : ByteArray) = ⟨#[111, 110, 101, 32]⟩ ++ (⟨(An.inf (a, b, c, d, x)).1.toArray⟩ : ByteArray) := fun h => by subst h; exact l1
  have f1n : k = 1 → (An.inf (a, b, c, d, x)).2 ≠ 0 → (An.loc k (a, b, c, d, x) (a', b', c', d', x')).2 = (An.inf (a, b, c, d, x)).2 ∧ (⟨(An.loc k (a, b, c, d, x) (a', b', c', d', x')).1.toArray⟩ : ByteArray) = ⟨#[]⟩ := fun h => by subst h; exact l1n
  have f2 : k = 2 → (An.inf (a, b, c, d, x)).2 = 0 → (An.inf (a', b', c', d', x')).2 = 0 → (An.loc k (a, b, c, d, x) (a', b', c', d', x')).2 = 0 ∧ (⟨(An.loc k (a, b, c, d, x) (a', b', c', d', x')).1.toArray⟩ : ByteArray) = ⟨#[110, 111, 110, 101, 32]⟩ ++ (⟨(An.inf (a, b, c, d, x)).1.toArray⟩ : ByteArray) ++ ⟨#[32, 47, 32]⟩ ++ (⟨(An.inf (a', b', c', d', x')).1.toArray⟩ : ByteArray) := fun h => by subst h; exact l2
  have f3 : k = 3 → (An.inf (a, b, c, d, x)).2 = 0 → (An.inf (a', b', c', d', x')).2 = 0 → (An.loc k (a, b, c, d, x) (a', b', c', d', x')).2 = 0 ∧ (⟨(An.loc k (a, b, c, d, x) (a', b', c', d', x')).1.toArray⟩ : ByteArray) = ⟨#[116, 119, 111, 32]⟩ ++ (⟨(An.inf (a, b, c, d, x)).1.toArray⟩ : ByteArray) ++ ⟨#[32, 47, 32]⟩ ++ (⟨(An.inf (a', b', c', d', x')).1.toArray⟩ : ByteArray) := fun h => by subst h; exact l3
  clear l1 l1n l2 l3
  have RA0 : (An.inf (a, b, c, d, x)).2 = 0 → Hid (∀ W, W.var? Tryz.prog "strconv.ErrRange" = some #[.iface tp pp] → Calls Tryz.prog 10 #[.string (⟨(An.inf (a, b, c, d, x)).1.toArray⟩ : ByteArray)] W fun e w' => e = .returned (.tuple #[.agg #[.int .i64 a, .int .i64 b, .int .i64 c, .int .i64 d, .string x], .int .i64 0]) ∧ Below W.heap.size W w') := fun h => by rw [rb h] at RA; exact RA
  clear RA
  clear rb
  generalize (⟨(An.loc k (a, b, c, d, x) (a', b', c', d', x')).1.toArray⟩ : ByteArray) = RL at LO ln f1 f1n f2 f3
  generalize (An.loc k (a, b, c, d, x) (a', b', c', d', x')).2 = yl at LO ln f1 f1n f2 f3
  generalize (⟨(An.inf (a, b, c, d, x)).1.toArray⟩ : ByteArray) = R1 at *
  generalize (⟨(An.inf (a', b', c', d', x')).1.toArray⟩ : ByteArray) = R2 at *
  generalize (An.inf (a, b, c, d, x)).2 = y1 at *
  generalize (An.inf (a', b', c', d', x')).2 = y2 at *
  clear ha hb hc hd hx ha' hb' hc' hd' hx' hs hbig ir rz hRS
  have zR1 : R1.size ≤ 2000 := by omega
  have zR2 : R2.size ≤ 2000 := by omega
  clear z1 z2
  have h4a : ¬ 9223372036854775807 < 4 + R1.size := by omega
  have h4b : ¬ 9223372036854775807 < 4 + R1.size + 3 := by omega
  have h4c : ¬ 9223372036854775807 < 4 + R1.size + 3 + R2.size := by omega
  have h5a : ¬ 9223372036854775807 < 5 + R1.size := by omega
  have h5b : ¬ 9223372036854775807 < 5 + R1.size + 3 := by omega
  have h5c : ¬ 9223372036854775807 < 5 + R1.size + 3 + R2.size := by omega
  clear zR1 zR2
  by_cases hy1 : y1 = 0
  · subst hy1
    have RA := RA0 rfl
    clear f1n RA0
    by_cases hy3 : y3 = 0
    · subst hy3
      have IE := IE0 rfl
      clear IE0
      go_enter Tryz.func4, Tryz.ntmps4
      go_wp2_with fail
      refine (LV.out _ (var_keep (by repeat (first | exact Below.refl _ _ | refine _root_.Go.below_drewN ?_ _ | refine Below.drew ?_ | refine Below.setCell ?_ (by first | (simp; done) | (simp; omega) | omega) _ | refine Below.alloc ?_ (by first | (simp; done) | (simp; omega) | omega) _)) TT.out) (var_keep (by repeat (first | exact Below.refl _ _ | refine _root_.Go.below_drewN ?_ _ | refine Below.drew ?_ | refine Below.setCell ?_ (by first | (simp; done) | (simp; omega) | omega) _ | refine Below.alloc ?_ (by first | (simp; done) | (simp; omega) | omega) _)) VV.out)).mono ?_; rintro e w1 ⟨rfl, b1⟩
      have d1 : Below w.heap.size w w1 := below_step (by repeat (first | exact Below.refl _ _ | refine _root_.Go.below_drewN ?_ _ | refine Below.drew ?_ | refine Below.setCell ?_ (by first | (simp; done) | (simp; omega) | omega) _ | refine Below.alloc ?_ (by first | (simp; done) | (simp; omega) | omega) _)) b1
      have B1 := Lib.hid d1
      have X1 : Bk11 w1 (w.heap.size) (.int .i64 k) (.int .i64 a) (.int .i64 b) (.int .i64 c) (.int .i64 d) (.string x) (.int .i64 a') (.int .i64 b') (.int .i64 c') (.int .i64 d') (.string x') := Bk11.of b1 (by simp <;> omega) (by intro j; simp [go_sem]) (by simp [go_sem]) (by simp [go_sem]) (by simp [go_sem]) (by simp [go_sem]) (by simp [go_sem]) (by simp [go_sem]) (by simp [go_sem]) (by simp [go_sem]) (by simp [go_sem]) (by simp [go_sem]) (by simp [go_sem])
      clear b1 d1
      have cX_b := X1.hb
      have cX_f := X1.fz
      have cX_0 := X1.k0
      have cX_1 := X1.k1
      have cX_2 := X1.k2
      have cX_3 := X1.k3
      have cX_4 := X1.k4
      have cX_5 := X1.k5
      have cX_6 := X1.k6
      have cX_7 := X1.k7
      have cX_8 := X1.k8
      have cX_9 := X1.k9
      have cX_10 := X1.k10
      go_wp2_with fail
      clear cX_b cX_f cX_0 cX_1 cX_2 cX_3 cX_4 cX_5 cX_6 cX_7 cX_8 cX_9 cX_10
      refine (IA.out _ (var_keep B1.out TT.out)).mono ?_; rintro e w2 ⟨rfl, b2⟩
      have d2 : Below w1.heap.size w1 w2 := below_step (by repeat (first | exact Below.refl _ _ | refine _root_.Go.below_drewN ?_ _ | refine Below.drew ?_ | refine Below.setCell ?_ (by first | (simp; done) | (simp; omega) | omega) _ | refine Below.alloc ?_ (by first | (simp; done) | (simp; omega) | omega) _)) b2
      have B2 := Lib.hid (below_step B1.out d2)
      have X2 := X1.keep d2
      clear X1 b2 d2 B1
      have cX_b := X2.hb
      have cX_f := X2.fz
      have cX_0 := X2.k0
      have cX_1 := X2.k1
      have cX_2 := X2.k2
      have cX_3 := X2.k3
      have cX_4 := X2.k4
      have cX_5 := X2.k5
      have cX_6 := X2.k6
      have cX_7 := X2.k7
      have cX_8 := X2.k8
      have cX_9 := X2.k9
      have cX_10 := X2.k10
      go_wp2_with fail
      clear cX_b cX_f cX_0 cX_1 cX_2 cX_3 cX_4 cX_5 cX_6 cX_7 cX_8 cX_9 cX_10
      refine (IB.out _ (var_keep B2.out TT.out)).mono ?_; rintro e w3 ⟨rfl, b3⟩
      have d3 : Below w2.heap.size w2 w3 := below_step (by repeat (first | exact Below.refl _ _ | refine _root_.Go.below_drewN ?_ _ | refine Below.drew ?_ | refine Below.setCell ?_ (by first | (simp; done) | (simp; omega) | omega) _ | refine Below.alloc ?_ (by first | (simp; done) | (simp; omega) | omega) _)) b3
      have B3 := Lib.hid (below_step B2.out d3)
      have X3 := X2.keep d3
      clear X2 b3 d3 B2
      have cX_b := X3.hb
      have cX_f := X3.fz
      have cX_0 := X3.k0
      have cX_1 := X3.k1
      have cX_2 := X3.k2
      have cX_3 := X3.k3
      have cX_4 := X3.k4
      have cX_5 := X3.k5
      have cX_6 := X3.k6
      have cX_7 := X3.k7
      have cX_8 := X3.k8
      have cX_9 := X3.k9
      have cX_10 := X3.k10
      go_wp2_with fail
      clear cX_b cX_f cX_0 cX_1 cX_2 cX_3 cX_4 cX_5 cX_6 cX_7 cX_8 cX_9 cX_10
      refine (RA.out _ (var_keep B3.out VV.out)).mono ?_; rintro e w4 ⟨rfl, b4⟩
      have d4 : Below w3.heap.size w3 w4 := below_step (by repeat (first | exact Below.refl _ _ | refine _root_.Go.below_drewN ?_ _ | refine Below.drew ?_ | refine Below.setCell ?_ (by first | (simp; done) | (simp; omega) | omega) _ | refine Below.alloc ?_ (by first | (simp; done) | (simp; omega) | omega) _)) b4
      have B4 := Lib.hid (below_step B3.out d4)
      have X4 := X3.keep d4
      clear X3 b4 d4 B3
      have cX_b := X4.hb
      have cX_f := X4.fz
      have cX_0 := X4.k0
      have cX_1 := X4.k1
      have cX_2 := X4.k2
      have cX_3 := X4.k3
      have cX_4 := X4.k4
      have cX_5 := X4.k5
      have cX_6 := X4.k6
      have cX_7 := X4.k7
      have cX_8 := X4.k8
      have cX_9 := X4.k9
      have cX_10 := X4.k10
      go_wp2_with fail
      clear cX_b cX_f cX_0 cX_1 cX_2 cX_3 cX_4 cX_5 cX_6 cX_7 cX_8 cX_9 cX_10
      refine (RS.out _ (var_keep (below_step B4.out (by repeat (first | exact Below.refl _ _ | refine _root_.Go.below_drewN ?_ _ | refine Below.drew ?_ | refine Below.setCell ?_ (by first | (simp; done) | (simp; omega) | omega) _ | refine Below.alloc ?_ (by first | (simp; done) | (simp; omega) | omega) _))) VV.out)).mono ?_; rintro e w5 ⟨rfl, b5⟩
      have d5 : Below w4.heap.size w4 w5 := below_step (by repeat (first | exact Below.refl _ _ | refine _root_.Go.below_drewN ?_ _ | refine Below.drew ?_ | refine Below.setCell ?_ (by first | (simp; done) | (simp; omega) | omega) _ | refine Below.alloc ?_ (by first | (simp; done) | (simp; omega) | omega) _)) b5
      have B5 := Lib.hid (below_step B4.out d5)
      have X5 := X4.keep d5
      have aN := B4.out.size
      have nNX := Nat.ne_of_lt X4.hb
      have oNX := Nat.ne_of_gt X4.hb
      have N5 : Bk5 w5 (w4.heap.size) (.int .i64 a) (.int .i64 b) (.int .i64 c) (.int .i64 d) (.string x) := Bk5.of b5 (by simp <;> omega) (by intro j; simp [go_sem]) (by simp [go_sem]) (by simp [go_sem]) (by simp [go_sem]) (by simp [go_sem]) (by simp [go_sem])
      clear X4 b5 d5 B4
      have cX_b := X5.hb
      have cX_f := X5.fz
      have cX_0 := X5.k0
      have cX_1 := X5.k1
      have cX_2 := X5.k2
      have cX_3 := X5.k3
      have cX_4 := X5.k4
      have cX_5 := X5.k5
      have cX_6 := X5.k6
      have cX_7 := X5.k7
      have cX_8 := X5.k8
      have cX_9 := X5.k9
      have cX_10 := X5.k10
      have cN_b := N5.hb
      have cN_f := N5.fz
      have cN_0 := N5.k0
      have cN_1 := N5.k1
      have cN_2 := N5.k2
      have cN_3 := N5.k3
      have cN_4 := N5.k4
      go_wp2_with fail
      clear cX_b cX_f cX_0 cX_1 cX_2 cX_3 cX_4 cX_5 cX_6 cX_7 cX_8 cX_9 cX_10 cN_b cN_f cN_0 cN_1 cN_2 cN_3 cN_4
      refine (IE.1.out _ (var_keep (below_step B5.out (by repeat (first | exact Below.refl _ _ | refine _root_.Go.below_drewN ?_ _ | refine Below.drew ?_ | refine Below.setCell ?_ (by first | (simp; done) | (simp; omega) | omega) _ | refine Below.alloc ?_ (by first | (simp; done) | (simp; omega) | omega) _))) TT.out)).mono ?_; rintro e w6 ⟨rfl, b6⟩
      have d6 : Below w5.heap.size w5 w6 := below_step (by repeat (first | exact Below.refl _ _ | refine _root_.Go.below_drewN ?_ _ | refine Below.drew ?_ | refine Below.setCell ?_ (by first | (simp; done) | (simp; omega) | omega) _ | refine Below.alloc ?_ (by first | (simp; done) | (simp; omega) | omega) _)) b6
      have B6 := Lib.hid (below_step B5.out d6)
      have X6 := X5.keep d6
      have N6 := N5.keep d6
      have aE := B5.out.size
      have nEX := Nat.ne_of_lt X5.hb
      have oEX := Nat.ne_of_gt X5.hb
      have nEN := Nat.ne_of_lt N5.hb
      have oEN := Nat.ne_of_gt N5.hb
      have E6 : Bk5 w6 (w5.heap.size) (.int .i64 e1) (.int .i64 e2) (.int .i64 e3) (.int .i64 e4) (.string e5) := Bk5.of b6 (by simp <;> omega) (by intro j; simp [go_sem]) (by simp [go_sem]) (by simp [go_sem]) (by simp [go_sem]) (by simp [go_sem]) (by simp [go_sem])
      clear X5 N5 b6 d6 B5
      have cX_b := X6.hb
      have cX_f := X6.fz
      have cX_0 := X6.k0
      have cX_1 := X6.k1
      have cX_2 := X6.k2
      have cX_3 := X6.k3
      have cX_4 := X6.k4
      have cX_5 := X6.k5
      have cX_6 := X6.k6
      have cX_7 := X6.k7
      have cX_8 := X6.k8
      have cX_9 := X6.k9
      have cX_10 := X6.k10
      have cN_b := N6.hb
      have cN_f := N6.fz
      have cN_0 := N6.k0
      have cN_1 := N6.k1
      have cN_2 := N6.k2
      have cN_3 := N6.k3
      have cN_4 := N6.k4
      have cE_b := E6.hb
      have cE_f := E6.fz
      have cE_0 := E6.k0
      have cE_1 := E6.k1
      have cE_2 := E6.k2
      have cE_3 := E6.k3
      have cE_4 := E6.k4
      go_wp2_with fail
      clear cX_b cX_f cX_0 cX_1 cX_2 cX_3 cX_4 cX_5 cX_6 cX_7 cX_8 cX_9 cX_10 cN_b cN_f cN_0 cN_1 cN_2 cN_3 cN_4 cE_b cE_f cE_0 cE_1 cE_2 cE_3 cE_4
      refine (IE.2.out _ (var_keep B6.out VV.out)).mono ?_; rintro e w7 ⟨rfl, b7⟩
      have d7 : Below w6.heap.size w6 w7 := below_step (by repeat (first | exact Below.refl _ _ | refine _root_.Go.below_drewN ?_ _ | refine Below.drew ?_ | refine Below.setCell ?_ (by first | (simp; done) | (simp; omega) | omega) _ | refine Below.alloc ?_ (by first | (simp; done) | (simp; omega) | omega) _)) b7
      have B7 := Lib.hid (below_step B6.out d7)
      have X7 := X6.keep d7
      have N7 := N6.keep d7
      have E7 := E6.keep d7
      clear X6 N6 E6 b7 d7 B6
      have cX_b := X7.hb
      have cX_f := X7.fz
      have cX_0 := X7.k0
      have cX_1 := X7.k1
      have cX_2 := X7.k2
      have cX_3 := X7.k3
      have cX_4 := X7.k4
      have cX_5 := X7.k5
      have cX_6 := X7.k6
      have cX_7 := X7.k7
      have cX_8 := X7.k8
      have cX_9 := X7.k9
      have cX_10 := X7.k10
      have cN_b := N7.hb
      have cN_f := N7.fz
      have cN_0 := N7.k0
      have cN_1 := N7.k1
      have cN_2 := N7.k2
      have cN_3 := N7.k3
      have cN_4 := N7.k4
      have cE_b := E7.hb
      have cE_f := E7.fz
      have cE_0 := E7.k0
      have cE_1 := E7.k1
      have cE_2 := E7.k2
      have cE_3 := E7.k3
      have cE_4 := E7.k4
      go_wp2_with fail
      clear cX_b cX_f cX_0 cX_1 cX_2 cX_3 cX_4 cX_5 cX_6 cX_7 cX_8 cX_9 cX_10 cN_b cN_f cN_0 cN_1 cN_2 cN_3 cN_4 cE_b cE_f cE_0 cE_1 cE_2 cE_3 cE_4
      refine (LO.out _ (var_keep (below_step B7.out (by repeat (first | exact Below.refl _ _ | refine _root_.Go.below_drewN ?_ _ | refine Below.drew ?_ | refine Below.setCell ?_ (by first | (simp; done) | (simp; omega) | omega) _ | refine Below.alloc ?_ (by first | (simp; done) | (simp; omega) | omega) _))) TT.out)).mono ?_; rintro e w8 ⟨rfl, b8⟩
      have d8 : Below w7.heap.size w7 w8 := below_step (by repeat (first | exact Below.refl _ _ | refine _root_.Go.below_drewN ?_ _ | refine Below.drew ?_ | refine Below.setCell ?_ (by first | (simp; done) | (simp; omega) | omega) _ | refine Below.alloc ?_ (by first | (simp; done) | (simp; omega) | omega) _)) b8
      have B8 := Lib.hid (below_step B7.out d8)
      have X8 := X7.keep d8
      have N8 := N7.keep d8
      have E8 := E7.keep d8
      have aG := B7.out.size
      have nGX := Nat.ne_of_lt X7.hb
      have oGX := Nat.ne_of_gt X7.hb
      have nGN := Nat.ne_of_lt N7.hb
      have oGN := Nat.ne_of_gt N7.hb
      have nGE := Nat.ne_of_lt E7.hb
      have oGE := Nat.ne_of_gt E7.hb
      have G8 : Bk5 w8 (w7.heap.size) (.int .i64 e1) (.int .i64 e2) (.int .i64 e3) (.int .i64 e4) (.string e5) := Bk5.of b8 (by simp <;> omega) (by intro j; simp [go_sem]) (by simp [go_sem]) (by simp [go_sem]) (by simp [go_sem]) (by simp [go_sem]) (by simp [go_sem])
      clear X7 N7 E7 b8 d8 B7
      by_cases k1 : k = 1
      · obtain ⟨rfl, rfl⟩ := f1 k1 (by first | rfl | trivial)
        subst k1
        have cX_b := X8.hb
        have cX_f := X8.fz
        have cX_0 := X8.k0
        have cX_1 := X8.k1
        have cX_2 := X8.k2
        have cX_3 := X8.k3
        have cX_4 := X8.k4
        have cX_5 := X8.k5
        have cX_6 := X8.k6
        have cX_7 := X8.k7
        have cX_8 := X8.k8
        have cX_9 := X8.k9
        have cX_10 := X8.k10
        have cN_b := N8.hb
        have cN_f := N8.fz
        have cN_0 := N8.k0
        have cN_1 := N8.k1
        have cN_2 := N8.k2
        have cN_3 := N8.k3
        have cN_4 := N8.k4
        have cE_b := E8.hb
        have cE_f := E8.fz
        have cE_0 := E8.k0
        have cE_1 := E8.k1
        have cE_2 := E8.k2
        have cE_3 := E8.k3
        have cE_4 := E8.k4
        have cG_b := G8.hb
        have cG_f := G8.fz
        have cG_0 := G8.k0
        have cG_1 := G8.k1
        have cG_2 := G8.k2
        have cG_3 := G8.k3
        have cG_4 := G8.k4
        go_wp2_with fail
        clear cX_b cX_f cX_0 cX_1 cX_2 cX_3 cX_4 cX_5 cX_6 cX_7 cX_8 cX_9 cX_10 cN_b cN_f cN_0 cN_1 cN_2 cN_3 cN_4 cE_b cE_f cE_0 cE_1 cE_2 cE_3 cE_4 cG_b cG_f cG_0 cG_1 cG_2 cG_3 cG_4
        go_ret
        exact ⟨rfl, B8.out⟩
      have g1 : (k == 1) = false := by rw [beq_eq_false_iff_ne]; exact k1
      by_cases hy2 : y2 = 0
      · subst hy2
        by_cases k2 : k = 2
        · obtain ⟨rfl, rfl⟩ := f2 k2 (by first | rfl | trivial) (by first | rfl | trivial)
          subst k2
          have cX_b := X8.hb
          have cX_f := X8.fz
          have cX_0 := X8.k0
          have cX_1 := X8.k1
          have cX_2 := X8.k2
          have cX_3 := X8.k3
          have cX_4 := X8.k4
          have cX_5 := X8.k5
          have cX_6 := X8.k6
          have cX_7 := X8.k7
          have cX_8 := X8.k8
          have cX_9 := X8.k9
          have cX_10 := X8.k10
          have cN_b := N8.hb
          have cN_f := N8.fz
          have cN_0 := N8.k0
          have cN_1 := N8.k1
          have cN_2 := N8.k2
          have cN_3 := N8.k3
          have cN_4 := N8.k4
          have cE_b := E8.hb
          have cE_f := E8.fz
          have cE_0 := E8.k0
          have cE_1 := E8.k1
          have cE_2 := E8.k2
          have cE_3 := E8.k3
          have cE_4 := E8.k4
          have cG_b := G8.hb
          have cG_f := G8.fz
          have cG_0 := G8.k0
          have cG_1 := G8.k1
          have cG_2 := G8.k2
          have cG_3 := G8.k3
          have cG_4 := G8.k4
          go_wp2_with fail
          clear cX_b cX_f cX_0 cX_1 cX_2 cX_3 cX_4 cX_5 cX_6 cX_7 cX_8 cX_9 cX_10 cN_b cN_f cN_0 cN_1 cN_2 cN_3 cN_4 cE_b cE_f cE_0 cE_1 cE_2 cE_3 cE_4 cG_b cG_f cG_0 cG_1 cG_2 cG_3 cG_4
          go_ret
          exact ⟨rfl, B8.out⟩
        by_cases k3 : k = 3
        · obtain ⟨rfl, rfl⟩ := f3 k3 (by first | rfl | trivial) (by first | rfl | trivial)
          subst k3
          have cX_b := X8.hb
          have cX_f := X8.fz
          have cX_0 := X8.k0
          have cX_1 := X8.k1
          have cX_2 := X8.k2
          have cX_3 := X8.k3
          have cX_4 := X8.k4
          have cX_5 := X8.k5
          have cX_6 := X8.k6
          have cX_7 := X8.k7
          have cX_8 := X8.k8
          have cX_9 := X8.k9
          have cX_10 := X8.k10
          have cN_b := N8.hb
          have cN_f := N8.fz
          have cN_0 := N8.k0
          have cN_1 := N8.k1
          have cN_2 := N8.k2
          have cN_3 := N8.k3
          have cN_4 := N8.k4
          have cE_b := E8.hb
          have cE_f := E8.fz
          have cE_0 := E8.k0
          have cE_1 := E8.k1
          have cE_2 := E8.k2
          have cE_3 := E8.k3
          have cE_4 := E8.k4
          have cG_b := G8.hb
          have cG_f := G8.fz
          have cG_0 := G8.k0
          have cG_1 := G8.k1
          have cG_2 := G8.k2
          have cG_3 := G8.k3
          have cG_4 := G8.k4
          go_wp2_with fail
          clear cX_b cX_f cX_0 cX_1 cX_2 cX_3 cX_4 cX_5 cX_6 cX_7 cX_8 cX_9 cX_10 cN_b cN_f cN_0 cN_1 cN_2 cN_3 cN_4 cE_b cE_f cE_0 cE_1 cE_2 cE_3 cE_4 cG_b cG_f cG_0 cG_1 cG_2 cG_3 cG_4
          go_ret
          exact ⟨rfl, B8.out⟩
        have g2 : (k == 2) = false := by rw [beq_eq_false_iff_ne]; exact k2
        have g3 : (k == 3) = false := by rw [beq_eq_false_iff_ne]; exact k3
        obtain ⟨hyl, rfl⟩ := ln k1 (fun h => h.1.elim k2 k3)
        have gm : (yl != 0) = true := by simp [hyl]
        have cX_b := X8.hb
        have cX_f := X8.fz
        have cX_0 := X8.k0
        have cX_1 := X8.k1
        have cX_2 := X8.k2
        have cX_3 := X8.k3
        have cX_4 := X8.k4
        have cX_5 := X8.k5
        have cX_6 := X8.k6
        have cX_7 := X8.k7
        have cX_8 := X8.k8
        have cX_9 := X8.k9
        have cX_10 := X8.k10
        have cN_b := N8.hb
        have cN_f := N8.fz
        have cN_0 := N8.k0
        have cN_1 := N8.k1
        have cN_2 := N8.k2
        have cN_3 := N8.k3
        have cN_4 := N8.k4
        have cE_b := E8.hb
        have cE_f := E8.fz
        have cE_0 := E8.k0
        have cE_1 := E8.k1
        have cE_2 := E8.k2
        have cE_3 := E8.k3
        have cE_4 := E8.k4
        have cG_b := G8.hb
        have cG_f := G8.fz
        have cG_0 := G8.k0
        have cG_1 := G8.k1
        have cG_2 := G8.k2
        have cG_3 := G8.k3
        have cG_4 := G8.k4
        go_wp2_with fail
        clear cX_b cX_f cX_0 cX_1 cX_2 cX_3 cX_4 cX_5 cX_6 cX_7 cX_8 cX_9 cX_10 cN_b cN_f cN_0 cN_1 cN_2 cN_3 cN_4 cE_b cE_f cE_0 cE_1 cE_2 cE_3 cE_4 cG_b cG_f cG_0 cG_1 cG_2 cG_3 cG_4
        go_ret
        exact ⟨rfl, B8.out⟩
      · have gy2 : (y2 == 0) = false := by rw [beq_eq_false_iff_ne]; exact hy2
        by_cases k2 : k = 2
        · obtain ⟨hyl, rfl⟩ := ln k1 (fun h => hy2 h.2.2)
          clear ln
          subst k2
          have gm : (yl != 0) = true := by simp [hyl]
          have cX_b := X8.hb
          have cX_f := X8.fz
          have cX_0 := X8.k0
          have cX_1 := X8.k1
          have cX_2 := X8.k2
          have cX_3 := X8.k3
          have cX_4 := X8.k4
          have cX_5 := X8.k5
          have cX_6 := X8.k6
          have cX_7 := X8.k7
          have cX_8 := X8.k8
          have cX_9 := X8.k9
          have cX_10 := X8.k10
          have cN_b := N8.hb
          have cN_f := N8.fz
          have cN_0 := N8.k0
          have cN_1 := N8.k1
          have cN_2 := N8.k2
          have cN_3 := N8.k3
          have cN_4 := N8.k4
          have cE_b := E8.hb
          have cE_f := E8.fz
          have cE_0 := E8.k0
          have cE_1 := E8.k1
          have cE_2 := E8.k2
          have cE_3 := E8.k3
          have cE_4 := E8.k4
          have cG_b := G8.hb
          have cG_f := G8.fz
          have cG_0 := G8.k0
          have cG_1 := G8.k1
          have cG_2 := G8.k2
          have cG_3 := G8.k3
          have cG_4 := G8.k4
          go_wp2_with fail
          clear cX_b cX_f cX_0 cX_1 cX_2 cX_3 cX_4 cX_5 cX_6 cX_7 cX_8 cX_9 cX_10 cN_b cN_f cN_0 cN_1 cN_2 cN_3 cN_4 cE_b cE_f cE_0 cE_1 cE_2 cE_3 cE_4 cG_b cG_f cG_0 cG_1 cG_2 cG_3 cG_4
          go_ret
          exact ⟨rfl, B8.out⟩
        have g2 : (k == 2) = false := by rw [beq_eq_false_iff_ne]; exact k2
        by_cases k3 : k = 3
        · obtain ⟨hyl, rfl⟩ := ln k1 (fun h => hy2 h.2.2)
          clear ln
          subst k3
          have gm : (yl != 0) = true := by simp [hyl]
          have cX_b := X8.hb
          have cX_f := X8.fz
          have cX_0 := X8.k0
          have cX_1 := X8.k1
          have cX_2 := X8.k2
          have cX_3 := X8.k3
          have cX_4 := X8.k4
          have cX_5 := X8.k5
          have cX_6 := X8.k6
          have cX_7 := X8.k7
          have cX_8 := X8.k8
          have cX_9 := X8.k9
          have cX_10 := X8.k10
          have cN_b := N8.hb
          have cN_f := N8.fz
          have cN_0 := N8.k0
          have cN_1 := N8.k1
          have cN_2 := N8.k2
          have cN_3 := N8.k3
          have cN_4 := N8.k4
          have cE_b := E8.hb
          have cE_f := E8.fz
          have cE_0 := E8.k0
          have cE_1 := E8.k1
          have cE_2 := E8.k2
          have cE_3 := E8.k3
          have cE_4 := E8.k4
          have cG_b := G8.hb
          have cG_f := G8.fz
          have cG_0 := G8.k0
          have cG_1 := G8.k1
          have cG_2 := G8.k2
          have cG_3 := G8.k3
          have cG_4 := G8.k4
          go_wp2_with fail
          clear cX_b cX_f cX_0 cX_1 cX_2 cX_3 cX_4 cX_5 cX_6 cX_7 cX_8 cX_9 cX_10 cN_b cN_f cN_0 cN_1 cN_2 cN_3 cN_4 cE_b cE_f cE_0 cE_1 cE_2 cE_3 cE_4 cG_b cG_f cG_0 cG_1 cG_2 cG_3 cG_4
          go_ret
          exact ⟨rfl, B8.out⟩
        have g3 : (k == 3) = false := by rw [beq_eq_false_iff_ne]; exact k3
        obtain ⟨hyl, rfl⟩ := ln k1 (fun h => hy2 h.2.2)
        have gm : (yl != 0) = true := by simp [hyl]
        have cX_b := X8.hb
        have cX_f := X8.fz
        have cX_0 := X8.k0
        have cX_1 := X8.k1
        have cX_2 := X8.k2
        have cX_3 := X8.k3
        have cX_4 := X8.k4
        have cX_5 := X8.k5
        have cX_6 := X8.k6
        have cX_7 := X8.k7
        have cX_8 := X8.k8
        have cX_9 := X8.k9
        have cX_10 := X8.k10
        have cN_b := N8.hb
        have cN_f := N8.fz
        have cN_0 := N8.k0
        have cN_1 := N8.k1
        have cN_2 := N8.k2
        have cN_3 := N8.k3
        have cN_4 := N8.k4
        have cE_b := E8.hb
        have cE_f := E8.fz
        have cE_0 := E8.k0
        have cE_1 := E8.k1
        have cE_2 := E8.k2
        have cE_3 := E8.k3
        have cE_4 := E8.k4
        have cG_b := G8.hb
        have cG_f := G8.fz
        have cG_0 := G8.k0
        have cG_1 := G8.k1
        have cG_2 := G8.k2
        have cG_3 := G8.k3
        have cG_4 := G8.k4
        go_wp2_with fail
        clear cX_b cX_f cX_0 cX_1 cX_2 cX_3 cX_4 cX_5 cX_6 cX_7 cX_8 cX_9 cX_10 cN_b cN_f cN_0 cN_1 cN_2 cN_3 cN_4 cE_b cE_f cE_0 cE_1 cE_2 cE_3 cE_4 cG_b cG_f cG_0 cG_1 cG_2 cG_3 cG_4
        go_ret
        exact ⟨rfl, B8.out⟩
    · have gy3 : (y3 == 0) = false := by rw [beq_eq_false_iff_ne]; exact hy3
      clear IE0
      go_enter Tryz.func4, Tryz.ntmps4
      go_wp2_with fail
      refine (LV.out _ (var_keep (by repeat (first | exact Below.refl _ _ | refine _root_.Go.below_drewN ?_ _ | refine Below.drew ?_ | refine Below.setCell ?_ (by first | (simp; done) | (simp; omega) | omega) _ | refine Below.alloc ?_ (by first | (simp; done) | (simp; omega) | omega) _)) TT.out) (var_keep (by repeat (first | exact Below.refl _ _ | refine _root_.Go.below_drewN ?_ _ | refine Below.drew ?_ | refine Below.setCell ?_ (by first | (simp; done) | (simp; omega) | omega) _ | refine Below.alloc ?_ (by first | (simp; done) | (simp; omega) | omega) _)) VV.out)).mono ?_; rintro e w1 ⟨rfl, b1⟩
      have d1 : Below w.heap.size w w1 := below_step (by repeat (first | exact Below.refl _ _ | refine _root_.Go.below_drewN ?_ _ | refine Below.drew ?_ | refine Below.setCell ?_ (by first | (simp; done) | (simp; omega) | omega) _ | refine Below.alloc ?_ (by first | (simp; done) | (simp; omega) | omega) _)) b1
      have B1 := Lib.hid d1
      have X1 : Bk11 w1 (w.heap.size) (.int .i64 k) (.int .i64 a) (.int .i64 b) (.int .i64 c) (.int .i64 d) (.string x) (.int .i64 a') (.int .i64 b') (.int .i64 c') (.int .i64 d') (.string x') := Bk11.of b1 (by simp <;> omega) (by intro j; simp [go_sem]) (by simp [go_sem]) (by simp [go_sem]) (by simp [go_sem]) (by simp [go_sem]) (by simp [go_sem]) (by simp [go_sem]) (by simp [go_sem]) (by simp [go_sem]) (by simp [go_sem]) (by simp [go_sem]) (by simp [go_sem])
      clear b1 d1
      have cX_b := X1.hb
      have cX_f := X1.fz
      have cX_0 := X1.k0
      have cX_1 := X1.k1
      have cX_2 := X1.k2
      have cX_3 := X1.k3
      have cX_4 := X1.k4
      have cX_5 := X1.k5
      have cX_6 := X1.k6
      have cX_7 := X1.k7
      have cX_8 := X1.k8
      have cX_9 := X1.k9
      have cX_10 := X1.k10
      go_wp2_with fail
      clear cX_b cX_f cX_0 cX_1 cX_2 cX_3 cX_4 cX_5 cX_6 cX_7 cX_8 cX_9 cX_10
      refine (IA.out _ (var_keep B1.out TT.out)).mono ?_; rintro e w2 ⟨rfl, b2⟩
      have d2 : Below w1.heap.size w1 w2 := below_step (by repeat (first | exact Below.refl _ _ | refine _root_.Go.below_drewN ?_ _ | refine Below.drew ?_ | refine Below.setCell ?_ (by first | (simp; done) | (simp; omega) | omega) _ | refine Below.alloc ?_ (by first | (simp; done) | (simp; omega) | omega) _)) b2
      have B2 := Lib.hid (below_step B1.out d2)
      have X2 := X1.keep d2
      clear X1 b2 d2 B1
      have cX_b := X2.hb
      have cX_f := X2.fz
      have cX_0 := X2.k0
      have cX_1 := X2.k1
      have cX_2 := X2.k2
      have cX_3 := X2.k3
      have cX_4 := X2.k4
      have cX_5 := X2.k5
      have cX_6 := X2.k6
      have cX_7 := X2.k7
      have cX_8 := X2.k8
      have cX_9 := X2.k9
      have cX_10 := X2.k10
      go_wp2_with fail
      clear cX_b cX_f cX_0 cX_1 cX_2 cX_3 cX_4 cX_5 cX_6 cX_7 cX_8 cX_9 cX_10
      refine (IB.out _ (var_keep B2.out TT.out)).mono ?_; rintro e w3 ⟨rfl, b3⟩
      have d3 : Below w2.heap.size w2 w3 := below_step (by repeat (first | exact Below.refl _ _ | refine _root_.Go.below_drewN ?_ _ | refine Below.drew ?_ | refine Below.setCell ?_ (by first | (simp; done) | (simp; omega) | omega) _ | refine Below.alloc ?_ (by first | (simp; done) | (simp; omega) | omega) _)) b3
      have B3 := Lib.hid (below_step B2.out d3)
      have X3 := X2.keep d3
      clear X2 b3 d3 B2
      have cX_b := X3.hb
      have cX_f := X3.fz
      have cX_0 := X3.k0
      have cX_1 := X3.k1
      have cX_2 := X3.k2
      have cX_3 := X3.k3
      have cX_4 := X3.k4
      have cX_5 := X3.k5
      have cX_6 := X3.k6
      have cX_7 := X3.k7
      have cX_8 := X3.k8
      have cX_9 := X3.k9
      have cX_10 := X3.k10
      go_wp2_with fail
      clear cX_b cX_f cX_0 cX_1 cX_2 cX_3 cX_4 cX_5 cX_6 cX_7 cX_8 cX_9 cX_10
      refine (RA.out _ (var_keep B3.out VV.out)).mono ?_; rintro e w4 ⟨rfl, b4⟩
      have d4 : Below w3.heap.size w3 w4 := below_step (by repeat (first | exact Below.refl _ _ | refine _root_.Go.below_drewN ?_ _ | refine Below.drew ?_ | refine Below.setCell ?_ (by first | (simp; done) | (simp; omega) | omega) _ | refine Below.alloc ?_ (by first | (simp; done) | (simp; omega) | omega) _)) b4
      have B4 := Lib.hid (below_step B3.out d4)
      have X4 := X3.keep d4
      clear X3 b4 d4 B3
      have cX_b := X4.hb
      have cX_f := X4.fz
      have cX_0 := X4.k0
      have cX_1 := X4.k1
      have cX_2 := X4.k2
      have cX_3 := X4.k3
      have cX_4 := X4.k4
      have cX_5 := X4.k5
      have cX_6 := X4.k6
      have cX_7 := X4.k7
      have cX_8 := X4.k8
      have cX_9 := X4.k9
      have cX_10 := X4.k10
      go_wp2_with fail
      clear cX_b cX_f cX_0 cX_1 cX_2 cX_3 cX_4 cX_5 cX_6 cX_7 cX_8 cX_9 cX_10
      refine (RS.out _ (var_keep (below_step B4.out (by repeat (first | exact Below.refl _ _ | refine _root_.Go.below_drewN ?_ _ | refine Below.drew ?_ | refine Below.setCell ?_ (by first | (simp; done) | (simp; omega) | omega) _ | refine Below.alloc ?_ (by first | (simp; done) | (simp; omega) | omega) _))) VV.out)).mono ?_; rintro e w5 ⟨rfl, b5⟩
      have d5 : Below w4.heap.size w4 w5 := below_step (by repeat (first | exact Below.refl _ _ | refine _root_.Go.below_drewN ?_ _ | refine Below.drew ?_ | refine Below.setCell ?_ (by first | (simp; done) | (simp; omega) | omega) _ | refine Below.alloc ?_ (by first | (simp; done) | (simp; omega) | omega) _)) b5
      have B5 := Lib.hid (below_step B4.out d5)
      have X5 := X4.keep d5
      have aN := B4.out.size
      have nNX := Nat.ne_of_lt X4.hb
      have oNX := Nat.ne_of_gt X4.hb
      have N5 : Bk5 w5 (w4.heap.size) (.int .i64 a) (.int .i64 b) (.int .i64 c) (.int .i64 d) (.string x) := Bk5.of b5 (by simp <;> omega) (by intro j; simp [go_sem]) (by simp [go_sem]) (by simp [go_sem]) (by simp [go_sem]) (by simp [go_sem]) (by simp [go_sem])
      clear X4 b5 d5 B4
      have cX_b := X5.hb
      have cX_f := X5.fz
      have cX_0 := X5.k0
      have cX_1 := X5.k1
      have cX_2 := X5.k2
      have cX_3 := X5.k3
      have cX_4 := X5.k4
      have cX_5 := X5.k5
      have cX_6 := X5.k6
      have cX_7 := X5.k7
      have cX_8 := X5.k8
      have cX_9 := X5.k9
      have cX_10 := X5.k10
      have cN_b := N5.hb
      have cN_f := N5.fz
      have cN_0 := N5.k0
      have cN_1 := N5.k1
      have cN_2 := N5.k2
      have cN_3 := N5.k3
      have cN_4 := N5.k4
      go_wp2_with fail
      clear cX_b cX_f cX_0 cX_1 cX_2 cX_3 cX_4 cX_5 cX_6 cX_7 cX_8 cX_9 cX_10 cN_b cN_f cN_0 cN_1 cN_2 cN_3 cN_4
      refine (LO.out _ (var_keep (below_step B5.out (by repeat (first | exact Below.refl _ _ | refine _root_.Go.below_drewN ?_ _ | refine Below.drew ?_ | refine Below.setCell ?_ (by first | (simp; done) | (simp; omega) | omega) _ | refine Below.alloc ?_ (by first | (simp; done) | (simp; omega) | omega) _))) TT.out)).mono ?_; rintro e w6 ⟨rfl, b6⟩
      have d6 : Below w5.heap.size w5 w6 := below_step (by repeat (first | exact Below.refl _ _ | refine _root_.Go.below_drewN ?_ _ | refine Below.drew ?_ | refine Below.setCell ?_ (by first | (simp; done) | (simp; omega) | omega) _ | refine Below.alloc ?_ (by first | (simp; done) | (simp; omega) | omega) _)) b6
      have B6 := Lib.hid (below_step B5.out d6)
      have X6 := X5.keep d6
      have N6 := N5.keep d6
      have aE := B5.out.size
      have nEX := Nat.ne_of_lt X5.hb
      have oEX := Nat.ne_of_gt X5.hb
      have nEN := Nat.ne_of_lt N5.hb
      have oEN := Nat.ne_of_gt N5.hb
      have E6 : Bk5 w6 (w5.heap.size) (.int .i64 e1) (.int .i64 e2) (.int .i64 e3) (.int .i64 e4) (.string e5) := Bk5.of b6 (by simp <;> omega) (by intro j; simp [go_sem]) (by simp [go_sem]) (by simp [go_sem]) (by simp [go_sem]) (by simp [go_sem]) (by simp [go_sem])
      clear X5 N5 b6 d6 B5
      by_cases k1 : k = 1
      · obtain ⟨rfl, rfl⟩ := f1 k1 (by first | rfl | trivial)
        subst k1
        have cX_b := X6.hb
        have cX_f := X6.fz
        have cX_0 := X6.k0
        have cX_1 := X6.k1
        have cX_2 := X6.k2
        have cX_3 := X6.k3
        have cX_4 := X6.k4
        have cX_5 := X6.k5
        have cX_6 := X6.k6
        have cX_7 := X6.k7
        have cX_8 := X6.k8
        have cX_9 := X6.k9
        have cX_10 := X6.k10
        have cN_b := N6.hb
        have cN_f := N6.fz
        have cN_0 := N6.k0
        have cN_1 := N6.k1
        have cN_2 := N6.k2
        have cN_3 := N6.k3
        have cN_4 := N6.k4
        have cE_b := E6.hb
        have cE_f := E6.fz
        have cE_0 := E6.k0
        have cE_1 := E6.k1
        have cE_2 := E6.k2
        have cE_3 := E6.k3
        have cE_4 := E6.k4
        go_wp2_with fail
        clear cX_b cX_f cX_0 cX_1 cX_2 cX_3 cX_4 cX_5 cX_6 cX_7 cX_8 cX_9 cX_10 cN_b cN_f cN_0 cN_1 cN_2 cN_3 cN_4 cE_b cE_f cE_0 cE_1 cE_2 cE_3 cE_4
        go_ret
        exact ⟨rfl, B6.out⟩
      have g1 : (k == 1) = false := by rw [beq_eq_false_iff_ne]; exact k1
      by_cases hy2 : y2 = 0
      · subst hy2
        by_cases k2 : k = 2
        · obtain ⟨rfl, rfl⟩ := f2 k2 (by first | rfl | trivial) (by first | rfl | trivial)
          subst k2
          have cX_b := X6.hb
          have cX_f := X6.fz
          have cX_0 := X6.k0
          have cX_1 := X6.k1
          have cX_2 := X6.k2
          have cX_3 := X6.k3
          have cX_4 := X6.k4
          have cX_5 := X6.k5
          have cX_6 := X6.k6
          have cX_7 := X6.k7
          have cX_8 := X6.k8
          have cX_9 := X6.k9
          have cX_10 := X6.k10
          have cN_b := N6.hb
          have cN_f := N6.fz
          have cN_0 := N6.k0
          have cN_1 := N6.k1
          have cN_2 := N6.k2
          have cN_3 := N6.k3
          have cN_4 := N6.k4
          have cE_b := E6.hb
          have cE_f := E6.fz
          have cE_0 := E6.k0
          have cE_1 := E6.k1
          have cE_2 := E6.k2
          have cE_3 := E6.k3
          have cE_4 := E6.k4
          go_wp2_with fail
          clear cX_b cX_f cX_0 cX_1 cX_2 cX_3 cX_4 cX_5 cX_6 cX_7 cX_8 cX_9 cX_10 cN_b cN_f cN_0 cN_1 cN_2 cN_3 cN_4 cE_b cE_f cE_0 cE_1 cE_2 cE_3 cE_4
          go_ret
          exact ⟨rfl, B6.out⟩
        by_cases k3 : k = 3
        · obtain ⟨rfl, rfl⟩ := f3 k3 (by first | rfl | trivial) (by first | rfl | trivial)
          subst k3
          have cX_b := X6.hb
          have cX_f := X6.fz
          have cX_0 := X6.k0
          have cX_1 := X6.k1
          have cX_2 := X6.k2
          have cX_3 := X6.k3
          have cX_4 := X6.k4
          have cX_5 := X6.k5
          have cX_6 := X6.k6
          have cX_7 := X6.k7
          have cX_8 := X6.k8
          have cX_9 := X6.k9
          have cX_10 := X6.k10
          have cN_b := N6.hb
          have cN_f := N6.fz
          have cN_0 := N6.k0
          have cN_1 := N6.k1
          have cN_2 := N6.k2
          have cN_3 := N6.k3
          have cN_4 := N6.k4
          have cE_b := E6.hb
          have cE_f := E6.fz
          have cE_0 := E6.k0
          have cE_1 := E6.k1
          have cE_2 := E6.k2
          have cE_3 := E6.k3
          have cE_4 := E6.k4
          go_wp2_with fail
          clear cX_b cX_f cX_0 cX_1 cX_2 cX_3 cX_4 cX_5 cX_6 cX_7 cX_8 cX_9 cX_10 cN_b cN_f cN_0 cN_1 cN_2 cN_3 cN_4 cE_b cE_f cE_0 cE_1 cE_2 cE_3 cE_4
          go_ret
          exact ⟨rfl, B6.out⟩
        have g2 : (k == 2) = false := by rw [beq_eq_false_iff_ne]; exact k2
        have g3 : (k == 3) = false := by rw [beq_eq_false_iff_ne]; exact k3
        obtain ⟨hyl, rfl⟩ := ln k1 (fun h => h.1.elim k2 k3)
        have gm : (yl != 0) = true := by simp [hyl]
        have cX_b := X6.hb
        have cX_f := X6.fz
        have cX_0 := X6.k0
        have cX_1 := X6.k1
        have cX_2 := X6.k2
        have cX_3 := X6.k3
        have cX_4 := X6.k4
        have cX_5 := X6.k5
        have cX_6 := X6.k6
        have cX_7 := X6.k7
        have cX_8 := X6.k8
        have cX_9 := X6.k9
        have cX_10 := X6.k10
        have cN_b := N6.hb
        have cN_f := N6.fz
        have cN_0 := N6.k0
        have cN_1 := N6.k1
        have cN_2 := N6.k2
        have cN_3 := N6.k3
        have cN_4 := N6.k4
        have cE_b := E6.hb
        have cE_f := E6.fz
        have cE_0 := E6.k0
        have cE_1 := E6.k1
        have cE_2 := E6.k2
        have cE_3 := E6.k3
        have cE_4 := E6.k4
        go_wp2_with fail
        clear cX_b cX_f cX_0 cX_1 cX_2 cX_3 cX_4 cX_5 cX_6 cX_7 cX_8 cX_9 cX_10 cN_b cN_f cN_0 cN_1 cN_2 cN_3 cN_4 cE_b cE_f cE_0 cE_1 cE_2 cE_3 cE_4
        go_ret
        exact ⟨rfl, B6.out⟩
      · have gy2 : (y2 == 0) = false := by rw [beq_eq_false_iff_ne]; exact hy2
        by_cases k2 : k = 2
        · obtain ⟨hyl, rfl⟩ := ln k1 (fun h => hy2 h.2.2)
          clear ln
          subst k2
          have gm : (yl != 0) = true := by simp [hyl]
          have cX_b := X6.hb
          have cX_f := X6.fz
          have cX_0 := X6.k0
          have cX_1 := X6.k1
          have cX_2 := X6.k2
          have cX_3 := X6.k3
          have cX_4 := X6.k4
          have cX_5 := X6.k5
          have cX_6 := X6.k6
          have cX_7 := X6.k7
          have cX_8 := X6.k8
          have cX_9 := X6.k9
          have cX_10 := X6.k10
          have cN_b := N6.hb
          have cN_f := N6.fz
          have cN_0 := N6.k0
          have cN_1 := N6.k1
          have cN_2 := N6.k2
          have cN_3 := N6.k3
          have cN_4 := N6.k4
          have cE_b := E6.hb
          have cE_f := E6.fz
          have cE_0 := E6.k0
          have cE_1 := E6.k1
          have cE_2 := E6.k2
          have cE_3 := E6.k3
          have cE_4 := E6.k4
          go_wp2_with fail
          clear cX_b cX_f cX_0 cX_1 cX_2 cX_3 cX_4 cX_5 cX_6 cX_7 cX_8 cX_9 cX_10 cN_b cN_f cN_0 cN_1 cN_2 cN_3 cN_4 cE_b cE_f cE_0 cE_1 cE_2 cE_3 cE_4
          go_ret
          exact ⟨rfl, B6.out⟩
        have g2 : (k == 2) = false := by rw [beq_eq_false_iff_ne]; exact k2
        by_cases k3 : k = 3
        · obtain ⟨hyl, rfl⟩ := ln k1 (fun h => hy2 h.2.2)
          clear ln
          subst k3
          have gm : (yl != 0) = true := by simp [hyl]
          have cX_b := X6.hb
          have cX_f := X6.fz
          have cX_0 := X6.k0
          have cX_1 := X6.k1
          have cX_2 := X6.k2
          have cX_3 := X6.k3
          have cX_4 := X6.k4
          have cX_5 := X6.k5
          have cX_6 := X6.k6
          have cX_7 := X6.k7
          have cX_8 := X6.k8
          have cX_9 := X6.k9
          have cX_10 := X6.k10
          have cN_b := N6.hb
          have cN_f := N6.fz
          have cN_0 := N6.k0
          have cN_1 := N6.k1
          have cN_2 := N6.k2
          have cN_3 := N6.k3
          have cN_4 := N6.k4
          have cE_b := E6.hb
          have cE_f := E6.fz
          have cE_0 := E6.k0
          have cE_1 := E6.k1
          have cE_2 := E6.k2
          have cE_3 := E6.k3
          have cE_4 := E6.k4
          go_wp2_with fail
          clear cX_b cX_f cX_0 cX_1 cX_2 cX_3 cX_4 cX_5 cX_6 cX_7 cX_8 cX_9 cX_10 cN_b cN_f cN_0 cN_1 cN_2 cN_3 cN_4 cE_b cE_f cE_0 cE_1 cE_2 cE_3 cE_4
          go_ret
          exact ⟨rfl, B6.out⟩
        have g3 : (k == 3) = false := by rw [beq_eq_false_iff_ne]; exact k3
        obtain ⟨hyl, rfl⟩ := ln k1 (fun h => hy2 h.2.2)
        have gm : (yl != 0) = true := by simp [hyl]
        have cX_b := X6.hb
        have cX_f := X6.fz
        have cX_0 := X6.k0
        have cX_1 := X6.k1
        have cX_2 := X6.k2
        have cX_3 := X6.k3
        have cX_4 := X6.k4
        have cX_5 := X6.k5
        have cX_6 := X6.k6
        have cX_7 := X6.k7
        have cX_8 := X6.k8
        have cX_9 := X6.k9
        have cX_10 := X6.k10
        have cN_b := N6.hb
        have cN_f := N6.fz
        have cN_0 := N6.k0
        have cN_1 := N6.k1
        have cN_2 := N6.k2
        have cN_3 := N6.k3
        have cN_4 := N6.k4
        have cE_b := E6.hb
        have cE_f := E6.fz
        have cE_0 := E6.k0
        have cE_1 := E6.k1
        have cE_2 := E6.k2
        have cE_3 := E6.k3
        have cE_4 := E6.k4
        go_wp2_with fail
        clear cX_b cX_f cX_0 cX_1 cX_2 cX_3 cX_4 cX_5 cX_6 cX_7 cX_8 cX_9 cX_10 cN_b cN_f cN_0 cN_1 cN_2 cN_3 cN_4 cE_b cE_f cE_0 cE_1 cE_2 cE_3 cE_4
        go_ret
        exact ⟨rfl, B6.out⟩
  · have gy1 : (y1 == 0) = false := by rw [beq_eq_false_iff_ne]; exact hy1
    clear RA0 f1 f2 f3
    by_cases hy3 : y3 = 0
    · subst hy3
      have IE := IE0 rfl
      clear IE0
      go_enter Tryz.func4, Tryz.ntmps4
      go_wp2_with fail
      refine (LV.out _ (var_keep (by repeat (first | exact Below.refl _ _ | refine _root_.Go.below_drewN ?_ _ | refine Below.drew ?_ | refine Below.setCell ?_ (by first | (simp; done) | (simp; omega) | omega) _ | refine Below.alloc ?_ (by first | (simp; done) | (simp; omega) | omega) _)) TT.out) (var_keep (by repeat (first | exact Below.refl _ _ | refine _root_.Go.below_drewN ?_ _ | refine Below.drew ?_ | refine Below.setCell ?_ (by first | (simp; done) | (simp; omega) | omega) _ | refine Below.alloc ?_ (by first | (simp; done) | (simp; omega) | omega) _)) VV.out)).mono ?_; rintro e w1 ⟨rfl, b1⟩
      have d1 : Below w.heap.size w w1 := below_step (by repeat (first | exact Below.refl _ _ | refine _root_.Go.below_drewN ?_ _ | refine Below.drew ?_ | refine Below.setCell ?_ (by first | (simp; done) | (simp; omega) | omega) _ | refine Below.alloc ?_ (by first | (simp; done) | (simp; omega) | omega) _)) b1
      have B1 := Lib.hid d1
      have X1 : Bk11 w1 (w.heap.size) (.int .i64 k) (.int .i64 a) (.int .i64 b) (.int .i64 c) (.int .i64 d) (.string x) (.int .i64 a') (.int .i64 b') (.int .i64 c') (.int .i64 d') (.string x') := Bk11.of b1 (by simp <;> omega) (by intro j; simp [go_sem]) (by simp [go_sem]) (by simp [go_sem]) (by simp [go_sem]) (by simp [go_sem]) (by simp [go_sem]) (by simp [go_sem]) (by simp [go_sem]) (by simp [go_sem]) (by simp [go_sem]) (by simp [go_sem]) (by simp [go_sem])
      clear b1 d1
      have cX_b := X1.hb
      have cX_f := X1.fz
      have cX_0 := X1.k0
      have cX_1 := X1.k1
      have cX_2 := X1.k2
      have cX_3 := X1.k3
      have cX_4 := X1.k4
      have cX_5 := X1.k5
      have cX_6 := X1.k6
      have cX_7 := X1.k7
      have cX_8 := X1.k8
      have cX_9 := X1.k9
      have cX_10 := X1.k10
      go_wp2_with fail
      clear cX_b cX_f cX_0 cX_1 cX_2 cX_3 cX_4 cX_5 cX_6 cX_7 cX_8 cX_9 cX_10
      refine (IA.out _ (var_keep B1.out TT.out)).mono ?_; rintro e w2 ⟨rfl, b2⟩
      have d2 : Below w1.heap.size w1 w2 := below_step (by repeat (first | exact Below.refl _ _ | refine _root_.Go.below_drewN ?_ _ | refine Below.drew ?_ | refine Below.setCell ?_ (by first | (simp; done) | (simp; omega) | omega) _ | refine Below.alloc ?_ (by first | (simp; done) | (simp; omega) | omega) _)) b2
      have B2 := Lib.hid (below_step B1.out d2)
      have X2 := X1.keep d2
      clear X1 b2 d2 B1
      have cX_b := X2.hb
      have cX_f := X2.fz
      have cX_0 := X2.k0
      have cX_1 := X2.k1
      have cX_2 := X2.k2
      have cX_3 := X2.k3
      have cX_4 := X2.k4
      have cX_5 := X2.k5
      have cX_6 := X2.k6
      have cX_7 := X2.k7
      have cX_8 := X2.k8
      have cX_9 := X2.k9
      have cX_10 := X2.k10
      go_wp2_with fail
      clear cX_b cX_f cX_0 cX_1 cX_2 cX_3 cX_4 cX_5 cX_6 cX_7 cX_8 cX_9 cX_10
      refine (IB.out _ (var_keep B2.out TT.out)).mono ?_; rintro e w3 ⟨rfl, b3⟩
      have d3 : Below w2.heap.size w2 w3 := below_step (by repeat (first | exact Below.refl _ _ | refine _root_.Go.below_drewN ?_ _ | refine Below.drew ?_ | refine Below.setCell ?_ (by first | (simp; done) | (simp; omega) | omega) _ | refine Below.alloc ?_ (by first | (simp; done) | (simp; omega) | omega) _)) b3
      have B3 := Lib.hid (below_step B2.out d3)
      have X3 := X2.keep d3
      clear X2 b3 d3 B2
      have cX_b := X3.hb
      have cX_f := X3.fz
      have cX_0 := X3.k0
      have cX_1 := X3.k1
      have cX_2 := X3.k2
      have cX_3 := X3.k3
      have cX_4 := X3.k4
      have cX_5 := X3.k5
      have cX_6 := X3.k6
      have cX_7 := X3.k7
      have cX_8 := X3.k8
      have cX_9 := X3.k9
      have cX_10 := X3.k10
      go_wp2_with fail
      clear cX_b cX_f cX_0 cX_1 cX_2 cX_3 cX_4 cX_5 cX_6 cX_7 cX_8 cX_9 cX_10
      refine (RS.out _ (var_keep B3.out VV.out)).mono ?_; rintro e w4 ⟨rfl, b4⟩
      have d4 : Below w3.heap.size w3 w4 := below_step (by repeat (first | exact Below.refl _ _ | refine _root_.Go.below_drewN ?_ _ | refine Below.drew ?_ | refine Below.setCell ?_ (by first | (simp; done) | (simp; omega) | omega) _ | refine Below.alloc ?_ (by first | (simp; done) | (simp; omega) | omega) _)) b4
      have B4 := Lib.hid (below_step B3.out d4)
      have X4 := X3.keep d4
      clear X3 b4 d4 B3
      have cX_b := X4.hb
      have cX_f := X4.fz
      have cX_0 := X4.k0
      have cX_1 := X4.k1
      have cX_2 := X4.k2
      have cX_3 := X4.k3
      have cX_4 := X4.k4
      have cX_5 := X4.k5
      have cX_6 := X4.k6
      have cX_7 := X4.k7
      have cX_8 := X4.k8
      have cX_9 := X4.k9
      have cX_10 := X4.k10
      go_wp2_with fail
      clear cX_b cX_f cX_0 cX_1 cX_2 cX_3 cX_4 cX_5 cX_6 cX_7 cX_8 cX_9 cX_10
      refine (IE.1.out _ (var_keep (below_step B4.out (by repeat (first | exact Below.refl _ _ | refine _root_.Go.below_drewN ?_ _ | refine Below.drew ?_ | refine Below.setCell ?_ (by first | (simp; done) | (simp; omega) | omega) _ | refine Below.alloc ?_ (by first | (simp; done) | (simp; omega) | omega) _))) TT.out)).mono ?_; rintro e w5 ⟨rfl, b5⟩
      have d5 : Below w4.heap.size w4 w5 := below_step (by repeat (first | exact Below.refl _ _ | refine _root_.Go.below_drewN ?_ _ | refine Below.drew ?_ | refine Below.setCell ?_ (by first | (simp; done) | (simp; omega) | omega) _ | refine Below.alloc ?_ (by first | (simp; done) | (simp; omega) | omega) _)) b5
      have B5 := Lib.hid (below_step B4.out d5)
      have X5 := X4.keep d5
      have aE := B4.out.size
      have nEX := Nat.ne_of_lt X4.hb
      have oEX := Nat.ne_of_gt X4.hb
      have E5 : Bk5 w5 (w4.heap.size) (.int .i64 e1) (.int .i64 e2) (.int .i64 e3) (.int .i64 e4) (.string e5) := Bk5.of b5 (by simp <;> omega) (by intro j; simp [go_sem]) (by simp [go_sem]) (by simp [go_sem]) (by simp [go_sem]) (by simp [go_sem]) (by simp [go_sem])
      clear X4 b5 d5 B4
      have cX_b := X5.hb
      have cX_f := X5.fz
      have cX_0 := X5.k0
      have cX_1 := X5.k1
      have cX_2 := X5.k2
      have cX_3 := X5.k3
      have cX_4 := X5.k4
      have cX_5 := X5.k5
      have cX_6 := X5.k6
      have cX_7 := X5.k7
      have cX_8 := X5.k8
      have cX_9 := X5.k9
      have cX_10 := X5.k10
      have cE_b := E5.hb
      have cE_f := E5.fz
      have cE_0 := E5.k0
      have cE_1 := E5.k1
      have cE_2 := E5.k2
      have cE_3 := E5.k3
      have cE_4 := E5.k4
      go_wp2_with fail
      clear cX_b cX_f cX_0 cX_1 cX_2 cX_3 cX_4 cX_5 cX_6 cX_7 cX_8 cX_9 cX_10 cE_b cE_f cE_0 cE_1 cE_2 cE_3 cE_4
      refine (IE.2.out _ (var_keep B5.out VV.out)).mono ?_; rintro e w6 ⟨rfl, b6⟩
      have d6 : Below w5.heap.size w5 w6 := below_step (by repeat (first | exact Below.refl _ _ | refine _root_.Go.below_drewN ?_ _ | refine Below.drew ?_ | refine Below.setCell ?_ (by first | (simp; done) | (simp; omega) | omega) _ | refine Below.alloc ?_ (by first | (simp; done) | (simp; omega) | omega) _)) b6
      have B6 := Lib.hid (below_step B5.out d6)
      have X6 := X5.keep d6
      have E6 := E5.keep d6
      clear X5 E5 b6 d6 B5
      have cX_b := X6.hb
      have cX_f := X6.fz
      have cX_0 := X6.k0
      have cX_1 := X6.k1
      have cX_2 := X6.k2
      have cX_3 := X6.k3
      have cX_4 := X6.k4
      have cX_5 := X6.k5
      have cX_6 := X6.k6
      have cX_7 := X6.k7
      have cX_8 := X6.k8
      have cX_9 := X6.k9
      have cX_10 := X6.k10
      have cE_b := E6.hb
      have cE_f := E6.fz
      have cE_0 := E6.k0
      have cE_1 := E6.k1
      have cE_2 := E6.k2
      have cE_3 := E6.k3
      have cE_4 := E6.k4
      go_wp2_with fail
      clear cX_b cX_f cX_0 cX_1 cX_2 cX_3 cX_4 cX_5 cX_6 cX_7 cX_8 cX_9 cX_10 cE_b cE_f cE_0 cE_1 cE_2 cE_3 cE_4
      refine (LO.out _ (var_keep (below_step B6.out (by repeat (first | exact Below.refl _ _ | refine _root_.Go.below_drewN ?_ _ | refine Below.drew ?_ | refine Below.setCell ?_ (by first | (simp; done) | (simp; omega) | omega) _ | refine Below.alloc ?_ (by first | (simp; done) | (simp; omega) | omega) _))) TT.out)).mono ?_; rintro e w7 ⟨rfl, b7⟩
      have d7 : Below w6.heap.size w6 w7 := below_step (by repeat (first | exact Below.refl _ _ | refine _root_.Go.below_drewN ?_ _ | refine Below.drew ?_ | refine Below.setCell ?_ (by first | (simp; done) | (simp; omega) | omega) _ | refine Below.alloc ?_ (by first | (simp; done) | (simp; omega) | omega) _)) b7
      have B7 := Lib.hid (below_step B6.out d7)
      have X7 := X6.keep d7
      have E7 := E6.keep d7
      have aG := B6.out.size
      have nGX := Nat.ne_of_lt X6.hb
      have oGX := Nat.ne_of_gt X6.hb
      have nGE := Nat.ne_of_lt E6.hb
      have oGE := Nat.ne_of_gt E6.hb
      have G7 : Bk5 w7 (w6.heap.size) (.int .i64 e1) (.int .i64 e2) (.int .i64 e3) (.int .i64 e4) (.string e5) := Bk5.of b7 (by simp <;> omega) (by intro j; simp [go_sem]) (by simp [go_sem]) (by simp [go_sem]) (by simp [go_sem]) (by simp [go_sem]) (by simp [go_sem])
      clear X6 E6 b7 d7 B6
      by_cases k1 : k = 1
      · obtain ⟨rfl, rfl⟩ := f1n k1 hy1
        subst k1
        have cX_b := X7.hb
        have cX_f := X7.fz
        have cX_0 := X7.k0
        have cX_1 := X7.k1
        have cX_2 := X7.k2
        have cX_3 := X7.k3
        have cX_4 := X7.k4
        have cX_5 := X7.k5
        have cX_6 := X7.k6
        have cX_7 := X7.k7
        have cX_8 := X7.k8
        have cX_9 := X7.k9
        have cX_10 := X7.k10
        have cE_b := E7.hb
        have cE_f := E7.fz
        have cE_0 := E7.k0
        have cE_1 := E7.k1
        have cE_2 := E7.k2
        have cE_3 := E7.k3
        have cE_4 := E7.k4
        have cG_b := G7.hb
        have cG_f := G7.fz
        have cG_0 := G7.k0
        have cG_1 := G7.k1
        have cG_2 := G7.k2
        have cG_3 := G7.k3
        have cG_4 := G7.k4
        go_wp2_with fail
        clear cX_b cX_f cX_0 cX_1 cX_2 cX_3 cX_4 cX_5 cX_6 cX_7 cX_8 cX_9 cX_10 cE_b cE_f cE_0 cE_1 cE_2 cE_3 cE_4 cG_b cG_f cG_0 cG_1 cG_2 cG_3 cG_4
        go_ret
        exact ⟨rfl, B7.out⟩
      have g1 : (k == 1) = false := by rw [beq_eq_false_iff_ne]; exact k1
      by_cases k2 : k = 2
      · obtain ⟨hyl, rfl⟩ := ln k1 (fun h => hy1 h.2.1)
        clear ln
        subst k2
        have gm : (yl != 0) = true := by simp [hyl]
        have cX_b := X7.hb
        have cX_f := X7.fz
        have cX_0 := X7.k0
        have cX_1 := X7.k1
        have cX_2 := X7.k2
        have cX_3 := X7.k3
        have cX_4 := X7.k4
        have cX_5 := X7.k5
        have cX_6 := X7.k6
        have cX_7 := X7.k7
        have cX_8 := X7.k8
        have cX_9 := X7.k9
        have cX_10 := X7.k10
        have cE_b := E7.hb
        have cE_f := E7.fz
        have cE_0 := E7.k0
        have cE_1 := E7.k1
        have cE_2 := E7.k2
        have cE_3 := E7.k3
        have cE_4 := E7.k4
        have cG_b := G7.hb
        have cG_f := G7.fz
        have cG_0 := G7.k0
        have cG_1 := G7.k1
        have cG_2 := G7.k2
        have cG_3 := G7.k3
        have cG_4 := G7.k4
        go_wp2_with fail
        clear cX_b cX_f cX_0 cX_1 cX_2 cX_3 cX_4 cX_5 cX_6 cX_7 cX_8 cX_9 cX_10 cE_b cE_f cE_0 cE_1 cE_2 cE_3 cE_4 cG_b cG_f cG_0 cG_1 cG_2 cG_3 cG_4
        go_ret
        exact ⟨rfl, B7.out⟩
      have g2 : (k == 2) = false := by rw [beq_eq_false_iff_ne]; exact k2
      by_cases k3 : k = 3
      · obtain ⟨hyl, rfl⟩ := ln k1 (fun h => hy1 h.2.1)
        clear ln
        subst k3
        have gm : (yl != 0) = true := by simp [hyl]
        have cX_b := X7.hb
        have cX_f := X7.fz
        have cX_0 := X7.k0
        have cX_1 := X7.k1
        have cX_2 := X7.k2
        have cX_3 := X7.k3
        have cX_4 := X7.k4
        have cX_5 := X7.k5
        have cX_6 := X7.k6
        have cX_7 := X7.k7
        have cX_8 := X7.k8
        have cX_9 := X7.k9
        have cX_10 := X7.k10
        have cE_b := E7.hb
        have cE_f := E7.fz
        have cE_0 := E7.k0
        have cE_1 := E7.k1
        have cE_2 := E7.k2
        have cE_3 := E7.k3
        have cE_4 := E7.k4
        have cG_b := G7.hb
        have cG_f := G7.fz
        have cG_0 := G7.k0
        have cG_1 := G7.k1
        have cG_2 := G7.k2
        have cG_3 := G7.k3
        have cG_4 := G7.k4
        go_wp2_with fail
        clear cX_b cX_f cX_0 cX_1 cX_2 cX_3 cX_4 cX_5 cX_6 cX_7 cX_8 cX_9 cX_10 cE_b cE_f cE_0 cE_1 cE_2 cE_3 cE_4 cG_b cG_f cG_0 cG_1 cG_2 cG_3 cG_4
        go_ret
        exact ⟨rfl, B7.out⟩
      have g3 : (k == 3) = false := by rw [beq_eq_false_iff_ne]; exact k3
      obtain ⟨hyl, rfl⟩ := ln k1 (fun h => hy1 h.2.1)
      have gm : (yl != 0) = true := by simp [hyl]
      have cX_b := X7.hb
      have cX_f := X7.fz
      have cX_0 := X7.k0
      have cX_1 := X7.k1
      have cX_2 := X7.k2
      have cX_3 := X7.k3
      have cX_4 := X7.k4
      have cX_5 := X7.k5
      have cX_6 := X7.k6
      have cX_7 := X7.k7
      have cX_8 := X7.k8
      have cX_9 := X7.k9
      have cX_10 := X7.k10
      have cE_b := E7.hb
      have cE_f := E7.fz
      have cE_0 := E7.k0
      have cE_1 := E7.k1
      have cE_2 := E7.k2
      have cE_3 := E7.k3
      have cE_4 := E7.k4
      have cG_b := G7.hb
      have cG_f := G7.fz
      have cG_0 := G7.k0
      have cG_1 := G7.k1
      have cG_2 := G7.k2
      have cG_3 := G7.k3
      have cG_4 := G7.k4
      go_wp2_with fail
      clear cX_b cX_f cX_0 cX_1 cX_2 cX_3 cX_4 cX_5 cX_6 cX_7 cX_8 cX_9 cX_10 cE_b cE_f cE_0 cE_1 cE_2 cE_3 cE_4 cG_b cG_f cG_0 cG_1 cG_2 cG_3 cG_4
      go_ret
      exact ⟨rfl, B7.out⟩
    · have gy3 : (y3 == 0) = false := by rw [beq_eq_false_iff_ne]; exact hy3
      clear IE0
      go_enter Tryz.func4, Tryz.ntmps4
      go_wp2_with fail
      refine (LV.out _ (var_keep (by repeat (first | exact Below.refl _ _ | refine _root_.Go.below_drewN ?_ _ | refine Below.drew ?_ | refine Below.setCell ?_ (by first | (simp; done) | (simp; omega) | omega) _ | refine Below.alloc ?_ (by first | (simp; done) | (simp; omega) | omega) _)) TT.out) (var_keep (by repeat (first | exact Below.refl _ _ | refine _root_.Go.below_drewN ?_ _ | refine Below.drew ?_ | refine Below.setCell ?_ (by first | (simp; done) | (simp; omega) | omega) _ | refine Below.alloc ?_ (by first | (simp; done) | (simp; omega) | omega) _)) VV.out)).mono ?_; rintro e w1 ⟨rfl, b1⟩
      have d1 : Below w.heap.size w w1 := below_step (by repeat (first | exact Below.refl _ _ | refine _root_.Go.below_drewN ?_ _ | refine Below.drew ?_ | refine Below.setCell ?_ (by first | (simp; done) | (simp; omega) | omega) _ | refine Below.alloc ?_ (by first | (simp; done) | (simp; omega) | omega) _)) b1
      have B1 := Lib.hid d1
      have X1 : Bk11 w1 (w.heap.size) (.int .i64 k) (.int .i64 a) (.int .i64 b) (.int .i64 c) (.int .i64 d) (.string x) (.int .i64 a') (.int .i64 b') (.int .i64 c') (.int .i64 d') (.string x') := Bk11.of b1 (by simp <;> omega) (by intro j; simp [go_sem]) (by simp [go_sem]) (by simp [go_sem]) (by simp [go_sem]) (by simp [go_sem]) (by simp [go_sem]) (by simp [go_sem]) (by simp [go_sem]) (by simp [go_sem]) (by simp [go_sem]) (by simp [go_sem]) (by simp [go_sem])
      clear b1 d1
      have cX_b := X1.hb
      have cX_f := X1.fz
      have cX_0 := X1.k0
      have cX_1 := X1.k1
      have cX_2 := X1.k2
      have cX_3 := X1.k3
      have cX_4 := X1.k4
      have cX_5 := X1.k5
      have cX_6 := X1.k6
      have cX_7 := X1.k7
      have cX_8 := X1.k8
      have cX_9 := X1.k9
      have cX_10 := X1.k10
      go_wp2_with fail
      clear cX_b cX_f cX_0 cX_1 cX_2 cX_3 cX_4 cX_5 cX_6 cX_7 cX_8 cX_9 cX_10
      refine (IA.out _ (var_keep B1.out TT.out)).mono ?_; rintro e w2 ⟨rfl, b2⟩
      have d2 : Below w1.heap.size w1 w2 := below_step (by repeat (first | exact Below.refl _ _ | refine _root_.Go.below_drewN ?_ _ | refine Below.drew ?_ | refine Below.setCell ?_ (by first | (simp; done) | (simp; omega) | omega) _ | refine Below.alloc ?_ (by first | (simp; done) | (simp; omega) | omega) _)) b2
      have B2 := Lib.hid (below_step B1.out d2)
      have X2 := X1.keep d2
      clear X1 b2 d2 B1
      have cX_b := X2.hb
      have cX_f := X2.fz
      have cX_0 := X2.k0
      have cX_1 := X2.k1
      have cX_2 := X2.k2
      have cX_3 := X2.k3
      have cX_4 := X2.k4
      have cX_5 := X2.k5
      have cX_6 := X2.k6
      have cX_7 := X2.k7
      have cX_8 := X2.k8
      have cX_9 := X2.k9
      have cX_10 := X2.k10
      go_wp2_with fail
      clear cX_b cX_f cX_0 cX_1 cX_2 cX_3 cX_4 cX_5 cX_6 cX_7 cX_8 cX_9 cX_10
      refine (IB.out _ (var_keep B2.out TT.out)).mono ?_; rintro e w3 ⟨rfl, b3⟩
      have d3 : Below w2.heap.size w2 w3 := below_step (by repeat (first | exact Below.refl _ _ | refine _root_.Go.below_drewN ?_ _ | refine Below.drew ?_ | refine Below.setCell ?_ (by first | (simp; done) | (simp; omega) | omega) _ | refine Below.alloc ?_ (by first | (simp; done) | (simp; omega) | omega) _)) b3
      have B3 := Lib.hid (below_step B2.out d3)
      have X3 := X2.keep d3
      clear X2 b3 d3 B2
      have cX_b := X3.hb
      have cX_f := X3.fz
      have cX_0 := X3.k0
      have cX_1 := X3.k1
      have cX_2 := X3.k2
      have cX_3 := X3.k3
      have cX_4 := X3.k4
      have cX_5 := X3.k5
      have cX_6 := X3.k6
      have cX_7 := X3.k7
      have cX_8 := X3.k8
      have cX_9 := X3.k9
      have cX_10 := X3.k10
      go_wp2_with fail
      clear cX_b cX_f cX_0 cX_1 cX_2 cX_3 cX_4 cX_5 cX_6 cX_7 cX_8 cX_9 cX_10
      refine (RS.out _ (var_keep B3.out VV.out)).mono ?_; rintro e w4 ⟨rfl, b4⟩
      have d4 : Below w3.heap.size w3 w4 := below_step (by repeat (first | exact Below.refl _ _ | refine _root_.Go.below_drewN ?_ _ | refine Below.drew ?_ | refine Below.setCell ?_ (by first | (simp; done) | (simp; omega) | omega) _ | refine Below.alloc ?_ (by first | (simp; done) | (simp; omega) | omega) _)) b4
      have B4 := Lib.hid (below_step B3.out d4)
      have X4 := X3.keep d4
      clear X3 b4 d4 B3
      have cX_b := X4.hb
      have cX_f := X4.fz
      have cX_0 := X4.k0
      have cX_1 := X4.k1
      have cX_2 := X4.k2
      have cX_3 := X4.k3
      have cX_4 := X4.k4
      have cX_5 := X4.k5
      have cX_6 := X4.k6
      have cX_7 := X4.k7
      have cX_8 := X4.k8
      have cX_9 := X4.k9
      have cX_10 := X4.k10
      go_wp2_with fail
      clear cX_b cX_f cX_0 cX_1 cX_2 cX_3 cX_4 cX_5 cX_6 cX_7 cX_8 cX_9 cX_10
      refine (LO.out _ (var_keep (below_step B4.out (by repeat (first | exact Below.refl _ _ | refine _root_.Go.below_drewN ?_ _ | refine Below.drew ?_ | refine Below.setCell ?_ (by first | (simp; done) | (simp; omega) | omega) _ | refine Below.alloc ?_ (by first | (simp; done) | (simp; omega) | omega) _))) TT.out)).mono ?_; rintro e w5 ⟨rfl, b5⟩
      have d5 : Below w4.heap.size w4 w5 := below_step (by repeat (first | exact Below.refl _ _ | refine _root_.Go.below_drewN ?_ _ | refine Below.drew ?_ | refine Below.setCell ?_ (by first | (simp; done) | (simp; omega) | omega) _ | refine Below.alloc ?_ (by first | (simp; done) | (simp; omega) | omega) _)) b5
      have B5 := Lib.hid (below_step B4.out d5)
      have X5 := X4.keep d5
      have aE := B4.out.size
      have nEX := Nat.ne_of_lt X4.hb
      have oEX := Nat.ne_of_gt X4.hb
      have E5 : Bk5 w5 (w4.heap.size) (.int .i64 e1) (.int .i64 e2) (.int .i64 e3) (.int .i64 e4) (.string e5) := Bk5.of b5 (by simp <;> omega) (by intro j; simp [go_sem]) (by simp [go_sem]) (by simp [go_sem]) (by simp [go_sem]) (by simp [go_sem]) (by simp [go_sem])
      clear X4 b5 d5 B4
      by_cases k1 : k = 1
      · obtain ⟨rfl, rfl⟩ := f1n k1 hy1
        subst k1
        have cX_b := X5.hb
        have cX_f := X5.fz
        have cX_0 := X5.k0
        have cX_1 := X5.k1
        have cX_2 := X5.k2
        have cX_3 := X5.k3
        have cX_4 := X5.k4
        have cX_5 := X5.k5
        have cX_6 := X5.k6
        have cX_7 := X5.k7
        have cX_8 := X5.k8
        have cX_9 := X5.k9
        have cX_10 := X5.k10
        have cE_b := E5.hb
        have cE_f := E5.fz
        have cE_0 := E5.k0
        have cE_1 := E5.k1
        have cE_2 := E5.k2
        have cE_3 := E5.k3
        have cE_4 := E5.k4
        go_wp2_with fail
        clear cX_b cX_f cX_0 cX_1 cX_2 cX_3 cX_4 cX_5 cX_6 cX_7 cX_8 cX_9 cX_10 cE_b cE_f cE_0 cE_1 cE_2 cE_3 cE_4
        go_ret
        exact ⟨rfl, B5.out⟩
      have g1 : (k == 1) = false := by rw [beq_eq_false_iff_ne]; exact k1
      by_cases k2 : k = 2
      · obtain ⟨hyl, rfl⟩ := ln k1 (fun h => hy1 h.2.1)
        clear ln
        subst k2
        have gm : (yl != 0) = true := by simp [hyl]
        have cX_b := X5.hb
        have cX_f := X5.fz
        have cX_0 := X5.k0
        have cX_1 := X5.k1
        have cX_2 := X5.k2
        have cX_3 := X5.k3
        have cX_4 := X5.k4
        have cX_5 := X5.k5
        have cX_6 := X5.k6
        have cX_7 := X5.k7
        have cX_8 := X5.k8
        have cX_9 := X5.k9
        have cX_10 := X5.k10
        have cE_b := E5.hb
        have cE_f := E5.fz
        have cE_0 := E5.k0
        have cE_1 := E5.k1
        have cE_2 := E5.k2
        have cE_3 := E5.k3
        have cE_4 := E5.k4
        go_wp2_with fail
        clear cX_b cX_f cX_0 cX_1 cX_2 cX_3 cX_4 cX_5 cX_6 cX_7 cX_8 cX_9 cX_10 cE_b cE_f cE_0 cE_1 cE_2 cE_3 cE_4
        go_ret
        exact ⟨rfl, B5.out⟩
      have g2 : (k == 2) = false := by rw [beq_eq_false_iff_ne]; exact k2
      by_cases k3 : k = 3
      · obtain ⟨hyl, rfl⟩ := ln k1 (fun h => hy1 h.2.1)
        clear ln
        subst k3
        have gm : (yl != 0) = true := by simp [hyl]
        have cX_b := X5.hb
        have cX_f := X5.fz
        have cX_0 := X5.k0
        have cX_1 := X5.k1
        have cX_2 := X5.k2
        have cX_3 := X5.k3
        have cX_4 := X5.k4
        have cX_5 := X5.k5
        have cX_6 := X5.k6
        have cX_7 := X5.k7
        have cX_8 := X5.k8
        have cX_9 := X5.k9
        have cX_10 := X5.k10
        have cE_b := E5.hb
        have cE_f := E5.fz
        have cE_0 := E5.k0
        have cE_1 := E5.k1
        have cE_2 := E5.k2
        have cE_3 := E5.k3
        have cE_4 := E5.k4
        go_wp2_with fail
        clear cX_b cX_f cX_0 cX_1 cX_2 cX_3 cX_4 cX_5 cX_6 cX_7 cX_8 cX_9 cX_10 cE_b cE_f cE_0 cE_1 cE_2 cE_3 cE_4
        go_ret
        exact ⟨rfl, B5.out⟩
      have g3 : (k == 3) = false := by rw [beq_eq_false_iff_ne]; exact k3
      obtain ⟨hyl, rfl⟩ := ln k1 (fun h => hy1 h.2.1)
      have gm : (yl != 0) = true := by simp [hyl]
      have cX_b := X5.hb
      have cX_f := X5.fz
      have cX_0 := X5.k0
      have cX_1 := X5.k1
      have cX_2 := X5.k2
      have cX_3 := X5.k3
      have cX_4 := X5.k4
      have cX_5 := X5.k5
      have cX_6 := X5.k6
      have cX_7 := X5.k7
      have cX_8 := X5.k8
      have cX_9 := X5.k9
      have cX_10 := X5.k10
      have cE_b := E5.hb
      have cE_f := E5.fz
      have cE_0 := E5.k0
      have cE_1 := E5.k1
      have cE_2 := E5.k2
      have cE_3 := E5.k3
      have cE_4 := E5.k4
      go_wp2_with fail
      clear cX_b cX_f cX_0 cX_1 cX_2 cX_3 cX_4 cX_5 cX_6 cX_7 cX_8 cX_9 cX_10 cE_b cE_f cE_0 cE_1 cE_2 cE_3 cE_4
      go_ret
      exact ⟨rfl, B5.out⟩
end Go.Proofs.YtlelpeocbgjmhaaGreatDoor
