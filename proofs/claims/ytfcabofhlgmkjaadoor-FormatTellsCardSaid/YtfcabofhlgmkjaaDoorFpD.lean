/- The reference's formats: Abbr. -/
import Derived.Test.YtfcabofhlgmkjaaDoorFpC
set_option linter.unusedVariables false
set_option linter.unusedSimpArgs false
namespace Go.Proofs.YtfcabofhlgmkjaaDoor
open Go.RowKit

namespace Fp
theorem ab_no {l L : List UInt8} {off save : Int} {x y : Int} (k : Fo.kd l = (x, y)) (h : y ≠ 0) : Fo.ab l off save L = ([], y) := by
  unfold Fo.ab Fo.aw
  rw [k]
  rw [if_pos (show (x, y).2 ≠ 0 from h), if_neg h]
theorem aw_ok {l : List UInt8} {off : Int} {x : Int} (k : Fo.kd l = (x, 0)) : Fo.aw l off = if -359999 ≤ off ∧ off ≤ 359999 then 0 else 1 := by
  unfold Fo.aw; rw [k]; exact if_neg (fun h => h rfl)
theorem ab_far {l L : List UInt8} {off save : Int} {x : Int} (k : Fo.kd l = (x, 0)) (h : ¬ (-359999 ≤ off ∧ off ≤ 359999)) : Fo.ab l off save L = ([], 1) := by
  unfold Fo.ab
  rw [aw_ok k, if_neg h, if_neg (by decide)]
theorem ab_in' {l L : List UInt8} {off save : Int} {x : Int} (k : Fo.kd l = (x, 0)) (h : -359999 ≤ off ∧ off ≤ 359999) : Fo.ab l off save L = (Fo.av l off save L, 0) := by
  unfold Fo.ab
  rw [aw_ok k, if_pos h, if_pos rfl]
theorem av_0 {l L : List UInt8} {off save : Int} (k : Fo.kd l = (0, 0)) : Fo.av l off save L = l := by
  unfold Fo.av; rw [k]; rfl
theorem av_1 {l L : List UInt8} {off save : Int} (k : Fo.kd l = (1, 0)) : Fo.av l off save L = Lib.replace l [37, 115] L 1 := by
  unfold Fo.av; rw [k]; rfl
theorem av_2 {l L : List UInt8} {off save : Int} (k : Fo.kd l = (2, 0)) : Fo.av l off save L = Fo.df off := by
  unfold Fo.av; rw [k]; rfl
theorem av_3 {l L : List UInt8} {off save : Int} (k : Fo.kd l = (3, 0)) : Fo.av l off save L = if save = 0 then (Lib.cut l [47]).1 else (Lib.cut l [47]).2.1 := by
  unfold Fo.av; rw [k]; rfl
theorem mda_of {l : List UInt8} {x : Int} (k : Fo.kd l = (x, 0)) : ¬ 16 < l.length ∧ Fo.mdA [43, 45, 37, 47] l = true := by
  constructor
  · intro h
    unfold Fo.kd at k
    rw [if_pos h] at k
    exact absurd (congrArg Prod.snd k) (by decide : ¬ (9 : Int) = 0)
  · by_cases h : 16 < l.length
    · unfold Fo.kd at k
      rw [if_pos h] at k
      exact absurd (congrArg Prod.snd k) (by decide : ¬ (9 : Int) = 0)
    · cases hm : Fo.mdA [43, 45, 37, 47] l
      · unfold Fo.kd Fo.made at k
        rw [if_neg h, hm, Bool.false_and, if_pos rfl] at k
        exact absurd (congrArg Prod.snd k) (by decide : ¬ (4 : Int) = 0)
      · rfl
theorem dr1 (a b : List UInt8) (x : UInt8) (n : Nat) (h : a.length + 1 + b.length ≤ n) : ((a ++ x :: b).take n).drop (a.length + 1) = b := by
  rw [List.take_of_length_le (by simp; omega), show a ++ x :: b = (a ++ [x]) ++ b by simp, show a.length + 1 = (a ++ [x]).length by simp, List.drop_left]
theorem dr2 (a b : List UInt8) (x y : UInt8) (n : Nat) (h : a.length + 2 + b.length ≤ n) : ((a ++ x :: y :: b).take n).drop (a.length + 2) = b := by
  rw [List.take_of_length_le (by simp; omega), show a ++ x :: y :: b = (a ++ [x, y]) ++ b by simp, show a.length + 2 = (a ++ [x, y]).length by simp, List.drop_left]
end Fp
theorem bz_app (a b : List UInt8) : (⟨a.toArray⟩ ++ ⟨b.toArray⟩ : ByteArray) = ⟨(a ++ b).toArray⟩ := ar_cat a b
theorem ext_as {s : ByteArray} {x : List UInt8} (i j : Nat) (h : (s.data.toList.take j).drop i = x) : s.extract i j = ⟨x.toArray⟩ := by
  apply ByteArray.ext; apply Array.toList_inj.1
  rw [ByteArray.data_extract, Array.toList_extract, List.extract_eq_take_drop, List.drop_take] at *
  simpa using h
theorem sl_to (s : ByteArray) (i : Nat) (w : World) (h : i ≤ s.size) : Sem.run Tryd.prog (Instr.slice 9 (.string s) none (some (.int .i64 (i : Int))) none) w = .ok (.string (s.extract 0 i)) w := by
  simp [go_sem, Tryd.underlying9]
  omega
theorem sl_from (s : ByteArray) (i : Nat) (w : World) (h : i ≤ s.size) : Sem.run Tryd.prog (Instr.slice 9 (.string s) (some (.int .i64 (i : Int))) none none) w = .ok (.string (s.extract i s.size)) w := by
  simp [go_sem, Tryd.underlying9]
  omega
set_option maxHeartbeats 8000000 in
set_option maxRecDepth 100000 in
theorem rabbr_any (s L : ByteArray) (off save : Int) (w : World) (hs : s.size ≤ 100000) (hL : L.size ≤ 100000) :
    Calls Tryd.prog 51 #[.string s, .int .i64 off, .int .i64 save, .string L] w fun e w' => e = .returned (.tuple #[.string ⟨(Fo.ab s.data.toList off save L.data.toList).1.toArray⟩, .int .i64 (Fo.ab s.data.toList off save L.data.toList).2]) ∧ Below w.heap.size w w' := by
  obtain ⟨x, y, hk⟩ : ∃ x y, Fo.kd s.data.toList = (x, y) := ⟨_, _, rfl⟩
  have C : Hid (∀ W, Calls Tryd.prog 57 #[.string s] W fun e w' => e = .returned (.int .i64 y) ∧ W = w') := fun W => by
    have := rcheck_any s W hs
    rw [hk] at this
    exact this
  cases hy : y == 0
  · have y1 : y ≠ 0 := fun h => by rw [h] at hy; cases hy
    have y2 : (y != 0) = true := by unfold bne; rw [hy]; rfl
    rw [Fp.ab_no hk y1]
    clear hk
    go_enter Tryd.func51, Tryd.ntmps51
    go_wp2_with fail
    refine (C.out _).mono ?_; rintro e w1 ⟨rfl, rfl⟩
    go_wp2_with fail
    go_ret2
    exact ⟨rfl, Below.refl _ _⟩
  · obtain rfl : y = 0 := by rw [← beq_iff_eq]; exact hy
    clear hy
    by_cases ho : -359999 ≤ off ∧ off ≤ 359999
    · rw [Fp.ab_in' hk ho]
      have o1 : ¬ off < -359999 := by omega
      have o2 : ¬ 359999 < off := by omega
      obtain ⟨h16, hall⟩ := Fp.mda_of hk
      obtain ⟨p, hp⟩ : ∃ p, p = Fp.fr 37 (-1) s.data.toList 0 := ⟨_, rfl⟩
      obtain ⟨q, hq⟩ : ∃ q, q = Fp.fr 47 (-1) s.data.toList 0 := ⟨_, rfl⟩
      have CP : Hid (∀ W, Calls Tryd.prog 102 #[.string s, .int .u8 37] W fun e w' => e = .returned (.int .i64 p) ∧ W = w') := fun W => by rw [hp]; exact rfind_any s 37 W hs
      have CQ : Hid (∀ W, Calls Tryd.prog 102 #[.string s, .int .u8 47] W fun e w' => e = .returned (.int .i64 q) ∧ W = w') := fun W => by rw [hq]; exact rfind_any s 47 W hs
      have hz : ∀ a (x : UInt8) b, s.data.toList = a ++ x :: b → s.size = a.length + 1 + b.length := fun a x b h => by rw [← ab_len, h, List.length_append, List.length_cons]; omega
      have H := Fp.cls s.data.toList h16 hall p q hp hq
      clear h16 hall hp hq
      have no4 : ∀ {P : Prop}, Fo.kd s.data.toList = (0, 4) → P := fun h => by rw [hk] at h; exact absurd (congrArg Prod.snd h) (by decide : ¬ (0 : Int) = 4)
      rcases H with ⟨e0, rfl, rfl, hk2⟩ | ⟨e0, rfl, rfl, ez, hk2⟩ | ⟨rfl, a, b, e1, e2, ez, ⟨ha, hb, hk2, hcut⟩ | ⟨hab, hk2⟩⟩ | ⟨rfl, rfl, ez, hk2⟩ | ⟨rfl, a, b, e1, e2, ⟨t, hb, hk2, ez, hrep⟩ | ⟨hb, ⟨ez, hk2⟩ | ⟨ez, hk2⟩⟩⟩ | ⟨⟨a, b, e1, e2⟩, q1, ez, hk2⟩ | ⟨rfl, ez, hk2⟩
      · exact no4 hk2
      · rw [Fp.av_0 hk2]
        show Calls _ _ _ _ fun e w' => e = .returned (.tuple #[.string ⟨s.data.toList.toArray⟩, .int .i64 0]) ∧ Below w.heap.size w w'
        rw [bz_id]
        obtain ⟨n1, n2⟩ := bar_z ez
        clear hk hk2 ez e0 hz no4 ho
        go_enter Tryd.func51, Tryd.ntmps51
        go_wp2_with fail
        refine (C.out _).mono ?_; rintro e w1 ⟨rfl, rfl⟩
        go_wp2_with fail
        refine (CP.out _).mono ?_; rintro e w1 ⟨rfl, rfl⟩
        go_wp2_with fail
        refine (CQ.out _).mono ?_; rintro e w1 ⟨rfl, rfl⟩
        go_wp2_with fail
        go_ret2
        exact ⟨rfl, Below.refl _ _⟩
      · rw [Fp.av_3 hk2, hcut]
        obtain ⟨n1, n2⟩ := bar_z ez
        have z := hz a 47 b e1
        have q0 : 0 ≤ q := by omega
        have qb : q ≤ 200000 := by omega
        have S1 : ∀ W, Sem.run Tryd.prog (Instr.slice 9 (.string s) none (some (.int .i64 q)) none) W = .ok (.string ⟨a.toArray⟩) W := fun W => by
          rw [e2, sl_to s a.length W (by omega), ext_as 0 a.length (x := a) (by rw [e1]; simp)]
        have S2 : ∀ W, Sem.run Tryd.prog (Instr.slice 9 (.string s) (some (.int .i64 (q + 1))) none none) W = .ok (.string ⟨b.toArray⟩) W := fun W => by
          rw [e2, show ((a.length : Int) + 1) = ((a.length + 1 : Nat) : Int) by omega, sl_from s (a.length + 1) W (by omega), ext_as (a.length + 1) s.size (x := b) (by rw [e1]; exact Fp.dr1 a b 47 _ (by omega))]
        have q2 : q + 1 ≤ (s.size : Int) := by omega
        show Calls _ _ _ _ fun e w' => e = .returned (.tuple #[.string ⟨(if save = 0 then a else b).toArray⟩, .int .i64 0]) ∧ Below w.heap.size w w'
        clear hk hk2 ez hz no4 ho e1 hcut z
        by_cases hsv : save = 0
        · subst hsv
          rw [if_pos rfl]
          clear e2 ha hb
          go_enter Tryd.func51, Tryd.ntmps51
          go_wp2_with fail
          refine (C.out _).mono ?_; rintro e w1 ⟨rfl, rfl⟩
          go_wp2_with fail
          refine (CP.out _).mono ?_; rintro e w1 ⟨rfl, rfl⟩
          go_wp2_with fail
          refine (CQ.out _).mono ?_; rintro e w1 ⟨rfl, rfl⟩
          go_wp2_with fail
          go_ret2
          exact ⟨rfl, Below.refl _ _⟩
        · rw [if_neg hsv]
          have sv : (save == 0) = false := by rw [beq_eq_false_iff_ne]; exact hsv
          clear e2 ha hb
          go_enter Tryd.func51, Tryd.ntmps51
          go_wp2_with fail
          refine (C.out _).mono ?_; rintro e w1 ⟨rfl, rfl⟩
          go_wp2_with fail
          refine (CP.out _).mono ?_; rintro e w1 ⟨rfl, rfl⟩
          go_wp2_with fail
          refine (CQ.out _).mono ?_; rintro e w1 ⟨rfl, rfl⟩
          go_wp2_with fail
          go_ret2
          exact ⟨rfl, Below.refl _ _⟩
      · exact no4 hk2
      · exact no4 hk2
      · rw [Fp.av_1 hk2, hrep]
        obtain ⟨n1, n2⟩ := bar_z ez
        subst hb
        have z := hz a 37 (115 :: t) e1
        rw [List.length_cons] at z
        have p0 : 0 ≤ p := by omega
        have pb : p ≤ 200000 := by omega
        have S1 : ∀ W, Sem.run Tryd.prog (Instr.slice 9 (.string s) none (some (.int .i64 p)) none) W = .ok (.string ⟨a.toArray⟩) W := fun W => by
          rw [e2, sl_to s a.length W (by omega), ext_as 0 a.length (x := a) (by rw [e1]; simp)]
        have S2 : ∀ W, Sem.run Tryd.prog (Instr.slice 9 (.string s) (some (.int .i64 (p + 2))) none none) W = .ok (.string ⟨t.toArray⟩) W := fun W => by
          rw [e2, show ((a.length : Int) + 2) = ((a.length + 2 : Nat) : Int) by omega, sl_from s (a.length + 2) W (by omega), ext_as (a.length + 2) s.size (x := t) (by rw [e1]; exact Fp.dr2 a t 37 115 _ (by omega))]
        have p2 : p + 2 ≤ (s.size : Int) := by omega
        have hR : (⟨(a ++ L.data.toList ++ t).toArray⟩ : ByteArray) = (⟨a.toArray⟩ ++ L) ++ ⟨t.toArray⟩ := by
          rw [← bz_app, ← bz_app, bz_id]
        show Calls _ _ _ _ fun e w' => e = .returned (.tuple #[.string ⟨(a ++ L.data.toList ++ t).toArray⟩, .int .i64 0]) ∧ Below w.heap.size w w'
        rw [hR]
        have za : (⟨a.toArray⟩ : ByteArray).size ≤ 200000 := by rw [arr_size]; omega
        have zt : (⟨t.toArray⟩ : ByteArray).size ≤ 200000 := by rw [arr_size]; omega
        clear hk hk2 ez hz no4 ho e1 hrep z e2 hR
        generalize (⟨a.toArray⟩ : ByteArray) = A at S1 za ⊢
        generalize (⟨t.toArray⟩ : ByteArray) = T at S2 zt ⊢
        have e1 : (A ++ L : ByteArray).size = A.size + L.size := ByteArray.size_append
        go_enter Tryd.func51, Tryd.ntmps51
        go_wp2_with fail
        refine (C.out _).mono ?_; rintro e w1 ⟨rfl, rfl⟩
        go_wp2_with fail
        refine (CP.out _).mono ?_; rintro e w1 ⟨rfl, rfl⟩
        go_wp2_with fail
        go_quiet (fail)
        go_wp2_with fail
        go_ret2
        exact ⟨rfl, by repeat (first | exact Below.refl _ _ | refine below_drewN ?_ _ | refine Below.drew ?_)⟩
      · rw [Fp.av_2 hk2]
        obtain rfl : s = ⟨#[37, 122]⟩ := bz_eq ez
        have CW := Lib.hid (fun W => written_any off W ho.1 ho.2)
        clear hk hk2 ez hz no4 ho e1 e2 hb CP CQ
        go_enter Tryd.func51, Tryd.ntmps51
        go_wp2_with fail
        refine (C.out _).mono ?_; rintro e w1 ⟨rfl, rfl⟩
        go_wp2_with fail
        refine (CW.out _).mono ?_; rintro e w1 ⟨rfl, b1⟩
        have B1 := Lib.hid b1; clear b1
        go_wp2_with fail
        go_ret2
        exact ⟨rfl, B1.out⟩
      · exact no4 hk2
      · exact no4 hk2
      · exact no4 hk2
    · rw [Fp.ab_far hk ho]
      clear hk
      by_cases h1 : off < -359999
      · clear ho
        go_enter Tryd.func51, Tryd.ntmps51
        go_wp2_with fail
        refine (C.out _).mono ?_; rintro e w1 ⟨rfl, rfl⟩
        go_wp2_with fail
        go_ret2
        exact ⟨rfl, Below.refl _ _⟩
      · have h2 : 359999 < off := by omega
        clear ho
        go_enter Tryd.func51, Tryd.ntmps51
        go_wp2_with fail
        refine (C.out _).mono ?_; rintro e w1 ⟨rfl, rfl⟩
        go_wp2_with fail
        go_ret2
        exact ⟨rfl, Below.refl _ _⟩
end Go.Proofs.YtfcabofhlgmkjaaDoor

