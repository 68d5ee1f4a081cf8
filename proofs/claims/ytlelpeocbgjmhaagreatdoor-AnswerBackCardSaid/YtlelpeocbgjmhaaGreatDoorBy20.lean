/- Joined: FdJ. -/
import Derived.Test.YtlelpeocbgjmhaaGreatDoorBy19
import Derived.Test.YtlelpeocbgjmhaaGreatDoorBy01
set_option linter.unusedVariables false
set_option linter.unusedSimpArgs false
namespace Go.Proofs.YtlelpeocbgjmhaaGreatDoor
open Go.RowKit Go.Sort
theorem own_by {w w' : World} {base b : Nat} {e : TypeId} {size : Nat} {v : Value} {n : Nat} {xs : List Value} (h : w.ownsRow base e size v n xs) (k : w.grownBy w' (some b)) (hb : b < base) : w'.ownsRow base e size v n xs :=
 h.kept k (by
  cases hv : v.ownBlock with
  | none => exact .inl rfl
  | some g => right; intro e; injection e with e; have := own_row h g hv; omega)
def AnsCs (b : Nat) (R : List (List UInt8) × Int) (w : World) (e : Ending) (w' : World) : Prop :=
 w.grownBy w' (some b) ∧ ((R.2 = 0 ∧ ∃ (v : Value) (l : List ByteArray), w'.ownsRow w.heap.size 9 1 v l.length (l.map Value.string) ∧ l.map (·.data.toList) = R.1 ∧ e = .returned v) ∨ (R.2 ≠ 0 ∧ e = .panicked (gvP R.2)))
namespace Fd
theorem told_some (P : List (List UInt8)) : told (some P) = if 16 < P.length then ([], 6) else (P, 0) := rfl
end Fd
set_option maxHeartbeats 4000000 in
set_option maxRecDepth 100000 in
theorem cfields_any (b : Nat) (s : ByteArray) (w : World) (H : Bk1 w b (.string s)) (hs : s.size ≤ 100000000) :
  Calls Tryz.prog 53 #[.pointer (some ⟨b, 0, none⟩)] w (AnsCs b (Fd.of s.data.toList) w) := by
 obtain ⟨i0, hi, hz0, hz1, hz2⟩ := fd_parts fd_info
 obtain ⟨tot, htot⟩ : ∃ tot, tot = Fd.go [] [] false false s.data.toList := ⟨_, rfl⟩
 unfold Fd.of
 rw [← htot]
 have HT := Lib.hid htot
 have HH := Lib.hid H
 have hbw : b < w.heap.size := H.hb
 have HS := Lib.hid hs
 clear htot H hs
 go_enter Tryz.func53, Tryz.ntmps53
 go_wp2_with fail
 go_loopw [3] (fun v wr => ∃ (l : List ByteArray) (out : List (List UInt8)) (r : List UInt8), l.length ≤ 17 ∧ Hid (l.map (·.data.toList) = out.take 17) ∧ Hid (wr.ownsRow w.heap.size 9 1 v l.length (l.map Value.string)) ∧ Hid (Bk1 wr b (.string ⟨r.toArray⟩)) ∧ Hid (Fd.go out [] false false r = tot) ∧ Hid (r.length ≤ 100000000) ∧ Hid (w.grownBy wr (some b))) (fun _ wr => cellSz wr b)
 case atStart =>
  exact ⟨[], [], s.data.toList, by simp, Lib.hid rfl, World.ownsRow_nil _ _ _ _, by rw [fd_id]; exact HH, HT.out.symm, Lib.hid (by have := HS.out; rw [fd_len]; omega), grown_refl _ _⟩
 case round =>
  obtain ⟨l, out, r, hl17, hlo, hown, hK, hgo, hsz, hG⟩ := hrel
  obtain ⟨A, c, rfl, -⟩ := Lst.own hown.out
  have hlen : Hid (l.length = min 17 out.length) := by have := congrArg List.length hlo.out; rw [List.length_map, List.length_take] at this; exact this
  have C := Lib.hid (fun W h => fdbegins_any b ⟨r.toArray⟩ W h)
  rw [arr_list] at C
  have hgo2 := hgo.out
  rw [Fd.go_dw] at hgo2
  have hdl := Fd.dw_len r
  have hdh := Fd.dw_head r
  have hmeas : Hid (cellSz wr b = r.length) := by rw [hK.out.sz, Fd.arr_len]; exact Lib.hid rfl
  generalize Fd.dw r = Q at C hgo2 hdl hdh
  have hszo := hsz.out
  obtain ⟨N, hN⟩ : ∃ N, N = l.length := ⟨_, rfl⟩
  have HN := Lib.hid hN
  have hown : Hid (wr.ownsRow w.heap.size 9 1 (.slice A N c) N (l.map Value.string)) := by rw [hN]; exact hown
  rw [← hN] at hl17 ⊢
  clear hN hgo
  have fin : (Q = [] ∨ ∃ t, Q = 35 :: t) → Hid (some out = tot) := fun h => by
   rw [← hgo2]; exact Lib.hid (Fd.go_end out Q h).symm
  cases Q with
  | nil =>
   have HA := fin (.inl rfl)
   clear fin hgo2 hdh
   have hb0 : Fd.bgn [] = false := rfl
   rw [hb0] at C
   by_cases h16 : N ≤ 16
   ·
    go_wp2_with fail
    refine (C.out _ hK.out).mono ?_; rintro e w1 ⟨rfl, k1, g1⟩
    have G2 := Lib.hid (grown_trans hG.out g1)
    have O2 := Lib.hid (own_by hown.out g1 hbw)
    clear k1 g1 hG hown
    go_wp2_with fail
    rw [show decide ((N : Int) ≤ 16) = true from decide_eq_true (by omega)]
    refine (need_yes 6 _).mono ?_; rintro e w2 ⟨rfl, rfl⟩
    go_wp2_with fail
    go_ret
    refine ⟨G2.out, .inl ?_⟩
    have h1 : out.length ≤ 16 := by have := hlen.out; have := HN.out; omega
    rw [← HA.out, Fd.told_some, if_neg (by omega)]
    refine ⟨rfl, _, l, by rw [← HN.out]; exact O2.out, ?_, rfl⟩
    rw [hlo.out]
    exact List.take_of_length_le (by omega)
   ·
    go_wp2_with fail
    refine (C.out _ hK.out).mono ?_; rintro e w1 ⟨rfl, k1, g1⟩
    have G2 := Lib.hid (grown_trans hG.out g1)
    clear k1 g1 hG hown
    go_wp2_with fail
    rw [show decide ((N : Int) ≤ 16) = false from decide_eq_false (by omega)]
    refine (need_no 6 _).mono ?_; rintro e w2 ⟨rfl, rfl⟩
    simp +zetaDelta only [Exit.then, Exit.inBlock, bodyPost]
    refine ⟨trivial, G2.out, .inr ?_⟩
    have h1 : 16 < out.length := by have := hlen.out; have := HN.out; omega
    rw [← HA.out, Fd.told_some, if_pos h1]
    exact ⟨by decide, rfl⟩
  | cons x t =>
   have hw := hdh x t rfl
   by_cases h35 : x = 35
   ·
    subst h35
    have HA := fin (.inr ⟨t, rfl⟩)
    clear fin hgo2 hdh
    have hb0 : Fd.bgn (35 :: t) = false := rfl
    rw [hb0] at C
    by_cases h16 : N ≤ 16
    ·
     go_wp2_with fail
     refine (C.out _ hK.out).mono ?_; rintro e w1 ⟨rfl, k1, g1⟩
     have G2 := Lib.hid (grown_trans hG.out g1)
     have O2 := Lib.hid (own_by hown.out g1 hbw)
     clear k1 g1 hG hown
     go_wp2_with fail
     rw [show decide ((N : Int) ≤ 16) = true from decide_eq_true (by omega)]
     refine (need_yes 6 _).mono ?_; rintro e w2 ⟨rfl, rfl⟩
     go_wp2_with fail
     go_ret
     refine ⟨G2.out, .inl ?_⟩
     have h1 : out.length ≤ 16 := by have := hlen.out; have := HN.out; omega
     rw [← HA.out, Fd.told_some, if_neg (by omega)]
     refine ⟨rfl, _, l, by rw [← HN.out]; exact O2.out, ?_, rfl⟩
     rw [hlo.out]
     exact List.take_of_length_le (by omega)
    ·
     go_wp2_with fail
     refine (C.out _ hK.out).mono ?_; rintro e w1 ⟨rfl, k1, g1⟩
     have G2 := Lib.hid (grown_trans hG.out g1)
     clear k1 g1 hG hown
     go_wp2_with fail
     rw [show decide ((N : Int) ≤ 16) = false from decide_eq_false (by omega)]
     refine (need_no 6 _).mono ?_; rintro e w2 ⟨rfl, rfl⟩
     simp +zetaDelta only [Exit.then, Exit.inBlock, bodyPost]
     refine ⟨trivial, G2.out, .inr ?_⟩
     have h1 : 16 < out.length := by have := hlen.out; have := HN.out; omega
     rw [← HA.out, Fd.told_some, if_pos h1]
     exact ⟨by decide, rfl⟩
   ·
    have hb0 : Fd.bgn (x :: t) = true := by show (!(decide (x = 35))) = true; rw [decide_eq_false h35]; rfl
    rw [hb0] at C
    rw [Fd.go_open out x t hw h35] at hgo2
    have F := Lib.hid (fun W h => field_any b ⟨(x :: t).toArray⟩ W h (by rw [Fd.arr_len]; omega))
    rw [arr_list] at F
    clear fin hdh hb0
    cases hfl : Fd.fl [] false (x :: t) with
    | none =>
     rw [hfl] at F hgo2
     have HA := Lib.hid (show none = tot from hgo2)
     clear hgo2 hfl
     go_wp2_with fail
     refine (C.out _ hK.out).mono ?_; rintro e w1 ⟨rfl, k1, g1⟩
     have K2 := Lib.hid k1
     have G2 := Lib.hid (grown_trans hG.out g1)
     clear k1 g1 hG
     go_wp2_with fail
     refine (F.out _ K2.out).mono ?_; rintro e w2 ⟨g2, hx2⟩
     have hx2 : e = .panicked (gvP 8) := hx2
     subst hx2
     have G3 := Lib.hid (grown_trans G2.out g2)
     clear g2
     simp +zetaDelta only [Exit.then, Exit.inBlock, bodyPost]
     refine ⟨trivial, G3.out, .inr ?_⟩
     rw [← HA.out]
     exact ⟨by decide, rfl⟩
    | some p =>
     obtain ⟨g, r'⟩ := p
     rw [hfl] at F hgo2
     have HGO := Lib.hid (show Fd.go (out ++ [g]) [] false false r' = tot from hgo2)
     have hless := Fd.fl_less x t g r' hw h35 hfl
     have hgl := (Fd.fl_len (x :: t) [] false g r' hfl).2
     clear hgo2 hfl
     have hGz := Fd.arr_len g
     have hGl := arr_list g
     have F : Hid (∀ W, Bk1 W b (.string ⟨(x :: t).toArray⟩) → Calls Tryz.prog 77 #[.pointer (some ⟨b, 0, none⟩)] W fun e w' => W.grownBy w' (some b) ∧ e = .returned (.string ⟨g.toArray⟩) ∧ Bk1 w' b (.string ⟨r'.toArray⟩)) := F
     generalize (⟨g.toArray⟩ : ByteArray) = G at F hGz hGl
     have htl : (x :: t).length = t.length + 1 := rfl
     by_cases h16 : N ≤ 16
     ·
      have HLO := Lib.hid (show (l ++ [G]).map (·.data.toList) = (out ++ [g]).take 17 by
       have h1 : out.length ≤ 16 := by have := hlen.out; have := HN.out; omega
       rw [List.map_append, hlo.out, List.take_of_length_le (by omega), List.take_of_length_le (by rw [List.length_append]; simp; omega)]
       simp [hGl])
      go_wp2_with fail
      refine (C.out _ hK.out).mono ?_; rintro e w1 ⟨rfl, k1, g1⟩
      have K2 := Lib.hid k1
      have G2 := Lib.hid (grown_trans hG.out g1)
      have O2 := Lib.hid (own_by hown.out g1 hbw)
      clear k1 g1 hG hown hK
      go_wp2_with fail
      refine (F.out _ K2.out).mono ?_; rintro e w2 ⟨g2, rfl, k2⟩
      have K3 := Lib.hid k2
      have G3 := Lib.hid (grown_trans G2.out g2)
      have hown := Lib.hid (own_by O2.out g2 hbw)
      have hsz2 := G3.out.size
      clear k2 g2 G2 O2 K2
      go_wp2_with (at_builtin; refine wpList_append_own _ rfl _ _ 33 rfl w.heap.size 9 i0 (.string ⟨#[]⟩) 1 16 Tryz.underlying33 hi hz0 hz1 hz2 rfl (by decide) _ _ _ rfl (hown.out.alloc _) ⟨w2.heap.size, 0, none⟩ 1 1 [.string G] rfl rfl (by intro j u hj; match j, hj with | 0, hj => (simp at hj; subst hj; simp [go_sem])) (by intro u hu; simp at hu; subst hu; rfl) (by unfold maxLen; omega) (by omega) (by simp; omega) ?_)
      intro v6 w6 own6 grow6 _
      have b6 : Below w.heap.size w2 w6 := (((Below.refl _ _).alloc hsz2 _).trans (below_grown grow6 (by simp; omega) (own_row hown.out)))
      have G6 := Lib.hid (grown_low G3.out b6)
      have K6 := Lib.hid (bk1_low K3.out b6 hbw)
      have O6 := Lib.hid (show w6.ownsRow w.heap.size 9 1 v6 (l ++ [G]).length ((l ++ [G]).map Value.string) from by rw [List.length_append, List.map_append]; have := own6; rw [HN.out] at this; exact this)
      clear own6 grow6 hown b6 G3 K3
      go_wp2_with fail
      go_roundw
      case rel => exact ⟨l ++ [G], out ++ [g], r', by rw [List.length_append]; have := HN.out; simp; omega, HLO, O6, K6, HGO, Lib.hid (by omega), G6⟩
      case measure => rw [K6.out.sz, hmeas.out, Fd.arr_len]; omega
     ·
      have HLO := Lib.hid (show l.map (·.data.toList) = (out ++ [g]).take 17 by
       have h1 : 17 ≤ out.length := by have := hlen.out; have := HN.out; omega
       rw [hlo.out, List.take_append_of_le_length h1])
      go_wp2_with fail
      refine (C.out _ hK.out).mono ?_; rintro e w1 ⟨rfl, k1, g1⟩
      have K2 := Lib.hid k1
      have G2 := Lib.hid (grown_trans hG.out g1)
      have O2 := Lib.hid (own_by hown.out g1 hbw)
      clear k1 g1 hG hown hK
      go_wp2_with fail
      refine (F.out _ K2.out).mono ?_; rintro e w2 ⟨g2, rfl, k2⟩
      have K3 := Lib.hid k2
      have G3 := Lib.hid (grown_trans G2.out g2)
      have O3 := Lib.hid (own_by O2.out g2 hbw)
      clear k2 g2 G2 O2 K2
      go_wp2_with fail
      go_roundw
      case rel => exact ⟨l, out ++ [g], r', by have := HN.out; omega, HLO, by rw [← HN.out]; exact O3, K3, HGO, Lib.hid (by omega), G3⟩
      case measure => rw [K3.out.sz, hmeas.out, Fd.arr_len]; omega
end Go.Proofs.YtlelpeocbgjmhaaGreatDoor
