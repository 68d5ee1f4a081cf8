/- Joined: FdI, FdJ, FdK, MuL, FdRm. -/
import Derived.Test.YtifgiclnofdnkaaGreatDoorBy28
import Derived.Test.YtifgiclnofdnkaaGreatDoorBy14
import Derived.Test.YtifgiclnofdnkaaGreatDoorBy07
import Derived.Test.YtifgiclnofdnkaaGreatDoorBy01
import Derived.Test.YtifgiclnofdnkaaGreatDoorBy27
set_option linter.unusedVariables false
set_option linter.unusedSimpArgs false
namespace Go.Proofs.YtifgiclnofdnkaaGreatDoor
open Go.RowKit Go.Sort
def cellSz (W : World) (b : Nat) : Nat := match W.cell? ⟨b, 0, none⟩ with | some (.string s) => s.size | _ => 0
theorem Bk1.sz {W : World} {b : Nat} {s : ByteArray} (h : Bk1 W b (.string s)) : cellSz W b = s.size := by unfold cellSz; rw [h.k0]
theorem bk1_low {W w1 : World} {b B : Nat} {v : Value} (h : Bk1 W b v) (k : Below B W w1) (hb : b < B) : Bk1 w1 b v :=
 ⟨Nat.lt_of_lt_of_le h.hb k.size, fun j => (k.frozen (p := ⟨b, j, none⟩) hb).trans (h.fz j), (k.cell (p := ⟨b, 0, none⟩) hb).trans h.k0⟩
theorem grown_low {w W w1 : World} {r : Option Nat} (h : w.grownBy W r) (k : Below w.heap.size W w1) : w.grownBy w1 r :=
 ⟨k.os.trans h.os, k.tape.trans h.tape, k.output.trans h.output, Nat.le_trans h.size k.size, fun i hi hr => (k.block i hi).trans (h.block i hi hr)⟩
theorem arr_list (l : List UInt8) : (⟨l.toArray⟩ : ByteArray).data.toList = l := by simp
def AnsFl (b : Nat) (o : Option (List UInt8 × List UInt8)) (w : World) (e : Ending) (w' : World) : Prop :=
 w.grownBy w' (some b) ∧ (match o with
  | none => e = .panicked (gvP 8)
  | some p => e = .returned (.string ⟨p.1.toArray⟩) ∧ Bk1 w' b (.string ⟨p.2.toArray⟩))
set_option maxHeartbeats 2000000 in
set_option maxRecDepth 100000 in
theorem field_any (b : Nat) (s : ByteArray) (w : World) (H : Bk1 w b (.string s)) (hs : s.size ≤ 100000000) :
  Calls Tryz.prog 116 #[.pointer (some ⟨b, 0, none⟩)] w (AnsFl b (Fd.fl [] false s.data.toList) w) := by
 obtain ⟨tot, htot⟩ : ∃ tot, tot = Fd.fl [] false s.data.toList := ⟨_, rfl⟩
 rw [← htot]
 have HT := Lib.hid htot
 have HH := Lib.hid H
 have hbw : b < w.heap.size := H.hb
 clear htot H
 have N1 := Lib.hid (show Below w.heap.size w (w.alloc (.cells #[.pointer none, .slice none 0 0] 76)) from (Below.refl _ _).alloc (Nat.le_refl _) _)
 have I1 := Lib.hid (IsB.fresh w)
 have HS := Lib.hid hs
 clear hs
 go_enter Tryz.func116, Tryz.ntmps116
 go_wp2_with fail
 go_loopw [] (fun wr => ∃ f r : List UInt8, Hid (IsB w.heap.size f wr) ∧ Hid (Bk1 wr b (.string ⟨r.toArray⟩)) ∧ Hid (Fd.fl f false r = tot) ∧ Hid (f.length + r.length ≤ 100000000) ∧ Hid (w.grownBy wr (some b))) (fun wr => cellSz wr b)
 case atStart =>
  exact ⟨[], s.data.toList, I1, by rw [fd_id]; exact HH.out.keep N1.out, HT.out.symm, Lib.hid (by have := HS.out; rw [fd_len, List.length_nil]; omega), grown_of N1.out _⟩
 case round =>
  obtain ⟨f, r, hI, hK, hfl, hsz, hG⟩ := hrel
  have hr : (⟨r.toArray⟩ : ByteArray).size ≤ 100000000 := by have := hsz.out; rw [Fd.arr_len]; omega
  have C := Lib.hid (fun W h => plain_any b ⟨r.toArray⟩ W h (by omega))
  rw [arr_list] at C
  have hfl2 := hfl.out
  rw [Fd.fl_pw] at hfl2
  have hpq := Fd.pw_qw r
  have hhd := Fd.qw_head r
  have hmeas : Hid (cellSz wr b = r.length) := by rw [hK.out.sz, Fd.arr_len]; exact Lib.hid rfl
  generalize Fd.pw r = P at C hfl2 hpq
  generalize Fd.qw r = Q at C hfl2 hpq hhd
  have hlen : P.length + Q.length = r.length := by rw [← hpq, List.length_append]
  have hfpl : (f ++ P).length = f.length + P.length := List.length_append
  have hPz := Fd.arr_len P
  have hPl := arr_list P
  obtain ⟨PB, hPB⟩ : ∃ PB : ByteArray, PB = ⟨P.toArray⟩ := ⟨_, rfl⟩
  rw [← hPB] at C hPz hPl
  clear hpq hfl hPB
  have hszo := hsz.out
  go_wp2_with fail
  refine (C.out _ hK.out).mono ?_; rintro e w1 ⟨rfl, k1, g1⟩
  have I2 := Lib.hid (hI.out.by_ g1 hbw)
  have G2 := Lib.hid (grown_trans hG.out g1)
  have K2 := Lib.hid k1
  clear hI hG hK k1 g1
  go_wp2_with fail
  refine (bw_str w.heap.size _ PB _ I2.out (by omega) (by omega)).mono ?_; rintro e w2 ⟨rfl, i2, b2⟩
  have I3 := i2
  rw [hPl] at I3
  have I3 := Lib.hid I3
  have G3 := Lib.hid (grown_low G2.out b2)
  have K3 := Lib.hid (bk1_low K2.out b2 hbw)
  clear i2 b2 I2 G2 K2 C
  have d_b := K3.out.hb; have d_f := K3.out.fz; have d_0 := K3.out.k0
  cases Q with
  | nil =>
   have HA := Lib.hid (show some (f ++ P, []) = tot from hfl2)
   clear hfl2 hhd
   go_wp2_with fail
   refine (b_string w.heap.size _ _ I3.out).mono ?_; rintro e w3 ⟨rfl, -, b3⟩
   have G4 := Lib.hid (grown_low G3.out b3)
   have K4 := Lib.hid (bk1_low K3.out b3 hbw)
   clear b3 d_b d_f d_0
   go_wp2_with fail
   go_ret
   exact ⟨G4.out, by rw [← HA.out]; exact ⟨rfl, K4.out⟩⟩
  | cons c t =>
   have hm := hhd c t rfl
   clear hhd
   have htl : t.length + 1 = (c :: t).length := rfl
   obtain ⟨T, hT⟩ : ∃ T : ByteArray, T = ⟨(c :: t).toArray⟩ := ⟨_, rfl⟩
   have hz : 0 < T.size := by rw [hT]; show 0 < (c :: t).toArray.size; simp
   have IX := fun W => fd_ix T 0 hz W
   have hc : T[0] = c := by subst hT; rfl
   rw [hc] at IX
   obtain ⟨n1, n2⟩ := fd_ne hz
   rw [← hT] at d_0
   by_cases h34 : c = 34
   ·
    subst h34
    have IX : ∀ W, Sem.run Tryz.prog (Instr.index 9 (.string T) (.int .i64 0)) W = .ok (.int .u8 34) W := IX
    rw [Fd.fl_34] at hfl2
    rcases Fd.ib_34 t with ⟨hi, hno⟩ | ⟨k, hi, hk, hno, hd⟩
    ·
     have HA := Lib.hid (show none = tot by rw [← hfl2, Fd.fl_lost _ _ hno])
     have QN := Lib.hid (fun W h => quoted_no b t W h hi (by omega))
     clear hfl2 hi hno hc hT
     go_wp2_with fail
     refine (QN.out _ K3.out).mono ?_; rintro e w3 ⟨rfl, g3⟩
     have G4 := Lib.hid (grown_trans G3.out g3)
     clear g3
     simp +zetaDelta only [Exit.then, Exit.inBlock, bodyPost]
     rw [← HA.out]
     refine ⟨trivial, ?_⟩
     exact ⟨G4.out, rfl⟩
    ·
     obtain ⟨x, hx⟩ : ∃ x, x = t.take k := ⟨_, rfl⟩
     obtain ⟨u, hu⟩ : ∃ u, u = t.drop (k + 1) := ⟨_, rfl⟩
     have hsplit : x ++ 34 :: u = t := by rw [hx, hu, ← hd, List.take_append_drop]
     have HA := Lib.hid (show Fd.fl ((f ++ P) ++ x) false u = tot by rw [← hfl2, ← hsplit, Fd.fl_quoted u x _ (by rw [hx]; exact hno)])
     have QY := Lib.hid (fun W h => quoted_yes b t x u W h k hi hk hx.symm hu.symm (by omega))
     have hl2 : x.length + u.length + 1 = t.length := by rw [← hsplit, List.length_append]; rfl
     have hxz := Fd.arr_len x
     have hxl := arr_list x
     have h3 : ((f ++ P) ++ x).length = f.length + P.length + x.length := by rw [List.length_append, List.length_append]
     clear hfl2 hi hno hc hT hx hu hd hk hsplit
     generalize (⟨x.toArray⟩ : ByteArray) = XB at QY hxz hxl
     go_wp2_with fail
     refine (QY.out _ K3.out).mono ?_; rintro e w3 ⟨rfl, k3, g3⟩
     have I4 := Lib.hid (I3.out.by_ g3 hbw)
     have G4 := Lib.hid (grown_trans G3.out g3)
     have K4 := Lib.hid k3
     clear g3 k3 I3 G3 K3 d_b d_f d_0
     go_wp2_with fail
     refine (bw_str w.heap.size _ XB _ I4.out (by omega) (by omega)).mono ?_; rintro e w4 ⟨rfl, i5, b5⟩
     rw [hxl] at i5
     have I5 := Lib.hid i5
     have G5 := Lib.hid (grown_low G4.out b5)
     have K5 := Lib.hid (bk1_low K4.out b5 hbw)
     clear i5 b5 I4 G4 K4
     go_wp2_with fail
     go_roundw
     case rel => exact ⟨(f ++ P) ++ x, u, I5, K5, HA, Lib.hid (by rw [h3]; simp only [List.length_cons] at hlen; omega), G5⟩
     case measure => rw [K5.out.sz, hmeas.out, Fd.arr_len]; simp only [List.length_cons] at hlen; omega
   ·
    have HA := Lib.hid (show some (f ++ P, c :: t) = tot by rw [← hfl2, Fd.fl_shut _ _ _ hm h34])
    have g2 : ((c.toNat : Int) == 34) = false := by rw [beq_eq_false_iff_ne]; intro h; exact h34 (UInt8.toNat_inj.1 (by rw [show (34 : UInt8).toNat = 34 from rfl]; omega))
    have IX : ∀ W, Sem.run Tryz.prog (Instr.index 9 (.string T) (.int .i64 0)) W = .ok (.int .u8 c.toNat) W := IX
    generalize (c.toNat : Int) = C0 at IX g2
    clear hfl2 hc hT h34
    go_wp2_with fail
    refine (b_string w.heap.size _ _ I3.out).mono ?_; rintro e w3 ⟨rfl, -, b3⟩
    have G4 := Lib.hid (grown_low G3.out b3)
    have K4 := Lib.hid (bk1_low K3.out b3 hbw)
    clear b3 d_b d_f d_0
    go_wp2_with fail
    go_ret
    exact ⟨G4.out, by rw [← HA.out]; exact ⟨rfl, K4.out⟩⟩
theorem own_by {w w' : World} {base b : Nat} {e : TypeId} {size : Nat} {v : Value} {n : Nat} {xs : List Value} (h : w.ownsRow base e size v n xs) (k : w.grownBy w' (some b)) (hb : b < base) : w'.ownsRow base e size v n xs :=
 h.kept k (by
  cases hv : v.ownBlock with
  | none => exact .inl rfl
  | some g => right; intro e; injection e with e; have := own_row h g hv; omega)
def AnsCs (b : Nat) (R : List (List UInt8) × Int) (w : World) (e : Ending) (w' : World) : Prop :=
 w.grownBy w' (some b) ∧ ((R.2 = 0 ∧ ∃ (v : Value) (l : List ByteArray), w'.ownsRow w.heap.size 9 1 v l.length (l.map Value.string) ∧ l.map (·.data.toList) = R.1 ∧ e = .returned v) ∨ (R.2 ≠ 0 ∧ e = .panicked (gvP R.2)))
namespace Fd
theorem told_some (P : List (List UInt8)) : told (some P) = if 16 < P.length then ([], 6) else (P, 0) := rfl
end Fd
set_option maxHeartbeats 4000000 in
set_option maxRecDepth 100000 in
theorem cfields_any (b : Nat) (s : ByteArray) (w : World) (H : Bk1 w b (.string s)) (hs : s.size ≤ 100000000) :
  Calls Tryz.prog 91 #[.pointer (some ⟨b, 0, none⟩)] w (AnsCs b (Fd.of s.data.toList) w) := by
 obtain ⟨i0, hi, hz0, hz1, hz2⟩ := fd_parts fd_info
 obtain ⟨tot, htot⟩ : ∃ tot, tot = Fd.go [] [] false false s.data.toList := ⟨_, rfl⟩
 unfold Fd.of
 rw [← htot]
 have HT := Lib.hid htot
 have HH := Lib.hid H
 have hbw : b < w.heap.size := H.hb
 have HS := Lib.hid hs
 clear htot H hs
 go_enter Tryz.func91, Tryz.ntmps91
 go_wp2_with fail
 go_loopw [3] (fun v wr => ∃ (l : List ByteArray) (out : List (List UInt8)) (r : List UInt8), l.length ≤ 17 ∧ Hid (l.map (·.data.toList) = out.take 17) ∧ Hid (wr.ownsRow w.heap.size 9 1 v l.length (l.map Value.string)) ∧ Hid (Bk1 wr b (.string ⟨r.toArray⟩)) ∧ Hid (Fd.go out [] false false r = tot) ∧ Hid (r.length ≤ 100000000) ∧ Hid (w.grownBy wr (some b))) (fun _ wr => cellSz wr b)
 case atStart =>
  exact ⟨[], [], s.data.toList, by simp, Lib.hid rfl, World.ownsRow_nil _ _ _ _, by rw [fd_id]; exact HH, HT.out.symm, Lib.hid (by have := HS.out; rw [fd_len]; omega), grown_refl _ _⟩
 case round =>
  obtain ⟨l, out, r, hl17, hlo, hown, hK, hgo, hsz, hG⟩ := hrel
  obtain ⟨A, c, rfl, -⟩ := Lst.own hown.out
  have hlen : Hid (l.length = min 17 out.length) := by have := congrArg List.length hlo.out; rw [List.length_map, List.length_take] at this; exact this
  have C := Lib.hid (fun W h => fdbegins_any b ⟨r.toArray⟩ W h)
  rw [arr_list] at C
  have hgo2 := hgo.out
  rw [Fd.go_dw] at hgo2
  have hdl := Fd.dw_len r
  have hdh := Fd.dw_head r
  have hmeas : Hid (cellSz wr b = r.length) := by rw [hK.out.sz, Fd.arr_len]; exact Lib.hid rfl
  generalize Fd.dw r = Q at C hgo2 hdl hdh
  have hszo := hsz.out
  obtain ⟨N, hN⟩ : ∃ N, N = l.length := ⟨_, rfl⟩
  have HN := Lib.hid hN
  have hown : Hid (wr.ownsRow w.heap.size 9 1 (.slice A N c) N (l.map Value.string)) := by rw [hN]; exact hown
  rw [← hN] at hl17 ⊢
  clear hN hgo
  have fin : (Q = [] ∨ ∃ t, Q = 35 :: t) → Hid (some out = tot) := fun h => by
   rw [← hgo2]; exact Lib.hid (Fd.go_end out Q h).symm
  cases Q with
  | nil =>
   have HA := fin (.inl rfl)
   clear fin hgo2 hdh
   have hb0 : Fd.bgn [] = false := rfl
   rw [hb0] at C
   by_cases h16 : N ≤ 16
   ·
    go_wp2_with fail
    refine (C.out _ hK.out).mono ?_; rintro e w1 ⟨rfl, k1, g1⟩
    have G2 := Lib.hid (grown_trans hG.out g1)
    have O2 := Lib.hid (own_by hown.out g1 hbw)
    clear k1 g1 hG hown
    go_wp2_with fail
    rw [show decide ((N : Int) ≤ 16) = true from decide_eq_true (by omega)]
    refine (need_yes 6 _).mono ?_; rintro e w2 ⟨rfl, rfl⟩
    go_wp2_with fail
    go_ret
    refine ⟨G2.out, .inl ?_⟩
    have h1 : out.length ≤ 16 := by have := hlen.out; have := HN.out; omega
    rw [← HA.out, Fd.told_some, if_neg (by omega)]
    refine ⟨rfl, _, l, by rw [← HN.out]; exact O2.out, ?_, rfl⟩
    rw [hlo.out]
    exact List.take_of_length_le (by omega)
   ·
    go_wp2_with fail
    refine (C.out _ hK.out).mono ?_; rintro e w1 ⟨rfl, k1, g1⟩
    have G2 := Lib.hid (grown_trans hG.out g1)
    clear k1 g1 hG hown
    go_wp2_with fail
    rw [show decide ((N : Int) ≤ 16) = false from decide_eq_false (by omega)]
    refine (need_no 6 _).mono ?_; rintro e w2 ⟨rfl, rfl⟩
    simp +zetaDelta only [Exit.then, Exit.inBlock, bodyPost]
    refine ⟨trivial, G2.out, .inr ?_⟩
    have h1 : 16 < out.length := by have := hlen.out; have := HN.out; omega
    rw [← HA.out, Fd.told_some, if_pos h1]
    exact ⟨by decide, rfl⟩
  | cons x t =>
   have hw := hdh x t rfl
   by_cases h35 : x = 35
   ·
    subst h35
    have HA := fin (.inr ⟨t, rfl⟩)
    clear fin hgo2 hdh
    have hb0 : Fd.bgn (35 :: t) = false := rfl
    rw [hb0] at C
    by_cases h16 : N ≤ 16
    ·
     go_wp2_with fail
     refine (C.out _ hK.out).mono ?_; rintro e w1 ⟨rfl, k1, g1⟩
     have G2 := Lib.hid (grown_trans hG.out g1)
     have O2 := Lib.hid (own_by hown.out g1 hbw)
     clear k1 g1 hG hown
     go_wp2_with fail
     rw [show decide ((N : Int) ≤ 16) = true from decide_eq_true (by omega)]
     refine (need_yes 6 _).mono ?_; rintro e w2 ⟨rfl, rfl⟩
     go_wp2_with fail
     go_ret
     refine ⟨G2.out, .inl ?_⟩
     have h1 : out.length ≤ 16 := by have := hlen.out; have := HN.out; omega
     rw [← HA.out, Fd.told_some, if_neg (by omega)]
     refine ⟨rfl, _, l, by rw [← HN.out]; exact O2.out, ?_, rfl⟩
     rw [hlo.out]
     exact List.take_of_length_le (by omega)
    ·
     go_wp2_with fail
     refine (C.out _ hK.out).mono ?_; rintro e w1 ⟨rfl, k1, g1⟩
     have G2 := Lib.hid (grown_trans hG.out g1)
     clear k1 g1 hG hown
     go_wp2_with fail
     rw [show decide ((N : Int) ≤ 16) = false from decide_eq_false (by omega)]
     refine (need_no 6 _).mono ?_; rintro e w2 ⟨rfl, rfl⟩
     simp +zetaDelta only [Exit.then, Exit.inBlock, bodyPost]
     refine ⟨trivial, G2.out, .inr ?_⟩
     have h1 : 16 < out.length := by have := hlen.out; have := HN.out; omega
     rw [← HA.out, Fd.told_some, if_pos h1]
     exact ⟨by decide, rfl⟩
   ·
    have hb0 : Fd.bgn (x :: t) = true := by show (!(decide (x = 35))) = true; rw [decide_eq_false h35]; rfl
    rw [hb0] at C
    rw [Fd.go_open out x t hw h35] at hgo2
    have F := Lib.hid (fun W h => field_any b ⟨(x :: t).toArray⟩ W h (by rw [Fd.arr_len]; omega))
    rw [arr_list] at F
    clear fin hdh hb0
    cases hfl : Fd.fl [] false (x :: t) with
    | none =>
     rw [hfl] at F hgo2
     have HA := Lib.hid (show none = tot from hgo2)
     clear hgo2 hfl
     go_wp2_with fail
     refine (C.out _ hK.out).mono ?_; rintro e w1 ⟨rfl, k1, g1⟩
     have K2 := Lib.hid k1
     have G2 := Lib.hid (grown_trans hG.out g1)
     clear k1 g1 hG
     go_wp2_with fail
     refine (F.out _ K2.out).mono ?_; rintro e w2 ⟨g2, hx2⟩
     have hx2 : e = .panicked (gvP 8) := hx2
     subst hx2
     have G3 := Lib.hid (grown_trans G2.out g2)
     clear g2
     simp +zetaDelta only [Exit.then, Exit.inBlock, bodyPost]
     refine ⟨trivial, G3.out, .inr ?_⟩
     rw [← HA.out]
     exact ⟨by decide, rfl⟩
    | some p =>
     obtain ⟨g, r'⟩ := p
     rw [hfl] at F hgo2
     have HGO := Lib.hid (show Fd.go (out ++ [g]) [] false false r' = tot from hgo2)
     have hless := Fd.fl_less x t g r' hw h35 hfl
     have hgl := (Fd.fl_len (x :: t) [] false g r' hfl).2
     clear hgo2 hfl
     have hGz := Fd.arr_len g
     have hGl := arr_list g
     have F : Hid (∀ W, Bk1 W b (.string ⟨(x :: t).toArray⟩) → Calls Tryz.prog 116 #[.pointer (some ⟨b, 0, none⟩)] W fun e w' => W.grownBy w' (some b) ∧ e = .returned (.string ⟨g.toArray⟩) ∧ Bk1 w' b (.string ⟨r'.toArray⟩)) := F
     generalize (⟨g.toArray⟩ : ByteArray) = G at F hGz hGl
     have htl : (x :: t).length = t.length + 1 := rfl
     by_cases h16 : N ≤ 16
     ·
      have HLO := Lib.hid (show (l ++ [G]).map (·.data.toList) = (out ++ [g]).take 17 by
       have h1 : out.length ≤ 16 := by have := hlen.out; have := HN.out; omega
       rw [List.map_append, hlo.out, List.take_of_length_le (by omega), List.take_of_length_le (by rw [List.length_append]; simp; omega)]
       simp [hGl])
      go_wp2_with fail
      refine (C.out _ hK.out).mono ?_; rintro e w1 ⟨rfl, k1, g1⟩
      have K2 := Lib.hid k1
      have G2 := Lib.hid (grown_trans hG.out g1)
      have O2 := Lib.hid (own_by hown.out g1 hbw)
      clear k1 g1 hG hown hK
      go_wp2_with fail
      refine (F.out _ K2.out).mono ?_; rintro e w2 ⟨g2, rfl, k2⟩
      have K3 := Lib.hid k2
      have G3 := Lib.hid (grown_trans G2.out g2)
      have hown := Lib.hid (own_by O2.out g2 hbw)
      have hsz2 := G3.out.size
      clear k2 g2 G2 O2 K2
      go_wp2_with (at_builtin; refine wpList_append_own _ rfl _ _ 46 rfl w.heap.size 9 i0 (.string ⟨#[]⟩) 1 16 Tryz.underlying46 hi hz0 hz1 hz2 rfl (by decide) _ _ _ rfl (hown.out.alloc _) ⟨w2.heap.size, 0, none⟩ 1 1 [.string G] rfl rfl (by intro j u hj; match j, hj with | 0, hj => (simp at hj; subst hj; simp [go_sem])) (by intro u hu; simp at hu; subst hu; rfl) (by unfold maxLen; omega) (by omega) (by simp; omega) ?_)
      intro v6 w6 own6 grow6 _
      have b6 : Below w.heap.size w2 w6 := (((Below.refl _ _).alloc hsz2 _).trans (below_grown grow6 (by simp; omega) (own_row hown.out)))
      have G6 := Lib.hid (grown_low G3.out b6)
      have K6 := Lib.hid (bk1_low K3.out b6 hbw)
      have O6 := Lib.hid (show w6.ownsRow w.heap.size 9 1 v6 (l ++ [G]).length ((l ++ [G]).map Value.string) from by rw [List.length_append, List.map_append]; have := own6; rw [HN.out] at this; exact this)
      clear own6 grow6 hown b6 G3 K3
      go_wp2_with fail
      go_roundw
      case rel => exact ⟨l ++ [G], out ++ [g], r', by rw [List.length_append]; have := HN.out; simp; omega, HLO, O6, K6, HGO, Lib.hid (by omega), G6⟩
      case measure => rw [K6.out.sz, hmeas.out, Fd.arr_len]; omega
     ·
      have HLO := Lib.hid (show l.map (·.data.toList) = (out ++ [g]).take 17 by
       have h1 : 17 ≤ out.length := by have := hlen.out; have := HN.out; omega
       rw [hlo.out, List.take_append_of_le_length h1])
      go_wp2_with fail
      refine (C.out _ hK.out).mono ?_; rintro e w1 ⟨rfl, k1, g1⟩
      have K2 := Lib.hid k1
      have G2 := Lib.hid (grown_trans hG.out g1)
      have O2 := Lib.hid (own_by hown.out g1 hbw)
      clear k1 g1 hG hown hK
      go_wp2_with fail
      refine (F.out _ K2.out).mono ?_; rintro e w2 ⟨g2, rfl, k2⟩
      have K3 := Lib.hid k2
      have G3 := Lib.hid (grown_trans G2.out g2)
      have O3 := Lib.hid (own_by O2.out g2 hbw)
      clear k2 g2 G2 O2 K2
      go_wp2_with fail
      go_roundw
      case rel => exact ⟨l, out ++ [g], r', by have := HN.out; omega, HLO, by rw [← HN.out]; exact O3, K3, HGO, Lib.hid (by omega), G3⟩
      case measure => rw [K3.out.sz, hmeas.out, Fd.arr_len]; omega
set_option maxRecDepth 100000 in
theorem fd_callFn (qs : Array Value) (W : World) : Sem.run Tryz.prog (callFunc 90 qs) W = .ok (.enter 90 qs) W := rfl
theorem mustl_yes (v : Value) (w : World) : Calls Tryz.prog 61 #[v, .int .i64 0] w fun e w' => e = .returned v ∧ w = w' := by
 go_enter Tryz.func61, Tryz.ntmps61
 go_wp2_with fail
 refine (for_yes _).mono ?_; rintro e w1 ⟨rfl, rfl⟩
 go_wp2_with fail
 go_ret
 exact ⟨rfl, rfl⟩
theorem mustl_no (v : Value) (why : Int) (w : World) (h : why ≠ 0) : Calls Tryz.prog 61 #[v, .int .i64 why] w fun e w' => e = .panicked (gvP why) ∧ w = w' := by
 go_enter Tryz.func61, Tryz.ntmps61
 go_wp2_with fail
 refine (for_no why _ h).mono ?_; rintro e w1 ⟨rfl, rfl⟩
 refine (show bodyPost _ _ _ (Exit.panic (gvP why)) _ _ from ?_)
 simp [bodyPost]
theorem An.sm_mem : ∀ (l : List (List UInt8)) (x : List UInt8), x ∈ l → x.length ≤ Fd.sm l := by
 intro l
 induction l with
 | nil => intro x h; cases h
 | cons y l ih =>
  intro x h
  rw [Fd.sm_cons]
  rcases List.mem_cons.1 h with rfl | h
  ·
   omega
  ·
   have := ih x h; omega
theorem An.field_len (s : ByteArray) (l : List ByteArray) (h : l.map (·.data.toList) = (Fd.of s.data.toList).1) : ∀ x ∈ l, x.size ≤ s.size := by
 intro x hx
 have h1 := (Fd.of_len s.data.toList).1
 rw [← h] at h1
 have h2 := An.sm_mem _ _ (List.mem_map_of_mem hx (f := fun x : ByteArray => x.data.toList))
 have e1 : x.data.toList.length = x.size := Array.length_toList
 have e2 : s.data.toList.length = s.size := Array.length_toList
 try dsimp only at h2
 omega
theorem own_room {w : World} {base : Nat} {e : TypeId} {v : Value} {N : Nat} {xs : List Value} {size : Nat} (h : w.ownsRow base e size v N xs) : ∃ A c, v = .slice A N c ∧ N ≤ c := by
 rcases h.2 with ⟨rfl, rfl⟩ | ⟨g, cap, cur, rfl, _, _, hnc, _⟩
 ·
  exact ⟨_, _, rfl, Nat.le_refl _⟩
 ·
  exact ⟨_, _, rfl, hnc⟩
def AnsFR (P : List (List UInt8) × Int) (w : World) (e : Ending) (w' : World) : Prop := ∃ (A : Option Addr) (n c : Nat) (l : List ByteArray), n ≤ c ∧ StS w' (.slice A n c) l ∧ l.map (·.data.toList) = P.1 ∧ e = .returned (.tuple #[.slice A n c, .int .i64 P.2]) ∧ Below w.heap.size w w'
theorem AnsFR.ans {P : List (List UInt8) × Int} {w w' : World} {e : Ending} (h : AnsFR P w e w') : AnsF P w e w' := by
 obtain ⟨A, n, c, l, _, h1, h2, h3, h4⟩ := h
 exact ⟨_, l, h1, h2, h3, h4⟩
end Go.Proofs.YtifgiclnofdnkaaGreatDoor
