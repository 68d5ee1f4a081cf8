/- Joined: FdI. -/
import Derived.Test.YtlelpeocbgjmhaaGreatDoorBy18
import Derived.Test.YtlelpeocbgjmhaaGreatDoorBy07
set_option linter.unusedVariables false
set_option linter.unusedSimpArgs false
namespace Go.Proofs.YtlelpeocbgjmhaaGreatDoor
open Go.RowKit Go.Sort
def cellSz (W : World) (b : Nat) : Nat := match W.cell? ⟨b, 0, none⟩ with | some (.string s) => s.size | _ => 0
theorem Bk1.sz {W : World} {b : Nat} {s : ByteArray} (h : Bk1 W b (.string s)) : cellSz W b = s.size := by unfold cellSz; rw [h.k0]
theorem bk1_low {W w1 : World} {b B : Nat} {v : Value} (h : Bk1 W b v) (k : Below B W w1) (hb : b < B) : Bk1 w1 b v :=
 ⟨Nat.lt_of_lt_of_le h.hb k.size, fun j => (k.frozen (p := ⟨b, j, none⟩) hb).trans (h.fz j), (k.cell (p := ⟨b, 0, none⟩) hb).trans h.k0⟩
theorem grown_low {w W w1 : World} {r : Option Nat} (h : w.grownBy W r) (k : Below w.heap.size W w1) : w.grownBy w1 r :=
 ⟨k.os.trans h.os, k.tape.trans h.tape, k.output.trans h.output, Nat.le_trans h.size k.size, fun i hi hr => (k.block i hi).trans (h.block i hi hr)⟩
theorem arr_list (l : List UInt8) : (⟨l.toArray⟩ : ByteArray).data.toList = l := by simp
def AnsFl (b : Nat) (o : Option (List UInt8 × List UInt8)) (w : World) (e : Ending) (w' : World) : Prop :=
 w.grownBy w' (some b) ∧ (match o with
  | none => e = .panicked (gvP 8)
  | some p => e = .returned (.string ⟨p.1.toArray⟩) ∧ Bk1 w' b (.string ⟨p.2.toArray⟩))
set_option maxHeartbeats 2000000 in
set_option maxRecDepth 100000 in
theorem field_any (b : Nat) (s : ByteArray) (w : World) (H : Bk1 w b (.string s)) (hs : s.size ≤ 100000000) :
  Calls Tryz.prog 77 #[.pointer (some ⟨b, 0, none⟩)] w (AnsFl b (Fd.fl [] false s.data.toList) w) := by
 obtain ⟨tot, htot⟩ : ∃ tot, tot = Fd.fl [] false s.data.toList := ⟨_, rfl⟩
 rw [← htot]
 have HT := Lib.hid htot
 have HH := Lib.hid H
 have hbw : b < w.heap.size := H.hb
 clear htot H
 have N1 := Lib.hid (show Below w.heap.size w (w.alloc (.cells #[.pointer none, .slice none 0 0] 64)) from (Below.refl _ _).alloc (Nat.le_refl _) _)
 have I1 := Lib.hid (IsB.fresh w)
 have HS := Lib.hid hs
 clear hs
 go_enter Tryz.func77, Tryz.ntmps77
 go_wp2_with fail
 go_loopw [] (fun wr => ∃ f r : List UInt8, Hid (IsB w.heap.size f wr) ∧ Hid (Bk1 wr b (.string ⟨r.toArray⟩)) ∧ Hid (Fd.fl f false r = tot) ∧ Hid (f.length + r.length ≤ 100000000) ∧ Hid (w.grownBy wr (some b))) (fun wr => cellSz wr b)
 case atStart =>
  exact ⟨[], s.data.toList, I1, by rw [fd_id]; exact HH.out.keep N1.out, HT.out.symm, Lib.hid (by have := HS.out; rw [fd_len, List.length_nil]; omega), grown_of N1.out _⟩
 case round =>
  obtain ⟨f, r, hI, hK, hfl, hsz, hG⟩ := hrel
  have hr : (⟨r.toArray⟩ : ByteArray).size ≤ 100000000 := by have := hsz.out; rw [Fd.arr_len]; omega
  have C := Lib.hid (fun W h => plain_any b ⟨r.toArray⟩ W h (by omega))
  rw [arr_list] at C
  have hfl2 := hfl.out
  rw [Fd.fl_pw] at hfl2
  have hpq := Fd.pw_qw r
  have hhd := Fd.qw_head r
  have hmeas : Hid (cellSz wr b = r.length) := by rw [hK.out.sz, Fd.arr_len]; exact Lib.hid rfl
  generalize Fd.pw r = P at C hfl2 hpq
  generalize Fd.qw r = Q at C hfl2 hpq hhd
  have hlen : P.length + Q.length = r.length := by rw [← hpq, List.length_append]
  have hfpl : (f ++ P).length = f.length + P.length := List.length_append
  have hPz := Fd.arr_len P
  have hPl := arr_list P
  obtain ⟨PB, hPB⟩ : ∃ PB : ByteArray, PB = ⟨P.toArray⟩ := ⟨_, rfl⟩
  rw [← hPB] at C hPz hPl
  clear hpq hfl hPB
  have hszo := hsz.out
  go_wp2_with fail
  refine (C.out _ hK.out).mono ?_; rintro e w1 ⟨rfl, k1, g1⟩
  have I2 := Lib.hid (hI.out.by_ g1 hbw)
  have G2 := Lib.hid (grown_trans hG.out g1)
  have K2 := Lib.hid k1
  clear hI hG hK k1 g1
  go_wp2_with fail
  refine (bw_str w.heap.size _ PB _ I2.out (by omega) (by omega)).mono ?_; rintro e w2 ⟨rfl, i2, b2⟩
  have I3 := i2
  rw [hPl] at I3
  have I3 := Lib.hid I3
  have G3 := Lib.hid (grown_low G2.out b2)
  have K3 := Lib.hid (bk1_low K2.out b2 hbw)
  clear i2 b2 I2 G2 K2 C
  have d_b := K3.out.hb; have d_f := K3.out.fz; have d_0 := K3.out.k0
  cases Q with
  | nil =>
   have HA := Lib.hid (show some (f ++ P, []) = tot from hfl2)
   clear hfl2 hhd
   go_wp2_with fail
   refine (b_string w.heap.size _ _ I3.out).mono ?_; rintro e w3 ⟨rfl, -, b3⟩
   have G4 := Lib.hid (grown_low G3.out b3)
   have K4 := Lib.hid (bk1_low K3.out b3 hbw)
   clear b3 d_b d_f d_0
   go_wp2_with fail
   go_ret
   exact ⟨G4.out, by rw [← HA.out]; exact ⟨rfl, K4.out⟩⟩
  | cons c t =>
   have hm := hhd c t rfl
   clear hhd
   have htl : t.length + 1 = (c :: t).length := rfl
   obtain ⟨T, hT⟩ : ∃ T : ByteArray, T = ⟨(c :: t).toArray⟩ := ⟨_, rfl⟩
   have hz : 0 < T.size := by rw [hT]; show 0 < (c :: t).toArray.size; simp
   have IX := fun W => fd_ix T 0 hz W
   have hc : T[0] = c := by subst hT; rfl
   rw [hc] at IX
   obtain ⟨n1, n2⟩ := fd_ne hz
   rw [← hT] at d_0
   by_cases h34 : c = 34
   ·
    subst h34
    have IX : ∀ W, Sem.run Tryz.prog (Instr.index 9 (.string T) (.int .i64 0)) W = .ok (.int .u8 34) W := IX
    rw [Fd.fl_34] at hfl2
    rcases Fd.ib_34 t with ⟨hi, hno⟩ | ⟨k, hi, hk, hno, hd⟩
    ·
     have HA := Lib.hid (show none = tot by rw [← hfl2, Fd.fl_lost _ _ hno])
     have QN := Lib.hid (fun W h => quoted_no b t W h hi (by omega))
     clear hfl2 hi hno hc hT
     go_wp2_with fail
     refine (QN.out _ K3.out).mono ?_; rintro e w3 ⟨rfl, g3⟩
     have G4 := Lib.hid (grown_trans G3.out g3)
     clear g3
     simp +zetaDelta only [Exit.then, Exit.inBlock, bodyPost]
     rw [← HA.out]
     refine ⟨trivial, ?_⟩
     exact ⟨G4.out, rfl⟩
    ·
     obtain ⟨x, hx⟩ : ∃ x, x = t.take k := ⟨_, rfl⟩
     obtain ⟨u, hu⟩ : ∃ u, u = t.drop (k + 1) := ⟨_, rfl⟩
     have hsplit : x ++ 34 :: u = t := by rw [hx, hu, ← hd, List.take_append_drop]
     have HA := Lib.hid (show Fd.fl ((f ++ P) ++ x) false u = tot by rw [← hfl2, ← hsplit, Fd.fl_quoted u x _ (by rw [hx]; exact hno)])
     have QY := Lib.hid (fun W h => quoted_yes b t x u W h k hi hk hx.symm hu.symm (by omega))
     have hl2 : x.length + u.length + 1 = t.length := by rw [← hsplit, List.length_append]; rfl
     have hxz := Fd.arr_len x
     have hxl := arr_list x
     have h3 : ((f ++ P) ++ x).length = f.length + P.length + x.length := by rw [List.length_append, List.length_append]
     clear hfl2 hi hno hc hT hx hu hd hk hsplit
     generalize (⟨x.toArray⟩ : ByteArray) = XB at QY hxz hxl
     go_wp2_with fail
     refine (QY.out _ K3.out).mono ?_; rintro e w3 ⟨rfl, k3, g3⟩
     have I4 := Lib.hid (I3.out.by_ g3 hbw)
     have G4 := Lib.hid (grown_trans G3.out g3)
     have K4 := Lib.hid k3
     clear g3 k3 I3 G3 K3 d_b d_f d_0
     go_wp2_with fail
     refine (bw_str w.heap.size _ XB _ I4.out (by omega) (by omega)).mono ?_; rintro e w4 ⟨rfl, i5, b5⟩
     rw [hxl] at i5
     have I5 := Lib.hid i5
     have G5 := Lib.hid (grown_low G4.out b5)
     have K5 := Lib.hid (bk1_low K4.out b5 hbw)
     clear i5 b5 I4 G4 K4
     go_wp2_with fail
     go_roundw
     case rel => exact ⟨(f ++ P) ++ x, u, I5, K5, HA, Lib.hid (by rw [h3]; simp only [List.length_cons] at hlen; omega), G5⟩
     case measure => rw [K5.out.sz, hmeas.out, Fd.arr_len]; simp only [List.length_cons] at hlen; omega
   ·
    have HA := Lib.hid (show some (f ++ P, c :: t) = tot by rw [← hfl2, Fd.fl_shut _ _ _ hm h34])
    have g2 : ((c.toNat : Int) == 34) = false := by rw [beq_eq_false_iff_ne]; intro h; exact h34 (UInt8.toNat_inj.1 (by rw [show (34 : UInt8).toNat = 34 from rfl]; omega))
    have IX : ∀ W, Sem.run Tryz.prog (Instr.index 9 (.string T) (.int .i64 0)) W = .ok (.int .u8 c.toNat) W := IX
    generalize (c.toNat : Int) = C0 at IX g2
    clear hfl2 hc hT h34
    go_wp2_with fail
    refine (b_string w.heap.size _ _ I3.out).mono ?_; rintro e w3 ⟨rfl, -, b3⟩
    have G4 := Lib.hid (grown_low G3.out b3)
    have K4 := Lib.hid (bk1_low K3.out b3 hbw)
    clear b3 d_b d_f d_0
    go_wp2_with fail
    go_ret
    exact ⟨G4.out, by rw [← HA.out]; exact ⟨rfl, K4.out⟩⟩
end Go.Proofs.YtlelpeocbgjmhaaGreatDoor
