/- Joined: FdJ, GvT, FdK, FdRm, GvX, FdR, RnE. -/
import Derived.Test.YtbcbggdbojonmaaGreatDoorBy16
import Derived.Test.YtbcbggdbojonmaaGreatDoorBy01
import Derived.Test.YtbcbggdbojonmaaGreatDoorBy10
import Derived.Test.YtbcbggdbojonmaaGreatDoorBy02
import Derived.Test.YtbcbggdbojonmaaGreatDoorBy04
set_option linter.unusedVariables false
set_option linter.unusedSimpArgs false
namespace Go.Proofs.YtbcbggdbojonmaaGreatDoor
open Go.RowKit Go.Sort
theorem own_by {w w' : World} {base b : Nat} {e : TypeId} {size : Nat} {v : Value} {n : Nat} {xs : List Value} (h : w.ownsRow base e size v n xs) (k : w.grownBy w' (some b)) (hb : b < base) : w'.ownsRow base e size v n xs :=
 h.kept k (by
  cases hv : v.ownBlock with
  | none => exact .inl rfl
  | some g => right; intro e; injection e with e; have := own_row h g hv; omega)
def AnsCs (b : Nat) (R : List (List UInt8) × Int) (w : World) (e : Ending) (w' : World) : Prop :=
 w.grownBy w' (some b) ∧ ((R.2 = 0 ∧ ∃ (v : Value) (l : List ByteArray), w'.ownsRow w.heap.size 9 1 v l.length (l.map Value.string) ∧ l.map (·.data.toList) = R.1 ∧ e = .returned v) ∨ (R.2 ≠ 0 ∧ e = .panicked (gvP R.2)))
namespace Fd
theorem told_some (P : List (List UInt8)) : told (some P) = if 16 < P.length then ([], 6) else (P, 0) := rfl
end Fd
set_option maxHeartbeats 4000000 in
set_option maxRecDepth 100000 in
theorem cfields_any (b : Nat) (s : ByteArray) (w : World) (H : Bk1 w b (.string s)) (hs : s.size ≤ 100000000) :
  Calls Tryz.prog 52 #[.pointer (some ⟨b, 0, none⟩)] w (AnsCs b (Fd.of s.data.toList) w) := by
 obtain ⟨i0, hi, hz0, hz1, hz2⟩ := fd_parts fd_info
 obtain ⟨tot, htot⟩ : ∃ tot, tot = Fd.go [] [] false false s.data.toList := ⟨_, rfl⟩
 unfold Fd.of
 rw [← htot]
 have HT := Lib.hid htot
 have HH := Lib.hid H
 have hbw : b < w.heap.size := H.hb
 have HS := Lib.hid hs
 clear htot H hs
 go_enter Tryz.func52, Tryz.ntmps52
 go_wp2_with fail
 go_loopw [3] (fun v wr => ∃ (l : List ByteArray) (out : List (List UInt8)) (r : List UInt8), l.length ≤ 17 ∧ Hid (l.map (·.data.toList) = out.take 17) ∧ Hid (wr.ownsRow w.heap.size 9 1 v l.length (l.map Value.string)) ∧ Hid (Bk1 wr b (.string ⟨r.toArray⟩)) ∧ Hid (Fd.go out [] false false r = tot) ∧ Hid (r.length ≤ 100000000) ∧ Hid (w.grownBy wr (some b))) (fun _ wr => cellSz wr b)
 case atStart =>
  exact ⟨[], [], s.data.toList, by simp, Lib.hid rfl, World.ownsRow_nil _ _ _ _, by rw [fd_id]; exact HH, HT.out.symm, Lib.hid (by have := HS.out; rw [fd_len]; omega), grown_refl _ _⟩
 case round =>
  obtain ⟨l, out, r, hl17, hlo, hown, hK, hgo, hsz, hG⟩ := hrel
  obtain ⟨A, c, rfl, -⟩ := Lst.own hown.out
  have hlen : Hid (l.length = min 17 out.length) := by have := congrArg List.length hlo.out; rw [List.length_map, List.length_take] at this; exact this
  have C := Lib.hid (fun W h => fdbegins_any b ⟨r.toArray⟩ W h)
  rw [arr_list] at C
  have hgo2 := hgo.out
  rw [Fd.go_dw] at hgo2
  have hdl := Fd.dw_len r
  have hdh := Fd.dw_head r
  have hmeas : Hid (cellSz wr b = r.length) := by rw [hK.out.sz, Fd.arr_len]; exact Lib.hid rfl
  generalize Fd.dw r = Q at C hgo2 hdl hdh
  have hszo := hsz.out
  obtain ⟨N, hN⟩ : ∃ N, N = l.length := ⟨_, rfl⟩
  have HN := Lib.hid hN
  have hown : Hid (wr.ownsRow w.heap.size 9 1 (.slice A N c) N (l.map Value.string)) := by rw [hN]; exact hown
  rw [← hN] at hl17 ⊢
  clear hN hgo
  have fin : (Q = [] ∨ ∃ t, Q = 35 :: t) → Hid (some out = tot) := fun h => by
   rw [← hgo2]; exact Lib.hid (Fd.go_end out Q h).symm
  cases Q with
  | nil =>
   have HA := fin (.inl rfl)
   clear fin hgo2 hdh
   have hb0 : Fd.bgn [] = false := rfl
   rw [hb0] at C
   by_cases h16 : N ≤ 16
   ·
    go_wp2_with fail
    refine (C.out _ hK.out).mono ?_; rintro e w1 ⟨rfl, k1, g1⟩
    have G2 := Lib.hid (grown_trans hG.out g1)
    have O2 := Lib.hid (own_by hown.out g1 hbw)
    clear k1 g1 hG hown
    go_wp2_with fail
    rw [show decide ((N : Int) ≤ 16) = true from decide_eq_true (by omega)]
    refine (need_yes 6 _).mono ?_; rintro e w2 ⟨rfl, rfl⟩
    go_wp2_with fail
    go_ret
    refine ⟨G2.out, .inl ?_⟩
    have h1 : out.length ≤ 16 := by have := hlen.out; have := HN.out; omega
    rw [← HA.out, Fd.told_some, if_neg (by omega)]
    refine ⟨rfl, _, l, by rw [← HN.out]; exact O2.out, ?_, rfl⟩
    rw [hlo.out]
    exact List.take_of_length_le (by omega)
   ·
    go_wp2_with fail
    refine (C.out _ hK.out).mono ?_; rintro e w1 ⟨rfl, k1, g1⟩
    have G2 := Lib.hid (grown_trans hG.out g1)
    clear k1 g1 hG hown
    go_wp2_with fail
    rw [show decide ((N : Int) ≤ 16) = false from decide_eq_false (by omega)]
    refine (need_no 6 _).mono ?_; rintro e w2 ⟨rfl, rfl⟩
    simp +zetaDelta only [Exit.then, Exit.inBlock, bodyPost]
    refine ⟨trivial, G2.out, .inr ?_⟩
    have h1 : 16 < out.length := by have := hlen.out; have := HN.out; omega
    rw [← HA.out, Fd.told_some, if_pos h1]
    exact ⟨by decide, rfl⟩
  | cons x t =>
   have hw := hdh x t rfl
   by_cases h35 : x = 35
   ·
    subst h35
    have HA := fin (.inr ⟨t, rfl⟩)
    clear fin hgo2 hdh
    have hb0 : Fd.bgn (35 :: t) = false := rfl
    rw [hb0] at C
    by_cases h16 : N ≤ 16
    ·
     go_wp2_with fail
     refine (C.out _ hK.out).mono ?_; rintro e w1 ⟨rfl, k1, g1⟩
     have G2 := Lib.hid (grown_trans hG.out g1)
     have O2 := Lib.hid (own_by hown.out g1 hbw)
     clear k1 g1 hG hown
     go_wp2_with fail
     rw [show decide ((N : Int) ≤ 16) = true from decide_eq_true (by omega)]
     refine (need_yes 6 _).mono ?_; rintro e w2 ⟨rfl, rfl⟩
     go_wp2_with fail
     go_ret
     refine ⟨G2.out, .inl ?_⟩
     have h1 : out.length ≤ 16 := by have := hlen.out; have := HN.out; omega
     rw [← HA.out, Fd.told_some, if_neg (by omega)]
     refine ⟨rfl, _, l, by rw [← HN.out]; exact O2.out, ?_, rfl⟩
     rw [hlo.out]
     exact List.take_of_length_le (by omega)
    ·
     go_wp2_with fail
     refine (C.out _ hK.out).mono ?_; rintro e w1 ⟨rfl, k1, g1⟩
     have G2 := Lib.hid (grown_trans hG.out g1)
     clear k1 g1 hG hown
     go_wp2_with fail
     rw [show decide ((N : Int) ≤ 16) = false from decide_eq_false (by omega)]
     refine (need_no 6 _).mono ?_; rintro e w2 ⟨rfl, rfl⟩
     simp +zetaDelta only [Exit.then, Exit.inBlock, bodyPost]
     refine ⟨trivial, G2.out, .inr ?_⟩
     have h1 : 16 < out.length := by have := hlen.out; have := HN.out; omega
     rw [← HA.out, Fd.told_some, if_pos h1]
     exact ⟨by decide, rfl⟩
   ·
    have hb0 : Fd.bgn (x :: t) = true := by show (!(decide (x = 35))) = true; rw [decide_eq_false h35]; rfl
    rw [hb0] at C
    rw [Fd.go_open out x t hw h35] at hgo2
    have F := Lib.hid (fun W h => field_any b ⟨(x :: t).toArray⟩ W h (by rw [Fd.arr_len]; omega))
    rw [arr_list] at F
    clear fin hdh hb0
    cases hfl : Fd.fl [] false (x :: t) with
    | none =>
     rw [hfl] at F hgo2
     have HA := Lib.hid (show none = tot from hgo2)
     clear hgo2 hfl
     go_wp2_with fail
     refine (C.out _ hK.out).mono ?_; rintro e w1 ⟨rfl, k1, g1⟩
     have K2 := Lib.hid k1
     have G2 := Lib.hid (grown_trans hG.out g1)
     clear k1 g1 hG
     go_wp2_with fail
     refine (F.out _ K2.out).mono ?_; rintro e w2 ⟨g2, hx2⟩
     have hx2 : e = .panicked (gvP 8) := hx2
     subst hx2
     have G3 := Lib.hid (grown_trans G2.out g2)
     clear g2
     simp +zetaDelta only [Exit.then, Exit.inBlock, bodyPost]
     refine ⟨trivial, G3.out, .inr ?_⟩
     rw [← HA.out]
     exact ⟨by decide, rfl⟩
    | some p =>
     obtain ⟨g, r'⟩ := p
     rw [hfl] at F hgo2
     have HGO := Lib.hid (show Fd.go (out ++ [g]) [] false false r' = tot from hgo2)
     have hless := Fd.fl_less x t g r' hw h35 hfl
     have hgl := (Fd.fl_len (x :: t) [] false g r' hfl).2
     clear hgo2 hfl
     have hGz := Fd.arr_len g
     have hGl := arr_list g
     have F : Hid (∀ W, Bk1 W b (.string ⟨(x :: t).toArray⟩) → Calls Tryz.prog 84 #[.pointer (some ⟨b, 0, none⟩)] W fun e w' => W.grownBy w' (some b) ∧ e = .returned (.string ⟨g.toArray⟩) ∧ Bk1 w' b (.string ⟨r'.toArray⟩)) := F
     generalize (⟨g.toArray⟩ : ByteArray) = G at F hGz hGl
     have htl : (x :: t).length = t.length + 1 := rfl
     by_cases h16 : N ≤ 16
     ·
      have HLO := Lib.hid (show (l ++ [G]).map (·.data.toList) = (out ++ [g]).take 17 by
       have h1 : out.length ≤ 16 := by have := hlen.out; have := HN.out; omega
       rw [List.map_append, hlo.out, List.take_of_length_le (by omega), List.take_of_length_le (by rw [List.length_append]; simp; omega)]
       simp [hGl])
      go_wp2_with fail
      refine (C.out _ hK.out).mono ?_; rintro e w1 ⟨rfl, k1, g1⟩
      have K2 := Lib.hid k1
      have G2 := Lib.hid (grown_trans hG.out g1)
      have O2 := Lib.hid (own_by hown.out g1 hbw)
      clear k1 g1 hG hown hK
      go_wp2_with fail
      refine (F.out _ K2.out).mono ?_; rintro e w2 ⟨g2, rfl, k2⟩
      have K3 := Lib.hid k2
      have G3 := Lib.hid (grown_trans G2.out g2)
      have hown := Lib.hid (own_by O2.out g2 hbw)
      have hsz2 := G3.out.size
      clear k2 g2 G2 O2 K2
      go_wp2_with (at_builtin; refine wpList_append_own _ rfl _ _ 43 rfl w.heap.size 9 i0 (.string ⟨#[]⟩) 1 16 Tryz.underlying43 hi hz0 hz1 hz2 rfl (by decide) _ _ _ rfl (hown.out.alloc _) ⟨w2.heap.size, 0, none⟩ 1 1 [.string G] rfl rfl (by intro j u hj; match j, hj with | 0, hj => (simp at hj; subst hj; simp [go_sem])) (by intro u hu; simp at hu; subst hu; rfl) (by unfold maxLen; omega) (by omega) (by simp; omega) ?_)
      intro v6 w6 own6 grow6 _
      have b6 : Below w.heap.size w2 w6 := (((Below.refl _ _).alloc hsz2 _).trans (below_grown grow6 (by simp; omega) (own_row hown.out)))
      have G6 := Lib.hid (grown_low G3.out b6)
      have K6 := Lib.hid (bk1_low K3.out b6 hbw)
      have O6 := Lib.hid (show w6.ownsRow w.heap.size 9 1 v6 (l ++ [G]).length ((l ++ [G]).map Value.string) from by rw [List.length_append, List.map_append]; have := own6; rw [HN.out] at this; exact this)
      clear own6 grow6 hown b6 G3 K3
      go_wp2_with fail
      go_roundw
      case rel => exact ⟨l ++ [G], out ++ [g], r', by rw [List.length_append]; have := HN.out; simp; omega, HLO, O6, K6, HGO, Lib.hid (by omega), G6⟩
      case measure => rw [K6.out.sz, hmeas.out, Fd.arr_len]; omega
     ·
      have HLO := Lib.hid (show l.map (·.data.toList) = (out ++ [g]).take 17 by
       have h1 : 17 ≤ out.length := by have := hlen.out; have := HN.out; omega
       rw [hlo.out, List.take_append_of_le_length h1])
      go_wp2_with fail
      refine (C.out _ hK.out).mono ?_; rintro e w1 ⟨rfl, k1, g1⟩
      have K2 := Lib.hid k1
      have G2 := Lib.hid (grown_trans hG.out g1)
      have O2 := Lib.hid (own_by hown.out g1 hbw)
      clear k1 g1 hG hown hK
      go_wp2_with fail
      refine (F.out _ K2.out).mono ?_; rintro e w2 ⟨g2, rfl, k2⟩
      have K3 := Lib.hid k2
      have G3 := Lib.hid (grown_trans G2.out g2)
      have O3 := Lib.hid (own_by O2.out g2 hbw)
      clear k2 g2 G2 O2 K2
      go_wp2_with fail
      go_roundw
      case rel => exact ⟨l, out ++ [g], r', by have := HN.out; omega, HLO, by rw [← HN.out]; exact O3, K3, HGO, Lib.hid (by omega), G3⟩
      case measure => rw [K3.out.sz, hmeas.out, Fd.arr_len]; omega
end Go.Proofs.YtbcbggdbojonmaaGreatDoor
set_option linter.unusedVariables false
set_option linter.unusedSimpArgs false
namespace Go.Proofs.YtbcbggdbojonmaaGreatDoor
open Go.RowKit
def StO (B : Nat) (w : World) (v : Value) (l : List ByteArray) : Prop :=
 ∃ A c, v = .slice A l.length c ∧ (0 < l.length → ∃ a, A = some a ∧ B ≤ a.block ∧ a.block < w.heap.size ∧ ∀ (j : Nat) (u : Value), (l.map Value.string)[j]? = some u → w.cell? (a.add j) = some u)
theorem StO.st {B : Nat} {w : World} {v : Value} {l : List ByteArray} (h : StO B w v l) : StS w v l := by
 obtain ⟨A, c, hv, ha⟩ := h
 exact ⟨A, c, hv, fun hn => by obtain ⟨a, e, _, hb, hc⟩ := ha hn; exact ⟨a, e, hb, hc⟩⟩
theorem StO.own {B base : Nat} {w : World} {v : Value} {l : List ByteArray} (h : w.ownsRow base 9 1 v l.length (l.map Value.string)) (hB : B ≤ base) : StO B w v l := by
 rcases Nat.eq_zero_or_pos l.length with h0 | h0
 ·
  obtain ⟨A, c, hv, _⟩ := Lst.own h
  exact ⟨A, c, hv, fun hn => by omega⟩
 ·
  obtain ⟨g, cap, hv, hb, hlt⟩ := h.form h0
  exact ⟨_, _, hv, fun _ => ⟨_, rfl, Nat.le_trans hB hb, hlt, h.cells (g := g) (by rw [hv]; rfl)⟩⟩
theorem StO.turn {B : Nat} {w w' : World} {v : Value} {l : List ByteArray} (h : StO B w v l) (hs : w.heap.size ≤ w'.heap.size) (k : ∀ i, B ≤ i → i < w.heap.size → w'.heap[i]? = w.heap[i]?) : StO B w' v l := by
 obtain ⟨A, c, hv, ha⟩ := h
 refine ⟨A, c, hv, fun hn => ?_⟩
 obtain ⟨a, e, h1, hb, hc⟩ := ha hn
 refine ⟨a, e, h1, by omega, fun j u hu => ?_⟩
 rw [← hc j u hu]
 exact World.cell?_of_block (by rw [blk_add]; exact k _ h1 hb)
theorem set_block (w : World) (p : Addr) (v : Value) (i : Nat) (h : p.block ≠ i) : (w.setCell p v).heap[i]? = w.heap[i]? := by
 simp [World.setCell, Array.getElem?_modify, h]
theorem set_size (w : World) (p : Addr) (v : Value) : (w.setCell p v).heap.size = w.heap.size := by simp [World.setCell]
theorem gvt_assert (line why : Int) (W : World) : Sem.run Tryz.prog (Instr.typeAssert (Value.iface 110 (Value.agg #[Value.int IntKind.i64 line, Value.int IntKind.i64 why])) 20 110 true) W = .ok (.tuple #[.agg #[.int .i64 line, .int .i64 why], .bool true]) W := by
 kernel_rfl
set_option maxRecDepth 100000 in
theorem gvt_catch (b : Nat) (x y line why : Int) (older : List PanicEntry) (w : World) (hb : b < w.heap.size) (hc : w.cell? ⟨b, 0, none⟩ = some (.int .i64 x)) (hd : w.cell? ⟨b, 1, none⟩ = some (.int .i64 y)) (hz : ∀ j, w.frozen? ⟨b, j, none⟩ = false) :
  CallsD Tryz.prog 103 #[.pointer (some ⟨b, 0, none⟩)] (.panicking ({ v := gvV line why, recovered := false } :: older)) w fun e u' w' =>
   e = .returned (.tuple #[]) ∧ u' = .panicking ({ v := gvV line why, recovered := true } :: older) ∧ w' = ((w.setCell ⟨b, 0, none⟩ (.int .i64 line)).setCell ⟨b, 1, none⟩ (.int .i64 why)).alloc (.cells #[.int .i64 line, .int .i64 why] 110) := by
 unfold gvV
 have hta := fun W => gvt_assert line why W
 refine callsD_of_wpS Tryz.func103 rfl fun c₀ cs hu => ?_
 apply wpS_seq
 apply wpS_region
 simp [wpOpsS, go_sem, recoverD, hu, Tryz.ntmps103, Exit.thenS]
 refine wpS_of_wp ?_
 rw [show (#[Value.pointer (some ⟨b, 0, none⟩)] ++ (Array.replicate 11 undef).setIfInBounds 3 (Value.iface 110 (Value.agg #[Value.int IntKind.i64 line, Value.int IntKind.i64 why])) : Array Value) = #[.pointer (some ⟨b, 0, none⟩), undef, undef, undef, .iface 110 (.agg #[.int .i64 line, .int .i64 why]), undef, undef, undef, undef, undef, undef, undef] from rfl]
 have n1 : b ≠ w.heap.size := Nat.ne_of_lt hb
 have n2 : w.heap.size ≠ b := Nat.ne_of_gt hb
 go_wp2_with fail
 all_goals (cases c₀; simp_all [bodyPostS, results, Tryz.results103])
theorem gvt_idle (p : Addr) (w : World) :
  CallsD Tryz.prog 103 #[.pointer (some p)] .returning w fun e u' w' => e = .returned (.tuple #[]) ∧ u' = .returning ∧ w' = w := by
 refine callsD_of_wpS Tryz.func103 rfl fun c₀ cs hu => ?_
 apply wpS_seq
 apply wpS_region
 simp [wpOpsS, go_sem, recoverD, hu, Tryz.ntmps103, Exit.thenS]
 refine wpS_of_wp ?_
 rw [show (#[Value.pointer (some p)] ++ (Array.replicate 11 undef).setIfInBounds 3 Value.nilIface : Array Value) = #[.pointer (some p), undef, undef, undef, .nilIface, undef, undef, undef, undef, undef, undef, undef] from rfl]
 go_wp2_with fail
 all_goals (cases c₀; simp_all [bodyPostS, results, Tryz.results103])
set_option maxHeartbeats 1000000 in
set_option maxRecDepth 100000 in
theorem tcaughtat_no (g : FuncId) (qs : Array Value) (hg : ∀ W, Sem.run Tryz.prog (callFunc g qs) W = .ok (.enter g qs) W) (line why : Int) (w : World)
  (CG : Hid (∀ W, Below w.heap.size w W → Calls Tryz.prog g qs W fun e w' => e = .panicked (gvL line why) ∧ Below W.heap.size W w')) :
  Calls Tryz.prog 82 #[.func (Fn.func g) #[] qs] w fun e w' => e = .returned (.tuple #[.slice none 0 0, .agg #[.int .i64 line, .int .i64 why]]) ∧ Below w.heap.size w w' := by
 have hmf : ∀ (fn : Fn) (first cap : Array Value) (w : World), (Instr.makeFunc fn first cap).run Tryz.prog w = .ok (.func fn first cap) w := fun _ _ _ _ => rfl
 go_enter_defers Tryz.func82, Tryz.ntmps82
 go_wp2_with fail
 refine (CG.out _ ((Below.refl _ _).alloc (Nat.le_refl _) _)).mono ?_; rintro e w1 ⟨rfl, b1⟩
 have B1 := Lib.hid (below_step ((Below.refl _ _).alloc (Nat.le_refl _) _) b1)
 have Q1 : Bk2 w1 w.heap.size (.int .i64 0) (.int .i64 0) := Bk2.of b1 (by simp) (by intro j; simp [go_sem]) (by simp [go_sem]) (by simp [go_sem])
 clear b1
 have c_b := Q1.hb; have c_f := Q1.fz; have c_0 := Q1.k0; have c_1 := Q1.k1
 clear Q1
 refine (show bodyPostD _ _ _ (Exit.panic (gvL line why)) _ _ from ?_)
 refine leaves_cons (f := 103) (args := #[.pointer (some ⟨w.heap.size, 0, none⟩)]) (by simp) (by simp [go_sem]) ?_
 refine (gvt_catch w.heap.size 0 0 line why [] _ c_b c_0 c_1 c_f).mono ?_
 rintro e u' w'' ⟨rfl, rfl, rfl⟩
 simp [Leaves, settle, results, Tryz.results82, go_sem, c_b, c_0, c_1, c_f]
 clear c_b c_f c_0 c_1
 refine Below.alloc (Below.setCell (Below.setCell B1.out (Nat.le_refl _) _) (Nat.le_refl _) _) (by simp; exact B1.out.size) _
set_option maxHeartbeats 1000000 in
set_option maxRecDepth 100000 in
theorem tcaught_no (g : FuncId) (qs : Array Value) (hg : ∀ W, Sem.run Tryz.prog (callFunc g qs) W = .ok (.enter g qs) W) (line why : Int) (w : World)
  (CG : Hid (∀ W, Below w.heap.size w W → Calls Tryz.prog g qs W fun e w' => e = .panicked (gvL line why) ∧ Below W.heap.size W w')) :
  Calls Tryz.prog 50 #[.func (Fn.func g) #[] qs] w fun e w' => e = .returned (.tuple #[.slice none 0 0, .int .i64 why]) ∧ Below w.heap.size w w' := by
 go_enter Tryz.func50, Tryz.ntmps50
 go_wp2_with fail
 refine (tcaughtat_no g qs hg line why _ CG).mono ?_; rintro e w1 ⟨rfl, b1⟩
 have B1 := Lib.hid b1
 clear b1
 go_wp2_with fail
 go_quiet (fail)
 go_wp2_with fail
 go_ret2
 exact ⟨rfl, by repeat (first | exact B1.out | refine _root_.Go.below_drewN ?_ _ | refine Below.drew ?_ | refine Below.setCell ?_ (by first | omega | (simp; done) | (simp; exact B1.out.size) | (simp; omega)) _ | refine Below.alloc ?_ (by first | exact B1.out.size | omega | (simp; done) | (simp; omega)) _)⟩
end Go.Proofs.YtbcbggdbojonmaaGreatDoor
set_option linter.unusedVariables false
set_option linter.unusedSimpArgs false
namespace Go.Proofs.YtbcbggdbojonmaaGreatDoor
open Go.RowKit Go.Sort
set_option maxRecDepth 100000 in
theorem fd_callFn (qs : Array Value) (W : World) : Sem.run Tryz.prog (callFunc 51 qs) W = .ok (.enter 51 qs) W := rfl
theorem own_room {w : World} {base : Nat} {e : TypeId} {v : Value} {N : Nat} {xs : List Value} {size : Nat} (h : w.ownsRow base e size v N xs) : ∃ A c, v = .slice A N c ∧ N ≤ c := by
 rcases h.2 with ⟨rfl, rfl⟩ | ⟨g, cap, cur, rfl, _, _, hnc, _⟩
 ·
  exact ⟨_, _, rfl, Nat.le_refl _⟩
 ·
  exact ⟨_, _, rfl, hnc⟩
def AnsFR (P : List (List UInt8) × Int) (w : World) (e : Ending) (w' : World) : Prop := ∃ (A : Option Addr) (n c : Nat) (l : List ByteArray), n ≤ c ∧ StS w' (.slice A n c) l ∧ l.map (·.data.toList) = P.1 ∧ e = .returned (.tuple #[.slice A n c, .int .i64 P.2]) ∧ Below w.heap.size w w'
theorem AnsFR.ans {P : List (List UInt8) × Int} {w w' : World} {e : Ending} (h : AnsFR P w e w') : AnsF P w e w' := by
 obtain ⟨A, n, c, l, _, h1, h2, h3, h4⟩ := h
 exact ⟨_, l, h1, h2, h3, h4⟩
end Go.Proofs.YtbcbggdbojonmaaGreatDoor
set_option linter.unusedVariables false
set_option linter.unusedSimpArgs false
namespace Go.Proofs.YtbcbggdbojonmaaGreatDoor
open Go.RowKit
set_option maxHeartbeats 1000000 in
set_option maxRecDepth 100000 in
theorem tcaughtat_room (g : FuncId) (qs : Array Value) (hg : ∀ W, Sem.run Tryz.prog (callFunc g qs) W = .ok (.enter g qs) W) (P : List (List UInt8)) (w : World)
  (CG : Hid (∀ W, Below w.heap.size w W → Calls Tryz.prog g qs W fun e w' => ∃ (v : Value) (l : List ByteArray), StO W.heap.size w' v l ∧ (∃ A n c, v = .slice A n c ∧ n ≤ c) ∧ l.map (·.data.toList) = P ∧ e = .returned v ∧ Below W.heap.size W w')) :
  Calls Tryz.prog 82 #[.func (Fn.func g) #[] qs] w fun e w' => ∃ (v : Value) (l : List ByteArray), StS w' v l ∧ (∃ A n c, v = .slice A n c ∧ n ≤ c) ∧ l.map (·.data.toList) = P ∧ e = .returned (.tuple #[v, .agg #[.int .i64 0, .int .i64 0]]) ∧ Below w.heap.size w w' := by
 have hmf : ∀ (fn : Fn) (first cap : Array Value) (w : World), (Instr.makeFunc fn first cap).run Tryz.prog w = .ok (.func fn first cap) w := fun _ _ _ _ => rfl
 go_enter_defers Tryz.func82, Tryz.ntmps82
 go_wp2_with fail
 refine (CG.out _ ((Below.refl _ _).alloc (Nat.le_refl _) _)).mono ?_; rintro e w1 ⟨v, l, hst, hrm, hlp, rfl, b1⟩
 have HRM := Lib.hid hrm; clear hrm
 have HST := Lib.hid hst; have HLP := Lib.hid hlp
 clear hlp
 obtain ⟨A, c, rfl, -⟩ := hst
 have B1 := Lib.hid (below_step ((Below.refl _ _).alloc (Nat.le_refl _) _) b1)
 have Q1 : Bk2 w1 w.heap.size (.int .i64 0) (.int .i64 0) := Bk2.of b1 (by simp) (by intro j; simp [go_sem]) (by simp [go_sem]) (by simp [go_sem])
 clear b1
 have c_b := Q1.hb; have c_f := Q1.fz; have c_0 := Q1.k0; have c_1 := Q1.k1
 clear Q1
 go_wp2_with fail
 refine leaves_cons (f := 103) (args := #[.pointer (some ⟨w.heap.size, 0, none⟩)]) (by simp) (by simp [go_sem]) ?_
 refine (gvt_idle ⟨w.heap.size, 0, none⟩ _).mono ?_
 rintro e u' w'' ⟨rfl, rfl, rfl⟩
 simp [Leaves, settle, results, Tryz.results82, go_sem, c_b, c_0, c_1, c_f]
 clear c_b c_f c_0 c_1
 refine ⟨_, l, StO.st (StO.turn (StO.turn HST.out (Nat.le_of_eq (set_size ..).symm) (fun i h1 h2 => set_block _ _ _ _ ?_)) (Nat.le_of_eq (set_size ..).symm) (fun i h1 h2 => set_block _ _ _ _ ?_)), HRM.out, HLP.out, rfl, ?_⟩
 ·
  simp at h1; show w.heap.size ≠ i; omega
 ·
  simp at h1; show w.heap.size ≠ i; omega
 ·
  repeat (refine Below.setCell ?_ (by first | omega | (simp; done) | (simp; omega)) _)
  exact B1.out
set_option maxHeartbeats 1000000 in
set_option maxRecDepth 100000 in
theorem tcaught_room (g : FuncId) (qs : Array Value) (hg : ∀ W, Sem.run Tryz.prog (callFunc g qs) W = .ok (.enter g qs) W) (P : List (List UInt8)) (w : World)
  (CG : Hid (∀ W, Below w.heap.size w W → Calls Tryz.prog g qs W fun e w' => ∃ (v : Value) (l : List ByteArray), StO W.heap.size w' v l ∧ (∃ A n c, v = .slice A n c ∧ n ≤ c) ∧ l.map (·.data.toList) = P ∧ e = .returned v ∧ Below W.heap.size W w')) :
  Calls Tryz.prog 50 #[.func (Fn.func g) #[] qs] w (AnsFR (P, 0) w) := by
 go_enter Tryz.func50, Tryz.ntmps50
 go_wp2_with fail
 refine (tcaughtat_room g qs hg P _ CG).mono ?_; rintro e w1 ⟨v, l, hst, hrm, hlp, rfl, b1⟩
 obtain ⟨A, n, c, rfl, hnc⟩ := hrm
 have HNC := Lib.hid hnc; clear hnc
 have HST := Lib.hid hst; have HLP := Lib.hid hlp
 clear hst hlp
 have B1 := Lib.hid b1
 clear b1
 go_wp2_with fail
 go_quiet (fail)
 go_wp2_with fail
 go_ret2
 refine ⟨A, n, c, l, HNC.out, HST.out.on ?_, HLP.out, rfl, below_step B1.out ?_⟩
 all_goals (repeat (first | refine _root_.Go.below_drewN ?_ _ | refine Below.drew ?_ | refine Below.setCell ?_ (by first | omega | (simp; done) | (simp; omega)) _ | refine Below.alloc ?_ (by first | omega | (simp; done) | (simp; omega)) _ | exact Below.refl _ _))
end Go.Proofs.YtbcbggdbojonmaaGreatDoor
set_option linter.unusedVariables false
set_option linter.unusedSimpArgs false
namespace Go.Proofs.YtbcbggdbojonmaaGreatDoor
open Go.RowKit Go.Sort
set_option maxHeartbeats 1000000 in
set_option maxRecDepth 100000 in
theorem of1_room (b : Nat) (s : ByteArray) (w : World) (hc : w.cell? ⟨b, 0, none⟩ = some (.string s)) (hs : s.size ≤ 100000000) :
  Calls Tryz.prog 51 #[.pointer (some ⟨b, 0, none⟩)] w fun e w' => Below w.heap.size w w' ∧ (((Fd.of s.data.toList).2 = 0 ∧ ∃ (v : Value) (l : List ByteArray), StO w.heap.size w' v l ∧ (∃ A n c, v = .slice A n c ∧ n ≤ c) ∧ l.map (·.data.toList) = (Fd.of s.data.toList).1 ∧ e = .returned v) ∨ ((Fd.of s.data.toList).2 ≠ 0 ∧ e = .panicked (gvP (Fd.of s.data.toList).2))) := by
 have C := Lib.hid (fun b W H => cfields_any b s W H hs)
 unfold AnsCs at C
 generalize Fd.of s.data.toList = R at C ⊢
 clear hs
 go_enter Tryz.func51, Tryz.ntmps51
 go_wp2_with fail
 have hk : Bk1 (w.alloc (.cells #[.string s] 91)) w.heap.size (.string s) := ⟨by simp, fun j => by simp [go_sem], by simp [go_sem]⟩
 have hB : Below w.heap.size w (w.alloc (.cells #[.string s] 91)) := (Below.refl _ _).alloc (Nat.le_refl _) _
 refine (C.out _ _ hk).mono ?_; rintro e w1 ⟨g1, h1⟩
 have hsz := hB.size
 have hz : w.heap.size ≤ (w.alloc (.cells #[.string s] 91)).heap.size := hsz
 have B1 := Lib.hid (hB.trans (grown_at g1 hz))
 rcases h1 with ⟨h0, v, l, own, hl, rfl⟩ | ⟨h0, rfl⟩
 ·
  have ST := Lib.hid (StO.own own hz)
  have RM := Lib.hid (own_room own)
  have HL := Lib.hid hl
  clear own hl g1 hB hk
  go_wp2_with fail
  go_ret
  obtain ⟨A9, c9, e9, k9⟩ := RM.out
  exact ⟨B1.out, .inl ⟨h0, v, l, ST.out, ⟨A9, _, c9, e9, k9⟩, HL.out, rfl⟩⟩
 ·
  refine (show bodyPost _ _ _ (Exit.panic (gvP R.2)) _ _ from ?_)
  simp [bodyPost]
  exact ⟨B1.out, h0⟩
set_option maxHeartbeats 1000000 in
set_option maxRecDepth 100000 in
theorem fof_room (s : ByteArray) (w : World) (hs : s.size ≤ 100000000) :
  Calls Tryz.prog 20 #[.string s] w (AnsFR (Fd.of s.data.toList) w) := by
 have C := Lib.hid (fun b W hc => of1_room b s W hc hs)
 have hR : (Fd.of s.data.toList).2 ≠ 0 → (Fd.of s.data.toList).1 = [] := by
  unfold Fd.of
  generalize Fd.go [] [] false false s.data.toList = o
  cases o with
  | none => intro _; rfl
  | some P =>
   rw [Fd.told_some]
   split
   ·
    intro _; rfl
   ·
    intro h; exact absurd rfl h
 generalize Fd.of s.data.toList = R at C hR ⊢
 obtain ⟨P, why⟩ := R
 by_cases h0 : why = 0
 ·
  subst h0
  have T := Lib.hid (fun b W (hc : W.cell? ⟨b, 0, none⟩ = some (.string s)) => tcaught_room 51 #[.pointer (some ⟨b, 0, none⟩)] (fd_callFn _) P W (Lib.hid fun W' hB => (C.out b W' (fd_keep hc hB)).mono (by
   rintro e w' ⟨h1, ⟨-, v, l, h2, hr, h3, h4⟩ | ⟨h2, -⟩⟩
   ·
    exact ⟨v, l, h2, hr, h3, h4, h1⟩
   ·
    exact absurd rfl h2)))
  clear C hR
  go_enter Tryz.func20, Tryz.ntmps20
  go_wp2_with fail
  refine (T.out _ _ (by simp [go_sem])).mono ?_; rintro e w1 ⟨A, n, c, l, hnc, hst, hl, rfl, b1⟩
  have HNC := Lib.hid hnc; clear hnc
  have ST := Lib.hid hst; have HL := Lib.hid hl
  have B1 := Lib.hid (below_step ((Below.refl _ _).alloc (Nat.le_refl _) _) b1)
  clear hst hl b1
  go_wp2_with fail
  go_ret2
  exact ⟨A, n, c, l, HNC.out, ST.out, HL.out, rfl, B1.out⟩
 ·
  have hP : P = [] := hR h0
  subst hP
  have T := Lib.hid (fun b W (hc : W.cell? ⟨b, 0, none⟩ = some (.string s)) => tcaught_no 51 #[.pointer (some ⟨b, 0, none⟩)] (fd_callFn _) 0 why W (Lib.hid fun W' hB => (C.out b W' (fd_keep hc hB)).mono (by
   rintro e w' ⟨h1, ⟨h2, -⟩ | ⟨h2, h3⟩⟩
   ·
    exact absurd h2 h0
   ·
    exact ⟨h3, h1⟩)))
  clear C hR
  go_enter Tryz.func20, Tryz.ntmps20
  go_wp2_with fail
  refine (T.out _ _ (by simp [go_sem])).mono ?_; rintro e w1 ⟨rfl, b1⟩
  have B1 := Lib.hid (below_step ((Below.refl _ _).alloc (Nat.le_refl _) _) b1)
  clear b1
  go_wp2_with fail
  go_ret2
  exact ⟨none, 0, 0, [], Nat.le_refl _, StS.nil _, rfl, rfl, B1.out⟩
end Go.Proofs.YtbcbggdbojonmaaGreatDoor
set_option linter.unusedVariables false
set_option linter.unusedSimpArgs false
namespace Go.Proofs.YtbcbggdbojonmaaGreatDoor
open Go.RowKit
theorem rread_nil (w : World) :
  Calls Tryz.prog 28 #[.string ⟨#[]⟩] w fun e w' => e = .returned (.tuple #[.int .i64 0, .int .i64 2]) ∧ w = w' := by
 have CD := Lib.hid (fun W => rdigs_nil W)
 go_enter Tryz.func28, Tryz.ntmps28
 go_wp2_with fail
 refine (CD.out _).mono ?_; rintro e w1 ⟨rfl, rfl⟩
 go_wp2_with fail
 go_ret2
 exact ⟨rfl, rfl⟩
theorem rread_mz (w : World) :
  Calls Tryz.prog 28 #[.string ⟨#[45, 48]⟩] w fun e w' => e = .returned (.tuple #[.int .i64 0, .int .i64 2]) ∧ w = w' := by
 have CD := Lib.hid (fun W => rdigs_ne ⟨#[48]⟩ W (by decide) (by decide))
 have IX : ∀ W, Sem.run Tryz.prog (Instr.index 9 (.string ⟨#[45, 48]⟩) (.int .i64 0)) W = .ok (.int .u8 45) W := fun W => rn_ix ⟨#[45, 48]⟩ 0 (by decide) W
 have sl : ∀ W, Sem.run Tryz.prog (Instr.slice 9 (.string ⟨#[45, 48]⟩) (some (.int .i64 1)) none none) W = .ok (.string ⟨#[48]⟩) W := fun W => rn_cut ⟨#[45, 48]⟩ 1 (by decide) W
 go_enter Tryz.func28, Tryz.ntmps28
 go_wp2_with fail
 refine (CD.out _).mono ?_; rintro e w1 ⟨rfl, rfl⟩
 go_wp2_with fail
 go_ret2
 exact ⟨rfl, rfl⟩
theorem rread_yno (s d : ByteArray) (c x : Int) (g : Bool) (w : World) (ls : 1 ≤ (s.size : Int)) (lm : s.size ≤ 1000) (ld : (d.size : Int) + 1 = (s.size : Int)) (IX : (∀ W, Sem.run Tryz.prog (Instr.index 9 (.string s) (.int .i64 0)) W = .ok (.int .u8 c) W)) (hc : (c == 45) = true) (sl : (∀ W, Sem.run Tryz.prog (Instr.slice 9 (.string s) (some (.int .i64 1)) none none) W = .ok (.string d) W)) (CD : Hid (∀ W, Calls Tryz.prog 58 #[.string d] W fun e w' => e = .returned (.bool g) ∧ W = w')) (hg : g = false) :
  Calls Tryz.prog 28 #[.string s] w fun e w' => e = .returned (.tuple #[.int .i64 0, .int .i64 2]) ∧ w = w' := by
 subst hg
 go_enter Tryz.func28, Tryz.ntmps28
 go_wp2_with fail
 refine (CD.out _).mono ?_; rintro e w1 ⟨rfl, rfl⟩
 go_wp2_with fail
 go_ret2
 exact ⟨rfl, rfl⟩
theorem rread_yzero (s d : ByteArray) (c x : Int) (g : Bool) (w : World) (ls : 1 ≤ (s.size : Int)) (lm : s.size ≤ 1000) (ld : (d.size : Int) + 1 = (s.size : Int)) (IX : (∀ W, Sem.run Tryz.prog (Instr.index 9 (.string s) (.int .i64 0)) W = .ok (.int .u8 c) W)) (hc : (c == 45) = true) (sl : (∀ W, Sem.run Tryz.prog (Instr.slice 9 (.string s) (some (.int .i64 1)) none none) W = .ok (.string d) W)) (CD : Hid (∀ W, Calls Tryz.prog 58 #[.string d] W fun e w' => e = .returned (.bool g) ∧ W = w')) (ID : (∀ W, Sem.run Tryz.prog (Instr.index 9 (.string d) (.int .i64 0)) W = .ok (.int .u8 x) W)) (hg : g = true) (h1 : 1 < (d.size : Int)) (hx : (x == 48) = true) :
  Calls Tryz.prog 28 #[.string s] w fun e w' => e = .returned (.tuple #[.int .i64 0, .int .i64 2]) ∧ w = w' := by
 subst hg
 go_enter Tryz.func28, Tryz.ntmps28
 go_wp2_with fail
 refine (CD.out _).mono ?_; rintro e w1 ⟨rfl, rfl⟩
 go_wp2_with fail
 go_ret2
 exact ⟨rfl, rfl⟩
theorem rread_yfar (s d : ByteArray) (c x : Int) (g : Bool) (w : World) (ls : 1 ≤ (s.size : Int)) (lm : s.size ≤ 1000) (ld : (d.size : Int) + 1 = (s.size : Int)) (IX : (∀ W, Sem.run Tryz.prog (Instr.index 9 (.string s) (.int .i64 0)) W = .ok (.int .u8 c) W)) (hc : (c == 45) = true) (sl : (∀ W, Sem.run Tryz.prog (Instr.slice 9 (.string s) (some (.int .i64 1)) none none) W = .ok (.string d) W)) (CD : Hid (∀ W, Calls Tryz.prog 58 #[.string d] W fun e w' => e = .returned (.bool g) ∧ W = w')) (ID : (∀ W, Sem.run Tryz.prog (Instr.index 9 (.string d) (.int .i64 0)) W = .ok (.int .u8 x) W)) (hg : g = true) (h1 : 19 < (d.size : Int)) (hx : (x == 48) = false) (hs : (s.toList == [45, 48]) = false) :
  Calls Tryz.prog 28 #[.string s] w fun e w' => e = .returned (.tuple #[.int .i64 0, .int .i64 1]) ∧ w = w' := by
 subst hg
 go_enter Tryz.func28, Tryz.ntmps28
 go_wp2_with fail
 refine (CD.out _).mono ?_; rintro e w1 ⟨rfl, rfl⟩
 go_wp2_with fail
 go_ret2
 exact ⟨rfl, rfl⟩
theorem rread_nno (s : ByteArray) (c : Int) (g : Bool) (w : World) (ls : 1 ≤ (s.size : Int)) (lm : s.size ≤ 1000) (IX : (∀ W, Sem.run Tryz.prog (Instr.index 9 (.string s) (.int .i64 0)) W = .ok (.int .u8 c) W)) (hc : (c == 45) = false) (CD : Hid (∀ W, Calls Tryz.prog 58 #[.string s] W fun e w' => e = .returned (.bool g) ∧ W = w')) (hg : g = false) :
  Calls Tryz.prog 28 #[.string s] w fun e w' => e = .returned (.tuple #[.int .i64 0, .int .i64 2]) ∧ w = w' := by
 subst hg
 go_enter Tryz.func28, Tryz.ntmps28
 go_wp2_with fail
 refine (CD.out _).mono ?_; rintro e w1 ⟨rfl, rfl⟩
 go_wp2_with fail
 go_ret2
 exact ⟨rfl, rfl⟩
theorem rread_nzero (s : ByteArray) (c : Int) (g : Bool) (w : World) (ls : 1 ≤ (s.size : Int)) (lm : s.size ≤ 1000) (IX : (∀ W, Sem.run Tryz.prog (Instr.index 9 (.string s) (.int .i64 0)) W = .ok (.int .u8 c) W)) (hc : (c == 45) = false) (CD : Hid (∀ W, Calls Tryz.prog 58 #[.string s] W fun e w' => e = .returned (.bool g) ∧ W = w'))  (hg : g = true) (h1 : 1 < (s.size : Int)) (hx : (c == 48) = true) :
  Calls Tryz.prog 28 #[.string s] w fun e w' => e = .returned (.tuple #[.int .i64 0, .int .i64 2]) ∧ w = w' := by
 subst hg
 go_enter Tryz.func28, Tryz.ntmps28
 go_wp2_with fail
 refine (CD.out _).mono ?_; rintro e w1 ⟨rfl, rfl⟩
 go_wp2_with fail
 go_ret2
 exact ⟨rfl, rfl⟩
theorem rread_nfar (s : ByteArray) (c : Int) (g : Bool) (w : World) (ls : 1 ≤ (s.size : Int)) (lm : s.size ≤ 1000) (IX : (∀ W, Sem.run Tryz.prog (Instr.index 9 (.string s) (.int .i64 0)) W = .ok (.int .u8 c) W)) (hc : (c == 45) = false) (CD : Hid (∀ W, Calls Tryz.prog 58 #[.string s] W fun e w' => e = .returned (.bool g) ∧ W = w'))  (hg : g = true) (h1 : 19 < (s.size : Int)) (hx : (c == 48) = false) (hs : (s.toList == [45, 48]) = false) :
  Calls Tryz.prog 28 #[.string s] w fun e w' => e = .returned (.tuple #[.int .i64 0, .int .i64 1]) ∧ w = w' := by
 subst hg
 go_enter Tryz.func28, Tryz.ntmps28
 go_wp2_with fail
 refine (CD.out _).mono ?_; rintro e w1 ⟨rfl, rfl⟩
 go_wp2_with fail
 go_ret2
 exact ⟨rfl, rfl⟩
end Go.Proofs.YtbcbggdbojonmaaGreatDoor
