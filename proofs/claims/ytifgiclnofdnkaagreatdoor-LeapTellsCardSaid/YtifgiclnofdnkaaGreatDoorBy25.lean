/- Joined: BldR, FdF, LnF. -/
import Derived.Test.YtifgiclnofdnkaaGreatDoorBy14
import Derived.Test.YtifgiclnofdnkaaGreatDoorBy24
import Derived.Test.YtifgiclnofdnkaaGreatDoorBy07
import Derived.Test.YtifgiclnofdnkaaGreatDoorBy22
set_option linter.unusedVariables false
set_option linter.unusedSimpArgs false
namespace Go.Proofs.YtifgiclnofdnkaaGreatDoor
open Go.RowKit
set_option maxHeartbeats 2000000 in
set_option maxRecDepth 100000 in
theorem append_32 (b : Nat) (v : Value) (n : Nat) (xs : List Value) (w : World) (hown : w.ownsRowF b 5 1 v n xs) (hn : n ≤ 2000000000) (hb : b ≤ w.heap.size) :
  Calls Tryz.prog 79 #[v, .int .i32 32] w fun e w' => ∃ v', e = .returned v' ∧ w'.ownsRowF b 5 1 v' (n + 1) (xs ++ [.int .u8 32]) ∧ Below b w w' ∧ ∀ i, i < w.heap.size → v.ownBlock ≠ some i → w'.heap[i]? = w.heap[i]? := by
 obtain ⟨i0, hi, hz0, hz1, hz2⟩ := info_parts infoByte
 go_enter Tryz.func79, Tryz.ntmps79
 go_wp2_with (at_builtin; refine wpList_append_ownF _ rfl _ _ 74 rfl b 5 i0 (.int .u8 0) 1 1 Tryz.underlying74 hi hz0 hz1 hz2 rfl (by decide) _ _ _ rfl (hown.alloc _) ⟨w.heap.size, 0, none⟩ 1 1 [.int .u8 32] rfl rfl ?c1 ?c2 ?c3 ?c4 ?c5 ?_)
 case c1 =>
  intro j u hj
  match j, hj with
  | 0, hj => simp at hj; subst hj; simp [Addr.add]
 case c2 => intro u hu; simp at hu; subst hu; rfl
 case c3 => unfold maxLen; omega
 case c4 => omega
 case c5 => simp; omega
 intro v' w2 hown' hgrow _
 go_wp2
 go_ret
 refine ⟨v', rfl, hown', ?_, ?_⟩
 ·
  exact (((Below.refl b w).alloc hb _).grown hgrow (by simp; omega) (fun k hk => (hown.lt k hk).1))
 ·
  intro i hi hne
  rw [hgrow.block i (by simp; omega) (fun e => hne e.symm), Lib.alloc_old w _ i hi]
set_option maxHeartbeats 2000000 in
set_option maxRecDepth 100000 in
theorem bw_rune32 (b : Nat) (l : List UInt8) (w : World) (h : IsB b l w) (hl : l.length ≤ 1000000000) :
  Calls Tryz.prog 45 #[.pointer (some ⟨b, 0, none⟩), .int .i32 32] w fun e w' => e = .returned (.tuple #[.int .i64 1, .nilIface]) ∧ (IsB b (l ++ [32]) w' ∧ Below b w w') := by
 have hlw := h.lt
 have hlen : (Lib.byteCells l).length = l.length := Lib.byteCells_length l
 have HC := Lib.hid (check_any b l w h)
 clear h
 go_enter Tryz.func45, Tryz.ntmps45
 go_wp2_with fail
 refine HC.out.mono ?_
 rintro e w1 ⟨rfl, h1, hb1⟩
 clear HC
 obtain ⟨hB, v, hbk, hown, hne⟩ := h1
 have hlt : b < w1.heap.size := Nat.lt_of_lt_of_le hlw hb1.size
 have c0 : w1.cell? ⟨b, 0, none⟩ = some (.pointer (some ⟨b, 0, none⟩)) := by rw [Lib.cell_of_heap hbk]; rfl
 have c1 : w1.cell? ⟨b, 1, none⟩ = some v := by rw [Lib.cell_of_heap hbk]; rfl
 rw [hlen] at hown
 have HA := Lib.hid (append_32 b v l.length (Lib.byteCells l) w1 hown (by omega) (by omega))
 have HO := Lib.hid hown
 obtain ⟨A, c, rfl⟩ : ∃ A c, v = .slice A l.length c := by
  rcases hown.2 with ⟨hv, h0⟩ | ⟨g, cap, cur, fz, hv, _⟩
  ·
   have : l.length = 0 := by omega
   exact ⟨_, _, by rw [this]; exact hv⟩
  ·
   exact ⟨_, _, hv⟩
 clear hown
 go_wp2_with fail
 refine HA.out.mono ?_
 rintro e w2 ⟨v', rfl, own', b2, hold⟩
 have hb2 : w2.heap[b]? = some (.cells #[.pointer (some ⟨b, 0, none⟩), .slice A l.length c] 76 (0, 0)) := by rw [hold b hlt (fun e => hne e)]; exact hbk
 have d0 : w2.cell? ⟨b, 0, none⟩ = some (.pointer (some ⟨b, 0, none⟩)) := by rw [Lib.cell_of_heap hb2]; rfl
 have d1 : w2.cell? ⟨b, 1, none⟩ = some (.slice A l.length c) := by rw [Lib.cell_of_heap hb2]; rfl
 have f1 : w2.frozen? ⟨b, 1, none⟩ = false := Lib.frozen_of_heap hb2 1
 obtain ⟨g, cap, rfl⟩ : ∃ g cap, v' = .slice (some ⟨g, 0, none⟩) (l.length + 1) cap := by
  rcases own'.2 with ⟨_, h0⟩ | ⟨g, cap, cur, fz, hv, _⟩
  ·
   omega
  ·
   exact ⟨g, cap, hv⟩
 have OW := Lib.hid own'
 clear own' hold
 go_wp2
 go_ret2
 refine ⟨?_, ?_, ?_⟩
 ·
  have e1 : ((l.length : Int) + 1 - (l.length : Int)) = 1 := by omega
  first | rfl | (simp only [e1]; rfl) | (simp [e1]; done) | trace_state
 ·
  right
  rw [Lib.byteCells_append, show Lib.byteCells [32] = [.int .u8 32] by rfl]
  exact Lib.BuilderAtF.put hB hb2 (by simpa [hlen] using OW.out) (by decide)
 ·
  exact (hb1.trans b2).setCell (p := ⟨b, 1, none⟩) hB _
end Go.Proofs.YtifgiclnofdnkaaGreatDoor
set_option linter.unusedVariables false
set_option linter.unusedSimpArgs false
namespace Go.Proofs.YtifgiclnofdnkaaGreatDoor
open Go.RowKit Go.Sort
set_option maxHeartbeats 4000000 in
set_option maxRecDepth 100000 in
theorem fjoin_any (v : Value) (l : List ByteArray) (w : World) (S : StS w v l) (hl : l.length ≤ 100000000) (hz : Fd.tot l ≤ 50000000) :
  Calls Tryz.prog 24 #[v] w fun e w' => e = .returned (.tuple #[.string ⟨(Fd.jn (Fd.bl l)).1.toArray⟩, .int .i64 (Fd.jn (Fd.bl l)).2]) ∧ Below w.heap.size w w' := by
 have T := S
 obtain ⟨A, c, rfl, -⟩ := T
 obtain ⟨N, hN⟩ : ∃ N, N = l.length := ⟨_, rfl⟩
 have HN := Lib.hid hN
 have HS : Hid (StS w (.slice A N c) l) := by rw [hN]; exact S
 have hNl : (Fd.bl l).length = N := by unfold Fd.bl; rw [List.length_map, hN]
 rw [← hN]
 have hNb : N ≤ 100000000 := by omega
 have hz0 : Fd.tot (l.drop 0) ≤ 50000000 := hz
 clear S hl hz
 unfold Fd.jn
 rw [hNl]
 clear hN hNl
 by_cases h16 : 16 < N
 ·
  rw [if_pos h16]
  clear HS
  go_enter Tryz.func24, Tryz.ntmps24
  go_wp2_with fail
  go_ret2
  exact ⟨rfl, Below.refl _ _⟩
 ·
  rw [if_neg h16]
  obtain ⟨tot, htot⟩ : ∃ tot, tot = Fd.jr [] 0 (Fd.bl l) := ⟨_, rfl⟩
  rw [← htot]
  have HT := Lib.hid htot
  have HZ := Lib.hid hz0
  clear htot hz0
  obtain ⟨ans, hans⟩ : ∃ ans : Value, ans = .tuple #[.string ⟨tot.1.toArray⟩, .int .i64 tot.2] := ⟨_, rfl⟩
  rw [← hans]
  have HA := Lib.hid hans
  clear hans
  have N1 := Lib.hid (show Below w.heap.size w (w.alloc (.cells #[.pointer none, .slice none 0 0] 76)) from (Below.refl _ _).alloc (Nat.le_refl _) _)
  have I1 := Lib.hid (IsB.fresh w)
  go_enter Tryz.func24, Tryz.ntmps24
  go_wp2_with fail
  go_loopw [14] (fun i wr => ∃ (k : Nat) (a : List UInt8), k ≤ N ∧ i = .int .i64 k ∧ Hid (IsB w.heap.size a wr) ∧ Hid (Fd.jr a k ((Fd.bl l).drop k) = tot) ∧ Hid (a.length + Fd.tot (l.drop k) ≤ 50000000 + 4 * k) ∧ Hid (Below w.heap.size w wr)) (fun i _ => N - (intOf i).toNat)
  case atStart => exact ⟨0, [], Nat.zero_le _, rfl, I1, HT.out.symm, by have := HZ.out; show ([] : List UInt8).length + _ ≤ _; rw [List.length_nil]; omega, N1⟩
  case round =>
   obtain ⟨k, a, hk, rfl, hI, hinv, hsz, hB⟩ := hrel
   by_cases hlt : k < N
   ·
    have hkl : k < l.length := by have := HN.out; omega
    obtain ⟨p, rfl, g⟩ := (HS.out.on hB.out).get k hkl
    have hd := hinv.out
    rw [Fd.bl_drop l k hkl] at hd
    have hs2 := hsz.out
    rw [Fd.tot_drop l k hkl] at hs2
    generalize l[k] = x at g hd hs2
    have hle := Fd.tx_len x.data.toList
    rw [fd_len] at hle
    have C := Lib.hid (fun W => fdtext_any x W (by omega))
    rcases Fd.tx_why x.data.toList with h0 | h0
    ·
     rw [Fd.jr_next _ _ _ _ h0] at hd
     rw [h0] at C
     generalize (Fd.tx x.data.toList).1 = t at C hd hle
     have HH : Hid (Fd.jr (a ++ ((if k = 0 then [] else [32]) ++ t)) (k + 1) ((Fd.bl l).drop (k + 1)) = tot) := hd
     have zt := Fd.arr_len t
     have HD : Hid ((⟨t.toArray⟩ : ByteArray).data.toList = t) := by show t.toArray.toList = t; simp
     clear hd hinv h0
     generalize (⟨t.toArray⟩ : ByteArray) = TB at C zt HD
     rcases Nat.eq_zero_or_pos k with hk0 | hp
     ·
      have gk : ¬ 0 < (k : Int) := by omega
      have e1 : a ++ ((if k = 0 then [] else [32]) ++ t) = a ++ t := by rw [if_pos hk0]; rfl
      rw [e1] at HH
      have hs3 := Lib.hid (show (a ++ t).length + Fd.tot (l.drop (k + 1)) ≤ 50000000 + 4 * (k + 1) by rw [List.length_append]; omega)
      clear hk0 e1
      go_wp2_with fail
      refine (C.out _).mono ?_; rintro e w1 ⟨rfl, b1⟩
      have I2 := Lib.hid (hI.out.on b1); have B2 := Lib.hid (below_step hB.out b1)
      clear b1 hI hB
      go_wp2_with fail
      refine (bw_str w.heap.size _ TB _ I2.out (by omega) (by omega)).mono ?_; rintro e w2 ⟨rfl, i2, b2⟩
      have I3 := Lib.hid i2; have B3 := Lib.hid (B2.out.trans b2)
      clear i2 b2 I2 B2
      go_wp2_with fail
      go_roundw
      case rel => exact ⟨k + 1, a ++ t, by omega, by go_num, by have := I3.out; rw [HD.out] at this; exact this, HH, hs3, B3⟩
      case measure => simp [intOf]; omega
     ·
      have gk : 0 < (k : Int) := by omega
      have e1 : a ++ ((if k = 0 then [] else [32]) ++ t) = (a ++ [32]) ++ t := by rw [if_neg (by omega), List.append_assoc]
      rw [e1] at HH
      have hs3 := Lib.hid (show ((a ++ [32]) ++ t).length + Fd.tot (l.drop (k + 1)) ≤ 50000000 + 4 * (k + 1) by rw [List.length_append, List.length_append, List.length_singleton]; omega)
      have zz : (a ++ [32]).length = a.length + 1 := by rw [List.length_append]; rfl
      clear hp e1
      go_wp2_with fail
      refine (C.out _).mono ?_; rintro e w1 ⟨rfl, b1⟩
      have I2 := Lib.hid (hI.out.on b1); have B2 := Lib.hid (below_step hB.out b1)
      clear b1 hI hB
      go_wp2_with fail
      refine (bw_rune32 w.heap.size _ _ I2.out (by omega)).mono ?_; rintro e w2 ⟨rfl, i2, b2⟩
      have I3 := Lib.hid i2; have B3 := Lib.hid (B2.out.trans b2)
      clear i2 b2 I2 B2
      go_wp2_with fail
      refine (bw_str w.heap.size _ TB _ I3.out (by omega) (by omega)).mono ?_; rintro e w3 ⟨rfl, i3, b3⟩
      have I4 := Lib.hid i3; have B4 := Lib.hid (B3.out.trans b3)
      clear i3 b3 I3 B3
      go_wp2_with fail
      go_roundw
      case rel => exact ⟨k + 1, (a ++ [32]) ++ t, by omega, by go_num, by have := I4.out; rw [HD.out] at this; exact this, HH, hs3, B4⟩
      case measure => simp [intOf]; omega
    ·
     rw [Fd.jr_stop _ _ _ _ (by omega)] at hd
     rw [h0] at C hd
     generalize (Fd.tx x.data.toList).1 = t at C
     have HH := Lib.hid hd
     clear hd hinv h0 hsz hs2 hle
     go_wp2_with fail
     refine (C.out _).mono ?_; rintro e w1 ⟨rfl, b1⟩
     have B2 := Lib.hid (below_step hB.out b1)
     clear b1
     go_wp2_with fail
     go_ret2
     exact ⟨by rw [HA.out, ← HH.out]; rfl, B2.out⟩
   ·
    have hjk := Lib.hid (show (a, (0 : Int)) = tot by
     rw [← hinv.out, List.drop_of_length_le (by unfold Fd.bl; rw [List.length_map]; have := HN.out; omega)]; rfl)
    go_wp2_with fail
    refine (b_string w.heap.size _ _ hI.out).mono ?_; rintro e w2 ⟨rfl, -, b2⟩
    have B2 := Lib.hid (hB.out.trans b2)
    clear b2
    go_wp2_with fail
    go_ret2
    exact ⟨by rw [HA.out, ← hjk.out]; rfl, B2.out⟩
namespace Ln
def jn (l : List ByteArray) : List UInt8 := l.flatMap fun x => x.data.toList ++ [10]
theorem jn_next (l : List ByteArray) (k : Nat) (h : k < l.length) : jn (l.take (k + 1)) = jn (l.take k) ++ (l[k].data.toList ++ [10]) := by
 unfold jn
 rw [List.take_succ_eq_append_getElem h, List.flatMap_append]
 simp
theorem jn_le (l : List ByteArray) (k : Nat) : (jn (l.take k)).length ≤ (jn l).length := by
 have e : jn l = jn (l.take k) ++ jn (l.drop k) := by
  unfold jn
  rw [← List.flatMap_append, List.take_append_drop]
 rw [e, List.length_append]; omega
end Ln
set_option maxHeartbeats 4000000 in
theorem ljoin_any (v : Value) (l : List ByteArray) (w : World) (S : StS w v l) (hl : l.length ≤ 1000000) (hj : (Ln.jn l).length ≤ 900000) :
  Calls Tryz.prog 27 #[v] w fun e w' => e = .returned (.string ⟨(Ln.jn l).toArray⟩) ∧ Below w.heap.size w w' := by
 have T := S
 obtain ⟨A, c, rfl, -⟩ := T
 obtain ⟨N, hN⟩ : ∃ N, N = l.length := ⟨_, rfl⟩
 have HN := Lib.hid hN
 have HS : Hid (StS w (.slice A N c) l) := by rw [hN]; exact S
 rw [← hN]
 have hNb : N ≤ 1000000 := by omega
 have HJ := Lib.hid hj
 clear hN hl S hj
 have N1 := Lib.hid (show Below w.heap.size w (w.alloc (.cells #[.pointer none, .slice none 0 0] 76)) from (Below.refl _ _).alloc (Nat.le_refl _) _)
 have I1 := Lib.hid (IsB.fresh w)
 go_enter Tryz.func27, Tryz.ntmps27
 go_wp2_with fail
 go_loopw [8] (fun i wr => ∃ k : Nat, k ≤ N ∧ i = .int .i64 k ∧ Hid (IsB w.heap.size (Ln.jn (l.take k)) wr) ∧ Hid (Below w.heap.size w wr)) (fun i _ => N - (intOf i).toNat)
 case atStart => exact ⟨0, Nat.zero_le _, rfl, by simpa [Ln.jn] using I1, N1⟩
 case round =>
  obtain ⟨k, hk, rfl, hI, hB⟩ := hrel
  by_cases hlt : k < N
  ·
   have hkl : k < l.length := by have := HN.out; omega
   obtain ⟨a, rfl, g⟩ := (HS.out.on hB.out).get k hkl
   have hnx := Lib.hid (Ln.jn_next l k hkl)
   have hle := Lib.hid (show (Ln.jn (l.take k)).length + l[k].size + 1 ≤ 900000 by
    have h1 := Ln.jn_le l (k + 1)
    have h2 := HJ.out
    rw [hnx.out] at h1
    simp only [List.length_append, List.length_cons, List.length_nil] at h1
    have : l[k].data.toList.length = l[k].size := Array.length_toList
    omega)
   generalize l[k] = x at g hnx hle
   go_wp2_with fail
   refine (bw_str w.heap.size _ x _ hI.out (by have := hle.out; omega) (by have := hle.out; omega)).mono ?_; rintro e w2 ⟨rfl, i2, b2⟩
   have I2 := Lib.hid i2; have B2 := Lib.hid (hB.out.trans b2)
   clear i2 b2
   go_wp2_with fail
   refine (bw_str w.heap.size _ ⟨#[10]⟩ _ I2.out (by have := hle.out; have : x.data.toList.length = x.size := Array.length_toList; rw [List.length_append]; omega) (by decide)).mono ?_; rintro e w3 ⟨rfl, i3, b3⟩
   have I3 := Lib.hid i3; have B3 := Lib.hid (B2.out.trans b3)
   clear i3 b3 I2 B2
   go_wp2_with fail
   go_roundw
   case rel => exact ⟨k + 1, by omega, by go_num, by have := I3.out; rw [List.append_assoc] at this; rw [hnx.out]; exact this, B3⟩
   case measure => simp [intOf]; omega
  ·
   have hjk := Lib.hid (show Ln.jn (l.take k) = Ln.jn l by rw [List.take_of_length_le (by have := HN.out; omega)])
   go_wp2_with fail
   refine (b_string w.heap.size _ _ hI.out).mono ?_; rintro e w2 ⟨rfl, -, b2⟩
   go_wp2_with fail
   go_ret
   exact ⟨by rw [hjk.out]; rfl, hB.out.trans b2⟩
end Go.Proofs.YtifgiclnofdnkaaGreatDoor
