/- Joined: AnH. -/
import Derived.Test.YtlelpeocbgjmhaaGreatDoorCa11
/- Answers: names' text, of the program. -/
set_option linter.unusedVariables false
set_option linter.unusedSimpArgs false
namespace Go.Proofs.YtlelpeocbgjmhaaGreatDoor
open Go.RowKit Go.Sort
namespace An
/-- Names, behind what is written already. -/
def nr (acc : List UInt8) : List (List UInt8) → List UInt8 × Int
  | [] => (acc, 0)
  | x :: r => if (Fd.tx x).2 = 0 then nr (acc ++ (32 :: (Fd.tx x).1)) r else ([], (Fd.tx x).2)
def nms (l : List (List UInt8)) : List UInt8 × Int := nr [110, 97, 109, 101, 115] l
theorem nr_next (acc : List UInt8) (x : List UInt8) (r : List (List UInt8)) (h : (Fd.tx x).2 = 0) : nr acc (x :: r) = nr (acc ++ (32 :: (Fd.tx x).1)) r := by
  conv => lhs; unfold nr
  rw [if_pos h]
theorem nr_stop (acc : List UInt8) (x : List UInt8) (r : List (List UInt8)) (h : (Fd.tx x).2 ≠ 0) : nr acc (x :: r) = ([], (Fd.tx x).2) := by
  conv => lhs; unfold nr
  rw [if_neg h]
theorem nr_no : ∀ (l : List (List UInt8)) (acc : List UInt8), (nr acc l).2 ≠ 0 → (nr acc l).1 = []
  | [], acc, h => absurd rfl h
  | x :: r, acc, h => by
    by_cases h0 : (Fd.tx x).2 = 0
    · rw [nr_next _ _ _ h0] at h ⊢; exact nr_no r _ h
    · rw [nr_stop _ _ _ h0]
end An
set_option maxHeartbeats 4000000 in
set_option maxRecDepth 100000 in
theorem anames1_any (p : Nat) (v : Value) (l : List ByteArray) (w : World) (hc : w.cell? ⟨p, 0, none⟩ = some v) (S : StS w v l) (hl : l.length ≤ 1000) (hz : Fd.tot l ≤ 50000000) :
    Calls Tryz.prog 35 #[.pointer (some ⟨p, 0, none⟩)] w (AnsS ⟨(An.nms (Fd.bl l)).1.toArray⟩ (An.nms (Fd.bl l)).2 w) := by
  have hpb : p < w.heap.size := World.block_lt_of_cell? _ _ hc
  have T := S
  obtain ⟨A, c, rfl, -⟩ := T
  obtain ⟨N, hN⟩ : ∃ N, N = l.length := ⟨_, rfl⟩
  have HN := Lib.hid hN
  have HS : Hid (StS w (.slice A N c) l) := by rw [hN]; exact S
  rw [← hN] at hc
  have hNb : N ≤ 1000 := by omega
  have hz0 : Fd.tot (l.drop 0) ≤ 50000000 := hz
  clear S hl hz hN
  obtain ⟨tot, htot⟩ : ∃ tot, tot = An.nms (Fd.bl l) := ⟨_, rfl⟩
  rw [← htot]
  have HT := Lib.hid htot
  have HZ := Lib.hid hz0
  clear htot hz0
  have N1 := Lib.hid (show Below w.heap.size w (w.alloc (.cells #[.pointer none, .slice none 0 0] 64)) from (Below.refl _ _).alloc (Nat.le_refl _) _)
  have I1 := Lib.hid (IsB.fresh w)
  have HC := Lib.hid hc
  go_enter Tryz.func35, Tryz.ntmps35
  go_wp2_with fail
  refine (bw_str w.heap.size _ ⟨#[110, 97, 109, 101, 115]⟩ _ I1.out (by simp) (by decide)).mono ?_; rintro e w1 ⟨rfl, i1, b1⟩
  have I2 : Hid (IsB w.heap.size [110, 97, 109, 101, 115] w1) := Lib.hid i1
  have B2 := Lib.hid (N1.out.trans b1)
  have hc2 : w1.cell? ⟨p, 0, none⟩ = some (.slice A N c) := (B2.out.cell hpb).trans HC.out
  clear i1 b1 I1 N1 hc HC
  go_wp2_with fail
  clear hc2
  go_loopw [8] (fun i wr => ∃ (k : Nat) (a : List UInt8), k ≤ N ∧ i = .int .i64 k ∧ Hid (IsB w.heap.size a wr) ∧ Hid (An.nr a ((Fd.bl l).drop k) = tot) ∧ Hid (a.length + Fd.tot (l.drop k) ≤ 50000010 + 4 * k) ∧ Hid (Below w.heap.size w wr)) (fun i _ => N - (intOf i).toNat)
  case atStart => exact ⟨0, [110, 97, 109, 101, 115], Nat.zero_le _, rfl, I2, Lib.hid HT.out.symm, by have := HZ.out; show ([110, 97, 109, 101, 115] : List UInt8).length + _ ≤ _; rw [show ([110, 97, 109, 101, 115] : List UInt8).length = 5 from rfl]; omega, B2⟩
  case round =>
    obtain ⟨k, a, hk, rfl, hI, hinv, hsz, hB⟩ := hrel
    by_cases hlt : k < N
    · have hkl : k < l.length := by have := HN.out; omega
      obtain ⟨q, rfl, g⟩ := (HS.out.on hB.out).get k hkl
      have hd := hinv.out
      rw [Fd.bl_drop l k hkl] at hd
      have hs2 := hsz.out
      rw [Fd.tot_drop l k hkl] at hs2
      generalize l[k] = x at g hd hs2
      have hle := Fd.tx_len x.data.toList
      rw [fd_len] at hle
      have C := Lib.hid (fun W => fdtext_any x W (by omega))
      rcases Fd.tx_why x.data.toList with h0 | h0
      · rw [An.nr_next _ _ _ h0] at hd
        rw [h0] at C
        generalize (Fd.tx x.data.toList).1 = t at C hd hle
        have HH : Hid (An.nr (a ++ (32 :: t)) ((Fd.bl l).drop (k + 1)) = tot) := hd
        have zt := Fd.arr_len t
        have HD : Hid ((⟨t.toArray⟩ : ByteArray).data.toList = t) := by show t.toArray.toList = t; simp
        clear hd hinv h0
        generalize (⟨t.toArray⟩ : ByteArray) = TB at C zt HD
        have hz : ¬ 9223372036854775807 < 1 + TB.size := by omega
        have hs3 := Lib.hid (show (a ++ (32 :: t)).length + Fd.tot (l.drop (k + 1)) ≤ 50000010 + 4 * (k + 1) by rw [List.length_append, List.length_cons]; omega)
        have zB : ((⟨#[32]⟩ : ByteArray) ++ TB).size ≤ 1000000000 := by rw [ByteArray.size_append]; show 1 + TB.size ≤ _; omega
        have HE : Hid (((⟨#[32]⟩ : ByteArray) ++ TB).data.toList = 32 :: t) := Lib.hid (by rw [show ((⟨#[32]⟩ : ByteArray) ++ TB).data.toList = [32] ++ TB.data.toList by simp, HD.out]; rfl)
        go_wp2_with fail
        refine (C.out _).mono ?_; rintro e w1 ⟨rfl, b1⟩
        have I3 := Lib.hid (hI.out.on b1); have B3 := Lib.hid (below_step hB.out b1)
        clear b1 hI hB
        go_wp2_with fail
        refine (musts_yes _ _).mono ?_; rintro e u1 ⟨rfl, rfl⟩
        go_wp2_with fail
        have za : a.length ≤ 1000000000 := by omega
        have CB := bw_str w.heap.size a ((⟨#[32]⟩ : ByteArray) ++ TB) w1 I3.out za zB
        refine CB.mono ?_; rintro e w3 ⟨rfl, i3, b3⟩
        clear CB
        have I4 := Lib.hid i3; have B4 := Lib.hid (B3.out.trans b3)
        clear i3 b3 I3 B3
        go_wp2_with fail
        go_roundw
        case rel => exact ⟨k + 1, a ++ (32 :: t), by omega, by go_num, by have := I4.out; rw [HE.out] at this; exact this, HH, hs3, B4⟩
        case measure => simp [intOf]; omega
      · have h8 : (Fd.tx x.data.toList).2 ≠ 0 := by omega
        rw [An.nr_stop _ _ _ h8] at hd
        rw [h0] at C hd
        generalize (Fd.tx x.data.toList).1 = t at C
        have HH := Lib.hid hd
        clear hd hinv h0 hsz hs2 hle h8
        go_wp2_with fail
        refine (C.out _).mono ?_; rintro e w1 ⟨rfl, b1⟩
        have B3 := Lib.hid (below_step hB.out b1)
        clear b1
        go_wp2_with fail
        refine (musts_no _ 8 _ (by decide)).mono ?_; rintro e u1 ⟨rfl, rfl⟩
        simp +zetaDelta only [Exit.then, Exit.inBlock, bodyPost]
        first | exact ⟨rfl, B3.out, .inr ⟨by rw [← HH.out]; decide, by rw [← HH.out]⟩⟩ | exact ⟨trivial, B3.out, .inr ⟨by rw [← HH.out]; decide, by rw [← HH.out]⟩⟩
    · have hjk := Lib.hid (show (a, (0 : Int)) = tot by
        rw [← hinv.out, List.drop_of_length_le (by unfold Fd.bl; rw [List.length_map]; have := HN.out; omega)]; rfl)
      go_wp2_with fail
      refine (b_string w.heap.size _ _ hI.out).mono ?_; rintro e w2 ⟨rfl, -, b2⟩
      have B3 := Lib.hid (hB.out.trans b2)
      clear b2
      go_wp2_with fail
      go_ret
      exact ⟨B3.out, .inl ⟨by rw [← hjk.out], by rw [← hjk.out]; rfl⟩⟩
set_option maxRecDepth 100000 in
theorem anm_callFn (qs : Array Value) (W : World) : Sem.run Tryz.prog (callFunc 35 qs) W = .ok (.enter 35 qs) W := rfl
set_option maxHeartbeats 4000000 in
set_option maxRecDepth 100000 in
theorem anames_any (v : Value) (l : List ByteArray) (w : World) (S : StS w v l) (hl : l.length ≤ 1000) (hz : Fd.tot l ≤ 50000000) :
    Calls Tryz.prog 12 #[v] w fun e w' => e = .returned (.tuple #[.string ⟨(An.nms (Fd.bl l)).1.toArray⟩, .int .i64 (An.nms (Fd.bl l)).2]) ∧ Below w.heap.size w w' := by
  have T := S
  obtain ⟨A, c, rfl, -⟩ := T
  have HS := Lib.hid S
  have C := Lib.hid (fun W (hc : W.cell? ⟨w.heap.size, 0, none⟩ = some (.slice A l.length c)) (S : StS W (.slice A l.length c) l) => anames1_any w.heap.size (.slice A l.length c) l W hc S hl hz)
  have hR := An.nr_no (Fd.bl l) [110, 97, 109, 101, 115]
  rw [show An.nr [110, 97, 109, 101, 115] (Fd.bl l) = An.nms (Fd.bl l) from rfl] at hR
  clear S hl hz
  generalize An.nms (Fd.bl l) = R at C hR ⊢
  obtain ⟨P, why⟩ := R
  dsimp only at hR ⊢
  by_cases h0 : why = 0
  · subst h0
    have TT := Lib.hid (fun W (hc : W.cell? ⟨w.heap.size, 0, none⟩ = some (.slice A l.length c)) (S : StS W (.slice A l.length c) l) => scaught_yes 35 #[.pointer (some ⟨w.heap.size, 0, none⟩)] (anm_callFn _) ⟨P.toArray⟩ W (Lib.hid fun W' hB => (C.out W' (fd_keep hc hB) (S.on hB)).mono (by
      rintro e w' ⟨h1, ⟨-, h2⟩ | ⟨h2, -⟩⟩
      · exact ⟨h2, h1⟩
      · exact absurd rfl h2)))
    clear C hR
    go_enter Tryz.func12, Tryz.ntmps12
    go_wp2_with fail
    refine (TT.out _ (by simp [go_sem]) (HS.out.on ((Below.refl _ _).alloc (Nat.le_refl _) _))).mono ?_; rintro e w1 ⟨rfl, b1⟩
    have B1 : Hid (Below w.heap.size w w1) := Lib.hid (below_step ((Below.refl _ _).alloc (Nat.le_refl _) _) b1)
    clear b1
    go_wp2_with fail
    go_ret2
    exact ⟨rfl, B1.out⟩
  · have hP : P = [] := hR h0
    subst hP
    have TT := Lib.hid (fun W (hc : W.cell? ⟨w.heap.size, 0, none⟩ = some (.slice A l.length c)) (S : StS W (.slice A l.length c) l) => scaught_no 35 #[.pointer (some ⟨w.heap.size, 0, none⟩)] (anm_callFn _) 0 why W (Lib.hid fun W' hB => (C.out W' (fd_keep hc hB) (S.on hB)).mono (by
      rintro e w' ⟨h1, ⟨h2, -⟩ | ⟨h2, h3⟩⟩
      · exact absurd h2 h0
      · exact ⟨h3, h1⟩)))
    clear C hR
    go_enter Tryz.func12, Tryz.ntmps12
    go_wp2_with fail
    refine (TT.out _ (by simp [go_sem]) (HS.out.on ((Below.refl _ _).alloc (Nat.le_refl _) _))).mono ?_; rintro e w1 ⟨rfl, b1⟩
    have B1 : Hid (Below w.heap.size w w1) := Lib.hid (below_step ((Below.refl _ _).alloc (Nat.le_refl _) _) b1)
    clear b1
    go_wp2_with fail
    go_ret2
    exact ⟨rfl, B1.out⟩
end Go.Proofs.YtlelpeocbgjmhaaGreatDoor
