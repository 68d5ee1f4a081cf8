/- Join of fields. -/
import Derived.Test.YtnkmpchonlajpaaDoorFdB
import Derived.Test.YtnkmpchonlajpaaDoorFdE0
import Derived.Test.YtnkmpchonlajpaaDoorBldR
set_option linter.unusedVariables false
set_option linter.unusedSimpArgs false
namespace Go.Proofs.YtnkmpchonlajpaaDoor
open Go.RowKit Go.Sort

set_option maxHeartbeats 4000000 in
set_option maxRecDepth 100000 in
theorem fjoin_any (v : Value) (l : List ByteArray) (w : World) (S : StS w v l) (hl : l.length ≤ 100000000) (hz : Fd.tot l ≤ 50000000) :
    Calls Tryd.prog 16 #[v] w fun e w' => e = .returned (.tuple #[.string ⟨(Fd.jn (Fd.bl l)).1.toArray⟩, .int .i64 (Fd.jn (Fd.bl l)).2]) ∧ Below w.heap.size w w' := by
  have T := S
  obtain ⟨A, c, rfl, -⟩ := T
  obtain ⟨N, hN⟩ : ∃ N, N = l.length := ⟨_, rfl⟩
  have HN := Lib.hid hN
  have HS : Hid (StS w (.slice A N c) l) := by rw [hN]; exact S
  have hNl : (Fd.bl l).length = N := by unfold Fd.bl; rw [List.length_map, hN]
  rw [← hN]
  have hNb : N ≤ 100000000 := by omega
  have hz0 : Fd.tot (l.drop 0) ≤ 50000000 := hz
  clear S hl hz
  unfold Fd.jn
  rw [hNl]
  clear hN hNl
  by_cases h16 : 16 < N
  · rw [if_pos h16]
    clear HS
    go_enter Tryd.func16, Tryd.ntmps16
    go_wp2_with fail
    go_ret2
    exact ⟨rfl, Below.refl _ _⟩
  · rw [if_neg h16]
    obtain ⟨tot, htot⟩ : ∃ tot, tot = Fd.jr [] 0 (Fd.bl l) := ⟨_, rfl⟩
    rw [← htot]
    have HT := Lib.hid htot
    have HZ := Lib.hid hz0
    clear htot hz0
    obtain ⟨ans, hans⟩ : ∃ ans : Value, ans = .tuple #[.string ⟨tot.1.toArray⟩, .int .i64 tot.2] := ⟨_, rfl⟩
    rw [← hans]
    have HA := Lib.hid hans
    clear hans
    have N1 := Lib.hid (show Below w.heap.size w (w.alloc (.cells #[.pointer none, .slice none 0 0] 45)) from (Below.refl _ _).alloc (Nat.le_refl _) _)
    have I1 := Lib.hid (IsB.fresh w)
    go_enter Tryd.func16, Tryd.ntmps16
    go_wp2_with fail
    go_loopw [14] (fun i wr => ∃ (k : Nat) (a : List UInt8), k ≤ N ∧ i = .int .i64 k ∧ Hid (IsB w.heap.size a wr) ∧ Hid (Fd.jr a k ((Fd.bl l).drop k) = tot) ∧ Hid (a.length + Fd.tot (l.drop k) ≤ 50000000 + 4 * k) ∧ Hid (Below w.heap.size w wr)) (fun i _ => N - (intOf i).toNat)
    case atStart => exact ⟨0, [], Nat.zero_le _, rfl, I1, HT.out.symm, by have := HZ.out; show ([] : List UInt8).length + _ ≤ _; rw [List.length_nil]; omega, N1⟩
    case round =>
      obtain ⟨k, a, hk, rfl, hI, hinv, hsz, hB⟩ := hrel
      by_cases hlt : k < N
      · have hkl : k < l.length := by have := HN.out; omega
        obtain ⟨p, rfl, g⟩ := (HS.out.on hB.out).get k hkl
        have hd := hinv.out
        rw [Fd.bl_drop l k hkl] at hd
        have hs2 := hsz.out
        rw [Fd.tot_drop l k hkl] at hs2
        generalize l[k] = x at g hd hs2
        have hle := Fd.tx_len x.data.toList
        rw [fd_len] at hle
        have C := Lib.hid (fun W => fdtext_any x W (by omega))
        rcases Fd.tx_why x.data.toList with h0 | h0
        · rw [Fd.jr_next _ _ _ _ h0] at hd
          rw [h0] at C
          generalize (Fd.tx x.data.toList).1 = t at C hd hle
          have HH : Hid (Fd.jr (a ++ ((if k = 0 then [] else [32]) ++ t)) (k + 1) ((Fd.bl l).drop (k + 1)) = tot) := hd
          have zt := Fd.arr_len t
          have HD : Hid ((⟨t.toArray⟩ : ByteArray).data.toList = t) := by show t.toArray.toList = t; simp
          clear hd hinv h0
          generalize (⟨t.toArray⟩ : ByteArray) = TB at C zt HD
          rcases Nat.eq_zero_or_pos k with hk0 | hp
          · have gk : ¬ 0 < (k : Int) := by omega
            have e1 : a ++ ((if k = 0 then [] else [32]) ++ t) = a ++ t := by rw [if_pos hk0]; rfl
            rw [e1] at HH
            have hs3 := Lib.hid (show (a ++ t).length + Fd.tot (l.drop (k + 1)) ≤ 50000000 + 4 * (k + 1) by rw [List.length_append]; omega)
            clear hk0 e1
            go_wp2_with fail
            refine (C.out _).mono ?_; rintro e w1 ⟨rfl, b1⟩
            have I2 := Lib.hid (hI.out.on b1); have B2 := Lib.hid (below_step hB.out b1)
            clear b1 hI hB
            go_wp2_with fail
            refine (bw_str w.heap.size _ TB _ I2.out (by omega) (by omega)).mono ?_; rintro e w2 ⟨rfl, i2, b2⟩
            have I3 := Lib.hid i2; have B3 := Lib.hid (B2.out.trans b2)
            clear i2 b2 I2 B2
            go_wp2_with fail
            go_roundw
            case rel => exact ⟨k + 1, a ++ t, by omega, by go_num, by have := I3.out; rw [HD.out] at this; exact this, HH, hs3, B3⟩
            case measure => simp [intOf]; omega
          · have gk : 0 < (k : Int) := by omega
            have e1 : a ++ ((if k = 0 then [] else [32]) ++ t) = (a ++ [32]) ++ t := by rw [if_neg (by omega), List.append_assoc]
            rw [e1] at HH
            have hs3 := Lib.hid (show ((a ++ [32]) ++ t).length + Fd.tot (l.drop (k + 1)) ≤ 50000000 + 4 * (k + 1) by rw [List.length_append, List.length_append, List.length_singleton]; omega)
            have zz : (a ++ [32]).length = a.length + 1 := by rw [List.length_append]; rfl
            clear hp e1
            go_wp2_with fail
            refine (C.out _).mono ?_; rintro e w1 ⟨rfl, b1⟩
            have I2 := Lib.hid (hI.out.on b1); have B2 := Lib.hid (below_step hB.out b1)
            clear b1 hI hB
            go_wp2_with fail
            refine (bw_rune32 w.heap.size _ _ I2.out (by omega)).mono ?_; rintro e w2 ⟨rfl, i2, b2⟩
            have I3 := Lib.hid i2; have B3 := Lib.hid (B2.out.trans b2)
            clear i2 b2 I2 B2
            go_wp2_with fail
            refine (bw_str w.heap.size _ TB _ I3.out (by omega) (by omega)).mono ?_; rintro e w3 ⟨rfl, i3, b3⟩
            have I4 := Lib.hid i3; have B4 := Lib.hid (B3.out.trans b3)
            clear i3 b3 I3 B3
            go_wp2_with fail
            go_roundw
            case rel => exact ⟨k + 1, (a ++ [32]) ++ t, by omega, by go_num, by have := I4.out; rw [HD.out] at this; exact this, HH, hs3, B4⟩
            case measure => simp [intOf]; omega
        · rw [Fd.jr_stop _ _ _ _ (by omega)] at hd
          rw [h0] at C hd
          generalize (Fd.tx x.data.toList).1 = t at C
          have HH := Lib.hid hd
          clear hd hinv h0 hsz hs2 hle
          go_wp2_with fail
          refine (C.out _).mono ?_; rintro e w1 ⟨rfl, b1⟩
          have B2 := Lib.hid (below_step hB.out b1)
          clear b1
          go_wp2_with fail
          go_ret2
          exact ⟨by rw [HA.out, ← HH.out]; rfl, B2.out⟩
      · have hjk := Lib.hid (show (a, (0 : Int)) = tot by
          rw [← hinv.out, List.drop_of_length_le (by unfold Fd.bl; rw [List.length_map]; have := HN.out; omega)]; rfl)
        go_wp2_with fail
        refine (b_string w.heap.size _ _ hI.out).mono ?_; rintro e w2 ⟨rfl, -, b2⟩
        have B2 := Lib.hid (hB.out.trans b2)
        clear b2
        go_wp2_with fail
        go_ret2
        exact ⟨by rw [HA.out, ← hjk.out]; rfl, B2.out⟩
end Go.Proofs.YtnkmpchonlajpaaDoor

