/- The walk of FieldsTell, at any input. -/
import Derived.Test.YtndophkojnfcaaaFdN
set_option linter.unusedVariables false
set_option linter.unusedSimpArgs false
namespace Go.Proofs.Ytndophkojnfcaaa
open Go.RowKit Go.Sort

namespace Fd
theorem tot_le (m : Nat) : ∀ l : List ByteArray, (∀ y ∈ l, y.size ≤ m) → tot l ≤ m * l.length
  | [], _ => Nat.le_refl _
  | x :: l, h => by
    have h1 := h x (List.mem_cons_self ..)
    have h2 := tot_le m l (fun y hy => h y (List.mem_cons_of_mem _ hy))
    rw [tot_cons, List.length_cons, Nat.mul_succ]; omega
end Fd
set_option maxHeartbeats 4000000 in
set_option maxRecDepth 100000 in
theorem fdtell_walk (s : ByteArray) (v : Value) (l : List ByteArray) (w : World) (hs : s.size ≤ maxLen) (S : StS w v l) (hz : ∀ y ∈ l, y.size ≤ maxLen) :
    Calls Try.prog 4 #[.string s, v] w fun e w' => e = .returned (.bool true) ∧ Below w.heap.size w w' := by
  have T := S
  obtain ⟨A, c, rfl, -⟩ := T
  have HS := Lib.hid S
  have HZ := Lib.hid hz
  clear S hz
  unfold maxLen at hs
  have LV := Lib.hid (fun W => lives14 W)
  obtain ⟨N, hN⟩ : ∃ N, N = l.length := ⟨_, rfl⟩
  have HN := Lib.hid hN
  have HS : Hid (StS w (.slice A N c) l) := by rw [hN]; exact HS
  rw [← hN]
  clear hN
  by_cases h1 : 2000 < (s.size : Int)
  · go_enter Try.func4, Try.ntmps4
    go_wp2_with fail
    refine (LV.out _).mono ?_; rintro e w1 ⟨rfl, b1⟩
    go_wp2_with fail
    go_ret
    exact ⟨rfl, b1⟩
  · by_cases h2 : 40 < N
    · have h3 : 40 < (N : Int) := by omega
      go_enter Try.func4, Try.ntmps4
      go_wp2_with fail
      refine (LV.out _).mono ?_; rintro e w1 ⟨rfl, b1⟩
      go_wp2_with fail
      go_ret
      exact ⟨rfl, b1⟩
    · have h3 : ¬ 40 < (N : Int) := by omega
      have hNb : N ≤ 40 := by omega
      have hsb : s.size ≤ 2000 := by omega
      clear h2
      go_enter Try.func4, Try.ntmps4
      go_wp2_with fail
      go_loopw [30] (fun i wr => ∃ k : Nat, k ≤ N ∧ i = .int .i64 k ∧ Hid (∀ y ∈ l.take k, y.size ≤ 500) ∧ Hid (Below w.heap.size w wr)) (fun i _ => N - (intOf i).toNat)
      case atStart => exact ⟨0, Nat.zero_le _, rfl, Lib.hid (fun y hy => by simp at hy), Below.refl _ _⟩
      case round =>
        obtain ⟨k, hk, rfl, hsm, hbw⟩ := hrel
        by_cases hlt : k < N
        · have hkl : k < l.length := by have := HN.out; omega
          obtain ⟨a, rfl, g⟩ := (HS.out.on hbw.out).get k hkl
          have hxz : l[k].size ≤ 9223372036854775807 := by have := HZ.out l[k] (List.getElem_mem hkl); unfold maxLen at this; omega
          have hsm2 : l[k].size ≤ 500 → Hid (∀ y ∈ l.take (k + 1), y.size ≤ 500) := fun h => Lib.hid (fun y hy => by
            rw [List.take_succ_eq_append_getElem hkl] at hy
            rcases List.mem_append.1 hy with hy | hy
            · exact hsm.out y hy
            · rw [List.mem_singleton.1 hy]; exact h)
          generalize l[k] = x at g hxz hsm2
          by_cases hx : 500 < (x.size : Int)
          · clear hsm2
            go_wp2_with fail
            refine (LV.out _).mono ?_; rintro e w1 ⟨rfl, b1⟩
            have B1 := Lib.hid (below_step hbw.out b1)
            clear b1
            go_wp2_with fail
            go_ret
            exact ⟨rfl, B1.out⟩
          · have HX := hsm2 (by omega)
            have T1 := Lib.hid (fun W => fdtext_any x W (by omega))
            have T2 := Lib.hid (fun W => rftext_any x W (by omega))
            clear hsm2
            generalize (⟨(Fd.tx x.data.toList).1.toArray⟩ : ByteArray) = TX at T1 T2
            generalize (Fd.tx x.data.toList).2 = ty at T1 T2
            go_wp2_with fail
            refine (T1.out _).mono ?_; rintro e w1 ⟨rfl, b1⟩
            have B1 := Lib.hid (below_step hbw.out b1)
            clear b1
            go_wp2_with fail
            refine (T2.out _).mono ?_; rintro e w2 ⟨rfl, hw2⟩
            cases hw2
            go_wp2_with fail
            go_roundw
            case rel => exact ⟨k + 1, by omega, by go_num, HX, B1⟩
            case measure => simp [intOf]; omega
        · have HX : Hid (∀ y ∈ l, y.size ≤ 500) := by
            have := hsm.out
            rw [List.take_of_length_le (by have := HN.out; omega)] at this
            exact Lib.hid this
          have htot : Fd.tot l ≤ 500 * 40 := Nat.le_trans (Fd.tot_le 500 l HX.out) (Nat.mul_le_mul_left _ (by have := HN.out; omega))
          have O1 := Lib.hid (fun W => fof_any s W (by omega))
          have O2 := Lib.hid (fun W => rfof_any s W (by omega))
          have J1 := Lib.hid (fun v W (S : StS W v l) => fjoin_any v l W S (by have := HN.out; omega) (by omega))
          have J2 := Lib.hid (fun v W (S : StS W v l) => rfjoin_any v l W S (by have := HN.out; omega) (by omega))
          have hll : (Fd.of s.data.toList).1.length ≤ 16 := by
            unfold Fd.of
            cases Fd.go [] [] false false s.data.toList with
            | none => exact Nat.zero_le _
            | some P =>
              rw [Fd.told_some]
              split
              · exact Nat.zero_le _
              · show P.length ≤ 16; omega
          unfold AnsF at O1 O2
          generalize (Fd.of s.data.toList).1 = P at O1 O2 hll
          generalize (Fd.of s.data.toList).2 = py at O1 O2
          generalize (⟨(Fd.jn (Fd.bl l)).1.toArray⟩ : ByteArray) = JX at J1 J2
          generalize (Fd.jn (Fd.bl l)).2 = jy at J1 J2
          go_wp2_with fail
          refine (O1.out _).mono ?_; rintro e w1 ⟨v1, l1, s1, hl1, rfl, b1⟩
          have B1 := Lib.hid (below_step hbw.out b1)
          have S1 := Lib.hid s1
          have HL1 := Lib.hid hl1
          clear b1 hl1 s1 O1
          go_wp2_with fail
          refine (O2.out _).mono ?_; rintro e w2 ⟨v2, l2, s2, hl2, rfl, b2⟩
          have B2 := Lib.hid (below_step B1.out b2)
          have S1 := Lib.hid (S1.out.on b2)
          obtain rfl : l1 = l2 := fd_bytes (HL1.out.trans hl2.symm)
          have S2 := Lib.hid s2
          have hl1z : Hid (l1.length ≤ 16) := by have := congrArg List.length HL1.out; rw [List.length_map] at this; exact Lib.hid (by omega)
          clear b2 hl2 s2 O2 B1
          go_wp2_with fail
          refine (J1.out _ _ (HS.out.on B2.out)).mono ?_; rintro e w3 ⟨rfl, b3⟩
          have B3 := Lib.hid (below_step B2.out b3)
          have S1 := Lib.hid (S1.out.on b3)
          have S2 := Lib.hid (S2.out.on b3)
          clear b3 B2
          go_wp2_with fail
          refine (J2.out _ _ (HS.out.on B3.out)).mono ?_; rintro e w4 ⟨rfl, b4⟩
          have B4 := Lib.hid (below_step B3.out b4)
          have S1 := Lib.hid (S1.out.on b4)
          have S2 := Lib.hid (S2.out.on b4)
          clear b4 B3
          go_wp2_with fail
          refine (same13_yes _ _ l1 _ (by have := hl1z.out; omega) S1.out S2.out).mono ?_; rintro e w5 ⟨rfl, b5⟩
          have B5 := Lib.hid (below_step B4.out b5)
          clear b5 B4 S1 S2
          go_wp2_with fail
          refine (LV.out _).mono ?_; rintro e w6 ⟨rfl, b6⟩
          have B6 := Lib.hid (below_step B5.out b6)
          clear b6 B5
          go_wp2_with fail
          go_ret
          exact ⟨rfl, B6.out⟩
end Go.Proofs.Ytndophkojnfcaaa

