/- The reference's Join of fields. -/
import Derived.Test.YtndophkojnfcaaaFdD
set_option linter.unusedVariables false
set_option linter.unusedSimpArgs false
namespace Go.Proofs.Ytndophkojnfcaaa
open Go.RowKit Go.Sort

namespace Fd
def bl (l : List ByteArray) : List (List UInt8) := l.map (·.data.toList)
/-- How many bytes there are. -/
def tot (l : List ByteArray) : Nat := (l.map (·.size)).foldr (· + ·) 0
theorem tot_cons (x : ByteArray) (l : List ByteArray) : tot (x :: l) = x.size + tot l := rfl
theorem tot_drop (l : List ByteArray) (k : Nat) (h : k < l.length) : tot (l.drop k) = l[k].size + tot (l.drop (k + 1)) := by
  rw [List.drop_eq_getElem_cons h, tot_cons]
theorem jr_next (acc : List UInt8) (k : Nat) (x : List UInt8) (r : List (List UInt8)) (h : (tx x).2 = 0) : jr acc k (x :: r) = jr (acc ++ ((if k = 0 then [] else [32]) ++ (tx x).1)) (k + 1) r := by
  conv => lhs; unfold jr
  rw [if_pos h]
theorem jr_stop (acc : List UInt8) (k : Nat) (x : List UInt8) (r : List (List UInt8)) (h : (tx x).2 ≠ 0) : jr acc k (x :: r) = ([], (tx x).2) := by
  conv => lhs; unfold jr
  rw [if_neg h]
theorem bl_drop (l : List ByteArray) (k : Nat) (h : k < l.length) : (bl l).drop k = l[k].data.toList :: (bl l).drop (k + 1) := by
  unfold bl
  rw [List.drop_eq_getElem_cons (by simpa using h), List.getElem_map]
theorem arr_len (l : List UInt8) : (⟨l.toArray⟩ : ByteArray).size = l.length := List.size_toArray
theorem arr_app (a b : List UInt8) : (⟨(a ++ b).toArray⟩ : ByteArray) = ⟨a.toArray⟩ ++ ⟨b.toArray⟩ := by
  apply ByteArray.ext; apply Array.toList_inj.1; simp
end Fd
set_option maxHeartbeats 4000000 in
set_option maxRecDepth 100000 in
theorem rfjoin_any (v : Value) (l : List ByteArray) (w : World) (S : StS w v l) (hl : l.length ≤ 100000000) (hz : Fd.tot l ≤ 50000000) :
    Calls Try.prog 31 #[v] w fun e w' => e = .returned (.tuple #[.string ⟨(Fd.jn (Fd.bl l)).1.toArray⟩, .int .i64 (Fd.jn (Fd.bl l)).2]) ∧ Below w.heap.size w w' := by
  have T := S
  obtain ⟨A, c, rfl, -⟩ := T
  obtain ⟨N, hN⟩ : ∃ N, N = l.length := ⟨_, rfl⟩
  have HN := Lib.hid hN
  have HS : Hid (StS w (.slice A N c) l) := by rw [hN]; exact S
  have hNl : (Fd.bl l).length = N := by unfold Fd.bl; rw [List.length_map, hN]
  rw [← hN]
  have hNb : N ≤ 100000000 := by omega
  have hz0 : Fd.tot (l.drop 0) ≤ 50000000 := hz
  clear S hl hz
  unfold Fd.jn
  rw [hNl]
  clear hN hNl
  by_cases h16 : 16 < N
  · rw [if_pos h16]
    clear HS
    go_enter Try.func31, Try.ntmps31
    go_wp2_with fail
    go_ret2
    exact ⟨rfl, Below.refl _ _⟩
  · rw [if_neg h16]
    obtain ⟨tot, htot⟩ : ∃ tot, tot = Fd.jr [] 0 (Fd.bl l) := ⟨_, rfl⟩
    rw [← htot]
    have HT := Lib.hid htot
    have HZ := Lib.hid hz0
    clear htot hz0
    obtain ⟨ans, hans⟩ : ∃ ans : Value, ans = .tuple #[.string ⟨tot.1.toArray⟩, .int .i64 tot.2] := ⟨_, rfl⟩
    rw [← hans]
    have HA := Lib.hid hans
    clear hans
    go_enter Try.func31, Try.ntmps31
    go_wp2_with fail
    go_loopw [4, 14] (fun s i wr => ∃ (k : Nat) (a : List UInt8), k ≤ N ∧ i = .int .i64 k ∧ s = .string ⟨a.toArray⟩ ∧ Hid (Fd.jr a k ((Fd.bl l).drop k) = tot) ∧ Hid (a.length + Fd.tot (l.drop k) ≤ 50000000 + 4 * k) ∧ wr = w) (fun _ i _ => N - (intOf i).toNat)
    case atStart => exact ⟨0, [], Nat.zero_le _, rfl, rfl, HT.out.symm, by have := HZ.out; show ([] : List UInt8).length + _ ≤ _; rw [List.length_nil]; omega, rfl⟩
    case round =>
      obtain ⟨k, a, hk, rfl, rfl, hinv, hsz, hw⟩ := hrel
      obtain rfl : w = wr := hw.symm
      by_cases hlt : k < N
      · have hkl : k < l.length := by have := HN.out; omega
        obtain ⟨p, rfl, g⟩ := HS.out.get k hkl
        have hd := hinv.out
        rw [Fd.bl_drop l k hkl] at hd
        have hs2 := hsz.out
        rw [Fd.tot_drop l k hkl] at hs2
        generalize l[k] = x at g hd hs2
        have hle := Fd.tx_len x.data.toList
        rw [fd_len] at hle
        have C := Lib.hid (fun W => rftext_any x W (by omega))
        rcases Fd.tx_why x.data.toList with h0 | h0
        · rw [Fd.jr_next _ _ _ _ h0] at hd
          rw [h0] at C
          generalize (Fd.tx x.data.toList).1 = t at C hd hle
          have HH : Hid (Fd.jr (a ++ ((if k = 0 then [] else [32]) ++ t)) (k + 1) ((Fd.bl l).drop (k + 1)) = tot) := hd
          have zt := Fd.arr_len t
          have za := Fd.arr_len a
          clear hd hinv h0
          rcases Nat.eq_zero_or_pos k with hk0 | hp
          · have gk : ¬ 0 < (k : Int) := by omega
            have e1 : a ++ ((if k = 0 then [] else [32]) ++ t) = a ++ t := by rw [if_pos hk0]; rfl
            rw [e1] at HH
            have hs3 := Lib.hid (show (a ++ t).length + Fd.tot (l.drop (k + 1)) ≤ 50000000 + 4 * (k + 1) by rw [List.length_append]; omega)
            have HR := Lib.hid (Fd.arr_app a t)
            generalize (⟨t.toArray⟩ : ByteArray) = TB at C zt HR
            obtain ⟨AB, hAB⟩ : ∃ AB : ByteArray, AB = ⟨a.toArray⟩ := ⟨_, rfl⟩
            rw [← hAB] at za HR ⊢
            clear hAB hk0 e1
            have e2 : (AB ++ TB : ByteArray).size = AB.size + TB.size := ByteArray.size_append ..
            go_wp2_with fail
            refine (C.out _).mono ?_; rintro e w1 ⟨rfl, hw1⟩
            cases hw1
            go_wp2_with fail
            go_roundw
            case rel => exact ⟨k + 1, a ++ t, by omega, by go_num, by rw [HR.out], HH, hs3, by first | rfl | trivial⟩
            case measure => simp [intOf]; omega
          · have gk : 0 < (k : Int) := by omega
            have e1 : a ++ ((if k = 0 then [] else [32]) ++ t) = (a ++ [32]) ++ t := by rw [if_neg (by omega), List.append_assoc]
            rw [e1] at HH
            have hs3 := Lib.hid (show ((a ++ [32]) ++ t).length + Fd.tot (l.drop (k + 1)) ≤ 50000000 + 4 * (k + 1) by rw [List.length_append, List.length_append, List.length_singleton]; omega)
            have HR := Lib.hid (show (⟨((a ++ [32]) ++ t).toArray⟩ : ByteArray) = (⟨a.toArray⟩ ++ ⟨#[32]⟩) ++ ⟨t.toArray⟩ by rw [Fd.arr_app, Fd.arr_app])
            generalize (⟨t.toArray⟩ : ByteArray) = TB at C zt HR
            obtain ⟨AB, hAB⟩ : ∃ AB : ByteArray, AB = ⟨a.toArray⟩ := ⟨_, rfl⟩
            rw [← hAB] at za HR ⊢
            clear hAB hp e1
            have e3 : (AB ++ ⟨#[32]⟩ : ByteArray).size = AB.size + 1 := ByteArray.size_append ..
            have e2 : ((AB ++ ⟨#[32]⟩) ++ TB : ByteArray).size = AB.size + 1 + TB.size := by rw [ByteArray.size_append, e3]
            go_wp2_with fail
            refine (C.out _).mono ?_; rintro e w1 ⟨rfl, hw1⟩
            cases hw1
            go_wp2_with fail
            go_roundw
            case rel => exact ⟨k + 1, (a ++ [32]) ++ t, by omega, by go_num, by rw [HR.out], HH, hs3, by first | rfl | trivial⟩
            case measure => simp [intOf]; omega
        · rw [Fd.jr_stop _ _ _ _ (by omega)] at hd
          rw [h0] at C hd
          generalize (Fd.tx x.data.toList).1 = t at C
          have HH := Lib.hid hd
          clear hd hinv h0 hsz hs2 hle
          go_wp2_with fail
          refine (C.out _).mono ?_; rintro e w1 ⟨rfl, hw1⟩
          cases hw1
          go_wp2_with fail
          go_ret2
          exact ⟨by rw [HA.out, ← HH.out]; rfl, Below.refl _ _⟩
      · have hjk := Lib.hid (show (a, (0 : Int)) = tot by
          rw [← hinv.out, List.drop_of_length_le (by unfold Fd.bl; rw [List.length_map]; have := HN.out; omega)]; rfl)
        go_wp2_with fail
        go_ret2
        exact ⟨by rw [HA.out, ← hjk.out]; rfl, Below.refl _ _⟩
end Go.Proofs.Ytndophkojnfcaaa

