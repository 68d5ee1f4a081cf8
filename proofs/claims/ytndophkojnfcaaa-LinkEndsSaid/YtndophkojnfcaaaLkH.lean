/- Links: step and Follow of the reference. -/
import Derived.Test.YtndophkojnfcaaaLkG
set_option linter.unusedVariables false
set_option linter.unusedSimpArgs false
namespace Go.Proofs.Ytndophkojnfcaaa
open Go.RowKit Go.Sort

theorem str_eq_of {a b : ByteArray} : (a.data.toList = b.data.toList) ↔ a = b := ⟨fun h => ByteArray.ext (Array.toList_inj.1 h), fun h => by rw [h]⟩
set_option maxHeartbeats 2000000 in
set_option maxRecDepth 100000 in
theorem rstep_any (v : Value) (l : List (ByteArray × ByteArray)) (s : ByteArray) (w : World) (S : LkS w v l) (hl : l.length ≤ 1000000) :
    Calls Try.prog 71 #[v, .string s] w fun e w' => e = .returned (.tuple #[.string ((Lk.fst l s.data.toList).getD ⟨#[]⟩), .bool (Lk.fst l s.data.toList).isSome]) ∧ Below w.heap.size w w' := by
  have T := S
  obtain ⟨A, c, rfl, -⟩ := T
  obtain ⟨N, hN⟩ : ∃ N, N = l.length := ⟨_, rfl⟩
  have HN := Lib.hid hN
  have HS : Hid (LkS w (.slice A N c) l) := by rw [hN]; exact S
  rw [← hN]
  have hNb : N ≤ 1000000 := by omega
  clear hN S hl
  obtain ⟨tot, htot⟩ : ∃ tot, tot = Lk.fst l s.data.toList := ⟨_, rfl⟩
  rw [← htot]
  have HT := Lib.hid htot; clear htot
  obtain ⟨ans, hans⟩ : ∃ ans : Value, ans = .tuple #[.string (tot.getD ⟨#[]⟩), .bool tot.isSome] := ⟨_, rfl⟩
  rw [← hans]
  have HA := Lib.hid hans; clear hans
  go_enter Try.func71, Try.ntmps71
  go_wp2_with fail
  go_loopw [10] (fun i wr => ∃ k : Nat, k ≤ N ∧ i = .int .i64 k ∧ Hid (Lk.fst (l.drop k) s.data.toList = tot) ∧ Hid (Below w.heap.size w wr)) (fun i _ => N - (intOf i).toNat)
  case atStart => exact ⟨0, Nat.zero_le _, rfl, HT.out.symm, Below.refl _ _⟩
  case round =>
    obtain ⟨k, hk, rfl, hinv, hbw⟩ := hrel
    by_cases hlt : k < N
    · have hkl : k < l.length := by have := HN.out; omega
      obtain ⟨a, rfl, hab, g0, g1⟩ := (HS.out.on hbw.out).get k hkl
      have hd := hinv.out
      rw [List.drop_eq_getElem_cons hkl] at hd
      generalize l[k] = p at g0 g1 hd
      obtain ⟨x, y⟩ := p
      have hd : (if y.data.toList = s.data.toList then some x else Lk.fst (l.drop (k + 1)) s.data.toList) = tot := hd
      have hn : (a.add (k * 2)).block ≠ wr.heap.size := by rw [blk_add]; exact Nat.ne_of_lt hab
      clear hinv
      by_cases hys : y = s
      · subst hys
        have HI := Lib.hid (show some x = tot by rw [← hd, if_pos rfl])
        clear hd
        go_wp2_with fail
        go_ret2
        refine ⟨by rw [HA.out, ← HI.out]; rfl, ?_⟩
        have hz := hbw.out.size
        repeat (first | exact hbw.out | refine Below.setCell ?_ (by first | omega | (simp; done) | (simp; omega)) _ | refine Below.alloc ?_ (by first | omega | (simp; done) | (simp; omega)) _)
      · have HI := Lib.hid (show Lk.fst (l.drop (k + 1)) s.data.toList = tot by rw [← hd, if_neg (fun e => hys (str_eq_of.1 e))])
        obtain ⟨n1, n2⟩ := str_ne hys
        clear hd hys
        go_wp2_with fail
        go_roundw
        case rel =>
          refine ⟨k + 1, by omega, by go_num, HI, Lib.hid ?_⟩
          have hz := hbw.out.size
          repeat (first | exact hbw.out | refine Below.setCell ?_ (by first | omega | (simp; done) | (simp; omega)) _ | refine Below.alloc ?_ (by first | omega | (simp; done) | (simp; omega)) _)
        case measure => simp [intOf]; omega
    · have HI := Lib.hid (show none = tot by rw [← hinv.out, List.drop_of_length_le (by have := HN.out; omega)]; rfl)
      go_wp2_with fail
      go_ret2
      exact ⟨by rw [HA.out, ← HI.out]; rfl, hbw.out⟩
set_option maxHeartbeats 2000000 in
set_option maxRecDepth 100000 in
theorem rfollow_any (v : Value) (l : List (ByteArray × ByteArray)) (s : ByteArray) (w : World) (S : LkS w v l) (hl : l.length ≤ 1000000) :
    Calls Try.prog 39 #[v, .string s] w fun e w' => e = .returned (.tuple #[.string (Lk.ans (Lk.flw (Lk.fst l) (l.length + 1) s)).1, .int .i64 (Lk.ans (Lk.flw (Lk.fst l) (l.length + 1) s)).2]) ∧ Below w.heap.size w w' := by
  have T := S
  obtain ⟨A, c, rfl, -⟩ := T
  have ST := Lib.hid (fun W t (S : LkS W (.slice A l.length c) l) => rstep_any (.slice A l.length c) l t W S hl)
  obtain ⟨tot, htot⟩ : ∃ tot, tot = Lk.flw (Lk.fst l) (l.length + 1) s := ⟨_, rfl⟩
  rw [← htot]
  obtain ⟨N, hN⟩ : ∃ N, N = l.length := ⟨_, rfl⟩
  have HN := Lib.hid hN
  have HS : Hid (LkS w (.slice A N c) l) := by rw [hN]; exact S
  rw [← hN] at htot ST ⊢
  have hNb : N ≤ 1000000 := by omega
  clear hN S hl
  have HT := Lib.hid htot; clear htot
  obtain ⟨ans, hans⟩ : ∃ ans : Value, ans = .tuple #[.string (Lk.ans tot).1, .int .i64 (Lk.ans tot).2] := ⟨_, rfl⟩
  rw [← hans]
  have HA := Lib.hid hans; clear hans
  go_enter Try.func39, Try.ntmps39
  go_wp2_with fail
  go_loopw [1, 6] (fun nm i wr => ∃ (k : Nat) (t : ByteArray), k ≤ N + 1 ∧ i = .int .i64 k ∧ nm = .string t ∧ Hid (Lk.flw (Lk.fst l) (N + 1 - k) t = tot) ∧ Hid (Below w.heap.size w wr)) (fun _ i _ => N + 1 - (intOf i).toNat)
  case atStart => exact ⟨0, s, Nat.zero_le _, rfl, rfl, HT.out.symm, Below.refl _ _⟩
  case round =>
    obtain ⟨k, t, hk, rfl, rfl, hinv, hbw⟩ := hrel
    by_cases hlt : k ≤ N
    · have hd := hinv.out
      rw [show N + 1 - k = (N - k) + 1 by omega] at hd
      have CS := Lib.hid (fun W S => ST.out W t S)
      unfold Lk.flw at hd
      cases hf : Lk.fst l t.data.toList with
      | none =>
        rw [hf] at hd CS
        have HI := Lib.hid (show some t = tot from hd)
        have CS : Hid (∀ W, LkS W (.slice A N c) l → Calls Try.prog 71 #[.slice A N c, .string t] W fun e w' => e = .returned (.tuple #[.string ⟨#[]⟩, .bool false]) ∧ Below W.heap.size W w') := CS
        clear hd hf hinv
        go_wp2_with fail
        refine (CS.out _ (HS.out.on hbw.out)).mono ?_; rintro e w1 ⟨rfl, b1⟩
        have B1 := Lib.hid (below_step hbw.out b1)
        clear b1
        go_wp2_with fail
        go_ret2
        exact ⟨by rw [HA.out, ← HI.out]; rfl, B1.out⟩
      | some y =>
        rw [hf] at hd CS
        have HI := Lib.hid (show Lk.flw (Lk.fst l) (N + 1 - (k + 1)) y = tot by rw [show N + 1 - (k + 1) = N - k by omega]; exact hd)
        have CS : Hid (∀ W, LkS W (.slice A N c) l → Calls Try.prog 71 #[.slice A N c, .string t] W fun e w' => e = .returned (.tuple #[.string y, .bool true]) ∧ Below W.heap.size W w') := CS
        clear hd hf hinv
        go_wp2_with fail
        refine (CS.out _ (HS.out.on hbw.out)).mono ?_; rintro e w1 ⟨rfl, b1⟩
        have B1 := Lib.hid (below_step hbw.out b1)
        clear b1
        go_wp2_with fail
        go_roundw
        case rel => exact ⟨k + 1, y, by omega, by go_num, rfl, HI, B1⟩
        case measure => simp [intOf]; omega
    · have gg : ¬ (k : Int) ≤ (N : Int) := by omega
      have HI := Lib.hid (show none = tot by rw [← hinv.out, show N + 1 - k = 0 by omega]; rfl)
      go_wp2_with fail
      go_ret2
      exact ⟨by rw [HA.out, ← HI.out]; rfl, hbw.out⟩
end Go.Proofs.Ytndophkojnfcaaa

