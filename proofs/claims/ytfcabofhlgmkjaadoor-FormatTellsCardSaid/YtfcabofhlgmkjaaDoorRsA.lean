/- The reference's stamps: digits, so many at least; the number of two digits. -/
import Derived.Test.YtfcabofhlgmkjaaDoorRnA
set_option linter.unusedVariables false
set_option linter.unusedSimpArgs false
namespace Go.Proofs.YtfcabofhlgmkjaaDoor
open Go.RowKit

theorem cons_arr (l : List UInt8) : (⟨#[48]⟩ ++ ⟨l.toArray⟩ : ByteArray) = ⟨((48 : UInt8) :: l).toArray⟩ := by
  apply ByteArray.ext
  rw [ByteArray.data_append]
  apply Array.toList_inj.1
  simp
set_option maxHeartbeats 4000000 in
set_option maxRecDepth 100000 in
theorem wide_any (n : Int) (k : Nat) (w : World) (hk : k ≤ 4) (n0 : -9223372036854775808 ≤ n) (n1 : n ≤ 9223372036854775807) :
    Calls Tryd.prog 83 #[.int .i64 n, .int .i64 k] w fun e w' => e = .returned (.string ⟨(Tx.dg k n).toArray⟩) ∧ Below w.heap.size w w' := by
  have tl : (Lib.itoa n).length ≤ 21 := Lib.itoa_length_le n n0 n1
  have CT : Hid (∀ W, Calls Tryd.prog 69 #[.int .i64 n] W fun e w' => e = .returned (.string ⟨(Lib.itoa n).toArray⟩) ∧ Below W.heap.size W w') := fun W => rtext_any n W n0 n1
  have E := Lib.hid (show Tx.dg k n = List.replicate (k - (Lib.itoa n).length) 48 ++ Lib.itoa n from rfl)
  generalize Tx.dg k n = R at E
  generalize Lib.itoa n = D at *
  go_enter Tryd.func83, Tryd.ntmps83
  go_wp2_with fail
  refine (CT.out _).mono ?_; rintro e w1 ⟨rfl, b1⟩
  have d1 : Below w.heap.size w w1 := below_step (by repeat (first | exact Below.refl _ _ | refine below_drewN ?_ _ | refine Below.drew ?_ | refine Below.setCell ?_ (by first | (simp; done) | (simp; omega) | omega) _ | refine Below.alloc ?_ (by first | (simp; done) | (simp; omega) | omega) _)) b1
  have B1 := Lib.hid d1
  clear b1 d1
  clear CT
  go_wp2_with fail
  go_loopw [5] (fun i wr => ∃ j : Nat, i = .string ⟨(List.replicate j 48 ++ D).toArray⟩ ∧ j ≤ k - D.length ∧ wr = w1) (fun i _ => match i with | .string s => k - s.size | _ => 0)
  case atStart => exact ⟨0, rfl, Nat.zero_le _, rfl⟩
  case round =>
    obtain ⟨j, rfl, hj, rfl⟩ := hrel
    obtain ⟨S, hS, hz⟩ : ∃ S : ByteArray, S = ⟨(List.replicate j 48 ++ D).toArray⟩ ∧ S.size = j + D.length := ⟨_, rfl, by show (List.replicate j 48 ++ D).toArray.size = _; rw [List.size_toArray]; simp⟩
    rw [← hS]
    have HS := Lib.hid hS; clear hS
    by_cases hlt : (S.size : Int) < (k : Int)
    · go_wp2_with fail
      go_roundw
      case rel => exact ⟨j + 1, by rw [HS.out, cons_arr, List.replicate_succ]; rfl, by omega, by first | rfl | trivial⟩
      case measure => simp; show k - (1 + S.size) < k - S.size; omega
    · have ej : j = k - D.length := by omega
      go_wp2_with fail
      go_ret
      refine ⟨?_, B1.out⟩
      rw [HS.out, E.out, ej]; rfl
end Go.Proofs.YtfcabofhlgmkjaaDoor

