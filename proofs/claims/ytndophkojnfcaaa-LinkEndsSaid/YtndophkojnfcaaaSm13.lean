/- noontideref13.Same of two lists that are one: true. -/
import Derived.Test.YtndophkojnfcaaaStL
set_option linter.unusedVariables false
set_option linter.unusedSimpArgs false
namespace Go.Proofs.Ytndophkojnfcaaa
open Go.RowKit Go.Sort

set_option maxHeartbeats 2000000 in
theorem same13_yes (v v' : Value) (l : List ByteArray) (w : World) (hl : l.length ≤ 10000000) (S : StS w v l) (S' : StS w v' l) :
    Calls Try.prog 32 #[v, v'] w fun e w' => e = .returned (.bool true) ∧ Below w.heap.size w w' := by
  have T := S; have T' := S'
  obtain ⟨A, c, rfl, -⟩ := T; obtain ⟨A', c', rfl, -⟩ := T'
  have H := Lib.hid S; have H' := Lib.hid S'
  clear S S'
  obtain ⟨N, hN⟩ : ∃ N, N = l.length := ⟨_, rfl⟩
  have HN := Lib.hid hN
  rw [← hN]
  have hNb : N ≤ 10000000 := by omega
  have H : Hid (StS w (.slice A N c) l) := by rw [hN]; exact H
  have H' : Hid (StS w (.slice A' N c') l) := by rw [hN]; exact H'
  clear hN hl
  go_enter Try.func32, Try.ntmps32
  go_wp2_with fail
  go_loopw [13] (fun i wr => ∃ k : Nat, k ≤ N ∧ i = .int .i64 k ∧ Hid (Below w.heap.size w wr)) (fun i _ => N - (intOf i).toNat)
  case atStart => exact ⟨0, Nat.zero_le _, rfl, Below.refl _ _⟩
  case round =>
    obtain ⟨k, hk, rfl, hbw⟩ := hrel
    by_cases hlt : k < N
    · obtain ⟨a, rfl, g⟩ := (H.out.on hbw.out).get k (by have := HN.out; omega)
      obtain ⟨a', rfl, g'⟩ := (H'.out.on hbw.out).get k (by have := HN.out; omega)
      generalize l[k]'(by have := HN.out; omega) = x at g g'
      go_wp2_with fail
      go_quiet (fail)
      go_wp2_with fail
      go_roundw
      case rel => exact ⟨k + 1, by omega, by go_num, Lib.hid (hbw.out.trans (below_draw _ _))⟩
      case measure => simp [intOf]; omega
    · go_wp2_with fail
      go_ret
      exact ⟨rfl, hbw.out⟩
end Go.Proofs.Ytndophkojnfcaaa

