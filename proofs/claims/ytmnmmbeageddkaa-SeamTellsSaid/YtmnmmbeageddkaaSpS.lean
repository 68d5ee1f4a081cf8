/- Lists of spans: the contract of the reference's Same. -/
import Derived.Test.YtmnmmbeageddkaaSl
set_option linter.unusedVariables false
set_option linter.unusedSimpArgs false
namespace Go.Proofs.Ytmnmmbeageddkaa
open Go.RowKit Go.Sort

/-- A call that answers yes, and at most draws. -/
def Yes (w : World) (e : Ending) (w' : World) : Prop := e = .returned (.bool true) ∧ ∃ n, w' = w.drewN n
theorem Yes.drew {w w' : World} {e : Ending} {m : Nat} (h : Yes (w.drewN m) e w') : Yes w e w' := by
  obtain ⟨h1, n, h2⟩ := h
  exact ⟨h1, m + n, by rw [h2, World.drewN_drewN]⟩
set_option maxHeartbeats 4000000 in
theorem same_yes (v1 v2 : Value) (l : List (Int × Int)) (w : World) (h1 : SpV w v1 l) (h2 : SpV w v2 l) (hm : l.length ≤ maxLen) :
    Calls Try.prog 27 #[v1, v2] w (Yes w) := by
  unfold maxLen at hm
  have H1 := Lib.hid h1
  have H2 := Lib.hid h2
  obtain ⟨A1, c1, rfl, -⟩ := h1
  obtain ⟨A2, c2, rfl, -⟩ := h2
  generalize hn : l.length = n at *
  have HN := Lib.hid hn
  clear hn
  go_enter Try.func27, Try.ntmps27
  go_wp2
  go_loopw [13] (fun i wr => ∃ k : Nat, k ≤ n ∧ i = .int .i64 k ∧ ∃ m, wr = w.drewN m) (fun i _ => n - (intOf i).toNat)
  case atStart => exact ⟨0, Nat.zero_le _, rfl, 0, rfl⟩
  case round =>
    obtain ⟨k, hk, rfl, m, rfl⟩ := hrel
    by_cases hlt : k < n
    · obtain ⟨a1, rfl, -, g1, g2⟩ := H1.out.get k (by rw [HN.out]; exact hlt)
      obtain ⟨a2, rfl, -, g3, g4⟩ := H2.out.get k (by rw [HN.out]; exact hlt)
      generalize (l[k]'(by rw [HN.out]; exact hlt)).1 = x at *
      generalize (l[k]'(by rw [HN.out]; exact hlt)).2 = y at *
      have i0 : (0 : Int) ≤ k := by omega
      have i1 : (k : Int) < n := by omega
      go_wp2
      go_quiet (fail)
      go_wp2
      go_roundw
      case rel => exact ⟨k + 1, by omega, by go_num, _, rfl⟩
      case measure => simp [intOf]; omega
    · go_wp2
      go_ret
      exact ⟨rfl, m, rfl⟩
end Go.Proofs.Ytmnmmbeageddkaa
