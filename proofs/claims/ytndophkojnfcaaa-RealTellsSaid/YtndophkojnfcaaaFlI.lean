/- Numbers with a floating point that came in: one, and a list of them. -/
import Derived.Test.YtndophkojnfcaaaLst
import Derived.Deep.Slices
import Derived.OpenShut
import Derived.LaidMore
import Derived.ChangeArms
import Derived.WalkSmall
set_option linter.unusedVariables false
set_option linter.unusedSimpArgs false
namespace Go.Proofs.Ytndophkojnfcaaa
open Go.RowKit Go.Sort Go.ChangeShapes Go.Deep

theorem cellsFlI : Try.prog.cellsOf 22 = 1 := by kernel_rfl
section
variable {H : Type} {enc : TypeId × Value → H} {P : Program} {w : World} {base : Nat} {spare : Nat → Bool} {held : Bool}
theorem fi_okWide {r : Reach} {b0 : Nat} {t : TypeId} {v : Value} {k : FloatKind} (ht : P.underlying t = some (.float k)) (h : Value.okWide P w r b0 t v) : ∃ b, v = .float k b := by
  simp only [Value.okWide, ht, Cell.okWide] at h
  cases v <;> simp_all [Cell.ok]
theorem fi_trod {fuel : Nat} {t : TypeId} {cs : List Value} {x : DataW H × List MemPlace} {k : FloatKind} (ht : P.underlying t = some (.float k)) (h : DataW.trod enc P w base spare held fuel t cs = some x) : ∃ b, cs = [.float k b] ∧ x = (.lit (.float k b), []) ∧ (Lit.float k b).wf = true := by
  cases fuel with
  | zero => simp [DataW.trod] at h
  | succ n =>
    unfold DataW.trod at h
    rw [ht] at h
    split at h <;> simp_all
theorem open_f64 {r : Reach} {b0 : Nat} {t : TypeId} {v : Value} {d : DataW H} {ps : List MemPlace} (ht : P.underlying t = some (.float .f64)) (hval : Value.okWide P w r b0 t v) (hd : DataW.Trod enc P w base spare held t v d ps) :
    ∃ b, v = .float .f64 b ∧ b < 18446744073709551616 := by
  obtain ⟨b, rfl⟩ := fi_okWide ht hval
  obtain ⟨fuel, hf⟩ := hd
  obtain ⟨b', h, hx, hw⟩ := fi_trod ht hf
  simp [Value.cells] at h
  subst h
  exact ⟨b, rfl, by simpa [Lit.wf] using hw⟩
/-- A number's word. -/
def fiBits : Value → Nat
  | .float _ b => b
  | _ => 0
set_option maxRecDepth 100000 in
theorem flts_in {A : Option Addr} {n c : Nat} {fuel : Nat} {x : DataW H × List MemPlace} (h : DataW.trod enc Try.prog w base spare held fuel 23 [.slice A n c] = some x) :
    ∃ l : List Nat, FlS w (.slice A n c) l ∧ n ≤ c ∧ c ≤ maxLen ∧ ∀ y ∈ l, y < 18446744073709551616 := by
  rcases open_slice1 Try.underlying23 cellsFlI h with ⟨hcs, _⟩ | ⟨a, len, cap, m, k, V, D, Pl, hcs, _, hl, hm, hmm, _, hV⟩
  · injection hcs with h1 _
    injection h1 with h2 h3 h4
    subst h2; subst h3; subst h4
    exact ⟨[], Lst.nil _ _, Nat.le_refl _, Nat.zero_le _, by intro y hy; cases hy⟩
  · injection hcs with h1 _
    injection h1 with h2 h3 h4
    subst h2; subst h3; subst h4
    have hle : n ≤ m := by rw [hmm]; split <;> omega
    have item : ∀ i, i < n → V i = .float .f64 (fiBits (V i)) ∧ fiBits (V i) < 18446744073709551616 ∧ w.cell? (a.add i) = some (V i) := fun i hi => by
      obtain ⟨g, ht⟩ := hV i (by omega)
      obtain ⟨b, e, _, hw⟩ := fi_trod Try.underlying22 ht
      have e2 : V i = .float .f64 b := by simpa using e
      rw [g, e2]
      exact ⟨rfl, (show b < 18446744073709551616 by simpa [Lit.wf] using hw), rfl⟩
    refine ⟨(List.range n).map fun i => fiBits (V i), ⟨some a, c, by simp, fun hpos => ⟨a, rfl, ?_, ?_⟩⟩, hl, hm, ?_⟩
    · have hpos' : 0 < n := by simpa using hpos
      have := World.block_lt_of_cell? _ _ (item 0 hpos').2.2
      rwa [blk_add] at this
    · intro j u hj
      have hjl : j < n := by
        have := (List.getElem?_eq_some_iff.1 hj).1
        simpa [flc] using this
      have e : u = .float .f64 (fiBits (V j)) := by
        simp [flc, hjl] at hj
        exact hj.symm
      rw [e, ← (item j hjl).1]
      exact (item j hjl).2.2
    · intro y hy
      obtain ⟨i, hi, rfl⟩ := List.mem_map.1 hy
      exact (item i (List.mem_range.1 hi)).2.1
end
end Go.Proofs.Ytndophkojnfcaaa
