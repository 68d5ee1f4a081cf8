/- The program's fields: the contract of Of. -/
import Derived.Test.YtnkmpchonlajpaaDoorFdJ
import Derived.Test.YtnkmpchonlajpaaDoorGvT
set_option linter.unusedVariables false
set_option linter.unusedSimpArgs false
namespace Go.Proofs.YtnkmpchonlajpaaDoor
open Go.RowKit Go.Sort

set_option maxRecDepth 100000 in
theorem fd_callFn (qs : Array Value) (W : World) : Sem.run Tryd.prog (callFunc 23 qs) W = .ok (.enter 23 qs) W := rfl
set_option maxHeartbeats 1000000 in
set_option maxRecDepth 100000 in
theorem of1_any (b : Nat) (s : ByteArray) (w : World) (hc : w.cell? ⟨b, 0, none⟩ = some (.string s)) (hs : s.size ≤ 100000000) :
    Calls Tryd.prog 23 #[.pointer (some ⟨b, 0, none⟩)] w fun e w' => Below w.heap.size w w' ∧ (((Fd.of s.data.toList).2 = 0 ∧ ∃ (v : Value) (l : List ByteArray), StO w.heap.size w' v l ∧ l.map (·.data.toList) = (Fd.of s.data.toList).1 ∧ e = .returned v) ∨ ((Fd.of s.data.toList).2 ≠ 0 ∧ e = .panicked (gvP (Fd.of s.data.toList).2))) := by
  have C := Lib.hid (fun b W H => cfields_any b s W H hs)
  unfold AnsCs at C
  generalize Fd.of s.data.toList = R at C ⊢
  clear hs
  go_enter Tryd.func23, Tryd.ntmps23
  go_wp2_with fail
  have hk : Bk1 (w.alloc (.cells #[.string s] 53)) w.heap.size (.string s) := ⟨by simp, fun j => by simp [go_sem], by simp [go_sem]⟩
  have hB : Below w.heap.size w (w.alloc (.cells #[.string s] 53)) := (Below.refl _ _).alloc (Nat.le_refl _) _
  refine (C.out _ _ hk).mono ?_; rintro e w1 ⟨g1, h1⟩
  have hsz := hB.size
  have hz : w.heap.size ≤ (w.alloc (.cells #[.string s] 53)).heap.size := hsz
  have B1 := Lib.hid (hB.trans (grown_at g1 hz))
  rcases h1 with ⟨h0, v, l, own, hl, rfl⟩ | ⟨h0, rfl⟩
  · have ST := Lib.hid (StO.own own hz)
    have HL := Lib.hid hl
    clear own hl g1 hB hk
    go_wp2_with fail
    go_ret
    exact ⟨B1.out, .inl ⟨h0, v, l, ST.out, HL.out, rfl⟩⟩
  · refine (show bodyPost _ _ _ (Exit.panic (gvP R.2)) _ _ from ?_)
    simp [bodyPost]
    exact ⟨B1.out, h0⟩
set_option maxHeartbeats 1000000 in
set_option maxRecDepth 100000 in
theorem fof_any (s : ByteArray) (w : World) (hs : s.size ≤ 100000000) :
    Calls Tryd.prog 15 #[.string s] w (AnsF (Fd.of s.data.toList) w) := by
  have C := Lib.hid (fun b W hc => of1_any b s W hc hs)
  have hR : (Fd.of s.data.toList).2 ≠ 0 → (Fd.of s.data.toList).1 = [] := by
    unfold Fd.of
    generalize Fd.go [] [] false false s.data.toList = o
    cases o with
    | none => intro _; rfl
    | some P =>
      rw [Fd.told_some]
      split
      · intro _; rfl
      · intro h; exact absurd rfl h
  generalize Fd.of s.data.toList = R at C hR ⊢
  obtain ⟨P, why⟩ := R
  by_cases h0 : why = 0
  · subst h0
    have T := Lib.hid (fun b W (hc : W.cell? ⟨b, 0, none⟩ = some (.string s)) => tcaught_yes 23 #[.pointer (some ⟨b, 0, none⟩)] (fd_callFn _) P W (Lib.hid fun W' hB => (C.out b W' (fd_keep hc hB)).mono (by
      rintro e w' ⟨h1, ⟨-, v, l, h2, h3, h4⟩ | ⟨h2, -⟩⟩
      · exact ⟨v, l, h2, h3, h4, h1⟩
      · exact absurd rfl h2)))
    clear C hR
    go_enter Tryd.func15, Tryd.ntmps15
    go_wp2_with fail
    refine (T.out _ _ (by simp [go_sem])).mono ?_; rintro e w1 ⟨v, l, hst, hl, rfl, b1⟩
    have ST := Lib.hid hst; have HL := Lib.hid hl
    have B1 := Lib.hid (below_step ((Below.refl _ _).alloc (Nat.le_refl _) _) b1)
    clear hst hl b1
    go_wp2_with fail
    go_ret2
    exact ⟨v, l, ST.out, HL.out, rfl, B1.out⟩
  · have hP : P = [] := hR h0
    subst hP
    have T := Lib.hid (fun b W (hc : W.cell? ⟨b, 0, none⟩ = some (.string s)) => tcaught_no 23 #[.pointer (some ⟨b, 0, none⟩)] (fd_callFn _) 0 why W (Lib.hid fun W' hB => (C.out b W' (fd_keep hc hB)).mono (by
      rintro e w' ⟨h1, ⟨h2, -⟩ | ⟨h2, h3⟩⟩
      · exact absurd h2 h0
      · exact ⟨h3, h1⟩)))
    clear C hR
    go_enter Tryd.func15, Tryd.ntmps15
    go_wp2_with fail
    refine (T.out _ _ (by simp [go_sem])).mono ?_; rintro e w1 ⟨rfl, b1⟩
    have B1 := Lib.hid (below_step ((Below.refl _ _).alloc (Nat.le_refl _) _) b1)
    clear b1
    go_wp2_with fail
    go_ret2
    exact ⟨_, [], StS.nil _, rfl, rfl, B1.out⟩
end Go.Proofs.YtnkmpchonlajpaaDoor

