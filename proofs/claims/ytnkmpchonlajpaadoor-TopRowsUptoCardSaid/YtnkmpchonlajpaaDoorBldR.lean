/- A builder of the call's own: WriteRune of a blank. -/
import Derived.Test.YtnkmpchonlajpaaDoorBldP
set_option linter.unusedVariables false
set_option linter.unusedSimpArgs false
namespace Go.Proofs.YtnkmpchonlajpaaDoor
open Go.RowKit

set_option maxHeartbeats 2000000 in
set_option maxRecDepth 100000 in
theorem append_32 (b : Nat) (v : Value) (n : Nat) (xs : List Value) (w : World) (hown : w.ownsRowF b 5 1 v n xs) (hn : n ≤ 2000000000) (hb : b ≤ w.heap.size) :
    Calls Tryd.prog 36 #[v, .int .i32 32] w fun e w' => ∃ v', e = .returned v' ∧ w'.ownsRowF b 5 1 v' (n + 1) (xs ++ [.int .u8 32]) ∧ Below b w w' ∧ ∀ i, i < w.heap.size → v.ownBlock ≠ some i → w'.heap[i]? = w.heap[i]? := by
  obtain ⟨i0, hi, hz0, hz1, hz2⟩ := info_parts infoByte
  go_enter Tryd.func36, Tryd.ntmps36
  go_wp2_with (at_builtin; refine wpList_append_ownF _ rfl _ _ 39 rfl b 5 i0 (.int .u8 0) 1 1 Tryd.underlying39 hi hz0 hz1 hz2 rfl (by decide) _ _ _ rfl (hown.alloc _) ⟨w.heap.size, 0, none⟩ 1 1 [.int .u8 32] rfl rfl ?c1 ?c2 ?c3 ?c4 ?c5 ?_)
  case c1 =>
    intro j u hj
    match j, hj with
    | 0, hj => simp at hj; subst hj; simp [Addr.add]
  case c2 => intro u hu; simp at hu; subst hu; rfl
  case c3 => unfold maxLen; omega
  case c4 => omega
  case c5 => simp; omega
  intro v' w2 hown' hgrow _
  go_wp2
  go_ret
  refine ⟨v', rfl, hown', ?_, ?_⟩
  · exact (((Below.refl b w).alloc hb _).grown hgrow (by simp; omega) (fun k hk => (hown.lt k hk).1))
  · intro i hi hne
    rw [hgrow.block i (by simp; omega) (fun e => hne e.symm), Lib.alloc_old w _ i hi]
set_option maxHeartbeats 2000000 in
set_option maxRecDepth 100000 in
theorem bw_rune32 (b : Nat) (l : List UInt8) (w : World) (h : IsB b l w) (hl : l.length ≤ 1000000000) :
    Calls Tryd.prog 26 #[.pointer (some ⟨b, 0, none⟩), .int .i32 32] w fun e w' => e = .returned (.tuple #[.int .i64 1, .nilIface]) ∧ (IsB b (l ++ [32]) w' ∧ Below b w w') := by
  have hlw := h.lt
  have hlen : (Lib.byteCells l).length = l.length := Lib.byteCells_length l
  have HC := Lib.hid (check_any b l w h)
  clear h
  go_enter Tryd.func26, Tryd.ntmps26
  go_wp2_with fail
  refine HC.out.mono ?_
  rintro e w1 ⟨rfl, h1, hb1⟩
  clear HC
  obtain ⟨hB, v, hbk, hown, hne⟩ := h1
  have hlt : b < w1.heap.size := Nat.lt_of_lt_of_le hlw hb1.size
  have c0 : w1.cell? ⟨b, 0, none⟩ = some (.pointer (some ⟨b, 0, none⟩)) := by rw [Lib.cell_of_heap hbk]; rfl
  have c1 : w1.cell? ⟨b, 1, none⟩ = some v := by rw [Lib.cell_of_heap hbk]; rfl
  rw [hlen] at hown
  have HA := Lib.hid (append_32 b v l.length (Lib.byteCells l) w1 hown (by omega) (by omega))
  have HO := Lib.hid hown
  obtain ⟨A, c, rfl⟩ : ∃ A c, v = .slice A l.length c := by
    rcases hown.2 with ⟨hv, h0⟩ | ⟨g, cap, cur, fz, hv, _⟩
    · have : l.length = 0 := by omega
      exact ⟨_, _, by rw [this]; exact hv⟩
    · exact ⟨_, _, hv⟩
  clear hown
  go_wp2_with fail
  refine HA.out.mono ?_
  rintro e w2 ⟨v', rfl, own', b2, hold⟩
  have hb2 : w2.heap[b]? = some (.cells #[.pointer (some ⟨b, 0, none⟩), .slice A l.length c] 45 (0, 0)) := by rw [hold b hlt (fun e => hne e)]; exact hbk
  have d0 : w2.cell? ⟨b, 0, none⟩ = some (.pointer (some ⟨b, 0, none⟩)) := by rw [Lib.cell_of_heap hb2]; rfl
  have d1 : w2.cell? ⟨b, 1, none⟩ = some (.slice A l.length c) := by rw [Lib.cell_of_heap hb2]; rfl
  have f1 : w2.frozen? ⟨b, 1, none⟩ = false := Lib.frozen_of_heap hb2 1
  obtain ⟨g, cap, rfl⟩ : ∃ g cap, v' = .slice (some ⟨g, 0, none⟩) (l.length + 1) cap := by
    rcases own'.2 with ⟨_, h0⟩ | ⟨g, cap, cur, fz, hv, _⟩
    · omega
    · exact ⟨g, cap, hv⟩
  have OW := Lib.hid own'
  clear own' hold
  go_wp2
  go_ret2
  refine ⟨?_, ?_, ?_⟩
  · have e1 : ((l.length : Int) + 1 - (l.length : Int)) = 1 := by omega
    first | rfl | (simp only [e1]; rfl) | (simp [e1]; done) | trace_state
  · right
    rw [Lib.byteCells_append, show Lib.byteCells [32] = [.int .u8 32] by rfl]
    exact Lib.BuilderAtF.put hB hb2 (by simpa [hlen] using OW.out) (by decide)
  · exact (hb1.trans b2).setCell (p := ⟨b, 1, none⟩) hB _
end Go.Proofs.YtnkmpchonlajpaaDoor
