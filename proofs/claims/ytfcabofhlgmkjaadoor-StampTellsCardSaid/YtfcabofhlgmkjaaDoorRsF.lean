/- The contract of the reference's stamps that are read: not of a form, or the parts behind the year. -/
import Derived.Test.YtfcabofhlgmkjaaDoorRsE
set_option linter.unusedVariables false
set_option linter.unusedSimpArgs false
namespace Go.Proofs.YtfcabofhlgmkjaaDoor
open Go.RowKit

theorem rf_ix (a : ByteArray) (k : Nat) (h : k < a.size) (w : World) : Sem.run Tryd.prog (Instr.index 9 (.string a) (.int .i64 (k : Int))) w = .ok (.int .u8 a[k].toNat) w := by
  rw [run_index_string w _ _ _ _ Tryd.underlying9, dif_pos ⟨by omega, by omega⟩]
  simp
theorem rf_ab (s : ByteArray) (a b : Nat) (h : a ≤ b) (hb : b ≤ s.size) (w : World) : Sem.run Tryd.prog (Instr.slice 9 (.string s) (some (.int .i64 (a : Int))) (some (.int .i64 (b : Int))) none) w = .ok (.string (s.extract a b)) w := by
  rw [run_slice_string w 9 s .i64 .i64 (a : Int) (b : Int) Tryd.underlying9 (by omega) (by omega) (by omega)]
  simp
theorem rf_list (s : ByteArray) (a b : Nat) : (s.extract a b).data.toList = (s.data.toList.take b).drop a := by
  rw [ByteArray.data_extract, Array.toList_extract]
  simp [List.extract_eq_take_drop, List.drop_take]
theorem val_two (x y : UInt8) (hx : Num.dig x = true) (hy : Num.dig y = true) : (Num.val 0 [x, y] : Int) = ((x.toNat : Int) - 48) * 10 + ((y.toNat : Int) - 48) := by
  have h1 : 48 ≤ x.toNat ∧ x.toNat ≤ 57 := by unfold Num.dig at hx; exact of_decide_eq_true hx
  have h2 : 48 ≤ y.toNat ∧ y.toNat ≤ 57 := by unfold Num.dig at hy; exact of_decide_eq_true hy
  rw [Num.val_cons, Num.val_cons, Num.stp_eq, Num.stp_eq]
  show (((0 * 10 + (x.toNat - 48)) * 10 + (y.toNat - 48) : Nat) : Int) = _
  omega
/-- The part of a text at a place of three bytes, as the reference cuts it. -/
theorem part4 (s : ByteArray) (hs : 15 ≤ s.size) (k : Nat) (hk : k < 5) : ∃ (Q R : ByteArray) (c g c0 c1 : Int), Q.size = 2 ∧ R.size ≤ s.size ∧ Rd.pOk (Rd.tl s.data.toList) k = ((c == g) && Q.data.toList.all Num.dig) ∧ (Q.data.toList.all Num.dig = true → 48 ≤ c0 ∧ c0 ≤ 57 ∧ 48 ≤ c1 ∧ c1 ≤ 57 ∧ Rd.pV (Rd.tl s.data.toList) k = (c0 - 48) * 10 + (c1 - 48)) ∧
    (∀ W, Sem.run Tryd.prog (Instr.index 9 (.string s) (.int .i64 ((s.size : Int) - 15 + 3 * (k : Int)))) W = .ok (.int .u8 c) W) ∧
    (∀ W, Sem.run Tryd.prog (Instr.index 9 (.string ⟨#[45, 45, 84, 58, 58]⟩) (.int .i64 (k : Int))) W = .ok (.int .u8 g) W) ∧
    (∀ W, Sem.run Tryd.prog (Instr.slice 9 (.string s) (some (.int .i64 ((s.size : Int) - 15 + 3 * (k : Int) + 1))) (some (.int .i64 ((s.size : Int) - 15 + 3 * (k : Int) + 3))) none) W = .ok (.string Q) W) ∧
    (∀ W, Sem.run Tryd.prog (Instr.slice 9 (.string s) (some (.int .i64 ((s.size : Int) - 15 + 3 * (k : Int) + 1))) none none) W = .ok (.string R) W) ∧
    (∀ W, Sem.run Tryd.prog (Instr.index 9 (.string R) (.int .i64 0)) W = .ok (.int .u8 c0) W) ∧
    (∀ W, Sem.run Tryd.prog (Instr.index 9 (.string R) (.int .i64 1)) W = .ok (.int .u8 c1) W) := by
  obtain ⟨b, hb⟩ : ∃ b, b = s.size - 15 + 3 * k := ⟨_, rfl⟩
  have hbl : b + 3 ≤ s.size := by omega
  have e : s.data.toList.length = s.size := Num.rn_len s
  have e0 : (s.size : Int) - 15 + 3 * (k : Int) = (b : Int) := by omega
  have e1 : (b : Int) + 1 = ((b + 1 : Nat) : Int) := by omega
  have e3 : (b : Int) + 3 = ((b + 3 : Nat) : Int) := by omega
  have hg : k < (⟨#[45, 45, 84, 58, 58]⟩ : ByteArray).size := hk
  have zQ : (s.extract (b + 1) (b + 3)).size = 2 := by rw [ByteArray.size_extract]; omega
  have zR : (s.extract (b + 1) s.size).size = s.size - (b + 1) := by rw [ByteArray.size_extract]; omega
  have g0 : (s.extract (b + 1) s.size)[0]'(by omega) = s[b + 1] := by simp [ByteArray.getElem_extract]
  have g1 : (s.extract (b + 1) s.size)[1]'(by omega) = s[b + 2] := by simp [ByteArray.getElem_extract]
  have lQ : (s.extract (b + 1) (b + 3)).data.toList = [s[b + 1], s[b + 2]] := by
    rw [rf_list, List.drop_take]
    have d1 := Num.rn_drop s (b + 1) (by omega)
    have d2 := Num.rn_drop s (b + 2) (by omega)
    rw [d1, d2, show b + 3 - (b + 1) = 2 by omega]
    rfl
  have tlk : (Rd.tl s.data.toList).drop (3 * k + 1) = s[b + 1] :: s[b + 2] :: s.data.toList.drop (b + 3) := by
    unfold Rd.tl
    rw [List.drop_drop, e, show s.size - 15 + (3 * k + 1) = b + 1 by omega, Num.rn_drop s (b + 1) (by omega), Num.rn_drop s (b + 2) (by omega)]
  have tl0 : (Rd.tl s.data.toList).getD (3 * k) 0 = s[b] := by
    unfold Rd.tl
    rw [List.getD_eq_getElem?_getD, List.getElem?_drop, e, show s.size - 15 + 3 * k = b by omega, List.getElem?_eq_getElem (by omega)]
    rfl
  rw [e0, e1, e3]
  refine ⟨_, _, (s[b].toNat : Int), ((⟨#[45, 45, 84, 58, 58]⟩ : ByteArray)[k].toNat : Int), (s[b + 1].toNat : Int), (s[b + 2].toNat : Int), zQ, by omega, ?_, ?_, rf_ix s b (by omega), rf_ix _ k hg, rf_ab s (b + 1) (b + 3) (by omega) (by omega), rn_cut s (b + 1) (by omega), fun W => ?_, fun W => ?_⟩
  · unfold Rd.pOk
    have e2 : Rd.sg.getD k 0 = (⟨#[45, 45, 84, 58, 58]⟩ : ByteArray)[k] := by
      have h1 : (⟨#[45, 45, 84, 58, 58]⟩ : ByteArray)[k] = (⟨#[45, 45, 84, 58, 58]⟩ : ByteArray).data.toList[k]'hk := rfl
      rw [h1, List.getD_eq_getElem?_getD]
      unfold Rd.sg
      rw [List.getElem?_eq_getElem hk]; rfl
    have E1 : ∀ x y : UInt8, decide (x = y) = ((x.toNat : Int) == (y.toNat : Int)) := by
      intro x y
      by_cases h : x = y
      · subst h; simp
      · rw [decide_eq_false h]
        symm
        rw [beq_eq_false_iff_ne]
        intro h2
        exact h (UInt8.toNat_inj.1 (by omega))
    rw [tl0, e2, E1, tlk, lQ]
    rfl
  · intro h
    rw [lQ] at h
    simp only [List.all_cons, List.all_nil, Bool.and_true, Bool.and_eq_true] at h
    have h1 : 48 ≤ s[b + 1].toNat ∧ s[b + 1].toNat ≤ 57 := by have := h.1; unfold Num.dig at this; exact of_decide_eq_true this
    have h2 : 48 ≤ s[b + 2].toNat ∧ s[b + 2].toNat ≤ 57 := by have := h.2; unfold Num.dig at this; exact of_decide_eq_true this
    refine ⟨by omega, by omega, by omega, by omega, ?_⟩
    unfold Rd.pV
    rw [tlk]
    exact val_two _ _ h.1 h.2
  · have := rf_ix (s.extract (b + 1) s.size) 0 (by omega) W
    rw [g0] at this
    exact this
  · have := rf_ix (s.extract (b + 1) s.size) 1 (by omega) W
    rw [g1] at this
    exact this
/-- The parts behind the year that have been read. -/
def pvs (s : ByteArray) (k : Nat) : List Value := (List.range k).map fun j => .int .i64 (Rd.pV (Rd.tl s.data.toList) j)
theorem pvs_succ (s : ByteArray) (k : Nat) : pvs s (k + 1) = pvs s k ++ [.int .i64 (Rd.pV (Rd.tl s.data.toList) k)] := by unfold pvs; rw [List.range_succ, List.map_append]; rfl
theorem pvs_len (s : ByteArray) (k : Nat) : (pvs s k).length = k := by unfold pvs; simp
theorem info_int : (Tryd.prog.info? 3).map (fun i => (i.zero, i.size, i.bytes)) = some (some (.int .i64 0), 1, 8) := by kernel_rfl
theorem rf_parts {i0 : Option TypeInfo} {z : Value} {n b : Nat} (h : i0.map (fun i => (i.zero, i.size, i.bytes)) = some (some z, n, b)) : ∃ i, i0 = some i ∧ i.zero = some z ∧ i.size = n ∧ i.bytes = b := by
  cases i0 with
  | none => cases h
  | some i => simp at h; exact ⟨i, rfl, h.1, h.2.1, h.2.2⟩
end Go.Proofs.YtfcabofhlgmkjaaDoor

