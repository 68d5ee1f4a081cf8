/- Lines: the contracts of Join, on both sides. -/
import Derived.Test.YtfcabofhlgmkjaaDoorLnC
import Derived.Test.YtfcabofhlgmkjaaDoorBld
set_option linter.unusedVariables false
set_option linter.unusedSimpArgs false
namespace Go.Proofs.YtfcabofhlgmkjaaDoor
open Go.RowKit Go.Sort

namespace Ln
/-- Lines as a source. -/
def jn (l : List ByteArray) : List UInt8 := l.flatMap fun x => x.data.toList ++ [10]
theorem jn_next (l : List ByteArray) (k : Nat) (h : k < l.length) : jn (l.take (k + 1)) = jn (l.take k) ++ (l[k].data.toList ++ [10]) := by
  unfold jn
  rw [List.take_succ_eq_append_getElem h, List.flatMap_append]
  simp
theorem jn_le (l : List ByteArray) (k : Nat) : (jn (l.take k)).length ≤ (jn l).length := by
  have e : jn l = jn (l.take k) ++ jn (l.drop k) := by
    unfold jn
    rw [← List.flatMap_append, List.take_append_drop]
  rw [e, List.length_append]; omega
end Ln
set_option maxHeartbeats 4000000 in
theorem ljoin_any (v : Value) (l : List ByteArray) (w : World) (S : StS w v l) (hl : l.length ≤ 1000000) (hj : (Ln.jn l).length ≤ 900000) :
    Calls Tryd.prog 45 #[v] w fun e w' => e = .returned (.string ⟨(Ln.jn l).toArray⟩) ∧ Below w.heap.size w w' := by
  have T := S
  obtain ⟨A, c, rfl, -⟩ := T
  obtain ⟨N, hN⟩ : ∃ N, N = l.length := ⟨_, rfl⟩
  have HN := Lib.hid hN
  have HS : Hid (StS w (.slice A N c) l) := by rw [hN]; exact S
  rw [← hN]
  have hNb : N ≤ 1000000 := by omega
  have HJ := Lib.hid hj
  clear hN hl S hj
  have N1 := Lib.hid (show Below w.heap.size w (w.alloc (.cells #[.pointer none, .slice none 0 0] 101)) from (Below.refl _ _).alloc (Nat.le_refl _) _)
  have I1 := Lib.hid (IsB.fresh w)
  go_enter Tryd.func45, Tryd.ntmps45
  go_wp2_with fail
  go_loopw [8] (fun i wr => ∃ k : Nat, k ≤ N ∧ i = .int .i64 k ∧ Hid (IsB w.heap.size (Ln.jn (l.take k)) wr) ∧ Hid (Below w.heap.size w wr)) (fun i _ => N - (intOf i).toNat)
  case atStart => exact ⟨0, Nat.zero_le _, rfl, by simpa [Ln.jn] using I1, N1⟩
  case round =>
    obtain ⟨k, hk, rfl, hI, hB⟩ := hrel
    by_cases hlt : k < N
    · have hkl : k < l.length := by have := HN.out; omega
      obtain ⟨a, rfl, g⟩ := (HS.out.on hB.out).get k hkl
      have hnx := Lib.hid (Ln.jn_next l k hkl)
      have hle := Lib.hid (show (Ln.jn (l.take k)).length + l[k].size + 1 ≤ 900000 by
        have h1 := Ln.jn_le l (k + 1)
        have h2 := HJ.out
        rw [hnx.out] at h1
        simp only [List.length_append, List.length_cons, List.length_nil] at h1
        have : l[k].data.toList.length = l[k].size := Array.length_toList
        omega)
      generalize l[k] = x at g hnx hle
      go_wp2_with fail
      refine (bw_str w.heap.size _ x _ hI.out (by have := hle.out; omega) (by have := hle.out; omega)).mono ?_; rintro e w2 ⟨rfl, i2, b2⟩
      have I2 := Lib.hid i2; have B2 := Lib.hid (hB.out.trans b2)
      clear i2 b2
      go_wp2_with fail
      refine (bw_str w.heap.size _ ⟨#[10]⟩ _ I2.out (by have := hle.out; have : x.data.toList.length = x.size := Array.length_toList; rw [List.length_append]; omega) (by decide)).mono ?_; rintro e w3 ⟨rfl, i3, b3⟩
      have I3 := Lib.hid i3; have B3 := Lib.hid (B2.out.trans b3)
      clear i3 b3 I2 B2
      go_wp2_with fail
      go_roundw
      case rel => exact ⟨k + 1, by omega, by go_num, by have := I3.out; rw [List.append_assoc] at this; rw [hnx.out]; exact this, B3⟩
      case measure => simp [intOf]; omega
    · have hjk := Lib.hid (show Ln.jn (l.take k) = Ln.jn l by rw [List.take_of_length_le (by have := HN.out; omega)])
      go_wp2_with fail
      refine (b_string w.heap.size _ _ hI.out).mono ?_; rintro e w2 ⟨rfl, -, b2⟩
      go_wp2_with fail
      go_ret
      exact ⟨by rw [hjk.out]; rfl, hB.out.trans b2⟩
set_option maxHeartbeats 4000000 in
theorem rljoin_any (v : Value) (l : List ByteArray) (w : World) (S : StS w v l) (hl : l.length ≤ 1000000) (hj : (Ln.jn l).length ≤ 900000) :
    Calls Tryd.prog 46 #[v] w fun e w' => e = .returned (.string ⟨(Ln.jn l).toArray⟩) ∧ Below w.heap.size w w' := by
  have T := S
  obtain ⟨A, c, rfl, -⟩ := T
  obtain ⟨N, hN⟩ : ∃ N, N = l.length := ⟨_, rfl⟩
  have HN := Lib.hid hN
  have HS : Hid (StS w (.slice A N c) l) := by rw [hN]; exact S
  rw [← hN]
  have hNb : N ≤ 1000000 := by omega
  have HJ := Lib.hid hj
  clear hN hl S hj
  go_enter Tryd.func46, Tryd.ntmps46
  go_wp2_with fail
  go_loopw [3, 8] (fun s i wr => ∃ k : Nat, k ≤ N ∧ i = .int .i64 k ∧ s = .string ⟨(Ln.jn (l.take k)).toArray⟩ ∧ wr = w) (fun _ i _ => N - (intOf i).toNat)
  case atStart => exact ⟨0, Nat.zero_le _, rfl, rfl, rfl⟩
  case round =>
    obtain ⟨k, hk, rfl, rfl, hw⟩ := hrel
    obtain rfl : w = wr := hw.symm
    by_cases hlt : k < N
    · have hkl : k < l.length := by have := HN.out; omega
      obtain ⟨a, rfl, g⟩ := HS.out.get k hkl
      have hnx := Lib.hid (Ln.jn_next l k hkl)
      have hle : (Ln.jn (l.take k)).length + l[k].size + 1 ≤ 900000 := by
        have h1 := Ln.jn_le l (k + 1)
        have h2 := HJ.out
        rw [hnx.out] at h1
        simp only [List.length_append, List.length_cons, List.length_nil] at h1
        have : l[k].data.toList.length = l[k].size := Array.length_toList
        omega
      generalize l[k] = x at g hnx hle
      obtain ⟨D, hD, hDz⟩ : ∃ D : ByteArray, D = ⟨(Ln.jn (l.take k)).toArray⟩ ∧ D.size = (Ln.jn (l.take k)).length := ⟨_, rfl, by show (Ln.jn (l.take k)).toArray.size = _; rw [List.size_toArray]⟩
      rw [← hD]
      have HD := Lib.hid hD; clear hD
      have e1 : (x ++ ⟨#[10]⟩ : ByteArray).size = x.size + 1 := by rw [ByteArray.size_append]; rfl
      have z1 : D.size + x.size + 1 ≤ 900000 := by omega
      go_wp2_with fail
      go_roundw
      case rel => exact ⟨k + 1, by omega, by go_num, by
        rw [hnx.out, HD.out]
        congr 1, by first | rfl | trivial⟩
      case measure => simp [intOf]; omega
    · have hjk := Lib.hid (show Ln.jn (l.take k) = Ln.jn l by rw [List.take_of_length_le (by have := HN.out; omega)])
      go_wp2_with fail
      go_ret
      exact ⟨by rw [hjk.out]; rfl, Below.refl _ _⟩
end Go.Proofs.YtfcabofhlgmkjaaDoor

