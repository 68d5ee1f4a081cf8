/- The contract of stamp.writeDigits. -/
import Derived.Test.YtfcabofhlgmkjaaDoorBld
set_option linter.unusedVariables false
set_option linter.unusedSimpArgs false
namespace Go.Proofs.YtfcabofhlgmkjaaDoor
open Go.RowKit

set_option maxHeartbeats 4000000 in
set_option maxRecDepth 100000 in
theorem wdig (b : Nat) (l : List UInt8) (n : Int) (k : Nat) (w : World) (h : IsB b l w) (hl : l.length ≤ 1000) (hk : k ≤ 4) (n0 : -9223372036854775808 ≤ n) (n1 : n ≤ 9223372036854775807)
    (htab : Lib.TabIs Tryd.prog w "internal/strconv.uint64pow10" .u64 Lib.pow10Tab) :
    Calls Tryd.prog 81 #[.pointer (some ⟨b, 0, none⟩), .int .i64 n, .int .i64 k] w fun e w' => e = .returned (.tuple #[]) ∧ (IsB b (l ++ Tx.dg k n) w' ∧ Below b w w') := by
  have tl : (Lib.itoa n).length ≤ 21 := Lib.itoa_length_le n n0 n1
  obtain ⟨ds, hds⟩ : ∃ ds : ByteArray, ds = ⟨(Lib.itoa n).toArray⟩ := ⟨_, rfl⟩
  have hsz : ds.size = (Lib.itoa n).length := by rw [hds]; show (Lib.itoa n).toArray.size = _; rw [List.size_toArray]
  have E := Lib.hid (show Tx.dg k n = List.replicate (k - ds.size) 48 ++ ds.data.toList by unfold Tx.dg; rw [hsz, hds])
  have HD := Lib.hid hds
  have HT := Lib.hid htab; clear htab hds
  have I0 := Lib.hid h
  have hlt := h.lt
  have szb : ds.size ≤ 21 := by omega
  clear h hsz tl
  go_enter Tryd.func81, Tryd.ntmps81
  go_wp2_with fail
  refine (text_any n _ n0 n1 HT.out).mono ?_; rintro e w1 ⟨rfl, b1⟩
  rw [← HD.out]
  have I1 := Lib.hid (I0.out.on b1)
  have B1 := Lib.hid (b1.mono (Nat.le_of_lt hlt))
  have hlt1 : b < w1.heap.size := Nat.lt_of_lt_of_le hlt b1.size
  clear I0 b1 HT
  go_wp2_with fail
  go_loopw [13] (fun i wr => ∃ j : Nat, i = .int .i64 j ∧ j ≤ k - ds.size ∧ IsB b (l ++ List.replicate j 48) wr ∧ Below b w wr) (fun i _ => (k - ds.size) - (intOf i).toNat)
  case atStart => exact ⟨0, rfl, Nat.zero_le _, by simpa using I1.out, B1.out⟩
  case round =>
    obtain ⟨j, rfl, hj, hI, hB⟩ := hrel
    have I2 := Lib.hid hI; have B2 := Lib.hid hB
    have hl2 : (l ++ List.replicate j (48 : UInt8)).length ≤ 1000000 := by simp; omega
    have HL2 := Lib.hid hl2
    clear hI hB hl2
    by_cases hlt2 : (j : Int) < (k : Int) - (ds.size : Int)
    · go_wp2_with fail
      refine (bw_byte b _ 48 _ I2.out HL2.out).mono ?_; rintro e w2 ⟨rfl, i3, b3⟩
      have I3 := Lib.hid i3; have B3 := Lib.hid (B2.out.trans b3)
      clear i3 b3 I2 B2
      go_wp2_with fail
      go_roundw
      case rel =>
        refine ⟨j + 1, by go_num, by omega, ?_, B3.out⟩
        have := I3.out
        rwa [List.append_assoc, ← List.replicate_succ'] at this
      case measure => simp [intOf]; omega
    · have ej : j = k - ds.size := by omega
      go_wp2_with fail
      refine (bw_str b _ ds _ I2.out HL2.out (by omega)).mono ?_; rintro e w2 ⟨rfl, i3, b3⟩
      have I3 := Lib.hid i3; have B3 := Lib.hid (B2.out.trans b3)
      clear i3 b3 I2 B2
      go_wp2_with fail
      go_end0
      refine ⟨rfl, ?_, B3.out⟩
      have := I3.out
      rw [E.out]
      rwa [List.append_assoc, ej] at this
end Go.Proofs.YtfcabofhlgmkjaaDoor
