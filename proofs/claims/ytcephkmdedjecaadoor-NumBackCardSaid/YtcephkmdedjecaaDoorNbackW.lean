/- The walk of NumBack: whatever number and text, the law answers true; nothing old turns. -/
import Derived.Test.YtcephkmdedjecaaDoorLiv1
import Derived.Test.YtcephkmdedjecaaDoorNumN
set_option linter.unusedVariables false
set_option linter.unusedSimpArgs false
namespace Go.Proofs.YtcephkmdedjecaaDoor
open Go.RowKit

theorem app_list (a b : ByteArray) : (a ++ b).data.toList = a.data.toList ++ b.data.toList := by simp
theorem app_size (a b : ByteArray) : (a ++ b).size = a.size + b.size := by simp
theorem bytes_of {l : List UInt8} {s : ByteArray} (h : l = s.data.toList) : (⟨l.toArray⟩ : ByteArray) = s := by
  rw [h]

set_option maxHeartbeats 4000000 in
theorem back_long (n : Int) (s : ByteArray) (w : World) (tp : TypeId) (p : Value) (L : Lv w w tp p) (n0 : -9223372036854775808 ≤ n) (n1 : n ≤ 9223372036854775807) (hs : s.size ≤ maxLen) (hl : 1000 < s.size) :
    Calls Tryd.prog 4 #[.int .i64 n, .string s] w fun e w' => e = .returned (.bool true) ∧ Below w.heap.size w w' := by
  have hl' : (1000 : Int) < (s.size : Int) := by omega
  have L0 := Lib.hid L; clear L
  go_enter Tryd.func4, Tryd.ntmps4
  go_wp2_with fail
  refine (lives1 _ tp p L0.out).mono ?_; rintro e w1 ⟨rfl, b1⟩
  have L1 := Lib.hid (L0.out.keep b1)
  clear L0 b1
  go_wp2_with fail
  go_ret
  exact ⟨rfl, L1.out.bel⟩
set_option maxHeartbeats 4000000 in
theorem back_no (n : Int) (s : ByteArray) (w : World) (tp : TypeId) (p : Value) (L : Lv w w tp p) (n0 : -9223372036854775808 ≤ n) (n1 : n ≤ 9223372036854775807) (hs : s.size ≤ maxLen) (ht : Num.isT s.data.toList = false) (hl : s.size ≤ 1000) :
    Calls Tryd.prog 4 #[.int .i64 n, .string s] w fun e w' => e = .returned (.bool true) ∧ Below w.heap.size w w' := by
  have hl' : (s.size : Int) ≤ 1000 := by omega
  have HT := Lib.hid ht; clear ht
  have L0 := Lib.hid L; clear L
  have tl : (Lib.itoa n).length ≤ 21 := Lib.itoa_length_le n n0 n1
  have SZ : RowKit.Hid ((⟨(Lib.itoa n).toArray⟩ : ByteArray).size ≤ maxLen) := by show (Lib.itoa n).toArray.size ≤ maxLen; rw [List.size_toArray]; unfold maxLen; omega
  have SZ6 : RowKit.Hid ((⟨(Lib.itoa n).toArray⟩ : ByteArray).size ≤ 9223372036854775806) := by show (Lib.itoa n).toArray.size ≤ _; rw [List.size_toArray]; omega
  have T0 : RowKit.Hid (Num.isT (⟨(Lib.itoa n).toArray⟩ : ByteArray).data.toList = true) := Num.isT_itoa n
  have T1 : RowKit.Hid (Lib.parseIntB 64 (⟨(Lib.itoa n).toArray⟩ : ByteArray).data.toList = .ok n) := Num.parse_itoa n n0 n1
  have SA : RowKit.Hid ((({ data := #[48] } : ByteArray) ++ { data := (Lib.itoa n).toArray }).size ≤ maxLen) := by
    rw [app_size]; show 1 + (Lib.itoa n).toArray.size ≤ maxLen; rw [List.size_toArray]; unfold maxLen; omega
  have TA : RowKit.Hid (Num.isT (({ data := #[48] } : ByteArray) ++ { data := (Lib.itoa n).toArray }).data.toList = false) := by
    rw [app_list]; exact Num.isT_nought (Num.itoa_ne n)
  have SB : RowKit.Hid ((({ data := #[45, 45] } : ByteArray) ++ { data := (Lib.itoa n).toArray }).size ≤ maxLen) := by
    rw [app_size]; show 2 + (Lib.itoa n).toArray.size ≤ maxLen; rw [List.size_toArray]; unfold maxLen; omega
  have TB : RowKit.Hid (Num.isT (({ data := #[45, 45] } : ByteArray) ++ { data := (Lib.itoa n).toArray }).data.toList = false) := by
    rw [app_list]; exact Num.isT_minus _
  go_enter Tryd.func4, Tryd.ntmps4
  go_wp2_with fail
  refine (lives1 _ tp p L0.out).mono ?_; rintro e w1 ⟨rfl, b1⟩
  have L1 := Lib.hid (L0.out.keep b1)
  clear L0 b1
  go_wp2_with fail
  refine (text_any n _ n0 n1 L1.out.tab).mono ?_; rintro e w2 ⟨rfl, b2⟩
  have L2 := Lib.hid (L1.out.keep b2)
  clear L1 b2
  go_wp2_with fail
  refine (read_ok _ n _ (by exact SZ.out) (by exact T0.out) (by exact T1.out) (by exact SZ6.out)).mono ?_; rintro e w3 ⟨rfl, b3⟩
  have L3 := Lib.hid (L2.out.keep b3)
  clear L2 b3
  go_wp2_with fail
  refine (read_no _ _ (by exact SA.out) (by exact TA.out)).mono ?_; rintro e w4 ⟨rfl, b4⟩
  have L4 := Lib.hid (L3.out.keep b4)
  clear L3 b4
  go_wp2_with fail
  refine (read_no _ _ (by exact SB.out) (by exact TB.out)).mono ?_; rintro e w5 ⟨rfl, b5⟩
  have L5 := Lib.hid (L4.out.keep b5)
  clear L4 b5
  go_wp2_with fail
  refine (read_no _ _ hs HT.out).mono ?_; rintro e w6 ⟨rfl, b6⟩
  have L6 := Lib.hid (L5.out.keep b6)
  clear L5 b6
  go_wp2_with fail
  go_ret
  exact ⟨rfl, L6.out.bel⟩
set_option maxHeartbeats 4000000 in
theorem back_rng (n : Int) (s : ByteArray) (w : World) (tp : TypeId) (p : Value) (L : Lv w w tp p) (n0 : -9223372036854775808 ≤ n) (n1 : n ≤ 9223372036854775807) (hs : s.size ≤ maxLen) (ht : Num.isT s.data.toList = true) (hr : Lib.parseIntB 64 s.data.toList = .range) (hl : s.size ≤ 1000) :
    Calls Tryd.prog 4 #[.int .i64 n, .string s] w fun e w' => e = .returned (.bool true) ∧ Below w.heap.size w w' := by
  have hl' : (s.size : Int) ≤ 1000 := by omega
  have HT := Lib.hid ht; clear ht
  have HR := Lib.hid hr; clear hr
  have L0 := Lib.hid L; clear L
  have tl : (Lib.itoa n).length ≤ 21 := Lib.itoa_length_le n n0 n1
  have SZ : RowKit.Hid ((⟨(Lib.itoa n).toArray⟩ : ByteArray).size ≤ maxLen) := by show (Lib.itoa n).toArray.size ≤ maxLen; rw [List.size_toArray]; unfold maxLen; omega
  have SZ6 : RowKit.Hid ((⟨(Lib.itoa n).toArray⟩ : ByteArray).size ≤ 9223372036854775806) := by show (Lib.itoa n).toArray.size ≤ _; rw [List.size_toArray]; omega
  have T0 : RowKit.Hid (Num.isT (⟨(Lib.itoa n).toArray⟩ : ByteArray).data.toList = true) := Num.isT_itoa n
  have T1 : RowKit.Hid (Lib.parseIntB 64 (⟨(Lib.itoa n).toArray⟩ : ByteArray).data.toList = .ok n) := Num.parse_itoa n n0 n1
  have SA : RowKit.Hid ((({ data := #[48] } : ByteArray) ++ { data := (Lib.itoa n).toArray }).size ≤ maxLen) := by
    rw [app_size]; show 1 + (Lib.itoa n).toArray.size ≤ maxLen; rw [List.size_toArray]; unfold maxLen; omega
  have TA : RowKit.Hid (Num.isT (({ data := #[48] } : ByteArray) ++ { data := (Lib.itoa n).toArray }).data.toList = false) := by
    rw [app_list]; exact Num.isT_nought (Num.itoa_ne n)
  have SB : RowKit.Hid ((({ data := #[45, 45] } : ByteArray) ++ { data := (Lib.itoa n).toArray }).size ≤ maxLen) := by
    rw [app_size]; show 2 + (Lib.itoa n).toArray.size ≤ maxLen; rw [List.size_toArray]; unfold maxLen; omega
  have TB : RowKit.Hid (Num.isT (({ data := #[45, 45] } : ByteArray) ++ { data := (Lib.itoa n).toArray }).data.toList = false) := by
    rw [app_list]; exact Num.isT_minus _
  go_enter Tryd.func4, Tryd.ntmps4
  go_wp2_with fail
  refine (lives1 _ tp p L0.out).mono ?_; rintro e w1 ⟨rfl, b1⟩
  have L1 := Lib.hid (L0.out.keep b1)
  clear L0 b1
  go_wp2_with fail
  refine (text_any n _ n0 n1 L1.out.tab).mono ?_; rintro e w2 ⟨rfl, b2⟩
  have L2 := Lib.hid (L1.out.keep b2)
  clear L1 b2
  go_wp2_with fail
  refine (read_ok _ n _ (by exact SZ.out) (by exact T0.out) (by exact T1.out) (by exact SZ6.out)).mono ?_; rintro e w3 ⟨rfl, b3⟩
  have L3 := Lib.hid (L2.out.keep b3)
  clear L2 b3
  go_wp2_with fail
  refine (read_no _ _ (by exact SA.out) (by exact TA.out)).mono ?_; rintro e w4 ⟨rfl, b4⟩
  have L4 := Lib.hid (L3.out.keep b4)
  clear L3 b4
  go_wp2_with fail
  refine (read_no _ _ (by exact SB.out) (by exact TB.out)).mono ?_; rintro e w5 ⟨rfl, b5⟩
  have L5 := Lib.hid (L4.out.keep b5)
  clear L4 b5
  go_wp2_with fail
  refine (read_range _ _ hs HT.out HR.out (by omega) tp p L5.out.rng).mono ?_; rintro e w6 ⟨rfl, b6⟩
  have L6 := Lib.hid (L5.out.keep b6)
  clear L5 b6
  go_wp2_with fail
  go_ret
  exact ⟨rfl, L6.out.bel⟩
set_option maxHeartbeats 4000000 in
theorem back_val (n x : Int) (s : ByteArray) (w : World) (tp : TypeId) (p : Value) (L : Lv w w tp p) (n0 : -9223372036854775808 ≤ n) (n1 : n ≤ 9223372036854775807) (hs : s.size ≤ maxLen) (ht : Num.isT s.data.toList = true) (hr : Lib.parseIntB 64 s.data.toList = .ok x) (hx : Lib.itoa x = s.data.toList) (x0 : -9223372036854775808 ≤ x) (x1 : x ≤ 9223372036854775807) (hl : s.size ≤ 1000) :
    Calls Tryd.prog 4 #[.int .i64 n, .string s] w fun e w' => e = .returned (.bool true) ∧ Below w.heap.size w w' := by
  have hl' : (s.size : Int) ≤ 1000 := by omega
  have HT := Lib.hid ht; clear ht
  have HR := Lib.hid hr; clear hr
  have HX := Lib.hid (bytes_of hx); clear hx
  have L0 := Lib.hid L; clear L
  have tl : (Lib.itoa n).length ≤ 21 := Lib.itoa_length_le n n0 n1
  have SZ : RowKit.Hid ((⟨(Lib.itoa n).toArray⟩ : ByteArray).size ≤ maxLen) := by show (Lib.itoa n).toArray.size ≤ maxLen; rw [List.size_toArray]; unfold maxLen; omega
  have SZ6 : RowKit.Hid ((⟨(Lib.itoa n).toArray⟩ : ByteArray).size ≤ 9223372036854775806) := by show (Lib.itoa n).toArray.size ≤ _; rw [List.size_toArray]; omega
  have T0 : RowKit.Hid (Num.isT (⟨(Lib.itoa n).toArray⟩ : ByteArray).data.toList = true) := Num.isT_itoa n
  have T1 : RowKit.Hid (Lib.parseIntB 64 (⟨(Lib.itoa n).toArray⟩ : ByteArray).data.toList = .ok n) := Num.parse_itoa n n0 n1
  have SA : RowKit.Hid ((({ data := #[48] } : ByteArray) ++ { data := (Lib.itoa n).toArray }).size ≤ maxLen) := by
    rw [app_size]; show 1 + (Lib.itoa n).toArray.size ≤ maxLen; rw [List.size_toArray]; unfold maxLen; omega
  have TA : RowKit.Hid (Num.isT (({ data := #[48] } : ByteArray) ++ { data := (Lib.itoa n).toArray }).data.toList = false) := by
    rw [app_list]; exact Num.isT_nought (Num.itoa_ne n)
  have SB : RowKit.Hid ((({ data := #[45, 45] } : ByteArray) ++ { data := (Lib.itoa n).toArray }).size ≤ maxLen) := by
    rw [app_size]; show 2 + (Lib.itoa n).toArray.size ≤ maxLen; rw [List.size_toArray]; unfold maxLen; omega
  have TB : RowKit.Hid (Num.isT (({ data := #[45, 45] } : ByteArray) ++ { data := (Lib.itoa n).toArray }).data.toList = false) := by
    rw [app_list]; exact Num.isT_minus _
  go_enter Tryd.func4, Tryd.ntmps4
  go_wp2_with fail
  refine (lives1 _ tp p L0.out).mono ?_; rintro e w1 ⟨rfl, b1⟩
  have L1 := Lib.hid (L0.out.keep b1)
  clear L0 b1
  go_wp2_with fail
  refine (text_any n _ n0 n1 L1.out.tab).mono ?_; rintro e w2 ⟨rfl, b2⟩
  have L2 := Lib.hid (L1.out.keep b2)
  clear L1 b2
  go_wp2_with fail
  refine (read_ok _ n _ (by exact SZ.out) (by exact T0.out) (by exact T1.out) (by exact SZ6.out)).mono ?_; rintro e w3 ⟨rfl, b3⟩
  have L3 := Lib.hid (L2.out.keep b3)
  clear L2 b3
  go_wp2_with fail
  refine (read_no _ _ (by exact SA.out) (by exact TA.out)).mono ?_; rintro e w4 ⟨rfl, b4⟩
  have L4 := Lib.hid (L3.out.keep b4)
  clear L3 b4
  go_wp2_with fail
  refine (read_no _ _ (by exact SB.out) (by exact TB.out)).mono ?_; rintro e w5 ⟨rfl, b5⟩
  have L5 := Lib.hid (L4.out.keep b5)
  clear L4 b5
  go_wp2_with fail
  refine (read_ok _ x _ hs HT.out HR.out (by omega)).mono ?_; rintro e w6 ⟨rfl, b6⟩
  have L6 := Lib.hid (L5.out.keep b6)
  clear L5 b6
  go_wp2_with fail
  refine (text_any x _ x0 x1 L6.out.tab).mono ?_; rintro e w7 ⟨rfl, b7⟩
  have L7 := Lib.hid (L6.out.keep b7)
  clear L6 b7
  rw [HX.out]
  go_wp2_with fail
  go_ret
  exact ⟨rfl, L7.out.bel⟩
theorem nback_walk (n : Int) (s : ByteArray) (w : World) (tp : TypeId) (p : Value) (L : Lv w w tp p) (n0 : -9223372036854775808 ≤ n) (n1 : n ≤ 9223372036854775807) (hs : s.size ≤ maxLen) :
    Calls Tryd.prog 4 #[.int .i64 n, .string s] w fun e w' => e = .returned (.bool true) ∧ Below w.heap.size w w' := by
  by_cases hl : s.size ≤ 1000
  · cases ht : Num.isT s.data.toList
    · exact back_no n s w tp p L n0 n1 hs ht hl
    · rcases Num.isT_read ht with hr | ⟨x, hr, hx, x0, x1⟩
      · exact back_rng n s w tp p L n0 n1 hs ht hr hl
      · exact back_val n x s w tp p L n0 n1 hs ht hr hx x0 x1 hl
  · exact back_long n s w tp p L n0 n1 hs (by omega)
end Go.Proofs.YtcephkmdedjecaaDoor
