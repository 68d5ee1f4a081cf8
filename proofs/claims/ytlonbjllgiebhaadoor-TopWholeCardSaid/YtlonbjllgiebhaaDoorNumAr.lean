/- The contracts of num.isText and num.Read. -/
import Derived.Test.YtlonbjllgiebhaaDoorNumA
import Derived.Test.YtlonbjllgiebhaaDoorShelfP
set_option linter.unusedVariables false
set_option linter.unusedSimpArgs false
namespace Go.Proofs.YtlonbjllgiebhaaDoor
open Go.RowKit
set_option maxHeartbeats 4000000 in
theorem isText_any (s : ByteArray) (w : World) (hs : s.size ≤ maxLen) :
    Calls Tryd.prog 14 #[.string s] w fun e w' => e = .returned (.bool (Num.isT s.data.toList)) ∧ ∃ k, w' = w.drewN k := by
  rw [show Num.isT s.data.toList = Num.numT (Lib.hasPrefix s.data.toList [45]) (Lib.trimPrefix s.data.toList [45]) from rfl]
  have hl : (Lib.trimPrefix s.data.toList [45]).length ≤ s.size := by
    unfold Lib.trimPrefix
    have : s.data.toList.length = s.size := by simp
    split
    · rw [List.length_drop]; omega
    · omega
  obtain ⟨b, hb⟩ : ∃ b, Lib.hasPrefix s.data.toList [45] = b := ⟨_, rfl⟩
  obtain ⟨l, hl2⟩ : ∃ l, Lib.trimPrefix s.data.toList [45] = l := ⟨_, rfl⟩
  rw [hl2] at hl
  rw [hb, hl2]
  have HB := Lib.hid hb; have HL := Lib.hid hl2; clear hb hl2
  obtain ⟨ds, hds⟩ : ∃ ds : ByteArray, ds = ⟨l.toArray⟩ := ⟨_, rfl⟩
  have hdl : l = ds.data.toList := by rw [hds]
  have hsz : ds.size ≤ s.size := by rw [hds]; show l.toArray.size ≤ s.size; rw [List.size_toArray]; exact hl
  have HD := Lib.hid hds; clear hds
  unfold maxLen at hs
  rw [hdl]
  have HDL := Lib.hid hdl; clear hdl hl
  rcases Nat.eq_zero_or_pos ds.size with hz | hz
  · have hnil : ds.data.toList = [] := by rw [← List.length_eq_zero_iff, dlen]; exact hz
    have ht : ds.toList = [] := by rw [ByteArray.toList_eq]; exact hnil
    have hte : ds.toList.isEmpty = true := by rw [ht]; rfl
    rw [hnil]
    have HZ := Lib.hid hz; clear hz hnil
    go_enter Tryd.func14, Tryd.ntmps14
    go_wp2_with fail
    refine (cutPrefix _ _ _).mono ?_; rintro e w1 ⟨rfl, rfl⟩
    rw [show (⟨#[45]⟩ : ByteArray).data.toList = [45] from rfl, HB.out, HL.out, ← HD.out]
    clear HB HL
    go_wp2_with fail
    go_ret
    exact ⟨rfl, 0, rfl⟩
  · obtain ⟨t1, t2⟩ := dne hz
    by_cases h48 : ds[0].toNat = 48
    · have h48' : ((ds[0].toNat : Int) == 48) = true := by rw [beq_iff_eq]; omega
      cases hbb : b
      · by_cases h1 : 1 < ds.size
        · have h1i : (1 : Int) < (ds.size : Int) := by omega
          have hno := front_no (b := false) hz h48 (.inr h1)
          have HN := Lib.hid hno; clear hno
          rw [hbb] at HB
          clear hbb
          have H48 := Lib.hid h48; clear h48
          go_enter Tryd.func14, Tryd.ntmps14
          go_wp2_with fail
          refine (cutPrefix _ _ _).mono ?_; rintro e w1 ⟨rfl, rfl⟩
          rw [show (⟨#[45]⟩ : ByteArray).data.toList = [45] from rfl, HB.out, HL.out, ← HD.out]
          clear HB HL
          go_wp2_with fail
          go_ret
          refine ⟨?_, 0, rfl⟩
          rw [HN.out]
          all_goals rfl
        · have h1i : (ds.size : Int) ≤ 1 := by omega
          have hf := front (b := false) hz (fun _ => ⟨rfl, by omega⟩)
          have HF := Lib.hid hf; clear hf
          rw [hbb] at HB
          clear hbb
          have H48 := Lib.hid h48; clear h48
          go_enter Tryd.func14, Tryd.ntmps14
          go_wp2_with fail
          refine (cutPrefix _ _ _).mono ?_; rintro e w1 ⟨rfl, rfl⟩
          rw [show (⟨#[45]⟩ : ByteArray).data.toList = [45] from rfl, HB.out, HL.out, ← HD.out]
          clear HB HL
          go_wp2_with fail
          go_loop [28] (fun i => ∃ k : Nat, k ≤ ds.size ∧ i = .int .i64 k ∧ (ds.data.toList.take k).all Num.dig = true) (fun i => ds.size - (intOf i).toNat)
          case atStart => exact ⟨0, Nat.zero_le _, rfl, rfl⟩
          case round =>
            obtain ⟨k, hk, rfl, hall⟩ := hrel
            have HA := Lib.hid hall; clear hall
            by_cases hlt : k < ds.size
            · by_cases h1 : (ds[k].toNat : Int) < 48
              · have hno : ds.data.toList.all Num.dig = false := not_all hlt (by omega)
                have HN := Lib.hid hno; clear hno
                go_wp2
                go_ret
                refine ⟨?_, 0, rfl⟩
                rw [HF.out, HN.out]
                all_goals rfl
              · by_cases h2 : 57 < (ds[k].toNat : Int)
                · have hno : ds.data.toList.all Num.dig = false := not_all hlt (by omega)
                  have HN := Lib.hid hno; clear hno
                  go_wp2
                  go_ret
                  refine ⟨?_, 0, rfl⟩
                  rw [HF.out, HN.out]
                  all_goals rfl
                · have hst : (ds.data.toList.take (k + 1)).all Num.dig = true := take_all hlt HA.out (by omega)
                  have HS := Lib.hid hst; clear hst
                  go_wp2
                  go_round
                  case rel => exact ⟨k + 1, by omega, by go_num, HS.out⟩
                  case measure => simp [intOf]; omega
            · have hend : ds.data.toList.all Num.dig = true := by
                have := HA.out
                rwa [List.take_of_length_le (by rw [dlen]; omega)] at this
              have HE := Lib.hid hend; clear hend
              go_wp2
              go_ret
              refine ⟨?_, 0, rfl⟩
              rw [HF.out, HE.out]
              all_goals rfl
      · have hno := front_no (b := true) hz h48 (.inl rfl)
        have HN := Lib.hid hno; clear hno
        rw [hbb] at HB
        clear hbb
        have H48 := Lib.hid h48; clear h48
        go_enter Tryd.func14, Tryd.ntmps14
        go_wp2_with fail
        refine (cutPrefix _ _ _).mono ?_; rintro e w1 ⟨rfl, rfl⟩
        rw [show (⟨#[45]⟩ : ByteArray).data.toList = [45] from rfl, HB.out, HL.out, ← HD.out]
        clear HB HL
        go_wp2_with fail
        go_ret
        refine ⟨?_, 0, rfl⟩
        rw [HN.out]
        all_goals rfl
    · have h48' : ((ds[0].toNat : Int) == 48) = false := by rw [beq_eq_false_iff_ne]; omega
      have hf := front (b := b) hz (fun h => absurd h h48)
      have HF := Lib.hid hf; clear hf
      clear h48
      go_enter Tryd.func14, Tryd.ntmps14
      go_wp2_with fail
      refine (cutPrefix _ _ _).mono ?_; rintro e w1 ⟨rfl, rfl⟩
      rw [show (⟨#[45]⟩ : ByteArray).data.toList = [45] from rfl, HB.out, HL.out, ← HD.out]
      clear HB HL
      go_wp2_with fail
      go_loop [28] (fun i => ∃ k : Nat, k ≤ ds.size ∧ i = .int .i64 k ∧ (ds.data.toList.take k).all Num.dig = true) (fun i => ds.size - (intOf i).toNat)
      case atStart => exact ⟨0, Nat.zero_le _, rfl, rfl⟩
      case round =>
        obtain ⟨k, hk, rfl, hall⟩ := hrel
        have HA := Lib.hid hall; clear hall
        by_cases hlt : k < ds.size
        · by_cases h1 : (ds[k].toNat : Int) < 48
          · have hno : ds.data.toList.all Num.dig = false := not_all hlt (by omega)
            have HN := Lib.hid hno; clear hno
            go_wp2
            go_ret
            refine ⟨?_, 0, rfl⟩
            rw [HF.out, HN.out]
            all_goals rfl
          · by_cases h2 : 57 < (ds[k].toNat : Int)
            · have hno : ds.data.toList.all Num.dig = false := not_all hlt (by omega)
              have HN := Lib.hid hno; clear hno
              go_wp2
              go_ret
              refine ⟨?_, 0, rfl⟩
              rw [HF.out, HN.out]
              all_goals rfl
            · have hst : (ds.data.toList.take (k + 1)).all Num.dig = true := take_all hlt HA.out (by omega)
              have HS := Lib.hid hst; clear hst
              go_wp2
              go_round
              case rel => exact ⟨k + 1, by omega, by go_num, HS.out⟩
              case measure => simp [intOf]; omega
        · have hend : ds.data.toList.all Num.dig = true := by
            have := HA.out
            rwa [List.take_of_length_le (by rw [dlen]; omega)] at this
          have HE := Lib.hid hend; clear hend
          go_wp2
          go_ret
          refine ⟨?_, 0, rfl⟩
          rw [HF.out, HE.out]
          all_goals rfl

set_option maxHeartbeats 1000000 in
theorem read_no (s : ByteArray) (w : World) (hs : s.size ≤ maxLen) (ht : Num.isT s.data.toList = false) :
    Calls Tryd.prog 9 #[.string s] w fun e w' => e = .returned (.tuple #[.int .i64 0, .int .i64 2]) ∧ Below w.heap.size w w' := by
  have HT := Lib.hid ht; clear ht
  go_enter Tryd.func9, Tryd.ntmps9
  go_wp2_with fail
  refine (isText_any _ _ hs).mono ?_; rintro e w1 ⟨rfl, k, rfl⟩
  rw [HT.out]
  go_wp2_with fail
  go_ret2
  exact ⟨rfl, below_draw _ _⟩
set_option maxHeartbeats 1000000 in
theorem read_ok (s : ByteArray) (v : Int) (w : World) (hs : s.size ≤ maxLen) (ht : Num.isT s.data.toList = true) (h : Lib.parseIntB 64 s.data.toList = .ok v) (hm : s.size ≤ 9223372036854775806) :
    Calls Tryd.prog 9 #[.string s] w fun e w' => e = .returned (.tuple #[.int .i64 v, .int .i64 0]) ∧ Below w.heap.size w w' := by
  have HT := Lib.hid ht; have H := Lib.hid h; have HM := Lib.hid hm; clear ht h hm
  go_enter Tryd.func9, Tryd.ntmps9
  go_wp2_with fail
  refine (isText_any _ _ hs).mono ?_; rintro e w1 ⟨rfl, k, rfl⟩
  rw [HT.out]
  go_wp2_with fail
  refine (Tryd.parseInt_ok _ HM.out v H.out _).mono ?_; rintro e w2 ⟨rfl, b2⟩
  have B2 := Lib.hid (below_step (below_draw w k) b2)
  clear b2
  go_wp2_with fail
  go_ret2
  exact ⟨rfl, B2.out⟩
set_option maxHeartbeats 1000000 in
theorem read_range (s : ByteArray) (w : World) (hs : s.size ≤ maxLen) (ht : Num.isT s.data.toList = true) (h : Lib.parseIntB 64 s.data.toList = .range) (hm : s.size ≤ 281474976710656) (tp : TypeId) (p : Value) (hvar : w.var? Tryd.prog "strconv.ErrRange" = some #[.iface tp p]) :
    Calls Tryd.prog 9 #[.string s] w fun e w' => e = .returned (.tuple #[.int .i64 0, .int .i64 1]) ∧ Below w.heap.size w w' := by
  have HT := Lib.hid ht; have H := Lib.hid h; have HM := Lib.hid hm; have HV := Lib.hid hvar; clear ht h hm hvar
  go_enter Tryd.func9, Tryd.ntmps9
  go_wp2_with fail
  refine (isText_any _ _ hs).mono ?_; rintro e w1 ⟨rfl, k, rfl⟩
  rw [HT.out]
  go_wp2_with fail
  refine (Tryd.parseInt_range _ HM.out H.out tp p _ (var_keep (below_draw w k) HV.out)).mono ?_; rintro e w2 ⟨⟨N, rfl⟩, b2⟩
  have B2 := Lib.hid (below_step (below_draw w k) b2)
  clear b2
  go_wp2_with fail
  go_ret2
  exact ⟨rfl, B2.out⟩
end Go.Proofs.YtlonbjllgiebhaaDoor
