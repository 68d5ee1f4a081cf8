/- The contracts of num.Text, num.isText and num.Read. -/
import Derived.Test.YtafnnnbefabofaaDoorBase
import Derived.Test.YtafnnnbefabofaaDoorShelf
import Derived.Test.YtafnnnbefabofaaDoorNumM
set_option linter.unusedVariables false
set_option linter.unusedSimpArgs false
namespace Go.Proofs.YtafnnnbefabofaaDoor
open Go.RowKit

theorem cutPrefix (s p : ByteArray) (w : World) :
    Calls Tryd.prog 120 #[.string s, .string p] w fun e w' => e = .returned (.tuple #[.string ⟨(Lib.trimPrefix s.data.toList p.data.toList).toArray⟩, .bool (Lib.hasPrefix s.data.toList p.data.toList)]) ∧ w = w' :=
  (Any.strings_CutPrefix Tryd.lays103 s p w).mono fun _ _ ⟨h, e⟩ => ⟨h, e.symm⟩

set_option maxHeartbeats 400000 in
theorem text_any (n : Int) (w : World) (h0 : -9223372036854775808 ≤ n) (h1 : n ≤ 9223372036854775807) (htab : Lib.TabIs Tryd.prog w "internal/strconv.uint64pow10" .u64 Lib.pow10Tab) :
    Calls Tryd.prog 33 #[.int .i64 n] w fun e w' => e = .returned (.string ⟨(Lib.itoa n).toArray⟩) ∧ Below w.heap.size w w' := by
  have HT := Lib.hid htab; clear htab
  go_enter Tryd.func33, Tryd.ntmps33
  go_wp2_with fail
  refine (Tryd.formatInt n h0 h1 _ HT.out).mono ?_; rintro e w1 ⟨rfl, b1⟩
  go_wp2_with fail
  go_ret
  exact ⟨rfl, b1⟩

theorem dlen (ds : ByteArray) : ds.data.toList.length = ds.size := Array.length_toList
theorem dget {ds : ByteArray} {k : Nat} (h : k < ds.size) : ds.data.toList[k]'(by rw [dlen]; exact h) = ds[k] := rfl
theorem dhead {ds : ByteArray} (h : 0 < ds.size) : ∃ r, ds.data.toList = ds[0] :: r ∧ (r = [] ↔ ds.size = 1) := by
  have hl := dlen ds
  cases hd : ds.data.toList with
  | nil => rw [hd] at hl; simp at hl; omega
  | cons c r =>
    have e : ds[0] = c := by rw [← dget h]; simp [hd]
    refine ⟨r, by rw [e], ?_⟩
    rw [hd] at hl
    simp at hl
    rw [← List.length_eq_zero_iff]; omega
theorem dne {ds : ByteArray} (h : 0 < ds.size) : ds.toList.isEmpty = false ∧ ¬ ds.toList = [] := by
  have : ds.toList ≠ [] := by
    intro e
    have hl := dlen ds
    rw [← ByteArray.toList_eq] at hl
    rw [e] at hl; simp at hl; omega
  exact ⟨by simpa using this, this⟩
theorem not_all {ds : ByteArray} {k : Nat} (h : k < ds.size) (hd : ¬ (48 ≤ ds[k].toNat ∧ ds[k].toNat ≤ 57)) : ds.data.toList.all Num.dig = false := by
  rw [Bool.eq_false_iff]
  intro ha
  have := List.all_eq_true.1 ha ds[k] (by rw [← dget h]; exact List.getElem_mem _)
  simp only [Num.dig, decide_eq_true_eq] at this
  exact hd this
theorem take_all {ds : ByteArray} {k : Nat} (h : k < ds.size) (ha : (ds.data.toList.take k).all Num.dig = true) (hd : 48 ≤ ds[k].toNat ∧ ds[k].toNat ≤ 57) : (ds.data.toList.take (k + 1)).all Num.dig = true := by
  rw [List.take_succ_eq_append_getElem (by rw [dlen]; exact h), List.all_append, ha, dget h]
  simp [Num.dig, hd]
theorem front {ds : ByteArray} {b : Bool} (h : 0 < ds.size) (hf : ds[0].toNat = 48 → b = false ∧ ds.size = 1) : Num.numT b ds.data.toList = ds.data.toList.all Num.dig := by
  obtain ⟨r, e, hr⟩ := dhead h
  rw [e]
  unfold Num.numT
  by_cases h48 : ds[0].toNat = 48
  · obtain ⟨hb, h1⟩ := hf h48
    rw [hb, hr.2 h1]; simp
  · have : (ds[0] == 48) = false := by rw [beq_eq_false_iff_ne]; intro e2; rw [e2] at h48; exact h48 rfl
    show (!(ds[0] == 48 && (b || !r.isEmpty)) && (ds[0] :: r).all Num.dig) = _
    rw [this]; simp
theorem front_no {ds : ByteArray} {b : Bool} (h : 0 < ds.size) (h48 : ds[0].toNat = 48) (hf : b = true ∨ 1 < ds.size) : Num.numT b ds.data.toList = false := by
  obtain ⟨r, e, hr⟩ := dhead h
  rw [e]
  unfold Num.numT
  have : (ds[0] == 48) = true := by rw [beq_iff_eq]; exact UInt8.toNat_inj.1 h48
  show (!(ds[0] == 48 && (b || !r.isEmpty)) && (ds[0] :: r).all Num.dig) = _
  rw [this]
  rcases hf with hb | hz
  · rw [hb]; simp
  · have : r ≠ [] := fun e2 => by have := hr.1 e2; omega
    have : r.isEmpty = false := by simpa using this
    rw [this]; simp

set_option maxHeartbeats 4000000 in
theorem isText_any (s : ByteArray) (w : World) (hs : s.size ≤ maxLen) :
    Calls Tryd.prog 96 #[.string s] w fun e w' => e = .returned (.bool (Num.isT s.data.toList)) ∧ ∃ k, w' = w.drewN k := by
  rw [show Num.isT s.data.toList = Num.numT (Lib.hasPrefix s.data.toList [45]) (Lib.trimPrefix s.data.toList [45]) from rfl]
  have hl : (Lib.trimPrefix s.data.toList [45]).length ≤ s.size := by
    unfold Lib.trimPrefix
    have : s.data.toList.length = s.size := by simp
    split
    · rw [List.length_drop]; omega
    · omega
  obtain ⟨b, hb⟩ : ∃ b, Lib.hasPrefix s.data.toList [45] = b := ⟨_, rfl⟩
  obtain ⟨l, hl2⟩ : ∃ l, Lib.trimPrefix s.data.toList [45] = l := ⟨_, rfl⟩
  rw [hl2] at hl
  rw [hb, hl2]
  have HB := Lib.hid hb; have HL := Lib.hid hl2; clear hb hl2
  obtain ⟨ds, hds⟩ : ∃ ds : ByteArray, ds = ⟨l.toArray⟩ := ⟨_, rfl⟩
  have hdl : l = ds.data.toList := by rw [hds]
  have hsz : ds.size ≤ s.size := by rw [hds]; show l.toArray.size ≤ s.size; rw [List.size_toArray]; exact hl
  have HD := Lib.hid hds; clear hds
  unfold maxLen at hs
  rw [hdl]
  have HDL := Lib.hid hdl; clear hdl hl
  rcases Nat.eq_zero_or_pos ds.size with hz | hz
  · have hnil : ds.data.toList = [] := by rw [← List.length_eq_zero_iff, dlen]; exact hz
    have ht : ds.toList = [] := by rw [ByteArray.toList_eq]; exact hnil
    have hte : ds.toList.isEmpty = true := by rw [ht]; rfl
    rw [hnil]
    have HZ := Lib.hid hz; clear hz hnil
    go_enter Tryd.func96, Tryd.ntmps96
    go_wp2_with fail
    refine (cutPrefix _ _ _).mono ?_; rintro e w1 ⟨rfl, rfl⟩
    rw [show (⟨#[45]⟩ : ByteArray).data.toList = [45] from rfl, HB.out, HL.out, ← HD.out]
    clear HB HL
    go_wp2_with fail
    go_ret
    exact ⟨rfl, 0, rfl⟩
  · obtain ⟨t1, t2⟩ := dne hz
    by_cases h48 : ds[0].toNat = 48
    · have h48' : ((ds[0].toNat : Int) == 48) = true := by rw [beq_iff_eq]; omega
      cases hbb : b
      · by_cases h1 : 1 < ds.size
        · have h1i : (1 : Int) < (ds.size : Int) := by omega
          have hno := front_no (b := false) hz h48 (.inr h1)
          have HN := Lib.hid hno; clear hno
          rw [hbb] at HB
          clear hbb
          have H48 := Lib.hid h48; clear h48
          go_enter Tryd.func96, Tryd.ntmps96
          go_wp2_with fail
          refine (cutPrefix _ _ _).mono ?_; rintro e w1 ⟨rfl, rfl⟩
          rw [show (⟨#[45]⟩ : ByteArray).data.toList = [45] from rfl, HB.out, HL.out, ← HD.out]
          clear HB HL
          go_wp2_with fail
          go_ret
          refine ⟨?_, 0, rfl⟩
          rw [HN.out]
          all_goals rfl
        · have h1i : (ds.size : Int) ≤ 1 := by omega
          have hf := front (b := false) hz (fun _ => ⟨rfl, by omega⟩)
          have HF := Lib.hid hf; clear hf
          rw [hbb] at HB
          clear hbb
          have H48 := Lib.hid h48; clear h48
          go_enter Tryd.func96, Tryd.ntmps96
          go_wp2_with fail
          refine (cutPrefix _ _ _).mono ?_; rintro e w1 ⟨rfl, rfl⟩
          rw [show (⟨#[45]⟩ : ByteArray).data.toList = [45] from rfl, HB.out, HL.out, ← HD.out]
          clear HB HL
          go_wp2_with fail
          go_loop [28] (fun i => ∃ k : Nat, k ≤ ds.size ∧ i = .int .i64 k ∧ (ds.data.toList.take k).all Num.dig = true) (fun i => ds.size - (intOf i).toNat)
          case atStart => exact ⟨0, Nat.zero_le _, rfl, rfl⟩
          case round =>
            obtain ⟨k, hk, rfl, hall⟩ := hrel
            have HA := Lib.hid hall; clear hall
            by_cases hlt : k < ds.size
            · by_cases h1 : (ds[k].toNat : Int) < 48
              · have hno : ds.data.toList.all Num.dig = false := not_all hlt (by omega)
                have HN := Lib.hid hno; clear hno
                go_wp2
                go_ret
                refine ⟨?_, 0, rfl⟩
                rw [HF.out, HN.out]
                all_goals rfl
              · by_cases h2 : 57 < (ds[k].toNat : Int)
                · have hno : ds.data.toList.all Num.dig = false := not_all hlt (by omega)
                  have HN := Lib.hid hno; clear hno
                  go_wp2
                  go_ret
                  refine ⟨?_, 0, rfl⟩
                  rw [HF.out, HN.out]
                  all_goals rfl
                · have hst : (ds.data.toList.take (k + 1)).all Num.dig = true := take_all hlt HA.out (by omega)
                  have HS := Lib.hid hst; clear hst
                  go_wp2
                  go_round
                  case rel => exact ⟨k + 1, by omega, by go_num, HS.out⟩
                  case measure => simp [intOf]; omega
            · have hend : ds.data.toList.all Num.dig = true := by
                have := HA.out
                rwa [List.take_of_length_le (by rw [dlen]; omega)] at this
              have HE := Lib.hid hend; clear hend
              go_wp2
              go_ret
              refine ⟨?_, 0, rfl⟩
              rw [HF.out, HE.out]
              all_goals rfl
      · have hno := front_no (b := true) hz h48 (.inl rfl)
        have HN := Lib.hid hno; clear hno
        rw [hbb] at HB
        clear hbb
        have H48 := Lib.hid h48; clear h48
        go_enter Tryd.func96, Tryd.ntmps96
        go_wp2_with fail
        refine (cutPrefix _ _ _).mono ?_; rintro e w1 ⟨rfl, rfl⟩
        rw [show (⟨#[45]⟩ : ByteArray).data.toList = [45] from rfl, HB.out, HL.out, ← HD.out]
        clear HB HL
        go_wp2_with fail
        go_ret
        refine ⟨?_, 0, rfl⟩
        rw [HN.out]
        all_goals rfl
    · have h48' : ((ds[0].toNat : Int) == 48) = false := by rw [beq_eq_false_iff_ne]; omega
      have hf := front (b := b) hz (fun h => absurd h h48)
      have HF := Lib.hid hf; clear hf
      clear h48
      go_enter Tryd.func96, Tryd.ntmps96
      go_wp2_with fail
      refine (cutPrefix _ _ _).mono ?_; rintro e w1 ⟨rfl, rfl⟩
      rw [show (⟨#[45]⟩ : ByteArray).data.toList = [45] from rfl, HB.out, HL.out, ← HD.out]
      clear HB HL
      go_wp2_with fail
      go_loop [28] (fun i => ∃ k : Nat, k ≤ ds.size ∧ i = .int .i64 k ∧ (ds.data.toList.take k).all Num.dig = true) (fun i => ds.size - (intOf i).toNat)
      case atStart => exact ⟨0, Nat.zero_le _, rfl, rfl⟩
      case round =>
        obtain ⟨k, hk, rfl, hall⟩ := hrel
        have HA := Lib.hid hall; clear hall
        by_cases hlt : k < ds.size
        · by_cases h1 : (ds[k].toNat : Int) < 48
          · have hno : ds.data.toList.all Num.dig = false := not_all hlt (by omega)
            have HN := Lib.hid hno; clear hno
            go_wp2
            go_ret
            refine ⟨?_, 0, rfl⟩
            rw [HF.out, HN.out]
            all_goals rfl
          · by_cases h2 : 57 < (ds[k].toNat : Int)
            · have hno : ds.data.toList.all Num.dig = false := not_all hlt (by omega)
              have HN := Lib.hid hno; clear hno
              go_wp2
              go_ret
              refine ⟨?_, 0, rfl⟩
              rw [HF.out, HN.out]
              all_goals rfl
            · have hst : (ds.data.toList.take (k + 1)).all Num.dig = true := take_all hlt HA.out (by omega)
              have HS := Lib.hid hst; clear hst
              go_wp2
              go_round
              case rel => exact ⟨k + 1, by omega, by go_num, HS.out⟩
              case measure => simp [intOf]; omega
        · have hend : ds.data.toList.all Num.dig = true := by
            have := HA.out
            rwa [List.take_of_length_le (by rw [dlen]; omega)] at this
          have HE := Lib.hid hend; clear hend
          go_wp2
          go_ret
          refine ⟨?_, 0, rfl⟩
          rw [HF.out, HE.out]
          all_goals rfl

/-- A variable holds behind a call what it held. -/
theorem var_keep {P : Program} {W W' : World} {n : String} {cs : Array Value} (h : Below W.heap.size W W') (hv : W.var? P n = some cs) : W'.var? P n = some cs := by
  unfold World.var? at hv ⊢
  cases hg : P.globalNamed n with
  | none => rw [hg] at hv; simp at hv
  | some g =>
    rw [hg] at hv
    simp only [Option.bind_some] at hv ⊢
    have hgB : g < W.heap.size := by
      by_cases hh : g < W.heap.size
      · exact hh
      · exfalso
        have e : W.heap[g]? = none := by simp; omega
        rw [e] at hv; simp at hv
    rw [h.block g hgB]
    exact hv
set_option maxHeartbeats 1000000 in
theorem read_no (s : ByteArray) (w : World) (hs : s.size ≤ maxLen) (ht : Num.isT s.data.toList = false) :
    Calls Tryd.prog 31 #[.string s] w fun e w' => e = .returned (.tuple #[.int .i64 0, .int .i64 2]) ∧ Below w.heap.size w w' := by
  have HT := Lib.hid ht; clear ht
  go_enter Tryd.func31, Tryd.ntmps31
  go_wp2_with fail
  refine (isText_any _ _ hs).mono ?_; rintro e w1 ⟨rfl, k, rfl⟩
  rw [HT.out]
  go_wp2_with fail
  go_ret2
  exact ⟨rfl, below_draw _ _⟩
set_option maxHeartbeats 1000000 in
theorem read_ok (s : ByteArray) (v : Int) (w : World) (hs : s.size ≤ maxLen) (ht : Num.isT s.data.toList = true) (h : Lib.parseIntB 64 s.data.toList = .ok v) (hm : s.size ≤ 9223372036854775806) :
    Calls Tryd.prog 31 #[.string s] w fun e w' => e = .returned (.tuple #[.int .i64 v, .int .i64 0]) ∧ Below w.heap.size w w' := by
  have HT := Lib.hid ht; have H := Lib.hid h; have HM := Lib.hid hm; clear ht h hm
  go_enter Tryd.func31, Tryd.ntmps31
  go_wp2_with fail
  refine (isText_any _ _ hs).mono ?_; rintro e w1 ⟨rfl, k, rfl⟩
  rw [HT.out]
  go_wp2_with fail
  refine (Tryd.parseInt_ok _ HM.out v H.out _).mono ?_; rintro e w2 ⟨rfl, b2⟩
  have B2 := Lib.hid (below_step (below_draw w k) b2)
  clear b2
  go_wp2_with fail
  go_ret2
  exact ⟨rfl, B2.out⟩
set_option maxHeartbeats 1000000 in
theorem read_range (s : ByteArray) (w : World) (hs : s.size ≤ maxLen) (ht : Num.isT s.data.toList = true) (h : Lib.parseIntB 64 s.data.toList = .range) (hm : s.size ≤ 281474976710656) (tp : TypeId) (p : Value) (hvar : w.var? Tryd.prog "strconv.ErrRange" = some #[.iface tp p]) :
    Calls Tryd.prog 31 #[.string s] w fun e w' => e = .returned (.tuple #[.int .i64 0, .int .i64 1]) ∧ Below w.heap.size w w' := by
  have HT := Lib.hid ht; have H := Lib.hid h; have HM := Lib.hid hm; have HV := Lib.hid hvar; clear ht h hm hvar
  go_enter Tryd.func31, Tryd.ntmps31
  go_wp2_with fail
  refine (isText_any _ _ hs).mono ?_; rintro e w1 ⟨rfl, k, rfl⟩
  rw [HT.out]
  go_wp2_with fail
  refine (Tryd.parseInt_range _ HM.out H.out tp p _ (var_keep (below_draw w k) HV.out)).mono ?_; rintro e w2 ⟨⟨N, rfl⟩, b2⟩
  have B2 := Lib.hid (below_step (below_draw w k) b2)
  clear b2
  go_wp2_with fail
  go_ret2
  exact ⟨rfl, B2.out⟩
end Go.Proofs.YtafnnnbefabofaaDoor
