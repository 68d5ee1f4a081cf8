/- Joined: LkB, FpA. -/
import Derived.Test.YtedbohfcbfegjaaGreatDoorBd01
import Derived.Test.YtedbohfcbfegjaaGreatDoorBd02
/- The reference's Name. -/
set_option linter.unusedVariables false
set_option linter.unusedSimpArgs false
namespace Go.Proofs.YtedbohfcbfegjaaGreatDoor
open Go.RowKit Go.Sort

namespace Lk
/-- From the k-th byte on. -/
def rr (k : Nat) (l : List UInt8) : Bool := match k, l with
  | 0, [] => false
  | 0, c :: r => bgB c && r.all gnB
  | _ + 1, l => l.all gnB
theorem rr_0 (l : List UInt8) : rr 0 l = isN l := by
  unfold rr isN
  cases l with
  | nil => rfl
  | cons c r =>
    show (bgB c && r.all gnB) = ((c :: r).all gnB && bgB c)
    rw [List.all_cons]
    cases hb : bgB c
    · simp
    · rw [show gnB c = true from bg_gn hb]; simp
/-- What a byte at place k is worth. -/
def okAt (k : Nat) (c : UInt8) : Bool := if k = 0 then bgB c else gnB c
theorem rr_next (k : Nat) (c : UInt8) (r : List UInt8) : rr k (c :: r) = (okAt k c && rr (k + 1) r) := by
  cases k with
  | zero => rfl
  | succ k => show (c :: r).all gnB = _; rw [List.all_cons]; rfl
theorem rr_end (k : Nat) (h : 0 < k) : rr k [] = true := by
  cases k with
  | zero => omega
  | succ k => rfl
end Lk
set_option maxHeartbeats 4000000 in
set_option maxRecDepth 100000 in
theorem rrname_any (s : ByteArray) (w : World) (hs : s.size ≤ maxLen) : Calls Tryz.prog 16 #[.string s] w fun e w' => e = .returned (.int .i64 (Lk.nm s.data.toList)) ∧ w = w' := by
  unfold Lk.nm
  unfold maxLen at hs
  rw [fd_len]
  by_cases h : 64 < s.size
  · rw [if_pos h]
    have h1 : 64 < (s.size : Int) := by omega
    clear h
    go_enter Tryz.func16, Tryz.ntmps16
    go_wp2_with fail
    go_ret
    exact ⟨rfl, rfl⟩
  · rw [if_neg h, ← Lk.rr_0]
    have h1 : ¬ 64 < (s.size : Int) := by omega
    have hsb : s.size ≤ 64 := by omega
    clear h
    obtain ⟨tot, htot⟩ : ∃ t, t = Lk.rr 0 s.data.toList := ⟨_, rfl⟩
    rw [← htot]
    have HT := Lib.hid htot
    clear htot
    obtain ⟨ans, hans⟩ : ∃ a : Int, a = (if tot = true then 0 else 10) := ⟨_, rfl⟩
    rw [← hans]
    have HA := Lib.hid hans
    clear hans
    go_enter Tryz.func16, Tryz.ntmps16
    go_wp2_with fail
    go_loopw [3] (fun i wr => ∃ k : Nat, k ≤ s.size ∧ i = .int .i64 k ∧ Hid (Lk.rr k (s.data.toList.drop k) = tot) ∧ wr = w) (fun i _ => s.size - (intOf i).toNat)
    case atStart => exact ⟨0, Nat.zero_le _, rfl, HT.out.symm, rfl⟩
    case round =>
      obtain ⟨k, hk, rfl, hinv, hw⟩ := hrel
      obtain rfl : w = wr := hw.symm
      by_cases hlt : k < s.size
      · have IX := fun W => fd_ix s k hlt W
        have hi := hinv.out
        rw [fd_drop s k hlt, Lk.rr_next] at hi
        have hgn : Lk.okAt k s[k] = if k = 0 then Lk.bg s[k].toNat else Lk.gn s[k].toNat := rfl
        rw [hgn] at hi
        clear hgn
        have hcl := s[k].toNat_lt
        obtain ⟨c, hc⟩ : ∃ c : Nat, c = s[k].toNat := ⟨_, rfl⟩
        rw [← hc] at IX hi hcl
        clear hc hinv
        rcases Nat.eq_zero_or_pos k with rfl | hk0
        · rw [if_pos rfl] at hi
          obtain ⟨C, hC⟩ : ∃ C : Int, C = c := ⟨_, rfl⟩
          rw [← hC] at IX
          have IX : ∀ W, Sem.run Tryz.prog (Instr.index 9 (.string s) (.int .i64 0)) W = .ok (.int .u8 C) W := IX
          rcases (by omega : (0 ≤ c ∧ c ≤ 42) ∨ (43 ≤ c ∧ c ≤ 43) ∨ (44 ≤ c ∧ c ≤ 44) ∨ (45 ≤ c ∧ c ≤ 45) ∨ (46 ≤ c ∧ c ≤ 46) ∨ (47 ≤ c ∧ c ≤ 47) ∨ (48 ≤ c ∧ c ≤ 57) ∨ (58 ≤ c ∧ c ≤ 64) ∨ (65 ≤ c ∧ c ≤ 90) ∨ (91 ≤ c ∧ c ≤ 94) ∨ (95 ≤ c ∧ c ≤ 95) ∨ (96 ≤ c ∧ c ≤ 96) ∨ (97 ≤ c ∧ c ≤ 122) ∨ (123 ≤ c ∧ c ≤ 255)) with h | h | h | h | h | h | h | h | h | h | h | h | h | h
          · have hb : Lk.bg c = false := by unfold Lk.bg; simp; omega
            rw [hb] at hi
            clear hb
            have f65 : ¬ (65 : Int) ≤ C := by omega
            have f97 : ¬ (97 : Int) ≤ C := by omega
            have f48 : ¬ (48 : Int) ≤ C := by omega
            have f90 : C ≤ (90 : Int) := by omega
            have f122 : C ≤ (122 : Int) := by omega
            have f57 : C ≤ (57 : Int) := by omega
            have q95 : (C == (95 : Int)) = false := by rw [beq_eq_false_iff_ne]; omega
            have q45 : (C == (45 : Int)) = false := by rw [beq_eq_false_iff_ne]; omega
            have q43 : (C == (43 : Int)) = false := by rw [beq_eq_false_iff_ne]; omega
            have q47 : (C == (47 : Int)) = false := by rw [beq_eq_false_iff_ne]; omega
            have q46 : (C == (46 : Int)) = false := by rw [beq_eq_false_iff_ne]; omega
            have HI := Lib.hid (show tot = false by rw [← hi]; rfl)
            clear hi hC h
            go_wp2_with fail
            go_ret
            exact ⟨by rw [HA.out, HI.out]; rfl, rfl⟩
          · have hb : Lk.bg c = false := by unfold Lk.bg; simp; omega
            rw [hb] at hi
            clear hb
            obtain rfl : C = 43 := by omega
            have HI := Lib.hid (show tot = false by rw [← hi]; rfl)
            clear hi hC h
            go_wp2_with fail
            go_ret
            exact ⟨by rw [HA.out, HI.out]; rfl, rfl⟩
          · have hb : Lk.bg c = false := by unfold Lk.bg; simp; omega
            rw [hb] at hi
            clear hb
            obtain rfl : C = 44 := by omega
            have HI := Lib.hid (show tot = false by rw [← hi]; rfl)
            clear hi hC h
            go_wp2_with fail
            go_ret
            exact ⟨by rw [HA.out, HI.out]; rfl, rfl⟩
          · have hb : Lk.bg c = false := by unfold Lk.bg; simp; omega
            rw [hb] at hi
            clear hb
            obtain rfl : C = 45 := by omega
            have HI := Lib.hid (show tot = false by rw [← hi]; rfl)
            clear hi hC h
            go_wp2_with fail
            go_ret
            exact ⟨by rw [HA.out, HI.out]; rfl, rfl⟩
          · have hb : Lk.bg c = false := by unfold Lk.bg; simp; omega
            rw [hb] at hi
            clear hb
            obtain rfl : C = 46 := by omega
            have HI := Lib.hid (show tot = false by rw [← hi]; rfl)
            clear hi hC h
            go_wp2_with fail
            go_ret
            exact ⟨by rw [HA.out, HI.out]; rfl, rfl⟩
          · have hb : Lk.bg c = false := by unfold Lk.bg; simp; omega
            rw [hb] at hi
            clear hb
            obtain rfl : C = 47 := by omega
            have HI := Lib.hid (show tot = false by rw [← hi]; rfl)
            clear hi hC h
            go_wp2_with fail
            go_ret
            exact ⟨by rw [HA.out, HI.out]; rfl, rfl⟩
          · have hb : Lk.bg c = false := by unfold Lk.bg; simp; omega
            rw [hb] at hi
            clear hb
            have f65 : ¬ (65 : Int) ≤ C := by omega
            have f97 : ¬ (97 : Int) ≤ C := by omega
            have f48 : (48 : Int) ≤ C := by omega
            have f90 : C ≤ (90 : Int) := by omega
            have f122 : C ≤ (122 : Int) := by omega
            have f57 : C ≤ (57 : Int) := by omega
            have q95 : (C == (95 : Int)) = false := by rw [beq_eq_false_iff_ne]; omega
            have q45 : (C == (45 : Int)) = false := by rw [beq_eq_false_iff_ne]; omega
            have q43 : (C == (43 : Int)) = false := by rw [beq_eq_false_iff_ne]; omega
            have q47 : (C == (47 : Int)) = false := by rw [beq_eq_false_iff_ne]; omega
            have q46 : (C == (46 : Int)) = false := by rw [beq_eq_false_iff_ne]; omega
            have HI := Lib.hid (show tot = false by rw [← hi]; rfl)
            clear hi hC h
            go_wp2_with fail
            go_ret
            exact ⟨by rw [HA.out, HI.out]; rfl, rfl⟩
          · have hb : Lk.bg c = false := by unfold Lk.bg; simp; omega
            rw [hb] at hi
            clear hb
            have f65 : ¬ (65 : Int) ≤ C := by omega
            have f97 : ¬ (97 : Int) ≤ C := by omega
            have f48 : (48 : Int) ≤ C := by omega
            have f90 : C ≤ (90 : Int) := by omega
            have f122 : C ≤ (122 : Int) := by omega
            have f57 : ¬ C ≤ (57 : Int) := by omega
            have q95 : (C == (95 : Int)) = false := by rw [beq_eq_false_iff_ne]; omega
            have q45 : (C == (45 : Int)) = false := by rw [beq_eq_false_iff_ne]; omega
            have q43 : (C == (43 : Int)) = false := by rw [beq_eq_false_iff_ne]; omega
            have q47 : (C == (47 : Int)) = false := by rw [beq_eq_false_iff_ne]; omega
            have q46 : (C == (46 : Int)) = false := by rw [beq_eq_false_iff_ne]; omega
            have HI := Lib.hid (show tot = false by rw [← hi]; rfl)
            clear hi hC h
            go_wp2_with fail
            go_ret
            exact ⟨by rw [HA.out, HI.out]; rfl, rfl⟩
          · have hb : Lk.bg c = true := by unfold Lk.bg; simp; omega
            rw [hb] at hi
            clear hb
            have f65 : (65 : Int) ≤ C := by omega
            have f97 : ¬ (97 : Int) ≤ C := by omega
            have f48 : (48 : Int) ≤ C := by omega
            have f90 : C ≤ (90 : Int) := by omega
            have f122 : C ≤ (122 : Int) := by omega
            have f57 : ¬ C ≤ (57 : Int) := by omega
            have q95 : (C == (95 : Int)) = false := by rw [beq_eq_false_iff_ne]; omega
            have q45 : (C == (45 : Int)) = false := by rw [beq_eq_false_iff_ne]; omega
            have q43 : (C == (43 : Int)) = false := by rw [beq_eq_false_iff_ne]; omega
            have q47 : (C == (47 : Int)) = false := by rw [beq_eq_false_iff_ne]; omega
            have q46 : (C == (46 : Int)) = false := by rw [beq_eq_false_iff_ne]; omega
            have HI := Lib.hid (show Lk.rr (0 + 1) (s.data.toList.drop (0 + 1)) = tot by rw [← hi]; rfl)
            clear hi hC h
            go_wp2_with fail
            go_roundw
            case rel => exact ⟨0 + 1, by omega, by go_num, HI, by first | rfl | trivial⟩
            case measure => simp [intOf]; omega
          · have hb : Lk.bg c = false := by unfold Lk.bg; simp; omega
            rw [hb] at hi
            clear hb
            have f65 : (65 : Int) ≤ C := by omega
            have f97 : ¬ (97 : Int) ≤ C := by omega
            have f48 : (48 : Int) ≤ C := by omega
            have f90 : ¬ C ≤ (90 : Int) := by omega
            have f122 : C ≤ (122 : Int) := by omega
            have f57 : ¬ C ≤ (57 : Int) := by omega
            have q95 : (C == (95 : Int)) = false := by rw [beq_eq_false_iff_ne]; omega
            have q45 : (C == (45 : Int)) = false := by rw [beq_eq_false_iff_ne]; omega
            have q43 : (C == (43 : Int)) = false := by rw [beq_eq_false_iff_ne]; omega
            have q47 : (C == (47 : Int)) = false := by rw [beq_eq_false_iff_ne]; omega
            have q46 : (C == (46 : Int)) = false := by rw [beq_eq_false_iff_ne]; omega
            have HI := Lib.hid (show tot = false by rw [← hi]; rfl)
            clear hi hC h
            go_wp2_with fail
            go_ret
            exact ⟨by rw [HA.out, HI.out]; rfl, rfl⟩
          · have hb : Lk.bg c = true := by unfold Lk.bg; simp; omega
            rw [hb] at hi
            clear hb
            obtain rfl : C = 95 := by omega
            have HI := Lib.hid (show Lk.rr (0 + 1) (s.data.toList.drop (0 + 1)) = tot by rw [← hi]; rfl)
            clear hi hC h
            go_wp2_with fail
            go_roundw
            case rel => exact ⟨0 + 1, by omega, by go_num, HI, by first | rfl | trivial⟩
            case measure => simp [intOf]; omega
          · have hb : Lk.bg c = false := by unfold Lk.bg; simp; omega
            rw [hb] at hi
            clear hb
            obtain rfl : C = 96 := by omega
            have HI := Lib.hid (show tot = false by rw [← hi]; rfl)
            clear hi hC h
            go_wp2_with fail
            go_ret
            exact ⟨by rw [HA.out, HI.out]; rfl, rfl⟩
          · have hb : Lk.bg c = true := by unfold Lk.bg; simp; omega
            rw [hb] at hi
            clear hb
            have f65 : (65 : Int) ≤ C := by omega
            have f97 : (97 : Int) ≤ C := by omega
            have f48 : (48 : Int) ≤ C := by omega
            have f90 : ¬ C ≤ (90 : Int) := by omega
            have f122 : C ≤ (122 : Int) := by omega
            have f57 : ¬ C ≤ (57 : Int) := by omega
            have q95 : (C == (95 : Int)) = false := by rw [beq_eq_false_iff_ne]; omega
            have q45 : (C == (45 : Int)) = false := by rw [beq_eq_false_iff_ne]; omega
            have q43 : (C == (43 : Int)) = false := by rw [beq_eq_false_iff_ne]; omega
            have q47 : (C == (47 : Int)) = false := by rw [beq_eq_false_iff_ne]; omega
            have q46 : (C == (46 : Int)) = false := by rw [beq_eq_false_iff_ne]; omega
            have HI := Lib.hid (show Lk.rr (0 + 1) (s.data.toList.drop (0 + 1)) = tot by rw [← hi]; rfl)
            clear hi hC h
            go_wp2_with fail
            go_roundw
            case rel => exact ⟨0 + 1, by omega, by go_num, HI, by first | rfl | trivial⟩
            case measure => simp [intOf]; omega
          · have hb : Lk.bg c = false := by unfold Lk.bg; simp; omega
            rw [hb] at hi
            clear hb
            have f65 : (65 : Int) ≤ C := by omega
            have f97 : (97 : Int) ≤ C := by omega
            have f48 : (48 : Int) ≤ C := by omega
            have f90 : ¬ C ≤ (90 : Int) := by omega
            have f122 : ¬ C ≤ (122 : Int) := by omega
            have f57 : ¬ C ≤ (57 : Int) := by omega
            have q95 : (C == (95 : Int)) = false := by rw [beq_eq_false_iff_ne]; omega
            have q45 : (C == (45 : Int)) = false := by rw [beq_eq_false_iff_ne]; omega
            have q43 : (C == (43 : Int)) = false := by rw [beq_eq_false_iff_ne]; omega
            have q47 : (C == (47 : Int)) = false := by rw [beq_eq_false_iff_ne]; omega
            have q46 : (C == (46 : Int)) = false := by rw [beq_eq_false_iff_ne]; omega
            have HI := Lib.hid (show tot = false by rw [← hi]; rfl)
            clear hi hC h
            go_wp2_with fail
            go_ret
            exact ⟨by rw [HA.out, HI.out]; rfl, rfl⟩
        · rw [if_neg (by omega)] at hi
          have gk : ((k : Int) == 0) = false := by rw [beq_eq_false_iff_ne]; omega
          obtain ⟨C, hC⟩ : ∃ C : Int, C = c := ⟨_, rfl⟩
          rw [← hC] at IX
          rcases (by omega : (0 ≤ c ∧ c ≤ 42) ∨ (43 ≤ c ∧ c ≤ 43) ∨ (44 ≤ c ∧ c ≤ 44) ∨ (45 ≤ c ∧ c ≤ 45) ∨ (46 ≤ c ∧ c ≤ 46) ∨ (47 ≤ c ∧ c ≤ 47) ∨ (48 ≤ c ∧ c ≤ 57) ∨ (58 ≤ c ∧ c ≤ 64) ∨ (65 ≤ c ∧ c ≤ 90) ∨ (91 ≤ c ∧ c ≤ 94) ∨ (95 ≤ c ∧ c ≤ 95) ∨ (96 ≤ c ∧ c ≤ 96) ∨ (97 ≤ c ∧ c ≤ 122) ∨ (123 ≤ c ∧ c ≤ 255)) with h | h | h | h | h | h | h | h | h | h | h | h | h | h
          · have hb0 : Lk.bg c = false := by unfold Lk.bg; simp; omega
            have hb : Lk.gn c = false := by unfold Lk.gn Lk.dg Lk.sg; rw [hb0]; simp; omega
            clear hb0
            rw [hb] at hi
            clear hb
            have f65 : ¬ (65 : Int) ≤ C := by omega
            have f97 : ¬ (97 : Int) ≤ C := by omega
            have f48 : ¬ (48 : Int) ≤ C := by omega
            have f90 : C ≤ (90 : Int) := by omega
            have f122 : C ≤ (122 : Int) := by omega
            have f57 : C ≤ (57 : Int) := by omega
            have q95 : (C == (95 : Int)) = false := by rw [beq_eq_false_iff_ne]; omega
            have q45 : (C == (45 : Int)) = false := by rw [beq_eq_false_iff_ne]; omega
            have q43 : (C == (43 : Int)) = false := by rw [beq_eq_false_iff_ne]; omega
            have q47 : (C == (47 : Int)) = false := by rw [beq_eq_false_iff_ne]; omega
            have q46 : (C == (46 : Int)) = false := by rw [beq_eq_false_iff_ne]; omega
            have HI := Lib.hid (show tot = false by rw [← hi]; rfl)
            clear hi hC h
            go_wp2_with fail
            go_ret
            exact ⟨by rw [HA.out, HI.out]; rfl, rfl⟩
          · have hb0 : Lk.bg c = false := by unfold Lk.bg; simp; omega
            have hb : Lk.gn c = true := by unfold Lk.gn Lk.dg Lk.sg; rw [hb0]; simp; omega
            clear hb0
            rw [hb] at hi
            clear hb
            obtain rfl : C = 43 := by omega
            have HI := Lib.hid (show Lk.rr (k + 1) (s.data.toList.drop (k + 1)) = tot by rw [← hi]; rfl)
            clear hi hC h
            go_wp2_with fail
            go_roundw
            case rel => exact ⟨k + 1, by omega, by go_num, HI, by first | rfl | trivial⟩
            case measure => simp [intOf]; omega
          · have hb0 : Lk.bg c = false := by unfold Lk.bg; simp; omega
            have hb : Lk.gn c = false := by unfold Lk.gn Lk.dg Lk.sg; rw [hb0]; simp; omega
            clear hb0
            rw [hb] at hi
            clear hb
            obtain rfl : C = 44 := by omega
            have HI := Lib.hid (show tot = false by rw [← hi]; rfl)
            clear hi hC h
            go_wp2_with fail
            go_ret
            exact ⟨by rw [HA.out, HI.out]; rfl, rfl⟩
          · have hb0 : Lk.bg c = false := by unfold Lk.bg; simp; omega
            have hb : Lk.gn c = true := by unfold Lk.gn Lk.dg Lk.sg; rw [hb0]; simp; omega
            clear hb0
            rw [hb] at hi
            clear hb
            obtain rfl : C = 45 := by omega
            have HI := Lib.hid (show Lk.rr (k + 1) (s.data.toList.drop (k + 1)) = tot by rw [← hi]; rfl)
            clear hi hC h
            go_wp2_with fail
            go_roundw
            case rel => exact ⟨k + 1, by omega, by go_num, HI, by first | rfl | trivial⟩
            case measure => simp [intOf]; omega
          · have hb0 : Lk.bg c = false := by unfold Lk.bg; simp; omega
            have hb : Lk.gn c = true := by unfold Lk.gn Lk.dg Lk.sg; rw [hb0]; simp; omega
            clear hb0
            rw [hb] at hi
            clear hb
            obtain rfl : C = 46 := by omega
            have HI := Lib.hid (show Lk.rr (k + 1) (s.data.toList.drop (k + 1)) = tot by rw [← hi]; rfl)
            clear hi hC h
            go_wp2_with fail
            go_roundw
            case rel => exact ⟨k + 1, by omega, by go_num, HI, by first | rfl | trivial⟩
            case measure => simp [intOf]; omega
          · have hb0 : Lk.bg c = false := by unfold Lk.bg; simp; omega
            have hb : Lk.gn c = true := by unfold Lk.gn Lk.dg Lk.sg; rw [hb0]; simp; omega
            clear hb0
            rw [hb] at hi
            clear hb
            obtain rfl : C = 47 := by omega
            have HI := Lib.hid (show Lk.rr (k + 1) (s.data.toList.drop (k + 1)) = tot by rw [← hi]; rfl)
            clear hi hC h
            go_wp2_with fail
            go_roundw
            case rel => exact ⟨k + 1, by omega, by go_num, HI, by first | rfl | trivial⟩
            case measure => simp [intOf]; omega
          · have hb0 : Lk.bg c = false := by unfold Lk.bg; simp; omega
            have hb : Lk.gn c = true := by unfold Lk.gn Lk.dg Lk.sg; rw [hb0]; simp; omega
            clear hb0
            rw [hb] at hi
            clear hb
            have f65 : ¬ (65 : Int) ≤ C := by omega
            have f97 : ¬ (97 : Int) ≤ C := by omega
            have f48 : (48 : Int) ≤ C := by omega
            have f90 : C ≤ (90 : Int) := by omega
            have f122 : C ≤ (122 : Int) := by omega
            have f57 : C ≤ (57 : Int) := by omega
            have q95 : (C == (95 : Int)) = false := by rw [beq_eq_false_iff_ne]; omega
            have q45 : (C == (45 : Int)) = false := by rw [beq_eq_false_iff_ne]; omega
            have q43 : (C == (43 : Int)) = false := by rw [beq_eq_false_iff_ne]; omega
            have q47 : (C == (47 : Int)) = false := by rw [beq_eq_false_iff_ne]; omega
            have q46 : (C == (46 : Int)) = false := by rw [beq_eq_false_iff_ne]; omega
            have HI := Lib.hid (show Lk.rr (k + 1) (s.data.toList.drop (k + 1)) = tot by rw [← hi]; rfl)
            clear hi hC h
            go_wp2_with fail
            go_roundw
            case rel => exact ⟨k + 1, by omega, by go_num, HI, by first | rfl | trivial⟩
            case measure => simp [intOf]; omega
          · have hb0 : Lk.bg c = false := by unfold Lk.bg; simp; omega
            have hb : Lk.gn c = false := by unfold Lk.gn Lk.dg Lk.sg; rw [hb0]; simp; omega
            clear hb0
            rw [hb] at hi
            clear hb
            have f65 : ¬ (65 : Int) ≤ C := by omega
            have f97 : ¬ (97 : Int) ≤ C := by omega
            have f48 : (48 : Int) ≤ C := by omega
            have f90 : C ≤ (90 : Int) := by omega
            have f122 : C ≤ (122 : Int) := by omega
            have f57 : ¬ C ≤ (57 : Int) := by omega
            have q95 : (C == (95 : Int)) = false := by rw [beq_eq_false_iff_ne]; omega
            have q45 : (C == (45 : Int)) = false := by rw [beq_eq_false_iff_ne]; omega
            have q43 : (C == (43 : Int)) = false := by rw [beq_eq_false_iff_ne]; omega
            have q47 : (C == (47 : Int)) = false := by rw [beq_eq_false_iff_ne]; omega
            have q46 : (C == (46 : Int)) = false := by rw [beq_eq_false_iff_ne]; omega
            have HI := Lib.hid (show tot = false by rw [← hi]; rfl)
            clear hi hC h
            go_wp2_with fail
            go_ret
            exact ⟨by rw [HA.out, HI.out]; rfl, rfl⟩
          · have hb0 : Lk.bg c = true := by unfold Lk.bg; simp; omega
            have hb : Lk.gn c = true := by unfold Lk.gn Lk.dg Lk.sg; rw [hb0]; simp
            clear hb0
            rw [hb] at hi
            clear hb
            have f65 : (65 : Int) ≤ C := by omega
            have f97 : ¬ (97 : Int) ≤ C := by omega
            have f48 : (48 : Int) ≤ C := by omega
            have f90 : C ≤ (90 : Int) := by omega
            have f122 : C ≤ (122 : Int) := by omega
            have f57 : ¬ C ≤ (57 : Int) := by omega
            have q95 : (C == (95 : Int)) = false := by rw [beq_eq_false_iff_ne]; omega
            have q45 : (C == (45 : Int)) = false := by rw [beq_eq_false_iff_ne]; omega
            have q43 : (C == (43 : Int)) = false := by rw [beq_eq_false_iff_ne]; omega
            have q47 : (C == (47 : Int)) = false := by rw [beq_eq_false_iff_ne]; omega
            have q46 : (C == (46 : Int)) = false := by rw [beq_eq_false_iff_ne]; omega
            have HI := Lib.hid (show Lk.rr (k + 1) (s.data.toList.drop (k + 1)) = tot by rw [← hi]; rfl)
            clear hi hC h
            go_wp2_with fail
            go_roundw
            case rel => exact ⟨k + 1, by omega, by go_num, HI, by first | rfl | trivial⟩
            case measure => simp [intOf]; omega
          · have hb0 : Lk.bg c = false := by unfold Lk.bg; simp; omega
            have hb : Lk.gn c = false := by unfold Lk.gn Lk.dg Lk.sg; rw [hb0]; simp; omega
            clear hb0
            rw [hb] at hi
            clear hb
            have f65 : (65 : Int) ≤ C := by omega
            have f97 : ¬ (97 : Int) ≤ C := by omega
            have f48 : (48 : Int) ≤ C := by omega
            have f90 : ¬ C ≤ (90 : Int) := by omega
            have f122 : C ≤ (122 : Int) := by omega
            have f57 : ¬ C ≤ (57 : Int) := by omega
            have q95 : (C == (95 : Int)) = false := by rw [beq_eq_false_iff_ne]; omega
            have q45 : (C == (45 : Int)) = false := by rw [beq_eq_false_iff_ne]; omega
            have q43 : (C == (43 : Int)) = false := by rw [beq_eq_false_iff_ne]; omega
            have q47 : (C == (47 : Int)) = false := by rw [beq_eq_false_iff_ne]; omega
            have q46 : (C == (46 : Int)) = false := by rw [beq_eq_false_iff_ne]; omega
            have HI := Lib.hid (show tot = false by rw [← hi]; rfl)
            clear hi hC h
            go_wp2_with fail
            go_ret
            exact ⟨by rw [HA.out, HI.out]; rfl, rfl⟩
          · have hb0 : Lk.bg c = true := by unfold Lk.bg; simp; omega
            have hb : Lk.gn c = true := by unfold Lk.gn Lk.dg Lk.sg; rw [hb0]; simp
            clear hb0
            rw [hb] at hi
            clear hb
            obtain rfl : C = 95 := by omega
            have HI := Lib.hid (show Lk.rr (k + 1) (s.data.toList.drop (k + 1)) = tot by rw [← hi]; rfl)
            clear hi hC h
            go_wp2_with fail
            go_roundw
            case rel => exact ⟨k + 1, by omega, by go_num, HI, by first | rfl | trivial⟩
            case measure => simp [intOf]; omega
          · have hb0 : Lk.bg c = false := by unfold Lk.bg; simp; omega
            have hb : Lk.gn c = false := by unfold Lk.gn Lk.dg Lk.sg; rw [hb0]; simp; omega
            clear hb0
            rw [hb] at hi
            clear hb
            obtain rfl : C = 96 := by omega
            have HI := Lib.hid (show tot = false by rw [← hi]; rfl)
            clear hi hC h
            go_wp2_with fail
            go_ret
            exact ⟨by rw [HA.out, HI.out]; rfl, rfl⟩
          · have hb0 : Lk.bg c = true := by unfold Lk.bg; simp; omega
            have hb : Lk.gn c = true := by unfold Lk.gn Lk.dg Lk.sg; rw [hb0]; simp
            clear hb0
            rw [hb] at hi
            clear hb
            have f65 : (65 : Int) ≤ C := by omega
            have f97 : (97 : Int) ≤ C := by omega
            have f48 : (48 : Int) ≤ C := by omega
            have f90 : ¬ C ≤ (90 : Int) := by omega
            have f122 : C ≤ (122 : Int) := by omega
            have f57 : ¬ C ≤ (57 : Int) := by omega
            have q95 : (C == (95 : Int)) = false := by rw [beq_eq_false_iff_ne]; omega
            have q45 : (C == (45 : Int)) = false := by rw [beq_eq_false_iff_ne]; omega
            have q43 : (C == (43 : Int)) = false := by rw [beq_eq_false_iff_ne]; omega
            have q47 : (C == (47 : Int)) = false := by rw [beq_eq_false_iff_ne]; omega
            have q46 : (C == (46 : Int)) = false := by rw [beq_eq_false_iff_ne]; omega
            have HI := Lib.hid (show Lk.rr (k + 1) (s.data.toList.drop (k + 1)) = tot by rw [← hi]; rfl)
            clear hi hC h
            go_wp2_with fail
            go_roundw
            case rel => exact ⟨k + 1, by omega, by go_num, HI, by first | rfl | trivial⟩
            case measure => simp [intOf]; omega
          · have hb0 : Lk.bg c = false := by unfold Lk.bg; simp; omega
            have hb : Lk.gn c = false := by unfold Lk.gn Lk.dg Lk.sg; rw [hb0]; simp; omega
            clear hb0
            rw [hb] at hi
            clear hb
            have f65 : (65 : Int) ≤ C := by omega
            have f97 : (97 : Int) ≤ C := by omega
            have f48 : (48 : Int) ≤ C := by omega
            have f90 : ¬ C ≤ (90 : Int) := by omega
            have f122 : ¬ C ≤ (122 : Int) := by omega
            have f57 : ¬ C ≤ (57 : Int) := by omega
            have q95 : (C == (95 : Int)) = false := by rw [beq_eq_false_iff_ne]; omega
            have q45 : (C == (45 : Int)) = false := by rw [beq_eq_false_iff_ne]; omega
            have q43 : (C == (43 : Int)) = false := by rw [beq_eq_false_iff_ne]; omega
            have q47 : (C == (47 : Int)) = false := by rw [beq_eq_false_iff_ne]; omega
            have q46 : (C == (46 : Int)) = false := by rw [beq_eq_false_iff_ne]; omega
            have HI := Lib.hid (show tot = false by rw [← hi]; rfl)
            clear hi hC h
            go_wp2_with fail
            go_ret
            exact ⟨by rw [HA.out, HI.out]; rfl, rfl⟩
      · obtain rfl : k = s.size := by omega
        have hend := hinv.out
        rw [List.drop_of_length_le (by rw [fd_len]; omega)] at hend
        clear hinv
        rcases Nat.eq_zero_or_pos s.size with h0 | h0
        · obtain rfl : s = ⟨#[]⟩ := by
            apply ByteArray.ext; apply Array.toList_inj.1
            rw [show s.data.toList = [] by rw [← List.length_eq_zero_iff, fd_len]; exact h0]
          have HI := Lib.hid (show tot = false by rw [← hend]; rfl)
          clear hend
          go_wp2_with fail
          go_ret
          exact ⟨by rw [HA.out, HI.out]; rfl, rfl⟩
        · obtain ⟨n1, n2⟩ := fd_ne h0
          have HI := Lib.hid (show tot = true by rw [← hend]; exact Lk.rr_end _ h0)
          clear hend
          go_wp2_with fail
          go_ret
          exact ⟨by rw [HA.out, HI.out]; rfl, rfl⟩
end Go.Proofs.YtedbohfcbfegjaaGreatDoor

/- The reference's formats: which byte may stand; a byte's place; Letter, LetterText. -/
set_option linter.unusedVariables false
set_option linter.unusedSimpArgs false
namespace Go.Proofs.YtedbohfcbfegjaaGreatDoor
open Go.RowKit

namespace Fp
def isR (c : Int) : Bool := Fo.isL c || (decide (c = 43) || decide (c = 45))
def okB (c : UInt8) : Bool := isR (c.toNat : Int)
/-- Where a byte is: -1: nowhere; -2: at more places than one. -/
def fr (c : UInt8) (at_ : Int) : List UInt8 → Int → Int
  | [], _ => at_
  | b :: t, k => if b = c then (if 0 ≤ at_ then -2 else fr c k t (k + 1)) else fr c at_ t (k + 1)
theorem okB_eq (c : UInt8) : okB c = (Fo.isB c || ([43, 45] : List UInt8).contains c) := by
  unfold okB isR Fo.isB
  congr 1
  rw [List.contains_cons, List.contains_cons, List.contains_nil, Bool.or_false]
  congr 1
  · rw [Bool.eq_iff_iff, decide_eq_true_eq, beq_iff_eq, ← UInt8.toNat_inj]
    show _ ↔ c.toNat = 43
    omega
  · rw [Bool.eq_iff_iff, decide_eq_true_eq, beq_iff_eq, ← UInt8.toNat_inj]
    show _ ↔ c.toNat = 45
    omega
theorem all_eq (l : List UInt8) : l.all okB = Fo.mdA [43, 45] l := by
  unfold Fo.mdA
  congr 1
  funext c; exact okB_eq c
end Fp
set_option maxHeartbeats 4000000 in
theorem rfletter_any (c : Int) (w : World) (h0 : 0 ≤ c) (h1 : c ≤ 255) :
    Calls Tryz.prog 96 #[.int .u8 c] w fun e w' => e = .returned (.bool (Fp.isR c)) ∧ w = w' := by
  by_cases e3 : c = 43
  · subst e3
    go_enter Tryz.func96, Tryz.ntmps96
    go_wp2_with fail
    go_ret
    exact ⟨rfl, rfl⟩
  · by_cases e5 : c = 45
    · subst e5
      go_enter Tryz.func96, Tryz.ntmps96
      go_wp2_with fail
      go_ret
      exact ⟨rfl, rfl⟩
    · have g3 : (c == 43) = false := by rw [beq_eq_false_iff_ne]; exact e3
      have g5 : (c == 45) = false := by rw [beq_eq_false_iff_ne]; exact e5
      unfold Fp.isR Fo.isL
      rw [decide_eq_false e3, decide_eq_false e5]
      by_cases a0 : 65 ≤ c <;> by_cases a1 : c ≤ 90 <;> by_cases b0 : 97 ≤ c <;> by_cases b1 : c ≤ 122 <;> by_cases d0 : 48 ≤ c <;> by_cases d1 : c ≤ 57
      all_goals try (exfalso; clear g3 g5; omega)
      all_goals
        go_enter Tryz.func96, Tryz.ntmps96
        go_wp2_with fail
        all_goals first | (exfalso; omega) | (go_ret; exact ⟨by simp [a0, a1, b0, b1, d0, d1], rfl⟩)
set_option maxHeartbeats 4000000 in
theorem rfLetter_any (s : ByteArray) (w : World) (hs : s.size ≤ 100000) :
    Calls Tryz.prog 35 #[.string s] w fun e w' => e = .returned (.tuple #[.string ⟨(Fo.lt s.data.toList).1.toArray⟩, .int .i64 (Fo.lt s.data.toList).2]) ∧ w = w' := by
  unfold Fo.lt
  rw [ab_len]
  by_cases h45 : s.data.toList = [45]
  · rw [if_pos h45]
    rw [bz_eq h45]
    clear h45 hs
    go_enter Tryz.func35, Tryz.ntmps35
    go_wp2_with fail
    go_ret2
    exact ⟨rfl, rfl⟩
  · rw [if_neg h45]
    have n1 := bz_ne h45
    have n2 : (s.toList == [45]) = false := by rw [beq_eq_false_iff_ne]; exact n1
    by_cases h6 : 6 < s.size
    · rw [if_pos h6]
      have h6' : 6 < (s.size : Int) := by omega
      clear h6 h45
      go_enter Tryz.func35, Tryz.ntmps35
      go_wp2_with fail
      go_ret2
      exact ⟨rfl, rfl⟩
    · rw [if_neg h6]
      have h6' : ¬ 6 < (s.size : Int) := by omega
      clear h6 h45
      have hM : Fo.made [43, 45] s.data.toList = (s.data.toList.all Fp.okB && !s.data.toList.isEmpty) := by rw [Fp.all_eq]; rfl
      obtain ⟨b, hb⟩ : ∃ b, b = s.data.toList.all Fp.okB := ⟨_, rfl⟩
      obtain ⟨R1, R2, hR⟩ : ∃ R1 R2, (R1, R2) = (if Fo.made [43, 45] s.data.toList = false then (([] : List UInt8), (4 : Int)) else (s.data.toList, 0)) := ⟨_, _, rfl⟩
      rw [← hR]
      show Calls _ _ _ _ fun e w' => e = .returned (.tuple #[.string ⟨R1.toArray⟩, .int .i64 R2]) ∧ w = w'
      rw [hM, ← hb] at hR
      have HR := Lib.hid hR; have HB := Lib.hid hb
      clear hR hb hM
      go_enter Tryz.func35, Tryz.ntmps35
      go_wp2_with fail
      go_loopw [4] (fun i wr => ∃ k : Nat, k ≤ s.size ∧ i = .int .i64 k ∧ Hid ((s.data.toList.drop k).all Fp.okB = b) ∧ wr = w) (fun i _ => s.size - (intOf i).toNat)
      case atStart => exact ⟨0, Nat.zero_le _, rfl, HB.out.symm, rfl⟩
      case round =>
        obtain ⟨k, hk, rfl, hr, hw⟩ := hrel
        obtain rfl : w = wr := hw.symm
        by_cases hlt : k < s.size
        · have IX := fun W => rn_ix s k hlt W
          have hn := hr.out
          rw [ab_drop s k hlt, List.all_cons] at hn
          have hc := s[k].toNat_lt
          have CL : Hid (∀ W, Calls Tryz.prog 96 #[.int .u8 (s[k].toNat : Int)] W fun e w' => e = .returned (.bool (Fp.okB s[k])) ∧ W = w') := fun W => rfletter_any _ W (by omega) (by omega)
          generalize Fp.okB s[k] = b1 at hn CL
          cases b1
          · have HN := Lib.hid (show R1 = [] ∧ R2 = 4 by
              have hbf : b = false := by rw [← hn]; rfl
              have := HR.out
              rw [hbf, Bool.false_and, if_pos rfl] at this
              exact ⟨congrArg Prod.fst this, congrArg Prod.snd this⟩)
            clear hn hr HR HB
            go_wp2_with fail
            refine (CL.out _).mono ?_; rintro e w1 ⟨rfl, rfl⟩
            go_wp2_with fail
            go_ret2
            exact ⟨by rw [HN.out.1, HN.out.2]; rfl, rfl⟩
          · have HN := Lib.hid (show (s.data.toList.drop (k + 1)).all Fp.okB = b by rw [← hn, Bool.true_and])
            clear hn hr
            go_wp2_with fail
            refine (CL.out _).mono ?_; rintro e w1 ⟨rfl, rfl⟩
            go_wp2_with fail
            go_roundw
            case rel => exact ⟨k + 1, by omega, by go_num, HN, by first | rfl | trivial⟩
            case measure => simp [intOf]; omega
        · have hbt : b = true := by rw [← hr.out, List.drop_of_length_le (by rw [ab_len]; omega)]; rfl
          rcases Nat.eq_zero_or_pos s.size with h0 | h0
          · have e : s = ⟨#[]⟩ := by
              have e : s.data.toList = [] := by rw [← List.length_eq_zero_iff, ab_len]; exact h0
              apply ByteArray.ext; apply Array.toList_inj.1; rw [e]
            have HN := Lib.hid (show R1 = [] ∧ R2 = 4 by
              have := HR.out
              rw [e, if_pos (by simp)] at this
              exact ⟨congrArg Prod.fst this, congrArg Prod.snd this⟩)
            clear hr HR HB
            subst e
            go_wp2_with fail
            go_ret2
            exact ⟨by rw [HN.out.1, HN.out.2]; rfl, rfl⟩
          · obtain ⟨m1, m2⟩ := dne h0
            have HN := Lib.hid (show R1 = s.data.toList ∧ R2 = 0 by
              have := HR.out
              have hne : (!s.data.toList.isEmpty) = true := by
                have := ab_len s
                cases hl : s.data.toList with
                | nil => rw [hl] at this; simp at this; omega
                | cons _ _ => rfl
              rw [hbt, hne, if_neg (by decide)] at this
              exact ⟨congrArg Prod.fst this, congrArg Prod.snd this⟩)
            clear hr HR HB
            go_wp2_with fail
            go_ret2
            exact ⟨by rw [HN.out.1, HN.out.2, bz_id]; rfl, rfl⟩
set_option maxHeartbeats 2000000 in
theorem rfltext_any (s : ByteArray) (w : World) (hs : s.size ≤ 100000) :
    Calls Tryz.prog 51 #[.string s] w fun e w' => e = .returned (.tuple #[.string ⟨(Fo.ltx s.data.toList).1.toArray⟩, .int .i64 (Fo.ltx s.data.toList).2]) ∧ w = w' := by
  unfold Fo.ltx
  by_cases h0 : s.data.toList = []
  · rw [if_pos h0, bz_eq h0]
    clear h0 hs
    go_enter Tryz.func51, Tryz.ntmps51
    go_wp2_with fail
    go_ret2
    exact ⟨rfl, rfl⟩
  · rw [if_neg h0]
    have hp : 0 < s.size := by
      rcases Nat.eq_zero_or_pos s.size with h | h
      · exact absurd (by rw [← List.length_eq_zero_iff, ab_len]; exact h) h0
      · exact h
    obtain ⟨n1, n2⟩ := dne hp
    have C := Lib.hid (fun W => rfLetter_any s W hs)
    generalize hl : Fo.lt s.data.toList = q at C ⊢
    obtain ⟨t, e⟩ := q
    have C : Hid (∀ W, Calls Tryz.prog 35 #[.string s] W fun e' w' => e' = .returned (.tuple #[.string ⟨t.toArray⟩, .int .i64 e]) ∧ W = w') := C
    show Calls Tryz.prog 51 #[.string s] w fun e' w' => e' = .returned (.tuple #[.string ⟨(if e ≠ 0 ∨ t ≠ s.data.toList then (([] : List UInt8), (4 : Int)) else (s.data.toList, 0)).1.toArray⟩, .int .i64 (if e ≠ 0 ∨ t ≠ s.data.toList then (([] : List UInt8), (4 : Int)) else (s.data.toList, 0)).2]) ∧ w = w'
    clear hl h0
    cases he : e == 0
    · have he0 : e ≠ 0 := fun h => by rw [h] at he; cases he
      have he2 : (e != 0) = true := by unfold bne; rw [he]; rfl
      rw [if_pos (.inl he0)]
      go_enter Tryz.func51, Tryz.ntmps51
      go_wp2_with fail
      refine (C.out _).mono ?_; rintro e w1 ⟨rfl, rfl⟩
      go_wp2_with fail
      go_ret2
      exact ⟨rfl, rfl⟩
    · have he0 : e = 0 := by rw [← beq_iff_eq]; exact he
      subst he0
      by_cases ht : t = s.data.toList
      · subst ht
        rw [if_neg (fun h => by rcases h with h | h; exact h rfl; exact h rfl), bz_id]
        rw [bz_id] at C
        go_enter Tryz.func51, Tryz.ntmps51
        go_wp2_with fail
        refine (C.out _).mono ?_; rintro e w1 ⟨rfl, rfl⟩
        go_wp2_with fail
        go_ret2
        exact ⟨rfl, rfl⟩
      · rw [if_pos (.inr ht)]
        have n3 : ¬ (⟨t.toArray⟩ : ByteArray).toList = s.toList := by rw [ByteArray.toList_eq, ByteArray.toList_eq]; simpa using ht
        have n4 : ((⟨t.toArray⟩ : ByteArray).toList == s.toList) = false := by rw [beq_eq_false_iff_ne]; exact n3
        generalize (⟨t.toArray⟩ : ByteArray) = T at C n3 n4
        clear ht
        go_enter Tryz.func51, Tryz.ntmps51
        go_wp2_with fail
        refine (C.out _).mono ?_; rintro e w1 ⟨rfl, rfl⟩
        go_wp2_with fail
        go_ret2
        exact ⟨rfl, rfl⟩
end Go.Proofs.YtedbohfcbfegjaaGreatDoor
