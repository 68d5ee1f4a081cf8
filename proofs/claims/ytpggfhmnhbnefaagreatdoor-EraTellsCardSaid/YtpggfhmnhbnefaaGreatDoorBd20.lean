/- Joined: LkB, FpA, DrR, RefA0, RefB0, DrR2. -/
import Derived.Test.YtpggfhmnhbnefaaGreatDoorBd02
import Derived.Test.YtpggfhmnhbnefaaGreatDoorBd08
import Derived.Test.YtpggfhmnhbnefaaGreatDoorBd01
set_option linter.unusedVariables false
set_option linter.unusedSimpArgs false
namespace Go.Proofs.YtpggfhmnhbnefaaGreatDoor
open Go.RowKit Go.Sort
namespace Lk
def rr (k : Nat) (l : List UInt8) : Bool := match k, l with
 | 0, [] => false
 | 0, c :: r => bgB c && r.all gnB
 | _ + 1, l => l.all gnB
theorem rr_0 (l : List UInt8) : rr 0 l = isN l := by
 unfold rr isN
 cases l with
 | nil => rfl
 | cons c r =>
  show (bgB c && r.all gnB) = ((c :: r).all gnB && bgB c)
  rw [List.all_cons]
  cases hb : bgB c
  ·
   simp
  ·
   rw [show gnB c = true from bg_gn hb]; simp
def okAt (k : Nat) (c : UInt8) : Bool := if k = 0 then bgB c else gnB c
theorem rr_next (k : Nat) (c : UInt8) (r : List UInt8) : rr k (c :: r) = (okAt k c && rr (k + 1) r) := by
 cases k with
 | zero => rfl
 | succ k => show (c :: r).all gnB = _; rw [List.all_cons]; rfl
theorem rr_end (k : Nat) (h : 0 < k) : rr k [] = true := by
 cases k with
 | zero => omega
 | succ k => rfl
end Lk
set_option maxHeartbeats 4000000 in
set_option maxRecDepth 100000 in
theorem rrname_any (s : ByteArray) (w : World) (hs : s.size ≤ maxLen) : Calls Tryz.prog 16 #[.string s] w fun e w' => e = .returned (.int .i64 (Lk.nm s.data.toList)) ∧ w = w' := by
 unfold Lk.nm
 unfold maxLen at hs
 rw [fd_len]
 by_cases h : 64 < s.size
 ·
  rw [if_pos h]
  have h1 : 64 < (s.size : Int) := by omega
  clear h
  go_enter Tryz.func16, Tryz.ntmps16
  go_wp2_with fail
  go_ret
  exact ⟨rfl, rfl⟩
 ·
  rw [if_neg h, ← Lk.rr_0]
  have h1 : ¬ 64 < (s.size : Int) := by omega
  have hsb : s.size ≤ 64 := by omega
  clear h
  obtain ⟨tot, htot⟩ : ∃ t, t = Lk.rr 0 s.data.toList := ⟨_, rfl⟩
  rw [← htot]
  have HT := Lib.hid htot
  clear htot
  obtain ⟨ans, hans⟩ : ∃ a : Int, a = (if tot = true then 0 else 10) := ⟨_, rfl⟩
  rw [← hans]
  have HA := Lib.hid hans
  clear hans
  go_enter Tryz.func16, Tryz.ntmps16
  go_wp2_with fail
  go_loopw [3] (fun i wr => ∃ k : Nat, k ≤ s.size ∧ i = .int .i64 k ∧ Hid (Lk.rr k (s.data.toList.drop k) = tot) ∧ wr = w) (fun i _ => s.size - (intOf i).toNat)
  case atStart => exact ⟨0, Nat.zero_le _, rfl, HT.out.symm, rfl⟩
  case round =>
   obtain ⟨k, hk, rfl, hinv, hw⟩ := hrel
   obtain rfl : w = wr := hw.symm
   by_cases hlt : k < s.size
   ·
    have IX := fun W => fd_ix s k hlt W
    have hi := hinv.out
    rw [fd_drop s k hlt, Lk.rr_next] at hi
    have hgn : Lk.okAt k s[k] = if k = 0 then Lk.bg s[k].toNat else Lk.gn s[k].toNat := rfl
    rw [hgn] at hi
    clear hgn
    have hcl := s[k].toNat_lt
    obtain ⟨c, hc⟩ : ∃ c : Nat, c = s[k].toNat := ⟨_, rfl⟩
    rw [← hc] at IX hi hcl
    clear hc hinv
    rcases Nat.eq_zero_or_pos k with rfl | hk0
    ·
     rw [if_pos rfl] at hi
     obtain ⟨C, hC⟩ : ∃ C : Int, C = c := ⟨_, rfl⟩
     rw [← hC] at IX
     have IX : ∀ W, Sem.run Tryz.prog (Instr.index 9 (.string s) (.int .i64 0)) W = .ok (.int .u8 C) W := IX
     rcases (by omega : (0 ≤ c ∧ c ≤ 42) ∨ (43 ≤ c ∧ c ≤ 43) ∨ (44 ≤ c ∧ c ≤ 44) ∨ (45 ≤ c ∧ c ≤ 45) ∨ (46 ≤ c ∧ c ≤ 46) ∨ (47 ≤ c ∧ c ≤ 47) ∨ (48 ≤ c ∧ c ≤ 57) ∨ (58 ≤ c ∧ c ≤ 64) ∨ (65 ≤ c ∧ c ≤ 90) ∨ (91 ≤ c ∧ c ≤ 94) ∨ (95 ≤ c ∧ c ≤ 95) ∨ (96 ≤ c ∧ c ≤ 96) ∨ (97 ≤ c ∧ c ≤ 122) ∨ (123 ≤ c ∧ c ≤ 255)) with h | h | h | h | h | h | h | h | h | h | h | h | h | h
     ·
      have hb : Lk.bg c = false := by unfold Lk.bg; simp; omega
      rw [hb] at hi
      clear hb
      have f65 : ¬ (65 : Int) ≤ C := by omega
      have f97 : ¬ (97 : Int) ≤ C := by omega
      have f48 : ¬ (48 : Int) ≤ C := by omega
      have f90 : C ≤ (90 : Int) := by omega
      have f122 : C ≤ (122 : Int) := by omega
      have f57 : C ≤ (57 : Int) := by omega
      have q95 : (C == (95 : Int)) = false := by rw [beq_eq_false_iff_ne]; omega
      have q45 : (C == (45 : Int)) = false := by rw [beq_eq_false_iff_ne]; omega
      have q43 : (C == (43 : Int)) = false := by rw [beq_eq_false_iff_ne]; omega
      have q47 : (C == (47 : Int)) = false := by rw [beq_eq_false_iff_ne]; omega
      have q46 : (C == (46 : Int)) = false := by rw [beq_eq_false_iff_ne]; omega
      have HI := Lib.hid (show tot = false by rw [← hi]; rfl)
      clear hi hC h
      go_wp2_with fail
      go_ret
      exact ⟨by rw [HA.out, HI.out]; rfl, rfl⟩
     ·
      have hb : Lk.bg c = false := by unfold Lk.bg; simp; omega
      rw [hb] at hi
      clear hb
      obtain rfl : C = 43 := by omega
      have HI := Lib.hid (show tot = false by rw [← hi]; rfl)
      clear hi hC h
      go_wp2_with fail
      go_ret
      exact ⟨by rw [HA.out, HI.out]; rfl, rfl⟩
     ·
      have hb : Lk.bg c = false := by unfold Lk.bg; simp; omega
      rw [hb] at hi
      clear hb
      obtain rfl : C = 44 := by omega
      have HI := Lib.hid (show tot = false by rw [← hi]; rfl)
      clear hi hC h
      go_wp2_with fail
      go_ret
      exact ⟨by rw [HA.out, HI.out]; rfl, rfl⟩
     ·
      have hb : Lk.bg c = false := by unfold Lk.bg; simp; omega
      rw [hb] at hi
      clear hb
      obtain rfl : C = 45 := by omega
      have HI := Lib.hid (show tot = false by rw [← hi]; rfl)
      clear hi hC h
      go_wp2_with fail
      go_ret
      exact ⟨by rw [HA.out, HI.out]; rfl, rfl⟩
     ·
      have hb : Lk.bg c = false := by unfold Lk.bg; simp; omega
      rw [hb] at hi
      clear hb
      obtain rfl : C = 46 := by omega
      have HI := Lib.hid (show tot = false by rw [← hi]; rfl)
      clear hi hC h
      go_wp2_with fail
      go_ret
      exact ⟨by rw [HA.out, HI.out]; rfl, rfl⟩
     ·
      have hb : Lk.bg c = false := by unfold Lk.bg; simp; omega
      rw [hb] at hi
      clear hb
      obtain rfl : C = 47 := by omega
      have HI := Lib.hid (show tot = false by rw [← hi]; rfl)
      clear hi hC h
      go_wp2_with fail
      go_ret
      exact ⟨by rw [HA.out, HI.out]; rfl, rfl⟩
     ·
      have hb : Lk.bg c = false := by unfold Lk.bg; simp; omega
      rw [hb] at hi
      clear hb
      have f65 : ¬ (65 : Int) ≤ C := by omega
      have f97 : ¬ (97 : Int) ≤ C := by omega
      have f48 : (48 : Int) ≤ C := by omega
      have f90 : C ≤ (90 : Int) := by omega
      have f122 : C ≤ (122 : Int) := by omega
      have f57 : C ≤ (57 : Int) := by omega
      have q95 : (C == (95 : Int)) = false := by rw [beq_eq_false_iff_ne]; omega
      have q45 : (C == (45 : Int)) = false := by rw [beq_eq_false_iff_ne]; omega
      have q43 : (C == (43 : Int)) = false := by rw [beq_eq_false_iff_ne]; omega
      have q47 : (C == (47 : Int)) = false := by rw [beq_eq_false_iff_ne]; omega
      have q46 : (C == (46 : Int)) = false := by rw [beq_eq_false_iff_ne]; omega
      have HI := Lib.hid (show tot = false by rw [← hi]; rfl)
      clear hi hC h
      go_wp2_with fail
      go_ret
      exact ⟨by rw [HA.out, HI.out]; rfl, rfl⟩
     ·
      have hb : Lk.bg c = false := by unfold Lk.bg; simp; omega
      rw [hb] at hi
      clear hb
      have f65 : ¬ (65 : Int) ≤ C := by omega
      have f97 : ¬ (97 : Int) ≤ C := by omega
      have f48 : (48 : Int) ≤ C := by omega
      have f90 : C ≤ (90 : Int) := by omega
      have f122 : C ≤ (122 : Int) := by omega
      have f57 : ¬ C ≤ (57 : Int) := by omega
      have q95 : (C == (95 : Int)) = false := by rw [beq_eq_false_iff_ne]; omega
      have q45 : (C == (45 : Int)) = false := by rw [beq_eq_false_iff_ne]; omega
      have q43 : (C == (43 : Int)) = false := by rw [beq_eq_false_iff_ne]; omega
      have q47 : (C == (47 : Int)) = false := by rw [beq_eq_false_iff_ne]; omega
      have q46 : (C == (46 : Int)) = false := by rw [beq_eq_false_iff_ne]; omega
      have HI := Lib.hid (show tot = false by rw [← hi]; rfl)
      clear hi hC h
      go_wp2_with fail
      go_ret
      exact ⟨by rw [HA.out, HI.out]; rfl, rfl⟩
     ·
      have hb : Lk.bg c = true := by unfold Lk.bg; simp; omega
      rw [hb] at hi
      clear hb
      have f65 : (65 : Int) ≤ C := by omega
      have f97 : ¬ (97 : Int) ≤ C := by omega
      have f48 : (48 : Int) ≤ C := by omega
      have f90 : C ≤ (90 : Int) := by omega
      have f122 : C ≤ (122 : Int) := by omega
      have f57 : ¬ C ≤ (57 : Int) := by omega
      have q95 : (C == (95 : Int)) = false := by rw [beq_eq_false_iff_ne]; omega
      have q45 : (C == (45 : Int)) = false := by rw [beq_eq_false_iff_ne]; omega
      have q43 : (C == (43 : Int)) = false := by rw [beq_eq_false_iff_ne]; omega
      have q47 : (C == (47 : Int)) = false := by rw [beq_eq_false_iff_ne]; omega
      have q46 : (C == (46 : Int)) = false := by rw [beq_eq_false_iff_ne]; omega
      have HI := Lib.hid (show Lk.rr (0 + 1) (s.data.toList.drop (0 + 1)) = tot by rw [← hi]; rfl)
      clear hi hC h
      go_wp2_with fail
      go_roundw
      case rel => exact ⟨0 + 1, by omega, by go_num, HI, by first | rfl | trivial⟩
      case measure => simp [intOf]; omega
     ·
      have hb : Lk.bg c = false := by unfold Lk.bg; simp; omega
      rw [hb] at hi
      clear hb
      have f65 : (65 : Int) ≤ C := by omega
      have f97 : ¬ (97 : Int) ≤ C := by omega
      have f48 : (48 : Int) ≤ C := by omega
      have f90 : ¬ C ≤ (90 : Int) := by omega
      have f122 : C ≤ (122 : Int) := by omega
      have f57 : ¬ C ≤ (57 : Int) := by omega
      have q95 : (C == (95 : Int)) = false := by rw [beq_eq_false_iff_ne]; omega
      have q45 : (C == (45 : Int)) = false := by rw [beq_eq_false_iff_ne]; omega
      have q43 : (C == (43 : Int)) = false := by rw [beq_eq_false_iff_ne]; omega
      have q47 : (C == (47 : Int)) = false := by rw [beq_eq_false_iff_ne]; omega
      have q46 : (C == (46 : Int)) = false := by rw [beq_eq_false_iff_ne]; omega
      have HI := Lib.hid (show tot = false by rw [← hi]; rfl)
      clear hi hC h
      go_wp2_with fail
      go_ret
      exact ⟨by rw [HA.out, HI.out]; rfl, rfl⟩
     ·
      have hb : Lk.bg c = true := by unfold Lk.bg; simp; omega
      rw [hb] at hi
      clear hb
      obtain rfl : C = 95 := by omega
      have HI := Lib.hid (show Lk.rr (0 + 1) (s.data.toList.drop (0 + 1)) = tot by rw [← hi]; rfl)
      clear hi hC h
      go_wp2_with fail
      go_roundw
      case rel => exact ⟨0 + 1, by omega, by go_num, HI, by first | rfl | trivial⟩
      case measure => simp [intOf]; omega
     ·
      have hb : Lk.bg c = false := by unfold Lk.bg; simp; omega
      rw [hb] at hi
      clear hb
      obtain rfl : C = 96 := by omega
      have HI := Lib.hid (show tot = false by rw [← hi]; rfl)
      clear hi hC h
      go_wp2_with fail
      go_ret
      exact ⟨by rw [HA.out, HI.out]; rfl, rfl⟩
     ·
      have hb : Lk.bg c = true := by unfold Lk.bg; simp; omega
      rw [hb] at hi
      clear hb
      have f65 : (65 : Int) ≤ C := by omega
      have f97 : (97 : Int) ≤ C := by omega
      have f48 : (48 : Int) ≤ C := by omega
      have f90 : ¬ C ≤ (90 : Int) := by omega
      have f122 : C ≤ (122 : Int) := by omega
      have f57 : ¬ C ≤ (57 : Int) := by omega
      have q95 : (C == (95 : Int)) = false := by rw [beq_eq_false_iff_ne]; omega
      have q45 : (C == (45 : Int)) = false := by rw [beq_eq_false_iff_ne]; omega
      have q43 : (C == (43 : Int)) = false := by rw [beq_eq_false_iff_ne]; omega
      have q47 : (C == (47 : Int)) = false := by rw [beq_eq_false_iff_ne]; omega
      have q46 : (C == (46 : Int)) = false := by rw [beq_eq_false_iff_ne]; omega
      have HI := Lib.hid (show Lk.rr (0 + 1) (s.data.toList.drop (0 + 1)) = tot by rw [← hi]; rfl)
      clear hi hC h
      go_wp2_with fail
      go_roundw
      case rel => exact ⟨0 + 1, by omega, by go_num, HI, by first | rfl | trivial⟩
      case measure => simp [intOf]; omega
     ·
      have hb : Lk.bg c = false := by unfold Lk.bg; simp; omega
      rw [hb] at hi
      clear hb
      have f65 : (65 : Int) ≤ C := by omega
      have f97 : (97 : Int) ≤ C := by omega
      have f48 : (48 : Int) ≤ C := by omega
      have f90 : ¬ C ≤ (90 : Int) := by omega
      have f122 : ¬ C ≤ (122 : Int) := by omega
      have f57 : ¬ C ≤ (57 : Int) := by omega
      have q95 : (C == (95 : Int)) = false := by rw [beq_eq_false_iff_ne]; omega
      have q45 : (C == (45 : Int)) = false := by rw [beq_eq_false_iff_ne]; omega
      have q43 : (C == (43 : Int)) = false := by rw [beq_eq_false_iff_ne]; omega
      have q47 : (C == (47 : Int)) = false := by rw [beq_eq_false_iff_ne]; omega
      have q46 : (C == (46 : Int)) = false := by rw [beq_eq_false_iff_ne]; omega
      have HI := Lib.hid (show tot = false by rw [← hi]; rfl)
      clear hi hC h
      go_wp2_with fail
      go_ret
      exact ⟨by rw [HA.out, HI.out]; rfl, rfl⟩
    ·
     rw [if_neg (by omega)] at hi
     have gk : ((k : Int) == 0) = false := by rw [beq_eq_false_iff_ne]; omega
     obtain ⟨C, hC⟩ : ∃ C : Int, C = c := ⟨_, rfl⟩
     rw [← hC] at IX
     rcases (by omega : (0 ≤ c ∧ c ≤ 42) ∨ (43 ≤ c ∧ c ≤ 43) ∨ (44 ≤ c ∧ c ≤ 44) ∨ (45 ≤ c ∧ c ≤ 45) ∨ (46 ≤ c ∧ c ≤ 46) ∨ (47 ≤ c ∧ c ≤ 47) ∨ (48 ≤ c ∧ c ≤ 57) ∨ (58 ≤ c ∧ c ≤ 64) ∨ (65 ≤ c ∧ c ≤ 90) ∨ (91 ≤ c ∧ c ≤ 94) ∨ (95 ≤ c ∧ c ≤ 95) ∨ (96 ≤ c ∧ c ≤ 96) ∨ (97 ≤ c ∧ c ≤ 122) ∨ (123 ≤ c ∧ c ≤ 255)) with h | h | h | h | h | h | h | h | h | h | h | h | h | h
     ·
      have hb0 : Lk.bg c = false := by unfold Lk.bg; simp; omega
      have hb : Lk.gn c = false := by unfold Lk.gn Lk.dg Lk.sg; rw [hb0]; simp; omega
      clear hb0
      rw [hb] at hi
      clear hb
      have f65 : ¬ (65 : Int) ≤ C := by omega
      have f97 : ¬ (97 : Int) ≤ C := by omega
      have f48 : ¬ (48 : Int) ≤ C := by omega
      have f90 : C ≤ (90 : Int) := by omega
      have f122 : C ≤ (122 : Int) := by omega
      have f57 : C ≤ (57 : Int) := by omega
      have q95 : (C == (95 : Int)) = false := by rw [beq_eq_false_iff_ne]; omega
      have q45 : (C == (45 : Int)) = false := by rw [beq_eq_false_iff_ne]; omega
      have q43 : (C == (43 : Int)) = false := by rw [beq_eq_false_iff_ne]; omega
      have q47 : (C == (47 : Int)) = false := by rw [beq_eq_false_iff_ne]; omega
      have q46 : (C == (46 : Int)) = false := by rw [beq_eq_false_iff_ne]; omega
      have HI := Lib.hid (show tot = false by rw [← hi]; rfl)
      clear hi hC h
      go_wp2_with fail
      go_ret
      exact ⟨by rw [HA.out, HI.out]; rfl, rfl⟩
     ·
      have hb0 : Lk.bg c = false := by unfold Lk.bg; simp; omega
      have hb : Lk.gn c = true := by unfold Lk.gn Lk.dg Lk.sg; rw [hb0]; simp; omega
      clear hb0
      rw [hb] at hi
      clear hb
      obtain rfl : C = 43 := by omega
      have HI := Lib.hid (show Lk.rr (k + 1) (s.data.toList.drop (k + 1)) = tot by rw [← hi]; rfl)
      clear hi hC h
      go_wp2_with fail
      go_roundw
      case rel => exact ⟨k + 1, by omega, by go_num, HI, by first | rfl | trivial⟩
      case measure => simp [intOf]; omega
     ·
      have hb0 : Lk.bg c = false := by unfold Lk.bg; simp; omega
      have hb : Lk.gn c = false := by unfold Lk.gn Lk.dg Lk.sg; rw [hb0]; simp; omega
      clear hb0
      rw [hb] at hi
      clear hb
      obtain rfl : C = 44 := by omega
      have HI := Lib.hid (show tot = false by rw [← hi]; rfl)
      clear hi hC h
      go_wp2_with fail
      go_ret
      exact ⟨by rw [HA.out, HI.out]; rfl, rfl⟩
     ·
      have hb0 : Lk.bg c = false := by unfold Lk.bg; simp; omega
      have hb : Lk.gn c = true := by unfold Lk.gn Lk.dg Lk.sg; rw [hb0]; simp; omega
      clear hb0
      rw [hb] at hi
      clear hb
      obtain rfl : C = 45 := by omega
      have HI := Lib.hid (show Lk.rr (k + 1) (s.data.toList.drop (k + 1)) = tot by rw [← hi]; rfl)
      clear hi hC h
      go_wp2_with fail
      go_roundw
      case rel => exact ⟨k + 1, by omega, by go_num, HI, by first | rfl | trivial⟩
      case measure => simp [intOf]; omega
     ·
      have hb0 : Lk.bg c = false := by unfold Lk.bg; simp; omega
      have hb : Lk.gn c = true := by unfold Lk.gn Lk.dg Lk.sg; rw [hb0]; simp; omega
      clear hb0
      rw [hb] at hi
      clear hb
      obtain rfl : C = 46 := by omega
      have HI := Lib.hid (show Lk.rr (k + 1) (s.data.toList.drop (k + 1)) = tot by rw [← hi]; rfl)
      clear hi hC h
      go_wp2_with fail
      go_roundw
      case rel => exact ⟨k + 1, by omega, by go_num, HI, by first | rfl | trivial⟩
      case measure => simp [intOf]; omega
     ·
      have hb0 : Lk.bg c = false := by unfold Lk.bg; simp; omega
      have hb : Lk.gn c = true := by unfold Lk.gn Lk.dg Lk.sg; rw [hb0]; simp; omega
      clear hb0
      rw [hb] at hi
      clear hb
      obtain rfl : C = 47 := by omega
      have HI := Lib.hid (show Lk.rr (k + 1) (s.data.toList.drop (k + 1)) = tot by rw [← hi]; rfl)
      clear hi hC h
      go_wp2_with fail
      go_roundw
      case rel => exact ⟨k + 1, by omega, by go_num, HI, by first | rfl | trivial⟩
      case measure => simp [intOf]; omega
     ·
      have hb0 : Lk.bg c = false := by unfold Lk.bg; simp; omega
      have hb : Lk.gn c = true := by unfold Lk.gn Lk.dg Lk.sg; rw [hb0]; simp; omega
      clear hb0
      rw [hb] at hi
      clear hb
      have f65 : ¬ (65 : Int) ≤ C := by omega
      have f97 : ¬ (97 : Int) ≤ C := by omega
      have f48 : (48 : Int) ≤ C := by omega
      have f90 : C ≤ (90 : Int) := by omega
      have f122 : C ≤ (122 : Int) := by omega
      have f57 : C ≤ (57 : Int) := by omega
      have q95 : (C == (95 : Int)) = false := by rw [beq_eq_false_iff_ne]; omega
      have q45 : (C == (45 : Int)) = false := by rw [beq_eq_false_iff_ne]; omega
      have q43 : (C == (43 : Int)) = false := by rw [beq_eq_false_iff_ne]; omega
      have q47 : (C == (47 : Int)) = false := by rw [beq_eq_false_iff_ne]; omega
      have q46 : (C == (46 : Int)) = false := by rw [beq_eq_false_iff_ne]; omega
      have HI := Lib.hid (show Lk.rr (k + 1) (s.data.toList.drop (k + 1)) = tot by rw [← hi]; rfl)
      clear hi hC h
      go_wp2_with fail
      go_roundw
      case rel => exact ⟨k + 1, by omega, by go_num, HI, by first | rfl | trivial⟩
      case measure => simp [intOf]; omega
     ·
      have hb0 : Lk.bg c = false := by unfold Lk.bg; simp; omega
      have hb : Lk.gn c = false := by unfold Lk.gn Lk.dg Lk.sg; rw [hb0]; simp; omega
      clear hb0
      rw [hb] at hi
      clear hb
      have f65 : ¬ (65 : Int) ≤ C := by omega
      have f97 : ¬ (97 : Int) ≤ C := by omega
      have f48 : (48 : Int) ≤ C := by omega
      have f90 : C ≤ (90 : Int) := by omega
      have f122 : C ≤ (122 : Int) := by omega
      have f57 : ¬ C ≤ (57 : Int) := by omega
      have q95 : (C == (95 : Int)) = false := by rw [beq_eq_false_iff_ne]; omega
      have q45 : (C == (45 : Int)) = false := by rw [beq_eq_false_iff_ne]; omega
      have q43 : (C == (43 : Int)) = false := by rw [beq_eq_false_iff_ne]; omega
      have q47 : (C == (47 : Int)) = false := by rw [beq_eq_false_iff_ne]; omega
      have q46 : (C == (46 : Int)) = false := by rw [beq_eq_false_iff_ne]; omega
      have HI := Lib.hid (show tot = false by rw [← hi]; rfl)
      clear hi hC h
      go_wp2_with fail
      go_ret
      exact ⟨by rw [HA.out, HI.out]; rfl, rfl⟩
     ·
      have hb0 : Lk.bg c = true := by unfold Lk.bg; simp; omega
      have hb : Lk.gn c = true := by unfold Lk.gn Lk.dg Lk.sg; rw [hb0]; simp
      clear hb0
      rw [hb] at hi
      clear hb
      have f65 : (65 : Int) ≤ C := by omega
      have f97 : ¬ (97 : Int) ≤ C := by omega
      have f48 : (48 : Int) ≤ C := by omega
      have f90 : C ≤ (90 : Int) := by omega
      have f122 : C ≤ (122 : Int) := by omega
      have f57 : ¬ C ≤ (57 : Int) := by omega
      have q95 : (C == (95 : Int)) = false := by rw [beq_eq_false_iff_ne]; omega
      have q45 : (C == (45 : Int)) = false := by rw [beq_eq_false_iff_ne]; omega
      have q43 : (C == (43 : Int)) = false := by rw [beq_eq_false_iff_ne]; omega
      have q47 : (C == (47 : Int)) = false := by rw [beq_eq_false_iff_ne]; omega
      have q46 : (C == (46 : Int)) = false := by rw [beq_eq_false_iff_ne]; omega
      have HI := Lib.hid (show Lk.rr (k + 1) (s.data.toList.drop (k + 1)) = tot by rw [← hi]; rfl)
      clear hi hC h
      go_wp2_with fail
      go_roundw
      case rel => exact ⟨k + 1, by omega, by go_num, HI, by first | rfl | trivial⟩
      case measure => simp [intOf]; omega
     ·
      have hb0 : Lk.bg c = false := by unfold Lk.bg; simp; omega
      have hb : Lk.gn c = false := by unfold Lk.gn Lk.dg Lk.sg; rw [hb0]; simp; omega
      clear hb0
      rw [hb] at hi
      clear hb
      have f65 : (65 : Int) ≤ C := by omega
      have f97 : ¬ (97 : Int) ≤ C := by omega
      have f48 : (48 : Int) ≤ C := by omega
      have f90 : ¬ C ≤ (90 : Int) := by omega
      have f122 : C ≤ (122 : Int) := by omega
      have f57 : ¬ C ≤ (57 : Int) := by omega
      have q95 : (C == (95 : Int)) = false := by rw [beq_eq_false_iff_ne]; omega
      have q45 : (C == (45 : Int)) = false := by rw [beq_eq_false_iff_ne]; omega
      have q43 : (C == (43 : Int)) = false := by rw [beq_eq_false_iff_ne]; omega
      have q47 : (C == (47 : Int)) = false := by rw [beq_eq_false_iff_ne]; omega
      have q46 : (C == (46 : Int)) = false := by rw [beq_eq_false_iff_ne]; omega
      have HI := Lib.hid (show tot = false by rw [← hi]; rfl)
      clear hi hC h
      go_wp2_with fail
      go_ret
      exact ⟨by rw [HA.out, HI.out]; rfl, rfl⟩
     ·
      have hb0 : Lk.bg c = true := by unfold Lk.bg; simp; omega
      have hb : Lk.gn c = true := by unfold Lk.gn Lk.dg Lk.sg; rw [hb0]; simp
      clear hb0
      rw [hb] at hi
      clear hb
      obtain rfl : C = 95 := by omega
      have HI := Lib.hid (show Lk.rr (k + 1) (s.data.toList.drop (k + 1)) = tot by rw [← hi]; rfl)
      clear hi hC h
      go_wp2_with fail
      go_roundw
      case rel => exact ⟨k + 1, by omega, by go_num, HI, by first | rfl | trivial⟩
      case measure => simp [intOf]; omega
     ·
      have hb0 : Lk.bg c = false := by unfold Lk.bg; simp; omega
      have hb : Lk.gn c = false := by unfold Lk.gn Lk.dg Lk.sg; rw [hb0]; simp; omega
      clear hb0
      rw [hb] at hi
      clear hb
      obtain rfl : C = 96 := by omega
      have HI := Lib.hid (show tot = false by rw [← hi]; rfl)
      clear hi hC h
      go_wp2_with fail
      go_ret
      exact ⟨by rw [HA.out, HI.out]; rfl, rfl⟩
     ·
      have hb0 : Lk.bg c = true := by unfold Lk.bg; simp; omega
      have hb : Lk.gn c = true := by unfold Lk.gn Lk.dg Lk.sg; rw [hb0]; simp
      clear hb0
      rw [hb] at hi
      clear hb
      have f65 : (65 : Int) ≤ C := by omega
      have f97 : (97 : Int) ≤ C := by omega
      have f48 : (48 : Int) ≤ C := by omega
      have f90 : ¬ C ≤ (90 : Int) := by omega
      have f122 : C ≤ (122 : Int) := by omega
      have f57 : ¬ C ≤ (57 : Int) := by omega
      have q95 : (C == (95 : Int)) = false := by rw [beq_eq_false_iff_ne]; omega
      have q45 : (C == (45 : Int)) = false := by rw [beq_eq_false_iff_ne]; omega
      have q43 : (C == (43 : Int)) = false := by rw [beq_eq_false_iff_ne]; omega
      have q47 : (C == (47 : Int)) = false := by rw [beq_eq_false_iff_ne]; omega
      have q46 : (C == (46 : Int)) = false := by rw [beq_eq_false_iff_ne]; omega
      have HI := Lib.hid (show Lk.rr (k + 1) (s.data.toList.drop (k + 1)) = tot by rw [← hi]; rfl)
      clear hi hC h
      go_wp2_with fail
      go_roundw
      case rel => exact ⟨k + 1, by omega, by go_num, HI, by first | rfl | trivial⟩
      case measure => simp [intOf]; omega
     ·
      have hb0 : Lk.bg c = false := by unfold Lk.bg; simp; omega
      have hb : Lk.gn c = false := by unfold Lk.gn Lk.dg Lk.sg; rw [hb0]; simp; omega
      clear hb0
      rw [hb] at hi
      clear hb
      have f65 : (65 : Int) ≤ C := by omega
      have f97 : (97 : Int) ≤ C := by omega
      have f48 : (48 : Int) ≤ C := by omega
      have f90 : ¬ C ≤ (90 : Int) := by omega
      have f122 : ¬ C ≤ (122 : Int) := by omega
      have f57 : ¬ C ≤ (57 : Int) := by omega
      have q95 : (C == (95 : Int)) = false := by rw [beq_eq_false_iff_ne]; omega
      have q45 : (C == (45 : Int)) = false := by rw [beq_eq_false_iff_ne]; omega
      have q43 : (C == (43 : Int)) = false := by rw [beq_eq_false_iff_ne]; omega
      have q47 : (C == (47 : Int)) = false := by rw [beq_eq_false_iff_ne]; omega
      have q46 : (C == (46 : Int)) = false := by rw [beq_eq_false_iff_ne]; omega
      have HI := Lib.hid (show tot = false by rw [← hi]; rfl)
      clear hi hC h
      go_wp2_with fail
      go_ret
      exact ⟨by rw [HA.out, HI.out]; rfl, rfl⟩
   ·
    obtain rfl : k = s.size := by omega
    have hend := hinv.out
    rw [List.drop_of_length_le (by rw [fd_len]; omega)] at hend
    clear hinv
    rcases Nat.eq_zero_or_pos s.size with h0 | h0
    ·
     obtain rfl : s = ⟨#[]⟩ := by
      apply ByteArray.ext; apply Array.toList_inj.1
      rw [show s.data.toList = [] by rw [← List.length_eq_zero_iff, fd_len]; exact h0]
     have HI := Lib.hid (show tot = false by rw [← hend]; rfl)
     clear hend
     go_wp2_with fail
     go_ret
     exact ⟨by rw [HA.out, HI.out]; rfl, rfl⟩
    ·
     obtain ⟨n1, n2⟩ := fd_ne h0
     have HI := Lib.hid (show tot = true by rw [← hend]; exact Lk.rr_end _ h0)
     clear hend
     go_wp2_with fail
     go_ret
     exact ⟨by rw [HA.out, HI.out]; rfl, rfl⟩
end Go.Proofs.YtpggfhmnhbnefaaGreatDoor
set_option linter.unusedVariables false
set_option linter.unusedSimpArgs false
namespace Go.Proofs.YtpggfhmnhbnefaaGreatDoor
open Go.RowKit
namespace Fp
def isR (c : Int) : Bool := Fo.isL c || (decide (c = 43) || decide (c = 45))
def okB (c : UInt8) : Bool := isR (c.toNat : Int)
def fr (c : UInt8) (at_ : Int) : List UInt8 → Int → Int
 | [], _ => at_
 | b :: t, k => if b = c then (if 0 ≤ at_ then -2 else fr c k t (k + 1)) else fr c at_ t (k + 1)
theorem okB_eq (c : UInt8) : okB c = (Fo.isB c || ([43, 45] : List UInt8).contains c) := by
 unfold okB isR Fo.isB
 congr 1
 rw [List.contains_cons, List.contains_cons, List.contains_nil, Bool.or_false]
 congr 1
 ·
  rw [Bool.eq_iff_iff, decide_eq_true_eq, beq_iff_eq, ← UInt8.toNat_inj]
  show _ ↔ c.toNat = 43
  omega
 ·
  rw [Bool.eq_iff_iff, decide_eq_true_eq, beq_iff_eq, ← UInt8.toNat_inj]
  show _ ↔ c.toNat = 45
  omega
end Fp
set_option maxHeartbeats 4000000 in
theorem rfletter_any (c : Int) (w : World) (h0 : 0 ≤ c) (h1 : c ≤ 255) :
  Calls Tryz.prog 96 #[.int .u8 c] w fun e w' => e = .returned (.bool (Fp.isR c)) ∧ w = w' := by
 by_cases e3 : c = 43
 ·
  subst e3
  go_enter Tryz.func96, Tryz.ntmps96
  go_wp2_with fail
  go_ret
  exact ⟨rfl, rfl⟩
 ·
  by_cases e5 : c = 45
  ·
   subst e5
   go_enter Tryz.func96, Tryz.ntmps96
   go_wp2_with fail
   go_ret
   exact ⟨rfl, rfl⟩
  ·
   have g3 : (c == 43) = false := by rw [beq_eq_false_iff_ne]; exact e3
   have g5 : (c == 45) = false := by rw [beq_eq_false_iff_ne]; exact e5
   unfold Fp.isR Fo.isL
   rw [decide_eq_false e3, decide_eq_false e5]
   by_cases a0 : 65 ≤ c <;> by_cases a1 : c ≤ 90 <;> by_cases b0 : 97 ≤ c <;> by_cases b1 : c ≤ 122 <;> by_cases d0 : 48 ≤ c <;> by_cases d1 : c ≤ 57
   all_goals try (exfalso; clear g3 g5; omega)
   all_goals
    go_enter Tryz.func96, Tryz.ntmps96
    go_wp2_with fail
    all_goals first | (exfalso; omega) | (go_ret; exact ⟨by simp [a0, a1, b0, b1, d0, d1], rfl⟩)
set_option maxHeartbeats 1000000 in
theorem roright_any (k wk d : Int) (w : World) :
  Calls Tryz.prog 105 #[.agg #[.int .i64 k, .int .i64 wk, .int .i64 d]] w fun e w' => e = .returned (.bool (Dr.onR k wk d)) ∧ Below w.heap.size w w' := by
 by_cases h1 : 1 ≤ d
 ·
  by_cases h2 : 0 ≤ wk
  ·
   by_cases hk : k = 0 ∨ k = 1 ∨ k = 2 ∨ k = 3
   ·
    rcases hk with rfl | rfl | rfl | rfl
    all_goals
     go_enter Tryz.func105, Tryz.ntmps105
     go_wp2
     all_goals
      go_ret
      refine ⟨?_, by go_grown⟩
      exact on_br (by rw [Dr.onR_true]; simp; omega)
   ·
    have b0 : (k == 0) = false := by simp; omega
    have b1 : (k == 1) = false := by simp; omega
    have b2 : (k == 2) = false := by simp; omega
    have b3 : (k == 3) = false := by simp; omega
    go_enter Tryz.func105, Tryz.ntmps105
    go_wp2
    all_goals
     go_ret
     refine ⟨?_, by go_grown⟩
     exact on_br (by rw [Dr.onR_true]; simp; omega)
  ·
   have h2' : decide (0 ≤ wk) = false := by simpa using h2
   by_cases hk : k = 0 ∨ k = 1 ∨ k = 2 ∨ k = 3
   ·
    rcases hk with rfl | rfl | rfl | rfl
    all_goals
     go_enter Tryz.func105, Tryz.ntmps105
     go_wp2
     all_goals
      go_ret
      refine ⟨?_, by go_grown⟩
      exact on_br (by rw [Dr.onR_true]; simp; omega)
   ·
    have b0 : (k == 0) = false := by simp; omega
    have b1 : (k == 1) = false := by simp; omega
    have b2 : (k == 2) = false := by simp; omega
    have b3 : (k == 3) = false := by simp; omega
    go_enter Tryz.func105, Tryz.ntmps105
    go_wp2
    all_goals
     go_ret
     refine ⟨?_, by go_grown⟩
     exact on_br (by rw [Dr.onR_true]; simp; omega)
 ·
  have h1' : decide (1 ≤ d) = false := by simpa using h1
  by_cases h2 : 0 ≤ wk
  ·
   by_cases hk : k = 0 ∨ k = 1 ∨ k = 2 ∨ k = 3
   ·
    rcases hk with rfl | rfl | rfl | rfl
    all_goals
     go_enter Tryz.func105, Tryz.ntmps105
     go_wp2
     all_goals
      go_ret
      refine ⟨?_, by go_grown⟩
      exact on_br (by rw [Dr.onR_true]; simp; omega)
   ·
    have b0 : (k == 0) = false := by simp; omega
    have b1 : (k == 1) = false := by simp; omega
    have b2 : (k == 2) = false := by simp; omega
    have b3 : (k == 3) = false := by simp; omega
    go_enter Tryz.func105, Tryz.ntmps105
    go_wp2
    all_goals
     go_ret
     refine ⟨?_, by go_grown⟩
     exact on_br (by rw [Dr.onR_true]; simp; omega)
  ·
   have h2' : decide (0 ≤ wk) = false := by simpa using h2
   by_cases hk : k = 0 ∨ k = 1 ∨ k = 2 ∨ k = 3
   ·
    rcases hk with rfl | rfl | rfl | rfl
    all_goals
     go_enter Tryz.func105, Tryz.ntmps105
     go_wp2
     all_goals
      go_ret
      refine ⟨?_, by go_grown⟩
      exact on_br (by rw [Dr.onR_true]; simp; omega)
   ·
    have b0 : (k == 0) = false := by simp; omega
    have b1 : (k == 1) = false := by simp; omega
    have b2 : (k == 2) = false := by simp; omega
    have b3 : (k == 3) = false := by simp; omega
    go_enter Tryz.func105, Tryz.ntmps105
    go_wp2
    all_goals
     go_ret
     refine ⟨?_, by go_grown⟩
     exact on_br (by rw [Dr.onR_true]; simp; omega)
set_option maxHeartbeats 400000 in
theorem rleap_any (y : Int) (w : World) :
  Calls Tryz.prog 155 #[.int .i64 y] w fun e w' => e = .returned (.bool (lpB y)) ∧ w = w' := by
 have t4 := tmod_zero y 4
 have t100 := tmod_zero y 100
 have t400 := tmod_zero y 400
 go_enter Tryz.func155, Tryz.ntmps155
 go_wp2
 all_goals go_ret
 all_goals (refine ⟨?_, rfl⟩; rw [lpB_eq])
 ·
  have h4 : y % 4 = 0 := by assumption
  have h100 : y % 100 = 0 := (tz y 100).1 (by assumption)
  simp [h4, h100]
 ·
  have h4 : y % 4 = 0 := by assumption
  have h100 : ¬ y % 100 = 0 := fun h => absurd ((tz y 100).2 h) (by assumption)
  simp [h4, h100]
 ·
  have h4 : ¬ y % 4 = 0 := by assumption
  have h400 : ¬ y % 400 = 0 := by omega
  rw [show (y % 4 == 0) = false by simpa using h4, show (y % 400 == 0) = false by simpa using h400]; rfl
set_option maxHeartbeats 2000000 in
theorem rlen_any (y m : Int) (w : World) :
  Calls Tryz.prog 109 #[.int .i64 y, .int .i64 m] w fun e w' => e = .returned (.int .i64 (Cal.len y m)) ∧ Below w.heap.size w w' := by
 by_cases h : 1 ≤ m ∧ m ≤ 12
 ·
  by_cases h2 : m = 2
  ·
   subst h2
   have hl : Cal.len y 2 = 28 + Cal.lp y := by simp [Cal.len]
   rw [hl]; clear hl h
   cases hb : lpB y
   ·
    have v := lp_false hb
    have V := Lib.hid v; clear v
    go_enter Tryz.func109, Tryz.ntmps109
    go_wp2_with (go_at_call 155; refine (rleap_any _ _).mono ?_; rintro e w' ⟨rfl, rfl⟩)
    go_ret; exact ⟨ret_int (by have := V.out; omega), by go_grown⟩
   ·
    have v := lp_true hb
    have V := Lib.hid v; clear v
    go_enter Tryz.func109, Tryz.ntmps109
    go_wp2_with (go_at_call 155; refine (rleap_any _ _).mono ?_; rintro e w' ⟨rfl, rfl⟩)
    go_ret; exact ⟨ret_int (by have := V.out; omega), by go_grown⟩
  ·
   rcases Cal.twelve h.1 h.2 with rfl | rfl | rfl | rfl | rfl | rfl | rfl | rfl | rfl | rfl | rfl | rfl
   case inr.inl => exact absurd rfl h2
   all_goals
    clear h h2
    go_enter Tryz.func109, Tryz.ntmps109
    go_wp2
    go_ret; exact ⟨rfl, by go_grown⟩
 ·
  have hl : Cal.len y m = 0 := by unfold Cal.len; rw [if_neg (by omega), if_neg (by omega), if_neg (by omega)]
  rw [hl]; clear hl
  by_cases h1 : m < 1
  ·
   clear h
   go_enter Tryz.func109, Tryz.ntmps109
   go_wp2
   go_ret; exact ⟨rfl, by go_grown⟩
  ·
   have h12 : 12 < m := by omega
   clear h
   go_enter Tryz.func109, Tryz.ntmps109
   go_wp2
   go_ret; exact ⟨rfl, by go_grown⟩
end Go.Proofs.YtpggfhmnhbnefaaGreatDoor
set_option linter.unusedVariables false
set_option linter.unusedSimpArgs false
namespace Go.Proofs.YtpggfhmnhbnefaaGreatDoor
open Go.RowKit Go.Sort
theorem roright_b (k wk d : Int) (b : Bool) (w : World) (h : Dr.onR k wk d = b) :
  Calls Tryz.prog 105 #[.agg #[.int .i64 k, .int .i64 wk, .int .i64 d]] w fun e w' => e = .returned (.bool b) ∧ Below w.heap.size w w' := by
 rw [← h]; exact roright_any k wk d w
set_option maxHeartbeats 2000000 in
theorem rofits_any (k wk d m : Int) (w : World) :
  Calls Tryz.prog 56 #[.agg #[.int .i64 k, .int .i64 wk, .int .i64 d], .int .i64 m] w fun e w' => e = .returned (.bool (Dr.onF k wk d m)) ∧ Below w.heap.size w w' := by
 cases hr : Dr.onR k wk d
 ·
  have HR := Lib.hid hr; clear hr
  go_enter Tryz.func56, Tryz.ntmps56
  go_wp2_with fail
  refine wp_named ?_; intro w1 hw1
  have d1 : Below w.heap.size w w1 := by rw [hw1]; exact gr0
  have B1 := Lib.hid d1
  have O1 : Bk3 w1 (w.heap.size) (.int .i64 k) (.int .i64 wk) (.int .i64 d) := by rw [hw1]; exact ⟨by simp <;> omega, by intro j; simp [go_sem], by simp [go_sem], by simp [go_sem], by simp [go_sem]⟩
  clear d1 hw1
  have qO_0 := cell_regrown O1.k0
  have qO_1 := cell_regrown O1.k1
  have qO_2 := cell_regrown O1.k2
  refine wp_region_qb (w := w1) (by kernel_rfl) (by kernel_rfl) gr0 ?_
  repeat (any_goals (first | go_big_quiet_step (first | (go_at_call 105; exact Calls.regrown_of (roright_b k wk d false _ HR.out))) | quiet_step (first | (go_at_call 105; exact Calls.regrown_of (roright_b k wk d false _ HR.out)))))
  refine wpQuiet_nil ?_
  intro w2 hq
  have b2 : Below w1.heap.size w1 w2 := by obtain ⟨p, hq⟩ := hq; rw [hq]; exact below_regrown _ _ _
  clear hq qO_0 qO_1 qO_2
  have d2 : Below w1.heap.size w1 w2 := below_step gr0 b2
  have B2 := Lib.hid (below_step B1.out d2)
  have O2 := O1.keep d2
  clear O1 b2 d2 B1
  go_wp2
  go_ret
  refine ⟨fits_br (by rw [Dr.onF_true]; simp [HR.out]), ?_⟩
  exact (grB B2)
 ·
  have HR := Lib.hid hr; clear hr
  by_cases h1 : 1 ≤ m
  ·
   by_cases h2 : m ≤ 12
   ·
    go_enter Tryz.func56, Tryz.ntmps56
    go_wp2_with fail
    refine wp_named ?_; intro w1 hw1
    have d1 : Below w.heap.size w w1 := by rw [hw1]; exact gr0
    have B1 := Lib.hid d1
    have O1 : Bk3 w1 (w.heap.size) (.int .i64 k) (.int .i64 wk) (.int .i64 d) := by rw [hw1]; exact ⟨by simp <;> omega, by intro j; simp [go_sem], by simp [go_sem], by simp [go_sem], by simp [go_sem]⟩
    clear d1 hw1
    have qO_0 := cell_regrown O1.k0
    have qO_1 := cell_regrown O1.k1
    have qO_2 := cell_regrown O1.k2
    refine wp_region_qb (w := w1) (by kernel_rfl) (by kernel_rfl) gr0 ?_
    repeat (any_goals (first | go_big_quiet_step (first | (go_at_call 105; exact Calls.regrown_of (roright_b k wk d true _ HR.out)) | (go_at_call 109; exact Calls.regrown_of (rlen_any _ _ _))) | quiet_step (first | (go_at_call 105; exact Calls.regrown_of (roright_b k wk d true _ HR.out)) | (go_at_call 109; exact Calls.regrown_of (rlen_any _ _ _)))))
    refine wpQuiet_nil ?_
    intro w2 hq
    have b2 : Below w1.heap.size w1 w2 := by obtain ⟨p, hq⟩ := hq; rw [hq]; exact below_regrown _ _ _
    clear hq qO_0 qO_1 qO_2
    have d2 : Below w1.heap.size w1 w2 := below_step gr0 b2
    have B2 := Lib.hid (below_step B1.out d2)
    have O2 := O1.keep d2
    clear O1 b2 d2 B1
    go_wp2
    go_ret
    refine ⟨fits_br (by rw [Dr.onF_true]; simp [HR.out]; omega), ?_⟩
    exact (grB B2)
   ·
    have h2' : decide (m ≤ 12) = false := by simpa using h2
    go_enter Tryz.func56, Tryz.ntmps56
    go_wp2_with fail
    refine wp_named ?_; intro w1 hw1
    have d1 : Below w.heap.size w w1 := by rw [hw1]; exact gr0
    have B1 := Lib.hid d1
    have O1 : Bk3 w1 (w.heap.size) (.int .i64 k) (.int .i64 wk) (.int .i64 d) := by rw [hw1]; exact ⟨by simp <;> omega, by intro j; simp [go_sem], by simp [go_sem], by simp [go_sem], by simp [go_sem]⟩
    clear d1 hw1
    have qO_0 := cell_regrown O1.k0
    have qO_1 := cell_regrown O1.k1
    have qO_2 := cell_regrown O1.k2
    refine wp_region_qb (w := w1) (by kernel_rfl) (by kernel_rfl) gr0 ?_
    repeat (any_goals (first | go_big_quiet_step (first | (go_at_call 105; exact Calls.regrown_of (roright_b k wk d true _ HR.out))) | quiet_step (first | (go_at_call 105; exact Calls.regrown_of (roright_b k wk d true _ HR.out)))))
    refine wpQuiet_nil ?_
    intro w2 hq
    have b2 : Below w1.heap.size w1 w2 := by obtain ⟨p, hq⟩ := hq; rw [hq]; exact below_regrown _ _ _
    clear hq qO_0 qO_1 qO_2
    have d2 : Below w1.heap.size w1 w2 := below_step gr0 b2
    have B2 := Lib.hid (below_step B1.out d2)
    have O2 := O1.keep d2
    clear O1 b2 d2 B1
    go_wp2
    go_ret
    refine ⟨fits_br (by rw [Dr.onF_true]; simp [HR.out]; omega), ?_⟩
    exact (grB B2)
  ·
   have h1' : decide (1 ≤ m) = false := by simpa using h1
   go_enter Tryz.func56, Tryz.ntmps56
   go_wp2_with fail
   refine wp_named ?_; intro w1 hw1
   have d1 : Below w.heap.size w w1 := by rw [hw1]; exact gr0
   have B1 := Lib.hid d1
   have O1 : Bk3 w1 (w.heap.size) (.int .i64 k) (.int .i64 wk) (.int .i64 d) := by rw [hw1]; exact ⟨by simp <;> omega, by intro j; simp [go_sem], by simp [go_sem], by simp [go_sem], by simp [go_sem]⟩
   clear d1 hw1
   have qO_0 := cell_regrown O1.k0
   have qO_1 := cell_regrown O1.k1
   have qO_2 := cell_regrown O1.k2
   refine wp_region_qb (w := w1) (by kernel_rfl) (by kernel_rfl) gr0 ?_
   repeat (any_goals (first | go_big_quiet_step (first | (go_at_call 105; exact Calls.regrown_of (roright_b k wk d true _ HR.out))) | quiet_step (first | (go_at_call 105; exact Calls.regrown_of (roright_b k wk d true _ HR.out)))))
   refine wpQuiet_nil ?_
   intro w2 hq
   have b2 : Below w1.heap.size w1 w2 := by obtain ⟨p, hq⟩ := hq; rw [hq]; exact below_regrown _ _ _
   clear hq qO_0 qO_1 qO_2
   have d2 : Below w1.heap.size w1 w2 := below_step gr0 b2
   have B2 := Lib.hid (below_step B1.out d2)
   have O2 := O1.keep d2
   clear O1 b2 d2 B1
   go_wp2
   go_ret
   refine ⟨fits_br (by rw [Dr.onF_true]; simp [HR.out]; omega), ?_⟩
   exact (grB B2)
end Go.Proofs.YtpggfhmnhbnefaaGreatDoor
