/- Joined: QyG, LkB. -/
import Derived.Test.YtbcbggdbojonmaaGreatDoorBy01
import Derived.Test.YtbcbggdbojonmaaGreatDoorBy10
import Derived.Test.YtbcbggdbojonmaaGreatDoorBy02
import Derived.Test.YtbcbggdbojonmaaGreatDoorBy03
set_option linter.unusedVariables false
set_option linter.unusedSimpArgs false
namespace Go.Proofs.YtbcbggdbojonmaaGreatDoor
open Go.RowKit Go.Sort
set_option maxHeartbeats 4000000 in
set_option maxRecDepth 100000 in
theorem rqplain_any (k t n u p : Int) (z : ByteArray) (w : World) :
  Calls Tryz.prog 34 #[.agg #[.int .i64 k, .string z, .int .i64 t, .int .i64 n, .int .i64 u, .int .i64 p]] w fun e w' => e = .returned (.agg #[.int .i64 k, .string (if k = 0 ∨ k = 6 then ⟨#[]⟩ else z), .int .i64 (if k = 0 ∨ k = 6 then 0 else t), .int .i64 (if k = 5 ∨ k = 7 then n else 0), .int .i64 (if k = 5 then u else 0), .int .i64 (if k = 5 ∨ k = 3 then p else 0)]) ∧ Below w.heap.size w w' := by
 by_cases h0 : k = 0
 ·
  subst h0
  simp only [Int.reduceEq, or_false, false_or, or_true, true_or, or_self, if_true, if_false]
  go_enter Tryz.func34, Tryz.ntmps34
  go_wp2_with fail
  refine bodyPost_ret (v := .agg #[.int .i64 0, .string ⟨#[]⟩, .int .i64 0, .int .i64 0, .int .i64 0, .int .i64 0]) (by simp [results, Tryz.results34, go_sem]) rfl ⟨rfl, gr0⟩
 by_cases h6 : k = 6
 ·
  subst h6
  simp only [Int.reduceEq, or_false, false_or, or_true, true_or, or_self, if_true, if_false]
  go_enter Tryz.func34, Tryz.ntmps34
  go_wp2_with fail
  refine bodyPost_ret (v := .agg #[.int .i64 6, .string ⟨#[]⟩, .int .i64 0, .int .i64 0, .int .i64 0, .int .i64 0]) (by simp [results, Tryz.results34, go_sem]) rfl ⟨rfl, gr0⟩
 by_cases h5 : k = 5
 ·
  subst h5
  simp only [Int.reduceEq, or_false, false_or, or_true, true_or, or_self, if_true, if_false]
  go_enter Tryz.func34, Tryz.ntmps34
  go_wp2_with fail
  refine bodyPost_ret (v := .agg #[.int .i64 5, .string z, .int .i64 t, .int .i64 n, .int .i64 u, .int .i64 p]) (by simp [results, Tryz.results34, go_sem]) rfl ⟨rfl, gr0⟩
 by_cases h7 : k = 7
 ·
  subst h7
  simp only [Int.reduceEq, or_false, false_or, or_true, true_or, or_self, if_true, if_false]
  go_enter Tryz.func34, Tryz.ntmps34
  go_wp2_with fail
  refine bodyPost_ret (v := .agg #[.int .i64 7, .string z, .int .i64 t, .int .i64 n, .int .i64 0, .int .i64 0]) (by simp [results, Tryz.results34, go_sem]) rfl ⟨rfl, gr0⟩
 by_cases h3 : k = 3
 ·
  subst h3
  simp only [Int.reduceEq, or_false, false_or, or_true, true_or, or_self, if_true, if_false]
  go_enter Tryz.func34, Tryz.ntmps34
  go_wp2_with fail
  refine bodyPost_ret (v := .agg #[.int .i64 3, .string z, .int .i64 t, .int .i64 0, .int .i64 0, .int .i64 p]) (by simp [results, Tryz.results34, go_sem]) rfl ⟨rfl, gr0⟩
 rw [if_neg (by omega), if_neg (by omega), if_neg (by omega), if_neg (by omega), if_neg (by omega)]
 have g0 : (k == 0) = false := by rw [beq_eq_false_iff_ne]; exact h0
 have g6 : (k == 6) = false := by rw [beq_eq_false_iff_ne]; exact h6
 have g5 : (k == 5) = false := by rw [beq_eq_false_iff_ne]; exact h5
 have g7 : (k == 7) = false := by rw [beq_eq_false_iff_ne]; exact h7
 have g3 : (k == 3) = false := by rw [beq_eq_false_iff_ne]; exact h3
 go_enter Tryz.func34, Tryz.ntmps34
 go_wp2_with fail
 refine bodyPost_ret (v := .agg #[.int .i64 k, .string z, .int .i64 t, .int .i64 0, .int .i64 0, .int .i64 0]) (by simp [results, Tryz.results34, go_sem]) rfl ⟨rfl, gr0⟩
set_option maxHeartbeats 1000000 in
theorem rqwide_any (k : Int) (w : World) (h1 : 1 ≤ k) (h7 : k ≤ 7) :
  Calls Tryz.prog 25 #[.int .i64 k] w fun e w' => e = .returned (.int .i64 (if k = 3 ∨ k = 7 then 4 else if k = 5 then 6 else if k = 6 then 1 else 3)) ∧ Below w.heap.size w w' := by
 obtain rfl | rfl | rfl | rfl | rfl | rfl | rfl : k = 1 ∨ k = 2 ∨ k = 3 ∨ k = 4 ∨ k = 5 ∨ k = 6 ∨ k = 7 := by omega
 all_goals (
  go_enter Tryz.func25, Tryz.ntmps25
  go_wp2_with fail
  go_ret
  exact ⟨rfl, gr0⟩)
namespace Lk
def rr (k : Nat) (l : List UInt8) : Bool := match k, l with
 | 0, [] => false
 | 0, c :: r => bgB c && r.all gnB
 | _ + 1, l => l.all gnB
theorem rr_0 (l : List UInt8) : rr 0 l = isN l := by
 unfold rr isN
 cases l with
 | nil => rfl
 | cons c r =>
  show (bgB c && r.all gnB) = ((c :: r).all gnB && bgB c)
  rw [List.all_cons]
  cases hb : bgB c
  ·
   simp
  ·
   rw [show gnB c = true from bg_gn hb]; simp
def okAt (k : Nat) (c : UInt8) : Bool := if k = 0 then bgB c else gnB c
theorem rr_next (k : Nat) (c : UInt8) (r : List UInt8) : rr k (c :: r) = (okAt k c && rr (k + 1) r) := by
 cases k with
 | zero => rfl
 | succ k => show (c :: r).all gnB = _; rw [List.all_cons]; rfl
theorem rr_end (k : Nat) (h : 0 < k) : rr k [] = true := by
 cases k with
 | zero => omega
 | succ k => rfl
end Lk
set_option maxHeartbeats 4000000 in
set_option maxRecDepth 100000 in
theorem rrname_any (s : ByteArray) (w : World) (hs : s.size ≤ maxLen) : Calls Tryz.prog 26 #[.string s] w fun e w' => e = .returned (.int .i64 (Lk.nm s.data.toList)) ∧ w = w' := by
 unfold Lk.nm
 unfold maxLen at hs
 rw [fd_len]
 by_cases h : 64 < s.size
 ·
  rw [if_pos h]
  have h1 : 64 < (s.size : Int) := by omega
  clear h
  go_enter Tryz.func26, Tryz.ntmps26
  go_wp2_with fail
  go_ret
  exact ⟨rfl, rfl⟩
 ·
  rw [if_neg h, ← Lk.rr_0]
  have h1 : ¬ 64 < (s.size : Int) := by omega
  have hsb : s.size ≤ 64 := by omega
  clear h
  obtain ⟨tot, htot⟩ : ∃ t, t = Lk.rr 0 s.data.toList := ⟨_, rfl⟩
  rw [← htot]
  have HT := Lib.hid htot
  clear htot
  obtain ⟨ans, hans⟩ : ∃ a : Int, a = (if tot = true then 0 else 10) := ⟨_, rfl⟩
  rw [← hans]
  have HA := Lib.hid hans
  clear hans
  go_enter Tryz.func26, Tryz.ntmps26
  go_wp2_with fail
  go_loopw [3] (fun i wr => ∃ k : Nat, k ≤ s.size ∧ i = .int .i64 k ∧ Hid (Lk.rr k (s.data.toList.drop k) = tot) ∧ wr = w) (fun i _ => s.size - (intOf i).toNat)
  case atStart => exact ⟨0, Nat.zero_le _, rfl, HT.out.symm, rfl⟩
  case round =>
   obtain ⟨k, hk, rfl, hinv, hw⟩ := hrel
   obtain rfl : w = wr := hw.symm
   by_cases hlt : k < s.size
   ·
    have IX := fun W => fd_ix s k hlt W
    have hi := hinv.out
    rw [fd_drop s k hlt, Lk.rr_next] at hi
    have hgn : Lk.okAt k s[k] = if k = 0 then Lk.bg s[k].toNat else Lk.gn s[k].toNat := rfl
    rw [hgn] at hi
    clear hgn
    have hcl := s[k].toNat_lt
    obtain ⟨c, hc⟩ : ∃ c : Nat, c = s[k].toNat := ⟨_, rfl⟩
    rw [← hc] at IX hi hcl
    clear hc hinv
    rcases Nat.eq_zero_or_pos k with rfl | hk0
    ·
     rw [if_pos rfl] at hi
     obtain ⟨C, hC⟩ : ∃ C : Int, C = c := ⟨_, rfl⟩
     rw [← hC] at IX
     have IX : ∀ W, Sem.run Tryz.prog (Instr.index 9 (.string s) (.int .i64 0)) W = .ok (.int .u8 C) W := IX
     rcases (by omega : (0 ≤ c ∧ c ≤ 42) ∨ (43 ≤ c ∧ c ≤ 43) ∨ (44 ≤ c ∧ c ≤ 44) ∨ (45 ≤ c ∧ c ≤ 45) ∨ (46 ≤ c ∧ c ≤ 46) ∨ (47 ≤ c ∧ c ≤ 47) ∨ (48 ≤ c ∧ c ≤ 57) ∨ (58 ≤ c ∧ c ≤ 64) ∨ (65 ≤ c ∧ c ≤ 90) ∨ (91 ≤ c ∧ c ≤ 94) ∨ (95 ≤ c ∧ c ≤ 95) ∨ (96 ≤ c ∧ c ≤ 96) ∨ (97 ≤ c ∧ c ≤ 122) ∨ (123 ≤ c ∧ c ≤ 255)) with h | h | h | h | h | h | h | h | h | h | h | h | h | h
     ·
      have hb : Lk.bg c = false := by unfold Lk.bg; simp; omega
      rw [hb] at hi
      clear hb
      have f65 : ¬ (65 : Int) ≤ C := by omega
      have f97 : ¬ (97 : Int) ≤ C := by omega
      have f48 : ¬ (48 : Int) ≤ C := by omega
      have f90 : C ≤ (90 : Int) := by omega
      have f122 : C ≤ (122 : Int) := by omega
      have f57 : C ≤ (57 : Int) := by omega
      have q95 : (C == (95 : Int)) = false := by rw [beq_eq_false_iff_ne]; omega
      have q45 : (C == (45 : Int)) = false := by rw [beq_eq_false_iff_ne]; omega
      have q43 : (C == (43 : Int)) = false := by rw [beq_eq_false_iff_ne]; omega
      have q47 : (C == (47 : Int)) = false := by rw [beq_eq_false_iff_ne]; omega
      have q46 : (C == (46 : Int)) = false := by rw [beq_eq_false_iff_ne]; omega
      have HI := Lib.hid (show tot = false by rw [← hi]; rfl)
      clear hi hC h
      go_wp2_with fail
      go_ret
      exact ⟨by rw [HA.out, HI.out]; rfl, rfl⟩
     ·
      have hb : Lk.bg c = false := by unfold Lk.bg; simp; omega
      rw [hb] at hi
      clear hb
      obtain rfl : C = 43 := by omega
      have HI := Lib.hid (show tot = false by rw [← hi]; rfl)
      clear hi hC h
      go_wp2_with fail
      go_ret
      exact ⟨by rw [HA.out, HI.out]; rfl, rfl⟩
     ·
      have hb : Lk.bg c = false := by unfold Lk.bg; simp; omega
      rw [hb] at hi
      clear hb
      obtain rfl : C = 44 := by omega
      have HI := Lib.hid (show tot = false by rw [← hi]; rfl)
      clear hi hC h
      go_wp2_with fail
      go_ret
      exact ⟨by rw [HA.out, HI.out]; rfl, rfl⟩
     ·
      have hb : Lk.bg c = false := by unfold Lk.bg; simp; omega
      rw [hb] at hi
      clear hb
      obtain rfl : C = 45 := by omega
      have HI := Lib.hid (show tot = false by rw [← hi]; rfl)
      clear hi hC h
      go_wp2_with fail
      go_ret
      exact ⟨by rw [HA.out, HI.out]; rfl, rfl⟩
     ·
      have hb : Lk.bg c = false := by unfold Lk.bg; simp; omega
      rw [hb] at hi
      clear hb
      obtain rfl : C = 46 := by omega
      have HI := Lib.hid (show tot = false by rw [← hi]; rfl)
      clear hi hC h
      go_wp2_with fail
      go_ret
      exact ⟨by rw [HA.out, HI.out]; rfl, rfl⟩
     ·
      have hb : Lk.bg c = false := by unfold Lk.bg; simp; omega
      rw [hb] at hi
      clear hb
      obtain rfl : C = 47 := by omega
      have HI := Lib.hid (show tot = false by rw [← hi]; rfl)
      clear hi hC h
      go_wp2_with fail
      go_ret
      exact ⟨by rw [HA.out, HI.out]; rfl, rfl⟩
     ·
      have hb : Lk.bg c = false := by unfold Lk.bg; simp; omega
      rw [hb] at hi
      clear hb
      have f65 : ¬ (65 : Int) ≤ C := by omega
      have f97 : ¬ (97 : Int) ≤ C := by omega
      have f48 : (48 : Int) ≤ C := by omega
      have f90 : C ≤ (90 : Int) := by omega
      have f122 : C ≤ (122 : Int) := by omega
      have f57 : C ≤ (57 : Int) := by omega
      have q95 : (C == (95 : Int)) = false := by rw [beq_eq_false_iff_ne]; omega
      have q45 : (C == (45 : Int)) = false := by rw [beq_eq_false_iff_ne]; omega
      have q43 : (C == (43 : Int)) = false := by rw [beq_eq_false_iff_ne]; omega
      have q47 : (C == (47 : Int)) = false := by rw [beq_eq_false_iff_ne]; omega
      have q46 : (C == (46 : Int)) = false := by rw [beq_eq_false_iff_ne]; omega
      have HI := Lib.hid (show tot = false by rw [← hi]; rfl)
      clear hi hC h
      go_wp2_with fail
      go_ret
      exact ⟨by rw [HA.out, HI.out]; rfl, rfl⟩
     ·
      have hb : Lk.bg c = false := by unfold Lk.bg; simp; omega
      rw [hb] at hi
      clear hb
      have f65 : ¬ (65 : Int) ≤ C := by omega
      have f97 : ¬ (97 : Int) ≤ C := by omega
      have f48 : (48 : Int) ≤ C := by omega
      have f90 : C ≤ (90 : Int) := by omega
      have f122 : C ≤ (122 : Int) := by omega
      have f57 : ¬ C ≤ (57 : Int) := by omega
      have q95 : (C == (95 : Int)) = false := by rw [beq_eq_false_iff_ne]; omega
      have q45 : (C == (45 : Int)) = false := by rw [beq_eq_false_iff_ne]; omega
      have q43 : (C == (43 : Int)) = false := by rw [beq_eq_false_iff_ne]; omega
      have q47 : (C == (47 : Int)) = false := by rw [beq_eq_false_iff_ne]; omega
      have q46 : (C == (46 : Int)) = false := by rw [beq_eq_false_iff_ne]; omega
      have HI := Lib.hid (show tot = false by rw [← hi]; rfl)
      clear hi hC h
      go_wp2_with fail
      go_ret
      exact ⟨by rw [HA.out, HI.out]; rfl, rfl⟩
     ·
      have hb : Lk.bg c = true := by unfold Lk.bg; simp; omega
      rw [hb] at hi
      clear hb
      have f65 : (65 : Int) ≤ C := by omega
      have f97 : ¬ (97 : Int) ≤ C := by omega
      have f48 : (48 : Int) ≤ C := by omega
      have f90 : C ≤ (90 : Int) := by omega
      have f122 : C ≤ (122 : Int) := by omega
      have f57 : ¬ C ≤ (57 : Int) := by omega
      have q95 : (C == (95 : Int)) = false := by rw [beq_eq_false_iff_ne]; omega
      have q45 : (C == (45 : Int)) = false := by rw [beq_eq_false_iff_ne]; omega
      have q43 : (C == (43 : Int)) = false := by rw [beq_eq_false_iff_ne]; omega
      have q47 : (C == (47 : Int)) = false := by rw [beq_eq_false_iff_ne]; omega
      have q46 : (C == (46 : Int)) = false := by rw [beq_eq_false_iff_ne]; omega
      have HI := Lib.hid (show Lk.rr (0 + 1) (s.data.toList.drop (0 + 1)) = tot by rw [← hi]; rfl)
      clear hi hC h
      go_wp2_with fail
      go_roundw
      case rel => exact ⟨0 + 1, by omega, by go_num, HI, by first | rfl | trivial⟩
      case measure => simp [intOf]; omega
     ·
      have hb : Lk.bg c = false := by unfold Lk.bg; simp; omega
      rw [hb] at hi
      clear hb
      have f65 : (65 : Int) ≤ C := by omega
      have f97 : ¬ (97 : Int) ≤ C := by omega
      have f48 : (48 : Int) ≤ C := by omega
      have f90 : ¬ C ≤ (90 : Int) := by omega
      have f122 : C ≤ (122 : Int) := by omega
      have f57 : ¬ C ≤ (57 : Int) := by omega
      have q95 : (C == (95 : Int)) = false := by rw [beq_eq_false_iff_ne]; omega
      have q45 : (C == (45 : Int)) = false := by rw [beq_eq_false_iff_ne]; omega
      have q43 : (C == (43 : Int)) = false := by rw [beq_eq_false_iff_ne]; omega
      have q47 : (C == (47 : Int)) = false := by rw [beq_eq_false_iff_ne]; omega
      have q46 : (C == (46 : Int)) = false := by rw [beq_eq_false_iff_ne]; omega
      have HI := Lib.hid (show tot = false by rw [← hi]; rfl)
      clear hi hC h
      go_wp2_with fail
      go_ret
      exact ⟨by rw [HA.out, HI.out]; rfl, rfl⟩
     ·
      have hb : Lk.bg c = true := by unfold Lk.bg; simp; omega
      rw [hb] at hi
      clear hb
      obtain rfl : C = 95 := by omega
      have HI := Lib.hid (show Lk.rr (0 + 1) (s.data.toList.drop (0 + 1)) = tot by rw [← hi]; rfl)
      clear hi hC h
      go_wp2_with fail
      go_roundw
      case rel => exact ⟨0 + 1, by omega, by go_num, HI, by first | rfl | trivial⟩
      case measure => simp [intOf]; omega
     ·
      have hb : Lk.bg c = false := by unfold Lk.bg; simp; omega
      rw [hb] at hi
      clear hb
      obtain rfl : C = 96 := by omega
      have HI := Lib.hid (show tot = false by rw [← hi]; rfl)
      clear hi hC h
      go_wp2_with fail
      go_ret
      exact ⟨by rw [HA.out, HI.out]; rfl, rfl⟩
     ·
      have hb : Lk.bg c = true := by unfold Lk.bg; simp; omega
      rw [hb] at hi
      clear hb
      have f65 : (65 : Int) ≤ C := by omega
      have f97 : (97 : Int) ≤ C := by omega
      have f48 : (48 : Int) ≤ C := by omega
      have f90 : ¬ C ≤ (90 : Int) := by omega
      have f122 : C ≤ (122 : Int) := by omega
      have f57 : ¬ C ≤ (57 : Int) := by omega
      have q95 : (C == (95 : Int)) = false := by rw [beq_eq_false_iff_ne]; omega
      have q45 : (C == (45 : Int)) = false := by rw [beq_eq_false_iff_ne]; omega
      have q43 : (C == (43 : Int)) = false := by rw [beq_eq_false_iff_ne]; omega
      have q47 : (C == (47 : Int)) = false := by rw [beq_eq_false_iff_ne]; omega
      have q46 : (C == (46 : Int)) = false := by rw [beq_eq_false_iff_ne]; omega
      have HI := Lib.hid (show Lk.rr (0 + 1) (s.data.toList.drop (0 + 1)) = tot by rw [← hi]; rfl)
      clear hi hC h
      go_wp2_with fail
      go_roundw
      case rel => exact ⟨0 + 1, by omega, by go_num, HI, by first | rfl | trivial⟩
      case measure => simp [intOf]; omega
     ·
      have hb : Lk.bg c = false := by unfold Lk.bg; simp; omega
      rw [hb] at hi
      clear hb
      have f65 : (65 : Int) ≤ C := by omega
      have f97 : (97 : Int) ≤ C := by omega
      have f48 : (48 : Int) ≤ C := by omega
      have f90 : ¬ C ≤ (90 : Int) := by omega
      have f122 : ¬ C ≤ (122 : Int) := by omega
      have f57 : ¬ C ≤ (57 : Int) := by omega
      have q95 : (C == (95 : Int)) = false := by rw [beq_eq_false_iff_ne]; omega
      have q45 : (C == (45 : Int)) = false := by rw [beq_eq_false_iff_ne]; omega
      have q43 : (C == (43 : Int)) = false := by rw [beq_eq_false_iff_ne]; omega
      have q47 : (C == (47 : Int)) = false := by rw [beq_eq_false_iff_ne]; omega
      have q46 : (C == (46 : Int)) = false := by rw [beq_eq_false_iff_ne]; omega
      have HI := Lib.hid (show tot = false by rw [← hi]; rfl)
      clear hi hC h
      go_wp2_with fail
      go_ret
      exact ⟨by rw [HA.out, HI.out]; rfl, rfl⟩
    ·
     rw [if_neg (by omega)] at hi
     have gk : ((k : Int) == 0) = false := by rw [beq_eq_false_iff_ne]; omega
     obtain ⟨C, hC⟩ : ∃ C : Int, C = c := ⟨_, rfl⟩
     rw [← hC] at IX
     rcases (by omega : (0 ≤ c ∧ c ≤ 42) ∨ (43 ≤ c ∧ c ≤ 43) ∨ (44 ≤ c ∧ c ≤ 44) ∨ (45 ≤ c ∧ c ≤ 45) ∨ (46 ≤ c ∧ c ≤ 46) ∨ (47 ≤ c ∧ c ≤ 47) ∨ (48 ≤ c ∧ c ≤ 57) ∨ (58 ≤ c ∧ c ≤ 64) ∨ (65 ≤ c ∧ c ≤ 90) ∨ (91 ≤ c ∧ c ≤ 94) ∨ (95 ≤ c ∧ c ≤ 95) ∨ (96 ≤ c ∧ c ≤ 96) ∨ (97 ≤ c ∧ c ≤ 122) ∨ (123 ≤ c ∧ c ≤ 255)) with h | h | h | h | h | h | h | h | h | h | h | h | h | h
     ·
      have hb0 : Lk.bg c = false := by unfold Lk.bg; simp; omega
      have hb : Lk.gn c = false := by unfold Lk.gn Lk.dg Lk.sg; rw [hb0]; simp; omega
      clear hb0
      rw [hb] at hi
      clear hb
      have f65 : ¬ (65 : Int) ≤ C := by omega
      have f97 : ¬ (97 : Int) ≤ C := by omega
      have f48 : ¬ (48 : Int) ≤ C := by omega
      have f90 : C ≤ (90 : Int) := by omega
      have f122 : C ≤ (122 : Int) := by omega
      have f57 : C ≤ (57 : Int) := by omega
      have q95 : (C == (95 : Int)) = false := by rw [beq_eq_false_iff_ne]; omega
      have q45 : (C == (45 : Int)) = false := by rw [beq_eq_false_iff_ne]; omega
      have q43 : (C == (43 : Int)) = false := by rw [beq_eq_false_iff_ne]; omega
      have q47 : (C == (47 : Int)) = false := by rw [beq_eq_false_iff_ne]; omega
      have q46 : (C == (46 : Int)) = false := by rw [beq_eq_false_iff_ne]; omega
      have HI := Lib.hid (show tot = false by rw [← hi]; rfl)
      clear hi hC h
      go_wp2_with fail
      go_ret
      exact ⟨by rw [HA.out, HI.out]; rfl, rfl⟩
     ·
      have hb0 : Lk.bg c = false := by unfold Lk.bg; simp; omega
      have hb : Lk.gn c = true := by unfold Lk.gn Lk.dg Lk.sg; rw [hb0]; simp; omega
      clear hb0
      rw [hb] at hi
      clear hb
      obtain rfl : C = 43 := by omega
      have HI := Lib.hid (show Lk.rr (k + 1) (s.data.toList.drop (k + 1)) = tot by rw [← hi]; rfl)
      clear hi hC h
      go_wp2_with fail
      go_roundw
      case rel => exact ⟨k + 1, by omega, by go_num, HI, by first | rfl | trivial⟩
      case measure => simp [intOf]; omega
     ·
      have hb0 : Lk.bg c = false := by unfold Lk.bg; simp; omega
      have hb : Lk.gn c = false := by unfold Lk.gn Lk.dg Lk.sg; rw [hb0]; simp; omega
      clear hb0
      rw [hb] at hi
      clear hb
      obtain rfl : C = 44 := by omega
      have HI := Lib.hid (show tot = false by rw [← hi]; rfl)
      clear hi hC h
      go_wp2_with fail
      go_ret
      exact ⟨by rw [HA.out, HI.out]; rfl, rfl⟩
     ·
      have hb0 : Lk.bg c = false := by unfold Lk.bg; simp; omega
      have hb : Lk.gn c = true := by unfold Lk.gn Lk.dg Lk.sg; rw [hb0]; simp; omega
      clear hb0
      rw [hb] at hi
      clear hb
      obtain rfl : C = 45 := by omega
      have HI := Lib.hid (show Lk.rr (k + 1) (s.data.toList.drop (k + 1)) = tot by rw [← hi]; rfl)
      clear hi hC h
      go_wp2_with fail
      go_roundw
      case rel => exact ⟨k + 1, by omega, by go_num, HI, by first | rfl | trivial⟩
      case measure => simp [intOf]; omega
     ·
      have hb0 : Lk.bg c = false := by unfold Lk.bg; simp; omega
      have hb : Lk.gn c = true := by unfold Lk.gn Lk.dg Lk.sg; rw [hb0]; simp; omega
      clear hb0
      rw [hb] at hi
      clear hb
      obtain rfl : C = 46 := by omega
      have HI := Lib.hid (show Lk.rr (k + 1) (s.data.toList.drop (k + 1)) = tot by rw [← hi]; rfl)
      clear hi hC h
      go_wp2_with fail
      go_roundw
      case rel => exact ⟨k + 1, by omega, by go_num, HI, by first | rfl | trivial⟩
      case measure => simp [intOf]; omega
     ·
      have hb0 : Lk.bg c = false := by unfold Lk.bg; simp; omega
      have hb : Lk.gn c = true := by unfold Lk.gn Lk.dg Lk.sg; rw [hb0]; simp; omega
      clear hb0
      rw [hb] at hi
      clear hb
      obtain rfl : C = 47 := by omega
      have HI := Lib.hid (show Lk.rr (k + 1) (s.data.toList.drop (k + 1)) = tot by rw [← hi]; rfl)
      clear hi hC h
      go_wp2_with fail
      go_roundw
      case rel => exact ⟨k + 1, by omega, by go_num, HI, by first | rfl | trivial⟩
      case measure => simp [intOf]; omega
     ·
      have hb0 : Lk.bg c = false := by unfold Lk.bg; simp; omega
      have hb : Lk.gn c = true := by unfold Lk.gn Lk.dg Lk.sg; rw [hb0]; simp; omega
      clear hb0
      rw [hb] at hi
      clear hb
      have f65 : ¬ (65 : Int) ≤ C := by omega
      have f97 : ¬ (97 : Int) ≤ C := by omega
      have f48 : (48 : Int) ≤ C := by omega
      have f90 : C ≤ (90 : Int) := by omega
      have f122 : C ≤ (122 : Int) := by omega
      have f57 : C ≤ (57 : Int) := by omega
      have q95 : (C == (95 : Int)) = false := by rw [beq_eq_false_iff_ne]; omega
      have q45 : (C == (45 : Int)) = false := by rw [beq_eq_false_iff_ne]; omega
      have q43 : (C == (43 : Int)) = false := by rw [beq_eq_false_iff_ne]; omega
      have q47 : (C == (47 : Int)) = false := by rw [beq_eq_false_iff_ne]; omega
      have q46 : (C == (46 : Int)) = false := by rw [beq_eq_false_iff_ne]; omega
      have HI := Lib.hid (show Lk.rr (k + 1) (s.data.toList.drop (k + 1)) = tot by rw [← hi]; rfl)
      clear hi hC h
      go_wp2_with fail
      go_roundw
      case rel => exact ⟨k + 1, by omega, by go_num, HI, by first | rfl | trivial⟩
      case measure => simp [intOf]; omega
     ·
      have hb0 : Lk.bg c = false := by unfold Lk.bg; simp; omega
      have hb : Lk.gn c = false := by unfold Lk.gn Lk.dg Lk.sg; rw [hb0]; simp; omega
      clear hb0
      rw [hb] at hi
      clear hb
      have f65 : ¬ (65 : Int) ≤ C := by omega
      have f97 : ¬ (97 : Int) ≤ C := by omega
      have f48 : (48 : Int) ≤ C := by omega
      have f90 : C ≤ (90 : Int) := by omega
      have f122 : C ≤ (122 : Int) := by omega
      have f57 : ¬ C ≤ (57 : Int) := by omega
      have q95 : (C == (95 : Int)) = false := by rw [beq_eq_false_iff_ne]; omega
      have q45 : (C == (45 : Int)) = false := by rw [beq_eq_false_iff_ne]; omega
      have q43 : (C == (43 : Int)) = false := by rw [beq_eq_false_iff_ne]; omega
      have q47 : (C == (47 : Int)) = false := by rw [beq_eq_false_iff_ne]; omega
      have q46 : (C == (46 : Int)) = false := by rw [beq_eq_false_iff_ne]; omega
      have HI := Lib.hid (show tot = false by rw [← hi]; rfl)
      clear hi hC h
      go_wp2_with fail
      go_ret
      exact ⟨by rw [HA.out, HI.out]; rfl, rfl⟩
     ·
      have hb0 : Lk.bg c = true := by unfold Lk.bg; simp; omega
      have hb : Lk.gn c = true := by unfold Lk.gn Lk.dg Lk.sg; rw [hb0]; simp
      clear hb0
      rw [hb] at hi
      clear hb
      have f65 : (65 : Int) ≤ C := by omega
      have f97 : ¬ (97 : Int) ≤ C := by omega
      have f48 : (48 : Int) ≤ C := by omega
      have f90 : C ≤ (90 : Int) := by omega
      have f122 : C ≤ (122 : Int) := by omega
      have f57 : ¬ C ≤ (57 : Int) := by omega
      have q95 : (C == (95 : Int)) = false := by rw [beq_eq_false_iff_ne]; omega
      have q45 : (C == (45 : Int)) = false := by rw [beq_eq_false_iff_ne]; omega
      have q43 : (C == (43 : Int)) = false := by rw [beq_eq_false_iff_ne]; omega
      have q47 : (C == (47 : Int)) = false := by rw [beq_eq_false_iff_ne]; omega
      have q46 : (C == (46 : Int)) = false := by rw [beq_eq_false_iff_ne]; omega
      have HI := Lib.hid (show Lk.rr (k + 1) (s.data.toList.drop (k + 1)) = tot by rw [← hi]; rfl)
      clear hi hC h
      go_wp2_with fail
      go_roundw
      case rel => exact ⟨k + 1, by omega, by go_num, HI, by first | rfl | trivial⟩
      case measure => simp [intOf]; omega
     ·
      have hb0 : Lk.bg c = false := by unfold Lk.bg; simp; omega
      have hb : Lk.gn c = false := by unfold Lk.gn Lk.dg Lk.sg; rw [hb0]; simp; omega
      clear hb0
      rw [hb] at hi
      clear hb
      have f65 : (65 : Int) ≤ C := by omega
      have f97 : ¬ (97 : Int) ≤ C := by omega
      have f48 : (48 : Int) ≤ C := by omega
      have f90 : ¬ C ≤ (90 : Int) := by omega
      have f122 : C ≤ (122 : Int) := by omega
      have f57 : ¬ C ≤ (57 : Int) := by omega
      have q95 : (C == (95 : Int)) = false := by rw [beq_eq_false_iff_ne]; omega
      have q45 : (C == (45 : Int)) = false := by rw [beq_eq_false_iff_ne]; omega
      have q43 : (C == (43 : Int)) = false := by rw [beq_eq_false_iff_ne]; omega
      have q47 : (C == (47 : Int)) = false := by rw [beq_eq_false_iff_ne]; omega
      have q46 : (C == (46 : Int)) = false := by rw [beq_eq_false_iff_ne]; omega
      have HI := Lib.hid (show tot = false by rw [← hi]; rfl)
      clear hi hC h
      go_wp2_with fail
      go_ret
      exact ⟨by rw [HA.out, HI.out]; rfl, rfl⟩
     ·
      have hb0 : Lk.bg c = true := by unfold Lk.bg; simp; omega
      have hb : Lk.gn c = true := by unfold Lk.gn Lk.dg Lk.sg; rw [hb0]; simp
      clear hb0
      rw [hb] at hi
      clear hb
      obtain rfl : C = 95 := by omega
      have HI := Lib.hid (show Lk.rr (k + 1) (s.data.toList.drop (k + 1)) = tot by rw [← hi]; rfl)
      clear hi hC h
      go_wp2_with fail
      go_roundw
      case rel => exact ⟨k + 1, by omega, by go_num, HI, by first | rfl | trivial⟩
      case measure => simp [intOf]; omega
     ·
      have hb0 : Lk.bg c = false := by unfold Lk.bg; simp; omega
      have hb : Lk.gn c = false := by unfold Lk.gn Lk.dg Lk.sg; rw [hb0]; simp; omega
      clear hb0
      rw [hb] at hi
      clear hb
      obtain rfl : C = 96 := by omega
      have HI := Lib.hid (show tot = false by rw [← hi]; rfl)
      clear hi hC h
      go_wp2_with fail
      go_ret
      exact ⟨by rw [HA.out, HI.out]; rfl, rfl⟩
     ·
      have hb0 : Lk.bg c = true := by unfold Lk.bg; simp; omega
      have hb : Lk.gn c = true := by unfold Lk.gn Lk.dg Lk.sg; rw [hb0]; simp
      clear hb0
      rw [hb] at hi
      clear hb
      have f65 : (65 : Int) ≤ C := by omega
      have f97 : (97 : Int) ≤ C := by omega
      have f48 : (48 : Int) ≤ C := by omega
      have f90 : ¬ C ≤ (90 : Int) := by omega
      have f122 : C ≤ (122 : Int) := by omega
      have f57 : ¬ C ≤ (57 : Int) := by omega
      have q95 : (C == (95 : Int)) = false := by rw [beq_eq_false_iff_ne]; omega
      have q45 : (C == (45 : Int)) = false := by rw [beq_eq_false_iff_ne]; omega
      have q43 : (C == (43 : Int)) = false := by rw [beq_eq_false_iff_ne]; omega
      have q47 : (C == (47 : Int)) = false := by rw [beq_eq_false_iff_ne]; omega
      have q46 : (C == (46 : Int)) = false := by rw [beq_eq_false_iff_ne]; omega
      have HI := Lib.hid (show Lk.rr (k + 1) (s.data.toList.drop (k + 1)) = tot by rw [← hi]; rfl)
      clear hi hC h
      go_wp2_with fail
      go_roundw
      case rel => exact ⟨k + 1, by omega, by go_num, HI, by first | rfl | trivial⟩
      case measure => simp [intOf]; omega
     ·
      have hb0 : Lk.bg c = false := by unfold Lk.bg; simp; omega
      have hb : Lk.gn c = false := by unfold Lk.gn Lk.dg Lk.sg; rw [hb0]; simp; omega
      clear hb0
      rw [hb] at hi
      clear hb
      have f65 : (65 : Int) ≤ C := by omega
      have f97 : (97 : Int) ≤ C := by omega
      have f48 : (48 : Int) ≤ C := by omega
      have f90 : ¬ C ≤ (90 : Int) := by omega
      have f122 : ¬ C ≤ (122 : Int) := by omega
      have f57 : ¬ C ≤ (57 : Int) := by omega
      have q95 : (C == (95 : Int)) = false := by rw [beq_eq_false_iff_ne]; omega
      have q45 : (C == (45 : Int)) = false := by rw [beq_eq_false_iff_ne]; omega
      have q43 : (C == (43 : Int)) = false := by rw [beq_eq_false_iff_ne]; omega
      have q47 : (C == (47 : Int)) = false := by rw [beq_eq_false_iff_ne]; omega
      have q46 : (C == (46 : Int)) = false := by rw [beq_eq_false_iff_ne]; omega
      have HI := Lib.hid (show tot = false by rw [← hi]; rfl)
      clear hi hC h
      go_wp2_with fail
      go_ret
      exact ⟨by rw [HA.out, HI.out]; rfl, rfl⟩
   ·
    obtain rfl : k = s.size := by omega
    have hend := hinv.out
    rw [List.drop_of_length_le (by rw [fd_len]; omega)] at hend
    clear hinv
    rcases Nat.eq_zero_or_pos s.size with h0 | h0
    ·
     obtain rfl : s = ⟨#[]⟩ := by
      apply ByteArray.ext; apply Array.toList_inj.1
      rw [show s.data.toList = [] by rw [← List.length_eq_zero_iff, fd_len]; exact h0]
     have HI := Lib.hid (show tot = false by rw [← hend]; rfl)
     clear hend
     go_wp2_with fail
     go_ret
     exact ⟨by rw [HA.out, HI.out]; rfl, rfl⟩
    ·
     obtain ⟨n1, n2⟩ := fd_ne h0
     have HI := Lib.hid (show tot = true by rw [← hend]; exact Lk.rr_end _ h0)
     clear hend
     go_wp2_with fail
     go_ret
     exact ⟨by rw [HA.out, HI.out]; rfl, rfl⟩
end Go.Proofs.YtbcbggdbojonmaaGreatDoor
