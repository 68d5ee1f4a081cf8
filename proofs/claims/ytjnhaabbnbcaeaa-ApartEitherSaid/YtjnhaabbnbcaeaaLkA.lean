/- Names: which bytes begin one, which go on; the program's Name. -/
import Derived.Test.YtjnhaabbnbcaeaaFdS
import Derived.Test.YtjnhaabbnbcaeaaLaidK
import Derived.Lib.IndexAny
import Derived.Shelf.Small.Strs
set_option linter.unusedVariables false
set_option linter.unusedSimpArgs false
namespace Go.Proofs.Ytjnhaabbnbcaeaa
open Go.RowKit Go.Sort

namespace Lk
def bg (c : Nat) : Bool := (decide (65 ≤ c) && decide (c ≤ 90)) || (decide (97 ≤ c) && decide (c ≤ 122)) || decide (c = 95)
def dg (c : Nat) : Bool := decide (48 ≤ c) && decide (c ≤ 57)
def sg (c : Nat) : Bool := decide (c = 45) || decide (c = 43) || decide (c = 47) || decide (c = 46)
def gn (c : Nat) : Bool := bg c || dg c || sg c
def bgB (c : UInt8) : Bool := bg c.toNat
def gnB (c : UInt8) : Bool := gn c.toNat
/-- May a text be a name? -/
def isN (l : List UInt8) : Bool := l.all gnB && (match l with | [] => false | c :: _ => bgB c)
/-- Why a text is no name. -/
def nm (l : List UInt8) : Int := if 64 < l.length then 9 else if isN l = true then 0 else 10
theorem bg_gn {c : Nat} (h : bg c = true) : gn c = true := by unfold gn; rw [h]; rfl
theorem sg_of (c : UInt8) : decide (0 ≤ Lib.indexByte [45, 43, 47, 46] c) = sg c.toNat := by
  have h : ∀ n : Fin 256, decide (0 ≤ Lib.indexByte [45, 43, 47, 46] (UInt8.ofNat n.1)) = sg n.1 := by decide +kernel
  have := h ⟨c.toNat, c.toNat_lt⟩
  simpa using this
end Lk
set_option maxRecDepth 100000 in
theorem nbegins_any (c : Nat) (w : World) (hc : c ≤ 255) : Calls Try.prog 44 #[.int .u8 (c : Int)] w fun e w' => e = .returned (.bool (Lk.bg c)) ∧ w = w' := by
  unfold Lk.bg
  obtain ⟨C, hC⟩ : ∃ C : Int, C = c := ⟨_, rfl⟩
  rw [← hC]
  rcases (by omega : (0 ≤ c ∧ c ≤ 64) ∨ (65 ≤ c ∧ c ≤ 90) ∨ (91 ≤ c ∧ c ≤ 94) ∨ (95 ≤ c ∧ c ≤ 95) ∨ (96 ≤ c ∧ c ≤ 96) ∨ (97 ≤ c ∧ c ≤ 122) ∨ (123 ≤ c ∧ c ≤ 255)) with h | h | h | h | h | h | h
  · have hb : (decide (65 ≤ c) && decide (c ≤ 90) || (decide (97 ≤ c) && decide (c ≤ 122)) || decide (c = 95)) = false := by
      simp; omega
    rw [hb]; clear hb
    have f65 : ¬ (65 : Int) ≤ C := by omega
    have f97 : ¬ (97 : Int) ≤ C := by omega
    have f90 : C ≤ (90 : Int) := by omega
    have f122 : C ≤ (122 : Int) := by omega
    have q95 : (C == (95 : Int)) = false := by rw [beq_eq_false_iff_ne]; omega
    clear hC h
    go_enter Try.func44, Try.ntmps44
    go_wp2_with fail
    go_ret
    exact ⟨rfl, rfl⟩
  · have hb : (decide (65 ≤ c) && decide (c ≤ 90) || (decide (97 ≤ c) && decide (c ≤ 122)) || decide (c = 95)) = true := by
      simp; omega
    rw [hb]; clear hb
    have f65 : (65 : Int) ≤ C := by omega
    have f97 : ¬ (97 : Int) ≤ C := by omega
    have f90 : C ≤ (90 : Int) := by omega
    have f122 : C ≤ (122 : Int) := by omega
    have q95 : (C == (95 : Int)) = false := by rw [beq_eq_false_iff_ne]; omega
    clear hC h
    go_enter Try.func44, Try.ntmps44
    go_wp2_with fail
    go_ret
    exact ⟨rfl, rfl⟩
  · have hb : (decide (65 ≤ c) && decide (c ≤ 90) || (decide (97 ≤ c) && decide (c ≤ 122)) || decide (c = 95)) = false := by
      simp; omega
    rw [hb]; clear hb
    have f65 : (65 : Int) ≤ C := by omega
    have f97 : ¬ (97 : Int) ≤ C := by omega
    have f90 : ¬ C ≤ (90 : Int) := by omega
    have f122 : C ≤ (122 : Int) := by omega
    have q95 : (C == (95 : Int)) = false := by rw [beq_eq_false_iff_ne]; omega
    clear hC h
    go_enter Try.func44, Try.ntmps44
    go_wp2_with fail
    go_ret
    exact ⟨rfl, rfl⟩
  · have hb : (decide (65 ≤ c) && decide (c ≤ 90) || (decide (97 ≤ c) && decide (c ≤ 122)) || decide (c = 95)) = true := by
      simp; omega
    rw [hb]; clear hb
    obtain rfl : C = 95 := by omega
    clear hC h
    go_enter Try.func44, Try.ntmps44
    go_wp2_with fail
    go_ret
    exact ⟨rfl, rfl⟩
  · have hb : (decide (65 ≤ c) && decide (c ≤ 90) || (decide (97 ≤ c) && decide (c ≤ 122)) || decide (c = 95)) = false := by
      simp; omega
    rw [hb]; clear hb
    have f65 : (65 : Int) ≤ C := by omega
    have f97 : ¬ (97 : Int) ≤ C := by omega
    have f90 : ¬ C ≤ (90 : Int) := by omega
    have f122 : C ≤ (122 : Int) := by omega
    have q95 : (C == (95 : Int)) = false := by rw [beq_eq_false_iff_ne]; omega
    clear hC h
    go_enter Try.func44, Try.ntmps44
    go_wp2_with fail
    go_ret
    exact ⟨rfl, rfl⟩
  · have hb : (decide (65 ≤ c) && decide (c ≤ 90) || (decide (97 ≤ c) && decide (c ≤ 122)) || decide (c = 95)) = true := by
      simp; omega
    rw [hb]; clear hb
    have f65 : (65 : Int) ≤ C := by omega
    have f97 : (97 : Int) ≤ C := by omega
    have f90 : ¬ C ≤ (90 : Int) := by omega
    have f122 : C ≤ (122 : Int) := by omega
    have q95 : (C == (95 : Int)) = false := by rw [beq_eq_false_iff_ne]; omega
    clear hC h
    go_enter Try.func44, Try.ntmps44
    go_wp2_with fail
    go_ret
    exact ⟨rfl, rfl⟩
  · have hb : (decide (65 ≤ c) && decide (c ≤ 90) || (decide (97 ≤ c) && decide (c ≤ 122)) || decide (c = 95)) = false := by
      simp; omega
    rw [hb]; clear hb
    have f65 : (65 : Int) ≤ C := by omega
    have f97 : (97 : Int) ≤ C := by omega
    have f90 : ¬ C ≤ (90 : Int) := by omega
    have f122 : ¬ C ≤ (122 : Int) := by omega
    have q95 : (C == (95 : Int)) = false := by rw [beq_eq_false_iff_ne]; omega
    clear hC h
    go_enter Try.func44, Try.ntmps44
    go_wp2_with fail
    go_ret
    exact ⟨rfl, rfl⟩
theorem nindex_any (c : UInt8) (w : World) : Calls Try.prog 55 #[.string ⟨#[45, 43, 47, 46]⟩, .int .u8 c.toNat] w fun e w' => ∃ i : Int, e = .returned (.int .i64 i) ∧ decide (0 ≤ i) = Lk.sg c.toNat ∧ w' = w := by
  have := Any.strings_IndexByte Try.lays137 ⟨#[45, 43, 47, 46]⟩ c.toNat w
  refine this.mono ?_
  rintro e w' ⟨he, hw⟩
  refine ⟨_, he, ?_, hw⟩
  rw [show ((c.toNat : Int)).toNat.toUInt8 = c by simp]
  exact Lk.sg_of c
set_option maxRecDepth 100000 in
theorem ngoes_any (c : UInt8) (w : World) : Calls Try.prog 43 #[.int .u8 c.toNat] w fun e w' => e = .returned (.bool (Lk.gn c.toNat)) ∧ w = w' := by
  have B := Lib.hid (fun W => nbegins_any c.toNat W (by have := c.toNat_lt; omega))
  have I := Lib.hid (fun W => nindex_any c W)
  unfold Lk.gn
  have hd : Lk.dg c.toNat = (decide ((48 : Int) ≤ (c.toNat : Int)) && decide ((c.toNat : Int) ≤ 57)) := by
    unfold Lk.dg
    rw [Bool.eq_iff_iff]; simp; omega
  generalize Lk.bg c.toNat = b at B ⊢
  generalize Lk.sg c.toNat = q at I ⊢
  generalize Lk.dg c.toNat = d at hd ⊢
  generalize (c.toNat : Int) = C at B I hd
  cases b
  · by_cases h1 : (48 : Int) ≤ C
    · by_cases h2 : C ≤ 57
      · rw [decide_eq_true h1, decide_eq_true h2] at hd
        subst hd
        clear I
        go_enter Try.func43, Try.ntmps43
        go_wp2_with fail
        refine (B.out _).mono ?_; rintro e w1 ⟨rfl, rfl⟩
        go_wp2_with fail
        go_ret
        exact ⟨rfl, rfl⟩
      · rw [decide_eq_true h1, decide_eq_false h2] at hd
        subst hd
        go_enter Try.func43, Try.ntmps43
        go_wp2_with fail
        refine (B.out _).mono ?_; rintro e w1 ⟨rfl, rfl⟩
        go_wp2_with fail
        refine (I.out _).mono ?_; rintro e w1 ⟨i, rfl, hq, rfl⟩
        cases q
        · have hq := of_decide_eq_false hq
          go_wp2_with fail
          go_ret
          exact ⟨by first | rfl | simp [h2], rfl⟩
        · have hq := of_decide_eq_true hq
          go_wp2_with fail
          go_ret
          exact ⟨by first | rfl | simp [h2], rfl⟩
    · rw [decide_eq_false h1] at hd
      obtain rfl : d = false := by rw [hd]; rfl
      clear hd
      go_enter Try.func43, Try.ntmps43
      go_wp2_with fail
      refine (B.out _).mono ?_; rintro e w1 ⟨rfl, rfl⟩
      go_wp2_with fail
      refine (I.out _).mono ?_; rintro e w1 ⟨i, rfl, hq, rfl⟩
      cases q
      · have hq := of_decide_eq_false hq
        go_wp2_with fail
        go_ret
        exact ⟨rfl, rfl⟩
      · have hq := of_decide_eq_true hq
        go_wp2_with fail
        go_ret
        exact ⟨rfl, rfl⟩
  · clear I hd
    go_enter Try.func43, Try.ntmps43
    go_wp2_with fail
    refine (B.out _).mono ?_; rintro e w1 ⟨rfl, rfl⟩
    go_wp2_with fail
    go_ret
    exact ⟨rfl, rfl⟩
set_option maxRecDepth 100000 in
theorem isname_any (s : ByteArray) (w : World) (hs : s.size ≤ 100) : Calls Try.prog 33 #[.string s] w fun e w' => e = .returned (.bool (Lk.isN s.data.toList)) ∧ w = w' := by
  obtain ⟨tot, htot⟩ : ∃ t, t = s.data.toList.all Lk.gnB := ⟨_, rfl⟩
  have HT := Lib.hid htot
  obtain ⟨hd, hhd⟩ : ∃ t : Bool, t = (match s.data.toList with | [] => false | c :: _ => Lk.bgB c) := ⟨_, rfl⟩
  have hN : Lk.isN s.data.toList = (tot && hd) := by rw [htot, hhd]; rfl
  have HH := Lib.hid hhd
  rw [hN]
  clear htot hhd hN
  go_enter Try.func33, Try.ntmps33
  go_wp2_with fail
  go_loopw [6] (fun i wr => ∃ k : Nat, k ≤ s.size ∧ i = .int .i64 k ∧ Hid ((s.data.toList.drop k).all Lk.gnB = tot) ∧ wr = w) (fun i _ => s.size - (intOf i).toNat)
  case atStart => exact ⟨0, Nat.zero_le _, rfl, HT.out.symm, rfl⟩
  case round =>
    obtain ⟨k, hk, rfl, hinv, hw⟩ := hrel
    obtain rfl : w = wr := hw.symm
    by_cases hlt : k < s.size
    · have IX := fun W => fd_ix s k hlt W
      have G := Lib.hid (fun W => ngoes_any s[k] W)
      have hi := hinv.out
      rw [fd_drop s k hlt, List.all_cons] at hi
      have hgn : Lk.gnB s[k] = Lk.gn s[k].toNat := rfl
      rw [hgn] at hi
      generalize Lk.gn s[k].toNat = g at G hi
      generalize (s[k].toNat : Int) = C at G IX
      cases g
      · obtain rfl : tot = false := by rw [← hi]; rfl
        clear hi hgn hinv HT
        go_wp2_with fail
        refine (G.out _).mono ?_; rintro e w1 ⟨rfl, hw1⟩
        cases hw1
        go_wp2_with fail
        go_ret
        exact ⟨rfl, rfl⟩
      · have HI := Lib.hid (show (s.data.toList.drop (k + 1)).all Lk.gnB = tot by rw [← hi]; rfl)
        clear hi hgn hinv
        go_wp2_with fail
        refine (G.out _).mono ?_; rintro e w1 ⟨rfl, hw1⟩
        cases hw1
        go_wp2_with fail
        go_roundw
        case rel => exact ⟨k + 1, by omega, by go_num, HI, by first | rfl | trivial⟩
        case measure => simp [intOf]; omega
    · obtain rfl : tot = true := by rw [← hinv.out, List.drop_of_length_le (by rw [fd_len]; omega)]; rfl
      clear HT hinv
      rcases Nat.eq_zero_or_pos s.size with h0 | h0
      · obtain rfl : s = ⟨#[]⟩ := by
          apply ByteArray.ext; apply Array.toList_inj.1
          rw [show s.data.toList = [] by rw [← List.length_eq_zero_iff, fd_len]; exact h0]
        obtain rfl : hd = false := HH.out
        clear HH
        go_wp2_with fail
        go_ret
        exact ⟨rfl, rfl⟩
      · obtain ⟨n1, n2⟩ := fd_ne h0
        have IX0 := fun W => fd_ix s 0 h0 W
        have B := Lib.hid (fun W => nbegins_any s[0].toNat W (by have := s[0].toNat_lt; omega))
        have hh : hd = Lk.bg s[0].toNat := by
          have e : s.data.toList = s[0] :: s.data.toList.drop 1 := by have := fd_drop s 0 h0; simpa using this
          rw [HH.out, e]; rfl
        rw [← hh] at B
        have IX0 : ∀ W, Sem.run Try.prog (Instr.index 9 (.string s) (.int .i64 0)) W = .ok (.int .u8 s[0].toNat) W := IX0
        generalize (s[0].toNat : Int) = C at B IX0
        clear hh HH
        go_wp2_with fail
        refine (B.out _).mono ?_; rintro e w1 ⟨rfl, hw1⟩
        cases hw1
        go_wp2_with fail
        go_ret
        exact ⟨rfl, rfl⟩
theorem rname_any (s : ByteArray) (w : World) (hs : s.size ≤ maxLen) : Calls Try.prog 19 #[.string s] w fun e w' => e = .returned (.int .i64 (Lk.nm s.data.toList)) ∧ w = w' := by
  unfold Lk.nm
  unfold maxLen at hs
  rw [fd_len]
  by_cases h : 64 < s.size
  · rw [if_pos h]
    have h1 : 64 < (s.size : Int) := by omega
    clear h
    go_enter Try.func19, Try.ntmps19
    go_wp2_with fail
    go_ret
    exact ⟨rfl, rfl⟩
  · rw [if_neg h]
    have h1 : ¬ 64 < (s.size : Int) := by omega
    have C := Lib.hid (fun W => isname_any s W (by omega))
    clear h
    generalize Lk.isN s.data.toList = b at C ⊢
    cases b
    all_goals
      go_enter Try.func19, Try.ntmps19
      go_wp2_with fail
      refine (C.out _).mono ?_; rintro e w1 ⟨rfl, rfl⟩
      go_wp2_with fail
      go_ret
      exact ⟨rfl, rfl⟩
end Go.Proofs.Ytjnhaabbnbcaeaa

