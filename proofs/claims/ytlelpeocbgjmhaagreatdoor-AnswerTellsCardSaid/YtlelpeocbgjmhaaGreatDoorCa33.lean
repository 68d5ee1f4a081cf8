/- Joined: FdC. -/
import Derived.Test.YtlelpeocbgjmhaaGreatDoorCa04
/- The reference's fields: blank, Text. -/
set_option linter.unusedVariables false
set_option linter.unusedSimpArgs false
namespace Go.Proofs.YtlelpeocbgjmhaaGreatDoor
open Go.RowKit

theorem rblank_any (c : Int) (w : World) : Calls Tryz.prog 45 #[.int .u8 c] w fun e w' => e = .returned (.bool ((c == 9) || (c == 32))) ∧ w = w' := by
  generalize h1 : (c == 9) = b1
  generalize h2 : (c == 32) = b2
  cases b1 <;> cases b2
  all_goals
    go_enter Tryz.func45, Tryz.ntmps45
    go_wp2_with fail
    go_ret
    exact ⟨rfl, rfl⟩
namespace Fd
/-- What is told where a flag and a rest are left. -/
def fin (l : List UInt8) (pl : Bool) (r : List UInt8) : List UInt8 × Int := if r.contains 34 = true then ([], 8) else if (pl && !r.any mkB) = true then (l, 0) else (34 :: (l ++ [34]), 0)
theorem fin_0 (l : List UInt8) : fin l (!l.isEmpty) l = tx l := by
  unfold fin tx
  by_cases hc : l.contains 34 = true
  · rw [if_pos hc, if_pos hc]
  · rw [if_neg hc, if_neg hc]
    cases l with
    | nil => rfl
    | cons c t =>
      cases hm : (c :: t).any mkB
      · rw [if_pos (by simp), if_neg (by simp)]
      · rw [if_neg (by simp), if_pos (.inr rfl)]
theorem fin_34 (l r : List UInt8) (pl : Bool) : fin l pl (34 :: r) = ([], 8) := by
  unfold fin
  rw [if_pos (by simp)]
theorem fin_next (l r : List UInt8) (pl : Bool) (c : UInt8) (h : c ≠ 34) : fin l pl (c :: r) = fin l (pl && !mkB c) r := by
  unfold fin
  have : (c :: r).contains 34 = r.contains 34 := by
    rw [List.contains_cons, show ((34 : UInt8) == c) = false from by rw [beq_eq_false_iff_ne]; exact fun e => h e.symm, Bool.false_or]
  rw [this, List.any_cons, Bool.not_or, Bool.and_assoc]
theorem mk_of (c : UInt8) (h : c ≠ 34) : mkB c = ((((c.toNat : Int) == 9) || ((c.toNat : Int) == 32)) || ((c.toNat : Int) == 35)) := by
  have hc : c.toNat ≠ 34 := fun e => h (UInt8.toNat_inj.1 e)
  unfold mkB isK
  rw [Bool.eq_iff_iff]
  simp
  omega
end Fd
set_option maxHeartbeats 4000000 in
theorem rftext_any (s : ByteArray) (w : World) (hs : s.size ≤ 100000000) :
    Calls Tryz.prog 20 #[.string s] w fun e w' => e = .returned (.tuple #[.string ⟨(Fd.tx s.data.toList).1.toArray⟩, .int .i64 (Fd.tx s.data.toList).2]) ∧ w = w' := by
  obtain ⟨R1, R2, hR⟩ : ∃ R1 R2, (R1, R2) = Fd.tx s.data.toList := ⟨_, _, rfl⟩
  rw [← hR]
  show Calls _ _ _ _ fun e w' => e = .returned (.tuple #[.string ⟨R1.toArray⟩, .int .i64 R2]) ∧ w = w'
  have HS := Lib.hid (show Fd.fin s.data.toList (!s.data.toList.isEmpty) (s.data.toList.drop 0) = (R1, R2) from by rw [hR]; exact Fd.fin_0 _)
  have HE : Hid ((s = ⟨#[]⟩ ∧ (!s.data.toList.isEmpty) = false) ∨ (0 < s.size ∧ (!s.data.toList.isEmpty) = true)) := by
    refine Lib.hid ?_
    rcases Nat.eq_zero_or_pos s.size with h | h
    · left
      have e : s.data.toList = [] := by rw [← List.length_eq_zero_iff, fd_len]; exact h
      exact ⟨by apply ByteArray.ext; apply Array.toList_inj.1; rw [e], by rw [e]; rfl⟩
    · right
      refine ⟨h, ?_⟩
      have := fd_len s
      cases hl : s.data.toList with
      | nil => rw [hl] at this; simp at this; omega
      | cons _ _ => rfl
  clear hR
  have hR : (⟨(34 :: (s.data.toList ++ [34])).toArray⟩ : ByteArray) = (⟨#[34]⟩ ++ s) ++ ⟨#[34]⟩ := by
    apply ByteArray.ext; apply Array.toList_inj.1
    simp [ByteArray.data_append]
  have HR := Lib.hid hR; clear hR
  have CB := Lib.hid (fun c W => rblank_any c W)
  rcases HE.out with ⟨rfl, h2⟩ | ⟨hp, h2⟩
  · have HN := Lib.hid (show R1 = [34, 34] ∧ R2 = 0 from by
      have := HS.out
      exact ⟨(congrArg Prod.fst this).symm, (congrArg Prod.snd this).symm⟩)
    clear HS HE h2 HR
    go_enter Tryz.func20, Tryz.ntmps20
    go_wp2_with fail
    refine wp_loop_rounds 1 ?_
    rw [rounds_succ]
    go_wp2_with fail
    go_ret2
    exact ⟨by rw [HN.out.1, HN.out.2]; rfl, rfl⟩
  · obtain ⟨n1, n2⟩ := fd_ne hp
    rw [h2] at HS
    clear HE h2
    go_enter Tryz.func20, Tryz.ntmps20
    go_wp2_with fail
    go_loopw [4, 5] (fun p i wr => ∃ (k : Nat) (pl : Bool), k ≤ s.size ∧ i = .int .i64 k ∧ p = .bool pl ∧ Hid (Fd.fin s.data.toList pl (s.data.toList.drop k) = (R1, R2)) ∧ wr = w) (fun _ i _ => s.size - (intOf i).toNat)
    case atStart => exact ⟨0, true, Nat.zero_le _, rfl, rfl, HS, rfl⟩
    case round =>
      obtain ⟨k, pl, hk, rfl, rfl, hr, hw⟩ := hrel
      obtain rfl : w = wr := hw.symm
      by_cases hlt : k < s.size
      · have IX := fun W => fd_ix s k hlt W
        have hn := hr.out
        rw [fd_drop s k hlt] at hn
        by_cases e : s[k] = 34
        · rw [e, Fd.fin_34] at hn
          rw [e] at IX
          have IX : ∀ W, Sem.run Tryz.prog (Instr.index 9 (.string s) (.int .i64 (k : Int))) W = .ok (.int .u8 34) W := IX
          have HN := Lib.hid (show R1 = [] ∧ R2 = 8 from ⟨(congrArg Prod.fst hn).symm, (congrArg Prod.snd hn).symm⟩)
          clear hn hr e CB HR HS
          go_wp2_with fail
          go_ret2
          exact ⟨by rw [HN.out.1, HN.out.2]; rfl, rfl⟩
        · rw [Fd.fin_next _ _ _ _ e, Fd.mk_of _ e] at hn
          have g : ((s[k].toNat : Int) == 34) = false := by
            rw [beq_eq_false_iff_ne]; intro x; exact e (UInt8.toNat_inj.1 (by rw [show (34 : UInt8).toNat = 34 from rfl]; omega))
          clear e hr
          generalize (s[k].toNat : Int) = c at IX g hn
          have CC := Lib.hid (CB.out c)
          generalize ((c == 9) || (c == 32)) = b1 at CC hn
          generalize hb2 : (c == 35) = b2 at hn
          cases b1
          · cases b2
            · have HN := Lib.hid (show Fd.fin s.data.toList pl (s.data.toList.drop (k + 1)) = (R1, R2) from by rw [← hn]; simp)
              clear hn CB HR HS
              go_wp2_with fail
              refine (CC.out _).mono ?_; rintro e w1 ⟨rfl, rfl⟩
              go_wp2_with fail
              go_roundw
              case rel => exact ⟨k + 1, pl, by omega, by go_num, rfl, HN, by first | rfl | trivial⟩
              case measure => simp [intOf]; omega
            · have HN := Lib.hid (show Fd.fin s.data.toList false (s.data.toList.drop (k + 1)) = (R1, R2) from by rw [← hn]; simp)
              clear hn CB HR HS
              go_wp2_with fail
              refine (CC.out _).mono ?_; rintro e w1 ⟨rfl, rfl⟩
              go_wp2_with fail
              go_roundw
              case rel => exact ⟨k + 1, false, by omega, by go_num, rfl, HN, by first | rfl | trivial⟩
              case measure => simp [intOf]; omega
          · have HN := Lib.hid (show Fd.fin s.data.toList false (s.data.toList.drop (k + 1)) = (R1, R2) from by rw [← hn]; simp)
            clear hn CB HR HS hb2
            go_wp2_with fail
            refine (CC.out _).mono ?_; rintro e w1 ⟨rfl, rfl⟩
            go_wp2_with fail
            go_roundw
            case rel => exact ⟨k + 1, false, by omega, by go_num, rfl, HN, by first | rfl | trivial⟩
            case measure => simp [intOf]; omega
      · have hn := hr.out
        rw [List.drop_of_length_le (by rw [fd_len]; omega)] at hn
        clear hr CB HS
        cases pl
        · have HN := Lib.hid (show R1 = 34 :: (s.data.toList ++ [34]) ∧ R2 = 0 from ⟨(congrArg Prod.fst hn).symm, (congrArg Prod.snd hn).symm⟩)
          have e1 : (⟨#[34]⟩ ++ s : ByteArray).size = 1 + s.size := by rw [ByteArray.size_append]; rfl
          clear hn
          go_wp2_with fail
          go_ret2
          exact ⟨by rw [HN.out.1, HN.out.2, HR.out]; rfl, rfl⟩
        · have HN := Lib.hid (show R1 = s.data.toList ∧ R2 = 0 from ⟨(congrArg Prod.fst hn).symm, (congrArg Prod.snd hn).symm⟩)
          clear hn
          go_wp2_with fail
          go_ret2
          exact ⟨by rw [HN.out.1, HN.out.2, fd_id]; rfl, rfl⟩
end Go.Proofs.YtlelpeocbgjmhaaGreatDoor
