/- The reference's formats: Check. -/
import Derived.Test.YtfcabofhlgmkjaaDoorFpM
import Derived.Test.YtfcabofhlgmkjaaDoorFpB
set_option linter.unusedVariables false
set_option linter.unusedSimpArgs false
namespace Go.Proofs.YtfcabofhlgmkjaaDoor
open Go.RowKit

namespace Fp
def ok4 (c : UInt8) : Bool := okB c || (c == 37 || c == 47)
theorem all4 (l : List UInt8) : l.all ok4 = Fo.mdA [43, 45, 37, 47] l := by
  unfold Fo.mdA
  congr 1
  funext c
  unfold ok4
  rw [okB_eq, Bool.or_assoc]
  congr 1
  simp only [List.contains_cons, List.contains_nil, Bool.or_false]
  cases (c == 43) <;> cases (c == 45) <;> cases (c == 37) <;> cases (c == 47) <;> rfl
end Fp
theorem bar_z {s : ByteArray} (h : s.data.toList ≠ [37, 122]) : ¬ s.toList = [37, 122] ∧ (s.toList == [37, 122]) = false := by
  have := bz_ne h
  exact ⟨this, by rw [beq_eq_false_iff_ne]; exact this⟩
set_option maxHeartbeats 8000000 in
set_option maxRecDepth 100000 in
theorem rcheck_any (s : ByteArray) (w : World) (hs : s.size ≤ 100000) :
    Calls Tryd.prog 57 #[.string s] w fun e w' => e = .returned (.int .i64 (Fo.kd s.data.toList).2) ∧ w = w' := by
  by_cases h16 : 16 < s.size
  · have HK : (Fo.kd s.data.toList).2 = 9 := by unfold Fo.kd; rw [ab_len, if_pos h16]
    rw [HK]
    have h16' : 16 < (s.size : Int) := by omega
    clear HK h16
    go_enter Tryd.func57, Tryd.ntmps57
    go_wp2_with fail
    go_ret
    exact ⟨rfl, rfl⟩
  · have h16' : ¬ 16 < (s.size : Int) := by omega
    have h16l : ¬ 16 < s.data.toList.length := by rw [ab_len]; exact h16
    have HM := Lib.hid (show Fo.mdA [43, 45, 37, 47] s.data.toList = false → (Fo.kd s.data.toList).2 = 4 from fun h => by
      unfold Fo.kd Fo.made
      rw [if_neg h16l, h, Bool.false_and, if_pos rfl])
    obtain ⟨p, hp⟩ : ∃ p, p = Fp.fr 37 (-1) s.data.toList 0 := ⟨_, rfl⟩
    obtain ⟨q, hq⟩ : ∃ q, q = Fp.fr 47 (-1) s.data.toList 0 := ⟨_, rfl⟩
    have CP : Hid (∀ W, Calls Tryd.prog 102 #[.string s, .int .u8 37] W fun e w' => e = .returned (.int .i64 p) ∧ W = w') := fun W => by rw [hp]; exact rfind_any s 37 W hs
    have CQ : Hid (∀ W, Calls Tryd.prog 102 #[.string s, .int .u8 47] W fun e w' => e = .returned (.int .i64 q) ∧ W = w') := fun W => by rw [hq]; exact rfind_any s 47 W hs
    have CLS := Lib.hid (fun hall => Fp.cls s.data.toList h16l hall p q hp hq)
    have HA := Lib.hid (Fp.all4 s.data.toList)
    clear h16 h16l hp hq
    go_enter Tryd.func57, Tryd.ntmps57
    go_wp2_with fail
    go_loopw [4] (fun i wr => ∃ k : Nat, k ≤ s.size ∧ i = .int .i64 k ∧ Hid ((s.data.toList.drop k).all Fp.ok4 = s.data.toList.all Fp.ok4) ∧ wr = w) (fun i _ => s.size - (intOf i).toNat)
    case atStart => exact ⟨0, Nat.zero_le _, rfl, Lib.hid rfl, rfl⟩
    case round =>
      obtain ⟨k, hk, rfl, hr, hw⟩ := hrel
      obtain rfl : w = wr := hw.symm
      by_cases hlt : k < s.size
      · have IX := fun W => rn_ix s k hlt W
        have hn := hr.out
        rw [ab_drop s k hlt, List.all_cons] at hn
        have hc := s[k].toNat_lt
        have CL : Hid (∀ W, Calls Tryd.prog 104 #[.int .u8 (s[k].toNat : Int)] W fun e w' => e = .returned (.bool (Fp.okB s[k])) ∧ W = w') := fun W => rfletter_any _ W (by omega) (by omega)
        have hx : Fp.ok4 s[k] = (Fp.okB s[k] || (s[k] == 37 || s[k] == 47)) := rfl
        generalize Fp.okB s[k] = b1 at CL hx
        cases b1
        · by_cases e3 : s[k] = 37
          · have HN := Lib.hid (show (s.data.toList.drop (k + 1)).all Fp.ok4 = s.data.toList.all Fp.ok4 by rw [← hn, hx, e3]; rfl)
            rw [e3] at IX CL
            have IX : ∀ W, Sem.run Tryd.prog (Instr.index 9 (.string s) (.int .i64 (k : Int))) W = .ok (.int .u8 37) W := IX
            have CL : Hid (∀ W, Calls Tryd.prog 104 #[.int .u8 37] W fun e w' => e = .returned (.bool false) ∧ W = w') := CL
            clear hn hr hx e3 hc CP CQ
            go_wp2_with fail
            refine (CL.out _).mono ?_; rintro e w1 ⟨rfl, rfl⟩
            go_wp2_with fail
            go_roundw
            case rel => exact ⟨k + 1, by omega, by go_num, HN, by first | rfl | trivial⟩
            case measure => simp [intOf]; omega
          · by_cases e4 : s[k] = 47
            · have HN := Lib.hid (show (s.data.toList.drop (k + 1)).all Fp.ok4 = s.data.toList.all Fp.ok4 by rw [← hn, hx, e4]; rfl)
              rw [e4] at IX CL
              have IX : ∀ W, Sem.run Tryd.prog (Instr.index 9 (.string s) (.int .i64 (k : Int))) W = .ok (.int .u8 47) W := IX
              have CL : Hid (∀ W, Calls Tryd.prog 104 #[.int .u8 47] W fun e w' => e = .returned (.bool false) ∧ W = w') := CL
              clear hn hr hx e3 e4 hc CP CQ
              go_wp2_with fail
              refine (CL.out _).mono ?_; rintro e w1 ⟨rfl, rfl⟩
              go_wp2_with fail
              go_roundw
              case rel => exact ⟨k + 1, by omega, by go_num, HN, by first | rfl | trivial⟩
              case measure => simp [intOf]; omega
            · have h3 : (s[k] == 37) = false := by rw [beq_eq_false_iff_ne]; exact e3
              have h4 : (s[k] == 47) = false := by rw [beq_eq_false_iff_ne]; exact e4
              have HN := Lib.hid (show (Fo.kd s.data.toList).2 = 4 from HM.out (by rw [← HA.out, ← hn, hx, h3, h4]; rfl))
              have g3 : ((s[k].toNat : Int) == 37) = false := by
                rw [beq_eq_false_iff_ne]; intro h; exact e3 (UInt8.toNat_inj.1 (by rw [show (37 : UInt8).toNat = 37 from rfl]; omega))
              have g4 : ((s[k].toNat : Int) == 47) = false := by
                rw [beq_eq_false_iff_ne]; intro h; exact e4 (UInt8.toNat_inj.1 (by rw [show (47 : UInt8).toNat = 47 from rfl]; omega))
              clear hn hr hx e3 e4 h3 h4 hc CP CQ
              generalize (s[k].toNat : Int) = cs at IX CL g3 g4
              have g3' : (cs != 37) = true := by unfold bne; rw [g3]; rfl
              have g4' : (cs != 47) = true := by unfold bne; rw [g4]; rfl
              go_wp2_with fail
              refine (CL.out _).mono ?_; rintro e w1 ⟨rfl, rfl⟩
              go_wp2_with fail
              go_ret
              exact ⟨by rw [HN.out]; rfl, rfl⟩
        · have HN := Lib.hid (show (s.data.toList.drop (k + 1)).all Fp.ok4 = s.data.toList.all Fp.ok4 by rw [← hn, hx]; simp)
          clear hn hr hx CP CQ
          generalize (s[k].toNat : Int) = cs at IX CL
          go_wp2_with fail
          refine (CL.out _).mono ?_; rintro e w1 ⟨rfl, rfl⟩
          go_wp2_with fail
          go_roundw
          case rel => exact ⟨k + 1, by omega, by go_num, HN, by first | rfl | trivial⟩
          case measure => simp [intOf]; omega
      · have hall : Fo.mdA [43, 45, 37, 47] s.data.toList = true := by rw [← HA.out, ← hr.out, List.drop_of_length_le (by rw [ab_len]; omega)]; rfl
        have H := CLS.out hall
        have hz : ∀ a (x : UInt8) b, s.data.toList = a ++ x :: b → s.size = a.length + 1 + b.length := fun a x b h => by rw [← ab_len, h, List.length_append, List.length_cons]; omega
        clear CLS HM HA hr hall
        rcases H with ⟨e0, rfl, rfl, hk⟩ | ⟨e0, rfl, rfl, ez, hk⟩ | ⟨rfl, a, b, e1, e2, ez, h⟩ | ⟨rfl, rfl, ez, hk⟩ | ⟨rfl, a, b, e1, e2, h⟩ | ⟨⟨a, b, e1, e2⟩, q1, ez, hk⟩ | ⟨rfl, ez, hk⟩
        · obtain rfl : s = ⟨#[]⟩ := bz_eq e0
          have HR := Lib.hid (congrArg Prod.snd hk)
          clear hk e0 hz
          go_wp2_with fail; refine (CP.out _).mono ?_; rintro e w1 ⟨rfl, rfl⟩; go_wp2_with fail; refine (CQ.out _).mono ?_; rintro e w1 ⟨rfl, rfl⟩; go_wp2_with fail; go_ret; exact ⟨by rw [HR.out]; rfl, rfl⟩
        · have hpos : 0 < (s.size : Int) := by
            rw [← ab_len]
            have := List.length_pos_iff.2 e0
            omega
          have HR := Lib.hid (congrArg Prod.snd hk)
          clear hk e0 ez hz
          go_wp2_with fail; refine (CP.out _).mono ?_; rintro e w1 ⟨rfl, rfl⟩; go_wp2_with fail; refine (CQ.out _).mono ?_; rintro e w1 ⟨rfl, rfl⟩; go_wp2_with fail; go_ret; exact ⟨by rw [HR.out]; rfl, rfl⟩
        · have z := hz a 47 b e1
          obtain ⟨n1, n2⟩ := bar_z ez
          have q0 : 0 ≤ q := by omega
          have qm : (q == -1) = false := by rw [beq_eq_false_iff_ne]; omega
          rcases h with ⟨ha, hb, hk, -⟩ | ⟨hab, hk⟩
          · have la := List.length_pos_iff.2 ha
            have lb := List.length_pos_iff.2 hb
            have r1 : 0 < q := by clear qm; omega
            have r2 : q < (s.size : Int) - 1 := by clear qm; omega
            have hpos : 0 < (s.size : Int) := by clear qm; omega
            have HR := Lib.hid (congrArg Prod.snd hk)
            clear hk ez hz e1 e2 ha hb la lb z
            go_wp2_with fail; refine (CP.out _).mono ?_; rintro e w1 ⟨rfl, rfl⟩; go_wp2_with fail; refine (CQ.out _).mono ?_; rintro e w1 ⟨rfl, rfl⟩; go_wp2_with fail; go_ret; exact ⟨by rw [HR.out]; rfl, rfl⟩
          · have HR := Lib.hid (congrArg Prod.snd hk)
            have hpos : 0 < (s.size : Int) := by clear qm; omega
            by_cases r1 : 0 < q
            · have r2 : ¬ q < (s.size : Int) - 1 := by
                rcases hab with h | h
                · rw [h] at e2; simp at e2; clear qm; omega
                · rw [h] at z; simp at z; clear qm; omega
              clear hk ez hz e1 e2 z hab
              go_wp2_with fail; refine (CP.out _).mono ?_; rintro e w1 ⟨rfl, rfl⟩; go_wp2_with fail; refine (CQ.out _).mono ?_; rintro e w1 ⟨rfl, rfl⟩; go_wp2_with fail; go_ret; exact ⟨by rw [HR.out]; rfl, rfl⟩
            · clear hk ez hz e1 e2 z hab
              go_wp2_with fail; refine (CP.out _).mono ?_; rintro e w1 ⟨rfl, rfl⟩; go_wp2_with fail; refine (CQ.out _).mono ?_; rintro e w1 ⟨rfl, rfl⟩; go_wp2_with fail; go_ret; exact ⟨by rw [HR.out]; rfl, rfl⟩
        · obtain ⟨n1, n2⟩ := bar_z ez
          have HR := Lib.hid (congrArg Prod.snd hk)
          clear hk ez hz
          by_cases hpos : 0 < (s.size : Int)
          · go_wp2_with fail; refine (CP.out _).mono ?_; rintro e w1 ⟨rfl, rfl⟩; go_wp2_with fail; refine (CQ.out _).mono ?_; rintro e w1 ⟨rfl, rfl⟩; go_wp2_with fail; go_ret; exact ⟨by rw [HR.out]; rfl, rfl⟩
          · go_wp2_with fail; refine (CP.out _).mono ?_; rintro e w1 ⟨rfl, rfl⟩; go_wp2_with fail; refine (CQ.out _).mono ?_; rintro e w1 ⟨rfl, rfl⟩; go_wp2_with fail; go_ret; exact ⟨by rw [HR.out]; rfl, rfl⟩
        · have z := hz a 37 b e1
          have hpos : 0 < (s.size : Int) := by omega
          have p0 : 0 ≤ p := by omega
          have pb : p ≤ 100 := by omega
          have pm : (p == -1) = false := by rw [beq_eq_false_iff_ne]; omega
          have I1 : ∀ (h : a.length + 1 < s.size) W, Sem.run Tryd.prog (Instr.index 9 (.string s) (.int .i64 (p + 1))) W = .ok (.int .u8 s[a.length + 1].toNat) W := fun h W => by
            rw [e2, show ((a.length : Int) + 1) = ((a.length + 1 : Nat) : Int) by omega]; exact rn_ix s _ h W
          have hg : ∀ (h : a.length + 1 < s.size), b.head? = some s[a.length + 1] := fun h => by
            have : s.data.toList[a.length + 1]? = some s[a.length + 1] := by
              rw [Array.getElem?_toList]; exact Array.getElem?_eq_getElem h
            rw [e1] at this
            rw [← this]
            cases b <;> simp
          rcases h with ⟨t, hb, hk, ez, -⟩ | ⟨hb, h⟩
          · obtain ⟨n1, n2⟩ := bar_z ez
            have hlt2 : a.length + 1 < s.size := by rw [z, hb, List.length_cons]; omega
            have r1 : p + 1 < (s.size : Int) := by clear pm; omega
            have IZ : ∀ W, Sem.run Tryd.prog (Instr.index 9 (.string s) (.int .i64 (p + 1))) W = .ok (.int .u8 115) W := fun W => by
              have hv := hg hlt2
              rw [hb] at hv
              have hv : (115 : UInt8) = s[a.length + 1] := Option.some.inj hv
              have := I1 hlt2 W
              rw [← hv] at this
              exact this
            have HR := Lib.hid (congrArg Prod.snd hk)
            clear hk ez hz e1 e2 z I1 hg hb hlt2
            go_wp2_with fail; refine (CP.out _).mono ?_; rintro e w1 ⟨rfl, rfl⟩; go_wp2_with fail; refine (CQ.out _).mono ?_; rintro e w1 ⟨rfl, rfl⟩; go_wp2_with fail; go_ret; exact ⟨by rw [HR.out]; rfl, rfl⟩
          · by_cases hlt2 : a.length + 1 < s.size
            · have r1 : p + 1 < (s.size : Int) := by clear pm; omega
              have I := I1 hlt2
              have hv := hg hlt2
              have g : ((s[a.length + 1].toNat : Int) == 115) = false := by
                rw [beq_eq_false_iff_ne]; intro x; exact hb (by rw [hv]; congr 1; exact UInt8.toNat_inj.1 (by rw [show (115 : UInt8).toNat = 115 from rfl]; omega))
              generalize (s[a.length + 1].toNat : Int) = cs at I g
              clear I1 hg hb hv
              rcases h with ⟨ez, hk⟩ | ⟨ez, hk⟩
              · obtain rfl : s = ⟨#[37, 122]⟩ := bz_eq ez
                have HR := Lib.hid (congrArg Prod.snd hk)
                clear hk ez hz e1 e2 z hlt2
                go_wp2_with fail; refine (CP.out _).mono ?_; rintro e w1 ⟨rfl, rfl⟩; go_wp2_with fail; refine (CQ.out _).mono ?_; rintro e w1 ⟨rfl, rfl⟩; go_wp2_with fail; go_ret; exact ⟨by rw [HR.out]; rfl, rfl⟩
              · obtain ⟨n1, n2⟩ := bar_z ez
                have HR := Lib.hid (congrArg Prod.snd hk)
                clear hk ez hz e1 e2 z hlt2
                go_wp2_with fail; refine (CP.out _).mono ?_; rintro e w1 ⟨rfl, rfl⟩; go_wp2_with fail; refine (CQ.out _).mono ?_; rintro e w1 ⟨rfl, rfl⟩; go_wp2_with fail; go_ret; exact ⟨by rw [HR.out]; rfl, rfl⟩
            · have r1 : ¬ p + 1 < (s.size : Int) := by clear pm; omega
              rcases h with ⟨ez, hk⟩ | ⟨ez, hk⟩
              · exfalso
                rw [ez] at e1
                cases a with
                | nil => rw [← ab_len, ez] at hlt2; simp at hlt2
                | cons x a =>
                  have := congrArg List.length e1
                  cases a with
                  | nil =>
                    rw [List.cons_append, List.nil_append] at e1
                    have h2 := (List.cons.inj e1).2
                    have h3 := (List.cons.inj h2).1
                    exact absurd h3 (by decide)
                  | cons y a => simp at this <;> omega
              · obtain ⟨n1, n2⟩ := bar_z ez
                have HR := Lib.hid (congrArg Prod.snd hk)
                clear hk ez hz e1 e2 z I1 hg hb hlt2
                go_wp2_with fail; refine (CP.out _).mono ?_; rintro e w1 ⟨rfl, rfl⟩; go_wp2_with fail; refine (CQ.out _).mono ?_; rintro e w1 ⟨rfl, rfl⟩; go_wp2_with fail; go_ret; exact ⟨by rw [HR.out]; rfl, rfl⟩
        · have z := hz a 37 b e1
          have hpos : 0 < (s.size : Int) := by omega
          have p0 : 0 ≤ p := by omega
          have pm : (p == -1) = false := by rw [beq_eq_false_iff_ne]; omega
          have qm : (q == -1) = false := by rw [beq_eq_false_iff_ne]; exact q1
          obtain ⟨n1, n2⟩ := bar_z ez
          have HR := Lib.hid (congrArg Prod.snd hk)
          clear hk ez hz e1 e2 z q1
          go_wp2_with fail; refine (CP.out _).mono ?_; rintro e w1 ⟨rfl, rfl⟩; go_wp2_with fail; refine (CQ.out _).mono ?_; rintro e w1 ⟨rfl, rfl⟩; go_wp2_with fail; go_ret; exact ⟨by rw [HR.out]; rfl, rfl⟩
        · obtain ⟨n1, n2⟩ := bar_z ez
          have HR := Lib.hid (congrArg Prod.snd hk)
          clear hk ez hz
          by_cases hpos : 0 < (s.size : Int)
          · go_wp2_with fail; refine (CP.out _).mono ?_; rintro e w1 ⟨rfl, rfl⟩; go_wp2_with fail; refine (CQ.out _).mono ?_; rintro e w1 ⟨rfl, rfl⟩; go_wp2_with fail; go_ret; exact ⟨by rw [HR.out]; rfl, rfl⟩
          · go_wp2_with fail; refine (CP.out _).mono ?_; rintro e w1 ⟨rfl, rfl⟩; go_wp2_with fail; refine (CQ.out _).mono ?_; rintro e w1 ⟨rfl, rfl⟩; go_wp2_with fail; go_ret; exact ⟨by rw [HR.out]; rfl, rfl⟩
end Go.Proofs.YtfcabofhlgmkjaaDoor

