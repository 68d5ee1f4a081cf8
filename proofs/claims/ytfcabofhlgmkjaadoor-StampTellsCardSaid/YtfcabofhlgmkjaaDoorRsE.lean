/- The contracts of the reference's years, at any text, and of its stamps that are read. -/
import Derived.Test.YtfcabofhlgmkjaaDoorRsD
import Derived.Test.YtfcabofhlgmkjaaDoorRsC
import Derived.Test.YtfcabofhlgmkjaaDoorRdN
import Derived.Test.YtfcabofhlgmkjaaDoorSl
set_option linter.unusedVariables false
set_option linter.unusedSimpArgs false
namespace Go.Proofs.YtfcabofhlgmkjaaDoor
open Go.RowKit

namespace Rd
/-- A year that is read, and why not. -/
def y4 (l : List UInt8) : Int × Int := if isY l then (if yl l then (yv l, 0) else (0, 1)) else (0, 4)
theorem y4_no {l : List UInt8} (h : isY l = true → False) : y4 l = (0, 4) := by
  unfold y4
  cases hh : isY l
  · rfl
  · exact absurd hh (by simpa using h)
theorem mz5_no {s : ByteArray} (h : s.data.toList ≠ [45, 48, 48, 48, 48]) : (s.toList == [45, 48, 48, 48, 48]) = false := by
  rw [ByteArray.toList_eq]
  simpa using h
theorem ext1y (s : ByteArray) (r : List UInt8) (h : s.data.toList = 45 :: r) : (s.extract 1 s.size).data.toList = r := by
  rw [ByteArray.data_extract, Array.toList_extract, h]
  have hl := Num.rn_len s
  rw [h, List.length_cons] at hl
  show ((45 :: r).drop 1).take (s.size - 1) = r
  rw [List.drop_one, List.tail_cons, List.take_of_length_le (by omega)]
end Rd
theorem ry4_any (s : ByteArray) (w : World) (hs : s.size ≤ 1000) :
    Calls Tryd.prog 75 #[.string s] w fun e w' => e = .returned (.tuple #[.int .i64 (Rd.y4 s.data.toList).1, .int .i64 (Rd.y4 s.data.toList).2]) ∧ w = w' := by
  have hl := Num.rn_len s
  have hml : s.size ≤ maxLen := by unfold maxLen; omega
  cases hsl : s.data.toList with
  | nil =>
    have e : s = ⟨#[]⟩ := by apply ByteArray.ext; apply Array.toList_inj.1; rw [hsl]
    rw [e]
    exact ry4_nil w
  | cons c r =>
    have hpos : 0 < s.size := by rw [← hl, hsl]; simp
    have hc0 : s[0] = c := by
      have e : s[0] = s.data.toList[0]'(by rw [Num.rn_len]; exact hpos) := rfl
      rw [e]; simp [hsl]
    have IX : ∀ W, Sem.run Tryd.prog (Instr.index 9 (.string s) (.int .i64 0)) W = .ok (.int .u8 (c.toNat : Int)) W := fun W => by rw [← hc0]; exact rn_ix s 0 hpos W
    have to48 : ∀ x : UInt8, x ≠ 48 → (((x.toNat : Nat) : Int) == 48) = false := fun x hx => by
      rw [beq_eq_false_iff_ne]
      intro h; exact hx (UInt8.toNat_inj.1 (by rw [show (48 : UInt8).toNat = 48 from rfl]; omega))
    by_cases h45 : c = 45
    · subst h45
      have T : Lib.trimPrefix (45 :: r) [45] = r := Num.tp_minus r
      have P : Lib.hasPrefix (45 :: r) [45] = true := by rw [Num.hp_cons]; rfl
      have hd := Rd.ext1y s r hsl
      have sl : ∀ W, Sem.run Tryd.prog (Instr.slice 9 (.string s) (some (.int .i64 1)) none none) W = .ok (.string (s.extract 1 s.size)) W := fun W => rn_cut s 1 hpos W
      obtain ⟨d, hdd⟩ : ∃ d, s.extract 1 s.size = d := ⟨_, rfl⟩
      rw [hdd] at hd sl
      have hdl := Num.rn_len d
      rw [hd] at hdl
      have ld : (d.size : Int) + 1 = (s.size : Int) := by
        have : s.data.toList.length = r.length + 1 := by rw [hsl]; rfl
        omega
      have CD : Hid (∀ W, Calls Tryd.prog 73 #[.string d] W fun e w' => e = .returned (.bool (Num.dgs r)) ∧ W = w') := fun W => by rw [← hd]; exact rdigs_any d W (by unfold maxLen; omega)
      by_cases h4 : (d.size : Int) < 4
      · rw [Rd.y4_no (fun h => by have := (Rd.isY_iff.1 h).1; rw [T] at this; omega)]
        exact ry4_yshort s d _ 0 _ w (by omega) hs ld IX (by decide) sl CD h4
      · have hne : r.isEmpty = false := by
          cases r with
          | nil => simp at hdl; omega
          | cons _ _ => rfl
        have hdg : Num.dgs r = r.all Num.dig := by unfold Num.dgs; rw [hne]; simp
        rw [hdg] at CD
        cases hg : r.all Num.dig
        · rw [hg] at CD
          rw [Rd.y4_no (fun h => by have := (Rd.isY_iff.1 h).2.2.1; rw [T, hg] at this; cases this)]
          exact ry4_yno s d _ 0 _ w (by omega) hs ld IX (by decide) sl CD h4 rfl
        · rw [hg] at CD
          cases r with
          | nil => cases hne
          | cons x y =>
            have hdp : 0 < d.size := by rw [← hdl]; simp
            have hx0 : d[0] = x := by
              have e : d[0] = d.data.toList[0]'(by rw [Num.rn_len]; exact hdp) := rfl
              rw [e]; simp [hd]
            have ID : ∀ W, Sem.run Tryd.prog (Instr.index 9 (.string d) (.int .i64 0)) W = .ok (.int .u8 (x.toNat : Int)) W := fun W => by rw [← hx0]; exact rn_ix d 0 hdp W
            by_cases hz : 4 < d.size ∧ x = 48
            · obtain ⟨h1, rfl⟩ := hz
              rw [Rd.y4_no (fun h => by have := (Rd.isY_iff.1 h).2.1; rw [T] at this; exact this (by omega) rfl)]
              exact ry4_yzero s d _ _ _ w (by omega) hs ld IX (by decide) sl CD ID h4 rfl (by omega) (by decide)
            · by_cases hm : (x :: y) = [48, 48, 48, 48]
              · rw [Rd.y4_no (fun h => by have := (Rd.isY_iff.1 h).2.2.2; rw [T] at this; exact this P hm)]
                have es : s = ⟨#[45, 48, 48, 48, 48]⟩ := by apply ByteArray.ext; apply Array.toList_inj.1; rw [hsl, hm]
                rw [es]
                exact ry4_mz w
              · have hY : Rd.isY (45 :: x :: y) = true := Rd.isY_iff.2 (by
                  rw [T]
                  refine ⟨by omega, fun h5 h6 => hz ⟨by omega, by simpa using h6⟩, hg, fun _ => hm⟩)
                have hmz : (s.toList == [45, 48, 48, 48, 48]) = false := Rd.mz5_no (by rw [hsl]; intro h; injection h with _ h; exact hm h)
                have hyl : Rd.yl (45 :: x :: y) = decide (d.size ≤ 5) := by unfold Rd.yl; rw [T, hdl]
                have hyv : Rd.yv (45 :: x :: y) = -(Num.val 0 d.data.toList : Int) := by unfold Rd.yv; rw [P, T, if_pos rfl, hd]
                by_cases h5 : 5 < d.size
                · rw [show Rd.y4 (45 :: x :: y) = (0, 1) by unfold Rd.y4; rw [hY, if_pos rfl, hyl, decide_eq_false (by omega)]; rfl]
                  exact ry4_yfar s d _ _ _ w (by omega) hs ld IX (by decide) sl CD ID h4 rfl (by omega) (to48 x (fun h => hz ⟨by omega, h⟩)) hmz
                · rw [show Rd.y4 (45 :: x :: y) = (-(Num.val 0 d.data.toList : Int), 0) by unfold Rd.y4; rw [hY, if_pos rfl, hyl, decide_eq_true (by omega), if_pos rfl, hyv]]
                  rw [← hd] at hg
                  by_cases h1 : 4 < (d.size : Int)
                  · exact ry4_yvaln s d _ _ _ w (by omega) hs ld IX (by decide) sl CD ID h1 (to48 x (fun h => hz ⟨by omega, h⟩)) h4 (by omega) rfl hmz hg
                  · exact ry4_yvaly s d _ _ _ w (by omega) hs ld IX (by decide) sl CD ID h1 h4 (by omega) rfl hmz hg
    · have T : Lib.trimPrefix (c :: r) [45] = c :: r := Num.tp_other c r h45
      have P : Lib.hasPrefix (c :: r) [45] = false := by rw [Num.hp_cons]; simpa using h45
      have hc45 : (((c.toNat : Nat) : Int) == 45) = false := by
        rw [beq_eq_false_iff_ne]
        intro h; exact h45 (UInt8.toNat_inj.1 (by rw [show (45 : UInt8).toNat = 45 from rfl]; omega))
      have hlen : (c :: r).length = s.size := by rw [← hsl]; exact hl
      have CD : Hid (∀ W, Calls Tryd.prog 73 #[.string s] W fun e w' => e = .returned (.bool ((c :: r).all Num.dig)) ∧ W = w') := fun W => by rw [← hsl]; exact rdigs_ne s W hpos hml
      by_cases h4 : (s.size : Int) < 4
      · rw [Rd.y4_no (fun h => by have := (Rd.isY_iff.1 h).1; rw [T] at this; omega)]
        exact ry4_nshort s _ _ w (by omega) hs IX hc45 CD h4
      · cases hg : (c :: r).all Num.dig
        · rw [hg] at CD
          rw [Rd.y4_no (fun h => by have := (Rd.isY_iff.1 h).2.2.1; rw [T, hg] at this; cases this)]
          exact ry4_nno s _ _ w (by omega) hs IX hc45 CD h4 rfl
        · rw [hg] at CD
          by_cases hz : 4 < s.size ∧ c = 48
          · obtain ⟨h1, rfl⟩ := hz
            rw [Rd.y4_no (fun h => by have := (Rd.isY_iff.1 h).2.1; rw [T] at this; exact this (by omega) rfl)]
            exact ry4_nzero s _ _ w (by omega) hs IX hc45 CD h4 rfl (by omega) (by decide)
          · have hY : Rd.isY (c :: r) = true := Rd.isY_iff.2 (by
              rw [T]
              refine ⟨by omega, fun h5 h6 => hz ⟨by omega, by simpa using h6⟩, hg, fun hh => by rw [P] at hh; cases hh⟩)
            have hmz : (s.toList == [45, 48, 48, 48, 48]) = false := Rd.mz5_no (by rw [hsl]; intro h; injection h with h _; exact h45 h)
            have hyl : Rd.yl (c :: r) = decide (s.size ≤ 5) := by unfold Rd.yl; rw [T, hlen]
            have hyv : Rd.yv (c :: r) = (Num.val 0 s.data.toList : Int) := by unfold Rd.yv; rw [P, T, hsl]; rfl
            by_cases h5 : 5 < s.size
            · rw [show Rd.y4 (c :: r) = (0, 1) by unfold Rd.y4; rw [hY, if_pos rfl, hyl, decide_eq_false (by omega)]; rfl]
              exact ry4_nfar s _ _ w (by omega) hs IX hc45 CD h4 rfl (by omega) (to48 c (fun h => hz ⟨by omega, h⟩)) hmz
            · rw [show Rd.y4 (c :: r) = ((Num.val 0 s.data.toList : Int), 0) by unfold Rd.y4; rw [hY, if_pos rfl, hyl, decide_eq_true (by omega), if_pos rfl, hyv]]
              rw [← hsl] at hg
              by_cases h1 : 4 < (s.size : Int)
              · exact ry4_nvaln s _ _ w (by omega) hs IX hc45 CD h1 (to48 c (fun h => hz ⟨by omega, h⟩)) h4 (by omega) rfl hmz hg
              · exact ry4_nvaly s _ _ w (by omega) hs IX hc45 CD h1 h4 (by omega) rfl hmz hg
end Go.Proofs.YtfcabofhlgmkjaaDoor

