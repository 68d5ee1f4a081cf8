/- Joined: RnM, RnD, FoB. -/
import Derived.Test.YtpggfhmnhbnefaaGreatDoorBe04
import Derived.Test.YtpggfhmnhbnefaaGreatDoorBe03
import Derived.Test.YtpggfhmnhbnefaaGreatDoorLaid7
import Derived.Shelf.Strings.Count
import Derived.Shelf.Strings.Search3
import Derived.Shelf.Strings.Prefix
import Derived.Lib.SplitLaws
set_option linter.unusedVariables false
namespace Go.Proofs.YtpggfhmnhbnefaaGreatDoor.Num
open Go.RowKit Go.Lib
def rd (l : List UInt8) : Int × Int := if isT l then (match parseIntB 64 l with | .ok v => (v, 0) | _ => (0, 1)) else (0, 2)
end Go.Proofs.YtpggfhmnhbnefaaGreatDoor.Num
set_option linter.unusedVariables false
set_option linter.unusedSimpArgs false
namespace Go.Proofs.YtpggfhmnhbnefaaGreatDoor
open Go.RowKit
namespace Num
end Num
namespace Fo
def kd (l : List UInt8) : Int × Int :=
 if 16 < l.length then (0, 9) else if made [43, 45, 37, 47] l = false then (0, 4)
 else if l.count 37 = 0 ∧ l.count 47 = 0 then (0, 0)
 else if (l.count 37 = 1 ∧ l.count 47 = 0) ∧ Lib.contains l [37, 115] = true then (1, 0)
 else if (l == [37, 122]) = true then (2, 0)
 else if (l.count 37 = 0 ∧ l.count 47 = 1) ∧ Lib.hasPrefix l [47] = false ∧ Lib.hasSuffix l [47] = false then (3, 0) else (0, 4)
end Fo
set_option maxHeartbeats 4000000 in
set_option maxRecDepth 100000 in
theorem kind_core (s : ByteArray) (P Q : Nat) (mB cB zB pB sB : Bool) (R : Int × Int) (w : World) (hs : s.size ≤ 100000) (p0 : P ≤ 100000) (q0 : Q ≤ 100000) (hz : (s.toList == [37, 122]) = zB)
  (CP : Hid (∀ W, Calls Tryz.prog 163 #[.string s, .string ⟨#[37]⟩] W fun e w' => e = .returned (.int .i64 P) ∧ W = w'))
  (CQ : Hid (∀ W, Calls Tryz.prog 163 #[.string s, .string ⟨#[47]⟩] W fun e w' => e = .returned (.int .i64 Q) ∧ W = w'))
  (CM : Hid (∀ W, Calls Tryz.prog 142 #[.string s, .string ⟨#[43, 45, 37, 47]⟩] W fun e w' => e = .returned (.bool mB) ∧ W = w'))
  (CC : Hid (∀ W, w = W → Calls Tryz.prog 164 #[.string s, .string ⟨#[37, 115]⟩] W fun e w' => e = .returned (.bool cB) ∧ W = w'))
  (CH : Hid (∀ W, Calls Tryz.prog 165 #[.string s, .string ⟨#[47]⟩] W fun e w' => e = .returned (.bool pB) ∧ W = w'))
  (CS : Hid (∀ W, Calls Tryz.prog 166 #[.string s, .string ⟨#[47]⟩] W fun e w' => e = .returned (.bool sB) ∧ W = w'))
  (hR : Hid (R = if 16 < s.size then (0, 9) else if mB = false then (0, 4) else if P = 0 ∧ Q = 0 then (0, 0) else if (P = 1 ∧ Q = 0) ∧ cB = true then (1, 0) else if zB = true then (2, 0) else if (P = 0 ∧ Q = 1) ∧ pB = false ∧ sB = false then (3, 0) else (0, 4))) :
  Calls Tryz.prog 123 #[.string s] w fun e w' => e = .returned (.tuple #[.int .i64 R.1, .int .i64 R.2]) ∧ w = w' := by
 obtain ⟨R1, R2⟩ := R
 show Calls Tryz.prog 123 #[.string s] w fun e w' => e = .returned (.tuple #[.int .i64 R1, .int .i64 R2]) ∧ w = w'
 by_cases h16 : 16 < (s.size : Int)
 ·
  have h16n : 16 < s.size := by omega
  have HRR := Lib.hid (show R1 = 0 ∧ R2 = 9 by have := hR.out; rw [if_pos h16n] at this; exact ⟨congrArg Prod.fst this, congrArg Prod.snd this⟩)
  clear hR
  go_enter Tryz.func123, Tryz.ntmps123
  go_wp2_with fail
  refine (CP.out _).mono ?_; rintro e w1 ⟨rfl, rfl⟩
  go_wp2_with fail
  refine (CQ.out _).mono ?_; rintro e w1 ⟨rfl, rfl⟩
  go_wp2_with fail
  go_ret2
  exact ⟨by rw [HRR.out.1, HRR.out.2]; rfl, rfl⟩
 ·
  have h16n : ¬ 16 < s.size := by omega
  cases mB
  ·
   have X := Lib.hid h16n
   have HRR := Lib.hid (show R1 = 0 ∧ R2 = 4 by have := hR.out; rw [if_neg h16n, if_pos rfl] at this; exact ⟨congrArg Prod.fst this, congrArg Prod.snd this⟩)
   clear hR
   go_enter Tryz.func123, Tryz.ntmps123
   go_wp2_with fail
   refine (CP.out _).mono ?_; rintro e w1 ⟨rfl, rfl⟩
   go_wp2_with fail
   refine (CQ.out _).mono ?_; rintro e w1 ⟨rfl, rfl⟩
   go_wp2_with fail
   refine (CM.out _).mono ?_; rintro e w1 ⟨rfl, rfl⟩
   go_wp2_with fail
   go_ret2
   exact ⟨by rw [HRR.out.1, HRR.out.2]; rfl, rfl⟩
  ·
   rcases (show P = 0 ∨ P = 1 ∨ (P ≠ 0 ∧ P ≠ 1) by omega) with hP | hP | ⟨hP, hP1⟩
   ·
    rcases (show Q = 0 ∨ Q = 1 ∨ (Q ≠ 0 ∧ Q ≠ 1) by omega) with hQ | hQ | ⟨hQ, hQ1⟩
    ·
     subst hP
     subst hQ
     have HRR := Lib.hid (show R1 = 0 ∧ R2 = 0 by have := hR.out; rw [if_neg h16n, if_neg (by decide), if_pos ⟨rfl, rfl⟩] at this; exact ⟨congrArg Prod.fst this, congrArg Prod.snd this⟩)
     clear hR
     go_enter Tryz.func123, Tryz.ntmps123
     go_wp2_with fail
     refine (CP.out _).mono ?_; rintro e w1 ⟨rfl, rfl⟩
     go_wp2_with fail
     refine (CQ.out _).mono ?_; rintro e w1 ⟨rfl, rfl⟩
     go_wp2_with fail
     refine (CM.out _).mono ?_; rintro e w1 ⟨rfl, rfl⟩
     go_wp2_with fail
     go_ret2
     exact ⟨by rw [HRR.out.1, HRR.out.2]; rfl, rfl⟩
    ·
     subst hP
     subst hQ
     cases zB
     ·
      have X := Lib.hid h16n
      cases pB
      ·
       cases sB
       ·
        have Y := Lib.hid h16n
        have HRR := Lib.hid (show R1 = 3 ∧ R2 = 0 by have := hR.out; rw [if_neg h16n, if_neg (by decide), if_neg (fun h => by have h1 := h.1; have h2 := h.2; omega), if_neg (fun h => by have h1 := h.1.1; have h2 := h.1.2; omega), if_neg (by decide), if_pos ⟨⟨rfl, rfl⟩, rfl, rfl⟩] at this; exact ⟨congrArg Prod.fst this, congrArg Prod.snd this⟩)
        clear hR
        go_enter Tryz.func123, Tryz.ntmps123
        go_wp2_with fail
        refine (CP.out _).mono ?_; rintro e w1 ⟨rfl, rfl⟩
        go_wp2_with fail
        refine (CQ.out _).mono ?_; rintro e w1 ⟨rfl, rfl⟩
        go_wp2_with fail
        refine (CM.out _).mono ?_; rintro e w1 ⟨rfl, rfl⟩
        go_wp2_with fail
        refine (CH.out _).mono ?_; rintro e w1 ⟨rfl, rfl⟩
        go_wp2_with fail
        refine (CS.out _).mono ?_; rintro e w1 ⟨rfl, rfl⟩
        go_wp2_with fail
        go_ret2
        exact ⟨by rw [HRR.out.1, HRR.out.2]; rfl, rfl⟩
       ·
        have Y := Lib.hid h16n
        have HRR := Lib.hid (show R1 = 0 ∧ R2 = 4 by have := hR.out; rw [if_neg h16n, if_neg (by decide), if_neg (fun h => by have h1 := h.1; have h2 := h.2; omega), if_neg (fun h => by have h1 := h.1.1; have h2 := h.1.2; omega), if_neg (by decide), if_neg (fun h => by cases h.2.2)] at this; exact ⟨congrArg Prod.fst this, congrArg Prod.snd this⟩)
        clear hR
        go_enter Tryz.func123, Tryz.ntmps123
        go_wp2_with fail
        refine (CP.out _).mono ?_; rintro e w1 ⟨rfl, rfl⟩
        go_wp2_with fail
        refine (CQ.out _).mono ?_; rintro e w1 ⟨rfl, rfl⟩
        go_wp2_with fail
        refine (CM.out _).mono ?_; rintro e w1 ⟨rfl, rfl⟩
        go_wp2_with fail
        refine (CH.out _).mono ?_; rintro e w1 ⟨rfl, rfl⟩
        go_wp2_with fail
        refine (CS.out _).mono ?_; rintro e w1 ⟨rfl, rfl⟩
        go_wp2_with fail
        go_ret2
        exact ⟨by rw [HRR.out.1, HRR.out.2]; rfl, rfl⟩
      ·
       have Y := Lib.hid h16n
       have HRR := Lib.hid (show R1 = 0 ∧ R2 = 4 by have := hR.out; rw [if_neg h16n, if_neg (by decide), if_neg (fun h => by have h1 := h.1; have h2 := h.2; omega), if_neg (fun h => by have h1 := h.1.1; have h2 := h.1.2; omega), if_neg (by decide), if_neg (fun h => by cases h.2.1)] at this; exact ⟨congrArg Prod.fst this, congrArg Prod.snd this⟩)
       clear hR
       go_enter Tryz.func123, Tryz.ntmps123
       go_wp2_with fail
       refine (CP.out _).mono ?_; rintro e w1 ⟨rfl, rfl⟩
       go_wp2_with fail
       refine (CQ.out _).mono ?_; rintro e w1 ⟨rfl, rfl⟩
       go_wp2_with fail
       refine (CM.out _).mono ?_; rintro e w1 ⟨rfl, rfl⟩
       go_wp2_with fail
       refine (CH.out _).mono ?_; rintro e w1 ⟨rfl, rfl⟩
       go_wp2_with fail
       go_ret2
       exact ⟨by rw [HRR.out.1, HRR.out.2]; rfl, rfl⟩
     ·
      have X := Lib.hid h16n
      have HRR := Lib.hid (show R1 = 2 ∧ R2 = 0 by have := hR.out; rw [if_neg h16n, if_neg (by decide), if_neg (fun h => by have h1 := h.1; have h2 := h.2; omega), if_neg (fun h => by have h1 := h.1.1; have h2 := h.1.2; omega), if_pos rfl] at this; exact ⟨congrArg Prod.fst this, congrArg Prod.snd this⟩)
      clear hR
      go_enter Tryz.func123, Tryz.ntmps123
      go_wp2_with fail
      refine (CP.out _).mono ?_; rintro e w1 ⟨rfl, rfl⟩
      go_wp2_with fail
      refine (CQ.out _).mono ?_; rintro e w1 ⟨rfl, rfl⟩
      go_wp2_with fail
      refine (CM.out _).mono ?_; rintro e w1 ⟨rfl, rfl⟩
      go_wp2_with fail
      go_ret2
      exact ⟨by rw [HRR.out.1, HRR.out.2]; rfl, rfl⟩
    ·
     subst hP
     have gQ0 : ((Q : Int) == 0) = false := by rw [beq_eq_false_iff_ne]; omega
     have gQ1 : ((Q : Int) == 1) = false := by rw [beq_eq_false_iff_ne]; omega
     cases zB
     ·
      have X := Lib.hid h16n
      have HRR := Lib.hid (show R1 = 0 ∧ R2 = 4 by have := hR.out; rw [if_neg h16n, if_neg (by decide), if_neg (fun h => by have h1 := h.1; have h2 := h.2; omega), if_neg (fun h => by have h1 := h.1.1; have h2 := h.1.2; omega), if_neg (by decide), if_neg (fun h => by have h1 := h.1.1; have h2 := h.1.2; omega)] at this; exact ⟨congrArg Prod.fst this, congrArg Prod.snd this⟩)
      clear hR
      go_enter Tryz.func123, Tryz.ntmps123
      go_wp2_with fail
      refine (CP.out _).mono ?_; rintro e w1 ⟨rfl, rfl⟩
      go_wp2_with fail
      refine (CQ.out _).mono ?_; rintro e w1 ⟨rfl, rfl⟩
      go_wp2_with fail
      refine (CM.out _).mono ?_; rintro e w1 ⟨rfl, rfl⟩
      go_wp2_with fail
      go_ret2
      exact ⟨by rw [HRR.out.1, HRR.out.2]; rfl, rfl⟩
     ·
      have X := Lib.hid h16n
      have HRR := Lib.hid (show R1 = 2 ∧ R2 = 0 by have := hR.out; rw [if_neg h16n, if_neg (by decide), if_neg (fun h => by have h1 := h.1; have h2 := h.2; omega), if_neg (fun h => by have h1 := h.1.1; have h2 := h.1.2; omega), if_pos rfl] at this; exact ⟨congrArg Prod.fst this, congrArg Prod.snd this⟩)
      clear hR
      go_enter Tryz.func123, Tryz.ntmps123
      go_wp2_with fail
      refine (CP.out _).mono ?_; rintro e w1 ⟨rfl, rfl⟩
      go_wp2_with fail
      refine (CQ.out _).mono ?_; rintro e w1 ⟨rfl, rfl⟩
      go_wp2_with fail
      refine (CM.out _).mono ?_; rintro e w1 ⟨rfl, rfl⟩
      go_wp2_with fail
      go_ret2
      exact ⟨by rw [HRR.out.1, HRR.out.2]; rfl, rfl⟩
   ·
    rcases (show Q = 0 ∨ Q = 1 ∨ (Q ≠ 0 ∧ Q ≠ 1) by omega) with hQ | hQ | ⟨hQ, hQ1⟩
    ·
     subst hP
     subst hQ
     cases cB
     ·
      cases zB
      ·
       have X := Lib.hid h16n
       have HRR := Lib.hid (show R1 = 0 ∧ R2 = 4 by have := hR.out; rw [if_neg h16n, if_neg (by decide), if_neg (fun h => by have h1 := h.1; have h2 := h.2; omega), if_neg (fun h => by cases h.2), if_neg (by decide), if_neg (fun h => by have h1 := h.1.1; omega)] at this; exact ⟨congrArg Prod.fst this, congrArg Prod.snd this⟩)
       clear hR
       go_enter Tryz.func123, Tryz.ntmps123
       go_wp2_with fail
       refine (CP.out _).mono ?_; rintro e w1 ⟨rfl, rfl⟩
       go_wp2_with fail
       refine (CQ.out _).mono ?_; rintro e w1 ⟨rfl, rfl⟩
       go_wp2_with fail
       refine (CM.out _).mono ?_; rintro e w1 ⟨rfl, rfl⟩
       go_wp2_with fail
       refine (CC.out _ rfl).mono ?_; rintro e w1 ⟨rfl, rfl⟩
       go_wp2_with fail
       go_ret2
       exact ⟨by rw [HRR.out.1, HRR.out.2]; rfl, rfl⟩
      ·
       have X := Lib.hid h16n
       have HRR := Lib.hid (show R1 = 2 ∧ R2 = 0 by have := hR.out; rw [if_neg h16n, if_neg (by decide), if_neg (fun h => by have h1 := h.1; have h2 := h.2; omega), if_neg (fun h => by cases h.2), if_pos rfl] at this; exact ⟨congrArg Prod.fst this, congrArg Prod.snd this⟩)
       clear hR
       go_enter Tryz.func123, Tryz.ntmps123
       go_wp2_with fail
       refine (CP.out _).mono ?_; rintro e w1 ⟨rfl, rfl⟩
       go_wp2_with fail
       refine (CQ.out _).mono ?_; rintro e w1 ⟨rfl, rfl⟩
       go_wp2_with fail
       refine (CM.out _).mono ?_; rintro e w1 ⟨rfl, rfl⟩
       go_wp2_with fail
       refine (CC.out _ rfl).mono ?_; rintro e w1 ⟨rfl, rfl⟩
       go_wp2_with fail
       go_ret2
       exact ⟨by rw [HRR.out.1, HRR.out.2]; rfl, rfl⟩
     ·
      have X := Lib.hid h16n
      have HRR := Lib.hid (show R1 = 1 ∧ R2 = 0 by have := hR.out; rw [if_neg h16n, if_neg (by decide), if_neg (fun h => by have h1 := h.1; have h2 := h.2; omega), if_pos ⟨⟨rfl, rfl⟩, rfl⟩] at this; exact ⟨congrArg Prod.fst this, congrArg Prod.snd this⟩)
      clear hR
      go_enter Tryz.func123, Tryz.ntmps123
      go_wp2_with fail
      refine (CP.out _).mono ?_; rintro e w1 ⟨rfl, rfl⟩
      go_wp2_with fail
      refine (CQ.out _).mono ?_; rintro e w1 ⟨rfl, rfl⟩
      go_wp2_with fail
      refine (CM.out _).mono ?_; rintro e w1 ⟨rfl, rfl⟩
      go_wp2_with fail
      refine (CC.out _ rfl).mono ?_; rintro e w1 ⟨rfl, rfl⟩
      go_wp2_with fail
      go_ret2
      exact ⟨by rw [HRR.out.1, HRR.out.2]; rfl, rfl⟩
    ·
     subst hP
     subst hQ
     cases zB
     ·
      have X := Lib.hid h16n
      have HRR := Lib.hid (show R1 = 0 ∧ R2 = 4 by have := hR.out; rw [if_neg h16n, if_neg (by decide), if_neg (fun h => by have h1 := h.1; have h2 := h.2; omega), if_neg (fun h => by have h1 := h.1.1; have h2 := h.1.2; omega), if_neg (by decide), if_neg (fun h => by have h1 := h.1.1; have h2 := h.1.2; omega)] at this; exact ⟨congrArg Prod.fst this, congrArg Prod.snd this⟩)
      clear hR
      go_enter Tryz.func123, Tryz.ntmps123
      go_wp2_with fail
      refine (CP.out _).mono ?_; rintro e w1 ⟨rfl, rfl⟩
      go_wp2_with fail
      refine (CQ.out _).mono ?_; rintro e w1 ⟨rfl, rfl⟩
      go_wp2_with fail
      refine (CM.out _).mono ?_; rintro e w1 ⟨rfl, rfl⟩
      go_wp2_with fail
      go_ret2
      exact ⟨by rw [HRR.out.1, HRR.out.2]; rfl, rfl⟩
     ·
      have X := Lib.hid h16n
      have HRR := Lib.hid (show R1 = 2 ∧ R2 = 0 by have := hR.out; rw [if_neg h16n, if_neg (by decide), if_neg (fun h => by have h1 := h.1; have h2 := h.2; omega), if_neg (fun h => by have h1 := h.1.1; have h2 := h.1.2; omega), if_pos rfl] at this; exact ⟨congrArg Prod.fst this, congrArg Prod.snd this⟩)
      clear hR
      go_enter Tryz.func123, Tryz.ntmps123
      go_wp2_with fail
      refine (CP.out _).mono ?_; rintro e w1 ⟨rfl, rfl⟩
      go_wp2_with fail
      refine (CQ.out _).mono ?_; rintro e w1 ⟨rfl, rfl⟩
      go_wp2_with fail
      refine (CM.out _).mono ?_; rintro e w1 ⟨rfl, rfl⟩
      go_wp2_with fail
      go_ret2
      exact ⟨by rw [HRR.out.1, HRR.out.2]; rfl, rfl⟩
    ·
     subst hP
     have gQ0 : ((Q : Int) == 0) = false := by rw [beq_eq_false_iff_ne]; omega
     have gQ1 : ((Q : Int) == 1) = false := by rw [beq_eq_false_iff_ne]; omega
     cases zB
     ·
      have X := Lib.hid h16n
      have HRR := Lib.hid (show R1 = 0 ∧ R2 = 4 by have := hR.out; rw [if_neg h16n, if_neg (by decide), if_neg (fun h => by have h1 := h.1; have h2 := h.2; omega), if_neg (fun h => by have h1 := h.1.1; have h2 := h.1.2; omega), if_neg (by decide), if_neg (fun h => by have h1 := h.1.1; have h2 := h.1.2; omega)] at this; exact ⟨congrArg Prod.fst this, congrArg Prod.snd this⟩)
      clear hR
      go_enter Tryz.func123, Tryz.ntmps123
      go_wp2_with fail
      refine (CP.out _).mono ?_; rintro e w1 ⟨rfl, rfl⟩
      go_wp2_with fail
      refine (CQ.out _).mono ?_; rintro e w1 ⟨rfl, rfl⟩
      go_wp2_with fail
      refine (CM.out _).mono ?_; rintro e w1 ⟨rfl, rfl⟩
      go_wp2_with fail
      go_ret2
      exact ⟨by rw [HRR.out.1, HRR.out.2]; rfl, rfl⟩
     ·
      have X := Lib.hid h16n
      have HRR := Lib.hid (show R1 = 2 ∧ R2 = 0 by have := hR.out; rw [if_neg h16n, if_neg (by decide), if_neg (fun h => by have h1 := h.1; have h2 := h.2; omega), if_neg (fun h => by have h1 := h.1.1; have h2 := h.1.2; omega), if_pos rfl] at this; exact ⟨congrArg Prod.fst this, congrArg Prod.snd this⟩)
      clear hR
      go_enter Tryz.func123, Tryz.ntmps123
      go_wp2_with fail
      refine (CP.out _).mono ?_; rintro e w1 ⟨rfl, rfl⟩
      go_wp2_with fail
      refine (CQ.out _).mono ?_; rintro e w1 ⟨rfl, rfl⟩
      go_wp2_with fail
      refine (CM.out _).mono ?_; rintro e w1 ⟨rfl, rfl⟩
      go_wp2_with fail
      go_ret2
      exact ⟨by rw [HRR.out.1, HRR.out.2]; rfl, rfl⟩
   ·
    rcases (show Q = 0 ∨ Q = 1 ∨ (Q ≠ 0 ∧ Q ≠ 1) by omega) with hQ | hQ | ⟨hQ, hQ1⟩
    ·
     have gP0 : ((P : Int) == 0) = false := by rw [beq_eq_false_iff_ne]; omega
     have gP1 : ((P : Int) == 1) = false := by rw [beq_eq_false_iff_ne]; omega
     subst hQ
     cases zB
     ·
      have X := Lib.hid h16n
      have HRR := Lib.hid (show R1 = 0 ∧ R2 = 4 by have := hR.out; rw [if_neg h16n, if_neg (by decide), if_neg (fun h => by have h1 := h.1; have h2 := h.2; omega), if_neg (fun h => by have h1 := h.1.1; have h2 := h.1.2; omega), if_neg (by decide), if_neg (fun h => by have h1 := h.1.1; have h2 := h.1.2; omega)] at this; exact ⟨congrArg Prod.fst this, congrArg Prod.snd this⟩)
      clear hR
      go_enter Tryz.func123, Tryz.ntmps123
      go_wp2_with fail
      refine (CP.out _).mono ?_; rintro e w1 ⟨rfl, rfl⟩
      go_wp2_with fail
      refine (CQ.out _).mono ?_; rintro e w1 ⟨rfl, rfl⟩
      go_wp2_with fail
      refine (CM.out _).mono ?_; rintro e w1 ⟨rfl, rfl⟩
      go_wp2_with fail
      go_ret2
      exact ⟨by rw [HRR.out.1, HRR.out.2]; rfl, rfl⟩
     ·
      have X := Lib.hid h16n
      have HRR := Lib.hid (show R1 = 2 ∧ R2 = 0 by have := hR.out; rw [if_neg h16n, if_neg (by decide), if_neg (fun h => by have h1 := h.1; have h2 := h.2; omega), if_neg (fun h => by have h1 := h.1.1; have h2 := h.1.2; omega), if_pos rfl] at this; exact ⟨congrArg Prod.fst this, congrArg Prod.snd this⟩)
      clear hR
      go_enter Tryz.func123, Tryz.ntmps123
      go_wp2_with fail
      refine (CP.out _).mono ?_; rintro e w1 ⟨rfl, rfl⟩
      go_wp2_with fail
      refine (CQ.out _).mono ?_; rintro e w1 ⟨rfl, rfl⟩
      go_wp2_with fail
      refine (CM.out _).mono ?_; rintro e w1 ⟨rfl, rfl⟩
      go_wp2_with fail
      go_ret2
      exact ⟨by rw [HRR.out.1, HRR.out.2]; rfl, rfl⟩
    ·
     have gP0 : ((P : Int) == 0) = false := by rw [beq_eq_false_iff_ne]; omega
     have gP1 : ((P : Int) == 1) = false := by rw [beq_eq_false_iff_ne]; omega
     subst hQ
     cases zB
     ·
      have X := Lib.hid h16n
      have HRR := Lib.hid (show R1 = 0 ∧ R2 = 4 by have := hR.out; rw [if_neg h16n, if_neg (by decide), if_neg (fun h => by have h1 := h.1; have h2 := h.2; omega), if_neg (fun h => by have h1 := h.1.1; have h2 := h.1.2; omega), if_neg (by decide), if_neg (fun h => by have h1 := h.1.1; have h2 := h.1.2; omega)] at this; exact ⟨congrArg Prod.fst this, congrArg Prod.snd this⟩)
      clear hR
      go_enter Tryz.func123, Tryz.ntmps123
      go_wp2_with fail
      refine (CP.out _).mono ?_; rintro e w1 ⟨rfl, rfl⟩
      go_wp2_with fail
      refine (CQ.out _).mono ?_; rintro e w1 ⟨rfl, rfl⟩
      go_wp2_with fail
      refine (CM.out _).mono ?_; rintro e w1 ⟨rfl, rfl⟩
      go_wp2_with fail
      go_ret2
      exact ⟨by rw [HRR.out.1, HRR.out.2]; rfl, rfl⟩
     ·
      have X := Lib.hid h16n
      have HRR := Lib.hid (show R1 = 2 ∧ R2 = 0 by have := hR.out; rw [if_neg h16n, if_neg (by decide), if_neg (fun h => by have h1 := h.1; have h2 := h.2; omega), if_neg (fun h => by have h1 := h.1.1; have h2 := h.1.2; omega), if_pos rfl] at this; exact ⟨congrArg Prod.fst this, congrArg Prod.snd this⟩)
      clear hR
      go_enter Tryz.func123, Tryz.ntmps123
      go_wp2_with fail
      refine (CP.out _).mono ?_; rintro e w1 ⟨rfl, rfl⟩
      go_wp2_with fail
      refine (CQ.out _).mono ?_; rintro e w1 ⟨rfl, rfl⟩
      go_wp2_with fail
      refine (CM.out _).mono ?_; rintro e w1 ⟨rfl, rfl⟩
      go_wp2_with fail
      go_ret2
      exact ⟨by rw [HRR.out.1, HRR.out.2]; rfl, rfl⟩
    ·
     have gP0 : ((P : Int) == 0) = false := by rw [beq_eq_false_iff_ne]; omega
     have gP1 : ((P : Int) == 1) = false := by rw [beq_eq_false_iff_ne]; omega
     have gQ0 : ((Q : Int) == 0) = false := by rw [beq_eq_false_iff_ne]; omega
     have gQ1 : ((Q : Int) == 1) = false := by rw [beq_eq_false_iff_ne]; omega
     cases zB
     ·
      have X := Lib.hid h16n
      have HRR := Lib.hid (show R1 = 0 ∧ R2 = 4 by have := hR.out; rw [if_neg h16n, if_neg (by decide), if_neg (fun h => by have h1 := h.1; have h2 := h.2; omega), if_neg (fun h => by have h1 := h.1.1; have h2 := h.1.2; omega), if_neg (by decide), if_neg (fun h => by have h1 := h.1.1; have h2 := h.1.2; omega)] at this; exact ⟨congrArg Prod.fst this, congrArg Prod.snd this⟩)
      clear hR
      go_enter Tryz.func123, Tryz.ntmps123
      go_wp2_with fail
      refine (CP.out _).mono ?_; rintro e w1 ⟨rfl, rfl⟩
      go_wp2_with fail
      refine (CQ.out _).mono ?_; rintro e w1 ⟨rfl, rfl⟩
      go_wp2_with fail
      refine (CM.out _).mono ?_; rintro e w1 ⟨rfl, rfl⟩
      go_wp2_with fail
      go_ret2
      exact ⟨by rw [HRR.out.1, HRR.out.2]; rfl, rfl⟩
     ·
      have X := Lib.hid h16n
      have HRR := Lib.hid (show R1 = 2 ∧ R2 = 0 by have := hR.out; rw [if_neg h16n, if_neg (by decide), if_neg (fun h => by have h1 := h.1; have h2 := h.2; omega), if_neg (fun h => by have h1 := h.1.1; have h2 := h.1.2; omega), if_pos rfl] at this; exact ⟨congrArg Prod.fst this, congrArg Prod.snd this⟩)
      clear hR
      go_enter Tryz.func123, Tryz.ntmps123
      go_wp2_with fail
      refine (CP.out _).mono ?_; rintro e w1 ⟨rfl, rfl⟩
      go_wp2_with fail
      refine (CQ.out _).mono ?_; rintro e w1 ⟨rfl, rfl⟩
      go_wp2_with fail
      refine (CM.out _).mono ?_; rintro e w1 ⟨rfl, rfl⟩
      go_wp2_with fail
      go_ret2
      exact ⟨by rw [HRR.out.1, HRR.out.2]; rfl, rfl⟩
theorem cnt_le (c : UInt8) (s : ByteArray) : s.data.toList.count c ≤ s.size := by rw [← ab_len s]; exact List.count_le_length
theorem kind_any (s : ByteArray) (w : World) (m : Int) (hs : s.size ≤ 100000) (hm : w.cell? ⟨3, 0, none⟩ = some (.int .i64 m)) :
  Calls Tryz.prog 123 #[.string s] w fun e w' => e = .returned (.tuple #[.int .i64 (Fo.kd s.data.toList).1, .int .i64 (Fo.kd s.data.toList).2]) ∧ w = w' := by
 have h1 := cnt_le 37 s; have h2 := cnt_le 47 s
 refine kind_core s (s.data.toList.count 37) (s.data.toList.count 47) (Fo.made [43, 45, 37, 47] s.data.toList) (Lib.contains s.data.toList [37, 115]) (s.data.toList == [37, 122]) (Lib.hasPrefix s.data.toList [47]) (Lib.hasSuffix s.data.toList [47]) (Fo.kd s.data.toList) w hs (by omega) (by omega) (by rw [ByteArray.toList_eq]) ?_ ?_ ?_ ?_ ?_ ?_ ?_
 ·
  exact fun W => (Any.strings_Count_one Tryz.lays138 s 37 W).mono fun e w' ⟨h, h2⟩ => ⟨h, h2.symm⟩
 ·
  exact fun W => (Any.strings_Count_one Tryz.lays138 s 47 W).mono fun e w' ⟨h, h2⟩ => ⟨h, h2.symm⟩
 ·
  exact fun W => made_any s ⟨#[43, 45, 37, 47]⟩ W hs
 ·
  rintro W rfl
  exact (Any.strings_Contains Tryz.lays144 s ⟨#[37, 115]⟩ m w (by omega) hm).mono fun e w' ⟨h, h2⟩ => ⟨h, h2.symm⟩
 ·
  exact fun W => (Any.strings_HasPrefix Tryz.lays99 s ⟨#[47]⟩ W).mono fun e w' ⟨h, h2⟩ => ⟨h, h2.symm⟩
 ·
  exact fun W => (Any.strings_HasSuffix Tryz.lays100 s ⟨#[47]⟩ W (by omega)).mono fun e w' ⟨h, h2⟩ => ⟨h, h2.symm⟩
 ·
  refine Lib.hid ?_
  unfold Fo.kd
  rw [ab_len]
theorem fcheck_any (s : ByteArray) (w : World) (m : Int) (hs : s.size ≤ 100000) (hm : w.cell? ⟨3, 0, none⟩ = some (.int .i64 m)) :
  Calls Tryz.prog 73 #[.string s] w fun e w' => e = .returned (.int .i64 (Fo.kd s.data.toList).2) ∧ w = w' := by
 have C := Lib.hid (kind_any s w m hs hm)
 generalize (Fo.kd s.data.toList).1 = a at C
 generalize (Fo.kd s.data.toList).2 = b at C ⊢
 clear hm
 go_enter Tryz.func73, Tryz.ntmps73
 go_wp2_with fail
 refine C.out.mono ?_; rintro e w1 ⟨rfl, rfl⟩
 go_wp2_with fail
 go_ret
 exact ⟨rfl, rfl⟩
end Go.Proofs.YtpggfhmnhbnefaaGreatDoor
