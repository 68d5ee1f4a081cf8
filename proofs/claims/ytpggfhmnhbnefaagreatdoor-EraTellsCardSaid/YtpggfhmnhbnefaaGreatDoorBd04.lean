/- Joined: FoB, ErA. -/
import Derived.Test.YtpggfhmnhbnefaaGreatDoorBd03
import Derived.Test.YtpggfhmnhbnefaaGreatDoorLaid7
import Derived.Shelf.Strings.Count
import Derived.Shelf.Strings.Search3
import Derived.Shelf.Strings.Prefix
import Derived.Lib.SplitLaws
import Derived.Test.YtpggfhmnhbnefaaGreatDoorBd01
import Derived.Test.YtpggfhmnhbnefaaGreatDoorBd02
set_option linter.unusedVariables false
set_option linter.unusedSimpArgs false
namespace Go.Proofs.YtpggfhmnhbnefaaGreatDoor
open Go.RowKit
namespace Fo
def kd (l : List UInt8) : Int × Int :=
 if 16 < l.length then (0, 9) else if made [43, 45, 37, 47] l = false then (0, 4)
 else if l.count 37 = 0 ∧ l.count 47 = 0 then (0, 0)
 else if (l.count 37 = 1 ∧ l.count 47 = 0) ∧ Lib.contains l [37, 115] = true then (1, 0)
 else if (l == [37, 122]) = true then (2, 0)
 else if (l.count 37 = 0 ∧ l.count 47 = 1) ∧ Lib.hasPrefix l [47] = false ∧ Lib.hasSuffix l [47] = false then (3, 0) else (0, 4)
end Fo
set_option maxHeartbeats 4000000 in
set_option maxRecDepth 100000 in
theorem kind_core (s : ByteArray) (P Q : Nat) (mB cB zB pB sB : Bool) (R : Int × Int) (w : World) (hs : s.size ≤ 100000) (p0 : P ≤ 100000) (q0 : Q ≤ 100000) (hz : (s.toList == [37, 122]) = zB)
  (CP : Hid (∀ W, Calls Tryz.prog 163 #[.string s, .string ⟨#[37]⟩] W fun e w' => e = .returned (.int .i64 P) ∧ W = w'))
  (CQ : Hid (∀ W, Calls Tryz.prog 163 #[.string s, .string ⟨#[47]⟩] W fun e w' => e = .returned (.int .i64 Q) ∧ W = w'))
  (CM : Hid (∀ W, Calls Tryz.prog 142 #[.string s, .string ⟨#[43, 45, 37, 47]⟩] W fun e w' => e = .returned (.bool mB) ∧ W = w'))
  (CC : Hid (∀ W, w = W → Calls Tryz.prog 164 #[.string s, .string ⟨#[37, 115]⟩] W fun e w' => e = .returned (.bool cB) ∧ W = w'))
  (CH : Hid (∀ W, Calls Tryz.prog 165 #[.string s, .string ⟨#[47]⟩] W fun e w' => e = .returned (.bool pB) ∧ W = w'))
  (CS : Hid (∀ W, Calls Tryz.prog 166 #[.string s, .string ⟨#[47]⟩] W fun e w' => e = .returned (.bool sB) ∧ W = w'))
  (hR : Hid (R = if 16 < s.size then (0, 9) else if mB = false then (0, 4) else if P = 0 ∧ Q = 0 then (0, 0) else if (P = 1 ∧ Q = 0) ∧ cB = true then (1, 0) else if zB = true then (2, 0) else if (P = 0 ∧ Q = 1) ∧ pB = false ∧ sB = false then (3, 0) else (0, 4))) :
  Calls Tryz.prog 123 #[.string s] w fun e w' => e = .returned (.tuple #[.int .i64 R.1, .int .i64 R.2]) ∧ w = w' := by
 obtain ⟨R1, R2⟩ := R
 show Calls Tryz.prog 123 #[.string s] w fun e w' => e = .returned (.tuple #[.int .i64 R1, .int .i64 R2]) ∧ w = w'
 by_cases h16 : 16 < (s.size : Int)
 ·
  have h16n : 16 < s.size := by omega
  have HRR := Lib.hid (show R1 = 0 ∧ R2 = 9 by have := hR.out; rw [if_pos h16n] at this; exact ⟨congrArg Prod.fst this, congrArg Prod.snd this⟩)
  clear hR
  go_enter Tryz.func123, Tryz.ntmps123
  go_wp2_with fail
  refine (CP.out _).mono ?_; rintro e w1 ⟨rfl, rfl⟩
  go_wp2_with fail
  refine (CQ.out _).mono ?_; rintro e w1 ⟨rfl, rfl⟩
  go_wp2_with fail
  go_ret2
  exact ⟨by rw [HRR.out.1, HRR.out.2]; rfl, rfl⟩
 ·
  have h16n : ¬ 16 < s.size := by omega
  cases mB
  ·
   have X := Lib.hid h16n
   have HRR := Lib.hid (show R1 = 0 ∧ R2 = 4 by have := hR.out; rw [if_neg h16n, if_pos rfl] at this; exact ⟨congrArg Prod.fst this, congrArg Prod.snd this⟩)
   clear hR
   go_enter Tryz.func123, Tryz.ntmps123
   go_wp2_with fail
   refine (CP.out _).mono ?_; rintro e w1 ⟨rfl, rfl⟩
   go_wp2_with fail
   refine (CQ.out _).mono ?_; rintro e w1 ⟨rfl, rfl⟩
   go_wp2_with fail
   refine (CM.out _).mono ?_; rintro e w1 ⟨rfl, rfl⟩
   go_wp2_with fail
   go_ret2
   exact ⟨by rw [HRR.out.1, HRR.out.2]; rfl, rfl⟩
  ·
   rcases (show P = 0 ∨ P = 1 ∨ (P ≠ 0 ∧ P ≠ 1) by omega) with hP | hP | ⟨hP, hP1⟩
   ·
    rcases (show Q = 0 ∨ Q = 1 ∨ (Q ≠ 0 ∧ Q ≠ 1) by omega) with hQ | hQ | ⟨hQ, hQ1⟩
    ·
     subst hP
     subst hQ
     have HRR := Lib.hid (show R1 = 0 ∧ R2 = 0 by have := hR.out; rw [if_neg h16n, if_neg (by decide), if_pos ⟨rfl, rfl⟩] at this; exact ⟨congrArg Prod.fst this, congrArg Prod.snd this⟩)
     clear hR
     go_enter Tryz.func123, Tryz.ntmps123
     go_wp2_with fail
     refine (CP.out _).mono ?_; rintro e w1 ⟨rfl, rfl⟩
     go_wp2_with fail
     refine (CQ.out _).mono ?_; rintro e w1 ⟨rfl, rfl⟩
     go_wp2_with fail
     refine (CM.out _).mono ?_; rintro e w1 ⟨rfl, rfl⟩
     go_wp2_with fail
     go_ret2
     exact ⟨by rw [HRR.out.1, HRR.out.2]; rfl, rfl⟩
    ·
     subst hP
     subst hQ
     cases zB
     ·
      have X := Lib.hid h16n
      cases pB
      ·
       cases sB
       ·
        have Y := Lib.hid h16n
        have HRR := Lib.hid (show R1 = 3 ∧ R2 = 0 by have := hR.out; rw [if_neg h16n, if_neg (by decide), if_neg (fun h => by have h1 := h.1; have h2 := h.2; omega), if_neg (fun h => by have h1 := h.1.1; have h2 := h.1.2; omega), if_neg (by decide), if_pos ⟨⟨rfl, rfl⟩, rfl, rfl⟩] at this; exact ⟨congrArg Prod.fst this, congrArg Prod.snd this⟩)
        clear hR
        go_enter Tryz.func123, Tryz.ntmps123
        go_wp2_with fail
        refine (CP.out _).mono ?_; rintro e w1 ⟨rfl, rfl⟩
        go_wp2_with fail
        refine (CQ.out _).mono ?_; rintro e w1 ⟨rfl, rfl⟩
        go_wp2_with fail
        refine (CM.out _).mono ?_; rintro e w1 ⟨rfl, rfl⟩
        go_wp2_with fail
        refine (CH.out _).mono ?_; rintro e w1 ⟨rfl, rfl⟩
        go_wp2_with fail
        refine (CS.out _).mono ?_; rintro e w1 ⟨rfl, rfl⟩
        go_wp2_with fail
        go_ret2
        exact ⟨by rw [HRR.out.1, HRR.out.2]; rfl, rfl⟩
       ·
        have Y := Lib.hid h16n
        have HRR := Lib.hid (show R1 = 0 ∧ R2 = 4 by have := hR.out; rw [if_neg h16n, if_neg (by decide), if_neg (fun h => by have h1 := h.1; have h2 := h.2; omega), if_neg (fun h => by have h1 := h.1.1; have h2 := h.1.2; omega), if_neg (by decide), if_neg (fun h => by cases h.2.2)] at this; exact ⟨congrArg Prod.fst this, congrArg Prod.snd this⟩)
        clear hR
        go_enter Tryz.func123, Tryz.ntmps123
        go_wp2_with fail
        refine (CP.out _).mono ?_; rintro e w1 ⟨rfl, rfl⟩
        go_wp2_with fail
        refine (CQ.out _).mono ?_; rintro e w1 ⟨rfl, rfl⟩
        go_wp2_with fail
        refine (CM.out _).mono ?_; rintro e w1 ⟨rfl, rfl⟩
        go_wp2_with fail
        refine (CH.out _).mono ?_; rintro e w1 ⟨rfl, rfl⟩
        go_wp2_with fail
        refine (CS.out _).mono ?_; rintro e w1 ⟨rfl, rfl⟩
        go_wp2_with fail
        go_ret2
        exact ⟨by rw [HRR.out.1, HRR.out.2]; rfl, rfl⟩
      ·
       have Y := Lib.hid h16n
       have HRR := Lib.hid (show R1 = 0 ∧ R2 = 4 by have := hR.out; rw [if_neg h16n, if_neg (by decide), if_neg (fun h => by have h1 := h.1; have h2 := h.2; omega), if_neg (fun h => by have h1 := h.1.1; have h2 := h.1.2; omega), if_neg (by decide), if_neg (fun h => by cases h.2.1)] at this; exact ⟨congrArg Prod.fst this, congrArg Prod.snd this⟩)
       clear hR
       go_enter Tryz.func123, Tryz.ntmps123
       go_wp2_with fail
       refine (CP.out _).mono ?_; rintro e w1 ⟨rfl, rfl⟩
       go_wp2_with fail
       refine (CQ.out _).mono ?_; rintro e w1 ⟨rfl, rfl⟩
       go_wp2_with fail
       refine (CM.out _).mono ?_; rintro e w1 ⟨rfl, rfl⟩
       go_wp2_with fail
       refine (CH.out _).mono ?_; rintro e w1 ⟨rfl, rfl⟩
       go_wp2_with fail
       go_ret2
       exact ⟨by rw [HRR.out.1, HRR.out.2]; rfl, rfl⟩
     ·
      have X := Lib.hid h16n
      have HRR := Lib.hid (show R1 = 2 ∧ R2 = 0 by have := hR.out; rw [if_neg h16n, if_neg (by decide), if_neg (fun h => by have h1 := h.1; have h2 := h.2; omega), if_neg (fun h => by have h1 := h.1.1; have h2 := h.1.2; omega), if_pos rfl] at this; exact ⟨congrArg Prod.fst this, congrArg Prod.snd this⟩)
      clear hR
      go_enter Tryz.func123, Tryz.ntmps123
      go_wp2_with fail
      refine (CP.out _).mono ?_; rintro e w1 ⟨rfl, rfl⟩
      go_wp2_with fail
      refine (CQ.out _).mono ?_; rintro e w1 ⟨rfl, rfl⟩
      go_wp2_with fail
      refine (CM.out _).mono ?_; rintro e w1 ⟨rfl, rfl⟩
      go_wp2_with fail
      go_ret2
      exact ⟨by rw [HRR.out.1, HRR.out.2]; rfl, rfl⟩
    ·
     subst hP
     have gQ0 : ((Q : Int) == 0) = false := by rw [beq_eq_false_iff_ne]; omega
     have gQ1 : ((Q : Int) == 1) = false := by rw [beq_eq_false_iff_ne]; omega
     cases zB
     ·
      have X := Lib.hid h16n
      have HRR := Lib.hid (show R1 = 0 ∧ R2 = 4 by have := hR.out; rw [if_neg h16n, if_neg (by decide), if_neg (fun h => by have h1 := h.1; have h2 := h.2; omega), if_neg (fun h => by have h1 := h.1.1; have h2 := h.1.2; omega), if_neg (by decide), if_neg (fun h => by have h1 := h.1.1; have h2 := h.1.2; omega)] at this; exact ⟨congrArg Prod.fst this, congrArg Prod.snd this⟩)
      clear hR
      go_enter Tryz.func123, Tryz.ntmps123
      go_wp2_with fail
      refine (CP.out _).mono ?_; rintro e w1 ⟨rfl, rfl⟩
      go_wp2_with fail
      refine (CQ.out _).mono ?_; rintro e w1 ⟨rfl, rfl⟩
      go_wp2_with fail
      refine (CM.out _).mono ?_; rintro e w1 ⟨rfl, rfl⟩
      go_wp2_with fail
      go_ret2
      exact ⟨by rw [HRR.out.1, HRR.out.2]; rfl, rfl⟩
     ·
      have X := Lib.hid h16n
      have HRR := Lib.hid (show R1 = 2 ∧ R2 = 0 by have := hR.out; rw [if_neg h16n, if_neg (by decide), if_neg (fun h => by have h1 := h.1; have h2 := h.2; omega), if_neg (fun h => by have h1 := h.1.1; have h2 := h.1.2; omega), if_pos rfl] at this; exact ⟨congrArg Prod.fst this, congrArg Prod.snd this⟩)
      clear hR
      go_enter Tryz.func123, Tryz.ntmps123
      go_wp2_with fail
      refine (CP.out _).mono ?_; rintro e w1 ⟨rfl, rfl⟩
      go_wp2_with fail
      refine (CQ.out _).mono ?_; rintro e w1 ⟨rfl, rfl⟩
      go_wp2_with fail
      refine (CM.out _).mono ?_; rintro e w1 ⟨rfl, rfl⟩
      go_wp2_with fail
      go_ret2
      exact ⟨by rw [HRR.out.1, HRR.out.2]; rfl, rfl⟩
   ·
    rcases (show Q = 0 ∨ Q = 1 ∨ (Q ≠ 0 ∧ Q ≠ 1) by omega) with hQ | hQ | ⟨hQ, hQ1⟩
    ·
     subst hP
     subst hQ
     cases cB
     ·
      cases zB
      ·
       have X := Lib.hid h16n
       have HRR := Lib.hid (show R1 = 0 ∧ R2 = 4 by have := hR.out; rw [if_neg h16n, if_neg (by decide), if_neg (fun h => by have h1 := h.1; have h2 := h.2; omega), if_neg (fun h => by cases h.2), if_neg (by decide), if_neg (fun h => by have h1 := h.1.1; omega)] at this; exact ⟨congrArg Prod.fst this, congrArg Prod.snd this⟩)
       clear hR
       go_enter Tryz.func123, Tryz.ntmps123
       go_wp2_with fail
       refine (CP.out _).mono ?_; rintro e w1 ⟨rfl, rfl⟩
       go_wp2_with fail
       refine (CQ.out _).mono ?_; rintro e w1 ⟨rfl, rfl⟩
       go_wp2_with fail
       refine (CM.out _).mono ?_; rintro e w1 ⟨rfl, rfl⟩
       go_wp2_with fail
       refine (CC.out _ rfl).mono ?_; rintro e w1 ⟨rfl, rfl⟩
       go_wp2_with fail
       go_ret2
       exact ⟨by rw [HRR.out.1, HRR.out.2]; rfl, rfl⟩
      ·
       have X := Lib.hid h16n
       have HRR := Lib.hid (show R1 = 2 ∧ R2 = 0 by have := hR.out; rw [if_neg h16n, if_neg (by decide), if_neg (fun h => by have h1 := h.1; have h2 := h.2; omega), if_neg (fun h => by cases h.2), if_pos rfl] at this; exact ⟨congrArg Prod.fst this, congrArg Prod.snd this⟩)
       clear hR
       go_enter Tryz.func123, Tryz.ntmps123
       go_wp2_with fail
       refine (CP.out _).mono ?_; rintro e w1 ⟨rfl, rfl⟩
       go_wp2_with fail
       refine (CQ.out _).mono ?_; rintro e w1 ⟨rfl, rfl⟩
       go_wp2_with fail
       refine (CM.out _).mono ?_; rintro e w1 ⟨rfl, rfl⟩
       go_wp2_with fail
       refine (CC.out _ rfl).mono ?_; rintro e w1 ⟨rfl, rfl⟩
       go_wp2_with fail
       go_ret2
       exact ⟨by rw [HRR.out.1, HRR.out.2]; rfl, rfl⟩
     ·
      have X := Lib.hid h16n
      have HRR := Lib.hid (show R1 = 1 ∧ R2 = 0 by have := hR.out; rw [if_neg h16n, if_neg (by decide), if_neg (fun h => by have h1 := h.1; have h2 := h.2; omega), if_pos ⟨⟨rfl, rfl⟩, rfl⟩] at this; exact ⟨congrArg Prod.fst this, congrArg Prod.snd this⟩)
      clear hR
      go_enter Tryz.func123, Tryz.ntmps123
      go_wp2_with fail
      refine (CP.out _).mono ?_; rintro e w1 ⟨rfl, rfl⟩
      go_wp2_with fail
      refine (CQ.out _).mono ?_; rintro e w1 ⟨rfl, rfl⟩
      go_wp2_with fail
      refine (CM.out _).mono ?_; rintro e w1 ⟨rfl, rfl⟩
      go_wp2_with fail
      refine (CC.out _ rfl).mono ?_; rintro e w1 ⟨rfl, rfl⟩
      go_wp2_with fail
      go_ret2
      exact ⟨by rw [HRR.out.1, HRR.out.2]; rfl, rfl⟩
    ·
     subst hP
     subst hQ
     cases zB
     ·
      have X := Lib.hid h16n
      have HRR := Lib.hid (show R1 = 0 ∧ R2 = 4 by have := hR.out; rw [if_neg h16n, if_neg (by decide), if_neg (fun h => by have h1 := h.1; have h2 := h.2; omega), if_neg (fun h => by have h1 := h.1.1; have h2 := h.1.2; omega), if_neg (by decide), if_neg (fun h => by have h1 := h.1.1; have h2 := h.1.2; omega)] at this; exact ⟨congrArg Prod.fst this, congrArg Prod.snd this⟩)
      clear hR
      go_enter Tryz.func123, Tryz.ntmps123
      go_wp2_with fail
      refine (CP.out _).mono ?_; rintro e w1 ⟨rfl, rfl⟩
      go_wp2_with fail
      refine (CQ.out _).mono ?_; rintro e w1 ⟨rfl, rfl⟩
      go_wp2_with fail
      refine (CM.out _).mono ?_; rintro e w1 ⟨rfl, rfl⟩
      go_wp2_with fail
      go_ret2
      exact ⟨by rw [HRR.out.1, HRR.out.2]; rfl, rfl⟩
     ·
      have X := Lib.hid h16n
      have HRR := Lib.hid (show R1 = 2 ∧ R2 = 0 by have := hR.out; rw [if_neg h16n, if_neg (by decide), if_neg (fun h => by have h1 := h.1; have h2 := h.2; omega), if_neg (fun h => by have h1 := h.1.1; have h2 := h.1.2; omega), if_pos rfl] at this; exact ⟨congrArg Prod.fst this, congrArg Prod.snd this⟩)
      clear hR
      go_enter Tryz.func123, Tryz.ntmps123
      go_wp2_with fail
      refine (CP.out _).mono ?_; rintro e w1 ⟨rfl, rfl⟩
      go_wp2_with fail
      refine (CQ.out _).mono ?_; rintro e w1 ⟨rfl, rfl⟩
      go_wp2_with fail
      refine (CM.out _).mono ?_; rintro e w1 ⟨rfl, rfl⟩
      go_wp2_with fail
      go_ret2
      exact ⟨by rw [HRR.out.1, HRR.out.2]; rfl, rfl⟩
    ·
     subst hP
     have gQ0 : ((Q : Int) == 0) = false := by rw [beq_eq_false_iff_ne]; omega
     have gQ1 : ((Q : Int) == 1) = false := by rw [beq_eq_false_iff_ne]; omega
     cases zB
     ·
      have X := Lib.hid h16n
      have HRR := Lib.hid (show R1 = 0 ∧ R2 = 4 by have := hR.out; rw [if_neg h16n, if_neg (by decide), if_neg (fun h => by have h1 := h.1; have h2 := h.2; omega), if_neg (fun h => by have h1 := h.1.1; have h2 := h.1.2; omega), if_neg (by decide), if_neg (fun h => by have h1 := h.1.1; have h2 := h.1.2; omega)] at this; exact ⟨congrArg Prod.fst this, congrArg Prod.snd this⟩)
      clear hR
      go_enter Tryz.func123, Tryz.ntmps123
      go_wp2_with fail
      refine (CP.out _).mono ?_; rintro e w1 ⟨rfl, rfl⟩
      go_wp2_with fail
      refine (CQ.out _).mono ?_; rintro e w1 ⟨rfl, rfl⟩
      go_wp2_with fail
      refine (CM.out _).mono ?_; rintro e w1 ⟨rfl, rfl⟩
      go_wp2_with fail
      go_ret2
      exact ⟨by rw [HRR.out.1, HRR.out.2]; rfl, rfl⟩
     ·
      have X := Lib.hid h16n
      have HRR := Lib.hid (show R1 = 2 ∧ R2 = 0 by have := hR.out; rw [if_neg h16n, if_neg (by decide), if_neg (fun h => by have h1 := h.1; have h2 := h.2; omega), if_neg (fun h => by have h1 := h.1.1; have h2 := h.1.2; omega), if_pos rfl] at this; exact ⟨congrArg Prod.fst this, congrArg Prod.snd this⟩)
      clear hR
      go_enter Tryz.func123, Tryz.ntmps123
      go_wp2_with fail
      refine (CP.out _).mono ?_; rintro e w1 ⟨rfl, rfl⟩
      go_wp2_with fail
      refine (CQ.out _).mono ?_; rintro e w1 ⟨rfl, rfl⟩
      go_wp2_with fail
      refine (CM.out _).mono ?_; rintro e w1 ⟨rfl, rfl⟩
      go_wp2_with fail
      go_ret2
      exact ⟨by rw [HRR.out.1, HRR.out.2]; rfl, rfl⟩
   ·
    rcases (show Q = 0 ∨ Q = 1 ∨ (Q ≠ 0 ∧ Q ≠ 1) by omega) with hQ | hQ | ⟨hQ, hQ1⟩
    ·
     have gP0 : ((P : Int) == 0) = false := by rw [beq_eq_false_iff_ne]; omega
     have gP1 : ((P : Int) == 1) = false := by rw [beq_eq_false_iff_ne]; omega
     subst hQ
     cases zB
     ·
      have X := Lib.hid h16n
      have HRR := Lib.hid (show R1 = 0 ∧ R2 = 4 by have := hR.out; rw [if_neg h16n, if_neg (by decide), if_neg (fun h => by have h1 := h.1; have h2 := h.2; omega), if_neg (fun h => by have h1 := h.1.1; have h2 := h.1.2; omega), if_neg (by decide), if_neg (fun h => by have h1 := h.1.1; have h2 := h.1.2; omega)] at this; exact ⟨congrArg Prod.fst this, congrArg Prod.snd this⟩)
      clear hR
      go_enter Tryz.func123, Tryz.ntmps123
      go_wp2_with fail
      refine (CP.out _).mono ?_; rintro e w1 ⟨rfl, rfl⟩
      go_wp2_with fail
      refine (CQ.out _).mono ?_; rintro e w1 ⟨rfl, rfl⟩
      go_wp2_with fail
      refine (CM.out _).mono ?_; rintro e w1 ⟨rfl, rfl⟩
      go_wp2_with fail
      go_ret2
      exact ⟨by rw [HRR.out.1, HRR.out.2]; rfl, rfl⟩
     ·
      have X := Lib.hid h16n
      have HRR := Lib.hid (show R1 = 2 ∧ R2 = 0 by have := hR.out; rw [if_neg h16n, if_neg (by decide), if_neg (fun h => by have h1 := h.1; have h2 := h.2; omega), if_neg (fun h => by have h1 := h.1.1; have h2 := h.1.2; omega), if_pos rfl] at this; exact ⟨congrArg Prod.fst this, congrArg Prod.snd this⟩)
      clear hR
      go_enter Tryz.func123, Tryz.ntmps123
      go_wp2_with fail
      refine (CP.out _).mono ?_; rintro e w1 ⟨rfl, rfl⟩
      go_wp2_with fail
      refine (CQ.out _).mono ?_; rintro e w1 ⟨rfl, rfl⟩
      go_wp2_with fail
      refine (CM.out _).mono ?_; rintro e w1 ⟨rfl, rfl⟩
      go_wp2_with fail
      go_ret2
      exact ⟨by rw [HRR.out.1, HRR.out.2]; rfl, rfl⟩
    ·
     have gP0 : ((P : Int) == 0) = false := by rw [beq_eq_false_iff_ne]; omega
     have gP1 : ((P : Int) == 1) = false := by rw [beq_eq_false_iff_ne]; omega
     subst hQ
     cases zB
     ·
      have X := Lib.hid h16n
      have HRR := Lib.hid (show R1 = 0 ∧ R2 = 4 by have := hR.out; rw [if_neg h16n, if_neg (by decide), if_neg (fun h => by have h1 := h.1; have h2 := h.2; omega), if_neg (fun h => by have h1 := h.1.1; have h2 := h.1.2; omega), if_neg (by decide), if_neg (fun h => by have h1 := h.1.1; have h2 := h.1.2; omega)] at this; exact ⟨congrArg Prod.fst this, congrArg Prod.snd this⟩)
      clear hR
      go_enter Tryz.func123, Tryz.ntmps123
      go_wp2_with fail
      refine (CP.out _).mono ?_; rintro e w1 ⟨rfl, rfl⟩
      go_wp2_with fail
      refine (CQ.out _).mono ?_; rintro e w1 ⟨rfl, rfl⟩
      go_wp2_with fail
      refine (CM.out _).mono ?_; rintro e w1 ⟨rfl, rfl⟩
      go_wp2_with fail
      go_ret2
      exact ⟨by rw [HRR.out.1, HRR.out.2]; rfl, rfl⟩
     ·
      have X := Lib.hid h16n
      have HRR := Lib.hid (show R1 = 2 ∧ R2 = 0 by have := hR.out; rw [if_neg h16n, if_neg (by decide), if_neg (fun h => by have h1 := h.1; have h2 := h.2; omega), if_neg (fun h => by have h1 := h.1.1; have h2 := h.1.2; omega), if_pos rfl] at this; exact ⟨congrArg Prod.fst this, congrArg Prod.snd this⟩)
      clear hR
      go_enter Tryz.func123, Tryz.ntmps123
      go_wp2_with fail
      refine (CP.out _).mono ?_; rintro e w1 ⟨rfl, rfl⟩
      go_wp2_with fail
      refine (CQ.out _).mono ?_; rintro e w1 ⟨rfl, rfl⟩
      go_wp2_with fail
      refine (CM.out _).mono ?_; rintro e w1 ⟨rfl, rfl⟩
      go_wp2_with fail
      go_ret2
      exact ⟨by rw [HRR.out.1, HRR.out.2]; rfl, rfl⟩
    ·
     have gP0 : ((P : Int) == 0) = false := by rw [beq_eq_false_iff_ne]; omega
     have gP1 : ((P : Int) == 1) = false := by rw [beq_eq_false_iff_ne]; omega
     have gQ0 : ((Q : Int) == 0) = false := by rw [beq_eq_false_iff_ne]; omega
     have gQ1 : ((Q : Int) == 1) = false := by rw [beq_eq_false_iff_ne]; omega
     cases zB
     ·
      have X := Lib.hid h16n
      have HRR := Lib.hid (show R1 = 0 ∧ R2 = 4 by have := hR.out; rw [if_neg h16n, if_neg (by decide), if_neg (fun h => by have h1 := h.1; have h2 := h.2; omega), if_neg (fun h => by have h1 := h.1.1; have h2 := h.1.2; omega), if_neg (by decide), if_neg (fun h => by have h1 := h.1.1; have h2 := h.1.2; omega)] at this; exact ⟨congrArg Prod.fst this, congrArg Prod.snd this⟩)
      clear hR
      go_enter Tryz.func123, Tryz.ntmps123
      go_wp2_with fail
      refine (CP.out _).mono ?_; rintro e w1 ⟨rfl, rfl⟩
      go_wp2_with fail
      refine (CQ.out _).mono ?_; rintro e w1 ⟨rfl, rfl⟩
      go_wp2_with fail
      refine (CM.out _).mono ?_; rintro e w1 ⟨rfl, rfl⟩
      go_wp2_with fail
      go_ret2
      exact ⟨by rw [HRR.out.1, HRR.out.2]; rfl, rfl⟩
     ·
      have X := Lib.hid h16n
      have HRR := Lib.hid (show R1 = 2 ∧ R2 = 0 by have := hR.out; rw [if_neg h16n, if_neg (by decide), if_neg (fun h => by have h1 := h.1; have h2 := h.2; omega), if_neg (fun h => by have h1 := h.1.1; have h2 := h.1.2; omega), if_pos rfl] at this; exact ⟨congrArg Prod.fst this, congrArg Prod.snd this⟩)
      clear hR
      go_enter Tryz.func123, Tryz.ntmps123
      go_wp2_with fail
      refine (CP.out _).mono ?_; rintro e w1 ⟨rfl, rfl⟩
      go_wp2_with fail
      refine (CQ.out _).mono ?_; rintro e w1 ⟨rfl, rfl⟩
      go_wp2_with fail
      refine (CM.out _).mono ?_; rintro e w1 ⟨rfl, rfl⟩
      go_wp2_with fail
      go_ret2
      exact ⟨by rw [HRR.out.1, HRR.out.2]; rfl, rfl⟩
theorem cnt_le (c : UInt8) (s : ByteArray) : s.data.toList.count c ≤ s.size := by rw [← ab_len s]; exact List.count_le_length
theorem kind_any (s : ByteArray) (w : World) (m : Int) (hs : s.size ≤ 100000) (hm : w.cell? ⟨3, 0, none⟩ = some (.int .i64 m)) :
  Calls Tryz.prog 123 #[.string s] w fun e w' => e = .returned (.tuple #[.int .i64 (Fo.kd s.data.toList).1, .int .i64 (Fo.kd s.data.toList).2]) ∧ w = w' := by
 have h1 := cnt_le 37 s; have h2 := cnt_le 47 s
 refine kind_core s (s.data.toList.count 37) (s.data.toList.count 47) (Fo.made [43, 45, 37, 47] s.data.toList) (Lib.contains s.data.toList [37, 115]) (s.data.toList == [37, 122]) (Lib.hasPrefix s.data.toList [47]) (Lib.hasSuffix s.data.toList [47]) (Fo.kd s.data.toList) w hs (by omega) (by omega) (by rw [ByteArray.toList_eq]) ?_ ?_ ?_ ?_ ?_ ?_ ?_
 ·
  exact fun W => (Any.strings_Count_one Tryz.lays138 s 37 W).mono fun e w' ⟨h, h2⟩ => ⟨h, h2.symm⟩
 ·
  exact fun W => (Any.strings_Count_one Tryz.lays138 s 47 W).mono fun e w' ⟨h, h2⟩ => ⟨h, h2.symm⟩
 ·
  exact fun W => made_any s ⟨#[43, 45, 37, 47]⟩ W hs
 ·
  rintro W rfl
  exact (Any.strings_Contains Tryz.lays144 s ⟨#[37, 115]⟩ m w (by omega) hm).mono fun e w' ⟨h, h2⟩ => ⟨h, h2.symm⟩
 ·
  exact fun W => (Any.strings_HasPrefix Tryz.lays99 s ⟨#[47]⟩ W).mono fun e w' ⟨h, h2⟩ => ⟨h, h2.symm⟩
 ·
  exact fun W => (Any.strings_HasSuffix Tryz.lays100 s ⟨#[47]⟩ W (by omega)).mono fun e w' ⟨h, h2⟩ => ⟨h, h2.symm⟩
 ·
  refine Lib.hid ?_
  unfold Fo.kd
  rw [ab_len]
theorem fcheck_any (s : ByteArray) (w : World) (m : Int) (hs : s.size ≤ 100000) (hm : w.cell? ⟨3, 0, none⟩ = some (.int .i64 m)) :
  Calls Tryz.prog 73 #[.string s] w fun e w' => e = .returned (.int .i64 (Fo.kd s.data.toList).2) ∧ w = w' := by
 have C := Lib.hid (kind_any s w m hs hm)
 generalize (Fo.kd s.data.toList).1 = a at C
 generalize (Fo.kd s.data.toList).2 = b at C ⊢
 clear hm
 go_enter Tryz.func73, Tryz.ntmps73
 go_wp2_with fail
 refine C.out.mono ?_; rintro e w1 ⟨rfl, rfl⟩
 go_wp2_with fail
 go_ret
 exact ⟨rfl, rfl⟩
end Go.Proofs.YtpggfhmnhbnefaaGreatDoor
set_option linter.unusedVariables false
set_option linter.unusedSimpArgs false
namespace Go.Proofs.YtpggfhmnhbnefaaGreatDoor
open Go.RowKit Go.Sort
namespace Er
def endR (h : Bool) (y m k wk d sec base : Int) : Bool :=
 if h = true then decide (-32767 < y) && (decide (y < 32767) && (Dr.onF k wk d m && Cl.rB sec base)) else decide (y = 0 ∧ m = 0 ∧ k = 0 ∧ wk = 0 ∧ d = 0 ∧ sec = 0 ∧ base = 0)
def rulR (kind save : Int) (rs : ByteArray) : Bool :=
 if kind = 0 then (save == 0 && rs.data.toList == []) else if kind = 1 then (decide (-10800 ≤ save) && (decide (save ≤ 10800) && rs.data.toList == [])) else if kind = 2 then (save == 0 && Lk.nm rs.data.toList == 0) else false
def ok (off kind save : Int) (rs fm : ByteArray) (h : Bool) (y m k wk d sec base : Int) : Bool :=
 decide (-54000 ≤ off) && (decide (off ≤ 54000) && (rulR kind save rs && ((Fo.kd fm.data.toList).2 == 0 && endR h y m k wk d sec base)))
end Er
set_option maxRecDepth 100000 in
theorem erin_any (n b : Int) (w : World) (b0 : 0 ≤ b) (b1 : b ≤ 1000000) : Calls Tryz.prog 71 #[.int .i64 n, .int .i64 b] w fun e w' => e = .returned (.bool (decide (-b ≤ n) && decide (n ≤ b))) ∧ w = w' := by
 obtain ⟨nb, hnb⟩ : ∃ nb, nb = -b := ⟨_, rfl⟩
 by_cases c1 : -b ≤ n
 ·
  by_cases c2 : n ≤ b
  ·
   rw [decide_eq_true c1, decide_eq_true c2]
   go_enter Tryz.func71, Tryz.ntmps71
   go_wp2
   go_ret
   exact ⟨rfl, rfl⟩
  ·
   have g : decide (n ≤ b) = false := decide_eq_false c2
   rw [decide_eq_true c1, g]
   go_enter Tryz.func71, Tryz.ntmps71
   go_wp2
   go_ret
   exact ⟨rfl, rfl⟩
 ·
  have g : decide (-b ≤ n) = false := decide_eq_false c1
  rw [g]
  go_enter Tryz.func71, Tryz.ntmps71
  go_wp2
  go_ret
  exact ⟨rfl, rfl⟩
theorem eryear_any (n : Int) (w : World) : Calls Tryz.prog 124 #[.int .i64 n] w fun e w' => e = .returned (.bool (decide (-32767 < n) && decide (n < 32767))) ∧ w = w' := by
 by_cases c1 : -32767 < n
 ·
  by_cases c2 : n < 32767
  ·
   rw [decide_eq_true c1, decide_eq_true c2]
   go_enter Tryz.func124, Tryz.ntmps124
   go_wp2
   go_ret
   exact ⟨rfl, rfl⟩
  ·
   have g : decide (n < 32767) = false := decide_eq_false c2
   rw [decide_eq_true c1, g]
   go_enter Tryz.func124, Tryz.ntmps124
   go_wp2
   go_ret
   exact ⟨rfl, rfl⟩
 ·
  have g : decide (-32767 < n) = false := decide_eq_false c1
  rw [g]
  go_enter Tryz.func124, Tryz.ntmps124
  go_wp2
  go_ret
  exact ⟨rfl, rfl⟩
theorem eryear_b (n : Int) (b : Bool) (h : (decide (-32767 < n) && decide (n < 32767)) = b) (w : World) : Calls Tryz.prog 124 #[.int .i64 n] w fun e w' => e = .returned (.bool b) ∧ w = w' := h ▸ eryear_any n w
set_option maxHeartbeats 4000000 in
set_option maxRecDepth 100000 in
theorem erend_any (h : Bool) (y m k wk d sec base : Int) (w : World) (y0 : -9223372036854775808 ≤ y) (y1 : y ≤ 9223372036854775807) : Calls Tryz.prog 74 #[.agg #[.bool h, .int .i64 y, .int .i64 m, .int .i64 k, .int .i64 wk, .int .i64 d, .int .i64 sec, .int .i64 base]] w fun e w' => e = .returned (.bool (Er.endR h y m k wk d sec base)) ∧ Below w.heap.size w w' := by
 cases h
 ·
  have e0 : Er.endR false y m k wk d sec base = decide (y = 0 ∧ m = 0 ∧ k = 0 ∧ wk = 0 ∧ d = 0 ∧ sec = 0 ∧ base = 0) := rfl
  rw [e0]; clear e0
  by_cases z0 : y = 0
  case neg =>
   have g : (y == 0) = false := by rw [beq_eq_false_iff_ne]; exact z0
   rw [show decide (y = 0 ∧ m = 0 ∧ k = 0 ∧ wk = 0 ∧ d = 0 ∧ sec = 0 ∧ base = 0) = false from decide_eq_false (by simp [z0])]
   go_enter Tryz.func74, Tryz.ntmps74
   go_wp2_with fail
   go_ret
   exact ⟨rfl, gr0⟩
  subst z0
  by_cases z1 : m = 0
  case neg =>
   have g : (m == 0) = false := by rw [beq_eq_false_iff_ne]; exact z1
   rw [show decide ((0 : Int) = 0 ∧ m = 0 ∧ k = 0 ∧ wk = 0 ∧ d = 0 ∧ sec = 0 ∧ base = 0) = false from decide_eq_false (by simp [z1])]
   go_enter Tryz.func74, Tryz.ntmps74
   go_wp2_with fail
   go_ret
   exact ⟨rfl, gr0⟩
  subst z1
  by_cases z2 : k = 0
  case neg =>
   have g : (k == 0) = false := by rw [beq_eq_false_iff_ne]; exact z2
   rw [show decide ((0 : Int) = 0 ∧ (0 : Int) = 0 ∧ k = 0 ∧ wk = 0 ∧ d = 0 ∧ sec = 0 ∧ base = 0) = false from decide_eq_false (by simp [z2])]
   go_enter Tryz.func74, Tryz.ntmps74
   go_wp2_with fail
   go_ret
   exact ⟨rfl, gr0⟩
  subst z2
  by_cases z3 : wk = 0
  case neg =>
   have g : (wk == 0) = false := by rw [beq_eq_false_iff_ne]; exact z3
   rw [show decide ((0 : Int) = 0 ∧ (0 : Int) = 0 ∧ (0 : Int) = 0 ∧ wk = 0 ∧ d = 0 ∧ sec = 0 ∧ base = 0) = false from decide_eq_false (by simp [z3])]
   go_enter Tryz.func74, Tryz.ntmps74
   go_wp2_with fail
   go_ret
   exact ⟨rfl, gr0⟩
  subst z3
  by_cases z4 : d = 0
  case neg =>
   have g : (d == 0) = false := by rw [beq_eq_false_iff_ne]; exact z4
   rw [show decide ((0 : Int) = 0 ∧ (0 : Int) = 0 ∧ (0 : Int) = 0 ∧ (0 : Int) = 0 ∧ d = 0 ∧ sec = 0 ∧ base = 0) = false from decide_eq_false (by simp [z4])]
   go_enter Tryz.func74, Tryz.ntmps74
   go_wp2_with fail
   go_ret
   exact ⟨rfl, gr0⟩
  subst z4
  by_cases z5 : sec = 0
  case neg =>
   have g : (sec == 0) = false := by rw [beq_eq_false_iff_ne]; exact z5
   rw [show decide ((0 : Int) = 0 ∧ (0 : Int) = 0 ∧ (0 : Int) = 0 ∧ (0 : Int) = 0 ∧ (0 : Int) = 0 ∧ sec = 0 ∧ base = 0) = false from decide_eq_false (by simp [z5])]
   go_enter Tryz.func74, Tryz.ntmps74
   go_wp2_with fail
   go_ret
   exact ⟨rfl, gr0⟩
  subst z5
  by_cases z6 : base = 0
  case neg =>
   have g : (base == 0) = false := by rw [beq_eq_false_iff_ne]; exact z6
   rw [show decide ((0 : Int) = 0 ∧ (0 : Int) = 0 ∧ (0 : Int) = 0 ∧ (0 : Int) = 0 ∧ (0 : Int) = 0 ∧ (0 : Int) = 0 ∧ base = 0) = false from decide_eq_false (by simp [z6])]
   go_enter Tryz.func74, Tryz.ntmps74
   go_wp2_with fail
   go_ret
   exact ⟨rfl, gr0⟩
  subst z6
  rw [show decide ((0 : Int) = 0 ∧ (0 : Int) = 0 ∧ (0 : Int) = 0 ∧ (0 : Int) = 0 ∧ (0 : Int) = 0 ∧ (0 : Int) = 0 ∧ (0 : Int) = 0) = true from decide_eq_true (by simp)]
  go_enter Tryz.func74, Tryz.ntmps74
  go_wp2_with fail
  go_ret
  exact ⟨rfl, gr0⟩
 ·
  have e0 : Er.endR true y m k wk d sec base = (decide (-32767 < y) && (decide (y < 32767) && (Dr.onF k wk d m && Cl.rB sec base))) := rfl
  rw [e0]; clear e0
  have OF := Lib.hid (fun W => ofits_any k wk d m W)
  have CR := Lib.hid (fun W => clright_any sec base W)
  generalize Dr.onF k wk d m = o at *
  generalize Cl.rB sec base = c at *
  by_cases h1 : -32767 < y
  case neg =>
   rw [decide_eq_false h1]
   have g1 : decide (-32767 < y) = false := decide_eq_false h1
   go_enter Tryz.func74, Tryz.ntmps74
   go_wp2_with fail
   refine ((eryear_b y false (by rw [g1]; rfl) _)).mono ?_; rintro e v1 ⟨rfl, rfl⟩
   go_wp2_with fail
   go_ret
   exact ⟨rfl, gr0⟩
  have g1 : decide (-32767 < y) = true := decide_eq_true h1
  by_cases h2 : y < 32767
  case neg =>
   rw [g1, decide_eq_false h2]
   have g2 : decide (y < 32767) = false := decide_eq_false h2
   go_enter Tryz.func74, Tryz.ntmps74
   go_wp2_with fail
   refine ((eryear_b y false (by rw [g1, g2]; rfl) _)).mono ?_; rintro e v1 ⟨rfl, rfl⟩
   go_wp2_with fail
   go_ret
   exact ⟨rfl, gr0⟩
  have g2 : decide (y < 32767) = true := decide_eq_true h2
  rw [g1, g2]
  cases o
  ·
   skip
   go_enter Tryz.func74, Tryz.ntmps74
   go_wp2_with fail
   refine ((eryear_b y true (by rw [g1, g2]; rfl) _)).mono ?_; rintro e v1 ⟨rfl, rfl⟩
   go_wp2_with fail
   refine (OF.out _).mono ?_; rintro e w1 ⟨rfl, b1⟩
   have d1 : Below w.heap.size w w1 := below_step gr0 b1
   have B1 := Lib.hid d1
   have X1 : Bk8 w1 (w.heap.size) (.bool true) (.int .i64 y) (.int .i64 m) (.int .i64 k) (.int .i64 wk) (.int .i64 d) (.int .i64 sec) (.int .i64 base) := by refine Bk8.of b1 (by simp <;> omega) (by intro j; simp [go_sem]) ?_ ?_ ?_ ?_ ?_ ?_ ?_ ?_ <;> simp [go_sem]
   clear b1 d1
   have tx := X1; obtain ⟨cX_b, cX_f, cX_0, cX_1, cX_2, cX_3, cX_4, cX_5, cX_6, cX_7⟩ := tx
   go_wp2_with fail
   clear cX_b cX_f cX_0 cX_1 cX_2 cX_3 cX_4 cX_5 cX_6 cX_7
   go_ret
   exact ⟨rfl, (grB B1)⟩
  ·
   cases c
   ·
    skip
    go_enter Tryz.func74, Tryz.ntmps74
    go_wp2_with fail
    refine ((eryear_b y true (by rw [g1, g2]; rfl) _)).mono ?_; rintro e v1 ⟨rfl, rfl⟩
    go_wp2_with fail
    refine (OF.out _).mono ?_; rintro e w1 ⟨rfl, b1⟩
    have d1 : Below w.heap.size w w1 := below_step gr0 b1
    have B1 := Lib.hid d1
    have X1 : Bk8 w1 (w.heap.size) (.bool true) (.int .i64 y) (.int .i64 m) (.int .i64 k) (.int .i64 wk) (.int .i64 d) (.int .i64 sec) (.int .i64 base) := by refine Bk8.of b1 (by simp <;> omega) (by intro j; simp [go_sem]) ?_ ?_ ?_ ?_ ?_ ?_ ?_ ?_ <;> simp [go_sem]
    clear b1 d1
    have tx := X1; obtain ⟨cX_b, cX_f, cX_0, cX_1, cX_2, cX_3, cX_4, cX_5, cX_6, cX_7⟩ := tx
    go_wp2_with fail
    clear cX_b cX_f cX_0 cX_1 cX_2 cX_3 cX_4 cX_5 cX_6 cX_7
    refine (CR.out _).mono ?_; rintro e w2 ⟨rfl, b2⟩
    have d2 : Below w1.heap.size w1 w2 := below_step gr0 b2
    have B2 := Lib.hid (below_step B1.out d2)
    have X2 := X1.keep d2
    clear X1 b2 d2 B1
    have tx := X2; obtain ⟨cX_b, cX_f, cX_0, cX_1, cX_2, cX_3, cX_4, cX_5, cX_6, cX_7⟩ := tx
    go_wp2_with fail
    clear cX_b cX_f cX_0 cX_1 cX_2 cX_3 cX_4 cX_5 cX_6 cX_7
    go_ret
    exact ⟨rfl, (grB B2)⟩
   ·
    skip
    go_enter Tryz.func74, Tryz.ntmps74
    go_wp2_with fail
    refine ((eryear_b y true (by rw [g1, g2]; rfl) _)).mono ?_; rintro e v1 ⟨rfl, rfl⟩
    go_wp2_with fail
    refine (OF.out _).mono ?_; rintro e w1 ⟨rfl, b1⟩
    have d1 : Below w.heap.size w w1 := below_step gr0 b1
    have B1 := Lib.hid d1
    have X1 : Bk8 w1 (w.heap.size) (.bool true) (.int .i64 y) (.int .i64 m) (.int .i64 k) (.int .i64 wk) (.int .i64 d) (.int .i64 sec) (.int .i64 base) := by refine Bk8.of b1 (by simp <;> omega) (by intro j; simp [go_sem]) ?_ ?_ ?_ ?_ ?_ ?_ ?_ ?_ <;> simp [go_sem]
    clear b1 d1
    have tx := X1; obtain ⟨cX_b, cX_f, cX_0, cX_1, cX_2, cX_3, cX_4, cX_5, cX_6, cX_7⟩ := tx
    go_wp2_with fail
    clear cX_b cX_f cX_0 cX_1 cX_2 cX_3 cX_4 cX_5 cX_6 cX_7
    refine (CR.out _).mono ?_; rintro e w2 ⟨rfl, b2⟩
    have d2 : Below w1.heap.size w1 w2 := below_step gr0 b2
    have B2 := Lib.hid (below_step B1.out d2)
    have X2 := X1.keep d2
    clear X1 b2 d2 B1
    have tx := X2; obtain ⟨cX_b, cX_f, cX_0, cX_1, cX_2, cX_3, cX_4, cX_5, cX_6, cX_7⟩ := tx
    go_wp2_with fail
    clear cX_b cX_f cX_0 cX_1 cX_2 cX_3 cX_4 cX_5 cX_6 cX_7
    go_ret
    exact ⟨rfl, (grB B2)⟩
end Go.Proofs.YtpggfhmnhbnefaaGreatDoor
