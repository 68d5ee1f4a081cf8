/- Round and Whole, of real and of the reference, at any mode. -/
import Derived.Test.YtndophkojnfcaaaRlB
set_option linter.unusedVariables false
set_option linter.unusedSimpArgs false
namespace Go.Proofs.Ytndophkojnfcaaa
open Go.RowKit Go.Sort

namespace Fl
/-- What Round answers, up to the word of what is no number, and what is wrong. -/
def rdm (m : Int) (x : Nat) : Nat := if 1 ≤ m ∧ m ≤ 4 then crd (wayOf m) x else 0
def rde (m : Int) : Int := if 1 ≤ m ∧ m ≤ 4 then 0 else 4
def wvm (m : Int) (x : Nat) : Int := if 1 ≤ m ∧ m ≤ 4 then wv (wayOf m) x else 0
def wwm (m : Int) (x : Nat) : Int := if 1 ≤ m ∧ m ≤ 4 then ww (wayOf m) x else 4
end Fl
def RnP (m : Int) (x : Nat) (w : World) (e : Ending) (w' : World) : Prop := ∃ y, Fl.Eqv y (Fl.rdm m x) ∧ e = .returned (.tuple #[.float .f64 y, .int .i64 (Fl.rde m)]) ∧ ∃ n, w' = w.drewN n
def WnP (m : Int) (x : Nat) (w : World) (e : Ending) (w' : World) : Prop := e = .returned (.tuple #[.int .i64 (Fl.wvm m x), .int .i64 (Fl.wwm m x)]) ∧ ∃ n, w' = w.drewN n
theorem round_all (x : Nat) (m : Int) (hx : x < 18446744073709551616) (w : World) : Calls Try.prog 10 #[.float .f64 x, .int .i64 m] w (RnP m x w) := by
  by_cases h : 1 ≤ m ∧ m ≤ 4
  · refine (round_ok x m hx h.1 h.2 w).mono ?_
    rintro e w' ⟨y, n, hy, rfl, rfl⟩
    refine ⟨y, ?_, ?_, n, rfl⟩
    · unfold Fl.rdm; rw [if_pos h]; exact hy.crd
    · unfold Fl.rde; rw [if_pos h]
  · refine (round_no x m (by omega) w).mono ?_
    rintro e w' ⟨rfl, rfl⟩
    refine ⟨0, ?_, ?_, 0, rfl⟩
    · unfold Fl.rdm; rw [if_neg h]; exact Fl.Eqv.refl (by decide)
    · unfold Fl.rde; rw [if_neg h]
theorem roundr_all (x : Nat) (m : Int) (hx : x < 18446744073709551616) (w : World) : Calls Try.prog 11 #[.float .f64 x, .int .i64 m] w (RnP m x w) := by
  by_cases h : 1 ≤ m ∧ m ≤ 4
  · refine (roundr_ok x m hx h.1 h.2 w).mono ?_
    rintro e w' ⟨y, hy, rfl, rfl⟩
    refine ⟨y, ?_, ?_, 0, rfl⟩
    · unfold Fl.rdm; rw [if_pos h]; exact hy.crd
    · unfold Fl.rde; rw [if_pos h]
  · refine (roundr_no x m (by omega) w).mono ?_
    rintro e w' ⟨rfl, rfl⟩
    refine ⟨0, ?_, ?_, 0, rfl⟩
    · unfold Fl.rdm; rw [if_neg h]; exact Fl.Eqv.refl (by decide)
    · unfold Fl.rde; rw [if_neg h]
theorem whole_all (x : Nat) (m : Int) (hx : x < 18446744073709551616) (w : World) : Calls Try.prog 12 #[.float .f64 x, .int .i64 m] w (WnP m x w) := by
  by_cases h : 1 ≤ m ∧ m ≤ 4
  · refine (whole_any x m hx h.1 h.2 w).mono ?_
    rintro e w' ⟨rfl, n, rfl⟩
    refine ⟨?_, n, rfl⟩
    unfold Fl.wvm Fl.wwm; rw [if_pos h, if_pos h]
  · refine (whole_no x m (by omega) w).mono ?_
    rintro e w' ⟨rfl, rfl⟩
    refine ⟨?_, 0, rfl⟩
    unfold Fl.wvm Fl.wwm; rw [if_neg h, if_neg h]
theorem wholer_all (x : Nat) (m : Int) (hx : x < 18446744073709551616) (w : World) : Calls Try.prog 13 #[.float .f64 x, .int .i64 m] w (WnP m x w) := by
  by_cases h : 1 ≤ m ∧ m ≤ 4
  · refine (wholer_any x m hx h.1 h.2 w).mono ?_
    rintro e w' ⟨rfl, rfl⟩
    refine ⟨?_, 0, rfl⟩
    unfold Fl.wvm Fl.wwm; rw [if_pos h, if_pos h]
  · refine (wholer_no x m (by omega) w).mono ?_
    rintro e w' ⟨rfl, rfl⟩
    refine ⟨?_, 0, rfl⟩
    unfold Fl.wvm Fl.wwm; rw [if_neg h, if_neg h]
end Go.Proofs.Ytndophkojnfcaaa
