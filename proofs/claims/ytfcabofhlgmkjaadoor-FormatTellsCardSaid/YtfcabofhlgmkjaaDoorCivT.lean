/- civil's answers as functions of what is handed in. -/
import Derived.Test.YtfcabofhlgmkjaaDoorCivC
import Derived.Test.YtfcabofhlgmkjaaDoorBk
set_option linter.unusedVariables false
set_option linter.unusedSimpArgs false
namespace Go.Proofs.YtfcabofhlgmkjaaDoor
open Go.RowKit

namespace Cal
def why (b : Bool) : Int := if b then 0 else 1
def orz (b : Bool) (n : Int) : Int := if b then n else 0
/-- Has a number a date? -/
def hasD (n : Int) : Bool := decide (-15329228 ≤ n ∧ n ≤ 13890537)
theorem hasD_true {n : Int} : hasD n = true ↔ -15329228 ≤ n ∧ n ≤ 13890537 := by unfold hasD; simp
end Cal
theorem days_any (y m d : Int) (w : World) :
    Calls Tryd.prog 60 #[.agg #[.int .i64 y, .int .i64 m, .int .i64 d]] w fun e w' => e = .returned (.tuple #[.int .i64 (Cal.orz (rightB y m d) (Cal.num y m d)), .int .i64 (Cal.why (rightB y m d))]) ∧ Below w.heap.size w w' := by
  cases h : rightB y m d
  · exact days_no y m d w h
  · exact days_yes y m d w h
theorem date_any (n : Int) (w : World) :
    Calls Tryd.prog 62 #[.int .i64 n] w fun e w' => e = .returned (.tuple #[.agg #[.int .i64 (Cal.orz (Cal.hasD n) (Cal.dY n)), .int .i64 (Cal.orz (Cal.hasD n) (Cal.dM n)), .int .i64 (Cal.orz (Cal.hasD n) (Cal.dD n))], .int .i64 (Cal.why (Cal.hasD n))]) ∧ Below w.heap.size w w' := by
  cases h : Cal.hasD n
  · refine date_no n w ?_
    have : ¬ (-15329228 ≤ n ∧ n ≤ 13890537) := fun hh => by rw [Cal.hasD_true.2 hh] at h; exact absurd h (by decide)
    omega
  · have := Cal.hasD_true.1 h
    exact date_yes n w this.1 this.2
theorem weekday_b (n : Int) (w : World) (ha : -9223372036854775808 ≤ n) (ha' : n ≤ 9223372036854775807) :
    Calls Tryd.prog 114 #[.int .i64 n] w fun e w' => e = .returned (.int .i64 ((n + 4) % 7)) ∧ Below w.heap.size w w' :=
  (weekday_any n w ha ha').mono fun _ _ ⟨h, k, e⟩ => ⟨h, by rw [e]; exact below_draw _ _⟩
end Go.Proofs.YtfcabofhlgmkjaaDoor
