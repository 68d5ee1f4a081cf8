/- Names of days, in plain arithmetic: which may be, which fit a month, what day each names, and between which days it may lie. -/
import Derived.Test.YtjnhaabbnbcaeaaCal
set_option linter.unusedVariables false
set_option linter.unusedSimpArgs false
namespace Go.Proofs.Ytjnhaabbnbcaeaa.Dr
open Go.Proofs.Ytjnhaabbnbcaeaa

def dayB (d : Int) : Bool := decide (1 ≤ d ∧ d ≤ 31)
def wkB (k : Int) : Bool := decide (0 ≤ k ∧ k ≤ 6)
def onR (k w d : Int) : Bool := decide ((k = 0 ∧ w = 0 ∧ 1 ≤ d ∧ d ≤ 31) ∨ (k = 1 ∧ 0 ≤ w ∧ w ≤ 6 ∧ d = 0) ∨ ((k = 2 ∨ k = 3) ∧ 0 ≤ w ∧ w ≤ 6 ∧ 1 ≤ d ∧ d ≤ 31))
theorem onR_true {k w d : Int} : onR k w d = true ↔ ((k = 0 ∧ w = 0 ∧ 1 ≤ d ∧ d ≤ 31) ∨ (k = 1 ∧ 0 ≤ w ∧ w ≤ 6 ∧ d = 0) ∨ ((k = 2 ∨ k = 3) ∧ 0 ≤ w ∧ w ≤ 6 ∧ 1 ≤ d ∧ d ≤ 31)) := by unfold onR; simp
def onF (k w d m : Int) : Bool := onR k w d && decide (1 ≤ m ∧ m ≤ 12 ∧ d ≤ Cal.len 2001 m)
theorem onF_true {k w d m : Int} : onF k w d m = true ↔ onR k w d = true ∧ 1 ≤ m ∧ m ≤ 12 ∧ d ≤ Cal.len 2001 m := by unfold onF; simp
theorem len_2001 (y m : Int) (h1 : 1 ≤ m) (h2 : m ≤ 12) : Cal.len 2001 m ≤ Cal.len y m ∧ Cal.len y m ≤ Cal.len 2000 m ∧ 28 ≤ Cal.len 2001 m ∧ Cal.len 2000 m ≤ 31 ∧ Cal.len 2000 m ≤ Cal.len 2001 m + 1 := by
  have := Cal.lp_01 y
  have a : Cal.lp 2001 = 0 := by decide
  have b : Cal.lp 2000 = 1 := by decide
  rcases Cal.twelve h1 h2 with rfl | rfl | rfl | rfl | rfl | rfl | rfl | rfl | rfl | rfl | rfl | rfl <;> simp [Cal.len, a, b] <;> omega
/-- From where on, or up to where, a weekday is sought. -/
def base (k d y m : Int) : Int := if k = 1 then Cal.len y m else d
def onN (k w d y m : Int) : Int :=
  let n := Cal.num y m (base k d y m)
  if k = 0 then n else if k = 2 then n + (w - (n + 4)) % 7 else n - (n + 4 - w) % 7
theorem base_right {k w d y m : Int} (h : onF k w d m = true) (h0 : -39999 ≤ y) (h1 : y ≤ 39999) : Cal.Right y m (base k d y m) := by
  obtain ⟨a, b, c, e⟩ := onF_true.1 h
  have a := onR_true.1 a
  have l := len_2001 y m b c
  unfold base
  by_cases hk : k = 1
  · rw [if_pos hk]; exact ⟨by omega, by omega, by omega, by omega⟩
  · rw [if_neg hk]; exact ⟨by omega, by omega, by omega, by omega⟩
def low (k d m : Int) : Int := if k = 1 then Cal.len 2001 m - 6 else if k = 3 then d - 6 else d
def high (k d m : Int) : Int := if k = 1 then Cal.len 2000 m else if k = 2 then d + 6 else d
end Go.Proofs.Ytjnhaabbnbcaeaa.Dr
