/- Stamps' texts, in plain lists of bytes. -/
import Derived.Test.YtfcabofhlgmkjaaDoorNumN
set_option linter.unusedVariables false
set_option linter.unusedSimpArgs false
namespace Go.Proofs.YtfcabofhlgmkjaaDoor.Tx
open Go Go.Lib

/-- A number's digits, so many at least. -/
def dg (k : Nat) (n : Int) : List UInt8 := List.replicate (k - (itoa n).length) 48 ++ itoa n
def beh (m d h i s : Int) : List UInt8 := 45 :: (dg 2 m ++ (45 :: (dg 2 d ++ (84 :: (dg 2 h ++ (58 :: (dg 2 i ++ (58 :: dg 2 s))))))))
def yr (y : Int) : List UInt8 := if y < 0 then 45 :: dg 4 (-y) else dg 4 y
def txt (y m d h i s : Int) : List UInt8 := yr y ++ beh m d h i s
theorem two_tab : ∀ n : Fin 100, (dg 2 (n.val : Int)).length = 2 := by decide +kernel
theorem dg_two {n : Int} (h0 : 0 ≤ n) (h1 : n < 100) : (dg 2 n).length = 2 := by
  have := two_tab ⟨n.toNat, by omega⟩
  rwa [show ((n.toNat : Nat) : Int) = n by omega] at this
theorem beh_len {m d h i s : Int} (m0 : 0 ≤ m) (m1 : m < 100) (d0 : 0 ≤ d) (d1 : d < 100) (h0 : 0 ≤ h) (h1 : h < 100) (i0 : 0 ≤ i) (i1 : i < 100) (s0 : 0 ≤ s) (s1 : s < 100) : (beh m d h i s).length = 15 := by
  unfold beh
  simp [dg_two m0 m1, dg_two d0 d1, dg_two h0 h1, dg_two i0 i1, dg_two s0 s1]
theorem dg_len (k : Nat) (n : Int) (h0 : -9223372036854775808 ≤ n) (h1 : n ≤ 9223372036854775807) : (dg k n).length ≤ k + 21 := by
  have := itoa_length_le n h0 h1
  unfold dg; simp; omega
theorem dg_ne (k : Nat) (n : Int) : dg k n ≠ [] := by
  unfold dg
  intro h
  exact Num.itoa_ne n (List.append_eq_nil_iff.1 h).2
theorem yr_ne (y : Int) : yr y ≠ [] := by unfold yr; split <;> simp [dg_ne]
theorem yr_len (y : Int) (h0 : -9223372036854775807 ≤ y) (h1 : y ≤ 9223372036854775807) : 1 ≤ (yr y).length ∧ (yr y).length ≤ 30 := by
  refine ⟨List.length_pos_iff.2 (yr_ne y), ?_⟩
  unfold yr
  split
  · have := dg_len 4 (-y) (by omega) (by omega); simp; omega
  · have := dg_len 4 y (by omega) (by omega); omega
theorem txt_drop (y m d h i s : Int) (hl : (beh m d h i s).length = 15) : (txt y m d h i s).drop ((txt y m d h i s).length - 15) = beh m d h i s := by
  unfold txt
  rw [List.length_append, hl, Nat.add_sub_cancel, List.drop_left]
theorem trim_app (a p : List UInt8) : trimSuffix (a ++ p) p = a := by
  have h : hasSuffix (a ++ p) p = true := by unfold hasSuffix; simp
  unfold trimSuffix
  rw [if_pos h]; simp
theorem new_year : beh 1 1 0 0 0 = [45, 48, 49, 45, 48, 49, 84, 48, 48, 58, 48, 48, 58, 48, 48] := by decide +kernel
theorem trim_year (y : Int) : trimSuffix (txt y 1 1 0 0 0) [45, 48, 49, 45, 48, 49, 84, 48, 48, 58, 48, 48, 58, 48, 48] = yr y := by
  unfold txt; rw [new_year]; exact trim_app _ _
end Go.Proofs.YtfcabofhlgmkjaaDoor.Tx
