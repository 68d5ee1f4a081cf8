/- Joined: AnF, StV, RsD, RnA, RsA, Cal. -/
import Derived.Test.YtlelpeocbgjmhaaGreatDoorBy01
import Derived.Test.YtlelpeocbgjmhaaGreatDoorBy24
import Derived.Test.YtlelpeocbgjmhaaGreatDoorBy25
import Derived.Test.YtlelpeocbgjmhaaGreatDoorBy09
import Derived.Deep.QuietTactic
import Derived.Test.YtlelpeocbgjmhaaGreatDoorBy22
import Derived.Test.YtlelpeocbgjmhaaGreatDoorBy04
set_option linter.unusedVariables false
set_option linter.unusedSimpArgs false
namespace Go.Proofs.YtlelpeocbgjmhaaGreatDoor
open Go.RowKit Go.Sort
theorem An.rdL_no (l : List (List UInt8)) (h : (An.rdL l).2 ≠ 0) : (An.rdL l).1 = An.I0 := by
 match l, h with
 | [], _ => rfl
 | [_], _ => rfl
 | [_, _], _ => rfl
 | [_, _, _], _ => rfl
 | [_, _, _, _], _ => rfl
 | [a, b, c, d, x], h =>
  rw [An.rdL_five] at h ⊢
  by_cases hw : An.w4 a b c d = 0
  ·
   rw [if_neg (by simp [hw])] at h; exact absurd rfl h
  ·
   rw [if_pos hw]
 | _ :: _ :: _ :: _ :: _ :: _ :: _, _ => rfl
theorem An.rdi_no (s : List UInt8) (h : (An.rdi s).2 ≠ 0) : (An.rdi s).1 = An.I0 := by
 unfold An.rdi at h ⊢
 by_cases hy : (Fd.of s).2 = 0
 ·
  rw [if_neg (by simp [hy])] at h ⊢
  exact An.rdL_no _ h
 ·
  rw [if_pos hy]
set_option maxRecDepth 100000 in
theorem ar_callFn (qs : Array Value) (W : World) : Sem.run Tryz.prog (callFunc 28 qs) W = .ok (.enter 28 qs) W := rfl
set_option maxHeartbeats 4000000 in
set_option maxRecDepth 100000 in
theorem aread_any (s : ByteArray) (w : World) (hs : s.size ≤ 1000000) (tp : TypeId) (pp : Value) (hvar : w.var? Tryz.prog "strconv.ErrRange" = some #[.iface tp pp]) :
  Calls Tryz.prog 10 #[.string s] w fun e w' => e = .returned (.tuple #[.agg #[.int .i64 (An.rdi s.data.toList).1.1, .int .i64 (An.rdi s.data.toList).1.2.1, .int .i64 (An.rdi s.data.toList).1.2.2.1, .int .i64 (An.rdi s.data.toList).1.2.2.2.1, .string (An.rdi s.data.toList).1.2.2.2.2], .int .i64 (An.rdi s.data.toList).2]) ∧ Below w.heap.size w w' := by
 have C := Lib.hid (fun b W (hc : W.cell? ⟨b, 0, none⟩ = some (.string s)) hv => aread1_any b s W hc hs tp pp hv)
 have hR := An.rdi_no s.data.toList
 have HV := Lib.hid hvar
 clear hvar hs
 generalize An.rdi s.data.toList = R at C hR ⊢
 obtain ⟨⟨a, b, c, d, x⟩, y⟩ := R
 dsimp only at hR ⊢
 by_cases h0 : y = 0
 ·
  subst h0
  have TT := Lib.hid (fun q W (hc : W.cell? ⟨q, 0, none⟩ = some (.string s)) hv => gicaught_yes 28 #[.pointer (some ⟨q, 0, none⟩)] (ar_callFn _) a b c d x W (Lib.hid fun W' hB => (C.out q W' (fd_keep hc hB) (var_keep hB hv)).mono (by
   rintro e w' ⟨h1, ⟨-, h2⟩ | ⟨h2, -⟩⟩
   ·
    exact ⟨h2, h1⟩
   ·
    exact absurd rfl h2)))
  clear C hR
  go_enter Tryz.func10, Tryz.ntmps10
  go_wp2_with fail
  refine (TT.out _ _ (by simp [go_sem]) (var_keep gr0 HV.out)).mono ?_; rintro e w1 ⟨rfl, b1⟩
  have B1 : Hid (Below w.heap.size w w1) := Lib.hid (below_step gr0 b1)
  have Z1 : Bk5 w1 (w.heap.size + 1) (.int .i64 0) (.int .i64 0) (.int .i64 0) (.int .i64 0) (.string ⟨#[]⟩) := by refine Bk5.of b1 (by simp <;> omega) (by intro j; simp [go_sem]) ?_ ?_ ?_ ?_ ?_ <;> simp [go_sem]
  clear b1
  have Zh := Z1.hb; have Zf := Z1.fz; have Z10 := Z1.k0; have Z11 := Z1.k1; have Z12 := Z1.k2; have Z13 := Z1.k3; have Z14 := Z1.k4
  go_wp2_with fail
  refine bodyPost_ret (v := .tuple #[.agg #[.int .i64 a, .int .i64 b, .int .i64 c, .int .i64 d, .string x], .int .i64 0]) (by simp [results, Tryz.results10, go_sem, Zh, Zf, Z10, Z11, Z12, Z13, Z14]) rfl ⟨rfl, ?_⟩
  have hz := B1.out.size
  iterate 5 (refine Below.setCell ?_ (by first | omega | (simp; done) | (simp; omega)) _)
  exact B1.out
 ·
  obtain ⟨rfl, rfl, rfl, rfl, rfl⟩ : a = 0 ∧ b = 0 ∧ c = 0 ∧ d = 0 ∧ x = ⟨#[]⟩ := by
   have := hR h0
   unfold An.I0 at this
   simpa using this
  have TT := Lib.hid (fun q W (hc : W.cell? ⟨q, 0, none⟩ = some (.string s)) hv => gicaught_no 28 #[.pointer (some ⟨q, 0, none⟩)] (ar_callFn _) 0 y W (Lib.hid fun W' hB => (C.out q W' (fd_keep hc hB) (var_keep hB hv)).mono (by
   rintro e w' ⟨h1, ⟨h2, -⟩ | ⟨h2, h3⟩⟩
   ·
    exact absurd h2 h0
   ·
    exact ⟨h3, h1⟩)))
  clear C hR
  go_enter Tryz.func10, Tryz.ntmps10
  go_wp2_with fail
  refine (TT.out _ _ (by simp [go_sem]) (var_keep gr0 HV.out)).mono ?_; rintro e w1 ⟨rfl, b1⟩
  have B1 : Hid (Below w.heap.size w w1) := Lib.hid (below_step gr0 b1)
  have Z1 : Bk5 w1 (w.heap.size + 1) (.int .i64 0) (.int .i64 0) (.int .i64 0) (.int .i64 0) (.string ⟨#[]⟩) := by refine Bk5.of b1 (by simp <;> omega) (by intro j; simp [go_sem]) ?_ ?_ ?_ ?_ ?_ <;> simp [go_sem]
  clear b1
  have Zh := Z1.hb; have Zf := Z1.fz; have Z10 := Z1.k0; have Z11 := Z1.k1; have Z12 := Z1.k2; have Z13 := Z1.k3; have Z14 := Z1.k4
  go_wp2_with fail
  refine bodyPost_ret (v := .tuple #[.agg #[.int .i64 0, .int .i64 0, .int .i64 0, .int .i64 0, .string ⟨#[]⟩], .int .i64 y]) (by simp [results, Tryz.results10, go_sem, Zh, Zf, Z10, Z11, Z12, Z13, Z14]) rfl ⟨rfl, ?_⟩
  have hz := B1.out.size
  iterate 5 (refine Below.setCell ?_ (by first | omega | (simp; done) | (simp; omega)) _)
  exact B1.out
end Go.Proofs.YtlelpeocbgjmhaaGreatDoor
set_option linter.unusedVariables false
set_option linter.unusedSimpArgs false
namespace Go.Proofs.YtlelpeocbgjmhaaGreatDoor
open Go.RowKit
theorem bl_len (a : ByteArray) : a.data.toList.length = a.size := Array.length_toList
theorem bl_drop (a : ByteArray) (k : Nat) (h : k < a.size) : a.data.toList.drop k = a[k] :: a.data.toList.drop (k + 1) := by
 rw [List.drop_eq_getElem_cons (by rw [bl_len]; exact h)]
 rfl
namespace Num
end Num
end Go.Proofs.YtlelpeocbgjmhaaGreatDoor
set_option linter.unusedVariables false
set_option linter.unusedSimpArgs false
namespace Go.Proofs.YtlelpeocbgjmhaaGreatDoor.Cal
def lp (y : Int) : Int := if y % 4 = 0 ∧ (y % 100 ≠ 0 ∨ y % 400 = 0) then 1 else 0
def len (y m : Int) : Int := if m = 1 ∨ m = 3 ∨ m = 5 ∨ m = 7 ∨ m = 8 ∨ m = 10 ∨ m = 12 then 31 else if m = 4 ∨ m = 6 ∨ m = 9 ∨ m = 11 then 30 else if m = 2 then 28 + lp y else 0
def ahead (y : Int) : Int := 365 * (y - 1970) + ((y-1)/4 - (y-1)/100 + (y-1)/400) - 477
def cum (y m : Int) : Int := if m ≤ 1 then 0 else if m = 2 then 31 else (if m = 3 then 59 else if m = 4 then 90 else if m = 5 then 120 else if m = 6 then 151 else if m = 7 then 181 else if m = 8 then 212 else if m = 9 then 243 else if m = 10 then 273 else if m = 11 then 304 else if m = 12 then 334 else 365) + lp y
def num (y m d : Int) : Int := ahead y + cum y m + d - 1
structure Right (y m d : Int) : Prop where
 y0 : -40000 ≤ y
 y1 : y ≤ 40000
 d0 : 1 ≤ d
 d1 : d ≤ len y m
theorem lp_01 (y : Int) : 0 ≤ lp y ∧ lp y ≤ 1 := by unfold lp; split <;> omega
theorem month_of {y m d : Int} (h : Right y m d) : 1 ≤ m ∧ m ≤ 12 := by
 obtain ⟨_, _, h0, h1⟩ := h
 unfold len at h1; have := lp_01 y; omega
theorem len_bd (y m : Int) : 0 ≤ len y m ∧ len y m ≤ 31 := by
 unfold len; have := lp_01 y; omega
/-! ### as the code reckons -/
def yst (r : Int) : Int := r * 365 + r / 4 - r / 100
def mst (k : Int) : Int := (k * 153 + 2) / 5
def yof (n : Int) : Int := (n - n / 1460 + n / 36524 - n / 146096) / 365
theorem yof_mono (a b : Int) (h0 : 0 ≤ a) (h : a ≤ b) (h1 : b < 146097) : yof a ≤ yof b := by
 have : a - a / 1460 + a / 36524 - a / 146096 ≤ b - b / 1460 + b / 36524 - b / 146096 := by
  by_cases hb : b = 146096
  ·
   subst hb; omega
  ·
   have : a / 146096 = 0 := by omega
   have : b / 146096 = 0 := by omega
   have : a - a / 1460 ≤ b - b/1460 := by omega
   have : a / 36524 ≤ b / 36524 := by omega
   omega
 unfold yof; omega
theorem yof_tab : ∀ y : Fin 400, yof (yst (y.val : Int)) = y.val ∧ (y.val < 399 → yof (yst ((y.val : Int) + 1) - 1) = y.val) := by decide +kernel
theorem yof_lo (y : Int) (h0 : 0 ≤ y) (h1 : y < 400) : yof (yst y) = y := by
 have := (yof_tab ⟨y.toNat, by omega⟩).1
 simp at this; rwa [show max y 0 = y by omega] at this
theorem yof_hi (y : Int) (h0 : 0 ≤ y) (h1 : y < 399) : yof (yst (y + 1) - 1) = y := by
 have := (yof_tab ⟨y.toNat, by omega⟩).2 (by simp; omega)
 simp at this; rwa [show max y 0 = y by omega] at this
theorem yst_bd (y : Int) (h0 : 0 ≤ y) (h1 : y < 400) : 0 ≤ yst y ∧ yst y ≤ 145731 := by unfold yst; omega
theorem yof_ok (n : Int) (h0 : 0 ≤ n) (h1 : n < 146097) : 0 ≤ yof n ∧ yof n < 400 ∧ yst (yof n) ≤ n ∧ (yof n < 399 → n < yst (yof n + 1)) := by
 have hb : 0 ≤ yof n ∧ yof n < 400 := by
  have l := yof_mono 0 n (by omega) h0 h1
  have r := yof_mono n 146096 h0 (by omega) (by omega)
  have e0 : yof 0 = 0 := by decide
  have e1 : yof 146096 = 399 := by decide
  omega
 obtain ⟨b0, b1⟩ := hb
 have s := yst_bd (yof n) b0 b1
 refine ⟨b0, b1, ?_, ?_⟩
 ·
  by_cases h : yst (yof n) ≤ n
  ·
   exact h
  ·
   exfalso
   by_cases hz : yof n = 0
   ·
    rw [hz] at h; exact h h0
   ·
    have e := yof_hi (yof n - 1) (by omega) (by omega)
    rw [show yof n - 1 + 1 = yof n by omega] at e
    have := yof_mono n (yst (yof n) - 1) h0 (by omega) (by omega)
    omega
 ·
  intro hy
  by_cases h : n < yst (yof n + 1)
  ·
   exact h
  ·
   exfalso
   have s := yst_bd (yof n + 1) (by omega) (by omega)
   have e := yof_lo (yof n + 1) (by omega) (by omega)
   have := yof_mono (yst (yof n + 1)) n (by omega) (by omega) (by omega)
   omega
def dcyc (n : Int) : Int := (n + 719468) / 146097
def dday (n : Int) : Int := (n + 719468) % 146097
def dk (n : Int) : Int := dday n - yst (yof (dday n))
def dmon (n : Int) : Int := (dk n * 5 + 2) / 153
def dY (n : Int) : Int := yof (dday n) + dcyc n * 400 + if 10 ≤ dmon n then 1 else 0
def dM (n : Int) : Int := (dmon n - if 10 ≤ dmon n then 12 else 0) + 3
def dD (n : Int) : Int := dk n - mst (dmon n) + 1
theorem dk_bd (n : Int) : 0 ≤ dk n ∧ dk n ≤ 365 := by
 have o := yof_ok (dday n) (by unfold dday; omega) (by unfold dday; omega)
 have : dday n < 146097 := by unfold dday; omega
 obtain ⟨a, b, c, d⟩ := o
 refine ⟨by unfold dk; omega, ?_⟩
 unfold dk
 by_cases h : yof (dday n) < 399
 ·
  have := d h; unfold yst at this ⊢; omega
 ·
  have : yof (dday n) = 399 := by omega
  rw [this]; have : yst 399 = 145731 := by decide
  omega
end Go.Proofs.YtlelpeocbgjmhaaGreatDoor.Cal
