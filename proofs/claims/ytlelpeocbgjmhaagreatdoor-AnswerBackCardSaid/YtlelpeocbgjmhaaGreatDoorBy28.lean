/- Joined: CivC, CivY, RefA, One, RefB, CivT, StR0, RsB, RsC. -/
import Derived.Test.YtlelpeocbgjmhaaGreatDoorBy27
import Derived.Test.YtlelpeocbgjmhaaGreatDoorBy01
import Derived.Test.YtlelpeocbgjmhaaGreatDoorBy06
import Derived.Test.YtlelpeocbgjmhaaGreatDoorBy04
import Derived.Test.YtlelpeocbgjmhaaGreatDoorBy26
import Derived.Lib.QuietBelow
set_option linter.unusedVariables false
set_option linter.unusedSimpArgs false
namespace Go.Proofs.YtlelpeocbgjmhaaGreatDoor
open Go.RowKit
set_option maxHeartbeats 400000 in
theorem date_no (n : Int) (w : World) (h : n < -15329228 ∨ 13890537 < n) :
  Calls Tryz.prog 62 #[.int .i64 n] w fun e w' => e = .returned (.tuple #[.agg #[.int .i64 0, .int .i64 0, .int .i64 0], .int .i64 1]) ∧ Below w.heap.size w w' := by
 rcases h with h | h
 ·
  go_enter Tryz.func62, Tryz.ntmps62
  go_wp2
  exact bodyPost_ret (v := .tuple #[.agg #[.int .i64 0, .int .i64 0, .int .i64 0], .int .i64 1]) (by simp [results, Tryz.results62, go_sem]) rfl ⟨rfl, (Below.refl _ _).alloc (Nat.le_refl _) _⟩
 ·
  have h' : ¬ n < -15329228 := by omega
  go_enter Tryz.func62, Tryz.ntmps62
  go_wp2
  exact bodyPost_ret (v := .tuple #[.agg #[.int .i64 0, .int .i64 0, .int .i64 0], .int .i64 1]) (by simp [results, Tryz.results62, go_sem]) rfl ⟨rfl, (Below.refl _ _).alloc (Nat.le_refl _) _⟩
set_option maxHeartbeats 600000 in
theorem date_yes (n : Int) (w : World) (h0 : -15329228 ≤ n) (h1 : n ≤ 13890537) :
  Calls Tryz.prog 62 #[.int .i64 n] w fun e w' => e = .returned (.tuple #[.agg #[.int .i64 (Cal.dY n), .int .i64 (Cal.dM n), .int .i64 (Cal.dD n)], .int .i64 0]) ∧ Below w.heap.size w w' := by
 have D0 : 0 ≤ (n + 719468) % 146097 := by omega
 have D1 : (n + 719468) % 146097 < 146097 := by omega
 have C0 : -110 ≤ (n + 719468) / 146097 := by omega
 have C1 : (n + 719468) / 146097 ≤ 110 := by omega
 obtain ⟨Y0, Y1, _, _⟩ := Cal.yof_ok _ D0 D1
 have S := Cal.yst_bd (Cal.yof ((n + 719468) % 146097)) Y0 (by omega)
 obtain ⟨S0, S1⟩ := S
 obtain ⟨k0, k1⟩ := Cal.dk_bd n
 unfold Cal.dk Cal.dday at k0 k1
 have m0 : 0 ≤ (((n + 719468) % 146097 - Cal.yst (Cal.yof ((n + 719468) % 146097))) * 5 + 2) / 153 := by omega
 have m1 : (((n + 719468) % 146097 - Cal.yst (Cal.yof ((n + 719468) % 146097))) * 5 + 2) / 153 ≤ 11 := by omega
 obtain ⟨t0, t1⟩ := mst_bd _ m0 (by omega)
 by_cases hm : 10 ≤ (((n + 719468) % 146097 - Cal.yst (Cal.yof ((n + 719468) % 146097))) * 5 + 2) / 153
 ·
  have e : (Cal.dY n = Cal.yof ((n + 719468) % 146097) + (n + 719468) / 146097 * 400 + 1 ∧ Cal.dM n = (((n + 719468) % 146097 - Cal.yst (Cal.yof ((n + 719468) % 146097))) * 5 + 2) / 153 - 12 + 3) ∧ Cal.dD n = ((n + 719468) % 146097 - Cal.yst (Cal.yof ((n + 719468) % 146097))) - Cal.mst ((((n + 719468) % 146097 - Cal.yst (Cal.yof ((n + 719468) % 146097))) * 5 + 2) / 153) + 1 := by
   refine ⟨⟨?_, ?_⟩, rfl⟩
   ·
    unfold Cal.dY; rw [show Cal.dmon n = (((n + 719468) % 146097 - Cal.yst (Cal.yof ((n + 719468) % 146097))) * 5 + 2) / 153 from rfl]; first | (rw [if_pos hm]; rfl) | (rw [if_neg hm, Int.add_zero]; rfl)
   ·
    unfold Cal.dM; rw [show Cal.dmon n = (((n + 719468) % 146097 - Cal.yst (Cal.yof ((n + 719468) % 146097))) * 5 + 2) / 153 from rfl]; first | rw [if_pos hm] | (rw [if_neg hm, Int.sub_zero])
  have E := Lib.hid e; clear e
  go_enter Tryz.func62, Tryz.ntmps62
  go_wp2_with (first
   | (go_at_call 85; refine (div_pos _ _ _ (by omega) (by omega) (by omega) (by omega)).mono ?_; rintro e w' ⟨rfl, j, rfl⟩)
   | (go_at_call 86; refine (yearOf_any _ _ (by omega) (by omega)).mono ?_; rintro e w' ⟨rfl, rfl⟩)
   | (go_at_call 87; refine (yearStart_any _ _ (by omega) (by omega)).mono ?_; rintro e w' ⟨rfl, rfl⟩)
   | (go_at_call 88; refine (monthStart_any _ _ (by omega) (by omega)).mono ?_; rintro e w' ⟨rfl, rfl⟩))
  refine bodyPost_ret (v := .tuple #[.agg #[.int .i64 (Cal.yof ((n + 719468) % 146097) + (n + 719468) / 146097 * 400 + 1), .int .i64 ((((n + 719468) % 146097 - Cal.yst (Cal.yof ((n + 719468) % 146097))) * 5 + 2) / 153 - 12 + 3), .int .i64 (((n + 719468) % 146097 - Cal.yst (Cal.yof ((n + 719468) % 146097))) - Cal.mst ((((n + 719468) % 146097 - Cal.yst (Cal.yof ((n + 719468) % 146097))) * 5 + 2) / 153) + 1)], .int .i64 0]) (by simp [results, Tryz.results62, go_sem]) rfl ⟨?_, ?_⟩
  ·
   obtain ⟨⟨e1, e2⟩, e3⟩ := E.out
   rw [e1, e2, e3]
  ·
   repeat (first | exact Below.refl _ _ | refine below_drewN ?_ _ | refine Below.setCell ?_ (by simp) _ | refine Below.alloc ?_ (by simp) _)
 ·
  have e : (Cal.dY n = Cal.yof ((n + 719468) % 146097) + (n + 719468) / 146097 * 400 ∧ Cal.dM n = (((n + 719468) % 146097 - Cal.yst (Cal.yof ((n + 719468) % 146097))) * 5 + 2) / 153 + 3) ∧ Cal.dD n = ((n + 719468) % 146097 - Cal.yst (Cal.yof ((n + 719468) % 146097))) - Cal.mst ((((n + 719468) % 146097 - Cal.yst (Cal.yof ((n + 719468) % 146097))) * 5 + 2) / 153) + 1 := by
   refine ⟨⟨?_, ?_⟩, rfl⟩
   ·
    unfold Cal.dY; rw [show Cal.dmon n = (((n + 719468) % 146097 - Cal.yst (Cal.yof ((n + 719468) % 146097))) * 5 + 2) / 153 from rfl]; first | (rw [if_pos hm]; rfl) | (rw [if_neg hm, Int.add_zero]; rfl)
   ·
    unfold Cal.dM; rw [show Cal.dmon n = (((n + 719468) % 146097 - Cal.yst (Cal.yof ((n + 719468) % 146097))) * 5 + 2) / 153 from rfl]; first | rw [if_pos hm] | (rw [if_neg hm, Int.sub_zero])
  have E := Lib.hid e; clear e
  go_enter Tryz.func62, Tryz.ntmps62
  go_wp2_with (first
   | (go_at_call 85; refine (div_pos _ _ _ (by omega) (by omega) (by omega) (by omega)).mono ?_; rintro e w' ⟨rfl, j, rfl⟩)
   | (go_at_call 86; refine (yearOf_any _ _ (by omega) (by omega)).mono ?_; rintro e w' ⟨rfl, rfl⟩)
   | (go_at_call 87; refine (yearStart_any _ _ (by omega) (by omega)).mono ?_; rintro e w' ⟨rfl, rfl⟩)
   | (go_at_call 88; refine (monthStart_any _ _ (by omega) (by omega)).mono ?_; rintro e w' ⟨rfl, rfl⟩))
  refine bodyPost_ret (v := .tuple #[.agg #[.int .i64 (Cal.yof ((n + 719468) % 146097) + (n + 719468) / 146097 * 400), .int .i64 ((((n + 719468) % 146097 - Cal.yst (Cal.yof ((n + 719468) % 146097))) * 5 + 2) / 153 + 3), .int .i64 (((n + 719468) % 146097 - Cal.yst (Cal.yof ((n + 719468) % 146097))) - Cal.mst ((((n + 719468) % 146097 - Cal.yst (Cal.yof ((n + 719468) % 146097))) * 5 + 2) / 153) + 1)], .int .i64 0]) (by simp [results, Tryz.results62, go_sem]) rfl ⟨?_, ?_⟩
  ·
   obtain ⟨⟨e1, e2⟩, e3⟩ := E.out
   rw [e1, e2, e3]
  ·
   repeat (first | exact Below.refl _ _ | refine below_drewN ?_ _ | refine Below.setCell ?_ (by simp) _ | refine Below.alloc ?_ (by simp) _)
structure One (w W : World) (b : Nat) (v0 v1 v2 : Value) : Prop where
 bel : Below w.heap.size w W
 hb : b < W.heap.size
 k0 : W.cell? ⟨b, 0, none⟩ = some v0
 k1 : W.cell? ⟨b, 1, none⟩ = some v1
 k2 : W.cell? ⟨b, 2, none⟩ = some v2
theorem One.keep {w W W' : World} {b : Nat} {v0 v1 v2 : Value} (h : One w W b v0 v1 v2) (k : Below W.heap.size W W') : One w W' b v0 v1 v2 := by
 obtain ⟨hw, hb, h0, h1, h2⟩ := h
 have z := k.size
 refine ⟨below_step hw k, by omega, ?_, ?_, ?_⟩ <;> (rw [k.cell (p := ⟨b, _, none⟩) (by show b < _; omega)]; assumption)
theorem One.alloc {w W : World} {b : Nat} {v0 v1 v2 : Value} (h : One w W b v0 v1 v2) (o : Obj) : One w (W.alloc o) b v0 v1 v2 :=
 h.keep ((Below.refl _ _).alloc (Nat.le_refl _) _)
theorem One.draw {w W : World} {b : Nat} {v0 v1 v2 : Value} (h : One w W b v0 v1 v2) (n : Nat) : One w (W.drewN n) b v0 v1 v2 :=
 h.keep (below_draw _ _)
theorem One.new {w W : World} {v0 v1 v2 : Value} {t : TypeId} (h : Below w.heap.size w W) : One w (W.alloc (.cells #[v0, v1, v2] t)) W.heap.size v0 v1 v2 :=
 ⟨below_step h ((Below.refl _ _).alloc (Nat.le_refl _) _), by simp, by simp [go_sem], by simp [go_sem], by simp [go_sem]⟩
structure Two2 (w W : World) (b c : Nat) (v0 v1 v2 u0 u1 u2 : Value) : Prop where
 bel : Below w.heap.size w W
 hb : b < W.heap.size
 hc : c < W.heap.size
 k0 : W.cell? ⟨b, 0, none⟩ = some v0
 k1 : W.cell? ⟨b, 1, none⟩ = some v1
 k2 : W.cell? ⟨b, 2, none⟩ = some v2
 g0 : W.cell? ⟨c, 0, none⟩ = some u0
 g1 : W.cell? ⟨c, 1, none⟩ = some u1
 g2 : W.cell? ⟨c, 2, none⟩ = some u2
theorem Two2.keep {w W W' : World} {b c : Nat} {v0 v1 v2 u0 u1 u2 : Value} (h : Two2 w W b c v0 v1 v2 u0 u1 u2) (k : Below W.heap.size W W') : Two2 w W' b c v0 v1 v2 u0 u1 u2 := by
 obtain ⟨hw, hb, hc, h0, h1, h2, g0, g1, g2⟩ := h
 have z := k.size
 refine ⟨below_step hw k, by omega, by omega, ?_, ?_, ?_, ?_, ?_, ?_⟩ <;> (first | rw [k.cell (p := ⟨b, _, none⟩) (by show b < _; omega)]; assumption | rw [k.cell (p := ⟨c, _, none⟩) (by show c < _; omega)]; assumption)
namespace Cal
def why (b : Bool) : Int := if b then 0 else 1
def orz (b : Bool) (n : Int) : Int := if b then n else 0
def hasD (n : Int) : Bool := decide (-15329228 ≤ n ∧ n ≤ 13890537)
theorem hasD_true {n : Int} : hasD n = true ↔ -15329228 ≤ n ∧ n ≤ 13890537 := by unfold hasD; simp
end Cal
theorem date_any (n : Int) (w : World) :
  Calls Tryz.prog 62 #[.int .i64 n] w fun e w' => e = .returned (.tuple #[.agg #[.int .i64 (Cal.orz (Cal.hasD n) (Cal.dY n)), .int .i64 (Cal.orz (Cal.hasD n) (Cal.dM n)), .int .i64 (Cal.orz (Cal.hasD n) (Cal.dD n))], .int .i64 (Cal.why (Cal.hasD n))]) ∧ Below w.heap.size w w' := by
 cases h : Cal.hasD n
 ·
  refine date_no n w ?_
  have : ¬ (-15329228 ≤ n ∧ n ≤ 13890537) := fun hh => by rw [Cal.hasD_true.2 hh] at h; exact absurd h (by decide)
  omega
 ·
  have := Cal.hasD_true.1 h
  exact date_yes n w this.1 this.2
end Go.Proofs.YtlelpeocbgjmhaaGreatDoor
set_option linter.unusedVariables false
namespace Go.Proofs.YtlelpeocbgjmhaaGreatDoor
open Go.RowKit
namespace St
def rB (y m d h i s : Int) : Bool := rightB y m d && (decide (0 ≤ h) && (decide (h < 24) && (decide (0 ≤ i) && (decide (i < 60) && (decide (0 ≤ s) && decide (s < 60))))))
theorem rB_true {y m d h i s : Int} : rB y m d h i s = true ↔ rightB y m d = true ∧ 0 ≤ h ∧ h < 24 ∧ 0 ≤ i ∧ i < 60 ∧ 0 ≤ s ∧ s < 60 := by unfold rB; simp
end St
namespace St
def tx (y m d h i s : Int) : List UInt8 := if rB y m d h i s then Tx.txt y m d h i s else []
end St
end Go.Proofs.YtlelpeocbgjmhaaGreatDoor
set_option linter.unusedVariables false
set_option linter.unusedSimpArgs false
namespace Go.Proofs.YtlelpeocbgjmhaaGreatDoor
open Go.RowKit
theorem arr_app (a b : List UInt8) : (⟨a.toArray⟩ ++ ⟨b.toArray⟩ : ByteArray) = ⟨(a ++ b).toArray⟩ := by
 apply ByteArray.ext
 rw [ByteArray.data_append]
 apply Array.toList_inj.1
 simp
end Go.Proofs.YtlelpeocbgjmhaaGreatDoor
