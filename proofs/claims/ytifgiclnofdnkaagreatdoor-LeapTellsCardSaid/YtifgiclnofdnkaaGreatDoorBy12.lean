/- Joined: One, RefB, CivT, StR0. -/
import Derived.Test.YtifgiclnofdnkaaGreatDoorBy01
import Derived.Test.YtifgiclnofdnkaaGreatDoorBy11
import Derived.Test.YtifgiclnofdnkaaGreatDoorBy03
import Derived.Test.YtifgiclnofdnkaaGreatDoorBy02
set_option linter.unusedVariables false
set_option linter.unusedSimpArgs false
namespace Go.Proofs.YtifgiclnofdnkaaGreatDoor
open Go.RowKit
structure One (w W : World) (b : Nat) (v0 v1 v2 : Value) : Prop where
 bel : Below w.heap.size w W
 hb : b < W.heap.size
 k0 : W.cell? ⟨b, 0, none⟩ = some v0
 k1 : W.cell? ⟨b, 1, none⟩ = some v1
 k2 : W.cell? ⟨b, 2, none⟩ = some v2
theorem One.keep {w W W' : World} {b : Nat} {v0 v1 v2 : Value} (h : One w W b v0 v1 v2) (k : Below W.heap.size W W') : One w W' b v0 v1 v2 := by
 obtain ⟨hw, hb, h0, h1, h2⟩ := h
 have z := k.size
 refine ⟨below_step hw k, by omega, ?_, ?_, ?_⟩ <;> (rw [k.cell (p := ⟨b, _, none⟩) (by show b < _; omega)]; assumption)
theorem One.alloc {w W : World} {b : Nat} {v0 v1 v2 : Value} (h : One w W b v0 v1 v2) (o : Obj) : One w (W.alloc o) b v0 v1 v2 :=
 h.keep ((Below.refl _ _).alloc (Nat.le_refl _) _)
theorem One.draw {w W : World} {b : Nat} {v0 v1 v2 : Value} (h : One w W b v0 v1 v2) (n : Nat) : One w (W.drewN n) b v0 v1 v2 :=
 h.keep (below_draw _ _)
theorem One.new {w W : World} {v0 v1 v2 : Value} {t : TypeId} (h : Below w.heap.size w W) : One w (W.alloc (.cells #[v0, v1, v2] t)) W.heap.size v0 v1 v2 :=
 ⟨below_step h ((Below.refl _ _).alloc (Nat.le_refl _) _), by simp, by simp [go_sem], by simp [go_sem], by simp [go_sem]⟩
theorem one_keep {w : World} {b : Nat} {W W' : World} {v0 v1 v2 : Value} (hb : Below W.heap.size W W')
  (h : Below w.heap.size w W ∧ b < W.heap.size ∧ W.cell? ⟨b, 0, none⟩ = some v0 ∧ W.cell? ⟨b, 1, none⟩ = some v1 ∧ W.cell? ⟨b, 2, none⟩ = some v2) :
  Below w.heap.size w W' ∧ b < W'.heap.size ∧ W'.cell? ⟨b, 0, none⟩ = some v0 ∧ W'.cell? ⟨b, 1, none⟩ = some v1 ∧ W'.cell? ⟨b, 2, none⟩ = some v2 := by
 obtain ⟨a1, a2, a3, a4, a5⟩ := h
 obtain ⟨b1, b2, b3, b4, b5⟩ := One.keep ⟨a1, a2, a3, a4, a5⟩ hb
 exact ⟨b1, b2, b3, b4, b5⟩
structure Two2 (w W : World) (b c : Nat) (v0 v1 v2 u0 u1 u2 : Value) : Prop where
 bel : Below w.heap.size w W
 hb : b < W.heap.size
 hc : c < W.heap.size
 k0 : W.cell? ⟨b, 0, none⟩ = some v0
 k1 : W.cell? ⟨b, 1, none⟩ = some v1
 k2 : W.cell? ⟨b, 2, none⟩ = some v2
 g0 : W.cell? ⟨c, 0, none⟩ = some u0
 g1 : W.cell? ⟨c, 1, none⟩ = some u1
 g2 : W.cell? ⟨c, 2, none⟩ = some u2
theorem Two2.keep {w W W' : World} {b c : Nat} {v0 v1 v2 u0 u1 u2 : Value} (h : Two2 w W b c v0 v1 v2 u0 u1 u2) (k : Below W.heap.size W W') : Two2 w W' b c v0 v1 v2 u0 u1 u2 := by
 obtain ⟨hw, hb, hc, h0, h1, h2, g0, g1, g2⟩ := h
 have z := k.size
 refine ⟨below_step hw k, by omega, by omega, ?_, ?_, ?_, ?_, ?_, ?_⟩ <;> (first | rw [k.cell (p := ⟨b, _, none⟩) (by show b < _; omega)]; assumption | rw [k.cell (p := ⟨c, _, none⟩) (by show c < _; omega)]; assumption)
set_option maxHeartbeats 2000000 in
theorem rright_any (y m d : Int) (w : World) :
  Calls Tryz.prog 85 #[.agg #[.int .i64 y, .int .i64 m, .int .i64 d]] w fun e w' => e = .returned (.bool (rightB y m d)) ∧ Below w.heap.size w w' := by
 by_cases h1 : -40000 ≤ y
 ·
  by_cases h2 : y ≤ 40000
  ·
   by_cases h3 : 1 ≤ d
   ·
    have O := One.new (t := 48) (v0 := .int .i64 y) (v1 := .int .i64 m) (v2 := .int .i64 d) (Below.refl w.heap.size w)
    go_enter Tryz.func85, Tryz.ntmps85
    go_wp2
    go_region_held3 (fun W => Below w.heap.size w W ∧ w.heap.size < W.heap.size ∧ W.cell? ⟨w.heap.size, 0, none⟩ = some (.int .i64 y) ∧ W.cell? ⟨w.heap.size, 1, none⟩ = some (.int .i64 m) ∧ W.cell? ⟨w.heap.size, 2, none⟩ = some (.int .i64 d)) (first | exact ⟨O.bel.drew, O.hb, O.k0, O.k1, O.k2⟩ | exact one_keep ‹Below _ _ _› ‹_ ∧ _›)
     (first
      | (go_at_call 83; refine (rlen_any _ _ _).mono ?_; rintro e w' ⟨rfl, hb⟩))
    rename_i hS
    have B := Lib.hid hS.1
    go_wp2
    go_ret
    exact ⟨right_br (by simp [h1, h2, h3]), B.out⟩
   ·
    have hd : decide (1 ≤ d) = false := by simpa using h3
    go_enter Tryz.func85, Tryz.ntmps85
    go_wp2
    go_quiet (fail)
    go_wp2
    go_ret
    exact ⟨right_br (by simp; omega), below_new _ _ _⟩
  ·
   have hd : decide (y ≤ 40000) = false := by simpa using h2
   go_enter Tryz.func85, Tryz.ntmps85
   go_wp2
   go_quiet (fail)
   go_wp2
   go_ret
   exact ⟨right_br (by simp; omega), below_new _ _ _⟩
 ·
  have hd : decide (-40000 ≤ y) = false := by simpa using h1
  go_enter Tryz.func85, Tryz.ntmps85
  go_wp2
  go_quiet (fail)
  go_wp2
  go_ret
  exact ⟨right_br (by simp; omega), below_new _ _ _⟩
set_option maxHeartbeats 2000000 in
theorem ryearDay_yes (y m d : Int) (w : World) (h : rightB y m d = true) :
  Calls Tryz.prog 120 #[.agg #[.int .i64 y, .int .i64 m, .int .i64 d]] w fun e w' => e = .returned (.tuple #[.int .i64 (Cal.cum y m + d), .int .i64 0]) ∧ Below w.heap.size w w' := by
 have hr := right_true.1 h
 obtain ⟨m0, m1⟩ := Cal.month_of hr
 have d1 := hr.d1
 have d0 := hr.d0
 have lb := Cal.len_bd y m
 have d2 : d ≤ 31 := by omega
 clear hr d1 lb
 have O0 := One.new (t := 48) (v0 := .int .i64 y) (v1 := .int .i64 m) (v2 := .int .i64 d) (Below.refl w.heap.size w)
 go_enter Tryz.func120, Tryz.ntmps120
 go_wp2_with fail
 refine (rright_any _ _ _ _).mono ?_; rintro e w1 ⟨rfl, b1⟩
 have O1 := O0.keep b1
 clear O0 b1
 have k0 := O1.k0; have k1 := O1.k1; have k2 := O1.k2
 go_wp2_with fail
 clear k0 k1 k2
 go_loopw [4, 5] (fun v4 v5 wr => ∃ k : Int, 1 ≤ k ∧ k ≤ m ∧ v4 = .int .i64 (d + Cal.cum y k) ∧ v5 = .int .i64 k ∧ One w wr w.heap.size (.int .i64 y) (.int .i64 m) (.int .i64 d)) (fun _ v5 _ => (m - intOf v5).toNat)
 case atStart => exact ⟨1, by omega, by omega, by rw [show Cal.cum y 1 = 0 from rfl]; simp, rfl, O1⟩
 case round =>
  obtain ⟨k, hk0, hk1, rfl, rfl, O⟩ := hrel
  have k0 := O.k0; have k1 := O.k1
  have cb := Cal.cum_bd y k hk0 (by omega)
  obtain ⟨c0, c1⟩ := cb
  have lp1 := Cal.lp_01 y
  obtain ⟨lp0, lp1⟩ := lp1
  have ln := Cal.len_bd y k
  obtain ⟨l0, l1⟩ := ln
  clear O1
  by_cases hlt : k < m
  ·
   have cs := Cal.cum_succ y k hk0 (by omega)
   have CS := Lib.hid cs; clear cs
   go_wp2_with (go_at_call 83; refine (rlen_any _ _ _).mono ?_; rintro e w2 ⟨rfl, b2⟩)
   go_roundw
   case rel => exact ⟨k + 1, by omega, by omega, by rw [CS.out]; go_num, rfl, O.keep b2⟩
   case measure => simp [intOf]; omega
  ·
   have hkm : k = m := by omega
   subst hkm
   go_wp2
   go_ret2
   refine ⟨?_, O.bel⟩
   show Ending.returned (.tuple #[.int .i64 (d + Cal.cum y k), .int .i64 0]) = _
   rw [Int.add_comm]
set_option maxHeartbeats 400000 in
theorem rdays_yes (y m d : Int) (w : World) (h : rightB y m d = true) :
  Calls Tryz.prog 100 #[.agg #[.int .i64 y, .int .i64 m, .int .i64 d]] w fun e w' => e = .returned (.tuple #[.int .i64 (Cal.num y m d), .int .i64 0]) ∧ Below w.heap.size w w' := by
 have hr := right_true.1 h
 have y0 := hr.y0
 have y1 := hr.y1
 have nb := Cal.num_range hr
 obtain ⟨m0, m1⟩ := Cal.month_of hr
 have cb := Cal.cum_bd y m m0 m1
 have lp1 := Cal.lp_01 y
 have d0 := hr.d0
 have d1 := hr.d1
 obtain ⟨n0, n1⟩ := nb
 obtain ⟨c0, c1⟩ := cb
 have a0 : -20000000 ≤ Cal.ahead y := by unfold Cal.num at n0; omega
 have a1 : Cal.ahead y ≤ 20000000 := by unfold Cal.num at n1; omega
 have q0 : 0 ≤ Cal.cum y m + d := by omega
 have q1 : Cal.cum y m + d ≤ 1000 := by omega
 have e : Cal.ahead y + (Cal.cum y m + d) - 1 = Cal.num y m d := by unfold Cal.num; omega
 have E := Lib.hid e; clear e
 have O0 := One.new (t := 48) (v0 := .int .i64 y) (v1 := .int .i64 m) (v2 := .int .i64 d) (Below.refl w.heap.size w)
 clear hr lp1 d0 d1 c0 c1 n0 n1 m0 m1
 go_enter Tryz.func100, Tryz.ntmps100
 go_wp2_with fail
 refine (ryearDay_yes _ _ _ _ h).mono ?_; rintro e w1 ⟨rfl, b1⟩
 have O1 := O0.keep b1
 clear O0 b1
 have k0 := O1.k0
 generalize Cal.cum y m + d = q at q0 q1 E ⊢
 go_wp2_with fail
 refine (ahead_any _ _ (by omega) (by omega)).mono ?_; rintro e w2 ⟨rfl, k, rfl⟩
 go_wp2_with fail
 go_ret2
 rw [E.out]
 exact ⟨rfl, _root_.Go.below_drewN O1.bel _⟩
namespace Cal
def why (b : Bool) : Int := if b then 0 else 1
def orz (b : Bool) (n : Int) : Int := if b then n else 0
def hasD (n : Int) : Bool := decide (-15329228 ≤ n ∧ n ≤ 13890537)
theorem hasD_true {n : Int} : hasD n = true ↔ -15329228 ≤ n ∧ n ≤ 13890537 := by unfold hasD; simp
end Cal
theorem days_any (y m d : Int) (w : World) :
  Calls Tryz.prog 95 #[.agg #[.int .i64 y, .int .i64 m, .int .i64 d]] w fun e w' => e = .returned (.tuple #[.int .i64 (Cal.orz (rightB y m d) (Cal.num y m d)), .int .i64 (Cal.why (rightB y m d))]) ∧ Below w.heap.size w w' := by
 cases h : rightB y m d
 ·
  exact days_no y m d w h
 ·
  exact days_yes y m d w h
theorem date_any (n : Int) (w : World) :
  Calls Tryz.prog 43 #[.int .i64 n] w fun e w' => e = .returned (.tuple #[.agg #[.int .i64 (Cal.orz (Cal.hasD n) (Cal.dY n)), .int .i64 (Cal.orz (Cal.hasD n) (Cal.dM n)), .int .i64 (Cal.orz (Cal.hasD n) (Cal.dD n))], .int .i64 (Cal.why (Cal.hasD n))]) ∧ Below w.heap.size w w' := by
 cases h : Cal.hasD n
 ·
  refine date_no n w ?_
  have : ¬ (-15329228 ≤ n ∧ n ≤ 13890537) := fun hh => by rw [Cal.hasD_true.2 hh] at h; exact absurd h (by decide)
  omega
 ·
  have := Cal.hasD_true.1 h
  exact date_yes n w this.1 this.2
end Go.Proofs.YtifgiclnofdnkaaGreatDoor
set_option linter.unusedVariables false
namespace Go.Proofs.YtifgiclnofdnkaaGreatDoor
open Go.RowKit
namespace St
def rB (y m d h i s : Int) : Bool := rightB y m d && (decide (0 ≤ h) && (decide (h < 24) && (decide (0 ≤ i) && (decide (i < 60) && (decide (0 ≤ s) && decide (s < 60))))))
theorem rB_true {y m d h i s : Int} : rB y m d h i s = true ↔ rightB y m d = true ∧ 0 ≤ h ∧ h < 24 ∧ 0 ≤ i ∧ i < 60 ∧ 0 ≤ s ∧ s < 60 := by unfold rB; simp
end St
namespace St
def tx (y m d h i s : Int) : List UInt8 := if rB y m d h i s then Tx.txt y m d h i s else []
end St
end Go.Proofs.YtifgiclnofdnkaaGreatDoor
