/- The contracts of the reference's functions on dates: Len, Right, YearDay, Days. -/
import Derived.Test.YtfcabofhlgmkjaaDoorCivY
import Derived.Test.YtfcabofhlgmkjaaDoorRefA
import Derived.Test.YtfcabofhlgmkjaaDoorOne
set_option linter.unusedVariables false
set_option linter.unusedSimpArgs false
namespace Go.Proofs.YtfcabofhlgmkjaaDoor
open Go.RowKit

set_option maxHeartbeats 2000000 in
theorem rlen_any (y m : Int) (w : World) :
    Calls Tryd.prog 119 #[.int .i64 y, .int .i64 m] w fun e w' => e = .returned (.int .i64 (Cal.len y m)) ∧ Below w.heap.size w w' := by
  by_cases h : 1 ≤ m ∧ m ≤ 12
  · by_cases h2 : m = 2
    · subst h2
      have hl : Cal.len y 2 = 28 + Cal.lp y := by simp [Cal.len]
      rw [hl]; clear hl h
      cases hb : lpB y
      · have v := lp_false hb
        have V := Lib.hid v; clear v
        go_enter Tryd.func119, Tryd.ntmps119
        go_wp2_with (go_at_call 156; refine (rleap_any _ _).mono ?_; rintro e w' ⟨rfl, rfl⟩)
        go_ret; exact ⟨ret_int (by have := V.out; omega), by go_grown⟩
      · have v := lp_true hb
        have V := Lib.hid v; clear v
        go_enter Tryd.func119, Tryd.ntmps119
        go_wp2_with (go_at_call 156; refine (rleap_any _ _).mono ?_; rintro e w' ⟨rfl, rfl⟩)
        go_ret; exact ⟨ret_int (by have := V.out; omega), by go_grown⟩
    · rcases Cal.twelve h.1 h.2 with rfl | rfl | rfl | rfl | rfl | rfl | rfl | rfl | rfl | rfl | rfl | rfl
      case inr.inl => exact absurd rfl h2
      all_goals
        clear h h2
        go_enter Tryd.func119, Tryd.ntmps119
        go_wp2
        go_ret; exact ⟨rfl, by go_grown⟩
  · have hl : Cal.len y m = 0 := by unfold Cal.len; rw [if_neg (by omega), if_neg (by omega), if_neg (by omega)]
    rw [hl]; clear hl
    by_cases h1 : m < 1
    · clear h
      go_enter Tryd.func119, Tryd.ntmps119
      go_wp2
      go_ret; exact ⟨rfl, by go_grown⟩
    · have h12 : 12 < m := by omega
      clear h
      go_enter Tryd.func119, Tryd.ntmps119
      go_wp2
      go_ret; exact ⟨rfl, by go_grown⟩

set_option maxHeartbeats 2000000 in
theorem rright_any (y m d : Int) (w : World) :
    Calls Tryd.prog 79 #[.agg #[.int .i64 y, .int .i64 m, .int .i64 d]] w fun e w' => e = .returned (.bool (rightB y m d)) ∧ Below w.heap.size w w' := by
  by_cases h1 : -40000 ≤ y
  · by_cases h2 : y ≤ 40000
    · by_cases h3 : 1 ≤ d
      · have O := One.new (t := 23) (v0 := .int .i64 y) (v1 := .int .i64 m) (v2 := .int .i64 d) (Below.refl w.heap.size w)
        go_enter Tryd.func79, Tryd.ntmps79
        go_wp2
        go_region_held3 (fun W => Below w.heap.size w W ∧ w.heap.size < W.heap.size ∧ W.cell? ⟨w.heap.size, 0, none⟩ = some (.int .i64 y) ∧ W.cell? ⟨w.heap.size, 1, none⟩ = some (.int .i64 m) ∧ W.cell? ⟨w.heap.size, 2, none⟩ = some (.int .i64 d)) (first | exact ⟨O.bel.drew, O.hb, O.k0, O.k1, O.k2⟩ | exact one_keep ‹Below _ _ _› ‹_ ∧ _›)
          (first
            | (go_at_call 119; refine (rlen_any _ _ _).mono ?_; rintro e w' ⟨rfl, hb⟩))
        rename_i hS
        have B := Lib.hid hS.1
        go_wp2
        go_ret
        exact ⟨right_br (by simp [h1, h2, h3]), B.out⟩
      · have hd : decide (1 ≤ d) = false := by simpa using h3
        go_enter Tryd.func79, Tryd.ntmps79
        go_wp2
        go_quiet (fail)
        go_wp2
        go_ret
        exact ⟨right_br (by simp; omega), below_new _ _ _⟩
    · have hd : decide (y ≤ 40000) = false := by simpa using h2
      go_enter Tryd.func79, Tryd.ntmps79
      go_wp2
      go_quiet (fail)
      go_wp2
      go_ret
      exact ⟨right_br (by simp; omega), below_new _ _ _⟩
  · have hd : decide (-40000 ≤ y) = false := by simpa using h1
    go_enter Tryd.func79, Tryd.ntmps79
    go_wp2
    go_quiet (fail)
    go_wp2
    go_ret
    exact ⟨right_br (by simp; omega), below_new _ _ _⟩

set_option maxHeartbeats 2000000 in
theorem ryearDay_no (y m d : Int) (w : World) (h : rightB y m d = false) :
    Calls Tryd.prog 116 #[.agg #[.int .i64 y, .int .i64 m, .int .i64 d]] w fun e w' => e = .returned (.tuple #[.int .i64 0, .int .i64 1]) ∧ Below w.heap.size w w' := by
  go_enter Tryd.func116, Tryd.ntmps116
  go_wp2_with (go_at_call 79; refine (rright_any _ _ _ _).mono ?_; rintro e w' ⟨rfl, hb⟩)
  go_ret2
  exact ⟨rfl, ((Below.refl _ _).alloc (Nat.le_refl _) _).trans (hb.mono (by simp))⟩
set_option maxHeartbeats 2000000 in
theorem ryearDay_yes (y m d : Int) (w : World) (h : rightB y m d = true) :
    Calls Tryd.prog 116 #[.agg #[.int .i64 y, .int .i64 m, .int .i64 d]] w fun e w' => e = .returned (.tuple #[.int .i64 (Cal.cum y m + d), .int .i64 0]) ∧ Below w.heap.size w w' := by
  have hr := right_true.1 h
  obtain ⟨m0, m1⟩ := Cal.month_of hr
  have d1 := hr.d1
  have d0 := hr.d0
  have lb := Cal.len_bd y m
  have d2 : d ≤ 31 := by omega
  clear hr d1 lb
  have O0 := One.new (t := 23) (v0 := .int .i64 y) (v1 := .int .i64 m) (v2 := .int .i64 d) (Below.refl w.heap.size w)
  go_enter Tryd.func116, Tryd.ntmps116
  go_wp2_with fail
  refine (rright_any _ _ _ _).mono ?_; rintro e w1 ⟨rfl, b1⟩
  have O1 := O0.keep b1
  clear O0 b1
  have k0 := O1.k0; have k1 := O1.k1; have k2 := O1.k2
  go_wp2_with fail
  clear k0 k1 k2
  go_loopw [4, 5] (fun v4 v5 wr => ∃ k : Int, 1 ≤ k ∧ k ≤ m ∧ v4 = .int .i64 (d + Cal.cum y k) ∧ v5 = .int .i64 k ∧ One w wr w.heap.size (.int .i64 y) (.int .i64 m) (.int .i64 d)) (fun _ v5 _ => (m - intOf v5).toNat)
  case atStart => exact ⟨1, by omega, by omega, by rw [show Cal.cum y 1 = 0 from rfl]; simp, rfl, O1⟩
  case round =>
    obtain ⟨k, hk0, hk1, rfl, rfl, O⟩ := hrel
    have k0 := O.k0; have k1 := O.k1
    have cb := Cal.cum_bd y k hk0 (by omega)
    obtain ⟨c0, c1⟩ := cb
    have lp1 := Cal.lp_01 y
    obtain ⟨lp0, lp1⟩ := lp1
    have ln := Cal.len_bd y k
    obtain ⟨l0, l1⟩ := ln
    clear O1
    by_cases hlt : k < m
    · have cs := Cal.cum_succ y k hk0 (by omega)
      have CS := Lib.hid cs; clear cs
      go_wp2_with (go_at_call 119; refine (rlen_any _ _ _).mono ?_; rintro e w2 ⟨rfl, b2⟩)
      go_roundw
      case rel => exact ⟨k + 1, by omega, by omega, by rw [CS.out]; go_num, rfl, O.keep b2⟩
      case measure => simp [intOf]; omega
    · have hkm : k = m := by omega
      subst hkm
      go_wp2
      go_ret2
      refine ⟨?_, O.bel⟩
      show Ending.returned (.tuple #[.int .i64 (d + Cal.cum y k), .int .i64 0]) = _
      rw [Int.add_comm]

set_option maxHeartbeats 400000 in
theorem rdays_no (y m d : Int) (w : World) (h : rightB y m d = false) :
    Calls Tryd.prog 64 #[.agg #[.int .i64 y, .int .i64 m, .int .i64 d]] w fun e w' => e = .returned (.tuple #[.int .i64 0, .int .i64 1]) ∧ Below w.heap.size w w' := by
  go_enter Tryd.func64, Tryd.ntmps64
  go_wp2_with (go_at_call 116; refine (ryearDay_no _ _ _ _ h).mono ?_; rintro e w' ⟨rfl, hb⟩)
  go_ret2
  exact ⟨rfl, ((Below.refl _ _).alloc (Nat.le_refl _) _).trans (hb.mono (by simp))⟩
set_option maxHeartbeats 400000 in
theorem rdays_yes (y m d : Int) (w : World) (h : rightB y m d = true) :
    Calls Tryd.prog 64 #[.agg #[.int .i64 y, .int .i64 m, .int .i64 d]] w fun e w' => e = .returned (.tuple #[.int .i64 (Cal.num y m d), .int .i64 0]) ∧ Below w.heap.size w w' := by
  have hr := right_true.1 h
  have y0 := hr.y0
  have y1 := hr.y1
  have nb := Cal.num_range hr
  obtain ⟨m0, m1⟩ := Cal.month_of hr
  have cb := Cal.cum_bd y m m0 m1
  have lp1 := Cal.lp_01 y
  have d0 := hr.d0
  have d1 := hr.d1
  obtain ⟨n0, n1⟩ := nb
  obtain ⟨c0, c1⟩ := cb
  have a0 : -20000000 ≤ Cal.ahead y := by unfold Cal.num at n0; omega
  have a1 : Cal.ahead y ≤ 20000000 := by unfold Cal.num at n1; omega
  have q0 : 0 ≤ Cal.cum y m + d := by omega
  have q1 : Cal.cum y m + d ≤ 1000 := by omega
  have e : Cal.ahead y + (Cal.cum y m + d) - 1 = Cal.num y m d := by unfold Cal.num; omega
  have E := Lib.hid e; clear e
  have O0 := One.new (t := 23) (v0 := .int .i64 y) (v1 := .int .i64 m) (v2 := .int .i64 d) (Below.refl w.heap.size w)
  clear hr lp1 d0 d1 c0 c1 n0 n1 m0 m1
  go_enter Tryd.func64, Tryd.ntmps64
  go_wp2_with fail
  refine (ryearDay_yes _ _ _ _ h).mono ?_; rintro e w1 ⟨rfl, b1⟩
  have O1 := O0.keep b1
  clear O0 b1
  have k0 := O1.k0
  generalize Cal.cum y m + d = q at q0 q1 E ⊢
  go_wp2_with fail
  refine (ahead_any _ _ (by omega) (by omega)).mono ?_; rintro e w2 ⟨rfl, k, rfl⟩
  go_wp2_with fail
  go_ret2
  rw [E.out]
  exact ⟨rfl, below_drewN O1.bel _⟩
end Go.Proofs.YtfcabofhlgmkjaaDoor
