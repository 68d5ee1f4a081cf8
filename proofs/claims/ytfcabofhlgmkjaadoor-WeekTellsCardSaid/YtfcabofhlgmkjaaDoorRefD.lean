/- The contract of the reference's Date: the date that has the number. -/
import Derived.Test.YtfcabofhlgmkjaaDoorRefB
set_option linter.unusedVariables false
set_option linter.unusedSimpArgs false
namespace Go.Proofs.YtfcabofhlgmkjaaDoor
open Go.RowKit

set_option maxHeartbeats 400000 in
theorem rdate_no (n : Int) (w : World) (h : n < -15329228 ∨ 13890537 < n) :
    Calls Tryd.prog 66 #[.int .i64 n] w fun e w' => e = .returned (.tuple #[.agg #[.int .i64 0, .int .i64 0, .int .i64 0], .int .i64 1]) ∧ Below w.heap.size w w' := by
  rcases h with h | h
  · go_enter Tryd.func66, Tryd.ntmps66
    go_wp2_with fail
    refine (ahead_any (-40000) _ (by omega) (by omega)).mono ?_; rintro e w1 ⟨rfl, k1, rfl⟩
    rw [show Cal.ahead (-40000) = -15329228 by decide]
    go_wp2_with fail
    refine bodyPost_ret (v := .tuple #[.agg #[.int .i64 0, .int .i64 0, .int .i64 0], .int .i64 1]) (by simp [results, Tryd.results66, go_sem]) rfl ⟨rfl, ?_⟩
    repeat (first | exact Below.refl _ _ | refine below_drewN ?_ _ | refine Below.setCell ?_ (by simp) _ | refine Below.alloc ?_ (by simp) _)
  · have h' : ¬ n < -15329228 := by omega
    go_enter Tryd.func66, Tryd.ntmps66
    go_wp2_with fail
    refine (ahead_any (-40000) _ (by omega) (by omega)).mono ?_; rintro e w1 ⟨rfl, k1, rfl⟩
    rw [show Cal.ahead (-40000) = -15329228 by decide]
    go_wp2_with fail
    refine (ahead_any 40001 _ (by omega) (by omega)).mono ?_; rintro e w1 ⟨rfl, k1, rfl⟩
    rw [show Cal.ahead 40001 = 13890538 by decide]
    go_wp2_with fail
    refine bodyPost_ret (v := .tuple #[.agg #[.int .i64 0, .int .i64 0, .int .i64 0], .int .i64 1]) (by simp [results, Tryd.results66, go_sem]) rfl ⟨rfl, ?_⟩
    repeat (first | exact Below.refl _ _ | refine below_drewN ?_ _ | refine Below.setCell ?_ (by simp) _ | refine Below.alloc ?_ (by simp) _)

/-- The result's own block, empty till the end. -/
structure Own (w W : World) (b : Nat) : Prop where
  one : One w W b (.int .i64 0) (.int .i64 0) (.int .i64 0)
  old : w.heap.size ≤ b
  f0 : W.frozen? ⟨b, 0, none⟩ = false
  f1 : W.frozen? ⟨b, 1, none⟩ = false
  f2 : W.frozen? ⟨b, 2, none⟩ = false
theorem Own.keep {w W W' : World} {b : Nat} (h : Own w W b) (k : Below W.heap.size W W') : Own w W' b := by
  obtain ⟨h1, ho, f0, f1, f2⟩ := h
  have hb := h1.hb
  exact ⟨h1.keep k, ho, by rw [k.frozen (p := ⟨b, _, none⟩) hb]; exact f0, by rw [k.frozen (p := ⟨b, _, none⟩) hb]; exact f1, by rw [k.frozen (p := ⟨b, _, none⟩) hb]; exact f2⟩
theorem Own.new {w : World} {t : TypeId} : Own w (w.alloc (.cells #[.int .i64 0, .int .i64 0, .int .i64 0] t)) w.heap.size :=
  ⟨One.new (Below.refl _ _), Nat.le_refl _, by simp [go_sem], by simp [go_sem], by simp [go_sem]⟩

theorem ahead_le (y y' : Int) (h : y ≤ y') : Cal.ahead y ≤ Cal.ahead y' := by unfold Cal.ahead; omega
theorem ahead_range {y n : Int} (h0 : -15329228 ≤ n) (h : n < Cal.ahead y) : -40000 < y := by
  by_cases hy : -40000 < y
  · exact hy
  · have := ahead_le y (-40000) (by omega)
    have : Cal.ahead (-40000) = -15329228 := by decide
    omega
theorem ahead_range' {y n : Int} (h1 : n ≤ 13890537) (h : Cal.ahead y ≤ n) : y ≤ 40000 := by
  by_cases hy : y ≤ 40000
  · exact hy
  · have := ahead_le 40001 y (by omega)
    have : Cal.ahead 40001 = 13890538 := by decide
    omega
theorem ahead_bd {y : Int} (h0 : -50000 ≤ y) (h1 : y ≤ 50000) : -20000000 ≤ Cal.ahead y ∧ Cal.ahead y ≤ 20000000 := by unfold Cal.ahead; omega

set_option maxHeartbeats 2000000 in
set_option maxRecDepth 100000 in
theorem rdate_yes (n : Int) (w : World) (h0 : -15329228 ≤ n) (h1 : n ≤ 13890537) :
    Calls Tryd.prog 66 #[.int .i64 n] w fun e w' => e = .returned (.tuple #[.agg #[.int .i64 (Cal.dY n), .int .i64 (Cal.dM n), .int .i64 (Cal.dD n)], .int .i64 0]) ∧ Below w.heap.size w w' := by
  have O0 := Own.new (w := w) (t := 23)
  have g0 : -41884 ≤ n / 366 := by omega
  have g1 : n / 366 ≤ 37953 := by omega
  go_enter Tryd.func66, Tryd.ntmps66
  go_wp2_with fail
  refine (ahead_any (-40000) _ (by omega) (by omega)).mono ?_; rintro e w1 ⟨rfl, k1, rfl⟩
  rw [show Cal.ahead (-40000) = -15329228 by decide]
  go_wp2_with fail
  refine (ahead_any 40001 _ (by omega) (by omega)).mono ?_; rintro e w2 ⟨rfl, k2, rfl⟩
  rw [show Cal.ahead 40001 = 13890538 by decide]
  go_wp2_with fail
  refine (floor_pos _ _ _ (by omega) (by omega) (by omega) (by omega)).mono ?_; rintro e w3 ⟨rfl, k3, rfl⟩
  go_wp2_with fail
  have OW : Own w ((w.alloc (.cells #[.int .i64 0, .int .i64 0, .int .i64 0] 23)).drewN (k1 + k2 + k3)) w.heap.size := O0.keep (below_draw _ _)
  clear O0
  generalize (w.alloc (.cells #[.int .i64 0, .int .i64 0, .int .i64 0] 23)).drewN (k1 + k2 + k3) = W0 at OW ⊢
  go_loopw [4] (fun v4 wr => ∃ y : Int, -40000 ≤ y ∧ y ≤ 50000 ∧ v4 = .int .i64 y ∧ Own w wr w.heap.size) (fun v4 _ => (intOf v4 + 50000).toNat)
  case atStart => exact ⟨1970 + n / 366, by omega, by omega, rfl, OW⟩
  case round =>
    obtain ⟨y, hy0, hy1, rfl, O⟩ := hrel
    clear OW
    obtain ⟨ab0, ab1⟩ := ahead_bd (y := y) (by omega) (by omega)
    by_cases hlt : n < Cal.ahead y
    · have hr := ahead_range h0 hlt
      go_wp2_with (go_at_call 117; refine (ahead_any _ _ (by omega) (by omega)).mono ?_; rintro e w' ⟨rfl, j, rfl⟩)
      go_roundw
      case rel => exact ⟨y - 1, by omega, by omega, rfl, O.keep (below_draw _ _)⟩
      case measure => simp [intOf]; omega
    · go_wp2_with fail
      refine (ahead_any _ _ (by omega) (by omega)).mono ?_; rintro e w' ⟨rfl, j, rfl⟩
      have O := O.keep (below_draw (B := wr.heap.size) wr j)
      generalize wr.drewN j = W1 at O ⊢
      go_wp2_with fail
      go_loopw [4] (fun v4 wr => ∃ y : Int, -40000 ≤ y ∧ y ≤ 40000 ∧ Cal.ahead y ≤ n ∧ v4 = .int .i64 y ∧ Own w wr w.heap.size) (fun v4 _ => (50000 - intOf v4).toNat)
      case atStart => exact ⟨y, by omega, ahead_range' h1 (by omega), by omega, rfl, O⟩
      case round =>
        clear hy0 hy1 ab0 ab1 hlt O
        rename_i ww
        obtain ⟨z, hy0, hy1, hle, rfl, O⟩ := hrel
        obtain ⟨ab0, ab1⟩ := ahead_bd (y := z + 1) (by omega) (by omega)
        by_cases hlt : Cal.ahead (z + 1) ≤ n
        · have hr := ahead_range' h1 hlt
          go_wp2_with (go_at_call 117; refine (ahead_any _ _ (by omega) (by omega)).mono ?_; rintro e w' ⟨rfl, j, rfl⟩)
          go_roundw
          case rel => exact ⟨z + 1, by omega, by omega, hlt, rfl, O.keep (below_draw _ _)⟩
          case measure => simp [intOf]; omega
        · have hgt : n < Cal.ahead z + 365 + Cal.lp z := by rw [← Cal.ahead_succ]; omega
          obtain ⟨aa0, aa1⟩ := ahead_bd (y := z) (by omega) (by omega)
          go_wp2_with fail
          refine (ahead_any (z + 1) _ (by omega) (by omega)).mono ?_; rintro e w' ⟨rfl, j, rfl⟩
          have O := O.keep (below_draw (B := wr.heap.size) wr j)
          generalize wr.drewN j = W2 at O ⊢
          go_wp2_with fail
          refine (ahead_any z _ (by omega) (by omega)).mono ?_; rintro e w' ⟨rfl, j2, rfl⟩
          have O := O.keep (below_draw (B := W2.heap.size) W2 j2)
          generalize W2.drewN j2 = W3 at O ⊢
          clear ab0 ab1 hlt
          go_wp2_with fail
          go_loopw [5, 6] (fun v5 v6 wr => ∃ m : Int, 1 ≤ m ∧ m ≤ 12 ∧ v6 = .int .i64 m ∧ v5 = .int .i64 (n - Cal.ahead z - Cal.cum z m) ∧ 0 ≤ n - Cal.ahead z - Cal.cum z m ∧ Own w wr w.heap.size) (fun _ v6 _ => (12 - intOf v6).toNat)
          case atStart => exact ⟨1, by omega, by omega, rfl, by rw [show Cal.cum z 1 = 0 from rfl]; simp, by rw [show Cal.cum z 1 = 0 from rfl]; omega, O⟩
          case round =>
            clear O
            obtain ⟨m, hm0, hm1, rfl, rfl, hl0, O⟩ := hrel
            obtain ⟨c0, c1⟩ := Cal.cum_bd z m hm0 hm1
            obtain ⟨lp0, lp1⟩ := Cal.lp_01 z
            obtain ⟨l0, l1⟩ := Cal.len_bd z m
            have CS := Lib.hid (Cal.cum_succ z m hm0 hm1)
            by_cases hlt : Cal.len z m ≤ n - Cal.ahead z - Cal.cum z m
            · have hm2 : m < 12 := by
                by_cases h12 : m < 12
                · exact h12
                · exfalso
                  have e12 : m = 12 := by omega
                  rw [e12] at hlt
                  have : Cal.cum z 12 = 334 + Cal.lp z := rfl
                  have : Cal.len z 12 = 31 := rfl
                  omega
              go_wp2_with fail
              refine (rlen_any _ _ _).mono ?_; rintro e w4 ⟨rfl, b4⟩
              have O4 := O.keep b4
              clear O b4
              go_wp2_with fail
              refine (rlen_any _ _ _).mono ?_; rintro e w5 ⟨rfl, b5⟩
              have O5 := O4.keep b5
              clear O4 b5
              go_wp2_with fail
              go_roundw
              case rel => exact ⟨m + 1, by omega, by omega, rfl, by rw [CS.out]; go_num, by rw [CS.out]; omega, O5⟩
              case measure => simp [intOf]; omega
            · have hR : Cal.Right z m (n - Cal.ahead z - Cal.cum z m + 1) := ⟨hy0, hy1, by omega, by omega⟩
              have hN : Cal.num z m (n - Cal.ahead z - Cal.cum z m + 1) = n := by unfold Cal.num; omega
              have hE := Cal.date_of_num hR
              rw [hN] at hE
              have HE := Lib.hid hE
              clear hE hN hR
              go_wp2_with fail
              refine (rlen_any _ _ _).mono ?_; rintro e w4 ⟨rfl, b4⟩
              have O4 := O.keep b4
              clear O b4
              have f0 := O4.f0; have f1 := O4.f1; have f2 := O4.f2; have k0 := O4.one.k0; have k1 := O4.one.k1; have k2 := O4.one.k2
              go_wp2_with fail
              refine bodyPost_ret (v := .tuple #[.agg #[.int .i64 z, .int .i64 m, .int .i64 (n - Cal.ahead z - Cal.cum z m + 1)], .int .i64 0]) (by simp [results, Tryd.results66, go_sem, k0, k1, k2]) rfl ⟨?_, ?_⟩
              · obtain ⟨e1, e2, e3⟩ := HE.out
                rw [e1, e2, e3]
              · have B := O4.one.bel
                repeat (first | exact B | refine Below.setCell ?_ (by simp) _)
end Go.Proofs.YtfcabofhlgmkjaaDoor
