/- Parts: the contracts of Right, the program's and the reference's. -/
import Derived.Test.YtnfjdjfajkdiiaaMnA0
import Derived.Test.YtnfjdjfajkdiiaaMnL
set_option linter.unusedVariables false
set_option linter.unusedSimpArgs false
namespace Go.Proofs.Ytnfjdjfajkdiiaa
open Go.RowKit Go.Sort

set_option maxHeartbeats 4000000 in
theorem mean_right (v : Value) (l : List Mn.P) (w : World) (h : PtV w v l) (hm : l.length ≤ 1000000) :
    Calls Try.prog 52 #[v] w fun e w' => e = .returned (.bool (Mn.rt none l)) ∧ Below w.heap.size w w' := by
  have H := Lib.hid h
  obtain ⟨A, c, rfl, -⟩ := h
  obtain ⟨n, hn⟩ : ∃ n, l.length = n := ⟨_, rfl⟩
  rw [hn] at hm H ⊢
  have HN := Lib.hid hn
  clear hn
  obtain ⟨ans, hans⟩ : ∃ ans, ans = Mn.rt none l := ⟨_, rfl⟩
  rw [← hans]
  have HA := Lib.hid hans.symm
  clear hans
  go_enter Try.func52, Try.ntmps52
  go_wp2
  go_loopw [7] (fun i wr => ∃ (k : Nat) (o : Option Int), k ≤ n ∧ i = .int .i64 k ∧ Below w.heap.size w wr ∧ Hid (Mn.rt o (l.drop k) = ans) ∧ Hid ((k = 0 ∧ o = none) ∨ ∃ h : k - 1 < l.length, 0 < k ∧ o = some l[k - 1].2.1)) (fun i _ => n - (intOf i).toNat)
  case atStart => exact ⟨0, none, Nat.zero_le _, rfl, Below.refl _ _, HA, Lib.hid (.inl ⟨rfl, rfl⟩)⟩
  case round =>
    rename World => w1
    obtain ⟨k, o, hk, rfl, B, hinv, hprev⟩ := hrel
    have B1 := Lib.hid B
    have H1 := Lib.hid (H.out.on B)
    clear B
    by_cases hlt : k < n
    · have hkl : k < l.length := by rw [HN.out]; exact hlt
      have hd := hinv.out
      rw [Mn.rt_drop o l k hkl] at hd
      obtain ⟨a, rfl, hab, g1, g2, g3⟩ := H1.out.get k hkl
      have NX := Lib.hid (show ∀ o, o = some l[k].2.1 → (k + 1 = 0 ∧ o = none) ∨ ∃ h : k + 1 - 1 < l.length, 0 < k + 1 ∧ o = some l[k + 1 - 1].2.1 from fun o ho => .inr ⟨hkl, by omega, ho⟩)
      have HP : Hid (o = none ∧ k = 0 ∨ ∃ t j, o = some t ∧ k = j + 1 ∧ Hid (∀ W, Below w.heap.size w W → W.cell? ⟨(a.add (j * 3)).block, (a.add (j * 3)).off + 1, none⟩ = some (.int .i64 t))) := Lib.hid (by
        rcases hprev.out with ⟨h0, h1⟩ | ⟨hp, h0, h1⟩
        · exact .inl ⟨h1, h0⟩
        · refine .inr ⟨_, k - 1, h1, by omega, Lib.hid fun W hW => ?_⟩
          obtain ⟨a', ha, -, -, q2, -⟩ := (H.out.on hW).get (k - 1) hp
          cases ha
          exact q2)
      clear hinv hprev
      generalize l[k].1 = x at *
      generalize l[k].2.1 = y at *
      generalize l[k].2.2 = z at *
      have i1 : (k : Int) < n := by omega
      rcases HP.out with ⟨rfl, hk0⟩ | ⟨t, j, rfl, hkj, q⟩
      · have gk : decide (0 < k) = false := decide_eq_false (by omega)
        clear HP hk0
        cases hr : Sp.rb x y
        · have E := Lib.hid (show ans = false by rw [← hd, hr]; rfl)
          have HR := Lib.hid hr
          clear hr hd
          go_wp2_with fail
          refine wp_named ?_; intro w2 hw2
          have d2 : Below w1.heap.size w1 w2 := by rw [hw2]; exact (by repeat (first | exact Below.refl _ _ | refine below_drewN ?_ _ | refine Below.drew ?_ | refine Below.setCell ?_ (by first | (simp; done) | (simp; omega) | omega) _ | refine Below.alloc ?_ (by first | (simp; done) | (simp; omega) | omega) _))
          have B2 := Lib.hid (below_step B1.out d2)
          have aP := B1.out.size
          have P2 : Bk3 w2 (w1.heap.size) (.int .i64 x) (.int .i64 y) (.int .i64 z) := by rw [hw2]; exact ⟨by simp <;> omega, by intro j; simp [go_sem], by simp [go_sem], by simp [go_sem], by simp [go_sem]⟩
          clear d2 hw2 B1
          have cP_b := P2.hb
          have cP_f := P2.fz
          have cP_0 := P2.k0
          have cP_1 := P2.k1
          have cP_2 := P2.k2
          go_wp2_with fail
          clear cP_b cP_f cP_0 cP_1 cP_2
          have qP_0 := cell_regrown P2.k0
          have qP_1 := cell_regrown P2.k1
          have qP_2 := cell_regrown P2.k2
          refine wp_region_qb (w := w2) (by kernel_rfl) (by kernel_rfl) (by repeat (first | exact Below.refl _ _ | refine below_drewN ?_ _ | refine Below.drew ?_ | refine Below.setCell ?_ (by first | (simp; done) | (simp; omega) | omega) _ | refine Below.alloc ?_ (by first | (simp; done) | (simp; omega) | omega) _)) ?_
          repeat (any_goals (first | go_big_quiet_step (first | (go_at_call 33; exact Calls.regrown_of (span_right_on x y _ HR.out _))) | quiet_step (first | (go_at_call 33; exact Calls.regrown_of (span_right_on x y _ HR.out _)))))
          refine wpQuiet_nil ?_
          intro w3 hq
          have b3 : Below w2.heap.size w2 w3 := by obtain ⟨p, hq⟩ := hq; rw [hq]; exact below_regrown _ _ _
          clear hq qP_0 qP_1 qP_2
          have d3 : Below w2.heap.size w2 w3 := below_step (by repeat (first | exact Below.refl _ _ | refine below_drewN ?_ _ | refine Below.drew ?_ | refine Below.setCell ?_ (by first | (simp; done) | (simp; omega) | omega) _ | refine Below.alloc ?_ (by first | (simp; done) | (simp; omega) | omega) _)) b3
          have B3 := Lib.hid (below_step B2.out d3)
          have P3 := P2.keep d3
          clear P2 b3 d3 B2
          go_wp2
          go_ret; exact ⟨by rw [E.out]; rfl, B3.out⟩
          skip
        · have E := Lib.hid (show Mn.rt (some y) (l.drop (k + 1)) = ans by rw [← hd, hr]; rfl)
          have HR := Lib.hid hr
          clear hr hd
          go_wp2_with fail
          refine wp_named ?_; intro w2 hw2
          have d2 : Below w1.heap.size w1 w2 := by rw [hw2]; exact (by repeat (first | exact Below.refl _ _ | refine below_drewN ?_ _ | refine Below.drew ?_ | refine Below.setCell ?_ (by first | (simp; done) | (simp; omega) | omega) _ | refine Below.alloc ?_ (by first | (simp; done) | (simp; omega) | omega) _))
          have B2 := Lib.hid (below_step B1.out d2)
          have aP := B1.out.size
          have P2 : Bk3 w2 (w1.heap.size) (.int .i64 x) (.int .i64 y) (.int .i64 z) := by rw [hw2]; exact ⟨by simp <;> omega, by intro j; simp [go_sem], by simp [go_sem], by simp [go_sem], by simp [go_sem]⟩
          clear d2 hw2 B1
          have cP_b := P2.hb
          have cP_f := P2.fz
          have cP_0 := P2.k0
          have cP_1 := P2.k1
          have cP_2 := P2.k2
          go_wp2_with fail
          clear cP_b cP_f cP_0 cP_1 cP_2
          have qP_0 := cell_regrown P2.k0
          have qP_1 := cell_regrown P2.k1
          have qP_2 := cell_regrown P2.k2
          refine wp_region_qb (w := w2) (by kernel_rfl) (by kernel_rfl) (by repeat (first | exact Below.refl _ _ | refine below_drewN ?_ _ | refine Below.drew ?_ | refine Below.setCell ?_ (by first | (simp; done) | (simp; omega) | omega) _ | refine Below.alloc ?_ (by first | (simp; done) | (simp; omega) | omega) _)) ?_
          repeat (any_goals (first | go_big_quiet_step (first | (go_at_call 33; exact Calls.regrown_of (span_right_on x y _ HR.out _))) | quiet_step (first | (go_at_call 33; exact Calls.regrown_of (span_right_on x y _ HR.out _)))))
          refine wpQuiet_nil ?_
          intro w3 hq
          have b3 : Below w2.heap.size w2 w3 := by obtain ⟨p, hq⟩ := hq; rw [hq]; exact below_regrown _ _ _
          clear hq qP_0 qP_1 qP_2
          have d3 : Below w2.heap.size w2 w3 := below_step (by repeat (first | exact Below.refl _ _ | refine below_drewN ?_ _ | refine Below.drew ?_ | refine Below.setCell ?_ (by first | (simp; done) | (simp; omega) | omega) _ | refine Below.alloc ?_ (by first | (simp; done) | (simp; omega) | omega) _)) b3
          have B3 := Lib.hid (below_step B2.out d3)
          have P3 := P2.keep d3
          clear P2 b3 d3 B2
          go_wp2
          go_roundw; case rel => exact ⟨k + 1, some y, by omega, by go_num, B3.out, E, Lib.hid (NX.out _ rfl)⟩
          case measure => simp [intOf]; omega
      · have gk : decide (0 < k) = true := decide_eq_true (by omega)
        have ek : (k : Int) - 1 = (j : Int) := by omega
        clear HP hkj
        cases hr : Sp.rb x y
        · have E := Lib.hid (show ans = false by rw [← hd, hr]; rfl)
          have HR := Lib.hid hr
          clear hr hd
          go_wp2_with fail
          refine wp_named ?_; intro w2 hw2
          have d2 : Below w1.heap.size w1 w2 := by rw [hw2]; exact (by repeat (first | exact Below.refl _ _ | refine below_drewN ?_ _ | refine Below.drew ?_ | refine Below.setCell ?_ (by first | (simp; done) | (simp; omega) | omega) _ | refine Below.alloc ?_ (by first | (simp; done) | (simp; omega) | omega) _))
          have B2 := Lib.hid (below_step B1.out d2)
          have aP := B1.out.size
          have P2 : Bk3 w2 (w1.heap.size) (.int .i64 x) (.int .i64 y) (.int .i64 z) := by rw [hw2]; exact ⟨by simp <;> omega, by intro j; simp [go_sem], by simp [go_sem], by simp [go_sem], by simp [go_sem]⟩
          clear d2 hw2 B1
          have cP_b := P2.hb
          have cP_f := P2.fz
          have cP_0 := P2.k0
          have cP_1 := P2.k1
          have cP_2 := P2.k2
          go_wp2_with fail
          clear cP_b cP_f cP_0 cP_1 cP_2
          have qP_0 := cell_regrown P2.k0
          have qP_1 := cell_regrown P2.k1
          have qP_2 := cell_regrown P2.k2
          refine wp_region_qb (w := w2) (by kernel_rfl) (by kernel_rfl) (by repeat (first | exact Below.refl _ _ | refine below_drewN ?_ _ | refine Below.drew ?_ | refine Below.setCell ?_ (by first | (simp; done) | (simp; omega) | omega) _ | refine Below.alloc ?_ (by first | (simp; done) | (simp; omega) | omega) _)) ?_
          repeat (any_goals (first | go_big_quiet_step (first | (go_at_call 33; exact Calls.regrown_of (span_right_on x y _ HR.out _))) | quiet_step (first | (go_at_call 33; exact Calls.regrown_of (span_right_on x y _ HR.out _)))))
          refine wpQuiet_nil ?_
          intro w3 hq
          have b3 : Below w2.heap.size w2 w3 := by obtain ⟨p, hq⟩ := hq; rw [hq]; exact below_regrown _ _ _
          clear hq qP_0 qP_1 qP_2
          have d3 : Below w2.heap.size w2 w3 := below_step (by repeat (first | exact Below.refl _ _ | refine below_drewN ?_ _ | refine Below.drew ?_ | refine Below.setCell ?_ (by first | (simp; done) | (simp; omega) | omega) _ | refine Below.alloc ?_ (by first | (simp; done) | (simp; omega) | omega) _)) b3
          have B3 := Lib.hid (below_step B2.out d3)
          have P3 := P2.keep d3
          clear P2 b3 d3 B2
          go_wp2
          go_ret; exact ⟨by rw [E.out]; rfl, B3.out⟩
        · cases ht : decide (t ≤ x)
          · have E := Lib.hid (show ans = false by rw [← hd, hr]; simp only [ht]; rfl)
            have HR := Lib.hid hr
            have HT := Lib.hid ht
            have gt := (show decide (x < t) = true from decide_eq_true (by have := of_decide_eq_false ht; omega))
            clear hr hd ht
            go_wp2_with fail
            refine wp_named ?_; intro w2 hw2
            have d2 : Below w1.heap.size w1 w2 := by rw [hw2]; exact (by repeat (first | exact Below.refl _ _ | refine below_drewN ?_ _ | refine Below.drew ?_ | refine Below.setCell ?_ (by first | (simp; done) | (simp; omega) | omega) _ | refine Below.alloc ?_ (by first | (simp; done) | (simp; omega) | omega) _))
            have B2 := Lib.hid (below_step B1.out d2)
            have aP := B1.out.size
            have P2 : Bk3 w2 (w1.heap.size) (.int .i64 x) (.int .i64 y) (.int .i64 z) := by rw [hw2]; exact ⟨by simp <;> omega, by intro j; simp [go_sem], by simp [go_sem], by simp [go_sem], by simp [go_sem]⟩
            clear d2 hw2 B1
            have q2 := cell_regrown (q.out _ B2.out)
            have cP_b := P2.hb
            have cP_f := P2.fz
            have cP_0 := P2.k0
            have cP_1 := P2.k1
            have cP_2 := P2.k2
            go_wp2_with fail
            clear cP_b cP_f cP_0 cP_1 cP_2
            have qP_0 := cell_regrown P2.k0
            have qP_1 := cell_regrown P2.k1
            have qP_2 := cell_regrown P2.k2
            refine wp_region_qb (w := w2) (by kernel_rfl) (by kernel_rfl) (by repeat (first | exact Below.refl _ _ | refine below_drewN ?_ _ | refine Below.drew ?_ | refine Below.setCell ?_ (by first | (simp; done) | (simp; omega) | omega) _ | refine Below.alloc ?_ (by first | (simp; done) | (simp; omega) | omega) _)) ?_
            repeat (any_goals (first | go_big_quiet_step (first | (go_at_call 33; exact Calls.regrown_of (span_right_on x y _ HR.out _))) | quiet_step (first | (go_at_call 33; exact Calls.regrown_of (span_right_on x y _ HR.out _)))))
            refine wpQuiet_nil ?_
            intro w3 hq
            have b3 : Below w2.heap.size w2 w3 := by obtain ⟨p, hq⟩ := hq; rw [hq]; exact below_regrown _ _ _
            clear hq qP_0 qP_1 qP_2
            have d3 : Below w2.heap.size w2 w3 := below_step (by repeat (first | exact Below.refl _ _ | refine below_drewN ?_ _ | refine Below.drew ?_ | refine Below.setCell ?_ (by first | (simp; done) | (simp; omega) | omega) _ | refine Below.alloc ?_ (by first | (simp; done) | (simp; omega) | omega) _)) b3
            have B3 := Lib.hid (below_step B2.out d3)
            have P3 := P2.keep d3
            clear P2 b3 d3 B2
            go_wp2
            go_ret; exact ⟨by rw [E.out]; rfl, B3.out⟩
            skip
          · have E := Lib.hid (show Mn.rt (some y) (l.drop (k + 1)) = ans by rw [← hd, hr]; simp only [ht]; rfl)
            have HR := Lib.hid hr
            have HT := Lib.hid ht
            have gt := (show decide (x < t) = false from decide_eq_false (by have := of_decide_eq_true ht; omega))
            clear hr hd ht
            go_wp2_with fail
            refine wp_named ?_; intro w2 hw2
            have d2 : Below w1.heap.size w1 w2 := by rw [hw2]; exact (by repeat (first | exact Below.refl _ _ | refine below_drewN ?_ _ | refine Below.drew ?_ | refine Below.setCell ?_ (by first | (simp; done) | (simp; omega) | omega) _ | refine Below.alloc ?_ (by first | (simp; done) | (simp; omega) | omega) _))
            have B2 := Lib.hid (below_step B1.out d2)
            have aP := B1.out.size
            have P2 : Bk3 w2 (w1.heap.size) (.int .i64 x) (.int .i64 y) (.int .i64 z) := by rw [hw2]; exact ⟨by simp <;> omega, by intro j; simp [go_sem], by simp [go_sem], by simp [go_sem], by simp [go_sem]⟩
            clear d2 hw2 B1
            have q2 := cell_regrown (q.out _ B2.out)
            have cP_b := P2.hb
            have cP_f := P2.fz
            have cP_0 := P2.k0
            have cP_1 := P2.k1
            have cP_2 := P2.k2
            go_wp2_with fail
            clear cP_b cP_f cP_0 cP_1 cP_2
            have qP_0 := cell_regrown P2.k0
            have qP_1 := cell_regrown P2.k1
            have qP_2 := cell_regrown P2.k2
            refine wp_region_qb (w := w2) (by kernel_rfl) (by kernel_rfl) (by repeat (first | exact Below.refl _ _ | refine below_drewN ?_ _ | refine Below.drew ?_ | refine Below.setCell ?_ (by first | (simp; done) | (simp; omega) | omega) _ | refine Below.alloc ?_ (by first | (simp; done) | (simp; omega) | omega) _)) ?_
            repeat (any_goals (first | go_big_quiet_step (first | (go_at_call 33; exact Calls.regrown_of (span_right_on x y _ HR.out _))) | quiet_step (first | (go_at_call 33; exact Calls.regrown_of (span_right_on x y _ HR.out _)))))
            refine wpQuiet_nil ?_
            intro w3 hq
            have b3 : Below w2.heap.size w2 w3 := by obtain ⟨p, hq⟩ := hq; rw [hq]; exact below_regrown _ _ _
            clear hq qP_0 qP_1 qP_2
            have d3 : Below w2.heap.size w2 w3 := below_step (by repeat (first | exact Below.refl _ _ | refine below_drewN ?_ _ | refine Below.drew ?_ | refine Below.setCell ?_ (by first | (simp; done) | (simp; omega) | omega) _ | refine Below.alloc ?_ (by first | (simp; done) | (simp; omega) | omega) _)) b3
            have B3 := Lib.hid (below_step B2.out d3)
            have P3 := P2.keep d3
            clear P2 b3 d3 B2
            go_wp2
            go_roundw; case rel => exact ⟨k + 1, some y, by omega, by go_num, B3.out, E, Lib.hid (NX.out _ rfl)⟩
            case measure => simp [intOf]; omega
    · have E := Lib.hid (show ans = true by rw [← hinv.out, List.drop_of_length_le (by rw [HN.out]; omega)]; rfl)
      clear hinv hprev
      go_wp2
      go_ret
      exact ⟨by rw [E.out]; rfl, B1.out⟩
end Go.Proofs.Ytnfjdjfajkdiiaa

