/- Infos: whether they are sound: the contract of the program's Sound. -/
import Derived.Test.YtmnmmbeageddkaaIfA
import Derived.Test.YtmnmmbeageddkaaMnA0
set_option linter.unusedVariables false
set_option linter.unusedSimpArgs false
namespace Go.Proofs.Ytmnmmbeageddkaa
open Go.RowKit Go.Sort

namespace If
/-- Are infos sound, behind one? -/
def so : Option I → List I → Bool
  | _, [] => true
  | o, p :: r => Sp.rb p.1 p.2.1 && (match o with | none => true | some q => sm q p) && so (some p) r
theorem so_drop (o : Option I) (l : List I) (k : Nat) (h : k < l.length) : so o (l.drop k) = (Sp.rb l[k].1 l[k].2.1 && (match o with | none => true | some q => sm q l[k]) && so (some l[k]) (l.drop (k + 1))) := by
  rw [List.drop_eq_getElem_cons h]; rfl
end If
theorem seam_is_on (a0 a1 a2 a3 : Int) (a4 : ByteArray) (b0 b1 b2 b3 : Int) (b4 : ByteArray) (b : Bool) (h : If.sm (a0, a1, a2, a3, a4) (b0, b1, b2, b3, b4) = b) (w : World) :
    Calls Try.prog 53 #[.agg #[.int .i64 a0, .int .i64 a1, .int .i64 a2, .int .i64 a3, .string a4], .agg #[.int .i64 b0, .int .i64 b1, .int .i64 b2, .int .i64 b3, .string b4]] w fun e w' => e = .returned (.bool b) ∧ Below w.heap.size w w' := by
  rw [← h]; exact seam_is a0 a1 a2 a3 a4 b0 b1 b2 b3 b4 w
set_option maxHeartbeats 8000000 in
theorem seam_sound (v : Value) (l : List If.I) (w : World) (h : InV w v l) (hm : l.length ≤ 1000000) :
    Calls Try.prog 25 #[v] w fun e w' => e = .returned (.bool (If.so none l)) ∧ Below w.heap.size w w' := by
  have H := Lib.hid h
  obtain ⟨A, c, rfl, -⟩ := h
  obtain ⟨n, hn⟩ : ∃ n, l.length = n := ⟨_, rfl⟩
  rw [hn] at hm H ⊢
  have HN := Lib.hid hn
  clear hn
  obtain ⟨ans, hans⟩ : ∃ ans, ans = If.so none l := ⟨_, rfl⟩
  rw [← hans]
  have HA := Lib.hid hans.symm
  clear hans
  go_enter Try.func25, Try.ntmps25
  go_wp2
  go_loopw [7] (fun i wr => ∃ (k : Nat) (o : Option If.I), k ≤ n ∧ i = .int .i64 k ∧ Below w.heap.size w wr ∧ Hid (If.so o (l.drop k) = ans) ∧ Hid ((k = 0 ∧ o = none) ∨ ∃ h : k - 1 < l.length, 0 < k ∧ o = some l[k - 1])) (fun i _ => n - (intOf i).toNat)
  case atStart => exact ⟨0, none, Nat.zero_le _, rfl, Below.refl _ _, HA, Lib.hid (.inl ⟨rfl, rfl⟩)⟩
  case round =>
    rename World => w1
    obtain ⟨k, o, hk, rfl, B, hinv, hprev⟩ := hrel
    have B1 := Lib.hid B
    have H1 := Lib.hid (H.out.on B)
    clear B
    by_cases hlt : k < n
    · have hkl : k < l.length := by rw [HN.out]; exact hlt
      have hd := hinv.out
      rw [If.so_drop o l k hkl] at hd
      obtain ⟨a, rfl, hab, g1, g2, g3, g4, g5⟩ := H1.out.get k hkl
      have NX := Lib.hid (show ∀ o, o = some l[k] → (k + 1 = 0 ∧ o = none) ∨ ∃ h : k + 1 - 1 < l.length, 0 < k + 1 ∧ o = some l[k + 1 - 1] from fun o ho => .inr ⟨hkl, by omega, ho⟩)
      have HP : Hid (o = none ∧ k = 0 ∨ ∃ (t : If.I) (j : Nat), o = some t ∧ k = j + 1 ∧ Hid (∀ W, Below w.heap.size w W → W.cell? (a.add (j * 5)) = some (.int .i64 t.1) ∧ W.cell? ⟨(a.add (j * 5)).block, (a.add (j * 5)).off + 1, none⟩ = some (.int .i64 t.2.1) ∧ W.cell? ⟨(a.add (j * 5)).block, (a.add (j * 5)).off + 2, none⟩ = some (.int .i64 t.2.2.1) ∧ W.cell? ⟨(a.add (j * 5)).block, (a.add (j * 5)).off + 3, none⟩ = some (.int .i64 t.2.2.2.1) ∧ W.cell? ⟨(a.add (j * 5)).block, (a.add (j * 5)).off + 4, none⟩ = some (.string t.2.2.2.2))) := Lib.hid (by
        rcases hprev.out with ⟨h0, h1⟩ | ⟨hp, h0, h1⟩
        · exact .inl ⟨h1, h0⟩
        · refine .inr ⟨_, k - 1, h1, by omega, Lib.hid fun W hW => ?_⟩
          obtain ⟨a', ha, -, r⟩ := (H.out.on hW).get (k - 1) hp
          cases ha
          exact r)
      clear hinv hprev
      generalize l[k] = p at *
      obtain ⟨x0, x1, x2, x3, x4⟩ := p
      dsimp only at g1 g2 g3 g4 g5 hd
      have i1 : (k : Int) < n := by omega
      rcases HP.out with ⟨rfl, hk0⟩ | ⟨t, j, rfl, hkj, q⟩
      · have gk : decide (0 < k) = false := decide_eq_false (by omega)
        clear HP hk0
        cases hr : Sp.rb x0 x1
        · have E := Lib.hid (show ans = false by rw [← hd, hr]; rfl)
          have HR := Lib.hid hr
          clear hr hd
          go_wp2_with fail
          refine wp_named ?_; intro w2 hw2
          have d2 : Below w1.heap.size w1 w2 := by rw [hw2]; exact (by repeat (first | exact Below.refl _ _ | refine below_drewN ?_ _ | refine Below.drew ?_ | refine Below.setCell ?_ (by first | (simp; done) | (simp; omega) | omega) _ | refine Below.alloc ?_ (by first | (simp; done) | (simp; omega) | omega) _))
          have B2 := Lib.hid (below_step B1.out d2)
          have aP := B1.out.size
          have P2 : Bk5 w2 (w1.heap.size) (.int .i64 x0) (.int .i64 x1) (.int .i64 x2) (.int .i64 x3) (.string x4) := by rw [hw2]; exact ⟨by simp <;> omega, by intro j; simp [go_sem], by simp [go_sem], by simp [go_sem], by simp [go_sem], by simp [go_sem], by simp [go_sem]⟩
          clear d2 hw2 B1
          have cP_b := P2.hb
          have cP_f := P2.fz
          have cP_0 := P2.k0
          have cP_1 := P2.k1
          have cP_2 := P2.k2
          have cP_3 := P2.k3
          have cP_4 := P2.k4
          go_wp2_with fail
          clear cP_b cP_f cP_0 cP_1 cP_2 cP_3 cP_4
          have qP_0 := cell_regrown P2.k0
          have qP_1 := cell_regrown P2.k1
          have qP_2 := cell_regrown P2.k2
          have qP_3 := cell_regrown P2.k3
          have qP_4 := cell_regrown P2.k4
          refine wp_region_qb (w := w2) (by kernel_rfl) (by kernel_rfl) (by repeat (first | exact Below.refl _ _ | refine below_drewN ?_ _ | refine Below.drew ?_ | refine Below.setCell ?_ (by first | (simp; done) | (simp; omega) | omega) _ | refine Below.alloc ?_ (by first | (simp; done) | (simp; omega) | omega) _)) ?_
          repeat (any_goals (first | go_big_quiet_step (first | (go_at_call 37; exact Calls.regrown_of (span_right_on x0 x1 _ HR.out _))) | quiet_step (first | (go_at_call 37; exact Calls.regrown_of (span_right_on x0 x1 _ HR.out _)))))
          refine wpQuiet_nil ?_
          intro w3 hq
          have b3 : Below w2.heap.size w2 w3 := by obtain ⟨p, hq⟩ := hq; rw [hq]; exact below_regrown _ _ _
          clear hq qP_0 qP_1 qP_2 qP_3 qP_4
          have d3 : Below w2.heap.size w2 w3 := below_step (by repeat (first | exact Below.refl _ _ | refine below_drewN ?_ _ | refine Below.drew ?_ | refine Below.setCell ?_ (by first | (simp; done) | (simp; omega) | omega) _ | refine Below.alloc ?_ (by first | (simp; done) | (simp; omega) | omega) _)) b3
          have B3 := Lib.hid (below_step B2.out d3)
          have P3 := P2.keep d3
          clear P2 b3 d3 B2
          go_wp2
          go_ret; exact ⟨by rw [E.out]; rfl, B3.out⟩
          skip
        · have E := Lib.hid (show If.so (some (x0, x1, x2, x3, x4)) (l.drop (k + 1)) = ans by rw [← hd, hr]; rfl)
          have HR := Lib.hid hr
          clear hr hd
          go_wp2_with fail
          refine wp_named ?_; intro w2 hw2
          have d2 : Below w1.heap.size w1 w2 := by rw [hw2]; exact (by repeat (first | exact Below.refl _ _ | refine below_drewN ?_ _ | refine Below.drew ?_ | refine Below.setCell ?_ (by first | (simp; done) | (simp; omega) | omega) _ | refine Below.alloc ?_ (by first | (simp; done) | (simp; omega) | omega) _))
          have B2 := Lib.hid (below_step B1.out d2)
          have aP := B1.out.size
          have P2 : Bk5 w2 (w1.heap.size) (.int .i64 x0) (.int .i64 x1) (.int .i64 x2) (.int .i64 x3) (.string x4) := by rw [hw2]; exact ⟨by simp <;> omega, by intro j; simp [go_sem], by simp [go_sem], by simp [go_sem], by simp [go_sem], by simp [go_sem], by simp [go_sem]⟩
          clear d2 hw2 B1
          have cP_b := P2.hb
          have cP_f := P2.fz
          have cP_0 := P2.k0
          have cP_1 := P2.k1
          have cP_2 := P2.k2
          have cP_3 := P2.k3
          have cP_4 := P2.k4
          go_wp2_with fail
          clear cP_b cP_f cP_0 cP_1 cP_2 cP_3 cP_4
          have qP_0 := cell_regrown P2.k0
          have qP_1 := cell_regrown P2.k1
          have qP_2 := cell_regrown P2.k2
          have qP_3 := cell_regrown P2.k3
          have qP_4 := cell_regrown P2.k4
          refine wp_region_qb (w := w2) (by kernel_rfl) (by kernel_rfl) (by repeat (first | exact Below.refl _ _ | refine below_drewN ?_ _ | refine Below.drew ?_ | refine Below.setCell ?_ (by first | (simp; done) | (simp; omega) | omega) _ | refine Below.alloc ?_ (by first | (simp; done) | (simp; omega) | omega) _)) ?_
          repeat (any_goals (first | go_big_quiet_step (first | (go_at_call 37; exact Calls.regrown_of (span_right_on x0 x1 _ HR.out _))) | quiet_step (first | (go_at_call 37; exact Calls.regrown_of (span_right_on x0 x1 _ HR.out _)))))
          refine wpQuiet_nil ?_
          intro w3 hq
          have b3 : Below w2.heap.size w2 w3 := by obtain ⟨p, hq⟩ := hq; rw [hq]; exact below_regrown _ _ _
          clear hq qP_0 qP_1 qP_2 qP_3 qP_4
          have d3 : Below w2.heap.size w2 w3 := below_step (by repeat (first | exact Below.refl _ _ | refine below_drewN ?_ _ | refine Below.drew ?_ | refine Below.setCell ?_ (by first | (simp; done) | (simp; omega) | omega) _ | refine Below.alloc ?_ (by first | (simp; done) | (simp; omega) | omega) _)) b3
          have B3 := Lib.hid (below_step B2.out d3)
          have P3 := P2.keep d3
          clear P2 b3 d3 B2
          go_wp2
          go_roundw; case rel => exact ⟨k + 1, some (x0, x1, x2, x3, x4), by omega, by go_num, B3.out, E, Lib.hid (NX.out _ rfl)⟩
          case measure => simp [intOf]; omega
      · have gk : decide (0 < k) = true := decide_eq_true (by omega)
        have ek : (k : Int) - 1 = (j : Int) := by omega
        have hj : (j : Int) < n := by omega
        have hjn : decide (j < n) = true := decide_eq_true (by omega)
        clear HP hkj
        obtain ⟨t0, t1, t2, t3, t4⟩ := t
        cases hr : Sp.rb x0 x1
        · have E := Lib.hid (show ans = false by rw [← hd, hr]; rfl)
          have HR := Lib.hid hr
          clear hr hd
          go_wp2_with fail
          refine wp_named ?_; intro w2 hw2
          have d2 : Below w1.heap.size w1 w2 := by rw [hw2]; exact (by repeat (first | exact Below.refl _ _ | refine below_drewN ?_ _ | refine Below.drew ?_ | refine Below.setCell ?_ (by first | (simp; done) | (simp; omega) | omega) _ | refine Below.alloc ?_ (by first | (simp; done) | (simp; omega) | omega) _))
          have B2 := Lib.hid (below_step B1.out d2)
          have aP := B1.out.size
          have P2 : Bk5 w2 (w1.heap.size) (.int .i64 x0) (.int .i64 x1) (.int .i64 x2) (.int .i64 x3) (.string x4) := by rw [hw2]; exact ⟨by simp <;> omega, by intro j; simp [go_sem], by simp [go_sem], by simp [go_sem], by simp [go_sem], by simp [go_sem], by simp [go_sem]⟩
          clear d2 hw2 B1
          have cP_b := P2.hb
          have cP_f := P2.fz
          have cP_0 := P2.k0
          have cP_1 := P2.k1
          have cP_2 := P2.k2
          have cP_3 := P2.k3
          have cP_4 := P2.k4
          go_wp2_with fail
          clear cP_b cP_f cP_0 cP_1 cP_2 cP_3 cP_4
          have qP_0 := cell_regrown P2.k0
          have qP_1 := cell_regrown P2.k1
          have qP_2 := cell_regrown P2.k2
          have qP_3 := cell_regrown P2.k3
          have qP_4 := cell_regrown P2.k4
          refine wp_region_qb (w := w2) (by kernel_rfl) (by kernel_rfl) (by repeat (first | exact Below.refl _ _ | refine below_drewN ?_ _ | refine Below.drew ?_ | refine Below.setCell ?_ (by first | (simp; done) | (simp; omega) | omega) _ | refine Below.alloc ?_ (by first | (simp; done) | (simp; omega) | omega) _)) ?_
          repeat (any_goals (first | go_big_quiet_step (first | (go_at_call 37; exact Calls.regrown_of (span_right_on x0 x1 _ HR.out _))) | quiet_step (first | (go_at_call 37; exact Calls.regrown_of (span_right_on x0 x1 _ HR.out _)))))
          refine wpQuiet_nil ?_
          intro w3 hq
          have b3 : Below w2.heap.size w2 w3 := by obtain ⟨p, hq⟩ := hq; rw [hq]; exact below_regrown _ _ _
          clear hq qP_0 qP_1 qP_2 qP_3 qP_4
          have d3 : Below w2.heap.size w2 w3 := below_step (by repeat (first | exact Below.refl _ _ | refine below_drewN ?_ _ | refine Below.drew ?_ | refine Below.setCell ?_ (by first | (simp; done) | (simp; omega) | omega) _ | refine Below.alloc ?_ (by first | (simp; done) | (simp; omega) | omega) _)) b3
          have B3 := Lib.hid (below_step B2.out d3)
          have P3 := P2.keep d3
          clear P2 b3 d3 B2
          go_wp2
          go_ret; exact ⟨by rw [E.out]; rfl, B3.out⟩
        · cases ht : If.sm (t0, t1, t2, t3, t4) (x0, x1, x2, x3, x4)
          · have E := Lib.hid (show ans = false by rw [← hd, hr]; simp only [ht]; rfl)
            have HR := Lib.hid hr
            have HT := Lib.hid ht
            clear hr hd ht
            go_wp2_with fail
            refine wp_named ?_; intro w2 hw2
            have d2 : Below w1.heap.size w1 w2 := by rw [hw2]; exact (by repeat (first | exact Below.refl _ _ | refine below_drewN ?_ _ | refine Below.drew ?_ | refine Below.setCell ?_ (by first | (simp; done) | (simp; omega) | omega) _ | refine Below.alloc ?_ (by first | (simp; done) | (simp; omega) | omega) _))
            have B2 := Lib.hid (below_step B1.out d2)
            have aP := B1.out.size
            have P2 : Bk5 w2 (w1.heap.size) (.int .i64 x0) (.int .i64 x1) (.int .i64 x2) (.int .i64 x3) (.string x4) := by rw [hw2]; exact ⟨by simp <;> omega, by intro j; simp [go_sem], by simp [go_sem], by simp [go_sem], by simp [go_sem], by simp [go_sem], by simp [go_sem]⟩
            clear d2 hw2 B1
            obtain ⟨m0, m1, m2, m3, m4⟩ := q.out _ B2.out
            have u0 := cell_regrown m0
            have u1 := cell_regrown m1
            have u2 := cell_regrown m2
            have u3 := cell_regrown m3
            have u4 := cell_regrown m4
            clear m0 m1 m2 m3 m4
            have cP_b := P2.hb
            have cP_f := P2.fz
            have cP_0 := P2.k0
            have cP_1 := P2.k1
            have cP_2 := P2.k2
            have cP_3 := P2.k3
            have cP_4 := P2.k4
            go_wp2_with fail
            clear cP_b cP_f cP_0 cP_1 cP_2 cP_3 cP_4
            have qP_0 := cell_regrown P2.k0
            have qP_1 := cell_regrown P2.k1
            have qP_2 := cell_regrown P2.k2
            have qP_3 := cell_regrown P2.k3
            have qP_4 := cell_regrown P2.k4
            refine wp_region_qb (w := w2) (by kernel_rfl) (by kernel_rfl) (by repeat (first | exact Below.refl _ _ | refine below_drewN ?_ _ | refine Below.drew ?_ | refine Below.setCell ?_ (by first | (simp; done) | (simp; omega) | omega) _ | refine Below.alloc ?_ (by first | (simp; done) | (simp; omega) | omega) _)) ?_
            repeat (any_goals (first | go_big_quiet_step (first | (go_at_call 37; exact Calls.regrown_of (span_right_on x0 x1 _ HR.out _)) | (go_at_call 53; exact Calls.regrown_of (seam_is_on t0 t1 t2 t3 t4 x0 x1 x2 x3 x4 _ HT.out _))) | quiet_step (first | (go_at_call 37; exact Calls.regrown_of (span_right_on x0 x1 _ HR.out _)) | (go_at_call 53; exact Calls.regrown_of (seam_is_on t0 t1 t2 t3 t4 x0 x1 x2 x3 x4 _ HT.out _)))))
            refine wpQuiet_nil ?_
            intro w3 hq
            have b3 : Below w2.heap.size w2 w3 := by obtain ⟨p, hq⟩ := hq; rw [hq]; exact below_regrown _ _ _
            clear hq qP_0 qP_1 qP_2 qP_3 qP_4
            have d3 : Below w2.heap.size w2 w3 := below_step (by repeat (first | exact Below.refl _ _ | refine below_drewN ?_ _ | refine Below.drew ?_ | refine Below.setCell ?_ (by first | (simp; done) | (simp; omega) | omega) _ | refine Below.alloc ?_ (by first | (simp; done) | (simp; omega) | omega) _)) b3
            have B3 := Lib.hid (below_step B2.out d3)
            have P3 := P2.keep d3
            clear P2 b3 d3 B2
            go_wp2
            go_ret; exact ⟨by rw [E.out]; rfl, B3.out⟩
            skip
          · have E := Lib.hid (show If.so (some (x0, x1, x2, x3, x4)) (l.drop (k + 1)) = ans by rw [← hd, hr]; simp only [ht]; rfl)
            have HR := Lib.hid hr
            have HT := Lib.hid ht
            clear hr hd ht
            go_wp2_with fail
            refine wp_named ?_; intro w2 hw2
            have d2 : Below w1.heap.size w1 w2 := by rw [hw2]; exact (by repeat (first | exact Below.refl _ _ | refine below_drewN ?_ _ | refine Below.drew ?_ | refine Below.setCell ?_ (by first | (simp; done) | (simp; omega) | omega) _ | refine Below.alloc ?_ (by first | (simp; done) | (simp; omega) | omega) _))
            have B2 := Lib.hid (below_step B1.out d2)
            have aP := B1.out.size
            have P2 : Bk5 w2 (w1.heap.size) (.int .i64 x0) (.int .i64 x1) (.int .i64 x2) (.int .i64 x3) (.string x4) := by rw [hw2]; exact ⟨by simp <;> omega, by intro j; simp [go_sem], by simp [go_sem], by simp [go_sem], by simp [go_sem], by simp [go_sem], by simp [go_sem]⟩
            clear d2 hw2 B1
            obtain ⟨m0, m1, m2, m3, m4⟩ := q.out _ B2.out
            have u0 := cell_regrown m0
            have u1 := cell_regrown m1
            have u2 := cell_regrown m2
            have u3 := cell_regrown m3
            have u4 := cell_regrown m4
            clear m0 m1 m2 m3 m4
            have cP_b := P2.hb
            have cP_f := P2.fz
            have cP_0 := P2.k0
            have cP_1 := P2.k1
            have cP_2 := P2.k2
            have cP_3 := P2.k3
            have cP_4 := P2.k4
            go_wp2_with fail
            clear cP_b cP_f cP_0 cP_1 cP_2 cP_3 cP_4
            have qP_0 := cell_regrown P2.k0
            have qP_1 := cell_regrown P2.k1
            have qP_2 := cell_regrown P2.k2
            have qP_3 := cell_regrown P2.k3
            have qP_4 := cell_regrown P2.k4
            refine wp_region_qb (w := w2) (by kernel_rfl) (by kernel_rfl) (by repeat (first | exact Below.refl _ _ | refine below_drewN ?_ _ | refine Below.drew ?_ | refine Below.setCell ?_ (by first | (simp; done) | (simp; omega) | omega) _ | refine Below.alloc ?_ (by first | (simp; done) | (simp; omega) | omega) _)) ?_
            repeat (any_goals (first | go_big_quiet_step (first | (go_at_call 37; exact Calls.regrown_of (span_right_on x0 x1 _ HR.out _)) | (go_at_call 53; exact Calls.regrown_of (seam_is_on t0 t1 t2 t3 t4 x0 x1 x2 x3 x4 _ HT.out _))) | quiet_step (first | (go_at_call 37; exact Calls.regrown_of (span_right_on x0 x1 _ HR.out _)) | (go_at_call 53; exact Calls.regrown_of (seam_is_on t0 t1 t2 t3 t4 x0 x1 x2 x3 x4 _ HT.out _)))))
            refine wpQuiet_nil ?_
            intro w3 hq
            have b3 : Below w2.heap.size w2 w3 := by obtain ⟨p, hq⟩ := hq; rw [hq]; exact below_regrown _ _ _
            clear hq qP_0 qP_1 qP_2 qP_3 qP_4
            have d3 : Below w2.heap.size w2 w3 := below_step (by repeat (first | exact Below.refl _ _ | refine below_drewN ?_ _ | refine Below.drew ?_ | refine Below.setCell ?_ (by first | (simp; done) | (simp; omega) | omega) _ | refine Below.alloc ?_ (by first | (simp; done) | (simp; omega) | omega) _)) b3
            have B3 := Lib.hid (below_step B2.out d3)
            have P3 := P2.keep d3
            clear P2 b3 d3 B2
            go_wp2
            go_roundw; case rel => exact ⟨k + 1, some (x0, x1, x2, x3, x4), by omega, by go_num, B3.out, E, Lib.hid (NX.out _ rfl)⟩
            case measure => simp [intOf]; omega
    · have E := Lib.hid (show ans = true by rw [← hinv.out, List.drop_of_length_le (by rw [HN.out]; omega)]; rfl)
      clear hinv hprev
      go_wp2
      go_ret
      exact ⟨by rw [E.out]; rfl, B1.out⟩
end Go.Proofs.Ytmnmmbeageddkaa

