/- Joined: AwG. -/
import Derived.Test.YtjnhaabbnbcaeaaBx14
import Derived.Test.YtjnhaabbnbcaeaaBx10
import Derived.Test.YtjnhaabbnbcaeaaBx15
/- Rules far enough from each other: the life. -/
set_option linter.unusedVariables false
set_option linter.unusedSimpArgs false
namespace Go.Proofs.Ytjnhaabbnbcaeaa
open Go.RowKit Go.Sort Go.Pairs
theorem us_cells {W : World} {b : Nat} {l : List Aw.R} {n c : Nat} (h : RuV W (.slice (some ⟨b, 0, none⟩) n c) l) (hl : 0 < l.length) : ∀ j u, (Aw.rcs l)[j]? = some u → W.cell? ⟨b, j, none⟩ = some u := by
  obtain ⟨A', c', hv, ha⟩ := h
  obtain ⟨a, e0, hb, hc⟩ := ha hl
  cases hv
  injection e0 with e0
  subst e0
  intro j u hu
  have := hc j u hu
  have ad : (⟨b, 0, none⟩ : Addr).add j = ⟨b, j, none⟩ := by
    unfold Addr.add
    by_cases h : j = 0
    · subst h; rfl
    · simp [h]
  rwa [ad] at this
theorem rules_src {W : World} {a : Addr} {l : List Aw.R} {n c : Nat} (h : RuV W (.slice (some a) n c) l) (hl : 0 < l.length) : ∀ j u, (Aw.rcs l)[j]? = some u → W.cell? (a.add j) = some u := by
  obtain ⟨A', c', hv, ha⟩ := h
  obtain ⟨a', e0, -, hc⟩ := ha hl
  cases hv
  injection e0 with e0
  subst e0
  exact hc
set_option maxRecDepth 100000 in
theorem list_rules (w : World) (l : List Aw.R) (t : TypeId) (W : World) (hW : W = w.alloc (.cells (Aw.rcs l).toArray t)) : RuV W (.slice (some ⟨w.heap.size, 0, none⟩) l.length l.length) l := by
  have ad : ∀ i, (⟨w.heap.size, 0, none⟩ : Addr).add i = ⟨w.heap.size, i, none⟩ := fun i => by
    unfold Addr.add
    by_cases h : i = 0
    · subst h; rfl
    · simp [h]
  refine ⟨some ⟨w.heap.size, 0, none⟩, l.length, rfl, fun _ => ⟨_, rfl, by rw [hW]; simp, fun j u hu => ?_⟩⟩
  have hb : W.heap[w.heap.size]? = some (.cells (Aw.rcs l).toArray t (0, 0)) := by rw [hW]; exact Array.getElem?_push_size ..
  rw [ad, Lib.cell_of_heap hb]
  generalize Aw.rcs l = xs at *
  rw [List.getElem?_toArray]; exact hu
theorem aw_vals : Aw.lo (⟨#[69, 85]⟩, 1981, 32767, 3, 1, 0, 0, 3600, 2, 3600, ⟨#[83]⟩) = 7174800 ∧ Aw.hi (⟨#[69, 85]⟩, 1981, 32767, 3, 1, 0, 0, 3600, 2, 3600, ⟨#[83]⟩) = 7693200 ∧ Aw.wy (⟨#[69, 85]⟩, 1981, 32767, 3, 1, 0, 0, 3600, 2, 3600, ⟨#[83]⟩) = 0 ∧ Aw.lo (⟨#[]⟩, 0, 0, 0, 0, 0, 0, 0, 0, 0, ⟨#[]⟩) = 0 ∧ Aw.hi (⟨#[]⟩, 0, 0, 0, 0, 0, 0, 0, 0, 0, ⟨#[]⟩) = 0 ∧ Aw.wy (⟨#[]⟩, 0, 0, 0, 0, 0, 0, 0, 0, 0, ⟨#[]⟩) = 4 := by decide +kernel
theorem aw_ck : Aw.ck [] [(⟨#[85, 83]⟩, 2007, 32767, 3, 2, 0, 8, 7200, 0, 3600, ⟨#[68]⟩), (⟨#[69, 85]⟩, 1981, 32767, 3, 1, 0, 0, 3600, 2, 3600, ⟨#[83]⟩), (⟨#[85, 83]⟩, 2007, 32767, 11, 2, 0, 1, 7200, 0, 0, ⟨#[83]⟩), (⟨#[69, 85]⟩, 1981, 32767, 4, 0, 0, 1, 3600, 2, 3600, ⟨#[83]⟩)] = (3, 15) ∧ Aw.ck [] (Aw.us ++ [(⟨#[69, 85]⟩, 1981, 32767, 3, 1, 0, 0, 3600, 2, 3600, ⟨#[83]⟩)]) = (-1, 0) := by decide +kernel
theorem aw_pr : Aw.pr (Aw.rc (⟨#[85, 83]⟩, 2007, 32767, 3, 2, 0, 8, 7200, 0, 3600, ⟨#[68]⟩)) (Aw.rc (⟨#[85, 83]⟩, 2007, 32767, 11, 2, 0, 1, 7200, 0, 0, ⟨#[83]⟩)) = 0 ∧ Aw.pr (Aw.rc (⟨#[69, 85]⟩, 1981, 32767, 3, 1, 0, 0, 3600, 2, 3600, ⟨#[83]⟩)) (Aw.rc (⟨#[69, 85]⟩, 1981, 32767, 4, 0, 0, 1, 3600, 2, 3600, ⟨#[83]⟩)) = 15 ∧ Aw.pr (Aw.rc (⟨#[69, 85]⟩, 1992, 32767, 4, 0, 0, 1, 3600, 2, 3600, ⟨#[83]⟩)) (Aw.rc (⟨#[69, 85]⟩, 1981, 1990, 3, 1, 0, 0, 3600, 2, 3600, ⟨#[83]⟩)) = 0 ∧ Aw.pr (Aw.rc (⟨#[69, 85]⟩, 1981, 32767, 3, 1, 0, 0, 3600, 2, 3600, ⟨#[83]⟩)) (Aw.rc (⟨#[]⟩, 0, 0, 0, 0, 0, 0, 0, 0, 0, ⟨#[]⟩)) = 4 := by decide +kernel
set_option maxHeartbeats 8000000 in
set_option maxRecDepth 100000 in
theorem lives27 (w : World) : Calls Try.prog 5 #[] w fun e w' => e = .returned (.bool true) ∧ Below w.heap.size w w' := by
  have W1 := Lib.hid (fun W => awindow_any ⟨#[69, 85]⟩ 1981 32767 3 1 0 0 3600 2 3600 ⟨#[83]⟩ W (by decide) (by decide))
  have W2 := Lib.hid (fun W => awindow_any ⟨#[]⟩ 0 0 0 0 0 0 0 0 0 ⟨#[]⟩ W (by decide) (by decide))
  simp only [aw_vals.1, aw_vals.2.1, aw_vals.2.2.1, aw_vals.2.2.2.1, aw_vals.2.2.2.2.1, aw_vals.2.2.2.2.2] at W1 W2
  go_enter Try.func5, Try.ntmps5
  go_wp2_with fail
  refine (us_any _).mono ?_; rintro e w1 ⟨rfl, U1, b1⟩
  have B1 := Lib.hid (below_step (by repeat (first | exact Below.refl _ _ | refine below_drewN ?_ _ | refine Below.drew ?_ | refine Below.setCell ?_ (by first | (simp; done) | (simp; omega) | omega) _ | refine Below.alloc ?_ (by first | (simp; done) | (simp; omega) | omega) _)) b1)
  have U1 := Lib.hid U1
  clear b1
  go_wp2_with fail
  refine (eu_any _).mono ?_; rintro e w2 ⟨rfl, b2⟩
  have d2 : Below w1.heap.size w1 w2 := below_step (by repeat (first | exact Below.refl _ _ | refine below_drewN ?_ _ | refine Below.drew ?_ | refine Below.setCell ?_ (by first | (simp; done) | (simp; omega) | omega) _ | refine Below.alloc ?_ (by first | (simp; done) | (simp; omega) | omega) _)) b2
  have B2 := Lib.hid (below_step B1.out d2)
  have U2 := Lib.hid (U1.out.on d2)
  go_upto_region 3 with (fail)
  refine wp_named ?_; intro w3 hw3
  have d3 : Below w2.heap.size w2 w3 := by rw [hw3]; exact (by repeat (first | exact Below.refl _ _ | refine below_drewN ?_ _ | refine Below.drew ?_ | refine Below.setCell ?_ (by first | (simp; done) | (simp; omega) | omega) _ | refine Below.alloc ?_ (by first | (simp; done) | (simp; omega) | omega) _))
  have B3 := Lib.hid (below_step B2.out d3)
  have U3 := Lib.hid (U2.out.on d3)
  have X3 : Bk11 w3 w2.heap.size (.string ⟨#[69, 85]⟩) (.int .i64 1981) (.int .i64 32767) (.int .i64 3) (.int .i64 1) (.int .i64 0) (.int .i64 0) (.int .i64 3600) (.int .i64 2) (.int .i64 3600) (.string ⟨#[83]⟩) := by rw [hw3]; exact ⟨by simp <;> omega, by intro j; simp [go_sem], by simp [go_sem], by simp [go_sem], by simp [go_sem], by simp [go_sem], by simp [go_sem], by simp [go_sem], by simp [go_sem], by simp [go_sem], by simp [go_sem], by simp [go_sem], by simp [go_sem]⟩
  clear hw3 d3 d2 b2 B1 B2 U1 U2
  have cX_b := X3.hb
  have cX_f := X3.fz
  have cX_0 := X3.k0
  have cX_1 := X3.k1
  have cX_2 := X3.k2
  have cX_3 := X3.k3
  have cX_4 := X3.k4
  have cX_5 := X3.k5
  have cX_6 := X3.k6
  have cX_7 := X3.k7
  have cX_8 := X3.k8
  have cX_9 := X3.k9
  have cX_10 := X3.k10
  go_wp2_with fail
  clear cX_b cX_f cX_0 cX_1 cX_2 cX_3 cX_4 cX_5 cX_6 cX_7 cX_8 cX_9 cX_10
  refine (W1.out _).mono ?_; rintro e w4 ⟨rfl, b4⟩
  have d4 : Below w3.heap.size w3 w4 := below_step (by repeat (first | exact Below.refl _ _ | refine below_drewN ?_ _ | refine Below.drew ?_ | refine Below.setCell ?_ (by first | (simp; done) | (simp; omega) | omega) _ | refine Below.alloc ?_ (by first | (simp; done) | (simp; omega) | omega) _)) b4
  have B4 := Lib.hid (below_step B3.out d4)
  have U4 := Lib.hid (U3.out.on d4)
  have X4 := X3.keep d4
  clear b4 d4 X3 B3 U3
  have cX_b := X4.hb
  have cX_f := X4.fz
  have cX_0 := X4.k0
  have cX_1 := X4.k1
  have cX_2 := X4.k2
  have cX_3 := X4.k3
  have cX_4 := X4.k4
  have cX_5 := X4.k5
  have cX_6 := X4.k6
  have cX_7 := X4.k7
  have cX_8 := X4.k8
  have cX_9 := X4.k9
  have cX_10 := X4.k10
  go_wp2_with fail
  clear cX_b cX_f cX_0 cX_1 cX_2 cX_3 cX_4 cX_5 cX_6 cX_7 cX_8 cX_9 cX_10
  refine (W2.out _).mono ?_; rintro e w5 ⟨rfl, b5⟩
  have d5 : Below w4.heap.size w4 w5 := below_step (by repeat (first | exact Below.refl _ _ | refine below_drewN ?_ _ | refine Below.drew ?_ | refine Below.setCell ?_ (by first | (simp; done) | (simp; omega) | omega) _ | refine Below.alloc ?_ (by first | (simp; done) | (simp; omega) | omega) _)) b5
  have B5 := Lib.hid (below_step B4.out d5)
  have U5 := Lib.hid (U4.out.on d5)
  have X5 := X4.keep d5
  clear b5 d5 X4 B4 U4
  have cX_b := X5.hb
  have cX_f := X5.fz
  have cX_0 := X5.k0
  have cX_1 := X5.k1
  have cX_2 := X5.k2
  have cX_3 := X5.k3
  have cX_4 := X5.k4
  have cX_5 := X5.k5
  have cX_6 := X5.k6
  have cX_7 := X5.k7
  have cX_8 := X5.k8
  have cX_9 := X5.k9
  have cX_10 := X5.k10
  go_upto_region 12 with (fail)
  clear cX_b cX_f cX_0 cX_1 cX_2 cX_3 cX_4 cX_5 cX_6 cX_7 cX_8 cX_9 cX_10
  refine wp_named ?_; intro w6 hw6
  have d6 : Below w5.heap.size w5 w6 := by rw [hw6]; exact (by repeat (first | exact Below.refl _ _ | refine below_drewN ?_ _ | refine Below.drew ?_ | refine Below.setCell ?_ (by first | (simp; done) | (simp; omega) | omega) _ | refine Below.alloc ?_ (by first | (simp; done) | (simp; omega) | omega) _))
  have B6 := Lib.hid (below_step B5.out d6)
  have U6 := Lib.hid (U5.out.on d6)
  have X6 := X5.keep d6
  have N6 : Bk11 w6 w5.heap.size (.string ⟨#[69, 85]⟩) (.int .i64 1981) (.int .i64 32767) (.int .i64 4) (.int .i64 0) (.int .i64 0) (.int .i64 1) (.int .i64 3600) (.int .i64 2) (.int .i64 3600) (.string ⟨#[83]⟩) := by rw [hw6]; exact ⟨by simp <;> omega, by intro j; simp [go_sem], by simp [go_sem], by simp [go_sem], by simp [go_sem], by simp [go_sem], by simp [go_sem], by simp [go_sem], by simp [go_sem], by simp [go_sem], by simp [go_sem], by simp [go_sem], by simp [go_sem]⟩
  have M6 : Bk11 w6 (w5.heap.size + 1) (.string ⟨#[69, 85]⟩) (.int .i64 1992) (.int .i64 32767) (.int .i64 4) (.int .i64 0) (.int .i64 0) (.int .i64 1) (.int .i64 3600) (.int .i64 2) (.int .i64 3600) (.string ⟨#[83]⟩) := by rw [hw6]; exact ⟨by simp <;> omega, by intro j; simp [go_sem], by simp [go_sem], by simp [go_sem], by simp [go_sem], by simp [go_sem], by simp [go_sem], by simp [go_sem], by simp [go_sem], by simp [go_sem], by simp [go_sem], by simp [go_sem], by simp [go_sem]⟩
  have O6 : Bk11 w6 (w5.heap.size + 1 + 1) (.string ⟨#[69, 85]⟩) (.int .i64 1981) (.int .i64 1990) (.int .i64 3) (.int .i64 1) (.int .i64 0) (.int .i64 0) (.int .i64 3600) (.int .i64 2) (.int .i64 3600) (.string ⟨#[83]⟩) := by rw [hw6]; exact ⟨by simp <;> omega, by intro j; simp [go_sem], by simp [go_sem], by simp [go_sem], by simp [go_sem], by simp [go_sem], by simp [go_sem], by simp [go_sem], by simp [go_sem], by simp [go_sem], by simp [go_sem], by simp [go_sem], by simp [go_sem]⟩
  clear hw6 d6 X5 B5 U5
  have CK1 := Lib.hid (fun v W S => acheck_any v [(⟨#[85, 83]⟩, 2007, 32767, 3, 2, 0, 8, 7200, 0, 3600, ⟨#[68]⟩), (⟨#[69, 85]⟩, 1981, 32767, 3, 1, 0, 0, 3600, 2, 3600, ⟨#[83]⟩), (⟨#[85, 83]⟩, 2007, 32767, 11, 2, 0, 1, 7200, 0, 0, ⟨#[83]⟩), (⟨#[69, 85]⟩, 1981, 32767, 4, 0, 0, 1, 3600, 2, 3600, ⟨#[83]⟩)] W S (by decide) (by decide))
  have CK2 := Lib.hid (fun v W S => acheck_any v (Aw.us ++ [(⟨#[69, 85]⟩, 1981, 32767, 3, 1, 0, 0, 3600, 2, 3600, ⟨#[83]⟩)]) W S (by decide) (by decide))
  simp only [aw_ck.1, aw_ck.2] at CK1 CK2
  have P1 := Lib.hid (fun W => aPair_any ⟨#[85, 83]⟩ 2007 32767 3 2 0 8 7200 0 3600 ⟨#[68]⟩ ⟨#[85, 83]⟩ 2007 32767 11 2 0 1 7200 0 0 ⟨#[83]⟩ W (by decide) (by decide) (by decide) (by decide))
  have P2 := Lib.hid (fun W => aPair_any ⟨#[69, 85]⟩ 1981 32767 3 1 0 0 3600 2 3600 ⟨#[83]⟩ ⟨#[69, 85]⟩ 1981 32767 4 0 0 1 3600 2 3600 ⟨#[83]⟩ W (by decide) (by decide) (by decide) (by decide))
  have P3 := Lib.hid (fun W => aPair_any ⟨#[69, 85]⟩ 1992 32767 4 0 0 1 3600 2 3600 ⟨#[83]⟩ ⟨#[69, 85]⟩ 1981 1990 3 1 0 0 3600 2 3600 ⟨#[83]⟩ W (by decide) (by decide) (by decide) (by decide))
  have P4 := Lib.hid (fun W => aPair_any ⟨#[69, 85]⟩ 1981 32767 3 1 0 0 3600 2 3600 ⟨#[83]⟩ ⟨#[]⟩ 0 0 0 0 0 0 0 0 0 ⟨#[]⟩ W (by decide) (by decide) (by decide) (by decide))
  simp only [aw_pr.1, aw_pr.2.1, aw_pr.2.2.1, aw_pr.2.2.2] at P1 P2 P3 P4
  refine wp_region_pairs (C := fun W => Below w6.heap.size w6 W) (R := markR [(fun v _ => v = Value.slice (some ⟨w.heap.size, 0, none⟩) 2 2), (fun v _ => v = Value.pointer (some ⟨w.heap.size, 0, none⟩)), (fun v _ => v = Value.agg #[.string ⟨#[85, 83]⟩, .int .i64 2007, .int .i64 32767, .int .i64 3, .int .i64 2, .int .i64 0, .int .i64 8, .int .i64 7200, .int .i64 0, .int .i64 3600, .string ⟨#[68]⟩]), (fun v _ => v = Value.agg #[.string ⟨#[69, 85]⟩, .int .i64 1981, .int .i64 32767, .int .i64 3, .int .i64 1, .int .i64 0, .int .i64 0, .int .i64 3600, .int .i64 2, .int .i64 3600, .string ⟨#[83]⟩]), (fun v _ => v = Value.slice (some ⟨w.heap.size, 0, none⟩) 2 2), (fun v _ => v = Value.pointer (some ⟨w.heap.size, 11, none⟩)), (fun v _ => v = Value.agg #[.string ⟨#[85, 83]⟩, .int .i64 2007, .int .i64 32767, .int .i64 11, .int .i64 2, .int .i64 0, .int .i64 1, .int .i64 7200, .int .i64 0, .int .i64 0, .string ⟨#[83]⟩]), (fun v _ => v = Value.agg #[.string ⟨#[69, 85]⟩, .int .i64 1981, .int .i64 32767, .int .i64 4, .int .i64 0, .int .i64 0, .int .i64 1, .int .i64 3600, .int .i64 2, .int .i64 3600, .string ⟨#[83]⟩]), (fun v W => ∃ u, v = Value.slice (some ⟨u, 0, none⟩) 4 4 ∧ RuV W v [(⟨#[85, 83]⟩, 2007, 32767, 3, 2, 0, 8, 7200, 0, 3600, ⟨#[68]⟩), (⟨#[69, 85]⟩, 1981, 32767, 3, 1, 0, 0, 3600, 2, 3600, ⟨#[83]⟩), (⟨#[85, 83]⟩, 2007, 32767, 11, 2, 0, 1, 7200, 0, 0, ⟨#[83]⟩), (⟨#[69, 85]⟩, 1981, 32767, 4, 0, 0, 1, 3600, 2, 3600, ⟨#[83]⟩)]), (fun v _ => v = Value.tuple #[.int .i64 3, .int .i64 15]), (fun v _ => v = Value.tuple #[.int .i64 3, .int .i64 15]), (fun v _ => v = Value.int .i64 3), (fun v _ => v = Value.int .i64 15), (fun v _ => v = Value.int .i64 3), (fun v _ => v = Value.int .i64 15)]) (G := fun W W' => Below W.heap.size W W') (by rfl) ?hbeg ⟨by kernel_rfl, by kernel_rfl, by kernel_rfl, ?hkeep, ?hstab, Obs.all ?hobs, ?hlast⟩
  case hbeg => exact (Below.refl _ _).drew
  case hkeep => intro w1 w2 hC hG; exact below_step hC hG
  case hstab =>
    refine StableL.all ?_
    repeat (first | exact trivial | refine ⟨(by first | exact (fun _ _ _ _ h => h) | (exact fun v W W' hG h => by obtain ⟨u, hv, hs⟩ := h; exact ⟨u, hv, hs.on hG⟩)), ?_⟩)
  case hobs =>
    refine Obs.cons (k' := 1) rfl ?_ ?_
    · intro fa W hW hSame hRR KK hKK
      try dsimp only at hW
      have fb1 := hSame.base 1 (by kernel_rfl)
      simp only [List.getElem?_toArray, List.getElem?_cons_succ, List.getElem?_cons_zero] at fb1
      replace hKK : ∀ v w', Go.RowKit.Below W.heap.size W w' → v = Value.slice (some ⟨w.heap.size, 0, none⟩) 2 2 → KK (Act.put fa _ v) w' := fun v w' h1 h2 => hKK v w' h1 h2
      clear hSame hRR
      rw [if_pos (wanted_plain rfl)]
      go_simp
      refine hKK _ _ ?_ ?_
      · first | exact Below.refl _ _ | exact (Below.refl _ _).alloc (Nat.le_refl _) _ | exact below_draw _ _ | assumption
      · exact rfl
    refine Obs.cons (k' := 2) rfl ?_ ?_
    · intro fa W hW hSame hRR KK hKK
      try dsimp only at hW
      obtain ⟨fv0, ft0, fm0⟩ := hRR 0 _ 39 rfl rfl (by kernel_rfl)
      replace fm0 : fv0 = Value.slice (some ⟨w.heap.size, 0, none⟩) 2 2 := fm0
      subst fm0
      replace hKK : ∀ v w', Go.RowKit.Below W.heap.size W w' → v = Value.pointer (some ⟨w.heap.size, 0, none⟩) → KK (Act.put fa _ v) w' := fun v w' h1 h2 => hKK v w' h1 h2
      clear hSame hRR
      rw [if_pos (wanted_plain rfl)]
      go_simp
      refine hKK _ _ ?_ ?_
      · first | exact Below.refl _ _ | exact (Below.refl _ _).alloc (Nat.le_refl _) _ | exact below_draw _ _ | assumption
      · exact rfl
    refine Obs.cons (k' := 3) rfl ?_ ?_
    · intro fa W hW hSame hRR KK hKK
      try dsimp only at hW
      obtain ⟨fv1, ft1, fm1⟩ := hRR 1 _ 40 rfl rfl (by kernel_rfl)
      replace fm1 : fv1 = Value.pointer (some ⟨w.heap.size, 0, none⟩) := fm1
      subst fm1
      replace hKK : ∀ v w', Go.RowKit.Below W.heap.size W w' → v = Value.agg #[.string ⟨#[85, 83]⟩, .int .i64 2007, .int .i64 32767, .int .i64 3, .int .i64 2, .int .i64 0, .int .i64 8, .int .i64 7200, .int .i64 0, .int .i64 3600, .string ⟨#[68]⟩] → KK (Act.put fa _ v) w' := fun v w' h1 h2 => hKK v w' h1 h2
      have cU_0 := us_cells (U6.out.on hW) (by decide) 0 (.string ⟨#[85, 83]⟩) rfl
      have cU_1 := us_cells (U6.out.on hW) (by decide) 1 (.int .i64 2007) rfl
      have cU_2 := us_cells (U6.out.on hW) (by decide) 2 (.int .i64 32767) rfl
      have cU_3 := us_cells (U6.out.on hW) (by decide) 3 (.int .i64 3) rfl
      have cU_4 := us_cells (U6.out.on hW) (by decide) 4 (.int .i64 2) rfl
      have cU_5 := us_cells (U6.out.on hW) (by decide) 5 (.int .i64 0) rfl
      have cU_6 := us_cells (U6.out.on hW) (by decide) 6 (.int .i64 8) rfl
      have cU_7 := us_cells (U6.out.on hW) (by decide) 7 (.int .i64 7200) rfl
      have cU_8 := us_cells (U6.out.on hW) (by decide) 8 (.int .i64 0) rfl
      have cU_9 := us_cells (U6.out.on hW) (by decide) 9 (.int .i64 3600) rfl
      have cU_10 := us_cells (U6.out.on hW) (by decide) 10 (.string ⟨#[68]⟩) rfl
      have cU_11 := us_cells (U6.out.on hW) (by decide) 11 (.string ⟨#[85, 83]⟩) rfl
      have cU_12 := us_cells (U6.out.on hW) (by decide) 12 (.int .i64 2007) rfl
      have cU_13 := us_cells (U6.out.on hW) (by decide) 13 (.int .i64 32767) rfl
      have cU_14 := us_cells (U6.out.on hW) (by decide) 14 (.int .i64 11) rfl
      have cU_15 := us_cells (U6.out.on hW) (by decide) 15 (.int .i64 2) rfl
      have cU_16 := us_cells (U6.out.on hW) (by decide) 16 (.int .i64 0) rfl
      have cU_17 := us_cells (U6.out.on hW) (by decide) 17 (.int .i64 1) rfl
      have cU_18 := us_cells (U6.out.on hW) (by decide) 18 (.int .i64 7200) rfl
      have cU_19 := us_cells (U6.out.on hW) (by decide) 19 (.int .i64 0) rfl
      have cU_20 := us_cells (U6.out.on hW) (by decide) 20 (.int .i64 0) rfl
      have cU_21 := us_cells (U6.out.on hW) (by decide) 21 (.string ⟨#[83]⟩) rfl
      clear hSame hRR
      rw [if_pos (wanted_plain rfl)]
      go_simp
      refine hKK _ _ ?_ ?_
      · first | exact Below.refl _ _ | exact (Below.refl _ _).alloc (Nat.le_refl _) _ | exact below_draw _ _ | assumption
      · exact rfl
    refine Obs.cons (k' := 4) rfl ?_ ?_
    · intro fa W hW hSame hRR KK hKK
      try dsimp only at hW
      have fb2 := hSame.base 2 (by kernel_rfl)
      simp only [List.getElem?_toArray, List.getElem?_cons_succ, List.getElem?_cons_zero] at fb2
      replace hKK : ∀ v w', Go.RowKit.Below W.heap.size W w' → v = Value.agg #[.string ⟨#[69, 85]⟩, .int .i64 1981, .int .i64 32767, .int .i64 3, .int .i64 1, .int .i64 0, .int .i64 0, .int .i64 3600, .int .i64 2, .int .i64 3600, .string ⟨#[83]⟩] → KK (Act.put fa _ v) w' := fun v w' h1 h2 => hKK v w' h1 h2
      have hX := X6.keep hW
      have cX_b := hX.hb
      have cX_f := hX.fz
      have cX_0 := hX.k0
      have cX_1 := hX.k1
      have cX_2 := hX.k2
      have cX_3 := hX.k3
      have cX_4 := hX.k4
      have cX_5 := hX.k5
      have cX_6 := hX.k6
      have cX_7 := hX.k7
      have cX_8 := hX.k8
      have cX_9 := hX.k9
      have cX_10 := hX.k10
      clear hSame hRR
      rw [if_pos (wanted_plain rfl)]
      go_simp
      refine hKK _ _ ?_ ?_
      · first | exact Below.refl _ _ | exact (Below.refl _ _).alloc (Nat.le_refl _) _ | exact below_draw _ _ | assumption
      · exact rfl
    refine Obs.cons (k' := 5) rfl ?_ ?_
    · intro fa W hW hSame hRR KK hKK
      try dsimp only at hW
      have fb1 := hSame.base 1 (by kernel_rfl)
      simp only [List.getElem?_toArray, List.getElem?_cons_succ, List.getElem?_cons_zero] at fb1
      replace hKK : ∀ v w', Go.RowKit.Below W.heap.size W w' → v = Value.slice (some ⟨w.heap.size, 0, none⟩) 2 2 → KK (Act.put fa _ v) w' := fun v w' h1 h2 => hKK v w' h1 h2
      clear hSame hRR
      rw [if_pos (wanted_plain rfl)]
      go_simp
      refine hKK _ _ ?_ ?_
      · first | exact Below.refl _ _ | exact (Below.refl _ _).alloc (Nat.le_refl _) _ | exact below_draw _ _ | assumption
      · exact rfl
    refine Obs.cons (k' := 6) rfl ?_ ?_
    · intro fa W hW hSame hRR KK hKK
      try dsimp only at hW
      obtain ⟨fv4, ft4, fm4⟩ := hRR 4 _ 43 rfl rfl (by kernel_rfl)
      replace fm4 : fv4 = Value.slice (some ⟨w.heap.size, 0, none⟩) 2 2 := fm4
      subst fm4
      replace hKK : ∀ v w', Go.RowKit.Below W.heap.size W w' → v = Value.pointer (some ⟨w.heap.size, 11, none⟩) → KK (Act.put fa _ v) w' := fun v w' h1 h2 => hKK v w' h1 h2
      clear hSame hRR
      rw [if_pos (wanted_plain rfl)]
      go_simp
      refine hKK _ _ ?_ ?_
      · first | exact Below.refl _ _ | exact (Below.refl _ _).alloc (Nat.le_refl _) _ | exact below_draw _ _ | assumption
      · exact rfl
    refine Obs.cons (k' := 7) rfl ?_ ?_
    · intro fa W hW hSame hRR KK hKK
      try dsimp only at hW
      obtain ⟨fv5, ft5, fm5⟩ := hRR 5 _ 44 rfl rfl (by kernel_rfl)
      replace fm5 : fv5 = Value.pointer (some ⟨w.heap.size, 11, none⟩) := fm5
      subst fm5
      replace hKK : ∀ v w', Go.RowKit.Below W.heap.size W w' → v = Value.agg #[.string ⟨#[85, 83]⟩, .int .i64 2007, .int .i64 32767, .int .i64 11, .int .i64 2, .int .i64 0, .int .i64 1, .int .i64 7200, .int .i64 0, .int .i64 0, .string ⟨#[83]⟩] → KK (Act.put fa _ v) w' := fun v w' h1 h2 => hKK v w' h1 h2
      have cU_0 := us_cells (U6.out.on hW) (by decide) 0 (.string ⟨#[85, 83]⟩) rfl
      have cU_1 := us_cells (U6.out.on hW) (by decide) 1 (.int .i64 2007) rfl
      have cU_2 := us_cells (U6.out.on hW) (by decide) 2 (.int .i64 32767) rfl
      have cU_3 := us_cells (U6.out.on hW) (by decide) 3 (.int .i64 3) rfl
      have cU_4 := us_cells (U6.out.on hW) (by decide) 4 (.int .i64 2) rfl
      have cU_5 := us_cells (U6.out.on hW) (by decide) 5 (.int .i64 0) rfl
      have cU_6 := us_cells (U6.out.on hW) (by decide) 6 (.int .i64 8) rfl
      have cU_7 := us_cells (U6.out.on hW) (by decide) 7 (.int .i64 7200) rfl
      have cU_8 := us_cells (U6.out.on hW) (by decide) 8 (.int .i64 0) rfl
      have cU_9 := us_cells (U6.out.on hW) (by decide) 9 (.int .i64 3600) rfl
      have cU_10 := us_cells (U6.out.on hW) (by decide) 10 (.string ⟨#[68]⟩) rfl
      have cU_11 := us_cells (U6.out.on hW) (by decide) 11 (.string ⟨#[85, 83]⟩) rfl
      have cU_12 := us_cells (U6.out.on hW) (by decide) 12 (.int .i64 2007) rfl
      have cU_13 := us_cells (U6.out.on hW) (by decide) 13 (.int .i64 32767) rfl
      have cU_14 := us_cells (U6.out.on hW) (by decide) 14 (.int .i64 11) rfl
      have cU_15 := us_cells (U6.out.on hW) (by decide) 15 (.int .i64 2) rfl
      have cU_16 := us_cells (U6.out.on hW) (by decide) 16 (.int .i64 0) rfl
      have cU_17 := us_cells (U6.out.on hW) (by decide) 17 (.int .i64 1) rfl
      have cU_18 := us_cells (U6.out.on hW) (by decide) 18 (.int .i64 7200) rfl
      have cU_19 := us_cells (U6.out.on hW) (by decide) 19 (.int .i64 0) rfl
      have cU_20 := us_cells (U6.out.on hW) (by decide) 20 (.int .i64 0) rfl
      have cU_21 := us_cells (U6.out.on hW) (by decide) 21 (.string ⟨#[83]⟩) rfl
      clear hSame hRR
      rw [if_pos (wanted_plain rfl)]
      go_simp
      refine hKK _ _ ?_ ?_
      · first | exact Below.refl _ _ | exact (Below.refl _ _).alloc (Nat.le_refl _) _ | exact below_draw _ _ | assumption
      · exact rfl
    refine Obs.cons (k' := 8) rfl ?_ ?_
    · intro fa W hW hSame hRR KK hKK
      try dsimp only at hW
      have fb9 := hSame.base 9 (by kernel_rfl)
      simp only [List.getElem?_toArray, List.getElem?_cons_succ, List.getElem?_cons_zero] at fb9
      replace hKK : ∀ v w', Go.RowKit.Below W.heap.size W w' → v = Value.agg #[.string ⟨#[69, 85]⟩, .int .i64 1981, .int .i64 32767, .int .i64 4, .int .i64 0, .int .i64 0, .int .i64 1, .int .i64 3600, .int .i64 2, .int .i64 3600, .string ⟨#[83]⟩] → KK (Act.put fa _ v) w' := fun v w' h1 h2 => hKK v w' h1 h2
      have hN := N6.keep hW
      have cN_b := hN.hb
      have cN_f := hN.fz
      have cN_0 := hN.k0
      have cN_1 := hN.k1
      have cN_2 := hN.k2
      have cN_3 := hN.k3
      have cN_4 := hN.k4
      have cN_5 := hN.k5
      have cN_6 := hN.k6
      have cN_7 := hN.k7
      have cN_8 := hN.k8
      have cN_9 := hN.k9
      have cN_10 := hN.k10
      clear hSame hRR
      rw [if_pos (wanted_plain rfl)]
      go_simp
      refine hKK _ _ ?_ ?_
      · first | exact Below.refl _ _ | exact (Below.refl _ _).alloc (Nat.le_refl _) _ | exact below_draw _ _ | assumption
      · exact rfl
    refine Obs.cons (k' := 9) rfl ?_ ?_
    · intro fa W hW hSame hRR KK hKK
      try dsimp only at hW
      obtain ⟨fv2, ft2, fm2⟩ := hRR 2 _ 41 rfl rfl (by kernel_rfl)
      replace fm2 : fv2 = Value.agg #[.string ⟨#[85, 83]⟩, .int .i64 2007, .int .i64 32767, .int .i64 3, .int .i64 2, .int .i64 0, .int .i64 8, .int .i64 7200, .int .i64 0, .int .i64 3600, .string ⟨#[68]⟩] := fm2
      subst fm2
      obtain ⟨fv3, ft3, fm3⟩ := hRR 3 _ 42 rfl rfl (by kernel_rfl)
      replace fm3 : fv3 = Value.agg #[.string ⟨#[69, 85]⟩, .int .i64 1981, .int .i64 32767, .int .i64 3, .int .i64 1, .int .i64 0, .int .i64 0, .int .i64 3600, .int .i64 2, .int .i64 3600, .string ⟨#[83]⟩] := fm3
      subst fm3
      obtain ⟨fv6, ft6, fm6⟩ := hRR 6 _ 45 rfl rfl (by kernel_rfl)
      replace fm6 : fv6 = Value.agg #[.string ⟨#[85, 83]⟩, .int .i64 2007, .int .i64 32767, .int .i64 11, .int .i64 2, .int .i64 0, .int .i64 1, .int .i64 7200, .int .i64 0, .int .i64 0, .string ⟨#[83]⟩] := fm6
      subst fm6
      obtain ⟨fv7, ft7, fm7⟩ := hRR 7 _ 46 rfl rfl (by kernel_rfl)
      replace fm7 : fv7 = Value.agg #[.string ⟨#[69, 85]⟩, .int .i64 1981, .int .i64 32767, .int .i64 4, .int .i64 0, .int .i64 0, .int .i64 1, .int .i64 3600, .int .i64 2, .int .i64 3600, .string ⟨#[83]⟩] := fm7
      subst fm7
      clear hSame hRR
      rw [if_pos (wanted_plain rfl)]
      go_simp
      exact hKK _ _ ((Below.refl _ _).alloc (Nat.le_refl _) _) ⟨_, rfl, list_rules _ [(⟨#[85, 83]⟩, 2007, 32767, 3, 2, 0, 8, 7200, 0, 3600, ⟨#[68]⟩), (⟨#[69, 85]⟩, 1981, 32767, 3, 1, 0, 0, 3600, 2, 3600, ⟨#[83]⟩), (⟨#[85, 83]⟩, 2007, 32767, 11, 2, 0, 1, 7200, 0, 0, ⟨#[83]⟩), (⟨#[69, 85]⟩, 1981, 32767, 4, 0, 0, 1, 3600, 2, 3600, ⟨#[83]⟩)] _ _ rfl⟩
    refine Obs.cons (k' := 10) rfl ?_ ?_
    · intro fa W hW hSame hRR KK hKK
      try dsimp only at hW
      obtain ⟨fv8, ft8, ⟨u8, rfl, fs8⟩⟩ := hRR 8 _ 47 rfl rfl (by kernel_rfl)
      replace hKK : ∀ v w', Go.RowKit.Below W.heap.size W w' → v = Value.tuple #[.int .i64 3, .int .i64 15] → KK (Act.put fa _ v) w' := fun v w' h1 h2 => hKK v w' h1 h2
      clear hSame hRR
      rw [if_pos (wanted_plain rfl)]
      go_simp
      refine (CK1.out _ _ fs8).mono ?_; rintro e w' ⟨rfl, hb⟩
      exact hKK _ _ hb rfl
    refine Obs.cons (k' := 11) rfl ?_ ?_
    · intro fa W hW hSame hRR KK hKK
      try dsimp only at hW
      obtain ⟨fv9, ft9, fm9⟩ := hRR 9 _ 48 rfl rfl (by kernel_rfl)
      replace fm9 : fv9 = Value.tuple #[.int .i64 3, .int .i64 15] := fm9
      subst fm9
      replace hKK : ∀ v w', Go.RowKit.Below W.heap.size W w' → v = Value.tuple #[.int .i64 3, .int .i64 15] → KK (Act.put fa _ v) w' := fun v w' h1 h2 => hKK v w' h1 h2
      clear hSame hRR
      rw [if_pos (wanted_plain rfl)]
      go_simp
      refine hKK _ _ ?_ ?_
      · first | exact Below.refl _ _ | exact (Below.refl _ _).alloc (Nat.le_refl _) _ | exact below_draw _ _ | assumption
      · exact rfl
    refine Obs.cons (k' := 12) rfl ?_ ?_
    · intro fa W hW hSame hRR KK hKK
      try dsimp only at hW
      obtain ⟨fv10, ft10, fm10⟩ := hRR 10 _ 38 rfl rfl (by kernel_rfl)
      replace fm10 : fv10 = Value.tuple #[.int .i64 3, .int .i64 15] := fm10
      subst fm10
      replace hKK : ∀ v w', Go.RowKit.Below W.heap.size W w' → v = Value.int .i64 3 → KK (Act.put fa _ v) w' := fun v w' h1 h2 => hKK v w' h1 h2
      clear hSame hRR
      rw [if_pos (wanted_plain rfl)]
      go_simp
      refine hKK _ _ ?_ ?_
      · first | exact Below.refl _ _ | exact (Below.refl _ _).alloc (Nat.le_refl _) _ | exact below_draw _ _ | assumption
      · exact rfl
    refine Obs.cons (k' := 13) rfl ?_ ?_
    · intro fa W hW hSame hRR KK hKK
      try dsimp only at hW
      obtain ⟨fv10, ft10, fm10⟩ := hRR 10 _ 38 rfl rfl (by kernel_rfl)
      replace fm10 : fv10 = Value.tuple #[.int .i64 3, .int .i64 15] := fm10
      subst fm10
      replace hKK : ∀ v w', Go.RowKit.Below W.heap.size W w' → v = Value.int .i64 15 → KK (Act.put fa _ v) w' := fun v w' h1 h2 => hKK v w' h1 h2
      clear hSame hRR
      rw [if_pos (wanted_plain rfl)]
      go_simp
      refine hKK _ _ ?_ ?_
      · first | exact Below.refl _ _ | exact (Below.refl _ _).alloc (Nat.le_refl _) _ | exact below_draw _ _ | assumption
      · exact rfl
    refine Obs.cons (k' := 14) rfl ?_ ?_
    · intro fa W hW hSame hRR KK hKK
      try dsimp only at hW
      obtain ⟨fv11, ft11, fm11⟩ := hRR 11 _ 49 rfl rfl (by kernel_rfl)
      replace fm11 : fv11 = Value.int .i64 3 := fm11
      subst fm11
      replace hKK : ∀ v w', Go.RowKit.Below W.heap.size W w' → v = Value.int .i64 3 → KK (Act.put fa _ v) w' := fun v w' h1 h2 => hKK v w' h1 h2
      clear hSame hRR
      rw [if_pos (wanted_plain rfl)]
      go_simp
      refine hKK _ _ ?_ ?_
      · first | exact Below.refl _ _ | exact (Below.refl _ _).alloc (Nat.le_refl _) _ | exact below_draw _ _ | assumption
      · exact rfl
    refine Obs.cons (k' := 15) rfl ?_ ?_
    · intro fa W hW hSame hRR KK hKK
      try dsimp only at hW
      obtain ⟨fv12, ft12, fm12⟩ := hRR 12 _ 50 rfl rfl (by kernel_rfl)
      replace fm12 : fv12 = Value.int .i64 15 := fm12
      subst fm12
      replace hKK : ∀ v w', Go.RowKit.Below W.heap.size W w' → v = Value.int .i64 15 → KK (Act.put fa _ v) w' := fun v w' h1 h2 => hKK v w' h1 h2
      clear hSame hRR
      rw [if_pos (wanted_plain rfl)]
      go_simp
      refine hKK _ _ ?_ ?_
      · first | exact Below.refl _ _ | exact (Below.refl _ _).alloc (Nat.le_refl _) _ | exact below_draw _ _ | assumption
      · exact rfl
    exact Obs.nil
  case hlast =>
    intro fa w7 d7 hSame hRR
    try dsimp only at d7
    obtain ⟨z1, f12, rfl⟩ := hRR 13 _ 12 rfl rfl
    obtain ⟨z2, f13, rfl⟩ := hRR 14 _ 13 rfl rfl
    rw [Same_shape hSame]
    simp only [List.filterMap_cons, List.filterMap_nil, List.foldl_cons, List.foldl_nil]
    have g12 : fa.tmps.getD 12 undef = .int .i64 3 := by simp [Array.getD_eq_getD_getElem?, f12]
    have g13 : fa.tmps.getD 13 undef = .int .i64 15 := by simp [Array.getD_eq_getD_getElem?, f13]
    rw [g12, g13]
    generalize fa.tmps.getD 39 undef = y39
    generalize fa.tmps.getD 40 undef = y40
    generalize fa.tmps.getD 41 undef = y41
    generalize fa.tmps.getD 42 undef = y42
    generalize fa.tmps.getD 43 undef = y43
    generalize fa.tmps.getD 44 undef = y44
    generalize fa.tmps.getD 45 undef = y45
    generalize fa.tmps.getD 46 undef = y46
    generalize fa.tmps.getD 47 undef = y47
    generalize fa.tmps.getD 48 undef = y48
    generalize fa.tmps.getD 38 undef = y38
    generalize fa.tmps.getD 49 undef = y49
    generalize fa.tmps.getD 50 undef = y50
    simp only [Act.put, List.setIfInBounds_toArray, List.set_cons_succ, List.set_cons_zero]
    clear hSame hRR f12 f13 g12 g13
    have B7 := Lib.hid (below_step B6.out d7)
    have U7 := Lib.hid (U6.out.on d7)
    have X7 := X6.keep d7
    have N7 := N6.keep d7
    have M7 := M6.keep d7
    have O7 := O6.keep d7
    clear d7 B6 U6 X6 N6 M6 O6
    have cX_b := X7.hb
    have cX_f := X7.fz
    have cX_0 := X7.k0
    have cX_1 := X7.k1
    have cX_2 := X7.k2
    have cX_3 := X7.k3
    have cX_4 := X7.k4
    have cX_5 := X7.k5
    have cX_6 := X7.k6
    have cX_7 := X7.k7
    have cX_8 := X7.k8
    have cX_9 := X7.k9
    have cX_10 := X7.k10
    have cN_b := N7.hb
    have cN_f := N7.fz
    have cN_0 := N7.k0
    have cN_1 := N7.k1
    have cN_2 := N7.k2
    have cN_3 := N7.k3
    have cN_4 := N7.k4
    have cN_5 := N7.k5
    have cN_6 := N7.k6
    have cN_7 := N7.k7
    have cN_8 := N7.k8
    have cN_9 := N7.k9
    have cN_10 := N7.k10
    have cM_b := M7.hb
    have cM_f := M7.fz
    have cM_0 := M7.k0
    have cM_1 := M7.k1
    have cM_2 := M7.k2
    have cM_3 := M7.k3
    have cM_4 := M7.k4
    have cM_5 := M7.k5
    have cM_6 := M7.k6
    have cM_7 := M7.k7
    have cM_8 := M7.k8
    have cM_9 := M7.k9
    have cM_10 := M7.k10
    have cO_b := O7.hb
    have cO_f := O7.fz
    have cO_0 := O7.k0
    have cO_1 := O7.k1
    have cO_2 := O7.k2
    have cO_3 := O7.k3
    have cO_4 := O7.k4
    have cO_5 := O7.k5
    have cO_6 := O7.k6
    have cO_7 := O7.k7
    have cO_8 := O7.k8
    have cO_9 := O7.k9
    have cO_10 := O7.k10
    go_upto_region 13 with (fail)
    clear cX_b cX_f cX_0 cX_1 cX_2 cX_3 cX_4 cX_5 cX_6 cX_7 cX_8 cX_9 cX_10
    clear cN_b cN_f cN_0 cN_1 cN_2 cN_3 cN_4 cN_5 cN_6 cN_7 cN_8 cN_9 cN_10
    clear cM_b cM_f cM_0 cM_1 cM_2 cM_3 cM_4 cM_5 cM_6 cM_7 cM_8 cM_9 cM_10
    clear cO_b cO_f cO_0 cO_1 cO_2 cO_3 cO_4 cO_5 cO_6 cO_7 cO_8 cO_9 cO_10
    refine wp_region_till (R := markR [(fun v (_ : World) => ∃ u, v = Value.slice (some ⟨u, 0, none⟩) 0 0), (fun v _ => v = Value.slice (some ⟨w.heap.size, 0, none⟩) 2 2), (fun v W => W.ownsRow w7.heap.size 27 11 v 2 (Aw.rcs Aw.us)), (fun v _ => v = Value.agg #[.string ⟨#[69, 85]⟩, .int .i64 1981, .int .i64 32767, .int .i64 3, .int .i64 1, .int .i64 0, .int .i64 0, .int .i64 3600, .int .i64 2, .int .i64 3600, .string ⟨#[83]⟩]), (fun v W => ∃ u, v = Value.slice (some ⟨u, 0, none⟩) 1 1 ∧ RuV W v [(⟨#[69, 85]⟩, 1981, 32767, 3, 1, 0, 0, 3600, 2, 3600, ⟨#[83]⟩)]), (fun v W => RuV W v (Aw.us ++ [(⟨#[69, 85]⟩, 1981, 32767, 3, 1, 0, 0, 3600, 2, 3600, ⟨#[83]⟩)])), (fun v _ => v = Value.tuple #[.int .i64 (-1), .int .i64 0]), (fun v _ => v = Value.tuple #[.int .i64 (-1), .int .i64 0]), (fun v _ => v = Value.int .i64 (-1)), (fun v _ => v = Value.int .i64 0), (fun v _ => v = Value.int .i64 (-1)), (fun v _ => v = Value.int .i64 0)]) (till := fun i => match i with | 2 => some 5 | 4 => some 5 | _ => none) (D := fun W => Below w7.heap.size w7 W) (G := fun i W W' => cond (i == 5) (Below w7.heap.size W W') (Below W.heap.size W W')) (by rfl) ?hbeg ⟨by kernel_rfl, by kernel_rfl, by kernel_rfl, ?hkeep, ?hstab, ObsT.all ?hobs, ?hlast⟩
    case hbeg => exact (Below.refl _ _).drew
    case hkeep =>
      intro i w1 w2 hC hG
      cases hi : (i == 5)
      · simp only [hi, cond_false] at hG; exact below_step hC hG
      · simp only [hi, cond_true] at hG; exact hC.trans hG
    case hstab =>
      intro i j hij ht v w1 w2 hG hm
      by_cases hi5 : i = 5
      · subst hi5
        match j, hij, ht, hm with
        | 0, _, _, hm => exact hm
        | 1, _, _, hm => exact hm
        | 2, _, ht, _ => exact absurd rfl ht
        | 3, _, _, hm => exact hm
        | 4, _, ht, _ => exact absurd rfl ht
        | 5, hij, _, _ => exact absurd rfl hij
        | 6, _, _, hm => exact hm
        | 7, _, _, hm => exact hm
        | 8, _, _, hm => exact hm
        | 9, _, _, hm => exact hm
        | 10, _, _, hm => exact hm
        | 11, _, _, hm => exact hm
        | j + 12, _, _, hm => exact trivial
      replace hG : Below w1.heap.size w1 w2 := by simpa [hi5] using hG
      match j, hm with
      | 0, hm => exact hm
      | 1, hm => exact hm
      | 2, hm => exact own_on hm hG
      | 3, hm => exact hm
      | 4, hm => exact (by obtain ⟨u, hv, hs⟩ := hm; exact ⟨u, hv, hs.on hG⟩)
      | 5, hm => exact RuV.on hm hG
      | 6, hm => exact hm
      | 7, hm => exact hm
      | 8, hm => exact hm
      | 9, hm => exact hm
      | 10, hm => exact hm
      | 11, hm => exact hm
      | j + 12, hm => exact trivial
    case hobs =>
      refine ObsT.cons (k' := 1) rfl ?_ ?_
      · intro fa W hW hSame hRR KK hKK
        try dsimp only at hW
        replace hKK : ∀ v w', Below W.heap.size W w' → (fun v (_ : World) => ∃ u, v = Value.slice (some ⟨u, 0, none⟩) 0 0) v w' → KK (Act.put fa _ v) w' := fun v w' h1 h2 => hKK v w' h1 h2
        clear hSame hRR
        rw [if_pos (wanted_plain rfl)]
        go_simp
        exact hKK _ _ ((Below.refl _ _).alloc (Nat.le_refl _) _) ⟨_, rfl⟩
      refine ObsT.cons (k' := 2) rfl ?_ ?_
      · intro fa W hW hSame hRR KK hKK
        try dsimp only at hW
        have fb1 := hSame.base 1 (by kernel_rfl)
        simp only [List.getElem?_toArray, List.getElem?_cons_succ, List.getElem?_cons_zero] at fb1
        replace hKK : ∀ v w', Below W.heap.size W w' → v = Value.slice (some ⟨w.heap.size, 0, none⟩) 2 2 → KK (Act.put fa _ v) w' := fun v w' h1 h2 => hKK v w' h1 h2
        clear hSame hRR
        rw [if_pos (wanted_plain rfl)]
        go_simp
        refine hKK _ _ ?_ ?_
        · first | exact Below.refl _ _ | exact (Below.refl _ _).alloc (Nat.le_refl _) _ | exact below_draw _ _ | assumption
        · exact rfl
      refine ObsT.cons (k' := 3) rfl ?_ ?_
      · intro fa W hW hSame hRR KK hKK
        try dsimp only at hW
        obtain ⟨fv0, ft0, ⟨u0, rfl⟩⟩ := hRR 0 _ 52 rfl rfl (by kernel_rfl) (by kernel_rfl)
        obtain ⟨fv1, ft1, fm1⟩ := hRR 1 _ 53 rfl rfl (by kernel_rfl) (by kernel_rfl)
        replace fm1 : fv1 = Value.slice (some ⟨w.heap.size, 0, none⟩) 2 2 := fm1
        subst fm1
        replace hKK : ∀ v w', Below W.heap.size W w' → (fun v W => W.ownsRow w7.heap.size 27 11 v 2 (Aw.rcs Aw.us)) v w' → KK (Act.put fa _ v) w' := fun v w' h1 h2 => hKK v w' h1 h2
        clear hSame hRR
        refine step_rules_grow rfl (Operand.tmp 52) (Operand.tmp 53) rfl w7.heap.size u0 ?_ ⟨w.heap.size, 0, none⟩ 2 2 Aw.us rfl (by decide) ?_ (rules_src (U7.out.on hW) (by decide)) (by decide) hW.size (fun v' w' h1 h2 => hKK _ _ h2 h1)
        · simp [go_sem, ft0, Array.getD_eq_getD_getElem?]
        · simp [go_sem, ft1, Array.getD_eq_getD_getElem?]
      refine ObsT.cons (k' := 4) rfl ?_ ?_
      · intro fa W hW hSame hRR KK hKK
        try dsimp only at hW
        have fb2 := hSame.base 2 (by kernel_rfl)
        simp only [List.getElem?_toArray, List.getElem?_cons_succ, List.getElem?_cons_zero] at fb2
        replace hKK : ∀ v w', Below W.heap.size W w' → v = Value.agg #[.string ⟨#[69, 85]⟩, .int .i64 1981, .int .i64 32767, .int .i64 3, .int .i64 1, .int .i64 0, .int .i64 0, .int .i64 3600, .int .i64 2, .int .i64 3600, .string ⟨#[83]⟩] → KK (Act.put fa _ v) w' := fun v w' h1 h2 => hKK v w' h1 h2
        have hX := X7.keep hW
        have cX_b := hX.hb
        have cX_f := hX.fz
        have cX_0 := hX.k0
        have cX_1 := hX.k1
        have cX_2 := hX.k2
        have cX_3 := hX.k3
        have cX_4 := hX.k4
        have cX_5 := hX.k5
        have cX_6 := hX.k6
        have cX_7 := hX.k7
        have cX_8 := hX.k8
        have cX_9 := hX.k9
        have cX_10 := hX.k10
        clear hSame hRR
        rw [if_pos (wanted_plain rfl)]
        go_simp
        refine hKK _ _ ?_ ?_
        · first | exact Below.refl _ _ | exact (Below.refl _ _).alloc (Nat.le_refl _) _ | exact below_draw _ _ | assumption
        · exact rfl
      refine ObsT.cons (k' := 5) rfl ?_ ?_
      · intro fa W hW hSame hRR KK hKK
        try dsimp only at hW
        obtain ⟨fv3, ft3, fm3⟩ := hRR 3 _ 55 rfl rfl (by kernel_rfl) (by kernel_rfl)
        replace fm3 : fv3 = Value.agg #[.string ⟨#[69, 85]⟩, .int .i64 1981, .int .i64 32767, .int .i64 3, .int .i64 1, .int .i64 0, .int .i64 0, .int .i64 3600, .int .i64 2, .int .i64 3600, .string ⟨#[83]⟩] := fm3
        subst fm3
        replace hKK : ∀ v w', Below W.heap.size W w' → (fun v W => ∃ u, v = Value.slice (some ⟨u, 0, none⟩) 1 1 ∧ RuV W v [(⟨#[69, 85]⟩, 1981, 32767, 3, 1, 0, 0, 3600, 2, 3600, ⟨#[83]⟩)]) v w' → KK (Act.put fa _ v) w' := fun v w' h1 h2 => hKK v w' h1 h2
        clear hSame hRR
        rw [if_pos (wanted_plain rfl)]
        go_simp
        exact hKK _ _ ((Below.refl _ _).alloc (Nat.le_refl _) _) ⟨_, rfl, list_rules _ [(⟨#[69, 85]⟩, 1981, 32767, 3, 1, 0, 0, 3600, 2, 3600, ⟨#[83]⟩)] _ _ rfl⟩
      refine ObsT.cons (k' := 6) rfl ?_ ?_
      · intro fa W hW hSame hRR KK hKK
        try dsimp only at hW
        obtain ⟨fv2, ft2, fs2⟩ := hRR 2 _ 54 rfl rfl (by kernel_rfl) (by kernel_rfl)
        obtain ⟨fv4, ft4, ⟨u4, rfl, fs4⟩⟩ := hRR 4 _ 56 rfl rfl (by kernel_rfl) (by kernel_rfl)
        replace hKK : ∀ v w', Below w7.heap.size W w' → (fun v W => RuV W v (Aw.us ++ [(⟨#[69, 85]⟩, 1981, 32767, 3, 1, 0, 0, 3600, 2, 3600, ⟨#[83]⟩)])) v w' → KK (Act.put fa _ v) w' := fun v w' h1 h2 => hKK v w' h1 h2
        clear hSame hRR
        refine step_rules_add rfl (Operand.tmp 54) (Operand.tmp 56) rfl w7.heap.size fv2 2 Aw.us ?_ fs2 ⟨u4, 0, none⟩ 1 1 [(⟨#[69, 85]⟩, 1981, 32767, 3, 1, 0, 0, 3600, 2, 3600, ⟨#[83]⟩)] rfl rfl ?_ (rules_src fs4 (by decide)) (by decide) hW.size (fun v' w' h1 h2 => hKK _ _ h2 h1)
        · simp [go_sem, ft2, Array.getD_eq_getD_getElem?]
        · simp [go_sem, ft4, Array.getD_eq_getD_getElem?]
      refine ObsT.cons (k' := 7) rfl ?_ ?_
      · intro fa W hW hSame hRR KK hKK
        try dsimp only at hW
        obtain ⟨fv5, ft5, fs5⟩ := hRR 5 _ 57 rfl rfl (by kernel_rfl) (by kernel_rfl)
        replace hKK : ∀ v w', Below W.heap.size W w' → v = Value.tuple #[.int .i64 (-1), .int .i64 0] → KK (Act.put fa _ v) w' := fun v w' h1 h2 => hKK v w' h1 h2
        clear hSame hRR
        rw [if_pos (wanted_plain rfl)]
        go_simp
        refine (CK2.out _ _ fs5).mono ?_; rintro e w' ⟨rfl, hb⟩
        exact hKK _ _ hb rfl
      refine ObsT.cons (k' := 8) rfl ?_ ?_
      · intro fa W hW hSame hRR KK hKK
        try dsimp only at hW
        obtain ⟨fv6, ft6, fm6⟩ := hRR 6 _ 58 rfl rfl (by kernel_rfl) (by kernel_rfl)
        replace fm6 : fv6 = Value.tuple #[.int .i64 (-1), .int .i64 0] := fm6
        subst fm6
        replace hKK : ∀ v w', Below W.heap.size W w' → v = Value.tuple #[.int .i64 (-1), .int .i64 0] → KK (Act.put fa _ v) w' := fun v w' h1 h2 => hKK v w' h1 h2
        clear hSame hRR
        rw [if_pos (wanted_plain rfl)]
        go_simp
        refine hKK _ _ ?_ ?_
        · first | exact Below.refl _ _ | exact (Below.refl _ _).alloc (Nat.le_refl _) _ | exact below_draw _ _ | assumption
        · exact rfl
      refine ObsT.cons (k' := 9) rfl ?_ ?_
      · intro fa W hW hSame hRR KK hKK
        try dsimp only at hW
        obtain ⟨fv7, ft7, fm7⟩ := hRR 7 _ 51 rfl rfl (by kernel_rfl) (by kernel_rfl)
        replace fm7 : fv7 = Value.tuple #[.int .i64 (-1), .int .i64 0] := fm7
        subst fm7
        replace hKK : ∀ v w', Below W.heap.size W w' → v = Value.int .i64 (-1) → KK (Act.put fa _ v) w' := fun v w' h1 h2 => hKK v w' h1 h2
        clear hSame hRR
        rw [if_pos (wanted_plain rfl)]
        go_simp
        refine hKK _ _ ?_ ?_
        · first | exact Below.refl _ _ | exact (Below.refl _ _).alloc (Nat.le_refl _) _ | exact below_draw _ _ | assumption
        · exact rfl
      refine ObsT.cons (k' := 10) rfl ?_ ?_
      · intro fa W hW hSame hRR KK hKK
        try dsimp only at hW
        obtain ⟨fv7, ft7, fm7⟩ := hRR 7 _ 51 rfl rfl (by kernel_rfl) (by kernel_rfl)
        replace fm7 : fv7 = Value.tuple #[.int .i64 (-1), .int .i64 0] := fm7
        subst fm7
        replace hKK : ∀ v w', Below W.heap.size W w' → v = Value.int .i64 0 → KK (Act.put fa _ v) w' := fun v w' h1 h2 => hKK v w' h1 h2
        clear hSame hRR
        rw [if_pos (wanted_plain rfl)]
        go_simp
        refine hKK _ _ ?_ ?_
        · first | exact Below.refl _ _ | exact (Below.refl _ _).alloc (Nat.le_refl _) _ | exact below_draw _ _ | assumption
        · exact rfl
      refine ObsT.cons (k' := 11) rfl ?_ ?_
      · intro fa W hW hSame hRR KK hKK
        try dsimp only at hW
        obtain ⟨fv8, ft8, fm8⟩ := hRR 8 _ 59 rfl rfl (by kernel_rfl) (by kernel_rfl)
        replace fm8 : fv8 = Value.int .i64 (-1) := fm8
        subst fm8
        replace hKK : ∀ v w', Below W.heap.size W w' → v = Value.int .i64 (-1) → KK (Act.put fa _ v) w' := fun v w' h1 h2 => hKK v w' h1 h2
        clear hSame hRR
        rw [if_pos (wanted_plain rfl)]
        go_simp
        refine hKK _ _ ?_ ?_
        · first | exact Below.refl _ _ | exact (Below.refl _ _).alloc (Nat.le_refl _) _ | exact below_draw _ _ | assumption
        · exact rfl
      refine ObsT.cons (k' := 12) rfl ?_ ?_
      · intro fa W hW hSame hRR KK hKK
        try dsimp only at hW
        obtain ⟨fv9, ft9, fm9⟩ := hRR 9 _ 60 rfl rfl (by kernel_rfl) (by kernel_rfl)
        replace fm9 : fv9 = Value.int .i64 0 := fm9
        subst fm9
        replace hKK : ∀ v w', Below W.heap.size W w' → v = Value.int .i64 0 → KK (Act.put fa _ v) w' := fun v w' h1 h2 => hKK v w' h1 h2
        clear hSame hRR
        rw [if_pos (wanted_plain rfl)]
        go_simp
        refine hKK _ _ ?_ ?_
        · first | exact Below.refl _ _ | exact (Below.refl _ _).alloc (Nat.le_refl _) _ | exact below_draw _ _ | assumption
        · exact rfl
      exact ObsT.nil
    case hlast =>
      intro fa w8 d8 hSame hRR
      try dsimp only at d8
      obtain ⟨z1, f14, rfl⟩ := hRR 10 _ 14 rfl rfl rfl
      obtain ⟨z2, f15, rfl⟩ := hRR 11 _ 15 rfl rfl rfl
      rw [Same_shape hSame]
      simp only [List.filterMap_cons, List.filterMap_nil, List.foldl_cons, List.foldl_nil]
      have g14 : fa.tmps.getD 14 undef = .int .i64 (-1) := by simp [Array.getD_eq_getD_getElem?, f14]
      have g15 : fa.tmps.getD 15 undef = .int .i64 0 := by simp [Array.getD_eq_getD_getElem?, f15]
      rw [g14, g15]
      generalize fa.tmps.getD 52 undef = y52
      generalize fa.tmps.getD 53 undef = y53
      generalize fa.tmps.getD 54 undef = y54
      generalize fa.tmps.getD 55 undef = y55
      generalize fa.tmps.getD 56 undef = y56
      generalize fa.tmps.getD 57 undef = y57
      generalize fa.tmps.getD 58 undef = y58
      generalize fa.tmps.getD 51 undef = y51
      generalize fa.tmps.getD 59 undef = y59
      generalize fa.tmps.getD 60 undef = y60
      simp only [Act.put, List.setIfInBounds_toArray, List.set_cons_succ, List.set_cons_zero]
      clear hSame hRR f14 f15 g14 g15
      have B8 := Lib.hid (below_step B7.out d8)
      have U8 := Lib.hid (U7.out.on d8)
      have X8 := X7.keep d8
      have N8 := N7.keep d8
      have M8 := M7.keep d8
      have O8 := O7.keep d8
      clear d8 B7 U7 X7 N7 M7 O7
      go_upto_region 14 with (fail)
      clear CK1 CK2 W1 W2
      refine wp_region_qb (w := w8) (by kernel_rfl) (by kernel_rfl) (by repeat (first | exact Below.refl _ _ | refine below_drewN ?_ _ | refine Below.drew ?_ | refine Below.setCell ?_ (by first | (simp; done) | (simp; omega) | omega) _ | refine Below.alloc ?_ (by first | (simp; done) | (simp; omega) | omega) _)) ?_
      go_big_quiet_step (fail)
      go_big_quiet_step (fail)
      go_big_quiet_step (fail)
      go_big_quiet_step (fail)
      go_big_quiet_step (fail)
      go_big_quiet_step (fail)
      go_big_quiet_step (fail)
      go_big_quiet_step (fail)
      go_big_quiet_step (fail)
      go_big_quiet_step (fail)
      go_big_quiet_step (fail)
      go_big_quiet_step (fail)
      go_big_quiet_step (fail)
      go_big_quiet_step (fail)
      go_big_quiet_step (fail)
      go_big_quiet_step (fail)
      go_big_quiet_step (fail)
      have qU_0 := cell_regrown (us_cells U8.out (by decide) 0 (.string ⟨#[85, 83]⟩) rfl)
      have qU_1 := cell_regrown (us_cells U8.out (by decide) 1 (.int .i64 2007) rfl)
      have qU_2 := cell_regrown (us_cells U8.out (by decide) 2 (.int .i64 32767) rfl)
      have qU_3 := cell_regrown (us_cells U8.out (by decide) 3 (.int .i64 3) rfl)
      have qU_4 := cell_regrown (us_cells U8.out (by decide) 4 (.int .i64 2) rfl)
      have qU_5 := cell_regrown (us_cells U8.out (by decide) 5 (.int .i64 0) rfl)
      have qU_6 := cell_regrown (us_cells U8.out (by decide) 6 (.int .i64 8) rfl)
      have qU_7 := cell_regrown (us_cells U8.out (by decide) 7 (.int .i64 7200) rfl)
      have qU_8 := cell_regrown (us_cells U8.out (by decide) 8 (.int .i64 0) rfl)
      have qU_9 := cell_regrown (us_cells U8.out (by decide) 9 (.int .i64 3600) rfl)
      have qU_10 := cell_regrown (us_cells U8.out (by decide) 10 (.string ⟨#[68]⟩) rfl)
      go_big_quiet_step (fail)
      clear qU_0 qU_1 qU_2 qU_3 qU_4 qU_5 qU_6 qU_7 qU_8 qU_9 qU_10
      go_big_quiet_step (fail)
      go_big_quiet_step (fail)
      have qU_11 := cell_regrown (us_cells U8.out (by decide) 11 (.string ⟨#[85, 83]⟩) rfl)
      have qU_12 := cell_regrown (us_cells U8.out (by decide) 12 (.int .i64 2007) rfl)
      have qU_13 := cell_regrown (us_cells U8.out (by decide) 13 (.int .i64 32767) rfl)
      have qU_14 := cell_regrown (us_cells U8.out (by decide) 14 (.int .i64 11) rfl)
      have qU_15 := cell_regrown (us_cells U8.out (by decide) 15 (.int .i64 2) rfl)
      have qU_16 := cell_regrown (us_cells U8.out (by decide) 16 (.int .i64 0) rfl)
      have qU_17 := cell_regrown (us_cells U8.out (by decide) 17 (.int .i64 1) rfl)
      have qU_18 := cell_regrown (us_cells U8.out (by decide) 18 (.int .i64 7200) rfl)
      have qU_19 := cell_regrown (us_cells U8.out (by decide) 19 (.int .i64 0) rfl)
      have qU_20 := cell_regrown (us_cells U8.out (by decide) 20 (.int .i64 0) rfl)
      have qU_21 := cell_regrown (us_cells U8.out (by decide) 21 (.string ⟨#[83]⟩) rfl)
      go_big_quiet_step (fail)
      clear qU_11 qU_12 qU_13 qU_14 qU_15 qU_16 qU_17 qU_18 qU_19 qU_20 qU_21
      go_big_quiet_want; go_big_quiet_op; apply Exists.intro; refine ⟨fun _ => ?_, ?_⟩
      · exact Calls.regrown_of (P1.out _)
      go_big_quiet_on
      go_big_quiet_step (fail)
      go_big_quiet_step (fail)
      go_big_quiet_step (fail)
      have qX_0 := cell_regrown X8.k0
      have qX_1 := cell_regrown X8.k1
      have qX_2 := cell_regrown X8.k2
      have qX_3 := cell_regrown X8.k3
      have qX_4 := cell_regrown X8.k4
      have qX_5 := cell_regrown X8.k5
      have qX_6 := cell_regrown X8.k6
      have qX_7 := cell_regrown X8.k7
      have qX_8 := cell_regrown X8.k8
      have qX_9 := cell_regrown X8.k9
      have qX_10 := cell_regrown X8.k10
      go_big_quiet_step (fail)
      clear qX_0 qX_1 qX_2 qX_3 qX_4 qX_5 qX_6 qX_7 qX_8 qX_9 qX_10
      have qN_0 := cell_regrown N8.k0
      have qN_1 := cell_regrown N8.k1
      have qN_2 := cell_regrown N8.k2
      have qN_3 := cell_regrown N8.k3
      have qN_4 := cell_regrown N8.k4
      have qN_5 := cell_regrown N8.k5
      have qN_6 := cell_regrown N8.k6
      have qN_7 := cell_regrown N8.k7
      have qN_8 := cell_regrown N8.k8
      have qN_9 := cell_regrown N8.k9
      have qN_10 := cell_regrown N8.k10
      go_big_quiet_step (fail)
      clear qN_0 qN_1 qN_2 qN_3 qN_4 qN_5 qN_6 qN_7 qN_8 qN_9 qN_10
      go_big_quiet_want; go_big_quiet_op; apply Exists.intro; refine ⟨fun _ => ?_, ?_⟩
      · exact Calls.regrown_of (P2.out _)
      go_big_quiet_on
      go_big_quiet_step (fail)
      go_big_quiet_step (fail)
      go_big_quiet_step (fail)
      have qM_0 := cell_regrown M8.k0
      have qM_1 := cell_regrown M8.k1
      have qM_2 := cell_regrown M8.k2
      have qM_3 := cell_regrown M8.k3
      have qM_4 := cell_regrown M8.k4
      have qM_5 := cell_regrown M8.k5
      have qM_6 := cell_regrown M8.k6
      have qM_7 := cell_regrown M8.k7
      have qM_8 := cell_regrown M8.k8
      have qM_9 := cell_regrown M8.k9
      have qM_10 := cell_regrown M8.k10
      go_big_quiet_step (fail)
      clear qM_0 qM_1 qM_2 qM_3 qM_4 qM_5 qM_6 qM_7 qM_8 qM_9 qM_10
      have qO_0 := cell_regrown O8.k0
      have qO_1 := cell_regrown O8.k1
      have qO_2 := cell_regrown O8.k2
      have qO_3 := cell_regrown O8.k3
      have qO_4 := cell_regrown O8.k4
      have qO_5 := cell_regrown O8.k5
      have qO_6 := cell_regrown O8.k6
      have qO_7 := cell_regrown O8.k7
      have qO_8 := cell_regrown O8.k8
      have qO_9 := cell_regrown O8.k9
      have qO_10 := cell_regrown O8.k10
      go_big_quiet_step (fail)
      clear qO_0 qO_1 qO_2 qO_3 qO_4 qO_5 qO_6 qO_7 qO_8 qO_9 qO_10
      go_big_quiet_want; go_big_quiet_op; apply Exists.intro; refine ⟨fun _ => ?_, ?_⟩
      · exact Calls.regrown_of (P3.out _)
      go_big_quiet_on
      go_big_quiet_step (fail)
      go_big_quiet_step (fail)
      go_big_quiet_step (fail)
      have qX_0 := cell_regrown X8.k0
      have qX_1 := cell_regrown X8.k1
      have qX_2 := cell_regrown X8.k2
      have qX_3 := cell_regrown X8.k3
      have qX_4 := cell_regrown X8.k4
      have qX_5 := cell_regrown X8.k5
      have qX_6 := cell_regrown X8.k6
      have qX_7 := cell_regrown X8.k7
      have qX_8 := cell_regrown X8.k8
      have qX_9 := cell_regrown X8.k9
      have qX_10 := cell_regrown X8.k10
      go_big_quiet_step (fail)
      clear qX_0 qX_1 qX_2 qX_3 qX_4 qX_5 qX_6 qX_7 qX_8 qX_9 qX_10
      go_big_quiet_step (fail)
      go_big_quiet_want; go_big_quiet_op; apply Exists.intro; refine ⟨fun _ => ?_, ?_⟩
      · exact Calls.regrown_of (P4.out _)
      go_big_quiet_on
      go_big_quiet_step (fail)
      go_big_quiet_step (fail)
      go_big_quiet_step (fail)
      go_big_quiet_step (fail)
      go_big_quiet_step (fail)
      go_big_quiet_step (fail)
      go_big_quiet_step (fail)
      go_big_quiet_step (fail)
      go_big_quiet_step (fail)
      go_big_quiet_step (fail)
      go_big_quiet_step (fail)
      go_big_quiet_step (fail)
      go_big_quiet_step (fail)
      go_big_quiet_step (fail)
      go_big_quiet_step (fail)
      go_big_quiet_step (fail)
      go_big_quiet_step (fail)
      go_big_quiet_step (fail)
      go_big_quiet_step (fail)
      refine wpQuiet_nil ?_
      intro w9 hq
      have b9 : Below w8.heap.size w8 w9 := by obtain ⟨p, hq⟩ := hq; rw [hq]; exact below_regrown _ _ _
      clear hq
      go_wp2_with fail
      go_ret
      exact ⟨rfl, below_step B8.out b9⟩
end Go.Proofs.Ytjnhaabbnbcaeaa
