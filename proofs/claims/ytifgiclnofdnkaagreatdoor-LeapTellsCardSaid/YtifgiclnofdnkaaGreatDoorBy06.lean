/- Joined: LpE, LpB. -/
import Derived.Test.YtifgiclnofdnkaaGreatDoorBy05
import Derived.Test.YtifgiclnofdnkaaGreatDoorBy01
import Derived.Test.YtifgiclnofdnkaaGreatDoorBy04
set_option linter.unusedVariables false
set_option linter.unusedSimpArgs false
namespace Go.Proofs.YtifgiclnofdnkaaGreatDoor
open Go.RowKit Go.Sort Go.Shelf
set_option maxRecDepth 100000 in
set_option maxHeartbeats 8000000 in
theorem leUtc_any (A : Option Addr) (n c : Nat) (l : List Lp.X) (w : World) (h : SpV w (.slice A n c) l) (hc : n ≤ c) (hcb : c ≤ 9223372036854775807) (hm : l.length ≤ 1000000) (t : Int) :
  Calls Tryz.prog 8 #[.slice A n c, .int .i64 t] w fun e w' => e = .returned (.tuple #[.int .i64 (Lp.ut l t).1, .bool (Lp.ut l t).2.1, .int .i64 (Lp.ut l t).2.2]) ∧ Below w.heap.size w w' := by
 have hn := h.len
 obtain ⟨u, hu⟩ : ∃ u, u = Lp.ut l t := ⟨_, rfl⟩
 rw [← hu]
 have HU := Lib.hid hu
 have HN := Lib.hid hn
 have CR := Lib.hid (fun W (S : SpV W (.slice A n c) l) => leright_any (.slice A n c) l W S hm)
 have b0 : Below w.heap.size w ((w.alloc (.cells #[.slice A n c] 22)).alloc (.cells #[.int .i64 t] 2)) := by repeat (first | exact Below.refl _ _ | refine Below.alloc ?_ (by first | omega | (simp; done) | (simp; omega)) _)
 have H1 := Lib.hid (h.on b0)
 have B1 := Lib.hid b0
 clear b0 h hn hu
 go_enter Tryz.func8, Tryz.ntmps8
 go_upto_region 1 with (fail)
 have X1 : Hid (((w.alloc (.cells #[.slice A n c] 22)).alloc (.cells #[.int .i64 t] 2)).cell? ⟨w.heap.size, 0, none⟩ = some (.slice A n c)) := Lib.hid (by simp [go_sem])
 have Y1 : Hid (((w.alloc (.cells #[.slice A n c] 22)).alloc (.cells #[.int .i64 t] 2)).cell? ⟨w.heap.size + 1, 0, none⟩ = some (.int .i64 t)) := Lib.hid (by simp [go_sem])
 generalize (w.alloc (.cells #[.slice A n c] 22)).alloc (.cells #[.int .i64 t] 2) = w1 at *
 obtain ⟨g, hgz⟩ : ∃ g, g = w.heap.size := ⟨_, rfl⟩
 rw [← hgz] at X1 Y1 ⊢
 clear hgz
 by_cases hr : Lp.right l = true
 case neg =>
  have EU := Lib.hid (show u = (0, false, 4) by rw [HU.out]; unfold Lp.ut; rw [if_neg hr])
  have hr : Lp.right l = false := by simpa using hr
  rw [hr] at CR
  clear hr
  have c0 := X1.out; have c1 := Y1.out
  go_wp2_with fail
  refine (CR.out _ H1.out).mono ?_; rintro e w2 ⟨rfl, b2⟩
  have B2 := Lib.hid (show Below w.heap.size w w2 from B1.out.trans (b2.mono B1.out.size))
  clear c0 c1 b2
  go_wp2
  go_ret3
  exact ⟨by rw [EU.out]; rfl, B2.out⟩
 have HR := Lib.hid hr
 rw [hr] at CR
 obtain ⟨hl1, hok, hf⟩ := Lp.right_of hr
 have HOK := Lib.hid hok
 have GR : Hid (∀ W t, SpV W (.slice A n c) l → -2000000000000 ≤ t → t ≤ 2000000000000 → Calls Tryz.prog 18 #[.slice A n c, .int .i64 t] W fun e w' => e = .returned (.int .i64 (Lp.gone l t)) ∧ Below W.heap.size W w') := Lib.hid (fun W t S t0 t1 => lgone_any A n c l W S hc hcb hr t t0 t1)
 have lo := Lp.gone_bd hr (-1096193779200)
 have hi := Lp.gone_bd hr 971890963199
 have lo0 : -1096193780200 ≤ Lp.gone l (-1096193779200) := by omega
 have lo1 : Lp.gone l (-1096193779200) ≤ -1096193778200 := by omega
 have hi0 : 971890962199 ≤ Lp.gone l 971890963199 := by omega
 have hi1 : Lp.gone l 971890963199 ≤ 971890964199 := by omega
 clear hr hok hf lo hi
 have c0 := X1.out; have c1 := Y1.out
 go_wp2_with fail
 refine (CR.out _ H1.out).mono ?_; rintro e w2 ⟨rfl, b2⟩
 have H2 := Lib.hid (H1.out.on b2)
 have X2 := Lib.hid ((b2.cell (World.block_lt_of_cell? _ _ X1.out)).trans X1.out)
 have Y2 := Lib.hid ((b2.cell (World.block_lt_of_cell? _ _ Y1.out)).trans Y1.out)
 have B2 := Lib.hid (show Below w.heap.size w w2 from B1.out.trans (b2.mono B1.out.size))
 clear c0 c1 b2 B1 X1 Y1 H1 CR
 go_upto_region 3 with (fail)
 have q0 := cell_regrown X2.out
 have q1 := cell_regrown Y2.out
 by_cases f1 : t < Lp.gone l (-1096193779200)
 case pos =>
  have g1 : decide (t < Lp.gone l (-1096193779200)) = true := decide_eq_true f1
  have EU := Lib.hid (show u = (0, false, 1) by rw [HU.out]; unfold Lp.ut; rw [if_pos HR.out, if_neg (by unfold Lp.inR; omega)])
  clear f1
  refine wp_region_qb (w := w2) (by kernel_rfl) (by kernel_rfl) (Below.refl _ _) ?_
  repeat (any_goals (first | go_big_quiet_step (first | (go_at_call 18; exact Calls.regrown_of (GR.out _ _ (H2.out.on (below_regrown _ _ _)) (by omega) (by omega)))) | quiet_step (first | (go_at_call 18; exact Calls.regrown_of (GR.out _ _ (H2.out.on (below_regrown _ _ _)) (by omega) (by omega))))))
  refine wpQuiet_nil ?_
  intro w3 hq
  have b3 : Below w2.heap.size w2 w3 := by obtain ⟨p, hq⟩ := hq; rw [hq]; exact below_regrown _ _ _
  have H3 := Lib.hid (H2.out.on b3)
  have X3 := Lib.hid ((b3.cell (World.block_lt_of_cell? _ _ X2.out)).trans X2.out)
  have Y3 := Lib.hid ((b3.cell (World.block_lt_of_cell? _ _ Y2.out)).trans Y2.out)
  have B3 := Lib.hid (show Below w.heap.size w w3 from B2.out.trans (b3.mono B2.out.size))
  clear hq q0 q1 b3 H2 X2 Y2 B2 GR
  clear lo0 lo1 hi0 hi1
  go_wp2
  go_ret3
  exact ⟨by rw [EU.out]; rfl, B3.out⟩
 have g1 : decide (t < Lp.gone l (-1096193779200)) = false := decide_eq_false f1
 by_cases f2 : Lp.gone l 971890963199 + 1 < t
 case pos =>
  have g2 : decide (Lp.gone l 971890963199 + 1 < t) = true := decide_eq_true f2
  have EU := Lib.hid (show u = (0, false, 1) by rw [HU.out]; unfold Lp.ut; rw [if_pos HR.out, if_neg (by unfold Lp.inR; omega)])
  clear f1 f2
  refine wp_region_qb (w := w2) (by kernel_rfl) (by kernel_rfl) (Below.refl _ _) ?_
  repeat (any_goals (first | go_big_quiet_step (first | (go_at_call 18; exact Calls.regrown_of (GR.out _ _ (H2.out.on (below_regrown _ _ _)) (by omega) (by omega)))) | quiet_step (first | (go_at_call 18; exact Calls.regrown_of (GR.out _ _ (H2.out.on (below_regrown _ _ _)) (by omega) (by omega))))))
  refine wpQuiet_nil ?_
  intro w3 hq
  have b3 : Below w2.heap.size w2 w3 := by obtain ⟨p, hq⟩ := hq; rw [hq]; exact below_regrown _ _ _
  have H3 := Lib.hid (H2.out.on b3)
  have X3 := Lib.hid ((b3.cell (World.block_lt_of_cell? _ _ X2.out)).trans X2.out)
  have Y3 := Lib.hid ((b3.cell (World.block_lt_of_cell? _ _ Y2.out)).trans Y2.out)
  have B3 := Lib.hid (show Below w.heap.size w w3 from B2.out.trans (b3.mono B2.out.size))
  clear hq q0 q1 b3 H2 X2 Y2 B2 GR
  clear lo0 lo1 hi0 hi1
  go_wp2
  go_ret3
  exact ⟨by rw [EU.out]; rfl, B3.out⟩
 have g2 : decide (Lp.gone l 971890963199 + 1 < t) = false := decide_eq_false f2
 have hin : Lp.inR l t := by unfold Lp.inR; omega
 obtain ⟨m, hmm⟩ : ∃ m, m = Lp.uT l t := ⟨_, rfl⟩
 obtain ⟨iu, gu⟩ := Lp.uT_is (n := t) HR.out
 rw [← hmm] at iu gu
 have m1 : m ≤ 971890963199 := iu.top
 have m0 : -1096193779200 ≤ m := by
  by_cases hlt : m < -1096193779200
  ·
   have := iu.next (-1096193779200) hlt (by omega); have := hin.1; omega
  ·
   omega
 have t0 : -2000000000000 ≤ t := by have := hin.1; omega
 have t1 : t ≤ 2000000000000 := by have := hin.2; omega
 obtain ⟨k, hk⟩ : ∃ k, k = Lp.uk l t := ⟨_, rfl⟩
 obtain ⟨s, hs⟩ : ∃ s, s = Lp.cnt (l.take k) := ⟨_, rfl⟩
 obtain ⟨bb, hbb⟩ : ∃ b, b = decide (m + s < t) := ⟨_, rfl⟩
 have EU := Lib.hid (show u = (m, bb, 0) by rw [HU.out]; unfold Lp.ut; rw [if_pos HR.out, if_pos hin, ← hmm, gu, hbb, hs, hk])
 have cut := Lp.uk_cut (n := t) HR.out
 have k9 : k ≤ l.length := by rw [hk]; exact cut.1
 have HM := Lib.hid (show m = min (t - s) (match l[k]? with | some x => x.1 - 1 | none => 971890963199) by rw [hmm, hs, hk]; rfl)
 have HK := Lib.hid hk
 have HB := Lib.hid hbb
 have hst : ∀ x ∈ l, x.2 = 1 ∨ x.2 = -1 := fun x hx => (HOK.out x hx).2.2
 have CC := Lib.hid (fun W (S : SpV W (.slice A n c) l) => (lcount_any (.slice A k c) (l.take k) W (spv_take S k k9 c) (by rw [List.length_take]; omega) (fun x hx => hst x (List.mem_of_mem_take hx))).mono (fun _ _ h => (⟨h.1, h.2.1⟩ : _ ∧ _)))
 have hb := Lp.cnt_bd (l.take k) (fun x hx => hst x (List.mem_of_mem_take hx))
 have hb2 : (l.take k).length ≤ 1000 := by rw [List.length_take]; omega
 rw [← hs] at hb CC
 have s0 : -1000 ≤ s := by omega
 have s1 : s ≤ 1000 := by omega
 clear f1 f2 hin hmm iu gu hk hs hbb cut hst hb hb2
 refine wp_region_qb (w := w2) (by kernel_rfl) (by kernel_rfl) (Below.refl _ _) ?_
 repeat (any_goals (first | go_big_quiet_step (first | (go_at_call 18; exact Calls.regrown_of (GR.out _ _ (H2.out.on (below_regrown _ _ _)) (by omega) (by omega)))) | quiet_step (first | (go_at_call 18; exact Calls.regrown_of (GR.out _ _ (H2.out.on (below_regrown _ _ _)) (by omega) (by omega))))))
 refine wpQuiet_nil ?_
 intro w3 hq
 have b3 : Below w2.heap.size w2 w3 := by obtain ⟨p, hq⟩ := hq; rw [hq]; exact below_regrown _ _ _
 have H3 := Lib.hid (H2.out.on b3)
 have X3 := Lib.hid ((b3.cell (World.block_lt_of_cell? _ _ X2.out)).trans X2.out)
 have Y3 := Lib.hid ((b3.cell (World.block_lt_of_cell? _ _ Y2.out)).trans Y2.out)
 have B3 := Lib.hid (show Below w.heap.size w w3 from B2.out.trans (b3.mono B2.out.size))
 clear hq q0 q1 b3 H2 X2 Y2 B2 GR
 clear g1 g2 lo0 lo1 hi0 hi1
 go_upto_region 5 with (fail)
 have hs := Any.sort_Search Tryz.search39 21 #[.pointer (some ⟨g, 0, none⟩), .pointer (some ⟨g + 1, 0, none⟩)] l.length (Lp.ub l t) w3
  (enters_of Tryz.func21 (by kernel_rfl) rfl) (by omega)
  (fun m os i hi => by
   have bg : Below w3.heap.size w3 (grow (w3.drewN m) os) := below_grownN w3 m os
   exact lutc1_any (H3.out.on bg) hc hcb hl1 HOK.out g (g + 1) t (cell_grownN X3.out m os) (cell_grownN Y3.out m os) i hi)
  (Lp.ub_mono HR.out)
 rw [← HN.out, show (List.range n).countP (fun i => !Lp.ub l t i) = k from by rw [HN.out]; exact HK.out.symm] at hs
 have HC := Lib.hid hs
 have n9 : n ≤ 1000 := by have := HN.out; omega
 have k8 : k ≤ n := by have := HN.out; omega
 have k7 : (k : Int) ≤ c := by omega
 have k6 : k ≤ c := by omega
 clear hs HU HR k9 hl1
 have c0 := X3.out
 go_wp2_with fail
 refine HC.out.mono ?_
 rintro e w4 ⟨rfl, q, os, rfl⟩
 have b4 := below_grownN w3 q os
 have H4 := Lib.hid (H3.out.on b4)
 have X4 := Lib.hid (cell_grownN X3.out q os)
 have Y4 := Lib.hid (cell_grownN Y3.out q os)
 have B4 := Lib.hid (show Below w.heap.size w (grow (w3.drewN q) os) from B3.out.trans (b4.mono B3.out.size))
 clear c0 b4 HC H3 X3 Y3 B3
 generalize grow (w3.drewN q) os = w4 at *
 have c0 := X4.out
 have c1 := Y4.out
 by_cases hkn : k < n
 ·
  have hkl : k < l.length := by rw [← HN.out]; exact hkn
  have j1 : (k : Int) < n := by omega
  obtain ⟨a, rfl, hab, p1, -⟩ := H4.out.get k hkl
  have x9 := HM.out
  rw [List.getElem?_eq_getElem hkl] at x9
  replace x9 : m = min (t - s) (l[k].1 - 1) := x9
  have HM2 := Lib.hid x9
  have x8 : -1096193779200 ≤ l[k].1 ∧ l[k].1 ≤ 971890963199 := ⟨(HOK.out _ (List.getElem_mem hkl)).1, (HOK.out _ (List.getElem_mem hkl)).2.1⟩
  clear x9
  generalize l[k].1 = x at *
  have x0 := x8.1
  have x1 := x8.2
  clear x8
  go_wp2_with fail
  refine (CC.out _ H4.out).mono ?_; rintro e w5 ⟨rfl, b5⟩
  have Y5 := Lib.hid ((b5.cell (World.block_lt_of_cell? _ _ Y4.out)).trans Y4.out)
  have B5 := Lib.hid (show Below w.heap.size w w5 from B4.out.trans (b5.mono B4.out.size))
  clear c0 c1 b5
  have c1 := Y5.out
  go_upto_region 11 with (fail)
  rw [← HM2.out]
  have f3 : decide (m + s < t) = bb := HB.out.symm
  go_quiet (fail)
  go_wp2
  go_ret3
  exact ⟨by rw [EU.out]; rfl, _root_.Go.below_drewN B5.out _⟩
 ·
  have j1 : ¬ (k : Int) < n := by omega
  have x9 := HM.out
  rw [List.getElem?_eq_none (by rw [← HN.out]; omega)] at x9
  replace x9 : m = min (t - s) 971890963199 := x9
  have HM2 := Lib.hid x9
  clear x9
  go_wp2_with fail
  refine (CC.out _ H4.out).mono ?_; rintro e w5 ⟨rfl, b5⟩
  have Y5 := Lib.hid ((b5.cell (World.block_lt_of_cell? _ _ Y4.out)).trans Y4.out)
  have B5 := Lib.hid (show Below w.heap.size w w5 from B4.out.trans (b5.mono B4.out.size))
  clear c0 c1 b5
  have c1 := Y5.out
  go_upto_region 11 with (fail)
  rw [← HM2.out]
  have f3 : decide (m + s < t) = bb := HB.out.symm
  go_quiet (fail)
  go_wp2
  go_ret3
  exact ⟨by rw [EU.out]; rfl, _root_.Go.below_drewN B5.out _⟩
end Go.Proofs.YtifgiclnofdnkaaGreatDoor
set_option linter.unusedVariables false
set_option linter.unusedSimpArgs false
namespace Go.Proofs.YtifgiclnofdnkaaGreatDoor
open Go.RowKit Go.Sort
set_option maxHeartbeats 4000000 in
theorem rleright_big (v : Value) (l : List Lp.X) (w : World) (h : SpV w v l) (hm : l.length ≤ 100000000) :
  Calls Tryz.prog 16 #[v] w fun e w' => e = .returned (.bool (Lp.right l)) ∧ Below w.heap.size w w' := by
 rw [Lp.right_sc]
 have H := Lib.hid h
 obtain ⟨A, c, rfl, -⟩ := h
 obtain ⟨n, hn⟩ : ∃ n, l.length = n := ⟨_, rfl⟩
 rw [hn] at hm H ⊢
 have HN := Lib.hid hn
 clear hn
 obtain ⟨ans, hans⟩ : ∃ ans, ans = Lp.sc none l := ⟨_, rfl⟩
 rw [← hans]
 have HA := Lib.hid hans.symm
 clear hans
 obtain ⟨bb, hbb⟩ : ∃ b, b = decide (n ≤ 1000) := ⟨_, rfl⟩
 rw [← hbb]
 have HB := Lib.hid hbb
 clear hbb
 go_enter Tryz.func16, Tryz.ntmps16
 go_wp2
 go_loopw [7] (fun i wr => ∃ (k : Nat) (o : Option Int), k ≤ n ∧ i = .int .i64 k ∧ Below w.heap.size w wr ∧ Hid (Lp.sc o (l.drop k) = ans) ∧ Hid ((k = 0 ∧ o = none) ∨ ∃ h : k - 1 < l.length, 0 < k ∧ o = some l[k - 1].1 ∧ Lp.ok1 l[k - 1])) (fun i _ => n - (intOf i).toNat)
 case atStart => exact ⟨0, none, Nat.zero_le _, rfl, Below.refl _ _, HA, Lib.hid (.inl ⟨rfl, rfl⟩)⟩
 case round =>
  rename World => w1
  obtain ⟨k, o, hk, rfl, B, hinv, hprev⟩ := hrel
  have B1 := Lib.hid B
  have H1 := Lib.hid (H.out.on B)
  clear B
  by_cases hlt : k < n
  ·
   have hkl : k < l.length := by rw [HN.out]; exact hlt
   have hd := hinv.out
   rw [Lp.sc_drop o l k hkl] at hd
   have hd : (decide (Lp.ok1 (l[k].1, l[k].2)) && Lp.gap o l[k].1 && Lp.sc (some l[k].1) (l.drop (k + 1))) = ans := hd
   obtain ⟨a, rfl, hab, g1, g2⟩ := H1.out.get k hkl
   have NX := Lib.hid (show ∀ o, o = some l[k].1 → Lp.ok1 (l[k].1, l[k].2) → (k + 1 = 0 ∧ o = none) ∨ ∃ h : k + 1 - 1 < l.length, 0 < k + 1 ∧ o = some l[k + 1 - 1].1 ∧ Lp.ok1 l[k + 1 - 1] from fun o ho h1 => .inr ⟨hkl, by omega, ho, h1⟩)
   have HP : Hid (o = none ∧ k = 0 ∨ ∃ t j, o = some t ∧ k = j + 1 ∧ (-1096193779200 ≤ t ∧ t ≤ 971890963199) ∧ Hid (∀ W, Below w.heap.size w W → W.cell? (a.add (j * 2)) = some (.int .i64 t))) := Lib.hid (by
    rcases hprev.out with ⟨h0, h1⟩ | ⟨hp, h0, h1, h2⟩
    ·
     exact .inl ⟨h1, h0⟩
    ·
     refine .inr ⟨_, k - 1, h1, by omega, ⟨h2.1, h2.2.1⟩, Lib.hid fun W hW => ?_⟩
     obtain ⟨a', ha, -, q1, q2⟩ := (H.out.on hW).get (k - 1) hp
     cases ha
     exact q1)
   clear hinv hprev
   generalize l[k].1 = x at *
   generalize l[k].2 = y at *
   have i1 : (k : Int) < n := by omega
   by_cases h1 : x < -1096193779200
   case pos =>
    have f1 : decide (x < -1096193779200) = true := decide_eq_true h1
    have EX := Lib.hid (show ans = false by rw [← hd, decide_eq_false (show ¬ Lp.ok1 (x, y) from fun h => by have := h.1; dsimp only at this; omega)]; rfl)
    clear hd HP
    go_wp2_with fail
    refine wp_named ?_; intro w2 hw2
    have d2 : Below w1.heap.size w1 w2 := by rw [hw2]; exact gr0
    have B2 := Lib.hid (below_step B1.out d2)
    have aP := B1.out.size
    have P2 : Bk2 w2 (w1.heap.size) (.int .i64 x) (.int .i64 y) := by rw [hw2]; exact ⟨by simp <;> omega, by intro j; simp [go_sem], by simp [go_sem], by simp [go_sem]⟩
    clear d2 hw2 B1
    have tx := P2; obtain ⟨cP_b, cP_f, cP_0, cP_1⟩ := tx
    go_wp2_with fail
    go_quiet (fail)
    clear cP_b cP_f cP_0 cP_1
    go_wp2
    go_ret
    exact ⟨by rw [EX.out]; first | rfl | simp, by repeat (first | exact B2.out | refine _root_.Go.below_drewN ?_ _ | refine Below.drew ?_)⟩
   have f1 : decide (x < -1096193779200) = false := decide_eq_false h1
   by_cases h2 : 971890963199 < x
   case pos =>
    have f2 : decide (971890963199 < x) = true := decide_eq_true h2
    have EX := Lib.hid (show ans = false by rw [← hd, decide_eq_false (show ¬ Lp.ok1 (x, y) from fun h => by have := h.2.1; dsimp only at this; omega)]; rfl)
    clear hd HP
    go_wp2_with fail
    refine wp_named ?_; intro w2 hw2
    have d2 : Below w1.heap.size w1 w2 := by rw [hw2]; exact gr0
    have B2 := Lib.hid (below_step B1.out d2)
    have aP := B1.out.size
    have P2 : Bk2 w2 (w1.heap.size) (.int .i64 x) (.int .i64 y) := by rw [hw2]; exact ⟨by simp <;> omega, by intro j; simp [go_sem], by simp [go_sem], by simp [go_sem]⟩
    clear d2 hw2 B1
    have tx := P2; obtain ⟨cP_b, cP_f, cP_0, cP_1⟩ := tx
    go_wp2_with fail
    go_quiet (fail)
    clear cP_b cP_f cP_0 cP_1
    go_wp2
    go_ret
    exact ⟨by rw [EX.out]; first | rfl | simp, by repeat (first | exact B2.out | refine _root_.Go.below_drewN ?_ _ | refine Below.drew ?_)⟩
   have f2 : decide (971890963199 < x) = false := decide_eq_false h2
   have x0 : -1096193779200 ≤ x := by omega
   have x1 : x ≤ 971890963199 := by omega
   by_cases h3 : y = 1
   ·
    subst h3
    have OK := Lib.hid (show Lp.ok1 (x, 1) from ⟨x0, x1, .inl rfl⟩)
    rcases HP.out with ⟨rfl, hk0⟩ | ⟨t, j, rfl, hkj, ⟨tl, th⟩, q⟩
    ·
     have gk : decide (0 < k) = false := decide_eq_false (by omega)
     clear hk0
     have EX := Lib.hid (show Lp.sc (some x) (l.drop (k + 1)) = ans by rw [← hd, decide_eq_true OK.out]; rfl)
     clear hd HP
     go_wp2_with fail
     refine wp_named ?_; intro w2 hw2
     have d2 : Below w1.heap.size w1 w2 := by rw [hw2]; exact gr0
     have B2 := Lib.hid (below_step B1.out d2)
     have aP := B1.out.size
     have P2 : Bk2 w2 (w1.heap.size) (.int .i64 x) (.int .i64 1) := by rw [hw2]; exact ⟨by simp <;> omega, by intro j; simp [go_sem], by simp [go_sem], by simp [go_sem]⟩
     clear d2 hw2 B1
     have tx := P2; obtain ⟨cP_b, cP_f, cP_0, cP_1⟩ := tx
     go_wp2_with fail
     go_quiet (fail)
     clear cP_b cP_f cP_0 cP_1
     go_wp2
     go_roundw; case rel => exact ⟨k + 1, some x, by omega, by go_num, by repeat (first | exact B2.out | refine _root_.Go.below_drewN ?_ _ | refine Below.drew ?_), EX, Lib.hid (NX.out _ rfl OK.out)⟩
     case measure => simp [intOf]; omega
    ·
     have gk : decide (0 < k) = true := decide_eq_true (by omega)
     have ek : (k : Int) - 1 = (j : Int) := by omega
     clear hkj
     by_cases hdf : 2419200 ≤ x - t
     ·
      have gt : decide (x - t < 2419200) = false := decide_eq_false (by omega)
      have EX := Lib.hid (show Lp.sc (some x) (l.drop (k + 1)) = ans by rw [← hd, decide_eq_true OK.out]; simp only [Lp.gap, decide_eq_true hdf]; rfl)
      clear hd HP
      go_wp2_with fail
      refine wp_named ?_; intro w2 hw2
      have d2 : Below w1.heap.size w1 w2 := by rw [hw2]; exact gr0
      have B2 := Lib.hid (below_step B1.out d2)
      have aP := B1.out.size
      have P2 : Bk2 w2 (w1.heap.size) (.int .i64 x) (.int .i64 1) := by rw [hw2]; exact ⟨by simp <;> omega, by intro j; simp [go_sem], by simp [go_sem], by simp [go_sem]⟩
      clear d2 hw2 B1
      have q2 := q.out _ B2.out
      have tx := P2; obtain ⟨cP_b, cP_f, cP_0, cP_1⟩ := tx
      go_wp2_with fail
      go_quiet (fail)
      clear cP_b cP_f cP_0 cP_1
      go_wp2
      go_roundw; case rel => exact ⟨k + 1, some x, by omega, by go_num, by repeat (first | exact B2.out | refine _root_.Go.below_drewN ?_ _ | refine Below.drew ?_), EX, Lib.hid (NX.out _ rfl OK.out)⟩
      case measure => simp [intOf]; omega
     ·
      have gt : decide (x - t < 2419200) = true := decide_eq_true (by omega)
      have EX := Lib.hid (show ans = false by rw [← hd, decide_eq_true OK.out]; simp only [Lp.gap, decide_eq_false hdf]; rfl)
      clear hd HP
      go_wp2_with fail
      refine wp_named ?_; intro w2 hw2
      have d2 : Below w1.heap.size w1 w2 := by rw [hw2]; exact gr0
      have B2 := Lib.hid (below_step B1.out d2)
      have aP := B1.out.size
      have P2 : Bk2 w2 (w1.heap.size) (.int .i64 x) (.int .i64 1) := by rw [hw2]; exact ⟨by simp <;> omega, by intro j; simp [go_sem], by simp [go_sem], by simp [go_sem]⟩
      clear d2 hw2 B1
      have q2 := q.out _ B2.out
      have tx := P2; obtain ⟨cP_b, cP_f, cP_0, cP_1⟩ := tx
      go_wp2_with fail
      go_quiet (fail)
      clear cP_b cP_f cP_0 cP_1
      go_wp2
      go_ret
      exact ⟨by rw [EX.out]; first | rfl | simp, by repeat (first | exact B2.out | refine _root_.Go.below_drewN ?_ _ | refine Below.drew ?_)⟩
   ·
    have e3 : (y == 1) = false := by simpa using h3
    by_cases h4 : y = -1
    ·
     subst h4
     have OK := Lib.hid (show Lp.ok1 (x, -1) from ⟨x0, x1, .inr rfl⟩)
     clear h3 e3
     rcases HP.out with ⟨rfl, hk0⟩ | ⟨t, j, rfl, hkj, ⟨tl, th⟩, q⟩
     ·
      have gk : decide (0 < k) = false := decide_eq_false (by omega)
      clear hk0
      have EX := Lib.hid (show Lp.sc (some x) (l.drop (k + 1)) = ans by rw [← hd, decide_eq_true OK.out]; rfl)
      clear hd HP
      go_wp2_with fail
      refine wp_named ?_; intro w2 hw2
      have d2 : Below w1.heap.size w1 w2 := by rw [hw2]; exact gr0
      have B2 := Lib.hid (below_step B1.out d2)
      have aP := B1.out.size
      have P2 : Bk2 w2 (w1.heap.size) (.int .i64 x) (.int .i64 (-1)) := by rw [hw2]; exact ⟨by simp <;> omega, by intro j; simp [go_sem], by simp [go_sem], by simp [go_sem]⟩
      clear d2 hw2 B1
      have tx := P2; obtain ⟨cP_b, cP_f, cP_0, cP_1⟩ := tx
      go_wp2_with fail
      go_quiet (fail)
      clear cP_b cP_f cP_0 cP_1
      go_wp2
      go_roundw; case rel => exact ⟨k + 1, some x, by omega, by go_num, by repeat (first | exact B2.out | refine _root_.Go.below_drewN ?_ _ | refine Below.drew ?_), EX, Lib.hid (NX.out _ rfl OK.out)⟩
      case measure => simp [intOf]; omega
     ·
      have gk : decide (0 < k) = true := decide_eq_true (by omega)
      have ek : (k : Int) - 1 = (j : Int) := by omega
      clear hkj
      by_cases hdf : 2419200 ≤ x - t
      ·
       have gt : decide (x - t < 2419200) = false := decide_eq_false (by omega)
       have EX := Lib.hid (show Lp.sc (some x) (l.drop (k + 1)) = ans by rw [← hd, decide_eq_true OK.out]; simp only [Lp.gap, decide_eq_true hdf]; rfl)
       clear hd HP
       go_wp2_with fail
       refine wp_named ?_; intro w2 hw2
       have d2 : Below w1.heap.size w1 w2 := by rw [hw2]; exact gr0
       have B2 := Lib.hid (below_step B1.out d2)
       have aP := B1.out.size
       have P2 : Bk2 w2 (w1.heap.size) (.int .i64 x) (.int .i64 (-1)) := by rw [hw2]; exact ⟨by simp <;> omega, by intro j; simp [go_sem], by simp [go_sem], by simp [go_sem]⟩
       clear d2 hw2 B1
       have q2 := q.out _ B2.out
       have tx := P2; obtain ⟨cP_b, cP_f, cP_0, cP_1⟩ := tx
       go_wp2_with fail
       go_quiet (fail)
       clear cP_b cP_f cP_0 cP_1
       go_wp2
       go_roundw; case rel => exact ⟨k + 1, some x, by omega, by go_num, by repeat (first | exact B2.out | refine _root_.Go.below_drewN ?_ _ | refine Below.drew ?_), EX, Lib.hid (NX.out _ rfl OK.out)⟩
       case measure => simp [intOf]; omega
      ·
       have gt : decide (x - t < 2419200) = true := decide_eq_true (by omega)
       have EX := Lib.hid (show ans = false by rw [← hd, decide_eq_true OK.out]; simp only [Lp.gap, decide_eq_false hdf]; rfl)
       clear hd HP
       go_wp2_with fail
       refine wp_named ?_; intro w2 hw2
       have d2 : Below w1.heap.size w1 w2 := by rw [hw2]; exact gr0
       have B2 := Lib.hid (below_step B1.out d2)
       have aP := B1.out.size
       have P2 : Bk2 w2 (w1.heap.size) (.int .i64 x) (.int .i64 (-1)) := by rw [hw2]; exact ⟨by simp <;> omega, by intro j; simp [go_sem], by simp [go_sem], by simp [go_sem]⟩
       clear d2 hw2 B1
       have q2 := q.out _ B2.out
       have tx := P2; obtain ⟨cP_b, cP_f, cP_0, cP_1⟩ := tx
       go_wp2_with fail
       go_quiet (fail)
       clear cP_b cP_f cP_0 cP_1
       go_wp2
       go_ret
       exact ⟨by rw [EX.out]; first | rfl | simp, by repeat (first | exact B2.out | refine _root_.Go.below_drewN ?_ _ | refine Below.drew ?_)⟩
    ·
     have e4 : (y == -1) = false := by simpa using h4
     have EX := Lib.hid (show ans = false by rw [← hd, decide_eq_false (show ¬ Lp.ok1 (x, y) from fun h => h.2.2.elim h3 h4)]; rfl)
     have HE := Lib.hid (show ((y != 1) = true ∧ (y == 1) = false) ∧ ((y != -1) = true ∧ (y == -1) = false) from ⟨⟨by simpa using h3, e3⟩, by simpa using h4, e4⟩)
     clear e3 e4 h3 h4
     clear hd HP
     go_wp2_with fail
     refine wp_named ?_; intro w2 hw2
     have d2 : Below w1.heap.size w1 w2 := by rw [hw2]; exact gr0
     have B2 := Lib.hid (below_step B1.out d2)
     have aP := B1.out.size
     have P2 : Bk2 w2 (w1.heap.size) (.int .i64 x) (.int .i64 y) := by rw [hw2]; exact ⟨by simp <;> omega, by intro j; simp [go_sem], by simp [go_sem], by simp [go_sem]⟩
     clear d2 hw2 B1
     have tx := P2; obtain ⟨cP_b, cP_f, cP_0, cP_1⟩ := tx
     go_wp2_with fail
     have m3 := HE.out.1.1
     have m4 := HE.out.2.1
     have e3 := HE.out.1.2
     have e4 := HE.out.2.2
     go_quiet (fail)
     clear cP_b cP_f cP_0 cP_1
     go_wp2
     go_ret
     exact ⟨by rw [EX.out]; first | rfl | simp, by repeat (first | exact B2.out | refine _root_.Go.below_drewN ?_ _ | refine Below.drew ?_)⟩
  ·
   have EX := Lib.hid (show ans = true by rw [← hinv.out, List.drop_of_length_le (by rw [HN.out]; omega)]; rfl)
   clear hinv hprev
   have i2 : ¬ (k : Int) < n := by omega
   by_cases hn1 : n ≤ 1000
   ·
    have g9 : (n : Int) ≤ 1000 := by omega
    have EB := Lib.hid (show bb = true by rw [HB.out]; exact decide_eq_true hn1)
    go_wp2
    go_ret
    exact ⟨by rw [EX.out, EB.out]; rfl, B1.out⟩
   ·
    have g9 : ¬ (n : Int) ≤ 1000 := by omega
    have EB := Lib.hid (show bb = false by rw [HB.out]; exact decide_eq_false hn1)
    go_wp2
    go_ret
    exact ⟨by rw [EX.out, EB.out]; rfl, B1.out⟩
theorem rleright_any (v : Value) (l : List Lp.X) (w : World) (h : SpV w v l) (hm : l.length ≤ 1000000) :
  Calls Tryz.prog 16 #[v] w fun e w' => e = .returned (.bool (Lp.right l)) ∧ Below w.heap.size w w' := rleright_big v l w h (by omega)
end Go.Proofs.YtifgiclnofdnkaaGreatDoor
