/- Joined: ErJ. -/
import Derived.Test.YtpggfhmnhbnefaaGreatDoorBd01
import Derived.Test.YtpggfhmnhbnefaaGreatDoorBd27
import Derived.Test.YtpggfhmnhbnefaaGreatDoorBd28
import Derived.BigRegion
import Derived.Deep.Cut
set_option linter.unusedVariables false
set_option linter.unusedSimpArgs false
namespace Go.Proofs.YtpggfhmnhbnefaaGreatDoor
open Go.RowKit Go.Sort
theorem fst_zero {l : List Int} (h : Ru.fst l = 0) : ∀ x ∈ l, x = 0 := by
 induction l with
 | nil => intro x hx; cases hx
 | cons a r ih =>
  by_cases ha : a = 0
  ·
   rw [Ru.fst_yes ha] at h
   intro x hx
   rcases List.mem_cons.1 hx with rfl | hx
   ·
    exact ha
   ·
    exact ih h x hx
  ·
   rw [Ru.fst_no ha] at h; exact absurd h ha
theorem fst_four (a b c : Int) (r : List Int) : Ru.fst (a :: b :: c :: r) = Ru.fst [a, b, c, Ru.fst r] := by
 by_cases ha : a = 0
 ·
  rw [Ru.fst_yes ha, Ru.fst_yes ha]
  by_cases hb : b = 0
  ·
   rw [Ru.fst_yes hb, Ru.fst_yes hb]
   by_cases hc : c = 0
   ·
    rw [Ru.fst_yes hc, Ru.fst_yes hc]
    by_cases hd : Ru.fst r = 0
    ·
     rw [Ru.fst_yes hd, hd]; rfl
    ·
     rw [Ru.fst_no hd]
   ·
    rw [Ru.fst_no hc, Ru.fst_no hc]
  ·
   rw [Ru.fst_no hb, Ru.fst_no hb]
 ·
  rw [Ru.fst_no ha, Ru.fst_no ha]
theorem rErRead_other (v : Value) (l : List ByteArray) (w : World) (S : StS w v l) (hl : l.length < 3 ∨ (7 < l.length ∧ l.length ≤ 1000000)) :
  Calls Tryz.prog 19 #[v] w fun e w' => e = .returned (.tuple #[(Er.rd l).1.v, .int .i64 (Er.rd l).2]) ∧ Below w.heap.size w w' := by
 obtain ⟨A, c, rfl, -⟩ := S
 rw [Er.rd_other _ (by omega)]
 obtain ⟨N, hN⟩ : ∃ N, N = l.length := ⟨_, rfl⟩
 rw [← hN] at hl ⊢
 clear hN
 by_cases h : N < 3
 ·
  rw [if_pos h]
  have g : (N : Int) < 3 := by omega
  clear h hl
  go_enter Tryz.func19, Tryz.ntmps19
  go_wp2_with fail
  exact bodyPost_ret (v := .tuple #[.agg #[.int .i64 0, .int .i64 0, .int .i64 0, .string ⟨#[]⟩, .string ⟨#[]⟩, .bool false, .int .i64 0, .int .i64 0, .int .i64 0, .int .i64 0, .int .i64 0, .int .i64 0, .int .i64 0], .int .i64 5]) (by simp [results, Tryz.results19, go_sem]) rfl ⟨rfl, by repeat (first | exact Below.refl _ _ | refine Below.setCell ?_ (by first | (simp; done) | (simp; omega) | omega) _ | refine Below.alloc ?_ (by first | (simp; done) | (simp; omega) | omega) _)⟩
 ·
  rw [if_neg h]
  have g : ¬ (N : Int) < 3 := by omega
  have g2 : 7 < (N : Int) := by omega
  have g3 : N ≤ 1000000 := by omega
  clear h hl
  go_enter Tryz.func19, Tryz.ntmps19
  go_wp2_with fail
  exact bodyPost_ret (v := .tuple #[.agg #[.int .i64 0, .int .i64 0, .int .i64 0, .string ⟨#[]⟩, .string ⟨#[]⟩, .bool false, .int .i64 0, .int .i64 0, .int .i64 0, .int .i64 0, .int .i64 0, .int .i64 0, .int .i64 0], .int .i64 6]) (by simp [results, Tryz.results19, go_sem]) rfl ⟨rfl, by repeat (first | exact Below.refl _ _ | refine Below.setCell ?_ (by first | (simp; done) | (simp; omega) | omega) _ | refine Below.alloc ?_ (by first | (simp; done) | (simp; omega) | omega) _)⟩
set_option maxHeartbeats 8000000 in
set_option maxRecDepth 100000 in
theorem rErRead_a (q : Addr) (n c : Nat) (f0 f1 f2 : ByteArray) (r : List ByteArray) (hr : r.length ≤ 4) (hn : n = r.length + 3) (hc : n ≤ c) (h8 : c = 3) (w : World) (S : StS w (.slice (some q) n c) (f0 :: f1 :: f2 :: r)) (hz : ∀ x ∈ f0 :: f1 :: f2 :: r, x.size ≤ 600) :
  Calls Tryz.prog 19 #[.slice (some q) n c] w fun e w' => e = .returned (.tuple #[(Er.rd (f0 :: f1 :: f2 :: r)).1.v, .int .i64 (Er.rd (f0 :: f1 :: f2 :: r)).2]) ∧ Below w.heap.size w w' := by
 have z0 := hz f0 (by simp); have z1 := hz f1 (by simp); have z2 := hz f2 (by simp)
 have AR := Lib.hid (fun W => raread_any f0 W z0)
 have RR := Lib.hid (fun W => rrules_any f1 W z1)
 have CK := Lib.hid (fun W => rcheck_any f2 W (Nat.le_trans z2 (by decide)))
 have EN := Lib.hid (fun W v' (s : StS W v' r) => rend_all v' r hr W s (fun x hx => hz x (by simp [hx])))
 unfold Er.U.v at EN
 have SB := Lib.hid (fun W (b : Below w.heap.size w W) => (⟨_, _, rfl, fun h => absurd h (by omega)⟩ : StS W (.slice (some q) r.length 0) r))
 subst h8
 obtain ⟨A, c1, hv, hA⟩ := S
 obtain ⟨q', e, hq, hcell⟩ := hA (by simp)
 have eA : some q = A := by injection hv
 rw [e] at eA
 cases eA
 clear hv
 have HC : Hid (∀ W, Below w.heap.size w W → W.cell? q = some (.string f0) ∧ W.cell? ⟨q.block, q.off + 1, none⟩ = some (.string f1) ∧ W.cell? ⟨q.block, q.off + 2, none⟩ = some (.string f2)) := fun W b => by
  have k : ∀ i x, ((f0 :: f1 :: f2 :: r).map Value.string)[i]? = some x → W.cell? (q.add i) = some x := fun i x hx => by
   have := hcell i x hx
   exact (b.cell (by rw [blk_add]; exact hq)).trans this
  have k0 := k 0 _ rfl
  rw [Addr.add_zero'] at k0
  have kk : ∀ i, q.add (i + 1) = ⟨q.block, q.off + (i + 1), none⟩ := fun i => by rw [Addr.add_succ']
  have k1 := k 1 _ rfl; have k2 := k 2 _ rfl
  rw [kk 0] at k1; rw [kk 1] at k2
  exact ⟨k0, k1, k2⟩
 have n1 : q.block ≠ w.heap.size := Nat.ne_of_lt hq
 have n3 : w.heap.size ≠ q.block := Nat.ne_of_gt hq
 rw [Er.rd_some f0 f1 f2 r hr]
 have hrd : Er.rdW f0 f1 f2 r = (Er.am 54000 f0).2 :: Er.rq f1 :: (Fo.kd f2.data.toList).2 :: Er.enW r := rfl
 rw [hrd, fst_four]
 clear hrd
 unfold Er.rl Er.am
 generalize (Am.rd f0).1 = n0 at *
 generalize (Am.rd f0).2 = q0 at *
 obtain ⟨bad, hbad⟩ : ∃ b : Bool, b = decide (q0 = 0 ∧ (n0 < -54000 ∨ 54000 < n0)) := ⟨_, rfl⟩
 have ha : Er.amF 54000 n0 q0 = if bad then (0, 1) else (n0, q0) := by
  unfold Er.amF
  by_cases h : q0 = 0 ∧ (n0 < -54000 ∨ 54000 < n0)
  ·
   rw [if_pos h, hbad, decide_eq_true h]; rfl
  ·
   rw [if_neg h, hbad, decide_eq_false h]; rfl
 rw [ha]
 obtain ⟨qa, hqa⟩ : ∃ x : Int, x = (if bad then ((0 : Int), (1 : Int)) else (n0, q0)).2 := ⟨_, rfl⟩
 obtain ⟨oa, hoa⟩ : ∃ x : Int, x = (if bad then ((0 : Int), (1 : Int)) else (n0, q0)).1 := ⟨_, rfl⟩
 rw [← hqa, ← hoa]
 have HO : Hid (qa = 0 → oa = n0) := fun h => by
  rw [hoa]
  cases bad with
  | true => rw [hqa] at h; exact absurd (show (1 : Int) = 0 from h) (by decide)
  | false => rfl
 have HQ : Hid (qa = if bad then 1 else q0) := by cases bad <;> exact hqa
 have HBAD := Lib.hid hbad
 have hq0 : 3 ≤ n := by omega
 have hq7 : n ≤ 7 := by omega
 have hn7 : (r.length : Int) ≤ 4 := by omega
 clear hbad ha hqa hoa hcell hz z0 z1 z2 hA hr
 generalize (Er.rk f1).1 = kind at *
 generalize (Er.rk f1).2.1 = save at *
 generalize (Er.rk f1).2.2 = rs at *
 generalize Er.rq f1 = qb at *
 generalize (Fo.kd f2.data.toList).2 = qc at *
 generalize Er.enV r = V at *
 generalize Ru.fst (Er.enW r) = qd at *
 obtain ⟨F, hF⟩ : ∃ F, F = Ru.fst [qa, qb, qc, qd] := ⟨_, rfl⟩
 rw [← hF]
 have HF := Lib.hid hF; clear hF
 obtain ⟨R, hR⟩ : ∃ R : Er.E × Int, R = if F = 0 then ((⟨oa, kind, save, rs, f2, V⟩ : Er.E), (0 : Int)) else (Er.E0, F) := ⟨_, rfl⟩
 rw [← hR]
 have HR := Lib.hid hR; clear hR
 go_enter Tryz.func19, Tryz.ntmps19
 obtain ⟨g0, g1, g2⟩ := HC.out _ (Below.refl _ _)
 go_wp2_with fail
 refine (AR.out _).mono ?_; rintro e w1 ⟨rfl, b1⟩
 have d1 : Below w.heap.size w w1 := below_step gr0 b1
 have B1 := Lib.hid d1
 have Z1 : Bk13 w1 (w.heap.size) (.int .i64 0) (.int .i64 0) (.int .i64 0) (.string ⟨#[]⟩) (.string ⟨#[]⟩) (.bool false) (.int .i64 0) (.int .i64 0) (.int .i64 0) (.int .i64 0) (.int .i64 0) (.int .i64 0) (.int .i64 0) := by refine Bk13.of b1 (by simp <;> omega) (by intro j; simp [go_sem]) ?_ ?_ ?_ ?_ ?_ ?_ ?_ ?_ ?_ ?_ ?_ ?_ ?_ <;> simp [go_sem]
 clear b1 d1
 clear g0 g1 g2; obtain ⟨g0, g1, g2⟩ := HC.out _ B1.out; have hqk := Nat.lt_of_lt_of_le hq B1.out.size
 have tx := Z1; obtain ⟨cZ_b, cZ_f, cZ_0, cZ_1, cZ_2, cZ_3, cZ_4, cZ_5, cZ_6, cZ_7, cZ_8, cZ_9, cZ_10, cZ_11, cZ_12⟩ := tx
 go_upto_region 6 with (fail)
 clear cZ_b cZ_f cZ_0 cZ_1 cZ_2 cZ_3 cZ_4 cZ_5 cZ_6 cZ_7 cZ_8 cZ_9 cZ_10 cZ_11 cZ_12
 go_cut [38] from 29 (fun x wx => x = .bool bad ∧ wx = w1)
 case first =>
  by_cases h0 : q0 = 0
  ·
   subst h0
   by_cases h1 : n0 < -54000
   ·
    obtain rfl : bad = true := by rw [HBAD.out]; exact decide_eq_true ⟨rfl, .inl h1⟩
    go_wp2_with fail
    go_meet
    exact ⟨rfl, rfl⟩
   ·
    by_cases h2 : 54000 < n0
    ·
     obtain rfl : bad = true := by rw [HBAD.out]; exact decide_eq_true ⟨rfl, .inr h2⟩
     go_wp2_with fail
     go_meet
     exact ⟨rfl, rfl⟩
    ·
     obtain rfl : bad = false := by rw [HBAD.out]; exact decide_eq_false (fun h => h.2.elim h1 h2)
     go_wp2_with fail
     go_meet
     exact ⟨rfl, rfl⟩
  ·
   obtain rfl : bad = false := by rw [HBAD.out]; exact decide_eq_false (fun h => h0 h.1)
   have hb0 : (q0 == 0) = false := by rw [beq_eq_false_iff_ne]; exact h0
   go_wp2_with fail
   go_meet
   exact ⟨rfl, rfl⟩
 obtain ⟨rfl, hwc⟩ := hcut
 obtain rfl : w1 = wc := hwc.symm
 go_upto_if 38 with fail
 go_cut [5] from 29 (fun x wx => x = .int .i64 qa ∧ wx = w1)
 case first =>
  cases bad
  ·
   obtain rfl : qa = q0 := HQ.out
   go_wp2_with fail
   go_meet
   exact ⟨rfl, rfl⟩
  ·
   obtain rfl : qa = 1 := HQ.out
   go_wp2_with fail
   go_meet
   exact ⟨rfl, rfl⟩
 obtain ⟨rfl, hwc⟩ := hcut
 obtain rfl : w1 = wc := hwc.symm
 clear HQ HBAD
 have tx := Z1; obtain ⟨cZ_b, cZ_f, cZ_0, cZ_1, cZ_2, cZ_3, cZ_4, cZ_5, cZ_6, cZ_7, cZ_8, cZ_9, cZ_10, cZ_11, cZ_12⟩ := tx
 go_wp2_with fail
 clear cZ_b cZ_f cZ_0 cZ_1 cZ_2 cZ_3 cZ_4 cZ_5 cZ_6 cZ_7 cZ_8 cZ_9 cZ_10 cZ_11 cZ_12
 refine (RR.out _).mono ?_; rintro e w2 ⟨rfl, b2⟩
 have d2 : Below w1.heap.size w1 w2 := below_step gr0 b2
 have B2 := Lib.hid (below_step B1.out d2)
 have Z2 := Z1.keep d2
 clear Z1 b2 d2 B1
 clear g0 g1 g2; obtain ⟨g0, g1, g2⟩ := HC.out _ B2.out; have hqk := Nat.lt_of_lt_of_le hq B2.out.size
 have tx := Z2; obtain ⟨cZ_b, cZ_f, cZ_0, cZ_1, cZ_2, cZ_3, cZ_4, cZ_5, cZ_6, cZ_7, cZ_8, cZ_9, cZ_10, cZ_11, cZ_12⟩ := tx
 go_wp2_with fail
 skip
 clear cZ_b cZ_f cZ_0 cZ_1 cZ_2 cZ_3 cZ_4 cZ_5 cZ_6 cZ_7 cZ_8 cZ_9 cZ_10 cZ_11 cZ_12
 refine (EN.out _ _ (SB.out _ (grB B2))).mono ?_; rintro e w3 ⟨b3, u, rfl, hu⟩
 have d3 : Below w2.heap.size w2 w3 := below_step gr0 b3
 have B3 := Lib.hid (below_step B2.out d3)
 have Z3 := Z2.keep d3
 clear Z2 b3 d3 B2
 clear g0 g1 g2; obtain ⟨g0, g1, g2⟩ := HC.out _ B3.out; have hqk := Nat.lt_of_lt_of_le hq B3.out.size
 have tx := Z3; obtain ⟨cZ_b, cZ_f, cZ_0, cZ_1, cZ_2, cZ_3, cZ_4, cZ_5, cZ_6, cZ_7, cZ_8, cZ_9, cZ_10, cZ_11, cZ_12⟩ := tx
 go_upto_region 10 with (fail)
 clear cZ_b cZ_f cZ_0 cZ_1 cZ_2 cZ_3 cZ_4 cZ_5 cZ_6 cZ_7 cZ_8 cZ_9 cZ_10 cZ_11 cZ_12
 refine wp_named ?_; intro w4 hw4
 have d4 : Below w3.heap.size w3 w4 := by rw [hw4]; exact gr0
 have B4 := Lib.hid (below_step B3.out d4)
 have Z4 := Z3.keep d4
 have aUU := B3.out.size
 have nUUZ := Nat.ne_of_lt Z3.hb
 have oUUZ := Nat.ne_of_gt Z3.hb
 have UU4 : Bk8 w4 (w3.heap.size) (.bool u.h) (.int .i64 u.y) (.int .i64 u.m) (.int .i64 u.k) (.int .i64 u.wk) (.int .i64 u.d) (.int .i64 u.sec) (.int .i64 u.base) := by rw [hw4]; exact ⟨by simp <;> omega, by intro j; simp [go_sem], by simp [go_sem], by simp [go_sem], by simp [go_sem], by simp [go_sem], by simp [go_sem], by simp [go_sem], by simp [go_sem], by simp [go_sem]⟩
 clear Z3 d4 hw4 B3
 clear g0 g1 g2; obtain ⟨g0, g1, g2⟩ := HC.out _ B4.out; have hqk := Nat.lt_of_lt_of_le hq B4.out.size
 obtain ⟨bz, hbz⟩ : ∃ b, b = w.heap.size := ⟨_, rfl⟩
 obtain ⟨bu, hbu⟩ : ∃ b, b = (w3.heap.size) := ⟨_, rfl⟩
 obtain ⟨bs, hbs⟩ : ∃ b, b = w4.heap.size := ⟨_, rfl⟩
 go_cut [61, 62, 63] from 14 (fun x n i wx => x = .slice (some ⟨bs, 0, none⟩) 4 4 ∧ n = .int .i64 4 ∧ i = .int .i64 0 ∧ Below w.heap.size w wx ∧ Bk13 wx bz (.int .i64 0) (.int .i64 0) (.int .i64 0) (.string ⟨#[]⟩) (.string ⟨#[]⟩) (.bool false) (.int .i64 0) (.int .i64 0) (.int .i64 0) (.int .i64 0) (.int .i64 0) (.int .i64 0) (.int .i64 0) ∧ Bk8 wx bu (.bool u.h) (.int .i64 u.y) (.int .i64 u.m) (.int .i64 u.k) (.int .i64 u.wk) (.int .i64 u.d) (.int .i64 u.sec) (.int .i64 u.base) ∧ Bk4 wx bs (.int .i64 qa) (.int .i64 qb) (.int .i64 qc) (.int .i64 qd))
 case first =>
  go_wp2_with fail
  refine (CK.out _).mono ?_; rintro e u1 ⟨rfl, rfl⟩
  go_wp2_with fail
  go_meet
  subst hbz; subst hbu; subst hbs
  have da : ∀ (o : Obj), Below w4.heap.size w4 (w4.alloc o) := fun o => (Below.refl _ _).alloc (Nat.le_refl _) _
  exact ⟨rfl, rfl, rfl, below_step B4.out (da _), Z4.keep (da _), UU4.keep (da _), ⟨by simp, by intro j; simp [go_sem], by simp [go_sem], by simp [go_sem], by simp [go_sem], by simp [go_sem]⟩⟩
 obtain ⟨rfl, rfl, rfl, b9, Z9, U9, S9⟩ := hcut
 subst hbz; subst hbu; subst hbs
 clear Z4 UU4 g0 g1 g2
 have B9 := Lib.hid b9; have ZZ := Lib.hid Z9; have UU := Lib.hid U9
 obtain ⟨qs, hqs⟩ : ∃ l : List Int, l = [qa, qb, qc, qd] := ⟨_, rfl⟩
 have hlen : qs.length = 4 := by rw [hqs]; rfl
 have hcs : ∀ (j : Nat) (h : j < 4), wc.cell? ⟨w4.heap.size, j, none⟩ = some (.int .i64 (qs[j]'(by omega))) := by
  intro j h
  subst hqs
  match j, h with
  | 0, _ => exact S9.k0
  | 1, _ => exact S9.k1
  | 2, _ => exact S9.k2
  | 3, _ => exact S9.k3
  | n + 4, h => omega
 have hfs : Ru.fst qs = F := by rw [hqs]; exact HF.out.symm
 have HCS := Lib.hid hcs
 clear b9 Z9 U9 S9 hcs hqs
 go_wp2_with fail
 go_loopw [63] (fun i wr => ∃ k : Nat, k ≤ 4 ∧ i = .int .i64 k ∧ Hid (Ru.fst (qs.drop k) = F) ∧ wr = wc) (fun i _ => 4 - (intOf i).toNat)
 case atStart => exact ⟨0, Nat.zero_le _, rfl, hfs, rfl⟩
 case round =>
  obtain ⟨k9, hk9, rfl, hinv, hw⟩ := hrel
  obtain rfl : wc = wr := hw.symm
  by_cases hlt : k9 < 4
  ·
   have hc := HCS.out k9 hlt
   have hi := hinv.out
   rw [List.drop_eq_getElem_cons (by omega)] at hi
   generalize qs[k9]'(by omega) = x at hc hi
   have hdec : decide (k9 < 4) = true := decide_eq_true hlt
   by_cases hx : x = 0
   ·
    rw [Ru.fst_yes hx] at hi
    have HI := Lib.hid hi
    clear hi hinv
    subst hx
    go_wp2_with fail
    go_roundw
    case rel => exact ⟨k9 + 1, by omega, by go_num, HI, by first | rfl | trivial⟩
    case measure => simp [intOf]; omega
   ·
    rw [Ru.fst_no hx] at hi
    subst hi
    have hb : (x == 0) = false := by rw [beq_eq_false_iff_ne]; exact hx
    clear hinv
    have Z9 := ZZ.out
    have z_b := Z9.hb; have z_f := Z9.fz; have z_0 := Z9.k0; have z_1 := Z9.k1; have z_2 := Z9.k2; have z_3 := Z9.k3; have z_4 := Z9.k4; have z_5 := Z9.k5; have z_6 := Z9.k6; have z_7 := Z9.k7; have z_8 := Z9.k8; have z_9 := Z9.k9; have z_10 := Z9.k10; have z_11 := Z9.k11; have z_12 := Z9.k12
    clear z_b z_f z_0 z_1 z_2 z_3 z_4 z_5 z_6 z_7 z_8 z_9 z_10 z_11 z_12 Z9
    go_upto_region 14 with (fail)
    refine wp_region_lit ?_
    go_step; go_simp; go_step
    go_step; go_simp; go_step
    refine wpList_st13 ?_ 43 (Operand.tmp 2) (Operand.tmp 69) ?_ w.heap.size (.int .i64 0) (.int .i64 0) (.int .i64 0) (.string ⟨#[]⟩) (.string ⟨#[]⟩) (.bool false) (.int .i64 0) (.int .i64 0) (.int .i64 0) (.int .i64 0) (.int .i64 0) (.int .i64 0) (.int .i64 0) ?_ ?_ ?_ ZZ.out ?_ (fun W9 C hbel => ?_)
    ·
     rfl
    ·
     rfl
    ·
     rfl
    ·
     rfl
    ·
     kernel_rfl
    ·
     simp [Value.oneCell']
    have d9 := hbel _ _ (Nat.le_refl _) B9.out
    have e0 := C.k0; have e1 := C.k1; have e2 := C.k2; have e3 := C.k3; have e4 := C.k4; have e5 := C.k5; have e6 := C.k6; have e7 := C.k7; have e8 := C.k8; have e9 := C.k9; have e10 := C.k10; have e11 := C.k11; have e12 := C.k12
    clear C hbel
    go_step; go_simp; go_step
    go_step; go_simp; go_step
    go_step
    simp +zetaDelta only [Exit.then, Exit.inBlock]
    exact bodyPost_ret (v := .tuple #[.agg #[.int .i64 0, .int .i64 0, .int .i64 0, .string ⟨#[]⟩, .string ⟨#[]⟩, .bool false, .int .i64 0, .int .i64 0, .int .i64 0, .int .i64 0, .int .i64 0, .int .i64 0, .int .i64 0], .int .i64 x]) (by simp [results, Tryz.results19, go_sem, e0, e1, e2, e3, e4, e5, e6, e7, e8, e9, e10, e11, e12]) rfl ⟨by rw [HR.out, if_neg hx]; rfl, d9⟩
  ·
   obtain rfl : k9 = 4 := by omega
   have hi := hinv.out
   rw [List.drop_of_length_le (by omega)] at hi
   have hF0 : F = 0 := hi.symm
   clear hi hinv
   subst hF0
   have hall := fst_zero HF.out.symm
   have hV : u = V := hu (hall qd (by simp))
   have hO : oa = n0 := HO.out (hall qa (by simp))
   subst hV
   subst hO
   clear hall
   obtain ⟨g0, g1, g2⟩ := HC.out _ B9.out
   clear g0 g1
   have Z9 := ZZ.out; have U9 := UU.out
   have z_b := Z9.hb; have z_f := Z9.fz; have z_0 := Z9.k0; have z_1 := Z9.k1; have z_2 := Z9.k2; have z_3 := Z9.k3; have z_4 := Z9.k4; have z_5 := Z9.k5; have z_6 := Z9.k6; have z_7 := Z9.k7; have z_8 := Z9.k8; have z_9 := Z9.k9; have z_10 := Z9.k10; have z_11 := Z9.k11; have z_12 := Z9.k12
   have u_0 := U9.k0; have u_1 := U9.k1; have u_2 := U9.k2; have u_3 := U9.k3; have u_4 := U9.k4; have u_5 := U9.k5; have u_6 := U9.k6; have u_7 := U9.k7
   go_upto_region 16 with (fail)
   go_big_region
   obtain ⟨W9, hW9⟩ : ∃ W9, W9 = (((((((((((((wc.setCell ⟨w.heap.size, 0, none⟩ (.int .i64 oa)).setCell ⟨w.heap.size, 1, none⟩ (.int .i64 kind)).setCell ⟨w.heap.size, 2, none⟩ (.int .i64 save)).setCell ⟨w.heap.size, 3, none⟩ (.string rs)).setCell ⟨w.heap.size, 4, none⟩ (.string f2)).setCell ⟨w.heap.size, 5, none⟩ (.bool u.h)).setCell ⟨w.heap.size, 6, none⟩ (.int .i64 u.y)).setCell ⟨w.heap.size, 7, none⟩ (.int .i64 u.m)).setCell ⟨w.heap.size, 8, none⟩ (.int .i64 u.k)).setCell ⟨w.heap.size, 9, none⟩ (.int .i64 u.wk)).setCell ⟨w.heap.size, 10, none⟩ (.int .i64 u.d)).setCell ⟨w.heap.size, 11, none⟩ (.int .i64 u.sec)).setCell ⟨w.heap.size, 12, none⟩ (.int .i64 u.base)).drew := ⟨_, rfl⟩
   rw [← hW9]
   obtain ⟨W8, hW8⟩ : ∃ W8, W8 = (((((((((((((wc.setCell ⟨w.heap.size, 0, none⟩ (.int .i64 oa)).setCell ⟨w.heap.size, 1, none⟩ (.int .i64 kind)).setCell ⟨w.heap.size, 2, none⟩ (.int .i64 save)).setCell ⟨w.heap.size, 3, none⟩ (.string rs)).setCell ⟨w.heap.size, 4, none⟩ (.string f2)).setCell ⟨w.heap.size, 5, none⟩ (.bool u.h)).setCell ⟨w.heap.size, 6, none⟩ (.int .i64 u.y)).setCell ⟨w.heap.size, 7, none⟩ (.int .i64 u.m)).setCell ⟨w.heap.size, 8, none⟩ (.int .i64 u.k)).setCell ⟨w.heap.size, 9, none⟩ (.int .i64 u.wk)).setCell ⟨w.heap.size, 10, none⟩ (.int .i64 u.d)).setCell ⟨w.heap.size, 11, none⟩ (.int .i64 u.sec)).setCell ⟨w.heap.size, 12, none⟩ (.int .i64 u.base)) := ⟨_, rfl⟩
   rw [← hW8] at hW9
   have C0 := set13 Z9 hW8
   have d0 := below_set13 B9.out (Nat.le_refl _) hW8
   have C := C0.keep (Below.drew (Below.refl _ _))
   have d9 := d0.drew
   rw [← hW9] at C d9
   clear hW8 hW9 C0 d0 z_b z_f z_0 z_1 z_2 z_3 z_4 z_5 z_6 z_7 z_8 z_9 z_10 z_11 z_12 u_0 u_1 u_2 u_3 u_4 u_5 u_6 u_7
   have e0 := C.k0; have e1 := C.k1; have e2 := C.k2; have e3 := C.k3; have e4 := C.k4; have e5 := C.k5; have e6 := C.k6; have e7 := C.k7; have e8 := C.k8; have e9 := C.k9; have e10 := C.k10; have e11 := C.k11; have e12 := C.k12
   clear C
   go_simp
   go_step
   go_step
   simp +zetaDelta only [Exit.then, Exit.inBlock]
   exact bodyPost_ret (v := .tuple #[.agg #[.int .i64 oa, .int .i64 kind, .int .i64 save, .string rs, .string f2, .bool u.h, .int .i64 u.y, .int .i64 u.m, .int .i64 u.k, .int .i64 u.wk, .int .i64 u.d, .int .i64 u.sec, .int .i64 u.base], .int .i64 0]) (by simp [results, Tryz.results19, go_sem, e0, e1, e2, e3, e4, e5, e6, e7, e8, e9, e10, e11, e12]) rfl ⟨by rw [HR.out, if_pos rfl]; rfl, d9⟩
set_option maxHeartbeats 8000000 in
set_option maxRecDepth 100000 in
theorem rErRead_b (q : Addr) (n c : Nat) (f0 f1 f2 : ByteArray) (r : List ByteArray) (hr : r.length ≤ 4) (hn : n = r.length + 3) (hc : n ≤ c) (h8 : ¬ c = 3) (w : World) (S : StS w (.slice (some q) n c) (f0 :: f1 :: f2 :: r)) (hz : ∀ x ∈ f0 :: f1 :: f2 :: r, x.size ≤ 600) :
  Calls Tryz.prog 19 #[.slice (some q) n c] w fun e w' => e = .returned (.tuple #[(Er.rd (f0 :: f1 :: f2 :: r)).1.v, .int .i64 (Er.rd (f0 :: f1 :: f2 :: r)).2]) ∧ Below w.heap.size w w' := by
 have z0 := hz f0 (by simp); have z1 := hz f1 (by simp); have z2 := hz f2 (by simp)
 have AR := Lib.hid (fun W => raread_any f0 W z0)
 have RR := Lib.hid (fun W => rrules_any f1 W z1)
 have CK := Lib.hid (fun W => rcheck_any f2 W (Nat.le_trans z2 (by decide)))
 have EN := Lib.hid (fun W v' (s : StS W v' r) => rend_all v' r hr W s (fun x hx => hz x (by simp [hx])))
 unfold Er.U.v at EN
 have SB := Lib.hid (fun W (b : Below w.heap.size w W) => erd_sub (k := r.length) (c' := c - 3) S rfl b)
 obtain ⟨A, c1, hv, hA⟩ := S
 obtain ⟨q', e, hq, hcell⟩ := hA (by simp)
 have eA : some q = A := by injection hv
 rw [e] at eA
 cases eA
 clear hv
 have HC : Hid (∀ W, Below w.heap.size w W → W.cell? q = some (.string f0) ∧ W.cell? ⟨q.block, q.off + 1, none⟩ = some (.string f1) ∧ W.cell? ⟨q.block, q.off + 2, none⟩ = some (.string f2)) := fun W b => by
  have k : ∀ i x, ((f0 :: f1 :: f2 :: r).map Value.string)[i]? = some x → W.cell? (q.add i) = some x := fun i x hx => by
   have := hcell i x hx
   exact (b.cell (by rw [blk_add]; exact hq)).trans this
  have k0 := k 0 _ rfl
  rw [Addr.add_zero'] at k0
  have kk : ∀ i, q.add (i + 1) = ⟨q.block, q.off + (i + 1), none⟩ := fun i => by rw [Addr.add_succ']
  have k1 := k 1 _ rfl; have k2 := k 2 _ rfl
  rw [kk 0] at k1; rw [kk 1] at k2
  exact ⟨k0, k1, k2⟩
 have n1 : q.block ≠ w.heap.size := Nat.ne_of_lt hq
 have n3 : w.heap.size ≠ q.block := Nat.ne_of_gt hq
 rw [Er.rd_some f0 f1 f2 r hr]
 have hrd : Er.rdW f0 f1 f2 r = (Er.am 54000 f0).2 :: Er.rq f1 :: (Fo.kd f2.data.toList).2 :: Er.enW r := rfl
 rw [hrd, fst_four]
 clear hrd
 unfold Er.rl Er.am
 generalize (Am.rd f0).1 = n0 at *
 generalize (Am.rd f0).2 = q0 at *
 obtain ⟨bad, hbad⟩ : ∃ b : Bool, b = decide (q0 = 0 ∧ (n0 < -54000 ∨ 54000 < n0)) := ⟨_, rfl⟩
 have ha : Er.amF 54000 n0 q0 = if bad then (0, 1) else (n0, q0) := by
  unfold Er.amF
  by_cases h : q0 = 0 ∧ (n0 < -54000 ∨ 54000 < n0)
  ·
   rw [if_pos h, hbad, decide_eq_true h]; rfl
  ·
   rw [if_neg h, hbad, decide_eq_false h]; rfl
 rw [ha]
 obtain ⟨qa, hqa⟩ : ∃ x : Int, x = (if bad then ((0 : Int), (1 : Int)) else (n0, q0)).2 := ⟨_, rfl⟩
 obtain ⟨oa, hoa⟩ : ∃ x : Int, x = (if bad then ((0 : Int), (1 : Int)) else (n0, q0)).1 := ⟨_, rfl⟩
 rw [← hqa, ← hoa]
 have HO : Hid (qa = 0 → oa = n0) := fun h => by
  rw [hoa]
  cases bad with
  | true => rw [hqa] at h; exact absurd (show (1 : Int) = 0 from h) (by decide)
  | false => rfl
 have HQ : Hid (qa = if bad then 1 else q0) := by cases bad <;> exact hqa
 have HBAD := Lib.hid hbad
 have hq0 : 3 ≤ n := by omega
 have hq7 : n ≤ 7 := by omega
 have hn7 : (r.length : Int) ≤ 4 := by omega
 clear hbad ha hqa hoa hcell hz z0 z1 z2 hA hr
 generalize (Er.rk f1).1 = kind at *
 generalize (Er.rk f1).2.1 = save at *
 generalize (Er.rk f1).2.2 = rs at *
 generalize Er.rq f1 = qb at *
 generalize (Fo.kd f2.data.toList).2 = qc at *
 generalize Er.enV r = V at *
 generalize Ru.fst (Er.enW r) = qd at *
 obtain ⟨F, hF⟩ : ∃ F, F = Ru.fst [qa, qb, qc, qd] := ⟨_, rfl⟩
 rw [← hF]
 have HF := Lib.hid hF; clear hF
 obtain ⟨R, hR⟩ : ∃ R : Er.E × Int, R = if F = 0 then ((⟨oa, kind, save, rs, f2, V⟩ : Er.E), (0 : Int)) else (Er.E0, F) := ⟨_, rfl⟩
 rw [← hR]
 have HR := Lib.hid hR; clear hR
 go_enter Tryz.func19, Tryz.ntmps19
 obtain ⟨g0, g1, g2⟩ := HC.out _ (Below.refl _ _)
 go_wp2_with fail
 refine (AR.out _).mono ?_; rintro e w1 ⟨rfl, b1⟩
 have d1 : Below w.heap.size w w1 := below_step gr0 b1
 have B1 := Lib.hid d1
 have Z1 : Bk13 w1 (w.heap.size) (.int .i64 0) (.int .i64 0) (.int .i64 0) (.string ⟨#[]⟩) (.string ⟨#[]⟩) (.bool false) (.int .i64 0) (.int .i64 0) (.int .i64 0) (.int .i64 0) (.int .i64 0) (.int .i64 0) (.int .i64 0) := by refine Bk13.of b1 (by simp <;> omega) (by intro j; simp [go_sem]) ?_ ?_ ?_ ?_ ?_ ?_ ?_ ?_ ?_ ?_ ?_ ?_ ?_ <;> simp [go_sem]
 clear b1 d1
 clear g0 g1 g2; obtain ⟨g0, g1, g2⟩ := HC.out _ B1.out; have hqk := Nat.lt_of_lt_of_le hq B1.out.size
 have tx := Z1; obtain ⟨cZ_b, cZ_f, cZ_0, cZ_1, cZ_2, cZ_3, cZ_4, cZ_5, cZ_6, cZ_7, cZ_8, cZ_9, cZ_10, cZ_11, cZ_12⟩ := tx
 go_upto_region 6 with (fail)
 clear cZ_b cZ_f cZ_0 cZ_1 cZ_2 cZ_3 cZ_4 cZ_5 cZ_6 cZ_7 cZ_8 cZ_9 cZ_10 cZ_11 cZ_12
 go_cut [38] from 29 (fun x wx => x = .bool bad ∧ wx = w1)
 case first =>
  by_cases h0 : q0 = 0
  ·
   subst h0
   by_cases h1 : n0 < -54000
   ·
    obtain rfl : bad = true := by rw [HBAD.out]; exact decide_eq_true ⟨rfl, .inl h1⟩
    go_wp2_with fail
    go_meet
    exact ⟨rfl, rfl⟩
   ·
    by_cases h2 : 54000 < n0
    ·
     obtain rfl : bad = true := by rw [HBAD.out]; exact decide_eq_true ⟨rfl, .inr h2⟩
     go_wp2_with fail
     go_meet
     exact ⟨rfl, rfl⟩
    ·
     obtain rfl : bad = false := by rw [HBAD.out]; exact decide_eq_false (fun h => h.2.elim h1 h2)
     go_wp2_with fail
     go_meet
     exact ⟨rfl, rfl⟩
  ·
   obtain rfl : bad = false := by rw [HBAD.out]; exact decide_eq_false (fun h => h0 h.1)
   have hb0 : (q0 == 0) = false := by rw [beq_eq_false_iff_ne]; exact h0
   go_wp2_with fail
   go_meet
   exact ⟨rfl, rfl⟩
 obtain ⟨rfl, hwc⟩ := hcut
 obtain rfl : w1 = wc := hwc.symm
 go_upto_if 38 with fail
 go_cut [5] from 29 (fun x wx => x = .int .i64 qa ∧ wx = w1)
 case first =>
  cases bad
  ·
   obtain rfl : qa = q0 := HQ.out
   go_wp2_with fail
   go_meet
   exact ⟨rfl, rfl⟩
  ·
   obtain rfl : qa = 1 := HQ.out
   go_wp2_with fail
   go_meet
   exact ⟨rfl, rfl⟩
 obtain ⟨rfl, hwc⟩ := hcut
 obtain rfl : w1 = wc := hwc.symm
 clear HQ HBAD
 have tx := Z1; obtain ⟨cZ_b, cZ_f, cZ_0, cZ_1, cZ_2, cZ_3, cZ_4, cZ_5, cZ_6, cZ_7, cZ_8, cZ_9, cZ_10, cZ_11, cZ_12⟩ := tx
 go_wp2_with fail
 clear cZ_b cZ_f cZ_0 cZ_1 cZ_2 cZ_3 cZ_4 cZ_5 cZ_6 cZ_7 cZ_8 cZ_9 cZ_10 cZ_11 cZ_12
 refine (RR.out _).mono ?_; rintro e w2 ⟨rfl, b2⟩
 have d2 : Below w1.heap.size w1 w2 := below_step gr0 b2
 have B2 := Lib.hid (below_step B1.out d2)
 have Z2 := Z1.keep d2
 clear Z1 b2 d2 B1
 clear g0 g1 g2; obtain ⟨g0, g1, g2⟩ := HC.out _ B2.out; have hqk := Nat.lt_of_lt_of_le hq B2.out.size
 have tx := Z2; obtain ⟨cZ_b, cZ_f, cZ_0, cZ_1, cZ_2, cZ_3, cZ_4, cZ_5, cZ_6, cZ_7, cZ_8, cZ_9, cZ_10, cZ_11, cZ_12⟩ := tx
 go_wp2_with fail
 try (case inl h9 => exact absurd h9 h8)
 clear cZ_b cZ_f cZ_0 cZ_1 cZ_2 cZ_3 cZ_4 cZ_5 cZ_6 cZ_7 cZ_8 cZ_9 cZ_10 cZ_11 cZ_12
 refine (EN.out _ _ (SB.out _ (grB B2))).mono ?_; rintro e w3 ⟨b3, u, rfl, hu⟩
 have d3 : Below w2.heap.size w2 w3 := below_step gr0 b3
 have B3 := Lib.hid (below_step B2.out d3)
 have Z3 := Z2.keep d3
 clear Z2 b3 d3 B2
 clear g0 g1 g2; obtain ⟨g0, g1, g2⟩ := HC.out _ B3.out; have hqk := Nat.lt_of_lt_of_le hq B3.out.size
 have tx := Z3; obtain ⟨cZ_b, cZ_f, cZ_0, cZ_1, cZ_2, cZ_3, cZ_4, cZ_5, cZ_6, cZ_7, cZ_8, cZ_9, cZ_10, cZ_11, cZ_12⟩ := tx
 go_upto_region 10 with (fail)
 clear cZ_b cZ_f cZ_0 cZ_1 cZ_2 cZ_3 cZ_4 cZ_5 cZ_6 cZ_7 cZ_8 cZ_9 cZ_10 cZ_11 cZ_12
 refine wp_named ?_; intro w4 hw4
 have d4 : Below w3.heap.size w3 w4 := by rw [hw4]; exact gr0
 have B4 := Lib.hid (below_step B3.out d4)
 have Z4 := Z3.keep d4
 have aUU := B3.out.size
 have nUUZ := Nat.ne_of_lt Z3.hb
 have oUUZ := Nat.ne_of_gt Z3.hb
 have UU4 : Bk8 w4 (w3.heap.size) (.bool u.h) (.int .i64 u.y) (.int .i64 u.m) (.int .i64 u.k) (.int .i64 u.wk) (.int .i64 u.d) (.int .i64 u.sec) (.int .i64 u.base) := by rw [hw4]; exact ⟨by simp <;> omega, by intro j; simp [go_sem], by simp [go_sem], by simp [go_sem], by simp [go_sem], by simp [go_sem], by simp [go_sem], by simp [go_sem], by simp [go_sem], by simp [go_sem]⟩
 clear Z3 d4 hw4 B3
 clear g0 g1 g2; obtain ⟨g0, g1, g2⟩ := HC.out _ B4.out; have hqk := Nat.lt_of_lt_of_le hq B4.out.size
 obtain ⟨bz, hbz⟩ : ∃ b, b = w.heap.size := ⟨_, rfl⟩
 obtain ⟨bu, hbu⟩ : ∃ b, b = (w3.heap.size) := ⟨_, rfl⟩
 obtain ⟨bs, hbs⟩ : ∃ b, b = w4.heap.size := ⟨_, rfl⟩
 go_cut [61, 62, 63] from 14 (fun x n i wx => x = .slice (some ⟨bs, 0, none⟩) 4 4 ∧ n = .int .i64 4 ∧ i = .int .i64 0 ∧ Below w.heap.size w wx ∧ Bk13 wx bz (.int .i64 0) (.int .i64 0) (.int .i64 0) (.string ⟨#[]⟩) (.string ⟨#[]⟩) (.bool false) (.int .i64 0) (.int .i64 0) (.int .i64 0) (.int .i64 0) (.int .i64 0) (.int .i64 0) (.int .i64 0) ∧ Bk8 wx bu (.bool u.h) (.int .i64 u.y) (.int .i64 u.m) (.int .i64 u.k) (.int .i64 u.wk) (.int .i64 u.d) (.int .i64 u.sec) (.int .i64 u.base) ∧ Bk4 wx bs (.int .i64 qa) (.int .i64 qb) (.int .i64 qc) (.int .i64 qd))
 case first =>
  go_wp2_with fail
  refine (CK.out _).mono ?_; rintro e u1 ⟨rfl, rfl⟩
  go_wp2_with fail
  go_meet
  subst hbz; subst hbu; subst hbs
  have da : ∀ (o : Obj), Below w4.heap.size w4 (w4.alloc o) := fun o => (Below.refl _ _).alloc (Nat.le_refl _) _
  exact ⟨rfl, rfl, rfl, below_step B4.out (da _), Z4.keep (da _), UU4.keep (da _), ⟨by simp, by intro j; simp [go_sem], by simp [go_sem], by simp [go_sem], by simp [go_sem], by simp [go_sem]⟩⟩
 obtain ⟨rfl, rfl, rfl, b9, Z9, U9, S9⟩ := hcut
 subst hbz; subst hbu; subst hbs
 clear Z4 UU4 g0 g1 g2
 have B9 := Lib.hid b9; have ZZ := Lib.hid Z9; have UU := Lib.hid U9
 obtain ⟨qs, hqs⟩ : ∃ l : List Int, l = [qa, qb, qc, qd] := ⟨_, rfl⟩
 have hlen : qs.length = 4 := by rw [hqs]; rfl
 have hcs : ∀ (j : Nat) (h : j < 4), wc.cell? ⟨w4.heap.size, j, none⟩ = some (.int .i64 (qs[j]'(by omega))) := by
  intro j h
  subst hqs
  match j, h with
  | 0, _ => exact S9.k0
  | 1, _ => exact S9.k1
  | 2, _ => exact S9.k2
  | 3, _ => exact S9.k3
  | n + 4, h => omega
 have hfs : Ru.fst qs = F := by rw [hqs]; exact HF.out.symm
 have HCS := Lib.hid hcs
 clear b9 Z9 U9 S9 hcs hqs
 go_wp2_with fail
 go_loopw [63] (fun i wr => ∃ k : Nat, k ≤ 4 ∧ i = .int .i64 k ∧ Hid (Ru.fst (qs.drop k) = F) ∧ wr = wc) (fun i _ => 4 - (intOf i).toNat)
 case atStart => exact ⟨0, Nat.zero_le _, rfl, hfs, rfl⟩
 case round =>
  obtain ⟨k9, hk9, rfl, hinv, hw⟩ := hrel
  obtain rfl : wc = wr := hw.symm
  by_cases hlt : k9 < 4
  ·
   have hc := HCS.out k9 hlt
   have hi := hinv.out
   rw [List.drop_eq_getElem_cons (by omega)] at hi
   generalize qs[k9]'(by omega) = x at hc hi
   have hdec : decide (k9 < 4) = true := decide_eq_true hlt
   by_cases hx : x = 0
   ·
    rw [Ru.fst_yes hx] at hi
    have HI := Lib.hid hi
    clear hi hinv
    subst hx
    go_wp2_with fail
    go_roundw
    case rel => exact ⟨k9 + 1, by omega, by go_num, HI, by first | rfl | trivial⟩
    case measure => simp [intOf]; omega
   ·
    rw [Ru.fst_no hx] at hi
    subst hi
    have hb : (x == 0) = false := by rw [beq_eq_false_iff_ne]; exact hx
    clear hinv
    have Z9 := ZZ.out
    have z_b := Z9.hb; have z_f := Z9.fz; have z_0 := Z9.k0; have z_1 := Z9.k1; have z_2 := Z9.k2; have z_3 := Z9.k3; have z_4 := Z9.k4; have z_5 := Z9.k5; have z_6 := Z9.k6; have z_7 := Z9.k7; have z_8 := Z9.k8; have z_9 := Z9.k9; have z_10 := Z9.k10; have z_11 := Z9.k11; have z_12 := Z9.k12
    clear z_b z_f z_0 z_1 z_2 z_3 z_4 z_5 z_6 z_7 z_8 z_9 z_10 z_11 z_12 Z9
    go_upto_region 14 with (fail)
    refine wp_region_lit ?_
    go_step; go_simp; go_step
    go_step; go_simp; go_step
    refine wpList_st13 ?_ 43 (Operand.tmp 2) (Operand.tmp 69) ?_ w.heap.size (.int .i64 0) (.int .i64 0) (.int .i64 0) (.string ⟨#[]⟩) (.string ⟨#[]⟩) (.bool false) (.int .i64 0) (.int .i64 0) (.int .i64 0) (.int .i64 0) (.int .i64 0) (.int .i64 0) (.int .i64 0) ?_ ?_ ?_ ZZ.out ?_ (fun W9 C hbel => ?_)
    ·
     rfl
    ·
     rfl
    ·
     rfl
    ·
     rfl
    ·
     kernel_rfl
    ·
     simp [Value.oneCell']
    have d9 := hbel _ _ (Nat.le_refl _) B9.out
    have e0 := C.k0; have e1 := C.k1; have e2 := C.k2; have e3 := C.k3; have e4 := C.k4; have e5 := C.k5; have e6 := C.k6; have e7 := C.k7; have e8 := C.k8; have e9 := C.k9; have e10 := C.k10; have e11 := C.k11; have e12 := C.k12
    clear C hbel
    go_step; go_simp; go_step
    go_step; go_simp; go_step
    go_step
    simp +zetaDelta only [Exit.then, Exit.inBlock]
    exact bodyPost_ret (v := .tuple #[.agg #[.int .i64 0, .int .i64 0, .int .i64 0, .string ⟨#[]⟩, .string ⟨#[]⟩, .bool false, .int .i64 0, .int .i64 0, .int .i64 0, .int .i64 0, .int .i64 0, .int .i64 0, .int .i64 0], .int .i64 x]) (by simp [results, Tryz.results19, go_sem, e0, e1, e2, e3, e4, e5, e6, e7, e8, e9, e10, e11, e12]) rfl ⟨by rw [HR.out, if_neg hx]; rfl, d9⟩
  ·
   obtain rfl : k9 = 4 := by omega
   have hi := hinv.out
   rw [List.drop_of_length_le (by omega)] at hi
   have hF0 : F = 0 := hi.symm
   clear hi hinv
   subst hF0
   have hall := fst_zero HF.out.symm
   have hV : u = V := hu (hall qd (by simp))
   have hO : oa = n0 := HO.out (hall qa (by simp))
   subst hV
   subst hO
   clear hall
   obtain ⟨g0, g1, g2⟩ := HC.out _ B9.out
   clear g0 g1
   have Z9 := ZZ.out; have U9 := UU.out
   have z_b := Z9.hb; have z_f := Z9.fz; have z_0 := Z9.k0; have z_1 := Z9.k1; have z_2 := Z9.k2; have z_3 := Z9.k3; have z_4 := Z9.k4; have z_5 := Z9.k5; have z_6 := Z9.k6; have z_7 := Z9.k7; have z_8 := Z9.k8; have z_9 := Z9.k9; have z_10 := Z9.k10; have z_11 := Z9.k11; have z_12 := Z9.k12
   have u_0 := U9.k0; have u_1 := U9.k1; have u_2 := U9.k2; have u_3 := U9.k3; have u_4 := U9.k4; have u_5 := U9.k5; have u_6 := U9.k6; have u_7 := U9.k7
   go_upto_region 16 with (fail)
   go_big_region
   obtain ⟨W9, hW9⟩ : ∃ W9, W9 = (((((((((((((wc.setCell ⟨w.heap.size, 0, none⟩ (.int .i64 oa)).setCell ⟨w.heap.size, 1, none⟩ (.int .i64 kind)).setCell ⟨w.heap.size, 2, none⟩ (.int .i64 save)).setCell ⟨w.heap.size, 3, none⟩ (.string rs)).setCell ⟨w.heap.size, 4, none⟩ (.string f2)).setCell ⟨w.heap.size, 5, none⟩ (.bool u.h)).setCell ⟨w.heap.size, 6, none⟩ (.int .i64 u.y)).setCell ⟨w.heap.size, 7, none⟩ (.int .i64 u.m)).setCell ⟨w.heap.size, 8, none⟩ (.int .i64 u.k)).setCell ⟨w.heap.size, 9, none⟩ (.int .i64 u.wk)).setCell ⟨w.heap.size, 10, none⟩ (.int .i64 u.d)).setCell ⟨w.heap.size, 11, none⟩ (.int .i64 u.sec)).setCell ⟨w.heap.size, 12, none⟩ (.int .i64 u.base)).drew := ⟨_, rfl⟩
   rw [← hW9]
   obtain ⟨W8, hW8⟩ : ∃ W8, W8 = (((((((((((((wc.setCell ⟨w.heap.size, 0, none⟩ (.int .i64 oa)).setCell ⟨w.heap.size, 1, none⟩ (.int .i64 kind)).setCell ⟨w.heap.size, 2, none⟩ (.int .i64 save)).setCell ⟨w.heap.size, 3, none⟩ (.string rs)).setCell ⟨w.heap.size, 4, none⟩ (.string f2)).setCell ⟨w.heap.size, 5, none⟩ (.bool u.h)).setCell ⟨w.heap.size, 6, none⟩ (.int .i64 u.y)).setCell ⟨w.heap.size, 7, none⟩ (.int .i64 u.m)).setCell ⟨w.heap.size, 8, none⟩ (.int .i64 u.k)).setCell ⟨w.heap.size, 9, none⟩ (.int .i64 u.wk)).setCell ⟨w.heap.size, 10, none⟩ (.int .i64 u.d)).setCell ⟨w.heap.size, 11, none⟩ (.int .i64 u.sec)).setCell ⟨w.heap.size, 12, none⟩ (.int .i64 u.base)) := ⟨_, rfl⟩
   rw [← hW8] at hW9
   have C0 := set13 Z9 hW8
   have d0 := below_set13 B9.out (Nat.le_refl _) hW8
   have C := C0.keep (Below.drew (Below.refl _ _))
   have d9 := d0.drew
   rw [← hW9] at C d9
   clear hW8 hW9 C0 d0 z_b z_f z_0 z_1 z_2 z_3 z_4 z_5 z_6 z_7 z_8 z_9 z_10 z_11 z_12 u_0 u_1 u_2 u_3 u_4 u_5 u_6 u_7
   have e0 := C.k0; have e1 := C.k1; have e2 := C.k2; have e3 := C.k3; have e4 := C.k4; have e5 := C.k5; have e6 := C.k6; have e7 := C.k7; have e8 := C.k8; have e9 := C.k9; have e10 := C.k10; have e11 := C.k11; have e12 := C.k12
   clear C
   go_simp
   go_step
   go_step
   simp +zetaDelta only [Exit.then, Exit.inBlock]
   exact bodyPost_ret (v := .tuple #[.agg #[.int .i64 oa, .int .i64 kind, .int .i64 save, .string rs, .string f2, .bool u.h, .int .i64 u.y, .int .i64 u.m, .int .i64 u.k, .int .i64 u.wk, .int .i64 u.d, .int .i64 u.sec, .int .i64 u.base], .int .i64 0]) (by simp [results, Tryz.results19, go_sem, e0, e1, e2, e3, e4, e5, e6, e7, e8, e9, e10, e11, e12]) rfl ⟨by rw [HR.out, if_pos rfl]; rfl, d9⟩
theorem rErRead_any (A : Option Addr) (n c : Nat) (l : List ByteArray) (w : World) (S : StS w (.slice A n c) l) (hnc : n ≤ c) (hl : l.length ≤ 1000000) (hz : ∀ y ∈ l, y.size ≤ 600) :
  Calls Tryz.prog 19 #[.slice A n c] w fun e w' => e = .returned (.tuple #[(Er.rd l).1.v, .int .i64 (Er.rd l).2]) ∧ Below w.heap.size w w' := by
 by_cases h9 : l.length < 3 ∨ 7 < l.length
 ·
  exact rErRead_other _ l w S (by omega)
 ·
  match l, h9, hz, S with
  | [], h9, _, _ => simp at h9
  | [_], h9, _, _ => simp at h9
  | [_, _], h9, _, _ => simp at h9
  | f0 :: f1 :: f2 :: r, h9, hz, S =>
   have h4 : r.length ≤ 4 := by simp at h9; omega
   have hn : n = r.length + 3 := by have := S.len; simpa using this
   obtain ⟨q, hq⟩ : ∃ q, A = some q := by
    obtain ⟨A', c', hv, hA⟩ := S
    cases hv
    obtain ⟨q', e, -⟩ := hA (by simp)
    exact ⟨q', e⟩
   subst hq
   by_cases h8 : c = 3
   ·
    exact rErRead_a q n c f0 f1 f2 r h4 hn hnc h8 w S hz
   ·
    exact rErRead_b q n c f0 f1 f2 r h4 hn hnc h8 w S hz
end Go.Proofs.YtpggfhmnhbnefaaGreatDoor
