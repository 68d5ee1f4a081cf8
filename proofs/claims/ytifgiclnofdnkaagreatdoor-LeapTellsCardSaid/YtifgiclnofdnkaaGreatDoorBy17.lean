/- Joined: RsG, RefD. -/
import Derived.Test.YtifgiclnofdnkaaGreatDoorBy01
import Derived.BigRegion
import Derived.Test.YtifgiclnofdnkaaGreatDoorBy16
import Derived.Test.YtifgiclnofdnkaaGreatDoorBy12
set_option linter.unusedVariables false
set_option linter.unusedSimpArgs false
namespace Go.Proofs.YtifgiclnofdnkaaGreatDoor
open Go.RowKit
set_option maxHeartbeats 4000000 in
set_option maxRecDepth 100000 in
theorem rsread_short (s : ByteArray) (w : World) (hs : s.size < 15) :
  Calls Tryz.prog 69 #[.string s] w fun e w' => e = .returned (.tuple #[.agg #[.int .i64 0, .int .i64 0, .int .i64 0, .int .i64 0, .int .i64 0, .int .i64 0], .int .i64 4]) ∧ Below w.heap.size w w' := by
 have h1 : (s.size : Int) - 15 < 0 := by omega
 clear hs
 go_enter Tryz.func69, Tryz.ntmps69
 go_upto_region 3 with (fail)
 refine wp_named ?_; intro w1 hw1
 have d1 : Below w.heap.size w w1 := by rw [hw1]; exact gr0
 have B1 := Lib.hid d1
 have R1 : Bk6 w1 (w.heap.size) (.int .i64 0) (.int .i64 0) (.int .i64 0) (.int .i64 0) (.int .i64 0) (.int .i64 0) := by rw [hw1]; exact ⟨by simp <;> omega, by intro j; simp [go_sem], by simp [go_sem], by simp [go_sem], by simp [go_sem], by simp [go_sem], by simp [go_sem], by simp [go_sem]⟩
 clear d1 hw1
 have tx := R1; obtain ⟨cR_b, cR_f, cR_0, cR_1, cR_2, cR_3, cR_4, cR_5⟩ := tx
 go_wp2_with fail
 refine bodyPost_ret (v := .tuple #[.agg #[.int .i64 0, .int .i64 0, .int .i64 0, .int .i64 0, .int .i64 0, .int .i64 0], .int .i64 4]) (by simp [results, Tryz.results69, go_sem, cR_b, cR_f, cR_0, cR_1, cR_2, cR_3, cR_4, cR_5]) rfl ⟨rfl, ?_⟩
 clear cR_b cR_f cR_0 cR_1 cR_2 cR_3 cR_4 cR_5
 have hz := B1.out.size
 iterate 6 (refine Below.setCell ?_ (by first | omega | (simp; done) | (simp; omega)) _)
 exact B1.out
theorem pok_all {l : List UInt8} : Rd.bOk l = true ↔ ∀ j, j < 5 → Rd.pOk l j = true := by
 unfold Rd.bOk
 simp only [Bool.and_eq_true]
 constructor
 ·
  rintro ⟨a, b, c, d, e⟩ j hj
  obtain rfl | rfl | rfl | rfl | rfl : j = 0 ∨ j = 1 ∨ j = 2 ∨ j = 3 ∨ j = 4 := by omega
  all_goals assumption
 ·
  intro h
  exact ⟨h 0 (by omega), h 1 (by omega), h 2 (by omega), h 3 (by omega), h 4 (by omega)⟩
set_option maxHeartbeats 16000000 in
set_option maxRecDepth 100000 in
theorem rsread_main (s : ByteArray) (a b : Int) (R : Value) (w : World) (hs : 15 ≤ s.size) (hm : s.size ≤ 1000)
  (CY : Hid (∀ W, Calls Tryz.prog 99 #[.string (s.extract 0 (s.size - 15))] W fun e w' => e = .returned (.tuple #[.int .i64 a, .int .i64 b]) ∧ W = w'))
  (H1 : Hid (Rd.bOk (Rd.tl s.data.toList) = false → R = .tuple #[.agg #[.int .i64 0, .int .i64 0, .int .i64 0, .int .i64 0, .int .i64 0, .int .i64 0], .int .i64 4]))
  (H2 : Hid (Rd.bOk (Rd.tl s.data.toList) = true → (b == 0) = false → R = .tuple #[.agg #[.int .i64 0, .int .i64 0, .int .i64 0, .int .i64 0, .int .i64 0, .int .i64 0], .int .i64 b]))
  (H3 : Hid (Rd.bOk (Rd.tl s.data.toList) = true → (b == 0) = true → St.rB a (Rd.pV (Rd.tl s.data.toList) 0) (Rd.pV (Rd.tl s.data.toList) 1) (Rd.pV (Rd.tl s.data.toList) 2) (Rd.pV (Rd.tl s.data.toList) 3) (Rd.pV (Rd.tl s.data.toList) 4) = false → R = .tuple #[.agg #[.int .i64 0, .int .i64 0, .int .i64 0, .int .i64 0, .int .i64 0, .int .i64 0], .int .i64 1]))
  (H4 : Hid (Rd.bOk (Rd.tl s.data.toList) = true → (b == 0) = true → St.rB a (Rd.pV (Rd.tl s.data.toList) 0) (Rd.pV (Rd.tl s.data.toList) 1) (Rd.pV (Rd.tl s.data.toList) 2) (Rd.pV (Rd.tl s.data.toList) 3) (Rd.pV (Rd.tl s.data.toList) 4) = true → R = .tuple #[.agg #[.int .i64 a, .int .i64 (Rd.pV (Rd.tl s.data.toList) 0), .int .i64 (Rd.pV (Rd.tl s.data.toList) 1), .int .i64 (Rd.pV (Rd.tl s.data.toList) 2), .int .i64 (Rd.pV (Rd.tl s.data.toList) 3), .int .i64 (Rd.pV (Rd.tl s.data.toList) 4)], .int .i64 0])) :
  Calls Tryz.prog 69 #[.string s] w fun e w' => e = .returned R ∧ Below w.heap.size w w' := by
 obtain ⟨i0, hi, hz0, hz1, hz2⟩ := rf_parts info_int
 have PT := Lib.hid (part4 s hs)
 have h1 : ¬ (s.size : Int) - 15 < 0 := by omega
 have h2 : 0 ≤ (s.size : Int) - 15 := by omega
 have h3 : (s.size : Int) - 15 ≤ (s.size : Int) := by omega
 have h4 : (s.size : Int) ≤ 1000 := by omega
 go_enter Tryz.func69, Tryz.ntmps69
 go_wp2_with fail
 go_loopw [6, 7] (fun n i wr => ∃ k : Nat, k ≤ 5 ∧ i = .int .i64 k ∧ Hid (∀ j, j < k → Rd.pOk (Rd.tl s.data.toList) j = true) ∧ Hid (wr.ownsRow (w.heap.size + 1) 3 1 n k (pvs s k)) ∧ Hid (Bk6 wr w.heap.size (.int .i64 0) (.int .i64 0) (.int .i64 0) (.int .i64 0) (.int .i64 0) (.int .i64 0)) ∧ Hid (Below w.heap.size w wr)) (fun _ i _ => 5 - (intOf i).toNat)
 case atStart =>
  refine ⟨0, Nat.zero_le _, rfl, fun j hj => absurd hj (Nat.not_lt_zero _), World.ownsRow_nil _ _ _ _, ?_, ?_⟩
  ·
   exact Bk6.of (Below.refl _ _) (by simp) (by intro j; simp [go_sem]) (by simp [go_sem]) (by simp [go_sem]) (by simp [go_sem]) (by simp [go_sem]) (by simp [go_sem]) (by simp [go_sem])
  ·
   exact (Below.refl _ _).alloc (Nat.le_refl _) _
 case round =>
  obtain ⟨k, hk, rfl, hok, hown, hbk, hbel⟩ := hrel
  by_cases hlt : k < 5
  ·
   obtain ⟨Q, R', c, g, c0, c1, zQ, zR, hp, hv, F1, F2, F3, F4, I0, I1⟩ := PT.out k hlt
   have HP := Lib.hid hp
   have HV := Lib.hid hv
   clear hp hv
   have zQ' : (Q.size : Int) = 2 := by omega
   have zR' : R'.size ≤ 1000 := by omega
   have hkI : (k : Int) ≤ 4 := by omega
   have B : Bk6 wr w.heap.size (.int .i64 0) (.int .i64 0) (.int .i64 0) (.int .i64 0) (.int .i64 0) (.int .i64 0) := hbk.out
   have c_b := B.hb; have c_f := B.fz; have c_0 := B.k0; have c_1 := B.k1; have c_2 := B.k2; have c_3 := B.k3; have c_4 := B.k4; have c_5 := B.k5
   clear B
   by_cases hc : c = g
   ·
    have gc : (c == g) = true := by rw [beq_iff_eq]; exact hc
    have gn : (c != g) = false := by unfold bne; rw [gc]; rfl
    have hdg : Num.dgs Q.data.toList = Q.data.toList.all Num.dig := by
     have : Q.data.toList.isEmpty = false := by
      have := Num.rn_len Q
      cases h : Q.data.toList with
      | nil => rw [h] at this; simp at this; omega
      | cons _ _ => rfl
     unfold Num.dgs; rw [this]; simp
    cases hd : Q.data.toList.all Num.dig
    ·
     have hno := Lib.hid (show R = .tuple #[.agg #[.int .i64 0, .int .i64 0, .int .i64 0, .int .i64 0, .int .i64 0, .int .i64 0], .int .i64 4] from H1.out (by
      rw [Bool.eq_false_iff]
      intro h
      have := pok_all.1 h k hlt
      rw [HP.out, hd] at this
      simp at this))
     have CD : Hid (∀ W, Calls Tryz.prog 97 #[.string Q] W fun e w' => e = .returned (.bool false) ∧ w' = W) := fun W => (hd ▸ hdg ▸ rdigs_any Q W (by unfold maxLen; omega)).mono fun _ _ ⟨a, b⟩ => ⟨a, b.symm⟩
     clear hd hc hdg PT
     go_wp2_with fail
     go_quiet ((go_at_call 97; exact Calls.quiet_of_same (CD.out _)))
     go_wp2_with fail
     refine bodyPost_ret (v := .tuple #[.agg #[.int .i64 0, .int .i64 0, .int .i64 0, .int .i64 0, .int .i64 0, .int .i64 0], .int .i64 4]) (by simp [results, Tryz.results69, go_sem, c_b, c_f, c_0, c_1, c_2, c_3, c_4, c_5]) rfl ⟨by rw [hno.out], ?_⟩
     clear F1 F2 F3 F4 I0 I1
     repeat (first | refine Below.setCell ?_ (by first | (simp; done) | (simp; omega) | omega) _ | refine _root_.Go.below_drewN ?_ _ | refine Below.drew ?_)
     exact hbel.out
    ·
     have CD : Hid (∀ W, Calls Tryz.prog 97 #[.string Q] W fun e w' => e = .returned (.bool true) ∧ w' = W) := fun W => (hd ▸ hdg ▸ rdigs_any Q W (by unfold maxLen; omega)).mono fun _ _ ⟨a, b⟩ => ⟨a, b.symm⟩
     obtain ⟨d0, d1, d2, d3, hpv⟩ := HV.out hd
     have CV : Hid (∀ W, Calls Tryz.prog 98 #[.string R'] W fun e w' => e = .returned (.int .i64 (Rd.pV (Rd.tl s.data.toList) k)) ∧ Below W.heap.size W w') := fun W => by
      rw [hpv]
      exact (two_any R' c0 c1 W I0 I1 d0 d1 d2 d3).mono fun e w' ⟨h1, n, h2⟩ => ⟨h1, by rw [h2]; exact below_draw _ _⟩
     have hok' := Lib.hid (show ∀ j, j < k + 1 → Rd.pOk (Rd.tl s.data.toList) j = true by
      intro j hj
      by_cases h : j = k
      ·
       subst h; rw [HP.out, gc, hd]; rfl
      ·
       exact hok.out j (by omega))
     have PS := Lib.hid (pvs_succ s k)
     generalize hv : Rd.pV (Rd.tl s.data.toList) k = v at CV PS
     clear hd hc hv hdg hpv d0 d1 d2 d3 I0 I1 HV HP PT
     go_wp2_with fail
     go_quiet ((go_at_call 97; exact Calls.quiet_of_same (CD.out _)))
     go_wp2_with fail
     refine (CV.out _).mono ?_; rintro e w1 ⟨rfl, b1⟩
     have e1 : Below wr.heap.size wr w1 := below_step gr0 b1
     have O1 := Lib.hid (own_on hown.out e1)
     have K1 := Lib.hid (hbk.out.keep e1)
     have B1 := Lib.hid (below_step hbel.out e1)
     have z1 := e1.size
     clear e1 b1 CV CD F1 F2 F3 F4 hbk hown hok c_f c_0 c_1 c_2 c_3 c_4 c_5
     go_wp2_with (at_builtin; refine wpList_append_own _ rfl _ _ 129 rfl (w.heap.size + 1) 3 i0 (.int .i64 0) 1 8 Tryz.underlying129 hi hz0 hz1 hz2 rfl (by decide) _ _ _ rfl (O1.out.alloc _) ⟨w1.heap.size, 0, none⟩ 1 1 [.int .i64 v] rfl rfl (by intro j u hj; match j, hj with | 0, hj => (simp at hj; subst hj; simp [go_sem])) (by intro u hu; simp at hu; subst hu; rfl) (by unfold maxLen; omega) (by omega) (by simp; omega) ?_)
     intro v6 w6 own6 grow6 _
     have B6 := Lib.hid (show Below w.heap.size w w6 from ((B1.out.alloc B1.out.size _).trans (below_grown grow6 (by have := B1.out.size; simp; omega) (fun g hg => by have := own_row O1.out g hg; omega))))
     have O6 := Lib.hid (show w6.ownsRow (w.heap.size + 1) 3 1 v6 (k + 1) (pvs s (k + 1)) from by rw [PS.out]; exact own6)
     have KK : Below (w.heap.size + 1) w1 w6 := ((Below.refl (w.heap.size + 1) w1).alloc (by omega) _).trans (below_grown grow6 (by simp; omega) (own_row O1.out))
     have K6 := Lib.hid (show Bk6 w6 w.heap.size (.int .i64 0) (.int .i64 0) (.int .i64 0) (.int .i64 0) (.int .i64 0) (.int .i64 0) from ⟨by have := KK.size; omega, fun j => (KK.frozen (p := ⟨w.heap.size, j, none⟩) (Nat.lt_succ_self _)).trans (K1.out.fz j), (KK.cell (p := ⟨w.heap.size, 0, none⟩) (Nat.lt_succ_self _)).trans K1.out.k0, (KK.cell (p := ⟨w.heap.size, 1, none⟩) (Nat.lt_succ_self _)).trans K1.out.k1, (KK.cell (p := ⟨w.heap.size, 2, none⟩) (Nat.lt_succ_self _)).trans K1.out.k2, (KK.cell (p := ⟨w.heap.size, 3, none⟩) (Nat.lt_succ_self _)).trans K1.out.k3, (KK.cell (p := ⟨w.heap.size, 4, none⟩) (Nat.lt_succ_self _)).trans K1.out.k4, (KK.cell (p := ⟨w.heap.size, 5, none⟩) (Nat.lt_succ_self _)).trans K1.out.k5⟩)
     clear own6 grow6 KK O1 K1 B1
     go_wp2_with fail
     go_roundw
     case rel => exact ⟨k + 1, by omega, by go_num, hok', O6, K6, B6⟩
     case measure => first | (simp [intOf]; done) | (simp [intOf]; omega)
   ·
    have gc : (c == g) = false := by rw [beq_eq_false_iff_ne]; exact hc
    have gn : (c != g) = true := by unfold bne; rw [gc]; rfl
    have hno := Lib.hid (show R = .tuple #[.agg #[.int .i64 0, .int .i64 0, .int .i64 0, .int .i64 0, .int .i64 0, .int .i64 0], .int .i64 4] from H1.out (by
     rw [Bool.eq_false_iff]
     intro h
     have := pok_all.1 h k hlt
     rw [HP.out, gc] at this
     simp at this))
    have CD : Hid (∀ W, Calls Tryz.prog 97 #[.string Q] W fun e w' => e = .returned (.bool (Num.dgs Q.data.toList)) ∧ w' = W) := fun W => (rdigs_any Q W (by unfold maxLen; omega)).mono fun _ _ ⟨a, b⟩ => ⟨a, b.symm⟩
    clear hc PT
    go_wp2_with fail
    go_quiet ((go_at_call 97; exact Calls.quiet_of_same (CD.out _)))
    go_wp2_with fail
    refine bodyPost_ret (v := .tuple #[.agg #[.int .i64 0, .int .i64 0, .int .i64 0, .int .i64 0, .int .i64 0, .int .i64 0], .int .i64 4]) (by simp [results, Tryz.results69, go_sem, c_b, c_f, c_0, c_1, c_2, c_3, c_4, c_5]) rfl ⟨by rw [hno.out], ?_⟩
    clear F1 F2 F3 F4 I0 I1
    repeat (first | refine Below.setCell ?_ (by first | (simp; done) | (simp; omega) | omega) _ | refine _root_.Go.below_drewN ?_ _ | refine Below.drew ?_)
    exact hbel.out
  ·
   obtain rfl : k = 5 := by omega
   have hb := Lib.hid (pok_all.2 hok.out)
   have B : Bk6 wr w.heap.size (.int .i64 0) (.int .i64 0) (.int .i64 0) (.int .i64 0) (.int .i64 0) (.int .i64 0) := hbk.out
   cases hbz : b == 0
   ·
    have HR := Lib.hid (H2.out hb.out hbz)
    have nb : (b != 0) = true := by unfold bne; rw [hbz]; rfl
    have c_b := B.hb; have c_f := B.fz; have c_0 := B.k0; have c_1 := B.k1; have c_2 := B.k2; have c_3 := B.k3; have c_4 := B.k4; have c_5 := B.k5
    clear B PT
    go_wp2_with fail
    refine (CY.out _).mono ?_; rintro e w1 ⟨rfl, rfl⟩
    go_wp2_with fail
    refine bodyPost_ret (v := .tuple #[.agg #[.int .i64 0, .int .i64 0, .int .i64 0, .int .i64 0, .int .i64 0, .int .i64 0], .int .i64 b]) (by simp [results, Tryz.results69, go_sem, c_b, c_f, c_0, c_1, c_2, c_3, c_4, c_5]) rfl ⟨by rw [HR.out], ?_⟩
    repeat (first | refine Below.setCell ?_ (by first | (simp; done) | (simp; omega) | omega) _ | refine _root_.Go.below_drewN ?_ _ | refine Below.drew ?_)
    exact hbel.out
   ·
    have nb : (b != 0) = false := by unfold bne; rw [hbz]; rfl
    obtain ⟨A, cc, rfl, ha⟩ := Lst.own hown.out
    obtain ⟨ad, rfl, hadl, hcc⟩ := ha (by omega)
    have g0 : wr.cell? ad = some (.int .i64 (Rd.pV (Rd.tl s.data.toList) 0)) := by have h := hcc 0 _ rfl; rw [Addr.add_zero'] at h; exact h
    have g1 : wr.cell? ⟨ad.block, ad.off + 1, none⟩ = some (.int .i64 (Rd.pV (Rd.tl s.data.toList) 1)) := by have h := hcc 1 _ rfl; rw [Addr.add_succ'] at h; exact h
    have g2 : wr.cell? ⟨ad.block, ad.off + 2, none⟩ = some (.int .i64 (Rd.pV (Rd.tl s.data.toList) 2)) := by have h := hcc 2 _ rfl; rw [Addr.add_succ'] at h; exact h
    have g3 : wr.cell? ⟨ad.block, ad.off + 3, none⟩ = some (.int .i64 (Rd.pV (Rd.tl s.data.toList) 3)) := by have h := hcc 3 _ rfl; rw [Addr.add_succ'] at h; exact h
    have g4 : wr.cell? ⟨ad.block, ad.off + 4, none⟩ = some (.int .i64 (Rd.pV (Rd.tl s.data.toList) 4)) := by have h := hcc 4 _ rfl; rw [Addr.add_succ'] at h; exact h
    have G3 := Lib.hid (H3.out hb.out hbz)
    have G4 := Lib.hid (H4.out hb.out hbz)
    have CS := Lib.hid (fun W => rsright_any a (Rd.pV (Rd.tl s.data.toList) 0) (Rd.pV (Rd.tl s.data.toList) 1) (Rd.pV (Rd.tl s.data.toList) 2) (Rd.pV (Rd.tl s.data.toList) 3) (Rd.pV (Rd.tl s.data.toList) 4) W)
    clear hcc ha PT H1 H2 H3 H4 hok hown hb
    generalize Rd.pV (Rd.tl s.data.toList) 0 = p0 at *
    generalize Rd.pV (Rd.tl s.data.toList) 1 = p1 at *
    generalize Rd.pV (Rd.tl s.data.toList) 2 = p2 at *
    generalize Rd.pV (Rd.tl s.data.toList) 3 = p3 at *
    generalize Rd.pV (Rd.tl s.data.toList) 4 = p4 at *
    have c_b := B.hb; have c_f := B.fz; have c_0 := B.k0; have c_1 := B.k1; have c_2 := B.k2; have c_3 := B.k3; have c_4 := B.k4; have c_5 := B.k5
    clear hbk
    go_wp2_with fail
    refine (CY.out _).mono ?_; rintro e w1 ⟨rfl, rfl⟩
    go_wp2_with fail
    go_region
    clear g0 g1 g2 g3 g4 c_f c_0 c_1 c_2 c_3 c_4 c_5
    cases hr : St.rB a p0 p1 p2 p3 p4
    ·
     have HR := Lib.hid (G3.out hr)
     rw [hr] at CS
     clear hr G3 G4
     go_wp2_with fail
     refine (CS.out _).mono ?_; rintro e w2 ⟨rfl, b2⟩
     have d2 : Below wr.heap.size wr w2 := below_step gr0 b2
     have Z := B.keep d2
     have E2 := Lib.hid (below_step hbel.out d2)
     have c_b := Z.hb; have c_f := Z.fz; have c_0 := Z.k0; have c_1 := Z.k1; have c_2 := Z.k2; have c_3 := Z.k3; have c_4 := Z.k4; have c_5 := Z.k5
     clear b2 d2 B Z hbel
     go_wp2_with fail
     refine bodyPost_ret (v := .tuple #[.agg #[.int .i64 0, .int .i64 0, .int .i64 0, .int .i64 0, .int .i64 0, .int .i64 0], .int .i64 1]) (by simp [results, Tryz.results69, go_sem, c_b, c_f, c_0, c_1, c_2, c_3, c_4, c_5]) rfl ⟨by rw [HR.out], ?_⟩
     repeat (first | refine Below.setCell ?_ (by first | (simp; done) | (simp; omega) | omega) _ | refine _root_.Go.below_drewN ?_ _ | refine Below.drew ?_)
     exact E2.out
    ·
     have HR := Lib.hid (G4.out hr)
     rw [hr] at CS
     clear hr G3 G4
     go_wp2_with fail
     refine (CS.out _).mono ?_; rintro e w2 ⟨rfl, b2⟩
     have X : Bk6 w2 wr.heap.size (.int .i64 a) (.int .i64 p0) (.int .i64 p1) (.int .i64 p2) (.int .i64 p3) (.int .i64 p4) := Bk6.of b2 (by simp) (by intro j; simp [go_sem]) (by simp [go_sem]) (by simp [go_sem]) (by simp [go_sem]) (by simp [go_sem]) (by simp [go_sem]) (by simp [go_sem])
     have d2 : Below wr.heap.size wr w2 := below_step gr0 b2
     have Z := B.keep d2
     have hlt2 := B.hb
     have E2 := Lib.hid (below_step hbel.out d2)
     have c_b := Z.hb; have c_f := Z.fz; have c_0 := Z.k0; have c_1 := Z.k1; have c_2 := Z.k2; have c_3 := Z.k3; have c_4 := Z.k4; have c_5 := Z.k5
     have x_b := X.hb; have x_f := X.fz; have x_0 := X.k0; have x_1 := X.k1; have x_2 := X.k2; have x_3 := X.k3; have x_4 := X.k4; have x_5 := X.k5
     clear b2 d2 B Z X hbel
     go_wp2_with fail
     refine bodyPost_ret (v := .tuple #[.agg #[.int .i64 a, .int .i64 p0, .int .i64 p1, .int .i64 p2, .int .i64 p3, .int .i64 p4], .int .i64 0]) (by simp [results, Tryz.results69, go_sem, c_b, c_f, c_0, c_1, c_2, c_3, c_4, c_5]) rfl ⟨by rw [HR.out], ?_⟩
     repeat (first | refine Below.setCell ?_ (by first | (simp; done) | (simp; omega) | omega) _ | refine _root_.Go.below_drewN ?_ _ | refine Below.drew ?_)
     exact E2.out
structure Own (w W : World) (b : Nat) : Prop where
 one : One w W b (.int .i64 0) (.int .i64 0) (.int .i64 0)
 old : w.heap.size ≤ b
 f0 : W.frozen? ⟨b, 0, none⟩ = false
 f1 : W.frozen? ⟨b, 1, none⟩ = false
 f2 : W.frozen? ⟨b, 2, none⟩ = false
theorem Own.keep {w W W' : World} {b : Nat} (h : Own w W b) (k : Below W.heap.size W W') : Own w W' b := by
 obtain ⟨h1, ho, f0, f1, f2⟩ := h
 have hb := h1.hb
 exact ⟨h1.keep k, ho, by rw [k.frozen (p := ⟨b, _, none⟩) hb]; exact f0, by rw [k.frozen (p := ⟨b, _, none⟩) hb]; exact f1, by rw [k.frozen (p := ⟨b, _, none⟩) hb]; exact f2⟩
theorem Own.new {w : World} {t : TypeId} : Own w (w.alloc (.cells #[.int .i64 0, .int .i64 0, .int .i64 0] t)) w.heap.size :=
 ⟨One.new (Below.refl _ _), Nat.le_refl _, by simp [go_sem], by simp [go_sem], by simp [go_sem]⟩
theorem ahead_le (y y' : Int) (h : y ≤ y') : Cal.ahead y ≤ Cal.ahead y' := by unfold Cal.ahead; omega
theorem ahead_range {y n : Int} (h0 : -15329228 ≤ n) (h : n < Cal.ahead y) : -40000 < y := by
 by_cases hy : -40000 < y
 ·
  exact hy
 ·
  have := ahead_le y (-40000) (by omega)
  have : Cal.ahead (-40000) = -15329228 := by decide
  omega
theorem ahead_range' {y n : Int} (h1 : n ≤ 13890537) (h : Cal.ahead y ≤ n) : y ≤ 40000 := by
 by_cases hy : y ≤ 40000
 ·
  exact hy
 ·
  have := ahead_le 40001 y (by omega)
  have : Cal.ahead 40001 = 13890538 := by decide
  omega
theorem ahead_bd {y : Int} (h0 : -50000 ≤ y) (h1 : y ≤ 50000) : -20000000 ≤ Cal.ahead y ∧ Cal.ahead y ≤ 20000000 := by unfold Cal.ahead; omega
set_option maxHeartbeats 2000000 in
set_option maxRecDepth 100000 in
theorem rdate_yes (n : Int) (w : World) (h0 : -15329228 ≤ n) (h1 : n ≤ 13890537) :
  Calls Tryz.prog 52 #[.int .i64 n] w fun e w' => e = .returned (.tuple #[.agg #[.int .i64 (Cal.dY n), .int .i64 (Cal.dM n), .int .i64 (Cal.dD n)], .int .i64 0]) ∧ Below w.heap.size w w' := by
 have O0 := Own.new (w := w) (t := 48)
 have g0 : -41884 ≤ n / 366 := by omega
 have g1 : n / 366 ≤ 37953 := by omega
 go_enter Tryz.func52, Tryz.ntmps52
 go_wp2_with fail
 refine (ahead_any (-40000) _ (by omega) (by omega)).mono ?_; rintro e w1 ⟨rfl, k1, rfl⟩
 rw [show Cal.ahead (-40000) = -15329228 by decide]
 go_wp2_with fail
 refine (ahead_any 40001 _ (by omega) (by omega)).mono ?_; rintro e w2 ⟨rfl, k2, rfl⟩
 rw [show Cal.ahead 40001 = 13890538 by decide]
 go_wp2_with fail
 refine (floor_pos _ _ _ (by omega) (by omega) (by omega) (by omega)).mono ?_; rintro e w3 ⟨rfl, k3, rfl⟩
 go_wp2_with fail
 have OW : Own w ((w.alloc (.cells #[.int .i64 0, .int .i64 0, .int .i64 0] 48)).drewN (k1 + k2 + k3)) w.heap.size := O0.keep (below_draw _ _)
 clear O0
 generalize (w.alloc (.cells #[.int .i64 0, .int .i64 0, .int .i64 0] 48)).drewN (k1 + k2 + k3) = W0 at OW ⊢
 go_loopw [4] (fun v4 wr => ∃ y : Int, -40000 ≤ y ∧ y ≤ 50000 ∧ v4 = .int .i64 y ∧ Own w wr w.heap.size) (fun v4 _ => (intOf v4 + 50000).toNat)
 case atStart => exact ⟨1970 + n / 366, by omega, by omega, rfl, OW⟩
 case round =>
  obtain ⟨y, hy0, hy1, rfl, O⟩ := hrel
  clear OW
  obtain ⟨ab0, ab1⟩ := ahead_bd (y := y) (by omega) (by omega)
  by_cases hlt : n < Cal.ahead y
  ·
   have hr := ahead_range h0 hlt
   go_wp2_with (go_at_call 82; refine (ahead_any _ _ (by omega) (by omega)).mono ?_; rintro e w' ⟨rfl, j, rfl⟩)
   go_roundw
   case rel => exact ⟨y - 1, by omega, by omega, rfl, O.keep (below_draw _ _)⟩
   case measure => simp [intOf]; omega
  ·
   go_wp2_with fail
   refine (ahead_any _ _ (by omega) (by omega)).mono ?_; rintro e w' ⟨rfl, j, rfl⟩
   have O := O.keep (below_draw (B := wr.heap.size) wr j)
   generalize wr.drewN j = W1 at O ⊢
   go_wp2_with fail
   go_loopw [4] (fun v4 wr => ∃ y : Int, -40000 ≤ y ∧ y ≤ 40000 ∧ Cal.ahead y ≤ n ∧ v4 = .int .i64 y ∧ Own w wr w.heap.size) (fun v4 _ => (50000 - intOf v4).toNat)
   case atStart => exact ⟨y, by omega, ahead_range' h1 (by omega), by omega, rfl, O⟩
   case round =>
    clear hy0 hy1 ab0 ab1 hlt O
    rename_i ww
    obtain ⟨z, hy0, hy1, hle, rfl, O⟩ := hrel
    obtain ⟨ab0, ab1⟩ := ahead_bd (y := z + 1) (by omega) (by omega)
    by_cases hlt : Cal.ahead (z + 1) ≤ n
    ·
     have hr := ahead_range' h1 hlt
     go_wp2_with (go_at_call 82; refine (ahead_any _ _ (by omega) (by omega)).mono ?_; rintro e w' ⟨rfl, j, rfl⟩)
     go_roundw
     case rel => exact ⟨z + 1, by omega, by omega, hlt, rfl, O.keep (below_draw _ _)⟩
     case measure => simp [intOf]; omega
    ·
     have hgt : n < Cal.ahead z + 365 + Cal.lp z := by rw [← Cal.ahead_succ]; omega
     obtain ⟨aa0, aa1⟩ := ahead_bd (y := z) (by omega) (by omega)
     go_wp2_with fail
     refine (ahead_any (z + 1) _ (by omega) (by omega)).mono ?_; rintro e w' ⟨rfl, j, rfl⟩
     have O := O.keep (below_draw (B := wr.heap.size) wr j)
     generalize wr.drewN j = W2 at O ⊢
     go_wp2_with fail
     refine (ahead_any z _ (by omega) (by omega)).mono ?_; rintro e w' ⟨rfl, j2, rfl⟩
     have O := O.keep (below_draw (B := W2.heap.size) W2 j2)
     generalize W2.drewN j2 = W3 at O ⊢
     clear ab0 ab1 hlt
     go_wp2_with fail
     go_loopw [5, 6] (fun v5 v6 wr => ∃ m : Int, 1 ≤ m ∧ m ≤ 12 ∧ v6 = .int .i64 m ∧ v5 = .int .i64 (n - Cal.ahead z - Cal.cum z m) ∧ 0 ≤ n - Cal.ahead z - Cal.cum z m ∧ Own w wr w.heap.size) (fun _ v6 _ => (12 - intOf v6).toNat)
     case atStart => exact ⟨1, by omega, by omega, rfl, by rw [show Cal.cum z 1 = 0 from rfl]; simp, by rw [show Cal.cum z 1 = 0 from rfl]; omega, O⟩
     case round =>
      clear O
      obtain ⟨m, hm0, hm1, rfl, rfl, hl0, O⟩ := hrel
      obtain ⟨c0, c1⟩ := Cal.cum_bd z m hm0 hm1
      obtain ⟨lp0, lp1⟩ := Cal.lp_01 z
      obtain ⟨l0, l1⟩ := Cal.len_bd z m
      have CS := Lib.hid (Cal.cum_succ z m hm0 hm1)
      by_cases hlt : Cal.len z m ≤ n - Cal.ahead z - Cal.cum z m
      ·
       have hm2 : m < 12 := by
        by_cases h12 : m < 12
        ·
         exact h12
        ·
         exfalso
         have e12 : m = 12 := by omega
         rw [e12] at hlt
         have : Cal.cum z 12 = 334 + Cal.lp z := rfl
         have : Cal.len z 12 = 31 := rfl
         omega
       go_wp2_with fail
       refine (rlen_any _ _ _).mono ?_; rintro e w4 ⟨rfl, b4⟩
       have O4 := O.keep b4
       clear O b4
       go_wp2_with fail
       refine (rlen_any _ _ _).mono ?_; rintro e w5 ⟨rfl, b5⟩
       have O5 := O4.keep b5
       clear O4 b5
       go_wp2_with fail
       go_roundw
       case rel => exact ⟨m + 1, by omega, by omega, rfl, by rw [CS.out]; go_num, by rw [CS.out]; omega, O5⟩
       case measure => simp [intOf]; omega
      ·
       have hR : Cal.Right z m (n - Cal.ahead z - Cal.cum z m + 1) := ⟨hy0, hy1, by omega, by omega⟩
       have hN : Cal.num z m (n - Cal.ahead z - Cal.cum z m + 1) = n := by unfold Cal.num; omega
       have hE := Cal.date_of_num hR
       rw [hN] at hE
       have HE := Lib.hid hE
       clear hE hN hR
       go_wp2_with fail
       refine (rlen_any _ _ _).mono ?_; rintro e w4 ⟨rfl, b4⟩
       have O4 := O.keep b4
       clear O b4
       have f0 := O4.f0; have f1 := O4.f1; have f2 := O4.f2; have k0 := O4.one.k0; have k1 := O4.one.k1; have k2 := O4.one.k2
       go_wp2_with fail
       refine bodyPost_ret (v := .tuple #[.agg #[.int .i64 z, .int .i64 m, .int .i64 (n - Cal.ahead z - Cal.cum z m + 1)], .int .i64 0]) (by simp [results, Tryz.results52, go_sem, k0, k1, k2]) rfl ⟨?_, ?_⟩
       ·
        obtain ⟨e1, e2, e3⟩ := HE.out
        rw [e1, e2, e3]
       ·
        have B := O4.one.bel
        repeat (first | exact B | refine Below.setCell ?_ (by simp) _)
end Go.Proofs.YtifgiclnofdnkaaGreatDoor
