/- Infos: SeamSeconds' walk. -/
import Derived.Test.YtmnmmbeageddkaaIfX
import Derived.Test.YtmnmmbeageddkaaSsE
set_option linter.unusedVariables false
set_option linter.unusedSimpArgs false
namespace Go.Proofs.Ytmnmmbeageddkaa
open Go.RowKit Go.Sort Go.Shelf

/-- What the walk keeps: both lists, and the span's block. -/
def E39 (w W : World) (va vb : Value) (a b : List If.I) (g : Nat) (s0 s1 : Int) : Prop :=
  Below w.heap.size w W ∧ InV W va a ∧ InV W vb b ∧ Blk W g 32 #[.int .i64 s0, .int .i64 s1]
theorem E39.on {w W W' : World} {va vb : Value} {a b : List If.I} {g : Nat} {s0 s1 : Int} (h : E39 w W va vb a b g s0 s1) (k : Below W.heap.size W W') : E39 w W' va vb a b g s0 s1 :=
  ⟨below_step h.1 k, h.2.1.on k, h.2.2.1.on k, h.2.2.2.on k⟩
abbrev VaB (W : World) (B : Nat) (x0 x1 : Int) (x2 : ByteArray) : Prop := Blk W B 34 #[.int .i64 x0, .int .i64 x1, .string x2]
theorem bnew39 (W : World) (o : Obj) : Below W.heap.size W (W.alloc o) := (Below.refl _ _).alloc (Nat.le_refl _) _
theorem patches_find {w : World} {e : Ending} {w' : World} {a : List If.I} (h : AnsK (fun x y => x || y) (a.map If.sp) [] w e w') :
    ∃ (u : Option Addr × Nat) (l : List Ss.S), e = .returned (.slice u.1 (List.length l) u.2) ∧ SpV w' (.slice u.1 (List.length l) u.2) l ∧ l.length ≤ 2 * a.length ∧ (∀ t, Ss.inl l t = (If.at_ t a).2) ∧ Below w.heap.size w w' := by
  obtain ⟨v, l, rfl, hv, _, h3, h4, hb⟩ := h
  obtain ⟨u, rfl, hu⟩ := hv.form
  exact ⟨u, l, rfl, hu, by rw [List.length_map] at h4; simpa using h4, fun t => by rw [h3 t, If.at_in]; simp [Ss.inl], hb⟩
theorem missing_find {w : World} {e : Ending} {w' : World} {a : List If.I} {s0 s1 : Int} (h : AnsK (fun x y => x && !y) [(s0, s1)] (a.map If.sp) w e w') :
    ∃ (u : Option Addr × Nat) (l : List Ss.S), e = .returned (.slice u.1 (List.length l) u.2) ∧ SpV w' (.slice u.1 (List.length l) u.2) l ∧ l.length ≤ 2 * (1 + a.length) ∧ (∀ t, Ss.inl l t = (Sp.hs s0 s1 t && !(If.at_ t a).2)) ∧ Below w.heap.size w w' := by
  obtain ⟨v, l, rfl, hv, _, h3, h4, hb⟩ := h
  obtain ⟨u, rfl, hu⟩ := hv.form
  exact ⟨u, l, rfl, hu, by rw [List.length_map] at h4; simpa using h4, fun t => by rw [h3 t, If.at_in, Ss.inl_one], hb⟩
theorem find_in {w : World} {e : Ending} {w' : World} {a : List Ss.S} {t : Int} (h : ∃ l, Ss.Rs l ∧ (∀ u, Ss.inl l u = Ss.inl a u) ∧ e = .returned (.tuple #[.agg #[.int .i64 (Ss.fd t l).1, .int .i64 (Ss.fd t l).2.1], .bool (Ss.fd t l).2.2]) ∧ Below w.heap.size w w') :
    ∃ x y, e = .returned (.tuple #[.agg #[.int .i64 x, .int .i64 y], .bool (Ss.inl a t)]) ∧ Below w.heap.size w w' := by
  obtain ⟨l, _, h2, rfl, hb⟩ := h
  exact ⟨_, _, by rw [← h2 t, ← Ss.fd_in], hb⟩
set_option maxRecDepth 100000 in
set_option maxHeartbeats 16000000 in
theorem seam_seconds (va vb : Value) (a b : List If.I) (s0 s1 t : Int) (w : World) (h : InV w va a) (k : InV w vb b) :
    Calls Try.prog 6 #[va, vb, .agg #[.int .i64 s0, .int .i64 s1], .int .i64 t] w fun e w' => e = .returned (.bool true) ∧ Below w.heap.size w w' := by
  obtain ⟨A, c, rfl, -⟩ := id h
  obtain ⟨B, d, rfl, -⟩ := id k
  have E0 := Lib.hid (show E39 w (w.alloc (.cells #[.int .i64 s0, .int .i64 s1] 32)) (.slice A a.length c) (.slice B b.length d) a b w.heap.size s0 s1 from ⟨bnew39 _ _, h.on (bnew39 _ _), k.on (bnew39 _ _), Blk.new _ _ _⟩)
  clear h k
  go_enter Try.func6, Try.ntmps6
  go_upto_region 1 with (fail)
  generalize hw0 : w.alloc (.cells #[.int .i64 s0, .int .i64 s1] 32) = w0 at *
  clear hw0
  go_wp2_with fail
  refine (lives39 _).mono ?_
  rintro e w1 ⟨rfl, b1⟩
  have E1 := Lib.hid (E0.out.on b1)
  clear b1 E0
  by_cases ha : (40 : Int) < a.length
  · go_wp2
    go_ret
    exact ⟨rfl, E1.out.1⟩
  by_cases hb : (40 : Int) < b.length
  · go_wp2
    go_ret
    exact ⟨rfl, E1.out.1⟩
  have HA := Lib.hid (show a.length ≤ 40 by omega)
  have HB := Lib.hid (show b.length ≤ 40 by omega)
  go_wp2_with fail
  refine (if_at _ a t _ E1.out.2.1 (by have := HA.out; omega)).mono ?_
  rintro e w2 ⟨rfl, b2⟩
  have E2 := Lib.hid (E1.out.on b2)
  clear b2 E1
  obtain ⟨⟨⟨u0, u1, u2⟩, u3⟩, hu⟩ : ∃ r, If.at_ t a = r := ⟨_, rfl⟩
  rw [hu]
  dsimp only
  have U := Lib.hid hu
  clear hu
  go_upto_region 6 with (fail)
  have PU := Lib.hid (show VaB _ _ u0 u1 u2 from Blk.new w2 34 #[.int .i64 u0, .int .i64 u1, .string u2])
  have E3 := Lib.hid (E2.out.on (bnew39 w2 (.cells #[.int .i64 u0, .int .i64 u1, .string u2] 34)))
  clear E2
  generalize w2.alloc (.cells #[.int .i64 u0, .int .i64 u1, .string u2] 34) = w3 at *
  generalize w2.heap.size = gu at *
  go_wp2_with fail
  refine (if_at _ b t _ E3.out.2.2.1 (by have := HB.out; omega)).mono ?_
  rintro e w4 ⟨rfl, b4⟩
  have E4 := Lib.hid (E3.out.on b4); have PU4 := Lib.hid (PU.out.on b4)
  clear b4 E3 PU
  obtain ⟨⟨⟨v0, v1, v2⟩, v3⟩, hv⟩ : ∃ r, If.at_ t b = r := ⟨_, rfl⟩
  rw [hv]
  dsimp only
  have V := Lib.hid hv
  clear hv
  go_upto_region 7 with (fail)
  have PV := Lib.hid (show VaB _ _ v0 v1 v2 from Blk.new w4 34 #[.int .i64 v0, .int .i64 v1, .string v2])
  have E5 := Lib.hid (E4.out.on (bnew39 w4 (.cells #[.int .i64 v0, .int .i64 v1, .string v2] 34)))
  have PU5 := Lib.hid (PU4.out.on (bnew39 w4 (.cells #[.int .i64 v0, .int .i64 v1, .string v2] 34)))
  clear E4 PU4
  generalize w4.alloc (.cells #[.int .i64 v0, .int .i64 v1, .string v2] 34) = w5 at *
  generalize w4.heap.size = gv at *
  have c0 := E5.out.2.2.2.c0; have c1 := E5.out.2.2.2.c1
  go_wp2_with fail
  refine (seam_cut _ a s0 s1 _ E5.out.2.1 (by have := HA.out; omega)).mono ?_
  rintro e w6 ⟨vc, hvc, rfl, b6⟩
  obtain ⟨⟨C6, d6⟩, rfl, hc6⟩ := hvc.form
  have E6 := Lib.hid (E5.out.on b6); have PU6 := Lib.hid (PU5.out.on b6); have PV6 := Lib.hid (PV.out.on b6)
  have IC := Lib.hid hc6
  clear b6 E5 PU5 PV c0 c1 hvc hc6
  go_wp2_with fail
  refine (if_at _ (If.ct s0 s1 a) t _ IC.out (by have := HA.out; have := If.ct_len s0 s1 a; omega)).mono ?_
  rintro e w7 ⟨rfl, b7⟩
  have E7 := Lib.hid (E6.out.on b7); have PU7 := Lib.hid (PU6.out.on b7); have PV7 := Lib.hid (PV6.out.on b7)
  clear b7 E6 PU6 PV6 IC
  rw [If.at_ct, U.out]
  generalize (If.ct s0 s1 a).length = L6
  obtain ⟨q, hq⟩ : ∃ q, Sp.hs s0 s1 t = q := ⟨_, rfl⟩
  rw [hq]
  have HQ := Lib.hid hq
  clear hq
  obtain ⟨⟨⟨k0, k1, k2⟩, k3⟩, hk⟩ : ∃ r, (if q = true then ((u0, u1, u2), u3) else ((0, 0, ⟨#[]⟩), false)) = r := ⟨_, rfl⟩
  rw [hk]
  dsimp only
  have KV := Lib.hid (show k3 = (q && u3) ∧ (k3 = true → k0 = u0 ∧ k1 = u1 ∧ k2 = u2) by
    cases q
    · simp at hk; obtain ⟨-, rfl⟩ := hk; exact ⟨rfl, fun h => by cases h⟩
    · simp at hk; obtain ⟨⟨h1, h2, h3⟩, rfl⟩ := hk; exact ⟨rfl, fun _ => ⟨h1.symm, h2.symm, h3.symm⟩⟩)
  clear hk
  go_upto_region 8 with (fail)
  have PK := Lib.hid (show VaB _ _ k0 k1 k2 from Blk.new w7 34 #[.int .i64 k0, .int .i64 k1, .string k2])
  have bb := bnew39 w7 (.cells #[.int .i64 k0, .int .i64 k1, .string k2] 34)
  have E8 := Lib.hid (E7.out.on bb); have PU8 := Lib.hid (PU7.out.on bb); have PV8 := Lib.hid (PV7.out.on bb)
  clear E7 PU7 PV7 bb
  generalize w7.alloc (.cells #[.int .i64 k0, .int .i64 k1, .string k2] 34) = w8 at *
  generalize w7.heap.size = gk at *
  have SS := Lib.hid (fun (W : World) (hW : InV W (.slice A a.length c) a) => (seam_patches _ a W hW (by have := HA.out; omega)).mono fun e w' h => patches_find h)
  have SM := Lib.hid (fun (W : World) (hW : InV W (.slice A a.length c) a) => (seam_missing _ a s0 s1 W hW (by have := HA.out; omega)).mono fun e w' h => missing_find h)
  -- CASES
  rcases u3 with _ | _
  · rcases q with _ | _
    · obtain rfl : k3 = false := by rw [KV.out.1, Bool.and_false]
      clear KV PK PU8
      go_wp2_with fail
      have E9 := E8; have PV9 := PV8
      clear E8 PV8
      refine (SS.out _ E9.out.2.1).mono ?_
      rintro e wa ⟨⟨Pa, pc⟩, l, rfl, hl, hn, hi, ba⟩
      have Ea := Lib.hid (E9.out.on ba); have PVa := Lib.hid (PV9.out.on ba)
      have IL := Lib.hid (show Ss.inl l t = false by rw [hi t, U.out])
      have SL := Lib.hid hl; have NL := Lib.hid hn
      clear E9 PV9 hl hn hi ba
      dsimp only
      go_wp2_with fail
      refine (find_any _ l t _ SL.out (by have := NL.out; have := HA.out; omega)).mono ?_
      intro e wb hb; obtain ⟨x, y, rfl, bb⟩ := find_in hb
      rw [IL.out]
      have Eb := Lib.hid (Ea.out.on bb); have PVb := Lib.hid (PVa.out.on bb)
      clear Ea PVa hb bb IL SL NL
      go_upto_region 11 with (fail)
      have bb := bnew39 wb (.cells #[.int .i64 x, .int .i64 y] 32)
      have Ec := Lib.hid (Eb.out.on bb); have PVc := Lib.hid (PVb.out.on bb)
      clear Eb PVb bb
      generalize wb.alloc (.cells #[.int .i64 x, .int .i64 y] 32) = wc at *
      have c0 := Ec.out.2.2.2.c0; have c1 := Ec.out.2.2.2.c1
      go_wp2_with fail
      refine (SM.out _ Ec.out.2.1).mono ?_
      rintro e wd ⟨⟨Pd, pd⟩, l2, rfl, hl, hn, hi, bd⟩
      have Ed := Lib.hid (Ec.out.on bd); have PVd := Lib.hid (PVc.out.on bd)
      have IL := Lib.hid (show Ss.inl l2 t = false by rw [hi t, U.out, HQ.out]; rfl)
      have SL := Lib.hid hl; have NL := Lib.hid hn
      clear Ec PVc hl hn hi bd c0 c1
      dsimp only
      go_wp2_with fail
      refine (find_any _ l2 t _ SL.out (by have := NL.out; have := HA.out; omega)).mono ?_
      intro e we hb; obtain ⟨x2, y2, rfl, bb⟩ := find_in hb
      rw [IL.out]
      have Ee := Lib.hid (Ed.out.on bb); have PVe := Lib.hid (PVd.out.on bb)
      clear Ed PVd hb bb IL SL NL
      go_upto_region 12 with (fail)
      have bb := bnew39 we (.cells #[.int .i64 x2, .int .i64 y2] 32)
      have Ef := Lib.hid (Ee.out.on bb); have PVf := Lib.hid (PVe.out.on bb)
      clear Ee PVe bb
      generalize we.alloc (.cells #[.int .i64 x2, .int .i64 y2] 32) = wf at *
      have c0 := Ef.out.2.2.2.c0; have c1 := Ef.out.2.2.2.c1
      go_wp2_with fail
      refine (span_has s0 s1 t _).mono ?_
      rintro e wg ⟨rfl, bg⟩
      rw [HQ.out]
      have Eg := Lib.hid (Ef.out.on bg); have PVg := Lib.hid (PVf.out.on bg)
      clear Ef PVf c0 c1 bg
      go_wp2_with fail
      refine (seam_merge _ _ _ _ _ Eg.out.2.1 Eg.out.2.2.1 (by have := HA.out; omega) (by have := HB.out; omega)).mono ?_
      intro e wh hh
      obtain ⟨bh, qq, ⟨X, cx⟩, ll, rfl, ih, rh⟩ := mg_res hh
      have Eh := Lib.hid (Eg.out.on bh); have PVh := Lib.hid (PVg.out.on bh)
      have IH := Lib.hid ih; have RH := Lib.hid rh
      clear Eg PVg bh hh ih rh
      have LH := Lib.hid (show ll.length ≤ 100 by have := mgr_len RH.out; have := HA.out; have := HB.out; omega)
      go_wp2_with fail
      refine (if_at _ ll t _ IH.out (by have := LH.out; omega)).mono ?_
      rintro e wi ⟨rfl, bi⟩
      have Ei := Lib.hid (Eh.out.on bi); have PVi := Lib.hid (PVh.out.on bi)
      have IJ := Lib.hid (IH.out.on bi)
      clear Eh PVh bi IH
      obtain ⟨⟨⟨m0, m1, m2⟩, m3⟩, hm⟩ : ∃ r, If.at_ t ll = r := ⟨_, rfl⟩
      rw [hm]
      dsimp only
      have M := Lib.hid hm
      clear hm
      go_upto_region 16 with (fail)
      have PM := Lib.hid (show VaB _ _ m0 m1 m2 from Blk.new wi 34 #[.int .i64 m0, .int .i64 m1, .string m2])
      have bb := bnew39 wi (.cells #[.int .i64 m0, .int .i64 m1, .string m2] 34)
      have Ej := Lib.hid (Ei.out.on bb); have PVj := Lib.hid (PVi.out.on bb)
      have IK := Lib.hid (IJ.out.on bb)
      clear Ei PVi bb IJ
      generalize wi.alloc (.cells #[.int .i64 m0, .int .i64 m1, .string m2] 34) = wj at *
      generalize wi.heap.size = gm at *
      rcases RH.out with ⟨r1, r2, r3⟩ | ⟨r1, dd, r2, r3, ⟨r4, r5, r6⟩ | ⟨r4, r5, r6⟩⟩
      · subst r2; subst r3
        have R1 := Lib.hid r1
        clear r1 RH
        go_wp2_with fail
        refine (seam_sound _ _ _ Ej.out.2.1 (by have := HA.out; omega)).mono ?_
        rintro e wk ⟨rfl, bk⟩
        have Ek := Lib.hid (Ej.out.on bk)
        clear bk Ej
        rcases hsa : If.so none a with _ | _
        · clear hsa
          go_wp2
          go_ret
          exact ⟨rfl, Ek.out.1⟩
        · have hsb : If.so none b = false := by have := R1.out; rw [hsa] at this; exact this
          have RB := Lib.hid hsb
          clear hsa hsb
          go_wp2_with fail
          refine (seam_sound _ _ _ Ek.out.2.2.1 (by have := HB.out; omega)).mono ?_
          rintro e wl ⟨rfl, bl⟩
          have El := Lib.hid (Ek.out.on bl)
          rw [RB.out]
          clear bl Ek
          go_wp2
          go_ret
          exact ⟨rfl, El.out.1⟩
      · subst r5; subst r6
        have R1 := Lib.hid r1
        clear r1 r2 r3 r4 RH
        go_wp2_with fail
        refine (seam_sound _ _ _ Ej.out.2.1 (by have := HA.out; omega)).mono ?_
        rintro e wk ⟨rfl, bk⟩
        have Ek := Lib.hid (Ej.out.on bk)
        clear bk Ej
        have RA := Lib.hid (show If.so none a = true by have := R1.out; rw [Bool.and_eq_true] at this; exact this.1)
        have RB := Lib.hid (show If.so none b = true by have := R1.out; rw [Bool.and_eq_true] at this; exact this.2)
        rw [RA.out]
        go_wp2_with fail
        refine (seam_sound _ _ _ Ek.out.2.2.1 (by have := HB.out; omega)).mono ?_
        rintro e wl ⟨rfl, bl⟩
        have El := Lib.hid (Ek.out.on bl)
        rw [RB.out]
        clear bl Ek
        go_wp2
        go_ret
        exact ⟨rfl, El.out.1⟩
      · subst r5
        obtain ⟨h1, h2, h3, h4⟩ := mgr_at t RH.out
        rw [M.out, U.out, V.out] at h2
        rw [M.out, U.out] at h3
        rw [M.out, V.out] at h4
        dsimp only at h2 h3 h4
        have R1 := Lib.hid h1; have R2 := Lib.hid h2; have R3 := Lib.hid h3; have R4 := Lib.hid h4
        clear r1 r2 r3 r4 r6 h1 h2 h3 h4 RH
        go_wp2_with fail
        refine (seam_sound _ _ _ IK.out (by have := LH.out; omega)).mono ?_
        rintro e wk ⟨rfl, bk⟩
        have Ek := Lib.hid (Ej.out.on bk); have PMk := Lib.hid (PM.out.on bk); have PVk := Lib.hid (PVj.out.on bk)
        rw [R1.out]
        clear bk Ej PM PVj IK
        have d0 := PMk.out.c0; have d1 := PMk.out.c1; have d2 := PMk.out.c2
        have e0 := PVk.out.c0; have e1 := PVk.out.c1; have e2 := PVk.out.c2
        cases v3
        · obtain rfl : m3 = false := R2.out
          go_wp2
          go_ret
          exact ⟨rfl, Ek.out.1⟩
        · obtain rfl : m3 = true := R2.out
          have ev := R4.out (by trivial)
          simp only [Prod.mk.injEq] at ev
          obtain ⟨rfl, rfl, rfl⟩ := ev
          go_wp2
          go_ret
          exact ⟨rfl, Ek.out.1⟩
    · obtain rfl : k3 = false := by rw [KV.out.1, Bool.and_false]
      clear KV PK PU8
      go_wp2_with fail
      have E9 := E8; have PV9 := PV8
      clear E8 PV8
      refine (SS.out _ E9.out.2.1).mono ?_
      rintro e wa ⟨⟨Pa, pc⟩, l, rfl, hl, hn, hi, ba⟩
      have Ea := Lib.hid (E9.out.on ba); have PVa := Lib.hid (PV9.out.on ba)
      have IL := Lib.hid (show Ss.inl l t = false by rw [hi t, U.out])
      have SL := Lib.hid hl; have NL := Lib.hid hn
      clear E9 PV9 hl hn hi ba
      dsimp only
      go_wp2_with fail
      refine (find_any _ l t _ SL.out (by have := NL.out; have := HA.out; omega)).mono ?_
      intro e wb hb; obtain ⟨x, y, rfl, bb⟩ := find_in hb
      rw [IL.out]
      have Eb := Lib.hid (Ea.out.on bb); have PVb := Lib.hid (PVa.out.on bb)
      clear Ea PVa hb bb IL SL NL
      go_upto_region 11 with (fail)
      have bb := bnew39 wb (.cells #[.int .i64 x, .int .i64 y] 32)
      have Ec := Lib.hid (Eb.out.on bb); have PVc := Lib.hid (PVb.out.on bb)
      clear Eb PVb bb
      generalize wb.alloc (.cells #[.int .i64 x, .int .i64 y] 32) = wc at *
      have c0 := Ec.out.2.2.2.c0; have c1 := Ec.out.2.2.2.c1
      go_wp2_with fail
      refine (SM.out _ Ec.out.2.1).mono ?_
      rintro e wd ⟨⟨Pd, pd⟩, l2, rfl, hl, hn, hi, bd⟩
      have Ed := Lib.hid (Ec.out.on bd); have PVd := Lib.hid (PVc.out.on bd)
      have IL := Lib.hid (show Ss.inl l2 t = true by rw [hi t, U.out, HQ.out]; rfl)
      have SL := Lib.hid hl; have NL := Lib.hid hn
      clear Ec PVc hl hn hi bd c0 c1
      dsimp only
      go_wp2_with fail
      refine (find_any _ l2 t _ SL.out (by have := NL.out; have := HA.out; omega)).mono ?_
      intro e we hb; obtain ⟨x2, y2, rfl, bb⟩ := find_in hb
      rw [IL.out]
      have Ee := Lib.hid (Ed.out.on bb); have PVe := Lib.hid (PVd.out.on bb)
      clear Ed PVd hb bb IL SL NL
      go_upto_region 12 with (fail)
      have bb := bnew39 we (.cells #[.int .i64 x2, .int .i64 y2] 32)
      have Ef := Lib.hid (Ee.out.on bb); have PVf := Lib.hid (PVe.out.on bb)
      clear Ee PVe bb
      generalize we.alloc (.cells #[.int .i64 x2, .int .i64 y2] 32) = wf at *
      have c0 := Ef.out.2.2.2.c0; have c1 := Ef.out.2.2.2.c1
      go_wp2_with fail
      refine (span_has s0 s1 t _).mono ?_
      rintro e wg ⟨rfl, bg⟩
      rw [HQ.out]
      have Eg := Lib.hid (Ef.out.on bg); have PVg := Lib.hid (PVf.out.on bg)
      clear Ef PVf c0 c1 bg
      go_wp2_with fail
      refine (seam_merge _ _ _ _ _ Eg.out.2.1 Eg.out.2.2.1 (by have := HA.out; omega) (by have := HB.out; omega)).mono ?_
      intro e wh hh
      obtain ⟨bh, qq, ⟨X, cx⟩, ll, rfl, ih, rh⟩ := mg_res hh
      have Eh := Lib.hid (Eg.out.on bh); have PVh := Lib.hid (PVg.out.on bh)
      have IH := Lib.hid ih; have RH := Lib.hid rh
      clear Eg PVg bh hh ih rh
      have LH := Lib.hid (show ll.length ≤ 100 by have := mgr_len RH.out; have := HA.out; have := HB.out; omega)
      go_wp2_with fail
      refine (if_at _ ll t _ IH.out (by have := LH.out; omega)).mono ?_
      rintro e wi ⟨rfl, bi⟩
      have Ei := Lib.hid (Eh.out.on bi); have PVi := Lib.hid (PVh.out.on bi)
      have IJ := Lib.hid (IH.out.on bi)
      clear Eh PVh bi IH
      obtain ⟨⟨⟨m0, m1, m2⟩, m3⟩, hm⟩ : ∃ r, If.at_ t ll = r := ⟨_, rfl⟩
      rw [hm]
      dsimp only
      have M := Lib.hid hm
      clear hm
      go_upto_region 16 with (fail)
      have PM := Lib.hid (show VaB _ _ m0 m1 m2 from Blk.new wi 34 #[.int .i64 m0, .int .i64 m1, .string m2])
      have bb := bnew39 wi (.cells #[.int .i64 m0, .int .i64 m1, .string m2] 34)
      have Ej := Lib.hid (Ei.out.on bb); have PVj := Lib.hid (PVi.out.on bb)
      have IK := Lib.hid (IJ.out.on bb)
      clear Ei PVi bb IJ
      generalize wi.alloc (.cells #[.int .i64 m0, .int .i64 m1, .string m2] 34) = wj at *
      generalize wi.heap.size = gm at *
      rcases RH.out with ⟨r1, r2, r3⟩ | ⟨r1, dd, r2, r3, ⟨r4, r5, r6⟩ | ⟨r4, r5, r6⟩⟩
      · subst r2; subst r3
        have R1 := Lib.hid r1
        clear r1 RH
        go_wp2_with fail
        refine (seam_sound _ _ _ Ej.out.2.1 (by have := HA.out; omega)).mono ?_
        rintro e wk ⟨rfl, bk⟩
        have Ek := Lib.hid (Ej.out.on bk)
        clear bk Ej
        rcases hsa : If.so none a with _ | _
        · clear hsa
          go_wp2
          go_ret
          exact ⟨rfl, Ek.out.1⟩
        · have hsb : If.so none b = false := by have := R1.out; rw [hsa] at this; exact this
          have RB := Lib.hid hsb
          clear hsa hsb
          go_wp2_with fail
          refine (seam_sound _ _ _ Ek.out.2.2.1 (by have := HB.out; omega)).mono ?_
          rintro e wl ⟨rfl, bl⟩
          have El := Lib.hid (Ek.out.on bl)
          rw [RB.out]
          clear bl Ek
          go_wp2
          go_ret
          exact ⟨rfl, El.out.1⟩
      · subst r5; subst r6
        have R1 := Lib.hid r1
        clear r1 r2 r3 r4 RH
        go_wp2_with fail
        refine (seam_sound _ _ _ Ej.out.2.1 (by have := HA.out; omega)).mono ?_
        rintro e wk ⟨rfl, bk⟩
        have Ek := Lib.hid (Ej.out.on bk)
        clear bk Ej
        have RA := Lib.hid (show If.so none a = true by have := R1.out; rw [Bool.and_eq_true] at this; exact this.1)
        have RB := Lib.hid (show If.so none b = true by have := R1.out; rw [Bool.and_eq_true] at this; exact this.2)
        rw [RA.out]
        go_wp2_with fail
        refine (seam_sound _ _ _ Ek.out.2.2.1 (by have := HB.out; omega)).mono ?_
        rintro e wl ⟨rfl, bl⟩
        have El := Lib.hid (Ek.out.on bl)
        rw [RB.out]
        clear bl Ek
        go_wp2
        go_ret
        exact ⟨rfl, El.out.1⟩
      · subst r5
        obtain ⟨h1, h2, h3, h4⟩ := mgr_at t RH.out
        rw [M.out, U.out, V.out] at h2
        rw [M.out, U.out] at h3
        rw [M.out, V.out] at h4
        dsimp only at h2 h3 h4
        have R1 := Lib.hid h1; have R2 := Lib.hid h2; have R3 := Lib.hid h3; have R4 := Lib.hid h4
        clear r1 r2 r3 r4 r6 h1 h2 h3 h4 RH
        go_wp2_with fail
        refine (seam_sound _ _ _ IK.out (by have := LH.out; omega)).mono ?_
        rintro e wk ⟨rfl, bk⟩
        have Ek := Lib.hid (Ej.out.on bk); have PMk := Lib.hid (PM.out.on bk); have PVk := Lib.hid (PVj.out.on bk)
        rw [R1.out]
        clear bk Ej PM PVj IK
        have d0 := PMk.out.c0; have d1 := PMk.out.c1; have d2 := PMk.out.c2
        have e0 := PVk.out.c0; have e1 := PVk.out.c1; have e2 := PVk.out.c2
        cases v3
        · obtain rfl : m3 = false := R2.out
          go_wp2
          go_ret
          exact ⟨rfl, Ek.out.1⟩
        · obtain rfl : m3 = true := R2.out
          have ev := R4.out (by trivial)
          simp only [Prod.mk.injEq] at ev
          obtain ⟨rfl, rfl, rfl⟩ := ev
          go_wp2
          go_ret
          exact ⟨rfl, Ek.out.1⟩
  · rcases q with _ | _
    · obtain rfl : k3 = false := by rw [KV.out.1]; rfl
      clear KV PK
      have c0 := E8.out.2.2.2.c0; have c1 := E8.out.2.2.2.c1
      go_wp2_with fail
      refine (span_has s0 s1 t _).mono ?_
      rintro e w9 ⟨rfl, b9⟩
      rw [HQ.out]
      have E9 := Lib.hid (E8.out.on b9); have PV9 := Lib.hid (PV8.out.on b9); have PU9 := Lib.hid (PU8.out.on b9)
      clear b9 E8 PU8 PV8 c0 c1
      go_wp2_with fail
      refine (SS.out _ E9.out.2.1).mono ?_
      rintro e wa ⟨⟨Pa, pc⟩, l, rfl, hl, hn, hi, ba⟩
      have Ea := Lib.hid (E9.out.on ba); have PVa := Lib.hid (PV9.out.on ba); have PUa := Lib.hid (PU9.out.on ba)
      have IL := Lib.hid (show Ss.inl l t = true by rw [hi t, U.out])
      have SL := Lib.hid hl; have NL := Lib.hid hn
      clear E9 PV9 PU9 hl hn hi ba
      dsimp only
      go_wp2_with fail
      refine (find_any _ l t _ SL.out (by have := NL.out; have := HA.out; omega)).mono ?_
      intro e wb hb; obtain ⟨x, y, rfl, bb⟩ := find_in hb
      rw [IL.out]
      have Eb := Lib.hid (Ea.out.on bb); have PVb := Lib.hid (PVa.out.on bb); have PUb := Lib.hid (PUa.out.on bb)
      clear Ea PVa PUa hb bb IL SL NL
      go_upto_region 11 with (fail)
      have bb := bnew39 wb (.cells #[.int .i64 x, .int .i64 y] 32)
      have Ec := Lib.hid (Eb.out.on bb); have PVc := Lib.hid (PVb.out.on bb); have PUc := Lib.hid (PUb.out.on bb)
      clear Eb PVb PUb bb
      generalize wb.alloc (.cells #[.int .i64 x, .int .i64 y] 32) = wc at *
      have c0 := Ec.out.2.2.2.c0; have c1 := Ec.out.2.2.2.c1
      go_wp2_with fail
      refine (SM.out _ Ec.out.2.1).mono ?_
      rintro e wd ⟨⟨Pd, pd⟩, l2, rfl, hl, hn, hi, bd⟩
      have Ed := Lib.hid (Ec.out.on bd); have PVd := Lib.hid (PVc.out.on bd); have PUd := Lib.hid (PUc.out.on bd)
      have IL := Lib.hid (show Ss.inl l2 t = false by rw [hi t, U.out, HQ.out]; rfl)
      have SL := Lib.hid hl; have NL := Lib.hid hn
      clear Ec PVc PUc hl hn hi bd c0 c1
      dsimp only
      go_wp2_with fail
      refine (find_any _ l2 t _ SL.out (by have := NL.out; have := HA.out; omega)).mono ?_
      intro e we hb; obtain ⟨x2, y2, rfl, bb⟩ := find_in hb
      rw [IL.out]
      have Ee := Lib.hid (Ed.out.on bb); have PVe := Lib.hid (PVd.out.on bb); have PUe := Lib.hid (PUd.out.on bb)
      clear Ed PVd PUd hb bb IL SL NL
      go_upto_region 12 with (fail)
      have bb := bnew39 we (.cells #[.int .i64 x2, .int .i64 y2] 32)
      have Ef := Lib.hid (Ee.out.on bb); have PVf := Lib.hid (PVe.out.on bb); have PUf := Lib.hid (PUe.out.on bb)
      clear Ee PVe PUe bb
      generalize we.alloc (.cells #[.int .i64 x2, .int .i64 y2] 32) = wf at *
      have c0 := Ef.out.2.2.2.c0; have c1 := Ef.out.2.2.2.c1
      go_wp2_with fail
      refine (span_has s0 s1 t _).mono ?_
      rintro e wg ⟨rfl, bg⟩
      rw [HQ.out]
      have Eg := Lib.hid (Ef.out.on bg); have PVg := Lib.hid (PVf.out.on bg); have PUg := Lib.hid (PUf.out.on bg)
      clear Ef PVf PUf c0 c1 bg
      go_wp2_with fail
      refine (seam_merge _ _ _ _ _ Eg.out.2.1 Eg.out.2.2.1 (by have := HA.out; omega) (by have := HB.out; omega)).mono ?_
      intro e wh hh
      obtain ⟨bh, qq, ⟨X, cx⟩, ll, rfl, ih, rh⟩ := mg_res hh
      have Eh := Lib.hid (Eg.out.on bh); have PVh := Lib.hid (PVg.out.on bh); have PUh := Lib.hid (PUg.out.on bh)
      have IH := Lib.hid ih; have RH := Lib.hid rh
      clear Eg PVg PUg bh hh ih rh
      have LH := Lib.hid (show ll.length ≤ 100 by have := mgr_len RH.out; have := HA.out; have := HB.out; omega)
      go_wp2_with fail
      refine (if_at _ ll t _ IH.out (by have := LH.out; omega)).mono ?_
      rintro e wi ⟨rfl, bi⟩
      have Ei := Lib.hid (Eh.out.on bi); have PVi := Lib.hid (PVh.out.on bi); have PUi := Lib.hid (PUh.out.on bi)
      have IJ := Lib.hid (IH.out.on bi)
      clear Eh PVh PUh bi IH
      obtain ⟨⟨⟨m0, m1, m2⟩, m3⟩, hm⟩ : ∃ r, If.at_ t ll = r := ⟨_, rfl⟩
      rw [hm]
      dsimp only
      have M := Lib.hid hm
      clear hm
      go_upto_region 16 with (fail)
      have PM := Lib.hid (show VaB _ _ m0 m1 m2 from Blk.new wi 34 #[.int .i64 m0, .int .i64 m1, .string m2])
      have bb := bnew39 wi (.cells #[.int .i64 m0, .int .i64 m1, .string m2] 34)
      have Ej := Lib.hid (Ei.out.on bb); have PVj := Lib.hid (PVi.out.on bb); have PUj := Lib.hid (PUi.out.on bb)
      have IK := Lib.hid (IJ.out.on bb)
      clear Ei PVi PUi bb IJ
      generalize wi.alloc (.cells #[.int .i64 m0, .int .i64 m1, .string m2] 34) = wj at *
      generalize wi.heap.size = gm at *
      rcases RH.out with ⟨r1, r2, r3⟩ | ⟨r1, dd, r2, r3, ⟨r4, r5, r6⟩ | ⟨r4, r5, r6⟩⟩
      · subst r2; subst r3
        have R1 := Lib.hid r1
        clear r1 RH
        go_wp2_with fail
        refine (seam_sound _ _ _ Ej.out.2.1 (by have := HA.out; omega)).mono ?_
        rintro e wk ⟨rfl, bk⟩
        have Ek := Lib.hid (Ej.out.on bk)
        clear bk Ej
        rcases hsa : If.so none a with _ | _
        · clear hsa
          go_wp2
          go_ret
          exact ⟨rfl, Ek.out.1⟩
        · have hsb : If.so none b = false := by have := R1.out; rw [hsa] at this; exact this
          have RB := Lib.hid hsb
          clear hsa hsb
          go_wp2_with fail
          refine (seam_sound _ _ _ Ek.out.2.2.1 (by have := HB.out; omega)).mono ?_
          rintro e wl ⟨rfl, bl⟩
          have El := Lib.hid (Ek.out.on bl)
          rw [RB.out]
          clear bl Ek
          go_wp2
          go_ret
          exact ⟨rfl, El.out.1⟩
      · subst r5; subst r6
        have R1 := Lib.hid r1
        clear r1 r2 r3 r4 RH
        go_wp2_with fail
        refine (seam_sound _ _ _ Ej.out.2.1 (by have := HA.out; omega)).mono ?_
        rintro e wk ⟨rfl, bk⟩
        have Ek := Lib.hid (Ej.out.on bk)
        clear bk Ej
        have RA := Lib.hid (show If.so none a = true by have := R1.out; rw [Bool.and_eq_true] at this; exact this.1)
        have RB := Lib.hid (show If.so none b = true by have := R1.out; rw [Bool.and_eq_true] at this; exact this.2)
        rw [RA.out]
        go_wp2_with fail
        refine (seam_sound _ _ _ Ek.out.2.2.1 (by have := HB.out; omega)).mono ?_
        rintro e wl ⟨rfl, bl⟩
        have El := Lib.hid (Ek.out.on bl)
        rw [RB.out]
        clear bl Ek
        go_wp2
        go_ret
        exact ⟨rfl, El.out.1⟩
      · subst r5
        obtain ⟨h1, h2, h3, h4⟩ := mgr_at t RH.out
        rw [M.out, U.out, V.out] at h2
        rw [M.out, U.out] at h3
        rw [M.out, V.out] at h4
        dsimp only at h2 h3 h4
        have R1 := Lib.hid h1; have R2 := Lib.hid h2; have R3 := Lib.hid h3; have R4 := Lib.hid h4
        clear r1 r2 r3 r4 r6 h1 h2 h3 h4 RH
        go_wp2_with fail
        refine (seam_sound _ _ _ IK.out (by have := LH.out; omega)).mono ?_
        rintro e wk ⟨rfl, bk⟩
        have Ek := Lib.hid (Ej.out.on bk); have PMk := Lib.hid (PM.out.on bk); have PVk := Lib.hid (PVj.out.on bk); have PUk := Lib.hid (PUj.out.on bk)
        rw [R1.out]
        clear bk Ej PM PVj IK PUj
        have d0 := PMk.out.c0; have d1 := PMk.out.c1; have d2 := PMk.out.c2
        have e0 := PVk.out.c0; have e1 := PVk.out.c1; have e2 := PVk.out.c2
        have f0 := PUk.out.c0; have f1 := PUk.out.c1; have f2 := PUk.out.c2
        have eu := R3.out (by trivial)
        simp only [Prod.mk.injEq] at eu
        obtain ⟨rfl, rfl, rfl⟩ := eu
        cases v3
        · obtain rfl : m3 = true := R2.out
          go_wp2
          go_ret
          exact ⟨rfl, Ek.out.1⟩
        · obtain rfl : m3 = true := R2.out
          have ev := R4.out (by trivial)
          simp only [Prod.mk.injEq] at ev
          obtain ⟨rfl, rfl, rfl⟩ := ev
          go_wp2
          go_ret
          exact ⟨rfl, Ek.out.1⟩
    · obtain ⟨rfl, rfl, rfl, rfl⟩ : k3 = true ∧ k0 = u0 ∧ k1 = u1 ∧ k2 = u2 := ⟨by rw [KV.out.1]; rfl, KV.out.2 (by rw [KV.out.1]; rfl)⟩
      clear KV
      have c0 := E8.out.2.2.2.c0; have c1 := E8.out.2.2.2.c1
      go_wp2_with fail
      refine (span_has s0 s1 t _).mono ?_
      rintro e w9 ⟨rfl, b9⟩
      rw [HQ.out]
      have E9 := Lib.hid (E8.out.on b9); have PV9 := Lib.hid (PV8.out.on b9); have PU9 := Lib.hid (PU8.out.on b9)
      have PK9 := Lib.hid (PK.out.on b9)
      clear b9 E8 PU8 PV8 c0 c1 PK
      have p0 := PU9.out.c0; have p1 := PU9.out.c1; have p2 := PU9.out.c2
      have q0 := PK9.out.c0; have q1 := PK9.out.c1; have q2 := PK9.out.c2
      go_wp2_with fail
      clear p0 p1 p2 q0 q1 q2 PK9
      refine (SS.out _ E9.out.2.1).mono ?_
      rintro e wa ⟨⟨Pa, pc⟩, l, rfl, hl, hn, hi, ba⟩
      have Ea := Lib.hid (E9.out.on ba); have PVa := Lib.hid (PV9.out.on ba); have PUa := Lib.hid (PU9.out.on ba)
      have IL := Lib.hid (show Ss.inl l t = true by rw [hi t, U.out])
      have SL := Lib.hid hl; have NL := Lib.hid hn
      clear E9 PV9 PU9 hl hn hi ba
      dsimp only
      go_wp2_with fail
      refine (find_any _ l t _ SL.out (by have := NL.out; have := HA.out; omega)).mono ?_
      intro e wb hb; obtain ⟨x, y, rfl, bb⟩ := find_in hb
      rw [IL.out]
      have Eb := Lib.hid (Ea.out.on bb); have PVb := Lib.hid (PVa.out.on bb); have PUb := Lib.hid (PUa.out.on bb)
      clear Ea PVa PUa hb bb IL SL NL
      go_upto_region 11 with (fail)
      have bb := bnew39 wb (.cells #[.int .i64 x, .int .i64 y] 32)
      have Ec := Lib.hid (Eb.out.on bb); have PVc := Lib.hid (PVb.out.on bb); have PUc := Lib.hid (PUb.out.on bb)
      clear Eb PVb PUb bb
      generalize wb.alloc (.cells #[.int .i64 x, .int .i64 y] 32) = wc at *
      have c0 := Ec.out.2.2.2.c0; have c1 := Ec.out.2.2.2.c1
      go_wp2_with fail
      refine (SM.out _ Ec.out.2.1).mono ?_
      rintro e wd ⟨⟨Pd, pd⟩, l2, rfl, hl, hn, hi, bd⟩
      have Ed := Lib.hid (Ec.out.on bd); have PVd := Lib.hid (PVc.out.on bd); have PUd := Lib.hid (PUc.out.on bd)
      have IL := Lib.hid (show Ss.inl l2 t = false by rw [hi t, U.out, HQ.out]; rfl)
      have SL := Lib.hid hl; have NL := Lib.hid hn
      clear Ec PVc PUc hl hn hi bd c0 c1
      dsimp only
      go_wp2_with fail
      refine (find_any _ l2 t _ SL.out (by have := NL.out; have := HA.out; omega)).mono ?_
      intro e we hb; obtain ⟨x2, y2, rfl, bb⟩ := find_in hb
      rw [IL.out]
      have Ee := Lib.hid (Ed.out.on bb); have PVe := Lib.hid (PVd.out.on bb); have PUe := Lib.hid (PUd.out.on bb)
      clear Ed PVd PUd hb bb IL SL NL
      go_upto_region 12 with (fail)
      have bb := bnew39 we (.cells #[.int .i64 x2, .int .i64 y2] 32)
      have Ef := Lib.hid (Ee.out.on bb); have PVf := Lib.hid (PVe.out.on bb); have PUf := Lib.hid (PUe.out.on bb)
      clear Ee PVe PUe bb
      generalize we.alloc (.cells #[.int .i64 x2, .int .i64 y2] 32) = wf at *
      have c0 := Ef.out.2.2.2.c0; have c1 := Ef.out.2.2.2.c1
      go_wp2_with fail
      refine (span_has s0 s1 t _).mono ?_
      rintro e wg ⟨rfl, bg⟩
      rw [HQ.out]
      have Eg := Lib.hid (Ef.out.on bg); have PVg := Lib.hid (PVf.out.on bg); have PUg := Lib.hid (PUf.out.on bg)
      clear Ef PVf PUf c0 c1 bg
      go_wp2_with fail
      refine (seam_merge _ _ _ _ _ Eg.out.2.1 Eg.out.2.2.1 (by have := HA.out; omega) (by have := HB.out; omega)).mono ?_
      intro e wh hh
      obtain ⟨bh, qq, ⟨X, cx⟩, ll, rfl, ih, rh⟩ := mg_res hh
      have Eh := Lib.hid (Eg.out.on bh); have PVh := Lib.hid (PVg.out.on bh); have PUh := Lib.hid (PUg.out.on bh)
      have IH := Lib.hid ih; have RH := Lib.hid rh
      clear Eg PVg PUg bh hh ih rh
      have LH := Lib.hid (show ll.length ≤ 100 by have := mgr_len RH.out; have := HA.out; have := HB.out; omega)
      go_wp2_with fail
      refine (if_at _ ll t _ IH.out (by have := LH.out; omega)).mono ?_
      rintro e wi ⟨rfl, bi⟩
      have Ei := Lib.hid (Eh.out.on bi); have PVi := Lib.hid (PVh.out.on bi); have PUi := Lib.hid (PUh.out.on bi)
      have IJ := Lib.hid (IH.out.on bi)
      clear Eh PVh PUh bi IH
      obtain ⟨⟨⟨m0, m1, m2⟩, m3⟩, hm⟩ : ∃ r, If.at_ t ll = r := ⟨_, rfl⟩
      rw [hm]
      dsimp only
      have M := Lib.hid hm
      clear hm
      go_upto_region 16 with (fail)
      have PM := Lib.hid (show VaB _ _ m0 m1 m2 from Blk.new wi 34 #[.int .i64 m0, .int .i64 m1, .string m2])
      have bb := bnew39 wi (.cells #[.int .i64 m0, .int .i64 m1, .string m2] 34)
      have Ej := Lib.hid (Ei.out.on bb); have PVj := Lib.hid (PVi.out.on bb); have PUj := Lib.hid (PUi.out.on bb)
      have IK := Lib.hid (IJ.out.on bb)
      clear Ei PVi PUi bb IJ
      generalize wi.alloc (.cells #[.int .i64 m0, .int .i64 m1, .string m2] 34) = wj at *
      generalize wi.heap.size = gm at *
      rcases RH.out with ⟨r1, r2, r3⟩ | ⟨r1, dd, r2, r3, ⟨r4, r5, r6⟩ | ⟨r4, r5, r6⟩⟩
      · subst r2; subst r3
        have R1 := Lib.hid r1
        clear r1 RH
        go_wp2_with fail
        refine (seam_sound _ _ _ Ej.out.2.1 (by have := HA.out; omega)).mono ?_
        rintro e wk ⟨rfl, bk⟩
        have Ek := Lib.hid (Ej.out.on bk)
        clear bk Ej
        rcases hsa : If.so none a with _ | _
        · clear hsa
          go_wp2
          go_ret
          exact ⟨rfl, Ek.out.1⟩
        · have hsb : If.so none b = false := by have := R1.out; rw [hsa] at this; exact this
          have RB := Lib.hid hsb
          clear hsa hsb
          go_wp2_with fail
          refine (seam_sound _ _ _ Ek.out.2.2.1 (by have := HB.out; omega)).mono ?_
          rintro e wl ⟨rfl, bl⟩
          have El := Lib.hid (Ek.out.on bl)
          rw [RB.out]
          clear bl Ek
          go_wp2
          go_ret
          exact ⟨rfl, El.out.1⟩
      · subst r5; subst r6
        have R1 := Lib.hid r1
        clear r1 r2 r3 r4 RH
        go_wp2_with fail
        refine (seam_sound _ _ _ Ej.out.2.1 (by have := HA.out; omega)).mono ?_
        rintro e wk ⟨rfl, bk⟩
        have Ek := Lib.hid (Ej.out.on bk)
        clear bk Ej
        have RA := Lib.hid (show If.so none a = true by have := R1.out; rw [Bool.and_eq_true] at this; exact this.1)
        have RB := Lib.hid (show If.so none b = true by have := R1.out; rw [Bool.and_eq_true] at this; exact this.2)
        rw [RA.out]
        go_wp2_with fail
        refine (seam_sound _ _ _ Ek.out.2.2.1 (by have := HB.out; omega)).mono ?_
        rintro e wl ⟨rfl, bl⟩
        have El := Lib.hid (Ek.out.on bl)
        rw [RB.out]
        clear bl Ek
        go_wp2
        go_ret
        exact ⟨rfl, El.out.1⟩
      · subst r5
        obtain ⟨h1, h2, h3, h4⟩ := mgr_at t RH.out
        rw [M.out, U.out, V.out] at h2
        rw [M.out, U.out] at h3
        rw [M.out, V.out] at h4
        dsimp only at h2 h3 h4
        have R1 := Lib.hid h1; have R2 := Lib.hid h2; have R3 := Lib.hid h3; have R4 := Lib.hid h4
        clear r1 r2 r3 r4 r6 h1 h2 h3 h4 RH
        go_wp2_with fail
        refine (seam_sound _ _ _ IK.out (by have := LH.out; omega)).mono ?_
        rintro e wk ⟨rfl, bk⟩
        have Ek := Lib.hid (Ej.out.on bk); have PMk := Lib.hid (PM.out.on bk); have PVk := Lib.hid (PVj.out.on bk); have PUk := Lib.hid (PUj.out.on bk)
        rw [R1.out]
        clear bk Ej PM PVj IK PUj
        have d0 := PMk.out.c0; have d1 := PMk.out.c1; have d2 := PMk.out.c2
        have e0 := PVk.out.c0; have e1 := PVk.out.c1; have e2 := PVk.out.c2
        have f0 := PUk.out.c0; have f1 := PUk.out.c1; have f2 := PUk.out.c2
        have eu := R3.out (by trivial)
        simp only [Prod.mk.injEq] at eu
        obtain ⟨rfl, rfl, rfl⟩ := eu
        cases v3
        · obtain rfl : m3 = true := R2.out
          go_wp2
          go_ret
          exact ⟨rfl, Ek.out.1⟩
        · obtain rfl : m3 = true := R2.out
          have ev := R4.out (by trivial)
          simp only [Prod.mk.injEq] at ev
          obtain ⟨rfl, rfl, rfl⟩ := ev
          go_wp2
          go_ret
          exact ⟨rfl, Ek.out.1⟩
theorem seamSeconds_any (va : Value) (a : List If.I) (vb : Value) (b : List If.I) (s0 s1 t : Int) (w : World) (h : InV w va a) (hc : Cap va) (k : InV w vb b) (hd : Cap vb) :
    Calls Try.prog 6 #[va, vb, .agg #[.int .i64 s0, .int .i64 s1], .int .i64 t] w fun e w' => e = .returned (.bool true) ∧ Below w.heap.size w w' :=
  seam_seconds va vb a b s0 s1 t w h k
end Go.Proofs.Ytmnmmbeageddkaa
