/- SpansAlgebra: the walk. -/
import Derived.Test.YtnfjdjfajkdiiaaLiv11
import Derived.Test.YtnfjdjfajkdiiaaSsH
import Derived.Test.YtnfjdjfajkdiiaaApL
import Derived.Test.YtnfjdjfajkdiiaaSpL0
import Derived.Test.YtnfjdjfajkdiiaaMnG0
set_option linter.unusedVariables false
set_option linter.unusedSimpArgs false
namespace Go.Proofs.Ytnfjdjfajkdiiaa
open Go.RowKit Go.Sort Go.Shelf

namespace Ss
theorem ln_le {l k : List S} (hl : Rs l) (hk : Rs k) (h : ∀ t, inl l t = true → inl k t = true) : ln l ≤ ln k := by
  obtain ⟨lo, hi, hh, hb⟩ := bounds (l ++ k)
  obtain ⟨m, hm⟩ : ∃ m : Nat, hi = lo + m := ⟨(hi - lo).toNat, by omega⟩
  subst hm
  rw [← cn_ln lo m l hl fun s q => hb s (by simp [q]), ← cn_ln lo m k hk fun s q => hb s (by simp [q])]
  exact cn_le h lo m
theorem b64_or {a b l : List S} (ha : B64 a) (hb : B64 b) (h : Rs l) (hi : ∀ t, inl l t = (inl a t || inl b t)) : B64 l := by
  intro s hs
  have h0 := h.2 s hs
  have hin : ∀ t, s.1 ≤ t → t < s.2 → ∃ u : S, ((-9223372036854775808 ≤ u.1 ∧ u.1 ≤ 9223372036854775807) ∧ (-9223372036854775808 ≤ u.2 ∧ u.2 ≤ 9223372036854775807)) ∧ u.1 ≤ t ∧ t < u.2 := by
    intro t h1 h2
    have : inl l t = true := List.any_eq_true.2 ⟨s, hs, by simp [Sp.hs, h1, h2]⟩
    rw [hi t, Bool.or_eq_true] at this
    rcases this with g | g
    · obtain ⟨u, hu, c⟩ := inl_lt g
      exact ⟨u, ha u hu, c⟩
    · obtain ⟨u, hu, c⟩ := inl_lt g
      exact ⟨u, hb u hu, c⟩
  obtain ⟨u, hu, a0, a1⟩ := hin s.1 (Int.le_refl _) h0
  obtain ⟨v, hv, b0, b1⟩ := hin (s.2 - 1) (by omega) (by omega)
  omega
theorem tot0 {l : List S} (h : Rs l) : tot 0 l = if ln l ≤ 9223372036854775807 then (ln l, 0) else (0, 1) := by
  rw [tot_eq l 0 (Int.le_refl _) h, Int.zero_add]
  by_cases e : l = []
  · subst e; simp [ln]
  · simp [e]
end Ss
set_option maxRecDepth 100000 in
set_option maxHeartbeats 8000000 in
theorem spansAlgebra_any (va : Value) (a : List Ss.S) (vb : Value) (b : List Ss.S) (w : World) (h : SpV w va a) (hz : Ss.B64 a) (k : SpV w vb b) (hy : Ss.B64 b) :
    Calls Try.prog 5 #[va, vb] w fun e w' => e = .returned (.bool true) ∧ Below w.heap.size w w' := by
  obtain ⟨i0, hi, hz0, hz1, hz2⟩ := info_parts info_span
  obtain ⟨A, c, rfl, -⟩ := id h
  obtain ⟨B, d, rfl, -⟩ := id k
  have HA0 := Lib.hid h; have HB0 := Lib.hid k
  have HZ := Lib.hid hz; have HY := Lib.hid hy
  clear h k hz hy
  go_enter Try.func5, Try.ntmps5
  go_wp2_with fail
  refine (lives11_any _).mono ?_; rintro e w1 ⟨rfl, bw⟩
  have HA1 := Lib.hid (HA0.out.on bw); have HB1 := Lib.hid (HB0.out.on bw); have B1 := Lib.hid bw
  clear HA0 HB0 bw
  by_cases ha : (40 : Int) < a.length
  · go_wp2
    go_ret
    exact ⟨rfl, B1.out⟩
  by_cases hb : (40 : Int) < b.length
  · go_wp2
    go_ret
    exact ⟨rfl, B1.out⟩
  have LA := Lib.hid (show a.length ≤ 1000 by omega); have LB := Lib.hid (show b.length ≤ 1000 by omega); have LS := Lib.hid (show 2 * (a.length + b.length) ≤ 160 by omega)
  obtain ⟨n, hn⟩ : ∃ n, a.length = n := ⟨_, rfl⟩
  have HN := Lib.hid hn
  have hn40 : n ≤ 40 := by omega
  rw [hn] at HA1 ha ⊢
  have O1 := Lib.hid (World.ownsRow_nil w1 w1.heap.size 24 2)
  clear hn
  go_wp2_with fail
  go_loopw [5, 30] (fun u i wr => ∃ (k : Nat), k ≤ n ∧ i = .int .i64 k ∧ Hid (wr.ownsRow w1.heap.size 24 2 u (a.reverse.take k).length (spc (a.reverse.take k))) ∧ Hid (Below w1.heap.size w1 wr)) (fun _ i _ => n - (intOf i).toNat)
  case atStart => exact ⟨0, Nat.zero_le _, rfl, O1, Lib.hid (Below.refl _ _)⟩
  case round =>
    rename World => w2
    obtain ⟨k, hk, rfl, O, D⟩ := hrel
    by_cases hlt : k < n
    · obtain ⟨q, hq⟩ : ∃ q, n - 1 - k = q := ⟨_, rfl⟩
      have hqn : q < a.length := by rw [HN.out]; omega
      obtain ⟨ad, rfl, hab, g1, g2⟩ := (HA1.out.on D.out).get q hqn
      have e1 : a.reverse.take (k + 1) = a.reverse.take k ++ [a[q]] := by
        have hk2 : k < a.reverse.length := by rw [List.length_reverse, HN.out]; exact hlt
        rw [List.take_succ_eq_append_getElem hk2, List.getElem_reverse]
        congr 3
        have := HN.out
        omega
      have T := Lib.hid e1
      have hl0 : (a.reverse.take k).length ≤ 40 := by rw [List.length_take]; omega
      have i1 : (k : Int) < n := by omega
      have i2 : (n : Int) - 1 - k = q := by omega
      have i3 : (0 : Int) ≤ q := by omega
      have i4 : (q : Int) < n := by omega
      generalize hp : a[q] = p at *
      obtain ⟨x, y⟩ := p
      simp only at g1 g2
      clear hp e1 hqn
      generalize a.reverse.take k = r at *
      generalize n - 1 - k = qq at *
      have HQ := Lib.hid hq
      clear hq
      go_wp2_with (at_builtin; refine wpList_append_own _ rfl _ _ 22 rfl w1.heap.size 24 i0 (.agg #[.int .i64 0, .int .i64 0]) 2 16 Try.underlying22 hi hz0 hz1 hz2 rfl (by decide) _ _ _ rfl (O.out.alloc _) ⟨w2.heap.size, 0, none⟩ 1 1 [.int .i64 x, .int .i64 y] rfl rfl (two_cells (by simp [go_sem]) (by simp [go_sem])) (by intro u hu; simp at hu; rcases hu with rfl | rfl <;> rfl) (by unfold maxLen; omega) (by omega) (by have := D.out.size; simp; omega) ?_)
      intro v6 w6 own6 grow6 _
      have D6 := Lib.hid (show Below w1.heap.size w1 w6 from ((D.out.alloc D.out.size _).trans (below_grown grow6 (by have := D.out.size; simp; omega) (own_row O.out))))
      have O6 := Lib.hid own6
      clear own6 grow6 O D
      go_wp2
      go_roundw
      case rel => exact ⟨k + 1, by omega, by go_num, Lib.hid (by rw [T.out, spc_app, List.length_append]; exact O6.out), D6⟩
      case measure => simp [intOf]; omega
    · have hk' : a.reverse.take k = a.reverse := List.take_of_length_le (by rw [List.length_reverse, HN.out]; omega)
      rw [hk'] at O
      obtain ⟨A2, c2, rfl⟩ := po_form O.out
      have bw := D.out
      have HA2 := Lib.hid (HA1.out.on bw); have HB2 := Lib.hid (HB1.out.on bw); have B2 := Lib.hid (below_step B1.out bw)
      have HR2 := Lib.hid (SpV.own O.out)
      have LR := Lib.hid (show a.reverse.length ≤ 1000 by rw [List.length_reverse]; exact LA.out)
      have ER := Lib.hid (show ∀ t, Ss.inl a.reverse t = Ss.inl a t from fun t => by unfold Ss.inl; rw [List.any_reverse])
      clear HA1 HB1 B1 O D bw hk' O1
      generalize a.reverse = r at *
      go_wp2_with fail
      refine (spans_of _ a _ HA2.out LA.out).mono ?_
      rintro e w3 ⟨v, ls, rfl, h1, h2, h3, h4, bw⟩
      obtain ⟨As, cs, hv, -⟩ := id h1
      subst hv
      have HA3 := Lib.hid (HA2.out.on bw); have HB3 := Lib.hid (HB2.out.on bw); have HR3 := Lib.hid (HR2.out.on bw); have B3 := Lib.hid (below_step B2.out bw)
      clear HA2 HB2 HR2 B2 bw
      have Ss3 := Lib.hid h1; have Rs := Lib.hid (And.intro h2 (And.intro h3 h4))
      clear h1 h2 h3 h4
      have Ls := Lib.hid (show ls.length ≤ 160 by have h := Rs.out.2.2; have := LS.out; rw [List.length_nil] at h; omega)
      have Es := Lib.hid (show ∀ t, Ss.inl ls t = Ss.inl a t from fun t => by rw [Rs.out.2.1 t]; simp [Ss.inl])
      go_wp2_with fail
      refine (spans_less _ _ a b _ HA3.out HB3.out LA.out LB.out).mono ?_
      rintro e w4 ⟨v, ll, rfl, h1, h2, h3, h4, bw⟩
      obtain ⟨Al, cl, hv, -⟩ := id h1
      subst hv
      have HA4 := Lib.hid (HA3.out.on bw); have HB4 := Lib.hid (HB3.out.on bw); have HR4 := Lib.hid (HR3.out.on bw); have Ss4 := Lib.hid (Ss3.out.on bw); have B4 := Lib.hid (below_step B3.out bw)
      clear HA3 HB3 HR3 Ss3 B3 bw
      have Sl4 := Lib.hid h1; have Rl := Lib.hid (And.intro h2 (And.intro h3 h4))
      clear h1 h2 h3 h4
      go_wp2_with fail
      refine (spans_and _ _ a b _ HA4.out HB4.out LA.out LB.out).mono ?_
      rintro e w5 ⟨v, ln, rfl, h1, h2, h3, h4, bw⟩
      obtain ⟨An, cn, hv, -⟩ := id h1
      subst hv
      have HA5 := Lib.hid (HA4.out.on bw); have HB5 := Lib.hid (HB4.out.on bw); have HR5 := Lib.hid (HR4.out.on bw); have Ss5 := Lib.hid (Ss4.out.on bw); have Sl5 := Lib.hid (Sl4.out.on bw); have B5 := Lib.hid (below_step B4.out bw)
      clear HA4 HB4 HR4 Ss4 Sl4 B4 bw
      have Sn5 := Lib.hid h1; have Rn := Lib.hid (And.intro h2 (And.intro h3 h4))
      clear h1 h2 h3 h4
      have Ll := Lib.hid (show ll.length ≤ 160 by have h := Rl.out.2.2; have := LS.out; omega)
      have Ln := Lib.hid (show ln.length ≤ 160 by have h := Rn.out.2.2; have := LS.out; omega)
      go_wp2_with fail
      refine (spans_of _ r _ HR5.out LR.out).mono ?_
      rintro e w6 ⟨v, lx, rfl, h1, h2, h3, h4, bw⟩
      obtain ⟨Ax, cx, hv, -⟩ := id h1
      subst hv
      have HA6 := Lib.hid (HA5.out.on bw); have HB6 := Lib.hid (HB5.out.on bw); have HR6 := Lib.hid (HR5.out.on bw); have Ss6 := Lib.hid (Ss5.out.on bw); have Sl6 := Lib.hid (Sl5.out.on bw); have Sn6 := Lib.hid (Sn5.out.on bw); have B6 := Lib.hid (below_step B5.out bw)
      clear HA5 HB5 HR5 Ss5 Sl5 Sn5 B5 bw
      have Sx6 := Lib.hid h1; have Rx := Lib.hid (And.intro h2 (And.intro h3 h4))
      clear h1 h2 h3 h4
      obtain rfl : ls = lx := (Ss.rs_ext _ _ Rx.out.1 Rs.out.1 (fun u => by rw [Rx.out.2.1 u]; rw [ER.out u, Es.out u]; simp [Ss.inl])).symm
      clear Rx
      clear HR6
      go_wp2_with fail
      refine (same_yes _ _ ls _ Sx6.out Ss6.out (by have := Ls.out; unfold maxLen; omega)).mono ?_
      rintro e wd ⟨rfl, nd, rfl⟩
      have bw : Below w6.heap.size w6 (w6.drewN nd) := below_draw _ _
      have HA7 := Lib.hid (HA6.out.on bw); have HB7 := Lib.hid (HB6.out.on bw); have Ss7 := Lib.hid (Ss6.out.on bw); have Sl7 := Lib.hid (Sl6.out.on bw); have Sn7 := Lib.hid (Sn6.out.on bw); have Sx7 := Lib.hid (Sx6.out.on bw); have B7 := Lib.hid (below_step B6.out bw)
      clear HA6 HB6 Ss6 Sl6 Sn6 Sx6 B6 bw
      generalize w6.drewN nd = w7 at *
      clear Sx7
      go_wp2_with fail
      refine (spans_of _ ls _ Ss7.out (by have := Ls.out; omega)).mono ?_
      rintro e w8 ⟨v, lx, rfl, h1, h2, h3, h4, bw⟩
      obtain ⟨Ax, cx, hv, -⟩ := id h1
      subst hv
      have HA8 := Lib.hid (HA7.out.on bw); have HB8 := Lib.hid (HB7.out.on bw); have Ss8 := Lib.hid (Ss7.out.on bw); have Sl8 := Lib.hid (Sl7.out.on bw); have Sn8 := Lib.hid (Sn7.out.on bw); have B8 := Lib.hid (below_step B7.out bw)
      clear HA7 HB7 Ss7 Sl7 Sn7 B7 bw
      have Sx8 := Lib.hid h1; have Rx := Lib.hid (And.intro h2 (And.intro h3 h4))
      clear h1 h2 h3 h4
      obtain rfl : ls = lx := (Ss.rs_ext _ _ Rx.out.1 Rs.out.1 (fun u => by rw [Rx.out.2.1 u]; simp [Ss.inl])).symm
      clear Rx
      go_wp2_with fail
      refine (same_yes _ _ ls _ Sx8.out Ss8.out (by have := Ls.out; unfold maxLen; omega)).mono ?_
      rintro e wd ⟨rfl, nd, rfl⟩
      have bw : Below w8.heap.size w8 (w8.drewN nd) := below_draw _ _
      have HA9 := Lib.hid (HA8.out.on bw); have HB9 := Lib.hid (HB8.out.on bw); have Ss9 := Lib.hid (Ss8.out.on bw); have Sl9 := Lib.hid (Sl8.out.on bw); have Sn9 := Lib.hid (Sn8.out.on bw); have Sx9 := Lib.hid (Sx8.out.on bw); have B9 := Lib.hid (below_step B8.out bw)
      clear HA8 HB8 Ss8 Sl8 Sn8 Sx8 B8 bw
      generalize w8.drewN nd = w9 at *
      clear Sx9
      go_wp2_with fail
      refine (spans_or _ _ ll ln _ Sl9.out Sn9.out (by have := Ll.out; omega) (by have := Ln.out; omega)).mono ?_
      rintro e w10 ⟨v, lx, rfl, h1, h2, h3, h4, bw⟩
      obtain ⟨Ax, cx, hv, -⟩ := id h1
      subst hv
      have HA10 := Lib.hid (HA9.out.on bw); have HB10 := Lib.hid (HB9.out.on bw); have Ss10 := Lib.hid (Ss9.out.on bw); have Sl10 := Lib.hid (Sl9.out.on bw); have Sn10 := Lib.hid (Sn9.out.on bw); have B10 := Lib.hid (below_step B9.out bw)
      clear HA9 HB9 Ss9 Sl9 Sn9 B9 bw
      have Sx10 := Lib.hid h1; have Rx := Lib.hid (And.intro h2 (And.intro h3 h4))
      clear h1 h2 h3 h4
      obtain rfl : ls = lx := (Ss.rs_ext _ _ Rx.out.1 Rs.out.1 (fun u => by rw [Rx.out.2.1 u]; rw [Rl.out.2.1 u, Rn.out.2.1 u, Es.out u]; cases Ss.inl a u <;> cases Ss.inl b u <;> rfl)).symm
      clear Rx
      go_wp2_with fail
      refine (same_yes _ _ ls _ Sx10.out Ss10.out (by have := Ls.out; unfold maxLen; omega)).mono ?_
      rintro e wd ⟨rfl, nd, rfl⟩
      have bw : Below w10.heap.size w10 (w10.drewN nd) := below_draw _ _
      have HA11 := Lib.hid (HA10.out.on bw); have HB11 := Lib.hid (HB10.out.on bw); have Ss11 := Lib.hid (Ss10.out.on bw); have Sl11 := Lib.hid (Sl10.out.on bw); have Sn11 := Lib.hid (Sn10.out.on bw); have Sx11 := Lib.hid (Sx10.out.on bw); have B11 := Lib.hid (below_step B10.out bw)
      clear HA10 HB10 Ss10 Sl10 Sn10 Sx10 B10 bw
      generalize w10.drewN nd = w11 at *
      clear Sx11
      go_wp2_with fail
      refine (spans_and _ _ ll ln _ Sl11.out Sn11.out (by have := Ll.out; omega) (by have := Ln.out; omega)).mono ?_
      rintro e w12 ⟨v, lx, rfl, h1, h2, h3, h4, bw⟩
      obtain ⟨Ax, cx, hv, -⟩ := id h1
      subst hv
      have HA12 := Lib.hid (HA11.out.on bw); have HB12 := Lib.hid (HB11.out.on bw); have Ss12 := Lib.hid (Ss11.out.on bw); have Sl12 := Lib.hid (Sl11.out.on bw); have Sn12 := Lib.hid (Sn11.out.on bw); have B12 := Lib.hid (below_step B11.out bw)
      clear HA11 HB11 Ss11 Sl11 Sn11 B11 bw
      have Sx12 := Lib.hid h1; have Rx := Lib.hid (And.intro h2 (And.intro h3 h4))
      clear h1 h2 h3 h4
      obtain rfl : [] = lx := (Ss.rs_ext _ _ Rx.out.1 ⟨List.Pairwise.nil, fun s hs => absurd hs (by simp)⟩ (fun u => by rw [Rx.out.2.1 u, Rl.out.2.1 u, Rn.out.2.1 u]; cases Ss.inl a u <;> cases Ss.inl b u <;> rfl)).symm
      clear Rx
      clear Sx12
      clear Sl12
      simp only [List.length_nil]
      go_wp2_with fail
      refine (spans_and _ _ b a _ HB12.out HA12.out LB.out LA.out).mono ?_
      rintro e w13 ⟨v, lx, rfl, h1, h2, h3, h4, bw⟩
      obtain ⟨Ax, cx, hv, -⟩ := id h1
      subst hv
      have HA13 := Lib.hid (HA12.out.on bw); have HB13 := Lib.hid (HB12.out.on bw); have Ss13 := Lib.hid (Ss12.out.on bw); have Sn13 := Lib.hid (Sn12.out.on bw); have B13 := Lib.hid (below_step B12.out bw)
      clear HA12 HB12 Ss12 Sn12 B12 bw
      have Sx13 := Lib.hid h1; have Rx := Lib.hid (And.intro h2 (And.intro h3 h4))
      clear h1 h2 h3 h4
      obtain rfl : ln = lx := (Ss.rs_ext _ _ Rx.out.1 Rn.out.1 (fun u => by rw [Rx.out.2.1 u]; rw [Rn.out.2.1 u, Bool.and_comm])).symm
      clear Rx
      go_wp2_with fail
      refine (same_yes _ _ ln _ Sx13.out Sn13.out (by have := Ln.out; unfold maxLen; omega)).mono ?_
      rintro e wd ⟨rfl, nd, rfl⟩
      have bw : Below w13.heap.size w13 (w13.drewN nd) := below_draw _ _
      have HA14 := Lib.hid (HA13.out.on bw); have HB14 := Lib.hid (HB13.out.on bw); have Ss14 := Lib.hid (Ss13.out.on bw); have Sn14 := Lib.hid (Sn13.out.on bw); have Sx14 := Lib.hid (Sx13.out.on bw); have B14 := Lib.hid (below_step B13.out bw)
      clear HA13 HB13 Ss13 Sn13 Sx13 B13 bw
      generalize w13.drewN nd = w14 at *
      clear Sx14
      go_wp2_with fail
      refine (spans_or _ _ a b _ HA14.out HB14.out LA.out LB.out).mono ?_
      rintro e w15 ⟨v, lo, rfl, h1, h2, h3, h4, bw⟩
      obtain ⟨Ao, co, hv, -⟩ := id h1
      subst hv
      have HA15 := Lib.hid (HA14.out.on bw); have HB15 := Lib.hid (HB14.out.on bw); have Ss15 := Lib.hid (Ss14.out.on bw); have Sn15 := Lib.hid (Sn14.out.on bw); have B15 := Lib.hid (below_step B14.out bw)
      clear HA14 HB14 Ss14 Sn14 B14 bw
      have So15 := Lib.hid h1; have Ro := Lib.hid (And.intro h2 (And.intro h3 h4))
      clear h1 h2 h3 h4
      have Lo := Lib.hid (show lo.length ≤ 160 by have h := Ro.out.2.2; have := LS.out; omega)
      go_wp2_with fail
      refine (spans_or _ _ b a _ HB15.out HA15.out LB.out LA.out).mono ?_
      rintro e w16 ⟨v, lx, rfl, h1, h2, h3, h4, bw⟩
      obtain ⟨Ax, cx, hv, -⟩ := id h1
      subst hv
      have HA16 := Lib.hid (HA15.out.on bw); have HB16 := Lib.hid (HB15.out.on bw); have Ss16 := Lib.hid (Ss15.out.on bw); have Sn16 := Lib.hid (Sn15.out.on bw); have So16 := Lib.hid (So15.out.on bw); have B16 := Lib.hid (below_step B15.out bw)
      clear HA15 HB15 Ss15 Sn15 So15 B15 bw
      have Sx16 := Lib.hid h1; have Rx := Lib.hid (And.intro h2 (And.intro h3 h4))
      clear h1 h2 h3 h4
      obtain rfl : lo = lx := (Ss.rs_ext _ _ Rx.out.1 Ro.out.1 (fun u => by rw [Rx.out.2.1 u]; rw [Ro.out.2.1 u, Bool.or_comm])).symm
      clear Rx
      go_wp2_with fail
      refine (same_yes _ _ lo _ So16.out Sx16.out (by have := Lo.out; unfold maxLen; omega)).mono ?_
      rintro e wd ⟨rfl, nd, rfl⟩
      have bw : Below w16.heap.size w16 (w16.drewN nd) := below_draw _ _
      have HA17 := Lib.hid (HA16.out.on bw); have HB17 := Lib.hid (HB16.out.on bw); have Ss17 := Lib.hid (Ss16.out.on bw); have Sn17 := Lib.hid (Sn16.out.on bw); have So17 := Lib.hid (So16.out.on bw); have Sx17 := Lib.hid (Sx16.out.on bw); have B17 := Lib.hid (below_step B16.out bw)
      clear HA16 HB16 Ss16 Sn16 So16 Sx16 B16 bw
      generalize w16.drewN nd = w17 at *
      clear Sx17
      clear So17
      go_wp2_with fail
      refine (spans_rset _ a _ HA17.out (by have := LA.out; omega)).mono ?_
      rintro e w18 ⟨rfl, bw⟩
      have HA18 := Lib.hid (HA17.out.on bw); have HB18 := Lib.hid (HB17.out.on bw); have Ss18 := Lib.hid (Ss17.out.on bw); have Sn18 := Lib.hid (Sn17.out.on bw); have B18 := Lib.hid (below_step B17.out bw)
      clear HA17 HB17 Ss17 Sn17 B17 bw
      have RA := Lib.hid (show Ss.rr none a = true → ls = a from fun hr => Ss.rs_ext _ _ Rs.out.1 (Ss.rs_of a hr) Es.out)
      generalize Ss.rr none a = rr at *
      cases rr
      · clear RA
        go_wp2_with fail
        refine (total_any _ a _ HA18.out LA.out HZ.out).mono ?_
        rintro e w19 ⟨lt, r1, r2, rfl, bw⟩
        obtain rfl : ls = lt := (Ss.rs_ext _ _ r1 Rs.out.1 (fun u => by rw [r2 u]; exact (Es.out u).symm)).symm
        clear r1 r2
        have HA19 := Lib.hid (HA18.out.on bw); have HB19 := Lib.hid (HB18.out.on bw); have Ss19 := Lib.hid (Ss18.out.on bw); have Sn19 := Lib.hid (Sn18.out.on bw); have B19 := Lib.hid (below_step B18.out bw)
        clear HA18 HB18 Ss18 Sn18 B18 bw
        go_wp2_with fail
        refine (total_any _ b _ HB19.out LB.out HY.out).mono ?_
        rintro e w20 ⟨lb, r1, r2, rfl, bw⟩
        have Rb := Lib.hid (And.intro r1 r2)
        clear r1 r2
        have HA20 := Lib.hid (HA19.out.on bw); have HB20 := Lib.hid (HB19.out.on bw); have Ss20 := Lib.hid (Ss19.out.on bw); have Sn20 := Lib.hid (Sn19.out.on bw); have B20 := Lib.hid (below_step B19.out bw)
        clear HA19 HB19 Ss19 Sn19 B19 bw
        go_wp2_with fail
        refine (total_any _ ln _ Sn20.out (by have := Ln.out; omega) (Ss.b64_of Rn.out.1 (fun t ht => by rw [Rn.out.2.1 t] at ht; simp at ht; exact ht.1) HZ.out)).mono ?_
        rintro e w21 ⟨lt, r1, r2, rfl, bw⟩
        obtain rfl : ln = lt := (Ss.rs_ext _ _ r1 Rn.out.1 (fun u => by rw [r2 u])).symm
        clear r1 r2
        have HA21 := Lib.hid (HA20.out.on bw); have HB21 := Lib.hid (HB20.out.on bw); have Ss21 := Lib.hid (Ss20.out.on bw); have Sn21 := Lib.hid (Sn20.out.on bw); have B21 := Lib.hid (below_step B20.out bw)
        clear HA20 HB20 Ss20 Sn20 B20 bw
        go_wp2_with fail
        refine (spans_or _ _ a b _ HA21.out HB21.out LA.out LB.out).mono ?_
        rintro e w22 ⟨v, lx, rfl, h1, h2, h3, h4, bw⟩
        obtain ⟨Ax, cx, hv, -⟩ := id h1
        subst hv
        have S1 := Lib.hid h1; have RX := Lib.hid (And.intro h2 (And.intro h3 h4))
        clear h1 h2 h3 h4
        have HA22 := Lib.hid (HA21.out.on bw); have HB22 := Lib.hid (HB21.out.on bw); have Ss22 := Lib.hid (Ss21.out.on bw); have Sn22 := Lib.hid (Sn21.out.on bw); have B22 := Lib.hid (below_step B21.out bw)
        clear HA21 HB21 Ss21 Sn21 B21 bw
        go_wp2_with fail
        refine (total_any _ lx _ S1.out (by have h := RX.out.2.2; have := LS.out; omega) (Ss.b64_or HZ.out HY.out RX.out.1 RX.out.2.1)).mono ?_
        rintro e w23 ⟨ly, r1, r2, rfl, bw⟩
        obtain rfl : lx = ly := (Ss.rs_ext _ _ r1 RX.out.1 r2).symm
        clear r1 r2
        have HA23 := Lib.hid (HA22.out.on bw); have HB23 := Lib.hid (HB22.out.on bw); have Ss23 := Lib.hid (Ss22.out.on bw); have Sn23 := Lib.hid (Sn22.out.on bw); have B23 := Lib.hid (below_step B22.out bw)
        clear HA22 HB22 Ss22 Sn22 B22 bw
        have e1 := Ss.ln_or Rs.out.1 Rb.out.1 RX.out.1 Rn.out.1 (fun t => by rw [RX.out.2.1 t, Es.out t, Rb.out.2 t]) (fun t => by rw [Rn.out.2.1 t, Es.out t, Rb.out.2 t])
        have e2 := Ss.ln_le Rn.out.1 Rs.out.1 (fun t ht => by rw [Rn.out.2.1 t] at ht; rw [Es.out t]; simp at ht; exact ht.1)
        have e3 := Ss.ln_le Rs.out.1 RX.out.1 (fun t ht => by rw [Es.out t] at ht; rw [RX.out.2.1 t, ht]; rfl)
        have e4 := Ss.ln_nn Rn.out.1; have e5 := Ss.ln_nn Rb.out.1; have e6 := Ss.ln_nn Rs.out.1; have e7 := Ss.ln_nn RX.out.1
        rw [Ss.tot0 Rs.out.1, Ss.tot0 Rb.out.1, Ss.tot0 Rn.out.1, Ss.tot0 RX.out.1]
        generalize Ss.ln ls = q1 at *; generalize Ss.ln lb = q2 at *; generalize Ss.ln ln = q3 at *; generalize Ss.ln lx = q4 at *
        clear HA23 HB23 Sn23 Ss23 Rs Rn RX Rb Es S1
        have E := Lib.hid (And.intro e1 (And.intro e2 (And.intro e3 (And.intro e4 (And.intro e5 (And.intro e6 e7))))))
        clear e1 e2 e3 e4 e5 e6 e7
        by_cases t1 : q1 ≤ 9223372036854775807
        · have t3 : q3 ≤ 9223372036854775807 := by have := E.out; omega
          rw [if_pos t1, if_pos t3]
          by_cases t2 : q2 ≤ 9223372036854775807
          · rw [if_pos t2]
            by_cases t4 : q4 ≤ 9223372036854775807
            · rw [if_pos t4]
              have d1 : (q1 - q3 == q4 - q2) = true := by have := E.out; rw [beq_iff_eq]; omega
              have d2 : -9223372036854775808 ≤ q4 - q2 := by have := E.out; omega
              have d3 : q4 - q2 ≤ 9223372036854775807 := by have := E.out; omega
              have d4 : -9223372036854775808 ≤ q1 - q3 := by have := E.out; omega
              have d5 : q1 - q3 ≤ 9223372036854775807 := by have := E.out; omega
              clear t1 t2 t3 t4
              dsimp only
              go_wp2
              go_ret
              exact ⟨rfl, B23.out⟩
            · rw [if_neg t4]
              clear t1 t2 t3 t4
              dsimp only
              go_wp2
              go_ret
              exact ⟨rfl, B23.out⟩
          · rw [if_neg t2]
            clear t1 t2 t3
            obtain ⟨z40, z41, hz⟩ : ∃ z40 z41, (if q4 ≤ 9223372036854775807 then (q4, (0:Int)) else (0, 1)) = (z40, z41) := ⟨_, _, rfl⟩
            rw [hz]
            clear hz
            dsimp only
            go_wp2
            go_ret
            exact ⟨rfl, B23.out⟩
        · have t4 : ¬ q4 ≤ 9223372036854775807 := by have := E.out; omega
          rw [if_neg t1, if_neg t4]
          clear t1 t4
          obtain ⟨z20, z21, hz⟩ : ∃ z20 z21, (if q2 ≤ 9223372036854775807 then (q2, (0:Int)) else (0, 1)) = (z20, z21) := ⟨_, _, rfl⟩
          rw [hz]
          clear hz
          obtain ⟨z30, z31, hz⟩ : ∃ z30 z31, (if q3 ≤ 9223372036854775807 then (q3, (0:Int)) else (0, 1)) = (z30, z31) := ⟨_, _, rfl⟩
          rw [hz]
          clear hz
          dsimp only
          go_wp2
          go_ret
          exact ⟨rfl, B23.out⟩
      · have ea := RA.out rfl
        clear RA
        have SA := Lib.hid (show SpV w18 (.slice A n c) ls from ea ▸ HA18.out)
        clear ea
        go_wp2_with fail
        refine (same_yes _ _ ls _ Ss18.out SA.out (by have := Ls.out; unfold maxLen; omega)).mono ?_
        rintro e wd ⟨rfl, nd, rfl⟩
        have bw : Below w18.heap.size w18 (w18.drewN nd) := below_draw _ _
        have HA19 := Lib.hid (HA18.out.on bw); have HB19 := Lib.hid (HB18.out.on bw); have Ss19 := Lib.hid (Ss18.out.on bw); have Sn19 := Lib.hid (Sn18.out.on bw); have B19 := Lib.hid (below_step B18.out bw)
        clear HA18 HB18 Ss18 Sn18 B18 bw SA
        generalize w18.drewN nd = w19 at *
        go_wp2_with fail
        refine (total_any _ a _ HA19.out LA.out HZ.out).mono ?_
        rintro e w20 ⟨lt, r1, r2, rfl, bw⟩
        obtain rfl : ls = lt := (Ss.rs_ext _ _ r1 Rs.out.1 (fun u => by rw [r2 u]; exact (Es.out u).symm)).symm
        clear r1 r2
        have HA20 := Lib.hid (HA19.out.on bw); have HB20 := Lib.hid (HB19.out.on bw); have Ss20 := Lib.hid (Ss19.out.on bw); have Sn20 := Lib.hid (Sn19.out.on bw); have B20 := Lib.hid (below_step B19.out bw)
        clear HA19 HB19 Ss19 Sn19 B19 bw
        go_wp2_with fail
        refine (total_any _ b _ HB20.out LB.out HY.out).mono ?_
        rintro e w21 ⟨lb, r1, r2, rfl, bw⟩
        have Rb := Lib.hid (And.intro r1 r2)
        clear r1 r2
        have HA21 := Lib.hid (HA20.out.on bw); have HB21 := Lib.hid (HB20.out.on bw); have Ss21 := Lib.hid (Ss20.out.on bw); have Sn21 := Lib.hid (Sn20.out.on bw); have B21 := Lib.hid (below_step B20.out bw)
        clear HA20 HB20 Ss20 Sn20 B20 bw
        go_wp2_with fail
        refine (total_any _ ln _ Sn21.out (by have := Ln.out; omega) (Ss.b64_of Rn.out.1 (fun t ht => by rw [Rn.out.2.1 t] at ht; simp at ht; exact ht.1) HZ.out)).mono ?_
        rintro e w22 ⟨lt, r1, r2, rfl, bw⟩
        obtain rfl : ln = lt := (Ss.rs_ext _ _ r1 Rn.out.1 (fun u => by rw [r2 u])).symm
        clear r1 r2
        have HA22 := Lib.hid (HA21.out.on bw); have HB22 := Lib.hid (HB21.out.on bw); have Ss22 := Lib.hid (Ss21.out.on bw); have Sn22 := Lib.hid (Sn21.out.on bw); have B22 := Lib.hid (below_step B21.out bw)
        clear HA21 HB21 Ss21 Sn21 B21 bw
        go_wp2_with fail
        refine (spans_or _ _ a b _ HA22.out HB22.out LA.out LB.out).mono ?_
        rintro e w23 ⟨v, lx, rfl, h1, h2, h3, h4, bw⟩
        obtain ⟨Ax, cx, hv, -⟩ := id h1
        subst hv
        have S1 := Lib.hid h1; have RX := Lib.hid (And.intro h2 (And.intro h3 h4))
        clear h1 h2 h3 h4
        have HA23 := Lib.hid (HA22.out.on bw); have HB23 := Lib.hid (HB22.out.on bw); have Ss23 := Lib.hid (Ss22.out.on bw); have Sn23 := Lib.hid (Sn22.out.on bw); have B23 := Lib.hid (below_step B22.out bw)
        clear HA22 HB22 Ss22 Sn22 B22 bw
        go_wp2_with fail
        refine (total_any _ lx _ S1.out (by have h := RX.out.2.2; have := LS.out; omega) (Ss.b64_or HZ.out HY.out RX.out.1 RX.out.2.1)).mono ?_
        rintro e w24 ⟨ly, r1, r2, rfl, bw⟩
        obtain rfl : lx = ly := (Ss.rs_ext _ _ r1 RX.out.1 r2).symm
        clear r1 r2
        have HA24 := Lib.hid (HA23.out.on bw); have HB24 := Lib.hid (HB23.out.on bw); have Ss24 := Lib.hid (Ss23.out.on bw); have Sn24 := Lib.hid (Sn23.out.on bw); have B24 := Lib.hid (below_step B23.out bw)
        clear HA23 HB23 Ss23 Sn23 B23 bw
        have e1 := Ss.ln_or Rs.out.1 Rb.out.1 RX.out.1 Rn.out.1 (fun t => by rw [RX.out.2.1 t, Es.out t, Rb.out.2 t]) (fun t => by rw [Rn.out.2.1 t, Es.out t, Rb.out.2 t])
        have e2 := Ss.ln_le Rn.out.1 Rs.out.1 (fun t ht => by rw [Rn.out.2.1 t] at ht; rw [Es.out t]; simp at ht; exact ht.1)
        have e3 := Ss.ln_le Rs.out.1 RX.out.1 (fun t ht => by rw [Es.out t] at ht; rw [RX.out.2.1 t, ht]; rfl)
        have e4 := Ss.ln_nn Rn.out.1; have e5 := Ss.ln_nn Rb.out.1; have e6 := Ss.ln_nn Rs.out.1; have e7 := Ss.ln_nn RX.out.1
        rw [Ss.tot0 Rs.out.1, Ss.tot0 Rb.out.1, Ss.tot0 Rn.out.1, Ss.tot0 RX.out.1]
        generalize Ss.ln ls = q1 at *; generalize Ss.ln lb = q2 at *; generalize Ss.ln ln = q3 at *; generalize Ss.ln lx = q4 at *
        clear HA24 HB24 Sn24 Ss24 Rs Rn RX Rb Es S1
        have E := Lib.hid (And.intro e1 (And.intro e2 (And.intro e3 (And.intro e4 (And.intro e5 (And.intro e6 e7))))))
        clear e1 e2 e3 e4 e5 e6 e7
        by_cases t1 : q1 ≤ 9223372036854775807
        · have t3 : q3 ≤ 9223372036854775807 := by have := E.out; omega
          rw [if_pos t1, if_pos t3]
          by_cases t2 : q2 ≤ 9223372036854775807
          · rw [if_pos t2]
            by_cases t4 : q4 ≤ 9223372036854775807
            · rw [if_pos t4]
              have d1 : (q1 - q3 == q4 - q2) = true := by have := E.out; rw [beq_iff_eq]; omega
              have d2 : -9223372036854775808 ≤ q4 - q2 := by have := E.out; omega
              have d3 : q4 - q2 ≤ 9223372036854775807 := by have := E.out; omega
              have d4 : -9223372036854775808 ≤ q1 - q3 := by have := E.out; omega
              have d5 : q1 - q3 ≤ 9223372036854775807 := by have := E.out; omega
              clear t1 t2 t3 t4
              dsimp only
              go_wp2
              go_ret
              exact ⟨rfl, B24.out⟩
            · rw [if_neg t4]
              clear t1 t2 t3 t4
              dsimp only
              go_wp2
              go_ret
              exact ⟨rfl, B24.out⟩
          · rw [if_neg t2]
            clear t1 t2 t3
            obtain ⟨z40, z41, hz⟩ : ∃ z40 z41, (if q4 ≤ 9223372036854775807 then (q4, (0:Int)) else (0, 1)) = (z40, z41) := ⟨_, _, rfl⟩
            rw [hz]
            clear hz
            dsimp only
            go_wp2
            go_ret
            exact ⟨rfl, B24.out⟩
        · have t4 : ¬ q4 ≤ 9223372036854775807 := by have := E.out; omega
          rw [if_neg t1, if_neg t4]
          clear t1 t4
          obtain ⟨z20, z21, hz⟩ : ∃ z20 z21, (if q2 ≤ 9223372036854775807 then (q2, (0:Int)) else (0, 1)) = (z20, z21) := ⟨_, _, rfl⟩
          rw [hz]
          clear hz
          obtain ⟨z30, z31, hz⟩ : ∃ z30 z31, (if q3 ≤ 9223372036854775807 then (q3, (0:Int)) else (0, 1)) = (z30, z31) := ⟨_, _, rfl⟩
          rw [hz]
          clear hz
          dsimp only
          go_wp2
          go_ret
          exact ⟨rfl, B24.out⟩
end Go.Proofs.Ytnfjdjfajkdiiaa
