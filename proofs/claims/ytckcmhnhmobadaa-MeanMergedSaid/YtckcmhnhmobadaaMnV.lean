/- The walk of MeanMerged, at any input of whole numbers of 64 bits. -/
import Derived.Test.YtckcmhnhmobadaaLiv12
import Derived.Test.YtckcmhnhmobadaaMnJ
import Derived.Test.YtckcmhnhmobadaaMnU
set_option linter.unusedVariables false
set_option linter.unusedSimpArgs false
namespace Go.Proofs.Ytckcmhnhmobadaa
open Go.RowKit Go.Sort Go.Shelf

set_option maxRecDepth 100000 in
set_option maxHeartbeats 8000000 in
theorem mnmerged_walk (v : Value) (l : List Mn.P) (s0 s1 : Int) (w : World) (h : PtV w v l) (hI : ∀ p ∈ l, Mn.IP p) (i0 : Mn.I s0) (i1 : Mn.I s1) :
    Calls Try.prog 8 #[v, .agg #[.int .i64 s0, .int .i64 s1]] w fun e w' => e = .returned (.bool true) ∧ Below w.heap.size w w' := by
  have H := Lib.hid h
  obtain ⟨A, c, rfl, -⟩ := h
  obtain ⟨n, hn⟩ : ∃ n, l.length = n := ⟨_, rfl⟩
  rw [hn] at H ⊢
  have HN := Lib.hid hn
  clear hn
  have b0 : Below w.heap.size w (w.alloc (.cells #[.int .i64 s0, .int .i64 s1] 24)) := (Below.refl _ _).alloc (Nat.le_refl _) _
  have S0 := Lib.hid (H.out.on b0)
  have K0 := Lib.hid (Blk.new w 24 #[.int .i64 s0, .int .i64 s1])
  have B0 := Lib.hid b0
  clear b0 H
  have HI := Lib.hid hI
  have I0 := Lib.hid i0
  have I1 := Lib.hid i1
  clear hI i0 i1
  go_enter Try.func8, Try.ntmps8
  go_wp2_with fail
  refine (lives12_any _).mono ?_
  rintro e w1 ⟨rfl, b1⟩
  have S1 := Lib.hid (S0.out.on b1); have K1 := Lib.hid (K0.out.on b1); have B1 := Lib.hid (below_step B0.out b1)
  clear S0 K0 B0 b1
  have c0 := K1.out.c0; have c1 := K1.out.c1
  by_cases h60 : 60 < (n : Int)
  · go_wp2
    go_ret
    exact ⟨rfl, B1.out⟩
  have hm := Lib.hid (show l.length ≤ 60 by rw [HN.out]; omega)
  have hm6 := Lib.hid (show l.length ≤ 1000000 by rw [HN.out]; omega)
  go_wp2_with fail
  refine (mean_right _ l _ S1.out hm6.out).mono ?_
  rintro e w2 ⟨rfl, b2⟩
  have S2 := Lib.hid (S1.out.on b2); have K2 := Lib.hid (K1.out.on b2); have B2 := Lib.hid (below_step B1.out b2)
  clear S1 K1 B1 b2 c0 c1
  have c0 := K2.out.c0; have c1 := K2.out.c1
  cases hr : Mn.rt none l
  · go_wp2
    go_ret
    exact ⟨rfl, B2.out⟩
  have HR := Lib.hid hr
  clear hr
  obtain ⟨k, hk⟩ : ∃ k, k = Mn.merge l := ⟨_, rfl⟩
  have kR := Lib.hid (show Mn.rt none k = true by rw [hk]; exact Mn.rt_merge l HR.out)
  have kM := Lib.hid (show Mn.merged k = k by unfold Mn.merged; rw [kR.out, if_pos rfl, hk]; exact Mn.merge_merge l)
  have kl := Lib.hid (show k.length ≤ 60 by rw [hk]; exact Nat.le_trans (Mn.merge_len l) hm.out)
  have kN := Lib.hid (show Mn.na k by rw [hk]; exact Mn.na_merge l)
  have kE := Lib.hid (show Mn.Ev (Mn.cnt s0 s1 l) (Mn.cnt s0 s1 k) by rw [hk]; exact Mn.Ev_merge s0 s1 l HR.out)
  have lL := Lib.hid (show ∀ p ∈ Mn.cnt s0 s1 l, Mn.Ln p from Mn.cnt_wl s0 s1 l HI.out I0.out I1.out)
  have kL := Lib.hid (show ∀ p ∈ Mn.cnt s0 s1 k, Mn.Ln p from Mn.cnt_wl s0 s1 k (by rw [hk]; exact Mn.merge_I l HI.out) I0.out I1.out)
  have hk' : Mn.merged l = k := by unfold Mn.merged; rw [HR.out, if_pos rfl, hk]
  have HK := Lib.hid hk'
  clear hk hk'
  go_wp2_with fail
  refine (merge_mean _ l _ S2.out hm6.out).mono ?_
  rintro e w3 ⟨v3, hv3, rfl, b3⟩
  rw [HK.out] at hv3
  have S3 := Lib.hid (S2.out.on b3); have K3 := Lib.hid (K2.out.on b3); have B3 := Lib.hid (below_step B2.out b3); have M3 := Lib.hid hv3
  obtain ⟨A3, c3, rfl, -⟩ := hv3
  obtain ⟨n3, hn3⟩ : ∃ n3, k.length = n3 := ⟨_, rfl⟩
  rw [hn3] at M3 ⊢
  have KN := Lib.hid hn3
  clear S2 K2 B2 b3 c0 c1 hn3
  have c0 := K3.out.c0; have c1 := K3.out.c1
  go_wp2_with fail
  refine (mtotal_any _ l s0 s1 _ S3.out hm6.out).mono ?_
  rintro e w4 ⟨r4, h4, rfl, b4⟩
  rw [HR.out, if_pos rfl] at h4 ⊢
  have S4 := Lib.hid (S3.out.on b4); have K4 := Lib.hid (K3.out.on b4); have B4 := Lib.hid (below_step B3.out b4); have M4 := Lib.hid (M3.out.on b4); have H4 := Lib.hid h4
  clear S3 K3 B3 M3 b4 c0 c1 h4
  have c0 := K4.out.c0; have c1 := K4.out.c1
  go_wp2_with fail
  refine (mtotal_any _ k s0 s1 _ M4.out (by have := kl.out; omega)).mono ?_
  rintro e w5 ⟨r5, h5, rfl, b5⟩
  rw [kR.out, if_pos rfl] at h5 ⊢
  have S5 := Lib.hid (S4.out.on b5); have K5 := Lib.hid (K4.out.on b5); have B5 := Lib.hid (below_step B4.out b5); have M5 := Lib.hid (M4.out.on b5); have H5 := Lib.hid h5
  clear S4 K4 B4 M4 b5 c0 c1 h5
  have c0 := K5.out.c0; have c1 := K5.out.c1
  obtain ⟨lo, hi, is, hen⟩ : ∃ lo hi is, Mn.end3 (Mn.cnt s0 s1 l) = .tuple #[.int .i64 lo, .int .i64 hi, .bool is] := ⟨_, _, _, rfl⟩
  have hen' : Mn.end3 (Mn.cnt s0 s1 k) = .tuple #[.int .i64 lo, .int .i64 hi, .bool is] := by
    rw [← hen]; unfold Mn.end3 Mn.ends; rw [kE.out.1]
  have E1 := Lib.hid hen
  have E2 := Lib.hid hen'
  clear hen hen'
  go_wp2_with fail
  refine (mends_any _ l s0 s1 _ S5.out hm6.out).mono ?_
  rintro e w6 ⟨rfl, b6⟩
  rw [HR.out, if_pos rfl, E1.out]
  have S6 := Lib.hid (S5.out.on b6); have K6 := Lib.hid (K5.out.on b6); have B6 := Lib.hid (below_step B5.out b6); have M6 := Lib.hid (M5.out.on b6)
  clear S5 K5 B5 M5 b6 c0 c1
  have c0 := K6.out.c0; have c1 := K6.out.c1
  go_wp2_with fail
  refine (mends_any _ k s0 s1 _ M6.out (by have := kl.out; omega)).mono ?_
  rintro e w7 ⟨rfl, b7⟩
  rw [kR.out, if_pos rfl, E2.out]
  have B7 := Lib.hid (below_step B6.out b7); have M7 := Lib.hid (M6.out.on b7)
  clear S6 K6 B6 M6 b7 c0 c1
  go_wp2_with fail
  have KA := Lib.hid (Mn.na_at k)
  go_loopw [58] (fun i wr => ∃ j : Nat, j ≤ n3 ∧ i = .int .i64 j ∧ ∃ m, wr = w7.drewN m) (fun i _ => n3 - (intOf i).toNat)
  case atStart => exact ⟨0, Nat.zero_le _, rfl, 0, rfl⟩
  case round =>
    obtain ⟨j, hj, rfl, m, rfl⟩ := hrel
    by_cases hlt : j < n3
    · have i0 : (0 : Int) ≤ j := by omega
      have i1 : (j : Int) < n3 := by omega
      rcases Nat.eq_zero_or_pos j with rfl | hp
      · go_wp2
        go_quiet (fail)
        go_wp2
        go_roundw
        case rel => exact ⟨1, by omega, by go_num, _, rfl⟩
        case measure => simp [intOf]; omega
      · obtain ⟨y, hy⟩ : ∃ y, j = y + 1 := ⟨j - 1, by omega⟩
        have q0 : j < k.length := by rw [KN.out]; exact hlt
        have q1 : y < k.length := by omega
        have hN : ¬ (k[y].2.2 = k[j].2.2 ∧ k[y].2.1 = k[j].1) := by subst hy; exact KA.out y q0 kN.out
        obtain ⟨a1, ha1, -, g1, g2, g3⟩ := M7.out.get y q1
        obtain ⟨a2, ha2, -, g4, g5, g6⟩ := M7.out.get j q0
        subst ha1
        obtain rfl : a2 = a1 := by cases ha2; rfl
        clear ha2
        have gk : decide (0 < j) = true := decide_eq_true hp
        have ek : (j : Int) - 1 = (y : Int) := by omega
        have g9 : n3 ≤ 1000000 := by rw [← KN.out]; exact Nat.le_trans kl.out (by decide)
        have g7 : (y : Int) < n3 := by omega
        have g8 : (0 : Int) ≤ y := by omega
        have HY := Lib.hid hy
        clear hy
        generalize k[y].1 = p0 at *
        generalize k[y].2.1 = p1 at *
        generalize k[y].2.2 = p2 at *
        generalize k[j].1 = r0 at *
        generalize k[j].2.1 = r1 at *
        generalize k[j].2.2 = r2 at *
        by_cases t1 : p1 = r0
        · have t2 : ¬ p2 = r2 := fun e => hN ⟨e, t1⟩
          clear hN
          subst t1
          have t3 : decide (p2 = r2) = false := decide_eq_false t2
          go_wp2
          go_quiet (fail)
          go_wp2
          go_roundw
          case rel => exact ⟨j + 1, by omega, by go_num, _, rfl⟩
          case measure => simp [intOf]; omega
        · clear hN
          have t3 : (p1 == r0) = false := by rw [beq_eq_false_iff_ne]; exact t1
          go_wp2
          go_quiet (fail)
          go_wp2
          go_roundw
          case rel => exact ⟨j + 1, by omega, by go_num, _, rfl⟩
          case measure => simp [intOf]; omega
    · have B8 := Lib.hid (B7.out.trans (below_draw w7 m))
      have M8 := Lib.hid (M7.out.on (below_draw w7 m))
      generalize w7.drewN m = w8 at *
      clear M7 B7
      have gl : ¬ ((j : Int) < n3) := by omega
      obtain ⟨d, n1, hd, hrd⟩ := Fl.fop_run Try.prog .sub (.inr (.inl rfl)) 40 r4 r5 w8
      have HD := Lib.hid hd
      clear hd
      go_wp2_with fail
      refine (mean_right _ k _ (M8.out.on (below_draw w8 n1)) (by have := kl.out; omega)).mono ?_
      rintro e w9 ⟨rfl, b9⟩
      rw [kR.out]
      have B9 := Lib.hid (below_step (B8.out.trans (below_draw w8 n1)) b9)
      have M9 := Lib.hid ((M8.out.on (below_draw w8 n1)).on b9)
      clear b9 B8 M8 hrd
      go_wp2_with fail
      refine (merge_mean _ k _ M9.out (by have := kl.out; omega)).mono ?_
      rintro e w10 ⟨v10, hv10, rfl, b10⟩
      rw [kM.out] at hv10
      have B10 := Lib.hid (below_step B9.out b10)
      have M10 := Lib.hid (M9.out.on b10)
      have N10 := Lib.hid hv10
      clear hv10 b10 B9 M9
      go_wp2_with fail
      refine (psame_yes _ _ k _ N10.out M10.out (by have := kl.out; unfold maxLen; omega)).mono ?_
      rintro e w11 ⟨rfl, k11, rfl⟩
      have B11 := Lib.hid (B10.out.trans (below_draw w10 k11))
      generalize w10.drewN k11 = w11 at *
      clear N10 M10 B10
      obtain ⟨t, ht, hF⟩ := Mn.merged_fin s0 s1 l k kE.out lL.out kL.out hm.out kl.out r4 r5 H4.out H5.out
      have HF := Lib.hid (hF d HD.out)
      clear hF
      have hrt := run_float_arith (P := Try.prog) w11 .mul 40 .f64 r4 4517329193108106637 t ht
      clear ht
      obtain ⟨nd, hnd⟩ : ∃ nd, Op.negFloat .f64 d = nd := ⟨_, rfl⟩
      have o1 := Fl.ord_le HF.out.1 HF.out.2.1 HF.out.2.2.1
      have o2 : FloatKind.f64.format.order nd t = some Ordering.lt ∨ FloatKind.f64.format.order nd t = some Ordering.eq := by
        rw [← hnd]
        obtain ⟨a, b⟩ := Fl.neg_V HF.out.1
        exact Fl.ord_le a HF.out.2.1 (by rw [b]; exact HF.out.2.2.2)
      have hrn : Sem.run Try.prog (Op.unary UnOp.neg (.float .f64 d)) w11 = .ok (.float .f64 nd) w11 := by rw [← hnd]; rfl
      clear hnd
      go_wp2
      go_ret
      refine ⟨?_, B11.out⟩
      rcases o2 with o2 | o2 <;> rcases o1 with o1 | o1 <;> simp [o1, o2]
end Go.Proofs.Ytckcmhnhmobadaa
