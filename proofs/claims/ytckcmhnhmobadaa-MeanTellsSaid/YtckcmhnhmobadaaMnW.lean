/- The walk of MeanTells, at any input. -/
import Derived.Test.YtckcmhnhmobadaaLiv12
import Derived.Test.YtckcmhnhmobadaaMnT
import Derived.Test.YtckcmhnhmobadaaR2A
set_option linter.unusedVariables false
set_option linter.unusedSimpArgs false
namespace Go.Proofs.Ytckcmhnhmobadaa
open Go.RowKit Go.Sort Go.Shelf

set_option maxRecDepth 100000 in
set_option maxHeartbeats 8000000 in
theorem mntell_walk (v : Value) (l : List Mn.P) (s0 s1 : Int) (w : World) (h : PtV w v l) :
    Calls Try.prog 6 #[v, .agg #[.int .i64 s0, .int .i64 s1]] w fun e w' => e = .returned (.bool true) ∧ Below w.heap.size w w' := by
  have H := Lib.hid h
  obtain ⟨A, c, rfl, -⟩ := h
  obtain ⟨n, hn⟩ : ∃ n, l.length = n := ⟨_, rfl⟩
  rw [hn] at H ⊢
  have HN := Lib.hid hn
  clear hn
  have b0 : Below w.heap.size w (w.alloc (.cells #[.int .i64 s0, .int .i64 s1] 24)) := (Below.refl _ _).alloc (Nat.le_refl _) _
  have LV := Lib.hid (fun W => lives12_any W)
  by_cases h60 : 60 < (n : Int)
  · go_enter Try.func6, Try.ntmps6
    go_wp2_with fail
    refine (LV.out _).mono ?_
    rintro e w1 ⟨rfl, b1⟩
    go_wp2
    go_ret
    exact ⟨rfl, below_step b0 b1⟩
  · have hm := Lib.hid (show l.length ≤ 1000000 by rw [HN.out]; omega)
    have S0 := Lib.hid (H.out.on b0)
    have K0 := Lib.hid (Blk.new w 24 #[.int .i64 s0, .int .i64 s1])
    have B0 := Lib.hid b0
    clear b0 H
    obtain ⟨cT, hcT⟩ : ∃ c, c = (if Mn.rt none l then Fl.csum (Mn.lens (Mn.cnt s0 s1 l)) else 0) := ⟨_, rfl⟩
    obtain ⟨cM, hcM⟩ : ∃ c, c = (if Mn.rt none l then Mn.mean s0 s1 l else 0) := ⟨_, rfl⟩
    obtain ⟨wy, hwy⟩ : ∃ c : Int, c = (if Mn.rt none l then 0 else 4) := ⟨_, rfl⟩
    obtain ⟨rb, hrb⟩ : ∃ c, c = Mn.rt none l := ⟨_, rfl⟩
    obtain ⟨lo, hi, is, hen⟩ : ∃ lo hi is, Mn.end3 (if Mn.rt none l then Mn.cnt s0 s1 l else []) = .tuple #[.int .i64 lo, .int .i64 hi, .bool is] := ⟨_, _, _, rfl⟩
    have C1 := Lib.hid (fun W (S : PtV W (.slice A n c) l) => mtotal_any (.slice A n c) l s0 s1 W S hm.out)
    have C2 := Lib.hid (fun W (S : PtV W (.slice A n c) l) => rtotal_any (.slice A n c) l s0 s1 W S hm.out)
    have C3 := Lib.hid (fun W (S : PtV W (.slice A n c) l) => mmean_any (.slice A n c) l s0 s1 W S hm.out)
    have C4 := Lib.hid (fun W (S : PtV W (.slice A n c) l) => rmean_any (.slice A n c) l s0 s1 W S hm.out)
    have C5 := Lib.hid (fun W (S : PtV W (.slice A n c) l) => mends_any (.slice A n c) l s0 s1 W S hm.out)
    have C6 := Lib.hid (fun W (S : PtV W (.slice A n c) l) => rends_any (.slice A n c) l s0 s1 W S hm.out)
    have C7 := Lib.hid (fun W (S : PtV W (.slice A n c) l) => mean_right (.slice A n c) l W S hm.out)
    have C8 := Lib.hid (fun W (S : PtV W (.slice A n c) l) => noontideref12_right (.slice A n c) l W S hm.out)
    have C9 := Lib.hid (fun W (S : PtV W (.slice A n c) l) => merge_mean (.slice A n c) l W S hm.out)
    have C10 := Lib.hid (fun W (S : PtV W (.slice A n c) l) => merge_noontideref12 (.slice A n c) l W S hm.out)
    have ml := Lib.hid (show (Mn.merged l).length ≤ maxLen by unfold Mn.merged; have := Mn.merge_len l; have := hm.out; unfold maxLen; split <;> simp <;> omega)
    rw [← hcT, ← hwy] at C1 C2
    rw [← hcM, ← hwy] at C3 C4
    rw [hen] at C5 C6
    rw [← hrb] at C7 C8
    clear hcT hcM hwy hen hrb hm HN
    go_enter Try.func6, Try.ntmps6
    have c0 := K0.out.c0; have c1 := K0.out.c1
    go_wp2_with fail
    refine (C1.out _ S0.out).mono ?_
    rintro e w1 ⟨r1, h1, rfl, b1⟩
    have S1 := Lib.hid (S0.out.on b1); have K1 := Lib.hid (K0.out.on b1); have B1 := Lib.hid (below_step B0.out b1); have H1 := Lib.hid h1
    clear S0 K0 B0 b1 h1 c0 c1 C1
    have c0 := K1.out.c0; have c1 := K1.out.c1
    go_wp2_with fail
    refine (C2.out _ S1.out).mono ?_
    rintro e w2 ⟨r2, h2, rfl, b2⟩
    have S2 := Lib.hid (S1.out.on b2); have K2 := Lib.hid (K1.out.on b2); have B2 := Lib.hid (below_step B1.out b2); have H2 := Lib.hid h2
    clear S1 K1 B1 b2 h2 c0 c1 C2
    have c0 := K2.out.c0; have c1 := K2.out.c1
    go_wp2_with fail
    refine (C3.out _ S2.out).mono ?_
    rintro e w3 ⟨r3, h3, rfl, b3⟩
    have S3 := Lib.hid (S2.out.on b3); have K3 := Lib.hid (K2.out.on b3); have B3 := Lib.hid (below_step B2.out b3); have H3 := Lib.hid h3
    clear S2 K2 B2 b3 h3 c0 c1 C3
    have c0 := K3.out.c0; have c1 := K3.out.c1
    go_wp2_with fail
    refine (C4.out _ S3.out).mono ?_
    rintro e w4 ⟨r4, h4, rfl, b4⟩
    have S4 := Lib.hid (S3.out.on b4); have K4 := Lib.hid (K3.out.on b4); have B4 := Lib.hid (below_step B3.out b4); have H4 := Lib.hid h4
    clear S3 K3 B3 b4 h4 c0 c1 C4
    have c0 := K4.out.c0; have c1 := K4.out.c1
    go_wp2_with fail
    refine (C5.out _ S4.out).mono ?_
    rintro e w5 ⟨rfl, b5⟩
    have S5 := Lib.hid (S4.out.on b5); have K5 := Lib.hid (K4.out.on b5); have B5 := Lib.hid (below_step B4.out b5)
    clear S4 K4 B4 b5 c0 c1 C5
    have c0 := K5.out.c0; have c1 := K5.out.c1
    go_wp2_with fail
    refine (C6.out _ S5.out).mono ?_
    rintro e w6 ⟨rfl, b6⟩
    have S6 := Lib.hid (S5.out.on b6); have B6 := Lib.hid (below_step B5.out b6)
    clear S5 K5 B5 b6 c0 c1 C6
    go_wp2_with fail
    refine (samer_any r1 r2 H1.out.1 H2.out.1 _).mono ?_
    rintro e w7 ⟨rfl, rfl⟩
    rw [Fl.sameB_of H1.out H2.out]
    go_wp2_with fail
    refine (samer_any r3 r4 H3.out.1 H4.out.1 _).mono ?_
    rintro e w7 ⟨rfl, rfl⟩
    rw [Fl.sameB_of H3.out H4.out]
    go_wp2_with fail
    refine (C7.out _ S6.out).mono ?_
    rintro e w7 ⟨rfl, b7⟩
    have S7 := Lib.hid (S6.out.on b7); have B7 := Lib.hid (below_step B6.out b7)
    clear S6 B6 b7 C7
    go_wp2_with fail
    refine (C8.out _ S7.out).mono ?_
    rintro e w8 ⟨rfl, b8⟩
    have S8 := Lib.hid (S7.out.on b8); have B8 := Lib.hid (below_step B7.out b8)
    clear S7 B7 b8 C8
    go_wp2_with fail
    refine (C9.out _ S8.out).mono ?_
    rintro e w9 ⟨v1, hv1, rfl, b9⟩
    have S9 := Lib.hid (S8.out.on b9); have B9 := Lib.hid (below_step B8.out b9); have V1 := Lib.hid hv1
    clear S8 B8 b9 C9 hv1
    go_wp2_with fail
    refine (C10.out _ S9.out).mono ?_
    rintro e w10 ⟨v2, hv2, rfl, b10⟩
    have B10 := Lib.hid (below_step B9.out b10); have V10 := Lib.hid (V1.out.on b10); have V2 := Lib.hid hv2
    clear S9 B9 b10 C10 hv2 V1
    go_wp2_with fail
    refine (psame_yes _ _ _ _ V10.out V2.out ml.out).mono ?_
    rintro e w11 ⟨rfl, k11, rfl⟩
    go_wp2_with fail
    refine (LV.out _).mono ?_
    rintro e w12 ⟨rfl, b12⟩
    go_wp2
    go_ret
    exact ⟨rfl, below_step (B10.out.trans (below_draw w10 k11)) b12⟩
end Go.Proofs.Ytckcmhnhmobadaa
