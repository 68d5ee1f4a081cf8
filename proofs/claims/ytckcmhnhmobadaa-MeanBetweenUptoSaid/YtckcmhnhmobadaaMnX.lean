/- The walk of MeanBetween, at any input of whole numbers of 64 bits. -/
import Derived.Test.YtckcmhnhmobadaaLiv12
import Derived.Test.YtckcmhnhmobadaaMnN
import Derived.Test.YtckcmhnhmobadaaRk
set_option linter.unusedVariables false
set_option linter.unusedSimpArgs false
namespace Go.Proofs.Ytckcmhnhmobadaa
open Go.RowKit Go.Sort Go.Shelf

namespace Mn
theorem fold_bd (l : List P) : ∀ (is : Bool) (a b A C : Int), is = true → A ≤ a → b ≤ C → (∀ p ∈ l, A ≤ p.2.2 ∧ p.2.2 ≤ C) → a ≤ b →
    ∃ x y, l.foldl eb (is, a, b) = (true, x, y) ∧ x ≤ a ∧ b ≤ y ∧ A ≤ x ∧ y ≤ C ∧ ∀ p ∈ l, x ≤ p.2.2 ∧ p.2.2 ≤ y := by
  induction l with
  | nil => intro is a b A C h h1 h2 _ _; subst h; exact ⟨a, b, rfl, Int.le_refl _, Int.le_refl _, h1, h2, fun p hp => absurd hp (by simp)⟩
  | cons p l ih =>
    intro is a b A C h h1 h2 h3 h4
    subst h
    obtain ⟨g1, g2⟩ := h3 p (List.mem_cons_self ..)
    obtain ⟨x, y, e, k1, k2, k3, k4, k5⟩ := ih true (min a p.2.2) (max b p.2.2) A C rfl (by omega) (by omega) (fun q hq => h3 q (List.mem_cons_of_mem _ hq)) (by omega)
    refine ⟨x, y, by rw [List.foldl_cons]; exact e, by omega, by omega, k3, k4, fun q hq => ?_⟩
    rcases List.mem_cons.1 hq with rfl | hq
    · omega
    · exact k5 q hq
theorem ends_bd (l : List P) (h0 : l ≠ []) (A C : Int) (h : ∀ p ∈ l, A ≤ p.2.2 ∧ p.2.2 ≤ C) : ∃ x y, ends l = (true, x, y) ∧ x ≤ y ∧ A ≤ x ∧ y ≤ C ∧ ∀ p ∈ l, x ≤ p.2.2 ∧ p.2.2 ≤ y := by
  cases l with
  | nil => exact absurd rfl h0
  | cons p l =>
    obtain ⟨g1, g2⟩ := h p (List.mem_cons_self ..)
    obtain ⟨x, y, e, k1, k2, k3, k4, k5⟩ := fold_bd l true p.2.2 p.2.2 A C rfl g1 g2 (fun q hq => h q (List.mem_cons_of_mem _ hq)) (Int.le_refl _)
    refine ⟨x, y, by unfold ends; rw [List.foldl_cons]; exact e, by omega, k3, k4, fun q hq => ?_⟩
    rcases List.mem_cons.1 hq with rfl | hq
    · omega
    · exact k5 q hq
theorem cnt_val (s0 s1 : Int) (l : List P) (A C : Int) (h : ∀ p ∈ l, A ≤ p.2.2 ∧ p.2.2 ≤ C) : ∀ p ∈ cnt s0 s1 l, A ≤ p.2.2 ∧ p.2.2 ≤ C := by
  intro p hp
  unfold cnt at hp
  obtain ⟨q, hq, hb⟩ := List.mem_filterMap.1 hp
  unfold bt at hb
  split at hb
  · obtain rfl := Option.some.inj hb
    exact h q hq
  · cases hb
end Mn
set_option maxRecDepth 100000 in
set_option maxHeartbeats 8000000 in
theorem mnbetween_walk (v : Value) (l : List Mn.P) (s0 s1 : Int) (w : World) (h : PtV w v l) (hn0 : l.length ≤ 1000000) (hI : ∀ p ∈ l, Mn.IP p ∧ Mn.I p.2.2) (i0 : Mn.I s0) (i1 : Mn.I s1) :
    Calls Try.prog 7 #[v, .agg #[.int .i64 s0, .int .i64 s1]] w fun e w' => e = .returned (.bool true) ∧ Below w.heap.size w w' := by
  have H := Lib.hid h
  obtain ⟨A, c, rfl, -⟩ := h
  obtain ⟨n, hn⟩ : ∃ n, l.length = n := ⟨_, rfl⟩
  rw [hn] at H ⊢
  have HN := Lib.hid hn
  clear hn
  have b0 : Below w.heap.size w (w.alloc (.cells #[.int .i64 s0, .int .i64 s1] 24)) := (Below.refl _ _).alloc (Nat.le_refl _) _
  have S0 := Lib.hid (H.out.on b0)
  have K0 := Lib.hid (Blk.new w 24 #[.int .i64 s0, .int .i64 s1])
  have B0 := Lib.hid b0
  clear b0 H
  have HI := Lib.hid hI
  have I0 := Lib.hid i0
  have I1 := Lib.hid i1
  clear hI i0 i1
  have hm := Lib.hid hn0
  clear hn0
  go_enter Try.func7, Try.ntmps7
  go_wp2_with fail
  refine (lives12_any _).mono ?_
  rintro e w1 ⟨rfl, b1⟩
  have S1 := Lib.hid (S0.out.on b1); have K1 := Lib.hid (K0.out.on b1); have B1 := Lib.hid (below_step B0.out b1)
  clear S0 K0 B0 b1
  have c0 := K1.out.c0; have c1 := K1.out.c1
  cases hr : Mn.rt none l
  · have HR := Lib.hid hr
    clear hr
    go_wp2_with fail
    refine (mmean_any _ l s0 s1 _ S1.out hm.out).mono ?_
    rintro e w2 ⟨r2, h2, rfl, b2⟩
    rw [HR.out, if_neg (by decide)] at h2 ⊢
    have S2 := Lib.hid (S1.out.on b2); have K2 := Lib.hid (K1.out.on b2); have B2 := Lib.hid (below_step B1.out b2); have H2 := Lib.hid h2
    clear S1 K1 B1 b2 c0 c1 h2
    have c0 := K2.out.c0; have c1 := K2.out.c1
    go_wp2_with fail
    refine (mends_any _ l s0 s1 _ S2.out hm.out).mono ?_
    rintro e w3 ⟨rfl, b3⟩
    rw [HR.out, if_neg (by decide)]
    have S3 := Lib.hid (S2.out.on b3); have K3 := Lib.hid (K2.out.on b3); have B3 := Lib.hid (below_step B2.out b3)
    clear S2 K2 B2 b3 c0 c1
    have c0 := K3.out.c0; have c1 := K3.out.c1
    rw [show Mn.end3 [] = .tuple #[.int .i64 0, .int .i64 0, .bool false] from rfl]
    by_cases h60 : 60 < (n : Int)
    · go_wp2
      go_ret
      exact ⟨rfl, B3.out⟩
    · go_wp2_with fail
      refine (mean_right _ l _ S3.out hm.out).mono ?_
      rintro e w4 ⟨rfl, b4⟩
      have B4 := Lib.hid (below_step B3.out b4)
      rw [HR.out]
      clear b4 c0 c1
      go_wp2
      go_ret
      exact ⟨rfl, B4.out⟩
  have HR := Lib.hid hr
  clear hr
  go_wp2_with fail
  refine (mmean_any _ l s0 s1 _ S1.out hm.out).mono ?_
  rintro e w2 ⟨r2, h2, rfl, b2⟩
  rw [HR.out, if_pos rfl] at h2 ⊢
  have S2 := Lib.hid (S1.out.on b2); have K2 := Lib.hid (K1.out.on b2); have B2 := Lib.hid (below_step B1.out b2); have H2 := Lib.hid h2
  clear S1 K1 B1 b2 c0 c1 h2
  have c0 := K2.out.c0; have c1 := K2.out.c1
  go_wp2_with fail
  refine (mends_any _ l s0 s1 _ S2.out hm.out).mono ?_
  rintro e w3 ⟨rfl, b3⟩
  rw [HR.out, if_pos rfl]
  have S3 := Lib.hid (S2.out.on b3); have K3 := Lib.hid (K2.out.on b3); have B3 := Lib.hid (below_step B2.out b3)
  clear S2 K2 B2 b3 c0 c1
  have c0 := K3.out.c0; have c1 := K3.out.c1
  by_cases h60 : 60 < (n : Int)
  · obtain ⟨lo, hi, is, hen⟩ : ∃ lo hi is, Mn.end3 (Mn.cnt s0 s1 l) = .tuple #[.int .i64 lo, .int .i64 hi, .bool is] := ⟨_, _, _, rfl⟩
    rw [hen]
    clear hen
    go_wp2
    go_ret
    exact ⟨rfl, B3.out⟩
  by_cases hne : Mn.cnt s0 s1 l = []
  · have hnan : Fl.kd (Fl.rk r2) = 0 := by
      have h2 := H2.out
      unfold Mn.mean at h2
      rw [hne] at h2
      have e : Fl.nan (Fl.cop .quo (Fl.csum (Mn.prods [])) (Fl.csum (Mn.lens []))) = true := by decide +kernel
      rcases h2.2 with h3 | ⟨h3, _⟩
      · rw [← h3] at e; unfold Fl.rk; rw [e]; rfl
      · unfold Fl.rk; rw [h3]; rfl
    have hr2 : r2 < 18446744073709551616 := H2.out.1
    rw [hne, show Mn.end3 [] = .tuple #[.int .i64 0, .int .i64 0, .bool false] from rfl]
    clear hne
    have HK := Lib.hid hnan
    have R2 := Lib.hid hr2
    clear hnan hr2
    go_wp2_with fail
    refine (kind_any r2 R2.out _).mono ?_
    rintro e w4 ⟨rfl, rfl⟩
    rw [HK.out]
    go_wp2
    go_ret
    exact ⟨rfl, B3.out⟩
  have hln := Mn.cnt_wl s0 s1 l (fun p hp => (HI.out p hp).1) I0.out I1.out
  obtain ⟨lo, hi, hen, hle, hA, hC, hvs⟩ := Mn.ends_bd _ hne (-9223372036854775808) 9223372036854775807 (Mn.cnt_val s0 s1 l _ _ fun p hp => (HI.out p hp).2)
  have hnl := Nat.le_trans (Mn.cnt_len s0 s1 l) (show l.length ≤ 60 by rw [HN.out]; omega)
  obtain ⟨m, mx, t1, sl, xl, xh, hq, hmx, hs1, hsl, hxl, hxh, fm, fxl, fxh, q0, q1⟩ := Mn.between_fin _ hln hne hnl lo hi hvs hA hC hle
  have hrm : r2 = m := by
    have h2 := H2.out
    have e : Mn.mean s0 s1 l = m := by unfold Mn.mean Fl.cop; rw [hq]; rfl
    rw [e] at h2
    rcases h2.2 with h3 | ⟨_, h3⟩
    · exact h3
    · have := Fl.nan_true.1 h3; unfold Fl.fin at fm; omega
  subst hrm
  have hE3 : Mn.end3 (Mn.cnt s0 s1 l) = .tuple #[.int .i64 lo, .int .i64 hi, .bool true] := by unfold Mn.end3; rw [hen]
  rw [hE3]
  have o1 : FloatKind.f64.format.order r2 xl = some Ordering.gt ∨ FloatKind.f64.format.order r2 xl = some Ordering.eq := by
    show Ieee.double.order r2 xl = _ ∨ Ieee.double.order r2 xl = _
    rw [Fl.order_fin fm fxl]
    rcases Int.lt_or_eq_of_le q0 with g | g
    · left; rw [Fl.cmp_gt.2 g]
    · right; rw [Fl.cmp_eq.2 g.symm]
  have o2 := Fl.ord_le fm fxh q1
  have hrn : Sem.run Try.prog (Op.unary UnOp.neg (.float .f64 (floatOfInt FloatKind.f64 lo))) w3 = .ok (.float .f64 (Op.negFloat .f64 (FloatKind.f64.nearest lo))) w3 := rfl
  have hrx := hmx #[40, 40, 40] 40 Try.prog w3
  have r1 := run_float_arith (P := Try.prog) w3 .add 40 .f64 4607182418800017408 mx t1 hs1
  have r3 := run_float_arith (P := Try.prog) w3 .mul 40 .f64 4517329193108106637 t1 sl hsl
  have r4 := run_float_arith (P := Try.prog) w3 .sub 40 .f64 (FloatKind.f64.nearest lo) sl xl hxl
  have r5 := run_float_arith (P := Try.prog) w3 .add 40 .f64 (FloatKind.f64.nearest hi) sl xh hxh
  have hfi : ∀ x : Int, floatOfInt FloatKind.f64 x = FloatKind.f64.nearest x := fun _ => rfl
  rw [← hfi lo, ← hfi hi] at hrx
  rw [← hfi lo] at hrn r4
  rw [← hfi hi] at r5
  generalize hnl : Op.negFloat .f64 (floatOfInt FloatKind.f64 lo) = nl at *
  clear hq hmx hs1 hsl hxl hxh fm fxl fxh q0 q1 hE3 hvs hA hC hle hen hln hne hfi
  go_wp2
  go_ret
  refine ⟨?_, B3.out⟩
  rcases o2 with o2 | o2 <;> rcases o1 with o1 | o1 <;> simp [o1, o2]
end Go.Proofs.Ytckcmhnhmobadaa
