/- Parts: the reference's Total, Mean, Ends. -/
import Derived.Test.YtckcmhnhmobadaaMnS
set_option linter.unusedVariables false
set_option linter.unusedSimpArgs false
namespace Go.Proofs.Ytckcmhnhmobadaa
open Go.RowKit Go.Sort Go.Shelf

set_option maxHeartbeats 4000000 in
theorem rtotal_any (v : Value) (l : List Mn.P) (s0 s1 : Int) (w : World) (h : PtV w v l) (hm : l.length ≤ 1000000) :
    Calls Try.prog 32 #[v, .agg #[.int .i64 s0, .int .i64 s1]] w (AnsF2 (if Mn.rt none l then Fl.csum (Mn.lens (Mn.cnt s0 s1 l)) else 0) (if Mn.rt none l then 0 else 4) w) := by
  have H := Lib.hid h
  obtain ⟨A, c, rfl, -⟩ := h
  have b0 : Below w.heap.size w (w.alloc (.cells #[.int .i64 s0, .int .i64 s1] 24)) := (Below.refl _ _).alloc (Nat.le_refl _) _
  have C := Lib.hid (noontideref12_right (.slice A l.length c) l _ (H.out.on b0) hm)
  have S0 := Blk.new w 24 #[.int .i64 s0, .int .i64 s1]
  have D := Lib.hid (fun w1 (b : Below w.heap.size w w1) => rsums_any (.slice A l.length c) l s0 s1 w1 (H.out.on b) hm)
  generalize l.length = n at *
  clear H
  cases hr : Mn.rt none l
  · rw [hr] at C
    clear hr
    simp only [Bool.false_eq_true, if_false]
    go_enter Try.func32, Try.ntmps32
    go_wp2_with fail
    refine C.out.mono ?_
    rintro e w1 ⟨rfl, b1⟩
    go_wp2
    go_ret2
    exact ⟨0, Fl.Eqv.refl (by decide), rfl, below_step b0 b1⟩
  · rw [hr] at C
    clear hr
    simp only [if_true]
    go_enter Try.func32, Try.ntmps32
    go_wp2_with fail
    refine C.out.mono ?_
    rintro e w1 ⟨rfl, b1⟩
    have S1 := S0.on b1
    have c0 := S1.c0
    have c1 := S1.c1
    have B1 : Below w.heap.size w w1 := below_step b0 b1
    go_wp2_with fail
    refine (D.out _ B1).mono ?_
    rintro e w2 ⟨r, q, hr, hq, rfl, b2⟩
    go_wp2
    go_ret2
    exact ⟨r, hr, rfl, below_step B1 b2⟩
set_option maxHeartbeats 4000000 in
theorem rmean_any (v : Value) (l : List Mn.P) (s0 s1 : Int) (w : World) (h : PtV w v l) (hm : l.length ≤ 1000000) :
    Calls Try.prog 34 #[v, .agg #[.int .i64 s0, .int .i64 s1]] w (AnsF2 (if Mn.rt none l then Mn.mean s0 s1 l else 0) (if Mn.rt none l then 0 else 4) w) := by
  have H := Lib.hid h
  obtain ⟨A, c, rfl, -⟩ := h
  have b0 : Below w.heap.size w (w.alloc (.cells #[.int .i64 s0, .int .i64 s1] 24)) := (Below.refl _ _).alloc (Nat.le_refl _) _
  have C := Lib.hid (noontideref12_right (.slice A l.length c) l _ (H.out.on b0) hm)
  have S0 := Blk.new w 24 #[.int .i64 s0, .int .i64 s1]
  have D := Lib.hid (fun w1 (b : Below w.heap.size w w1) => rsums_any (.slice A l.length c) l s0 s1 w1 (H.out.on b) hm)
  generalize l.length = n at *
  clear H
  cases hr : Mn.rt none l
  · rw [hr] at C
    clear hr
    simp only [Bool.false_eq_true, if_false]
    go_enter Try.func34, Try.ntmps34
    go_wp2_with fail
    refine C.out.mono ?_
    rintro e w1 ⟨rfl, b1⟩
    go_wp2
    go_ret2
    exact ⟨0, Fl.Eqv.refl (by decide), rfl, below_step b0 b1⟩
  · rw [hr] at C
    clear hr
    simp only [if_true]
    go_enter Try.func34, Try.ntmps34
    go_wp2_with fail
    refine C.out.mono ?_
    rintro e w1 ⟨rfl, b1⟩
    have S1 := S0.on b1
    have c0 := S1.c0
    have c1 := S1.c1
    have B1 : Below w.heap.size w w1 := below_step b0 b1
    go_wp2_with fail
    refine (D.out _ B1).mono ?_
    rintro e w2 ⟨r, q, hr, hq, rfl, b2⟩
    obtain ⟨z, n1, hz, r1⟩ := Fl.fop_run Try.prog .quo (.inr (.inr (.inr rfl))) 40 q r w2
    have HZ := Lib.hid hz
    clear hz
    go_wp2
    go_ret2
    exact ⟨z, by
      have e := HZ.out.cop
      rw [Fl.cop_eqv (.inr (.inr (.inr rfl))) hq hr] at e
      exact e, rfl, (below_step B1 b2).trans (below_draw w2 n1)⟩
end Go.Proofs.Ytckcmhnhmobadaa
