/- Sets of spans: the contracts of the program's Or, And, Less, Of, Gaps. -/
import Derived.Test.YtmnmmbeageddkaaSsC
set_option linter.unusedVariables false
set_option linter.unusedSimpArgs false
namespace Go.Proofs.Ytmnmmbeageddkaa
open Go.RowKit Go.Sort Go.Shelf

set_option maxHeartbeats 2000000 in
theorem spans_or (va vb : Value) (a b : List Ss.S) (w : World) (h : SpV w va a) (k : SpV w vb b) (ha : a.length ≤ 1000) (hb : b.length ≤ 1000) :
    Calls Try.prog 69 #[va, vb] w (AnsK (fun x y => x || y) a b w) := by
  obtain ⟨A, c, rfl, -⟩ := id h
  obtain ⟨B, c', rfl, -⟩ := id k
  have C := Lib.hid (sweep_Or _ _ a b w h k ha hb)
  clear h k ha hb
  go_enter Try.func69, Try.ntmps69
  go_wp2_with fail
  refine C.out.mono ?_
  rintro e w1 ⟨v, l, rfl, h1, h2, h3, h4, h5⟩
  go_wp2
  go_ret
  exact ⟨v, l, rfl, h1, h2, h3, h4, h5⟩
set_option maxHeartbeats 2000000 in
theorem spans_less (va vb : Value) (a b : List Ss.S) (w : World) (h : SpV w va a) (k : SpV w vb b) (ha : a.length ≤ 1000) (hb : b.length ≤ 1000) :
    Calls Try.prog 71 #[va, vb] w (AnsK (fun x y => x && !y) a b w) := by
  obtain ⟨A, c, rfl, -⟩ := id h
  obtain ⟨B, c', rfl, -⟩ := id k
  have C := Lib.hid (sweep_Less _ _ a b w h k ha hb)
  clear h k ha hb
  go_enter Try.func71, Try.ntmps71
  go_wp2_with fail
  refine C.out.mono ?_
  rintro e w1 ⟨v, l, rfl, h1, h2, h3, h4, h5⟩
  go_wp2
  go_ret
  exact ⟨v, l, rfl, h1, h2, h3, h4, h5⟩
set_option maxHeartbeats 2000000 in
theorem spans_of (va : Value) (a : List Ss.S) (w : World) (h : SpV w va a) (ha : a.length ≤ 1000) :
    Calls Try.prog 54 #[va] w (AnsK (fun x y => x || y) a [] w) := by
  obtain ⟨A, c, rfl, -⟩ := id h
  have C := Lib.hid (spans_or _ (.slice none 0 0) a [] w h (Lst.nil _ _) ha (Nat.zero_le _))
  clear h ha
  go_enter Try.func54, Try.ntmps54
  go_wp2_with fail
  refine C.out.mono ?_
  rintro e w1 ⟨v, l, rfl, h1, h2, h3, h4, h5⟩
  go_wp2
  go_ret
  exact ⟨v, l, rfl, h1, h2, h3, h4, h5⟩
theorem spv_one (w : World) (s0 s1 : Int) : SpV (w.alloc (.cells #[.int .i64 s0, .int .i64 s1] 32)) (.slice (some ⟨w.heap.size, 0, none⟩) 1 1) [(s0, s1)] :=
  ⟨some ⟨w.heap.size, 0, none⟩, 1, rfl, fun _ => ⟨_, rfl, by simp, two_cells9 (by simp [go_sem]) (by simp [go_sem])⟩⟩
set_option maxHeartbeats 2000000 in
theorem spans_gaps (va : Value) (a : List Ss.S) (s0 s1 : Int) (w : World) (h : SpV w va a) (ha : a.length ≤ 1000) :
    Calls Try.prog 57 #[va, .agg #[.int .i64 s0, .int .i64 s1]] w (AnsK (fun x y => x && !y) [(s0, s1)] a w) := by
  obtain ⟨A, c, rfl, -⟩ := id h
  have H := Lib.hid h
  have HA := Lib.hid ha
  clear h ha
  go_enter Try.func57, Try.ntmps57
  go_wp2_with fail
  have b1 : Below w.heap.size w (w.alloc (.cells #[.int .i64 s0, .int .i64 s1] 32)) := (Below.refl _ _).alloc (Nat.le_refl _) _
  have b2 : Below w.heap.size w ((w.alloc (.cells #[.int .i64 s0, .int .i64 s1] 32)).alloc (.cells #[.int .i64 s0, .int .i64 s1] 32)) := b1.alloc b1.size _
  have B2 := Lib.hid b2
  have e9 : w.heap.size + 1 = (w.alloc (.cells #[.int .i64 s0, .int .i64 s1] 32)).heap.size := by simp
  refine (spans_less _ _ [(s0, s1)] a _ (by rw [e9]; exact spv_one _ s0 s1) (H.out.on b2) (by simp) HA.out).mono ?_
  clear b1 b2 e9
  rintro e w1 ⟨v, l, rfl, h1, h2, h3, h4, h5⟩
  have Q := Lib.hid (And.intro h1 (And.intro h2 (And.intro h3 (And.intro h4 (below_step B2.out h5)))))
  clear h1 h2 h3 h4 h5
  go_wp2
  go_ret
  exact ⟨v, l, rfl, Q.out⟩
end Go.Proofs.Ytmnmmbeageddkaa
