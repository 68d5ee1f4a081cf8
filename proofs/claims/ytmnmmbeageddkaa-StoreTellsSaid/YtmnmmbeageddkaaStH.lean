/- Stores: what a nil store tells. -/
import Derived.Test.YtmnmmbeageddkaaStC
set_option linter.unusedVariables false
set_option linter.unusedSimpArgs false
namespace Go.Proofs.Ytmnmmbeageddkaa
open Go.RowKit Go.Sort Go.Shelf

set_option maxHeartbeats 1000000 in
theorem st_put_nil (x : If.I) (W : World) :
    Calls Try.prog 11 #[.pointer none, IV x] W fun e w' => e = .returned (.int .i64 12) ∧ Below W.heap.size W w' := by
  go_enter Try.func11, Try.ntmps11
  go_wp2
  go_ret
  exact ⟨rfl, by go_grown⟩
set_option maxHeartbeats 1000000 in
theorem st_drop_nil (t : Int) (W : World) :
    Calls Try.prog 13 #[.pointer none, .int .i64 t] W fun e w' => e = .returned (.int .i64 12) ∧ Below W.heap.size W w' := by
  go_enter Try.func13, Try.ntmps13
  go_wp2_with fail
  refine (st_at_nil t _).mono ?_
  rintro e w1 ⟨rfl, b1⟩
  go_wp2
  go_ret
  exact ⟨rfl, b1⟩
set_option maxHeartbeats 1000000 in
theorem st_list_nil (W : World) :
    Calls Try.prog 21 #[.pointer none] W fun e w' => e = .returned (.slice none 0 0) ∧ Below W.heap.size W w' := by
  go_enter Try.func21, Try.ntmps21
  go_wp2_with fail
  refine (st_all_nil _).mono ?_
  rintro e w1 ⟨rfl, b1⟩
  go_wp2_with fail
  refine wp_loop_rounds 2 ?_
  rw [rounds_succ]
  go_wp2
  go_ret
  exact ⟨rfl, b1⟩
set_option maxHeartbeats 2000000 in
theorem st_find_nil (t : Int) (W : World) :
    Calls Try.prog 15 #[.pointer none, .int .i64 t] W fun e w' => e = .returned (.tuple #[IV ((0, 0, 0, 0, ⟨#[]⟩) : If.I), .bool false]) ∧ Below W.heap.size W w' := by
  have b0 : Below W.heap.size W (W.alloc (.cells #[.int .i64 0, .int .i64 0, .int .i64 0, .int .i64 0, .string ⟨#[]⟩] 36)) := (Below.refl _ _).alloc (Nat.le_refl _) _
  have K0 := Lib.hid (Blk.new W 36 #[.int .i64 0, .int .i64 0, .int .i64 0, .int .i64 0, .string ⟨#[]⟩])
  have B0 := Lib.hid b0
  clear b0
  go_enter Try.func15, Try.ntmps15
  go_upto_region 1 with (fail)
  generalize W.alloc (.cells #[.int .i64 0, .int .i64 0, .int .i64 0, .int .i64 0, .string ⟨#[]⟩] 36) = w1 at *
  go_wp2_with fail
  refine (st_at_nil t _).mono ?_
  rintro e w2 ⟨rfl, b2⟩
  have K2 := Lib.hid (K0.out.on b2); have B2 := Lib.hid (below_step B0.out b2)
  clear b2 K0 B0
  have c0 := K2.out.c0; have c1 := K2.out.c1; have c2 := K2.out.c2; have c3 := K2.out.c3; have c4 := K2.out.c4
  have f0 := K2.out.frozen 0; have f1 := K2.out.frozen 1; have f2 := K2.out.frozen 2; have f3 := K2.out.frozen 3; have f4 := K2.out.frozen 4; have hb := K2.out.lt
  go_wp2_with fail
  refine bodyPost_ret (v := .tuple #[IV ((0, 0, 0, 0, ⟨#[]⟩) : If.I), .bool false]) (by simp [results, Try.results15, go_sem, f0, f1, f2, f3, f4, c0, c1, c2, c3, c4, hb]) rfl ⟨rfl, ?_⟩
  repeat (first | refine Below.setCell ?_ (by first | (simp; done) | (simp; omega) | omega) _ | refine below_drewN ?_ _ | refine Below.drew ?_)
  exact B2.out
end Go.Proofs.Ytmnmmbeageddkaa
