/- giveup.CaughtAt at int: its deferred closure. -/
import Derived.Test.YtafnnnbefabofaaDoorGvA
import Derived.Test.YtafnnnbefabofaaDoorBk
set_option linter.unusedVariables false
set_option linter.unusedSimpArgs false
namespace Go.Proofs.YtafnnnbefabofaaDoor
open Go.RowKit

theorem gv_assert (line why : Int) (W : World) : Sem.run Tryd.prog (Instr.typeAssert (Value.iface 174 (Value.agg #[Value.int IntKind.i64 line, Value.int IntKind.i64 why])) 20 174 true) W = .ok (.tuple #[.agg #[.int .i64 line, .int .i64 why], .bool true]) W := by
  kernel_rfl
set_option maxRecDepth 100000 in
theorem gvi_catch (b : Nat) (x y line why : Int) (older : List PanicEntry) (w : World) (hb : b < w.heap.size) (hc : w.cell? ⟨b, 0, none⟩ = some (.int .i64 x)) (hd : w.cell? ⟨b, 1, none⟩ = some (.int .i64 y)) (hz : ∀ j, w.frozen? ⟨b, j, none⟩ = false) :
    CallsD Tryd.prog 183 #[.pointer (some ⟨b, 0, none⟩)] (.panicking ({ v := gvV line why, recovered := false } :: older)) w fun e u' w' =>
      e = .returned (.tuple #[]) ∧ u' = .panicking ({ v := gvV line why, recovered := true } :: older) ∧ w' = ((w.setCell ⟨b, 0, none⟩ (.int .i64 line)).setCell ⟨b, 1, none⟩ (.int .i64 why)).alloc (.cells #[.int .i64 line, .int .i64 why] 174) := by
  unfold gvV
  have hta := fun W => gv_assert line why W
  refine callsD_of_wpS Tryd.func183 rfl fun c₀ cs hu => ?_
  apply wpS_seq
  apply wpS_region
  simp [wpOpsS, go_sem, recoverD, hu, Tryd.ntmps183, Exit.thenS]
  refine wpS_of_wp ?_
  rw [show (#[Value.pointer (some ⟨b, 0, none⟩)] ++ (Array.replicate 11 undef).setIfInBounds 3 (Value.iface 174 (Value.agg #[Value.int IntKind.i64 line, Value.int IntKind.i64 why])) : Array Value) = #[.pointer (some ⟨b, 0, none⟩), undef, undef, undef, .iface 174 (.agg #[.int .i64 line, .int .i64 why]), undef, undef, undef, undef, undef, undef, undef] from rfl]
  have n1 : b ≠ w.heap.size := Nat.ne_of_lt hb
  have n2 : w.heap.size ≠ b := Nat.ne_of_gt hb
  go_wp2_with fail
  all_goals (cases c₀; simp_all [bodyPostS, results, Tryd.results183])
theorem gvi_idle (p : Addr) (w : World) :
    CallsD Tryd.prog 183 #[.pointer (some p)] .returning w fun e u' w' => e = .returned (.tuple #[]) ∧ u' = .returning ∧ w' = w := by
  refine callsD_of_wpS Tryd.func183 rfl fun c₀ cs hu => ?_
  apply wpS_seq
  apply wpS_region
  simp [wpOpsS, go_sem, recoverD, hu, Tryd.ntmps183, Exit.thenS]
  refine wpS_of_wp ?_
  rw [show (#[Value.pointer (some p)] ++ (Array.replicate 11 undef).setIfInBounds 3 Value.nilIface : Array Value) = #[.pointer (some p), undef, undef, undef, .nilIface, undef, undef, undef, undef, undef, undef, undef] from rfl]
  go_wp2_with fail
  all_goals (cases c₀; simp_all [bodyPostS, results, Tryd.results183])
end Go.Proofs.YtafnnnbefabofaaDoor
