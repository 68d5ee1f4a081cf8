/- giveup: what is panicked with; NeedAt, Need, For, Must: they hand on, or give up. -/
import Derived.Test.YtfcabofhlgmkjaaDoorBase
import Derived.Tactics
import Derived.Tactics2
import Derived.Defers
import Derived.Recover
import Derived.Laws.Pointers
set_option linter.unusedVariables false
set_option linter.unusedSimpArgs false
namespace Go.Proofs.YtfcabofhlgmkjaaDoor
open Go.RowKit

/-- What is panicked with: the line, why. -/
def gvV (line why : Int) : Value := .iface 174 (.agg #[.int .i64 line, .int .i64 why])
def gvL (line why : Int) : List PanicEntry := [{ v := gvV line why, recovered := false }]
abbrev gvP (why : Int) : List PanicEntry := gvL 0 why
theorem needat_yes (line why : Int) (w : World) : Calls Tryd.prog 141 #[.bool true, .int .i64 line, .int .i64 why] w fun e w' => e = .returned (.tuple #[]) ∧ w = w' := by
  go_enter Tryd.func141, Tryd.ntmps141
  go_wp2_with fail
  simp [bodyPost, results, Tryd.results141]
theorem gv_build (line why : Int) (W : World) : Sem.run Tryd.prog (Instr.build 174 #[(0, .agg #[.int .i64 line, .int .i64 why])]) W = .ok (.agg #[.int .i64 line, .int .i64 why]) W := by kernel_rfl
theorem needat_no (line why : Int) (w : World) : Calls Tryd.prog 141 #[.bool false, .int .i64 line, .int .i64 why] w fun e w' => e = .panicked (gvL line why) ∧ w = w' := by
  have hgb := gv_build line why
  go_enter Tryd.func141, Tryd.ntmps141
  go_wp2_with fail
  simp [bodyPost, gvL, gvV]
theorem need_yes (why : Int) (w : World) : Calls Tryd.prog 97 #[.bool true, .int .i64 why] w fun e w' => e = .returned (.tuple #[]) ∧ w = w' := by
  go_enter Tryd.func97, Tryd.ntmps97
  go_wp2_with fail
  refine (needat_yes 0 why _).mono ?_; rintro e w1 ⟨rfl, rfl⟩
  go_wp2_with fail
  simp [bodyPost, results, Tryd.results97]
theorem need_no (why : Int) (w : World) : Calls Tryd.prog 97 #[.bool false, .int .i64 why] w fun e w' => e = .panicked (gvP why) ∧ w = w' := by
  go_enter Tryd.func97, Tryd.ntmps97
  go_wp2_with fail
  refine (needat_no 0 why _).mono ?_; rintro e w1 ⟨rfl, rfl⟩
  refine (show bodyPost _ _ _ (Exit.panic (gvP why)) _ _ from ?_)
  simp [bodyPost]
theorem for_yes (w : World) : Calls Tryd.prog 136 #[.int .i64 0] w fun e w' => e = .returned (.tuple #[]) ∧ w = w' := by
  go_enter Tryd.func136, Tryd.ntmps136
  go_wp2_with fail
  refine (need_yes 0 _).mono ?_; rintro e w1 ⟨rfl, rfl⟩
  go_wp2_with fail
  simp [bodyPost, results, Tryd.results136]
theorem for_no (why : Int) (w : World) (h : why ≠ 0) : Calls Tryd.prog 136 #[.int .i64 why] w fun e w' => e = .panicked (gvP why) ∧ w = w' := by
  have g : (why == 0) = false := by rw [beq_eq_false_iff_ne]; exact h
  clear h
  go_enter Tryd.func136, Tryd.ntmps136
  go_wp2_with fail
  refine (need_no why _).mono ?_; rintro e w1 ⟨rfl, rfl⟩
  refine (show bodyPost _ _ _ (Exit.panic (gvP why)) _ _ from ?_)
  simp [bodyPost]
theorem must_yes (v : Int) (w : World) : Calls Tryd.prog 108 #[.int .i64 v, .int .i64 0] w fun e w' => e = .returned (.int .i64 v) ∧ w = w' := by
  go_enter Tryd.func108, Tryd.ntmps108
  go_wp2_with fail
  refine (for_yes _).mono ?_; rintro e w1 ⟨rfl, rfl⟩
  go_wp2_with fail
  go_ret
  exact ⟨rfl, rfl⟩
theorem must_no (v why : Int) (w : World) (h : why ≠ 0) : Calls Tryd.prog 108 #[.int .i64 v, .int .i64 why] w fun e w' => e = .panicked (gvP why) ∧ w = w' := by
  go_enter Tryd.func108, Tryd.ntmps108
  go_wp2_with fail
  refine (for_no why _ h).mono ?_; rintro e w1 ⟨rfl, rfl⟩
  refine (show bodyPost _ _ _ (Exit.panic (gvP why)) _ _ from ?_)
  simp [bodyPost]
theorem muti_yes (v : Int) (w : World) : Calls Tryd.prog 95 #[.int .i64 v, .int .i64 0] w fun e w' => e = .returned (.int .i64 v) ∧ w = w' := by
  go_enter Tryd.func95, Tryd.ntmps95
  go_wp2_with fail
  refine (for_yes _).mono ?_; rintro e w1 ⟨rfl, rfl⟩
  go_wp2_with fail
  go_ret
  exact ⟨rfl, rfl⟩
theorem muti_no (v why : Int) (w : World) (h : why ≠ 0) : Calls Tryd.prog 95 #[.int .i64 v, .int .i64 why] w fun e w' => e = .panicked (gvP why) ∧ w = w' := by
  go_enter Tryd.func95, Tryd.ntmps95
  go_wp2_with fail
  refine (for_no why _ h).mono ?_; rintro e w1 ⟨rfl, rfl⟩
  refine (show bodyPost _ _ _ (Exit.panic (gvP why)) _ _ from ?_)
  simp [bodyPost]
end Go.Proofs.YtfcabofhlgmkjaaDoor
