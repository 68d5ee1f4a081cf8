/- Joined: GvN0, GvN, GvA, GvM, BkR. -/
import Derived.Test.YtlelpeocbgjmhaaGreatDoorCa01
import Derived.Tactics
import Derived.Tactics2
import Derived.Defers
import Derived.Recover
import Derived.Laws.Pointers
import Derived.Test.YtlelpeocbgjmhaaGreatDoorCa04
/- giveup: what is panicked with; NeedAt, Need: they hand on, or give up. -/
set_option linter.unusedVariables false
set_option linter.unusedSimpArgs false
namespace Go.Proofs.YtlelpeocbgjmhaaGreatDoor
open Go.RowKit

/-- What is panicked with: the line, why. -/
def gvV (line why : Int) : Value := .iface 111 (.agg #[.int .i64 line, .int .i64 why])
def gvL (line why : Int) : List PanicEntry := [{ v := gvV line why, recovered := false }]
abbrev gvP (why : Int) : List PanicEntry := gvL 0 why
theorem needat_yes (line why : Int) (w : World) : Calls Tryz.prog 49 #[.bool true, .int .i64 line, .int .i64 why] w fun e w' => e = .returned (.tuple #[]) ∧ w = w' := by
  go_enter Tryz.func49, Tryz.ntmps49
  go_wp2_with fail
  simp [bodyPost, results, Tryz.results49]
theorem gv_build (line why : Int) (W : World) : Sem.run Tryz.prog (Instr.build 111 #[(0, .agg #[.int .i64 line, .int .i64 why])]) W = .ok (.agg #[.int .i64 line, .int .i64 why]) W := by kernel_rfl
theorem needat_no (line why : Int) (w : World) : Calls Tryz.prog 49 #[.bool false, .int .i64 line, .int .i64 why] w fun e w' => e = .panicked (gvL line why) ∧ w = w' := by
  have hgb := gv_build line why
  go_enter Tryz.func49, Tryz.ntmps49
  go_wp2_with fail
  simp [bodyPost, gvL, gvV]
theorem need_yes (why : Int) (w : World) : Calls Tryz.prog 26 #[.bool true, .int .i64 why] w fun e w' => e = .returned (.tuple #[]) ∧ w = w' := by
  go_enter Tryz.func26, Tryz.ntmps26
  go_wp2_with fail
  refine (needat_yes 0 why _).mono ?_; rintro e w1 ⟨rfl, rfl⟩
  go_wp2_with fail
  simp [bodyPost, results, Tryz.results26]
theorem need_no (why : Int) (w : World) : Calls Tryz.prog 26 #[.bool false, .int .i64 why] w fun e w' => e = .panicked (gvP why) ∧ w = w' := by
  go_enter Tryz.func26, Tryz.ntmps26
  go_wp2_with fail
  refine (needat_no 0 why _).mono ?_; rintro e w1 ⟨rfl, rfl⟩
  refine (show bodyPost _ _ _ (Exit.panic (gvP why)) _ _ from ?_)
  simp [bodyPost]
end Go.Proofs.YtlelpeocbgjmhaaGreatDoor

/- giveup: For. -/
set_option linter.unusedVariables false
set_option linter.unusedSimpArgs false
namespace Go.Proofs.YtlelpeocbgjmhaaGreatDoor
open Go.RowKit

theorem for_yes (w : World) : Calls Tryz.prog 48 #[.int .i64 0] w fun e w' => e = .returned (.tuple #[]) ∧ w = w' := by
  go_enter Tryz.func48, Tryz.ntmps48
  go_wp2_with fail
  refine (need_yes 0 _).mono ?_; rintro e w1 ⟨rfl, rfl⟩
  go_wp2_with fail
  simp [bodyPost, results, Tryz.results48]
theorem for_no (why : Int) (w : World) (h : why ≠ 0) : Calls Tryz.prog 48 #[.int .i64 why] w fun e w' => e = .panicked (gvP why) ∧ w = w' := by
  have g : (why == 0) = false := by rw [beq_eq_false_iff_ne]; exact h
  clear h
  go_enter Tryz.func48, Tryz.ntmps48
  go_wp2_with fail
  refine (need_no why _).mono ?_; rintro e w1 ⟨rfl, rfl⟩
  refine (show bodyPost _ _ _ (Exit.panic (gvP why)) _ _ from ?_)
  simp [bodyPost]
end Go.Proofs.YtlelpeocbgjmhaaGreatDoor

/- giveup: Must. -/
set_option linter.unusedVariables false
set_option linter.unusedSimpArgs false
namespace Go.Proofs.YtlelpeocbgjmhaaGreatDoor
open Go.RowKit

theorem must_yes (v : Int) (w : World) : Calls Tryz.prog 31 #[.int .i64 v, .int .i64 0] w fun e w' => e = .returned (.int .i64 v) ∧ w = w' := by
  go_enter Tryz.func31, Tryz.ntmps31
  go_wp2_with fail
  refine (for_yes _).mono ?_; rintro e w1 ⟨rfl, rfl⟩
  go_wp2_with fail
  go_ret
  exact ⟨rfl, rfl⟩
theorem must_no (v why : Int) (w : World) (h : why ≠ 0) : Calls Tryz.prog 31 #[.int .i64 v, .int .i64 why] w fun e w' => e = .panicked (gvP why) ∧ w = w' := by
  go_enter Tryz.func31, Tryz.ntmps31
  go_wp2_with fail
  refine (for_no why _ h).mono ?_; rintro e w1 ⟨rfl, rfl⟩
  refine (show bodyPost _ _ _ (Exit.panic (gvP why)) _ _ from ?_)
  simp [bodyPost]
end Go.Proofs.YtlelpeocbgjmhaaGreatDoor

/- giveup: Must at days, times of day, texts. -/
set_option linter.unusedVariables false
set_option linter.unusedSimpArgs false
namespace Go.Proofs.YtlelpeocbgjmhaaGreatDoor
open Go.RowKit Go.Sort

theorem musts_yes (s : ByteArray) (w : World) : Calls Tryz.prog 24 #[.string s, .int .i64 0] w fun e w' => e = .returned (.string s) ∧ w = w' := by
  go_enter Tryz.func24, Tryz.ntmps24
  go_wp2_with fail
  refine (for_yes _).mono ?_; rintro e w1 ⟨rfl, rfl⟩
  go_wp2_with fail
  go_ret
  exact ⟨rfl, rfl⟩
theorem musts_no (s : ByteArray) (why : Int) (w : World) (h : why ≠ 0) : Calls Tryz.prog 24 #[.string s, .int .i64 why] w fun e w' => e = .panicked (gvP why) ∧ w = w' := by
  go_enter Tryz.func24, Tryz.ntmps24
  go_wp2_with fail
  refine (for_no why _ h).mono ?_; rintro e w1 ⟨rfl, rfl⟩
  refine (show bodyPost _ _ _ (Exit.panic (gvP why)) _ _ from ?_)
  simp [bodyPost]
end Go.Proofs.YtlelpeocbgjmhaaGreatDoor

/- A block of eleven cells. -/
set_option linter.unusedVariables false
set_option linter.unusedSimpArgs false
namespace Go.Proofs.YtlelpeocbgjmhaaGreatDoor
open Go.RowKit

/-- A block of 11 cells. -/
structure Bk11 (W : World) (b : Nat) (v0 v1 v2 v3 v4 v5 v6 v7 v8 v9 v10 : Value) : Prop where
  hb : b < W.heap.size
  fz : ∀ j, W.frozen? ⟨b, j, none⟩ = false
  k0 : W.cell? ⟨b, 0, none⟩ = some v0
  k1 : W.cell? ⟨b, 1, none⟩ = some v1
  k2 : W.cell? ⟨b, 2, none⟩ = some v2
  k3 : W.cell? ⟨b, 3, none⟩ = some v3
  k4 : W.cell? ⟨b, 4, none⟩ = some v4
  k5 : W.cell? ⟨b, 5, none⟩ = some v5
  k6 : W.cell? ⟨b, 6, none⟩ = some v6
  k7 : W.cell? ⟨b, 7, none⟩ = some v7
  k8 : W.cell? ⟨b, 8, none⟩ = some v8
  k9 : W.cell? ⟨b, 9, none⟩ = some v9
  k10 : W.cell? ⟨b, 10, none⟩ = some v10
theorem Bk11.of {W w1 : World} {b : Nat} {v0 v1 v2 v3 v4 v5 v6 v7 v8 v9 v10 : Value} (k : Below W.heap.size W w1) (hb : b < W.heap.size) (hf : ∀ j, W.frozen? ⟨b, j, none⟩ = false) (h0 : W.cell? ⟨b, 0, none⟩ = some v0) (h1 : W.cell? ⟨b, 1, none⟩ = some v1) (h2 : W.cell? ⟨b, 2, none⟩ = some v2) (h3 : W.cell? ⟨b, 3, none⟩ = some v3) (h4 : W.cell? ⟨b, 4, none⟩ = some v4) (h5 : W.cell? ⟨b, 5, none⟩ = some v5) (h6 : W.cell? ⟨b, 6, none⟩ = some v6) (h7 : W.cell? ⟨b, 7, none⟩ = some v7) (h8 : W.cell? ⟨b, 8, none⟩ = some v8) (h9 : W.cell? ⟨b, 9, none⟩ = some v9) (h10 : W.cell? ⟨b, 10, none⟩ = some v10) : Bk11 w1 b v0 v1 v2 v3 v4 v5 v6 v7 v8 v9 v10 :=
  ⟨Nat.lt_of_lt_of_le hb k.size, fun j => (k.frozen (p := ⟨b, j, none⟩) hb).trans (hf j), (k.cell (p := ⟨b, 0, none⟩) hb).trans h0, (k.cell (p := ⟨b, 1, none⟩) hb).trans h1, (k.cell (p := ⟨b, 2, none⟩) hb).trans h2, (k.cell (p := ⟨b, 3, none⟩) hb).trans h3, (k.cell (p := ⟨b, 4, none⟩) hb).trans h4, (k.cell (p := ⟨b, 5, none⟩) hb).trans h5, (k.cell (p := ⟨b, 6, none⟩) hb).trans h6, (k.cell (p := ⟨b, 7, none⟩) hb).trans h7, (k.cell (p := ⟨b, 8, none⟩) hb).trans h8, (k.cell (p := ⟨b, 9, none⟩) hb).trans h9, (k.cell (p := ⟨b, 10, none⟩) hb).trans h10⟩
theorem Bk11.keep {W w1 : World} {b : Nat} {v0 v1 v2 v3 v4 v5 v6 v7 v8 v9 v10 : Value} (h : Bk11 W b v0 v1 v2 v3 v4 v5 v6 v7 v8 v9 v10) (k : Below W.heap.size W w1) : Bk11 w1 b v0 v1 v2 v3 v4 v5 v6 v7 v8 v9 v10 :=
  Bk11.of k h.hb h.fz h.k0 h.k1 h.k2 h.k3 h.k4 h.k5 h.k6 h.k7 h.k8 h.k9 h.k10
end Go.Proofs.YtlelpeocbgjmhaaGreatDoor
