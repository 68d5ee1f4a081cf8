/- The contract of the reference's Read. -/
import Derived.Test.YtafnnnbefabofaaDoorRnD
set_option linter.unusedVariables false
set_option linter.unusedSimpArgs false
namespace Go.Proofs.YtafnnnbefabofaaDoor
open Go.RowKit

theorem rread_nil (w : World) :
    Calls Tryd.prog 32 #[.string ⟨#[]⟩] w fun e w' => e = .returned (.tuple #[.int .i64 0, .int .i64 2]) ∧ w = w' := by
  have CD := Lib.hid (fun W => rdigs_nil W)
  go_enter Tryd.func32, Tryd.ntmps32
  go_wp2_with fail
  refine (CD.out _).mono ?_; rintro e w1 ⟨rfl, rfl⟩
  go_wp2_with fail
  go_ret2
  exact ⟨rfl, rfl⟩
theorem rread_mz (w : World) :
    Calls Tryd.prog 32 #[.string ⟨#[45, 48]⟩] w fun e w' => e = .returned (.tuple #[.int .i64 0, .int .i64 2]) ∧ w = w' := by
  have CD := Lib.hid (fun W => rdigs_ne ⟨#[48]⟩ W (by decide) (by decide))
  have IX : ∀ W, Sem.run Tryd.prog (Instr.index 9 (.string ⟨#[45, 48]⟩) (.int .i64 0)) W = .ok (.int .u8 45) W := fun W => rn_ix ⟨#[45, 48]⟩ 0 (by decide) W
  have sl : ∀ W, Sem.run Tryd.prog (Instr.slice 9 (.string ⟨#[45, 48]⟩) (some (.int .i64 1)) none none) W = .ok (.string ⟨#[48]⟩) W := fun W => rn_cut ⟨#[45, 48]⟩ 1 (by decide) W
  go_enter Tryd.func32, Tryd.ntmps32
  go_wp2_with fail
  refine (CD.out _).mono ?_; rintro e w1 ⟨rfl, rfl⟩
  go_wp2_with fail
  go_ret2
  exact ⟨rfl, rfl⟩
theorem rread_yno (s d : ByteArray) (c x : Int) (g : Bool) (w : World) (ls : 1 ≤ (s.size : Int)) (lm : s.size ≤ 1000) (ld : (d.size : Int) + 1 = (s.size : Int)) (IX : (∀ W, Sem.run Tryd.prog (Instr.index 9 (.string s) (.int .i64 0)) W = .ok (.int .u8 c) W)) (hc : (c == 45) = true) (sl : (∀ W, Sem.run Tryd.prog (Instr.slice 9 (.string s) (some (.int .i64 1)) none none) W = .ok (.string d) W)) (CD : Hid (∀ W, Calls Tryd.prog 98 #[.string d] W fun e w' => e = .returned (.bool g) ∧ W = w')) (hg : g = false) :
    Calls Tryd.prog 32 #[.string s] w fun e w' => e = .returned (.tuple #[.int .i64 0, .int .i64 2]) ∧ w = w' := by
  subst hg
  go_enter Tryd.func32, Tryd.ntmps32
  go_wp2_with fail
  refine (CD.out _).mono ?_; rintro e w1 ⟨rfl, rfl⟩
  go_wp2_with fail
  go_ret2
  exact ⟨rfl, rfl⟩
theorem rread_yzero (s d : ByteArray) (c x : Int) (g : Bool) (w : World) (ls : 1 ≤ (s.size : Int)) (lm : s.size ≤ 1000) (ld : (d.size : Int) + 1 = (s.size : Int)) (IX : (∀ W, Sem.run Tryd.prog (Instr.index 9 (.string s) (.int .i64 0)) W = .ok (.int .u8 c) W)) (hc : (c == 45) = true) (sl : (∀ W, Sem.run Tryd.prog (Instr.slice 9 (.string s) (some (.int .i64 1)) none none) W = .ok (.string d) W)) (CD : Hid (∀ W, Calls Tryd.prog 98 #[.string d] W fun e w' => e = .returned (.bool g) ∧ W = w')) (ID : (∀ W, Sem.run Tryd.prog (Instr.index 9 (.string d) (.int .i64 0)) W = .ok (.int .u8 x) W)) (hg : g = true) (h1 : 1 < (d.size : Int)) (hx : (x == 48) = true) :
    Calls Tryd.prog 32 #[.string s] w fun e w' => e = .returned (.tuple #[.int .i64 0, .int .i64 2]) ∧ w = w' := by
  subst hg
  go_enter Tryd.func32, Tryd.ntmps32
  go_wp2_with fail
  refine (CD.out _).mono ?_; rintro e w1 ⟨rfl, rfl⟩
  go_wp2_with fail
  go_ret2
  exact ⟨rfl, rfl⟩
theorem rread_yfar (s d : ByteArray) (c x : Int) (g : Bool) (w : World) (ls : 1 ≤ (s.size : Int)) (lm : s.size ≤ 1000) (ld : (d.size : Int) + 1 = (s.size : Int)) (IX : (∀ W, Sem.run Tryd.prog (Instr.index 9 (.string s) (.int .i64 0)) W = .ok (.int .u8 c) W)) (hc : (c == 45) = true) (sl : (∀ W, Sem.run Tryd.prog (Instr.slice 9 (.string s) (some (.int .i64 1)) none none) W = .ok (.string d) W)) (CD : Hid (∀ W, Calls Tryd.prog 98 #[.string d] W fun e w' => e = .returned (.bool g) ∧ W = w')) (ID : (∀ W, Sem.run Tryd.prog (Instr.index 9 (.string d) (.int .i64 0)) W = .ok (.int .u8 x) W)) (hg : g = true) (h1 : 19 < (d.size : Int)) (hx : (x == 48) = false) (hs : (s.toList == [45, 48]) = false) :
    Calls Tryd.prog 32 #[.string s] w fun e w' => e = .returned (.tuple #[.int .i64 0, .int .i64 1]) ∧ w = w' := by
  subst hg
  go_enter Tryd.func32, Tryd.ntmps32
  go_wp2_with fail
  refine (CD.out _).mono ?_; rintro e w1 ⟨rfl, rfl⟩
  go_wp2_with fail
  go_ret2
  exact ⟨rfl, rfl⟩
theorem rread_nno (s : ByteArray) (c : Int) (g : Bool) (w : World) (ls : 1 ≤ (s.size : Int)) (lm : s.size ≤ 1000) (IX : (∀ W, Sem.run Tryd.prog (Instr.index 9 (.string s) (.int .i64 0)) W = .ok (.int .u8 c) W)) (hc : (c == 45) = false) (CD : Hid (∀ W, Calls Tryd.prog 98 #[.string s] W fun e w' => e = .returned (.bool g) ∧ W = w')) (hg : g = false) :
    Calls Tryd.prog 32 #[.string s] w fun e w' => e = .returned (.tuple #[.int .i64 0, .int .i64 2]) ∧ w = w' := by
  subst hg
  go_enter Tryd.func32, Tryd.ntmps32
  go_wp2_with fail
  refine (CD.out _).mono ?_; rintro e w1 ⟨rfl, rfl⟩
  go_wp2_with fail
  go_ret2
  exact ⟨rfl, rfl⟩
theorem rread_nzero (s : ByteArray) (c : Int) (g : Bool) (w : World) (ls : 1 ≤ (s.size : Int)) (lm : s.size ≤ 1000) (IX : (∀ W, Sem.run Tryd.prog (Instr.index 9 (.string s) (.int .i64 0)) W = .ok (.int .u8 c) W)) (hc : (c == 45) = false) (CD : Hid (∀ W, Calls Tryd.prog 98 #[.string s] W fun e w' => e = .returned (.bool g) ∧ W = w'))  (hg : g = true) (h1 : 1 < (s.size : Int)) (hx : (c == 48) = true) :
    Calls Tryd.prog 32 #[.string s] w fun e w' => e = .returned (.tuple #[.int .i64 0, .int .i64 2]) ∧ w = w' := by
  subst hg
  go_enter Tryd.func32, Tryd.ntmps32
  go_wp2_with fail
  refine (CD.out _).mono ?_; rintro e w1 ⟨rfl, rfl⟩
  go_wp2_with fail
  go_ret2
  exact ⟨rfl, rfl⟩
theorem rread_nfar (s : ByteArray) (c : Int) (g : Bool) (w : World) (ls : 1 ≤ (s.size : Int)) (lm : s.size ≤ 1000) (IX : (∀ W, Sem.run Tryd.prog (Instr.index 9 (.string s) (.int .i64 0)) W = .ok (.int .u8 c) W)) (hc : (c == 45) = false) (CD : Hid (∀ W, Calls Tryd.prog 98 #[.string s] W fun e w' => e = .returned (.bool g) ∧ W = w'))  (hg : g = true) (h1 : 19 < (s.size : Int)) (hx : (c == 48) = false) (hs : (s.toList == [45, 48]) = false) :
    Calls Tryd.prog 32 #[.string s] w fun e w' => e = .returned (.tuple #[.int .i64 0, .int .i64 1]) ∧ w = w' := by
  subst hg
  go_enter Tryd.func32, Tryd.ntmps32
  go_wp2_with fail
  refine (CD.out _).mono ?_; rintro e w1 ⟨rfl, rfl⟩
  go_wp2_with fail
  go_ret2
  exact ⟨rfl, rfl⟩
end Go.Proofs.YtafnnnbefabofaaDoor

