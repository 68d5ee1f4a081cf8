/- The contracts of clock.Read and clock.Text; the answers that noontidelaw19.lives asks for. -/
import Derived.Test.YtafnnnbefabofaaDoorClC
set_option linter.unusedVariables false
set_option linter.unusedSimpArgs false
namespace Go.Proofs.YtafnnnbefabofaaDoor
open Go.RowKit Go.Sort

namespace Cl
/-- What a text means: the second, the clock, the error's number. -/
def rd (s : ByteArray) : Int × Int × Int := if (Am.rd (cutL s).1).2 ≠ 0 then (0, 0, (Am.rd (cutL s).1).2) else if rB (Am.rd (cutL s).1).1 (cutL s).2 = false then (0, 0, 1) else ((Am.rd (cutL s).1).1, (cutL s).2, 0)
def sg (b : Int) : ByteArray := if b = 1 then ⟨#[115]⟩ else ⟨#[117]⟩
def tx (n b : Int) : ByteArray × Int := if rB n b = false then (⟨#[]⟩, 4) else if b = 0 then ((Am.tx n).1, 0) else ((Am.tx n).1 ++ sg b, 0)
theorem cutL_size (s : ByteArray) : (cutL s).1.size ≤ s.size := by
  unfold cutL
  split
  · split
    · exact Nat.le_refl _
    · rw [ByteArray.size_extract]; omega
  · exact Nat.le_refl _
end Cl
def MX (y : Int) (W : World) : Prop := W.cell? ⟨5, 0, none⟩ = some (.int .i64 y)
set_option maxHeartbeats 4000000 in
set_option maxRecDepth 100000 in
theorem clread_any (s : ByteArray) (w : World) (y : Int) (hs : s.size < 4294967281) (T : Cl.Tab w) (hm : w.cell? ⟨5, 0, none⟩ = some (.int .i64 y)) :
    Calls Tryd.prog 16 #[.string s] w fun e w' => e = .returned (.tuple #[.agg #[.int .i64 (Cl.rd s).1, .int .i64 (Cl.rd s).2.1], .int .i64 (Cl.rd s).2.2]) ∧ Below w.heap.size w w' := by
  have CC := Lib.hid (fun W h => clcut_any s W h (by unfold maxLen; omega))
  have CA := Lib.hid (fun W h => aread_any (Cl.cutL s).1 W y (Nat.lt_of_le_of_lt (Cl.cutL_size s) hs) h)
  have hmf : ∀ (fn : Fn) (first cap : Array Value) (w : World), (Instr.makeFunc fn first cap).run Tryd.prog w = .ok (.func fn first cap) w := fun _ _ _ _ => rfl
  have b0 : Below w.heap.size w ((w.alloc (.cells #[.string s] 9)).alloc (.cells #[.int .i64 0, .int .i64 0] 23)) := ((Below.refl _ _).alloc (Nat.le_refl _) _).alloc (by simp) _
  have c0 : ((w.alloc (.cells #[.string s] 9)).alloc (.cells #[.int .i64 0, .int .i64 0] 23)).cell? ⟨w.heap.size, 0, none⟩ = some (.string s) := by simp [go_sem]
  have l0 : w.heap.size < ((w.alloc (.cells #[.string s] 9)).alloc (.cells #[.int .i64 0, .int .i64 0] 23)).heap.size := by simp <;> omega
  have T1 := T.on b0
  have M1 := Lib.hid (ckm b0 hm)
  obtain ⟨ans, hans⟩ : ∃ ans, ans = Cl.rd s := ⟨_, rfl⟩
  rw [← hans]
  unfold Cl.rd at hans
  generalize Cl.cutL s = p at *
  obtain ⟨t, b⟩ := p
  dsimp only at *
  generalize Am.rd t = r at *
  obtain ⟨n, q⟩ := r
  dsimp only at *
  have KC : ∀ W, Below ((w.alloc (.cells #[.string s] 9)).alloc (.cells #[.int .i64 0, .int .i64 0] 23)).heap.size ((w.alloc (.cells #[.string s] 9)).alloc (.cells #[.int .i64 0, .int .i64 0] 23)) W → W.cell? ⟨w.heap.size, 0, none⟩ = some (.string s) ∧ Cl.Tab W ∧ Hid (W.cell? ⟨5, 0, none⟩ = some (.int .i64 y)) := fun W k => ⟨(k.cell (p := ⟨w.heap.size, 0, none⟩) l0).trans c0, T1.on k, ckm k M1.out⟩
  by_cases hq : q = 0
  · subst hq
    rw [if_neg (by simp)] at hans
    cases hr : Cl.rB n b
    · rw [if_pos hr] at hans
      have e := Lib.hid hans
      have CG := Lib.hid (acaught_no 81 #[.pointer (some ⟨w.heap.size, 0, none⟩)] (fun _ => rfl) 0 1 ((w.alloc (.cells #[.string s] 9)).alloc (.cells #[.int .i64 0, .int .i64 0] 23)) (fun W k => by obtain ⟨k1, k2, k3⟩ := KC W k; exact clin_far s t b n y W w.heap.size k1 CC k2 k3 CA hr))
      clear hans hr KC T1 c0 l0 CC CA hm T
      go_enter Tryd.func16, Tryd.ntmps16
      go_wp2_with fail
      refine CG.out.mono ?_; rintro e w1 ⟨rfl, b1⟩
      have B1 := Lib.hid (below_step b0 b1)
      have P1 : Bk2 w1 (w.heap.size + 1) (.int .i64 0) (.int .i64 0) := Bk2.of b1 (by simp <;> omega) (by intro j; simp [go_sem]) (by simp [go_sem]) (by simp [go_sem])
      have hz := B1.out.size
      clear b1
      have p_b := P1.hb; have p_f := P1.fz; have p_0 := P1.k0; have p_1 := P1.k1
      clear P1
      go_wp2_with fail
      refine bodyPost_ret (v := .tuple #[.agg #[.int .i64 0, .int .i64 0], .int .i64 1]) (by simp [results, Tryd.results16, go_sem, p_b, p_f, p_0, p_1]) rfl ⟨by rw [e.out], ?_⟩
      clear p_b p_f p_0 p_1
      repeat (refine Below.setCell ?_ (by first | omega | (simp; done) | (simp; omega)) _)
      exact B1.out
    · rw [if_neg (by rw [hr]; decide)] at hans
      have e := Lib.hid hans
      have CG := Lib.hid (acaught_yes 81 #[.pointer (some ⟨w.heap.size, 0, none⟩)] (fun _ => rfl) n b ((w.alloc (.cells #[.string s] 9)).alloc (.cells #[.int .i64 0, .int .i64 0] 23)) (fun W k => by obtain ⟨k1, k2, k3⟩ := KC W k; exact clin_yes s t b n y W w.heap.size k1 CC k2 k3 CA hr))
      clear hans hr KC T1 c0 l0 CC CA hm T
      go_enter Tryd.func16, Tryd.ntmps16
      go_wp2_with fail
      refine CG.out.mono ?_; rintro e w1 ⟨rfl, b1⟩
      have B1 := Lib.hid (below_step b0 b1)
      have P1 : Bk2 w1 (w.heap.size + 1) (.int .i64 0) (.int .i64 0) := Bk2.of b1 (by simp <;> omega) (by intro j; simp [go_sem]) (by simp [go_sem]) (by simp [go_sem])
      have hz := B1.out.size
      clear b1
      have p_b := P1.hb; have p_f := P1.fz; have p_0 := P1.k0; have p_1 := P1.k1
      clear P1
      go_wp2_with fail
      refine bodyPost_ret (v := .tuple #[.agg #[.int .i64 n, .int .i64 b], .int .i64 0]) (by simp [results, Tryd.results16, go_sem, p_b, p_f, p_0, p_1]) rfl ⟨by rw [e.out], ?_⟩
      clear p_b p_f p_0 p_1
      repeat (refine Below.setCell ?_ (by first | omega | (simp; done) | (simp; omega)) _)
      exact B1.out
  · rw [if_pos hq] at hans
    have e := Lib.hid hans
    have CG := Lib.hid (acaught_no 81 #[.pointer (some ⟨w.heap.size, 0, none⟩)] (fun _ => rfl) 0 q ((w.alloc (.cells #[.string s] 9)).alloc (.cells #[.int .i64 0, .int .i64 0] 23)) (fun W k => by obtain ⟨k1, k2, k3⟩ := KC W k; exact clin_why s t b n y W w.heap.size k1 CC k2 k3 q hq CA))
    clear hans hq KC T1 c0 l0 CC CA hm T
    go_enter Tryd.func16, Tryd.ntmps16
    go_wp2_with fail
    refine CG.out.mono ?_; rintro e w1 ⟨rfl, b1⟩
    have B1 := Lib.hid (below_step b0 b1)
    have P1 : Bk2 w1 (w.heap.size + 1) (.int .i64 0) (.int .i64 0) := Bk2.of b1 (by simp <;> omega) (by intro j; simp [go_sem]) (by simp [go_sem]) (by simp [go_sem])
    have hz := B1.out.size
    clear b1
    have p_b := P1.hb; have p_f := P1.fz; have p_0 := P1.k0; have p_1 := P1.k1
    clear P1
    go_wp2_with fail
    refine bodyPost_ret (v := .tuple #[.agg #[.int .i64 0, .int .i64 0], .int .i64 q]) (by simp [results, Tryd.results16, go_sem, p_b, p_f, p_0, p_1]) rfl ⟨by rw [e.out], ?_⟩
    clear p_b p_f p_0 p_1
    repeat (refine Below.setCell ?_ (by first | omega | (simp; done) | (simp; omega)) _)
    exact B1.out
end Go.Proofs.YtafnnnbefabofaaDoor
