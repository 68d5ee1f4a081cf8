/- Infos: the answers that the law asks for. -/
import Derived.Test.YtmnmmbeageddkaaIfQ
import Derived.Test.YtmnmmbeageddkaaIfF
import Derived.Test.YtmnmmbeageddkaaIfM
import Derived.Test.YtmnmmbeageddkaaIfE
import Derived.Test.YtmnmmbeageddkaaSsRG
import Derived.Test.YtmnmmbeageddkaaSpS
import Derived.StillTailTactics
import Derived.Test.YtmnmmbeageddkaaPairF
set_option linter.unusedVariables false
set_option linter.unusedSimpArgs false
namespace Go.Proofs.Ytmnmmbeageddkaa
open Go.RowKit Go.Sort Go.Shelf Go.Pairs

namespace If
abbrev la : List I := [(0, 5, 0, 0, BX), (5, 9, 0, 0, BY)]
abbrev lb : List I := [(5, 9, 0, 0, BY), (12, 15, 0, 0, BY)]
abbrev lc : List I := [(0, 5, 0, 0, BX), (5, 9, 0, 0, BX)]
abbrev lm : List I := [(0, 5, 0, 0, BX), (5, 9, 0, 0, BY), (12, 15, 0, 0, BY)]
end If
/-- A value that is a slice of so many. -/
theorem InV.form {w : World} {v : Value} {l : List If.I} (h : InV w v l) : ∃ u : Option Addr × Nat, v = .slice u.1 l.length u.2 ∧ InV w (.slice u.1 l.length u.2) l := by
  obtain ⟨A, c, rfl, -⟩ := id h
  exact ⟨(A, c), rfl, h⟩
theorem SpV.form {w : World} {v : Value} {l : List Ss.S} (h : SpV w v l) : ∃ u : Option Addr × Nat, v = .slice u.1 l.length u.2 ∧ SpV w (.slice u.1 l.length u.2) l := by
  obtain ⟨A, c, rfl, -⟩ := id h
  exact ⟨(A, c), rfl, h⟩
theorem patches39 (v : Value) (w : World) (h : InV w v If.lm) : Calls Try.prog 28 #[v] w fun e w' => ∃ u : Option Addr × Nat, e = .returned (.slice u.1 2 u.2) ∧ SpV w' (.slice u.1 2 u.2) [(0, 9), (12, 15)] ∧ Below w.heap.size w w' := by
  refine (seam_patches v If.lm w h (by decide)).mono ?_
  rintro e w' ⟨v, l, rfl, hv, h2, h3, -, hb⟩
  obtain rfl : l = [(0, 9), (12, 15)] := Ss.rs_lit h2 (by decide) (fun t => by rw [h3 t, Bool.eq_iff_iff]; simp [Ss.inl, Sp.hs, If.sp]; omega)
  obtain ⟨u, rfl, hu⟩ := hv.form
  exact ⟨u, rfl, hu, hb⟩
theorem missing39 (v : Value) (w : World) (h : InV w v If.lm) : Calls Try.prog 30 #[v, .agg #[.int .i64 (-1), .int .i64 13]] w fun e w' => ∃ u : Option Addr × Nat, e = .returned (.slice u.1 2 u.2) ∧ SpV w' (.slice u.1 2 u.2) [(-1, 0), (9, 12)] ∧ Below w.heap.size w w' := by
  refine (seam_missing v If.lm (-1) 13 w h (by decide)).mono ?_
  rintro e w' ⟨v, l, rfl, hv, h2, h3, -, hb⟩
  obtain rfl : l = [(-1, 0), (9, 12)] := Ss.rs_lit h2 (by decide) (fun t => by rw [h3 t, Bool.eq_iff_iff]; simp [Ss.inl, Sp.hs, If.sp]; omega)
  obtain ⟨u, rfl, hu⟩ := hv.form
  exact ⟨u, rfl, hu, hb⟩
theorem cut39 (v : Value) (w : World) (h : InV w v If.lm) : Calls Try.prog 32 #[v, .agg #[.int .i64 3, .int .i64 6]] w fun e w' => ∃ u : Option Addr × Nat, e = .returned (.slice u.1 2 u.2) ∧ InV w' (.slice u.1 2 u.2) [(3, 5, 0, 0, BX), (5, 6, 0, 0, BY)] ∧ Below w.heap.size w w' := by
  refine (seam_cut v If.lm 3 6 w h (by decide)).mono ?_
  rintro e w' ⟨v, hv, rfl, hb⟩
  rw [show If.ct 3 6 If.lm = [(3, 5, 0, 0, BX), (5, 6, 0, 0, BY)] by decide] at hv
  obtain ⟨u, rfl, hu⟩ := hv.form
  exact ⟨u, rfl, hu, hb⟩
theorem cut39n (v : Value) (w : World) (h : InV w v If.lm) : Calls Try.prog 32 #[v, .agg #[.int .i64 0, .int .i64 0]] w fun e w' => ∃ u : Option Addr × Nat, e = .returned (.slice u.1 0 u.2) ∧ Below w.heap.size w w' := by
  refine (seam_cut v If.lm 0 0 w h (by decide)).mono ?_
  rintro e w' ⟨v, hv, rfl, hb⟩
  rw [show If.ct 0 0 If.lm = [] by decide] at hv
  obtain ⟨u, rfl, hu⟩ := hv.form
  exact ⟨u, rfl, hb⟩
/-- A row of spans written out. -/
theorem spv_new {w : World} (l : List Ss.S) (cs : Array Value) (h : cs = (spc l).toArray) : SpV (w.alloc (.cells cs 32)) (.slice (some ⟨w.heap.size, 0, none⟩) l.length l.length) l := by
  refine ⟨_, _, rfl, fun _ => ⟨_, rfl, by simp, ?_⟩⟩
  intro j u hu
  have e0 : (⟨w.heap.size, 0, none⟩ : Addr).add j = ⟨w.heap.size, j, none⟩ := by unfold Addr.add; split <;> simp_all
  rw [e0, (Blk.new w 32 cs).cell j, h]
  simpa using hu
theorem inv_new {w : World} (l : List If.I) (cs : Array Value) (h : cs = (If.ifc l).toArray) : InV (w.alloc (.cells cs 36)) (.slice (some ⟨w.heap.size, 0, none⟩) l.length l.length) l := by
  subst h
  exact inv_blk rfl (Blk.new w _ _)
theorem ckI {W W' : World} {a : Addr} {v : Value} (k : Below W.heap.size W W') (h : W.cell? a = some v) : W'.cell? a = some v := (k.cell (World.block_lt_of_cell? _ _ h)).trans h
end Go.Proofs.Ytmnmmbeageddkaa
