/- Infos: slices.Grow from nothing, slices.Concat of two lists. -/
import Derived.Test.YtmnmmbeageddkaaIfE
import Derived.Test.YtmnmmbeageddkaaApL
import Derived.Lib.AppendZeros
set_option linter.unusedVariables false
set_option linter.unusedSimpArgs false
namespace Go.Proofs.Ytmnmmbeageddkaa
open Go.RowKit Go.Sort Go.Shelf

set_option maxRecDepth 100000 in
set_option maxHeartbeats 4000000 in
theorem grow_inf (n : Nat) (hn : n ≤ 1000) (w : World) :
    Calls Try.prog 65 #[.slice none 0 0, .int .i64 n] w fun e w' => ∃ v, e = .returned v ∧ w'.ownsRow w.heap.size 36 5 v 0 [] ∧ Below w.heap.size w w' := by
  obtain ⟨i0, hi, hz0, hz1, hz2⟩ := info_parts info_inf
  by_cases h0 : n = 0
  · subst h0
    go_enter Try.func65, Try.ntmps65
    go_wp2
    go_ret
    exact ⟨.slice none 0 0, rfl, World.ownsRow_nil _ _ _ _, by go_grown⟩
  · have hp : (0 : Int) < n := by omega
    have hq : (n : Int) ≤ 1000 := by omega
    have hnn : ¬ ((n : Int) < 0) := by omega
    have R := Lib.hid (Lib.run_append_nil_zeros (P := Try.prog) w 46 3 46 36 i0 (.agg #[.int .i64 0, .int .i64 0, .int .i64 0, .int .i64 0, .string ⟨#[]⟩]) .i64 .i64 Try.underlying46 Try.underlying3 hi hz0 n (by omega) (by rw [hz1]; omega) (by omega) (by rw [hz2]; omega))
    have hge := grownCap_ge w n 0 36
    have hcm : grownCap w n 0 36 ≤ maxLen := grownCap_le_maxLen w n 0 36 (by unfold maxLen; omega)
    obtain ⟨cp, hcp⟩ : ∃ cp, grownCap w n 0 36 = cp := ⟨_, rfl⟩
    rw [hcp] at R hge hcm
    obtain ⟨cs, hcs⟩ : ∃ cs, Builtin.zeroCells (Value.agg #[.int .i64 0, .int .i64 0, .int .i64 0, .int .i64 0, .string ⟨#[]⟩]).cells n ++ Builtin.zeroCells (Value.agg #[.int .i64 0, .int .i64 0, .int .i64 0, .int .i64 0, .string ⟨#[]⟩]).cells (cp - n) = cs := ⟨_, rfl⟩
    rw [hcs] at R
    have hsz : cs.size = cp * 5 := by
      rw [← hcs, Array.size_append, size_zeroCells, size_zeroCells, show (Value.agg #[.int .i64 0, .int .i64 0, .int .i64 0, .int .i64 0, .string ⟨#[]⟩]).cells.size = 5 from rfl, ← Nat.add_mul]
      congr 1
      omega
    have Q := Lib.hid (And.intro hsz (And.intro hge hcm))
    clear hsz hge hcm hcp hcs
    go_enter Try.func65, Try.ntmps65
    go_wp2_with (at_builtin; refine Lib.wpList_append_run _ rfl _ _ _ _ rfl _ _ rfl rfl _ _ R.out ?_)
    go_ret
    obtain ⟨hsz, hge, hcm⟩ := Q.out
    exact ⟨.slice (some ⟨w.heap.size, 0, none⟩) 0 cp, rfl, ⟨rfl, .inr ⟨w.heap.size, cp, cs, rfl, Nat.le_refl _, heap_alloc_new w.drew _, Nat.zero_le _, hcm, hsz, by simp⟩⟩, ((Below.refl _ _).drew).alloc (Nat.le_refl _) _⟩
set_option maxRecDepth 100000 in
set_option maxHeartbeats 8000000 in
theorem concat_inf (va vb : Value) (a b : List If.I) (g : Nat) (w : World) (h : InV w va a) (k : InV w vb b) (ha : a.length ≤ 100) (hb : b.length ≤ 100) (hg : Blk w g 46 #[va, vb]) :
    Calls Try.prog 47 #[.slice (some ⟨g, 0, none⟩) 2 2] w fun e w' => ∃ v, e = .returned v ∧ w'.ownsRow w.heap.size 36 5 v (a ++ b).length (If.ifc (a ++ b)) ∧ Below w.heap.size w w' := by
  obtain ⟨i0, hi, hz0, hz1, hz2⟩ := info_parts info_inf
  obtain ⟨A, c, rfl, -⟩ := id h
  obtain ⟨B, d, rfl, -⟩ := id k
  have H := Lib.hid h; have K := Lib.hid k; have HG := Lib.hid hg
  clear h k hg
  obtain ⟨n, hn⟩ : ∃ n, a.length = n := ⟨_, rfl⟩
  obtain ⟨m, hm⟩ : ∃ m, b.length = m := ⟨_, rfl⟩
  rw [hn] at H HG ha; rw [hm] at K HG hb
  have HN := Lib.hid hn; have HM := Lib.hid hm
  clear hn hm
  have c0 := HG.out.c0; have c1 := HG.out.c1
  go_enter Try.func47, Try.ntmps47
  go_wp2_with fail
  refine wp_loop_rounds 3 ?_
  rw [rounds_succ]
  go_wp2_with fail
  rw [rounds_succ]
  go_wp2_with fail
  rw [rounds_succ]
  go_wp2_with fail
  rw [show ((n : Int) + (m : Int)) = ((n + m : Nat) : Int) by omega]
  refine (grow_inf (n + m) (by omega) _).mono ?_
  rintro e w1 ⟨v1, rfl, o1, b1⟩
  obtain ⟨A1, c1', rfl⟩ := po_form o1
  have O1 := Lib.hid o1; have B1 := Lib.hid b1
  have G1 := Lib.hid (HG.out.on b1)
  clear o1 b1 c0 c1
  have c0 := G1.out.c0; have c1 := G1.out.c1
  go_wp2_with fail
  refine wp_loop_rounds 3 ?_
  rw [rounds_succ]
  go_wp2_with (at_builtin; refine wpList_append_lst rfl _ _ 46 rfl w.heap.size 36 i0 (.agg #[.int .i64 0, .int .i64 0, .int .i64 0, .int .i64 0, .string ⟨#[]⟩]) 5 48 Try.underlying46 hi hz0 hz1 hz2 rfl (by decide) _ 0 [] rfl O1.out _ n _ (If.ifc a) rfl (show Lst w1 w1.heap.size (.slice A n c) n (If.ifc a) from by have := H.out.on B1.out; unfold InV at this; rw [HN.out] at this; exact this) (by rw [If.ifc_len, HN.out]) (If.ifc_one a) (by unfold maxLen; omega) (by omega) B1.out.size ?_)
  intro v2 w2 own2 grow2
  obtain ⟨A2, c2', rfl⟩ := po_form own2
  have b2 : Below w.heap.size w w2 := B1.out.trans (below_grown grow2 B1.out.size (own_row O1.out))
  have O2 := Lib.hid (show w2.ownsRow w.heap.size 36 5 (.slice A2 n c2') n (If.ifc a) by simpa using own2)
  have B2 := Lib.hid b2
  have G2 := Lib.hid (HG.out.on b2)
  clear own2 grow2 O1 B1 G1 c0 c1 b2
  have c0 := G2.out.c0; have c1 := G2.out.c1
  go_wp2_with fail
  rw [rounds_succ]
  go_wp2_with (at_builtin; refine wpList_append_lst rfl _ _ 46 rfl w.heap.size 36 i0 (.agg #[.int .i64 0, .int .i64 0, .int .i64 0, .int .i64 0, .string ⟨#[]⟩]) 5 48 Try.underlying46 hi hz0 hz1 hz2 rfl (by decide) _ n _ rfl O2.out _ m _ (If.ifc b) rfl (show Lst w2 w2.heap.size (.slice B m d) m (If.ifc b) from by have := K.out.on B2.out; unfold InV at this; rw [HM.out] at this; exact this) (by rw [If.ifc_len, HM.out]) (If.ifc_one b) (by unfold maxLen; omega) (by omega) B2.out.size ?_)
  intro v3 w3 own3 grow3
  obtain ⟨A3, c3', rfl⟩ := po_form own3
  have B3 := Lib.hid (show Below w.heap.size w w3 from B2.out.trans (below_grown grow3 B2.out.size (own_row O2.out)))
  have O3 := Lib.hid (show w3.ownsRow w.heap.size 36 5 (.slice A3 (n + m) c3') (a ++ b).length (If.ifc (a ++ b)) by rw [If.ifc_app, List.length_append, HN.out, HM.out]; exact own3)
  clear own3 grow3 O2 B2 G2 c0 c1
  go_wp2_with fail
  rw [rounds_succ]
  go_wp2_with fail
  go_ret
  exact ⟨_, rfl, O3.out, B3.out⟩
end Go.Proofs.Ytmnmmbeageddkaa
