/- Infos: their spans; patches, and what is missing: the contracts of both, as sets; two lists that are one. -/
import Derived.Test.YtmnmmbeageddkaaIfL
import Derived.Test.YtmnmmbeageddkaaSsD
import Derived.Test.YtmnmmbeageddkaaSrD
import Derived.Test.YtmnmmbeageddkaaPairF
set_option linter.unusedVariables false
set_option linter.unusedSimpArgs false
namespace Go.Proofs.Ytmnmmbeageddkaa
open Go.RowKit Go.Sort Go.Shelf Go.Pairs

namespace If
def sp (p : I) : Int × Int := (p.1, p.2.1)
theorem sp_take (l : List I) (k : Nat) (h : k < l.length) : (l.take (k + 1)).map sp = (l.take k).map sp ++ [sp l[k]] := by
  rw [List.take_succ_eq_append_getElem h, List.map_append]; rfl
end If
set_option maxRecDepth 100000 in
set_option maxHeartbeats 4000000 in
theorem seam_spans (v : Value) (l : List If.I) (w : World) (h : InV w v l) (hm : l.length ≤ 100000) :
    Calls Try.prog 55 #[v] w (AnsS (l.map If.sp) w) := by
  obtain ⟨i0, hi, hz0, hz1, hz2⟩ := info_parts info_span
  have H := Lib.hid h
  obtain ⟨A, c, rfl, -⟩ := h
  obtain ⟨n, hn⟩ : ∃ n, l.length = n := ⟨_, rfl⟩
  rw [hn] at hm H ⊢
  have HN := Lib.hid hn
  have O0 := Lib.hid (World.ownsRow_nil w w.heap.size 32 2)
  clear hn
  go_enter Try.func55, Try.ntmps55
  go_wp2
  go_loopw [3, 8] (fun u i wr => ∃ (k : Nat), k ≤ n ∧ i = .int .i64 k ∧ Hid (wr.ownsRow w.heap.size 32 2 u ((l.take k).map If.sp).length (spc ((l.take k).map If.sp))) ∧ Hid (Below w.heap.size w wr)) (fun _ i _ => n - (intOf i).toNat)
  case atStart => exact ⟨0, Nat.zero_le _, rfl, O0, Lib.hid (Below.refl _ _)⟩
  case round =>
    rename World => w2
    obtain ⟨k, hk, rfl, O, B⟩ := hrel
    by_cases hlt : k < n
    · have hkl : k < l.length := by rw [HN.out]; exact hlt
      obtain ⟨a, rfl, hab, g1, g2, g3, g4, g5⟩ := (H.out.on B.out).get k hkl
      have T := Lib.hid (If.sp_take l k hkl)
      have hlen : ((l.take k).map If.sp).length ≤ 100000 := by rw [List.length_map, List.length_take]; omega
      generalize hp : l[k] = p at *
      obtain ⟨x0, x1, x2, x3, x4⟩ := p
      dsimp only at g1 g2 g3 g4 g5
      clear hp
      have i1 : (k : Int) < n := by omega
      generalize (l.take k).map If.sp = r at *
      have P2 := Lib.hid (Blk.new w2 36 #[.int .i64 x0, .int .i64 x1, .int .i64 x2, .int .i64 x3, .string x4])
      have O2 := Lib.hid (O.out.alloc (.cells #[.int .i64 x0, .int .i64 x1, .int .i64 x2, .int .i64 x3, .string x4] 36))
      have B2 := Lib.hid (B.out.alloc B.out.size (.cells #[.int .i64 x0, .int .i64 x1, .int .i64 x2, .int .i64 x3, .string x4] 36))
      have c0 := P2.out.c0; have c1 := P2.out.c1
      clear O B
      go_wp2_with (at_builtin; refine wpList_append_own _ rfl _ _ 57 rfl w.heap.size 32 i0 (.agg #[.int .i64 0, .int .i64 0]) 2 16 Try.underlying57 hi hz0 hz1 hz2 rfl (by decide) _ _ _ rfl (O2.out.alloc _) ⟨w2.heap.size + 1, 0, none⟩ 1 1 [.int .i64 x0, .int .i64 x1] rfl rfl (two_cells (by simp [go_sem]) (by simp [go_sem])) (by intro u hu; simp at hu; rcases hu with rfl | rfl <;> rfl) (by unfold maxLen; omega) (by omega) (by have := B2.out.size; simp at this; simp; omega) ?_)
      intro v6 w6 own6 grow6 _
      have B6 := Lib.hid (show Below w.heap.size w w6 from ((B2.out.alloc B2.out.size _).trans (below_grown grow6 (by have := B2.out.size; simp at this; simp; omega) (own_row O2.out))))
      have O6 := Lib.hid own6
      clear own6 grow6 O2 B2 P2 c0 c1
      go_wp2
      go_roundw
      case rel => exact ⟨k + 1, by omega, by go_num, Lib.hid (by rw [T.out, spc_app, List.length_append]; exact O6.out), B6⟩
      case measure => simp [intOf]; omega
    · have E2 : l.take k = l := List.take_of_length_le (by rw [HN.out]; omega)
      rw [E2] at O
      obtain ⟨A2, c2, rfl⟩ := po_form O.out
      have O2 := Lib.hid (SpV.own O.out)
      clear E2 O
      go_wp2
      go_ret
      exact ⟨_, O2.out, rfl, B.out⟩
set_option maxRecDepth 100000 in
set_option maxHeartbeats 2000000 in
theorem seam_patches (v : Value) (l : List If.I) (w : World) (h : InV w v l) (hm : l.length ≤ 1000) :
    Calls Try.prog 28 #[v] w (AnsK (fun x y => x || y) (l.map If.sp) [] w) := by
  have H := Lib.hid h
  obtain ⟨A, c, rfl, -⟩ := h
  have HM := Lib.hid hm
  have HL := Lib.hid (show (l.map If.sp).length ≤ 1000 by rw [List.length_map]; exact hm)
  clear hm
  go_enter Try.func28, Try.ntmps28
  go_wp2_with fail
  refine (seam_spans _ l _ H.out (by have := HM.out; omega)).mono ?_
  rintro e w1 ⟨v1, h1, rfl, b1⟩
  obtain ⟨A1, c1, hv, -⟩ := id h1
  subst hv
  rw [List.length_map] at h1
  have S1 := Lib.hid h1; have B1 := Lib.hid b1
  clear h1 b1
  go_wp2_with fail
  refine (spans_of _ (l.map If.sp) _ S1.out HL.out).mono ?_
  rintro e w2 ⟨v2, l2, rfl, h1, h2, h3, h4, b2⟩
  have Q := Lib.hid (And.intro h1 (And.intro h2 (And.intro h3 (And.intro h4 (below_step B1.out b2)))))
  obtain ⟨A2, c2, hv, -⟩ := h1
  subst hv
  clear h2 h3 h4 b2
  go_wp2
  go_ret
  exact ⟨_, l2, rfl, Q.out⟩
end Go.Proofs.Ytmnmmbeageddkaa
