/- TopRowsUptoCardSaid: whatever is handed in, of bulk at most 1048576, the law answers true, and what was handed in reads as it did; the listed variables are tied to the program's text. The condition: the bulk. -/
import Derived.Test.YtnkmpchonlajpaaDoorRows
import Derived.Test.YtnkmpchonlajpaaDoorCards
import Derived.Test.YtnkmpchonlajpaaDoorTie
import Derived.Test.YtnkmpchonlajpaaDoorTrW
import Derived.Test.YtnkmpchonlajpaaDoorUpR
import Derived.WalkKit
import Derived.ProofKit
import Derived.LaidMore
import Derived.OpenShut
import Derived.ShutString
import Derived.ChangeOld
import Derived.Below
import Derived.Lib.SmallJoins
import Derived.Lib.LaidTab
import Derived.Stop.LaidErr
import Derived.Stop.Joined
import Derived.SevenTiedAt
import Derived.Deep.DeepHandedRow
import Derived.Lay
set_option linter.unusedVariables false
set_option linter.unusedSimpArgs false
namespace Go.Proofs.YtnkmpchonlajpaaDoor.lawTopRows
open Go Go.ChangeShapes Go.WideShapes Go.ChangeAt Go.RowKit Go.Joins
open Go.ChangeMaps (open_string shut_string)

theorem own : ownKnob Tryd.prog.godebug = none := by kernel_rfl
theorem laidOut : laidOutB Tryd.prog = true := by kernel_rfl
theorem bound {x : Int} (h : (Lit.int .i64 x).wf = true) : -9223372036854775808 ≤ x ∧ x ≤ 9223372036854775807 := by
  simp [Lit.wf, IntKind.min, IntKind.max, IntKind.signed, IntKind.bits] at h
  exact ⟨by omega, by omega⟩
theorem laid_all (os : Os) : laidMetH Tryd.prog Rows.topRowsUptoRow.laid ((World.laidAll Tryd.prog os Rows.topRowsUptoRow.laid).forCall (fun _ _ => 0) ⟨#[], #[.slice none 0 0], []⟩).memory := by
  rw [MakeChecks.laidMetH_plain _ _ _ (by kernel_rfl)]
  exact laidMet_laidAll _ (by kernel_rfl) (by kernel_rfl)
theorem ok_all (os : Os) : Input.okWideB Tryd.prog ((World.laidAll Tryd.prog os Rows.topRowsUptoRow.laid).forCall (fun _ _ => 0) ⟨#[], #[.slice none 0 0], []⟩) 4 ⟨#[], #[.slice none 0 0], []⟩ = true := by kernel_rfl
theorem reads (os : Os) {H : Type} (enc : TypeId × Value → H) : ∃ places, DataW.whole enc Tryd.prog ((World.laidAll Tryd.prog os Rows.topRowsUptoRow.laid).forCall (fun _ _ => 0) ⟨#[], #[.slice none 0 0], []⟩).memory Tryd.f4.params.toList Rows.topRowsSpec.vars false #[Value.slice none 0 0].toList 8 = some ([.nil], [], places) :=
  ⟨[], by kernel_rfl⟩
set_option maxRecDepth 100000 in
theorem lifted (os : Os) (started : os.Started) (H : Type) (enc : TypeId × Value → H) (F : Stop.Interp) :
    ReturnsInHanded {} Tryd.checked os 4 .any ((Rows.OpenSpec.upto Rows.topRowsSpec).preRow enc Tryd.prog Tryd.f4 Rows.topRowsUptoRow.domain false Rows.topRowsUptoRow.laid) (((Rows.OpenSpec.upto Rows.topRowsSpec).at F).post enc Tryd.prog Tryd.f4 false true false false) := by
  obtain ⟨places, hx⟩ := reads os enc
  refine returnsInHanded_of_calls (C := Tryd.checked) own started (by kernel_rfl)
    ⟨World.laidAll Tryd.prog os Rows.topRowsUptoRow.laid, fun _ _ => 0, ⟨#[], #[.slice none 0 0], []⟩, World.laidAll_os _ _ _, World.shaped_of_ZipB (by kernel_rfl) (by kernel_rfl), (Input.okWide_of_okWideB (base := 0) (ok_all os)).1, (Input.okWide_of_okWideB (ok_all os)).2,
      OpenSpec.preRow_of_cond 8 hx (by kernel_rfl) (fun k hk => by cases hk; kernel_rfl) (by kernel_rfl) (laid_all os), by
        simp only [Assume.holds]
        exact ⟨by simp, by simp, fun _ => Modest.zero, by simp, by simp⟩⟩ ?_
  intro w0 tape inp _ hsh _ hok hpre _
  obtain ⟨_, _, _, fn1, hfn1, _, _, _, _, hval1⟩ := hok
  obtain rfl : fn1 = Tryd.f4 := Option.some.inj (hfn1.symm.trans Tryd.func4)
  obtain ⟨⟨hp0, hL0⟩, _⟩ := hpre
  obtain ⟨ds, gs, before, hW0, _, hcond⟩ := OpenSpec.pre_parts hp0
  have hk0 : Rows.uptoSmall H (ds ++ gs) = true := hcond _ rfl
  have hW1 := DataW.Whole.of_heap (w' := w0.forCall tape inp) (by rfl) hW0
  have hL1 : laidMetH Tryd.prog Rows.topRowsUptoRow.laid (w0.forCall tape inp) := hL0.of_heap (by rfl)
  obtain ⟨mx, hmx1⟩ := Tryd.laysM146.s1_3 _ hsh
  obtain ⟨W, hWd⟩ : ∃ W, W = w0.forCall tape inp := ⟨_, rfl⟩
  obtain ⟨args, hAd⟩ : ∃ args, args = inp.args := ⟨_, rfl⟩
  rw [← hWd] at hW1 hL1 hmx1 hval1 ⊢
  rw [← hAd] at hW1 hval1 ⊢
  have hW := hW1
  have hL := hL1
  have hmx : W.cell? ⟨0, 0, none⟩ = some (.int .i64 mx) := hmx1
  have hval : ∀ (j : Nat) t v, Tryd.f4.params[j]? = some t → args[j]? = some v → Value.okWide Tryd.prog W .any w0.heap.size t v := hval1
  clear hcond hp0 hW0 hL0 hWd hAd hval1 hsh hL1 hmx1 hW1 hfn1
  have hW' := hW
  obtain ⟨p, q, hA0, hV, rfl, hfz, hnd⟩ := hW
  have hA : DataW.TrodAll enc Tryd.prog W 0 (fun _ => true) true Tryd.f4.params.toList args.toList ds p := hA0
  rw [Tryd.params4] at hA hval
  obtain ⟨v0, vs0, d0, ds0, p0, q0, hargs, rfl, rfl, h0, r0⟩ := trodAll_cons hA
  obtain ⟨rfl, rfl, rfl⟩ := trodAll_nil r0
  obtain rfl : args = #[v0] := by cases args; simp_all
  obtain ⟨rfl, rfl⟩ := trodVars_none hV
  have k0 := h0
  have lt0 : ∀ x ∈ p0, x.block < W.heap.size := by obtain ⟨m, hm⟩ := k0; exact DataW.trod_lt m _ _ _ hm
  obtain ⟨sA0, sn0, sc0, rfl⟩ := okWide_slice Tryd.underlying33 (hval 0 33 v0 rfl rfl)
  have hb : Rows.uptoBulkAll ([d0] ++ []) ≤ 1048576 := of_decide_eq_true hk0
  simp only [List.append_nil, Rows.uptoBulkAll] at hb
  have hb0 : Rows.uptoBulk d0 ≤ 1048576 := by omega
  obtain ⟨vs, L, hS0, hz0, hl0⟩ : ∃ (vs : List Value) (L : List (List ByteArray)), RwS W (.slice sA0 sn0 sc0) vs L ∧ (∀ r ∈ L, Fd.tot r + r.length ≤ 1048576) ∧ L.length ≤ 1048576 := by obtain ⟨m, hm⟩ := k0; exact rows_bulk hm hb0
  clear hA0
  refine (toprows_walk (.slice sA0 sn0 sc0) vs L W hS0 hz0 hl0 mx hmx).mono fun e W' ⟨he, bel⟩ => ?_
  subst he
  exact ChangeSpec.post_blind ⟨_, _, _, [], _, [], hW', trodAll_mk1 (shut_bool Tryd.underlying4 _), (trodAll_cons_mk (Below.trod laidOut (by kernel_rfl) (of_decide_eq_true (by kernel_rfl)) k0 bel lt0) trodAll_mk0), rfl, bel.frame _, fun h => by cases h⟩

theorem over : Rows.TopRowsUptoSaid :=
  OpenClaim.holds_of_cond 4 Tryd.f4 rfl rfl rfl rfl rfl rfl rfl ⟨rfl, rfl, rfl, rfl, rfl⟩ rfl rfl rfl rfl rfl (by kernel_rfl) Tryd.func4 (by kernel_rfl)
    (of_decide_eq_true (by kernel_rfl)) (by unfold Func.isWrapper; first | (rw [if_pos (by decide +kernel)]; kernel_rfl) | (rw [if_neg (by decide +kernel)]; exact ⟨rfl, rfl⟩))
    (fun os started H enc _ F => by rw [OpenClaim.pre_eq_preRow]; exact lifted os started H enc F)

theorem proved : Rows.TopRowsUptoCardSaid :=
  Claim7.holds_tied_plain_at .later [] _ _ _ Rows.topRowsUptoCard.stood.looks
    over (fun _ h => by cases h) (by kernel_rfl) (fun _ h => by cases h) topRowsUpto_row_tie rfl ⟨rfl, rfl⟩ (by kernel_rfl) rfl
    (fun f fn hf hfn => by
      obtain rfl : f = 4 := Option.some.inj ((show Tryd.prog.funcNamed "noontide/noontidetop.TopRows" = some 4 by kernel_rfl).symm.trans hf) |>.symm
      obtain rfl : fn = Tryd.f4 := (Option.some.inj (Tryd.func4.symm.trans hfn)).symm
      exact ⟨by kernel_rfl, fun j t ht => by
        rw [Tryd.params4] at ht
        have hm : t ∈ [33] := by simpa using Array.mem_of_getElem? ht
        have hall : ([33].all fun u => !Tryd.prog.wantsStandIn u) = true := by kernel_rfl
        exact (show Tryd.prog.wantsStandIn t = false by simpa using List.all_eq_true.1 hall t hm)⟩)
    (by kernel_rfl)
#print axioms proved
end Go.Proofs.YtnkmpchonlajpaaDoor.lawTopRows
