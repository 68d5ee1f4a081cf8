/- QueryBackCardSaid: whatever is handed in, the law answers true, and what was handed in reads as it did; the listed variables are tied to the program's text. No other condition. -/
import Derived.Test.YtbcbggdbojonmaaGreatDoorRows
import Derived.Test.YtbcbggdbojonmaaGreatDoorCards
import Derived.Test.YtbcbggdbojonmaaGreatDoorTie
import Derived.Test.YtbcbggdbojonmaaGreatDoorBq34
import Derived.Test.YtbcbggdbojonmaaGreatDoorBq35
import Derived.WalkKit
import Derived.ProofKit
import Derived.LaidMore
import Derived.OpenShut
import Derived.ShutString
import Derived.ChangeOld
import Derived.Below
import Derived.Lib.SmallJoins
import Derived.Lib.LaidTab
import Derived.Stop.LaidErr
import Derived.Stop.Joined
import Derived.SevenTiedAt
import Derived.Lay
set_option linter.unusedVariables false
set_option linter.unusedSimpArgs false
namespace Go.Proofs.YtbcbggdbojonmaaGreatDoor.lawQueryBack
open Go Go.ChangeShapes Go.WideShapes Go.ChangeAt Go.RowKit Go.Joins
open Go.ChangeMaps (open_string shut_string)

theorem own : ownKnob Tryz.prog.godebug = none := by kernel_rfl
theorem laidOut : laidOutB Tryz.prog = true := by kernel_rfl
theorem bound {x : Int} (h : (Lit.int .i64 x).wf = true) : -9223372036854775808 ≤ x ∧ x ≤ 9223372036854775807 := by
  simp [Lit.wf, IntKind.min, IntKind.max, IntKind.signed, IntKind.bits] at h
  exact ⟨by omega, by omega⟩
theorem gTab : Tryz.prog.globalNamed "internal/strconv.uint64pow10" = some 1 := by kernel_rfl
theorem gTabType : (Tryz.prog.globals[1]?).map (·.type) = some 162 := by kernel_rfl
theorem cellsU : Tryz.prog.cellsOf 98 = 1 := by kernel_rfl
theorem cellsTab : Tryz.prog.cellsOf 162 = 20 := by kernel_rfl
theorem tabDatum : (Rows.laid_internal_strconv_uint64pow10 : DataW Unit) = Lib.tabData .u64 Lib.pow10Tab := by kernel_rfl
theorem gErr : Tryz.prog.globalNamed "strconv.ErrRange" = some 3 := by kernel_rfl
theorem gErrType : (Tryz.prog.globals[3]?).map (·.type) = some 69 := by kernel_rfl
theorem cellsES : Tryz.prog.cellsOf 174 = 1 := by kernel_rfl
theorem cellsStr : Tryz.prog.cellsOf 9 = 1 := by kernel_rfl
theorem star : "*" ++ "errors.errorString" = "*errors.errorString" := by decide
theorem rowES (u : TypeId) (h : Tryz.prog.typeName? 3 u = some "*errors.errorString") : u = 172 :=
  typeName_ptr_named (nm := "errors.errorString") (by rw [star]; kernel_rfl) (by kernel_rfl) (by decide) u (by rw [star]; exact h)
theorem of_laid {W : World} (h : laidMetH Tryz.prog Rows.queryBackRow.laid W) : ∃ tp p, Lib.TabIs Tryz.prog W "internal/strconv.uint64pow10" .u64 Lib.pow10Tab ∧ W.var? Tryz.prog "strconv.ErrRange" = some #[.iface tp p] := by
  rw [MakeChecks.laidMetH_plain _ _ _ (by kernel_rfl)] at h
  have h1 : laidMet Tryz.prog [("internal/strconv.uint64pow10", Lib.tabData .u64 Lib.pow10Tab), ("strconv.ErrRange", Rows.laid_strconv_ErrRange), ("strconv.ErrSyntax", Rows.laid_strconv_ErrSyntax)] W := by
    rw [← tabDatum]; exact h.tail.tail
  obtain ⟨a, s, hv, -, -, -⟩ := laid_sentinel h1.tail gErr gErrType Tryz.underlying69 rowES Tryz.underlying172 Tryz.underlying174 rfl rfl Tryz.underlying9 cellsES cellsStr
  exact ⟨_, _, Lib.tabIs_of_head gTab gTabType Tryz.underlying162 Tryz.underlying98 cellsU cellsTab h1, hv⟩
set_option maxRecDepth 100000 in
theorem lifted (os : Os) (started : os.Started) (H : Type) (enc : TypeId × Value → H) :
    ReturnsInHanded {} Tryz.checked os 4 .any (fun w args => (Rows.queryBackSpec.pre enc Tryz.prog Tryz.f4 [] false w args ∧ laidMetH Tryz.prog Rows.queryBackRow.laid w) ∧ sizedMet enc Tryz.prog Tryz.f4 (OpenSpec.ofChange Rows.queryBackSpec) false w args)
      (Rows.queryBackSpec.post enc Tryz.prog Tryz.f4 false true false false) := by
  refine returnsInHanded_of_calls (C := Tryz.checked) own started (by kernel_rfl)
    (ChangeSpec.witness_shaped (enc := enc) (C := Tryz.checked) (os := os) (X := fun w _ => laidMetH Tryz.prog Rows.queryBackRow.laid w) false (World.laidAll Tryz.prog os Rows.queryBackRow.laid) #[.string ⟨#[]⟩, .agg #[.int .i64 0, .string ⟨#[]⟩, .int .i64 0, .int .i64 0, .int .i64 0, .int .i64 0]] 8 (World.laidAll_os _ _ _) (World.shaped_of_ZipB (by kernel_rfl) (by kernel_rfl)) (by kernel_rfl) (by kernel_rfl) (by kernel_rfl)
      (by rw [MakeChecks.laidMetH_plain _ _ _ (by kernel_rfl)]; exact laidMet_laidAll _ (by kernel_rfl) (by kernel_rfl))) ?_
  intro w0 tape inp _ hsh _ hok hpre _
  obtain ⟨_, _, _, fn1, hfn1, _, _, _, _, hval1⟩ := hok
  obtain rfl : fn1 = Tryz.f4 := Option.some.inj (hfn1.symm.trans Tryz.func4)
  obtain ⟨⟨_, hL0⟩, _, ds, gs, before, hW0, hZ⟩ := hpre
  have hW1 := DataW.Whole.of_heap (w' := w0.forCall tape inp) (by rfl) hW0
  have hL1 : laidMetH Tryz.prog Rows.queryBackRow.laid (w0.forCall tape inp) := hL0.of_heap (by rfl)
  obtain ⟨W, hWd⟩ : ∃ W, W = w0.forCall tape inp := ⟨_, rfl⟩
  obtain ⟨args, hAd⟩ : ∃ args, args = inp.args := ⟨_, rfl⟩
  rw [← hWd] at hW1 hL1 hval1 ⊢
  rw [← hAd] at hW1 hval1 ⊢
  have hW := hW1
  have hL := hL1
  have hval : ∀ (j : Nat) t v, Tryz.f4.params[j]? = some t → args[j]? = some v → Value.okWide Tryz.prog W .any w0.heap.size t v := hval1
  clear hW0 hL0 hWd hAd hval1 hsh hL1 hW1 hfn1
  have hW' := hW
  obtain ⟨p, q, hA0, hV, rfl, hfz, hnd⟩ := hW
  have hA : DataW.TrodAll enc Tryz.prog W 0 (fun _ => true) true Tryz.f4.params.toList args.toList ds p := hA0
  rw [Tryz.params4] at hA hval
  obtain ⟨v0, vs0, d0, ds0, p0, q0, hargs, rfl, rfl, h0, r0⟩ := trodAll_cons hA
  obtain ⟨v1, vs1, d1, ds1, p1, q1, rfl, rfl, rfl, h1, r1⟩ := trodAll_cons r0
  obtain ⟨rfl, rfl, rfl⟩ := trodAll_nil r1
  obtain rfl : args = #[v0, v1] := by cases args; simp_all
  obtain ⟨rfl, rfl⟩ := trodVars_none hV
  have k0 := h0
  have lt0 : ∀ x ∈ p0, x.block < W.heap.size := by obtain ⟨m, hm⟩ := k0; exact DataW.trod_lt m _ _ _ hm
  have k1 := h1
  have lt1 : ∀ x ∈ p1, x.block < W.heap.size := by obtain ⟨m, hm⟩ := k1; exact DataW.trod_lt m _ _ _ hm
  obtain ⟨s, rfl, rfl, e0, w0⟩ := open_string Tryz.underlying9 (hval 0 9 v0 rfl rfl) h0
  obtain ⟨k, z, t, n, u, p, rfl, rfl, ht, hn⟩ := open_query (hval 1 23 v1 rfl rfl) h1
  have zs : s.data.toList.length ≤ reachBytes := by simpa using List.all_eq_true.1 hZ _ (DataW.weights_mem_each (j := 0) (by rw [Tryz.params4]; rfl) rfl _ (by simp [DataW.weights]))
  have zs : s.size ≤ 140737488355328 := by have e : s.data.toList.length = s.size := Array.length_toList; unfold reachBytes at zs; omega
  have zz : z.data.toList.length ≤ reachBytes := by simpa using List.all_eq_true.1 hZ _ (DataW.weights_mem_each (j := 1) (by rw [Tryz.params4]; rfl) rfl _ (query_weighs k z t n u p))
  have zz : z.size ≤ 140737488355328 := by have e : z.data.toList.length = z.size := Array.length_toList; unfold reachBytes at zz; omega
  clear hA0
  obtain ⟨tp, pp, T, V⟩ := of_laid hL
  refine (query_back s k z t n u p W zs zz ht hn T tp pp V).mono fun e W' ⟨he, bel⟩ => ?_
  subst he
  exact ChangeSpec.post_blind ⟨_, _, _, [], _, [], hW', trodAll_mk1 (shut_bool Tryz.underlying4 _), (trodAll_cons_mk (Below.trod laidOut (by kernel_rfl) (of_decide_eq_true (by kernel_rfl)) k0 bel lt0) (trodAll_cons_mk (Below.trod laidOut (by kernel_rfl) (of_decide_eq_true (by kernel_rfl)) k1 bel lt1) trodAll_mk0)), rfl, bel.frame _, fun h => by cases h⟩

theorem over : Rows.queryBackRow.holds Tryz.pinned (OpenSpec.ofChange Rows.queryBackSpec) :=
  OpenClaim.holds_of_wide 4 Tryz.f4 rfl rfl rfl rfl rfl rfl rfl ⟨rfl, rfl, rfl, rfl, rfl⟩ rfl rfl rfl rfl rfl (by kernel_rfl) Tryz.func4 (by kernel_rfl)
    (of_decide_eq_true (by kernel_rfl)) (by unfold Func.isWrapper; first | (rw [if_pos (by decide +kernel)]; kernel_rfl) | (rw [if_neg (by decide +kernel)]; exact ⟨rfl, rfl⟩))
    (fun os started H enc _ => lifted os started H enc)

theorem proved : Rows.QueryBackCardSaid :=
  Claim7.holds_tied_plain_at .later [] Rows.queryBackCard.laidKinds true Rows.queryBackCard.stood.harness Rows.queryBackCard.stood.looks
    over (fun _ h => by cases h) (by kernel_rfl) (fun _ h => by cases h) queryBack_row_tie rfl ⟨rfl, rfl⟩ (by kernel_rfl) rfl
    (fun f fn hf hfn => by
      obtain rfl : f = 4 := Option.some.inj ((show Tryz.prog.funcNamed "noontide/noontidelaw44.QueryBack" = some 4 by kernel_rfl).symm.trans hf) |>.symm
      obtain rfl : fn = Tryz.f4 := (Option.some.inj (Tryz.func4.symm.trans hfn)).symm
      exact ⟨by kernel_rfl, fun j t ht => by
        rw [Tryz.params4] at ht
        have hm : t ∈ [9, 23] := by simpa using Array.mem_of_getElem? ht
        have hall : ([9, 23].all fun u => !Tryz.prog.wantsStandIn u) = true := by kernel_rfl
        exact (show Tryz.prog.wantsStandIn t = false by simpa using List.all_eq_true.1 hall t hm)⟩)
    (by kernel_rfl)
#print axioms proved
end Go.Proofs.YtbcbggdbojonmaaGreatDoor.lawQueryBack
