/- TopLinesCardSaid: whatever is handed in, the law answers true, and what was handed in reads as it did; the listed variables are tied to the program's text. No other condition. -/
import Derived.Test.YtjggjkeopbcmoaaGreatDoorRows
import Derived.Test.YtjggjkeopbcmoaaGreatDoorCards
import Derived.Test.YtjggjkeopbcmoaaGreatDoorTie
import Derived.Test.YtjggjkeopbcmoaaGreatDoorBt30
import Derived.Test.YtjggjkeopbcmoaaGreatDoorBt31
import Derived.WalkKit
import Derived.ProofKit
import Derived.LaidMore
import Derived.OpenShut
import Derived.ShutString
import Derived.ChangeOld
import Derived.Below
import Derived.Lib.SmallJoins
import Derived.Lib.LaidTab
import Derived.Stop.LaidErr
import Derived.Stop.Joined
import Derived.SevenTiedAt
import Derived.Lay
set_option linter.unusedVariables false
set_option linter.unusedSimpArgs false
namespace Go.Proofs.YtjggjkeopbcmoaaGreatDoor.lawTopLines
open Go Go.ChangeShapes Go.WideShapes Go.ChangeAt Go.RowKit Go.Joins
open Go.ChangeMaps (open_string shut_string)

theorem own : ownKnob Tryz.prog.godebug = none := by kernel_rfl
theorem laidOut : laidOutB Tryz.prog = true := by kernel_rfl
theorem bound {x : Int} (h : (Lit.int .i64 x).wf = true) : -9223372036854775808 ≤ x ∧ x ≤ 9223372036854775807 := by
  simp [Lit.wf, IntKind.min, IntKind.max, IntKind.signed, IntKind.bits] at h
  exact ⟨by omega, by omega⟩
theorem gTab : Tryz.prog.globalNamed "internal/strconv.uint64pow10" = some 4 := by kernel_rfl
theorem gTabType : (Tryz.prog.globals[4]?).map (·.type) = some 191 := by kernel_rfl
theorem cellsU : Tryz.prog.cellsOf 180 = 1 := by kernel_rfl
theorem cellsTab : Tryz.prog.cellsOf 191 = 20 := by kernel_rfl
theorem tabDatum : (Rows.laid_internal_strconv_uint64pow10 : DataW Unit) = Lib.tabData .u64 Lib.pow10Tab := by kernel_rfl
theorem gErr : Tryz.prog.globalNamed "strconv.ErrRange" = some 8 := by kernel_rfl
theorem gErrType : (Tryz.prog.globals[8]?).map (·.type) = some 64 := by kernel_rfl
theorem cellsES : Tryz.prog.cellsOf 215 = 1 := by kernel_rfl
theorem cellsStr : Tryz.prog.cellsOf 9 = 1 := by kernel_rfl
theorem star : "*" ++ "errors.errorString" = "*errors.errorString" := by decide
theorem rowES (u : TypeId) (h : Tryz.prog.typeName? 3 u = some "*errors.errorString") : u = 213 :=
  typeName_ptr_named (nm := "errors.errorString") (by rw [star]; kernel_rfl) (by kernel_rfl) (by decide) u (by rw [star]; exact h)
theorem gDay : Tryz.prog.globalNamed "noontide/words.weekdays" = some 2 := by kernel_rfl
theorem gDayType : (Tryz.prog.globals[2]?).map (·.type) = some 134 := by kernel_rfl
theorem dayDatum : (Rows.laid_noontide_words_weekdays : DataW Unit) = .agg (Wd.days.map fun s => .lit (.string s.data.toList)) := by kernel_rfl
theorem gMon : Tryz.prog.globalNamed "noontide/words.months" = some 0 := by kernel_rfl
theorem gMonType : (Tryz.prog.globals[0]?).map (·.type) = some 93 := by kernel_rfl
theorem monDatum : (Rows.laid_noontide_words_months : DataW Unit) = .agg (Wd.months.map fun s => .lit (.string s.data.toList)) := by kernel_rfl
theorem gLet : Tryz.prog.globalNamed "noontide/clock.letters" = some 1 := by kernel_rfl
theorem gLetType : (Tryz.prog.globals[1]?).map (·.type) = some 95 := by kernel_rfl
theorem letDatum : (Rows.laid_noontide_clock_letters : DataW Unit) = .agg (([⟨#[119, 87]⟩, ⟨#[115, 83]⟩, ⟨#[117, 85, 103, 71, 122, 90]⟩] : List ByteArray).map fun s => .lit (.string s.data.toList)) := by kernel_rfl
theorem of_laid {W : World} {mx : Int} (h : laidMetH Tryz.prog Rows.topLinesRow.laid W) (hm : W.cell? ⟨3, 0, none⟩ = some (.int .i64 mx)) : ∃ tp p, Ru.Lv W tp p mx := by
  rw [MakeChecks.laidMetH_plain _ _ _ (by kernel_rfl)] at h
  have h1 : laidMet Tryz.prog [("internal/strconv.uint64pow10", Lib.tabData .u64 Lib.pow10Tab), ("noontide/words.months", Rows.laid_noontide_words_months), ("noontide/words.weekdays", Rows.laid_noontide_words_weekdays), ("unicode/utf8.acceptRanges", Rows.laid_unicode_utf8_acceptRanges), ("strconv.ErrRange", Rows.laid_strconv_ErrRange), ("strconv.ErrSyntax", Rows.laid_strconv_ErrSyntax), ("noontide/clock.letters", Rows.laid_noontide_clock_letters), ("unicode/utf8.first", Rows.laid_unicode_utf8_first)] W := by
    rw [← tabDatum]; exact h.tail.tail
  have h2 := h1.tail
  have h3 := h2.tail
  have h5 := h3.tail.tail
  have h7 := h5.tail.tail
  obtain ⟨a, s, hv, -, -, -⟩ := laid_sentinel h5 gErr gErrType Tryz.underlying64 rowES Tryz.underlying213 Tryz.underlying215 rfl rfl Tryz.underlying9 cellsES cellsStr
  rw [monDatum] at h2
  rw [dayDatum] at h3
  rw [letDatum] at h7
  have mo := tab_cells gMon gMonType Tryz.underlying93 Tryz.underlying9 cellsString h2
  have d := tab_cells gDay gDayType Tryz.underlying134 Tryz.underlying9 cellsString h3
  have l := tab_cells gLet gLetType Tryz.underlying95 Tryz.underlying9 cellsString h7
  exact ⟨_, _, Lib.tabIs_of_head gTab gTabType Tryz.underlying191 Tryz.underlying180 cellsU cellsTab h1, hv, ⟨mo 0 (by decide), mo 1 (by decide), mo 2 (by decide), mo 3 (by decide), mo 4 (by decide), mo 5 (by decide), mo 6 (by decide), mo 7 (by decide), mo 8 (by decide), mo 9 (by decide), mo 10 (by decide), mo 11 (by decide), d 0 (by decide), d 1 (by decide), d 2 (by decide), d 3 (by decide), d 4 (by decide), d 5 (by decide), d 6 (by decide)⟩, ⟨l 0 (by decide), l 1 (by decide), l 2 (by decide)⟩, hm⟩
set_option maxRecDepth 100000 in
theorem lifted (os : Os) (started : os.Started) (H : Type) (enc : TypeId × Value → H) :
    ReturnsInHanded {} Tryz.checked os 3 .any (fun w args => (Rows.topLinesSpec.pre enc Tryz.prog Tryz.f3 [] false w args ∧ laidMetH Tryz.prog Rows.topLinesRow.laid w) ∧ sizedMet enc Tryz.prog Tryz.f3 (OpenSpec.ofChange Rows.topLinesSpec) false w args)
      (Rows.topLinesSpec.post enc Tryz.prog Tryz.f3 false true false false) := by
  refine returnsInHanded_of_calls (C := Tryz.checked) own started (by kernel_rfl)
    (ChangeSpec.witness_shaped (enc := enc) (C := Tryz.checked) (os := os) (X := fun w _ => laidMetH Tryz.prog Rows.topLinesRow.laid w) false (World.laidAll Tryz.prog os Rows.topLinesRow.laid) #[.agg #[.string ⟨#[]⟩, .int .i64 0, .int .i64 0, .int .i64 0, .int .i64 0, .int .i64 0, .int .i64 0, .int .i64 0, .int .i64 0, .int .i64 0, .string ⟨#[]⟩], .agg #[.int .i64 0, .int .i64 0, .int .i64 0, .string ⟨#[]⟩, .string ⟨#[]⟩, .bool false, .int .i64 0, .int .i64 0, .int .i64 0, .int .i64 0, .int .i64 0, .int .i64 0, .int .i64 0]] 8 (World.laidAll_os _ _ _) (World.shaped_of_ZipB (by kernel_rfl) (by kernel_rfl)) (by kernel_rfl) (by kernel_rfl) (by kernel_rfl)
      (by rw [MakeChecks.laidMetH_plain _ _ _ (by kernel_rfl)]; exact laidMet_laidAll _ (by kernel_rfl) (by kernel_rfl))) ?_
  intro w0 tape inp _ hsh _ hok hpre _
  obtain ⟨_, _, _, fn1, hfn1, _, _, _, _, hval1⟩ := hok
  obtain rfl : fn1 = Tryz.f3 := Option.some.inj (hfn1.symm.trans Tryz.func3)
  obtain ⟨⟨⟨ds, gs, before, hW0, _⟩, hL0⟩, _⟩ := hpre
  have hW1 := DataW.Whole.of_heap (w' := w0.forCall tape inp) (by rfl) hW0
  have hL1 : laidMetH Tryz.prog Rows.topLinesRow.laid (w0.forCall tape inp) := hL0.of_heap (by rfl)
  obtain ⟨mx, hmx1⟩ := Tryz.laysM147.s1_3 _ hsh
  obtain ⟨W, hWd⟩ : ∃ W, W = w0.forCall tape inp := ⟨_, rfl⟩
  obtain ⟨args, hAd⟩ : ∃ args, args = inp.args := ⟨_, rfl⟩
  rw [← hWd] at hW1 hL1 hmx1 hval1 ⊢
  rw [← hAd] at hW1 hval1 ⊢
  have hW := hW1
  have hL := hL1
  have hmx : W.cell? ⟨3, 0, none⟩ = some (.int .i64 mx) := hmx1
  have hval : ∀ (j : Nat) t v, Tryz.f3.params[j]? = some t → args[j]? = some v → Value.okWide Tryz.prog W .any w0.heap.size t v := hval1
  clear hW0 hL0 hWd hAd hval1 hsh hL1 hmx1 hW1 hfn1
  have hW' := hW
  obtain ⟨p, q, hA0, hV, rfl, hfz, hnd⟩ := hW
  have hA : DataW.TrodAll enc Tryz.prog W 0 (fun _ => true) true Tryz.f3.params.toList args.toList ds p := hA0
  rw [Tryz.params3] at hA hval
  obtain ⟨v0, vs0, d0, ds0, p0, q0, hargs, rfl, rfl, h0, r0⟩ := trodAll_cons hA
  obtain ⟨v1, vs1, d1, ds1, p1, q1, rfl, rfl, rfl, h1, r1⟩ := trodAll_cons r0
  obtain ⟨rfl, rfl, rfl⟩ := trodAll_nil r1
  obtain rfl : args = #[v0, v1] := by cases args; simp_all
  obtain ⟨rfl, rfl⟩ := trodVars_none hV
  have k0 := h0
  have lt0 : ∀ x ∈ p0, x.block < W.heap.size := by obtain ⟨m, hm⟩ := k0; exact DataW.trod_lt m _ _ _ hm
  obtain ⟨s, fy, ty, mo, k, wk, d, sec, ba, sa, t, rfl, z00, z01⟩ := open_rule (hval 0 27 v0 rfl rfl) h0
  have k1 := h1
  have lt1 : ∀ x ∈ p1, x.block < W.heap.size := by obtain ⟨m, hm⟩ := k1; exact DataW.trod_lt m _ _ _ hm
  obtain ⟨of, ki, sv, rs, fm, hh, yr, em, ek, ew, ed, es, eb, rfl, z10, z11, z12⟩ := open_era (hval 1 31 v1 rfl rfl) h1
  clear hA0
  obtain ⟨tp, pp, L⟩ := of_laid hL hmx
  refine (toplines_walk s fy ty mo k wk d sec ba sa t of ki sv rs fm hh yr em ek ew ed es eb W tp pp mx L z00 z01 z10 z11 (bound z12).1 (bound z12).2).mono fun e W' ⟨he, bel⟩ => ?_
  subst he
  exact ChangeSpec.post_blind ⟨_, _, _, [], _, [], hW', trodAll_mk1 (shut_bool Tryz.underlying4 _), (trodAll_cons_mk (Below.trod laidOut (by kernel_rfl) (of_decide_eq_true (by kernel_rfl)) k0 bel lt0) (trodAll_cons_mk (Below.trod laidOut (by kernel_rfl) (of_decide_eq_true (by kernel_rfl)) k1 bel lt1) trodAll_mk0)), rfl, bel.frame _, fun h => by cases h⟩

theorem over : Rows.topLinesRow.holds Tryz.pinned (OpenSpec.ofChange Rows.topLinesSpec) :=
  OpenClaim.holds_of_wide 3 Tryz.f3 rfl rfl rfl rfl rfl rfl rfl ⟨rfl, rfl, rfl, rfl, rfl⟩ rfl rfl rfl rfl rfl (by kernel_rfl) Tryz.func3 (by kernel_rfl)
    (of_decide_eq_true (by kernel_rfl)) (by unfold Func.isWrapper; first | (rw [if_pos (by decide +kernel)]; kernel_rfl) | (rw [if_neg (by decide +kernel)]; exact ⟨rfl, rfl⟩))
    (fun os started H enc _ => lifted os started H enc)

theorem proved : Rows.TopLinesCardSaid :=
  Claim7.holds_tied_plain_at .later [] Rows.topLinesCard.laidKinds true Rows.topLinesCard.stood.harness Rows.topLinesCard.stood.looks
    over (fun _ h => by cases h) (by kernel_rfl) (fun _ h => by cases h) topLines_row_tie rfl ⟨rfl, rfl⟩ (by kernel_rfl) rfl
    (fun f fn hf hfn => by
      obtain rfl : f = 3 := Option.some.inj ((show Tryz.prog.funcNamed "noontide/noontidetop.TopLines" = some 3 by kernel_rfl).symm.trans hf) |>.symm
      obtain rfl : fn = Tryz.f3 := (Option.some.inj (Tryz.func3.symm.trans hfn)).symm
      exact ⟨by kernel_rfl, fun j t ht => by
        rw [Tryz.params3] at ht
        have hm : t ∈ [27, 31] := by simpa using Array.mem_of_getElem? ht
        have hall : ([27, 31].all fun u => !Tryz.prog.wantsStandIn u) = true := by kernel_rfl
        exact (show Tryz.prog.wantsStandIn t = false by simpa using List.all_eq_true.1 hall t hm)⟩)
    (by kernel_rfl)
#print axioms proved
end Go.Proofs.YtjggjkeopbcmoaaGreatDoor.lawTopLines
