/- Joined: Qt, ErL, GvX, ErM, Sm13. -/
import Derived.Test.YtpggfhmnhbnefaaGreatDoorBd01
import Derived.StillTail
import Derived.Lib.QuietBelow
import Derived.Test.YtpggfhmnhbnefaaGreatDoorBd16
import Derived.Test.YtpggfhmnhbnefaaGreatDoorBd13
import Derived.Test.YtpggfhmnhbnefaaGreatDoorBd05
import Derived.Test.YtpggfhmnhbnefaaGreatDoorBd02
set_option linter.unusedVariables false
set_option linter.unusedSimpArgs false
namespace Go.Proofs.YtpggfhmnhbnefaaGreatDoor
open Go Go.RowKit Go.Sort
section
variable {P : Program} {ops : Array Oper} {md : Region.Mode} {C : World → Prop}
def qtAny (P : Program) (md : Region.Mode) (ops : Array Oper) (C : World → Prop) (n : Nat) (L : Array Bool → Act → Prop) : Nat → Array Bool → Act → Prop
 | 0, ld, a => L ld a
 | f + 1, ld, a => Region.ready md ops ld ≠ [] ∧ ∀ i ∈ Region.ready md ops ld, i < n ∧ qOp P ops C i (qtAny P md ops C n L f (ld.setIfInBounds i true)) a
theorem qt_all {n g : Nat} {L : Array Bool → Act → Prop} {Q : Exit → Act → World → Prop} (hL : ∀ ld a w, C w → L ld a → wpAny P md ops Q g ld a w) :
  ∀ (f : Nat) (ld : Array Bool) (a : Act) (w : World), C w → qtAny P md ops C n L f ld a → wpAny P md ops Q (f + g) ld a w := by
 intro f
 induction f with
 | zero => intro ld a w hw h; rw [Nat.zero_add]; exact hL _ _ _ hw h
 | succ f ih =>
  intro ld a w hw h
  rw [Nat.succ_add]
  exact ⟨fun e => absurd e h.1, fun i hi => wpOp_of_qOp hw (fun a' w' hw' => ih _ a' w' hw') (h.2 i hi).2⟩
theorem qt_first {n i : Nat} {oi : Oper} {v : Value} {L : Array Bool → Act → Prop} (hi : ops[i]? = some oi) (hsel : ∀ (j : Nat) (o : Oper) cs b, ops[j]? = some o → o.op ≠ .select cs b)
  (hs : Region.sinkB md ops n = true) (hc : Region.chainB md ops n = true) (hn : n < ops.size) (hin : i < n)
  (hdone : ∀ ld a, L ld a → ∀ j ∈ Region.ready md ops ld, n ≤ j) :
  ∀ (f : Nat) (ld : Array Bool) (a : Act), HeadInv md ops n ld →
   (∀ j oj, ops[j]? = some oj → j ≠ i → ld.getD j true = false → (∀ e ∈ oj.after, Region.binds md e = true → e.on ≠ i) → oi.apart ops oj = true) →
   i ∈ Region.ready md ops ld → YieldsIn P ops C oi v a →
   qtAny P md ops C n L f (ld.setIfInBounds i true) (a.put oi.dst v) → qtAny P md ops C n L (f + 1) ld a := by
 intro f
 induction f with
 | zero =>
  intro ld a inv _ hr hy H
  refine ⟨fun e => (by rw [e] at hr; cases hr), fun j hj => ?_⟩
  have hjn : j < n := Nat.lt_of_not_le fun h => tail_waits hs hc hn inv _ i rfl hin (mem_ready.1 hr).1 j h hj
  by_cases e : j = i
  ·
   subst e; exact ⟨hjn, hy.qOp hi H⟩
  ·
   have := hdone _ _ H j (ready_mono hj e)
   omega
 | succ f ih =>
  intro ld a inv hfree hr hy H
  refine ⟨fun e => (by rw [e] at hr; cases hr), fun j hj => ?_⟩
  have hun := (mem_ready.1 hr).1
  have hjn : j < n := Nat.lt_of_not_le fun h => tail_waits hs hc hn inv _ i rfl hin hun j h hj
  refine ⟨hjn, ?_⟩
  by_cases e : j = i
  ·
   subst e; exact hy.qOp hi H
  ·
   have h1 := (H.2 j (ready_mono hj e)).2
   obtain ⟨hjun, oj, hoj, hall⟩ := mem_ready.1 hj
   have hnot : ∀ x ∈ oj.after, Region.binds md x = true → x.on ≠ i := fun x hx hb hq => by
    have h3 := hall x hx hb
    rw [hq, getD_both hun] at h3
    cases h3
   refine qOp_mono (fun a' h3 => ih (ld.setIfInBounds j true) a' (inv.set hj hjn) (fun k ok hk hki hu hno => ?_) (ready_mono hr (Ne.symm e)) h3.1 (by rw [Array.setIfInBounds_comm _ _ e]; exact h3.2)) (qOp_put hoj (hfree j oj hoj e hjun hnot) (fun cs b => hsel i oi cs b hi) (fun cs b => hsel j oj cs b hoj) hy h1)
   refine hfree k ok hk hki ?_ hno
   by_cases hjk : j = k
   ·
    subst hjk; exact hjun
   ·
    rw [getD_set_ne true hjk] at hu; exact hu
theorem qt_lex {n g : Nat} {R : Act → Prop} (hsel : Region.noSelect ops = true) (hs : Region.sinkB md ops n = true) (hc : Region.chainB md ops n = true) (hn : n < ops.size) :
  ∀ (l : List Oper) (k : Nat) (ld : Array Bool) (a : Act), (∀ j, j < l.length → l[j]? = ops[k + j]?) → k + l.length = n → HeadInv md ops n ld →
  Region.lexHead md ops g l.length k ld = true → wpQuiet P ops C R l a →
  qtAny P md ops C n (fun ld' a' => Region.seqB md ops g n ld' = true ∧ R a') l.length ld a := by
 intro l
 induction l with
 | nil =>
  intro k ld a _ hk inv hB h
  obtain rfl : k = n := by simpa using hk
  exact ⟨by simpa [Region.lexHead] using hB, h⟩
 | cons o l ih =>
  intro k ld a hl hk inv hB h
  have h0 : ops[k]? = some o := by simpa using (hl 0 (by simp)).symm
  simp only [List.length_cons, Region.lexHead, Bool.and_eq_true] at hB
  obtain ⟨⟨hr, hf⟩, hB'⟩ := hB
  have hkn : k < n := by simp only [List.length_cons] at hk; omega
  have hr' : k ∈ Region.ready md ops ld := by simpa using hr
  obtain ⟨v, hy, hK⟩ := yieldsIn_of_qOp (K := wpQuiet P ops C R l) h0 (by unfold qOp; simp only [h0]; exact h)
  refine qt_first h0 (Region.noSelect_spec hsel) hs hc hn hkn (fun ld' a' hL => seqB_ready hL.1) l.length ld a inv (Region.free_spec h0 hf) hr' hy ?_
  exact ih (k + 1) _ _ (fun j hj => by have := hl (j + 1) (by simp; omega); simpa [Nat.add_assoc, Nat.add_comm 1 j] using this) (by simp only [List.length_cons] at hk; omega) (inv.set hr' hkn) hB' hK
theorem wp_region_qtail {id : Nat} {Q : Exit → Act → World → Prop} {a : Act} {w : World} {l : List Oper} (n : Nat) (hm : P.follows .mixedOrders = true) (hB : Region.lexTailB .any l.toArray n = true)
  (hC : C { w with drawn := w.drawn + 1 })
  (h : wpQuiet P l.toArray C (fun a' => ∀ w', C w' → wpList P l.toArray Q (l.drop n) a' w') (l.take n) a) : (Code.region id l.toArray true).wp P Q a w := by
 simp only [Region.lexTailB, Bool.and_eq_true, decide_eq_true_eq] at hB
 obtain ⟨⟨⟨⟨hsel, hn⟩, hs⟩, hc⟩, hlex⟩ := hB
 have hn' : n < l.length := by simpa using hn
 have htl : (l.take n).length = n := by simp; omega
 have hdl : (l.drop n).length = l.toArray.size - n := by simp
 have inv0 : HeadInv .any l.toArray n (Array.replicate l.toArray.size false) :=
  ⟨by simp, fun j oj _ hl => (by rw [getD_replicate_false] at hl; cases hl), fun t _ ht => getD_in (by simpa using ht) (getD_replicate_false _ _)⟩
 have H := qt_lex (md := .any) (g := l.toArray.size - n) hsel hs hc hn (l.take n) 0 _ a (fun j hj => by
  rw [htl] at hj
  simp [hj]) (by simpa using htl) inv0 (by rw [htl]; exact hlex) h
 refine wp_region_any hm ?_
 have H2 := qt_all (Q := Q) (g := l.toArray.size - n) (fun ld a' w' hw hL => by
  have := wpAny_of_seq (md := .any) (Q' := Q) (l.drop n) n ld a' w' (fun j => by simp [List.getElem?_drop]) (by rw [hdl]; exact hL.1) (hL.2 w' hw)
  rwa [hdl] at this) _ _ _ _ hC H
 rw [htl, show n + (l.toArray.size - n) = l.toArray.size by omega] at H2
 exact H2
theorem qt_mono {R R' : Act → Prop} (h : ∀ a, R a → R' a) : ∀ (l : List Oper) (a : Act), wpQuiet P ops C R l a → wpQuiet P ops C R' l a := by
 intro l
 induction l with
 | nil => exact fun a => h a
 | cons o l ih =>
  intro a hh
  unfold wpQuiet at hh ⊢
  split
  ·
   rename_i hw; rw [if_pos hw] at hh; exact Oper.quiet_mono ih hh
  ·
   rename_i hw; rw [if_neg hw] at hh; exact ih _ hh
theorem wp_region_qbt {id : Nat} {Q : Exit → Act → World → Prop} {a : Act} {w W : World} {l : List Oper} (n : Nat) (hm : P.follows .mixedOrders = true) (hB : Region.lexTailB .any l.toArray n = true) (hb : Below w.heap.size w W)
  (h : wpQuiet P l.toArray (fun w' => ∃ p : Regrown, w' = grow (redrawn w p.d) p.os) (fun a' => ∀ w', Below w.heap.size w w' → wpList P l.toArray Q (l.drop n) a' w') (l.take n) a) : (Code.region id l.toArray true).wp P Q a W := by
 refine wp_region_qtail (C := fun w' => ∃ p : Regrown, w' = grow (redrawn w p.d) p.os) n hm hB (regrown_of_below hb.drew) ?_
 refine qt_mono (fun a' h w' hw => ?_) _ _ h
 obtain ⟨p, rfl⟩ := hw
 exact h _ (below_regrown _ _ _)
/-! A region that draws, one of whose calls panics: all that does not wait for it reads and calls. -/
def PanAt (P : Program) (C : World → Prop) (ch : List PanicEntry) (w : World) : Result Next → Prop
 | .ok (.enter f args) w' => w' = w ∧ Calls P f args w (fun e w'' => e = .panicked ch ∧ C w'')
 | _ => False
def PanicsIn (P : Program) (ops : Array Oper) (C : World → Prop) (ch : List PanicEntry) (o : Oper) (a : Act) : Prop :=
 Region.wanted o (yielded ops a.tmps) = true ∧ ∀ w, C w → PanAt P C ch w ((execOp a.eval o).run P w)
theorem PanicsIn.wp {o : Oper} {ch : List PanicEntry} {a : Act} {K : Act → World → Prop} {Q : Exit → Act → World → Prop} {w : World} (hC : C w) (hQ : ∀ w, C w → Q (.panic ch) a w) (h : PanicsIn P ops C ch o a) : o.wp P a w K Q := by
 have h3 := h.2 w hC
 unfold Oper.wp
 generalize (execOp a.eval o).run P w = r at *
 cases r with
 | ok n w' =>
  cases n <;> simp only [PanAt] at h3
  case enter f args =>
   obtain ⟨e1, hc⟩ := h3
   rw [e1]
   exact hc.mono fun e w'' ⟨he, hw''⟩ => by subst he; exact hQ _ hw''
 | halt x w' => simp only [PanAt] at h3
end
end Go.Proofs.YtpggfhmnhbnefaaGreatDoor
set_option linter.unusedVariables false
set_option linter.unusedSimpArgs false
namespace Go.Proofs.YtpggfhmnhbnefaaGreatDoor
open Go.RowKit Go.Sort
set_option maxHeartbeats 4000000 in
set_option maxRecDepth 100000 in
theorem erlast_any (h : Bool) (y m k wk d sec base : Int) (w : World) :
  Calls Tryz.prog 121 #[.agg #[.bool h, .int .i64 y, .int .i64 m, .int .i64 k, .int .i64 wk, .int .i64 d, .int .i64 sec, .int .i64 base]] w fun e w' => e = .returned (.int .i64 ((⟨h, y, m, k, wk, d, sec, base⟩ : Er.U).last : Int)) ∧ Below w.heap.size w w' := by
 obtain ⟨n, hn⟩ : ∃ n, n = (⟨h, y, m, k, wk, d, sec, base⟩ : Er.U).last := ⟨_, rfl⟩
 rw [← hn]
 unfold Er.U.last at hn
 simp only [] at hn
 have HN := Lib.hid hn; clear hn
 go_enter Tryz.func121, Tryz.ntmps121
 go_wp2_with fail
 refine (erbeg_any y _).mono ?_; rintro e w1 ⟨rfl, b1⟩
 have d1 : Below w.heap.size w w1 := below_step gr0 b1
 have B1 := Lib.hid d1
 have U1 : Bk8 w1 (w.heap.size) (.bool h) (.int .i64 y) (.int .i64 m) (.int .i64 k) (.int .i64 wk) (.int .i64 d) (.int .i64 sec) (.int .i64 base) := by refine Bk8.of b1 (by simp <;> omega) (by intro j; simp [go_sem]) ?_ ?_ ?_ ?_ ?_ ?_ ?_ ?_ <;> simp [go_sem]
 clear b1 d1
 go_upto_region 2 with (fail)
 refine wp_named ?_; intro w2 hw2
 have d2 : Below w1.heap.size w1 w2 := by rw [hw2]; exact gr0
 have B2 := Lib.hid (below_step B1.out d2)
 have U2 := U1.keep d2
 have aLK := B1.out.size
 have nLKU := Nat.ne_of_lt U1.hb
 have oLKU := Nat.ne_of_gt U1.hb
 have LK2 : Bk8 w2 (w1.heap.size) (.bool true) (.int .i64 y) (.int .i64 1) (.int .i64 0) (.int .i64 0) (.int .i64 1) (.int .i64 0) (.int .i64 0) := by rw [hw2]; exact ⟨by simp <;> omega, by intro j; simp [go_sem], by simp [go_sem], by simp [go_sem], by simp [go_sem], by simp [go_sem], by simp [go_sem], by simp [go_sem], by simp [go_sem], by simp [go_sem]⟩
 clear U1 d2 hw2 B1
 have tx := U2; obtain ⟨cU_b, cU_f, cU_0, cU_1, cU_2, cU_3, cU_4, cU_5, cU_6, cU_7⟩ := tx
 have tx := LK2; obtain ⟨cLK_b, cLK_f, cLK_0, cLK_1, cLK_2, cLK_3, cLK_4, cLK_5, cLK_6, cLK_7⟩ := tx
 go_wp2_with fail
 all_goals (
  go_ret
  refine ⟨?_, B2.out⟩
  rw [HN.out]
  clear HN B2
  simp_all)
set_option maxHeartbeats 4000000 in
set_option maxRecDepth 100000 in
theorem errtx_any (off kind save : Int) (rs fm : ByteArray) (h : Bool) (y m k wk d sec base : Int) (w : World) (s0 : -10800 ≤ save) (s1 : save ≤ 10800) (tp : TypeId) (p : Value) (z : Int) (L : Ru.Lv w tp p z) :
  Calls Tryz.prog 68 #[.agg #[.int .i64 off, .int .i64 kind, .int .i64 save, .string rs, .string fm, .bool h, .int .i64 y, .int .i64 m, .int .i64 k, .int .i64 wk, .int .i64 d, .int .i64 sec, .int .i64 base]] w fun e w' => e = .returned (.string (Er.rtx kind save rs)) ∧ Below w.heap.size w w' := by
 have AT := Lib.hid (fun W (g : Ru.Lv W tp p z) => atext_any save W (by omega) (by omega) g.tab)
 rw [Er.am_ok (by omega) (by omega)] at AT
 have HL := Lib.hid (fun W (b : Below w.heap.size w W) => L.on b)
 clear L s0 s1
 unfold Er.rtx
 generalize (Am.tx save).1 = t at *
 by_cases h1 : kind = 1
 ·
  subst h1
  rw [if_pos rfl]
  go_enter Tryz.func68, Tryz.ntmps68
  go_wp2_with fail
  refine (AT.out _ (HL.out _ ((Below.refl _ _).alloc (Nat.le_refl _) _))).mono ?_; rintro e w1 ⟨rfl, b1⟩
  have B1 := Lib.hid (below_step ((Below.refl _ _).alloc (Nat.le_refl _) _) b1)
  clear b1
  go_wp2_with fail
  refine (musts_yes _ _).mono ?_; rintro e v1 ⟨rfl, rfl⟩
  go_wp2_with fail
  go_ret
  exact ⟨rfl, B1.out⟩
 ·
  rw [if_neg h1]
  by_cases h2 : kind = 2
  ·
   subst h2
   rw [if_pos rfl]
   clear h1
   go_enter Tryz.func68, Tryz.ntmps68
   go_wp2_with fail
   go_ret
   exact ⟨rfl, (Below.refl _ _).alloc (Nat.le_refl _) _⟩
  ·
   rw [if_neg h2]
   have g1 : (kind == 1) = false := by rw [beq_eq_false_iff_ne]; exact h1
   have g2 : (kind == 2) = false := by rw [beq_eq_false_iff_ne]; exact h2
   go_enter Tryz.func68, Tryz.ntmps68
   go_wp2_with fail
   go_ret
   exact ⟨rfl, (Below.refl _ _).alloc (Nat.le_refl _) _⟩
set_option maxHeartbeats 4000000 in
set_option maxRecDepth 100000 in
theorem eretx_no (y m k wk d sec base : Int) (w : World) :
  Calls Tryz.prog 69 #[.agg #[.bool false, .int .i64 y, .int .i64 m, .int .i64 k, .int .i64 wk, .int .i64 d, .int .i64 sec, .int .i64 base]] w fun e w' => e = .returned (.slice none 0 0) ∧ Below w.heap.size w w' := by
 go_enter Tryz.func69, Tryz.ntmps69
 go_wp2_with fail
 go_ret
 exact ⟨rfl, (Below.refl _ _).alloc (Nat.le_refl _) _⟩
set_option maxHeartbeats 4000000 in
set_option maxRecDepth 100000 in
theorem eretx_yes (y m k wk d sec base : Int) (w : World) (y0 : -32767 < y) (y1 : y < 32767) (ho : Dr.onF k wk d m = true) (hb : Cl.rB sec base = true) (tp : TypeId) (p : Value) (z : Int) (L : Ru.Lv w tp p z) :
  Calls Tryz.prog 69 #[.agg #[.bool true, .int .i64 y, .int .i64 m, .int .i64 k, .int .i64 wk, .int .i64 d, .int .i64 sec, .int .i64 base]] w fun e w' => ∃ v, StS w' v (⟨true, y, m, k, wk, d, sec, base⟩ : Er.U).et ∧ e = .returned v ∧ Below w.heap.size w w' := by
 have NT := Lib.hid (fun W (g : Ru.Lv W tp p z) => text_any y W (by omega) (by omega) g.tab)
 have MT := Lib.hid (fun W (g : Ru.Lv W tp p z) => mtext_any m W g.mon)
 have DT := Lib.hid (fun W (g : Ru.Lv W tp p z) => dspt_any k wk d W g.tab g.days)
 have KT := Lib.hid (fun W (g : Ru.Lv W tp p z) => cltext_any sec base W g.ltr g.tab)
 rw [Er.ds_ok ho] at DT
 rw [Er.cl_ok hb] at KT
 have HL := Lib.hid (fun W (b : Below w.heap.size w W) => L.on b)
 have LS := Lib.hid (fun W => erlast_any true y m k wk d sec base W)
 have et : (⟨true, y, m, k, wk, d, sec, base⟩ : Er.U).et = [Yr.tI y, Wd.t3 Wd.months (m - 1), (Ds.tx k wk d).1, (Cl.tx sec base).1].take ((⟨true, y, m, k, wk, d, sec, base⟩ : Er.U).last + 1) := rfl
 have hle := (⟨true, y, m, k, wk, d, sec, base⟩ : Er.U).last_le
 rw [et]
 clear et ho hb L y0 y1
 replace NT : Hid (∀ W, Ru.Lv W tp p z → Calls Tryz.prog 99 #[.int .i64 y] W fun e w' => e = .returned (.string (Yr.tI y)) ∧ Below W.heap.size W w') := NT
 generalize (⟨true, y, m, k, wk, d, sec, base⟩ : Er.U).last = n at *
 generalize Yr.tI y = x0 at *
 generalize Wd.t3 Wd.months (m - 1) = x1 at *
 generalize (Ds.tx k wk d).1 = x2 at *
 generalize (Cl.tx sec base).1 = x3 at *
 go_enter Tryz.func69, Tryz.ntmps69
 go_upto_region 3 with (fail)
 refine wp_named ?_; intro w1 hw1
 have d1 : Below w.heap.size w w1 := by rw [hw1]; exact gr0
 have B1 := Lib.hid d1
 have U1 : Bk8 w1 (w.heap.size) (.bool true) (.int .i64 y) (.int .i64 m) (.int .i64 k) (.int .i64 wk) (.int .i64 d) (.int .i64 sec) (.int .i64 base) := by rw [hw1]; exact ⟨by simp <;> omega, by intro j; simp [go_sem], by simp [go_sem], by simp [go_sem], by simp [go_sem], by simp [go_sem], by simp [go_sem], by simp [go_sem], by simp [go_sem], by simp [go_sem]⟩
 clear d1 hw1
 have tx := U1; obtain ⟨cU_b, cU_f, cU_0, cU_1, cU_2, cU_3, cU_4, cU_5, cU_6, cU_7⟩ := tx
 go_wp2_with fail
 clear cU_b cU_f cU_0 cU_1 cU_2 cU_3 cU_4 cU_5 cU_6 cU_7
 have qU_0 := cell_regrown U1.k0
 have qU_1 := cell_regrown U1.k1
 have qU_2 := cell_regrown U1.k2
 have qU_3 := cell_regrown U1.k3
 have qU_4 := cell_regrown U1.k4
 have qU_5 := cell_regrown U1.k5
 have qU_6 := cell_regrown U1.k6
 have qU_7 := cell_regrown U1.k7
 refine wp_region_qbt (w := w1) 18 (by kernel_rfl) (by kernel_rfl) gr0 ?_
 simp only [List.take_succ_cons, List.take_zero, List.drop_succ_cons, List.drop_zero]
 repeat (any_goals (first | go_big_quiet_step (first | (go_at_call 99; exact Calls.regrown_of (NT.out _ (HL.out _ (below_step B1.out (below_regrown _ _ _))))) | (go_at_call 41; exact Calls.regrown_of (MT.out _ (HL.out _ (below_step B1.out (below_regrown _ _ _))))) | (go_at_call 42; exact Calls.regrown_of (DT.out _ (HL.out _ (below_step B1.out (below_regrown _ _ _))))) | (go_at_call 43; exact Calls.regrown_of (KT.out _ (HL.out _ (below_step B1.out (below_regrown _ _ _))))) | (go_at_call 38; exact Calls.regrown_of ((musts_yes _ _).mono fun _ _ h => ⟨h.1, h.2 ▸ Below.refl _ _⟩))) | quiet_step (first | (go_at_call 99; exact Calls.regrown_of (NT.out _ (HL.out _ (below_step B1.out (below_regrown _ _ _))))) | (go_at_call 41; exact Calls.regrown_of (MT.out _ (HL.out _ (below_step B1.out (below_regrown _ _ _))))) | (go_at_call 42; exact Calls.regrown_of (DT.out _ (HL.out _ (below_step B1.out (below_regrown _ _ _))))) | (go_at_call 43; exact Calls.regrown_of (KT.out _ (HL.out _ (below_step B1.out (below_regrown _ _ _))))) | (go_at_call 38; exact Calls.regrown_of ((musts_yes _ _).mono fun _ _ h => ⟨h.1, h.2 ▸ Below.refl _ _⟩)))))
 refine wpQuiet_nil ?_
 intro w2 b2
 clear qU_0 qU_1 qU_2 qU_3 qU_4 qU_5 qU_6 qU_7
 have d2 : Below w1.heap.size w1 w2 := below_step gr0 b2
 have B2 := Lib.hid (below_step B1.out d2)
 have U2 := U1.keep d2
 clear U1 b2 d2 B1
 have tx := U2; obtain ⟨cU_b, cU_f, cU_0, cU_1, cU_2, cU_3, cU_4, cU_5, cU_6, cU_7⟩ := tx
 go_wp2_with fail
 clear cU_b cU_f cU_0 cU_1 cU_2 cU_3 cU_4 cU_5 cU_6 cU_7
 refine (LS.out _).mono ?_; rintro e w3 ⟨rfl, b3⟩
 have d3 : Below w2.heap.size w2 w3 := below_step gr0 b3
 have B3 := Lib.hid (below_step B2.out d3)
 have U3 := U2.keep d3
 have aX := B2.out.size
 have nXU := Nat.ne_of_lt U2.hb
 have oXU := Nat.ne_of_gt U2.hb
 have X3 : Bk4 w3 (w2.heap.size) (.string x0) (.string x1) (.string x2) (.string x3) := by refine Bk4.of b3 (by simp <;> omega) (by intro j; simp [go_sem]) ?_ ?_ ?_ ?_ <;> simp [go_sem]
 clear U2 b3 d3 B2
 have hn : n = 0 ∨ n = 1 ∨ n = 2 ∨ n = 3 := by omega
 have SF := Lib.hid (fun j (hj : j ≤ 4) c => sts_four X3 j hj c)
 clear X3 U3 hle LS
 rcases hn with rfl | rfl | rfl | rfl
 all_goals (
  go_wp2_with fail
  go_ret
  exact ⟨_, SF.out _ (by omega) _, rfl, B3.out⟩)
end Go.Proofs.YtpggfhmnhbnefaaGreatDoor
set_option linter.unusedVariables false
set_option linter.unusedSimpArgs false
namespace Go.Proofs.YtpggfhmnhbnefaaGreatDoor
open Go.RowKit
set_option maxHeartbeats 1000000 in
set_option maxRecDepth 100000 in
theorem tcaughtat_room (g : FuncId) (qs : Array Value) (hg : ∀ W, Sem.run Tryz.prog (callFunc g qs) W = .ok (.enter g qs) W) (P : List (List UInt8)) (w : World)
  (CG : Hid (∀ W, Below w.heap.size w W → Calls Tryz.prog g qs W fun e w' => ∃ (v : Value) (l : List ByteArray), StO W.heap.size w' v l ∧ (∃ A n c, v = .slice A n c ∧ n ≤ c) ∧ l.map (·.data.toList) = P ∧ e = .returned v ∧ Below W.heap.size W w')) :
  Calls Tryz.prog 97 #[.func (Fn.func g) #[] qs] w fun e w' => ∃ (v : Value) (l : List ByteArray), StS w' v l ∧ (∃ A n c, v = .slice A n c ∧ n ≤ c) ∧ l.map (·.data.toList) = P ∧ e = .returned (.tuple #[v, .agg #[.int .i64 0, .int .i64 0]]) ∧ Below w.heap.size w w' := by
 have hmf : ∀ (fn : Fn) (first cap : Array Value) (w : World), (Instr.makeFunc fn first cap).run Tryz.prog w = .ok (.func fn first cap) w := fun _ _ _ _ => rfl
 go_enter_defers Tryz.func97, Tryz.ntmps97
 go_wp2_with fail
 refine (CG.out _ ((Below.refl _ _).alloc (Nat.le_refl _) _)).mono ?_; rintro e w1 ⟨v, l, hst, hrm, hlp, rfl, b1⟩
 have HRM := Lib.hid hrm; clear hrm
 have HST := Lib.hid hst; have HLP := Lib.hid hlp
 clear hlp
 obtain ⟨A, c, rfl, -⟩ := hst
 have B1 := Lib.hid (below_step ((Below.refl _ _).alloc (Nat.le_refl _) _) b1)
 have Q1 : Bk2 w1 w.heap.size (.int .i64 0) (.int .i64 0) := Bk2.of b1 (by simp) (by intro j; simp [go_sem]) (by simp [go_sem]) (by simp [go_sem])
 clear b1
 have c_b := Q1.hb; have c_f := Q1.fz; have c_0 := Q1.k0; have c_1 := Q1.k1
 clear Q1
 go_wp2_with fail
 refine leaves_cons (f := 148) (args := #[.pointer (some ⟨w.heap.size, 0, none⟩)]) (by simp) (by simp [go_sem]) ?_
 refine (gvt_idle ⟨w.heap.size, 0, none⟩ _).mono ?_
 rintro e u' w'' ⟨rfl, rfl, rfl⟩
 simp [Leaves, settle, results, Tryz.results97, go_sem, c_b, c_0, c_1, c_f]
 clear c_b c_f c_0 c_1
 refine ⟨_, l, StO.st (StO.turn (StO.turn HST.out (Nat.le_of_eq (set_size ..).symm) (fun i h1 h2 => set_block _ _ _ _ ?_)) (Nat.le_of_eq (set_size ..).symm) (fun i h1 h2 => set_block _ _ _ _ ?_)), HRM.out, HLP.out, rfl, ?_⟩
 ·
  simp at h1; show w.heap.size ≠ i; omega
 ·
  simp at h1; show w.heap.size ≠ i; omega
 ·
  repeat (refine Below.setCell ?_ (by first | omega | (simp; done) | (simp; omega)) _)
  exact B1.out
set_option maxHeartbeats 1000000 in
set_option maxRecDepth 100000 in
theorem tcaught_room (g : FuncId) (qs : Array Value) (hg : ∀ W, Sem.run Tryz.prog (callFunc g qs) W = .ok (.enter g qs) W) (P : List (List UInt8)) (w : World)
  (CG : Hid (∀ W, Below w.heap.size w W → Calls Tryz.prog g qs W fun e w' => ∃ (v : Value) (l : List ByteArray), StO W.heap.size w' v l ∧ (∃ A n c, v = .slice A n c ∧ n ≤ c) ∧ l.map (·.data.toList) = P ∧ e = .returned v ∧ Below W.heap.size W w')) :
  Calls Tryz.prog 36 #[.func (Fn.func g) #[] qs] w (AnsFR (P, 0) w) := by
 go_enter Tryz.func36, Tryz.ntmps36
 go_wp2_with fail
 refine (tcaughtat_room g qs hg P _ CG).mono ?_; rintro e w1 ⟨v, l, hst, hrm, hlp, rfl, b1⟩
 obtain ⟨A, n, c, rfl, hnc⟩ := hrm
 have HNC := Lib.hid hnc; clear hnc
 have HST := Lib.hid hst; have HLP := Lib.hid hlp
 clear hst hlp
 have B1 := Lib.hid b1
 clear b1
 go_wp2_with fail
 go_quiet (fail)
 go_wp2_with fail
 go_ret2
 refine ⟨A, n, c, l, HNC.out, HST.out.on ?_, HLP.out, rfl, below_step B1.out ?_⟩
 all_goals (repeat (first | refine below_drewN ?_ _ | refine Below.drew ?_ | refine Below.setCell ?_ (by first | omega | (simp; done) | (simp; omega)) _ | refine Below.alloc ?_ (by first | omega | (simp; done) | (simp; omega)) _ | exact Below.refl _ _))
end Go.Proofs.YtpggfhmnhbnefaaGreatDoor
set_option linter.unusedVariables false
set_option linter.unusedSimpArgs false
namespace Go.Proofs.YtpggfhmnhbnefaaGreatDoor
open Go.RowKit Go.Sort
set_option maxHeartbeats 4000000 in
set_option maxRecDepth 100000 in
theorem erfields1_no (p : Nat) (off kind save : Int) (rs fm : ByteArray) (h : Bool) (y m k wk d sec base : Int) (w : World) (B : Bk13 w p (.int .i64 off) (.int .i64 kind) (.int .i64 save) (.string rs) (.string fm) (.bool h) (.int .i64 y) (.int .i64 m) (.int .i64 k) (.int .i64 wk) (.int .i64 d) (.int .i64 sec) (.int .i64 base)) (hs : rs.size ≤ 600) (hf : fm.size ≤ 600) (y0 : -9223372036854775808 ≤ y) (y1 : y ≤ 9223372036854775807) (tp : TypeId) (pp : Value) (z : Int) (L : Ru.Lv w tp pp z) (hok : Er.ok off kind save rs fm h y m k wk d sec base = false) :
  Calls Tryz.prog 67 #[.pointer (some ⟨p, 0, none⟩)] w fun e w' => e = .panicked (gvP 4) ∧ Below w.heap.size w w' := by
 have RB := Lib.hid (fun W (g : Ru.Lv W tp pp z) => erright_any off kind save rs fm h y m k wk d sec base W z hs hf y0 y1 g.mx)
 rw [hok] at RB
 have HL := Lib.hid (fun W (b : Below w.heap.size w W) => L.on b)
 clear hok hs hf y0 y1 L
 go_enter Tryz.func67, Tryz.ntmps67
 have tx := B; obtain ⟨cX_b, cX_f, cX_0, cX_1, cX_2, cX_3, cX_4, cX_5, cX_6, cX_7, cX_8, cX_9, cX_10, cX_11, cX_12⟩ := tx
 go_wp2_with fail
 clear cX_b cX_f cX_0 cX_1 cX_2 cX_3 cX_4 cX_5 cX_6 cX_7 cX_8 cX_9 cX_10 cX_11 cX_12
 refine (RB.out _ (HL.out _ (Below.refl _ _))).mono ?_; rintro e w1 ⟨rfl, b1⟩
 have d1 : Below w.heap.size w w1 := below_step gr0 b1
 have B1 := Lib.hid d1
 have X1 := B.keep d1
 clear B b1 d1
 go_wp2_with fail
 refine (need_no 4 _).mono ?_; rintro e u1 ⟨rfl, rfl⟩
 refine (show bodyPost _ _ _ (Exit.panic (gvP 4)) _ _ from ?_)
 simp only [bodyPost]
 exact ⟨trivial, by first | rfl | trivial, B1.out⟩
set_option maxHeartbeats 4000000 in
set_option maxRecDepth 100000 in
theorem erfields1_yes (p : Nat) (off kind save : Int) (rs fm : ByteArray) (h : Bool) (y m k wk d sec base : Int) (w : World) (B : Bk13 w p (.int .i64 off) (.int .i64 kind) (.int .i64 save) (.string rs) (.string fm) (.bool h) (.int .i64 y) (.int .i64 m) (.int .i64 k) (.int .i64 wk) (.int .i64 d) (.int .i64 sec) (.int .i64 base)) (hs : rs.size ≤ 600) (hf : fm.size ≤ 600) (y0 : -9223372036854775808 ≤ y) (y1 : y ≤ 9223372036854775807) (tp : TypeId) (pp : Value) (z : Int) (L : Ru.Lv w tp pp z) (hok : Er.ok off kind save rs fm h y m k wk d sec base = true) :
  Calls Tryz.prog 67 #[.pointer (some ⟨p, 0, none⟩)] w fun e w' => ∃ (v : Value) (l : List ByteArray), StO w.heap.size w' v l ∧ (∃ A n c, v = .slice A n c ∧ n ≤ c) ∧ l.map (·.data.toList) = ((⟨off, kind, save, rs, fm, ⟨h, y, m, k, wk, d, sec, base⟩⟩ : Er.E).ts).map (·.data.toList) ∧ e = .returned v ∧ Below w.heap.size w w' := by
 have RB := Lib.hid (fun W (g : Ru.Lv W tp pp z) => erright_any off kind save rs fm h y m k wk d sec base W z hs hf y0 y1 g.mx)
 rw [hok] at RB
 obtain ⟨a0, a1, a2, a3, a4⟩ := Er.ok_of (e := (⟨off, kind, save, rs, fm, ⟨h, y, m, k, wk, d, sec, base⟩⟩ : Er.E)) hok
 simp only [] at a0 a1 a2 a3 a4
 obtain ⟨s0, s1⟩ := Er.save_of a2
 have AT := Lib.hid (fun W (g : Ru.Lv W tp pp z) => atext_any off W (by omega) (by omega) g.tab)
 rw [Er.am_ok a0 a1] at AT
 have RT := Lib.hid (fun W (g : Ru.Lv W tp pp z) => errtx_any off kind save rs fm h y m k wk d sec base W s0 s1 tp pp z g)
 have ET : Hid (∀ W, Ru.Lv W tp pp z → Calls Tryz.prog 69 #[.agg #[.bool h, .int .i64 y, .int .i64 m, .int .i64 k, .int .i64 wk, .int .i64 d, .int .i64 sec, .int .i64 base]] W fun e w' => ∃ v, StS w' v (⟨h, y, m, k, wk, d, sec, base⟩ : Er.U).et ∧ e = .returned v ∧ Below W.heap.size W w') := fun W g => by
  cases h with
  | false =>
   refine (eretx_no y m k wk d sec base W).mono ?_
   rintro e w' ⟨rfl, b⟩
   exact ⟨_, Lst.nil _ _, rfl, b⟩
  | true =>
   obtain ⟨u0, u1, u2, u3⟩ := Er.end_of (u := ⟨true, y, m, k, wk, d, sec, base⟩) a4 rfl
   exact eretx_yes y m k wk d sec base W u0 u1 u2 u3 tp pp z g
 have HL := Lib.hid (fun W (b : Below w.heap.size w W) => L.on b)
 have ht : (⟨off, kind, save, rs, fm, ⟨h, y, m, k, wk, d, sec, base⟩⟩ : Er.E).ts = [(Am.tx off).1, Er.rtx kind save rs, fm] ++ (⟨h, y, m, k, wk, d, sec, base⟩ : Er.U).et := rfl
 rw [ht]
 have hl4 : (⟨h, y, m, k, wk, d, sec, base⟩ : Er.U).et.length ≤ 4 := by
  unfold Er.U.et Er.U.ts
  split
  ·
   rw [List.length_take]; simp; omega
  ·
   simp
 clear hok hs hf y0 y1 L a0 a1 a2 a3 a4 s0 s1 ht
 generalize (⟨h, y, m, k, wk, d, sec, base⟩ : Er.U).et = E at *
 generalize (Am.tx off).1 = x0 at *
 generalize Er.rtx kind save rs = x1 at *
 obtain ⟨i0, hi, hz0, hz1, hz2⟩ := fd_parts fd_info
 go_enter Tryz.func67, Tryz.ntmps67
 have tx := B; obtain ⟨cX_b, cX_f, cX_0, cX_1, cX_2, cX_3, cX_4, cX_5, cX_6, cX_7, cX_8, cX_9, cX_10, cX_11, cX_12⟩ := tx
 go_wp2_with fail
 clear cX_b cX_f cX_0 cX_1 cX_2 cX_3 cX_4 cX_5 cX_6 cX_7 cX_8 cX_9 cX_10 cX_11 cX_12
 refine (RB.out _ (HL.out _ (Below.refl _ _))).mono ?_; rintro e w1 ⟨rfl, b1⟩
 have d1 : Below w.heap.size w w1 := below_step gr0 b1
 have B1 := Lib.hid d1
 have X1 := B.keep d1
 clear B b1 d1
 have tx := X1; obtain ⟨cX_b, cX_f, cX_0, cX_1, cX_2, cX_3, cX_4, cX_5, cX_6, cX_7, cX_8, cX_9, cX_10, cX_11, cX_12⟩ := tx
 go_wp2_with fail
 clear cX_b cX_f cX_0 cX_1 cX_2 cX_3 cX_4 cX_5 cX_6 cX_7 cX_8 cX_9 cX_10 cX_11 cX_12
 refine (need_yes 4 _).mono ?_; rintro e v1 ⟨rfl, rfl⟩
 have tx := X1; obtain ⟨cX_b, cX_f, cX_0, cX_1, cX_2, cX_3, cX_4, cX_5, cX_6, cX_7, cX_8, cX_9, cX_10, cX_11, cX_12⟩ := tx
 go_wp2_with fail
 clear cX_b cX_f cX_0 cX_1 cX_2 cX_3 cX_4 cX_5 cX_6 cX_7 cX_8 cX_9 cX_10 cX_11 cX_12
 have qX_0 := cell_regrown X1.k0
 have qX_1 := cell_regrown X1.k1
 have qX_2 := cell_regrown X1.k2
 have qX_3 := cell_regrown X1.k3
 have qX_4 := cell_regrown X1.k4
 have qX_5 := cell_regrown X1.k5
 have qX_6 := cell_regrown X1.k6
 have qX_7 := cell_regrown X1.k7
 have qX_8 := cell_regrown X1.k8
 have qX_9 := cell_regrown X1.k9
 have qX_10 := cell_regrown X1.k10
 have qX_11 := cell_regrown X1.k11
 have qX_12 := cell_regrown X1.k12
 refine wp_region_qbt (w := w1) 10 (by kernel_rfl) (by kernel_rfl) gr0 ?_
 simp only [List.take_succ_cons, List.take_zero, List.drop_succ_cons, List.drop_zero]
 repeat (any_goals (first | go_big_quiet_step (first | (go_at_call 44; exact Calls.regrown_of (AT.out _ (HL.out _ (below_step B1.out (below_regrown _ _ _))))) | (go_at_call 68; exact Calls.regrown_of (RT.out _ (HL.out _ (below_step B1.out (below_regrown _ _ _))))) | (go_at_call 38; exact Calls.regrown_of ((musts_yes _ _).mono fun _ _ h => ⟨h.1, h.2 ▸ Below.refl _ _⟩))) | quiet_step (first | (go_at_call 44; exact Calls.regrown_of (AT.out _ (HL.out _ (below_step B1.out (below_regrown _ _ _))))) | (go_at_call 68; exact Calls.regrown_of (RT.out _ (HL.out _ (below_step B1.out (below_regrown _ _ _))))) | (go_at_call 38; exact Calls.regrown_of ((musts_yes _ _).mono fun _ _ h => ⟨h.1, h.2 ▸ Below.refl _ _⟩)))))
 refine wpQuiet_nil ?_
 intro w2 b2
 clear qX_0 qX_1 qX_2 qX_3 qX_4 qX_5 qX_6 qX_7 qX_8 qX_9 qX_10 qX_11 qX_12
 have d2 : Below w1.heap.size w1 w2 := below_step gr0 b2
 have B2 := Lib.hid (below_step B1.out d2)
 have X2 := X1.keep d2
 clear X1 b2 d2 B1
 have tx := X2; obtain ⟨cX_b, cX_f, cX_0, cX_1, cX_2, cX_3, cX_4, cX_5, cX_6, cX_7, cX_8, cX_9, cX_10, cX_11, cX_12⟩ := tx
 go_wp2_with fail
 clear cX_b cX_f cX_0 cX_1 cX_2 cX_3 cX_4 cX_5 cX_6 cX_7 cX_8 cX_9 cX_10 cX_11 cX_12
 have O0 := Lib.hid (World.ownsRow_lit (base := w2.heap.size) (e := 9) (size := 1) w2 #[.string x0, .string x1, .string fm] 3 (Nat.le_refl _) (by decide) rfl)
 refine (ET.out _ (HL.out _ (grB B2))).mono ?_; rintro e w8 ⟨v8, s8, rfl, b8⟩
 have O8 := Lib.hid (own_on O0.out b8)
 have B8 := Lib.hid (below_step (grB B2) b8)
 have S8 := Lib.hid s8
 have hsz := B2.out.size
 have hs8 := b8.size
 simp at hs8
 clear b8 s8 O0 X2 RT ET AT RB
 go_wp2_with (at_builtin; refine wpList_append_lst rfl _ _ 22 rfl w2.heap.size 9 i0 (.string ⟨#[]⟩) 1 16 Tryz.underlying22 hi hz0 hz1 hz2 rfl (by decide) _ 3 _ rfl O8.out _ E.length _ (E.map Value.string) rfl S8.out (by simp) (by intro u hu; obtain ⟨x, _, rfl⟩ := List.mem_map.1 hu; rfl) (by unfold maxLen; omega) (by omega) (by omega) ?_)
 intro va wa own2 grow2
 have b2 : Below w2.heap.size w8 wa := below_grown grow2 (by omega) (own_row O8.out)
 have hrm := own_room own2
 have BA : Hid (Below w.heap.size w wa) := Lib.hid (B8.out.trans (b2.mono (by omega)))
 have HR := Lib.hid hrm
 have O2 : Hid (wa.ownsRow w2.heap.size 9 1 va ([x0, x1, fm] ++ E).length (([x0, x1, fm] ++ E).map Value.string)) := by
  have e1 : ([x0, x1, fm] ++ E).length = 3 + E.length := by simp; omega
  rw [e1]
  exact Lib.hid (by simpa using own2)
 clear own2 grow2 b2 hrm O8 S8
 obtain ⟨A9, c9, hv9, hc9⟩ := HR.out
 subst hv9
 go_wp2_with fail
 go_ret
 exact ⟨_, [x0, x1, fm] ++ E, StO.own O2.out hsz, ⟨_, _, _, rfl, hc9⟩, rfl, rfl, BA.out⟩
set_option maxRecDepth 100000 in
theorem erf_callFn (qs : Array Value) (W : World) : Sem.run Tryz.prog (callFunc 67 qs) W = .ok (.enter 67 qs) W := rfl
set_option maxHeartbeats 4000000 in
set_option maxRecDepth 100000 in
theorem erfields_any (off kind save : Int) (rs fm : ByteArray) (h : Bool) (y m k wk d sec base : Int) (w : World) (hs : rs.size ≤ 600) (hf : fm.size ≤ 600) (y0 : -9223372036854775808 ≤ y) (y1 : y ≤ 9223372036854775807) (tp : TypeId) (pp : Value) (z : Int) (L : Ru.Lv w tp pp z) :
  Calls Tryz.prog 20 #[.agg #[.int .i64 off, .int .i64 kind, .int .i64 save, .string rs, .string fm, .bool h, .int .i64 y, .int .i64 m, .int .i64 k, .int .i64 wk, .int .i64 d, .int .i64 sec, .int .i64 base]] w (AnsFR (Er.fl (⟨off, kind, save, rs, fm, ⟨h, y, m, k, wk, d, sec, base⟩⟩ : Er.E)) w) := by
 have BB : Hid (Bk13 (w.alloc (.cells #[.int .i64 off, .int .i64 kind, .int .i64 save, .string rs, .string fm, .bool h, .int .i64 y, .int .i64 m, .int .i64 k, .int .i64 wk, .int .i64 d, .int .i64 sec, .int .i64 base] 43)) w.heap.size (.int .i64 off) (.int .i64 kind) (.int .i64 save) (.string rs) (.string fm) (.bool h) (.int .i64 y) (.int .i64 m) (.int .i64 k) (.int .i64 wk) (.int .i64 d) (.int .i64 sec) (.int .i64 base)) := Lib.hid ⟨by simp, by intro j; simp [go_sem], by simp [go_sem], by simp [go_sem], by simp [go_sem], by simp [go_sem], by simp [go_sem], by simp [go_sem], by simp [go_sem], by simp [go_sem], by simp [go_sem], by simp [go_sem], by simp [go_sem], by simp [go_sem], by simp [go_sem]⟩
 have b0 : Below w.heap.size w (w.alloc (.cells #[.int .i64 off, .int .i64 kind, .int .i64 save, .string rs, .string fm, .bool h, .int .i64 y, .int .i64 m, .int .i64 k, .int .i64 wk, .int .i64 d, .int .i64 sec, .int .i64 base] 43)) := (Below.refl _ _).alloc (Nat.le_refl _) _
 have HL := Lib.hid (L.on b0)
 cases hok : Er.ok off kind save rs fm h y m k wk d sec base
 ·
  have T := Lib.hid (tcaught_no 67 #[.pointer (some ⟨w.heap.size, 0, none⟩)] (erf_callFn _) 0 4 _ (Lib.hid fun W' hB => erfields1_no w.heap.size off kind save rs fm h y m k wk d sec base W' (BB.out.keep hB) hs hf y0 y1 tp pp z (HL.out.on hB) hok))
  rw [Er.fl_no (e := (⟨off, kind, save, rs, fm, ⟨h, y, m, k, wk, d, sec, base⟩⟩ : Er.E)) hok]
  clear hok hs hf y0 y1 L HL BB b0
  go_enter Tryz.func20, Tryz.ntmps20
  go_wp2_with fail
  refine T.out.mono ?_; rintro e w1 ⟨rfl, b1⟩
  have B1 := Lib.hid (below_step ((Below.refl _ _).alloc (Nat.le_refl _) _) b1)
  clear b1
  go_wp2_with fail
  go_ret2
  exact ⟨none, 0, 0, [], Nat.le_refl _, Lst.nil _ _, rfl, rfl, B1.out⟩
 ·
  have T := Lib.hid (tcaught_room 67 #[.pointer (some ⟨w.heap.size, 0, none⟩)] (erf_callFn _) (((⟨off, kind, save, rs, fm, ⟨h, y, m, k, wk, d, sec, base⟩⟩ : Er.E).ts).map (·.data.toList)) _ (Lib.hid fun W' hB => erfields1_yes w.heap.size off kind save rs fm h y m k wk d sec base W' (BB.out.keep hB) hs hf y0 y1 tp pp z (HL.out.on hB) hok))
  rw [Er.fl_yes (e := (⟨off, kind, save, rs, fm, ⟨h, y, m, k, wk, d, sec, base⟩⟩ : Er.E)) hok]
  generalize ((⟨off, kind, save, rs, fm, ⟨h, y, m, k, wk, d, sec, base⟩⟩ : Er.E).ts).map (·.data.toList) = P at *
  clear hok hs hf y0 y1 L HL BB b0
  go_enter Tryz.func20, Tryz.ntmps20
  go_wp2_with fail
  refine T.out.mono ?_; rintro e w1 ⟨A, n, c, l, hnc, hst, hlp, rfl, b1⟩
  have B1 := Lib.hid (below_step ((Below.refl _ _).alloc (Nat.le_refl _) _) b1)
  have HS := Lib.hid hst; have HP := Lib.hid hlp; have HN := Lib.hid hnc
  clear b1 hst hlp hnc
  go_wp2_with fail
  go_ret2
  exact ⟨A, n, c, l, HN.out, HS.out, HP.out, rfl, B1.out⟩
set_option maxHeartbeats 2000000 in
theorem same13_yes (v v' : Value) (l : List ByteArray) (w : World) (hl : l.length ≤ 10000000) (S : StS w v l) (S' : StS w v' l) :
  Calls Tryz.prog 12 #[v, v'] w fun e w' => e = .returned (.bool true) ∧ Below w.heap.size w w' := by
 have T := S; have T' := S'
 obtain ⟨A, c, rfl, -⟩ := T; obtain ⟨A', c', rfl, -⟩ := T'
 have H := Lib.hid S; have H' := Lib.hid S'
 clear S S'
 obtain ⟨N, hN⟩ : ∃ N, N = l.length := ⟨_, rfl⟩
 have HN := Lib.hid hN
 rw [← hN]
 have hNb : N ≤ 10000000 := by omega
 have H : Hid (StS w (.slice A N c) l) := by rw [hN]; exact H
 have H' : Hid (StS w (.slice A' N c') l) := by rw [hN]; exact H'
 clear hN hl
 go_enter Tryz.func12, Tryz.ntmps12
 go_wp2_with fail
 go_loopw [13] (fun i wr => ∃ k : Nat, k ≤ N ∧ i = .int .i64 k ∧ Hid (Below w.heap.size w wr)) (fun i _ => N - (intOf i).toNat)
 case atStart => exact ⟨0, Nat.zero_le _, rfl, Below.refl _ _⟩
 case round =>
  obtain ⟨k, hk, rfl, hbw⟩ := hrel
  by_cases hlt : k < N
  ·
   obtain ⟨a, rfl, g⟩ := (H.out.on hbw.out).get k (by have := HN.out; omega)
   obtain ⟨a', rfl, g'⟩ := (H'.out.on hbw.out).get k (by have := HN.out; omega)
   generalize l[k]'(by have := HN.out; omega) = x at g g'
   go_wp2_with fail
   go_quiet (fail)
   go_wp2_with fail
   go_roundw
   case rel => exact ⟨k + 1, by omega, by go_num, Lib.hid (hbw.out.trans (below_draw _ _))⟩
   case measure => simp [intOf]; omega
  ·
   go_wp2_with fail
   go_ret
   exact ⟨rfl, hbw.out⟩
end Go.Proofs.YtpggfhmnhbnefaaGreatDoor
