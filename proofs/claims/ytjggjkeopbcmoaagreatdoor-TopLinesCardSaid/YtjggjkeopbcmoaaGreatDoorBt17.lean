/- Joined: RuH, RuJ, BkE. -/
import Derived.Test.YtjggjkeopbcmoaaGreatDoorBt13
import Derived.Test.YtjggjkeopbcmoaaGreatDoorBt16
import Derived.Test.YtjggjkeopbcmoaaGreatDoorBt01
import Derived.Test.YtjggjkeopbcmoaaGreatDoorBt15
set_option linter.unusedVariables false
set_option linter.unusedSimpArgs false
namespace Go.Proofs.YtjggjkeopbcmoaaGreatDoor
open Go.RowKit Go.Sort
namespace Ru
def R.ok (r : R) : Bool := rB r.s r.t r.fy r.ty r.m r.k r.wk r.d r.sec r.base r.save
def R.ts (r : R) : List ByteArray :=
 [r.s, (Yr.ft r.fy).1, (Yr.tt r.fy r.ty).1, ⟨#[45]⟩, Wd.t3 Wd.months (r.m - 1), (Ds.tx r.k r.wk r.d).1, (Cl.tx r.sec r.base).1, (Am.tx r.save).1, ⟨(Fo.ltx r.t.data.toList).1.toArray⟩]
def fl (r : R) : List (List UInt8) × Int := if r.ok = true then (r.ts.map (·.data.toList), 0) else ([], 4)
theorem fl_yes {r : R} (h : r.ok = true) : fl r = (r.ts.map (·.data.toList), 0) := if_pos h
theorem fl_no {r : R} (h : r.ok = false) : fl r = ([], 4) := if_neg (by rw [h]; decide)
theorem ok_of {r : R} (h : r.ok = true) : Lk.nm r.s.data.toList = 0 ∧ -32767 ≤ r.fy ∧ r.fy ≤ r.ty ∧ r.ty ≤ 32767 ∧ Dr.onF r.k r.wk r.d r.m = true ∧ Cl.rB r.sec r.base = true ∧ -10800 ≤ r.save ∧ r.save ≤ 10800 ∧ (Fo.ltx r.t.data.toList).2 = 0 := by
 unfold R.ok rB at h
 simp only [Bool.and_eq_true, decide_eq_true_eq, beq_iff_eq] at h
 obtain ⟨h0, h1, h2, h3, h4, h5, h6, h7, h8⟩ := h
 exact ⟨h0, h1, h2, h3, h4, h5, h6, h7, h8⟩
theorem ok_ft {r : R} (h : r.ok = true) : (Yr.ft r.fy).2 = 0 := by
 obtain ⟨_, h1, h2, h3, _⟩ := ok_of h
 unfold Yr.ft
 rw [if_pos (by unfold Yr.inY; simp; omega)]
 split <;> rfl
theorem ok_tt {r : R} (h : r.ok = true) : (Yr.tt r.fy r.ty).2 = 0 := by
 obtain ⟨_, h1, h2, h3, _⟩ := ok_of h
 unfold Yr.tt
 rw [if_pos (by unfold Yr.inY; simp; omega), if_neg (by omega)]
 split
 ·
  rfl
 ·
  split <;> rfl
theorem ok_ds {r : R} (h : r.ok = true) : (Ds.tx r.k r.wk r.d).2 = 0 := by
 obtain ⟨_, _, _, _, h4, _⟩ := ok_of h
 unfold Ds.tx
 rw [if_pos (Dr.onF_true.1 h4).1]
theorem ok_cl {r : R} (h : r.ok = true) : (Cl.tx r.sec r.base).2 = 0 := by
 obtain ⟨_, _, _, _, _, h5, _⟩ := ok_of h
 unfold Cl.tx
 rw [if_neg (by rw [h5]; decide)]
 split <;> rfl
theorem ok_am {r : R} (h : r.ok = true) : (Am.tx r.save).2 = 0 := by
 obtain ⟨_, _, _, _, _, _, h6, h7, _⟩ := ok_of h
 unfold Am.tx
 rw [if_neg (by omega)]
 split
 ·
  rfl
 ·
  split <;> rfl
end Ru
theorem StS.nine (W : World) (l : List ByteArray) (t : TypeId) (c : Nat) : StS (W.alloc (.cells (l.map Value.string).toArray t)) (.slice (some ⟨W.heap.size, 0, none⟩) l.length c) l :=
 ⟨_, _, rfl, fun _ => ⟨_, rfl, by simp, by
  intro j u hj
  rw [show (⟨W.heap.size, 0, none⟩ : Addr).add j = ⟨W.heap.size, j, none⟩ by simp [Addr.add]; exact fun h => h.symm]
  rw [Lib.cell_of_heap (heap_alloc_new W _)]
  simpa using hj⟩⟩
theorem StO.nine (B : Nat) (W : World) (l : List ByteArray) (t : TypeId) (c : Nat) (hB : B ≤ W.heap.size) : StO B (W.alloc (.cells (l.map Value.string).toArray t)) (.slice (some ⟨W.heap.size, 0, none⟩) l.length c) l :=
 ⟨_, _, rfl, fun _ => ⟨_, rfl, hB, by simp, by
  intro j u hj
  rw [show (⟨W.heap.size, 0, none⟩ : Addr).add j = ⟨W.heap.size, j, none⟩ by simp [Addr.add]; exact fun h => h.symm]
  rw [Lib.cell_of_heap (heap_alloc_new W _)]
  simpa using hj⟩⟩
set_option maxHeartbeats 4000000 in
set_option maxRecDepth 100000 in
theorem rufields1_no (p : Nat) (s t : ByteArray) (fy ty m k wk d sec base save : Int) (w : World) (B : Bk11 w p (.string s) (.int .i64 fy) (.int .i64 ty) (.int .i64 m) (.int .i64 k) (.int .i64 wk) (.int .i64 d) (.int .i64 sec) (.int .i64 base) (.int .i64 save) (.string t)) (hs : s.size ≤ maxLen) (ht : t.size ≤ 9223372036854775807) (hok : Ru.rB s t fy ty m k wk d sec base save = false) :
  Calls Tryz.prog 14 #[.pointer (some ⟨p, 0, none⟩)] w fun e w' => e = .panicked (gvP 4) ∧ Below w.heap.size w w' := by
 have RB := Lib.hid (fun W => ruright_any s t fy ty m k wk d sec base save W hs ht)
 clear hs ht
 rw [hok] at RB
 clear hok
 go_enter Tryz.func14, Tryz.ntmps14
 have tx := B; obtain ⟨cX_b, cX_f, cX_0, cX_1, cX_2, cX_3, cX_4, cX_5, cX_6, cX_7, cX_8, cX_9, cX_10⟩ := tx
 go_wp2_with fail
 clear cX_b cX_f cX_0 cX_1 cX_2 cX_3 cX_4 cX_5 cX_6 cX_7 cX_8 cX_9 cX_10
 refine (RB.out _).mono ?_; rintro e w1 ⟨rfl, b1⟩
 have d1 : Below w.heap.size w w1 := below_step gr0 b1
 have B1 := Lib.hid d1
 have X1 := B.keep d1
 clear B b1 d1
 go_wp2_with fail
 refine (need_no 4 _).mono ?_; rintro e u1 ⟨rfl, rfl⟩
 refine (show bodyPost _ _ _ (Exit.panic (gvP 4)) _ _ from ?_)
 simp only [bodyPost]
 exact ⟨trivial, by first | rfl | trivial, B1.out⟩
set_option maxHeartbeats 4000000 in
set_option maxRecDepth 100000 in
theorem rufields1_yes (p : Nat) (s t : ByteArray) (fy ty m k wk d sec base save : Int) (w : World) (B : Bk11 w p (.string s) (.int .i64 fy) (.int .i64 ty) (.int .i64 m) (.int .i64 k) (.int .i64 wk) (.int .i64 d) (.int .i64 sec) (.int .i64 base) (.int .i64 save) (.string t)) (hs : s.size ≤ maxLen) (ht : t.size ≤ 9223372036854775807) (hok : Ru.rB s t fy ty m k wk d sec base save = true) (tp : TypeId) (pp : Value) (y : Int) (L : Ru.Lv w tp pp y) :
  Calls Tryz.prog 14 #[.pointer (some ⟨p, 0, none⟩)] w fun e w' => ∃ (v : Value) (l : List ByteArray), StO w.heap.size w' v l ∧ l.map (·.data.toList) = (Ru.R.ts (⟨s, fy, ty, m, k, wk, d, sec, base, save, t⟩ : Ru.R)).map (·.data.toList) ∧ e = .returned v ∧ Below w.heap.size w w' := by
 have RB := Lib.hid (fun W => ruright_any s t fy ty m k wk d sec base save W hs ht)
 have LT := Lib.hid (fun W => lettertext_any t W ht)
 clear hs ht
 rw [hok] at RB
 obtain ⟨_, h1, h2, h3, _, _, h6, h7, h8⟩ := Ru.ok_of (r := (⟨s, fy, ty, m, k, wk, d, sec, base, save, t⟩ : Ru.R)) hok
 simp only [] at h1 h2 h3 h6 h7 h8
 have FT := Lib.hid (fun W (h : Ru.Lv W tp pp y) => yft_any fy W (by omega) (by omega) h.tab)
 have TT := Lib.hid (fun W (h : Ru.Lv W tp pp y) => ytt_any fy ty W (by omega) (by omega) h.tab)
 have DT := Lib.hid (fun W (h : Ru.Lv W tp pp y) => dspt_any k wk d W h.tab h.days)
 have KT := Lib.hid (fun W (h : Ru.Lv W tp pp y) => cltext_any sec base W h.ltr h.tab)
 have AT := Lib.hid (fun W (h : Ru.Lv W tp pp y) => atext_any save W (by omega) (by omega) h.tab)
 have MT := Lib.hid (fun W (h : Ru.Lv W tp pp y) => mtext_any m W h.mon)
 have HL := Lib.hid (fun W (b : Below w.heap.size w W) => L.on b)
 have e1 := Ru.ok_ft (r := (⟨s, fy, ty, m, k, wk, d, sec, base, save, t⟩ : Ru.R)) hok
 have e2 := Ru.ok_tt (r := (⟨s, fy, ty, m, k, wk, d, sec, base, save, t⟩ : Ru.R)) hok
 have e5 := Ru.ok_ds (r := (⟨s, fy, ty, m, k, wk, d, sec, base, save, t⟩ : Ru.R)) hok
 have e6 := Ru.ok_cl (r := (⟨s, fy, ty, m, k, wk, d, sec, base, save, t⟩ : Ru.R)) hok
 have e7 := Ru.ok_am (r := (⟨s, fy, ty, m, k, wk, d, sec, base, save, t⟩ : Ru.R)) hok
 simp only [] at e1 e2 e5 e6 e7
 rw [e1] at FT; rw [e2] at TT; rw [e5] at DT; rw [e6] at KT; rw [e7] at AT; rw [h8] at LT
 clear hok h1 h2 h3 h6 h7 h8 e1 e2 e5 e6 e7 L
 unfold Ru.R.ts
 simp only []
 generalize (Yr.ft fy).1 = x1 at *
 generalize (Yr.tt fy ty).1 = x2 at *
 generalize Wd.t3 Wd.months (m - 1) = x4 at *
 generalize (Ds.tx k wk d).1 = x5 at *
 generalize (Cl.tx sec base).1 = x6 at *
 generalize (Am.tx save).1 = x7 at *
 generalize (⟨(Fo.ltx t.data.toList).1.toArray⟩ : ByteArray) = x8 at *
 go_enter Tryz.func14, Tryz.ntmps14
 have tx := B; obtain ⟨cX_b, cX_f, cX_0, cX_1, cX_2, cX_3, cX_4, cX_5, cX_6, cX_7, cX_8, cX_9, cX_10⟩ := tx
 go_wp2_with fail
 clear cX_b cX_f cX_0 cX_1 cX_2 cX_3 cX_4 cX_5 cX_6 cX_7 cX_8 cX_9 cX_10
 refine (RB.out _).mono ?_; rintro e w1 ⟨rfl, b1⟩
 have d1 : Below w.heap.size w w1 := below_step gr0 b1
 have B1 := Lib.hid d1
 have X1 := B.keep d1
 clear B b1 d1
 have tx := X1; obtain ⟨cX_b, cX_f, cX_0, cX_1, cX_2, cX_3, cX_4, cX_5, cX_6, cX_7, cX_8, cX_9, cX_10⟩ := tx
 go_wp2_with fail
 clear cX_b cX_f cX_0 cX_1 cX_2 cX_3 cX_4 cX_5 cX_6 cX_7 cX_8 cX_9 cX_10
 refine (need_yes 4 _).mono ?_; rintro e v1 ⟨rfl, rfl⟩
 have tx := X1; obtain ⟨cX_b, cX_f, cX_0, cX_1, cX_2, cX_3, cX_4, cX_5, cX_6, cX_7, cX_8, cX_9, cX_10⟩ := tx
 go_wp2_with fail
 clear cX_b cX_f cX_0 cX_1 cX_2 cX_3 cX_4 cX_5 cX_6 cX_7 cX_8 cX_9 cX_10
 have qX_0 := cell_regrown X1.k0
 have qX_1 := cell_regrown X1.k1
 have qX_2 := cell_regrown X1.k2
 have qX_3 := cell_regrown X1.k3
 have qX_4 := cell_regrown X1.k4
 have qX_5 := cell_regrown X1.k5
 have qX_6 := cell_regrown X1.k6
 have qX_7 := cell_regrown X1.k7
 have qX_8 := cell_regrown X1.k8
 have qX_9 := cell_regrown X1.k9
 have qX_10 := cell_regrown X1.k10
 refine wp_region_qbt (w := w1) 43 (by kernel_rfl) (by kernel_rfl) gr0 ?_
 simp only [List.take_succ_cons, List.take_zero, List.drop_succ_cons, List.drop_zero]
 repeat (any_goals (first | go_big_quiet_step (first | (go_at_call 18; exact Calls.regrown_of (FT.out _ (HL.out _ (below_step B1.out (below_regrown _ _ _))))) | (go_at_call 19; exact Calls.regrown_of (TT.out _ (HL.out _ (below_step B1.out (below_regrown _ _ _))))) | (go_at_call 20; exact Calls.regrown_of (MT.out _ (HL.out _ (below_step B1.out (below_regrown _ _ _))))) | (go_at_call 21; exact Calls.regrown_of (DT.out _ (HL.out _ (below_step B1.out (below_regrown _ _ _))))) | (go_at_call 22; exact Calls.regrown_of (KT.out _ (HL.out _ (below_step B1.out (below_regrown _ _ _))))) | (go_at_call 23; exact Calls.regrown_of (AT.out _ (HL.out _ (below_step B1.out (below_regrown _ _ _))))) | (go_at_call 24; exact Calls.regrown_of ((LT.out _).mono fun _ _ h => ⟨h.1, h.2 ▸ Below.refl _ _⟩)) | (go_at_call 17; exact Calls.regrown_of ((musts_yes _ _).mono fun _ _ h => ⟨h.1, h.2 ▸ Below.refl _ _⟩))) | quiet_step (first | (go_at_call 18; exact Calls.regrown_of (FT.out _ (HL.out _ (below_step B1.out (below_regrown _ _ _))))) | (go_at_call 19; exact Calls.regrown_of (TT.out _ (HL.out _ (below_step B1.out (below_regrown _ _ _))))) | (go_at_call 20; exact Calls.regrown_of (MT.out _ (HL.out _ (below_step B1.out (below_regrown _ _ _))))) | (go_at_call 21; exact Calls.regrown_of (DT.out _ (HL.out _ (below_step B1.out (below_regrown _ _ _))))) | (go_at_call 22; exact Calls.regrown_of (KT.out _ (HL.out _ (below_step B1.out (below_regrown _ _ _))))) | (go_at_call 23; exact Calls.regrown_of (AT.out _ (HL.out _ (below_step B1.out (below_regrown _ _ _))))) | (go_at_call 24; exact Calls.regrown_of ((LT.out _).mono fun _ _ h => ⟨h.1, h.2 ▸ Below.refl _ _⟩)) | (go_at_call 17; exact Calls.regrown_of ((musts_yes _ _).mono fun _ _ h => ⟨h.1, h.2 ▸ Below.refl _ _⟩)))))
 refine wpQuiet_nil ?_
 intro w2 b2
 clear qX_0 qX_1 qX_2 qX_3 qX_4 qX_5 qX_6 qX_7 qX_8 qX_9 qX_10
 have d2 : Below w1.heap.size w1 w2 := below_step gr0 b2
 have B2 := Lib.hid (below_step B1.out d2)
 have X2 := X1.keep d2
 clear X1 b2 d2 B1
 go_wp2_with fail
 go_ret
 exact ⟨_, [s, x1, x2, ⟨#[45]⟩, x4, x5, x6, x7, x8], StO.nine _ _ _ _ _ B2.out.size, rfl, rfl, below_step B2.out ((Below.refl _ _).alloc (Nat.le_refl _) _)⟩
set_option maxRecDepth 100000 in
theorem ruf_callFn (qs : Array Value) (W : World) : Sem.run Tryz.prog (callFunc 14 qs) W = .ok (.enter 14 qs) W := rfl
set_option maxHeartbeats 4000000 in
set_option maxRecDepth 100000 in
theorem rufields_any (s t : ByteArray) (fy ty m k wk d sec base save : Int) (w : World) (hs : s.size ≤ maxLen) (ht : t.size ≤ 9223372036854775807) (tp : TypeId) (pp : Value) (y : Int) (L : Ru.Lv w tp pp y) :
  Calls Tryz.prog 5 #[.agg #[.string s, .int .i64 fy, .int .i64 ty, .int .i64 m, .int .i64 k, .int .i64 wk, .int .i64 d, .int .i64 sec, .int .i64 base, .int .i64 save, .string t]] w (AnsF (Ru.fl (⟨s, fy, ty, m, k, wk, d, sec, base, save, t⟩ : Ru.R)) w) := by
 have BB : Hid (Bk11 (w.alloc (.cells #[.string s, .int .i64 fy, .int .i64 ty, .int .i64 m, .int .i64 k, .int .i64 wk, .int .i64 d, .int .i64 sec, .int .i64 base, .int .i64 save, .string t] 27)) w.heap.size (.string s) (.int .i64 fy) (.int .i64 ty) (.int .i64 m) (.int .i64 k) (.int .i64 wk) (.int .i64 d) (.int .i64 sec) (.int .i64 base) (.int .i64 save) (.string t)) := ⟨by simp, by intro j; simp [go_sem], by simp [go_sem], by simp [go_sem], by simp [go_sem], by simp [go_sem], by simp [go_sem], by simp [go_sem], by simp [go_sem], by simp [go_sem], by simp [go_sem], by simp [go_sem], by simp [go_sem]⟩
 have b0 : Below w.heap.size w (w.alloc (.cells #[.string s, .int .i64 fy, .int .i64 ty, .int .i64 m, .int .i64 k, .int .i64 wk, .int .i64 d, .int .i64 sec, .int .i64 base, .int .i64 save, .string t] 27)) := (Below.refl _ _).alloc (Nat.le_refl _) _
 have HL := Lib.hid (L.on b0)
 cases hok : Ru.rB s t fy ty m k wk d sec base save
 ·
  have T := Lib.hid (tcaught_no 14 #[.pointer (some ⟨w.heap.size, 0, none⟩)] (ruf_callFn _) 0 4 _ (Lib.hid fun W' hB => rufields1_no w.heap.size s t fy ty m k wk d sec base save W' (BB.out.keep hB) hs ht hok))
  rw [Ru.fl_no (r := (⟨s, fy, ty, m, k, wk, d, sec, base, save, t⟩ : Ru.R)) hok]
  clear hok hs ht L HL BB b0
  go_enter Tryz.func5, Tryz.ntmps5
  go_wp2_with fail
  refine T.out.mono ?_; rintro e w1 ⟨rfl, b1⟩
  have B1 := Lib.hid (below_step ((Below.refl _ _).alloc (Nat.le_refl _) _) b1)
  clear b1
  go_wp2_with fail
  go_ret2
  exact ⟨_, [], Lst.nil _ _, rfl, rfl, B1.out⟩
 ·
  have T := Lib.hid (tcaught_yes 14 #[.pointer (some ⟨w.heap.size, 0, none⟩)] (ruf_callFn _) ((Ru.R.ts (⟨s, fy, ty, m, k, wk, d, sec, base, save, t⟩ : Ru.R)).map (·.data.toList)) _ (Lib.hid fun W' hB => rufields1_yes w.heap.size s t fy ty m k wk d sec base save W' (BB.out.keep hB) hs ht hok tp pp y (HL.out.on hB)))
  rw [Ru.fl_yes (r := (⟨s, fy, ty, m, k, wk, d, sec, base, save, t⟩ : Ru.R)) hok]
  generalize (Ru.R.ts (⟨s, fy, ty, m, k, wk, d, sec, base, save, t⟩ : Ru.R)).map (·.data.toList) = P at *
  clear hok hs ht L HL BB b0
  go_enter Tryz.func5, Tryz.ntmps5
  go_wp2_with fail
  refine T.out.mono ?_; rintro e w1 ⟨v, l, hst, hlp, rfl, b1⟩
  have B1 := Lib.hid (below_step ((Below.refl _ _).alloc (Nat.le_refl _) _) b1)
  have HS := Lib.hid hst; have HP := Lib.hid hlp
  clear b1 hst hlp
  go_wp2_with fail
  go_ret2
  exact ⟨v, l, HS.out, HP.out, rfl, B1.out⟩
end Go.Proofs.YtjggjkeopbcmoaaGreatDoor
set_option linter.unusedVariables false
set_option linter.unusedSimpArgs false
namespace Go.Proofs.YtjggjkeopbcmoaaGreatDoor
open Go.RowKit
structure Bk13 (W : World) (b : Nat) (v0 v1 v2 v3 v4 v5 v6 v7 v8 v9 v10 v11 v12 : Value) : Prop where
 hb : b < W.heap.size
 fz : ∀ j, W.frozen? ⟨b, j, none⟩ = false
 k0 : W.cell? ⟨b, 0, none⟩ = some v0
 k1 : W.cell? ⟨b, 1, none⟩ = some v1
 k2 : W.cell? ⟨b, 2, none⟩ = some v2
 k3 : W.cell? ⟨b, 3, none⟩ = some v3
 k4 : W.cell? ⟨b, 4, none⟩ = some v4
 k5 : W.cell? ⟨b, 5, none⟩ = some v5
 k6 : W.cell? ⟨b, 6, none⟩ = some v6
 k7 : W.cell? ⟨b, 7, none⟩ = some v7
 k8 : W.cell? ⟨b, 8, none⟩ = some v8
 k9 : W.cell? ⟨b, 9, none⟩ = some v9
 k10 : W.cell? ⟨b, 10, none⟩ = some v10
 k11 : W.cell? ⟨b, 11, none⟩ = some v11
 k12 : W.cell? ⟨b, 12, none⟩ = some v12
theorem Bk13.of {W w1 : World} {b : Nat} {v0 v1 v2 v3 v4 v5 v6 v7 v8 v9 v10 v11 v12 : Value} (k : Below W.heap.size W w1) (hb : b < W.heap.size) (hf : ∀ j, W.frozen? ⟨b, j, none⟩ = false) (h0 : W.cell? ⟨b, 0, none⟩ = some v0) (h1 : W.cell? ⟨b, 1, none⟩ = some v1) (h2 : W.cell? ⟨b, 2, none⟩ = some v2) (h3 : W.cell? ⟨b, 3, none⟩ = some v3) (h4 : W.cell? ⟨b, 4, none⟩ = some v4) (h5 : W.cell? ⟨b, 5, none⟩ = some v5) (h6 : W.cell? ⟨b, 6, none⟩ = some v6) (h7 : W.cell? ⟨b, 7, none⟩ = some v7) (h8 : W.cell? ⟨b, 8, none⟩ = some v8) (h9 : W.cell? ⟨b, 9, none⟩ = some v9) (h10 : W.cell? ⟨b, 10, none⟩ = some v10) (h11 : W.cell? ⟨b, 11, none⟩ = some v11) (h12 : W.cell? ⟨b, 12, none⟩ = some v12) : Bk13 w1 b v0 v1 v2 v3 v4 v5 v6 v7 v8 v9 v10 v11 v12 :=
 ⟨Nat.lt_of_lt_of_le hb k.size, fun j => (k.frozen (p := ⟨b, j, none⟩) hb).trans (hf j), (k.cell (p := ⟨b, 0, none⟩) hb).trans h0, (k.cell (p := ⟨b, 1, none⟩) hb).trans h1, (k.cell (p := ⟨b, 2, none⟩) hb).trans h2, (k.cell (p := ⟨b, 3, none⟩) hb).trans h3, (k.cell (p := ⟨b, 4, none⟩) hb).trans h4, (k.cell (p := ⟨b, 5, none⟩) hb).trans h5, (k.cell (p := ⟨b, 6, none⟩) hb).trans h6, (k.cell (p := ⟨b, 7, none⟩) hb).trans h7, (k.cell (p := ⟨b, 8, none⟩) hb).trans h8, (k.cell (p := ⟨b, 9, none⟩) hb).trans h9, (k.cell (p := ⟨b, 10, none⟩) hb).trans h10, (k.cell (p := ⟨b, 11, none⟩) hb).trans h11, (k.cell (p := ⟨b, 12, none⟩) hb).trans h12⟩
theorem Bk13.keep {W w1 : World} {b : Nat} {v0 v1 v2 v3 v4 v5 v6 v7 v8 v9 v10 v11 v12 : Value} (h : Bk13 W b v0 v1 v2 v3 v4 v5 v6 v7 v8 v9 v10 v11 v12) (k : Below W.heap.size W w1) : Bk13 w1 b v0 v1 v2 v3 v4 v5 v6 v7 v8 v9 v10 v11 v12 :=
 Bk13.of k h.hb h.fz h.k0 h.k1 h.k2 h.k3 h.k4 h.k5 h.k6 h.k7 h.k8 h.k9 h.k10 h.k11 h.k12
theorem Bk13.set1 {W W9 : World} {b : Nat} {v z0 z1 z2 z3 z4 z5 z6 z7 z8 z9 z10 z11 z12 : Value} (h : Bk13 W b z0 z1 z2 z3 z4 z5 z6 z7 z8 z9 z10 z11 z12) (e : W9 = W.setCell ⟨b, 1, none⟩ v) : Bk13 W9 b z0 v z2 z3 z4 z5 z6 z7 z8 z9 z10 z11 z12 := by
 subst e
 have hb := h.hb; have hf := h.fz
 have h0 := h.k0; have h1 := h.k1; have h2 := h.k2; have h3 := h.k3; have h4 := h.k4; have h5 := h.k5; have h6 := h.k6; have h7 := h.k7; have h8 := h.k8; have h9 := h.k9; have h10 := h.k10; have h11 := h.k11; have h12 := h.k12
 clear h
 exact ⟨by simpa using hb, fun j => by simpa using hf j, by simp [go_sem, h0], by simp [go_sem, h1], by simp [go_sem, h2], by simp [go_sem, h3], by simp [go_sem, h4], by simp [go_sem, h5], by simp [go_sem, h6], by simp [go_sem, h7], by simp [go_sem, h8], by simp [go_sem, h9], by simp [go_sem, h10], by simp [go_sem, h11], by simp [go_sem, h12]⟩
theorem Bk13.set2 {W W9 : World} {b : Nat} {v z0 z1 z2 z3 z4 z5 z6 z7 z8 z9 z10 z11 z12 : Value} (h : Bk13 W b z0 z1 z2 z3 z4 z5 z6 z7 z8 z9 z10 z11 z12) (e : W9 = W.setCell ⟨b, 2, none⟩ v) : Bk13 W9 b z0 z1 v z3 z4 z5 z6 z7 z8 z9 z10 z11 z12 := by
 subst e
 have hb := h.hb; have hf := h.fz
 have h0 := h.k0; have h1 := h.k1; have h2 := h.k2; have h3 := h.k3; have h4 := h.k4; have h5 := h.k5; have h6 := h.k6; have h7 := h.k7; have h8 := h.k8; have h9 := h.k9; have h10 := h.k10; have h11 := h.k11; have h12 := h.k12
 clear h
 exact ⟨by simpa using hb, fun j => by simpa using hf j, by simp [go_sem, h0], by simp [go_sem, h1], by simp [go_sem, h2], by simp [go_sem, h3], by simp [go_sem, h4], by simp [go_sem, h5], by simp [go_sem, h6], by simp [go_sem, h7], by simp [go_sem, h8], by simp [go_sem, h9], by simp [go_sem, h10], by simp [go_sem, h11], by simp [go_sem, h12]⟩
theorem Bk13.set5 {W W9 : World} {b : Nat} {v z0 z1 z2 z3 z4 z5 z6 z7 z8 z9 z10 z11 z12 : Value} (h : Bk13 W b z0 z1 z2 z3 z4 z5 z6 z7 z8 z9 z10 z11 z12) (e : W9 = W.setCell ⟨b, 5, none⟩ v) : Bk13 W9 b z0 z1 z2 z3 z4 v z6 z7 z8 z9 z10 z11 z12 := by
 subst e
 have hb := h.hb; have hf := h.fz
 have h0 := h.k0; have h1 := h.k1; have h2 := h.k2; have h3 := h.k3; have h4 := h.k4; have h5 := h.k5; have h6 := h.k6; have h7 := h.k7; have h8 := h.k8; have h9 := h.k9; have h10 := h.k10; have h11 := h.k11; have h12 := h.k12
 clear h
 exact ⟨by simpa using hb, fun j => by simpa using hf j, by simp [go_sem, h0], by simp [go_sem, h1], by simp [go_sem, h2], by simp [go_sem, h3], by simp [go_sem, h4], by simp [go_sem, h5], by simp [go_sem, h6], by simp [go_sem, h7], by simp [go_sem, h8], by simp [go_sem, h9], by simp [go_sem, h10], by simp [go_sem, h11], by simp [go_sem, h12]⟩
theorem Bk13.set6 {W W9 : World} {b : Nat} {v z0 z1 z2 z3 z4 z5 z6 z7 z8 z9 z10 z11 z12 : Value} (h : Bk13 W b z0 z1 z2 z3 z4 z5 z6 z7 z8 z9 z10 z11 z12) (e : W9 = W.setCell ⟨b, 6, none⟩ v) : Bk13 W9 b z0 z1 z2 z3 z4 z5 v z7 z8 z9 z10 z11 z12 := by
 subst e
 have hb := h.hb; have hf := h.fz
 have h0 := h.k0; have h1 := h.k1; have h2 := h.k2; have h3 := h.k3; have h4 := h.k4; have h5 := h.k5; have h6 := h.k6; have h7 := h.k7; have h8 := h.k8; have h9 := h.k9; have h10 := h.k10; have h11 := h.k11; have h12 := h.k12
 clear h
 exact ⟨by simpa using hb, fun j => by simpa using hf j, by simp [go_sem, h0], by simp [go_sem, h1], by simp [go_sem, h2], by simp [go_sem, h3], by simp [go_sem, h4], by simp [go_sem, h5], by simp [go_sem, h6], by simp [go_sem, h7], by simp [go_sem, h8], by simp [go_sem, h9], by simp [go_sem, h10], by simp [go_sem, h11], by simp [go_sem, h12]⟩
theorem Bk13.set7 {W W9 : World} {b : Nat} {v z0 z1 z2 z3 z4 z5 z6 z7 z8 z9 z10 z11 z12 : Value} (h : Bk13 W b z0 z1 z2 z3 z4 z5 z6 z7 z8 z9 z10 z11 z12) (e : W9 = W.setCell ⟨b, 7, none⟩ v) : Bk13 W9 b z0 z1 z2 z3 z4 z5 z6 v z8 z9 z10 z11 z12 := by
 subst e
 have hb := h.hb; have hf := h.fz
 have h0 := h.k0; have h1 := h.k1; have h2 := h.k2; have h3 := h.k3; have h4 := h.k4; have h5 := h.k5; have h6 := h.k6; have h7 := h.k7; have h8 := h.k8; have h9 := h.k9; have h10 := h.k10; have h11 := h.k11; have h12 := h.k12
 clear h
 exact ⟨by simpa using hb, fun j => by simpa using hf j, by simp [go_sem, h0], by simp [go_sem, h1], by simp [go_sem, h2], by simp [go_sem, h3], by simp [go_sem, h4], by simp [go_sem, h5], by simp [go_sem, h6], by simp [go_sem, h7], by simp [go_sem, h8], by simp [go_sem, h9], by simp [go_sem, h10], by simp [go_sem, h11], by simp [go_sem, h12]⟩
theorem Bk13.set8 {W W9 : World} {b : Nat} {v z0 z1 z2 z3 z4 z5 z6 z7 z8 z9 z10 z11 z12 : Value} (h : Bk13 W b z0 z1 z2 z3 z4 z5 z6 z7 z8 z9 z10 z11 z12) (e : W9 = W.setCell ⟨b, 8, none⟩ v) : Bk13 W9 b z0 z1 z2 z3 z4 z5 z6 z7 v z9 z10 z11 z12 := by
 subst e
 have hb := h.hb; have hf := h.fz
 have h0 := h.k0; have h1 := h.k1; have h2 := h.k2; have h3 := h.k3; have h4 := h.k4; have h5 := h.k5; have h6 := h.k6; have h7 := h.k7; have h8 := h.k8; have h9 := h.k9; have h10 := h.k10; have h11 := h.k11; have h12 := h.k12
 clear h
 exact ⟨by simpa using hb, fun j => by simpa using hf j, by simp [go_sem, h0], by simp [go_sem, h1], by simp [go_sem, h2], by simp [go_sem, h3], by simp [go_sem, h4], by simp [go_sem, h5], by simp [go_sem, h6], by simp [go_sem, h7], by simp [go_sem, h8], by simp [go_sem, h9], by simp [go_sem, h10], by simp [go_sem, h11], by simp [go_sem, h12]⟩
theorem Bk13.set9 {W W9 : World} {b : Nat} {v z0 z1 z2 z3 z4 z5 z6 z7 z8 z9 z10 z11 z12 : Value} (h : Bk13 W b z0 z1 z2 z3 z4 z5 z6 z7 z8 z9 z10 z11 z12) (e : W9 = W.setCell ⟨b, 9, none⟩ v) : Bk13 W9 b z0 z1 z2 z3 z4 z5 z6 z7 z8 v z10 z11 z12 := by
 subst e
 have hb := h.hb; have hf := h.fz
 have h0 := h.k0; have h1 := h.k1; have h2 := h.k2; have h3 := h.k3; have h4 := h.k4; have h5 := h.k5; have h6 := h.k6; have h7 := h.k7; have h8 := h.k8; have h9 := h.k9; have h10 := h.k10; have h11 := h.k11; have h12 := h.k12
 clear h
 exact ⟨by simpa using hb, fun j => by simpa using hf j, by simp [go_sem, h0], by simp [go_sem, h1], by simp [go_sem, h2], by simp [go_sem, h3], by simp [go_sem, h4], by simp [go_sem, h5], by simp [go_sem, h6], by simp [go_sem, h7], by simp [go_sem, h8], by simp [go_sem, h9], by simp [go_sem, h10], by simp [go_sem, h11], by simp [go_sem, h12]⟩
theorem Bk13.set10 {W W9 : World} {b : Nat} {v z0 z1 z2 z3 z4 z5 z6 z7 z8 z9 z10 z11 z12 : Value} (h : Bk13 W b z0 z1 z2 z3 z4 z5 z6 z7 z8 z9 z10 z11 z12) (e : W9 = W.setCell ⟨b, 10, none⟩ v) : Bk13 W9 b z0 z1 z2 z3 z4 z5 z6 z7 z8 z9 v z11 z12 := by
 subst e
 have hb := h.hb; have hf := h.fz
 have h0 := h.k0; have h1 := h.k1; have h2 := h.k2; have h3 := h.k3; have h4 := h.k4; have h5 := h.k5; have h6 := h.k6; have h7 := h.k7; have h8 := h.k8; have h9 := h.k9; have h10 := h.k10; have h11 := h.k11; have h12 := h.k12
 clear h
 exact ⟨by simpa using hb, fun j => by simpa using hf j, by simp [go_sem, h0], by simp [go_sem, h1], by simp [go_sem, h2], by simp [go_sem, h3], by simp [go_sem, h4], by simp [go_sem, h5], by simp [go_sem, h6], by simp [go_sem, h7], by simp [go_sem, h8], by simp [go_sem, h9], by simp [go_sem, h10], by simp [go_sem, h11], by simp [go_sem, h12]⟩
theorem Bk13.set11 {W W9 : World} {b : Nat} {v z0 z1 z2 z3 z4 z5 z6 z7 z8 z9 z10 z11 z12 : Value} (h : Bk13 W b z0 z1 z2 z3 z4 z5 z6 z7 z8 z9 z10 z11 z12) (e : W9 = W.setCell ⟨b, 11, none⟩ v) : Bk13 W9 b z0 z1 z2 z3 z4 z5 z6 z7 z8 z9 z10 v z12 := by
 subst e
 have hb := h.hb; have hf := h.fz
 have h0 := h.k0; have h1 := h.k1; have h2 := h.k2; have h3 := h.k3; have h4 := h.k4; have h5 := h.k5; have h6 := h.k6; have h7 := h.k7; have h8 := h.k8; have h9 := h.k9; have h10 := h.k10; have h11 := h.k11; have h12 := h.k12
 clear h
 exact ⟨by simpa using hb, fun j => by simpa using hf j, by simp [go_sem, h0], by simp [go_sem, h1], by simp [go_sem, h2], by simp [go_sem, h3], by simp [go_sem, h4], by simp [go_sem, h5], by simp [go_sem, h6], by simp [go_sem, h7], by simp [go_sem, h8], by simp [go_sem, h9], by simp [go_sem, h10], by simp [go_sem, h11], by simp [go_sem, h12]⟩
theorem Bk13.set12 {W W9 : World} {b : Nat} {v z0 z1 z2 z3 z4 z5 z6 z7 z8 z9 z10 z11 z12 : Value} (h : Bk13 W b z0 z1 z2 z3 z4 z5 z6 z7 z8 z9 z10 z11 z12) (e : W9 = W.setCell ⟨b, 12, none⟩ v) : Bk13 W9 b z0 z1 z2 z3 z4 z5 z6 z7 z8 z9 z10 z11 v := by
 subst e
 have hb := h.hb; have hf := h.fz
 have h0 := h.k0; have h1 := h.k1; have h2 := h.k2; have h3 := h.k3; have h4 := h.k4; have h5 := h.k5; have h6 := h.k6; have h7 := h.k7; have h8 := h.k8; have h9 := h.k9; have h10 := h.k10; have h11 := h.k11; have h12 := h.k12
 clear h
 exact ⟨by simpa using hb, fun j => by simpa using hf j, by simp [go_sem, h0], by simp [go_sem, h1], by simp [go_sem, h2], by simp [go_sem, h3], by simp [go_sem, h4], by simp [go_sem, h5], by simp [go_sem, h6], by simp [go_sem, h7], by simp [go_sem, h8], by simp [go_sem, h9], by simp [go_sem, h10], by simp [go_sem, h11], by simp [go_sem, h12]⟩
theorem Bk13.other {W W9 : World} {b c i : Nat} {v z0 z1 z2 z3 z4 z5 z6 z7 z8 z9 z10 z11 z12 : Value} (h : Bk13 W b z0 z1 z2 z3 z4 z5 z6 z7 z8 z9 z10 z11 z12) (e : W9 = W.setCell ⟨c, i, none⟩ v) (hne : c ≠ b) : Bk13 W9 b z0 z1 z2 z3 z4 z5 z6 z7 z8 z9 z10 z11 z12 := by
 subst e
 have hb := h.hb; have hf := h.fz; have hne2 := Ne.symm hne
 have h0 := h.k0; have h1 := h.k1; have h2 := h.k2; have h3 := h.k3; have h4 := h.k4; have h5 := h.k5; have h6 := h.k6; have h7 := h.k7; have h8 := h.k8; have h9 := h.k9; have h10 := h.k10; have h11 := h.k11; have h12 := h.k12
 clear h
 exact ⟨by simpa using hb, fun j => by simpa using hf j, by simp [go_sem, h0, hne, hne2], by simp [go_sem, h1, hne, hne2], by simp [go_sem, h2, hne, hne2], by simp [go_sem, h3, hne, hne2], by simp [go_sem, h4, hne, hne2], by simp [go_sem, h5, hne, hne2], by simp [go_sem, h6, hne, hne2], by simp [go_sem, h7, hne, hne2], by simp [go_sem, h8, hne, hne2], by simp [go_sem, h9, hne, hne2], by simp [go_sem, h10, hne, hne2], by simp [go_sem, h11, hne, hne2], by simp [go_sem, h12, hne, hne2]⟩
theorem set13 {W W9 : World} {b : Nat} {z0 z1 z2 z3 z4 z5 z6 z7 z8 z9 z10 z11 z12 v0 v1 v2 v3 v4 v5 v6 v7 v8 v9 v10 v11 v12 : Value} (h : Bk13 W b z0 z1 z2 z3 z4 z5 z6 z7 z8 z9 z10 z11 z12) (e : W9 = (((((((((((((W.setCell ⟨b, 0, none⟩ v0).setCell ⟨b, 1, none⟩ v1).setCell ⟨b, 2, none⟩ v2).setCell ⟨b, 3, none⟩ v3).setCell ⟨b, 4, none⟩ v4).setCell ⟨b, 5, none⟩ v5).setCell ⟨b, 6, none⟩ v6).setCell ⟨b, 7, none⟩ v7).setCell ⟨b, 8, none⟩ v8).setCell ⟨b, 9, none⟩ v9).setCell ⟨b, 10, none⟩ v10).setCell ⟨b, 11, none⟩ v11).setCell ⟨b, 12, none⟩ v12)) : Bk13 W9 b v0 v1 v2 v3 v4 v5 v6 v7 v8 v9 v10 v11 v12 := by
 subst e
 have hb := h.hb; have hf := h.fz
 have h0 := h.k0; have h1 := h.k1; have h2 := h.k2; have h3 := h.k3; have h4 := h.k4; have h5 := h.k5; have h6 := h.k6; have h7 := h.k7; have h8 := h.k8; have h9 := h.k9; have h10 := h.k10; have h11 := h.k11; have h12 := h.k12
 clear h
 exact ⟨by simpa using hb, fun j => by simpa using hf j, by simp [go_sem, h0, h1, h2, h3, h4, h5, h6, h7, h8, h9, h10, h11, h12], by simp [go_sem, h0, h1, h2, h3, h4, h5, h6, h7, h8, h9, h10, h11, h12], by simp [go_sem, h0, h1, h2, h3, h4, h5, h6, h7, h8, h9, h10, h11, h12], by simp [go_sem, h0, h1, h2, h3, h4, h5, h6, h7, h8, h9, h10, h11, h12], by simp [go_sem, h0, h1, h2, h3, h4, h5, h6, h7, h8, h9, h10, h11, h12], by simp [go_sem, h0, h1, h2, h3, h4, h5, h6, h7, h8, h9, h10, h11, h12], by simp [go_sem, h0, h1, h2, h3, h4, h5, h6, h7, h8, h9, h10, h11, h12], by simp [go_sem, h0, h1, h2, h3, h4, h5, h6, h7, h8, h9, h10, h11, h12], by simp [go_sem, h0, h1, h2, h3, h4, h5, h6, h7, h8, h9, h10, h11, h12], by simp [go_sem, h0, h1, h2, h3, h4, h5, h6, h7, h8, h9, h10, h11, h12], by simp [go_sem, h0, h1, h2, h3, h4, h5, h6, h7, h8, h9, h10, h11, h12], by simp [go_sem, h0, h1, h2, h3, h4, h5, h6, h7, h8, h9, h10, h11, h12], by simp [go_sem, h0, h1, h2, h3, h4, h5, h6, h7, h8, h9, h10, h11, h12]⟩
theorem below_set13 {W W9 : World} {b n : Nat} {u : World} {v0 v1 v2 v3 v4 v5 v6 v7 v8 v9 v10 v11 v12 : Value} (h : Below n u W) (hb : n ≤ b) (e : W9 = (((((((((((((W.setCell ⟨b, 0, none⟩ v0).setCell ⟨b, 1, none⟩ v1).setCell ⟨b, 2, none⟩ v2).setCell ⟨b, 3, none⟩ v3).setCell ⟨b, 4, none⟩ v4).setCell ⟨b, 5, none⟩ v5).setCell ⟨b, 6, none⟩ v6).setCell ⟨b, 7, none⟩ v7).setCell ⟨b, 8, none⟩ v8).setCell ⟨b, 9, none⟩ v9).setCell ⟨b, 10, none⟩ v10).setCell ⟨b, 11, none⟩ v11).setCell ⟨b, 12, none⟩ v12)) : Below n u W9 := by
 subst e
 iterate 13 (refine Below.setCell ?_ (by simpa using hb) _)
 exact h
section
variable {P : Program} {ops : Array Oper} {rest : List Oper} {o : Oper} {a : Act} {w : World} {Q : Exit → Act → World → Prop}
theorem wpList_st13 (hgd : o.guard = none) (ty : TypeId) (x y : Operand) (ho : o.op = .store ty x y) (b : Nat) (v0 v1 v2 v3 v4 v5 v6 v7 v8 v9 v10 v11 v12 : Value) (hx : a.eval x = .pointer (some ⟨b, 0, none⟩)) (hy : a.eval y = .agg #[v0, v1, v2, v3, v4, v5, v6, v7, v8, v9, v10, v11, v12])
  (hi : (P.info? ty).map (·.size) = some 13) {z0 z1 z2 z3 z4 z5 z6 z7 z8 z9 z10 z11 z12 : Value} (B : Bk13 w b z0 z1 z2 z3 z4 z5 z6 z7 z8 z9 z10 z11 z12) (h1 : ∀ v ∈ [v0, v1, v2, v3, v4, v5, v6, v7, v8, v9, v10, v11, v12], v.oneCell' = true)
  (h : ∀ W9, Bk13 W9 b v0 v1 v2 v3 v4 v5 v6 v7 v8 v9 v10 v11 v12 → (∀ n u, n ≤ b → Below n u w → Below n u W9) → wpList P ops Q rest (a.put o.dst undef) W9) : wpList P ops Q (o :: rest) a w := by
 have hb := B.hb
 have hst := run_storeCells_cells (P := P) b 0 [v0, v1, v2, v3, v4, v5, v6, v7, v8, v9, v10, v11, v12] 0 w (fun j hj => by
   simp only [Nat.zero_add]
   match j, hj with
   | 0, _ => rw [B.k0]; rfl
   | 1, _ => rw [B.k1]; rfl
   | 2, _ => rw [B.k2]; rfl
   | 3, _ => rw [B.k3]; rfl
   | 4, _ => rw [B.k4]; rfl
   | 5, _ => rw [B.k5]; rfl
   | 6, _ => rw [B.k6]; rfl
   | 7, _ => rw [B.k7]; rfl
   | 8, _ => rw [B.k8]; rfl
   | 9, _ => rw [B.k9]; rfl
   | 10, _ => rw [B.k10]; rfl
   | 11, _ => rw [B.k11]; rfl
   | 12, _ => rw [B.k12]; rfl
   | n + 13, hj => simp at hj; omega) (fun j hj => by simp only [Nat.zero_add]; exact B.fz j) h1
 cases hq : P.info? ty with
 | none => simp [hq] at hi
 | some i =>
  have hs : i.size = 13 := by simpa [hq] using hi
  have hrun : (storeVar ty ⟨b, 0, none⟩ (.agg #[v0, v1, v2, v3, v4, v5, v6, v7, v8, v9, v10, v11, v12])).run P w = .ok () (w.setCells b 0 [v0, v1, v2, v3, v4, v5, v6, v7, v8, v9, v10, v11, v12]) := by
   simp [storeVar, sizeOf, typeInfo, hq, Value.cells, hs, hst]
  refine wpList_plain hgd fun K hK => ?_
  unfold Oper.wp execOp
  simp only [ho, hx, hy, Instr.storeAt, Instr.sureAddr, Sem.run_bind, Sem.run_pure, Result.andThen_ok, hrun]
  refine hK _ _ (h _ (set13 B rfl) (fun n u hn hu => below_set13 hu hn rfl))
end
end Go.Proofs.YtjggjkeopbcmoaaGreatDoor
