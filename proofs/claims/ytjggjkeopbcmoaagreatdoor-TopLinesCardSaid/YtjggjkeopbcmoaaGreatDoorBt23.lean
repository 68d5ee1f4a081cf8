/- Joined: ApL, ErK, ErL, GvX, ErM. -/
import Derived.Test.YtjggjkeopbcmoaaGreatDoorBt01
import Derived.Laws.AppendOwnNone
import Derived.Test.YtjggjkeopbcmoaaGreatDoorBt22
import Derived.Test.YtjggjkeopbcmoaaGreatDoorBt19
import Derived.Test.YtjggjkeopbcmoaaGreatDoorBt16
import Derived.Laws.OwnMore
import Derived.Test.YtjggjkeopbcmoaaGreatDoorBt13
set_option linter.unusedVariables false
set_option linter.unusedSimpArgs false
namespace Go.Proofs.YtjggjkeopbcmoaaGreatDoor
open Go.RowKit Go.Sort
theorem run_append_none_c {P : Program} {w : World} (base : Nat) (t ty e : TypeId) (i : TypeInfo) (size : Nat) (ht : P.underlying t = some (.slice e)) (hi : P.info? e = some i)
  (v : Value) (n c : Nat) (xs : List Value) (hown : w.ownsRow base e size v n xs) :
  (Builtin.append_ #[t, t] ty #[v, .slice none 0 c]).run P w = .ok v w := by
 rcases hown.2 with ⟨rfl, rfl⟩ | ⟨g, cap, cur, rfl, _, _, hnc, _⟩
 ·
  simp [Builtin.append_, run_underlying ht, sizeOf, typeInfo, hi, Builtin.lenOf, Builtin.firstCells]
 ·
  simp [Builtin.append_, run_underlying ht, sizeOf, typeInfo, hi, Builtin.lenOf, Builtin.firstCells, hnc, storeCells]
theorem wpList_append_lst {P : Program} {w : World} {ops : Array Oper} {rest : List Oper} {o : Oper} {a : Act} {Q : Exit → Act → World → Prop} (hgd : o.guard = none) (s x : Operand) (t : TypeId)
  (ho : o.op = .call { callee := .builtin .append, args := #[s, x], argTypes := #[t, t] })
  (base : Nat) (e : TypeId) (i : TypeInfo) (z : Value) (size bytes : Nat) (ht : P.underlying t = some (.slice e)) (hi : P.info? e = some i) (hz : i.zero = some z)
  (hsize : i.size = size) (hby : i.bytes = bytes) (hzs : z.cells.size = size) (hsz : 0 < size)
  (v : Value) (n : Nat) (xs : List Value) (hs : a.eval s = v) (hown : w.ownsRow base e size v n xs)
  (B m : Nat) (vx : Value) (news : List Value) (hx : a.eval x = vx) (hL : Lst w B vx m news) (hl : news.length = m * size) (h1 : ∀ u ∈ news, u.oneCell' = true)
  (h63 : n + m ≤ maxLen) (hbytes : (n + m) * bytes ≤ 140737488355328) (hbase : base ≤ w.heap.size)
  (h : ∀ v' w', w'.ownsRow base e size v' (n + m) (xs ++ news) → w.grownBy w' v.ownBlock → wpList P ops Q rest (a.put o.dst v') w') : wpList P ops Q (o :: rest) a w := by
 obtain ⟨A, c, rfl, hA⟩ := hL
 rcases Nat.eq_zero_or_pos m with h0 | h0
 ·
  subst h0
  have hn : news = [] := List.eq_nil_of_length_eq_zero (by rw [hl, Nat.zero_mul])
  subst hn
  cases A with
  | none =>
   refine wpList_plain hgd fun K hK => ?_
   have hrun := run_append_none_c (P := P) (w := w) base t o.type e i size ht hi v n c xs hown
   unfold Oper.wp
   simp [execOp, ho, resolve, invoke, builtin, hs, hx, hrun, Result.andThen]
   exact hK _ _ (h v w (by simpa using hown) ⟨rfl, rfl, rfl, Nat.le_refl _, fun _ _ _ => rfl⟩)
  | some ad => exact wpList_append_own _ hgd s x t ho base e i z size bytes ht hi hz hsize hby hzs hsz v n xs hs hown ad 0 c [] hx hl (fun j u hu => by simp at hu) h1 h63 hbytes hbase fun v' w' h2 h3 _ => h v' w' h2 h3
 ·
  obtain ⟨ad, rfl, _, hc⟩ := hA h0
  exact wpList_append_own _ hgd s x t ho base e i z size bytes ht hi hz hsize hby hzs hsz v n xs hs hown ad m c news hx hl hc h1 h63 hbytes hbase fun v' w' h2 h3 _ => h v' w' h2 h3
namespace Er
def U.last (u : U) : Nat := if ¬ (u.sec = 0 ∧ u.base = 0) then 3 else if ¬ (u.k = 0 ∧ u.wk = 0 ∧ u.d = 1) then 2 else if ¬ u.m = 1 then 1 else 0
theorem U.last_le (u : U) : u.last ≤ 3 := by unfold U.last; split <;> (try split) <;> (try split) <;> omega
def U.ts (u : U) : List ByteArray := [Yr.tI u.y, Wd.t3 Wd.months (u.m - 1), (Ds.tx u.k u.wk u.d).1, (Cl.tx u.sec u.base).1]
def U.et (u : U) : List ByteArray := if u.h = true then u.ts.take (u.last + 1) else []
def rtx (kind save : Int) (rs : ByteArray) : ByteArray := if kind = 1 then (Am.tx save).1 else if kind = 2 then rs else ⟨#[45]⟩
def E.ts (e : E) : List ByteArray := [(Am.tx e.off).1, rtx e.kind e.save e.rs, e.fm] ++ e.u.et
def E.ok (e : E) : Bool := Er.ok e.off e.kind e.save e.rs e.fm e.u.h e.u.y e.u.m e.u.k e.u.wk e.u.d e.u.sec e.u.base
def fl (e : E) : List (List UInt8) × Int := if e.ok = true then (e.ts.map (·.data.toList), 0) else ([], 4)
theorem fl_yes {e : E} (h : e.ok = true) : fl e = (e.ts.map (·.data.toList), 0) := if_pos h
theorem fl_no {e : E} (h : e.ok = false) : fl e = ([], 4) := if_neg (by rw [h]; decide)
theorem ok_of {e : E} (h : e.ok = true) : -54000 ≤ e.off ∧ e.off ≤ 54000 ∧ rulR e.kind e.save e.rs = true ∧ (Fo.kd e.fm.data.toList).2 = 0 ∧ endR e.u.h e.u.y e.u.m e.u.k e.u.wk e.u.d e.u.sec e.u.base = true := by
 unfold E.ok Er.ok at h
 simp only [Bool.and_eq_true, decide_eq_true_eq, beq_iff_eq] at h
 exact h
theorem end_of {u : U} (h : endR u.h u.y u.m u.k u.wk u.d u.sec u.base = true) (h1 : u.h = true) : -32767 < u.y ∧ u.y < 32767 ∧ Dr.onF u.k u.wk u.d u.m = true ∧ Cl.rB u.sec u.base = true := by
 unfold endR at h
 rw [if_pos h1] at h
 simp only [Bool.and_eq_true, decide_eq_true_eq] at h
 exact h
theorem save_of {kind save : Int} {rs : ByteArray} (h : rulR kind save rs = true) : -10800 ≤ save ∧ save ≤ 10800 := by
 unfold rulR at h
 split at h
 ·
  simp at h; omega
 ·
  split at h
  ·
   simp at h; omega
  ·
   split at h
   ·
    simp at h; omega
   ·
    exact absurd h (by decide)
theorem am_ok {n : Int} (h0 : -54000 ≤ n) (h1 : n ≤ 54000) : (Am.tx n).2 = 0 := by
 unfold Am.tx
 rw [if_neg (by omega)]
 split
 ·
  rfl
 ·
  split <;> rfl
theorem ds_ok {k wk d m : Int} (h : Dr.onF k wk d m = true) : (Ds.tx k wk d).2 = 0 := by
 unfold Ds.tx
 rw [if_pos (Dr.onF_true.1 h).1]
theorem cl_ok {sec base : Int} (h : Cl.rB sec base = true) : (Cl.tx sec base).2 = 0 := by
 unfold Cl.tx
 rw [if_neg (by rw [h]; decide)]
 split <;> rfl
end Er
theorem sts_four {W : World} {b : Nat} {t0 t1 t2 t3 : ByteArray} (B : Bk4 W b (.string t0) (.string t1) (.string t2) (.string t3)) (k : Nat) (hk : k ≤ 4) (c : Nat) :
  StS W (.slice (some ⟨b, 0, none⟩) k c) ([t0, t1, t2, t3].take k) := by
 have hl : ([t0, t1, t2, t3].take k).length = k := by rw [List.length_take]; simp; omega
 refine ⟨_, c, by rw [hl], fun _ => ⟨_, rfl, B.hb, fun j u hj => ?_⟩⟩
 have hj4 : ([t0, t1, t2, t3].map Value.string)[j]? = some u := by
  rw [List.getElem?_map] at hj ⊢
  cases hx : ([t0, t1, t2, t3].take k)[j]? with
  | none => rw [hx] at hj; cases hj
  | some z =>
   rw [hx] at hj
   rw [List.getElem?_take] at hx
   split at hx
   ·
    rw [hx]; exact hj
   ·
    cases hx
 rw [show (⟨b, 0, none⟩ : Addr).add j = ⟨b, j, none⟩ by simp [Addr.add]; exact fun h => h.symm]
 match j, hj4 with
 | 0, h => exact B.k0.trans h
 | 1, h => exact B.k1.trans h
 | 2, h => exact B.k2.trans h
 | 3, h => exact B.k3.trans h
 | j + 4, h => simp at h
theorem own_room {w : World} {base : Nat} {e : TypeId} {v : Value} {N : Nat} {xs : List Value} {size : Nat} (h : w.ownsRow base e size v N xs) : ∃ A c, v = .slice A N c ∧ N ≤ c := by
 rcases h.2 with ⟨rfl, rfl⟩ | ⟨g, cap, cur, rfl, _, _, hnc, _⟩
 ·
  exact ⟨_, _, rfl, Nat.le_refl _⟩
 ·
  exact ⟨_, _, rfl, hnc⟩
def AnsFR (P : List (List UInt8) × Int) (w : World) (e : Ending) (w' : World) : Prop := ∃ (A : Option Addr) (n c : Nat) (l : List ByteArray), n ≤ c ∧ StS w' (.slice A n c) l ∧ l.map (·.data.toList) = P.1 ∧ e = .returned (.tuple #[.slice A n c, .int .i64 P.2]) ∧ Below w.heap.size w w'
theorem AnsFR.ans {P : List (List UInt8) × Int} {w w' : World} {e : Ending} (h : AnsFR P w e w') : AnsF P w e w' := by
 obtain ⟨A, n, c, l, _, h1, h2, h3, h4⟩ := h
 exact ⟨_, l, h1, h2, h3, h4⟩
set_option maxHeartbeats 4000000 in
set_option maxRecDepth 100000 in
theorem erlast_any (h : Bool) (y m k wk d sec base : Int) (w : World) :
  Calls Tryz.prog 80 #[.agg #[.bool h, .int .i64 y, .int .i64 m, .int .i64 k, .int .i64 wk, .int .i64 d, .int .i64 sec, .int .i64 base]] w fun e w' => e = .returned (.int .i64 ((⟨h, y, m, k, wk, d, sec, base⟩ : Er.U).last : Int)) ∧ Below w.heap.size w w' := by
 obtain ⟨n, hn⟩ : ∃ n, n = (⟨h, y, m, k, wk, d, sec, base⟩ : Er.U).last := ⟨_, rfl⟩
 rw [← hn]
 unfold Er.U.last at hn
 simp only [] at hn
 have HN := Lib.hid hn; clear hn
 go_enter Tryz.func80, Tryz.ntmps80
 go_wp2_with fail
 refine (erbeg_any y _).mono ?_; rintro e w1 ⟨rfl, b1⟩
 have d1 : Below w.heap.size w w1 := below_step gr0 b1
 have B1 := Lib.hid d1
 have U1 : Bk8 w1 (w.heap.size) (.bool h) (.int .i64 y) (.int .i64 m) (.int .i64 k) (.int .i64 wk) (.int .i64 d) (.int .i64 sec) (.int .i64 base) := by refine Bk8.of b1 (by simp <;> omega) (by intro j; simp [go_sem]) ?_ ?_ ?_ ?_ ?_ ?_ ?_ ?_ <;> simp [go_sem]
 clear b1 d1
 go_upto_region 2 with (fail)
 refine wp_named ?_; intro w2 hw2
 have d2 : Below w1.heap.size w1 w2 := by rw [hw2]; exact gr0
 have B2 := Lib.hid (below_step B1.out d2)
 have U2 := U1.keep d2
 have aLK := B1.out.size
 have nLKU := Nat.ne_of_lt U1.hb
 have oLKU := Nat.ne_of_gt U1.hb
 have LK2 : Bk8 w2 (w1.heap.size) (.bool true) (.int .i64 y) (.int .i64 1) (.int .i64 0) (.int .i64 0) (.int .i64 1) (.int .i64 0) (.int .i64 0) := by rw [hw2]; exact ⟨by simp <;> omega, by intro j; simp [go_sem], by simp [go_sem], by simp [go_sem], by simp [go_sem], by simp [go_sem], by simp [go_sem], by simp [go_sem], by simp [go_sem], by simp [go_sem]⟩
 clear U1 d2 hw2 B1
 have tx := U2; obtain ⟨cU_b, cU_f, cU_0, cU_1, cU_2, cU_3, cU_4, cU_5, cU_6, cU_7⟩ := tx
 have tx := LK2; obtain ⟨cLK_b, cLK_f, cLK_0, cLK_1, cLK_2, cLK_3, cLK_4, cLK_5, cLK_6, cLK_7⟩ := tx
 go_wp2_with fail
 all_goals (
  go_ret
  refine ⟨?_, B2.out⟩
  rw [HN.out]
  clear HN B2
  simp_all)
set_option maxHeartbeats 4000000 in
set_option maxRecDepth 100000 in
theorem errtx_any (off kind save : Int) (rs fm : ByteArray) (h : Bool) (y m k wk d sec base : Int) (w : World) (s0 : -10800 ≤ save) (s1 : save ≤ 10800) (tp : TypeId) (p : Value) (z : Int) (L : Ru.Lv w tp p z) :
  Calls Tryz.prog 38 #[.agg #[.int .i64 off, .int .i64 kind, .int .i64 save, .string rs, .string fm, .bool h, .int .i64 y, .int .i64 m, .int .i64 k, .int .i64 wk, .int .i64 d, .int .i64 sec, .int .i64 base]] w fun e w' => e = .returned (.string (Er.rtx kind save rs)) ∧ Below w.heap.size w w' := by
 have AT := Lib.hid (fun W (g : Ru.Lv W tp p z) => atext_any save W (by omega) (by omega) g.tab)
 rw [Er.am_ok (by omega) (by omega)] at AT
 have HL := Lib.hid (fun W (b : Below w.heap.size w W) => L.on b)
 clear L s0 s1
 unfold Er.rtx
 generalize (Am.tx save).1 = t at *
 by_cases h1 : kind = 1
 ·
  subst h1
  rw [if_pos rfl]
  go_enter Tryz.func38, Tryz.ntmps38
  go_wp2_with fail
  refine (AT.out _ (HL.out _ ((Below.refl _ _).alloc (Nat.le_refl _) _))).mono ?_; rintro e w1 ⟨rfl, b1⟩
  have B1 := Lib.hid (below_step ((Below.refl _ _).alloc (Nat.le_refl _) _) b1)
  clear b1
  go_wp2_with fail
  refine (musts_yes _ _).mono ?_; rintro e v1 ⟨rfl, rfl⟩
  go_wp2_with fail
  go_ret
  exact ⟨rfl, B1.out⟩
 ·
  rw [if_neg h1]
  by_cases h2 : kind = 2
  ·
   subst h2
   rw [if_pos rfl]
   clear h1
   go_enter Tryz.func38, Tryz.ntmps38
   go_wp2_with fail
   go_ret
   exact ⟨rfl, (Below.refl _ _).alloc (Nat.le_refl _) _⟩
  ·
   rw [if_neg h2]
   have g1 : (kind == 1) = false := by rw [beq_eq_false_iff_ne]; exact h1
   have g2 : (kind == 2) = false := by rw [beq_eq_false_iff_ne]; exact h2
   go_enter Tryz.func38, Tryz.ntmps38
   go_wp2_with fail
   go_ret
   exact ⟨rfl, (Below.refl _ _).alloc (Nat.le_refl _) _⟩
set_option maxHeartbeats 4000000 in
set_option maxRecDepth 100000 in
theorem eretx_no (y m k wk d sec base : Int) (w : World) :
  Calls Tryz.prog 39 #[.agg #[.bool false, .int .i64 y, .int .i64 m, .int .i64 k, .int .i64 wk, .int .i64 d, .int .i64 sec, .int .i64 base]] w fun e w' => e = .returned (.slice none 0 0) ∧ Below w.heap.size w w' := by
 go_enter Tryz.func39, Tryz.ntmps39
 go_wp2_with fail
 go_ret
 exact ⟨rfl, (Below.refl _ _).alloc (Nat.le_refl _) _⟩
set_option maxHeartbeats 4000000 in
set_option maxRecDepth 100000 in
theorem eretx_yes (y m k wk d sec base : Int) (w : World) (y0 : -32767 < y) (y1 : y < 32767) (ho : Dr.onF k wk d m = true) (hb : Cl.rB sec base = true) (tp : TypeId) (p : Value) (z : Int) (L : Ru.Lv w tp p z) :
  Calls Tryz.prog 39 #[.agg #[.bool true, .int .i64 y, .int .i64 m, .int .i64 k, .int .i64 wk, .int .i64 d, .int .i64 sec, .int .i64 base]] w fun e w' => ∃ v, StS w' v (⟨true, y, m, k, wk, d, sec, base⟩ : Er.U).et ∧ e = .returned v ∧ Below w.heap.size w w' := by
 have NT := Lib.hid (fun W (g : Ru.Lv W tp p z) => text_any y W (by omega) (by omega) g.tab)
 have MT := Lib.hid (fun W (g : Ru.Lv W tp p z) => mtext_any m W g.mon)
 have DT := Lib.hid (fun W (g : Ru.Lv W tp p z) => dspt_any k wk d W g.tab g.days)
 have KT := Lib.hid (fun W (g : Ru.Lv W tp p z) => cltext_any sec base W g.ltr g.tab)
 rw [Er.ds_ok ho] at DT
 rw [Er.cl_ok hb] at KT
 have HL := Lib.hid (fun W (b : Below w.heap.size w W) => L.on b)
 have LS := Lib.hid (fun W => erlast_any true y m k wk d sec base W)
 have et : (⟨true, y, m, k, wk, d, sec, base⟩ : Er.U).et = [Yr.tI y, Wd.t3 Wd.months (m - 1), (Ds.tx k wk d).1, (Cl.tx sec base).1].take ((⟨true, y, m, k, wk, d, sec, base⟩ : Er.U).last + 1) := rfl
 have hle := (⟨true, y, m, k, wk, d, sec, base⟩ : Er.U).last_le
 rw [et]
 clear et ho hb L y0 y1
 replace NT : Hid (∀ W, Ru.Lv W tp p z → Calls Tryz.prog 52 #[.int .i64 y] W fun e w' => e = .returned (.string (Yr.tI y)) ∧ Below W.heap.size W w') := NT
 generalize (⟨true, y, m, k, wk, d, sec, base⟩ : Er.U).last = n at *
 generalize Yr.tI y = x0 at *
 generalize Wd.t3 Wd.months (m - 1) = x1 at *
 generalize (Ds.tx k wk d).1 = x2 at *
 generalize (Cl.tx sec base).1 = x3 at *
 go_enter Tryz.func39, Tryz.ntmps39
 go_upto_region 3 with (fail)
 refine wp_named ?_; intro w1 hw1
 have d1 : Below w.heap.size w w1 := by rw [hw1]; exact gr0
 have B1 := Lib.hid d1
 have U1 : Bk8 w1 (w.heap.size) (.bool true) (.int .i64 y) (.int .i64 m) (.int .i64 k) (.int .i64 wk) (.int .i64 d) (.int .i64 sec) (.int .i64 base) := by rw [hw1]; exact ⟨by simp <;> omega, by intro j; simp [go_sem], by simp [go_sem], by simp [go_sem], by simp [go_sem], by simp [go_sem], by simp [go_sem], by simp [go_sem], by simp [go_sem], by simp [go_sem]⟩
 clear d1 hw1
 have tx := U1; obtain ⟨cU_b, cU_f, cU_0, cU_1, cU_2, cU_3, cU_4, cU_5, cU_6, cU_7⟩ := tx
 go_wp2_with fail
 clear cU_b cU_f cU_0 cU_1 cU_2 cU_3 cU_4 cU_5 cU_6 cU_7
 have qU_0 := cell_regrown U1.k0
 have qU_1 := cell_regrown U1.k1
 have qU_2 := cell_regrown U1.k2
 have qU_3 := cell_regrown U1.k3
 have qU_4 := cell_regrown U1.k4
 have qU_5 := cell_regrown U1.k5
 have qU_6 := cell_regrown U1.k6
 have qU_7 := cell_regrown U1.k7
 refine wp_region_qbt (w := w1) 18 (by kernel_rfl) (by kernel_rfl) gr0 ?_
 simp only [List.take_succ_cons, List.take_zero, List.drop_succ_cons, List.drop_zero]
 repeat (any_goals (first | go_big_quiet_step (first | (go_at_call 52; exact Calls.regrown_of (NT.out _ (HL.out _ (below_step B1.out (below_regrown _ _ _))))) | (go_at_call 20; exact Calls.regrown_of (MT.out _ (HL.out _ (below_step B1.out (below_regrown _ _ _))))) | (go_at_call 21; exact Calls.regrown_of (DT.out _ (HL.out _ (below_step B1.out (below_regrown _ _ _))))) | (go_at_call 22; exact Calls.regrown_of (KT.out _ (HL.out _ (below_step B1.out (below_regrown _ _ _))))) | (go_at_call 17; exact Calls.regrown_of ((musts_yes _ _).mono fun _ _ h => ⟨h.1, h.2 ▸ Below.refl _ _⟩))) | quiet_step (first | (go_at_call 52; exact Calls.regrown_of (NT.out _ (HL.out _ (below_step B1.out (below_regrown _ _ _))))) | (go_at_call 20; exact Calls.regrown_of (MT.out _ (HL.out _ (below_step B1.out (below_regrown _ _ _))))) | (go_at_call 21; exact Calls.regrown_of (DT.out _ (HL.out _ (below_step B1.out (below_regrown _ _ _))))) | (go_at_call 22; exact Calls.regrown_of (KT.out _ (HL.out _ (below_step B1.out (below_regrown _ _ _))))) | (go_at_call 17; exact Calls.regrown_of ((musts_yes _ _).mono fun _ _ h => ⟨h.1, h.2 ▸ Below.refl _ _⟩)))))
 refine wpQuiet_nil ?_
 intro w2 b2
 clear qU_0 qU_1 qU_2 qU_3 qU_4 qU_5 qU_6 qU_7
 have d2 : Below w1.heap.size w1 w2 := below_step gr0 b2
 have B2 := Lib.hid (below_step B1.out d2)
 have U2 := U1.keep d2
 clear U1 b2 d2 B1
 have tx := U2; obtain ⟨cU_b, cU_f, cU_0, cU_1, cU_2, cU_3, cU_4, cU_5, cU_6, cU_7⟩ := tx
 go_wp2_with fail
 clear cU_b cU_f cU_0 cU_1 cU_2 cU_3 cU_4 cU_5 cU_6 cU_7
 refine (LS.out _).mono ?_; rintro e w3 ⟨rfl, b3⟩
 have d3 : Below w2.heap.size w2 w3 := below_step gr0 b3
 have B3 := Lib.hid (below_step B2.out d3)
 have U3 := U2.keep d3
 have aX := B2.out.size
 have nXU := Nat.ne_of_lt U2.hb
 have oXU := Nat.ne_of_gt U2.hb
 have X3 : Bk4 w3 (w2.heap.size) (.string x0) (.string x1) (.string x2) (.string x3) := by refine Bk4.of b3 (by simp <;> omega) (by intro j; simp [go_sem]) ?_ ?_ ?_ ?_ <;> simp [go_sem]
 clear U2 b3 d3 B2
 have hn : n = 0 ∨ n = 1 ∨ n = 2 ∨ n = 3 := by omega
 have SF := Lib.hid (fun j (hj : j ≤ 4) c => sts_four X3 j hj c)
 clear X3 U3 hle LS
 rcases hn with rfl | rfl | rfl | rfl
 all_goals (
  go_wp2_with fail
  go_ret
  exact ⟨_, SF.out _ (by omega) _, rfl, B3.out⟩)
end Go.Proofs.YtjggjkeopbcmoaaGreatDoor
set_option linter.unusedVariables false
set_option linter.unusedSimpArgs false
namespace Go.Proofs.YtjggjkeopbcmoaaGreatDoor
open Go.RowKit
set_option maxHeartbeats 1000000 in
set_option maxRecDepth 100000 in
theorem tcaughtat_room (g : FuncId) (qs : Array Value) (hg : ∀ W, Sem.run Tryz.prog (callFunc g qs) W = .ok (.enter g qs) W) (P : List (List UInt8)) (w : World)
  (CG : Hid (∀ W, Below w.heap.size w W → Calls Tryz.prog g qs W fun e w' => ∃ (v : Value) (l : List ByteArray), StO W.heap.size w' v l ∧ (∃ A n c, v = .slice A n c ∧ n ≤ c) ∧ l.map (·.data.toList) = P ∧ e = .returned v ∧ Below W.heap.size W w')) :
  Calls Tryz.prog 45 #[.func (Fn.func g) #[] qs] w fun e w' => ∃ (v : Value) (l : List ByteArray), StS w' v l ∧ (∃ A n c, v = .slice A n c ∧ n ≤ c) ∧ l.map (·.data.toList) = P ∧ e = .returned (.tuple #[v, .agg #[.int .i64 0, .int .i64 0]]) ∧ Below w.heap.size w w' := by
 have hmf : ∀ (fn : Fn) (first cap : Array Value) (w : World), (Instr.makeFunc fn first cap).run Tryz.prog w = .ok (.func fn first cap) w := fun _ _ _ _ => rfl
 go_enter_defers Tryz.func45, Tryz.ntmps45
 go_wp2_with fail
 refine (CG.out _ ((Below.refl _ _).alloc (Nat.le_refl _) _)).mono ?_; rintro e w1 ⟨v, l, hst, hrm, hlp, rfl, b1⟩
 have HRM := Lib.hid hrm; clear hrm
 have HST := Lib.hid hst; have HLP := Lib.hid hlp
 clear hlp
 obtain ⟨A, c, rfl, -⟩ := hst
 have B1 := Lib.hid (below_step ((Below.refl _ _).alloc (Nat.le_refl _) _) b1)
 have Q1 : Bk2 w1 w.heap.size (.int .i64 0) (.int .i64 0) := Bk2.of b1 (by simp) (by intro j; simp [go_sem]) (by simp [go_sem]) (by simp [go_sem])
 clear b1
 have c_b := Q1.hb; have c_f := Q1.fz; have c_0 := Q1.k0; have c_1 := Q1.k1
 clear Q1
 go_wp2_with fail
 refine leaves_cons (f := 86) (args := #[.pointer (some ⟨w.heap.size, 0, none⟩)]) (by simp) (by simp [go_sem]) ?_
 refine (gvt_idle ⟨w.heap.size, 0, none⟩ _).mono ?_
 rintro e u' w'' ⟨rfl, rfl, rfl⟩
 simp [Leaves, settle, results, Tryz.results45, go_sem, c_b, c_0, c_1, c_f]
 clear c_b c_f c_0 c_1
 refine ⟨_, l, StO.st (StO.turn (StO.turn HST.out (Nat.le_of_eq (set_size ..).symm) (fun i h1 h2 => set_block _ _ _ _ ?_)) (Nat.le_of_eq (set_size ..).symm) (fun i h1 h2 => set_block _ _ _ _ ?_)), HRM.out, HLP.out, rfl, ?_⟩
 ·
  simp at h1; show w.heap.size ≠ i; omega
 ·
  simp at h1; show w.heap.size ≠ i; omega
 ·
  repeat (refine Below.setCell ?_ (by first | omega | (simp; done) | (simp; omega)) _)
  exact B1.out
set_option maxHeartbeats 1000000 in
set_option maxRecDepth 100000 in
theorem tcaught_room (g : FuncId) (qs : Array Value) (hg : ∀ W, Sem.run Tryz.prog (callFunc g qs) W = .ok (.enter g qs) W) (P : List (List UInt8)) (w : World)
  (CG : Hid (∀ W, Below w.heap.size w W → Calls Tryz.prog g qs W fun e w' => ∃ (v : Value) (l : List ByteArray), StO W.heap.size w' v l ∧ (∃ A n c, v = .slice A n c ∧ n ≤ c) ∧ l.map (·.data.toList) = P ∧ e = .returned v ∧ Below W.heap.size W w')) :
  Calls Tryz.prog 13 #[.func (Fn.func g) #[] qs] w (AnsFR (P, 0) w) := by
 go_enter Tryz.func13, Tryz.ntmps13
 go_wp2_with fail
 refine (tcaughtat_room g qs hg P _ CG).mono ?_; rintro e w1 ⟨v, l, hst, hrm, hlp, rfl, b1⟩
 obtain ⟨A, n, c, rfl, hnc⟩ := hrm
 have HNC := Lib.hid hnc; clear hnc
 have HST := Lib.hid hst; have HLP := Lib.hid hlp
 clear hst hlp
 have B1 := Lib.hid b1
 clear b1
 go_wp2_with fail
 go_quiet (fail)
 go_wp2_with fail
 go_ret2
 refine ⟨A, n, c, l, HNC.out, HST.out.on ?_, HLP.out, rfl, below_step B1.out ?_⟩
 all_goals (repeat (first | refine below_drewN ?_ _ | refine Below.drew ?_ | refine Below.setCell ?_ (by first | omega | (simp; done) | (simp; omega)) _ | refine Below.alloc ?_ (by first | omega | (simp; done) | (simp; omega)) _ | exact Below.refl _ _))
end Go.Proofs.YtjggjkeopbcmoaaGreatDoor
set_option linter.unusedVariables false
set_option linter.unusedSimpArgs false
namespace Go.Proofs.YtjggjkeopbcmoaaGreatDoor
open Go.RowKit Go.Sort
set_option maxHeartbeats 4000000 in
set_option maxRecDepth 100000 in
theorem erfields1_no (p : Nat) (off kind save : Int) (rs fm : ByteArray) (h : Bool) (y m k wk d sec base : Int) (w : World) (B : Bk13 w p (.int .i64 off) (.int .i64 kind) (.int .i64 save) (.string rs) (.string fm) (.bool h) (.int .i64 y) (.int .i64 m) (.int .i64 k) (.int .i64 wk) (.int .i64 d) (.int .i64 sec) (.int .i64 base)) (hs : rs.size ≤ 9223372036854775807) (hf : fm.size ≤ 9223372036854775807) (y0 : -9223372036854775808 ≤ y) (y1 : y ≤ 9223372036854775807) (tp : TypeId) (pp : Value) (z : Int) (L : Ru.Lv w tp pp z) (hok : Er.ok off kind save rs fm h y m k wk d sec base = false) :
  Calls Tryz.prog 36 #[.pointer (some ⟨p, 0, none⟩)] w fun e w' => e = .panicked (gvP 4) ∧ Below w.heap.size w w' := by
 have RB := Lib.hid (fun W (g : Ru.Lv W tp pp z) => erright_any off kind save rs fm h y m k wk d sec base W z hs hf y0 y1 g.mx)
 rw [hok] at RB
 have HL := Lib.hid (fun W (b : Below w.heap.size w W) => L.on b)
 clear hok hs hf y0 y1 L
 go_enter Tryz.func36, Tryz.ntmps36
 have tx := B; obtain ⟨cX_b, cX_f, cX_0, cX_1, cX_2, cX_3, cX_4, cX_5, cX_6, cX_7, cX_8, cX_9, cX_10, cX_11, cX_12⟩ := tx
 go_wp2_with fail
 clear cX_b cX_f cX_0 cX_1 cX_2 cX_3 cX_4 cX_5 cX_6 cX_7 cX_8 cX_9 cX_10 cX_11 cX_12
 refine (RB.out _ (HL.out _ (Below.refl _ _))).mono ?_; rintro e w1 ⟨rfl, b1⟩
 have d1 : Below w.heap.size w w1 := below_step gr0 b1
 have B1 := Lib.hid d1
 have X1 := B.keep d1
 clear B b1 d1
 go_wp2_with fail
 refine (need_no 4 _).mono ?_; rintro e u1 ⟨rfl, rfl⟩
 refine (show bodyPost _ _ _ (Exit.panic (gvP 4)) _ _ from ?_)
 simp only [bodyPost]
 exact ⟨trivial, by first | rfl | trivial, B1.out⟩
set_option maxHeartbeats 4000000 in
set_option maxRecDepth 100000 in
theorem erfields1_yes (p : Nat) (off kind save : Int) (rs fm : ByteArray) (h : Bool) (y m k wk d sec base : Int) (w : World) (B : Bk13 w p (.int .i64 off) (.int .i64 kind) (.int .i64 save) (.string rs) (.string fm) (.bool h) (.int .i64 y) (.int .i64 m) (.int .i64 k) (.int .i64 wk) (.int .i64 d) (.int .i64 sec) (.int .i64 base)) (hs : rs.size ≤ 9223372036854775807) (hf : fm.size ≤ 9223372036854775807) (y0 : -9223372036854775808 ≤ y) (y1 : y ≤ 9223372036854775807) (tp : TypeId) (pp : Value) (z : Int) (L : Ru.Lv w tp pp z) (hok : Er.ok off kind save rs fm h y m k wk d sec base = true) :
  Calls Tryz.prog 36 #[.pointer (some ⟨p, 0, none⟩)] w fun e w' => ∃ (v : Value) (l : List ByteArray), StO w.heap.size w' v l ∧ (∃ A n c, v = .slice A n c ∧ n ≤ c) ∧ l.map (·.data.toList) = ((⟨off, kind, save, rs, fm, ⟨h, y, m, k, wk, d, sec, base⟩⟩ : Er.E).ts).map (·.data.toList) ∧ e = .returned v ∧ Below w.heap.size w w' := by
 have RB := Lib.hid (fun W (g : Ru.Lv W tp pp z) => erright_any off kind save rs fm h y m k wk d sec base W z hs hf y0 y1 g.mx)
 rw [hok] at RB
 obtain ⟨a0, a1, a2, a3, a4⟩ := Er.ok_of (e := (⟨off, kind, save, rs, fm, ⟨h, y, m, k, wk, d, sec, base⟩⟩ : Er.E)) hok
 simp only [] at a0 a1 a2 a3 a4
 obtain ⟨s0, s1⟩ := Er.save_of a2
 have AT := Lib.hid (fun W (g : Ru.Lv W tp pp z) => atext_any off W (by omega) (by omega) g.tab)
 rw [Er.am_ok a0 a1] at AT
 have RT := Lib.hid (fun W (g : Ru.Lv W tp pp z) => errtx_any off kind save rs fm h y m k wk d sec base W s0 s1 tp pp z g)
 have ET : Hid (∀ W, Ru.Lv W tp pp z → Calls Tryz.prog 39 #[.agg #[.bool h, .int .i64 y, .int .i64 m, .int .i64 k, .int .i64 wk, .int .i64 d, .int .i64 sec, .int .i64 base]] W fun e w' => ∃ v, StS w' v (⟨h, y, m, k, wk, d, sec, base⟩ : Er.U).et ∧ e = .returned v ∧ Below W.heap.size W w') := fun W g => by
  cases h with
  | false =>
   refine (eretx_no y m k wk d sec base W).mono ?_
   rintro e w' ⟨rfl, b⟩
   exact ⟨_, Lst.nil _ _, rfl, b⟩
  | true =>
   obtain ⟨u0, u1, u2, u3⟩ := Er.end_of (u := ⟨true, y, m, k, wk, d, sec, base⟩) a4 rfl
   exact eretx_yes y m k wk d sec base W u0 u1 u2 u3 tp pp z g
 have HL := Lib.hid (fun W (b : Below w.heap.size w W) => L.on b)
 have ht : (⟨off, kind, save, rs, fm, ⟨h, y, m, k, wk, d, sec, base⟩⟩ : Er.E).ts = [(Am.tx off).1, Er.rtx kind save rs, fm] ++ (⟨h, y, m, k, wk, d, sec, base⟩ : Er.U).et := rfl
 rw [ht]
 have hl4 : (⟨h, y, m, k, wk, d, sec, base⟩ : Er.U).et.length ≤ 4 := by
  unfold Er.U.et Er.U.ts
  split
  ·
   rw [List.length_take]; simp; omega
  ·
   simp
 clear hok hs hf y0 y1 L a0 a1 a2 a3 a4 s0 s1 ht
 generalize (⟨h, y, m, k, wk, d, sec, base⟩ : Er.U).et = E at *
 generalize (Am.tx off).1 = x0 at *
 generalize Er.rtx kind save rs = x1 at *
 obtain ⟨i0, hi, hz0, hz1, hz2⟩ := fd_parts fd_info
 go_enter Tryz.func36, Tryz.ntmps36
 have tx := B; obtain ⟨cX_b, cX_f, cX_0, cX_1, cX_2, cX_3, cX_4, cX_5, cX_6, cX_7, cX_8, cX_9, cX_10, cX_11, cX_12⟩ := tx
 go_wp2_with fail
 clear cX_b cX_f cX_0 cX_1 cX_2 cX_3 cX_4 cX_5 cX_6 cX_7 cX_8 cX_9 cX_10 cX_11 cX_12
 refine (RB.out _ (HL.out _ (Below.refl _ _))).mono ?_; rintro e w1 ⟨rfl, b1⟩
 have d1 : Below w.heap.size w w1 := below_step gr0 b1
 have B1 := Lib.hid d1
 have X1 := B.keep d1
 clear B b1 d1
 have tx := X1; obtain ⟨cX_b, cX_f, cX_0, cX_1, cX_2, cX_3, cX_4, cX_5, cX_6, cX_7, cX_8, cX_9, cX_10, cX_11, cX_12⟩ := tx
 go_wp2_with fail
 clear cX_b cX_f cX_0 cX_1 cX_2 cX_3 cX_4 cX_5 cX_6 cX_7 cX_8 cX_9 cX_10 cX_11 cX_12
 refine (need_yes 4 _).mono ?_; rintro e v1 ⟨rfl, rfl⟩
 have tx := X1; obtain ⟨cX_b, cX_f, cX_0, cX_1, cX_2, cX_3, cX_4, cX_5, cX_6, cX_7, cX_8, cX_9, cX_10, cX_11, cX_12⟩ := tx
 go_wp2_with fail
 clear cX_b cX_f cX_0 cX_1 cX_2 cX_3 cX_4 cX_5 cX_6 cX_7 cX_8 cX_9 cX_10 cX_11 cX_12
 have qX_0 := cell_regrown X1.k0
 have qX_1 := cell_regrown X1.k1
 have qX_2 := cell_regrown X1.k2
 have qX_3 := cell_regrown X1.k3
 have qX_4 := cell_regrown X1.k4
 have qX_5 := cell_regrown X1.k5
 have qX_6 := cell_regrown X1.k6
 have qX_7 := cell_regrown X1.k7
 have qX_8 := cell_regrown X1.k8
 have qX_9 := cell_regrown X1.k9
 have qX_10 := cell_regrown X1.k10
 have qX_11 := cell_regrown X1.k11
 have qX_12 := cell_regrown X1.k12
 refine wp_region_qbt (w := w1) 10 (by kernel_rfl) (by kernel_rfl) gr0 ?_
 simp only [List.take_succ_cons, List.take_zero, List.drop_succ_cons, List.drop_zero]
 repeat (any_goals (first | go_big_quiet_step (first | (go_at_call 23; exact Calls.regrown_of (AT.out _ (HL.out _ (below_step B1.out (below_regrown _ _ _))))) | (go_at_call 38; exact Calls.regrown_of (RT.out _ (HL.out _ (below_step B1.out (below_regrown _ _ _))))) | (go_at_call 17; exact Calls.regrown_of ((musts_yes _ _).mono fun _ _ h => ⟨h.1, h.2 ▸ Below.refl _ _⟩))) | quiet_step (first | (go_at_call 23; exact Calls.regrown_of (AT.out _ (HL.out _ (below_step B1.out (below_regrown _ _ _))))) | (go_at_call 38; exact Calls.regrown_of (RT.out _ (HL.out _ (below_step B1.out (below_regrown _ _ _))))) | (go_at_call 17; exact Calls.regrown_of ((musts_yes _ _).mono fun _ _ h => ⟨h.1, h.2 ▸ Below.refl _ _⟩)))))
 refine wpQuiet_nil ?_
 intro w2 b2
 clear qX_0 qX_1 qX_2 qX_3 qX_4 qX_5 qX_6 qX_7 qX_8 qX_9 qX_10 qX_11 qX_12
 have d2 : Below w1.heap.size w1 w2 := below_step gr0 b2
 have B2 := Lib.hid (below_step B1.out d2)
 have X2 := X1.keep d2
 clear X1 b2 d2 B1
 have tx := X2; obtain ⟨cX_b, cX_f, cX_0, cX_1, cX_2, cX_3, cX_4, cX_5, cX_6, cX_7, cX_8, cX_9, cX_10, cX_11, cX_12⟩ := tx
 go_wp2_with fail
 clear cX_b cX_f cX_0 cX_1 cX_2 cX_3 cX_4 cX_5 cX_6 cX_7 cX_8 cX_9 cX_10 cX_11 cX_12
 have O0 := Lib.hid (World.ownsRow_lit (base := w2.heap.size) (e := 9) (size := 1) w2 #[.string x0, .string x1, .string fm] 3 (Nat.le_refl _) (by decide) rfl)
 refine (ET.out _ (HL.out _ (grB B2))).mono ?_; rintro e w8 ⟨v8, s8, rfl, b8⟩
 have O8 := Lib.hid (own_on O0.out b8)
 have B8 := Lib.hid (below_step (grB B2) b8)
 have S8 := Lib.hid s8
 have hsz := B2.out.size
 have hs8 := b8.size
 simp at hs8
 clear b8 s8 O0 X2 RT ET AT RB
 go_wp2_with (at_builtin; refine wpList_append_lst rfl _ _ 34 rfl w2.heap.size 9 i0 (.string ⟨#[]⟩) 1 16 Tryz.underlying34 hi hz0 hz1 hz2 rfl (by decide) _ 3 _ rfl O8.out _ E.length _ (E.map Value.string) rfl S8.out (by simp) (by intro u hu; obtain ⟨x, _, rfl⟩ := List.mem_map.1 hu; rfl) (by unfold maxLen; omega) (by omega) (by omega) ?_)
 intro va wa own2 grow2
 have b2 : Below w2.heap.size w8 wa := below_grown grow2 (by omega) (own_row O8.out)
 have hrm := own_room own2
 have BA : Hid (Below w.heap.size w wa) := Lib.hid (B8.out.trans (b2.mono (by omega)))
 have HR := Lib.hid hrm
 have O2 : Hid (wa.ownsRow w2.heap.size 9 1 va ([x0, x1, fm] ++ E).length (([x0, x1, fm] ++ E).map Value.string)) := by
  have e1 : ([x0, x1, fm] ++ E).length = 3 + E.length := by simp; omega
  rw [e1]
  exact Lib.hid (by simpa using own2)
 clear own2 grow2 b2 hrm O8 S8
 obtain ⟨A9, c9, hv9, hc9⟩ := HR.out
 subst hv9
 go_wp2_with fail
 go_ret
 exact ⟨_, [x0, x1, fm] ++ E, StO.own O2.out hsz, ⟨_, _, _, rfl, hc9⟩, rfl, rfl, BA.out⟩
set_option maxRecDepth 100000 in
theorem erf_callFn (qs : Array Value) (W : World) : Sem.run Tryz.prog (callFunc 36 qs) W = .ok (.enter 36 qs) W := rfl
set_option maxHeartbeats 4000000 in
set_option maxRecDepth 100000 in
theorem erfields_any (off kind save : Int) (rs fm : ByteArray) (h : Bool) (y m k wk d sec base : Int) (w : World) (hs : rs.size ≤ 9223372036854775807) (hf : fm.size ≤ 9223372036854775807) (y0 : -9223372036854775808 ≤ y) (y1 : y ≤ 9223372036854775807) (tp : TypeId) (pp : Value) (z : Int) (L : Ru.Lv w tp pp z) :
  Calls Tryz.prog 10 #[.agg #[.int .i64 off, .int .i64 kind, .int .i64 save, .string rs, .string fm, .bool h, .int .i64 y, .int .i64 m, .int .i64 k, .int .i64 wk, .int .i64 d, .int .i64 sec, .int .i64 base]] w (AnsFR (Er.fl (⟨off, kind, save, rs, fm, ⟨h, y, m, k, wk, d, sec, base⟩⟩ : Er.E)) w) := by
 have BB : Hid (Bk13 (w.alloc (.cells #[.int .i64 off, .int .i64 kind, .int .i64 save, .string rs, .string fm, .bool h, .int .i64 y, .int .i64 m, .int .i64 k, .int .i64 wk, .int .i64 d, .int .i64 sec, .int .i64 base] 31)) w.heap.size (.int .i64 off) (.int .i64 kind) (.int .i64 save) (.string rs) (.string fm) (.bool h) (.int .i64 y) (.int .i64 m) (.int .i64 k) (.int .i64 wk) (.int .i64 d) (.int .i64 sec) (.int .i64 base)) := Lib.hid ⟨by simp, by intro j; simp [go_sem], by simp [go_sem], by simp [go_sem], by simp [go_sem], by simp [go_sem], by simp [go_sem], by simp [go_sem], by simp [go_sem], by simp [go_sem], by simp [go_sem], by simp [go_sem], by simp [go_sem], by simp [go_sem], by simp [go_sem]⟩
 have b0 : Below w.heap.size w (w.alloc (.cells #[.int .i64 off, .int .i64 kind, .int .i64 save, .string rs, .string fm, .bool h, .int .i64 y, .int .i64 m, .int .i64 k, .int .i64 wk, .int .i64 d, .int .i64 sec, .int .i64 base] 31)) := (Below.refl _ _).alloc (Nat.le_refl _) _
 have HL := Lib.hid (L.on b0)
 cases hok : Er.ok off kind save rs fm h y m k wk d sec base
 ·
  have T := Lib.hid (tcaught_no 36 #[.pointer (some ⟨w.heap.size, 0, none⟩)] (erf_callFn _) 0 4 _ (Lib.hid fun W' hB => erfields1_no w.heap.size off kind save rs fm h y m k wk d sec base W' (BB.out.keep hB) hs hf y0 y1 tp pp z (HL.out.on hB) hok))
  rw [Er.fl_no (e := (⟨off, kind, save, rs, fm, ⟨h, y, m, k, wk, d, sec, base⟩⟩ : Er.E)) hok]
  clear hok hs hf y0 y1 L HL BB b0
  go_enter Tryz.func10, Tryz.ntmps10
  go_wp2_with fail
  refine T.out.mono ?_; rintro e w1 ⟨rfl, b1⟩
  have B1 := Lib.hid (below_step ((Below.refl _ _).alloc (Nat.le_refl _) _) b1)
  clear b1
  go_wp2_with fail
  go_ret2
  exact ⟨none, 0, 0, [], Nat.le_refl _, Lst.nil _ _, rfl, rfl, B1.out⟩
 ·
  have T := Lib.hid (tcaught_room 36 #[.pointer (some ⟨w.heap.size, 0, none⟩)] (erf_callFn _) (((⟨off, kind, save, rs, fm, ⟨h, y, m, k, wk, d, sec, base⟩⟩ : Er.E).ts).map (·.data.toList)) _ (Lib.hid fun W' hB => erfields1_yes w.heap.size off kind save rs fm h y m k wk d sec base W' (BB.out.keep hB) hs hf y0 y1 tp pp z (HL.out.on hB) hok))
  rw [Er.fl_yes (e := (⟨off, kind, save, rs, fm, ⟨h, y, m, k, wk, d, sec, base⟩⟩ : Er.E)) hok]
  generalize ((⟨off, kind, save, rs, fm, ⟨h, y, m, k, wk, d, sec, base⟩⟩ : Er.E).ts).map (·.data.toList) = P at *
  clear hok hs hf y0 y1 L HL BB b0
  go_enter Tryz.func10, Tryz.ntmps10
  go_wp2_with fail
  refine T.out.mono ?_; rintro e w1 ⟨A, n, c, l, hnc, hst, hlp, rfl, b1⟩
  have B1 := Lib.hid (below_step ((Below.refl _ _).alloc (Nat.le_refl _) _) b1)
  have HS := Lib.hid hst; have HP := Lib.hid hlp; have HN := Lib.hid hnc
  clear b1 hst hlp hnc
  go_wp2_with fail
  go_ret2
  exact ⟨A, n, c, l, HN.out, HS.out, HP.out, rfl, B1.out⟩
end Go.Proofs.YtjggjkeopbcmoaaGreatDoor
