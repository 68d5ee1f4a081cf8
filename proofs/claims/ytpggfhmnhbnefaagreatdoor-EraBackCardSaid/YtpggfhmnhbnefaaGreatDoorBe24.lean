/- Joined: ErM, Sm13, Pair. -/
import Derived.Test.YtpggfhmnhbnefaaGreatDoorBe01
import Derived.Test.YtpggfhmnhbnefaaGreatDoorBe23
import Derived.Test.YtpggfhmnhbnefaaGreatDoorBe06
import Derived.Test.YtpggfhmnhbnefaaGreatDoorBe02
import Derived.RegionTactic
import Derived.Deep.Draws
import Derived.Below
set_option linter.unusedVariables false
set_option linter.unusedSimpArgs false
namespace Go.Proofs.YtpggfhmnhbnefaaGreatDoor
open Go.RowKit Go.Sort
set_option maxHeartbeats 4000000 in
set_option maxRecDepth 100000 in
theorem erfields1_no (p : Nat) (off kind save : Int) (rs fm : ByteArray) (h : Bool) (y m k wk d sec base : Int) (w : World) (B : Bk13 w p (.int .i64 off) (.int .i64 kind) (.int .i64 save) (.string rs) (.string fm) (.bool h) (.int .i64 y) (.int .i64 m) (.int .i64 k) (.int .i64 wk) (.int .i64 d) (.int .i64 sec) (.int .i64 base)) (hs : rs.size ≤ 600) (hf : fm.size ≤ 600) (y0 : -9223372036854775808 ≤ y) (y1 : y ≤ 9223372036854775807) (tp : TypeId) (pp : Value) (z : Int) (L : Ru.Lv w tp pp z) (hok : Er.ok off kind save rs fm h y m k wk d sec base = false) :
  Calls Tryz.prog 67 #[.pointer (some ⟨p, 0, none⟩)] w fun e w' => e = .panicked (gvP 4) ∧ Below w.heap.size w w' := by
 have RB := Lib.hid (fun W (g : Ru.Lv W tp pp z) => erright_any off kind save rs fm h y m k wk d sec base W z hs hf y0 y1 g.mx)
 rw [hok] at RB
 have HL := Lib.hid (fun W (b : Below w.heap.size w W) => L.on b)
 clear hok hs hf y0 y1 L
 go_enter Tryz.func67, Tryz.ntmps67
 have tx := B; obtain ⟨cX_b, cX_f, cX_0, cX_1, cX_2, cX_3, cX_4, cX_5, cX_6, cX_7, cX_8, cX_9, cX_10, cX_11, cX_12⟩ := tx
 go_wp2_with fail
 clear cX_b cX_f cX_0 cX_1 cX_2 cX_3 cX_4 cX_5 cX_6 cX_7 cX_8 cX_9 cX_10 cX_11 cX_12
 refine (RB.out _ (HL.out _ (Below.refl _ _))).mono ?_; rintro e w1 ⟨rfl, b1⟩
 have d1 : Below w.heap.size w w1 := below_step gr0 b1
 have B1 := Lib.hid d1
 have X1 := B.keep d1
 clear B b1 d1
 go_wp2_with fail
 refine (need_no 4 _).mono ?_; rintro e u1 ⟨rfl, rfl⟩
 refine (show bodyPost _ _ _ (Exit.panic (gvP 4)) _ _ from ?_)
 simp only [bodyPost]
 exact ⟨trivial, by first | rfl | trivial, B1.out⟩
set_option maxHeartbeats 4000000 in
set_option maxRecDepth 100000 in
theorem erfields1_yes (p : Nat) (off kind save : Int) (rs fm : ByteArray) (h : Bool) (y m k wk d sec base : Int) (w : World) (B : Bk13 w p (.int .i64 off) (.int .i64 kind) (.int .i64 save) (.string rs) (.string fm) (.bool h) (.int .i64 y) (.int .i64 m) (.int .i64 k) (.int .i64 wk) (.int .i64 d) (.int .i64 sec) (.int .i64 base)) (hs : rs.size ≤ 600) (hf : fm.size ≤ 600) (y0 : -9223372036854775808 ≤ y) (y1 : y ≤ 9223372036854775807) (tp : TypeId) (pp : Value) (z : Int) (L : Ru.Lv w tp pp z) (hok : Er.ok off kind save rs fm h y m k wk d sec base = true) :
  Calls Tryz.prog 67 #[.pointer (some ⟨p, 0, none⟩)] w fun e w' => ∃ (v : Value) (l : List ByteArray), StO w.heap.size w' v l ∧ (∃ A n c, v = .slice A n c ∧ n ≤ c) ∧ l.map (·.data.toList) = ((⟨off, kind, save, rs, fm, ⟨h, y, m, k, wk, d, sec, base⟩⟩ : Er.E).ts).map (·.data.toList) ∧ e = .returned v ∧ Below w.heap.size w w' := by
 have RB := Lib.hid (fun W (g : Ru.Lv W tp pp z) => erright_any off kind save rs fm h y m k wk d sec base W z hs hf y0 y1 g.mx)
 rw [hok] at RB
 obtain ⟨a0, a1, a2, a3, a4⟩ := Er.ok_of (e := (⟨off, kind, save, rs, fm, ⟨h, y, m, k, wk, d, sec, base⟩⟩ : Er.E)) hok
 simp only [] at a0 a1 a2 a3 a4
 obtain ⟨s0, s1⟩ := Er.save_of a2
 have AT := Lib.hid (fun W (g : Ru.Lv W tp pp z) => atext_any off W (by omega) (by omega) g.tab)
 rw [Er.am_ok a0 a1] at AT
 have RT := Lib.hid (fun W (g : Ru.Lv W tp pp z) => errtx_any off kind save rs fm h y m k wk d sec base W s0 s1 tp pp z g)
 have ET : Hid (∀ W, Ru.Lv W tp pp z → Calls Tryz.prog 69 #[.agg #[.bool h, .int .i64 y, .int .i64 m, .int .i64 k, .int .i64 wk, .int .i64 d, .int .i64 sec, .int .i64 base]] W fun e w' => ∃ v, StS w' v (⟨h, y, m, k, wk, d, sec, base⟩ : Er.U).et ∧ e = .returned v ∧ Below W.heap.size W w') := fun W g => by
  cases h with
  | false =>
   refine (eretx_no y m k wk d sec base W).mono ?_
   rintro e w' ⟨rfl, b⟩
   exact ⟨_, Lst.nil _ _, rfl, b⟩
  | true =>
   obtain ⟨u0, u1, u2, u3⟩ := Er.end_of (u := ⟨true, y, m, k, wk, d, sec, base⟩) a4 rfl
   exact eretx_yes y m k wk d sec base W u0 u1 u2 u3 tp pp z g
 have HL := Lib.hid (fun W (b : Below w.heap.size w W) => L.on b)
 have ht : (⟨off, kind, save, rs, fm, ⟨h, y, m, k, wk, d, sec, base⟩⟩ : Er.E).ts = [(Am.tx off).1, Er.rtx kind save rs, fm] ++ (⟨h, y, m, k, wk, d, sec, base⟩ : Er.U).et := rfl
 rw [ht]
 have hl4 : (⟨h, y, m, k, wk, d, sec, base⟩ : Er.U).et.length ≤ 4 := by
  unfold Er.U.et Er.U.ts
  split
  ·
   rw [List.length_take]; simp; omega
  ·
   simp
 clear hok hs hf y0 y1 L a0 a1 a2 a3 a4 s0 s1 ht
 generalize (⟨h, y, m, k, wk, d, sec, base⟩ : Er.U).et = E at *
 generalize (Am.tx off).1 = x0 at *
 generalize Er.rtx kind save rs = x1 at *
 obtain ⟨i0, hi, hz0, hz1, hz2⟩ := fd_parts fd_info
 go_enter Tryz.func67, Tryz.ntmps67
 have tx := B; obtain ⟨cX_b, cX_f, cX_0, cX_1, cX_2, cX_3, cX_4, cX_5, cX_6, cX_7, cX_8, cX_9, cX_10, cX_11, cX_12⟩ := tx
 go_wp2_with fail
 clear cX_b cX_f cX_0 cX_1 cX_2 cX_3 cX_4 cX_5 cX_6 cX_7 cX_8 cX_9 cX_10 cX_11 cX_12
 refine (RB.out _ (HL.out _ (Below.refl _ _))).mono ?_; rintro e w1 ⟨rfl, b1⟩
 have d1 : Below w.heap.size w w1 := below_step gr0 b1
 have B1 := Lib.hid d1
 have X1 := B.keep d1
 clear B b1 d1
 have tx := X1; obtain ⟨cX_b, cX_f, cX_0, cX_1, cX_2, cX_3, cX_4, cX_5, cX_6, cX_7, cX_8, cX_9, cX_10, cX_11, cX_12⟩ := tx
 go_wp2_with fail
 clear cX_b cX_f cX_0 cX_1 cX_2 cX_3 cX_4 cX_5 cX_6 cX_7 cX_8 cX_9 cX_10 cX_11 cX_12
 refine (need_yes 4 _).mono ?_; rintro e v1 ⟨rfl, rfl⟩
 have tx := X1; obtain ⟨cX_b, cX_f, cX_0, cX_1, cX_2, cX_3, cX_4, cX_5, cX_6, cX_7, cX_8, cX_9, cX_10, cX_11, cX_12⟩ := tx
 go_wp2_with fail
 clear cX_b cX_f cX_0 cX_1 cX_2 cX_3 cX_4 cX_5 cX_6 cX_7 cX_8 cX_9 cX_10 cX_11 cX_12
 have qX_0 := cell_regrown X1.k0
 have qX_1 := cell_regrown X1.k1
 have qX_2 := cell_regrown X1.k2
 have qX_3 := cell_regrown X1.k3
 have qX_4 := cell_regrown X1.k4
 have qX_5 := cell_regrown X1.k5
 have qX_6 := cell_regrown X1.k6
 have qX_7 := cell_regrown X1.k7
 have qX_8 := cell_regrown X1.k8
 have qX_9 := cell_regrown X1.k9
 have qX_10 := cell_regrown X1.k10
 have qX_11 := cell_regrown X1.k11
 have qX_12 := cell_regrown X1.k12
 refine wp_region_qbt (w := w1) 10 (by kernel_rfl) (by kernel_rfl) gr0 ?_
 simp only [List.take_succ_cons, List.take_zero, List.drop_succ_cons, List.drop_zero]
 repeat (any_goals (first | go_big_quiet_step (first | (go_at_call 44; exact Calls.regrown_of (AT.out _ (HL.out _ (below_step B1.out (below_regrown _ _ _))))) | (go_at_call 68; exact Calls.regrown_of (RT.out _ (HL.out _ (below_step B1.out (below_regrown _ _ _))))) | (go_at_call 38; exact Calls.regrown_of ((musts_yes _ _).mono fun _ _ h => ⟨h.1, h.2 ▸ Below.refl _ _⟩))) | quiet_step (first | (go_at_call 44; exact Calls.regrown_of (AT.out _ (HL.out _ (below_step B1.out (below_regrown _ _ _))))) | (go_at_call 68; exact Calls.regrown_of (RT.out _ (HL.out _ (below_step B1.out (below_regrown _ _ _))))) | (go_at_call 38; exact Calls.regrown_of ((musts_yes _ _).mono fun _ _ h => ⟨h.1, h.2 ▸ Below.refl _ _⟩)))))
 refine wpQuiet_nil ?_
 intro w2 b2
 clear qX_0 qX_1 qX_2 qX_3 qX_4 qX_5 qX_6 qX_7 qX_8 qX_9 qX_10 qX_11 qX_12
 have d2 : Below w1.heap.size w1 w2 := below_step gr0 b2
 have B2 := Lib.hid (below_step B1.out d2)
 have X2 := X1.keep d2
 clear X1 b2 d2 B1
 have tx := X2; obtain ⟨cX_b, cX_f, cX_0, cX_1, cX_2, cX_3, cX_4, cX_5, cX_6, cX_7, cX_8, cX_9, cX_10, cX_11, cX_12⟩ := tx
 go_wp2_with fail
 clear cX_b cX_f cX_0 cX_1 cX_2 cX_3 cX_4 cX_5 cX_6 cX_7 cX_8 cX_9 cX_10 cX_11 cX_12
 have O0 := Lib.hid (World.ownsRow_lit (base := w2.heap.size) (e := 9) (size := 1) w2 #[.string x0, .string x1, .string fm] 3 (Nat.le_refl _) (by decide) rfl)
 refine (ET.out _ (HL.out _ (grB B2))).mono ?_; rintro e w8 ⟨v8, s8, rfl, b8⟩
 have O8 := Lib.hid (own_on O0.out b8)
 have B8 := Lib.hid (below_step (grB B2) b8)
 have S8 := Lib.hid s8
 have hsz := B2.out.size
 have hs8 := b8.size
 simp at hs8
 clear b8 s8 O0 X2 RT ET AT RB
 go_wp2_with (at_builtin; refine wpList_append_lst rfl _ _ 22 rfl w2.heap.size 9 i0 (.string ⟨#[]⟩) 1 16 Tryz.underlying22 hi hz0 hz1 hz2 rfl (by decide) _ 3 _ rfl O8.out _ E.length _ (E.map Value.string) rfl S8.out (by simp) (by intro u hu; obtain ⟨x, _, rfl⟩ := List.mem_map.1 hu; rfl) (by unfold maxLen; omega) (by omega) (by omega) ?_)
 intro va wa own2 grow2
 have b2 : Below w2.heap.size w8 wa := below_grown grow2 (by omega) (own_row O8.out)
 have hrm := own_room own2
 have BA : Hid (Below w.heap.size w wa) := Lib.hid (B8.out.trans (b2.mono (by omega)))
 have HR := Lib.hid hrm
 have O2 : Hid (wa.ownsRow w2.heap.size 9 1 va ([x0, x1, fm] ++ E).length (([x0, x1, fm] ++ E).map Value.string)) := by
  have e1 : ([x0, x1, fm] ++ E).length = 3 + E.length := by simp; omega
  rw [e1]
  exact Lib.hid (by simpa using own2)
 clear own2 grow2 b2 hrm O8 S8
 obtain ⟨A9, c9, hv9, hc9⟩ := HR.out
 subst hv9
 go_wp2_with fail
 go_ret
 exact ⟨_, [x0, x1, fm] ++ E, StO.own O2.out hsz, ⟨_, _, _, rfl, hc9⟩, rfl, rfl, BA.out⟩
set_option maxRecDepth 100000 in
theorem erf_callFn (qs : Array Value) (W : World) : Sem.run Tryz.prog (callFunc 67 qs) W = .ok (.enter 67 qs) W := rfl
set_option maxHeartbeats 4000000 in
set_option maxRecDepth 100000 in
theorem erfields_any (off kind save : Int) (rs fm : ByteArray) (h : Bool) (y m k wk d sec base : Int) (w : World) (hs : rs.size ≤ 600) (hf : fm.size ≤ 600) (y0 : -9223372036854775808 ≤ y) (y1 : y ≤ 9223372036854775807) (tp : TypeId) (pp : Value) (z : Int) (L : Ru.Lv w tp pp z) :
  Calls Tryz.prog 20 #[.agg #[.int .i64 off, .int .i64 kind, .int .i64 save, .string rs, .string fm, .bool h, .int .i64 y, .int .i64 m, .int .i64 k, .int .i64 wk, .int .i64 d, .int .i64 sec, .int .i64 base]] w (AnsFR (Er.fl (⟨off, kind, save, rs, fm, ⟨h, y, m, k, wk, d, sec, base⟩⟩ : Er.E)) w) := by
 have BB : Hid (Bk13 (w.alloc (.cells #[.int .i64 off, .int .i64 kind, .int .i64 save, .string rs, .string fm, .bool h, .int .i64 y, .int .i64 m, .int .i64 k, .int .i64 wk, .int .i64 d, .int .i64 sec, .int .i64 base] 43)) w.heap.size (.int .i64 off) (.int .i64 kind) (.int .i64 save) (.string rs) (.string fm) (.bool h) (.int .i64 y) (.int .i64 m) (.int .i64 k) (.int .i64 wk) (.int .i64 d) (.int .i64 sec) (.int .i64 base)) := Lib.hid ⟨by simp, by intro j; simp [go_sem], by simp [go_sem], by simp [go_sem], by simp [go_sem], by simp [go_sem], by simp [go_sem], by simp [go_sem], by simp [go_sem], by simp [go_sem], by simp [go_sem], by simp [go_sem], by simp [go_sem], by simp [go_sem], by simp [go_sem]⟩
 have b0 : Below w.heap.size w (w.alloc (.cells #[.int .i64 off, .int .i64 kind, .int .i64 save, .string rs, .string fm, .bool h, .int .i64 y, .int .i64 m, .int .i64 k, .int .i64 wk, .int .i64 d, .int .i64 sec, .int .i64 base] 43)) := (Below.refl _ _).alloc (Nat.le_refl _) _
 have HL := Lib.hid (L.on b0)
 cases hok : Er.ok off kind save rs fm h y m k wk d sec base
 ·
  have T := Lib.hid (tcaught_no 67 #[.pointer (some ⟨w.heap.size, 0, none⟩)] (erf_callFn _) 0 4 _ (Lib.hid fun W' hB => erfields1_no w.heap.size off kind save rs fm h y m k wk d sec base W' (BB.out.keep hB) hs hf y0 y1 tp pp z (HL.out.on hB) hok))
  rw [Er.fl_no (e := (⟨off, kind, save, rs, fm, ⟨h, y, m, k, wk, d, sec, base⟩⟩ : Er.E)) hok]
  clear hok hs hf y0 y1 L HL BB b0
  go_enter Tryz.func20, Tryz.ntmps20
  go_wp2_with fail
  refine T.out.mono ?_; rintro e w1 ⟨rfl, b1⟩
  have B1 := Lib.hid (below_step ((Below.refl _ _).alloc (Nat.le_refl _) _) b1)
  clear b1
  go_wp2_with fail
  go_ret2
  exact ⟨none, 0, 0, [], Nat.le_refl _, Lst.nil _ _, rfl, rfl, B1.out⟩
 ·
  have T := Lib.hid (tcaught_room 67 #[.pointer (some ⟨w.heap.size, 0, none⟩)] (erf_callFn _) (((⟨off, kind, save, rs, fm, ⟨h, y, m, k, wk, d, sec, base⟩⟩ : Er.E).ts).map (·.data.toList)) _ (Lib.hid fun W' hB => erfields1_yes w.heap.size off kind save rs fm h y m k wk d sec base W' (BB.out.keep hB) hs hf y0 y1 tp pp z (HL.out.on hB) hok))
  rw [Er.fl_yes (e := (⟨off, kind, save, rs, fm, ⟨h, y, m, k, wk, d, sec, base⟩⟩ : Er.E)) hok]
  generalize ((⟨off, kind, save, rs, fm, ⟨h, y, m, k, wk, d, sec, base⟩⟩ : Er.E).ts).map (·.data.toList) = P at *
  clear hok hs hf y0 y1 L HL BB b0
  go_enter Tryz.func20, Tryz.ntmps20
  go_wp2_with fail
  refine T.out.mono ?_; rintro e w1 ⟨A, n, c, l, hnc, hst, hlp, rfl, b1⟩
  have B1 := Lib.hid (below_step ((Below.refl _ _).alloc (Nat.le_refl _) _) b1)
  have HS := Lib.hid hst; have HP := Lib.hid hlp; have HN := Lib.hid hnc
  clear b1 hst hlp hnc
  go_wp2_with fail
  go_ret2
  exact ⟨A, n, c, l, HN.out, HS.out, HP.out, rfl, B1.out⟩
set_option maxHeartbeats 2000000 in
theorem same13_yes (v v' : Value) (l : List ByteArray) (w : World) (hl : l.length ≤ 10000000) (S : StS w v l) (S' : StS w v' l) :
  Calls Tryz.prog 12 #[v, v'] w fun e w' => e = .returned (.bool true) ∧ Below w.heap.size w w' := by
 have T := S; have T' := S'
 obtain ⟨A, c, rfl, -⟩ := T; obtain ⟨A', c', rfl, -⟩ := T'
 have H := Lib.hid S; have H' := Lib.hid S'
 clear S S'
 obtain ⟨N, hN⟩ : ∃ N, N = l.length := ⟨_, rfl⟩
 have HN := Lib.hid hN
 rw [← hN]
 have hNb : N ≤ 10000000 := by omega
 have H : Hid (StS w (.slice A N c) l) := by rw [hN]; exact H
 have H' : Hid (StS w (.slice A' N c') l) := by rw [hN]; exact H'
 clear hN hl
 go_enter Tryz.func12, Tryz.ntmps12
 go_wp2_with fail
 go_loopw [13] (fun i wr => ∃ k : Nat, k ≤ N ∧ i = .int .i64 k ∧ Hid (Below w.heap.size w wr)) (fun i _ => N - (intOf i).toNat)
 case atStart => exact ⟨0, Nat.zero_le _, rfl, Below.refl _ _⟩
 case round =>
  obtain ⟨k, hk, rfl, hbw⟩ := hrel
  by_cases hlt : k < N
  ·
   obtain ⟨a, rfl, g⟩ := (H.out.on hbw.out).get k (by have := HN.out; omega)
   obtain ⟨a', rfl, g'⟩ := (H'.out.on hbw.out).get k (by have := HN.out; omega)
   generalize l[k]'(by have := HN.out; omega) = x at g g'
   go_wp2_with fail
   go_quiet (fail)
   go_wp2_with fail
   go_roundw
   case rel => exact ⟨k + 1, by omega, by go_num, Lib.hid (hbw.out.trans (below_draw _ _))⟩
   case measure => simp [intOf]; omega
  ·
   go_wp2_with fail
   go_ret
   exact ⟨rfl, hbw.out⟩
end Go.Proofs.YtpggfhmnhbnefaaGreatDoor
namespace Go.Pairs
open Go
def nodupB : List Nat → Bool
 | [] => true
 | x :: xs => !xs.contains x && nodupB xs
def onB (k : Nat) : List Oper → Bool
 | [] => true
 | o :: os => (o.after.toList.all fun e => decide (e.on < k)) && onB (k + 1) os
def insideB (n : Nat) (l : List Oper) : Bool := (l.filterMap (·.dst)).all fun d => decide (d < n)
theorem nodup_at : ∀ {l : List Oper}, nodupB (l.filterMap (·.dst)) = true → ∀ {i j : Nat} {oi oj : Oper} {d : Tmp}, l[i]? = some oi → l[j]? = some oj → oi.dst = some d → oj.dst = some d → i = j := by
 intro l
 induction l with
 | nil => intro _ i j oi oj d hi; simp at hi
 | cons o os ih =>
  intro h i j oi oj d hi hj hdi hdj
  have mem : ∀ {k : Nat} {ok : Oper}, os[k]? = some ok → ok.dst = some d → d ∈ os.filterMap (·.dst) := fun {k ok} hk hd => List.mem_filterMap.2 ⟨ok, List.mem_of_getElem? hk, hd⟩
  have hs : nodupB (os.filterMap (·.dst)) = true := by
   cases ho : o.dst with
   | none => simpa [List.filterMap_cons, ho] using h
   | some x => simp [ho, nodupB] at h; exact h.2
  have hnot : o.dst = some d → d ∉ os.filterMap (·.dst) := fun ho => by
   simp only [List.filterMap_cons, ho, nodupB, Bool.and_eq_true, Bool.not_eq_true'] at h
   intro hm
   have := h.1
   simp only [List.contains_eq_mem, decide_eq_false_iff_not] at this
   exact this hm
  cases i with
  | zero =>
   simp at hi; subst hi
   cases j with
   | zero => rfl
   | succ j => simp at hj; exact (hnot hdi (mem hj hdj)).elim
  | succ i =>
   simp at hi
   cases j with
   | zero => simp at hj; subst hj; exact (hnot hdj (mem hi hdi)).elim
   | succ j => simp at hj; rw [ih hs hi hj hdi hdj]
theorem on_at : ∀ {l : List Oper} {k : Nat}, onB k l = true → ∀ {i : Nat} {o : Oper}, l[i]? = some o → ∀ e ∈ o.after, e.on < k + i := by
 intro l
 induction l with
 | nil => intro k _ i o hi; simp at hi
 | cons x os ih =>
  intro k h i o hi e he
  simp only [onB, Bool.and_eq_true] at h
  cases i with
  | zero => simp at hi; subst hi; have := List.all_eq_true.1 h.1 e (by simpa using he); simpa using this
  | succ i => simp at hi; have := ih h.2 hi e he; omega
theorem inside_at {n : Nat} {l : List Oper} (h : insideB n l = true) {i : Nat} {o : Oper} {d : Tmp} (hi : l[i]? = some o) (hd : o.dst = some d) : d < n := by
 have := List.all_eq_true.1 h d (List.mem_filterMap.2 ⟨o, List.mem_of_getElem? hi, hd⟩)
 simpa using this
section
variable (P : Program) (l : List Oper) (R : Nat → Value → World → Prop) (C : World → Prop) (G : World → World → Prop) (Q : Exit → Act → World → Prop) (a0 : Act)
structure Same (a : Act) : Prop where
 size : a.tmps.size = a0.tmps.size
 defers : a.defers = a0.defers
 base : ∀ t, (l.filterMap (·.dst)).contains t = false → a.tmps[t]? = a0.tmps[t]?
def Ob (i : Nat) (o : Oper) : Prop :=
 ∀ a w, C w → Same l a0 a → (∀ j oj d, l[j]? = some oj → oj.dst = some d → o.after.any (fun e => Region.binds .any e && e.on == j) = true → ∃ v, a.tmps[d]? = some v ∧ R j v w) →
  ∀ K : Act → World → Prop, (∀ v w', G w w' → R i v w' → K (a.put o.dst v) w') → if Region.wanted o (yielded l.toArray a.tmps) = true then o.wp P a w K Q else K (a.put o.dst undef) w
structure Good : Prop where
 nodup : nodupB (l.filterMap (·.dst)) = true
 on : onB 0 l = true
 inside : insideB a0.tmps.size l = true
 keep : ∀ w w', C w → G w w' → C w'
 stable : ∀ i v w w', G w w' → R i v w → R i v w'
 ob : ∀ i o, l[i]? = some o → Ob P l R C G Q a0 i o
 last : ∀ a w, C w → Same l a0 a → (∀ j oj d, l[j]? = some oj → oj.dst = some d → ∃ v, a.tmps[d]? = some v ∧ R j v w) → Q .normal a w
variable {P l R C G Q a0}
theorem put_same {a : Act} {d : Tmp} {v : Value} (h : d < a.tmps.size) : (a.put (some d) v).tmps[d]? = some v := by
 simp [Act.put, h]
theorem put_other {a : Act} {x : Option Tmp} {d : Tmp} {v : Value} (h : x ≠ some d) : (a.put x v).tmps[d]? = a.tmps[d]? := by
 cases x with
 | none => rfl
 | some e => simp only [Act.put]; exact Array.getElem?_setIfInBounds_ne (fun he => h (by rw [he]))
theorem Same.put {a : Act} {i : Nat} {o : Oper} (hi : l[i]? = some o) (h : Same l a0 a) (v : Value) : Same l a0 (a.put o.dst v) := by
 refine ⟨?_, ?_, fun t ht => ?_⟩
 ·
  rw [← h.size]; cases o.dst <;> simp [Act.put]
 ·
  rw [← h.defers]; cases o.dst <;> rfl
 ·
  rw [put_other (fun hd => by
   have := List.mem_filterMap.2 ⟨o, List.mem_of_getElem? hi, hd⟩
   simp only [List.contains_eq_mem, decide_eq_false_iff_not] at ht
   exact ht this)]
  exact h.base t ht
theorem all_listed (h : Good P l R C G Q a0) {listed : Array Bool} (hs : listed.size = l.length) (hr : Region.ready .any l.toArray listed = []) : ∀ n, n < l.length → listed.getD n false = true := by
 intro n
 induction n using Nat.strongRecOn with
 | ind n ih =>
  intro hn
  rcases hb : listed.getD n false with _ | _
  ·
   have hmem : n ∈ Region.ready .any l.toArray listed := by
    refine mem_ready.2 ⟨?_, l[n], by simp [hn], fun e he _ => ih e.on ?_ ?_⟩
    ·
     have : n < listed.size := by omega
     simp [this] at hb ⊢; exact hb
    ·
     have := on_at h.on (List.getElem?_eq_getElem hn) e he; omega
    ·
     have := on_at h.on (List.getElem?_eq_getElem hn) e he; omega
   rw [hr] at hmem; cases hmem
  ·
   rfl
theorem wpAny_of (h : Good P l R C G Q a0) : ∀ (fuel : Nat) (listed : Array Bool) (a : Act) (w : World), listed.size = l.length → listed.toList.count false ≤ fuel → C w → Same l a0 a →
  (∀ j oj d, l[j]? = some oj → oj.dst = some d → listed.getD j false = true → ∃ v, a.tmps[d]? = some v ∧ R j v w) → wpAny P .any l.toArray Q fuel listed a w := by
 intro fuel
 have fin : ∀ (listed : Array Bool) (a : Act) (w : World), listed.size = l.length → C w → Same l a0 a → (∀ j oj d, l[j]? = some oj → oj.dst = some d → listed.getD j false = true → ∃ v, a.tmps[d]? = some v ∧ R j v w) → Region.ready .any l.toArray listed = [] → Q .normal a w :=
  fun listed a w hs hC hS hR hr => h.last a w hC hS fun j oj d hj hd => hR j oj d hj hd (all_listed h hs hr j (List.getElem?_eq_some_iff.1 hj).1)
 induction fuel with
 | zero =>
  intro listed a w hs hc hC hS hR
  have hr : Region.ready .any l.toArray listed = [] := by
   rw [List.eq_nil_iff_forall_not_mem]
   intro j hj
   have h1 := (mem_ready.1 hj).1
   have hlt : j < listed.size := by
    rcases Nat.lt_or_ge j listed.size with h' | h'
    ·
     exact h'
    ·
     simp [Array.getElem?_eq_none h'] at h1
   have : false ∈ listed.toList := by
    simp [hlt] at h1
    rw [← h1]; simp
   have := List.count_pos_iff.2 this
   omega
  exact ⟨hr, fin listed a w hs hC hS hR hr⟩
 | succ fuel ih =>
  intro listed a w hs hc hC hS hR
  refine ⟨fin listed a w hs hC hS hR, fun i hi => ?_⟩
  obtain ⟨hun, o, ho, hall⟩ := mem_ready.1 hi
  have ho' : l[i]? = some o := by simpa using ho
  have hlt : i < listed.size := by
   rcases Nat.lt_or_ge i listed.size with h' | h'
   ·
    exact h'
   ·
    simp [Array.getElem?_eq_none h'] at hun
  have hob := h.ob i o ho' a w hC hS (fun j oj d hj hd he => hR j oj d hj hd (by
   simp only [Array.any_eq_true', Bool.and_eq_true, beq_iff_eq] at he
   obtain ⟨e, he, hb, rfl⟩ := he
   exact hall e he hb))
  refine wpOp_step ho fun K' hK => ?_
  refine hob K' fun v w' hG hRv => hK _ _ ?_
  have hC' := h.keep _ _ hC hG
  refine ih _ _ _ (by simpa using hs) ?_ hC' (hS.put ho' v) ?_
  ·
   have hl : i < listed.toList.length := by simpa using hlt
   have hf : listed.toList[i] = false := by simp [hlt] at hun; simpa using hun
   rw [Array.toList_setIfInBounds, List.count_set hl]
   have hp : 0 < listed.toList.count false := List.count_pos_iff.2 (hf ▸ List.getElem_mem hl)
   simp [hf]
   simp at hp hc
   omega
  ·
   intro j oj d hj hd hlj
   by_cases hij : i = j
   ·
    subst hij
    obtain rfl : o = oj := by rw [ho'] at hj; exact Option.some.inj hj
    rw [hd, put_same (by rw [hS.size]; exact inside_at h.inside hj hd)]
    exact ⟨_, rfl, hRv⟩
   ·
    rw [put_other (fun he => hij (nodup_at h.nodup ho' hj he hd))]
    obtain ⟨v', h1, h2⟩ := hR j oj d hj hd (by rw [getD_set_ne false hij] at hlj; exact hlj)
    exact ⟨v', h1, h.stable _ _ _ _ hG h2⟩
theorem wp_region_pairs {id : Nat} {w : World} (hm : P.follows .mixedOrders = true) (hC : C w.drew) (h : Good P l R C G Q a0) : (Code.region id l.toArray true).wp P Q a0 w := by
 refine wp_region_any hm ?_
 refine wpAny_of h _ _ _ _ (by simp) (by simp) hC ⟨rfl, rfl, fun _ _ => rfl⟩ ?_
 intro j oj d hj _ hl
 have := (List.getElem?_eq_some_iff.1 hj).1
 simp [this] at hl
/-! ### For the walk -/
def markR (ms : List (Value → World → Prop)) (i : Nat) (v : Value) (w : World) : Prop := (ms.getD i fun _ _ => True) v w
def Obs (P : Program) (l : List Oper) (R : Nat → Value → World → Prop) (C : World → Prop) (G : World → World → Prop) (Q : Exit → Act → World → Prop) (a0 : Act) : Nat → List Oper → Prop
 | _, [] => True
 | k, o :: os => Ob P l R C G Q a0 k o ∧ Obs P l R C G Q a0 (k + 1) os
theorem Obs.at : ∀ {os : List Oper} {k : Nat}, Obs P l R C G Q a0 k os → ∀ i o, os[i]? = some o → Ob P l R C G Q a0 (k + i) o := by
 intro os
 induction os with
 | nil => intro k _ i o h; simp at h
 | cons x os ih =>
  intro k h i o hi
  cases i with
  | zero => simp at hi; subst hi; exact h.1
  | succ i => simp at hi; have := ih h.2 i o hi; rw [show k + (i + 1) = k + 1 + i by omega]; exact this
theorem Obs.all (h : Obs P l R C G Q a0 0 l) : ∀ i o, l[i]? = some o → Ob P l R C G Q a0 i o := fun i o hi => by
 have := h.at i o hi
 rwa [Nat.zero_add] at this
theorem Obs.nil {k : Nat} : Obs P l R C G Q a0 k [] := trivial
theorem Obs.cons {k k' : Nat} {o : Oper} {os : List Oper} (hk : k + 1 = k') (h : Ob P l R C G Q a0 k o) (hs : Obs P l R C G Q a0 k' os) : Obs P l R C G Q a0 k (o :: os) := ⟨h, hk ▸ hs⟩
def StableL (G : World → World → Prop) : List (Value → World → Prop) → Prop
 | [] => True
 | f :: fs => (∀ v w w', G w w' → f v w → f v w') ∧ StableL G fs
theorem StableL.all {ms : List (Value → World → Prop)} (h : StableL G ms) : ∀ i v w w', G w w' → markR ms i v w → markR ms i v w' := by
 induction ms with
 | nil => intro i v w w' _ _; simp [markR]
 | cons f fs ih =>
  intro i v w w' hG hm
  cases i with
  | zero => exact h.1 v w w' hG hm
  | succ i => exact ih h.2 i v w w' hG hm
theorem wanted_plain {o : Oper} {y : Nat → Option Bool} (h : o.guard = none) : Region.wanted o y = true := by simp [Region.wanted, h]
theorem wanted_guard {o og : Oper} {tmps : Array Value} {g : Nat} {want b : Bool} {t : Tmp} (h : o.guard = some (g, want)) (hg : l[g]? = some og) (ht : og.dst = some t) (hv : tmps[t]? = some (.bool b)) :
  Region.wanted o (yielded l.toArray tmps) = (b == want) := by
 simp [Region.wanted, h, yielded, hg, ht, hv]
 try cases b <;> cases want <;> rfl
end
end Go.Pairs
