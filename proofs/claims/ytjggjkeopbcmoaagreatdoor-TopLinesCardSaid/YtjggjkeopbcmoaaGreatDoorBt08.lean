/- Joined: WdD, GvF, DsA. -/
import Derived.Test.YtjggjkeopbcmoaaGreatDoorBt07
import Derived.Test.YtjggjkeopbcmoaaGreatDoorBt01
set_option linter.unusedVariables false
set_option linter.unusedSimpArgs false
namespace Go.Proofs.YtjggjkeopbcmoaaGreatDoor
open Go.RowKit Go.Sort
structure Wd.DTabs (w : World) : Prop where
 d0 : w.cell? ⟨2, 0, none⟩ = some (.string ⟨#[83, 117, 110, 100, 97, 121]⟩)
 d1 : w.cell? ⟨2, 1, none⟩ = some (.string ⟨#[77, 111, 110, 100, 97, 121]⟩)
 d2 : w.cell? ⟨2, 2, none⟩ = some (.string ⟨#[84, 117, 101, 115, 100, 97, 121]⟩)
 d3 : w.cell? ⟨2, 3, none⟩ = some (.string ⟨#[87, 101, 100, 110, 101, 115, 100, 97, 121]⟩)
 d4 : w.cell? ⟨2, 4, none⟩ = some (.string ⟨#[84, 104, 117, 114, 115, 100, 97, 121]⟩)
 d5 : w.cell? ⟨2, 5, none⟩ = some (.string ⟨#[70, 114, 105, 100, 97, 121]⟩)
 d6 : w.cell? ⟨2, 6, none⟩ = some (.string ⟨#[83, 97, 116, 117, 114, 100, 97, 121]⟩)
theorem Wd.DTabs.on {w w' : World} (h : Wd.DTabs w) (k : Below w.heap.size w w') : Wd.DTabs w' := ⟨(k.cell (World.block_lt_of_cell? _ _ h.d0)).trans h.d0, (k.cell (World.block_lt_of_cell? _ _ h.d1)).trans h.d1, (k.cell (World.block_lt_of_cell? _ _ h.d2)).trans h.d2, (k.cell (World.block_lt_of_cell? _ _ h.d3)).trans h.d3, (k.cell (World.block_lt_of_cell? _ _ h.d4)).trans h.d4, (k.cell (World.block_lt_of_cell? _ _ h.d5)).trans h.d5, (k.cell (World.block_lt_of_cell? _ _ h.d6)).trans h.d6⟩
set_option maxHeartbeats 2000000 in
set_option maxRecDepth 100000 in
theorem wday_any (s : ByteArray) (w : World) (hs : s.size ≤ maxLen) (T : Wd.DTabs w) :
  Calls Tryz.prog 166 #[.string s] w fun e w' => e = .returned (.tuple #[.int .i64 (Wd.mat s.data.toList Wd.days).1, .int .i64 (Wd.mat s.data.toList Wd.days).2]) ∧ Below w.heap.size w w' := by
 have t_d0 := T.d0
 have t_d1 := T.d1
 have t_d2 := T.d2
 have t_d3 := T.d3
 have t_d4 := T.d4
 have t_d5 := T.d5
 have t_d6 := T.d6
 have SZ : ∀ x ∈ Wd.days, x.size ≤ maxLen := by unfold Wd.days maxLen; intro x hx; simp at hx; rcases hx with rfl | rfl | rfl | rfl | rfl | rfl | rfl <;> decide
 have ST : StS (w.alloc (.cells #[.string ⟨#[83, 117, 110, 100, 97, 121]⟩, .string ⟨#[77, 111, 110, 100, 97, 121]⟩, .string ⟨#[84, 117, 101, 115, 100, 97, 121]⟩, .string ⟨#[87, 101, 100, 110, 101, 115, 100, 97, 121]⟩, .string ⟨#[84, 104, 117, 114, 115, 100, 97, 121]⟩, .string ⟨#[70, 114, 105, 100, 97, 121]⟩, .string ⟨#[83, 97, 116, 117, 114, 100, 97, 121]⟩] 134)) (.slice (some ⟨w.heap.size, 0, none⟩) 7 7) Wd.days :=
  ⟨_, _, rfl, fun _ => ⟨_, rfl, by simp, by
   intro j u hj
   have hl : j < 7 := by
    have := (List.getElem?_eq_some_iff.1 hj).1
    simpa [Wd.days] using this
   obtain rfl | rfl | rfl | rfl | rfl | rfl | rfl : j = 0 ∨ j = 1 ∨ j = 2 ∨ j = 3 ∨ j = 4 ∨ j = 5 ∨ j = 6 := by omega
   all_goals (simp [Wd.days] at hj; subst hj; simp [Addr.add, go_sem])⟩⟩
 have HS := Lib.hid ST; clear ST
 have HM := Lib.hid (fun W (h : StS W (.slice (some ⟨w.heap.size, 0, none⟩) 7 7) Wd.days) => match_any s _ Wd.days W h hs SZ (by unfold maxLen; decide))
 have bd := Wd.mat_bd s.data.toList Wd.days
 have ln : Wd.days.length = 7 := rfl
 rw [ln] at bd
 clear SZ T ln
 generalize Wd.mat s.data.toList Wd.days = ans at HM bd ⊢
 obtain ⟨p, q⟩ := ans
 dsimp only at HM bd ⊢
 obtain ⟨p0, p1, hq⟩ := bd
 go_enter Tryz.func166, Tryz.ntmps166
 go_wp2_with fail
 refine (HM.out _ HS.out).mono ?_; rintro e w1 ⟨rfl, j, rfl⟩
 go_wp2_with fail
 go_ret2
 exact ⟨rfl, below_drewN ((Below.refl _ _).alloc (Nat.le_refl _) _) _⟩
set_option maxHeartbeats 4000000 in
set_option maxRecDepth 100000 in
theorem wdtx_any (n : Int) (w : World) (T : Wd.DTabs w) :
  Calls Tryz.prog 54 #[.int .i64 n] w fun e w' => e = .returned (.string (Wd.t3 Wd.days (n - 0))) ∧ Below w.heap.size w w' := by
 by_cases h : 0 ≤ n ∧ n ≤ 6
 ·
  obtain rfl | rfl | rfl | rfl | rfl | rfl | rfl : n = 0 ∨ n = 1 ∨ n = 2 ∨ n = 3 ∨ n = 4 ∨ n = 5 ∨ n = 6 := by omega
  ·
   have t := T.d0
   clear T
   go_enter Tryz.func54, Tryz.ntmps54
   go_wp2
   go_ret
   exact ⟨rfl, Below.refl _ _⟩
  ·
   have t := T.d1
   clear T
   go_enter Tryz.func54, Tryz.ntmps54
   go_wp2
   go_ret
   exact ⟨rfl, Below.refl _ _⟩
  ·
   have t := T.d2
   clear T
   go_enter Tryz.func54, Tryz.ntmps54
   go_wp2
   go_ret
   exact ⟨rfl, Below.refl _ _⟩
  ·
   have t := T.d3
   clear T
   go_enter Tryz.func54, Tryz.ntmps54
   go_wp2
   go_ret
   exact ⟨rfl, Below.refl _ _⟩
  ·
   have t := T.d4
   clear T
   go_enter Tryz.func54, Tryz.ntmps54
   go_wp2
   go_ret
   exact ⟨rfl, Below.refl _ _⟩
  ·
   have t := T.d5
   clear T
   go_enter Tryz.func54, Tryz.ntmps54
   go_wp2
   go_ret
   exact ⟨rfl, Below.refl _ _⟩
  ·
   have t := T.d6
   clear T
   go_enter Tryz.func54, Tryz.ntmps54
   go_wp2
   go_ret
   exact ⟨rfl, Below.refl _ _⟩
 ·
  rw [show Wd.t3 Wd.days (n - 0) = ByteArray.empty by unfold Wd.t3; rw [if_neg]; rw [show (Wd.days.length : Int) = 7 from rfl]; omega]
  clear T
  by_cases c1 : n < 0
  ·
   go_enter Tryz.func54, Tryz.ntmps54
   go_wp2
   go_ret
   exact ⟨rfl, Below.refl _ _⟩
  ·
   have c2 : 6 < n := by omega
   go_enter Tryz.func54, Tryz.ntmps54
   go_wp2
   go_ret
   exact ⟨rfl, Below.refl _ _⟩
set_option maxRecDepth 100000 in
theorem ocatch (b : Nat) (x y line why : Int) (older : List PanicEntry) (w : World) (hb : b < w.heap.size) (hc : w.cell? ⟨b, 0, none⟩ = some (.int .i64 x)) (hd : w.cell? ⟨b, 1, none⟩ = some (.int .i64 y)) (hz : ∀ j, w.frozen? ⟨b, j, none⟩ = false) :
  CallsD Tryz.prog 165 #[.pointer (some ⟨b, 0, none⟩)] (.panicking ({ v := gvV line why, recovered := false } :: older)) w fun e u' w' =>
   e = .returned (.tuple #[]) ∧ u' = .panicking ({ v := gvV line why, recovered := true } :: older) ∧ w' = ((w.setCell ⟨b, 0, none⟩ (.int .i64 line)).setCell ⟨b, 1, none⟩ (.int .i64 why)).alloc (.cells #[.int .i64 line, .int .i64 why] 130) := by
 unfold gvV
 have hta := fun W => gv_assert line why W
 refine callsD_of_wpS Tryz.func165 rfl fun c₀ cs hu => ?_
 apply wpS_seq
 apply wpS_region
 simp [wpOpsS, go_sem, recoverD, hu, Tryz.ntmps165, Exit.thenS]
 refine wpS_of_wp ?_
 rw [show (#[Value.pointer (some ⟨b, 0, none⟩)] ++ (Array.replicate 11 undef).setIfInBounds 3 (Value.iface 130 (Value.agg #[Value.int IntKind.i64 line, Value.int IntKind.i64 why])) : Array Value) = #[.pointer (some ⟨b, 0, none⟩), undef, undef, undef, .iface 130 (.agg #[.int .i64 line, .int .i64 why]), undef, undef, undef, undef, undef, undef, undef] from rfl]
 have n1 : b ≠ w.heap.size := Nat.ne_of_lt hb
 have n2 : w.heap.size ≠ b := Nat.ne_of_gt hb
 go_wp2_with fail
 all_goals (cases c₀; simp_all [bodyPostS, results, Tryz.results165])
theorem oidle (p : Addr) (w : World) :
  CallsD Tryz.prog 165 #[.pointer (some p)] .returning w fun e u' w' => e = .returned (.tuple #[]) ∧ u' = .returning ∧ w' = w := by
 refine callsD_of_wpS Tryz.func165 rfl fun c₀ cs hu => ?_
 apply wpS_seq
 apply wpS_region
 simp [wpOpsS, go_sem, recoverD, hu, Tryz.ntmps165, Exit.thenS]
 refine wpS_of_wp ?_
 rw [show (#[Value.pointer (some p)] ++ (Array.replicate 11 undef).setIfInBounds 3 Value.nilIface : Array Value) = #[.pointer (some p), undef, undef, undef, .nilIface, undef, undef, undef, undef, undef, undef, undef] from rfl]
 go_wp2_with fail
 all_goals (cases c₀; simp_all [bodyPostS, results, Tryz.results165])
set_option maxHeartbeats 1000000 in
set_option maxRecDepth 100000 in
theorem ocaughtat_yes (g : FuncId) (qs : Array Value) (hg : ∀ W, Sem.run Tryz.prog (callFunc g qs) W = .ok (.enter g qs) W) (x : Int) (y : Int) (z : Int) (w : World)
  (CG : Hid (∀ W, Below w.heap.size w W → Calls Tryz.prog g qs W fun e w' => e = .returned (.agg #[.int .i64 x, .int .i64 y, .int .i64 z]) ∧ Below W.heap.size W w')) :
  Calls Tryz.prog 137 #[.func (Fn.func g) #[] qs] w fun e w' => e = .returned (.tuple #[.agg #[.int .i64 x, .int .i64 y, .int .i64 z], .agg #[.int .i64 0, .int .i64 0]]) ∧ Below w.heap.size w w' := by
 have hmf : ∀ (fn : Fn) (first cap : Array Value) (w : World), (Instr.makeFunc fn first cap).run Tryz.prog w = .ok (.func fn first cap) w := fun _ _ _ _ => rfl
 go_enter_defers Tryz.func137, Tryz.ntmps137
 go_wp2_with fail
 have b0 : Below w.heap.size w ((w.alloc (.cells #[.int .i64 0, .int .i64 0, .int .i64 0] 23)).alloc (.cells #[.int .i64 0, .int .i64 0] 84)) := ((Below.refl _ _).alloc (Nat.le_refl _) _).alloc (by simp) _
 refine (CG.out _ b0).mono ?_; rintro e w1 ⟨rfl, b1⟩
 have B1 := Lib.hid (below_step b0 b1)
 have P1 : Bk3 w1 w.heap.size (.int .i64 0) (.int .i64 0) (.int .i64 0) := by refine Bk3.of b1 (by simp <;> omega) (by intro j; simp [go_sem]) ?_ ?_ ?_ <;> simp [go_sem]
 have Q1 : Bk2 w1 (w.heap.size + 1) (.int .i64 0) (.int .i64 0) := by refine Bk2.of b1 (by simp <;> omega) (by intro j; simp [go_sem]) ?_ ?_ <;> simp [go_sem]
 have hz := Lib.hid B1.out.size
 clear b1 b0
 have c_b := Q1.hb; have c_f := Q1.fz; have c_0 := Q1.k0; have c_1 := Q1.k1
 have p_b := P1.hb; have p_f := P1.fz; have p_0 := P1.k0; have p_1 := P1.k1; have p_2 := P1.k2
 clear Q1 P1
 go_wp2_with fail
 refine leaves_cons (f := 165) (args := #[.pointer (some ⟨w.heap.size + 1, 0, none⟩)]) (by simp) (by simp [go_sem]) ?_
 refine (oidle ⟨w.heap.size + 1, 0, none⟩ _).mono ?_
 rintro e u' w'' ⟨rfl, rfl, rfl⟩
 simp [Leaves, settle, results, Tryz.results137, go_sem, c_b, c_0, c_1, c_f, p_b, p_0, p_1, p_2, p_f]
 clear c_b c_f c_0 c_1 p_b p_f p_0 p_1 p_2
 repeat (refine Below.setCell ?_ (by first | omega | (simp; done) | (simp; omega)) _)
 exact B1.out
set_option maxHeartbeats 1000000 in
set_option maxRecDepth 100000 in
theorem ocaughtat_no (g : FuncId) (qs : Array Value) (hg : ∀ W, Sem.run Tryz.prog (callFunc g qs) W = .ok (.enter g qs) W) (line why : Int) (w : World)
  (CG : Hid (∀ W, Below w.heap.size w W → Calls Tryz.prog g qs W fun e w' => e = .panicked (gvL line why) ∧ Below W.heap.size W w')) :
  Calls Tryz.prog 137 #[.func (Fn.func g) #[] qs] w fun e w' => e = .returned (.tuple #[.agg #[.int .i64 0, .int .i64 0, .int .i64 0], .agg #[.int .i64 line, .int .i64 why]]) ∧ Below w.heap.size w w' := by
 have hmf : ∀ (fn : Fn) (first cap : Array Value) (w : World), (Instr.makeFunc fn first cap).run Tryz.prog w = .ok (.func fn first cap) w := fun _ _ _ _ => rfl
 go_enter_defers Tryz.func137, Tryz.ntmps137
 go_wp2_with fail
 have b0 : Below w.heap.size w ((w.alloc (.cells #[.int .i64 0, .int .i64 0, .int .i64 0] 23)).alloc (.cells #[.int .i64 0, .int .i64 0] 84)) := ((Below.refl _ _).alloc (Nat.le_refl _) _).alloc (by simp) _
 refine (CG.out _ b0).mono ?_; rintro e w1 ⟨rfl, b1⟩
 have B1 := Lib.hid (below_step b0 b1)
 have P1 : Bk3 w1 w.heap.size (.int .i64 0) (.int .i64 0) (.int .i64 0) := by refine Bk3.of b1 (by simp <;> omega) (by intro j; simp [go_sem]) ?_ ?_ ?_ <;> simp [go_sem]
 have Q1 : Bk2 w1 (w.heap.size + 1) (.int .i64 0) (.int .i64 0) := by refine Bk2.of b1 (by simp <;> omega) (by intro j; simp [go_sem]) ?_ ?_ <;> simp [go_sem]
 have hz := Lib.hid B1.out.size
 clear b1 b0
 have c_b := Q1.hb; have c_f := Q1.fz; have c_0 := Q1.k0; have c_1 := Q1.k1
 have p_b := P1.hb; have p_f := P1.fz; have p_0 := P1.k0; have p_1 := P1.k1; have p_2 := P1.k2
 clear Q1 P1
 refine (show bodyPostD _ _ _ (Exit.panic (gvL line why)) _ _ from ?_)
 refine leaves_cons (f := 165) (args := #[.pointer (some ⟨w.heap.size + 1, 0, none⟩)]) (by simp) (by simp [go_sem]) ?_
 refine (ocatch (w.heap.size + 1) 0 0 line why [] _ c_b c_0 c_1 c_f).mono ?_
 rintro e u' w'' ⟨rfl, rfl, rfl⟩
 simp [Leaves, settle, results, Tryz.results137, go_sem, c_b, c_0, c_1, c_f, p_b, p_0, p_1, p_2, p_f]
 clear c_b c_f c_0 c_1 p_b p_f p_0 p_1 p_2
 refine Below.alloc (Below.setCell (Below.setCell B1.out (by first | omega | (simp; done) | (simp; omega)) _) (by first | omega | (simp; done) | (simp; omega)) _) (by simp; exact hz.out) _
set_option maxHeartbeats 1000000 in
set_option maxRecDepth 100000 in
theorem ocaught_yes (g : FuncId) (qs : Array Value) (hg : ∀ W, Sem.run Tryz.prog (callFunc g qs) W = .ok (.enter g qs) W) (x : Int) (y : Int) (z : Int) (w : World)
  (CG : Hid (∀ W, Below w.heap.size w W → Calls Tryz.prog g qs W fun e w' => e = .returned (.agg #[.int .i64 x, .int .i64 y, .int .i64 z]) ∧ Below W.heap.size W w')) :
  Calls Tryz.prog 109 #[.func (Fn.func g) #[] qs] w fun e w' => e = .returned (.tuple #[.agg #[.int .i64 x, .int .i64 y, .int .i64 z], .int .i64 0]) ∧ Below w.heap.size w w' := by
 go_enter Tryz.func109, Tryz.ntmps109
 go_wp2_with fail
 refine (ocaughtat_yes g qs hg x y z _ (Lib.hid fun W hW => CG.out W (((Below.refl _ _).alloc (Nat.le_refl _) _).trans (hW.mono (by simp))))).mono ?_; rintro e w1 ⟨rfl, b1⟩
 have d1 : Below w.heap.size w w1 := below_step gr0 b1
 have B1 := Lib.hid d1
 have R1 : Bk3 w1 (w.heap.size) (.int .i64 0) (.int .i64 0) (.int .i64 0) := by refine Bk3.of b1 (by simp <;> omega) (by intro j; simp [go_sem]) ?_ ?_ ?_ <;> simp [go_sem]
 clear b1 d1
 have tx := R1; obtain ⟨cR_b, cR_f, cR_0, cR_1, cR_2⟩ := tx
 go_wp2_with fail
 clear cR_b cR_f cR_0 cR_1 cR_2
 refine wp_named ?_; intro w2 hw2
 have d2 : Below w1.heap.size w1 w2 := by rw [hw2]; exact gr0
 have B2 := Lib.hid (below_step B1.out d2)
 have R2 := R1.keep d2
 have aY := B1.out.size
 have nYR := Nat.ne_of_lt R1.hb
 have oYR := Nat.ne_of_gt R1.hb
 have Y2 : Bk3 w2 (w1.heap.size) (.int .i64 x) (.int .i64 y) (.int .i64 z) := by rw [hw2]; exact ⟨by simp <;> omega, by intro j; simp [go_sem], by simp [go_sem], by simp [go_sem], by simp [go_sem]⟩
 have aZ := B1.out.size
 have nZR := Nat.ne_of_lt R1.hb
 have oZR := Nat.ne_of_gt R1.hb
 have Z2 : Bk2 w2 (w1.heap.size + 1) (.int .i64 0) (.int .i64 0) := by rw [hw2]; exact ⟨by simp <;> omega, by intro j; simp [go_sem], by simp [go_sem], by simp [go_sem]⟩
 clear R1 d2 hw2 B1
 have tx := R2; obtain ⟨cR_b, cR_f, cR_0, cR_1, cR_2⟩ := tx
 have tx := Y2; obtain ⟨cY_b, cY_f, cY_0, cY_1, cY_2⟩ := tx
 have tx := Z2; obtain ⟨cZ_b, cZ_f, cZ_0, cZ_1⟩ := tx
 go_region_with (fail)
 all_goals
  go_wp2_with fail
  refine bodyPost_ret (v := .tuple #[.agg #[.int .i64 x, .int .i64 y, .int .i64 z], .int .i64 0]) (by simp [results, Tryz.results109, go_sem, *]) rfl ⟨rfl, ?_⟩
  have hz := B2.out.size
  repeat (first | exact B2.out | refine below_drewN ?_ _ | refine Below.drew ?_ | refine Below.setCell ?_ (by first | omega | (simp; done) | (simp; omega)) _ | refine Below.alloc ?_ (by first | omega | (simp; done) | (simp; omega)) _)
set_option maxHeartbeats 1000000 in
set_option maxRecDepth 100000 in
theorem ocaught_no (g : FuncId) (qs : Array Value) (hg : ∀ W, Sem.run Tryz.prog (callFunc g qs) W = .ok (.enter g qs) W) (line why : Int) (w : World)
  (CG : Hid (∀ W, Below w.heap.size w W → Calls Tryz.prog g qs W fun e w' => e = .panicked (gvL line why) ∧ Below W.heap.size W w')) :
  Calls Tryz.prog 109 #[.func (Fn.func g) #[] qs] w fun e w' => e = .returned (.tuple #[.agg #[.int .i64 0, .int .i64 0, .int .i64 0], .int .i64 why]) ∧ Below w.heap.size w w' := by
 go_enter Tryz.func109, Tryz.ntmps109
 go_wp2_with fail
 refine (ocaughtat_no g qs hg line why _ (Lib.hid fun W hW => CG.out W (((Below.refl _ _).alloc (Nat.le_refl _) _).trans (hW.mono (by simp))))).mono ?_; rintro e w1 ⟨rfl, b1⟩
 have d1 : Below w.heap.size w w1 := below_step gr0 b1
 have B1 := Lib.hid d1
 have R1 : Bk3 w1 (w.heap.size) (.int .i64 0) (.int .i64 0) (.int .i64 0) := by refine Bk3.of b1 (by simp <;> omega) (by intro j; simp [go_sem]) ?_ ?_ ?_ <;> simp [go_sem]
 clear b1 d1
 have tx := R1; obtain ⟨cR_b, cR_f, cR_0, cR_1, cR_2⟩ := tx
 go_wp2_with fail
 clear cR_b cR_f cR_0 cR_1 cR_2
 refine wp_named ?_; intro w2 hw2
 have d2 : Below w1.heap.size w1 w2 := by rw [hw2]; exact gr0
 have B2 := Lib.hid (below_step B1.out d2)
 have R2 := R1.keep d2
 have aY := B1.out.size
 have nYR := Nat.ne_of_lt R1.hb
 have oYR := Nat.ne_of_gt R1.hb
 have Y2 : Bk3 w2 (w1.heap.size) (.int .i64 0) (.int .i64 0) (.int .i64 0) := by rw [hw2]; exact ⟨by simp <;> omega, by intro j; simp [go_sem], by simp [go_sem], by simp [go_sem], by simp [go_sem]⟩
 have aZ := B1.out.size
 have nZR := Nat.ne_of_lt R1.hb
 have oZR := Nat.ne_of_gt R1.hb
 have Z2 : Bk2 w2 (w1.heap.size + 1) (.int .i64 line) (.int .i64 why) := by rw [hw2]; exact ⟨by simp <;> omega, by intro j; simp [go_sem], by simp [go_sem], by simp [go_sem]⟩
 clear R1 d2 hw2 B1
 have tx := R2; obtain ⟨cR_b, cR_f, cR_0, cR_1, cR_2⟩ := tx
 have tx := Y2; obtain ⟨cY_b, cY_f, cY_0, cY_1, cY_2⟩ := tx
 have tx := Z2; obtain ⟨cZ_b, cZ_f, cZ_0, cZ_1⟩ := tx
 go_region_with (fail)
 all_goals
  go_wp2_with fail
  refine bodyPost_ret (v := .tuple #[.agg #[.int .i64 0, .int .i64 0, .int .i64 0], .int .i64 why]) (by simp [results, Tryz.results109, go_sem, *]) rfl ⟨rfl, ?_⟩
  have hz := B2.out.size
  repeat (first | exact B2.out | refine below_drewN ?_ _ | refine Below.drew ?_ | refine Below.setCell ?_ (by first | omega | (simp; done) | (simp; omega)) _ | refine Below.alloc ?_ (by first | omega | (simp; done) | (simp; omega)) _)
namespace Ds
def inD (n : Int) : Bool := decide (1 ≤ n) && decide (n ≤ 31)
def day (l : List UInt8) : Int × Int := if (Num.rd l).2 = 0 then (if inD (Num.rd l).1 then ((Num.rd l).1, 0) else (0, 1)) else (0, (Num.rd l).2)
def wd (l : List UInt8) : Int × Int := Wd.mat l Wd.days
def bl (l : List UInt8) : Bool := decide (4 ≤ l.length) && Wd.same (l.take 4) [108, 97, 115, 116]
def sw (k : Int) (a n : List UInt8) : Int × Int × Int × Int := if (wd a).2 = 0 then (if (day n).2 = 0 then (k, (wd a).1, (day n).1, 0) else (0, 0, 0, (day n).2)) else (0, 0, 0, (wd a).2)
def ws (a g : List UInt8) : Int × Int × Int × Int := if Lib.hasPrefix g [62, 61] then sw 2 a (Lib.trimPrefix g [62, 61]) else if Lib.hasPrefix g [60, 61] then sw 3 a (Lib.trimPrefix g [60, 61]) else (0, 0, 0, 4)
def rd (l : List UInt8) : Int × Int × Int × Int :=
 if 0 ≤ Lib.indexAny l [60, 62] then ws (l.take (Lib.indexAny l [60, 62]).toNat) (l.drop (Lib.indexAny l [60, 62]).toNat)
 else if Yr.isN l then (if (day l).2 = 0 then (0, 0, (day l).1, 0) else (0, 0, 0, (day l).2))
 else if bl l then (if (wd (l.drop 4)).2 = 0 then (1, (wd (l.drop 4)).1, 0, 0) else (0, 0, 0, (wd (l.drop 4)).2)) else (0, 0, 0, 4)
end Ds
theorem dday_yes (s : ByteArray) (v : Int) (w : World) (hs : s.size ≤ 1000) (tp : TypeId) (p : Value) (hv : w.var? Tryz.prog "strconv.ErrRange" = some #[.iface tp p]) (h : Ds.day s.data.toList = (v, 0)) :
  Calls Tryz.prog 139 #[.string s] w fun e w' => e = .returned (.int .i64 v) ∧ Below w.heap.size w w' := by
 have C := read_any s w hs tp p hv
 unfold Ds.day at h
 generalize (Num.rd s.data.toList).1 = x at C h
 generalize (Num.rd s.data.toList).2 = q at C h
 have hq : q = 0 := by
  by_cases hq : q = 0
  ·
   exact hq
  ·
   rw [if_neg hq] at h; exact congrArg Prod.snd h
 subst hq
 rw [if_pos rfl] at h
 have hin : Ds.inD x = true := by
  cases hi : Ds.inD x
  ·
   rw [hi] at h; exact absurd (congrArg Prod.snd h) (by simp)
  ·
   rfl
 rw [hin] at h
 obtain rfl : x = v := congrArg Prod.fst h
 unfold Ds.inD at hin
 rw [Bool.and_eq_true, decide_eq_true_eq, decide_eq_true_eq] at hin
 obtain ⟨h1, h2⟩ := hin
 clear h
 go_enter Tryz.func139, Tryz.ntmps139
 go_wp2_with fail
 refine (C).mono ?_; rintro e w1 ⟨rfl, b1⟩
 have d1 : Below w.heap.size w w1 := below_step gr0 b1
 have B1 := Lib.hid d1
 clear b1 d1
 go_wp2_with fail
 refine (must_yes x _).mono ?_; rintro e v1 ⟨rfl, rfl⟩
 go_wp2_with fail
 refine (need_yes 1 _).mono ?_; rintro e v2 ⟨rfl, rfl⟩
 go_wp2_with fail
 go_ret
 exact ⟨rfl, by first | exact B1.out | (repeat (first | exact B1.out | refine below_drewN ?_ _ | refine Below.drew ?_))⟩
theorem dday_no (s : ByteArray) (q : Int) (w : World) (hs : s.size ≤ 1000) (tp : TypeId) (p : Value) (hv : w.var? Tryz.prog "strconv.ErrRange" = some #[.iface tp p]) (h : (Ds.day s.data.toList).2 = q) (hq : q ≠ 0) :
  Calls Tryz.prog 139 #[.string s] w fun e w' => e = .panicked (gvP q) ∧ Below w.heap.size w w' := by
 have C := read_any s w hs tp p hv
 unfold Ds.day at h
 generalize (Num.rd s.data.toList).1 = x at C h
 generalize (Num.rd s.data.toList).2 = q2 at C h
 by_cases hz : q2 = 0
 ·
  subst hz
  rw [if_pos rfl] at h
  have hin : Ds.inD x = false := by
   cases hi : Ds.inD x
   ·
    rfl
   ·
    rw [hi] at h; exact absurd h.symm hq
  rw [hin] at h
  obtain rfl : 1 = q := h
  have hc : ¬ 1 ≤ x ∨ (1 ≤ x ∧ ¬ x ≤ 31) := by
   unfold Ds.inD at hin
   by_cases a : 1 ≤ x
   ·
    right; refine ⟨a, fun b => ?_⟩
    rw [decide_eq_true a, decide_eq_true b] at hin; exact absurd hin (by decide)
   ·
    exact .inl a
  clear hin hq
  rcases hc with c | ⟨c, c2⟩
  ·
   have g : decide (1 ≤ x) = false := decide_eq_false c
   clear c
   go_enter Tryz.func139, Tryz.ntmps139
   go_wp2_with fail
   refine (C).mono ?_; rintro e w1 ⟨rfl, b1⟩
   have d1 : Below w.heap.size w w1 := below_step gr0 b1
   have B1 := Lib.hid d1
   clear b1 d1
   go_wp2_with fail
   refine (must_yes x _).mono ?_; rintro e v1 ⟨rfl, rfl⟩
   go_wp2_with fail
   refine (need_no 1 _).mono ?_; rintro e w5 ⟨rfl, rfl⟩
   refine (show bodyPost _ _ _ (Exit.panic (gvP 1)) _ _ from ?_)
   exact ⟨rfl, rfl, B1.out⟩
  ·
   have g : decide (x ≤ 31) = false := decide_eq_false c2
   clear c2
   go_enter Tryz.func139, Tryz.ntmps139
   go_wp2_with fail
   refine (C).mono ?_; rintro e w1 ⟨rfl, b1⟩
   have d1 : Below w.heap.size w w1 := below_step gr0 b1
   have B1 := Lib.hid d1
   clear b1 d1
   go_wp2_with fail
   refine (must_yes x _).mono ?_; rintro e v1 ⟨rfl, rfl⟩
   go_wp2_with fail
   refine (need_no 1 _).mono ?_; rintro e w5 ⟨rfl, rfl⟩
   refine (show bodyPost _ _ _ (Exit.panic (gvP 1)) _ _ from ?_)
   exact ⟨rfl, rfl, B1.out⟩
 ·
  rw [if_neg hz] at h
  obtain rfl : q2 = q := h
  go_enter Tryz.func139, Tryz.ntmps139
  go_wp2_with fail
  refine (C).mono ?_; rintro e w1 ⟨rfl, b1⟩
  have d1 : Below w.heap.size w w1 := below_step gr0 b1
  have B1 := Lib.hid d1
  clear b1 d1
  go_wp2_with fail
  refine (must_no x q2 _ hq).mono ?_; rintro e w5 ⟨rfl, rfl⟩
  refine (show bodyPost _ _ _ (Exit.panic (gvP q2)) _ _ from ?_)
  exact ⟨rfl, rfl, B1.out⟩
theorem dweek_yes (s : ByteArray) (k : Int) (w : World) (hs : s.size ≤ maxLen) (T : Wd.DTabs w) (h : Ds.wd s.data.toList = (k, 0)) :
  Calls Tryz.prog 141 #[.string s] w fun e w' => e = .returned (.int .i64 k) ∧ Below w.heap.size w w' := by
 have C := wday_any s w hs T
 have h2 : Wd.mat s.data.toList Wd.days = (k, 0) := h
 rw [h2] at C
 clear T h h2
 go_enter Tryz.func141, Tryz.ntmps141
 go_wp2_with fail
 refine (C).mono ?_; rintro e w1 ⟨rfl, b1⟩
 have d1 : Below w.heap.size w w1 := below_step gr0 b1
 have B1 := Lib.hid d1
 clear b1 d1
 go_wp2_with fail
 refine (muti_yes k _).mono ?_; rintro e v1 ⟨rfl, rfl⟩
 go_wp2_with fail
 go_ret
 exact ⟨rfl, (grB B1)⟩
theorem dweek_no (s : ByteArray) (q : Int) (w : World) (hs : s.size ≤ maxLen) (T : Wd.DTabs w) (h : (Ds.wd s.data.toList).2 = q) (hq : q ≠ 0) :
  Calls Tryz.prog 141 #[.string s] w fun e w' => e = .panicked (gvP q) ∧ Below w.heap.size w w' := by
 have C := wday_any s w hs T
 have h2 : (Wd.mat s.data.toList Wd.days).2 = q := h
 rw [h2] at C
 generalize (Wd.mat s.data.toList Wd.days).1 = k at C
 clear T h h2
 go_enter Tryz.func141, Tryz.ntmps141
 go_wp2_with fail
 refine (C).mono ?_; rintro e w1 ⟨rfl, b1⟩
 have d1 : Below w.heap.size w w1 := below_step gr0 b1
 have B1 := Lib.hid d1
 clear b1 d1
 go_wp2_with fail
 refine (muti_no k q _ hq).mono ?_; rintro e w5 ⟨rfl, rfl⟩
 refine (show bodyPost _ _ _ (Exit.panic (gvP q)) _ _ from ?_)
 exact ⟨rfl, rfl, B1.out⟩
set_option maxRecDepth 100000 in
theorem dbl_any (s : ByteArray) (w : World) (hs : s.size ≤ maxLen) :
  Calls Tryz.prog 140 #[.string s] w fun e w' => e = .returned (.bool (Ds.bl s.data.toList)) ∧ Below w.heap.size w w' := by
 have hl := ab_len s
 unfold Ds.bl
 rw [hl]
 by_cases h : 4 ≤ s.size
 ·
  have h2 : (s.extract 0 4).data.toList = s.data.toList.take 4 := by
   rw [ByteArray.data_extract, Array.toList_extract]
   simp
  have sl : ∀ W, Sem.run Tryz.prog (Instr.slice 9 (.string s) none (some (.int .i64 4)) none) W = .ok (.string (s.extract 0 4)) W := fun W => by
   rw [run_slice_string_h W 9 s Tryz.underlying9 .i64 _ (by omega) (by omega)]; rfl
  have C := Lib.hid (fun W => wsame_any (s.extract 0 4) ⟨#[108, 97, 115, 116]⟩ W (by rw [ByteArray.size_extract]; unfold maxLen; omega) (by decide))
  rw [decide_eq_true h, ← h2]
  have h4 : (4 : Int) ≤ (s.size : Int) := by omega
  have e : ([108, 97, 115, 116] : List UInt8) = (⟨#[108, 97, 115, 116]⟩ : ByteArray).data.toList := rfl
  rw [e]
  generalize hg : Wd.same (s.extract 0 4).data.toList (⟨#[108, 97, 115, 116]⟩ : ByteArray).data.toList = g at *
  generalize s.extract 0 4 = X at *
  clear h2 h hg e
  go_enter Tryz.func140, Tryz.ntmps140
  go_wp2_with fail
  refine (C.out _).mono ?_; rintro e v1 ⟨rfl, j1, rfl⟩
  go_wp2_with fail
  go_ret
  exact ⟨rfl, gr0⟩
 ·
  rw [decide_eq_false h]
  have h4 : decide ((4 : Int) ≤ (s.size : Int)) = false := decide_eq_false (by omega)
  clear h
  go_enter Tryz.func140, Tryz.ntmps140
  go_wp2_with fail
  go_ret
  exact ⟨rfl, Below.refl _ _⟩
end Go.Proofs.YtjggjkeopbcmoaaGreatDoor
