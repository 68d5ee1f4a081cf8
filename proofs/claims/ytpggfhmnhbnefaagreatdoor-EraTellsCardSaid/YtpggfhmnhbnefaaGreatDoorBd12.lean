/- Joined: RuC0, YrB, YrC, WdC, GvE, ClBD. -/
import Derived.Test.YtpggfhmnhbnefaaGreatDoorBd06
import Derived.Test.YtpggfhmnhbnefaaGreatDoorBd11
import Derived.Test.YtpggfhmnhbnefaaGreatDoorBd02
import Derived.Test.YtpggfhmnhbnefaaGreatDoorBd09
import Derived.Test.YtpggfhmnhbnefaaGreatDoorBd01
import Derived.Test.YtpggfhmnhbnefaaGreatDoorBd07
set_option linter.unusedVariables false
set_option linter.unusedSimpArgs false
namespace Go.Proofs.YtpggfhmnhbnefaaGreatDoor
open Go.RowKit Go.Sort
namespace Ru
def svF (n q : Int) : Int × Int := if q = 0 ∧ (n < -10800 ∨ 10800 < n) then (0, 1) else (n, q)
def sv (s : ByteArray) : Int × Int := svF (Am.rd s).1 (Am.rd s).2
def dyF (k wk d q m : Int) : Int × Int × Int × Int := if q = 0 ∧ Dr.onF k wk d m = false then (0, 0, 0, 1) else (k, wk, d, q)
def dy (l : List UInt8) (m : Int) : Int × Int × Int × Int := dyF (Ds.rd l).1 (Ds.rd l).2.1 (Ds.rd l).2.2.1 (Ds.rd l).2.2.2 m
end Ru
namespace Yr
end Yr
namespace Yr
def tI (n : Int) : ByteArray := ⟨(Lib.itoa n).toArray⟩
def ft (y : Int) : ByteArray × Int := if inY y then (if y = -32767 then (⟨#[109, 105, 110]⟩, 0) else (tI y, 0)) else (⟨#[]⟩, 1)
end Yr
namespace Wd
def months : List ByteArray := [⟨#[74, 97, 110, 117, 97, 114, 121]⟩, ⟨#[70, 101, 98, 114, 117, 97, 114, 121]⟩, ⟨#[77, 97, 114, 99, 104]⟩, ⟨#[65, 112, 114, 105, 108]⟩, ⟨#[77, 97, 121]⟩, ⟨#[74, 117, 110, 101]⟩, ⟨#[74, 117, 108, 121]⟩, ⟨#[65, 117, 103, 117, 115, 116]⟩, ⟨#[83, 101, 112, 116, 101, 109, 98, 101, 114]⟩, ⟨#[79, 99, 116, 111, 98, 101, 114]⟩, ⟨#[78, 111, 118, 101, 109, 98, 101, 114]⟩, ⟨#[68, 101, 99, 101, 109, 98, 101, 114]⟩]
structure Tabs (w : World) : Prop where
 m0 : w.cell? ⟨0, 0, none⟩ = some (.string ⟨#[74, 97, 110, 117, 97, 114, 121]⟩)
 m1 : w.cell? ⟨0, 1, none⟩ = some (.string ⟨#[70, 101, 98, 114, 117, 97, 114, 121]⟩)
 m2 : w.cell? ⟨0, 2, none⟩ = some (.string ⟨#[77, 97, 114, 99, 104]⟩)
 m3 : w.cell? ⟨0, 3, none⟩ = some (.string ⟨#[65, 112, 114, 105, 108]⟩)
 m4 : w.cell? ⟨0, 4, none⟩ = some (.string ⟨#[77, 97, 121]⟩)
 m5 : w.cell? ⟨0, 5, none⟩ = some (.string ⟨#[74, 117, 110, 101]⟩)
 m6 : w.cell? ⟨0, 6, none⟩ = some (.string ⟨#[74, 117, 108, 121]⟩)
 m7 : w.cell? ⟨0, 7, none⟩ = some (.string ⟨#[65, 117, 103, 117, 115, 116]⟩)
 m8 : w.cell? ⟨0, 8, none⟩ = some (.string ⟨#[83, 101, 112, 116, 101, 109, 98, 101, 114]⟩)
 m9 : w.cell? ⟨0, 9, none⟩ = some (.string ⟨#[79, 99, 116, 111, 98, 101, 114]⟩)
 m10 : w.cell? ⟨0, 10, none⟩ = some (.string ⟨#[78, 111, 118, 101, 109, 98, 101, 114]⟩)
 m11 : w.cell? ⟨0, 11, none⟩ = some (.string ⟨#[68, 101, 99, 101, 109, 98, 101, 114]⟩)
 d0 : w.cell? ⟨2, 0, none⟩ = some (.string ⟨#[83, 117, 110, 100, 97, 121]⟩)
 d1 : w.cell? ⟨2, 1, none⟩ = some (.string ⟨#[77, 111, 110, 100, 97, 121]⟩)
 d2 : w.cell? ⟨2, 2, none⟩ = some (.string ⟨#[84, 117, 101, 115, 100, 97, 121]⟩)
 d3 : w.cell? ⟨2, 3, none⟩ = some (.string ⟨#[87, 101, 100, 110, 101, 115, 100, 97, 121]⟩)
 d4 : w.cell? ⟨2, 4, none⟩ = some (.string ⟨#[84, 104, 117, 114, 115, 100, 97, 121]⟩)
 d5 : w.cell? ⟨2, 5, none⟩ = some (.string ⟨#[70, 114, 105, 100, 97, 121]⟩)
 d6 : w.cell? ⟨2, 6, none⟩ = some (.string ⟨#[83, 97, 116, 117, 114, 100, 97, 121]⟩)
theorem Tabs.on {w w' : World} (h : Tabs w) (k : Below w.heap.size w w') : Tabs w' := ⟨(k.cell (World.block_lt_of_cell? _ _ h.m0)).trans h.m0, (k.cell (World.block_lt_of_cell? _ _ h.m1)).trans h.m1, (k.cell (World.block_lt_of_cell? _ _ h.m2)).trans h.m2, (k.cell (World.block_lt_of_cell? _ _ h.m3)).trans h.m3, (k.cell (World.block_lt_of_cell? _ _ h.m4)).trans h.m4, (k.cell (World.block_lt_of_cell? _ _ h.m5)).trans h.m5, (k.cell (World.block_lt_of_cell? _ _ h.m6)).trans h.m6, (k.cell (World.block_lt_of_cell? _ _ h.m7)).trans h.m7, (k.cell (World.block_lt_of_cell? _ _ h.m8)).trans h.m8, (k.cell (World.block_lt_of_cell? _ _ h.m9)).trans h.m9, (k.cell (World.block_lt_of_cell? _ _ h.m10)).trans h.m10, (k.cell (World.block_lt_of_cell? _ _ h.m11)).trans h.m11, (k.cell (World.block_lt_of_cell? _ _ h.d0)).trans h.d0, (k.cell (World.block_lt_of_cell? _ _ h.d1)).trans h.d1, (k.cell (World.block_lt_of_cell? _ _ h.d2)).trans h.d2, (k.cell (World.block_lt_of_cell? _ _ h.d3)).trans h.d3, (k.cell (World.block_lt_of_cell? _ _ h.d4)).trans h.d4, (k.cell (World.block_lt_of_cell? _ _ h.d5)).trans h.d5, (k.cell (World.block_lt_of_cell? _ _ h.d6)).trans h.d6⟩
end Wd
set_option maxHeartbeats 2000000 in
set_option maxRecDepth 100000 in
theorem month_any (s : ByteArray) (w : World) (hs : s.size ≤ maxLen) (T : Wd.Tabs w) :
  Calls Tryz.prog 82 #[.string s] w fun e w' => e = .returned (.tuple #[.int .i64 (Wd.up (Wd.mat s.data.toList Wd.months)), .int .i64 (Wd.mat s.data.toList Wd.months).2]) ∧ Below w.heap.size w w' := by
 have t_m0 := T.m0
 have t_m1 := T.m1
 have t_m2 := T.m2
 have t_m3 := T.m3
 have t_m4 := T.m4
 have t_m5 := T.m5
 have t_m6 := T.m6
 have t_m7 := T.m7
 have t_m8 := T.m8
 have t_m9 := T.m9
 have t_m10 := T.m10
 have t_m11 := T.m11
 have SZ : ∀ x ∈ Wd.months, x.size ≤ maxLen := by unfold Wd.months maxLen; intro x hx; simp at hx; rcases hx with rfl | rfl | rfl | rfl | rfl | rfl | rfl | rfl | rfl | rfl | rfl | rfl <;> decide
 have ST : StS (w.alloc (.cells #[.string ⟨#[74, 97, 110, 117, 97, 114, 121]⟩, .string ⟨#[70, 101, 98, 114, 117, 97, 114, 121]⟩, .string ⟨#[77, 97, 114, 99, 104]⟩, .string ⟨#[65, 112, 114, 105, 108]⟩, .string ⟨#[77, 97, 121]⟩, .string ⟨#[74, 117, 110, 101]⟩, .string ⟨#[74, 117, 108, 121]⟩, .string ⟨#[65, 117, 103, 117, 115, 116]⟩, .string ⟨#[83, 101, 112, 116, 101, 109, 98, 101, 114]⟩, .string ⟨#[79, 99, 116, 111, 98, 101, 114]⟩, .string ⟨#[78, 111, 118, 101, 109, 98, 101, 114]⟩, .string ⟨#[68, 101, 99, 101, 109, 98, 101, 114]⟩] 106)) (.slice (some ⟨w.heap.size, 0, none⟩) 12 12) Wd.months :=
  ⟨_, _, rfl, fun _ => ⟨_, rfl, by simp, by
   intro j u hj
   have hl : j < 12 := by
    have := (List.getElem?_eq_some_iff.1 hj).1
    simpa [Wd.months] using this
   obtain rfl | rfl | rfl | rfl | rfl | rfl | rfl | rfl | rfl | rfl | rfl | rfl : j = 0 ∨ j = 1 ∨ j = 2 ∨ j = 3 ∨ j = 4 ∨ j = 5 ∨ j = 6 ∨ j = 7 ∨ j = 8 ∨ j = 9 ∨ j = 10 ∨ j = 11 := by omega
   all_goals (simp [Wd.months] at hj; subst hj; simp [Addr.add, go_sem])⟩⟩
 have HS := Lib.hid ST; clear ST
 have HM := Lib.hid (fun W (h : StS W (.slice (some ⟨w.heap.size, 0, none⟩) 12 12) Wd.months) => match_any s _ Wd.months W h hs SZ (by unfold maxLen; decide))
 have bd := Wd.mat_bd s.data.toList Wd.months
 have ln : Wd.months.length = 12 := rfl
 rw [ln] at bd
 clear SZ T ln
 generalize Wd.mat s.data.toList Wd.months = ans at HM bd ⊢
 obtain ⟨p, q⟩ := ans
 dsimp only at HM bd ⊢
 obtain ⟨p0, p1, hq⟩ := bd
 unfold Wd.up
 rcases hq with rfl | ⟨rfl, rfl⟩
 ·
  go_enter Tryz.func82, Tryz.ntmps82
  go_wp2_with fail
  refine (HM.out _ HS.out).mono ?_; rintro e w1 ⟨rfl, j, rfl⟩
  go_wp2_with fail
  go_ret2
  exact ⟨rfl, below_drewN ((Below.refl _ _).alloc (Nat.le_refl _) _) _⟩
 ·
  go_enter Tryz.func82, Tryz.ntmps82
  go_wp2_with fail
  refine (HM.out _ HS.out).mono ?_; rintro e w1 ⟨rfl, j, rfl⟩
  go_wp2_with fail
  go_ret2
  exact ⟨rfl, below_drewN ((Below.refl _ _).alloc (Nat.le_refl _) _) _⟩
set_option maxHeartbeats 4000000 in
set_option maxRecDepth 100000 in
theorem mtext_any (n : Int) (w : World) (T : Wd.Tabs w) :
  Calls Tryz.prog 41 #[.int .i64 n] w fun e w' => e = .returned (.string (Wd.t3 Wd.months (n - 1))) ∧ Below w.heap.size w w' := by
 by_cases h : 1 ≤ n ∧ n ≤ 12
 ·
  obtain rfl | rfl | rfl | rfl | rfl | rfl | rfl | rfl | rfl | rfl | rfl | rfl : n = 1 ∨ n = 2 ∨ n = 3 ∨ n = 4 ∨ n = 5 ∨ n = 6 ∨ n = 7 ∨ n = 8 ∨ n = 9 ∨ n = 10 ∨ n = 11 ∨ n = 12 := by omega
  ·
   have t := T.m0
   clear T
   go_enter Tryz.func41, Tryz.ntmps41
   go_wp2
   go_ret
   exact ⟨rfl, Below.refl _ _⟩
  ·
   have t := T.m1
   clear T
   go_enter Tryz.func41, Tryz.ntmps41
   go_wp2
   go_ret
   exact ⟨rfl, Below.refl _ _⟩
  ·
   have t := T.m2
   clear T
   go_enter Tryz.func41, Tryz.ntmps41
   go_wp2
   go_ret
   exact ⟨rfl, Below.refl _ _⟩
  ·
   have t := T.m3
   clear T
   go_enter Tryz.func41, Tryz.ntmps41
   go_wp2
   go_ret
   exact ⟨rfl, Below.refl _ _⟩
  ·
   have t := T.m4
   clear T
   go_enter Tryz.func41, Tryz.ntmps41
   go_wp2
   go_ret
   exact ⟨rfl, Below.refl _ _⟩
  ·
   have t := T.m5
   clear T
   go_enter Tryz.func41, Tryz.ntmps41
   go_wp2
   go_ret
   exact ⟨rfl, Below.refl _ _⟩
  ·
   have t := T.m6
   clear T
   go_enter Tryz.func41, Tryz.ntmps41
   go_wp2
   go_ret
   exact ⟨rfl, Below.refl _ _⟩
  ·
   have t := T.m7
   clear T
   go_enter Tryz.func41, Tryz.ntmps41
   go_wp2
   go_ret
   exact ⟨rfl, Below.refl _ _⟩
  ·
   have t := T.m8
   clear T
   go_enter Tryz.func41, Tryz.ntmps41
   go_wp2
   go_ret
   exact ⟨rfl, Below.refl _ _⟩
  ·
   have t := T.m9
   clear T
   go_enter Tryz.func41, Tryz.ntmps41
   go_wp2
   go_ret
   exact ⟨rfl, Below.refl _ _⟩
  ·
   have t := T.m10
   clear T
   go_enter Tryz.func41, Tryz.ntmps41
   go_wp2
   go_ret
   exact ⟨rfl, Below.refl _ _⟩
  ·
   have t := T.m11
   clear T
   go_enter Tryz.func41, Tryz.ntmps41
   go_wp2
   go_ret
   exact ⟨rfl, Below.refl _ _⟩
 ·
  rw [show Wd.t3 Wd.months (n - 1) = ByteArray.empty by unfold Wd.t3; rw [if_neg]; rw [show (Wd.months.length : Int) = 12 from rfl]; omega]
  clear T
  by_cases c1 : n < 1
  ·
   go_enter Tryz.func41, Tryz.ntmps41
   go_wp2
   go_ret
   exact ⟨rfl, Below.refl _ _⟩
  ·
   have c2 : 12 < n := by omega
   go_enter Tryz.func41, Tryz.ntmps41
   go_wp2
   go_ret
   exact ⟨rfl, Below.refl _ _⟩
set_option maxRecDepth 100000 in
theorem acatch (b : Nat) (x y line why : Int) (older : List PanicEntry) (w : World) (hb : b < w.heap.size) (hc : w.cell? ⟨b, 0, none⟩ = some (.int .i64 x)) (hd : w.cell? ⟨b, 1, none⟩ = some (.int .i64 y)) (hz : ∀ j, w.frozen? ⟨b, j, none⟩ = false) :
  CallsD Tryz.prog 201 #[.pointer (some ⟨b, 0, none⟩)] (.panicking ({ v := gvV line why, recovered := false } :: older)) w fun e u' w' =>
   e = .returned (.tuple #[]) ∧ u' = .panicking ({ v := gvV line why, recovered := true } :: older) ∧ w' = ((w.setCell ⟨b, 0, none⟩ (.int .i64 line)).setCell ⟨b, 1, none⟩ (.int .i64 why)).alloc (.cells #[.int .i64 line, .int .i64 why] 128) := by
 unfold gvV
 have hta := fun W => gv_assert line why W
 refine callsD_of_wpS Tryz.func201 rfl fun c₀ cs hu => ?_
 apply wpS_seq
 apply wpS_region
 simp [wpOpsS, go_sem, recoverD, hu, Tryz.ntmps201, Exit.thenS]
 refine wpS_of_wp ?_
 rw [show (#[Value.pointer (some ⟨b, 0, none⟩)] ++ (Array.replicate 11 undef).setIfInBounds 3 (Value.iface 128 (Value.agg #[Value.int IntKind.i64 line, Value.int IntKind.i64 why])) : Array Value) = #[.pointer (some ⟨b, 0, none⟩), undef, undef, undef, .iface 128 (.agg #[.int .i64 line, .int .i64 why]), undef, undef, undef, undef, undef, undef, undef] from rfl]
 have n1 : b ≠ w.heap.size := Nat.ne_of_lt hb
 have n2 : w.heap.size ≠ b := Nat.ne_of_gt hb
 go_wp2_with fail
 all_goals (cases c₀; simp_all [bodyPostS, results, Tryz.results201])
theorem aidle (p : Addr) (w : World) :
  CallsD Tryz.prog 201 #[.pointer (some p)] .returning w fun e u' w' => e = .returned (.tuple #[]) ∧ u' = .returning ∧ w' = w := by
 refine callsD_of_wpS Tryz.func201 rfl fun c₀ cs hu => ?_
 apply wpS_seq
 apply wpS_region
 simp [wpOpsS, go_sem, recoverD, hu, Tryz.ntmps201, Exit.thenS]
 refine wpS_of_wp ?_
 rw [show (#[Value.pointer (some p)] ++ (Array.replicate 11 undef).setIfInBounds 3 Value.nilIface : Array Value) = #[.pointer (some p), undef, undef, undef, .nilIface, undef, undef, undef, undef, undef, undef, undef] from rfl]
 go_wp2_with fail
 all_goals (cases c₀; simp_all [bodyPostS, results, Tryz.results201])
set_option maxHeartbeats 1000000 in
set_option maxRecDepth 100000 in
theorem acaughtat_yes (g : FuncId) (qs : Array Value) (hg : ∀ W, Sem.run Tryz.prog (callFunc g qs) W = .ok (.enter g qs) W) (x : Int) (y : Int) (w : World)
  (CG : Hid (∀ W, Below w.heap.size w W → Calls Tryz.prog g qs W fun e w' => e = .returned (.agg #[.int .i64 x, .int .i64 y]) ∧ Below W.heap.size W w')) :
  Calls Tryz.prog 176 #[.func (Fn.func g) #[] qs] w fun e w' => e = .returned (.tuple #[.agg #[.int .i64 x, .int .i64 y], .agg #[.int .i64 0, .int .i64 0]]) ∧ Below w.heap.size w w' := by
 have hmf : ∀ (fn : Fn) (first cap : Array Value) (w : World), (Instr.makeFunc fn first cap).run Tryz.prog w = .ok (.func fn first cap) w := fun _ _ _ _ => rfl
 go_enter_defers Tryz.func176, Tryz.ntmps176
 go_wp2_with fail
 have b0 : Below w.heap.size w ((w.alloc (.cells #[.int .i64 0, .int .i64 0] 26)).alloc (.cells #[.int .i64 0, .int .i64 0] 92)) := ((Below.refl _ _).alloc (Nat.le_refl _) _).alloc (by simp) _
 refine (CG.out _ b0).mono ?_; rintro e w1 ⟨rfl, b1⟩
 have B1 := Lib.hid (below_step b0 b1)
 have P1 : Bk2 w1 w.heap.size (.int .i64 0) (.int .i64 0) := by refine Bk2.of b1 (by simp <;> omega) (by intro j; simp [go_sem]) ?_ ?_ <;> simp [go_sem]
 have Q1 : Bk2 w1 (w.heap.size + 1) (.int .i64 0) (.int .i64 0) := by refine Bk2.of b1 (by simp <;> omega) (by intro j; simp [go_sem]) ?_ ?_ <;> simp [go_sem]
 have hz := Lib.hid B1.out.size
 clear b1 b0
 have c_b := Q1.hb; have c_f := Q1.fz; have c_0 := Q1.k0; have c_1 := Q1.k1
 have p_b := P1.hb; have p_f := P1.fz; have p_0 := P1.k0; have p_1 := P1.k1
 clear Q1 P1
 go_wp2_with fail
 refine leaves_cons (f := 201) (args := #[.pointer (some ⟨w.heap.size + 1, 0, none⟩)]) (by simp) (by simp [go_sem]) ?_
 refine (aidle ⟨w.heap.size + 1, 0, none⟩ _).mono ?_
 rintro e u' w'' ⟨rfl, rfl, rfl⟩
 simp [Leaves, settle, results, Tryz.results176, go_sem, c_b, c_0, c_1, c_f, p_b, p_0, p_1, p_f]
 clear c_b c_f c_0 c_1 p_b p_f p_0 p_1
 repeat (refine Below.setCell ?_ (by first | omega | (simp; done) | (simp; omega)) _)
 exact B1.out
set_option maxHeartbeats 1000000 in
set_option maxRecDepth 100000 in
theorem acaughtat_no (g : FuncId) (qs : Array Value) (hg : ∀ W, Sem.run Tryz.prog (callFunc g qs) W = .ok (.enter g qs) W) (line why : Int) (w : World)
  (CG : Hid (∀ W, Below w.heap.size w W → Calls Tryz.prog g qs W fun e w' => e = .panicked (gvL line why) ∧ Below W.heap.size W w')) :
  Calls Tryz.prog 176 #[.func (Fn.func g) #[] qs] w fun e w' => e = .returned (.tuple #[.agg #[.int .i64 0, .int .i64 0], .agg #[.int .i64 line, .int .i64 why]]) ∧ Below w.heap.size w w' := by
 have hmf : ∀ (fn : Fn) (first cap : Array Value) (w : World), (Instr.makeFunc fn first cap).run Tryz.prog w = .ok (.func fn first cap) w := fun _ _ _ _ => rfl
 go_enter_defers Tryz.func176, Tryz.ntmps176
 go_wp2_with fail
 have b0 : Below w.heap.size w ((w.alloc (.cells #[.int .i64 0, .int .i64 0] 26)).alloc (.cells #[.int .i64 0, .int .i64 0] 92)) := ((Below.refl _ _).alloc (Nat.le_refl _) _).alloc (by simp) _
 refine (CG.out _ b0).mono ?_; rintro e w1 ⟨rfl, b1⟩
 have B1 := Lib.hid (below_step b0 b1)
 have P1 : Bk2 w1 w.heap.size (.int .i64 0) (.int .i64 0) := by refine Bk2.of b1 (by simp <;> omega) (by intro j; simp [go_sem]) ?_ ?_ <;> simp [go_sem]
 have Q1 : Bk2 w1 (w.heap.size + 1) (.int .i64 0) (.int .i64 0) := by refine Bk2.of b1 (by simp <;> omega) (by intro j; simp [go_sem]) ?_ ?_ <;> simp [go_sem]
 have hz := Lib.hid B1.out.size
 clear b1 b0
 have c_b := Q1.hb; have c_f := Q1.fz; have c_0 := Q1.k0; have c_1 := Q1.k1
 have p_b := P1.hb; have p_f := P1.fz; have p_0 := P1.k0; have p_1 := P1.k1
 clear Q1 P1
 refine (show bodyPostD _ _ _ (Exit.panic (gvL line why)) _ _ from ?_)
 refine leaves_cons (f := 201) (args := #[.pointer (some ⟨w.heap.size + 1, 0, none⟩)]) (by simp) (by simp [go_sem]) ?_
 refine (acatch (w.heap.size + 1) 0 0 line why [] _ c_b c_0 c_1 c_f).mono ?_
 rintro e u' w'' ⟨rfl, rfl, rfl⟩
 simp [Leaves, settle, results, Tryz.results176, go_sem, c_b, c_0, c_1, c_f, p_b, p_0, p_1, p_f]
 clear c_b c_f c_0 c_1 p_b p_f p_0 p_1
 refine Below.alloc (Below.setCell (Below.setCell B1.out (by first | omega | (simp; done) | (simp; omega)) _) (by first | omega | (simp; done) | (simp; omega)) _) (by simp; exact hz.out) _
set_option maxHeartbeats 1000000 in
set_option maxRecDepth 100000 in
theorem acaught_yes (g : FuncId) (qs : Array Value) (hg : ∀ W, Sem.run Tryz.prog (callFunc g qs) W = .ok (.enter g qs) W) (x : Int) (y : Int) (w : World)
  (CG : Hid (∀ W, Below w.heap.size w W → Calls Tryz.prog g qs W fun e w' => e = .returned (.agg #[.int .i64 x, .int .i64 y]) ∧ Below W.heap.size W w')) :
  Calls Tryz.prog 137 #[.func (Fn.func g) #[] qs] w fun e w' => e = .returned (.tuple #[.agg #[.int .i64 x, .int .i64 y], .int .i64 0]) ∧ Below w.heap.size w w' := by
 go_enter Tryz.func137, Tryz.ntmps137
 go_wp2_with fail
 refine (acaughtat_yes g qs hg x y _ (Lib.hid fun W hW => CG.out W (((Below.refl _ _).alloc (Nat.le_refl _) _).trans (hW.mono (by simp))))).mono ?_; rintro e w1 ⟨rfl, b1⟩
 have d1 : Below w.heap.size w w1 := below_step gr0 b1
 have B1 := Lib.hid d1
 have R1 : Bk2 w1 (w.heap.size) (.int .i64 0) (.int .i64 0) := by refine Bk2.of b1 (by simp <;> omega) (by intro j; simp [go_sem]) ?_ ?_ <;> simp [go_sem]
 clear b1 d1
 have tx := R1; obtain ⟨cR_b, cR_f, cR_0, cR_1⟩ := tx
 go_wp2_with fail
 clear cR_b cR_f cR_0 cR_1
 refine wp_named ?_; intro w2 hw2
 have d2 : Below w1.heap.size w1 w2 := by rw [hw2]; exact gr0
 have B2 := Lib.hid (below_step B1.out d2)
 have R2 := R1.keep d2
 have aY := B1.out.size
 have nYR := Nat.ne_of_lt R1.hb
 have oYR := Nat.ne_of_gt R1.hb
 have Y2 : Bk2 w2 (w1.heap.size) (.int .i64 x) (.int .i64 y) := by rw [hw2]; exact ⟨by simp <;> omega, by intro j; simp [go_sem], by simp [go_sem], by simp [go_sem]⟩
 have aZ := B1.out.size
 have nZR := Nat.ne_of_lt R1.hb
 have oZR := Nat.ne_of_gt R1.hb
 have Z2 : Bk2 w2 (w1.heap.size + 1) (.int .i64 0) (.int .i64 0) := by rw [hw2]; exact ⟨by simp <;> omega, by intro j; simp [go_sem], by simp [go_sem], by simp [go_sem]⟩
 clear R1 d2 hw2 B1
 have tx := R2; obtain ⟨cR_b, cR_f, cR_0, cR_1⟩ := tx
 have tx := Y2; obtain ⟨cY_b, cY_f, cY_0, cY_1⟩ := tx
 have tx := Z2; obtain ⟨cZ_b, cZ_f, cZ_0, cZ_1⟩ := tx
 go_region_with (fail)
 all_goals
  go_wp2_with fail
  refine bodyPost_ret (v := .tuple #[.agg #[.int .i64 x, .int .i64 y], .int .i64 0]) (by simp [results, Tryz.results137, go_sem, *]) rfl ⟨rfl, ?_⟩
  have hz := B2.out.size
  repeat (first | exact B2.out | refine below_drewN ?_ _ | refine Below.drew ?_ | refine Below.setCell ?_ (by first | omega | (simp; done) | (simp; omega)) _ | refine Below.alloc ?_ (by first | omega | (simp; done) | (simp; omega)) _)
set_option maxHeartbeats 1000000 in
set_option maxRecDepth 100000 in
theorem acaught_no (g : FuncId) (qs : Array Value) (hg : ∀ W, Sem.run Tryz.prog (callFunc g qs) W = .ok (.enter g qs) W) (line why : Int) (w : World)
  (CG : Hid (∀ W, Below w.heap.size w W → Calls Tryz.prog g qs W fun e w' => e = .panicked (gvL line why) ∧ Below W.heap.size W w')) :
  Calls Tryz.prog 137 #[.func (Fn.func g) #[] qs] w fun e w' => e = .returned (.tuple #[.agg #[.int .i64 0, .int .i64 0], .int .i64 why]) ∧ Below w.heap.size w w' := by
 go_enter Tryz.func137, Tryz.ntmps137
 go_wp2_with fail
 refine (acaughtat_no g qs hg line why _ (Lib.hid fun W hW => CG.out W (((Below.refl _ _).alloc (Nat.le_refl _) _).trans (hW.mono (by simp))))).mono ?_; rintro e w1 ⟨rfl, b1⟩
 have d1 : Below w.heap.size w w1 := below_step gr0 b1
 have B1 := Lib.hid d1
 have R1 : Bk2 w1 (w.heap.size) (.int .i64 0) (.int .i64 0) := by refine Bk2.of b1 (by simp <;> omega) (by intro j; simp [go_sem]) ?_ ?_ <;> simp [go_sem]
 clear b1 d1
 have tx := R1; obtain ⟨cR_b, cR_f, cR_0, cR_1⟩ := tx
 go_wp2_with fail
 clear cR_b cR_f cR_0 cR_1
 refine wp_named ?_; intro w2 hw2
 have d2 : Below w1.heap.size w1 w2 := by rw [hw2]; exact gr0
 have B2 := Lib.hid (below_step B1.out d2)
 have R2 := R1.keep d2
 have aY := B1.out.size
 have nYR := Nat.ne_of_lt R1.hb
 have oYR := Nat.ne_of_gt R1.hb
 have Y2 : Bk2 w2 (w1.heap.size) (.int .i64 0) (.int .i64 0) := by rw [hw2]; exact ⟨by simp <;> omega, by intro j; simp [go_sem], by simp [go_sem], by simp [go_sem]⟩
 have aZ := B1.out.size
 have nZR := Nat.ne_of_lt R1.hb
 have oZR := Nat.ne_of_gt R1.hb
 have Z2 : Bk2 w2 (w1.heap.size + 1) (.int .i64 line) (.int .i64 why) := by rw [hw2]; exact ⟨by simp <;> omega, by intro j; simp [go_sem], by simp [go_sem], by simp [go_sem]⟩
 clear R1 d2 hw2 B1
 have tx := R2; obtain ⟨cR_b, cR_f, cR_0, cR_1⟩ := tx
 have tx := Y2; obtain ⟨cY_b, cY_f, cY_0, cY_1⟩ := tx
 have tx := Z2; obtain ⟨cZ_b, cZ_f, cZ_0, cZ_1⟩ := tx
 go_region_with (fail)
 all_goals
  go_wp2_with fail
  refine bodyPost_ret (v := .tuple #[.agg #[.int .i64 0, .int .i64 0], .int .i64 why]) (by simp [results, Tryz.results137, go_sem, *]) rfl ⟨rfl, ?_⟩
  have hz := B2.out.size
  repeat (first | exact B2.out | refine below_drewN ?_ _ | refine Below.drew ?_ | refine Below.setCell ?_ (by first | omega | (simp; done) | (simp; omega)) _ | refine Below.alloc ?_ (by first | omega | (simp; done) | (simp; omega)) _)
end Go.Proofs.YtpggfhmnhbnefaaGreatDoor
set_option linter.unusedVariables false
set_option linter.unusedSimpArgs false
namespace Go.Proofs.YtpggfhmnhbnefaaGreatDoor
section
open Go.RowKit Go.Sort
theorem ltr (k : Nat) (h : k < 3) : ∃ x : ByteArray, (#[ByteArray.mk #[119, 87], ByteArray.mk #[115, 83], ByteArray.mk #[117, 85, 103, 71, 122, 90]] : Array ByteArray)[k]? = some x := ⟨_, Array.getElem?_eq_getElem (by simpa using h)⟩
theorem ltr0 (W : World) : Sem.run Tryz.prog (Instr.index 108 (.agg #[.string ⟨#[119, 87]⟩, .string ⟨#[115, 83]⟩, .string ⟨#[117, 85, 103, 71, 122, 90]⟩]) (.int .i64 0)) W = .ok (.string ⟨#[119, 87]⟩) W := by kernel_rfl
theorem ltr1 (W : World) : Sem.run Tryz.prog (Instr.index 108 (.agg #[.string ⟨#[119, 87]⟩, .string ⟨#[115, 83]⟩, .string ⟨#[117, 85, 103, 71, 122, 90]⟩]) (.int .i64 1)) W = .ok (.string ⟨#[115, 83]⟩) W := by kernel_rfl
theorem ltr2 (W : World) : Sem.run Tryz.prog (Instr.index 108 (.agg #[.string ⟨#[119, 87]⟩, .string ⟨#[115, 83]⟩, .string ⟨#[117, 85, 103, 71, 122, 90]⟩]) (.int .i64 2)) W = .ok (.string ⟨#[117, 85, 103, 71, 122, 90]⟩) W := by kernel_rfl
theorem last_ix (s : ByteArray) (h : 0 < s.size) (W : World) : Sem.run Tryz.prog (Instr.index 9 (.string s) (.int .i64 ((s.size : Int) - 1))) W = .ok (.int .u8 s[s.size - 1].toNat) W := by
 rw [run_index_string W _ _ _ _ Tryz.underlying9, dif_pos ⟨by omega, by omega⟩]
 have e : ((s.size : Int) - 1).toNat = s.size - 1 := by omega
 simp [e]
set_option maxHeartbeats 4000000 in
set_option maxRecDepth 100000 in
theorem clcut_nil (s : ByteArray) (w : World) (T : Cl.Tab w) (h : s.size = 0) :
  Calls Tryz.prog 139 #[.string s] w fun e w' => e = .returned (.tuple #[.string s, .int .i64 0]) ∧ w = w' := by
 have h1 : (s.size : Int) = 0 := by omega
 have t0 := T.c0; have t1 := T.c1; have t2 := T.c2
 have l0 := ltr0; have l1 := ltr1; have l2 := ltr2
 clear T
 clear h
 go_enter Tryz.func139, Tryz.ntmps139
 go_wp2_with fail
 refine wp_loop_rounds 4 ?_
 rw [rounds_succ]
 go_wp2_with fail
 rw [rounds_succ]
 go_wp2_with fail
 rw [rounds_succ]
 go_wp2_with fail
 rw [rounds_succ]
 go_wp2_with fail
 go_ret2
 exact ⟨rfl, rfl⟩
set_option maxHeartbeats 4000000 in
set_option maxRecDepth 100000 in
theorem clcut_0 (s : ByteArray) (w : World) (T : Cl.Tab w) (h : 0 < s.size) (hm : s.size ≤ maxLen) (hb : Cl.base s[s.size - 1] = 0) :
  Calls Tryz.prog 139 #[.string s] w fun e w' => e = .returned (.tuple #[.string (s.extract 0 (s.size - 1)), .int .i64 0]) ∧ w = w' := by
 have t0 := T.c0; have t1 := T.c1; have t2 := T.c2
 have l0 := ltr0; have l1 := ltr1; have l2 := ltr2
 clear T
 have hx := last_ix s h
 have hbd := s[s.size - 1].toNat_lt
 obtain ⟨b0, b1, b2⟩ := Cl.base_at s[s.size - 1]
 rw [hb] at b0 b1 b2
 have C0 := Lib.hid (fun W => ixb ⟨#[119, 87]⟩ s[s.size - 1] W)
 have C1 := Lib.hid (fun W => ixb ⟨#[115, 83]⟩ s[s.size - 1] W)
 have C2 := Lib.hid (fun W => ixb ⟨#[117, 85, 103, 71, 122, 90]⟩ s[s.size - 1] W)
 change Hid (∀ W, Calls Tryz.prog 156 #[.string ⟨#[119, 87]⟩, .int .u8 (s[s.size - 1].toNat : Int)] W fun e w' => e = .returned (.int .i64 (Lib.indexByte [119, 87] s[s.size - 1])) ∧ W = w') at C0
 change Hid (∀ W, Calls Tryz.prog 156 #[.string ⟨#[115, 83]⟩, .int .u8 (s[s.size - 1].toNat : Int)] W fun e w' => e = .returned (.int .i64 (Lib.indexByte [115, 83] s[s.size - 1])) ∧ W = w') at C1
 change Hid (∀ W, Calls Tryz.prog 156 #[.string ⟨#[117, 85, 103, 71, 122, 90]⟩, .int .u8 (s[s.size - 1].toNat : Int)] W fun e w' => e = .returned (.int .i64 (Lib.indexByte [117, 85, 103, 71, 122, 90] s[s.size - 1])) ∧ W = w') at C2
 generalize Lib.indexByte [119, 87] s[s.size - 1] = j0 at *
 generalize Lib.indexByte [115, 83] s[s.size - 1] = j1 at *
 generalize Lib.indexByte [117, 85, 103, 71, 122, 90] s[s.size - 1] = j2 at *
 have n0 : 1 ≤ (s.size : Int) := by omega
 have n1 : (s.size : Int) ≤ 9223372036854775807 := by unfold maxLen at hm; omega
 have n2 : 0 ≤ (s.size : Int) - 1 := by omega
 have n3 : (s.size : Int) - 1 ≤ (s.size : Int) := by omega
 have g0 : 0 ≤ j0 := b0.2 rfl
 have g1 : ¬ 0 ≤ j1 := fun h => absurd (b1.1 h) (by decide)
 have g2 : ¬ 0 ≤ j2 := fun h => absurd (b2.1 h) (by decide)
 generalize (s[s.size - 1].toNat : Int) = c at hx C0 C1 C2
 clear b0 b1 b2 hb hm hbd
 go_enter Tryz.func139, Tryz.ntmps139
 go_wp2_with fail
 refine wp_loop_rounds 1 ?_
 rw [rounds_succ]
 go_wp2_with fail
 refine (C0.out _).mono ?_; rintro e w1 ⟨rfl, rfl⟩
 go_wp2_with fail
 go_ret2
 exact ⟨rfl, rfl⟩
set_option maxHeartbeats 4000000 in
set_option maxRecDepth 100000 in
theorem clcut_1 (s : ByteArray) (w : World) (T : Cl.Tab w) (h : 0 < s.size) (hm : s.size ≤ maxLen) (hb : Cl.base s[s.size - 1] = 1) :
  Calls Tryz.prog 139 #[.string s] w fun e w' => e = .returned (.tuple #[.string (s.extract 0 (s.size - 1)), .int .i64 1]) ∧ w = w' := by
 have t0 := T.c0; have t1 := T.c1; have t2 := T.c2
 have l0 := ltr0; have l1 := ltr1; have l2 := ltr2
 clear T
 have hx := last_ix s h
 have hbd := s[s.size - 1].toNat_lt
 obtain ⟨b0, b1, b2⟩ := Cl.base_at s[s.size - 1]
 rw [hb] at b0 b1 b2
 have C0 := Lib.hid (fun W => ixb ⟨#[119, 87]⟩ s[s.size - 1] W)
 have C1 := Lib.hid (fun W => ixb ⟨#[115, 83]⟩ s[s.size - 1] W)
 have C2 := Lib.hid (fun W => ixb ⟨#[117, 85, 103, 71, 122, 90]⟩ s[s.size - 1] W)
 change Hid (∀ W, Calls Tryz.prog 156 #[.string ⟨#[119, 87]⟩, .int .u8 (s[s.size - 1].toNat : Int)] W fun e w' => e = .returned (.int .i64 (Lib.indexByte [119, 87] s[s.size - 1])) ∧ W = w') at C0
 change Hid (∀ W, Calls Tryz.prog 156 #[.string ⟨#[115, 83]⟩, .int .u8 (s[s.size - 1].toNat : Int)] W fun e w' => e = .returned (.int .i64 (Lib.indexByte [115, 83] s[s.size - 1])) ∧ W = w') at C1
 change Hid (∀ W, Calls Tryz.prog 156 #[.string ⟨#[117, 85, 103, 71, 122, 90]⟩, .int .u8 (s[s.size - 1].toNat : Int)] W fun e w' => e = .returned (.int .i64 (Lib.indexByte [117, 85, 103, 71, 122, 90] s[s.size - 1])) ∧ W = w') at C2
 generalize Lib.indexByte [119, 87] s[s.size - 1] = j0 at *
 generalize Lib.indexByte [115, 83] s[s.size - 1] = j1 at *
 generalize Lib.indexByte [117, 85, 103, 71, 122, 90] s[s.size - 1] = j2 at *
 have n0 : 1 ≤ (s.size : Int) := by omega
 have n1 : (s.size : Int) ≤ 9223372036854775807 := by unfold maxLen at hm; omega
 have n2 : 0 ≤ (s.size : Int) - 1 := by omega
 have n3 : (s.size : Int) - 1 ≤ (s.size : Int) := by omega
 have g0 : ¬ 0 ≤ j0 := fun h => absurd (b0.1 h) (by decide)
 have g1 : 0 ≤ j1 := b1.2 rfl
 have g2 : ¬ 0 ≤ j2 := fun h => absurd (b2.1 h) (by decide)
 generalize (s[s.size - 1].toNat : Int) = c at hx C0 C1 C2
 clear b0 b1 b2 hb hm hbd
 go_enter Tryz.func139, Tryz.ntmps139
 go_wp2_with fail
 refine wp_loop_rounds 2 ?_
 rw [rounds_succ]
 go_wp2_with fail
 refine (C0.out _).mono ?_; rintro e w1 ⟨rfl, rfl⟩
 go_wp2_with fail
 rw [rounds_succ]
 go_wp2_with fail
 refine (C1.out _).mono ?_; rintro e w1 ⟨rfl, rfl⟩
 go_wp2_with fail
 go_ret2
 exact ⟨rfl, rfl⟩
set_option maxHeartbeats 4000000 in
set_option maxRecDepth 100000 in
theorem clcut_2 (s : ByteArray) (w : World) (T : Cl.Tab w) (h : 0 < s.size) (hm : s.size ≤ maxLen) (hb : Cl.base s[s.size - 1] = 2) :
  Calls Tryz.prog 139 #[.string s] w fun e w' => e = .returned (.tuple #[.string (s.extract 0 (s.size - 1)), .int .i64 2]) ∧ w = w' := by
 have t0 := T.c0; have t1 := T.c1; have t2 := T.c2
 have l0 := ltr0; have l1 := ltr1; have l2 := ltr2
 clear T
 have hx := last_ix s h
 have hbd := s[s.size - 1].toNat_lt
 obtain ⟨b0, b1, b2⟩ := Cl.base_at s[s.size - 1]
 rw [hb] at b0 b1 b2
 have C0 := Lib.hid (fun W => ixb ⟨#[119, 87]⟩ s[s.size - 1] W)
 have C1 := Lib.hid (fun W => ixb ⟨#[115, 83]⟩ s[s.size - 1] W)
 have C2 := Lib.hid (fun W => ixb ⟨#[117, 85, 103, 71, 122, 90]⟩ s[s.size - 1] W)
 change Hid (∀ W, Calls Tryz.prog 156 #[.string ⟨#[119, 87]⟩, .int .u8 (s[s.size - 1].toNat : Int)] W fun e w' => e = .returned (.int .i64 (Lib.indexByte [119, 87] s[s.size - 1])) ∧ W = w') at C0
 change Hid (∀ W, Calls Tryz.prog 156 #[.string ⟨#[115, 83]⟩, .int .u8 (s[s.size - 1].toNat : Int)] W fun e w' => e = .returned (.int .i64 (Lib.indexByte [115, 83] s[s.size - 1])) ∧ W = w') at C1
 change Hid (∀ W, Calls Tryz.prog 156 #[.string ⟨#[117, 85, 103, 71, 122, 90]⟩, .int .u8 (s[s.size - 1].toNat : Int)] W fun e w' => e = .returned (.int .i64 (Lib.indexByte [117, 85, 103, 71, 122, 90] s[s.size - 1])) ∧ W = w') at C2
 generalize Lib.indexByte [119, 87] s[s.size - 1] = j0 at *
 generalize Lib.indexByte [115, 83] s[s.size - 1] = j1 at *
 generalize Lib.indexByte [117, 85, 103, 71, 122, 90] s[s.size - 1] = j2 at *
 have n0 : 1 ≤ (s.size : Int) := by omega
 have n1 : (s.size : Int) ≤ 9223372036854775807 := by unfold maxLen at hm; omega
 have n2 : 0 ≤ (s.size : Int) - 1 := by omega
 have n3 : (s.size : Int) - 1 ≤ (s.size : Int) := by omega
 have g0 : ¬ 0 ≤ j0 := fun h => absurd (b0.1 h) (by decide)
 have g1 : ¬ 0 ≤ j1 := fun h => absurd (b1.1 h) (by decide)
 have g2 : 0 ≤ j2 := b2.2 rfl
 generalize (s[s.size - 1].toNat : Int) = c at hx C0 C1 C2
 clear b0 b1 b2 hb hm hbd
 go_enter Tryz.func139, Tryz.ntmps139
 go_wp2_with fail
 refine wp_loop_rounds 3 ?_
 rw [rounds_succ]
 go_wp2_with fail
 refine (C0.out _).mono ?_; rintro e w1 ⟨rfl, rfl⟩
 go_wp2_with fail
 rw [rounds_succ]
 go_wp2_with fail
 refine (C1.out _).mono ?_; rintro e w1 ⟨rfl, rfl⟩
 go_wp2_with fail
 rw [rounds_succ]
 go_wp2_with fail
 refine (C2.out _).mono ?_; rintro e w1 ⟨rfl, rfl⟩
 go_wp2_with fail
 go_ret2
 exact ⟨rfl, rfl⟩
set_option maxHeartbeats 4000000 in
set_option maxRecDepth 100000 in
theorem clcut_3 (s : ByteArray) (w : World) (T : Cl.Tab w) (h : 0 < s.size) (hm : s.size ≤ maxLen) (hb : Cl.base s[s.size - 1] = 3) :
  Calls Tryz.prog 139 #[.string s] w fun e w' => e = .returned (.tuple #[.string s, .int .i64 0]) ∧ w = w' := by
 have t0 := T.c0; have t1 := T.c1; have t2 := T.c2
 have l0 := ltr0; have l1 := ltr1; have l2 := ltr2
 clear T
 have hx := last_ix s h
 have hbd := s[s.size - 1].toNat_lt
 obtain ⟨b0, b1, b2⟩ := Cl.base_at s[s.size - 1]
 rw [hb] at b0 b1 b2
 have C0 := Lib.hid (fun W => ixb ⟨#[119, 87]⟩ s[s.size - 1] W)
 have C1 := Lib.hid (fun W => ixb ⟨#[115, 83]⟩ s[s.size - 1] W)
 have C2 := Lib.hid (fun W => ixb ⟨#[117, 85, 103, 71, 122, 90]⟩ s[s.size - 1] W)
 change Hid (∀ W, Calls Tryz.prog 156 #[.string ⟨#[119, 87]⟩, .int .u8 (s[s.size - 1].toNat : Int)] W fun e w' => e = .returned (.int .i64 (Lib.indexByte [119, 87] s[s.size - 1])) ∧ W = w') at C0
 change Hid (∀ W, Calls Tryz.prog 156 #[.string ⟨#[115, 83]⟩, .int .u8 (s[s.size - 1].toNat : Int)] W fun e w' => e = .returned (.int .i64 (Lib.indexByte [115, 83] s[s.size - 1])) ∧ W = w') at C1
 change Hid (∀ W, Calls Tryz.prog 156 #[.string ⟨#[117, 85, 103, 71, 122, 90]⟩, .int .u8 (s[s.size - 1].toNat : Int)] W fun e w' => e = .returned (.int .i64 (Lib.indexByte [117, 85, 103, 71, 122, 90] s[s.size - 1])) ∧ W = w') at C2
 generalize Lib.indexByte [119, 87] s[s.size - 1] = j0 at *
 generalize Lib.indexByte [115, 83] s[s.size - 1] = j1 at *
 generalize Lib.indexByte [117, 85, 103, 71, 122, 90] s[s.size - 1] = j2 at *
 have n0 : 1 ≤ (s.size : Int) := by omega
 have n1 : (s.size : Int) ≤ 9223372036854775807 := by unfold maxLen at hm; omega
 have n2 : 0 ≤ (s.size : Int) - 1 := by omega
 have n3 : (s.size : Int) - 1 ≤ (s.size : Int) := by omega
 have g0 : ¬ 0 ≤ j0 := fun h => absurd (b0.1 h) (by decide)
 have g1 : ¬ 0 ≤ j1 := fun h => absurd (b1.1 h) (by decide)
 have g2 : ¬ 0 ≤ j2 := fun h => absurd (b2.1 h) (by decide)
 generalize (s[s.size - 1].toNat : Int) = c at hx C0 C1 C2
 clear b0 b1 b2 hb hm hbd
 go_enter Tryz.func139, Tryz.ntmps139
 go_wp2_with fail
 refine wp_loop_rounds 4 ?_
 rw [rounds_succ]
 go_wp2_with fail
 refine (C0.out _).mono ?_; rintro e w1 ⟨rfl, rfl⟩
 go_wp2_with fail
 rw [rounds_succ]
 go_wp2_with fail
 refine (C1.out _).mono ?_; rintro e w1 ⟨rfl, rfl⟩
 go_wp2_with fail
 rw [rounds_succ]
 go_wp2_with fail
 refine (C2.out _).mono ?_; rintro e w1 ⟨rfl, rfl⟩
 go_wp2_with fail
 rw [rounds_succ]
 go_wp2_with fail
 go_ret2
 exact ⟨rfl, rfl⟩
end
section
open Go.RowKit Go.Sort
theorem clcut_any (s : ByteArray) (w : World) (T : Cl.Tab w) (hm : s.size ≤ maxLen) : Calls Tryz.prog 139 #[.string s] w fun e w' => e = .returned (.tuple #[.string (Cl.cutL s).1, .int .i64 (Cl.cutL s).2]) ∧ w = w' := by
 by_cases h : 0 < s.size
 ·
  have hb : Cl.base s[s.size - 1] = 0 ∨ Cl.base s[s.size - 1] = 1 ∨ Cl.base s[s.size - 1] = 2 ∨ Cl.base s[s.size - 1] = 3 := by
   unfold Cl.base
   split
   ·
    exact .inl rfl
   ·
    split
    ·
     exact .inr (.inl rfl)
    ·
     split
     ·
      exact .inr (.inr (.inl rfl))
     ·
      exact .inr (.inr (.inr rfl))
  unfold Cl.cutL
  rw [dif_pos h]
  rcases hb with e | e | e | e
  ·
   rw [e]; exact clcut_0 s w T h hm e
  ·
   rw [e]; exact clcut_1 s w T h hm e
  ·
   rw [e]; exact clcut_2 s w T h hm e
  ·
   rw [e]; exact clcut_3 s w T h hm e
 ·
  unfold Cl.cutL
  rw [dif_neg h]
  exact clcut_nil s w T (by omega)
set_option maxHeartbeats 4000000 in
set_option maxRecDepth 100000 in
theorem clin_why (s t : ByteArray) (b n y : Int) (W : World) (p : Nat) (hp : W.cell? ⟨p, 0, none⟩ = some (.string s)) (CC : Hid (∀ W, Cl.Tab W → Calls Tryz.prog 139 #[.string s] W fun e w' => e = .returned (.tuple #[.string t, .int .i64 b]) ∧ W = w')) (T : Cl.Tab W) (M : Hid (W.cell? ⟨3, 0, none⟩ = some (.int .i64 y))) (q : Int) (hq : q ≠ 0) (CA : Hid (∀ W, W.cell? ⟨3, 0, none⟩ = some (.int .i64 y) → Calls Tryz.prog 88 #[.string t] W fun e w' => e = .returned (.tuple #[.int .i64 n, .int .i64 q]) ∧ Below W.heap.size W w')) : Calls Tryz.prog 138 #[.pointer (some ⟨p, 0, none⟩)] W fun e w' => e = .panicked (gvP q) ∧ Below W.heap.size W w' := by
 have T0 := Lib.hid T; clear T
 have pl := World.block_lt_of_cell? _ _ hp
 have pn : p ≠ W.heap.size := Nat.ne_of_lt pl
 go_enter Tryz.func138, Tryz.ntmps138
 go_wp2_with fail
 have b0 : Below W.heap.size W (W.alloc (.cells #[.int .i64 0, .int .i64 0] 26)) := (Below.refl _ _).alloc (Nat.le_refl _) _
 refine (CC.out _ (T0.out.on b0)).mono ?_; rintro e w1 ⟨rfl, rfl⟩
 go_wp2_with fail
 refine (CA.out _ (ckm b0 M.out)).mono ?_; rintro e w2 ⟨rfl, b2⟩
 have B2 := Lib.hid (below_step b0 b2)
 have P2 : Bk2 w2 W.heap.size (.int .i64 0) (.int .i64 0) := Bk2.of b2 (by simp) (by intro j; simp [go_sem]) (by simp [go_sem]) (by simp [go_sem])
 clear b2 b0
 have p_b := P2.hb; have p_f := P2.fz; have p_0 := P2.k0; have p_1 := P2.k1
 go_wp2_with fail
 refine (must_no n q _ hq).mono ?_; rintro e w3 ⟨rfl, rfl⟩
 refine (show bodyPost _ _ _ (Exit.panic (gvP q)) _ _ from ?_)
 exact ⟨rfl, rfl, B2.out⟩
set_option maxHeartbeats 4000000 in
set_option maxRecDepth 100000 in
theorem clin_far (s t : ByteArray) (b n y : Int) (W : World) (p : Nat) (hp : W.cell? ⟨p, 0, none⟩ = some (.string s)) (CC : Hid (∀ W, Cl.Tab W → Calls Tryz.prog 139 #[.string s] W fun e w' => e = .returned (.tuple #[.string t, .int .i64 b]) ∧ W = w')) (T : Cl.Tab W) (M : Hid (W.cell? ⟨3, 0, none⟩ = some (.int .i64 y))) (CA : Hid (∀ W, W.cell? ⟨3, 0, none⟩ = some (.int .i64 y) → Calls Tryz.prog 88 #[.string t] W fun e w' => e = .returned (.tuple #[.int .i64 n, .int .i64 0]) ∧ Below W.heap.size W w')) (hr : Cl.rB n b = false) : Calls Tryz.prog 138 #[.pointer (some ⟨p, 0, none⟩)] W fun e w' => e = .panicked (gvP 1) ∧ Below W.heap.size W w' := by
 have CR : Hid (∀ W, Calls Tryz.prog 54 #[.agg #[.int .i64 n, .int .i64 b]] W fun e w' => e = .returned (.bool false) ∧ Below W.heap.size W w') := fun W => hr ▸ clright_any n b W
 clear hr
 have T0 := Lib.hid T; clear T
 have pl := World.block_lt_of_cell? _ _ hp
 have pn : p ≠ W.heap.size := Nat.ne_of_lt pl
 go_enter Tryz.func138, Tryz.ntmps138
 go_wp2_with fail
 have b0 : Below W.heap.size W (W.alloc (.cells #[.int .i64 0, .int .i64 0] 26)) := (Below.refl _ _).alloc (Nat.le_refl _) _
 refine (CC.out _ (T0.out.on b0)).mono ?_; rintro e w1 ⟨rfl, rfl⟩
 go_wp2_with fail
 refine (CA.out _ (ckm b0 M.out)).mono ?_; rintro e w2 ⟨rfl, b2⟩
 have B2 := Lib.hid (below_step b0 b2)
 have P2 : Bk2 w2 W.heap.size (.int .i64 0) (.int .i64 0) := Bk2.of b2 (by simp) (by intro j; simp [go_sem]) (by simp [go_sem]) (by simp [go_sem])
 clear b2 b0
 have p_b := P2.hb; have p_f := P2.fz; have p_0 := P2.k0; have p_1 := P2.k1
 go_wp2_with fail
 refine (must_yes n _).mono ?_; rintro e w3 ⟨rfl, rfl⟩
 go_wp2_with fail
 refine (CR.out _).mono ?_; rintro e w4 ⟨rfl, b4⟩
 have d4 : Below w2.heap.size w2 w4 := below_step ((Below.refl _ _).alloc (Nat.le_refl _) _) b4
 have B4 := Lib.hid (below_step B2.out d4)
 have P4 := P2.keep d4
 have X4 : Bk2 w4 w2.heap.size (.int .i64 n) (.int .i64 b) := Bk2.of b4 (by simp) (by intro j; simp [go_sem]) (by simp [go_sem]) (by simp [go_sem])
 clear p_b p_f p_0 p_1 P2 b4 d4
 have p_b := P4.hb; have p_f := P4.fz; have p_0 := P4.k0; have p_1 := P4.k1
 have x_b := X4.hb; have x_f := X4.fz; have x_0 := X4.k0; have x_1 := X4.k1
 clear P4 X4
 go_wp2_with fail
 refine (need_no 1 _).mono ?_; rintro e w5 ⟨rfl, rfl⟩
 refine (show bodyPost _ _ _ (Exit.panic (gvP 1)) _ _ from ?_)
 exact ⟨rfl, rfl, B4.out⟩
set_option maxHeartbeats 4000000 in
set_option maxRecDepth 100000 in
theorem clin_yes (s t : ByteArray) (b n y : Int) (W : World) (p : Nat) (hp : W.cell? ⟨p, 0, none⟩ = some (.string s)) (CC : Hid (∀ W, Cl.Tab W → Calls Tryz.prog 139 #[.string s] W fun e w' => e = .returned (.tuple #[.string t, .int .i64 b]) ∧ W = w')) (T : Cl.Tab W) (M : Hid (W.cell? ⟨3, 0, none⟩ = some (.int .i64 y))) (CA : Hid (∀ W, W.cell? ⟨3, 0, none⟩ = some (.int .i64 y) → Calls Tryz.prog 88 #[.string t] W fun e w' => e = .returned (.tuple #[.int .i64 n, .int .i64 0]) ∧ Below W.heap.size W w')) (hr : Cl.rB n b = true) : Calls Tryz.prog 138 #[.pointer (some ⟨p, 0, none⟩)] W fun e w' => e = .returned (.agg #[.int .i64 n, .int .i64 b]) ∧ Below W.heap.size W w' := by
 have CR : Hid (∀ W, Calls Tryz.prog 54 #[.agg #[.int .i64 n, .int .i64 b]] W fun e w' => e = .returned (.bool true) ∧ Below W.heap.size W w') := fun W => hr ▸ clright_any n b W
 clear hr
 have T0 := Lib.hid T; clear T
 have pl := World.block_lt_of_cell? _ _ hp
 have pn : p ≠ W.heap.size := Nat.ne_of_lt pl
 go_enter Tryz.func138, Tryz.ntmps138
 go_wp2_with fail
 have b0 : Below W.heap.size W (W.alloc (.cells #[.int .i64 0, .int .i64 0] 26)) := (Below.refl _ _).alloc (Nat.le_refl _) _
 refine (CC.out _ (T0.out.on b0)).mono ?_; rintro e w1 ⟨rfl, rfl⟩
 go_wp2_with fail
 refine (CA.out _ (ckm b0 M.out)).mono ?_; rintro e w2 ⟨rfl, b2⟩
 have B2 := Lib.hid (below_step b0 b2)
 have P2 : Bk2 w2 W.heap.size (.int .i64 0) (.int .i64 0) := Bk2.of b2 (by simp) (by intro j; simp [go_sem]) (by simp [go_sem]) (by simp [go_sem])
 clear b2 b0
 have p_b := P2.hb; have p_f := P2.fz; have p_0 := P2.k0; have p_1 := P2.k1
 go_wp2_with fail
 refine (must_yes n _).mono ?_; rintro e w3 ⟨rfl, rfl⟩
 go_wp2_with fail
 refine (CR.out _).mono ?_; rintro e w4 ⟨rfl, b4⟩
 have d4 : Below w2.heap.size w2 w4 := below_step ((Below.refl _ _).alloc (Nat.le_refl _) _) b4
 have B4 := Lib.hid (below_step B2.out d4)
 have P4 := P2.keep d4
 have X4 : Bk2 w4 w2.heap.size (.int .i64 n) (.int .i64 b) := Bk2.of b4 (by simp) (by intro j; simp [go_sem]) (by simp [go_sem]) (by simp [go_sem])
 clear p_b p_f p_0 p_1 P2 b4 d4
 have p_b := P4.hb; have p_f := P4.fz; have p_0 := P4.k0; have p_1 := P4.k1
 have x_b := X4.hb; have x_f := X4.fz; have x_0 := X4.k0; have x_1 := X4.k1
 clear P4 X4
 go_wp2_with fail
 refine (need_yes 1 _).mono ?_; rintro e w5 ⟨rfl, rfl⟩
 go_wp2_with fail
 refine bodyPost_ret (v := .agg #[.int .i64 n, .int .i64 b]) (by simp [results, Tryz.results138, go_sem, p_b, p_f, p_0, p_1, x_b, x_f, x_0, x_1]) rfl ⟨rfl, ?_⟩
 clear p_b p_f p_0 p_1 x_b x_f x_0 x_1
 repeat (refine Below.setCell ?_ (by first | (simp; done) | omega | (simp; omega)) _)
 exact B4.out
end
section
open Go.RowKit Go.Sort
namespace Cl
def rd (s : ByteArray) : Int × Int × Int := if (Am.rd (cutL s).1).2 ≠ 0 then (0, 0, (Am.rd (cutL s).1).2) else if rB (Am.rd (cutL s).1).1 (cutL s).2 = false then (0, 0, 1) else ((Am.rd (cutL s).1).1, (cutL s).2, 0)
def sg (b : Int) : ByteArray := if b = 1 then ⟨#[115]⟩ else ⟨#[117]⟩
theorem cutL_size (s : ByteArray) : (cutL s).1.size ≤ s.size := by
 unfold cutL
 split
 ·
  split
  ·
   exact Nat.le_refl _
  ·
   rw [ByteArray.size_extract]; omega
 ·
  exact Nat.le_refl _
end Cl
set_option maxHeartbeats 4000000 in
set_option maxRecDepth 100000 in
theorem clread_any (s : ByteArray) (w : World) (y : Int) (hs : s.size < 4294967281) (T : Cl.Tab w) (hm : w.cell? ⟨3, 0, none⟩ = some (.int .i64 y)) :
  Calls Tryz.prog 86 #[.string s] w fun e w' => e = .returned (.tuple #[.agg #[.int .i64 (Cl.rd s).1, .int .i64 (Cl.rd s).2.1], .int .i64 (Cl.rd s).2.2]) ∧ Below w.heap.size w w' := by
 have CC := Lib.hid (fun W h => clcut_any s W h (by unfold maxLen; omega))
 have CA := Lib.hid (fun W h => aread_any (Cl.cutL s).1 W y (Nat.lt_of_le_of_lt (Cl.cutL_size s) hs) h)
 have hmf : ∀ (fn : Fn) (first cap : Array Value) (w : World), (Instr.makeFunc fn first cap).run Tryz.prog w = .ok (.func fn first cap) w := fun _ _ _ _ => rfl
 have b0 : Below w.heap.size w ((w.alloc (.cells #[.string s] 9)).alloc (.cells #[.int .i64 0, .int .i64 0] 26)) := ((Below.refl _ _).alloc (Nat.le_refl _) _).alloc (by simp) _
 have c0 : ((w.alloc (.cells #[.string s] 9)).alloc (.cells #[.int .i64 0, .int .i64 0] 26)).cell? ⟨w.heap.size, 0, none⟩ = some (.string s) := by simp [go_sem]
 have l0 : w.heap.size < ((w.alloc (.cells #[.string s] 9)).alloc (.cells #[.int .i64 0, .int .i64 0] 26)).heap.size := by simp <;> omega
 have T1 := T.on b0
 have M1 := Lib.hid (ckm b0 hm)
 obtain ⟨ans, hans⟩ : ∃ ans, ans = Cl.rd s := ⟨_, rfl⟩
 rw [← hans]
 unfold Cl.rd at hans
 generalize Cl.cutL s = p at *
 obtain ⟨t, b⟩ := p
 dsimp only at *
 generalize Am.rd t = r at *
 obtain ⟨n, q⟩ := r
 dsimp only at *
 have KC : ∀ W, Below ((w.alloc (.cells #[.string s] 9)).alloc (.cells #[.int .i64 0, .int .i64 0] 26)).heap.size ((w.alloc (.cells #[.string s] 9)).alloc (.cells #[.int .i64 0, .int .i64 0] 26)) W → W.cell? ⟨w.heap.size, 0, none⟩ = some (.string s) ∧ Cl.Tab W ∧ Hid (W.cell? ⟨3, 0, none⟩ = some (.int .i64 y)) := fun W k => ⟨(k.cell (p := ⟨w.heap.size, 0, none⟩) l0).trans c0, T1.on k, ckm k M1.out⟩
 by_cases hq : q = 0
 ·
  subst hq
  rw [if_neg (by simp)] at hans
  cases hr : Cl.rB n b
  ·
   rw [if_pos hr] at hans
   have e := Lib.hid hans
   have CG := Lib.hid (acaught_no 138 #[.pointer (some ⟨w.heap.size, 0, none⟩)] (fun _ => rfl) 0 1 ((w.alloc (.cells #[.string s] 9)).alloc (.cells #[.int .i64 0, .int .i64 0] 26)) (fun W k => by obtain ⟨k1, k2, k3⟩ := KC W k; exact clin_far s t b n y W w.heap.size k1 CC k2 k3 CA hr))
   clear hans hr KC T1 c0 l0 CC CA hm T
   go_enter Tryz.func86, Tryz.ntmps86
   go_wp2_with fail
   refine CG.out.mono ?_; rintro e w1 ⟨rfl, b1⟩
   have B1 := Lib.hid (below_step b0 b1)
   have P1 : Bk2 w1 (w.heap.size + 1) (.int .i64 0) (.int .i64 0) := by refine Bk2.of b1 (by simp <;> omega) (by intro j; simp [go_sem]) ?_ ?_ <;> simp [go_sem]
   have hz := B1.out.size
   clear b1
   have p_b := P1.hb; have p_f := P1.fz; have p_0 := P1.k0; have p_1 := P1.k1
   clear P1
   go_wp2_with fail
   refine bodyPost_ret (v := .tuple #[.agg #[.int .i64 0, .int .i64 0], .int .i64 1]) (by simp [results, Tryz.results86, go_sem, p_b, p_f, p_0, p_1]) rfl ⟨by rw [e.out], ?_⟩
   clear p_b p_f p_0 p_1
   repeat (refine Below.setCell ?_ (by first | omega | (simp; done) | (simp; omega)) _)
   exact B1.out
  ·
   rw [if_neg (by rw [hr]; decide)] at hans
   have e := Lib.hid hans
   have CG := Lib.hid (acaught_yes 138 #[.pointer (some ⟨w.heap.size, 0, none⟩)] (fun _ => rfl) n b ((w.alloc (.cells #[.string s] 9)).alloc (.cells #[.int .i64 0, .int .i64 0] 26)) (fun W k => by obtain ⟨k1, k2, k3⟩ := KC W k; exact clin_yes s t b n y W w.heap.size k1 CC k2 k3 CA hr))
   clear hans hr KC T1 c0 l0 CC CA hm T
   go_enter Tryz.func86, Tryz.ntmps86
   go_wp2_with fail
   refine CG.out.mono ?_; rintro e w1 ⟨rfl, b1⟩
   have B1 := Lib.hid (below_step b0 b1)
   have P1 : Bk2 w1 (w.heap.size + 1) (.int .i64 0) (.int .i64 0) := by refine Bk2.of b1 (by simp <;> omega) (by intro j; simp [go_sem]) ?_ ?_ <;> simp [go_sem]
   have hz := B1.out.size
   clear b1
   have p_b := P1.hb; have p_f := P1.fz; have p_0 := P1.k0; have p_1 := P1.k1
   clear P1
   go_wp2_with fail
   refine bodyPost_ret (v := .tuple #[.agg #[.int .i64 n, .int .i64 b], .int .i64 0]) (by simp [results, Tryz.results86, go_sem, p_b, p_f, p_0, p_1]) rfl ⟨by rw [e.out], ?_⟩
   clear p_b p_f p_0 p_1
   repeat (refine Below.setCell ?_ (by first | omega | (simp; done) | (simp; omega)) _)
   exact B1.out
 ·
  rw [if_pos hq] at hans
  have e := Lib.hid hans
  have CG := Lib.hid (acaught_no 138 #[.pointer (some ⟨w.heap.size, 0, none⟩)] (fun _ => rfl) 0 q ((w.alloc (.cells #[.string s] 9)).alloc (.cells #[.int .i64 0, .int .i64 0] 26)) (fun W k => by obtain ⟨k1, k2, k3⟩ := KC W k; exact clin_why s t b n y W w.heap.size k1 CC k2 k3 q hq CA))
  clear hans hq KC T1 c0 l0 CC CA hm T
  go_enter Tryz.func86, Tryz.ntmps86
  go_wp2_with fail
  refine CG.out.mono ?_; rintro e w1 ⟨rfl, b1⟩
  have B1 := Lib.hid (below_step b0 b1)
  have P1 : Bk2 w1 (w.heap.size + 1) (.int .i64 0) (.int .i64 0) := by refine Bk2.of b1 (by simp <;> omega) (by intro j; simp [go_sem]) ?_ ?_ <;> simp [go_sem]
  have hz := B1.out.size
  clear b1
  have p_b := P1.hb; have p_f := P1.fz; have p_0 := P1.k0; have p_1 := P1.k1
  clear P1
  go_wp2_with fail
  refine bodyPost_ret (v := .tuple #[.agg #[.int .i64 0, .int .i64 0], .int .i64 q]) (by simp [results, Tryz.results86, go_sem, p_b, p_f, p_0, p_1]) rfl ⟨by rw [e.out], ?_⟩
  clear p_b p_f p_0 p_1
  repeat (refine Below.setCell ?_ (by first | omega | (simp; done) | (simp; omega)) _)
  exact B1.out
end
end Go.Proofs.YtpggfhmnhbnefaaGreatDoor
