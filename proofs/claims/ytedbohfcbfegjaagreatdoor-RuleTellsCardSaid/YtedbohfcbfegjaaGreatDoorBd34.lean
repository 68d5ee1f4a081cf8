/- Joined: RuK, RuI, RuT. -/
import Derived.Test.YtedbohfcbfegjaaGreatDoorBd33
import Derived.Test.YtedbohfcbfegjaaGreatDoorBd20
import Derived.Test.YtedbohfcbfegjaaGreatDoorBd26
import Derived.Test.YtedbohfcbfegjaaGreatDoorBd32
import Derived.Test.YtedbohfcbfegjaaGreatDoorBd28
import Derived.Test.YtedbohfcbfegjaaGreatDoorBd24
import Derived.Test.YtedbohfcbfegjaaGreatDoorBd22
import Derived.Test.YtedbohfcbfegjaaGreatDoorBd16
import Derived.Test.YtedbohfcbfegjaaGreatDoorBd21
/- Rules: Read, of the reference, whatever fields. -/
set_option linter.unusedVariables false
set_option linter.unusedSimpArgs false
namespace Go.Proofs.YtedbohfcbfegjaaGreatDoor
open Go.RowKit Go.Sort

set_option maxHeartbeats 4000000 in
set_option maxRecDepth 100000 in
theorem rruread_other (v : Value) (l : List ByteArray) (w : World) (S : StS w v l) (hl : l.length < 9 ∨ (9 < l.length ∧ l.length ≤ 1000000)) :
    Calls Tryz.prog 9 #[v] w fun e w' => e = .returned (.tuple #[(Ru.rd l).1.v, .int .i64 (Ru.rd l).2]) ∧ Below w.heap.size w w' := by
  obtain ⟨A, c, rfl, -⟩ := S
  rw [Ru.rd_other (by omega)]
  unfold Ru.R0 Ru.R.v
  obtain ⟨N, hN⟩ : ∃ N, N = l.length := ⟨_, rfl⟩
  rw [← hN] at hl ⊢
  clear hN
  by_cases h : N < 9
  · rw [if_pos h]
    have g : (N : Int) < 9 := by omega
    clear h hl
    go_enter Tryz.func9, Tryz.ntmps9
    go_wp2_with fail
    refine bodyPost_ret (v := .tuple #[.agg #[.string ⟨#[]⟩, .int .i64 0, .int .i64 0, .int .i64 0, .int .i64 0, .int .i64 0, .int .i64 0, .int .i64 0, .int .i64 0, .int .i64 0, .string ⟨#[]⟩], .int .i64 5]) (by simp [results, Tryz.results9, go_sem]) rfl ⟨rfl, ?_⟩
    repeat (first | exact Below.refl _ _ | refine Below.setCell ?_ (by first | omega | (simp; done) | (simp; omega)) _ | refine Below.alloc ?_ (by first | omega | (simp; done) | (simp; omega)) _)
  · rw [if_neg h]
    have h2 : 9 < N ∧ N ≤ 1000000 := by omega
    have g : ¬ (N : Int) < 9 := by omega
    have g2 : 9 < (N : Int) := by omega
    clear h hl
    go_enter Tryz.func9, Tryz.ntmps9
    go_wp2_with fail
    refine bodyPost_ret (v := .tuple #[.agg #[.string ⟨#[]⟩, .int .i64 0, .int .i64 0, .int .i64 0, .int .i64 0, .int .i64 0, .int .i64 0, .int .i64 0, .int .i64 0, .int .i64 0, .string ⟨#[]⟩], .int .i64 6]) (by simp [results, Tryz.results9, go_sem]) rfl ⟨rfl, ?_⟩
    repeat (first | exact Below.refl _ _ | refine Below.setCell ?_ (by first | omega | (simp; done) | (simp; omega)) _ | refine Below.alloc ?_ (by first | omega | (simp; done) | (simp; omega)) _)
theorem rruRead_any (v : Value) (l : List ByteArray) (w : World) (S : StS w v l) (hl : l.length ≤ 1000000) (hz : ∀ y ∈ l, y.size ≤ 600) :
    Calls Tryz.prog 9 #[v] w fun e w' => e = .returned (.tuple #[(Ru.rd l).1.v, .int .i64 (Ru.rd l).2]) ∧ Below w.heap.size w w' := by
  by_cases h : l.length = 9
  · obtain ⟨f0, f1, f2, f3, f4, f5, f6, f7, f8, rfl⟩ := Ru.nine l h
    exact rruread_nine v f0 f1 f2 f3 f4 f5 f6 f7 f8 w S hz
  · exact rruread_other v l w S (by omega)
end Go.Proofs.YtedbohfcbfegjaaGreatDoor

/- Rules: Fields, of the reference. -/
set_option linter.unusedVariables false
set_option linter.unusedSimpArgs false
namespace Go.Proofs.YtedbohfcbfegjaaGreatDoor
open Go.RowKit Go.Sort

set_option maxHeartbeats 4000000 in
set_option maxRecDepth 100000 in
theorem rrufields_any (s t : ByteArray) (fy ty m k wk d sec base save : Int) (w : World) (hs : s.size ≤ maxLen) (ht : t.size ≤ 100000) :
    Calls Tryz.prog 11 #[.agg #[.string s, .int .i64 fy, .int .i64 ty, .int .i64 m, .int .i64 k, .int .i64 wk, .int .i64 d, .int .i64 sec, .int .i64 base, .int .i64 save, .string t]] w (AnsF (Ru.fl ⟨s, fy, ty, m, k, wk, d, sec, base, save, t⟩) w) := by
  have RB := Lib.hid (fun W => rrright_any s t fy ty m k wk d sec base save W hs ht)
  have LT := Lib.hid (fun W => rfltext_any t W ht)
  clear hs ht
  cases hok : Ru.rB s t fy ty m k wk d sec base save
  · rw [hok] at RB
    rw [Ru.fl_no (r := ⟨s, fy, ty, m, k, wk, d, sec, base, save, t⟩) hok]
    clear hok
    go_enter Tryz.func11, Tryz.ntmps11
    go_wp2_with fail
    refine (RB.out _).mono ?_; rintro e w1 ⟨rfl, b1⟩
    have d1 : Below w.heap.size w w1 := below_step (by repeat (first | exact Below.refl _ _ | refine below_drewN ?_ _ | refine Below.drew ?_ | refine Below.setCell ?_ (by first | (simp; done) | (simp; omega) | omega) _ | refine Below.alloc ?_ (by first | (simp; done) | (simp; omega) | omega) _)) b1
    have B1 := Lib.hid d1
    have X1 : Bk11 w1 (w.heap.size) (.string s) (.int .i64 fy) (.int .i64 ty) (.int .i64 m) (.int .i64 k) (.int .i64 wk) (.int .i64 d) (.int .i64 sec) (.int .i64 base) (.int .i64 save) (.string t) := Bk11.of b1 (by simp <;> omega) (by intro j; simp [go_sem]) (by simp [go_sem]) (by simp [go_sem]) (by simp [go_sem]) (by simp [go_sem]) (by simp [go_sem]) (by simp [go_sem]) (by simp [go_sem]) (by simp [go_sem]) (by simp [go_sem]) (by simp [go_sem]) (by simp [go_sem])
    clear b1 d1
    have cX_b := X1.hb
    have cX_f := X1.fz
    have cX_0 := X1.k0
    have cX_1 := X1.k1
    have cX_2 := X1.k2
    have cX_3 := X1.k3
    have cX_4 := X1.k4
    have cX_5 := X1.k5
    have cX_6 := X1.k6
    have cX_7 := X1.k7
    have cX_8 := X1.k8
    have cX_9 := X1.k9
    have cX_10 := X1.k10
    go_wp2_with fail
    clear cX_b cX_f cX_0 cX_1 cX_2 cX_3 cX_4 cX_5 cX_6 cX_7 cX_8 cX_9 cX_10
    go_ret2
    exact ⟨_, [], Lst.nil _ _, rfl, rfl, B1.out⟩
  · rw [hok] at RB
    rw [Ru.fl_yes (r := ⟨s, fy, ty, m, k, wk, d, sec, base, save, t⟩) hok]
    obtain ⟨_, h1, h2, h3, _⟩ := Ru.ok_of (r := ⟨s, fy, ty, m, k, wk, d, sec, base, save, t⟩) hok
    have FT := Lib.hid (fun W => ryft_any fy W (by show -9223372036854775808 ≤ fy; simp only [] at h1; omega) (by simp only [] at h1 h2 h3; omega))
    have TT := Lib.hid (fun W => rytt_any fy ty W (by simp only [] at h1 h2 h3; omega) (by simp only [] at h1 h2 h3; omega))
    have DT := Lib.hid (fun W => rdtext_any k wk d W)
    have KT := Lib.hid (fun W => ktext_any sec base W)
    have AT := Lib.hid (fun W => ratext_any save W)
    have MT := Lib.hid (fun W => mtextr_any m W)
    clear hok h1 h2 h3
    unfold Ru.R.ts
    simp only []
    generalize (Yr.ft fy).1 = x1 at *
    generalize (Yr.ft fy).2 = y1 at *
    generalize (Yr.tt fy ty).1 = x2 at *
    generalize (Yr.tt fy ty).2 = y2 at *
    generalize Wd.t3 Wd.months (m - 1) = x4 at *
    generalize (Ds.tx k wk d).1 = x5 at *
    generalize (Ds.tx k wk d).2 = y5 at *
    generalize (Cl.tx sec base).1 = x6 at *
    generalize (Cl.tx sec base).2 = y6 at *
    generalize (Am.tx save).1 = x7 at *
    generalize (Am.tx save).2 = y7 at *
    generalize (⟨(Fo.ltx t.data.toList).1.toArray⟩ : ByteArray) = x8 at *
    generalize (Fo.ltx t.data.toList).2 = y8 at *
    go_enter Tryz.func11, Tryz.ntmps11
    go_wp2_with fail
    refine (RB.out _).mono ?_; rintro e w1 ⟨rfl, b1⟩
    have d1 : Below w.heap.size w w1 := below_step (by repeat (first | exact Below.refl _ _ | refine below_drewN ?_ _ | refine Below.drew ?_ | refine Below.setCell ?_ (by first | (simp; done) | (simp; omega) | omega) _ | refine Below.alloc ?_ (by first | (simp; done) | (simp; omega) | omega) _)) b1
    have B1 := Lib.hid d1
    have X1 : Bk11 w1 (w.heap.size) (.string s) (.int .i64 fy) (.int .i64 ty) (.int .i64 m) (.int .i64 k) (.int .i64 wk) (.int .i64 d) (.int .i64 sec) (.int .i64 base) (.int .i64 save) (.string t) := Bk11.of b1 (by simp <;> omega) (by intro j; simp [go_sem]) (by simp [go_sem]) (by simp [go_sem]) (by simp [go_sem]) (by simp [go_sem]) (by simp [go_sem]) (by simp [go_sem]) (by simp [go_sem]) (by simp [go_sem]) (by simp [go_sem]) (by simp [go_sem]) (by simp [go_sem])
    clear b1 d1
    have cX_b := X1.hb
    have cX_f := X1.fz
    have cX_0 := X1.k0
    have cX_1 := X1.k1
    have cX_2 := X1.k2
    have cX_3 := X1.k3
    have cX_4 := X1.k4
    have cX_5 := X1.k5
    have cX_6 := X1.k6
    have cX_7 := X1.k7
    have cX_8 := X1.k8
    have cX_9 := X1.k9
    have cX_10 := X1.k10
    go_wp2_with fail
    clear cX_b cX_f cX_0 cX_1 cX_2 cX_3 cX_4 cX_5 cX_6 cX_7 cX_8 cX_9 cX_10
    refine (FT.out _).mono ?_; rintro e w2 ⟨rfl, b2⟩
    have d2 : Below w1.heap.size w1 w2 := below_step (by repeat (first | exact Below.refl _ _ | refine below_drewN ?_ _ | refine Below.drew ?_ | refine Below.setCell ?_ (by first | (simp; done) | (simp; omega) | omega) _ | refine Below.alloc ?_ (by first | (simp; done) | (simp; omega) | omega) _)) b2
    have B2 := Lib.hid (below_step B1.out d2)
    have X2 := X1.keep d2
    clear X1 b2 d2 B1
    have cX_b := X2.hb
    have cX_f := X2.fz
    have cX_0 := X2.k0
    have cX_1 := X2.k1
    have cX_2 := X2.k2
    have cX_3 := X2.k3
    have cX_4 := X2.k4
    have cX_5 := X2.k5
    have cX_6 := X2.k6
    have cX_7 := X2.k7
    have cX_8 := X2.k8
    have cX_9 := X2.k9
    have cX_10 := X2.k10
    go_wp2_with fail
    clear cX_b cX_f cX_0 cX_1 cX_2 cX_3 cX_4 cX_5 cX_6 cX_7 cX_8 cX_9 cX_10
    refine (TT.out _).mono ?_; rintro e w3 ⟨rfl, b3⟩
    have d3 : Below w2.heap.size w2 w3 := below_step (by repeat (first | exact Below.refl _ _ | refine below_drewN ?_ _ | refine Below.drew ?_ | refine Below.setCell ?_ (by first | (simp; done) | (simp; omega) | omega) _ | refine Below.alloc ?_ (by first | (simp; done) | (simp; omega) | omega) _)) b3
    have B3 := Lib.hid (below_step B2.out d3)
    have X3 := X2.keep d3
    clear X2 b3 d3 B2
    have cX_b := X3.hb
    have cX_f := X3.fz
    have cX_0 := X3.k0
    have cX_1 := X3.k1
    have cX_2 := X3.k2
    have cX_3 := X3.k3
    have cX_4 := X3.k4
    have cX_5 := X3.k5
    have cX_6 := X3.k6
    have cX_7 := X3.k7
    have cX_8 := X3.k8
    have cX_9 := X3.k9
    have cX_10 := X3.k10
    go_wp2_with fail
    clear cX_b cX_f cX_0 cX_1 cX_2 cX_3 cX_4 cX_5 cX_6 cX_7 cX_8 cX_9 cX_10
    refine (DT.out _).mono ?_; rintro e w4 ⟨rfl, b4⟩
    have d4 : Below w3.heap.size w3 w4 := below_step (by repeat (first | exact Below.refl _ _ | refine below_drewN ?_ _ | refine Below.drew ?_ | refine Below.setCell ?_ (by first | (simp; done) | (simp; omega) | omega) _ | refine Below.alloc ?_ (by first | (simp; done) | (simp; omega) | omega) _)) b4
    have B4 := Lib.hid (below_step B3.out d4)
    have X4 := X3.keep d4
    clear X3 b4 d4 B3
    have cX_b := X4.hb
    have cX_f := X4.fz
    have cX_0 := X4.k0
    have cX_1 := X4.k1
    have cX_2 := X4.k2
    have cX_3 := X4.k3
    have cX_4 := X4.k4
    have cX_5 := X4.k5
    have cX_6 := X4.k6
    have cX_7 := X4.k7
    have cX_8 := X4.k8
    have cX_9 := X4.k9
    have cX_10 := X4.k10
    go_wp2_with fail
    clear cX_b cX_f cX_0 cX_1 cX_2 cX_3 cX_4 cX_5 cX_6 cX_7 cX_8 cX_9 cX_10
    refine (KT.out _).mono ?_; rintro e w5 ⟨rfl, b5⟩
    have d5 : Below w4.heap.size w4 w5 := below_step (by repeat (first | exact Below.refl _ _ | refine below_drewN ?_ _ | refine Below.drew ?_ | refine Below.setCell ?_ (by first | (simp; done) | (simp; omega) | omega) _ | refine Below.alloc ?_ (by first | (simp; done) | (simp; omega) | omega) _)) b5
    have B5 := Lib.hid (below_step B4.out d5)
    have X5 := X4.keep d5
    clear X4 b5 d5 B4
    have cX_b := X5.hb
    have cX_f := X5.fz
    have cX_0 := X5.k0
    have cX_1 := X5.k1
    have cX_2 := X5.k2
    have cX_3 := X5.k3
    have cX_4 := X5.k4
    have cX_5 := X5.k5
    have cX_6 := X5.k6
    have cX_7 := X5.k7
    have cX_8 := X5.k8
    have cX_9 := X5.k9
    have cX_10 := X5.k10
    go_wp2_with fail
    clear cX_b cX_f cX_0 cX_1 cX_2 cX_3 cX_4 cX_5 cX_6 cX_7 cX_8 cX_9 cX_10
    refine (AT.out _).mono ?_; rintro e w6 ⟨rfl, b6⟩
    have d6 : Below w5.heap.size w5 w6 := below_step (by repeat (first | exact Below.refl _ _ | refine below_drewN ?_ _ | refine Below.drew ?_ | refine Below.setCell ?_ (by first | (simp; done) | (simp; omega) | omega) _ | refine Below.alloc ?_ (by first | (simp; done) | (simp; omega) | omega) _)) b6
    have B6 := Lib.hid (below_step B5.out d6)
    have X6 := X5.keep d6
    clear X5 b6 d6 B5
    have cX_b := X6.hb
    have cX_f := X6.fz
    have cX_0 := X6.k0
    have cX_1 := X6.k1
    have cX_2 := X6.k2
    have cX_3 := X6.k3
    have cX_4 := X6.k4
    have cX_5 := X6.k5
    have cX_6 := X6.k6
    have cX_7 := X6.k7
    have cX_8 := X6.k8
    have cX_9 := X6.k9
    have cX_10 := X6.k10
    go_wp2_with fail
    clear cX_b cX_f cX_0 cX_1 cX_2 cX_3 cX_4 cX_5 cX_6 cX_7 cX_8 cX_9 cX_10
    refine (LT.out _).mono ?_; rintro e v1 ⟨rfl, rfl⟩
    have cX_b := X6.hb
    have cX_f := X6.fz
    have cX_0 := X6.k0
    have cX_1 := X6.k1
    have cX_2 := X6.k2
    have cX_3 := X6.k3
    have cX_4 := X6.k4
    have cX_5 := X6.k5
    have cX_6 := X6.k6
    have cX_7 := X6.k7
    have cX_8 := X6.k8
    have cX_9 := X6.k9
    have cX_10 := X6.k10
    go_wp2_with fail
    clear cX_b cX_f cX_0 cX_1 cX_2 cX_3 cX_4 cX_5 cX_6 cX_7 cX_8 cX_9 cX_10
    have qX_0 := cell_regrown X6.k0
    have qX_1 := cell_regrown X6.k1
    have qX_2 := cell_regrown X6.k2
    have qX_3 := cell_regrown X6.k3
    have qX_4 := cell_regrown X6.k4
    have qX_5 := cell_regrown X6.k5
    have qX_6 := cell_regrown X6.k6
    have qX_7 := cell_regrown X6.k7
    have qX_8 := cell_regrown X6.k8
    have qX_9 := cell_regrown X6.k9
    have qX_10 := cell_regrown X6.k10
    refine wp_region_qbt (w := w6) 11 (by kernel_rfl) (by kernel_rfl) (by repeat (first | exact Below.refl _ _ | refine below_drewN ?_ _ | refine Below.drew ?_ | refine Below.setCell ?_ (by first | (simp; done) | (simp; omega) | omega) _ | refine Below.alloc ?_ (by first | (simp; done) | (simp; omega) | omega) _)) ?_
    simp only [List.take_succ_cons, List.take_zero, List.drop_succ_cons, List.drop_zero]
    repeat (any_goals (first | go_big_quiet_step (first | (go_at_call 52; exact Calls.regrown_of (MT.out _))) | quiet_step (first | (go_at_call 52; exact Calls.regrown_of (MT.out _)))))
    refine wpQuiet_nil ?_
    intro w7 b7
    clear qX_0 qX_1 qX_2 qX_3 qX_4 qX_5 qX_6 qX_7 qX_8 qX_9 qX_10
    have d7 : Below w6.heap.size w6 w7 := below_step (by repeat (first | exact Below.refl _ _ | refine below_drewN ?_ _ | refine Below.drew ?_ | refine Below.setCell ?_ (by first | (simp; done) | (simp; omega) | omega) _ | refine Below.alloc ?_ (by first | (simp; done) | (simp; omega) | omega) _)) b7
    have B7 := Lib.hid (below_step B6.out d7)
    have X7 := X6.keep d7
    clear X6 b7 d7 B6
    go_wp2_with fail
    go_ret2
    exact ⟨_, [s, x1, x2, ⟨#[45]⟩, x4, x5, x6, x7, x8], StS.nine _ _ _ _, rfl, rfl, below_step B7.out ((Below.refl _ _).alloc (Nat.le_refl _) _)⟩
end Go.Proofs.YtedbohfcbfegjaaGreatDoor

/- The walk of RuleTells: whatever fields, rule and name, the law answers true; nothing old turns. -/
set_option linter.unusedVariables false
set_option linter.unusedSimpArgs false
namespace Go.Proofs.YtedbohfcbfegjaaGreatDoor
open Go.RowKit Go.Sort

theorem ansf_list {P : List (List UInt8) × Int} {LL : List ByteArray} (h : LL.map (·.data.toList) = P.1) {w : World} {e : Ending} {w' : World} (a : AnsF P w e w') : ∃ v, StS w' v LL ∧ e = .returned (.tuple #[v, .int .i64 P.2]) ∧ Below w.heap.size w w' := by
  obtain ⟨v, l, S, hl, he, hb⟩ := a
  exact ⟨v, by rw [← fd_bytes (hl.trans h.symm)]; exact S, he, hb⟩
theorem Ru.fl_list (r : Ru.R) : ∃ LL : List ByteArray, LL.length ≤ 100 ∧ LL.map (·.data.toList) = (Ru.fl r).1 := by
  cases h : r.ok
  · exact ⟨[], by simp, by rw [Ru.fl_no h]; rfl⟩
  · exact ⟨r.ts, by unfold Ru.R.ts; simp, by rw [Ru.fl_yes h]⟩
theorem Ru.R.v_ex (r : Ru.R) : ∃ (z0 : ByteArray) (z1 z2 z3 z4 z5 z6 z7 z8 z9 : Int) (z10 : ByteArray), r.v = .agg #[.string z0, .int .i64 z1, .int .i64 z2, .int .i64 z3, .int .i64 z4, .int .i64 z5, .int .i64 z6, .int .i64 z7, .int .i64 z8, .int .i64 z9, .string z10] := ⟨_, _, _, _, _, _, _, _, _, _, _, rfl⟩
set_option maxHeartbeats 8000000 in
set_option maxRecDepth 100000 in
theorem rutells_walk (v : Value) (l : List ByteArray) (s : ByteArray) (fy ty m k wk d sec base save : Int) (t nm : ByteArray) (w : World) (tp : TypeId) (pp : Value) (y : Int) (L : Ru.Lv w tp pp y) (S : StS w v l) (hz : ∀ y ∈ l, y.size ≤ maxLen) (hs : s.size ≤ maxLen) (ht : t.size ≤ maxLen) (hn : nm.size ≤ maxLen) :
    Calls Tryz.prog 3 #[v, .agg #[.string s, .int .i64 fy, .int .i64 ty, .int .i64 m, .int .i64 k, .int .i64 wk, .int .i64 d, .int .i64 sec, .int .i64 base, .int .i64 save, .string t], .string nm] w fun e w' => e = .returned (.bool true) ∧ Below w.heap.size w w' := by
  have LV := Lib.hid (fun W (h : Ru.Lv W tp pp y) => lives21 W tp pp y h)
  have HL := Lib.hid (fun W (b : Below w.heap.size w W) => L.on b)
  have HS := Lib.hid S
  have HZ := Lib.hid hz
  obtain ⟨A, c, rfl, -⟩ := S
  clear L hz
  have bs : s.size ≤ 9223372036854775807 := by unfold maxLen at hs; omega
  have bt : t.size ≤ 9223372036854775807 := by unfold maxLen at ht; omega
  have bn : nm.size ≤ 9223372036854775807 := by unfold maxLen at hn; omega
  clear hs ht hn
  obtain ⟨N, hN⟩ : ∃ N, N = l.length := ⟨_, rfl⟩
  rw [← hN]
  have HS : Hid (StS w (.slice A N c) l) := by rw [hN]; exact HS
  have HN := Lib.hid hN; clear hN
  by_cases h1 : 40 < (N : Int)
  · clear bs bt bn
    go_enter Tryz.func3, Tryz.ntmps3
    go_wp2_with fail
    refine (LV.out _ (HL.out _ (by repeat (first | exact Below.refl _ _ | refine below_drewN ?_ _ | refine Below.drew ?_ | refine Below.setCell ?_ (by first | (simp; done) | (simp; omega) | omega) _ | refine Below.alloc ?_ (by first | (simp; done) | (simp; omega) | omega) _)))).mono ?_; rintro e w1 ⟨rfl, b1⟩
    have d1 : Below w.heap.size w w1 := below_step (by repeat (first | exact Below.refl _ _ | refine below_drewN ?_ _ | refine Below.drew ?_ | refine Below.setCell ?_ (by first | (simp; done) | (simp; omega) | omega) _ | refine Below.alloc ?_ (by first | (simp; done) | (simp; omega) | omega) _)) b1
    have B1 := Lib.hid d1
    have X1 : Bk11 w1 (w.heap.size) (.string s) (.int .i64 fy) (.int .i64 ty) (.int .i64 m) (.int .i64 k) (.int .i64 wk) (.int .i64 d) (.int .i64 sec) (.int .i64 base) (.int .i64 save) (.string t) := Bk11.of b1 (by simp <;> omega) (by intro j; simp [go_sem]) (by simp [go_sem]) (by simp [go_sem]) (by simp [go_sem]) (by simp [go_sem]) (by simp [go_sem]) (by simp [go_sem]) (by simp [go_sem]) (by simp [go_sem]) (by simp [go_sem]) (by simp [go_sem]) (by simp [go_sem])
    clear b1 d1
    have cX_b := X1.hb
    have cX_f := X1.fz
    have cX_0 := X1.k0
    have cX_1 := X1.k1
    have cX_2 := X1.k2
    have cX_3 := X1.k3
    have cX_4 := X1.k4
    have cX_5 := X1.k5
    have cX_6 := X1.k6
    have cX_7 := X1.k7
    have cX_8 := X1.k8
    have cX_9 := X1.k9
    have cX_10 := X1.k10
    go_wp2_with fail
    clear cX_b cX_f cX_0 cX_1 cX_2 cX_3 cX_4 cX_5 cX_6 cX_7 cX_8 cX_9 cX_10
    go_ret
    exact ⟨rfl, (by have hz := B1.out.size; repeat (first | exact B1.out | refine below_drewN ?_ _ | refine Below.drew ?_ | refine Below.setCell ?_ (by first | omega | (simp; done) | (simp; omega)) _ | refine Below.alloc ?_ (by first | omega | (simp; done) | (simp; omega)) _))⟩
  by_cases h2 : 500 < (nm.size : Int)
  · clear bs bt
    go_enter Tryz.func3, Tryz.ntmps3
    go_wp2_with fail
    refine (LV.out _ (HL.out _ (by repeat (first | exact Below.refl _ _ | refine below_drewN ?_ _ | refine Below.drew ?_ | refine Below.setCell ?_ (by first | (simp; done) | (simp; omega) | omega) _ | refine Below.alloc ?_ (by first | (simp; done) | (simp; omega) | omega) _)))).mono ?_; rintro e w1 ⟨rfl, b1⟩
    have d1 : Below w.heap.size w w1 := below_step (by repeat (first | exact Below.refl _ _ | refine below_drewN ?_ _ | refine Below.drew ?_ | refine Below.setCell ?_ (by first | (simp; done) | (simp; omega) | omega) _ | refine Below.alloc ?_ (by first | (simp; done) | (simp; omega) | omega) _)) b1
    have B1 := Lib.hid d1
    have X1 : Bk11 w1 (w.heap.size) (.string s) (.int .i64 fy) (.int .i64 ty) (.int .i64 m) (.int .i64 k) (.int .i64 wk) (.int .i64 d) (.int .i64 sec) (.int .i64 base) (.int .i64 save) (.string t) := Bk11.of b1 (by simp <;> omega) (by intro j; simp [go_sem]) (by simp [go_sem]) (by simp [go_sem]) (by simp [go_sem]) (by simp [go_sem]) (by simp [go_sem]) (by simp [go_sem]) (by simp [go_sem]) (by simp [go_sem]) (by simp [go_sem]) (by simp [go_sem]) (by simp [go_sem])
    clear b1 d1
    have cX_b := X1.hb
    have cX_f := X1.fz
    have cX_0 := X1.k0
    have cX_1 := X1.k1
    have cX_2 := X1.k2
    have cX_3 := X1.k3
    have cX_4 := X1.k4
    have cX_5 := X1.k5
    have cX_6 := X1.k6
    have cX_7 := X1.k7
    have cX_8 := X1.k8
    have cX_9 := X1.k9
    have cX_10 := X1.k10
    go_wp2_with fail
    clear cX_b cX_f cX_0 cX_1 cX_2 cX_3 cX_4 cX_5 cX_6 cX_7 cX_8 cX_9 cX_10
    go_ret
    exact ⟨rfl, (by have hz := B1.out.size; repeat (first | exact B1.out | refine below_drewN ?_ _ | refine Below.drew ?_ | refine Below.setCell ?_ (by first | omega | (simp; done) | (simp; omega)) _ | refine Below.alloc ?_ (by first | omega | (simp; done) | (simp; omega)) _))⟩
  by_cases h3 : 500 < (s.size : Int)
  · clear bt
    go_enter Tryz.func3, Tryz.ntmps3
    go_wp2_with fail
    refine (LV.out _ (HL.out _ (by repeat (first | exact Below.refl _ _ | refine below_drewN ?_ _ | refine Below.drew ?_ | refine Below.setCell ?_ (by first | (simp; done) | (simp; omega) | omega) _ | refine Below.alloc ?_ (by first | (simp; done) | (simp; omega) | omega) _)))).mono ?_; rintro e w1 ⟨rfl, b1⟩
    have d1 : Below w.heap.size w w1 := below_step (by repeat (first | exact Below.refl _ _ | refine below_drewN ?_ _ | refine Below.drew ?_ | refine Below.setCell ?_ (by first | (simp; done) | (simp; omega) | omega) _ | refine Below.alloc ?_ (by first | (simp; done) | (simp; omega) | omega) _)) b1
    have B1 := Lib.hid d1
    have X1 : Bk11 w1 (w.heap.size) (.string s) (.int .i64 fy) (.int .i64 ty) (.int .i64 m) (.int .i64 k) (.int .i64 wk) (.int .i64 d) (.int .i64 sec) (.int .i64 base) (.int .i64 save) (.string t) := Bk11.of b1 (by simp <;> omega) (by intro j; simp [go_sem]) (by simp [go_sem]) (by simp [go_sem]) (by simp [go_sem]) (by simp [go_sem]) (by simp [go_sem]) (by simp [go_sem]) (by simp [go_sem]) (by simp [go_sem]) (by simp [go_sem]) (by simp [go_sem]) (by simp [go_sem])
    clear b1 d1
    have cX_b := X1.hb
    have cX_f := X1.fz
    have cX_0 := X1.k0
    have cX_1 := X1.k1
    have cX_2 := X1.k2
    have cX_3 := X1.k3
    have cX_4 := X1.k4
    have cX_5 := X1.k5
    have cX_6 := X1.k6
    have cX_7 := X1.k7
    have cX_8 := X1.k8
    have cX_9 := X1.k9
    have cX_10 := X1.k10
    go_wp2_with fail
    clear cX_b cX_f cX_0 cX_1 cX_2 cX_3 cX_4 cX_5 cX_6 cX_7 cX_8 cX_9 cX_10
    go_ret
    exact ⟨rfl, (by have hz := B1.out.size; repeat (first | exact B1.out | refine below_drewN ?_ _ | refine Below.drew ?_ | refine Below.setCell ?_ (by first | omega | (simp; done) | (simp; omega)) _ | refine Below.alloc ?_ (by first | omega | (simp; done) | (simp; omega)) _))⟩
  by_cases h4 : 500 < (t.size : Int)
  · skip
    go_enter Tryz.func3, Tryz.ntmps3
    go_wp2_with fail
    refine (LV.out _ (HL.out _ (by repeat (first | exact Below.refl _ _ | refine below_drewN ?_ _ | refine Below.drew ?_ | refine Below.setCell ?_ (by first | (simp; done) | (simp; omega) | omega) _ | refine Below.alloc ?_ (by first | (simp; done) | (simp; omega) | omega) _)))).mono ?_; rintro e w1 ⟨rfl, b1⟩
    have d1 : Below w.heap.size w w1 := below_step (by repeat (first | exact Below.refl _ _ | refine below_drewN ?_ _ | refine Below.drew ?_ | refine Below.setCell ?_ (by first | (simp; done) | (simp; omega) | omega) _ | refine Below.alloc ?_ (by first | (simp; done) | (simp; omega) | omega) _)) b1
    have B1 := Lib.hid d1
    have X1 : Bk11 w1 (w.heap.size) (.string s) (.int .i64 fy) (.int .i64 ty) (.int .i64 m) (.int .i64 k) (.int .i64 wk) (.int .i64 d) (.int .i64 sec) (.int .i64 base) (.int .i64 save) (.string t) := Bk11.of b1 (by simp <;> omega) (by intro j; simp [go_sem]) (by simp [go_sem]) (by simp [go_sem]) (by simp [go_sem]) (by simp [go_sem]) (by simp [go_sem]) (by simp [go_sem]) (by simp [go_sem]) (by simp [go_sem]) (by simp [go_sem]) (by simp [go_sem]) (by simp [go_sem])
    clear b1 d1
    have cX_b := X1.hb
    have cX_f := X1.fz
    have cX_0 := X1.k0
    have cX_1 := X1.k1
    have cX_2 := X1.k2
    have cX_3 := X1.k3
    have cX_4 := X1.k4
    have cX_5 := X1.k5
    have cX_6 := X1.k6
    have cX_7 := X1.k7
    have cX_8 := X1.k8
    have cX_9 := X1.k9
    have cX_10 := X1.k10
    go_wp2_with fail
    clear cX_b cX_f cX_0 cX_1 cX_2 cX_3 cX_4 cX_5 cX_6 cX_7 cX_8 cX_9 cX_10
    go_ret
    exact ⟨rfl, (by have hz := B1.out.size; repeat (first | exact B1.out | refine below_drewN ?_ _ | refine Below.drew ?_ | refine Below.setCell ?_ (by first | omega | (simp; done) | (simp; omega)) _ | refine Below.alloc ?_ (by first | omega | (simp; done) | (simp; omega)) _))⟩
  have c1 : N ≤ 40 := by omega
  have c2 : nm.size ≤ 500 := by omega
  have c3 : s.size ≤ 500 := by omega
  have c4 : t.size ≤ 500 := by omega
  have NM := Lib.hid (fun W => rname_any nm W (by unfold maxLen; omega))
  have RN := Lib.hid (fun W => rrname_any nm W (by unfold maxLen; omega))
  have RB := Lib.hid (fun W => ruright_any s t fy ty m k wk d sec base save W (by unfold maxLen; omega) (by omega))
  have RR := Lib.hid (fun W => rrright_any s t fy ty m k wk d sec base save W (by unfold maxLen; omega) (by omega))
  obtain ⟨LL, hll, hLL⟩ := Ru.fl_list ⟨s, fy, ty, m, k, wk, d, sec, base, save, t⟩
  have PF := Lib.hid (fun W (h : Ru.Lv W tp pp y) => (rufields_any s t fy ty m k wk d sec base save W (by unfold maxLen; omega) (by omega) tp pp y h).mono fun _ _ a => ansf_list hLL a)
  have RF := Lib.hid (fun W => (rrufields_any s t fy ty m k wk d sec base save W (by unfold maxLen; omega) (by omega)).mono fun _ _ a => ansf_list hLL a)
  generalize (Ru.fl ⟨s, fy, ty, m, k, wk, d, sec, base, save, t⟩).2 = qf at PF RF
  generalize Ru.rB s t fy ty m k wk d sec base save = rb at RB RR
  generalize Lk.nm nm.data.toList = qn at NM RN
  clear hLL
  go_enter Tryz.func3, Tryz.ntmps3
  go_wp2_with fail
  refine wp_named ?_; intro w1 hw1
  have d1 : Below w.heap.size w w1 := by rw [hw1]; exact (by repeat (first | exact Below.refl _ _ | refine below_drewN ?_ _ | refine Below.drew ?_ | refine Below.setCell ?_ (by first | (simp; done) | (simp; omega) | omega) _ | refine Below.alloc ?_ (by first | (simp; done) | (simp; omega) | omega) _))
  have B1 := Lib.hid d1
  have X1 : Bk11 w1 (w.heap.size) (.string s) (.int .i64 fy) (.int .i64 ty) (.int .i64 m) (.int .i64 k) (.int .i64 wk) (.int .i64 d) (.int .i64 sec) (.int .i64 base) (.int .i64 save) (.string t) := by rw [hw1]; exact ⟨by simp <;> omega, by intro j; simp [go_sem], by simp [go_sem], by simp [go_sem], by simp [go_sem], by simp [go_sem], by simp [go_sem], by simp [go_sem], by simp [go_sem], by simp [go_sem], by simp [go_sem], by simp [go_sem], by simp [go_sem]⟩
  clear d1 hw1
  clear bs bt bn h1 h2 h3 h4 c2 c3 c4
  go_loopw [40] (fun i wr => ∃ j : Nat, j ≤ N ∧ i = .int .i64 j ∧ Hid (∀ y ∈ l.take j, y.size ≤ 300) ∧ wr = w1) (fun i _ => N - (intOf i).toNat)
  case atStart => exact ⟨0, Nat.zero_le _, rfl, Lib.hid (fun y hy => by simp at hy), rfl⟩
  case round =>
    obtain ⟨j, hj, rfl, hsm, hw⟩ := hrel
    obtain rfl : w1 = wr := hw.symm
    by_cases hlt : j < N
    · have hjl : j < l.length := by have := HN.out; omega
      obtain ⟨a, ha, g⟩ := (HS.out.on B1.out).get j hjl
      have hxz : l[j].size ≤ 9223372036854775807 := by have := HZ.out l[j] (List.getElem_mem hjl); unfold maxLen at this; omega
      have hsm2 : l[j].size ≤ 300 → Hid (∀ y ∈ l.take (j + 1), y.size ≤ 300) := fun h => Lib.hid (fun y hy => by
        rw [List.take_succ_eq_append_getElem hjl] at hy
        rcases List.mem_append.1 hy with hy | hy
        · exact hsm.out y hy
        · rw [List.mem_singleton.1 hy]; exact h)
      generalize l[j] = x at g hxz hsm2
      subst ha
      by_cases hx : 300 < (x.size : Int)
      · clear hsm2
        go_wp2_with fail
        refine (LV.out _ (HL.out _ B1.out)).mono ?_; rintro e u1 ⟨rfl, b1⟩
        have C1 := Lib.hid (below_step B1.out b1)
        clear b1
        go_wp2_with fail
        go_ret
        exact ⟨rfl, C1.out⟩
      · have HX := hsm2 (by omega)
        clear hsm2
        go_wp2_with fail
        go_roundw
        case rel => exact ⟨j + 1, by omega, by go_num, HX, by first | rfl | trivial⟩
        case measure => simp [intOf]; omega
    · have hall : ∀ y ∈ l, y.size ≤ 600 := fun y hy => by
        have := hsm.out y (by rw [List.take_of_length_le (by have := HN.out; omega)]; exact hy)
        omega
      obtain ⟨z0, z1, z2, z3, z4, z5, z6, z7, z8, z9, z10, hv⟩ := Ru.R.v_ex (Ru.rd l).1
      have PR := Lib.hid (fun W S h => ruRead_any (.slice A N c) l W S (by have := HN.out; omega) hall tp pp y h)
      have QR := Lib.hid (fun W S => rruRead_any (.slice A N c) l W S (by have := HN.out; omega) hall)
      rw [hv] at PR QR
      generalize (Ru.rd l).2 = qr at PR QR
      clear hv hall hsm
      have cX_b := X1.hb
      have cX_f := X1.fz
      have cX_0 := X1.k0
      have cX_1 := X1.k1
      have cX_2 := X1.k2
      have cX_3 := X1.k3
      have cX_4 := X1.k4
      have cX_5 := X1.k5
      have cX_6 := X1.k6
      have cX_7 := X1.k7
      have cX_8 := X1.k8
      have cX_9 := X1.k9
      have cX_10 := X1.k10
      go_wp2_with fail
      clear cX_b cX_f cX_0 cX_1 cX_2 cX_3 cX_4 cX_5 cX_6 cX_7 cX_8 cX_9 cX_10
      refine (PR.out _ (HS.out.on (below_step B1.out (by repeat (first | exact Below.refl _ _ | refine below_drewN ?_ _ | refine Below.drew ?_ | refine Below.setCell ?_ (by first | (simp; done) | (simp; omega) | omega) _ | refine Below.alloc ?_ (by first | (simp; done) | (simp; omega) | omega) _)))) (HL.out _ (below_step B1.out (by repeat (first | exact Below.refl _ _ | refine below_drewN ?_ _ | refine Below.drew ?_ | refine Below.setCell ?_ (by first | (simp; done) | (simp; omega) | omega) _ | refine Below.alloc ?_ (by first | (simp; done) | (simp; omega) | omega) _))))).mono ?_; rintro e w2 ⟨rfl, b2⟩
      have d2 : Below w1.heap.size w1 w2 := below_step (by repeat (first | exact Below.refl _ _ | refine below_drewN ?_ _ | refine Below.drew ?_ | refine Below.setCell ?_ (by first | (simp; done) | (simp; omega) | omega) _ | refine Below.alloc ?_ (by first | (simp; done) | (simp; omega) | omega) _)) b2
      have B2 := Lib.hid (below_step B1.out d2)
      have X2 := X1.keep d2
      clear X1 b2 d2 B1
      have cX_b := X2.hb
      have cX_f := X2.fz
      have cX_0 := X2.k0
      have cX_1 := X2.k1
      have cX_2 := X2.k2
      have cX_3 := X2.k3
      have cX_4 := X2.k4
      have cX_5 := X2.k5
      have cX_6 := X2.k6
      have cX_7 := X2.k7
      have cX_8 := X2.k8
      have cX_9 := X2.k9
      have cX_10 := X2.k10
      go_wp2_with fail
      clear cX_b cX_f cX_0 cX_1 cX_2 cX_3 cX_4 cX_5 cX_6 cX_7 cX_8 cX_9 cX_10
      refine (QR.out _ (HS.out.on (below_step B2.out (by repeat (first | exact Below.refl _ _ | refine below_drewN ?_ _ | refine Below.drew ?_ | refine Below.setCell ?_ (by first | (simp; done) | (simp; omega) | omega) _ | refine Below.alloc ?_ (by first | (simp; done) | (simp; omega) | omega) _))))).mono ?_; rintro e w3 ⟨rfl, b3⟩
      have d3 : Below w2.heap.size w2 w3 := below_step (by repeat (first | exact Below.refl _ _ | refine below_drewN ?_ _ | refine Below.drew ?_ | refine Below.setCell ?_ (by first | (simp; done) | (simp; omega) | omega) _ | refine Below.alloc ?_ (by first | (simp; done) | (simp; omega) | omega) _)) b3
      have B3 := Lib.hid (below_step B2.out d3)
      have X3 := X2.keep d3
      have aPA := B2.out.size
      have nPAX := Nat.ne_of_lt X2.hb
      have oPAX := Nat.ne_of_gt X2.hb
      have PA3 : Bk11 w3 (w2.heap.size) (.string z0) (.int .i64 z1) (.int .i64 z2) (.int .i64 z3) (.int .i64 z4) (.int .i64 z5) (.int .i64 z6) (.int .i64 z7) (.int .i64 z8) (.int .i64 z9) (.string z10) := Bk11.of b3 (by simp <;> omega) (by intro j; simp [go_sem]) (by simp [go_sem]) (by simp [go_sem]) (by simp [go_sem]) (by simp [go_sem]) (by simp [go_sem]) (by simp [go_sem]) (by simp [go_sem]) (by simp [go_sem]) (by simp [go_sem]) (by simp [go_sem]) (by simp [go_sem])
      clear X2 b3 d3 B2
      have cX_b := X3.hb
      have cX_f := X3.fz
      have cX_0 := X3.k0
      have cX_1 := X3.k1
      have cX_2 := X3.k2
      have cX_3 := X3.k3
      have cX_4 := X3.k4
      have cX_5 := X3.k5
      have cX_6 := X3.k6
      have cX_7 := X3.k7
      have cX_8 := X3.k8
      have cX_9 := X3.k9
      have cX_10 := X3.k10
      have cPA_b := PA3.hb
      have cPA_f := PA3.fz
      have cPA_0 := PA3.k0
      have cPA_1 := PA3.k1
      have cPA_2 := PA3.k2
      have cPA_3 := PA3.k3
      have cPA_4 := PA3.k4
      have cPA_5 := PA3.k5
      have cPA_6 := PA3.k6
      have cPA_7 := PA3.k7
      have cPA_8 := PA3.k8
      have cPA_9 := PA3.k9
      have cPA_10 := PA3.k10
      go_wp2_with fail
      clear cX_b cX_f cX_0 cX_1 cX_2 cX_3 cX_4 cX_5 cX_6 cX_7 cX_8 cX_9 cX_10 cPA_b cPA_f cPA_0 cPA_1 cPA_2 cPA_3 cPA_4 cPA_5 cPA_6 cPA_7 cPA_8 cPA_9 cPA_10
      refine (PF.out _ (HL.out _ (below_step B3.out (by repeat (first | exact Below.refl _ _ | refine below_drewN ?_ _ | refine Below.drew ?_ | refine Below.setCell ?_ (by first | (simp; done) | (simp; omega) | omega) _ | refine Below.alloc ?_ (by first | (simp; done) | (simp; omega) | omega) _))))).mono ?_; rintro e w4 ⟨_, sV, rfl, b4⟩
      have SV_4 := Lib.hid sV; obtain ⟨AV, cV, rfl, -⟩ := sV
      have d4 : Below w3.heap.size w3 w4 := below_step (by repeat (first | exact Below.refl _ _ | refine below_drewN ?_ _ | refine Below.drew ?_ | refine Below.setCell ?_ (by first | (simp; done) | (simp; omega) | omega) _ | refine Below.alloc ?_ (by first | (simp; done) | (simp; omega) | omega) _)) b4
      have B4 := Lib.hid (below_step B3.out d4)
      have X4 := X3.keep d4
      have PA4 := PA3.keep d4
      have aPB := B3.out.size
      have nPBX := Nat.ne_of_lt X3.hb
      have oPBX := Nat.ne_of_gt X3.hb
      have nPBPA := Nat.ne_of_lt PA3.hb
      have oPBPA := Nat.ne_of_gt PA3.hb
      have PB4 : Bk11 w4 (w3.heap.size) (.string z0) (.int .i64 z1) (.int .i64 z2) (.int .i64 z3) (.int .i64 z4) (.int .i64 z5) (.int .i64 z6) (.int .i64 z7) (.int .i64 z8) (.int .i64 z9) (.string z10) := Bk11.of b4 (by simp <;> omega) (by intro j; simp [go_sem]) (by simp [go_sem]) (by simp [go_sem]) (by simp [go_sem]) (by simp [go_sem]) (by simp [go_sem]) (by simp [go_sem]) (by simp [go_sem]) (by simp [go_sem]) (by simp [go_sem]) (by simp [go_sem]) (by simp [go_sem])
      clear X3 PA3 b4 d4 B3
      have cX_b := X4.hb
      have cX_f := X4.fz
      have cX_0 := X4.k0
      have cX_1 := X4.k1
      have cX_2 := X4.k2
      have cX_3 := X4.k3
      have cX_4 := X4.k4
      have cX_5 := X4.k5
      have cX_6 := X4.k6
      have cX_7 := X4.k7
      have cX_8 := X4.k8
      have cX_9 := X4.k9
      have cX_10 := X4.k10
      have cPA_b := PA4.hb
      have cPA_f := PA4.fz
      have cPA_0 := PA4.k0
      have cPA_1 := PA4.k1
      have cPA_2 := PA4.k2
      have cPA_3 := PA4.k3
      have cPA_4 := PA4.k4
      have cPA_5 := PA4.k5
      have cPA_6 := PA4.k6
      have cPA_7 := PA4.k7
      have cPA_8 := PA4.k8
      have cPA_9 := PA4.k9
      have cPA_10 := PA4.k10
      have cPB_b := PB4.hb
      have cPB_f := PB4.fz
      have cPB_0 := PB4.k0
      have cPB_1 := PB4.k1
      have cPB_2 := PB4.k2
      have cPB_3 := PB4.k3
      have cPB_4 := PB4.k4
      have cPB_5 := PB4.k5
      have cPB_6 := PB4.k6
      have cPB_7 := PB4.k7
      have cPB_8 := PB4.k8
      have cPB_9 := PB4.k9
      have cPB_10 := PB4.k10
      go_wp2_with fail
      clear cX_b cX_f cX_0 cX_1 cX_2 cX_3 cX_4 cX_5 cX_6 cX_7 cX_8 cX_9 cX_10 cPA_b cPA_f cPA_0 cPA_1 cPA_2 cPA_3 cPA_4 cPA_5 cPA_6 cPA_7 cPA_8 cPA_9 cPA_10 cPB_b cPB_f cPB_0 cPB_1 cPB_2 cPB_3 cPB_4 cPB_5 cPB_6 cPB_7 cPB_8 cPB_9 cPB_10
      refine (RF.out _).mono ?_; rintro e w5 ⟨_, sU, rfl, b5⟩
      have SU_5 := Lib.hid sU; obtain ⟨AU, cU, rfl, -⟩ := sU
      have d5 : Below w4.heap.size w4 w5 := below_step (by repeat (first | exact Below.refl _ _ | refine below_drewN ?_ _ | refine Below.drew ?_ | refine Below.setCell ?_ (by first | (simp; done) | (simp; omega) | omega) _ | refine Below.alloc ?_ (by first | (simp; done) | (simp; omega) | omega) _)) b5
      have B5 := Lib.hid (below_step B4.out d5)
      have SV_5 := Lib.hid (SV_4.out.on d5)
      have X5 := X4.keep d5
      have PA5 := PA4.keep d5
      have PB5 := PB4.keep d5
      clear SV_4 X4 PA4 PB4 b5 d5 B4
      have cX_b := X5.hb
      have cX_f := X5.fz
      have cX_0 := X5.k0
      have cX_1 := X5.k1
      have cX_2 := X5.k2
      have cX_3 := X5.k3
      have cX_4 := X5.k4
      have cX_5 := X5.k5
      have cX_6 := X5.k6
      have cX_7 := X5.k7
      have cX_8 := X5.k8
      have cX_9 := X5.k9
      have cX_10 := X5.k10
      have cPA_b := PA5.hb
      have cPA_f := PA5.fz
      have cPA_0 := PA5.k0
      have cPA_1 := PA5.k1
      have cPA_2 := PA5.k2
      have cPA_3 := PA5.k3
      have cPA_4 := PA5.k4
      have cPA_5 := PA5.k5
      have cPA_6 := PA5.k6
      have cPA_7 := PA5.k7
      have cPA_8 := PA5.k8
      have cPA_9 := PA5.k9
      have cPA_10 := PA5.k10
      have cPB_b := PB5.hb
      have cPB_f := PB5.fz
      have cPB_0 := PB5.k0
      have cPB_1 := PB5.k1
      have cPB_2 := PB5.k2
      have cPB_3 := PB5.k3
      have cPB_4 := PB5.k4
      have cPB_5 := PB5.k5
      have cPB_6 := PB5.k6
      have cPB_7 := PB5.k7
      have cPB_8 := PB5.k8
      have cPB_9 := PB5.k9
      have cPB_10 := PB5.k10
      go_wp2_with fail
      clear cX_b cX_f cX_0 cX_1 cX_2 cX_3 cX_4 cX_5 cX_6 cX_7 cX_8 cX_9 cX_10 cPA_b cPA_f cPA_0 cPA_1 cPA_2 cPA_3 cPA_4 cPA_5 cPA_6 cPA_7 cPA_8 cPA_9 cPA_10 cPB_b cPB_f cPB_0 cPB_1 cPB_2 cPB_3 cPB_4 cPB_5 cPB_6 cPB_7 cPB_8 cPB_9 cPB_10
      have qX_0 := cell_regrown X5.k0
      have qX_1 := cell_regrown X5.k1
      have qX_2 := cell_regrown X5.k2
      have qX_3 := cell_regrown X5.k3
      have qX_4 := cell_regrown X5.k4
      have qX_5 := cell_regrown X5.k5
      have qX_6 := cell_regrown X5.k6
      have qX_7 := cell_regrown X5.k7
      have qX_8 := cell_regrown X5.k8
      have qX_9 := cell_regrown X5.k9
      have qX_10 := cell_regrown X5.k10
      have qPA_0 := cell_regrown PA5.k0
      have qPA_1 := cell_regrown PA5.k1
      have qPA_2 := cell_regrown PA5.k2
      have qPA_3 := cell_regrown PA5.k3
      have qPA_4 := cell_regrown PA5.k4
      have qPA_5 := cell_regrown PA5.k5
      have qPA_6 := cell_regrown PA5.k6
      have qPA_7 := cell_regrown PA5.k7
      have qPA_8 := cell_regrown PA5.k8
      have qPA_9 := cell_regrown PA5.k9
      have qPA_10 := cell_regrown PA5.k10
      have qPB_0 := cell_regrown PB5.k0
      have qPB_1 := cell_regrown PB5.k1
      have qPB_2 := cell_regrown PB5.k2
      have qPB_3 := cell_regrown PB5.k3
      have qPB_4 := cell_regrown PB5.k4
      have qPB_5 := cell_regrown PB5.k5
      have qPB_6 := cell_regrown PB5.k6
      have qPB_7 := cell_regrown PB5.k7
      have qPB_8 := cell_regrown PB5.k8
      have qPB_9 := cell_regrown PB5.k9
      have qPB_10 := cell_regrown PB5.k10
      refine wp_region_qb (w := w5) (by kernel_rfl) (by kernel_rfl) (by repeat (first | exact Below.refl _ _ | refine below_drewN ?_ _ | refine Below.drew ?_ | refine Below.setCell ?_ (by first | (simp; done) | (simp; omega) | omega) _ | refine Below.alloc ?_ (by first | (simp; done) | (simp; omega) | omega) _)) ?_
      repeat (any_goals (first | go_big_quiet_step (first | (go_at_call 12; exact Calls.regrown_of (same13_yes _ _ LL _ (by omega) (SV_5.out.on (below_regrown _ _ _)) (SU_5.out.on (below_regrown _ _ _)))) | (go_at_call 13; exact Calls.regrown_of (RB.out _)) | (go_at_call 14; exact Calls.regrown_of (RR.out _)) | (go_at_call 15; exact Calls.regrown_of ((NM.out _).mono fun _ _ h => ⟨h.1, h.2 ▸ Below.refl _ _⟩)) | (go_at_call 16; exact Calls.regrown_of ((RN.out _).mono fun _ _ h => ⟨h.1, h.2 ▸ Below.refl _ _⟩)) | (go_at_call 7; exact Calls.regrown_of (LV.out _ (HL.out _ (below_step B5.out (below_regrown _ _ _)))))) | quiet_step (first | (go_at_call 12; exact Calls.regrown_of (same13_yes _ _ LL _ (by omega) (SV_5.out.on (below_regrown _ _ _)) (SU_5.out.on (below_regrown _ _ _)))) | (go_at_call 13; exact Calls.regrown_of (RB.out _)) | (go_at_call 14; exact Calls.regrown_of (RR.out _)) | (go_at_call 15; exact Calls.regrown_of ((NM.out _).mono fun _ _ h => ⟨h.1, h.2 ▸ Below.refl _ _⟩)) | (go_at_call 16; exact Calls.regrown_of ((RN.out _).mono fun _ _ h => ⟨h.1, h.2 ▸ Below.refl _ _⟩)) | (go_at_call 7; exact Calls.regrown_of (LV.out _ (HL.out _ (below_step B5.out (below_regrown _ _ _))))))))
      refine wpQuiet_nil ?_
      intro w6 hq
      have b6 : Below w5.heap.size w5 w6 := by obtain ⟨p, hq⟩ := hq; rw [hq]; exact below_regrown _ _ _
      clear hq qX_0 qX_1 qX_2 qX_3 qX_4 qX_5 qX_6 qX_7 qX_8 qX_9 qX_10 qPA_0 qPA_1 qPA_2 qPA_3 qPA_4 qPA_5 qPA_6 qPA_7 qPA_8 qPA_9 qPA_10 qPB_0 qPB_1 qPB_2 qPB_3 qPB_4 qPB_5 qPB_6 qPB_7 qPB_8 qPB_9 qPB_10
      have d6 : Below w5.heap.size w5 w6 := below_step (by repeat (first | exact Below.refl _ _ | refine below_drewN ?_ _ | refine Below.drew ?_ | refine Below.setCell ?_ (by first | (simp; done) | (simp; omega) | omega) _ | refine Below.alloc ?_ (by first | (simp; done) | (simp; omega) | omega) _)) b6
      have B6 := Lib.hid (below_step B5.out d6)
      have SV_6 := Lib.hid (SV_5.out.on d6)
      have SU_6 := Lib.hid (SU_5.out.on d6)
      have X6 := X5.keep d6
      have PA6 := PA5.keep d6
      have PB6 := PB5.keep d6
      clear SV_5 SU_5 X5 PA5 PB5 b6 d6 B5
      have cX_b := X6.hb
      have cX_f := X6.fz
      have cX_0 := X6.k0
      have cX_1 := X6.k1
      have cX_2 := X6.k2
      have cX_3 := X6.k3
      have cX_4 := X6.k4
      have cX_5 := X6.k5
      have cX_6 := X6.k6
      have cX_7 := X6.k7
      have cX_8 := X6.k8
      have cX_9 := X6.k9
      have cX_10 := X6.k10
      have cPA_b := PA6.hb
      have cPA_f := PA6.fz
      have cPA_0 := PA6.k0
      have cPA_1 := PA6.k1
      have cPA_2 := PA6.k2
      have cPA_3 := PA6.k3
      have cPA_4 := PA6.k4
      have cPA_5 := PA6.k5
      have cPA_6 := PA6.k6
      have cPA_7 := PA6.k7
      have cPA_8 := PA6.k8
      have cPA_9 := PA6.k9
      have cPA_10 := PA6.k10
      have cPB_b := PB6.hb
      have cPB_f := PB6.fz
      have cPB_0 := PB6.k0
      have cPB_1 := PB6.k1
      have cPB_2 := PB6.k2
      have cPB_3 := PB6.k3
      have cPB_4 := PB6.k4
      have cPB_5 := PB6.k5
      have cPB_6 := PB6.k6
      have cPB_7 := PB6.k7
      have cPB_8 := PB6.k8
      have cPB_9 := PB6.k9
      have cPB_10 := PB6.k10
      go_wp2_with fail
      clear cX_b cX_f cX_0 cX_1 cX_2 cX_3 cX_4 cX_5 cX_6 cX_7 cX_8 cX_9 cX_10 cPA_b cPA_f cPA_0 cPA_1 cPA_2 cPA_3 cPA_4 cPA_5 cPA_6 cPA_7 cPA_8 cPA_9 cPA_10 cPB_b cPB_f cPB_0 cPB_1 cPB_2 cPB_3 cPB_4 cPB_5 cPB_6 cPB_7 cPB_8 cPB_9 cPB_10
      go_ret
      exact ⟨rfl, (by have hz := B6.out.size; repeat (first | exact B6.out | refine below_drewN ?_ _ | refine Below.drew ?_ | refine Below.setCell ?_ (by first | omega | (simp; done) | (simp; omega)) _ | refine Below.alloc ?_ (by first | omega | (simp; done) | (simp; omega)) _))⟩
end Go.Proofs.YtedbohfcbfegjaaGreatDoor
