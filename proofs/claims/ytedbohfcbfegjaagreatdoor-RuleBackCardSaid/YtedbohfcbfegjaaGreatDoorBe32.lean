/- Joined: RuV. -/
import Derived.Test.YtedbohfcbfegjaaGreatDoorBe29
import Derived.Test.YtedbohfcbfegjaaGreatDoorBe31
/- The walk of RuleBack: whatever fields and rule, the law answers true; nothing old turns. -/
set_option linter.unusedVariables false
set_option linter.unusedSimpArgs false
namespace Go.Proofs.YtedbohfcbfegjaaGreatDoor
open Go.RowKit Go.Sort

theorem ansf_list2 {P : List (List UInt8) × Int} {LL : List ByteArray} (h : LL.map (·.data.toList) = P.1) {w : World} {e : Ending} {w' : World} (a : AnsF P w e w') : ∃ v, StS w' v LL ∧ e = .returned (.tuple #[v, .int .i64 P.2]) ∧ Below w.heap.size w w' := by
  obtain ⟨v, l, S, hl, he, hb⟩ := a
  exact ⟨v, by rw [← fd_bytes (hl.trans h.symm)]; exact S, he, hb⟩
namespace Ru
theorem ts_nine (r : R) : ∃ x0 x1 x2 x3 x4 x5 x6 x7 x8, r.ts = [x0, x1, x2, x3, x4, x5, x6, x7, x8] := ⟨_, _, _, _, _, _, _, _, _, rfl⟩
end Ru
/-- The fields of a rule that may be, and what is read of them. -/
theorem fields_yes (r : Ru.R) (h : r.ok = true) (hs : r.s.size ≤ 500) (ht : r.t.size ≤ 500) (tp : TypeId) (pp : Value) (y : Int) :
    ∃ x0 x1 x2 x3 x4 x5 x6 x7 x8, (∀ W, Ru.Lv W tp pp y → Calls Tryz.prog 10 #[r.v] W fun e w' => ∃ v, StS w' v [x0, x1, x2, x3, x4, x5, x6, x7, x8] ∧ e = .returned (.tuple #[v, .int .i64 0]) ∧ Below W.heap.size W w') ∧
      (∀ v W, StS W v [x0, x1, x2, x3, x4, x5, x6, x7, x8] → Ru.Lv W tp pp y → Calls Tryz.prog 8 #[v] W fun e w' => e = .returned (.tuple #[r.v, .int .i64 0]) ∧ Below W.heap.size W w') := by
  obtain ⟨x0, x1, x2, x3, x4, x5, x6, x7, x8, hx⟩ := Ru.ts_nine r
  refine ⟨x0, x1, x2, x3, x4, x5, x6, x7, x8, fun W L => ?_, fun v W S L => ?_⟩
  · refine (rufields_any r.s r.t r.fy r.ty r.m r.k r.wk r.d r.sec r.base r.save W (by unfold maxLen; omega) (by omega) tp pp y L).mono fun e w' a => ?_
    have hf : Ru.fl ⟨r.s, r.fy, r.ty, r.m, r.k, r.wk, r.d, r.sec, r.base, r.save, r.t⟩ = (r.ts.map (·.data.toList), 0) := Ru.fl_yes (r := r) h
    rw [hf] at a
    rw [← hx]
    exact ansf_list2 rfl a
  · have hz := Ru.ts_size h hs ht
    rw [hx] at hz
    have := ruRead_any v _ W S (by simp) hz tp pp y L
    rw [← hx, Ru.back h] at this
    exact this
theorem fields_no (r : Ru.R) (h : r.ok = false) (hs : r.s.size ≤ 500) (ht : r.t.size ≤ 500) (tp : TypeId) (pp : Value) (y : Int) (W : World) (L : Ru.Lv W tp pp y) :
    Calls Tryz.prog 10 #[r.v] W fun e w' => ∃ v, StS w' v [] ∧ e = .returned (.tuple #[v, .int .i64 4]) ∧ Below W.heap.size W w' := by
  refine (rufields_any r.s r.t r.fy r.ty r.m r.k r.wk r.d r.sec r.base r.save W (by unfold maxLen; omega) (by omega) tp pp y L).mono fun e w' a => ?_
  have hf : Ru.fl ⟨r.s, r.fy, r.ty, r.m, r.k, r.wk, r.d, r.sec, r.base, r.save, r.t⟩ = ([], 4) := Ru.fl_no (r := r) h
  rw [hf] at a
  exact ansf_list2 rfl a
set_option maxHeartbeats 8000000 in
set_option maxRecDepth 100000 in
theorem ruback_walk (v : Value) (l : List ByteArray) (s : ByteArray) (fy ty m k wk d sec base save : Int) (t : ByteArray) (w : World) (tp : TypeId) (pp : Value) (y : Int) (L : Ru.Lv w tp pp y) (S : StS w v l) (hz : ∀ y ∈ l, y.size ≤ maxLen) (hs : s.size ≤ maxLen) (ht : t.size ≤ maxLen) :
    Calls Tryz.prog 4 #[v, .agg #[.string s, .int .i64 fy, .int .i64 ty, .int .i64 m, .int .i64 k, .int .i64 wk, .int .i64 d, .int .i64 sec, .int .i64 base, .int .i64 save, .string t]] w fun e w' => e = .returned (.bool true) ∧ Below w.heap.size w w' := by
  have LV := Lib.hid (fun W (h : Ru.Lv W tp pp y) => lives21 W tp pp y h)
  have HL := Lib.hid (fun W (b : Below w.heap.size w W) => L.on b)
  have HS := Lib.hid S
  have HZ := Lib.hid hz
  obtain ⟨A, c, rfl, -⟩ := S
  clear L hz
  have bs : s.size ≤ 9223372036854775807 := by unfold maxLen at hs; omega
  have bt : t.size ≤ 9223372036854775807 := by unfold maxLen at ht; omega
  clear hs ht
  obtain ⟨N, hN⟩ : ∃ N, N = l.length := ⟨_, rfl⟩
  rw [← hN]
  have HS : Hid (StS w (.slice A N c) l) := by rw [hN]; exact HS
  have HN := Lib.hid hN; clear hN
  by_cases h1 : 40 < (N : Int)
  · clear bs bt
    go_enter Tryz.func4, Tryz.ntmps4
    go_wp2_with fail
    refine (LV.out _ (HL.out _ (by repeat (first | exact Below.refl _ _ | refine below_drewN ?_ _ | refine Below.drew ?_ | refine Below.setCell ?_ (by first | (simp; done) | (simp; omega) | omega) _ | refine Below.alloc ?_ (by first | (simp; done) | (simp; omega) | omega) _)))).mono ?_; rintro e w1 ⟨rfl, b1⟩
    have d1 : Below w.heap.size w w1 := below_step (by repeat (first | exact Below.refl _ _ | refine below_drewN ?_ _ | refine Below.drew ?_ | refine Below.setCell ?_ (by first | (simp; done) | (simp; omega) | omega) _ | refine Below.alloc ?_ (by first | (simp; done) | (simp; omega) | omega) _)) b1
    have B1 := Lib.hid d1
    have X1 : Bk11 w1 (w.heap.size) (.string s) (.int .i64 fy) (.int .i64 ty) (.int .i64 m) (.int .i64 k) (.int .i64 wk) (.int .i64 d) (.int .i64 sec) (.int .i64 base) (.int .i64 save) (.string t) := Bk11.of b1 (by simp <;> omega) (by intro j; simp [go_sem]) (by simp [go_sem]) (by simp [go_sem]) (by simp [go_sem]) (by simp [go_sem]) (by simp [go_sem]) (by simp [go_sem]) (by simp [go_sem]) (by simp [go_sem]) (by simp [go_sem]) (by simp [go_sem]) (by simp [go_sem])
    clear b1 d1
    have cX_b := X1.hb
    have cX_f := X1.fz
    have cX_0 := X1.k0
    have cX_1 := X1.k1
    have cX_2 := X1.k2
    have cX_3 := X1.k3
    have cX_4 := X1.k4
    have cX_5 := X1.k5
    have cX_6 := X1.k6
    have cX_7 := X1.k7
    have cX_8 := X1.k8
    have cX_9 := X1.k9
    have cX_10 := X1.k10
    go_wp2_with fail
    clear cX_b cX_f cX_0 cX_1 cX_2 cX_3 cX_4 cX_5 cX_6 cX_7 cX_8 cX_9 cX_10
    go_ret
    exact ⟨rfl, (by have hz := B1.out.size; repeat (first | exact B1.out | refine below_drewN ?_ _ | refine Below.drew ?_ | refine Below.setCell ?_ (by first | omega | (simp; done) | (simp; omega)) _ | refine Below.alloc ?_ (by first | omega | (simp; done) | (simp; omega)) _))⟩
  by_cases h3 : 500 < (s.size : Int)
  · clear bt
    go_enter Tryz.func4, Tryz.ntmps4
    go_wp2_with fail
    refine (LV.out _ (HL.out _ (by repeat (first | exact Below.refl _ _ | refine below_drewN ?_ _ | refine Below.drew ?_ | refine Below.setCell ?_ (by first | (simp; done) | (simp; omega) | omega) _ | refine Below.alloc ?_ (by first | (simp; done) | (simp; omega) | omega) _)))).mono ?_; rintro e w1 ⟨rfl, b1⟩
    have d1 : Below w.heap.size w w1 := below_step (by repeat (first | exact Below.refl _ _ | refine below_drewN ?_ _ | refine Below.drew ?_ | refine Below.setCell ?_ (by first | (simp; done) | (simp; omega) | omega) _ | refine Below.alloc ?_ (by first | (simp; done) | (simp; omega) | omega) _)) b1
    have B1 := Lib.hid d1
    have X1 : Bk11 w1 (w.heap.size) (.string s) (.int .i64 fy) (.int .i64 ty) (.int .i64 m) (.int .i64 k) (.int .i64 wk) (.int .i64 d) (.int .i64 sec) (.int .i64 base) (.int .i64 save) (.string t) := Bk11.of b1 (by simp <;> omega) (by intro j; simp [go_sem]) (by simp [go_sem]) (by simp [go_sem]) (by simp [go_sem]) (by simp [go_sem]) (by simp [go_sem]) (by simp [go_sem]) (by simp [go_sem]) (by simp [go_sem]) (by simp [go_sem]) (by simp [go_sem]) (by simp [go_sem])
    clear b1 d1
    have cX_b := X1.hb
    have cX_f := X1.fz
    have cX_0 := X1.k0
    have cX_1 := X1.k1
    have cX_2 := X1.k2
    have cX_3 := X1.k3
    have cX_4 := X1.k4
    have cX_5 := X1.k5
    have cX_6 := X1.k6
    have cX_7 := X1.k7
    have cX_8 := X1.k8
    have cX_9 := X1.k9
    have cX_10 := X1.k10
    go_wp2_with fail
    clear cX_b cX_f cX_0 cX_1 cX_2 cX_3 cX_4 cX_5 cX_6 cX_7 cX_8 cX_9 cX_10
    go_ret
    exact ⟨rfl, (by have hz := B1.out.size; repeat (first | exact B1.out | refine below_drewN ?_ _ | refine Below.drew ?_ | refine Below.setCell ?_ (by first | omega | (simp; done) | (simp; omega)) _ | refine Below.alloc ?_ (by first | omega | (simp; done) | (simp; omega)) _))⟩
  by_cases h4 : 500 < (t.size : Int)
  · skip
    go_enter Tryz.func4, Tryz.ntmps4
    go_wp2_with fail
    refine (LV.out _ (HL.out _ (by repeat (first | exact Below.refl _ _ | refine below_drewN ?_ _ | refine Below.drew ?_ | refine Below.setCell ?_ (by first | (simp; done) | (simp; omega) | omega) _ | refine Below.alloc ?_ (by first | (simp; done) | (simp; omega) | omega) _)))).mono ?_; rintro e w1 ⟨rfl, b1⟩
    have d1 : Below w.heap.size w w1 := below_step (by repeat (first | exact Below.refl _ _ | refine below_drewN ?_ _ | refine Below.drew ?_ | refine Below.setCell ?_ (by first | (simp; done) | (simp; omega) | omega) _ | refine Below.alloc ?_ (by first | (simp; done) | (simp; omega) | omega) _)) b1
    have B1 := Lib.hid d1
    have X1 : Bk11 w1 (w.heap.size) (.string s) (.int .i64 fy) (.int .i64 ty) (.int .i64 m) (.int .i64 k) (.int .i64 wk) (.int .i64 d) (.int .i64 sec) (.int .i64 base) (.int .i64 save) (.string t) := Bk11.of b1 (by simp <;> omega) (by intro j; simp [go_sem]) (by simp [go_sem]) (by simp [go_sem]) (by simp [go_sem]) (by simp [go_sem]) (by simp [go_sem]) (by simp [go_sem]) (by simp [go_sem]) (by simp [go_sem]) (by simp [go_sem]) (by simp [go_sem]) (by simp [go_sem])
    clear b1 d1
    have cX_b := X1.hb
    have cX_f := X1.fz
    have cX_0 := X1.k0
    have cX_1 := X1.k1
    have cX_2 := X1.k2
    have cX_3 := X1.k3
    have cX_4 := X1.k4
    have cX_5 := X1.k5
    have cX_6 := X1.k6
    have cX_7 := X1.k7
    have cX_8 := X1.k8
    have cX_9 := X1.k9
    have cX_10 := X1.k10
    go_wp2_with fail
    clear cX_b cX_f cX_0 cX_1 cX_2 cX_3 cX_4 cX_5 cX_6 cX_7 cX_8 cX_9 cX_10
    go_ret
    exact ⟨rfl, (by have hz := B1.out.size; repeat (first | exact B1.out | refine below_drewN ?_ _ | refine Below.drew ?_ | refine Below.setCell ?_ (by first | omega | (simp; done) | (simp; omega)) _ | refine Below.alloc ?_ (by first | omega | (simp; done) | (simp; omega)) _))⟩
  have c1 : N ≤ 40 := by omega
  have c3 : s.size ≤ 500 := by omega
  have c4 : t.size ≤ 500 := by omega
  have RB := Lib.hid (fun W => ruright_any s t fy ty m k wk d sec base save W (by unfold maxLen; omega) (by omega))
  have FY := Lib.hid (fun h => fields_yes (⟨s, fy, ty, m, k, wk, d, sec, base, save, t⟩ : Ru.R) h c3 c4 tp pp y)
  have FNO := Lib.hid (fun h => fields_no (⟨s, fy, ty, m, k, wk, d, sec, base, save, t⟩ : Ru.R) h c3 c4 tp pp y)
  go_enter Tryz.func4, Tryz.ntmps4
  go_wp2_with fail
  refine (LV.out _ (HL.out _ (by repeat (first | exact Below.refl _ _ | refine below_drewN ?_ _ | refine Below.drew ?_ | refine Below.setCell ?_ (by first | (simp; done) | (simp; omega) | omega) _ | refine Below.alloc ?_ (by first | (simp; done) | (simp; omega) | omega) _)))).mono ?_; rintro e w1 ⟨rfl, b1⟩
  have d1 : Below w.heap.size w w1 := below_step (by repeat (first | exact Below.refl _ _ | refine below_drewN ?_ _ | refine Below.drew ?_ | refine Below.setCell ?_ (by first | (simp; done) | (simp; omega) | omega) _ | refine Below.alloc ?_ (by first | (simp; done) | (simp; omega) | omega) _)) b1
  have B1 := Lib.hid d1
  have X1 : Bk11 w1 (w.heap.size) (.string s) (.int .i64 fy) (.int .i64 ty) (.int .i64 m) (.int .i64 k) (.int .i64 wk) (.int .i64 d) (.int .i64 sec) (.int .i64 base) (.int .i64 save) (.string t) := Bk11.of b1 (by simp <;> omega) (by intro j; simp [go_sem]) (by simp [go_sem]) (by simp [go_sem]) (by simp [go_sem]) (by simp [go_sem]) (by simp [go_sem]) (by simp [go_sem]) (by simp [go_sem]) (by simp [go_sem]) (by simp [go_sem]) (by simp [go_sem]) (by simp [go_sem])
  clear b1 d1
  have cX_b := X1.hb
  have cX_f := X1.fz
  have cX_0 := X1.k0
  have cX_1 := X1.k1
  have cX_2 := X1.k2
  have cX_3 := X1.k3
  have cX_4 := X1.k4
  have cX_5 := X1.k5
  have cX_6 := X1.k6
  have cX_7 := X1.k7
  have cX_8 := X1.k8
  have cX_9 := X1.k9
  have cX_10 := X1.k10
  go_wp2_with fail
  clear cX_b cX_f cX_0 cX_1 cX_2 cX_3 cX_4 cX_5 cX_6 cX_7 cX_8 cX_9 cX_10
  clear bs bt h1 h3 h4 c3 c4
  go_loopw [36] (fun i wr => ∃ j : Nat, j ≤ N ∧ i = .int .i64 j ∧ Hid (∀ y ∈ l.take j, y.size ≤ 300) ∧ wr = w1) (fun i _ => N - (intOf i).toNat)
  case atStart => exact ⟨0, Nat.zero_le _, rfl, Lib.hid (fun y hy => by simp at hy), rfl⟩
  case round =>
    obtain ⟨j, hj, rfl, hsm, hw⟩ := hrel
    obtain rfl : w1 = wr := hw.symm
    by_cases hlt : j < N
    · have hjl : j < l.length := by have := HN.out; omega
      obtain ⟨a, ha, g⟩ := (HS.out.on B1.out).get j hjl
      have hxz : l[j].size ≤ 9223372036854775807 := by have := HZ.out l[j] (List.getElem_mem hjl); unfold maxLen at this; omega
      have hsm2 : l[j].size ≤ 300 → Hid (∀ y ∈ l.take (j + 1), y.size ≤ 300) := fun h => Lib.hid (fun y hy => by
        rw [List.take_succ_eq_append_getElem hjl] at hy
        rcases List.mem_append.1 hy with hy | hy
        · exact hsm.out y hy
        · rw [List.mem_singleton.1 hy]; exact h)
      generalize l[j] = x at g hxz hsm2
      subst ha
      by_cases hx : 300 < (x.size : Int)
      · clear hsm2
        go_wp2_with fail
        go_ret
        exact ⟨rfl, B1.out⟩
      · have HX := hsm2 (by omega)
        clear hsm2
        go_wp2_with fail
        go_roundw
        case rel => exact ⟨j + 1, by omega, by go_num, HX, by first | rfl | trivial⟩
        case measure => simp [intOf]; omega
    · have hall0 : ∀ y ∈ l, y.size ≤ 300 := fun y hy => hsm.out y (by rw [List.take_of_length_le (by have := HN.out; omega)]; exact hy)
      have hall : ∀ y ∈ l, y.size ≤ 600 := fun y hy => Nat.le_trans (hall0 y hy) (by decide)
      have PR := Lib.hid (fun W S h => ruRead_any (.slice A N c) l W S (by have := HN.out; omega) hall tp pp y h)
      have hno := Ru.rd_no l
      have hyes := @Ru.right l
      generalize Ru.rd l = rr at PR hno hyes
      obtain ⟨⟨z0, z1, z2, z3, z4, z5, z6, z7, z8, z9, z10⟩, qr⟩ := rr
      unfold Ru.R.v at PR
      simp only [] at PR hno hyes
      clear hall hsm
      cases hrb : Ru.rB s t fy ty m k wk d sec base save
      · have PF := Lib.hid (FNO.out hrb)
        unfold Ru.R.v at PF
        rw [hrb] at RB
        clear hrb FY FNO
        by_cases hq : qr = 0
        · obtain ⟨k1, k2, k3⟩ := hyes hq
          obtain ⟨x0, x1, x2, x3, x4, x5, x6, x7, x8, PG, PZ⟩ := fields_yes (⟨z0, z1, z2, z3, z4, z5, z6, z7, z8, z9, z10⟩ : Ru.R) k1 (by show z0.size ≤ 500; have : z0.size ≤ 300 := k3 hall0; omega) (by show z10.size ≤ 500; have : z10.size ≤ 6 := k2; omega) tp pp y
          have RY := Lib.hid (fun W => ruright_any z0 z10 z1 z2 z3 z4 z5 z6 z7 z8 z9 W (by have : z0.size ≤ 300 := k3 hall0; unfold maxLen; omega) (by have : z10.size ≤ 6 := k2; omega))
          rw [show Ru.rB z0 z10 z1 z2 z3 z4 z5 z6 z7 z8 z9 = true from k1] at RY
          have PG := Lib.hid PG; have PZ := Lib.hid PZ
          unfold Ru.R.v at PG PZ
          clear hno hyes k1 k2 k3 hall0
          subst hq
          have cX_b := X1.hb
          have cX_f := X1.fz
          have cX_0 := X1.k0
          have cX_1 := X1.k1
          have cX_2 := X1.k2
          have cX_3 := X1.k3
          have cX_4 := X1.k4
          have cX_5 := X1.k5
          have cX_6 := X1.k6
          have cX_7 := X1.k7
          have cX_8 := X1.k8
          have cX_9 := X1.k9
          have cX_10 := X1.k10
          go_wp2_with fail
          clear cX_b cX_f cX_0 cX_1 cX_2 cX_3 cX_4 cX_5 cX_6 cX_7 cX_8 cX_9 cX_10
          refine (PF.out _ (HL.out _ (below_step B1.out (by repeat (first | exact Below.refl _ _ | refine below_drewN ?_ _ | refine Below.drew ?_ | refine Below.setCell ?_ (by first | (simp; done) | (simp; omega) | omega) _ | refine Below.alloc ?_ (by first | (simp; done) | (simp; omega) | omega) _))))).mono ?_; rintro e w2 ⟨_, sV, rfl, b2⟩
          have SV_2 := Lib.hid sV; obtain ⟨AV, cV, rfl, -⟩ := sV
          have d2 : Below w1.heap.size w1 w2 := below_step (by repeat (first | exact Below.refl _ _ | refine below_drewN ?_ _ | refine Below.drew ?_ | refine Below.setCell ?_ (by first | (simp; done) | (simp; omega) | omega) _ | refine Below.alloc ?_ (by first | (simp; done) | (simp; omega) | omega) _)) b2
          have B2 := Lib.hid (below_step B1.out d2)
          have X2 := X1.keep d2
          clear X1 b2 d2 B1
          clear SV_2
          have cX_b := X2.hb
          have cX_f := X2.fz
          have cX_0 := X2.k0
          have cX_1 := X2.k1
          have cX_2 := X2.k2
          have cX_3 := X2.k3
          have cX_4 := X2.k4
          have cX_5 := X2.k5
          have cX_6 := X2.k6
          have cX_7 := X2.k7
          have cX_8 := X2.k8
          have cX_9 := X2.k9
          have cX_10 := X2.k10
          go_wp2_with fail
          clear cX_b cX_f cX_0 cX_1 cX_2 cX_3 cX_4 cX_5 cX_6 cX_7 cX_8 cX_9 cX_10
          refine (RB.out _).mono ?_; rintro e w3 ⟨rfl, b3⟩
          have d3 : Below w2.heap.size w2 w3 := below_step (by repeat (first | exact Below.refl _ _ | refine below_drewN ?_ _ | refine Below.drew ?_ | refine Below.setCell ?_ (by first | (simp; done) | (simp; omega) | omega) _ | refine Below.alloc ?_ (by first | (simp; done) | (simp; omega) | omega) _)) b3
          have B3 := Lib.hid (below_step B2.out d3)
          have X3 := X2.keep d3
          clear X2 b3 d3 B2
          have cX_b := X3.hb
          have cX_f := X3.fz
          have cX_0 := X3.k0
          have cX_1 := X3.k1
          have cX_2 := X3.k2
          have cX_3 := X3.k3
          have cX_4 := X3.k4
          have cX_5 := X3.k5
          have cX_6 := X3.k6
          have cX_7 := X3.k7
          have cX_8 := X3.k8
          have cX_9 := X3.k9
          have cX_10 := X3.k10
          go_wp2_with fail
          clear cX_b cX_f cX_0 cX_1 cX_2 cX_3 cX_4 cX_5 cX_6 cX_7 cX_8 cX_9 cX_10
          refine (PR.out _ (HS.out.on (below_step B3.out (by repeat (first | exact Below.refl _ _ | refine below_drewN ?_ _ | refine Below.drew ?_ | refine Below.setCell ?_ (by first | (simp; done) | (simp; omega) | omega) _ | refine Below.alloc ?_ (by first | (simp; done) | (simp; omega) | omega) _)))) (HL.out _ (below_step B3.out (by repeat (first | exact Below.refl _ _ | refine below_drewN ?_ _ | refine Below.drew ?_ | refine Below.setCell ?_ (by first | (simp; done) | (simp; omega) | omega) _ | refine Below.alloc ?_ (by first | (simp; done) | (simp; omega) | omega) _))))).mono ?_; rintro e w4 ⟨rfl, b4⟩
          have d4 : Below w3.heap.size w3 w4 := below_step (by repeat (first | exact Below.refl _ _ | refine below_drewN ?_ _ | refine Below.drew ?_ | refine Below.setCell ?_ (by first | (simp; done) | (simp; omega) | omega) _ | refine Below.alloc ?_ (by first | (simp; done) | (simp; omega) | omega) _)) b4
          have B4 := Lib.hid (below_step B3.out d4)
          have X4 := X3.keep d4
          clear X3 b4 d4 B3
          have cX_b := X4.hb
          have cX_f := X4.fz
          have cX_0 := X4.k0
          have cX_1 := X4.k1
          have cX_2 := X4.k2
          have cX_3 := X4.k3
          have cX_4 := X4.k4
          have cX_5 := X4.k5
          have cX_6 := X4.k6
          have cX_7 := X4.k7
          have cX_8 := X4.k8
          have cX_9 := X4.k9
          have cX_10 := X4.k10
          go_wp2_with fail
          clear cX_b cX_f cX_0 cX_1 cX_2 cX_3 cX_4 cX_5 cX_6 cX_7 cX_8 cX_9 cX_10
          refine (PG.out _ (HL.out _ (below_step B4.out (by repeat (first | exact Below.refl _ _ | refine below_drewN ?_ _ | refine Below.drew ?_ | refine Below.setCell ?_ (by first | (simp; done) | (simp; omega) | omega) _ | refine Below.alloc ?_ (by first | (simp; done) | (simp; omega) | omega) _))))).mono ?_; rintro e w5 ⟨_, sG, rfl, b5⟩
          have SG_5 := Lib.hid sG; obtain ⟨AG, cG, rfl, -⟩ := sG
          have d5 : Below w4.heap.size w4 w5 := below_step (by repeat (first | exact Below.refl _ _ | refine below_drewN ?_ _ | refine Below.drew ?_ | refine Below.setCell ?_ (by first | (simp; done) | (simp; omega) | omega) _ | refine Below.alloc ?_ (by first | (simp; done) | (simp; omega) | omega) _)) b5
          have B5 := Lib.hid (below_step B4.out d5)
          have X5 := X4.keep d5
          have aY := B4.out.size
          have Y5 : Bk11 w5 (w4.heap.size) (.string z0) (.int .i64 z1) (.int .i64 z2) (.int .i64 z3) (.int .i64 z4) (.int .i64 z5) (.int .i64 z6) (.int .i64 z7) (.int .i64 z8) (.int .i64 z9) (.string z10) := Bk11.of b5 (by simp <;> omega) (by intro j; simp [go_sem]) (by simp [go_sem]) (by simp [go_sem]) (by simp [go_sem]) (by simp [go_sem]) (by simp [go_sem]) (by simp [go_sem]) (by simp [go_sem]) (by simp [go_sem]) (by simp [go_sem]) (by simp [go_sem]) (by simp [go_sem])
          clear X4 b5 d5 B4
          have cX_b := X5.hb
          have cX_f := X5.fz
          have cX_0 := X5.k0
          have cX_1 := X5.k1
          have cX_2 := X5.k2
          have cX_3 := X5.k3
          have cX_4 := X5.k4
          have cX_5 := X5.k5
          have cX_6 := X5.k6
          have cX_7 := X5.k7
          have cX_8 := X5.k8
          have cX_9 := X5.k9
          have cX_10 := X5.k10
          have cY_b := Y5.hb
          have cY_f := Y5.fz
          have cY_0 := Y5.k0
          have cY_1 := Y5.k1
          have cY_2 := Y5.k2
          have cY_3 := Y5.k3
          have cY_4 := Y5.k4
          have cY_5 := Y5.k5
          have cY_6 := Y5.k6
          have cY_7 := Y5.k7
          have cY_8 := Y5.k8
          have cY_9 := Y5.k9
          have cY_10 := Y5.k10
          go_wp2_with fail
          clear cX_b cX_f cX_0 cX_1 cX_2 cX_3 cX_4 cX_5 cX_6 cX_7 cX_8 cX_9 cX_10 cY_b cY_f cY_0 cY_1 cY_2 cY_3 cY_4 cY_5 cY_6 cY_7 cY_8 cY_9 cY_10
          refine (PZ.out _ _ (SG_5.out.on (by repeat (first | exact Below.refl _ _ | refine below_drewN ?_ _ | refine Below.drew ?_ | refine Below.setCell ?_ (by first | (simp; done) | (simp; omega) | omega) _ | refine Below.alloc ?_ (by first | (simp; done) | (simp; omega) | omega) _))) (HL.out _ (below_step B5.out (by repeat (first | exact Below.refl _ _ | refine below_drewN ?_ _ | refine Below.drew ?_ | refine Below.setCell ?_ (by first | (simp; done) | (simp; omega) | omega) _ | refine Below.alloc ?_ (by first | (simp; done) | (simp; omega) | omega) _))))).mono ?_; rintro e w6 ⟨rfl, b6⟩
          have d6 : Below w5.heap.size w5 w6 := below_step (by repeat (first | exact Below.refl _ _ | refine below_drewN ?_ _ | refine Below.drew ?_ | refine Below.setCell ?_ (by first | (simp; done) | (simp; omega) | omega) _ | refine Below.alloc ?_ (by first | (simp; done) | (simp; omega) | omega) _)) b6
          have B6 := Lib.hid (below_step B5.out d6)
          have SG_6 := Lib.hid (SG_5.out.on d6)
          have X6 := X5.keep d6
          have Y6 := Y5.keep d6
          clear SG_5 X5 Y5 b6 d6 B5
          have cX_b := X6.hb
          have cX_f := X6.fz
          have cX_0 := X6.k0
          have cX_1 := X6.k1
          have cX_2 := X6.k2
          have cX_3 := X6.k3
          have cX_4 := X6.k4
          have cX_5 := X6.k5
          have cX_6 := X6.k6
          have cX_7 := X6.k7
          have cX_8 := X6.k8
          have cX_9 := X6.k9
          have cX_10 := X6.k10
          have cY_b := Y6.hb
          have cY_f := Y6.fz
          have cY_0 := Y6.k0
          have cY_1 := Y6.k1
          have cY_2 := Y6.k2
          have cY_3 := Y6.k3
          have cY_4 := Y6.k4
          have cY_5 := Y6.k5
          have cY_6 := Y6.k6
          have cY_7 := Y6.k7
          have cY_8 := Y6.k8
          have cY_9 := Y6.k9
          have cY_10 := Y6.k10
          go_wp2_with fail
          clear cX_b cX_f cX_0 cX_1 cX_2 cX_3 cX_4 cX_5 cX_6 cX_7 cX_8 cX_9 cX_10 cY_b cY_f cY_0 cY_1 cY_2 cY_3 cY_4 cY_5 cY_6 cY_7 cY_8 cY_9 cY_10
          refine (RY.out _).mono ?_; rintro e w7 ⟨rfl, b7⟩
          have d7 : Below w6.heap.size w6 w7 := below_step (by repeat (first | exact Below.refl _ _ | refine below_drewN ?_ _ | refine Below.drew ?_ | refine Below.setCell ?_ (by first | (simp; done) | (simp; omega) | omega) _ | refine Below.alloc ?_ (by first | (simp; done) | (simp; omega) | omega) _)) b7
          have B7 := Lib.hid (below_step B6.out d7)
          have SG_7 := Lib.hid (SG_6.out.on d7)
          have X7 := X6.keep d7
          have Y7 := Y6.keep d7
          have aZZ := B6.out.size
          have nZZY := Nat.ne_of_lt Y6.hb
          have oZZY := Nat.ne_of_gt Y6.hb
          have ZZ7 : Bk11 w7 (w6.heap.size) (.string z0) (.int .i64 z1) (.int .i64 z2) (.int .i64 z3) (.int .i64 z4) (.int .i64 z5) (.int .i64 z6) (.int .i64 z7) (.int .i64 z8) (.int .i64 z9) (.string z10) := Bk11.of b7 (by simp <;> omega) (by intro j; simp [go_sem]) (by simp [go_sem]) (by simp [go_sem]) (by simp [go_sem]) (by simp [go_sem]) (by simp [go_sem]) (by simp [go_sem]) (by simp [go_sem]) (by simp [go_sem]) (by simp [go_sem]) (by simp [go_sem]) (by simp [go_sem])
          clear SG_6 X6 Y6 b7 d7 B6
          have cX_b := X7.hb
          have cX_f := X7.fz
          have cX_0 := X7.k0
          have cX_1 := X7.k1
          have cX_2 := X7.k2
          have cX_3 := X7.k3
          have cX_4 := X7.k4
          have cX_5 := X7.k5
          have cX_6 := X7.k6
          have cX_7 := X7.k7
          have cX_8 := X7.k8
          have cX_9 := X7.k9
          have cX_10 := X7.k10
          have cY_b := Y7.hb
          have cY_f := Y7.fz
          have cY_0 := Y7.k0
          have cY_1 := Y7.k1
          have cY_2 := Y7.k2
          have cY_3 := Y7.k3
          have cY_4 := Y7.k4
          have cY_5 := Y7.k5
          have cY_6 := Y7.k6
          have cY_7 := Y7.k7
          have cY_8 := Y7.k8
          have cY_9 := Y7.k9
          have cY_10 := Y7.k10
          have cZZ_b := ZZ7.hb
          have cZZ_f := ZZ7.fz
          have cZZ_0 := ZZ7.k0
          have cZZ_1 := ZZ7.k1
          have cZZ_2 := ZZ7.k2
          have cZZ_3 := ZZ7.k3
          have cZZ_4 := ZZ7.k4
          have cZZ_5 := ZZ7.k5
          have cZZ_6 := ZZ7.k6
          have cZZ_7 := ZZ7.k7
          have cZZ_8 := ZZ7.k8
          have cZZ_9 := ZZ7.k9
          have cZZ_10 := ZZ7.k10
          go_wp2_with fail
          clear cX_b cX_f cX_0 cX_1 cX_2 cX_3 cX_4 cX_5 cX_6 cX_7 cX_8 cX_9 cX_10 cY_b cY_f cY_0 cY_1 cY_2 cY_3 cY_4 cY_5 cY_6 cY_7 cY_8 cY_9 cY_10 cZZ_b cZZ_f cZZ_0 cZZ_1 cZZ_2 cZZ_3 cZZ_4 cZZ_5 cZZ_6 cZZ_7 cZZ_8 cZZ_9 cZZ_10
          go_ret
          exact ⟨rfl, (by have hz := B7.out.size; repeat (first | exact B7.out | refine below_drewN ?_ _ | refine Below.drew ?_ | refine Below.setCell ?_ (by first | omega | (simp; done) | (simp; omega)) _ | refine Below.alloc ?_ (by first | omega | (simp; done) | (simp; omega)) _))⟩
        · have e0 := hno hq
          unfold Ru.R0 at e0
          injection e0 with i0 i1 i2 i3 i4 i5 i6 i7 i8 i9 i10
          subst i0; subst i1; subst i2; subst i3; subst i4; subst i5; subst i6; subst i7; subst i8; subst i9; subst i10
          have gq : (qr == 0) = false := by rw [beq_eq_false_iff_ne]; exact hq
          clear hno hyes hall0
          have cX_b := X1.hb
          have cX_f := X1.fz
          have cX_0 := X1.k0
          have cX_1 := X1.k1
          have cX_2 := X1.k2
          have cX_3 := X1.k3
          have cX_4 := X1.k4
          have cX_5 := X1.k5
          have cX_6 := X1.k6
          have cX_7 := X1.k7
          have cX_8 := X1.k8
          have cX_9 := X1.k9
          have cX_10 := X1.k10
          go_wp2_with fail
          clear cX_b cX_f cX_0 cX_1 cX_2 cX_3 cX_4 cX_5 cX_6 cX_7 cX_8 cX_9 cX_10
          refine (PF.out _ (HL.out _ (below_step B1.out (by repeat (first | exact Below.refl _ _ | refine below_drewN ?_ _ | refine Below.drew ?_ | refine Below.setCell ?_ (by first | (simp; done) | (simp; omega) | omega) _ | refine Below.alloc ?_ (by first | (simp; done) | (simp; omega) | omega) _))))).mono ?_; rintro e w2 ⟨_, sV, rfl, b2⟩
          have SV_2 := Lib.hid sV; obtain ⟨AV, cV, rfl, -⟩ := sV
          have d2 : Below w1.heap.size w1 w2 := below_step (by repeat (first | exact Below.refl _ _ | refine below_drewN ?_ _ | refine Below.drew ?_ | refine Below.setCell ?_ (by first | (simp; done) | (simp; omega) | omega) _ | refine Below.alloc ?_ (by first | (simp; done) | (simp; omega) | omega) _)) b2
          have B2 := Lib.hid (below_step B1.out d2)
          have X2 := X1.keep d2
          clear X1 b2 d2 B1
          clear SV_2
          have cX_b := X2.hb
          have cX_f := X2.fz
          have cX_0 := X2.k0
          have cX_1 := X2.k1
          have cX_2 := X2.k2
          have cX_3 := X2.k3
          have cX_4 := X2.k4
          have cX_5 := X2.k5
          have cX_6 := X2.k6
          have cX_7 := X2.k7
          have cX_8 := X2.k8
          have cX_9 := X2.k9
          have cX_10 := X2.k10
          go_wp2_with fail
          clear cX_b cX_f cX_0 cX_1 cX_2 cX_3 cX_4 cX_5 cX_6 cX_7 cX_8 cX_9 cX_10
          refine (RB.out _).mono ?_; rintro e w3 ⟨rfl, b3⟩
          have d3 : Below w2.heap.size w2 w3 := below_step (by repeat (first | exact Below.refl _ _ | refine below_drewN ?_ _ | refine Below.drew ?_ | refine Below.setCell ?_ (by first | (simp; done) | (simp; omega) | omega) _ | refine Below.alloc ?_ (by first | (simp; done) | (simp; omega) | omega) _)) b3
          have B3 := Lib.hid (below_step B2.out d3)
          have X3 := X2.keep d3
          clear X2 b3 d3 B2
          have cX_b := X3.hb
          have cX_f := X3.fz
          have cX_0 := X3.k0
          have cX_1 := X3.k1
          have cX_2 := X3.k2
          have cX_3 := X3.k3
          have cX_4 := X3.k4
          have cX_5 := X3.k5
          have cX_6 := X3.k6
          have cX_7 := X3.k7
          have cX_8 := X3.k8
          have cX_9 := X3.k9
          have cX_10 := X3.k10
          go_wp2_with fail
          clear cX_b cX_f cX_0 cX_1 cX_2 cX_3 cX_4 cX_5 cX_6 cX_7 cX_8 cX_9 cX_10
          refine (PR.out _ (HS.out.on (below_step B3.out (by repeat (first | exact Below.refl _ _ | refine below_drewN ?_ _ | refine Below.drew ?_ | refine Below.setCell ?_ (by first | (simp; done) | (simp; omega) | omega) _ | refine Below.alloc ?_ (by first | (simp; done) | (simp; omega) | omega) _)))) (HL.out _ (below_step B3.out (by repeat (first | exact Below.refl _ _ | refine below_drewN ?_ _ | refine Below.drew ?_ | refine Below.setCell ?_ (by first | (simp; done) | (simp; omega) | omega) _ | refine Below.alloc ?_ (by first | (simp; done) | (simp; omega) | omega) _))))).mono ?_; rintro e w4 ⟨rfl, b4⟩
          have d4 : Below w3.heap.size w3 w4 := below_step (by repeat (first | exact Below.refl _ _ | refine below_drewN ?_ _ | refine Below.drew ?_ | refine Below.setCell ?_ (by first | (simp; done) | (simp; omega) | omega) _ | refine Below.alloc ?_ (by first | (simp; done) | (simp; omega) | omega) _)) b4
          have B4 := Lib.hid (below_step B3.out d4)
          have X4 := X3.keep d4
          clear X3 b4 d4 B3
          have cX_b := X4.hb
          have cX_f := X4.fz
          have cX_0 := X4.k0
          have cX_1 := X4.k1
          have cX_2 := X4.k2
          have cX_3 := X4.k3
          have cX_4 := X4.k4
          have cX_5 := X4.k5
          have cX_6 := X4.k6
          have cX_7 := X4.k7
          have cX_8 := X4.k8
          have cX_9 := X4.k9
          have cX_10 := X4.k10
          go_wp2_with fail
          clear cX_b cX_f cX_0 cX_1 cX_2 cX_3 cX_4 cX_5 cX_6 cX_7 cX_8 cX_9 cX_10
          go_ret
          exact ⟨rfl, (by have hz := B4.out.size; repeat (first | exact B4.out | refine below_drewN ?_ _ | refine Below.drew ?_ | refine Below.setCell ?_ (by first | omega | (simp; done) | (simp; omega)) _ | refine Below.alloc ?_ (by first | omega | (simp; done) | (simp; omega)) _))⟩
      · obtain ⟨u0, u1, u2, u3, u4, u5, u6, u7, u8, PF, PX⟩ := FY.out hrb
        have PF := Lib.hid PF; have PX := Lib.hid PX
        unfold Ru.R.v at PF PX
        rw [hrb] at RB
        clear hrb FY FNO
        by_cases hq : qr = 0
        · obtain ⟨k1, k2, k3⟩ := hyes hq
          obtain ⟨x0, x1, x2, x3, x4, x5, x6, x7, x8, PG, PZ⟩ := fields_yes (⟨z0, z1, z2, z3, z4, z5, z6, z7, z8, z9, z10⟩ : Ru.R) k1 (by show z0.size ≤ 500; have : z0.size ≤ 300 := k3 hall0; omega) (by show z10.size ≤ 500; have : z10.size ≤ 6 := k2; omega) tp pp y
          have RY := Lib.hid (fun W => ruright_any z0 z10 z1 z2 z3 z4 z5 z6 z7 z8 z9 W (by have : z0.size ≤ 300 := k3 hall0; unfold maxLen; omega) (by have : z10.size ≤ 6 := k2; omega))
          rw [show Ru.rB z0 z10 z1 z2 z3 z4 z5 z6 z7 z8 z9 = true from k1] at RY
          have PG := Lib.hid PG; have PZ := Lib.hid PZ
          unfold Ru.R.v at PG PZ
          clear hno hyes k1 k2 k3 hall0
          subst hq
          have cX_b := X1.hb
          have cX_f := X1.fz
          have cX_0 := X1.k0
          have cX_1 := X1.k1
          have cX_2 := X1.k2
          have cX_3 := X1.k3
          have cX_4 := X1.k4
          have cX_5 := X1.k5
          have cX_6 := X1.k6
          have cX_7 := X1.k7
          have cX_8 := X1.k8
          have cX_9 := X1.k9
          have cX_10 := X1.k10
          go_wp2_with fail
          clear cX_b cX_f cX_0 cX_1 cX_2 cX_3 cX_4 cX_5 cX_6 cX_7 cX_8 cX_9 cX_10
          refine (PF.out _ (HL.out _ (below_step B1.out (by repeat (first | exact Below.refl _ _ | refine below_drewN ?_ _ | refine Below.drew ?_ | refine Below.setCell ?_ (by first | (simp; done) | (simp; omega) | omega) _ | refine Below.alloc ?_ (by first | (simp; done) | (simp; omega) | omega) _))))).mono ?_; rintro e w2 ⟨_, sV, rfl, b2⟩
          have SV_2 := Lib.hid sV; obtain ⟨AV, cV, rfl, -⟩ := sV
          have d2 : Below w1.heap.size w1 w2 := below_step (by repeat (first | exact Below.refl _ _ | refine below_drewN ?_ _ | refine Below.drew ?_ | refine Below.setCell ?_ (by first | (simp; done) | (simp; omega) | omega) _ | refine Below.alloc ?_ (by first | (simp; done) | (simp; omega) | omega) _)) b2
          have B2 := Lib.hid (below_step B1.out d2)
          have X2 := X1.keep d2
          clear X1 b2 d2 B1
          have cX_b := X2.hb
          have cX_f := X2.fz
          have cX_0 := X2.k0
          have cX_1 := X2.k1
          have cX_2 := X2.k2
          have cX_3 := X2.k3
          have cX_4 := X2.k4
          have cX_5 := X2.k5
          have cX_6 := X2.k6
          have cX_7 := X2.k7
          have cX_8 := X2.k8
          have cX_9 := X2.k9
          have cX_10 := X2.k10
          go_wp2_with fail
          clear cX_b cX_f cX_0 cX_1 cX_2 cX_3 cX_4 cX_5 cX_6 cX_7 cX_8 cX_9 cX_10
          refine (RB.out _).mono ?_; rintro e w3 ⟨rfl, b3⟩
          have d3 : Below w2.heap.size w2 w3 := below_step (by repeat (first | exact Below.refl _ _ | refine below_drewN ?_ _ | refine Below.drew ?_ | refine Below.setCell ?_ (by first | (simp; done) | (simp; omega) | omega) _ | refine Below.alloc ?_ (by first | (simp; done) | (simp; omega) | omega) _)) b3
          have B3 := Lib.hid (below_step B2.out d3)
          have SV_3 := Lib.hid (SV_2.out.on d3)
          have X3 := X2.keep d3
          clear SV_2 X2 b3 d3 B2
          have cX_b := X3.hb
          have cX_f := X3.fz
          have cX_0 := X3.k0
          have cX_1 := X3.k1
          have cX_2 := X3.k2
          have cX_3 := X3.k3
          have cX_4 := X3.k4
          have cX_5 := X3.k5
          have cX_6 := X3.k6
          have cX_7 := X3.k7
          have cX_8 := X3.k8
          have cX_9 := X3.k9
          have cX_10 := X3.k10
          go_wp2_with fail
          clear cX_b cX_f cX_0 cX_1 cX_2 cX_3 cX_4 cX_5 cX_6 cX_7 cX_8 cX_9 cX_10
          refine (PX.out _ _ (SV_3.out.on (by repeat (first | exact Below.refl _ _ | refine below_drewN ?_ _ | refine Below.drew ?_ | refine Below.setCell ?_ (by first | (simp; done) | (simp; omega) | omega) _ | refine Below.alloc ?_ (by first | (simp; done) | (simp; omega) | omega) _))) (HL.out _ (below_step B3.out (by repeat (first | exact Below.refl _ _ | refine below_drewN ?_ _ | refine Below.drew ?_ | refine Below.setCell ?_ (by first | (simp; done) | (simp; omega) | omega) _ | refine Below.alloc ?_ (by first | (simp; done) | (simp; omega) | omega) _))))).mono ?_; rintro e w4 ⟨rfl, b4⟩
          have d4 : Below w3.heap.size w3 w4 := below_step (by repeat (first | exact Below.refl _ _ | refine below_drewN ?_ _ | refine Below.drew ?_ | refine Below.setCell ?_ (by first | (simp; done) | (simp; omega) | omega) _ | refine Below.alloc ?_ (by first | (simp; done) | (simp; omega) | omega) _)) b4
          have B4 := Lib.hid (below_step B3.out d4)
          have SV_4 := Lib.hid (SV_3.out.on d4)
          have X4 := X3.keep d4
          clear SV_3 X3 b4 d4 B3
          have cX_b := X4.hb
          have cX_f := X4.fz
          have cX_0 := X4.k0
          have cX_1 := X4.k1
          have cX_2 := X4.k2
          have cX_3 := X4.k3
          have cX_4 := X4.k4
          have cX_5 := X4.k5
          have cX_6 := X4.k6
          have cX_7 := X4.k7
          have cX_8 := X4.k8
          have cX_9 := X4.k9
          have cX_10 := X4.k10
          go_wp2_with fail
          clear cX_b cX_f cX_0 cX_1 cX_2 cX_3 cX_4 cX_5 cX_6 cX_7 cX_8 cX_9 cX_10
          refine (PR.out _ (HS.out.on (below_step B4.out (by repeat (first | exact Below.refl _ _ | refine below_drewN ?_ _ | refine Below.drew ?_ | refine Below.setCell ?_ (by first | (simp; done) | (simp; omega) | omega) _ | refine Below.alloc ?_ (by first | (simp; done) | (simp; omega) | omega) _)))) (HL.out _ (below_step B4.out (by repeat (first | exact Below.refl _ _ | refine below_drewN ?_ _ | refine Below.drew ?_ | refine Below.setCell ?_ (by first | (simp; done) | (simp; omega) | omega) _ | refine Below.alloc ?_ (by first | (simp; done) | (simp; omega) | omega) _))))).mono ?_; rintro e w5 ⟨rfl, b5⟩
          have d5 : Below w4.heap.size w4 w5 := below_step (by repeat (first | exact Below.refl _ _ | refine below_drewN ?_ _ | refine Below.drew ?_ | refine Below.setCell ?_ (by first | (simp; done) | (simp; omega) | omega) _ | refine Below.alloc ?_ (by first | (simp; done) | (simp; omega) | omega) _)) b5
          have B5 := Lib.hid (below_step B4.out d5)
          have SV_5 := Lib.hid (SV_4.out.on d5)
          have X5 := X4.keep d5
          have aXA := B4.out.size
          have XA5 : Bk11 w5 (w4.heap.size) (.string s) (.int .i64 fy) (.int .i64 ty) (.int .i64 m) (.int .i64 k) (.int .i64 wk) (.int .i64 d) (.int .i64 sec) (.int .i64 base) (.int .i64 save) (.string t) := Bk11.of b5 (by simp <;> omega) (by intro j; simp [go_sem]) (by simp [go_sem]) (by simp [go_sem]) (by simp [go_sem]) (by simp [go_sem]) (by simp [go_sem]) (by simp [go_sem]) (by simp [go_sem]) (by simp [go_sem]) (by simp [go_sem]) (by simp [go_sem]) (by simp [go_sem])
          clear SV_4 X4 b5 d5 B4
          have cX_b := X5.hb
          have cX_f := X5.fz
          have cX_0 := X5.k0
          have cX_1 := X5.k1
          have cX_2 := X5.k2
          have cX_3 := X5.k3
          have cX_4 := X5.k4
          have cX_5 := X5.k5
          have cX_6 := X5.k6
          have cX_7 := X5.k7
          have cX_8 := X5.k8
          have cX_9 := X5.k9
          have cX_10 := X5.k10
          have cXA_b := XA5.hb
          have cXA_f := XA5.fz
          have cXA_0 := XA5.k0
          have cXA_1 := XA5.k1
          have cXA_2 := XA5.k2
          have cXA_3 := XA5.k3
          have cXA_4 := XA5.k4
          have cXA_5 := XA5.k5
          have cXA_6 := XA5.k6
          have cXA_7 := XA5.k7
          have cXA_8 := XA5.k8
          have cXA_9 := XA5.k9
          have cXA_10 := XA5.k10
          go_wp2_with fail
          clear cX_b cX_f cX_0 cX_1 cX_2 cX_3 cX_4 cX_5 cX_6 cX_7 cX_8 cX_9 cX_10 cXA_b cXA_f cXA_0 cXA_1 cXA_2 cXA_3 cXA_4 cXA_5 cXA_6 cXA_7 cXA_8 cXA_9 cXA_10
          refine (PG.out _ (HL.out _ (below_step B5.out (by repeat (first | exact Below.refl _ _ | refine below_drewN ?_ _ | refine Below.drew ?_ | refine Below.setCell ?_ (by first | (simp; done) | (simp; omega) | omega) _ | refine Below.alloc ?_ (by first | (simp; done) | (simp; omega) | omega) _))))).mono ?_; rintro e w6 ⟨_, sG, rfl, b6⟩
          have SG_6 := Lib.hid sG; obtain ⟨AG, cG, rfl, -⟩ := sG
          have d6 : Below w5.heap.size w5 w6 := below_step (by repeat (first | exact Below.refl _ _ | refine below_drewN ?_ _ | refine Below.drew ?_ | refine Below.setCell ?_ (by first | (simp; done) | (simp; omega) | omega) _ | refine Below.alloc ?_ (by first | (simp; done) | (simp; omega) | omega) _)) b6
          have B6 := Lib.hid (below_step B5.out d6)
          have SV_6 := Lib.hid (SV_5.out.on d6)
          have X6 := X5.keep d6
          have XA6 := XA5.keep d6
          have aY := B5.out.size
          have nYXA := Nat.ne_of_lt XA5.hb
          have oYXA := Nat.ne_of_gt XA5.hb
          have Y6 : Bk11 w6 (w5.heap.size) (.string z0) (.int .i64 z1) (.int .i64 z2) (.int .i64 z3) (.int .i64 z4) (.int .i64 z5) (.int .i64 z6) (.int .i64 z7) (.int .i64 z8) (.int .i64 z9) (.string z10) := Bk11.of b6 (by simp <;> omega) (by intro j; simp [go_sem]) (by simp [go_sem]) (by simp [go_sem]) (by simp [go_sem]) (by simp [go_sem]) (by simp [go_sem]) (by simp [go_sem]) (by simp [go_sem]) (by simp [go_sem]) (by simp [go_sem]) (by simp [go_sem]) (by simp [go_sem])
          clear SV_5 X5 XA5 b6 d6 B5
          have cX_b := X6.hb
          have cX_f := X6.fz
          have cX_0 := X6.k0
          have cX_1 := X6.k1
          have cX_2 := X6.k2
          have cX_3 := X6.k3
          have cX_4 := X6.k4
          have cX_5 := X6.k5
          have cX_6 := X6.k6
          have cX_7 := X6.k7
          have cX_8 := X6.k8
          have cX_9 := X6.k9
          have cX_10 := X6.k10
          have cXA_b := XA6.hb
          have cXA_f := XA6.fz
          have cXA_0 := XA6.k0
          have cXA_1 := XA6.k1
          have cXA_2 := XA6.k2
          have cXA_3 := XA6.k3
          have cXA_4 := XA6.k4
          have cXA_5 := XA6.k5
          have cXA_6 := XA6.k6
          have cXA_7 := XA6.k7
          have cXA_8 := XA6.k8
          have cXA_9 := XA6.k9
          have cXA_10 := XA6.k10
          have cY_b := Y6.hb
          have cY_f := Y6.fz
          have cY_0 := Y6.k0
          have cY_1 := Y6.k1
          have cY_2 := Y6.k2
          have cY_3 := Y6.k3
          have cY_4 := Y6.k4
          have cY_5 := Y6.k5
          have cY_6 := Y6.k6
          have cY_7 := Y6.k7
          have cY_8 := Y6.k8
          have cY_9 := Y6.k9
          have cY_10 := Y6.k10
          go_wp2_with fail
          clear cX_b cX_f cX_0 cX_1 cX_2 cX_3 cX_4 cX_5 cX_6 cX_7 cX_8 cX_9 cX_10 cXA_b cXA_f cXA_0 cXA_1 cXA_2 cXA_3 cXA_4 cXA_5 cXA_6 cXA_7 cXA_8 cXA_9 cXA_10 cY_b cY_f cY_0 cY_1 cY_2 cY_3 cY_4 cY_5 cY_6 cY_7 cY_8 cY_9 cY_10
          refine (PZ.out _ _ (SG_6.out.on (by repeat (first | exact Below.refl _ _ | refine below_drewN ?_ _ | refine Below.drew ?_ | refine Below.setCell ?_ (by first | (simp; done) | (simp; omega) | omega) _ | refine Below.alloc ?_ (by first | (simp; done) | (simp; omega) | omega) _))) (HL.out _ (below_step B6.out (by repeat (first | exact Below.refl _ _ | refine below_drewN ?_ _ | refine Below.drew ?_ | refine Below.setCell ?_ (by first | (simp; done) | (simp; omega) | omega) _ | refine Below.alloc ?_ (by first | (simp; done) | (simp; omega) | omega) _))))).mono ?_; rintro e w7 ⟨rfl, b7⟩
          have d7 : Below w6.heap.size w6 w7 := below_step (by repeat (first | exact Below.refl _ _ | refine below_drewN ?_ _ | refine Below.drew ?_ | refine Below.setCell ?_ (by first | (simp; done) | (simp; omega) | omega) _ | refine Below.alloc ?_ (by first | (simp; done) | (simp; omega) | omega) _)) b7
          have B7 := Lib.hid (below_step B6.out d7)
          have SV_7 := Lib.hid (SV_6.out.on d7)
          have SG_7 := Lib.hid (SG_6.out.on d7)
          have X7 := X6.keep d7
          have XA7 := XA6.keep d7
          have Y7 := Y6.keep d7
          clear SV_6 SG_6 X6 XA6 Y6 b7 d7 B6
          have cX_b := X7.hb
          have cX_f := X7.fz
          have cX_0 := X7.k0
          have cX_1 := X7.k1
          have cX_2 := X7.k2
          have cX_3 := X7.k3
          have cX_4 := X7.k4
          have cX_5 := X7.k5
          have cX_6 := X7.k6
          have cX_7 := X7.k7
          have cX_8 := X7.k8
          have cX_9 := X7.k9
          have cX_10 := X7.k10
          have cXA_b := XA7.hb
          have cXA_f := XA7.fz
          have cXA_0 := XA7.k0
          have cXA_1 := XA7.k1
          have cXA_2 := XA7.k2
          have cXA_3 := XA7.k3
          have cXA_4 := XA7.k4
          have cXA_5 := XA7.k5
          have cXA_6 := XA7.k6
          have cXA_7 := XA7.k7
          have cXA_8 := XA7.k8
          have cXA_9 := XA7.k9
          have cXA_10 := XA7.k10
          have cY_b := Y7.hb
          have cY_f := Y7.fz
          have cY_0 := Y7.k0
          have cY_1 := Y7.k1
          have cY_2 := Y7.k2
          have cY_3 := Y7.k3
          have cY_4 := Y7.k4
          have cY_5 := Y7.k5
          have cY_6 := Y7.k6
          have cY_7 := Y7.k7
          have cY_8 := Y7.k8
          have cY_9 := Y7.k9
          have cY_10 := Y7.k10
          go_wp2_with fail
          clear cX_b cX_f cX_0 cX_1 cX_2 cX_3 cX_4 cX_5 cX_6 cX_7 cX_8 cX_9 cX_10 cXA_b cXA_f cXA_0 cXA_1 cXA_2 cXA_3 cXA_4 cXA_5 cXA_6 cXA_7 cXA_8 cXA_9 cXA_10 cY_b cY_f cY_0 cY_1 cY_2 cY_3 cY_4 cY_5 cY_6 cY_7 cY_8 cY_9 cY_10
          refine (RY.out _).mono ?_; rintro e w8 ⟨rfl, b8⟩
          have d8 : Below w7.heap.size w7 w8 := below_step (by repeat (first | exact Below.refl _ _ | refine below_drewN ?_ _ | refine Below.drew ?_ | refine Below.setCell ?_ (by first | (simp; done) | (simp; omega) | omega) _ | refine Below.alloc ?_ (by first | (simp; done) | (simp; omega) | omega) _)) b8
          have B8 := Lib.hid (below_step B7.out d8)
          have SV_8 := Lib.hid (SV_7.out.on d8)
          have SG_8 := Lib.hid (SG_7.out.on d8)
          have X8 := X7.keep d8
          have XA8 := XA7.keep d8
          have Y8 := Y7.keep d8
          have aZZ := B7.out.size
          have nZZXA := Nat.ne_of_lt XA7.hb
          have oZZXA := Nat.ne_of_gt XA7.hb
          have nZZY := Nat.ne_of_lt Y7.hb
          have oZZY := Nat.ne_of_gt Y7.hb
          have ZZ8 : Bk11 w8 (w7.heap.size) (.string z0) (.int .i64 z1) (.int .i64 z2) (.int .i64 z3) (.int .i64 z4) (.int .i64 z5) (.int .i64 z6) (.int .i64 z7) (.int .i64 z8) (.int .i64 z9) (.string z10) := Bk11.of b8 (by simp <;> omega) (by intro j; simp [go_sem]) (by simp [go_sem]) (by simp [go_sem]) (by simp [go_sem]) (by simp [go_sem]) (by simp [go_sem]) (by simp [go_sem]) (by simp [go_sem]) (by simp [go_sem]) (by simp [go_sem]) (by simp [go_sem]) (by simp [go_sem])
          clear SV_7 SG_7 X7 XA7 Y7 b8 d8 B7
          have cX_b := X8.hb
          have cX_f := X8.fz
          have cX_0 := X8.k0
          have cX_1 := X8.k1
          have cX_2 := X8.k2
          have cX_3 := X8.k3
          have cX_4 := X8.k4
          have cX_5 := X8.k5
          have cX_6 := X8.k6
          have cX_7 := X8.k7
          have cX_8 := X8.k8
          have cX_9 := X8.k9
          have cX_10 := X8.k10
          have cXA_b := XA8.hb
          have cXA_f := XA8.fz
          have cXA_0 := XA8.k0
          have cXA_1 := XA8.k1
          have cXA_2 := XA8.k2
          have cXA_3 := XA8.k3
          have cXA_4 := XA8.k4
          have cXA_5 := XA8.k5
          have cXA_6 := XA8.k6
          have cXA_7 := XA8.k7
          have cXA_8 := XA8.k8
          have cXA_9 := XA8.k9
          have cXA_10 := XA8.k10
          have cY_b := Y8.hb
          have cY_f := Y8.fz
          have cY_0 := Y8.k0
          have cY_1 := Y8.k1
          have cY_2 := Y8.k2
          have cY_3 := Y8.k3
          have cY_4 := Y8.k4
          have cY_5 := Y8.k5
          have cY_6 := Y8.k6
          have cY_7 := Y8.k7
          have cY_8 := Y8.k8
          have cY_9 := Y8.k9
          have cY_10 := Y8.k10
          have cZZ_b := ZZ8.hb
          have cZZ_f := ZZ8.fz
          have cZZ_0 := ZZ8.k0
          have cZZ_1 := ZZ8.k1
          have cZZ_2 := ZZ8.k2
          have cZZ_3 := ZZ8.k3
          have cZZ_4 := ZZ8.k4
          have cZZ_5 := ZZ8.k5
          have cZZ_6 := ZZ8.k6
          have cZZ_7 := ZZ8.k7
          have cZZ_8 := ZZ8.k8
          have cZZ_9 := ZZ8.k9
          have cZZ_10 := ZZ8.k10
          go_wp2_with fail
          clear cX_b cX_f cX_0 cX_1 cX_2 cX_3 cX_4 cX_5 cX_6 cX_7 cX_8 cX_9 cX_10 cXA_b cXA_f cXA_0 cXA_1 cXA_2 cXA_3 cXA_4 cXA_5 cXA_6 cXA_7 cXA_8 cXA_9 cXA_10 cY_b cY_f cY_0 cY_1 cY_2 cY_3 cY_4 cY_5 cY_6 cY_7 cY_8 cY_9 cY_10 cZZ_b cZZ_f cZZ_0 cZZ_1 cZZ_2 cZZ_3 cZZ_4 cZZ_5 cZZ_6 cZZ_7 cZZ_8 cZZ_9 cZZ_10
          go_ret
          exact ⟨rfl, (by have hz := B8.out.size; repeat (first | exact B8.out | refine below_drewN ?_ _ | refine Below.drew ?_ | refine Below.setCell ?_ (by first | omega | (simp; done) | (simp; omega)) _ | refine Below.alloc ?_ (by first | omega | (simp; done) | (simp; omega)) _))⟩
        · have e0 := hno hq
          unfold Ru.R0 at e0
          injection e0 with i0 i1 i2 i3 i4 i5 i6 i7 i8 i9 i10
          subst i0; subst i1; subst i2; subst i3; subst i4; subst i5; subst i6; subst i7; subst i8; subst i9; subst i10
          have gq : (qr == 0) = false := by rw [beq_eq_false_iff_ne]; exact hq
          clear hno hyes hall0
          have cX_b := X1.hb
          have cX_f := X1.fz
          have cX_0 := X1.k0
          have cX_1 := X1.k1
          have cX_2 := X1.k2
          have cX_3 := X1.k3
          have cX_4 := X1.k4
          have cX_5 := X1.k5
          have cX_6 := X1.k6
          have cX_7 := X1.k7
          have cX_8 := X1.k8
          have cX_9 := X1.k9
          have cX_10 := X1.k10
          go_wp2_with fail
          clear cX_b cX_f cX_0 cX_1 cX_2 cX_3 cX_4 cX_5 cX_6 cX_7 cX_8 cX_9 cX_10
          refine (PF.out _ (HL.out _ (below_step B1.out (by repeat (first | exact Below.refl _ _ | refine below_drewN ?_ _ | refine Below.drew ?_ | refine Below.setCell ?_ (by first | (simp; done) | (simp; omega) | omega) _ | refine Below.alloc ?_ (by first | (simp; done) | (simp; omega) | omega) _))))).mono ?_; rintro e w2 ⟨_, sV, rfl, b2⟩
          have SV_2 := Lib.hid sV; obtain ⟨AV, cV, rfl, -⟩ := sV
          have d2 : Below w1.heap.size w1 w2 := below_step (by repeat (first | exact Below.refl _ _ | refine below_drewN ?_ _ | refine Below.drew ?_ | refine Below.setCell ?_ (by first | (simp; done) | (simp; omega) | omega) _ | refine Below.alloc ?_ (by first | (simp; done) | (simp; omega) | omega) _)) b2
          have B2 := Lib.hid (below_step B1.out d2)
          have X2 := X1.keep d2
          clear X1 b2 d2 B1
          have cX_b := X2.hb
          have cX_f := X2.fz
          have cX_0 := X2.k0
          have cX_1 := X2.k1
          have cX_2 := X2.k2
          have cX_3 := X2.k3
          have cX_4 := X2.k4
          have cX_5 := X2.k5
          have cX_6 := X2.k6
          have cX_7 := X2.k7
          have cX_8 := X2.k8
          have cX_9 := X2.k9
          have cX_10 := X2.k10
          go_wp2_with fail
          clear cX_b cX_f cX_0 cX_1 cX_2 cX_3 cX_4 cX_5 cX_6 cX_7 cX_8 cX_9 cX_10
          refine (RB.out _).mono ?_; rintro e w3 ⟨rfl, b3⟩
          have d3 : Below w2.heap.size w2 w3 := below_step (by repeat (first | exact Below.refl _ _ | refine below_drewN ?_ _ | refine Below.drew ?_ | refine Below.setCell ?_ (by first | (simp; done) | (simp; omega) | omega) _ | refine Below.alloc ?_ (by first | (simp; done) | (simp; omega) | omega) _)) b3
          have B3 := Lib.hid (below_step B2.out d3)
          have SV_3 := Lib.hid (SV_2.out.on d3)
          have X3 := X2.keep d3
          clear SV_2 X2 b3 d3 B2
          have cX_b := X3.hb
          have cX_f := X3.fz
          have cX_0 := X3.k0
          have cX_1 := X3.k1
          have cX_2 := X3.k2
          have cX_3 := X3.k3
          have cX_4 := X3.k4
          have cX_5 := X3.k5
          have cX_6 := X3.k6
          have cX_7 := X3.k7
          have cX_8 := X3.k8
          have cX_9 := X3.k9
          have cX_10 := X3.k10
          go_wp2_with fail
          clear cX_b cX_f cX_0 cX_1 cX_2 cX_3 cX_4 cX_5 cX_6 cX_7 cX_8 cX_9 cX_10
          refine (PX.out _ _ (SV_3.out.on (by repeat (first | exact Below.refl _ _ | refine below_drewN ?_ _ | refine Below.drew ?_ | refine Below.setCell ?_ (by first | (simp; done) | (simp; omega) | omega) _ | refine Below.alloc ?_ (by first | (simp; done) | (simp; omega) | omega) _))) (HL.out _ (below_step B3.out (by repeat (first | exact Below.refl _ _ | refine below_drewN ?_ _ | refine Below.drew ?_ | refine Below.setCell ?_ (by first | (simp; done) | (simp; omega) | omega) _ | refine Below.alloc ?_ (by first | (simp; done) | (simp; omega) | omega) _))))).mono ?_; rintro e w4 ⟨rfl, b4⟩
          have d4 : Below w3.heap.size w3 w4 := below_step (by repeat (first | exact Below.refl _ _ | refine below_drewN ?_ _ | refine Below.drew ?_ | refine Below.setCell ?_ (by first | (simp; done) | (simp; omega) | omega) _ | refine Below.alloc ?_ (by first | (simp; done) | (simp; omega) | omega) _)) b4
          have B4 := Lib.hid (below_step B3.out d4)
          have SV_4 := Lib.hid (SV_3.out.on d4)
          have X4 := X3.keep d4
          clear SV_3 X3 b4 d4 B3
          have cX_b := X4.hb
          have cX_f := X4.fz
          have cX_0 := X4.k0
          have cX_1 := X4.k1
          have cX_2 := X4.k2
          have cX_3 := X4.k3
          have cX_4 := X4.k4
          have cX_5 := X4.k5
          have cX_6 := X4.k6
          have cX_7 := X4.k7
          have cX_8 := X4.k8
          have cX_9 := X4.k9
          have cX_10 := X4.k10
          go_wp2_with fail
          clear cX_b cX_f cX_0 cX_1 cX_2 cX_3 cX_4 cX_5 cX_6 cX_7 cX_8 cX_9 cX_10
          refine (PR.out _ (HS.out.on (below_step B4.out (by repeat (first | exact Below.refl _ _ | refine below_drewN ?_ _ | refine Below.drew ?_ | refine Below.setCell ?_ (by first | (simp; done) | (simp; omega) | omega) _ | refine Below.alloc ?_ (by first | (simp; done) | (simp; omega) | omega) _)))) (HL.out _ (below_step B4.out (by repeat (first | exact Below.refl _ _ | refine below_drewN ?_ _ | refine Below.drew ?_ | refine Below.setCell ?_ (by first | (simp; done) | (simp; omega) | omega) _ | refine Below.alloc ?_ (by first | (simp; done) | (simp; omega) | omega) _))))).mono ?_; rintro e w5 ⟨rfl, b5⟩
          have d5 : Below w4.heap.size w4 w5 := below_step (by repeat (first | exact Below.refl _ _ | refine below_drewN ?_ _ | refine Below.drew ?_ | refine Below.setCell ?_ (by first | (simp; done) | (simp; omega) | omega) _ | refine Below.alloc ?_ (by first | (simp; done) | (simp; omega) | omega) _)) b5
          have B5 := Lib.hid (below_step B4.out d5)
          have SV_5 := Lib.hid (SV_4.out.on d5)
          have X5 := X4.keep d5
          have aXA := B4.out.size
          have XA5 : Bk11 w5 (w4.heap.size) (.string s) (.int .i64 fy) (.int .i64 ty) (.int .i64 m) (.int .i64 k) (.int .i64 wk) (.int .i64 d) (.int .i64 sec) (.int .i64 base) (.int .i64 save) (.string t) := Bk11.of b5 (by simp <;> omega) (by intro j; simp [go_sem]) (by simp [go_sem]) (by simp [go_sem]) (by simp [go_sem]) (by simp [go_sem]) (by simp [go_sem]) (by simp [go_sem]) (by simp [go_sem]) (by simp [go_sem]) (by simp [go_sem]) (by simp [go_sem]) (by simp [go_sem])
          clear SV_4 X4 b5 d5 B4
          have cX_b := X5.hb
          have cX_f := X5.fz
          have cX_0 := X5.k0
          have cX_1 := X5.k1
          have cX_2 := X5.k2
          have cX_3 := X5.k3
          have cX_4 := X5.k4
          have cX_5 := X5.k5
          have cX_6 := X5.k6
          have cX_7 := X5.k7
          have cX_8 := X5.k8
          have cX_9 := X5.k9
          have cX_10 := X5.k10
          have cXA_b := XA5.hb
          have cXA_f := XA5.fz
          have cXA_0 := XA5.k0
          have cXA_1 := XA5.k1
          have cXA_2 := XA5.k2
          have cXA_3 := XA5.k3
          have cXA_4 := XA5.k4
          have cXA_5 := XA5.k5
          have cXA_6 := XA5.k6
          have cXA_7 := XA5.k7
          have cXA_8 := XA5.k8
          have cXA_9 := XA5.k9
          have cXA_10 := XA5.k10
          go_wp2_with fail
          clear cX_b cX_f cX_0 cX_1 cX_2 cX_3 cX_4 cX_5 cX_6 cX_7 cX_8 cX_9 cX_10 cXA_b cXA_f cXA_0 cXA_1 cXA_2 cXA_3 cXA_4 cXA_5 cXA_6 cXA_7 cXA_8 cXA_9 cXA_10
          go_ret
          exact ⟨rfl, (by have hz := B5.out.size; repeat (first | exact B5.out | refine below_drewN ?_ _ | refine Below.drew ?_ | refine Below.setCell ?_ (by first | omega | (simp; done) | (simp; omega)) _ | refine Below.alloc ?_ (by first | omega | (simp; done) | (simp; omega)) _))⟩
end Go.Proofs.YtedbohfcbfegjaaGreatDoor
