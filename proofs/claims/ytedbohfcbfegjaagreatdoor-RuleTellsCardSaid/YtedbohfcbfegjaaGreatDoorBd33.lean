/- Joined: Liv15, WdF, RuG. -/
import Derived.Test.YtedbohfcbfegjaaGreatDoorBd14
import Derived.Lib.Builder
import Derived.Test.YtedbohfcbfegjaaGreatDoorBd27
import Derived.Test.YtedbohfcbfegjaaGreatDoorBd18
import Derived.Test.YtedbohfcbfegjaaGreatDoorBd31
import Derived.Test.YtedbohfcbfegjaaGreatDoorBd20
import Derived.Test.YtedbohfcbfegjaaGreatDoorBd32
import Derived.Test.YtedbohfcbfegjaaGreatDoorBd22
import Derived.BigRegion
import Derived.Deep.Cut
/- The answers that noontidelaw15.lives asks for: it is true. -/
set_option linter.unusedVariables false
set_option linter.unusedSimpArgs false
namespace Go.Proofs.YtedbohfcbfegjaaGreatDoor
open Go.RowKit Go.Sort

theorem StS.new (W : World) (l : List ByteArray) (t : TypeId) (c : Nat) : StS (W.alloc (.cells (l.map Value.string).toArray t)) (.slice (some ⟨W.heap.size, 0, none⟩) l.length c) l :=
  ⟨_, _, rfl, fun _ => ⟨_, rfl, by simp, by
    intro j u hj
    rw [show (⟨W.heap.size, 0, none⟩ : Addr).add j = ⟨W.heap.size, j, none⟩ by simp [Addr.add]; exact fun h => h.symm]
    rw [Lib.cell_of_heap (heap_alloc_new W _)]
    simpa using hj⟩⟩
theorem StS.none (W : World) : StS W (.slice none 0 0) [] := Lst.nil _ _
theorem month_c (s : ByteArray) (p q : Int) (h : Wd.up (Wd.mat s.data.toList Wd.months) = p) (h2 : (Wd.mat s.data.toList Wd.months).2 = q) (hs : s.size ≤ maxLen) (w : World) (T : Wd.Tabs w) :
    Calls Tryz.prog 82 #[.string s] w fun e w' => e = .returned (.tuple #[.int .i64 p, .int .i64 q]) ∧ Below w.heap.size w w' := by
  have := month_any s w hs T
  rw [h, h2] at this
  exact this
theorem weekday_c (s : ByteArray) (p q : Int) (h : (Wd.mat s.data.toList Wd.days).1 = p) (h2 : (Wd.mat s.data.toList Wd.days).2 = q) (hs : s.size ≤ maxLen) (w : World) (T : Wd.Tabs w) :
    Calls Tryz.prog 200 #[.string s] w fun e w' => e = .returned (.tuple #[.int .i64 p, .int .i64 q]) ∧ Below w.heap.size w w' := by
  have := weekday_any s w hs T
  rw [h, h2] at this
  exact this
theorem match_c (s : ByteArray) (l : List ByteArray) (p q : Int) (h : Wd.mat s.data.toList l = (p, q)) (hs : s.size ≤ maxLen) (hz : ∀ x ∈ l, x.size ≤ maxLen) (hm : l.length ≤ maxLen) (w : World) (v : Value) (hv : StS w v l) :
    Calls Tryz.prog 133 #[.string s, v] w fun e w' => e = .returned (.tuple #[.int .i64 p, .int .i64 q]) ∧ Below w.heap.size w w' := by
  have := match_any s v l w hv hs hz hm
  rw [h] at this
  exact this.mono fun _ _ ⟨a, k, b⟩ => ⟨a, by rw [b]; exact below_draw _ _⟩
theorem wsame_c (a b : ByteArray) (r : Bool) (h : Wd.same a.data.toList b.data.toList = r) (ha : a.size ≤ maxLen) (hb : b.size ≤ maxLen) (w : World) :
    Calls Tryz.prog 169 #[.string a, .string b] w fun e w' => e = .returned (.bool r) ∧ Below w.heap.size w w' := by
  have := wsame_any a b w ha hb
  rw [h] at this
  exact this.mono fun _ _ ⟨a, k, b⟩ => ⟨a, by rw [b]; exact below_draw _ _⟩
theorem mtext_c (n : Int) (r : ByteArray) (h : Wd.t3 Wd.months (n - 1) = r) (w : World) (T : Wd.Tabs w) : Calls Tryz.prog 41 #[.int .i64 n] w fun e w' => e = .returned (.string r) ∧ Below w.heap.size w w' := by
  have := mtext_any n w T
  rw [h] at this
  exact this
theorem dtext_c (n : Int) (r : ByteArray) (h : Wd.t3 Wd.days (n - 0) = r) (w : World) (T : Wd.Tabs w) : Calls Tryz.prog 101 #[.int .i64 n] w fun e w' => e = .returned (.string r) ∧ Below w.heap.size w w' := by
  have := dtext_any n w T
  rw [h] at this
  exact this

end Go.Proofs.YtedbohfcbfegjaaGreatDoor

/- Words: the reference's Month, Weekday, MonthText, WeekdayText. -/
set_option linter.unusedVariables false
set_option linter.unusedSimpArgs false
namespace Go.Proofs.YtedbohfcbfegjaaGreatDoor
open Go.RowKit Go.Sort

set_option maxRecDepth 100000 in
theorem monthsr_new (w : World) : Calls Tryz.prog 94 #[] w fun e w' => e = .returned (.slice (some ⟨w.heap.size, 0, none⟩) 12 12) ∧ StS w' (.slice (some ⟨w.heap.size, 0, none⟩) 12 12) Wd.months ∧ Below w.heap.size w w' := by
  go_enter Tryz.func94, Tryz.ntmps94
  go_wp2
  go_ret
  exact ⟨rfl, StS.new _ Wd.months _ 12, (Below.refl _ _).alloc (Nat.le_refl _) _⟩
set_option maxHeartbeats 2000000 in
set_option maxRecDepth 100000 in
theorem monthr_any (s : ByteArray) (w : World) (hs : s.size ≤ maxLen) :
    Calls Tryz.prog 31 #[.string s] w fun e w' => e = .returned (.tuple #[.int .i64 (Wd.up (Wd.mat s.data.toList Wd.months)), .int .i64 (Wd.mat s.data.toList Wd.months).2]) ∧ Below w.heap.size w w' := by
  have SZ : ∀ x ∈ Wd.months, x.size ≤ maxLen := by unfold Wd.months maxLen; intro x hx; simp at hx; rcases hx with rfl | rfl | rfl | rfl | rfl | rfl | rfl | rfl | rfl | rfl | rfl | rfl <;> decide
  have HM := Lib.hid (fun W v (h : StS W v Wd.months) => matchr_any s v Wd.months W h hs SZ (by unfold maxLen; decide))
  have HN := Lib.hid monthsr_new
  have bd := Wd.mat_bd s.data.toList Wd.months
  have ln : Wd.months.length = 12 := rfl
  rw [ln] at bd
  clear SZ ln
  generalize Wd.mat s.data.toList Wd.months = ans at HM bd ⊢
  obtain ⟨p, q⟩ := ans
  dsimp only at HM bd ⊢
  obtain ⟨p0, p1, hq⟩ := bd
  unfold Wd.up
  rcases hq with rfl | ⟨rfl, rfl⟩
  · go_enter Tryz.func31, Tryz.ntmps31
    go_wp2_with fail
    refine (HN.out _).mono ?_; rintro e w1 ⟨rfl, hS, b1⟩
    have S1 := Lib.hid hS; have B1 := Lib.hid b1; clear hS b1
    go_wp2_with fail
    refine (HM.out _ _ S1.out).mono ?_; rintro e w2 ⟨rfl, j, rfl⟩
    go_wp2_with fail
    go_ret2
    exact ⟨rfl, below_drewN B1.out _⟩
  · go_enter Tryz.func31, Tryz.ntmps31
    go_wp2_with fail
    refine (HN.out _).mono ?_; rintro e w1 ⟨rfl, hS, b1⟩
    have S1 := Lib.hid hS; have B1 := Lib.hid b1; clear hS b1
    go_wp2_with fail
    refine (HM.out _ _ S1.out).mono ?_; rintro e w2 ⟨rfl, j, rfl⟩
    go_wp2_with fail
    go_ret2
    exact ⟨rfl, below_drewN B1.out _⟩
set_option maxHeartbeats 4000000 in
set_option maxRecDepth 100000 in
theorem mtextr_any (n : Int) (w : World) :
    Calls Tryz.prog 52 #[.int .i64 n] w fun e w' => e = .returned (.string (Wd.t3 Wd.months (n - 1))) ∧ Below w.heap.size w w' := by
  have HN := Lib.hid monthsr_new
  by_cases h : 1 ≤ n ∧ n ≤ 12
  · obtain rfl | rfl | rfl | rfl | rfl | rfl | rfl | rfl | rfl | rfl | rfl | rfl : n = 1 ∨ n = 2 ∨ n = 3 ∨ n = 4 ∨ n = 5 ∨ n = 6 ∨ n = 7 ∨ n = 8 ∨ n = 9 ∨ n = 10 ∨ n = 11 ∨ n = 12 := by omega
    · go_enter Tryz.func52, Tryz.ntmps52
      go_wp2_with fail
      refine (HN.out _).mono ?_; rintro e w1 ⟨rfl, hS, b1⟩
      have B1 := Lib.hid b1
      obtain ⟨a, ha, g⟩ := hS.get 0 (by decide)
      obtain rfl : (⟨w.heap.size, 0, none⟩ : Addr) = a := by injection ha
      clear b1 hS ha
      have g1 : w1.cell? ⟨w.heap.size, 0, none⟩ = some (.string ⟨#[74, 97, 110, 117, 97, 114, 121]⟩) := by simpa [Addr.add, Wd.months] using g
      clear g
      go_wp2_with fail
      go_ret
      exact ⟨rfl, B1.out⟩
    · go_enter Tryz.func52, Tryz.ntmps52
      go_wp2_with fail
      refine (HN.out _).mono ?_; rintro e w1 ⟨rfl, hS, b1⟩
      have B1 := Lib.hid b1
      obtain ⟨a, ha, g⟩ := hS.get 1 (by decide)
      obtain rfl : (⟨w.heap.size, 0, none⟩ : Addr) = a := by injection ha
      clear b1 hS ha
      have g1 : w1.cell? ⟨w.heap.size, 1, none⟩ = some (.string ⟨#[70, 101, 98, 114, 117, 97, 114, 121]⟩) := by simpa [Addr.add, Wd.months] using g
      clear g
      go_wp2_with fail
      go_ret
      exact ⟨rfl, B1.out⟩
    · go_enter Tryz.func52, Tryz.ntmps52
      go_wp2_with fail
      refine (HN.out _).mono ?_; rintro e w1 ⟨rfl, hS, b1⟩
      have B1 := Lib.hid b1
      obtain ⟨a, ha, g⟩ := hS.get 2 (by decide)
      obtain rfl : (⟨w.heap.size, 0, none⟩ : Addr) = a := by injection ha
      clear b1 hS ha
      have g1 : w1.cell? ⟨w.heap.size, 2, none⟩ = some (.string ⟨#[77, 97, 114, 99, 104]⟩) := by simpa [Addr.add, Wd.months] using g
      clear g
      go_wp2_with fail
      go_ret
      exact ⟨rfl, B1.out⟩
    · go_enter Tryz.func52, Tryz.ntmps52
      go_wp2_with fail
      refine (HN.out _).mono ?_; rintro e w1 ⟨rfl, hS, b1⟩
      have B1 := Lib.hid b1
      obtain ⟨a, ha, g⟩ := hS.get 3 (by decide)
      obtain rfl : (⟨w.heap.size, 0, none⟩ : Addr) = a := by injection ha
      clear b1 hS ha
      have g1 : w1.cell? ⟨w.heap.size, 3, none⟩ = some (.string ⟨#[65, 112, 114, 105, 108]⟩) := by simpa [Addr.add, Wd.months] using g
      clear g
      go_wp2_with fail
      go_ret
      exact ⟨rfl, B1.out⟩
    · go_enter Tryz.func52, Tryz.ntmps52
      go_wp2_with fail
      refine (HN.out _).mono ?_; rintro e w1 ⟨rfl, hS, b1⟩
      have B1 := Lib.hid b1
      obtain ⟨a, ha, g⟩ := hS.get 4 (by decide)
      obtain rfl : (⟨w.heap.size, 0, none⟩ : Addr) = a := by injection ha
      clear b1 hS ha
      have g1 : w1.cell? ⟨w.heap.size, 4, none⟩ = some (.string ⟨#[77, 97, 121]⟩) := by simpa [Addr.add, Wd.months] using g
      clear g
      go_wp2_with fail
      go_ret
      exact ⟨rfl, B1.out⟩
    · go_enter Tryz.func52, Tryz.ntmps52
      go_wp2_with fail
      refine (HN.out _).mono ?_; rintro e w1 ⟨rfl, hS, b1⟩
      have B1 := Lib.hid b1
      obtain ⟨a, ha, g⟩ := hS.get 5 (by decide)
      obtain rfl : (⟨w.heap.size, 0, none⟩ : Addr) = a := by injection ha
      clear b1 hS ha
      have g1 : w1.cell? ⟨w.heap.size, 5, none⟩ = some (.string ⟨#[74, 117, 110, 101]⟩) := by simpa [Addr.add, Wd.months] using g
      clear g
      go_wp2_with fail
      go_ret
      exact ⟨rfl, B1.out⟩
    · go_enter Tryz.func52, Tryz.ntmps52
      go_wp2_with fail
      refine (HN.out _).mono ?_; rintro e w1 ⟨rfl, hS, b1⟩
      have B1 := Lib.hid b1
      obtain ⟨a, ha, g⟩ := hS.get 6 (by decide)
      obtain rfl : (⟨w.heap.size, 0, none⟩ : Addr) = a := by injection ha
      clear b1 hS ha
      have g1 : w1.cell? ⟨w.heap.size, 6, none⟩ = some (.string ⟨#[74, 117, 108, 121]⟩) := by simpa [Addr.add, Wd.months] using g
      clear g
      go_wp2_with fail
      go_ret
      exact ⟨rfl, B1.out⟩
    · go_enter Tryz.func52, Tryz.ntmps52
      go_wp2_with fail
      refine (HN.out _).mono ?_; rintro e w1 ⟨rfl, hS, b1⟩
      have B1 := Lib.hid b1
      obtain ⟨a, ha, g⟩ := hS.get 7 (by decide)
      obtain rfl : (⟨w.heap.size, 0, none⟩ : Addr) = a := by injection ha
      clear b1 hS ha
      have g1 : w1.cell? ⟨w.heap.size, 7, none⟩ = some (.string ⟨#[65, 117, 103, 117, 115, 116]⟩) := by simpa [Addr.add, Wd.months] using g
      clear g
      go_wp2_with fail
      go_ret
      exact ⟨rfl, B1.out⟩
    · go_enter Tryz.func52, Tryz.ntmps52
      go_wp2_with fail
      refine (HN.out _).mono ?_; rintro e w1 ⟨rfl, hS, b1⟩
      have B1 := Lib.hid b1
      obtain ⟨a, ha, g⟩ := hS.get 8 (by decide)
      obtain rfl : (⟨w.heap.size, 0, none⟩ : Addr) = a := by injection ha
      clear b1 hS ha
      have g1 : w1.cell? ⟨w.heap.size, 8, none⟩ = some (.string ⟨#[83, 101, 112, 116, 101, 109, 98, 101, 114]⟩) := by simpa [Addr.add, Wd.months] using g
      clear g
      go_wp2_with fail
      go_ret
      exact ⟨rfl, B1.out⟩
    · go_enter Tryz.func52, Tryz.ntmps52
      go_wp2_with fail
      refine (HN.out _).mono ?_; rintro e w1 ⟨rfl, hS, b1⟩
      have B1 := Lib.hid b1
      obtain ⟨a, ha, g⟩ := hS.get 9 (by decide)
      obtain rfl : (⟨w.heap.size, 0, none⟩ : Addr) = a := by injection ha
      clear b1 hS ha
      have g1 : w1.cell? ⟨w.heap.size, 9, none⟩ = some (.string ⟨#[79, 99, 116, 111, 98, 101, 114]⟩) := by simpa [Addr.add, Wd.months] using g
      clear g
      go_wp2_with fail
      go_ret
      exact ⟨rfl, B1.out⟩
    · go_enter Tryz.func52, Tryz.ntmps52
      go_wp2_with fail
      refine (HN.out _).mono ?_; rintro e w1 ⟨rfl, hS, b1⟩
      have B1 := Lib.hid b1
      obtain ⟨a, ha, g⟩ := hS.get 10 (by decide)
      obtain rfl : (⟨w.heap.size, 0, none⟩ : Addr) = a := by injection ha
      clear b1 hS ha
      have g1 : w1.cell? ⟨w.heap.size, 10, none⟩ = some (.string ⟨#[78, 111, 118, 101, 109, 98, 101, 114]⟩) := by simpa [Addr.add, Wd.months] using g
      clear g
      go_wp2_with fail
      go_ret
      exact ⟨rfl, B1.out⟩
    · go_enter Tryz.func52, Tryz.ntmps52
      go_wp2_with fail
      refine (HN.out _).mono ?_; rintro e w1 ⟨rfl, hS, b1⟩
      have B1 := Lib.hid b1
      obtain ⟨a, ha, g⟩ := hS.get 11 (by decide)
      obtain rfl : (⟨w.heap.size, 0, none⟩ : Addr) = a := by injection ha
      clear b1 hS ha
      have g1 : w1.cell? ⟨w.heap.size, 11, none⟩ = some (.string ⟨#[68, 101, 99, 101, 109, 98, 101, 114]⟩) := by simpa [Addr.add, Wd.months] using g
      clear g
      go_wp2_with fail
      go_ret
      exact ⟨rfl, B1.out⟩
  · rw [show Wd.t3 Wd.months (n - 1) = ByteArray.empty by unfold Wd.t3; rw [if_neg]; rw [show (Wd.months.length : Int) = 12 from rfl]; omega]
    by_cases c1 : n < 1
    · go_enter Tryz.func52, Tryz.ntmps52
      go_wp2
      go_ret
      exact ⟨rfl, Below.refl _ _⟩
    · have c2 : 12 < n := by omega
      go_enter Tryz.func52, Tryz.ntmps52
      go_wp2
      go_ret
      exact ⟨rfl, Below.refl _ _⟩
end Go.Proofs.YtedbohfcbfegjaaGreatDoor

/- Rules: Read, of the reference. -/
set_option linter.unusedVariables false
set_option linter.unusedSimpArgs false
namespace Go.Proofs.YtedbohfcbfegjaaGreatDoor
open Go.RowKit Go.Sort

set_option maxHeartbeats 8000000 in
set_option maxRecDepth 100000 in
theorem rruread_nine (v : Value) (f0 f1 f2 f3 f4 f5 f6 f7 f8 : ByteArray) (w : World) (S : StS w v [f0, f1, f2, f3, f4, f5, f6, f7, f8]) (hz : ∀ x ∈ [f0, f1, f2, f3, f4, f5, f6, f7, f8], x.size ≤ 600) :
    Calls Tryz.prog 9 #[v] w fun e w' => e = .returned (.tuple #[(Ru.rd [f0, f1, f2, f3, f4, f5, f6, f7, f8]).1.v, .int .i64 (Ru.rd [f0, f1, f2, f3, f4, f5, f6, f7, f8]).2]) ∧ Below w.heap.size w w' := by
  have z0 := hz f0 (by simp); have z1 := hz f1 (by simp); have z2 := hz f2 (by simp); have z4 := hz f4 (by simp); have z5 := hz f5 (by simp); have z6 := hz f6 (by simp); have z7 := hz f7 (by simp); have z8 := hz f8 (by simp)
  have hml : ∀ {n : Nat}, n ≤ 600 → n ≤ maxLen := fun h => Nat.le_trans h (by decide)
  have NM := Lib.hid (fun W => rrname_any f0 W (hml z0))
  have YF := Lib.hid (fun W => ryfrom_any f1 W (by omega))
  have YT := Lib.hid (fun W => ryto_any f2 (Yr.fr f1.data.toList).1 W (by omega))
  have MO := Lib.hid (fun W => monthr_any f4 W (hml z4))
  have DY := Lib.hid (fun W => rday21_any f5 (Wd.up (Wd.mat f4.data.toList Wd.months)) W (by omega))
  have CR := Lib.hid (fun W => kread_any f6 W (by omega))
  have SV := Lib.hid (fun W => rsave_any f7 W (by omega))
  have LT := Lib.hid (fun W => rfLetter_any f8 W (by omega))
  have T := S
  obtain ⟨A, c, rfl, hA⟩ := T
  obtain ⟨q, rfl, hq, hcell⟩ := hA (by simp)
  have HC : Hid (∀ W, Below w.heap.size w W → W.cell? q = some (.string f0) ∧ W.cell? ⟨q.block, q.off + 1, none⟩ = some (.string f1) ∧ W.cell? ⟨q.block, q.off + 2, none⟩ = some (.string f2) ∧ W.cell? ⟨q.block, q.off + 3, none⟩ = some (.string f3) ∧ W.cell? ⟨q.block, q.off + 4, none⟩ = some (.string f4) ∧ W.cell? ⟨q.block, q.off + 5, none⟩ = some (.string f5) ∧ W.cell? ⟨q.block, q.off + 6, none⟩ = some (.string f6) ∧ W.cell? ⟨q.block, q.off + 7, none⟩ = some (.string f7) ∧ W.cell? ⟨q.block, q.off + 8, none⟩ = some (.string f8)) := fun W b => by
    have k : ∀ i x, ([f0, f1, f2, f3, f4, f5, f6, f7, f8].map Value.string)[i]? = some x → W.cell? (q.add i) = some x := fun i x hx => by
      have := hcell i x hx
      exact (b.cell (by rw [blk_add]; exact hq)).trans this
    have k0 := k 0 _ rfl
    rw [Addr.add_zero'] at k0
    have kk : ∀ i, q.add (i + 1) = ⟨q.block, q.off + (i + 1), none⟩ := fun i => by rw [Addr.add_succ']
    have k1 := k 1 _ rfl; have k2 := k 2 _ rfl; have k3 := k 3 _ rfl; have k4 := k 4 _ rfl; have k5 := k 5 _ rfl; have k6 := k 6 _ rfl; have k7 := k 7 _ rfl; have k8 := k 8 _ rfl
    rw [kk 0] at k1; rw [kk 1] at k2; rw [kk 2] at k3; rw [kk 3] at k4; rw [kk 4] at k5; rw [kk 5] at k6; rw [kk 6] at k7; rw [kk 7] at k8
    exact ⟨k0, k1, k2, k3, k4, k5, k6, k7, k8⟩
  have n1 : q.block ≠ w.heap.size := Nat.ne_of_lt hq
  have n3 : w.heap.size ≠ q.block := Nat.ne_of_gt hq
  clear hcell S hz z0 z1 z2 z4 z5 z6 z7 z8 hml hA
  rw [Ru.rd_nine]
  unfold Ru.rl Ru.R0
  obtain ⟨F, hF⟩ : ∃ F, F = Ru.fst (Ru.ws f0 f1 f2 f3 f4 f5 f6 f7 f8) := ⟨_, rfl⟩
  rw [← hF]
  unfold Ru.ws Ru.mo at hF
  unfold Ru.mo
  obtain ⟨q3, hq3⟩ : ∃ q3 : Int, q3 = if f3 = ⟨#[45]⟩ then 0 else 3 := ⟨_, rfl⟩
  rw [← hq3] at hF
  have HQ3 := Lib.hid hq3; clear hq3
  generalize Lk.nm f0.data.toList = q0 at *
  generalize (Yr.fr f1.data.toList).1 = v1 at *
  generalize (Yr.fr f1.data.toList).2 = q1 at *
  generalize (Yr.to f2.data.toList v1).1 = v2 at *
  generalize (Yr.to f2.data.toList v1).2 = q2 at *
  generalize Wd.up (Wd.mat f4.data.toList Wd.months) = v4 at *
  generalize (Wd.mat f4.data.toList Wd.months).2 = q4 at *
  generalize (Ru.dy f5.data.toList v4).1 = k at *
  generalize (Ru.dy f5.data.toList v4).2.1 = wk at *
  generalize (Ru.dy f5.data.toList v4).2.2.1 = d at *
  generalize (Ru.dy f5.data.toList v4).2.2.2 = q5 at *
  generalize (Cl.rd f6).1 = sec at *
  generalize (Cl.rd f6).2.1 = base at *
  generalize (Cl.rd f6).2.2 = q6 at *
  generalize (Ru.sv f7).1 = save at *
  generalize (Ru.sv f7).2 = q7 at *
  generalize (⟨(Fo.lt f8.data.toList).1.toArray⟩ : ByteArray) = t at *
  generalize (Fo.lt f8.data.toList).2 = q8 at *
  have HF := Lib.hid hF; clear hF
  obtain ⟨R, hR⟩ : ∃ R : Ru.R × Int, R = if F = 0 then ((⟨f0, v1, v2, v4, k, wk, d, sec, base, save, t⟩ : Ru.R), (0 : Int)) else (⟨⟨#[]⟩, 0, 0, 0, 0, 0, 0, 0, 0, 0, ⟨#[]⟩⟩, F) := ⟨_, rfl⟩
  rw [← hR]
  have HR := Lib.hid hR; clear hR
  go_enter Tryz.func9, Tryz.ntmps9
  obtain ⟨g0, g1, g2, g3, g4, g5, g6, g7, g8⟩ := HC.out _ (Below.refl _ _)
  go_wp2_with fail
  refine (YF.out _).mono ?_; rintro e w1 ⟨rfl, b1⟩
  have d1 : Below w.heap.size w w1 := below_step (by repeat (first | exact Below.refl _ _ | refine below_drewN ?_ _ | refine Below.drew ?_ | refine Below.setCell ?_ (by first | (simp; done) | (simp; omega) | omega) _ | refine Below.alloc ?_ (by first | (simp; done) | (simp; omega) | omega) _)) b1
  have B1 := Lib.hid d1
  have Z1 : Bk11 w1 (w.heap.size) (.string ⟨#[]⟩) (.int .i64 0) (.int .i64 0) (.int .i64 0) (.int .i64 0) (.int .i64 0) (.int .i64 0) (.int .i64 0) (.int .i64 0) (.int .i64 0) (.string ⟨#[]⟩) := Bk11.of b1 (by simp <;> omega) (by intro j; simp [go_sem]) (by simp [go_sem]) (by simp [go_sem]) (by simp [go_sem]) (by simp [go_sem]) (by simp [go_sem]) (by simp [go_sem]) (by simp [go_sem]) (by simp [go_sem]) (by simp [go_sem]) (by simp [go_sem]) (by simp [go_sem])
  clear b1 d1
  clear g0 g1 g2 g3 g4 g5 g6 g7 g8
  have hqk := Nat.lt_of_lt_of_le hq B1.out.size
  obtain ⟨g0, g1, g2, g3, g4, g5, g6, g7, g8⟩ := HC.out _ B1.out
  have cZ_b := Z1.hb
  have cZ_f := Z1.fz
  have cZ_0 := Z1.k0
  have cZ_1 := Z1.k1
  have cZ_2 := Z1.k2
  have cZ_3 := Z1.k3
  have cZ_4 := Z1.k4
  have cZ_5 := Z1.k5
  have cZ_6 := Z1.k6
  have cZ_7 := Z1.k7
  have cZ_8 := Z1.k8
  have cZ_9 := Z1.k9
  have cZ_10 := Z1.k10
  go_wp2_with fail
  clear cZ_b cZ_f cZ_0 cZ_1 cZ_2 cZ_3 cZ_4 cZ_5 cZ_6 cZ_7 cZ_8 cZ_9 cZ_10
  refine (YT.out _).mono ?_; rintro e w2 ⟨rfl, b2⟩
  have d2 : Below w1.heap.size w1 w2 := below_step (by repeat (first | exact Below.refl _ _ | refine below_drewN ?_ _ | refine Below.drew ?_ | refine Below.setCell ?_ (by first | (simp; done) | (simp; omega) | omega) _ | refine Below.alloc ?_ (by first | (simp; done) | (simp; omega) | omega) _)) b2
  have B2 := Lib.hid (below_step B1.out d2)
  have Z2 := Z1.keep d2
  clear Z1 b2 d2 B1
  clear g0 g1 g2 g3 g4 g5 g6 g7 g8
  have hqk := Nat.lt_of_lt_of_le hq B2.out.size
  obtain ⟨g0, g1, g2, g3, g4, g5, g6, g7, g8⟩ := HC.out _ B2.out
  obtain ⟨nb, hnb⟩ : ∃ nb : Bool, (f3.toList == [45]) = nb := ⟨_, rfl⟩
  have cZ_b := Z2.hb
  have cZ_f := Z2.fz
  have cZ_0 := Z2.k0
  have cZ_1 := Z2.k1
  have cZ_2 := Z2.k2
  have cZ_3 := Z2.k3
  have cZ_4 := Z2.k4
  have cZ_5 := Z2.k5
  have cZ_6 := Z2.k6
  have cZ_7 := Z2.k7
  have cZ_8 := Z2.k8
  have cZ_9 := Z2.k9
  have cZ_10 := Z2.k10
  go_upto_if 47 with fail
  clear cZ_b cZ_f cZ_0 cZ_1 cZ_2 cZ_3 cZ_4 cZ_5 cZ_6 cZ_7 cZ_8 cZ_9 cZ_10
  go_cut [8] from 44 (fun x wx => x = .int .i64 q3 ∧ wx = w2)
  case first =>
    cases nb
    · have h3 : ¬ f3 = ⟨#[45]⟩ := fun h => by rw [h, ByteArray.toList_eq] at hnb; simp at hnb
      obtain rfl : q3 = 3 := by rw [HQ3.out, if_neg h3]
      go_wp2_with fail
      go_meet
      exact ⟨rfl, rfl⟩
    · have h3 : f3 = ⟨#[45]⟩ := by
        rw [beq_iff_eq, ByteArray.toList_eq] at hnb
        exact ByteArray.ext (Array.toList_inj.1 hnb)
      obtain rfl : q3 = 0 := by rw [HQ3.out, if_pos h3]
      go_wp2_with fail
      go_meet
      exact ⟨rfl, rfl⟩
  obtain ⟨rfl, hwc⟩ := hcut
  obtain rfl : w2 = wc := hwc.symm
  clear hnb
  have cZ_b := Z2.hb
  have cZ_f := Z2.fz
  have cZ_0 := Z2.k0
  have cZ_1 := Z2.k1
  have cZ_2 := Z2.k2
  have cZ_3 := Z2.k3
  have cZ_4 := Z2.k4
  have cZ_5 := Z2.k5
  have cZ_6 := Z2.k6
  have cZ_7 := Z2.k7
  have cZ_8 := Z2.k8
  have cZ_9 := Z2.k9
  have cZ_10 := Z2.k10
  go_wp2_with fail
  clear cZ_b cZ_f cZ_0 cZ_1 cZ_2 cZ_3 cZ_4 cZ_5 cZ_6 cZ_7 cZ_8 cZ_9 cZ_10
  refine (MO.out _).mono ?_; rintro e w3 ⟨rfl, b3⟩
  have d3 : Below w2.heap.size w2 w3 := below_step (by repeat (first | exact Below.refl _ _ | refine below_drewN ?_ _ | refine Below.drew ?_ | refine Below.setCell ?_ (by first | (simp; done) | (simp; omega) | omega) _ | refine Below.alloc ?_ (by first | (simp; done) | (simp; omega) | omega) _)) b3
  have B3 := Lib.hid (below_step B2.out d3)
  have Z3 := Z2.keep d3
  clear Z2 b3 d3 B2
  clear g0 g1 g2 g3 g4 g5 g6 g7 g8
  have hqk := Nat.lt_of_lt_of_le hq B3.out.size
  obtain ⟨g0, g1, g2, g3, g4, g5, g6, g7, g8⟩ := HC.out _ B3.out
  have cZ_b := Z3.hb
  have cZ_f := Z3.fz
  have cZ_0 := Z3.k0
  have cZ_1 := Z3.k1
  have cZ_2 := Z3.k2
  have cZ_3 := Z3.k3
  have cZ_4 := Z3.k4
  have cZ_5 := Z3.k5
  have cZ_6 := Z3.k6
  have cZ_7 := Z3.k7
  have cZ_8 := Z3.k8
  have cZ_9 := Z3.k9
  have cZ_10 := Z3.k10
  go_wp2_with fail
  clear cZ_b cZ_f cZ_0 cZ_1 cZ_2 cZ_3 cZ_4 cZ_5 cZ_6 cZ_7 cZ_8 cZ_9 cZ_10
  refine (DY.out _).mono ?_; rintro e w4 ⟨rfl, b4⟩
  have d4 : Below w3.heap.size w3 w4 := below_step (by repeat (first | exact Below.refl _ _ | refine below_drewN ?_ _ | refine Below.drew ?_ | refine Below.setCell ?_ (by first | (simp; done) | (simp; omega) | omega) _ | refine Below.alloc ?_ (by first | (simp; done) | (simp; omega) | omega) _)) b4
  have B4 := Lib.hid (below_step B3.out d4)
  have Z4 := Z3.keep d4
  clear Z3 b4 d4 B3
  clear g0 g1 g2 g3 g4 g5 g6 g7 g8
  have hqk := Nat.lt_of_lt_of_le hq B4.out.size
  obtain ⟨g0, g1, g2, g3, g4, g5, g6, g7, g8⟩ := HC.out _ B4.out
  have cZ_b := Z4.hb
  have cZ_f := Z4.fz
  have cZ_0 := Z4.k0
  have cZ_1 := Z4.k1
  have cZ_2 := Z4.k2
  have cZ_3 := Z4.k3
  have cZ_4 := Z4.k4
  have cZ_5 := Z4.k5
  have cZ_6 := Z4.k6
  have cZ_7 := Z4.k7
  have cZ_8 := Z4.k8
  have cZ_9 := Z4.k9
  have cZ_10 := Z4.k10
  go_wp2_with fail
  clear cZ_b cZ_f cZ_0 cZ_1 cZ_2 cZ_3 cZ_4 cZ_5 cZ_6 cZ_7 cZ_8 cZ_9 cZ_10
  refine (CR.out _).mono ?_; rintro e w5 ⟨rfl, b5⟩
  have d5 : Below w4.heap.size w4 w5 := below_step (by repeat (first | exact Below.refl _ _ | refine below_drewN ?_ _ | refine Below.drew ?_ | refine Below.setCell ?_ (by first | (simp; done) | (simp; omega) | omega) _ | refine Below.alloc ?_ (by first | (simp; done) | (simp; omega) | omega) _)) b5
  have B5 := Lib.hid (below_step B4.out d5)
  have Z5 := Z4.keep d5
  have aON := B4.out.size
  have nONZ := Nat.ne_of_lt Z4.hb
  have oONZ := Nat.ne_of_gt Z4.hb
  have ON5 : Bk3 w5 (w4.heap.size) (.int .i64 k) (.int .i64 wk) (.int .i64 d) := Bk3.of b5 (by simp <;> omega) (by intro j; simp [go_sem]) (by simp [go_sem]) (by simp [go_sem]) (by simp [go_sem])
  clear Z4 b5 d5 B4
  clear g0 g1 g2 g3 g4 g5 g6 g7 g8
  have hqk := Nat.lt_of_lt_of_le hq B5.out.size
  obtain ⟨g0, g1, g2, g3, g4, g5, g6, g7, g8⟩ := HC.out _ B5.out
  have cZ_b := Z5.hb
  have cZ_f := Z5.fz
  have cZ_0 := Z5.k0
  have cZ_1 := Z5.k1
  have cZ_2 := Z5.k2
  have cZ_3 := Z5.k3
  have cZ_4 := Z5.k4
  have cZ_5 := Z5.k5
  have cZ_6 := Z5.k6
  have cZ_7 := Z5.k7
  have cZ_8 := Z5.k8
  have cZ_9 := Z5.k9
  have cZ_10 := Z5.k10
  have cON_b := ON5.hb
  have cON_f := ON5.fz
  have cON_0 := ON5.k0
  have cON_1 := ON5.k1
  have cON_2 := ON5.k2
  go_wp2_with fail
  clear cZ_b cZ_f cZ_0 cZ_1 cZ_2 cZ_3 cZ_4 cZ_5 cZ_6 cZ_7 cZ_8 cZ_9 cZ_10 cON_b cON_f cON_0 cON_1 cON_2
  refine (SV.out _).mono ?_; rintro e w6 ⟨rfl, b6⟩
  have d6 : Below w5.heap.size w5 w6 := below_step (by repeat (first | exact Below.refl _ _ | refine below_drewN ?_ _ | refine Below.drew ?_ | refine Below.setCell ?_ (by first | (simp; done) | (simp; omega) | omega) _ | refine Below.alloc ?_ (by first | (simp; done) | (simp; omega) | omega) _)) b6
  have B6 := Lib.hid (below_step B5.out d6)
  have Z6 := Z5.keep d6
  have ON6 := ON5.keep d6
  have aAT := B5.out.size
  have nATZ := Nat.ne_of_lt Z5.hb
  have oATZ := Nat.ne_of_gt Z5.hb
  have nATON := Nat.ne_of_lt ON5.hb
  have oATON := Nat.ne_of_gt ON5.hb
  have AT6 : Bk2 w6 (w5.heap.size) (.int .i64 sec) (.int .i64 base) := Bk2.of b6 (by simp <;> omega) (by intro j; simp [go_sem]) (by simp [go_sem]) (by simp [go_sem])
  clear Z5 ON5 b6 d6 B5
  clear g0 g1 g2 g3 g4 g5 g6 g7 g8
  have hqk := Nat.lt_of_lt_of_le hq B6.out.size
  obtain ⟨g0, g1, g2, g3, g4, g5, g6, g7, g8⟩ := HC.out _ B6.out
  have cZ_b := Z6.hb
  have cZ_f := Z6.fz
  have cZ_0 := Z6.k0
  have cZ_1 := Z6.k1
  have cZ_2 := Z6.k2
  have cZ_3 := Z6.k3
  have cZ_4 := Z6.k4
  have cZ_5 := Z6.k5
  have cZ_6 := Z6.k6
  have cZ_7 := Z6.k7
  have cZ_8 := Z6.k8
  have cZ_9 := Z6.k9
  have cZ_10 := Z6.k10
  have cON_b := ON6.hb
  have cON_f := ON6.fz
  have cON_0 := ON6.k0
  have cON_1 := ON6.k1
  have cON_2 := ON6.k2
  have cAT_b := AT6.hb
  have cAT_f := AT6.fz
  have cAT_0 := AT6.k0
  have cAT_1 := AT6.k1
  go_wp2_with fail
  refine (LT.out _).mono ?_; rintro e u1 ⟨rfl, rfl⟩
  clear cZ_b cZ_f cZ_0 cZ_1 cZ_2 cZ_3 cZ_4 cZ_5 cZ_6 cZ_7 cZ_8 cZ_9 cZ_10 cON_b cON_f cON_0 cON_1 cON_2 cAT_b cAT_f cAT_0 cAT_1
  go_upto_region 15 with (fail)
  obtain ⟨bz, hbz⟩ : ∃ b, b = w.heap.size := ⟨_, rfl⟩
  obtain ⟨bo, hbo⟩ : ∃ b, b = (w4.heap.size) := ⟨_, rfl⟩
  obtain ⟨ba, hba⟩ : ∃ b, b = (w5.heap.size) := ⟨_, rfl⟩
  obtain ⟨bs, hbs⟩ : ∃ b, b = w6.heap.size := ⟨_, rfl⟩
  go_cut [96, 97, 98] from 21 (fun x n i wx => x = .slice (some ⟨bs, 0, none⟩) 9 9 ∧ n = .int .i64 9 ∧ i = .int .i64 0 ∧ Below w.heap.size w wx ∧ Bk11 wx bz (.string ⟨#[]⟩) (.int .i64 0) (.int .i64 0) (.int .i64 0) (.int .i64 0) (.int .i64 0) (.int .i64 0) (.int .i64 0) (.int .i64 0) (.int .i64 0) (.string ⟨#[]⟩) ∧ Bk3 wx bo (.int .i64 k) (.int .i64 wk) (.int .i64 d) ∧ Bk2 wx ba (.int .i64 sec) (.int .i64 base) ∧ Bk9 wx bs (.int .i64 q0) (.int .i64 q1) (.int .i64 q2) (.int .i64 q3) (.int .i64 q4) (.int .i64 q5) (.int .i64 q6) (.int .i64 q7) (.int .i64 q8))
  case first =>
    go_wp2_with fail
    refine (NM.out _).mono ?_; rintro e u1 ⟨rfl, rfl⟩
    go_wp2_with fail
    go_meet
    subst hbz; subst hbo; subst hba; subst hbs
    have da : ∀ (o : Obj), Below w6.heap.size w6 (w6.alloc o) := fun o => (Below.refl _ _).alloc (Nat.le_refl _) _
    exact ⟨rfl, rfl, rfl, below_step B6.out (da _), Z6.keep (da _), ON6.keep (da _), AT6.keep (da _), ⟨by simp, by intro j; simp [go_sem], by simp [go_sem], by simp [go_sem], by simp [go_sem], by simp [go_sem], by simp [go_sem], by simp [go_sem], by simp [go_sem], by simp [go_sem], by simp [go_sem]⟩⟩
  obtain ⟨rfl, rfl, rfl, b9, Z9, O9, A9, S9⟩ := hcut
  subst hbz; subst hbo; subst hba; subst hbs
  clear Z6 ON6 AT6 g0 g1 g2 g3 g4 g5 g6 g7 g8
  have B9 := Lib.hid b9; have ZZ := Lib.hid Z9; have OO := Lib.hid O9; have AA := Lib.hid A9
  obtain ⟨qs, hqs⟩ : ∃ l : List Int, l = [q0, q1, q2, q3, q4, q5, q6, q7, q8] := ⟨_, rfl⟩
  have hlen : qs.length = 9 := by rw [hqs]; rfl
  have hcs : ∀ (j : Nat) (h : j < 9), wc.cell? ⟨w6.heap.size, j, none⟩ = some (.int .i64 (qs[j]'(by omega))) := by
    intro j h
    subst hqs
    match j, h with
    | 0, _ => exact S9.k0
    | 1, _ => exact S9.k1
    | 2, _ => exact S9.k2
    | 3, _ => exact S9.k3
    | 4, _ => exact S9.k4
    | 5, _ => exact S9.k5
    | 6, _ => exact S9.k6
    | 7, _ => exact S9.k7
    | 8, _ => exact S9.k8
    | n + 9, h => omega
  have hfs : Ru.fst qs = F := by rw [hqs]; exact HF.out.symm
  have HCS := Lib.hid hcs
  clear b9 Z9 O9 A9 S9 hcs hqs
  go_wp2_with fail
  go_loopw [98] (fun i wr => ∃ k : Nat, k ≤ 9 ∧ i = .int .i64 k ∧ Hid (Ru.fst (qs.drop k) = F) ∧ wr = wc) (fun i _ => 9 - (intOf i).toNat)
  case atStart => exact ⟨0, Nat.zero_le _, rfl, hfs, rfl⟩
  case round =>
    obtain ⟨k9, hk9, rfl, hinv, hw⟩ := hrel
    obtain rfl : wc = wr := hw.symm
    by_cases hlt : k9 < 9
    · have hc := HCS.out k9 hlt
      have hi := hinv.out
      rw [List.drop_eq_getElem_cons (by omega)] at hi
      generalize qs[k9]'(by omega) = x at hc hi
      have hdec : decide (k9 < 9) = true := decide_eq_true hlt
      by_cases hx : x = 0
      · rw [Ru.fst_yes hx] at hi
        have HI := Lib.hid hi
        clear hi hinv
        subst hx
        go_wp2_with fail
        go_roundw
        case rel => exact ⟨k9 + 1, by omega, by go_num, HI, by first | rfl | trivial⟩
        case measure => simp [intOf]; omega
      · rw [Ru.fst_no hx] at hi
        subst hi
        have hb : (x == 0) = false := by rw [beq_eq_false_iff_ne]; exact hx
        clear hinv
        have Z9 := ZZ.out
        have z_b := Z9.hb; have z_f := Z9.fz; have z_0 := Z9.k0; have z_1 := Z9.k1; have z_2 := Z9.k2; have z_3 := Z9.k3; have z_4 := Z9.k4; have z_5 := Z9.k5; have z_6 := Z9.k6; have z_7 := Z9.k7; have z_8 := Z9.k8; have z_9 := Z9.k9; have z_10 := Z9.k10
        clear z_b z_f z_0 z_1 z_2 z_3 z_4 z_5 z_6 z_7 z_8 z_9 z_10 Z9
        go_upto_region 19 with (fail)
        refine wp_region_lit ?_
        go_step; go_simp; go_step
        go_step; go_simp; go_step
        refine wpList_st11 ?_ 28 (Operand.tmp 2) (Operand.tmp 104) ?_ w.heap.size (.string ⟨#[]⟩) (.int .i64 0) (.int .i64 0) (.int .i64 0) (.int .i64 0) (.int .i64 0) (.int .i64 0) (.int .i64 0) (.int .i64 0) (.int .i64 0) (.string ⟨#[]⟩) ?_ ?_ ?_ ZZ.out ?_ (fun W9 C hbel => ?_)
        · rfl
        · rfl
        · rfl
        · rfl
        · kernel_rfl
        · simp [Value.oneCell']
        have d9 := hbel _ _ (Nat.le_refl _) B9.out
        have e0 := C.k0; have e1 := C.k1; have e2 := C.k2; have e3 := C.k3; have e4 := C.k4; have e5 := C.k5; have e6 := C.k6; have e7 := C.k7; have e8 := C.k8; have e9 := C.k9; have e10 := C.k10
        clear C hbel
        go_step; go_simp; go_step
        go_step; go_simp; go_step
        go_step
        simp +zetaDelta only [Exit.then, Exit.inBlock]
        exact bodyPost_ret (v := .tuple #[.agg #[.string ⟨#[]⟩, .int .i64 0, .int .i64 0, .int .i64 0, .int .i64 0, .int .i64 0, .int .i64 0, .int .i64 0, .int .i64 0, .int .i64 0, .string ⟨#[]⟩], .int .i64 x]) (by simp [results, Tryz.results9, go_sem, e0, e1, e2, e3, e4, e5, e6, e7, e8, e9, e10]) rfl ⟨by rw [HR.out, if_neg hx]; rfl, d9⟩
    · obtain rfl : k9 = 9 := by omega
      have hi := hinv.out
      rw [List.drop_of_length_le (by omega)] at hi
      have hF0 : F = 0 := hi.symm
      clear hi hinv
      subst hF0
      obtain ⟨g0, g1, g2, g3, g4, g5, g6, g7, g8⟩ := HC.out _ B9.out
      clear g1 g2 g3 g4 g5 g6 g7 g8
      have Z9 := ZZ.out; have O9 := OO.out; have A9 := AA.out
      have z_b := Z9.hb; have z_f := Z9.fz; have z_0 := Z9.k0; have z_1 := Z9.k1; have z_2 := Z9.k2; have z_3 := Z9.k3; have z_4 := Z9.k4; have z_5 := Z9.k5; have z_6 := Z9.k6; have z_7 := Z9.k7; have z_8 := Z9.k8; have z_9 := Z9.k9; have z_10 := Z9.k10
      have o_0 := O9.k0; have o_1 := O9.k1; have o_2 := O9.k2; have a_0 := A9.k0; have a_1 := A9.k1
      go_upto_region 21 with (fail)
      go_big_region
      obtain ⟨W9, hW9⟩ : ∃ W9, W9 = (((((((((((wc.setCell ⟨w.heap.size, 0, none⟩ (.string f0)).setCell ⟨w.heap.size, 1, none⟩ (.int .i64 v1)).setCell ⟨w.heap.size, 2, none⟩ (.int .i64 v2)).setCell ⟨w.heap.size, 3, none⟩ (.int .i64 v4)).setCell ⟨w.heap.size, 4, none⟩ (.int .i64 k)).setCell ⟨w.heap.size, 5, none⟩ (.int .i64 wk)).setCell ⟨w.heap.size, 6, none⟩ (.int .i64 d)).setCell ⟨w.heap.size, 7, none⟩ (.int .i64 sec)).setCell ⟨w.heap.size, 8, none⟩ (.int .i64 base)).setCell ⟨w.heap.size, 9, none⟩ (.int .i64 save)).setCell ⟨w.heap.size, 10, none⟩ (.string t)).drew := ⟨_, rfl⟩
      rw [← hW9]
      obtain ⟨W8, hW8⟩ : ∃ W8, W8 = (((((((((((wc.setCell ⟨w.heap.size, 0, none⟩ (.string f0)).setCell ⟨w.heap.size, 1, none⟩ (.int .i64 v1)).setCell ⟨w.heap.size, 2, none⟩ (.int .i64 v2)).setCell ⟨w.heap.size, 3, none⟩ (.int .i64 v4)).setCell ⟨w.heap.size, 4, none⟩ (.int .i64 k)).setCell ⟨w.heap.size, 5, none⟩ (.int .i64 wk)).setCell ⟨w.heap.size, 6, none⟩ (.int .i64 d)).setCell ⟨w.heap.size, 7, none⟩ (.int .i64 sec)).setCell ⟨w.heap.size, 8, none⟩ (.int .i64 base)).setCell ⟨w.heap.size, 9, none⟩ (.int .i64 save)).setCell ⟨w.heap.size, 10, none⟩ (.string t)) := ⟨_, rfl⟩
      rw [← hW8] at hW9
      have C0 := set11 Z9 hW8
      have d0 := below_set11 B9.out (Nat.le_refl _) hW8
      have C := C0.keep (Below.drew (Below.refl _ _))
      have d9 := d0.drew
      rw [← hW9] at C d9
      clear hW8 hW9 C0 d0 z_b z_f z_0 z_1 z_2 z_3 z_4 z_5 z_6 z_7 z_8 z_9 z_10 o_0 o_1 o_2 a_0 a_1
      have e0 := C.k0; have e1 := C.k1; have e2 := C.k2; have e3 := C.k3; have e4 := C.k4; have e5 := C.k5; have e6 := C.k6; have e7 := C.k7; have e8 := C.k8; have e9 := C.k9; have e10 := C.k10
      clear C
      go_simp
      go_step
      go_step
      simp +zetaDelta only [Exit.then, Exit.inBlock]
      exact bodyPost_ret (v := .tuple #[.agg #[.string f0, .int .i64 v1, .int .i64 v2, .int .i64 v4, .int .i64 k, .int .i64 wk, .int .i64 d, .int .i64 sec, .int .i64 base, .int .i64 save, .string t], .int .i64 0]) (by simp [results, Tryz.results9, go_sem, e0, e1, e2, e3, e4, e5, e6, e7, e8, e9, e10]) rfl ⟨by rw [HR.out, if_pos rfl]; rfl, d9⟩
end Go.Proofs.YtedbohfcbfegjaaGreatDoor
