/- Words: the reference's Month, Weekday, MonthText, WeekdayText. -/
import Derived.Test.YtcmnfbbccacpcabDoorWdE
import Derived.Test.YtcmnfbbccacpcabDoorLiv15
set_option linter.unusedVariables false
set_option linter.unusedSimpArgs false
namespace Go.Proofs.YtcmnfbbccacpcabDoor
open Go.RowKit Go.Sort

set_option maxRecDepth 100000 in
theorem monthsr_new (w : World) : Calls Tryd.prog 44 #[] w fun e w' => e = .returned (.slice (some ⟨w.heap.size, 0, none⟩) 12 12) ∧ StS w' (.slice (some ⟨w.heap.size, 0, none⟩) 12 12) Wd.months ∧ Below w.heap.size w w' := by
  go_enter Tryd.func44, Tryd.ntmps44
  go_wp2
  go_ret
  exact ⟨rfl, StS.new _ Wd.months _ 12, (Below.refl _ _).alloc (Nat.le_refl _) _⟩
set_option maxRecDepth 100000 in
theorem daysr_new (w : World) : Calls Tryd.prog 45 #[] w fun e w' => e = .returned (.slice (some ⟨w.heap.size, 0, none⟩) 7 7) ∧ StS w' (.slice (some ⟨w.heap.size, 0, none⟩) 7 7) Wd.days ∧ Below w.heap.size w w' := by
  go_enter Tryd.func45, Tryd.ntmps45
  go_wp2
  go_ret
  exact ⟨rfl, StS.new _ Wd.days _ 7, (Below.refl _ _).alloc (Nat.le_refl _) _⟩
set_option maxHeartbeats 2000000 in
set_option maxRecDepth 100000 in
theorem monthr_any (s : ByteArray) (w : World) (hs : s.size ≤ maxLen) :
    Calls Tryd.prog 23 #[.string s] w fun e w' => e = .returned (.tuple #[.int .i64 (Wd.up (Wd.mat s.data.toList Wd.months)), .int .i64 (Wd.mat s.data.toList Wd.months).2]) ∧ Below w.heap.size w w' := by
  have SZ : ∀ x ∈ Wd.months, x.size ≤ maxLen := by unfold Wd.months maxLen; intro x hx; simp at hx; rcases hx with rfl | rfl | rfl | rfl | rfl | rfl | rfl | rfl | rfl | rfl | rfl | rfl <;> decide
  have HM := Lib.hid (fun W v (h : StS W v Wd.months) => matchr_any s v Wd.months W h hs SZ (by unfold maxLen; decide))
  have HN := Lib.hid monthsr_new
  have bd := Wd.mat_bd s.data.toList Wd.months
  have ln : Wd.months.length = 12 := rfl
  rw [ln] at bd
  clear SZ ln
  generalize Wd.mat s.data.toList Wd.months = ans at HM bd ⊢
  obtain ⟨p, q⟩ := ans
  dsimp only at HM bd ⊢
  obtain ⟨p0, p1, hq⟩ := bd
  unfold Wd.up
  rcases hq with rfl | ⟨rfl, rfl⟩
  · go_enter Tryd.func23, Tryd.ntmps23
    go_wp2_with fail
    refine (HN.out _).mono ?_; rintro e w1 ⟨rfl, hS, b1⟩
    have S1 := Lib.hid hS; have B1 := Lib.hid b1; clear hS b1
    go_wp2_with fail
    refine (HM.out _ _ S1.out).mono ?_; rintro e w2 ⟨rfl, j, rfl⟩
    go_wp2_with fail
    go_ret2
    exact ⟨rfl, below_drewN B1.out _⟩
  · go_enter Tryd.func23, Tryd.ntmps23
    go_wp2_with fail
    refine (HN.out _).mono ?_; rintro e w1 ⟨rfl, hS, b1⟩
    have S1 := Lib.hid hS; have B1 := Lib.hid b1; clear hS b1
    go_wp2_with fail
    refine (HM.out _ _ S1.out).mono ?_; rintro e w2 ⟨rfl, j, rfl⟩
    go_wp2_with fail
    go_ret2
    exact ⟨rfl, below_drewN B1.out _⟩
set_option maxHeartbeats 2000000 in
set_option maxRecDepth 100000 in
theorem weekdayr_any (s : ByteArray) (w : World) (hs : s.size ≤ maxLen) :
    Calls Tryd.prog 25 #[.string s] w fun e w' => e = .returned (.tuple #[.int .i64 (Wd.mat s.data.toList Wd.days).1, .int .i64 (Wd.mat s.data.toList Wd.days).2]) ∧ Below w.heap.size w w' := by
  have SZ : ∀ x ∈ Wd.days, x.size ≤ maxLen := by unfold Wd.days maxLen; intro x hx; simp at hx; rcases hx with rfl | rfl | rfl | rfl | rfl | rfl | rfl <;> decide
  have HM := Lib.hid (fun W v (h : StS W v Wd.days) => matchr_any s v Wd.days W h hs SZ (by unfold maxLen; decide))
  have HN := Lib.hid daysr_new
  have bd := Wd.mat_bd s.data.toList Wd.days
  have ln : Wd.days.length = 7 := rfl
  rw [ln] at bd
  clear SZ ln
  generalize Wd.mat s.data.toList Wd.days = ans at HM bd ⊢
  obtain ⟨p, q⟩ := ans
  dsimp only at HM bd ⊢
  obtain ⟨p0, p1, hq⟩ := bd
  go_enter Tryd.func25, Tryd.ntmps25
  go_wp2_with fail
  refine (HN.out _).mono ?_; rintro e w1 ⟨rfl, hS, b1⟩
  have S1 := Lib.hid hS; have B1 := Lib.hid b1; clear hS b1
  go_wp2_with fail
  refine (HM.out _ _ S1.out).mono ?_; rintro e w2 ⟨rfl, j, rfl⟩
  go_wp2_with fail
  go_ret2
  exact ⟨rfl, below_drewN B1.out _⟩
set_option maxHeartbeats 4000000 in
set_option maxRecDepth 100000 in
theorem mtextr_any (n : Int) (w : World) :
    Calls Tryd.prog 29 #[.int .i64 n] w fun e w' => e = .returned (.string (Wd.t3 Wd.months (n - 1))) ∧ Below w.heap.size w w' := by
  have HN := Lib.hid monthsr_new
  by_cases h : 1 ≤ n ∧ n ≤ 12
  · obtain rfl | rfl | rfl | rfl | rfl | rfl | rfl | rfl | rfl | rfl | rfl | rfl : n = 1 ∨ n = 2 ∨ n = 3 ∨ n = 4 ∨ n = 5 ∨ n = 6 ∨ n = 7 ∨ n = 8 ∨ n = 9 ∨ n = 10 ∨ n = 11 ∨ n = 12 := by omega
    · go_enter Tryd.func29, Tryd.ntmps29
      go_wp2_with fail
      refine (HN.out _).mono ?_; rintro e w1 ⟨rfl, hS, b1⟩
      have B1 := Lib.hid b1
      obtain ⟨a, ha, g⟩ := hS.get 0 (by decide)
      obtain rfl : (⟨w.heap.size, 0, none⟩ : Addr) = a := by injection ha
      clear b1 hS ha
      have g1 : w1.cell? ⟨w.heap.size, 0, none⟩ = some (.string ⟨#[74, 97, 110, 117, 97, 114, 121]⟩) := by simpa [Addr.add, Wd.months] using g
      clear g
      go_wp2_with fail
      go_ret
      exact ⟨rfl, B1.out⟩
    · go_enter Tryd.func29, Tryd.ntmps29
      go_wp2_with fail
      refine (HN.out _).mono ?_; rintro e w1 ⟨rfl, hS, b1⟩
      have B1 := Lib.hid b1
      obtain ⟨a, ha, g⟩ := hS.get 1 (by decide)
      obtain rfl : (⟨w.heap.size, 0, none⟩ : Addr) = a := by injection ha
      clear b1 hS ha
      have g1 : w1.cell? ⟨w.heap.size, 1, none⟩ = some (.string ⟨#[70, 101, 98, 114, 117, 97, 114, 121]⟩) := by simpa [Addr.add, Wd.months] using g
      clear g
      go_wp2_with fail
      go_ret
      exact ⟨rfl, B1.out⟩
    · go_enter Tryd.func29, Tryd.ntmps29
      go_wp2_with fail
      refine (HN.out _).mono ?_; rintro e w1 ⟨rfl, hS, b1⟩
      have B1 := Lib.hid b1
      obtain ⟨a, ha, g⟩ := hS.get 2 (by decide)
      obtain rfl : (⟨w.heap.size, 0, none⟩ : Addr) = a := by injection ha
      clear b1 hS ha
      have g1 : w1.cell? ⟨w.heap.size, 2, none⟩ = some (.string ⟨#[77, 97, 114, 99, 104]⟩) := by simpa [Addr.add, Wd.months] using g
      clear g
      go_wp2_with fail
      go_ret
      exact ⟨rfl, B1.out⟩
    · go_enter Tryd.func29, Tryd.ntmps29
      go_wp2_with fail
      refine (HN.out _).mono ?_; rintro e w1 ⟨rfl, hS, b1⟩
      have B1 := Lib.hid b1
      obtain ⟨a, ha, g⟩ := hS.get 3 (by decide)
      obtain rfl : (⟨w.heap.size, 0, none⟩ : Addr) = a := by injection ha
      clear b1 hS ha
      have g1 : w1.cell? ⟨w.heap.size, 3, none⟩ = some (.string ⟨#[65, 112, 114, 105, 108]⟩) := by simpa [Addr.add, Wd.months] using g
      clear g
      go_wp2_with fail
      go_ret
      exact ⟨rfl, B1.out⟩
    · go_enter Tryd.func29, Tryd.ntmps29
      go_wp2_with fail
      refine (HN.out _).mono ?_; rintro e w1 ⟨rfl, hS, b1⟩
      have B1 := Lib.hid b1
      obtain ⟨a, ha, g⟩ := hS.get 4 (by decide)
      obtain rfl : (⟨w.heap.size, 0, none⟩ : Addr) = a := by injection ha
      clear b1 hS ha
      have g1 : w1.cell? ⟨w.heap.size, 4, none⟩ = some (.string ⟨#[77, 97, 121]⟩) := by simpa [Addr.add, Wd.months] using g
      clear g
      go_wp2_with fail
      go_ret
      exact ⟨rfl, B1.out⟩
    · go_enter Tryd.func29, Tryd.ntmps29
      go_wp2_with fail
      refine (HN.out _).mono ?_; rintro e w1 ⟨rfl, hS, b1⟩
      have B1 := Lib.hid b1
      obtain ⟨a, ha, g⟩ := hS.get 5 (by decide)
      obtain rfl : (⟨w.heap.size, 0, none⟩ : Addr) = a := by injection ha
      clear b1 hS ha
      have g1 : w1.cell? ⟨w.heap.size, 5, none⟩ = some (.string ⟨#[74, 117, 110, 101]⟩) := by simpa [Addr.add, Wd.months] using g
      clear g
      go_wp2_with fail
      go_ret
      exact ⟨rfl, B1.out⟩
    · go_enter Tryd.func29, Tryd.ntmps29
      go_wp2_with fail
      refine (HN.out _).mono ?_; rintro e w1 ⟨rfl, hS, b1⟩
      have B1 := Lib.hid b1
      obtain ⟨a, ha, g⟩ := hS.get 6 (by decide)
      obtain rfl : (⟨w.heap.size, 0, none⟩ : Addr) = a := by injection ha
      clear b1 hS ha
      have g1 : w1.cell? ⟨w.heap.size, 6, none⟩ = some (.string ⟨#[74, 117, 108, 121]⟩) := by simpa [Addr.add, Wd.months] using g
      clear g
      go_wp2_with fail
      go_ret
      exact ⟨rfl, B1.out⟩
    · go_enter Tryd.func29, Tryd.ntmps29
      go_wp2_with fail
      refine (HN.out _).mono ?_; rintro e w1 ⟨rfl, hS, b1⟩
      have B1 := Lib.hid b1
      obtain ⟨a, ha, g⟩ := hS.get 7 (by decide)
      obtain rfl : (⟨w.heap.size, 0, none⟩ : Addr) = a := by injection ha
      clear b1 hS ha
      have g1 : w1.cell? ⟨w.heap.size, 7, none⟩ = some (.string ⟨#[65, 117, 103, 117, 115, 116]⟩) := by simpa [Addr.add, Wd.months] using g
      clear g
      go_wp2_with fail
      go_ret
      exact ⟨rfl, B1.out⟩
    · go_enter Tryd.func29, Tryd.ntmps29
      go_wp2_with fail
      refine (HN.out _).mono ?_; rintro e w1 ⟨rfl, hS, b1⟩
      have B1 := Lib.hid b1
      obtain ⟨a, ha, g⟩ := hS.get 8 (by decide)
      obtain rfl : (⟨w.heap.size, 0, none⟩ : Addr) = a := by injection ha
      clear b1 hS ha
      have g1 : w1.cell? ⟨w.heap.size, 8, none⟩ = some (.string ⟨#[83, 101, 112, 116, 101, 109, 98, 101, 114]⟩) := by simpa [Addr.add, Wd.months] using g
      clear g
      go_wp2_with fail
      go_ret
      exact ⟨rfl, B1.out⟩
    · go_enter Tryd.func29, Tryd.ntmps29
      go_wp2_with fail
      refine (HN.out _).mono ?_; rintro e w1 ⟨rfl, hS, b1⟩
      have B1 := Lib.hid b1
      obtain ⟨a, ha, g⟩ := hS.get 9 (by decide)
      obtain rfl : (⟨w.heap.size, 0, none⟩ : Addr) = a := by injection ha
      clear b1 hS ha
      have g1 : w1.cell? ⟨w.heap.size, 9, none⟩ = some (.string ⟨#[79, 99, 116, 111, 98, 101, 114]⟩) := by simpa [Addr.add, Wd.months] using g
      clear g
      go_wp2_with fail
      go_ret
      exact ⟨rfl, B1.out⟩
    · go_enter Tryd.func29, Tryd.ntmps29
      go_wp2_with fail
      refine (HN.out _).mono ?_; rintro e w1 ⟨rfl, hS, b1⟩
      have B1 := Lib.hid b1
      obtain ⟨a, ha, g⟩ := hS.get 10 (by decide)
      obtain rfl : (⟨w.heap.size, 0, none⟩ : Addr) = a := by injection ha
      clear b1 hS ha
      have g1 : w1.cell? ⟨w.heap.size, 10, none⟩ = some (.string ⟨#[78, 111, 118, 101, 109, 98, 101, 114]⟩) := by simpa [Addr.add, Wd.months] using g
      clear g
      go_wp2_with fail
      go_ret
      exact ⟨rfl, B1.out⟩
    · go_enter Tryd.func29, Tryd.ntmps29
      go_wp2_with fail
      refine (HN.out _).mono ?_; rintro e w1 ⟨rfl, hS, b1⟩
      have B1 := Lib.hid b1
      obtain ⟨a, ha, g⟩ := hS.get 11 (by decide)
      obtain rfl : (⟨w.heap.size, 0, none⟩ : Addr) = a := by injection ha
      clear b1 hS ha
      have g1 : w1.cell? ⟨w.heap.size, 11, none⟩ = some (.string ⟨#[68, 101, 99, 101, 109, 98, 101, 114]⟩) := by simpa [Addr.add, Wd.months] using g
      clear g
      go_wp2_with fail
      go_ret
      exact ⟨rfl, B1.out⟩
  · rw [show Wd.t3 Wd.months (n - 1) = ByteArray.empty by unfold Wd.t3; rw [if_neg]; rw [show (Wd.months.length : Int) = 12 from rfl]; omega]
    by_cases c1 : n < 1
    · go_enter Tryd.func29, Tryd.ntmps29
      go_wp2
      go_ret
      exact ⟨rfl, Below.refl _ _⟩
    · have c2 : 12 < n := by omega
      go_enter Tryd.func29, Tryd.ntmps29
      go_wp2
      go_ret
      exact ⟨rfl, Below.refl _ _⟩
set_option maxHeartbeats 4000000 in
set_option maxRecDepth 100000 in
theorem dtextr_any (n : Int) (w : World) :
    Calls Tryd.prog 31 #[.int .i64 n] w fun e w' => e = .returned (.string (Wd.t3 Wd.days (n - 0))) ∧ Below w.heap.size w w' := by
  have HN := Lib.hid daysr_new
  by_cases h : 0 ≤ n ∧ n ≤ 6
  · obtain rfl | rfl | rfl | rfl | rfl | rfl | rfl : n = 0 ∨ n = 1 ∨ n = 2 ∨ n = 3 ∨ n = 4 ∨ n = 5 ∨ n = 6 := by omega
    · go_enter Tryd.func31, Tryd.ntmps31
      go_wp2_with fail
      refine (HN.out _).mono ?_; rintro e w1 ⟨rfl, hS, b1⟩
      have B1 := Lib.hid b1
      obtain ⟨a, ha, g⟩ := hS.get 0 (by decide)
      obtain rfl : (⟨w.heap.size, 0, none⟩ : Addr) = a := by injection ha
      clear b1 hS ha
      have g1 : w1.cell? ⟨w.heap.size, 0, none⟩ = some (.string ⟨#[83, 117, 110, 100, 97, 121]⟩) := by simpa [Addr.add, Wd.days] using g
      clear g
      go_wp2_with fail
      go_ret
      exact ⟨rfl, B1.out⟩
    · go_enter Tryd.func31, Tryd.ntmps31
      go_wp2_with fail
      refine (HN.out _).mono ?_; rintro e w1 ⟨rfl, hS, b1⟩
      have B1 := Lib.hid b1
      obtain ⟨a, ha, g⟩ := hS.get 1 (by decide)
      obtain rfl : (⟨w.heap.size, 0, none⟩ : Addr) = a := by injection ha
      clear b1 hS ha
      have g1 : w1.cell? ⟨w.heap.size, 1, none⟩ = some (.string ⟨#[77, 111, 110, 100, 97, 121]⟩) := by simpa [Addr.add, Wd.days] using g
      clear g
      go_wp2_with fail
      go_ret
      exact ⟨rfl, B1.out⟩
    · go_enter Tryd.func31, Tryd.ntmps31
      go_wp2_with fail
      refine (HN.out _).mono ?_; rintro e w1 ⟨rfl, hS, b1⟩
      have B1 := Lib.hid b1
      obtain ⟨a, ha, g⟩ := hS.get 2 (by decide)
      obtain rfl : (⟨w.heap.size, 0, none⟩ : Addr) = a := by injection ha
      clear b1 hS ha
      have g1 : w1.cell? ⟨w.heap.size, 2, none⟩ = some (.string ⟨#[84, 117, 101, 115, 100, 97, 121]⟩) := by simpa [Addr.add, Wd.days] using g
      clear g
      go_wp2_with fail
      go_ret
      exact ⟨rfl, B1.out⟩
    · go_enter Tryd.func31, Tryd.ntmps31
      go_wp2_with fail
      refine (HN.out _).mono ?_; rintro e w1 ⟨rfl, hS, b1⟩
      have B1 := Lib.hid b1
      obtain ⟨a, ha, g⟩ := hS.get 3 (by decide)
      obtain rfl : (⟨w.heap.size, 0, none⟩ : Addr) = a := by injection ha
      clear b1 hS ha
      have g1 : w1.cell? ⟨w.heap.size, 3, none⟩ = some (.string ⟨#[87, 101, 100, 110, 101, 115, 100, 97, 121]⟩) := by simpa [Addr.add, Wd.days] using g
      clear g
      go_wp2_with fail
      go_ret
      exact ⟨rfl, B1.out⟩
    · go_enter Tryd.func31, Tryd.ntmps31
      go_wp2_with fail
      refine (HN.out _).mono ?_; rintro e w1 ⟨rfl, hS, b1⟩
      have B1 := Lib.hid b1
      obtain ⟨a, ha, g⟩ := hS.get 4 (by decide)
      obtain rfl : (⟨w.heap.size, 0, none⟩ : Addr) = a := by injection ha
      clear b1 hS ha
      have g1 : w1.cell? ⟨w.heap.size, 4, none⟩ = some (.string ⟨#[84, 104, 117, 114, 115, 100, 97, 121]⟩) := by simpa [Addr.add, Wd.days] using g
      clear g
      go_wp2_with fail
      go_ret
      exact ⟨rfl, B1.out⟩
    · go_enter Tryd.func31, Tryd.ntmps31
      go_wp2_with fail
      refine (HN.out _).mono ?_; rintro e w1 ⟨rfl, hS, b1⟩
      have B1 := Lib.hid b1
      obtain ⟨a, ha, g⟩ := hS.get 5 (by decide)
      obtain rfl : (⟨w.heap.size, 0, none⟩ : Addr) = a := by injection ha
      clear b1 hS ha
      have g1 : w1.cell? ⟨w.heap.size, 5, none⟩ = some (.string ⟨#[70, 114, 105, 100, 97, 121]⟩) := by simpa [Addr.add, Wd.days] using g
      clear g
      go_wp2_with fail
      go_ret
      exact ⟨rfl, B1.out⟩
    · go_enter Tryd.func31, Tryd.ntmps31
      go_wp2_with fail
      refine (HN.out _).mono ?_; rintro e w1 ⟨rfl, hS, b1⟩
      have B1 := Lib.hid b1
      obtain ⟨a, ha, g⟩ := hS.get 6 (by decide)
      obtain rfl : (⟨w.heap.size, 0, none⟩ : Addr) = a := by injection ha
      clear b1 hS ha
      have g1 : w1.cell? ⟨w.heap.size, 6, none⟩ = some (.string ⟨#[83, 97, 116, 117, 114, 100, 97, 121]⟩) := by simpa [Addr.add, Wd.days] using g
      clear g
      go_wp2_with fail
      go_ret
      exact ⟨rfl, B1.out⟩
  · rw [show Wd.t3 Wd.days (n - 0) = ByteArray.empty by unfold Wd.t3; rw [if_neg]; rw [show (Wd.days.length : Int) = 7 from rfl]; omega]
    by_cases c1 : n < 0
    · go_enter Tryd.func31, Tryd.ntmps31
      go_wp2
      go_ret
      exact ⟨rfl, Below.refl _ _⟩
    · have c2 : 6 < n := by omega
      go_enter Tryd.func31, Tryd.ntmps31
      go_wp2
      go_ret
      exact ⟨rfl, Below.refl _ _⟩
end Go.Proofs.YtcmnfbbccacpcabDoor
