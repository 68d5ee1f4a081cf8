/- Words: the tables of the program; the contracts of Month, Weekday, MonthText, WeekdayText. -/
import Derived.Test.YtldpchkapcnfbaaDoorWdB
set_option linter.unusedVariables false
set_option linter.unusedSimpArgs false
namespace Go.Proofs.YtldpchkapcnfbaaDoor
open Go.RowKit Go.Sort

namespace Wd
def months : List ByteArray := [⟨#[74, 97, 110, 117, 97, 114, 121]⟩, ⟨#[70, 101, 98, 114, 117, 97, 114, 121]⟩, ⟨#[77, 97, 114, 99, 104]⟩, ⟨#[65, 112, 114, 105, 108]⟩, ⟨#[77, 97, 121]⟩, ⟨#[74, 117, 110, 101]⟩, ⟨#[74, 117, 108, 121]⟩, ⟨#[65, 117, 103, 117, 115, 116]⟩, ⟨#[83, 101, 112, 116, 101, 109, 98, 101, 114]⟩, ⟨#[79, 99, 116, 111, 98, 101, 114]⟩, ⟨#[78, 111, 118, 101, 109, 98, 101, 114]⟩, ⟨#[68, 101, 99, 101, 109, 98, 101, 114]⟩]
def days : List ByteArray := [⟨#[83, 117, 110, 100, 97, 121]⟩, ⟨#[77, 111, 110, 100, 97, 121]⟩, ⟨#[84, 117, 101, 115, 100, 97, 121]⟩, ⟨#[87, 101, 100, 110, 101, 115, 100, 97, 121]⟩, ⟨#[84, 104, 117, 114, 115, 100, 97, 121]⟩, ⟨#[70, 114, 105, 100, 97, 121]⟩, ⟨#[83, 97, 116, 117, 114, 100, 97, 121]⟩]
/-- The tables lie in memory as they are written. -/
structure Tabs (w : World) : Prop where
  m0 : w.cell? ⟨0, 0, none⟩ = some (.string ⟨#[74, 97, 110, 117, 97, 114, 121]⟩)
  m1 : w.cell? ⟨0, 1, none⟩ = some (.string ⟨#[70, 101, 98, 114, 117, 97, 114, 121]⟩)
  m2 : w.cell? ⟨0, 2, none⟩ = some (.string ⟨#[77, 97, 114, 99, 104]⟩)
  m3 : w.cell? ⟨0, 3, none⟩ = some (.string ⟨#[65, 112, 114, 105, 108]⟩)
  m4 : w.cell? ⟨0, 4, none⟩ = some (.string ⟨#[77, 97, 121]⟩)
  m5 : w.cell? ⟨0, 5, none⟩ = some (.string ⟨#[74, 117, 110, 101]⟩)
  m6 : w.cell? ⟨0, 6, none⟩ = some (.string ⟨#[74, 117, 108, 121]⟩)
  m7 : w.cell? ⟨0, 7, none⟩ = some (.string ⟨#[65, 117, 103, 117, 115, 116]⟩)
  m8 : w.cell? ⟨0, 8, none⟩ = some (.string ⟨#[83, 101, 112, 116, 101, 109, 98, 101, 114]⟩)
  m9 : w.cell? ⟨0, 9, none⟩ = some (.string ⟨#[79, 99, 116, 111, 98, 101, 114]⟩)
  m10 : w.cell? ⟨0, 10, none⟩ = some (.string ⟨#[78, 111, 118, 101, 109, 98, 101, 114]⟩)
  m11 : w.cell? ⟨0, 11, none⟩ = some (.string ⟨#[68, 101, 99, 101, 109, 98, 101, 114]⟩)
  d0 : w.cell? ⟨1, 0, none⟩ = some (.string ⟨#[83, 117, 110, 100, 97, 121]⟩)
  d1 : w.cell? ⟨1, 1, none⟩ = some (.string ⟨#[77, 111, 110, 100, 97, 121]⟩)
  d2 : w.cell? ⟨1, 2, none⟩ = some (.string ⟨#[84, 117, 101, 115, 100, 97, 121]⟩)
  d3 : w.cell? ⟨1, 3, none⟩ = some (.string ⟨#[87, 101, 100, 110, 101, 115, 100, 97, 121]⟩)
  d4 : w.cell? ⟨1, 4, none⟩ = some (.string ⟨#[84, 104, 117, 114, 115, 100, 97, 121]⟩)
  d5 : w.cell? ⟨1, 5, none⟩ = some (.string ⟨#[70, 114, 105, 100, 97, 121]⟩)
  d6 : w.cell? ⟨1, 6, none⟩ = some (.string ⟨#[83, 97, 116, 117, 114, 100, 97, 121]⟩)
theorem Tabs.on {w w' : World} (h : Tabs w) (k : Below w.heap.size w w') : Tabs w' := ⟨(k.cell (World.block_lt_of_cell? _ _ h.m0)).trans h.m0, (k.cell (World.block_lt_of_cell? _ _ h.m1)).trans h.m1, (k.cell (World.block_lt_of_cell? _ _ h.m2)).trans h.m2, (k.cell (World.block_lt_of_cell? _ _ h.m3)).trans h.m3, (k.cell (World.block_lt_of_cell? _ _ h.m4)).trans h.m4, (k.cell (World.block_lt_of_cell? _ _ h.m5)).trans h.m5, (k.cell (World.block_lt_of_cell? _ _ h.m6)).trans h.m6, (k.cell (World.block_lt_of_cell? _ _ h.m7)).trans h.m7, (k.cell (World.block_lt_of_cell? _ _ h.m8)).trans h.m8, (k.cell (World.block_lt_of_cell? _ _ h.m9)).trans h.m9, (k.cell (World.block_lt_of_cell? _ _ h.m10)).trans h.m10, (k.cell (World.block_lt_of_cell? _ _ h.m11)).trans h.m11, (k.cell (World.block_lt_of_cell? _ _ h.d0)).trans h.d0, (k.cell (World.block_lt_of_cell? _ _ h.d1)).trans h.d1, (k.cell (World.block_lt_of_cell? _ _ h.d2)).trans h.d2, (k.cell (World.block_lt_of_cell? _ _ h.d3)).trans h.d3, (k.cell (World.block_lt_of_cell? _ _ h.d4)).trans h.d4, (k.cell (World.block_lt_of_cell? _ _ h.d5)).trans h.d5, (k.cell (World.block_lt_of_cell? _ _ h.d6)).trans h.d6⟩
theorem run_bd (s : List UInt8) (all : List ByteArray) (N : Nat) : ∀ (r : List ByteArray) (k : Nat) (f : Int) (sv : Bool), k + r.length ≤ N → f < N →
    0 ≤ (run s all r k f sv).1 ∧ (run s all r k f sv).1 ≤ N ∧ ((run s all r k f sv).2 = 0 ∨ (run s all r k f sv).2 = 3 ∧ (run s all r k f sv).1 = 0) := by
  intro r
  induction r with
  | nil =>
    intro k f sv h1 h2
    rw [run_nil]
    split
    · simp
    · rename_i h
      have : ¬ f < 0 := fun hh => h (.inl hh)
      simp; omega
  | cons x r ih =>
    intro k f sv h1 h2
    have h3 : k + 1 + r.length ≤ N := by simp at h1; omega
    have h4 : (k : Int) < N := by simp at h1; omega
    unfold run
    split
    · simp; omega
    · split
      · exact ih _ _ _ h3 h2
      · split
        · exact ih _ _ _ h3 h4
        · split
          · exact ih _ _ _ h3 h2
          · exact ih _ _ _ h3 h2
theorem mat_bd (s : List UInt8) (all : List ByteArray) : 0 ≤ (mat s all).1 ∧ (mat s all).1 ≤ all.length ∧ ((mat s all).2 = 0 ∨ (mat s all).2 = 3 ∧ (mat s all).1 = 0) := by
  unfold mat
  split
  · simp
  · rename_i h
    have hN : (-1 : Int) < (all.length : Int) := by omega
    exact run_bd s all all.length all 0 (-1) false (by omega) hN
/-- What a table's word means: one more than its place. -/
def up (p : Int × Int) : Int := if p.2 = 0 then p.1 + 1 else 0
/-- The first three letters of a word of a table; nothing of none. -/
def t3 (l : List ByteArray) (i : Int) : ByteArray := if 0 ≤ i ∧ i < l.length then (l.getD i.toNat ByteArray.empty).extract 0 3 else ByteArray.empty
end Wd
set_option maxHeartbeats 2000000 in
set_option maxRecDepth 100000 in
theorem month_any (s : ByteArray) (w : World) (hs : s.size ≤ maxLen) (T : Wd.Tabs w) :
    Calls Tryd.prog 15 #[.string s] w fun e w' => e = .returned (.tuple #[.int .i64 (Wd.up (Wd.mat s.data.toList Wd.months)), .int .i64 (Wd.mat s.data.toList Wd.months).2]) ∧ Below w.heap.size w w' := by
  have t_m0 := T.m0
  have t_m1 := T.m1
  have t_m2 := T.m2
  have t_m3 := T.m3
  have t_m4 := T.m4
  have t_m5 := T.m5
  have t_m6 := T.m6
  have t_m7 := T.m7
  have t_m8 := T.m8
  have t_m9 := T.m9
  have t_m10 := T.m10
  have t_m11 := T.m11
  have SZ : ∀ x ∈ Wd.months, x.size ≤ maxLen := by unfold Wd.months maxLen; intro x hx; simp at hx; rcases hx with rfl | rfl | rfl | rfl | rfl | rfl | rfl | rfl | rfl | rfl | rfl | rfl <;> decide
  have ST : StS (w.alloc (.cells #[.string ⟨#[74, 97, 110, 117, 97, 114, 121]⟩, .string ⟨#[70, 101, 98, 114, 117, 97, 114, 121]⟩, .string ⟨#[77, 97, 114, 99, 104]⟩, .string ⟨#[65, 112, 114, 105, 108]⟩, .string ⟨#[77, 97, 121]⟩, .string ⟨#[74, 117, 110, 101]⟩, .string ⟨#[74, 117, 108, 121]⟩, .string ⟨#[65, 117, 103, 117, 115, 116]⟩, .string ⟨#[83, 101, 112, 116, 101, 109, 98, 101, 114]⟩, .string ⟨#[79, 99, 116, 111, 98, 101, 114]⟩, .string ⟨#[78, 111, 118, 101, 109, 98, 101, 114]⟩, .string ⟨#[68, 101, 99, 101, 109, 98, 101, 114]⟩] 82)) (.slice (some ⟨w.heap.size, 0, none⟩) 12 12) Wd.months :=
    ⟨_, _, rfl, fun _ => ⟨_, rfl, by simp, by
      intro j u hj
      have hl : j < 12 := by
        have := (List.getElem?_eq_some_iff.1 hj).1
        simpa [Wd.months] using this
      obtain rfl | rfl | rfl | rfl | rfl | rfl | rfl | rfl | rfl | rfl | rfl | rfl : j = 0 ∨ j = 1 ∨ j = 2 ∨ j = 3 ∨ j = 4 ∨ j = 5 ∨ j = 6 ∨ j = 7 ∨ j = 8 ∨ j = 9 ∨ j = 10 ∨ j = 11 := by omega
      all_goals (simp [Wd.months] at hj; subst hj; simp [Addr.add, go_sem])⟩⟩
  have HS := Lib.hid ST; clear ST
  have HM := Lib.hid (fun W (h : StS W (.slice (some ⟨w.heap.size, 0, none⟩) 12 12) Wd.months) => match_any s _ Wd.months W h hs SZ (by unfold maxLen; decide))
  have bd := Wd.mat_bd s.data.toList Wd.months
  have ln : Wd.months.length = 12 := rfl
  rw [ln] at bd
  clear SZ T ln
  generalize Wd.mat s.data.toList Wd.months = ans at HM bd ⊢
  obtain ⟨p, q⟩ := ans
  dsimp only at HM bd ⊢
  obtain ⟨p0, p1, hq⟩ := bd
  unfold Wd.up
  rcases hq with rfl | ⟨rfl, rfl⟩
  · go_enter Tryd.func15, Tryd.ntmps15
    go_wp2_with fail
    refine (HM.out _ HS.out).mono ?_; rintro e w1 ⟨rfl, j, rfl⟩
    go_wp2_with fail
    go_ret2
    exact ⟨rfl, below_drewN ((Below.refl _ _).alloc (Nat.le_refl _) _) _⟩
  · go_enter Tryd.func15, Tryd.ntmps15
    go_wp2_with fail
    refine (HM.out _ HS.out).mono ?_; rintro e w1 ⟨rfl, j, rfl⟩
    go_wp2_with fail
    go_ret2
    exact ⟨rfl, below_drewN ((Below.refl _ _).alloc (Nat.le_refl _) _) _⟩
set_option maxHeartbeats 2000000 in
set_option maxRecDepth 100000 in
theorem weekday_any (s : ByteArray) (w : World) (hs : s.size ≤ maxLen) (T : Wd.Tabs w) :
    Calls Tryd.prog 17 #[.string s] w fun e w' => e = .returned (.tuple #[.int .i64 (Wd.mat s.data.toList Wd.days).1, .int .i64 (Wd.mat s.data.toList Wd.days).2]) ∧ Below w.heap.size w w' := by
  have t_d0 := T.d0
  have t_d1 := T.d1
  have t_d2 := T.d2
  have t_d3 := T.d3
  have t_d4 := T.d4
  have t_d5 := T.d5
  have t_d6 := T.d6
  have SZ : ∀ x ∈ Wd.days, x.size ≤ maxLen := by unfold Wd.days maxLen; intro x hx; simp at hx; rcases hx with rfl | rfl | rfl | rfl | rfl | rfl | rfl <;> decide
  have ST : StS (w.alloc (.cells #[.string ⟨#[83, 117, 110, 100, 97, 121]⟩, .string ⟨#[77, 111, 110, 100, 97, 121]⟩, .string ⟨#[84, 117, 101, 115, 100, 97, 121]⟩, .string ⟨#[87, 101, 100, 110, 101, 115, 100, 97, 121]⟩, .string ⟨#[84, 104, 117, 114, 115, 100, 97, 121]⟩, .string ⟨#[70, 114, 105, 100, 97, 121]⟩, .string ⟨#[83, 97, 116, 117, 114, 100, 97, 121]⟩] 83)) (.slice (some ⟨w.heap.size, 0, none⟩) 7 7) Wd.days :=
    ⟨_, _, rfl, fun _ => ⟨_, rfl, by simp, by
      intro j u hj
      have hl : j < 7 := by
        have := (List.getElem?_eq_some_iff.1 hj).1
        simpa [Wd.days] using this
      obtain rfl | rfl | rfl | rfl | rfl | rfl | rfl : j = 0 ∨ j = 1 ∨ j = 2 ∨ j = 3 ∨ j = 4 ∨ j = 5 ∨ j = 6 := by omega
      all_goals (simp [Wd.days] at hj; subst hj; simp [Addr.add, go_sem])⟩⟩
  have HS := Lib.hid ST; clear ST
  have HM := Lib.hid (fun W (h : StS W (.slice (some ⟨w.heap.size, 0, none⟩) 7 7) Wd.days) => match_any s _ Wd.days W h hs SZ (by unfold maxLen; decide))
  have bd := Wd.mat_bd s.data.toList Wd.days
  have ln : Wd.days.length = 7 := rfl
  rw [ln] at bd
  clear SZ T ln
  generalize Wd.mat s.data.toList Wd.days = ans at HM bd ⊢
  obtain ⟨p, q⟩ := ans
  dsimp only at HM bd ⊢
  obtain ⟨p0, p1, hq⟩ := bd
  go_enter Tryd.func17, Tryd.ntmps17
  go_wp2_with fail
  refine (HM.out _ HS.out).mono ?_; rintro e w1 ⟨rfl, j, rfl⟩
  go_wp2_with fail
  go_ret2
  exact ⟨rfl, below_drewN ((Below.refl _ _).alloc (Nat.le_refl _) _) _⟩
set_option maxHeartbeats 4000000 in
set_option maxRecDepth 100000 in
theorem mtext_any (n : Int) (w : World) (T : Wd.Tabs w) :
    Calls Tryd.prog 16 #[.int .i64 n] w fun e w' => e = .returned (.string (Wd.t3 Wd.months (n - 1))) ∧ Below w.heap.size w w' := by
  by_cases h : 1 ≤ n ∧ n ≤ 12
  · obtain rfl | rfl | rfl | rfl | rfl | rfl | rfl | rfl | rfl | rfl | rfl | rfl : n = 1 ∨ n = 2 ∨ n = 3 ∨ n = 4 ∨ n = 5 ∨ n = 6 ∨ n = 7 ∨ n = 8 ∨ n = 9 ∨ n = 10 ∨ n = 11 ∨ n = 12 := by omega
    · have t := T.m0
      clear T
      go_enter Tryd.func16, Tryd.ntmps16
      go_wp2
      go_ret
      exact ⟨rfl, Below.refl _ _⟩
    · have t := T.m1
      clear T
      go_enter Tryd.func16, Tryd.ntmps16
      go_wp2
      go_ret
      exact ⟨rfl, Below.refl _ _⟩
    · have t := T.m2
      clear T
      go_enter Tryd.func16, Tryd.ntmps16
      go_wp2
      go_ret
      exact ⟨rfl, Below.refl _ _⟩
    · have t := T.m3
      clear T
      go_enter Tryd.func16, Tryd.ntmps16
      go_wp2
      go_ret
      exact ⟨rfl, Below.refl _ _⟩
    · have t := T.m4
      clear T
      go_enter Tryd.func16, Tryd.ntmps16
      go_wp2
      go_ret
      exact ⟨rfl, Below.refl _ _⟩
    · have t := T.m5
      clear T
      go_enter Tryd.func16, Tryd.ntmps16
      go_wp2
      go_ret
      exact ⟨rfl, Below.refl _ _⟩
    · have t := T.m6
      clear T
      go_enter Tryd.func16, Tryd.ntmps16
      go_wp2
      go_ret
      exact ⟨rfl, Below.refl _ _⟩
    · have t := T.m7
      clear T
      go_enter Tryd.func16, Tryd.ntmps16
      go_wp2
      go_ret
      exact ⟨rfl, Below.refl _ _⟩
    · have t := T.m8
      clear T
      go_enter Tryd.func16, Tryd.ntmps16
      go_wp2
      go_ret
      exact ⟨rfl, Below.refl _ _⟩
    · have t := T.m9
      clear T
      go_enter Tryd.func16, Tryd.ntmps16
      go_wp2
      go_ret
      exact ⟨rfl, Below.refl _ _⟩
    · have t := T.m10
      clear T
      go_enter Tryd.func16, Tryd.ntmps16
      go_wp2
      go_ret
      exact ⟨rfl, Below.refl _ _⟩
    · have t := T.m11
      clear T
      go_enter Tryd.func16, Tryd.ntmps16
      go_wp2
      go_ret
      exact ⟨rfl, Below.refl _ _⟩
  · rw [show Wd.t3 Wd.months (n - 1) = ByteArray.empty by unfold Wd.t3; rw [if_neg]; rw [show (Wd.months.length : Int) = 12 from rfl]; omega]
    clear T
    by_cases c1 : n < 1
    · go_enter Tryd.func16, Tryd.ntmps16
      go_wp2
      go_ret
      exact ⟨rfl, Below.refl _ _⟩
    · have c2 : 12 < n := by omega
      go_enter Tryd.func16, Tryd.ntmps16
      go_wp2
      go_ret
      exact ⟨rfl, Below.refl _ _⟩
set_option maxHeartbeats 4000000 in
set_option maxRecDepth 100000 in
theorem dtext_any (n : Int) (w : World) (T : Wd.Tabs w) :
    Calls Tryd.prog 18 #[.int .i64 n] w fun e w' => e = .returned (.string (Wd.t3 Wd.days (n - 0))) ∧ Below w.heap.size w w' := by
  by_cases h : 0 ≤ n ∧ n ≤ 6
  · obtain rfl | rfl | rfl | rfl | rfl | rfl | rfl : n = 0 ∨ n = 1 ∨ n = 2 ∨ n = 3 ∨ n = 4 ∨ n = 5 ∨ n = 6 := by omega
    · have t := T.d0
      clear T
      go_enter Tryd.func18, Tryd.ntmps18
      go_wp2
      go_ret
      exact ⟨rfl, Below.refl _ _⟩
    · have t := T.d1
      clear T
      go_enter Tryd.func18, Tryd.ntmps18
      go_wp2
      go_ret
      exact ⟨rfl, Below.refl _ _⟩
    · have t := T.d2
      clear T
      go_enter Tryd.func18, Tryd.ntmps18
      go_wp2
      go_ret
      exact ⟨rfl, Below.refl _ _⟩
    · have t := T.d3
      clear T
      go_enter Tryd.func18, Tryd.ntmps18
      go_wp2
      go_ret
      exact ⟨rfl, Below.refl _ _⟩
    · have t := T.d4
      clear T
      go_enter Tryd.func18, Tryd.ntmps18
      go_wp2
      go_ret
      exact ⟨rfl, Below.refl _ _⟩
    · have t := T.d5
      clear T
      go_enter Tryd.func18, Tryd.ntmps18
      go_wp2
      go_ret
      exact ⟨rfl, Below.refl _ _⟩
    · have t := T.d6
      clear T
      go_enter Tryd.func18, Tryd.ntmps18
      go_wp2
      go_ret
      exact ⟨rfl, Below.refl _ _⟩
  · rw [show Wd.t3 Wd.days (n - 0) = ByteArray.empty by unfold Wd.t3; rw [if_neg]; rw [show (Wd.days.length : Int) = 7 from rfl]; omega]
    clear T
    by_cases c1 : n < 0
    · go_enter Tryd.func18, Tryd.ntmps18
      go_wp2
      go_ret
      exact ⟨rfl, Below.refl _ _⟩
    · have c2 : 6 < n := by omega
      go_enter Tryd.func18, Tryd.ntmps18
      go_wp2
      go_ret
      exact ⟨rfl, Below.refl _ _⟩
end Go.Proofs.YtldpchkapcnfbaaDoor
