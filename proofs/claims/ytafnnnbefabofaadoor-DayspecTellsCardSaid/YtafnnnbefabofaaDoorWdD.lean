/- Words of week days: the table, Weekday, WeekdayText (where months are not there). -/
import Derived.Test.YtafnnnbefabofaaDoorWdCb
set_option linter.unusedVariables false
set_option linter.unusedSimpArgs false
namespace Go.Proofs.YtafnnnbefabofaaDoor
open Go.RowKit Go.Sort

/-- The week days' table lies in memory as it is written. -/
structure Wd.DTabs (w : World) : Prop where
  d0 : w.cell? ⟨1, 0, none⟩ = some (.string ⟨#[83, 117, 110, 100, 97, 121]⟩)
  d1 : w.cell? ⟨1, 1, none⟩ = some (.string ⟨#[77, 111, 110, 100, 97, 121]⟩)
  d2 : w.cell? ⟨1, 2, none⟩ = some (.string ⟨#[84, 117, 101, 115, 100, 97, 121]⟩)
  d3 : w.cell? ⟨1, 3, none⟩ = some (.string ⟨#[87, 101, 100, 110, 101, 115, 100, 97, 121]⟩)
  d4 : w.cell? ⟨1, 4, none⟩ = some (.string ⟨#[84, 104, 117, 114, 115, 100, 97, 121]⟩)
  d5 : w.cell? ⟨1, 5, none⟩ = some (.string ⟨#[70, 114, 105, 100, 97, 121]⟩)
  d6 : w.cell? ⟨1, 6, none⟩ = some (.string ⟨#[83, 97, 116, 117, 114, 100, 97, 121]⟩)
theorem Wd.DTabs.on {w w' : World} (h : Wd.DTabs w) (k : Below w.heap.size w w') : Wd.DTabs w' := ⟨(k.cell (World.block_lt_of_cell? _ _ h.d0)).trans h.d0, (k.cell (World.block_lt_of_cell? _ _ h.d1)).trans h.d1, (k.cell (World.block_lt_of_cell? _ _ h.d2)).trans h.d2, (k.cell (World.block_lt_of_cell? _ _ h.d3)).trans h.d3, (k.cell (World.block_lt_of_cell? _ _ h.d4)).trans h.d4, (k.cell (World.block_lt_of_cell? _ _ h.d5)).trans h.d5, (k.cell (World.block_lt_of_cell? _ _ h.d6)).trans h.d6⟩
set_option maxHeartbeats 2000000 in
set_option maxRecDepth 100000 in
theorem wday_any (s : ByteArray) (w : World) (hs : s.size ≤ maxLen) (T : Wd.DTabs w) :
    Calls Tryd.prog 207 #[.string s] w fun e w' => e = .returned (.tuple #[.int .i64 (Wd.mat s.data.toList Wd.days).1, .int .i64 (Wd.mat s.data.toList Wd.days).2]) ∧ Below w.heap.size w w' := by
  have t_d0 := T.d0
  have t_d1 := T.d1
  have t_d2 := T.d2
  have t_d3 := T.d3
  have t_d4 := T.d4
  have t_d5 := T.d5
  have t_d6 := T.d6
  have SZ : ∀ x ∈ Wd.days, x.size ≤ maxLen := by unfold Wd.days maxLen; intro x hx; simp at hx; rcases hx with rfl | rfl | rfl | rfl | rfl | rfl | rfl <;> decide
  have ST : StS (w.alloc (.cells #[.string ⟨#[83, 117, 110, 100, 97, 121]⟩, .string ⟨#[77, 111, 110, 100, 97, 121]⟩, .string ⟨#[84, 117, 101, 115, 100, 97, 121]⟩, .string ⟨#[87, 101, 100, 110, 101, 115, 100, 97, 121]⟩, .string ⟨#[84, 104, 117, 114, 115, 100, 97, 121]⟩, .string ⟨#[70, 114, 105, 100, 97, 121]⟩, .string ⟨#[83, 97, 116, 117, 114, 100, 97, 121]⟩] 168)) (.slice (some ⟨w.heap.size, 0, none⟩) 7 7) Wd.days :=
    ⟨_, _, rfl, fun _ => ⟨_, rfl, by simp, by
      intro j u hj
      have hl : j < 7 := by
        have := (List.getElem?_eq_some_iff.1 hj).1
        simpa [Wd.days] using this
      obtain rfl | rfl | rfl | rfl | rfl | rfl | rfl : j = 0 ∨ j = 1 ∨ j = 2 ∨ j = 3 ∨ j = 4 ∨ j = 5 ∨ j = 6 := by omega
      all_goals (simp [Wd.days] at hj; subst hj; simp [Addr.add, go_sem])⟩⟩
  have HS := Lib.hid ST; clear ST
  have HM := Lib.hid (fun W (h : StS W (.slice (some ⟨w.heap.size, 0, none⟩) 7 7) Wd.days) => match_any s _ Wd.days W h hs SZ (by unfold maxLen; decide))
  have bd := Wd.mat_bd s.data.toList Wd.days
  have ln : Wd.days.length = 7 := rfl
  rw [ln] at bd
  clear SZ T ln
  generalize Wd.mat s.data.toList Wd.days = ans at HM bd ⊢
  obtain ⟨p, q⟩ := ans
  dsimp only at HM bd ⊢
  obtain ⟨p0, p1, hq⟩ := bd
  go_enter Tryd.func207, Tryd.ntmps207
  go_wp2_with fail
  refine (HM.out _ HS.out).mono ?_; rintro e w1 ⟨rfl, j, rfl⟩
  go_wp2_with fail
  go_ret2
  exact ⟨rfl, below_drewN ((Below.refl _ _).alloc (Nat.le_refl _) _) _⟩
set_option maxHeartbeats 4000000 in
set_option maxRecDepth 100000 in
theorem wdtx_any (n : Int) (w : World) (T : Wd.DTabs w) :
    Calls Tryd.prog 131 #[.int .i64 n] w fun e w' => e = .returned (.string (Wd.t3 Wd.days (n - 0))) ∧ Below w.heap.size w w' := by
  by_cases h : 0 ≤ n ∧ n ≤ 6
  · obtain rfl | rfl | rfl | rfl | rfl | rfl | rfl : n = 0 ∨ n = 1 ∨ n = 2 ∨ n = 3 ∨ n = 4 ∨ n = 5 ∨ n = 6 := by omega
    · have t := T.d0
      clear T
      go_enter Tryd.func131, Tryd.ntmps131
      go_wp2
      go_ret
      exact ⟨rfl, Below.refl _ _⟩
    · have t := T.d1
      clear T
      go_enter Tryd.func131, Tryd.ntmps131
      go_wp2
      go_ret
      exact ⟨rfl, Below.refl _ _⟩
    · have t := T.d2
      clear T
      go_enter Tryd.func131, Tryd.ntmps131
      go_wp2
      go_ret
      exact ⟨rfl, Below.refl _ _⟩
    · have t := T.d3
      clear T
      go_enter Tryd.func131, Tryd.ntmps131
      go_wp2
      go_ret
      exact ⟨rfl, Below.refl _ _⟩
    · have t := T.d4
      clear T
      go_enter Tryd.func131, Tryd.ntmps131
      go_wp2
      go_ret
      exact ⟨rfl, Below.refl _ _⟩
    · have t := T.d5
      clear T
      go_enter Tryd.func131, Tryd.ntmps131
      go_wp2
      go_ret
      exact ⟨rfl, Below.refl _ _⟩
    · have t := T.d6
      clear T
      go_enter Tryd.func131, Tryd.ntmps131
      go_wp2
      go_ret
      exact ⟨rfl, Below.refl _ _⟩
  · rw [show Wd.t3 Wd.days (n - 0) = ByteArray.empty by unfold Wd.t3; rw [if_neg]; rw [show (Wd.days.length : Int) = 7 from rfl]; omega]
    clear T
    by_cases c1 : n < 0
    · go_enter Tryd.func131, Tryd.ntmps131
      go_wp2
      go_ret
      exact ⟨rfl, Below.refl _ _⟩
    · have c2 : 6 < n := by omega
      go_enter Tryd.func131, Tryd.ntmps131
      go_wp2
      go_ret
      exact ⟨rfl, Below.refl _ _⟩
end Go.Proofs.YtafnnnbefabofaaDoor
