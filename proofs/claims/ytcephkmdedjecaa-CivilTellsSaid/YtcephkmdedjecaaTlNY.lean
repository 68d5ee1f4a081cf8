/- The walk of CivilTells where the date may not be, and the number has one: the answers are the reference's. -/
import Derived.Test.YtcephkmdedjecaaTl
set_option linter.unusedVariables false
set_option linter.unusedSimpArgs false
namespace Go.Proofs.Ytcephkmdedjecaa
open Go.RowKit

set_option maxHeartbeats 8000000 in
set_option maxRecDepth 100000 in
theorem tells_ny (y m d y' m' d' yy mm n : Int) (w : World) (hn : -9223372036854775808 ≤ n ∧ n ≤ 9223372036854775807) (hd : rightB y m d = false) (hr : (-15329228 ≤ n ∧ n ≤ 13890537)) :
    Calls Try.prog 6 #[.agg #[.int .i64 y, .int .i64 m, .int .i64 d], .agg #[.int .i64 y', .int .i64 m', .int .i64 d'], .int .i64 yy, .int .i64 mm, .int .i64 n] w fun e w' => e = .returned (.bool true) ∧ Below w.heap.size w w' := by
  obtain ⟨n0, n1⟩ := hn
  have O0 : Two2 w ((w.alloc (.cells #[.int .i64 y, .int .i64 m, .int .i64 d] 40)).alloc (.cells #[.int .i64 y', .int .i64 m', .int .i64 d'] 40)) w.heap.size (w.heap.size + 1) (.int .i64 y) (.int .i64 m) (.int .i64 d) (.int .i64 y') (.int .i64 m') (.int .i64 d') :=
    ⟨by go_grown, (by simp; omega), by simp, by simp [go_sem], by simp [go_sem], by simp [go_sem], by simp [go_sem], by simp [go_sem], by simp [go_sem]⟩
  go_enter Try.func6, Try.ntmps6
  go_wp2_with fail
  generalize ((w.alloc (.cells #[.int .i64 y, .int .i64 m, .int .i64 d] 40)).alloc (.cells #[.int .i64 y', .int .i64 m', .int .i64 d'] 40)) = W0 at O0 ⊢
  refine (days_no y m d _ hd).mono ?_; rintro e w1 ⟨rfl, b1⟩
  have O1 := O0.keep b1
  clear b1 O0
  have k0 := O1.k0; have k1 := O1.k1; have k2 := O1.k2
  go_wp2_with fail
  clear k0 k1 k2
  refine (rdays_no y m d _ hd).mono ?_; rintro e w2 ⟨rfl, b2⟩
  have O2 := O1.keep b2
  clear b2 O1
  have k0 := O2.k0; have k1 := O2.k1; have k2 := O2.k2
  go_wp2_with fail
  clear k0 k1 k2
  refine (date_yes n _ hr.1 hr.2).mono ?_; rintro e w3 ⟨rfl, b3⟩
  have O3 := O2.keep b3
  clear b3 O2
  have P3 := One.new (w := w) (t := 40) (v0 := .int .i64 (Cal.dY n)) (v1 := .int .i64 (Cal.dM n)) (v2 := .int .i64 (Cal.dD n)) O3.bel
  have O4 := O3.keep (Below.alloc (Below.refl _ w3) (Nat.le_refl _) (.cells #[.int .i64 (Cal.dY n), .int .i64 (Cal.dM n), .int .i64 (Cal.dD n)] 40))
  clear O3
  go_wp2_with fail
  generalize w3.alloc (.cells #[.int .i64 (Cal.dY n), .int .i64 (Cal.dM n), .int .i64 (Cal.dD n)] 40) = W4 at O4 P3 ⊢
  generalize w3.heap.size = c1 at P3 ⊢
  refine (rdate_yes n _ hr.1 hr.2).mono ?_; rintro e w5 ⟨rfl, b5⟩
  have O5 := O4.keep b5
  have P5 := P3.keep b5
  clear b5 O4 P3
  have Q5 := One.new (w := w) (t := 40) (v0 := .int .i64 (Cal.dY n)) (v1 := .int .i64 (Cal.dM n)) (v2 := .int .i64 (Cal.dD n)) O5.bel
  have O6 := O5.keep (Below.alloc (Below.refl _ w5) (Nat.le_refl _) (.cells #[.int .i64 (Cal.dY n), .int .i64 (Cal.dM n), .int .i64 (Cal.dD n)] 40))
  have P6 := P5.keep (Below.alloc (Below.refl _ w5) (Nat.le_refl _) (.cells #[.int .i64 (Cal.dY n), .int .i64 (Cal.dM n), .int .i64 (Cal.dD n)] 40))
  clear O5 P5
  have k0 := O6.k0; have k1 := O6.k1; have k2 := O6.k2
  go_wp2_with fail
  clear k0 k1 k2
  generalize w5.alloc (.cells #[.int .i64 (Cal.dY n), .int .i64 (Cal.dM n), .int .i64 (Cal.dD n)] 40) = W6 at O6 P6 Q5 ⊢
  generalize w5.heap.size = c2 at Q5 ⊢
  refine (yearDay_no y m d _ hd).mono ?_; rintro e w7 ⟨rfl, b7⟩
  have O7 := O6.keep b7; have P7 := P6.keep b7; have Q7 := Q5.keep b7
  clear b7 O6 P6 Q5
  have k0 := O7.k0; have k1 := O7.k1; have k2 := O7.k2
  go_wp2_with fail
  clear k0 k1 k2
  refine (ryearDay_no y m d _ hd).mono ?_; rintro e w8 ⟨rfl, b8⟩
  have O8 := O7.keep b8; have P8 := P7.keep b8; have Q8 := Q7.keep b8
  clear b8 O7 P7 Q7
  have F8 := Lib.hid (four_drew ⟨O8.bel, O8.hb, O8.hc, P8.hb, Q8.hb, O8.k0, O8.k1, O8.k2, O8.g0, O8.g1, O8.g2, P8.k0, P8.k1, P8.k2, Q8.k0, Q8.k1, Q8.k2⟩)
  clear O8 P8 Q8
  go_wp2_with fail
  simp only [List.append]
  go_region_held3 (fun W => Below w.heap.size w W ∧ w.heap.size < W.heap.size ∧ (w.heap.size + 1) < W.heap.size ∧ c1 < W.heap.size ∧ c2 < W.heap.size ∧ W.cell? ⟨w.heap.size, 0, none⟩ = some (.int .i64 y) ∧ W.cell? ⟨w.heap.size, 1, none⟩ = some (.int .i64 m) ∧ W.cell? ⟨w.heap.size, 2, none⟩ = some (.int .i64 d) ∧ W.cell? ⟨(w.heap.size + 1), 0, none⟩ = some (.int .i64 y') ∧ W.cell? ⟨(w.heap.size + 1), 1, none⟩ = some (.int .i64 m') ∧ W.cell? ⟨(w.heap.size + 1), 2, none⟩ = some (.int .i64 d') ∧ W.cell? ⟨c1, 0, none⟩ = some (.int .i64 (Cal.dY n)) ∧ W.cell? ⟨c1, 1, none⟩ = some (.int .i64 (Cal.dM n)) ∧ W.cell? ⟨c1, 2, none⟩ = some (.int .i64 (Cal.dD n)) ∧ W.cell? ⟨c2, 0, none⟩ = some (.int .i64 (Cal.dY n)) ∧ W.cell? ⟨c2, 1, none⟩ = some (.int .i64 (Cal.dM n)) ∧ W.cell? ⟨c2, 2, none⟩ = some (.int .i64 (Cal.dD n))) (first | exact F8.out | exact four_keep ‹Below _ _ _› ‹_ ∧ _›)
    (first
      | (go_at_call 31; refine (leap_any _ _).mono ?_; rintro e w' ⟨rfl, rfl⟩)
      | (go_at_call 32; refine (rleap_any _ _).mono ?_; rintro e w' ⟨rfl, rfl⟩)
      | (go_at_call 33; refine (len_any _ _ _).mono ?_; rintro e w' ⟨rfl, rfl⟩)
      | (go_at_call 34; refine (rlen_any _ _ _).mono ?_; rintro e w' ⟨rfl, hb⟩)
      | (go_at_call 35; refine (right_any _ _ _ _).mono ?_; rintro e w' ⟨rfl, hb⟩)
      | (go_at_call 36; refine (rright_any _ _ _ _).mono ?_; rintro e w' ⟨rfl, hb⟩)
      | (go_at_call 37; refine (weekday_b _ _ n0 n1).mono ?_; rintro e w' ⟨rfl, hb⟩)
      | (go_at_call 38; refine (rweekday_b _ _ n0 n1).mono ?_; rintro e w' ⟨rfl, hb⟩)
      | (go_at_call 39; refine (dcompare _ _ _ _ _ _ _).mono ?_; rintro e w' ⟨rfl, hb⟩)
      | (go_at_call 40; refine (rcompare _ _ _ _ _ _ _).mono ?_; rintro e w' ⟨rfl, hb⟩)
      | (go_at_call 41; refine (lives3 _).mono ?_; rintro e w' ⟨rfl, hb⟩))
  rename_i hS
  have BB := Lib.hid hS.1
  go_wp2_with fail
  go_ret
  exact ⟨rfl, BB.out⟩
end Go.Proofs.Ytcephkmdedjecaa
