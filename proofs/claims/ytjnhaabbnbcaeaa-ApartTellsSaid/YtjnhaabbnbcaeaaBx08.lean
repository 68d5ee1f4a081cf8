/- Joined: CivB, CivC, CivY, AwA. -/
import Derived.Test.YtjnhaabbnbcaeaaBx04
import Derived.Test.YtjnhaabbnbcaeaaBx07
import Derived.Test.YtjnhaabbnbcaeaaBx01
/- The contracts of civil's functions: Right, yearStart, monthStart, yearOf, Days. -/
set_option linter.unusedVariables false
set_option linter.unusedSimpArgs false
namespace Go.Proofs.Ytjnhaabbnbcaeaa
open Go.RowKit Go

/-- May the date be? -/
def rightB (y m d : Int) : Bool := decide (-40000 ≤ y ∧ y ≤ 40000 ∧ 1 ≤ d ∧ d ≤ Cal.len y m)
theorem right_true {y m d : Int} : rightB y m d = true ↔ Cal.Right y m d := by
  unfold rightB; simp; exact ⟨fun ⟨a, b, c, d⟩ => ⟨a, b, c, d⟩, fun ⟨a, b, c, d⟩ => ⟨a, b, c, d⟩⟩
theorem right_false {y m d : Int} : rightB y m d = false ↔ ¬ Cal.Right y m d := by
  rw [← right_true]; simp

theorem right_br {y m d : Int} {b : Bool} (h : (-40000 ≤ y ∧ y ≤ 40000 ∧ 1 ≤ d ∧ d ≤ Cal.len y m) ↔ b = true) : Ending.returned (.bool b) = .returned (.bool (rightB y m d)) := by
  unfold rightB; congr 2; rw [Bool.eq_iff_iff]; simp [h]

set_option maxHeartbeats 400000 in
theorem right_any (y m d : Int) (w : World) :
    Calls Try.prog 48 #[.agg #[.int .i64 y, .int .i64 m, .int .i64 d]] w fun e w' => e = .returned (.bool (rightB y m d)) ∧ Below w.heap.size w w' := by
  by_cases h1 : -40000 ≤ y
  · by_cases h2 : y ≤ 40000
    · by_cases h3 : 1 ≤ d
      · go_enter Try.func48, Try.ntmps48
        go_wp2
        go_quiet ((go_at_call 34; exact q_same (len_any _ _ _)))
        go_wp2
        go_ret
        exact ⟨right_br (by simp [h1, h2, h3]), below_new _ _ _⟩
      · have hd : decide (1 ≤ d) = false := by simpa using h3
        go_enter Try.func48, Try.ntmps48
        go_wp2
        go_quiet (fail)
        go_wp2
        go_ret
        exact ⟨right_br (by simp; omega), below_new _ _ _⟩
    · have hd : decide (y ≤ 40000) = false := by simpa using h2
      go_enter Try.func48, Try.ntmps48
      go_wp2
      go_quiet (fail)
      go_wp2
      go_ret
      exact ⟨right_br (by simp; omega), below_new _ _ _⟩
  · have hd : decide (-40000 ≤ y) = false := by simpa using h1
    go_enter Try.func48, Try.ntmps48
    go_wp2
    go_quiet (fail)
    go_wp2
    go_ret
    exact ⟨right_br (by simp; omega), below_new _ _ _⟩

set_option maxHeartbeats 400000 in
theorem yearStart_any (y : Int) (w : World) (h0 : 0 ≤ y) (h1 : y ≤ 400) :
    Calls Try.prog 50 #[.int .i64 y] w fun e w' => e = .returned (.int .i64 (Cal.yst y)) ∧ w = w' := by
  go_enter Try.func50, Try.ntmps50
  go_wp2
  go_ret
  exact ⟨rfl, rfl⟩
set_option maxHeartbeats 400000 in
theorem monthStart_any (m : Int) (w : World) (h0 : 0 ≤ m) (h1 : m ≤ 12) :
    Calls Try.prog 51 #[.int .i64 m] w fun e w' => e = .returned (.int .i64 (Cal.mst m)) ∧ w = w' := by
  go_enter Try.func51, Try.ntmps51
  go_wp2
  go_ret
  exact ⟨rfl, rfl⟩

theorem mst_bd (m : Int) (h0 : 0 ≤ m) (h1 : m ≤ 12) : 0 ≤ Cal.mst m ∧ Cal.mst m ≤ 367 := by unfold Cal.mst; omega

set_option maxHeartbeats 400000 in
theorem days_no (y m d : Int) (w : World) (h : rightB y m d = false) :
    Calls Try.prog 36 #[.agg #[.int .i64 y, .int .i64 m, .int .i64 d]] w fun e w' => e = .returned (.tuple #[.int .i64 0, .int .i64 1]) ∧ Below w.heap.size w w' := by
  go_enter Try.func36, Try.ntmps36
  go_wp2_with (go_at_call 48; refine (right_any _ _ _ _).mono ?_; rintro e w' ⟨rfl, hb⟩; obtain ⟨hc, hf⟩ := bcell hb)
  go_ret2
  exact ⟨rfl, ((Below.refl _ _).alloc (Nat.le_refl _) _).trans (hb.mono (by simp))⟩
set_option maxHeartbeats 400000 in
theorem days_yes (y m d : Int) (w : World) (h : rightB y m d = true) :
    Calls Try.prog 36 #[.agg #[.int .i64 y, .int .i64 m, .int .i64 d]] w fun e w' => e = .returned (.tuple #[.int .i64 (Cal.num y m d), .int .i64 0]) ∧ Below w.heap.size w w' := by
  have hr := right_true.1 h
  obtain ⟨hm1, hm2⟩ := Cal.month_of hr
  have hl := Cal.len_bd y m
  obtain ⟨hy0, hy1, hd0, hd1⟩ := hr
  have hd2 : d ≤ 31 := by omega
  clear hd1 hl
  rw [← Cal.cdays_eq y m d hm1 hm2]
  by_cases hm : m < 3
  · have e : Cal.cdays y m d = -719468 + (y-1)/400 * 146097 + Cal.yst ((y-1) % 400) + Cal.mst (m - 3 + 12) + d - 1 := by
      rw [show m - 3 + 12 = m + 9 by omega]; exact if_pos hm
    have E := Lib.hid e; clear e
    have q0 : -101 ≤ (y-1)/400 := by omega
    have q1 : (y-1)/400 ≤ 100 := by omega
    have r0 : 0 ≤ (y-1)%400 := by omega
    have r1 : (y-1)%400 ≤ 399 := by omega
    obtain ⟨s0, s1⟩ := Cal.yst_bd ((y-1)%400) r0 (by omega)
    obtain ⟨t0, t1⟩ := mst_bd (m - 3 + 12) (by omega) (by omega)
    go_enter Try.func36, Try.ntmps36
    go_wp2_with (go_at_call 48; refine (right_any _ _ _ _).mono ?_; rintro e w' ⟨rfl, hb⟩; obtain ⟨hc, hf⟩ := bcell hb)
    go_quiet (fail)
    go_wp2_with (go_at_call 49; refine (div_pos _ _ _ (by omega) (by omega) (by omega) (by omega)).mono ?_; rintro e w' ⟨rfl, n, rfl⟩)
    go_quiet (first
      | (go_at_call 50; refine q_same2 (yearStart_any _ _ (by omega) (by omega)))
      | (go_at_call 51; refine q_same2 (monthStart_any _ _ (by omega) (by omega))))
    go_wp2
    go_ret2
    refine ⟨?_, below_drewN (below_drewN (((Below.refl _ _).alloc (Nat.le_refl _) _).trans (hb.mono (by simp))) _) _⟩
    rw [E.out]; rfl
  · have e : Cal.cdays y m d = -719468 + y/400 * 146097 + Cal.yst (y % 400) + Cal.mst (m - 3) + d - 1 := if_neg hm
    have E := Lib.hid e; clear e
    have q0 : -101 ≤ (y)/400 := by omega
    have q1 : (y)/400 ≤ 100 := by omega
    have r0 : 0 ≤ (y)%400 := by omega
    have r1 : (y)%400 ≤ 399 := by omega
    obtain ⟨s0, s1⟩ := Cal.yst_bd ((y)%400) r0 (by omega)
    obtain ⟨t0, t1⟩ := mst_bd (m - 3) (by omega) (by omega)
    go_enter Try.func36, Try.ntmps36
    go_wp2_with (go_at_call 48; refine (right_any _ _ _ _).mono ?_; rintro e w' ⟨rfl, hb⟩; obtain ⟨hc, hf⟩ := bcell hb)
    go_quiet (fail)
    go_wp2_with (go_at_call 49; refine (div_pos _ _ _ (by omega) (by omega) (by omega) (by omega)).mono ?_; rintro e w' ⟨rfl, n, rfl⟩)
    go_quiet (first
      | (go_at_call 50; refine q_same2 (yearStart_any _ _ (by omega) (by omega)))
      | (go_at_call 51; refine q_same2 (monthStart_any _ _ (by omega) (by omega))))
    go_wp2
    go_ret2
    refine ⟨?_, below_drewN (below_drewN (((Below.refl _ _).alloc (Nat.le_refl _) _).trans (hb.mono (by simp))) _) _⟩
    rw [E.out]; rfl
end Go.Proofs.Ytjnhaabbnbcaeaa

/- The contracts of civil's functions: Date, Weekday. -/
set_option linter.unusedVariables false
set_option linter.unusedSimpArgs false
namespace Go.Proofs.Ytjnhaabbnbcaeaa
open Go.RowKit



end Go.Proofs.Ytjnhaabbnbcaeaa

/- The contract of civil.YearDay. -/
set_option linter.unusedVariables false
set_option linter.unusedSimpArgs false
namespace Go.Proofs.Ytjnhaabbnbcaeaa
open Go.RowKit

set_option maxHeartbeats 400000 in
theorem yearDay_no (y m d : Int) (w : World) (h : rightB y m d = false) :
    Calls Try.prog 23 #[.agg #[.int .i64 y, .int .i64 m, .int .i64 d]] w fun e w' => e = .returned (.tuple #[.int .i64 0, .int .i64 1]) ∧ Below w.heap.size w w' := by
  go_enter Try.func23, Try.ntmps23
  go_wp2_with (go_at_call 36; refine (days_no _ _ _ _ h).mono ?_; rintro e w' ⟨rfl, hb⟩)
  go_ret2
  exact ⟨rfl, ((Below.refl _ _).alloc (Nat.le_refl _) _).trans (hb.mono (by simp))⟩
set_option maxHeartbeats 400000 in
theorem yearDay_yes (y m d : Int) (w : World) (h : rightB y m d = true) :
    Calls Try.prog 23 #[.agg #[.int .i64 y, .int .i64 m, .int .i64 d]] w fun e w' => e = .returned (.tuple #[.int .i64 (Cal.cum y m + d), .int .i64 0]) ∧ Below w.heap.size w w' := by
  have hr := right_true.1 h
  have h1 : rightB y 1 1 = true := right_true.2 ⟨hr.y0, hr.y1, by omega, by simp [Cal.len]⟩
  have n1 := Cal.num_range hr
  have n2 := Cal.num_range (right_true.1 h1)
  have e : Cal.num y m d - Cal.num y 1 1 + 1 = Cal.cum y m + d := by unfold Cal.num; have : Cal.cum y 1 = 0 := rfl; omega
  have E := Lib.hid e; clear e
  obtain ⟨a0, a1⟩ := n1
  obtain ⟨b0, b1⟩ := n2
  clear hr
  go_enter Try.func23, Try.ntmps23
  go_wp2_with fail
  refine (days_yes _ _ _ _ h).mono ?_; rintro e w' ⟨rfl, hb⟩; obtain ⟨hc, hf⟩ := bcell hb
  go_wp2_with fail
  refine (days_yes _ _ _ _ h1).mono ?_; rintro e w2 ⟨rfl, hb2⟩
  go_wp2
  go_ret2
  rw [E.out]
  exact ⟨rfl, (((Below.refl _ _).alloc (Nat.le_refl _) _).trans (hb.mono (by simp))).trans (hb2.mono (by have := hb.size; simp at this; omega))⟩
end Go.Proofs.Ytjnhaabbnbcaeaa

/- Rules far enough from each other: windows, what of a rule is asked for, whether two are too close: the program's. -/
set_option linter.unusedVariables false
set_option linter.unusedSimpArgs false
namespace Go.Proofs.Ytjnhaabbnbcaeaa
open Go.RowKit Go.Sort
set_option maxRecDepth 100000 in
theorem asecond_any (m d sec base : Int) (w : World) (m0 : -1000000 ≤ m) (m1 : m ≤ 1000000) (d0 : -1000000 ≤ d) (d1 : d ≤ 1000000) (s0 : -1000000000 ≤ sec) (s1 : sec ≤ 1000000000) :
    Calls Try.prog 25 #[.int .i64 m, .int .i64 d, .agg #[.int .i64 sec, .int .i64 base]] w fun e w' => e = .returned (.int .i64 ((m - 1 + d - 1) * 86400 + sec)) ∧ Below w.heap.size w w' := by
  go_enter Try.func25, Try.ntmps25
  go_wp2_with fail
  go_ret
  exact ⟨rfl, by repeat (first | exact Below.refl _ _ | refine Below.setCell ?_ (by first | (simp; done) | (simp; omega) | omega) _ | refine Below.alloc ?_ (by first | (simp; done) | (simp; omega) | omega) _)⟩
set_option maxRecDepth 100000 in
theorem abehind_any (a0 a1 a2 a3 a4 b0 b1 b2 b3 b4 n : Int) (w : World) (h0 : -1000000000 ≤ a3) (h1 : a3 ≤ 1000000000) (h2 : -1000000000 ≤ b2) (h3 : b2 ≤ 1000000000) (n0 : 0 ≤ n) (n1 : n ≤ 1) :
    Calls Try.prog 31 #[.agg #[.int .i64 a0, .int .i64 a1, .int .i64 a2, .int .i64 a3, .int .i64 a4], .agg #[.int .i64 b0, .int .i64 b1, .int .i64 b2, .int .i64 b3, .int .i64 b4], .int .i64 n] w fun e w' => e = .returned (.bool (Aw.isB (a0, a1, a2, a3, a4) (b0, b1, b2, b3, b4) n)) ∧ Below w.heap.size w w' := by
  unfold Aw.isB
  dsimp only
  by_cases g : 345600 ≤ b2 + n * 31536000 - a3
  · rw [decide_eq_true g]
    go_enter Try.func31, Try.ntmps31
    go_wp2_with fail
    go_ret
    exact ⟨by simp [g], by repeat (first | exact Below.refl _ _ | refine Below.setCell ?_ (by first | (simp; done) | (simp; omega) | omega) _ | refine Below.alloc ?_ (by first | (simp; done) | (simp; omega) | omega) _)⟩
  · rw [decide_eq_false g]
    go_enter Try.func31, Try.ntmps31
    go_wp2_with fail
    go_ret
    exact ⟨by simp [g], by repeat (first | exact Below.refl _ _ | refine Below.setCell ?_ (by first | (simp; done) | (simp; omega) | omega) _ | refine Below.alloc ?_ (by first | (simp; done) | (simp; omega) | omega) _)⟩
set_option maxRecDepth 100000 in
theorem ainyear_any (a0 a1 a2 a3 a4 b0 b1 b2 b3 b4 n : Int) (w : World) (h0 : -1000000000 ≤ a0) (h1 : a0 ≤ 1000000000) (h2 : -1000000000 ≤ a1) (h3 : a1 ≤ 1000000000) (n0 : 0 ≤ n) (n1 : n ≤ 1) :
    Calls Try.prog 30 #[.agg #[.int .i64 a0, .int .i64 a1, .int .i64 a2, .int .i64 a3, .int .i64 a4], .agg #[.int .i64 b0, .int .i64 b1, .int .i64 b2, .int .i64 b3, .int .i64 b4], .int .i64 n] w fun e w' => e = .returned (.bool (Aw.inY (a0, a1, a2, a3, a4) (b0, b1, b2, b3, b4) n)) ∧ Below w.heap.size w w' := by
  unfold Aw.inY
  dsimp only
  go_enter Try.func30, Try.ntmps30
  go_wp2_with fail
  go_ret
  exact ⟨rfl, by repeat (first | exact Below.refl _ _ | refine Below.setCell ?_ (by first | (simp; done) | (simp; omega) | omega) _ | refine Below.alloc ?_ (by first | (simp; done) | (simp; omega) | omega) _)⟩
set_option maxHeartbeats 4000000 in
set_option maxRecDepth 100000 in
theorem awindow_any (s : ByteArray) (fy ty m k wk d sec base save : Int) (t : ByteArray) (w : World) (hs : s.size ≤ maxLen) (ht : t.size ≤ maxLen) :
    Calls Try.prog 9 #[.agg #[.string s, .int .i64 fy, .int .i64 ty, .int .i64 m, .int .i64 k, .int .i64 wk, .int .i64 d, .int .i64 sec, .int .i64 base, .int .i64 save, .string t]] w fun e w' => e = .returned (.tuple #[.int .i64 (Aw.lo (s, fy, ty, m, k, wk, d, sec, base, save, t)), .int .i64 (Aw.hi (s, fy, ty, m, k, wk, d, sec, base, save, t)), .int .i64 (Aw.wy (s, fy, ty, m, k, wk, d, sec, base, save, t))]) ∧ Below w.heap.size w w' := by
  have RB := Lib.hid (fun W => ruright_any s t fy ty m k wk d sec base save W hs (by unfold maxLen at ht; omega))
  have ok := Aw.ok_rc (s, fy, ty, m, k, wk, d, sec, base, save, t)
  cases hr : Ru.rB s t fy ty m k wk d sec base save
  · rw [hr] at RB
    have e0 : Aw.lo (s, fy, ty, m, k, wk, d, sec, base, save, t) = 0 := if_neg (by rw [hr]; decide)
    have e1 : Aw.hi (s, fy, ty, m, k, wk, d, sec, base, save, t) = 0 := if_neg (by rw [hr]; decide)
    have e2 : Aw.wy (s, fy, ty, m, k, wk, d, sec, base, save, t) = 4 := if_neg (by show ¬ Ru.rB s t fy ty m k wk d sec base save = true; rw [hr]; decide)
    rw [e0, e1, e2]
    clear e0 e1 e2 hr hs ht ok
    go_enter Try.func9, Try.ntmps9
    go_wp2_with fail
    refine (RB.out _).mono ?_; rintro e w1 ⟨rfl, b1⟩
    have d1 : Below w.heap.size w w1 := below_step (by repeat (first | exact Below.refl _ _ | refine below_drewN ?_ _ | refine Below.drew ?_ | refine Below.setCell ?_ (by first | (simp; done) | (simp; omega) | omega) _ | refine Below.alloc ?_ (by first | (simp; done) | (simp; omega) | omega) _)) b1
    have B1 := Lib.hid d1
    have X1 : Bk11 w1 (w.heap.size) (.string s) (.int .i64 fy) (.int .i64 ty) (.int .i64 m) (.int .i64 k) (.int .i64 wk) (.int .i64 d) (.int .i64 sec) (.int .i64 base) (.int .i64 save) (.string t) := Bk11.of b1 (by simp <;> omega) (by intro j; simp [go_sem]) (by simp [go_sem]) (by simp [go_sem]) (by simp [go_sem]) (by simp [go_sem]) (by simp [go_sem]) (by simp [go_sem]) (by simp [go_sem]) (by simp [go_sem]) (by simp [go_sem]) (by simp [go_sem]) (by simp [go_sem])
    clear b1 d1
    have cX_b := X1.hb
    have cX_f := X1.fz
    have cX_0 := X1.k0
    have cX_1 := X1.k1
    have cX_2 := X1.k2
    have cX_3 := X1.k3
    have cX_4 := X1.k4
    have cX_5 := X1.k5
    have cX_6 := X1.k6
    have cX_7 := X1.k7
    have cX_8 := X1.k8
    have cX_9 := X1.k9
    have cX_10 := X1.k10
    go_wp2_with fail
    clear cX_b cX_f cX_0 cX_1 cX_2 cX_3 cX_4 cX_5 cX_6 cX_7 cX_8 cX_9 cX_10
    exact bodyPost_ret (v := .tuple #[.int .i64 0, .int .i64 0, .int .i64 4]) (by simp [results, Try.results9, go_sem]) rfl ⟨rfl, B1.out⟩
  · rw [hr] at RB
    have e0 : Aw.lo (s, fy, ty, m, k, wk, d, sec, base, save, t) = (Cal.cum 2001 m + Dr.low k d m - 1) * 86400 + sec := if_pos hr
    have e1 : Aw.hi (s, fy, ty, m, k, wk, d, sec, base, save, t) = (Cal.cum 2001 m + Dr.high k d m - 1) * 86400 + sec := if_pos hr
    have e2 : Aw.wy (s, fy, ty, m, k, wk, d, sec, base, save, t) = 0 := if_pos hr
    have h2 := hr
    unfold Ru.rB at h2
    simp only [Bool.and_eq_true, decide_eq_true_eq] at h2
    obtain ⟨-, y0, y1, y2, of, cr, -⟩ := h2
    obtain ⟨o1, m1, m2, d2⟩ := Dr.onF_true.1 of
    have cb := Cal.cum_bd 2001 m m1 m2
    have ll := Dr.len_2001 2001 m m1 m2
    have lp : Cal.lp 2001 = 0 := by decide
    unfold Cl.rB at cr
    simp only [Bool.and_eq_true, decide_eq_true_eq] at cr
    have hl : -5 ≤ Dr.low k d m ∧ Dr.low k d m ≤ 31 := by
      rcases Dr.onR_true.1 o1 with ⟨rfl, -, a, b⟩ | ⟨rfl, -, -, -⟩ | ⟨rfl | rfl, -, -, a, b⟩ <;> simp [Dr.low] <;> omega
    have hh : 1 ≤ Dr.high k d m ∧ Dr.high k d m ≤ 37 := by
      rcases Dr.onR_true.1 o1 with ⟨rfl, -, a, b⟩ | ⟨rfl, -, -, -⟩ | ⟨rfl | rfl, -, -, a, b⟩ <;> simp [Dr.high] <;> omega
    have YD := Lib.hid (fun W => yearDay_yes 2001 m 1 W (right_true.2 ⟨by decide, by decide, by decide, by omega⟩))
    have DW := Lib.hid (fun W => owindow_any k wk d m W)
    rw [show Dr.wl k wk d m = Dr.low k d m from if_pos of, show Dr.wh k wk d m = Dr.high k d m from if_pos of, show Dr.ww k wk d m = 0 from if_pos of] at DW
    generalize Dr.low k d m = lw at *
    generalize Dr.high k d m = hg at *
    generalize Cal.cum 2001 m = cu at *
    have AS := Lib.hid (fun W x h1 h2 => asecond_any (cu + 1) x sec base W (by omega) (by omega) h1 h2 (by omega) (by omega))
    rw [e0, e1, e2]
    obtain ⟨cv, hcv⟩ : ∃ x, x = cu + 1 := ⟨_, rfl⟩
    rw [← hcv] at AS YD
    have f0 : (cu + lw - 1) * 86400 + sec = (cv - 1 + lw - 1) * 86400 + sec := by omega
    have f1 : (cu + hg - 1) * 86400 + sec = (cv - 1 + hg - 1) * 86400 + sec := by omega
    rw [f0, f1]
    clear e0 e1 e2 hr hs ht ok cr of o1 m1 m2 d2 cb ll lp y0 y1 y2 f0 f1 hcv
    go_enter Try.func9, Try.ntmps9
    go_wp2_with fail
    refine (RB.out _).mono ?_; rintro e w1 ⟨rfl, b1⟩
    have d1 : Below w.heap.size w w1 := below_step (by repeat (first | exact Below.refl _ _ | refine below_drewN ?_ _ | refine Below.drew ?_ | refine Below.setCell ?_ (by first | (simp; done) | (simp; omega) | omega) _ | refine Below.alloc ?_ (by first | (simp; done) | (simp; omega) | omega) _)) b1
    have B1 := Lib.hid d1
    have X1 : Bk11 w1 (w.heap.size) (.string s) (.int .i64 fy) (.int .i64 ty) (.int .i64 m) (.int .i64 k) (.int .i64 wk) (.int .i64 d) (.int .i64 sec) (.int .i64 base) (.int .i64 save) (.string t) := Bk11.of b1 (by simp <;> omega) (by intro j; simp [go_sem]) (by simp [go_sem]) (by simp [go_sem]) (by simp [go_sem]) (by simp [go_sem]) (by simp [go_sem]) (by simp [go_sem]) (by simp [go_sem]) (by simp [go_sem]) (by simp [go_sem]) (by simp [go_sem]) (by simp [go_sem])
    clear b1 d1
    have cX_b := X1.hb
    have cX_f := X1.fz
    have cX_0 := X1.k0
    have cX_1 := X1.k1
    have cX_2 := X1.k2
    have cX_3 := X1.k3
    have cX_4 := X1.k4
    have cX_5 := X1.k5
    have cX_6 := X1.k6
    have cX_7 := X1.k7
    have cX_8 := X1.k8
    have cX_9 := X1.k9
    have cX_10 := X1.k10
    go_wp2_with fail
    clear cX_b cX_f cX_0 cX_1 cX_2 cX_3 cX_4 cX_5 cX_6 cX_7 cX_8 cX_9 cX_10
    refine (YD.out _).mono ?_; rintro e w2 ⟨rfl, b2⟩
    have d2 : Below w1.heap.size w1 w2 := below_step (by repeat (first | exact Below.refl _ _ | refine below_drewN ?_ _ | refine Below.drew ?_ | refine Below.setCell ?_ (by first | (simp; done) | (simp; omega) | omega) _ | refine Below.alloc ?_ (by first | (simp; done) | (simp; omega) | omega) _)) b2
    have B2 := Lib.hid (below_step B1.out d2)
    have X2 := X1.keep d2
    clear X1 b2 d2 B1
    have cX_b := X2.hb
    have cX_f := X2.fz
    have cX_0 := X2.k0
    have cX_1 := X2.k1
    have cX_2 := X2.k2
    have cX_3 := X2.k3
    have cX_4 := X2.k4
    have cX_5 := X2.k5
    have cX_6 := X2.k6
    have cX_7 := X2.k7
    have cX_8 := X2.k8
    have cX_9 := X2.k9
    have cX_10 := X2.k10
    go_wp2_with fail
    clear cX_b cX_f cX_0 cX_1 cX_2 cX_3 cX_4 cX_5 cX_6 cX_7 cX_8 cX_9 cX_10
    refine (DW.out _).mono ?_; rintro e w3 ⟨rfl, b3⟩
    have d3 : Below w2.heap.size w2 w3 := below_step (by repeat (first | exact Below.refl _ _ | refine below_drewN ?_ _ | refine Below.drew ?_ | refine Below.setCell ?_ (by first | (simp; done) | (simp; omega) | omega) _ | refine Below.alloc ?_ (by first | (simp; done) | (simp; omega) | omega) _)) b3
    have B3 := Lib.hid (below_step B2.out d3)
    have X3 := X2.keep d3
    clear X2 b3 d3 B2
    have cX_b := X3.hb
    have cX_f := X3.fz
    have cX_0 := X3.k0
    have cX_1 := X3.k1
    have cX_2 := X3.k2
    have cX_3 := X3.k3
    have cX_4 := X3.k4
    have cX_5 := X3.k5
    have cX_6 := X3.k6
    have cX_7 := X3.k7
    have cX_8 := X3.k8
    have cX_9 := X3.k9
    have cX_10 := X3.k10
    go_wp2_with fail
    clear cX_b cX_f cX_0 cX_1 cX_2 cX_3 cX_4 cX_5 cX_6 cX_7 cX_8 cX_9 cX_10
    have qX_0 := cell_regrown X3.k0
    have qX_1 := cell_regrown X3.k1
    have qX_2 := cell_regrown X3.k2
    have qX_3 := cell_regrown X3.k3
    have qX_4 := cell_regrown X3.k4
    have qX_5 := cell_regrown X3.k5
    have qX_6 := cell_regrown X3.k6
    have qX_7 := cell_regrown X3.k7
    have qX_8 := cell_regrown X3.k8
    have qX_9 := cell_regrown X3.k9
    have qX_10 := cell_regrown X3.k10
    refine wp_region_qb (w := w3) (by kernel_rfl) (by kernel_rfl) (by repeat (first | exact Below.refl _ _ | refine below_drewN ?_ _ | refine Below.drew ?_ | refine Below.setCell ?_ (by first | (simp; done) | (simp; omega) | omega) _ | refine Below.alloc ?_ (by first | (simp; done) | (simp; omega) | omega) _)) ?_
    repeat (any_goals (first | go_big_quiet_step (first | (go_at_call 25; exact Calls.regrown_of (AS.out _ _ (by omega) (by omega)))) | quiet_step (first | (go_at_call 25; exact Calls.regrown_of (AS.out _ _ (by omega) (by omega))))))
    refine wpQuiet_nil ?_
    intro w4 hq
    have b4 : Below w3.heap.size w3 w4 := by obtain ⟨p, hq⟩ := hq; rw [hq]; exact below_regrown _ _ _
    clear hq qX_0 qX_1 qX_2 qX_3 qX_4 qX_5 qX_6 qX_7 qX_8 qX_9 qX_10
    have d4 : Below w3.heap.size w3 w4 := below_step (by repeat (first | exact Below.refl _ _ | refine below_drewN ?_ _ | refine Below.drew ?_ | refine Below.setCell ?_ (by first | (simp; done) | (simp; omega) | omega) _ | refine Below.alloc ?_ (by first | (simp; done) | (simp; omega) | omega) _)) b4
    have B4 := Lib.hid (below_step B3.out d4)
    have X4 := X3.keep d4
    clear X3 b4 d4 B3
    go_wp2_with fail
    exact bodyPost_ret (v := .tuple #[.int .i64 ((cv - 1 + lw - 1) * 86400 + sec), .int .i64 ((cv - 1 + hg - 1) * 86400 + sec), .int .i64 0]) (by simp [results, Try.results9, go_sem]) rfl ⟨rfl, B4.out⟩
end Go.Proofs.Ytjnhaabbnbcaeaa
