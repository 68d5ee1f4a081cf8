/- Joined: DrA1, DrB, DrC, AwP, Div. -/
import Derived.Test.YtjnhaabbnbcaeaaBx05
import Derived.Test.YtjnhaabbnbcaeaaBx06
import Derived.Test.YtjnhaabbnbcaeaaBx01
/- Which day of a week lies ahead. -/
set_option linter.unusedVariables false
set_option linter.unusedSimpArgs false
namespace Go.Proofs.Ytjnhaabbnbcaeaa
open Go.RowKit

end Go.Proofs.Ytjnhaabbnbcaeaa

/- The contracts of dayrule's functions: Days, Window. -/
set_option linter.unusedVariables false
set_option linter.unusedSimpArgs false
namespace Go.Proofs.Ytjnhaabbnbcaeaa
open Go.RowKit


end Go.Proofs.Ytjnhaabbnbcaeaa

/- dayrule's answers as functions of what is handed in: Days, Window. -/
set_option linter.unusedVariables false
set_option linter.unusedSimpArgs false
namespace Go.Proofs.Ytjnhaabbnbcaeaa
open Go.RowKit

namespace Dr
def dw (k w d y m : Int) : Int := if onF k w d m = true then if -39999 ≤ y ∧ y ≤ 39999 then 0 else 1 else 4
def dn (k w d y m : Int) : Int := if dw k w d y m = 0 then onN k w d y m else 0
def ww (k w d m : Int) : Int := if onF k w d m = true then 0 else 4
def wl (k w d m : Int) : Int := if onF k w d m = true then low k d m else 0
def wh (k w d m : Int) : Int := if onF k w d m = true then high k d m else 0
end Dr

set_option maxHeartbeats 1000000 in
theorem owindow_any (k wk d m : Int) (w : World) :
    Calls Try.prog 24 #[.agg #[.int .i64 k, .int .i64 wk, .int .i64 d], .int .i64 m] w fun e w' => e = .returned (.tuple #[.int .i64 (Dr.wl k wk d m), .int .i64 (Dr.wh k wk d m), .int .i64 (Dr.ww k wk d m)]) ∧ Below w.heap.size w w' := by
  unfold Dr.wl Dr.wh Dr.ww
  have O0 := One.new (t := 23) (v0 := .int .i64 k) (v1 := .int .i64 wk) (v2 := .int .i64 d) (Below.refl w.heap.size w)
  by_cases h : Dr.onF k wk d m = true
  · rw [if_pos h, if_pos h, if_pos h]
    obtain ⟨a, b1, b2, -⟩ := Dr.onF_true.1 h
    have a := Dr.onR_true.1 a
    have d0 : 0 ≤ d := by omega
    have d1 : d ≤ 31 := by omega
    have H := Lib.hid h; clear h
    unfold Dr.low Dr.high
    by_cases h1 : k = 1
    · rw [if_pos h1, if_pos h1]
      obtain ⟨l0, l1⟩ := Cal.len_bd 2001 m
      subst h1; clear a
      go_enter Try.func24, Try.ntmps24
      go_wp2_with fail
      refine (ofits_any _ _ _ _ _).mono ?_; rintro e w1 ⟨rfl, b1⟩
      rw [H.out]
      have O1 := O0.keep b1
      have k0 := O1.k0; have k2 := O1.k2
      clear O0
      go_wp2_with (go_at_call 34; refine (len_any _ _ _).mono ?_; rintro e w2 ⟨rfl, rfl⟩)
      go_ret3
      exact ⟨rfl, O1.bel⟩
    · rw [if_neg h1, if_neg h1]
      by_cases h2 : k = 2
      · subst h2; clear a h1
        go_enter Try.func24, Try.ntmps24
        go_wp2_with fail
        refine (ofits_any _ _ _ _ _).mono ?_; rintro e w1 ⟨rfl, b1⟩
        rw [H.out]
        have O1 := O0.keep b1
        have k0 := O1.k0; have k2 := O1.k2
        clear O0
        go_wp2_with fail
        go_quiet (fail)
        go_wp2
        go_ret3
        exact ⟨rfl, below_drewN O1.bel _⟩
      · by_cases h3 : k = 3
        · rw [if_pos h3, if_neg h2]
          subst h3; clear a h1 h2
          go_enter Try.func24, Try.ntmps24
          go_wp2_with fail
          refine (ofits_any _ _ _ _ _).mono ?_; rintro e w1 ⟨rfl, b1⟩
          rw [H.out]
          have O1 := O0.keep b1
          have k0 := O1.k0; have k2 := O1.k2
          clear O0
          go_wp2_with fail
          go_quiet (fail)
          go_wp2
          go_ret3
          exact ⟨rfl, below_drewN O1.bel _⟩
        · rw [if_neg h3, if_neg h2]
          have h0 : k = 0 := by omega
          subst h0; clear a h1 h2 h3
          go_enter Try.func24, Try.ntmps24
          go_wp2_with fail
          refine (ofits_any _ _ _ _ _).mono ?_; rintro e w1 ⟨rfl, b1⟩
          rw [H.out]
          have O1 := O0.keep b1
          have k0 := O1.k0; have k2 := O1.k2
          clear O0
          go_wp2_with fail
          go_quiet (fail)
          go_wp2
          go_ret3
          exact ⟨rfl, below_drewN O1.bel _⟩
  · rw [if_neg h, if_neg h, if_neg h]
    have h' : Dr.onF k wk d m = false := by simpa using h
    clear h
    go_enter Try.func24, Try.ntmps24
    go_wp2_with fail
    refine (ofits_any _ _ _ _ _).mono ?_; rintro e w1 ⟨rfl, b1⟩
    rw [h']
    go_wp2_with fail
    go_ret3
    exact ⟨rfl, below_step O0.bel b1⟩
end Go.Proofs.Ytjnhaabbnbcaeaa

/- Rules far enough from each other: in plain numbers and lists. -/
set_option linter.unusedVariables false
set_option linter.unusedSimpArgs false
namespace Go.Proofs.Ytjnhaabbnbcaeaa
open Go.RowKit

namespace Aw
/-- A rule: its name, its years, its month, its day, its time of day, what it saves, its letter. -/
abbrev R := ByteArray × Int × Int × Int × Int × Int × Int × Int × Int × Int × ByteArray
def enc : R → List Value
  | (s, fy, ty, m, k, wk, d, sec, base, save, t) => [.string s, .int .i64 fy, .int .i64 ty, .int .i64 m, .int .i64 k, .int .i64 wk, .int .i64 d, .int .i64 sec, .int .i64 base, .int .i64 save, .string t]
abbrev RV (r : R) : Value := .agg (enc r).toArray
def rt : R → Bool
  | (s, fy, ty, m, k, wk, d, sec, base, save, t) => Ru.rB s t fy ty m k wk d sec base save
/-- Its window, and why there is none. -/
def lo : R → Int
  | (s, fy, ty, m, k, wk, d, sec, base, save, t) => if Ru.rB s t fy ty m k wk d sec base save = true then (Cal.cum 2001 m + Dr.low k d m - 1) * 86400 + sec else 0
def hi : R → Int
  | (s, fy, ty, m, k, wk, d, sec, base, save, t) => if Ru.rB s t fy ty m k wk d sec base save = true then (Cal.cum 2001 m + Dr.high k d m - 1) * 86400 + sec else 0
def wy (r : R) : Int := if rt r = true then 0 else 4
/-- What of a rule is asked for. -/
abbrev C := Int × Int × Int × Int × Int
def rc (r : R) : C := (r.2.1, r.2.2.1, lo r, hi r, wy r)
def encC (c : C) : List Value := [.int .i64 c.1, .int .i64 c.2.1, .int .i64 c.2.2.1, .int .i64 c.2.2.2.1, .int .i64 c.2.2.2.2]
abbrev CV (c : C) : Value := .agg (encC c).toArray
/-- A window is not far from a year, and years are of few digits. -/
def Ok (c : C) : Prop := c.2.2.2.2 = 0 → (-32767 ≤ c.1 ∧ c.1 ≤ 32767) ∧ (-32767 ≤ c.2.1 ∧ c.2.1 ≤ 32767) ∧ (-100000000 ≤ c.2.2.1 ∧ c.2.2.1 ≤ 100000000) ∧ (-100000000 ≤ c.2.2.2.1 ∧ c.2.2.2.1 ≤ 100000000)
def inY (a b : C) (n : Int) : Bool := decide (max (a.1 + n) b.1 ≤ min (a.2.1 + n) b.2.1)
def isB (a b : C) (n : Int) : Bool := decide (345600 ≤ b.2.2.1 + n * 31536000 - a.2.2.2.1)
def near (a b : C) : Bool := (inY a b 0 && (!isB a b 0 && !isB b a 0)) || ((inY a b 1 && !isB a b 1) || (inY b a 1 && !isB b a 1))
/-- Whether two are too close. -/
def pr (a b : C) : Int := if a.2.2.2.2 = 0 ∧ b.2.2.2.2 = 0 then (if near a b then 15 else 0) else 4
/-- The first one of some that is too close to one. -/
def fst0 (c : C) : List C → Int
  | [] => 0
  | o :: r => if pr o c = 0 then fst0 c r else pr o c
def named (s : ByteArray) (l : List R) : List C := (l.filter fun x => decide (x.1 = s)).map rc
/-- Of some rules the first that is too close to one ahead of it; j: how many are ahead. -/
def ck (pre : List R) : List R → Int × Int
  | [] => (-1, 0)
  | r :: t => if fst0 (rc r) (named r.1 pre) = 0 then ck (pre ++ [r]) t else (pre.length, fst0 (rc r) (named r.1 pre))
/-- The same, one beside the other. -/
def fstN (r : R) : List R → Int
  | [] => 0
  | x :: t => if x.1 = r.1 then (if pr (rc x) (rc r) = 0 then fstN r t else pr (rc x) (rc r)) else fstN r t
theorem fstN_eq (r : R) (l : List R) : fstN r l = fst0 (rc r) (named r.1 l) := by
  induction l with
  | nil => rfl
  | cons x t ih =>
    unfold fstN
    by_cases h : x.1 = r.1
    · rw [if_pos h]
      have e : named r.1 (x :: t) = rc x :: named r.1 t := by unfold named; rw [List.filter_cons, if_pos (decide_eq_true h)]; rfl
      rw [e]
      show _ = if pr (rc x) (rc r) = 0 then fst0 (rc r) (named r.1 t) else pr (rc x) (rc r)
      rw [ih]
    · rw [if_neg h, ih]
      have e : named r.1 (x :: t) = named r.1 t := by unfold named; rw [List.filter_cons, if_neg (by rw [decide_eq_false h]; decide)]
      rw [e]
theorem ck_at (l : List R) (j : Nat) (h : j < l.length) : ck (l.take j) (l.drop j) = if fst0 (rc l[j]) (named l[j].1 (l.take j)) = 0 then ck (l.take (j + 1)) (l.drop (j + 1)) else ((j : Int), fst0 (rc l[j]) (named l[j].1 (l.take j))) := by
  rw [List.drop_eq_getElem_cons h]
  show (if fst0 (rc l[j]) (named l[j].1 (l.take j)) = 0 then ck (l.take j ++ [l[j]]) (l.drop (j + 1)) else (((l.take j).length : Int), fst0 (rc l[j]) (named l[j].1 (l.take j)))) = _
  rw [List.take_succ_eq_append_getElem h, List.length_take]
  have e : min j l.length = j := by omega
  rw [e]
theorem ck_end (pre l : List R) (j : Nat) (h : l.length ≤ j) : ck pre (l.drop j) = (-1, 0) := by rw [List.drop_of_length_le h]; rfl
theorem named_app (s : ByteArray) (l : List R) (r : R) : named s (l ++ [r]) = named s l ++ (if r.1 = s then [rc r] else []) := by
  unfold named
  rw [List.filter_append, List.map_append]
  by_cases h : r.1 = s
  · rw [if_pos h]; simp [h]
  · rw [if_neg h]; simp [h]
theorem ok_rc (r : R) : Ok (rc r) := by
  obtain ⟨s, fy, ty, m, k, wk, d, sec, base, save, t⟩ := r
  intro h
  have h1 : Ru.rB s t fy ty m k wk d sec base save = true := by
    cases hh : Ru.rB s t fy ty m k wk d sec base save
    · exfalso
      have : wy (s, fy, ty, m, k, wk, d, sec, base, save, t) = 4 := if_neg (by show ¬ Ru.rB s t fy ty m k wk d sec base save = true; rw [hh]; decide)
      have h' : wy (s, fy, ty, m, k, wk, d, sec, base, save, t) = 0 := h
      omega
    · rfl
  have h2 := h1
  unfold Ru.rB at h2
  simp only [Bool.and_eq_true, decide_eq_true_eq] at h2
  obtain ⟨-, y0, y1, y2, of, cr, -⟩ := h2
  obtain ⟨o1, m1, m2, d2⟩ := Dr.onF_true.1 of
  have cb := Cal.cum_bd 2001 m m1 m2
  have ll := Dr.len_2001 2001 m m1 m2
  have lp : Cal.lp 2001 = 0 := by decide
  unfold Cl.rB at cr
  simp only [Bool.and_eq_true, decide_eq_true_eq] at cr
  have hl : -5 ≤ Dr.low k d m ∧ Dr.low k d m ≤ 31 := by
    rcases Dr.onR_true.1 o1 with ⟨rfl, -, a, b⟩ | ⟨rfl, -, -, -⟩ | ⟨rfl | rfl, -, -, a, b⟩ <;> simp [Dr.low] <;> omega
  have hh : 1 ≤ Dr.high k d m ∧ Dr.high k d m ≤ 37 := by
    rcases Dr.onR_true.1 o1 with ⟨rfl, -, a, b⟩ | ⟨rfl, -, -, -⟩ | ⟨rfl | rfl, -, -, a, b⟩ <;> simp [Dr.high] <;> omega
  have e1 : lo (s, fy, ty, m, k, wk, d, sec, base, save, t) = (Cal.cum 2001 m + Dr.low k d m - 1) * 86400 + sec := if_pos h1
  have e2 : hi (s, fy, ty, m, k, wk, d, sec, base, save, t) = (Cal.cum 2001 m + Dr.high k d m - 1) * 86400 + sec := if_pos h1
  show (-32767 ≤ fy ∧ fy ≤ 32767) ∧ (-32767 ≤ ty ∧ ty ≤ 32767) ∧ (-100000000 ≤ lo (s, fy, ty, m, k, wk, d, sec, base, save, t) ∧ lo (s, fy, ty, m, k, wk, d, sec, base, save, t) ≤ 100000000) ∧ (-100000000 ≤ hi (s, fy, ty, m, k, wk, d, sec, base, save, t) ∧ hi (s, fy, ty, m, k, wk, d, sec, base, save, t) ≤ 100000000)
  rw [e1, e2]
  omega
end Aw
end Go.Proofs.Ytjnhaabbnbcaeaa

/- The contract of num.Div where the divisor is above 0: rounded down. -/
set_option linter.unusedVariables false
set_option linter.unusedSimpArgs false
namespace Go.Proofs.Ytjnhaabbnbcaeaa
open Go.RowKit

theorem tdiv_lo {a b : Int} (hb : 1 ≤ b) (hs : a < 0) (hr : a % b = 0) : a.tdiv b = a / b ∧ a.tmod b = 0 := by
  have h : b ∣ a := Int.dvd_of_emod_eq_zero hr
  exact ⟨Int.tdiv_eq_ediv_of_dvd h, Int.tmod_eq_zero_of_dvd h⟩
theorem tdiv_mid {a b : Int} (hb : 1 ≤ b) (hs : a < 0) (hr : ¬ a % b = 0) : a.tdiv b = a / b + 1 ∧ a.tmod b = a % b - b := by
  have h1 : a.tdiv b = a / b + 1 := by
    rw [Int.tdiv_eq_ediv]
    have : ¬ (0 ≤ a ∨ b ∣ a) := by
      rintro (h | h)
      · omega
      · exact hr (Int.emod_eq_zero_of_dvd h)
    rw [if_neg this, Int.sign_eq_one_of_pos (by omega)]
  refine ⟨h1, ?_⟩
  have e1 := Int.tmod_def a b
  have e2 := Int.emod_def a b
  rw [h1] at e1
  rw [e1, e2, Int.mul_add]; omega

theorem ediv_ge {a b : Int} (ha : -9223372036854775808 ≤ a) (hs : a < 0) (hb : 1 ≤ b) : -9223372036854775808 ≤ a / b ∧ a / b < 0 := by
  refine ⟨?_, Int.ediv_neg_of_neg_of_pos hs (by omega)⟩
  have : a ≤ a / b := by
    rw [Int.le_ediv_iff_mul_le (by omega)]
    have h2 := Int.mul_le_mul_of_nonpos_left (a := a) (b := b) (c := 1) (by omega) hb
    omega
  omega

set_option maxHeartbeats 400000 in
theorem div_pos (a b : Int) (w : World) (ha : -9223372036854775808 ≤ a) (ha' : a ≤ 9223372036854775807) (hb : 1 ≤ b) (hb' : b ≤ 1000000) :
    Calls Try.prog 49 #[.int .i64 a, .int .i64 b] w fun e w' => e = .returned (.tuple #[.int .i64 (a / b), .int .i64 (a % b), .int .i64 0]) ∧ ∃ n, w' = w.drewN n := by
  have hb0 : (b == 0) = false := by simp; omega
  have hb1 : (b == -1) = false := by simp; omega
  have hm0 : 0 ≤ a % b := Int.emod_nonneg a (by omega)
  have hm1 : a % b < b := Int.emod_lt_of_pos a (by omega)
  have hq0 : 0 ≤ a → 0 ≤ a / b := fun h => Int.ediv_nonneg h (by omega)
  by_cases hs : 0 ≤ a
  · have ht : (!(decide (a % b < 0) == decide (b < 0))) = false := by
      rw [decide_eq_false (by omega), decide_eq_false (by omega)]; rfl
    clear hq0
    go_enter Try.func49, Try.ntmps49
    go_wp2
    all_goals (go_quiet (fail))
    all_goals (go_wp2)
    all_goals (go_ret3; refine ⟨?_, _, rfl⟩; first | rfl | simp [*])
  · clear hq0
    by_cases hr : a % b = 0
    · obtain ⟨e1, e2⟩ := tdiv_lo hb (by omega) hr
      obtain ⟨hq0, hq1⟩ := ediv_ge ha (by omega) hb
      obtain ⟨c, hc⟩ : ∃ c, (a == -9223372036854775808) = c := ⟨_, rfl⟩
      go_enter Try.func49, Try.ntmps49
      go_wp2
      all_goals (go_quiet (fail))
      all_goals (go_wp2)
      all_goals (go_ret3; refine ⟨?_, _, rfl⟩; first | rfl | simp [*])
    · obtain ⟨e1, e2⟩ := tdiv_mid hb (by omega) hr
      obtain ⟨c, hc⟩ : ∃ c, (a == -9223372036854775808) = c := ⟨_, rfl⟩
      have hm2 : 1 ≤ a % b := by omega
      obtain ⟨hq0, hq1⟩ := ediv_ge ha (by omega) hb
      have ht : (!(decide (a % b - b < 0) == decide (b < 0))) = true := by
        rw [decide_eq_true (by omega), decide_eq_false (by omega)]; rfl
      have hn : (a % b - b != 0) = true := by rw [bne_iff_ne]; omega
      go_enter Try.func49, Try.ntmps49
      go_wp2
      all_goals (go_quiet (fail))
      all_goals (go_wp2)
      all_goals (go_ret3; refine ⟨?_, _, rfl⟩; first | rfl | (simp [*]; omega))
end Go.Proofs.Ytjnhaabbnbcaeaa
