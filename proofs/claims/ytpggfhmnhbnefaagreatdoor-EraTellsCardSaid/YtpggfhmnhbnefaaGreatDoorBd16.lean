/- Joined: AmD, AmT, ClE, GvT, ApL, ErK. -/
import Derived.Test.YtpggfhmnhbnefaaGreatDoorBd01
import Derived.Test.YtpggfhmnhbnefaaGreatDoorBd06
import Derived.Test.YtpggfhmnhbnefaaGreatDoorBd03
import Derived.Lib.QuietBelow
import Derived.Test.YtpggfhmnhbnefaaGreatDoorBd12
import Derived.Test.YtpggfhmnhbnefaaGreatDoorBd02
import Derived.Laws.AppendOwnNone
import Derived.Test.YtpggfhmnhbnefaaGreatDoorBd15
import Derived.Test.YtpggfhmnhbnefaaGreatDoorBd04
import Derived.Laws.OwnMore
set_option linter.unusedVariables false
set_option linter.unusedSimpArgs false
namespace Go.Proofs.YtpggfhmnhbnefaaGreatDoor
open Go.RowKit Go.Sort
namespace Am
def tI (n : Int) : ByteArray := ⟨(Lib.itoa n).toArray⟩
def dd (n : Int) : ByteArray := tI (n / 10) ++ tI (n % 10)
def wr (h m s : Int) : ByteArray := if s = 0 then tI h ++ ⟨#[58]⟩ ++ dd m else tI h ++ ⟨#[58]⟩ ++ dd m ++ (⟨#[58]⟩ ++ dd s)
theorem tI_size (n : Int) (h0 : -9223372036854775808 ≤ n) (h1 : n ≤ 9223372036854775807) : (tI n).size ≤ 21 := by
 unfold tI
 show (Lib.itoa n).toArray.size ≤ 21
 rw [List.size_toArray]
 exact Lib.itoa_length_le n h0 h1
theorem dd_size (n : Int) (h0 : 0 ≤ n) (h1 : n < 100) : (dd n).size ≤ 42 := by
 unfold dd
 rw [ByteArray.size_append]
 have := tI_size (n / 10) (by omega) (by omega); have := tI_size (n % 10) (by omega) (by omega)
 omega
end Am
theorem atI (n : Int) (h0 : -9223372036854775808 ≤ n) (h1 : n ≤ 9223372036854775807) : ∃ A, A = Am.tI n ∧ A.size ≤ 21 ∧ Hid (∀ W, Lib.TabIs Tryz.prog W "internal/strconv.uint64pow10" .u64 Lib.pow10Tab → Calls Tryz.prog 99 #[.int .i64 n] W fun e w' => e = .returned (.string A) ∧ Below W.heap.size W w') :=
 ⟨_, rfl, Am.tI_size n h0 h1, fun W T => text_any n W h0 h1 T⟩
set_option maxHeartbeats 2000000 in
set_option maxRecDepth 100000 in
theorem atwo_any (n : Int) (w : World) (n0 : 0 ≤ n) (n1 : n < 100) (htab : Lib.TabIs Tryz.prog w "internal/strconv.uint64pow10" .u64 Lib.pow10Tab) :
  Calls Tryz.prog 152 #[.int .i64 n] w fun e w' => e = .returned (.string (Am.dd n)) ∧ Below w.heap.size w w' := by
 have T0 := Lib.hid htab; clear htab
 obtain ⟨A, hA, zA, CA⟩ := atI (n / 10) (by omega) (by omega)
 obtain ⟨B', hB, zB, CB⟩ := atI (n % 10) (by omega) (by omega)
 have HR := Lib.hid (show Am.dd n = A ++ B' by unfold Am.dd; rw [hA, hB])
 generalize Am.dd n = ans at *
 clear hA hB
 go_enter Tryz.func152, Tryz.ntmps152
 go_wp2_with fail
 refine (CA.out _ T0.out).mono ?_; rintro e w1 ⟨rfl, b1⟩
 have d1 : Below w.heap.size w w1 := below_step gr0 b1
 have B1 := Lib.hid d1
 clear b1 d1
 go_wp2_with fail
 refine (CB.out _ (var_keep B1.out T0.out)).mono ?_; rintro e w2 ⟨rfl, b2⟩
 have d2 : Below w1.heap.size w1 w2 := below_step gr0 b2
 have B2 := Lib.hid (below_step B1.out d2)
 clear b2 d2 B1
 go_wp2_with fail
 go_ret
 exact ⟨by rw [HR.out]; rfl, B2.out⟩
theorem add_ (n : Int) (n0 : 0 ≤ n) (n1 : n < 100) : ∃ A, A = Am.dd n ∧ A.size ≤ 42 ∧ Hid (∀ W, Lib.TabIs Tryz.prog W "internal/strconv.uint64pow10" .u64 Lib.pow10Tab → Calls Tryz.prog 152 #[.int .i64 n] W fun e w' => e = .returned (.string A) ∧ Below W.heap.size W w') :=
 ⟨_, rfl, Am.dd_size n n0 n1, fun W T => atwo_any n W n0 n1 T⟩
set_option maxHeartbeats 4000000 in
set_option maxRecDepth 100000 in
theorem awrite_no (h m s : Int) (w : World) (h0 : 0 ≤ h) (h1 : h ≤ 1000000) (m0 : 0 ≤ m) (m1 : m < 60) (hs : s = 0) (htab : Lib.TabIs Tryz.prog w "internal/strconv.uint64pow10" .u64 Lib.pow10Tab) :
  Calls Tryz.prog 102 #[.agg #[.int .i64 h, .int .i64 m, .int .i64 s]] w fun e w' => e = .returned (.string (Am.wr h m s)) ∧ Below w.heap.size w w' := by
 have T0 := Lib.hid htab; clear htab
 obtain ⟨A, hA, zA, CA⟩ := atI h (by omega) (by omega)
 obtain ⟨D, hD, zD, CD⟩ := add_ m m0 (by omega)
 have HR := Lib.hid (show Am.wr h m s = A ++ ⟨#[58]⟩ ++ D by unfold Am.wr; rw [hA, hD, if_pos hs])
 generalize Am.wr h m s = ans at *
 have e1 : (A ++ ⟨#[58]⟩ : ByteArray).size = A.size + 1 := by rw [ByteArray.size_append]; rfl
 subst hs
 clear hA hD
 go_enter Tryz.func102, Tryz.ntmps102
 go_wp2_with fail
 refine wp_named ?_; intro w1 hw1
 have d1 : Below w.heap.size w w1 := by rw [hw1]; exact gr0
 have B1 := Lib.hid d1
 have X1 : Bk3 w1 (w.heap.size) (.int .i64 h) (.int .i64 m) (.int .i64 0) := by rw [hw1]; exact ⟨by simp <;> omega, by intro j; simp [go_sem], by simp [go_sem], by simp [go_sem], by simp [go_sem]⟩
 clear d1 hw1
 have T1 := Lib.hid (var_keep B1.out T0.out)
 have qX_0 := cell_regrown X1.k0
 have qX_1 := cell_regrown X1.k1
 have qX_2 := cell_regrown X1.k2
 refine wp_region_qb (w := w1) (by kernel_rfl) (by kernel_rfl) gr0 ?_
 repeat (any_goals (first | go_big_quiet_step (first | (go_at_call 99; exact Calls.regrown_of (CA.out _ (var_keep (below_regrown _ _ _) T1.out))) | (go_at_call 152; exact Calls.regrown_of (CD.out _ (var_keep (below_regrown _ _ _) T1.out)))) | quiet_step (first | (go_at_call 99; exact Calls.regrown_of (CA.out _ (var_keep (below_regrown _ _ _) T1.out))) | (go_at_call 152; exact Calls.regrown_of (CD.out _ (var_keep (below_regrown _ _ _) T1.out))))))
 refine wpQuiet_nil ?_
 intro w2 hq
 have b2 : Below w1.heap.size w1 w2 := by obtain ⟨p, hq⟩ := hq; rw [hq]; exact below_regrown _ _ _
 clear hq qX_0 qX_1 qX_2
 have d2 : Below w1.heap.size w1 w2 := below_step gr0 b2
 have B2 := Lib.hid (below_step B1.out d2)
 have X2 := X1.keep d2
 clear X1 b2 d2 B1
 have tx := X2; obtain ⟨cX_b, cX_f, cX_0, cX_1, cX_2⟩ := tx
 go_wp2_with fail
 clear cX_b cX_f cX_0 cX_1 cX_2
 go_ret
 exact ⟨by rw [HR.out]; rfl, B2.out⟩
set_option maxHeartbeats 4000000 in
set_option maxRecDepth 100000 in
theorem awrite_yes (h m s : Int) (w : World) (h0 : 0 ≤ h) (h1 : h ≤ 1000000) (m0 : 0 ≤ m) (m1 : m < 60) (s0 : 0 ≤ s) (s1 : s < 60) (hs : ¬ s = 0) (htab : Lib.TabIs Tryz.prog w "internal/strconv.uint64pow10" .u64 Lib.pow10Tab) :
  Calls Tryz.prog 102 #[.agg #[.int .i64 h, .int .i64 m, .int .i64 s]] w fun e w' => e = .returned (.string (Am.wr h m s)) ∧ Below w.heap.size w w' := by
 have T0 := Lib.hid htab; clear htab
 obtain ⟨A, hA, zA, CA⟩ := atI h (by omega) (by omega)
 obtain ⟨D, hD, zD, CD⟩ := add_ m m0 (by omega)
 obtain ⟨E, hE, zE, CE⟩ := add_ s s0 (by omega)
 have HR := Lib.hid (show Am.wr h m s = A ++ ⟨#[58]⟩ ++ D ++ (⟨#[58]⟩ ++ E) by unfold Am.wr; rw [hA, hD, hE, if_neg hs])
 generalize Am.wr h m s = ans at *
 have e1 : (A ++ ⟨#[58]⟩ : ByteArray).size = A.size + 1 := by rw [ByteArray.size_append]; rfl
 have e2 : (A ++ ⟨#[58]⟩ ++ D : ByteArray).size = A.size + 1 + D.size := by rw [ByteArray.size_append, e1]
 have e3 : (⟨#[58]⟩ ++ E : ByteArray).size = 1 + E.size := by rw [ByteArray.size_append]; rfl
 have g1 : (s == 0) = false := by rw [beq_eq_false_iff_ne]; exact hs
 have g2 : (s != 0) = true := by unfold bne; rw [g1]; rfl
 clear hA hD hE hs
 go_enter Tryz.func102, Tryz.ntmps102
 go_wp2_with fail
 refine wp_named ?_; intro w1 hw1
 have d1 : Below w.heap.size w w1 := by rw [hw1]; exact gr0
 have B1 := Lib.hid d1
 have X1 : Bk3 w1 (w.heap.size) (.int .i64 h) (.int .i64 m) (.int .i64 s) := by rw [hw1]; exact ⟨by simp <;> omega, by intro j; simp [go_sem], by simp [go_sem], by simp [go_sem], by simp [go_sem]⟩
 clear d1 hw1
 have T1 := Lib.hid (var_keep B1.out T0.out)
 have qX_0 := cell_regrown X1.k0
 have qX_1 := cell_regrown X1.k1
 have qX_2 := cell_regrown X1.k2
 refine wp_region_qb (w := w1) (by kernel_rfl) (by kernel_rfl) gr0 ?_
 repeat (any_goals (first | go_big_quiet_step (first | (go_at_call 99; exact Calls.regrown_of (CA.out _ (var_keep (below_regrown _ _ _) T1.out))) | (go_at_call 152; exact Calls.regrown_of (CD.out _ (var_keep (below_regrown _ _ _) T1.out)))) | quiet_step (first | (go_at_call 99; exact Calls.regrown_of (CA.out _ (var_keep (below_regrown _ _ _) T1.out))) | (go_at_call 152; exact Calls.regrown_of (CD.out _ (var_keep (below_regrown _ _ _) T1.out))))))
 refine wpQuiet_nil ?_
 intro w2 hq
 have b2 : Below w1.heap.size w1 w2 := by obtain ⟨p, hq⟩ := hq; rw [hq]; exact below_regrown _ _ _
 clear hq qX_0 qX_1 qX_2
 have d2 : Below w1.heap.size w1 w2 := below_step gr0 b2
 have B2 := Lib.hid (below_step B1.out d2)
 have X2 := X1.keep d2
 clear X1 b2 d2 B1
 have tx := X2; obtain ⟨cX_b, cX_f, cX_0, cX_1, cX_2⟩ := tx
 go_wp2_with fail
 clear cX_b cX_f cX_0 cX_1 cX_2
 refine (CE.out _ (var_keep B2.out T0.out)).mono ?_; rintro e w3 ⟨rfl, b3⟩
 have d3 : Below w2.heap.size w2 w3 := below_step gr0 b3
 have B3 := Lib.hid (below_step B2.out d3)
 have X3 := X2.keep d3
 clear X2 b3 d3 B2
 have tx := X3; obtain ⟨cX_b, cX_f, cX_0, cX_1, cX_2⟩ := tx
 go_wp2_with fail
 clear cX_b cX_f cX_0 cX_1 cX_2
 go_ret
 exact ⟨by rw [HR.out]; rfl, B3.out⟩
set_option maxHeartbeats 2000000 in
theorem asplit_any (n : Int) (w : World) (n0 : 0 ≤ n) (n1 : n ≤ 604799) :
  Calls Tryz.prog 103 #[.int .i64 n] w fun e w' => e = .returned (.agg #[.int .i64 (n / 3600), .int .i64 (n / 60 % 60), .int .i64 (n % 60)]) ∧ Below w.heap.size w w' := by
 go_enter Tryz.func103, Tryz.ntmps103
 go_wp2_with fail
 refine bodyPost_ret (v := .agg #[.int .i64 (n / 3600), .int .i64 (n / 60 % 60), .int .i64 (n % 60)]) (by simp [results, Tryz.results103, go_sem]) rfl ⟨rfl, ?_⟩
 exact (Below.refl _ _).alloc (Nat.le_refl _) _
namespace Am
def w1 (n : Int) : ByteArray := wr (n / 3600) (n / 60 % 60) (n % 60)
def tx (n : Int) : ByteArray × Int := if n < -604799 ∨ 604799 < n then (⟨#[]⟩, 1) else if n = 0 then (tI 0, 0) else if n < 0 then (⟨#[45]⟩ ++ w1 (-n), 0) else (w1 n, 0)
theorem w1_size (n : Int) (n0 : 0 ≤ n) (n1 : n ≤ 604799) : (w1 n).size ≤ 200 := by
 unfold w1 wr
 have a := tI_size (n / 3600) (by omega) (by omega)
 have b := dd_size (n / 60 % 60) (by omega) (by omega)
 have c := dd_size (n % 60) (by omega) (by omega)
 split
 ·
  rw [ByteArray.size_append, ByteArray.size_append]
  have : (⟨#[58]⟩ : ByteArray).size = 1 := rfl
  omega
 ·
  rw [ByteArray.size_append, ByteArray.size_append, ByteArray.size_append, ByteArray.size_append]
  have : (⟨#[58]⟩ : ByteArray).size = 1 := rfl
  omega
end Am
theorem awrite_any (n : Int) (w : World) (n0 : 0 ≤ n) (n1 : n ≤ 604799) (htab : Lib.TabIs Tryz.prog w "internal/strconv.uint64pow10" .u64 Lib.pow10Tab) :
  Calls Tryz.prog 102 #[.agg #[.int .i64 (n / 3600), .int .i64 (n / 60 % 60), .int .i64 (n % 60)]] w fun e w' => e = .returned (.string (Am.w1 n)) ∧ Below w.heap.size w w' := by
 by_cases hs : n % 60 = 0
 ·
  exact awrite_no _ _ _ w (by omega) (by omega) (by omega) (by omega) hs htab
 ·
  exact awrite_yes _ _ _ w (by omega) (by omega) (by omega) (by omega) (by omega) (by omega) hs htab
theorem awp (n : Int) (n0 : 0 ≤ n) (n1 : n ≤ 604799) : ∃ (R : ByteArray) (a b c : Int), R = Am.w1 n ∧ R.size ≤ 200 ∧ Hid (∀ W, Calls Tryz.prog 103 #[.int .i64 n] W fun e w' => e = .returned (.agg #[.int .i64 a, .int .i64 b, .int .i64 c]) ∧ Below W.heap.size W w') ∧
  Hid (∀ W, Lib.TabIs Tryz.prog W "internal/strconv.uint64pow10" .u64 Lib.pow10Tab → Calls Tryz.prog 102 #[.agg #[.int .i64 a, .int .i64 b, .int .i64 c]] W fun e w' => e = .returned (.string R) ∧ Below W.heap.size W w') :=
 ⟨_, _, _, _, rfl, Am.w1_size n n0 n1, fun W => asplit_any n W n0 n1, fun W T => awrite_any n W n0 n1 T⟩
set_option maxHeartbeats 4000000 in
set_option maxRecDepth 100000 in
theorem atext_any (n : Int) (w : World) (b0 : -9223372036854775808 ≤ n) (b1 : n ≤ 9223372036854775807) (htab : Lib.TabIs Tryz.prog w "internal/strconv.uint64pow10" .u64 Lib.pow10Tab) :
  Calls Tryz.prog 44 #[.int .i64 n] w fun e w' => e = .returned (.tuple #[.string (Am.tx n).1, .int .i64 (Am.tx n).2]) ∧ Below w.heap.size w w' := by
 have T0 := Lib.hid htab; clear htab
 obtain ⟨ans, hans⟩ : ∃ ans, ans = Am.tx n := ⟨_, rfl⟩
 rw [← hans]
 unfold Am.tx at hans
 by_cases c1 : n < -604799
 ·
  have e := Lib.hid (show ans = (⟨#[]⟩, 1) by rw [hans, if_pos (.inl c1)])
  clear hans
  go_enter Tryz.func44, Tryz.ntmps44
  go_wp2_with fail
  go_ret2
  exact ⟨by rw [e.out]; rfl, Below.refl _ _⟩
 by_cases c2 : 604799 < n
 ·
  have e := Lib.hid (show ans = (⟨#[]⟩, 1) by rw [hans, if_pos (.inr c2)])
  clear hans
  go_enter Tryz.func44, Tryz.ntmps44
  go_wp2_with fail
  go_ret2
  exact ⟨by rw [e.out]; rfl, Below.refl _ _⟩
 rw [if_neg (by omega)] at hans
 by_cases c3 : n = 0
 ·
  subst c3
  obtain ⟨A, hA, zA, CA⟩ := atI 0 (by omega) (by omega)
  have e := Lib.hid (show ans = (A, 0) by rw [hans, if_pos rfl, hA])
  clear hans hA
  go_enter Tryz.func44, Tryz.ntmps44
  go_wp2_with fail
  refine (CA.out _ T0.out).mono ?_; rintro e w1 ⟨rfl, b1⟩
  have d1 : Below w.heap.size w w1 := below_step gr0 b1
  have B1 := Lib.hid d1
  clear b1 d1
  go_wp2_with fail
  go_ret2
  exact ⟨by rw [e.out]; rfl, B1.out⟩
 rw [if_neg c3] at hans
 have g1 : (n == 0) = false := by rw [beq_eq_false_iff_ne]; exact c3
 by_cases c4 : n < 0
 ·
  obtain ⟨R, a, b, c, hR, zR, CS, CW⟩ := awp (-n) (by omega) (by omega)
  have e := Lib.hid (show ans = (⟨#[45]⟩ ++ R, 0) by rw [hans, if_pos c4, hR])
  clear hans hR c3
  go_enter Tryz.func44, Tryz.ntmps44
  go_wp2_with fail
  refine (CS.out _).mono ?_; rintro e w1 ⟨rfl, b1⟩
  have d1 : Below w.heap.size w w1 := below_step gr0 b1
  have B1 := Lib.hid d1
  clear b1 d1
  go_wp2_with fail
  refine (CW.out _ (var_keep B1.out T0.out)).mono ?_; rintro e w2 ⟨rfl, b2⟩
  have d2 : Below w1.heap.size w1 w2 := below_step gr0 b2
  have B2 := Lib.hid (below_step B1.out d2)
  clear b2 d2 B1
  go_wp2_with fail
  go_ret2
  exact ⟨by rw [e.out]; rfl, B2.out⟩
 ·
  obtain ⟨R, a, b, c, hR, zR, CS, CW⟩ := awp n (by omega) (by omega)
  have e := Lib.hid (show ans = (R, 0) by rw [hans, if_neg c4, hR])
  clear hans hR c3
  go_enter Tryz.func44, Tryz.ntmps44
  go_wp2_with fail
  refine (CS.out _).mono ?_; rintro e w1 ⟨rfl, b1⟩
  have d1 : Below w.heap.size w w1 := below_step gr0 b1
  have B1 := Lib.hid d1
  clear b1 d1
  go_wp2_with fail
  refine (CW.out _ (var_keep B1.out T0.out)).mono ?_; rintro e w2 ⟨rfl, b2⟩
  have d2 : Below w1.heap.size w1 w2 := below_step gr0 b2
  have B2 := Lib.hid (below_step B1.out d2)
  clear b2 d2 B1
  go_wp2_with fail
  go_ret2
  exact ⟨by rw [e.out]; rfl, B2.out⟩
theorem atext_c (n : Int) (r : ByteArray) (q : Int) (h : Am.tx n = (r, q)) (b0 : -9223372036854775808 ≤ n) (b1 : n ≤ 9223372036854775807) (w : World) (htab : Lib.TabIs Tryz.prog w "internal/strconv.uint64pow10" .u64 Lib.pow10Tab) :
  Calls Tryz.prog 44 #[.int .i64 n] w fun e w' => e = .returned (.tuple #[.string r, .int .i64 q]) ∧ Below w.heap.size w w' := by
 have := atext_any n w b0 b1 htab
 rw [h] at this
 exact this
namespace Cl
def tx (n b : Int) : ByteArray × Int := if rB n b = false then (⟨#[]⟩, 4) else if b = 0 then ((Am.tx n).1, 0) else ((Am.tx n).1 ++ sg b, 0)
end Cl
theorem atx_size {n : Int} (n0 : 0 ≤ n) (n1 : n ≤ 172800) : (Am.tx n).1.size ≤ 200 ∧ Am.tx n = ((Am.tx n).1, 0) := by
 unfold Am.tx
 rw [if_neg (by omega)]
 by_cases h : n = 0
 ·
  rw [if_pos h]; exact ⟨Nat.le_trans (Am.tI_size 0 (by omega) (by omega)) (by omega), rfl⟩
 ·
  rw [if_neg h, if_neg (by omega)]; exact ⟨Am.w1_size n n0 (by omega), rfl⟩
theorem rB_iff {n b : Int} : Cl.rB n b = true ↔ 0 ≤ n ∧ n ≤ 172800 ∧ 0 ≤ b ∧ b < 3 := by unfold Cl.rB; simp [Bool.and_eq_true]
set_option maxHeartbeats 4000000 in
set_option maxRecDepth 100000 in
theorem cltext_no (n b : Int) (w : World) (T : Cl.Tab w) (htab : Lib.TabIs Tryz.prog w "internal/strconv.uint64pow10" .u64 Lib.pow10Tab) (hr : Cl.rB n b = false) : Calls Tryz.prog 43 #[.agg #[.int .i64 n, .int .i64 b]] w fun e w' => e = .returned (.tuple #[.string ⟨#[]⟩, .int .i64 4]) ∧ Below w.heap.size w w' := by
 have CR : Hid (∀ W, Calls Tryz.prog 54 #[.agg #[.int .i64 n, .int .i64 b]] W fun e w' => e = .returned (.bool false) ∧ Below W.heap.size W w') := fun W => hr ▸ clright_any n b W
 clear hr htab T
 go_enter Tryz.func43, Tryz.ntmps43
 go_wp2_with fail
 refine (CR.out _).mono ?_; rintro e w1 ⟨rfl, b1⟩
 have d1 : Below w.heap.size w w1 := below_step gr0 b1
 have B1 := Lib.hid d1
 have X1 : Bk2 w1 (w.heap.size) (.int .i64 n) (.int .i64 b) := by refine Bk2.of b1 (by simp <;> omega) (by intro j; simp [go_sem]) ?_ ?_ <;> simp [go_sem]
 clear b1 d1
 have tx := X1; obtain ⟨cX_b, cX_f, cX_0, cX_1⟩ := tx
 go_wp2_with fail
 clear cX_b cX_f cX_0 cX_1
 go_ret2
 exact ⟨rfl, (grB B1)⟩
set_option maxHeartbeats 4000000 in
set_option maxRecDepth 100000 in
theorem cltext_0 (n : Int) (w : World) (T : Cl.Tab w) (htab : Lib.TabIs Tryz.prog w "internal/strconv.uint64pow10" .u64 Lib.pow10Tab) (n0 : 0 ≤ n) (n1 : n ≤ 172800) : Calls Tryz.prog 43 #[.agg #[.int .i64 n, .int .i64 0]] w fun e w' => e = .returned (.tuple #[.string (Am.tx n).1, .int .i64 0]) ∧ Below w.heap.size w w' := by
 have CR : Hid (∀ W, Calls Tryz.prog 54 #[.agg #[.int .i64 n, .int .i64 0]] W fun e w' => e = .returned (.bool true) ∧ Below W.heap.size W w') := fun W => (rB_iff.2 ⟨n0, n1, by omega, by omega⟩ : Cl.rB n 0 = true) ▸ clright_any n 0 W
 obtain ⟨z, ez⟩ := atx_size n0 n1
 have CX := Lib.hid (atext_c n (Am.tx n).1 0 ez (by omega) (by omega))
 generalize (Am.tx n).1 = A at *
 have T0 := Lib.hid htab
 have TL := Lib.hid T
 clear ez htab T
 go_enter Tryz.func43, Tryz.ntmps43
 go_wp2_with fail
 refine (CR.out _).mono ?_; rintro e w1 ⟨rfl, b1⟩
 have d1 : Below w.heap.size w w1 := below_step gr0 b1
 have B1 := Lib.hid d1
 have X1 : Bk2 w1 (w.heap.size) (.int .i64 n) (.int .i64 0) := by refine Bk2.of b1 (by simp <;> omega) (by intro j; simp [go_sem]) ?_ ?_ <;> simp [go_sem]
 clear b1 d1
 have tx := X1; obtain ⟨cX_b, cX_f, cX_0, cX_1⟩ := tx
 go_wp2_with fail
 clear cX_b cX_f cX_0 cX_1
 refine (CX.out _ (var_keep B1.out T0.out)).mono ?_; rintro e w2 ⟨rfl, b2⟩
 have d2 : Below w1.heap.size w1 w2 := below_step gr0 b2
 have B2 := Lib.hid (below_step B1.out d2)
 have X2 := X1.keep d2
 clear X1 b2 d2 B1
 have tx := X2; obtain ⟨cX_b, cX_f, cX_0, cX_1⟩ := tx
 go_wp2_with fail
 clear cX_b cX_f cX_0 cX_1
 go_ret2
 exact ⟨rfl, (grB B2)⟩
set_option maxHeartbeats 4000000 in
set_option maxRecDepth 100000 in
theorem cltext_1 (n : Int) (w : World) (T : Cl.Tab w) (htab : Lib.TabIs Tryz.prog w "internal/strconv.uint64pow10" .u64 Lib.pow10Tab) (n0 : 0 ≤ n) (n1 : n ≤ 172800) : Calls Tryz.prog 43 #[.agg #[.int .i64 n, .int .i64 1]] w fun e w' => e = .returned (.tuple #[.string ((Am.tx n).1 ++ ⟨#[115]⟩), .int .i64 0]) ∧ Below w.heap.size w w' := by
 have CR : Hid (∀ W, Calls Tryz.prog 54 #[.agg #[.int .i64 n, .int .i64 1]] W fun e w' => e = .returned (.bool true) ∧ Below W.heap.size W w') := fun W => (rB_iff.2 ⟨n0, n1, by omega, by omega⟩ : Cl.rB n 1 = true) ▸ clright_any n 1 W
 obtain ⟨z, ez⟩ := atx_size n0 n1
 have CX := Lib.hid (atext_c n (Am.tx n).1 0 ez (by omega) (by omega))
 generalize (Am.tx n).1 = A at *
 have T0 := Lib.hid htab
 have TL := Lib.hid T
 clear ez htab T
 go_enter Tryz.func43, Tryz.ntmps43
 go_wp2_with fail
 refine (CR.out _).mono ?_; rintro e w1 ⟨rfl, b1⟩
 have d1 : Below w.heap.size w w1 := below_step gr0 b1
 have B1 := Lib.hid d1
 have X1 : Bk2 w1 (w.heap.size) (.int .i64 n) (.int .i64 1) := by refine Bk2.of b1 (by simp <;> omega) (by intro j; simp [go_sem]) ?_ ?_ <;> simp [go_sem]
 clear b1 d1
 have tx := X1; obtain ⟨cX_b, cX_f, cX_0, cX_1⟩ := tx
 go_wp2_with fail
 clear cX_b cX_f cX_0 cX_1
 refine (CX.out _ (var_keep B1.out T0.out)).mono ?_; rintro e w2 ⟨rfl, b2⟩
 have d2 : Below w1.heap.size w1 w2 := below_step gr0 b2
 have B2 := Lib.hid (below_step B1.out d2)
 have X2 := X1.keep d2
 clear X1 b2 d2 B1
 have tl := (TL.out.on B2.out).c1
 have tx := X2; obtain ⟨cX_b, cX_f, cX_0, cX_1⟩ := tx
 go_wp2_with fail
 clear cX_b cX_f cX_0 cX_1
 go_ret2
 exact ⟨rfl, (grB B2)⟩
set_option maxHeartbeats 4000000 in
set_option maxRecDepth 100000 in
theorem cltext_2 (n : Int) (w : World) (T : Cl.Tab w) (htab : Lib.TabIs Tryz.prog w "internal/strconv.uint64pow10" .u64 Lib.pow10Tab) (n0 : 0 ≤ n) (n1 : n ≤ 172800) : Calls Tryz.prog 43 #[.agg #[.int .i64 n, .int .i64 2]] w fun e w' => e = .returned (.tuple #[.string ((Am.tx n).1 ++ ⟨#[117]⟩), .int .i64 0]) ∧ Below w.heap.size w w' := by
 have CR : Hid (∀ W, Calls Tryz.prog 54 #[.agg #[.int .i64 n, .int .i64 2]] W fun e w' => e = .returned (.bool true) ∧ Below W.heap.size W w') := fun W => (rB_iff.2 ⟨n0, n1, by omega, by omega⟩ : Cl.rB n 2 = true) ▸ clright_any n 2 W
 obtain ⟨z, ez⟩ := atx_size n0 n1
 have CX := Lib.hid (atext_c n (Am.tx n).1 0 ez (by omega) (by omega))
 generalize (Am.tx n).1 = A at *
 have T0 := Lib.hid htab
 have TL := Lib.hid T
 clear ez htab T
 go_enter Tryz.func43, Tryz.ntmps43
 go_wp2_with fail
 refine (CR.out _).mono ?_; rintro e w1 ⟨rfl, b1⟩
 have d1 : Below w.heap.size w w1 := below_step gr0 b1
 have B1 := Lib.hid d1
 have X1 : Bk2 w1 (w.heap.size) (.int .i64 n) (.int .i64 2) := by refine Bk2.of b1 (by simp <;> omega) (by intro j; simp [go_sem]) ?_ ?_ <;> simp [go_sem]
 clear b1 d1
 have tx := X1; obtain ⟨cX_b, cX_f, cX_0, cX_1⟩ := tx
 go_wp2_with fail
 clear cX_b cX_f cX_0 cX_1
 refine (CX.out _ (var_keep B1.out T0.out)).mono ?_; rintro e w2 ⟨rfl, b2⟩
 have d2 : Below w1.heap.size w1 w2 := below_step gr0 b2
 have B2 := Lib.hid (below_step B1.out d2)
 have X2 := X1.keep d2
 clear X1 b2 d2 B1
 have tl := (TL.out.on B2.out).c2
 have tx := X2; obtain ⟨cX_b, cX_f, cX_0, cX_1⟩ := tx
 go_wp2_with fail
 clear cX_b cX_f cX_0 cX_1
 go_ret2
 exact ⟨rfl, (grB B2)⟩
theorem cltext_any (n b : Int) (w : World) (T : Cl.Tab w) (htab : Lib.TabIs Tryz.prog w "internal/strconv.uint64pow10" .u64 Lib.pow10Tab) : Calls Tryz.prog 43 #[.agg #[.int .i64 n, .int .i64 b]] w fun e w' => e = .returned (.tuple #[.string (Cl.tx n b).1, .int .i64 (Cl.tx n b).2]) ∧ Below w.heap.size w w' := by
 unfold Cl.tx
 cases hr : Cl.rB n b
 ·
  rw [if_pos rfl]; exact cltext_no n b w T htab hr
 ·
  rw [if_neg (by decide)]
  obtain ⟨n0, n1, b0, b1⟩ := rB_iff.1 hr
  obtain rfl | rfl | rfl : b = 0 ∨ b = 1 ∨ b = 2 := by omega
  ·
   exact cltext_0 n w T htab n0 n1
  ·
   exact cltext_1 n w T htab n0 n1
  ·
   exact cltext_2 n w T htab n0 n1
end Go.Proofs.YtpggfhmnhbnefaaGreatDoor
set_option linter.unusedVariables false
set_option linter.unusedSimpArgs false
namespace Go.Proofs.YtpggfhmnhbnefaaGreatDoor
open Go.RowKit
def StO (B : Nat) (w : World) (v : Value) (l : List ByteArray) : Prop :=
 ∃ A c, v = .slice A l.length c ∧ (0 < l.length → ∃ a, A = some a ∧ B ≤ a.block ∧ a.block < w.heap.size ∧ ∀ (j : Nat) (u : Value), (l.map Value.string)[j]? = some u → w.cell? (a.add j) = some u)
theorem StO.st {B : Nat} {w : World} {v : Value} {l : List ByteArray} (h : StO B w v l) : StS w v l := by
 obtain ⟨A, c, hv, ha⟩ := h
 exact ⟨A, c, hv, fun hn => by obtain ⟨a, e, _, hb, hc⟩ := ha hn; exact ⟨a, e, hb, hc⟩⟩
theorem StO.own {B base : Nat} {w : World} {v : Value} {l : List ByteArray} (h : w.ownsRow base 9 1 v l.length (l.map Value.string)) (hB : B ≤ base) : StO B w v l := by
 rcases Nat.eq_zero_or_pos l.length with h0 | h0
 ·
  obtain ⟨A, c, hv, _⟩ := Lst.own h
  exact ⟨A, c, hv, fun hn => by omega⟩
 ·
  obtain ⟨g, cap, hv, hb, hlt⟩ := h.form h0
  exact ⟨_, _, hv, fun _ => ⟨_, rfl, Nat.le_trans hB hb, hlt, h.cells (g := g) (by rw [hv]; rfl)⟩⟩
theorem StO.turn {B : Nat} {w w' : World} {v : Value} {l : List ByteArray} (h : StO B w v l) (hs : w.heap.size ≤ w'.heap.size) (k : ∀ i, B ≤ i → i < w.heap.size → w'.heap[i]? = w.heap[i]?) : StO B w' v l := by
 obtain ⟨A, c, hv, ha⟩ := h
 refine ⟨A, c, hv, fun hn => ?_⟩
 obtain ⟨a, e, h1, hb, hc⟩ := ha hn
 refine ⟨a, e, h1, by omega, fun j u hu => ?_⟩
 rw [← hc j u hu]
 exact World.cell?_of_block (by rw [blk_add]; exact k _ h1 hb)
theorem set_block (w : World) (p : Addr) (v : Value) (i : Nat) (h : p.block ≠ i) : (w.setCell p v).heap[i]? = w.heap[i]? := by
 simp [World.setCell, Array.getElem?_modify, h]
theorem set_size (w : World) (p : Addr) (v : Value) : (w.setCell p v).heap.size = w.heap.size := by simp [World.setCell]
theorem gvt_assert (line why : Int) (W : World) : Sem.run Tryz.prog (Instr.typeAssert (Value.iface 128 (Value.agg #[Value.int IntKind.i64 line, Value.int IntKind.i64 why])) 20 128 true) W = .ok (.tuple #[.agg #[.int .i64 line, .int .i64 why], .bool true]) W := by
 kernel_rfl
set_option maxRecDepth 100000 in
theorem gvt_catch (b : Nat) (x y line why : Int) (older : List PanicEntry) (w : World) (hb : b < w.heap.size) (hc : w.cell? ⟨b, 0, none⟩ = some (.int .i64 x)) (hd : w.cell? ⟨b, 1, none⟩ = some (.int .i64 y)) (hz : ∀ j, w.frozen? ⟨b, j, none⟩ = false) :
  CallsD Tryz.prog 148 #[.pointer (some ⟨b, 0, none⟩)] (.panicking ({ v := gvV line why, recovered := false } :: older)) w fun e u' w' =>
   e = .returned (.tuple #[]) ∧ u' = .panicking ({ v := gvV line why, recovered := true } :: older) ∧ w' = ((w.setCell ⟨b, 0, none⟩ (.int .i64 line)).setCell ⟨b, 1, none⟩ (.int .i64 why)).alloc (.cells #[.int .i64 line, .int .i64 why] 128) := by
 unfold gvV
 have hta := fun W => gvt_assert line why W
 refine callsD_of_wpS Tryz.func148 rfl fun c₀ cs hu => ?_
 apply wpS_seq
 apply wpS_region
 simp [wpOpsS, go_sem, recoverD, hu, Tryz.ntmps148, Exit.thenS]
 refine wpS_of_wp ?_
 rw [show (#[Value.pointer (some ⟨b, 0, none⟩)] ++ (Array.replicate 11 undef).setIfInBounds 3 (Value.iface 128 (Value.agg #[Value.int IntKind.i64 line, Value.int IntKind.i64 why])) : Array Value) = #[.pointer (some ⟨b, 0, none⟩), undef, undef, undef, .iface 128 (.agg #[.int .i64 line, .int .i64 why]), undef, undef, undef, undef, undef, undef, undef] from rfl]
 have n1 : b ≠ w.heap.size := Nat.ne_of_lt hb
 have n2 : w.heap.size ≠ b := Nat.ne_of_gt hb
 go_wp2_with fail
 all_goals (cases c₀; simp_all [bodyPostS, results, Tryz.results148])
theorem gvt_idle (p : Addr) (w : World) :
  CallsD Tryz.prog 148 #[.pointer (some p)] .returning w fun e u' w' => e = .returned (.tuple #[]) ∧ u' = .returning ∧ w' = w := by
 refine callsD_of_wpS Tryz.func148 rfl fun c₀ cs hu => ?_
 apply wpS_seq
 apply wpS_region
 simp [wpOpsS, go_sem, recoverD, hu, Tryz.ntmps148, Exit.thenS]
 refine wpS_of_wp ?_
 rw [show (#[Value.pointer (some p)] ++ (Array.replicate 11 undef).setIfInBounds 3 Value.nilIface : Array Value) = #[.pointer (some p), undef, undef, undef, .nilIface, undef, undef, undef, undef, undef, undef, undef] from rfl]
 go_wp2_with fail
 all_goals (cases c₀; simp_all [bodyPostS, results, Tryz.results148])
set_option maxHeartbeats 1000000 in
set_option maxRecDepth 100000 in
theorem tcaughtat_no (g : FuncId) (qs : Array Value) (hg : ∀ W, Sem.run Tryz.prog (callFunc g qs) W = .ok (.enter g qs) W) (line why : Int) (w : World)
  (CG : Hid (∀ W, Below w.heap.size w W → Calls Tryz.prog g qs W fun e w' => e = .panicked (gvL line why) ∧ Below W.heap.size W w')) :
  Calls Tryz.prog 97 #[.func (Fn.func g) #[] qs] w fun e w' => e = .returned (.tuple #[.slice none 0 0, .agg #[.int .i64 line, .int .i64 why]]) ∧ Below w.heap.size w w' := by
 have hmf : ∀ (fn : Fn) (first cap : Array Value) (w : World), (Instr.makeFunc fn first cap).run Tryz.prog w = .ok (.func fn first cap) w := fun _ _ _ _ => rfl
 go_enter_defers Tryz.func97, Tryz.ntmps97
 go_wp2_with fail
 refine (CG.out _ ((Below.refl _ _).alloc (Nat.le_refl _) _)).mono ?_; rintro e w1 ⟨rfl, b1⟩
 have B1 := Lib.hid (below_step ((Below.refl _ _).alloc (Nat.le_refl _) _) b1)
 have Q1 : Bk2 w1 w.heap.size (.int .i64 0) (.int .i64 0) := Bk2.of b1 (by simp) (by intro j; simp [go_sem]) (by simp [go_sem]) (by simp [go_sem])
 clear b1
 have c_b := Q1.hb; have c_f := Q1.fz; have c_0 := Q1.k0; have c_1 := Q1.k1
 clear Q1
 refine (show bodyPostD _ _ _ (Exit.panic (gvL line why)) _ _ from ?_)
 refine leaves_cons (f := 148) (args := #[.pointer (some ⟨w.heap.size, 0, none⟩)]) (by simp) (by simp [go_sem]) ?_
 refine (gvt_catch w.heap.size 0 0 line why [] _ c_b c_0 c_1 c_f).mono ?_
 rintro e u' w'' ⟨rfl, rfl, rfl⟩
 simp [Leaves, settle, results, Tryz.results97, go_sem, c_b, c_0, c_1, c_f]
 clear c_b c_f c_0 c_1
 refine Below.alloc (Below.setCell (Below.setCell B1.out (Nat.le_refl _) _) (Nat.le_refl _) _) (by simp; exact B1.out.size) _
set_option maxHeartbeats 1000000 in
set_option maxRecDepth 100000 in
theorem tcaught_no (g : FuncId) (qs : Array Value) (hg : ∀ W, Sem.run Tryz.prog (callFunc g qs) W = .ok (.enter g qs) W) (line why : Int) (w : World)
  (CG : Hid (∀ W, Below w.heap.size w W → Calls Tryz.prog g qs W fun e w' => e = .panicked (gvL line why) ∧ Below W.heap.size W w')) :
  Calls Tryz.prog 36 #[.func (Fn.func g) #[] qs] w fun e w' => e = .returned (.tuple #[.slice none 0 0, .int .i64 why]) ∧ Below w.heap.size w w' := by
 go_enter Tryz.func36, Tryz.ntmps36
 go_wp2_with fail
 refine (tcaughtat_no g qs hg line why _ CG).mono ?_; rintro e w1 ⟨rfl, b1⟩
 have B1 := Lib.hid b1
 clear b1
 go_wp2_with fail
 go_quiet (fail)
 go_wp2_with fail
 go_ret2
 exact ⟨rfl, by repeat (first | exact B1.out | refine below_drewN ?_ _ | refine Below.drew ?_ | refine Below.setCell ?_ (by first | omega | (simp; done) | (simp; exact B1.out.size) | (simp; omega)) _ | refine Below.alloc ?_ (by first | exact B1.out.size | omega | (simp; done) | (simp; omega)) _)⟩
end Go.Proofs.YtpggfhmnhbnefaaGreatDoor
set_option linter.unusedVariables false
set_option linter.unusedSimpArgs false
namespace Go.Proofs.YtpggfhmnhbnefaaGreatDoor
open Go.RowKit Go.Sort
theorem run_append_none_c {P : Program} {w : World} (base : Nat) (t ty e : TypeId) (i : TypeInfo) (size : Nat) (ht : P.underlying t = some (.slice e)) (hi : P.info? e = some i)
  (v : Value) (n c : Nat) (xs : List Value) (hown : w.ownsRow base e size v n xs) :
  (Builtin.append_ #[t, t] ty #[v, .slice none 0 c]).run P w = .ok v w := by
 rcases hown.2 with ⟨rfl, rfl⟩ | ⟨g, cap, cur, rfl, _, _, hnc, _⟩
 ·
  simp [Builtin.append_, run_underlying ht, sizeOf, typeInfo, hi, Builtin.lenOf, Builtin.firstCells]
 ·
  simp [Builtin.append_, run_underlying ht, sizeOf, typeInfo, hi, Builtin.lenOf, Builtin.firstCells, hnc, storeCells]
theorem wpList_append_lst {P : Program} {w : World} {ops : Array Oper} {rest : List Oper} {o : Oper} {a : Act} {Q : Exit → Act → World → Prop} (hgd : o.guard = none) (s x : Operand) (t : TypeId)
  (ho : o.op = .call { callee := .builtin .append, args := #[s, x], argTypes := #[t, t] })
  (base : Nat) (e : TypeId) (i : TypeInfo) (z : Value) (size bytes : Nat) (ht : P.underlying t = some (.slice e)) (hi : P.info? e = some i) (hz : i.zero = some z)
  (hsize : i.size = size) (hby : i.bytes = bytes) (hzs : z.cells.size = size) (hsz : 0 < size)
  (v : Value) (n : Nat) (xs : List Value) (hs : a.eval s = v) (hown : w.ownsRow base e size v n xs)
  (B m : Nat) (vx : Value) (news : List Value) (hx : a.eval x = vx) (hL : Lst w B vx m news) (hl : news.length = m * size) (h1 : ∀ u ∈ news, u.oneCell' = true)
  (h63 : n + m ≤ maxLen) (hbytes : (n + m) * bytes ≤ 140737488355328) (hbase : base ≤ w.heap.size)
  (h : ∀ v' w', w'.ownsRow base e size v' (n + m) (xs ++ news) → w.grownBy w' v.ownBlock → wpList P ops Q rest (a.put o.dst v') w') : wpList P ops Q (o :: rest) a w := by
 obtain ⟨A, c, rfl, hA⟩ := hL
 rcases Nat.eq_zero_or_pos m with h0 | h0
 ·
  subst h0
  have hn : news = [] := List.eq_nil_of_length_eq_zero (by rw [hl, Nat.zero_mul])
  subst hn
  cases A with
  | none =>
   refine wpList_plain hgd fun K hK => ?_
   have hrun := run_append_none_c (P := P) (w := w) base t o.type e i size ht hi v n c xs hown
   unfold Oper.wp
   simp [execOp, ho, resolve, invoke, builtin, hs, hx, hrun, Result.andThen]
   exact hK _ _ (h v w (by simpa using hown) ⟨rfl, rfl, rfl, Nat.le_refl _, fun _ _ _ => rfl⟩)
  | some ad => exact wpList_append_own _ hgd s x t ho base e i z size bytes ht hi hz hsize hby hzs hsz v n xs hs hown ad 0 c [] hx hl (fun j u hu => by simp at hu) h1 h63 hbytes hbase fun v' w' h2 h3 _ => h v' w' h2 h3
 ·
  obtain ⟨ad, rfl, _, hc⟩ := hA h0
  exact wpList_append_own _ hgd s x t ho base e i z size bytes ht hi hz hsize hby hzs hsz v n xs hs hown ad m c news hx hl hc h1 h63 hbytes hbase fun v' w' h2 h3 _ => h v' w' h2 h3
namespace Er
def U.last (u : U) : Nat := if ¬ (u.sec = 0 ∧ u.base = 0) then 3 else if ¬ (u.k = 0 ∧ u.wk = 0 ∧ u.d = 1) then 2 else if ¬ u.m = 1 then 1 else 0
theorem U.last_le (u : U) : u.last ≤ 3 := by unfold U.last; split <;> (try split) <;> (try split) <;> omega
def U.ts (u : U) : List ByteArray := [Yr.tI u.y, Wd.t3 Wd.months (u.m - 1), (Ds.tx u.k u.wk u.d).1, (Cl.tx u.sec u.base).1]
def U.et (u : U) : List ByteArray := if u.h = true then u.ts.take (u.last + 1) else []
def rtx (kind save : Int) (rs : ByteArray) : ByteArray := if kind = 1 then (Am.tx save).1 else if kind = 2 then rs else ⟨#[45]⟩
def E.ts (e : E) : List ByteArray := [(Am.tx e.off).1, rtx e.kind e.save e.rs, e.fm] ++ e.u.et
def E.ok (e : E) : Bool := Er.ok e.off e.kind e.save e.rs e.fm e.u.h e.u.y e.u.m e.u.k e.u.wk e.u.d e.u.sec e.u.base
def fl (e : E) : List (List UInt8) × Int := if e.ok = true then (e.ts.map (·.data.toList), 0) else ([], 4)
theorem fl_yes {e : E} (h : e.ok = true) : fl e = (e.ts.map (·.data.toList), 0) := if_pos h
theorem fl_no {e : E} (h : e.ok = false) : fl e = ([], 4) := if_neg (by rw [h]; decide)
theorem ok_of {e : E} (h : e.ok = true) : -54000 ≤ e.off ∧ e.off ≤ 54000 ∧ rulR e.kind e.save e.rs = true ∧ (Fo.kd e.fm.data.toList).2 = 0 ∧ endR e.u.h e.u.y e.u.m e.u.k e.u.wk e.u.d e.u.sec e.u.base = true := by
 unfold E.ok Er.ok at h
 simp only [Bool.and_eq_true, decide_eq_true_eq, beq_iff_eq] at h
 exact h
theorem end_of {u : U} (h : endR u.h u.y u.m u.k u.wk u.d u.sec u.base = true) (h1 : u.h = true) : -32767 < u.y ∧ u.y < 32767 ∧ Dr.onF u.k u.wk u.d u.m = true ∧ Cl.rB u.sec u.base = true := by
 unfold endR at h
 rw [if_pos h1] at h
 simp only [Bool.and_eq_true, decide_eq_true_eq] at h
 exact h
theorem save_of {kind save : Int} {rs : ByteArray} (h : rulR kind save rs = true) : -10800 ≤ save ∧ save ≤ 10800 := by
 unfold rulR at h
 split at h
 ·
  simp at h; omega
 ·
  split at h
  ·
   simp at h; omega
  ·
   split at h
   ·
    simp at h; omega
   ·
    exact absurd h (by decide)
theorem am_ok {n : Int} (h0 : -54000 ≤ n) (h1 : n ≤ 54000) : (Am.tx n).2 = 0 := by
 unfold Am.tx
 rw [if_neg (by omega)]
 split
 ·
  rfl
 ·
  split <;> rfl
theorem ds_ok {k wk d m : Int} (h : Dr.onF k wk d m = true) : (Ds.tx k wk d).2 = 0 := by
 unfold Ds.tx
 rw [if_pos (Dr.onF_true.1 h).1]
theorem cl_ok {sec base : Int} (h : Cl.rB sec base = true) : (Cl.tx sec base).2 = 0 := by
 unfold Cl.tx
 rw [if_neg (by rw [h]; decide)]
 split <;> rfl
end Er
theorem sts_four {W : World} {b : Nat} {t0 t1 t2 t3 : ByteArray} (B : Bk4 W b (.string t0) (.string t1) (.string t2) (.string t3)) (k : Nat) (hk : k ≤ 4) (c : Nat) :
  StS W (.slice (some ⟨b, 0, none⟩) k c) ([t0, t1, t2, t3].take k) := by
 have hl : ([t0, t1, t2, t3].take k).length = k := by rw [List.length_take]; simp; omega
 refine ⟨_, c, by rw [hl], fun _ => ⟨_, rfl, B.hb, fun j u hj => ?_⟩⟩
 have hj4 : ([t0, t1, t2, t3].map Value.string)[j]? = some u := by
  rw [List.getElem?_map] at hj ⊢
  cases hx : ([t0, t1, t2, t3].take k)[j]? with
  | none => rw [hx] at hj; cases hj
  | some z =>
   rw [hx] at hj
   rw [List.getElem?_take] at hx
   split at hx
   ·
    rw [hx]; exact hj
   ·
    cases hx
 rw [show (⟨b, 0, none⟩ : Addr).add j = ⟨b, j, none⟩ by simp [Addr.add]; exact fun h => h.symm]
 match j, hj4 with
 | 0, h => exact B.k0.trans h
 | 1, h => exact B.k1.trans h
 | 2, h => exact B.k2.trans h
 | 3, h => exact B.k3.trans h
 | j + 4, h => simp at h
theorem own_room {w : World} {base : Nat} {e : TypeId} {v : Value} {N : Nat} {xs : List Value} {size : Nat} (h : w.ownsRow base e size v N xs) : ∃ A c, v = .slice A N c ∧ N ≤ c := by
 rcases h.2 with ⟨rfl, rfl⟩ | ⟨g, cap, cur, rfl, _, _, hnc, _⟩
 ·
  exact ⟨_, _, rfl, Nat.le_refl _⟩
 ·
  exact ⟨_, _, rfl, hnc⟩
def AnsFR (P : List (List UInt8) × Int) (w : World) (e : Ending) (w' : World) : Prop := ∃ (A : Option Addr) (n c : Nat) (l : List ByteArray), n ≤ c ∧ StS w' (.slice A n c) l ∧ l.map (·.data.toList) = P.1 ∧ e = .returned (.tuple #[.slice A n c, .int .i64 P.2]) ∧ Below w.heap.size w w'
theorem AnsFR.ans {P : List (List UInt8) × Int} {w w' : World} {e : Ending} (h : AnsFR P w e w') : AnsF P w e w' := by
 obtain ⟨A, n, c, l, _, h1, h2, h3, h4⟩ := h
 exact ⟨_, l, h1, h2, h3, h4⟩
end Go.Proofs.YtpggfhmnhbnefaaGreatDoor
