/- Joined: AmD, AmT, ClE, GvT. -/
import Derived.Test.YtjggjkeopbcmoaaGreatDoorBt01
import Derived.Test.YtjggjkeopbcmoaaGreatDoorBt05
import Derived.Test.YtjggjkeopbcmoaaGreatDoorBt06
import Derived.Lib.QuietBelow
import Derived.Test.YtjggjkeopbcmoaaGreatDoorBt12
import Derived.Test.YtjggjkeopbcmoaaGreatDoorBt07
set_option linter.unusedVariables false
set_option linter.unusedSimpArgs false
namespace Go.Proofs.YtjggjkeopbcmoaaGreatDoor
open Go.RowKit Go.Sort
namespace Am
def tI (n : Int) : ByteArray := ⟨(Lib.itoa n).toArray⟩
def dd (n : Int) : ByteArray := tI (n / 10) ++ tI (n % 10)
def wr (h m s : Int) : ByteArray := if s = 0 then tI h ++ ⟨#[58]⟩ ++ dd m else tI h ++ ⟨#[58]⟩ ++ dd m ++ (⟨#[58]⟩ ++ dd s)
theorem tI_size (n : Int) (h0 : -9223372036854775808 ≤ n) (h1 : n ≤ 9223372036854775807) : (tI n).size ≤ 21 := by
 unfold tI
 show (Lib.itoa n).toArray.size ≤ 21
 rw [List.size_toArray]
 exact Lib.itoa_length_le n h0 h1
theorem dd_size (n : Int) (h0 : 0 ≤ n) (h1 : n < 100) : (dd n).size ≤ 42 := by
 unfold dd
 rw [ByteArray.size_append]
 have := tI_size (n / 10) (by omega) (by omega); have := tI_size (n % 10) (by omega) (by omega)
 omega
end Am
theorem atI (n : Int) (h0 : -9223372036854775808 ≤ n) (h1 : n ≤ 9223372036854775807) : ∃ A, A = Am.tI n ∧ A.size ≤ 21 ∧ Hid (∀ W, Lib.TabIs Tryz.prog W "internal/strconv.uint64pow10" .u64 Lib.pow10Tab → Calls Tryz.prog 52 #[.int .i64 n] W fun e w' => e = .returned (.string A) ∧ Below W.heap.size W w') :=
 ⟨_, rfl, Am.tI_size n h0 h1, fun W T => text_any n W h0 h1 T⟩
set_option maxHeartbeats 2000000 in
set_option maxRecDepth 100000 in
theorem atwo_any (n : Int) (w : World) (n0 : 0 ≤ n) (n1 : n < 100) (htab : Lib.TabIs Tryz.prog w "internal/strconv.uint64pow10" .u64 Lib.pow10Tab) :
  Calls Tryz.prog 91 #[.int .i64 n] w fun e w' => e = .returned (.string (Am.dd n)) ∧ Below w.heap.size w w' := by
 have T0 := Lib.hid htab; clear htab
 obtain ⟨A, hA, zA, CA⟩ := atI (n / 10) (by omega) (by omega)
 obtain ⟨B', hB, zB, CB⟩ := atI (n % 10) (by omega) (by omega)
 have HR := Lib.hid (show Am.dd n = A ++ B' by unfold Am.dd; rw [hA, hB])
 generalize Am.dd n = ans at *
 clear hA hB
 go_enter Tryz.func91, Tryz.ntmps91
 go_wp2_with fail
 refine (CA.out _ T0.out).mono ?_; rintro e w1 ⟨rfl, b1⟩
 have d1 : Below w.heap.size w w1 := below_step gr0 b1
 have B1 := Lib.hid d1
 clear b1 d1
 go_wp2_with fail
 refine (CB.out _ (var_keep B1.out T0.out)).mono ?_; rintro e w2 ⟨rfl, b2⟩
 have d2 : Below w1.heap.size w1 w2 := below_step gr0 b2
 have B2 := Lib.hid (below_step B1.out d2)
 clear b2 d2 B1
 go_wp2_with fail
 go_ret
 exact ⟨by rw [HR.out]; rfl, B2.out⟩
theorem add_ (n : Int) (n0 : 0 ≤ n) (n1 : n < 100) : ∃ A, A = Am.dd n ∧ A.size ≤ 42 ∧ Hid (∀ W, Lib.TabIs Tryz.prog W "internal/strconv.uint64pow10" .u64 Lib.pow10Tab → Calls Tryz.prog 91 #[.int .i64 n] W fun e w' => e = .returned (.string A) ∧ Below W.heap.size W w') :=
 ⟨_, rfl, Am.dd_size n n0 n1, fun W T => atwo_any n W n0 n1 T⟩
set_option maxHeartbeats 4000000 in
set_option maxRecDepth 100000 in
theorem awrite_no (h m s : Int) (w : World) (h0 : 0 ≤ h) (h1 : h ≤ 1000000) (m0 : 0 ≤ m) (m1 : m < 60) (hs : s = 0) (htab : Lib.TabIs Tryz.prog w "internal/strconv.uint64pow10" .u64 Lib.pow10Tab) :
  Calls Tryz.prog 55 #[.agg #[.int .i64 h, .int .i64 m, .int .i64 s]] w fun e w' => e = .returned (.string (Am.wr h m s)) ∧ Below w.heap.size w w' := by
 have T0 := Lib.hid htab; clear htab
 obtain ⟨A, hA, zA, CA⟩ := atI h (by omega) (by omega)
 obtain ⟨D, hD, zD, CD⟩ := add_ m m0 (by omega)
 have HR := Lib.hid (show Am.wr h m s = A ++ ⟨#[58]⟩ ++ D by unfold Am.wr; rw [hA, hD, if_pos hs])
 generalize Am.wr h m s = ans at *
 have e1 : (A ++ ⟨#[58]⟩ : ByteArray).size = A.size + 1 := by rw [ByteArray.size_append]; rfl
 subst hs
 clear hA hD
 go_enter Tryz.func55, Tryz.ntmps55
 go_wp2_with fail
 refine wp_named ?_; intro w1 hw1
 have d1 : Below w.heap.size w w1 := by rw [hw1]; exact gr0
 have B1 := Lib.hid d1
 have X1 : Bk3 w1 (w.heap.size) (.int .i64 h) (.int .i64 m) (.int .i64 0) := by rw [hw1]; exact ⟨by simp <;> omega, by intro j; simp [go_sem], by simp [go_sem], by simp [go_sem], by simp [go_sem]⟩
 clear d1 hw1
 have T1 := Lib.hid (var_keep B1.out T0.out)
 have qX_0 := cell_regrown X1.k0
 have qX_1 := cell_regrown X1.k1
 have qX_2 := cell_regrown X1.k2
 refine wp_region_qb (w := w1) (by kernel_rfl) (by kernel_rfl) gr0 ?_
 repeat (any_goals (first | go_big_quiet_step (first | (go_at_call 52; exact Calls.regrown_of (CA.out _ (var_keep (below_regrown _ _ _) T1.out))) | (go_at_call 91; exact Calls.regrown_of (CD.out _ (var_keep (below_regrown _ _ _) T1.out)))) | quiet_step (first | (go_at_call 52; exact Calls.regrown_of (CA.out _ (var_keep (below_regrown _ _ _) T1.out))) | (go_at_call 91; exact Calls.regrown_of (CD.out _ (var_keep (below_regrown _ _ _) T1.out))))))
 refine wpQuiet_nil ?_
 intro w2 hq
 have b2 : Below w1.heap.size w1 w2 := by obtain ⟨p, hq⟩ := hq; rw [hq]; exact below_regrown _ _ _
 clear hq qX_0 qX_1 qX_2
 have d2 : Below w1.heap.size w1 w2 := below_step gr0 b2
 have B2 := Lib.hid (below_step B1.out d2)
 have X2 := X1.keep d2
 clear X1 b2 d2 B1
 have tx := X2; obtain ⟨cX_b, cX_f, cX_0, cX_1, cX_2⟩ := tx
 go_wp2_with fail
 clear cX_b cX_f cX_0 cX_1 cX_2
 go_ret
 exact ⟨by rw [HR.out]; rfl, B2.out⟩
set_option maxHeartbeats 4000000 in
set_option maxRecDepth 100000 in
theorem awrite_yes (h m s : Int) (w : World) (h0 : 0 ≤ h) (h1 : h ≤ 1000000) (m0 : 0 ≤ m) (m1 : m < 60) (s0 : 0 ≤ s) (s1 : s < 60) (hs : ¬ s = 0) (htab : Lib.TabIs Tryz.prog w "internal/strconv.uint64pow10" .u64 Lib.pow10Tab) :
  Calls Tryz.prog 55 #[.agg #[.int .i64 h, .int .i64 m, .int .i64 s]] w fun e w' => e = .returned (.string (Am.wr h m s)) ∧ Below w.heap.size w w' := by
 have T0 := Lib.hid htab; clear htab
 obtain ⟨A, hA, zA, CA⟩ := atI h (by omega) (by omega)
 obtain ⟨D, hD, zD, CD⟩ := add_ m m0 (by omega)
 obtain ⟨E, hE, zE, CE⟩ := add_ s s0 (by omega)
 have HR := Lib.hid (show Am.wr h m s = A ++ ⟨#[58]⟩ ++ D ++ (⟨#[58]⟩ ++ E) by unfold Am.wr; rw [hA, hD, hE, if_neg hs])
 generalize Am.wr h m s = ans at *
 have e1 : (A ++ ⟨#[58]⟩ : ByteArray).size = A.size + 1 := by rw [ByteArray.size_append]; rfl
 have e2 : (A ++ ⟨#[58]⟩ ++ D : ByteArray).size = A.size + 1 + D.size := by rw [ByteArray.size_append, e1]
 have e3 : (⟨#[58]⟩ ++ E : ByteArray).size = 1 + E.size := by rw [ByteArray.size_append]; rfl
 have g1 : (s == 0) = false := by rw [beq_eq_false_iff_ne]; exact hs
 have g2 : (s != 0) = true := by unfold bne; rw [g1]; rfl
 clear hA hD hE hs
 go_enter Tryz.func55, Tryz.ntmps55
 go_wp2_with fail
 refine wp_named ?_; intro w1 hw1
 have d1 : Below w.heap.size w w1 := by rw [hw1]; exact gr0
 have B1 := Lib.hid d1
 have X1 : Bk3 w1 (w.heap.size) (.int .i64 h) (.int .i64 m) (.int .i64 s) := by rw [hw1]; exact ⟨by simp <;> omega, by intro j; simp [go_sem], by simp [go_sem], by simp [go_sem], by simp [go_sem]⟩
 clear d1 hw1
 have T1 := Lib.hid (var_keep B1.out T0.out)
 have qX_0 := cell_regrown X1.k0
 have qX_1 := cell_regrown X1.k1
 have qX_2 := cell_regrown X1.k2
 refine wp_region_qb (w := w1) (by kernel_rfl) (by kernel_rfl) gr0 ?_
 repeat (any_goals (first | go_big_quiet_step (first | (go_at_call 52; exact Calls.regrown_of (CA.out _ (var_keep (below_regrown _ _ _) T1.out))) | (go_at_call 91; exact Calls.regrown_of (CD.out _ (var_keep (below_regrown _ _ _) T1.out)))) | quiet_step (first | (go_at_call 52; exact Calls.regrown_of (CA.out _ (var_keep (below_regrown _ _ _) T1.out))) | (go_at_call 91; exact Calls.regrown_of (CD.out _ (var_keep (below_regrown _ _ _) T1.out))))))
 refine wpQuiet_nil ?_
 intro w2 hq
 have b2 : Below w1.heap.size w1 w2 := by obtain ⟨p, hq⟩ := hq; rw [hq]; exact below_regrown _ _ _
 clear hq qX_0 qX_1 qX_2
 have d2 : Below w1.heap.size w1 w2 := below_step gr0 b2
 have B2 := Lib.hid (below_step B1.out d2)
 have X2 := X1.keep d2
 clear X1 b2 d2 B1
 have tx := X2; obtain ⟨cX_b, cX_f, cX_0, cX_1, cX_2⟩ := tx
 go_wp2_with fail
 clear cX_b cX_f cX_0 cX_1 cX_2
 refine (CE.out _ (var_keep B2.out T0.out)).mono ?_; rintro e w3 ⟨rfl, b3⟩
 have d3 : Below w2.heap.size w2 w3 := below_step gr0 b3
 have B3 := Lib.hid (below_step B2.out d3)
 have X3 := X2.keep d3
 clear X2 b3 d3 B2
 have tx := X3; obtain ⟨cX_b, cX_f, cX_0, cX_1, cX_2⟩ := tx
 go_wp2_with fail
 clear cX_b cX_f cX_0 cX_1 cX_2
 go_ret
 exact ⟨by rw [HR.out]; rfl, B3.out⟩
set_option maxHeartbeats 2000000 in
theorem asplit_any (n : Int) (w : World) (n0 : 0 ≤ n) (n1 : n ≤ 604799) :
  Calls Tryz.prog 56 #[.int .i64 n] w fun e w' => e = .returned (.agg #[.int .i64 (n / 3600), .int .i64 (n / 60 % 60), .int .i64 (n % 60)]) ∧ Below w.heap.size w w' := by
 go_enter Tryz.func56, Tryz.ntmps56
 go_wp2_with fail
 refine bodyPost_ret (v := .agg #[.int .i64 (n / 3600), .int .i64 (n / 60 % 60), .int .i64 (n % 60)]) (by simp [results, Tryz.results56, go_sem]) rfl ⟨rfl, ?_⟩
 exact (Below.refl _ _).alloc (Nat.le_refl _) _
namespace Am
def w1 (n : Int) : ByteArray := wr (n / 3600) (n / 60 % 60) (n % 60)
def tx (n : Int) : ByteArray × Int := if n < -604799 ∨ 604799 < n then (⟨#[]⟩, 1) else if n = 0 then (tI 0, 0) else if n < 0 then (⟨#[45]⟩ ++ w1 (-n), 0) else (w1 n, 0)
theorem w1_size (n : Int) (n0 : 0 ≤ n) (n1 : n ≤ 604799) : (w1 n).size ≤ 200 := by
 unfold w1 wr
 have a := tI_size (n / 3600) (by omega) (by omega)
 have b := dd_size (n / 60 % 60) (by omega) (by omega)
 have c := dd_size (n % 60) (by omega) (by omega)
 split
 ·
  rw [ByteArray.size_append, ByteArray.size_append]
  have : (⟨#[58]⟩ : ByteArray).size = 1 := rfl
  omega
 ·
  rw [ByteArray.size_append, ByteArray.size_append, ByteArray.size_append, ByteArray.size_append]
  have : (⟨#[58]⟩ : ByteArray).size = 1 := rfl
  omega
end Am
theorem awrite_any (n : Int) (w : World) (n0 : 0 ≤ n) (n1 : n ≤ 604799) (htab : Lib.TabIs Tryz.prog w "internal/strconv.uint64pow10" .u64 Lib.pow10Tab) :
  Calls Tryz.prog 55 #[.agg #[.int .i64 (n / 3600), .int .i64 (n / 60 % 60), .int .i64 (n % 60)]] w fun e w' => e = .returned (.string (Am.w1 n)) ∧ Below w.heap.size w w' := by
 by_cases hs : n % 60 = 0
 ·
  exact awrite_no _ _ _ w (by omega) (by omega) (by omega) (by omega) hs htab
 ·
  exact awrite_yes _ _ _ w (by omega) (by omega) (by omega) (by omega) (by omega) (by omega) hs htab
theorem awp (n : Int) (n0 : 0 ≤ n) (n1 : n ≤ 604799) : ∃ (R : ByteArray) (a b c : Int), R = Am.w1 n ∧ R.size ≤ 200 ∧ Hid (∀ W, Calls Tryz.prog 56 #[.int .i64 n] W fun e w' => e = .returned (.agg #[.int .i64 a, .int .i64 b, .int .i64 c]) ∧ Below W.heap.size W w') ∧
  Hid (∀ W, Lib.TabIs Tryz.prog W "internal/strconv.uint64pow10" .u64 Lib.pow10Tab → Calls Tryz.prog 55 #[.agg #[.int .i64 a, .int .i64 b, .int .i64 c]] W fun e w' => e = .returned (.string R) ∧ Below W.heap.size W w') :=
 ⟨_, _, _, _, rfl, Am.w1_size n n0 n1, fun W => asplit_any n W n0 n1, fun W T => awrite_any n W n0 n1 T⟩
set_option maxHeartbeats 4000000 in
set_option maxRecDepth 100000 in
theorem atext_any (n : Int) (w : World) (b0 : -9223372036854775808 ≤ n) (b1 : n ≤ 9223372036854775807) (htab : Lib.TabIs Tryz.prog w "internal/strconv.uint64pow10" .u64 Lib.pow10Tab) :
  Calls Tryz.prog 23 #[.int .i64 n] w fun e w' => e = .returned (.tuple #[.string (Am.tx n).1, .int .i64 (Am.tx n).2]) ∧ Below w.heap.size w w' := by
 have T0 := Lib.hid htab; clear htab
 obtain ⟨ans, hans⟩ : ∃ ans, ans = Am.tx n := ⟨_, rfl⟩
 rw [← hans]
 unfold Am.tx at hans
 by_cases c1 : n < -604799
 ·
  have e := Lib.hid (show ans = (⟨#[]⟩, 1) by rw [hans, if_pos (.inl c1)])
  clear hans
  go_enter Tryz.func23, Tryz.ntmps23
  go_wp2_with fail
  go_ret2
  exact ⟨by rw [e.out]; rfl, Below.refl _ _⟩
 by_cases c2 : 604799 < n
 ·
  have e := Lib.hid (show ans = (⟨#[]⟩, 1) by rw [hans, if_pos (.inr c2)])
  clear hans
  go_enter Tryz.func23, Tryz.ntmps23
  go_wp2_with fail
  go_ret2
  exact ⟨by rw [e.out]; rfl, Below.refl _ _⟩
 rw [if_neg (by omega)] at hans
 by_cases c3 : n = 0
 ·
  subst c3
  obtain ⟨A, hA, zA, CA⟩ := atI 0 (by omega) (by omega)
  have e := Lib.hid (show ans = (A, 0) by rw [hans, if_pos rfl, hA])
  clear hans hA
  go_enter Tryz.func23, Tryz.ntmps23
  go_wp2_with fail
  refine (CA.out _ T0.out).mono ?_; rintro e w1 ⟨rfl, b1⟩
  have d1 : Below w.heap.size w w1 := below_step gr0 b1
  have B1 := Lib.hid d1
  clear b1 d1
  go_wp2_with fail
  go_ret2
  exact ⟨by rw [e.out]; rfl, B1.out⟩
 rw [if_neg c3] at hans
 have g1 : (n == 0) = false := by rw [beq_eq_false_iff_ne]; exact c3
 by_cases c4 : n < 0
 ·
  obtain ⟨R, a, b, c, hR, zR, CS, CW⟩ := awp (-n) (by omega) (by omega)
  have e := Lib.hid (show ans = (⟨#[45]⟩ ++ R, 0) by rw [hans, if_pos c4, hR])
  clear hans hR c3
  go_enter Tryz.func23, Tryz.ntmps23
  go_wp2_with fail
  refine (CS.out _).mono ?_; rintro e w1 ⟨rfl, b1⟩
  have d1 : Below w.heap.size w w1 := below_step gr0 b1
  have B1 := Lib.hid d1
  clear b1 d1
  go_wp2_with fail
  refine (CW.out _ (var_keep B1.out T0.out)).mono ?_; rintro e w2 ⟨rfl, b2⟩
  have d2 : Below w1.heap.size w1 w2 := below_step gr0 b2
  have B2 := Lib.hid (below_step B1.out d2)
  clear b2 d2 B1
  go_wp2_with fail
  go_ret2
  exact ⟨by rw [e.out]; rfl, B2.out⟩
 ·
  obtain ⟨R, a, b, c, hR, zR, CS, CW⟩ := awp n (by omega) (by omega)
  have e := Lib.hid (show ans = (R, 0) by rw [hans, if_neg c4, hR])
  clear hans hR c3
  go_enter Tryz.func23, Tryz.ntmps23
  go_wp2_with fail
  refine (CS.out _).mono ?_; rintro e w1 ⟨rfl, b1⟩
  have d1 : Below w.heap.size w w1 := below_step gr0 b1
  have B1 := Lib.hid d1
  clear b1 d1
  go_wp2_with fail
  refine (CW.out _ (var_keep B1.out T0.out)).mono ?_; rintro e w2 ⟨rfl, b2⟩
  have d2 : Below w1.heap.size w1 w2 := below_step gr0 b2
  have B2 := Lib.hid (below_step B1.out d2)
  clear b2 d2 B1
  go_wp2_with fail
  go_ret2
  exact ⟨by rw [e.out]; rfl, B2.out⟩
theorem atext_c (n : Int) (r : ByteArray) (q : Int) (h : Am.tx n = (r, q)) (b0 : -9223372036854775808 ≤ n) (b1 : n ≤ 9223372036854775807) (w : World) (htab : Lib.TabIs Tryz.prog w "internal/strconv.uint64pow10" .u64 Lib.pow10Tab) :
  Calls Tryz.prog 23 #[.int .i64 n] w fun e w' => e = .returned (.tuple #[.string r, .int .i64 q]) ∧ Below w.heap.size w w' := by
 have := atext_any n w b0 b1 htab
 rw [h] at this
 exact this
namespace Cl
def tx (n b : Int) : ByteArray × Int := if rB n b = false then (⟨#[]⟩, 4) else if b = 0 then ((Am.tx n).1, 0) else ((Am.tx n).1 ++ sg b, 0)
end Cl
theorem atx_size {n : Int} (n0 : 0 ≤ n) (n1 : n ≤ 172800) : (Am.tx n).1.size ≤ 200 ∧ Am.tx n = ((Am.tx n).1, 0) := by
 unfold Am.tx
 rw [if_neg (by omega)]
 by_cases h : n = 0
 ·
  rw [if_pos h]; exact ⟨Nat.le_trans (Am.tI_size 0 (by omega) (by omega)) (by omega), rfl⟩
 ·
  rw [if_neg h, if_neg (by omega)]; exact ⟨Am.w1_size n n0 (by omega), rfl⟩
theorem rB_iff {n b : Int} : Cl.rB n b = true ↔ 0 ≤ n ∧ n ≤ 172800 ∧ 0 ≤ b ∧ b < 3 := by unfold Cl.rB; simp [Bool.and_eq_true]
set_option maxHeartbeats 4000000 in
set_option maxRecDepth 100000 in
theorem cltext_no (n b : Int) (w : World) (T : Cl.Tab w) (htab : Lib.TabIs Tryz.prog w "internal/strconv.uint64pow10" .u64 Lib.pow10Tab) (hr : Cl.rB n b = false) : Calls Tryz.prog 22 #[.agg #[.int .i64 n, .int .i64 b]] w fun e w' => e = .returned (.tuple #[.string ⟨#[]⟩, .int .i64 4]) ∧ Below w.heap.size w w' := by
 have CR : Hid (∀ W, Calls Tryz.prog 48 #[.agg #[.int .i64 n, .int .i64 b]] W fun e w' => e = .returned (.bool false) ∧ Below W.heap.size W w') := fun W => hr ▸ clright_any n b W
 clear hr htab T
 go_enter Tryz.func22, Tryz.ntmps22
 go_wp2_with fail
 refine (CR.out _).mono ?_; rintro e w1 ⟨rfl, b1⟩
 have d1 : Below w.heap.size w w1 := below_step gr0 b1
 have B1 := Lib.hid d1
 have X1 : Bk2 w1 (w.heap.size) (.int .i64 n) (.int .i64 b) := by refine Bk2.of b1 (by simp <;> omega) (by intro j; simp [go_sem]) ?_ ?_ <;> simp [go_sem]
 clear b1 d1
 have tx := X1; obtain ⟨cX_b, cX_f, cX_0, cX_1⟩ := tx
 go_wp2_with fail
 clear cX_b cX_f cX_0 cX_1
 go_ret2
 exact ⟨rfl, (grB B1)⟩
set_option maxHeartbeats 4000000 in
set_option maxRecDepth 100000 in
theorem cltext_0 (n : Int) (w : World) (T : Cl.Tab w) (htab : Lib.TabIs Tryz.prog w "internal/strconv.uint64pow10" .u64 Lib.pow10Tab) (n0 : 0 ≤ n) (n1 : n ≤ 172800) : Calls Tryz.prog 22 #[.agg #[.int .i64 n, .int .i64 0]] w fun e w' => e = .returned (.tuple #[.string (Am.tx n).1, .int .i64 0]) ∧ Below w.heap.size w w' := by
 have CR : Hid (∀ W, Calls Tryz.prog 48 #[.agg #[.int .i64 n, .int .i64 0]] W fun e w' => e = .returned (.bool true) ∧ Below W.heap.size W w') := fun W => (rB_iff.2 ⟨n0, n1, by omega, by omega⟩ : Cl.rB n 0 = true) ▸ clright_any n 0 W
 obtain ⟨z, ez⟩ := atx_size n0 n1
 have CX := Lib.hid (atext_c n (Am.tx n).1 0 ez (by omega) (by omega))
 generalize (Am.tx n).1 = A at *
 have T0 := Lib.hid htab
 have TL := Lib.hid T
 clear ez htab T
 go_enter Tryz.func22, Tryz.ntmps22
 go_wp2_with fail
 refine (CR.out _).mono ?_; rintro e w1 ⟨rfl, b1⟩
 have d1 : Below w.heap.size w w1 := below_step gr0 b1
 have B1 := Lib.hid d1
 have X1 : Bk2 w1 (w.heap.size) (.int .i64 n) (.int .i64 0) := by refine Bk2.of b1 (by simp <;> omega) (by intro j; simp [go_sem]) ?_ ?_ <;> simp [go_sem]
 clear b1 d1
 have tx := X1; obtain ⟨cX_b, cX_f, cX_0, cX_1⟩ := tx
 go_wp2_with fail
 clear cX_b cX_f cX_0 cX_1
 refine (CX.out _ (var_keep B1.out T0.out)).mono ?_; rintro e w2 ⟨rfl, b2⟩
 have d2 : Below w1.heap.size w1 w2 := below_step gr0 b2
 have B2 := Lib.hid (below_step B1.out d2)
 have X2 := X1.keep d2
 clear X1 b2 d2 B1
 have tx := X2; obtain ⟨cX_b, cX_f, cX_0, cX_1⟩ := tx
 go_wp2_with fail
 clear cX_b cX_f cX_0 cX_1
 go_ret2
 exact ⟨rfl, (grB B2)⟩
set_option maxHeartbeats 4000000 in
set_option maxRecDepth 100000 in
theorem cltext_1 (n : Int) (w : World) (T : Cl.Tab w) (htab : Lib.TabIs Tryz.prog w "internal/strconv.uint64pow10" .u64 Lib.pow10Tab) (n0 : 0 ≤ n) (n1 : n ≤ 172800) : Calls Tryz.prog 22 #[.agg #[.int .i64 n, .int .i64 1]] w fun e w' => e = .returned (.tuple #[.string ((Am.tx n).1 ++ ⟨#[115]⟩), .int .i64 0]) ∧ Below w.heap.size w w' := by
 have CR : Hid (∀ W, Calls Tryz.prog 48 #[.agg #[.int .i64 n, .int .i64 1]] W fun e w' => e = .returned (.bool true) ∧ Below W.heap.size W w') := fun W => (rB_iff.2 ⟨n0, n1, by omega, by omega⟩ : Cl.rB n 1 = true) ▸ clright_any n 1 W
 obtain ⟨z, ez⟩ := atx_size n0 n1
 have CX := Lib.hid (atext_c n (Am.tx n).1 0 ez (by omega) (by omega))
 generalize (Am.tx n).1 = A at *
 have T0 := Lib.hid htab
 have TL := Lib.hid T
 clear ez htab T
 go_enter Tryz.func22, Tryz.ntmps22
 go_wp2_with fail
 refine (CR.out _).mono ?_; rintro e w1 ⟨rfl, b1⟩
 have d1 : Below w.heap.size w w1 := below_step gr0 b1
 have B1 := Lib.hid d1
 have X1 : Bk2 w1 (w.heap.size) (.int .i64 n) (.int .i64 1) := by refine Bk2.of b1 (by simp <;> omega) (by intro j; simp [go_sem]) ?_ ?_ <;> simp [go_sem]
 clear b1 d1
 have tx := X1; obtain ⟨cX_b, cX_f, cX_0, cX_1⟩ := tx
 go_wp2_with fail
 clear cX_b cX_f cX_0 cX_1
 refine (CX.out _ (var_keep B1.out T0.out)).mono ?_; rintro e w2 ⟨rfl, b2⟩
 have d2 : Below w1.heap.size w1 w2 := below_step gr0 b2
 have B2 := Lib.hid (below_step B1.out d2)
 have X2 := X1.keep d2
 clear X1 b2 d2 B1
 have tl := (TL.out.on B2.out).c1
 have tx := X2; obtain ⟨cX_b, cX_f, cX_0, cX_1⟩ := tx
 go_wp2_with fail
 clear cX_b cX_f cX_0 cX_1
 go_ret2
 exact ⟨rfl, (grB B2)⟩
set_option maxHeartbeats 4000000 in
set_option maxRecDepth 100000 in
theorem cltext_2 (n : Int) (w : World) (T : Cl.Tab w) (htab : Lib.TabIs Tryz.prog w "internal/strconv.uint64pow10" .u64 Lib.pow10Tab) (n0 : 0 ≤ n) (n1 : n ≤ 172800) : Calls Tryz.prog 22 #[.agg #[.int .i64 n, .int .i64 2]] w fun e w' => e = .returned (.tuple #[.string ((Am.tx n).1 ++ ⟨#[117]⟩), .int .i64 0]) ∧ Below w.heap.size w w' := by
 have CR : Hid (∀ W, Calls Tryz.prog 48 #[.agg #[.int .i64 n, .int .i64 2]] W fun e w' => e = .returned (.bool true) ∧ Below W.heap.size W w') := fun W => (rB_iff.2 ⟨n0, n1, by omega, by omega⟩ : Cl.rB n 2 = true) ▸ clright_any n 2 W
 obtain ⟨z, ez⟩ := atx_size n0 n1
 have CX := Lib.hid (atext_c n (Am.tx n).1 0 ez (by omega) (by omega))
 generalize (Am.tx n).1 = A at *
 have T0 := Lib.hid htab
 have TL := Lib.hid T
 clear ez htab T
 go_enter Tryz.func22, Tryz.ntmps22
 go_wp2_with fail
 refine (CR.out _).mono ?_; rintro e w1 ⟨rfl, b1⟩
 have d1 : Below w.heap.size w w1 := below_step gr0 b1
 have B1 := Lib.hid d1
 have X1 : Bk2 w1 (w.heap.size) (.int .i64 n) (.int .i64 2) := by refine Bk2.of b1 (by simp <;> omega) (by intro j; simp [go_sem]) ?_ ?_ <;> simp [go_sem]
 clear b1 d1
 have tx := X1; obtain ⟨cX_b, cX_f, cX_0, cX_1⟩ := tx
 go_wp2_with fail
 clear cX_b cX_f cX_0 cX_1
 refine (CX.out _ (var_keep B1.out T0.out)).mono ?_; rintro e w2 ⟨rfl, b2⟩
 have d2 : Below w1.heap.size w1 w2 := below_step gr0 b2
 have B2 := Lib.hid (below_step B1.out d2)
 have X2 := X1.keep d2
 clear X1 b2 d2 B1
 have tl := (TL.out.on B2.out).c2
 have tx := X2; obtain ⟨cX_b, cX_f, cX_0, cX_1⟩ := tx
 go_wp2_with fail
 clear cX_b cX_f cX_0 cX_1
 go_ret2
 exact ⟨rfl, (grB B2)⟩
theorem cltext_any (n b : Int) (w : World) (T : Cl.Tab w) (htab : Lib.TabIs Tryz.prog w "internal/strconv.uint64pow10" .u64 Lib.pow10Tab) : Calls Tryz.prog 22 #[.agg #[.int .i64 n, .int .i64 b]] w fun e w' => e = .returned (.tuple #[.string (Cl.tx n b).1, .int .i64 (Cl.tx n b).2]) ∧ Below w.heap.size w w' := by
 unfold Cl.tx
 cases hr : Cl.rB n b
 ·
  rw [if_pos rfl]; exact cltext_no n b w T htab hr
 ·
  rw [if_neg (by decide)]
  obtain ⟨n0, n1, b0, b1⟩ := rB_iff.1 hr
  obtain rfl | rfl | rfl : b = 0 ∨ b = 1 ∨ b = 2 := by omega
  ·
   exact cltext_0 n w T htab n0 n1
  ·
   exact cltext_1 n w T htab n0 n1
  ·
   exact cltext_2 n w T htab n0 n1
end Go.Proofs.YtjggjkeopbcmoaaGreatDoor
set_option linter.unusedVariables false
set_option linter.unusedSimpArgs false
namespace Go.Proofs.YtjggjkeopbcmoaaGreatDoor
open Go.RowKit
def StO (B : Nat) (w : World) (v : Value) (l : List ByteArray) : Prop :=
 ∃ A c, v = .slice A l.length c ∧ (0 < l.length → ∃ a, A = some a ∧ B ≤ a.block ∧ a.block < w.heap.size ∧ ∀ (j : Nat) (u : Value), (l.map Value.string)[j]? = some u → w.cell? (a.add j) = some u)
theorem StO.st {B : Nat} {w : World} {v : Value} {l : List ByteArray} (h : StO B w v l) : StS w v l := by
 obtain ⟨A, c, hv, ha⟩ := h
 exact ⟨A, c, hv, fun hn => by obtain ⟨a, e, _, hb, hc⟩ := ha hn; exact ⟨a, e, hb, hc⟩⟩
theorem StO.own {B base : Nat} {w : World} {v : Value} {l : List ByteArray} (h : w.ownsRow base 9 1 v l.length (l.map Value.string)) (hB : B ≤ base) : StO B w v l := by
 rcases Nat.eq_zero_or_pos l.length with h0 | h0
 ·
  obtain ⟨A, c, hv, _⟩ := Lst.own h
  exact ⟨A, c, hv, fun hn => by omega⟩
 ·
  obtain ⟨g, cap, hv, hb, hlt⟩ := h.form h0
  exact ⟨_, _, hv, fun _ => ⟨_, rfl, Nat.le_trans hB hb, hlt, h.cells (g := g) (by rw [hv]; rfl)⟩⟩
theorem StO.turn {B : Nat} {w w' : World} {v : Value} {l : List ByteArray} (h : StO B w v l) (hs : w.heap.size ≤ w'.heap.size) (k : ∀ i, B ≤ i → i < w.heap.size → w'.heap[i]? = w.heap[i]?) : StO B w' v l := by
 obtain ⟨A, c, hv, ha⟩ := h
 refine ⟨A, c, hv, fun hn => ?_⟩
 obtain ⟨a, e, h1, hb, hc⟩ := ha hn
 refine ⟨a, e, h1, by omega, fun j u hu => ?_⟩
 rw [← hc j u hu]
 exact World.cell?_of_block (by rw [blk_add]; exact k _ h1 hb)
theorem set_block (w : World) (p : Addr) (v : Value) (i : Nat) (h : p.block ≠ i) : (w.setCell p v).heap[i]? = w.heap[i]? := by
 simp [World.setCell, Array.getElem?_modify, h]
theorem set_size (w : World) (p : Addr) (v : Value) : (w.setCell p v).heap.size = w.heap.size := by simp [World.setCell]
theorem gvt_assert (line why : Int) (W : World) : Sem.run Tryz.prog (Instr.typeAssert (Value.iface 130 (Value.agg #[Value.int IntKind.i64 line, Value.int IntKind.i64 why])) 20 130 true) W = .ok (.tuple #[.agg #[.int .i64 line, .int .i64 why], .bool true]) W := by
 kernel_rfl
set_option maxRecDepth 100000 in
theorem gvt_catch (b : Nat) (x y line why : Int) (older : List PanicEntry) (w : World) (hb : b < w.heap.size) (hc : w.cell? ⟨b, 0, none⟩ = some (.int .i64 x)) (hd : w.cell? ⟨b, 1, none⟩ = some (.int .i64 y)) (hz : ∀ j, w.frozen? ⟨b, j, none⟩ = false) :
  CallsD Tryz.prog 86 #[.pointer (some ⟨b, 0, none⟩)] (.panicking ({ v := gvV line why, recovered := false } :: older)) w fun e u' w' =>
   e = .returned (.tuple #[]) ∧ u' = .panicking ({ v := gvV line why, recovered := true } :: older) ∧ w' = ((w.setCell ⟨b, 0, none⟩ (.int .i64 line)).setCell ⟨b, 1, none⟩ (.int .i64 why)).alloc (.cells #[.int .i64 line, .int .i64 why] 130) := by
 unfold gvV
 have hta := fun W => gvt_assert line why W
 refine callsD_of_wpS Tryz.func86 rfl fun c₀ cs hu => ?_
 apply wpS_seq
 apply wpS_region
 simp [wpOpsS, go_sem, recoverD, hu, Tryz.ntmps86, Exit.thenS]
 refine wpS_of_wp ?_
 rw [show (#[Value.pointer (some ⟨b, 0, none⟩)] ++ (Array.replicate 11 undef).setIfInBounds 3 (Value.iface 130 (Value.agg #[Value.int IntKind.i64 line, Value.int IntKind.i64 why])) : Array Value) = #[.pointer (some ⟨b, 0, none⟩), undef, undef, undef, .iface 130 (.agg #[.int .i64 line, .int .i64 why]), undef, undef, undef, undef, undef, undef, undef] from rfl]
 have n1 : b ≠ w.heap.size := Nat.ne_of_lt hb
 have n2 : w.heap.size ≠ b := Nat.ne_of_gt hb
 go_wp2_with fail
 all_goals (cases c₀; simp_all [bodyPostS, results, Tryz.results86])
theorem gvt_idle (p : Addr) (w : World) :
  CallsD Tryz.prog 86 #[.pointer (some p)] .returning w fun e u' w' => e = .returned (.tuple #[]) ∧ u' = .returning ∧ w' = w := by
 refine callsD_of_wpS Tryz.func86 rfl fun c₀ cs hu => ?_
 apply wpS_seq
 apply wpS_region
 simp [wpOpsS, go_sem, recoverD, hu, Tryz.ntmps86, Exit.thenS]
 refine wpS_of_wp ?_
 rw [show (#[Value.pointer (some p)] ++ (Array.replicate 11 undef).setIfInBounds 3 Value.nilIface : Array Value) = #[.pointer (some p), undef, undef, undef, .nilIface, undef, undef, undef, undef, undef, undef, undef] from rfl]
 go_wp2_with fail
 all_goals (cases c₀; simp_all [bodyPostS, results, Tryz.results86])
set_option maxHeartbeats 1000000 in
set_option maxRecDepth 100000 in
theorem tcaughtat_yes (g : FuncId) (qs : Array Value) (hg : ∀ W, Sem.run Tryz.prog (callFunc g qs) W = .ok (.enter g qs) W) (P : List (List UInt8)) (w : World)
  (CG : Hid (∀ W, Below w.heap.size w W → Calls Tryz.prog g qs W fun e w' => ∃ (v : Value) (l : List ByteArray), StO W.heap.size w' v l ∧ l.map (·.data.toList) = P ∧ e = .returned v ∧ Below W.heap.size W w')) :
  Calls Tryz.prog 45 #[.func (Fn.func g) #[] qs] w fun e w' => ∃ (v : Value) (l : List ByteArray), StS w' v l ∧ l.map (·.data.toList) = P ∧ e = .returned (.tuple #[v, .agg #[.int .i64 0, .int .i64 0]]) ∧ Below w.heap.size w w' := by
 have hmf : ∀ (fn : Fn) (first cap : Array Value) (w : World), (Instr.makeFunc fn first cap).run Tryz.prog w = .ok (.func fn first cap) w := fun _ _ _ _ => rfl
 go_enter_defers Tryz.func45, Tryz.ntmps45
 go_wp2_with fail
 refine (CG.out _ ((Below.refl _ _).alloc (Nat.le_refl _) _)).mono ?_; rintro e w1 ⟨v, l, hst, hlp, rfl, b1⟩
 have HST := Lib.hid hst; have HLP := Lib.hid hlp
 clear hlp
 obtain ⟨A, c, rfl, -⟩ := hst
 have B1 := Lib.hid (below_step ((Below.refl _ _).alloc (Nat.le_refl _) _) b1)
 have Q1 : Bk2 w1 w.heap.size (.int .i64 0) (.int .i64 0) := Bk2.of b1 (by simp) (by intro j; simp [go_sem]) (by simp [go_sem]) (by simp [go_sem])
 clear b1
 have c_b := Q1.hb; have c_f := Q1.fz; have c_0 := Q1.k0; have c_1 := Q1.k1
 clear Q1
 go_wp2_with fail
 refine leaves_cons (f := 86) (args := #[.pointer (some ⟨w.heap.size, 0, none⟩)]) (by simp) (by simp [go_sem]) ?_
 refine (gvt_idle ⟨w.heap.size, 0, none⟩ _).mono ?_
 rintro e u' w'' ⟨rfl, rfl, rfl⟩
 simp [Leaves, settle, results, Tryz.results45, go_sem, c_b, c_0, c_1, c_f]
 clear c_b c_f c_0 c_1
 refine ⟨_, l, StO.st (StO.turn (StO.turn HST.out (Nat.le_of_eq (set_size ..).symm) (fun i h1 h2 => set_block _ _ _ _ ?_)) (Nat.le_of_eq (set_size ..).symm) (fun i h1 h2 => set_block _ _ _ _ ?_)), HLP.out, rfl, ?_⟩
 ·
  simp at h1; show w.heap.size ≠ i; omega
 ·
  simp at h1; show w.heap.size ≠ i; omega
 ·
  repeat (refine Below.setCell ?_ (by first | omega | (simp; done) | (simp; omega)) _)
  exact B1.out
set_option maxHeartbeats 1000000 in
set_option maxRecDepth 100000 in
theorem tcaughtat_no (g : FuncId) (qs : Array Value) (hg : ∀ W, Sem.run Tryz.prog (callFunc g qs) W = .ok (.enter g qs) W) (line why : Int) (w : World)
  (CG : Hid (∀ W, Below w.heap.size w W → Calls Tryz.prog g qs W fun e w' => e = .panicked (gvL line why) ∧ Below W.heap.size W w')) :
  Calls Tryz.prog 45 #[.func (Fn.func g) #[] qs] w fun e w' => e = .returned (.tuple #[.slice none 0 0, .agg #[.int .i64 line, .int .i64 why]]) ∧ Below w.heap.size w w' := by
 have hmf : ∀ (fn : Fn) (first cap : Array Value) (w : World), (Instr.makeFunc fn first cap).run Tryz.prog w = .ok (.func fn first cap) w := fun _ _ _ _ => rfl
 go_enter_defers Tryz.func45, Tryz.ntmps45
 go_wp2_with fail
 refine (CG.out _ ((Below.refl _ _).alloc (Nat.le_refl _) _)).mono ?_; rintro e w1 ⟨rfl, b1⟩
 have B1 := Lib.hid (below_step ((Below.refl _ _).alloc (Nat.le_refl _) _) b1)
 have Q1 : Bk2 w1 w.heap.size (.int .i64 0) (.int .i64 0) := Bk2.of b1 (by simp) (by intro j; simp [go_sem]) (by simp [go_sem]) (by simp [go_sem])
 clear b1
 have c_b := Q1.hb; have c_f := Q1.fz; have c_0 := Q1.k0; have c_1 := Q1.k1
 clear Q1
 refine (show bodyPostD _ _ _ (Exit.panic (gvL line why)) _ _ from ?_)
 refine leaves_cons (f := 86) (args := #[.pointer (some ⟨w.heap.size, 0, none⟩)]) (by simp) (by simp [go_sem]) ?_
 refine (gvt_catch w.heap.size 0 0 line why [] _ c_b c_0 c_1 c_f).mono ?_
 rintro e u' w'' ⟨rfl, rfl, rfl⟩
 simp [Leaves, settle, results, Tryz.results45, go_sem, c_b, c_0, c_1, c_f]
 clear c_b c_f c_0 c_1
 refine Below.alloc (Below.setCell (Below.setCell B1.out (Nat.le_refl _) _) (Nat.le_refl _) _) (by simp; exact B1.out.size) _
set_option maxHeartbeats 1000000 in
set_option maxRecDepth 100000 in
theorem tcaught_yes (g : FuncId) (qs : Array Value) (hg : ∀ W, Sem.run Tryz.prog (callFunc g qs) W = .ok (.enter g qs) W) (P : List (List UInt8)) (w : World)
  (CG : Hid (∀ W, Below w.heap.size w W → Calls Tryz.prog g qs W fun e w' => ∃ (v : Value) (l : List ByteArray), StO W.heap.size w' v l ∧ l.map (·.data.toList) = P ∧ e = .returned v ∧ Below W.heap.size W w')) :
  Calls Tryz.prog 13 #[.func (Fn.func g) #[] qs] w (AnsF (P, 0) w) := by
 go_enter Tryz.func13, Tryz.ntmps13
 go_wp2_with fail
 refine (tcaughtat_yes g qs hg P _ CG).mono ?_; rintro e w1 ⟨v, l, hst, hlp, rfl, b1⟩
 have HST := Lib.hid hst; have HLP := Lib.hid hlp
 clear hst hlp
 have B1 := Lib.hid b1
 clear b1
 go_wp2_with fail
 go_quiet (fail)
 go_wp2_with fail
 go_ret2
 refine ⟨v, l, HST.out.on ?_, HLP.out, rfl, below_step B1.out ?_⟩
 all_goals (repeat (first | refine below_drewN ?_ _ | refine Below.drew ?_ | refine Below.setCell ?_ (by first | omega | (simp; done) | (simp; omega)) _ | refine Below.alloc ?_ (by first | omega | (simp; done) | (simp; omega)) _ | exact Below.refl _ _))
set_option maxHeartbeats 1000000 in
set_option maxRecDepth 100000 in
theorem tcaught_no (g : FuncId) (qs : Array Value) (hg : ∀ W, Sem.run Tryz.prog (callFunc g qs) W = .ok (.enter g qs) W) (line why : Int) (w : World)
  (CG : Hid (∀ W, Below w.heap.size w W → Calls Tryz.prog g qs W fun e w' => e = .panicked (gvL line why) ∧ Below W.heap.size W w')) :
  Calls Tryz.prog 13 #[.func (Fn.func g) #[] qs] w fun e w' => e = .returned (.tuple #[.slice none 0 0, .int .i64 why]) ∧ Below w.heap.size w w' := by
 go_enter Tryz.func13, Tryz.ntmps13
 go_wp2_with fail
 refine (tcaughtat_no g qs hg line why _ CG).mono ?_; rintro e w1 ⟨rfl, b1⟩
 have B1 := Lib.hid b1
 clear b1
 go_wp2_with fail
 go_quiet (fail)
 go_wp2_with fail
 go_ret2
 exact ⟨rfl, by repeat (first | exact B1.out | refine below_drewN ?_ _ | refine Below.drew ?_ | refine Below.setCell ?_ (by first | omega | (simp; done) | (simp; exact B1.out.size) | (simp; omega)) _ | refine Below.alloc ?_ (by first | exact B1.out.size | omega | (simp; done) | (simp; omega)) _)⟩
end Go.Proofs.YtjggjkeopbcmoaaGreatDoor
