/- The contract of amount.Text. -/
import Derived.Test.YtafnnnbefabofaaDoorAmC
import Derived.Test.YtafnnnbefabofaaDoorNumN
import Derived.Lib.QuietBelow
set_option linter.unusedVariables false
set_option linter.unusedSimpArgs false
namespace Go.Proofs.YtafnnnbefabofaaDoor
open Go.RowKit Go.Sort

namespace Am
def tI (n : Int) : ByteArray := ⟨(Lib.itoa n).toArray⟩
def dd (n : Int) : ByteArray := tI (n / 10) ++ tI (n % 10)
def wr (h m s : Int) : ByteArray := if s = 0 then tI h ++ ⟨#[58]⟩ ++ dd m else tI h ++ ⟨#[58]⟩ ++ dd m ++ (⟨#[58]⟩ ++ dd s)
theorem tI_size (n : Int) (h0 : -9223372036854775808 ≤ n) (h1 : n ≤ 9223372036854775807) : (tI n).size ≤ 21 := by
  unfold tI
  show (Lib.itoa n).toArray.size ≤ 21
  rw [List.size_toArray]
  exact Lib.itoa_length_le n h0 h1
theorem dd_size (n : Int) (h0 : 0 ≤ n) (h1 : n < 100) : (dd n).size ≤ 42 := by
  unfold dd
  rw [ByteArray.size_append]
  have := tI_size (n / 10) (by omega) (by omega); have := tI_size (n % 10) (by omega) (by omega)
  omega
end Am
theorem atI (n : Int) (h0 : -9223372036854775808 ≤ n) (h1 : n ≤ 9223372036854775807) : ∃ A, A = Am.tI n ∧ A.size ≤ 21 ∧ Hid (∀ W, Lib.TabIs Tryd.prog W "internal/strconv.uint64pow10" .u64 Lib.pow10Tab → Calls Tryd.prog 33 #[.int .i64 n] W fun e w' => e = .returned (.string A) ∧ Below W.heap.size W w') :=
  ⟨_, rfl, Am.tI_size n h0 h1, fun W T => text_any n W h0 h1 T⟩
set_option maxHeartbeats 2000000 in
set_option maxRecDepth 100000 in
theorem atwo_any (n : Int) (w : World) (n0 : 0 ≤ n) (n1 : n < 100) (htab : Lib.TabIs Tryd.prog w "internal/strconv.uint64pow10" .u64 Lib.pow10Tab) :
    Calls Tryd.prog 172 #[.int .i64 n] w fun e w' => e = .returned (.string (Am.dd n)) ∧ Below w.heap.size w w' := by
  have T0 := Lib.hid htab; clear htab
  obtain ⟨A, hA, zA, CA⟩ := atI (n / 10) (by omega) (by omega)
  obtain ⟨B', hB, zB, CB⟩ := atI (n % 10) (by omega) (by omega)
  have HR := Lib.hid (show Am.dd n = A ++ B' by unfold Am.dd; rw [hA, hB])
  generalize Am.dd n = ans at *
  clear hA hB
  go_enter Tryd.func172, Tryd.ntmps172
  go_wp2_with fail
  refine (CA.out _ T0.out).mono ?_; rintro e w1 ⟨rfl, b1⟩
  have d1 : Below w.heap.size w w1 := below_step (by repeat (first | exact Below.refl _ _ | refine below_drewN ?_ _ | refine Below.drew ?_ | refine Below.setCell ?_ (by first | (simp; done) | (simp; omega) | omega) _ | refine Below.alloc ?_ (by first | (simp; done) | (simp; omega) | omega) _)) b1
  have B1 := Lib.hid d1
  clear b1 d1
  go_wp2_with fail
  refine (CB.out _ (var_keep B1.out T0.out)).mono ?_; rintro e w2 ⟨rfl, b2⟩
  have d2 : Below w1.heap.size w1 w2 := below_step (by repeat (first | exact Below.refl _ _ | refine below_drewN ?_ _ | refine Below.drew ?_ | refine Below.setCell ?_ (by first | (simp; done) | (simp; omega) | omega) _ | refine Below.alloc ?_ (by first | (simp; done) | (simp; omega) | omega) _)) b2
  have B2 := Lib.hid (below_step B1.out d2)
  clear b2 d2 B1
  go_wp2_with fail
  go_ret
  exact ⟨by rw [HR.out]; rfl, B2.out⟩
theorem add_ (n : Int) (n0 : 0 ≤ n) (n1 : n < 100) : ∃ A, A = Am.dd n ∧ A.size ≤ 42 ∧ Hid (∀ W, Lib.TabIs Tryd.prog W "internal/strconv.uint64pow10" .u64 Lib.pow10Tab → Calls Tryd.prog 172 #[.int .i64 n] W fun e w' => e = .returned (.string A) ∧ Below W.heap.size W w') :=
  ⟨_, rfl, Am.dd_size n n0 n1, fun W T => atwo_any n W n0 n1 T⟩
set_option maxHeartbeats 4000000 in
set_option maxRecDepth 100000 in
theorem awrite_no (h m s : Int) (w : World) (h0 : 0 ≤ h) (h1 : h ≤ 1000000) (m0 : 0 ≤ m) (m1 : m < 60) (hs : s = 0) (htab : Lib.TabIs Tryd.prog w "internal/strconv.uint64pow10" .u64 Lib.pow10Tab) :
    Calls Tryd.prog 124 #[.agg #[.int .i64 h, .int .i64 m, .int .i64 s]] w fun e w' => e = .returned (.string (Am.wr h m s)) ∧ Below w.heap.size w w' := by
  have T0 := Lib.hid htab; clear htab
  obtain ⟨A, hA, zA, CA⟩ := atI h (by omega) (by omega)
  obtain ⟨D, hD, zD, CD⟩ := add_ m m0 (by omega)
  have HR := Lib.hid (show Am.wr h m s = A ++ ⟨#[58]⟩ ++ D by unfold Am.wr; rw [hA, hD, if_pos hs])
  generalize Am.wr h m s = ans at *
  have e1 : (A ++ ⟨#[58]⟩ : ByteArray).size = A.size + 1 := by rw [ByteArray.size_append]; rfl
  subst hs
  clear hA hD
  go_enter Tryd.func124, Tryd.ntmps124
  go_wp2_with fail
  refine wp_named ?_; intro w1 hw1
  have d1 : Below w.heap.size w w1 := by rw [hw1]; exact (by repeat (first | exact Below.refl _ _ | refine below_drewN ?_ _ | refine Below.drew ?_ | refine Below.setCell ?_ (by first | (simp; done) | (simp; omega) | omega) _ | refine Below.alloc ?_ (by first | (simp; done) | (simp; omega) | omega) _))
  have B1 := Lib.hid d1
  have X1 : Bk3 w1 (w.heap.size) (.int .i64 h) (.int .i64 m) (.int .i64 0) := by rw [hw1]; exact ⟨by simp <;> omega, by intro j; simp [go_sem], by simp [go_sem], by simp [go_sem], by simp [go_sem]⟩
  clear d1 hw1
  have T1 := Lib.hid (var_keep B1.out T0.out)
  have qX_0 := cell_regrown X1.k0
  have qX_1 := cell_regrown X1.k1
  have qX_2 := cell_regrown X1.k2
  refine wp_region_qb (w := w1) (by kernel_rfl) (by kernel_rfl) (by repeat (first | exact Below.refl _ _ | refine below_drewN ?_ _ | refine Below.drew ?_ | refine Below.setCell ?_ (by first | (simp; done) | (simp; omega) | omega) _ | refine Below.alloc ?_ (by first | (simp; done) | (simp; omega) | omega) _)) ?_
  repeat (any_goals (first | go_big_quiet_step (first | (go_at_call 33; exact Calls.regrown_of (CA.out _ (var_keep (below_regrown _ _ _) T1.out))) | (go_at_call 172; exact Calls.regrown_of (CD.out _ (var_keep (below_regrown _ _ _) T1.out)))) | quiet_step (first | (go_at_call 33; exact Calls.regrown_of (CA.out _ (var_keep (below_regrown _ _ _) T1.out))) | (go_at_call 172; exact Calls.regrown_of (CD.out _ (var_keep (below_regrown _ _ _) T1.out))))))
  refine wpQuiet_nil ?_
  intro w2 hq
  have b2 : Below w1.heap.size w1 w2 := by obtain ⟨p, hq⟩ := hq; rw [hq]; exact below_regrown _ _ _
  clear hq qX_0 qX_1 qX_2
  have d2 : Below w1.heap.size w1 w2 := below_step (by repeat (first | exact Below.refl _ _ | refine below_drewN ?_ _ | refine Below.drew ?_ | refine Below.setCell ?_ (by first | (simp; done) | (simp; omega) | omega) _ | refine Below.alloc ?_ (by first | (simp; done) | (simp; omega) | omega) _)) b2
  have B2 := Lib.hid (below_step B1.out d2)
  have X2 := X1.keep d2
  clear X1 b2 d2 B1
  have cX_b := X2.hb
  have cX_f := X2.fz
  have cX_0 := X2.k0
  have cX_1 := X2.k1
  have cX_2 := X2.k2
  go_wp2_with fail
  clear cX_b cX_f cX_0 cX_1 cX_2
  go_ret
  exact ⟨by rw [HR.out]; rfl, B2.out⟩
set_option maxHeartbeats 4000000 in
set_option maxRecDepth 100000 in
theorem awrite_yes (h m s : Int) (w : World) (h0 : 0 ≤ h) (h1 : h ≤ 1000000) (m0 : 0 ≤ m) (m1 : m < 60) (s0 : 0 ≤ s) (s1 : s < 60) (hs : ¬ s = 0) (htab : Lib.TabIs Tryd.prog w "internal/strconv.uint64pow10" .u64 Lib.pow10Tab) :
    Calls Tryd.prog 124 #[.agg #[.int .i64 h, .int .i64 m, .int .i64 s]] w fun e w' => e = .returned (.string (Am.wr h m s)) ∧ Below w.heap.size w w' := by
  have T0 := Lib.hid htab; clear htab
  obtain ⟨A, hA, zA, CA⟩ := atI h (by omega) (by omega)
  obtain ⟨D, hD, zD, CD⟩ := add_ m m0 (by omega)
  obtain ⟨E, hE, zE, CE⟩ := add_ s s0 (by omega)
  have HR := Lib.hid (show Am.wr h m s = A ++ ⟨#[58]⟩ ++ D ++ (⟨#[58]⟩ ++ E) by unfold Am.wr; rw [hA, hD, hE, if_neg hs])
  generalize Am.wr h m s = ans at *
  have e1 : (A ++ ⟨#[58]⟩ : ByteArray).size = A.size + 1 := by rw [ByteArray.size_append]; rfl
  have e2 : (A ++ ⟨#[58]⟩ ++ D : ByteArray).size = A.size + 1 + D.size := by rw [ByteArray.size_append, e1]
  have e3 : (⟨#[58]⟩ ++ E : ByteArray).size = 1 + E.size := by rw [ByteArray.size_append]; rfl
  have g1 : (s == 0) = false := by rw [beq_eq_false_iff_ne]; exact hs
  have g2 : (s != 0) = true := by unfold bne; rw [g1]; rfl
  clear hA hD hE hs
  go_enter Tryd.func124, Tryd.ntmps124
  go_wp2_with fail
  refine wp_named ?_; intro w1 hw1
  have d1 : Below w.heap.size w w1 := by rw [hw1]; exact (by repeat (first | exact Below.refl _ _ | refine below_drewN ?_ _ | refine Below.drew ?_ | refine Below.setCell ?_ (by first | (simp; done) | (simp; omega) | omega) _ | refine Below.alloc ?_ (by first | (simp; done) | (simp; omega) | omega) _))
  have B1 := Lib.hid d1
  have X1 : Bk3 w1 (w.heap.size) (.int .i64 h) (.int .i64 m) (.int .i64 s) := by rw [hw1]; exact ⟨by simp <;> omega, by intro j; simp [go_sem], by simp [go_sem], by simp [go_sem], by simp [go_sem]⟩
  clear d1 hw1
  have T1 := Lib.hid (var_keep B1.out T0.out)
  have qX_0 := cell_regrown X1.k0
  have qX_1 := cell_regrown X1.k1
  have qX_2 := cell_regrown X1.k2
  refine wp_region_qb (w := w1) (by kernel_rfl) (by kernel_rfl) (by repeat (first | exact Below.refl _ _ | refine below_drewN ?_ _ | refine Below.drew ?_ | refine Below.setCell ?_ (by first | (simp; done) | (simp; omega) | omega) _ | refine Below.alloc ?_ (by first | (simp; done) | (simp; omega) | omega) _)) ?_
  repeat (any_goals (first | go_big_quiet_step (first | (go_at_call 33; exact Calls.regrown_of (CA.out _ (var_keep (below_regrown _ _ _) T1.out))) | (go_at_call 172; exact Calls.regrown_of (CD.out _ (var_keep (below_regrown _ _ _) T1.out)))) | quiet_step (first | (go_at_call 33; exact Calls.regrown_of (CA.out _ (var_keep (below_regrown _ _ _) T1.out))) | (go_at_call 172; exact Calls.regrown_of (CD.out _ (var_keep (below_regrown _ _ _) T1.out))))))
  refine wpQuiet_nil ?_
  intro w2 hq
  have b2 : Below w1.heap.size w1 w2 := by obtain ⟨p, hq⟩ := hq; rw [hq]; exact below_regrown _ _ _
  clear hq qX_0 qX_1 qX_2
  have d2 : Below w1.heap.size w1 w2 := below_step (by repeat (first | exact Below.refl _ _ | refine below_drewN ?_ _ | refine Below.drew ?_ | refine Below.setCell ?_ (by first | (simp; done) | (simp; omega) | omega) _ | refine Below.alloc ?_ (by first | (simp; done) | (simp; omega) | omega) _)) b2
  have B2 := Lib.hid (below_step B1.out d2)
  have X2 := X1.keep d2
  clear X1 b2 d2 B1
  have cX_b := X2.hb
  have cX_f := X2.fz
  have cX_0 := X2.k0
  have cX_1 := X2.k1
  have cX_2 := X2.k2
  go_wp2_with fail
  clear cX_b cX_f cX_0 cX_1 cX_2
  refine (CE.out _ (var_keep B2.out T0.out)).mono ?_; rintro e w3 ⟨rfl, b3⟩
  have d3 : Below w2.heap.size w2 w3 := below_step (by repeat (first | exact Below.refl _ _ | refine below_drewN ?_ _ | refine Below.drew ?_ | refine Below.setCell ?_ (by first | (simp; done) | (simp; omega) | omega) _ | refine Below.alloc ?_ (by first | (simp; done) | (simp; omega) | omega) _)) b3
  have B3 := Lib.hid (below_step B2.out d3)
  have X3 := X2.keep d3
  clear X2 b3 d3 B2
  have cX_b := X3.hb
  have cX_f := X3.fz
  have cX_0 := X3.k0
  have cX_1 := X3.k1
  have cX_2 := X3.k2
  go_wp2_with fail
  clear cX_b cX_f cX_0 cX_1 cX_2
  go_ret
  exact ⟨by rw [HR.out]; rfl, B3.out⟩
set_option maxHeartbeats 2000000 in
theorem asplit_any (n : Int) (w : World) (n0 : 0 ≤ n) (n1 : n ≤ 604799) :
    Calls Tryd.prog 125 #[.int .i64 n] w fun e w' => e = .returned (.agg #[.int .i64 (n / 3600), .int .i64 (n / 60 % 60), .int .i64 (n % 60)]) ∧ Below w.heap.size w w' := by
  go_enter Tryd.func125, Tryd.ntmps125
  go_wp2_with fail
  refine bodyPost_ret (v := .agg #[.int .i64 (n / 3600), .int .i64 (n / 60 % 60), .int .i64 (n % 60)]) (by simp [results, Tryd.results125, go_sem]) rfl ⟨rfl, ?_⟩
  exact (Below.refl _ _).alloc (Nat.le_refl _) _
end Go.Proofs.YtafnnnbefabofaaDoor

