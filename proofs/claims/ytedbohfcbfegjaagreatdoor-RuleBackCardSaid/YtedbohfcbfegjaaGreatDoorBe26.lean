/- Joined: AmT, ClE. -/
import Derived.Test.YtedbohfcbfegjaaGreatDoorBe25
import Derived.Test.YtedbohfcbfegjaaGreatDoorBe20
/- Amounts: Text. -/
set_option linter.unusedVariables false
set_option linter.unusedSimpArgs false
namespace Go.Proofs.YtedbohfcbfegjaaGreatDoor
open Go.RowKit Go.Sort

namespace Am
def w1 (n : Int) : ByteArray := wr (n / 3600) (n / 60 % 60) (n % 60)
/-- An amount's text, the error's number. -/
def tx (n : Int) : ByteArray × Int := if n < -604799 ∨ 604799 < n then (⟨#[]⟩, 1) else if n = 0 then (tI 0, 0) else if n < 0 then (⟨#[45]⟩ ++ w1 (-n), 0) else (w1 n, 0)
theorem w1_size (n : Int) (n0 : 0 ≤ n) (n1 : n ≤ 604799) : (w1 n).size ≤ 200 := by
  unfold w1 wr
  have a := tI_size (n / 3600) (by omega) (by omega)
  have b := dd_size (n / 60 % 60) (by omega) (by omega)
  have c := dd_size (n % 60) (by omega) (by omega)
  split
  · rw [ByteArray.size_append, ByteArray.size_append]
    have : (⟨#[58]⟩ : ByteArray).size = 1 := rfl
    omega
  · rw [ByteArray.size_append, ByteArray.size_append, ByteArray.size_append, ByteArray.size_append]
    have : (⟨#[58]⟩ : ByteArray).size = 1 := rfl
    omega
end Am
theorem awrite_any (n : Int) (w : World) (n0 : 0 ≤ n) (n1 : n ≤ 604799) (htab : Lib.TabIs Tryz.prog w "internal/strconv.uint64pow10" .u64 Lib.pow10Tab) :
    Calls Tryz.prog 102 #[.agg #[.int .i64 (n / 3600), .int .i64 (n / 60 % 60), .int .i64 (n % 60)]] w fun e w' => e = .returned (.string (Am.w1 n)) ∧ Below w.heap.size w w' := by
  by_cases hs : n % 60 = 0
  · exact awrite_no _ _ _ w (by omega) (by omega) (by omega) (by omega) hs htab
  · exact awrite_yes _ _ _ w (by omega) (by omega) (by omega) (by omega) (by omega) (by omega) hs htab
theorem awp (n : Int) (n0 : 0 ≤ n) (n1 : n ≤ 604799) : ∃ (R : ByteArray) (a b c : Int), R = Am.w1 n ∧ R.size ≤ 200 ∧ Hid (∀ W, Calls Tryz.prog 103 #[.int .i64 n] W fun e w' => e = .returned (.agg #[.int .i64 a, .int .i64 b, .int .i64 c]) ∧ Below W.heap.size W w') ∧
    Hid (∀ W, Lib.TabIs Tryz.prog W "internal/strconv.uint64pow10" .u64 Lib.pow10Tab → Calls Tryz.prog 102 #[.agg #[.int .i64 a, .int .i64 b, .int .i64 c]] W fun e w' => e = .returned (.string R) ∧ Below W.heap.size W w') :=
  ⟨_, _, _, _, rfl, Am.w1_size n n0 n1, fun W => asplit_any n W n0 n1, fun W T => awrite_any n W n0 n1 T⟩
set_option maxHeartbeats 4000000 in
set_option maxRecDepth 100000 in
theorem atext_any (n : Int) (w : World) (b0 : -9223372036854775808 ≤ n) (b1 : n ≤ 9223372036854775807) (htab : Lib.TabIs Tryz.prog w "internal/strconv.uint64pow10" .u64 Lib.pow10Tab) :
    Calls Tryz.prog 44 #[.int .i64 n] w fun e w' => e = .returned (.tuple #[.string (Am.tx n).1, .int .i64 (Am.tx n).2]) ∧ Below w.heap.size w w' := by
  have T0 := Lib.hid htab; clear htab
  obtain ⟨ans, hans⟩ : ∃ ans, ans = Am.tx n := ⟨_, rfl⟩
  rw [← hans]
  unfold Am.tx at hans
  by_cases c1 : n < -604799
  · have e := Lib.hid (show ans = (⟨#[]⟩, 1) by rw [hans, if_pos (.inl c1)])
    clear hans
    go_enter Tryz.func44, Tryz.ntmps44
    go_wp2_with fail
    go_ret2
    exact ⟨by rw [e.out]; rfl, Below.refl _ _⟩
  by_cases c2 : 604799 < n
  · have e := Lib.hid (show ans = (⟨#[]⟩, 1) by rw [hans, if_pos (.inr c2)])
    clear hans
    go_enter Tryz.func44, Tryz.ntmps44
    go_wp2_with fail
    go_ret2
    exact ⟨by rw [e.out]; rfl, Below.refl _ _⟩
  rw [if_neg (by omega)] at hans
  by_cases c3 : n = 0
  · subst c3
    obtain ⟨A, hA, zA, CA⟩ := atI 0 (by omega) (by omega)
    have e := Lib.hid (show ans = (A, 0) by rw [hans, if_pos rfl, hA])
    clear hans hA
    go_enter Tryz.func44, Tryz.ntmps44
    go_wp2_with fail
    refine (CA.out _ T0.out).mono ?_; rintro e w1 ⟨rfl, b1⟩
    have d1 : Below w.heap.size w w1 := below_step (by repeat (first | exact Below.refl _ _ | refine below_drewN ?_ _ | refine Below.drew ?_ | refine Below.setCell ?_ (by first | (simp; done) | (simp; omega) | omega) _ | refine Below.alloc ?_ (by first | (simp; done) | (simp; omega) | omega) _)) b1
    have B1 := Lib.hid d1
    clear b1 d1
    go_wp2_with fail
    go_ret2
    exact ⟨by rw [e.out]; rfl, B1.out⟩
  rw [if_neg c3] at hans
  have g1 : (n == 0) = false := by rw [beq_eq_false_iff_ne]; exact c3
  by_cases c4 : n < 0
  · obtain ⟨R, a, b, c, hR, zR, CS, CW⟩ := awp (-n) (by omega) (by omega)
    have e := Lib.hid (show ans = (⟨#[45]⟩ ++ R, 0) by rw [hans, if_pos c4, hR])
    clear hans hR c3
    go_enter Tryz.func44, Tryz.ntmps44
    go_wp2_with fail
    refine (CS.out _).mono ?_; rintro e w1 ⟨rfl, b1⟩
    have d1 : Below w.heap.size w w1 := below_step (by repeat (first | exact Below.refl _ _ | refine below_drewN ?_ _ | refine Below.drew ?_ | refine Below.setCell ?_ (by first | (simp; done) | (simp; omega) | omega) _ | refine Below.alloc ?_ (by first | (simp; done) | (simp; omega) | omega) _)) b1
    have B1 := Lib.hid d1
    clear b1 d1
    go_wp2_with fail
    refine (CW.out _ (var_keep B1.out T0.out)).mono ?_; rintro e w2 ⟨rfl, b2⟩
    have d2 : Below w1.heap.size w1 w2 := below_step (by repeat (first | exact Below.refl _ _ | refine below_drewN ?_ _ | refine Below.drew ?_ | refine Below.setCell ?_ (by first | (simp; done) | (simp; omega) | omega) _ | refine Below.alloc ?_ (by first | (simp; done) | (simp; omega) | omega) _)) b2
    have B2 := Lib.hid (below_step B1.out d2)
    clear b2 d2 B1
    go_wp2_with fail
    go_ret2
    exact ⟨by rw [e.out]; rfl, B2.out⟩
  · obtain ⟨R, a, b, c, hR, zR, CS, CW⟩ := awp n (by omega) (by omega)
    have e := Lib.hid (show ans = (R, 0) by rw [hans, if_neg c4, hR])
    clear hans hR c3
    go_enter Tryz.func44, Tryz.ntmps44
    go_wp2_with fail
    refine (CS.out _).mono ?_; rintro e w1 ⟨rfl, b1⟩
    have d1 : Below w.heap.size w w1 := below_step (by repeat (first | exact Below.refl _ _ | refine below_drewN ?_ _ | refine Below.drew ?_ | refine Below.setCell ?_ (by first | (simp; done) | (simp; omega) | omega) _ | refine Below.alloc ?_ (by first | (simp; done) | (simp; omega) | omega) _)) b1
    have B1 := Lib.hid d1
    clear b1 d1
    go_wp2_with fail
    refine (CW.out _ (var_keep B1.out T0.out)).mono ?_; rintro e w2 ⟨rfl, b2⟩
    have d2 : Below w1.heap.size w1 w2 := below_step (by repeat (first | exact Below.refl _ _ | refine below_drewN ?_ _ | refine Below.drew ?_ | refine Below.setCell ?_ (by first | (simp; done) | (simp; omega) | omega) _ | refine Below.alloc ?_ (by first | (simp; done) | (simp; omega) | omega) _)) b2
    have B2 := Lib.hid (below_step B1.out d2)
    clear b2 d2 B1
    go_wp2_with fail
    go_ret2
    exact ⟨by rw [e.out]; rfl, B2.out⟩
theorem aread_c (s : ByteArray) (p q : Int) (h : Am.rd s = (p, q)) (hs : s.size < 4294967281) (w : World) (m : Int) (hm : w.cell? ⟨3, 0, none⟩ = some (.int .i64 m)) :
    Calls Tryz.prog 88 #[.string s] w fun e w' => e = .returned (.tuple #[.int .i64 p, .int .i64 q]) ∧ Below w.heap.size w w' := by
  have := aread_any s w m hs hm
  rw [h] at this
  exact this
theorem atext_c (n : Int) (r : ByteArray) (q : Int) (h : Am.tx n = (r, q)) (b0 : -9223372036854775808 ≤ n) (b1 : n ≤ 9223372036854775807) (w : World) (htab : Lib.TabIs Tryz.prog w "internal/strconv.uint64pow10" .u64 Lib.pow10Tab) :
    Calls Tryz.prog 44 #[.int .i64 n] w fun e w' => e = .returned (.tuple #[.string r, .int .i64 q]) ∧ Below w.heap.size w w' := by
  have := atext_any n w b0 b1 htab
  rw [h] at this
  exact this
end Go.Proofs.YtedbohfcbfegjaaGreatDoor

/- The contract of clock.Text. -/
set_option linter.unusedVariables false
set_option linter.unusedSimpArgs false
namespace Go.Proofs.YtedbohfcbfegjaaGreatDoor
open Go.RowKit Go.Sort

namespace Cl
def tx (n b : Int) : ByteArray × Int := if rB n b = false then (⟨#[]⟩, 4) else if b = 0 then ((Am.tx n).1, 0) else ((Am.tx n).1 ++ sg b, 0)
end Cl
theorem atx_size {n : Int} (n0 : 0 ≤ n) (n1 : n ≤ 172800) : (Am.tx n).1.size ≤ 200 ∧ Am.tx n = ((Am.tx n).1, 0) := by
  unfold Am.tx
  rw [if_neg (by omega)]
  by_cases h : n = 0
  · rw [if_pos h]; exact ⟨Nat.le_trans (Am.tI_size 0 (by omega) (by omega)) (by omega), rfl⟩
  · rw [if_neg h, if_neg (by omega)]; exact ⟨Am.w1_size n n0 (by omega), rfl⟩
theorem rB_iff {n b : Int} : Cl.rB n b = true ↔ 0 ≤ n ∧ n ≤ 172800 ∧ 0 ≤ b ∧ b < 3 := by unfold Cl.rB; simp [Bool.and_eq_true]
set_option maxHeartbeats 4000000 in
set_option maxRecDepth 100000 in
theorem cltext_no (n b : Int) (w : World) (T : Cl.Tab w) (htab : Lib.TabIs Tryz.prog w "internal/strconv.uint64pow10" .u64 Lib.pow10Tab) (hr : Cl.rB n b = false) : Calls Tryz.prog 43 #[.agg #[.int .i64 n, .int .i64 b]] w fun e w' => e = .returned (.tuple #[.string ⟨#[]⟩, .int .i64 4]) ∧ Below w.heap.size w w' := by
  have CR : Hid (∀ W, Calls Tryz.prog 54 #[.agg #[.int .i64 n, .int .i64 b]] W fun e w' => e = .returned (.bool false) ∧ Below W.heap.size W w') := fun W => hr ▸ clright_any n b W
  clear hr htab T
  go_enter Tryz.func43, Tryz.ntmps43
  go_wp2_with fail
  refine (CR.out _).mono ?_; rintro e w1 ⟨rfl, b1⟩
  have d1 : Below w.heap.size w w1 := below_step (by repeat (first | exact Below.refl _ _ | refine below_drewN ?_ _ | refine Below.drew ?_ | refine Below.setCell ?_ (by first | (simp; done) | (simp; omega) | omega) _ | refine Below.alloc ?_ (by first | (simp; done) | (simp; omega) | omega) _)) b1
  have B1 := Lib.hid d1
  have X1 : Bk2 w1 (w.heap.size) (.int .i64 n) (.int .i64 b) := Bk2.of b1 (by simp <;> omega) (by intro j; simp [go_sem]) (by simp [go_sem]) (by simp [go_sem])
  clear b1 d1
  have cX_b := X1.hb
  have cX_f := X1.fz
  have cX_0 := X1.k0
  have cX_1 := X1.k1
  go_wp2_with fail
  clear cX_b cX_f cX_0 cX_1
  go_ret2
  exact ⟨rfl, (by have hz := B1.out.size; repeat (first | exact B1.out | refine below_drewN ?_ _ | refine Below.drew ?_ | refine Below.setCell ?_ (by first | omega | (simp; done) | (simp; omega)) _ | refine Below.alloc ?_ (by first | omega | (simp; done) | (simp; omega)) _))⟩
set_option maxHeartbeats 4000000 in
set_option maxRecDepth 100000 in
theorem cltext_0 (n : Int) (w : World) (T : Cl.Tab w) (htab : Lib.TabIs Tryz.prog w "internal/strconv.uint64pow10" .u64 Lib.pow10Tab) (n0 : 0 ≤ n) (n1 : n ≤ 172800) : Calls Tryz.prog 43 #[.agg #[.int .i64 n, .int .i64 0]] w fun e w' => e = .returned (.tuple #[.string (Am.tx n).1, .int .i64 0]) ∧ Below w.heap.size w w' := by
  have CR : Hid (∀ W, Calls Tryz.prog 54 #[.agg #[.int .i64 n, .int .i64 0]] W fun e w' => e = .returned (.bool true) ∧ Below W.heap.size W w') := fun W => (rB_iff.2 ⟨n0, n1, by omega, by omega⟩ : Cl.rB n 0 = true) ▸ clright_any n 0 W
  obtain ⟨z, ez⟩ := atx_size n0 n1
  have CX := Lib.hid (atext_c n (Am.tx n).1 0 ez (by omega) (by omega))
  generalize (Am.tx n).1 = A at *
  have T0 := Lib.hid htab
  have TL := Lib.hid T
  clear ez htab T
  go_enter Tryz.func43, Tryz.ntmps43
  go_wp2_with fail
  refine (CR.out _).mono ?_; rintro e w1 ⟨rfl, b1⟩
  have d1 : Below w.heap.size w w1 := below_step (by repeat (first | exact Below.refl _ _ | refine below_drewN ?_ _ | refine Below.drew ?_ | refine Below.setCell ?_ (by first | (simp; done) | (simp; omega) | omega) _ | refine Below.alloc ?_ (by first | (simp; done) | (simp; omega) | omega) _)) b1
  have B1 := Lib.hid d1
  have X1 : Bk2 w1 (w.heap.size) (.int .i64 n) (.int .i64 0) := Bk2.of b1 (by simp <;> omega) (by intro j; simp [go_sem]) (by simp [go_sem]) (by simp [go_sem])
  clear b1 d1
  have cX_b := X1.hb
  have cX_f := X1.fz
  have cX_0 := X1.k0
  have cX_1 := X1.k1
  go_wp2_with fail
  clear cX_b cX_f cX_0 cX_1
  refine (CX.out _ (var_keep B1.out T0.out)).mono ?_; rintro e w2 ⟨rfl, b2⟩
  have d2 : Below w1.heap.size w1 w2 := below_step (by repeat (first | exact Below.refl _ _ | refine below_drewN ?_ _ | refine Below.drew ?_ | refine Below.setCell ?_ (by first | (simp; done) | (simp; omega) | omega) _ | refine Below.alloc ?_ (by first | (simp; done) | (simp; omega) | omega) _)) b2
  have B2 := Lib.hid (below_step B1.out d2)
  have X2 := X1.keep d2
  clear X1 b2 d2 B1
  have cX_b := X2.hb
  have cX_f := X2.fz
  have cX_0 := X2.k0
  have cX_1 := X2.k1
  go_wp2_with fail
  clear cX_b cX_f cX_0 cX_1
  go_ret2
  exact ⟨rfl, (by have hz := B2.out.size; repeat (first | exact B2.out | refine below_drewN ?_ _ | refine Below.drew ?_ | refine Below.setCell ?_ (by first | omega | (simp; done) | (simp; omega)) _ | refine Below.alloc ?_ (by first | omega | (simp; done) | (simp; omega)) _))⟩
set_option maxHeartbeats 4000000 in
set_option maxRecDepth 100000 in
theorem cltext_1 (n : Int) (w : World) (T : Cl.Tab w) (htab : Lib.TabIs Tryz.prog w "internal/strconv.uint64pow10" .u64 Lib.pow10Tab) (n0 : 0 ≤ n) (n1 : n ≤ 172800) : Calls Tryz.prog 43 #[.agg #[.int .i64 n, .int .i64 1]] w fun e w' => e = .returned (.tuple #[.string ((Am.tx n).1 ++ ⟨#[115]⟩), .int .i64 0]) ∧ Below w.heap.size w w' := by
  have CR : Hid (∀ W, Calls Tryz.prog 54 #[.agg #[.int .i64 n, .int .i64 1]] W fun e w' => e = .returned (.bool true) ∧ Below W.heap.size W w') := fun W => (rB_iff.2 ⟨n0, n1, by omega, by omega⟩ : Cl.rB n 1 = true) ▸ clright_any n 1 W
  obtain ⟨z, ez⟩ := atx_size n0 n1
  have CX := Lib.hid (atext_c n (Am.tx n).1 0 ez (by omega) (by omega))
  generalize (Am.tx n).1 = A at *
  have T0 := Lib.hid htab
  have TL := Lib.hid T
  clear ez htab T
  go_enter Tryz.func43, Tryz.ntmps43
  go_wp2_with fail
  refine (CR.out _).mono ?_; rintro e w1 ⟨rfl, b1⟩
  have d1 : Below w.heap.size w w1 := below_step (by repeat (first | exact Below.refl _ _ | refine below_drewN ?_ _ | refine Below.drew ?_ | refine Below.setCell ?_ (by first | (simp; done) | (simp; omega) | omega) _ | refine Below.alloc ?_ (by first | (simp; done) | (simp; omega) | omega) _)) b1
  have B1 := Lib.hid d1
  have X1 : Bk2 w1 (w.heap.size) (.int .i64 n) (.int .i64 1) := Bk2.of b1 (by simp <;> omega) (by intro j; simp [go_sem]) (by simp [go_sem]) (by simp [go_sem])
  clear b1 d1
  have cX_b := X1.hb
  have cX_f := X1.fz
  have cX_0 := X1.k0
  have cX_1 := X1.k1
  go_wp2_with fail
  clear cX_b cX_f cX_0 cX_1
  refine (CX.out _ (var_keep B1.out T0.out)).mono ?_; rintro e w2 ⟨rfl, b2⟩
  have d2 : Below w1.heap.size w1 w2 := below_step (by repeat (first | exact Below.refl _ _ | refine below_drewN ?_ _ | refine Below.drew ?_ | refine Below.setCell ?_ (by first | (simp; done) | (simp; omega) | omega) _ | refine Below.alloc ?_ (by first | (simp; done) | (simp; omega) | omega) _)) b2
  have B2 := Lib.hid (below_step B1.out d2)
  have X2 := X1.keep d2
  clear X1 b2 d2 B1
  have tl := (TL.out.on B2.out).c1
  have cX_b := X2.hb
  have cX_f := X2.fz
  have cX_0 := X2.k0
  have cX_1 := X2.k1
  go_wp2_with fail
  clear cX_b cX_f cX_0 cX_1
  go_ret2
  exact ⟨rfl, (by have hz := B2.out.size; repeat (first | exact B2.out | refine below_drewN ?_ _ | refine Below.drew ?_ | refine Below.setCell ?_ (by first | omega | (simp; done) | (simp; omega)) _ | refine Below.alloc ?_ (by first | omega | (simp; done) | (simp; omega)) _))⟩
set_option maxHeartbeats 4000000 in
set_option maxRecDepth 100000 in
theorem cltext_2 (n : Int) (w : World) (T : Cl.Tab w) (htab : Lib.TabIs Tryz.prog w "internal/strconv.uint64pow10" .u64 Lib.pow10Tab) (n0 : 0 ≤ n) (n1 : n ≤ 172800) : Calls Tryz.prog 43 #[.agg #[.int .i64 n, .int .i64 2]] w fun e w' => e = .returned (.tuple #[.string ((Am.tx n).1 ++ ⟨#[117]⟩), .int .i64 0]) ∧ Below w.heap.size w w' := by
  have CR : Hid (∀ W, Calls Tryz.prog 54 #[.agg #[.int .i64 n, .int .i64 2]] W fun e w' => e = .returned (.bool true) ∧ Below W.heap.size W w') := fun W => (rB_iff.2 ⟨n0, n1, by omega, by omega⟩ : Cl.rB n 2 = true) ▸ clright_any n 2 W
  obtain ⟨z, ez⟩ := atx_size n0 n1
  have CX := Lib.hid (atext_c n (Am.tx n).1 0 ez (by omega) (by omega))
  generalize (Am.tx n).1 = A at *
  have T0 := Lib.hid htab
  have TL := Lib.hid T
  clear ez htab T
  go_enter Tryz.func43, Tryz.ntmps43
  go_wp2_with fail
  refine (CR.out _).mono ?_; rintro e w1 ⟨rfl, b1⟩
  have d1 : Below w.heap.size w w1 := below_step (by repeat (first | exact Below.refl _ _ | refine below_drewN ?_ _ | refine Below.drew ?_ | refine Below.setCell ?_ (by first | (simp; done) | (simp; omega) | omega) _ | refine Below.alloc ?_ (by first | (simp; done) | (simp; omega) | omega) _)) b1
  have B1 := Lib.hid d1
  have X1 : Bk2 w1 (w.heap.size) (.int .i64 n) (.int .i64 2) := Bk2.of b1 (by simp <;> omega) (by intro j; simp [go_sem]) (by simp [go_sem]) (by simp [go_sem])
  clear b1 d1
  have cX_b := X1.hb
  have cX_f := X1.fz
  have cX_0 := X1.k0
  have cX_1 := X1.k1
  go_wp2_with fail
  clear cX_b cX_f cX_0 cX_1
  refine (CX.out _ (var_keep B1.out T0.out)).mono ?_; rintro e w2 ⟨rfl, b2⟩
  have d2 : Below w1.heap.size w1 w2 := below_step (by repeat (first | exact Below.refl _ _ | refine below_drewN ?_ _ | refine Below.drew ?_ | refine Below.setCell ?_ (by first | (simp; done) | (simp; omega) | omega) _ | refine Below.alloc ?_ (by first | (simp; done) | (simp; omega) | omega) _)) b2
  have B2 := Lib.hid (below_step B1.out d2)
  have X2 := X1.keep d2
  clear X1 b2 d2 B1
  have tl := (TL.out.on B2.out).c2
  have cX_b := X2.hb
  have cX_f := X2.fz
  have cX_0 := X2.k0
  have cX_1 := X2.k1
  go_wp2_with fail
  clear cX_b cX_f cX_0 cX_1
  go_ret2
  exact ⟨rfl, (by have hz := B2.out.size; repeat (first | exact B2.out | refine below_drewN ?_ _ | refine Below.drew ?_ | refine Below.setCell ?_ (by first | omega | (simp; done) | (simp; omega)) _ | refine Below.alloc ?_ (by first | omega | (simp; done) | (simp; omega)) _))⟩
theorem cltext_any (n b : Int) (w : World) (T : Cl.Tab w) (htab : Lib.TabIs Tryz.prog w "internal/strconv.uint64pow10" .u64 Lib.pow10Tab) : Calls Tryz.prog 43 #[.agg #[.int .i64 n, .int .i64 b]] w fun e w' => e = .returned (.tuple #[.string (Cl.tx n b).1, .int .i64 (Cl.tx n b).2]) ∧ Below w.heap.size w w' := by
  unfold Cl.tx
  cases hr : Cl.rB n b
  · rw [if_pos rfl]; exact cltext_no n b w T htab hr
  · rw [if_neg (by decide)]
    obtain ⟨n0, n1, b0, b1⟩ := rB_iff.1 hr
    obtain rfl | rfl | rfl : b = 0 ∨ b = 1 ∨ b = 2 := by omega
    · exact cltext_0 n w T htab n0 n1
    · exact cltext_1 n w T htab n0 n1
    · exact cltext_2 n w T htab n0 n1
theorem clread_c (s : ByteArray) (x b q : Int) (h : Cl.rd s = (x, b, q)) (hs : s.size < 4294967281) (w : World) (y : Int) (T : Cl.Tab w) (hm : w.cell? ⟨3, 0, none⟩ = some (.int .i64 y)) :
    Calls Tryz.prog 86 #[.string s] w fun e w' => e = .returned (.tuple #[.agg #[.int .i64 x, .int .i64 b], .int .i64 q]) ∧ Below w.heap.size w w' := by
  have := clread_any s w y hs T hm
  rw [h] at this
  exact this
theorem cltext_c (n b : Int) (r : ByteArray) (q : Int) (h : Cl.tx n b = (r, q)) (w : World) (T : Cl.Tab w) (htab : Lib.TabIs Tryz.prog w "internal/strconv.uint64pow10" .u64 Lib.pow10Tab) : Calls Tryz.prog 43 #[.agg #[.int .i64 n, .int .i64 b]] w fun e w' => e = .returned (.tuple #[.string r, .int .i64 q]) ∧ Below w.heap.size w w' := by
  have := cltext_any n b w T htab
  rw [h] at this
  exact this
theorem clright_c (n b : Int) (r : Bool) (h : Cl.rB n b = r) (w : World) : Calls Tryz.prog 54 #[.agg #[.int .i64 n, .int .i64 b]] w fun e w' => e = .returned (.bool r) ∧ Below w.heap.size w w' := h ▸ clright_any n b w
end Go.Proofs.YtedbohfcbfegjaaGreatDoor
