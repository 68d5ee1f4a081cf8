/- Amounts: Text, and the answers that noontidelaw16.lives asks for. -/
import Derived.Test.YtafnnnbefabofaaDoorAmD
set_option linter.unusedVariables false
set_option linter.unusedSimpArgs false
namespace Go.Proofs.YtafnnnbefabofaaDoor
open Go.RowKit Go.Sort

namespace Am
def w1 (n : Int) : ByteArray := wr (n / 3600) (n / 60 % 60) (n % 60)
/-- An amount's text, the error's number. -/
def tx (n : Int) : ByteArray × Int := if n < -604799 ∨ 604799 < n then (⟨#[]⟩, 1) else if n = 0 then (tI 0, 0) else if n < 0 then (⟨#[45]⟩ ++ w1 (-n), 0) else (w1 n, 0)
theorem w1_size (n : Int) (n0 : 0 ≤ n) (n1 : n ≤ 604799) : (w1 n).size ≤ 200 := by
  unfold w1 wr
  have a := tI_size (n / 3600) (by omega) (by omega)
  have b := dd_size (n / 60 % 60) (by omega) (by omega)
  have c := dd_size (n % 60) (by omega) (by omega)
  split
  · rw [ByteArray.size_append, ByteArray.size_append]
    have : (⟨#[58]⟩ : ByteArray).size = 1 := rfl
    omega
  · rw [ByteArray.size_append, ByteArray.size_append, ByteArray.size_append, ByteArray.size_append]
    have : (⟨#[58]⟩ : ByteArray).size = 1 := rfl
    omega
end Am
theorem awrite_any (n : Int) (w : World) (n0 : 0 ≤ n) (n1 : n ≤ 604799) (htab : Lib.TabIs Tryd.prog w "internal/strconv.uint64pow10" .u64 Lib.pow10Tab) :
    Calls Tryd.prog 124 #[.agg #[.int .i64 (n / 3600), .int .i64 (n / 60 % 60), .int .i64 (n % 60)]] w fun e w' => e = .returned (.string (Am.w1 n)) ∧ Below w.heap.size w w' := by
  by_cases hs : n % 60 = 0
  · exact awrite_no _ _ _ w (by omega) (by omega) (by omega) (by omega) hs htab
  · exact awrite_yes _ _ _ w (by omega) (by omega) (by omega) (by omega) (by omega) (by omega) hs htab
theorem awp (n : Int) (n0 : 0 ≤ n) (n1 : n ≤ 604799) : ∃ (R : ByteArray) (a b c : Int), R = Am.w1 n ∧ R.size ≤ 200 ∧ Hid (∀ W, Calls Tryd.prog 125 #[.int .i64 n] W fun e w' => e = .returned (.agg #[.int .i64 a, .int .i64 b, .int .i64 c]) ∧ Below W.heap.size W w') ∧
    Hid (∀ W, Lib.TabIs Tryd.prog W "internal/strconv.uint64pow10" .u64 Lib.pow10Tab → Calls Tryd.prog 124 #[.agg #[.int .i64 a, .int .i64 b, .int .i64 c]] W fun e w' => e = .returned (.string R) ∧ Below W.heap.size W w') :=
  ⟨_, _, _, _, rfl, Am.w1_size n n0 n1, fun W => asplit_any n W n0 n1, fun W T => awrite_any n W n0 n1 T⟩
set_option maxHeartbeats 4000000 in
set_option maxRecDepth 100000 in
theorem atext_any (n : Int) (w : World) (b0 : -9223372036854775808 ≤ n) (b1 : n ≤ 9223372036854775807) (htab : Lib.TabIs Tryd.prog w "internal/strconv.uint64pow10" .u64 Lib.pow10Tab) :
    Calls Tryd.prog 65 #[.int .i64 n] w fun e w' => e = .returned (.tuple #[.string (Am.tx n).1, .int .i64 (Am.tx n).2]) ∧ Below w.heap.size w w' := by
  have T0 := Lib.hid htab; clear htab
  obtain ⟨ans, hans⟩ : ∃ ans, ans = Am.tx n := ⟨_, rfl⟩
  rw [← hans]
  unfold Am.tx at hans
  by_cases c1 : n < -604799
  · have e := Lib.hid (show ans = (⟨#[]⟩, 1) by rw [hans, if_pos (.inl c1)])
    clear hans
    go_enter Tryd.func65, Tryd.ntmps65
    go_wp2_with fail
    go_ret2
    exact ⟨by rw [e.out]; rfl, Below.refl _ _⟩
  by_cases c2 : 604799 < n
  · have e := Lib.hid (show ans = (⟨#[]⟩, 1) by rw [hans, if_pos (.inr c2)])
    clear hans
    go_enter Tryd.func65, Tryd.ntmps65
    go_wp2_with fail
    go_ret2
    exact ⟨by rw [e.out]; rfl, Below.refl _ _⟩
  rw [if_neg (by omega)] at hans
  by_cases c3 : n = 0
  · subst c3
    obtain ⟨A, hA, zA, CA⟩ := atI 0 (by omega) (by omega)
    have e := Lib.hid (show ans = (A, 0) by rw [hans, if_pos rfl, hA])
    clear hans hA
    go_enter Tryd.func65, Tryd.ntmps65
    go_wp2_with fail
    refine (CA.out _ T0.out).mono ?_; rintro e w1 ⟨rfl, b1⟩
    have d1 : Below w.heap.size w w1 := below_step (by repeat (first | exact Below.refl _ _ | refine below_drewN ?_ _ | refine Below.drew ?_ | refine Below.setCell ?_ (by first | (simp; done) | (simp; omega) | omega) _ | refine Below.alloc ?_ (by first | (simp; done) | (simp; omega) | omega) _)) b1
    have B1 := Lib.hid d1
    clear b1 d1
    go_wp2_with fail
    go_ret2
    exact ⟨by rw [e.out]; rfl, B1.out⟩
  rw [if_neg c3] at hans
  have g1 : (n == 0) = false := by rw [beq_eq_false_iff_ne]; exact c3
  by_cases c4 : n < 0
  · obtain ⟨R, a, b, c, hR, zR, CS, CW⟩ := awp (-n) (by omega) (by omega)
    have e := Lib.hid (show ans = (⟨#[45]⟩ ++ R, 0) by rw [hans, if_pos c4, hR])
    clear hans hR c3
    go_enter Tryd.func65, Tryd.ntmps65
    go_wp2_with fail
    refine (CS.out _).mono ?_; rintro e w1 ⟨rfl, b1⟩
    have d1 : Below w.heap.size w w1 := below_step (by repeat (first | exact Below.refl _ _ | refine below_drewN ?_ _ | refine Below.drew ?_ | refine Below.setCell ?_ (by first | (simp; done) | (simp; omega) | omega) _ | refine Below.alloc ?_ (by first | (simp; done) | (simp; omega) | omega) _)) b1
    have B1 := Lib.hid d1
    clear b1 d1
    go_wp2_with fail
    refine (CW.out _ (var_keep B1.out T0.out)).mono ?_; rintro e w2 ⟨rfl, b2⟩
    have d2 : Below w1.heap.size w1 w2 := below_step (by repeat (first | exact Below.refl _ _ | refine below_drewN ?_ _ | refine Below.drew ?_ | refine Below.setCell ?_ (by first | (simp; done) | (simp; omega) | omega) _ | refine Below.alloc ?_ (by first | (simp; done) | (simp; omega) | omega) _)) b2
    have B2 := Lib.hid (below_step B1.out d2)
    clear b2 d2 B1
    go_wp2_with fail
    go_ret2
    exact ⟨by rw [e.out]; rfl, B2.out⟩
  · obtain ⟨R, a, b, c, hR, zR, CS, CW⟩ := awp n (by omega) (by omega)
    have e := Lib.hid (show ans = (R, 0) by rw [hans, if_neg c4, hR])
    clear hans hR c3
    go_enter Tryd.func65, Tryd.ntmps65
    go_wp2_with fail
    refine (CS.out _).mono ?_; rintro e w1 ⟨rfl, b1⟩
    have d1 : Below w.heap.size w w1 := below_step (by repeat (first | exact Below.refl _ _ | refine below_drewN ?_ _ | refine Below.drew ?_ | refine Below.setCell ?_ (by first | (simp; done) | (simp; omega) | omega) _ | refine Below.alloc ?_ (by first | (simp; done) | (simp; omega) | omega) _)) b1
    have B1 := Lib.hid d1
    clear b1 d1
    go_wp2_with fail
    refine (CW.out _ (var_keep B1.out T0.out)).mono ?_; rintro e w2 ⟨rfl, b2⟩
    have d2 : Below w1.heap.size w1 w2 := below_step (by repeat (first | exact Below.refl _ _ | refine below_drewN ?_ _ | refine Below.drew ?_ | refine Below.setCell ?_ (by first | (simp; done) | (simp; omega) | omega) _ | refine Below.alloc ?_ (by first | (simp; done) | (simp; omega) | omega) _)) b2
    have B2 := Lib.hid (below_step B1.out d2)
    clear b2 d2 B1
    go_wp2_with fail
    go_ret2
    exact ⟨by rw [e.out]; rfl, B2.out⟩
theorem ckm {B : Nat} {W W' : World} {a : Addr} {v : Value} (k : Below B W W') (h : W.cell? a = some v) (hB : B = W.heap.size := by rfl) : W'.cell? a = some v := (k.cell (hB ▸ World.block_lt_of_cell? _ _ h)).trans h
theorem aread_c (s : ByteArray) (p q : Int) (h : Am.rd s = (p, q)) (hs : s.size < 4294967281) (w : World) (m : Int) (hm : w.cell? ⟨5, 0, none⟩ = some (.int .i64 m)) :
    Calls Tryd.prog 63 #[.string s] w fun e w' => e = .returned (.tuple #[.int .i64 p, .int .i64 q]) ∧ Below w.heap.size w w' := by
  have := aread_any s w m hs hm
  rw [h] at this
  exact this
theorem atext_c (n : Int) (r : ByteArray) (q : Int) (h : Am.tx n = (r, q)) (b0 : -9223372036854775808 ≤ n) (b1 : n ≤ 9223372036854775807) (w : World) (htab : Lib.TabIs Tryd.prog w "internal/strconv.uint64pow10" .u64 Lib.pow10Tab) :
    Calls Tryd.prog 65 #[.int .i64 n] w fun e w' => e = .returned (.tuple #[.string r, .int .i64 q]) ∧ Below w.heap.size w w' := by
  have := atext_any n w b0 b1 htab
  rw [h] at this
  exact this
set_option maxHeartbeats 4000000 in
set_option maxRecDepth 100000 in
theorem lives16 (w : World) (m : Int) (hm : w.cell? ⟨5, 0, none⟩ = some (.int .i64 m)) (htab : Lib.TabIs Tryd.prog w "internal/strconv.uint64pow10" .u64 Lib.pow10Tab) :
    Calls Tryd.prog 62 #[] w fun e w' => e = .returned (.bool true) ∧ Below w.heap.size w w' := by
  have T0 := Lib.hid htab; clear htab
  have M0 := Lib.hid hm; clear hm
  have R0 := Lib.hid (aread_c ⟨#[50, 58, 48, 48]⟩ 7200 0 (by decide +kernel) (by decide))
  have R1 := Lib.hid (aread_c ⟨#[45, 48, 58, 51, 48]⟩ (-1800) 0 (by decide +kernel) (by decide))
  have R2 := Lib.hid (aread_c ⟨#[52, 58, 53, 54, 58, 48, 50]⟩ 17762 0 (by decide +kernel) (by decide))
  have R3 := Lib.hid (aread_c ⟨#[48, 50]⟩ 7200 0 (by decide +kernel) (by decide))
  have R4 := Lib.hid (aread_c ⟨#[45]⟩ 0 0 (by decide +kernel) (by decide))
  have R5 := Lib.hid (aread_c ⟨#[50, 58, 48]⟩ 0 2 (by decide +kernel) (by decide))
  have R6 := Lib.hid (aread_c ⟨#[58, 51, 48]⟩ 0 2 (by decide +kernel) (by decide))
  have R7 := Lib.hid (aread_c ⟨#[43, 49]⟩ 0 2 (by decide +kernel) (by decide))
  have R8 := Lib.hid (aread_c ⟨#[]⟩ 0 2 (by decide +kernel) (by decide))
  have R9 := Lib.hid (aread_c ⟨#[50, 58, 54, 48]⟩ 0 1 (by decide +kernel) (by decide))
  have R10 := Lib.hid (aread_c ⟨#[49, 54, 56]⟩ 0 1 (by decide +kernel) (by decide))
  have R11 := Lib.hid (aread_c ⟨#[49, 58, 48, 48, 58, 48, 48, 58, 48, 48]⟩ 0 2 (by decide +kernel) (by decide))
  have X0 := Lib.hid (atext_c (-17762) ⟨#[45, 52, 58, 53, 54, 58, 48, 50]⟩ 0 (by decide +kernel) (by decide) (by decide))
  have X1 := Lib.hid (atext_c 0 ⟨#[48]⟩ 0 (by decide +kernel) (by decide) (by decide))
  have X2 := Lib.hid (atext_c 604800 ⟨#[]⟩ 1 (by decide +kernel) (by decide) (by decide))
  have X3 := Lib.hid (atext_c 604799 ⟨#[49, 54, 55, 58, 53, 57, 58, 53, 57]⟩ 0 (by decide +kernel) (by decide) (by decide))
  go_enter Tryd.func62, Tryd.ntmps62
  go_wp2_with fail
  refine (R0.out _ m M0.out).mono ?_; rintro e w1 ⟨rfl, b1⟩
  have d1 : Below w.heap.size w w1 := below_step (by repeat (first | exact Below.refl _ _ | refine below_drewN ?_ _ | refine Below.drew ?_ | refine Below.setCell ?_ (by first | (simp; done) | (simp; omega) | omega) _ | refine Below.alloc ?_ (by first | (simp; done) | (simp; omega) | omega) _)) b1
  have B1 := Lib.hid d1
  clear b1 d1
  go_wp2_with fail
  refine (R1.out _ m (ckm B1.out M0.out)).mono ?_; rintro e w2 ⟨rfl, b2⟩
  have d2 : Below w1.heap.size w1 w2 := below_step (by repeat (first | exact Below.refl _ _ | refine below_drewN ?_ _ | refine Below.drew ?_ | refine Below.setCell ?_ (by first | (simp; done) | (simp; omega) | omega) _ | refine Below.alloc ?_ (by first | (simp; done) | (simp; omega) | omega) _)) b2
  have B2 := Lib.hid (below_step B1.out d2)
  clear b2 d2 B1
  go_wp2_with fail
  refine (R2.out _ m (ckm B2.out M0.out)).mono ?_; rintro e w3 ⟨rfl, b3⟩
  have d3 : Below w2.heap.size w2 w3 := below_step (by repeat (first | exact Below.refl _ _ | refine below_drewN ?_ _ | refine Below.drew ?_ | refine Below.setCell ?_ (by first | (simp; done) | (simp; omega) | omega) _ | refine Below.alloc ?_ (by first | (simp; done) | (simp; omega) | omega) _)) b3
  have B3 := Lib.hid (below_step B2.out d3)
  clear b3 d3 B2
  go_wp2_with fail
  refine (R3.out _ m (ckm B3.out M0.out)).mono ?_; rintro e w4 ⟨rfl, b4⟩
  have d4 : Below w3.heap.size w3 w4 := below_step (by repeat (first | exact Below.refl _ _ | refine below_drewN ?_ _ | refine Below.drew ?_ | refine Below.setCell ?_ (by first | (simp; done) | (simp; omega) | omega) _ | refine Below.alloc ?_ (by first | (simp; done) | (simp; omega) | omega) _)) b4
  have B4 := Lib.hid (below_step B3.out d4)
  clear b4 d4 B3
  go_wp2_with fail
  refine (R4.out _ m (ckm B4.out M0.out)).mono ?_; rintro e w5 ⟨rfl, b5⟩
  have d5 : Below w4.heap.size w4 w5 := below_step (by repeat (first | exact Below.refl _ _ | refine below_drewN ?_ _ | refine Below.drew ?_ | refine Below.setCell ?_ (by first | (simp; done) | (simp; omega) | omega) _ | refine Below.alloc ?_ (by first | (simp; done) | (simp; omega) | omega) _)) b5
  have B5 := Lib.hid (below_step B4.out d5)
  clear b5 d5 B4
  go_wp2_with fail
  refine (R5.out _ m (ckm B5.out M0.out)).mono ?_; rintro e w6 ⟨rfl, b6⟩
  have d6 : Below w5.heap.size w5 w6 := below_step (by repeat (first | exact Below.refl _ _ | refine below_drewN ?_ _ | refine Below.drew ?_ | refine Below.setCell ?_ (by first | (simp; done) | (simp; omega) | omega) _ | refine Below.alloc ?_ (by first | (simp; done) | (simp; omega) | omega) _)) b6
  have B6 := Lib.hid (below_step B5.out d6)
  clear b6 d6 B5
  go_wp2_with fail
  refine (R6.out _ m (ckm B6.out M0.out)).mono ?_; rintro e w7 ⟨rfl, b7⟩
  have d7 : Below w6.heap.size w6 w7 := below_step (by repeat (first | exact Below.refl _ _ | refine below_drewN ?_ _ | refine Below.drew ?_ | refine Below.setCell ?_ (by first | (simp; done) | (simp; omega) | omega) _ | refine Below.alloc ?_ (by first | (simp; done) | (simp; omega) | omega) _)) b7
  have B7 := Lib.hid (below_step B6.out d7)
  clear b7 d7 B6
  go_wp2_with fail
  refine (R7.out _ m (ckm B7.out M0.out)).mono ?_; rintro e w8 ⟨rfl, b8⟩
  have d8 : Below w7.heap.size w7 w8 := below_step (by repeat (first | exact Below.refl _ _ | refine below_drewN ?_ _ | refine Below.drew ?_ | refine Below.setCell ?_ (by first | (simp; done) | (simp; omega) | omega) _ | refine Below.alloc ?_ (by first | (simp; done) | (simp; omega) | omega) _)) b8
  have B8 := Lib.hid (below_step B7.out d8)
  clear b8 d8 B7
  go_wp2_with fail
  refine (R8.out _ m (ckm B8.out M0.out)).mono ?_; rintro e w9 ⟨rfl, b9⟩
  have d9 : Below w8.heap.size w8 w9 := below_step (by repeat (first | exact Below.refl _ _ | refine below_drewN ?_ _ | refine Below.drew ?_ | refine Below.setCell ?_ (by first | (simp; done) | (simp; omega) | omega) _ | refine Below.alloc ?_ (by first | (simp; done) | (simp; omega) | omega) _)) b9
  have B9 := Lib.hid (below_step B8.out d9)
  clear b9 d9 B8
  go_wp2_with fail
  refine (R9.out _ m (ckm B9.out M0.out)).mono ?_; rintro e w10 ⟨rfl, b10⟩
  have d10 : Below w9.heap.size w9 w10 := below_step (by repeat (first | exact Below.refl _ _ | refine below_drewN ?_ _ | refine Below.drew ?_ | refine Below.setCell ?_ (by first | (simp; done) | (simp; omega) | omega) _ | refine Below.alloc ?_ (by first | (simp; done) | (simp; omega) | omega) _)) b10
  have B10 := Lib.hid (below_step B9.out d10)
  clear b10 d10 B9
  go_wp2_with fail
  refine (R10.out _ m (ckm B10.out M0.out)).mono ?_; rintro e w11 ⟨rfl, b11⟩
  have d11 : Below w10.heap.size w10 w11 := below_step (by repeat (first | exact Below.refl _ _ | refine below_drewN ?_ _ | refine Below.drew ?_ | refine Below.setCell ?_ (by first | (simp; done) | (simp; omega) | omega) _ | refine Below.alloc ?_ (by first | (simp; done) | (simp; omega) | omega) _)) b11
  have B11 := Lib.hid (below_step B10.out d11)
  clear b11 d11 B10
  go_wp2_with fail
  refine (R11.out _ m (ckm B11.out M0.out)).mono ?_; rintro e w12 ⟨rfl, b12⟩
  have d12 : Below w11.heap.size w11 w12 := below_step (by repeat (first | exact Below.refl _ _ | refine below_drewN ?_ _ | refine Below.drew ?_ | refine Below.setCell ?_ (by first | (simp; done) | (simp; omega) | omega) _ | refine Below.alloc ?_ (by first | (simp; done) | (simp; omega) | omega) _)) b12
  have B12 := Lib.hid (below_step B11.out d12)
  clear b12 d12 B11
  go_wp2_with fail
  refine (X0.out _ (var_keep B12.out T0.out)).mono ?_; rintro e w13 ⟨rfl, b13⟩
  have d13 : Below w12.heap.size w12 w13 := below_step (by repeat (first | exact Below.refl _ _ | refine below_drewN ?_ _ | refine Below.drew ?_ | refine Below.setCell ?_ (by first | (simp; done) | (simp; omega) | omega) _ | refine Below.alloc ?_ (by first | (simp; done) | (simp; omega) | omega) _)) b13
  have B13 := Lib.hid (below_step B12.out d13)
  clear b13 d13 B12
  go_wp2_with fail
  refine (X1.out _ (var_keep B13.out T0.out)).mono ?_; rintro e w14 ⟨rfl, b14⟩
  have d14 : Below w13.heap.size w13 w14 := below_step (by repeat (first | exact Below.refl _ _ | refine below_drewN ?_ _ | refine Below.drew ?_ | refine Below.setCell ?_ (by first | (simp; done) | (simp; omega) | omega) _ | refine Below.alloc ?_ (by first | (simp; done) | (simp; omega) | omega) _)) b14
  have B14 := Lib.hid (below_step B13.out d14)
  clear b14 d14 B13
  go_wp2_with fail
  refine (X2.out _ (var_keep B14.out T0.out)).mono ?_; rintro e w15 ⟨rfl, b15⟩
  have d15 : Below w14.heap.size w14 w15 := below_step (by repeat (first | exact Below.refl _ _ | refine below_drewN ?_ _ | refine Below.drew ?_ | refine Below.setCell ?_ (by first | (simp; done) | (simp; omega) | omega) _ | refine Below.alloc ?_ (by first | (simp; done) | (simp; omega) | omega) _)) b15
  have B15 := Lib.hid (below_step B14.out d15)
  clear b15 d15 B14
  go_wp2_with fail
  refine (X3.out _ (var_keep B15.out T0.out)).mono ?_; rintro e w16 ⟨rfl, b16⟩
  have d16 : Below w15.heap.size w15 w16 := below_step (by repeat (first | exact Below.refl _ _ | refine below_drewN ?_ _ | refine Below.drew ?_ | refine Below.setCell ?_ (by first | (simp; done) | (simp; omega) | omega) _ | refine Below.alloc ?_ (by first | (simp; done) | (simp; omega) | omega) _)) b16
  have B16 := Lib.hid (below_step B15.out d16)
  clear b16 d16 B15
  go_wp2_with fail
  go_ret
  exact ⟨rfl, (by have hz := B16.out.size; repeat (first | exact B16.out | refine below_drewN ?_ _ | refine Below.drew ?_ | refine Below.setCell ?_ (by first | omega | (simp; done) | (simp; omega)) _ | refine Below.alloc ?_ (by first | omega | (simp; done) | (simp; omega)) _))⟩
end Go.Proofs.YtafnnnbefabofaaDoor

