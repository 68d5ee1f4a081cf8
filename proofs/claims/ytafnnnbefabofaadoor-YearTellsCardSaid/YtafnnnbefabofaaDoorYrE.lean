/- The walk of YearBack: whatever text and years, the law answers true; nothing old turns. -/
import Derived.Test.YtafnnnbefabofaaDoorYrD
set_option linter.unusedVariables false
set_option linter.unusedSimpArgs false
namespace Go.Proofs.YtafnnnbefabofaaDoor
open Go.RowKit Go.Sort

namespace Yr
theorem starts_tab : ∀ n : Fin 256, (Num.dig (UInt8.ofNat n.val) || decide (n.val = 45)) = starts.contains (UInt8.ofNat n.val) := by decide +kernel
theorem starts_dig (c : UInt8) : starts.contains c = (Num.dig c || decide (c.toNat = 45)) := by
  have := starts_tab ⟨c.toNat, c.toNat_lt⟩
  rw [show UInt8.ofNat c.toNat = c from UInt8.ofNat_toNat] at this
  exact this.symm
theorem itoa_isN (n : Int) : isN (Lib.itoa n) = true := by
  unfold Lib.itoa
  split
  · show starts.contains 45 = true
    decide
  · obtain ⟨c, r, e, hd⟩ := Num.dec_head n.toNat
    rw [e]
    show starts.contains c = true
    rw [starts_dig, hd]; rfl
theorem itoa_rd {n : Int} (n0 : -9223372036854775808 ≤ n) (n1 : n ≤ 9223372036854775807) : Num.rd (Lib.itoa n) = (n, 0) := by
  unfold Num.rd
  rw [Num.isT_itoa, if_pos rfl, Num.parse_itoa n n0 n1]
theorem itoa_num {n : Int} (h : inY n = true) : num (Lib.itoa n) = (n, 0) := by
  have h2 := h
  unfold inY at h2
  rw [Bool.and_eq_true, decide_eq_true_eq, decide_eq_true_eq] at h2
  unfold num
  rw [itoa_rd (by omega) (by omega), if_pos rfl, h]; rfl
theorem tI_size {n : Int} (h : inY n = true) : (tI n).size ≤ 21 := by
  unfold inY at h
  rw [Bool.and_eq_true, decide_eq_true_eq, decide_eq_true_eq] at h
  show (Lib.itoa n).toArray.size ≤ 21
  rw [List.size_toArray]
  exact Lib.itoa_length_le n (by omega) (by omega)
theorem ft_size (y : Int) : (ft y).1.size ≤ 1000 := by
  unfold ft
  cases h : inY y
  · simp only [Bool.false_eq_true, if_false]; decide
  · simp only [if_true]
    split
    · decide
    · have := tI_size h; show (tI y).size ≤ 1000; omega
theorem tt_size (f y : Int) : (tt f y).1.size ≤ 1000 := by
  unfold tt
  cases h : inY y
  · simp only [Bool.false_eq_true, if_false]; decide
  · simp only [if_true]
    split
    · decide
    · split
      · decide
      · split
        · decide
        · have := tI_size h; show (tI y).size ≤ 1000; omega
theorem ft_back {y : Int} (h : (ft y).2 = 0) : fr (ft y).1.data.toList = (y, 0) := by
  revert h
  unfold ft
  cases hi : inY y
  · simp only [Bool.false_eq_true, if_false]; intro h; exact absurd h (by decide)
  · simp only [if_true]
    split
    · rename_i e; subst e; intro _; decide +kernel
    · intro _
      show fr (Lib.itoa y) = (y, 0)
      unfold fr
      rw [itoa_isN, if_pos rfl, itoa_num hi]
theorem only_w : word [111, 110, 108, 121] = (2, 0) ∧ isN [111, 110, 108, 121] = false := by decide +kernel
theorem max_w : word [109, 97, 120] = (1, 0) ∧ isN [109, 97, 120] = false := by decide +kernel
theorem tt_back {f y : Int} (h : (tt f y).2 = 0) : to (tt f y).1.data.toList f = (y, 0) := by
  revert h
  unfold tt
  cases hi : inY y
  · simp only [Bool.false_eq_true, if_false]; intro h; exact absurd h (by decide)
  · simp only [if_true]
    split
    · intro h; exact absurd h (by decide)
    · rename_i hlt
      split
      · rename_i e
        intro _
        subst e
        have e : la [111, 110, 108, 121] y = (y, 0) := by
          unfold la
          rw [only_w.2, only_w.1]; rfl
        show to [111, 110, 108, 121] y = (y, 0)
        unfold to
        rw [e, if_pos rfl, if_pos (Int.le_refl _)]
      · split
        · rename_i e
          intro _
          subst e
          have e : la [109, 97, 120] f = (32767, 0) := by
            unfold la
            rw [max_w.2, max_w.1]; rfl
          show to [109, 97, 120] f = (32767, 0)
          unfold to
          rw [e, if_pos rfl, if_pos (by omega)]
        · intro _
          have e : la (Lib.itoa y) f = (y, 0) := by
            unfold la
            rw [itoa_isN, if_pos rfl, itoa_num hi]
          show to (Lib.itoa y) f = (y, 0)
          unfold to
          rw [e, if_pos rfl, if_pos (by omega)]
theorem to_ge {l : List UInt8} {f : Int} (h : (to l f).2 = 0) : f ≤ (to l f).1 := by
  revert h
  unfold to
  split
  · split
    · rename_i h; intro _; exact h
    · intro h; exact absurd h (by decide)
  · rename_i h; intro h2; exact absurd h2 h
end Yr
set_option maxHeartbeats 4000000 in
set_option maxRecDepth 100000 in
theorem yback_long (s : ByteArray) (f y : Int) (w : World) (tp : TypeId) (p : Value) (L : Lv w w tp p) (hl : 500 < s.size) :
    Calls Tryd.prog 4 #[.string s, .int .i64 f, .int .i64 y] w fun e w' => e = .returned (.bool true) ∧ Below w.heap.size w w' := by
  have hl' : (500 : Int) < (s.size : Int) := by omega
  have LV := Lib.hid (lives17 w tp p L)
  clear L hl
  go_enter Tryd.func4, Tryd.ntmps4
  go_wp2_with fail
  refine (LV.out).mono ?_; rintro e w1 ⟨rfl, b1⟩
  have d1 : Below w.heap.size w w1 := below_step (by repeat (first | exact Below.refl _ _ | refine below_drewN ?_ _ | refine Below.drew ?_ | refine Below.setCell ?_ (by first | (simp; done) | (simp; omega) | omega) _ | refine Below.alloc ?_ (by first | (simp; done) | (simp; omega) | omega) _)) b1
  have B1 := Lib.hid d1
  clear b1 d1
  go_wp2_with fail
  go_ret
  exact ⟨rfl, (by have hz := B1.out.size; repeat (first | exact B1.out | refine below_drewN ?_ _ | refine Below.drew ?_ | refine Below.setCell ?_ (by first | omega | (simp; done) | (simp; omega)) _ | refine Below.alloc ?_ (by first | omega | (simp; done) | (simp; omega)) _))⟩
set_option maxHeartbeats 4000000 in
set_option maxRecDepth 100000 in
theorem yback_yyy (s T U : ByteArray) (f y x v z qa qx qb qv qc : Int) (w : World) (tp : TypeId) (p : Value) (L : Lv w w tp p) (hl : (s.size : Int) ≤ 500)
    (CF : Hid (∀ W, Lib.TabIs Tryd.prog W "internal/strconv.uint64pow10" .u64 Lib.pow10Tab → Calls Tryd.prog 18 #[.int .i64 f] W fun e w' => e = .returned (.tuple #[.string T, .int .i64 qa]) ∧ Below W.heap.size W w'))
    (CX : Hid (∀ W, W.var? Tryd.prog "strconv.ErrRange" = some #[.iface tp p] → Calls Tryd.prog 19 #[.string T] W fun e w' => e = .returned (.tuple #[.int .i64 x, .int .i64 qx]) ∧ Below W.heap.size W w'))
    (CG : Hid (∀ W, Lib.TabIs Tryd.prog W "internal/strconv.uint64pow10" .u64 Lib.pow10Tab → Calls Tryd.prog 20 #[.int .i64 f, .int .i64 y] W fun e w' => e = .returned (.tuple #[.string U, .int .i64 qb]) ∧ Below W.heap.size W w'))
    (CV : Hid (∀ W, W.var? Tryd.prog "strconv.ErrRange" = some #[.iface tp p] → Calls Tryd.prog 21 #[.string U, .int .i64 f] W fun e w' => e = .returned (.tuple #[.int .i64 v, .int .i64 qv]) ∧ Below W.heap.size W w'))
    (CZ : Hid (∀ W, W.var? Tryd.prog "strconv.ErrRange" = some #[.iface tp p] → Calls Tryd.prog 21 #[.string s, .int .i64 f] W fun e w' => e = .returned (.tuple #[.int .i64 z, .int .i64 qc]) ∧ Below W.heap.size W w'))
    (ab : qa = 0 → x = f ∧ qx = 0) (bb : qb = 0 → v = y ∧ qv = 0) (a : qa = 0) (b : qb = 0) (c : qc = 0) (cz : f ≤ z) :
    Calls Tryd.prog 4 #[.string s, .int .i64 f, .int .i64 y] w fun e w' => e = .returned (.bool true) ∧ Below w.heap.size w w' := by
  have LV := Lib.hid (lives17 w tp p L)
  have L0 := Lib.hid L; clear L
  obtain ⟨rfl, rfl⟩ := ab a; subst a
  obtain ⟨rfl, rfl⟩ := bb b; subst b
  subst c
  go_enter Tryd.func4, Tryd.ntmps4
  go_wp2_with fail
  refine (LV.out).mono ?_; rintro e w1 ⟨rfl, b1⟩
  have d1 : Below w.heap.size w w1 := below_step (by repeat (first | exact Below.refl _ _ | refine below_drewN ?_ _ | refine Below.drew ?_ | refine Below.setCell ?_ (by first | (simp; done) | (simp; omega) | omega) _ | refine Below.alloc ?_ (by first | (simp; done) | (simp; omega) | omega) _)) b1
  have B1 := Lib.hid d1
  clear b1 d1
  go_wp2_with fail
  refine (CF.out _ (L0.out.keep (below_step B1.out (by repeat (first | exact Below.refl _ _ | refine below_drewN ?_ _ | refine Below.drew ?_ | refine Below.setCell ?_ (by first | (simp; done) | (simp; omega) | omega) _ | refine Below.alloc ?_ (by first | (simp; done) | (simp; omega) | omega) _)))).tab).mono ?_; rintro e w2 ⟨rfl, b2⟩
  have d2 : Below w1.heap.size w1 w2 := below_step (by repeat (first | exact Below.refl _ _ | refine below_drewN ?_ _ | refine Below.drew ?_ | refine Below.setCell ?_ (by first | (simp; done) | (simp; omega) | omega) _ | refine Below.alloc ?_ (by first | (simp; done) | (simp; omega) | omega) _)) b2
  have B2 := Lib.hid (below_step B1.out d2)
  clear b2 d2 B1
  go_wp2_with fail
  refine (CX.out _ (L0.out.keep (below_step B2.out (by repeat (first | exact Below.refl _ _ | refine below_drewN ?_ _ | refine Below.drew ?_ | refine Below.setCell ?_ (by first | (simp; done) | (simp; omega) | omega) _ | refine Below.alloc ?_ (by first | (simp; done) | (simp; omega) | omega) _)))).rng).mono ?_; rintro e w3 ⟨rfl, b3⟩
  have d3 : Below w2.heap.size w2 w3 := below_step (by repeat (first | exact Below.refl _ _ | refine below_drewN ?_ _ | refine Below.drew ?_ | refine Below.setCell ?_ (by first | (simp; done) | (simp; omega) | omega) _ | refine Below.alloc ?_ (by first | (simp; done) | (simp; omega) | omega) _)) b3
  have B3 := Lib.hid (below_step B2.out d3)
  clear b3 d3 B2
  go_wp2_with fail
  refine (CG.out _ (L0.out.keep (below_step B3.out (by repeat (first | exact Below.refl _ _ | refine below_drewN ?_ _ | refine Below.drew ?_ | refine Below.setCell ?_ (by first | (simp; done) | (simp; omega) | omega) _ | refine Below.alloc ?_ (by first | (simp; done) | (simp; omega) | omega) _)))).tab).mono ?_; rintro e w4 ⟨rfl, b4⟩
  have d4 : Below w3.heap.size w3 w4 := below_step (by repeat (first | exact Below.refl _ _ | refine below_drewN ?_ _ | refine Below.drew ?_ | refine Below.setCell ?_ (by first | (simp; done) | (simp; omega) | omega) _ | refine Below.alloc ?_ (by first | (simp; done) | (simp; omega) | omega) _)) b4
  have B4 := Lib.hid (below_step B3.out d4)
  clear b4 d4 B3
  go_wp2_with fail
  refine (CV.out _ (L0.out.keep (below_step B4.out (by repeat (first | exact Below.refl _ _ | refine below_drewN ?_ _ | refine Below.drew ?_ | refine Below.setCell ?_ (by first | (simp; done) | (simp; omega) | omega) _ | refine Below.alloc ?_ (by first | (simp; done) | (simp; omega) | omega) _)))).rng).mono ?_; rintro e w5 ⟨rfl, b5⟩
  have d5 : Below w4.heap.size w4 w5 := below_step (by repeat (first | exact Below.refl _ _ | refine below_drewN ?_ _ | refine Below.drew ?_ | refine Below.setCell ?_ (by first | (simp; done) | (simp; omega) | omega) _ | refine Below.alloc ?_ (by first | (simp; done) | (simp; omega) | omega) _)) b5
  have B5 := Lib.hid (below_step B4.out d5)
  clear b5 d5 B4
  go_wp2_with fail
  refine (CZ.out _ (L0.out.keep (below_step B5.out (by repeat (first | exact Below.refl _ _ | refine below_drewN ?_ _ | refine Below.drew ?_ | refine Below.setCell ?_ (by first | (simp; done) | (simp; omega) | omega) _ | refine Below.alloc ?_ (by first | (simp; done) | (simp; omega) | omega) _)))).rng).mono ?_; rintro e w6 ⟨rfl, b6⟩
  have d6 : Below w5.heap.size w5 w6 := below_step (by repeat (first | exact Below.refl _ _ | refine below_drewN ?_ _ | refine Below.drew ?_ | refine Below.setCell ?_ (by first | (simp; done) | (simp; omega) | omega) _ | refine Below.alloc ?_ (by first | (simp; done) | (simp; omega) | omega) _)) b6
  have B6 := Lib.hid (below_step B5.out d6)
  clear b6 d6 B5
  go_wp2_with fail
  go_ret
  exact ⟨rfl, (by have hz := B6.out.size; repeat (first | exact B6.out | refine below_drewN ?_ _ | refine Below.drew ?_ | refine Below.setCell ?_ (by first | omega | (simp; done) | (simp; omega)) _ | refine Below.alloc ?_ (by first | omega | (simp; done) | (simp; omega)) _))⟩
set_option maxHeartbeats 4000000 in
set_option maxRecDepth 100000 in
theorem yback_yyn (s T U : ByteArray) (f y x v z qa qx qb qv qc : Int) (w : World) (tp : TypeId) (p : Value) (L : Lv w w tp p) (hl : (s.size : Int) ≤ 500)
    (CF : Hid (∀ W, Lib.TabIs Tryd.prog W "internal/strconv.uint64pow10" .u64 Lib.pow10Tab → Calls Tryd.prog 18 #[.int .i64 f] W fun e w' => e = .returned (.tuple #[.string T, .int .i64 qa]) ∧ Below W.heap.size W w'))
    (CX : Hid (∀ W, W.var? Tryd.prog "strconv.ErrRange" = some #[.iface tp p] → Calls Tryd.prog 19 #[.string T] W fun e w' => e = .returned (.tuple #[.int .i64 x, .int .i64 qx]) ∧ Below W.heap.size W w'))
    (CG : Hid (∀ W, Lib.TabIs Tryd.prog W "internal/strconv.uint64pow10" .u64 Lib.pow10Tab → Calls Tryd.prog 20 #[.int .i64 f, .int .i64 y] W fun e w' => e = .returned (.tuple #[.string U, .int .i64 qb]) ∧ Below W.heap.size W w'))
    (CV : Hid (∀ W, W.var? Tryd.prog "strconv.ErrRange" = some #[.iface tp p] → Calls Tryd.prog 21 #[.string U, .int .i64 f] W fun e w' => e = .returned (.tuple #[.int .i64 v, .int .i64 qv]) ∧ Below W.heap.size W w'))
    (CZ : Hid (∀ W, W.var? Tryd.prog "strconv.ErrRange" = some #[.iface tp p] → Calls Tryd.prog 21 #[.string s, .int .i64 f] W fun e w' => e = .returned (.tuple #[.int .i64 z, .int .i64 qc]) ∧ Below W.heap.size W w'))
    (ab : qa = 0 → x = f ∧ qx = 0) (bb : qb = 0 → v = y ∧ qv = 0) (a : qa = 0) (b : qb = 0) (c : (qc == 0) = false) (cz : z = 0) :
    Calls Tryd.prog 4 #[.string s, .int .i64 f, .int .i64 y] w fun e w' => e = .returned (.bool true) ∧ Below w.heap.size w w' := by
  have LV := Lib.hid (lives17 w tp p L)
  have L0 := Lib.hid L; clear L
  obtain ⟨rfl, rfl⟩ := ab a; subst a
  obtain ⟨rfl, rfl⟩ := bb b; subst b
  subst cz; have c2 : (qc != 0) = true := (by unfold bne; rw [c]; rfl); have c3 : qc ≠ 0 := beq_eq_false_iff_ne.1 c
  go_enter Tryd.func4, Tryd.ntmps4
  go_wp2_with fail
  refine (LV.out).mono ?_; rintro e w1 ⟨rfl, b1⟩
  have d1 : Below w.heap.size w w1 := below_step (by repeat (first | exact Below.refl _ _ | refine below_drewN ?_ _ | refine Below.drew ?_ | refine Below.setCell ?_ (by first | (simp; done) | (simp; omega) | omega) _ | refine Below.alloc ?_ (by first | (simp; done) | (simp; omega) | omega) _)) b1
  have B1 := Lib.hid d1
  clear b1 d1
  go_wp2_with fail
  refine (CF.out _ (L0.out.keep (below_step B1.out (by repeat (first | exact Below.refl _ _ | refine below_drewN ?_ _ | refine Below.drew ?_ | refine Below.setCell ?_ (by first | (simp; done) | (simp; omega) | omega) _ | refine Below.alloc ?_ (by first | (simp; done) | (simp; omega) | omega) _)))).tab).mono ?_; rintro e w2 ⟨rfl, b2⟩
  have d2 : Below w1.heap.size w1 w2 := below_step (by repeat (first | exact Below.refl _ _ | refine below_drewN ?_ _ | refine Below.drew ?_ | refine Below.setCell ?_ (by first | (simp; done) | (simp; omega) | omega) _ | refine Below.alloc ?_ (by first | (simp; done) | (simp; omega) | omega) _)) b2
  have B2 := Lib.hid (below_step B1.out d2)
  clear b2 d2 B1
  go_wp2_with fail
  refine (CX.out _ (L0.out.keep (below_step B2.out (by repeat (first | exact Below.refl _ _ | refine below_drewN ?_ _ | refine Below.drew ?_ | refine Below.setCell ?_ (by first | (simp; done) | (simp; omega) | omega) _ | refine Below.alloc ?_ (by first | (simp; done) | (simp; omega) | omega) _)))).rng).mono ?_; rintro e w3 ⟨rfl, b3⟩
  have d3 : Below w2.heap.size w2 w3 := below_step (by repeat (first | exact Below.refl _ _ | refine below_drewN ?_ _ | refine Below.drew ?_ | refine Below.setCell ?_ (by first | (simp; done) | (simp; omega) | omega) _ | refine Below.alloc ?_ (by first | (simp; done) | (simp; omega) | omega) _)) b3
  have B3 := Lib.hid (below_step B2.out d3)
  clear b3 d3 B2
  go_wp2_with fail
  refine (CG.out _ (L0.out.keep (below_step B3.out (by repeat (first | exact Below.refl _ _ | refine below_drewN ?_ _ | refine Below.drew ?_ | refine Below.setCell ?_ (by first | (simp; done) | (simp; omega) | omega) _ | refine Below.alloc ?_ (by first | (simp; done) | (simp; omega) | omega) _)))).tab).mono ?_; rintro e w4 ⟨rfl, b4⟩
  have d4 : Below w3.heap.size w3 w4 := below_step (by repeat (first | exact Below.refl _ _ | refine below_drewN ?_ _ | refine Below.drew ?_ | refine Below.setCell ?_ (by first | (simp; done) | (simp; omega) | omega) _ | refine Below.alloc ?_ (by first | (simp; done) | (simp; omega) | omega) _)) b4
  have B4 := Lib.hid (below_step B3.out d4)
  clear b4 d4 B3
  go_wp2_with fail
  refine (CV.out _ (L0.out.keep (below_step B4.out (by repeat (first | exact Below.refl _ _ | refine below_drewN ?_ _ | refine Below.drew ?_ | refine Below.setCell ?_ (by first | (simp; done) | (simp; omega) | omega) _ | refine Below.alloc ?_ (by first | (simp; done) | (simp; omega) | omega) _)))).rng).mono ?_; rintro e w5 ⟨rfl, b5⟩
  have d5 : Below w4.heap.size w4 w5 := below_step (by repeat (first | exact Below.refl _ _ | refine below_drewN ?_ _ | refine Below.drew ?_ | refine Below.setCell ?_ (by first | (simp; done) | (simp; omega) | omega) _ | refine Below.alloc ?_ (by first | (simp; done) | (simp; omega) | omega) _)) b5
  have B5 := Lib.hid (below_step B4.out d5)
  clear b5 d5 B4
  go_wp2_with fail
  refine (CZ.out _ (L0.out.keep (below_step B5.out (by repeat (first | exact Below.refl _ _ | refine below_drewN ?_ _ | refine Below.drew ?_ | refine Below.setCell ?_ (by first | (simp; done) | (simp; omega) | omega) _ | refine Below.alloc ?_ (by first | (simp; done) | (simp; omega) | omega) _)))).rng).mono ?_; rintro e w6 ⟨rfl, b6⟩
  have d6 : Below w5.heap.size w5 w6 := below_step (by repeat (first | exact Below.refl _ _ | refine below_drewN ?_ _ | refine Below.drew ?_ | refine Below.setCell ?_ (by first | (simp; done) | (simp; omega) | omega) _ | refine Below.alloc ?_ (by first | (simp; done) | (simp; omega) | omega) _)) b6
  have B6 := Lib.hid (below_step B5.out d6)
  clear b6 d6 B5
  go_wp2_with fail
  go_ret
  exact ⟨rfl, (by have hz := B6.out.size; repeat (first | exact B6.out | refine below_drewN ?_ _ | refine Below.drew ?_ | refine Below.setCell ?_ (by first | omega | (simp; done) | (simp; omega)) _ | refine Below.alloc ?_ (by first | omega | (simp; done) | (simp; omega)) _))⟩
set_option maxHeartbeats 4000000 in
set_option maxRecDepth 100000 in
theorem yback_yny (s T U : ByteArray) (f y x v z qa qx qb qv qc : Int) (w : World) (tp : TypeId) (p : Value) (L : Lv w w tp p) (hl : (s.size : Int) ≤ 500)
    (CF : Hid (∀ W, Lib.TabIs Tryd.prog W "internal/strconv.uint64pow10" .u64 Lib.pow10Tab → Calls Tryd.prog 18 #[.int .i64 f] W fun e w' => e = .returned (.tuple #[.string T, .int .i64 qa]) ∧ Below W.heap.size W w'))
    (CX : Hid (∀ W, W.var? Tryd.prog "strconv.ErrRange" = some #[.iface tp p] → Calls Tryd.prog 19 #[.string T] W fun e w' => e = .returned (.tuple #[.int .i64 x, .int .i64 qx]) ∧ Below W.heap.size W w'))
    (CG : Hid (∀ W, Lib.TabIs Tryd.prog W "internal/strconv.uint64pow10" .u64 Lib.pow10Tab → Calls Tryd.prog 20 #[.int .i64 f, .int .i64 y] W fun e w' => e = .returned (.tuple #[.string U, .int .i64 qb]) ∧ Below W.heap.size W w'))
    (CV : Hid (∀ W, W.var? Tryd.prog "strconv.ErrRange" = some #[.iface tp p] → Calls Tryd.prog 21 #[.string U, .int .i64 f] W fun e w' => e = .returned (.tuple #[.int .i64 v, .int .i64 qv]) ∧ Below W.heap.size W w'))
    (CZ : Hid (∀ W, W.var? Tryd.prog "strconv.ErrRange" = some #[.iface tp p] → Calls Tryd.prog 21 #[.string s, .int .i64 f] W fun e w' => e = .returned (.tuple #[.int .i64 z, .int .i64 qc]) ∧ Below W.heap.size W w'))
    (ab : qa = 0 → x = f ∧ qx = 0) (bb : qb = 0 → v = y ∧ qv = 0) (a : qa = 0) (b : (qb == 0) = false) (c : qc = 0) (cz : f ≤ z) :
    Calls Tryd.prog 4 #[.string s, .int .i64 f, .int .i64 y] w fun e w' => e = .returned (.bool true) ∧ Below w.heap.size w w' := by
  have LV := Lib.hid (lives17 w tp p L)
  have L0 := Lib.hid L; clear L
  obtain ⟨rfl, rfl⟩ := ab a; subst a
  clear bb
  subst c
  go_enter Tryd.func4, Tryd.ntmps4
  go_wp2_with fail
  refine (LV.out).mono ?_; rintro e w1 ⟨rfl, b1⟩
  have d1 : Below w.heap.size w w1 := below_step (by repeat (first | exact Below.refl _ _ | refine below_drewN ?_ _ | refine Below.drew ?_ | refine Below.setCell ?_ (by first | (simp; done) | (simp; omega) | omega) _ | refine Below.alloc ?_ (by first | (simp; done) | (simp; omega) | omega) _)) b1
  have B1 := Lib.hid d1
  clear b1 d1
  go_wp2_with fail
  refine (CF.out _ (L0.out.keep (below_step B1.out (by repeat (first | exact Below.refl _ _ | refine below_drewN ?_ _ | refine Below.drew ?_ | refine Below.setCell ?_ (by first | (simp; done) | (simp; omega) | omega) _ | refine Below.alloc ?_ (by first | (simp; done) | (simp; omega) | omega) _)))).tab).mono ?_; rintro e w2 ⟨rfl, b2⟩
  have d2 : Below w1.heap.size w1 w2 := below_step (by repeat (first | exact Below.refl _ _ | refine below_drewN ?_ _ | refine Below.drew ?_ | refine Below.setCell ?_ (by first | (simp; done) | (simp; omega) | omega) _ | refine Below.alloc ?_ (by first | (simp; done) | (simp; omega) | omega) _)) b2
  have B2 := Lib.hid (below_step B1.out d2)
  clear b2 d2 B1
  go_wp2_with fail
  refine (CX.out _ (L0.out.keep (below_step B2.out (by repeat (first | exact Below.refl _ _ | refine below_drewN ?_ _ | refine Below.drew ?_ | refine Below.setCell ?_ (by first | (simp; done) | (simp; omega) | omega) _ | refine Below.alloc ?_ (by first | (simp; done) | (simp; omega) | omega) _)))).rng).mono ?_; rintro e w3 ⟨rfl, b3⟩
  have d3 : Below w2.heap.size w2 w3 := below_step (by repeat (first | exact Below.refl _ _ | refine below_drewN ?_ _ | refine Below.drew ?_ | refine Below.setCell ?_ (by first | (simp; done) | (simp; omega) | omega) _ | refine Below.alloc ?_ (by first | (simp; done) | (simp; omega) | omega) _)) b3
  have B3 := Lib.hid (below_step B2.out d3)
  clear b3 d3 B2
  go_wp2_with fail
  refine (CG.out _ (L0.out.keep (below_step B3.out (by repeat (first | exact Below.refl _ _ | refine below_drewN ?_ _ | refine Below.drew ?_ | refine Below.setCell ?_ (by first | (simp; done) | (simp; omega) | omega) _ | refine Below.alloc ?_ (by first | (simp; done) | (simp; omega) | omega) _)))).tab).mono ?_; rintro e w4 ⟨rfl, b4⟩
  have d4 : Below w3.heap.size w3 w4 := below_step (by repeat (first | exact Below.refl _ _ | refine below_drewN ?_ _ | refine Below.drew ?_ | refine Below.setCell ?_ (by first | (simp; done) | (simp; omega) | omega) _ | refine Below.alloc ?_ (by first | (simp; done) | (simp; omega) | omega) _)) b4
  have B4 := Lib.hid (below_step B3.out d4)
  clear b4 d4 B3
  go_wp2_with fail
  refine (CV.out _ (L0.out.keep (below_step B4.out (by repeat (first | exact Below.refl _ _ | refine below_drewN ?_ _ | refine Below.drew ?_ | refine Below.setCell ?_ (by first | (simp; done) | (simp; omega) | omega) _ | refine Below.alloc ?_ (by first | (simp; done) | (simp; omega) | omega) _)))).rng).mono ?_; rintro e w5 ⟨rfl, b5⟩
  have d5 : Below w4.heap.size w4 w5 := below_step (by repeat (first | exact Below.refl _ _ | refine below_drewN ?_ _ | refine Below.drew ?_ | refine Below.setCell ?_ (by first | (simp; done) | (simp; omega) | omega) _ | refine Below.alloc ?_ (by first | (simp; done) | (simp; omega) | omega) _)) b5
  have B5 := Lib.hid (below_step B4.out d5)
  clear b5 d5 B4
  go_wp2_with fail
  refine (CZ.out _ (L0.out.keep (below_step B5.out (by repeat (first | exact Below.refl _ _ | refine below_drewN ?_ _ | refine Below.drew ?_ | refine Below.setCell ?_ (by first | (simp; done) | (simp; omega) | omega) _ | refine Below.alloc ?_ (by first | (simp; done) | (simp; omega) | omega) _)))).rng).mono ?_; rintro e w6 ⟨rfl, b6⟩
  have d6 : Below w5.heap.size w5 w6 := below_step (by repeat (first | exact Below.refl _ _ | refine below_drewN ?_ _ | refine Below.drew ?_ | refine Below.setCell ?_ (by first | (simp; done) | (simp; omega) | omega) _ | refine Below.alloc ?_ (by first | (simp; done) | (simp; omega) | omega) _)) b6
  have B6 := Lib.hid (below_step B5.out d6)
  clear b6 d6 B5
  go_wp2_with fail
  go_ret
  exact ⟨rfl, (by have hz := B6.out.size; repeat (first | exact B6.out | refine below_drewN ?_ _ | refine Below.drew ?_ | refine Below.setCell ?_ (by first | omega | (simp; done) | (simp; omega)) _ | refine Below.alloc ?_ (by first | omega | (simp; done) | (simp; omega)) _))⟩
set_option maxHeartbeats 4000000 in
set_option maxRecDepth 100000 in
theorem yback_ynn (s T U : ByteArray) (f y x v z qa qx qb qv qc : Int) (w : World) (tp : TypeId) (p : Value) (L : Lv w w tp p) (hl : (s.size : Int) ≤ 500)
    (CF : Hid (∀ W, Lib.TabIs Tryd.prog W "internal/strconv.uint64pow10" .u64 Lib.pow10Tab → Calls Tryd.prog 18 #[.int .i64 f] W fun e w' => e = .returned (.tuple #[.string T, .int .i64 qa]) ∧ Below W.heap.size W w'))
    (CX : Hid (∀ W, W.var? Tryd.prog "strconv.ErrRange" = some #[.iface tp p] → Calls Tryd.prog 19 #[.string T] W fun e w' => e = .returned (.tuple #[.int .i64 x, .int .i64 qx]) ∧ Below W.heap.size W w'))
    (CG : Hid (∀ W, Lib.TabIs Tryd.prog W "internal/strconv.uint64pow10" .u64 Lib.pow10Tab → Calls Tryd.prog 20 #[.int .i64 f, .int .i64 y] W fun e w' => e = .returned (.tuple #[.string U, .int .i64 qb]) ∧ Below W.heap.size W w'))
    (CV : Hid (∀ W, W.var? Tryd.prog "strconv.ErrRange" = some #[.iface tp p] → Calls Tryd.prog 21 #[.string U, .int .i64 f] W fun e w' => e = .returned (.tuple #[.int .i64 v, .int .i64 qv]) ∧ Below W.heap.size W w'))
    (CZ : Hid (∀ W, W.var? Tryd.prog "strconv.ErrRange" = some #[.iface tp p] → Calls Tryd.prog 21 #[.string s, .int .i64 f] W fun e w' => e = .returned (.tuple #[.int .i64 z, .int .i64 qc]) ∧ Below W.heap.size W w'))
    (ab : qa = 0 → x = f ∧ qx = 0) (bb : qb = 0 → v = y ∧ qv = 0) (a : qa = 0) (b : (qb == 0) = false) (c : (qc == 0) = false) (cz : z = 0) :
    Calls Tryd.prog 4 #[.string s, .int .i64 f, .int .i64 y] w fun e w' => e = .returned (.bool true) ∧ Below w.heap.size w w' := by
  have LV := Lib.hid (lives17 w tp p L)
  have L0 := Lib.hid L; clear L
  obtain ⟨rfl, rfl⟩ := ab a; subst a
  clear bb
  subst cz; have c2 : (qc != 0) = true := (by unfold bne; rw [c]; rfl); have c3 : qc ≠ 0 := beq_eq_false_iff_ne.1 c
  go_enter Tryd.func4, Tryd.ntmps4
  go_wp2_with fail
  refine (LV.out).mono ?_; rintro e w1 ⟨rfl, b1⟩
  have d1 : Below w.heap.size w w1 := below_step (by repeat (first | exact Below.refl _ _ | refine below_drewN ?_ _ | refine Below.drew ?_ | refine Below.setCell ?_ (by first | (simp; done) | (simp; omega) | omega) _ | refine Below.alloc ?_ (by first | (simp; done) | (simp; omega) | omega) _)) b1
  have B1 := Lib.hid d1
  clear b1 d1
  go_wp2_with fail
  refine (CF.out _ (L0.out.keep (below_step B1.out (by repeat (first | exact Below.refl _ _ | refine below_drewN ?_ _ | refine Below.drew ?_ | refine Below.setCell ?_ (by first | (simp; done) | (simp; omega) | omega) _ | refine Below.alloc ?_ (by first | (simp; done) | (simp; omega) | omega) _)))).tab).mono ?_; rintro e w2 ⟨rfl, b2⟩
  have d2 : Below w1.heap.size w1 w2 := below_step (by repeat (first | exact Below.refl _ _ | refine below_drewN ?_ _ | refine Below.drew ?_ | refine Below.setCell ?_ (by first | (simp; done) | (simp; omega) | omega) _ | refine Below.alloc ?_ (by first | (simp; done) | (simp; omega) | omega) _)) b2
  have B2 := Lib.hid (below_step B1.out d2)
  clear b2 d2 B1
  go_wp2_with fail
  refine (CX.out _ (L0.out.keep (below_step B2.out (by repeat (first | exact Below.refl _ _ | refine below_drewN ?_ _ | refine Below.drew ?_ | refine Below.setCell ?_ (by first | (simp; done) | (simp; omega) | omega) _ | refine Below.alloc ?_ (by first | (simp; done) | (simp; omega) | omega) _)))).rng).mono ?_; rintro e w3 ⟨rfl, b3⟩
  have d3 : Below w2.heap.size w2 w3 := below_step (by repeat (first | exact Below.refl _ _ | refine below_drewN ?_ _ | refine Below.drew ?_ | refine Below.setCell ?_ (by first | (simp; done) | (simp; omega) | omega) _ | refine Below.alloc ?_ (by first | (simp; done) | (simp; omega) | omega) _)) b3
  have B3 := Lib.hid (below_step B2.out d3)
  clear b3 d3 B2
  go_wp2_with fail
  refine (CG.out _ (L0.out.keep (below_step B3.out (by repeat (first | exact Below.refl _ _ | refine below_drewN ?_ _ | refine Below.drew ?_ | refine Below.setCell ?_ (by first | (simp; done) | (simp; omega) | omega) _ | refine Below.alloc ?_ (by first | (simp; done) | (simp; omega) | omega) _)))).tab).mono ?_; rintro e w4 ⟨rfl, b4⟩
  have d4 : Below w3.heap.size w3 w4 := below_step (by repeat (first | exact Below.refl _ _ | refine below_drewN ?_ _ | refine Below.drew ?_ | refine Below.setCell ?_ (by first | (simp; done) | (simp; omega) | omega) _ | refine Below.alloc ?_ (by first | (simp; done) | (simp; omega) | omega) _)) b4
  have B4 := Lib.hid (below_step B3.out d4)
  clear b4 d4 B3
  go_wp2_with fail
  refine (CV.out _ (L0.out.keep (below_step B4.out (by repeat (first | exact Below.refl _ _ | refine below_drewN ?_ _ | refine Below.drew ?_ | refine Below.setCell ?_ (by first | (simp; done) | (simp; omega) | omega) _ | refine Below.alloc ?_ (by first | (simp; done) | (simp; omega) | omega) _)))).rng).mono ?_; rintro e w5 ⟨rfl, b5⟩
  have d5 : Below w4.heap.size w4 w5 := below_step (by repeat (first | exact Below.refl _ _ | refine below_drewN ?_ _ | refine Below.drew ?_ | refine Below.setCell ?_ (by first | (simp; done) | (simp; omega) | omega) _ | refine Below.alloc ?_ (by first | (simp; done) | (simp; omega) | omega) _)) b5
  have B5 := Lib.hid (below_step B4.out d5)
  clear b5 d5 B4
  go_wp2_with fail
  refine (CZ.out _ (L0.out.keep (below_step B5.out (by repeat (first | exact Below.refl _ _ | refine below_drewN ?_ _ | refine Below.drew ?_ | refine Below.setCell ?_ (by first | (simp; done) | (simp; omega) | omega) _ | refine Below.alloc ?_ (by first | (simp; done) | (simp; omega) | omega) _)))).rng).mono ?_; rintro e w6 ⟨rfl, b6⟩
  have d6 : Below w5.heap.size w5 w6 := below_step (by repeat (first | exact Below.refl _ _ | refine below_drewN ?_ _ | refine Below.drew ?_ | refine Below.setCell ?_ (by first | (simp; done) | (simp; omega) | omega) _ | refine Below.alloc ?_ (by first | (simp; done) | (simp; omega) | omega) _)) b6
  have B6 := Lib.hid (below_step B5.out d6)
  clear b6 d6 B5
  go_wp2_with fail
  go_ret
  exact ⟨rfl, (by have hz := B6.out.size; repeat (first | exact B6.out | refine below_drewN ?_ _ | refine Below.drew ?_ | refine Below.setCell ?_ (by first | omega | (simp; done) | (simp; omega)) _ | refine Below.alloc ?_ (by first | omega | (simp; done) | (simp; omega)) _))⟩
set_option maxHeartbeats 4000000 in
set_option maxRecDepth 100000 in
theorem yback_nyy (s T U : ByteArray) (f y x v z qa qx qb qv qc : Int) (w : World) (tp : TypeId) (p : Value) (L : Lv w w tp p) (hl : (s.size : Int) ≤ 500)
    (CF : Hid (∀ W, Lib.TabIs Tryd.prog W "internal/strconv.uint64pow10" .u64 Lib.pow10Tab → Calls Tryd.prog 18 #[.int .i64 f] W fun e w' => e = .returned (.tuple #[.string T, .int .i64 qa]) ∧ Below W.heap.size W w'))
    (CX : Hid (∀ W, W.var? Tryd.prog "strconv.ErrRange" = some #[.iface tp p] → Calls Tryd.prog 19 #[.string T] W fun e w' => e = .returned (.tuple #[.int .i64 x, .int .i64 qx]) ∧ Below W.heap.size W w'))
    (CG : Hid (∀ W, Lib.TabIs Tryd.prog W "internal/strconv.uint64pow10" .u64 Lib.pow10Tab → Calls Tryd.prog 20 #[.int .i64 f, .int .i64 y] W fun e w' => e = .returned (.tuple #[.string U, .int .i64 qb]) ∧ Below W.heap.size W w'))
    (CV : Hid (∀ W, W.var? Tryd.prog "strconv.ErrRange" = some #[.iface tp p] → Calls Tryd.prog 21 #[.string U, .int .i64 f] W fun e w' => e = .returned (.tuple #[.int .i64 v, .int .i64 qv]) ∧ Below W.heap.size W w'))
    (CZ : Hid (∀ W, W.var? Tryd.prog "strconv.ErrRange" = some #[.iface tp p] → Calls Tryd.prog 21 #[.string s, .int .i64 f] W fun e w' => e = .returned (.tuple #[.int .i64 z, .int .i64 qc]) ∧ Below W.heap.size W w'))
    (ab : qa = 0 → x = f ∧ qx = 0) (bb : qb = 0 → v = y ∧ qv = 0) (a : (qa == 0) = false) (b : qb = 0) (c : qc = 0) (cz : f ≤ z) :
    Calls Tryd.prog 4 #[.string s, .int .i64 f, .int .i64 y] w fun e w' => e = .returned (.bool true) ∧ Below w.heap.size w w' := by
  have LV := Lib.hid (lives17 w tp p L)
  have L0 := Lib.hid L; clear L
  clear ab
  obtain ⟨rfl, rfl⟩ := bb b; subst b
  subst c
  go_enter Tryd.func4, Tryd.ntmps4
  go_wp2_with fail
  refine (LV.out).mono ?_; rintro e w1 ⟨rfl, b1⟩
  have d1 : Below w.heap.size w w1 := below_step (by repeat (first | exact Below.refl _ _ | refine below_drewN ?_ _ | refine Below.drew ?_ | refine Below.setCell ?_ (by first | (simp; done) | (simp; omega) | omega) _ | refine Below.alloc ?_ (by first | (simp; done) | (simp; omega) | omega) _)) b1
  have B1 := Lib.hid d1
  clear b1 d1
  go_wp2_with fail
  refine (CF.out _ (L0.out.keep (below_step B1.out (by repeat (first | exact Below.refl _ _ | refine below_drewN ?_ _ | refine Below.drew ?_ | refine Below.setCell ?_ (by first | (simp; done) | (simp; omega) | omega) _ | refine Below.alloc ?_ (by first | (simp; done) | (simp; omega) | omega) _)))).tab).mono ?_; rintro e w2 ⟨rfl, b2⟩
  have d2 : Below w1.heap.size w1 w2 := below_step (by repeat (first | exact Below.refl _ _ | refine below_drewN ?_ _ | refine Below.drew ?_ | refine Below.setCell ?_ (by first | (simp; done) | (simp; omega) | omega) _ | refine Below.alloc ?_ (by first | (simp; done) | (simp; omega) | omega) _)) b2
  have B2 := Lib.hid (below_step B1.out d2)
  clear b2 d2 B1
  go_wp2_with fail
  refine (CX.out _ (L0.out.keep (below_step B2.out (by repeat (first | exact Below.refl _ _ | refine below_drewN ?_ _ | refine Below.drew ?_ | refine Below.setCell ?_ (by first | (simp; done) | (simp; omega) | omega) _ | refine Below.alloc ?_ (by first | (simp; done) | (simp; omega) | omega) _)))).rng).mono ?_; rintro e w3 ⟨rfl, b3⟩
  have d3 : Below w2.heap.size w2 w3 := below_step (by repeat (first | exact Below.refl _ _ | refine below_drewN ?_ _ | refine Below.drew ?_ | refine Below.setCell ?_ (by first | (simp; done) | (simp; omega) | omega) _ | refine Below.alloc ?_ (by first | (simp; done) | (simp; omega) | omega) _)) b3
  have B3 := Lib.hid (below_step B2.out d3)
  clear b3 d3 B2
  go_wp2_with fail
  refine (CG.out _ (L0.out.keep (below_step B3.out (by repeat (first | exact Below.refl _ _ | refine below_drewN ?_ _ | refine Below.drew ?_ | refine Below.setCell ?_ (by first | (simp; done) | (simp; omega) | omega) _ | refine Below.alloc ?_ (by first | (simp; done) | (simp; omega) | omega) _)))).tab).mono ?_; rintro e w4 ⟨rfl, b4⟩
  have d4 : Below w3.heap.size w3 w4 := below_step (by repeat (first | exact Below.refl _ _ | refine below_drewN ?_ _ | refine Below.drew ?_ | refine Below.setCell ?_ (by first | (simp; done) | (simp; omega) | omega) _ | refine Below.alloc ?_ (by first | (simp; done) | (simp; omega) | omega) _)) b4
  have B4 := Lib.hid (below_step B3.out d4)
  clear b4 d4 B3
  go_wp2_with fail
  refine (CV.out _ (L0.out.keep (below_step B4.out (by repeat (first | exact Below.refl _ _ | refine below_drewN ?_ _ | refine Below.drew ?_ | refine Below.setCell ?_ (by first | (simp; done) | (simp; omega) | omega) _ | refine Below.alloc ?_ (by first | (simp; done) | (simp; omega) | omega) _)))).rng).mono ?_; rintro e w5 ⟨rfl, b5⟩
  have d5 : Below w4.heap.size w4 w5 := below_step (by repeat (first | exact Below.refl _ _ | refine below_drewN ?_ _ | refine Below.drew ?_ | refine Below.setCell ?_ (by first | (simp; done) | (simp; omega) | omega) _ | refine Below.alloc ?_ (by first | (simp; done) | (simp; omega) | omega) _)) b5
  have B5 := Lib.hid (below_step B4.out d5)
  clear b5 d5 B4
  go_wp2_with fail
  refine (CZ.out _ (L0.out.keep (below_step B5.out (by repeat (first | exact Below.refl _ _ | refine below_drewN ?_ _ | refine Below.drew ?_ | refine Below.setCell ?_ (by first | (simp; done) | (simp; omega) | omega) _ | refine Below.alloc ?_ (by first | (simp; done) | (simp; omega) | omega) _)))).rng).mono ?_; rintro e w6 ⟨rfl, b6⟩
  have d6 : Below w5.heap.size w5 w6 := below_step (by repeat (first | exact Below.refl _ _ | refine below_drewN ?_ _ | refine Below.drew ?_ | refine Below.setCell ?_ (by first | (simp; done) | (simp; omega) | omega) _ | refine Below.alloc ?_ (by first | (simp; done) | (simp; omega) | omega) _)) b6
  have B6 := Lib.hid (below_step B5.out d6)
  clear b6 d6 B5
  go_wp2_with fail
  go_ret
  exact ⟨rfl, (by have hz := B6.out.size; repeat (first | exact B6.out | refine below_drewN ?_ _ | refine Below.drew ?_ | refine Below.setCell ?_ (by first | omega | (simp; done) | (simp; omega)) _ | refine Below.alloc ?_ (by first | omega | (simp; done) | (simp; omega)) _))⟩
set_option maxHeartbeats 4000000 in
set_option maxRecDepth 100000 in
theorem yback_nyn (s T U : ByteArray) (f y x v z qa qx qb qv qc : Int) (w : World) (tp : TypeId) (p : Value) (L : Lv w w tp p) (hl : (s.size : Int) ≤ 500)
    (CF : Hid (∀ W, Lib.TabIs Tryd.prog W "internal/strconv.uint64pow10" .u64 Lib.pow10Tab → Calls Tryd.prog 18 #[.int .i64 f] W fun e w' => e = .returned (.tuple #[.string T, .int .i64 qa]) ∧ Below W.heap.size W w'))
    (CX : Hid (∀ W, W.var? Tryd.prog "strconv.ErrRange" = some #[.iface tp p] → Calls Tryd.prog 19 #[.string T] W fun e w' => e = .returned (.tuple #[.int .i64 x, .int .i64 qx]) ∧ Below W.heap.size W w'))
    (CG : Hid (∀ W, Lib.TabIs Tryd.prog W "internal/strconv.uint64pow10" .u64 Lib.pow10Tab → Calls Tryd.prog 20 #[.int .i64 f, .int .i64 y] W fun e w' => e = .returned (.tuple #[.string U, .int .i64 qb]) ∧ Below W.heap.size W w'))
    (CV : Hid (∀ W, W.var? Tryd.prog "strconv.ErrRange" = some #[.iface tp p] → Calls Tryd.prog 21 #[.string U, .int .i64 f] W fun e w' => e = .returned (.tuple #[.int .i64 v, .int .i64 qv]) ∧ Below W.heap.size W w'))
    (CZ : Hid (∀ W, W.var? Tryd.prog "strconv.ErrRange" = some #[.iface tp p] → Calls Tryd.prog 21 #[.string s, .int .i64 f] W fun e w' => e = .returned (.tuple #[.int .i64 z, .int .i64 qc]) ∧ Below W.heap.size W w'))
    (ab : qa = 0 → x = f ∧ qx = 0) (bb : qb = 0 → v = y ∧ qv = 0) (a : (qa == 0) = false) (b : qb = 0) (c : (qc == 0) = false) (cz : z = 0) :
    Calls Tryd.prog 4 #[.string s, .int .i64 f, .int .i64 y] w fun e w' => e = .returned (.bool true) ∧ Below w.heap.size w w' := by
  have LV := Lib.hid (lives17 w tp p L)
  have L0 := Lib.hid L; clear L
  clear ab
  obtain ⟨rfl, rfl⟩ := bb b; subst b
  subst cz; have c2 : (qc != 0) = true := (by unfold bne; rw [c]; rfl); have c3 : qc ≠ 0 := beq_eq_false_iff_ne.1 c
  go_enter Tryd.func4, Tryd.ntmps4
  go_wp2_with fail
  refine (LV.out).mono ?_; rintro e w1 ⟨rfl, b1⟩
  have d1 : Below w.heap.size w w1 := below_step (by repeat (first | exact Below.refl _ _ | refine below_drewN ?_ _ | refine Below.drew ?_ | refine Below.setCell ?_ (by first | (simp; done) | (simp; omega) | omega) _ | refine Below.alloc ?_ (by first | (simp; done) | (simp; omega) | omega) _)) b1
  have B1 := Lib.hid d1
  clear b1 d1
  go_wp2_with fail
  refine (CF.out _ (L0.out.keep (below_step B1.out (by repeat (first | exact Below.refl _ _ | refine below_drewN ?_ _ | refine Below.drew ?_ | refine Below.setCell ?_ (by first | (simp; done) | (simp; omega) | omega) _ | refine Below.alloc ?_ (by first | (simp; done) | (simp; omega) | omega) _)))).tab).mono ?_; rintro e w2 ⟨rfl, b2⟩
  have d2 : Below w1.heap.size w1 w2 := below_step (by repeat (first | exact Below.refl _ _ | refine below_drewN ?_ _ | refine Below.drew ?_ | refine Below.setCell ?_ (by first | (simp; done) | (simp; omega) | omega) _ | refine Below.alloc ?_ (by first | (simp; done) | (simp; omega) | omega) _)) b2
  have B2 := Lib.hid (below_step B1.out d2)
  clear b2 d2 B1
  go_wp2_with fail
  refine (CX.out _ (L0.out.keep (below_step B2.out (by repeat (first | exact Below.refl _ _ | refine below_drewN ?_ _ | refine Below.drew ?_ | refine Below.setCell ?_ (by first | (simp; done) | (simp; omega) | omega) _ | refine Below.alloc ?_ (by first | (simp; done) | (simp; omega) | omega) _)))).rng).mono ?_; rintro e w3 ⟨rfl, b3⟩
  have d3 : Below w2.heap.size w2 w3 := below_step (by repeat (first | exact Below.refl _ _ | refine below_drewN ?_ _ | refine Below.drew ?_ | refine Below.setCell ?_ (by first | (simp; done) | (simp; omega) | omega) _ | refine Below.alloc ?_ (by first | (simp; done) | (simp; omega) | omega) _)) b3
  have B3 := Lib.hid (below_step B2.out d3)
  clear b3 d3 B2
  go_wp2_with fail
  refine (CG.out _ (L0.out.keep (below_step B3.out (by repeat (first | exact Below.refl _ _ | refine below_drewN ?_ _ | refine Below.drew ?_ | refine Below.setCell ?_ (by first | (simp; done) | (simp; omega) | omega) _ | refine Below.alloc ?_ (by first | (simp; done) | (simp; omega) | omega) _)))).tab).mono ?_; rintro e w4 ⟨rfl, b4⟩
  have d4 : Below w3.heap.size w3 w4 := below_step (by repeat (first | exact Below.refl _ _ | refine below_drewN ?_ _ | refine Below.drew ?_ | refine Below.setCell ?_ (by first | (simp; done) | (simp; omega) | omega) _ | refine Below.alloc ?_ (by first | (simp; done) | (simp; omega) | omega) _)) b4
  have B4 := Lib.hid (below_step B3.out d4)
  clear b4 d4 B3
  go_wp2_with fail
  refine (CV.out _ (L0.out.keep (below_step B4.out (by repeat (first | exact Below.refl _ _ | refine below_drewN ?_ _ | refine Below.drew ?_ | refine Below.setCell ?_ (by first | (simp; done) | (simp; omega) | omega) _ | refine Below.alloc ?_ (by first | (simp; done) | (simp; omega) | omega) _)))).rng).mono ?_; rintro e w5 ⟨rfl, b5⟩
  have d5 : Below w4.heap.size w4 w5 := below_step (by repeat (first | exact Below.refl _ _ | refine below_drewN ?_ _ | refine Below.drew ?_ | refine Below.setCell ?_ (by first | (simp; done) | (simp; omega) | omega) _ | refine Below.alloc ?_ (by first | (simp; done) | (simp; omega) | omega) _)) b5
  have B5 := Lib.hid (below_step B4.out d5)
  clear b5 d5 B4
  go_wp2_with fail
  refine (CZ.out _ (L0.out.keep (below_step B5.out (by repeat (first | exact Below.refl _ _ | refine below_drewN ?_ _ | refine Below.drew ?_ | refine Below.setCell ?_ (by first | (simp; done) | (simp; omega) | omega) _ | refine Below.alloc ?_ (by first | (simp; done) | (simp; omega) | omega) _)))).rng).mono ?_; rintro e w6 ⟨rfl, b6⟩
  have d6 : Below w5.heap.size w5 w6 := below_step (by repeat (first | exact Below.refl _ _ | refine below_drewN ?_ _ | refine Below.drew ?_ | refine Below.setCell ?_ (by first | (simp; done) | (simp; omega) | omega) _ | refine Below.alloc ?_ (by first | (simp; done) | (simp; omega) | omega) _)) b6
  have B6 := Lib.hid (below_step B5.out d6)
  clear b6 d6 B5
  go_wp2_with fail
  go_ret
  exact ⟨rfl, (by have hz := B6.out.size; repeat (first | exact B6.out | refine below_drewN ?_ _ | refine Below.drew ?_ | refine Below.setCell ?_ (by first | omega | (simp; done) | (simp; omega)) _ | refine Below.alloc ?_ (by first | omega | (simp; done) | (simp; omega)) _))⟩
set_option maxHeartbeats 4000000 in
set_option maxRecDepth 100000 in
theorem yback_nny (s T U : ByteArray) (f y x v z qa qx qb qv qc : Int) (w : World) (tp : TypeId) (p : Value) (L : Lv w w tp p) (hl : (s.size : Int) ≤ 500)
    (CF : Hid (∀ W, Lib.TabIs Tryd.prog W "internal/strconv.uint64pow10" .u64 Lib.pow10Tab → Calls Tryd.prog 18 #[.int .i64 f] W fun e w' => e = .returned (.tuple #[.string T, .int .i64 qa]) ∧ Below W.heap.size W w'))
    (CX : Hid (∀ W, W.var? Tryd.prog "strconv.ErrRange" = some #[.iface tp p] → Calls Tryd.prog 19 #[.string T] W fun e w' => e = .returned (.tuple #[.int .i64 x, .int .i64 qx]) ∧ Below W.heap.size W w'))
    (CG : Hid (∀ W, Lib.TabIs Tryd.prog W "internal/strconv.uint64pow10" .u64 Lib.pow10Tab → Calls Tryd.prog 20 #[.int .i64 f, .int .i64 y] W fun e w' => e = .returned (.tuple #[.string U, .int .i64 qb]) ∧ Below W.heap.size W w'))
    (CV : Hid (∀ W, W.var? Tryd.prog "strconv.ErrRange" = some #[.iface tp p] → Calls Tryd.prog 21 #[.string U, .int .i64 f] W fun e w' => e = .returned (.tuple #[.int .i64 v, .int .i64 qv]) ∧ Below W.heap.size W w'))
    (CZ : Hid (∀ W, W.var? Tryd.prog "strconv.ErrRange" = some #[.iface tp p] → Calls Tryd.prog 21 #[.string s, .int .i64 f] W fun e w' => e = .returned (.tuple #[.int .i64 z, .int .i64 qc]) ∧ Below W.heap.size W w'))
    (ab : qa = 0 → x = f ∧ qx = 0) (bb : qb = 0 → v = y ∧ qv = 0) (a : (qa == 0) = false) (b : (qb == 0) = false) (c : qc = 0) (cz : f ≤ z) :
    Calls Tryd.prog 4 #[.string s, .int .i64 f, .int .i64 y] w fun e w' => e = .returned (.bool true) ∧ Below w.heap.size w w' := by
  have LV := Lib.hid (lives17 w tp p L)
  have L0 := Lib.hid L; clear L
  clear ab
  clear bb
  subst c
  go_enter Tryd.func4, Tryd.ntmps4
  go_wp2_with fail
  refine (LV.out).mono ?_; rintro e w1 ⟨rfl, b1⟩
  have d1 : Below w.heap.size w w1 := below_step (by repeat (first | exact Below.refl _ _ | refine below_drewN ?_ _ | refine Below.drew ?_ | refine Below.setCell ?_ (by first | (simp; done) | (simp; omega) | omega) _ | refine Below.alloc ?_ (by first | (simp; done) | (simp; omega) | omega) _)) b1
  have B1 := Lib.hid d1
  clear b1 d1
  go_wp2_with fail
  refine (CF.out _ (L0.out.keep (below_step B1.out (by repeat (first | exact Below.refl _ _ | refine below_drewN ?_ _ | refine Below.drew ?_ | refine Below.setCell ?_ (by first | (simp; done) | (simp; omega) | omega) _ | refine Below.alloc ?_ (by first | (simp; done) | (simp; omega) | omega) _)))).tab).mono ?_; rintro e w2 ⟨rfl, b2⟩
  have d2 : Below w1.heap.size w1 w2 := below_step (by repeat (first | exact Below.refl _ _ | refine below_drewN ?_ _ | refine Below.drew ?_ | refine Below.setCell ?_ (by first | (simp; done) | (simp; omega) | omega) _ | refine Below.alloc ?_ (by first | (simp; done) | (simp; omega) | omega) _)) b2
  have B2 := Lib.hid (below_step B1.out d2)
  clear b2 d2 B1
  go_wp2_with fail
  refine (CX.out _ (L0.out.keep (below_step B2.out (by repeat (first | exact Below.refl _ _ | refine below_drewN ?_ _ | refine Below.drew ?_ | refine Below.setCell ?_ (by first | (simp; done) | (simp; omega) | omega) _ | refine Below.alloc ?_ (by first | (simp; done) | (simp; omega) | omega) _)))).rng).mono ?_; rintro e w3 ⟨rfl, b3⟩
  have d3 : Below w2.heap.size w2 w3 := below_step (by repeat (first | exact Below.refl _ _ | refine below_drewN ?_ _ | refine Below.drew ?_ | refine Below.setCell ?_ (by first | (simp; done) | (simp; omega) | omega) _ | refine Below.alloc ?_ (by first | (simp; done) | (simp; omega) | omega) _)) b3
  have B3 := Lib.hid (below_step B2.out d3)
  clear b3 d3 B2
  go_wp2_with fail
  refine (CG.out _ (L0.out.keep (below_step B3.out (by repeat (first | exact Below.refl _ _ | refine below_drewN ?_ _ | refine Below.drew ?_ | refine Below.setCell ?_ (by first | (simp; done) | (simp; omega) | omega) _ | refine Below.alloc ?_ (by first | (simp; done) | (simp; omega) | omega) _)))).tab).mono ?_; rintro e w4 ⟨rfl, b4⟩
  have d4 : Below w3.heap.size w3 w4 := below_step (by repeat (first | exact Below.refl _ _ | refine below_drewN ?_ _ | refine Below.drew ?_ | refine Below.setCell ?_ (by first | (simp; done) | (simp; omega) | omega) _ | refine Below.alloc ?_ (by first | (simp; done) | (simp; omega) | omega) _)) b4
  have B4 := Lib.hid (below_step B3.out d4)
  clear b4 d4 B3
  go_wp2_with fail
  refine (CV.out _ (L0.out.keep (below_step B4.out (by repeat (first | exact Below.refl _ _ | refine below_drewN ?_ _ | refine Below.drew ?_ | refine Below.setCell ?_ (by first | (simp; done) | (simp; omega) | omega) _ | refine Below.alloc ?_ (by first | (simp; done) | (simp; omega) | omega) _)))).rng).mono ?_; rintro e w5 ⟨rfl, b5⟩
  have d5 : Below w4.heap.size w4 w5 := below_step (by repeat (first | exact Below.refl _ _ | refine below_drewN ?_ _ | refine Below.drew ?_ | refine Below.setCell ?_ (by first | (simp; done) | (simp; omega) | omega) _ | refine Below.alloc ?_ (by first | (simp; done) | (simp; omega) | omega) _)) b5
  have B5 := Lib.hid (below_step B4.out d5)
  clear b5 d5 B4
  go_wp2_with fail
  refine (CZ.out _ (L0.out.keep (below_step B5.out (by repeat (first | exact Below.refl _ _ | refine below_drewN ?_ _ | refine Below.drew ?_ | refine Below.setCell ?_ (by first | (simp; done) | (simp; omega) | omega) _ | refine Below.alloc ?_ (by first | (simp; done) | (simp; omega) | omega) _)))).rng).mono ?_; rintro e w6 ⟨rfl, b6⟩
  have d6 : Below w5.heap.size w5 w6 := below_step (by repeat (first | exact Below.refl _ _ | refine below_drewN ?_ _ | refine Below.drew ?_ | refine Below.setCell ?_ (by first | (simp; done) | (simp; omega) | omega) _ | refine Below.alloc ?_ (by first | (simp; done) | (simp; omega) | omega) _)) b6
  have B6 := Lib.hid (below_step B5.out d6)
  clear b6 d6 B5
  go_wp2_with fail
  go_ret
  exact ⟨rfl, (by have hz := B6.out.size; repeat (first | exact B6.out | refine below_drewN ?_ _ | refine Below.drew ?_ | refine Below.setCell ?_ (by first | omega | (simp; done) | (simp; omega)) _ | refine Below.alloc ?_ (by first | omega | (simp; done) | (simp; omega)) _))⟩
set_option maxHeartbeats 4000000 in
set_option maxRecDepth 100000 in
theorem yback_nnn (s T U : ByteArray) (f y x v z qa qx qb qv qc : Int) (w : World) (tp : TypeId) (p : Value) (L : Lv w w tp p) (hl : (s.size : Int) ≤ 500)
    (CF : Hid (∀ W, Lib.TabIs Tryd.prog W "internal/strconv.uint64pow10" .u64 Lib.pow10Tab → Calls Tryd.prog 18 #[.int .i64 f] W fun e w' => e = .returned (.tuple #[.string T, .int .i64 qa]) ∧ Below W.heap.size W w'))
    (CX : Hid (∀ W, W.var? Tryd.prog "strconv.ErrRange" = some #[.iface tp p] → Calls Tryd.prog 19 #[.string T] W fun e w' => e = .returned (.tuple #[.int .i64 x, .int .i64 qx]) ∧ Below W.heap.size W w'))
    (CG : Hid (∀ W, Lib.TabIs Tryd.prog W "internal/strconv.uint64pow10" .u64 Lib.pow10Tab → Calls Tryd.prog 20 #[.int .i64 f, .int .i64 y] W fun e w' => e = .returned (.tuple #[.string U, .int .i64 qb]) ∧ Below W.heap.size W w'))
    (CV : Hid (∀ W, W.var? Tryd.prog "strconv.ErrRange" = some #[.iface tp p] → Calls Tryd.prog 21 #[.string U, .int .i64 f] W fun e w' => e = .returned (.tuple #[.int .i64 v, .int .i64 qv]) ∧ Below W.heap.size W w'))
    (CZ : Hid (∀ W, W.var? Tryd.prog "strconv.ErrRange" = some #[.iface tp p] → Calls Tryd.prog 21 #[.string s, .int .i64 f] W fun e w' => e = .returned (.tuple #[.int .i64 z, .int .i64 qc]) ∧ Below W.heap.size W w'))
    (ab : qa = 0 → x = f ∧ qx = 0) (bb : qb = 0 → v = y ∧ qv = 0) (a : (qa == 0) = false) (b : (qb == 0) = false) (c : (qc == 0) = false) (cz : z = 0) :
    Calls Tryd.prog 4 #[.string s, .int .i64 f, .int .i64 y] w fun e w' => e = .returned (.bool true) ∧ Below w.heap.size w w' := by
  have LV := Lib.hid (lives17 w tp p L)
  have L0 := Lib.hid L; clear L
  clear ab
  clear bb
  subst cz; have c2 : (qc != 0) = true := (by unfold bne; rw [c]; rfl); have c3 : qc ≠ 0 := beq_eq_false_iff_ne.1 c
  go_enter Tryd.func4, Tryd.ntmps4
  go_wp2_with fail
  refine (LV.out).mono ?_; rintro e w1 ⟨rfl, b1⟩
  have d1 : Below w.heap.size w w1 := below_step (by repeat (first | exact Below.refl _ _ | refine below_drewN ?_ _ | refine Below.drew ?_ | refine Below.setCell ?_ (by first | (simp; done) | (simp; omega) | omega) _ | refine Below.alloc ?_ (by first | (simp; done) | (simp; omega) | omega) _)) b1
  have B1 := Lib.hid d1
  clear b1 d1
  go_wp2_with fail
  refine (CF.out _ (L0.out.keep (below_step B1.out (by repeat (first | exact Below.refl _ _ | refine below_drewN ?_ _ | refine Below.drew ?_ | refine Below.setCell ?_ (by first | (simp; done) | (simp; omega) | omega) _ | refine Below.alloc ?_ (by first | (simp; done) | (simp; omega) | omega) _)))).tab).mono ?_; rintro e w2 ⟨rfl, b2⟩
  have d2 : Below w1.heap.size w1 w2 := below_step (by repeat (first | exact Below.refl _ _ | refine below_drewN ?_ _ | refine Below.drew ?_ | refine Below.setCell ?_ (by first | (simp; done) | (simp; omega) | omega) _ | refine Below.alloc ?_ (by first | (simp; done) | (simp; omega) | omega) _)) b2
  have B2 := Lib.hid (below_step B1.out d2)
  clear b2 d2 B1
  go_wp2_with fail
  refine (CX.out _ (L0.out.keep (below_step B2.out (by repeat (first | exact Below.refl _ _ | refine below_drewN ?_ _ | refine Below.drew ?_ | refine Below.setCell ?_ (by first | (simp; done) | (simp; omega) | omega) _ | refine Below.alloc ?_ (by first | (simp; done) | (simp; omega) | omega) _)))).rng).mono ?_; rintro e w3 ⟨rfl, b3⟩
  have d3 : Below w2.heap.size w2 w3 := below_step (by repeat (first | exact Below.refl _ _ | refine below_drewN ?_ _ | refine Below.drew ?_ | refine Below.setCell ?_ (by first | (simp; done) | (simp; omega) | omega) _ | refine Below.alloc ?_ (by first | (simp; done) | (simp; omega) | omega) _)) b3
  have B3 := Lib.hid (below_step B2.out d3)
  clear b3 d3 B2
  go_wp2_with fail
  refine (CG.out _ (L0.out.keep (below_step B3.out (by repeat (first | exact Below.refl _ _ | refine below_drewN ?_ _ | refine Below.drew ?_ | refine Below.setCell ?_ (by first | (simp; done) | (simp; omega) | omega) _ | refine Below.alloc ?_ (by first | (simp; done) | (simp; omega) | omega) _)))).tab).mono ?_; rintro e w4 ⟨rfl, b4⟩
  have d4 : Below w3.heap.size w3 w4 := below_step (by repeat (first | exact Below.refl _ _ | refine below_drewN ?_ _ | refine Below.drew ?_ | refine Below.setCell ?_ (by first | (simp; done) | (simp; omega) | omega) _ | refine Below.alloc ?_ (by first | (simp; done) | (simp; omega) | omega) _)) b4
  have B4 := Lib.hid (below_step B3.out d4)
  clear b4 d4 B3
  go_wp2_with fail
  refine (CV.out _ (L0.out.keep (below_step B4.out (by repeat (first | exact Below.refl _ _ | refine below_drewN ?_ _ | refine Below.drew ?_ | refine Below.setCell ?_ (by first | (simp; done) | (simp; omega) | omega) _ | refine Below.alloc ?_ (by first | (simp; done) | (simp; omega) | omega) _)))).rng).mono ?_; rintro e w5 ⟨rfl, b5⟩
  have d5 : Below w4.heap.size w4 w5 := below_step (by repeat (first | exact Below.refl _ _ | refine below_drewN ?_ _ | refine Below.drew ?_ | refine Below.setCell ?_ (by first | (simp; done) | (simp; omega) | omega) _ | refine Below.alloc ?_ (by first | (simp; done) | (simp; omega) | omega) _)) b5
  have B5 := Lib.hid (below_step B4.out d5)
  clear b5 d5 B4
  go_wp2_with fail
  refine (CZ.out _ (L0.out.keep (below_step B5.out (by repeat (first | exact Below.refl _ _ | refine below_drewN ?_ _ | refine Below.drew ?_ | refine Below.setCell ?_ (by first | (simp; done) | (simp; omega) | omega) _ | refine Below.alloc ?_ (by first | (simp; done) | (simp; omega) | omega) _)))).rng).mono ?_; rintro e w6 ⟨rfl, b6⟩
  have d6 : Below w5.heap.size w5 w6 := below_step (by repeat (first | exact Below.refl _ _ | refine below_drewN ?_ _ | refine Below.drew ?_ | refine Below.setCell ?_ (by first | (simp; done) | (simp; omega) | omega) _ | refine Below.alloc ?_ (by first | (simp; done) | (simp; omega) | omega) _)) b6
  have B6 := Lib.hid (below_step B5.out d6)
  clear b6 d6 B5
  go_wp2_with fail
  go_ret
  exact ⟨rfl, (by have hz := B6.out.size; repeat (first | exact B6.out | refine below_drewN ?_ _ | refine Below.drew ?_ | refine Below.setCell ?_ (by first | omega | (simp; done) | (simp; omega)) _ | refine Below.alloc ?_ (by first | omega | (simp; done) | (simp; omega)) _))⟩
theorem yback_walk (s : ByteArray) (f y : Int) (w : World) (tp : TypeId) (p : Value) (L : Lv w w tp p) (hs : s.size ≤ maxLen) (f0 : -9223372036854775808 ≤ f) (f1 : f ≤ 9223372036854775807) (y0 : -9223372036854775808 ≤ y) (y1 : y ≤ 9223372036854775807) :
    Calls Tryd.prog 4 #[.string s, .int .i64 f, .int .i64 y] w fun e w' => e = .returned (.bool true) ∧ Below w.heap.size w w' := by
  by_cases hl : s.size ≤ 500
  · have CF := Lib.hid (fun W h => yft_any f W f0 f1 h)
    have CX := Lib.hid (fun W h => yfrom_any (Yr.ft f).1 W (Yr.ft_size f) tp p h)
    have CG := Lib.hid (fun W h => ytt_any f y W y0 y1 h)
    have CV := Lib.hid (fun W h => yto_any (Yr.tt f y).1 f W (Yr.tt_size f y) tp p h)
    have CZ := Lib.hid (fun W h => yto_any s f W (by omega) tp p h)
    have ab : (Yr.ft f).2 = 0 → (Yr.fr (Yr.ft f).1.data.toList).1 = f ∧ (Yr.fr (Yr.ft f).1.data.toList).2 = 0 := fun h => by rw [Yr.ft_back h]; exact ⟨rfl, rfl⟩
    have bb : (Yr.tt f y).2 = 0 → (Yr.to (Yr.tt f y).1.data.toList f).1 = y ∧ (Yr.to (Yr.tt f y).1.data.toList f).2 = 0 := fun h => by rw [Yr.tt_back h]; exact ⟨rfl, rfl⟩
    have c1 := @Yr.to_ge s.data.toList f
    have c2 := @Yr.to_zero s.data.toList f
    have hl' : (s.size : Int) ≤ 500 := by omega
    by_cases a : (Yr.ft f).2 = 0
    · by_cases b : (Yr.tt f y).2 = 0
      · by_cases c : (Yr.to s.data.toList f).2 = 0
        · exact yback_yyy s _ _ f y _ _ _ _ _ _ _ _ w tp p L hl' CF CX CG CV CZ ab bb a b c (c1 c)
        · exact yback_yyn s _ _ f y _ _ _ _ _ _ _ _ w tp p L hl' CF CX CG CV CZ ab bb a b (beq_eq_false_iff_ne.2 c) (c2 c)
      · by_cases c : (Yr.to s.data.toList f).2 = 0
        · exact yback_yny s _ _ f y _ _ _ _ _ _ _ _ w tp p L hl' CF CX CG CV CZ ab bb a (beq_eq_false_iff_ne.2 b) c (c1 c)
        · exact yback_ynn s _ _ f y _ _ _ _ _ _ _ _ w tp p L hl' CF CX CG CV CZ ab bb a (beq_eq_false_iff_ne.2 b) (beq_eq_false_iff_ne.2 c) (c2 c)
    · by_cases b : (Yr.tt f y).2 = 0
      · by_cases c : (Yr.to s.data.toList f).2 = 0
        · exact yback_nyy s _ _ f y _ _ _ _ _ _ _ _ w tp p L hl' CF CX CG CV CZ ab bb (beq_eq_false_iff_ne.2 a) b c (c1 c)
        · exact yback_nyn s _ _ f y _ _ _ _ _ _ _ _ w tp p L hl' CF CX CG CV CZ ab bb (beq_eq_false_iff_ne.2 a) b (beq_eq_false_iff_ne.2 c) (c2 c)
      · by_cases c : (Yr.to s.data.toList f).2 = 0
        · exact yback_nny s _ _ f y _ _ _ _ _ _ _ _ w tp p L hl' CF CX CG CV CZ ab bb (beq_eq_false_iff_ne.2 a) (beq_eq_false_iff_ne.2 b) c (c1 c)
        · exact yback_nnn s _ _ f y _ _ _ _ _ _ _ _ w tp p L hl' CF CX CG CV CZ ab bb (beq_eq_false_iff_ne.2 a) (beq_eq_false_iff_ne.2 b) (beq_eq_false_iff_ne.2 c) (c2 c)
  · exact yback_long s f y w tp p L (by omega)
end Go.Proofs.YtafnnnbefabofaaDoor

