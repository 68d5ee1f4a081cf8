/- Joined: RuA, Shelf, NumM, NumA. -/
import Derived.Test.YtjggjkeopbcmoaaGreatDoorBt01
import Derived.Test.YtjggjkeopbcmoaaGreatDoorBt02
import Derived.Shelf.Strconv.Itoa4
import Derived.Shelf.Small.Wraps
import Derived.Lib.AppendIntMem
import Derived.Lib.AtoiErrMem
import Derived.Test.YtjggjkeopbcmoaaGreatDoorProg
import Derived.Test.YtjggjkeopbcmoaaGreatDoorLaid
import Derived.Lib.ItoaNum
import Derived.Lib.ParseIntB
import Derived.Lib.Strings
set_option linter.unusedVariables false
set_option linter.unusedSimpArgs false
namespace Go.Proofs.YtjggjkeopbcmoaaGreatDoor
open Go.RowKit Go.Sort
namespace Ru
def rB (s t : ByteArray) (fy ty m k wk d sec base save : Int) : Bool := Lk.nm s.data.toList == 0 && (decide (-32767 ≤ fy) && (decide (fy ≤ ty) && (decide (ty ≤ 32767) && (Dr.onF k wk d m && (Cl.rB sec base && (decide (-10800 ≤ save) && (decide (save ≤ 10800) && (Fo.ltx t.data.toList).2 == 0)))))))
end Ru
theorem issaved_any (n : Int) (w : World) : Calls Tryz.prog 49 #[.int .i64 n] w fun e w' => e = .returned (.bool (decide (-10800 ≤ n) && decide (n ≤ 10800))) ∧ w = w' := by
 by_cases c1 : -10800 ≤ n
 ·
  by_cases c2 : n ≤ 10800
  ·
   rw [decide_eq_true c1, decide_eq_true c2]
   go_enter Tryz.func49, Tryz.ntmps49
   go_wp2
   go_ret
   exact ⟨rfl, rfl⟩
  ·
   have g : decide (n ≤ 10800) = false := decide_eq_false c2
   rw [decide_eq_true c1, g]
   go_enter Tryz.func49, Tryz.ntmps49
   go_wp2
   go_ret
   exact ⟨rfl, rfl⟩
 ·
  have g : decide (-10800 ≤ n) = false := decide_eq_false c1
  rw [g]
  go_enter Tryz.func49, Tryz.ntmps49
  go_wp2
  go_ret
  exact ⟨rfl, rfl⟩
set_option maxHeartbeats 4000000 in
set_option maxRecDepth 100000 in
theorem ruright_any (s t : ByteArray) (fy ty m k wk d sec base save : Int) (w : World) (hs : s.size ≤ maxLen) (ht : t.size ≤ 9223372036854775807) :
  Calls Tryz.prog 16 #[.agg #[.string s, .int .i64 fy, .int .i64 ty, .int .i64 m, .int .i64 k, .int .i64 wk, .int .i64 d, .int .i64 sec, .int .i64 base, .int .i64 save, .string t]] w fun e w' => e = .returned (.bool (Ru.rB s t fy ty m k wk d sec base save)) ∧ Below w.heap.size w w' := by
 have NM := Lib.hid (fun W => rname_any s W hs)
 have LT := Lib.hid (fun W => lettertext_any t W ht)
 have OF := Lib.hid (fun W => ofits_any k wk d m W)
 have CR := Lib.hid (fun W => clright_any sec base W)
 clear hs ht
 unfold Ru.rB
 generalize Lk.nm s.data.toList = q0 at *
 generalize (⟨(Fo.ltx t.data.toList).1.toArray⟩ : ByteArray) = T at *
 generalize (Fo.ltx t.data.toList).2 = q7 at *
 generalize Dr.onF k wk d m = o at *
 generalize Cl.rB sec base = c at *
 obtain ⟨r, hr⟩ : ∃ r, r = (q0 == 0 && (decide (-32767 ≤ fy) && (decide (fy ≤ ty) && (decide (ty ≤ 32767) && (o && (c && (decide (-10800 ≤ save) && (decide (save ≤ 10800) && q7 == 0)))))))) := ⟨_, rfl⟩
 rw [← hr]
 by_cases h0 : q0 = 0
 ·
  have g0 : (q0 == 0) = true := by rw [beq_iff_eq]; exact h0
  by_cases h1 : -32767 ≤ fy
  ·
   have g1 : decide (-32767 ≤ fy) = true := decide_eq_true h1
   by_cases h2 : fy ≤ ty
   ·
    have g2 : decide (fy ≤ ty) = true := decide_eq_true h2
    by_cases h3 : ty ≤ 32767
    ·
     have g3 : decide (ty ≤ 32767) = true := decide_eq_true h3
     cases o
     ·
      skip
      have e : r = false := by rw [hr]; simp [h0, h1, h2, h3]
      rw [e]; clear e hr
      go_enter Tryz.func16, Tryz.ntmps16
      go_wp2_with fail
      refine (LT.out _).mono ?_; rintro e v1 ⟨rfl, rfl⟩
      go_wp2_with fail
      refine (NM.out _).mono ?_; rintro e v2 ⟨rfl, rfl⟩
      go_wp2_with fail
      refine (OF.out _).mono ?_; rintro e w1 ⟨rfl, b1⟩
      have d1 : Below w.heap.size w w1 := below_step gr0 b1
      have B1 := Lib.hid d1
      have X1 : Bk11 w1 (w.heap.size) (.string s) (.int .i64 fy) (.int .i64 ty) (.int .i64 m) (.int .i64 k) (.int .i64 wk) (.int .i64 d) (.int .i64 sec) (.int .i64 base) (.int .i64 save) (.string t) := by refine Bk11.of b1 (by simp <;> omega) (by intro j; simp [go_sem]) ?_ ?_ ?_ ?_ ?_ ?_ ?_ ?_ ?_ ?_ ?_ <;> simp [go_sem]
      clear b1 d1
      have tx := X1; obtain ⟨cX_b, cX_f, cX_0, cX_1, cX_2, cX_3, cX_4, cX_5, cX_6, cX_7, cX_8, cX_9, cX_10⟩ := tx
      go_wp2_with fail
      clear cX_b cX_f cX_0 cX_1 cX_2 cX_3 cX_4 cX_5 cX_6 cX_7 cX_8 cX_9 cX_10
      go_ret
      exact ⟨rfl, (grB B1)⟩
     ·
      skip
      cases c
      ·
       skip
       have e : r = false := by rw [hr]; simp [h0, h1, h2, h3]
       rw [e]; clear e hr
       go_enter Tryz.func16, Tryz.ntmps16
       go_wp2_with fail
       refine (LT.out _).mono ?_; rintro e v1 ⟨rfl, rfl⟩
       go_wp2_with fail
       refine (NM.out _).mono ?_; rintro e v2 ⟨rfl, rfl⟩
       go_wp2_with fail
       refine (OF.out _).mono ?_; rintro e w1 ⟨rfl, b1⟩
       have d1 : Below w.heap.size w w1 := below_step gr0 b1
       have B1 := Lib.hid d1
       have X1 : Bk11 w1 (w.heap.size) (.string s) (.int .i64 fy) (.int .i64 ty) (.int .i64 m) (.int .i64 k) (.int .i64 wk) (.int .i64 d) (.int .i64 sec) (.int .i64 base) (.int .i64 save) (.string t) := by refine Bk11.of b1 (by simp <;> omega) (by intro j; simp [go_sem]) ?_ ?_ ?_ ?_ ?_ ?_ ?_ ?_ ?_ ?_ ?_ <;> simp [go_sem]
       clear b1 d1
       have tx := X1; obtain ⟨cX_b, cX_f, cX_0, cX_1, cX_2, cX_3, cX_4, cX_5, cX_6, cX_7, cX_8, cX_9, cX_10⟩ := tx
       go_wp2_with fail
       clear cX_b cX_f cX_0 cX_1 cX_2 cX_3 cX_4 cX_5 cX_6 cX_7 cX_8 cX_9 cX_10
       refine (CR.out _).mono ?_; rintro e w2 ⟨rfl, b2⟩
       have d2 : Below w1.heap.size w1 w2 := below_step gr0 b2
       have B2 := Lib.hid (below_step B1.out d2)
       have X2 := X1.keep d2
       clear X1 b2 d2 B1
       have tx := X2; obtain ⟨cX_b, cX_f, cX_0, cX_1, cX_2, cX_3, cX_4, cX_5, cX_6, cX_7, cX_8, cX_9, cX_10⟩ := tx
       go_wp2_with fail
       clear cX_b cX_f cX_0 cX_1 cX_2 cX_3 cX_4 cX_5 cX_6 cX_7 cX_8 cX_9 cX_10
       go_ret
       exact ⟨rfl, (grB B2)⟩
      ·
       skip
       by_cases h6 : -10800 ≤ save
       ·
        have g6 : decide (-10800 ≤ save) = true := decide_eq_true h6
        by_cases h7 : save ≤ 10800
        ·
         have g7 : decide (save ≤ 10800) = true := decide_eq_true h7
         by_cases h8 : q7 = 0
         ·
          have g8 : (q7 == 0) = true := by rw [beq_iff_eq]; exact h8
          have e : r = true := by rw [hr]; simp [h0, h1, h2, h3, h6, h7, h8]
          rw [e]; clear e hr
          go_enter Tryz.func16, Tryz.ntmps16
          go_wp2_with fail
          refine (LT.out _).mono ?_; rintro e v1 ⟨rfl, rfl⟩
          go_wp2_with fail
          refine (NM.out _).mono ?_; rintro e v2 ⟨rfl, rfl⟩
          go_wp2_with fail
          refine (OF.out _).mono ?_; rintro e w1 ⟨rfl, b1⟩
          have d1 : Below w.heap.size w w1 := below_step gr0 b1
          have B1 := Lib.hid d1
          have X1 : Bk11 w1 (w.heap.size) (.string s) (.int .i64 fy) (.int .i64 ty) (.int .i64 m) (.int .i64 k) (.int .i64 wk) (.int .i64 d) (.int .i64 sec) (.int .i64 base) (.int .i64 save) (.string t) := by refine Bk11.of b1 (by simp <;> omega) (by intro j; simp [go_sem]) ?_ ?_ ?_ ?_ ?_ ?_ ?_ ?_ ?_ ?_ ?_ <;> simp [go_sem]
          clear b1 d1
          have tx := X1; obtain ⟨cX_b, cX_f, cX_0, cX_1, cX_2, cX_3, cX_4, cX_5, cX_6, cX_7, cX_8, cX_9, cX_10⟩ := tx
          go_wp2_with fail
          clear cX_b cX_f cX_0 cX_1 cX_2 cX_3 cX_4 cX_5 cX_6 cX_7 cX_8 cX_9 cX_10
          refine (CR.out _).mono ?_; rintro e w2 ⟨rfl, b2⟩
          have d2 : Below w1.heap.size w1 w2 := below_step gr0 b2
          have B2 := Lib.hid (below_step B1.out d2)
          have X2 := X1.keep d2
          clear X1 b2 d2 B1
          have tx := X2; obtain ⟨cX_b, cX_f, cX_0, cX_1, cX_2, cX_3, cX_4, cX_5, cX_6, cX_7, cX_8, cX_9, cX_10⟩ := tx
          go_wp2_with fail
          clear cX_b cX_f cX_0 cX_1 cX_2 cX_3 cX_4 cX_5 cX_6 cX_7 cX_8 cX_9 cX_10
          refine (issaved_any save _).mono ?_; rintro e v3 ⟨rfl, rfl⟩
          have tx := X2; obtain ⟨cX_b, cX_f, cX_0, cX_1, cX_2, cX_3, cX_4, cX_5, cX_6, cX_7, cX_8, cX_9, cX_10⟩ := tx
          go_wp2_with fail
          clear cX_b cX_f cX_0 cX_1 cX_2 cX_3 cX_4 cX_5 cX_6 cX_7 cX_8 cX_9 cX_10
          go_ret
          exact ⟨rfl, (grB B2)⟩
         ·
          have g8 : (q7 == 0) = false := by rw [beq_eq_false_iff_ne]; exact h8
          have e : r = false := by rw [hr]; simp [h0, h1, h2, h3, h6, h7, h8]
          rw [e]; clear e hr
          go_enter Tryz.func16, Tryz.ntmps16
          go_wp2_with fail
          refine (LT.out _).mono ?_; rintro e v1 ⟨rfl, rfl⟩
          go_wp2_with fail
          refine (NM.out _).mono ?_; rintro e v2 ⟨rfl, rfl⟩
          go_wp2_with fail
          refine (OF.out _).mono ?_; rintro e w1 ⟨rfl, b1⟩
          have d1 : Below w.heap.size w w1 := below_step gr0 b1
          have B1 := Lib.hid d1
          have X1 : Bk11 w1 (w.heap.size) (.string s) (.int .i64 fy) (.int .i64 ty) (.int .i64 m) (.int .i64 k) (.int .i64 wk) (.int .i64 d) (.int .i64 sec) (.int .i64 base) (.int .i64 save) (.string t) := by refine Bk11.of b1 (by simp <;> omega) (by intro j; simp [go_sem]) ?_ ?_ ?_ ?_ ?_ ?_ ?_ ?_ ?_ ?_ ?_ <;> simp [go_sem]
          clear b1 d1
          have tx := X1; obtain ⟨cX_b, cX_f, cX_0, cX_1, cX_2, cX_3, cX_4, cX_5, cX_6, cX_7, cX_8, cX_9, cX_10⟩ := tx
          go_wp2_with fail
          clear cX_b cX_f cX_0 cX_1 cX_2 cX_3 cX_4 cX_5 cX_6 cX_7 cX_8 cX_9 cX_10
          refine (CR.out _).mono ?_; rintro e w2 ⟨rfl, b2⟩
          have d2 : Below w1.heap.size w1 w2 := below_step gr0 b2
          have B2 := Lib.hid (below_step B1.out d2)
          have X2 := X1.keep d2
          clear X1 b2 d2 B1
          have tx := X2; obtain ⟨cX_b, cX_f, cX_0, cX_1, cX_2, cX_3, cX_4, cX_5, cX_6, cX_7, cX_8, cX_9, cX_10⟩ := tx
          go_wp2_with fail
          clear cX_b cX_f cX_0 cX_1 cX_2 cX_3 cX_4 cX_5 cX_6 cX_7 cX_8 cX_9 cX_10
          refine (issaved_any save _).mono ?_; rintro e v3 ⟨rfl, rfl⟩
          have tx := X2; obtain ⟨cX_b, cX_f, cX_0, cX_1, cX_2, cX_3, cX_4, cX_5, cX_6, cX_7, cX_8, cX_9, cX_10⟩ := tx
          go_wp2_with fail
          clear cX_b cX_f cX_0 cX_1 cX_2 cX_3 cX_4 cX_5 cX_6 cX_7 cX_8 cX_9 cX_10
          go_ret
          exact ⟨rfl, (grB B2)⟩
        ·
         have g7 : decide (save ≤ 10800) = false := decide_eq_false h7
         have e : r = false := by rw [hr]; simp [h0, h1, h2, h3, h6, h7]
         rw [e]; clear e hr
         go_enter Tryz.func16, Tryz.ntmps16
         go_wp2_with fail
         refine (LT.out _).mono ?_; rintro e v1 ⟨rfl, rfl⟩
         go_wp2_with fail
         refine (NM.out _).mono ?_; rintro e v2 ⟨rfl, rfl⟩
         go_wp2_with fail
         refine (OF.out _).mono ?_; rintro e w1 ⟨rfl, b1⟩
         have d1 : Below w.heap.size w w1 := below_step gr0 b1
         have B1 := Lib.hid d1
         have X1 : Bk11 w1 (w.heap.size) (.string s) (.int .i64 fy) (.int .i64 ty) (.int .i64 m) (.int .i64 k) (.int .i64 wk) (.int .i64 d) (.int .i64 sec) (.int .i64 base) (.int .i64 save) (.string t) := by refine Bk11.of b1 (by simp <;> omega) (by intro j; simp [go_sem]) ?_ ?_ ?_ ?_ ?_ ?_ ?_ ?_ ?_ ?_ ?_ <;> simp [go_sem]
         clear b1 d1
         have tx := X1; obtain ⟨cX_b, cX_f, cX_0, cX_1, cX_2, cX_3, cX_4, cX_5, cX_6, cX_7, cX_8, cX_9, cX_10⟩ := tx
         go_wp2_with fail
         clear cX_b cX_f cX_0 cX_1 cX_2 cX_3 cX_4 cX_5 cX_6 cX_7 cX_8 cX_9 cX_10
         refine (CR.out _).mono ?_; rintro e w2 ⟨rfl, b2⟩
         have d2 : Below w1.heap.size w1 w2 := below_step gr0 b2
         have B2 := Lib.hid (below_step B1.out d2)
         have X2 := X1.keep d2
         clear X1 b2 d2 B1
         have tx := X2; obtain ⟨cX_b, cX_f, cX_0, cX_1, cX_2, cX_3, cX_4, cX_5, cX_6, cX_7, cX_8, cX_9, cX_10⟩ := tx
         go_wp2_with fail
         clear cX_b cX_f cX_0 cX_1 cX_2 cX_3 cX_4 cX_5 cX_6 cX_7 cX_8 cX_9 cX_10
         refine (issaved_any save _).mono ?_; rintro e v3 ⟨rfl, rfl⟩
         have tx := X2; obtain ⟨cX_b, cX_f, cX_0, cX_1, cX_2, cX_3, cX_4, cX_5, cX_6, cX_7, cX_8, cX_9, cX_10⟩ := tx
         go_wp2_with fail
         clear cX_b cX_f cX_0 cX_1 cX_2 cX_3 cX_4 cX_5 cX_6 cX_7 cX_8 cX_9 cX_10
         go_ret
         exact ⟨rfl, (grB B2)⟩
       ·
        have g6 : decide (-10800 ≤ save) = false := decide_eq_false h6
        have e : r = false := by rw [hr]; simp [h0, h1, h2, h3, h6]
        rw [e]; clear e hr
        go_enter Tryz.func16, Tryz.ntmps16
        go_wp2_with fail
        refine (LT.out _).mono ?_; rintro e v1 ⟨rfl, rfl⟩
        go_wp2_with fail
        refine (NM.out _).mono ?_; rintro e v2 ⟨rfl, rfl⟩
        go_wp2_with fail
        refine (OF.out _).mono ?_; rintro e w1 ⟨rfl, b1⟩
        have d1 : Below w.heap.size w w1 := below_step gr0 b1
        have B1 := Lib.hid d1
        have X1 : Bk11 w1 (w.heap.size) (.string s) (.int .i64 fy) (.int .i64 ty) (.int .i64 m) (.int .i64 k) (.int .i64 wk) (.int .i64 d) (.int .i64 sec) (.int .i64 base) (.int .i64 save) (.string t) := by refine Bk11.of b1 (by simp <;> omega) (by intro j; simp [go_sem]) ?_ ?_ ?_ ?_ ?_ ?_ ?_ ?_ ?_ ?_ ?_ <;> simp [go_sem]
        clear b1 d1
        have tx := X1; obtain ⟨cX_b, cX_f, cX_0, cX_1, cX_2, cX_3, cX_4, cX_5, cX_6, cX_7, cX_8, cX_9, cX_10⟩ := tx
        go_wp2_with fail
        clear cX_b cX_f cX_0 cX_1 cX_2 cX_3 cX_4 cX_5 cX_6 cX_7 cX_8 cX_9 cX_10
        refine (CR.out _).mono ?_; rintro e w2 ⟨rfl, b2⟩
        have d2 : Below w1.heap.size w1 w2 := below_step gr0 b2
        have B2 := Lib.hid (below_step B1.out d2)
        have X2 := X1.keep d2
        clear X1 b2 d2 B1
        have tx := X2; obtain ⟨cX_b, cX_f, cX_0, cX_1, cX_2, cX_3, cX_4, cX_5, cX_6, cX_7, cX_8, cX_9, cX_10⟩ := tx
        go_wp2_with fail
        clear cX_b cX_f cX_0 cX_1 cX_2 cX_3 cX_4 cX_5 cX_6 cX_7 cX_8 cX_9 cX_10
        refine (issaved_any save _).mono ?_; rintro e v3 ⟨rfl, rfl⟩
        have tx := X2; obtain ⟨cX_b, cX_f, cX_0, cX_1, cX_2, cX_3, cX_4, cX_5, cX_6, cX_7, cX_8, cX_9, cX_10⟩ := tx
        go_wp2_with fail
        clear cX_b cX_f cX_0 cX_1 cX_2 cX_3 cX_4 cX_5 cX_6 cX_7 cX_8 cX_9 cX_10
        go_ret
        exact ⟨rfl, (grB B2)⟩
    ·
     have g3 : decide (ty ≤ 32767) = false := decide_eq_false h3
     have e : r = false := by rw [hr]; simp [h0, h1, h2, h3]
     rw [e]; clear e hr
     go_enter Tryz.func16, Tryz.ntmps16
     go_wp2_with fail
     refine (LT.out _).mono ?_; rintro e v1 ⟨rfl, rfl⟩
     go_wp2_with fail
     refine (NM.out _).mono ?_; rintro e v2 ⟨rfl, rfl⟩
     go_wp2_with fail
     go_ret
     exact ⟨rfl, gr0⟩
   ·
    have g2 : decide (fy ≤ ty) = false := decide_eq_false h2
    have e : r = false := by rw [hr]; simp [h0, h1, h2]
    rw [e]; clear e hr
    go_enter Tryz.func16, Tryz.ntmps16
    go_wp2_with fail
    refine (LT.out _).mono ?_; rintro e v1 ⟨rfl, rfl⟩
    go_wp2_with fail
    refine (NM.out _).mono ?_; rintro e v2 ⟨rfl, rfl⟩
    go_wp2_with fail
    go_ret
    exact ⟨rfl, gr0⟩
  ·
   have g1 : decide (-32767 ≤ fy) = false := decide_eq_false h1
   have e : r = false := by rw [hr]; simp [h0, h1]
   rw [e]; clear e hr
   go_enter Tryz.func16, Tryz.ntmps16
   go_wp2_with fail
   refine (LT.out _).mono ?_; rintro e v1 ⟨rfl, rfl⟩
   go_wp2_with fail
   refine (NM.out _).mono ?_; rintro e v2 ⟨rfl, rfl⟩
   go_wp2_with fail
   go_ret
   exact ⟨rfl, gr0⟩
 ·
  have g0 : (q0 == 0) = false := by rw [beq_eq_false_iff_ne]; exact h0
  have e : r = false := by rw [hr]; simp [h0]
  rw [e]; clear e hr
  go_enter Tryz.func16, Tryz.ntmps16
  go_wp2_with fail
  refine (LT.out _).mono ?_; rintro e v1 ⟨rfl, rfl⟩
  go_wp2_with fail
  refine (NM.out _).mono ?_; rintro e v2 ⟨rfl, rfl⟩
  go_wp2_with fail
  go_ret
  exact ⟨rfl, gr0⟩
end Go.Proofs.YtjggjkeopbcmoaaGreatDoor
set_option linter.unusedVariables false
namespace Go.Proofs
open Go.Shelf
theorem Tryz.formatInt (n : Int) (h0 : -9223372036854775808 ≤ n) (h1 : n ≤ 9223372036854775807) (w : World) (htab : Lib.TabIs Tryz.prog w "internal/strconv.uint64pow10" .u64 Lib.pow10Tab) :
  Calls Tryz.prog 88 #[.int .i64 n, .int .i64 10] w fun e w' => e = .returned (.string ⟨(Lib.itoa n).toArray⟩) ∧ RowKit.Below w.heap.size w w' :=
 (Any.strconv_FormatInt_10 Tryz.laysM173 n h0 h1 w htab).mono fun _ _ ⟨h, k, os, e⟩ => ⟨h, by rw [e]; exact Lib.below_grow _ _ (Nat.le_refl _) _ _⟩
end Go.Proofs
set_option linter.unusedVariables false
namespace Go.Proofs.YtjggjkeopbcmoaaGreatDoor.Num
open Go Go.Lib
def dig (c : UInt8) : Bool := decide (48 ≤ c.toNat ∧ c.toNat ≤ 57)
@[irreducible] def stp (acc : Nat) (c : UInt8) : Nat := acc * 10 + (c.toNat - 48)
theorem stp_eq (acc : Nat) (c : UInt8) : stp acc c = acc * 10 + (c.toNat - 48) := by unfold stp; rfl
def val (acc : Nat) (l : List UInt8) : Nat := l.foldl stp acc
theorem val_cons (acc : Nat) (c : UInt8) (r : List UInt8) : val acc (c :: r) = val (stp acc c) r := rfl
theorem val_nil (acc : Nat) : val acc [] = acc := rfl
theorem val_ge (l : List UInt8) : ∀ (acc : Nat), acc ≤ val acc l := by
 induction l with
 | nil => intro acc; exact Nat.le_refl _
 | cons c r ih =>
  intro acc
  rw [val_cons]
  exact Nat.le_trans (by rw [stp_eq]; omega) (ih _)
theorem val_append (l : List UInt8) (acc : Nat) (c : UInt8) : val acc (l ++ [c]) = val acc l * 10 + (c.toNat - 48) := by
 unfold val
 rw [List.foldl_append]
 exact stp_eq _ _
theorem parse_nil (M acc : Nat) : parseUintM M acc [] = .ok acc := by rw [parseUintM]
theorem parse_step (M acc : Nat) (c : UInt8) (r : List UInt8) (hc : 48 ≤ c.toNat ∧ c.toNat ≤ 57) (h0 : ¬ 1844674407370955162 ≤ acc) (h1 : ¬ M < stp acc c) :
  parseUintM M acc (c :: r) = parseUintM M (stp acc c) r := by
 rw [stp_eq] at h1 ⊢
 rw [parseUintM, if_pos hc, if_neg h0, if_neg h1]
def Small (M : Nat) : Prop := M < 18446744073709551616
theorem small_of {M acc : Nat} {c : UInt8} (hM : Small M) (h : stp acc c ≤ M) : ¬ 1844674407370955162 ≤ acc := by rw [stp_eq] at h; unfold Small at hM; omega
theorem parse_ok (M : Nat) (hM : Small M) (l : List UInt8) : ∀ (acc : Nat), l.all dig = true → val acc l ≤ M → parseUintM M acc l = .ok (val acc l) := by
 induction l with
 | nil => intro acc ha hv; exact parse_nil M acc
 | cons c r ih =>
  intro acc hd hv
  simp only [List.all_cons, Bool.and_eq_true, dig, decide_eq_true_eq] at hd
  obtain ⟨hc, hr⟩ := hd
  rw [val_cons] at hv ⊢
  have h2 : stp acc c ≤ M := Nat.le_trans (val_ge r _) hv
  rw [parse_step M acc c r hc (small_of hM h2) (Nat.not_lt.2 h2)]
  exact ih _ hr hv
theorem parse_all (M : Nat) (l : List UInt8) : ∀ (acc : Nat), l.all dig = true → parseUintM M acc l = .ok (val acc l) ∨ parseUintM M acc l = .range := by
 induction l with
 | nil => intro acc _; exact .inl (parse_nil M acc)
 | cons c r ih =>
  intro acc hd
  simp only [List.all_cons, Bool.and_eq_true, dig, decide_eq_true_eq] at hd
  by_cases h0 : 1844674407370955162 ≤ acc
  ·
   right; rw [parseUintM, if_pos hd.1, if_pos h0]
  ·
   by_cases h1 : M < stp acc c
   ·
    right; rw [stp_eq] at h1; rw [parseUintM, if_pos hd.1, if_neg h0, if_pos h1]
   ·
    rw [parse_step M acc c r hd.1 h0 h1, val_cons]
    exact ih _ hd.2
theorem toNat_ofNat_dig {k : Nat} (h : k < 10) : (UInt8.ofNat (48 + k)).toNat = 48 + k := by
 rw [UInt8.toNat_ofNat']; omega
theorem dec_small {u : Nat} (h : u < 10) : decDigits u = [UInt8.ofNat (48 + u)] := decDigits_one h
theorem dec_step {u : Nat} (h : ¬ u < 10) : decDigits u = decDigits (u / 10) ++ [UInt8.ofNat (48 + u % 10)] := by
 rw [decDigits, dif_neg h]
theorem dec_all : ∀ (n u : Nat), u ≤ n → (decDigits u).all dig = true ∧ decDigits u ≠ [] ∧ val 0 (decDigits u) = u ∧ (10 ≤ u → ∃ c r, decDigits u = c :: r ∧ 49 ≤ c.toNat) := by
 intro n
 induction n with
 | zero =>
  intro u hu
  have : u = 0 := by omega
  subst this
  rw [dec_small (by omega)]
  exact ⟨by decide, by simp, by rw [val_cons, val_nil, stp_eq]; decide, by omega⟩
 | succ n ih =>
  intro u hu
  by_cases h : u < 10
  ·
   rw [dec_small h]
   have e := toNat_ofNat_dig h
   refine ⟨by simp only [List.all_cons, List.all_nil, dig, e, Bool.and_true, decide_eq_true_eq]; omega, by simp, by rw [val_cons, val_nil, stp_eq, e]; omega, by omega⟩
  ·
   obtain ⟨a, b, c, d⟩ := ih (u / 10) (by omega)
   have e := toNat_ofNat_dig (k := u % 10) (by omega)
   rw [dec_step h]
   refine ⟨by rw [List.all_append, a]; simp only [List.all_cons, List.all_nil, dig, e, Bool.and_true, Bool.true_and, decide_eq_true_eq]; omega, by simp, by rw [val_append, c, e]; omega, fun _ => ?_⟩
   by_cases h2 : u / 10 < 10
   ·
    rw [dec_small h2]
    have e2 := toNat_ofNat_dig h2
    exact ⟨_, _, rfl, by rw [e2]; omega⟩
   ·
    obtain ⟨x, r, hx, hc⟩ := d (by omega)
    rw [hx]
    exact ⟨x, _, rfl, hc⟩
def numT (b : Bool) (l : List UInt8) : Bool :=
 match l with
 | [] => false
 | c :: r => !(c == 48 && (b || !r.isEmpty)) && (c :: r).all dig
theorem dec_of_val (l : List UInt8) : l.all dig = true → l ≠ [] → (∀ c r, l = c :: r → r ≠ [] → c ≠ 48) → decDigits (val 0 l) = l := by
 induction h : l.length generalizing l with
 | zero => intro _ hn; exact absurd (List.eq_nil_of_length_eq_zero h) hn
 | succ k ih =>
  intro ha hn hz
  obtain ⟨q, c, rfl⟩ : ∃ q c, l = q ++ [c] := ⟨l.dropLast, l.getLast hn, (List.dropLast_concat_getLast hn).symm⟩
  rw [List.all_append] at ha
  simp only [Bool.and_eq_true, List.all_cons, List.all_nil, Bool.and_true, dig, decide_eq_true_eq] at ha
  have hc : UInt8.ofNat (48 + (c.toNat - 48)) = c := by
   apply UInt8.toNat_inj.1; rw [UInt8.toNat_ofNat']; omega
  by_cases hq : q = []
  ·
   subst hq
   rw [List.nil_append, val_cons, val_nil, stp_eq, dec_small (by omega), Nat.zero_mul, Nat.zero_add, hc]
  ·
   have hlen : q.length = k := by simp at h; exact h
   have hr := ih q hlen ha.1 hq (fun x r e hr => hz x (r ++ [c]) (by rw [e]; rfl) (by simp))
   rw [val_append]
   -- the first digit is no nought: so the number of what is ahead is not 0
   have hpos : 1 ≤ val 0 q := by
    obtain ⟨x, r, rfl⟩ : ∃ x r, q = x :: r := by cases q with
     | nil => exact absurd rfl hq
     | cons x r => exact ⟨x, r, rfl⟩
    have hx := hz x (r ++ [c]) rfl (by simp)
    have hd : 48 ≤ x.toNat ∧ x.toNat ≤ 57 := by
     have := ha.1; simp only [List.all_cons, Bool.and_eq_true, dig, decide_eq_true_eq] at this; exact this.1
    have hx' : x.toNat ≠ 48 := fun e => hx (UInt8.toNat_inj.1 (by rw [e]; rfl))
    have hs : 1 ≤ stp 0 x := by rw [stp_eq]; omega
    rw [val_cons]; exact Nat.le_trans hs (val_ge r _)
   rw [dec_step (by omega)]
   have e1 : (val 0 q * 10 + (c.toNat - 48)) / 10 = val 0 q := by omega
   have e2 : (val 0 q * 10 + (c.toNat - 48)) % 10 = c.toNat - 48 := by omega
   rw [e1, e2, hr, hc]
def isT (l : List UInt8) : Bool := numT (hasPrefix l [45]) (trimPrefix l [45])
theorem hp_cons (c : UInt8) (r : List UInt8) : hasPrefix (c :: r) [45] = (c == 45) := by
 unfold hasPrefix
 rw [List.isPrefixOf, List.isPrefixOf, Bool.and_true]
 by_cases h : c = 45
 ·
  subst h; rfl
 ·
  rw [show (c == 45) = false by simpa using h, beq_eq_false_iff_ne]
  exact fun e => h e.symm
theorem tp_minus (r : List UInt8) : trimPrefix (45 :: r) [45] = r := by simp [trimPrefix, hasPrefix, List.isPrefixOf]
theorem tp_other (c : UInt8) (r : List UInt8) (h : c ≠ 45) : trimPrefix (c :: r) [45] = c :: r := by
 unfold trimPrefix; rw [hp_cons]; simp [h]
theorem numT_dec (u : Nat) : numT false (decDigits u) = true := by
 obtain ⟨a, b, c, d⟩ := dec_all u u (Nat.le_refl _)
 by_cases h : u < 10
 ·
  rw [dec_small h] at a ⊢
  simp only [numT, a]; simp
 ·
  obtain ⟨x, r, hx, hc⟩ := d (by omega)
  rw [hx] at a ⊢
  have : (x == 48) = false := by
   rw [beq_eq_false_iff_ne]; intro e; rw [e] at hc; exact absurd hc (by decide)
  simp only [numT, a, this]; simp
theorem numT_dec_neg (u : Nat) (h1 : 1 ≤ u) : numT true (decDigits u) = true := by
 obtain ⟨a, b, c, d⟩ := dec_all u u (Nat.le_refl _)
 by_cases h : u < 10
 ·
  rw [dec_small h] at a ⊢
  have e := toNat_ofNat_dig h
  have : (UInt8.ofNat (48 + u) == 48) = false := by
   rw [beq_eq_false_iff_ne]; intro e2; rw [e2] at e; have : (48 : UInt8).toNat = 48 := rfl; omega
  simp only [numT, a, this]; simp
 ·
  obtain ⟨x, r, hx, hc⟩ := d (by omega)
  rw [hx] at a ⊢
  have : (x == 48) = false := by
   rw [beq_eq_false_iff_ne]; intro e; rw [e] at hc; exact absurd hc (by decide)
  simp only [numT, a, this]; simp
theorem dec_head (u : Nat) : ∃ c r, decDigits u = c :: r ∧ dig c = true := by
 obtain ⟨a, b, _, _⟩ := dec_all u u (Nat.le_refl _)
 cases h : decDigits u with
 | nil => exact absurd h b
 | cons c r => rw [h] at a; simp only [List.all_cons, Bool.and_eq_true] at a; exact ⟨c, r, rfl, a.1⟩
theorem dig_ne {c : UInt8} (h : dig c = true) : c ≠ 45 ∧ c ≠ 43 := by
 simp only [dig, decide_eq_true_eq] at h
 constructor <;> (intro e; rw [e] at h; exact absurd h (by decide))
theorem isT_itoa (n : Int) : isT (itoa n) = true := by
 unfold isT itoa
 by_cases h : n < 0
 ·
  rw [if_pos h, hp_cons, tp_minus]
  exact numT_dec_neg _ (by omega)
 ·
  rw [if_neg h]
  obtain ⟨c, r, e, hd⟩ := dec_head n.toNat
  have hne := (dig_ne hd).1
  rw [e, hp_cons, tp_other c r hne, show (c == 45) = false by simpa using hne, ← e]
  exact numT_dec _
theorem parse_dec (u : Nat) (h : u < 18446744073709551616) : parseUintB 64 (decDigits u) = .ok u := by
 obtain ⟨a, b, c, _⟩ := dec_all u u (Nat.le_refl _)
 unfold parseUintB
 rw [if_neg b]
 have := parse_ok (2 ^ 64 - 1) (by unfold Small; decide) (decDigits u) 0 a (by rw [c]; omega)
 rw [this, c]
theorem parse_itoa (n : Int) (h0 : -9223372036854775808 ≤ n) (h1 : n ≤ 9223372036854775807) : parseIntB 64 (itoa n) = .ok n := by
 unfold itoa
 by_cases h : n < 0
 ·
  rw [if_pos h]
  unfold parseIntB
  have e := parse_dec n.natAbs (by omega)
  simp only [show (45 : UInt8).toNat = 45 from rfl, or_true, if_true, e]
  rw [if_neg (by simp), if_neg (by simp; omega)]
  simp; omega
 ·
  rw [if_neg h]
  obtain ⟨c, r, e, hd⟩ := dec_head n.toNat
  have e2 := parse_dec n.toNat (by omega)
  rw [e] at e2 ⊢
  simp only [dig, decide_eq_true_eq] at hd
  unfold parseIntB
  have n43 : ¬ (c.toNat = 43 ∨ c.toNat = 45) := by omega
  have n45 : ¬ c.toNat = 45 := by omega
  simp only [if_neg n43, e2]
  simp only [n45, not_false_eq_true, true_and, false_and, if_false]
  have hlt : ¬ 2 ^ (64 - 1) ≤ n.toNat := by
   have : (2 : Nat) ^ (64 - 1) = 9223372036854775808 := by decide
   rw [this]; omega
  rw [if_neg hlt]
  congr 1
  exact Int.toNat_of_nonneg (by omega)
end Go.Proofs.YtjggjkeopbcmoaaGreatDoor.Num
set_option linter.unusedVariables false
set_option linter.unusedSimpArgs false
namespace Go.Proofs.YtjggjkeopbcmoaaGreatDoor
open Go.RowKit
theorem cutPrefix (s p : ByteArray) (w : World) :
  Calls Tryz.prog 115 #[.string s, .string p] w fun e w' => e = .returned (.tuple #[.string ⟨(Lib.trimPrefix s.data.toList p.data.toList).toArray⟩, .bool (Lib.hasPrefix s.data.toList p.data.toList)]) ∧ w = w' :=
 (Any.strings_CutPrefix Tryz.lays103 s p w).mono fun _ _ ⟨h, e⟩ => ⟨h, e.symm⟩
set_option maxHeartbeats 400000 in
theorem text_any (n : Int) (w : World) (h0 : -9223372036854775808 ≤ n) (h1 : n ≤ 9223372036854775807) (htab : Lib.TabIs Tryz.prog w "internal/strconv.uint64pow10" .u64 Lib.pow10Tab) :
  Calls Tryz.prog 52 #[.int .i64 n] w fun e w' => e = .returned (.string ⟨(Lib.itoa n).toArray⟩) ∧ Below w.heap.size w w' := by
 have HT := Lib.hid htab; clear htab
 go_enter Tryz.func52, Tryz.ntmps52
 go_wp2_with fail
 refine (Tryz.formatInt n h0 h1 _ HT.out).mono ?_; rintro e w1 ⟨rfl, b1⟩
 go_wp2_with fail
 go_ret
 exact ⟨rfl, b1⟩
theorem dlen (ds : ByteArray) : ds.data.toList.length = ds.size := Array.length_toList
theorem dget {ds : ByteArray} {k : Nat} (h : k < ds.size) : ds.data.toList[k]'(by rw [dlen]; exact h) = ds[k] := rfl
theorem dhead {ds : ByteArray} (h : 0 < ds.size) : ∃ r, ds.data.toList = ds[0] :: r ∧ (r = [] ↔ ds.size = 1) := by
 have hl := dlen ds
 cases hd : ds.data.toList with
 | nil => rw [hd] at hl; simp at hl; omega
 | cons c r =>
  have e : ds[0] = c := by rw [← dget h]; simp [hd]
  refine ⟨r, by rw [e], ?_⟩
  rw [hd] at hl
  simp at hl
  rw [← List.length_eq_zero_iff]; omega
theorem not_all {ds : ByteArray} {k : Nat} (h : k < ds.size) (hd : ¬ (48 ≤ ds[k].toNat ∧ ds[k].toNat ≤ 57)) : ds.data.toList.all Num.dig = false := by
 rw [Bool.eq_false_iff]
 intro ha
 have := List.all_eq_true.1 ha ds[k] (by rw [← dget h]; exact List.getElem_mem _)
 simp only [Num.dig, decide_eq_true_eq] at this
 exact hd this
theorem take_all {ds : ByteArray} {k : Nat} (h : k < ds.size) (ha : (ds.data.toList.take k).all Num.dig = true) (hd : 48 ≤ ds[k].toNat ∧ ds[k].toNat ≤ 57) : (ds.data.toList.take (k + 1)).all Num.dig = true := by
 rw [List.take_succ_eq_append_getElem (by rw [dlen]; exact h), List.all_append, ha, dget h]
 simp [Num.dig, hd]
theorem front {ds : ByteArray} {b : Bool} (h : 0 < ds.size) (hf : ds[0].toNat = 48 → b = false ∧ ds.size = 1) : Num.numT b ds.data.toList = ds.data.toList.all Num.dig := by
 obtain ⟨r, e, hr⟩ := dhead h
 rw [e]
 unfold Num.numT
 by_cases h48 : ds[0].toNat = 48
 ·
  obtain ⟨hb, h1⟩ := hf h48
  rw [hb, hr.2 h1]; simp
 ·
  have : (ds[0] == 48) = false := by rw [beq_eq_false_iff_ne]; intro e2; rw [e2] at h48; exact h48 rfl
  show (!(ds[0] == 48 && (b || !r.isEmpty)) && (ds[0] :: r).all Num.dig) = _
  rw [this]; simp
theorem front_no {ds : ByteArray} {b : Bool} (h : 0 < ds.size) (h48 : ds[0].toNat = 48) (hf : b = true ∨ 1 < ds.size) : Num.numT b ds.data.toList = false := by
 obtain ⟨r, e, hr⟩ := dhead h
 rw [e]
 unfold Num.numT
 have : (ds[0] == 48) = true := by rw [beq_iff_eq]; exact UInt8.toNat_inj.1 h48
 show (!(ds[0] == 48 && (b || !r.isEmpty)) && (ds[0] :: r).all Num.dig) = _
 rw [this]
 rcases hf with hb | hz
 ·
  rw [hb]; simp
 ·
  have : r ≠ [] := fun e2 => by have := hr.1 e2; omega
  have : r.isEmpty = false := by simpa using this
  rw [this]; simp
theorem var_keep {P : Program} {W W' : World} {n : String} {cs : Array Value} (h : Below W.heap.size W W') (hv : W.var? P n = some cs) : W'.var? P n = some cs := by
 unfold World.var? at hv ⊢
 cases hg : P.globalNamed n with
 | none => rw [hg] at hv; simp at hv
 | some g =>
  rw [hg] at hv
  simp only [Option.bind_some] at hv ⊢
  have hgB : g < W.heap.size := by
   by_cases hh : g < W.heap.size
   ·
    exact hh
   ·
    exfalso
    have e : W.heap[g]? = none := by simp; omega
    rw [e] at hv; simp at hv
  rw [h.block g hgB]
  exact hv
end Go.Proofs.YtjggjkeopbcmoaaGreatDoor
