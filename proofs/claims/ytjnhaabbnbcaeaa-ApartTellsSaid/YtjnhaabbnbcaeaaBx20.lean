/- Joined: RuB. -/
import Derived.Test.YtjnhaabbnbcaeaaBx01
import Derived.Test.YtjnhaabbnbcaeaaBx06
import Derived.Test.YtjnhaabbnbcaeaaBx17
import Derived.Test.YtjnhaabbnbcaeaaBx18
import Derived.Test.YtjnhaabbnbcaeaaBx19
/- Rules: which may be, by the reference. -/
set_option linter.unusedVariables false
set_option linter.unusedSimpArgs false
namespace Go.Proofs.Ytjnhaabbnbcaeaa
open Go.RowKit Go.Sort

set_option maxHeartbeats 4000000 in
set_option maxRecDepth 100000 in
theorem rrright_any (s t : ByteArray) (fy ty m k wk d sec base save : Int) (w : World) (hs : s.size ≤ maxLen) (ht : t.size ≤ 100000) :
    Calls Try.prog 26 #[.agg #[.string s, .int .i64 fy, .int .i64 ty, .int .i64 m, .int .i64 k, .int .i64 wk, .int .i64 d, .int .i64 sec, .int .i64 base, .int .i64 save, .string t]] w fun e w' => e = .returned (.bool (Ru.rB s t fy ty m k wk d sec base save)) ∧ Below w.heap.size w w' := by
  have NM := Lib.hid (fun W => rrname_any s W hs)
  have LT := Lib.hid (fun W => rfltext_any t W ht)
  have OF := Lib.hid (fun W => rofits_any k wk d m W)
  have CR := Lib.hid (fun W => kright_any sec base W)
  clear hs ht
  unfold Ru.rB
  generalize Lk.nm s.data.toList = q0 at *
  generalize (⟨(Fo.ltx t.data.toList).1.toArray⟩ : ByteArray) = T at *
  generalize (Fo.ltx t.data.toList).2 = q7 at *
  generalize Dr.onF k wk d m = o at *
  generalize Cl.rB sec base = c at *
  obtain ⟨r, hr⟩ : ∃ r, r = (q0 == 0 && (decide (-32767 ≤ fy) && (decide (fy ≤ ty) && (decide (ty ≤ 32767) && (o && (c && (decide (-10800 ≤ save) && (decide (save ≤ 10800) && q7 == 0)))))))) := ⟨_, rfl⟩
  rw [← hr]
  by_cases h0 : q0 = 0
  · have g0 : (q0 == 0) = true := by rw [beq_iff_eq]; exact h0
    by_cases h1 : -32767 ≤ fy
    · have g1 : decide (-32767 ≤ fy) = true := decide_eq_true h1
      by_cases h2 : fy ≤ ty
      · have g2 : decide (fy ≤ ty) = true := decide_eq_true h2
        by_cases h3 : ty ≤ 32767
        · have g3 : decide (ty ≤ 32767) = true := decide_eq_true h3
          cases o
          · skip
            have e : r = false := by rw [hr]; simp [h0, h1, h2, h3]
            rw [e]; clear e hr
            go_enter Try.func26, Try.ntmps26
            go_wp2_with fail
            refine (LT.out _).mono ?_; rintro e v1 ⟨rfl, rfl⟩
            go_wp2_with fail
            refine (NM.out _).mono ?_; rintro e v2 ⟨rfl, rfl⟩
            go_wp2_with fail
            refine (OF.out _).mono ?_; rintro e w1 ⟨rfl, b1⟩
            have d1 : Below w.heap.size w w1 := below_step (by repeat (first | exact Below.refl _ _ | refine below_drewN ?_ _ | refine Below.drew ?_ | refine Below.setCell ?_ (by first | (simp; done) | (simp; omega) | omega) _ | refine Below.alloc ?_ (by first | (simp; done) | (simp; omega) | omega) _)) b1
            have B1 := Lib.hid d1
            have X1 : Bk11 w1 (w.heap.size) (.string s) (.int .i64 fy) (.int .i64 ty) (.int .i64 m) (.int .i64 k) (.int .i64 wk) (.int .i64 d) (.int .i64 sec) (.int .i64 base) (.int .i64 save) (.string t) := Bk11.of b1 (by simp <;> omega) (by intro j; simp [go_sem]) (by simp [go_sem]) (by simp [go_sem]) (by simp [go_sem]) (by simp [go_sem]) (by simp [go_sem]) (by simp [go_sem]) (by simp [go_sem]) (by simp [go_sem]) (by simp [go_sem]) (by simp [go_sem]) (by simp [go_sem])
            clear b1 d1
            have cX_b := X1.hb
            have cX_f := X1.fz
            have cX_0 := X1.k0
            have cX_1 := X1.k1
            have cX_2 := X1.k2
            have cX_3 := X1.k3
            have cX_4 := X1.k4
            have cX_5 := X1.k5
            have cX_6 := X1.k6
            have cX_7 := X1.k7
            have cX_8 := X1.k8
            have cX_9 := X1.k9
            have cX_10 := X1.k10
            go_wp2_with fail
            clear cX_b cX_f cX_0 cX_1 cX_2 cX_3 cX_4 cX_5 cX_6 cX_7 cX_8 cX_9 cX_10
            go_ret
            exact ⟨rfl, (by have hz := B1.out.size; repeat (first | exact B1.out | refine below_drewN ?_ _ | refine Below.drew ?_ | refine Below.setCell ?_ (by first | omega | (simp; done) | (simp; omega)) _ | refine Below.alloc ?_ (by first | omega | (simp; done) | (simp; omega)) _))⟩
          · skip
            cases c
            · skip
              have e : r = false := by rw [hr]; simp [h0, h1, h2, h3]
              rw [e]; clear e hr
              go_enter Try.func26, Try.ntmps26
              go_wp2_with fail
              refine (LT.out _).mono ?_; rintro e v1 ⟨rfl, rfl⟩
              go_wp2_with fail
              refine (NM.out _).mono ?_; rintro e v2 ⟨rfl, rfl⟩
              go_wp2_with fail
              refine (OF.out _).mono ?_; rintro e w1 ⟨rfl, b1⟩
              have d1 : Below w.heap.size w w1 := below_step (by repeat (first | exact Below.refl _ _ | refine below_drewN ?_ _ | refine Below.drew ?_ | refine Below.setCell ?_ (by first | (simp; done) | (simp; omega) | omega) _ | refine Below.alloc ?_ (by first | (simp; done) | (simp; omega) | omega) _)) b1
              have B1 := Lib.hid d1
              have X1 : Bk11 w1 (w.heap.size) (.string s) (.int .i64 fy) (.int .i64 ty) (.int .i64 m) (.int .i64 k) (.int .i64 wk) (.int .i64 d) (.int .i64 sec) (.int .i64 base) (.int .i64 save) (.string t) := Bk11.of b1 (by simp <;> omega) (by intro j; simp [go_sem]) (by simp [go_sem]) (by simp [go_sem]) (by simp [go_sem]) (by simp [go_sem]) (by simp [go_sem]) (by simp [go_sem]) (by simp [go_sem]) (by simp [go_sem]) (by simp [go_sem]) (by simp [go_sem]) (by simp [go_sem])
              clear b1 d1
              have cX_b := X1.hb
              have cX_f := X1.fz
              have cX_0 := X1.k0
              have cX_1 := X1.k1
              have cX_2 := X1.k2
              have cX_3 := X1.k3
              have cX_4 := X1.k4
              have cX_5 := X1.k5
              have cX_6 := X1.k6
              have cX_7 := X1.k7
              have cX_8 := X1.k8
              have cX_9 := X1.k9
              have cX_10 := X1.k10
              go_wp2_with fail
              clear cX_b cX_f cX_0 cX_1 cX_2 cX_3 cX_4 cX_5 cX_6 cX_7 cX_8 cX_9 cX_10
              refine (CR.out _).mono ?_; rintro e w2 ⟨rfl, b2⟩
              have d2 : Below w1.heap.size w1 w2 := below_step (by repeat (first | exact Below.refl _ _ | refine below_drewN ?_ _ | refine Below.drew ?_ | refine Below.setCell ?_ (by first | (simp; done) | (simp; omega) | omega) _ | refine Below.alloc ?_ (by first | (simp; done) | (simp; omega) | omega) _)) b2
              have B2 := Lib.hid (below_step B1.out d2)
              have X2 := X1.keep d2
              clear X1 b2 d2 B1
              have cX_b := X2.hb
              have cX_f := X2.fz
              have cX_0 := X2.k0
              have cX_1 := X2.k1
              have cX_2 := X2.k2
              have cX_3 := X2.k3
              have cX_4 := X2.k4
              have cX_5 := X2.k5
              have cX_6 := X2.k6
              have cX_7 := X2.k7
              have cX_8 := X2.k8
              have cX_9 := X2.k9
              have cX_10 := X2.k10
              go_wp2_with fail
              clear cX_b cX_f cX_0 cX_1 cX_2 cX_3 cX_4 cX_5 cX_6 cX_7 cX_8 cX_9 cX_10
              go_ret
              exact ⟨rfl, (by have hz := B2.out.size; repeat (first | exact B2.out | refine below_drewN ?_ _ | refine Below.drew ?_ | refine Below.setCell ?_ (by first | omega | (simp; done) | (simp; omega)) _ | refine Below.alloc ?_ (by first | omega | (simp; done) | (simp; omega)) _))⟩
            · skip
              by_cases h6 : -10800 ≤ save
              · have g6 : decide (-10800 ≤ save) = true := decide_eq_true h6
                by_cases h7 : save ≤ 10800
                · have g7 : decide (save ≤ 10800) = true := decide_eq_true h7
                  by_cases h8 : q7 = 0
                  · have g8 : (q7 == 0) = true := by rw [beq_iff_eq]; exact h8
                    have e : r = true := by rw [hr]; simp [h0, h1, h2, h3, h6, h7, h8]
                    rw [e]; clear e hr
                    go_enter Try.func26, Try.ntmps26
                    go_wp2_with fail
                    refine (LT.out _).mono ?_; rintro e v1 ⟨rfl, rfl⟩
                    go_wp2_with fail
                    refine (NM.out _).mono ?_; rintro e v2 ⟨rfl, rfl⟩
                    go_wp2_with fail
                    refine (OF.out _).mono ?_; rintro e w1 ⟨rfl, b1⟩
                    have d1 : Below w.heap.size w w1 := below_step (by repeat (first | exact Below.refl _ _ | refine below_drewN ?_ _ | refine Below.drew ?_ | refine Below.setCell ?_ (by first | (simp; done) | (simp; omega) | omega) _ | refine Below.alloc ?_ (by first | (simp; done) | (simp; omega) | omega) _)) b1
                    have B1 := Lib.hid d1
                    have X1 : Bk11 w1 (w.heap.size) (.string s) (.int .i64 fy) (.int .i64 ty) (.int .i64 m) (.int .i64 k) (.int .i64 wk) (.int .i64 d) (.int .i64 sec) (.int .i64 base) (.int .i64 save) (.string t) := Bk11.of b1 (by simp <;> omega) (by intro j; simp [go_sem]) (by simp [go_sem]) (by simp [go_sem]) (by simp [go_sem]) (by simp [go_sem]) (by simp [go_sem]) (by simp [go_sem]) (by simp [go_sem]) (by simp [go_sem]) (by simp [go_sem]) (by simp [go_sem]) (by simp [go_sem])
                    clear b1 d1
                    have cX_b := X1.hb
                    have cX_f := X1.fz
                    have cX_0 := X1.k0
                    have cX_1 := X1.k1
                    have cX_2 := X1.k2
                    have cX_3 := X1.k3
                    have cX_4 := X1.k4
                    have cX_5 := X1.k5
                    have cX_6 := X1.k6
                    have cX_7 := X1.k7
                    have cX_8 := X1.k8
                    have cX_9 := X1.k9
                    have cX_10 := X1.k10
                    go_wp2_with fail
                    clear cX_b cX_f cX_0 cX_1 cX_2 cX_3 cX_4 cX_5 cX_6 cX_7 cX_8 cX_9 cX_10
                    refine (CR.out _).mono ?_; rintro e w2 ⟨rfl, b2⟩
                    have d2 : Below w1.heap.size w1 w2 := below_step (by repeat (first | exact Below.refl _ _ | refine below_drewN ?_ _ | refine Below.drew ?_ | refine Below.setCell ?_ (by first | (simp; done) | (simp; omega) | omega) _ | refine Below.alloc ?_ (by first | (simp; done) | (simp; omega) | omega) _)) b2
                    have B2 := Lib.hid (below_step B1.out d2)
                    have X2 := X1.keep d2
                    clear X1 b2 d2 B1
                    have cX_b := X2.hb
                    have cX_f := X2.fz
                    have cX_0 := X2.k0
                    have cX_1 := X2.k1
                    have cX_2 := X2.k2
                    have cX_3 := X2.k3
                    have cX_4 := X2.k4
                    have cX_5 := X2.k5
                    have cX_6 := X2.k6
                    have cX_7 := X2.k7
                    have cX_8 := X2.k8
                    have cX_9 := X2.k9
                    have cX_10 := X2.k10
                    go_wp2_with fail
                    clear cX_b cX_f cX_0 cX_1 cX_2 cX_3 cX_4 cX_5 cX_6 cX_7 cX_8 cX_9 cX_10
                    go_ret
                    exact ⟨rfl, (by have hz := B2.out.size; repeat (first | exact B2.out | refine below_drewN ?_ _ | refine Below.drew ?_ | refine Below.setCell ?_ (by first | omega | (simp; done) | (simp; omega)) _ | refine Below.alloc ?_ (by first | omega | (simp; done) | (simp; omega)) _))⟩
                  · have g8 : (q7 == 0) = false := by rw [beq_eq_false_iff_ne]; exact h8
                    have e : r = false := by rw [hr]; simp [h0, h1, h2, h3, h6, h7, h8]
                    rw [e]; clear e hr
                    go_enter Try.func26, Try.ntmps26
                    go_wp2_with fail
                    refine (LT.out _).mono ?_; rintro e v1 ⟨rfl, rfl⟩
                    go_wp2_with fail
                    refine (NM.out _).mono ?_; rintro e v2 ⟨rfl, rfl⟩
                    go_wp2_with fail
                    refine (OF.out _).mono ?_; rintro e w1 ⟨rfl, b1⟩
                    have d1 : Below w.heap.size w w1 := below_step (by repeat (first | exact Below.refl _ _ | refine below_drewN ?_ _ | refine Below.drew ?_ | refine Below.setCell ?_ (by first | (simp; done) | (simp; omega) | omega) _ | refine Below.alloc ?_ (by first | (simp; done) | (simp; omega) | omega) _)) b1
                    have B1 := Lib.hid d1
                    have X1 : Bk11 w1 (w.heap.size) (.string s) (.int .i64 fy) (.int .i64 ty) (.int .i64 m) (.int .i64 k) (.int .i64 wk) (.int .i64 d) (.int .i64 sec) (.int .i64 base) (.int .i64 save) (.string t) := Bk11.of b1 (by simp <;> omega) (by intro j; simp [go_sem]) (by simp [go_sem]) (by simp [go_sem]) (by simp [go_sem]) (by simp [go_sem]) (by simp [go_sem]) (by simp [go_sem]) (by simp [go_sem]) (by simp [go_sem]) (by simp [go_sem]) (by simp [go_sem]) (by simp [go_sem])
                    clear b1 d1
                    have cX_b := X1.hb
                    have cX_f := X1.fz
                    have cX_0 := X1.k0
                    have cX_1 := X1.k1
                    have cX_2 := X1.k2
                    have cX_3 := X1.k3
                    have cX_4 := X1.k4
                    have cX_5 := X1.k5
                    have cX_6 := X1.k6
                    have cX_7 := X1.k7
                    have cX_8 := X1.k8
                    have cX_9 := X1.k9
                    have cX_10 := X1.k10
                    go_wp2_with fail
                    clear cX_b cX_f cX_0 cX_1 cX_2 cX_3 cX_4 cX_5 cX_6 cX_7 cX_8 cX_9 cX_10
                    refine (CR.out _).mono ?_; rintro e w2 ⟨rfl, b2⟩
                    have d2 : Below w1.heap.size w1 w2 := below_step (by repeat (first | exact Below.refl _ _ | refine below_drewN ?_ _ | refine Below.drew ?_ | refine Below.setCell ?_ (by first | (simp; done) | (simp; omega) | omega) _ | refine Below.alloc ?_ (by first | (simp; done) | (simp; omega) | omega) _)) b2
                    have B2 := Lib.hid (below_step B1.out d2)
                    have X2 := X1.keep d2
                    clear X1 b2 d2 B1
                    have cX_b := X2.hb
                    have cX_f := X2.fz
                    have cX_0 := X2.k0
                    have cX_1 := X2.k1
                    have cX_2 := X2.k2
                    have cX_3 := X2.k3
                    have cX_4 := X2.k4
                    have cX_5 := X2.k5
                    have cX_6 := X2.k6
                    have cX_7 := X2.k7
                    have cX_8 := X2.k8
                    have cX_9 := X2.k9
                    have cX_10 := X2.k10
                    go_wp2_with fail
                    clear cX_b cX_f cX_0 cX_1 cX_2 cX_3 cX_4 cX_5 cX_6 cX_7 cX_8 cX_9 cX_10
                    go_ret
                    exact ⟨rfl, (by have hz := B2.out.size; repeat (first | exact B2.out | refine below_drewN ?_ _ | refine Below.drew ?_ | refine Below.setCell ?_ (by first | omega | (simp; done) | (simp; omega)) _ | refine Below.alloc ?_ (by first | omega | (simp; done) | (simp; omega)) _))⟩
                · have g7 : decide (save ≤ 10800) = false := decide_eq_false h7
                  have e : r = false := by rw [hr]; simp [h0, h1, h2, h3, h6, h7]
                  rw [e]; clear e hr
                  go_enter Try.func26, Try.ntmps26
                  go_wp2_with fail
                  refine (LT.out _).mono ?_; rintro e v1 ⟨rfl, rfl⟩
                  go_wp2_with fail
                  refine (NM.out _).mono ?_; rintro e v2 ⟨rfl, rfl⟩
                  go_wp2_with fail
                  refine (OF.out _).mono ?_; rintro e w1 ⟨rfl, b1⟩
                  have d1 : Below w.heap.size w w1 := below_step (by repeat (first | exact Below.refl _ _ | refine below_drewN ?_ _ | refine Below.drew ?_ | refine Below.setCell ?_ (by first | (simp; done) | (simp; omega) | omega) _ | refine Below.alloc ?_ (by first | (simp; done) | (simp; omega) | omega) _)) b1
                  have B1 := Lib.hid d1
                  have X1 : Bk11 w1 (w.heap.size) (.string s) (.int .i64 fy) (.int .i64 ty) (.int .i64 m) (.int .i64 k) (.int .i64 wk) (.int .i64 d) (.int .i64 sec) (.int .i64 base) (.int .i64 save) (.string t) := Bk11.of b1 (by simp <;> omega) (by intro j; simp [go_sem]) (by simp [go_sem]) (by simp [go_sem]) (by simp [go_sem]) (by simp [go_sem]) (by simp [go_sem]) (by simp [go_sem]) (by simp [go_sem]) (by simp [go_sem]) (by simp [go_sem]) (by simp [go_sem]) (by simp [go_sem])
                  clear b1 d1
                  have cX_b := X1.hb
                  have cX_f := X1.fz
                  have cX_0 := X1.k0
                  have cX_1 := X1.k1
                  have cX_2 := X1.k2
                  have cX_3 := X1.k3
                  have cX_4 := X1.k4
                  have cX_5 := X1.k5
                  have cX_6 := X1.k6
                  have cX_7 := X1.k7
                  have cX_8 := X1.k8
                  have cX_9 := X1.k9
                  have cX_10 := X1.k10
                  go_wp2_with fail
                  clear cX_b cX_f cX_0 cX_1 cX_2 cX_3 cX_4 cX_5 cX_6 cX_7 cX_8 cX_9 cX_10
                  refine (CR.out _).mono ?_; rintro e w2 ⟨rfl, b2⟩
                  have d2 : Below w1.heap.size w1 w2 := below_step (by repeat (first | exact Below.refl _ _ | refine below_drewN ?_ _ | refine Below.drew ?_ | refine Below.setCell ?_ (by first | (simp; done) | (simp; omega) | omega) _ | refine Below.alloc ?_ (by first | (simp; done) | (simp; omega) | omega) _)) b2
                  have B2 := Lib.hid (below_step B1.out d2)
                  have X2 := X1.keep d2
                  clear X1 b2 d2 B1
                  have cX_b := X2.hb
                  have cX_f := X2.fz
                  have cX_0 := X2.k0
                  have cX_1 := X2.k1
                  have cX_2 := X2.k2
                  have cX_3 := X2.k3
                  have cX_4 := X2.k4
                  have cX_5 := X2.k5
                  have cX_6 := X2.k6
                  have cX_7 := X2.k7
                  have cX_8 := X2.k8
                  have cX_9 := X2.k9
                  have cX_10 := X2.k10
                  go_wp2_with fail
                  clear cX_b cX_f cX_0 cX_1 cX_2 cX_3 cX_4 cX_5 cX_6 cX_7 cX_8 cX_9 cX_10
                  go_ret
                  exact ⟨rfl, (by have hz := B2.out.size; repeat (first | exact B2.out | refine below_drewN ?_ _ | refine Below.drew ?_ | refine Below.setCell ?_ (by first | omega | (simp; done) | (simp; omega)) _ | refine Below.alloc ?_ (by first | omega | (simp; done) | (simp; omega)) _))⟩
              · have g6 : decide (-10800 ≤ save) = false := decide_eq_false h6
                have e : r = false := by rw [hr]; simp [h0, h1, h2, h3, h6]
                rw [e]; clear e hr
                go_enter Try.func26, Try.ntmps26
                go_wp2_with fail
                refine (LT.out _).mono ?_; rintro e v1 ⟨rfl, rfl⟩
                go_wp2_with fail
                refine (NM.out _).mono ?_; rintro e v2 ⟨rfl, rfl⟩
                go_wp2_with fail
                refine (OF.out _).mono ?_; rintro e w1 ⟨rfl, b1⟩
                have d1 : Below w.heap.size w w1 := below_step (by repeat (first | exact Below.refl _ _ | refine below_drewN ?_ _ | refine Below.drew ?_ | refine Below.setCell ?_ (by first | (simp; done) | (simp; omega) | omega) _ | refine Below.alloc ?_ (by first | (simp; done) | (simp; omega) | omega) _)) b1
                have B1 := Lib.hid d1
                have X1 : Bk11 w1 (w.heap.size) (.string s) (.int .i64 fy) (.int .i64 ty) (.int .i64 m) (.int .i64 k) (.int .i64 wk) (.int .i64 d) (.int .i64 sec) (.int .i64 base) (.int .i64 save) (.string t) := Bk11.of b1 (by simp <;> omega) (by intro j; simp [go_sem]) (by simp [go_sem]) (by simp [go_sem]) (by simp [go_sem]) (by simp [go_sem]) (by simp [go_sem]) (by simp [go_sem]) (by simp [go_sem]) (by simp [go_sem]) (by simp [go_sem]) (by simp [go_sem]) (by simp [go_sem])
                clear b1 d1
                have cX_b := X1.hb
                have cX_f := X1.fz
                have cX_0 := X1.k0
                have cX_1 := X1.k1
                have cX_2 := X1.k2
                have cX_3 := X1.k3
                have cX_4 := X1.k4
                have cX_5 := X1.k5
                have cX_6 := X1.k6
                have cX_7 := X1.k7
                have cX_8 := X1.k8
                have cX_9 := X1.k9
                have cX_10 := X1.k10
                go_wp2_with fail
                clear cX_b cX_f cX_0 cX_1 cX_2 cX_3 cX_4 cX_5 cX_6 cX_7 cX_8 cX_9 cX_10
                refine (CR.out _).mono ?_; rintro e w2 ⟨rfl, b2⟩
                have d2 : Below w1.heap.size w1 w2 := below_step (by repeat (first | exact Below.refl _ _ | refine below_drewN ?_ _ | refine Below.drew ?_ | refine Below.setCell ?_ (by first | (simp; done) | (simp; omega) | omega) _ | refine Below.alloc ?_ (by first | (simp; done) | (simp; omega) | omega) _)) b2
                have B2 := Lib.hid (below_step B1.out d2)
                have X2 := X1.keep d2
                clear X1 b2 d2 B1
                have cX_b := X2.hb
                have cX_f := X2.fz
                have cX_0 := X2.k0
                have cX_1 := X2.k1
                have cX_2 := X2.k2
                have cX_3 := X2.k3
                have cX_4 := X2.k4
                have cX_5 := X2.k5
                have cX_6 := X2.k6
                have cX_7 := X2.k7
                have cX_8 := X2.k8
                have cX_9 := X2.k9
                have cX_10 := X2.k10
                go_wp2_with fail
                clear cX_b cX_f cX_0 cX_1 cX_2 cX_3 cX_4 cX_5 cX_6 cX_7 cX_8 cX_9 cX_10
                go_ret
                exact ⟨rfl, (by have hz := B2.out.size; repeat (first | exact B2.out | refine below_drewN ?_ _ | refine Below.drew ?_ | refine Below.setCell ?_ (by first | omega | (simp; done) | (simp; omega)) _ | refine Below.alloc ?_ (by first | omega | (simp; done) | (simp; omega)) _))⟩
        · have g3 : decide (ty ≤ 32767) = false := decide_eq_false h3
          have e : r = false := by rw [hr]; simp [h0, h1, h2, h3]
          rw [e]; clear e hr
          go_enter Try.func26, Try.ntmps26
          go_wp2_with fail
          refine (LT.out _).mono ?_; rintro e v1 ⟨rfl, rfl⟩
          go_wp2_with fail
          refine (NM.out _).mono ?_; rintro e v2 ⟨rfl, rfl⟩
          go_wp2_with fail
          go_ret
          exact ⟨rfl, (by repeat (first | exact Below.refl _ _ | refine below_drewN ?_ _ | refine Below.drew ?_ | refine Below.setCell ?_ (by first | (simp; done) | (simp; omega) | omega) _ | refine Below.alloc ?_ (by first | (simp; done) | (simp; omega) | omega) _))⟩
      · have g2 : decide (fy ≤ ty) = false := decide_eq_false h2
        have e : r = false := by rw [hr]; simp [h0, h1, h2]
        rw [e]; clear e hr
        go_enter Try.func26, Try.ntmps26
        go_wp2_with fail
        refine (LT.out _).mono ?_; rintro e v1 ⟨rfl, rfl⟩
        go_wp2_with fail
        refine (NM.out _).mono ?_; rintro e v2 ⟨rfl, rfl⟩
        go_wp2_with fail
        go_ret
        exact ⟨rfl, (by repeat (first | exact Below.refl _ _ | refine below_drewN ?_ _ | refine Below.drew ?_ | refine Below.setCell ?_ (by first | (simp; done) | (simp; omega) | omega) _ | refine Below.alloc ?_ (by first | (simp; done) | (simp; omega) | omega) _))⟩
    · have g1 : decide (-32767 ≤ fy) = false := decide_eq_false h1
      have e : r = false := by rw [hr]; simp [h0, h1]
      rw [e]; clear e hr
      go_enter Try.func26, Try.ntmps26
      go_wp2_with fail
      refine (LT.out _).mono ?_; rintro e v1 ⟨rfl, rfl⟩
      go_wp2_with fail
      refine (NM.out _).mono ?_; rintro e v2 ⟨rfl, rfl⟩
      go_wp2_with fail
      go_ret
      exact ⟨rfl, (by repeat (first | exact Below.refl _ _ | refine below_drewN ?_ _ | refine Below.drew ?_ | refine Below.setCell ?_ (by first | (simp; done) | (simp; omega) | omega) _ | refine Below.alloc ?_ (by first | (simp; done) | (simp; omega) | omega) _))⟩
  · have g0 : (q0 == 0) = false := by rw [beq_eq_false_iff_ne]; exact h0
    have e : r = false := by rw [hr]; simp [h0]
    rw [e]; clear e hr
    go_enter Try.func26, Try.ntmps26
    go_wp2_with fail
    refine (LT.out _).mono ?_; rintro e v1 ⟨rfl, rfl⟩
    go_wp2_with fail
    refine (NM.out _).mono ?_; rintro e v2 ⟨rfl, rfl⟩
    go_wp2_with fail
    go_ret
    exact ⟨rfl, (by repeat (first | exact Below.refl _ _ | refine below_drewN ?_ _ | refine Below.drew ?_ | refine Below.setCell ?_ (by first | (simp; done) | (simp; omega) | omega) _ | refine Below.alloc ?_ (by first | (simp; done) | (simp; omega) | omega) _))⟩
end Go.Proofs.Ytjnhaabbnbcaeaa
