/- Stamps that are read, and their numbers: the program's and the reference's answers at any input. -/
import Derived.Test.YtfcabofhlgmkjaaDoorRsG
import Derived.Test.YtfcabofhlgmkjaaDoorRefD
import Derived.Test.YtfcabofhlgmkjaaDoorStK
set_option linter.unusedVariables false
set_option linter.unusedSimpArgs false
namespace Go.Proofs.YtfcabofhlgmkjaaDoor
open Go.RowKit

namespace Rd
/-- A stamp that is read, and why not. -/
def rv (t : List UInt8) : Value := if form t then (if ok t then .tuple #[.agg #[.int .i64 (yv (hd t)), .int .i64 (pV (tl t) 0), .int .i64 (pV (tl t) 1), .int .i64 (pV (tl t) 2), .int .i64 (pV (tl t) 3), .int .i64 (pV (tl t) 4)], .int .i64 0] else .tuple #[.agg #[.int .i64 0, .int .i64 0, .int .i64 0, .int .i64 0, .int .i64 0, .int .i64 0], .int .i64 1]) else .tuple #[.agg #[.int .i64 0, .int .i64 0, .int .i64 0, .int .i64 0, .int .i64 0, .int .i64 0], .int .i64 4]
end Rd
theorem rsread_any (s : ByteArray) (w : World) (hm : s.size ≤ 1000) :
    Calls Tryd.prog 29 #[.string s] w fun e w' => e = .returned (Rd.rv s.data.toList) ∧ Below w.heap.size w w' := by
  have e : s.data.toList.length = s.size := Num.rn_len s
  by_cases hs : 15 ≤ s.size
  · have hH : (s.extract 0 (s.size - 15)).data.toList = Rd.hd s.data.toList := by
      rw [rf_list, List.drop_zero]; unfold Rd.hd; rw [e]
    have zH : (s.extract 0 (s.size - 15)).size ≤ 1000 := by rw [ByteArray.size_extract]; omega
    have CY : Hid (∀ W, Calls Tryd.prog 75 #[.string (s.extract 0 (s.size - 15))] W fun e w' => e = .returned (.tuple #[.int .i64 (Rd.y4 (Rd.hd s.data.toList)).1, .int .i64 (Rd.y4 (Rd.hd s.data.toList)).2]) ∧ W = w') := fun W => by
      rw [← hH]; exact ry4_any _ W zH
    have hf : Rd.form s.data.toList = (Rd.isY (Rd.hd s.data.toList) && Rd.bOk (Rd.tl s.data.toList)) := by
      unfold Rd.form; rw [e, decide_eq_true hs, Bool.true_and]
    refine rsread_main s _ _ _ w hs hm CY ?_ ?_ ?_ ?_
    · intro hb
      unfold Rd.rv; rw [hf, hb, Bool.and_false]; rfl
    · intro hb hy
      unfold Rd.rv; rw [hf, hb, Bool.and_true]
      unfold Rd.y4 at hy ⊢
      cases hY : Rd.isY (Rd.hd s.data.toList)
      · rfl
      · rw [hY] at hy
        have ho : Rd.ok s.data.toList = (Rd.yl (Rd.hd s.data.toList) && St.rB (Rd.yv (Rd.hd s.data.toList)) (Rd.pV (Rd.tl s.data.toList) 0) (Rd.pV (Rd.tl s.data.toList) 1) (Rd.pV (Rd.tl s.data.toList) 2) (Rd.pV (Rd.tl s.data.toList) 3) (Rd.pV (Rd.tl s.data.toList) 4)) := by unfold Rd.ok; rw [hf, hY, hb]; rfl
        cases hl : Rd.yl (Rd.hd s.data.toList)
        · rw [ho, hl]; rfl
        · rw [hl] at hy; exact absurd hy (by simp)
    · intro hb hy hr
      unfold Rd.rv; rw [hf, hb, Bool.and_true]
      unfold Rd.y4 at hy hr
      cases hY : Rd.isY (Rd.hd s.data.toList)
      · rw [hY] at hy; exact absurd hy (by simp)
      · rw [hY] at hy hr
        have ho : Rd.ok s.data.toList = (Rd.yl (Rd.hd s.data.toList) && St.rB (Rd.yv (Rd.hd s.data.toList)) (Rd.pV (Rd.tl s.data.toList) 0) (Rd.pV (Rd.tl s.data.toList) 1) (Rd.pV (Rd.tl s.data.toList) 2) (Rd.pV (Rd.tl s.data.toList) 3) (Rd.pV (Rd.tl s.data.toList) 4)) := by unfold Rd.ok; rw [hf, hY, hb]; rfl
        cases hl : Rd.yl (Rd.hd s.data.toList)
        · rw [hl] at hy; exact absurd hy (by simp)
        · rw [hl] at hr
          rw [ho, hl]
          have hr' : St.rB (Rd.yv (Rd.hd s.data.toList)) (Rd.pV (Rd.tl s.data.toList) 0) (Rd.pV (Rd.tl s.data.toList) 1) (Rd.pV (Rd.tl s.data.toList) 2) (Rd.pV (Rd.tl s.data.toList) 3) (Rd.pV (Rd.tl s.data.toList) 4) = false := hr
          rw [hr']; rfl
    · intro hb hy hr
      unfold Rd.rv; rw [hf, hb, Bool.and_true]
      unfold Rd.y4 at hy hr ⊢
      cases hY : Rd.isY (Rd.hd s.data.toList)
      · rw [hY] at hy; exact absurd hy (by simp)
      · rw [hY] at hy hr
        have ho : Rd.ok s.data.toList = (Rd.yl (Rd.hd s.data.toList) && St.rB (Rd.yv (Rd.hd s.data.toList)) (Rd.pV (Rd.tl s.data.toList) 0) (Rd.pV (Rd.tl s.data.toList) 1) (Rd.pV (Rd.tl s.data.toList) 2) (Rd.pV (Rd.tl s.data.toList) 3) (Rd.pV (Rd.tl s.data.toList) 4)) := by unfold Rd.ok; rw [hf, hY, hb]; rfl
        cases hl : Rd.yl (Rd.hd s.data.toList)
        · rw [hl] at hy; exact absurd hy (by simp)
        · rw [hl] at hr
          rw [ho, hl]
          have hr' : St.rB (Rd.yv (Rd.hd s.data.toList)) (Rd.pV (Rd.tl s.data.toList) 0) (Rd.pV (Rd.tl s.data.toList) 1) (Rd.pV (Rd.tl s.data.toList) 2) (Rd.pV (Rd.tl s.data.toList) 3) (Rd.pV (Rd.tl s.data.toList) 4) = true := hr
          rw [hr']; rfl
  · have hf : Rd.form s.data.toList = false := by unfold Rd.form; rw [e, decide_eq_false hs]; rfl
    unfold Rd.rv
    rw [hf]
    exact rsread_short s w (by omega)
theorem sread_rv (s : ByteArray) (w : World) (hm : s.size ≤ 1000) :
    Calls Tryd.prog 28 #[.string s] w fun e w' => e = .returned (Rd.rv s.data.toList) ∧ Below w.heap.size w w' := by
  have hs : s.size ≤ maxLen := by unfold maxLen; omega
  unfold Rd.rv
  cases hf : Rd.form s.data.toList
  · exact sread_form s hs hf w
  · cases ho : Rd.ok s.data.toList
    · exact sread_range s hs hf ho w
    · exact sread_ok s hs ho w
set_option maxHeartbeats 2000000 in
theorem rssecs_no (y m d h i s : Int) (w : World) (hr : St.rB y m d h i s = false) :
    Calls Tryd.prog 25 #[.agg #[.int .i64 y, .int .i64 m, .int .i64 d, .int .i64 h, .int .i64 i, .int .i64 s]] w fun e w' => e = .returned (.tuple #[.int .i64 0, .int .i64 1]) ∧ Below w.heap.size w w' := by
  have CR : Hid (∀ W, Calls Tryd.prog 34 #[.agg #[.int .i64 y, .int .i64 m, .int .i64 d, .int .i64 h, .int .i64 i, .int .i64 s]] W fun e w' => e = .returned (.bool false) ∧ Below W.heap.size W w') := fun W => hr ▸ rsright_any y m d h i s W
  clear hr
  go_enter Tryd.func25, Tryd.ntmps25
  go_wp2_with fail
  refine (CR.out _).mono ?_; rintro e w1 ⟨rfl, b1⟩
  have d1 : Below w.heap.size w w1 := below_step (by repeat (first | exact Below.refl _ _ | refine below_drewN ?_ _ | refine Below.drew ?_ | refine Below.setCell ?_ (by first | (simp; done) | (simp; omega) | omega) _ | refine Below.alloc ?_ (by first | (simp; done) | (simp; omega) | omega) _)) b1
  have B1 := Lib.hid d1
  have X1 : Bk6 w1 (w.heap.size) (.int .i64 y) (.int .i64 m) (.int .i64 d) (.int .i64 h) (.int .i64 i) (.int .i64 s) := Bk6.of b1 (by simp <;> omega) (by intro j; simp [go_sem]) (by simp [go_sem]) (by simp [go_sem]) (by simp [go_sem]) (by simp [go_sem]) (by simp [go_sem]) (by simp [go_sem])
  clear b1 d1
  have cX_b := X1.hb
  have cX_f := X1.fz
  have cX_0 := X1.k0
  have cX_1 := X1.k1
  have cX_2 := X1.k2
  have cX_3 := X1.k3
  have cX_4 := X1.k4
  have cX_5 := X1.k5
  go_wp2_with fail
  clear cX_b cX_f cX_0 cX_1 cX_2 cX_3 cX_4 cX_5
  go_ret2
  exact ⟨rfl, (by have hz := B1.out.size; repeat (first | exact B1.out | refine below_drewN ?_ _ | refine Below.drew ?_ | refine Below.setCell ?_ (by first | omega | (simp; done) | (simp; omega)) _ | refine Below.alloc ?_ (by first | omega | (simp; done) | (simp; omega)) _))⟩
set_option maxHeartbeats 2000000 in
theorem rssecs_yes (y m d h i s : Int) (w : World) (hr : St.rB y m d h i s = true) :
    Calls Tryd.prog 25 #[.agg #[.int .i64 y, .int .i64 m, .int .i64 d, .int .i64 h, .int .i64 i, .int .i64 s]] w fun e w' => e = .returned (.tuple #[.int .i64 (St.sec y m d h i s), .int .i64 0]) ∧ Below w.heap.size w w' := by
  have CR : Hid (∀ W, Calls Tryd.prog 34 #[.agg #[.int .i64 y, .int .i64 m, .int .i64 d, .int .i64 h, .int .i64 i, .int .i64 s]] W fun e w' => e = .returned (.bool true) ∧ Below W.heap.size W w') := fun W => hr ▸ rsright_any y m d h i s W
  obtain ⟨hR, h0, h1, i0, i1, s0, s1⟩ := St.rB_true.1 hr
  have CD : Hid (∀ W, Calls Tryd.prog 64 #[.agg #[.int .i64 y, .int .i64 m, .int .i64 d]] W fun e w' => e = .returned (.tuple #[.int .i64 (Cal.num y m d), .int .i64 0]) ∧ Below W.heap.size W w') := fun W => rdays_yes y m d W hR
  have nb := Cal.num_range (right_true.1 hR)
  unfold St.sec
  generalize Cal.num y m d = n at *
  obtain ⟨n0, n1⟩ := nb
  clear hr hR
  go_enter Tryd.func25, Tryd.ntmps25
  go_wp2_with fail
  refine (CR.out _).mono ?_; rintro e w1 ⟨rfl, b1⟩
  have d1 : Below w.heap.size w w1 := below_step (by repeat (first | exact Below.refl _ _ | refine below_drewN ?_ _ | refine Below.drew ?_ | refine Below.setCell ?_ (by first | (simp; done) | (simp; omega) | omega) _ | refine Below.alloc ?_ (by first | (simp; done) | (simp; omega) | omega) _)) b1
  have B1 := Lib.hid d1
  have X1 : Bk6 w1 (w.heap.size) (.int .i64 y) (.int .i64 m) (.int .i64 d) (.int .i64 h) (.int .i64 i) (.int .i64 s) := Bk6.of b1 (by simp <;> omega) (by intro j; simp [go_sem]) (by simp [go_sem]) (by simp [go_sem]) (by simp [go_sem]) (by simp [go_sem]) (by simp [go_sem]) (by simp [go_sem])
  clear b1 d1
  have cX_b := X1.hb
  have cX_f := X1.fz
  have cX_0 := X1.k0
  have cX_1 := X1.k1
  have cX_2 := X1.k2
  have cX_3 := X1.k3
  have cX_4 := X1.k4
  have cX_5 := X1.k5
  go_wp2_with fail
  clear cX_b cX_f cX_0 cX_1 cX_2 cX_3 cX_4 cX_5
  refine (CD.out _).mono ?_; rintro e w2 ⟨rfl, b2⟩
  have d2 : Below w1.heap.size w1 w2 := below_step (by repeat (first | exact Below.refl _ _ | refine below_drewN ?_ _ | refine Below.drew ?_ | refine Below.setCell ?_ (by first | (simp; done) | (simp; omega) | omega) _ | refine Below.alloc ?_ (by first | (simp; done) | (simp; omega) | omega) _)) b2
  have B2 := Lib.hid (below_step B1.out d2)
  have X2 := X1.keep d2
  clear X1 b2 d2 B1
  have cX_b := X2.hb
  have cX_f := X2.fz
  have cX_0 := X2.k0
  have cX_1 := X2.k1
  have cX_2 := X2.k2
  have cX_3 := X2.k3
  have cX_4 := X2.k4
  have cX_5 := X2.k5
  go_wp2_with fail
  clear cX_b cX_f cX_0 cX_1 cX_2 cX_3 cX_4 cX_5
  go_ret2
  exact ⟨rfl, (by have hz := B2.out.size; repeat (first | exact B2.out | refine below_drewN ?_ _ | refine Below.drew ?_ | refine Below.setCell ?_ (by first | omega | (simp; done) | (simp; omega)) _ | refine Below.alloc ?_ (by first | omega | (simp; done) | (simp; omega)) _))⟩
end Go.Proofs.YtfcabofhlgmkjaaDoor

