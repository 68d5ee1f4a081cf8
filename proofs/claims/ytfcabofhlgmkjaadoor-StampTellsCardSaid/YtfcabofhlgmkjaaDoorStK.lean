/- The contract of stamp.Secs; stamp.Read's in three ways. -/
import Derived.Test.YtfcabofhlgmkjaaDoorStI
set_option linter.unusedVariables false
set_option linter.unusedSimpArgs false
namespace Go.Proofs.YtfcabofhlgmkjaaDoor
open Go.RowKit Go.Sort

namespace St
/-- A stamp's second. -/
def sec (y m d h i s : Int) : Int := Cal.num y m d * 86400 + h * 3600 + i * 60 + s
end St
set_option maxHeartbeats 2000000 in
theorem ssecs_no (y m d h i s : Int) (w : World) (hr : St.rB y m d h i s = false) :
    Calls Tryd.prog 24 #[.agg #[.int .i64 y, .int .i64 m, .int .i64 d, .int .i64 h, .int .i64 i, .int .i64 s]] w fun e w' => e = .returned (.tuple #[.int .i64 0, .int .i64 1]) ∧ Below w.heap.size w w' := by
  have CR : Hid (∀ W, Calls Tryd.prog 33 #[.agg #[.int .i64 y, .int .i64 m, .int .i64 d, .int .i64 h, .int .i64 i, .int .i64 s]] W fun e w' => e = .returned (.bool false) ∧ Below W.heap.size W w') := fun W => hr ▸ sright_any y m d h i s W
  clear hr
  go_enter Tryd.func24, Tryd.ntmps24
  go_wp2_with fail
  refine (CR.out _).mono ?_; rintro e w1 ⟨rfl, b1⟩
  have d1 : Below w.heap.size w w1 := below_step (by repeat (first | exact Below.refl _ _ | refine below_drewN ?_ _ | refine Below.drew ?_ | refine Below.setCell ?_ (by first | (simp; done) | (simp; omega) | omega) _ | refine Below.alloc ?_ (by first | (simp; done) | (simp; omega) | omega) _)) b1
  have B1 := Lib.hid d1
  have X1 : Bk6 w1 (w.heap.size) (.int .i64 y) (.int .i64 m) (.int .i64 d) (.int .i64 h) (.int .i64 i) (.int .i64 s) := Bk6.of b1 (by simp <;> omega) (by intro j; simp [go_sem]) (by simp [go_sem]) (by simp [go_sem]) (by simp [go_sem]) (by simp [go_sem]) (by simp [go_sem]) (by simp [go_sem])
  clear b1 d1
  have cX_b := X1.hb
  have cX_f := X1.fz
  have cX_0 := X1.k0
  have cX_1 := X1.k1
  have cX_2 := X1.k2
  have cX_3 := X1.k3
  have cX_4 := X1.k4
  have cX_5 := X1.k5
  go_wp2_with fail
  clear cX_b cX_f cX_0 cX_1 cX_2 cX_3 cX_4 cX_5
  go_ret2
  exact ⟨rfl, (by have hz := B1.out.size; repeat (first | exact B1.out | refine below_drewN ?_ _ | refine Below.drew ?_ | refine Below.setCell ?_ (by first | omega | (simp; done) | (simp; omega)) _ | refine Below.alloc ?_ (by first | omega | (simp; done) | (simp; omega)) _))⟩
set_option maxHeartbeats 2000000 in
theorem ssecs_yes (y m d h i s : Int) (w : World) (hr : St.rB y m d h i s = true) :
    Calls Tryd.prog 24 #[.agg #[.int .i64 y, .int .i64 m, .int .i64 d, .int .i64 h, .int .i64 i, .int .i64 s]] w fun e w' => e = .returned (.tuple #[.int .i64 (St.sec y m d h i s), .int .i64 0]) ∧ Below w.heap.size w w' := by
  have CR : Hid (∀ W, Calls Tryd.prog 33 #[.agg #[.int .i64 y, .int .i64 m, .int .i64 d, .int .i64 h, .int .i64 i, .int .i64 s]] W fun e w' => e = .returned (.bool true) ∧ Below W.heap.size W w') := fun W => hr ▸ sright_any y m d h i s W
  obtain ⟨hR, h0, h1, i0, i1, s0, s1⟩ := St.rB_true.1 hr
  have CD : Hid (∀ W, Calls Tryd.prog 60 #[.agg #[.int .i64 y, .int .i64 m, .int .i64 d]] W fun e w' => e = .returned (.tuple #[.int .i64 (Cal.num y m d), .int .i64 0]) ∧ Below W.heap.size W w') := fun W => by
    have := days_any y m d W
    rw [hR] at this
    exact this
  have nb := Cal.num_range (right_true.1 hR)
  unfold St.sec
  generalize Cal.num y m d = n at *
  obtain ⟨n0, n1⟩ := nb
  clear hr hR
  go_enter Tryd.func24, Tryd.ntmps24
  go_wp2_with fail
  refine (CR.out _).mono ?_; rintro e w1 ⟨rfl, b1⟩
  have d1 : Below w.heap.size w w1 := below_step (by repeat (first | exact Below.refl _ _ | refine below_drewN ?_ _ | refine Below.drew ?_ | refine Below.setCell ?_ (by first | (simp; done) | (simp; omega) | omega) _ | refine Below.alloc ?_ (by first | (simp; done) | (simp; omega) | omega) _)) b1
  have B1 := Lib.hid d1
  have X1 : Bk6 w1 (w.heap.size) (.int .i64 y) (.int .i64 m) (.int .i64 d) (.int .i64 h) (.int .i64 i) (.int .i64 s) := Bk6.of b1 (by simp <;> omega) (by intro j; simp [go_sem]) (by simp [go_sem]) (by simp [go_sem]) (by simp [go_sem]) (by simp [go_sem]) (by simp [go_sem]) (by simp [go_sem])
  clear b1 d1
  have cX_b := X1.hb
  have cX_f := X1.fz
  have cX_0 := X1.k0
  have cX_1 := X1.k1
  have cX_2 := X1.k2
  have cX_3 := X1.k3
  have cX_4 := X1.k4
  have cX_5 := X1.k5
  go_wp2_with fail
  clear cX_b cX_f cX_0 cX_1 cX_2 cX_3 cX_4 cX_5
  refine (CD.out _).mono ?_; rintro e w2 ⟨rfl, b2⟩
  have d2 : Below w1.heap.size w1 w2 := below_step (by repeat (first | exact Below.refl _ _ | refine below_drewN ?_ _ | refine Below.drew ?_ | refine Below.setCell ?_ (by first | (simp; done) | (simp; omega) | omega) _ | refine Below.alloc ?_ (by first | (simp; done) | (simp; omega) | omega) _)) b2
  have B2 := Lib.hid (below_step B1.out d2)
  have X2 := X1.keep d2
  clear X1 b2 d2 B1
  have cX_b := X2.hb
  have cX_f := X2.fz
  have cX_0 := X2.k0
  have cX_1 := X2.k1
  have cX_2 := X2.k2
  have cX_3 := X2.k3
  have cX_4 := X2.k4
  have cX_5 := X2.k5
  go_wp2_with fail
  clear cX_b cX_f cX_0 cX_1 cX_2 cX_3 cX_4 cX_5
  go_ret2
  exact ⟨rfl, (by have hz := B2.out.size; repeat (first | exact B2.out | refine below_drewN ?_ _ | refine Below.drew ?_ | refine Below.setCell ?_ (by first | omega | (simp; done) | (simp; omega)) _ | refine Below.alloc ?_ (by first | omega | (simp; done) | (simp; omega)) _))⟩
theorem sread_form (s : ByteArray) (hs : s.size ≤ maxLen) (h : Rd.form s.data.toList = false) (w : World) :
    Calls Tryd.prog 28 #[.string s] w fun e w' => e = .returned (.tuple #[.agg #[.int .i64 0, .int .i64 0, .int .i64 0, .int .i64 0, .int .i64 0, .int .i64 0], .int .i64 4]) ∧ Below w.heap.size w w' := by
  by_cases h15 : s.size < 15
  · exact sread_short s w h15
  · unfold Rd.form at h
    rw [bl_len, decide_eq_true (show 15 ≤ s.size by omega), Bool.true_and] at h
    cases hy : Rd.isY (Rd.hd s.data.toList)
    · exact sread_noyear s w hs (by omega) hy
    · rw [hy, Bool.true_and] at h
      exact sread_nobeh s w hs (by omega) hy h
theorem form_iff {s : ByteArray} : Rd.form s.data.toList = true ↔ 15 ≤ s.size ∧ Rd.isY (Rd.hd s.data.toList) = true ∧ Rd.bOk (Rd.tl s.data.toList) = true := by
  unfold Rd.form
  rw [bl_len, Bool.and_eq_true, Bool.and_eq_true, decide_eq_true_eq]
theorem sread_range (s : ByteArray) (hs : s.size ≤ maxLen) (h : Rd.form s.data.toList = true) (h2 : Rd.ok s.data.toList = false) (w : World) :
    Calls Tryd.prog 28 #[.string s] w fun e w' => e = .returned (.tuple #[.agg #[.int .i64 0, .int .i64 0, .int .i64 0, .int .i64 0, .int .i64 0, .int .i64 0], .int .i64 1]) ∧ Below w.heap.size w w' := by
  obtain ⟨a, b, c⟩ := form_iff.1 h
  unfold Rd.ok at h2
  rw [h, Bool.true_and] at h2
  cases hl : Rd.yl (Rd.hd s.data.toList)
  · exact sread_long s w hs a b c hl
  · rw [hl, Bool.true_and] at h2
    exact sread_wrong s w hs a b c hl h2
theorem sread_ok (s : ByteArray) (hs : s.size ≤ maxLen) (h : Rd.ok s.data.toList = true) (w : World) :
    Calls Tryd.prog 28 #[.string s] w fun e w' => e = .returned (.tuple #[.agg #[.int .i64 (Rd.yv (Rd.hd s.data.toList)), .int .i64 (Rd.pV (Rd.tl s.data.toList) 0), .int .i64 (Rd.pV (Rd.tl s.data.toList) 1), .int .i64 (Rd.pV (Rd.tl s.data.toList) 2), .int .i64 (Rd.pV (Rd.tl s.data.toList) 3), .int .i64 (Rd.pV (Rd.tl s.data.toList) 4)], .int .i64 0]) ∧ Below w.heap.size w w' := by
  unfold Rd.ok at h
  rw [Bool.and_eq_true, Bool.and_eq_true] at h
  obtain ⟨h1, h2, h3⟩ := h
  obtain ⟨a, b, c⟩ := form_iff.1 h1
  exact sread_right s w hs a b c h2 h3
end Go.Proofs.YtfcabofhlgmkjaaDoor

