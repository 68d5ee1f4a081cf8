/- The walk of StampBack: whatever stamp and text, the law answers true; nothing old turns. -/
import Derived.Test.YtldpchkapcnfbaaDoorLiv4
import Derived.Lib.QuietBelow
set_option linter.unusedVariables false
set_option linter.unusedSimpArgs false
namespace Go.Proofs.YtldpchkapcnfbaaDoor
open Go.RowKit Go.Sort

namespace St
theorem sec_parts {y m d h i s : Int} (h0 : 0 ≤ h) (h1 : h < 24) (i0 : 0 ≤ i) (i1 : i < 60) (s0 : 0 ≤ s) (s1 : s < 60) :
    sec y m d h i s / 86400 = Cal.num y m d ∧ sec y m d h i s % 86400 / 3600 = h ∧ sec y m d h i s % 86400 / 60 % 60 = i ∧ sec y m d h i s % 86400 % 60 = s := by
  unfold sec
  generalize Cal.num y m d = n
  omega
theorem txt_size {y m d h i s : Int} (hr : rB y m d h i s = true) : (⟨(Tx.txt y m d h i s).toArray⟩ : ByteArray).size ≤ 60 ∧ 0 < (⟨(Tx.txt y m d h i s).toArray⟩ : ByteArray).size := by
  obtain ⟨hR, h0, h1, i0, i1, s0, s1⟩ := rB_true.1 hr
  have R := right_true.1 hR
  have hm := Cal.month_of R
  have hd := Cal.len_bd y m
  have hy := R
  obtain ⟨y0, y1, d0, d1⟩ := of_decide_eq_true (by unfold rightB at hR; exact hR)
  have hl := Tx.beh_len (m := m) (d := d) (h := h) (i := i) (s := s) (by omega) (by omega) (by omega) (by omega) h0 (by omega) i0 (by omega) s0 (by omega)
  have hyl := Tx.yr_len y (by omega) (by omega)
  show (Tx.txt y m d h i s).toArray.size ≤ 60 ∧ 0 < (Tx.txt y m d h i s).toArray.size
  rw [List.size_toArray]
  unfold Tx.txt
  rw [List.length_append, hl]
  omega
end St
theorem bne_of {ds : ByteArray} (h : 0 < ds.size) : ds.toList.isEmpty = false ∧ ¬ ds.toList = [] := by
  have : ds.toList ≠ [] := by
    intro e
    have hl := bl_len ds
    rw [← ByteArray.toList_eq] at hl
    rw [e] at hl; simp at hl; omega
  exact ⟨by simpa using this, this⟩
/-- A stamp that may be, its second, its text: read it is the stamp. -/
theorem back_yes (y m d h i s : Int) (hr : St.rB y m d h i s = true) : ∃ (n : Int) (t : ByteArray), t.toList.isEmpty = false ∧ ¬ t.toList = [] ∧
    Hid (∀ W, Calls Tryd.prog 27 #[.agg #[.int .i64 y, .int .i64 m, .int .i64 d, .int .i64 h, .int .i64 i, .int .i64 s]] W fun e w' => e = .returned (.tuple #[.int .i64 n, .int .i64 0]) ∧ Below W.heap.size W w') ∧
    Hid (∀ W, Calls Tryd.prog 22 #[.int .i64 n] W fun e w' => e = .returned (.tuple #[.agg #[.int .i64 y, .int .i64 m, .int .i64 d, .int .i64 h, .int .i64 i, .int .i64 s], .int .i64 0]) ∧ Below W.heap.size W w') ∧
    Hid (∀ W, Lib.TabIs Tryd.prog W "internal/strconv.uint64pow10" .u64 Lib.pow10Tab → Calls Tryd.prog 26 #[.agg #[.int .i64 y, .int .i64 m, .int .i64 d, .int .i64 h, .int .i64 i, .int .i64 s]] W fun e w' => e = .returned (.string t) ∧ Below W.heap.size W w') ∧
    Hid (∀ W, Calls Tryd.prog 29 #[.string t] W fun e w' => e = .returned (.tuple #[.agg #[.int .i64 y, .int .i64 m, .int .i64 d, .int .i64 h, .int .i64 i, .int .i64 s], .int .i64 0]) ∧ Below W.heap.size W w') := by
  obtain ⟨hR, h0, h1, i0, i1, s0, s1⟩ := St.rB_true.1 hr
  have R := right_true.1 hR
  have hm := Cal.month_of R
  have hd := Cal.len_bd y m
  obtain ⟨y0, y1, d0, d1⟩ := of_decide_eq_true (by unfold rightB at hR; exact hR)
  have nb := Cal.num_range R
  obtain ⟨e1, e2, e3⟩ := Cal.date_of_num R
  obtain ⟨q1, q2, q3, q4⟩ := St.sec_parts (y := y) (m := m) (d := d) h0 h1 i0 i1 s0 s1
  obtain ⟨z1, z2⟩ := St.txt_size hr
  obtain ⟨b1, b2⟩ := bne_of z2
  have hb : -9223372036854775808 ≤ St.sec y m d h i s ∧ St.sec y m d h i s ≤ 9223372036854775807 := by unfold St.sec; generalize Cal.num y m d = n at *; omega
  obtain ⟨o, v0, v1, v2, v3, v4, v5⟩ := Rd.txt_read hr (by omega) (by omega) (show 0 ≤ m by omega) (show m < 100 by omega) (show 0 ≤ d by omega) (show d < 100 by omega)
  refine ⟨St.sec y m d h i s, ⟨(Tx.txt y m d h i s).toArray⟩, b1, b2, fun W => ssecs_yes y m d h i s W hr, fun W => ?_, fun W T => ?_, fun W => ?_⟩
  · exact sof_c _ y m d h i s hb.1 hb.2 (by rw [q1]; exact Cal.hasD_true.2 nb) (by rw [q1]; exact e1) (by rw [q1]; exact e2) (by rw [q1]; exact e3) q2 q3 q4 W
  · exact stext_c y m d h i s _ (by unfold St.tx; rw [hr]; rfl) W T
  · have eqt : (⟨(Tx.txt y m d h i s).toArray⟩ : ByteArray).data.toList = Tx.txt y m d h i s := rfl
    generalize (⟨(Tx.txt y m d h i s).toArray⟩ : ByteArray) = tB at *
    exact sread_c tB y m d h i s (by rw [eqt]; exact o) (by unfold maxLen; omega) (by rw [eqt]; exact v0) (by rw [eqt]; exact v1) (by rw [eqt]; exact v2) (by rw [eqt]; exact v3) (by rw [eqt]; exact v4) (by rw [eqt]; exact v5) W
/-- What a text means: nothing, or a stamp whose text it is. -/
theorem back_text (t : ByteArray) (ht : t.size ≤ maxLen) :
    (∃ q : Int, (q == 0) = false ∧ (q != 0) = true ∧ Hid (∀ W, Calls Tryd.prog 29 #[.string t] W fun e w' => e = .returned (.tuple #[.agg #[.int .i64 0, .int .i64 0, .int .i64 0, .int .i64 0, .int .i64 0, .int .i64 0], .int .i64 q]) ∧ Below W.heap.size W w')) ∨
    ∃ y m d h i s : Int, Hid (∀ W, Calls Tryd.prog 29 #[.string t] W fun e w' => e = .returned (.tuple #[.agg #[.int .i64 y, .int .i64 m, .int .i64 d, .int .i64 h, .int .i64 i, .int .i64 s], .int .i64 0]) ∧ Below W.heap.size W w') ∧
      Hid (∀ W, Lib.TabIs Tryd.prog W "internal/strconv.uint64pow10" .u64 Lib.pow10Tab → Calls Tryd.prog 26 #[.agg #[.int .i64 y, .int .i64 m, .int .i64 d, .int .i64 h, .int .i64 i, .int .i64 s]] W fun e w' => e = .returned (.string t) ∧ Below W.heap.size W w') := by
  cases h1 : Rd.form t.data.toList
  · exact .inl ⟨4, rfl, rfl, fun W => sread_form t ht h1 W⟩
  · cases h2 : Rd.ok t.data.toList
    · exact .inl ⟨1, rfl, rfl, fun W => sread_range t ht h1 h2 W⟩
    · refine .inr ⟨_, _, _, _, _, _, fun W => sread_ok t ht h2 W, fun W T => ?_⟩
      have hr : St.rB (Rd.yv (Rd.hd t.data.toList)) (Rd.pV (Rd.tl t.data.toList) 0) (Rd.pV (Rd.tl t.data.toList) 1) (Rd.pV (Rd.tl t.data.toList) 2) (Rd.pV (Rd.tl t.data.toList) 3) (Rd.pV (Rd.tl t.data.toList) 4) = true := by
        unfold Rd.ok at h2
        rw [Bool.and_eq_true, Bool.and_eq_true] at h2
        exact h2.2.2
      have e : St.tx (Rd.yv (Rd.hd t.data.toList)) (Rd.pV (Rd.tl t.data.toList) 0) (Rd.pV (Rd.tl t.data.toList) 1) (Rd.pV (Rd.tl t.data.toList) 2) (Rd.pV (Rd.tl t.data.toList) 3) (Rd.pV (Rd.tl t.data.toList) 4) = t.data.toList := by
        unfold St.tx
        rw [hr]
        exact Rd.txt_back h1
      have := stext_c _ _ _ _ _ _ _ e W T
      exact this
set_option maxHeartbeats 4000000 in
set_option maxRecDepth 100000 in
theorem sback_long (y m d h i s : Int) (t : ByteArray) (w : World) (htab : Lib.TabIs Tryd.prog w "internal/strconv.uint64pow10" .u64 Lib.pow10Tab) (hl : (1000 : Int) < (t.size : Int)) :
    Calls Tryd.prog 5 #[.agg #[.int .i64 y, .int .i64 m, .int .i64 d, .int .i64 h, .int .i64 i, .int .i64 s], .string t] w fun e w' => e = .returned (.bool true) ∧ Below w.heap.size w w' := by
  have T0 := Lib.hid htab; clear htab
  have L := Lib.hid (fun w h => lives4 w h)
  go_enter Tryd.func5, Tryd.ntmps5
  go_wp2_with fail
  refine (L.out _ (var_keep (by repeat (first | exact Below.refl _ _ | refine below_drewN ?_ _ | refine Below.drew ?_ | refine Below.setCell ?_ (by first | (simp; done) | (simp; omega) | omega) _ | refine Below.alloc ?_ (by first | (simp; done) | (simp; omega) | omega) _)) T0.out)).mono ?_; rintro e w1 ⟨rfl, b1⟩
  have d1 : Below w.heap.size w w1 := below_step (by repeat (first | exact Below.refl _ _ | refine below_drewN ?_ _ | refine Below.drew ?_ | refine Below.setCell ?_ (by first | (simp; done) | (simp; omega) | omega) _ | refine Below.alloc ?_ (by first | (simp; done) | (simp; omega) | omega) _)) b1
  have B1 := Lib.hid d1
  have S1 : Bk6 w1 (w.heap.size) (.int .i64 y) (.int .i64 m) (.int .i64 d) (.int .i64 h) (.int .i64 i) (.int .i64 s) := Bk6.of b1 (by simp <;> omega) (by intro j; simp [go_sem]) (by simp [go_sem]) (by simp [go_sem]) (by simp [go_sem]) (by simp [go_sem]) (by simp [go_sem]) (by simp [go_sem])
  clear b1 d1
  have cS_b := S1.hb
  have cS_f := S1.fz
  have cS_0 := S1.k0
  have cS_1 := S1.k1
  have cS_2 := S1.k2
  have cS_3 := S1.k3
  have cS_4 := S1.k4
  have cS_5 := S1.k5
  go_wp2_with fail
  clear cS_b cS_f cS_0 cS_1 cS_2 cS_3 cS_4 cS_5
  go_ret
  exact ⟨rfl, (by have hz := B1.out.size; repeat (first | exact B1.out | refine below_drewN ?_ _ | refine Below.drew ?_ | refine Below.setCell ?_ (by first | omega | (simp; done) | (simp; omega)) _ | refine Below.alloc ?_ (by first | omega | (simp; done) | (simp; omega)) _))⟩
set_option maxHeartbeats 4000000 in
set_option maxRecDepth 100000 in
theorem sback_na (y m d h i s : Int) (t : ByteArray) (w : World) (htab : Lib.TabIs Tryd.prog w "internal/strconv.uint64pow10" .u64 Lib.pow10Tab) (hl : ¬ (1000 : Int) < (t.size : Int)) (hr : St.rB y m d h i s = false) (q : Int) (q1 : (q == 0) = false) (q2 : (q != 0) = true) (CT : Hid (∀ W, Calls Tryd.prog 29 #[.string t] W fun e w' => e = .returned (.tuple #[.agg #[.int .i64 0, .int .i64 0, .int .i64 0, .int .i64 0, .int .i64 0, .int .i64 0], .int .i64 q]) ∧ Below W.heap.size W w')) :
    Calls Tryd.prog 5 #[.agg #[.int .i64 y, .int .i64 m, .int .i64 d, .int .i64 h, .int .i64 i, .int .i64 s], .string t] w fun e w' => e = .returned (.bool true) ∧ Below w.heap.size w w' := by
  have T0 := Lib.hid htab; clear htab
  have L := Lib.hid (fun w h => lives4 w h)
  have CS := Lib.hid (fun W => ssecs_no y m d h i s W hr)
  have CX : Hid (∀ W, Lib.TabIs Tryd.prog W "internal/strconv.uint64pow10" .u64 Lib.pow10Tab → Calls Tryd.prog 26 #[.agg #[.int .i64 y, .int .i64 m, .int .i64 d, .int .i64 h, .int .i64 i, .int .i64 s]] W fun e w' => e = .returned (.string ⟨#[]⟩) ∧ Below W.heap.size W w') := fun W T => stext_c y m d h i s [] (by unfold St.tx; rw [hr]; rfl) W T
  have CR := Lib.hid (sright_c y m d h i s false hr)
  clear hr
  go_enter Tryd.func5, Tryd.ntmps5
  go_wp2_with fail
  refine (L.out _ (var_keep (by repeat (first | exact Below.refl _ _ | refine below_drewN ?_ _ | refine Below.drew ?_ | refine Below.setCell ?_ (by first | (simp; done) | (simp; omega) | omega) _ | refine Below.alloc ?_ (by first | (simp; done) | (simp; omega) | omega) _)) T0.out)).mono ?_; rintro e w1 ⟨rfl, b1⟩
  have d1 : Below w.heap.size w w1 := below_step (by repeat (first | exact Below.refl _ _ | refine below_drewN ?_ _ | refine Below.drew ?_ | refine Below.setCell ?_ (by first | (simp; done) | (simp; omega) | omega) _ | refine Below.alloc ?_ (by first | (simp; done) | (simp; omega) | omega) _)) b1
  have B1 := Lib.hid d1
  have S1 : Bk6 w1 (w.heap.size) (.int .i64 y) (.int .i64 m) (.int .i64 d) (.int .i64 h) (.int .i64 i) (.int .i64 s) := Bk6.of b1 (by simp <;> omega) (by intro j; simp [go_sem]) (by simp [go_sem]) (by simp [go_sem]) (by simp [go_sem]) (by simp [go_sem]) (by simp [go_sem]) (by simp [go_sem])
  clear b1 d1
  have cS_b := S1.hb
  have cS_f := S1.fz
  have cS_0 := S1.k0
  have cS_1 := S1.k1
  have cS_2 := S1.k2
  have cS_3 := S1.k3
  have cS_4 := S1.k4
  have cS_5 := S1.k5
  go_wp2_with fail
  clear cS_b cS_f cS_0 cS_1 cS_2 cS_3 cS_4 cS_5
  refine (CS.out _).mono ?_; rintro e w2 ⟨rfl, b2⟩
  have d2 : Below w1.heap.size w1 w2 := below_step (by repeat (first | exact Below.refl _ _ | refine below_drewN ?_ _ | refine Below.drew ?_ | refine Below.setCell ?_ (by first | (simp; done) | (simp; omega) | omega) _ | refine Below.alloc ?_ (by first | (simp; done) | (simp; omega) | omega) _)) b2
  have B2 := Lib.hid (below_step B1.out d2)
  have S2 := S1.keep d2
  clear S1 b2 d2 B1
  have cS_b := S2.hb
  have cS_f := S2.fz
  have cS_0 := S2.k0
  have cS_1 := S2.k1
  have cS_2 := S2.k2
  have cS_3 := S2.k3
  have cS_4 := S2.k4
  have cS_5 := S2.k5
  go_wp2_with fail
  clear cS_b cS_f cS_0 cS_1 cS_2 cS_3 cS_4 cS_5
  refine wp_named ?_; intro w3 hw3
  have d3 : Below w2.heap.size w2 w3 := by rw [hw3]; exact (by repeat (first | exact Below.refl _ _ | refine below_drewN ?_ _ | refine Below.drew ?_ | refine Below.setCell ?_ (by first | (simp; done) | (simp; omega) | omega) _ | refine Below.alloc ?_ (by first | (simp; done) | (simp; omega) | omega) _))
  have B3 := Lib.hid (below_step B2.out d3)
  have S3 := S2.keep d3
  clear S2 d3 hw3 B2
  have T1 := Lib.hid (var_keep B3.out T0.out)
  have qS_0 := cell_regrown S3.k0
  have qS_1 := cell_regrown S3.k1
  have qS_2 := cell_regrown S3.k2
  have qS_3 := cell_regrown S3.k3
  have qS_4 := cell_regrown S3.k4
  have qS_5 := cell_regrown S3.k5
  refine wp_region_qb (w := w3) (by kernel_rfl) (by kernel_rfl) (by repeat (first | exact Below.refl _ _ | refine below_drewN ?_ _ | refine Below.drew ?_ | refine Below.setCell ?_ (by first | (simp; done) | (simp; omega) | omega) _ | refine Below.alloc ?_ (by first | (simp; done) | (simp; omega) | omega) _)) ?_
  repeat (any_goals (first | go_big_quiet_step (first | (go_at_call 28; exact Calls.regrown_of (CR.out _)) | (go_at_call 26; exact Calls.regrown_of (CX.out _ (var_keep (below_regrown _ _ _) T1.out)))) | quiet_step (first | (go_at_call 28; exact Calls.regrown_of (CR.out _)) | (go_at_call 26; exact Calls.regrown_of (CX.out _ (var_keep (below_regrown _ _ _) T1.out))))))
  refine wpQuiet_nil ?_
  intro w4 hq
  have b4 : Below w3.heap.size w3 w4 := by obtain ⟨p, hq⟩ := hq; rw [hq]; exact below_regrown _ _ _
  clear hq qS_0 qS_1 qS_2 qS_3 qS_4 qS_5
  have d4 : Below w3.heap.size w3 w4 := below_step (by repeat (first | exact Below.refl _ _ | refine below_drewN ?_ _ | refine Below.drew ?_ | refine Below.setCell ?_ (by first | (simp; done) | (simp; omega) | omega) _ | refine Below.alloc ?_ (by first | (simp; done) | (simp; omega) | omega) _)) b4
  have B4 := Lib.hid (below_step B3.out d4)
  have S4 := S3.keep d4
  clear S3 b4 d4 B3
  have cS_b := S4.hb
  have cS_f := S4.fz
  have cS_0 := S4.k0
  have cS_1 := S4.k1
  have cS_2 := S4.k2
  have cS_3 := S4.k3
  have cS_4 := S4.k4
  have cS_5 := S4.k5
  go_wp2_with fail
  clear cS_b cS_f cS_0 cS_1 cS_2 cS_3 cS_4 cS_5
  refine (CT.out _).mono ?_; rintro e w5 ⟨rfl, b5⟩
  have d5 : Below w4.heap.size w4 w5 := below_step (by repeat (first | exact Below.refl _ _ | refine below_drewN ?_ _ | refine Below.drew ?_ | refine Below.setCell ?_ (by first | (simp; done) | (simp; omega) | omega) _ | refine Below.alloc ?_ (by first | (simp; done) | (simp; omega) | omega) _)) b5
  have B5 := Lib.hid (below_step B4.out d5)
  have S5 := S4.keep d5
  clear S4 b5 d5 B4
  have cS_b := S5.hb
  have cS_f := S5.fz
  have cS_0 := S5.k0
  have cS_1 := S5.k1
  have cS_2 := S5.k2
  have cS_3 := S5.k3
  have cS_4 := S5.k4
  have cS_5 := S5.k5
  go_wp2_with fail
  clear cS_b cS_f cS_0 cS_1 cS_2 cS_3 cS_4 cS_5
  go_ret
  exact ⟨rfl, (by have hz := B5.out.size; repeat (first | exact B5.out | refine below_drewN ?_ _ | refine Below.drew ?_ | refine Below.setCell ?_ (by first | omega | (simp; done) | (simp; omega)) _ | refine Below.alloc ?_ (by first | omega | (simp; done) | (simp; omega)) _))⟩
set_option maxHeartbeats 4000000 in
set_option maxRecDepth 100000 in
theorem sback_nb (y m d h i s : Int) (t : ByteArray) (w : World) (htab : Lib.TabIs Tryd.prog w "internal/strconv.uint64pow10" .u64 Lib.pow10Tab) (hl : ¬ (1000 : Int) < (t.size : Int)) (hr : St.rB y m d h i s = false) (y2 m2 d2 h2 i2 s2 : Int) (CT : Hid (∀ W, Calls Tryd.prog 29 #[.string t] W fun e w' => e = .returned (.tuple #[.agg #[.int .i64 y2, .int .i64 m2, .int .i64 d2, .int .i64 h2, .int .i64 i2, .int .i64 s2], .int .i64 0]) ∧ Below W.heap.size W w')) (CU : Hid (∀ W, Lib.TabIs Tryd.prog W "internal/strconv.uint64pow10" .u64 Lib.pow10Tab → Calls Tryd.prog 26 #[.agg #[.int .i64 y2, .int .i64 m2, .int .i64 d2, .int .i64 h2, .int .i64 i2, .int .i64 s2]] W fun e w' => e = .returned (.string t) ∧ Below W.heap.size W w')) :
    Calls Tryd.prog 5 #[.agg #[.int .i64 y, .int .i64 m, .int .i64 d, .int .i64 h, .int .i64 i, .int .i64 s], .string t] w fun e w' => e = .returned (.bool true) ∧ Below w.heap.size w w' := by
  have T0 := Lib.hid htab; clear htab
  have L := Lib.hid (fun w h => lives4 w h)
  have CS := Lib.hid (fun W => ssecs_no y m d h i s W hr)
  have CX : Hid (∀ W, Lib.TabIs Tryd.prog W "internal/strconv.uint64pow10" .u64 Lib.pow10Tab → Calls Tryd.prog 26 #[.agg #[.int .i64 y, .int .i64 m, .int .i64 d, .int .i64 h, .int .i64 i, .int .i64 s]] W fun e w' => e = .returned (.string ⟨#[]⟩) ∧ Below W.heap.size W w') := fun W T => stext_c y m d h i s [] (by unfold St.tx; rw [hr]; rfl) W T
  have CR := Lib.hid (sright_c y m d h i s false hr)
  clear hr
  go_enter Tryd.func5, Tryd.ntmps5
  go_wp2_with fail
  refine (L.out _ (var_keep (by repeat (first | exact Below.refl _ _ | refine below_drewN ?_ _ | refine Below.drew ?_ | refine Below.setCell ?_ (by first | (simp; done) | (simp; omega) | omega) _ | refine Below.alloc ?_ (by first | (simp; done) | (simp; omega) | omega) _)) T0.out)).mono ?_; rintro e w1 ⟨rfl, b1⟩
  have d1 : Below w.heap.size w w1 := below_step (by repeat (first | exact Below.refl _ _ | refine below_drewN ?_ _ | refine Below.drew ?_ | refine Below.setCell ?_ (by first | (simp; done) | (simp; omega) | omega) _ | refine Below.alloc ?_ (by first | (simp; done) | (simp; omega) | omega) _)) b1
  have B1 := Lib.hid d1
  have S1 : Bk6 w1 (w.heap.size) (.int .i64 y) (.int .i64 m) (.int .i64 d) (.int .i64 h) (.int .i64 i) (.int .i64 s) := Bk6.of b1 (by simp <;> omega) (by intro j; simp [go_sem]) (by simp [go_sem]) (by simp [go_sem]) (by simp [go_sem]) (by simp [go_sem]) (by simp [go_sem]) (by simp [go_sem])
  clear b1 d1
  have cS_b := S1.hb
  have cS_f := S1.fz
  have cS_0 := S1.k0
  have cS_1 := S1.k1
  have cS_2 := S1.k2
  have cS_3 := S1.k3
  have cS_4 := S1.k4
  have cS_5 := S1.k5
  go_wp2_with fail
  clear cS_b cS_f cS_0 cS_1 cS_2 cS_3 cS_4 cS_5
  refine (CS.out _).mono ?_; rintro e w2 ⟨rfl, b2⟩
  have d2 : Below w1.heap.size w1 w2 := below_step (by repeat (first | exact Below.refl _ _ | refine below_drewN ?_ _ | refine Below.drew ?_ | refine Below.setCell ?_ (by first | (simp; done) | (simp; omega) | omega) _ | refine Below.alloc ?_ (by first | (simp; done) | (simp; omega) | omega) _)) b2
  have B2 := Lib.hid (below_step B1.out d2)
  have S2 := S1.keep d2
  clear S1 b2 d2 B1
  have cS_b := S2.hb
  have cS_f := S2.fz
  have cS_0 := S2.k0
  have cS_1 := S2.k1
  have cS_2 := S2.k2
  have cS_3 := S2.k3
  have cS_4 := S2.k4
  have cS_5 := S2.k5
  go_wp2_with fail
  clear cS_b cS_f cS_0 cS_1 cS_2 cS_3 cS_4 cS_5
  refine wp_named ?_; intro w3 hw3
  have d3 : Below w2.heap.size w2 w3 := by rw [hw3]; exact (by repeat (first | exact Below.refl _ _ | refine below_drewN ?_ _ | refine Below.drew ?_ | refine Below.setCell ?_ (by first | (simp; done) | (simp; omega) | omega) _ | refine Below.alloc ?_ (by first | (simp; done) | (simp; omega) | omega) _))
  have B3 := Lib.hid (below_step B2.out d3)
  have S3 := S2.keep d3
  clear S2 d3 hw3 B2
  have T1 := Lib.hid (var_keep B3.out T0.out)
  have qS_0 := cell_regrown S3.k0
  have qS_1 := cell_regrown S3.k1
  have qS_2 := cell_regrown S3.k2
  have qS_3 := cell_regrown S3.k3
  have qS_4 := cell_regrown S3.k4
  have qS_5 := cell_regrown S3.k5
  refine wp_region_qb (w := w3) (by kernel_rfl) (by kernel_rfl) (by repeat (first | exact Below.refl _ _ | refine below_drewN ?_ _ | refine Below.drew ?_ | refine Below.setCell ?_ (by first | (simp; done) | (simp; omega) | omega) _ | refine Below.alloc ?_ (by first | (simp; done) | (simp; omega) | omega) _)) ?_
  repeat (any_goals (first | go_big_quiet_step (first | (go_at_call 28; exact Calls.regrown_of (CR.out _)) | (go_at_call 26; exact Calls.regrown_of (CX.out _ (var_keep (below_regrown _ _ _) T1.out)))) | quiet_step (first | (go_at_call 28; exact Calls.regrown_of (CR.out _)) | (go_at_call 26; exact Calls.regrown_of (CX.out _ (var_keep (below_regrown _ _ _) T1.out))))))
  refine wpQuiet_nil ?_
  intro w4 hq
  have b4 : Below w3.heap.size w3 w4 := by obtain ⟨p, hq⟩ := hq; rw [hq]; exact below_regrown _ _ _
  clear hq qS_0 qS_1 qS_2 qS_3 qS_4 qS_5
  have d4 : Below w3.heap.size w3 w4 := below_step (by repeat (first | exact Below.refl _ _ | refine below_drewN ?_ _ | refine Below.drew ?_ | refine Below.setCell ?_ (by first | (simp; done) | (simp; omega) | omega) _ | refine Below.alloc ?_ (by first | (simp; done) | (simp; omega) | omega) _)) b4
  have B4 := Lib.hid (below_step B3.out d4)
  have S4 := S3.keep d4
  clear S3 b4 d4 B3
  have cS_b := S4.hb
  have cS_f := S4.fz
  have cS_0 := S4.k0
  have cS_1 := S4.k1
  have cS_2 := S4.k2
  have cS_3 := S4.k3
  have cS_4 := S4.k4
  have cS_5 := S4.k5
  go_wp2_with fail
  clear cS_b cS_f cS_0 cS_1 cS_2 cS_3 cS_4 cS_5
  refine (CT.out _).mono ?_; rintro e w5 ⟨rfl, b5⟩
  have d5 : Below w4.heap.size w4 w5 := below_step (by repeat (first | exact Below.refl _ _ | refine below_drewN ?_ _ | refine Below.drew ?_ | refine Below.setCell ?_ (by first | (simp; done) | (simp; omega) | omega) _ | refine Below.alloc ?_ (by first | (simp; done) | (simp; omega) | omega) _)) b5
  have B5 := Lib.hid (below_step B4.out d5)
  have S5 := S4.keep d5
  clear S4 b5 d5 B4
  have cS_b := S5.hb
  have cS_f := S5.fz
  have cS_0 := S5.k0
  have cS_1 := S5.k1
  have cS_2 := S5.k2
  have cS_3 := S5.k3
  have cS_4 := S5.k4
  have cS_5 := S5.k5
  go_wp2_with fail
  clear cS_b cS_f cS_0 cS_1 cS_2 cS_3 cS_4 cS_5
  refine (CU.out _ (var_keep (by repeat (first | exact Below.refl _ _ | refine below_drewN ?_ _ | refine Below.drew ?_ | refine Below.setCell ?_ (by first | (simp; done) | (simp; omega) | omega) _ | refine Below.alloc ?_ (by first | (simp; done) | (simp; omega) | omega) _)) (var_keep B5.out T0.out))).mono ?_; rintro e w6 ⟨rfl, b6⟩
  have d6 : Below w5.heap.size w5 w6 := below_step (by repeat (first | exact Below.refl _ _ | refine below_drewN ?_ _ | refine Below.drew ?_ | refine Below.setCell ?_ (by first | (simp; done) | (simp; omega) | omega) _ | refine Below.alloc ?_ (by first | (simp; done) | (simp; omega) | omega) _)) b6
  have B6 := Lib.hid (below_step B5.out d6)
  have S6 := S5.keep d6
  have aC := B5.out.size
  have nCS := Nat.ne_of_lt S5.hb
  have oCS := Nat.ne_of_gt S5.hb
  have C6 : Bk6 w6 (w5.heap.size) (.int .i64 y2) (.int .i64 m2) (.int .i64 d2) (.int .i64 h2) (.int .i64 i2) (.int .i64 s2) := Bk6.of b6 (by simp <;> omega) (by intro j; simp [go_sem]) (by simp [go_sem]) (by simp [go_sem]) (by simp [go_sem]) (by simp [go_sem]) (by simp [go_sem]) (by simp [go_sem])
  clear S5 b6 d6 B5
  have cS_b := S6.hb
  have cS_f := S6.fz
  have cS_0 := S6.k0
  have cS_1 := S6.k1
  have cS_2 := S6.k2
  have cS_3 := S6.k3
  have cS_4 := S6.k4
  have cS_5 := S6.k5
  have cC_b := C6.hb
  have cC_f := C6.fz
  have cC_0 := C6.k0
  have cC_1 := C6.k1
  have cC_2 := C6.k2
  have cC_3 := C6.k3
  have cC_4 := C6.k4
  have cC_5 := C6.k5
  go_wp2_with fail
  clear cS_b cS_f cS_0 cS_1 cS_2 cS_3 cS_4 cS_5 cC_b cC_f cC_0 cC_1 cC_2 cC_3 cC_4 cC_5
  go_ret
  exact ⟨rfl, (by have hz := B6.out.size; repeat (first | exact B6.out | refine below_drewN ?_ _ | refine Below.drew ?_ | refine Below.setCell ?_ (by first | omega | (simp; done) | (simp; omega)) _ | refine Below.alloc ?_ (by first | omega | (simp; done) | (simp; omega)) _))⟩
set_option maxHeartbeats 4000000 in
set_option maxRecDepth 100000 in
theorem sback_ya (y m d h i s : Int) (t : ByteArray) (w : World) (htab : Lib.TabIs Tryd.prog w "internal/strconv.uint64pow10" .u64 Lib.pow10Tab) (hl : ¬ (1000 : Int) < (t.size : Int)) (hr : St.rB y m d h i s = true) (q : Int) (q1 : (q == 0) = false) (q2 : (q != 0) = true) (CT : Hid (∀ W, Calls Tryd.prog 29 #[.string t] W fun e w' => e = .returned (.tuple #[.agg #[.int .i64 0, .int .i64 0, .int .i64 0, .int .i64 0, .int .i64 0, .int .i64 0], .int .i64 q]) ∧ Below W.heap.size W w')) :
    Calls Tryd.prog 5 #[.agg #[.int .i64 y, .int .i64 m, .int .i64 d, .int .i64 h, .int .i64 i, .int .i64 s], .string t] w fun e w' => e = .returned (.bool true) ∧ Below w.heap.size w w' := by
  have T0 := Lib.hid htab; clear htab
  have L := Lib.hid (fun w h => lives4 w h)
  obtain ⟨n, tB, b1, b2, CS, CO, CX, CD⟩ := back_yes y m d h i s hr
  have CR := Lib.hid (sright_c y m d h i s true hr)
  clear hr
  go_enter Tryd.func5, Tryd.ntmps5
  go_wp2_with fail
  refine (L.out _ (var_keep (by repeat (first | exact Below.refl _ _ | refine below_drewN ?_ _ | refine Below.drew ?_ | refine Below.setCell ?_ (by first | (simp; done) | (simp; omega) | omega) _ | refine Below.alloc ?_ (by first | (simp; done) | (simp; omega) | omega) _)) T0.out)).mono ?_; rintro e w1 ⟨rfl, b1⟩
  have d1 : Below w.heap.size w w1 := below_step (by repeat (first | exact Below.refl _ _ | refine below_drewN ?_ _ | refine Below.drew ?_ | refine Below.setCell ?_ (by first | (simp; done) | (simp; omega) | omega) _ | refine Below.alloc ?_ (by first | (simp; done) | (simp; omega) | omega) _)) b1
  have B1 := Lib.hid d1
  have S1 : Bk6 w1 (w.heap.size) (.int .i64 y) (.int .i64 m) (.int .i64 d) (.int .i64 h) (.int .i64 i) (.int .i64 s) := Bk6.of b1 (by simp <;> omega) (by intro j; simp [go_sem]) (by simp [go_sem]) (by simp [go_sem]) (by simp [go_sem]) (by simp [go_sem]) (by simp [go_sem]) (by simp [go_sem])
  clear b1 d1
  have cS_b := S1.hb
  have cS_f := S1.fz
  have cS_0 := S1.k0
  have cS_1 := S1.k1
  have cS_2 := S1.k2
  have cS_3 := S1.k3
  have cS_4 := S1.k4
  have cS_5 := S1.k5
  go_wp2_with fail
  clear cS_b cS_f cS_0 cS_1 cS_2 cS_3 cS_4 cS_5
  refine (CS.out _).mono ?_; rintro e w2 ⟨rfl, b2⟩
  have d2 : Below w1.heap.size w1 w2 := below_step (by repeat (first | exact Below.refl _ _ | refine below_drewN ?_ _ | refine Below.drew ?_ | refine Below.setCell ?_ (by first | (simp; done) | (simp; omega) | omega) _ | refine Below.alloc ?_ (by first | (simp; done) | (simp; omega) | omega) _)) b2
  have B2 := Lib.hid (below_step B1.out d2)
  have S2 := S1.keep d2
  clear S1 b2 d2 B1
  have cS_b := S2.hb
  have cS_f := S2.fz
  have cS_0 := S2.k0
  have cS_1 := S2.k1
  have cS_2 := S2.k2
  have cS_3 := S2.k3
  have cS_4 := S2.k4
  have cS_5 := S2.k5
  go_wp2_with fail
  clear cS_b cS_f cS_0 cS_1 cS_2 cS_3 cS_4 cS_5
  refine wp_named ?_; intro w3 hw3
  have d3 : Below w2.heap.size w2 w3 := by rw [hw3]; exact (by repeat (first | exact Below.refl _ _ | refine below_drewN ?_ _ | refine Below.drew ?_ | refine Below.setCell ?_ (by first | (simp; done) | (simp; omega) | omega) _ | refine Below.alloc ?_ (by first | (simp; done) | (simp; omega) | omega) _))
  have B3 := Lib.hid (below_step B2.out d3)
  have S3 := S2.keep d3
  clear S2 d3 hw3 B2
  have T1 := Lib.hid (var_keep B3.out T0.out)
  have qS_0 := cell_regrown S3.k0
  have qS_1 := cell_regrown S3.k1
  have qS_2 := cell_regrown S3.k2
  have qS_3 := cell_regrown S3.k3
  have qS_4 := cell_regrown S3.k4
  have qS_5 := cell_regrown S3.k5
  refine wp_region_qb (w := w3) (by kernel_rfl) (by kernel_rfl) (by repeat (first | exact Below.refl _ _ | refine below_drewN ?_ _ | refine Below.drew ?_ | refine Below.setCell ?_ (by first | (simp; done) | (simp; omega) | omega) _ | refine Below.alloc ?_ (by first | (simp; done) | (simp; omega) | omega) _)) ?_
  repeat (any_goals (first | go_big_quiet_step (first | (go_at_call 28; exact Calls.regrown_of (CR.out _)) | (go_at_call 26; exact Calls.regrown_of (CX.out _ (var_keep (below_regrown _ _ _) T1.out)))) | quiet_step (first | (go_at_call 28; exact Calls.regrown_of (CR.out _)) | (go_at_call 26; exact Calls.regrown_of (CX.out _ (var_keep (below_regrown _ _ _) T1.out))))))
  refine wpQuiet_nil ?_
  intro w4 hq
  have b4 : Below w3.heap.size w3 w4 := by obtain ⟨p, hq⟩ := hq; rw [hq]; exact below_regrown _ _ _
  clear hq qS_0 qS_1 qS_2 qS_3 qS_4 qS_5
  have d4 : Below w3.heap.size w3 w4 := below_step (by repeat (first | exact Below.refl _ _ | refine below_drewN ?_ _ | refine Below.drew ?_ | refine Below.setCell ?_ (by first | (simp; done) | (simp; omega) | omega) _ | refine Below.alloc ?_ (by first | (simp; done) | (simp; omega) | omega) _)) b4
  have B4 := Lib.hid (below_step B3.out d4)
  have S4 := S3.keep d4
  clear S3 b4 d4 B3
  have cS_b := S4.hb
  have cS_f := S4.fz
  have cS_0 := S4.k0
  have cS_1 := S4.k1
  have cS_2 := S4.k2
  have cS_3 := S4.k3
  have cS_4 := S4.k4
  have cS_5 := S4.k5
  go_wp2_with fail
  clear cS_b cS_f cS_0 cS_1 cS_2 cS_3 cS_4 cS_5
  refine (CO.out _).mono ?_; rintro e w5 ⟨rfl, b5⟩
  have d5 : Below w4.heap.size w4 w5 := below_step (by repeat (first | exact Below.refl _ _ | refine below_drewN ?_ _ | refine Below.drew ?_ | refine Below.setCell ?_ (by first | (simp; done) | (simp; omega) | omega) _ | refine Below.alloc ?_ (by first | (simp; done) | (simp; omega) | omega) _)) b5
  have B5 := Lib.hid (below_step B4.out d5)
  have S5 := S4.keep d5
  clear S4 b5 d5 B4
  have cS_b := S5.hb
  have cS_f := S5.fz
  have cS_0 := S5.k0
  have cS_1 := S5.k1
  have cS_2 := S5.k2
  have cS_3 := S5.k3
  have cS_4 := S5.k4
  have cS_5 := S5.k5
  go_wp2_with fail
  clear cS_b cS_f cS_0 cS_1 cS_2 cS_3 cS_4 cS_5
  refine (CX.out _ (var_keep (by repeat (first | exact Below.refl _ _ | refine below_drewN ?_ _ | refine Below.drew ?_ | refine Below.setCell ?_ (by first | (simp; done) | (simp; omega) | omega) _ | refine Below.alloc ?_ (by first | (simp; done) | (simp; omega) | omega) _)) (var_keep B5.out T0.out))).mono ?_; rintro e w6 ⟨rfl, b6⟩
  have d6 : Below w5.heap.size w5 w6 := below_step (by repeat (first | exact Below.refl _ _ | refine below_drewN ?_ _ | refine Below.drew ?_ | refine Below.setCell ?_ (by first | (simp; done) | (simp; omega) | omega) _ | refine Below.alloc ?_ (by first | (simp; done) | (simp; omega) | omega) _)) b6
  have B6 := Lib.hid (below_step B5.out d6)
  have S6 := S5.keep d6
  have aA := B5.out.size
  have nAS := Nat.ne_of_lt S5.hb
  have oAS := Nat.ne_of_gt S5.hb
  have A6 : Bk6 w6 (w5.heap.size) (.int .i64 y) (.int .i64 m) (.int .i64 d) (.int .i64 h) (.int .i64 i) (.int .i64 s) := Bk6.of b6 (by simp <;> omega) (by intro j; simp [go_sem]) (by simp [go_sem]) (by simp [go_sem]) (by simp [go_sem]) (by simp [go_sem]) (by simp [go_sem]) (by simp [go_sem])
  clear S5 b6 d6 B5
  have cS_b := S6.hb
  have cS_f := S6.fz
  have cS_0 := S6.k0
  have cS_1 := S6.k1
  have cS_2 := S6.k2
  have cS_3 := S6.k3
  have cS_4 := S6.k4
  have cS_5 := S6.k5
  have cA_b := A6.hb
  have cA_f := A6.fz
  have cA_0 := A6.k0
  have cA_1 := A6.k1
  have cA_2 := A6.k2
  have cA_3 := A6.k3
  have cA_4 := A6.k4
  have cA_5 := A6.k5
  go_wp2_with fail
  clear cS_b cS_f cS_0 cS_1 cS_2 cS_3 cS_4 cS_5 cA_b cA_f cA_0 cA_1 cA_2 cA_3 cA_4 cA_5
  refine (CD.out _).mono ?_; rintro e w7 ⟨rfl, b7⟩
  have d7 : Below w6.heap.size w6 w7 := below_step (by repeat (first | exact Below.refl _ _ | refine below_drewN ?_ _ | refine Below.drew ?_ | refine Below.setCell ?_ (by first | (simp; done) | (simp; omega) | omega) _ | refine Below.alloc ?_ (by first | (simp; done) | (simp; omega) | omega) _)) b7
  have B7 := Lib.hid (below_step B6.out d7)
  have S7 := S6.keep d7
  have A7 := A6.keep d7
  clear S6 A6 b7 d7 B6
  have cS_b := S7.hb
  have cS_f := S7.fz
  have cS_0 := S7.k0
  have cS_1 := S7.k1
  have cS_2 := S7.k2
  have cS_3 := S7.k3
  have cS_4 := S7.k4
  have cS_5 := S7.k5
  have cA_b := A7.hb
  have cA_f := A7.fz
  have cA_0 := A7.k0
  have cA_1 := A7.k1
  have cA_2 := A7.k2
  have cA_3 := A7.k3
  have cA_4 := A7.k4
  have cA_5 := A7.k5
  go_wp2_with fail
  clear cS_b cS_f cS_0 cS_1 cS_2 cS_3 cS_4 cS_5 cA_b cA_f cA_0 cA_1 cA_2 cA_3 cA_4 cA_5
  refine (CT.out _).mono ?_; rintro e w8 ⟨rfl, b8⟩
  have d8 : Below w7.heap.size w7 w8 := below_step (by repeat (first | exact Below.refl _ _ | refine below_drewN ?_ _ | refine Below.drew ?_ | refine Below.setCell ?_ (by first | (simp; done) | (simp; omega) | omega) _ | refine Below.alloc ?_ (by first | (simp; done) | (simp; omega) | omega) _)) b8
  have B8 := Lib.hid (below_step B7.out d8)
  have S8 := S7.keep d8
  have A8 := A7.keep d8
  have aBb := B7.out.size
  have nBbS := Nat.ne_of_lt S7.hb
  have oBbS := Nat.ne_of_gt S7.hb
  have nBbA := Nat.ne_of_lt A7.hb
  have oBbA := Nat.ne_of_gt A7.hb
  have Bb8 : Bk6 w8 (w7.heap.size) (.int .i64 y) (.int .i64 m) (.int .i64 d) (.int .i64 h) (.int .i64 i) (.int .i64 s) := Bk6.of b8 (by simp <;> omega) (by intro j; simp [go_sem]) (by simp [go_sem]) (by simp [go_sem]) (by simp [go_sem]) (by simp [go_sem]) (by simp [go_sem]) (by simp [go_sem])
  clear S7 A7 b8 d8 B7
  have cS_b := S8.hb
  have cS_f := S8.fz
  have cS_0 := S8.k0
  have cS_1 := S8.k1
  have cS_2 := S8.k2
  have cS_3 := S8.k3
  have cS_4 := S8.k4
  have cS_5 := S8.k5
  have cA_b := A8.hb
  have cA_f := A8.fz
  have cA_0 := A8.k0
  have cA_1 := A8.k1
  have cA_2 := A8.k2
  have cA_3 := A8.k3
  have cA_4 := A8.k4
  have cA_5 := A8.k5
  have cBb_b := Bb8.hb
  have cBb_f := Bb8.fz
  have cBb_0 := Bb8.k0
  have cBb_1 := Bb8.k1
  have cBb_2 := Bb8.k2
  have cBb_3 := Bb8.k3
  have cBb_4 := Bb8.k4
  have cBb_5 := Bb8.k5
  go_wp2_with fail
  clear cS_b cS_f cS_0 cS_1 cS_2 cS_3 cS_4 cS_5 cA_b cA_f cA_0 cA_1 cA_2 cA_3 cA_4 cA_5 cBb_b cBb_f cBb_0 cBb_1 cBb_2 cBb_3 cBb_4 cBb_5
  go_ret
  exact ⟨rfl, (by have hz := B8.out.size; repeat (first | exact B8.out | refine below_drewN ?_ _ | refine Below.drew ?_ | refine Below.setCell ?_ (by first | omega | (simp; done) | (simp; omega)) _ | refine Below.alloc ?_ (by first | omega | (simp; done) | (simp; omega)) _))⟩
set_option maxHeartbeats 4000000 in
set_option maxRecDepth 100000 in
theorem sback_yb (y m d h i s : Int) (t : ByteArray) (w : World) (htab : Lib.TabIs Tryd.prog w "internal/strconv.uint64pow10" .u64 Lib.pow10Tab) (hl : ¬ (1000 : Int) < (t.size : Int)) (hr : St.rB y m d h i s = true) (y2 m2 d2 h2 i2 s2 : Int) (CT : Hid (∀ W, Calls Tryd.prog 29 #[.string t] W fun e w' => e = .returned (.tuple #[.agg #[.int .i64 y2, .int .i64 m2, .int .i64 d2, .int .i64 h2, .int .i64 i2, .int .i64 s2], .int .i64 0]) ∧ Below W.heap.size W w')) (CU : Hid (∀ W, Lib.TabIs Tryd.prog W "internal/strconv.uint64pow10" .u64 Lib.pow10Tab → Calls Tryd.prog 26 #[.agg #[.int .i64 y2, .int .i64 m2, .int .i64 d2, .int .i64 h2, .int .i64 i2, .int .i64 s2]] W fun e w' => e = .returned (.string t) ∧ Below W.heap.size W w')) :
    Calls Tryd.prog 5 #[.agg #[.int .i64 y, .int .i64 m, .int .i64 d, .int .i64 h, .int .i64 i, .int .i64 s], .string t] w fun e w' => e = .returned (.bool true) ∧ Below w.heap.size w w' := by
  have T0 := Lib.hid htab; clear htab
  have L := Lib.hid (fun w h => lives4 w h)
  obtain ⟨n, tB, b1, b2, CS, CO, CX, CD⟩ := back_yes y m d h i s hr
  have CR := Lib.hid (sright_c y m d h i s true hr)
  clear hr
  go_enter Tryd.func5, Tryd.ntmps5
  go_wp2_with fail
  refine (L.out _ (var_keep (by repeat (first | exact Below.refl _ _ | refine below_drewN ?_ _ | refine Below.drew ?_ | refine Below.setCell ?_ (by first | (simp; done) | (simp; omega) | omega) _ | refine Below.alloc ?_ (by first | (simp; done) | (simp; omega) | omega) _)) T0.out)).mono ?_; rintro e w1 ⟨rfl, b1⟩
  have d1 : Below w.heap.size w w1 := below_step (by repeat (first | exact Below.refl _ _ | refine below_drewN ?_ _ | refine Below.drew ?_ | refine Below.setCell ?_ (by first | (simp; done) | (simp; omega) | omega) _ | refine Below.alloc ?_ (by first | (simp; done) | (simp; omega) | omega) _)) b1
  have B1 := Lib.hid d1
  have S1 : Bk6 w1 (w.heap.size) (.int .i64 y) (.int .i64 m) (.int .i64 d) (.int .i64 h) (.int .i64 i) (.int .i64 s) := Bk6.of b1 (by simp <;> omega) (by intro j; simp [go_sem]) (by simp [go_sem]) (by simp [go_sem]) (by simp [go_sem]) (by simp [go_sem]) (by simp [go_sem]) (by simp [go_sem])
  clear b1 d1
  have cS_b := S1.hb
  have cS_f := S1.fz
  have cS_0 := S1.k0
  have cS_1 := S1.k1
  have cS_2 := S1.k2
  have cS_3 := S1.k3
  have cS_4 := S1.k4
  have cS_5 := S1.k5
  go_wp2_with fail
  clear cS_b cS_f cS_0 cS_1 cS_2 cS_3 cS_4 cS_5
  refine (CS.out _).mono ?_; rintro e w2 ⟨rfl, b2⟩
  have d2 : Below w1.heap.size w1 w2 := below_step (by repeat (first | exact Below.refl _ _ | refine below_drewN ?_ _ | refine Below.drew ?_ | refine Below.setCell ?_ (by first | (simp; done) | (simp; omega) | omega) _ | refine Below.alloc ?_ (by first | (simp; done) | (simp; omega) | omega) _)) b2
  have B2 := Lib.hid (below_step B1.out d2)
  have S2 := S1.keep d2
  clear S1 b2 d2 B1
  have cS_b := S2.hb
  have cS_f := S2.fz
  have cS_0 := S2.k0
  have cS_1 := S2.k1
  have cS_2 := S2.k2
  have cS_3 := S2.k3
  have cS_4 := S2.k4
  have cS_5 := S2.k5
  go_wp2_with fail
  clear cS_b cS_f cS_0 cS_1 cS_2 cS_3 cS_4 cS_5
  refine wp_named ?_; intro w3 hw3
  have d3 : Below w2.heap.size w2 w3 := by rw [hw3]; exact (by repeat (first | exact Below.refl _ _ | refine below_drewN ?_ _ | refine Below.drew ?_ | refine Below.setCell ?_ (by first | (simp; done) | (simp; omega) | omega) _ | refine Below.alloc ?_ (by first | (simp; done) | (simp; omega) | omega) _))
  have B3 := Lib.hid (below_step B2.out d3)
  have S3 := S2.keep d3
  clear S2 d3 hw3 B2
  have T1 := Lib.hid (var_keep B3.out T0.out)
  have qS_0 := cell_regrown S3.k0
  have qS_1 := cell_regrown S3.k1
  have qS_2 := cell_regrown S3.k2
  have qS_3 := cell_regrown S3.k3
  have qS_4 := cell_regrown S3.k4
  have qS_5 := cell_regrown S3.k5
  refine wp_region_qb (w := w3) (by kernel_rfl) (by kernel_rfl) (by repeat (first | exact Below.refl _ _ | refine below_drewN ?_ _ | refine Below.drew ?_ | refine Below.setCell ?_ (by first | (simp; done) | (simp; omega) | omega) _ | refine Below.alloc ?_ (by first | (simp; done) | (simp; omega) | omega) _)) ?_
  repeat (any_goals (first | go_big_quiet_step (first | (go_at_call 28; exact Calls.regrown_of (CR.out _)) | (go_at_call 26; exact Calls.regrown_of (CX.out _ (var_keep (below_regrown _ _ _) T1.out)))) | quiet_step (first | (go_at_call 28; exact Calls.regrown_of (CR.out _)) | (go_at_call 26; exact Calls.regrown_of (CX.out _ (var_keep (below_regrown _ _ _) T1.out))))))
  refine wpQuiet_nil ?_
  intro w4 hq
  have b4 : Below w3.heap.size w3 w4 := by obtain ⟨p, hq⟩ := hq; rw [hq]; exact below_regrown _ _ _
  clear hq qS_0 qS_1 qS_2 qS_3 qS_4 qS_5
  have d4 : Below w3.heap.size w3 w4 := below_step (by repeat (first | exact Below.refl _ _ | refine below_drewN ?_ _ | refine Below.drew ?_ | refine Below.setCell ?_ (by first | (simp; done) | (simp; omega) | omega) _ | refine Below.alloc ?_ (by first | (simp; done) | (simp; omega) | omega) _)) b4
  have B4 := Lib.hid (below_step B3.out d4)
  have S4 := S3.keep d4
  clear S3 b4 d4 B3
  have cS_b := S4.hb
  have cS_f := S4.fz
  have cS_0 := S4.k0
  have cS_1 := S4.k1
  have cS_2 := S4.k2
  have cS_3 := S4.k3
  have cS_4 := S4.k4
  have cS_5 := S4.k5
  go_wp2_with fail
  clear cS_b cS_f cS_0 cS_1 cS_2 cS_3 cS_4 cS_5
  refine (CO.out _).mono ?_; rintro e w5 ⟨rfl, b5⟩
  have d5 : Below w4.heap.size w4 w5 := below_step (by repeat (first | exact Below.refl _ _ | refine below_drewN ?_ _ | refine Below.drew ?_ | refine Below.setCell ?_ (by first | (simp; done) | (simp; omega) | omega) _ | refine Below.alloc ?_ (by first | (simp; done) | (simp; omega) | omega) _)) b5
  have B5 := Lib.hid (below_step B4.out d5)
  have S5 := S4.keep d5
  clear S4 b5 d5 B4
  have cS_b := S5.hb
  have cS_f := S5.fz
  have cS_0 := S5.k0
  have cS_1 := S5.k1
  have cS_2 := S5.k2
  have cS_3 := S5.k3
  have cS_4 := S5.k4
  have cS_5 := S5.k5
  go_wp2_with fail
  clear cS_b cS_f cS_0 cS_1 cS_2 cS_3 cS_4 cS_5
  refine (CX.out _ (var_keep (by repeat (first | exact Below.refl _ _ | refine below_drewN ?_ _ | refine Below.drew ?_ | refine Below.setCell ?_ (by first | (simp; done) | (simp; omega) | omega) _ | refine Below.alloc ?_ (by first | (simp; done) | (simp; omega) | omega) _)) (var_keep B5.out T0.out))).mono ?_; rintro e w6 ⟨rfl, b6⟩
  have d6 : Below w5.heap.size w5 w6 := below_step (by repeat (first | exact Below.refl _ _ | refine below_drewN ?_ _ | refine Below.drew ?_ | refine Below.setCell ?_ (by first | (simp; done) | (simp; omega) | omega) _ | refine Below.alloc ?_ (by first | (simp; done) | (simp; omega) | omega) _)) b6
  have B6 := Lib.hid (below_step B5.out d6)
  have S6 := S5.keep d6
  have aA := B5.out.size
  have nAS := Nat.ne_of_lt S5.hb
  have oAS := Nat.ne_of_gt S5.hb
  have A6 : Bk6 w6 (w5.heap.size) (.int .i64 y) (.int .i64 m) (.int .i64 d) (.int .i64 h) (.int .i64 i) (.int .i64 s) := Bk6.of b6 (by simp <;> omega) (by intro j; simp [go_sem]) (by simp [go_sem]) (by simp [go_sem]) (by simp [go_sem]) (by simp [go_sem]) (by simp [go_sem]) (by simp [go_sem])
  clear S5 b6 d6 B5
  have cS_b := S6.hb
  have cS_f := S6.fz
  have cS_0 := S6.k0
  have cS_1 := S6.k1
  have cS_2 := S6.k2
  have cS_3 := S6.k3
  have cS_4 := S6.k4
  have cS_5 := S6.k5
  have cA_b := A6.hb
  have cA_f := A6.fz
  have cA_0 := A6.k0
  have cA_1 := A6.k1
  have cA_2 := A6.k2
  have cA_3 := A6.k3
  have cA_4 := A6.k4
  have cA_5 := A6.k5
  go_wp2_with fail
  clear cS_b cS_f cS_0 cS_1 cS_2 cS_3 cS_4 cS_5 cA_b cA_f cA_0 cA_1 cA_2 cA_3 cA_4 cA_5
  refine (CD.out _).mono ?_; rintro e w7 ⟨rfl, b7⟩
  have d7 : Below w6.heap.size w6 w7 := below_step (by repeat (first | exact Below.refl _ _ | refine below_drewN ?_ _ | refine Below.drew ?_ | refine Below.setCell ?_ (by first | (simp; done) | (simp; omega) | omega) _ | refine Below.alloc ?_ (by first | (simp; done) | (simp; omega) | omega) _)) b7
  have B7 := Lib.hid (below_step B6.out d7)
  have S7 := S6.keep d7
  have A7 := A6.keep d7
  clear S6 A6 b7 d7 B6
  have cS_b := S7.hb
  have cS_f := S7.fz
  have cS_0 := S7.k0
  have cS_1 := S7.k1
  have cS_2 := S7.k2
  have cS_3 := S7.k3
  have cS_4 := S7.k4
  have cS_5 := S7.k5
  have cA_b := A7.hb
  have cA_f := A7.fz
  have cA_0 := A7.k0
  have cA_1 := A7.k1
  have cA_2 := A7.k2
  have cA_3 := A7.k3
  have cA_4 := A7.k4
  have cA_5 := A7.k5
  go_wp2_with fail
  clear cS_b cS_f cS_0 cS_1 cS_2 cS_3 cS_4 cS_5 cA_b cA_f cA_0 cA_1 cA_2 cA_3 cA_4 cA_5
  refine (CT.out _).mono ?_; rintro e w8 ⟨rfl, b8⟩
  have d8 : Below w7.heap.size w7 w8 := below_step (by repeat (first | exact Below.refl _ _ | refine below_drewN ?_ _ | refine Below.drew ?_ | refine Below.setCell ?_ (by first | (simp; done) | (simp; omega) | omega) _ | refine Below.alloc ?_ (by first | (simp; done) | (simp; omega) | omega) _)) b8
  have B8 := Lib.hid (below_step B7.out d8)
  have S8 := S7.keep d8
  have A8 := A7.keep d8
  have aBb := B7.out.size
  have nBbS := Nat.ne_of_lt S7.hb
  have oBbS := Nat.ne_of_gt S7.hb
  have nBbA := Nat.ne_of_lt A7.hb
  have oBbA := Nat.ne_of_gt A7.hb
  have Bb8 : Bk6 w8 (w7.heap.size) (.int .i64 y) (.int .i64 m) (.int .i64 d) (.int .i64 h) (.int .i64 i) (.int .i64 s) := Bk6.of b8 (by simp <;> omega) (by intro j; simp [go_sem]) (by simp [go_sem]) (by simp [go_sem]) (by simp [go_sem]) (by simp [go_sem]) (by simp [go_sem]) (by simp [go_sem])
  clear S7 A7 b8 d8 B7
  have cS_b := S8.hb
  have cS_f := S8.fz
  have cS_0 := S8.k0
  have cS_1 := S8.k1
  have cS_2 := S8.k2
  have cS_3 := S8.k3
  have cS_4 := S8.k4
  have cS_5 := S8.k5
  have cA_b := A8.hb
  have cA_f := A8.fz
  have cA_0 := A8.k0
  have cA_1 := A8.k1
  have cA_2 := A8.k2
  have cA_3 := A8.k3
  have cA_4 := A8.k4
  have cA_5 := A8.k5
  have cBb_b := Bb8.hb
  have cBb_f := Bb8.fz
  have cBb_0 := Bb8.k0
  have cBb_1 := Bb8.k1
  have cBb_2 := Bb8.k2
  have cBb_3 := Bb8.k3
  have cBb_4 := Bb8.k4
  have cBb_5 := Bb8.k5
  go_wp2_with fail
  clear cS_b cS_f cS_0 cS_1 cS_2 cS_3 cS_4 cS_5 cA_b cA_f cA_0 cA_1 cA_2 cA_3 cA_4 cA_5 cBb_b cBb_f cBb_0 cBb_1 cBb_2 cBb_3 cBb_4 cBb_5
  refine (CU.out _ (var_keep (by repeat (first | exact Below.refl _ _ | refine below_drewN ?_ _ | refine Below.drew ?_ | refine Below.setCell ?_ (by first | (simp; done) | (simp; omega) | omega) _ | refine Below.alloc ?_ (by first | (simp; done) | (simp; omega) | omega) _)) (var_keep B8.out T0.out))).mono ?_; rintro e w9 ⟨rfl, b9⟩
  have d9 : Below w8.heap.size w8 w9 := below_step (by repeat (first | exact Below.refl _ _ | refine below_drewN ?_ _ | refine Below.drew ?_ | refine Below.setCell ?_ (by first | (simp; done) | (simp; omega) | omega) _ | refine Below.alloc ?_ (by first | (simp; done) | (simp; omega) | omega) _)) b9
  have B9 := Lib.hid (below_step B8.out d9)
  have S9 := S8.keep d9
  have A9 := A8.keep d9
  have Bb9 := Bb8.keep d9
  have aC := B8.out.size
  have nCS := Nat.ne_of_lt S8.hb
  have oCS := Nat.ne_of_gt S8.hb
  have nCA := Nat.ne_of_lt A8.hb
  have oCA := Nat.ne_of_gt A8.hb
  have nCBb := Nat.ne_of_lt Bb8.hb
  have oCBb := Nat.ne_of_gt Bb8.hb
  have C9 : Bk6 w9 (w8.heap.size) (.int .i64 y2) (.int .i64 m2) (.int .i64 d2) (.int .i64 h2) (.int .i64 i2) (.int .i64 s2) := Bk6.of b9 (by simp <;> omega) (by intro j; simp [go_sem]) (by simp [go_sem]) (by simp [go_sem]) (by simp [go_sem]) (by simp [go_sem]) (by simp [go_sem]) (by simp [go_sem])
  clear S8 A8 Bb8 b9 d9 B8
  have cS_b := S9.hb
  have cS_f := S9.fz
  have cS_0 := S9.k0
  have cS_1 := S9.k1
  have cS_2 := S9.k2
  have cS_3 := S9.k3
  have cS_4 := S9.k4
  have cS_5 := S9.k5
  have cA_b := A9.hb
  have cA_f := A9.fz
  have cA_0 := A9.k0
  have cA_1 := A9.k1
  have cA_2 := A9.k2
  have cA_3 := A9.k3
  have cA_4 := A9.k4
  have cA_5 := A9.k5
  have cBb_b := Bb9.hb
  have cBb_f := Bb9.fz
  have cBb_0 := Bb9.k0
  have cBb_1 := Bb9.k1
  have cBb_2 := Bb9.k2
  have cBb_3 := Bb9.k3
  have cBb_4 := Bb9.k4
  have cBb_5 := Bb9.k5
  have cC_b := C9.hb
  have cC_f := C9.fz
  have cC_0 := C9.k0
  have cC_1 := C9.k1
  have cC_2 := C9.k2
  have cC_3 := C9.k3
  have cC_4 := C9.k4
  have cC_5 := C9.k5
  go_wp2_with fail
  clear cS_b cS_f cS_0 cS_1 cS_2 cS_3 cS_4 cS_5 cA_b cA_f cA_0 cA_1 cA_2 cA_3 cA_4 cA_5 cBb_b cBb_f cBb_0 cBb_1 cBb_2 cBb_3 cBb_4 cBb_5 cC_b cC_f cC_0 cC_1 cC_2 cC_3 cC_4 cC_5
  go_ret
  exact ⟨rfl, (by have hz := B9.out.size; repeat (first | exact B9.out | refine below_drewN ?_ _ | refine Below.drew ?_ | refine Below.setCell ?_ (by first | omega | (simp; done) | (simp; omega)) _ | refine Below.alloc ?_ (by first | omega | (simp; done) | (simp; omega)) _))⟩
theorem sback_walk (y m d h i s : Int) (t : ByteArray) (w : World) (htab : Lib.TabIs Tryd.prog w "internal/strconv.uint64pow10" .u64 Lib.pow10Tab) (ht : t.size ≤ maxLen) :
    Calls Tryd.prog 5 #[.agg #[.int .i64 y, .int .i64 m, .int .i64 d, .int .i64 h, .int .i64 i, .int .i64 s], .string t] w fun e w' => e = .returned (.bool true) ∧ Below w.heap.size w w' := by
  by_cases hl : (1000 : Int) < (t.size : Int)
  · exact sback_long y m d h i s t w htab hl
  cases hr : St.rB y m d h i s
  · rcases back_text t ht with ⟨q, q1, q2, CT⟩ | ⟨y2, m2, d2, h2, i2, s2, CT, CU⟩
    · exact sback_na y m d h i s t w htab hl hr q q1 q2 CT
    · exact sback_nb y m d h i s t w htab hl hr y2 m2 d2 h2 i2 s2 CT CU
  · rcases back_text t ht with ⟨q, q1, q2, CT⟩ | ⟨y2, m2, d2, h2, i2, s2, CT, CU⟩
    · exact sback_ya y m d h i s t w htab hl hr q q1 q2 CT
    · exact sback_yb y m d h i s t w htab hl hr y2 m2 d2 h2 i2 s2 CT CU
end Go.Proofs.YtldpchkapcnfbaaDoor

