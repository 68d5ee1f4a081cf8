/- The contract of the reference's week.Text. -/
import Derived.Test.YtfcabofhlgmkjaaDoorRwB
import Derived.Test.YtfcabofhlgmkjaaDoorRsC
import Derived.Test.YtfcabofhlgmkjaaDoorWkT
set_option linter.unusedVariables false
set_option linter.unusedSimpArgs false
namespace Go.Proofs.YtfcabofhlgmkjaaDoor
open Go.RowKit Go.Sort

set_option maxHeartbeats 2000000 in
theorem rwtext_no (y k d : Int) (w : World) (h : Wk.rB y k d = false) :
    Calls Tryd.prog 21 #[.agg #[.int .i64 y, .int .i64 k, .int .i64 d]] w fun e w' => e = .returned (.string ⟨#[]⟩) ∧ Below w.heap.size w w' := by
  have R : Hid (∀ w, Calls Tryd.prog 19 #[.agg #[.int .i64 y, .int .i64 k, .int .i64 d]] w fun e w' => e = .returned (.bool false) ∧ Below w.heap.size w w') := fun w => by rw [← h]; exact rwright_any y k d w
  clear h
  go_enter Tryd.func21, Tryd.ntmps21
  go_wp2_with fail
  refine (R.out _).mono ?_; rintro e w1 ⟨rfl, b1⟩
  have d1 : Below w.heap.size w w1 := below_step (by repeat (first | exact Below.refl _ _ | refine below_drewN ?_ _ | refine Below.drew ?_ | refine Below.setCell ?_ (by first | (simp; done) | (simp; omega) | omega) _ | refine Below.alloc ?_ (by first | (simp; done) | (simp; omega) | omega) _)) b1
  have B1 := Lib.hid d1
  have D1 : Bk3 w1 (w.heap.size) (.int .i64 y) (.int .i64 k) (.int .i64 d) := Bk3.of b1 (by simp <;> omega) (by intro j; simp [go_sem]) (by simp [go_sem]) (by simp [go_sem]) (by simp [go_sem])
  clear b1 d1
  have cD_b := D1.hb
  have cD_f := D1.fz
  have cD_0 := D1.k0
  have cD_1 := D1.k1
  have cD_2 := D1.k2
  go_wp2_with fail
  clear cD_b cD_f cD_0 cD_1 cD_2
  go_ret
  exact ⟨rfl, (by have hz := B1.out.size; repeat (first | exact B1.out | refine below_drewN ?_ _ | refine Below.drew ?_ | refine Below.setCell ?_ (by first | omega | (simp; done) | (simp; omega)) _ | refine Below.alloc ?_ (by first | omega | (simp; done) | (simp; omega)) _))⟩
set_option maxHeartbeats 4000000 in
set_option maxRecDepth 100000 in
theorem rwtext_lo (y k d : Int) (A B C P : ByteArray) (w : World) (hk : k < 10) (zA : A.size ≤ 100) (zA' : 15 ≤ (A.size : Int)) (zB : B.size ≤ 30) (zC : C.size ≤ 30) (zP : P.size ≤ 100)
    (R : Hid (∀ w, Calls Tryd.prog 19 #[.agg #[.int .i64 y, .int .i64 k, .int .i64 d]] w fun e w' => e = .returned (.bool true) ∧ Below w.heap.size w w'))
    (CA : Hid (∀ W, Calls Tryd.prog 36 #[.agg #[.int .i64 y, .int .i64 1, .int .i64 1, .int .i64 0, .int .i64 0, .int .i64 0]] W fun e w' => e = .returned (.string A) ∧ Below W.heap.size W w'))
    (CB : Hid (∀ W, Calls Tryd.prog 69 #[.int .i64 k] W fun e w' => e = .returned (.string B) ∧ Below W.heap.size W w'))
    (CC : Hid (∀ W, Calls Tryd.prog 69 #[.int .i64 d] W fun e w' => e = .returned (.string C) ∧ Below W.heap.size W w'))
    (sl : ∀ W, Sem.run Tryd.prog (Instr.slice 9 (.string A) none (some (.int .i64 ((A.size : Int) - 15))) none) W = .ok (.string P) W) :
    Calls Tryd.prog 21 #[.agg #[.int .i64 y, .int .i64 k, .int .i64 d]] w fun e w' => e = .returned (.string (P ++ ⟨#[45, 87]⟩ ++ (⟨#[48]⟩ ++ B) ++ ⟨#[45]⟩ ++ C)) ∧ Below w.heap.size w w' := by
  have e0 : (⟨#[48]⟩ ++ B : ByteArray).size = 1 + B.size := by rw [ByteArray.size_append]; rfl
  have e1 : (P ++ ⟨#[45, 87]⟩ : ByteArray).size = P.size + 2 := by rw [ByteArray.size_append]; rfl
  have e2 : (P ++ ⟨#[45, 87]⟩ ++ (⟨#[48]⟩ ++ B) : ByteArray).size = P.size + 2 + ((⟨#[48]⟩ ++ B) : ByteArray).size := by rw [ByteArray.size_append, e1]
  have e3 : (P ++ ⟨#[45, 87]⟩ ++ (⟨#[48]⟩ ++ B) ++ ⟨#[45]⟩ : ByteArray).size = P.size + 2 + ((⟨#[48]⟩ ++ B) : ByteArray).size + 1 := by rw [ByteArray.size_append, e2]; rfl
  go_enter Tryd.func21, Tryd.ntmps21
  go_wp2_with fail
  refine (R.out _).mono ?_; rintro e w1 ⟨rfl, b1⟩
  have d1 : Below w.heap.size w w1 := below_step (by repeat (first | exact Below.refl _ _ | refine below_drewN ?_ _ | refine Below.drew ?_ | refine Below.setCell ?_ (by first | (simp; done) | (simp; omega) | omega) _ | refine Below.alloc ?_ (by first | (simp; done) | (simp; omega) | omega) _)) b1
  have B1 := Lib.hid d1
  have D1 : Bk3 w1 (w.heap.size) (.int .i64 y) (.int .i64 k) (.int .i64 d) := Bk3.of b1 (by simp <;> omega) (by intro j; simp [go_sem]) (by simp [go_sem]) (by simp [go_sem]) (by simp [go_sem])
  clear b1 d1
  clear R
  have cD_b := D1.hb
  have cD_f := D1.fz
  have cD_0 := D1.k0
  have cD_1 := D1.k1
  have cD_2 := D1.k2
  go_wp2_with fail
  clear cD_b cD_f cD_0 cD_1 cD_2
  refine (CA.out _).mono ?_; rintro e w2 ⟨rfl, b2⟩
  have d2 : Below w1.heap.size w1 w2 := below_step (by repeat (first | exact Below.refl _ _ | refine below_drewN ?_ _ | refine Below.drew ?_ | refine Below.setCell ?_ (by first | (simp; done) | (simp; omega) | omega) _ | refine Below.alloc ?_ (by first | (simp; done) | (simp; omega) | omega) _)) b2
  have B2 := Lib.hid (below_step B1.out d2)
  have D2 := D1.keep d2
  clear D1 b2 d2 B1
  clear CA
  have cD_b := D2.hb
  have cD_f := D2.fz
  have cD_0 := D2.k0
  have cD_1 := D2.k1
  have cD_2 := D2.k2
  go_wp2_with fail
  clear cD_b cD_f cD_0 cD_1 cD_2
  refine (CB.out _).mono ?_; rintro e w3 ⟨rfl, b3⟩
  have d3 : Below w2.heap.size w2 w3 := below_step (by repeat (first | exact Below.refl _ _ | refine below_drewN ?_ _ | refine Below.drew ?_ | refine Below.setCell ?_ (by first | (simp; done) | (simp; omega) | omega) _ | refine Below.alloc ?_ (by first | (simp; done) | (simp; omega) | omega) _)) b3
  have B3 := Lib.hid (below_step B2.out d3)
  have D3 := D2.keep d3
  clear D2 b3 d3 B2
  clear CB
  have cD_b := D3.hb
  have cD_f := D3.fz
  have cD_0 := D3.k0
  have cD_1 := D3.k1
  have cD_2 := D3.k2
  go_wp2_with fail
  clear cD_b cD_f cD_0 cD_1 cD_2
  have qD_0 := cell_regrown D3.k0
  have qD_1 := cell_regrown D3.k1
  have qD_2 := cell_regrown D3.k2
  refine wp_region_qb (w := w3) (by kernel_rfl) (by kernel_rfl) (by repeat (first | exact Below.refl _ _ | refine below_drewN ?_ _ | refine Below.drew ?_ | refine Below.setCell ?_ (by first | (simp; done) | (simp; omega) | omega) _ | refine Below.alloc ?_ (by first | (simp; done) | (simp; omega) | omega) _)) ?_
  repeat (any_goals (first | go_big_quiet_step (first | (go_at_call 69; exact Calls.regrown_of (CC.out _))) | quiet_step (first | (go_at_call 69; exact Calls.regrown_of (CC.out _)))))
  refine wpQuiet_nil ?_
  intro w4 hq
  have b4 : Below w3.heap.size w3 w4 := by obtain ⟨p, hq⟩ := hq; rw [hq]; exact below_regrown _ _ _
  clear hq qD_0 qD_1 qD_2
  have d4 : Below w3.heap.size w3 w4 := below_step (by repeat (first | exact Below.refl _ _ | refine below_drewN ?_ _ | refine Below.drew ?_ | refine Below.setCell ?_ (by first | (simp; done) | (simp; omega) | omega) _ | refine Below.alloc ?_ (by first | (simp; done) | (simp; omega) | omega) _)) b4
  have B4 := Lib.hid (below_step B3.out d4)
  have D4 := D3.keep d4
  clear D3 b4 d4 B3
  have cD_b := D4.hb
  have cD_f := D4.fz
  have cD_0 := D4.k0
  have cD_1 := D4.k1
  have cD_2 := D4.k2
  go_wp2_with fail
  clear cD_b cD_f cD_0 cD_1 cD_2
  go_ret
  exact ⟨rfl, B4.out⟩
set_option maxHeartbeats 4000000 in
set_option maxRecDepth 100000 in
theorem rwtext_hi (y k d : Int) (A B C P : ByteArray) (w : World) (hk : ¬ k < 10) (zA : A.size ≤ 100) (zA' : 15 ≤ (A.size : Int)) (zB : B.size ≤ 30) (zC : C.size ≤ 30) (zP : P.size ≤ 100)
    (R : Hid (∀ w, Calls Tryd.prog 19 #[.agg #[.int .i64 y, .int .i64 k, .int .i64 d]] w fun e w' => e = .returned (.bool true) ∧ Below w.heap.size w w'))
    (CA : Hid (∀ W, Calls Tryd.prog 36 #[.agg #[.int .i64 y, .int .i64 1, .int .i64 1, .int .i64 0, .int .i64 0, .int .i64 0]] W fun e w' => e = .returned (.string A) ∧ Below W.heap.size W w'))
    (CB : Hid (∀ W, Calls Tryd.prog 69 #[.int .i64 k] W fun e w' => e = .returned (.string B) ∧ Below W.heap.size W w'))
    (CC : Hid (∀ W, Calls Tryd.prog 69 #[.int .i64 d] W fun e w' => e = .returned (.string C) ∧ Below W.heap.size W w'))
    (sl : ∀ W, Sem.run Tryd.prog (Instr.slice 9 (.string A) none (some (.int .i64 ((A.size : Int) - 15))) none) W = .ok (.string P) W) :
    Calls Tryd.prog 21 #[.agg #[.int .i64 y, .int .i64 k, .int .i64 d]] w fun e w' => e = .returned (.string (P ++ ⟨#[45, 87]⟩ ++ B ++ ⟨#[45]⟩ ++ C)) ∧ Below w.heap.size w w' := by
  have e0 : (⟨#[48]⟩ ++ B : ByteArray).size = 1 + B.size := by rw [ByteArray.size_append]; rfl
  have e1 : (P ++ ⟨#[45, 87]⟩ : ByteArray).size = P.size + 2 := by rw [ByteArray.size_append]; rfl
  have e2 : (P ++ ⟨#[45, 87]⟩ ++ B : ByteArray).size = P.size + 2 + (B : ByteArray).size := by rw [ByteArray.size_append, e1]
  have e3 : (P ++ ⟨#[45, 87]⟩ ++ B ++ ⟨#[45]⟩ : ByteArray).size = P.size + 2 + (B : ByteArray).size + 1 := by rw [ByteArray.size_append, e2]; rfl
  go_enter Tryd.func21, Tryd.ntmps21
  go_wp2_with fail
  refine (R.out _).mono ?_; rintro e w1 ⟨rfl, b1⟩
  have d1 : Below w.heap.size w w1 := below_step (by repeat (first | exact Below.refl _ _ | refine below_drewN ?_ _ | refine Below.drew ?_ | refine Below.setCell ?_ (by first | (simp; done) | (simp; omega) | omega) _ | refine Below.alloc ?_ (by first | (simp; done) | (simp; omega) | omega) _)) b1
  have B1 := Lib.hid d1
  have D1 : Bk3 w1 (w.heap.size) (.int .i64 y) (.int .i64 k) (.int .i64 d) := Bk3.of b1 (by simp <;> omega) (by intro j; simp [go_sem]) (by simp [go_sem]) (by simp [go_sem]) (by simp [go_sem])
  clear b1 d1
  clear R
  have cD_b := D1.hb
  have cD_f := D1.fz
  have cD_0 := D1.k0
  have cD_1 := D1.k1
  have cD_2 := D1.k2
  go_wp2_with fail
  clear cD_b cD_f cD_0 cD_1 cD_2
  refine (CA.out _).mono ?_; rintro e w2 ⟨rfl, b2⟩
  have d2 : Below w1.heap.size w1 w2 := below_step (by repeat (first | exact Below.refl _ _ | refine below_drewN ?_ _ | refine Below.drew ?_ | refine Below.setCell ?_ (by first | (simp; done) | (simp; omega) | omega) _ | refine Below.alloc ?_ (by first | (simp; done) | (simp; omega) | omega) _)) b2
  have B2 := Lib.hid (below_step B1.out d2)
  have D2 := D1.keep d2
  clear D1 b2 d2 B1
  clear CA
  have cD_b := D2.hb
  have cD_f := D2.fz
  have cD_0 := D2.k0
  have cD_1 := D2.k1
  have cD_2 := D2.k2
  go_wp2_with fail
  clear cD_b cD_f cD_0 cD_1 cD_2
  refine (CB.out _).mono ?_; rintro e w3 ⟨rfl, b3⟩
  have d3 : Below w2.heap.size w2 w3 := below_step (by repeat (first | exact Below.refl _ _ | refine below_drewN ?_ _ | refine Below.drew ?_ | refine Below.setCell ?_ (by first | (simp; done) | (simp; omega) | omega) _ | refine Below.alloc ?_ (by first | (simp; done) | (simp; omega) | omega) _)) b3
  have B3 := Lib.hid (below_step B2.out d3)
  have D3 := D2.keep d3
  clear D2 b3 d3 B2
  clear CB
  have cD_b := D3.hb
  have cD_f := D3.fz
  have cD_0 := D3.k0
  have cD_1 := D3.k1
  have cD_2 := D3.k2
  go_wp2_with fail
  clear cD_b cD_f cD_0 cD_1 cD_2
  have qD_0 := cell_regrown D3.k0
  have qD_1 := cell_regrown D3.k1
  have qD_2 := cell_regrown D3.k2
  refine wp_region_qb (w := w3) (by kernel_rfl) (by kernel_rfl) (by repeat (first | exact Below.refl _ _ | refine below_drewN ?_ _ | refine Below.drew ?_ | refine Below.setCell ?_ (by first | (simp; done) | (simp; omega) | omega) _ | refine Below.alloc ?_ (by first | (simp; done) | (simp; omega) | omega) _)) ?_
  repeat (any_goals (first | go_big_quiet_step (first | (go_at_call 69; exact Calls.regrown_of (CC.out _))) | quiet_step (first | (go_at_call 69; exact Calls.regrown_of (CC.out _)))))
  refine wpQuiet_nil ?_
  intro w4 hq
  have b4 : Below w3.heap.size w3 w4 := by obtain ⟨p, hq⟩ := hq; rw [hq]; exact below_regrown _ _ _
  clear hq qD_0 qD_1 qD_2
  have d4 : Below w3.heap.size w3 w4 := below_step (by repeat (first | exact Below.refl _ _ | refine below_drewN ?_ _ | refine Below.drew ?_ | refine Below.setCell ?_ (by first | (simp; done) | (simp; omega) | omega) _ | refine Below.alloc ?_ (by first | (simp; done) | (simp; omega) | omega) _)) b4
  have B4 := Lib.hid (below_step B3.out d4)
  have D4 := D3.keep d4
  clear D3 b4 d4 B3
  have cD_b := D4.hb
  have cD_f := D4.fz
  have cD_0 := D4.k0
  have cD_1 := D4.k1
  have cD_2 := D4.k2
  go_wp2_with fail
  clear cD_b cD_f cD_0 cD_1 cD_2
  go_ret
  exact ⟨rfl, B4.out⟩
theorem pre_ext (a b : List UInt8) (hb : b.length = 15) : (⟨(a ++ b).toArray⟩ : ByteArray).extract 0 ((a ++ b).length - 15) = ⟨a.toArray⟩ := by
  apply ByteArray.ext
  apply Array.toList_inj.1
  rw [ByteArray.data_extract, Array.toList_extract]
  simp [hb]
theorem slA (a b : List UInt8) (hb : b.length = 15) (hs : (a ++ b).length ≤ 100) (W : World) :
    Sem.run Tryd.prog (Instr.slice 9 (.string ⟨(a ++ b).toArray⟩) none (some (.int .i64 (((⟨(a ++ b).toArray⟩ : ByteArray).size : Int) - 15))) none) W = .ok (.string ⟨a.toArray⟩) W := by
  have z := arr_size (a ++ b)
  have hl : 15 ≤ (a ++ b).length := by rw [List.length_append]; omega
  have e : (((⟨(a ++ b).toArray⟩ : ByteArray).size : Int) - 15) = (((a ++ b).length - 15 : Nat) : Int) := by rw [z]; omega
  rw [e, run_slice_string_h W 9 _ Tryd.underlying9 .i64 _ (by omega) (by rw [z]; omega)]
  rw [show (((a ++ b).length - 15 : Nat) : Int).toNat = (a ++ b).length - 15 from Int.toNat_natCast _, pre_ext a b hb]
theorem rwtext_any (y k d : Int) (w : World) :
    Calls Tryd.prog 21 #[.agg #[.int .i64 y, .int .i64 k, .int .i64 d]] w fun e w' => e = .returned (.string ⟨(Wk.tx y k d).toArray⟩) ∧ Below w.heap.size w w' := by
  cases h : Wk.rB y k d
  · rw [show Wk.tx y k d = [] by unfold Wk.tx; rw [h]; rfl]
    exact rwtext_no y k d w h
  · have hh := h
    unfold Wk.rB at hh
    simp only [Bool.and_eq_true, decide_eq_true_eq] at hh
    obtain ⟨k0, k1, d0, d1⟩ := hh
    obtain ⟨y0, y1⟩ := Wk.wks_y k0 k1
    have kb : k ≤ 53 := by
      have := (Wk.wks_is y0 y1).1; omega
    have hr : St.rB y 1 1 0 0 0 = true := St.rB_true.2 ⟨Wk.r11 y0 y1, by omega⟩
    have htx : St.tx y 1 1 0 0 0 = Tx.yr y ++ Tx.beh 1 1 0 0 0 := by unfold St.tx; rw [hr]; rfl
    have hb : (Tx.beh 1 1 0 0 0).length = 15 := Tx.beh_len (by omega) (by omega) (by omega) (by omega) (by omega) (by omega) (by omega) (by omega) (by omega) (by omega)
    obtain ⟨l0, l1⟩ := Tx.yr_len y (by omega) (by omega)
    have la : (Tx.yr y ++ Tx.beh 1 1 0 0 0).length ≤ 100 := by rw [List.length_append]; omega
    have lk := Lib.itoa_length_le k (by omega) (by omega)
    have ld := Lib.itoa_length_le d (by omega) (by omega)
    have R : Hid (∀ w, Calls Tryd.prog 19 #[.agg #[.int .i64 y, .int .i64 k, .int .i64 d]] w fun e w' => e = .returned (.bool true) ∧ Below w.heap.size w w') := fun w => by rw [← h]; exact rwright_any y k d w
    have CA : Hid (∀ W, Calls Tryd.prog 36 #[.agg #[.int .i64 y, .int .i64 1, .int .i64 1, .int .i64 0, .int .i64 0, .int .i64 0]] W fun e w' => e = .returned (.string ⟨(Tx.yr y ++ Tx.beh 1 1 0 0 0).toArray⟩) ∧ Below W.heap.size W w') := fun W => by rw [← htx]; exact rstext_any y 1 1 0 0 0 W
    have zA : (⟨(Tx.yr y ++ Tx.beh 1 1 0 0 0).toArray⟩ : ByteArray).size = (Tx.yr y ++ Tx.beh 1 1 0 0 0).length := arr_size _
    have zl : 15 ≤ (Tx.yr y ++ Tx.beh 1 1 0 0 0).length := by rw [List.length_append]; omega
    have e45 : (⟨#[45]⟩ : ByteArray) = ⟨([45] : List UInt8).toArray⟩ := rfl
    have e4587 : (⟨#[45, 87]⟩ : ByteArray) = ⟨([45, 87] : List UInt8).toArray⟩ := rfl
    have e48 : (⟨#[48]⟩ : ByteArray) = ⟨([48] : List UInt8).toArray⟩ := rfl
    have tx : Wk.tx y k d = Wk.wtx y k d := by unfold Wk.tx; rw [h]; rfl
    by_cases hk : k < 10
    · refine (rwtext_lo y k d _ _ _ _ w hk (by rw [zA]; exact la) (by rw [zA]; omega) (by rw [arr_size]; omega) (by rw [arr_size]; omega) (by rw [arr_size]; omega) R CA (fun W => rtext_any k W (by omega) (by omega)) (fun W => rtext_any d W (by omega) (by omega)) (slA (Tx.yr y) (Tx.beh 1 1 0 0 0) hb la)).mono ?_
      rintro e w' ⟨rfl, b⟩
      refine ⟨?_, b⟩
      simp only [e45, e4587, e48, arr_app]
      rw [tx]
      unfold Wk.wtx
      rw [Wk.yt_eq (by omega) (by omega), show Wk.nought k = [48] by unfold Wk.nought; rw [if_pos hk]]
      simp
    · refine (rwtext_hi y k d _ _ _ _ w hk (by rw [zA]; exact la) (by rw [zA]; omega) (by rw [arr_size]; omega) (by rw [arr_size]; omega) (by rw [arr_size]; omega) R CA (fun W => rtext_any k W (by omega) (by omega)) (fun W => rtext_any d W (by omega) (by omega)) (slA (Tx.yr y) (Tx.beh 1 1 0 0 0) hb la)).mono ?_
      rintro e w' ⟨rfl, b⟩
      refine ⟨?_, b⟩
      simp only [e45, e4587, arr_app]
      rw [tx]
      unfold Wk.wtx
      rw [Wk.yt_eq (by omega) (by omega), show Wk.nought k = [] by unfold Wk.nought; rw [if_neg hk]]
      simp
end Go.Proofs.YtfcabofhlgmkjaaDoor

