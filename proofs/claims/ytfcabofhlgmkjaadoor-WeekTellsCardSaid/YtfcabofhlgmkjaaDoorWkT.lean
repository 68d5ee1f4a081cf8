/- The contracts of week.yearText and week.Text. -/
import Derived.Test.YtfcabofhlgmkjaaDoorStX
import Derived.Test.YtfcabofhlgmkjaaDoorWkD
set_option linter.unusedVariables false
set_option linter.unusedSimpArgs false
namespace Go.Proofs.YtfcabofhlgmkjaaDoor
open Go.RowKit Go.Sort

theorem trimSuffix_any (s p : ByteArray) (w : World) (hs : s.size ≤ 9223372036854775807) :
    Calls Tryd.prog 120 #[.string s, .string p] w fun e w' => e = .returned (.string ⟨(Lib.trimSuffix s.data.toList p.data.toList).toArray⟩) ∧ w = w' :=
  (Any.strings_TrimSuffix Tryd.lays102 s p w hs).mono fun _ _ ⟨h, e⟩ => ⟨h, e.symm⟩
theorem txt_size {l : List UInt8} {n : Nat} (h : l.length ≤ n) : (⟨l.toArray⟩ : ByteArray).size ≤ n := by show l.toArray.size ≤ n; rw [List.size_toArray]; exact h
theorem app_size (a b : ByteArray) : (a ++ b).size = a.size + b.size := by simp
theorem app_list (a b : ByteArray) : (a ++ b).data.toList = a.data.toList ++ b.data.toList := by simp
theorem app_any {a b : ByteArray} (h : a.size + b.size ≤ 8388608) (w : World) : (Op.stringOp .add a b).run Tryd.prog w = .ok (.string (a ++ b)) w := run_string_add_sum w a b (by omega)
theorem txt_list (l : List UInt8) : (⟨l.toArray⟩ : ByteArray).data.toList = l := rfl
namespace Wk
/-- A year's text: ahead of a stamp's. -/
def yt (y : Int) : List UInt8 := Lib.trimSuffix (St.tx y 1 1 0 0 0) [45, 48, 49, 45, 48, 49, 84, 48, 48, 58, 48, 48, 58, 48, 48]
theorem tx_len (y m d h i s : Int) : (St.tx y m d h i s).length ≤ 1000 := by
  unfold St.tx
  cases hr : St.rB y m d h i s
  · simp
  · rw [if_pos rfl]
    obtain ⟨r0, h0, h1, i0, i1, s0, s1⟩ := St.rB_true.1 hr
    obtain ⟨y0, y1, d0, d1⟩ := right_true.1 r0
    obtain ⟨m0, m1⟩ := Cal.month_of (right_true.1 r0)
    have lb := Cal.len_bd y m
    have a := Tx.yr_len y (by omega) (by omega)
    have b := Tx.beh_len (m := m) (d := d) (h := h) (i := i) (s := s) (by omega) (by omega) (by omega) (by omega) (by omega) (by omega) (by omega) (by omega) (by omega) (by omega)
    unfold Tx.txt
    rw [List.length_append]; omega
theorem yt_eq {y : Int} (h1 : -40000 ≤ y) (h2 : y ≤ 40000) : yt y = Tx.yr y := by
  have r : St.rB y 1 1 0 0 0 = true := St.rB_true.2 ⟨right_true.2 ⟨by omega, by omega, by omega, by simp [Cal.len]⟩, by omega, by omega, by omega, by omega, by omega, by omega⟩
  unfold yt St.tx
  rw [r, if_pos rfl]
  exact Tx.trim_year y
theorem trim_len (a p : List UInt8) : (Lib.trimSuffix a p).length ≤ a.length := by
  unfold Lib.trimSuffix
  split
  · rw [List.length_take]; omega
  · omega
theorem yt_len (y : Int) : (yt y).length ≤ 1000 := Nat.le_trans (trim_len _ _) (tx_len _ _ _ _ _ _)
def nought (k : Int) : List UInt8 := if k < 10 then [48] else []
def wtx (y k d : Int) : List UInt8 := yt y ++ [45, 87] ++ nought k ++ Lib.itoa k ++ [45] ++ Lib.itoa d
/-- A day's text by its week; nothing of one that may not be. -/
def tx (y k d : Int) : List UInt8 := if rB y k d then wtx y k d else []
end Wk
set_option maxHeartbeats 1000000 in
theorem yearText_any (y : Int) (w : World) (htab : Lib.TabIs Tryd.prog w "internal/strconv.uint64pow10" .u64 Lib.pow10Tab) :
    Calls Tryd.prog 67 #[.int .i64 y] w fun e w' => e = .returned (.string ⟨(Wk.yt y).toArray⟩) ∧ Below w.heap.size w w' := by
  have T0 := Lib.hid htab; clear htab
  have SZ := Lib.hid (txt_size (Nat.le_trans (Wk.tx_len y 1 1 0 0 0) (by decide : 1000 ≤ 9223372036854775807)))
  have E := Lib.hid (show Lib.trimSuffix (⟨(St.tx y 1 1 0 0 0).toArray⟩ : ByteArray).data.toList (⟨#[45, 48, 49, 45, 48, 49, 84, 48, 48, 58, 48, 48, 58, 48, 48]⟩ : ByteArray).data.toList = Wk.yt y from rfl)
  go_enter Tryd.func67, Tryd.ntmps67
  go_wp2_with fail
  refine (stext_any y 1 1 0 0 0 _ T0.out).mono ?_; rintro e w1 ⟨rfl, b1⟩
  have B1 := Lib.hid b1; clear b1
  go_wp2_with fail
  refine (trimSuffix_any _ _ _ SZ.out).mono ?_; rintro e w2 ⟨rfl, rfl⟩
  rw [E.out]
  go_wp2_with fail
  go_ret
  exact ⟨rfl, B1.out⟩
set_option maxHeartbeats 1000000 in
theorem wtext_no (y k d : Int) (w : World) (hr : Wk.rB y k d = false) :
    Calls Tryd.prog 20 #[.agg #[.int .i64 y, .int .i64 k, .int .i64 d]] w fun e w' => e = .returned (.string ⟨#[]⟩) ∧ Below w.heap.size w w' := by
  have R : Hid (∀ w, Calls Tryd.prog 18 #[.agg #[.int .i64 y, .int .i64 k, .int .i64 d]] w fun e w' => e = .returned (.bool false) ∧ Below w.heap.size w w') := fun w => by rw [← hr]; exact wright_any y k d w
  clear hr
  go_enter Tryd.func20, Tryd.ntmps20
  go_wp2_with fail
  refine (R.out _).mono ?_; rintro e w1 ⟨rfl, b1⟩
  have d1 : Below w.heap.size w w1 := below_step (by repeat (first | exact Below.refl _ _ | refine below_drewN ?_ _ | refine Below.drew ?_ | refine Below.setCell ?_ (by first | (simp; done) | (simp; omega) | omega) _ | refine Below.alloc ?_ (by first | (simp; done) | (simp; omega) | omega) _)) b1
  have B1 := Lib.hid d1
  have S1 : Bk3 w1 (w.heap.size) (.int .i64 y) (.int .i64 k) (.int .i64 d) := Bk3.of b1 (by simp <;> omega) (by intro j; simp [go_sem]) (by simp [go_sem]) (by simp [go_sem]) (by simp [go_sem])
  clear b1 d1
  have cS_b := S1.hb
  have cS_f := S1.fz
  have cS_0 := S1.k0
  have cS_1 := S1.k1
  have cS_2 := S1.k2
  go_wp2_with fail
  clear cS_b cS_f cS_0 cS_1 cS_2
  go_ret
  exact ⟨rfl, (by have hz := B1.out.size; repeat (first | exact B1.out | refine below_drewN ?_ _ | refine Below.drew ?_ | refine Below.setCell ?_ (by first | omega | (simp; done) | (simp; omega)) _ | refine Below.alloc ?_ (by first | omega | (simp; done) | (simp; omega)) _))⟩
set_option maxHeartbeats 4000000 in
set_option maxRecDepth 100000 in
theorem wtext_lo (y k d : Int) (w : World) (hr : Wk.rB y k d = true) (hk : k < 10) (htab : Lib.TabIs Tryd.prog w "internal/strconv.uint64pow10" .u64 Lib.pow10Tab) :
    Calls Tryd.prog 20 #[.agg #[.int .i64 y, .int .i64 k, .int .i64 d]] w fun e w' => e = .returned (.string ⟨(Wk.wtx y k d).toArray⟩) ∧ Below w.heap.size w w' := by
  have R : Hid (∀ w, Calls Tryd.prog 18 #[.agg #[.int .i64 y, .int .i64 k, .int .i64 d]] w fun e w' => e = .returned (.bool true) ∧ Below w.heap.size w w') := fun w => by rw [← hr]; exact wright_any y k d w
  unfold Wk.rB at hr
  simp only [Bool.and_eq_true, decide_eq_true_eq] at hr
  obtain ⟨k0, k1, d0, d1⟩ := hr
  obtain ⟨y0, y1⟩ := Wk.wks_y k0 k1
  have kb : k ≤ 53 := by have := (Wk.wks_is y0 y1).1; omega
  have T0 := Lib.hid htab
  obtain ⟨a, az, al, HA⟩ : ∃ a : ByteArray, a.size ≤ 1000 ∧ Hid (a.data.toList = Wk.yt y) ∧ Hid (∀ w, Lib.TabIs Tryd.prog w "internal/strconv.uint64pow10" .u64 Lib.pow10Tab → Calls Tryd.prog 67 #[.int .i64 y] w fun e w' => e = .returned (.string a) ∧ Below w.heap.size w w') :=
    ⟨_, txt_size (Wk.yt_len y), Lib.hid rfl, Lib.hid (fun w h => yearText_any y w h)⟩
  obtain ⟨b, bz, bl, HB⟩ : ∃ a : ByteArray, a.size ≤ 21 ∧ Hid (a.data.toList = Lib.itoa k) ∧ Hid (∀ w, Lib.TabIs Tryd.prog w "internal/strconv.uint64pow10" .u64 Lib.pow10Tab → Calls Tryd.prog 68 #[.int .i64 k] w fun e w' => e = .returned (.string a) ∧ Below w.heap.size w w') :=
    ⟨_, txt_size (Lib.itoa_length_le k (by omega) (by omega)), Lib.hid rfl, Lib.hid (fun w h => text_any k w (by omega) (by omega) h)⟩
  obtain ⟨c, cz, cl, HC⟩ : ∃ a : ByteArray, a.size ≤ 21 ∧ Hid (a.data.toList = Lib.itoa d) ∧ Hid (∀ w, Lib.TabIs Tryd.prog w "internal/strconv.uint64pow10" .u64 Lib.pow10Tab → Calls Tryd.prog 68 #[.int .i64 d] w fun e w' => e = .returned (.string a) ∧ Below w.heap.size w w') :=
    ⟨_, txt_size (Lib.itoa_length_le d (by omega) (by omega)), Lib.hid rfl, Lib.hid (fun w h => text_any d w (by omega) (by omega) h)⟩
  have E := Lib.hid (show (⟨(Wk.wtx y k d).toArray⟩ : ByteArray) = a ++ (⟨#[45, 87]⟩ : ByteArray) ++ (⟨#[48]⟩ : ByteArray) ++ b ++ (⟨#[45]⟩ : ByteArray) ++ c by
    apply ByteArray.ext; apply Array.toList_inj.1
    simp only [app_list, al.out, bl.out, cl.out]
    show Wk.wtx y k d = _
    unfold Wk.wtx Wk.nought; simp [hk])
  have g1 := app_any (a := a) (b := ⟨#[45, 87]⟩) (by show a.size + 2 ≤ _; omega)
  have g2 := app_any (a := a ++ (⟨#[45, 87]⟩ : ByteArray)) (b := (⟨#[48]⟩ : ByteArray)) (by rw [app_size]; show a.size + 2 + 1 ≤ _; omega)
  have g3 := app_any (a := a ++ (⟨#[45, 87]⟩ : ByteArray) ++ (⟨#[48]⟩ : ByteArray)) (b := b) (by rw [app_size, app_size]; show a.size + 2 + 1 + b.size ≤ _; omega)
  have g4 := app_any (a := a ++ (⟨#[45, 87]⟩ : ByteArray) ++ (⟨#[48]⟩ : ByteArray) ++ b) (b := ⟨#[45]⟩) (by rw [app_size, app_size, app_size]; show a.size + 2 + 1 + b.size + 1 ≤ _; omega)
  have g5 := app_any (a := a ++ (⟨#[45, 87]⟩ : ByteArray) ++ (⟨#[48]⟩ : ByteArray) ++ b ++ (⟨#[45]⟩ : ByteArray)) (b := c) (by rw [app_size, app_size, app_size, app_size]; show a.size + 2 + 1 + b.size + 1 + c.size ≤ _; omega)
  generalize (⟨(Wk.wtx y k d).toArray⟩ : ByteArray) = ans at E
  clear k1 htab al bl cl
  go_enter Tryd.func20, Tryd.ntmps20
  go_wp2_with fail
  refine (R.out _).mono ?_; rintro e w1 ⟨rfl, b1⟩
  have d1 : Below w.heap.size w w1 := below_step (by repeat (first | exact Below.refl _ _ | refine below_drewN ?_ _ | refine Below.drew ?_ | refine Below.setCell ?_ (by first | (simp; done) | (simp; omega) | omega) _ | refine Below.alloc ?_ (by first | (simp; done) | (simp; omega) | omega) _)) b1
  have B1 := Lib.hid d1
  have S1 : Bk3 w1 (w.heap.size) (.int .i64 y) (.int .i64 k) (.int .i64 d) := Bk3.of b1 (by simp <;> omega) (by intro j; simp [go_sem]) (by simp [go_sem]) (by simp [go_sem]) (by simp [go_sem])
  clear b1 d1
  clear R
  have T1 := Lib.hid (var_keep B1.out T0.out)
  have cS_b := S1.hb
  have cS_f := S1.fz
  have cS_0 := S1.k0
  have cS_1 := S1.k1
  have cS_2 := S1.k2
  go_wp2_with fail
  clear cS_b cS_f cS_0 cS_1 cS_2
  have qS_0 := cell_regrown S1.k0
  have qS_1 := cell_regrown S1.k1
  have qS_2 := cell_regrown S1.k2
  refine wp_region_qb (w := w1) (by kernel_rfl) (by kernel_rfl) (by repeat (first | exact Below.refl _ _ | refine below_drewN ?_ _ | refine Below.drew ?_ | refine Below.setCell ?_ (by first | (simp; done) | (simp; omega) | omega) _ | refine Below.alloc ?_ (by first | (simp; done) | (simp; omega) | omega) _)) ?_
  repeat (any_goals (first | go_big_quiet_step (first | (go_at_call 67; exact Calls.regrown_of (HA.out _ (var_keep (below_regrown _ _ _) T1.out))) | (go_at_call 68; exact Calls.regrown_of (HB.out _ (var_keep (below_regrown _ _ _) T1.out))) | (go_at_call 68; exact Calls.regrown_of (HC.out _ (var_keep (below_regrown _ _ _) T1.out)))) | quiet_step (first | (go_at_call 67; exact Calls.regrown_of (HA.out _ (var_keep (below_regrown _ _ _) T1.out))) | (go_at_call 68; exact Calls.regrown_of (HB.out _ (var_keep (below_regrown _ _ _) T1.out))) | (go_at_call 68; exact Calls.regrown_of (HC.out _ (var_keep (below_regrown _ _ _) T1.out))))))
  refine wpQuiet_nil ?_
  intro w2 hq
  have b2 : Below w1.heap.size w1 w2 := by obtain ⟨p, hq⟩ := hq; rw [hq]; exact below_regrown _ _ _
  clear hq qS_0 qS_1 qS_2
  have d2 : Below w1.heap.size w1 w2 := below_step (by repeat (first | exact Below.refl _ _ | refine below_drewN ?_ _ | refine Below.drew ?_ | refine Below.setCell ?_ (by first | (simp; done) | (simp; omega) | omega) _ | refine Below.alloc ?_ (by first | (simp; done) | (simp; omega) | omega) _)) b2
  have B2 := Lib.hid (below_step B1.out d2)
  have S2 := S1.keep d2
  clear S1 b2 d2 B1
  go_wp2_with fail
  go_ret
  exact ⟨by rw [E.out]; rfl, B2.out⟩
set_option maxHeartbeats 4000000 in
set_option maxRecDepth 100000 in
theorem wtext_hi (y k d : Int) (w : World) (hr : Wk.rB y k d = true) (hk : ¬ k < 10) (htab : Lib.TabIs Tryd.prog w "internal/strconv.uint64pow10" .u64 Lib.pow10Tab) :
    Calls Tryd.prog 20 #[.agg #[.int .i64 y, .int .i64 k, .int .i64 d]] w fun e w' => e = .returned (.string ⟨(Wk.wtx y k d).toArray⟩) ∧ Below w.heap.size w w' := by
  have R : Hid (∀ w, Calls Tryd.prog 18 #[.agg #[.int .i64 y, .int .i64 k, .int .i64 d]] w fun e w' => e = .returned (.bool true) ∧ Below w.heap.size w w') := fun w => by rw [← hr]; exact wright_any y k d w
  unfold Wk.rB at hr
  simp only [Bool.and_eq_true, decide_eq_true_eq] at hr
  obtain ⟨k0, k1, d0, d1⟩ := hr
  obtain ⟨y0, y1⟩ := Wk.wks_y k0 k1
  have kb : k ≤ 53 := by have := (Wk.wks_is y0 y1).1; omega
  have T0 := Lib.hid htab
  obtain ⟨a, az, al, HA⟩ : ∃ a : ByteArray, a.size ≤ 1000 ∧ Hid (a.data.toList = Wk.yt y) ∧ Hid (∀ w, Lib.TabIs Tryd.prog w "internal/strconv.uint64pow10" .u64 Lib.pow10Tab → Calls Tryd.prog 67 #[.int .i64 y] w fun e w' => e = .returned (.string a) ∧ Below w.heap.size w w') :=
    ⟨_, txt_size (Wk.yt_len y), Lib.hid rfl, Lib.hid (fun w h => yearText_any y w h)⟩
  obtain ⟨b, bz, bl, HB⟩ : ∃ a : ByteArray, a.size ≤ 21 ∧ Hid (a.data.toList = Lib.itoa k) ∧ Hid (∀ w, Lib.TabIs Tryd.prog w "internal/strconv.uint64pow10" .u64 Lib.pow10Tab → Calls Tryd.prog 68 #[.int .i64 k] w fun e w' => e = .returned (.string a) ∧ Below w.heap.size w w') :=
    ⟨_, txt_size (Lib.itoa_length_le k (by omega) (by omega)), Lib.hid rfl, Lib.hid (fun w h => text_any k w (by omega) (by omega) h)⟩
  obtain ⟨c, cz, cl, HC⟩ : ∃ a : ByteArray, a.size ≤ 21 ∧ Hid (a.data.toList = Lib.itoa d) ∧ Hid (∀ w, Lib.TabIs Tryd.prog w "internal/strconv.uint64pow10" .u64 Lib.pow10Tab → Calls Tryd.prog 68 #[.int .i64 d] w fun e w' => e = .returned (.string a) ∧ Below w.heap.size w w') :=
    ⟨_, txt_size (Lib.itoa_length_le d (by omega) (by omega)), Lib.hid rfl, Lib.hid (fun w h => text_any d w (by omega) (by omega) h)⟩
  have E := Lib.hid (show (⟨(Wk.wtx y k d).toArray⟩ : ByteArray) = a ++ (⟨#[45, 87]⟩ : ByteArray) ++ (⟨#[]⟩ : ByteArray) ++ b ++ (⟨#[45]⟩ : ByteArray) ++ c by
    apply ByteArray.ext; apply Array.toList_inj.1
    simp only [app_list, al.out, bl.out, cl.out]
    show Wk.wtx y k d = _
    unfold Wk.wtx Wk.nought; simp [hk])
  have g1 := app_any (a := a) (b := ⟨#[45, 87]⟩) (by show a.size + 2 ≤ _; omega)
  have g2 := app_any (a := a ++ (⟨#[45, 87]⟩ : ByteArray)) (b := (⟨#[]⟩ : ByteArray)) (by rw [app_size]; show a.size + 2 + 0 ≤ _; omega)
  have g3 := app_any (a := a ++ (⟨#[45, 87]⟩ : ByteArray) ++ (⟨#[]⟩ : ByteArray)) (b := b) (by rw [app_size, app_size]; show a.size + 2 + 0 + b.size ≤ _; omega)
  have g4 := app_any (a := a ++ (⟨#[45, 87]⟩ : ByteArray) ++ (⟨#[]⟩ : ByteArray) ++ b) (b := ⟨#[45]⟩) (by rw [app_size, app_size, app_size]; show a.size + 2 + 0 + b.size + 1 ≤ _; omega)
  have g5 := app_any (a := a ++ (⟨#[45, 87]⟩ : ByteArray) ++ (⟨#[]⟩ : ByteArray) ++ b ++ (⟨#[45]⟩ : ByteArray)) (b := c) (by rw [app_size, app_size, app_size, app_size]; show a.size + 2 + 0 + b.size + 1 + c.size ≤ _; omega)
  generalize (⟨(Wk.wtx y k d).toArray⟩ : ByteArray) = ans at E
  clear k1 htab al bl cl
  go_enter Tryd.func20, Tryd.ntmps20
  go_wp2_with fail
  refine (R.out _).mono ?_; rintro e w1 ⟨rfl, b1⟩
  have d1 : Below w.heap.size w w1 := below_step (by repeat (first | exact Below.refl _ _ | refine below_drewN ?_ _ | refine Below.drew ?_ | refine Below.setCell ?_ (by first | (simp; done) | (simp; omega) | omega) _ | refine Below.alloc ?_ (by first | (simp; done) | (simp; omega) | omega) _)) b1
  have B1 := Lib.hid d1
  have S1 : Bk3 w1 (w.heap.size) (.int .i64 y) (.int .i64 k) (.int .i64 d) := Bk3.of b1 (by simp <;> omega) (by intro j; simp [go_sem]) (by simp [go_sem]) (by simp [go_sem]) (by simp [go_sem])
  clear b1 d1
  clear R
  have T1 := Lib.hid (var_keep B1.out T0.out)
  have cS_b := S1.hb
  have cS_f := S1.fz
  have cS_0 := S1.k0
  have cS_1 := S1.k1
  have cS_2 := S1.k2
  go_wp2_with fail
  clear cS_b cS_f cS_0 cS_1 cS_2
  have qS_0 := cell_regrown S1.k0
  have qS_1 := cell_regrown S1.k1
  have qS_2 := cell_regrown S1.k2
  refine wp_region_qb (w := w1) (by kernel_rfl) (by kernel_rfl) (by repeat (first | exact Below.refl _ _ | refine below_drewN ?_ _ | refine Below.drew ?_ | refine Below.setCell ?_ (by first | (simp; done) | (simp; omega) | omega) _ | refine Below.alloc ?_ (by first | (simp; done) | (simp; omega) | omega) _)) ?_
  repeat (any_goals (first | go_big_quiet_step (first | (go_at_call 67; exact Calls.regrown_of (HA.out _ (var_keep (below_regrown _ _ _) T1.out))) | (go_at_call 68; exact Calls.regrown_of (HB.out _ (var_keep (below_regrown _ _ _) T1.out))) | (go_at_call 68; exact Calls.regrown_of (HC.out _ (var_keep (below_regrown _ _ _) T1.out)))) | quiet_step (first | (go_at_call 67; exact Calls.regrown_of (HA.out _ (var_keep (below_regrown _ _ _) T1.out))) | (go_at_call 68; exact Calls.regrown_of (HB.out _ (var_keep (below_regrown _ _ _) T1.out))) | (go_at_call 68; exact Calls.regrown_of (HC.out _ (var_keep (below_regrown _ _ _) T1.out))))))
  refine wpQuiet_nil ?_
  intro w2 hq
  have b2 : Below w1.heap.size w1 w2 := by obtain ⟨p, hq⟩ := hq; rw [hq]; exact below_regrown _ _ _
  clear hq qS_0 qS_1 qS_2
  have d2 : Below w1.heap.size w1 w2 := below_step (by repeat (first | exact Below.refl _ _ | refine below_drewN ?_ _ | refine Below.drew ?_ | refine Below.setCell ?_ (by first | (simp; done) | (simp; omega) | omega) _ | refine Below.alloc ?_ (by first | (simp; done) | (simp; omega) | omega) _)) b2
  have B2 := Lib.hid (below_step B1.out d2)
  have S2 := S1.keep d2
  clear S1 b2 d2 B1
  go_wp2_with fail
  go_ret
  exact ⟨by rw [E.out]; rfl, B2.out⟩
theorem wtext_any (y k d : Int) (w : World) (htab : Lib.TabIs Tryd.prog w "internal/strconv.uint64pow10" .u64 Lib.pow10Tab) :
    Calls Tryd.prog 20 #[.agg #[.int .i64 y, .int .i64 k, .int .i64 d]] w fun e w' => e = .returned (.string ⟨(Wk.tx y k d).toArray⟩) ∧ Below w.heap.size w w' := by
  cases hr : Wk.rB y k d
  · rw [show Wk.tx y k d = [] by unfold Wk.tx; rw [hr]; rfl]; exact wtext_no y k d w hr
  · rw [show Wk.tx y k d = Wk.wtx y k d by unfold Wk.tx; rw [hr]; rfl]
    by_cases hk : k < 10
    · exact wtext_lo y k d w hr hk htab
    · exact wtext_hi y k d w hr hk htab
end Go.Proofs.YtfcabofhlgmkjaaDoor

