/- Joined: DsB. -/
import Derived.Test.YtjggjkeopbcmoaaGreatDoorBt01
import Derived.Test.YtjggjkeopbcmoaaGreatDoorBt08
set_option linter.unusedVariables false
set_option linter.unusedSimpArgs false
namespace Go.Proofs.YtjggjkeopbcmoaaGreatDoor
open Go.RowKit Go.Sort
set_option maxHeartbeats 2000000 in
set_option maxRecDepth 100000 in
theorem dws_wno1 (a g N1 N2 : ByteArray) (p1 p2 : Bool) (k d q : Int) (w : World) (tp : TypeId) (p : Value) (hv : w.var? Tryz.prog "strconv.ErrRange" = some #[.iface tp p]) (T : Wd.DTabs w) (C1 : Hid (∀ W, Calls Tryz.prog 115 #[.string g, .string ⟨#[62, 61]⟩] W fun e w' => e = .returned (.tuple #[.string N1, .bool p1]) ∧ W = w')) (C2 : Hid (∀ W, Calls Tryz.prog 115 #[.string g, .string ⟨#[60, 61]⟩] W fun e w' => e = .returned (.tuple #[.string N2, .bool p2]) ∧ W = w')) (h1 : p1 = true) (CW : Hid (∀ W, Wd.DTabs W → Calls Tryz.prog 141 #[.string a] W fun e w' => e = .panicked (gvP q) ∧ Below W.heap.size W w')) :
  Calls Tryz.prog 138 #[.string a, .string g] w fun e w' => e = .panicked (gvP q) ∧ Below w.heap.size w w' := by
 have T0 := Lib.hid T; clear T
 have V0 := Lib.hid hv; clear hv
 subst h1
 go_enter Tryz.func138, Tryz.ntmps138
 go_wp2_with fail
 refine (C1.out _).mono ?_; rintro e v1 ⟨rfl, rfl⟩
 go_wp2_with fail
 refine (need_yes 4 _).mono ?_; rintro e v2 ⟨rfl, rfl⟩
 go_wp2_with fail
 refine (CW.out _ (T0.out.on gr0)).mono ?_; rintro e w1 ⟨rfl, b1⟩
 refine (show bodyPost _ _ _ (Exit.panic (gvP q)) _ _ from ?_)
 exact ⟨rfl, rfl, below_step gr0 b1⟩
set_option maxHeartbeats 2000000 in
set_option maxRecDepth 100000 in
theorem dws_dno1 (a g N1 N2 : ByteArray) (p1 p2 : Bool) (k d q : Int) (w : World) (tp : TypeId) (p : Value) (hv : w.var? Tryz.prog "strconv.ErrRange" = some #[.iface tp p]) (T : Wd.DTabs w) (C1 : Hid (∀ W, Calls Tryz.prog 115 #[.string g, .string ⟨#[62, 61]⟩] W fun e w' => e = .returned (.tuple #[.string N1, .bool p1]) ∧ W = w')) (C2 : Hid (∀ W, Calls Tryz.prog 115 #[.string g, .string ⟨#[60, 61]⟩] W fun e w' => e = .returned (.tuple #[.string N2, .bool p2]) ∧ W = w')) (h1 : p1 = true) (CW : Hid (∀ W, Wd.DTabs W → Calls Tryz.prog 141 #[.string a] W fun e w' => e = .returned (.int .i64 k) ∧ Below W.heap.size W w')) (CD : Hid (∀ W, W.var? Tryz.prog "strconv.ErrRange" = some #[.iface tp p] → Calls Tryz.prog 139 #[.string N1] W fun e w' => e = .panicked (gvP q) ∧ Below W.heap.size W w')) :
  Calls Tryz.prog 138 #[.string a, .string g] w fun e w' => e = .panicked (gvP q) ∧ Below w.heap.size w w' := by
 have T0 := Lib.hid T; clear T
 have V0 := Lib.hid hv; clear hv
 subst h1
 go_enter Tryz.func138, Tryz.ntmps138
 go_wp2_with fail
 refine (C1.out _).mono ?_; rintro e v1 ⟨rfl, rfl⟩
 go_wp2_with fail
 refine (need_yes 4 _).mono ?_; rintro e v2 ⟨rfl, rfl⟩
 go_wp2_with fail
 refine (CW.out _ (T0.out.on gr0)).mono ?_; rintro e w1 ⟨rfl, b1⟩
 have d1 : Below w.heap.size w w1 := below_step gr0 b1
 have B1 := Lib.hid d1
 have R1 : Bk3 w1 (w.heap.size) (.int .i64 0) (.int .i64 0) (.int .i64 0) := by refine Bk3.of b1 (by simp <;> omega) (by intro j; simp [go_sem]) ?_ ?_ ?_ <;> simp [go_sem]
 have O1 : Bk3 w1 (w.heap.size + 1) (.int .i64 2) (.int .i64 0) (.int .i64 0) := by refine Bk3.of b1 (by simp <;> omega) (by intro j; simp [go_sem]) ?_ ?_ ?_ <;> simp [go_sem]
 clear b1 d1
 have tx := R1; obtain ⟨cR_b, cR_f, cR_0, cR_1, cR_2⟩ := tx
 have tx := O1; obtain ⟨cO_b, cO_f, cO_0, cO_1, cO_2⟩ := tx
 go_wp2_with fail
 refine (CD.out _ (var_keep (grB B1) V0.out)).mono ?_; rintro e w9 ⟨rfl, b9⟩
 clear cR_b cR_f cR_0 cR_1 cR_2 cO_b cO_f cO_0 cO_1 cO_2
 refine (show bodyPost _ _ _ (Exit.panic (gvP q)) _ _ from ?_)
 have hz := B1.out.size
 have b8 := below_step B1.out (Below.refl _ _)
 exact ⟨rfl, rfl, below_step (by repeat (first | exact B1.out | refine below_drewN ?_ _ | refine Below.drew ?_ | refine Below.setCell ?_ (by first | omega | (simp; done) | (simp; omega)) _ | refine Below.alloc ?_ (by first | omega | (simp; done) | (simp; omega)) _)) b9⟩
set_option maxHeartbeats 2000000 in
set_option maxRecDepth 100000 in
theorem dws_yes1 (a g N1 N2 : ByteArray) (p1 p2 : Bool) (k d q : Int) (w : World) (tp : TypeId) (p : Value) (hv : w.var? Tryz.prog "strconv.ErrRange" = some #[.iface tp p]) (T : Wd.DTabs w) (C1 : Hid (∀ W, Calls Tryz.prog 115 #[.string g, .string ⟨#[62, 61]⟩] W fun e w' => e = .returned (.tuple #[.string N1, .bool p1]) ∧ W = w')) (C2 : Hid (∀ W, Calls Tryz.prog 115 #[.string g, .string ⟨#[60, 61]⟩] W fun e w' => e = .returned (.tuple #[.string N2, .bool p2]) ∧ W = w')) (h1 : p1 = true) (CW : Hid (∀ W, Wd.DTabs W → Calls Tryz.prog 141 #[.string a] W fun e w' => e = .returned (.int .i64 k) ∧ Below W.heap.size W w')) (CD : Hid (∀ W, W.var? Tryz.prog "strconv.ErrRange" = some #[.iface tp p] → Calls Tryz.prog 139 #[.string N1] W fun e w' => e = .returned (.int .i64 d) ∧ Below W.heap.size W w')) :
  Calls Tryz.prog 138 #[.string a, .string g] w fun e w' => e = .returned (.agg #[.int .i64 2, .int .i64 k, .int .i64 d]) ∧ Below w.heap.size w w' := by
 have T0 := Lib.hid T; clear T
 have V0 := Lib.hid hv; clear hv
 subst h1
 go_enter Tryz.func138, Tryz.ntmps138
 go_wp2_with fail
 refine (C1.out _).mono ?_; rintro e v1 ⟨rfl, rfl⟩
 go_wp2_with fail
 refine (need_yes 4 _).mono ?_; rintro e v2 ⟨rfl, rfl⟩
 go_wp2_with fail
 refine (CW.out _ (T0.out.on gr0)).mono ?_; rintro e w1 ⟨rfl, b1⟩
 have d1 : Below w.heap.size w w1 := below_step gr0 b1
 have B1 := Lib.hid d1
 have R1 : Bk3 w1 (w.heap.size) (.int .i64 0) (.int .i64 0) (.int .i64 0) := by refine Bk3.of b1 (by simp <;> omega) (by intro j; simp [go_sem]) ?_ ?_ ?_ <;> simp [go_sem]
 have O1 : Bk3 w1 (w.heap.size + 1) (.int .i64 2) (.int .i64 0) (.int .i64 0) := by refine Bk3.of b1 (by simp <;> omega) (by intro j; simp [go_sem]) ?_ ?_ ?_ <;> simp [go_sem]
 clear b1 d1
 have tx := R1; obtain ⟨cR_b, cR_f, cR_0, cR_1, cR_2⟩ := tx
 have tx := O1; obtain ⟨cO_b, cO_f, cO_0, cO_1, cO_2⟩ := tx
 go_wp2_with fail
 refine (CD.out _ (var_keep (grB B1) V0.out)).mono ?_; rintro e w2 ⟨rfl, b2⟩
 have hz := B1.out.size
 have B2 := Lib.hid (show Below w.heap.size w w2 from below_step (by repeat (first | exact B1.out | refine below_drewN ?_ _ | refine Below.drew ?_ | refine Below.setCell ?_ (by simp <;> omega) _ | refine Below.alloc ?_ (by simp <;> omega) _)) b2)
 have R2 : Bk3 w2 (w.heap.size) (.int .i64 0) (.int .i64 0) (.int .i64 0) := by refine Bk3.of b2 (by simp <;> omega) (by intro j; simp [go_sem, cR_b, cR_f, cR_0, cR_1, cR_2, cO_b, cO_f, cO_0, cO_1, cO_2]) ?_ ?_ ?_ <;> simp [go_sem, cR_b, cR_f, cR_0, cR_1, cR_2, cO_b, cO_f, cO_0, cO_1, cO_2]
 have O2 : Bk3 w2 (w.heap.size + 1) (.int .i64 2) (.int .i64 k) (.int .i64 0) := by refine Bk3.of b2 (by simp <;> omega) (by intro j; simp [go_sem, cR_b, cR_f, cR_0, cR_1, cR_2, cO_b, cO_f, cO_0, cO_1, cO_2]) ?_ ?_ ?_ <;> simp [go_sem, cR_b, cR_f, cR_0, cR_1, cR_2, cO_b, cO_f, cO_0, cO_1, cO_2]
 clear b2 hz B1 R1 O1 cR_b cR_f cR_0 cR_1 cR_2 cO_b cO_f cO_0 cO_1 cO_2
 have tx := R2; obtain ⟨cR_b, cR_f, cR_0, cR_1, cR_2⟩ := tx
 have tx := O2; obtain ⟨cO_b, cO_f, cO_0, cO_1, cO_2⟩ := tx
 go_wp2_with fail
 refine bodyPost_ret (v := .agg #[.int .i64 2, .int .i64 k, .int .i64 d]) (by simp [results, Tryz.results138, go_sem, cR_b, cR_f, cR_0, cR_1, cR_2, cO_b, cO_f, cO_0, cO_1, cO_2]) rfl ⟨rfl, ?_⟩
 clear cR_b cR_f cR_0 cR_1 cR_2 cO_b cO_f cO_0 cO_1 cO_2
 exact (grB B2)
set_option maxHeartbeats 2000000 in
set_option maxRecDepth 100000 in
theorem dws_wno2 (a g N1 N2 : ByteArray) (p1 p2 : Bool) (k d q : Int) (w : World) (tp : TypeId) (p : Value) (hv : w.var? Tryz.prog "strconv.ErrRange" = some #[.iface tp p]) (T : Wd.DTabs w) (C1 : Hid (∀ W, Calls Tryz.prog 115 #[.string g, .string ⟨#[62, 61]⟩] W fun e w' => e = .returned (.tuple #[.string N1, .bool p1]) ∧ W = w')) (C2 : Hid (∀ W, Calls Tryz.prog 115 #[.string g, .string ⟨#[60, 61]⟩] W fun e w' => e = .returned (.tuple #[.string N2, .bool p2]) ∧ W = w')) (h1 : p1 = false) (h2 : p2 = true) (CW : Hid (∀ W, Wd.DTabs W → Calls Tryz.prog 141 #[.string a] W fun e w' => e = .panicked (gvP q) ∧ Below W.heap.size W w')) :
  Calls Tryz.prog 138 #[.string a, .string g] w fun e w' => e = .panicked (gvP q) ∧ Below w.heap.size w w' := by
 have T0 := Lib.hid T; clear T
 have V0 := Lib.hid hv; clear hv
 subst h1; subst h2
 go_enter Tryz.func138, Tryz.ntmps138
 go_wp2_with fail
 refine (C1.out _).mono ?_; rintro e v1 ⟨rfl, rfl⟩
 go_wp2_with fail
 refine (C2.out _).mono ?_; rintro e v2 ⟨rfl, rfl⟩
 go_wp2_with fail
 refine (need_yes 4 _).mono ?_; rintro e v3 ⟨rfl, rfl⟩
 go_wp2_with fail
 refine (CW.out _ (T0.out.on gr0)).mono ?_; rintro e w1 ⟨rfl, b1⟩
 refine (show bodyPost _ _ _ (Exit.panic (gvP q)) _ _ from ?_)
 exact ⟨rfl, rfl, below_step gr0 b1⟩
set_option maxHeartbeats 2000000 in
set_option maxRecDepth 100000 in
theorem dws_dno2 (a g N1 N2 : ByteArray) (p1 p2 : Bool) (k d q : Int) (w : World) (tp : TypeId) (p : Value) (hv : w.var? Tryz.prog "strconv.ErrRange" = some #[.iface tp p]) (T : Wd.DTabs w) (C1 : Hid (∀ W, Calls Tryz.prog 115 #[.string g, .string ⟨#[62, 61]⟩] W fun e w' => e = .returned (.tuple #[.string N1, .bool p1]) ∧ W = w')) (C2 : Hid (∀ W, Calls Tryz.prog 115 #[.string g, .string ⟨#[60, 61]⟩] W fun e w' => e = .returned (.tuple #[.string N2, .bool p2]) ∧ W = w')) (h1 : p1 = false) (h2 : p2 = true) (CW : Hid (∀ W, Wd.DTabs W → Calls Tryz.prog 141 #[.string a] W fun e w' => e = .returned (.int .i64 k) ∧ Below W.heap.size W w')) (CD : Hid (∀ W, W.var? Tryz.prog "strconv.ErrRange" = some #[.iface tp p] → Calls Tryz.prog 139 #[.string N2] W fun e w' => e = .panicked (gvP q) ∧ Below W.heap.size W w')) :
  Calls Tryz.prog 138 #[.string a, .string g] w fun e w' => e = .panicked (gvP q) ∧ Below w.heap.size w w' := by
 have T0 := Lib.hid T; clear T
 have V0 := Lib.hid hv; clear hv
 subst h1; subst h2
 go_enter Tryz.func138, Tryz.ntmps138
 go_wp2_with fail
 refine (C1.out _).mono ?_; rintro e v1 ⟨rfl, rfl⟩
 go_wp2_with fail
 refine (C2.out _).mono ?_; rintro e v2 ⟨rfl, rfl⟩
 go_wp2_with fail
 refine (need_yes 4 _).mono ?_; rintro e v3 ⟨rfl, rfl⟩
 go_wp2_with fail
 refine (CW.out _ (T0.out.on gr0)).mono ?_; rintro e w1 ⟨rfl, b1⟩
 have d1 : Below w.heap.size w w1 := below_step gr0 b1
 have B1 := Lib.hid d1
 have R1 : Bk3 w1 (w.heap.size) (.int .i64 0) (.int .i64 0) (.int .i64 0) := by refine Bk3.of b1 (by simp <;> omega) (by intro j; simp [go_sem]) ?_ ?_ ?_ <;> simp [go_sem]
 have O1 : Bk3 w1 (w.heap.size + 1) (.int .i64 3) (.int .i64 0) (.int .i64 0) := by refine Bk3.of b1 (by simp <;> omega) (by intro j; simp [go_sem]) ?_ ?_ ?_ <;> simp [go_sem]
 clear b1 d1
 have tx := R1; obtain ⟨cR_b, cR_f, cR_0, cR_1, cR_2⟩ := tx
 have tx := O1; obtain ⟨cO_b, cO_f, cO_0, cO_1, cO_2⟩ := tx
 go_wp2_with fail
 refine (CD.out _ (var_keep (grB B1) V0.out)).mono ?_; rintro e w9 ⟨rfl, b9⟩
 clear cR_b cR_f cR_0 cR_1 cR_2 cO_b cO_f cO_0 cO_1 cO_2
 refine (show bodyPost _ _ _ (Exit.panic (gvP q)) _ _ from ?_)
 have hz := B1.out.size
 have b8 := below_step B1.out (Below.refl _ _)
 exact ⟨rfl, rfl, below_step (by repeat (first | exact B1.out | refine below_drewN ?_ _ | refine Below.drew ?_ | refine Below.setCell ?_ (by first | omega | (simp; done) | (simp; omega)) _ | refine Below.alloc ?_ (by first | omega | (simp; done) | (simp; omega)) _)) b9⟩
set_option maxHeartbeats 2000000 in
set_option maxRecDepth 100000 in
theorem dws_yes2 (a g N1 N2 : ByteArray) (p1 p2 : Bool) (k d q : Int) (w : World) (tp : TypeId) (p : Value) (hv : w.var? Tryz.prog "strconv.ErrRange" = some #[.iface tp p]) (T : Wd.DTabs w) (C1 : Hid (∀ W, Calls Tryz.prog 115 #[.string g, .string ⟨#[62, 61]⟩] W fun e w' => e = .returned (.tuple #[.string N1, .bool p1]) ∧ W = w')) (C2 : Hid (∀ W, Calls Tryz.prog 115 #[.string g, .string ⟨#[60, 61]⟩] W fun e w' => e = .returned (.tuple #[.string N2, .bool p2]) ∧ W = w')) (h1 : p1 = false) (h2 : p2 = true) (CW : Hid (∀ W, Wd.DTabs W → Calls Tryz.prog 141 #[.string a] W fun e w' => e = .returned (.int .i64 k) ∧ Below W.heap.size W w')) (CD : Hid (∀ W, W.var? Tryz.prog "strconv.ErrRange" = some #[.iface tp p] → Calls Tryz.prog 139 #[.string N2] W fun e w' => e = .returned (.int .i64 d) ∧ Below W.heap.size W w')) :
  Calls Tryz.prog 138 #[.string a, .string g] w fun e w' => e = .returned (.agg #[.int .i64 3, .int .i64 k, .int .i64 d]) ∧ Below w.heap.size w w' := by
 have T0 := Lib.hid T; clear T
 have V0 := Lib.hid hv; clear hv
 subst h1; subst h2
 go_enter Tryz.func138, Tryz.ntmps138
 go_wp2_with fail
 refine (C1.out _).mono ?_; rintro e v1 ⟨rfl, rfl⟩
 go_wp2_with fail
 refine (C2.out _).mono ?_; rintro e v2 ⟨rfl, rfl⟩
 go_wp2_with fail
 refine (need_yes 4 _).mono ?_; rintro e v3 ⟨rfl, rfl⟩
 go_wp2_with fail
 refine (CW.out _ (T0.out.on gr0)).mono ?_; rintro e w1 ⟨rfl, b1⟩
 have d1 : Below w.heap.size w w1 := below_step gr0 b1
 have B1 := Lib.hid d1
 have R1 : Bk3 w1 (w.heap.size) (.int .i64 0) (.int .i64 0) (.int .i64 0) := by refine Bk3.of b1 (by simp <;> omega) (by intro j; simp [go_sem]) ?_ ?_ ?_ <;> simp [go_sem]
 have O1 : Bk3 w1 (w.heap.size + 1) (.int .i64 3) (.int .i64 0) (.int .i64 0) := by refine Bk3.of b1 (by simp <;> omega) (by intro j; simp [go_sem]) ?_ ?_ ?_ <;> simp [go_sem]
 clear b1 d1
 have tx := R1; obtain ⟨cR_b, cR_f, cR_0, cR_1, cR_2⟩ := tx
 have tx := O1; obtain ⟨cO_b, cO_f, cO_0, cO_1, cO_2⟩ := tx
 go_wp2_with fail
 refine (CD.out _ (var_keep (grB B1) V0.out)).mono ?_; rintro e w2 ⟨rfl, b2⟩
 have hz := B1.out.size
 have B2 := Lib.hid (show Below w.heap.size w w2 from below_step (by repeat (first | exact B1.out | refine below_drewN ?_ _ | refine Below.drew ?_ | refine Below.setCell ?_ (by simp <;> omega) _ | refine Below.alloc ?_ (by simp <;> omega) _)) b2)
 have R2 : Bk3 w2 (w.heap.size) (.int .i64 0) (.int .i64 0) (.int .i64 0) := by refine Bk3.of b2 (by simp <;> omega) (by intro j; simp [go_sem, cR_b, cR_f, cR_0, cR_1, cR_2, cO_b, cO_f, cO_0, cO_1, cO_2]) ?_ ?_ ?_ <;> simp [go_sem, cR_b, cR_f, cR_0, cR_1, cR_2, cO_b, cO_f, cO_0, cO_1, cO_2]
 have O2 : Bk3 w2 (w.heap.size + 1) (.int .i64 3) (.int .i64 k) (.int .i64 0) := by refine Bk3.of b2 (by simp <;> omega) (by intro j; simp [go_sem, cR_b, cR_f, cR_0, cR_1, cR_2, cO_b, cO_f, cO_0, cO_1, cO_2]) ?_ ?_ ?_ <;> simp [go_sem, cR_b, cR_f, cR_0, cR_1, cR_2, cO_b, cO_f, cO_0, cO_1, cO_2]
 clear b2 hz B1 R1 O1 cR_b cR_f cR_0 cR_1 cR_2 cO_b cO_f cO_0 cO_1 cO_2
 have tx := R2; obtain ⟨cR_b, cR_f, cR_0, cR_1, cR_2⟩ := tx
 have tx := O2; obtain ⟨cO_b, cO_f, cO_0, cO_1, cO_2⟩ := tx
 go_wp2_with fail
 refine bodyPost_ret (v := .agg #[.int .i64 3, .int .i64 k, .int .i64 d]) (by simp [results, Tryz.results138, go_sem, cR_b, cR_f, cR_0, cR_1, cR_2, cO_b, cO_f, cO_0, cO_1, cO_2]) rfl ⟨rfl, ?_⟩
 clear cR_b cR_f cR_0 cR_1 cR_2 cO_b cO_f cO_0 cO_1 cO_2
 exact (grB B2)
set_option maxHeartbeats 2000000 in
set_option maxRecDepth 100000 in
theorem dws_form (a g N1 N2 : ByteArray) (p1 p2 : Bool) (w : World) (C1 : Hid (∀ W, Calls Tryz.prog 115 #[.string g, .string ⟨#[62, 61]⟩] W fun e w' => e = .returned (.tuple #[.string N1, .bool p1]) ∧ W = w')) (C2 : Hid (∀ W, Calls Tryz.prog 115 #[.string g, .string ⟨#[60, 61]⟩] W fun e w' => e = .returned (.tuple #[.string N2, .bool p2]) ∧ W = w')) (h1 : p1 = false) (h2 : p2 = false) :
  Calls Tryz.prog 138 #[.string a, .string g] w fun e w' => e = .panicked (gvP 4) ∧ Below w.heap.size w w' := by
 subst h1; subst h2
 go_enter Tryz.func138, Tryz.ntmps138
 go_wp2_with fail
 refine (C1.out _).mono ?_; rintro e v1 ⟨rfl, rfl⟩
 go_wp2_with fail
 refine (C2.out _).mono ?_; rintro e v2 ⟨rfl, rfl⟩
 go_wp2_with fail
 refine (need_no 4 _).mono ?_; rintro e w5 ⟨rfl, rfl⟩
 refine (show bodyPost _ _ _ (Exit.panic (gvP 4)) _ _ from ?_)
 exact ⟨rfl, rfl, gr0⟩
namespace Ds
theorem sw_w {k : Int} {a n : List UInt8} (h : (wd a).2 ≠ 0) : sw k a n = (0, 0, 0, (wd a).2) := by unfold sw; rw [if_neg h]
theorem sw_d {k : Int} {a n : List UInt8} (h : (wd a).2 = 0) (h2 : (day n).2 ≠ 0) : sw k a n = (0, 0, 0, (day n).2) := by unfold sw; rw [if_pos h, if_neg h2]
theorem sw_y {k : Int} {a n : List UInt8} (h : (wd a).2 = 0) (h2 : (day n).2 = 0) : sw k a n = (k, (wd a).1, (day n).1, 0) := by unfold sw; rw [if_pos h, if_pos h2]
end Ds
def AnsO (r : Int × Int × Int × Int) (e : Ending) : Prop := (r.2.2.2 = 0 ∧ e = .returned (.agg #[.int .i64 r.1, .int .i64 r.2.1, .int .i64 r.2.2.1])) ∨ (r.2.2.2 ≠ 0 ∧ e = .panicked (gvP r.2.2.2))
theorem dws_any (a g : ByteArray) (w : World) (ha : a.size ≤ 1000) (hg : g.size ≤ 1000) (tp : TypeId) (p : Value) (hv : w.var? Tryz.prog "strconv.ErrRange" = some #[.iface tp p]) (T : Wd.DTabs w) :
  Calls Tryz.prog 138 #[.string a, .string g] w fun e w' => AnsO (Ds.ws a.data.toList g.data.toList) e ∧ Below w.heap.size w w' := by
 have C1 := Lib.hid (fun W => cutPrefix g ⟨#[62, 61]⟩ W)
 have C2 := Lib.hid (fun W => cutPrefix g ⟨#[60, 61]⟩ W)
 have z1 : ∀ l : List UInt8, (⟨(Lib.trimPrefix g.data.toList l).toArray⟩ : ByteArray).size ≤ 1000 := fun l => by
  show (Lib.trimPrefix g.data.toList l).toArray.size ≤ 1000
  rw [List.size_toArray]
  have := ab_trim g.data.toList l
  rw [ab_len] at this; omega
 have m1 : a.size ≤ maxLen := by unfold maxLen; omega
 unfold Ds.ws
 cases p1 : Lib.hasPrefix g.data.toList [62, 61]
 ·
  rw [if_neg (by decide)]
  cases p2 : Lib.hasPrefix g.data.toList [60, 61]
  ·
   rw [if_neg (by decide)]
   exact (dws_form a g _ _ _ _ w C1 C2 p1 p2).mono fun _ _ ⟨h, b⟩ => ⟨.inr ⟨by decide, h⟩, b⟩
  ·
   rw [if_pos rfl]
   by_cases hw : (Ds.wd a.data.toList).2 = 0
   ·
    have CW := Lib.hid (fun W h => dweek_yes a (Ds.wd a.data.toList).1 W m1 h (Prod.ext rfl hw))
    by_cases hd : (Ds.day (Lib.trimPrefix g.data.toList [60, 61])).2 = 0
    ·
     rw [Ds.sw_y hw hd]
     exact (dws_yes2 a g _ _ _ _ _ (Ds.day (Lib.trimPrefix g.data.toList [60, 61])).1 0 w tp p hv T C1 C2 p1 p2 CW (Lib.hid (fun W h => dday_yes (⟨(Lib.trimPrefix g.data.toList [60, 61]).toArray⟩ : ByteArray) _ W (z1 _) tp p h (Prod.ext rfl hd)))).mono fun _ _ ⟨h, b⟩ => ⟨.inl ⟨rfl, h⟩, b⟩
    ·
     rw [Ds.sw_d hw hd]
     exact (dws_dno2 a g _ _ _ _ _ 0 (Ds.day (Lib.trimPrefix g.data.toList [60, 61])).2 w tp p hv T C1 C2 p1 p2 CW (Lib.hid (fun W h => dday_no (⟨(Lib.trimPrefix g.data.toList [60, 61]).toArray⟩ : ByteArray) _ W (z1 _) tp p h rfl hd))).mono fun _ _ ⟨h, b⟩ => ⟨.inr ⟨hd, h⟩, b⟩
   ·
    rw [Ds.sw_w hw]
    exact (dws_wno2 a g _ _ _ _ 0 0 (Ds.wd a.data.toList).2 w tp p hv T C1 C2 p1 p2 (Lib.hid (fun W h => dweek_no a _ W m1 h rfl hw))).mono fun _ _ ⟨h, b⟩ => ⟨.inr ⟨hw, h⟩, b⟩
 ·
  rw [if_pos rfl]
  by_cases hw : (Ds.wd a.data.toList).2 = 0
  ·
   have CW := Lib.hid (fun W h => dweek_yes a (Ds.wd a.data.toList).1 W m1 h (Prod.ext rfl hw))
   by_cases hd : (Ds.day (Lib.trimPrefix g.data.toList [62, 61])).2 = 0
   ·
    rw [Ds.sw_y hw hd]
    exact (dws_yes1 a g _ _ _ _ _ (Ds.day (Lib.trimPrefix g.data.toList [62, 61])).1 0 w tp p hv T C1 C2 p1 CW (Lib.hid (fun W h => dday_yes (⟨(Lib.trimPrefix g.data.toList [62, 61]).toArray⟩ : ByteArray) _ W (z1 _) tp p h (Prod.ext rfl hd)))).mono fun _ _ ⟨h, b⟩ => ⟨.inl ⟨rfl, h⟩, b⟩
   ·
    rw [Ds.sw_d hw hd]
    exact (dws_dno1 a g _ _ _ _ _ 0 (Ds.day (Lib.trimPrefix g.data.toList [62, 61])).2 w tp p hv T C1 C2 p1 CW (Lib.hid (fun W h => dday_no (⟨(Lib.trimPrefix g.data.toList [62, 61]).toArray⟩ : ByteArray) _ W (z1 _) tp p h rfl hd))).mono fun _ _ ⟨h, b⟩ => ⟨.inr ⟨hd, h⟩, b⟩
  ·
   rw [Ds.sw_w hw]
   exact (dws_wno1 a g _ _ _ _ 0 0 (Ds.wd a.data.toList).2 w tp p hv T C1 C2 p1 (Lib.hid (fun W h => dweek_no a _ W m1 h rfl hw))).mono fun _ _ ⟨h, b⟩ => ⟨.inr ⟨hw, h⟩, b⟩
end Go.Proofs.YtjggjkeopbcmoaaGreatDoor
