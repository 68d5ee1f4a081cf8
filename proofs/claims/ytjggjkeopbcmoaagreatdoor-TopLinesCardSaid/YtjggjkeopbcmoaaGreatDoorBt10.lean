/- Joined: DsCF. -/
import Derived.Test.YtjggjkeopbcmoaaGreatDoorBt01
import Derived.Test.YtjggjkeopbcmoaaGreatDoorBt09
import Derived.Test.YtjggjkeopbcmoaaGreatDoorBt02
import Derived.Test.YtjggjkeopbcmoaaGreatDoorBt03
set_option linter.unusedVariables false
set_option linter.unusedSimpArgs false
namespace Go.Proofs.YtjggjkeopbcmoaaGreatDoor
section
open Go.RowKit Go.Sort
set_option maxHeartbeats 2000000 in
set_option maxRecDepth 100000 in
theorem drd_sy (s A G : ByteArray) (j k0 k1 k2 : Int) (w : World) (tp : TypeId) (p : Value) (hv : w.var? Tryz.prog "strconv.ErrRange" = some #[.iface tp p]) (T : Wd.DTabs w) (X1 : Hid (∀ W, Calls Tryz.prog 122 #[.string s, .string ⟨#[60, 62]⟩] W fun e w' => e = .returned (.int .i64 j) ∧ Below W.heap.size W w')) (hj : 0 ≤ j) (SA : ∀ W, Sem.run Tryz.prog (Instr.slice 9 (.string s) none (some (.int .i64 j)) none) W = .ok (.string A) W) (SG : ∀ W, Sem.run Tryz.prog (Instr.slice 9 (.string s) (some (.int .i64 j)) none none) W = .ok (.string G) W) (CS : Hid (∀ W, W.var? Tryz.prog "strconv.ErrRange" = some #[.iface tp p] → Wd.DTabs W → Calls Tryz.prog 138 #[.string A, .string G] W fun e w' => e = .returned (.agg #[.int .i64 k0, .int .i64 k1, .int .i64 k2]) ∧ Below W.heap.size W w')) :
  Calls Tryz.prog 111 #[.string s] w fun e w' => e = .returned (.agg #[.int .i64 k0, .int .i64 k1, .int .i64 k2]) ∧ Below w.heap.size w w' := by
 have T0 := Lib.hid T; clear T
 have V0 := Lib.hid hv; clear hv
 go_enter Tryz.func111, Tryz.ntmps111
 go_wp2_with fail
 refine (X1.out _).mono ?_; rintro e w1 ⟨rfl, b1⟩
 have d1 : Below w.heap.size w w1 := below_step gr0 b1
 have B1 := Lib.hid d1
 have R1 : Bk3 w1 (w.heap.size) (.int .i64 0) (.int .i64 0) (.int .i64 0) := by refine Bk3.of b1 (by simp <;> omega) (by intro j; simp [go_sem]) ?_ ?_ ?_ <;> simp [go_sem]
 clear b1 d1
 have CC := Lib.hid (fun W (b : Below w1.heap.size w1 W) => CS.out W (var_keep b (var_keep B1.out V0.out)) ((T0.out.on B1.out).on b))
 have tx := R1; obtain ⟨cR_b, cR_f, cR_0, cR_1, cR_2⟩ := tx
 go_wp2_with fail
 go_region_with ((go_at_call 138; refine (CC.out _ (by repeat (first | exact Below.refl _ _ | refine below_drewN ?_ _ | refine Below.drew ?_))).mono ?_; rintro e w2 ⟨rfl, b2⟩; have d2 : Below w1.heap.size w1 w2 := below_step (by repeat (first | exact Below.refl _ _ | refine below_drewN ?_ _ | refine Below.drew ?_)) b2; have R2 := R1.keep d2; have r_b := R2.hb; have r_f := R2.fz; have r_0 := R2.k0; have r_1 := R2.k1; have r_2 := R2.k2))
 all_goals
  go_wp2_with fail
  refine bodyPost_ret (v := .agg #[.int .i64 k0, .int .i64 k1, .int .i64 k2]) (by simp [results, Tryz.results111, go_sem, r_b, r_f, r_0, r_1, r_2]) rfl ⟨rfl, ?_⟩
  have B2 := below_step B1.out d2
  have hz := B2.size
  repeat (first | exact B2 | refine below_drewN ?_ _ | refine Below.drew ?_ | refine Below.setCell ?_ (by first | omega | (simp; done) | (simp; omega)) _ | refine Below.alloc ?_ (by first | omega | (simp; done) | (simp; omega)) _)
set_option maxHeartbeats 2000000 in
set_option maxRecDepth 100000 in
theorem drd_sn (s A G : ByteArray) (j q : Int) (w : World) (tp : TypeId) (p : Value) (hv : w.var? Tryz.prog "strconv.ErrRange" = some #[.iface tp p]) (T : Wd.DTabs w) (X1 : Hid (∀ W, Calls Tryz.prog 122 #[.string s, .string ⟨#[60, 62]⟩] W fun e w' => e = .returned (.int .i64 j) ∧ Below W.heap.size W w')) (hj : 0 ≤ j) (SA : ∀ W, Sem.run Tryz.prog (Instr.slice 9 (.string s) none (some (.int .i64 j)) none) W = .ok (.string A) W) (SG : ∀ W, Sem.run Tryz.prog (Instr.slice 9 (.string s) (some (.int .i64 j)) none none) W = .ok (.string G) W) (CS : Hid (∀ W, W.var? Tryz.prog "strconv.ErrRange" = some #[.iface tp p] → Wd.DTabs W → Calls Tryz.prog 138 #[.string A, .string G] W fun e w' => e = .panicked (gvP q) ∧ Below W.heap.size W w')) :
  Calls Tryz.prog 111 #[.string s] w fun e w' => e = .panicked (gvP q) ∧ Below w.heap.size w w' := by
 have T0 := Lib.hid T; clear T
 have V0 := Lib.hid hv; clear hv
 go_enter Tryz.func111, Tryz.ntmps111
 go_wp2_with fail
 refine (X1.out _).mono ?_; rintro e w1 ⟨rfl, b1⟩
 have d1 : Below w.heap.size w w1 := below_step gr0 b1
 have B1 := Lib.hid d1
 have R1 : Bk3 w1 (w.heap.size) (.int .i64 0) (.int .i64 0) (.int .i64 0) := by refine Bk3.of b1 (by simp <;> omega) (by intro j; simp [go_sem]) ?_ ?_ ?_ <;> simp [go_sem]
 clear b1 d1
 have CC := Lib.hid (fun W (b : Below w1.heap.size w1 W) => CS.out W (var_keep b (var_keep B1.out V0.out)) ((T0.out.on B1.out).on b))
 have tx := R1; obtain ⟨cR_b, cR_f, cR_0, cR_1, cR_2⟩ := tx
 go_wp2_with fail
 refine wp_region_any (by kernel_rfl) ?_
 try (change wpAny _ _ _ _ _ _ _ (World.drew _))
 refine wpAny_take (i := 0) (v := ?_) rfl (by kernel_rfl) (by kernel_rfl) (by kernel_rfl) (fun _ _ _ h => h) (Or.inl ⟨by rfl, ?_⟩) ?_
 rotate_left
 ·
  intro w; go_simp; try with_reducible rfl
 refine wpAny_take (i := 1) (v := ?_) rfl (by kernel_rfl) (by kernel_rfl) (by kernel_rfl) (fun _ _ _ h => h) (Or.inl ⟨by rfl, ?_⟩) ?_
 rotate_left
 ·
  intro w; go_simp; try with_reducible rfl
 refine wpAny_take (i := 2) (v := ?_) rfl (by kernel_rfl) (by kernel_rfl) (by kernel_rfl) (fun _ _ _ h => h) (Or.inl ⟨by rfl, ?_⟩) ?_
 rotate_left
 ·
  intro w; go_simp; try with_reducible rfl
 refine wpAny_take (i := 3) (v := ?_) rfl (by kernel_rfl) (by kernel_rfl) (by kernel_rfl) (fun _ _ _ h => h) (Or.inl ⟨by rfl, ?_⟩) ?_
 rotate_left
 ·
  intro w; go_simp; try with_reducible rfl
 refine wpAny_take (i := 4) (v := ?_) rfl (by kernel_rfl) (by kernel_rfl) (by kernel_rfl) (fun _ _ _ h => h) (Or.inl ⟨by rfl, ?_⟩) ?_
 rotate_left
 ·
  intro w; go_simp; try with_reducible rfl
 refine wpAny_take (i := 5) (v := ?_) rfl (by kernel_rfl) (by kernel_rfl) (by kernel_rfl) (fun _ _ _ h => h) (Or.inl ⟨by rfl, ?_⟩) ?_
 rotate_left
 ·
  intro w; go_simp; try with_reducible rfl
 refine wpAny_ready (rs := [6]) (by kernel_rfl) (by simp) ?_
 refine AllReady.cons rfl (fun K hK => ?_) AllReady.nil
 go_simp
 refine (CC.out _ (by repeat (first | exact Below.refl _ _ | refine below_drewN ?_ _ | refine Below.drew ?_))).mono ?_; rintro e w2 ⟨rfl, b2⟩
 refine (show bodyPost _ _ _ (Exit.panic (gvP q)) _ _ from ?_)
 exact ⟨rfl, rfl, below_step B1.out (below_step (by repeat (first | exact Below.refl _ _ | refine below_drewN ?_ _ | refine Below.drew ?_)) b2)⟩
end
section
open Go.RowKit Go.Sort
set_option maxHeartbeats 2000000 in
set_option maxRecDepth 100000 in
theorem drd_ny (s : ByteArray) (j d : Int) (w : World) (tp : TypeId) (p : Value) (hv : w.var? Tryz.prog "strconv.ErrRange" = some #[.iface tp p]) (T : Wd.DTabs w) (X1 : Hid (∀ W, Calls Tryz.prog 122 #[.string s, .string ⟨#[60, 62]⟩] W fun e w' => e = .returned (.int .i64 j) ∧ Below W.heap.size W w')) (hj : decide (0 ≤ j) = false) (X2 : Hid (∀ W, Calls Tryz.prog 122 #[.string s, .string ⟨#[45, 48, 49, 50, 51, 52, 53, 54, 55, 56, 57]⟩] W fun e w' => e = .returned (.int .i64 0) ∧ Below W.heap.size W w')) (CD : Hid (∀ W, W.var? Tryz.prog "strconv.ErrRange" = some #[.iface tp p] → Calls Tryz.prog 139 #[.string s] W fun e w' => e = .returned (.int .i64 d) ∧ Below W.heap.size W w')) :
  Calls Tryz.prog 111 #[.string s] w fun e w' => e = .returned (.agg #[.int .i64 0, .int .i64 0, .int .i64 d]) ∧ Below w.heap.size w w' := by
 have V0 := Lib.hid hv; clear hv
 go_enter Tryz.func111, Tryz.ntmps111
 go_wp2_with fail
 refine (X1.out _).mono ?_; rintro e w1 ⟨rfl, b1⟩
 have d1 : Below w.heap.size w w1 := below_step gr0 b1
 have B1 := Lib.hid d1
 have R1 : Bk3 w1 (w.heap.size) (.int .i64 0) (.int .i64 0) (.int .i64 0) := by refine Bk3.of b1 (by simp <;> omega) (by intro j; simp [go_sem]) ?_ ?_ ?_ <;> simp [go_sem]
 clear b1 d1
 have tx := R1; obtain ⟨cR_b, cR_f, cR_0, cR_1, cR_2⟩ := tx
 go_wp2_with fail
 clear cR_b cR_f cR_0 cR_1 cR_2
 refine (X2.out _).mono ?_; rintro e w2 ⟨rfl, b2⟩
 have d2 : Below w1.heap.size w1 w2 := below_step gr0 b2
 have B2 := Lib.hid (below_step B1.out d2)
 have R2 := R1.keep d2
 clear R1 b2 d2 B1
 have tx := R2; obtain ⟨cR_b, cR_f, cR_0, cR_1, cR_2⟩ := tx
 go_wp2_with fail
 clear cR_b cR_f cR_0 cR_1 cR_2
 refine (CD.out _ (var_keep (grB B2) V0.out)).mono ?_; rintro e w3 ⟨rfl, b3⟩
 have d3 : Below w2.heap.size w2 w3 := below_step gr0 b3
 have B3 := Lib.hid (below_step B2.out d3)
 have R3 := R2.keep d3
 clear R2 b3 d3 B2
 have tx := R3; obtain ⟨cR_b, cR_f, cR_0, cR_1, cR_2⟩ := tx
 go_wp2_with fail
 refine bodyPost_ret (v := .agg #[.int .i64 0, .int .i64 0, .int .i64 d]) (by simp [results, Tryz.results111, go_sem, cR_b, cR_f, cR_0, cR_1, cR_2]) rfl ⟨rfl, ?_⟩
 clear cR_b cR_f cR_0 cR_1 cR_2
 exact (grB B3)
set_option maxHeartbeats 2000000 in
set_option maxRecDepth 100000 in
theorem drd_nn (s : ByteArray) (j q : Int) (w : World) (tp : TypeId) (p : Value) (hv : w.var? Tryz.prog "strconv.ErrRange" = some #[.iface tp p]) (T : Wd.DTabs w) (X1 : Hid (∀ W, Calls Tryz.prog 122 #[.string s, .string ⟨#[60, 62]⟩] W fun e w' => e = .returned (.int .i64 j) ∧ Below W.heap.size W w')) (hj : decide (0 ≤ j) = false) (X2 : Hid (∀ W, Calls Tryz.prog 122 #[.string s, .string ⟨#[45, 48, 49, 50, 51, 52, 53, 54, 55, 56, 57]⟩] W fun e w' => e = .returned (.int .i64 0) ∧ Below W.heap.size W w')) (CD : Hid (∀ W, W.var? Tryz.prog "strconv.ErrRange" = some #[.iface tp p] → Calls Tryz.prog 139 #[.string s] W fun e w' => e = .panicked (gvP q) ∧ Below W.heap.size W w')) :
  Calls Tryz.prog 111 #[.string s] w fun e w' => e = .panicked (gvP q) ∧ Below w.heap.size w w' := by
 have V0 := Lib.hid hv; clear hv
 go_enter Tryz.func111, Tryz.ntmps111
 go_wp2_with fail
 refine (X1.out _).mono ?_; rintro e w1 ⟨rfl, b1⟩
 have d1 : Below w.heap.size w w1 := below_step gr0 b1
 have B1 := Lib.hid d1
 have R1 : Bk3 w1 (w.heap.size) (.int .i64 0) (.int .i64 0) (.int .i64 0) := by refine Bk3.of b1 (by simp <;> omega) (by intro j; simp [go_sem]) ?_ ?_ ?_ <;> simp [go_sem]
 clear b1 d1
 have tx := R1; obtain ⟨cR_b, cR_f, cR_0, cR_1, cR_2⟩ := tx
 go_wp2_with fail
 clear cR_b cR_f cR_0 cR_1 cR_2
 refine (X2.out _).mono ?_; rintro e w2 ⟨rfl, b2⟩
 have d2 : Below w1.heap.size w1 w2 := below_step gr0 b2
 have B2 := Lib.hid (below_step B1.out d2)
 have R2 := R1.keep d2
 clear R1 b2 d2 B1
 go_wp2_with fail
 refine (CD.out _ (var_keep (grB B2) V0.out)).mono ?_; rintro e w9 ⟨rfl, b9⟩
 refine (show bodyPost _ _ _ (Exit.panic (gvP q)) _ _ from ?_)
 exact ⟨rfl, rfl, below_step B2.out b9⟩
set_option maxHeartbeats 2000000 in
set_option maxRecDepth 100000 in
theorem drd_form (s : ByteArray) (j j2 : Int) (w : World) (tp : TypeId) (p : Value) (hv : w.var? Tryz.prog "strconv.ErrRange" = some #[.iface tp p]) (T : Wd.DTabs w) (X1 : Hid (∀ W, Calls Tryz.prog 122 #[.string s, .string ⟨#[60, 62]⟩] W fun e w' => e = .returned (.int .i64 j) ∧ Below W.heap.size W w')) (hj : decide (0 ≤ j) = false) (X2 : Hid (∀ W, Calls Tryz.prog 122 #[.string s, .string ⟨#[45, 48, 49, 50, 51, 52, 53, 54, 55, 56, 57]⟩] W fun e w' => e = .returned (.int .i64 j2) ∧ Below W.heap.size W w')) (h2 : (j2 == 0) = false) (XB : Hid (∀ W, Calls Tryz.prog 140 #[.string s] W fun e w' => e = .returned (.bool false) ∧ Below W.heap.size W w')) :
  Calls Tryz.prog 111 #[.string s] w fun e w' => e = .panicked (gvP 4) ∧ Below w.heap.size w w' := by
 go_enter Tryz.func111, Tryz.ntmps111
 go_wp2_with fail
 refine (X1.out _).mono ?_; rintro e w1 ⟨rfl, b1⟩
 have d1 : Below w.heap.size w w1 := below_step gr0 b1
 have B1 := Lib.hid d1
 have R1 : Bk3 w1 (w.heap.size) (.int .i64 0) (.int .i64 0) (.int .i64 0) := by refine Bk3.of b1 (by simp <;> omega) (by intro j; simp [go_sem]) ?_ ?_ ?_ <;> simp [go_sem]
 clear b1 d1
 have tx := R1; obtain ⟨cR_b, cR_f, cR_0, cR_1, cR_2⟩ := tx
 go_wp2_with fail
 clear cR_b cR_f cR_0 cR_1 cR_2
 refine (X2.out _).mono ?_; rintro e w2 ⟨rfl, b2⟩
 have d2 : Below w1.heap.size w1 w2 := below_step gr0 b2
 have B2 := Lib.hid (below_step B1.out d2)
 have R2 := R1.keep d2
 clear R1 b2 d2 B1
 have tx := R2; obtain ⟨cR_b, cR_f, cR_0, cR_1, cR_2⟩ := tx
 go_wp2_with fail
 clear cR_b cR_f cR_0 cR_1 cR_2
 refine (XB.out _).mono ?_; rintro e w3 ⟨rfl, b3⟩
 have d3 : Below w2.heap.size w2 w3 := below_step gr0 b3
 have B3 := Lib.hid (below_step B2.out d3)
 have R3 := R2.keep d3
 clear R2 b3 d3 B2
 go_wp2_with fail
 refine (need_no 4 _).mono ?_; rintro e w9 ⟨rfl, rfl⟩
 refine (show bodyPost _ _ _ (Exit.panic (gvP 4)) _ _ from ?_)
 exact ⟨rfl, rfl, (grB B3)⟩
set_option maxHeartbeats 2000000 in
set_option maxRecDepth 100000 in
theorem drd_ly (s A : ByteArray) (j j2 k : Int) (w : World) (tp : TypeId) (p : Value) (hv : w.var? Tryz.prog "strconv.ErrRange" = some #[.iface tp p]) (T : Wd.DTabs w) (X1 : Hid (∀ W, Calls Tryz.prog 122 #[.string s, .string ⟨#[60, 62]⟩] W fun e w' => e = .returned (.int .i64 j) ∧ Below W.heap.size W w')) (hj : decide (0 ≤ j) = false) (X2 : Hid (∀ W, Calls Tryz.prog 122 #[.string s, .string ⟨#[45, 48, 49, 50, 51, 52, 53, 54, 55, 56, 57]⟩] W fun e w' => e = .returned (.int .i64 j2) ∧ Below W.heap.size W w')) (h2 : (j2 == 0) = false) (XB : Hid (∀ W, Calls Tryz.prog 140 #[.string s] W fun e w' => e = .returned (.bool true) ∧ Below W.heap.size W w')) (SA : ∀ W, Sem.run Tryz.prog (Instr.slice 9 (.string s) (some (.int .i64 4)) none none) W = .ok (.string A) W) (CW : Hid (∀ W, Wd.DTabs W → Calls Tryz.prog 141 #[.string A] W fun e w' => e = .returned (.int .i64 k) ∧ Below W.heap.size W w')) :
  Calls Tryz.prog 111 #[.string s] w fun e w' => e = .returned (.agg #[.int .i64 1, .int .i64 k, .int .i64 0]) ∧ Below w.heap.size w w' := by
 have T0 := Lib.hid T; clear T
 go_enter Tryz.func111, Tryz.ntmps111
 go_wp2_with fail
 refine (X1.out _).mono ?_; rintro e w1 ⟨rfl, b1⟩
 have d1 : Below w.heap.size w w1 := below_step gr0 b1
 have B1 := Lib.hid d1
 have R1 : Bk3 w1 (w.heap.size) (.int .i64 0) (.int .i64 0) (.int .i64 0) := by refine Bk3.of b1 (by simp <;> omega) (by intro j; simp [go_sem]) ?_ ?_ ?_ <;> simp [go_sem]
 clear b1 d1
 have tx := R1; obtain ⟨cR_b, cR_f, cR_0, cR_1, cR_2⟩ := tx
 go_wp2_with fail
 clear cR_b cR_f cR_0 cR_1 cR_2
 refine (X2.out _).mono ?_; rintro e w2 ⟨rfl, b2⟩
 have d2 : Below w1.heap.size w1 w2 := below_step gr0 b2
 have B2 := Lib.hid (below_step B1.out d2)
 have R2 := R1.keep d2
 clear R1 b2 d2 B1
 have tx := R2; obtain ⟨cR_b, cR_f, cR_0, cR_1, cR_2⟩ := tx
 go_wp2_with fail
 clear cR_b cR_f cR_0 cR_1 cR_2
 refine (XB.out _).mono ?_; rintro e w3 ⟨rfl, b3⟩
 have d3 : Below w2.heap.size w2 w3 := below_step gr0 b3
 have B3 := Lib.hid (below_step B2.out d3)
 have R3 := R2.keep d3
 clear R2 b3 d3 B2
 have tx := R3; obtain ⟨cR_b, cR_f, cR_0, cR_1, cR_2⟩ := tx
 go_wp2_with fail
 clear cR_b cR_f cR_0 cR_1 cR_2
 refine (need_yes 4 _).mono ?_; rintro e v1 ⟨rfl, rfl⟩
 have tx := R3; obtain ⟨cR_b, cR_f, cR_0, cR_1, cR_2⟩ := tx
 go_wp2_with fail
 clear cR_b cR_f cR_0 cR_1 cR_2
 refine (CW.out _ (T0.out.on (grB B3))).mono ?_; rintro e w4 ⟨rfl, b4⟩
 have d4 : Below w3.heap.size w3 w4 := below_step gr0 b4
 have B4 := Lib.hid (below_step B3.out d4)
 have R4 := R3.keep d4
 clear R3 b4 d4 B3
 have tx := R4; obtain ⟨cR_b, cR_f, cR_0, cR_1, cR_2⟩ := tx
 go_wp2_with fail
 refine bodyPost_ret (v := .agg #[.int .i64 1, .int .i64 k, .int .i64 0]) (by simp [results, Tryz.results111, go_sem, cR_b, cR_f, cR_0, cR_1, cR_2]) rfl ⟨rfl, ?_⟩
 clear cR_b cR_f cR_0 cR_1 cR_2
 exact (grB B4)
set_option maxHeartbeats 2000000 in
set_option maxRecDepth 100000 in
theorem drd_ln (s A : ByteArray) (j j2 q : Int) (w : World) (tp : TypeId) (p : Value) (hv : w.var? Tryz.prog "strconv.ErrRange" = some #[.iface tp p]) (T : Wd.DTabs w) (X1 : Hid (∀ W, Calls Tryz.prog 122 #[.string s, .string ⟨#[60, 62]⟩] W fun e w' => e = .returned (.int .i64 j) ∧ Below W.heap.size W w')) (hj : decide (0 ≤ j) = false) (X2 : Hid (∀ W, Calls Tryz.prog 122 #[.string s, .string ⟨#[45, 48, 49, 50, 51, 52, 53, 54, 55, 56, 57]⟩] W fun e w' => e = .returned (.int .i64 j2) ∧ Below W.heap.size W w')) (h2 : (j2 == 0) = false) (XB : Hid (∀ W, Calls Tryz.prog 140 #[.string s] W fun e w' => e = .returned (.bool true) ∧ Below W.heap.size W w')) (SA : ∀ W, Sem.run Tryz.prog (Instr.slice 9 (.string s) (some (.int .i64 4)) none none) W = .ok (.string A) W) (CW : Hid (∀ W, Wd.DTabs W → Calls Tryz.prog 141 #[.string A] W fun e w' => e = .panicked (gvP q) ∧ Below W.heap.size W w')) :
  Calls Tryz.prog 111 #[.string s] w fun e w' => e = .panicked (gvP q) ∧ Below w.heap.size w w' := by
 have T0 := Lib.hid T; clear T
 go_enter Tryz.func111, Tryz.ntmps111
 go_wp2_with fail
 refine (X1.out _).mono ?_; rintro e w1 ⟨rfl, b1⟩
 have d1 : Below w.heap.size w w1 := below_step gr0 b1
 have B1 := Lib.hid d1
 have R1 : Bk3 w1 (w.heap.size) (.int .i64 0) (.int .i64 0) (.int .i64 0) := by refine Bk3.of b1 (by simp <;> omega) (by intro j; simp [go_sem]) ?_ ?_ ?_ <;> simp [go_sem]
 clear b1 d1
 have tx := R1; obtain ⟨cR_b, cR_f, cR_0, cR_1, cR_2⟩ := tx
 go_wp2_with fail
 clear cR_b cR_f cR_0 cR_1 cR_2
 refine (X2.out _).mono ?_; rintro e w2 ⟨rfl, b2⟩
 have d2 : Below w1.heap.size w1 w2 := below_step gr0 b2
 have B2 := Lib.hid (below_step B1.out d2)
 have R2 := R1.keep d2
 clear R1 b2 d2 B1
 have tx := R2; obtain ⟨cR_b, cR_f, cR_0, cR_1, cR_2⟩ := tx
 go_wp2_with fail
 clear cR_b cR_f cR_0 cR_1 cR_2
 refine (XB.out _).mono ?_; rintro e w3 ⟨rfl, b3⟩
 have d3 : Below w2.heap.size w2 w3 := below_step gr0 b3
 have B3 := Lib.hid (below_step B2.out d3)
 have R3 := R2.keep d3
 clear R2 b3 d3 B2
 have tx := R3; obtain ⟨cR_b, cR_f, cR_0, cR_1, cR_2⟩ := tx
 go_wp2_with fail
 clear cR_b cR_f cR_0 cR_1 cR_2
 refine (need_yes 4 _).mono ?_; rintro e v1 ⟨rfl, rfl⟩
 go_wp2_with fail
 refine (CW.out _ (T0.out.on (grB B3))).mono ?_; rintro e w9 ⟨rfl, b9⟩
 refine (show bodyPost _ _ _ (Exit.panic (gvP q)) _ _ from ?_)
 exact ⟨rfl, rfl, below_step B3.out b9⟩
end
section
open Go.RowKit Go.Sort
namespace Ds
theorem ix_le (cs : List UInt8) : ∀ l : List UInt8, Lib.indexAny l cs ≤ (l.length : Int)
 | [] => by unfold Lib.indexAny; simp
 | c :: r => by
  have ih := ix_le cs r
  unfold Lib.indexAny
  rw [List.length_cons]
  split
  ·
   omega
  ·
   split <;> omega
theorem hd_run (s : ByteArray) (j : Int) (h0 : 0 ≤ j) (h1 : j ≤ (s.size : Int)) (W : World) : Sem.run Tryz.prog (Instr.slice 9 (.string s) none (some (.int .i64 j)) none) W = .ok (.string (s.extract 0 j.toNat)) W := by
 rw [run_slice_string_h W 9 s Tryz.underlying9 .i64 _ h0 h1]
theorem tl_run (s : ByteArray) (j : Int) (h0 : 0 ≤ j) (h1 : j ≤ (s.size : Int)) (W : World) : Sem.run Tryz.prog (Instr.slice 9 (.string s) (some (.int .i64 j)) none none) W = .ok (.string (s.extract j.toNat s.size)) W := by
 rw [run_slice_string_l W 9 s Tryz.underlying9 .i64 _ h0 h1]
theorem hd_l (s : ByteArray) (n : Nat) : (s.extract 0 n).data.toList = s.data.toList.take n := by
 rw [ByteArray.data_extract, Array.toList_extract]; simp
theorem tl_l (s : ByteArray) (n : Nat) : (s.extract n s.size).data.toList = s.data.toList.drop n := by
 rw [Lib.extract_data]
 exact List.take_of_length_le (by rw [List.length_drop, ab_len]; omega)
end Ds
theorem AnsO.yes {r : Int × Int × Int × Int} {e : Ending} (h : AnsO r e) (z : r.2.2.2 = 0) : e = .returned (.agg #[.int .i64 r.1, .int .i64 r.2.1, .int .i64 r.2.2.1]) := by
 rcases h with ⟨_, h⟩ | ⟨n, _⟩
 ·
  exact h
 ·
  exact absurd z n
theorem AnsO.no {r : Int × Int × Int × Int} {e : Ending} (h : AnsO r e) (z : r.2.2.2 ≠ 0) : e = .panicked (gvP r.2.2.2) := by
 rcases h with ⟨n, _⟩ | ⟨_, h⟩
 ·
  exact absurd n z
 ·
  exact h
set_option maxHeartbeats 1000000 in
theorem dread_any (s : ByteArray) (w : World) (hs : s.size ≤ 1000) (tp : TypeId) (p : Value) (hv : w.var? Tryz.prog "strconv.ErrRange" = some #[.iface tp p]) (T : Wd.DTabs w) :
  Calls Tryz.prog 111 #[.string s] w fun e w' => AnsO (Ds.rd s.data.toList) e ∧ Below w.heap.size w w' := by
 have X1 : Hid (∀ W, Calls Tryz.prog 122 #[.string s, .string ⟨#[60, 62]⟩] W fun e w' => e = .returned (.int .i64 (Lib.indexAny s.data.toList [60, 62])) ∧ Below W.heap.size W w') := fun W => ixany s ⟨#[60, 62]⟩ W (by decide) (by omega) (by decide) (by decide)
 have X2 : Hid (∀ W, Calls Tryz.prog 122 #[.string s, .string ⟨#[45, 48, 49, 50, 51, 52, 53, 54, 55, 56, 57]⟩] W fun e w' => e = .returned (.int .i64 (Lib.indexAny s.data.toList Yr.starts)) ∧ Below W.heap.size W w') := fun W => ixany s ⟨#[45, 48, 49, 50, 51, 52, 53, 54, 55, 56, 57]⟩ W (by decide) (by omega) (by decide) (by decide)
 have XB := Lib.hid (fun W => dbl_any s W (by unfold maxLen; omega))
 have hl := Ds.ix_le [60, 62] s.data.toList
 rw [ab_len] at hl
 have ei := Yr.isN_ix s.data.toList
 unfold Ds.rd
 generalize Lib.indexAny s.data.toList Yr.starts = j2 at X2 ei
 generalize Lib.indexAny s.data.toList [60, 62] = j at X1 hl ⊢
 by_cases h0 : 0 ≤ j
 ·
  rw [if_pos h0, ← Ds.hd_l, ← Ds.tl_l]
  have D := Lib.hid (fun W h1 h2 => dws_any (s.extract 0 j.toNat) (s.extract j.toNat s.size) W (by rw [ByteArray.size_extract]; omega) (by rw [ByteArray.size_extract]; omega) tp p h1 h2)
  generalize Ds.ws (s.extract 0 j.toNat).data.toList (s.extract j.toNat s.size).data.toList = r at D ⊢
  by_cases hz : r.2.2.2 = 0
  ·
   exact (drd_sy s _ _ j _ _ _ w tp p hv T X1 h0 (Ds.hd_run s j h0 hl) (Ds.tl_run s j h0 hl) (Lib.hid (fun W h1 h2 => (D.out W h1 h2).mono fun _ _ ⟨h, b⟩ => ⟨h.yes hz, b⟩))).mono fun _ _ ⟨h, b⟩ => ⟨.inl ⟨hz, h⟩, b⟩
  ·
   exact (drd_sn s _ _ j _ w tp p hv T X1 h0 (Ds.hd_run s j h0 hl) (Ds.tl_run s j h0 hl) (Lib.hid (fun W h1 h2 => (D.out W h1 h2).mono fun _ _ ⟨h, b⟩ => ⟨h.no hz, b⟩))).mono fun _ _ ⟨h, b⟩ => ⟨.inr ⟨hz, h⟩, b⟩
 ·
  rw [if_neg h0]
  have g0 : decide (0 ≤ j) = false := decide_eq_false h0
  cases hn : Yr.isN s.data.toList
  ·
   rw [hn] at ei
   rw [if_neg (by decide)]
   cases hb : Ds.bl s.data.toList
   ·
    rw [hb] at XB
    rw [if_neg (by decide)]
    exact (drd_form s j j2 w tp p hv T X1 g0 X2 ei.symm XB).mono fun _ _ ⟨h, b⟩ => ⟨.inr ⟨by decide, h⟩, b⟩
   ·
    rw [hb] at XB
    rw [if_pos rfl]
    have h4 : (4 : Int) ≤ (s.size : Int) := by
     unfold Ds.bl at hb
     rw [Bool.and_eq_true, decide_eq_true_eq, ab_len] at hb
     omega
    have e4 : (s.extract (4 : Int).toNat s.size).data.toList = s.data.toList.drop 4 := Ds.tl_l s 4
    rw [← e4]
    have m1 : (s.extract (4 : Int).toNat s.size).size ≤ maxLen := by rw [ByteArray.size_extract]; unfold maxLen; omega
    by_cases hw : (Ds.wd (s.extract (4 : Int).toNat s.size).data.toList).2 = 0
    ·
     rw [if_pos hw]
     exact (drd_ly s _ j j2 _ w tp p hv T X1 g0 X2 ei.symm XB (Ds.tl_run s 4 (by decide) h4) (Lib.hid (fun W h => dweek_yes _ _ W m1 h (Prod.ext rfl hw)))).mono fun _ _ ⟨h, b⟩ => ⟨.inl ⟨rfl, h⟩, b⟩
    ·
     rw [if_neg hw]
     exact (drd_ln s _ j j2 _ w tp p hv T X1 g0 X2 ei.symm XB (Ds.tl_run s 4 (by decide) h4) (Lib.hid (fun W h => dweek_no _ _ W m1 h rfl hw))).mono fun _ _ ⟨h, b⟩ => ⟨.inr ⟨hw, h⟩, b⟩
  ·
   rw [hn] at ei
   obtain rfl : j2 = 0 := eq_of_beq ei.symm
   rw [if_pos rfl]
   by_cases hd : (Ds.day s.data.toList).2 = 0
   ·
    rw [if_pos hd]
    exact (drd_ny s j _ w tp p hv T X1 g0 X2 (Lib.hid (fun W h => dday_yes s _ W hs tp p h (Prod.ext rfl hd)))).mono fun _ _ ⟨h, b⟩ => ⟨.inl ⟨rfl, h⟩, b⟩
   ·
    rw [if_neg hd]
    exact (drd_nn s j _ w tp p hv T X1 g0 X2 (Lib.hid (fun W h => dday_no s _ W hs tp p h rfl hd))).mono fun _ _ ⟨h, b⟩ => ⟨.inr ⟨hd, h⟩, b⟩
set_option maxHeartbeats 1000000 in
theorem dread1_yes (s : ByteArray) (k0 k1 k2 : Int) (w : World) (b : Nat) (hc : w.cell? ⟨b, 0, none⟩ = some (.string s)) (C : Hid (∀ W, Below w.heap.size w W → Calls Tryz.prog 111 #[.string s] W fun e w' => e = .returned (.agg #[.int .i64 k0, .int .i64 k1, .int .i64 k2]) ∧ Below W.heap.size W w')) :
  Calls Tryz.prog 110 #[.pointer (some ⟨b, 0, none⟩)] w fun e w' => e = .returned (.agg #[.int .i64 k0, .int .i64 k1, .int .i64 k2]) ∧ Below w.heap.size w w' := by
 have hlt := World.block_lt_of_cell? _ _ hc
 have hc2 : ∀ W, Below w.heap.size w W → W.cell? ⟨b, 0, none⟩ = some (.string s) := fun W h => (h.cell hlt).trans hc
 go_enter Tryz.func110, Tryz.ntmps110
 have hc3 := hc2 _ ((Below.refl w.heap.size w).alloc (Nat.le_refl _) (.cells #[.int .i64 0, .int .i64 0, .int .i64 0] 23))
 go_wp2_with fail
 refine (C.out _ gr0).mono ?_; rintro e w1 ⟨rfl, b1⟩
 have d1 : Below w.heap.size w w1 := below_step gr0 b1
 have B1 := Lib.hid d1
 have R1 : Bk3 w1 (w.heap.size) (.int .i64 0) (.int .i64 0) (.int .i64 0) := by refine Bk3.of b1 (by simp <;> omega) (by intro j; simp [go_sem]) ?_ ?_ ?_ <;> simp [go_sem]
 clear b1 d1
 have tx := R1; obtain ⟨cR_b, cR_f, cR_0, cR_1, cR_2⟩ := tx
 go_wp2_with fail
 refine bodyPost_ret (v := .agg #[.int .i64 k0, .int .i64 k1, .int .i64 k2]) (by simp [results, Tryz.results110, go_sem, cR_b, cR_f, cR_0, cR_1, cR_2]) rfl ⟨rfl, ?_⟩
 clear cR_b cR_f cR_0 cR_1 cR_2
 exact (grB B1)
set_option maxHeartbeats 1000000 in
theorem dread1_no (s : ByteArray) (q : Int) (w : World) (b : Nat) (hc : w.cell? ⟨b, 0, none⟩ = some (.string s)) (C : Hid (∀ W, Below w.heap.size w W → Calls Tryz.prog 111 #[.string s] W fun e w' => e = .panicked (gvP q) ∧ Below W.heap.size W w')) :
  Calls Tryz.prog 110 #[.pointer (some ⟨b, 0, none⟩)] w fun e w' => e = .panicked (gvP q) ∧ Below w.heap.size w w' := by
 have hlt := World.block_lt_of_cell? _ _ hc
 have hc2 : ∀ W, Below w.heap.size w W → W.cell? ⟨b, 0, none⟩ = some (.string s) := fun W h => (h.cell hlt).trans hc
 go_enter Tryz.func110, Tryz.ntmps110
 have hc3 := hc2 _ ((Below.refl w.heap.size w).alloc (Nat.le_refl _) (.cells #[.int .i64 0, .int .i64 0, .int .i64 0] 23))
 go_wp2_with fail
 refine (C.out _ gr0).mono ?_; rintro e w9 ⟨rfl, b9⟩
 refine (show bodyPost _ _ _ (Exit.panic (gvP q)) _ _ from ?_)
 exact ⟨rfl, rfl, below_step gr0 b9⟩
end
section
open Go.RowKit Go.Sort
namespace Ds
theorem sw_zero {k : Int} {a n : List UInt8} (h : (sw k a n).2.2.2 ≠ 0) : sw k a n = (0, 0, 0, (sw k a n).2.2.2) := by
 revert h; unfold sw
 split
 ·
  split
  ·
   intro h; exact absurd rfl h
  ·
   intro _; rfl
 ·
  intro _; rfl
theorem ws_zero {a g : List UInt8} (h : (ws a g).2.2.2 ≠ 0) : ws a g = (0, 0, 0, (ws a g).2.2.2) := by
 revert h; unfold ws
 split
 ·
  exact sw_zero
 ·
  split
  ·
   exact sw_zero
  ·
   intro _; rfl
theorem rd_zero {l : List UInt8} (h : (rd l).2.2.2 ≠ 0) : rd l = (0, 0, 0, (rd l).2.2.2) := by
 revert h; unfold rd
 split
 ·
  exact ws_zero
 ·
  split
  ·
   split
   ·
    intro h; exact absurd rfl h
   ·
    intro _; rfl
  ·
   split
   ·
    split
    ·
     intro h; exact absurd rfl h
    ·
     intro _; rfl
   ·
    intro _; rfl
def tw (wk : Int) : ByteArray := Wd.t3 Wd.days (wk - 0)
def td (d : Int) : ByteArray := ⟨(Lib.itoa d).toArray⟩
def tx (k wk d : Int) : ByteArray × Int :=
 if Dr.onR k wk d then ((if k = 1 then ⟨#[108, 97, 115, 116]⟩ ++ tw wk else if k = 2 then tw wk ++ ⟨#[62, 61]⟩ ++ td d else if k = 3 then tw wk ++ ⟨#[60, 61]⟩ ++ td d else td d), 0) else (⟨#[]⟩, 4)
end Ds
set_option maxHeartbeats 2000000 in
set_option maxRecDepth 100000 in
theorem dRead_any (s : ByteArray) (w : World) (hs : s.size ≤ 1000) (tp : TypeId) (p : Value) (hv : w.var? Tryz.prog "strconv.ErrRange" = some #[.iface tp p]) (T : Wd.DTabs w) :
  Calls Tryz.prog 70 #[.string s] w fun e w' => e = .returned (.tuple #[.agg #[.int .i64 (Ds.rd s.data.toList).1, .int .i64 (Ds.rd s.data.toList).2.1, .int .i64 (Ds.rd s.data.toList).2.2.1], .int .i64 (Ds.rd s.data.toList).2.2.2]) ∧ Below w.heap.size w w' := by
 have hmf : ∀ (fn : Fn) (first cap : Array Value) (w : World), (Instr.makeFunc fn first cap).run Tryz.prog w = .ok (.func fn first cap) w := fun _ _ _ _ => rfl
 have D : Hid (∀ W, Below w.heap.size w W → Calls Tryz.prog 111 #[.string s] W fun e w' => AnsO (Ds.rd s.data.toList) e ∧ Below W.heap.size W w') := fun W k => dread_any s W hs tp p (var_keep k hv) (T.on k)
 have C : Hid (∀ W b, Below w.heap.size w W → W.cell? ⟨b, 0, none⟩ = some (.string s) → Calls Tryz.prog 109 #[.func (Fn.func 110) #[] #[.pointer (some ⟨b, 0, none⟩)]] W fun e w' => e = .returned (.tuple #[.agg #[.int .i64 (Ds.rd s.data.toList).1, .int .i64 (Ds.rd s.data.toList).2.1, .int .i64 (Ds.rd s.data.toList).2.2.1], .int .i64 (Ds.rd s.data.toList).2.2.2]) ∧ Below W.heap.size W w') := fun W b k hc => by
  have hlt := World.block_lt_of_cell? _ _ hc
  by_cases hz : (Ds.rd s.data.toList).2.2.2 = 0
  ·
   rw [hz]
   exact ocaught_yes 110 #[.pointer (some ⟨b, 0, none⟩)] (fun _ => rfl) _ _ _ W (Lib.hid fun V hV => dread1_yes s _ _ _ V b ((hV.cell hlt).trans hc) (Lib.hid fun U hU => (D.out U (below_step (below_step k hV) hU)).mono fun _ _ ⟨h, b⟩ => ⟨h.yes hz, b⟩))
  ·
   have e := Ds.rd_zero hz
   generalize hq : (Ds.rd s.data.toList).2.2.2 = q at e hz
   have e1 : (Ds.rd s.data.toList).1 = 0 := congrArg (·.1) e
   have e2 : (Ds.rd s.data.toList).2.1 = 0 := congrArg (·.2.1) e
   have e3 : (Ds.rd s.data.toList).2.2.1 = 0 := congrArg (·.2.2.1) e
   rw [e1, e2, e3]
   exact ocaught_no 110 #[.pointer (some ⟨b, 0, none⟩)] (fun _ => rfl) 0 q W (Lib.hid fun V hV => dread1_no s q V b ((hV.cell hlt).trans hc) (Lib.hid fun U hU => (D.out U (below_step (below_step k hV) hU)).mono fun _ _ ⟨h, b⟩ => ⟨hq ▸ h.no (hq ▸ hz), b⟩))
 clear D hv T
 generalize (Ds.rd s.data.toList).1 = x0 at C ⊢
 generalize (Ds.rd s.data.toList).2.1 = x1 at C ⊢
 generalize (Ds.rd s.data.toList).2.2.1 = x2 at C ⊢
 generalize (Ds.rd s.data.toList).2.2.2 = q at C ⊢
 go_enter Tryz.func70, Tryz.ntmps70
 go_wp2_with fail
 refine (C.out _ _ gr0 (by simp [go_sem])).mono ?_; rintro e w1 ⟨rfl, b1⟩
 have d1 : Below w.heap.size w w1 := below_step gr0 b1
 have B1 := Lib.hid d1
 have X1 : Bk1 w1 (w.heap.size) (.string s) := by refine Bk1.of b1 (by simp <;> omega) (by intro j; simp [go_sem]) ?_ <;> simp [go_sem]
 have R1 : Bk3 w1 (w.heap.size + 1) (.int .i64 0) (.int .i64 0) (.int .i64 0) := by refine Bk3.of b1 (by simp <;> omega) (by intro j; simp [go_sem]) ?_ ?_ ?_ <;> simp [go_sem]
 clear b1 d1
 have tx := X1; obtain ⟨cX_b, cX_f, cX_0⟩ := tx
 have tx := R1; obtain ⟨cR_b, cR_f, cR_0, cR_1, cR_2⟩ := tx
 go_wp2_with fail
 refine bodyPost_ret (v := .tuple #[.agg #[.int .i64 x0, .int .i64 x1, .int .i64 x2], .int .i64 q]) (by simp [results, Tryz.results70, go_sem, cX_b, cX_f, cX_0, cR_b, cR_f, cR_0, cR_1, cR_2]) rfl ⟨rfl, ?_⟩
 clear cX_b cX_f cX_0 cR_b cR_f cR_0 cR_1 cR_2
 exact (grB B1)
set_option maxHeartbeats 2000000 in
set_option maxRecDepth 100000 in
theorem dtx_no (k wk d : Int) (w : World) (htab : Lib.TabIs Tryz.prog w "internal/strconv.uint64pow10" .u64 Lib.pow10Tab) (T : Wd.DTabs w) (hr : Dr.onR k wk d = false) : Calls Tryz.prog 21 #[.agg #[.int .i64 k, .int .i64 wk, .int .i64 d]] w fun e w' => e = .returned (.tuple #[.string ⟨#[]⟩, .int .i64 4]) ∧ Below w.heap.size w w' := by
 have CR : Hid (∀ W, Calls Tryz.prog 53 #[.agg #[.int .i64 k, .int .i64 wk, .int .i64 d]] W fun e w' => e = .returned (.bool false) ∧ Below W.heap.size W w') := fun W => hr ▸ oright_any k wk d W
 clear hr htab T
 go_enter Tryz.func21, Tryz.ntmps21
 go_wp2_with fail
 refine (CR.out _).mono ?_; rintro e w1 ⟨rfl, b1⟩
 have d1 : Below w.heap.size w w1 := below_step gr0 b1
 have B1 := Lib.hid d1
 have X1 : Bk3 w1 (w.heap.size) (.int .i64 k) (.int .i64 wk) (.int .i64 d) := by refine Bk3.of b1 (by simp <;> omega) (by intro j; simp [go_sem]) ?_ ?_ ?_ <;> simp [go_sem]
 clear b1 d1
 have tx := X1; obtain ⟨cX_b, cX_f, cX_0, cX_1, cX_2⟩ := tx
 go_wp2_with fail
 clear cX_b cX_f cX_0 cX_1 cX_2
 go_ret2
 exact ⟨rfl, (grB B1)⟩
set_option maxHeartbeats 2000000 in
set_option maxRecDepth 100000 in
theorem dtx_0 (wk d : Int) (A D : ByteArray) (w : World) (zA : A.size ≤ 100) (zD : D.size ≤ 100) (htab : Lib.TabIs Tryz.prog w "internal/strconv.uint64pow10" .u64 Lib.pow10Tab) (T : Wd.DTabs w)
  (CR : Hid (∀ W, Calls Tryz.prog 53 #[.agg #[.int .i64 0, .int .i64 wk, .int .i64 d]] W fun e w' => e = .returned (.bool true) ∧ Below W.heap.size W w'))
  (CA : Hid (∀ W, Wd.DTabs W → Calls Tryz.prog 54 #[.int .i64 wk] W fun e w' => e = .returned (.string A) ∧ Below W.heap.size W w'))
  (CD : Hid (∀ W, Lib.TabIs Tryz.prog W "internal/strconv.uint64pow10" .u64 Lib.pow10Tab → Calls Tryz.prog 52 #[.int .i64 d] W fun e w' => e = .returned (.string D) ∧ Below W.heap.size W w')) :
  Calls Tryz.prog 21 #[.agg #[.int .i64 0, .int .i64 wk, .int .i64 d]] w fun e w' => e = .returned (.tuple #[.string (D), .int .i64 0]) ∧ Below w.heap.size w w' := by
 have T0 := Lib.hid htab; clear htab
 have U0 := Lib.hid T; clear T
 go_enter Tryz.func21, Tryz.ntmps21
 go_wp2_with fail
 refine (CR.out _).mono ?_; rintro e w1 ⟨rfl, b1⟩
 have d1 : Below w.heap.size w w1 := below_step gr0 b1
 have B1 := Lib.hid d1
 have X1 : Bk3 w1 (w.heap.size) (.int .i64 0) (.int .i64 wk) (.int .i64 d) := by refine Bk3.of b1 (by simp <;> omega) (by intro j; simp [go_sem]) ?_ ?_ ?_ <;> simp [go_sem]
 clear b1 d1
 have tx := X1; obtain ⟨cX_b, cX_f, cX_0, cX_1, cX_2⟩ := tx
 go_wp2_with fail
 clear cX_b cX_f cX_0 cX_1 cX_2
 refine wp_named ?_; intro w2 hw2
 have d2 : Below w1.heap.size w1 w2 := by rw [hw2]; exact gr0
 have B2 := Lib.hid (below_step B1.out d2)
 have X2 := X1.keep d2
 clear X1 d2 hw2 B1
 have T1 := Lib.hid (var_keep B2.out T0.out)
 have U1 := Lib.hid (U0.out.on B2.out)
 have qX_0 := cell_regrown X2.k0
 have qX_1 := cell_regrown X2.k1
 have qX_2 := cell_regrown X2.k2
 refine wp_region_qb (w := w2) (by kernel_rfl) (by kernel_rfl) gr0 ?_
 repeat (any_goals (first | go_big_quiet_step (first | (go_at_call 54; exact Calls.regrown_of (CA.out _ (U1.out.on (below_regrown _ _ _)))) | (go_at_call 52; exact Calls.regrown_of (CD.out _ (var_keep (below_regrown _ _ _) T1.out)))) | quiet_step (first | (go_at_call 54; exact Calls.regrown_of (CA.out _ (U1.out.on (below_regrown _ _ _)))) | (go_at_call 52; exact Calls.regrown_of (CD.out _ (var_keep (below_regrown _ _ _) T1.out))))))
 refine wpQuiet_nil ?_
 intro w3 hq
 have b3 : Below w2.heap.size w2 w3 := by obtain ⟨p, hq⟩ := hq; rw [hq]; exact below_regrown _ _ _
 clear hq qX_0 qX_1 qX_2
 have d3 : Below w2.heap.size w2 w3 := below_step gr0 b3
 have B3 := Lib.hid (below_step B2.out d3)
 have X3 := X2.keep d3
 clear X2 b3 d3 B2
 have tx := X3; obtain ⟨cX_b, cX_f, cX_0, cX_1, cX_2⟩ := tx
 go_wp2_with fail
 clear cX_b cX_f cX_0 cX_1 cX_2
 go_ret2
 exact ⟨rfl, B3.out⟩
set_option maxHeartbeats 2000000 in
set_option maxRecDepth 100000 in
theorem dtx_1 (wk d : Int) (A D : ByteArray) (w : World) (zA : A.size ≤ 100) (zD : D.size ≤ 100) (htab : Lib.TabIs Tryz.prog w "internal/strconv.uint64pow10" .u64 Lib.pow10Tab) (T : Wd.DTabs w)
  (CR : Hid (∀ W, Calls Tryz.prog 53 #[.agg #[.int .i64 1, .int .i64 wk, .int .i64 d]] W fun e w' => e = .returned (.bool true) ∧ Below W.heap.size W w'))
  (CA : Hid (∀ W, Wd.DTabs W → Calls Tryz.prog 54 #[.int .i64 wk] W fun e w' => e = .returned (.string A) ∧ Below W.heap.size W w'))
  (CD : Hid (∀ W, Lib.TabIs Tryz.prog W "internal/strconv.uint64pow10" .u64 Lib.pow10Tab → Calls Tryz.prog 52 #[.int .i64 d] W fun e w' => e = .returned (.string D) ∧ Below W.heap.size W w')) :
  Calls Tryz.prog 21 #[.agg #[.int .i64 1, .int .i64 wk, .int .i64 d]] w fun e w' => e = .returned (.tuple #[.string (⟨#[108, 97, 115, 116]⟩ ++ A), .int .i64 0]) ∧ Below w.heap.size w w' := by
 have T0 := Lib.hid htab; clear htab
 have U0 := Lib.hid T; clear T
 have e4 : (⟨#[108, 97, 115, 116]⟩ : ByteArray).size = 4 := rfl
 go_enter Tryz.func21, Tryz.ntmps21
 go_wp2_with fail
 refine (CR.out _).mono ?_; rintro e w1 ⟨rfl, b1⟩
 have d1 : Below w.heap.size w w1 := below_step gr0 b1
 have B1 := Lib.hid d1
 have X1 : Bk3 w1 (w.heap.size) (.int .i64 1) (.int .i64 wk) (.int .i64 d) := by refine Bk3.of b1 (by simp <;> omega) (by intro j; simp [go_sem]) ?_ ?_ ?_ <;> simp [go_sem]
 clear b1 d1
 have tx := X1; obtain ⟨cX_b, cX_f, cX_0, cX_1, cX_2⟩ := tx
 go_wp2_with fail
 clear cX_b cX_f cX_0 cX_1 cX_2
 refine wp_named ?_; intro w2 hw2
 have d2 : Below w1.heap.size w1 w2 := by rw [hw2]; exact gr0
 have B2 := Lib.hid (below_step B1.out d2)
 have X2 := X1.keep d2
 clear X1 d2 hw2 B1
 have T1 := Lib.hid (var_keep B2.out T0.out)
 have U1 := Lib.hid (U0.out.on B2.out)
 have qX_0 := cell_regrown X2.k0
 have qX_1 := cell_regrown X2.k1
 have qX_2 := cell_regrown X2.k2
 refine wp_region_qb (w := w2) (by kernel_rfl) (by kernel_rfl) gr0 ?_
 repeat (any_goals (first | go_big_quiet_step (first | (go_at_call 54; exact Calls.regrown_of (CA.out _ (U1.out.on (below_regrown _ _ _)))) | (go_at_call 52; exact Calls.regrown_of (CD.out _ (var_keep (below_regrown _ _ _) T1.out)))) | quiet_step (first | (go_at_call 54; exact Calls.regrown_of (CA.out _ (U1.out.on (below_regrown _ _ _)))) | (go_at_call 52; exact Calls.regrown_of (CD.out _ (var_keep (below_regrown _ _ _) T1.out))))))
 refine wpQuiet_nil ?_
 intro w3 hq
 have b3 : Below w2.heap.size w2 w3 := by obtain ⟨p, hq⟩ := hq; rw [hq]; exact below_regrown _ _ _
 clear hq qX_0 qX_1 qX_2
 have d3 : Below w2.heap.size w2 w3 := below_step gr0 b3
 have B3 := Lib.hid (below_step B2.out d3)
 have X3 := X2.keep d3
 clear X2 b3 d3 B2
 have tx := X3; obtain ⟨cX_b, cX_f, cX_0, cX_1, cX_2⟩ := tx
 go_wp2_with fail
 clear cX_b cX_f cX_0 cX_1 cX_2
 go_ret2
 exact ⟨rfl, B3.out⟩
set_option maxHeartbeats 2000000 in
set_option maxRecDepth 100000 in
theorem dtx_2 (wk d : Int) (A D : ByteArray) (w : World) (zA : A.size ≤ 100) (zD : D.size ≤ 100) (htab : Lib.TabIs Tryz.prog w "internal/strconv.uint64pow10" .u64 Lib.pow10Tab) (T : Wd.DTabs w)
  (CR : Hid (∀ W, Calls Tryz.prog 53 #[.agg #[.int .i64 2, .int .i64 wk, .int .i64 d]] W fun e w' => e = .returned (.bool true) ∧ Below W.heap.size W w'))
  (CA : Hid (∀ W, Wd.DTabs W → Calls Tryz.prog 54 #[.int .i64 wk] W fun e w' => e = .returned (.string A) ∧ Below W.heap.size W w'))
  (CD : Hid (∀ W, Lib.TabIs Tryz.prog W "internal/strconv.uint64pow10" .u64 Lib.pow10Tab → Calls Tryz.prog 52 #[.int .i64 d] W fun e w' => e = .returned (.string D) ∧ Below W.heap.size W w')) :
  Calls Tryz.prog 21 #[.agg #[.int .i64 2, .int .i64 wk, .int .i64 d]] w fun e w' => e = .returned (.tuple #[.string (A ++ ⟨#[62, 61]⟩ ++ D), .int .i64 0]) ∧ Below w.heap.size w w' := by
 have T0 := Lib.hid htab; clear htab
 have U0 := Lib.hid T; clear T
 have e1 : (A ++ ⟨#[62, 61]⟩ : ByteArray).size = A.size + 2 := by rw [ByteArray.size_append]; rfl
 go_enter Tryz.func21, Tryz.ntmps21
 go_wp2_with fail
 refine (CR.out _).mono ?_; rintro e w1 ⟨rfl, b1⟩
 have d1 : Below w.heap.size w w1 := below_step gr0 b1
 have B1 := Lib.hid d1
 have X1 : Bk3 w1 (w.heap.size) (.int .i64 2) (.int .i64 wk) (.int .i64 d) := by refine Bk3.of b1 (by simp <;> omega) (by intro j; simp [go_sem]) ?_ ?_ ?_ <;> simp [go_sem]
 clear b1 d1
 have tx := X1; obtain ⟨cX_b, cX_f, cX_0, cX_1, cX_2⟩ := tx
 go_wp2_with fail
 clear cX_b cX_f cX_0 cX_1 cX_2
 refine wp_named ?_; intro w2 hw2
 have d2 : Below w1.heap.size w1 w2 := by rw [hw2]; exact gr0
 have B2 := Lib.hid (below_step B1.out d2)
 have X2 := X1.keep d2
 clear X1 d2 hw2 B1
 have T1 := Lib.hid (var_keep B2.out T0.out)
 have U1 := Lib.hid (U0.out.on B2.out)
 have qX_0 := cell_regrown X2.k0
 have qX_1 := cell_regrown X2.k1
 have qX_2 := cell_regrown X2.k2
 refine wp_region_qb (w := w2) (by kernel_rfl) (by kernel_rfl) gr0 ?_
 repeat (any_goals (first | go_big_quiet_step (first | (go_at_call 54; exact Calls.regrown_of (CA.out _ (U1.out.on (below_regrown _ _ _)))) | (go_at_call 52; exact Calls.regrown_of (CD.out _ (var_keep (below_regrown _ _ _) T1.out)))) | quiet_step (first | (go_at_call 54; exact Calls.regrown_of (CA.out _ (U1.out.on (below_regrown _ _ _)))) | (go_at_call 52; exact Calls.regrown_of (CD.out _ (var_keep (below_regrown _ _ _) T1.out))))))
 refine wpQuiet_nil ?_
 intro w3 hq
 have b3 : Below w2.heap.size w2 w3 := by obtain ⟨p, hq⟩ := hq; rw [hq]; exact below_regrown _ _ _
 clear hq qX_0 qX_1 qX_2
 have d3 : Below w2.heap.size w2 w3 := below_step gr0 b3
 have B3 := Lib.hid (below_step B2.out d3)
 have X3 := X2.keep d3
 clear X2 b3 d3 B2
 have tx := X3; obtain ⟨cX_b, cX_f, cX_0, cX_1, cX_2⟩ := tx
 go_wp2_with fail
 clear cX_b cX_f cX_0 cX_1 cX_2
 go_ret2
 exact ⟨rfl, B3.out⟩
set_option maxHeartbeats 2000000 in
set_option maxRecDepth 100000 in
theorem dtx_3 (wk d : Int) (A D : ByteArray) (w : World) (zA : A.size ≤ 100) (zD : D.size ≤ 100) (htab : Lib.TabIs Tryz.prog w "internal/strconv.uint64pow10" .u64 Lib.pow10Tab) (T : Wd.DTabs w)
  (CR : Hid (∀ W, Calls Tryz.prog 53 #[.agg #[.int .i64 3, .int .i64 wk, .int .i64 d]] W fun e w' => e = .returned (.bool true) ∧ Below W.heap.size W w'))
  (CA : Hid (∀ W, Wd.DTabs W → Calls Tryz.prog 54 #[.int .i64 wk] W fun e w' => e = .returned (.string A) ∧ Below W.heap.size W w'))
  (CD : Hid (∀ W, Lib.TabIs Tryz.prog W "internal/strconv.uint64pow10" .u64 Lib.pow10Tab → Calls Tryz.prog 52 #[.int .i64 d] W fun e w' => e = .returned (.string D) ∧ Below W.heap.size W w')) :
  Calls Tryz.prog 21 #[.agg #[.int .i64 3, .int .i64 wk, .int .i64 d]] w fun e w' => e = .returned (.tuple #[.string (A ++ ⟨#[60, 61]⟩ ++ D), .int .i64 0]) ∧ Below w.heap.size w w' := by
 have T0 := Lib.hid htab; clear htab
 have U0 := Lib.hid T; clear T
 have e1 : (A ++ ⟨#[60, 61]⟩ : ByteArray).size = A.size + 2 := by rw [ByteArray.size_append]; rfl
 go_enter Tryz.func21, Tryz.ntmps21
 go_wp2_with fail
 refine (CR.out _).mono ?_; rintro e w1 ⟨rfl, b1⟩
 have d1 : Below w.heap.size w w1 := below_step gr0 b1
 have B1 := Lib.hid d1
 have X1 : Bk3 w1 (w.heap.size) (.int .i64 3) (.int .i64 wk) (.int .i64 d) := by refine Bk3.of b1 (by simp <;> omega) (by intro j; simp [go_sem]) ?_ ?_ ?_ <;> simp [go_sem]
 clear b1 d1
 have tx := X1; obtain ⟨cX_b, cX_f, cX_0, cX_1, cX_2⟩ := tx
 go_wp2_with fail
 clear cX_b cX_f cX_0 cX_1 cX_2
 refine wp_named ?_; intro w2 hw2
 have d2 : Below w1.heap.size w1 w2 := by rw [hw2]; exact gr0
 have B2 := Lib.hid (below_step B1.out d2)
 have X2 := X1.keep d2
 clear X1 d2 hw2 B1
 have T1 := Lib.hid (var_keep B2.out T0.out)
 have U1 := Lib.hid (U0.out.on B2.out)
 have qX_0 := cell_regrown X2.k0
 have qX_1 := cell_regrown X2.k1
 have qX_2 := cell_regrown X2.k2
 refine wp_region_qb (w := w2) (by kernel_rfl) (by kernel_rfl) gr0 ?_
 repeat (any_goals (first | go_big_quiet_step (first | (go_at_call 54; exact Calls.regrown_of (CA.out _ (U1.out.on (below_regrown _ _ _)))) | (go_at_call 52; exact Calls.regrown_of (CD.out _ (var_keep (below_regrown _ _ _) T1.out)))) | quiet_step (first | (go_at_call 54; exact Calls.regrown_of (CA.out _ (U1.out.on (below_regrown _ _ _)))) | (go_at_call 52; exact Calls.regrown_of (CD.out _ (var_keep (below_regrown _ _ _) T1.out))))))
 refine wpQuiet_nil ?_
 intro w3 hq
 have b3 : Below w2.heap.size w2 w3 := by obtain ⟨p, hq⟩ := hq; rw [hq]; exact below_regrown _ _ _
 clear hq qX_0 qX_1 qX_2
 have d3 : Below w2.heap.size w2 w3 := below_step gr0 b3
 have B3 := Lib.hid (below_step B2.out d3)
 have X3 := X2.keep d3
 clear X2 b3 d3 B2
 have tx := X3; obtain ⟨cX_b, cX_f, cX_0, cX_1, cX_2⟩ := tx
 go_wp2_with fail
 clear cX_b cX_f cX_0 cX_1 cX_2
 go_ret2
 exact ⟨rfl, B3.out⟩
theorem Ds.itoa_sz : ∀ d : Fin 32, (⟨(Lib.itoa (d.val : Int)).toArray⟩ : ByteArray).size ≤ 100 := by decide +kernel
theorem Ds.td_sz (d : Int) (h0 : 0 ≤ d) (h1 : d ≤ 31) : (Ds.td d).size ≤ 100 := by
 have := Ds.itoa_sz ⟨d.toNat, by omega⟩
 have e : ((d.toNat : Nat) : Int) = d := Int.toNat_of_nonneg h0
 unfold Ds.td
 rw [← e]; exact this
theorem Ds.tw_sz (k : Int) (h0 : 0 ≤ k) (h1 : k ≤ 6) : (Ds.tw k).size ≤ 100 := by
 obtain rfl | rfl | rfl | rfl | rfl | rfl | rfl : k = 0 ∨ k = 1 ∨ k = 2 ∨ k = 3 ∨ k = 4 ∨ k = 5 ∨ k = 6 := by omega
 all_goals decide +kernel
theorem dspt_any (k wk d : Int) (w : World) (htab : Lib.TabIs Tryz.prog w "internal/strconv.uint64pow10" .u64 Lib.pow10Tab) (T : Wd.DTabs w) :
  Calls Tryz.prog 21 #[.agg #[.int .i64 k, .int .i64 wk, .int .i64 d]] w fun e w' => e = .returned (.tuple #[.string (Ds.tx k wk d).1, .int .i64 (Ds.tx k wk d).2]) ∧ Below w.heap.size w w' := by
 unfold Ds.tx
 cases hr : Dr.onR k wk d
 ·
  rw [if_neg (by decide)]
  exact dtx_no k wk d w htab T hr
 ·
  rw [if_pos rfl]
  have CR : Hid (∀ W, Calls Tryz.prog 53 #[.agg #[.int .i64 k, .int .i64 wk, .int .i64 d]] W fun e w' => e = .returned (.bool true) ∧ Below W.heap.size W w') := fun W => hr ▸ oright_any k wk d W
  have hb := Dr.onR_true.1 hr
  have w0 : 0 ≤ wk := by omega
  have w1 : wk ≤ 6 := by omega
  have d0 : 0 ≤ d := by omega
  have d1 : d ≤ 31 := by omega
  have k4 : k = 0 ∨ k = 1 ∨ k = 2 ∨ k = 3 := by omega
  have CA : Hid (∀ W, Wd.DTabs W → Calls Tryz.prog 54 #[.int .i64 wk] W fun e w' => e = .returned (.string (Ds.tw wk)) ∧ Below W.heap.size W w') := fun W h => wdtx_any wk W h
  have CD : Hid (∀ W, Lib.TabIs Tryz.prog W "internal/strconv.uint64pow10" .u64 Lib.pow10Tab → Calls Tryz.prog 52 #[.int .i64 d] W fun e w' => e = .returned (.string (Ds.td d)) ∧ Below W.heap.size W w') := fun W h => text_any d W (by omega) (by omega) h
  obtain rfl | rfl | rfl | rfl := k4
  ·
   exact dtx_0 wk d _ _ w (Ds.tw_sz wk w0 w1) (Ds.td_sz d d0 d1) htab T CR CA CD
  ·
   exact dtx_1 wk d _ _ w (Ds.tw_sz wk w0 w1) (Ds.td_sz d d0 d1) htab T CR CA CD
  ·
   exact dtx_2 wk d _ _ w (Ds.tw_sz wk w0 w1) (Ds.td_sz d d0 d1) htab T CR CA CD
  ·
   exact dtx_3 wk d _ _ w (Ds.tw_sz wk w0 w1) (Ds.td_sz d d0 d1) htab T CR CA CD
end
end Go.Proofs.YtjggjkeopbcmoaaGreatDoor
