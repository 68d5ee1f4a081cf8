/- Joined: CivT, StR0, RsB, RsC, BldP, Bld, StW, StR, StX, RdN. -/
import Derived.Test.YtbcbggdbojonmaaGreatDoorBy05
import Derived.Test.YtbcbggdbojonmaaGreatDoorBy02
import Derived.Test.YtbcbggdbojonmaaGreatDoorBy01
import Derived.Lib.QuietBelow
import Derived.Shelf.Strings.BuilderK
import Derived.Shelf.Strings.Prefix
import Derived.Lib.RuneBytes
import Derived.Lib.AppendIntMem
import Derived.Test.YtbcbggdbojonmaaGreatDoorLaidF
import Derived.WalkKit
import Derived.Laws.Externs
import Derived.OwnWalk
import Derived.Test.YtbcbggdbojonmaaGreatDoorBy03
set_option linter.unusedVariables false
set_option linter.unusedSimpArgs false
namespace Go.Proofs.YtbcbggdbojonmaaGreatDoor
open Go.RowKit
namespace Cal
def why (b : Bool) : Int := if b then 0 else 1
def orz (b : Bool) (n : Int) : Int := if b then n else 0
end Cal
theorem days_any (y m d : Int) (w : World) :
  Calls Tryz.prog 117 #[.agg #[.int .i64 y, .int .i64 m, .int .i64 d]] w fun e w' => e = .returned (.tuple #[.int .i64 (Cal.orz (rightB y m d) (Cal.num y m d)), .int .i64 (Cal.why (rightB y m d))]) ∧ Below w.heap.size w w' := by
 cases h : rightB y m d
 ·
  exact days_no y m d w h
 ·
  exact days_yes y m d w h
end Go.Proofs.YtbcbggdbojonmaaGreatDoor
set_option linter.unusedVariables false
namespace Go.Proofs.YtbcbggdbojonmaaGreatDoor
open Go.RowKit
namespace St
def rB (y m d h i s : Int) : Bool := rightB y m d && (decide (0 ≤ h) && (decide (h < 24) && (decide (0 ≤ i) && (decide (i < 60) && (decide (0 ≤ s) && decide (s < 60))))))
theorem rB_true {y m d h i s : Int} : rB y m d h i s = true ↔ rightB y m d = true ∧ 0 ≤ h ∧ h < 24 ∧ 0 ≤ i ∧ i < 60 ∧ 0 ≤ s ∧ s < 60 := by unfold rB; simp
end St
namespace St
def tx (y m d h i s : Int) : List UInt8 := if rB y m d h i s then Tx.txt y m d h i s else []
end St
end Go.Proofs.YtbcbggdbojonmaaGreatDoor
set_option linter.unusedVariables false
set_option linter.unusedSimpArgs false
namespace Go.Proofs.YtbcbggdbojonmaaGreatDoor
open Go.RowKit
set_option maxHeartbeats 1000000 in
theorem rsright_0 (y m d h i s : Int) (w : World) (hr : rightB y m d = false) :
  Calls Tryz.prog 88 #[.agg #[.int .i64 y, .int .i64 m, .int .i64 d, .int .i64 h, .int .i64 i, .int .i64 s]] w fun e w' => e = .returned (.bool false) ∧ Below w.heap.size w w' := by
 have R : Hid (∀ w, Calls Tryz.prog 108 #[.agg #[.int .i64 y, .int .i64 m, .int .i64 d]] w fun e w' => e = .returned (.bool false) ∧ Below w.heap.size w w') := fun w => by rw [← hr]; exact rright_any y m d w
 clear hr
 go_enter Tryz.func88, Tryz.ntmps88
 go_wp2_with fail
 refine (R.out _).mono ?_; rintro e w1 ⟨rfl, b1⟩
 have d1 : Below w.heap.size w w1 := below_step gr0 b1
 have B1 := Lib.hid d1
 have S1 : Bk6 w1 (w.heap.size) (.int .i64 y) (.int .i64 m) (.int .i64 d) (.int .i64 h) (.int .i64 i) (.int .i64 s) := by refine Bk6.of b1 (by simp <;> omega) (by intro j; simp [go_sem]) ?_ ?_ ?_ ?_ ?_ ?_ <;> simp [go_sem]
 clear b1 d1
 have tx := S1; obtain ⟨cS_b, cS_f, cS_0, cS_1, cS_2, cS_3, cS_4, cS_5⟩ := tx
 go_wp2_with fail
 clear cS_b cS_f cS_0 cS_1 cS_2 cS_3 cS_4 cS_5
 go_ret
 exact ⟨rfl, (grB B1)⟩
set_option maxHeartbeats 1000000 in
theorem rsright_1 (y m d h i s : Int) (w : World) (hr : rightB y m d = true) (c1 : ¬ 0 ≤ h) :
  Calls Tryz.prog 88 #[.agg #[.int .i64 y, .int .i64 m, .int .i64 d, .int .i64 h, .int .i64 i, .int .i64 s]] w fun e w' => e = .returned (.bool false) ∧ Below w.heap.size w w' := by
 have R : Hid (∀ w, Calls Tryz.prog 108 #[.agg #[.int .i64 y, .int .i64 m, .int .i64 d]] w fun e w' => e = .returned (.bool true) ∧ Below w.heap.size w w') := fun w => by rw [← hr]; exact rright_any y m d w
 clear hr
 go_enter Tryz.func88, Tryz.ntmps88
 go_wp2_with fail
 refine (R.out _).mono ?_; rintro e w1 ⟨rfl, b1⟩
 have d1 : Below w.heap.size w w1 := below_step gr0 b1
 have B1 := Lib.hid d1
 have S1 : Bk6 w1 (w.heap.size) (.int .i64 y) (.int .i64 m) (.int .i64 d) (.int .i64 h) (.int .i64 i) (.int .i64 s) := by refine Bk6.of b1 (by simp <;> omega) (by intro j; simp [go_sem]) ?_ ?_ ?_ ?_ ?_ ?_ <;> simp [go_sem]
 clear b1 d1
 have tx := S1; obtain ⟨cS_b, cS_f, cS_0, cS_1, cS_2, cS_3, cS_4, cS_5⟩ := tx
 go_wp2_with fail
 clear cS_b cS_f cS_0 cS_1 cS_2 cS_3 cS_4 cS_5
 go_ret
 exact ⟨rfl, (grB B1)⟩
set_option maxHeartbeats 1000000 in
theorem rsright_2 (y m d h i s : Int) (w : World) (hr : rightB y m d = true) (c1 : 0 ≤ h) (c2 : ¬ h ≤ 23) :
  Calls Tryz.prog 88 #[.agg #[.int .i64 y, .int .i64 m, .int .i64 d, .int .i64 h, .int .i64 i, .int .i64 s]] w fun e w' => e = .returned (.bool false) ∧ Below w.heap.size w w' := by
 have R : Hid (∀ w, Calls Tryz.prog 108 #[.agg #[.int .i64 y, .int .i64 m, .int .i64 d]] w fun e w' => e = .returned (.bool true) ∧ Below w.heap.size w w') := fun w => by rw [← hr]; exact rright_any y m d w
 clear hr
 go_enter Tryz.func88, Tryz.ntmps88
 go_wp2_with fail
 refine (R.out _).mono ?_; rintro e w1 ⟨rfl, b1⟩
 have d1 : Below w.heap.size w w1 := below_step gr0 b1
 have B1 := Lib.hid d1
 have S1 : Bk6 w1 (w.heap.size) (.int .i64 y) (.int .i64 m) (.int .i64 d) (.int .i64 h) (.int .i64 i) (.int .i64 s) := by refine Bk6.of b1 (by simp <;> omega) (by intro j; simp [go_sem]) ?_ ?_ ?_ ?_ ?_ ?_ <;> simp [go_sem]
 clear b1 d1
 have tx := S1; obtain ⟨cS_b, cS_f, cS_0, cS_1, cS_2, cS_3, cS_4, cS_5⟩ := tx
 go_wp2_with fail
 clear cS_b cS_f cS_0 cS_1 cS_2 cS_3 cS_4 cS_5
 go_ret
 exact ⟨rfl, (grB B1)⟩
set_option maxHeartbeats 1000000 in
theorem rsright_3 (y m d h i s : Int) (w : World) (hr : rightB y m d = true) (c1 : 0 ≤ h) (c2 : h ≤ 23) (c3 : ¬ 0 ≤ i) :
  Calls Tryz.prog 88 #[.agg #[.int .i64 y, .int .i64 m, .int .i64 d, .int .i64 h, .int .i64 i, .int .i64 s]] w fun e w' => e = .returned (.bool false) ∧ Below w.heap.size w w' := by
 have R : Hid (∀ w, Calls Tryz.prog 108 #[.agg #[.int .i64 y, .int .i64 m, .int .i64 d]] w fun e w' => e = .returned (.bool true) ∧ Below w.heap.size w w') := fun w => by rw [← hr]; exact rright_any y m d w
 clear hr
 go_enter Tryz.func88, Tryz.ntmps88
 go_wp2_with fail
 refine (R.out _).mono ?_; rintro e w1 ⟨rfl, b1⟩
 have d1 : Below w.heap.size w w1 := below_step gr0 b1
 have B1 := Lib.hid d1
 have S1 : Bk6 w1 (w.heap.size) (.int .i64 y) (.int .i64 m) (.int .i64 d) (.int .i64 h) (.int .i64 i) (.int .i64 s) := by refine Bk6.of b1 (by simp <;> omega) (by intro j; simp [go_sem]) ?_ ?_ ?_ ?_ ?_ ?_ <;> simp [go_sem]
 clear b1 d1
 have tx := S1; obtain ⟨cS_b, cS_f, cS_0, cS_1, cS_2, cS_3, cS_4, cS_5⟩ := tx
 go_wp2_with fail
 clear cS_b cS_f cS_0 cS_1 cS_2 cS_3 cS_4 cS_5
 go_ret
 exact ⟨rfl, (grB B1)⟩
set_option maxHeartbeats 1000000 in
theorem rsright_4 (y m d h i s : Int) (w : World) (hr : rightB y m d = true) (c1 : 0 ≤ h) (c2 : h ≤ 23) (c3 : 0 ≤ i) (c4 : ¬ i ≤ 59) :
  Calls Tryz.prog 88 #[.agg #[.int .i64 y, .int .i64 m, .int .i64 d, .int .i64 h, .int .i64 i, .int .i64 s]] w fun e w' => e = .returned (.bool false) ∧ Below w.heap.size w w' := by
 have R : Hid (∀ w, Calls Tryz.prog 108 #[.agg #[.int .i64 y, .int .i64 m, .int .i64 d]] w fun e w' => e = .returned (.bool true) ∧ Below w.heap.size w w') := fun w => by rw [← hr]; exact rright_any y m d w
 clear hr
 go_enter Tryz.func88, Tryz.ntmps88
 go_wp2_with fail
 refine (R.out _).mono ?_; rintro e w1 ⟨rfl, b1⟩
 have d1 : Below w.heap.size w w1 := below_step gr0 b1
 have B1 := Lib.hid d1
 have S1 : Bk6 w1 (w.heap.size) (.int .i64 y) (.int .i64 m) (.int .i64 d) (.int .i64 h) (.int .i64 i) (.int .i64 s) := by refine Bk6.of b1 (by simp <;> omega) (by intro j; simp [go_sem]) ?_ ?_ ?_ ?_ ?_ ?_ <;> simp [go_sem]
 clear b1 d1
 have tx := S1; obtain ⟨cS_b, cS_f, cS_0, cS_1, cS_2, cS_3, cS_4, cS_5⟩ := tx
 go_wp2_with fail
 clear cS_b cS_f cS_0 cS_1 cS_2 cS_3 cS_4 cS_5
 go_ret
 exact ⟨rfl, (grB B1)⟩
set_option maxHeartbeats 1000000 in
theorem rsright_5 (y m d h i s : Int) (w : World) (hr : rightB y m d = true) (c1 : 0 ≤ h) (c2 : h ≤ 23) (c3 : 0 ≤ i) (c4 : i ≤ 59) (c5 : ¬ 0 ≤ s) :
  Calls Tryz.prog 88 #[.agg #[.int .i64 y, .int .i64 m, .int .i64 d, .int .i64 h, .int .i64 i, .int .i64 s]] w fun e w' => e = .returned (.bool false) ∧ Below w.heap.size w w' := by
 have R : Hid (∀ w, Calls Tryz.prog 108 #[.agg #[.int .i64 y, .int .i64 m, .int .i64 d]] w fun e w' => e = .returned (.bool true) ∧ Below w.heap.size w w') := fun w => by rw [← hr]; exact rright_any y m d w
 clear hr
 go_enter Tryz.func88, Tryz.ntmps88
 go_wp2_with fail
 refine (R.out _).mono ?_; rintro e w1 ⟨rfl, b1⟩
 have d1 : Below w.heap.size w w1 := below_step gr0 b1
 have B1 := Lib.hid d1
 have S1 : Bk6 w1 (w.heap.size) (.int .i64 y) (.int .i64 m) (.int .i64 d) (.int .i64 h) (.int .i64 i) (.int .i64 s) := by refine Bk6.of b1 (by simp <;> omega) (by intro j; simp [go_sem]) ?_ ?_ ?_ ?_ ?_ ?_ <;> simp [go_sem]
 clear b1 d1
 have tx := S1; obtain ⟨cS_b, cS_f, cS_0, cS_1, cS_2, cS_3, cS_4, cS_5⟩ := tx
 go_wp2_with fail
 clear cS_b cS_f cS_0 cS_1 cS_2 cS_3 cS_4 cS_5
 go_ret
 exact ⟨rfl, (grB B1)⟩
set_option maxHeartbeats 1000000 in
theorem rsright_6 (y m d h i s : Int) (w : World) (hr : rightB y m d = true) (c1 : 0 ≤ h) (c2 : h ≤ 23) (c3 : 0 ≤ i) (c4 : i ≤ 59) (c5 : 0 ≤ s) (c6 : ¬ s ≤ 59) :
  Calls Tryz.prog 88 #[.agg #[.int .i64 y, .int .i64 m, .int .i64 d, .int .i64 h, .int .i64 i, .int .i64 s]] w fun e w' => e = .returned (.bool false) ∧ Below w.heap.size w w' := by
 have R : Hid (∀ w, Calls Tryz.prog 108 #[.agg #[.int .i64 y, .int .i64 m, .int .i64 d]] w fun e w' => e = .returned (.bool true) ∧ Below w.heap.size w w') := fun w => by rw [← hr]; exact rright_any y m d w
 clear hr
 go_enter Tryz.func88, Tryz.ntmps88
 go_wp2_with fail
 refine (R.out _).mono ?_; rintro e w1 ⟨rfl, b1⟩
 have d1 : Below w.heap.size w w1 := below_step gr0 b1
 have B1 := Lib.hid d1
 have S1 : Bk6 w1 (w.heap.size) (.int .i64 y) (.int .i64 m) (.int .i64 d) (.int .i64 h) (.int .i64 i) (.int .i64 s) := by refine Bk6.of b1 (by simp <;> omega) (by intro j; simp [go_sem]) ?_ ?_ ?_ ?_ ?_ ?_ <;> simp [go_sem]
 clear b1 d1
 have tx := S1; obtain ⟨cS_b, cS_f, cS_0, cS_1, cS_2, cS_3, cS_4, cS_5⟩ := tx
 go_wp2_with fail
 clear cS_b cS_f cS_0 cS_1 cS_2 cS_3 cS_4 cS_5
 go_ret
 exact ⟨(show Ending.returned (.bool (decide (s ≤ 59))) = _ by rw [decide_eq_false (show ¬ s ≤ 59 by omega)]), (grB B1)⟩
set_option maxHeartbeats 1000000 in
theorem rsright_7 (y m d h i s : Int) (w : World) (hr : rightB y m d = true) (c1 : 0 ≤ h) (c2 : h ≤ 23) (c3 : 0 ≤ i) (c4 : i ≤ 59) (c5 : 0 ≤ s) (c6 : s ≤ 59) :
  Calls Tryz.prog 88 #[.agg #[.int .i64 y, .int .i64 m, .int .i64 d, .int .i64 h, .int .i64 i, .int .i64 s]] w fun e w' => e = .returned (.bool true) ∧ Below w.heap.size w w' := by
 have R : Hid (∀ w, Calls Tryz.prog 108 #[.agg #[.int .i64 y, .int .i64 m, .int .i64 d]] w fun e w' => e = .returned (.bool true) ∧ Below w.heap.size w w') := fun w => by rw [← hr]; exact rright_any y m d w
 clear hr
 go_enter Tryz.func88, Tryz.ntmps88
 go_wp2_with fail
 refine (R.out _).mono ?_; rintro e w1 ⟨rfl, b1⟩
 have d1 : Below w.heap.size w w1 := below_step gr0 b1
 have B1 := Lib.hid d1
 have S1 : Bk6 w1 (w.heap.size) (.int .i64 y) (.int .i64 m) (.int .i64 d) (.int .i64 h) (.int .i64 i) (.int .i64 s) := by refine Bk6.of b1 (by simp <;> omega) (by intro j; simp [go_sem]) ?_ ?_ ?_ ?_ ?_ ?_ <;> simp [go_sem]
 clear b1 d1
 have tx := S1; obtain ⟨cS_b, cS_f, cS_0, cS_1, cS_2, cS_3, cS_4, cS_5⟩ := tx
 go_wp2_with fail
 clear cS_b cS_f cS_0 cS_1 cS_2 cS_3 cS_4 cS_5
 go_ret
 exact ⟨rfl, (grB B1)⟩
theorem rsright_any (y m d h i s : Int) (w : World) :
  Calls Tryz.prog 88 #[.agg #[.int .i64 y, .int .i64 m, .int .i64 d, .int .i64 h, .int .i64 i, .int .i64 s]] w fun e w' => e = .returned (.bool (St.rB y m d h i s)) ∧ Below w.heap.size w w' := by
 cases hr : rightB y m d
 ·
  rw [show St.rB y m d h i s = false by unfold St.rB; rw [hr]; rfl]; exact rsright_0 y m d h i s w hr
 ·
  by_cases c1 : 0 ≤ h
  ·
   by_cases c2 : h ≤ 23
   ·
    by_cases c3 : 0 ≤ i
    ·
     by_cases c4 : i ≤ 59
     ·
      by_cases c5 : 0 ≤ s
      ·
       by_cases c6 : s ≤ 59
       ·
        rw [show St.rB y m d h i s = true from St.rB_true.2 ⟨hr, by omega⟩]; exact rsright_7 y m d h i s w hr c1 c2 c3 c4 c5 c6
       ·
        rw [show St.rB y m d h i s = false by cases hz : St.rB y m d h i s; rfl; exact (by have q := (St.rB_true.1 hz).2; omega)]; exact rsright_6 y m d h i s w hr c1 c2 c3 c4 c5 c6
      ·
       rw [show St.rB y m d h i s = false by cases hz : St.rB y m d h i s; rfl; exact (by have q := (St.rB_true.1 hz).2; omega)]; exact rsright_5 y m d h i s w hr c1 c2 c3 c4 c5
     ·
      rw [show St.rB y m d h i s = false by cases hz : St.rB y m d h i s; rfl; exact (by have q := (St.rB_true.1 hz).2; omega)]; exact rsright_4 y m d h i s w hr c1 c2 c3 c4
    ·
     rw [show St.rB y m d h i s = false by cases hz : St.rB y m d h i s; rfl; exact (by have q := (St.rB_true.1 hz).2; omega)]; exact rsright_3 y m d h i s w hr c1 c2 c3
   ·
    rw [show St.rB y m d h i s = false by cases hz : St.rB y m d h i s; rfl; exact (by have q := (St.rB_true.1 hz).2; omega)]; exact rsright_2 y m d h i s w hr c1 c2
  ·
   rw [show St.rB y m d h i s = false by cases hz : St.rB y m d h i s; rfl; exact (by have q := (St.rB_true.1 hz).2; omega)]; exact rsright_1 y m d h i s w hr c1
theorem extra169 : Builder.Extra Tryz.prog Tryz.lays169_ren := { sizeBuilder := by kernel_rfl, liesBuilder := by kernel_rfl, t5 := Tryz.underlying5, a5 := Tryz.isAgg5, z5 := Tryz.sizeOf5, v5 := Tryz.zeroValue5, infoByte := by kernel_rfl, cellsByte := by kernel_rfl, sizeByte := by kernel_rfl, neB5 := by decide }
def IsB (b : Nat) (l : List UInt8) (w : World) : Prop := Lib.IsBuilderF 67 5 b b (Lib.byteCells l) w
theorem BAt.on {T e : TypeId} {B b : Nat} {p : Value} {bs : List Value} {W W' : World} (h : Lib.BuilderAtF T e B b p bs W) (k : Below W.heap.size W W') : Lib.BuilderAtF T e B b p bs W' := by
 have hlt := h.lt
 obtain ⟨hB, v, hb, hown, hne⟩ := h
 refine ⟨hB, v, (k.block b hlt).trans hb, ⟨hown.1, ?_⟩, hne⟩
 rcases hown.2 with h2 | ⟨g, cap, cur, fz, hv, hbg, hg, rest⟩
 ·
  exact .inl h2
 ·
  have hglt : g < W.heap.size := (Array.getElem?_eq_some_iff.1 hg).1
  exact .inr ⟨g, cap, cur, fz, hv, hbg, (k.block g hglt).trans hg, rest⟩
theorem IsB.on {b : Nat} {l : List UInt8} {W W' : World} (h : IsB b l W) (k : Below W.heap.size W W') : IsB b l W' :=
 h.elim (fun x => .inl (BAt.on x k)) (fun x => .inr (BAt.on x k))
theorem IsB.lt {b : Nat} {l : List UInt8} {W : World} (h : IsB b l W) : b < W.heap.size := h.elim (·.lt) (·.lt)
theorem IsB.fresh (w : World) : IsB w.heap.size [] (w.alloc (.cells #[.pointer none, .slice none 0 0] 67)) := Lib.IsBuilderF.of (Lib.fresh_isBuilder _ _ w)
theorem sizeBuilder : (Tryz.prog.info? 67).map (·.size) = some 2 := by kernel_rfl
theorem liesBuilder : liesAt Tryz.prog Tryz.prog.depth 67 (2 / Tryz.prog.cellsOf 67) 0 67 1 = true := by kernel_rfl
theorem infoByte : (Tryz.prog.info? 5).map (fun i => (i.zero, i.size, i.bytes)) = some (some (.int .u8 0), 1, 1) := by kernel_rfl
set_option maxHeartbeats 1000000 in
set_option maxRecDepth 100000 in
theorem check_used (b : Nat) (w : World) (h0 : w.cell? ⟨b, 0, none⟩ = some (.pointer (some ⟨b, 0, none⟩))) :
  Calls Tryz.prog 68 #[.pointer (some ⟨b, 0, none⟩)] w fun e w' => e = .returned (.tuple #[]) ∧ w' = w := by
 obtain ⟨j, hj, _⟩ := Option.map_eq_some_iff.1 sizeBuilder
 go_enter Tryz.func68, Tryz.ntmps68
 go_wp2
 rw [Lib.run_neq_ptr_same w _ Tryz.underlying64 hj]
 go_wp2
 go_end0
 exact ⟨rfl, rfl⟩
set_option maxHeartbeats 1000000 in
set_option maxRecDepth 100000 in
theorem check_fresh (b : Nat) (w : World) (h0 : w.cell? ⟨b, 0, none⟩ = some (.pointer none)) (hsh : w.shape? b = some (67, 2)) (hfz : w.frozen? ⟨b, 0, none⟩ = false) :
  Calls Tryz.prog 68 #[.pointer (some ⟨b, 0, none⟩)] w fun e w' => e = .returned (.tuple #[]) ∧ w' = w.setCell ⟨b, 0, none⟩ (.pointer (some ⟨b, 0, none⟩)) := by
 obtain ⟨j, hj, hjs⟩ := Option.map_eq_some_iff.1 sizeBuilder
 go_enter Tryz.func68, Tryz.ntmps68
 go_wp2
 rw [Lib.run_to_unsafe w ⟨b, 0, none⟩ Tryz.underlying64 Tryz.underlying125 hj (by rw [hjs]; decide) hsh (Nat.zero_lt_succ 1)]
 simp only [Result.andThen]
 rw [Oper.upon_value]
 go_wp2
 rw [run_callFunc_extern Tryz.func92 (by kernel_rfl) (by kernel_rfl) (by kernel_rfl) (e := Extern.AbiNoEscape.same) (by kernel_rfl)]
 rw [Lib.run_noEscape]
 simp only [Result.andThen]
 rw [Oper.upon_value]
 go_wp2
 rw [Lib.run_from_unsafe w ⟨b, 0, none⟩ Tryz.underlying125 Tryz.underlying64 hj hsh liesBuilder]
 simp only [Result.andThen]
 rw [Oper.upon_value]
 go_wp2
 go_end0
 exact ⟨rfl, rfl⟩
theorem check_any (b : Nat) (l : List UInt8) (w : World) (h : IsB b l w) :
  Calls Tryz.prog 68 #[.pointer (some ⟨b, 0, none⟩)] w fun e w' => e = .returned (.tuple #[]) ∧ Lib.BuilderAtF 67 5 b b (.pointer (some ⟨b, 0, none⟩)) (Lib.byteCells l) w' ∧ Below b w w' := by
 rcases h with h | h
 ·
  refine (check_fresh b w h.cell0 h.shape h.frozen0).mono ?_
  rintro e w' ⟨rfl, rfl⟩
  exact ⟨rfl, h.used _, (Below.refl b w).setCell (p := ⟨b, 0, none⟩) (Nat.le_refl _) _⟩
 ·
  refine (check_used b w h.cell0).mono ?_
  rintro e w' ⟨rfl, rfl⟩
  exact ⟨rfl, h, Below.refl b _⟩
set_option maxHeartbeats 2000000 in
set_option maxRecDepth 100000 in
theorem bw_str (b : Nat) (l : List UInt8) (s : ByteArray) (w : World) (h : IsB b l w) (hl : l.length ≤ 1000000000) (hs : s.size ≤ 1000000000) :
  Calls Tryz.prog 70 #[.pointer (some ⟨b, 0, none⟩), .string s] w fun e w' => e = .returned (.tuple #[.int .i64 s.size, .nilIface]) ∧ (IsB b (l ++ s.data.toList) w' ∧ Below b w w') := by
 obtain ⟨i0, hi, hz0, hz1, hz2⟩ := info_parts infoByte
 have hlw := h.lt
 have hlen : (Lib.byteCells l).length = l.length := Lib.byteCells_length l
 have HC := Lib.hid (check_any b l w h)
 clear h
 go_enter Tryz.func70, Tryz.ntmps70
 go_wp2_with fail
 refine HC.out.mono ?_
 rintro e w1 ⟨rfl, h1, hb1⟩
 clear HC
 obtain ⟨hB, v, hbk, hown, hne⟩ := h1
 have hlt : b < w1.heap.size := Nat.lt_of_lt_of_le hlw hb1.size
 have c0 : w1.cell? ⟨b, 0, none⟩ = some (.pointer (some ⟨b, 0, none⟩)) := by rw [Lib.cell_of_heap hbk]; rfl
 have c1 : w1.cell? ⟨b, 1, none⟩ = some v := by rw [Lib.cell_of_heap hbk]; rfl
 go_wp2_with (at_builtin; refine Lib.wpList_append_own_stringF _ rfl _ _ 65 9 rfl b 5 i0 Tryz.underlying65 Tryz.underlying9 hi hz0 hz1 hz2 _ _ _ rfl hown s rfl ?c3 ?c4 ?c5 ?_)
 case c3 => unfold maxLen; omega
 case c4 => omega
 case c5 => omega
 intro v' w2 hown' hgrow _
 have hb2 : w2.heap[b]? = some (.cells #[.pointer (some ⟨b, 0, none⟩), v] 67 (0, 0)) := by
  rw [hgrow.block b hlt (fun e => hne e.symm)]
  exact hbk
 have d0 : w2.cell? ⟨b, 0, none⟩ = some (.pointer (some ⟨b, 0, none⟩)) := by rw [Lib.cell_of_heap hb2]; rfl
 have d1 : w2.cell? ⟨b, 1, none⟩ = some v := by rw [Lib.cell_of_heap hb2]; rfl
 have f1 : w2.frozen? ⟨b, 1, none⟩ = false := Lib.frozen_of_heap hb2 1
 obtain ⟨ao, n', cap, rfl⟩ : ∃ ao n' cap, v' = .slice ao n' cap := by
  rcases hown'.2 with ⟨hv, _⟩ | ⟨g, cap, cur, fz, hv, _⟩
  ·
   exact ⟨_, _, _, hv⟩
  ·
   exact ⟨_, _, _, hv⟩
 go_wp2
 go_ret2
 refine ⟨rfl, ?_, ?_⟩
 ·
  right
  rw [Lib.byteCells_append]
  exact Lib.BuilderAtF.put hB hb2 (bs' := Lib.byteCells l ++ Lib.strCells s) (by simpa [Lib.strCells_length, hlen] using hown') (by decide)
 ·
  exact (hb1.grown hgrow (by omega) (fun k hk => (hown.lt k hk).1)).setCell (p := ⟨b, 1, none⟩) hB _
theorem b_string (b : Nat) (l : List UInt8) (w : World) (h : IsB b l w) :
  Calls Tryz.prog 40 #[.pointer (some ⟨b, 0, none⟩)] w fun e w' => e = .returned (.string ⟨l.toArray⟩) ∧ (IsB b l w' ∧ Below b w w') :=
 (Any.Builder_String_any_k Tryz.lays169 extra169 b b l w h (Nat.le_of_lt h.lt)).mono fun _ _ ⟨e, h1, b1, _⟩ => ⟨e, h1, b1⟩
set_option maxHeartbeats 1000000 in
theorem sright_0 (y m d h i s : Int) (w : World) (hr : rightB y m d = false) :
  Calls Tryz.prog 37 #[.agg #[.int .i64 y, .int .i64 m, .int .i64 d, .int .i64 h, .int .i64 i, .int .i64 s]] w fun e w' => e = .returned (.bool false) ∧ Below w.heap.size w w' := by
 have R : Hid (∀ w, Calls Tryz.prog 67 #[.agg #[.int .i64 y, .int .i64 m, .int .i64 d]] w fun e w' => e = .returned (.bool false) ∧ Below w.heap.size w w') := fun w => by rw [← hr]; exact right_any y m d w
 clear hr
 go_enter Tryz.func37, Tryz.ntmps37
 go_wp2_with fail
 refine (R.out _).mono ?_; rintro e w1 ⟨rfl, b1⟩
 have d1 : Below w.heap.size w w1 := below_step gr0 b1
 have B1 := Lib.hid d1
 have S1 : Bk6 w1 (w.heap.size) (.int .i64 y) (.int .i64 m) (.int .i64 d) (.int .i64 h) (.int .i64 i) (.int .i64 s) := by refine Bk6.of b1 (by simp <;> omega) (by intro j; simp [go_sem]) ?_ ?_ ?_ ?_ ?_ ?_ <;> simp [go_sem]
 clear b1 d1
 have tx := S1; obtain ⟨cS_b, cS_f, cS_0, cS_1, cS_2, cS_3, cS_4, cS_5⟩ := tx
 go_wp2_with fail
 clear cS_b cS_f cS_0 cS_1 cS_2 cS_3 cS_4 cS_5
 go_ret
 exact ⟨rfl, (grB B1)⟩
set_option maxHeartbeats 1000000 in
theorem sright_1 (y m d h i s : Int) (w : World) (hr : rightB y m d = true) (c1 : ¬ 0 ≤ h) :
  Calls Tryz.prog 37 #[.agg #[.int .i64 y, .int .i64 m, .int .i64 d, .int .i64 h, .int .i64 i, .int .i64 s]] w fun e w' => e = .returned (.bool false) ∧ Below w.heap.size w w' := by
 have R : Hid (∀ w, Calls Tryz.prog 67 #[.agg #[.int .i64 y, .int .i64 m, .int .i64 d]] w fun e w' => e = .returned (.bool true) ∧ Below w.heap.size w w') := fun w => by rw [← hr]; exact right_any y m d w
 clear hr
 go_enter Tryz.func37, Tryz.ntmps37
 go_wp2_with fail
 refine (R.out _).mono ?_; rintro e w1 ⟨rfl, b1⟩
 have d1 : Below w.heap.size w w1 := below_step gr0 b1
 have B1 := Lib.hid d1
 have S1 : Bk6 w1 (w.heap.size) (.int .i64 y) (.int .i64 m) (.int .i64 d) (.int .i64 h) (.int .i64 i) (.int .i64 s) := by refine Bk6.of b1 (by simp <;> omega) (by intro j; simp [go_sem]) ?_ ?_ ?_ ?_ ?_ ?_ <;> simp [go_sem]
 clear b1 d1
 have tx := S1; obtain ⟨cS_b, cS_f, cS_0, cS_1, cS_2, cS_3, cS_4, cS_5⟩ := tx
 go_wp2_with fail
 clear cS_b cS_f cS_0 cS_1 cS_2 cS_3 cS_4 cS_5
 go_ret
 exact ⟨rfl, (grB B1)⟩
set_option maxHeartbeats 1000000 in
theorem sright_2 (y m d h i s : Int) (w : World) (hr : rightB y m d = true) (c1 : 0 ≤ h) (c2 : ¬ h < 24) :
  Calls Tryz.prog 37 #[.agg #[.int .i64 y, .int .i64 m, .int .i64 d, .int .i64 h, .int .i64 i, .int .i64 s]] w fun e w' => e = .returned (.bool false) ∧ Below w.heap.size w w' := by
 have R : Hid (∀ w, Calls Tryz.prog 67 #[.agg #[.int .i64 y, .int .i64 m, .int .i64 d]] w fun e w' => e = .returned (.bool true) ∧ Below w.heap.size w w') := fun w => by rw [← hr]; exact right_any y m d w
 clear hr
 go_enter Tryz.func37, Tryz.ntmps37
 go_wp2_with fail
 refine (R.out _).mono ?_; rintro e w1 ⟨rfl, b1⟩
 have d1 : Below w.heap.size w w1 := below_step gr0 b1
 have B1 := Lib.hid d1
 have S1 : Bk6 w1 (w.heap.size) (.int .i64 y) (.int .i64 m) (.int .i64 d) (.int .i64 h) (.int .i64 i) (.int .i64 s) := by refine Bk6.of b1 (by simp <;> omega) (by intro j; simp [go_sem]) ?_ ?_ ?_ ?_ ?_ ?_ <;> simp [go_sem]
 clear b1 d1
 have tx := S1; obtain ⟨cS_b, cS_f, cS_0, cS_1, cS_2, cS_3, cS_4, cS_5⟩ := tx
 go_wp2_with fail
 clear cS_b cS_f cS_0 cS_1 cS_2 cS_3 cS_4 cS_5
 go_ret
 exact ⟨rfl, (grB B1)⟩
set_option maxHeartbeats 1000000 in
theorem sright_3 (y m d h i s : Int) (w : World) (hr : rightB y m d = true) (c1 : 0 ≤ h) (c2 : h < 24) (c3 : ¬ 0 ≤ i) :
  Calls Tryz.prog 37 #[.agg #[.int .i64 y, .int .i64 m, .int .i64 d, .int .i64 h, .int .i64 i, .int .i64 s]] w fun e w' => e = .returned (.bool false) ∧ Below w.heap.size w w' := by
 have R : Hid (∀ w, Calls Tryz.prog 67 #[.agg #[.int .i64 y, .int .i64 m, .int .i64 d]] w fun e w' => e = .returned (.bool true) ∧ Below w.heap.size w w') := fun w => by rw [← hr]; exact right_any y m d w
 clear hr
 go_enter Tryz.func37, Tryz.ntmps37
 go_wp2_with fail
 refine (R.out _).mono ?_; rintro e w1 ⟨rfl, b1⟩
 have d1 : Below w.heap.size w w1 := below_step gr0 b1
 have B1 := Lib.hid d1
 have S1 : Bk6 w1 (w.heap.size) (.int .i64 y) (.int .i64 m) (.int .i64 d) (.int .i64 h) (.int .i64 i) (.int .i64 s) := by refine Bk6.of b1 (by simp <;> omega) (by intro j; simp [go_sem]) ?_ ?_ ?_ ?_ ?_ ?_ <;> simp [go_sem]
 clear b1 d1
 have tx := S1; obtain ⟨cS_b, cS_f, cS_0, cS_1, cS_2, cS_3, cS_4, cS_5⟩ := tx
 go_wp2_with fail
 clear cS_b cS_f cS_0 cS_1 cS_2 cS_3 cS_4 cS_5
 go_ret
 exact ⟨rfl, (grB B1)⟩
set_option maxHeartbeats 1000000 in
theorem sright_4 (y m d h i s : Int) (w : World) (hr : rightB y m d = true) (c1 : 0 ≤ h) (c2 : h < 24) (c3 : 0 ≤ i) (c4 : ¬ i < 60) :
  Calls Tryz.prog 37 #[.agg #[.int .i64 y, .int .i64 m, .int .i64 d, .int .i64 h, .int .i64 i, .int .i64 s]] w fun e w' => e = .returned (.bool false) ∧ Below w.heap.size w w' := by
 have R : Hid (∀ w, Calls Tryz.prog 67 #[.agg #[.int .i64 y, .int .i64 m, .int .i64 d]] w fun e w' => e = .returned (.bool true) ∧ Below w.heap.size w w') := fun w => by rw [← hr]; exact right_any y m d w
 clear hr
 go_enter Tryz.func37, Tryz.ntmps37
 go_wp2_with fail
 refine (R.out _).mono ?_; rintro e w1 ⟨rfl, b1⟩
 have d1 : Below w.heap.size w w1 := below_step gr0 b1
 have B1 := Lib.hid d1
 have S1 : Bk6 w1 (w.heap.size) (.int .i64 y) (.int .i64 m) (.int .i64 d) (.int .i64 h) (.int .i64 i) (.int .i64 s) := by refine Bk6.of b1 (by simp <;> omega) (by intro j; simp [go_sem]) ?_ ?_ ?_ ?_ ?_ ?_ <;> simp [go_sem]
 clear b1 d1
 have tx := S1; obtain ⟨cS_b, cS_f, cS_0, cS_1, cS_2, cS_3, cS_4, cS_5⟩ := tx
 go_wp2_with fail
 clear cS_b cS_f cS_0 cS_1 cS_2 cS_3 cS_4 cS_5
 go_ret
 exact ⟨rfl, (grB B1)⟩
set_option maxHeartbeats 1000000 in
theorem sright_5 (y m d h i s : Int) (w : World) (hr : rightB y m d = true) (c1 : 0 ≤ h) (c2 : h < 24) (c3 : 0 ≤ i) (c4 : i < 60) (c5 : ¬ 0 ≤ s) :
  Calls Tryz.prog 37 #[.agg #[.int .i64 y, .int .i64 m, .int .i64 d, .int .i64 h, .int .i64 i, .int .i64 s]] w fun e w' => e = .returned (.bool false) ∧ Below w.heap.size w w' := by
 have R : Hid (∀ w, Calls Tryz.prog 67 #[.agg #[.int .i64 y, .int .i64 m, .int .i64 d]] w fun e w' => e = .returned (.bool true) ∧ Below w.heap.size w w') := fun w => by rw [← hr]; exact right_any y m d w
 clear hr
 go_enter Tryz.func37, Tryz.ntmps37
 go_wp2_with fail
 refine (R.out _).mono ?_; rintro e w1 ⟨rfl, b1⟩
 have d1 : Below w.heap.size w w1 := below_step gr0 b1
 have B1 := Lib.hid d1
 have S1 : Bk6 w1 (w.heap.size) (.int .i64 y) (.int .i64 m) (.int .i64 d) (.int .i64 h) (.int .i64 i) (.int .i64 s) := by refine Bk6.of b1 (by simp <;> omega) (by intro j; simp [go_sem]) ?_ ?_ ?_ ?_ ?_ ?_ <;> simp [go_sem]
 clear b1 d1
 have tx := S1; obtain ⟨cS_b, cS_f, cS_0, cS_1, cS_2, cS_3, cS_4, cS_5⟩ := tx
 go_wp2_with fail
 clear cS_b cS_f cS_0 cS_1 cS_2 cS_3 cS_4 cS_5
 go_ret
 exact ⟨rfl, (grB B1)⟩
set_option maxHeartbeats 1000000 in
theorem sright_6 (y m d h i s : Int) (w : World) (hr : rightB y m d = true) (c1 : 0 ≤ h) (c2 : h < 24) (c3 : 0 ≤ i) (c4 : i < 60) (c5 : 0 ≤ s) (c6 : ¬ s < 60) :
  Calls Tryz.prog 37 #[.agg #[.int .i64 y, .int .i64 m, .int .i64 d, .int .i64 h, .int .i64 i, .int .i64 s]] w fun e w' => e = .returned (.bool false) ∧ Below w.heap.size w w' := by
 have R : Hid (∀ w, Calls Tryz.prog 67 #[.agg #[.int .i64 y, .int .i64 m, .int .i64 d]] w fun e w' => e = .returned (.bool true) ∧ Below w.heap.size w w') := fun w => by rw [← hr]; exact right_any y m d w
 have g : decide (s < 60) = false := decide_eq_false c6
 clear c6
 clear hr
 go_enter Tryz.func37, Tryz.ntmps37
 go_wp2_with fail
 refine (R.out _).mono ?_; rintro e w1 ⟨rfl, b1⟩
 have d1 : Below w.heap.size w w1 := below_step gr0 b1
 have B1 := Lib.hid d1
 have S1 : Bk6 w1 (w.heap.size) (.int .i64 y) (.int .i64 m) (.int .i64 d) (.int .i64 h) (.int .i64 i) (.int .i64 s) := by refine Bk6.of b1 (by simp <;> omega) (by intro j; simp [go_sem]) ?_ ?_ ?_ ?_ ?_ ?_ <;> simp [go_sem]
 clear b1 d1
 have tx := S1; obtain ⟨cS_b, cS_f, cS_0, cS_1, cS_2, cS_3, cS_4, cS_5⟩ := tx
 go_wp2_with fail
 clear cS_b cS_f cS_0 cS_1 cS_2 cS_3 cS_4 cS_5
 go_ret
 exact ⟨rfl, (grB B1)⟩
set_option maxHeartbeats 1000000 in
theorem sright_7 (y m d h i s : Int) (w : World) (hr : rightB y m d = true) (c1 : 0 ≤ h) (c2 : h < 24) (c3 : 0 ≤ i) (c4 : i < 60) (c5 : 0 ≤ s) (c6 : s < 60) :
  Calls Tryz.prog 37 #[.agg #[.int .i64 y, .int .i64 m, .int .i64 d, .int .i64 h, .int .i64 i, .int .i64 s]] w fun e w' => e = .returned (.bool true) ∧ Below w.heap.size w w' := by
 have R : Hid (∀ w, Calls Tryz.prog 67 #[.agg #[.int .i64 y, .int .i64 m, .int .i64 d]] w fun e w' => e = .returned (.bool true) ∧ Below w.heap.size w w') := fun w => by rw [← hr]; exact right_any y m d w
 clear hr
 go_enter Tryz.func37, Tryz.ntmps37
 go_wp2_with fail
 refine (R.out _).mono ?_; rintro e w1 ⟨rfl, b1⟩
 have d1 : Below w.heap.size w w1 := below_step gr0 b1
 have B1 := Lib.hid d1
 have S1 : Bk6 w1 (w.heap.size) (.int .i64 y) (.int .i64 m) (.int .i64 d) (.int .i64 h) (.int .i64 i) (.int .i64 s) := by refine Bk6.of b1 (by simp <;> omega) (by intro j; simp [go_sem]) ?_ ?_ ?_ ?_ ?_ ?_ <;> simp [go_sem]
 clear b1 d1
 have tx := S1; obtain ⟨cS_b, cS_f, cS_0, cS_1, cS_2, cS_3, cS_4, cS_5⟩ := tx
 go_wp2_with fail
 clear cS_b cS_f cS_0 cS_1 cS_2 cS_3 cS_4 cS_5
 go_ret
 exact ⟨rfl, (grB B1)⟩
theorem sright_any (y m d h i s : Int) (w : World) :
  Calls Tryz.prog 37 #[.agg #[.int .i64 y, .int .i64 m, .int .i64 d, .int .i64 h, .int .i64 i, .int .i64 s]] w fun e w' => e = .returned (.bool (St.rB y m d h i s)) ∧ Below w.heap.size w w' := by
 cases hr : rightB y m d
 ·
  rw [show St.rB y m d h i s = false by unfold St.rB; rw [hr]; rfl]; exact sright_0 y m d h i s w hr
 ·
  by_cases c1 : 0 ≤ h
  ·
   by_cases c2 : h < 24
   ·
    by_cases c3 : 0 ≤ i
    ·
     by_cases c4 : i < 60
     ·
      by_cases c5 : 0 ≤ s
      ·
       by_cases c6 : s < 60
       ·
        rw [show St.rB y m d h i s = true by unfold St.rB; rw [hr]; simp [c1, c2, c3, c4, c5, c6]]; exact sright_7 y m d h i s w hr c1 c2 c3 c4 c5 c6
       ·
        rw [show St.rB y m d h i s = false by unfold St.rB; rw [hr]; simp [c1, c2, c3, c4, c5, c6]]; exact sright_6 y m d h i s w hr c1 c2 c3 c4 c5 c6
      ·
       rw [show St.rB y m d h i s = false by unfold St.rB; rw [hr]; simp [c1, c2, c3, c4, c5]]; exact sright_5 y m d h i s w hr c1 c2 c3 c4 c5
     ·
      rw [show St.rB y m d h i s = false by unfold St.rB; rw [hr]; simp [c1, c2, c3, c4]]; exact sright_4 y m d h i s w hr c1 c2 c3 c4
    ·
     rw [show St.rB y m d h i s = false by unfold St.rB; rw [hr]; simp [c1, c2, c3]]; exact sright_3 y m d h i s w hr c1 c2 c3
   ·
    rw [show St.rB y m d h i s = false by unfold St.rB; rw [hr]; simp [c1, c2]]; exact sright_2 y m d h i s w hr c1 c2
  ·
   rw [show St.rB y m d h i s = false by unfold St.rB; rw [hr]; simp [c1]]; exact sright_1 y m d h i s w hr c1
end Go.Proofs.YtbcbggdbojonmaaGreatDoor
set_option linter.unusedVariables false
set_option linter.unusedSimpArgs false
namespace Go.Proofs.YtbcbggdbojonmaaGreatDoor.Rd
open Go Go.Lib
def ok (t : List UInt8) : Bool := form t && (yl (hd t) && St.rB (yv (hd t)) (pV (tl t) 0) (pV (tl t) 1) (pV (tl t) 2) (pV (tl t) 3) (pV (tl t) 4))
end Go.Proofs.YtbcbggdbojonmaaGreatDoor.Rd
