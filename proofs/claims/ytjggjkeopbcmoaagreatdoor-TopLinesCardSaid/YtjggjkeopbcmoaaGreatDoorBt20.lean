/- Joined: ErF. -/
import Derived.Test.YtjggjkeopbcmoaaGreatDoorBt01
import Derived.Test.YtjggjkeopbcmoaaGreatDoorBt19
import Derived.Test.YtjggjkeopbcmoaaGreatDoorBt13
set_option linter.unusedVariables false
set_option linter.unusedSimpArgs false
namespace Go.Proofs.YtjggjkeopbcmoaaGreatDoor
open Go.RowKit Go.Sort
namespace Er
structure U where
 h : Bool
 y : Int
 m : Int
 k : Int
 wk : Int
 d : Int
 sec : Int
 base : Int
def U0 : U := ⟨false, 0, 0, 0, 0, 0, 0, 0⟩
def U.v (u : U) : Value := .agg #[.bool u.h, .int .i64 u.y, .int .i64 u.m, .int .i64 u.k, .int .i64 u.wk, .int .i64 u.d, .int .i64 u.sec, .int .i64 u.base]
def enM : List ByteArray → Int
 | _ :: f :: _ => Ru.mo f
 | _ => 1
def enMq : List ByteArray → Int
 | _ :: f :: _ => (Wd.mat f.data.toList Wd.months).2
 | _ => 0
def enD : List ByteArray → Int × Int × Int × Int
 | _ :: g :: f :: _ => Ru.dy f.data.toList (Ru.mo g)
 | _ => (0, 0, 1, 0)
def enC : List ByteArray → Int × Int × Int
 | _ :: _ :: _ :: f :: _ => Cl.rd f
 | _ => (0, 0, 0)
def enW : List ByteArray → List Int
 | [] => []
 | f0 :: r => [(yr f0.data.toList).2, enMq (f0 :: r), (enD (f0 :: r)).2.2.2, (enC (f0 :: r)).2.2]
def enV : List ByteArray → U
 | [] => U0
 | f0 :: r => ⟨true, (yr f0.data.toList).1, enM (f0 :: r), (enD (f0 :: r)).1, (enD (f0 :: r)).2.1, (enD (f0 :: r)).2.2.1, (enC (f0 :: r)).1, (enC (f0 :: r)).2.1⟩
end Er
theorem ansT {w w' : World} {e : Ending} {r : Int} {v : Value} {T : Prop} (a : Below w.heap.size w w' ∧ ((T ∧ e = .returned v) ∨ (0 ≠ (0 : Int) ∧ e = .panicked (gvP r)))) : e = .returned v ∧ Below w.heap.size w w' := by
 obtain ⟨b, ⟨_, e1⟩ | ⟨h1, _⟩⟩ := a
 ·
  exact ⟨e1, b⟩
 ·
  exact absurd rfl h1
theorem ansP_no {w w' : World} {e : Ending} {q : Int} {v : Value} (h : q ≠ 0) (a : Below w.heap.size w w' ∧ ((q = 0 ∧ e = .returned v) ∨ (q ≠ 0 ∧ e = .panicked (gvP q)))) : e = .panicked (gvP q) ∧ Below w.heap.size w w' := by
 obtain ⟨b, ⟨h1, _⟩ | ⟨_, e1⟩⟩ := a
 ·
  exact absurd h1 h
 ·
  exact ⟨e1, b⟩
set_option maxRecDepth 100000 in
theorem erbeg_any (y : Int) (w : World) : Calls Tryz.prog 120 #[.int .i64 y] w fun e w' => e = .returned (.agg #[.bool true, .int .i64 y, .int .i64 1, .int .i64 0, .int .i64 0, .int .i64 1, .int .i64 0, .int .i64 0]) ∧ Below w.heap.size w w' := by
 go_enter Tryz.func120, Tryz.ntmps120
 go_wp2_with fail
 exact bodyPost_ret (v := .agg #[.bool true, .int .i64 y, .int .i64 1, .int .i64 0, .int .i64 0, .int .i64 1, .int .i64 0, .int .i64 0]) (by simp [results, Tryz.results120, go_sem]) rfl ⟨rfl, by repeat (first | exact Below.refl _ _ | refine Below.setCell ?_ (by first | (simp; done) | (simp; omega) | omega) _ | refine Below.alloc ?_ (by first | (simp; done) | (simp; omega) | omega) _)⟩
set_option maxHeartbeats 8000000 in
set_option maxRecDepth 100000 in
theorem eren_0 (v : Value) (w : World) (S : StS w v []) (hz : ∀ x ∈ ([] : List ByteArray), x.size ≤ 600) (tp : TypeId) (p : Value) (y : Int) (L : Ru.Lv w tp p y) :
  Calls Tryz.prog 84 #[v] w fun e w' => Below w.heap.size w w' ∧ ((Ru.fst (Er.enW []) = 0 ∧ e = .returned (Er.enV []).v) ∨ (Ru.fst (Er.enW []) ≠ 0 ∧ e = .panicked (gvP (Ru.fst (Er.enW []))))) := by
 obtain ⟨A, c, rfl, -⟩ := S
 rw [show Ru.fst (Er.enW []) = 0 from rfl]
 unfold Er.enV Er.U0 Er.U.v
 go_enter Tryz.func84, Tryz.ntmps84
 go_wp2_with fail
 exact bodyPost_ret (v := .agg #[.bool false, .int .i64 0, .int .i64 0, .int .i64 0, .int .i64 0, .int .i64 0, .int .i64 0, .int .i64 0]) (by simp [results, Tryz.results84, go_sem]) rfl ⟨by repeat (first | exact Below.refl _ _ | refine Below.setCell ?_ (by first | (simp; done) | (simp; omega) | omega) _ | refine Below.alloc ?_ (by first | (simp; done) | (simp; omega) | omega) _), .inl ⟨by first | rfl | trivial, rfl⟩⟩
set_option maxHeartbeats 8000000 in
set_option maxRecDepth 100000 in
theorem eren_1 (v : Value) (f0 : ByteArray) (w : World) (S : StS w v [f0]) (hz : ∀ x ∈ ([f0] : List ByteArray), x.size ≤ 600) (tp : TypeId) (p : Value) (y : Int) (L : Ru.Lv w tp p y) :
  Calls Tryz.prog 84 #[v] w fun e w' => Below w.heap.size w w' ∧ ((Ru.fst (Er.enW [f0]) = 0 ∧ e = .returned (Er.enV [f0]).v) ∨ (Ru.fst (Er.enW [f0]) ≠ 0 ∧ e = .panicked (gvP (Ru.fst (Er.enW [f0]))))) := by
 have z0 := hz f0 (by simp)
 have YE := Lib.hid (fun W (h : Ru.Lv W tp p y) => eryr_any f0 W z0 tp p h.rng)
 have HL := Lib.hid (fun W (b : Below w.heap.size w W) => L.on b)
 obtain ⟨A, c, rfl, hA⟩ := S
 obtain ⟨q, rfl, hq, hcell⟩ := hA (by simp)
 have HC : Hid (∀ W, Below w.heap.size w W → W.cell? q = some (.string f0)) := fun W b => by
  have k : ∀ i x, ([f0].map Value.string)[i]? = some x → W.cell? (q.add i) = some x := fun i x hx => by
   have := hcell i x hx
   exact (b.cell (by rw [blk_add]; exact hq)).trans this
  have k0 := k 0 _ rfl
  rw [Addr.add_zero'] at k0
  have kk : ∀ i, q.add (i + 1) = ⟨q.block, q.off + (i + 1), none⟩ := fun i => by rw [Addr.add_succ']
  exact k0
 have n1 : q.block ≠ w.heap.size := Nat.ne_of_lt hq
 have n3 : w.heap.size ≠ q.block := Nat.ne_of_gt hq
 clear hcell L hz z0 hA
 obtain ⟨F, hF⟩ : ∃ F, F = Ru.fst (Er.enW [f0]) := ⟨_, rfl⟩
 rw [← hF]
 replace hF : F = Ru.fst [(Er.yr f0.data.toList).2, 0, 0, 0] := hF
 rw [show (Er.enV [f0]).v = .agg #[.bool true, .int .i64 ((Er.yr f0.data.toList).1), .int .i64 (1), .int .i64 (0), .int .i64 (0), .int .i64 (1), .int .i64 (0), .int .i64 (0)] from rfl]
 generalize (Er.yr f0.data.toList).1 = y0 at *
 generalize (Er.yr f0.data.toList).2 = q0 at *
 have HF := Lib.hid hF; clear hF
 go_enter Tryz.func84, Tryz.ntmps84
 have g0 := HC.out _ (Below.refl _ _)
 by_cases h0 : q0 = 0
 case neg =>
  obtain rfl : F = q0 := by rw [HF.out]; exact Ru.fst_no h0
  go_wp2_with fail
  refine (YE.out _ (HL.out _ gr0)).mono ?_; rintro e w1 a
  obtain ⟨rfl, b1⟩ := ansP_no h0 a
  refine (show bodyPost _ _ _ (Exit.panic _) _ _ from ?_); simp only [bodyPost]
  exact ⟨trivial, below_step gr0 b1, .inr ⟨h0, by first | rfl | trivial⟩⟩
 subst h0
 go_wp2_with fail
 refine ((YE.out _ (HL.out _ gr0)).mono fun _ _ a => ansT a).mono ?_; rintro e w1 ⟨rfl, b1⟩
 have d1 : Below w.heap.size w w1 := below_step gr0 b1
 have B1 := Lib.hid d1
 have Z1 : Bk8 w1 (w.heap.size) (.bool false) (.int .i64 0) (.int .i64 0) (.int .i64 0) (.int .i64 0) (.int .i64 0) (.int .i64 0) (.int .i64 0) := by refine Bk8.of b1 (by simp <;> omega) (by intro j; simp [go_sem]) ?_ ?_ ?_ ?_ ?_ ?_ ?_ ?_ <;> simp [go_sem]
 clear b1 d1
 have tx := Z1; obtain ⟨cZ_b, cZ_f, cZ_0, cZ_1, cZ_2, cZ_3, cZ_4, cZ_5, cZ_6, cZ_7⟩ := tx
 go_wp2_with fail
 clear cZ_b cZ_f cZ_0 cZ_1 cZ_2 cZ_3 cZ_4 cZ_5 cZ_6 cZ_7
 refine (erbeg_any y0 _).mono ?_; rintro e w2 ⟨rfl, b2⟩
 have d2 : Below w1.heap.size w1 w2 := below_step gr0 b2
 have B2 := Lib.hid (below_step B1.out d2)
 have Z2 := Z1.keep d2
 clear Z1 b2 d2 B1
 clear g0
 have g0 := HC.out _ B2.out
 have hqk := Nat.lt_of_lt_of_le hq B2.out.size
 go_upto_region 11 with (fail)
 obtain rfl : F = 0 := by rw [HF.out]; simp [Ru.fst]
 clear g0
 have tx := Z2; obtain ⟨cZ_b, cZ_f, cZ_0, cZ_1, cZ_2, cZ_3, cZ_4, cZ_5, cZ_6, cZ_7⟩ := tx
 refine wp_region_lit ?_
 go_step; go_simp; go_step
 clear cZ_b cZ_f cZ_0 cZ_1 cZ_2 cZ_3 cZ_4 cZ_5 cZ_6 cZ_7
 refine wpList_st8 ?_ 29 (Operand.tmp 2) (Operand.tmp 52) ?_ w.heap.size (.bool true) (.int .i64 y0) (.int .i64 1) (.int .i64 0) (.int .i64 0) (.int .i64 1) (.int .i64 0) (.int .i64 0) ?_ ?_ ?_ (Z2.keep gr0) ?_ (fun W9 C hbel => ?_)
 ·
  rfl
 ·
  rfl
 ·
  rfl
 ·
  rfl
 ·
  kernel_rfl
 ·
  simp [Value.oneCell']
 have d9 := hbel _ _ (Nat.le_refl _) (below_step B2.out gr0)
 clear hbel Z2
 have e0 := C.k0; have e1 := C.k1; have e2 := C.k2; have e3 := C.k3; have e4 := C.k4; have e5 := C.k5; have e6 := C.k6; have e7 := C.k7
 clear C
 go_step
 go_simp
 go_step
 go_step
 simp +zetaDelta only [Exit.then, Exit.inBlock]
 exact bodyPost_ret (v := .agg #[.bool true, .int .i64 y0, .int .i64 1, .int .i64 0, .int .i64 0, .int .i64 1, .int .i64 0, .int .i64 0]) (by simp [results, Tryz.results84, go_sem, e0, e1, e2, e3, e4, e5, e6, e7]) rfl ⟨d9, .inl ⟨by first | rfl | trivial, by rfl⟩⟩
set_option maxHeartbeats 8000000 in
set_option maxRecDepth 100000 in
theorem eren_2 (v : Value) (f0 f1 : ByteArray) (w : World) (S : StS w v [f0, f1]) (hz : ∀ x ∈ ([f0, f1] : List ByteArray), x.size ≤ 600) (tp : TypeId) (p : Value) (y : Int) (L : Ru.Lv w tp p y) :
  Calls Tryz.prog 84 #[v] w fun e w' => Below w.heap.size w w' ∧ ((Ru.fst (Er.enW [f0, f1]) = 0 ∧ e = .returned (Er.enV [f0, f1]).v) ∨ (Ru.fst (Er.enW [f0, f1]) ≠ 0 ∧ e = .panicked (gvP (Ru.fst (Er.enW [f0, f1]))))) := by
 have z0 := hz f0 (by simp); have z1 := hz f1 (by simp)
 have YE := Lib.hid (fun W (h : Ru.Lv W tp p y) => eryr_any f0 W z0 tp p h.rng)
 have HL := Lib.hid (fun W (b : Below w.heap.size w W) => L.on b)
 have MO := Lib.hid (fun W (h : Ru.Lv W tp p y) => month_any f1 W (Nat.le_trans z1 (by decide)) h.mon)
 obtain ⟨A, c, rfl, hA⟩ := S
 obtain ⟨q, rfl, hq, hcell⟩ := hA (by simp)
 have HC : Hid (∀ W, Below w.heap.size w W → W.cell? q = some (.string f0) ∧ W.cell? ⟨q.block, q.off + 1, none⟩ = some (.string f1)) := fun W b => by
  have k : ∀ i x, ([f0, f1].map Value.string)[i]? = some x → W.cell? (q.add i) = some x := fun i x hx => by
   have := hcell i x hx
   exact (b.cell (by rw [blk_add]; exact hq)).trans this
  have k0 := k 0 _ rfl
  rw [Addr.add_zero'] at k0
  have kk : ∀ i, q.add (i + 1) = ⟨q.block, q.off + (i + 1), none⟩ := fun i => by rw [Addr.add_succ']
  have k1 := k 1 _ rfl; rw [kk 0] at k1
  exact ⟨k0, k1⟩
 have n1 : q.block ≠ w.heap.size := Nat.ne_of_lt hq
 have n3 : w.heap.size ≠ q.block := Nat.ne_of_gt hq
 clear hcell L hz z0 z1 hA
 obtain ⟨F, hF⟩ : ∃ F, F = Ru.fst (Er.enW [f0, f1]) := ⟨_, rfl⟩
 rw [← hF]
 replace hF : F = Ru.fst [(Er.yr f0.data.toList).2, (Wd.mat f1.data.toList Wd.months).2, 0, 0] := hF
 rw [show (Er.enV [f0, f1]).v = .agg #[.bool true, .int .i64 ((Er.yr f0.data.toList).1), .int .i64 (Ru.mo f1), .int .i64 (0), .int .i64 (0), .int .i64 (1), .int .i64 (0), .int .i64 (0)] from rfl]
 simp only [Ru.mo] at hF ⊢
 generalize (Er.yr f0.data.toList).1 = y0 at *
 generalize (Er.yr f0.data.toList).2 = q0 at *
 generalize Wd.up (Wd.mat f1.data.toList Wd.months) = m at *
 generalize (Wd.mat f1.data.toList Wd.months).2 = q1 at *
 have HF := Lib.hid hF; clear hF
 go_enter Tryz.func84, Tryz.ntmps84
 obtain ⟨g0, g1⟩ := HC.out _ (Below.refl _ _)
 by_cases h0 : q0 = 0
 case neg =>
  obtain rfl : F = q0 := by rw [HF.out]; exact Ru.fst_no h0
  go_wp2_with fail
  refine (YE.out _ (HL.out _ gr0)).mono ?_; rintro e w1 a
  obtain ⟨rfl, b1⟩ := ansP_no h0 a
  refine (show bodyPost _ _ _ (Exit.panic _) _ _ from ?_); simp only [bodyPost]
  exact ⟨trivial, below_step gr0 b1, .inr ⟨h0, by first | rfl | trivial⟩⟩
 subst h0
 go_wp2_with fail
 refine ((YE.out _ (HL.out _ gr0)).mono fun _ _ a => ansT a).mono ?_; rintro e w1 ⟨rfl, b1⟩
 have d1 : Below w.heap.size w w1 := below_step gr0 b1
 have B1 := Lib.hid d1
 have Z1 : Bk8 w1 (w.heap.size) (.bool false) (.int .i64 0) (.int .i64 0) (.int .i64 0) (.int .i64 0) (.int .i64 0) (.int .i64 0) (.int .i64 0) := by refine Bk8.of b1 (by simp <;> omega) (by intro j; simp [go_sem]) ?_ ?_ ?_ ?_ ?_ ?_ ?_ ?_ <;> simp [go_sem]
 clear b1 d1
 have tx := Z1; obtain ⟨cZ_b, cZ_f, cZ_0, cZ_1, cZ_2, cZ_3, cZ_4, cZ_5, cZ_6, cZ_7⟩ := tx
 go_wp2_with fail
 clear cZ_b cZ_f cZ_0 cZ_1 cZ_2 cZ_3 cZ_4 cZ_5 cZ_6 cZ_7
 refine (erbeg_any y0 _).mono ?_; rintro e w2 ⟨rfl, b2⟩
 have d2 : Below w1.heap.size w1 w2 := below_step gr0 b2
 have B2 := Lib.hid (below_step B1.out d2)
 have Z2 := Z1.keep d2
 clear Z1 b2 d2 B1
 clear g0 g1
 obtain ⟨g0, g1⟩ := HC.out _ B2.out
 have hqk := Nat.lt_of_lt_of_le hq B2.out.size
 have tx := Z2; obtain ⟨cZ_b, cZ_f, cZ_0, cZ_1, cZ_2, cZ_3, cZ_4, cZ_5, cZ_6, cZ_7⟩ := tx
 go_wp2_with fail
 clear cZ_b cZ_f cZ_0 cZ_1 cZ_2 cZ_3 cZ_4 cZ_5 cZ_6 cZ_7
 refine (MO.out _ (HL.out _ (below_step B2.out gr0))).mono ?_; rintro e w3 ⟨rfl, b3⟩
 have d3 : Below w2.heap.size w2 w3 := below_step gr0 b3
 have B3 := Lib.hid (below_step B2.out d3)
 have Z3 := Z2.keep d3
 have aUU := B2.out.size
 have nUUZ := Nat.ne_of_lt Z2.hb
 have oUUZ := Nat.ne_of_gt Z2.hb
 have UU3 : Bk8 w3 (w2.heap.size) (.bool true) (.int .i64 y0) (.int .i64 1) (.int .i64 0) (.int .i64 0) (.int .i64 1) (.int .i64 0) (.int .i64 0) := by refine Bk8.of b3 (by simp <;> omega) (by intro j; simp [go_sem]) ?_ ?_ ?_ ?_ ?_ ?_ ?_ ?_ <;> simp [go_sem]
 clear Z2 b3 d3 B2
 clear g0 g1
 obtain ⟨g0, g1⟩ := HC.out _ B3.out
 by_cases h1 : q1 = 0
 case neg =>
  obtain rfl : F = q1 := by rw [HF.out]; simp [Ru.fst, h1]
  have tx := Z3; obtain ⟨cZ_b, cZ_f, cZ_0, cZ_1, cZ_2, cZ_3, cZ_4, cZ_5, cZ_6, cZ_7⟩ := tx
  have tx := UU3; obtain ⟨cUU_b, cUU_f, cUU_0, cUU_1, cUU_2, cUU_3, cUU_4, cUU_5, cUU_6, cUU_7⟩ := tx
  go_wp2_with fail
  clear cZ_b cZ_f cZ_0 cZ_1 cZ_2 cZ_3 cZ_4 cZ_5 cZ_6 cZ_7 cUU_b cUU_f cUU_0 cUU_1 cUU_2 cUU_3 cUU_4 cUU_5 cUU_6 cUU_7
  refine (muti_no _ _ _ h1).mono ?_; rintro e v ⟨rfl, rfl⟩
  refine (show bodyPost _ _ _ (Exit.panic _) _ _ from ?_); simp only [bodyPost]
  exact ⟨trivial, (grB B3), .inr ⟨h1, by first | rfl | trivial⟩⟩
 subst h1
 have tx := Z3; obtain ⟨cZ_b, cZ_f, cZ_0, cZ_1, cZ_2, cZ_3, cZ_4, cZ_5, cZ_6, cZ_7⟩ := tx
 have tx := UU3; obtain ⟨cUU_b, cUU_f, cUU_0, cUU_1, cUU_2, cUU_3, cUU_4, cUU_5, cUU_6, cUU_7⟩ := tx
 go_wp2_with fail
 refine (muti_yes _ _).mono ?_; rintro e v ⟨rfl, rfl⟩
 go_upto_region 11 with (fail)
 clear cZ_b cZ_f cZ_0 cZ_1 cZ_2 cZ_3 cZ_4 cZ_5 cZ_6 cZ_7 cUU_b cUU_f cUU_0 cUU_1 cUU_2 cUU_3 cUU_4 cUU_5 cUU_6 cUU_7
 refine wp_named ?_; intro w4 hw4
 have B4 := Lib.hid (show Below w.heap.size w w4 by rw [hw4]; exact grB B3)
 have UU4 := UU3.set2 (v := (.int .i64 m)) hw4
 have Z4 := Z3.other hw4 (by have := Z3.hb; have := UU3.hb; omega)
 clear UU3 Z3 hw4 B3
 obtain rfl : F = 0 := by rw [HF.out]; simp [Ru.fst]
 clear g0 g1
 have tx := UU4; obtain ⟨cUU_b, cUU_f, cUU_0, cUU_1, cUU_2, cUU_3, cUU_4, cUU_5, cUU_6, cUU_7⟩ := tx
 have tx := Z4; obtain ⟨cZ_b, cZ_f, cZ_0, cZ_1, cZ_2, cZ_3, cZ_4, cZ_5, cZ_6, cZ_7⟩ := tx
 refine wp_region_lit ?_
 go_step; go_simp; go_step
 clear cUU_b cUU_f cUU_0 cUU_1 cUU_2 cUU_3 cUU_4 cUU_5 cUU_6 cUU_7 cZ_b cZ_f cZ_0 cZ_1 cZ_2 cZ_3 cZ_4 cZ_5 cZ_6 cZ_7
 refine wpList_st8 ?_ 29 (Operand.tmp 2) (Operand.tmp 52) ?_ w.heap.size (.bool true) (.int .i64 y0) (.int .i64 m) (.int .i64 0) (.int .i64 0) (.int .i64 1) (.int .i64 0) (.int .i64 0) ?_ ?_ ?_ Z4 ?_ (fun W9 C hbel => ?_)
 ·
  rfl
 ·
  rfl
 ·
  rfl
 ·
  rfl
 ·
  kernel_rfl
 ·
  simp [Value.oneCell']
 have d9 := hbel _ _ (Nat.le_refl _) B4.out
 clear hbel UU4 Z4
 have e0 := C.k0; have e1 := C.k1; have e2 := C.k2; have e3 := C.k3; have e4 := C.k4; have e5 := C.k5; have e6 := C.k6; have e7 := C.k7
 clear C
 go_step
 go_simp
 go_step
 go_step
 simp +zetaDelta only [Exit.then, Exit.inBlock]
 exact bodyPost_ret (v := .agg #[.bool true, .int .i64 y0, .int .i64 m, .int .i64 0, .int .i64 0, .int .i64 1, .int .i64 0, .int .i64 0]) (by simp [results, Tryz.results84, go_sem, e0, e1, e2, e3, e4, e5, e6, e7]) rfl ⟨d9, .inl ⟨by first | rfl | trivial, by rfl⟩⟩
set_option maxHeartbeats 8000000 in
set_option maxRecDepth 100000 in
theorem eren_3 (v : Value) (f0 f1 f2 : ByteArray) (w : World) (S : StS w v [f0, f1, f2]) (hz : ∀ x ∈ ([f0, f1, f2] : List ByteArray), x.size ≤ 600) (tp : TypeId) (p : Value) (y : Int) (L : Ru.Lv w tp p y) :
  Calls Tryz.prog 84 #[v] w fun e w' => Below w.heap.size w w' ∧ ((Ru.fst (Er.enW [f0, f1, f2]) = 0 ∧ e = .returned (Er.enV [f0, f1, f2]).v) ∨ (Ru.fst (Er.enW [f0, f1, f2]) ≠ 0 ∧ e = .panicked (gvP (Ru.fst (Er.enW [f0, f1, f2]))))) := by
 have z0 := hz f0 (by simp); have z1 := hz f1 (by simp); have z2 := hz f2 (by simp)
 have YE := Lib.hid (fun W (h : Ru.Lv W tp p y) => eryr_any f0 W z0 tp p h.rng)
 have HL := Lib.hid (fun W (b : Below w.heap.size w W) => L.on b)
 have MO := Lib.hid (fun W (h : Ru.Lv W tp p y) => month_any f1 W (Nat.le_trans z1 (by decide)) h.mon)
 have DR := Lib.hid (fun W (h : Ru.Lv W tp p y) => dRead_any f2 W (by omega) tp p h.rng h.days)
 obtain ⟨A, c, rfl, hA⟩ := S
 obtain ⟨q, rfl, hq, hcell⟩ := hA (by simp)
 have HC : Hid (∀ W, Below w.heap.size w W → W.cell? q = some (.string f0) ∧ W.cell? ⟨q.block, q.off + 1, none⟩ = some (.string f1) ∧ W.cell? ⟨q.block, q.off + 2, none⟩ = some (.string f2)) := fun W b => by
  have k : ∀ i x, ([f0, f1, f2].map Value.string)[i]? = some x → W.cell? (q.add i) = some x := fun i x hx => by
   have := hcell i x hx
   exact (b.cell (by rw [blk_add]; exact hq)).trans this
  have k0 := k 0 _ rfl
  rw [Addr.add_zero'] at k0
  have kk : ∀ i, q.add (i + 1) = ⟨q.block, q.off + (i + 1), none⟩ := fun i => by rw [Addr.add_succ']
  have k1 := k 1 _ rfl; rw [kk 0] at k1
  have k2 := k 2 _ rfl; rw [kk 1] at k2
  exact ⟨k0, k1, k2⟩
 have n1 : q.block ≠ w.heap.size := Nat.ne_of_lt hq
 have n3 : w.heap.size ≠ q.block := Nat.ne_of_gt hq
 clear hcell L hz z0 z1 z2 hA
 obtain ⟨F, hF⟩ : ∃ F, F = Ru.fst (Er.enW [f0, f1, f2]) := ⟨_, rfl⟩
 rw [← hF]
 replace hF : F = Ru.fst [(Er.yr f0.data.toList).2, (Wd.mat f1.data.toList Wd.months).2, (Ru.dy f2.data.toList (Ru.mo f1)).2.2.2, 0] := hF
 rw [show (Er.enV [f0, f1, f2]).v = .agg #[.bool true, .int .i64 ((Er.yr f0.data.toList).1), .int .i64 (Ru.mo f1), .int .i64 ((Ru.dy f2.data.toList (Ru.mo f1)).1), .int .i64 ((Ru.dy f2.data.toList (Ru.mo f1)).2.1), .int .i64 ((Ru.dy f2.data.toList (Ru.mo f1)).2.2.1), .int .i64 (0), .int .i64 (0)] from rfl]
 simp only [Ru.mo] at hF ⊢
 unfold Ru.dy at hF ⊢
 generalize (Er.yr f0.data.toList).1 = y0 at *
 generalize (Er.yr f0.data.toList).2 = q0 at *
 generalize Wd.up (Wd.mat f1.data.toList Wd.months) = m at *
 generalize (Wd.mat f1.data.toList Wd.months).2 = q1 at *
 generalize (Ds.rd f2.data.toList).1 = k at *
 generalize (Ds.rd f2.data.toList).2.1 = wk at *
 generalize (Ds.rd f2.data.toList).2.2.1 = d at *
 generalize (Ds.rd f2.data.toList).2.2.2 = q2 at *
 have HF := Lib.hid hF; clear hF
 have OF := Lib.hid (fun W => ofits_any k wk d m W)
 obtain ⟨o, ho⟩ : ∃ o, o = Dr.onF k wk d m := ⟨_, rfl⟩
 rw [← ho] at OF
 have HO := Lib.hid ho; clear ho
 go_enter Tryz.func84, Tryz.ntmps84
 obtain ⟨g0, g1, g2⟩ := HC.out _ (Below.refl _ _)
 by_cases h0 : q0 = 0
 case neg =>
  obtain rfl : F = q0 := by rw [HF.out]; exact Ru.fst_no h0
  go_wp2_with fail
  refine (YE.out _ (HL.out _ gr0)).mono ?_; rintro e w1 a
  obtain ⟨rfl, b1⟩ := ansP_no h0 a
  refine (show bodyPost _ _ _ (Exit.panic _) _ _ from ?_); simp only [bodyPost]
  exact ⟨trivial, below_step gr0 b1, .inr ⟨h0, by first | rfl | trivial⟩⟩
 subst h0
 go_wp2_with fail
 refine ((YE.out _ (HL.out _ gr0)).mono fun _ _ a => ansT a).mono ?_; rintro e w1 ⟨rfl, b1⟩
 have d1 : Below w.heap.size w w1 := below_step gr0 b1
 have B1 := Lib.hid d1
 have Z1 : Bk8 w1 (w.heap.size) (.bool false) (.int .i64 0) (.int .i64 0) (.int .i64 0) (.int .i64 0) (.int .i64 0) (.int .i64 0) (.int .i64 0) := by refine Bk8.of b1 (by simp <;> omega) (by intro j; simp [go_sem]) ?_ ?_ ?_ ?_ ?_ ?_ ?_ ?_ <;> simp [go_sem]
 clear b1 d1
 have tx := Z1; obtain ⟨cZ_b, cZ_f, cZ_0, cZ_1, cZ_2, cZ_3, cZ_4, cZ_5, cZ_6, cZ_7⟩ := tx
 go_wp2_with fail
 clear cZ_b cZ_f cZ_0 cZ_1 cZ_2 cZ_3 cZ_4 cZ_5 cZ_6 cZ_7
 refine (erbeg_any y0 _).mono ?_; rintro e w2 ⟨rfl, b2⟩
 have d2 : Below w1.heap.size w1 w2 := below_step gr0 b2
 have B2 := Lib.hid (below_step B1.out d2)
 have Z2 := Z1.keep d2
 clear Z1 b2 d2 B1
 clear g0 g1 g2
 obtain ⟨g0, g1, g2⟩ := HC.out _ B2.out
 have hqk := Nat.lt_of_lt_of_le hq B2.out.size
 have tx := Z2; obtain ⟨cZ_b, cZ_f, cZ_0, cZ_1, cZ_2, cZ_3, cZ_4, cZ_5, cZ_6, cZ_7⟩ := tx
 go_wp2_with fail
 clear cZ_b cZ_f cZ_0 cZ_1 cZ_2 cZ_3 cZ_4 cZ_5 cZ_6 cZ_7
 refine (MO.out _ (HL.out _ (below_step B2.out gr0))).mono ?_; rintro e w3 ⟨rfl, b3⟩
 have d3 : Below w2.heap.size w2 w3 := below_step gr0 b3
 have B3 := Lib.hid (below_step B2.out d3)
 have Z3 := Z2.keep d3
 have aUU := B2.out.size
 have nUUZ := Nat.ne_of_lt Z2.hb
 have oUUZ := Nat.ne_of_gt Z2.hb
 have UU3 : Bk8 w3 (w2.heap.size) (.bool true) (.int .i64 y0) (.int .i64 1) (.int .i64 0) (.int .i64 0) (.int .i64 1) (.int .i64 0) (.int .i64 0) := by refine Bk8.of b3 (by simp <;> omega) (by intro j; simp [go_sem]) ?_ ?_ ?_ ?_ ?_ ?_ ?_ ?_ <;> simp [go_sem]
 clear Z2 b3 d3 B2
 clear g0 g1 g2
 obtain ⟨g0, g1, g2⟩ := HC.out _ B3.out
 by_cases h1 : q1 = 0
 case neg =>
  obtain rfl : F = q1 := by rw [HF.out]; simp [Ru.fst, h1]
  have tx := Z3; obtain ⟨cZ_b, cZ_f, cZ_0, cZ_1, cZ_2, cZ_3, cZ_4, cZ_5, cZ_6, cZ_7⟩ := tx
  have tx := UU3; obtain ⟨cUU_b, cUU_f, cUU_0, cUU_1, cUU_2, cUU_3, cUU_4, cUU_5, cUU_6, cUU_7⟩ := tx
  go_wp2_with fail
  clear cZ_b cZ_f cZ_0 cZ_1 cZ_2 cZ_3 cZ_4 cZ_5 cZ_6 cZ_7 cUU_b cUU_f cUU_0 cUU_1 cUU_2 cUU_3 cUU_4 cUU_5 cUU_6 cUU_7
  refine (muti_no _ _ _ h1).mono ?_; rintro e v ⟨rfl, rfl⟩
  refine (show bodyPost _ _ _ (Exit.panic _) _ _ from ?_); simp only [bodyPost]
  exact ⟨trivial, (grB B3), .inr ⟨h1, by first | rfl | trivial⟩⟩
 subst h1
 have tx := Z3; obtain ⟨cZ_b, cZ_f, cZ_0, cZ_1, cZ_2, cZ_3, cZ_4, cZ_5, cZ_6, cZ_7⟩ := tx
 have tx := UU3; obtain ⟨cUU_b, cUU_f, cUU_0, cUU_1, cUU_2, cUU_3, cUU_4, cUU_5, cUU_6, cUU_7⟩ := tx
 go_wp2_with fail
 refine (muti_yes _ _).mono ?_; rintro e v ⟨rfl, rfl⟩
 go_wp2_with fail
 refine (DR.out _ (HL.out _ (grB B3))).mono ?_; rintro e w4 ⟨rfl, b4⟩
 have hz := B3.out.size
 have B4 := Lib.hid (show Below w.heap.size w w4 from below_step (by repeat (first | exact B3.out | refine below_drewN ?_ _ | refine Below.drew ?_ | refine Below.setCell ?_ (by simp <;> omega) _ | refine Below.alloc ?_ (by simp <;> omega) _)) b4)
 have Z4 : Bk8 w4 (w.heap.size) (.bool false) (.int .i64 0) (.int .i64 0) (.int .i64 0) (.int .i64 0) (.int .i64 0) (.int .i64 0) (.int .i64 0) := by refine Bk8.of b4 (by simp <;> omega) (by intro j; simp [go_sem, cZ_b, cZ_f, cZ_0, cZ_1, cZ_2, cZ_3, cZ_4, cZ_5, cZ_6, cZ_7, cUU_b, cUU_f, cUU_0, cUU_1, cUU_2, cUU_3, cUU_4, cUU_5, cUU_6, cUU_7, nUUZ, oUUZ]) ?_ ?_ ?_ ?_ ?_ ?_ ?_ ?_ <;> simp [go_sem, cZ_b, cZ_f, cZ_0, cZ_1, cZ_2, cZ_3, cZ_4, cZ_5, cZ_6, cZ_7, cUU_b, cUU_f, cUU_0, cUU_1, cUU_2, cUU_3, cUU_4, cUU_5, cUU_6, cUU_7, nUUZ, oUUZ]
 have UU4 : Bk8 w4 (w2.heap.size) (.bool true) (.int .i64 y0) (.int .i64 m) (.int .i64 0) (.int .i64 0) (.int .i64 1) (.int .i64 0) (.int .i64 0) := by refine Bk8.of b4 (by simp <;> omega) (by intro j; simp [go_sem, cZ_b, cZ_f, cZ_0, cZ_1, cZ_2, cZ_3, cZ_4, cZ_5, cZ_6, cZ_7, cUU_b, cUU_f, cUU_0, cUU_1, cUU_2, cUU_3, cUU_4, cUU_5, cUU_6, cUU_7, nUUZ, oUUZ]) ?_ ?_ ?_ ?_ ?_ ?_ ?_ ?_ <;> simp [go_sem, cZ_b, cZ_f, cZ_0, cZ_1, cZ_2, cZ_3, cZ_4, cZ_5, cZ_6, cZ_7, cUU_b, cUU_f, cUU_0, cUU_1, cUU_2, cUU_3, cUU_4, cUU_5, cUU_6, cUU_7, nUUZ, oUUZ]
 clear b4 hz B3 Z3 UU3 cZ_b cZ_f cZ_0 cZ_1 cZ_2 cZ_3 cZ_4 cZ_5 cZ_6 cZ_7 cUU_b cUU_f cUU_0 cUU_1 cUU_2 cUU_3 cUU_4 cUU_5 cUU_6 cUU_7
 clear g0 g1 g2
 obtain ⟨g0, g1, g2⟩ := HC.out _ B4.out
 by_cases h2 : q2 = 0
 case neg =>
  obtain rfl : F = q2 := by rw [HF.out]; simp [Ru.fst, Ru.dyF, h2]
  have tx := Z4; obtain ⟨cZ_b, cZ_f, cZ_0, cZ_1, cZ_2, cZ_3, cZ_4, cZ_5, cZ_6, cZ_7⟩ := tx
  have tx := UU4; obtain ⟨cUU_b, cUU_f, cUU_0, cUU_1, cUU_2, cUU_3, cUU_4, cUU_5, cUU_6, cUU_7⟩ := tx
  go_wp2_with fail
  clear cZ_b cZ_f cZ_0 cZ_1 cZ_2 cZ_3 cZ_4 cZ_5 cZ_6 cZ_7 cUU_b cUU_f cUU_0 cUU_1 cUU_2 cUU_3 cUU_4 cUU_5 cUU_6 cUU_7
  refine (musto_no _ _ _ _ _ h2).mono ?_; rintro e v ⟨rfl, b⟩
  refine (show bodyPost _ _ _ (Exit.panic _) _ _ from ?_); simp only [bodyPost]
  exact ⟨trivial, below_step (grB B4) b, .inr ⟨h2, by first | rfl | trivial⟩⟩
 subst h2
 have tx := Z4; obtain ⟨cZ_b, cZ_f, cZ_0, cZ_1, cZ_2, cZ_3, cZ_4, cZ_5, cZ_6, cZ_7⟩ := tx
 have tx := UU4; obtain ⟨cUU_b, cUU_f, cUU_0, cUU_1, cUU_2, cUU_3, cUU_4, cUU_5, cUU_6, cUU_7⟩ := tx
 go_wp2_with fail
 clear cZ_b cZ_f cZ_0 cZ_1 cZ_2 cZ_3 cZ_4 cZ_5 cZ_6 cZ_7 cUU_b cUU_f cUU_0 cUU_1 cUU_2 cUU_3 cUU_4 cUU_5 cUU_6 cUU_7
 refine (musto_yes k wk d _).mono ?_; rintro e w5 ⟨rfl, b5⟩
 have d5 : Below w4.heap.size w4 w5 := below_step gr0 b5
 have B5 := Lib.hid (below_step B4.out d5)
 have Z5 := Z4.keep d5
 have UU5 := UU4.keep d5
 clear Z4 UU4 b5 d5 B4
 clear g0 g1 g2
 obtain ⟨g0, g1, g2⟩ := HC.out _ B5.out
 have tx := Z5; obtain ⟨cZ_b, cZ_f, cZ_0, cZ_1, cZ_2, cZ_3, cZ_4, cZ_5, cZ_6, cZ_7⟩ := tx
 have tx := UU5; obtain ⟨cUU_b, cUU_f, cUU_0, cUU_1, cUU_2, cUU_3, cUU_4, cUU_5, cUU_6, cUU_7⟩ := tx
 go_wp2_with fail
 refine (OF.out _).mono ?_; rintro e w6 ⟨rfl, b6⟩
 have hz := B5.out.size
 have B6 := Lib.hid (show Below w.heap.size w w6 from below_step (by repeat (first | exact B5.out | refine below_drewN ?_ _ | refine Below.drew ?_ | refine Below.setCell ?_ (by simp <;> omega) _ | refine Below.alloc ?_ (by simp <;> omega) _)) b6)
 have Z6 : Bk8 w6 (w.heap.size) (.bool false) (.int .i64 0) (.int .i64 0) (.int .i64 0) (.int .i64 0) (.int .i64 0) (.int .i64 0) (.int .i64 0) := by refine Bk8.of b6 (by simp <;> omega) (by intro j; simp [go_sem, cZ_b, cZ_f, cZ_0, cZ_1, cZ_2, cZ_3, cZ_4, cZ_5, cZ_6, cZ_7, cUU_b, cUU_f, cUU_0, cUU_1, cUU_2, cUU_3, cUU_4, cUU_5, cUU_6, cUU_7, nUUZ, oUUZ]) ?_ ?_ ?_ ?_ ?_ ?_ ?_ ?_ <;> simp [go_sem, cZ_b, cZ_f, cZ_0, cZ_1, cZ_2, cZ_3, cZ_4, cZ_5, cZ_6, cZ_7, cUU_b, cUU_f, cUU_0, cUU_1, cUU_2, cUU_3, cUU_4, cUU_5, cUU_6, cUU_7, nUUZ, oUUZ]
 have UU6 : Bk8 w6 (w2.heap.size) (.bool true) (.int .i64 y0) (.int .i64 m) (.int .i64 k) (.int .i64 wk) (.int .i64 d) (.int .i64 0) (.int .i64 0) := by refine Bk8.of b6 (by simp <;> omega) (by intro j; simp [go_sem, cZ_b, cZ_f, cZ_0, cZ_1, cZ_2, cZ_3, cZ_4, cZ_5, cZ_6, cZ_7, cUU_b, cUU_f, cUU_0, cUU_1, cUU_2, cUU_3, cUU_4, cUU_5, cUU_6, cUU_7, nUUZ, oUUZ]) ?_ ?_ ?_ ?_ ?_ ?_ ?_ ?_ <;> simp [go_sem, cZ_b, cZ_f, cZ_0, cZ_1, cZ_2, cZ_3, cZ_4, cZ_5, cZ_6, cZ_7, cUU_b, cUU_f, cUU_0, cUU_1, cUU_2, cUU_3, cUU_4, cUU_5, cUU_6, cUU_7, nUUZ, oUUZ]
 clear b6 hz B5 Z5 UU5 cZ_b cZ_f cZ_0 cZ_1 cZ_2 cZ_3 cZ_4 cZ_5 cZ_6 cZ_7 cUU_b cUU_f cUU_0 cUU_1 cUU_2 cUU_3 cUU_4 cUU_5 cUU_6 cUU_7
 clear g0 g1 g2
 obtain ⟨g0, g1, g2⟩ := HC.out _ B6.out
 have tx := Z6; obtain ⟨cZ_b, cZ_f, cZ_0, cZ_1, cZ_2, cZ_3, cZ_4, cZ_5, cZ_6, cZ_7⟩ := tx
 have tx := UU6; obtain ⟨cUU_b, cUU_f, cUU_0, cUU_1, cUU_2, cUU_3, cUU_4, cUU_5, cUU_6, cUU_7⟩ := tx
 cases o
 case false =>
  have e5 : Ru.dyF k wk d 0 m = (0, 0, 0, 1) := by unfold Ru.dyF; rw [← HO.out]; rfl
  obtain rfl : F = 1 := by rw [HF.out, e5]; simp [Ru.fst]
  go_wp2_with fail
  refine (need_no 1 _).mono ?_; rintro e v ⟨rfl, rfl⟩
  refine (show bodyPost _ _ _ (Exit.panic _) _ _ from ?_); simp only [bodyPost]
  exact ⟨trivial, (grB B6), .inr ⟨by decide, by first | rfl | trivial⟩⟩
 have e5 : Ru.dyF k wk d 0 m = (k, wk, d, 0) := by unfold Ru.dyF; rw [← HO.out]; rfl
 rw [e5] at HF
 have E5 := Lib.hid e5
 clear e5
 go_wp2_with fail
 refine (need_yes 1 _).mono ?_; rintro e v ⟨rfl, rfl⟩
 go_upto_region 11 with (fail)
 clear cZ_b cZ_f cZ_0 cZ_1 cZ_2 cZ_3 cZ_4 cZ_5 cZ_6 cZ_7 cUU_b cUU_f cUU_0 cUU_1 cUU_2 cUU_3 cUU_4 cUU_5 cUU_6 cUU_7
 obtain rfl : F = 0 := by rw [HF.out]; simp [Ru.fst]
 clear g0 g1 g2
 have tx := Z6; obtain ⟨cZ_b, cZ_f, cZ_0, cZ_1, cZ_2, cZ_3, cZ_4, cZ_5, cZ_6, cZ_7⟩ := tx
 have tx := UU6; obtain ⟨cUU_b, cUU_f, cUU_0, cUU_1, cUU_2, cUU_3, cUU_4, cUU_5, cUU_6, cUU_7⟩ := tx
 refine wp_region_lit ?_
 go_step; go_simp; go_step
 clear cZ_b cZ_f cZ_0 cZ_1 cZ_2 cZ_3 cZ_4 cZ_5 cZ_6 cZ_7 cUU_b cUU_f cUU_0 cUU_1 cUU_2 cUU_3 cUU_4 cUU_5 cUU_6 cUU_7
 refine wpList_st8 ?_ 29 (Operand.tmp 2) (Operand.tmp 52) ?_ w.heap.size (.bool true) (.int .i64 y0) (.int .i64 m) (.int .i64 k) (.int .i64 wk) (.int .i64 d) (.int .i64 0) (.int .i64 0) ?_ ?_ ?_ Z6 ?_ (fun W9 C hbel => ?_)
 ·
  rfl
 ·
  rfl
 ·
  rfl
 ·
  rfl
 ·
  kernel_rfl
 ·
  simp [Value.oneCell']
 have d9 := hbel _ _ (Nat.le_refl _) B6.out
 clear hbel UU6 Z6
 have e0 := C.k0; have e1 := C.k1; have e2 := C.k2; have e3 := C.k3; have e4 := C.k4; have e5 := C.k5; have e6 := C.k6; have e7 := C.k7
 clear C
 go_step
 go_simp
 go_step
 go_step
 simp +zetaDelta only [Exit.then, Exit.inBlock]
 exact bodyPost_ret (v := .agg #[.bool true, .int .i64 y0, .int .i64 m, .int .i64 k, .int .i64 wk, .int .i64 d, .int .i64 0, .int .i64 0]) (by simp [results, Tryz.results84, go_sem, e0, e1, e2, e3, e4, e5, e6, e7]) rfl ⟨d9, .inl ⟨by first | rfl | trivial, by rw [E5.out]⟩⟩
set_option maxHeartbeats 8000000 in
set_option maxRecDepth 100000 in
theorem eren_4 (v : Value) (f0 f1 f2 f3 : ByteArray) (w : World) (S : StS w v [f0, f1, f2, f3]) (hz : ∀ x ∈ ([f0, f1, f2, f3] : List ByteArray), x.size ≤ 600) (tp : TypeId) (p : Value) (y : Int) (L : Ru.Lv w tp p y) :
  Calls Tryz.prog 84 #[v] w fun e w' => Below w.heap.size w w' ∧ ((Ru.fst (Er.enW [f0, f1, f2, f3]) = 0 ∧ e = .returned (Er.enV [f0, f1, f2, f3]).v) ∨ (Ru.fst (Er.enW [f0, f1, f2, f3]) ≠ 0 ∧ e = .panicked (gvP (Ru.fst (Er.enW [f0, f1, f2, f3]))))) := by
 have z0 := hz f0 (by simp); have z1 := hz f1 (by simp); have z2 := hz f2 (by simp); have z3 := hz f3 (by simp)
 have YE := Lib.hid (fun W (h : Ru.Lv W tp p y) => eryr_any f0 W z0 tp p h.rng)
 have HL := Lib.hid (fun W (b : Below w.heap.size w W) => L.on b)
 have MO := Lib.hid (fun W (h : Ru.Lv W tp p y) => month_any f1 W (Nat.le_trans z1 (by decide)) h.mon)
 have DR := Lib.hid (fun W (h : Ru.Lv W tp p y) => dRead_any f2 W (by omega) tp p h.rng h.days)
 have CR := Lib.hid (fun W (h : Ru.Lv W tp p y) => clread_any f3 W y (by omega) h.ltr h.mx)
 obtain ⟨A, c, rfl, hA⟩ := S
 obtain ⟨q, rfl, hq, hcell⟩ := hA (by simp)
 have HC : Hid (∀ W, Below w.heap.size w W → W.cell? q = some (.string f0) ∧ W.cell? ⟨q.block, q.off + 1, none⟩ = some (.string f1) ∧ W.cell? ⟨q.block, q.off + 2, none⟩ = some (.string f2) ∧ W.cell? ⟨q.block, q.off + 3, none⟩ = some (.string f3)) := fun W b => by
  have k : ∀ i x, ([f0, f1, f2, f3].map Value.string)[i]? = some x → W.cell? (q.add i) = some x := fun i x hx => by
   have := hcell i x hx
   exact (b.cell (by rw [blk_add]; exact hq)).trans this
  have k0 := k 0 _ rfl
  rw [Addr.add_zero'] at k0
  have kk : ∀ i, q.add (i + 1) = ⟨q.block, q.off + (i + 1), none⟩ := fun i => by rw [Addr.add_succ']
  have k1 := k 1 _ rfl; rw [kk 0] at k1
  have k2 := k 2 _ rfl; rw [kk 1] at k2
  have k3 := k 3 _ rfl; rw [kk 2] at k3
  exact ⟨k0, k1, k2, k3⟩
 have n1 : q.block ≠ w.heap.size := Nat.ne_of_lt hq
 have n3 : w.heap.size ≠ q.block := Nat.ne_of_gt hq
 clear hcell L hz z0 z1 z2 z3 hA
 obtain ⟨F, hF⟩ : ∃ F, F = Ru.fst (Er.enW [f0, f1, f2, f3]) := ⟨_, rfl⟩
 rw [← hF]
 replace hF : F = Ru.fst [(Er.yr f0.data.toList).2, (Wd.mat f1.data.toList Wd.months).2, (Ru.dy f2.data.toList (Ru.mo f1)).2.2.2, (Cl.rd f3).2.2] := hF
 rw [show (Er.enV [f0, f1, f2, f3]).v = .agg #[.bool true, .int .i64 ((Er.yr f0.data.toList).1), .int .i64 (Ru.mo f1), .int .i64 ((Ru.dy f2.data.toList (Ru.mo f1)).1), .int .i64 ((Ru.dy f2.data.toList (Ru.mo f1)).2.1), .int .i64 ((Ru.dy f2.data.toList (Ru.mo f1)).2.2.1), .int .i64 ((Cl.rd f3).1), .int .i64 ((Cl.rd f3).2.1)] from rfl]
 simp only [Ru.mo] at hF ⊢
 unfold Ru.dy at hF ⊢
 generalize (Er.yr f0.data.toList).1 = y0 at *
 generalize (Er.yr f0.data.toList).2 = q0 at *
 generalize Wd.up (Wd.mat f1.data.toList Wd.months) = m at *
 generalize (Wd.mat f1.data.toList Wd.months).2 = q1 at *
 generalize (Ds.rd f2.data.toList).1 = k at *
 generalize (Ds.rd f2.data.toList).2.1 = wk at *
 generalize (Ds.rd f2.data.toList).2.2.1 = d at *
 generalize (Ds.rd f2.data.toList).2.2.2 = q2 at *
 generalize (Cl.rd f3).1 = sec at *
 generalize (Cl.rd f3).2.1 = base at *
 generalize (Cl.rd f3).2.2 = q3 at *
 have HF := Lib.hid hF; clear hF
 have OF := Lib.hid (fun W => ofits_any k wk d m W)
 obtain ⟨o, ho⟩ : ∃ o, o = Dr.onF k wk d m := ⟨_, rfl⟩
 rw [← ho] at OF
 have HO := Lib.hid ho; clear ho
 go_enter Tryz.func84, Tryz.ntmps84
 obtain ⟨g0, g1, g2, g3⟩ := HC.out _ (Below.refl _ _)
 by_cases h0 : q0 = 0
 case neg =>
  obtain rfl : F = q0 := by rw [HF.out]; exact Ru.fst_no h0
  go_wp2_with fail
  refine (YE.out _ (HL.out _ gr0)).mono ?_; rintro e w1 a
  obtain ⟨rfl, b1⟩ := ansP_no h0 a
  refine (show bodyPost _ _ _ (Exit.panic _) _ _ from ?_); simp only [bodyPost]
  exact ⟨trivial, below_step gr0 b1, .inr ⟨h0, by first | rfl | trivial⟩⟩
 subst h0
 go_wp2_with fail
 refine ((YE.out _ (HL.out _ gr0)).mono fun _ _ a => ansT a).mono ?_; rintro e w1 ⟨rfl, b1⟩
 have d1 : Below w.heap.size w w1 := below_step gr0 b1
 have B1 := Lib.hid d1
 have Z1 : Bk8 w1 (w.heap.size) (.bool false) (.int .i64 0) (.int .i64 0) (.int .i64 0) (.int .i64 0) (.int .i64 0) (.int .i64 0) (.int .i64 0) := by refine Bk8.of b1 (by simp <;> omega) (by intro j; simp [go_sem]) ?_ ?_ ?_ ?_ ?_ ?_ ?_ ?_ <;> simp [go_sem]
 clear b1 d1
 have tx := Z1; obtain ⟨cZ_b, cZ_f, cZ_0, cZ_1, cZ_2, cZ_3, cZ_4, cZ_5, cZ_6, cZ_7⟩ := tx
 go_wp2_with fail
 clear cZ_b cZ_f cZ_0 cZ_1 cZ_2 cZ_3 cZ_4 cZ_5 cZ_6 cZ_7
 refine (erbeg_any y0 _).mono ?_; rintro e w2 ⟨rfl, b2⟩
 have d2 : Below w1.heap.size w1 w2 := below_step gr0 b2
 have B2 := Lib.hid (below_step B1.out d2)
 have Z2 := Z1.keep d2
 clear Z1 b2 d2 B1
 clear g0 g1 g2 g3
 obtain ⟨g0, g1, g2, g3⟩ := HC.out _ B2.out
 have hqk := Nat.lt_of_lt_of_le hq B2.out.size
 have tx := Z2; obtain ⟨cZ_b, cZ_f, cZ_0, cZ_1, cZ_2, cZ_3, cZ_4, cZ_5, cZ_6, cZ_7⟩ := tx
 go_wp2_with fail
 clear cZ_b cZ_f cZ_0 cZ_1 cZ_2 cZ_3 cZ_4 cZ_5 cZ_6 cZ_7
 refine (MO.out _ (HL.out _ (below_step B2.out gr0))).mono ?_; rintro e w3 ⟨rfl, b3⟩
 have d3 : Below w2.heap.size w2 w3 := below_step gr0 b3
 have B3 := Lib.hid (below_step B2.out d3)
 have Z3 := Z2.keep d3
 have aUU := B2.out.size
 have nUUZ := Nat.ne_of_lt Z2.hb
 have oUUZ := Nat.ne_of_gt Z2.hb
 have UU3 : Bk8 w3 (w2.heap.size) (.bool true) (.int .i64 y0) (.int .i64 1) (.int .i64 0) (.int .i64 0) (.int .i64 1) (.int .i64 0) (.int .i64 0) := by refine Bk8.of b3 (by simp <;> omega) (by intro j; simp [go_sem]) ?_ ?_ ?_ ?_ ?_ ?_ ?_ ?_ <;> simp [go_sem]
 clear Z2 b3 d3 B2
 clear g0 g1 g2 g3
 obtain ⟨g0, g1, g2, g3⟩ := HC.out _ B3.out
 by_cases h1 : q1 = 0
 case neg =>
  obtain rfl : F = q1 := by rw [HF.out]; simp [Ru.fst, h1]
  have tx := Z3; obtain ⟨cZ_b, cZ_f, cZ_0, cZ_1, cZ_2, cZ_3, cZ_4, cZ_5, cZ_6, cZ_7⟩ := tx
  have tx := UU3; obtain ⟨cUU_b, cUU_f, cUU_0, cUU_1, cUU_2, cUU_3, cUU_4, cUU_5, cUU_6, cUU_7⟩ := tx
  go_wp2_with fail
  clear cZ_b cZ_f cZ_0 cZ_1 cZ_2 cZ_3 cZ_4 cZ_5 cZ_6 cZ_7 cUU_b cUU_f cUU_0 cUU_1 cUU_2 cUU_3 cUU_4 cUU_5 cUU_6 cUU_7
  refine (muti_no _ _ _ h1).mono ?_; rintro e v ⟨rfl, rfl⟩
  refine (show bodyPost _ _ _ (Exit.panic _) _ _ from ?_); simp only [bodyPost]
  exact ⟨trivial, (grB B3), .inr ⟨h1, by first | rfl | trivial⟩⟩
 subst h1
 have tx := Z3; obtain ⟨cZ_b, cZ_f, cZ_0, cZ_1, cZ_2, cZ_3, cZ_4, cZ_5, cZ_6, cZ_7⟩ := tx
 have tx := UU3; obtain ⟨cUU_b, cUU_f, cUU_0, cUU_1, cUU_2, cUU_3, cUU_4, cUU_5, cUU_6, cUU_7⟩ := tx
 go_wp2_with fail
 refine (muti_yes _ _).mono ?_; rintro e v ⟨rfl, rfl⟩
 go_wp2_with fail
 refine (DR.out _ (HL.out _ (grB B3))).mono ?_; rintro e w4 ⟨rfl, b4⟩
 have hz := B3.out.size
 have B4 := Lib.hid (show Below w.heap.size w w4 from below_step (by repeat (first | exact B3.out | refine below_drewN ?_ _ | refine Below.drew ?_ | refine Below.setCell ?_ (by simp <;> omega) _ | refine Below.alloc ?_ (by simp <;> omega) _)) b4)
 have Z4 : Bk8 w4 (w.heap.size) (.bool false) (.int .i64 0) (.int .i64 0) (.int .i64 0) (.int .i64 0) (.int .i64 0) (.int .i64 0) (.int .i64 0) := by refine Bk8.of b4 (by simp <;> omega) (by intro j; simp [go_sem, cZ_b, cZ_f, cZ_0, cZ_1, cZ_2, cZ_3, cZ_4, cZ_5, cZ_6, cZ_7, cUU_b, cUU_f, cUU_0, cUU_1, cUU_2, cUU_3, cUU_4, cUU_5, cUU_6, cUU_7, nUUZ, oUUZ]) ?_ ?_ ?_ ?_ ?_ ?_ ?_ ?_ <;> simp [go_sem, cZ_b, cZ_f, cZ_0, cZ_1, cZ_2, cZ_3, cZ_4, cZ_5, cZ_6, cZ_7, cUU_b, cUU_f, cUU_0, cUU_1, cUU_2, cUU_3, cUU_4, cUU_5, cUU_6, cUU_7, nUUZ, oUUZ]
 have UU4 : Bk8 w4 (w2.heap.size) (.bool true) (.int .i64 y0) (.int .i64 m) (.int .i64 0) (.int .i64 0) (.int .i64 1) (.int .i64 0) (.int .i64 0) := by refine Bk8.of b4 (by simp <;> omega) (by intro j; simp [go_sem, cZ_b, cZ_f, cZ_0, cZ_1, cZ_2, cZ_3, cZ_4, cZ_5, cZ_6, cZ_7, cUU_b, cUU_f, cUU_0, cUU_1, cUU_2, cUU_3, cUU_4, cUU_5, cUU_6, cUU_7, nUUZ, oUUZ]) ?_ ?_ ?_ ?_ ?_ ?_ ?_ ?_ <;> simp [go_sem, cZ_b, cZ_f, cZ_0, cZ_1, cZ_2, cZ_3, cZ_4, cZ_5, cZ_6, cZ_7, cUU_b, cUU_f, cUU_0, cUU_1, cUU_2, cUU_3, cUU_4, cUU_5, cUU_6, cUU_7, nUUZ, oUUZ]
 clear b4 hz B3 Z3 UU3 cZ_b cZ_f cZ_0 cZ_1 cZ_2 cZ_3 cZ_4 cZ_5 cZ_6 cZ_7 cUU_b cUU_f cUU_0 cUU_1 cUU_2 cUU_3 cUU_4 cUU_5 cUU_6 cUU_7
 clear g0 g1 g2 g3
 obtain ⟨g0, g1, g2, g3⟩ := HC.out _ B4.out
 by_cases h2 : q2 = 0
 case neg =>
  obtain rfl : F = q2 := by rw [HF.out]; simp [Ru.fst, Ru.dyF, h2]
  have tx := Z4; obtain ⟨cZ_b, cZ_f, cZ_0, cZ_1, cZ_2, cZ_3, cZ_4, cZ_5, cZ_6, cZ_7⟩ := tx
  have tx := UU4; obtain ⟨cUU_b, cUU_f, cUU_0, cUU_1, cUU_2, cUU_3, cUU_4, cUU_5, cUU_6, cUU_7⟩ := tx
  go_wp2_with fail
  clear cZ_b cZ_f cZ_0 cZ_1 cZ_2 cZ_3 cZ_4 cZ_5 cZ_6 cZ_7 cUU_b cUU_f cUU_0 cUU_1 cUU_2 cUU_3 cUU_4 cUU_5 cUU_6 cUU_7
  refine (musto_no _ _ _ _ _ h2).mono ?_; rintro e v ⟨rfl, b⟩
  refine (show bodyPost _ _ _ (Exit.panic _) _ _ from ?_); simp only [bodyPost]
  exact ⟨trivial, below_step (grB B4) b, .inr ⟨h2, by first | rfl | trivial⟩⟩
 subst h2
 have tx := Z4; obtain ⟨cZ_b, cZ_f, cZ_0, cZ_1, cZ_2, cZ_3, cZ_4, cZ_5, cZ_6, cZ_7⟩ := tx
 have tx := UU4; obtain ⟨cUU_b, cUU_f, cUU_0, cUU_1, cUU_2, cUU_3, cUU_4, cUU_5, cUU_6, cUU_7⟩ := tx
 go_wp2_with fail
 clear cZ_b cZ_f cZ_0 cZ_1 cZ_2 cZ_3 cZ_4 cZ_5 cZ_6 cZ_7 cUU_b cUU_f cUU_0 cUU_1 cUU_2 cUU_3 cUU_4 cUU_5 cUU_6 cUU_7
 refine (musto_yes k wk d _).mono ?_; rintro e w5 ⟨rfl, b5⟩
 have d5 : Below w4.heap.size w4 w5 := below_step gr0 b5
 have B5 := Lib.hid (below_step B4.out d5)
 have Z5 := Z4.keep d5
 have UU5 := UU4.keep d5
 clear Z4 UU4 b5 d5 B4
 clear g0 g1 g2 g3
 obtain ⟨g0, g1, g2, g3⟩ := HC.out _ B5.out
 have tx := Z5; obtain ⟨cZ_b, cZ_f, cZ_0, cZ_1, cZ_2, cZ_3, cZ_4, cZ_5, cZ_6, cZ_7⟩ := tx
 have tx := UU5; obtain ⟨cUU_b, cUU_f, cUU_0, cUU_1, cUU_2, cUU_3, cUU_4, cUU_5, cUU_6, cUU_7⟩ := tx
 go_wp2_with fail
 refine (OF.out _).mono ?_; rintro e w6 ⟨rfl, b6⟩
 have hz := B5.out.size
 have B6 := Lib.hid (show Below w.heap.size w w6 from below_step (by repeat (first | exact B5.out | refine below_drewN ?_ _ | refine Below.drew ?_ | refine Below.setCell ?_ (by simp <;> omega) _ | refine Below.alloc ?_ (by simp <;> omega) _)) b6)
 have Z6 : Bk8 w6 (w.heap.size) (.bool false) (.int .i64 0) (.int .i64 0) (.int .i64 0) (.int .i64 0) (.int .i64 0) (.int .i64 0) (.int .i64 0) := by refine Bk8.of b6 (by simp <;> omega) (by intro j; simp [go_sem, cZ_b, cZ_f, cZ_0, cZ_1, cZ_2, cZ_3, cZ_4, cZ_5, cZ_6, cZ_7, cUU_b, cUU_f, cUU_0, cUU_1, cUU_2, cUU_3, cUU_4, cUU_5, cUU_6, cUU_7, nUUZ, oUUZ]) ?_ ?_ ?_ ?_ ?_ ?_ ?_ ?_ <;> simp [go_sem, cZ_b, cZ_f, cZ_0, cZ_1, cZ_2, cZ_3, cZ_4, cZ_5, cZ_6, cZ_7, cUU_b, cUU_f, cUU_0, cUU_1, cUU_2, cUU_3, cUU_4, cUU_5, cUU_6, cUU_7, nUUZ, oUUZ]
 have UU6 : Bk8 w6 (w2.heap.size) (.bool true) (.int .i64 y0) (.int .i64 m) (.int .i64 k) (.int .i64 wk) (.int .i64 d) (.int .i64 0) (.int .i64 0) := by refine Bk8.of b6 (by simp <;> omega) (by intro j; simp [go_sem, cZ_b, cZ_f, cZ_0, cZ_1, cZ_2, cZ_3, cZ_4, cZ_5, cZ_6, cZ_7, cUU_b, cUU_f, cUU_0, cUU_1, cUU_2, cUU_3, cUU_4, cUU_5, cUU_6, cUU_7, nUUZ, oUUZ]) ?_ ?_ ?_ ?_ ?_ ?_ ?_ ?_ <;> simp [go_sem, cZ_b, cZ_f, cZ_0, cZ_1, cZ_2, cZ_3, cZ_4, cZ_5, cZ_6, cZ_7, cUU_b, cUU_f, cUU_0, cUU_1, cUU_2, cUU_3, cUU_4, cUU_5, cUU_6, cUU_7, nUUZ, oUUZ]
 clear b6 hz B5 Z5 UU5 cZ_b cZ_f cZ_0 cZ_1 cZ_2 cZ_3 cZ_4 cZ_5 cZ_6 cZ_7 cUU_b cUU_f cUU_0 cUU_1 cUU_2 cUU_3 cUU_4 cUU_5 cUU_6 cUU_7
 clear g0 g1 g2 g3
 obtain ⟨g0, g1, g2, g3⟩ := HC.out _ B6.out
 have tx := Z6; obtain ⟨cZ_b, cZ_f, cZ_0, cZ_1, cZ_2, cZ_3, cZ_4, cZ_5, cZ_6, cZ_7⟩ := tx
 have tx := UU6; obtain ⟨cUU_b, cUU_f, cUU_0, cUU_1, cUU_2, cUU_3, cUU_4, cUU_5, cUU_6, cUU_7⟩ := tx
 cases o
 case false =>
  have e5 : Ru.dyF k wk d 0 m = (0, 0, 0, 1) := by unfold Ru.dyF; rw [← HO.out]; rfl
  obtain rfl : F = 1 := by rw [HF.out, e5]; simp [Ru.fst]
  go_wp2_with fail
  refine (need_no 1 _).mono ?_; rintro e v ⟨rfl, rfl⟩
  refine (show bodyPost _ _ _ (Exit.panic _) _ _ from ?_); simp only [bodyPost]
  exact ⟨trivial, (grB B6), .inr ⟨by decide, by first | rfl | trivial⟩⟩
 have e5 : Ru.dyF k wk d 0 m = (k, wk, d, 0) := by unfold Ru.dyF; rw [← HO.out]; rfl
 rw [e5] at HF
 have E5 := Lib.hid e5
 clear e5
 go_wp2_with fail
 refine (need_yes 1 _).mono ?_; rintro e v ⟨rfl, rfl⟩
 go_wp2_with fail
 clear cZ_b cZ_f cZ_0 cZ_1 cZ_2 cZ_3 cZ_4 cZ_5 cZ_6 cZ_7 cUU_b cUU_f cUU_0 cUU_1 cUU_2 cUU_3 cUU_4 cUU_5 cUU_6 cUU_7
 refine (CR.out _ (HL.out _ (grB B6))).mono ?_; rintro e w7 ⟨rfl, b7⟩
 have d7 : Below w6.heap.size w6 w7 := below_step gr0 b7
 have B7 := Lib.hid (below_step B6.out d7)
 have Z7 := Z6.keep d7
 have UU7 := UU6.keep d7
 clear Z6 UU6 b7 d7 B6
 by_cases h3 : q3 = 0
 case neg =>
  obtain rfl : F = q3 := by rw [HF.out]; simp [Ru.fst, h3]
  have tx := Z7; obtain ⟨cZ_b, cZ_f, cZ_0, cZ_1, cZ_2, cZ_3, cZ_4, cZ_5, cZ_6, cZ_7⟩ := tx
  have tx := UU7; obtain ⟨cUU_b, cUU_f, cUU_0, cUU_1, cUU_2, cUU_3, cUU_4, cUU_5, cUU_6, cUU_7⟩ := tx
  go_wp2_with fail
  clear cZ_b cZ_f cZ_0 cZ_1 cZ_2 cZ_3 cZ_4 cZ_5 cZ_6 cZ_7 cUU_b cUU_f cUU_0 cUU_1 cUU_2 cUU_3 cUU_4 cUU_5 cUU_6 cUU_7
  refine (musta_no _ _ _ _ h3).mono ?_; rintro e v ⟨rfl, b⟩
  refine (show bodyPost _ _ _ (Exit.panic _) _ _ from ?_); simp only [bodyPost]
  exact ⟨trivial, below_step (grB B7) b, .inr ⟨h3, by first | rfl | trivial⟩⟩
 subst h3
 have tx := Z7; obtain ⟨cZ_b, cZ_f, cZ_0, cZ_1, cZ_2, cZ_3, cZ_4, cZ_5, cZ_6, cZ_7⟩ := tx
 have tx := UU7; obtain ⟨cUU_b, cUU_f, cUU_0, cUU_1, cUU_2, cUU_3, cUU_4, cUU_5, cUU_6, cUU_7⟩ := tx
 go_wp2_with fail
 clear cZ_b cZ_f cZ_0 cZ_1 cZ_2 cZ_3 cZ_4 cZ_5 cZ_6 cZ_7 cUU_b cUU_f cUU_0 cUU_1 cUU_2 cUU_3 cUU_4 cUU_5 cUU_6 cUU_7
 refine (musta_yes sec base _).mono ?_; rintro e w8 ⟨rfl, b8⟩
 have d8 : Below w7.heap.size w7 w8 := below_step gr0 b8
 have B8 := Lib.hid (below_step B7.out d8)
 have Z8 := Z7.keep d8
 have UU8 := UU7.keep d8
 clear Z7 UU7 b8 d8 B7
 have tx := Z8; obtain ⟨cZ_b, cZ_f, cZ_0, cZ_1, cZ_2, cZ_3, cZ_4, cZ_5, cZ_6, cZ_7⟩ := tx
 have tx := UU8; obtain ⟨cUU_b, cUU_f, cUU_0, cUU_1, cUU_2, cUU_3, cUU_4, cUU_5, cUU_6, cUU_7⟩ := tx
 go_upto_region 11 with (fail)
 clear cZ_b cZ_f cZ_0 cZ_1 cZ_2 cZ_3 cZ_4 cZ_5 cZ_6 cZ_7 cUU_b cUU_f cUU_0 cUU_1 cUU_2 cUU_3 cUU_4 cUU_5 cUU_6 cUU_7
 refine wp_named ?_; intro x9 hx9
 have B99 := Lib.hid (show Below w.heap.size w x9 by rw [hx9]; exact (grB B8))
 have UU99 := (UU8.set6 (v := .int .i64 sec) rfl).set7 (v := .int .i64 base) hx9
 have Z99 := (Z8.other (i := 6) (v := .int .i64 sec) rfl (by have := Z8.hb; omega)).other hx9 (by have := Z8.hb; omega)
 clear hx9 UU8 Z8 B8
 obtain rfl : F = 0 := by rw [HF.out]; simp [Ru.fst]
 try clear g0 g1 g2 g3
 have tx := Z99; obtain ⟨cZ_b, cZ_f, cZ_0, cZ_1, cZ_2, cZ_3, cZ_4, cZ_5, cZ_6, cZ_7⟩ := tx
 have tx := UU99; obtain ⟨cUU_b, cUU_f, cUU_0, cUU_1, cUU_2, cUU_3, cUU_4, cUU_5, cUU_6, cUU_7⟩ := tx
 refine wp_region_lit ?_
 go_step; go_simp; go_step
 clear cZ_b cZ_f cZ_0 cZ_1 cZ_2 cZ_3 cZ_4 cZ_5 cZ_6 cZ_7 cUU_b cUU_f cUU_0 cUU_1 cUU_2 cUU_3 cUU_4 cUU_5 cUU_6 cUU_7
 refine wpList_st8 ?_ 29 (Operand.tmp 2) (Operand.tmp 52) ?_ w.heap.size (.bool true) (.int .i64 y0) (.int .i64 m) (.int .i64 k) (.int .i64 wk) (.int .i64 d) (.int .i64 sec) (.int .i64 base) ?_ ?_ ?_ Z99 ?_ (fun W9 C hbel => ?_)
 ·
  rfl
 ·
  rfl
 ·
  rfl
 ·
  rfl
 ·
  kernel_rfl
 ·
  simp [Value.oneCell']
 have d9 := hbel _ _ (Nat.le_refl _) B99.out
 clear hbel UU99 Z99
 have e0 := C.k0; have e1 := C.k1; have e2 := C.k2; have e3 := C.k3; have e4 := C.k4; have e5 := C.k5; have e6 := C.k6; have e7 := C.k7
 clear C
 go_step
 go_simp
 go_step
 go_step
 simp +zetaDelta only [Exit.then, Exit.inBlock]
 exact bodyPost_ret (v := .agg #[.bool true, .int .i64 y0, .int .i64 m, .int .i64 k, .int .i64 wk, .int .i64 d, .int .i64 sec, .int .i64 base]) (by simp [results, Tryz.results84, go_sem, e0, e1, e2, e3, e4, e5, e6, e7]) rfl ⟨d9, .inl ⟨by first | rfl | trivial, by rw [E5.out]⟩⟩
end Go.Proofs.YtjggjkeopbcmoaaGreatDoor
