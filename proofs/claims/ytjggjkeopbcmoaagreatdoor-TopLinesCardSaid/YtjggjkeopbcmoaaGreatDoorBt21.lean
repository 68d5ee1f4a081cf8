/- Joined: ErG. -/
import Derived.Test.YtjggjkeopbcmoaaGreatDoorBt01
import Derived.Test.YtjggjkeopbcmoaaGreatDoorBt20
import Derived.Test.YtjggjkeopbcmoaaGreatDoorBt17
import Derived.Test.YtjggjkeopbcmoaaGreatDoorBt18
set_option linter.unusedVariables false
set_option linter.unusedSimpArgs false
namespace Go.Proofs.YtjggjkeopbcmoaaGreatDoor
open Go.RowKit Go.Sort
namespace Er
def rq (f : ByteArray) : Int := if f = ⟨#[45]⟩ then 0 else if isA f.data.toList then (am 10800 f).2 else Lk.nm f.data.toList
def rk (f : ByteArray) : Int × Int × ByteArray := if f = ⟨#[45]⟩ then (0, 0, ⟨#[]⟩) else if isA f.data.toList then (1, (am 10800 f).1, ⟨#[]⟩) else (2, 0, f)
def ev (off kind save : Int) (rs fm : ByteArray) (u : U) : Value := .agg #[.int .i64 off, .int .i64 kind, .int .i64 save, .string rs, .string fm, .bool u.h, .int .i64 u.y, .int .i64 u.m, .int .i64 u.k, .int .i64 u.wk, .int .i64 u.d, .int .i64 u.sec, .int .i64 u.base]
def rdW (f0 f1 f2 : ByteArray) (r : List ByteArray) : List Int := (am 54000 f0).2 :: rq f1 :: (Fo.kd f2.data.toList).2 :: enW r
def rdV (f0 f1 f2 : ByteArray) (r : List ByteArray) : Value := ev (am 54000 f0).1 (rk f1).1 (rk f1).2.1 (rk f1).2.2 f2 (enV r)
end Er
theorem eren_all (v : Value) (r : List ByteArray) (h4 : r.length ≤ 4) (w : World) (S : StS w v r) (hz : ∀ x ∈ r, x.size ≤ 600) (tp : TypeId) (p : Value) (y : Int) (L : Ru.Lv w tp p y) :
  Calls Tryz.prog 84 #[v] w fun e w' => Below w.heap.size w w' ∧ ((Ru.fst (Er.enW r) = 0 ∧ e = .returned (Er.enV r).v) ∨ (Ru.fst (Er.enW r) ≠ 0 ∧ e = .panicked (gvP (Ru.fst (Er.enW r))))) := by
 match r, h4, S, hz with
 | [], _, S, hz => exact eren_0 v w S hz tp p y L
 | [a], _, S, hz => exact eren_1 v a w S hz tp p y L
 | [a, b], _, S, hz => exact eren_2 v a b w S hz tp p y L
 | [a, b, c], _, S, hz => exact eren_3 v a b c w S hz tp p y L
 | [a, b, c, d], _, S, hz => exact eren_4 v a b c d w S hz tp p y L
 | _ :: _ :: _ :: _ :: _ :: _, h, _, _ => simp at h
theorem erd_sub {w W : World} {q : Addr} {n c k c' : Nat} {f0 f1 f2 : ByteArray} {r : List ByteArray} (S : StS w (.slice (some q) n c) (f0 :: f1 :: f2 :: r)) (hk : k = r.length) (b : Below w.heap.size w W) : StS W (.slice (some ⟨q.block, q.off + 3, none⟩) k c') r := by
 obtain ⟨A, c1, hv, hA⟩ := S
 cases hv
 obtain ⟨q', e, hq, hcell⟩ := hA (by simp)
 cases e
 subst hk
 refine ⟨_, _, rfl, fun _ => ⟨_, rfl, Nat.lt_of_lt_of_le hq b.size, fun i x hx => ?_⟩⟩
 have h := hcell (i + 3) x (by simpa using hx)
 rw [show (q.add (i + 3)) = ⟨q.block, q.off + (i + 3), none⟩ from Addr.add_succ' ..] at h
 have h2 := (b.cell (p := ⟨q.block, q.off + (i + 3), none⟩) hq).trans h
 cases i with
 | zero => rw [Addr.add_zero']; exact h2
 | succ i => rw [Addr.add_succ', show q.off + 3 + (i + 1) = q.off + (i + 1 + 3) by omega]; exact h2
set_option maxHeartbeats 8000000 in
set_option maxRecDepth 100000 in
theorem erread_nonea (q : Addr) (n c : Nat) (f0 f1 f2 : ByteArray) (r : List ByteArray) (hr : r.length ≤ 4) (hn : n = r.length + 3) (hc : n ≤ c) (h8 : c = 3) (w : World) (S : StS w (.slice (some q) n c) (f0 :: f1 :: f2 :: r)) (hz : ∀ x ∈ f0 :: f1 :: f2 :: r, x.size ≤ 600) (tp : TypeId) (p : Value) (y : Int) (L : Ru.Lv w tp p y) (h1 : f1 = ⟨#[45]⟩) :
  Calls Tryz.prog 42 #[.slice (some q) n c] w fun e w' => Below w.heap.size w w' ∧ ((Ru.fst (Er.rdW f0 f1 f2 r) = 0 ∧ e = .returned (Er.rdV f0 f1 f2 r)) ∨ (Ru.fst (Er.rdW f0 f1 f2 r) ≠ 0 ∧ e = .panicked (gvP (Ru.fst (Er.rdW f0 f1 f2 r))))) := by
 have z0 := hz f0 (by simp); have z1 := hz f1 (by simp); have z2 := hz f2 (by simp)
 have A1 := Lib.hid (fun W (h : Ru.Lv W tp p y) => eram_any f0 54000 W y (by decide) (by decide) z0 h.mx)
 have A2 := Lib.hid (fun W (h : Ru.Lv W tp p y) => eram_any f1 10800 W y (by decide) (by decide) z1 h.mx)
 have IS := Lib.hid (fun W => erisa_any f1 W z1)
 have NM := Lib.hid (fun W => rname_any f1 W (Nat.le_trans z1 (by decide)))
 have CK := Lib.hid (fun W (h : Ru.Lv W tp p y) => fcheck_any f2 W y (by omega) h.mx)
 have EN := Lib.hid (fun W v' (s : StS W v' r) (h : Ru.Lv W tp p y) => eren_all v' r hr W s (fun x hx => hz x (by simp [hx])) tp p y h)
 unfold Er.U.v at EN
 have HL := Lib.hid (fun W (b : Below w.heap.size w W) => L.on b)
 have SB := Lib.hid (fun W (b : Below w.heap.size w W) => (⟨_, _, rfl, fun h => absurd h (by omega)⟩ : StS W (.slice (some q) r.length 0) r))
 subst h8
 obtain ⟨A, c1, hv, hA⟩ := S
 obtain ⟨q', e, hq, hcell⟩ := hA (by simp)
 have eA : some q = A := by injection hv
 rw [e] at eA
 cases eA
 clear hv
 have HC : Hid (∀ W, Below w.heap.size w W → W.cell? q = some (.string f0) ∧ W.cell? ⟨q.block, q.off + 1, none⟩ = some (.string f1) ∧ W.cell? ⟨q.block, q.off + 2, none⟩ = some (.string f2)) := fun W b => by
  have k : ∀ i x, ((f0 :: f1 :: f2 :: r).map Value.string)[i]? = some x → W.cell? (q.add i) = some x := fun i x hx => by
   have := hcell i x hx
   exact (b.cell (by rw [blk_add]; exact hq)).trans this
  have k0 := k 0 _ rfl
  rw [Addr.add_zero'] at k0
  have kk : ∀ i, q.add (i + 1) = ⟨q.block, q.off + (i + 1), none⟩ := fun i => by rw [Addr.add_succ']
  have k1 := k 1 _ rfl; have k2 := k 2 _ rfl
  rw [kk 0] at k1; rw [kk 1] at k2
  exact ⟨k0, k1, k2⟩
 have n1 : q.block ≠ w.heap.size := Nat.ne_of_lt hq
 have n3 : w.heap.size ≠ q.block := Nat.ne_of_gt hq
 obtain ⟨F, hF⟩ : ∃ F, F = Ru.fst (Er.rdW f0 f1 f2 r) := ⟨_, rfl⟩
 rw [← hF]
 unfold Er.rdV
 have e1 : Er.rk f1 = (0, 0, ⟨#[]⟩) := by unfold Er.rk; rw [if_pos h1]
 have e2 : Er.rq f1 = 0 := by unfold Er.rq; rw [if_pos h1]
 rw [e1]
 replace hF : F = Ru.fst ((Er.am 54000 f0).2 :: 0 :: (Fo.kd f2.data.toList).2 :: Er.enW r) := by rw [hF]; unfold Er.rdW; rw [e2]
 unfold Er.ev
 clear hcell L hz z0 z1 z2 hA e1 e2 hr
 have hq0 : 3 ≤ n := by omega
 generalize (Er.am 54000 f0).1 = off at *
 generalize (Er.am 54000 f0).2 = q0 at *
 generalize (Er.am 10800 f1).1 = sv at *
 generalize (Er.am 10800 f1).2 = qs at *
 generalize Lk.nm f1.data.toList = qn at *
 generalize (Fo.kd f2.data.toList).2 = q2 at *
 generalize Er.enV r = u at *
 generalize hE : Er.enW r = E at *
 clear hE
 generalize hG : Ru.fst E = G at *
 obtain ⟨uh, uy, um, uk, uwk, ud, us, ub⟩ := u
 have HF := Lib.hid hF; clear hF
 have HG := Lib.hid hG; clear hG
 go_enter Tryz.func42, Tryz.ntmps42
 obtain ⟨g0, g1, g2⟩ := HC.out _ (Below.refl _ _)
 by_cases h0 : q0 = 0
 case neg =>
  obtain rfl : F = q0 := by rw [HF.out]; exact Ru.fst_no h0
  go_wp2_with fail
  refine (A1.out _ (HL.out _ gr0)).mono ?_; rintro e w1 a
  obtain ⟨rfl, b1⟩ := ansP_no h0 a
  refine (show bodyPost _ _ _ (Exit.panic _) _ _ from ?_); simp only [bodyPost]
  exact ⟨trivial, below_step gr0 b1, .inr ⟨h0, by first | rfl | trivial⟩⟩
 subst h0
 go_wp2_with fail
 refine ((A1.out _ (HL.out _ gr0)).mono fun _ _ a => ansT a).mono ?_; rintro e w1 ⟨rfl, b1⟩
 have d1 : Below w.heap.size w w1 := below_step gr0 b1
 have B1 := Lib.hid d1
 have Z1 : Bk13 w1 (w.heap.size) (.int .i64 0) (.int .i64 0) (.int .i64 0) (.string ⟨#[]⟩) (.string ⟨#[]⟩) (.bool false) (.int .i64 0) (.int .i64 0) (.int .i64 0) (.int .i64 0) (.int .i64 0) (.int .i64 0) (.int .i64 0) := by refine Bk13.of b1 (by simp <;> omega) (by intro j; simp [go_sem]) ?_ ?_ ?_ ?_ ?_ ?_ ?_ ?_ ?_ ?_ ?_ ?_ ?_ <;> simp [go_sem]
 clear b1 d1
 clear g0 g1 g2
 obtain ⟨g0, g1, g2⟩ := HC.out _ B1.out
 have hqk := Nat.lt_of_lt_of_le hq B1.out.size
 have n5 : q.block ≠ w1.heap.size := Nat.ne_of_lt hqk
 have n6 : w1.heap.size ≠ q.block := Nat.ne_of_gt hqk
 subst h1
 go_wp2_with fail
 refine (CK.out _ (HL.out _ (grB B1))).mono ?_; rintro e v ⟨rfl, rfl⟩
 by_cases h3 : q2 = 0
 case neg =>
  obtain rfl : F = q2 := by rw [HF.out]; simp [Ru.fst, h3]
  go_wp2_with fail
  refine (for_no _ _ h3).mono ?_; rintro e v ⟨rfl, rfl⟩
  refine (show bodyPost _ _ _ (Exit.panic _) _ _ from ?_); simp only [bodyPost]
  exact ⟨trivial, (grB B1), .inr ⟨h3, by first | rfl | trivial⟩⟩
 subst h3
 obtain rfl : F = G := by rw [HF.out, ← HG.out]; simp [Ru.fst]
 go_wp2_with fail
 refine (for_yes _).mono ?_; rintro e v ⟨rfl, rfl⟩
 go_wp2_with fail
 by_cases h4 : F = 0
 case neg =>
  refine (EN.out _ _ (SB.out _ (grB B1)) (HL.out _ (grB B1))).mono ?_; rintro e v a
  obtain ⟨rfl, b1⟩ := ansP_no h4 a
  refine (show bodyPost _ _ _ (Exit.panic _) _ _ from ?_); simp only [bodyPost]
  exact ⟨trivial, below_step (grB B1) b1, .inr ⟨h4, by first | rfl | trivial⟩⟩
 subst h4
 refine ((EN.out _ _ (SB.out _ (grB B1)) (HL.out _ (grB B1))).mono fun _ _ a => ansT a).mono ?_; rintro e w2 ⟨rfl, b2⟩
 have d2 : Below w1.heap.size w1 w2 := below_step gr0 b2
 have B2 := Lib.hid (below_step B1.out d2)
 have Z2 := Z1.keep d2
 have aX := B1.out.size
 have nXZ := Nat.ne_of_lt Z1.hb
 have oXZ := Nat.ne_of_gt Z1.hb
 have X2 : Bk13 w2 (w1.heap.size) (.int .i64 off) (.int .i64 0) (.int .i64 0) (.string ⟨#[]⟩) (.string f2) (.bool false) (.int .i64 0) (.int .i64 0) (.int .i64 0) (.int .i64 0) (.int .i64 0) (.int .i64 0) (.int .i64 0) := by refine Bk13.of b2 (by simp <;> omega) (by intro j; simp [go_sem]) ?_ ?_ ?_ ?_ ?_ ?_ ?_ ?_ ?_ ?_ ?_ ?_ ?_ <;> simp [go_sem]
 clear Z1 b2 d2 B1
 clear g0 g1 g2
 have tx := Z2; obtain ⟨cZ_b, cZ_f, cZ_0, cZ_1, cZ_2, cZ_3, cZ_4, cZ_5, cZ_6, cZ_7, cZ_8, cZ_9, cZ_10, cZ_11, cZ_12⟩ := tx
 have tx := X2; obtain ⟨cX_b, cX_f, cX_0, cX_1, cX_2, cX_3, cX_4, cX_5, cX_6, cX_7, cX_8, cX_9, cX_10, cX_11, cX_12⟩ := tx
 go_upto_region 12 with (fail)
 clear cZ_b cZ_f cZ_0 cZ_1 cZ_2 cZ_3 cZ_4 cZ_5 cZ_6 cZ_7 cZ_8 cZ_9 cZ_10 cZ_11 cZ_12 cX_b cX_f cX_0 cX_1 cX_2 cX_3 cX_4 cX_5 cX_6 cX_7 cX_8 cX_9 cX_10 cX_11 cX_12
 refine wp_named ?_; intro x9 hx9
 have B99 := Lib.hid (show Below w.heap.size w x9 by rw [hx9]; exact (grB B2))
 have X99 := ((((((((X2.set5 (v := .bool uh) rfl).set6 (v := .int .i64 uy) rfl).set7 (v := .int .i64 um) rfl).set8 (v := .int .i64 uk) rfl).set9 (v := .int .i64 uwk) rfl).set10 (v := .int .i64 ud) rfl).set11 (v := .int .i64 us) rfl).set12 (v := .int .i64 ub) hx9)
 have Z99 := ((((((((Z2.other (i := 5) (v := .bool uh) rfl (by have := Z2.hb; omega)).other (i := 6) (v := .int .i64 uy) rfl (by have := Z2.hb; omega)).other (i := 7) (v := .int .i64 um) rfl (by have := Z2.hb; omega)).other (i := 8) (v := .int .i64 uk) rfl (by have := Z2.hb; omega)).other (i := 9) (v := .int .i64 uwk) rfl (by have := Z2.hb; omega)).other (i := 10) (v := .int .i64 ud) rfl (by have := Z2.hb; omega)).other (i := 11) (v := .int .i64 us) rfl (by have := Z2.hb; omega)).other (i := 12) (v := .int .i64 ub) hx9 (by have := Z2.hb; omega))
 clear hx9 X2 Z2 B2
 have tx := Z99; obtain ⟨cZ_b, cZ_f, cZ_0, cZ_1, cZ_2, cZ_3, cZ_4, cZ_5, cZ_6, cZ_7, cZ_8, cZ_9, cZ_10, cZ_11, cZ_12⟩ := tx
 have tx := X99; obtain ⟨cX_b, cX_f, cX_0, cX_1, cX_2, cX_3, cX_4, cX_5, cX_6, cX_7, cX_8, cX_9, cX_10, cX_11, cX_12⟩ := tx
 refine wp_region_lit ?_
 go_step; go_simp; go_step
 clear cZ_b cZ_f cZ_0 cZ_1 cZ_2 cZ_3 cZ_4 cZ_5 cZ_6 cZ_7 cZ_8 cZ_9 cZ_10 cZ_11 cZ_12 cX_b cX_f cX_0 cX_1 cX_2 cX_3 cX_4 cX_5 cX_6 cX_7 cX_8 cX_9 cX_10 cX_11 cX_12
 refine wpList_st13 ?_ 31 (Operand.tmp 2) (Operand.tmp 43) ?_ w.heap.size (.int .i64 off) (.int .i64 0) (.int .i64 0) (.string ⟨#[]⟩) (.string f2) (.bool uh) (.int .i64 uy) (.int .i64 um) (.int .i64 uk) (.int .i64 uwk) (.int .i64 ud) (.int .i64 us) (.int .i64 ub) ?_ ?_ ?_ Z99 ?_ (fun W9 C hbel => ?_)
 ·
  rfl
 ·
  rfl
 ·
  rfl
 ·
  rfl
 ·
  kernel_rfl
 ·
  simp [Value.oneCell']
 have d9 := hbel _ _ (Nat.le_refl _) B99.out
 clear hbel X99 Z99
 have e0 := C.k0; have e1 := C.k1; have e2 := C.k2; have e3 := C.k3; have e4 := C.k4; have e5 := C.k5; have e6 := C.k6; have e7 := C.k7; have e8 := C.k8; have e9 := C.k9; have e10 := C.k10; have e11 := C.k11; have e12 := C.k12
 clear C
 go_step
 go_simp
 go_step
 go_step
 simp +zetaDelta only [Exit.then, Exit.inBlock]
 exact bodyPost_ret (v := .agg #[.int .i64 off, .int .i64 0, .int .i64 0, .string ⟨#[]⟩, .string f2, .bool uh, .int .i64 uy, .int .i64 um, .int .i64 uk, .int .i64 uwk, .int .i64 ud, .int .i64 us, .int .i64 ub]) (by simp [results, Tryz.results42, go_sem, e0, e1, e2, e3, e4, e5, e6, e7, e8, e9, e10, e11, e12]) rfl ⟨d9, .inl ⟨by first | rfl | trivial, by rfl⟩⟩
set_option maxHeartbeats 8000000 in
set_option maxRecDepth 100000 in
theorem erread_noneb (q : Addr) (n c : Nat) (f0 f1 f2 : ByteArray) (r : List ByteArray) (hr : r.length ≤ 4) (hn : n = r.length + 3) (hc : n ≤ c) (h8 : ¬ c = 3) (w : World) (S : StS w (.slice (some q) n c) (f0 :: f1 :: f2 :: r)) (hz : ∀ x ∈ f0 :: f1 :: f2 :: r, x.size ≤ 600) (tp : TypeId) (p : Value) (y : Int) (L : Ru.Lv w tp p y) (h1 : f1 = ⟨#[45]⟩) :
  Calls Tryz.prog 42 #[.slice (some q) n c] w fun e w' => Below w.heap.size w w' ∧ ((Ru.fst (Er.rdW f0 f1 f2 r) = 0 ∧ e = .returned (Er.rdV f0 f1 f2 r)) ∨ (Ru.fst (Er.rdW f0 f1 f2 r) ≠ 0 ∧ e = .panicked (gvP (Ru.fst (Er.rdW f0 f1 f2 r))))) := by
 have z0 := hz f0 (by simp); have z1 := hz f1 (by simp); have z2 := hz f2 (by simp)
 have A1 := Lib.hid (fun W (h : Ru.Lv W tp p y) => eram_any f0 54000 W y (by decide) (by decide) z0 h.mx)
 have A2 := Lib.hid (fun W (h : Ru.Lv W tp p y) => eram_any f1 10800 W y (by decide) (by decide) z1 h.mx)
 have IS := Lib.hid (fun W => erisa_any f1 W z1)
 have NM := Lib.hid (fun W => rname_any f1 W (Nat.le_trans z1 (by decide)))
 have CK := Lib.hid (fun W (h : Ru.Lv W tp p y) => fcheck_any f2 W y (by omega) h.mx)
 have EN := Lib.hid (fun W v' (s : StS W v' r) (h : Ru.Lv W tp p y) => eren_all v' r hr W s (fun x hx => hz x (by simp [hx])) tp p y h)
 unfold Er.U.v at EN
 have HL := Lib.hid (fun W (b : Below w.heap.size w W) => L.on b)
 have SB := Lib.hid (fun W (b : Below w.heap.size w W) => erd_sub (k := r.length) (c' := c - 3) S rfl b)
 obtain ⟨A, c1, hv, hA⟩ := S
 obtain ⟨q', e, hq, hcell⟩ := hA (by simp)
 have eA : some q = A := by injection hv
 rw [e] at eA
 cases eA
 clear hv
 have HC : Hid (∀ W, Below w.heap.size w W → W.cell? q = some (.string f0) ∧ W.cell? ⟨q.block, q.off + 1, none⟩ = some (.string f1) ∧ W.cell? ⟨q.block, q.off + 2, none⟩ = some (.string f2)) := fun W b => by
  have k : ∀ i x, ((f0 :: f1 :: f2 :: r).map Value.string)[i]? = some x → W.cell? (q.add i) = some x := fun i x hx => by
   have := hcell i x hx
   exact (b.cell (by rw [blk_add]; exact hq)).trans this
  have k0 := k 0 _ rfl
  rw [Addr.add_zero'] at k0
  have kk : ∀ i, q.add (i + 1) = ⟨q.block, q.off + (i + 1), none⟩ := fun i => by rw [Addr.add_succ']
  have k1 := k 1 _ rfl; have k2 := k 2 _ rfl
  rw [kk 0] at k1; rw [kk 1] at k2
  exact ⟨k0, k1, k2⟩
 have n1 : q.block ≠ w.heap.size := Nat.ne_of_lt hq
 have n3 : w.heap.size ≠ q.block := Nat.ne_of_gt hq
 obtain ⟨F, hF⟩ : ∃ F, F = Ru.fst (Er.rdW f0 f1 f2 r) := ⟨_, rfl⟩
 rw [← hF]
 unfold Er.rdV
 have e1 : Er.rk f1 = (0, 0, ⟨#[]⟩) := by unfold Er.rk; rw [if_pos h1]
 have e2 : Er.rq f1 = 0 := by unfold Er.rq; rw [if_pos h1]
 rw [e1]
 replace hF : F = Ru.fst ((Er.am 54000 f0).2 :: 0 :: (Fo.kd f2.data.toList).2 :: Er.enW r) := by rw [hF]; unfold Er.rdW; rw [e2]
 unfold Er.ev
 clear hcell L hz z0 z1 z2 hA e1 e2 hr
 have hq0 : 3 ≤ n := by omega
 generalize (Er.am 54000 f0).1 = off at *
 generalize (Er.am 54000 f0).2 = q0 at *
 generalize (Er.am 10800 f1).1 = sv at *
 generalize (Er.am 10800 f1).2 = qs at *
 generalize Lk.nm f1.data.toList = qn at *
 generalize (Fo.kd f2.data.toList).2 = q2 at *
 generalize Er.enV r = u at *
 generalize hE : Er.enW r = E at *
 clear hE
 generalize hG : Ru.fst E = G at *
 obtain ⟨uh, uy, um, uk, uwk, ud, us, ub⟩ := u
 have HF := Lib.hid hF; clear hF
 have HG := Lib.hid hG; clear hG
 go_enter Tryz.func42, Tryz.ntmps42
 obtain ⟨g0, g1, g2⟩ := HC.out _ (Below.refl _ _)
 by_cases h0 : q0 = 0
 case neg =>
  obtain rfl : F = q0 := by rw [HF.out]; exact Ru.fst_no h0
  go_wp2_with fail
  refine (A1.out _ (HL.out _ gr0)).mono ?_; rintro e w1 a
  obtain ⟨rfl, b1⟩ := ansP_no h0 a
  refine (show bodyPost _ _ _ (Exit.panic _) _ _ from ?_); simp only [bodyPost]
  exact ⟨trivial, below_step gr0 b1, .inr ⟨h0, by first | rfl | trivial⟩⟩
 subst h0
 go_wp2_with fail
 refine ((A1.out _ (HL.out _ gr0)).mono fun _ _ a => ansT a).mono ?_; rintro e w1 ⟨rfl, b1⟩
 have d1 : Below w.heap.size w w1 := below_step gr0 b1
 have B1 := Lib.hid d1
 have Z1 : Bk13 w1 (w.heap.size) (.int .i64 0) (.int .i64 0) (.int .i64 0) (.string ⟨#[]⟩) (.string ⟨#[]⟩) (.bool false) (.int .i64 0) (.int .i64 0) (.int .i64 0) (.int .i64 0) (.int .i64 0) (.int .i64 0) (.int .i64 0) := by refine Bk13.of b1 (by simp <;> omega) (by intro j; simp [go_sem]) ?_ ?_ ?_ ?_ ?_ ?_ ?_ ?_ ?_ ?_ ?_ ?_ ?_ <;> simp [go_sem]
 clear b1 d1
 clear g0 g1 g2
 obtain ⟨g0, g1, g2⟩ := HC.out _ B1.out
 have hqk := Nat.lt_of_lt_of_le hq B1.out.size
 have n5 : q.block ≠ w1.heap.size := Nat.ne_of_lt hqk
 have n6 : w1.heap.size ≠ q.block := Nat.ne_of_gt hqk
 subst h1
 go_wp2_with fail
 refine (CK.out _ (HL.out _ (grB B1))).mono ?_; rintro e v ⟨rfl, rfl⟩
 by_cases h3 : q2 = 0
 case neg =>
  obtain rfl : F = q2 := by rw [HF.out]; simp [Ru.fst, h3]
  go_wp2_with fail
  refine (for_no _ _ h3).mono ?_; rintro e v ⟨rfl, rfl⟩
  refine (show bodyPost _ _ _ (Exit.panic _) _ _ from ?_); simp only [bodyPost]
  exact ⟨trivial, (grB B1), .inr ⟨h3, by first | rfl | trivial⟩⟩
 subst h3
 obtain rfl : F = G := by rw [HF.out, ← HG.out]; simp [Ru.fst]
 go_wp2_with fail
 refine (for_yes _).mono ?_; rintro e v ⟨rfl, rfl⟩
 go_wp2_with fail
 try (case inl h9 => exact absurd h9 h8)
 by_cases h4 : F = 0
 case neg =>
  refine (EN.out _ _ (SB.out _ (grB B1)) (HL.out _ (grB B1))).mono ?_; rintro e v a
  obtain ⟨rfl, b1⟩ := ansP_no h4 a
  refine (show bodyPost _ _ _ (Exit.panic _) _ _ from ?_); simp only [bodyPost]
  exact ⟨trivial, below_step (grB B1) b1, .inr ⟨h4, by first | rfl | trivial⟩⟩
 subst h4
 refine ((EN.out _ _ (SB.out _ (grB B1)) (HL.out _ (grB B1))).mono fun _ _ a => ansT a).mono ?_; rintro e w2 ⟨rfl, b2⟩
 have d2 : Below w1.heap.size w1 w2 := below_step gr0 b2
 have B2 := Lib.hid (below_step B1.out d2)
 have Z2 := Z1.keep d2
 have aX := B1.out.size
 have nXZ := Nat.ne_of_lt Z1.hb
 have oXZ := Nat.ne_of_gt Z1.hb
 have X2 : Bk13 w2 (w1.heap.size) (.int .i64 off) (.int .i64 0) (.int .i64 0) (.string ⟨#[]⟩) (.string f2) (.bool false) (.int .i64 0) (.int .i64 0) (.int .i64 0) (.int .i64 0) (.int .i64 0) (.int .i64 0) (.int .i64 0) := by refine Bk13.of b2 (by simp <;> omega) (by intro j; simp [go_sem]) ?_ ?_ ?_ ?_ ?_ ?_ ?_ ?_ ?_ ?_ ?_ ?_ ?_ <;> simp [go_sem]
 clear Z1 b2 d2 B1
 clear g0 g1 g2
 have tx := Z2; obtain ⟨cZ_b, cZ_f, cZ_0, cZ_1, cZ_2, cZ_3, cZ_4, cZ_5, cZ_6, cZ_7, cZ_8, cZ_9, cZ_10, cZ_11, cZ_12⟩ := tx
 have tx := X2; obtain ⟨cX_b, cX_f, cX_0, cX_1, cX_2, cX_3, cX_4, cX_5, cX_6, cX_7, cX_8, cX_9, cX_10, cX_11, cX_12⟩ := tx
 go_upto_region 12 with (fail)
 clear cZ_b cZ_f cZ_0 cZ_1 cZ_2 cZ_3 cZ_4 cZ_5 cZ_6 cZ_7 cZ_8 cZ_9 cZ_10 cZ_11 cZ_12 cX_b cX_f cX_0 cX_1 cX_2 cX_3 cX_4 cX_5 cX_6 cX_7 cX_8 cX_9 cX_10 cX_11 cX_12
 refine wp_named ?_; intro x9 hx9
 have B99 := Lib.hid (show Below w.heap.size w x9 by rw [hx9]; exact (grB B2))
 have X99 := ((((((((X2.set5 (v := .bool uh) rfl).set6 (v := .int .i64 uy) rfl).set7 (v := .int .i64 um) rfl).set8 (v := .int .i64 uk) rfl).set9 (v := .int .i64 uwk) rfl).set10 (v := .int .i64 ud) rfl).set11 (v := .int .i64 us) rfl).set12 (v := .int .i64 ub) hx9)
 have Z99 := ((((((((Z2.other (i := 5) (v := .bool uh) rfl (by have := Z2.hb; omega)).other (i := 6) (v := .int .i64 uy) rfl (by have := Z2.hb; omega)).other (i := 7) (v := .int .i64 um) rfl (by have := Z2.hb; omega)).other (i := 8) (v := .int .i64 uk) rfl (by have := Z2.hb; omega)).other (i := 9) (v := .int .i64 uwk) rfl (by have := Z2.hb; omega)).other (i := 10) (v := .int .i64 ud) rfl (by have := Z2.hb; omega)).other (i := 11) (v := .int .i64 us) rfl (by have := Z2.hb; omega)).other (i := 12) (v := .int .i64 ub) hx9 (by have := Z2.hb; omega))
 clear hx9 X2 Z2 B2
 have tx := Z99; obtain ⟨cZ_b, cZ_f, cZ_0, cZ_1, cZ_2, cZ_3, cZ_4, cZ_5, cZ_6, cZ_7, cZ_8, cZ_9, cZ_10, cZ_11, cZ_12⟩ := tx
 have tx := X99; obtain ⟨cX_b, cX_f, cX_0, cX_1, cX_2, cX_3, cX_4, cX_5, cX_6, cX_7, cX_8, cX_9, cX_10, cX_11, cX_12⟩ := tx
 refine wp_region_lit ?_
 go_step; go_simp; go_step
 clear cZ_b cZ_f cZ_0 cZ_1 cZ_2 cZ_3 cZ_4 cZ_5 cZ_6 cZ_7 cZ_8 cZ_9 cZ_10 cZ_11 cZ_12 cX_b cX_f cX_0 cX_1 cX_2 cX_3 cX_4 cX_5 cX_6 cX_7 cX_8 cX_9 cX_10 cX_11 cX_12
 refine wpList_st13 ?_ 31 (Operand.tmp 2) (Operand.tmp 43) ?_ w.heap.size (.int .i64 off) (.int .i64 0) (.int .i64 0) (.string ⟨#[]⟩) (.string f2) (.bool uh) (.int .i64 uy) (.int .i64 um) (.int .i64 uk) (.int .i64 uwk) (.int .i64 ud) (.int .i64 us) (.int .i64 ub) ?_ ?_ ?_ Z99 ?_ (fun W9 C hbel => ?_)
 ·
  rfl
 ·
  rfl
 ·
  rfl
 ·
  rfl
 ·
  kernel_rfl
 ·
  simp [Value.oneCell']
 have d9 := hbel _ _ (Nat.le_refl _) B99.out
 clear hbel X99 Z99
 have e0 := C.k0; have e1 := C.k1; have e2 := C.k2; have e3 := C.k3; have e4 := C.k4; have e5 := C.k5; have e6 := C.k6; have e7 := C.k7; have e8 := C.k8; have e9 := C.k9; have e10 := C.k10; have e11 := C.k11; have e12 := C.k12
 clear C
 go_step
 go_simp
 go_step
 go_step
 simp +zetaDelta only [Exit.then, Exit.inBlock]
 exact bodyPost_ret (v := .agg #[.int .i64 off, .int .i64 0, .int .i64 0, .string ⟨#[]⟩, .string f2, .bool uh, .int .i64 uy, .int .i64 um, .int .i64 uk, .int .i64 uwk, .int .i64 ud, .int .i64 us, .int .i64 ub]) (by simp [results, Tryz.results42, go_sem, e0, e1, e2, e3, e4, e5, e6, e7, e8, e9, e10, e11, e12]) rfl ⟨d9, .inl ⟨by first | rfl | trivial, by rfl⟩⟩
set_option maxHeartbeats 8000000 in
set_option maxRecDepth 100000 in
theorem erread_fixeda (q : Addr) (n c : Nat) (f0 f1 f2 : ByteArray) (r : List ByteArray) (hr : r.length ≤ 4) (hn : n = r.length + 3) (hc : n ≤ c) (h8 : c = 3) (w : World) (S : StS w (.slice (some q) n c) (f0 :: f1 :: f2 :: r)) (hz : ∀ x ∈ f0 :: f1 :: f2 :: r, x.size ≤ 600) (tp : TypeId) (p : Value) (y : Int) (L : Ru.Lv w tp p y) (h1 : f1 ≠ ⟨#[45]⟩) (h2 : Er.isA f1.data.toList = true) :
  Calls Tryz.prog 42 #[.slice (some q) n c] w fun e w' => Below w.heap.size w w' ∧ ((Ru.fst (Er.rdW f0 f1 f2 r) = 0 ∧ e = .returned (Er.rdV f0 f1 f2 r)) ∨ (Ru.fst (Er.rdW f0 f1 f2 r) ≠ 0 ∧ e = .panicked (gvP (Ru.fst (Er.rdW f0 f1 f2 r))))) := by
 have z0 := hz f0 (by simp); have z1 := hz f1 (by simp); have z2 := hz f2 (by simp)
 have A1 := Lib.hid (fun W (h : Ru.Lv W tp p y) => eram_any f0 54000 W y (by decide) (by decide) z0 h.mx)
 have A2 := Lib.hid (fun W (h : Ru.Lv W tp p y) => eram_any f1 10800 W y (by decide) (by decide) z1 h.mx)
 have IS := Lib.hid (fun W => erisa_any f1 W z1)
 have NM := Lib.hid (fun W => rname_any f1 W (Nat.le_trans z1 (by decide)))
 have CK := Lib.hid (fun W (h : Ru.Lv W tp p y) => fcheck_any f2 W y (by omega) h.mx)
 have EN := Lib.hid (fun W v' (s : StS W v' r) (h : Ru.Lv W tp p y) => eren_all v' r hr W s (fun x hx => hz x (by simp [hx])) tp p y h)
 unfold Er.U.v at EN
 have HL := Lib.hid (fun W (b : Below w.heap.size w W) => L.on b)
 have SB := Lib.hid (fun W (b : Below w.heap.size w W) => (⟨_, _, rfl, fun h => absurd h (by omega)⟩ : StS W (.slice (some q) r.length 0) r))
 subst h8
 obtain ⟨A, c1, hv, hA⟩ := S
 obtain ⟨q', e, hq, hcell⟩ := hA (by simp)
 have eA : some q = A := by injection hv
 rw [e] at eA
 cases eA
 clear hv
 have HC : Hid (∀ W, Below w.heap.size w W → W.cell? q = some (.string f0) ∧ W.cell? ⟨q.block, q.off + 1, none⟩ = some (.string f1) ∧ W.cell? ⟨q.block, q.off + 2, none⟩ = some (.string f2)) := fun W b => by
  have k : ∀ i x, ((f0 :: f1 :: f2 :: r).map Value.string)[i]? = some x → W.cell? (q.add i) = some x := fun i x hx => by
   have := hcell i x hx
   exact (b.cell (by rw [blk_add]; exact hq)).trans this
  have k0 := k 0 _ rfl
  rw [Addr.add_zero'] at k0
  have kk : ∀ i, q.add (i + 1) = ⟨q.block, q.off + (i + 1), none⟩ := fun i => by rw [Addr.add_succ']
  have k1 := k 1 _ rfl; have k2 := k 2 _ rfl
  rw [kk 0] at k1; rw [kk 1] at k2
  exact ⟨k0, k1, k2⟩
 have n1 : q.block ≠ w.heap.size := Nat.ne_of_lt hq
 have n3 : w.heap.size ≠ q.block := Nat.ne_of_gt hq
 obtain ⟨F, hF⟩ : ∃ F, F = Ru.fst (Er.rdW f0 f1 f2 r) := ⟨_, rfl⟩
 rw [← hF]
 unfold Er.rdV
 have e1 : Er.rk f1 = (1, (Er.am 10800 f1).1, ⟨#[]⟩) := by unfold Er.rk; rw [if_neg h1, if_pos h2]
 have e2 : Er.rq f1 = (Er.am 10800 f1).2 := by unfold Er.rq; rw [if_neg h1, if_pos h2]
 rw [e1]
 replace hF : F = Ru.fst ((Er.am 54000 f0).2 :: (Er.am 10800 f1).2 :: (Fo.kd f2.data.toList).2 :: Er.enW r) := by rw [hF]; unfold Er.rdW; rw [e2]
 unfold Er.ev
 clear hcell L hz z0 z1 z2 hA e1 e2 hr
 have hq0 : 3 ≤ n := by omega
 generalize (Er.am 54000 f0).1 = off at *
 generalize (Er.am 54000 f0).2 = q0 at *
 generalize (Er.am 10800 f1).1 = sv at *
 generalize (Er.am 10800 f1).2 = qs at *
 generalize Lk.nm f1.data.toList = qn at *
 generalize (Fo.kd f2.data.toList).2 = q2 at *
 generalize Er.enV r = u at *
 generalize hE : Er.enW r = E at *
 clear hE
 generalize hG : Ru.fst E = G at *
 obtain ⟨uh, uy, um, uk, uwk, ud, us, ub⟩ := u
 have HF := Lib.hid hF; clear hF
 have HG := Lib.hid hG; clear hG
 go_enter Tryz.func42, Tryz.ntmps42
 obtain ⟨g0, g1, g2⟩ := HC.out _ (Below.refl _ _)
 by_cases h0 : q0 = 0
 case neg =>
  obtain rfl : F = q0 := by rw [HF.out]; exact Ru.fst_no h0
  go_wp2_with fail
  refine (A1.out _ (HL.out _ gr0)).mono ?_; rintro e w1 a
  obtain ⟨rfl, b1⟩ := ansP_no h0 a
  refine (show bodyPost _ _ _ (Exit.panic _) _ _ from ?_); simp only [bodyPost]
  exact ⟨trivial, below_step gr0 b1, .inr ⟨h0, by first | rfl | trivial⟩⟩
 subst h0
 go_wp2_with fail
 refine ((A1.out _ (HL.out _ gr0)).mono fun _ _ a => ansT a).mono ?_; rintro e w1 ⟨rfl, b1⟩
 have d1 : Below w.heap.size w w1 := below_step gr0 b1
 have B1 := Lib.hid d1
 have Z1 : Bk13 w1 (w.heap.size) (.int .i64 0) (.int .i64 0) (.int .i64 0) (.string ⟨#[]⟩) (.string ⟨#[]⟩) (.bool false) (.int .i64 0) (.int .i64 0) (.int .i64 0) (.int .i64 0) (.int .i64 0) (.int .i64 0) (.int .i64 0) := by refine Bk13.of b1 (by simp <;> omega) (by intro j; simp [go_sem]) ?_ ?_ ?_ ?_ ?_ ?_ ?_ ?_ ?_ ?_ ?_ ?_ ?_ <;> simp [go_sem]
 clear b1 d1
 clear g0 g1 g2
 obtain ⟨g0, g1, g2⟩ := HC.out _ B1.out
 have hqk := Nat.lt_of_lt_of_le hq B1.out.size
 have n5 : q.block ≠ w1.heap.size := Nat.ne_of_lt hqk
 have n6 : w1.heap.size ≠ q.block := Nat.ne_of_gt hqk
 have m1 : (f1.toList == [45]) = false := by
  rw [beq_eq_false_iff_ne]
  intro e
  rw [ByteArray.toList_eq] at e
  exact h1 (ByteArray.ext (Array.toList_inj.1 e))
 rw [h2] at IS
 have tx := Z1; obtain ⟨cZ_b, cZ_f, cZ_0, cZ_1, cZ_2, cZ_3, cZ_4, cZ_5, cZ_6, cZ_7, cZ_8, cZ_9, cZ_10, cZ_11, cZ_12⟩ := tx
 go_wp2_with fail
 clear cZ_b cZ_f cZ_0 cZ_1 cZ_2 cZ_3 cZ_4 cZ_5 cZ_6 cZ_7 cZ_8 cZ_9 cZ_10 cZ_11 cZ_12
 refine (IS.out _).mono ?_; rintro e w2 ⟨rfl, b2⟩
 have d2 : Below w1.heap.size w1 w2 := below_step gr0 b2
 have B2 := Lib.hid (below_step B1.out d2)
 have Z2 := Z1.keep d2
 have aX := B1.out.size
 have nXZ := Nat.ne_of_lt Z1.hb
 have oXZ := Nat.ne_of_gt Z1.hb
 have X2 : Bk13 w2 (w1.heap.size) (.int .i64 off) (.int .i64 0) (.int .i64 0) (.string ⟨#[]⟩) (.string ⟨#[]⟩) (.bool false) (.int .i64 0) (.int .i64 0) (.int .i64 0) (.int .i64 0) (.int .i64 0) (.int .i64 0) (.int .i64 0) := by refine Bk13.of b2 (by simp <;> omega) (by intro j; simp [go_sem]) ?_ ?_ ?_ ?_ ?_ ?_ ?_ ?_ ?_ ?_ ?_ ?_ ?_ <;> simp [go_sem]
 clear Z1 b2 d2 B1
 clear g0 g1 g2
 obtain ⟨g0, g1, g2⟩ := HC.out _ B2.out
 by_cases hs : qs = 0
 case neg =>
  obtain rfl : F = qs := by rw [HF.out]; simp [Ru.fst, hs]
  have tx := Z2; obtain ⟨cZ_b, cZ_f, cZ_0, cZ_1, cZ_2, cZ_3, cZ_4, cZ_5, cZ_6, cZ_7, cZ_8, cZ_9, cZ_10, cZ_11, cZ_12⟩ := tx
  have tx := X2; obtain ⟨cX_b, cX_f, cX_0, cX_1, cX_2, cX_3, cX_4, cX_5, cX_6, cX_7, cX_8, cX_9, cX_10, cX_11, cX_12⟩ := tx
  go_wp2_with fail
  clear cZ_b cZ_f cZ_0 cZ_1 cZ_2 cZ_3 cZ_4 cZ_5 cZ_6 cZ_7 cZ_8 cZ_9 cZ_10 cZ_11 cZ_12 cX_b cX_f cX_0 cX_1 cX_2 cX_3 cX_4 cX_5 cX_6 cX_7 cX_8 cX_9 cX_10 cX_11 cX_12
  refine (A2.out _ (HL.out _ (grB B2))).mono ?_; rintro e v a
  obtain ⟨rfl, b1⟩ := ansP_no hs a
  refine (show bodyPost _ _ _ (Exit.panic _) _ _ from ?_); simp only [bodyPost]
  exact ⟨trivial, below_step (grB B2) b1, .inr ⟨hs, by first | rfl | trivial⟩⟩
 subst hs
 have tx := Z2; obtain ⟨cZ_b, cZ_f, cZ_0, cZ_1, cZ_2, cZ_3, cZ_4, cZ_5, cZ_6, cZ_7, cZ_8, cZ_9, cZ_10, cZ_11, cZ_12⟩ := tx
 have tx := X2; obtain ⟨cX_b, cX_f, cX_0, cX_1, cX_2, cX_3, cX_4, cX_5, cX_6, cX_7, cX_8, cX_9, cX_10, cX_11, cX_12⟩ := tx
 go_wp2_with fail
 clear cZ_b cZ_f cZ_0 cZ_1 cZ_2 cZ_3 cZ_4 cZ_5 cZ_6 cZ_7 cZ_8 cZ_9 cZ_10 cZ_11 cZ_12 cX_b cX_f cX_0 cX_1 cX_2 cX_3 cX_4 cX_5 cX_6 cX_7 cX_8 cX_9 cX_10 cX_11 cX_12
 refine ((A2.out _ (HL.out _ (grB B2))).mono fun _ _ a => ansT a).mono ?_; rintro e w3 ⟨rfl, b3⟩
 have d3 : Below w2.heap.size w2 w3 := below_step gr0 b3
 have B3 := Lib.hid (below_step B2.out d3)
 have Z3 := Z2.keep d3
 have X3 := X2.keep d3
 clear Z2 X2 b3 d3 B2
 clear g0 g1 g2
 obtain ⟨g0, g1, g2⟩ := HC.out _ B3.out
 have tx := Z3; obtain ⟨cZ_b, cZ_f, cZ_0, cZ_1, cZ_2, cZ_3, cZ_4, cZ_5, cZ_6, cZ_7, cZ_8, cZ_9, cZ_10, cZ_11, cZ_12⟩ := tx
 have tx := X3; obtain ⟨cX_b, cX_f, cX_0, cX_1, cX_2, cX_3, cX_4, cX_5, cX_6, cX_7, cX_8, cX_9, cX_10, cX_11, cX_12⟩ := tx
 go_wp2_with fail
 refine (CK.out _ (HL.out _ (grB B3))).mono ?_; rintro e v ⟨rfl, rfl⟩
 by_cases h3 : q2 = 0
 case neg =>
  obtain rfl : F = q2 := by rw [HF.out]; simp [Ru.fst, h3]
  go_wp2_with fail
  refine (for_no _ _ h3).mono ?_; rintro e v ⟨rfl, rfl⟩
  refine (show bodyPost _ _ _ (Exit.panic _) _ _ from ?_); simp only [bodyPost]
  exact ⟨trivial, (grB B3), .inr ⟨h3, by first | rfl | trivial⟩⟩
 subst h3
 obtain rfl : F = G := by rw [HF.out, ← HG.out]; simp [Ru.fst]
 go_wp2_with fail
 refine (for_yes _).mono ?_; rintro e v ⟨rfl, rfl⟩
 go_wp2_with fail
 by_cases h4 : F = 0
 case neg =>
  refine (EN.out _ _ (SB.out _ (grB B3)) (HL.out _ (grB B3))).mono ?_; rintro e v a
  obtain ⟨rfl, b1⟩ := ansP_no h4 a
  refine (show bodyPost _ _ _ (Exit.panic _) _ _ from ?_); simp only [bodyPost]
  exact ⟨trivial, below_step (grB B3) b1, .inr ⟨h4, by first | rfl | trivial⟩⟩
 subst h4
 refine ((EN.out _ _ (SB.out _ (grB B3)) (HL.out _ (grB B3))).mono fun _ _ a => ansT a).mono ?_; rintro e w4 ⟨rfl, b4⟩
 have hz := B3.out.size
 have B4 := Lib.hid (show Below w.heap.size w w4 from below_step (by repeat (first | exact B3.out | refine below_drewN ?_ _ | refine Below.drew ?_ | refine Below.setCell ?_ (by simp <;> omega) _ | refine Below.alloc ?_ (by simp <;> omega) _)) b4)
 have Z4 : Bk13 w4 (w.heap.size) (.int .i64 0) (.int .i64 0) (.int .i64 0) (.string ⟨#[]⟩) (.string ⟨#[]⟩) (.bool false) (.int .i64 0) (.int .i64 0) (.int .i64 0) (.int .i64 0) (.int .i64 0) (.int .i64 0) (.int .i64 0) := by refine Bk13.of b4 (by simp <;> omega) (by intro j; simp [go_sem, cZ_b, cZ_f, cZ_0, cZ_1, cZ_2, cZ_3, cZ_4, cZ_5, cZ_6, cZ_7, cZ_8, cZ_9, cZ_10, cZ_11, cZ_12, cX_b, cX_f, cX_0, cX_1, cX_2, cX_3, cX_4, cX_5, cX_6, cX_7, cX_8, cX_9, cX_10, cX_11, cX_12, nXZ, oXZ]) ?_ ?_ ?_ ?_ ?_ ?_ ?_ ?_ ?_ ?_ ?_ ?_ ?_ <;> simp [go_sem, cZ_b, cZ_f, cZ_0, cZ_1, cZ_2, cZ_3, cZ_4, cZ_5, cZ_6, cZ_7, cZ_8, cZ_9, cZ_10, cZ_11, cZ_12, cX_b, cX_f, cX_0, cX_1, cX_2, cX_3, cX_4, cX_5, cX_6, cX_7, cX_8, cX_9, cX_10, cX_11, cX_12, nXZ, oXZ]
 have X4 : Bk13 w4 (w1.heap.size) (.int .i64 off) (.int .i64 1) (.int .i64 sv) (.string ⟨#[]⟩) (.string f2) (.bool false) (.int .i64 0) (.int .i64 0) (.int .i64 0) (.int .i64 0) (.int .i64 0) (.int .i64 0) (.int .i64 0) := by refine Bk13.of b4 (by simp <;> omega) (by intro j; simp [go_sem, cZ_b, cZ_f, cZ_0, cZ_1, cZ_2, cZ_3, cZ_4, cZ_5, cZ_6, cZ_7, cZ_8, cZ_9, cZ_10, cZ_11, cZ_12, cX_b, cX_f, cX_0, cX_1, cX_2, cX_3, cX_4, cX_5, cX_6, cX_7, cX_8, cX_9, cX_10, cX_11, cX_12, nXZ, oXZ]) ?_ ?_ ?_ ?_ ?_ ?_ ?_ ?_ ?_ ?_ ?_ ?_ ?_ <;> simp [go_sem, cZ_b, cZ_f, cZ_0, cZ_1, cZ_2, cZ_3, cZ_4, cZ_5, cZ_6, cZ_7, cZ_8, cZ_9, cZ_10, cZ_11, cZ_12, cX_b, cX_f, cX_0, cX_1, cX_2, cX_3, cX_4, cX_5, cX_6, cX_7, cX_8, cX_9, cX_10, cX_11, cX_12, nXZ, oXZ]
 clear b4 hz B3 Z3 X3 cZ_b cZ_f cZ_0 cZ_1 cZ_2 cZ_3 cZ_4 cZ_5 cZ_6 cZ_7 cZ_8 cZ_9 cZ_10 cZ_11 cZ_12 cX_b cX_f cX_0 cX_1 cX_2 cX_3 cX_4 cX_5 cX_6 cX_7 cX_8 cX_9 cX_10 cX_11 cX_12
 clear g0 g1 g2
 have tx := Z4; obtain ⟨cZ_b, cZ_f, cZ_0, cZ_1, cZ_2, cZ_3, cZ_4, cZ_5, cZ_6, cZ_7, cZ_8, cZ_9, cZ_10, cZ_11, cZ_12⟩ := tx
 have tx := X4; obtain ⟨cX_b, cX_f, cX_0, cX_1, cX_2, cX_3, cX_4, cX_5, cX_6, cX_7, cX_8, cX_9, cX_10, cX_11, cX_12⟩ := tx
 go_upto_region 12 with (fail)
 clear cZ_b cZ_f cZ_0 cZ_1 cZ_2 cZ_3 cZ_4 cZ_5 cZ_6 cZ_7 cZ_8 cZ_9 cZ_10 cZ_11 cZ_12 cX_b cX_f cX_0 cX_1 cX_2 cX_3 cX_4 cX_5 cX_6 cX_7 cX_8 cX_9 cX_10 cX_11 cX_12
 refine wp_named ?_; intro x9 hx9
 have B99 := Lib.hid (show Below w.heap.size w x9 by rw [hx9]; exact (grB B4))
 have X99 := ((((((((X4.set5 (v := .bool uh) rfl).set6 (v := .int .i64 uy) rfl).set7 (v := .int .i64 um) rfl).set8 (v := .int .i64 uk) rfl).set9 (v := .int .i64 uwk) rfl).set10 (v := .int .i64 ud) rfl).set11 (v := .int .i64 us) rfl).set12 (v := .int .i64 ub) hx9)
 have Z99 := ((((((((Z4.other (i := 5) (v := .bool uh) rfl (by have := Z4.hb; omega)).other (i := 6) (v := .int .i64 uy) rfl (by have := Z4.hb; omega)).other (i := 7) (v := .int .i64 um) rfl (by have := Z4.hb; omega)).other (i := 8) (v := .int .i64 uk) rfl (by have := Z4.hb; omega)).other (i := 9) (v := .int .i64 uwk) rfl (by have := Z4.hb; omega)).other (i := 10) (v := .int .i64 ud) rfl (by have := Z4.hb; omega)).other (i := 11) (v := .int .i64 us) rfl (by have := Z4.hb; omega)).other (i := 12) (v := .int .i64 ub) hx9 (by have := Z4.hb; omega))
 clear hx9 X4 Z4 B4
 have tx := Z99; obtain ⟨cZ_b, cZ_f, cZ_0, cZ_1, cZ_2, cZ_3, cZ_4, cZ_5, cZ_6, cZ_7, cZ_8, cZ_9, cZ_10, cZ_11, cZ_12⟩ := tx
 have tx := X99; obtain ⟨cX_b, cX_f, cX_0, cX_1, cX_2, cX_3, cX_4, cX_5, cX_6, cX_7, cX_8, cX_9, cX_10, cX_11, cX_12⟩ := tx
 refine wp_region_lit ?_
 go_step; go_simp; go_step
 clear cZ_b cZ_f cZ_0 cZ_1 cZ_2 cZ_3 cZ_4 cZ_5 cZ_6 cZ_7 cZ_8 cZ_9 cZ_10 cZ_11 cZ_12 cX_b cX_f cX_0 cX_1 cX_2 cX_3 cX_4 cX_5 cX_6 cX_7 cX_8 cX_9 cX_10 cX_11 cX_12
 refine wpList_st13 ?_ 31 (Operand.tmp 2) (Operand.tmp 43) ?_ w.heap.size (.int .i64 off) (.int .i64 1) (.int .i64 sv) (.string ⟨#[]⟩) (.string f2) (.bool uh) (.int .i64 uy) (.int .i64 um) (.int .i64 uk) (.int .i64 uwk) (.int .i64 ud) (.int .i64 us) (.int .i64 ub) ?_ ?_ ?_ Z99 ?_ (fun W9 C hbel => ?_)
 ·
  rfl
 ·
  rfl
 ·
  rfl
 ·
  rfl
 ·
  kernel_rfl
 ·
  simp [Value.oneCell']
 have d9 := hbel _ _ (Nat.le_refl _) B99.out
 clear hbel X99 Z99
 have e0 := C.k0; have e1 := C.k1; have e2 := C.k2; have e3 := C.k3; have e4 := C.k4; have e5 := C.k5; have e6 := C.k6; have e7 := C.k7; have e8 := C.k8; have e9 := C.k9; have e10 := C.k10; have e11 := C.k11; have e12 := C.k12
 clear C
 go_step
 go_simp
 go_step
 go_step
 simp +zetaDelta only [Exit.then, Exit.inBlock]
 exact bodyPost_ret (v := .agg #[.int .i64 off, .int .i64 1, .int .i64 sv, .string ⟨#[]⟩, .string f2, .bool uh, .int .i64 uy, .int .i64 um, .int .i64 uk, .int .i64 uwk, .int .i64 ud, .int .i64 us, .int .i64 ub]) (by simp [results, Tryz.results42, go_sem, e0, e1, e2, e3, e4, e5, e6, e7, e8, e9, e10, e11, e12]) rfl ⟨d9, .inl ⟨by first | rfl | trivial, by rfl⟩⟩
set_option maxHeartbeats 8000000 in
set_option maxRecDepth 100000 in
theorem erread_fixedb (q : Addr) (n c : Nat) (f0 f1 f2 : ByteArray) (r : List ByteArray) (hr : r.length ≤ 4) (hn : n = r.length + 3) (hc : n ≤ c) (h8 : ¬ c = 3) (w : World) (S : StS w (.slice (some q) n c) (f0 :: f1 :: f2 :: r)) (hz : ∀ x ∈ f0 :: f1 :: f2 :: r, x.size ≤ 600) (tp : TypeId) (p : Value) (y : Int) (L : Ru.Lv w tp p y) (h1 : f1 ≠ ⟨#[45]⟩) (h2 : Er.isA f1.data.toList = true) :
  Calls Tryz.prog 42 #[.slice (some q) n c] w fun e w' => Below w.heap.size w w' ∧ ((Ru.fst (Er.rdW f0 f1 f2 r) = 0 ∧ e = .returned (Er.rdV f0 f1 f2 r)) ∨ (Ru.fst (Er.rdW f0 f1 f2 r) ≠ 0 ∧ e = .panicked (gvP (Ru.fst (Er.rdW f0 f1 f2 r))))) := by
 have z0 := hz f0 (by simp); have z1 := hz f1 (by simp); have z2 := hz f2 (by simp)
 have A1 := Lib.hid (fun W (h : Ru.Lv W tp p y) => eram_any f0 54000 W y (by decide) (by decide) z0 h.mx)
 have A2 := Lib.hid (fun W (h : Ru.Lv W tp p y) => eram_any f1 10800 W y (by decide) (by decide) z1 h.mx)
 have IS := Lib.hid (fun W => erisa_any f1 W z1)
 have NM := Lib.hid (fun W => rname_any f1 W (Nat.le_trans z1 (by decide)))
 have CK := Lib.hid (fun W (h : Ru.Lv W tp p y) => fcheck_any f2 W y (by omega) h.mx)
 have EN := Lib.hid (fun W v' (s : StS W v' r) (h : Ru.Lv W tp p y) => eren_all v' r hr W s (fun x hx => hz x (by simp [hx])) tp p y h)
 unfold Er.U.v at EN
 have HL := Lib.hid (fun W (b : Below w.heap.size w W) => L.on b)
 have SB := Lib.hid (fun W (b : Below w.heap.size w W) => erd_sub (k := r.length) (c' := c - 3) S rfl b)
 obtain ⟨A, c1, hv, hA⟩ := S
 obtain ⟨q', e, hq, hcell⟩ := hA (by simp)
 have eA : some q = A := by injection hv
 rw [e] at eA
 cases eA
 clear hv
 have HC : Hid (∀ W, Below w.heap.size w W → W.cell? q = some (.string f0) ∧ W.cell? ⟨q.block, q.off + 1, none⟩ = some (.string f1) ∧ W.cell? ⟨q.block, q.off + 2, none⟩ = some (.string f2)) := fun W b => by
  have k : ∀ i x, ((f0 :: f1 :: f2 :: r).map Value.string)[i]? = some x → W.cell? (q.add i) = some x := fun i x hx => by
   have := hcell i x hx
   exact (b.cell (by rw [blk_add]; exact hq)).trans this
  have k0 := k 0 _ rfl
  rw [Addr.add_zero'] at k0
  have kk : ∀ i, q.add (i + 1) = ⟨q.block, q.off + (i + 1), none⟩ := fun i => by rw [Addr.add_succ']
  have k1 := k 1 _ rfl; have k2 := k 2 _ rfl
  rw [kk 0] at k1; rw [kk 1] at k2
  exact ⟨k0, k1, k2⟩
 have n1 : q.block ≠ w.heap.size := Nat.ne_of_lt hq
 have n3 : w.heap.size ≠ q.block := Nat.ne_of_gt hq
 obtain ⟨F, hF⟩ : ∃ F, F = Ru.fst (Er.rdW f0 f1 f2 r) := ⟨_, rfl⟩
 rw [← hF]
 unfold Er.rdV
 have e1 : Er.rk f1 = (1, (Er.am 10800 f1).1, ⟨#[]⟩) := by unfold Er.rk; rw [if_neg h1, if_pos h2]
 have e2 : Er.rq f1 = (Er.am 10800 f1).2 := by unfold Er.rq; rw [if_neg h1, if_pos h2]
 rw [e1]
 replace hF : F = Ru.fst ((Er.am 54000 f0).2 :: (Er.am 10800 f1).2 :: (Fo.kd f2.data.toList).2 :: Er.enW r) := by rw [hF]; unfold Er.rdW; rw [e2]
 unfold Er.ev
 clear hcell L hz z0 z1 z2 hA e1 e2 hr
 have hq0 : 3 ≤ n := by omega
 generalize (Er.am 54000 f0).1 = off at *
 generalize (Er.am 54000 f0).2 = q0 at *
 generalize (Er.am 10800 f1).1 = sv at *
 generalize (Er.am 10800 f1).2 = qs at *
 generalize Lk.nm f1.data.toList = qn at *
 generalize (Fo.kd f2.data.toList).2 = q2 at *
 generalize Er.enV r = u at *
 generalize hE : Er.enW r = E at *
 clear hE
 generalize hG : Ru.fst E = G at *
 obtain ⟨uh, uy, um, uk, uwk, ud, us, ub⟩ := u
 have HF := Lib.hid hF; clear hF
 have HG := Lib.hid hG; clear hG
 go_enter Tryz.func42, Tryz.ntmps42
 obtain ⟨g0, g1, g2⟩ := HC.out _ (Below.refl _ _)
 by_cases h0 : q0 = 0
 case neg =>
  obtain rfl : F = q0 := by rw [HF.out]; exact Ru.fst_no h0
  go_wp2_with fail
  refine (A1.out _ (HL.out _ gr0)).mono ?_; rintro e w1 a
  obtain ⟨rfl, b1⟩ := ansP_no h0 a
  refine (show bodyPost _ _ _ (Exit.panic _) _ _ from ?_); simp only [bodyPost]
  exact ⟨trivial, below_step gr0 b1, .inr ⟨h0, by first | rfl | trivial⟩⟩
 subst h0
 go_wp2_with fail
 refine ((A1.out _ (HL.out _ gr0)).mono fun _ _ a => ansT a).mono ?_; rintro e w1 ⟨rfl, b1⟩
 have d1 : Below w.heap.size w w1 := below_step gr0 b1
 have B1 := Lib.hid d1
 have Z1 : Bk13 w1 (w.heap.size) (.int .i64 0) (.int .i64 0) (.int .i64 0) (.string ⟨#[]⟩) (.string ⟨#[]⟩) (.bool false) (.int .i64 0) (.int .i64 0) (.int .i64 0) (.int .i64 0) (.int .i64 0) (.int .i64 0) (.int .i64 0) := by refine Bk13.of b1 (by simp <;> omega) (by intro j; simp [go_sem]) ?_ ?_ ?_ ?_ ?_ ?_ ?_ ?_ ?_ ?_ ?_ ?_ ?_ <;> simp [go_sem]
 clear b1 d1
 clear g0 g1 g2
 obtain ⟨g0, g1, g2⟩ := HC.out _ B1.out
 have hqk := Nat.lt_of_lt_of_le hq B1.out.size
 have n5 : q.block ≠ w1.heap.size := Nat.ne_of_lt hqk
 have n6 : w1.heap.size ≠ q.block := Nat.ne_of_gt hqk
 have m1 : (f1.toList == [45]) = false := by
  rw [beq_eq_false_iff_ne]
  intro e
  rw [ByteArray.toList_eq] at e
  exact h1 (ByteArray.ext (Array.toList_inj.1 e))
 rw [h2] at IS
 have tx := Z1; obtain ⟨cZ_b, cZ_f, cZ_0, cZ_1, cZ_2, cZ_3, cZ_4, cZ_5, cZ_6, cZ_7, cZ_8, cZ_9, cZ_10, cZ_11, cZ_12⟩ := tx
 go_wp2_with fail
 clear cZ_b cZ_f cZ_0 cZ_1 cZ_2 cZ_3 cZ_4 cZ_5 cZ_6 cZ_7 cZ_8 cZ_9 cZ_10 cZ_11 cZ_12
 refine (IS.out _).mono ?_; rintro e w2 ⟨rfl, b2⟩
 have d2 : Below w1.heap.size w1 w2 := below_step gr0 b2
 have B2 := Lib.hid (below_step B1.out d2)
 have Z2 := Z1.keep d2
 have aX := B1.out.size
 have nXZ := Nat.ne_of_lt Z1.hb
 have oXZ := Nat.ne_of_gt Z1.hb
 have X2 : Bk13 w2 (w1.heap.size) (.int .i64 off) (.int .i64 0) (.int .i64 0) (.string ⟨#[]⟩) (.string ⟨#[]⟩) (.bool false) (.int .i64 0) (.int .i64 0) (.int .i64 0) (.int .i64 0) (.int .i64 0) (.int .i64 0) (.int .i64 0) := by refine Bk13.of b2 (by simp <;> omega) (by intro j; simp [go_sem]) ?_ ?_ ?_ ?_ ?_ ?_ ?_ ?_ ?_ ?_ ?_ ?_ ?_ <;> simp [go_sem]
 clear Z1 b2 d2 B1
 clear g0 g1 g2
 obtain ⟨g0, g1, g2⟩ := HC.out _ B2.out
 by_cases hs : qs = 0
 case neg =>
  obtain rfl : F = qs := by rw [HF.out]; simp [Ru.fst, hs]
  have tx := Z2; obtain ⟨cZ_b, cZ_f, cZ_0, cZ_1, cZ_2, cZ_3, cZ_4, cZ_5, cZ_6, cZ_7, cZ_8, cZ_9, cZ_10, cZ_11, cZ_12⟩ := tx
  have tx := X2; obtain ⟨cX_b, cX_f, cX_0, cX_1, cX_2, cX_3, cX_4, cX_5, cX_6, cX_7, cX_8, cX_9, cX_10, cX_11, cX_12⟩ := tx
  go_wp2_with fail
  clear cZ_b cZ_f cZ_0 cZ_1 cZ_2 cZ_3 cZ_4 cZ_5 cZ_6 cZ_7 cZ_8 cZ_9 cZ_10 cZ_11 cZ_12 cX_b cX_f cX_0 cX_1 cX_2 cX_3 cX_4 cX_5 cX_6 cX_7 cX_8 cX_9 cX_10 cX_11 cX_12
  refine (A2.out _ (HL.out _ (grB B2))).mono ?_; rintro e v a
  obtain ⟨rfl, b1⟩ := ansP_no hs a
  refine (show bodyPost _ _ _ (Exit.panic _) _ _ from ?_); simp only [bodyPost]
  exact ⟨trivial, below_step (grB B2) b1, .inr ⟨hs, by first | rfl | trivial⟩⟩
 subst hs
 have tx := Z2; obtain ⟨cZ_b, cZ_f, cZ_0, cZ_1, cZ_2, cZ_3, cZ_4, cZ_5, cZ_6, cZ_7, cZ_8, cZ_9, cZ_10, cZ_11, cZ_12⟩ := tx
 have tx := X2; obtain ⟨cX_b, cX_f, cX_0, cX_1, cX_2, cX_3, cX_4, cX_5, cX_6, cX_7, cX_8, cX_9, cX_10, cX_11, cX_12⟩ := tx
 go_wp2_with fail
 clear cZ_b cZ_f cZ_0 cZ_1 cZ_2 cZ_3 cZ_4 cZ_5 cZ_6 cZ_7 cZ_8 cZ_9 cZ_10 cZ_11 cZ_12 cX_b cX_f cX_0 cX_1 cX_2 cX_3 cX_4 cX_5 cX_6 cX_7 cX_8 cX_9 cX_10 cX_11 cX_12
 refine ((A2.out _ (HL.out _ (grB B2))).mono fun _ _ a => ansT a).mono ?_; rintro e w3 ⟨rfl, b3⟩
 have d3 : Below w2.heap.size w2 w3 := below_step gr0 b3
 have B3 := Lib.hid (below_step B2.out d3)
 have Z3 := Z2.keep d3
 have X3 := X2.keep d3
 clear Z2 X2 b3 d3 B2
 clear g0 g1 g2
 obtain ⟨g0, g1, g2⟩ := HC.out _ B3.out
 have tx := Z3; obtain ⟨cZ_b, cZ_f, cZ_0, cZ_1, cZ_2, cZ_3, cZ_4, cZ_5, cZ_6, cZ_7, cZ_8, cZ_9, cZ_10, cZ_11, cZ_12⟩ := tx
 have tx := X3; obtain ⟨cX_b, cX_f, cX_0, cX_1, cX_2, cX_3, cX_4, cX_5, cX_6, cX_7, cX_8, cX_9, cX_10, cX_11, cX_12⟩ := tx
 go_wp2_with fail
 refine (CK.out _ (HL.out _ (grB B3))).mono ?_; rintro e v ⟨rfl, rfl⟩
 by_cases h3 : q2 = 0
 case neg =>
  obtain rfl : F = q2 := by rw [HF.out]; simp [Ru.fst, h3]
  go_wp2_with fail
  refine (for_no _ _ h3).mono ?_; rintro e v ⟨rfl, rfl⟩
  refine (show bodyPost _ _ _ (Exit.panic _) _ _ from ?_); simp only [bodyPost]
  exact ⟨trivial, (grB B3), .inr ⟨h3, by first | rfl | trivial⟩⟩
 subst h3
 obtain rfl : F = G := by rw [HF.out, ← HG.out]; simp [Ru.fst]
 go_wp2_with fail
 refine (for_yes _).mono ?_; rintro e v ⟨rfl, rfl⟩
 go_wp2_with fail
 try (case inl h9 => exact absurd h9 h8)
 by_cases h4 : F = 0
 case neg =>
  refine (EN.out _ _ (SB.out _ (grB B3)) (HL.out _ (grB B3))).mono ?_; rintro e v a
  obtain ⟨rfl, b1⟩ := ansP_no h4 a
  refine (show bodyPost _ _ _ (Exit.panic _) _ _ from ?_); simp only [bodyPost]
  exact ⟨trivial, below_step (grB B3) b1, .inr ⟨h4, by first | rfl | trivial⟩⟩
 subst h4
 refine ((EN.out _ _ (SB.out _ (grB B3)) (HL.out _ (grB B3))).mono fun _ _ a => ansT a).mono ?_; rintro e w4 ⟨rfl, b4⟩
 have hz := B3.out.size
 have B4 := Lib.hid (show Below w.heap.size w w4 from below_step (by repeat (first | exact B3.out | refine below_drewN ?_ _ | refine Below.drew ?_ | refine Below.setCell ?_ (by simp <;> omega) _ | refine Below.alloc ?_ (by simp <;> omega) _)) b4)
 have Z4 : Bk13 w4 (w.heap.size) (.int .i64 0) (.int .i64 0) (.int .i64 0) (.string ⟨#[]⟩) (.string ⟨#[]⟩) (.bool false) (.int .i64 0) (.int .i64 0) (.int .i64 0) (.int .i64 0) (.int .i64 0) (.int .i64 0) (.int .i64 0) := by refine Bk13.of b4 (by simp <;> omega) (by intro j; simp [go_sem, cZ_b, cZ_f, cZ_0, cZ_1, cZ_2, cZ_3, cZ_4, cZ_5, cZ_6, cZ_7, cZ_8, cZ_9, cZ_10, cZ_11, cZ_12, cX_b, cX_f, cX_0, cX_1, cX_2, cX_3, cX_4, cX_5, cX_6, cX_7, cX_8, cX_9, cX_10, cX_11, cX_12, nXZ, oXZ]) ?_ ?_ ?_ ?_ ?_ ?_ ?_ ?_ ?_ ?_ ?_ ?_ ?_ <;> simp [go_sem, cZ_b, cZ_f, cZ_0, cZ_1, cZ_2, cZ_3, cZ_4, cZ_5, cZ_6, cZ_7, cZ_8, cZ_9, cZ_10, cZ_11, cZ_12, cX_b, cX_f, cX_0, cX_1, cX_2, cX_3, cX_4, cX_5, cX_6, cX_7, cX_8, cX_9, cX_10, cX_11, cX_12, nXZ, oXZ]
 have X4 : Bk13 w4 (w1.heap.size) (.int .i64 off) (.int .i64 1) (.int .i64 sv) (.string ⟨#[]⟩) (.string f2) (.bool false) (.int .i64 0) (.int .i64 0) (.int .i64 0) (.int .i64 0) (.int .i64 0) (.int .i64 0) (.int .i64 0) := by refine Bk13.of b4 (by simp <;> omega) (by intro j; simp [go_sem, cZ_b, cZ_f, cZ_0, cZ_1, cZ_2, cZ_3, cZ_4, cZ_5, cZ_6, cZ_7, cZ_8, cZ_9, cZ_10, cZ_11, cZ_12, cX_b, cX_f, cX_0, cX_1, cX_2, cX_3, cX_4, cX_5, cX_6, cX_7, cX_8, cX_9, cX_10, cX_11, cX_12, nXZ, oXZ]) ?_ ?_ ?_ ?_ ?_ ?_ ?_ ?_ ?_ ?_ ?_ ?_ ?_ <;> simp [go_sem, cZ_b, cZ_f, cZ_0, cZ_1, cZ_2, cZ_3, cZ_4, cZ_5, cZ_6, cZ_7, cZ_8, cZ_9, cZ_10, cZ_11, cZ_12, cX_b, cX_f, cX_0, cX_1, cX_2, cX_3, cX_4, cX_5, cX_6, cX_7, cX_8, cX_9, cX_10, cX_11, cX_12, nXZ, oXZ]
 clear b4 hz B3 Z3 X3 cZ_b cZ_f cZ_0 cZ_1 cZ_2 cZ_3 cZ_4 cZ_5 cZ_6 cZ_7 cZ_8 cZ_9 cZ_10 cZ_11 cZ_12 cX_b cX_f cX_0 cX_1 cX_2 cX_3 cX_4 cX_5 cX_6 cX_7 cX_8 cX_9 cX_10 cX_11 cX_12
 clear g0 g1 g2
 have tx := Z4; obtain ⟨cZ_b, cZ_f, cZ_0, cZ_1, cZ_2, cZ_3, cZ_4, cZ_5, cZ_6, cZ_7, cZ_8, cZ_9, cZ_10, cZ_11, cZ_12⟩ := tx
 have tx := X4; obtain ⟨cX_b, cX_f, cX_0, cX_1, cX_2, cX_3, cX_4, cX_5, cX_6, cX_7, cX_8, cX_9, cX_10, cX_11, cX_12⟩ := tx
 go_upto_region 12 with (fail)
 clear cZ_b cZ_f cZ_0 cZ_1 cZ_2 cZ_3 cZ_4 cZ_5 cZ_6 cZ_7 cZ_8 cZ_9 cZ_10 cZ_11 cZ_12 cX_b cX_f cX_0 cX_1 cX_2 cX_3 cX_4 cX_5 cX_6 cX_7 cX_8 cX_9 cX_10 cX_11 cX_12
 refine wp_named ?_; intro x9 hx9
 have B99 := Lib.hid (show Below w.heap.size w x9 by rw [hx9]; exact (grB B4))
 have X99 := ((((((((X4.set5 (v := .bool uh) rfl).set6 (v := .int .i64 uy) rfl).set7 (v := .int .i64 um) rfl).set8 (v := .int .i64 uk) rfl).set9 (v := .int .i64 uwk) rfl).set10 (v := .int .i64 ud) rfl).set11 (v := .int .i64 us) rfl).set12 (v := .int .i64 ub) hx9)
 have Z99 := ((((((((Z4.other (i := 5) (v := .bool uh) rfl (by have := Z4.hb; omega)).other (i := 6) (v := .int .i64 uy) rfl (by have := Z4.hb; omega)).other (i := 7) (v := .int .i64 um) rfl (by have := Z4.hb; omega)).other (i := 8) (v := .int .i64 uk) rfl (by have := Z4.hb; omega)).other (i := 9) (v := .int .i64 uwk) rfl (by have := Z4.hb; omega)).other (i := 10) (v := .int .i64 ud) rfl (by have := Z4.hb; omega)).other (i := 11) (v := .int .i64 us) rfl (by have := Z4.hb; omega)).other (i := 12) (v := .int .i64 ub) hx9 (by have := Z4.hb; omega))
 clear hx9 X4 Z4 B4
 have tx := Z99; obtain ⟨cZ_b, cZ_f, cZ_0, cZ_1, cZ_2, cZ_3, cZ_4, cZ_5, cZ_6, cZ_7, cZ_8, cZ_9, cZ_10, cZ_11, cZ_12⟩ := tx
 have tx := X99; obtain ⟨cX_b, cX_f, cX_0, cX_1, cX_2, cX_3, cX_4, cX_5, cX_6, cX_7, cX_8, cX_9, cX_10, cX_11, cX_12⟩ := tx
 refine wp_region_lit ?_
 go_step; go_simp; go_step
 clear cZ_b cZ_f cZ_0 cZ_1 cZ_2 cZ_3 cZ_4 cZ_5 cZ_6 cZ_7 cZ_8 cZ_9 cZ_10 cZ_11 cZ_12 cX_b cX_f cX_0 cX_1 cX_2 cX_3 cX_4 cX_5 cX_6 cX_7 cX_8 cX_9 cX_10 cX_11 cX_12
 refine wpList_st13 ?_ 31 (Operand.tmp 2) (Operand.tmp 43) ?_ w.heap.size (.int .i64 off) (.int .i64 1) (.int .i64 sv) (.string ⟨#[]⟩) (.string f2) (.bool uh) (.int .i64 uy) (.int .i64 um) (.int .i64 uk) (.int .i64 uwk) (.int .i64 ud) (.int .i64 us) (.int .i64 ub) ?_ ?_ ?_ Z99 ?_ (fun W9 C hbel => ?_)
 ·
  rfl
 ·
  rfl
 ·
  rfl
 ·
  rfl
 ·
  kernel_rfl
 ·
  simp [Value.oneCell']
 have d9 := hbel _ _ (Nat.le_refl _) B99.out
 clear hbel X99 Z99
 have e0 := C.k0; have e1 := C.k1; have e2 := C.k2; have e3 := C.k3; have e4 := C.k4; have e5 := C.k5; have e6 := C.k6; have e7 := C.k7; have e8 := C.k8; have e9 := C.k9; have e10 := C.k10; have e11 := C.k11; have e12 := C.k12
 clear C
 go_step
 go_simp
 go_step
 go_step
 simp +zetaDelta only [Exit.then, Exit.inBlock]
 exact bodyPost_ret (v := .agg #[.int .i64 off, .int .i64 1, .int .i64 sv, .string ⟨#[]⟩, .string f2, .bool uh, .int .i64 uy, .int .i64 um, .int .i64 uk, .int .i64 uwk, .int .i64 ud, .int .i64 us, .int .i64 ub]) (by simp [results, Tryz.results42, go_sem, e0, e1, e2, e3, e4, e5, e6, e7, e8, e9, e10, e11, e12]) rfl ⟨d9, .inl ⟨by first | rfl | trivial, by rfl⟩⟩
set_option maxHeartbeats 8000000 in
set_option maxRecDepth 100000 in
theorem erread_nameda (q : Addr) (n c : Nat) (f0 f1 f2 : ByteArray) (r : List ByteArray) (hr : r.length ≤ 4) (hn : n = r.length + 3) (hc : n ≤ c) (h8 : c = 3) (w : World) (S : StS w (.slice (some q) n c) (f0 :: f1 :: f2 :: r)) (hz : ∀ x ∈ f0 :: f1 :: f2 :: r, x.size ≤ 600) (tp : TypeId) (p : Value) (y : Int) (L : Ru.Lv w tp p y) (h1 : f1 ≠ ⟨#[45]⟩) (h2 : Er.isA f1.data.toList = false) :
  Calls Tryz.prog 42 #[.slice (some q) n c] w fun e w' => Below w.heap.size w w' ∧ ((Ru.fst (Er.rdW f0 f1 f2 r) = 0 ∧ e = .returned (Er.rdV f0 f1 f2 r)) ∨ (Ru.fst (Er.rdW f0 f1 f2 r) ≠ 0 ∧ e = .panicked (gvP (Ru.fst (Er.rdW f0 f1 f2 r))))) := by
 have z0 := hz f0 (by simp); have z1 := hz f1 (by simp); have z2 := hz f2 (by simp)
 have A1 := Lib.hid (fun W (h : Ru.Lv W tp p y) => eram_any f0 54000 W y (by decide) (by decide) z0 h.mx)
 have A2 := Lib.hid (fun W (h : Ru.Lv W tp p y) => eram_any f1 10800 W y (by decide) (by decide) z1 h.mx)
 have IS := Lib.hid (fun W => erisa_any f1 W z1)
 have NM := Lib.hid (fun W => rname_any f1 W (Nat.le_trans z1 (by decide)))
 have CK := Lib.hid (fun W (h : Ru.Lv W tp p y) => fcheck_any f2 W y (by omega) h.mx)
 have EN := Lib.hid (fun W v' (s : StS W v' r) (h : Ru.Lv W tp p y) => eren_all v' r hr W s (fun x hx => hz x (by simp [hx])) tp p y h)
 unfold Er.U.v at EN
 have HL := Lib.hid (fun W (b : Below w.heap.size w W) => L.on b)
 have SB := Lib.hid (fun W (b : Below w.heap.size w W) => (⟨_, _, rfl, fun h => absurd h (by omega)⟩ : StS W (.slice (some q) r.length 0) r))
 subst h8
 obtain ⟨A, c1, hv, hA⟩ := S
 obtain ⟨q', e, hq, hcell⟩ := hA (by simp)
 have eA : some q = A := by injection hv
 rw [e] at eA
 cases eA
 clear hv
 have HC : Hid (∀ W, Below w.heap.size w W → W.cell? q = some (.string f0) ∧ W.cell? ⟨q.block, q.off + 1, none⟩ = some (.string f1) ∧ W.cell? ⟨q.block, q.off + 2, none⟩ = some (.string f2)) := fun W b => by
  have k : ∀ i x, ((f0 :: f1 :: f2 :: r).map Value.string)[i]? = some x → W.cell? (q.add i) = some x := fun i x hx => by
   have := hcell i x hx
   exact (b.cell (by rw [blk_add]; exact hq)).trans this
  have k0 := k 0 _ rfl
  rw [Addr.add_zero'] at k0
  have kk : ∀ i, q.add (i + 1) = ⟨q.block, q.off + (i + 1), none⟩ := fun i => by rw [Addr.add_succ']
  have k1 := k 1 _ rfl; have k2 := k 2 _ rfl
  rw [kk 0] at k1; rw [kk 1] at k2
  exact ⟨k0, k1, k2⟩
 have n1 : q.block ≠ w.heap.size := Nat.ne_of_lt hq
 have n3 : w.heap.size ≠ q.block := Nat.ne_of_gt hq
 obtain ⟨F, hF⟩ : ∃ F, F = Ru.fst (Er.rdW f0 f1 f2 r) := ⟨_, rfl⟩
 rw [← hF]
 unfold Er.rdV
 have e1 : Er.rk f1 = (2, 0, f1) := by unfold Er.rk; rw [if_neg h1, if_neg (by simp [h2])]
 have e2 : Er.rq f1 = Lk.nm f1.data.toList := by unfold Er.rq; rw [if_neg h1, if_neg (by simp [h2])]
 rw [e1]
 replace hF : F = Ru.fst ((Er.am 54000 f0).2 :: Lk.nm f1.data.toList :: (Fo.kd f2.data.toList).2 :: Er.enW r) := by rw [hF]; unfold Er.rdW; rw [e2]
 unfold Er.ev
 clear hcell L hz z0 z1 z2 hA e1 e2 hr
 have hq0 : 3 ≤ n := by omega
 generalize (Er.am 54000 f0).1 = off at *
 generalize (Er.am 54000 f0).2 = q0 at *
 generalize (Er.am 10800 f1).1 = sv at *
 generalize (Er.am 10800 f1).2 = qs at *
 generalize Lk.nm f1.data.toList = qn at *
 generalize (Fo.kd f2.data.toList).2 = q2 at *
 generalize Er.enV r = u at *
 generalize hE : Er.enW r = E at *
 clear hE
 generalize hG : Ru.fst E = G at *
 obtain ⟨uh, uy, um, uk, uwk, ud, us, ub⟩ := u
 have HF := Lib.hid hF; clear hF
 have HG := Lib.hid hG; clear hG
 go_enter Tryz.func42, Tryz.ntmps42
 obtain ⟨g0, g1, g2⟩ := HC.out _ (Below.refl _ _)
 by_cases h0 : q0 = 0
 case neg =>
  obtain rfl : F = q0 := by rw [HF.out]; exact Ru.fst_no h0
  go_wp2_with fail
  refine (A1.out _ (HL.out _ gr0)).mono ?_; rintro e w1 a
  obtain ⟨rfl, b1⟩ := ansP_no h0 a
  refine (show bodyPost _ _ _ (Exit.panic _) _ _ from ?_); simp only [bodyPost]
  exact ⟨trivial, below_step gr0 b1, .inr ⟨h0, by first | rfl | trivial⟩⟩
 subst h0
 go_wp2_with fail
 refine ((A1.out _ (HL.out _ gr0)).mono fun _ _ a => ansT a).mono ?_; rintro e w1 ⟨rfl, b1⟩
 have d1 : Below w.heap.size w w1 := below_step gr0 b1
 have B1 := Lib.hid d1
 have Z1 : Bk13 w1 (w.heap.size) (.int .i64 0) (.int .i64 0) (.int .i64 0) (.string ⟨#[]⟩) (.string ⟨#[]⟩) (.bool false) (.int .i64 0) (.int .i64 0) (.int .i64 0) (.int .i64 0) (.int .i64 0) (.int .i64 0) (.int .i64 0) := by refine Bk13.of b1 (by simp <;> omega) (by intro j; simp [go_sem]) ?_ ?_ ?_ ?_ ?_ ?_ ?_ ?_ ?_ ?_ ?_ ?_ ?_ <;> simp [go_sem]
 clear b1 d1
 clear g0 g1 g2
 obtain ⟨g0, g1, g2⟩ := HC.out _ B1.out
 have hqk := Nat.lt_of_lt_of_le hq B1.out.size
 have n5 : q.block ≠ w1.heap.size := Nat.ne_of_lt hqk
 have n6 : w1.heap.size ≠ q.block := Nat.ne_of_gt hqk
 have m1 : (f1.toList == [45]) = false := by
  rw [beq_eq_false_iff_ne]
  intro e
  rw [ByteArray.toList_eq] at e
  exact h1 (ByteArray.ext (Array.toList_inj.1 e))
 rw [h2] at IS
 have tx := Z1; obtain ⟨cZ_b, cZ_f, cZ_0, cZ_1, cZ_2, cZ_3, cZ_4, cZ_5, cZ_6, cZ_7, cZ_8, cZ_9, cZ_10, cZ_11, cZ_12⟩ := tx
 go_wp2_with fail
 clear cZ_b cZ_f cZ_0 cZ_1 cZ_2 cZ_3 cZ_4 cZ_5 cZ_6 cZ_7 cZ_8 cZ_9 cZ_10 cZ_11 cZ_12
 refine (IS.out _).mono ?_; rintro e w2 ⟨rfl, b2⟩
 have d2 : Below w1.heap.size w1 w2 := below_step gr0 b2
 have B2 := Lib.hid (below_step B1.out d2)
 have Z2 := Z1.keep d2
 have aX := B1.out.size
 have nXZ := Nat.ne_of_lt Z1.hb
 have oXZ := Nat.ne_of_gt Z1.hb
 have X2 : Bk13 w2 (w1.heap.size) (.int .i64 off) (.int .i64 0) (.int .i64 0) (.string ⟨#[]⟩) (.string ⟨#[]⟩) (.bool false) (.int .i64 0) (.int .i64 0) (.int .i64 0) (.int .i64 0) (.int .i64 0) (.int .i64 0) (.int .i64 0) := by refine Bk13.of b2 (by simp <;> omega) (by intro j; simp [go_sem]) ?_ ?_ ?_ ?_ ?_ ?_ ?_ ?_ ?_ ?_ ?_ ?_ ?_ <;> simp [go_sem]
 clear Z1 b2 d2 B1
 clear g0 g1 g2
 obtain ⟨g0, g1, g2⟩ := HC.out _ B2.out
 have tx := Z2; obtain ⟨cZ_b, cZ_f, cZ_0, cZ_1, cZ_2, cZ_3, cZ_4, cZ_5, cZ_6, cZ_7, cZ_8, cZ_9, cZ_10, cZ_11, cZ_12⟩ := tx
 have tx := X2; obtain ⟨cX_b, cX_f, cX_0, cX_1, cX_2, cX_3, cX_4, cX_5, cX_6, cX_7, cX_8, cX_9, cX_10, cX_11, cX_12⟩ := tx
 go_wp2_with fail
 refine (NM.out _).mono ?_; rintro e v ⟨rfl, rfl⟩
 by_cases hs : qn = 0
 case neg =>
  obtain rfl : F = qn := by rw [HF.out]; simp [Ru.fst, hs]
  go_wp2_with fail
  refine (for_no _ _ hs).mono ?_; rintro e v ⟨rfl, rfl⟩
  refine (show bodyPost _ _ _ (Exit.panic _) _ _ from ?_); simp only [bodyPost]
  exact ⟨trivial, (grB B2), .inr ⟨hs, by first | rfl | trivial⟩⟩
 subst hs
 go_wp2_with fail
 refine (for_yes _).mono ?_; rintro e v ⟨rfl, rfl⟩
 go_wp2_with fail
 refine (CK.out _ (HL.out _ (grB B2))).mono ?_; rintro e v ⟨rfl, rfl⟩
 by_cases h3 : q2 = 0
 case neg =>
  obtain rfl : F = q2 := by rw [HF.out]; simp [Ru.fst, h3]
  go_wp2_with fail
  refine (for_no _ _ h3).mono ?_; rintro e v ⟨rfl, rfl⟩
  refine (show bodyPost _ _ _ (Exit.panic _) _ _ from ?_); simp only [bodyPost]
  exact ⟨trivial, (grB B2), .inr ⟨h3, by first | rfl | trivial⟩⟩
 subst h3
 obtain rfl : F = G := by rw [HF.out, ← HG.out]; simp [Ru.fst]
 go_wp2_with fail
 refine (for_yes _).mono ?_; rintro e v ⟨rfl, rfl⟩
 go_wp2_with fail
 by_cases h4 : F = 0
 case neg =>
  refine (EN.out _ _ (SB.out _ (grB B2)) (HL.out _ (grB B2))).mono ?_; rintro e v a
  obtain ⟨rfl, b1⟩ := ansP_no h4 a
  refine (show bodyPost _ _ _ (Exit.panic _) _ _ from ?_); simp only [bodyPost]
  exact ⟨trivial, below_step (grB B2) b1, .inr ⟨h4, by first | rfl | trivial⟩⟩
 subst h4
 refine ((EN.out _ _ (SB.out _ (grB B2)) (HL.out _ (grB B2))).mono fun _ _ a => ansT a).mono ?_; rintro e w3 ⟨rfl, b3⟩
 have hz := B2.out.size
 have B3 := Lib.hid (show Below w.heap.size w w3 from below_step (by repeat (first | exact B2.out | refine below_drewN ?_ _ | refine Below.drew ?_ | refine Below.setCell ?_ (by simp <;> omega) _ | refine Below.alloc ?_ (by simp <;> omega) _)) b3)
 have Z3 : Bk13 w3 (w.heap.size) (.int .i64 0) (.int .i64 0) (.int .i64 0) (.string ⟨#[]⟩) (.string ⟨#[]⟩) (.bool false) (.int .i64 0) (.int .i64 0) (.int .i64 0) (.int .i64 0) (.int .i64 0) (.int .i64 0) (.int .i64 0) := by refine Bk13.of b3 (by simp <;> omega) (by intro j; simp [go_sem, cZ_b, cZ_f, cZ_0, cZ_1, cZ_2, cZ_3, cZ_4, cZ_5, cZ_6, cZ_7, cZ_8, cZ_9, cZ_10, cZ_11, cZ_12, cX_b, cX_f, cX_0, cX_1, cX_2, cX_3, cX_4, cX_5, cX_6, cX_7, cX_8, cX_9, cX_10, cX_11, cX_12, nXZ, oXZ]) ?_ ?_ ?_ ?_ ?_ ?_ ?_ ?_ ?_ ?_ ?_ ?_ ?_ <;> simp [go_sem, cZ_b, cZ_f, cZ_0, cZ_1, cZ_2, cZ_3, cZ_4, cZ_5, cZ_6, cZ_7, cZ_8, cZ_9, cZ_10, cZ_11, cZ_12, cX_b, cX_f, cX_0, cX_1, cX_2, cX_3, cX_4, cX_5, cX_6, cX_7, cX_8, cX_9, cX_10, cX_11, cX_12, nXZ, oXZ]
 have X3 : Bk13 w3 (w1.heap.size) (.int .i64 off) (.int .i64 2) (.int .i64 0) (.string f1) (.string f2) (.bool false) (.int .i64 0) (.int .i64 0) (.int .i64 0) (.int .i64 0) (.int .i64 0) (.int .i64 0) (.int .i64 0) := by refine Bk13.of b3 (by simp <;> omega) (by intro j; simp [go_sem, cZ_b, cZ_f, cZ_0, cZ_1, cZ_2, cZ_3, cZ_4, cZ_5, cZ_6, cZ_7, cZ_8, cZ_9, cZ_10, cZ_11, cZ_12, cX_b, cX_f, cX_0, cX_1, cX_2, cX_3, cX_4, cX_5, cX_6, cX_7, cX_8, cX_9, cX_10, cX_11, cX_12, nXZ, oXZ]) ?_ ?_ ?_ ?_ ?_ ?_ ?_ ?_ ?_ ?_ ?_ ?_ ?_ <;> simp [go_sem, cZ_b, cZ_f, cZ_0, cZ_1, cZ_2, cZ_3, cZ_4, cZ_5, cZ_6, cZ_7, cZ_8, cZ_9, cZ_10, cZ_11, cZ_12, cX_b, cX_f, cX_0, cX_1, cX_2, cX_3, cX_4, cX_5, cX_6, cX_7, cX_8, cX_9, cX_10, cX_11, cX_12, nXZ, oXZ]
 clear b3 hz B2 Z2 X2 cZ_b cZ_f cZ_0 cZ_1 cZ_2 cZ_3 cZ_4 cZ_5 cZ_6 cZ_7 cZ_8 cZ_9 cZ_10 cZ_11 cZ_12 cX_b cX_f cX_0 cX_1 cX_2 cX_3 cX_4 cX_5 cX_6 cX_7 cX_8 cX_9 cX_10 cX_11 cX_12
 clear g0 g1 g2
 have tx := Z3; obtain ⟨cZ_b, cZ_f, cZ_0, cZ_1, cZ_2, cZ_3, cZ_4, cZ_5, cZ_6, cZ_7, cZ_8, cZ_9, cZ_10, cZ_11, cZ_12⟩ := tx
 have tx := X3; obtain ⟨cX_b, cX_f, cX_0, cX_1, cX_2, cX_3, cX_4, cX_5, cX_6, cX_7, cX_8, cX_9, cX_10, cX_11, cX_12⟩ := tx
 go_upto_region 12 with (fail)
 clear cZ_b cZ_f cZ_0 cZ_1 cZ_2 cZ_3 cZ_4 cZ_5 cZ_6 cZ_7 cZ_8 cZ_9 cZ_10 cZ_11 cZ_12 cX_b cX_f cX_0 cX_1 cX_2 cX_3 cX_4 cX_5 cX_6 cX_7 cX_8 cX_9 cX_10 cX_11 cX_12
 refine wp_named ?_; intro x9 hx9
 have B99 := Lib.hid (show Below w.heap.size w x9 by rw [hx9]; exact (grB B3))
 have X99 := ((((((((X3.set5 (v := .bool uh) rfl).set6 (v := .int .i64 uy) rfl).set7 (v := .int .i64 um) rfl).set8 (v := .int .i64 uk) rfl).set9 (v := .int .i64 uwk) rfl).set10 (v := .int .i64 ud) rfl).set11 (v := .int .i64 us) rfl).set12 (v := .int .i64 ub) hx9)
 have Z99 := ((((((((Z3.other (i := 5) (v := .bool uh) rfl (by have := Z3.hb; omega)).other (i := 6) (v := .int .i64 uy) rfl (by have := Z3.hb; omega)).other (i := 7) (v := .int .i64 um) rfl (by have := Z3.hb; omega)).other (i := 8) (v := .int .i64 uk) rfl (by have := Z3.hb; omega)).other (i := 9) (v := .int .i64 uwk) rfl (by have := Z3.hb; omega)).other (i := 10) (v := .int .i64 ud) rfl (by have := Z3.hb; omega)).other (i := 11) (v := .int .i64 us) rfl (by have := Z3.hb; omega)).other (i := 12) (v := .int .i64 ub) hx9 (by have := Z3.hb; omega))
 clear hx9 X3 Z3 B3
 have tx := Z99; obtain ⟨cZ_b, cZ_f, cZ_0, cZ_1, cZ_2, cZ_3, cZ_4, cZ_5, cZ_6, cZ_7, cZ_8, cZ_9, cZ_10, cZ_11, cZ_12⟩ := tx
 have tx := X99; obtain ⟨cX_b, cX_f, cX_0, cX_1, cX_2, cX_3, cX_4, cX_5, cX_6, cX_7, cX_8, cX_9, cX_10, cX_11, cX_12⟩ := tx
 refine wp_region_lit ?_
 go_step; go_simp; go_step
 clear cZ_b cZ_f cZ_0 cZ_1 cZ_2 cZ_3 cZ_4 cZ_5 cZ_6 cZ_7 cZ_8 cZ_9 cZ_10 cZ_11 cZ_12 cX_b cX_f cX_0 cX_1 cX_2 cX_3 cX_4 cX_5 cX_6 cX_7 cX_8 cX_9 cX_10 cX_11 cX_12
 refine wpList_st13 ?_ 31 (Operand.tmp 2) (Operand.tmp 43) ?_ w.heap.size (.int .i64 off) (.int .i64 2) (.int .i64 0) (.string f1) (.string f2) (.bool uh) (.int .i64 uy) (.int .i64 um) (.int .i64 uk) (.int .i64 uwk) (.int .i64 ud) (.int .i64 us) (.int .i64 ub) ?_ ?_ ?_ Z99 ?_ (fun W9 C hbel => ?_)
 ·
  rfl
 ·
  rfl
 ·
  rfl
 ·
  rfl
 ·
  kernel_rfl
 ·
  simp [Value.oneCell']
 have d9 := hbel _ _ (Nat.le_refl _) B99.out
 clear hbel X99 Z99
 have e0 := C.k0; have e1 := C.k1; have e2 := C.k2; have e3 := C.k3; have e4 := C.k4; have e5 := C.k5; have e6 := C.k6; have e7 := C.k7; have e8 := C.k8; have e9 := C.k9; have e10 := C.k10; have e11 := C.k11; have e12 := C.k12
 clear C
 go_step
 go_simp
 go_step
 go_step
 simp +zetaDelta only [Exit.then, Exit.inBlock]
 exact bodyPost_ret (v := .agg #[.int .i64 off, .int .i64 2, .int .i64 0, .string f1, .string f2, .bool uh, .int .i64 uy, .int .i64 um, .int .i64 uk, .int .i64 uwk, .int .i64 ud, .int .i64 us, .int .i64 ub]) (by simp [results, Tryz.results42, go_sem, e0, e1, e2, e3, e4, e5, e6, e7, e8, e9, e10, e11, e12]) rfl ⟨d9, .inl ⟨by first | rfl | trivial, by rfl⟩⟩
set_option maxHeartbeats 8000000 in
set_option maxRecDepth 100000 in
theorem erread_namedb (q : Addr) (n c : Nat) (f0 f1 f2 : ByteArray) (r : List ByteArray) (hr : r.length ≤ 4) (hn : n = r.length + 3) (hc : n ≤ c) (h8 : ¬ c = 3) (w : World) (S : StS w (.slice (some q) n c) (f0 :: f1 :: f2 :: r)) (hz : ∀ x ∈ f0 :: f1 :: f2 :: r, x.size ≤ 600) (tp : TypeId) (p : Value) (y : Int) (L : Ru.Lv w tp p y) (h1 : f1 ≠ ⟨#[45]⟩) (h2 : Er.isA f1.data.toList = false) :
  Calls Tryz.prog 42 #[.slice (some q) n c] w fun e w' => Below w.heap.size w w' ∧ ((Ru.fst (Er.rdW f0 f1 f2 r) = 0 ∧ e = .returned (Er.rdV f0 f1 f2 r)) ∨ (Ru.fst (Er.rdW f0 f1 f2 r) ≠ 0 ∧ e = .panicked (gvP (Ru.fst (Er.rdW f0 f1 f2 r))))) := by
 have z0 := hz f0 (by simp); have z1 := hz f1 (by simp); have z2 := hz f2 (by simp)
 have A1 := Lib.hid (fun W (h : Ru.Lv W tp p y) => eram_any f0 54000 W y (by decide) (by decide) z0 h.mx)
 have A2 := Lib.hid (fun W (h : Ru.Lv W tp p y) => eram_any f1 10800 W y (by decide) (by decide) z1 h.mx)
 have IS := Lib.hid (fun W => erisa_any f1 W z1)
 have NM := Lib.hid (fun W => rname_any f1 W (Nat.le_trans z1 (by decide)))
 have CK := Lib.hid (fun W (h : Ru.Lv W tp p y) => fcheck_any f2 W y (by omega) h.mx)
 have EN := Lib.hid (fun W v' (s : StS W v' r) (h : Ru.Lv W tp p y) => eren_all v' r hr W s (fun x hx => hz x (by simp [hx])) tp p y h)
 unfold Er.U.v at EN
 have HL := Lib.hid (fun W (b : Below w.heap.size w W) => L.on b)
 have SB := Lib.hid (fun W (b : Below w.heap.size w W) => erd_sub (k := r.length) (c' := c - 3) S rfl b)
 obtain ⟨A, c1, hv, hA⟩ := S
 obtain ⟨q', e, hq, hcell⟩ := hA (by simp)
 have eA : some q = A := by injection hv
 rw [e] at eA
 cases eA
 clear hv
 have HC : Hid (∀ W, Below w.heap.size w W → W.cell? q = some (.string f0) ∧ W.cell? ⟨q.block, q.off + 1, none⟩ = some (.string f1) ∧ W.cell? ⟨q.block, q.off + 2, none⟩ = some (.string f2)) := fun W b => by
  have k : ∀ i x, ((f0 :: f1 :: f2 :: r).map Value.string)[i]? = some x → W.cell? (q.add i) = some x := fun i x hx => by
   have := hcell i x hx
   exact (b.cell (by rw [blk_add]; exact hq)).trans this
  have k0 := k 0 _ rfl
  rw [Addr.add_zero'] at k0
  have kk : ∀ i, q.add (i + 1) = ⟨q.block, q.off + (i + 1), none⟩ := fun i => by rw [Addr.add_succ']
  have k1 := k 1 _ rfl; have k2 := k 2 _ rfl
  rw [kk 0] at k1; rw [kk 1] at k2
  exact ⟨k0, k1, k2⟩
 have n1 : q.block ≠ w.heap.size := Nat.ne_of_lt hq
 have n3 : w.heap.size ≠ q.block := Nat.ne_of_gt hq
 obtain ⟨F, hF⟩ : ∃ F, F = Ru.fst (Er.rdW f0 f1 f2 r) := ⟨_, rfl⟩
 rw [← hF]
 unfold Er.rdV
 have e1 : Er.rk f1 = (2, 0, f1) := by unfold Er.rk; rw [if_neg h1, if_neg (by simp [h2])]
 have e2 : Er.rq f1 = Lk.nm f1.data.toList := by unfold Er.rq; rw [if_neg h1, if_neg (by simp [h2])]
 rw [e1]
 replace hF : F = Ru.fst ((Er.am 54000 f0).2 :: Lk.nm f1.data.toList :: (Fo.kd f2.data.toList).2 :: Er.enW r) := by rw [hF]; unfold Er.rdW; rw [e2]
 unfold Er.ev
 clear hcell L hz z0 z1 z2 hA e1 e2 hr
 have hq0 : 3 ≤ n := by omega
 generalize (Er.am 54000 f0).1 = off at *
 generalize (Er.am 54000 f0).2 = q0 at *
 generalize (Er.am 10800 f1).1 = sv at *
 generalize (Er.am 10800 f1).2 = qs at *
 generalize Lk.nm f1.data.toList = qn at *
 generalize (Fo.kd f2.data.toList).2 = q2 at *
 generalize Er.enV r = u at *
 generalize hE : Er.enW r = E at *
 clear hE
 generalize hG : Ru.fst E = G at *
 obtain ⟨uh, uy, um, uk, uwk, ud, us, ub⟩ := u
 have HF := Lib.hid hF; clear hF
 have HG := Lib.hid hG; clear hG
 go_enter Tryz.func42, Tryz.ntmps42
 obtain ⟨g0, g1, g2⟩ := HC.out _ (Below.refl _ _)
 by_cases h0 : q0 = 0
 case neg =>
  obtain rfl : F = q0 := by rw [HF.out]; exact Ru.fst_no h0
  go_wp2_with fail
  refine (A1.out _ (HL.out _ gr0)).mono ?_; rintro e w1 a
  obtain ⟨rfl, b1⟩ := ansP_no h0 a
  refine (show bodyPost _ _ _ (Exit.panic _) _ _ from ?_); simp only [bodyPost]
  exact ⟨trivial, below_step gr0 b1, .inr ⟨h0, by first | rfl | trivial⟩⟩
 subst h0
 go_wp2_with fail
 refine ((A1.out _ (HL.out _ gr0)).mono fun _ _ a => ansT a).mono ?_; rintro e w1 ⟨rfl, b1⟩
 have d1 : Below w.heap.size w w1 := below_step gr0 b1
 have B1 := Lib.hid d1
 have Z1 : Bk13 w1 (w.heap.size) (.int .i64 0) (.int .i64 0) (.int .i64 0) (.string ⟨#[]⟩) (.string ⟨#[]⟩) (.bool false) (.int .i64 0) (.int .i64 0) (.int .i64 0) (.int .i64 0) (.int .i64 0) (.int .i64 0) (.int .i64 0) := by refine Bk13.of b1 (by simp <;> omega) (by intro j; simp [go_sem]) ?_ ?_ ?_ ?_ ?_ ?_ ?_ ?_ ?_ ?_ ?_ ?_ ?_ <;> simp [go_sem]
 clear b1 d1
 clear g0 g1 g2
 obtain ⟨g0, g1, g2⟩ := HC.out _ B1.out
 have hqk := Nat.lt_of_lt_of_le hq B1.out.size
 have n5 : q.block ≠ w1.heap.size := Nat.ne_of_lt hqk
 have n6 : w1.heap.size ≠ q.block := Nat.ne_of_gt hqk
 have m1 : (f1.toList == [45]) = false := by
  rw [beq_eq_false_iff_ne]
  intro e
  rw [ByteArray.toList_eq] at e
  exact h1 (ByteArray.ext (Array.toList_inj.1 e))
 rw [h2] at IS
 have tx := Z1; obtain ⟨cZ_b, cZ_f, cZ_0, cZ_1, cZ_2, cZ_3, cZ_4, cZ_5, cZ_6, cZ_7, cZ_8, cZ_9, cZ_10, cZ_11, cZ_12⟩ := tx
 go_wp2_with fail
 clear cZ_b cZ_f cZ_0 cZ_1 cZ_2 cZ_3 cZ_4 cZ_5 cZ_6 cZ_7 cZ_8 cZ_9 cZ_10 cZ_11 cZ_12
 refine (IS.out _).mono ?_; rintro e w2 ⟨rfl, b2⟩
 have d2 : Below w1.heap.size w1 w2 := below_step gr0 b2
 have B2 := Lib.hid (below_step B1.out d2)
 have Z2 := Z1.keep d2
 have aX := B1.out.size
 have nXZ := Nat.ne_of_lt Z1.hb
 have oXZ := Nat.ne_of_gt Z1.hb
 have X2 : Bk13 w2 (w1.heap.size) (.int .i64 off) (.int .i64 0) (.int .i64 0) (.string ⟨#[]⟩) (.string ⟨#[]⟩) (.bool false) (.int .i64 0) (.int .i64 0) (.int .i64 0) (.int .i64 0) (.int .i64 0) (.int .i64 0) (.int .i64 0) := by refine Bk13.of b2 (by simp <;> omega) (by intro j; simp [go_sem]) ?_ ?_ ?_ ?_ ?_ ?_ ?_ ?_ ?_ ?_ ?_ ?_ ?_ <;> simp [go_sem]
 clear Z1 b2 d2 B1
 clear g0 g1 g2
 obtain ⟨g0, g1, g2⟩ := HC.out _ B2.out
 have tx := Z2; obtain ⟨cZ_b, cZ_f, cZ_0, cZ_1, cZ_2, cZ_3, cZ_4, cZ_5, cZ_6, cZ_7, cZ_8, cZ_9, cZ_10, cZ_11, cZ_12⟩ := tx
 have tx := X2; obtain ⟨cX_b, cX_f, cX_0, cX_1, cX_2, cX_3, cX_4, cX_5, cX_6, cX_7, cX_8, cX_9, cX_10, cX_11, cX_12⟩ := tx
 go_wp2_with fail
 refine (NM.out _).mono ?_; rintro e v ⟨rfl, rfl⟩
 by_cases hs : qn = 0
 case neg =>
  obtain rfl : F = qn := by rw [HF.out]; simp [Ru.fst, hs]
  go_wp2_with fail
  refine (for_no _ _ hs).mono ?_; rintro e v ⟨rfl, rfl⟩
  refine (show bodyPost _ _ _ (Exit.panic _) _ _ from ?_); simp only [bodyPost]
  exact ⟨trivial, (grB B2), .inr ⟨hs, by first | rfl | trivial⟩⟩
 subst hs
 go_wp2_with fail
 refine (for_yes _).mono ?_; rintro e v ⟨rfl, rfl⟩
 go_wp2_with fail
 refine (CK.out _ (HL.out _ (grB B2))).mono ?_; rintro e v ⟨rfl, rfl⟩
 by_cases h3 : q2 = 0
 case neg =>
  obtain rfl : F = q2 := by rw [HF.out]; simp [Ru.fst, h3]
  go_wp2_with fail
  refine (for_no _ _ h3).mono ?_; rintro e v ⟨rfl, rfl⟩
  refine (show bodyPost _ _ _ (Exit.panic _) _ _ from ?_); simp only [bodyPost]
  exact ⟨trivial, (grB B2), .inr ⟨h3, by first | rfl | trivial⟩⟩
 subst h3
 obtain rfl : F = G := by rw [HF.out, ← HG.out]; simp [Ru.fst]
 go_wp2_with fail
 refine (for_yes _).mono ?_; rintro e v ⟨rfl, rfl⟩
 go_wp2_with fail
 try (case inl h9 => exact absurd h9 h8)
 by_cases h4 : F = 0
 case neg =>
  refine (EN.out _ _ (SB.out _ (grB B2)) (HL.out _ (grB B2))).mono ?_; rintro e v a
  obtain ⟨rfl, b1⟩ := ansP_no h4 a
  refine (show bodyPost _ _ _ (Exit.panic _) _ _ from ?_); simp only [bodyPost]
  exact ⟨trivial, below_step (grB B2) b1, .inr ⟨h4, by first | rfl | trivial⟩⟩
 subst h4
 refine ((EN.out _ _ (SB.out _ (grB B2)) (HL.out _ (grB B2))).mono fun _ _ a => ansT a).mono ?_; rintro e w3 ⟨rfl, b3⟩
 have hz := B2.out.size
 have B3 := Lib.hid (show Below w.heap.size w w3 from below_step (by repeat (first | exact B2.out | refine below_drewN ?_ _ | refine Below.drew ?_ | refine Below.setCell ?_ (by simp <;> omega) _ | refine Below.alloc ?_ (by simp <;> omega) _)) b3)
 have Z3 : Bk13 w3 (w.heap.size) (.int .i64 0) (.int .i64 0) (.int .i64 0) (.string ⟨#[]⟩) (.string ⟨#[]⟩) (.bool false) (.int .i64 0) (.int .i64 0) (.int .i64 0) (.int .i64 0) (.int .i64 0) (.int .i64 0) (.int .i64 0) := by refine Bk13.of b3 (by simp <;> omega) (by intro j; simp [go_sem, cZ_b, cZ_f, cZ_0, cZ_1, cZ_2, cZ_3, cZ_4, cZ_5, cZ_6, cZ_7, cZ_8, cZ_9, cZ_10, cZ_11, cZ_12, cX_b, cX_f, cX_0, cX_1, cX_2, cX_3, cX_4, cX_5, cX_6, cX_7, cX_8, cX_9, cX_10, cX_11, cX_12, nXZ, oXZ]) ?_ ?_ ?_ ?_ ?_ ?_ ?_ ?_ ?_ ?_ ?_ ?_ ?_ <;> simp [go_sem, cZ_b, cZ_f, cZ_0, cZ_1, cZ_2, cZ_3, cZ_4, cZ_5, cZ_6, cZ_7, cZ_8, cZ_9, cZ_10, cZ_11, cZ_12, cX_b, cX_f, cX_0, cX_1, cX_2, cX_3, cX_4, cX_5, cX_6, cX_7, cX_8, cX_9, cX_10, cX_11, cX_12, nXZ, oXZ]
 have X3 : Bk13 w3 (w1.heap.size) (.int .i64 off) (.int .i64 2) (.int .i64 0) (.string f1) (.string f2) (.bool false) (.int .i64 0) (.int .i64 0) (.int .i64 0) (.int .i64 0) (.int .i64 0) (.int .i64 0) (.int .i64 0) := by refine Bk13.of b3 (by simp <;> omega) (by intro j; simp [go_sem, cZ_b, cZ_f, cZ_0, cZ_1, cZ_2, cZ_3, cZ_4, cZ_5, cZ_6, cZ_7, cZ_8, cZ_9, cZ_10, cZ_11, cZ_12, cX_b, cX_f, cX_0, cX_1, cX_2, cX_3, cX_4, cX_5, cX_6, cX_7, cX_8, cX_9, cX_10, cX_11, cX_12, nXZ, oXZ]) ?_ ?_ ?_ ?_ ?_ ?_ ?_ ?_ ?_ ?_ ?_ ?_ ?_ <;> simp [go_sem, cZ_b, cZ_f, cZ_0, cZ_1, cZ_2, cZ_3, cZ_4, cZ_5, cZ_6, cZ_7, cZ_8, cZ_9, cZ_10, cZ_11, cZ_12, cX_b, cX_f, cX_0, cX_1, cX_2, cX_3, cX_4, cX_5, cX_6, cX_7, cX_8, cX_9, cX_10, cX_11, cX_12, nXZ, oXZ]
 clear b3 hz B2 Z2 X2 cZ_b cZ_f cZ_0 cZ_1 cZ_2 cZ_3 cZ_4 cZ_5 cZ_6 cZ_7 cZ_8 cZ_9 cZ_10 cZ_11 cZ_12 cX_b cX_f cX_0 cX_1 cX_2 cX_3 cX_4 cX_5 cX_6 cX_7 cX_8 cX_9 cX_10 cX_11 cX_12
 clear g0 g1 g2
 have tx := Z3; obtain ⟨cZ_b, cZ_f, cZ_0, cZ_1, cZ_2, cZ_3, cZ_4, cZ_5, cZ_6, cZ_7, cZ_8, cZ_9, cZ_10, cZ_11, cZ_12⟩ := tx
 have tx := X3; obtain ⟨cX_b, cX_f, cX_0, cX_1, cX_2, cX_3, cX_4, cX_5, cX_6, cX_7, cX_8, cX_9, cX_10, cX_11, cX_12⟩ := tx
 go_upto_region 12 with (fail)
 clear cZ_b cZ_f cZ_0 cZ_1 cZ_2 cZ_3 cZ_4 cZ_5 cZ_6 cZ_7 cZ_8 cZ_9 cZ_10 cZ_11 cZ_12 cX_b cX_f cX_0 cX_1 cX_2 cX_3 cX_4 cX_5 cX_6 cX_7 cX_8 cX_9 cX_10 cX_11 cX_12
 refine wp_named ?_; intro x9 hx9
 have B99 := Lib.hid (show Below w.heap.size w x9 by rw [hx9]; exact (grB B3))
 have X99 := ((((((((X3.set5 (v := .bool uh) rfl).set6 (v := .int .i64 uy) rfl).set7 (v := .int .i64 um) rfl).set8 (v := .int .i64 uk) rfl).set9 (v := .int .i64 uwk) rfl).set10 (v := .int .i64 ud) rfl).set11 (v := .int .i64 us) rfl).set12 (v := .int .i64 ub) hx9)
 have Z99 := ((((((((Z3.other (i := 5) (v := .bool uh) rfl (by have := Z3.hb; omega)).other (i := 6) (v := .int .i64 uy) rfl (by have := Z3.hb; omega)).other (i := 7) (v := .int .i64 um) rfl (by have := Z3.hb; omega)).other (i := 8) (v := .int .i64 uk) rfl (by have := Z3.hb; omega)).other (i := 9) (v := .int .i64 uwk) rfl (by have := Z3.hb; omega)).other (i := 10) (v := .int .i64 ud) rfl (by have := Z3.hb; omega)).other (i := 11) (v := .int .i64 us) rfl (by have := Z3.hb; omega)).other (i := 12) (v := .int .i64 ub) hx9 (by have := Z3.hb; omega))
 clear hx9 X3 Z3 B3
 have tx := Z99; obtain ⟨cZ_b, cZ_f, cZ_0, cZ_1, cZ_2, cZ_3, cZ_4, cZ_5, cZ_6, cZ_7, cZ_8, cZ_9, cZ_10, cZ_11, cZ_12⟩ := tx
 have tx := X99; obtain ⟨cX_b, cX_f, cX_0, cX_1, cX_2, cX_3, cX_4, cX_5, cX_6, cX_7, cX_8, cX_9, cX_10, cX_11, cX_12⟩ := tx
 refine wp_region_lit ?_
 go_step; go_simp; go_step
 clear cZ_b cZ_f cZ_0 cZ_1 cZ_2 cZ_3 cZ_4 cZ_5 cZ_6 cZ_7 cZ_8 cZ_9 cZ_10 cZ_11 cZ_12 cX_b cX_f cX_0 cX_1 cX_2 cX_3 cX_4 cX_5 cX_6 cX_7 cX_8 cX_9 cX_10 cX_11 cX_12
 refine wpList_st13 ?_ 31 (Operand.tmp 2) (Operand.tmp 43) ?_ w.heap.size (.int .i64 off) (.int .i64 2) (.int .i64 0) (.string f1) (.string f2) (.bool uh) (.int .i64 uy) (.int .i64 um) (.int .i64 uk) (.int .i64 uwk) (.int .i64 ud) (.int .i64 us) (.int .i64 ub) ?_ ?_ ?_ Z99 ?_ (fun W9 C hbel => ?_)
 ·
  rfl
 ·
  rfl
 ·
  rfl
 ·
  rfl
 ·
  kernel_rfl
 ·
  simp [Value.oneCell']
 have d9 := hbel _ _ (Nat.le_refl _) B99.out
 clear hbel X99 Z99
 have e0 := C.k0; have e1 := C.k1; have e2 := C.k2; have e3 := C.k3; have e4 := C.k4; have e5 := C.k5; have e6 := C.k6; have e7 := C.k7; have e8 := C.k8; have e9 := C.k9; have e10 := C.k10; have e11 := C.k11; have e12 := C.k12
 clear C
 go_step
 go_simp
 go_step
 go_step
 simp +zetaDelta only [Exit.then, Exit.inBlock]
 exact bodyPost_ret (v := .agg #[.int .i64 off, .int .i64 2, .int .i64 0, .string f1, .string f2, .bool uh, .int .i64 uy, .int .i64 um, .int .i64 uk, .int .i64 uwk, .int .i64 ud, .int .i64 us, .int .i64 ub]) (by simp [results, Tryz.results42, go_sem, e0, e1, e2, e3, e4, e5, e6, e7, e8, e9, e10, e11, e12]) rfl ⟨d9, .inl ⟨by first | rfl | trivial, by rfl⟩⟩
theorem erread_any (q : Addr) (n c : Nat) (f0 f1 f2 : ByteArray) (r : List ByteArray) (hr : r.length ≤ 4) (hn : n = r.length + 3) (hc : n ≤ c) (w : World) (S : StS w (.slice (some q) n c) (f0 :: f1 :: f2 :: r)) (hz : ∀ x ∈ f0 :: f1 :: f2 :: r, x.size ≤ 600) (tp : TypeId) (p : Value) (y : Int) (L : Ru.Lv w tp p y) :
  Calls Tryz.prog 42 #[.slice (some q) n c] w fun e w' => Below w.heap.size w w' ∧ ((Ru.fst (Er.rdW f0 f1 f2 r) = 0 ∧ e = .returned (Er.rdV f0 f1 f2 r)) ∨ (Ru.fst (Er.rdW f0 f1 f2 r) ≠ 0 ∧ e = .panicked (gvP (Ru.fst (Er.rdW f0 f1 f2 r))))) := by
 by_cases h8 : c = 3
 ·
  by_cases h1 : f1 = ⟨#[45]⟩
  ·
   exact erread_nonea q n c f0 f1 f2 r hr hn hc h8 w S hz tp p y L h1
  ·
   cases h2 : Er.isA f1.data.toList with
   | true => exact erread_fixeda q n c f0 f1 f2 r hr hn hc h8 w S hz tp p y L h1 h2
   | false => exact erread_nameda q n c f0 f1 f2 r hr hn hc h8 w S hz tp p y L h1 h2
 ·
  by_cases h1 : f1 = ⟨#[45]⟩
  ·
   exact erread_noneb q n c f0 f1 f2 r hr hn hc h8 w S hz tp p y L h1
  ·
   cases h2 : Er.isA f1.data.toList with
   | true => exact erread_fixedb q n c f0 f1 f2 r hr hn hc h8 w S hz tp p y L h1 h2
   | false => exact erread_namedb q n c f0 f1 f2 r hr hn hc h8 w S hz tp p y L h1 h2
end Go.Proofs.YtjggjkeopbcmoaaGreatDoor
