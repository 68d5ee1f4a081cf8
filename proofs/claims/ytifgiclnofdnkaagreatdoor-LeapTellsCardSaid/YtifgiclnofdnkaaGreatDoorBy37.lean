/- Joined: RsI, LpI, LpW. -/
import Derived.Test.YtifgiclnofdnkaaGreatDoorBy01
import Derived.Test.YtifgiclnofdnkaaGreatDoorBy21
import Derived.Test.YtifgiclnofdnkaaGreatDoorBy26
import Derived.Test.YtifgiclnofdnkaaGreatDoorBy06
import Derived.Test.YtifgiclnofdnkaaGreatDoorBy14
import Derived.Test.YtifgiclnofdnkaaGreatDoorBy36
set_option linter.unusedVariables false
set_option linter.unusedSimpArgs false
namespace Go.Proofs.YtifgiclnofdnkaaGreatDoor
open Go.RowKit Go.Sort
set_option maxHeartbeats 2000000 in
theorem rsof_yes (t : Int) (w : World) (t0 : -9223372036854775808 ≤ t) (t1 : t ≤ 9223372036854775807) (h : Cal.hasD (t / 86400) = true) :
  Calls Tryz.prog 28 #[.int .i64 t] w fun e w' => e = .returned (.tuple #[.agg #[.int .i64 (Cal.dY (t / 86400)), .int .i64 (Cal.dM (t / 86400)), .int .i64 (Cal.dD (t / 86400)), .int .i64 (t % 86400 / 3600), .int .i64 (t % 86400 / 60 % 60), .int .i64 (t % 86400 % 60)], .int .i64 0]) ∧ Below w.heap.size w w' := by
 have C : Hid (∀ w, Calls Tryz.prog 53 #[.int .i64 t, .int .i64 86400] w fun e w' => e = .returned (.int .i64 (t / 86400)) ∧ Below w.heap.size w w') := fun w => (floor_pos t 86400 w t0 t1 (by omega) (by omega)).mono fun _ _ ⟨h, n, e⟩ => ⟨h, by rw [e]; exact below_draw _ _⟩
 have C2 : Hid (∀ w, Calls Tryz.prog 54 #[.int .i64 t, .int .i64 86400] w fun e w' => e = .returned (.int .i64 (t % 86400)) ∧ Below w.heap.size w w') := fun w => (rest_pos t 86400 w t0 t1 (by omega) (by omega)).mono fun _ _ ⟨h, n, e⟩ => ⟨h, by rw [e]; exact below_draw _ _⟩
 have hb := Cal.hasD_true.1 h
 have D : Hid (∀ w, Calls Tryz.prog 52 #[.int .i64 (t / 86400)] w fun e w' => e = .returned (.tuple #[.agg #[.int .i64 (Cal.dY (t / 86400)), .int .i64 (Cal.dM (t / 86400)), .int .i64 (Cal.dD (t / 86400))], .int .i64 0]) ∧ Below w.heap.size w w') := fun w => rdate_yes (t / 86400) w hb.1 hb.2
 have r0 : 0 ≤ t % 86400 := by omega
 have r1 : t % 86400 < 86400 := by omega
 generalize Cal.dY (t / 86400) = a at D ⊢
 generalize Cal.dM (t / 86400) = b at D ⊢
 generalize Cal.dD (t / 86400) = c at D ⊢
 generalize t / 86400 = q at C D
 generalize t % 86400 = r at C2 r0 r1 ⊢
 clear h t0 t1 hb
 go_enter Tryz.func28, Tryz.ntmps28
 go_wp2_with fail
 refine (C.out _).mono ?_; rintro e w1 ⟨rfl, b1⟩
 have d1 : Below w.heap.size w w1 := below_step gr0 b1
 have B1 := Lib.hid d1
 have R1 : Bk6 w1 (w.heap.size) (.int .i64 0) (.int .i64 0) (.int .i64 0) (.int .i64 0) (.int .i64 0) (.int .i64 0) := by refine Bk6.of b1 (by simp <;> omega) (by intro j; simp [go_sem]) ?_ ?_ ?_ ?_ ?_ ?_ <;> simp [go_sem]
 clear b1 d1
 have tx := R1; obtain ⟨cR_b, cR_f, cR_0, cR_1, cR_2, cR_3, cR_4, cR_5⟩ := tx
 go_wp2_with fail
 clear cR_b cR_f cR_0 cR_1 cR_2 cR_3 cR_4 cR_5
 refine (D.out _).mono ?_; rintro e w2 ⟨rfl, b2⟩
 have d2 : Below w1.heap.size w1 w2 := below_step gr0 b2
 have B2 := Lib.hid (below_step B1.out d2)
 have R2 := R1.keep d2
 clear R1 b2 d2 B1
 have tx := R2; obtain ⟨cR_b, cR_f, cR_0, cR_1, cR_2, cR_3, cR_4, cR_5⟩ := tx
 go_wp2_with fail
 clear cR_b cR_f cR_0 cR_1 cR_2 cR_3 cR_4 cR_5
 refine (C2.out _).mono ?_; rintro e w3 ⟨rfl, b3⟩
 have d3 : Below w2.heap.size w2 w3 := below_step gr0 b3
 have B3 := Lib.hid (below_step B2.out d3)
 have R3 := R2.keep d3
 have aX := B2.out.size
 have nXR := Nat.ne_of_lt R2.hb
 have oXR := Nat.ne_of_gt R2.hb
 have X3 : Bk3 w3 (w2.heap.size) (.int .i64 a) (.int .i64 b) (.int .i64 c) := by refine Bk3.of b3 (by simp <;> omega) (by intro j; simp [go_sem]) ?_ ?_ ?_ <;> simp [go_sem]
 clear R2 b3 d3 B2
 have tx := R3; obtain ⟨cR_b, cR_f, cR_0, cR_1, cR_2, cR_3, cR_4, cR_5⟩ := tx
 have tx := X3; obtain ⟨cX_b, cX_f, cX_0, cX_1, cX_2⟩ := tx
 go_upto_region 5 with (fail)
 clear cR_b cR_f cR_0 cR_1 cR_2 cR_3 cR_4 cR_5 cX_b cX_f cX_0 cX_1 cX_2
 refine wp_named ?_; intro w4 hw4
 have d4 : Below w3.heap.size w3 w4 := by rw [hw4]; exact gr0
 have B4 := Lib.hid (below_step B3.out d4)
 have R4 := R3.keep d4
 have X4 := X3.keep d4
 clear R3 X3 d4 hw4 B3
 have tx := R4; obtain ⟨cR_b, cR_f, cR_0, cR_1, cR_2, cR_3, cR_4, cR_5⟩ := tx
 have tx := X4; obtain ⟨cX_b, cX_f, cX_0, cX_1, cX_2⟩ := tx
 go_wp2_with fail
 refine bodyPost_ret (v := .tuple #[.agg #[.int .i64 a, .int .i64 b, .int .i64 c, .int .i64 (r / 3600), .int .i64 (r / 60 % 60), .int .i64 (r % 60)], .int .i64 0]) (by simp [results, Tryz.results28, go_sem, cR_b, cR_f, cR_0, cR_1, cR_2, cR_3, cR_4, cR_5, cX_b, cX_f, cX_0, cX_1, cX_2]) rfl ⟨rfl, ?_⟩
 clear cR_b cR_f cR_0 cR_1 cR_2 cR_3 cR_4 cR_5 cX_b cX_f cX_0 cX_1 cX_2
 have hz := B4.out.size
 iterate 6 (refine Below.setCell ?_ (by first | omega | (simp; done) | (simp; omega)) _)
 exact B4.out
namespace Lp
def jt (l : List X) (k : Nat) : List UInt8 := (l.take k).flatMap (fun x => line x ++ [10])
theorem jt_succ (l : List X) (k : Nat) (hk : k < l.length) : jt l (k + 1) = jt l k ++ (line l[k] ++ [10]) := by
 unfold jt
 rw [List.take_succ_eq_append_getElem hk, List.flatMap_append]
 rw [List.flatMap_cons, List.flatMap_nil, List.append_nil]
theorem jt_len (l : List X) (k : Nat) (h : ∀ x ∈ l, ok1 x) (hk : k ≤ 1000) : (jt l k).length ≤ 67000 := by
 have := tx_len (l.take k) (fun x hx => h x (List.mem_of_mem_take hx))
 have h2 : (l.take k).length ≤ k := by rw [List.length_take]; omega
 unfold jt
 omega
end Lp
set_option maxHeartbeats 4000000 in
theorem rleText_any (v : Value) (l : List Lp.X) (w : World) (h : SpV w v l) (hm : l.length ≤ 1000000) :
  Calls Tryz.prog 11 #[v] w fun e w' => e = .returned (.tuple #[.string ⟨(Lp.tx l).1.toArray⟩, .int .i64 (Lp.tx l).2]) ∧ Below w.heap.size w w' := by
 have H := Lib.hid h
 obtain ⟨A, c, rfl, -⟩ := h
 obtain ⟨n, hn⟩ : ∃ n, n = l.length := ⟨_, rfl⟩
 rw [← hn] at H ⊢
 have CR := Lib.hid (fun W (S : SpV W (.slice A n c) l) => rleright_any (.slice A n c) l W S hm)
 unfold Lp.tx
 by_cases hr : Lp.right l = true
 case neg =>
  rw [if_neg hr]
  have hr : Lp.right l = false := by simpa using hr
  rw [hr] at CR
  clear hm hr hn
  go_enter Tryz.func11, Tryz.ntmps11
  go_wp2_with fail
  refine (CR.out _ H.out).mono ?_; rintro e w1 ⟨rfl, b1⟩
  have B1 := Lib.hid b1
  go_wp2
  go_ret2
  exact ⟨rfl, B1.out⟩
 rw [if_pos hr]
 obtain ⟨hl1, hok, -⟩ := Lp.right_of hr
 have HOK := Lib.hid hok
 have HN := Lib.hid hn
 have n9 : n ≤ 1000 := by omega
 obtain ⟨ans, hans⟩ : ∃ a : ByteArray, a = ⟨(l.flatMap (fun x => Lp.line x ++ [10])).toArray⟩ := ⟨_, rfl⟩
 show Calls _ _ _ _ fun e w' => e = .returned (.tuple #[.string ⟨(l.flatMap (fun x => Lp.line x ++ [10])).toArray⟩, .int .i64 0]) ∧ _
 rw [← hans]
 have HA := Lib.hid hans
 rw [hr] at CR
 clear hm hr hn hans hl1 hok
 go_enter Tryz.func11, Tryz.ntmps11
 go_wp2_with fail
 refine (CR.out _ H.out).mono ?_; rintro e w1 ⟨rfl, b1⟩
 have B1 := Lib.hid b1
 clear b1 CR
 go_wp2_with fail
 go_loopw [4, 15] (fun sv i wr => ∃ (k : Nat) (s : ByteArray), k ≤ n ∧ sv = .string s ∧ i = .int .i64 k ∧ Hid (s.data.toList = Lp.jt l k) ∧ Hid (Below w.heap.size w wr)) (fun _ i _ => n - (intOf i).toNat)
 case atStart => exact ⟨0, ⟨#[]⟩, Nat.zero_le _, rfl, rfl, Lib.hid rfl, B1⟩
 case round =>
  rename World => w1
  obtain ⟨k, s, hk, rfl, rfl, hs, B1⟩ := hrel
  by_cases hlt : k < n
  ·
   have hkl : k < l.length := by rw [← HN.out]; exact hlt
   obtain ⟨ad, rfl, hab, g1, g2⟩ := (H.out.on B1.out).get k hkl
   have hx := HOK.out l[k] (List.getElem_mem hkl)
   obtain ⟨j1, j2, j3⟩ := Lp.line_jn hx
   have SET := Lib.hid (Lp.jt_succ l k hkl)
   have sl : s.size ≤ 67000 := by
    have := Lp.jt_len l k HOK.out (by omega)
    rw [← hs.out] at this
    rw [show s.data.toList.length = s.size from Array.length_toList] at this
    exact this
   have i1 : (k : Int) < n := by omega
   have x0 := hx.1
   have x1 := hx.2.1
   have hy := hx.2.2
   generalize l[k] = p at *
   obtain ⟨x, y⟩ := p
   dsimp only at x0 x1 j1 j2 j3 g1 g2 hy
   have hh : Cal.hasD (x / 86400) = true := Cal.hasD_true.2 (by omega)
   have OF := Lib.hid (fun W => rsof_yes x W (by omega) (by omega) hh)
   have TXc := Lib.hid (fun W => rstext_any (Cal.dY (x / 86400)) (Cal.dM (x / 86400)) (Cal.dD (x / 86400)) (x % 86400 / 3600) (x % 86400 / 60 % 60) (x % 86400 % 60) W)
   obtain ⟨SX, hSX⟩ : ∃ s : ByteArray, s = ⟨(Lp.stp x).toArray⟩ := ⟨_, rfl⟩
   have TX : Hid (∀ W, Calls Tryz.prog 29 #[.agg #[.int .i64 (Cal.dY (x / 86400)), .int .i64 (Cal.dM (x / 86400)), .int .i64 (Cal.dD (x / 86400)), .int .i64 (x % 86400 / 3600), .int .i64 (x % 86400 / 60 % 60), .int .i64 (x % 86400 % 60)]] W fun e w' => e = .returned (.string SX) ∧ Below W.heap.size W w') := by rw [hSX]; exact TXc
   have sx : SX.size ≤ 64 := by rw [Lp.stp_len hSX]; exact j2
   have HSX := Lib.hid (show SX.data.toList = Lp.stp x by rw [hSX])
   generalize Cal.dY (x / 86400) = a0 at OF TX
   generalize Cal.dM (x / 86400) = a1 at OF TX
   generalize Cal.dD (x / 86400) = a2 at OF TX
   generalize x % 86400 / 3600 = a3 at OF TX
   generalize x % 86400 / 60 % 60 = a4 at OF TX
   generalize x % 86400 % 60 = a5 at OF TX
   clear hx hh hSX j1 j2 j3 x0 x1 TXc
   rcases hy with rfl | rfl
   ·
    have NX := Lib.hid (show (s ++ (SX ++ ⟨#[32]⟩ ++ ⟨#[43]⟩ ++ ⟨#[10]⟩)).data.toList = Lp.jt l (k + 1) from by
     rw [SET.out, fd_app, fd_app, fd_app, fd_app, hs.out, HSX.out]
     unfold Lp.line Lp.sg
     simp)
    have e1 : (SX ++ ⟨#[32]⟩ : ByteArray).size = SX.size + 1 := by rw [ByteArray.size_append]; rfl
    have e2 : (SX ++ ⟨#[32]⟩ ++ ⟨#[43]⟩ : ByteArray).size = SX.size + 2 := by rw [ByteArray.size_append, e1]; rfl
    have e3 : (SX ++ ⟨#[32]⟩ ++ ⟨#[43]⟩ ++ ⟨#[10]⟩ : ByteArray).size = SX.size + 3 := by rw [ByteArray.size_append, e2]; rfl
    clear SET hs
    go_wp2_with fail
    refine (OF.out _).mono ?_; rintro e w2 ⟨rfl, b2⟩
    have d2 : Below w1.heap.size w1 w2 := below_step gr0 b2
    have B2 := Lib.hid (below_step B1.out d2)
    have aX := B1.out.size
    have X2 : Bk2 w2 (w1.heap.size) (.int .i64 x) (.int .i64 1) := by refine Bk2.of b2 (by simp <;> omega) (by intro j; simp [go_sem]) ?_ ?_ <;> simp [go_sem]
    clear b2 d2 B1
    have tx := X2; obtain ⟨cX_b, cX_f, cX_0, cX_1⟩ := tx
    go_wp2_with fail
    clear cX_b cX_f cX_0 cX_1
    refine (TX.out _).mono ?_; rintro e w3 ⟨rfl, b3⟩
    have d3 : Below w2.heap.size w2 w3 := below_step gr0 b3
    have B3 := Lib.hid (below_step B2.out d3)
    have X3 := X2.keep d3
    have aZ := B2.out.size
    have nZX := Nat.ne_of_lt X2.hb
    have oZX := Nat.ne_of_gt X2.hb
    have Z3 : Bk6 w3 (w2.heap.size) (.int .i64 a0) (.int .i64 a1) (.int .i64 a2) (.int .i64 a3) (.int .i64 a4) (.int .i64 a5) := by refine Bk6.of b3 (by simp <;> omega) (by intro j; simp [go_sem]) ?_ ?_ ?_ ?_ ?_ ?_ <;> simp [go_sem]
    clear X2 b3 d3 B2
    go_wp2
    go_roundw; case rel => exact ⟨k + 1, _, by omega, rfl, by go_num, NX, B3⟩
    case measure => simp [intOf]; omega
   ·
    have NX := Lib.hid (show (s ++ (SX ++ ⟨#[32]⟩ ++ ⟨#[45]⟩ ++ ⟨#[10]⟩)).data.toList = Lp.jt l (k + 1) from by
     rw [SET.out, fd_app, fd_app, fd_app, fd_app, hs.out, HSX.out]
     unfold Lp.line Lp.sg
     simp)
    have e1 : (SX ++ ⟨#[32]⟩ : ByteArray).size = SX.size + 1 := by rw [ByteArray.size_append]; rfl
    have e2 : (SX ++ ⟨#[32]⟩ ++ ⟨#[45]⟩ : ByteArray).size = SX.size + 2 := by rw [ByteArray.size_append, e1]; rfl
    have e3 : (SX ++ ⟨#[32]⟩ ++ ⟨#[45]⟩ ++ ⟨#[10]⟩ : ByteArray).size = SX.size + 3 := by rw [ByteArray.size_append, e2]; rfl
    clear SET hs
    go_wp2_with fail
    refine (OF.out _).mono ?_; rintro e w2 ⟨rfl, b2⟩
    have d2 : Below w1.heap.size w1 w2 := below_step gr0 b2
    have B2 := Lib.hid (below_step B1.out d2)
    have aX := B1.out.size
    have X2 : Bk2 w2 (w1.heap.size) (.int .i64 x) (.int .i64 (-1)) := by refine Bk2.of b2 (by simp <;> omega) (by intro j; simp [go_sem]) ?_ ?_ <;> simp [go_sem]
    clear b2 d2 B1
    have tx := X2; obtain ⟨cX_b, cX_f, cX_0, cX_1⟩ := tx
    go_wp2_with fail
    clear cX_b cX_f cX_0 cX_1
    refine (TX.out _).mono ?_; rintro e w3 ⟨rfl, b3⟩
    have d3 : Below w2.heap.size w2 w3 := below_step gr0 b3
    have B3 := Lib.hid (below_step B2.out d3)
    have X3 := X2.keep d3
    have aZ := B2.out.size
    have nZX := Nat.ne_of_lt X2.hb
    have oZX := Nat.ne_of_gt X2.hb
    have Z3 : Bk6 w3 (w2.heap.size) (.int .i64 a0) (.int .i64 a1) (.int .i64 a2) (.int .i64 a3) (.int .i64 a4) (.int .i64 a5) := by refine Bk6.of b3 (by simp <;> omega) (by intro j; simp [go_sem]) ?_ ?_ ?_ ?_ ?_ ?_ <;> simp [go_sem]
    clear X2 b3 d3 B2
    go_wp2
    go_roundw; case rel => exact ⟨k + 1, _, by omega, rfl, by go_num, NX, B3⟩
    case measure => simp [intOf]; omega
  ·
   obtain rfl : k = n := by omega
   have i2 : ¬ (k : Int) < k := by omega
   have EX := Lib.hid (show s = ans from by
    have h1 := hs.out
    unfold Lp.jt at h1
    rw [HN.out, List.take_length] at h1
    rw [HA.out, ← h1])
   go_wp2
   go_ret2
   exact ⟨by rw [← EX.out]; rfl, B1.out⟩
theorem Lp.rd_len (s : List UInt8) : (Lp.rd s).1.length ≤ 1000 := by
 unfold Lp.rd
 split
 ·
  simp
 ·
  split
  ·
   simp
  ·
   split
   ·
    rename_i h; exact (Lp.right_of h).1
   ·
    simp
set_option maxHeartbeats 16000000 in
set_option maxRecDepth 100000 in
theorem leap_tells (A : Option Addr) (n c : Nat) (l : List Lp.X) (t u : Int) (s : ByteArray) (w : World) (h : SpV w (.slice A n c) l) (hc : n ≤ c) (hcb : c ≤ 9223372036854775807)
  (hs : s.size ≤ maxLen) (T : Lib.TabIs Tryz.prog w "internal/strconv.uint64pow10" .u64 Lib.pow10Tab) (m : Int) (hm : w.cell? ⟨0, 0, none⟩ = some (.int .i64 m)) :
  Calls Tryz.prog 3 #[.slice A n c, .int .i64 t, .int .i64 u, .string s] w fun e w' => e = .returned (.bool true) ∧ Below w.heap.size w w' := by
 have hn := h.len
 have TT := Lib.hid T
 have MX := Lib.hid (fun W (hW : Below w.heap.size w W) => (hW.cell (p := ⟨0, 0, none⟩) (World.block_lt_of_cell? _ _ hm)).trans hm)
 have LV := Lib.hid (fun W (B : Below w.heap.size w W) => lives53 W (var_keep B TT.out) m (MX.out W B))
 clear T hm
 by_cases h1 : 100 < n
 case pos =>
  have g : (100 : Int) < (n : Int) := by omega
  clear h h1 hn
  go_enter Tryz.func3, Tryz.ntmps3
  go_wp2_with fail
  refine (LV.out _ (Below.refl _ _)).mono ?_; rintro e w9 ⟨rfl, b9⟩
  go_wp2_with fail
  go_ret
  exact ⟨rfl, b9⟩
 have g : ¬ (100 : Int) < (n : Int) := by omega
 by_cases h2 : 3000 < s.size
 case pos =>
  have g2 : (3000 : Int) < (s.size : Int) := by omega
  clear h h1 hn h2
  go_enter Tryz.func3, Tryz.ntmps3
  go_wp2_with fail
  refine (LV.out _ (Below.refl _ _)).mono ?_; rintro e w9 ⟨rfl, b9⟩
  go_wp2_with fail
  go_ret
  exact ⟨rfl, b9⟩
 have g2 : ¬ (3000 : Int) < (s.size : Int) := by omega
 have hl : l.length ≤ 1000000 := by omega
 have HW := Lib.hid h
 have GA := Lib.hid (fun W (S : SpV W (.slice A n c) l) => leGone_any A n c l W S hc hcb hl t)
 have GB := Lib.hid (fun W (S : SpV W (.slice A n c) l) => rlGone_any (.slice A n c) l W S hl t)
 have UA := Lib.hid (fun W (S : SpV W (.slice A n c) l) => leUtc_any A n c l W S hc hcb hl u)
 have UB := Lib.hid (fun W (S : SpV W (.slice A n c) l) => rlUtc_any (.slice A n c) l W S hl u)
 have XA := Lib.hid (fun W (S : SpV W (.slice A n c) l) T => leText_any A n c l W S hl T)
 have XB := Lib.hid (fun W (S : SpV W (.slice A n c) l) => rleText_any (.slice A n c) l W S hl)
 have RA := Lib.hid (fun W (S : SpV W (.slice A n c) l) => leright_any (.slice A n c) l W S hl)
 have RB := Lib.hid (fun W (S : SpV W (.slice A n c) l) => rleright_any (.slice A n c) l W S hl)
 have rl := Lp.rd_len s.data.toList
 have DA : Hid (∀ W, W.cell? ⟨0, 0, none⟩ = some (.int .i64 m) → Calls Tryz.prog 12 #[.string s] W fun e w' => ∃ v, SpV w' v (Lp.rd s.data.toList).1 ∧ e = .returned (.tuple #[v, .agg #[.int .i64 (Lp.rd s.data.toList).2.1, .int .i64 (Lp.rd s.data.toList).2.2]]) ∧ Below W.heap.size W w') := Lib.hid (fun W hm => (leRead_any s W m hm).mono (fun _ _ ⟨v, h1, h2, h3⟩ => ⟨v, h1.st, h2, h3⟩))
 have DB : Hid (∀ W, Calls Tryz.prog 13 #[.string s] W fun e w' => ∃ v, SpV w' v (Lp.rd s.data.toList).1 ∧ e = .returned (.tuple #[v, .agg #[.int .i64 (Lp.rd s.data.toList).2.1, .int .i64 (Lp.rd s.data.toList).2.2]]) ∧ Below W.heap.size W w') := Lib.hid (fun W => (rleRead_any s W).mono (fun _ _ ⟨v, h1, h2, h3⟩ => ⟨v, h1.st, h2, h3⟩))
 generalize (Lp.gn l t).1 = a0 at GA GB
 generalize (Lp.gn l t).2 = a1 at GA GB
 generalize (Lp.ut l u).1 = b0 at UA UB
 generalize (Lp.ut l u).2.1 = b1 at UA UB
 generalize (Lp.ut l u).2.2 = b2 at UA UB
 generalize (⟨(Lp.tx l).1.toArray⟩ : ByteArray) = x0 at XA XB
 generalize (Lp.tx l).2 = x1 at XA XB
 generalize Lp.right l = rr at RA RB
 generalize Lp.rd s.data.toList = R at *
 obtain ⟨rl0, r1, r2⟩ := R
 dsimp only at DA DB rl
 have HRL := Lib.hid rl
 clear h h1 h2 hn hl hs rl
 go_enter Tryz.func3, Tryz.ntmps3
 go_wp2_with fail
 refine (GA.out _ HW.out).mono ?_; rintro e w1 ⟨rfl, b1⟩
 have d1 : Below w.heap.size w w1 := below_step gr0 b1
 have B1 := Lib.hid d1
 have SL_1 := Lib.hid (HW.out.on d1)
 clear HW b1 d1
 go_wp2_with fail
 refine (GB.out _ SL_1.out).mono ?_; rintro e w2 ⟨rfl, b2⟩
 have d2 : Below w1.heap.size w1 w2 := below_step gr0 b2
 have B2 := Lib.hid (below_step B1.out d2)
 have SL_2 := Lib.hid (SL_1.out.on d2)
 clear SL_1 b2 d2 B1
 go_wp2_with fail
 refine (UA.out _ SL_2.out).mono ?_; rintro e w3 ⟨rfl, b3⟩
 have d3 : Below w2.heap.size w2 w3 := below_step gr0 b3
 have B3 := Lib.hid (below_step B2.out d3)
 have SL_3 := Lib.hid (SL_2.out.on d3)
 clear SL_2 b3 d3 B2
 go_wp2_with fail
 refine (UB.out _ SL_3.out).mono ?_; rintro e w4 ⟨rfl, b4⟩
 have d4 : Below w3.heap.size w3 w4 := below_step gr0 b4
 have B4 := Lib.hid (below_step B3.out d4)
 have SL_4 := Lib.hid (SL_3.out.on d4)
 clear SL_3 b4 d4 B3
 go_wp2_with fail
 refine (XA.out _ SL_4.out (var_keep B4.out TT.out)).mono ?_; rintro e w5 ⟨rfl, b5⟩
 have d5 : Below w4.heap.size w4 w5 := below_step gr0 b5
 have B5 := Lib.hid (below_step B4.out d5)
 have SL_5 := Lib.hid (SL_4.out.on d5)
 clear SL_4 b5 d5 B4
 go_wp2_with fail
 refine (XB.out _ SL_5.out).mono ?_; rintro e w6 ⟨rfl, b6⟩
 have d6 : Below w5.heap.size w5 w6 := below_step gr0 b6
 have B6 := Lib.hid (below_step B5.out d6)
 have SL_6 := Lib.hid (SL_5.out.on d6)
 clear SL_5 b6 d6 B5
 go_wp2_with fail
 refine (DA.out _ (MX.out _ B6.out)).mono ?_; rintro e w7 ⟨_, sP, rfl, b7⟩
 have SP_7 := Lib.hid sP; obtain ⟨AP, cP, rfl, -⟩ := sP
 have d7 : Below w6.heap.size w6 w7 := below_step gr0 b7
 have B7 := Lib.hid (below_step B6.out d7)
 have SL_7 := Lib.hid (SL_6.out.on d7)
 clear SL_6 b7 d7 B6
 go_wp2_with fail
 refine (DB.out _).mono ?_; rintro e w8 ⟨_, sQ, rfl, b8⟩
 have SQ_8 := Lib.hid sQ; obtain ⟨AQ, cQ, rfl, -⟩ := sQ
 have d8 : Below w7.heap.size w7 w8 := below_step gr0 b8
 have B8 := Lib.hid (below_step B7.out d8)
 have SL_8 := Lib.hid (SL_7.out.on d8)
 have SP_8 := Lib.hid (SP_7.out.on d8)
 have aF := B7.out.size
 have F8 : Bk2 w8 (w7.heap.size) (.int .i64 r1) (.int .i64 r2) := by refine Bk2.of b8 (by simp <;> omega) (by intro j; simp [go_sem]) ?_ ?_ <;> simp [go_sem]
 clear SL_7 SP_7 b8 d8 B7
 have tx := F8; obtain ⟨cF_b, cF_f, cF_0, cF_1⟩ := tx
 go_wp2_with fail
 clear cF_b cF_f cF_0 cF_1
 refine (lesame_yes _ _ rl0 _ (SP_8.out.on gr0) (SQ_8.out.on gr0) (by have := HRL.out; omega)).mono ?_; rintro e w9 ⟨rfl, b9⟩
 have d9 : Below w8.heap.size w8 w9 := below_step gr0 b9
 have B9 := Lib.hid (below_step B8.out d9)
 have SL_9 := Lib.hid (SL_8.out.on d9)
 have SP_9 := Lib.hid (SP_8.out.on d9)
 have SQ_9 := Lib.hid (SQ_8.out.on d9)
 have F9 := F8.keep d9
 have aG := B8.out.size
 have nGF := Nat.ne_of_lt F8.hb
 have oGF := Nat.ne_of_gt F8.hb
 have G9 : Bk2 w9 (w8.heap.size) (.int .i64 r1) (.int .i64 r2) := by refine Bk2.of b9 (by simp <;> omega) (by intro j; simp [go_sem]) ?_ ?_ <;> simp [go_sem]
 clear SL_8 SP_8 SQ_8 F8 b9 d9 B8
 have tx := F9; obtain ⟨cF_b, cF_f, cF_0, cF_1⟩ := tx
 have tx := G9; obtain ⟨cG_b, cG_f, cG_0, cG_1⟩ := tx
 go_wp2_with fail
 clear cF_b cF_f cF_0 cF_1 cG_b cG_f cG_0 cG_1
 refine (RA.out _ SL_9.out).mono ?_; rintro e w10 ⟨rfl, b10⟩
 have d10 : Below w9.heap.size w9 w10 := below_step gr0 b10
 have B10 := Lib.hid (below_step B9.out d10)
 have SL_10 := Lib.hid (SL_9.out.on d10)
 have SP_10 := Lib.hid (SP_9.out.on d10)
 have SQ_10 := Lib.hid (SQ_9.out.on d10)
 have F10 := F9.keep d10
 have G10 := G9.keep d10
 clear SL_9 SP_9 SQ_9 F9 G9 b10 d10 B9
 have tx := F10; obtain ⟨cF_b, cF_f, cF_0, cF_1⟩ := tx
 have tx := G10; obtain ⟨cG_b, cG_f, cG_0, cG_1⟩ := tx
 go_wp2_with fail
 clear cF_b cF_f cF_0 cF_1 cG_b cG_f cG_0 cG_1
 refine (RB.out _ SL_10.out).mono ?_; rintro e w11 ⟨rfl, b11⟩
 have d11 : Below w10.heap.size w10 w11 := below_step gr0 b11
 have B11 := Lib.hid (below_step B10.out d11)
 have SL_11 := Lib.hid (SL_10.out.on d11)
 have SP_11 := Lib.hid (SP_10.out.on d11)
 have SQ_11 := Lib.hid (SQ_10.out.on d11)
 have F11 := F10.keep d11
 have G11 := G10.keep d11
 clear SL_10 SP_10 SQ_10 F10 G10 b11 d11 B10
 have tx := F11; obtain ⟨cF_b, cF_f, cF_0, cF_1⟩ := tx
 have tx := G11; obtain ⟨cG_b, cG_f, cG_0, cG_1⟩ := tx
 go_wp2_with fail
 clear cF_b cF_f cF_0 cF_1 cG_b cG_f cG_0 cG_1
 refine (LV.out _ B11.out).mono ?_; rintro e w12 ⟨rfl, b12⟩
 have d12 : Below w11.heap.size w11 w12 := below_step gr0 b12
 have B12 := Lib.hid (below_step B11.out d12)
 have SL_12 := Lib.hid (SL_11.out.on d12)
 have SP_12 := Lib.hid (SP_11.out.on d12)
 have SQ_12 := Lib.hid (SQ_11.out.on d12)
 have F12 := F11.keep d12
 have G12 := G11.keep d12
 clear SL_11 SP_11 SQ_11 F11 G11 b12 d12 B11
 have tx := F12; obtain ⟨cF_b, cF_f, cF_0, cF_1⟩ := tx
 have tx := G12; obtain ⟨cG_b, cG_f, cG_0, cG_1⟩ := tx
 go_wp2_with fail
 clear cF_b cF_f cF_0 cF_1 cG_b cG_f cG_0 cG_1
 go_ret
 exact ⟨rfl, (grB B12)⟩
end Go.Proofs.YtifgiclnofdnkaaGreatDoor
