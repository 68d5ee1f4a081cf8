/- Joined: QyT3. -/
import Derived.Test.YtbcbggdbojonmaaGreatDoorBy01
import Derived.Test.YtbcbggdbojonmaaGreatDoorBy26
set_option linter.unusedVariables false
set_option linter.unusedSimpArgs false
namespace Go.Proofs.YtbcbggdbojonmaaGreatDoor
open Go.RowKit Go.Sort Go.Pairs
set_option maxHeartbeats 8000000 in
set_option maxRecDepth 100000 in
theorem rqread_3 (s : ByteArray) (w : World) (hs : s.size ≤ 1000000) (hc : Ln.chk s.data.toList = 0) (hf : (Fd.of s.data.toList).2 = 0) (h : List UInt8) (r : List (List UInt8)) (hP : (Fd.of s.data.toList).1 = h :: r) (hm : Wd.mat h Qy.heads = (2, 0)) :
  Calls Tryz.prog 7 #[.string s] w fun e w' => e = .returned (.tuple #[Qy.V (Qy.rdK 3 r).1, .int .i64 (Qy.rdK 3 r).2]) ∧ Below w.heap.size w w' := by
 have HR := Lib.hid (Qy.rdK_stp 3 r (by omega) (by omega))
 rw [show ((3 : Nat) : Int) = 3 from rfl, show (Qy.sl 3).length = 3 from rfl] at HR
 have WI := Lib.hid (fun W => rqwide_any 3 W (by omega) (by omega))
 simp only [Int.reduceEq, or_false, false_or, or_true, true_or, or_self, if_true, if_false] at WI
 have CK := Lib.hid (fun W => rlcheck_any s W (by unfold maxLen; omega))
 have FO := Lib.hid (fun W => rfof_any s W (by omega))
 have FL := An.field_len s
 have hls : s.size ≤ 511 := by have := Qy.chk_len hc; rwa [show s.data.toList.length = s.size from Array.length_toList] at this
 rw [hc] at CK
 rw [show Fd.of s.data.toList = (h :: r, 0) from Prod.ext hP hf] at FO FL
 have HI := Lib.hid (fun W => rqheads_any W)
 clear hP hf hc hs
 go_enter Tryz.func7, Tryz.ntmps7
 go_wp2_with fail
 refine (CK.out _).mono ?_; rintro e w1 ⟨rfl, b1⟩
 have B1 := Lib.hid (below_step (show Below w.heap.size w _ from gr0) b1)
 have Z1 := Lib.hid (show Bk6 w1 w.heap.size (.int .i64 0) (.string ⟨#[]⟩) (.int .i64 0) (.int .i64 0) (.int .i64 0) (.int .i64 0) from by refine Bk6.of b1 (by simp <;> omega) (by intro j; simp [go_sem]) ?_ ?_ ?_ ?_ ?_ ?_ <;> simp [go_sem])
 clear b1
 go_wp2_with fail
 refine (FO.out _).mono ?_; rintro e w2 ⟨v, l, hst, hl, rfl, b2⟩
 have B2 := Lib.hid (below_step B1.out b2)
 have Z2 := Lib.hid (Z1.out.keep b2)
 have hl : l.map (·.data.toList) = h :: r := hl
 have hzl : ∀ x ∈ l, x.size ≤ 1000 := fun x hx => by have := FL l hl x hx; omega
 obtain ⟨x0, rl, rfl⟩ : ∃ x0 rl, l = x0 :: rl := by
  cases l with
  | nil => simp at hl
  | cons a b => exact ⟨a, b, rfl⟩
 rw [List.map_cons] at hl
 obtain ⟨e0, er⟩ := List.cons.inj hl
 have er : rl.map (·.data.toList) = r := er
 have e0 : x0.data.toList = h := e0
 subst e0
 subst er
 have z0 := hzl x0 (by simp)
 have HZL := Lib.hid hzl
 have MA := Lib.hid (fun v W S => matchr_any x0 v Qy.heads W S (by unfold maxLen; omega) (by decide) (by decide))
 rw [hm] at MA
 have T := hst
 obtain ⟨A, c, rfl, hA⟩ := T
 obtain ⟨q, rfl, -⟩ := hA (by simp)
 obtain ⟨n, hn⟩ : ∃ n, n = (x0 :: rl).length := ⟨_, rfl⟩
 rw [← hn] at hst
 rw [← hn]
 have hn2 : n = rl.length + 1 := by rw [hn, List.length_cons]
 have ST := Lib.hid (fun W (b : Below w2.heap.size w2 W) => hst.on b)
 have HC : Hid (∀ W, Below w2.heap.size w2 W → W.cell? q = some (.string x0)) := Lib.hid (fun W b => by
  obtain ⟨a, ea, ga⟩ := StS.get (hst.on b) 0 (by simp)
  cases ea
  exact ga)
 have g0 : ((n : Int) == 0) = false := by rw [beq_eq_false_iff_ne]; omega
 have hn0 : 0 < n := by omega
 have HN := Lib.hid hn2
 clear hst hA hl hzl b2 FL hm hn hn2 Z1 B1 CK FO
 go_upto_region 7 with (fail)
 refine wp_region_till (R := markR [(fun v _ => v = Value.slice (some q) n c), (fun v _ => v = Value.pointer (some q)), (fun v _ => v = Value.string x0), (fun v W => StS W v Qy.heads), (fun v _ => v = Value.tuple #[.int .i64 2, .int .i64 0]), (fun v _ => v = Value.tuple #[.int .i64 2, .int .i64 0]), (fun v _ => v = Value.int .i64 2), (fun v _ => v = Value.int .i64 0), (fun v _ => v = Value.int .i64 2), (fun v _ => v = Value.int .i64 0)]) (till := fun _ => none) (D := fun W => Below w2.heap.size w2 W) (G := fun _ W W' => Below W.heap.size W W') (by rfl) ?hbeg ⟨by kernel_rfl, by kernel_rfl, by kernel_rfl, ?hkeep, ?hstab, ObsT.all ?hobs, ?hlast⟩
 case hbeg => exact (Below.refl _ _).drew
 case hkeep => intro i w1 w2 hC hG; exact below_step hC hG
 case hstab =>
  intro i j hij ht v w1 w2 hG hm
  match j, hm with
  | 0, hm => exact hm
  | 1, hm => exact hm
  | 2, hm => exact hm
  | 3, hm => exact StS.on hm hG
  | 4, hm => exact hm
  | 5, hm => exact hm
  | 6, hm => exact hm
  | 7, hm => exact hm
  | 8, hm => exact hm
  | 9, hm => exact hm
  | j + 10, hm => exact trivial
 case hobs =>
  refine ObsT.cons (k' := 1) rfl ?_ ?_
  ·
   intro fa W hW hSame hRR KK hKK
   try dsimp only at hW
   have fb5 : fa.tmps[5]? = some (Value.slice (some q) n c) := (hSame.base 5 (by kernel_rfl)).trans (by kernel_rfl)
   replace hKK : ∀ v w', Below W.heap.size W w' → v = Value.slice (some q) n c → KK (Act.put fa _ v) w' := fun v w' h1 h2 => hKK v w' h1 h2
   clear hSame hRR
   rw [if_pos (wanted_plain rfl)]
   go_simp
   refine hKK _ _ ?_ ?_
   ·
    exact grP
   ·
    exact rfl
  refine ObsT.cons (k' := 2) rfl ?_ ?_
  ·
   intro fa W hW hSame hRR KK hKK
   try dsimp only at hW
   obtain ⟨fv0, ft0, (rfl : fv0 = Value.slice (some q) n c)⟩ := hRR 0 _ 46 rfl rfl (by kernel_rfl) (by kernel_rfl)
   replace hKK : ∀ v w', Below W.heap.size W w' → v = Value.pointer (some q) → KK (Act.put fa _ v) w' := fun v w' h1 h2 => hKK v w' h1 h2
   clear hSame hRR
   rw [if_pos (wanted_plain rfl)]
   go_simp
   refine hKK _ _ ?_ ?_
   ·
    exact grP
   ·
    exact rfl
  refine ObsT.cons (k' := 3) rfl ?_ ?_
  ·
   intro fa W hW hSame hRR KK hKK
   try dsimp only at hW
   obtain ⟨fv1, ft1, (rfl : fv1 = Value.pointer (some q))⟩ := hRR 1 _ 47 rfl rfl (by kernel_rfl) (by kernel_rfl)
   replace hKK : ∀ v w', Below W.heap.size W w' → v = Value.string x0 → KK (Act.put fa _ v) w' := fun v w' h1 h2 => hKK v w' h1 h2
   have gx := HC.out W hW
   clear hSame hRR
   rw [if_pos (wanted_plain rfl)]
   go_simp
   refine hKK _ _ ?_ ?_
   ·
    exact grP
   ·
    exact rfl
  refine ObsT.cons (k' := 4) rfl ?_ ?_
  ·
   intro fa W hW hSame hRR KK hKK
   try dsimp only at hW
   replace hKK : ∀ v w', Below W.heap.size W w' → (fun v W => StS W v Qy.heads) v w' → KK (Act.put fa _ v) w' := fun v w' h1 h2 => hKK v w' h1 h2
   clear hSame hRR
   rw [if_pos (wanted_plain rfl)]
   go_simp
   refine (HI.out _).mono ?_; rintro e w' ⟨v, rfl, hv, hb⟩
   exact hKK _ _ hb hv
  refine ObsT.cons (k' := 5) rfl ?_ ?_
  ·
   intro fa W hW hSame hRR KK hKK
   try dsimp only at hW
   obtain ⟨fv2, ft2, (rfl : fv2 = Value.string x0)⟩ := hRR 2 _ 48 rfl rfl (by kernel_rfl) (by kernel_rfl)
   obtain ⟨fv3, ft3, hk3⟩ := hRR 3 _ 49 rfl rfl (by kernel_rfl) (by kernel_rfl)
   replace hKK : ∀ v w', Below W.heap.size W w' → v = Value.tuple #[.int .i64 2, .int .i64 0] → KK (Act.put fa _ v) w' := fun v w' h1 h2 => hKK v w' h1 h2
   clear hSame hRR
   rw [if_pos (wanted_plain rfl)]
   go_simp
   refine (MA.out _ _ hk3).mono ?_; rintro e w' ⟨rfl, k9, rfl⟩
   exact hKK _ _ (_root_.Go.below_drewN (Below.refl _ _) _) rfl
  refine ObsT.cons (k' := 6) rfl ?_ ?_
  ·
   intro fa W hW hSame hRR KK hKK
   try dsimp only at hW
   obtain ⟨fv4, ft4, (rfl : fv4 = Value.tuple #[.int .i64 2, .int .i64 0])⟩ := hRR 4 _ 50 rfl rfl (by kernel_rfl) (by kernel_rfl)
   replace hKK : ∀ v w', Below W.heap.size W w' → v = Value.tuple #[.int .i64 2, .int .i64 0] → KK (Act.put fa _ v) w' := fun v w' h1 h2 => hKK v w' h1 h2
   clear hSame hRR
   rw [if_pos (wanted_plain rfl)]
   go_simp
   refine hKK _ _ ?_ ?_
   ·
    exact grP
   ·
    exact rfl
  refine ObsT.cons (k' := 7) rfl ?_ ?_
  ·
   intro fa W hW hSame hRR KK hKK
   try dsimp only at hW
   obtain ⟨fv5, ft5, (rfl : fv5 = Value.tuple #[.int .i64 2, .int .i64 0])⟩ := hRR 5 _ 45 rfl rfl (by kernel_rfl) (by kernel_rfl)
   replace hKK : ∀ v w', Below W.heap.size W w' → v = Value.int .i64 2 → KK (Act.put fa _ v) w' := fun v w' h1 h2 => hKK v w' h1 h2
   clear hSame hRR
   rw [if_pos (wanted_plain rfl)]
   go_simp
   refine hKK _ _ ?_ ?_
   ·
    exact grP
   ·
    exact rfl
  refine ObsT.cons (k' := 8) rfl ?_ ?_
  ·
   intro fa W hW hSame hRR KK hKK
   try dsimp only at hW
   obtain ⟨fv5, ft5, (rfl : fv5 = Value.tuple #[.int .i64 2, .int .i64 0])⟩ := hRR 5 _ 45 rfl rfl (by kernel_rfl) (by kernel_rfl)
   replace hKK : ∀ v w', Below W.heap.size W w' → v = Value.int .i64 0 → KK (Act.put fa _ v) w' := fun v w' h1 h2 => hKK v w' h1 h2
   clear hSame hRR
   rw [if_pos (wanted_plain rfl)]
   go_simp
   refine hKK _ _ ?_ ?_
   ·
    exact grP
   ·
    exact rfl
  refine ObsT.cons (k' := 9) rfl ?_ ?_
  ·
   intro fa W hW hSame hRR KK hKK
   try dsimp only at hW
   obtain ⟨fv6, ft6, (rfl : fv6 = Value.int .i64 2)⟩ := hRR 6 _ 51 rfl rfl (by kernel_rfl) (by kernel_rfl)
   replace hKK : ∀ v w', Below W.heap.size W w' → v = Value.int .i64 2 → KK (Act.put fa _ v) w' := fun v w' h1 h2 => hKK v w' h1 h2
   clear hSame hRR
   rw [if_pos (wanted_plain rfl)]
   go_simp
   refine hKK _ _ ?_ ?_
   ·
    exact grP
   ·
    exact rfl
  refine ObsT.cons (k' := 10) rfl ?_ ?_
  ·
   intro fa W hW hSame hRR KK hKK
   try dsimp only at hW
   obtain ⟨fv7, ft7, (rfl : fv7 = Value.int .i64 0)⟩ := hRR 7 _ 52 rfl rfl (by kernel_rfl) (by kernel_rfl)
   replace hKK : ∀ v w', Below W.heap.size W w' → v = Value.int .i64 0 → KK (Act.put fa _ v) w' := fun v w' h1 h2 => hKK v w' h1 h2
   clear hSame hRR
   rw [if_pos (wanted_plain rfl)]
   go_simp
   refine hKK _ _ ?_ ?_
   ·
    exact grP
   ·
    exact rfl
  exact ObsT.nil
 case hlast =>
  intro fa w3 d3 hSame hRR
  try dsimp only at d3
  obtain ⟨zz8, f7, rfl⟩ := hRR 8 _ 7 rfl rfl rfl
  obtain ⟨zz9, f8, rfl⟩ := hRR 9 _ 8 rfl rfl rfl
  rw [Same_shape hSame]
  simp only [List.filterMap_cons, List.filterMap_nil, List.foldl_cons, List.foldl_nil]
  have g7 : fa.tmps.getD 7 undef = Value.int .i64 2 := by simp [Array.getD_eq_getD_getElem?, f7]
  have g8 : fa.tmps.getD 8 undef = Value.int .i64 0 := by simp [Array.getD_eq_getD_getElem?, f8]
  rw [g7, g8]
  generalize fa.tmps.getD 46 undef = y46
  generalize fa.tmps.getD 47 undef = y47
  generalize fa.tmps.getD 48 undef = y48
  generalize fa.tmps.getD 49 undef = y49
  generalize fa.tmps.getD 50 undef = y50
  generalize fa.tmps.getD 45 undef = y45
  generalize fa.tmps.getD 51 undef = y51
  generalize fa.tmps.getD 52 undef = y52
  clear hSame hRR f7 g7 f8 g8
  simp only [Act.put, List.setIfInBounds_toArray, List.set_cons_succ, List.set_cons_zero]
  have B3 := Lib.hid (below_step B2.out d3)
  have Z3 := Lib.hid (Z2.out.keep d3)
  have C3 := Lib.hid d3
  clear d3 B2 Z2
  go_wp2_with fail
  refine (WI.out _).mono ?_; rintro e w4 ⟨rfl, b4⟩
  have D4 : Below w3.heap.size w3 w4 := below_step gr0 b4
  have B4 := Lib.hid (below_step B3.out D4)
  have Z4 := Lib.hid (Z3.out.keep D4)
  have C4 := Lib.hid (below_step C3.out D4)
  have X4 := Lib.hid (show Bk6 w4 w3.heap.size (.int .i64 3) (.string ⟨#[]⟩) (.int .i64 0) (.int .i64 0) (.int .i64 0) (.int .i64 0) from by refine Bk6.of b4 (by simp <;> omega) (by intro j; simp [go_sem]) ?_ ?_ ?_ ?_ ?_ ?_ <;> simp [go_sem])
  clear b4 D4
  by_cases f1 : n < 4
  case pos =>
   have hlen : (rl.map (·.data.toList)).length < 3 := by have := HN.out; rw [List.length_map]; omega
   have HE := HR.out.trans (if_pos hlen)
   have g1 : decide ((n : Int) < 4) = true := decide_eq_true (by omega)
   have Z := Z4.out; have Zh := Z.hb; have Zf := Z.fz; have Zk0 := Z.k0; have Zk1 := Z.k1; have Zk2 := Z.k2; have Zk3 := Z.k3; have Zk4 := Z.k4; have Zk5 := Z.k5; clear Z
   have HE := Lib.hid HE
   go_wp2_with fail
   exact qret Z4.out rfl rfl rfl (fun W9 hb => ⟨by rw [HE.out]; rfl, hb _ _ (Nat.le_refl _) B4.out⟩)
  have g1 : decide ((n : Int) < 4) = false := decide_eq_false (by omega)
  have X := X4.out; have Xh := X.hb; have Xf := X.fz; have Xk0 := X.k0; have Xk1 := X.k1; have Xk2 := X.k2; have Xk3 := X.k3; have Xk4 := X.k4; have Xk5 := X.k5; clear X
  go_wp2_with fail
  refine (WI.out _).mono ?_; rintro e w5 ⟨rfl, b5⟩
  have B5 := Lib.hid (below_step B4.out b5)
  have Z5 := Lib.hid (Z4.out.keep b5)
  have C5 := Lib.hid (below_step C4.out b5)
  have X5 := Lib.hid (X4.out.keep b5)
  clear b5 Xh Xf Xk0 Xk1 Xk2 Xk3 Xk4 Xk5 X4 C4 Z4
  by_cases f2 : 4 < n
  case pos =>
   have hl1 : ¬ (rl.map (·.data.toList)).length < 3 := by have := HN.out; rw [List.length_map]; omega
   have hl2 : 3 < (rl.map (·.data.toList)).length := by have := HN.out; rw [List.length_map]; omega
   have HE := HR.out.trans ((if_neg hl1).trans (if_pos hl2))
   have g2 : decide (4 < (n : Int)) = true := decide_eq_true (by omega)
   have Z := Z5.out; have Zh := Z.hb; have Zf := Z.fz; have Zk0 := Z.k0; have Zk1 := Z.k1; have Zk2 := Z.k2; have Zk3 := Z.k3; have Zk4 := Z.k4; have Zk5 := Z.k5; clear Z
   have HE := Lib.hid HE
   go_wp2_with fail
   exact qret Z5.out rfl rfl rfl (fun W9 hb => ⟨by rw [HE.out]; rfl, hb _ _ (Nat.le_refl _) B5.out⟩)
  obtain rfl : n = 4 := by omega
  clear f1 f2 g1 g0 hn0
  obtain ⟨x1, x2, x3, rfl⟩ : ∃ x1 x2 x3, rl = [x1, x2, x3] := by
   have hh := HN.out
   match rl, hh with
   | [x1, x2, x3], _ => exact ⟨x1, x2, x3, rfl⟩
   | [], h => exact absurd h (by simp)
   | [_], h => exact absurd h (by simp)
   | [_, _], h => exact absurd h (by simp)
   | _ :: _ :: _ :: _ :: _, h => exact absurd h (by simp)
  have HX : Hid (∀ W, Below w2.heap.size w2 W → W.cell? ⟨q.block, q.off + 1, none⟩ = some (.string x1) ∧ W.cell? ⟨q.block, q.off + 2, none⟩ = some (.string x2) ∧ W.cell? ⟨q.block, q.off + 3, none⟩ = some (.string x3)) := Lib.hid (fun W b => by
   have k1 : W.cell? (q.add 1) = some (.string x1) := by
    obtain ⟨a, ea, ga⟩ := StS.get (ST.out W b) 1 (by simp)
    cases ea
    exact ga
   rw [show q.add 1 = ⟨q.block, q.off + 1, none⟩ from Addr.add_succ' ..] at k1
   have k2 : W.cell? (q.add 2) = some (.string x2) := by
    obtain ⟨a, ea, ga⟩ := StS.get (ST.out W b) 2 (by simp)
    cases ea
    exact ga
   rw [show q.add 2 = ⟨q.block, q.off + 2, none⟩ from Addr.add_succ' ..] at k2
   have k3 : W.cell? (q.add 3) = some (.string x3) := by
    obtain ⟨a, ea, ga⟩ := StS.get (ST.out W b) 3 (by simp)
    cases ea
    exact ga
   rw [show q.add 3 = ⟨q.block, q.off + 3, none⟩ from Addr.add_succ' ..] at k3
   exact ⟨k1, k2, k3⟩)
  have hqb : q.block < w2.heap.size := World.block_lt_of_cell? _ _ (HC.out w2 (Below.refl _ _))
  have h23 : w2.heap.size ≤ w3.heap.size := C3.out.size
  have hq3 : q.block ≠ w3.heap.size := by omega
  have hq3' : w3.heap.size ≠ q.block := by omega
  have hwb : w.heap.size < w3.heap.size := Z3.out.hb
  have hw3 : w3.heap.size ≠ w.heap.size := by omega
  have hw3' : w.heap.size ≠ w3.heap.size := by omega
  have s_x1 : x1.size ≤ 1000 := HZL.out x1 (by simp)
  have s_x2 : x2.size ≤ 1000 := HZL.out x2 (by simp)
  have s_x3 : x3.size ≤ 1000 := HZL.out x3 (by simp)
  have NM := Lib.hid (fun W => rrname_any x1 W (by unfold maxLen; omega))
  have SE := Lib.hid (fun W => rqsecond_any x2 W s_x2)
  have htot : Qy.rdK 3 ([x1, x2, x3].map (·.data.toList)) = Qy.fin [Lk.nm x1.data.toList, (Qy.sc x2.data.toList).2, (Wd.mat x3.data.toList Qy.pols).2] (3, x1.data.toList, (Qy.sc x2.data.toList).1, 0, 0, (Wd.mat x3.data.toList Qy.pols).1 + 1) := rfl
  have MP := Lib.hid (fun v W S => matchr_any x3 v Qy.pols W S (by unfold maxLen; omega) (by decide) (by decide))
  have bp := Wd.mat_bd x3.data.toList Qy.pols
  have PI := Lib.hid (fun W => rqpols_any W)
  generalize Lk.nm x1.data.toList = y1 at NM htot
  generalize (Qy.sc x2.data.toList).1 = t at SE htot
  generalize (Qy.sc x2.data.toList).2 = y2 at SE htot
  generalize (Wd.mat x3.data.toList Qy.pols).1 = p0 at MP htot bp
  generalize (Wd.mat x3.data.toList Qy.pols).2 = y3 at MP htot bp
  have Hbp := Lib.hid (show 0 ≤ p0 ∧ p0 ≤ 10 from ⟨bp.1, by have := bp.2.1; exact Int.le_trans this (by decide)⟩)
  clear bp
  have HTT := Lib.hid htot
  clear htot HZL HN HR MA HI WI ST HC s_x1 s_x2 s_x3
  obtain ⟨i0, hi, hz0, hz1, hz2⟩ := ern_parts
  have X := X5.out; have Xh := X.hb; have Xf := X.fz; have Xk0 := X.k0; have Xk1 := X.k1; have Xk2 := X.k2; have Xk3 := X.k3; have Xk4 := X.k4; have Xk5 := X.k5; clear X
  obtain ⟨cx1, cx2, cx3⟩ := HX.out w5 C5.out
  go_upto_region 18 with (fail)
  refine wp_named ?_; intro w6 hw6
  clear Xh Xf Xk0 Xk1 Xk2 Xk3 Xk4 Xk5 cx1 cx2 cx3
  have X6 := Lib.hid (X5.out.set1 hw6)
  have Z6 := Lib.hid (Z5.out.other hw6 hw3)
  have B6 : Hid (Below w.heap.size w w6) := Lib.hid (by rw [hw6]; exact Below.setCell B5.out (by show _ ≤ w3.heap.size; omega) _)
  have C6 : Hid (Below w2.heap.size w2 w6) := Lib.hid (by rw [hw6]; exact Below.setCell C5.out h23 _)
  clear hw6 X5 Z5 B5 C5
  have hbase : w3.heap.size < w6.heap.size := X6.out.hb
  have X := X6.out; have Xh := X.hb; have Xf := X.fz; have Xk0 := X.k0; have Xk1 := X.k1; have Xk2 := X.k2; have Xk3 := X.k3; have Xk4 := X.k4; have Xk5 := X.k5; clear X
  obtain ⟨cx1, cx2, cx3⟩ := HX.out w6 C6.out
  go_wp2_with fail
  refine (NM.out _).mono ?_; rintro e v9 ⟨rfl, rfl⟩
  clear Xh Xf Xk0 Xk1 Xk2 Xk3 Xk4 Xk5 cx1 cx2 cx3
  go_upto_region 19 with (fail)
  refine wp_named ?_; intro w7 hw7
  have d7 : Below w6.heap.size w6 w7 := by rw [hw7]; exact gr0
  have O7 : Hid (w7.ownsRow w6.heap.size 25 1 (.slice (some ⟨w6.heap.size, 0, none⟩) 1 1) 1 (Qy.ev [y1])) := Lib.hid (by rw [hw7]; exact World.ownsRow_lit w6 #[.int .i64 y1] 1 (Nat.le_refl _) (by decide) rfl)
  have HS7 := Lib.hid d7.size
  clear hw7
  have X7 := Lib.hid (X6.out.keep d7)
  have Z7 := Lib.hid (Z6.out.keep d7)
  have B7 := Lib.hid (below_step B6.out d7)
  have C7 := Lib.hid (below_step C6.out d7)
  clear d7 X6 Z6 B6 C6
  have X := X7.out; have Xh := X.hb; have Xf := X.fz; have Xk0 := X.k0; have Xk1 := X.k1; have Xk2 := X.k2; have Xk3 := X.k3; have Xk4 := X.k4; have Xk5 := X.k5; clear X
  obtain ⟨cx1, cx2, cx3⟩ := HX.out w7 C7.out
  go_wp2_with fail
  refine (SE.out _).mono ?_; rintro e w8 ⟨rfl, b8⟩
  clear Xh Xf Xk0 Xk1 Xk2 Xk3 Xk4 Xk5 cx1 cx2 cx3
  have X8 := Lib.hid (X7.out.keep b8)
  have Z8 := Lib.hid (Z7.out.keep b8)
  have B8 := Lib.hid (below_step B7.out b8)
  have C8 := Lib.hid (below_step C7.out b8)
  have O8 := Lib.hid (own_on O7.out b8)
  clear O7
  have HS8 := Lib.hid (Nat.le_trans HS7.out b8.size)
  clear HS7
  clear b8 X7 Z7 B7 C7
  have X := X8.out; have Xh := X.hb; have Xf := X.fz; have Xk0 := X.k0; have Xk1 := X.k1; have Xk2 := X.k2; have Xk3 := X.k3; have Xk4 := X.k4; have Xk5 := X.k5; clear X
  obtain ⟨cx1, cx2, cx3⟩ := HX.out w8 C8.out
  go_upto_region 23 with (fail)
  refine wp_named ?_; intro w9 hw9
  clear Xh Xf Xk0 Xk1 Xk2 Xk3 Xk4 Xk5 cx1 cx2 cx3
  have X9 := Lib.hid (X8.out.set2 hw9)
  have Z9 := Lib.hid (Z8.out.other hw9 hw3)
  have B9 : Hid (Below w.heap.size w w9) := Lib.hid (by rw [hw9]; exact Below.setCell B8.out (by show _ ≤ w3.heap.size; omega) _)
  have C9 : Hid (Below w2.heap.size w2 w9) := Lib.hid (by rw [hw9]; exact Below.setCell C8.out h23 _)
  have O9 := Lib.hid (show w9.ownsRow _ _ _ _ _ _ from by rw [hw9]; exact own_other O8.out hbase)
  clear O8
  have HS9 := Lib.hid (show w6.heap.size ≤ w9.heap.size from by rw [hw9]; simpa using HS8.out)
  clear HS8
  clear hw9 X8 Z8 B8 C8
  go_wp2_with (at_builtin; refine wpList_append_own _ rfl _ _ 52 rfl w6.heap.size 25 i0 (.int .i64 0) 1 8 Tryz.underlying52 hi hz0 hz1 hz2 rfl (by decide) _ 1 _ rfl (O9.out.alloc _) ⟨w9.heap.size, 0, none⟩ 1 1 [.int .i64 y2] rfl rfl (by intro j u hj; match j, hj with | 0, hj => (simp at hj; subst hj; simp [go_sem])) (by intro u hu; simp at hu; subst hu; rfl) (by decide) (by decide) (by have := HS9.out; simp; omega) ?_)
  intro v10 w10 own10 grow10 _
  have d10 : Below w6.heap.size w9 w10 := ((Below.refl _ _).alloc HS9.out _).trans (below_grown grow10 (by have := HS9.out; simp; omega) (own_row O9.out))
  have X10 := Lib.hid (X9.out.low d10 hbase)
  have Z10 := Lib.hid (Z9.out.low d10 (by omega))
  have B10 := Lib.hid (B9.out.trans (d10.mono (by omega)))
  have C10 := Lib.hid (C9.out.trans (d10.mono (by omega)))
  have O10 : Hid (w10.ownsRow w6.heap.size 25 1 v10 2 (Qy.ev [y1, y2])) := Lib.hid own10
  have HS10 := Lib.hid (Nat.le_trans HS9.out d10.size)
  clear d10 own10 grow10 X9 Z9 B9 C9 O9
  have X := X10.out; have Xh := X.hb; have Xf := X.fz; have Xk0 := X.k0; have Xk1 := X.k1; have Xk2 := X.k2; have Xk3 := X.k3; have Xk4 := X.k4; have Xk5 := X.k5; clear X
  obtain ⟨cx1, cx2, cx3⟩ := HX.out w10 C10.out
  go_upto_region 26 with (fail)
  clear Xh Xf Xk0 Xk1 Xk2 Xk3 Xk4 Xk5 cx1 cx2 cx3
  refine wp_region_till (R := markR [(fun v _ => v = Value.slice (some q) 4 c), (fun v _ => v = Value.pointer (some ⟨q.block, q.off + 3, none⟩)), (fun v _ => v = Value.string x3), (fun v W => StS W v Qy.pols), (fun v _ => v = Value.tuple #[.int .i64 p0, .int .i64 y3]), (fun v _ => v = Value.tuple #[.int .i64 p0, .int .i64 y3]), (fun v _ => v = Value.int .i64 p0), (fun v _ => v = Value.int .i64 y3), (fun v _ => v = Value.int .i64 p0), (fun v _ => v = Value.int .i64 y3)]) (till := fun _ => none) (D := fun W => Below w10.heap.size w10 W) (G := fun _ W W' => Below W.heap.size W W') (by rfl) ?hbeg ⟨by kernel_rfl, by kernel_rfl, by kernel_rfl, ?hkeep, ?hstab, ObsT.all ?hobs, ?hlast⟩
  case hbeg => exact (Below.refl _ _).drew
  case hkeep => intro i w1 w2 hC hG; exact below_step hC hG
  case hstab =>
   intro i j hij ht v w1 w2 hG hm
   match j, hm with
   | 0, hm => exact hm
   | 1, hm => exact hm
   | 2, hm => exact hm
   | 3, hm => exact StS.on hm hG
   | 4, hm => exact hm
   | 5, hm => exact hm
   | 6, hm => exact hm
   | 7, hm => exact hm
   | 8, hm => exact hm
   | 9, hm => exact hm
   | j + 10, hm => exact trivial
  case hobs =>
   refine ObsT.cons (k' := 1) rfl ?_ ?_
   ·
    intro fa W hW hSame hRR KK hKK
    try dsimp only at hW
    have fb5 : fa.tmps[5]? = some (Value.slice (some q) 4 c) := (hSame.base 5 (by kernel_rfl)).trans (by kernel_rfl)
    replace hKK : ∀ v w', Below W.heap.size W w' → v = Value.slice (some q) 4 c → KK (Act.put fa _ v) w' := fun v w' h1 h2 => hKK v w' h1 h2
    clear hSame hRR
    rw [if_pos (wanted_plain rfl)]
    go_simp
    refine hKK _ _ ?_ ?_
    ·
     exact grP
    ·
     exact rfl
   refine ObsT.cons (k' := 2) rfl ?_ ?_
   ·
    intro fa W hW hSame hRR KK hKK
    try dsimp only at hW
    obtain ⟨fv0, ft0, (rfl : fv0 = Value.slice (some q) 4 c)⟩ := hRR 0 _ 115 rfl rfl (by kernel_rfl) (by kernel_rfl)
    replace hKK : ∀ v w', Below W.heap.size W w' → v = Value.pointer (some ⟨q.block, q.off + 3, none⟩) → KK (Act.put fa _ v) w' := fun v w' h1 h2 => hKK v w' h1 h2
    clear hSame hRR
    rw [if_pos (wanted_plain rfl)]
    go_simp
    refine hKK _ _ ?_ ?_
    ·
     exact grP
    ·
     exact rfl
   refine ObsT.cons (k' := 3) rfl ?_ ?_
   ·
    intro fa W hW hSame hRR KK hKK
    try dsimp only at hW
    obtain ⟨fv1, ft1, (rfl : fv1 = Value.pointer (some ⟨q.block, q.off + 3, none⟩))⟩ := hRR 1 _ 116 rfl rfl (by kernel_rfl) (by kernel_rfl)
    replace hKK : ∀ v w', Below W.heap.size W w' → v = Value.string x3 → KK (Act.put fa _ v) w' := fun v w' h1 h2 => hKK v w' h1 h2
    obtain ⟨cx1, cx2, cx3⟩ := HX.out W (below_step C10.out hW)
    clear hSame hRR
    rw [if_pos (wanted_plain rfl)]
    go_simp
    refine hKK _ _ ?_ ?_
    ·
     exact grP
    ·
     exact rfl
   refine ObsT.cons (k' := 4) rfl ?_ ?_
   ·
    intro fa W hW hSame hRR KK hKK
    try dsimp only at hW
    replace hKK : ∀ v w', Below W.heap.size W w' → (fun v W => StS W v Qy.pols) v w' → KK (Act.put fa _ v) w' := fun v w' h1 h2 => hKK v w' h1 h2
    clear hSame hRR
    rw [if_pos (wanted_plain rfl)]
    go_simp
    refine (PI.out _).mono ?_; rintro e w' ⟨v, rfl, hv, hb⟩
    exact hKK _ _ hb hv
   refine ObsT.cons (k' := 5) rfl ?_ ?_
   ·
    intro fa W hW hSame hRR KK hKK
    try dsimp only at hW
    obtain ⟨fv2, ft2, (rfl : fv2 = Value.string x3)⟩ := hRR 2 _ 117 rfl rfl (by kernel_rfl) (by kernel_rfl)
    obtain ⟨fv3, ft3, hk3⟩ := hRR 3 _ 118 rfl rfl (by kernel_rfl) (by kernel_rfl)
    replace hKK : ∀ v w', Below W.heap.size W w' → v = Value.tuple #[.int .i64 p0, .int .i64 y3] → KK (Act.put fa _ v) w' := fun v w' h1 h2 => hKK v w' h1 h2
    clear hSame hRR
    rw [if_pos (wanted_plain rfl)]
    go_simp
    refine (MP.out _ _ hk3).mono ?_; rintro e w' ⟨rfl, k9, rfl⟩
    exact hKK _ _ (_root_.Go.below_drewN (Below.refl _ _) _) rfl
   refine ObsT.cons (k' := 6) rfl ?_ ?_
   ·
    intro fa W hW hSame hRR KK hKK
    try dsimp only at hW
    obtain ⟨fv4, ft4, (rfl : fv4 = Value.tuple #[.int .i64 p0, .int .i64 y3])⟩ := hRR 4 _ 119 rfl rfl (by kernel_rfl) (by kernel_rfl)
    replace hKK : ∀ v w', Below W.heap.size W w' → v = Value.tuple #[.int .i64 p0, .int .i64 y3] → KK (Act.put fa _ v) w' := fun v w' h1 h2 => hKK v w' h1 h2
    clear hSame hRR
    rw [if_pos (wanted_plain rfl)]
    go_simp
    refine hKK _ _ ?_ ?_
    ·
     exact grP
    ·
     exact rfl
   refine ObsT.cons (k' := 7) rfl ?_ ?_
   ·
    intro fa W hW hSame hRR KK hKK
    try dsimp only at hW
    obtain ⟨fv5, ft5, (rfl : fv5 = Value.tuple #[.int .i64 p0, .int .i64 y3])⟩ := hRR 5 _ 114 rfl rfl (by kernel_rfl) (by kernel_rfl)
    replace hKK : ∀ v w', Below W.heap.size W w' → v = Value.int .i64 p0 → KK (Act.put fa _ v) w' := fun v w' h1 h2 => hKK v w' h1 h2
    clear hSame hRR
    rw [if_pos (wanted_plain rfl)]
    go_simp
    refine hKK _ _ ?_ ?_
    ·
     exact grP
    ·
     exact rfl
   refine ObsT.cons (k' := 8) rfl ?_ ?_
   ·
    intro fa W hW hSame hRR KK hKK
    try dsimp only at hW
    obtain ⟨fv5, ft5, (rfl : fv5 = Value.tuple #[.int .i64 p0, .int .i64 y3])⟩ := hRR 5 _ 114 rfl rfl (by kernel_rfl) (by kernel_rfl)
    replace hKK : ∀ v w', Below W.heap.size W w' → v = Value.int .i64 y3 → KK (Act.put fa _ v) w' := fun v w' h1 h2 => hKK v w' h1 h2
    clear hSame hRR
    rw [if_pos (wanted_plain rfl)]
    go_simp
    refine hKK _ _ ?_ ?_
    ·
     exact grP
    ·
     exact rfl
   refine ObsT.cons (k' := 9) rfl ?_ ?_
   ·
    intro fa W hW hSame hRR KK hKK
    try dsimp only at hW
    obtain ⟨fv6, ft6, (rfl : fv6 = Value.int .i64 p0)⟩ := hRR 6 _ 120 rfl rfl (by kernel_rfl) (by kernel_rfl)
    replace hKK : ∀ v w', Below W.heap.size W w' → v = Value.int .i64 p0 → KK (Act.put fa _ v) w' := fun v w' h1 h2 => hKK v w' h1 h2
    clear hSame hRR
    rw [if_pos (wanted_plain rfl)]
    go_simp
    refine hKK _ _ ?_ ?_
    ·
     exact grP
    ·
     exact rfl
   refine ObsT.cons (k' := 10) rfl ?_ ?_
   ·
    intro fa W hW hSame hRR KK hKK
    try dsimp only at hW
    obtain ⟨fv7, ft7, (rfl : fv7 = Value.int .i64 y3)⟩ := hRR 7 _ 121 rfl rfl (by kernel_rfl) (by kernel_rfl)
    replace hKK : ∀ v w', Below W.heap.size W w' → v = Value.int .i64 y3 → KK (Act.put fa _ v) w' := fun v w' h1 h2 => hKK v w' h1 h2
    clear hSame hRR
    rw [if_pos (wanted_plain rfl)]
    go_simp
    refine hKK _ _ ?_ ?_
    ·
     exact grP
    ·
     exact rfl
   exact ObsT.nil
  case hlast =>
   intro fa w11 d11 hSame hRR
   try dsimp only at d11
   obtain ⟨zz8, f13, rfl⟩ := hRR 8 _ 13 rfl rfl rfl
   obtain ⟨zz9, f14, rfl⟩ := hRR 9 _ 14 rfl rfl rfl
   rw [Same_shape hSame]
   simp only [List.filterMap_cons, List.filterMap_nil, List.foldl_cons, List.foldl_nil]
   have g13 : fa.tmps.getD 13 undef = Value.int .i64 p0 := by simp [Array.getD_eq_getD_getElem?, f13]
   have g14 : fa.tmps.getD 14 undef = Value.int .i64 y3 := by simp [Array.getD_eq_getD_getElem?, f14]
   rw [g13, g14]
   generalize fa.tmps.getD 115 undef = y115
   generalize fa.tmps.getD 116 undef = y116
   generalize fa.tmps.getD 117 undef = y117
   generalize fa.tmps.getD 118 undef = y118
   generalize fa.tmps.getD 119 undef = y119
   generalize fa.tmps.getD 114 undef = y114
   generalize fa.tmps.getD 120 undef = y120
   generalize fa.tmps.getD 121 undef = y121
   clear hSame hRR f13 g13 f14 g14
   simp only [Act.put, List.setIfInBounds_toArray, List.set_cons_succ, List.set_cons_zero]
   have X11 := Lib.hid (X10.out.keep d11)
   have Z11 := Lib.hid (Z10.out.keep d11)
   have B11 := Lib.hid (below_step B10.out d11)
   have C11 := Lib.hid (below_step C10.out d11)
   have O11 := Lib.hid (own_on O10.out d11)
   clear O10
   have HS11 := Lib.hid (Nat.le_trans HS10.out d11.size)
   clear HS10
   clear d11 X10 Z10 B10 C10
   have hp1 : IntKind.i64.wrap (p0 + 1) = p0 + 1 := IntWalk.i64_in _ (by have := Hbp.out; omega)
   have X := X11.out; have Xh := X.hb; have Xf := X.fz; have Xk0 := X.k0; have Xk1 := X.k1; have Xk2 := X.k2; have Xk3 := X.k3; have Xk4 := X.k4; have Xk5 := X.k5; clear X
   obtain ⟨cx1, cx2, cx3⟩ := HX.out w11 C11.out
   go_upto_region 28 with (fail)
   refine wp_named ?_; intro w12 hw12
   clear Xh Xf Xk0 Xk1 Xk2 Xk3 Xk4 Xk5 cx1 cx2 cx3
   have X12 := Lib.hid (X11.out.set5 hw12)
   have Z12 := Lib.hid (Z11.out.other hw12 hw3)
   have B12 : Hid (Below w.heap.size w w12) := Lib.hid (by rw [hw12]; exact Below.setCell B11.out (by show _ ≤ w3.heap.size; omega) _)
   have C12 : Hid (Below w2.heap.size w2 w12) := Lib.hid (by rw [hw12]; exact Below.setCell C11.out h23 _)
   have O12 := Lib.hid (show w12.ownsRow _ _ _ _ _ _ from by rw [hw12]; exact own_other O11.out hbase)
   clear O11
   have HS12 := Lib.hid (show w6.heap.size ≤ w12.heap.size from by rw [hw12]; simpa using HS11.out)
   clear HS11
   clear hw12 X11 Z11 B11 C11
   go_wp2_with (at_builtin; refine wpList_append_own _ rfl _ _ 52 rfl w6.heap.size 25 i0 (.int .i64 0) 1 8 Tryz.underlying52 hi hz0 hz1 hz2 rfl (by decide) _ 2 _ rfl (O12.out.alloc _) ⟨w12.heap.size, 0, none⟩ 1 1 [.int .i64 y3] rfl rfl (by intro j u hj; match j, hj with | 0, hj => (simp at hj; subst hj; simp [go_sem])) (by intro u hu; simp at hu; subst hu; rfl) (by decide) (by decide) (by have := HS12.out; simp; omega) ?_)
   intro v13 w13 own13 grow13 _
   have d13 : Below w6.heap.size w12 w13 := ((Below.refl _ _).alloc HS12.out _).trans (below_grown grow13 (by have := HS12.out; simp; omega) (own_row O12.out))
   have X13 := Lib.hid (X12.out.low d13 hbase)
   have Z13 := Lib.hid (Z12.out.low d13 (by omega))
   have B13 := Lib.hid (B12.out.trans (d13.mono (by omega)))
   have C13 := Lib.hid (C12.out.trans (d13.mono (by omega)))
   have O13 : Hid (w13.ownsRow w6.heap.size 25 1 v13 3 (Qy.ev [y1, y2, y3])) := Lib.hid own13
   have HS13 := Lib.hid (Nat.le_trans HS12.out d13.size)
   clear d13 own13 grow13 X12 Z12 B12 C12 O12
   obtain ⟨g, cap, hv9, HG⟩ := own_shape O13.out (by decide)
   try subst hv9
   obtain ⟨E, hE⟩ : ∃ E : List Int, E = [y1, y2, y3] := ⟨_, rfl⟩
   rw [← hE] at HG
   have HE := Lib.hid hE
   have HGH := Lib.hid HG
   clear hE HG O13 HS13
   have HF : Hid (Qy.rdK 3 [x1.data.toList, x2.data.toList, x3.data.toList] = Qy.fin E (3, x1.data.toList, t, 0, 0, p0 + 1)) := Lib.hid (by rw [HE.out]; exact HTT.out)
   have HEL : Hid (E.length = 3) := Lib.hid (by rw [HE.out]; rfl)
   clear HE
   have X := X13.out; have Xh := X.hb; have Xf := X.fz; have Xk0 := X.k0; have Xk1 := X.k1; have Xk2 := X.k2; have Xk3 := X.k3; have Xk4 := X.k4; have Xk5 := X.k5; clear X
   obtain ⟨cx1, cx2, cx3⟩ := HX.out w13 C13.out
   go_wp2_with fail
   clear Xh Xf Xk0 Xk1 Xk2 Xk3 Xk4 Xk5 cx1 cx2 cx3
   go_loopw [206] (fun i wr => ∃ j : Nat, j ≤ 3 ∧ i = .int .i64 j ∧ wr = w13 ∧ Hid (Qy.fst (E.drop j) = Qy.fst E)) (fun i _ => 3 - (intOf i).toNat)
   case atStart => exact ⟨0, by omega, rfl, rfl, Lib.hid rfl⟩
   case round =>
    obtain ⟨j, hj, rfl, hwr, hI⟩ := hrel
    have hwr := hwr.symm
    subst hwr
    by_cases hlt : j < 3
    ·
     have hjE : j < E.length := by rw [HEL.out]; exact hlt
     have hd := hI.out
     rw [List.drop_eq_getElem_cons hjE] at hd
     have gl := HGH.out j (.int .i64 E[j]) (by rw [Qy.ev, List.getElem?_map, List.getElem?_eq_getElem hjE]; rfl)
     rw [show (⟨g, 0, none⟩ : Addr).add j = ⟨g, j, none⟩ by simp [Addr.add]; exact fun h => h.symm] at gl
     generalize E[j] = y at gl hd
     by_cases hy : y = 0
     ·
      have hd : Qy.fst (E.drop (j + 1)) = Qy.fst E := by rw [← hd, hy]; exact (Qy.fst_0 _).symm
      have HD := Lib.hid hd
      subst hy
      clear hd hI hjE
      go_wp2_with fail
      go_roundw
      case rel => exact ⟨j + 1, by omega, by go_num, by first | trivial | rfl, HD⟩
      case measure => simp [intOf]; omega
     ·
      have hd : y = Qy.fst E := by rw [← hd]; exact (if_pos hy).symm
      have HR9 := Lib.hid (HF.out.trans ((Qy.fin_fst _ _).trans (if_neg (by rw [← hd]; exact hy))))
      rw [← hd] at HR9
      have gy : (y == 0) = false := by rw [beq_eq_false_iff_ne]; exact hy
      clear hd hI hjE
      go_upto_region 49 with (fail)
      refine wp_region_lit ?_
      go_step; go_simp; go_step
      go_step; go_simp; go_step
      refine wpList_st6 ?_ 23 (Operand.tmp 2) (Operand.tmp 212) ?_ w.heap.size (.int .i64 0) (.string ⟨#[]⟩) (.int .i64 0) (.int .i64 0) (.int .i64 0) (.int .i64 0) ?_ ?_ ?_ Z13.out ?_ (fun W9 C hbel => ?_)
      ·
       rfl
      ·
       rfl
      ·
       rfl
      ·
       rfl
      ·
       kernel_rfl
      ·
       simp [Value.oneCell']
      have d9 := hbel _ _ (Nat.le_refl _) B13.out
      clear hbel
      go_step; go_simp; go_step
      go_step
      apply_assumption
      go_step
      try simp +zetaDelta only [Exit.then, Exit.inBlock]
      exact bodyPost_ret (qres _ _ _ _ _ _ _ _ _ _ rfl rfl C) rfl ⟨by rw [show Qy.rdK 3 (List.map (·.data.toList) [x1, x2, x3]) = _ from HR9.out]; rfl, d9⟩
    ·
     obtain rfl : j = 3 := by omega
     have hd := hI.out
     rw [List.drop_of_length_le (by rw [HEL.out]; exact Nat.le_refl _)] at hd
     have hd : (0 : Int) = Qy.fst E := hd
     have HR9 := Lib.hid (HF.out.trans ((Qy.fin_fst _ _).trans (if_pos hd.symm)))
     clear hd hI
     have X := X13.out; have Xh := X.hb; have Xf := X.fz; have Xk0 := X.k0; have Xk1 := X.k1; have Xk2 := X.k2; have Xk3 := X.k3; have Xk4 := X.k4; have Xk5 := X.k5; clear X
     obtain ⟨cx1, cx2, cx3⟩ := HX.out w13 C13.out
     go_upto_region 51 with (fail)
     refine wp_region_lit ?_
     go_step; go_simp; go_step
     refine wpList_st6 ?_ 23 (Operand.tmp 2) (Operand.tmp 215) ?_ w.heap.size (.int .i64 3) (.string x1) (.int .i64 t) (.int .i64 0) (.int .i64 0) (.int .i64 (p0 + 1)) ?_ ?_ ?_ Z13.out ?_ (fun W9 C hbel => ?_)
     ·
      rfl
     ·
      rfl
     ·
      rfl
     ·
      rfl
     ·
      kernel_rfl
     ·
      simp [Value.oneCell']
     have d9 := hbel _ _ (Nat.le_refl _) B13.out
     clear hbel
     go_step; go_simp; go_step
     go_step
     apply_assumption
     go_step
     try simp +zetaDelta only [Exit.then, Exit.inBlock]
     exact bodyPost_ret (qres _ _ _ _ _ _ _ _ _ _ rfl rfl C) rfl ⟨by rw [show Qy.rdK 3 (List.map (·.data.toList) [x1, x2, x3]) = _ from HR9.out]; unfold Qy.V; dsimp only; rw [fd_id]; rfl, d9⟩
end Go.Proofs.YtbcbggdbojonmaaGreatDoor
