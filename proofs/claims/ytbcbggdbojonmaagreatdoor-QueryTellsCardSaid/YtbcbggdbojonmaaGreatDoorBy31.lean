/- Joined: QyT6. -/
import Derived.Test.YtbcbggdbojonmaaGreatDoorBy01
import Derived.Test.YtbcbggdbojonmaaGreatDoorBy26
set_option linter.unusedVariables false
set_option linter.unusedSimpArgs false
namespace Go.Proofs.YtbcbggdbojonmaaGreatDoor
open Go.RowKit Go.Sort Go.Pairs
set_option maxHeartbeats 8000000 in
set_option maxRecDepth 100000 in
theorem rqread_6 (s : ByteArray) (w : World) (hs : s.size ≤ 1000000) (hc : Ln.chk s.data.toList = 0) (hf : (Fd.of s.data.toList).2 = 0) (h : List UInt8) (r : List (List UInt8)) (hP : (Fd.of s.data.toList).1 = h :: r) (hm : Wd.mat h Qy.heads = (5, 0)) :
  Calls Tryz.prog 7 #[.string s] w fun e w' => e = .returned (.tuple #[Qy.V (Qy.rdK 6 r).1, .int .i64 (Qy.rdK 6 r).2]) ∧ Below w.heap.size w w' := by
 have HR := Lib.hid (Qy.rdK_stp 6 r (by omega) (by omega))
 rw [show ((6 : Nat) : Int) = 6 from rfl, show (Qy.sl 6).length = 0 from rfl] at HR
 have WI := Lib.hid (fun W => rqwide_any 6 W (by omega) (by omega))
 simp only [Int.reduceEq, or_false, false_or, or_true, true_or, or_self, if_true, if_false] at WI
 have CK := Lib.hid (fun W => rlcheck_any s W (by unfold maxLen; omega))
 have FO := Lib.hid (fun W => rfof_any s W (by omega))
 have FL := An.field_len s
 have hls : s.size ≤ 511 := by have := Qy.chk_len hc; rwa [show s.data.toList.length = s.size from Array.length_toList] at this
 rw [hc] at CK
 rw [show Fd.of s.data.toList = (h :: r, 0) from Prod.ext hP hf] at FO FL
 have HI := Lib.hid (fun W => rqheads_any W)
 clear hP hf hc hs
 go_enter Tryz.func7, Tryz.ntmps7
 go_wp2_with fail
 refine (CK.out _).mono ?_; rintro e w1 ⟨rfl, b1⟩
 have B1 := Lib.hid (below_step (show Below w.heap.size w _ from gr0) b1)
 have Z1 := Lib.hid (show Bk6 w1 w.heap.size (.int .i64 0) (.string ⟨#[]⟩) (.int .i64 0) (.int .i64 0) (.int .i64 0) (.int .i64 0) from by refine Bk6.of b1 (by simp <;> omega) (by intro j; simp [go_sem]) ?_ ?_ ?_ ?_ ?_ ?_ <;> simp [go_sem])
 clear b1
 go_wp2_with fail
 refine (FO.out _).mono ?_; rintro e w2 ⟨v, l, hst, hl, rfl, b2⟩
 have B2 := Lib.hid (below_step B1.out b2)
 have Z2 := Lib.hid (Z1.out.keep b2)
 have hl : l.map (·.data.toList) = h :: r := hl
 have hzl : ∀ x ∈ l, x.size ≤ 1000 := fun x hx => by have := FL l hl x hx; omega
 obtain ⟨x0, rl, rfl⟩ : ∃ x0 rl, l = x0 :: rl := by
  cases l with
  | nil => simp at hl
  | cons a b => exact ⟨a, b, rfl⟩
 rw [List.map_cons] at hl
 obtain ⟨e0, er⟩ := List.cons.inj hl
 have er : rl.map (·.data.toList) = r := er
 have e0 : x0.data.toList = h := e0
 subst e0
 subst er
 have z0 := hzl x0 (by simp)
 have HZL := Lib.hid hzl
 have MA := Lib.hid (fun v W S => matchr_any x0 v Qy.heads W S (by unfold maxLen; omega) (by decide) (by decide))
 rw [hm] at MA
 have T := hst
 obtain ⟨A, c, rfl, hA⟩ := T
 obtain ⟨q, rfl, -⟩ := hA (by simp)
 obtain ⟨n, hn⟩ : ∃ n, n = (x0 :: rl).length := ⟨_, rfl⟩
 rw [← hn] at hst
 rw [← hn]
 have hn2 : n = rl.length + 1 := by rw [hn, List.length_cons]
 have ST := Lib.hid (fun W (b : Below w2.heap.size w2 W) => hst.on b)
 have HC : Hid (∀ W, Below w2.heap.size w2 W → W.cell? q = some (.string x0)) := Lib.hid (fun W b => by
  obtain ⟨a, ea, ga⟩ := StS.get (hst.on b) 0 (by simp)
  cases ea
  exact ga)
 have g0 : ((n : Int) == 0) = false := by rw [beq_eq_false_iff_ne]; omega
 have hn0 : 0 < n := by omega
 have HN := Lib.hid hn2
 clear hst hA hl hzl b2 FL hm hn hn2 Z1 B1 CK FO
 go_upto_region 7 with (fail)
 refine wp_region_till (R := markR [(fun v _ => v = Value.slice (some q) n c), (fun v _ => v = Value.pointer (some q)), (fun v _ => v = Value.string x0), (fun v W => StS W v Qy.heads), (fun v _ => v = Value.tuple #[.int .i64 5, .int .i64 0]), (fun v _ => v = Value.tuple #[.int .i64 5, .int .i64 0]), (fun v _ => v = Value.int .i64 5), (fun v _ => v = Value.int .i64 0), (fun v _ => v = Value.int .i64 5), (fun v _ => v = Value.int .i64 0)]) (till := fun _ => none) (D := fun W => Below w2.heap.size w2 W) (G := fun _ W W' => Below W.heap.size W W') (by rfl) ?hbeg ⟨by kernel_rfl, by kernel_rfl, by kernel_rfl, ?hkeep, ?hstab, ObsT.all ?hobs, ?hlast⟩
 case hbeg => exact (Below.refl _ _).drew
 case hkeep => intro i w1 w2 hC hG; exact below_step hC hG
 case hstab =>
  intro i j hij ht v w1 w2 hG hm
  match j, hm with
  | 0, hm => exact hm
  | 1, hm => exact hm
  | 2, hm => exact hm
  | 3, hm => exact StS.on hm hG
  | 4, hm => exact hm
  | 5, hm => exact hm
  | 6, hm => exact hm
  | 7, hm => exact hm
  | 8, hm => exact hm
  | 9, hm => exact hm
  | j + 10, hm => exact trivial
 case hobs =>
  refine ObsT.cons (k' := 1) rfl ?_ ?_
  ·
   intro fa W hW hSame hRR KK hKK
   try dsimp only at hW
   have fb5 : fa.tmps[5]? = some (Value.slice (some q) n c) := (hSame.base 5 (by kernel_rfl)).trans (by kernel_rfl)
   replace hKK : ∀ v w', Below W.heap.size W w' → v = Value.slice (some q) n c → KK (Act.put fa _ v) w' := fun v w' h1 h2 => hKK v w' h1 h2
   clear hSame hRR
   rw [if_pos (wanted_plain rfl)]
   go_simp
   refine hKK _ _ ?_ ?_
   ·
    exact grP
   ·
    exact rfl
  refine ObsT.cons (k' := 2) rfl ?_ ?_
  ·
   intro fa W hW hSame hRR KK hKK
   try dsimp only at hW
   obtain ⟨fv0, ft0, (rfl : fv0 = Value.slice (some q) n c)⟩ := hRR 0 _ 46 rfl rfl (by kernel_rfl) (by kernel_rfl)
   replace hKK : ∀ v w', Below W.heap.size W w' → v = Value.pointer (some q) → KK (Act.put fa _ v) w' := fun v w' h1 h2 => hKK v w' h1 h2
   clear hSame hRR
   rw [if_pos (wanted_plain rfl)]
   go_simp
   refine hKK _ _ ?_ ?_
   ·
    exact grP
   ·
    exact rfl
  refine ObsT.cons (k' := 3) rfl ?_ ?_
  ·
   intro fa W hW hSame hRR KK hKK
   try dsimp only at hW
   obtain ⟨fv1, ft1, (rfl : fv1 = Value.pointer (some q))⟩ := hRR 1 _ 47 rfl rfl (by kernel_rfl) (by kernel_rfl)
   replace hKK : ∀ v w', Below W.heap.size W w' → v = Value.string x0 → KK (Act.put fa _ v) w' := fun v w' h1 h2 => hKK v w' h1 h2
   have gx := HC.out W hW
   clear hSame hRR
   rw [if_pos (wanted_plain rfl)]
   go_simp
   refine hKK _ _ ?_ ?_
   ·
    exact grP
   ·
    exact rfl
  refine ObsT.cons (k' := 4) rfl ?_ ?_
  ·
   intro fa W hW hSame hRR KK hKK
   try dsimp only at hW
   replace hKK : ∀ v w', Below W.heap.size W w' → (fun v W => StS W v Qy.heads) v w' → KK (Act.put fa _ v) w' := fun v w' h1 h2 => hKK v w' h1 h2
   clear hSame hRR
   rw [if_pos (wanted_plain rfl)]
   go_simp
   refine (HI.out _).mono ?_; rintro e w' ⟨v, rfl, hv, hb⟩
   exact hKK _ _ hb hv
  refine ObsT.cons (k' := 5) rfl ?_ ?_
  ·
   intro fa W hW hSame hRR KK hKK
   try dsimp only at hW
   obtain ⟨fv2, ft2, (rfl : fv2 = Value.string x0)⟩ := hRR 2 _ 48 rfl rfl (by kernel_rfl) (by kernel_rfl)
   obtain ⟨fv3, ft3, hk3⟩ := hRR 3 _ 49 rfl rfl (by kernel_rfl) (by kernel_rfl)
   replace hKK : ∀ v w', Below W.heap.size W w' → v = Value.tuple #[.int .i64 5, .int .i64 0] → KK (Act.put fa _ v) w' := fun v w' h1 h2 => hKK v w' h1 h2
   clear hSame hRR
   rw [if_pos (wanted_plain rfl)]
   go_simp
   refine (MA.out _ _ hk3).mono ?_; rintro e w' ⟨rfl, k9, rfl⟩
   exact hKK _ _ (_root_.Go.below_drewN (Below.refl _ _) _) rfl
  refine ObsT.cons (k' := 6) rfl ?_ ?_
  ·
   intro fa W hW hSame hRR KK hKK
   try dsimp only at hW
   obtain ⟨fv4, ft4, (rfl : fv4 = Value.tuple #[.int .i64 5, .int .i64 0])⟩ := hRR 4 _ 50 rfl rfl (by kernel_rfl) (by kernel_rfl)
   replace hKK : ∀ v w', Below W.heap.size W w' → v = Value.tuple #[.int .i64 5, .int .i64 0] → KK (Act.put fa _ v) w' := fun v w' h1 h2 => hKK v w' h1 h2
   clear hSame hRR
   rw [if_pos (wanted_plain rfl)]
   go_simp
   refine hKK _ _ ?_ ?_
   ·
    exact grP
   ·
    exact rfl
  refine ObsT.cons (k' := 7) rfl ?_ ?_
  ·
   intro fa W hW hSame hRR KK hKK
   try dsimp only at hW
   obtain ⟨fv5, ft5, (rfl : fv5 = Value.tuple #[.int .i64 5, .int .i64 0])⟩ := hRR 5 _ 45 rfl rfl (by kernel_rfl) (by kernel_rfl)
   replace hKK : ∀ v w', Below W.heap.size W w' → v = Value.int .i64 5 → KK (Act.put fa _ v) w' := fun v w' h1 h2 => hKK v w' h1 h2
   clear hSame hRR
   rw [if_pos (wanted_plain rfl)]
   go_simp
   refine hKK _ _ ?_ ?_
   ·
    exact grP
   ·
    exact rfl
  refine ObsT.cons (k' := 8) rfl ?_ ?_
  ·
   intro fa W hW hSame hRR KK hKK
   try dsimp only at hW
   obtain ⟨fv5, ft5, (rfl : fv5 = Value.tuple #[.int .i64 5, .int .i64 0])⟩ := hRR 5 _ 45 rfl rfl (by kernel_rfl) (by kernel_rfl)
   replace hKK : ∀ v w', Below W.heap.size W w' → v = Value.int .i64 0 → KK (Act.put fa _ v) w' := fun v w' h1 h2 => hKK v w' h1 h2
   clear hSame hRR
   rw [if_pos (wanted_plain rfl)]
   go_simp
   refine hKK _ _ ?_ ?_
   ·
    exact grP
   ·
    exact rfl
  refine ObsT.cons (k' := 9) rfl ?_ ?_
  ·
   intro fa W hW hSame hRR KK hKK
   try dsimp only at hW
   obtain ⟨fv6, ft6, (rfl : fv6 = Value.int .i64 5)⟩ := hRR 6 _ 51 rfl rfl (by kernel_rfl) (by kernel_rfl)
   replace hKK : ∀ v w', Below W.heap.size W w' → v = Value.int .i64 5 → KK (Act.put fa _ v) w' := fun v w' h1 h2 => hKK v w' h1 h2
   clear hSame hRR
   rw [if_pos (wanted_plain rfl)]
   go_simp
   refine hKK _ _ ?_ ?_
   ·
    exact grP
   ·
    exact rfl
  refine ObsT.cons (k' := 10) rfl ?_ ?_
  ·
   intro fa W hW hSame hRR KK hKK
   try dsimp only at hW
   obtain ⟨fv7, ft7, (rfl : fv7 = Value.int .i64 0)⟩ := hRR 7 _ 52 rfl rfl (by kernel_rfl) (by kernel_rfl)
   replace hKK : ∀ v w', Below W.heap.size W w' → v = Value.int .i64 0 → KK (Act.put fa _ v) w' := fun v w' h1 h2 => hKK v w' h1 h2
   clear hSame hRR
   rw [if_pos (wanted_plain rfl)]
   go_simp
   refine hKK _ _ ?_ ?_
   ·
    exact grP
   ·
    exact rfl
  exact ObsT.nil
 case hlast =>
  intro fa w3 d3 hSame hRR
  try dsimp only at d3
  obtain ⟨zz8, f7, rfl⟩ := hRR 8 _ 7 rfl rfl rfl
  obtain ⟨zz9, f8, rfl⟩ := hRR 9 _ 8 rfl rfl rfl
  rw [Same_shape hSame]
  simp only [List.filterMap_cons, List.filterMap_nil, List.foldl_cons, List.foldl_nil]
  have g7 : fa.tmps.getD 7 undef = Value.int .i64 5 := by simp [Array.getD_eq_getD_getElem?, f7]
  have g8 : fa.tmps.getD 8 undef = Value.int .i64 0 := by simp [Array.getD_eq_getD_getElem?, f8]
  rw [g7, g8]
  generalize fa.tmps.getD 46 undef = y46
  generalize fa.tmps.getD 47 undef = y47
  generalize fa.tmps.getD 48 undef = y48
  generalize fa.tmps.getD 49 undef = y49
  generalize fa.tmps.getD 50 undef = y50
  generalize fa.tmps.getD 45 undef = y45
  generalize fa.tmps.getD 51 undef = y51
  generalize fa.tmps.getD 52 undef = y52
  clear hSame hRR f7 g7 f8 g8
  simp only [Act.put, List.setIfInBounds_toArray, List.set_cons_succ, List.set_cons_zero]
  have B3 := Lib.hid (below_step B2.out d3)
  have Z3 := Lib.hid (Z2.out.keep d3)
  have C3 := Lib.hid d3
  clear d3 B2 Z2
  go_wp2_with fail
  refine (WI.out _).mono ?_; rintro e w4 ⟨rfl, b4⟩
  have D4 : Below w3.heap.size w3 w4 := below_step gr0 b4
  have B4 := Lib.hid (below_step B3.out D4)
  have Z4 := Lib.hid (Z3.out.keep D4)
  have C4 := Lib.hid (below_step C3.out D4)
  have X4 := Lib.hid (show Bk6 w4 w3.heap.size (.int .i64 6) (.string ⟨#[]⟩) (.int .i64 0) (.int .i64 0) (.int .i64 0) (.int .i64 0) from by refine Bk6.of b4 (by simp <;> omega) (by intro j; simp [go_sem]) ?_ ?_ ?_ ?_ ?_ ?_ <;> simp [go_sem])
  clear b4 D4
  have f1 : ¬ n < 1 := by omega
  have g1 : decide ((n : Int) < 1) = false := decide_eq_false (by omega)
  have X := X4.out; have Xh := X.hb; have Xf := X.fz; have Xk0 := X.k0; have Xk1 := X.k1; have Xk2 := X.k2; have Xk3 := X.k3; have Xk4 := X.k4; have Xk5 := X.k5; clear X
  go_wp2_with fail
  refine (WI.out _).mono ?_; rintro e w5 ⟨rfl, b5⟩
  have B5 := Lib.hid (below_step B4.out b5)
  have Z5 := Lib.hid (Z4.out.keep b5)
  have C5 := Lib.hid (below_step C4.out b5)
  have X5 := Lib.hid (X4.out.keep b5)
  clear b5 Xh Xf Xk0 Xk1 Xk2 Xk3 Xk4 Xk5 X4 C4 Z4
  by_cases f2 : 1 < n
  case pos =>
   have hl1 : ¬ (rl.map (·.data.toList)).length < 0 := by have := HN.out; rw [List.length_map]; omega
   have hl2 : 0 < (rl.map (·.data.toList)).length := by have := HN.out; rw [List.length_map]; omega
   have HE := HR.out.trans ((if_neg hl1).trans (if_pos hl2))
   have g2 : decide (1 < (n : Int)) = true := decide_eq_true (by omega)
   have Z := Z5.out; have Zh := Z.hb; have Zf := Z.fz; have Zk0 := Z.k0; have Zk1 := Z.k1; have Zk2 := Z.k2; have Zk3 := Z.k3; have Zk4 := Z.k4; have Zk5 := Z.k5; clear Z
   have HE := Lib.hid HE
   go_wp2_with fail
   exact qret Z5.out rfl rfl rfl (fun W9 hb => ⟨by rw [HE.out]; rfl, hb _ _ (Nat.le_refl _) B5.out⟩)
  obtain rfl : n = 1 := by omega
  clear f1 f2 g1 g0 hn0
  obtain rfl : rl = [] := List.eq_nil_of_length_eq_zero (by have := HN.out; omega)
  have X := X5.out; have Xh := X.hb; have Xf := X.fz; have Xk0 := X.k0; have Xk1 := X.k1; have Xk2 := X.k2; have Xk3 := X.k3; have Xk4 := X.k4; have Xk5 := X.k5; clear X
  have hne := Z3.out.hb
  have Z := Z5.out; have Zh := Z.hb; have Zf := Z.fz; have Zk0 := Z.k0; have Zk1 := Z.k1; have Zk2 := Z.k2; have Zk3 := Z.k3; have Zk4 := Z.k4; have Zk5 := Z.k5; clear Z
  go_wp2_with fail
  exact qret Z5.out rfl rfl rfl (fun W9 hb => ⟨rfl, hb _ _ (Nat.le_refl _) B5.out⟩)
end Go.Proofs.YtbcbggdbojonmaaGreatDoor
