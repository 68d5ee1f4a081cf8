/- Joined: QyU, QyW, MnOg, QyQ. -/
import Derived.Test.YtbcbggdbojonmaaGreatDoorBy26
import Derived.Test.YtbcbggdbojonmaaGreatDoorBy27
import Derived.Test.YtbcbggdbojonmaaGreatDoorBy28
import Derived.Test.YtbcbggdbojonmaaGreatDoorBy29
import Derived.Test.YtbcbggdbojonmaaGreatDoorBy30
import Derived.Test.YtbcbggdbojonmaaGreatDoorBy31
import Derived.Test.YtbcbggdbojonmaaGreatDoorBy32
import Derived.Test.YtbcbggdbojonmaaGreatDoorBy01
import Derived.Test.YtbcbggdbojonmaaGreatDoorBy20
import Derived.Test.YtbcbggdbojonmaaGreatDoorBy02
import Derived.SliceStrings
import Derived.OpenShut
import Derived.LaidMore
import Derived.ChangeArms
import Derived.ChangeSame
import Derived.WalkSmall
import Derived.Lib.SmallJoins
import Derived.Test.YtbcbggdbojonmaaGreatDoorBy14
import Derived.WalkKit
import Derived.ProofKit
set_option linter.unusedVariables false
set_option linter.unusedSimpArgs false
namespace Go.Proofs.YtbcbggdbojonmaaGreatDoor
open Go.RowKit Go.Sort
theorem rqRead_any (s : ByteArray) (w : World) (hs : s.size ≤ 1000000) :
  Calls Tryz.prog 7 #[.string s] w fun e w' => e = .returned (.tuple #[Qy.V (Qy.rd s.data.toList).1, .int .i64 (Qy.rd s.data.toList).2]) ∧ Below w.heap.size w w' := by
 unfold Qy.rd
 by_cases hc : Ln.chk s.data.toList = 0
 case neg => rw [if_pos hc]; exact rqread_b1 s w hs hc
 rw [if_neg (by simp [hc])]
 by_cases hf : (Fd.of s.data.toList).2 = 0
 case neg => rw [if_pos hf]; exact rqread_b2 s w hs hc _ rfl (.inl hf)
 rw [if_neg (by simp [hf])]
 cases hP : (Fd.of s.data.toList).1 with
 | nil => exact rqread_b2 s w hs hc 0 hf (.inr hP)
 | cons h r =>
  rw [Qy.rdF_cons]
  by_cases hm : (Wd.mat h Qy.heads).2 = 0
  case neg => rw [if_pos hm]; exact rqread_b3 s w hs hc hf h r hP _ _ rfl hm
  rw [if_neg (by simp [hm])]
  have m := Wd.mat_lt h Qy.heads hm
  have ml : Qy.heads.length = 7 := rfl
  rw [ml] at m
  have hq : Wd.mat h Qy.heads = ((Wd.mat h Qy.heads).1, 0) := Prod.ext rfl hm
  generalize (Wd.mat h Qy.heads).1 = k at hq m ⊢
  obtain rfl | rfl | rfl | rfl | rfl | rfl | rfl : k = 0 ∨ k = 1 ∨ k = 2 ∨ k = 3 ∨ k = 4 ∨ k = 5 ∨ k = 6 := by omega
  ·
   exact rqread_1 s w hs hc hf h r hP hq
  ·
   exact rqread_2 s w hs hc hf h r hP hq
  ·
   exact rqread_3 s w hs hc hf h r hP hq
  ·
   exact rqread_4 s w hs hc hf h r hP hq
  ·
   exact rqread_5 s w hs hc hf h r hP hq
  ·
   exact rqread_6 s w hs hc hf h r hP hq
  ·
   exact rqread_7 s w hs hc hf h r hP hq
end Go.Proofs.YtbcbggdbojonmaaGreatDoor
set_option linter.unusedVariables false
set_option linter.unusedSimpArgs false
namespace Go.Proofs.YtbcbggdbojonmaaGreatDoor
open Go.RowKit Go.Sort Go.Pairs
set_option maxHeartbeats 16000000 in
set_option maxRecDepth 100000 in
theorem query_tells (s : ByteArray) (k : Int) (z : ByteArray) (t n u p : Int) (w : World) (hs : s.size ≤ 140737488355328) (hz : z.size ≤ 140737488355328) (ht : An.bd t) (hn : An.bd n)
  (T : Lib.TabIs Tryz.prog w "internal/strconv.uint64pow10" .u64 Lib.pow10Tab) (tp : TypeId) (pp : Value) (V : w.var? Tryz.prog "strconv.ErrRange" = some #[.iface tp pp]) :
  Calls Tryz.prog 3 #[.string s, .agg #[.int .i64 k, .string z, .int .i64 t, .int .i64 n, .int .i64 u, .int .i64 p]] w fun e w' => e = .returned (.bool true) ∧ Below w.heap.size w w' := by
 have TT := Lib.hid T; have VV := Lib.hid V
 have LV := Lib.hid (fun W (B : Below w.heap.size w W) => lives44 W (var_keep B TT.out) tp pp (var_keep B VV.out))
 clear T V
 by_cases h1 : 2000 < s.size
 case pos =>
  have g : (2000 : Int) < (s.size : Int) := by omega
  clear ht hn h1
  go_enter Tryz.func3, Tryz.ntmps3
  go_wp2_with fail
  refine (LV.out _ gr0).mono ?_; rintro e w9 ⟨rfl, b9⟩
  have B9 : Hid (Below w.heap.size w w9) := Lib.hid (below_step gr0 b9)
  clear b9
  go_wp2_with fail
  go_ret
  exact ⟨rfl, B9.out⟩
 have g : ¬ (2000 : Int) < (s.size : Int) := by omega
 by_cases h2 : 500 < z.size
 case pos =>
  have g2 : (500 : Int) < (z.size : Int) := by omega
  clear ht hn h1 h2
  go_enter Tryz.func3, Tryz.ntmps3
  go_wp2_with fail
  refine (LV.out _ gr0).mono ?_; rintro e w9 ⟨rfl, b9⟩
  have B9 : Hid (Below w.heap.size w w9) := Lib.hid (below_step gr0 b9)
  clear b9
  go_wp2_with fail
  go_ret
  exact ⟨rfl, B9.out⟩
 have g2 : ¬ (500 : Int) < (z.size : Int) := by omega
 have hzl : z.data.toList.length ≤ 500 := by rw [show z.data.toList.length = z.size from Array.length_toList]; omega
 have RD := Lib.hid (fun W (B : Below w.heap.size w W) => qread_line s W (by omega) tp pp (var_keep B VV.out))
 have RR := Lib.hid (fun W => rqRead_any s W (by omega))
 have TX := Lib.hid (fun W (B : Below w.heap.size w W) => qText_any (k, z.data.toList, t, n, u, p) W ht hn (by dsimp only; omega) (var_keep B TT.out) tp pp (var_keep B VV.out))
 have TR := Lib.hid (fun W => rqText_any (k, z.data.toList, t, n, u, p) W ht hn (by dsimp only; omega))
 have RI := Lib.hid (fun W (B : Below w.heap.size w W) => qRight_any (k, z.data.toList, t, n, u, p) W ht hn (by dsimp only; omega) (var_keep B TT.out) tp pp (var_keep B VV.out))
 have RJ := Lib.hid (fun W => rqright_any k t n u p z.data.toList W (by omega))
 generalize Qy.rd s.data.toList = R at RD RR
 obtain ⟨⟨a0, al, a2, a3, a4, a5⟩, y⟩ := R
 generalize (Qy.tx (k, z.data.toList, t, n, u, p)).2 = y2 at TX TR
 generalize (⟨(Qy.tx (k, z.data.toList, t, n, u, p)).1.toArray⟩ : ByteArray) = L at TX TR
 generalize decide (Qy.right (k, z.data.toList, t, n, u, p)) = bb at RI RJ
 unfold Qy.V at RD RR TX TR RI RJ
 dsimp only at RD RR TX TR RI RJ
 rw [fd_id z] at TX TR RI RJ
 generalize (⟨al.toArray⟩ : ByteArray) = a1 at RD RR
 clear ht hn h1 h2 hzl hs hz
 go_enter Tryz.func3, Tryz.ntmps3
 go_upto_region 1 with (fail)
 refine wp_named ?_; intro w1 hw1
 have d1 : Below w.heap.size w w1 := by rw [hw1]; exact gr0
 have B1 := Lib.hid d1
 have X1 := Lib.hid (show Bk6 w1 w.heap.size (.int .i64 k) (.string z) (.int .i64 t) (.int .i64 n) (.int .i64 u) (.int .i64 p) from by rw [hw1]; exact ⟨by simp <;> omega, by intro j; simp [go_sem], by simp [go_sem], by simp [go_sem], by simp [go_sem], by simp [go_sem], by simp [go_sem], by simp [go_sem]⟩)
 clear d1 hw1
 have X := X1.out; have X_h := X.hb; have X_f := X.fz; have X_0 := X.k0; have X_1 := X.k1; have X_2 := X.k2; have X_3 := X.k3; have X_4 := X.k4; have X_5 := X.k5; clear X
 go_wp2_with fail
 refine (RD.out _ B1.out).mono ?_; rintro e w2 ⟨rfl, b2⟩
 clear X_h X_f X_0 X_1 X_2 X_3 X_4 X_5
 have B2 := Lib.hid (below_step B1.out b2)
 have X2 := Lib.hid (X1.out.keep b2)
 clear b2 X1 B1
 have X := X2.out; have X_h := X.hb; have X_f := X.fz; have X_0 := X.k0; have X_1 := X.k1; have X_2 := X.k2; have X_3 := X.k3; have X_4 := X.k4; have X_5 := X.k5; clear X
 go_wp2_with fail
 refine (RR.out _).mono ?_; rintro e w3 ⟨rfl, b3⟩
 clear X_h X_f X_0 X_1 X_2 X_3 X_4 X_5
 have d3 : Below w2.heap.size w2 w3 := below_step gr0 b3
 have E3 := Lib.hid (show Bk6 w3 w2.heap.size (.int .i64 a0) (.string a1) (.int .i64 a2) (.int .i64 a3) (.int .i64 a4) (.int .i64 a5) from by refine Bk6.of b3 (by simp <;> omega) (by intro j; simp [go_sem]) ?_ ?_ ?_ ?_ ?_ ?_ <;> simp [go_sem])
 have B3 := Lib.hid (below_step B2.out d3)
 have X3 := Lib.hid (X2.out.keep d3)
 clear b3 d3 X2
 have X := X3.out; have X_h := X.hb; have X_f := X.fz; have X_0 := X.k0; have X_1 := X.k1; have X_2 := X.k2; have X_3 := X.k3; have X_4 := X.k4; have X_5 := X.k5; clear X
 go_wp2_with fail
 refine (TX.out _ (below_step B3.out gr0)).mono ?_; rintro e w4 ⟨rfl, b4⟩
 clear X_h X_f X_0 X_1 X_2 X_3 X_4 X_5
 have d4 : Below w3.heap.size w3 w4 := below_step gr0 b4
 have G4 := Lib.hid (show Bk6 w4 w3.heap.size (.int .i64 a0) (.string a1) (.int .i64 a2) (.int .i64 a3) (.int .i64 a4) (.int .i64 a5) from by refine Bk6.of b4 (by simp <;> omega) (by intro j; simp [go_sem]) ?_ ?_ ?_ ?_ ?_ ?_ <;> simp [go_sem])
 have B4 := Lib.hid (below_step B3.out d4)
 have X4 := Lib.hid (X3.out.keep d4)
 have E4 := Lib.hid (E3.out.keep d4)
 clear b4 d4 X3 E3
 have X := X4.out; have X_h := X.hb; have X_f := X.fz; have X_0 := X.k0; have X_1 := X.k1; have X_2 := X.k2; have X_3 := X.k3; have X_4 := X.k4; have X_5 := X.k5; clear X
 go_wp2_with fail
 refine (TR.out _).mono ?_; rintro e w5 ⟨rfl, b5⟩
 clear X_h X_f X_0 X_1 X_2 X_3 X_4 X_5
 have B5 := Lib.hid (below_step B4.out b5)
 have X5 := Lib.hid (X4.out.keep b5)
 have E5 := Lib.hid (E4.out.keep b5)
 have G5 := Lib.hid (G4.out.keep b5)
 clear b5 X4 E4 G4
 go_upto_region 7 with (fail)
 refine wp_region_till (R := markR [(fun v _ => v = Value.agg #[.int .i64 a0, .string a1, .int .i64 a2, .int .i64 a3, .int .i64 a4, .int .i64 a5]), (fun v _ => v = Value.agg #[.int .i64 a0, .string a1, .int .i64 a2, .int .i64 a3, .int .i64 a4, .int .i64 a5]), (fun v _ => v = Value.bool true), (fun v _ => v = Value.bool true), (fun v _ => v = Value.int .i64 y), (fun v _ => v = Value.int .i64 y), (fun v _ => v = Value.bool true), (fun v _ => v = Value.bool true), (fun v _ => v = Value.bool true), (fun v _ => v = Value.string L), (fun v _ => v = Value.string L), (fun v _ => v = Value.bool true), (fun v _ => v = Value.bool true), (fun v _ => v = Value.bool true), (fun v _ => v = Value.int .i64 y2), (fun v _ => v = Value.int .i64 y2), (fun v _ => v = Value.bool true), (fun v _ => v = Value.bool true), (fun v _ => v = Value.bool true), (fun v _ => v = Value.agg #[.int .i64 k, .string z, .int .i64 t, .int .i64 n, .int .i64 u, .int .i64 p]), (fun v _ => v = Value.bool bb), (fun v _ => v = Value.agg #[.int .i64 k, .string z, .int .i64 t, .int .i64 n, .int .i64 u, .int .i64 p]), (fun v _ => v = Value.bool bb), (fun v _ => v = Value.bool true), (fun v _ => v = Value.bool true), (fun v _ => v = Value.bool true), (fun v _ => v = Value.bool true), (fun v _ => v = Value.bool true), (fun v _ => v = Value.bool true)]) (till := fun _ => none) (D := fun W => Below w5.heap.size w5 W) (G := fun _ W W' => Below W.heap.size W W') (by rfl) ?hbeg ⟨by kernel_rfl, by kernel_rfl, by kernel_rfl, ?hkeep, ?hstab, ObsT.all ?hobs, ?hlast⟩
 case hbeg => exact (Below.refl _ _).drew
 case hkeep => intro i w1 w2 hC hG; exact below_step hC hG
 case hstab =>
  intro i j hij ht v w1 w2 hG hm
  match j, hm with
  | 0, hm => exact hm
  | 1, hm => exact hm
  | 2, hm => exact hm
  | 3, hm => exact hm
  | 4, hm => exact hm
  | 5, hm => exact hm
  | 6, hm => exact hm
  | 7, hm => exact hm
  | 8, hm => exact hm
  | 9, hm => exact hm
  | 10, hm => exact hm
  | 11, hm => exact hm
  | 12, hm => exact hm
  | 13, hm => exact hm
  | 14, hm => exact hm
  | 15, hm => exact hm
  | 16, hm => exact hm
  | 17, hm => exact hm
  | 18, hm => exact hm
  | 19, hm => exact hm
  | 20, hm => exact hm
  | 21, hm => exact hm
  | 22, hm => exact hm
  | 23, hm => exact hm
  | 24, hm => exact hm
  | 25, hm => exact hm
  | 26, hm => exact hm
  | 27, hm => exact hm
  | 28, hm => exact hm
  | j + 29, hm => exact trivial
 case hobs =>
  refine ObsT.cons (k' := 1) rfl ?_ ?_
  ·
   intro fa W hW hSame hRR KK hKK
   try dsimp only at hW
   have fb5 : fa.tmps[5]? = some (Value.pointer (some ⟨w2.heap.size, 0, none⟩)) := (hSame.base 5 (by kernel_rfl)).trans (by kernel_rfl)
   replace hKK : ∀ v w', Below W.heap.size W w' → v = Value.agg #[.int .i64 a0, .string a1, .int .i64 a2, .int .i64 a3, .int .i64 a4, .int .i64 a5] → KK (Act.put fa _ v) w' := fun v w' h1 h2 => hKK v w' h1 h2
   have hX := E5.out.keep hW
   have tx := hX; obtain ⟨chb, cfz, ck0, ck1, ck2, ck3, ck4, ck5⟩ := tx
   clear hSame hRR
   rw [if_pos (wanted_plain rfl)]
   go_simp
   refine hKK _ _ ?_ ?_
   ·
    exact grP
   ·
    exact rfl
  refine ObsT.cons (k' := 2) rfl ?_ ?_
  ·
   intro fa W hW hSame hRR KK hKK
   try dsimp only at hW
   have fb7 : fa.tmps[7]? = some (Value.pointer (some ⟨w3.heap.size, 0, none⟩)) := (hSame.base 7 (by kernel_rfl)).trans (by kernel_rfl)
   replace hKK : ∀ v w', Below W.heap.size W w' → v = Value.agg #[.int .i64 a0, .string a1, .int .i64 a2, .int .i64 a3, .int .i64 a4, .int .i64 a5] → KK (Act.put fa _ v) w' := fun v w' h1 h2 => hKK v w' h1 h2
   have hX := G5.out.keep hW
   have tx := hX; obtain ⟨chb, cfz, ck0, ck1, ck2, ck3, ck4, ck5⟩ := tx
   clear hSame hRR
   rw [if_pos (wanted_plain rfl)]
   go_simp
   refine hKK _ _ ?_ ?_
   ·
    exact grP
   ·
    exact rfl
  refine ObsT.cons (k' := 3) rfl ?_ ?_
  ·
   intro fa W hW hSame hRR KK hKK
   try dsimp only at hW
   obtain ⟨fv0, ft0, (rfl : fv0 = Value.agg #[.int .i64 a0, .string a1, .int .i64 a2, .int .i64 a3, .int .i64 a4, .int .i64 a5])⟩ := hRR 0 _ 43 rfl rfl (by kernel_rfl) (by kernel_rfl)
   obtain ⟨fv1, ft1, (rfl : fv1 = Value.agg #[.int .i64 a0, .string a1, .int .i64 a2, .int .i64 a3, .int .i64 a4, .int .i64 a5])⟩ := hRR 1 _ 44 rfl rfl (by kernel_rfl) (by kernel_rfl)
   replace hKK : ∀ v w', Below W.heap.size W w' → v = Value.bool true → KK (Act.put fa _ v) w' := fun v w' h1 h2 => hKK v w' h1 h2
   clear hSame hRR
   rw [if_pos (wanted_plain rfl)]
   go_simp
   refine hKK _ _ ?_ ?_
   ·
    exact grP
   ·
    exact rfl
  refine ObsT.cons (k' := 4) rfl ?_ ?_
  ·
   intro fa W hW hSame hRR KK hKK
   try dsimp only at hW
   obtain ⟨fv2, ft2, (rfl : fv2 = Value.bool true)⟩ := hRR 2 _ 45 rfl rfl (by kernel_rfl) (by kernel_rfl)
   replace hKK : ∀ v w', Below W.heap.size W w' → v = Value.bool true → KK (Act.put fa _ v) w' := fun v w' h1 h2 => hKK v w' h1 h2
   clear hSame hRR
   rw [if_pos (wanted_plain rfl)]
   go_simp
   refine hKK _ _ ?_ ?_
   ·
    exact grP
   ·
    exact rfl
  refine ObsT.cons (k' := 5) rfl ?_ ?_
  ·
   intro fa W hW hSame hRR KK hKK
   try dsimp only at hW
   have fb6 : fa.tmps[6]? = some (Value.int .i64 y) := (hSame.base 6 (by kernel_rfl)).trans (by kernel_rfl)
   obtain ⟨fv3, ft3, (rfl : fv3 = Value.bool true)⟩ := hRR 3 _ 46 rfl rfl (by kernel_rfl) (by kernel_rfl)
   replace hKK : ∀ v w', Below W.heap.size W w' → v = Value.int .i64 y → KK (Act.put fa _ v) w' := fun v w' h1 h2 => hKK v w' h1 h2
   clear hSame hRR
   rw [wanted_guard rfl rfl rfl ft3]
   rw [if_pos (by rfl)]
   go_simp
   refine hKK _ _ ?_ ?_
   ·
    exact grP
   ·
    exact rfl
  refine ObsT.cons (k' := 6) rfl ?_ ?_
  ·
   intro fa W hW hSame hRR KK hKK
   try dsimp only at hW
   have fb8 : fa.tmps[8]? = some (Value.int .i64 y) := (hSame.base 8 (by kernel_rfl)).trans (by kernel_rfl)
   obtain ⟨fv3, ft3, (rfl : fv3 = Value.bool true)⟩ := hRR 3 _ 46 rfl rfl (by kernel_rfl) (by kernel_rfl)
   replace hKK : ∀ v w', Below W.heap.size W w' → v = Value.int .i64 y → KK (Act.put fa _ v) w' := fun v w' h1 h2 => hKK v w' h1 h2
   clear hSame hRR
   rw [wanted_guard rfl rfl rfl ft3]
   rw [if_pos (by rfl)]
   go_simp
   refine hKK _ _ ?_ ?_
   ·
    exact grP
   ·
    exact rfl
  refine ObsT.cons (k' := 7) rfl ?_ ?_
  ·
   intro fa W hW hSame hRR KK hKK
   try dsimp only at hW
   obtain ⟨fv3, ft3, (rfl : fv3 = Value.bool true)⟩ := hRR 3 _ 46 rfl rfl (by kernel_rfl) (by kernel_rfl)
   obtain ⟨fv4, ft4, (rfl : fv4 = Value.int .i64 y)⟩ := hRR 4 _ 47 rfl rfl (by kernel_rfl) (by kernel_rfl)
   obtain ⟨fv5, ft5, (rfl : fv5 = Value.int .i64 y)⟩ := hRR 5 _ 48 rfl rfl (by kernel_rfl) (by kernel_rfl)
   replace hKK : ∀ v w', Below W.heap.size W w' → v = Value.bool true → KK (Act.put fa _ v) w' := fun v w' h1 h2 => hKK v w' h1 h2
   clear hSame hRR
   rw [wanted_guard rfl rfl rfl ft3]
   rw [if_pos (by rfl)]
   go_simp
   refine hKK _ _ ?_ ?_
   ·
    exact grP
   ·
    exact rfl
  refine ObsT.cons (k' := 8) rfl ?_ ?_
  ·
   intro fa W hW hSame hRR KK hKK
   try dsimp only at hW
   obtain ⟨fv3, ft3, (rfl : fv3 = Value.bool true)⟩ := hRR 3 _ 46 rfl rfl (by kernel_rfl) (by kernel_rfl)
   obtain ⟨fv6, ft6, (rfl : fv6 = Value.bool true)⟩ := hRR 6 _ 49 rfl rfl (by kernel_rfl) (by kernel_rfl)
   replace hKK : ∀ v w', Below W.heap.size W w' → v = Value.bool true → KK (Act.put fa _ v) w' := fun v w' h1 h2 => hKK v w' h1 h2
   clear hSame hRR
   rw [if_pos (wanted_plain rfl)]
   go_simp
   refine hKK _ _ ?_ ?_
   ·
    exact grP
   ·
    exact rfl
  refine ObsT.cons (k' := 9) rfl ?_ ?_
  ·
   intro fa W hW hSame hRR KK hKK
   try dsimp only at hW
   obtain ⟨fv7, ft7, (rfl : fv7 = Value.bool true)⟩ := hRR 7 _ 50 rfl rfl (by kernel_rfl) (by kernel_rfl)
   replace hKK : ∀ v w', Below W.heap.size W w' → v = Value.bool true → KK (Act.put fa _ v) w' := fun v w' h1 h2 => hKK v w' h1 h2
   clear hSame hRR
   rw [if_pos (wanted_plain rfl)]
   go_simp
   refine hKK _ _ ?_ ?_
   ·
    exact grP
   ·
    exact rfl
  refine ObsT.cons (k' := 10) rfl ?_ ?_
  ·
   intro fa W hW hSame hRR KK hKK
   try dsimp only at hW
   have fb9 : fa.tmps[9]? = some (Value.string L) := (hSame.base 9 (by kernel_rfl)).trans (by kernel_rfl)
   obtain ⟨fv8, ft8, (rfl : fv8 = Value.bool true)⟩ := hRR 8 _ 51 rfl rfl (by kernel_rfl) (by kernel_rfl)
   replace hKK : ∀ v w', Below W.heap.size W w' → v = Value.string L → KK (Act.put fa _ v) w' := fun v w' h1 h2 => hKK v w' h1 h2
   clear hSame hRR
   rw [wanted_guard rfl rfl rfl ft8]
   rw [if_pos (by rfl)]
   go_simp
   refine hKK _ _ ?_ ?_
   ·
    exact grP
   ·
    exact rfl
  refine ObsT.cons (k' := 11) rfl ?_ ?_
  ·
   intro fa W hW hSame hRR KK hKK
   try dsimp only at hW
   have fb11 : fa.tmps[11]? = some (Value.string L) := (hSame.base 11 (by kernel_rfl)).trans (by kernel_rfl)
   obtain ⟨fv8, ft8, (rfl : fv8 = Value.bool true)⟩ := hRR 8 _ 51 rfl rfl (by kernel_rfl) (by kernel_rfl)
   replace hKK : ∀ v w', Below W.heap.size W w' → v = Value.string L → KK (Act.put fa _ v) w' := fun v w' h1 h2 => hKK v w' h1 h2
   clear hSame hRR
   rw [wanted_guard rfl rfl rfl ft8]
   rw [if_pos (by rfl)]
   go_simp
   refine hKK _ _ ?_ ?_
   ·
    exact grP
   ·
    exact rfl
  refine ObsT.cons (k' := 12) rfl ?_ ?_
  ·
   intro fa W hW hSame hRR KK hKK
   try dsimp only at hW
   obtain ⟨fv8, ft8, (rfl : fv8 = Value.bool true)⟩ := hRR 8 _ 51 rfl rfl (by kernel_rfl) (by kernel_rfl)
   obtain ⟨fv9, ft9, (rfl : fv9 = Value.string L)⟩ := hRR 9 _ 52 rfl rfl (by kernel_rfl) (by kernel_rfl)
   obtain ⟨fv10, ft10, (rfl : fv10 = Value.string L)⟩ := hRR 10 _ 53 rfl rfl (by kernel_rfl) (by kernel_rfl)
   replace hKK : ∀ v w', Below W.heap.size W w' → v = Value.bool true → KK (Act.put fa _ v) w' := fun v w' h1 h2 => hKK v w' h1 h2
   clear hSame hRR
   rw [wanted_guard rfl rfl rfl ft8]
   rw [if_pos (by rfl)]
   go_simp
   refine hKK _ _ ?_ ?_
   ·
    exact grP
   ·
    exact rfl
  refine ObsT.cons (k' := 13) rfl ?_ ?_
  ·
   intro fa W hW hSame hRR KK hKK
   try dsimp only at hW
   obtain ⟨fv8, ft8, (rfl : fv8 = Value.bool true)⟩ := hRR 8 _ 51 rfl rfl (by kernel_rfl) (by kernel_rfl)
   obtain ⟨fv11, ft11, (rfl : fv11 = Value.bool true)⟩ := hRR 11 _ 54 rfl rfl (by kernel_rfl) (by kernel_rfl)
   replace hKK : ∀ v w', Below W.heap.size W w' → v = Value.bool true → KK (Act.put fa _ v) w' := fun v w' h1 h2 => hKK v w' h1 h2
   clear hSame hRR
   rw [if_pos (wanted_plain rfl)]
   go_simp
   refine hKK _ _ ?_ ?_
   ·
    exact grP
   ·
    exact rfl
  refine ObsT.cons (k' := 14) rfl ?_ ?_
  ·
   intro fa W hW hSame hRR KK hKK
   try dsimp only at hW
   obtain ⟨fv12, ft12, (rfl : fv12 = Value.bool true)⟩ := hRR 12 _ 55 rfl rfl (by kernel_rfl) (by kernel_rfl)
   replace hKK : ∀ v w', Below W.heap.size W w' → v = Value.bool true → KK (Act.put fa _ v) w' := fun v w' h1 h2 => hKK v w' h1 h2
   clear hSame hRR
   rw [if_pos (wanted_plain rfl)]
   go_simp
   refine hKK _ _ ?_ ?_
   ·
    exact grP
   ·
    exact rfl
  refine ObsT.cons (k' := 15) rfl ?_ ?_
  ·
   intro fa W hW hSame hRR KK hKK
   try dsimp only at hW
   have fb10 : fa.tmps[10]? = some (Value.int .i64 y2) := (hSame.base 10 (by kernel_rfl)).trans (by kernel_rfl)
   obtain ⟨fv13, ft13, (rfl : fv13 = Value.bool true)⟩ := hRR 13 _ 56 rfl rfl (by kernel_rfl) (by kernel_rfl)
   replace hKK : ∀ v w', Below W.heap.size W w' → v = Value.int .i64 y2 → KK (Act.put fa _ v) w' := fun v w' h1 h2 => hKK v w' h1 h2
   clear hSame hRR
   rw [wanted_guard rfl rfl rfl ft13]
   rw [if_pos (by rfl)]
   go_simp
   refine hKK _ _ ?_ ?_
   ·
    exact grP
   ·
    exact rfl
  refine ObsT.cons (k' := 16) rfl ?_ ?_
  ·
   intro fa W hW hSame hRR KK hKK
   try dsimp only at hW
   have fb12 : fa.tmps[12]? = some (Value.int .i64 y2) := (hSame.base 12 (by kernel_rfl)).trans (by kernel_rfl)
   obtain ⟨fv13, ft13, (rfl : fv13 = Value.bool true)⟩ := hRR 13 _ 56 rfl rfl (by kernel_rfl) (by kernel_rfl)
   replace hKK : ∀ v w', Below W.heap.size W w' → v = Value.int .i64 y2 → KK (Act.put fa _ v) w' := fun v w' h1 h2 => hKK v w' h1 h2
   clear hSame hRR
   rw [wanted_guard rfl rfl rfl ft13]
   rw [if_pos (by rfl)]
   go_simp
   refine hKK _ _ ?_ ?_
   ·
    exact grP
   ·
    exact rfl
  refine ObsT.cons (k' := 17) rfl ?_ ?_
  ·
   intro fa W hW hSame hRR KK hKK
   try dsimp only at hW
   obtain ⟨fv13, ft13, (rfl : fv13 = Value.bool true)⟩ := hRR 13 _ 56 rfl rfl (by kernel_rfl) (by kernel_rfl)
   obtain ⟨fv14, ft14, (rfl : fv14 = Value.int .i64 y2)⟩ := hRR 14 _ 57 rfl rfl (by kernel_rfl) (by kernel_rfl)
   obtain ⟨fv15, ft15, (rfl : fv15 = Value.int .i64 y2)⟩ := hRR 15 _ 58 rfl rfl (by kernel_rfl) (by kernel_rfl)
   replace hKK : ∀ v w', Below W.heap.size W w' → v = Value.bool true → KK (Act.put fa _ v) w' := fun v w' h1 h2 => hKK v w' h1 h2
   clear hSame hRR
   rw [wanted_guard rfl rfl rfl ft13]
   rw [if_pos (by rfl)]
   go_simp
   refine hKK _ _ ?_ ?_
   ·
    exact grP
   ·
    exact rfl
  refine ObsT.cons (k' := 18) rfl ?_ ?_
  ·
   intro fa W hW hSame hRR KK hKK
   try dsimp only at hW
   obtain ⟨fv13, ft13, (rfl : fv13 = Value.bool true)⟩ := hRR 13 _ 56 rfl rfl (by kernel_rfl) (by kernel_rfl)
   obtain ⟨fv16, ft16, (rfl : fv16 = Value.bool true)⟩ := hRR 16 _ 59 rfl rfl (by kernel_rfl) (by kernel_rfl)
   replace hKK : ∀ v w', Below W.heap.size W w' → v = Value.bool true → KK (Act.put fa _ v) w' := fun v w' h1 h2 => hKK v w' h1 h2
   clear hSame hRR
   rw [if_pos (wanted_plain rfl)]
   go_simp
   refine hKK _ _ ?_ ?_
   ·
    exact grP
   ·
    exact rfl
  refine ObsT.cons (k' := 19) rfl ?_ ?_
  ·
   intro fa W hW hSame hRR KK hKK
   try dsimp only at hW
   obtain ⟨fv17, ft17, (rfl : fv17 = Value.bool true)⟩ := hRR 17 _ 60 rfl rfl (by kernel_rfl) (by kernel_rfl)
   replace hKK : ∀ v w', Below W.heap.size W w' → v = Value.bool true → KK (Act.put fa _ v) w' := fun v w' h1 h2 => hKK v w' h1 h2
   clear hSame hRR
   rw [if_pos (wanted_plain rfl)]
   go_simp
   refine hKK _ _ ?_ ?_
   ·
    exact grP
   ·
    exact rfl
  refine ObsT.cons (k' := 20) rfl ?_ ?_
  ·
   intro fa W hW hSame hRR KK hKK
   try dsimp only at hW
   have fb3 : fa.tmps[3]? = some (Value.pointer (some ⟨w.heap.size, 0, none⟩)) := (hSame.base 3 (by kernel_rfl)).trans (by kernel_rfl)
   obtain ⟨fv18, ft18, (rfl : fv18 = Value.bool true)⟩ := hRR 18 _ 61 rfl rfl (by kernel_rfl) (by kernel_rfl)
   replace hKK : ∀ v w', Below W.heap.size W w' → v = Value.agg #[.int .i64 k, .string z, .int .i64 t, .int .i64 n, .int .i64 u, .int .i64 p] → KK (Act.put fa _ v) w' := fun v w' h1 h2 => hKK v w' h1 h2
   have hX := X5.out.keep hW
   have tx := hX; obtain ⟨chb, cfz, ck0, ck1, ck2, ck3, ck4, ck5⟩ := tx
   clear hSame hRR
   rw [wanted_guard rfl rfl rfl ft18]
   rw [if_pos (by rfl)]
   go_simp
   refine hKK _ _ ?_ ?_
   ·
    exact grP
   ·
    exact rfl
  refine ObsT.cons (k' := 21) rfl ?_ ?_
  ·
   intro fa W hW hSame hRR KK hKK
   try dsimp only at hW
   obtain ⟨fv18, ft18, (rfl : fv18 = Value.bool true)⟩ := hRR 18 _ 61 rfl rfl (by kernel_rfl) (by kernel_rfl)
   obtain ⟨fv19, ft19, (rfl : fv19 = Value.agg #[.int .i64 k, .string z, .int .i64 t, .int .i64 n, .int .i64 u, .int .i64 p])⟩ := hRR 19 _ 62 rfl rfl (by kernel_rfl) (by kernel_rfl)
   replace hKK : ∀ v w', Below W.heap.size W w' → v = Value.bool bb → KK (Act.put fa _ v) w' := fun v w' h1 h2 => hKK v w' h1 h2
   clear hSame hRR
   rw [wanted_guard rfl rfl rfl ft18]
   rw [if_pos (by rfl)]
   go_simp
   refine (RI.out _ (below_step B5.out hW)).mono ?_; rintro e w' ⟨rfl, hb⟩
   exact hKK _ _ hb rfl
  refine ObsT.cons (k' := 22) rfl ?_ ?_
  ·
   intro fa W hW hSame hRR KK hKK
   try dsimp only at hW
   have fb3 : fa.tmps[3]? = some (Value.pointer (some ⟨w.heap.size, 0, none⟩)) := (hSame.base 3 (by kernel_rfl)).trans (by kernel_rfl)
   obtain ⟨fv18, ft18, (rfl : fv18 = Value.bool true)⟩ := hRR 18 _ 61 rfl rfl (by kernel_rfl) (by kernel_rfl)
   replace hKK : ∀ v w', Below W.heap.size W w' → v = Value.agg #[.int .i64 k, .string z, .int .i64 t, .int .i64 n, .int .i64 u, .int .i64 p] → KK (Act.put fa _ v) w' := fun v w' h1 h2 => hKK v w' h1 h2
   have hX := X5.out.keep hW
   have tx := hX; obtain ⟨chb, cfz, ck0, ck1, ck2, ck3, ck4, ck5⟩ := tx
   clear hSame hRR
   rw [wanted_guard rfl rfl rfl ft18]
   rw [if_pos (by rfl)]
   go_simp
   refine hKK _ _ ?_ ?_
   ·
    exact grP
   ·
    exact rfl
  refine ObsT.cons (k' := 23) rfl ?_ ?_
  ·
   intro fa W hW hSame hRR KK hKK
   try dsimp only at hW
   obtain ⟨fv18, ft18, (rfl : fv18 = Value.bool true)⟩ := hRR 18 _ 61 rfl rfl (by kernel_rfl) (by kernel_rfl)
   obtain ⟨fv21, ft21, (rfl : fv21 = Value.agg #[.int .i64 k, .string z, .int .i64 t, .int .i64 n, .int .i64 u, .int .i64 p])⟩ := hRR 21 _ 64 rfl rfl (by kernel_rfl) (by kernel_rfl)
   replace hKK : ∀ v w', Below W.heap.size W w' → v = Value.bool bb → KK (Act.put fa _ v) w' := fun v w' h1 h2 => hKK v w' h1 h2
   clear hSame hRR
   rw [wanted_guard rfl rfl rfl ft18]
   rw [if_pos (by rfl)]
   go_simp
   refine (RJ.out _).mono ?_; rintro e w' ⟨rfl, hb⟩
   exact hKK _ _ hb rfl
  refine ObsT.cons (k' := 24) rfl ?_ ?_
  ·
   intro fa W hW hSame hRR KK hKK
   try dsimp only at hW
   obtain ⟨fv18, ft18, (rfl : fv18 = Value.bool true)⟩ := hRR 18 _ 61 rfl rfl (by kernel_rfl) (by kernel_rfl)
   obtain ⟨fv20, ft20, (rfl : fv20 = Value.bool bb)⟩ := hRR 20 _ 63 rfl rfl (by kernel_rfl) (by kernel_rfl)
   obtain ⟨fv22, ft22, (rfl : fv22 = Value.bool bb)⟩ := hRR 22 _ 65 rfl rfl (by kernel_rfl) (by kernel_rfl)
   replace hKK : ∀ v w', Below W.heap.size W w' → v = Value.bool true → KK (Act.put fa _ v) w' := fun v w' h1 h2 => hKK v w' h1 h2
   clear hSame hRR
   rw [wanted_guard rfl rfl rfl ft18]
   rw [if_pos (by rfl)]
   go_simp
   refine hKK _ _ ?_ ?_
   ·
    exact grP
   ·
    exact rfl
  refine ObsT.cons (k' := 25) rfl ?_ ?_
  ·
   intro fa W hW hSame hRR KK hKK
   try dsimp only at hW
   obtain ⟨fv18, ft18, (rfl : fv18 = Value.bool true)⟩ := hRR 18 _ 61 rfl rfl (by kernel_rfl) (by kernel_rfl)
   obtain ⟨fv23, ft23, (rfl : fv23 = Value.bool true)⟩ := hRR 23 _ 66 rfl rfl (by kernel_rfl) (by kernel_rfl)
   replace hKK : ∀ v w', Below W.heap.size W w' → v = Value.bool true → KK (Act.put fa _ v) w' := fun v w' h1 h2 => hKK v w' h1 h2
   clear hSame hRR
   rw [if_pos (wanted_plain rfl)]
   go_simp
   refine hKK _ _ ?_ ?_
   ·
    exact grP
   ·
    exact rfl
  refine ObsT.cons (k' := 26) rfl ?_ ?_
  ·
   intro fa W hW hSame hRR KK hKK
   try dsimp only at hW
   obtain ⟨fv24, ft24, (rfl : fv24 = Value.bool true)⟩ := hRR 24 _ 67 rfl rfl (by kernel_rfl) (by kernel_rfl)
   replace hKK : ∀ v w', Below W.heap.size W w' → v = Value.bool true → KK (Act.put fa _ v) w' := fun v w' h1 h2 => hKK v w' h1 h2
   clear hSame hRR
   rw [if_pos (wanted_plain rfl)]
   go_simp
   refine hKK _ _ ?_ ?_
   ·
    exact grP
   ·
    exact rfl
  refine ObsT.cons (k' := 27) rfl ?_ ?_
  ·
   intro fa W hW hSame hRR KK hKK
   try dsimp only at hW
   obtain ⟨fv25, ft25, (rfl : fv25 = Value.bool true)⟩ := hRR 25 _ 68 rfl rfl (by kernel_rfl) (by kernel_rfl)
   replace hKK : ∀ v w', Below W.heap.size W w' → v = Value.bool true → KK (Act.put fa _ v) w' := fun v w' h1 h2 => hKK v w' h1 h2
   clear hSame hRR
   rw [wanted_guard rfl rfl rfl ft25]
   rw [if_pos (by rfl)]
   go_simp
   refine (LV.out _ (below_step B5.out hW)).mono ?_; rintro e w' ⟨rfl, hb⟩
   exact hKK _ _ hb rfl
  refine ObsT.cons (k' := 28) rfl ?_ ?_
  ·
   intro fa W hW hSame hRR KK hKK
   try dsimp only at hW
   obtain ⟨fv25, ft25, (rfl : fv25 = Value.bool true)⟩ := hRR 25 _ 68 rfl rfl (by kernel_rfl) (by kernel_rfl)
   obtain ⟨fv26, ft26, (rfl : fv26 = Value.bool true)⟩ := hRR 26 _ 69 rfl rfl (by kernel_rfl) (by kernel_rfl)
   replace hKK : ∀ v w', Below W.heap.size W w' → v = Value.bool true → KK (Act.put fa _ v) w' := fun v w' h1 h2 => hKK v w' h1 h2
   clear hSame hRR
   rw [if_pos (wanted_plain rfl)]
   go_simp
   refine hKK _ _ ?_ ?_
   ·
    exact grP
   ·
    exact rfl
  refine ObsT.cons (k' := 29) rfl ?_ ?_
  ·
   intro fa W hW hSame hRR KK hKK
   try dsimp only at hW
   obtain ⟨fv27, ft27, (rfl : fv27 = Value.bool true)⟩ := hRR 27 _ 70 rfl rfl (by kernel_rfl) (by kernel_rfl)
   replace hKK : ∀ v w', Below W.heap.size W w' → v = Value.bool true → KK (Act.put fa _ v) w' := fun v w' h1 h2 => hKK v w' h1 h2
   clear hSame hRR
   rw [if_pos (wanted_plain rfl)]
   go_simp
   refine hKK _ _ ?_ ?_
   ·
    exact grP
   ·
    exact rfl
  exact ObsT.nil
 case hlast =>
  intro fa w6 d6 hSame hRR
  try dsimp only at d6
  obtain ⟨zz28, f4, rfl⟩ := hRR 28 _ 4 rfl rfl rfl
  rw [Same_shape hSame]
  simp only [List.filterMap_cons, List.filterMap_nil, List.foldl_cons, List.foldl_nil]
  have g4 : fa.tmps.getD 4 undef = Value.bool true := by simp [Array.getD_eq_getD_getElem?, f4]
  rw [g4]
  generalize fa.tmps.getD 43 undef = y43
  generalize fa.tmps.getD 44 undef = y44
  generalize fa.tmps.getD 45 undef = y45
  generalize fa.tmps.getD 46 undef = y46
  generalize fa.tmps.getD 47 undef = y47
  generalize fa.tmps.getD 48 undef = y48
  generalize fa.tmps.getD 49 undef = y49
  generalize fa.tmps.getD 50 undef = y50
  generalize fa.tmps.getD 51 undef = y51
  generalize fa.tmps.getD 52 undef = y52
  generalize fa.tmps.getD 53 undef = y53
  generalize fa.tmps.getD 54 undef = y54
  generalize fa.tmps.getD 55 undef = y55
  generalize fa.tmps.getD 56 undef = y56
  generalize fa.tmps.getD 57 undef = y57
  generalize fa.tmps.getD 58 undef = y58
  generalize fa.tmps.getD 59 undef = y59
  generalize fa.tmps.getD 60 undef = y60
  generalize fa.tmps.getD 61 undef = y61
  generalize fa.tmps.getD 62 undef = y62
  generalize fa.tmps.getD 63 undef = y63
  generalize fa.tmps.getD 64 undef = y64
  generalize fa.tmps.getD 65 undef = y65
  generalize fa.tmps.getD 66 undef = y66
  generalize fa.tmps.getD 67 undef = y67
  generalize fa.tmps.getD 68 undef = y68
  generalize fa.tmps.getD 69 undef = y69
  generalize fa.tmps.getD 70 undef = y70
  clear hSame hRR f4 g4
  simp only [Act.put, List.setIfInBounds_toArray, List.set_cons_succ, List.set_cons_zero]
  have B6 := Lib.hid (below_step B5.out d6)
  clear d6
  go_wp2_with fail
  go_ret
  exact ⟨rfl, B6.out⟩
end Go.Proofs.YtbcbggdbojonmaaGreatDoor
set_option linter.unusedVariables false
set_option linter.unusedSimpArgs false
namespace Go.Proofs.YtbcbggdbojonmaaGreatDoor
open Go.RowKit Go.Sort Go.ChangeShapes Go.WideShapes Go.Joins
theorem i64_wf {x : Int} (h : (Lit.int .i64 x).wf = true) : -9223372036854775808 ≤ x ∧ x ≤ 9223372036854775807 := by
 simp [Lit.wf, IntKind.min, IntKind.max, IntKind.signed, IntKind.bits] at h
 exact ⟨by omega, by omega⟩
section
variable {H : Type} {enc : TypeId × Value → H} {w : World} {base : Nat} {sp : Nat → Bool} {held : Bool}
end
end Go.Proofs.YtbcbggdbojonmaaGreatDoor
set_option linter.unusedVariables false
set_option linter.unusedSimpArgs false
namespace Go.Proofs.YtbcbggdbojonmaaGreatDoor
open Go.RowKit Go.Sort Go.ChangeShapes Go.WideShapes Go.Joins
theorem cellsQue : Tryz.prog.cellsOf 23 = 6 := by kernel_rfl
theorem cellsStQ : Tryz.prog.cellsOf 9 = 1 := by kernel_rfl
theorem cellsInQ : Tryz.prog.cellsOf 3 = 1 := by kernel_rfl
theorem cellsI6Q : Tryz.prog.cellsOf 2 = 1 := by kernel_rfl
namespace Qy
def dQ {H : Type} (k : Int) (z : ByteArray) (t n u p : Int) : DataW H := .agg [.lit (.int .i64 k), .lit (.string z.data.toList), .lit (.int .i64 t), .lit (.int .i64 n), .lit (.int .i64 u), .lit (.int .i64 p)]
end Qy
section
variable {H : Type} {enc : TypeId × Value → H} {w : World} {base : Nat} {sp : Nat → Bool} {held : Bool}
set_option maxRecDepth 100000 in
theorem open_query {r : Reach} {b0 : Nat} {v : Value} {dd : DataW H} {p : List MemPlace} (hv : Value.okWide Tryz.prog w r b0 23 v) (h : DataW.Trod enc Tryz.prog w base sp held 23 v dd p) :
  ∃ (k : Int) (z : ByteArray) (t n u p' : Int), v = .agg #[.int .i64 k, .string z, .int .i64 t, .int .i64 n, .int .i64 u, .int .i64 p'] ∧ dd = Qy.dQ k z t n u p' ∧ An.bd t ∧ An.bd n := by
 obtain ⟨cs, rfl, hsz⟩ := okWide_struct Tryz.underlying23 hv
 obtain ⟨fuel, hf⟩ := h
 obtain ⟨xs, m, _, hy, hl, hlen, hf⟩ := DataW.trod_struct Tryz.underlying23 hf
 rw [cellsQue] at hl
 obtain ⟨ct, rfl⟩ : ∃ l : List Value, cs = l.toArray := ⟨cs.toList, by simp⟩
 have hl : ct.length = 6 := hl
 match xs, hlen with
 | [y0, y1, y2, y3, y4, y5], _ =>
  have h0 : DataW.trod enc Tryz.prog w base sp held m 3 ((ct.drop 0).take (Tryz.prog.cellsOf 3)) = some y0 := hf 0 _ rfl
  have h1 : DataW.trod enc Tryz.prog w base sp held m 9 ((ct.drop 1).take (Tryz.prog.cellsOf 9)) = some y1 := hf 1 _ rfl
  have h2 : DataW.trod enc Tryz.prog w base sp held m 2 ((ct.drop 2).take (Tryz.prog.cellsOf 2)) = some y2 := hf 2 _ rfl
  have h3 : DataW.trod enc Tryz.prog w base sp held m 2 ((ct.drop 3).take (Tryz.prog.cellsOf 2)) = some y3 := hf 3 _ rfl
  have h4 : DataW.trod enc Tryz.prog w base sp held m 3 ((ct.drop 4).take (Tryz.prog.cellsOf 3)) = some y4 := hf 4 _ rfl
  have h5 : DataW.trod enc Tryz.prog w base sp held m 3 ((ct.drop 5).take (Tryz.prog.cellsOf 3)) = some y5 := hf 5 _ rfl
  match ct, hl with
  | [c0, c1, c2, c3, c4, c5], _ =>
   simp only [cellsInQ, cellsStQ, cellsI6Q] at h0 h1 h2 h3 h4 h5
   obtain ⟨k, e0, f0, z0⟩ := DataW.trod_int Tryz.underlying3 h0
   obtain ⟨z, e1, f1, z1⟩ := DataW.trod_string Tryz.underlying9 h1
   obtain ⟨t, e2, f2, z2⟩ := DataW.trod_int Tryz.underlying2 h2
   obtain ⟨n, e3, f3, z3⟩ := DataW.trod_int Tryz.underlying2 h3
   obtain ⟨u, e4, f4, z4⟩ := DataW.trod_int Tryz.underlying3 h4
   obtain ⟨p', e5, f5, z5⟩ := DataW.trod_int Tryz.underlying3 h5
   simp at e0 e1 e2 e3 e4 e5
   subst e0; subst e1; subst e2; subst e3; subst e4; subst e5
   refine ⟨k, z, t, n, u, p', rfl, ?_, i64_wf z2, i64_wf z3⟩
   have := congrArg Prod.fst hy
   simp only [] at this
   rw [this, List.map_cons, List.map_cons, List.map_cons, List.map_cons, List.map_cons, List.map_cons, List.map_nil, f0, f1, f2, f3, f4, f5]
   rfl
end
theorem query_weighs {H : Type} (k : Int) (z : ByteArray) (t n u p : Int) : z.data.toList.length ∈ DataW.weights (H := H) Tryz.prog 23 (Qy.dQ k z t n u p) := by
 unfold Qy.dQ
 simp [DataW.weights, DataW.weightsEach, Tryz.underlying23]
end Go.Proofs.YtbcbggdbojonmaaGreatDoor
