/- Joined: QyJ. -/
import Derived.Test.YtbcbggdbojonmaaGreatDoorBq01
import Derived.Test.YtbcbggdbojonmaaGreatDoorBq22
import Derived.Test.YtbcbggdbojonmaaGreatDoorBq17
set_option linter.unusedVariables false
set_option linter.unusedSimpArgs false
namespace Go.Proofs.YtbcbggdbojonmaaGreatDoor
open Go.RowKit Go.Sort Go.Pairs
def Qy.V (q : Qy.Q) : Value := .agg #[.int .i64 q.1, .string ⟨q.2.1.toArray⟩, .int .i64 q.2.2.1, .int .i64 q.2.2.2.1, .int .i64 q.2.2.2.2.1, .int .i64 q.2.2.2.2.2]
def AnsQ (R : Qy.Q × Int) (w : World) (e : Ending) (w' : World) : Prop := Below w.heap.size w w' ∧ ((R.2 = 0 ∧ e = .returned (Qy.V R.1)) ∨ (R.2 ≠ 0 ∧ e = .panicked (gvP R.2)))
theorem qrest {w W : World} {q : Addr} {n c : Nat} {h : ByteArray} {r : List ByteArray} {c' : Nat} (S : StS w (.slice (some q) n c) (h :: r)) (b : Below w.heap.size w W) : StS W (.slice (some ⟨q.block, q.off + 1, none⟩) r.length c') r := by
 obtain ⟨A, c1, hv, hA⟩ := S
 cases hv
 obtain ⟨q', e, hq, hcell⟩ := hA (by simp)
 cases e
 refine ⟨_, _, rfl, fun _ => ⟨_, rfl, Nat.lt_of_lt_of_le hq b.size, fun i x hx => ?_⟩⟩
 have h := hcell (i + 1) x (by simpa using hx)
 rw [show (q.add (i + 1)) = ⟨q.block, q.off + (i + 1), none⟩ from Addr.add_succ' ..] at h
 have h2 := (b.cell (p := ⟨q.block, q.off + (i + 1), none⟩) hq).trans h
 cases i with
 | zero => rw [Addr.add_zero']; exact h2
 | succ i => rw [Addr.add_succ', show q.off + 1 + (i + 1) = q.off + (i + 1 + 1) by omega]; exact h2
theorem qcut (q : Addr) (n c : Nat) (hn : 1 ≤ n) (hc : n ≤ c) : ∃ q', (∀ W, Sem.run Tryz.prog (Instr.slice 43 (.slice (some q) n c) (some (.int .i64 1)) none none) W = .ok (.slice (some q') (n - 1) (c - 1)) W) ∧ (1 < c → q' = ⟨q.block, q.off + 1, none⟩) ∧ (c = 1 → q' = q) := by
 by_cases h1 : c = 1
 ·
  subst h1
  obtain rfl : n = 1 := by omega
  exact ⟨q, fun W => by simp [go_sem], fun h => absurd h (by omega), fun _ => rfl⟩
 ·
  refine ⟨⟨q.block, q.off + 1, none⟩, fun W => ?_, fun _ => rfl, fun h => absurd h h1⟩
  have h2 : ¬ c ≤ 1 := by omega
  have h3 : ¬ (n : Int) < 1 := by omega
  simp [go_sem]
  rw [if_pos (by omega), if_neg h1]
theorem qix (vs : List Value) (h8 : vs.length = 8) (k : Nat) (hk : k < vs.length) (W : World) : Sem.run Tryz.prog (Instr.index 84 (.agg vs.toArray) (.int .i64 k)) W = .ok vs[k] W := by
 have h : (k : Int) < 8 := by omega
 have h2 : k < 8 := by omega
 have hn : 0 ≤ (k : Int) ∧ (k : Int) < 8 := by omega
 have hg : vs[k]? = some vs[k] := List.getElem?_eq_getElem hk
 simp [Instr.index, run_underlying Tryz.underlying84, asIntOf, hn, hg, go_sem]
 intro h9; omega
set_option maxHeartbeats 4000000 in
set_option maxRecDepth 100000 in
theorem qread_nil (A : Option Addr) (c : Nat) (w : World) : Calls Tryz.prog 18 #[.slice A 0 c] w (AnsQ (Qy.Q0, 0) w) := by
 go_enter Tryz.func18, Tryz.ntmps18
 go_wp2_with fail
 exact bodyPost_ret (v := .agg #[.int .i64 0, .string ⟨#[]⟩, .int .i64 0, .int .i64 0, .int .i64 0, .int .i64 0]) (by simp [results, Tryz.results18, go_sem]) rfl ⟨gr0, .inl ⟨rfl, rfl⟩⟩
set_option maxHeartbeats 8000000 in
set_option maxRecDepth 100000 in
theorem qread_no (q : Addr) (n c : Nat) (h : ByteArray) (r : List ByteArray) (w : World) (hn : n = r.length + 1) (hnc : n ≤ c) (hst : StS w (.slice (some q) n c) (h :: r)) (hz : ∀ x ∈ h :: r, x.size ≤ 1000) (hy : (Wd.mat h.data.toList Qy.heads).2 ≠ 0) :
  Calls Tryz.prog 18 #[.slice (some q) n c] w (AnsQ (Qy.Q0, (Wd.mat h.data.toList Qy.heads).2) w) := by
 have HC : Hid (∀ W, Below w.heap.size w W → W.cell? q = some (.string h)) := Lib.hid (fun W b => by
  obtain ⟨a, ea, ga⟩ := StS.get (hst.on b) 0 (by simp)
  cases ea
  exact ga)
 have KI := Lib.hid (fun W => qkinds_any W)
 have ME := Lib.hid (fun v W S => qmeant_any h v Qy.heads W S (hz h (by simp)) (by decide) (by decide))
 have hn0 : 0 < n := by omega
 have g0 : ((n : Int) == 0) = false := by rw [beq_eq_false_iff_ne]; omega
 have g1 : decide ((0 : Int) < (n : Int)) = true := decide_eq_true (by omega)
 generalize (Wd.mat h.data.toList Qy.heads).1 + 1 = m at ME
 generalize (Wd.mat h.data.toList Qy.heads).2 = y at *
 clear hst hz hn
 go_enter Tryz.func18, Tryz.ntmps18
 go_upto_region 3 with (fail)
 refine wp_named ?_; intro w1 hw1
 have d1 : Below w.heap.size w w1 := by rw [hw1]; exact gr0
 have B1 := Lib.hid d1
 have X1 : Hid (Bk6 w1 w.heap.size (.int .i64 0) (.string ⟨#[]⟩) (.int .i64 0) (.int .i64 0) (.int .i64 0) (.int .i64 0)) := Lib.hid (by rw [hw1]; exact ⟨by simp <;> omega, by intro j; simp [go_sem], by simp [go_sem], by simp [go_sem], by simp [go_sem], by simp [go_sem], by simp [go_sem], by simp [go_sem]⟩)
 clear d1 hw1
 refine wp_region_till (R := markR [(fun v _ => v = Value.slice (some q) n c), (fun v _ => v = Value.pointer (some q)), (fun v _ => v = Value.string h), (fun v W => StS W v Qy.heads), (fun _ _ => False), (fun _ _ => False), (fun _ _ => True), (fun _ _ => False)]) (till := fun _ => none) (D := fun W => Below w1.heap.size w1 W) (G := fun _ W W' => Below W.heap.size W W') (by rfl) ?hbeg ⟨by kernel_rfl, by kernel_rfl, by kernel_rfl, ?hkeep, ?hstab, ObsT.all ?hobs, ?hlast⟩
 case hbeg => exact (Below.refl _ _).drew
 case hkeep => intro i w1 w2 hC hG; exact below_step hC hG
 case hstab =>
  intro i j hij ht v w1 w2 hG hm
  match j, hm with
  | 0, hm => exact hm
  | 1, hm => exact hm
  | 2, hm => exact hm
  | 3, hm => exact StS.on hm hG
  | 4, hm => exact hm
  | 5, hm => exact hm
  | 6, hm => exact trivial
  | 7, hm => exact hm
  | j + 8, hm => exact trivial
 case hobs =>
  refine ObsT.cons (k' := 1) rfl ?_ ?_
  ·
   intro fa W hW hSame hRR KK hKK
   try dsimp only at hW
   have fb0 : fa.tmps[0]? = some (Value.slice (some q) n c) := (hSame.base 0 (by kernel_rfl)).trans (by kernel_rfl)
   replace hKK : ∀ v w', Below W.heap.size W w' → v = Value.slice (some q) n c → KK (Act.put fa _ v) w' := fun v w' h1 h2 => hKK v w' h1 h2
   clear hSame hRR
   rw [if_pos (wanted_plain rfl)]
   go_simp
   refine hKK _ _ ?_ ?_
   ·
    exact grP
   ·
    exact rfl
  refine ObsT.cons (k' := 2) rfl ?_ ?_
  ·
   intro fa W hW hSame hRR KK hKK
   try dsimp only at hW
   obtain ⟨fv0, ft0, (rfl : fv0 = Value.slice (some q) n c)⟩ := hRR 0 _ 11 rfl rfl (by kernel_rfl) (by kernel_rfl)
   replace hKK : ∀ v w', Below W.heap.size W w' → v = Value.pointer (some q) → KK (Act.put fa _ v) w' := fun v w' h1 h2 => hKK v w' h1 h2
   clear hSame hRR
   rw [if_pos (wanted_plain rfl)]
   go_simp
   refine hKK _ _ ?_ ?_
   ·
    exact grP
   ·
    exact rfl
  refine ObsT.cons (k' := 3) rfl ?_ ?_
  ·
   intro fa W hW hSame hRR KK hKK
   try dsimp only at hW
   obtain ⟨fv1, ft1, (rfl : fv1 = Value.pointer (some q))⟩ := hRR 1 _ 12 rfl rfl (by kernel_rfl) (by kernel_rfl)
   replace hKK : ∀ v w', Below W.heap.size W w' → v = Value.string h → KK (Act.put fa _ v) w' := fun v w' h1 h2 => hKK v w' h1 h2
   have gx := HC.out W (below_step B1.out hW)
   clear hSame hRR
   rw [if_pos (wanted_plain rfl)]
   go_simp
   refine hKK _ _ ?_ ?_
   ·
    exact grP
   ·
    exact rfl
  refine ObsT.cons (k' := 4) rfl ?_ ?_
  ·
   intro fa W hW hSame hRR KK hKK
   try dsimp only at hW
   replace hKK : ∀ v w', Below W.heap.size W w' → (fun v W => StS W v Qy.heads) v w' → KK (Act.put fa _ v) w' := fun v w' h1 h2 => hKK v w' h1 h2
   clear hSame hRR
   rw [if_pos (wanted_plain rfl)]
   go_simp
   refine (KI.out _).mono ?_; rintro e w' ⟨v, rfl, hv, hb⟩
   exact hKK _ _ hb hv
  refine ObsT.cons (k' := 5) rfl ?_ ?_
  ·
   intro fa W hW hSame hRR KK hKK
   try dsimp only at hW
   obtain ⟨fv2, ft2, (rfl : fv2 = Value.string h)⟩ := hRR 2 _ 13 rfl rfl (by kernel_rfl) (by kernel_rfl)
   obtain ⟨fv3, ft3, hk3⟩ := hRR 3 _ 14 rfl rfl (by kernel_rfl) (by kernel_rfl)
   replace hKK : ∀ v w', Below W.heap.size W w' → (fun _ _ => False) v w' → KK (Act.put fa _ v) w' := fun v w' h1 h2 => hKK v w' h1 h2
   have hdf : fa.defers = [] := hSame.defers
   clear hSame hRR
   rw [if_pos (wanted_plain rfl)]
   go_simp
   refine (ME.out _ _ hk3).mono ?_; rintro e w' ⟨hb, ⟨h9, -⟩ | ⟨-, rfl⟩⟩
   ·
    exact absurd h9 hy
   ·
    simp +zetaDelta only [Exit.then, bodyPost]
    first | exact ⟨hdf, below_step (below_step B1.out hW) hb, .inr ⟨hy, by first | rfl | trivial⟩⟩ | exact ⟨trivial, below_step (below_step B1.out hW) hb, .inr ⟨hy, by first | rfl | trivial⟩⟩
  refine ObsT.cons (k' := 6) rfl ?_ ?_
  ·
   intro fa W hW hSame hRR KK hKK
   try dsimp only at hW
   obtain ⟨fv4, ft4, hFn⟩ := hRR 4 _ 15 rfl rfl (by kernel_rfl) (by kernel_rfl)
   replace hKK : ∀ v w', Below W.heap.size W w' → (fun _ _ => False) v w' → KK (Act.put fa _ v) w' := fun v w' h1 h2 => hKK v w' h1 h2
   clear hSame hRR
   exact hFn.elim
  refine ObsT.cons (k' := 7) rfl ?_ ?_
  ·
   intro fa W hW hSame hRR KK hKK
   try dsimp only at hW
   replace hKK : ∀ v w', Below W.heap.size W w' → (fun _ _ => True) v w' → KK (Act.put fa _ v) w' := fun v w' h1 h2 => hKK v w' h1 h2
   clear hSame hRR
   rw [if_pos (wanted_plain rfl)]
   go_simp
   exact hKK _ _ ((Below.refl _ _).alloc (Nat.le_refl _) _) trivial
  refine ObsT.cons (k' := 8) rfl ?_ ?_
  ·
   intro fa W hW hSame hRR KK hKK
   try dsimp only at hW
   obtain ⟨fv5, ft5, hFn⟩ := hRR 5 _ 16 rfl rfl (by kernel_rfl) (by kernel_rfl)
   replace hKK : ∀ v w', Below W.heap.size W w' → (fun _ _ => False) v w' → KK (Act.put fa _ v) w' := fun v w' h1 h2 => hKK v w' h1 h2
   clear hSame hRR
   exact hFn.elim
  exact ObsT.nil
 case hlast =>
  intro fa W d2 hSame hRR
  obtain ⟨zz, f15, hF⟩ := hRR 4 _ 15 rfl rfl rfl
  exact hF.elim
set_option maxHeartbeats 8000000 in
set_option maxRecDepth 100000 in
theorem qread_yes (q : Addr) (n c : Nat) (h : ByteArray) (r : List ByteArray) (w : World) (hn : n = r.length + 1) (hnc : n ≤ c) (hst : StS w (.slice (some q) n c) (h :: r)) (hz : ∀ x ∈ h :: r, x.size ≤ 1000) (hy : (Wd.mat h.data.toList Qy.heads).2 = 0) (kk : Nat) (hkk : (Wd.mat h.data.toList Qy.heads).1 + 1 = kk) (hk1 : 1 ≤ kk) (hk7 : kk ≤ 7) (tot : Qy.Q × Int) (htot : tot = Qy.rdK kk (r.map (·.data.toList))) (tp : TypeId) (pp : Value) (hvar : w.var? Tryz.prog "strconv.ErrRange" = some #[.iface tp pp]) :
  Calls Tryz.prog 18 #[.slice (some q) n c] w (AnsQ tot w) := by
 have HC : Hid (∀ W, Below w.heap.size w W → W.cell? q = some (.string h)) := Lib.hid (fun W b => by
  obtain ⟨a, ea, ga⟩ := StS.get (hst.on b) 0 (by simp)
  cases ea
  exact ga)
 have KI := Lib.hid (fun W => qkinds_any W)
 have ME := Lib.hid (fun v W S => qmeant_any h v Qy.heads W S (hz h (by simp)) (by decide) (by decide))
 have hn0 : 0 < n := by omega
 have g0 : ((n : Int) == 0) = false := by rw [beq_eq_false_iff_ne]; omega
 have g1 : decide ((0 : Int) < (n : Int)) = true := decide_eq_true (by omega)
 rw [hkk, hy] at ME
 rw [Qy.rdK_stp kk _ hk1 hk7, List.length_map] at htot
 have SLO := Lib.hid (fun W => qslots_any W)
 obtain ⟨L, hL⟩ : ∃ L, L = Qy.sl kk := ⟨_, rfl⟩
 rw [← hL] at htot
 obtain ⟨q2, SL, e2, e3⟩ := qcut q n c (by omega) hnc
 have SR : Hid (∀ W, Below w.heap.size w W → StS W (.slice (some q2) r.length (c - 1)) r) := Lib.hid (fun W b => by
  by_cases hc : c = 1
  ·
   have hr : r = [] := List.eq_nil_of_length_eq_zero (by omega)
   subst hr
   exact ⟨_, _, rfl, fun h => absurd h (by simp)⟩
  ·
   rw [e2 (by omega)]; exact qrest hst b)
 obtain ⟨m1, hm1⟩ : ∃ m1, m1 = r.length := ⟨_, rfl⟩
 have en : n - 1 = m1 := by omega
 rw [en] at SL
 rw [← hm1] at SR htot
 obtain ⟨c1, hc1⟩ : ∃ c1, c1 = c - 1 := ⟨_, rfl⟩
 rw [← hc1] at SL SR
 have hzr : ∀ x ∈ r, x.size ≤ 1000 := fun x hx => hz x (List.mem_cons_of_mem _ hx)
 have sL : L.length ≤ 5 ∧ ∀ s ∈ L, 0 ≤ s ∧ s ≤ 6 := by
  subst hL
  obtain rfl | rfl | rfl | rfl | rfl | rfl | rfl : kk = 1 ∨ kk = 2 ∨ kk = 3 ∨ kk = 4 ∨ kk = 5 ∨ kk = 6 ∨ kk = 7 := by omega
  all_goals decide
 have SLI := Lib.hid SL
 have HV := Lib.hid hvar
 have HT := Lib.hid htot
 have HM := Lib.hid hm1
 have HS := Lib.hid sL
 have HZ := Lib.hid hzr
 have HL := Lib.hid hL
 clear SL hvar htot hm1 sL hst hz hn e2 e3 en hc1 hkk hy hzr hL
 go_enter Tryz.func18, Tryz.ntmps18
 go_upto_region 3 with (fail)
 refine wp_named ?_; intro w1 hw1
 have d1 : Below w.heap.size w w1 := by rw [hw1]; exact gr0
 have B1 := Lib.hid d1
 have X1 : Hid (Bk6 w1 w.heap.size (.int .i64 0) (.string ⟨#[]⟩) (.int .i64 0) (.int .i64 0) (.int .i64 0) (.int .i64 0)) := Lib.hid (by rw [hw1]; exact ⟨by simp <;> omega, by intro j; simp [go_sem], by simp [go_sem], by simp [go_sem], by simp [go_sem], by simp [go_sem], by simp [go_sem], by simp [go_sem]⟩)
 clear d1 hw1
 refine wp_region_last (n := 7) (R := markR [(fun v _ => v = Value.slice (some q) n c), (fun v _ => v = Value.pointer (some q)), (fun v _ => v = Value.string h), (fun v W => StS W v Qy.heads), (fun v _ => v = Value.int .i64 kk), (fun v _ => v = Value.agg #[.int .i64 kk, .string ⟨#[]⟩, .int .i64 0, .int .i64 0, .int .i64 0, .int .i64 0]), (fun v W => ∃ b, v = Value.pointer (some ⟨b, 0, none⟩) ∧ w1.heap.size ≤ b ∧ Bk6 W b (.int .i64 0) (.string ⟨#[]⟩) (.int .i64 0) (.int .i64 0) (.int .i64 0) (.int .i64 0))]) (till := fun _ => none) (D := fun W => Below w1.heap.size w1 W) (G := fun _ W W' => Below W.heap.size W W') (by rfl) ?hbeg ⟨by kernel_rfl, by kernel_rfl, by kernel_rfl, by kernel_rfl, by kernel_rfl, ?hkeep, ?hstab, ObsU.all ?hobs, ?hlast⟩
 case hbeg => exact (Below.refl _ _).drew
 case hkeep => intro i w1 w2 hC hG; exact below_step hC hG
 case hstab =>
  intro i j hij ht v w1 w2 hG hm
  match j, hm with
  | 0, hm => exact hm
  | 1, hm => exact hm
  | 2, hm => exact hm
  | 3, hm => exact StS.on hm hG
  | 4, hm => exact hm
  | 5, hm => exact hm
  | 6, hm => exact (by obtain ⟨b, e, hb0, hB⟩ := hm; exact ⟨b, e, hb0, hB.keep hG⟩)
  | j + 7, hm => exact trivial
 case hobs =>
  refine ObsU.cons (k' := 1) rfl ?_ ?_
  ·
   intro fa W hW hSame hRR KK hKK
   try dsimp only at hW
   have fb0 : fa.tmps[0]? = some (Value.slice (some q) n c) := (hSame.base 0 (by kernel_rfl)).trans (by kernel_rfl)
   replace hKK : ∀ v w', Below W.heap.size W w' → v = Value.slice (some q) n c → KK (Act.put fa _ v) w' := fun v w' h1 h2 => hKK v w' h1 h2
   clear hSame hRR
   rw [if_pos (wanted_plain rfl)]
   go_simp
   refine hKK _ _ ?_ ?_
   ·
    exact grP
   ·
    exact rfl
  refine ObsU.cons (k' := 2) rfl ?_ ?_
  ·
   intro fa W hW hSame hRR KK hKK
   try dsimp only at hW
   obtain ⟨fv0, ft0, (rfl : fv0 = Value.slice (some q) n c)⟩ := hRR 0 _ 11 rfl rfl (by kernel_rfl) (by kernel_rfl)
   replace hKK : ∀ v w', Below W.heap.size W w' → v = Value.pointer (some q) → KK (Act.put fa _ v) w' := fun v w' h1 h2 => hKK v w' h1 h2
   clear hSame hRR
   rw [if_pos (wanted_plain rfl)]
   go_simp
   refine hKK _ _ ?_ ?_
   ·
    exact grP
   ·
    exact rfl
  refine ObsU.cons (k' := 3) rfl ?_ ?_
  ·
   intro fa W hW hSame hRR KK hKK
   try dsimp only at hW
   obtain ⟨fv1, ft1, (rfl : fv1 = Value.pointer (some q))⟩ := hRR 1 _ 12 rfl rfl (by kernel_rfl) (by kernel_rfl)
   replace hKK : ∀ v w', Below W.heap.size W w' → v = Value.string h → KK (Act.put fa _ v) w' := fun v w' h1 h2 => hKK v w' h1 h2
   have gx := HC.out W (below_step B1.out hW)
   clear hSame hRR
   rw [if_pos (wanted_plain rfl)]
   go_simp
   refine hKK _ _ ?_ ?_
   ·
    exact grP
   ·
    exact rfl
  refine ObsU.cons (k' := 4) rfl ?_ ?_
  ·
   intro fa W hW hSame hRR KK hKK
   try dsimp only at hW
   replace hKK : ∀ v w', Below W.heap.size W w' → (fun v W => StS W v Qy.heads) v w' → KK (Act.put fa _ v) w' := fun v w' h1 h2 => hKK v w' h1 h2
   clear hSame hRR
   rw [if_pos (wanted_plain rfl)]
   go_simp
   refine (KI.out _).mono ?_; rintro e w' ⟨v, rfl, hv, hb⟩
   exact hKK _ _ hb hv
  refine ObsU.cons (k' := 5) rfl ?_ ?_
  ·
   intro fa W hW hSame hRR KK hKK
   try dsimp only at hW
   obtain ⟨fv2, ft2, (rfl : fv2 = Value.string h)⟩ := hRR 2 _ 13 rfl rfl (by kernel_rfl) (by kernel_rfl)
   obtain ⟨fv3, ft3, hk3⟩ := hRR 3 _ 14 rfl rfl (by kernel_rfl) (by kernel_rfl)
   replace hKK : ∀ v w', Below W.heap.size W w' → v = Value.int .i64 kk → KK (Act.put fa _ v) w' := fun v w' h1 h2 => hKK v w' h1 h2
   clear hSame hRR
   rw [if_pos (wanted_plain rfl)]
   go_simp
   refine (ME.out _ _ hk3).mono ?_; rintro e w' ⟨hb, ⟨-, rfl⟩ | ⟨h9, -⟩⟩
   ·
    exact hKK _ _ hb rfl
   ·
    exact absurd rfl h9
  refine ObsU.cons (k' := 6) rfl ?_ ?_
  ·
   intro fa W hW hSame hRR KK hKK
   try dsimp only at hW
   obtain ⟨fv4, ft4, (rfl : fv4 = Value.int .i64 kk)⟩ := hRR 4 _ 15 rfl rfl (by kernel_rfl) (by kernel_rfl)
   replace hKK : ∀ v w', Below W.heap.size W w' → v = Value.agg #[.int .i64 kk, .string ⟨#[]⟩, .int .i64 0, .int .i64 0, .int .i64 0, .int .i64 0] → KK (Act.put fa _ v) w' := fun v w' h1 h2 => hKK v w' h1 h2
   clear hSame hRR
   rw [if_pos (wanted_plain rfl)]
   go_simp
   refine hKK _ _ ?_ ?_
   ·
    exact grP
   ·
    exact rfl
  refine ObsU.cons (k' := 7) rfl ?_ ?_
  ·
   intro fa W hW hSame hRR KK hKK
   try dsimp only at hW
   replace hKK : ∀ v w', Below W.heap.size W w' → (fun v W => ∃ b, v = Value.pointer (some ⟨b, 0, none⟩) ∧ w1.heap.size ≤ b ∧ Bk6 W b (.int .i64 0) (.string ⟨#[]⟩) (.int .i64 0) (.int .i64 0) (.int .i64 0) (.int .i64 0)) v w' → KK (Act.put fa _ v) w' := fun v w' h1 h2 => hKK v w' h1 h2
   clear hSame hRR
   rw [if_pos (wanted_plain rfl)]
   go_simp
   refine hKK _ _ ((Below.refl _ _).alloc (Nat.le_refl _) _) ⟨_, rfl, hW.size, ?_⟩
   exact ⟨by simp <;> omega, by intro j; simp [go_sem], by simp [go_sem], by simp [go_sem], by simp [go_sem], by simp [go_sem], by simp [go_sem], by simp [go_sem]⟩
  exact ObsU.nil
 case hlast =>
  intro o ho fa W hW hSame hRR KK hKK
  replace ho := Option.some.inj (show some _ = some o from ho)
  subst ho
  try dsimp only at hW
  obtain ⟨fv5, ft5, (rfl : fv5 = Value.agg #[.int .i64 kk, .string ⟨#[]⟩, .int .i64 0, .int .i64 0, .int .i64 0, .int .i64 0])⟩ := hRR 5 _ 16 (by decide) rfl rfl rfl
  obtain ⟨fv6, ft6, ⟨b, rfl, hb0, hB⟩⟩ := hRR 6 _ 3 (by decide) rfl rfl rfl
  have tx := hB; obtain ⟨c_hb, c_fz, c_k0, c_k1, c_k2, c_k3, c_k4, c_k5⟩ := tx
  rw [if_pos (wanted_plain rfl)]
  go_simp
  clear c_hb c_fz c_k0 c_k1 c_k2 c_k3 c_k4 c_k5
  refine hKK undef _ ?_
  clear hKK
  rw [Same_shape hSame]
  simp only [List.filterMap_cons, List.filterMap_nil, List.foldl_cons, List.foldl_nil]
  have g3 : fa.tmps.getD 3 undef = .pointer (some ⟨b, 0, none⟩) := by simp [Array.getD_eq_getD_getElem?, ft6]
  rw [g3]
  generalize fa.tmps.getD 11 undef = y11
  generalize fa.tmps.getD 12 undef = y12
  generalize fa.tmps.getD 13 undef = y13
  generalize fa.tmps.getD 14 undef = y14
  generalize fa.tmps.getD 15 undef = y15
  generalize fa.tmps.getD 16 undef = y16
  clear hSame hRR g3 ft5 ft6
  simp only [Act.put, List.setIfInBounds_toArray, List.set_cons_succ, List.set_cons_zero]
  go_upto_region 4 with (fail)
  refine wp_named ?_; intro w2 hw2
  have D2 : Below w1.heap.size w1 w2 := below_set6 hW hb0 hw2
  have Q2 := Lib.hid (set6 hB hw2)
  have X2 := Lib.hid (X1.out.keep D2)
  have B2 := Lib.hid (below_step B1.out D2)
  have E2 := Lib.hid D2
  have HB1 := Lib.hid hb0
  have HB := Lib.hid (show w.heap.size < b from Nat.lt_of_lt_of_le X1.out.hb hb0)
  clear hW hB hw2 D2 hb0
  have SL := SLI.out
  go_upto_region 5 with (fail)
  refine wp_named ?_; intro w3 hw3
  have W3 : w3 = w2 := hw3
  subst W3
  clear hw3 SL
  refine wp_region_till (R := markR [(fun v W => ∃ vs : List Value, vs.length = 8 ∧ v = Value.agg vs.toArray ∧ ∀ k (h : k < vs.length), NsS w3.heap.size W vs[k] (Qy.sl k)), (fun v _ => v = Value.pointer (some ⟨b, 0, none⟩)), (fun v _ => v = Value.int .i64 kk), (fun v W => NsS w3.heap.size W v (Qy.sl kk)), (fun v W => NsS w3.heap.size W v (Qy.sl kk))]) (till := fun _ => none) (D := fun W => Below w3.heap.size w3 W) (G := fun _ W W' => Below W.heap.size W W') (by rfl) ?hbeg ⟨by kernel_rfl, by kernel_rfl, by kernel_rfl, ?hkeep, ?hstab, ObsT.all ?hobs, ?hlast⟩
  case hbeg => exact (Below.refl _ _).drew
  case hkeep => intro i w1 w2 hC hG; exact below_step hC hG
  case hstab =>
   intro i j hij ht v w1 w2 hG hm
   match j, hm with
   | 0, hm => exact (by obtain ⟨vs, h1, h2, h3⟩ := hm; exact ⟨vs, h1, h2, fun k h => (h3 k h).on hG⟩)
   | 1, hm => exact hm
   | 2, hm => exact hm
   | 3, hm => exact hm.on hG
   | 4, hm => exact hm.on hG
   | j + 5, hm => exact trivial
  case hobs =>
   refine ObsT.cons (k' := 1) rfl ?_ ?_
   ·
    intro fa W hW hSame hRR KK hKK
    try dsimp only at hW
    replace hKK : ∀ v w', Below W.heap.size W w' → (fun v W => ∃ vs : List Value, vs.length = 8 ∧ v = Value.agg vs.toArray ∧ ∀ k (h : k < vs.length), NsS w3.heap.size W vs[k] (Qy.sl k)) v w' → KK (Act.put fa _ v) w' := fun v w' h1 h2 => hKK v w' h1 h2
    clear hSame hRR
    rw [if_pos (wanted_plain rfl)]
    go_simp
    refine (SLO.out _).mono ?_; rintro e w' ⟨vs, h1, rfl, h2, hb⟩
    exact hKK _ _ hb ⟨vs, h1, rfl, fun k h => (h2 k h).low hW.size⟩
   refine ObsT.cons (k' := 2) rfl ?_ ?_
   ·
    intro fa W hW hSame hRR KK hKK
    try dsimp only at hW
    have fb3 : fa.tmps[3]? = some (Value.pointer (some ⟨b, 0, none⟩)) := (hSame.base 3 (by kernel_rfl)).trans (by kernel_rfl)
    replace hKK : ∀ v w', Below W.heap.size W w' → v = Value.pointer (some ⟨b, 0, none⟩) → KK (Act.put fa _ v) w' := fun v w' h1 h2 => hKK v w' h1 h2
    clear hSame hRR
    rw [if_pos (wanted_plain rfl)]
    go_simp
    refine hKK _ _ ?_ ?_
    ·
     exact grP
    ·
     exact rfl
   refine ObsT.cons (k' := 3) rfl ?_ ?_
   ·
    intro fa W hW hSame hRR KK hKK
    try dsimp only at hW
    obtain ⟨fv1, ft1, (rfl : fv1 = Value.pointer (some ⟨b, 0, none⟩))⟩ := hRR 1 _ 20 rfl rfl (by kernel_rfl) (by kernel_rfl)
    replace hKK : ∀ v w', Below W.heap.size W w' → v = Value.int .i64 kk → KK (Act.put fa _ v) w' := fun v w' h1 h2 => hKK v w' h1 h2
    have hX := Q2.out.keep hW
    have tx := hX; obtain ⟨chb, cfz, ck0, ck1, ck2, ck3, ck4, ck5⟩ := tx
    clear hSame hRR
    rw [if_pos (wanted_plain rfl)]
    go_simp
    refine hKK _ _ ?_ ?_
    ·
     exact grP
    ·
     exact rfl
   refine ObsT.cons (k' := 4) rfl ?_ ?_
   ·
    intro fa W hW hSame hRR KK hKK
    try dsimp only at hW
    obtain ⟨fv0, ft0, ⟨vs, hvl, rfl, hvs⟩⟩ := hRR 0 _ 19 rfl rfl (by kernel_rfl) (by kernel_rfl)
    obtain ⟨fv2, ft2, (rfl : fv2 = Value.int .i64 kk)⟩ := hRR 2 _ 21 rfl rfl (by kernel_rfl) (by kernel_rfl)
    replace hKK : ∀ v w', Below W.heap.size W w' → (fun v W => NsS w3.heap.size W v (Qy.sl kk)) v w' → KK (Act.put fa _ v) w' := fun v w' h1 h2 => hKK v w' h1 h2
    have IX := fun W => qix vs hvl kk (by omega) W
    clear hSame hRR
    rw [if_pos (wanted_plain rfl)]
    go_simp
    refine hKK _ _ (Below.refl _ _) (hvs kk (by omega))
   refine ObsT.cons (k' := 5) rfl ?_ ?_
   ·
    intro fa W hW hSame hRR KK hKK
    try dsimp only at hW
    obtain ⟨fv3, ft3, hn3⟩ := hRR 3 _ 22 rfl rfl (by kernel_rfl) (by kernel_rfl)
    replace hKK : ∀ v w', Below W.heap.size W w' → (fun v W => NsS w3.heap.size W v (Qy.sl kk)) v w' → KK (Act.put fa _ v) w' := fun v w' h1 h2 => hKK v w' h1 h2
    clear hSame hRR
    rw [if_pos (wanted_plain rfl)]
    go_simp
    refine hKK _ _ (Below.refl _ _) hn3
   exact ObsT.nil
  case hlast =>
   intro fa w4 d4 hSame hRR
   try dsimp only at d4
   obtain ⟨zz4, f4, hn4⟩ := hRR 4 _ 4 rfl rfl rfl
   rw [Same_shape hSame]
   simp only [List.filterMap_cons, List.filterMap_nil, List.foldl_cons, List.foldl_nil]
   have g4 : fa.tmps.getD 4 undef = zz4 := by simp [Array.getD_eq_getD_getElem?, f4]
   rw [g4]
   generalize fa.tmps.getD 19 undef = y19
   generalize fa.tmps.getD 20 undef = y20
   generalize fa.tmps.getD 21 undef = y21
   generalize fa.tmps.getD 22 undef = y22
   clear hSame hRR f4 g4
   simp only [Act.put, List.setIfInBounds_toArray, List.set_cons_succ, List.set_cons_zero]
   rw [← HL.out] at hn4
   have N4 := hn4
   obtain ⟨A2, c2, rfl, -⟩ := hn4
   obtain ⟨N, hN⟩ : ∃ N, N = L.length := ⟨_, rfl⟩
   rw [← hN] at N4 HT
   rw [← hN]
   have HN := Lib.hid hN
   have N4 := Lib.hid N4
   have Q4 := Lib.hid (Q2.out.keep d4)
   have X4 := Lib.hid (X2.out.keep d4)
   have B4 := Lib.hid (below_step B2.out d4)
   have D4 := Lib.hid (below_step E2.out d4)
   have hbz := Q2.out.hb
   have HB4 := Lib.hid (show b < w3.heap.size from hbz)
   clear d4 Q2 X2 B2 SLI SLO hN hbz HL ME KI HC
   by_cases f1 : m1 < N
   case pos =>
    have HE := Lib.hid (HT.out.trans (if_pos f1))
    have g6 : decide (N ≤ m1) = false := decide_eq_false (by omega)
    go_wp2_with fail
    refine (need_no 5 _).mono ?_; rintro e u2 ⟨rfl, rfl⟩
    refine (show bodyPost _ _ _ (Exit.panic (gvP _)) _ _ from ?_)
    simp only [bodyPost]
    exact ⟨trivial, B4.out, .inr ⟨by rw [HE.out]; decide, by rw [HE.out]⟩⟩
   by_cases f2 : N < m1
   case pos =>
    have HE := Lib.hid (HT.out.trans ((if_neg f1).trans (if_pos f2)))
    have g6 : decide (N ≤ m1) = true := decide_eq_true (by omega)
    have g7 : decide (m1 ≤ N) = false := decide_eq_false (by omega)
    go_wp2_with fail
    refine (need_yes 5 _).mono ?_; rintro e u2 ⟨rfl, rfl⟩
    go_wp2_with fail
    refine (need_no 6 _).mono ?_; rintro e u3 ⟨rfl, rfl⟩
    refine (show bodyPost _ _ _ (Exit.panic (gvP _)) _ _ from ?_)
    simp only [bodyPost]
    exact ⟨trivial, B4.out, .inr ⟨by rw [HE.out]; decide, by rw [HE.out]⟩⟩
   have HE := Lib.hid (HT.out.trans ((if_neg f1).trans (if_neg f2)))
   obtain rfl : m1 = N := by omega
   have g6 : decide (m1 ≤ m1) = true := decide_eq_true (by omega)
   clear HT f1 f2
   go_wp2_with fail
   refine (need_yes 5 _).mono ?_; rintro e u2 ⟨rfl, rfl⟩
   go_wp2_with fail
   refine (need_yes 6 _).mono ?_; rintro e u3 ⟨rfl, rfl⟩
   clear g6
   have hm5 : m1 ≤ 5 := by have := HS.out.1; rw [← HN.out] at this; exact this
   have QQ : Hid (QBk w4 b ((kk : Int), [], 0, 0, 0, 0)) := Lib.hid Q4.out
   clear Q4
   go_wp2_with fail
   go_loopw [37] (fun i wr => ∃ k : Nat, k ≤ m1 ∧ i = .int .i64 k ∧ (∃ qq : Qy.Q, Hid (QBk wr b qq) ∧ Hid (qq.1 = kk) ∧ Hid (tot = Qy.aft kk (Qy.stp (L.drop k) ((r.map (·.data.toList)).drop k) qq))) ∧ Hid (NsS w3.heap.size wr (.slice A2 m1 c2) L) ∧ Hid (Below w1.heap.size w1 wr)) (fun i _ => m1 - (intOf i).toNat)
   case atStart => exact ⟨0, by omega, rfl, ⟨_, QQ, Lib.hid rfl, HE⟩, N4, Lib.hid D4.out⟩
   case round =>
    obtain ⟨k, hk, rfl, ⟨qq, hQ, hq1, hT⟩, hN, hB⟩ := hrel
    clear QQ HE N4 D4
    by_cases hlt : k < m1
    ·
     have hkL : k < L.length := by rw [← HN.out]; exact hlt
     have hkr : k < r.length := by rw [← HM.out]; exact hlt
     have hT1 := hT.out
     rw [List.drop_eq_getElem_cons hkL, List.drop_eq_getElem_cons (show k < (r.map (·.data.toList)).length by rw [List.length_map]; exact hkr), List.getElem_map] at hT1
     have hs := HS.out.2 L[k] (List.getElem_mem _)
     have hx := HZ.out r[k] (List.getElem_mem _)
     have T := hN.out
     obtain ⟨A9, c9, e9, ha⟩ := T
     obtain ⟨a9, ea, -, -, -, gl⟩ := ha (by omega)
     injection e9 with e91 e92 e93
     subst e91
     subst ea
     clear e92 e93
     have gl := gl k _ (List.getElem?_eq_getElem hkL)
     obtain ⟨q9, e8, gr⟩ := StS.get (SR.out wr (below_step B1.out hB.out)) k hkr
     cases e8
     generalize L[k] = s9 at hs gl hT1
     generalize r[k] = x9 at hx gr hT1
     have RD := Lib.hid (fun W X V => qsread_any s9 hs.1 hs.2 b qq x9 W X hx tp pp V)
     have V1 := Lib.hid (var_keep (below_step B1.out hB.out) HV.out)
     have HTT := Lib.hid hT1
     clear hT1 hT hs hx ha hkL hkr
     go_wp2_with fail
     refine (RD.out _ hQ.out V1.out).mono ?_; rintro e w5 (⟨h9, rfl, Q5, k5⟩ | ⟨h9, rfl, b5⟩)
     ·
      have hne : b < w3.heap.size := HB4.out
      have HT6 := Lib.hid (HTT.out.trans (congrArg _ (Qy.stp_yes h9)))
      have hk6 := Qy.one_kind s9 x9.data.toList qq
      rw [hq1.out] at hk6
      have K6 := Lib.hid hk6
      have Q6 := Lib.hid Q5
      have N6 := Lib.hid (k5.2 _ _ _ HB4.out hN.out)
      have B6 := Lib.hid (k5.1 _ _ HB1.out hB.out.size hB.out)
      clear hQ hq1 hN hB HTT Q5 k5 hk6 RD gl gr V1
      go_wp2_with fail
      go_roundw
      case rel => exact ⟨k + 1, by omega, by go_num, ⟨_, Q6, K6, HT6⟩, N6, B6⟩
      case measure => simp [intOf]; omega
     ·
      have HK := Lib.hid (HTT.out.trans ((congrArg _ (Qy.stp_no h9)).trans (Qy.aft_no _ h9)))
      clear HTT
      simp +zetaDelta only [Exit.then, Exit.inBlock, bodyPost]
      first | exact ⟨rfl, below_step B1.out (below_step hB.out b5), .inr ⟨by rw [HK.out]; exact h9, by rw [HK.out]⟩⟩ | exact ⟨trivial, below_step B1.out (below_step hB.out b5), .inr ⟨by rw [HK.out]; exact h9, by rw [HK.out]⟩⟩
    ·
     obtain rfl : k = m1 := by omega
     obtain ⟨k', z, t, n9, u, p⟩ := qq
     obtain rfl : k' = kk := hq1.out
     have hT9 : tot = Qy.aft kk (((kk : Int), z, t, n9, u, p), 0) := by
      have := hT.out
      rw [List.drop_of_length_le (by rw [← HN.out]; exact Nat.le_refl _)] at this
      exact this
     have X := X1.out.keep hB.out
     have Y : Bk6 wr b (.int .i64 kk) (.string ⟨z.toArray⟩) (.int .i64 t) (.int .i64 n9) (.int .i64 u) (.int .i64 p) := hQ.out
     have Yh := Y.hb; have Yf := Y.fz; have Y0 := Y.k0; have Y1 := Y.k1; have Y2 := Y.k2; have Y3 := Y.k3; have Y4 := Y.k4; have Y5 := Y.k5
     have Xh := X.hb; have Xf := X.fz; have X0 := X.k0; have X1c := X.k1; have X2c := X.k2; have X3c := X.k3; have X4c := X.k4; have X5c := X.k5
     have BZ := Lib.hid (below_step B1.out hB.out)
     have hbw := HB.out
     have hne1 : b ≠ w.heap.size := Nat.ne_of_gt hbw
     have hne2 : w.heap.size ≠ b := Nat.ne_of_lt hbw
     clear hQ hq1 hT hN hB X Y
     by_cases k7 : (kk : Int) = 7
     case neg =>
      have HE := Lib.hid (hT9.trans (show Qy.aft kk (((kk : Int), z, t, n9, u, p), 0) = (((kk : Int), z, t, n9, u, p), 0) from by unfold Qy.aft; rw [if_neg (by simp), if_neg k7]))
      have g13 : ((kk : Int) == 7) = false := by rw [beq_eq_false_iff_ne]; exact k7
      clear hT9
      go_wp2_with fail
      refine bodyPost_ret (v := .agg #[.int .i64 kk, .string ⟨z.toArray⟩, .int .i64 t, .int .i64 n9, .int .i64 u, .int .i64 p]) (by simp [results, Tryz.results18, go_sem, Xh, Xf, X0, X1c, X2c, X3c, X4c, X5c]) rfl ⟨?_, .inl ⟨by rw [HE.out], by rw [HE.out]; rfl⟩⟩
      iterate 6 (refine Below.setCell ?_ (by first | omega | (simp; done)) _)
      exact BZ.out
     have g13 : ((kk : Int) == 7) = true := by rw [beq_iff_eq]; exact k7
     have YA := Lib.hid (fun W => qyear_any t W)
     have YB := Lib.hid (fun W => qyear_any n9 W)
     have hT8 : tot = if ¬ (Qy.yr t ∧ Qy.yr n9) then (Qy.Q0, 1) else if ¬ t ≤ n9 then (Qy.Q0, 14) else (((kk : Int), z, t, n9, u, p), 0) := by
      rw [hT9]; unfold Qy.aft; rw [if_neg (by simp), if_pos k7]
     clear hT9
     by_cases yt : Qy.yr t
     case neg =>
      have HE := Lib.hid (hT8.trans (if_pos (fun h => yt h.1)))
      rw [decide_eq_false yt] at YA
      clear hT8
      go_wp2_with fail
      refine (YA.out _).mono ?_; rintro e u5 ⟨rfl, rfl⟩
      go_wp2_with fail
      refine (need_no 1 _).mono ?_; rintro e u6 ⟨rfl, rfl⟩
      simp +zetaDelta only [Exit.then, Exit.inBlock, bodyPost]
      first | exact ⟨rfl, BZ.out, .inr ⟨by rw [HE.out]; decide, by rw [HE.out]⟩⟩ | exact ⟨trivial, BZ.out, .inr ⟨by rw [HE.out]; decide, by rw [HE.out]⟩⟩
     rw [decide_eq_true yt] at YA
     by_cases yn : Qy.yr n9
     case neg =>
      have HE := Lib.hid (hT8.trans (if_pos (fun h => yn h.2)))
      rw [decide_eq_false yn] at YB
      clear hT8
      go_wp2_with fail
      refine (YA.out _).mono ?_; rintro e u5 ⟨rfl, rfl⟩
      go_wp2_with fail
      refine (YB.out _).mono ?_; rintro e u6 ⟨rfl, rfl⟩
      go_wp2_with fail
      refine (need_no 1 _).mono ?_; rintro e u7 ⟨rfl, rfl⟩
      simp +zetaDelta only [Exit.then, Exit.inBlock, bodyPost]
      first | exact ⟨rfl, BZ.out, .inr ⟨by rw [HE.out]; decide, by rw [HE.out]⟩⟩ | exact ⟨trivial, BZ.out, .inr ⟨by rw [HE.out]; decide, by rw [HE.out]⟩⟩
     rw [decide_eq_true yn] at YB
     by_cases yo : t ≤ n9
     case neg =>
      have HE := Lib.hid (hT8.trans ((if_neg (not_not_intro ⟨yt, yn⟩)).trans (if_pos yo)))
      have g15 : decide (t ≤ n9) = false := decide_eq_false yo
      clear hT8
      go_wp2_with fail
      refine (YA.out _).mono ?_; rintro e u5 ⟨rfl, rfl⟩
      go_wp2_with fail
      refine (YB.out _).mono ?_; rintro e u6 ⟨rfl, rfl⟩
      go_wp2_with fail
      refine (need_yes 1 _).mono ?_; rintro e u7 ⟨rfl, rfl⟩
      go_wp2_with fail
      refine (need_no 14 _).mono ?_; rintro e u8 ⟨rfl, rfl⟩
      simp +zetaDelta only [Exit.then, Exit.inBlock, bodyPost]
      first | exact ⟨rfl, BZ.out, .inr ⟨by rw [HE.out]; decide, by rw [HE.out]⟩⟩ | exact ⟨trivial, BZ.out, .inr ⟨by rw [HE.out]; decide, by rw [HE.out]⟩⟩
     have HE := Lib.hid (hT8.trans ((if_neg (not_not_intro ⟨yt, yn⟩)).trans (if_neg (not_not_intro yo))))
     have g15 : decide (t ≤ n9) = true := decide_eq_true yo
     clear hT8
     go_wp2_with fail
     refine (YA.out _).mono ?_; rintro e u5 ⟨rfl, rfl⟩
     go_wp2_with fail
     refine (YB.out _).mono ?_; rintro e u6 ⟨rfl, rfl⟩
     go_wp2_with fail
     refine (need_yes 1 _).mono ?_; rintro e u7 ⟨rfl, rfl⟩
     go_wp2_with fail
     refine (need_yes 14 _).mono ?_; rintro e u8 ⟨rfl, rfl⟩
     go_wp2_with fail
     refine bodyPost_ret (v := .agg #[.int .i64 7, .string ⟨z.toArray⟩, .int .i64 t, .int .i64 n9, .int .i64 u, .int .i64 p]) (by simp [results, Tryz.results18, go_sem, Xh, Xf, X0, X1c, X2c, X3c, X4c, X5c]) rfl ⟨?_, .inl ⟨by rw [HE.out], by rw [HE.out, k7]; rfl⟩⟩
     iterate 6 (refine Below.setCell ?_ (by first | omega | (simp; done)) _)
     exact BZ.out
theorem qread_any (A : Option Addr) (n c : Nat) (l : List ByteArray) (w : World) (hnc : n ≤ c) (hst : StS w (.slice A n c) l) (hz : ∀ x ∈ l, x.size ≤ 1000) (tp : TypeId) (pp : Value) (hvar : w.var? Tryz.prog "strconv.ErrRange" = some #[.iface tp pp]) :
  Calls Tryz.prog 18 #[.slice A n c] w (AnsQ (Qy.rdF (l.map (·.data.toList))) w) := by
 match l, hst, hz with
 | [], hst, hz =>
  obtain ⟨A', c', hv, -⟩ := hst
  injection hv with h1 h2 h3
  obtain rfl : n = 0 := h2
  exact qread_nil A c w
 | h :: r, hst, hz =>
  have T := hst
  obtain ⟨A', c', hv, hA⟩ := T
  injection hv with h1 h2 h3
  obtain ⟨q, ea, -⟩ := hA (by simp)
  rw [ea] at h1
  subst h1
  have h2 : n = r.length + 1 := h2
  rw [List.map_cons, Qy.rdF_cons]
  by_cases hy : (Wd.mat h.data.toList Qy.heads).2 = 0
  ·
   rw [if_neg (by simp [hy])]
   have m := Wd.mat_lt _ _ hy
   have ml : Qy.heads.length = 7 := rfl
   rw [ml] at m
   obtain ⟨kk, hkk⟩ : ∃ kk : Nat, (Wd.mat h.data.toList Qy.heads).1 + 1 = kk := ⟨((Wd.mat h.data.toList Qy.heads).1 + 1).toNat, by omega⟩
   rw [hkk]
   exact qread_yes q n c h r w h2 hnc hst hz hy kk hkk (by omega) (by omega) _ rfl tp pp hvar
  ·
   rw [if_pos hy]
   exact qread_no q n c h r w h2 hnc hst hz hy
end Go.Proofs.YtbcbggdbojonmaaGreatDoor
