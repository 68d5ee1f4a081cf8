/- Joined: LpJ, FdC. -/
import Derived.Test.YtifgiclnofdnkaaGreatDoorBy01
import Derived.Test.YtifgiclnofdnkaaGreatDoorBy22
import Derived.Test.YtifgiclnofdnkaaGreatDoorBy27
import Derived.Test.YtifgiclnofdnkaaGreatDoorBy28
import Derived.Test.YtifgiclnofdnkaaGreatDoorBy29
import Derived.Test.YtifgiclnofdnkaaGreatDoorBy21
import Derived.Test.YtifgiclnofdnkaaGreatDoorBy30
import Derived.Test.YtifgiclnofdnkaaGreatDoorBy23
import Derived.Test.YtifgiclnofdnkaaGreatDoorBy07
set_option linter.unusedVariables false
set_option linter.unusedSimpArgs false
namespace Go.Proofs.YtifgiclnofdnkaaGreatDoor
open Go.RowKit Go.Sort Go.Pairs
theorem lstamp_read (s : ByteArray) (hs : s.size ≤ 1000) : ∃ v0 v1 v2 v3 v4 v5 y : Int, y = (Qy.rs s.data.toList).2 ∧ Hid (∀ W, Calls Tryz.prog 64 #[.string s] W fun e w' => e = .returned (.tuple #[.agg #[.int .i64 v0, .int .i64 v1, .int .i64 v2, .int .i64 v3, .int .i64 v4, .int .i64 v5], .int .i64 y]) ∧ Below W.heap.size W w') ∧ Hid (∀ W, Calls Tryz.prog 69 #[.string s] W fun e w' => e = .returned (.tuple #[.agg #[.int .i64 v0, .int .i64 v1, .int .i64 v2, .int .i64 v3, .int .i64 v4, .int .i64 v5], .int .i64 y]) ∧ Below W.heap.size W w') ∧ (y = 0 → Hid (∀ W, Calls Tryz.prog 66 #[.agg #[.int .i64 v0, .int .i64 v1, .int .i64 v2, .int .i64 v3, .int .i64 v4, .int .i64 v5]] W fun e w' => e = .returned (.tuple #[.int .i64 (Qy.rs s.data.toList).1, .int .i64 0]) ∧ Below W.heap.size W w') ∧ Hid (∀ W, Calls Tryz.prog 70 #[.agg #[.int .i64 v0, .int .i64 v1, .int .i64 v2, .int .i64 v3, .int .i64 v4, .int .i64 v5]] W fun e w' => e = .returned (.tuple #[.int .i64 (Qy.rs s.data.toList).1, .int .i64 0]) ∧ Below W.heap.size W w')) := by
 have SR := Lib.hid (fun W => sread_rv s W hs)
 have RR := Lib.hid (fun W => rsread_any s W hs)
 unfold Rd.rv at SR RR
 unfold Qy.rs
 by_cases hf : Rd.form s.data.toList = true
 ·
  simp only [hf, if_true] at SR RR ⊢
  by_cases ho : Rd.ok s.data.toList = true
  ·
   simp only [ho, if_true] at SR RR ⊢
   have hr : St.rB (Rd.yv (Rd.hd s.data.toList)) (Rd.pV (Rd.tl s.data.toList) 0) (Rd.pV (Rd.tl s.data.toList) 1) (Rd.pV (Rd.tl s.data.toList) 2) (Rd.pV (Rd.tl s.data.toList) 3) (Rd.pV (Rd.tl s.data.toList) 4) = true := by
    unfold Rd.ok at ho
    rw [Bool.and_eq_true, Bool.and_eq_true] at ho
    exact ho.2.2
   exact ⟨_, _, _, _, _, _, _, rfl, SR, RR, fun _ => ⟨Lib.hid (fun W => ssecs_yes _ _ _ _ _ _ W hr), Lib.hid (fun W => rssecs_yes _ _ _ _ _ _ W hr)⟩⟩
  ·
   simp only [ho, if_false, Bool.false_eq_true] at SR RR ⊢
   exact ⟨_, _, _, _, _, _, _, rfl, SR, RR, fun h => absurd h (by decide)⟩
 ·
  simp only [hf, if_false, Bool.false_eq_true] at SR RR ⊢
  exact ⟨_, _, _, _, _, _, _, rfl, SR, RR, fun h => absurd h (by decide)⟩
theorem Lp.chk_len {s : List UInt8} (h : Ln.chk s = 0) : s.length ≤ 511 := by
 unfold Ln.chk at h
 split at h
 ·
  cases h
 ·
  omega
def Lp.lnF : List (List UInt8) → Option Lp.X × Int
 | [] => (none, 0)
 | [_] => (none, 5)
 | [a, b] => if (Qy.rs a).2 ≠ 0 then (none, (Qy.rs a).2) else if b = [43] then (some ((Qy.rs a).1, 1), 0) else if b = [45] then (some ((Qy.rs a).1, -1), 0) else (none, 3)
 | _ => (none, 6)
theorem Lp.ln_f (s : List UInt8) : Lp.ln s = if Ln.chk s ≠ 0 then (none, Ln.chk s) else if (Fd.of s).2 ≠ 0 then (none, (Fd.of s).2) else Lp.lnF (Fd.of s).1 := by
 unfold Lp.ln Lp.lnF
 rfl
theorem lp_spo (B : Nat) (w : World) (l : List Lp.X) (cs : Array Value) (h : cs = (spc l).toArray) (t : TypeId) (c : Nat) (hB : B ≤ w.heap.size) : SpO B (w.alloc (.cells cs t)) (.slice (some ⟨w.heap.size, 0, none⟩) l.length c) l := by
 refine ⟨_, c, rfl, fun _ => ⟨_, rfl, hB, by simp, fun i u hu => ?_⟩⟩
 rw [show (⟨w.heap.size, 0, none⟩ : Addr).add i = ⟨w.heap.size, i, none⟩ by simp [Addr.add]; exact fun h => h.symm]
 rw [Lib.cell_of_heap (heap_alloc_new w _), h]
 simpa using hu
def AnsJ (R : Option Lp.X × Int) (w : World) (e : Ending) (w' : World) : Prop := Below w.heap.size w w' ∧ ((R.2 = 0 ∧ ∃ v, SpO w.heap.size w' v R.1.toList ∧ e = .returned v) ∨ (R.2 ≠ 0 ∧ e = .panicked (gvP R.2)))
set_option maxHeartbeats 8000000 in
set_option maxRecDepth 100000 in
theorem linline_any (s : ByteArray) (w : World) (hs : s.size ≤ 2000000) :
  Calls Tryz.prog 36 #[.string s] w (AnsJ (Lp.ln s.data.toList) w) := by
 have CK := Lib.hid (fun W => lcheck_any s W (by unfold maxLen; omega))
 have FO := Lib.hid (fun W => fof_room s W (by omega))
 have FL := Lib.hid (An.field_len s)
 have hsz : s.data.toList.length = s.size := Array.length_toList
 rw [Lp.ln_f]
 by_cases h1 : Ln.chk s.data.toList = 0
 case neg =>
  rw [if_pos h1]
  generalize Ln.chk s.data.toList = y at CK h1 ⊢
  clear FO FL hsz
  go_enter Tryz.func36, Tryz.ntmps36
  go_wp2_with fail
  refine (CK.out _).mono ?_; rintro e w1 ⟨rfl, b1⟩
  go_wp2_with fail
  refine (for_no _ _ h1).mono ?_; rintro e u1 ⟨rfl, rfl⟩
  refine (show bodyPost _ _ _ (Exit.panic (gvP _)) _ _ from ?_)
  simp only [bodyPost]
  exact ⟨trivial, b1, .inr ⟨h1, by first | rfl | trivial⟩⟩
 rw [if_neg (by simp [h1])]
 have hs5 : s.size ≤ 511 := by have := Lp.chk_len h1; omega
 rw [h1] at CK
 generalize Fd.of s.data.toList = R at FO FL ⊢
 obtain ⟨P, y⟩ := R
 dsimp only at FL ⊢
 clear hsz h1
 by_cases hy : y = 0
 case neg =>
  rw [if_pos hy]
  go_enter Tryz.func36, Tryz.ntmps36
  go_wp2_with fail
  refine (CK.out _).mono ?_; rintro e w1 ⟨rfl, b1⟩
  have B1 := Lib.hid b1
  clear b1
  go_wp2_with fail
  refine (for_yes _).mono ?_; rintro e u1 ⟨rfl, rfl⟩
  go_wp2_with fail
  refine (FO.out _).mono ?_; rintro e w2 ⟨A, n, c, l, hnc, hst, hl, rfl, b2⟩
  have B2 := Lib.hid (below_step B1.out b2)
  clear hst hl hnc b2
  go_wp2_with fail
  refine (mustl_no _ y _ hy).mono ?_; rintro e u1 ⟨rfl, rfl⟩
  refine (show bodyPost _ _ _ (Exit.panic (gvP _)) _ _ from ?_)
  simp only [bodyPost]
  exact ⟨trivial, B2.out, .inr ⟨hy, by first | rfl | trivial⟩⟩
 subst hy
 rw [if_neg (by simp)]
 obtain ⟨T, hT⟩ : ∃ T : Option Lp.X × Int, T = Lp.lnF P := ⟨_, rfl⟩
 rw [← hT]
 have HT := Lib.hid hT
 clear hT
 go_enter Tryz.func36, Tryz.ntmps36
 go_wp2_with fail
 refine (CK.out _).mono ?_; rintro e w1 ⟨rfl, b1⟩
 have B1 := Lib.hid b1
 clear b1
 go_wp2_with fail
 refine (for_yes _).mono ?_; rintro e u1 ⟨rfl, rfl⟩
 go_wp2_with fail
 refine (FO.out _).mono ?_; rintro e w2 ⟨A, n, c, l, hnc, hst, hl, rfl, b2⟩
 have hl : l.map (·.data.toList) = P := hl
 have hz : ∀ x ∈ l, x.size ≤ 1000 := fun x hx => by have := FL.out l hl x hx; omega
 have B2 := Lib.hid (below_step B1.out b2)
 have HS := Lib.hid hst
 have hn := hst
 obtain ⟨A', c', hv, -⟩ := hn
 cases hv
 clear hst hnc b2 FL FO CK B1
 subst hl
 have HZ := Lib.hid hz
 clear hz
 go_wp2_with fail
 refine (mustl_yes _ _).mono ?_; rintro e u1 ⟨rfl, rfl⟩
 match l, HT, HS, HZ with
 | [], HT, HS, HZ =>
  obtain rfl : T = (none, 0) := HT.out
  go_wp2_with fail
  go_ret
  exact ⟨B2.out, .inl ⟨rfl, _, ⟨none, 0, rfl, fun h => absurd h (by simp)⟩, rfl⟩⟩
 | [a], HT, HS, HZ =>
  obtain rfl : T = (none, 5) := HT.out
  go_wp2_with fail
  refine (need_no 5 _).mono ?_; rintro e u1 ⟨rfl, rfl⟩
  refine (show bodyPost _ _ _ (Exit.panic (gvP _)) _ _ from ?_)
  simp only [bodyPost]
  exact ⟨trivial, B2.out, .inr ⟨by decide, by first | rfl | trivial⟩⟩
 | a :: b :: d :: r, HT, HS, HZ =>
  obtain rfl : T = (none, 6) := HT.out
  have q1 : (2 : Int) ≤ ((a :: b :: d :: r).length : Int) := by simp only [List.length_cons]; omega
  have q2 : ¬ ((a :: b :: d :: r).length : Int) ≤ 2 := by simp only [List.length_cons]; omega
  have q3 : (((a :: b :: d :: r).length : Int) == 0) = false := by rw [beq_eq_false_iff_ne]; simp only [List.length_cons]; omega
  have q4 : ((a :: b :: d :: r).length : Int) ≠ 0 := by simp only [List.length_cons]; omega
  generalize (a :: b :: d :: r).length = m at *
  go_wp2_with fail
  refine (need_yes 5 _).mono ?_; rintro e u1 ⟨rfl, rfl⟩
  go_wp2_with fail
  rw [show decide ((m : Int) ≤ 2) = false from decide_eq_false (by omega)]
  refine (need_no 6 _).mono ?_; rintro e u1 ⟨rfl, rfl⟩
  refine (show bodyPost _ _ _ (Exit.panic (gvP _)) _ _ from ?_)
  simp only [bodyPost]
  exact ⟨trivial, B2.out, .inr ⟨by decide, by first | rfl | trivial⟩⟩
 | [a, b], HT, HS, HZ =>
  have hq := HS.out.get 0 (by simp)
  obtain ⟨q, rfl, ga⟩ := hq
  rw [Addr.add_zero'] at ga
  have ga : w2.cell? q = some (.string a) := ga
  have HF := Lib.hid (show StS w2 (.slice (some q) 2 c) [a, b] from HS.out)
  have za := HZ.out a (by simp)
  have zb := HZ.out b (by simp)
  obtain ⟨v0, v1, v2, v3, v4, v5, y, hy, SR, -, SS⟩ := lstamp_read a za
  have ht : T = if y ≠ 0 then (none, y) else if b.data.toList = [43] then (some ((Qy.rs a.data.toList).1, 1), 0) else if b.data.toList = [45] then (some ((Qy.rs a.data.toList).1, -1), 0) else (none, 3) := by rw [hy]; exact HT.out
  by_cases hy0 : y = 0
  case neg =>
   rw [if_pos hy0] at ht
   subst ht
   clear SS hy HT HS HZ
   go_wp2_with fail
   refine (need_yes 5 _).mono ?_; rintro e u1 ⟨rfl, rfl⟩
   go_wp2_with fail
   refine (need_yes 6 _).mono ?_; rintro e u1 ⟨rfl, rfl⟩
   go_wp2_with fail
   refine (SR.out _).mono ?_; rintro e w3 ⟨rfl, b3⟩
   have d3 : Below w2.heap.size w2 w3 := below_step gr0 b3
   have B3 := Lib.hid (below_step B2.out d3)
   clear b3 d3 B2
   go_wp2_with fail
   refine (muststamp_no _ _ _ _ _ _ y _ hy0).mono ?_; rintro e w4 ⟨rfl, b4⟩
   have B4 := Lib.hid (below_step B3.out b4)
   refine (show bodyPost _ _ _ (Exit.panic (gvP _)) _ _ from ?_)
   simp only [bodyPost]
   exact ⟨trivial, B4.out, .inr ⟨hy0, by first | rfl | trivial⟩⟩
  subst hy0
  rw [if_neg (by simp)] at ht
  have SS2 := SS rfl
  clear SS
  obtain ⟨SS, -⟩ := SS2
  generalize (Qy.rs a.data.toList).1 = n0 at SS ht
  obtain ⟨sv, hsv⟩ : ∃ sv : Int, sv = if b.data.toList = [45] then -1 else if b.data.toList = [43] then 1 else 0 := ⟨_, rfl⟩
  obtain ⟨hv, hhv⟩ : ∃ hv : Bool, hv = (decide (b.data.toList = [45]) || decide (b.data.toList = [43])) := ⟨_, rfl⟩
  have LK : Hid (∀ W b', MpI W b' 2 Lp.D2 → (Instr.lookup 89 (.map (some b')) (.string b) true).run Tryz.prog W = .ok (.tuple #[.int .i64 sv, .bool hv]) W) := Lib.hid (fun W b' M => by rw [hsv, hhv]; exact mpi_look M b (by unfold maxLen; omega))
  have HV : Hid (T = if hv = true then (some (n0, sv), 0) else (none, 3)) := Lib.hid (by
   rw [ht, hhv, hsv]
   by_cases h43 : b.data.toList = [43]
   ·
    rw [h43]; rfl
   ·
    by_cases h45 : b.data.toList = [45]
    ·
     rw [h45]; rfl
    ·
     rw [if_neg h43, if_neg h45, decide_eq_false h43, decide_eq_false h45]; rfl)
  clear ht hsv hhv HT HS HZ hy za zb
  go_wp2_with fail
  refine (need_yes 5 _).mono ?_; rintro e u1 ⟨rfl, rfl⟩
  go_wp2_with fail
  refine (need_yes 6 _).mono ?_; rintro e u1 ⟨rfl, rfl⟩
  go_wp2_with fail
  refine (SR.out _).mono ?_; rintro e w3 ⟨rfl, b3⟩
  have d3 : Below w2.heap.size w2 w3 := below_step gr0 b3
  have B3 := Lib.hid (below_step B2.out d3)
  have SF_3 := Lib.hid (HF.out.on d3)
  clear HF b3 d3 B2
  go_wp2_with fail
  refine (muststamp_yes v0 v1 v2 v3 v4 v5 _).mono ?_; rintro e w4 ⟨rfl, b4⟩
  have d4 : Below w3.heap.size w3 w4 := below_step gr0 b4
  have B4 := Lib.hid (below_step B3.out d4)
  have SF_4 := Lib.hid (SF_3.out.on d4)
  clear SF_3 b4 d4 B3
  go_wp2_with fail
  refine wp_named ?_; intro w5 hw5
  have d5 : Below w4.heap.size w4 w5 := by rw [hw5]; exact gr0
  have B5 := Lib.hid (below_step B4.out d5)
  have SF_5 := Lib.hid (SF_4.out.on d5)
  have aZ := B4.out.size
  have Z5 : Bk6 w5 (w4.heap.size) (.int .i64 v0) (.int .i64 v1) (.int .i64 v2) (.int .i64 v3) (.int .i64 v4) (.int .i64 v5) := by rw [hw5]; exact ⟨by simp <;> omega, by intro j; simp [go_sem], by simp [go_sem], by simp [go_sem], by simp [go_sem], by simp [go_sem], by simp [go_sem], by simp [go_sem]⟩
  clear SF_4 d5 hw5 B4
  refine wp_region_till (R := markR [(fun v W => ∃ b, v = Value.map (some b) ∧ MpI W b 2 Lp.D2), (fun v _ => v = Value.slice (some q) 2 c), (fun v _ => v = Value.pointer (some ⟨q.block, q.off + 1, none⟩)), (fun v _ => v = Value.string b), (fun v _ => v = Value.tuple #[.int .i64 sv, .bool hv]), (fun v _ => v = Value.tuple #[.int .i64 sv, .bool hv]), (fun v _ => v = Value.int .i64 sv), (fun v _ => v = Value.bool hv), (fun v _ => v = Value.int .i64 sv), (fun v _ => v = Value.bool hv)]) (till := fun _ => none) (D := fun W => Below w5.heap.size w5 W) (G := fun _ W W' => Below W.heap.size W W') (by rfl) ?hbeg ⟨by kernel_rfl, by kernel_rfl, by kernel_rfl, ?hkeep, ?hstab, ObsT.all ?hobs, ?hlast⟩
  case hbeg => exact (Below.refl _ _).drew
  case hkeep => intro i w1 w2 hC hG; exact below_step hC hG
  case hstab =>
   intro i j hij ht v w1 w2 hG hm
   match j, hm with
   | 0, hm => exact (by obtain ⟨b, e, h⟩ := hm; exact ⟨b, e, mpi_on h hG⟩)
   | 1, hm => exact hm
   | 2, hm => exact hm
   | 3, hm => exact hm
   | 4, hm => exact hm
   | 5, hm => exact hm
   | 6, hm => exact hm
   | 7, hm => exact hm
   | 8, hm => exact hm
   | 9, hm => exact hm
   | j + 10, hm => exact trivial
  case hobs =>
   refine ObsT.cons (k' := 1) rfl ?_ ?_
   ·
    intro fa W hW hSame hRR KK hKK
    try dsimp only at hW
    replace hKK : ∀ v w', Below W.heap.size W w' → (fun v W => ∃ b, v = Value.map (some b) ∧ MpI W b 2 Lp.D2) v w' → KK (Act.put fa _ v) w' := fun v w' h1 h2 => hKK v w' h1 h2
    clear hSame hRR
    rw [if_pos (wanted_plain rfl)]
    go_simp
    refine (signs_any _).mono ?_; rintro e w' ⟨rfl, hM, hb⟩
    exact hKK _ _ hb ⟨_, rfl, hM⟩
   refine ObsT.cons (k' := 2) rfl ?_ ?_
   ·
    intro fa W hW hSame hRR KK hKK
    try dsimp only at hW
    have fb3 : fa.tmps[3]? = some (Value.slice (some q) 2 c) := (hSame.base 3 (by kernel_rfl)).trans (by kernel_rfl)
    replace hKK : ∀ v w', Below W.heap.size W w' → v = Value.slice (some q) 2 c → KK (Act.put fa _ v) w' := fun v w' h1 h2 => hKK v w' h1 h2
    clear hSame hRR
    rw [if_pos (wanted_plain rfl)]
    go_simp
    refine hKK _ _ ?_ ?_
    ·
     exact grP
    ·
     exact rfl
   refine ObsT.cons (k' := 3) rfl ?_ ?_
   ·
    intro fa W hW hSame hRR KK hKK
    try dsimp only at hW
    obtain ⟨fv1, ft1, (rfl : fv1 = Value.slice (some q) 2 c)⟩ := hRR 1 _ 35 rfl rfl (by kernel_rfl) (by kernel_rfl)
    replace hKK : ∀ v w', Below W.heap.size W w' → v = Value.pointer (some ⟨q.block, q.off + 1, none⟩) → KK (Act.put fa _ v) w' := fun v w' h1 h2 => hKK v w' h1 h2
    clear hSame hRR
    rw [if_pos (wanted_plain rfl)]
    go_simp
    refine hKK _ _ ?_ ?_
    ·
     exact grP
    ·
     exact rfl
   refine ObsT.cons (k' := 4) rfl ?_ ?_
   ·
    intro fa W hW hSame hRR KK hKK
    try dsimp only at hW
    obtain ⟨fv2, ft2, (rfl : fv2 = Value.pointer (some ⟨q.block, q.off + 1, none⟩))⟩ := hRR 2 _ 36 rfl rfl (by kernel_rfl) (by kernel_rfl)
    replace hKK : ∀ v w', Below W.heap.size W w' → v = Value.string b → KK (Act.put fa _ v) w' := fun v w' h1 h2 => hKK v w' h1 h2
    obtain ⟨q9, e9, g9⟩ := (SF_5.out.on hW).get 1 (by simp)
    injection e9 with e9
    subst e9
    rw [Addr.add_succ'] at g9
    have g9 : W.cell? ⟨q.block, q.off + 1, none⟩ = some (.string b) := g9
    clear hSame hRR
    rw [if_pos (wanted_plain rfl)]
    go_simp
    refine hKK _ _ ?_ ?_
    ·
     exact grP
    ·
     exact rfl
   refine ObsT.cons (k' := 5) rfl ?_ ?_
   ·
    intro fa W hW hSame hRR KK hKK
    try dsimp only at hW
    obtain ⟨fv0, ft0, ⟨b0, rfl, hM0⟩⟩ := hRR 0 _ 34 rfl rfl (by kernel_rfl) (by kernel_rfl)
    obtain ⟨fv3, ft3, (rfl : fv3 = Value.string b)⟩ := hRR 3 _ 37 rfl rfl (by kernel_rfl) (by kernel_rfl)
    replace hKK : ∀ v w', Below W.heap.size W w' → v = Value.tuple #[.int .i64 sv, .bool hv] → KK (Act.put fa _ v) w' := fun v w' h1 h2 => hKK v w' h1 h2
    have lk := LK.out W _ hM0
    clear hSame hRR
    rw [if_pos (wanted_plain rfl)]
    go_simp
    refine hKK _ _ ?_ ?_
    ·
     exact grP
    ·
     exact rfl
   refine ObsT.cons (k' := 6) rfl ?_ ?_
   ·
    intro fa W hW hSame hRR KK hKK
    try dsimp only at hW
    obtain ⟨fv4, ft4, (rfl : fv4 = Value.tuple #[.int .i64 sv, .bool hv])⟩ := hRR 4 _ 38 rfl rfl (by kernel_rfl) (by kernel_rfl)
    replace hKK : ∀ v w', Below W.heap.size W w' → v = Value.tuple #[.int .i64 sv, .bool hv] → KK (Act.put fa _ v) w' := fun v w' h1 h2 => hKK v w' h1 h2
    clear hSame hRR
    rw [if_pos (wanted_plain rfl)]
    go_simp
    refine hKK _ _ ?_ ?_
    ·
     exact grP
    ·
     exact rfl
   refine ObsT.cons (k' := 7) rfl ?_ ?_
   ·
    intro fa W hW hSame hRR KK hKK
    try dsimp only at hW
    obtain ⟨fv5, ft5, (rfl : fv5 = Value.tuple #[.int .i64 sv, .bool hv])⟩ := hRR 5 _ 33 rfl rfl (by kernel_rfl) (by kernel_rfl)
    replace hKK : ∀ v w', Below W.heap.size W w' → v = Value.int .i64 sv → KK (Act.put fa _ v) w' := fun v w' h1 h2 => hKK v w' h1 h2
    clear hSame hRR
    rw [if_pos (wanted_plain rfl)]
    go_simp
    refine hKK _ _ ?_ ?_
    ·
     exact grP
    ·
     exact rfl
   refine ObsT.cons (k' := 8) rfl ?_ ?_
   ·
    intro fa W hW hSame hRR KK hKK
    try dsimp only at hW
    obtain ⟨fv5, ft5, (rfl : fv5 = Value.tuple #[.int .i64 sv, .bool hv])⟩ := hRR 5 _ 33 rfl rfl (by kernel_rfl) (by kernel_rfl)
    replace hKK : ∀ v w', Below W.heap.size W w' → v = Value.bool hv → KK (Act.put fa _ v) w' := fun v w' h1 h2 => hKK v w' h1 h2
    clear hSame hRR
    rw [if_pos (wanted_plain rfl)]
    go_simp
    refine hKK _ _ ?_ ?_
    ·
     exact grP
    ·
     exact rfl
   refine ObsT.cons (k' := 9) rfl ?_ ?_
   ·
    intro fa W hW hSame hRR KK hKK
    try dsimp only at hW
    obtain ⟨fv6, ft6, (rfl : fv6 = Value.int .i64 sv)⟩ := hRR 6 _ 39 rfl rfl (by kernel_rfl) (by kernel_rfl)
    replace hKK : ∀ v w', Below W.heap.size W w' → v = Value.int .i64 sv → KK (Act.put fa _ v) w' := fun v w' h1 h2 => hKK v w' h1 h2
    clear hSame hRR
    rw [if_pos (wanted_plain rfl)]
    go_simp
    refine hKK _ _ ?_ ?_
    ·
     exact grP
    ·
     exact rfl
   refine ObsT.cons (k' := 10) rfl ?_ ?_
   ·
    intro fa W hW hSame hRR KK hKK
    try dsimp only at hW
    obtain ⟨fv7, ft7, (rfl : fv7 = Value.bool hv)⟩ := hRR 7 _ 40 rfl rfl (by kernel_rfl) (by kernel_rfl)
    replace hKK : ∀ v w', Below W.heap.size W w' → v = Value.bool hv → KK (Act.put fa _ v) w' := fun v w' h1 h2 => hKK v w' h1 h2
    clear hSame hRR
    rw [if_pos (wanted_plain rfl)]
    go_simp
    refine hKK _ _ ?_ ?_
    ·
     exact grP
    ·
     exact rfl
   exact ObsT.nil
  case hlast =>
   intro fa w6 d6 hSame hRR
   try dsimp only at d6
   obtain ⟨zz8, f5, rfl⟩ := hRR 8 _ 5 rfl rfl rfl
   obtain ⟨zz9, f6, rfl⟩ := hRR 9 _ 6 rfl rfl rfl
   rw [Same_shape hSame]
   simp only [List.filterMap_cons, List.filterMap_nil, List.foldl_cons, List.foldl_nil]
   have g5 : fa.tmps.getD 5 undef = Value.int .i64 sv := by simp [Array.getD_eq_getD_getElem?, f5]
   have g6 : fa.tmps.getD 6 undef = Value.bool hv := by simp [Array.getD_eq_getD_getElem?, f6]
   rw [g5, g6]
   generalize fa.tmps.getD 34 undef = y34
   generalize fa.tmps.getD 35 undef = y35
   generalize fa.tmps.getD 36 undef = y36
   generalize fa.tmps.getD 37 undef = y37
   generalize fa.tmps.getD 38 undef = y38
   generalize fa.tmps.getD 33 undef = y33
   generalize fa.tmps.getD 39 undef = y39
   generalize fa.tmps.getD 40 undef = y40
   clear hSame hRR f5 g5 f6 g6
   simp only [Act.put, List.setIfInBounds_toArray, List.set_cons_succ, List.set_cons_zero]
   have B6 := Lib.hid (below_step B5.out d6)
   have Z6 := Z5.keep d6
   clear d6 Z5 SF_5 LK
   cases hv
   ·
    obtain rfl : T = (none, 3) := HV.out
    clear Z6
    simp only [Exit.then, Exit.inBlock]
    go_wp2_with fail
    refine (need_no 3 _).mono ?_; rintro e u1 ⟨rfl, rfl⟩
    refine (show bodyPost _ _ _ (Exit.panic (gvP _)) _ _ from ?_)
    simp only [bodyPost]
    exact ⟨trivial, B6.out, .inr ⟨by decide, by first | rfl | trivial⟩⟩
   ·
    obtain rfl : T = (some (n0, sv), 0) := HV.out
    simp only [Exit.then, Exit.inBlock]
    go_wp2_with fail
    refine (need_yes 3 _).mono ?_; rintro e u1 ⟨rfl, rfl⟩
    have tx := Z6; obtain ⟨cZ_b, cZ_f, cZ_0, cZ_1, cZ_2, cZ_3, cZ_4, cZ_5⟩ := tx
    go_wp2_with fail
    clear cZ_b cZ_f cZ_0 cZ_1 cZ_2 cZ_3 cZ_4 cZ_5
    refine (SS.out _).mono ?_; rintro e w7 ⟨rfl, b7⟩
    have d7 : Below w6.heap.size w6 w7 := below_step gr0 b7
    have B7 := Lib.hid (below_step B6.out d7)
    have Z7 := Z6.keep d7
    clear Z6 b7 d7 B6
    go_wp2_with fail
    refine (must_yes _ _).mono ?_; rintro e u1 ⟨rfl, rfl⟩
    go_wp2_with fail
    go_ret
    have hz := B7.out.size
    exact ⟨B7.out.alloc hz _, .inl ⟨rfl, _, lp_spo _ w7 [(n0, sv)] _ rfl _ 1 hz, rfl⟩⟩
end Go.Proofs.YtifgiclnofdnkaaGreatDoor
set_option linter.unusedVariables false
set_option linter.unusedSimpArgs false
namespace Go.Proofs.YtifgiclnofdnkaaGreatDoor
open Go.RowKit
theorem rblank_any (c : Int) (w : World) : Calls Tryz.prog 96 #[.int .u8 c] w fun e w' => e = .returned (.bool ((c == 9) || (c == 32))) ∧ w = w' := by
 generalize h1 : (c == 9) = b1
 generalize h2 : (c == 32) = b2
 cases b1 <;> cases b2
 all_goals
  go_enter Tryz.func96, Tryz.ntmps96
  go_wp2_with fail
  go_ret
  exact ⟨rfl, rfl⟩
namespace Fd
def fin (l : List UInt8) (pl : Bool) (r : List UInt8) : List UInt8 × Int := if r.contains 34 = true then ([], 8) else if (pl && !r.any mkB) = true then (l, 0) else (34 :: (l ++ [34]), 0)
end Fd
end Go.Proofs.YtifgiclnofdnkaaGreatDoor
