/- Joined: LnE, ApL, LpK. -/
import Derived.Test.YtifgiclnofdnkaaGreatDoorBy30
import Derived.Test.YtifgiclnofdnkaaGreatDoorBy33
import Derived.Test.YtifgiclnofdnkaaGreatDoorBy04
import Derived.Laws.AppendOwnNone
import Derived.Test.YtifgiclnofdnkaaGreatDoorBy01
import Derived.Test.YtifgiclnofdnkaaGreatDoorBy31
import Derived.Test.YtifgiclnofdnkaaGreatDoorBy27
set_option linter.unusedVariables false
set_option linter.unusedSimpArgs false
namespace Go.Proofs.YtifgiclnofdnkaaGreatDoor
open Go.RowKit Go.Sort
theorem ln_info_str : (Tryz.prog.info? 9).map (fun i => (i.zero, i.size, i.bytes)) = some (some (.string ⟨#[]⟩), 1, 16) := by kernel_rfl
theorem ln_parts {i0 : Option TypeInfo} {z : Value} {n b : Nat} (h : i0.map (fun i => (i.zero, i.size, i.bytes)) = some (some z, n, b)) : ∃ i, i0 = some i ∧ i.zero = some z ∧ i.size = n ∧ i.bytes = b := by
 cases i0 with
 | none => cases h
 | some i => simp at h; exact ⟨i, rfl, h.1, h.2.1, h.2.2⟩
namespace Ln
theorem ext_l (s : ByteArray) (a b : Nat) : (s.extract a b).data.toList = (s.data.toList.take b).drop a := by
 rw [ByteArray.data_extract, Array.toList_extract]
 rw [List.drop_take]
theorem cur_next (l : List UInt8) (a k : Nat) (ha : a ≤ k) (hk : k < l.length) : (l.take (k + 1)).drop a = (l.take k).drop a ++ [l[k]] := by
 rw [List.take_succ_eq_append_getElem hk, List.drop_append_of_le_length (by rw [List.length_take]; omega)]
end Ln
set_option maxHeartbeats 4000000 in
set_option maxRecDepth 100000 in
theorem rlof_any (s : ByteArray) (w : World) (hs : s.size ≤ 2000000) :
  Calls Tryz.prog 38 #[.string s] w (AnsL (Ln.cut [] s.data.toList) w) := by
 obtain ⟨i0, hi, hz0, hz1, hz2⟩ := ln_parts ln_info_str
 have CT : Hid (∀ (a b : Nat), a ≤ b → b ≤ s.size → ∀ W, Sem.run Tryz.prog (Instr.slice 9 (.string s) (some (.int .i64 (a : Int))) (some (.int .i64 (b : Int))) none) W = .ok (.string (s.extract a b)) W) := fun a b h1 h2 W => by
  rw [run_slice_string W 9 s .i64 .i64 (a : Int) (b : Int) Tryz.underlying9 (by omega) (by omega) (by omega)]
  simp
 obtain ⟨tot, htot⟩ : ∃ tot, tot = Ln.cut [] s.data.toList := ⟨_, rfl⟩
 rw [← htot]
 have HT := Lib.hid htot; clear htot
 go_enter Tryz.func38, Tryz.ntmps38
 go_wp2_with fail
 go_loopw [3, 4, 5] (fun v at_ i wr => ∃ (k a : Nat) (l : List ByteArray), k ≤ s.size ∧ a ≤ k ∧ l.length ≤ k ∧ i = .int .i64 k ∧ at_ = .int .i64 a ∧ Hid (wr.ownsRow w.heap.size 9 1 v l.length (l.map Value.string)) ∧ Hid (l.map (·.data.toList) ++ Ln.cut ((s.data.toList.take k).drop a) (s.data.toList.drop k) = tot) ∧ Hid (Below w.heap.size w wr)) (fun _ _ i _ => s.size - (intOf i).toNat)
 case atStart =>
  exact ⟨0, 0, [], Nat.zero_le _, Nat.le_refl _, Nat.le_refl _, rfl, rfl, World.ownsRow_nil _ _ _ _, HT.out.symm, Below.refl _ _⟩
 case round =>
  obtain ⟨k, a, l, hk, ha, hlk, rfl, rfl, hown, hinv, hbw⟩ := hrel
  by_cases hlt : k < s.size
  ·
   have hinv' := hinv.out
   have F := CT.out a k ha hk
   have hX := Ln.ext_l s a k
   generalize s.extract a k = X at F hX
   have IX := fun W => rn_ix s k hlt W
   have hget : s.data.toList[k]'(by rw [Num.rn_len]; exact hlt) = s[k] := rfl
   by_cases h58 : s[k] = 10
   ·
    have HI := Lib.hid (show (l ++ [X]).map (·.data.toList) ++ Ln.cut ((s.data.toList.take (k + 1)).drop (k + 1)) (s.data.toList.drop (k + 1)) = tot from by
     rw [List.map_append, ← hinv', Num.rn_drop s k hlt, Ln.cut, if_pos h58, List.append_assoc]
     have : (s.data.toList.take (k + 1)).drop (k + 1) = [] := List.drop_of_length_le (by rw [List.length_take]; omega)
     rw [this]
     show _ ++ ([X.data.toList] ++ _) = _
     rw [hX]; rfl)
    rw [h58] at IX
    have IX : ∀ W, Sem.run Tryz.prog (Instr.index 9 (.string s) (.int .i64 (k : Int))) W = .ok (.int .u8 10) W := IX
    clear hinv hinv' hX CT h58
    go_wp2_with (at_builtin; refine wpList_append_own _ rfl _ _ 46 rfl w.heap.size 9 i0 (.string ⟨#[]⟩) 1 16 Tryz.underlying46 hi hz0 hz1 hz2 rfl (by decide) _ _ _ rfl (hown.out.alloc _) ⟨wr.heap.size, 0, none⟩ 1 1 [.string X] rfl rfl (by intro j u hj; match j, hj with | 0, hj => (simp at hj; subst hj; simp [go_sem])) (by intro u hu; simp at hu; subst hu; rfl) (by unfold maxLen; omega) (by omega) (by have := hbw.out.size; simp; omega) ?_)
    intro v6 w6 own6 grow6 _
    have B6 := Lib.hid (show Below w.heap.size w w6 from ((hbw.out.alloc hbw.out.size _).trans (below_grown grow6 (by have := hbw.out.size; simp; omega) (own_row hown.out))))
    have O6 := Lib.hid (show w6.ownsRow w.heap.size 9 1 v6 (l ++ [X]).length ((l ++ [X]).map Value.string) from by rw [List.length_append, List.map_append]; exact own6)
    clear own6 grow6 hown hbw
    go_wp2_with fail
    go_roundw
    case rel => exact ⟨k + 1, k + 1, l ++ [X], by omega, Nat.le_refl _, by rw [List.length_append]; show l.length + 1 ≤ _; omega, by go_num, by go_num, O6, HI, B6⟩
    case measure => first | (simp [intOf]; done) | (simp [intOf]; omega)
   ·
    have HI := Lib.hid (show l.map (·.data.toList) ++ Ln.cut ((s.data.toList.take (k + 1)).drop a) (s.data.toList.drop (k + 1)) = tot from by
     rw [← hinv', Num.rn_drop s k hlt, Ln.cut, if_neg h58, Ln.cur_next _ a k ha (by rw [Num.rn_len]; exact hlt), hget])
    have g2 : ((s[k].toNat : Int) == 10) = false := by
     rw [beq_eq_false_iff_ne]
     intro h; exact h58 (UInt8.toNat_inj.1 (by rw [show (10 : UInt8).toNat = 10 from rfl]; omega))
    generalize (s[k].toNat : Int) = c at IX g2
    clear hinv hinv' hX CT h58 F
    go_wp2_with fail
    go_roundw
    case rel => exact ⟨k + 1, a, l, by omega, by omega, by omega, by go_num, rfl, hown, HI, hbw⟩
    case measure => first | (simp [intOf]; done) | (simp [intOf]; omega)
  ·
   obtain rfl : k = s.size := by omega
   have hinv' := hinv.out
   rw [List.drop_of_length_le (l := s.data.toList) (by rw [Num.rn_len]; omega), List.take_of_length_le (by rw [Num.rn_len]; omega)] at hinv'
   unfold Ln.cut at hinv'
   by_cases hat : a < s.size
   ·
    have F : ∀ W, Sem.run Tryz.prog (Instr.slice 9 (.string s) (some (.int .i64 (a : Int))) none none) W = .ok (.string (s.extract a s.size)) W := fun W => rn_cut s a ha W
    have hX := Ln.ext_l s a s.size
    rw [List.take_of_length_le (by rw [Num.rn_len]; omega)] at hX
    generalize s.extract a s.size = X at F hX
    have hne : ¬ s.data.toList.drop a = [] := by
     intro h
     have := congrArg List.length h
     rw [List.length_drop, Num.rn_len] at this
     simp at this; omega
    rw [if_neg hne] at hinv'
    have HI := Lib.hid (show (l ++ [X]).map (·.data.toList) = tot from by rw [List.map_append, ← hinv', ← hX]; rfl)
    clear hinv hinv' hX hne CT
    go_wp2_with (at_builtin; refine wpList_append_own _ rfl _ _ 46 rfl w.heap.size 9 i0 (.string ⟨#[]⟩) 1 16 Tryz.underlying46 hi hz0 hz1 hz2 rfl (by decide) _ _ _ rfl (hown.out.alloc _) ⟨wr.heap.size, 0, none⟩ 1 1 [.string X] rfl rfl (by intro j u hj; match j, hj with | 0, hj => (simp at hj; subst hj; simp [go_sem])) (by intro u hu; simp at hu; subst hu; rfl) (by unfold maxLen; omega) (by omega) (by have := hbw.out.size; simp; omega) ?_)
    intro v6 w6 own6 grow6 _
    have B6 := Lib.hid (show Below w.heap.size w w6 from ((hbw.out.alloc hbw.out.size _).trans (below_grown grow6 (by have := hbw.out.size; simp; omega) (own_row hown.out))))
    have O6 := Lib.hid (show w6.ownsRow w.heap.size 9 1 v6 (l ++ [X]).length ((l ++ [X]).map Value.string) from by rw [List.length_append, List.map_append]; exact own6)
    clear own6 grow6 hown hbw
    go_wp2_with fail
    go_ret
    exact ⟨_, l ++ [X], Lst.own O6.out, HI.out, rfl, B6.out⟩
   ·
    have he : s.data.toList.drop a = [] := List.drop_of_length_le (by rw [Num.rn_len]; omega)
    rw [if_pos he, List.append_nil] at hinv'
    have HI := Lib.hid hinv'
    clear hinv hinv' he CT
    go_wp2_with fail
    go_ret
    exact ⟨_, l, Lst.own hown.out, HI.out, rfl, hbw.out⟩
namespace Ln
def fst : List (List UInt8) → Nat → Int × Int
 | [], _ => (0, 0)
 | x :: r, k => if chk x = 0 then fst r (k + 1) else ((k : Int) + 1, chk x)
end Ln
theorem run_append_none_c {P : Program} {w : World} (base : Nat) (t ty e : TypeId) (i : TypeInfo) (size : Nat) (ht : P.underlying t = some (.slice e)) (hi : P.info? e = some i)
  (v : Value) (n c : Nat) (xs : List Value) (hown : w.ownsRow base e size v n xs) :
  (Builtin.append_ #[t, t] ty #[v, .slice none 0 c]).run P w = .ok v w := by
 rcases hown.2 with ⟨rfl, rfl⟩ | ⟨g, cap, cur, rfl, _, _, hnc, _⟩
 ·
  simp [Builtin.append_, run_underlying ht, sizeOf, typeInfo, hi, Builtin.lenOf, Builtin.firstCells]
 ·
  simp [Builtin.append_, run_underlying ht, sizeOf, typeInfo, hi, Builtin.lenOf, Builtin.firstCells, hnc, storeCells]
theorem wpList_append_lst {P : Program} {w : World} {ops : Array Oper} {rest : List Oper} {o : Oper} {a : Act} {Q : Exit → Act → World → Prop} (hgd : o.guard = none) (s x : Operand) (t : TypeId)
  (ho : o.op = .call { callee := .builtin .append, args := #[s, x], argTypes := #[t, t] })
  (base : Nat) (e : TypeId) (i : TypeInfo) (z : Value) (size bytes : Nat) (ht : P.underlying t = some (.slice e)) (hi : P.info? e = some i) (hz : i.zero = some z)
  (hsize : i.size = size) (hby : i.bytes = bytes) (hzs : z.cells.size = size) (hsz : 0 < size)
  (v : Value) (n : Nat) (xs : List Value) (hs : a.eval s = v) (hown : w.ownsRow base e size v n xs)
  (B m : Nat) (vx : Value) (news : List Value) (hx : a.eval x = vx) (hL : Lst w B vx m news) (hl : news.length = m * size) (h1 : ∀ u ∈ news, u.oneCell' = true)
  (h63 : n + m ≤ maxLen) (hbytes : (n + m) * bytes ≤ 140737488355328) (hbase : base ≤ w.heap.size)
  (h : ∀ v' w', w'.ownsRow base e size v' (n + m) (xs ++ news) → w.grownBy w' v.ownBlock → wpList P ops Q rest (a.put o.dst v') w') : wpList P ops Q (o :: rest) a w := by
 obtain ⟨A, c, rfl, hA⟩ := hL
 rcases Nat.eq_zero_or_pos m with h0 | h0
 ·
  subst h0
  have hn : news = [] := List.eq_nil_of_length_eq_zero (by rw [hl, Nat.zero_mul])
  subst hn
  cases A with
  | none =>
   refine wpList_plain hgd fun K hK => ?_
   have hrun := run_append_none_c (P := P) (w := w) base t o.type e i size ht hi v n c xs hown
   unfold Oper.wp
   simp [execOp, ho, resolve, invoke, builtin, hs, hx, hrun, Result.andThen]
   exact hK _ _ (h v w (by simpa using hown) ⟨rfl, rfl, rfl, Nat.le_refl _, fun _ _ _ => rfl⟩)
  | some ad => exact wpList_append_own _ hgd s x t ho base e i z size bytes ht hi hz hsize hby hzs hsz v n xs hs hown ad 0 c [] hx hl (fun j u hu => by simp at hu) h1 h63 hbytes hbase fun v' w' h2 h3 _ => h v' w' h2 h3
 ·
  obtain ⟨ad, rfl, _, hc⟩ := hA h0
  exact wpList_append_own _ hgd s x t ho base e i z size bytes ht hi hz hsize hby hzs hsz v n xs hs hown ad m c news hx hl hc h1 h63 hbytes hbase fun v' w' h2 h3 _ => h v' w' h2 h3
theorem spc_len (l : List (Int × Int)) : (spc l).length = l.length * 2 := by
 induction l with
 | nil => rfl
 | cons p l ih => unfold spc at *; rw [List.flatMap_cons, List.length_append, ih, List.length_cons]; simp; omega
theorem spc_one (l : List (Int × Int)) : ∀ u ∈ spc l, u.oneCell' = true := by
 intro u hu
 unfold spc at hu
 obtain ⟨p, _, hp⟩ := List.mem_flatMap.1 hu
 simp at hp
 rcases hp with rfl | rfl <;> rfl
theorem leap_info : (Tryz.prog.info? 39).map (fun i => (i.zero, i.size, i.bytes)) = some (some (.agg #[.int .i64 0, .int .i64 0]), 2, 16) := by kernel_rfl
theorem leap_parts {i0 : Option TypeInfo} {z : Value} {n b : Nat} (h : i0.map (fun i => (i.zero, i.size, i.bytes)) = some (some z, n, b)) : ∃ i, i0 = some i ∧ i.zero = some z ∧ i.size = n ∧ i.bytes = b := by
 cases i0 with
 | none => cases h
 | some i =>
  simp only [Option.map_some, Option.some.injEq, Prod.mk.injEq] at h
  exact ⟨i, rfl, h.1, h.2.1, h.2.2⟩
namespace Lp
theorem ln_bad (s : List UInt8) (h : (ln s).2 ≠ 0) : (ln s).1 = none := by
 rw [ln_f] at h ⊢
 split
 ·
  rfl
 ·
  rename_i h1
  rw [if_neg h1] at h
  split
  ·
   rfl
  ·
   rename_i h2
   rw [if_neg h2] at h
   generalize (Fd.of s).1 = f at h ⊢
   match f, h with
   | [], h => rfl
   | [a], h => rfl
   | [a, b], h =>
    unfold lnF at h ⊢
    dsimp only at h ⊢
    split
    ·
     rfl
    ·
     rename_i h3
     rw [if_neg h3] at h
     split
     ·
      rename_i h4
      rw [if_pos h4] at h; exact absurd rfl h
     ·
      rename_i h4
      rw [if_neg h4] at h
      split
      ·
       rename_i h5
       rw [if_pos h5] at h; exact absurd rfl h
      ·
       rfl
   | a :: b :: c :: r, h => rfl
theorem lns_drop (l : List (List UInt8)) (k : Nat) (out : List X) (h : k < l.length) : lns (l.drop k) k out = if (ln l[k]).2 ≠ 0 then ([], ((k : Nat) : Int) + 1, (ln l[k]).2) else lns (l.drop (k + 1)) (k + 1) (out ++ (ln l[k]).1.toList) := by
 rw [List.drop_eq_getElem_cons h]; rfl
theorem lns_len : ∀ (l : List (List UInt8)) (k : Nat) (out : List X), (lns l k out).1.length ≤ out.length + l.length
 | [], _, out => by show out.length ≤ out.length + 0; omega
 | s :: r, k, out => by
  unfold lns
  by_cases h1 : (ln s).2 ≠ 0
  ·
   rw [if_pos h1]; simp
  ·
   rw [if_neg h1]
   have := lns_len r (k + 1) (out ++ (ln s).1.toList)
   have h2 : (ln s).1.toList.length ≤ 1 := by cases (ln s).1 <;> simp
   rw [List.length_append] at this
   rw [List.length_cons]; omega
end Lp
set_option maxHeartbeats 1000000 in
theorem lread11_any (p : Nat) (s : ByteArray) (w : World) (hc : w.cell? ⟨p, 0, none⟩ = some (.string s)) (hs : s.size ≤ 2000000) :
  Calls Tryz.prog 35 #[.pointer (some ⟨p, 0, none⟩)] w (AnsJ (Lp.ln s.data.toList) w) := by
 have IL := Lib.hid (fun W => linline_any s W hs)
 generalize Lp.ln s.data.toList = R at IL ⊢
 go_enter Tryz.func35, Tryz.ntmps35
 go_wp2_with fail
 refine (IL.out _).mono ?_; rintro e w1 ⟨b1, ⟨h0, v, hv, rfl⟩ | ⟨h0, rfl⟩⟩
 ·
  have HV := Lib.hid hv
  have B1 := Lib.hid b1
  clear hv b1
  go_wp2_with fail
  go_ret
  exact ⟨B1.out, .inl ⟨h0, v, HV.out, rfl⟩⟩
 ·
  refine (show bodyPost _ _ _ (Exit.panic (gvP _)) _ _ from ?_)
  simp only [bodyPost]
  exact ⟨trivial, b1, .inr ⟨h0, by first | rfl | trivial⟩⟩
set_option maxRecDepth 100000 in
theorem lread11_callFn (qs : Array Value) (W : World) : Sem.run Tryz.prog (callFunc 35 qs) W = .ok (.enter 35 qs) W := rfl
set_option maxRecDepth 100000 in
theorem lread1_callFn (qs : Array Value) (W : World) : Sem.run Tryz.prog (callFunc 31 qs) W = .ok (.enter 31 qs) W := rfl
theorem lcaught_line (p : Nat) (s : ByteArray) (w : World) (hc : w.cell? ⟨p, 0, none⟩ = some (.string s)) (hs : s.size ≤ 2000000) :
  Calls Tryz.prog 34 #[.func (Fn.func 35) #[] #[.pointer (some ⟨p, 0, none⟩)]] w (AnsS ((Lp.ln s.data.toList).1.toList, (Lp.ln s.data.toList).2) w) := by
 have hp : p < w.heap.size := World.block_lt_of_cell? _ _ hc
 by_cases h : (Lp.ln s.data.toList).2 = 0
 ·
  rw [h]
  refine zcaught_yes _ _ (lread11_callFn _) _ w (Lib.hid fun W hW => ?_)
  refine (lread11_any p s W ((hW.cell (p := ⟨p, 0, none⟩) hp).trans hc) hs).mono ?_
  rintro e w' ⟨hb, ⟨-, v, hv, rfl⟩ | ⟨h0, -⟩⟩
  ·
   exact ⟨v, _, hv, rfl, rfl, hb⟩
  ·
   exact absurd h h0
 ·
  rw [Lp.ln_bad _ h]
  refine (zcaught_no _ _ (lread11_callFn _) 0 (Lp.ln s.data.toList).2 w (Lib.hid fun W hW => ?_)).mono ?_
  ·
   refine (lread11_any p s W ((hW.cell (p := ⟨p, 0, none⟩) hp).trans hc) hs).mono ?_
   rintro e w' ⟨hb, ⟨h0, -⟩ | ⟨-, rfl⟩⟩
   ·
    exact absurd h0 h
   ·
    exact ⟨rfl, hb⟩
  ·
   rintro e w' ⟨rfl, hb⟩
   exact ⟨_, [], ⟨none, 0, rfl, fun h => absurd h (by simp)⟩, rfl, rfl, hb⟩
def AnsK53 (R : List Lp.X × Int × Int) (w : World) (e : Ending) (w' : World) : Prop := Below w.heap.size w w' ∧ ((R.2.2 = 0 ∧ ∃ v, SpO w.heap.size w' v R.1 ∧ e = .returned v) ∨ (R.2.2 ≠ 0 ∧ e = .panicked (gvL R.2.1 R.2.2)))
set_option maxHeartbeats 8000000 in
set_option maxRecDepth 100000 in
theorem lread1_any (p : Nat) (s : ByteArray) (w : World) (hc : w.cell? ⟨p, 0, none⟩ = some (.string s)) (m : Int) (hm : w.cell? ⟨0, 0, none⟩ = some (.int .i64 m)) :
  Calls Tryz.prog 31 #[.pointer (some ⟨p, 0, none⟩)] w (AnsK53 (Lp.rd s.data.toList) w) := by
 obtain ⟨R, hR⟩ : ∃ R, R = Lp.rd s.data.toList := ⟨_, rfl⟩
 rw [← hR]
 unfold Lp.rd at hR
 rw [ab_len] at hR
 by_cases h : 1048576 < s.size
 ·
  rw [if_pos h] at hR
  subst hR
  have h1 : decide ((s.size : Int) ≤ 1048576) = false := decide_eq_false (by omega)
  clear h hm
  go_enter Tryz.func31, Tryz.ntmps31
  go_wp2_with fail
  try rw [h1]
  refine (need_no 9 _).mono ?_; rintro e u1 ⟨rfl, rfl⟩
  refine (show bodyPost _ _ _ (Exit.panic (gvP _)) _ _ from ?_)
  simp only [bodyPost]
  exact ⟨trivial, Below.refl _ _, .inr ⟨by decide, by first | rfl | trivial⟩⟩
 ·
  rw [if_neg h] at hR
  have h1 : decide ((s.size : Int) ≤ 1048576) = true := decide_eq_true (by omega)
  have hs : s.size ≤ 1048576 := by omega
  have LO := Lib.hid (fun W (hW : Below w.heap.size w W) => lof_any s W m (by omega) ((hW.cell (p := ⟨0, 0, none⟩) (World.block_lt_of_cell? _ _ hm)).trans hm))
  have HR := Lib.hid hR
  obtain ⟨i0, hi, hz0, hz1, hz2⟩ := leap_parts leap_info
  clear hR h hm
  go_enter Tryz.func31, Tryz.ntmps31
  go_wp2_with fail
  try rw [h1]
  refine (need_yes 9 _).mono ?_; rintro e u1 ⟨rfl, rfl⟩
  clear h1
  go_wp2_with fail
  refine (LO.out _ (Below.refl _ _)).mono ?_; rintro e w1 ⟨v, L, S, hL, rfl, b1⟩
  have B1 := Lib.hid b1
  have HS := Lib.hid S
  obtain ⟨A, c, rfl, -⟩ := S
  have hlen := Ln.cut_len [] s.data.toList
  rw [← hL, List.length_map, ab_len] at hlen
  have hsz := Lib.hid (show ∀ x ∈ L, x.size ≤ s.size from fun x hx => by
   have := Ln.cut_size [] s.data.toList x.data.toList (by rw [← hL]; exact List.mem_map_of_mem hx)
   rw [ab_len, ab_len] at this; simpa using this)
  obtain ⟨T, hT⟩ : ∃ T, T = Lp.lns (L.map (·.data.toList)) 0 [] := ⟨_, rfl⟩
  have HT := Lib.hid hT.symm
  have HR2 : Hid (R = if T.2.2 ≠ 0 then ([], T.2) else if Lp.right T.1 = true then (T.1, 0, 0) else ([], 0, 4)) := Lib.hid (by rw [HR.out, hT, hL])
  have TL : T.1.length ≤ 1048577 := by
   have h2 := Lp.lns_len (L.map (·.data.toList)) 0 []
   rw [← hT, List.length_map] at h2
   simp at h2
   omega
  have HTL := Lib.hid TL
  obtain ⟨N, hN⟩ : ∃ N, N = L.length := ⟨_, rfl⟩
  have HN := Lib.hid hN
  have HS : Hid (StS w1 (.slice A N c) L) := by rw [hN]; exact HS
  rw [← hN] at hlen ⊢
  have O1 : w1.ownsRow w1.heap.size 39 2 (.slice none 0 0) 0 (spc []) := World.ownsRow_nil _ _ _ _
  have O1 := Lib.hid O1
  have HI := Lib.hid hi
  clear b1 hL hN hT TL HR LO hi
  go_wp2_with fail
  go_loopw [2, 14] (fun lv i wr => ∃ (k : Nat) (out : List Lp.X), k ≤ N ∧ out.length ≤ k ∧ i = .int .i64 k ∧ Hid (Lp.lns ((L.map (·.data.toList)).drop k) k out = T) ∧ Hid (wr.ownsRow w1.heap.size 39 2 lv out.length (spc out)) ∧ Hid (Below w1.heap.size w1 wr)) (fun _ i _ => N - (intOf i).toNat)
  case atStart => exact ⟨0, [], Nat.zero_le _, Nat.le_refl _, rfl, HT, O1, Lib.hid (Below.refl _ _)⟩
  case round =>
   obtain ⟨k, out, hk, hol, rfl, hinv, hown, hB⟩ := hrel
   by_cases hlt : k < N
   ·
    have hkl : k < L.length := by have := HN.out; omega
    obtain ⟨a, rfl, g0⟩ := (HS.out.on hB.out).get k hkl
    have hsx := hsz.out L[k] (List.getElem_mem hkl)
    have hd := hinv.out
    rw [Lp.lns_drop _ k out (by rw [List.length_map]; exact hkl), List.getElem_map] at hd
    have HD := Lib.hid hd
    generalize L[k] = x at g0 hsx HD
    have i1 : (k : Int) < N := by omega
    clear hd hinv
    go_upto_region 6 with (fail)
    refine wp_named ?_; intro w2 hw2
    have d2 : Below wr.heap.size wr w2 := by rw [hw2]; exact gr0
    have C2 : w2.cell? ⟨wr.heap.size, 0, none⟩ = some (.string x) := by rw [hw2]; simp [go_sem]
    have CC := Lib.hid (lcaught_line wr.heap.size x w2 C2 (by omega))
    have B2 := Lib.hid (below_step hB.out d2)
    have O2 := Lib.hid (own_on hown.out d2)
    clear hw2 d2 C2 g0 hB hown
    generalize wr.heap.size = pb at *
    generalize Lp.ln x.data.toList = Z at CC HD
    obtain ⟨z, y⟩ := Z
    go_wp2_with fail
    refine CC.out.mono ?_; rintro e w3 ⟨v3, l3, sv3, rfl, rfl, b3⟩
    have B3 := Lib.hid (below_step B2.out b3)
    have O3 := Lib.hid (own_on O2.out b3)
    have S3 := Lib.hid sv3
    clear b3 B2 O2 CC sv3
    dsimp only at HD S3 ⊢
    by_cases hy : y = 0
    case neg =>
     have ey : (y == 0) = false := by rw [beq_eq_false_iff_ne]; exact hy
     have hTy : T = ([], (k : Int) + 1, y) := by rw [← HD.out, if_pos hy]
     have EX := Lib.hid (show R = ([], (k : Int) + 1, y) by rw [HR2.out, hTy, if_pos hy])
     clear hTy HR2 HD
     go_wp2_with fail
     refine (needat_no _ y _).mono ?_; rintro e u1 ⟨rfl, rfl⟩
     simp +zetaDelta only [Exit.then, Exit.inBlock, bodyPost]
     exact ⟨trivial, below_step B1.out B3.out, .inr ⟨by rw [EX.out]; exact hy, by first | (rw [EX.out]; done) | (rw [EX.out]; rfl) | (rw [EX.out]; trivial)⟩⟩
    subst hy
    have HD2 := Lib.hid (show Lp.lns ((L.map (·.data.toList)).drop (k + 1)) (k + 1) (out ++ z.toList) = T by rw [← HD.out, if_neg (by simp)])
    have hzl : z.toList.length ≤ 1 := by cases z <;> simp
    clear HD
    generalize z.toList = zl at *
    have hi := HI.out
    have hn1 : out.length + zl.length ≤ 1048578 := by omega
    go_wp2_with fail
    refine (needat_yes _ 0 _).mono ?_; rintro e u1 ⟨rfl, rfl⟩
    go_wp2_with (at_builtin; refine wpList_append_lst rfl _ _ 22 rfl w1.heap.size 39 i0 (.agg #[.int .i64 0, .int .i64 0]) 2 16 Tryz.underlying22 hi hz0 hz1 hz2 rfl (by decide) _ out.length _ rfl O3.out _ zl.length _ (spc zl) rfl S3.out (spc_len _) (spc_one _) (by unfold maxLen; omega) (by omega) B3.out.size ?_)
    intro v4 w4 hown4 hg4
    have B4 := Lib.hid (show Below w1.heap.size w1 w4 from B3.out.trans (below_grown hg4 B3.out.size (own_row O3.out)))
    have O4 := Lib.hid (show w4.ownsRow w1.heap.size 39 2 v4 (out ++ zl).length (spc (out ++ zl)) by rw [List.length_append, spc_app]; exact hown4)
    clear hown4 hg4 hi
    go_wp2_with fail
    go_roundw
    case rel => exact ⟨k + 1, out ++ zl, by omega, by rw [List.length_append]; omega, by go_num, HD2, O4, B4⟩
    case measure => simp [intOf]; omega
   ·
    have ET : T = (out, 0, 0) := by rw [← hinv.out, List.drop_of_length_le (by rw [List.length_map]; have := HN.out; omega)]; rfl
    have i2 : ¬ (k : Int) < N := by omega
    have hR := HR2.out
    rw [ET, if_neg (by simp)] at hR
    replace hR : R = if Lp.right out = true then (out, 0, 0) else ([], 0, 4) := hR
    have tl := HTL.out
    rw [ET] at tl
    have tl2 : out.length ≤ 100000000 := by dsimp only at tl; omega
    have CR := Lib.hid (fun (v : Value) (W : World) (S : SpV W v out) => leright_big v out W S tl2)
    have HRR := Lib.hid hR
    clear hR tl tl2 HR2 HTL HT ET hinv
    by_cases hr : Lp.right out = true
    ·
     have EX := Lib.hid (show R = (out, 0, 0) by rw [HRR.out, if_pos hr])
     rw [hr] at CR
     clear hr
     go_wp2_with fail
     refine (CR.out _ _ (SpV.own hown.out)).mono ?_; rintro e w2 ⟨rfl, b2⟩
     have B2 := Lib.hid (below_step hB.out b2)
     have O2 := Lib.hid (own_on hown.out b2)
     clear b2
     go_wp2_with fail
     refine (need_yes 4 _).mono ?_; rintro e u1 ⟨rfl, rfl⟩
     go_wp2_with fail
     go_ret
     exact ⟨below_step B1.out B2.out, .inl ⟨by rw [EX.out], _, by rw [EX.out]; exact SpO.own O2.out B1.out.size, rfl⟩⟩
    ·
     have EX := Lib.hid (show R = ([], 0, 4) by rw [HRR.out, if_neg hr])
     have hr : Lp.right out = false := by simpa using hr
     rw [hr] at CR
     clear hr
     go_wp2_with fail
     refine (CR.out _ _ (SpV.own hown.out)).mono ?_; rintro e w2 ⟨rfl, b2⟩
     have B2 := Lib.hid (below_step hB.out b2)
     clear b2
     go_wp2_with fail
     refine (need_no 4 _).mono ?_; rintro e u1 ⟨rfl, rfl⟩
     refine (show bodyPost _ _ _ (Exit.panic (gvP _)) _ _ from ?_)
     simp only [bodyPost]
     exact ⟨trivial, below_step B1.out B2.out, .inr ⟨by rw [EX.out]; decide, by first | (rw [EX.out]; done) | (rw [EX.out]; rfl) | (rw [EX.out]; trivial)⟩⟩
theorem Lp.rd_bad (s : List UInt8) : ((Lp.rd s).2.2 ≠ 0 → (Lp.rd s).1 = []) ∧ ((Lp.rd s).2.2 = 0 → (Lp.rd s).2.1 = 0) := by
 unfold Lp.rd
 split
 ·
  exact ⟨fun _ => rfl, fun h => absurd h (by decide)⟩
 ·
  split
  ·
   rename_i h; exact ⟨fun _ => rfl, fun h2 => absurd h2 h⟩
  ·
   split
   ·
    exact ⟨fun h => absurd rfl h, fun _ => rfl⟩
   ·
    exact ⟨fun _ => rfl, fun h => absurd h (by decide)⟩
theorem lcaught_all (p : Nat) (s : ByteArray) (w : World) (hc : w.cell? ⟨p, 0, none⟩ = some (.string s)) (m : Int) (hm : w.cell? ⟨0, 0, none⟩ = some (.int .i64 m)) :
  Calls Tryz.prog 30 #[.func (Fn.func 31) #[] #[.pointer (some ⟨p, 0, none⟩)]] w fun e w' => ∃ v, SpO w.heap.size w' v (Lp.rd s.data.toList).1 ∧ e = .returned (.tuple #[v, .agg #[.int .i64 (Lp.rd s.data.toList).2.1, .int .i64 (Lp.rd s.data.toList).2.2]]) ∧ Below w.heap.size w w' := by
 have hp : p < w.heap.size := World.block_lt_of_cell? _ _ hc
 have hq := World.block_lt_of_cell? _ _ hm
 obtain ⟨bad, good⟩ := Lp.rd_bad s.data.toList
 have CL := fun (W : World) (hW : Below w.heap.size w W) => lread1_any p s W ((hW.cell (p := ⟨p, 0, none⟩) hp).trans hc) m ((hW.cell (p := ⟨0, 0, none⟩) hq).trans hm)
 generalize Lp.rd s.data.toList = R at *
 obtain ⟨l, line, why⟩ := R
 dsimp only at bad good ⊢
 by_cases h : why = 0
 ·
  rw [h, good h]
  refine (zcaughtat_yes _ _ (lread1_callFn _) l w (Lib.hid fun W hW => ?_)).mono ?_
  ·
   refine (CL W hW).mono ?_
   rintro e w' ⟨hb, ⟨-, v, hv, rfl⟩ | ⟨h0, -⟩⟩
   ·
    exact ⟨v, _, hv, rfl, rfl, hb⟩
   ·
    exact absurd h h0
  ·
   rintro e w' ⟨v, l', hv, rfl, rfl, hb⟩
   exact ⟨v, hv, rfl, hb⟩
 ·
  rw [bad h]
  refine (zcaughtat_no _ _ (lread1_callFn _) line why w (Lib.hid fun W hW => ?_)).mono ?_
  ·
   refine (CL W hW).mono ?_
   rintro e w' ⟨hb, ⟨h0, -⟩ | ⟨-, rfl⟩⟩
   ·
    exact absurd h0 h
   ·
    exact ⟨rfl, hb⟩
  ·
   rintro e w' ⟨rfl, hb⟩
   exact ⟨_, ⟨none, 0, rfl, fun h => absurd h (by simp)⟩, rfl, hb⟩
set_option maxHeartbeats 4000000 in
set_option maxRecDepth 100000 in
theorem leRead_any (s : ByteArray) (w : World) (m : Int) (hm : w.cell? ⟨0, 0, none⟩ = some (.int .i64 m)) :
  Calls Tryz.prog 12 #[.string s] w fun e w' => ∃ v, SpO w.heap.size w' v (Lp.rd s.data.toList).1 ∧ e = .returned (.tuple #[v, .agg #[.int .i64 (Lp.rd s.data.toList).2.1, .int .i64 (Lp.rd s.data.toList).2.2]]) ∧ Below w.heap.size w w' := by
 have CA := Lib.hid (fun p W (hc : W.cell? ⟨p, 0, none⟩ = some (.string s)) hm => lcaught_all p s W hc m hm)
 have HM := Lib.hid (fun W (hW : Below w.heap.size w W) => (hW.cell (p := ⟨0, 0, none⟩) (World.block_lt_of_cell? _ _ hm)).trans hm)
 generalize Lp.rd s.data.toList = R at *
 obtain ⟨l, line, why⟩ := R
 dsimp only at CA ⊢
 clear hm
 go_enter Tryz.func12, Tryz.ntmps12
 go_wp2_with fail
 have b0 : Below w.heap.size w ((w.alloc (.cells #[.string s] 9)).alloc (.cells #[.int .i64 0, .int .i64 0] 32)) := ((Below.refl _ _).alloc (Nat.le_refl _) _).alloc (by simp) _
 refine (CA.out w.heap.size _ (by simp [go_sem]) (HM.out _ b0)).mono ?_; rintro e w1 ⟨v, hv, rfl, b1⟩
 have hz : w.heap.size + 1 + 1 ≤ w1.heap.size := by have := b1.size; simp at this; omega
 have B1 := Lib.hid (below_step b0 b1)
 have S1 := Lib.hid (show SpO (w.heap.size + 1 + 1) w1 v l from SpO.mono hv (by simp))
 have Q1 : Bk2 w1 (w.heap.size + 1) (.int .i64 0) (.int .i64 0) := Bk2.of b1 (by simp) (by intro j; simp [go_sem]) (by simp [go_sem]) (by simp [go_sem])
 have c_b := Q1.hb; have c_f := Q1.fz; have c_0 := Q1.k0; have c_1 := Q1.k1
 clear b1 Q1 b0 hv
 go_wp2_with fail
 refine bodyPost_ret (v := .tuple #[v, .agg #[.int .i64 line, .int .i64 why]]) (by simp [results, Tryz.results12, go_sem, c_b, c_f, c_0, c_1]) rfl ?_
 refine ⟨v, SpO.mono (SpO.turn (SpO.turn S1.out (Nat.le_of_eq (set_size ..).symm) (fun i h1 h2 => set_block _ _ _ _ ?_)) (Nat.le_of_eq (set_size ..).symm) (fun i h1 h2 => set_block _ _ _ _ ?_)) (by omega), rfl, ?_⟩
 ·
  show w.heap.size + 1 ≠ i; omega
 ·
  show w.heap.size + 1 ≠ i; omega
 ·
  repeat (refine Below.setCell ?_ (by first | omega | (simp; done) | (simp; omega)) _)
  exact B1.out
end Go.Proofs.YtifgiclnofdnkaaGreatDoor
