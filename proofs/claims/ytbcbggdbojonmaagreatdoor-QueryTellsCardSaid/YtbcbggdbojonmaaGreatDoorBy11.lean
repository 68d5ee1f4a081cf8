/- Joined: QyA, QyC, Pair, PairW, PairF. -/
import Derived.Test.YtbcbggdbojonmaaGreatDoorBy01
import Derived.Test.YtbcbggdbojonmaaGreatDoorBy10
import Derived.RegionTactic
import Derived.Deep.Draws
import Derived.Below
set_option linter.unusedVariables false
set_option linter.unusedSimpArgs false
namespace Go.Proofs.YtbcbggdbojonmaaGreatDoor
open Go.RowKit Go.Sort
theorem qyear_any (n : Int) (w : World) : Calls Tryz.prog 49 #[.int .i64 n] w fun e w' => e = .returned (.bool (decide (Qy.yr n))) ∧ w = w' := by
  by_cases h1 : -32767 ≤ n
  · by_cases h2 : n ≤ 32767
    · rw [decide_eq_true (show Qy.yr n from ⟨h1, h2⟩)]
      go_enter Tryz.func49, Tryz.ntmps49
      go_wp2_with fail
      go_ret
      exact ⟨rfl, rfl⟩
    · rw [decide_eq_false (show ¬ Qy.yr n from fun h => h2 h.2)]
      go_enter Tryz.func49, Tryz.ntmps49
      go_wp2_with fail
      go_ret
      exact ⟨rfl, rfl⟩
  · rw [decide_eq_false (show ¬ Qy.yr n from fun h => h1 h.1)]
    go_enter Tryz.func49, Tryz.ntmps49
    go_wp2_with fail
    go_ret
    exact ⟨rfl, rfl⟩
theorem rqyear_any (n : Int) (w : World) : Calls Tryz.prog 31 #[.int .i64 n] w fun e w' => e = .returned (.bool (decide (Qy.yr n))) ∧ w = w' := by
  by_cases h1 : -32767 ≤ n
  · by_cases h2 : n ≤ 32767
    · rw [decide_eq_true (show Qy.yr n from ⟨h1, h2⟩)]
      go_enter Tryz.func31, Tryz.ntmps31
      go_wp2_with fail
      go_ret
      exact ⟨rfl, rfl⟩
    · rw [decide_eq_false (show ¬ Qy.yr n from fun h => h2 h.2)]
      go_enter Tryz.func31, Tryz.ntmps31
      go_wp2_with fail
      go_ret
      exact ⟨rfl, rfl⟩
  · rw [decide_eq_false (show ¬ Qy.yr n from fun h => h1 h.1)]
    go_enter Tryz.func31, Tryz.ntmps31
    go_wp2_with fail
    go_ret
    exact ⟨rfl, rfl⟩
theorem qy_read (s : ByteArray) (w : World) (hs : s.size ≤ 100000000) (tp : TypeId) (p : Value) (hvar : w.var? Tryz.prog "strconv.ErrRange" = some #[.iface tp p]) :
    Calls Tryz.prog 79 #[.string s] w fun e w' => e = .returned (.tuple #[.int .i64 (Num.rd s.data.toList).1, .int .i64 (Num.rd s.data.toList).2]) ∧ Below w.heap.size w w' := by
  have hml : s.size ≤ maxLen := by unfold maxLen; omega
  unfold Num.rd
  cases ht : Num.isT s.data.toList
  · exact read_no s w hml ht
  · rcases Num.isT_read ht with h | ⟨x, h, -⟩
    · rw [h]; exact read_range s w hml ht h (by omega) tp p hvar
    · rw [h]; exact read_ok s x w hml ht h (by omega)
def AnsN (p : Int × Int) (w : World) (e : Ending) (w' : World) : Prop := Below w.heap.size w w' ∧ ((p.2 = 0 ∧ e = .returned (.int .i64 p.1)) ∨ (p.2 ≠ 0 ∧ e = .panicked (gvP p.2)))
theorem must64_ans (v why : Int) (w : World) : Calls Tryz.prog 78 #[.int .i64 v, .int .i64 why] w (AnsN (v, why) w) := by
  by_cases h : why = 0
  · subst h; exact (must_yes v w).mono (by rintro e w' ⟨rfl, rfl⟩; exact ⟨Below.refl _ _, .inl ⟨rfl, rfl⟩⟩)
  · exact (must_no v why w h).mono (by rintro e w' ⟨rfl, rfl⟩; exact ⟨Below.refl _ _, .inr ⟨h, rfl⟩⟩)
theorem muststamp_yes (a b c d f g : Int) (w : World) : Calls Tryz.prog 99 #[.agg #[.int .i64 a, .int .i64 b, .int .i64 c, .int .i64 d, .int .i64 f, .int .i64 g], .int .i64 0] w fun e w' => e = .returned (.agg #[.int .i64 a, .int .i64 b, .int .i64 c, .int .i64 d, .int .i64 f, .int .i64 g]) ∧ Below w.heap.size w w' := by
  go_enter Tryz.func99, Tryz.ntmps99
  go_wp2_with fail
  refine (for_yes _).mono ?_; rintro e w1 ⟨rfl, rfl⟩
  go_wp2_with fail
  refine bodyPost_ret (v := .agg #[.int .i64 a, .int .i64 b, .int .i64 c, .int .i64 d, .int .i64 f, .int .i64 g]) (by simp [results, Tryz.results99, go_sem]) rfl ⟨rfl, gr0⟩
theorem muststamp_no (a b c d f g why : Int) (w : World) (h : why ≠ 0) : Calls Tryz.prog 99 #[.agg #[.int .i64 a, .int .i64 b, .int .i64 c, .int .i64 d, .int .i64 f, .int .i64 g], .int .i64 why] w fun e w' => e = .panicked (gvP why) ∧ Below w.heap.size w w' := by
  go_enter Tryz.func99, Tryz.ntmps99
  go_wp2_with fail
  refine (for_no why _ h).mono ?_; rintro e w1 ⟨rfl, rfl⟩
  refine (show bodyPost _ _ _ (Exit.panic (gvP why)) _ _ from ?_)
  simp only [bodyPost]
  refine ⟨trivial, trivial, ?_⟩
  exact gr0
set_option maxHeartbeats 2000000 in
set_option maxRecDepth 100000 in
theorem qsecond_any (s : ByteArray) (w : World) (hs : s.size ≤ 1000) (tp : TypeId) (pp : Value) (hvar : w.var? Tryz.prog "strconv.ErrRange" = some #[.iface tp pp]) :
    Calls Tryz.prog 77 #[.string s] w (AnsN (Qy.sc s.data.toList) w) := by
  have RN := Lib.hid (fun W V => qy_read s W (by omega) tp pp V)
  have HV := Lib.hid hvar
  clear hvar
  have hz : s.data.toList.length = s.size := Array.length_toList
  by_cases h9 : s.size < 9
  · have ht : Qy.isT s.data.toList = false := by unfold Qy.isT; rw [hz, decide_eq_false (by omega), Bool.false_and]
    unfold Qy.sc
    rw [ht]
    simp only [Bool.false_eq_true, if_false]
    generalize Num.rd s.data.toList = p at RN ⊢
    obtain ⟨n, y⟩ := p
    have MU := Lib.hid (fun W => must64_ans n y W)
    have g : decide ((s.size : Int) - 8 - 1 < 0) = true := decide_eq_true (by omega)
    clear ht hz
    go_enter Tryz.func77, Tryz.ntmps77
    go_wp2_with fail
    refine (RN.out _ HV.out).mono ?_; rintro e w1 ⟨rfl, b1⟩
    go_wp2_with fail
    refine (MU.out _).mono ?_; rintro e w2 ⟨b2, ⟨h0, rfl⟩ | ⟨h0, rfl⟩⟩
    · have B2 := Lib.hid (below_step b1 b2)
      go_wp2_with fail
      go_ret
      exact ⟨B2.out, .inl ⟨h0, rfl⟩⟩
    · have B2 := Lib.hid (below_step b1 b2)
      refine (show bodyPost _ _ _ (Exit.panic (gvP y)) _ _ from ?_)
      simp only [bodyPost]
      exact ⟨trivial, B2.out, .inr ⟨h0, by first | rfl | trivial⟩⟩
  · have hi : s.size - 9 < s.size := by omega
    have IX := fun W => fd_ix s (s.size - 9) hi W
    have ht : Qy.isT s.data.toList = decide (s[s.size - 9] = 84) := by
      unfold Qy.isT
      rw [hz, decide_eq_true (by omega), Bool.true_and]
      congr 1
      rw [List.getD_eq_getElem?_getD, List.getElem?_eq_getElem (by rw [hz]; exact hi), Option.getD_some]
      rfl
    have e9 : ((s.size - 9 : Nat) : Int) = (s.size : Int) - 8 - 1 := by omega
    have IX : ∀ W, Sem.run Tryz.prog (Instr.index 9 (.string s) (.int .i64 ((s.size : Int) - 8 - 1))) W = .ok (.int .u8 s[s.size - 9].toNat) W := by rw [← e9]; exact IX
    generalize s[s.size - 9] = c at IX ht
    have g : decide ((s.size : Int) - 8 - 1 < 0) = false := decide_eq_false (by omega)
    by_cases hc : c = 84
    · subst hc
      have ht : Qy.isT s.data.toList = true := by rw [ht]; rfl
      have SR := Lib.hid (fun W => sread_rv s W hs)
      unfold Rd.rv at SR
      unfold Qy.sc
      rw [if_pos ht]
      unfold Qy.rs
      have IX : ∀ W, Sem.run Tryz.prog (Instr.index 9 (.string s) (.int .i64 ((s.size : Int) - 8 - 1))) W = .ok (.int .u8 84) W := IX
      clear RN ht hz e9
      by_cases hf : Rd.form s.data.toList = true
      · rw [if_pos hf]
        simp only [hf, if_true] at SR
        by_cases ho : Rd.ok s.data.toList = true
        · rw [if_pos ho]
          simp only [ho, if_true] at SR
          have hr : St.rB (Rd.yv (Rd.hd s.data.toList)) (Rd.pV (Rd.tl s.data.toList) 0) (Rd.pV (Rd.tl s.data.toList) 1) (Rd.pV (Rd.tl s.data.toList) 2) (Rd.pV (Rd.tl s.data.toList) 3) (Rd.pV (Rd.tl s.data.toList) 4) = true := by
            unfold Rd.ok at ho
            rw [Bool.and_eq_true, Bool.and_eq_true] at ho
            exact ho.2.2
          have SS := Lib.hid (fun W => ssecs_yes _ _ _ _ _ _ W hr)
          clear hr ho hf
          generalize St.sec (Rd.yv (Rd.hd s.data.toList)) (Rd.pV (Rd.tl s.data.toList) 0) (Rd.pV (Rd.tl s.data.toList) 1) (Rd.pV (Rd.tl s.data.toList) 2) (Rd.pV (Rd.tl s.data.toList) 3) (Rd.pV (Rd.tl s.data.toList) 4) = n at *
          generalize Rd.yv (Rd.hd s.data.toList) = v0 at *
          generalize Rd.pV (Rd.tl s.data.toList) 0 = v1 at *
          generalize Rd.pV (Rd.tl s.data.toList) 1 = v2 at *
          generalize Rd.pV (Rd.tl s.data.toList) 2 = v3 at *
          generalize Rd.pV (Rd.tl s.data.toList) 3 = v4 at *
          generalize Rd.pV (Rd.tl s.data.toList) 4 = v5 at *
          go_enter Tryz.func77, Tryz.ntmps77
          go_wp2_with fail
          refine (SR.out _).mono ?_; rintro e w1 ⟨rfl, b1⟩
          have B1 := Lib.hid b1
          clear b1
          go_wp2_with fail
          refine (muststamp_yes _ _ _ _ _ _ _).mono ?_; rintro e w2 ⟨rfl, b2⟩
          have B2 := Lib.hid (below_step B1.out b2)
          clear b2
          go_wp2_with fail
          refine (SS.out _).mono ?_; rintro e w3 ⟨rfl, b3⟩
          have B3 := Lib.hid (below_step B2.out b3)
          clear b3
          go_wp2_with fail
          refine (must_yes _ _).mono ?_; rintro e w4 ⟨rfl, rfl⟩
          go_wp2_with fail
          go_ret
          exact ⟨B3.out, .inl ⟨rfl, rfl⟩⟩
        · rw [if_neg ho]
          simp only [ho, if_false, Bool.false_eq_true] at SR
          go_enter Tryz.func77, Tryz.ntmps77
          go_wp2_with fail
          refine (SR.out _).mono ?_; rintro e w1 ⟨rfl, b1⟩
          have B1 := Lib.hid b1
          clear b1
          go_wp2_with fail
          refine (muststamp_no _ _ _ _ _ _ 1 _ (by decide)).mono ?_; rintro e w2 ⟨rfl, b2⟩
          have B2 := Lib.hid (below_step B1.out b2)
          refine (show bodyPost _ _ _ (Exit.panic (gvP 1)) _ _ from ?_)
          simp only [bodyPost]
          exact ⟨trivial, B2.out, .inr ⟨by decide, by first | rfl | trivial⟩⟩
      · rw [if_neg hf]
        simp only [hf, if_false, Bool.false_eq_true] at SR
        go_enter Tryz.func77, Tryz.ntmps77
        go_wp2_with fail
        refine (SR.out _).mono ?_; rintro e w1 ⟨rfl, b1⟩
        have B1 := Lib.hid b1
        clear b1
        go_wp2_with fail
        refine (muststamp_no _ _ _ _ _ _ 4 _ (by decide)).mono ?_; rintro e w2 ⟨rfl, b2⟩
        have B2 := Lib.hid (below_step B1.out b2)
        refine (show bodyPost _ _ _ (Exit.panic (gvP 4)) _ _ from ?_)
        simp only [bodyPost]
        exact ⟨trivial, B2.out, .inr ⟨by decide, by first | rfl | trivial⟩⟩
    · have ht : Qy.isT s.data.toList = false := by rw [ht]; exact decide_eq_false hc
      unfold Qy.sc
      rw [ht]
      simp only [Bool.false_eq_true, if_false]
      have gc : ((c.toNat : Int) == 84) = false := by
        rw [beq_eq_false_iff_ne]
        intro h
        exact hc (UInt8.toNat_inj.1 (by have : c.toNat = 84 := by omega
                                        rw [this]; rfl))
      generalize (c.toNat : Int) = C at IX gc
      generalize Num.rd s.data.toList = p at RN ⊢
      obtain ⟨n, y⟩ := p
      have MU := Lib.hid (fun W => must64_ans n y W)
      clear ht hz hc e9
      go_enter Tryz.func77, Tryz.ntmps77
      go_wp2_with fail
      refine (RN.out _ HV.out).mono ?_; rintro e w1 ⟨rfl, b1⟩
      go_wp2_with fail
      refine (MU.out _).mono ?_; rintro e w2 ⟨b2, ⟨h0, rfl⟩ | ⟨h0, rfl⟩⟩
      · have B2 := Lib.hid (below_step b1 b2)
        go_wp2_with fail
        go_ret
        exact ⟨B2.out, .inl ⟨h0, rfl⟩⟩
      · have B2 := Lib.hid (below_step b1 b2)
        refine (show bodyPost _ _ _ (Exit.panic (gvP y)) _ _ from ?_)
        simp only [bodyPost]
        exact ⟨trivial, B2.out, .inr ⟨h0, by first | rfl | trivial⟩⟩
theorem musti_ans (v why : Int) (w : World) : Calls Tryz.prog 74 #[.int .i64 v, .int .i64 why] w (AnsN (v, why) w) := by
 by_cases h : why = 0
 ·
  subst h
  go_enter Tryz.func74, Tryz.ntmps74
  go_wp2_with fail
  refine (for_yes _).mono ?_; rintro e w1 ⟨rfl, rfl⟩
  go_wp2_with fail
  go_ret
  exact ⟨Below.refl _ _, .inl ⟨rfl, rfl⟩⟩
 ·
  go_enter Tryz.func74, Tryz.ntmps74
  go_wp2_with fail
  refine (for_no why _ h).mono ?_; rintro e w1 ⟨rfl, rfl⟩
  refine (show bodyPost _ _ _ (Exit.panic (gvP why)) _ _ from ?_)
  simp only [bodyPost]
  exact ⟨trivial, Below.refl _ _, .inr ⟨h, by first | rfl | trivial⟩⟩
set_option maxHeartbeats 1000000 in
theorem qmeant_any (s : ByteArray) (v : Value) (l : List ByteArray) (w : World) (hv : StS w v l) (hs : s.size ≤ 1000) (hz : ∀ x ∈ l, x.size ≤ 1000) (hm : l.length ≤ 1000) :
  Calls Tryz.prog 45 #[.string s, v] w (AnsN ((Wd.mat s.data.toList l).1 + 1, (Wd.mat s.data.toList l).2) w) := by
 have MA := Lib.hid (match_any s v l w hv (by unfold maxLen; omega) (fun x hx => by have := hz x hx; unfold maxLen; omega) (by unfold maxLen; omega))
 have bd := Wd.mat_bd s.data.toList l
 generalize Wd.mat s.data.toList l = p at MA bd ⊢
 obtain ⟨n, y⟩ := p
 dsimp only at MA bd ⊢
 obtain ⟨n0, n1, -⟩ := bd
 have n2 : n ≤ 1000 := by omega
 have MU := Lib.hid (fun W => musti_ans n y W)
 clear n1 hz hm hs hv
 go_enter Tryz.func45, Tryz.ntmps45
 go_wp2_with fail
 refine MA.out.mono ?_; rintro e w1 ⟨rfl, kk, rfl⟩
 go_wp2_with fail
 refine (MU.out _).mono ?_; rintro e w2 ⟨b2, ⟨h0, rfl⟩ | ⟨h0, rfl⟩⟩
 ·
  have B2 := Lib.hid (below_step (below_draw w kk) b2)
  clear b2
  go_wp2_with fail
  go_ret
  exact ⟨B2.out, .inl ⟨h0, by show Ending.returned (Value.int .i64 (1 + n)) = Ending.returned (Value.int .i64 (n + 1)); rw [Int.add_comm]⟩⟩
 ·
  have B2 := Lib.hid (below_step (below_draw w kk) b2)
  refine (show bodyPost _ _ _ (Exit.panic (gvP y)) _ _ from ?_)
  simp only [bodyPost]
  exact ⟨trivial, B2.out, .inr ⟨h0, by first | rfl | trivial⟩⟩
set_option maxHeartbeats 1000000 in
theorem qword_any (v : Value) (l : List ByteArray) (n : Int) (w : World) (hv : StS w v l) (hm : l.length ≤ 1000) :
  Calls Tryz.prog 59 #[v, .int .i64 n] w fun e w' => e = .returned (.string ⟨(Qy.word l n).toArray⟩) ∧ w = w' := by
 have T := hv
 obtain ⟨A, c, rfl, -⟩ := T
 by_cases h1 : n < 1
 ·
  have e : Qy.word l n = [] := if_neg (by omega)
  rw [e]
  go_enter Tryz.func59, Tryz.ntmps59
  go_wp2_with fail
  go_ret
  exact ⟨rfl, rfl⟩
 ·
  by_cases h2 : (l.length : Int) < n
  ·
   have e : Qy.word l n = [] := if_neg (by omega)
   rw [e]
   go_enter Tryz.func59, Tryz.ntmps59
   go_wp2_with fail
   go_ret
   exact ⟨rfl, rfl⟩
  ·
   obtain ⟨j, rfl⟩ : ∃ j : Nat, n = (j : Int) + 1 := ⟨(n - 1).toNat, by omega⟩
   have hj : j < l.length := by omega
   obtain ⟨q, rfl, g⟩ := hv.get j hj
   have e : (⟨(Qy.word l ((j : Int) + 1)).toArray⟩ : ByteArray) = l[j] := by
    unfold Qy.word
    rw [if_pos (by omega), show ((j : Int) + 1 - 1).toNat = j by omega, List.getD_eq_getElem?_getD, List.getElem?_eq_getElem hj, Option.getD_some]
   rw [e]
   generalize l[j] = x at g
   have hl : (j : Int) < (l.length : Int) := by omega
   go_enter Tryz.func59, Tryz.ntmps59
   go_wp2_with fail
   go_ret
   exact ⟨rfl, rfl⟩
theorem qstr_lit (w : World) (l : List ByteArray) (t : TypeId) (c : Nat) : StS (w.alloc (.cells (l.map Value.string).toArray t)) (.slice (some ⟨w.heap.size, 0, none⟩) l.length c) l := by
 refine ⟨_, c, rfl, fun _ => ⟨_, rfl, by simp, fun i u hu => ?_⟩⟩
 rw [show (⟨w.heap.size, 0, none⟩ : Addr).add i = ⟨w.heap.size, i, none⟩ by simp [Addr.add]; exact fun h => h.symm]
 rw [Lib.cell_of_heap (heap_alloc_new w _)]
 simpa using hu
theorem qkinds_any (w : World) : Calls Tryz.prog 46 #[] w fun e w' => ∃ v, e = .returned v ∧ StS w' v Qy.heads ∧ Below w.heap.size w w' := by
 go_enter Tryz.func46, Tryz.ntmps46
 go_wp2_with fail
 go_ret
 exact ⟨_, rfl, qstr_lit w Qy.heads _ _, (Below.refl _ _).alloc (Nat.le_refl _) _⟩
theorem qunits_any (w : World) : Calls Tryz.prog 80 #[] w fun e w' => ∃ v, e = .returned v ∧ StS w' v Qy.units ∧ Below w.heap.size w w' := by
 go_enter Tryz.func80, Tryz.ntmps80
 go_wp2_with fail
 go_ret
 exact ⟨_, rfl, qstr_lit w Qy.units _ _, (Below.refl _ _).alloc (Nat.le_refl _) _⟩
theorem qpols_any (w : World) : Calls Tryz.prog 81 #[] w fun e w' => ∃ v, e = .returned v ∧ StS w' v Qy.pols ∧ Below w.heap.size w w' := by
 go_enter Tryz.func81, Tryz.ntmps81
 go_wp2_with fail
 go_ret
 exact ⟨_, rfl, qstr_lit w Qy.pols _ _, (Below.refl _ _).alloc (Nat.le_refl _) _⟩
theorem rqheads_any (w : World) : Calls Tryz.prog 24 #[] w fun e w' => ∃ v, e = .returned v ∧ StS w' v Qy.heads ∧ Below w.heap.size w w' := by
 go_enter Tryz.func24, Tryz.ntmps24
 go_wp2_with fail
 go_ret
 exact ⟨_, rfl, qstr_lit w Qy.heads _ _, (Below.refl _ _).alloc (Nat.le_refl _) _⟩
theorem rqunits_any (w : World) : Calls Tryz.prog 30 #[] w fun e w' => ∃ v, e = .returned v ∧ StS w' v Qy.units ∧ Below w.heap.size w w' := by
 go_enter Tryz.func30, Tryz.ntmps30
 go_wp2_with fail
 go_ret
 exact ⟨_, rfl, qstr_lit w Qy.units _ _, (Below.refl _ _).alloc (Nat.le_refl _) _⟩
theorem rqpols_any (w : World) : Calls Tryz.prog 29 #[] w fun e w' => ∃ v, e = .returned v ∧ StS w' v Qy.pols ∧ Below w.heap.size w w' := by
 go_enter Tryz.func29, Tryz.ntmps29
 go_wp2_with fail
 go_ret
 exact ⟨_, rfl, qstr_lit w Qy.pols _ _, (Below.refl _ _).alloc (Nat.le_refl _) _⟩
end Go.Proofs.YtbcbggdbojonmaaGreatDoor
namespace Go.Pairs
open Go
def nodupB : List Nat → Bool
 | [] => true
 | x :: xs => !xs.contains x && nodupB xs
def onB (k : Nat) : List Oper → Bool
 | [] => true
 | o :: os => (o.after.toList.all fun e => !Region.binds .any e || decide (e.on < k)) && onB (k + 1) os
def insideB (n : Nat) (l : List Oper) : Bool := (l.filterMap (·.dst)).all fun d => decide (d < n)
theorem nodup_at : ∀ {l : List Oper}, nodupB (l.filterMap (·.dst)) = true → ∀ {i j : Nat} {oi oj : Oper} {d : Tmp}, l[i]? = some oi → l[j]? = some oj → oi.dst = some d → oj.dst = some d → i = j := by
 intro l
 induction l with
 | nil => intro _ i j oi oj d hi; simp at hi
 | cons o os ih =>
  intro h i j oi oj d hi hj hdi hdj
  have mem : ∀ {k : Nat} {ok : Oper}, os[k]? = some ok → ok.dst = some d → d ∈ os.filterMap (·.dst) := fun {k ok} hk hd => List.mem_filterMap.2 ⟨ok, List.mem_of_getElem? hk, hd⟩
  have hs : nodupB (os.filterMap (·.dst)) = true := by
   cases ho : o.dst with
   | none => simpa [List.filterMap_cons, ho] using h
   | some x => simp [ho, nodupB] at h; exact h.2
  have hnot : o.dst = some d → d ∉ os.filterMap (·.dst) := fun ho => by
   simp only [List.filterMap_cons, ho, nodupB, Bool.and_eq_true, Bool.not_eq_true'] at h
   intro hm
   have := h.1
   simp only [List.contains_eq_mem, decide_eq_false_iff_not] at this
   exact this hm
  cases i with
  | zero =>
   simp at hi; subst hi
   cases j with
   | zero => rfl
   | succ j => simp at hj; exact (hnot hdi (mem hj hdj)).elim
  | succ i =>
   simp at hi
   cases j with
   | zero => simp at hj; subst hj; exact (hnot hdj (mem hi hdi)).elim
   | succ j => simp at hj; rw [ih hs hi hj hdi hdj]
theorem on_at : ∀ {l : List Oper} {k : Nat}, onB k l = true → ∀ {i : Nat} {o : Oper}, l[i]? = some o → ∀ e ∈ o.after, Region.binds .any e = true → e.on < k + i := by
 intro l
 induction l with
 | nil => intro k _ i o hi; simp at hi
 | cons x os ih =>
  intro k h i o hi e he hbn
  simp only [onB, Bool.and_eq_true] at h
  cases i with
  | zero => simp at hi; subst hi; have := List.all_eq_true.1 h.1 e (by simpa using he); rw [hbn] at this; simpa using this
  | succ i => simp at hi; have := ih h.2 hi e he hbn; omega
theorem inside_at {n : Nat} {l : List Oper} (h : insideB n l = true) {i : Nat} {o : Oper} {d : Tmp} (hi : l[i]? = some o) (hd : o.dst = some d) : d < n := by
 have := List.all_eq_true.1 h d (List.mem_filterMap.2 ⟨o, List.mem_of_getElem? hi, hd⟩)
 simpa using this
section
variable (P : Program) (l : List Oper) (R : Nat → Value → World → Prop) (C : World → Prop) (G : World → World → Prop) (Q : Exit → Act → World → Prop) (a0 : Act)
structure Same (a : Act) : Prop where
 size : a.tmps.size = a0.tmps.size
 defers : a.defers = a0.defers
 base : ∀ t, (l.filterMap (·.dst)).contains t = false → a.tmps[t]? = a0.tmps[t]?
def Ob (i : Nat) (o : Oper) : Prop :=
 ∀ a w, C w → Same l a0 a → (∀ j oj d, l[j]? = some oj → oj.dst = some d → o.after.any (fun e => Region.binds .any e && e.on == j) = true → ∃ v, a.tmps[d]? = some v ∧ R j v w) →
  ∀ K : Act → World → Prop, (∀ v w', G w w' → R i v w' → K (a.put o.dst v) w') → if Region.wanted o (yielded l.toArray a.tmps) = true then o.wp P a w K Q else K (a.put o.dst undef) w
structure Good : Prop where
 nodup : nodupB (l.filterMap (·.dst)) = true
 on : onB 0 l = true
 inside : insideB a0.tmps.size l = true
 keep : ∀ w w', C w → G w w' → C w'
 stable : ∀ i v w w', G w w' → R i v w → R i v w'
 ob : ∀ i o, l[i]? = some o → Ob P l R C G Q a0 i o
 last : ∀ a w, C w → Same l a0 a → (∀ j oj d, l[j]? = some oj → oj.dst = some d → ∃ v, a.tmps[d]? = some v ∧ R j v w) → Q .normal a w
variable {P l R C G Q a0}
theorem put_same {a : Act} {d : Tmp} {v : Value} (h : d < a.tmps.size) : (a.put (some d) v).tmps[d]? = some v := by
 simp [Act.put, h]
theorem put_other {a : Act} {x : Option Tmp} {d : Tmp} {v : Value} (h : x ≠ some d) : (a.put x v).tmps[d]? = a.tmps[d]? := by
 cases x with
 | none => rfl
 | some e => simp only [Act.put]; exact Array.getElem?_setIfInBounds_ne (fun he => h (by rw [he]))
theorem Same.put {a : Act} {i : Nat} {o : Oper} (hi : l[i]? = some o) (h : Same l a0 a) (v : Value) : Same l a0 (a.put o.dst v) := by
 refine ⟨?_, ?_, fun t ht => ?_⟩
 ·
  rw [← h.size]; cases o.dst <;> simp [Act.put]
 ·
  rw [← h.defers]; cases o.dst <;> rfl
 ·
  rw [put_other (fun hd => by
   have := List.mem_filterMap.2 ⟨o, List.mem_of_getElem? hi, hd⟩
   simp only [List.contains_eq_mem, decide_eq_false_iff_not] at ht
   exact ht this)]
  exact h.base t ht
/-! ### For the walk -/
def markR (ms : List (Value → World → Prop)) (i : Nat) (v : Value) (w : World) : Prop := (ms.getD i fun _ _ => True) v w
def Obs (P : Program) (l : List Oper) (R : Nat → Value → World → Prop) (C : World → Prop) (G : World → World → Prop) (Q : Exit → Act → World → Prop) (a0 : Act) : Nat → List Oper → Prop
 | _, [] => True
 | k, o :: os => Ob P l R C G Q a0 k o ∧ Obs P l R C G Q a0 (k + 1) os
theorem Obs.at : ∀ {os : List Oper} {k : Nat}, Obs P l R C G Q a0 k os → ∀ i o, os[i]? = some o → Ob P l R C G Q a0 (k + i) o := by
 intro os
 induction os with
 | nil => intro k _ i o h; simp at h
 | cons x os ih =>
  intro k h i o hi
  cases i with
  | zero => simp at hi; subst hi; exact h.1
  | succ i => simp at hi; have := ih h.2 i o hi; rw [show k + (i + 1) = k + 1 + i by omega]; exact this
theorem Obs.all (h : Obs P l R C G Q a0 0 l) : ∀ i o, l[i]? = some o → Ob P l R C G Q a0 i o := fun i o hi => by
 have := h.at i o hi
 rwa [Nat.zero_add] at this
theorem Obs.nil {k : Nat} : Obs P l R C G Q a0 k [] := trivial
theorem Obs.cons {k k' : Nat} {o : Oper} {os : List Oper} (hk : k + 1 = k') (h : Ob P l R C G Q a0 k o) (hs : Obs P l R C G Q a0 k' os) : Obs P l R C G Q a0 k (o :: os) := ⟨h, hk ▸ hs⟩
def StableL (G : World → World → Prop) : List (Value → World → Prop) → Prop
 | [] => True
 | f :: fs => (∀ v w w', G w w' → f v w → f v w') ∧ StableL G fs
theorem StableL.all {ms : List (Value → World → Prop)} (h : StableL G ms) : ∀ i v w w', G w w' → markR ms i v w → markR ms i v w' := by
 induction ms with
 | nil => intro i v w w' _ _; simp [markR]
 | cons f fs ih =>
  intro i v w w' hG hm
  cases i with
  | zero => exact h.1 v w w' hG hm
  | succ i => exact ih h.2 i v w w' hG hm
theorem wanted_plain {o : Oper} {y : Nat → Option Bool} (h : o.guard = none) : Region.wanted o y = true := by simp [Region.wanted, h]
theorem wanted_guard {o og : Oper} {tmps : Array Value} {g : Nat} {want b : Bool} {t : Tmp} (h : o.guard = some (g, want)) (hg : l[g]? = some og) (ht : og.dst = some t) (hv : tmps[t]? = some (.bool b)) :
  Region.wanted o (yielded l.toArray tmps) = (b == want) := by
 simp [Region.wanted, h, yielded, hg, ht, hv]
 try cases b <;> cases want <;> rfl
end
end Go.Pairs
namespace Go.Pairs
open Go
def come (ld : Nat → Bool) (i : Nat) : Nat → Bool := fun j => if j = i then true else ld j
def waitsB (o : Oper) (j : Nat) : Bool := o.after.any (fun e => Region.binds .any e && e.on == j)
section
variable (P : Program) (l : List Oper) (R : Nat → Value → Prop) (C : (Nat → Bool) → World → Prop) (Q : Exit → Act → World → Prop) (a0 : Act)
def Closed (ld : Nat → Bool) : Prop := ∀ j oj k, l[j]? = some oj → ld j = true → waitsB oj k = true → ld k = true
def ObW (i : Nat) (o : Oper) : Prop :=
 ∀ (ld : Nat → Bool) a w, C ld w → ld i = false → (∀ j, waitsB o j = true → ld j = true) → Closed l ld → Same l a0 a →
  (∀ j oj d, l[j]? = some oj → oj.dst = some d → waitsB o j = true → ∃ v, a.tmps[d]? = some v ∧ R j v) →
  ∀ K : Act → World → Prop, (∀ v w', R i v → C (come ld i) w' → K (a.put o.dst v) w') → if Region.wanted o (yielded l.toArray a.tmps) = true then o.wp P a w K Q else K (a.put o.dst undef) w
structure GoodW : Prop where
 nodup : nodupB (l.filterMap (·.dst)) = true
 on : onB 0 l = true
 inside : insideB a0.tmps.size l = true
 ob : ∀ i o, l[i]? = some o → ObW P l R C Q a0 i o
 last : ∀ ld a w, C ld w → (∀ n, n < l.length → ld n = true) → Same l a0 a → (∀ j oj d, l[j]? = some oj → oj.dst = some d → ∃ v, a.tmps[d]? = some v ∧ R j v) → Q .normal a w
variable {P l R C Q a0}
theorem come_set {listed : Array Bool} {i : Nat} (hi : i < listed.size) : (fun j => (listed.setIfInBounds i true).getD j false) = come (fun j => listed.getD j false) i := by
 funext j
 unfold come
 by_cases h : j = i
 ·
  subst h; simp [hi]
 ·
  rw [if_neg h, getD_set_ne false (fun e => h e.symm)]
theorem waits_mem {o : Oper} {j : Nat} (h : waitsB o j = true) : ∃ e ∈ o.after, Region.binds .any e = true ∧ e.on = j := by
 unfold waitsB at h
 simp only [Array.any_eq_true', Bool.and_eq_true, beq_iff_eq] at h
 obtain ⟨e, he, hb, hj⟩ := h
 exact ⟨e, he, hb, hj⟩
/-! ### For the walk -/
def ObsW (P : Program) (l : List Oper) (R : Nat → Value → Prop) (C : (Nat → Bool) → World → Prop) (Q : Exit → Act → World → Prop) (a0 : Act) : Nat → List Oper → Prop
 | _, [] => True
 | k, o :: os => ObW P l R C Q a0 k o ∧ ObsW P l R C Q a0 (k + 1) os
theorem ObsW.at : ∀ {os : List Oper} {k : Nat}, ObsW P l R C Q a0 k os → ∀ i o, os[i]? = some o → ObW P l R C Q a0 (k + i) o := by
 intro os
 induction os with
 | nil => intro k _ i o h; simp at h
 | cons x os ih =>
  intro k h i o hi
  cases i with
  | zero => simp at hi; subst hi; exact h.1
  | succ i => simp at hi; have := ih h.2 i o hi; rw [show k + (i + 1) = k + 1 + i by omega]; exact this
theorem ObsW.all (h : ObsW P l R C Q a0 0 l) : ∀ i o, l[i]? = some o → ObW P l R C Q a0 i o := fun i o hi => by
 have := h.at i o hi
 rwa [Nat.zero_add] at this
theorem ObsW.nil {k : Nat} : ObsW P l R C Q a0 k [] := trivial
theorem ObsW.cons {k k' : Nat} {o : Oper} {os : List Oper} (hk : k + 1 = k') (h : ObW P l R C Q a0 k o) (hs : ObsW P l R C Q a0 k' os) : ObsW P l R C Q a0 k (o :: os) := ⟨h, hk ▸ hs⟩
end
end Go.Pairs
namespace Go.Pairs
open Go
section
variable (P : Program) (l : List Oper) (C : (Nat → Bool) → Act → World → Prop) (Q : Exit → Act → World → Prop) (a0 : Act)
def ObF (i : Nat) (o : Oper) : Prop :=
 ∀ (ld : Nat → Bool) a w, C ld a w → ld i = false → (∀ j, waitsB o j = true → ld j = true) → Closed l ld → Same l a0 a →
  ∀ K : Act → World → Prop, (∀ v w', C (come ld i) (a.put o.dst v) w' → K (a.put o.dst v) w') → if Region.wanted o (yielded l.toArray a.tmps) = true then o.wp P a w K Q else K (a.put o.dst undef) w
structure GoodF : Prop where
 on : onB 0 l = true
 ob : ∀ i o, l[i]? = some o → ObF P l C Q a0 i o
 last : ∀ ld a w, C ld a w → (∀ n, n < l.length → ld n = true) → Same l a0 a → Q .normal a w
variable {P l C Q a0}
theorem all_listedF (h : GoodF P l C Q a0) {listed : Array Bool} (hs : listed.size = l.length) (hr : Region.ready .any l.toArray listed = []) : ∀ n, n < l.length → listed.getD n false = true := by
 intro n
 induction n using Nat.strongRecOn with
 | ind n ih =>
  intro hn
  rcases hb : listed.getD n false with _ | _
  ·
   have hmem : n ∈ Region.ready .any l.toArray listed := by
    refine mem_ready.2 ⟨?_, l[n], by simp [hn], fun e he hbn => ih e.on ?_ ?_⟩
    ·
     have : n < listed.size := by omega
     simp [this] at hb ⊢; exact hb
    ·
     have := on_at h.on (List.getElem?_eq_getElem hn) e he hbn; omega
    ·
     have := on_at h.on (List.getElem?_eq_getElem hn) e he hbn; omega
   rw [hr] at hmem; cases hmem
  ·
   rfl
theorem wpAny_ofF (h : GoodF P l C Q a0) : ∀ (fuel : Nat) (listed : Array Bool) (a : Act) (w : World), listed.size = l.length → listed.toList.count false ≤ fuel → C (fun j => listed.getD j false) a w → Closed l (fun j => listed.getD j false) → Same l a0 a →
  wpAny P .any l.toArray Q fuel listed a w := by
 intro fuel
 have fin : ∀ (listed : Array Bool) (a : Act) (w : World), listed.size = l.length → C (fun j => listed.getD j false) a w → Same l a0 a → Region.ready .any l.toArray listed = [] → Q .normal a w :=
  fun listed a w hs hC hS hr => h.last _ a w hC (all_listedF h hs hr) hS
 induction fuel with
 | zero =>
  intro listed a w hs hc hC _ hS
  have hr : Region.ready .any l.toArray listed = [] := by
   rw [List.eq_nil_iff_forall_not_mem]
   intro j hj
   have h1 := (mem_ready.1 hj).1
   have hlt : j < listed.size := by
    rcases Nat.lt_or_ge j listed.size with h' | h'
    ·
     exact h'
    ·
     simp [Array.getElem?_eq_none h'] at h1
   have : false ∈ listed.toList := by
    simp [hlt] at h1
    rw [← h1]; simp
   have := List.count_pos_iff.2 this
   omega
  exact ⟨hr, fin listed a w hs hC hS hr⟩
 | succ fuel ih =>
  intro listed a w hs hc hC hcl hS
  refine ⟨fin listed a w hs hC hS, fun i hi => ?_⟩
  obtain ⟨hun, o, ho, hall⟩ := mem_ready.1 hi
  have ho' : l[i]? = some o := by simpa using ho
  have hlt : i < listed.size := by
   rcases Nat.lt_or_ge i listed.size with h' | h'
   ·
    exact h'
   ·
    simp [Array.getElem?_eq_none h'] at hun
  have hw : ∀ j, waitsB o j = true → listed.getD j false = true := fun j hj => by
   obtain ⟨e, he, hb, rfl⟩ := waits_mem hj
   exact hall e he hb
  have hif : listed.getD i false = false := by simp [hlt] at hun ⊢; exact hun
  have hob := h.ob i o ho' (fun j => listed.getD j false) a w hC hif hw hcl hS
  refine wpOp_step ho fun K' hK => ?_
  refine hob K' fun v w' hC' => hK _ _ ?_
  refine ih _ _ _ (by simpa using hs) ?_ (by rw [come_set hlt]; exact hC') ?_ (hS.put ho' v)
  ·
   have hl : i < listed.toList.length := by simpa using hlt
   have hf : listed.toList[i] = false := by simp [hlt] at hun; simpa using hun
   rw [Array.toList_setIfInBounds, List.count_set hl]
   have hp : 0 < listed.toList.count false := List.count_pos_iff.2 (hf ▸ List.getElem_mem hl)
   simp [hf]
   simp at hp hc
   omega
  ·
   rw [come_set hlt]
   intro j oj k hj hlj hk
   unfold come at hlj ⊢
   by_cases hki : k = i
   ·
    rw [if_pos hki]
   ·
    rw [if_neg hki]
    by_cases hji : j = i
    ·
     subst hji
     obtain rfl : o = oj := by rw [ho'] at hj; exact Option.some.inj hj
     exact hw k hk
    ·
     rw [if_neg hji] at hlj
     exact hcl j oj k hj hlj hk
theorem wp_region_frame {id : Nat} {w : World} (hm : P.follows .mixedOrders = true) (hC : C (fun _ => false) a0 w.drew) (h : GoodF P l C Q a0) : (Code.region id l.toArray true).wp P Q a0 w := by
 refine wp_region_any hm ?_
 have e0 : (fun j => (Array.replicate l.toArray.size false).getD j false) = fun _ => false := by
  funext j
  by_cases hj : j < l.length
  ·
   simp [hj]
  ·
   simp [hj]
 exact wpAny_ofF h _ _ _ _ (by simp) (by simp) (by rw [e0]; exact hC) (by rw [e0]; intro j oj k _ hl _; cases hl) ⟨rfl, rfl, fun _ _ => rfl⟩
def ObsF (P : Program) (l : List Oper) (C : (Nat → Bool) → Act → World → Prop) (Q : Exit → Act → World → Prop) (a0 : Act) : Nat → List Oper → Prop
 | _, [] => True
 | k, o :: os => ObF P l C Q a0 k o ∧ ObsF P l C Q a0 (k + 1) os
theorem ObsF.at : ∀ {os : List Oper} {k : Nat}, ObsF P l C Q a0 k os → ∀ i o, os[i]? = some o → ObF P l C Q a0 (k + i) o := by
 intro os
 induction os with
 | nil => intro k _ i o h; simp at h
 | cons x os ih =>
  intro k h i o hi
  cases i with
  | zero => simp at hi; subst hi; exact h.1
  | succ i => simp at hi; have := ih h.2 i o hi; rw [show k + (i + 1) = k + 1 + i by omega]; exact this
theorem ObsF.all (h : ObsF P l C Q a0 0 l) : ∀ i o, l[i]? = some o → ObF P l C Q a0 i o := fun i o hi => by
 have := h.at i o hi
 rwa [Nat.zero_add] at this
theorem ObsF.nil {k : Nat} : ObsF P l C Q a0 k [] := trivial
theorem ObsF.cons {k k' : Nat} {o : Oper} {os : List Oper} (hk : k + 1 = k') (h : ObF P l C Q a0 k o) (hs : ObsF P l C Q a0 k' os) : ObsF P l C Q a0 k (o :: os) := ⟨h, hk ▸ hs⟩
end
end Go.Pairs
