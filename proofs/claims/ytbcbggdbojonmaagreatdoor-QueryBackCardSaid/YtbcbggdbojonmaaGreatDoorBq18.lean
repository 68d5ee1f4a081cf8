/- Joined: QyA, QyC. -/
import Derived.Test.YtbcbggdbojonmaaGreatDoorBq01
import Derived.Test.YtbcbggdbojonmaaGreatDoorBq16
import Derived.Test.YtbcbggdbojonmaaGreatDoorBq17
set_option linter.unusedVariables false
set_option linter.unusedSimpArgs false
namespace Go.Proofs.YtbcbggdbojonmaaGreatDoor
open Go.RowKit Go.Sort
theorem qyear_any (n : Int) (w : World) : Calls Tryz.prog 49 #[.int .i64 n] w fun e w' => e = .returned (.bool (decide (Qy.yr n))) ∧ w = w' := by
  by_cases h1 : -32767 ≤ n
  · by_cases h2 : n ≤ 32767
    · rw [decide_eq_true (show Qy.yr n from ⟨h1, h2⟩)]
      go_enter Tryz.func49, Tryz.ntmps49
      go_wp2_with fail
      go_ret
      exact ⟨rfl, rfl⟩
    · rw [decide_eq_false (show ¬ Qy.yr n from fun h => h2 h.2)]
      go_enter Tryz.func49, Tryz.ntmps49
      go_wp2_with fail
      go_ret
      exact ⟨rfl, rfl⟩
  · rw [decide_eq_false (show ¬ Qy.yr n from fun h => h1 h.1)]
    go_enter Tryz.func49, Tryz.ntmps49
    go_wp2_with fail
    go_ret
    exact ⟨rfl, rfl⟩
theorem qy_read (s : ByteArray) (w : World) (hs : s.size ≤ 100000000) (tp : TypeId) (p : Value) (hvar : w.var? Tryz.prog "strconv.ErrRange" = some #[.iface tp p]) :
    Calls Tryz.prog 79 #[.string s] w fun e w' => e = .returned (.tuple #[.int .i64 (Num.rd s.data.toList).1, .int .i64 (Num.rd s.data.toList).2]) ∧ Below w.heap.size w w' := by
  have hml : s.size ≤ maxLen := by unfold maxLen; omega
  unfold Num.rd
  cases ht : Num.isT s.data.toList
  · exact read_no s w hml ht
  · rcases Num.isT_read ht with h | ⟨x, h, -⟩
    · rw [h]; exact read_range s w hml ht h (by omega) tp p hvar
    · rw [h]; exact read_ok s x w hml ht h (by omega)
def AnsN (p : Int × Int) (w : World) (e : Ending) (w' : World) : Prop := Below w.heap.size w w' ∧ ((p.2 = 0 ∧ e = .returned (.int .i64 p.1)) ∨ (p.2 ≠ 0 ∧ e = .panicked (gvP p.2)))
theorem must64_ans (v why : Int) (w : World) : Calls Tryz.prog 78 #[.int .i64 v, .int .i64 why] w (AnsN (v, why) w) := by
  by_cases h : why = 0
  · subst h; exact (must_yes v w).mono (by rintro e w' ⟨rfl, rfl⟩; exact ⟨Below.refl _ _, .inl ⟨rfl, rfl⟩⟩)
  · exact (must_no v why w h).mono (by rintro e w' ⟨rfl, rfl⟩; exact ⟨Below.refl _ _, .inr ⟨h, rfl⟩⟩)
theorem muststamp_yes (a b c d f g : Int) (w : World) : Calls Tryz.prog 99 #[.agg #[.int .i64 a, .int .i64 b, .int .i64 c, .int .i64 d, .int .i64 f, .int .i64 g], .int .i64 0] w fun e w' => e = .returned (.agg #[.int .i64 a, .int .i64 b, .int .i64 c, .int .i64 d, .int .i64 f, .int .i64 g]) ∧ Below w.heap.size w w' := by
  go_enter Tryz.func99, Tryz.ntmps99
  go_wp2_with fail
  refine (for_yes _).mono ?_; rintro e w1 ⟨rfl, rfl⟩
  go_wp2_with fail
  refine bodyPost_ret (v := .agg #[.int .i64 a, .int .i64 b, .int .i64 c, .int .i64 d, .int .i64 f, .int .i64 g]) (by simp [results, Tryz.results99, go_sem]) rfl ⟨rfl, gr0⟩
theorem muststamp_no (a b c d f g why : Int) (w : World) (h : why ≠ 0) : Calls Tryz.prog 99 #[.agg #[.int .i64 a, .int .i64 b, .int .i64 c, .int .i64 d, .int .i64 f, .int .i64 g], .int .i64 why] w fun e w' => e = .panicked (gvP why) ∧ Below w.heap.size w w' := by
  go_enter Tryz.func99, Tryz.ntmps99
  go_wp2_with fail
  refine (for_no why _ h).mono ?_; rintro e w1 ⟨rfl, rfl⟩
  refine (show bodyPost _ _ _ (Exit.panic (gvP why)) _ _ from ?_)
  simp only [bodyPost]
  refine ⟨trivial, trivial, ?_⟩
  exact gr0
set_option maxHeartbeats 2000000 in
set_option maxRecDepth 100000 in
theorem qsecond_any (s : ByteArray) (w : World) (hs : s.size ≤ 1000) (tp : TypeId) (pp : Value) (hvar : w.var? Tryz.prog "strconv.ErrRange" = some #[.iface tp pp]) :
    Calls Tryz.prog 77 #[.string s] w (AnsN (Qy.sc s.data.toList) w) := by
  have RN := Lib.hid (fun W V => qy_read s W (by omega) tp pp V)
  have HV := Lib.hid hvar
  clear hvar
  have hz : s.data.toList.length = s.size := Array.length_toList
  by_cases h9 : s.size < 9
  · have ht : Qy.isT s.data.toList = false := by unfold Qy.isT; rw [hz, decide_eq_false (by omega), Bool.false_and]
    unfold Qy.sc
    rw [ht]
    simp only [Bool.false_eq_true, if_false]
    generalize Num.rd s.data.toList = p at RN ⊢
    obtain ⟨n, y⟩ := p
    have MU := Lib.hid (fun W => must64_ans n y W)
    have g : decide ((s.size : Int) - 8 - 1 < 0) = true := decide_eq_true (by omega)
    clear ht hz
    go_enter Tryz.func77, Tryz.ntmps77
    go_wp2_with fail
    refine (RN.out _ HV.out).mono ?_; rintro e w1 ⟨rfl, b1⟩
    go_wp2_with fail
    refine (MU.out _).mono ?_; rintro e w2 ⟨b2, ⟨h0, rfl⟩ | ⟨h0, rfl⟩⟩
    · have B2 := Lib.hid (below_step b1 b2)
      go_wp2_with fail
      go_ret
      exact ⟨B2.out, .inl ⟨h0, rfl⟩⟩
    · have B2 := Lib.hid (below_step b1 b2)
      refine (show bodyPost _ _ _ (Exit.panic (gvP y)) _ _ from ?_)
      simp only [bodyPost]
      exact ⟨trivial, B2.out, .inr ⟨h0, by first | rfl | trivial⟩⟩
  · have hi : s.size - 9 < s.size := by omega
    have IX := fun W => fd_ix s (s.size - 9) hi W
    have ht : Qy.isT s.data.toList = decide (s[s.size - 9] = 84) := by
      unfold Qy.isT
      rw [hz, decide_eq_true (by omega), Bool.true_and]
      congr 1
      rw [List.getD_eq_getElem?_getD, List.getElem?_eq_getElem (by rw [hz]; exact hi), Option.getD_some]
      rfl
    have e9 : ((s.size - 9 : Nat) : Int) = (s.size : Int) - 8 - 1 := by omega
    have IX : ∀ W, Sem.run Tryz.prog (Instr.index 9 (.string s) (.int .i64 ((s.size : Int) - 8 - 1))) W = .ok (.int .u8 s[s.size - 9].toNat) W := by rw [← e9]; exact IX
    generalize s[s.size - 9] = c at IX ht
    have g : decide ((s.size : Int) - 8 - 1 < 0) = false := decide_eq_false (by omega)
    by_cases hc : c = 84
    · subst hc
      have ht : Qy.isT s.data.toList = true := by rw [ht]; rfl
      have SR := Lib.hid (fun W => sread_rv s W hs)
      unfold Rd.rv at SR
      unfold Qy.sc
      rw [if_pos ht]
      unfold Qy.rs
      have IX : ∀ W, Sem.run Tryz.prog (Instr.index 9 (.string s) (.int .i64 ((s.size : Int) - 8 - 1))) W = .ok (.int .u8 84) W := IX
      clear RN ht hz e9
      by_cases hf : Rd.form s.data.toList = true
      · rw [if_pos hf]
        simp only [hf, if_true] at SR
        by_cases ho : Rd.ok s.data.toList = true
        · rw [if_pos ho]
          simp only [ho, if_true] at SR
          have hr : St.rB (Rd.yv (Rd.hd s.data.toList)) (Rd.pV (Rd.tl s.data.toList) 0) (Rd.pV (Rd.tl s.data.toList) 1) (Rd.pV (Rd.tl s.data.toList) 2) (Rd.pV (Rd.tl s.data.toList) 3) (Rd.pV (Rd.tl s.data.toList) 4) = true := by
            unfold Rd.ok at ho
            rw [Bool.and_eq_true, Bool.and_eq_true] at ho
            exact ho.2.2
          have SS := Lib.hid (fun W => ssecs_yes _ _ _ _ _ _ W hr)
          clear hr ho hf
          generalize St.sec (Rd.yv (Rd.hd s.data.toList)) (Rd.pV (Rd.tl s.data.toList) 0) (Rd.pV (Rd.tl s.data.toList) 1) (Rd.pV (Rd.tl s.data.toList) 2) (Rd.pV (Rd.tl s.data.toList) 3) (Rd.pV (Rd.tl s.data.toList) 4) = n at *
          generalize Rd.yv (Rd.hd s.data.toList) = v0 at *
          generalize Rd.pV (Rd.tl s.data.toList) 0 = v1 at *
          generalize Rd.pV (Rd.tl s.data.toList) 1 = v2 at *
          generalize Rd.pV (Rd.tl s.data.toList) 2 = v3 at *
          generalize Rd.pV (Rd.tl s.data.toList) 3 = v4 at *
          generalize Rd.pV (Rd.tl s.data.toList) 4 = v5 at *
          go_enter Tryz.func77, Tryz.ntmps77
          go_wp2_with fail
          refine (SR.out _).mono ?_; rintro e w1 ⟨rfl, b1⟩
          have B1 := Lib.hid b1
          clear b1
          go_wp2_with fail
          refine (muststamp_yes _ _ _ _ _ _ _).mono ?_; rintro e w2 ⟨rfl, b2⟩
          have B2 := Lib.hid (below_step B1.out b2)
          clear b2
          go_wp2_with fail
          refine (SS.out _).mono ?_; rintro e w3 ⟨rfl, b3⟩
          have B3 := Lib.hid (below_step B2.out b3)
          clear b3
          go_wp2_with fail
          refine (must_yes _ _).mono ?_; rintro e w4 ⟨rfl, rfl⟩
          go_wp2_with fail
          go_ret
          exact ⟨B3.out, .inl ⟨rfl, rfl⟩⟩
        · rw [if_neg ho]
          simp only [ho, if_false, Bool.false_eq_true] at SR
          go_enter Tryz.func77, Tryz.ntmps77
          go_wp2_with fail
          refine (SR.out _).mono ?_; rintro e w1 ⟨rfl, b1⟩
          have B1 := Lib.hid b1
          clear b1
          go_wp2_with fail
          refine (muststamp_no _ _ _ _ _ _ 1 _ (by decide)).mono ?_; rintro e w2 ⟨rfl, b2⟩
          have B2 := Lib.hid (below_step B1.out b2)
          refine (show bodyPost _ _ _ (Exit.panic (gvP 1)) _ _ from ?_)
          simp only [bodyPost]
          exact ⟨trivial, B2.out, .inr ⟨by decide, by first | rfl | trivial⟩⟩
      · rw [if_neg hf]
        simp only [hf, if_false, Bool.false_eq_true] at SR
        go_enter Tryz.func77, Tryz.ntmps77
        go_wp2_with fail
        refine (SR.out _).mono ?_; rintro e w1 ⟨rfl, b1⟩
        have B1 := Lib.hid b1
        clear b1
        go_wp2_with fail
        refine (muststamp_no _ _ _ _ _ _ 4 _ (by decide)).mono ?_; rintro e w2 ⟨rfl, b2⟩
        have B2 := Lib.hid (below_step B1.out b2)
        refine (show bodyPost _ _ _ (Exit.panic (gvP 4)) _ _ from ?_)
        simp only [bodyPost]
        exact ⟨trivial, B2.out, .inr ⟨by decide, by first | rfl | trivial⟩⟩
    · have ht : Qy.isT s.data.toList = false := by rw [ht]; exact decide_eq_false hc
      unfold Qy.sc
      rw [ht]
      simp only [Bool.false_eq_true, if_false]
      have gc : ((c.toNat : Int) == 84) = false := by
        rw [beq_eq_false_iff_ne]
        intro h
        exact hc (UInt8.toNat_inj.1 (by have : c.toNat = 84 := by omega
                                        rw [this]; rfl))
      generalize (c.toNat : Int) = C at IX gc
      generalize Num.rd s.data.toList = p at RN ⊢
      obtain ⟨n, y⟩ := p
      have MU := Lib.hid (fun W => must64_ans n y W)
      clear ht hz hc e9
      go_enter Tryz.func77, Tryz.ntmps77
      go_wp2_with fail
      refine (RN.out _ HV.out).mono ?_; rintro e w1 ⟨rfl, b1⟩
      go_wp2_with fail
      refine (MU.out _).mono ?_; rintro e w2 ⟨b2, ⟨h0, rfl⟩ | ⟨h0, rfl⟩⟩
      · have B2 := Lib.hid (below_step b1 b2)
        go_wp2_with fail
        go_ret
        exact ⟨B2.out, .inl ⟨h0, rfl⟩⟩
      · have B2 := Lib.hid (below_step b1 b2)
        refine (show bodyPost _ _ _ (Exit.panic (gvP y)) _ _ from ?_)
        simp only [bodyPost]
        exact ⟨trivial, B2.out, .inr ⟨h0, by first | rfl | trivial⟩⟩
theorem musti_ans (v why : Int) (w : World) : Calls Tryz.prog 74 #[.int .i64 v, .int .i64 why] w (AnsN (v, why) w) := by
 by_cases h : why = 0
 ·
  subst h
  go_enter Tryz.func74, Tryz.ntmps74
  go_wp2_with fail
  refine (for_yes _).mono ?_; rintro e w1 ⟨rfl, rfl⟩
  go_wp2_with fail
  go_ret
  exact ⟨Below.refl _ _, .inl ⟨rfl, rfl⟩⟩
 ·
  go_enter Tryz.func74, Tryz.ntmps74
  go_wp2_with fail
  refine (for_no why _ h).mono ?_; rintro e w1 ⟨rfl, rfl⟩
  refine (show bodyPost _ _ _ (Exit.panic (gvP why)) _ _ from ?_)
  simp only [bodyPost]
  exact ⟨trivial, Below.refl _ _, .inr ⟨h, by first | rfl | trivial⟩⟩
set_option maxHeartbeats 1000000 in
theorem qmeant_any (s : ByteArray) (v : Value) (l : List ByteArray) (w : World) (hv : StS w v l) (hs : s.size ≤ 1000) (hz : ∀ x ∈ l, x.size ≤ 1000) (hm : l.length ≤ 1000) :
  Calls Tryz.prog 45 #[.string s, v] w (AnsN ((Wd.mat s.data.toList l).1 + 1, (Wd.mat s.data.toList l).2) w) := by
 have MA := Lib.hid (match_any s v l w hv (by unfold maxLen; omega) (fun x hx => by have := hz x hx; unfold maxLen; omega) (by unfold maxLen; omega))
 have bd := Wd.mat_bd s.data.toList l
 generalize Wd.mat s.data.toList l = p at MA bd ⊢
 obtain ⟨n, y⟩ := p
 dsimp only at MA bd ⊢
 obtain ⟨n0, n1, -⟩ := bd
 have n2 : n ≤ 1000 := by omega
 have MU := Lib.hid (fun W => musti_ans n y W)
 clear n1 hz hm hs hv
 go_enter Tryz.func45, Tryz.ntmps45
 go_wp2_with fail
 refine MA.out.mono ?_; rintro e w1 ⟨rfl, kk, rfl⟩
 go_wp2_with fail
 refine (MU.out _).mono ?_; rintro e w2 ⟨b2, ⟨h0, rfl⟩ | ⟨h0, rfl⟩⟩
 ·
  have B2 := Lib.hid (below_step (below_draw w kk) b2)
  clear b2
  go_wp2_with fail
  go_ret
  exact ⟨B2.out, .inl ⟨h0, by show Ending.returned (Value.int .i64 (1 + n)) = Ending.returned (Value.int .i64 (n + 1)); rw [Int.add_comm]⟩⟩
 ·
  have B2 := Lib.hid (below_step (below_draw w kk) b2)
  refine (show bodyPost _ _ _ (Exit.panic (gvP y)) _ _ from ?_)
  simp only [bodyPost]
  exact ⟨trivial, B2.out, .inr ⟨h0, by first | rfl | trivial⟩⟩
set_option maxHeartbeats 1000000 in
theorem qword_any (v : Value) (l : List ByteArray) (n : Int) (w : World) (hv : StS w v l) (hm : l.length ≤ 1000) :
  Calls Tryz.prog 59 #[v, .int .i64 n] w fun e w' => e = .returned (.string ⟨(Qy.word l n).toArray⟩) ∧ w = w' := by
 have T := hv
 obtain ⟨A, c, rfl, -⟩ := T
 by_cases h1 : n < 1
 ·
  have e : Qy.word l n = [] := if_neg (by omega)
  rw [e]
  go_enter Tryz.func59, Tryz.ntmps59
  go_wp2_with fail
  go_ret
  exact ⟨rfl, rfl⟩
 ·
  by_cases h2 : (l.length : Int) < n
  ·
   have e : Qy.word l n = [] := if_neg (by omega)
   rw [e]
   go_enter Tryz.func59, Tryz.ntmps59
   go_wp2_with fail
   go_ret
   exact ⟨rfl, rfl⟩
  ·
   obtain ⟨j, rfl⟩ : ∃ j : Nat, n = (j : Int) + 1 := ⟨(n - 1).toNat, by omega⟩
   have hj : j < l.length := by omega
   obtain ⟨q, rfl, g⟩ := hv.get j hj
   have e : (⟨(Qy.word l ((j : Int) + 1)).toArray⟩ : ByteArray) = l[j] := by
    unfold Qy.word
    rw [if_pos (by omega), show ((j : Int) + 1 - 1).toNat = j by omega, List.getD_eq_getElem?_getD, List.getElem?_eq_getElem hj, Option.getD_some]
   rw [e]
   generalize l[j] = x at g
   have hl : (j : Int) < (l.length : Int) := by omega
   go_enter Tryz.func59, Tryz.ntmps59
   go_wp2_with fail
   go_ret
   exact ⟨rfl, rfl⟩
theorem qstr_lit (w : World) (l : List ByteArray) (t : TypeId) (c : Nat) : StS (w.alloc (.cells (l.map Value.string).toArray t)) (.slice (some ⟨w.heap.size, 0, none⟩) l.length c) l := by
 refine ⟨_, c, rfl, fun _ => ⟨_, rfl, by simp, fun i u hu => ?_⟩⟩
 rw [show (⟨w.heap.size, 0, none⟩ : Addr).add i = ⟨w.heap.size, i, none⟩ by simp [Addr.add]; exact fun h => h.symm]
 rw [Lib.cell_of_heap (heap_alloc_new w _)]
 simpa using hu
theorem qkinds_any (w : World) : Calls Tryz.prog 46 #[] w fun e w' => ∃ v, e = .returned v ∧ StS w' v Qy.heads ∧ Below w.heap.size w w' := by
 go_enter Tryz.func46, Tryz.ntmps46
 go_wp2_with fail
 go_ret
 exact ⟨_, rfl, qstr_lit w Qy.heads _ _, (Below.refl _ _).alloc (Nat.le_refl _) _⟩
theorem qunits_any (w : World) : Calls Tryz.prog 80 #[] w fun e w' => ∃ v, e = .returned v ∧ StS w' v Qy.units ∧ Below w.heap.size w w' := by
 go_enter Tryz.func80, Tryz.ntmps80
 go_wp2_with fail
 go_ret
 exact ⟨_, rfl, qstr_lit w Qy.units _ _, (Below.refl _ _).alloc (Nat.le_refl _) _⟩
theorem qpols_any (w : World) : Calls Tryz.prog 81 #[] w fun e w' => ∃ v, e = .returned v ∧ StS w' v Qy.pols ∧ Below w.heap.size w w' := by
 go_enter Tryz.func81, Tryz.ntmps81
 go_wp2_with fail
 go_ret
 exact ⟨_, rfl, qstr_lit w Qy.pols _ _, (Below.refl _ _).alloc (Nat.le_refl _) _⟩
end Go.Proofs.YtbcbggdbojonmaaGreatDoor
