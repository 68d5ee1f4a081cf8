/- Joined: GvX, FdR, LnB. -/
import Derived.Test.YtifgiclnofdnkaaGreatDoorBy27
import Derived.Test.YtifgiclnofdnkaaGreatDoorBy29
import Derived.Test.YtifgiclnofdnkaaGreatDoorBy08
set_option linter.unusedVariables false
set_option linter.unusedSimpArgs false
namespace Go.Proofs.YtifgiclnofdnkaaGreatDoor
open Go.RowKit
set_option maxHeartbeats 1000000 in
set_option maxRecDepth 100000 in
theorem tcaughtat_room (g : FuncId) (qs : Array Value) (hg : ∀ W, Sem.run Tryz.prog (callFunc g qs) W = .ok (.enter g qs) W) (P : List (List UInt8)) (w : World)
  (CG : Hid (∀ W, Below w.heap.size w W → Calls Tryz.prog g qs W fun e w' => ∃ (v : Value) (l : List ByteArray), StO W.heap.size w' v l ∧ (∃ A n c, v = .slice A n c ∧ n ≤ c) ∧ l.map (·.data.toList) = P ∧ e = .returned v ∧ Below W.heap.size W w')) :
  Calls Tryz.prog 114 #[.func (Fn.func g) #[] qs] w fun e w' => ∃ (v : Value) (l : List ByteArray), StS w' v l ∧ (∃ A n c, v = .slice A n c ∧ n ≤ c) ∧ l.map (·.data.toList) = P ∧ e = .returned (.tuple #[v, .agg #[.int .i64 0, .int .i64 0]]) ∧ Below w.heap.size w w' := by
 have hmf : ∀ (fn : Fn) (first cap : Array Value) (w : World), (Instr.makeFunc fn first cap).run Tryz.prog w = .ok (.func fn first cap) w := fun _ _ _ _ => rfl
 go_enter_defers Tryz.func114, Tryz.ntmps114
 go_wp2_with fail
 refine (CG.out _ ((Below.refl _ _).alloc (Nat.le_refl _) _)).mono ?_; rintro e w1 ⟨v, l, hst, hrm, hlp, rfl, b1⟩
 have HRM := Lib.hid hrm; clear hrm
 have HST := Lib.hid hst; have HLP := Lib.hid hlp
 clear hlp
 obtain ⟨A, c, rfl, -⟩ := hst
 have B1 := Lib.hid (below_step ((Below.refl _ _).alloc (Nat.le_refl _) _) b1)
 have Q1 : Bk2 w1 w.heap.size (.int .i64 0) (.int .i64 0) := Bk2.of b1 (by simp) (by intro j; simp [go_sem]) (by simp [go_sem]) (by simp [go_sem])
 clear b1
 have c_b := Q1.hb; have c_f := Q1.fz; have c_0 := Q1.k0; have c_1 := Q1.k1
 clear Q1
 go_wp2_with fail
 refine leaves_cons (f := 132) (args := #[.pointer (some ⟨w.heap.size, 0, none⟩)]) (by simp) (by simp [go_sem]) ?_
 refine (gvt_idle ⟨w.heap.size, 0, none⟩ _).mono ?_
 rintro e u' w'' ⟨rfl, rfl, rfl⟩
 simp [Leaves, settle, results, Tryz.results114, go_sem, c_b, c_0, c_1, c_f]
 clear c_b c_f c_0 c_1
 refine ⟨_, l, StO.st (StO.turn (StO.turn HST.out (Nat.le_of_eq (set_size ..).symm) (fun i h1 h2 => set_block _ _ _ _ ?_)) (Nat.le_of_eq (set_size ..).symm) (fun i h1 h2 => set_block _ _ _ _ ?_)), HRM.out, HLP.out, rfl, ?_⟩
 ·
  simp at h1; show w.heap.size ≠ i; omega
 ·
  simp at h1; show w.heap.size ≠ i; omega
 ·
  repeat (refine Below.setCell ?_ (by first | omega | (simp; done) | (simp; omega)) _)
  exact B1.out
set_option maxHeartbeats 1000000 in
set_option maxRecDepth 100000 in
theorem tcaught_room (g : FuncId) (qs : Array Value) (hg : ∀ W, Sem.run Tryz.prog (callFunc g qs) W = .ok (.enter g qs) W) (P : List (List UInt8)) (w : World)
  (CG : Hid (∀ W, Below w.heap.size w W → Calls Tryz.prog g qs W fun e w' => ∃ (v : Value) (l : List ByteArray), StO W.heap.size w' v l ∧ (∃ A n c, v = .slice A n c ∧ n ≤ c) ∧ l.map (·.data.toList) = P ∧ e = .returned v ∧ Below W.heap.size W w')) :
  Calls Tryz.prog 89 #[.func (Fn.func g) #[] qs] w (AnsFR (P, 0) w) := by
 go_enter Tryz.func89, Tryz.ntmps89
 go_wp2_with fail
 refine (tcaughtat_room g qs hg P _ CG).mono ?_; rintro e w1 ⟨v, l, hst, hrm, hlp, rfl, b1⟩
 obtain ⟨A, n, c, rfl, hnc⟩ := hrm
 have HNC := Lib.hid hnc; clear hnc
 have HST := Lib.hid hst; have HLP := Lib.hid hlp
 clear hst hlp
 have B1 := Lib.hid b1
 clear b1
 go_wp2_with fail
 go_quiet (fail)
 go_wp2_with fail
 go_ret2
 refine ⟨A, n, c, l, HNC.out, HST.out.on ?_, HLP.out, rfl, below_step B1.out ?_⟩
 all_goals (repeat (first | refine _root_.Go.below_drewN ?_ _ | refine Below.drew ?_ | refine Below.setCell ?_ (by first | omega | (simp; done) | (simp; omega)) _ | refine Below.alloc ?_ (by first | omega | (simp; done) | (simp; omega)) _ | exact Below.refl _ _))
end Go.Proofs.YtifgiclnofdnkaaGreatDoor
set_option linter.unusedVariables false
set_option linter.unusedSimpArgs false
namespace Go.Proofs.YtifgiclnofdnkaaGreatDoor
open Go.RowKit Go.Sort
set_option maxHeartbeats 1000000 in
set_option maxRecDepth 100000 in
theorem of1_room (b : Nat) (s : ByteArray) (w : World) (hc : w.cell? ⟨b, 0, none⟩ = some (.string s)) (hs : s.size ≤ 100000000) :
  Calls Tryz.prog 90 #[.pointer (some ⟨b, 0, none⟩)] w fun e w' => Below w.heap.size w w' ∧ (((Fd.of s.data.toList).2 = 0 ∧ ∃ (v : Value) (l : List ByteArray), StO w.heap.size w' v l ∧ (∃ A n c, v = .slice A n c ∧ n ≤ c) ∧ l.map (·.data.toList) = (Fd.of s.data.toList).1 ∧ e = .returned v) ∨ ((Fd.of s.data.toList).2 ≠ 0 ∧ e = .panicked (gvP (Fd.of s.data.toList).2))) := by
 have C := Lib.hid (fun b W H => cfields_any b s W H hs)
 unfold AnsCs at C
 generalize Fd.of s.data.toList = R at C ⊢
 clear hs
 go_enter Tryz.func90, Tryz.ntmps90
 go_wp2_with fail
 have hk : Bk1 (w.alloc (.cells #[.string s] 121)) w.heap.size (.string s) := ⟨by simp, fun j => by simp [go_sem], by simp [go_sem]⟩
 have hB : Below w.heap.size w (w.alloc (.cells #[.string s] 121)) := (Below.refl _ _).alloc (Nat.le_refl _) _
 refine (C.out _ _ hk).mono ?_; rintro e w1 ⟨g1, h1⟩
 have hsz := hB.size
 have hz : w.heap.size ≤ (w.alloc (.cells #[.string s] 121)).heap.size := hsz
 have B1 := Lib.hid (hB.trans (grown_at g1 hz))
 rcases h1 with ⟨h0, v, l, own, hl, rfl⟩ | ⟨h0, rfl⟩
 ·
  have ST := Lib.hid (StO.own own hz)
  have RM := Lib.hid (own_room own)
  have HL := Lib.hid hl
  clear own hl g1 hB hk
  go_wp2_with fail
  go_ret
  obtain ⟨A9, c9, e9, k9⟩ := RM.out
  exact ⟨B1.out, .inl ⟨h0, v, l, ST.out, ⟨A9, _, c9, e9, k9⟩, HL.out, rfl⟩⟩
 ·
  refine (show bodyPost _ _ _ (Exit.panic (gvP R.2)) _ _ from ?_)
  simp [bodyPost]
  exact ⟨B1.out, h0⟩
set_option maxHeartbeats 1000000 in
set_option maxRecDepth 100000 in
theorem fof_room (s : ByteArray) (w : World) (hs : s.size ≤ 100000000) :
  Calls Tryz.prog 62 #[.string s] w (AnsFR (Fd.of s.data.toList) w) := by
 have C := Lib.hid (fun b W hc => of1_room b s W hc hs)
 have hR : (Fd.of s.data.toList).2 ≠ 0 → (Fd.of s.data.toList).1 = [] := by
  unfold Fd.of
  generalize Fd.go [] [] false false s.data.toList = o
  cases o with
  | none => intro _; rfl
  | some P =>
   rw [Fd.told_some]
   split
   ·
    intro _; rfl
   ·
    intro h; exact absurd rfl h
 generalize Fd.of s.data.toList = R at C hR ⊢
 obtain ⟨P, why⟩ := R
 by_cases h0 : why = 0
 ·
  subst h0
  have T := Lib.hid (fun b W (hc : W.cell? ⟨b, 0, none⟩ = some (.string s)) => tcaught_room 90 #[.pointer (some ⟨b, 0, none⟩)] (fd_callFn _) P W (Lib.hid fun W' hB => (C.out b W' (fd_keep hc hB)).mono (by
   rintro e w' ⟨h1, ⟨-, v, l, h2, hr, h3, h4⟩ | ⟨h2, -⟩⟩
   ·
    exact ⟨v, l, h2, hr, h3, h4, h1⟩
   ·
    exact absurd rfl h2)))
  clear C hR
  go_enter Tryz.func62, Tryz.ntmps62
  go_wp2_with fail
  refine (T.out _ _ (by simp [go_sem])).mono ?_; rintro e w1 ⟨A, n, c, l, hnc, hst, hl, rfl, b1⟩
  have HNC := Lib.hid hnc; clear hnc
  have ST := Lib.hid hst; have HL := Lib.hid hl
  have B1 := Lib.hid (below_step ((Below.refl _ _).alloc (Nat.le_refl _) _) b1)
  clear hst hl b1
  go_wp2_with fail
  go_ret2
  exact ⟨A, n, c, l, HNC.out, ST.out, HL.out, rfl, B1.out⟩
 ·
  have hP : P = [] := hR h0
  subst hP
  have T := Lib.hid (fun b W (hc : W.cell? ⟨b, 0, none⟩ = some (.string s)) => tcaught_no 90 #[.pointer (some ⟨b, 0, none⟩)] (fd_callFn _) 0 why W (Lib.hid fun W' hB => (C.out b W' (fd_keep hc hB)).mono (by
   rintro e w' ⟨h1, ⟨h2, -⟩ | ⟨h2, h3⟩⟩
   ·
    exact absurd h2 h0
   ·
    exact ⟨h3, h1⟩)))
  clear C hR
  go_enter Tryz.func62, Tryz.ntmps62
  go_wp2_with fail
  refine (T.out _ _ (by simp [go_sem])).mono ?_; rintro e w1 ⟨rfl, b1⟩
  have B1 := Lib.hid (below_step ((Below.refl _ _).alloc (Nat.le_refl _) _) b1)
  clear b1
  go_wp2_with fail
  go_ret2
  exact ⟨none, 0, 0, [], Nat.le_refl _, StS.nil _, rfl, rfl, B1.out⟩
end Go.Proofs.YtifgiclnofdnkaaGreatDoor
set_option linter.unusedVariables false
set_option linter.unusedSimpArgs false
namespace Go.Proofs.YtifgiclnofdnkaaGreatDoor
open Go.RowKit
set_option maxHeartbeats 2000000 in
theorem lcheck_any (s : ByteArray) (w : World) (hs : s.size ≤ maxLen) :
  Calls Tryz.prog 60 #[.string s] w fun e w' => e = .returned (.int .i64 (Ln.chk s.data.toList)) ∧ Below w.heap.size w w' := by
 unfold maxLen at hs
 unfold Ln.chk
 rw [ab_len]
 by_cases h : 511 < s.size
 ·
  rw [if_pos h]
  have h1 : 511 < (s.size : Int) := by omega
  clear h
  go_enter Tryz.func60, Tryz.ntmps60
  go_wp2_with fail
  go_ret
  exact ⟨rfl, Below.refl _ _⟩
 ·
  rw [if_neg h]
  have h1 : ¬ 511 < (s.size : Int) := by omega
  have C := Lib.hid (fun W => containsWrong s W)
  generalize s.data.toList.all Ln.okB = b at C ⊢
  clear h
  cases b
  ·
   go_enter Tryz.func60, Tryz.ntmps60
   go_wp2_with fail
   refine (C.out _).mono ?_; rintro e w1 ⟨rfl, b1⟩
   go_wp2_with fail
   go_ret
   exact ⟨rfl, b1⟩
  ·
   go_enter Tryz.func60, Tryz.ntmps60
   go_wp2_with fail
   refine (C.out _).mono ?_; rintro e w1 ⟨rfl, b1⟩
   go_wp2_with fail
   go_ret
   exact ⟨rfl, b1⟩
set_option maxHeartbeats 4000000 in
set_option maxRecDepth 100000 in
theorem rlcheck_any (s : ByteArray) (w : World) (hs : s.size ≤ maxLen) :
  Calls Tryz.prog 67 #[.string s] w fun e w' => e = .returned (.int .i64 (Ln.chk s.data.toList)) ∧ Below w.heap.size w w' := by
 unfold maxLen at hs
 unfold Ln.chk
 rw [ab_len]
 by_cases h : 511 < s.size
 ·
  rw [if_pos h]
  have h1 : 511 < (s.size : Int) := by omega
  clear h
  go_enter Tryz.func67, Tryz.ntmps67
  go_wp2_with fail
  go_ret
  exact ⟨rfl, Below.refl _ _⟩
 ·
  rw [if_neg h]
  have h1 : ¬ 511 < (s.size : Int) := by omega
  clear h
  obtain ⟨b, hb⟩ : ∃ b, b = s.data.toList.all Ln.okB := ⟨_, rfl⟩
  rw [← hb]
  have HB := Lib.hid hb; clear hb
  obtain ⟨ans, hans⟩ : ∃ a : Int, a = (if b = true then 0 else 7) := ⟨_, rfl⟩
  rw [← hans]
  have HA := Lib.hid hans; clear hans
  go_enter Tryz.func67, Tryz.ntmps67
  go_wp2_with fail
  go_loopw [3] (fun i wr => ∃ k : Nat, k ≤ s.size ∧ i = .int .i64 k ∧ Hid ((s.data.toList.drop k).all Ln.okB = b) ∧ Hid (Below w.heap.size w wr)) (fun i _ => s.size - (intOf i).toNat)
  case atStart => exact ⟨0, Nat.zero_le _, rfl, HB.out.symm, Below.refl _ _⟩
  case round =>
   obtain ⟨k, hk, rfl, hr, hbw⟩ := hrel
   by_cases hlt : k < s.size
   ·
    have IX := fun W => rn_ix s k hlt W
    have hn : (Ln.okB s[k] && (s.data.toList.drop (k + 1)).all Ln.okB) = b := by rw [← hr.out, ab_drop s k hlt]; rfl
    have hc := s[k].toNat_lt
    unfold Ln.okB at hn
    obtain ⟨c, hce⟩ : ∃ c : Nat, c = s[k].toNat := ⟨_, rfl⟩
    rw [← hce] at IX hn hc
    clear hce
    by_cases c9 : c = 9
    ·
     have HY := Lib.hid (show (s.data.toList.drop (k + 1)).all Ln.okB = b by rw [← hn, decide_eq_true c9]; rfl)
     subst c9
     have IX : ∀ W, Sem.run Tryz.prog (Instr.index 9 (.string s) (.int .i64 (k : Int))) W = .ok (.int .u8 9) W := IX
     clear hn
     go_wp2_with fail
     go_roundw
     case rel => exact ⟨k + 1, by omega, by go_num, HY, hbw⟩
     case measure => simp [intOf]; omega
    ·
     have g9 : ((c : Int) == 9) = false := by rw [beq_eq_false_iff_ne]; omega
     have n9 : ((c : Int) != 9) = true := by unfold bne; rw [g9]; rfl
     by_cases c32 : c < 32
     ·
      have e := Lib.hid (show b = false by rw [← hn, decide_eq_false c9, decide_eq_false (by omega)]; rfl)
      have g : decide ((c : Int) < 32) = true := decide_eq_true (by omega)
      have g' : (c : Int) < 32 := by omega
      clear hn c9
      go_wp2_with fail
      go_ret
      refine ⟨by rw [HA.out, e.out]; rfl, ?_⟩
      exact hbw.out
     ·
      have g : decide ((c : Int) < 32) = false := decide_eq_false (by omega)
      by_cases c126 : 126 < c
      ·
       have e := Lib.hid (show b = false by rw [← hn, decide_eq_false c9, decide_eq_false (show ¬ c ≤ 126 by omega)]; simp)
       have g2 : 126 < (c : Int) := by omega
       clear hn c9
       go_wp2_with fail
       go_ret
       refine ⟨by rw [HA.out, e.out]; rfl, ?_⟩
       exact hbw.out
      ·
       have HY := Lib.hid (show (s.data.toList.drop (k + 1)).all Ln.okB = b by rw [← hn, decide_eq_false c9, decide_eq_true (show 32 ≤ c by omega), decide_eq_true (show c ≤ 126 by omega)]; rfl)
       have g2 : decide (126 < (c : Int)) = false := decide_eq_false (by omega)
       clear hn c9
       go_wp2_with fail
       go_roundw
       case rel => exact ⟨k + 1, by omega, by go_num, HY, hbw⟩
       case measure => simp [intOf]; omega
   ·
    have hyes := Lib.hid (show b = true by rw [← hr.out, List.drop_of_length_le (by rw [ab_len]; omega)]; rfl)
    go_wp2_with fail
    go_ret
    exact ⟨by rw [HA.out, hyes.out]; rfl, hbw.out⟩
end Go.Proofs.YtifgiclnofdnkaaGreatDoor
