/- Joined: QyB, FdC, FdD, WdRe. -/
import Derived.Test.YtbcbggdbojonmaaGreatDoorBy01
import Derived.Test.YtbcbggdbojonmaaGreatDoorBy10
import Derived.Test.YtbcbggdbojonmaaGreatDoorBy18
import Derived.Test.YtbcbggdbojonmaaGreatDoorBy02
import Derived.Test.YtbcbggdbojonmaaGreatDoorBy03
set_option linter.unusedVariables false
set_option linter.unusedSimpArgs false
namespace Go.Proofs.YtbcbggdbojonmaaGreatDoor
open Go.RowKit Go.Sort
set_option maxHeartbeats 2000000 in
set_option maxRecDepth 100000 in
theorem rqsecond_any (s : ByteArray) (w : World) (hs : s.size ≤ 1000) :
    Calls Tryz.prog 27 #[.string s] w fun e w' => e = .returned (.tuple #[.int .i64 (Qy.sc s.data.toList).1, .int .i64 (Qy.sc s.data.toList).2]) ∧ Below w.heap.size w w' := by
  have RN := Lib.hid (fun W => rread_any s W hs)
  have hz : s.data.toList.length = s.size := Array.length_toList
  by_cases h9 : s.size < 9
  · have ht : Qy.isT s.data.toList = false := by unfold Qy.isT; rw [hz, decide_eq_false (by omega), Bool.false_and]
    unfold Qy.sc
    rw [ht]
    simp only [Bool.false_eq_true, if_false]
    have g : decide ((9 : Int) ≤ (s.size : Int)) = false := decide_eq_false (by omega)
    clear ht hz
    generalize Num.rd s.data.toList = p at RN ⊢
    obtain ⟨n, y⟩ := p
    go_enter Tryz.func27, Tryz.ntmps27
    go_wp2_with fail
    refine (RN.out _).mono ?_; rintro e w1 ⟨rfl, rfl⟩
    go_wp2_with fail
    go_ret2
    exact ⟨rfl, Below.refl _ _⟩
  · have hi : s.size - 9 < s.size := by omega
    have IX := fun W => fd_ix s (s.size - 9) hi W
    have ht : Qy.isT s.data.toList = decide (s[s.size - 9] = 84) := by
      unfold Qy.isT
      rw [hz, decide_eq_true (by omega), Bool.true_and]
      congr 1
      rw [List.getD_eq_getElem?_getD, List.getElem?_eq_getElem (by rw [hz]; exact hi), Option.getD_some]
      rfl
    have e9 : ((s.size - 9 : Nat) : Int) = (s.size : Int) - 9 := by omega
    have IX : ∀ W, Sem.run Tryz.prog (Instr.index 9 (.string s) (.int .i64 ((s.size : Int) - 9))) W = .ok (.int .u8 s[s.size - 9].toNat) W := by rw [← e9]; exact IX
    generalize s[s.size - 9] = c at IX ht
    have g : decide ((9 : Int) ≤ (s.size : Int)) = true := decide_eq_true (by omega)
    by_cases hc : c = 84
    · subst hc
      have ht : Qy.isT s.data.toList = true := by rw [ht]; rfl
      have SR := Lib.hid (fun W => rsread_any s W hs)
      unfold Rd.rv at SR
      unfold Qy.sc
      rw [if_pos ht]
      unfold Qy.rs
      have IX : ∀ W, Sem.run Tryz.prog (Instr.index 9 (.string s) (.int .i64 ((s.size : Int) - 9))) W = .ok (.int .u8 84) W := IX
      clear RN ht hz e9
      by_cases hf : Rd.form s.data.toList = true
      · rw [if_pos hf]
        simp only [hf, if_true] at SR
        by_cases ho : Rd.ok s.data.toList = true
        · rw [if_pos ho]
          simp only [ho, if_true] at SR
          have hr : St.rB (Rd.yv (Rd.hd s.data.toList)) (Rd.pV (Rd.tl s.data.toList) 0) (Rd.pV (Rd.tl s.data.toList) 1) (Rd.pV (Rd.tl s.data.toList) 2) (Rd.pV (Rd.tl s.data.toList) 3) (Rd.pV (Rd.tl s.data.toList) 4) = true := by
            unfold Rd.ok at ho
            rw [Bool.and_eq_true, Bool.and_eq_true] at ho
            exact ho.2.2
          have SS := Lib.hid (fun W => rssecs_yes _ _ _ _ _ _ W hr)
          clear hr ho hf
          generalize St.sec (Rd.yv (Rd.hd s.data.toList)) (Rd.pV (Rd.tl s.data.toList) 0) (Rd.pV (Rd.tl s.data.toList) 1) (Rd.pV (Rd.tl s.data.toList) 2) (Rd.pV (Rd.tl s.data.toList) 3) (Rd.pV (Rd.tl s.data.toList) 4) = n at *
          generalize Rd.yv (Rd.hd s.data.toList) = v0 at *
          generalize Rd.pV (Rd.tl s.data.toList) 0 = v1 at *
          generalize Rd.pV (Rd.tl s.data.toList) 1 = v2 at *
          generalize Rd.pV (Rd.tl s.data.toList) 2 = v3 at *
          generalize Rd.pV (Rd.tl s.data.toList) 3 = v4 at *
          generalize Rd.pV (Rd.tl s.data.toList) 4 = v5 at *
          go_enter Tryz.func27, Tryz.ntmps27
          go_wp2_with fail
          refine (SR.out _).mono ?_; rintro e w1 ⟨rfl, b1⟩
          have B1 := Lib.hid b1
          clear b1
          go_wp2_with fail
          refine (SS.out _).mono ?_; rintro e w3 ⟨rfl, b3⟩
          have B3 : Hid (Below w.heap.size w w3) := Lib.hid (below_step (grB B1) b3)
          clear b3
          go_wp2_with fail
          go_ret2
          exact ⟨rfl, B3.out⟩
        · rw [if_neg ho]
          simp only [ho, if_false, Bool.false_eq_true] at SR
          go_enter Tryz.func27, Tryz.ntmps27
          go_wp2_with fail
          refine (SR.out _).mono ?_; rintro e w1 ⟨rfl, b1⟩
          have B1 := Lib.hid b1
          clear b1
          go_wp2_with fail
          go_ret2
          exact ⟨rfl, (grB B1)⟩
      · rw [if_neg hf]
        simp only [hf, if_false, Bool.false_eq_true] at SR
        go_enter Tryz.func27, Tryz.ntmps27
        go_wp2_with fail
        refine (SR.out _).mono ?_; rintro e w1 ⟨rfl, b1⟩
        have B1 := Lib.hid b1
        clear b1
        go_wp2_with fail
        go_ret2
        exact ⟨rfl, (grB B1)⟩
    · have ht : Qy.isT s.data.toList = false := by rw [ht]; exact decide_eq_false hc
      unfold Qy.sc
      rw [ht]
      simp only [Bool.false_eq_true, if_false]
      have gc : ((c.toNat : Int) == 84) = false := by
        rw [beq_eq_false_iff_ne]
        intro h
        exact hc (UInt8.toNat_inj.1 (by have : c.toNat = 84 := by omega
                                        rw [this]; rfl))
      generalize (c.toNat : Int) = C at IX gc
      clear ht hz hc e9
      generalize Num.rd s.data.toList = p at RN ⊢
      obtain ⟨n, y⟩ := p
      go_enter Tryz.func27, Tryz.ntmps27
      go_wp2_with fail
      refine (RN.out _).mono ?_; rintro e w1 ⟨rfl, rfl⟩
      go_wp2_with fail
      go_ret2
      exact ⟨rfl, Below.refl _ _⟩
end Go.Proofs.YtbcbggdbojonmaaGreatDoor
set_option linter.unusedVariables false
set_option linter.unusedSimpArgs false
namespace Go.Proofs.YtbcbggdbojonmaaGreatDoor
open Go.RowKit
theorem rblank_any (c : Int) (w : World) : Calls Tryz.prog 53 #[.int .u8 c] w fun e w' => e = .returned (.bool ((c == 9) || (c == 32))) ∧ w = w' := by
 generalize h1 : (c == 9) = b1
 generalize h2 : (c == 32) = b2
 cases b1 <;> cases b2
 all_goals
  go_enter Tryz.func53, Tryz.ntmps53
  go_wp2_with fail
  go_ret
  exact ⟨rfl, rfl⟩
namespace Fd
def fin (l : List UInt8) (pl : Bool) (r : List UInt8) : List UInt8 × Int := if r.contains 34 = true then ([], 8) else if (pl && !r.any mkB) = true then (l, 0) else (34 :: (l ++ [34]), 0)
end Fd
end Go.Proofs.YtbcbggdbojonmaaGreatDoor
set_option linter.unusedVariables false
set_option linter.unusedSimpArgs false
namespace Go.Proofs.YtbcbggdbojonmaaGreatDoor
open Go.RowKit Go.Sort
namespace Fd
theorem go_q34 (out : List (List UInt8)) (f r : List UInt8) (op : Bool) : go out f op true (34 :: r) = go out f op false r := rfl
theorem go_q (out : List (List UInt8)) (f r : List UInt8) (op : Bool) (c : UInt8) (h : c ≠ 34) : go out f op true (c :: r) = go out (f ++ [c]) op true r := by
 conv => lhs; unfold go
 rw [if_pos rfl, if_neg h]
theorem go_35 (out : List (List UInt8)) (f r : List UInt8) (op : Bool) : go out f op false (35 :: r) = some (if op = true then out ++ [f] else out) := rfl
theorem go_w (out : List (List UInt8)) (f r : List UInt8) (op : Bool) (c : UInt8) (h : isW c.toNat = true) : go out f op false (c :: r) = go (if op = true then out ++ [f] else out) [] false false r := by
 have h5 : c ≠ 35 := by rintro rfl; cases h
 rw [go_s, if_neg h5, if_pos h]
theorem go_34 (out : List (List UInt8)) (f r : List UInt8) (op : Bool) : go out f op false (34 :: r) = go out f true true r := rfl
theorem go_c (out : List (List UInt8)) (f r : List UInt8) (op : Bool) (c : UInt8) (h5 : c ≠ 35) (hw : isW c.toNat = false) (h4 : c ≠ 34) : go out f op false (c :: r) = go out (f ++ [c]) true false r := by
 rw [go_s, if_neg h5, if_neg (by rw [hw]; decide), if_neg h4]
theorem w_of (c : UInt8) : (((c.toNat : Int) == 9) || ((c.toNat : Int) == 32)) = isW c.toNat := by
 unfold isW
 rw [Bool.eq_iff_iff, Bool.or_eq_true, Bool.or_eq_true, beq_iff_eq, beq_iff_eq, decide_eq_true_eq, decide_eq_true_eq]
 omega
end Fd
def AnsFr (P : List (List UInt8) × Int) (w : World) (e : Ending) (w' : World) : Prop := ∃ (v : Value) (l : List ByteArray), StS w' v l ∧ l.map (·.data.toList) = P.1 ∧ e = .returned (.tuple #[v, .int .i64 P.2]) ∧ Below w.heap.size w w' ∧ ∃ A c, v = .slice A l.length c ∧ l.length ≤ c
theorem fd_room {w : World} {base n : Nat} {e : TypeId} {size : Nat} {v : Value} {xs : List Value} (h : w.ownsRow base e size v n xs) : ∃ A c, v = .slice A n c ∧ n ≤ c := by
 rcases h.2 with ⟨hv, hn⟩ | ⟨g, cap, cur, hv, -, -, hc, -⟩
 ·
  exact ⟨none, 0, by rw [hn]; exact hv, by omega⟩
 ·
  exact ⟨_, _, hv, hc⟩
set_option maxHeartbeats 4000000 in
set_option maxRecDepth 100000 in
theorem rfofr_any (s : ByteArray) (w : World) (hs : s.size ≤ 2000000) :
  Calls Tryz.prog 22 #[.string s] w (AnsFr (Fd.of s.data.toList) w) := by
 obtain ⟨i0, hi, hz0, hz1, hz2⟩ := fd_parts fd_info
 obtain ⟨tot, htot⟩ : ∃ tot, tot = Fd.go [] [] false false s.data.toList := ⟨_, rfl⟩
 unfold Fd.of
 rw [← htot]
 have HT := Lib.hid htot; clear htot
 have HA := Lib.hid (show AnsFr (Fd.told tot) w = AnsFr (Fd.told tot) w from rfl)
 go_enter Tryz.func22, Tryz.ntmps22
 go_wp2_with fail
 go_loopw [4, 5, 6, 7, 8] (fun v f op q i wr => ∃ (k : Nat) (l : List ByteArray) (F : ByteArray) (b1 b2 : Bool), k ≤ s.size + 1 ∧ l.length ≤ k ∧ F.size ≤ k ∧ i = .int .i64 k ∧ f = .string F ∧ op = .bool b1 ∧ q = .bool b2 ∧ Hid (wr.ownsRow w.heap.size 9 1 v l.length (l.map Value.string)) ∧ Hid ((k ≤ s.size ∧ Fd.go (l.map (·.data.toList)) F.data.toList b1 b2 (s.data.toList.drop k) = tot) ∨ (k = s.size + 1 ∧ some (l.map (·.data.toList)) = tot)) ∧ Hid (Below w.heap.size w wr)) (fun _ _ _ _ i _ => s.size + 1 - (intOf i).toNat)
 case atStart =>
  exact ⟨0, [], ⟨#[]⟩, false, false, Nat.zero_le _, Nat.le_refl _, Nat.le_refl _, rfl, rfl, rfl, rfl, World.ownsRow_nil _ _ _ _, .inl ⟨Nat.zero_le _, HT.out.symm⟩, Below.refl _ _⟩
 case round =>
  obtain ⟨k, l, F, b1, b2, hk, hlk, hF, rfl, rfl, rfl, rfl, hown, hinv, hbw⟩ := hrel
  rcases Nat.lt_trichotomy k s.size with hlt | heq | hgt
  ·
   have hinv' : Fd.go (l.map (·.data.toList)) F.data.toList b1 b2 (s.data.toList.drop k) = tot := by
    rcases hinv.out with ⟨-, h⟩ | ⟨h, -⟩
    ·
     exact h
    ·
     omega
   rw [fd_drop s k hlt] at hinv'
   have IX := fun W => fd_ix s k hlt W
   have CX : ∀ W, Sem.run Tryz.prog (Instr.slice 9 (.string s) (some (.int .i64 (k : Int))) (some (.int .i64 ((k : Int) + 1))) none) W = .ok (.string (s.extract k (k + 1))) W := fun W => fd_cut s k (k + 1) (by omega) (by omega) W
   have hone := fd_one s k hlt
   have hsz : (s.extract k (k + 1)).size = 1 := by rw [← fd_len, hone]; rfl
   generalize s.extract k (k + 1) = X at CX hone hsz
   have hwc := Fd.w_of s[k]
   have gk : ((k : Int) == (s.size : Int)) = false := by rw [beq_eq_false_iff_ne]; omega
   have gl : (k : Int) < (s.size : Int) := by omega
   generalize s[k] = c at IX hone hwc hinv'
   clear hinv
   cases b2
   ·
    by_cases h35 : c = 35
    ·
     subst h35
     rw [Fd.go_35] at hinv'
     have IX : ∀ W, Sem.run Tryz.prog (Instr.index 9 (.string s) (.int .i64 (k : Int))) W = .ok (.int .u8 35) W := IX
     clear hwc hone CX
     cases b1
     ·
      have HI := Lib.hid (show some (l.map (·.data.toList)) = tot from hinv')
      clear hinv'
      obtain ⟨A4, c4, rfl, -⟩ := Lst.own hown.out
      by_cases h16 : 16 < (l).length
      ·
       go_wp2_with fail
       go_ret2
       have e : Fd.told tot = ([], 6) := by rw [← HI.out]; exact if_pos (by rw [List.length_map]; exact h16)
       rw [e]
       exact ⟨_, [], StS.nil _, rfl, rfl, hbw.out, none, 0, rfl, Nat.le_refl _⟩
      ·
       go_wp2_with fail
       go_ret2
       have e : Fd.told tot = ((l).map (·.data.toList), 0) := by rw [← HI.out]; exact if_neg (by rw [List.length_map]; exact h16)
       rw [e]
       exact ⟨_, l, Lst.own hown.out, rfl, rfl, hbw.out, fd_room hown.out⟩
     ·
      have HI := Lib.hid (show some ((l ++ [F]).map (·.data.toList)) = tot by rw [← hinv', if_pos rfl, List.map_append]; rfl)
      clear hinv'
      go_wp2_with (at_builtin; refine wpList_append_own _ rfl _ _ 43 rfl w.heap.size 9 i0 (.string ⟨#[]⟩) 1 16 Tryz.underlying43 hi hz0 hz1 hz2 rfl (by decide) _ _ _ rfl (hown.out.alloc _) ⟨wr.heap.size, 0, none⟩ 1 1 [.string F] rfl rfl (by intro j u hj; match j, hj with | 0, hj => (simp at hj; subst hj; simp [go_sem])) (by intro u hu; simp at hu; subst hu; rfl) (by unfold maxLen; omega) (by omega) (by have := hbw.out.size; simp; omega) ?_)
      intro v6 w6 own6 grow6 _
      have B6 := Lib.hid (show Below w.heap.size w w6 from ((hbw.out.alloc hbw.out.size _).trans (below_grown grow6 (by have := hbw.out.size; simp; omega) (own_row hown.out))))
      have O6 := Lib.hid (show w6.ownsRow w.heap.size 9 1 v6 (l ++ [F]).length ((l ++ [F]).map Value.string) from by rw [List.length_append, List.map_append]; exact own6)
      clear own6 grow6 hown hbw
      obtain ⟨N, hN⟩ : ∃ N, N = (l ++ [F]).length := ⟨_, rfl⟩
      have HN := Lib.hid hN
      rw [← hN] at O6
      clear hN
      obtain ⟨A6, c6, hv6, -⟩ := Lst.own O6.out
      subst hv6
      by_cases h16 : 16 < N
      ·
       go_wp2_with fail
       go_ret2
       have e : Fd.told tot = ([], 6) := by rw [← HI.out]; exact if_pos (by rw [List.length_map, ← HN.out]; exact h16)
       rw [e]
       exact ⟨_, [], StS.nil _, rfl, rfl, B6.out, none, 0, rfl, Nat.le_refl _⟩
      ·
       go_wp2_with fail
       go_ret2
       have e : Fd.told tot = ((l ++ [F]).map (·.data.toList), 0) := by rw [← HI.out]; exact if_neg (by rw [List.length_map, ← HN.out]; exact h16)
       rw [e]
       exact ⟨_, (l ++ [F]), by have := Lst.own O6.out; rw [HN.out] at this; rw [HN.out]; exact this, rfl, rfl, B6.out, by have := fd_room O6.out; rw [HN.out] at this; rw [HN.out]; exact this⟩
    ·
     cases hw : Fd.isW c.toNat
     ·
      rw [hw] at hwc
      by_cases h34 : c = 34
      ·
       subst h34
       have IX : ∀ W, Sem.run Tryz.prog (Instr.index 9 (.string s) (.int .i64 (k : Int))) W = .ok (.int .u8 34) W := IX
       have HI := Lib.hid (show Fd.go (l.map (·.data.toList)) F.data.toList true true (s.data.toList.drop (k + 1)) = tot by rw [← hinv', Fd.go_34])
       clear hwc hone CX hinv' h35 hw
       go_wp2_with fail
       refine (rblank_any 34 _).mono ?_; rintro e v1 ⟨rfl, rfl⟩
       go_wp2_with fail
       go_roundw
       case rel => exact ⟨k + 1, l, F, true, true, by omega, by omega, by omega, by go_num, rfl, rfl, rfl, hown, Lib.hid (.inl ⟨by omega, HI.out⟩), hbw⟩
       case measure => first | (simp [intOf]; done) | (simp [intOf]; omega)
      ·
       have HI := Lib.hid (show Fd.go (l.map (·.data.toList)) (F ++ X).data.toList true false (s.data.toList.drop (k + 1)) = tot by rw [← hinv', Fd.go_c _ _ _ _ _ h35 hw h34, fd_app, hone])
       have g1 : ((c.toNat : Int) == 35) = false := by rw [beq_eq_false_iff_ne]; intro h; exact h35 (UInt8.toNat_inj.1 (by rw [show (35 : UInt8).toNat = 35 from rfl]; omega))
       have g2 : ((c.toNat : Int) == 34) = false := by rw [beq_eq_false_iff_ne]; intro h; exact h34 (UInt8.toNat_inj.1 (by rw [show (34 : UInt8).toNat = 34 from rfl]; omega))
       have e1 : (F ++ X : ByteArray).size = F.size + X.size := ByteArray.size_append ..
       generalize (c.toNat : Int) = C at IX g1 g2 hwc
       clear hinv' h35 h34 hw hone
       have RB := fun W => rblank_any C W
       rw [hwc] at RB
       go_wp2_with fail
       refine (RB _).mono ?_; rintro e v1 ⟨rfl, rfl⟩
       go_wp2_with fail
       go_roundw
       case rel => exact ⟨k + 1, l, F ++ X, true, false, by omega, by omega, by omega, by go_num, rfl, rfl, rfl, hown, Lib.hid (.inl ⟨by omega, HI.out⟩), hbw⟩
       case measure => first | (simp [intOf]; done) | (simp [intOf]; omega)
     ·
      rw [hw] at hwc
      have g1 : ((c.toNat : Int) == 35) = false := by rw [beq_eq_false_iff_ne]; intro h; exact h35 (UInt8.toNat_inj.1 (by rw [show (35 : UInt8).toNat = 35 from rfl]; omega))
      rw [Fd.go_w _ _ _ _ _ hw] at hinv'
      generalize (c.toNat : Int) = C at IX g1 hwc
      clear h35 hw hone CX
      have RB := fun W => rblank_any C W
      rw [hwc] at RB
      cases b1
      ·
       have HI := Lib.hid (show Fd.go (l.map (·.data.toList)) [] false false (s.data.toList.drop (k + 1)) = tot from hinv')
       clear hinv'
       go_wp2_with fail
       refine (RB _).mono ?_; rintro e v1 ⟨rfl, rfl⟩
       go_wp2_with fail
       go_roundw
       case rel => exact ⟨k + 1, l, ⟨#[]⟩, false, false, by omega, by omega, Nat.zero_le _, by go_num, rfl, rfl, rfl, hown, Lib.hid (.inl ⟨by omega, HI.out⟩), hbw⟩
       case measure => first | (simp [intOf]; done) | (simp [intOf]; omega)
      ·
       have HI := Lib.hid (show Fd.go ((l ++ [F]).map (·.data.toList)) [] false false (s.data.toList.drop (k + 1)) = tot by rw [← hinv', if_pos rfl, List.map_append]; rfl)
       clear hinv'
       go_wp2_with fail
       refine (RB _).mono ?_; rintro e v1 ⟨rfl, rfl⟩
       go_wp2_with (at_builtin; refine wpList_append_own _ rfl _ _ 43 rfl w.heap.size 9 i0 (.string ⟨#[]⟩) 1 16 Tryz.underlying43 hi hz0 hz1 hz2 rfl (by decide) _ _ _ rfl (hown.out.alloc _) ⟨wr.heap.size, 0, none⟩ 1 1 [.string F] rfl rfl (by intro j u hj; match j, hj with | 0, hj => (simp at hj; subst hj; simp [go_sem])) (by intro u hu; simp at hu; subst hu; rfl) (by unfold maxLen; omega) (by omega) (by have := hbw.out.size; simp; omega) ?_)
       intro v6 w6 own6 grow6 _
       have B6 := Lib.hid (show Below w.heap.size w w6 from ((hbw.out.alloc hbw.out.size _).trans (below_grown grow6 (by have := hbw.out.size; simp; omega) (own_row hown.out))))
       have O6 := Lib.hid (show w6.ownsRow w.heap.size 9 1 v6 (l ++ [F]).length ((l ++ [F]).map Value.string) from by rw [List.length_append, List.map_append]; exact own6)
       clear own6 grow6 hown hbw
       go_wp2_with fail
       go_roundw
       case rel => exact ⟨k + 1, l ++ [F], ⟨#[]⟩, false, false, by omega, by rw [List.length_append]; show l.length + 1 ≤ _; omega, Nat.zero_le _, by go_num, rfl, rfl, rfl, O6, Lib.hid (.inl ⟨by omega, HI.out⟩), B6⟩
       case measure => first | (simp [intOf]; done) | (simp [intOf]; omega)
   ·
    clear hwc
    by_cases h34 : c = 34
    ·
     subst h34
     have IX : ∀ W, Sem.run Tryz.prog (Instr.index 9 (.string s) (.int .i64 (k : Int))) W = .ok (.int .u8 34) W := IX
     have HI := Lib.hid (show Fd.go (l.map (·.data.toList)) F.data.toList b1 false (s.data.toList.drop (k + 1)) = tot by rw [← hinv', Fd.go_q34])
     clear hinv' hone CX
     go_wp2_with fail
     go_roundw
     case rel => exact ⟨k + 1, l, F, b1, false, by omega, by omega, by omega, by go_num, rfl, rfl, rfl, hown, Lib.hid (.inl ⟨by omega, HI.out⟩), hbw⟩
     case measure => first | (simp [intOf]; done) | (simp [intOf]; omega)
    ·
     have HI := Lib.hid (show Fd.go (l.map (·.data.toList)) (F ++ X).data.toList b1 true (s.data.toList.drop (k + 1)) = tot by rw [← hinv', Fd.go_q _ _ _ _ _ h34, fd_app, hone])
     have g2 : ((c.toNat : Int) == 34) = false := by rw [beq_eq_false_iff_ne]; intro h; exact h34 (UInt8.toNat_inj.1 (by rw [show (34 : UInt8).toNat = 34 from rfl]; omega))
     have e1 : (F ++ X : ByteArray).size = F.size + X.size := ByteArray.size_append ..
     generalize (c.toNat : Int) = C at IX g2
     clear hinv' h34 hone
     go_wp2_with fail
     go_roundw
     case rel => exact ⟨k + 1, l, F ++ X, b1, true, by omega, by omega, by omega, by go_num, rfl, rfl, rfl, hown, Lib.hid (.inl ⟨by omega, HI.out⟩), hbw⟩
     case measure => first | (simp [intOf]; done) | (simp [intOf]; omega)
  ·
   subst heq
   have hinv' : Fd.go (l.map (·.data.toList)) F.data.toList b1 b2 [] = tot := by
    rcases hinv.out with ⟨-, h⟩ | ⟨h, -⟩
    ·
     rw [List.drop_of_length_le (by rw [fd_len]; exact Nat.le_refl _)] at h; exact h
    ·
     omega
   clear hinv
   cases b2
   ·
    cases b1
    ·
     have HI := Lib.hid (show some (l.map (·.data.toList)) = tot from hinv')
     clear hinv'
     go_wp2_with fail
     go_roundw
     case rel => exact ⟨s.size + 1, l, ⟨#[]⟩, false, false, by omega, by omega, Nat.zero_le _, by go_num, rfl, rfl, rfl, hown, Lib.hid (.inr ⟨rfl, HI.out⟩), hbw⟩
     case measure => first | (simp [intOf]; done) | (simp [intOf]; omega)
    ·
     have HI := Lib.hid (show some ((l ++ [F]).map (·.data.toList)) = tot by rw [← hinv']; unfold Fd.go; rw [if_neg (by decide), if_pos rfl, List.map_append]; rfl)
     clear hinv'
     go_wp2_with (at_builtin; refine wpList_append_own _ rfl _ _ 43 rfl w.heap.size 9 i0 (.string ⟨#[]⟩) 1 16 Tryz.underlying43 hi hz0 hz1 hz2 rfl (by decide) _ _ _ rfl (hown.out.alloc _) ⟨wr.heap.size, 0, none⟩ 1 1 [.string F] rfl rfl (by intro j u hj; match j, hj with | 0, hj => (simp at hj; subst hj; simp [go_sem])) (by intro u hu; simp at hu; subst hu; rfl) (by unfold maxLen; omega) (by omega) (by have := hbw.out.size; simp; omega) ?_)
     intro v6 w6 own6 grow6 _
     have B6 := Lib.hid (show Below w.heap.size w w6 from ((hbw.out.alloc hbw.out.size _).trans (below_grown grow6 (by have := hbw.out.size; simp; omega) (own_row hown.out))))
     have O6 := Lib.hid (show w6.ownsRow w.heap.size 9 1 v6 (l ++ [F]).length ((l ++ [F]).map Value.string) from by rw [List.length_append, List.map_append]; exact own6)
     clear own6 grow6 hown hbw
     go_wp2_with fail
     go_roundw
     case rel => exact ⟨s.size + 1, l ++ [F], ⟨#[]⟩, false, false, by omega, by rw [List.length_append]; show l.length + 1 ≤ _; omega, Nat.zero_le _, by go_num, rfl, rfl, rfl, O6, Lib.hid (.inr ⟨rfl, HI.out⟩), B6⟩
     case measure => first | (simp [intOf]; done) | (simp [intOf]; omega)
   ·
    have HI := Lib.hid (show none = tot by rw [← hinv']; rfl)
    clear hinv'
    go_wp2_with fail
    go_ret2
    have e : Fd.told tot = ([], 8) := by rw [← HI.out]; rfl
    rw [e]
    exact ⟨_, [], StS.nil _, rfl, rfl, hbw.out, none, 0, rfl, Nat.le_refl _⟩
  ·
   have hk1 : k = s.size + 1 := by omega
   have HI : Hid (some (l.map (·.data.toList)) = tot) := by
    rcases hinv.out with ⟨h, -⟩ | ⟨-, h⟩
    ·
     omega
    ·
     exact h
   have gg : ¬ (k : Int) ≤ (s.size : Int) := by omega
   clear hinv
   obtain ⟨A4, c4, rfl, -⟩ := Lst.own hown.out
   by_cases h16 : 16 < (l).length
   ·
    go_wp2_with fail
    go_ret2
    have e : Fd.told tot = ([], 6) := by rw [← HI.out]; exact if_pos (by rw [List.length_map]; exact h16)
    rw [e]
    exact ⟨_, [], StS.nil _, rfl, rfl, hbw.out, none, 0, rfl, Nat.le_refl _⟩
   ·
    go_wp2_with fail
    go_ret2
    have e : Fd.told tot = ((l).map (·.data.toList), 0) := by rw [← HI.out]; exact if_neg (by rw [List.length_map]; exact h16)
    rw [e]
    exact ⟨_, l, Lst.own hown.out, rfl, rfl, hbw.out, fd_room hown.out⟩
theorem rfof_any (s : ByteArray) (w : World) (hs : s.size ≤ 2000000) :
  Calls Tryz.prog 22 #[.string s] w (AnsF (Fd.of s.data.toList) w) :=
 (rfofr_any s w hs).mono (by rintro e w' ⟨v, l, h1, h2, h3, h4, -⟩; exact ⟨v, l, h1, h2, h3, h4⟩)
end Go.Proofs.YtbcbggdbojonmaaGreatDoor
set_option linter.unusedVariables false
set_option linter.unusedSimpArgs false
namespace Go.Proofs.YtbcbggdbojonmaaGreatDoor
section
open Go.RowKit
set_option maxHeartbeats 1000000 in
theorem low_any (b : UInt8) (w : World) : Calls Tryz.prog 85 #[.int .u8 b.toNat] w fun e w' => e = .returned (.int .u8 (Wd.sm b)) ∧ w = w' := by
 have hb := b.toNat_lt
 obtain ⟨n, hn⟩ : ∃ n : Int, n = b.toNat := ⟨_, rfl⟩
 have E : Wd.sm b = if 65 ≤ n ∧ n ≤ 90 then n + 32 else n := by unfold Wd.sm; rw [hn]
 rw [E, ← hn]
 have n0 : 0 ≤ n := by omega
 have n1 : n < 256 := by omega
 clear E hn hb
 by_cases c1 : 65 ≤ n
 ·
  by_cases c2 : n ≤ 90
  ·
   rw [if_pos ⟨c1, c2⟩]
   go_enter Tryz.func85, Tryz.ntmps85
   go_wp2
   go_ret
   exact ⟨by first | rfl | (show Ending.returned (.int .u8 (n - 65 + 97)) = _; rw [show n - 65 + 97 = n + 32 by omega]), rfl⟩
  ·
   rw [if_neg (fun h => c2 h.2)]
   have g : decide (n ≤ 90) = false := decide_eq_false c2
   go_enter Tryz.func85, Tryz.ntmps85
   go_wp2
   go_ret
   exact ⟨rfl, rfl⟩
 ·
  rw [if_neg (fun h => c1 h.1)]
  have g : decide (65 ≤ n) = false := decide_eq_false c1
  go_enter Tryz.func85, Tryz.ntmps85
  go_wp2
  go_ret
  exact ⟨rfl, rfl⟩
set_option maxHeartbeats 2000000 in
set_option maxRecDepth 100000 in
theorem beginsr_any (a b : ByteArray) (w : World) (ha : a.size ≤ maxLen) (hb : b.size ≤ maxLen) :
  Calls Tryz.prog 55 #[.string a, .string b] w fun e w' => e = .returned (.bool (Wd.beg a.data.toList b.data.toList)) ∧ ∃ k, w' = w.drewN k := by
 unfold maxLen at ha hb
 by_cases hs : (a.size : Int) < (b.size : Int)
 ·
  rw [Wd.beg_short (by rw [blen, blen]; omega)]
  go_enter Tryz.func55, Tryz.ntmps55
  go_wp2
  go_ret
  exact ⟨rfl, 0, rfl⟩
 ·
  obtain ⟨ans, hans⟩ : ∃ ans, ans = Wd.beg a.data.toList b.data.toList := ⟨_, rfl⟩
  rw [← hans]
  have HA := Lib.hid hans; clear hans
  go_enter Tryz.func55, Tryz.ntmps55
  go_wp2_with fail
  go_loopw [5] (fun i wr => ∃ k j : Nat, k ≤ b.size ∧ i = .int .i64 k ∧ (∀ i (h1 : i < a.data.toList.length) (h2 : i < b.data.toList.length), i < k → Wd.sm a.data.toList[i] = Wd.sm b.data.toList[i]) ∧ wr = w.drewN j) (fun i _ => b.size - (intOf i).toNat)
  case atStart => exact ⟨0, 0, Nat.zero_le _, rfl, fun i _ _ h => absurd h (Nat.not_lt_zero _), rfl⟩
  case round =>
   obtain ⟨k, j, hk, rfl, hall, hw⟩ := hrel
   have HL := Lib.hid hall; have HW := Lib.hid hw; clear hall hw
   by_cases hlt : k < b.size
   ·
    have hlta : k < a.size := by omega
    by_cases he : Wd.sm a[k] = Wd.sm b[k]
    ·
     have HE := Lib.hid he
     have g : (Wd.sm a[k] == Wd.sm b[k]) = true := by rw [beq_iff_eq]; exact he
     clear he
     go_wp2_with fail
     go_quiet ((go_at_call 85; exact Calls.quiet_of_same ((low_any _ _).mono fun _ _ ⟨h1, h2⟩ => ⟨h1, h2.symm⟩)))
     go_wp2_with fail
     go_roundw
     case rel =>
      refine ⟨k + 1, _, by omega, by go_num, ?_, by rw [HW.out, World.drewN_drewN]⟩
      intro i h1 h2 h3
      by_cases hik : i = k
      ·
       subst hik; exact HE.out
      ·
       exact HL.out i h1 h2 (by omega)
     case measure => simp [intOf]; omega
    ·
     have g : (Wd.sm a[k] == Wd.sm b[k]) = false := by rw [beq_eq_false_iff_ne]; exact he
     have hno : ans = false := by
      rw [HA.out]
      exact Wd.beg_no (i := k) (by rw [blen]; exact hlta) (by rw [blen]; exact hlt) (by rw [bget hlta, bget hlt]; exact he)
     have HN := Lib.hid hno
     clear hno he
     go_wp2_with fail
     go_quiet ((go_at_call 85; exact Calls.quiet_of_same ((low_any _ _).mono fun _ _ ⟨h1, h2⟩ => ⟨h1, h2.symm⟩)))
     go_wp2_with fail
     go_ret
     exact ⟨by rw [HN.out]; rfl, _, by rw [HW.out, World.drewN_drewN]⟩
   ·
    have hyes : ans = true := by
     rw [HA.out]
     exact Wd.beg_yes (by rw [blen, blen]; omega) (fun i h1 h2 => HL.out i h1 h2 (by rw [blen] at h2; omega))
    have HY := Lib.hid hyes; clear hyes
    go_wp2_with fail
    go_ret
    exact ⟨by rw [HY.out]; rfl, _, HW.out⟩
set_option maxHeartbeats 1000000 in
theorem wsamer_any (a b : ByteArray) (w : World) (ha : a.size ≤ maxLen) (hb : b.size ≤ maxLen) :
  Calls Tryz.prog 54 #[.string a, .string b] w fun e w' => e = .returned (.bool (Wd.same a.data.toList b.data.toList)) ∧ ∃ k, w' = w.drewN k := by
 have C := Lib.hid (fun w => beginsr_any a b w ha hb)
 have E := Lib.hid (show Wd.same a.data.toList b.data.toList = (decide (a.size = b.size) && Wd.beg a.data.toList b.data.toList) by unfold Wd.same; rw [blen, blen])
 generalize Wd.same a.data.toList b.data.toList = ans at E
 generalize Wd.beg a.data.toList b.data.toList = bg at C E
 by_cases hs : a.size = b.size
 ·
  have g : ((a.size : Int) == (b.size : Int)) = true := by rw [beq_iff_eq]; omega
  have E2 := Lib.hid (show ans = bg by rw [E.out, hs]; simp)
  clear E hs
  go_enter Tryz.func54, Tryz.ntmps54
  go_wp2_with fail
  refine (C.out _).mono ?_; rintro e w1 ⟨rfl, k, rfl⟩
  go_wp2_with fail
  go_ret
  exact ⟨by rw [E2.out]; rfl, k, rfl⟩
 ·
  have g : ((a.size : Int) == (b.size : Int)) = false := by rw [beq_eq_false_iff_ne]; omega
  have E2 := Lib.hid (show ans = false by rw [E.out, decide_eq_false hs]; rfl)
  clear E hs
  go_enter Tryz.func54, Tryz.ntmps54
  go_wp2_with fail
  go_ret
  exact ⟨by rw [E2.out]; rfl, 0, rfl⟩
end
section
open Go.RowKit Go.Sort
namespace Wd
def ref2 (s : List UInt8) (all : List ByteArray) : List ByteArray → Nat → Int → Int × Int
 | [], _, f => if f < 0 then (0, 3) else (f, 0)
 | x :: r, i, f => if beg x.data.toList s = false then ref2 s all r (i + 1) f else if f < 0 then ref2 s all r (i + 1) (i : Int)
  else if same (all.getD f.toNat ByteArray.empty).data.toList x.data.toList = true then ref2 s all r (i + 1) f else (0, 3)
def ref1 (s : List UInt8) (all : List ByteArray) : List ByteArray → Nat → Int × Int
 | [], _ => ref2 s all all 0 (-1)
 | x :: r, i => if same x.data.toList s = true then ((i : Int), 0) else ref1 s all r (i + 1)
theorem ref2_step {s : List UInt8} {all : List ByteArray} {k : Nat} {f : Int} (h : k < all.length) : ref2 s all (all.drop k) k f =
  if beg all[k].data.toList s = false then ref2 s all (all.drop (k + 1)) (k + 1) f else if f < 0 then ref2 s all (all.drop (k + 1)) (k + 1) (k : Int)
  else if same (all.getD f.toNat ByteArray.empty).data.toList all[k].data.toList = true then ref2 s all (all.drop (k + 1)) (k + 1) f else (0, 3) := by
 rw [List.drop_eq_getElem_cons h]
 rfl
theorem ref1_step {s : List UInt8} {all : List ByteArray} {k : Nat} (h : k < all.length) : ref1 s all (all.drop k) k = if same all[k].data.toList s = true then ((k : Int), 0) else ref1 s all (all.drop (k + 1)) (k + 1) := by
 rw [List.drop_eq_getElem_cons h]
 rfl
theorem run_exact {s : List UInt8} {all : List ByteArray} : ∀ (r : List ByteArray) (i : Nat) (f : Int) (sv : Bool), (∃ x ∈ r, same x.data.toList s = true) → run s all r i f sv = ref1 s all r i := by
 intro r
 induction r with
 | nil => intro i f sv ⟨x, hx, _⟩; cases hx
 | cons y r ih =>
  intro i f sv hex
  unfold run ref1
  by_cases h : same y.data.toList s = true
  ·
   rw [if_pos h, if_pos h]
  ·
   rw [if_neg h, if_neg h]
   have hr : ∃ x ∈ r, same x.data.toList s = true := by
    obtain ⟨x, hx, he⟩ := hex
    rcases List.mem_cons.1 hx with rfl | hx
    ·
     exact absurd he h
    ·
     exact ⟨x, hx, he⟩
   split
   ·
    exact ih _ _ _ hr
   ·
    split
    ·
     exact ih _ _ _ hr
    ·
     split <;> exact ih _ _ _ hr
theorem run_many {s : List UInt8} {all : List ByteArray} : ∀ (r : List ByteArray) (i : Nat) (f : Int), (∀ x ∈ r, ¬ same x.data.toList s = true) → run s all r i f true = (0, 3) := by
 intro r
 induction r with
 | nil => intro i f _; rw [run_nil, if_pos (.inr rfl)]
 | cons y r ih =>
  intro i f hno
  have hr : ∀ x ∈ r, ¬ same x.data.toList s = true := fun x hx => hno x (List.mem_cons_of_mem _ hx)
  unfold run
  rw [if_neg (hno y (List.mem_cons_self ..))]
  split
  ·
   exact ih _ _ hr
  ·
   split
   ·
    exact ih _ _ hr
   ·
    split <;> exact ih _ _ hr
theorem run_ref2 {s : List UInt8} {all : List ByteArray} : ∀ (r : List ByteArray) (i : Nat) (f : Int), (∀ x ∈ r, ¬ same x.data.toList s = true) → run s all r i f false = ref2 s all r i f := by
 intro r
 induction r with
 | nil => intro i f _; rw [run_nil]; unfold ref2; simp
 | cons y r ih =>
  intro i f hno
  have hr : ∀ x ∈ r, ¬ same x.data.toList s = true := fun x hx => hno x (List.mem_cons_of_mem _ hx)
  unfold run ref2
  rw [if_neg (hno y (List.mem_cons_self ..))]
  split
  ·
   exact ih _ _ hr
  ·
   split
   ·
    exact ih _ _ hr
   ·
    rw [same_comm]
    split
    ·
     exact ih _ _ hr
    ·
     exact run_many _ _ _ hr
theorem ref1_no {s : List UInt8} {all : List ByteArray} : ∀ (r : List ByteArray) (i : Nat), (∀ x ∈ r, ¬ same x.data.toList s = true) → ref1 s all r i = ref2 s all all 0 (-1) := by
 intro r
 induction r with
 | nil => intro i _; rfl
 | cons y r ih =>
  intro i hno
  unfold ref1
  rw [if_neg (hno y (List.mem_cons_self ..))]
  exact ih _ (fun x hx => hno x (List.mem_cons_of_mem _ hx))
theorem mat_ref {s : List UInt8} {all : List ByteArray} (h : s ≠ []) : mat s all = ref1 s all all 0 := by
 unfold mat
 rw [if_neg h]
 by_cases hex : ∃ x ∈ all, same x.data.toList s = true
 ·
  exact run_exact _ _ _ _ hex
 ·
  have hno : ∀ x ∈ all, ¬ same x.data.toList s = true := fun x hx he => hex ⟨x, hx, he⟩
  rw [run_ref2 _ _ _ hno, ref1_no _ _ hno]
end Wd
end
section
open Go.RowKit Go.Sort
set_option maxHeartbeats 4000000 in
set_option maxRecDepth 100000 in
theorem matchr_any (s : ByteArray) (v : Value) (l : List ByteArray) (w : World) (hv : StS w v l) (hs : s.size ≤ maxLen) (hz : ∀ x ∈ l, x.size ≤ maxLen) (hm : l.length ≤ maxLen) :
  Calls Tryz.prog 23 #[.string s, v] w fun e w' => e = .returned (.tuple #[.int .i64 (Wd.mat s.data.toList l).1, .int .i64 (Wd.mat s.data.toList l).2]) ∧ ∃ k, w' = w.drewN k := by
 unfold maxLen at hm
 have HS := Lib.hid hs; clear hs
 by_cases h0 : s.size = 0
 ·
  rw [show Wd.mat s.data.toList l = (0, 3) by unfold Wd.mat; rw [if_pos (by rw [← List.length_eq_zero_iff, blen]; exact h0)]]
  obtain rfl := s_nil h0
  obtain ⟨A, c, rfl, -⟩ := hv
  go_enter Tryz.func23, Tryz.ntmps23
  go_wp2
  go_ret2
  exact ⟨rfl, 0, rfl⟩
 ·
  obtain ⟨t1, t2⟩ := wdne (ds := s) (by omega)
  have hne : s.data.toList ≠ [] := fun e => h0 (by rw [← blen, e]; rfl)
  obtain ⟨ans, hans⟩ : ∃ ans, ans = Wd.mat s.data.toList l := ⟨_, rfl⟩
  rw [← hans]
  have HA := Lib.hid (show Wd.ref1 s.data.toList l (l.drop 0) 0 = ans by rw [hans, Wd.mat_ref hne]; rfl)
  have HV := Lib.hid hv
  obtain ⟨A, c, rfl, -⟩ := hv
  generalize hn : l.length = n at *
  have HN := Lib.hid hn
  have HZ := Lib.hid hz
  clear hn hz hans h0 hne
  go_enter Tryz.func23, Tryz.ntmps23
  go_wp2_with fail
  go_loopw [15] (fun i wr => ∃ (k j : Nat), k ≤ n ∧ i = .int .i64 k ∧ Wd.ref1 s.data.toList l (l.drop k) k = ans ∧ wr = w.drewN j) (fun i _ => n - (intOf i).toNat)
  case atStart => exact ⟨0, 0, Nat.zero_le _, rfl, HA.out, rfl⟩
  case round =>
   obtain ⟨k, j, hk, rfl, hr, rfl⟩ := hrel
   have HR := Lib.hid hr; clear hr
   by_cases hlt : k < n
   ·
    obtain ⟨a, rfl, g1⟩ := HV.out.get k (by rw [HN.out]; exact hlt)
    have CS := Lib.hid (fun W => wsamer_any (l[k]'(by rw [HN.out]; exact hlt)) s W (HZ.out _ (List.getElem_mem _)) HS.out)
    have ST := Lib.hid (Wd.ref1_step (s := s.data.toList) (all := l) (k := k) (by rw [HN.out]; exact hlt))
    generalize hx : (l[k]'(by rw [HN.out]; exact hlt)) = x at *
    cases c1 : Wd.same x.data.toList s.data.toList
    ·
     have C1 := Lib.hid c1
     have HE := Lib.hid (show Wd.ref1 s.data.toList l (l.drop (k + 1)) (k + 1) = ans by rw [← HR.out, ST.out, c1]; simp)
     clear c1
     go_wp2_with fail
     refine (CS.out _).mono ?_; rintro e w1 ⟨rfl, j1, rfl⟩
     rw [C1.out]
     go_wp2_with fail
     go_roundw
     case rel => exact ⟨k + 1, _, by omega, by go_num, HE.out, by first | rfl | simp only [World.drewN_drewN]⟩
     case measure => simp [intOf]; omega
    ·
     have C1 := Lib.hid c1
     have HE := Lib.hid (show ans = ((k : Int), 0) by rw [← HR.out, ST.out, c1]; simp)
     clear c1
     go_wp2_with fail
     refine (CS.out _).mono ?_; rintro e w1 ⟨rfl, j1, rfl⟩
     rw [C1.out]
     go_wp2_with fail
     go_ret2
     exact ⟨by rw [HE.out]; rfl, _, by first | rfl | simp only [World.drewN_drewN]⟩
   ·
    have H2 := Lib.hid (show Wd.ref2 s.data.toList l (l.drop 0) 0 (-1) = ans by have e := HR.out; rw [List.drop_of_length_le (show l.length ≤ k by rw [HN.out]; omega)] at e; exact e)
    clear HR HA
    go_wp2_with fail
    go_loopw [8, 27] (fun fv i wr => ∃ (k j : Nat) (f : Int), k ≤ n ∧ i = .int .i64 k ∧ fv = .int .i64 f ∧ -1 ≤ f ∧ f < n ∧ Wd.ref2 s.data.toList l (l.drop k) k f = ans ∧ wr = w.drewN j) (fun _ i _ => n - (intOf i).toNat)
    case atStart => exact ⟨0, _, -1, Nat.zero_le _, rfl, rfl, by omega, by omega, H2.out, rfl⟩
    case round =>
     obtain ⟨k, j, f, hk, rfl, rfl, f0, f1, hr, rfl⟩ := hrel
     have HR := Lib.hid hr; clear hr
     by_cases hlt : k < n
     ·
      obtain ⟨a, rfl, g1⟩ := HV.out.get k (by rw [HN.out]; exact hlt)
      have CB := Lib.hid (fun W => beginsr_any (l[k]'(by rw [HN.out]; exact hlt)) s W (HZ.out _ (List.getElem_mem _)) HS.out)
      have ST := Lib.hid (Wd.ref2_step (s := s.data.toList) (all := l) (k := k) (f := f) (by rw [HN.out]; exact hlt))
      generalize hx : (l[k]'(by rw [HN.out]; exact hlt)) = x at *
      cases c2 : Wd.beg x.data.toList s.data.toList
      ·
       have C2 := Lib.hid c2
       have HE := Lib.hid (show Wd.ref2 s.data.toList l (l.drop (k + 1)) (k + 1) f = ans by rw [← HR.out, ST.out, c2]; simp)
       clear c2
       go_wp2_with fail
       refine (CB.out _).mono ?_; rintro e w2 ⟨rfl, j2, rfl⟩
       rw [C2.out]
       go_wp2_with fail
       go_roundw
       case rel => exact ⟨k + 1, _, f, by omega, by go_num, rfl, by omega, by omega, HE.out, by first | rfl | simp only [World.drewN_drewN]⟩
       case measure => simp [intOf]; omega
      ·
       have C2 := Lib.hid c2
       by_cases c3 : f < 0
       ·
        have HE := Lib.hid (show Wd.ref2 s.data.toList l (l.drop (k + 1)) (k + 1) (k : Int) = ans by rw [← HR.out, ST.out, c2]; simp [c3])
        clear c2
        go_wp2_with fail
        refine (CB.out _).mono ?_; rintro e w2 ⟨rfl, j2, rfl⟩
        rw [C2.out]
        go_wp2_with fail
        go_roundw
        case rel => exact ⟨k + 1, _, (k : Int), by omega, by go_num, rfl, by omega, by omega, HE.out, by first | rfl | simp only [World.drewN_drewN]⟩
        case measure => simp [intOf]; omega
       ·
        have f2 : 0 ≤ f := by omega
        have hfl : f.toNat < l.length := by rw [HN.out]; omega
        obtain ⟨a', ha', g2⟩ := HV.out.get f.toNat hfl
        obtain rfl : a = a' := by injection ha'
        have CY := Lib.hid (fun W => wsamer_any (l[f.toNat]'hfl) x W (HZ.out _ (List.getElem_mem _)) (by rw [← hx]; exact HZ.out _ (List.getElem_mem _)))
        have GD := Lib.hid (show l.getD f.toNat ByteArray.empty = l[f.toNat]'hfl by simp [List.getD, List.getElem?_eq_getElem hfl])
        generalize hy : l[f.toNat]'hfl = y at *
        cases c4 : Wd.same y.data.toList x.data.toList
        ·
         have C4 := Lib.hid c4
         have HE := Lib.hid (show ans = (0, 3) by rw [← HR.out, ST.out, c2, GD.out, c4]; simp [c3])
         clear c2 c4
         go_wp2_with fail
         refine (CB.out _).mono ?_; rintro e w2 ⟨rfl, j2, rfl⟩
         rw [C2.out]
         go_wp2_with fail
         refine (CY.out _).mono ?_; rintro e w3 ⟨rfl, j3, rfl⟩
         rw [C4.out]
         go_wp2_with fail
         go_ret2
         exact ⟨by rw [HE.out]; rfl, _, by first | rfl | simp only [World.drewN_drewN]⟩
        ·
         have C4 := Lib.hid c4
         have HE := Lib.hid (show Wd.ref2 s.data.toList l (l.drop (k + 1)) (k + 1) f = ans by rw [← HR.out, ST.out, c2, GD.out, c4]; simp [c3])
         clear c2 c4
         go_wp2_with fail
         refine (CB.out _).mono ?_; rintro e w2 ⟨rfl, j2, rfl⟩
         rw [C2.out]
         go_wp2_with fail
         refine (CY.out _).mono ?_; rintro e w3 ⟨rfl, j3, rfl⟩
         rw [C4.out]
         go_wp2_with fail
         go_roundw
         case rel => exact ⟨k + 1, _, f, by omega, by go_num, rfl, by omega, by omega, HE.out, by first | rfl | simp only [World.drewN_drewN]⟩
         case measure => simp [intOf]; omega
     ·
      have HE := Lib.hid (show ans = if f < 0 then (0, 3) else (f, 0) by rw [← HR.out, List.drop_of_length_le (by rw [HN.out]; omega)]; rfl)
      by_cases c3 : f < 0
      ·
       have HE2 := Lib.hid (show ans = (0, 3) by rw [HE.out]; simp [c3])
       clear HE
       go_wp2_with fail
       go_ret2
       exact ⟨by rw [HE2.out]; rfl, _, rfl⟩
      ·
       have HE2 := Lib.hid (show ans = (f, 0) by rw [HE.out]; simp [c3])
       clear HE
       go_wp2_with fail
       go_ret2
       exact ⟨by rw [HE2.out]; rfl, _, rfl⟩
end
end Go.Proofs.YtbcbggdbojonmaaGreatDoor
