/- Joined: FdD. -/
import Derived.Test.YtifgiclnofdnkaaGreatDoorBy01
import Derived.Test.YtifgiclnofdnkaaGreatDoorBy07
import Derived.Test.YtifgiclnofdnkaaGreatDoorBy31
set_option linter.unusedVariables false
set_option linter.unusedSimpArgs false
namespace Go.Proofs.YtifgiclnofdnkaaGreatDoor
open Go.RowKit Go.Sort
namespace Fd
theorem go_q34 (out : List (List UInt8)) (f r : List UInt8) (op : Bool) : go out f op true (34 :: r) = go out f op false r := rfl
theorem go_q (out : List (List UInt8)) (f r : List UInt8) (op : Bool) (c : UInt8) (h : c ≠ 34) : go out f op true (c :: r) = go out (f ++ [c]) op true r := by
 conv => lhs; unfold go
 rw [if_pos rfl, if_neg h]
theorem go_35 (out : List (List UInt8)) (f r : List UInt8) (op : Bool) : go out f op false (35 :: r) = some (if op = true then out ++ [f] else out) := rfl
theorem go_w (out : List (List UInt8)) (f r : List UInt8) (op : Bool) (c : UInt8) (h : isW c.toNat = true) : go out f op false (c :: r) = go (if op = true then out ++ [f] else out) [] false false r := by
 have h5 : c ≠ 35 := by rintro rfl; cases h
 rw [go_s, if_neg h5, if_pos h]
theorem go_34 (out : List (List UInt8)) (f r : List UInt8) (op : Bool) : go out f op false (34 :: r) = go out f true true r := rfl
theorem go_c (out : List (List UInt8)) (f r : List UInt8) (op : Bool) (c : UInt8) (h5 : c ≠ 35) (hw : isW c.toNat = false) (h4 : c ≠ 34) : go out f op false (c :: r) = go out (f ++ [c]) true false r := by
 rw [go_s, if_neg h5, if_neg (by rw [hw]; decide), if_neg h4]
theorem w_of (c : UInt8) : (((c.toNat : Int) == 9) || ((c.toNat : Int) == 32)) = isW c.toNat := by
 unfold isW
 rw [Bool.eq_iff_iff, Bool.or_eq_true, Bool.or_eq_true, beq_iff_eq, beq_iff_eq, decide_eq_true_eq, decide_eq_true_eq]
 omega
end Fd
def AnsFr (P : List (List UInt8) × Int) (w : World) (e : Ending) (w' : World) : Prop := ∃ (v : Value) (l : List ByteArray), StS w' v l ∧ l.map (·.data.toList) = P.1 ∧ e = .returned (.tuple #[v, .int .i64 P.2]) ∧ Below w.heap.size w w' ∧ ∃ A c, v = .slice A l.length c ∧ l.length ≤ c
theorem fd_room {w : World} {base n : Nat} {e : TypeId} {size : Nat} {v : Value} {xs : List Value} (h : w.ownsRow base e size v n xs) : ∃ A c, v = .slice A n c ∧ n ≤ c := by
 rcases h.2 with ⟨hv, hn⟩ | ⟨g, cap, cur, hv, -, -, hc, -⟩
 ·
  exact ⟨none, 0, by rw [hn]; exact hv, by omega⟩
 ·
  exact ⟨_, _, hv, hc⟩
set_option maxHeartbeats 4000000 in
set_option maxRecDepth 100000 in
theorem rfofr_any (s : ByteArray) (w : World) (hs : s.size ≤ 2000000) :
  Calls Tryz.prog 68 #[.string s] w (AnsFr (Fd.of s.data.toList) w) := by
 obtain ⟨i0, hi, hz0, hz1, hz2⟩ := fd_parts fd_info
 obtain ⟨tot, htot⟩ : ∃ tot, tot = Fd.go [] [] false false s.data.toList := ⟨_, rfl⟩
 unfold Fd.of
 rw [← htot]
 have HT := Lib.hid htot; clear htot
 have HA := Lib.hid (show AnsFr (Fd.told tot) w = AnsFr (Fd.told tot) w from rfl)
 go_enter Tryz.func68, Tryz.ntmps68
 go_wp2_with fail
 go_loopw [4, 5, 6, 7, 8] (fun v f op q i wr => ∃ (k : Nat) (l : List ByteArray) (F : ByteArray) (b1 b2 : Bool), k ≤ s.size + 1 ∧ l.length ≤ k ∧ F.size ≤ k ∧ i = .int .i64 k ∧ f = .string F ∧ op = .bool b1 ∧ q = .bool b2 ∧ Hid (wr.ownsRow w.heap.size 9 1 v l.length (l.map Value.string)) ∧ Hid ((k ≤ s.size ∧ Fd.go (l.map (·.data.toList)) F.data.toList b1 b2 (s.data.toList.drop k) = tot) ∨ (k = s.size + 1 ∧ some (l.map (·.data.toList)) = tot)) ∧ Hid (Below w.heap.size w wr)) (fun _ _ _ _ i _ => s.size + 1 - (intOf i).toNat)
 case atStart =>
  exact ⟨0, [], ⟨#[]⟩, false, false, Nat.zero_le _, Nat.le_refl _, Nat.le_refl _, rfl, rfl, rfl, rfl, World.ownsRow_nil _ _ _ _, .inl ⟨Nat.zero_le _, HT.out.symm⟩, Below.refl _ _⟩
 case round =>
  obtain ⟨k, l, F, b1, b2, hk, hlk, hF, rfl, rfl, rfl, rfl, hown, hinv, hbw⟩ := hrel
  rcases Nat.lt_trichotomy k s.size with hlt | heq | hgt
  ·
   have hinv' : Fd.go (l.map (·.data.toList)) F.data.toList b1 b2 (s.data.toList.drop k) = tot := by
    rcases hinv.out with ⟨-, h⟩ | ⟨h, -⟩
    ·
     exact h
    ·
     omega
   rw [fd_drop s k hlt] at hinv'
   have IX := fun W => fd_ix s k hlt W
   have CX : ∀ W, Sem.run Tryz.prog (Instr.slice 9 (.string s) (some (.int .i64 (k : Int))) (some (.int .i64 ((k : Int) + 1))) none) W = .ok (.string (s.extract k (k + 1))) W := fun W => fd_cut s k (k + 1) (by omega) (by omega) W
   have hone := fd_one s k hlt
   have hsz : (s.extract k (k + 1)).size = 1 := by rw [← fd_len, hone]; rfl
   generalize s.extract k (k + 1) = X at CX hone hsz
   have hwc := Fd.w_of s[k]
   have gk : ((k : Int) == (s.size : Int)) = false := by rw [beq_eq_false_iff_ne]; omega
   have gl : (k : Int) < (s.size : Int) := by omega
   generalize s[k] = c at IX hone hwc hinv'
   clear hinv
   cases b2
   ·
    by_cases h35 : c = 35
    ·
     subst h35
     rw [Fd.go_35] at hinv'
     have IX : ∀ W, Sem.run Tryz.prog (Instr.index 9 (.string s) (.int .i64 (k : Int))) W = .ok (.int .u8 35) W := IX
     clear hwc hone CX
     cases b1
     ·
      have HI := Lib.hid (show some (l.map (·.data.toList)) = tot from hinv')
      clear hinv'
      obtain ⟨A4, c4, rfl, -⟩ := Lst.own hown.out
      by_cases h16 : 16 < (l).length
      ·
       go_wp2_with fail
       go_ret2
       have e : Fd.told tot = ([], 6) := by rw [← HI.out]; exact if_pos (by rw [List.length_map]; exact h16)
       rw [e]
       exact ⟨_, [], StS.nil _, rfl, rfl, hbw.out, none, 0, rfl, Nat.le_refl _⟩
      ·
       go_wp2_with fail
       go_ret2
       have e : Fd.told tot = ((l).map (·.data.toList), 0) := by rw [← HI.out]; exact if_neg (by rw [List.length_map]; exact h16)
       rw [e]
       exact ⟨_, l, Lst.own hown.out, rfl, rfl, hbw.out, fd_room hown.out⟩
     ·
      have HI := Lib.hid (show some ((l ++ [F]).map (·.data.toList)) = tot by rw [← hinv', if_pos rfl, List.map_append]; rfl)
      clear hinv'
      go_wp2_with (at_builtin; refine wpList_append_own _ rfl _ _ 46 rfl w.heap.size 9 i0 (.string ⟨#[]⟩) 1 16 Tryz.underlying46 hi hz0 hz1 hz2 rfl (by decide) _ _ _ rfl (hown.out.alloc _) ⟨wr.heap.size, 0, none⟩ 1 1 [.string F] rfl rfl (by intro j u hj; match j, hj with | 0, hj => (simp at hj; subst hj; simp [go_sem])) (by intro u hu; simp at hu; subst hu; rfl) (by unfold maxLen; omega) (by omega) (by have := hbw.out.size; simp; omega) ?_)
      intro v6 w6 own6 grow6 _
      have B6 := Lib.hid (show Below w.heap.size w w6 from ((hbw.out.alloc hbw.out.size _).trans (below_grown grow6 (by have := hbw.out.size; simp; omega) (own_row hown.out))))
      have O6 := Lib.hid (show w6.ownsRow w.heap.size 9 1 v6 (l ++ [F]).length ((l ++ [F]).map Value.string) from by rw [List.length_append, List.map_append]; exact own6)
      clear own6 grow6 hown hbw
      obtain ⟨N, hN⟩ : ∃ N, N = (l ++ [F]).length := ⟨_, rfl⟩
      have HN := Lib.hid hN
      rw [← hN] at O6
      clear hN
      obtain ⟨A6, c6, hv6, -⟩ := Lst.own O6.out
      subst hv6
      by_cases h16 : 16 < N
      ·
       go_wp2_with fail
       go_ret2
       have e : Fd.told tot = ([], 6) := by rw [← HI.out]; exact if_pos (by rw [List.length_map, ← HN.out]; exact h16)
       rw [e]
       exact ⟨_, [], StS.nil _, rfl, rfl, B6.out, none, 0, rfl, Nat.le_refl _⟩
      ·
       go_wp2_with fail
       go_ret2
       have e : Fd.told tot = ((l ++ [F]).map (·.data.toList), 0) := by rw [← HI.out]; exact if_neg (by rw [List.length_map, ← HN.out]; exact h16)
       rw [e]
       exact ⟨_, (l ++ [F]), by have := Lst.own O6.out; rw [HN.out] at this; rw [HN.out]; exact this, rfl, rfl, B6.out, by have := fd_room O6.out; rw [HN.out] at this; rw [HN.out]; exact this⟩
    ·
     cases hw : Fd.isW c.toNat
     ·
      rw [hw] at hwc
      by_cases h34 : c = 34
      ·
       subst h34
       have IX : ∀ W, Sem.run Tryz.prog (Instr.index 9 (.string s) (.int .i64 (k : Int))) W = .ok (.int .u8 34) W := IX
       have HI := Lib.hid (show Fd.go (l.map (·.data.toList)) F.data.toList true true (s.data.toList.drop (k + 1)) = tot by rw [← hinv', Fd.go_34])
       clear hwc hone CX hinv' h35 hw
       go_wp2_with fail
       refine (rblank_any 34 _).mono ?_; rintro e v1 ⟨rfl, rfl⟩
       go_wp2_with fail
       go_roundw
       case rel => exact ⟨k + 1, l, F, true, true, by omega, by omega, by omega, by go_num, rfl, rfl, rfl, hown, Lib.hid (.inl ⟨by omega, HI.out⟩), hbw⟩
       case measure => first | (simp [intOf]; done) | (simp [intOf]; omega)
      ·
       have HI := Lib.hid (show Fd.go (l.map (·.data.toList)) (F ++ X).data.toList true false (s.data.toList.drop (k + 1)) = tot by rw [← hinv', Fd.go_c _ _ _ _ _ h35 hw h34, fd_app, hone])
       have g1 : ((c.toNat : Int) == 35) = false := by rw [beq_eq_false_iff_ne]; intro h; exact h35 (UInt8.toNat_inj.1 (by rw [show (35 : UInt8).toNat = 35 from rfl]; omega))
       have g2 : ((c.toNat : Int) == 34) = false := by rw [beq_eq_false_iff_ne]; intro h; exact h34 (UInt8.toNat_inj.1 (by rw [show (34 : UInt8).toNat = 34 from rfl]; omega))
       have e1 : (F ++ X : ByteArray).size = F.size + X.size := ByteArray.size_append ..
       generalize (c.toNat : Int) = C at IX g1 g2 hwc
       clear hinv' h35 h34 hw hone
       have RB := fun W => rblank_any C W
       rw [hwc] at RB
       go_wp2_with fail
       refine (RB _).mono ?_; rintro e v1 ⟨rfl, rfl⟩
       go_wp2_with fail
       go_roundw
       case rel => exact ⟨k + 1, l, F ++ X, true, false, by omega, by omega, by omega, by go_num, rfl, rfl, rfl, hown, Lib.hid (.inl ⟨by omega, HI.out⟩), hbw⟩
       case measure => first | (simp [intOf]; done) | (simp [intOf]; omega)
     ·
      rw [hw] at hwc
      have g1 : ((c.toNat : Int) == 35) = false := by rw [beq_eq_false_iff_ne]; intro h; exact h35 (UInt8.toNat_inj.1 (by rw [show (35 : UInt8).toNat = 35 from rfl]; omega))
      rw [Fd.go_w _ _ _ _ _ hw] at hinv'
      generalize (c.toNat : Int) = C at IX g1 hwc
      clear h35 hw hone CX
      have RB := fun W => rblank_any C W
      rw [hwc] at RB
      cases b1
      ·
       have HI := Lib.hid (show Fd.go (l.map (·.data.toList)) [] false false (s.data.toList.drop (k + 1)) = tot from hinv')
       clear hinv'
       go_wp2_with fail
       refine (RB _).mono ?_; rintro e v1 ⟨rfl, rfl⟩
       go_wp2_with fail
       go_roundw
       case rel => exact ⟨k + 1, l, ⟨#[]⟩, false, false, by omega, by omega, Nat.zero_le _, by go_num, rfl, rfl, rfl, hown, Lib.hid (.inl ⟨by omega, HI.out⟩), hbw⟩
       case measure => first | (simp [intOf]; done) | (simp [intOf]; omega)
      ·
       have HI := Lib.hid (show Fd.go ((l ++ [F]).map (·.data.toList)) [] false false (s.data.toList.drop (k + 1)) = tot by rw [← hinv', if_pos rfl, List.map_append]; rfl)
       clear hinv'
       go_wp2_with fail
       refine (RB _).mono ?_; rintro e v1 ⟨rfl, rfl⟩
       go_wp2_with (at_builtin; refine wpList_append_own _ rfl _ _ 46 rfl w.heap.size 9 i0 (.string ⟨#[]⟩) 1 16 Tryz.underlying46 hi hz0 hz1 hz2 rfl (by decide) _ _ _ rfl (hown.out.alloc _) ⟨wr.heap.size, 0, none⟩ 1 1 [.string F] rfl rfl (by intro j u hj; match j, hj with | 0, hj => (simp at hj; subst hj; simp [go_sem])) (by intro u hu; simp at hu; subst hu; rfl) (by unfold maxLen; omega) (by omega) (by have := hbw.out.size; simp; omega) ?_)
       intro v6 w6 own6 grow6 _
       have B6 := Lib.hid (show Below w.heap.size w w6 from ((hbw.out.alloc hbw.out.size _).trans (below_grown grow6 (by have := hbw.out.size; simp; omega) (own_row hown.out))))
       have O6 := Lib.hid (show w6.ownsRow w.heap.size 9 1 v6 (l ++ [F]).length ((l ++ [F]).map Value.string) from by rw [List.length_append, List.map_append]; exact own6)
       clear own6 grow6 hown hbw
       go_wp2_with fail
       go_roundw
       case rel => exact ⟨k + 1, l ++ [F], ⟨#[]⟩, false, false, by omega, by rw [List.length_append]; show l.length + 1 ≤ _; omega, Nat.zero_le _, by go_num, rfl, rfl, rfl, O6, Lib.hid (.inl ⟨by omega, HI.out⟩), B6⟩
       case measure => first | (simp [intOf]; done) | (simp [intOf]; omega)
   ·
    clear hwc
    by_cases h34 : c = 34
    ·
     subst h34
     have IX : ∀ W, Sem.run Tryz.prog (Instr.index 9 (.string s) (.int .i64 (k : Int))) W = .ok (.int .u8 34) W := IX
     have HI := Lib.hid (show Fd.go (l.map (·.data.toList)) F.data.toList b1 false (s.data.toList.drop (k + 1)) = tot by rw [← hinv', Fd.go_q34])
     clear hinv' hone CX
     go_wp2_with fail
     go_roundw
     case rel => exact ⟨k + 1, l, F, b1, false, by omega, by omega, by omega, by go_num, rfl, rfl, rfl, hown, Lib.hid (.inl ⟨by omega, HI.out⟩), hbw⟩
     case measure => first | (simp [intOf]; done) | (simp [intOf]; omega)
    ·
     have HI := Lib.hid (show Fd.go (l.map (·.data.toList)) (F ++ X).data.toList b1 true (s.data.toList.drop (k + 1)) = tot by rw [← hinv', Fd.go_q _ _ _ _ _ h34, fd_app, hone])
     have g2 : ((c.toNat : Int) == 34) = false := by rw [beq_eq_false_iff_ne]; intro h; exact h34 (UInt8.toNat_inj.1 (by rw [show (34 : UInt8).toNat = 34 from rfl]; omega))
     have e1 : (F ++ X : ByteArray).size = F.size + X.size := ByteArray.size_append ..
     generalize (c.toNat : Int) = C at IX g2
     clear hinv' h34 hone
     go_wp2_with fail
     go_roundw
     case rel => exact ⟨k + 1, l, F ++ X, b1, true, by omega, by omega, by omega, by go_num, rfl, rfl, rfl, hown, Lib.hid (.inl ⟨by omega, HI.out⟩), hbw⟩
     case measure => first | (simp [intOf]; done) | (simp [intOf]; omega)
  ·
   subst heq
   have hinv' : Fd.go (l.map (·.data.toList)) F.data.toList b1 b2 [] = tot := by
    rcases hinv.out with ⟨-, h⟩ | ⟨h, -⟩
    ·
     rw [List.drop_of_length_le (by rw [fd_len]; exact Nat.le_refl _)] at h; exact h
    ·
     omega
   clear hinv
   cases b2
   ·
    cases b1
    ·
     have HI := Lib.hid (show some (l.map (·.data.toList)) = tot from hinv')
     clear hinv'
     go_wp2_with fail
     go_roundw
     case rel => exact ⟨s.size + 1, l, ⟨#[]⟩, false, false, by omega, by omega, Nat.zero_le _, by go_num, rfl, rfl, rfl, hown, Lib.hid (.inr ⟨rfl, HI.out⟩), hbw⟩
     case measure => first | (simp [intOf]; done) | (simp [intOf]; omega)
    ·
     have HI := Lib.hid (show some ((l ++ [F]).map (·.data.toList)) = tot by rw [← hinv']; unfold Fd.go; rw [if_neg (by decide), if_pos rfl, List.map_append]; rfl)
     clear hinv'
     go_wp2_with (at_builtin; refine wpList_append_own _ rfl _ _ 46 rfl w.heap.size 9 i0 (.string ⟨#[]⟩) 1 16 Tryz.underlying46 hi hz0 hz1 hz2 rfl (by decide) _ _ _ rfl (hown.out.alloc _) ⟨wr.heap.size, 0, none⟩ 1 1 [.string F] rfl rfl (by intro j u hj; match j, hj with | 0, hj => (simp at hj; subst hj; simp [go_sem])) (by intro u hu; simp at hu; subst hu; rfl) (by unfold maxLen; omega) (by omega) (by have := hbw.out.size; simp; omega) ?_)
     intro v6 w6 own6 grow6 _
     have B6 := Lib.hid (show Below w.heap.size w w6 from ((hbw.out.alloc hbw.out.size _).trans (below_grown grow6 (by have := hbw.out.size; simp; omega) (own_row hown.out))))
     have O6 := Lib.hid (show w6.ownsRow w.heap.size 9 1 v6 (l ++ [F]).length ((l ++ [F]).map Value.string) from by rw [List.length_append, List.map_append]; exact own6)
     clear own6 grow6 hown hbw
     go_wp2_with fail
     go_roundw
     case rel => exact ⟨s.size + 1, l ++ [F], ⟨#[]⟩, false, false, by omega, by rw [List.length_append]; show l.length + 1 ≤ _; omega, Nat.zero_le _, by go_num, rfl, rfl, rfl, O6, Lib.hid (.inr ⟨rfl, HI.out⟩), B6⟩
     case measure => first | (simp [intOf]; done) | (simp [intOf]; omega)
   ·
    have HI := Lib.hid (show none = tot by rw [← hinv']; rfl)
    clear hinv'
    go_wp2_with fail
    go_ret2
    have e : Fd.told tot = ([], 8) := by rw [← HI.out]; rfl
    rw [e]
    exact ⟨_, [], StS.nil _, rfl, rfl, hbw.out, none, 0, rfl, Nat.le_refl _⟩
  ·
   have hk1 : k = s.size + 1 := by omega
   have HI : Hid (some (l.map (·.data.toList)) = tot) := by
    rcases hinv.out with ⟨h, -⟩ | ⟨-, h⟩
    ·
     omega
    ·
     exact h
   have gg : ¬ (k : Int) ≤ (s.size : Int) := by omega
   clear hinv
   obtain ⟨A4, c4, rfl, -⟩ := Lst.own hown.out
   by_cases h16 : 16 < (l).length
   ·
    go_wp2_with fail
    go_ret2
    have e : Fd.told tot = ([], 6) := by rw [← HI.out]; exact if_pos (by rw [List.length_map]; exact h16)
    rw [e]
    exact ⟨_, [], StS.nil _, rfl, rfl, hbw.out, none, 0, rfl, Nat.le_refl _⟩
   ·
    go_wp2_with fail
    go_ret2
    have e : Fd.told tot = ((l).map (·.data.toList), 0) := by rw [← HI.out]; exact if_neg (by rw [List.length_map]; exact h16)
    rw [e]
    exact ⟨_, l, Lst.own hown.out, rfl, rfl, hbw.out, fd_room hown.out⟩
theorem rfof_any (s : ByteArray) (w : World) (hs : s.size ≤ 2000000) :
  Calls Tryz.prog 68 #[.string s] w (AnsF (Fd.of s.data.toList) w) :=
 (rfofr_any s w hs).mono (by rintro e w' ⟨v, l, h1, h2, h3, h4, -⟩; exact ⟨v, l, h1, h2, h3, h4⟩)
end Go.Proofs.YtifgiclnofdnkaaGreatDoor
