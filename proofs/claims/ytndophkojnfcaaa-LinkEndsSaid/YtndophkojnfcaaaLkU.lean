/- The walk of LinkEnds, at any input. -/
import Derived.Test.YtndophkojnfcaaaLkT
set_option linter.unusedVariables false
set_option linter.unusedSimpArgs false
namespace Go.Proofs.Ytndophkojnfcaaa
open Go.RowKit Go.Sort

namespace Lk
def ks (l : List (ByteArray × ByteArray)) : List (List UInt8) := l.map (·.2.data.toList)
theorem ks_len (l : List (ByteArray × ByteArray)) : (ks l).length = l.length := List.length_map ..
theorem ks_in : ∀ (l : List (ByteArray × ByteArray)) (s : List UInt8), (fst l s).isSome = true → s ∈ ks l
  | [], s, h => by cases h
  | p :: r, s, h => by
    unfold fst at h
    by_cases e : p.2.data.toList = s
    · show s ∈ p.2.data.toList :: ks r
      rw [e]; exact List.mem_cons_self ..
    · rw [if_neg e] at h
      exact List.mem_cons_of_mem _ (ks_in r s h)
theorem fst_mem : ∀ (l : List (ByteArray × ByteArray)) (p : ByteArray × ByteArray), p ∈ l → (fst l p.2.data.toList).isSome = true
  | [], p, h => by cases h
  | q :: r, p, h => by
    unfold fst
    by_cases e : q.2.data.toList = p.2.data.toList
    · rw [if_pos e]; rfl
    · rw [if_neg e]
      rcases List.mem_cons.1 h with rfl | h
      · exact absurd rfl e
      · exact fst_mem r p h
theorem fst_none : ∀ (l : List (ByteArray × ByteArray)) (s : List UInt8), (∀ p ∈ l, p.2.data.toList ≠ s) → fst l s = none
  | [], s, _ => rfl
  | q :: r, s, h => by
    unfold fst
    rw [if_neg (h q (List.mem_cons_self ..))]
    exact fst_none r s (fun p hp => h p (List.mem_cons_of_mem _ hp))
theorem fst_first (a b : List (ByteArray × ByteArray)) (p : ByteArray × ByteArray) (h : ∀ q ∈ a, q.2.data.toList ≠ p.2.data.toList) : fst (a ++ p :: b) p.2.data.toList = some p.1 := by
  induction a with
  | nil => exact if_pos rfl
  | cons q r ih =>
    rw [List.cons_append]
    unfold fst
    rw [if_neg (h q (List.mem_cons_self ..))]
    exact ih (fun x hx => h x (List.mem_cons_of_mem _ hx))
theorem flw_end (st : List UInt8 → Option ByteArray) : ∀ (f : Nat) (x y : ByteArray), flw st f x = some y → st y.data.toList = none
  | 0, _, _, h => by cases h
  | f + 1, x, y, h => by
    unfold flw at h
    cases hs : st x.data.toList with
    | none => rw [hs] at h; injection h with h; rw [← h]; exact hs
    | some z => rw [hs] at h; exact flw_end st f z y h
theorem flw_up (l : List (ByteArray × ByteArray)) (x : ByteArray) : flw (fst l) (l.length + 2) x = flw (fst l) (l.length + 1) x := by
  have h1 := flw_enough (fst l) (ks l) (ks_in l) (l.length + 1) (by rw [ks_len]; omega) x
  have h2 := flw_enough (fst l) (ks l) (ks_in l) l.length (by rw [ks_len]; exact Nat.le_refl _) x
  rw [← h2, h1]
/-- From the first name on the way one comes out at the same. -/
theorem flw_same (l : List (ByteArray × ByteArray)) (x t : ByteArray) (h : fst l x.data.toList = some t) : flw (fst l) (l.length + 1) t = flw (fst l) (l.length + 1) x := by
  rw [← flw_up l x]
  conv => rhs; unfold flw
  rw [h]
theorem flw_ext {st st' : List UInt8 → Option ByteArray} (h : ∀ s, st' s = st s) : ∀ (f : Nat) (x : ByteArray), flw st' f x = flw st f x
  | 0, _ => rfl
  | f + 1, x => by
    unfold flw
    rw [h]
    cases st x.data.toList with
    | none => rfl
    | some y => exact flw_ext h f y
/-- A link more, of a name that has one, changes nothing. -/
theorem flw_again (l : List (ByteArray × ByteArray)) (x t : ByteArray) (h : (fst l x.data.toList).isSome = true) : flw (fst (l ++ [(t, x)])) ((l ++ [(t, x)]).length + 1) x = flw (fst l) (l.length + 1) x := by
  have e : ∀ s, fst (l ++ [(t, x)]) s = fst l s := fun s => by
    rw [fst_app]
    cases hf : fst l s with
    | some y => rfl
    | none =>
      show (if x.data.toList = s then some t else none) = none
      rw [if_neg]
      intro he
      rw [he, hf] at h; cases h
  rw [flw_ext e, List.length_append]
  exact flw_up l x
theorem rd_fs (a b : ByteArray) : rd (fsL a b) = if rt a b = true then ((a, b), 0) else ((⟨#[]⟩, ⟨#[]⟩), 5) := by
  unfold fsL
  by_cases h : rt a b = true
  · rw [if_pos h, if_pos h, rd_two]
    unfold rt at h
    simp at h
    rw [if_neg (by simp [h.1.1]), if_neg (by simp [h.1.2]), if_neg h.2]
  · rw [if_neg h, if_neg h]; rfl
theorem fs_why (a b : ByteArray) : (fs a b).2 = if rt a b = true then 0 else 4 := by
  unfold fs
  split <;> rfl
end Lk
set_option maxHeartbeats 4000000 in
set_option maxRecDepth 100000 in
theorem lkends_walk (tx tn : ByteArray) (vl : Value) (l : List (ByteArray × ByteArray)) (s : ByteArray) (w : World) (htx : tx.size ≤ maxLen) (htn : tn.size ≤ maxLen) (SL : LkS w vl l) (hzl : ∀ p ∈ l, p.1.size ≤ maxLen ∧ p.2.size ≤ maxLen) (hs : s.size ≤ maxLen) :
    Calls Try.prog 8 #[.agg #[.string tx, .string tn], vl, .string s] w fun e w' => e = .returned (.bool true) ∧ Below w.heap.size w w' := by
  obtain ⟨i0, hi, hz0, hz1, hz2⟩ := fd_parts lk_info
  obtain ⟨A2, c2, rfl, -⟩ := id SL
  have LV := Lib.hid (fun W => lives23 W)
  obtain ⟨M, hM⟩ : ∃ N, N = l.length := ⟨_, rfl⟩
  have HM := Lib.hid hM
  have HSL : Hid (LkS w (.slice A2 M c2) l) := by rw [hM]; exact SL
  rw [← hM]
  have HZL := Lib.hid hzl
  have HSs := Lib.hid hs
  clear hM SL hzl hs
  have xb : tx.size ≤ 9223372036854775807 := by unfold maxLen at htx; omega
  have nb : tn.size ≤ 9223372036854775807 := by unfold maxLen at htn; omega
  have HTX := Lib.hid htx
  have HTN := Lib.hid htn
  clear htx htn
  have b0 : Below w.heap.size w (w.alloc (.cells #[.string tx, .string tn] 47)) := (Below.refl _ _).alloc (Nat.le_refl _) _
  by_cases hbig : 60 < M ∨ 500 < tx.size ∨ 500 < tn.size
  · by_cases h2 : 60 < (M : Int)
    · go_enter Try.func8, Try.ntmps8
      go_wp2_with fail
      refine (LV.out _).mono ?_; rintro e w1 ⟨rfl, b1⟩
      have B1 := Lib.hid (below_step b0 b1)
      have Q1 : Bk2 w1 w.heap.size (.string tx) (.string tn) := Bk2.of b1 (by simp) (by intro j; simp [go_sem]) (by simp [go_sem]) (by simp [go_sem])
      have c_b := Q1.hb; have c_f := Q1.fz; have c_0 := Q1.k0; have c_1 := Q1.k1
      clear b0 b1
      go_wp2_with fail
      go_ret
      exact ⟨rfl, B1.out⟩
    · by_cases h3 : 500 < (tx.size : Int)
      · go_enter Try.func8, Try.ntmps8
        go_wp2_with fail
        refine (LV.out _).mono ?_; rintro e w1 ⟨rfl, b1⟩
        have B1 := Lib.hid (below_step b0 b1)
        have Q1 : Bk2 w1 w.heap.size (.string tx) (.string tn) := Bk2.of b1 (by simp) (by intro j; simp [go_sem]) (by simp [go_sem]) (by simp [go_sem])
        have c_b := Q1.hb; have c_f := Q1.fz; have c_0 := Q1.k0; have c_1 := Q1.k1
        clear b0 b1
        go_wp2_with fail
        go_ret
        exact ⟨rfl, B1.out⟩
      · have h4 : 500 < (tn.size : Int) := by omega
        go_enter Try.func8, Try.ntmps8
        go_wp2_with fail
        refine (LV.out _).mono ?_; rintro e w1 ⟨rfl, b1⟩
        have B1 := Lib.hid (below_step b0 b1)
        have Q1 : Bk2 w1 w.heap.size (.string tx) (.string tn) := Bk2.of b1 (by simp) (by intro j; simp [go_sem]) (by simp [go_sem]) (by simp [go_sem])
        have c_b := Q1.hb; have c_f := Q1.fz; have c_0 := Q1.k0; have c_1 := Q1.k1
        clear b0 b1
        go_wp2_with fail
        go_ret
        exact ⟨rfl, B1.out⟩
  · have hMb : M ≤ 60 := by omega
    have g2 : ¬ 60 < (M : Int) := by omega
    have g3 : ¬ 500 < (tx.size : Int) := by omega
    have g4 : ¬ 500 < (tn.size : Int) := by omega
    have F1 := Lib.hid (fun W => pfields_on tx tn W HTX.out HTN.out)
    have R1 := Lib.hid (fun W v S => lread_any v (Lk.fsL tx tn) W S (by have := Lk.fsL_len tx tn; omega) (by
      intro y hy
      unfold Lk.fsL at hy
      split at hy
      · rcases List.mem_cons.1 hy with rfl | hy
        · exact HTX.out
        · rw [List.mem_singleton.1 hy]; exact HTN.out
      · cases hy))
    have T1 := Lib.hid (fun W => pright_any tx tn W HTX.out HTN.out)
    have G1 := Lib.hid (fun W S => lfollow_any (.slice A2 M c2) l s W S (by have := HM.out; omega) HZL.out HSs.out)
    rw [Lk.rd_fs] at R1
    rw [Lk.fs_why] at F1
    obtain ⟨tot, htot⟩ : ∃ tot, tot = Lk.flw (Lk.fst l) (l.length + 1) s := ⟨_, rfl⟩
    have HT := Lib.hid htot
    rw [← htot] at G1
    clear htot hbig
    generalize Lk.fsL tx tn = FL at F1 R1
    obtain ⟨ED, hED⟩ : ∃ x, x = (Lk.ans tot).1 := ⟨_, rfl⟩
    obtain ⟨EY, hEY⟩ : ∃ x, x = (Lk.ans tot).2 := ⟨_, rfl⟩
    rw [← hED, ← hEY] at G1
    have HED := Lib.hid hED
    have HEY := Lib.hid hEY
    clear hED hEY
    generalize Lk.rt tx tn = rr at F1 R1 T1
    cases rr
    · skip
      go_enter Try.func8, Try.ntmps8
      go_wp2_with fail
      refine (LV.out _).mono ?_; rintro e w1 ⟨rfl, b1⟩
      have B1 := Lib.hid (below_step b0 b1)
      have X1 : Bk2 w1 w.heap.size (.string tx) (.string tn) := Bk2.of b1 (by simp) (by intro j; simp [go_sem]) (by simp [go_sem]) (by simp [go_sem])
      have X1 := Lib.hid X1
      have c_b := X1.out.hb; have c_f := X1.out.fz; have c_0 := X1.out.k0; have c_1 := X1.out.k1
      clear b0 b1
      go_wp2_with fail
      refine (F1.out _).mono ?_; rintro e w2 ⟨v2, s2, rfl, b2⟩
      have S2 := Lib.hid s2
      have B2 := Lib.hid (below_step B1.out b2)
      have X2 := Lib.hid (X1.out.keep b2)
      clear c_b c_f c_0 c_1 s2 b2 B1 X1
      go_wp2_with fail
      refine (R1.out _ _ S2.out).mono ?_; rintro e w3 ⟨rfl, b3⟩
      have B3 := Lib.hid (below_step B2.out b3)
      have X3 := Lib.hid (X2.out.keep b3)
      have c_b := X3.out.hb; have c_f := X3.out.fz; have c_0 := X3.out.k0; have c_1 := X3.out.k1
      clear b3 B2 X2 S2
      go_wp2_with fail
      refine (T1.out _).mono ?_; rintro e w4 ⟨rfl, b4⟩
      clear c_b c_f c_0 c_1
      have d4 : Below w3.heap.size w3 w4 := below_step (by repeat (first | exact Below.refl _ _ | refine below_drewN ?_ _ | refine Below.drew ?_ | refine Below.setCell ?_ (by first | (simp; done) | (simp; omega) | omega) _ | refine Below.alloc ?_ (by first | (simp; done) | (simp; omega) | omega) _)) b4
      have B4 := Lib.hid (below_step B3.out d4)
      have X4 := Lib.hid (X3.out.keep d4)
      skip
      have c_b := X4.out.hb; have c_f := X4.out.fz; have c_0 := X4.out.k0; have c_1 := X4.out.k1
      clear b4 d4 B3 X3
      go_wp2_with fail
      refine (G1.out _ (HSL.out.on B4.out)).mono ?_; rintro e w5 ⟨rfl, b5⟩
      have B5 := Lib.hid (below_step B4.out b5)
      clear b5 B4 X4 c_b c_f c_0 c_1
      go_wp2_with fail
      go_loopw [72] (fun i wr => ∃ k : Nat, k ≤ M ∧ i = .int .i64 k ∧ Hid (∀ p ∈ l.take k, p.2.data.toList ≠ s.data.toList) ∧ Hid (Below w.heap.size w wr)) (fun i _ => M - (intOf i).toNat)
      case atStart => exact ⟨0, Nat.zero_le _, rfl, Lib.hid (fun p hp => by simp at hp), B5⟩
      case round =>
        obtain ⟨k, hk, rfl, hno, hbw⟩ := hrel
        by_cases hlt : k < M
        · have hkl : k < l.length := by have := HM.out; omega
          obtain ⟨a, rfl, hab, g0, g1⟩ := (HSL.out.on hbw.out).get k hkl
          have hmem := List.getElem_mem hkl
          have hsplit : l = l.take k ++ l[k] :: l.drop (k + 1) := by rw [← List.drop_eq_getElem_cons hkl, List.take_append_drop]
          have htk := List.take_succ_eq_append_getElem hkl
          have hn : (a.add (k * 2)).block ≠ wr.heap.size := by rw [blk_add]; exact Nat.ne_of_lt hab
          have hz := HZL.out l[k] hmem
          generalize l[k] = p at g0 g1 hmem hsplit htk hz
          obtain ⟨x, y⟩ := p
          have hx : x.size ≤ maxLen := hz.1
          -- what comes out is no link's name
          have hend : EY = 0 → ¬ y = ED := fun h0 he => by
            rw [HEY.out] at h0
            rw [HED.out] at he
            cases htt : tot with
            | none => rw [htt] at h0; cases h0
            | some u =>
              have h1 := Lk.flw_end _ _ _ _ (HT.out.symm.trans htt)
              have h2 := Lk.fst_mem l (x, y) hmem
              rw [htt] at he
              have he : y = u := he
              rw [show ((x, y) : ByteArray × ByteArray).2 = y from rfl, he, h1] at h2
              cases h2
          have b1 : Below wr.heap.size wr (wr.alloc (.cells #[.string x, .string y] 47)) := (Below.refl _ _).alloc (Nat.le_refl _) _
          have B1 := Lib.hid (below_step hbw.out b1)
          have hcase : Hid (EY = 0 ∧ ¬ y = ED) ∨ Hid (EY ≠ 0) := by
            by_cases h : EY = 0
            · exact .inl (Lib.hid ⟨h, hend h⟩)
            · exact .inr (Lib.hid h)
          by_cases hys : y = s
          · subst hys
            have hfs : Lk.fst l y.data.toList = some x := by
              conv => lhs; rw [hsplit]
              exact Lk.fst_first _ _ (x, y) hno.out
            have G2 := Lib.hid (fun W S => lfollow_any (.slice (some a) M c2) l x W S (by have := HM.out; omega) HZL.out hx)
            rw [Lk.flw_same l y x hfs, ← HT.out, ← HED.out, ← HEY.out] at G2
            have G3 := Lib.hid (fun W v S => lfollow_any v (l ++ [(⟨#[101, 108, 115, 101]⟩, y)]) y W S (by rw [List.length_append]; have := HM.out; simp; omega) (by
              intro q hq
              rcases List.mem_append.1 hq with hq | hq
              · exact HZL.out q hq
              · rw [List.mem_singleton.1 hq]; exact ⟨by show (⟨#[101, 108, 115, 101]⟩ : ByteArray).size ≤ maxLen; unfold maxLen; decide, HSs.out⟩) HSs.out)
            rw [Lk.flw_again l y _ (by rw [hfs]; rfl), ← HT.out, ← HED.out, ← HEY.out] at G3
            have hl0 : 0 < l.length := by omega
            have hb1s := B1.out.size
            clear hend hmem hsplit htk hfs hz hx hno b1
            rcases hcase with hc | hc
            all_goals
              first
                | (obtain ⟨ne1, ne2⟩ := str_ne hc.out.2
                   have ge : (EY == 0) = true := by rw [beq_iff_eq]; exact hc.out.1)
                | (have ge : (EY == 0) = false := by rw [beq_eq_false_iff_ne]; exact hc.out)
              clear hc
              go_wp2_with fail
              refine (G2.out _ (HSL.out.on B1.out)).mono ?_; rintro e w6 ⟨rfl, b6⟩
              have B6 := Lib.hid (below_step B1.out b6)
              have hz6 := B6.out.size
              have hsrc := (HSL.out.on B6.out).src hl0
              have hsrc2 : ∀ (j : Nat) (u : Value), (Lk.cs l)[j]? = some u → (w6.alloc (.cells #[] 47)).cell? (a.add j) = some u := fun j u hu => fd_keep (hsrc j u hu) ((Below.refl _ _).alloc (Nat.le_refl _) _)
              have O0 : (w6.alloc (.cells #[] 47)).ownsRow w6.heap.size 47 2 (.slice (some ⟨w6.heap.size, 0, none⟩) 0 0) 0 [] := World.ownsRow_made w6 #[] 0 (Nat.le_refl _) (by unfold maxLen; decide) rfl
              clear b6 hsrc
              go_wp2_with (at_builtin; refine wpList_append_own _ rfl _ _ 48 rfl w6.heap.size 47 i0 (.agg #[.string ⟨#[]⟩, .string ⟨#[]⟩]) 2 32 Try.underlying48 hi hz0 hz1 hz2 rfl (by decide) _ _ _ rfl O0 a M c2 (Lk.cs l) rfl (by rw [cs_len, HM.out]) hsrc2 (cs_one _) (by unfold maxLen; omega) (by omega) (by simp) ?_)
              intro v7 w7 own7 grow7 _
              have b7 : Below w6.heap.size w6 w7 := ((Below.refl _ _).alloc (Nat.le_refl _) _).trans (below_grown grow7 (by simp) (fun g hg => (O0.lt g hg).1))
              have hz7 := b7.size
              clear hsrc2 grow7 O0
              go_wp2_with (at_builtin; refine wpList_append_own _ rfl _ _ 48 rfl w6.heap.size 47 i0 (.agg #[.string ⟨#[]⟩, .string ⟨#[]⟩]) 2 32 Try.underlying48 hi hz0 hz1 hz2 rfl (by decide) _ _ _ rfl (own7.alloc _) ⟨w7.heap.size, 0, none⟩ 1 1 [.string ⟨#[101, 108, 115, 101]⟩, .string y] rfl rfl (by intro j u hj; match j, hj with | 0, hj => (simp at hj; subst hj; simp [go_sem]) | 1, hj => (simp at hj; subst hj; simp [go_sem])) (by intro u hu; simp at hu; rcases hu with rfl | rfl <;> rfl) (by unfold maxLen; omega) (by omega) (by simp; omega) ?_)
              intro v8 w8 own8 grow8 _
              have b8 : Below w6.heap.size w7 w8 := ((Below.refl _ _).alloc hz7 _).trans (below_grown grow8 (by simp; omega) (fun g hg => (own7.lt g hg).1))
              have L8 := Lib.hid (LkS.own (l := l ++ [(⟨#[101, 108, 115, 101]⟩, y)]) own8 (by rw [List.length_append, ← HM.out]; simp) (by rw [Lk.cs_app]; rfl))
              have B8 := Lib.hid (below_step B6.out (b7.trans b8))
              clear b7 b8 grow8 own7 own8 hz7 hz6 B6
              go_wp2_with fail
              refine (G3.out _ _ L8.out).mono ?_; rintro e w9 ⟨rfl, b9⟩
              have B9 := Lib.hid (below_step B8.out b9)
              clear b9 B8 L8
              go_wp2_with fail
              go_ret
              exact ⟨rfl, B9.out⟩
          · obtain ⟨m1, m2⟩ := str_ne hys
            have hno2 := Lib.hid (show ∀ p ∈ l.take (k + 1), p.2.data.toList ≠ s.data.toList by
              rw [htk]
              intro p hp
              rcases List.mem_append.1 hp with hp | hp
              · exact hno.out p hp
              · rw [List.mem_singleton.1 hp]; exact fun e => hys (str_eq_of.1 e))
            clear hend hmem hsplit htk hz hx hno b1 hys
            rcases hcase with hc | hc
            all_goals
              first
                | (obtain ⟨ne1, ne2⟩ := str_ne hc.out.2
                   have ge : (EY == 0) = true := by rw [beq_iff_eq]; exact hc.out.1)
                | (have ge : (EY == 0) = false := by rw [beq_eq_false_iff_ne]; exact hc.out)
              clear hc
              go_wp2_with fail
              go_roundw
              case rel => exact ⟨k + 1, by omega, by go_num, hno2, B1⟩
              case measure => simp [intOf]; omega
        · have hall : ∀ p ∈ l, p.2.data.toList ≠ s.data.toList := by
            have := hno.out
            rw [List.take_of_length_le (by have := HM.out; omega)] at this
            exact this
          have h0 : tot = some s := by
            rw [HT.out]
            unfold Lk.flw
            rw [Lk.fst_none l _ hall]
          have e1 : ED = s := by rw [HED.out, h0]; rfl
          have e2 : EY = 0 := by rw [HEY.out, h0]; rfl
          clear h0 hall HED HEY HT hno
          subst e1; subst e2
          go_wp2_with fail
          go_ret
          exact ⟨rfl, hbw.out⟩
    · skip
      go_enter Try.func8, Try.ntmps8
      go_wp2_with fail
      refine (LV.out _).mono ?_; rintro e w1 ⟨rfl, b1⟩
      have B1 := Lib.hid (below_step b0 b1)
      have X1 : Bk2 w1 w.heap.size (.string tx) (.string tn) := Bk2.of b1 (by simp) (by intro j; simp [go_sem]) (by simp [go_sem]) (by simp [go_sem])
      have X1 := Lib.hid X1
      have c_b := X1.out.hb; have c_f := X1.out.fz; have c_0 := X1.out.k0; have c_1 := X1.out.k1
      clear b0 b1
      go_wp2_with fail
      refine (F1.out _).mono ?_; rintro e w2 ⟨v2, s2, rfl, b2⟩
      have S2 := Lib.hid s2
      have B2 := Lib.hid (below_step B1.out b2)
      have X2 := Lib.hid (X1.out.keep b2)
      clear c_b c_f c_0 c_1 s2 b2 B1 X1
      go_wp2_with fail
      refine (R1.out _ _ S2.out).mono ?_; rintro e w3 ⟨rfl, b3⟩
      have B3 := Lib.hid (below_step B2.out b3)
      have X3 := Lib.hid (X2.out.keep b3)
      have c_b := X3.out.hb; have c_f := X3.out.fz; have c_0 := X3.out.k0; have c_1 := X3.out.k1
      clear b3 B2 X2 S2
      go_wp2_with fail
      refine (T1.out _).mono ?_; rintro e w4 ⟨rfl, b4⟩
      clear c_b c_f c_0 c_1
      have d4 : Below w3.heap.size w3 w4 := below_step (by repeat (first | exact Below.refl _ _ | refine below_drewN ?_ _ | refine Below.drew ?_ | refine Below.setCell ?_ (by first | (simp; done) | (simp; omega) | omega) _ | refine Below.alloc ?_ (by first | (simp; done) | (simp; omega) | omega) _)) b4
      have B4 := Lib.hid (below_step B3.out d4)
      have X4 := Lib.hid (X3.out.keep d4)
      have Y4 : Bk2 w4 w3.heap.size (.string tx) (.string tn) := Bk2.of b4 (by simp <;> omega) (by intro j; simp [go_sem]) (by simp [go_sem]) (by simp [go_sem]); have y_b := Y4.hb; have y_f := Y4.fz; have y_0 := Y4.k0; have y_1 := Y4.k1; clear Y4
      have c_b := X4.out.hb; have c_f := X4.out.fz; have c_0 := X4.out.k0; have c_1 := X4.out.k1
      clear b4 d4 B3 X3
      go_wp2_with fail
      refine (G1.out _ (HSL.out.on B4.out)).mono ?_; rintro e w5 ⟨rfl, b5⟩
      have B5 := Lib.hid (below_step B4.out b5)
      clear b5 B4 X4 c_b c_f c_0 c_1
      go_wp2_with fail
      go_loopw [72] (fun i wr => ∃ k : Nat, k ≤ M ∧ i = .int .i64 k ∧ Hid (∀ p ∈ l.take k, p.2.data.toList ≠ s.data.toList) ∧ Hid (Below w.heap.size w wr)) (fun i _ => M - (intOf i).toNat)
      case atStart => exact ⟨0, Nat.zero_le _, rfl, Lib.hid (fun p hp => by simp at hp), B5⟩
      case round =>
        obtain ⟨k, hk, rfl, hno, hbw⟩ := hrel
        by_cases hlt : k < M
        · have hkl : k < l.length := by have := HM.out; omega
          obtain ⟨a, rfl, hab, g0, g1⟩ := (HSL.out.on hbw.out).get k hkl
          have hmem := List.getElem_mem hkl
          have hsplit : l = l.take k ++ l[k] :: l.drop (k + 1) := by rw [← List.drop_eq_getElem_cons hkl, List.take_append_drop]
          have htk := List.take_succ_eq_append_getElem hkl
          have hn : (a.add (k * 2)).block ≠ wr.heap.size := by rw [blk_add]; exact Nat.ne_of_lt hab
          have hz := HZL.out l[k] hmem
          generalize l[k] = p at g0 g1 hmem hsplit htk hz
          obtain ⟨x, y⟩ := p
          have hx : x.size ≤ maxLen := hz.1
          -- what comes out is no link's name
          have hend : EY = 0 → ¬ y = ED := fun h0 he => by
            rw [HEY.out] at h0
            rw [HED.out] at he
            cases htt : tot with
            | none => rw [htt] at h0; cases h0
            | some u =>
              have h1 := Lk.flw_end _ _ _ _ (HT.out.symm.trans htt)
              have h2 := Lk.fst_mem l (x, y) hmem
              rw [htt] at he
              have he : y = u := he
              rw [show ((x, y) : ByteArray × ByteArray).2 = y from rfl, he, h1] at h2
              cases h2
          have b1 : Below wr.heap.size wr (wr.alloc (.cells #[.string x, .string y] 47)) := (Below.refl _ _).alloc (Nat.le_refl _) _
          have B1 := Lib.hid (below_step hbw.out b1)
          have hcase : Hid (EY = 0 ∧ ¬ y = ED) ∨ Hid (EY ≠ 0) := by
            by_cases h : EY = 0
            · exact .inl (Lib.hid ⟨h, hend h⟩)
            · exact .inr (Lib.hid h)
          by_cases hys : y = s
          · subst hys
            have hfs : Lk.fst l y.data.toList = some x := by
              conv => lhs; rw [hsplit]
              exact Lk.fst_first _ _ (x, y) hno.out
            have G2 := Lib.hid (fun W S => lfollow_any (.slice (some a) M c2) l x W S (by have := HM.out; omega) HZL.out hx)
            rw [Lk.flw_same l y x hfs, ← HT.out, ← HED.out, ← HEY.out] at G2
            have G3 := Lib.hid (fun W v S => lfollow_any v (l ++ [(⟨#[101, 108, 115, 101]⟩, y)]) y W S (by rw [List.length_append]; have := HM.out; simp; omega) (by
              intro q hq
              rcases List.mem_append.1 hq with hq | hq
              · exact HZL.out q hq
              · rw [List.mem_singleton.1 hq]; exact ⟨by show (⟨#[101, 108, 115, 101]⟩ : ByteArray).size ≤ maxLen; unfold maxLen; decide, HSs.out⟩) HSs.out)
            rw [Lk.flw_again l y _ (by rw [hfs]; rfl), ← HT.out, ← HED.out, ← HEY.out] at G3
            have hl0 : 0 < l.length := by omega
            have hb1s := B1.out.size
            clear hend hmem hsplit htk hfs hz hx hno b1
            rcases hcase with hc | hc
            all_goals
              first
                | (obtain ⟨ne1, ne2⟩ := str_ne hc.out.2
                   have ge : (EY == 0) = true := by rw [beq_iff_eq]; exact hc.out.1)
                | (have ge : (EY == 0) = false := by rw [beq_eq_false_iff_ne]; exact hc.out)
              clear hc
              go_wp2_with fail
              refine (G2.out _ (HSL.out.on B1.out)).mono ?_; rintro e w6 ⟨rfl, b6⟩
              have B6 := Lib.hid (below_step B1.out b6)
              have hz6 := B6.out.size
              have hsrc := (HSL.out.on B6.out).src hl0
              have hsrc2 : ∀ (j : Nat) (u : Value), (Lk.cs l)[j]? = some u → (w6.alloc (.cells #[] 47)).cell? (a.add j) = some u := fun j u hu => fd_keep (hsrc j u hu) ((Below.refl _ _).alloc (Nat.le_refl _) _)
              have O0 : (w6.alloc (.cells #[] 47)).ownsRow w6.heap.size 47 2 (.slice (some ⟨w6.heap.size, 0, none⟩) 0 0) 0 [] := World.ownsRow_made w6 #[] 0 (Nat.le_refl _) (by unfold maxLen; decide) rfl
              clear b6 hsrc
              go_wp2_with (at_builtin; refine wpList_append_own _ rfl _ _ 48 rfl w6.heap.size 47 i0 (.agg #[.string ⟨#[]⟩, .string ⟨#[]⟩]) 2 32 Try.underlying48 hi hz0 hz1 hz2 rfl (by decide) _ _ _ rfl O0 a M c2 (Lk.cs l) rfl (by rw [cs_len, HM.out]) hsrc2 (cs_one _) (by unfold maxLen; omega) (by omega) (by simp) ?_)
              intro v7 w7 own7 grow7 _
              have b7 : Below w6.heap.size w6 w7 := ((Below.refl _ _).alloc (Nat.le_refl _) _).trans (below_grown grow7 (by simp) (fun g hg => (O0.lt g hg).1))
              have hz7 := b7.size
              clear hsrc2 grow7 O0
              go_wp2_with (at_builtin; refine wpList_append_own _ rfl _ _ 48 rfl w6.heap.size 47 i0 (.agg #[.string ⟨#[]⟩, .string ⟨#[]⟩]) 2 32 Try.underlying48 hi hz0 hz1 hz2 rfl (by decide) _ _ _ rfl (own7.alloc _) ⟨w7.heap.size, 0, none⟩ 1 1 [.string ⟨#[101, 108, 115, 101]⟩, .string y] rfl rfl (by intro j u hj; match j, hj with | 0, hj => (simp at hj; subst hj; simp [go_sem]) | 1, hj => (simp at hj; subst hj; simp [go_sem])) (by intro u hu; simp at hu; rcases hu with rfl | rfl <;> rfl) (by unfold maxLen; omega) (by omega) (by simp; omega) ?_)
              intro v8 w8 own8 grow8 _
              have b8 : Below w6.heap.size w7 w8 := ((Below.refl _ _).alloc hz7 _).trans (below_grown grow8 (by simp; omega) (fun g hg => (own7.lt g hg).1))
              have L8 := Lib.hid (LkS.own (l := l ++ [(⟨#[101, 108, 115, 101]⟩, y)]) own8 (by rw [List.length_append, ← HM.out]; simp) (by rw [Lk.cs_app]; rfl))
              have B8 := Lib.hid (below_step B6.out (b7.trans b8))
              clear b7 b8 grow8 own7 own8 hz7 hz6 B6
              go_wp2_with fail
              refine (G3.out _ _ L8.out).mono ?_; rintro e w9 ⟨rfl, b9⟩
              have B9 := Lib.hid (below_step B8.out b9)
              clear b9 B8 L8
              go_wp2_with fail
              go_ret
              exact ⟨rfl, B9.out⟩
          · obtain ⟨m1, m2⟩ := str_ne hys
            have hno2 := Lib.hid (show ∀ p ∈ l.take (k + 1), p.2.data.toList ≠ s.data.toList by
              rw [htk]
              intro p hp
              rcases List.mem_append.1 hp with hp | hp
              · exact hno.out p hp
              · rw [List.mem_singleton.1 hp]; exact fun e => hys (str_eq_of.1 e))
            clear hend hmem hsplit htk hz hx hno b1 hys
            rcases hcase with hc | hc
            all_goals
              first
                | (obtain ⟨ne1, ne2⟩ := str_ne hc.out.2
                   have ge : (EY == 0) = true := by rw [beq_iff_eq]; exact hc.out.1)
                | (have ge : (EY == 0) = false := by rw [beq_eq_false_iff_ne]; exact hc.out)
              clear hc
              go_wp2_with fail
              go_roundw
              case rel => exact ⟨k + 1, by omega, by go_num, hno2, B1⟩
              case measure => simp [intOf]; omega
        · have hall : ∀ p ∈ l, p.2.data.toList ≠ s.data.toList := by
            have := hno.out
            rw [List.take_of_length_le (by have := HM.out; omega)] at this
            exact this
          have h0 : tot = some s := by
            rw [HT.out]
            unfold Lk.flw
            rw [Lk.fst_none l _ hall]
          have e1 : ED = s := by rw [HED.out, h0]; rfl
          have e2 : EY = 0 := by rw [HEY.out, h0]; rfl
          clear h0 hall HED HEY HT hno
          subst e1; subst e2
          go_wp2_with fail
          go_ret
          exact ⟨rfl, hbw.out⟩
end Go.Proofs.Ytndophkojnfcaaa

