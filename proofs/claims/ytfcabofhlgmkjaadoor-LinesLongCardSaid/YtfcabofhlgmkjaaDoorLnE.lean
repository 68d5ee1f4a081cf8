/- Lines: the contracts of the reference's Of, and of First on both sides. -/
import Derived.Test.YtfcabofhlgmkjaaDoorLnB
import Derived.Test.YtfcabofhlgmkjaaDoorLnD
set_option linter.unusedVariables false
set_option linter.unusedSimpArgs false
namespace Go.Proofs.YtfcabofhlgmkjaaDoor
open Go.RowKit Go.Sort

theorem ln_info_str : (Tryd.prog.info? 9).map (fun i => (i.zero, i.size, i.bytes)) = some (some (.string ⟨#[]⟩), 1, 16) := by kernel_rfl
theorem ln_parts {i0 : Option TypeInfo} {z : Value} {n b : Nat} (h : i0.map (fun i => (i.zero, i.size, i.bytes)) = some (some z, n, b)) : ∃ i, i0 = some i ∧ i.zero = some z ∧ i.size = n ∧ i.bytes = b := by
  cases i0 with
  | none => cases h
  | some i => simp at h; exact ⟨i, rfl, h.1, h.2.1, h.2.2⟩
namespace Ln
theorem ext_l (s : ByteArray) (a b : Nat) : (s.extract a b).data.toList = (s.data.toList.take b).drop a := by
  rw [ByteArray.data_extract, Array.toList_extract]
  rw [List.drop_take]
theorem cur_next (l : List UInt8) (a k : Nat) (ha : a ≤ k) (hk : k < l.length) : (l.take (k + 1)).drop a = (l.take k).drop a ++ [l[k]] := by
  rw [List.take_succ_eq_append_getElem hk, List.drop_append_of_le_length (by rw [List.length_take]; omega)]
end Ln
set_option maxHeartbeats 4000000 in
set_option maxRecDepth 100000 in
theorem rlof_any (s : ByteArray) (w : World) (hs : s.size ≤ 2000000) :
    Calls Tryd.prog 40 #[.string s] w (AnsL (Ln.cut [] s.data.toList) w) := by
  obtain ⟨i0, hi, hz0, hz1, hz2⟩ := ln_parts ln_info_str
  have CT : Hid (∀ (a b : Nat), a ≤ b → b ≤ s.size → ∀ W, Sem.run Tryd.prog (Instr.slice 9 (.string s) (some (.int .i64 (a : Int))) (some (.int .i64 (b : Int))) none) W = .ok (.string (s.extract a b)) W) := fun a b h1 h2 W => by
    rw [run_slice_string W 9 s .i64 .i64 (a : Int) (b : Int) Tryd.underlying9 (by omega) (by omega) (by omega)]
    simp
  obtain ⟨tot, htot⟩ : ∃ tot, tot = Ln.cut [] s.data.toList := ⟨_, rfl⟩
  rw [← htot]
  have HT := Lib.hid htot; clear htot
  go_enter Tryd.func40, Tryd.ntmps40
  go_wp2_with fail
  go_loopw [3, 4, 5] (fun v at_ i wr => ∃ (k a : Nat) (l : List ByteArray), k ≤ s.size ∧ a ≤ k ∧ l.length ≤ k ∧ i = .int .i64 k ∧ at_ = .int .i64 a ∧ Hid (wr.ownsRow w.heap.size 9 1 v l.length (l.map Value.string)) ∧ Hid (l.map (·.data.toList) ++ Ln.cut ((s.data.toList.take k).drop a) (s.data.toList.drop k) = tot) ∧ Hid (Below w.heap.size w wr)) (fun _ _ i _ => s.size - (intOf i).toNat)
  case atStart =>
    exact ⟨0, 0, [], Nat.zero_le _, Nat.le_refl _, Nat.le_refl _, rfl, rfl, World.ownsRow_nil _ _ _ _, HT.out.symm, Below.refl _ _⟩
  case round =>
    obtain ⟨k, a, l, hk, ha, hlk, rfl, rfl, hown, hinv, hbw⟩ := hrel
    by_cases hlt : k < s.size
    · have hinv' := hinv.out
      have F := CT.out a k ha hk
      have hX := Ln.ext_l s a k
      generalize s.extract a k = X at F hX
      have IX := fun W => rn_ix s k hlt W
      have hget : s.data.toList[k]'(by rw [Num.rn_len]; exact hlt) = s[k] := rfl
      by_cases h58 : s[k] = 10
      · have HI := Lib.hid (show (l ++ [X]).map (·.data.toList) ++ Ln.cut ((s.data.toList.take (k + 1)).drop (k + 1)) (s.data.toList.drop (k + 1)) = tot from by
          rw [List.map_append, ← hinv', Num.rn_drop s k hlt, Ln.cut, if_pos h58, List.append_assoc]
          have : (s.data.toList.take (k + 1)).drop (k + 1) = [] := List.drop_of_length_le (by rw [List.length_take]; omega)
          rw [this]
          show _ ++ ([X.data.toList] ++ _) = _
          rw [hX]; rfl)
        rw [h58] at IX
        have IX : ∀ W, Sem.run Tryd.prog (Instr.index 9 (.string s) (.int .i64 (k : Int))) W = .ok (.int .u8 10) W := IX
        clear hinv hinv' hX CT h58
        go_wp2_with (at_builtin; refine wpList_append_own _ rfl _ _ 49 rfl w.heap.size 9 i0 (.string ⟨#[]⟩) 1 16 Tryd.underlying49 hi hz0 hz1 hz2 rfl (by decide) _ _ _ rfl (hown.out.alloc _) ⟨wr.heap.size, 0, none⟩ 1 1 [.string X] rfl rfl (by intro j u hj; match j, hj with | 0, hj => (simp at hj; subst hj; simp [go_sem])) (by intro u hu; simp at hu; subst hu; rfl) (by unfold maxLen; omega) (by omega) (by have := hbw.out.size; simp; omega) ?_)
        intro v6 w6 own6 grow6 _
        have B6 := Lib.hid (show Below w.heap.size w w6 from ((hbw.out.alloc hbw.out.size _).trans (below_grown grow6 (by have := hbw.out.size; simp; omega) (own_row hown.out))))
        have O6 := Lib.hid (show w6.ownsRow w.heap.size 9 1 v6 (l ++ [X]).length ((l ++ [X]).map Value.string) from by rw [List.length_append, List.map_append]; exact own6)
        clear own6 grow6 hown hbw
        go_wp2_with fail
        go_roundw
        case rel => exact ⟨k + 1, k + 1, l ++ [X], by omega, Nat.le_refl _, by rw [List.length_append]; show l.length + 1 ≤ _; omega, by go_num, by go_num, O6, HI, B6⟩
        case measure => first | (simp [intOf]; done) | (simp [intOf]; omega)
      · have HI := Lib.hid (show l.map (·.data.toList) ++ Ln.cut ((s.data.toList.take (k + 1)).drop a) (s.data.toList.drop (k + 1)) = tot from by
          rw [← hinv', Num.rn_drop s k hlt, Ln.cut, if_neg h58, Ln.cur_next _ a k ha (by rw [Num.rn_len]; exact hlt), hget])
        have g2 : ((s[k].toNat : Int) == 10) = false := by
          rw [beq_eq_false_iff_ne]
          intro h; exact h58 (UInt8.toNat_inj.1 (by rw [show (10 : UInt8).toNat = 10 from rfl]; omega))
        generalize (s[k].toNat : Int) = c at IX g2
        clear hinv hinv' hX CT h58 F
        go_wp2_with fail
        go_roundw
        case rel => exact ⟨k + 1, a, l, by omega, by omega, by omega, by go_num, rfl, hown, HI, hbw⟩
        case measure => first | (simp [intOf]; done) | (simp [intOf]; omega)
    · obtain rfl : k = s.size := by omega
      have hinv' := hinv.out
      rw [List.drop_of_length_le (l := s.data.toList) (by rw [Num.rn_len]; omega), List.take_of_length_le (by rw [Num.rn_len]; omega)] at hinv'
      unfold Ln.cut at hinv'
      by_cases hat : a < s.size
      · have F : ∀ W, Sem.run Tryd.prog (Instr.slice 9 (.string s) (some (.int .i64 (a : Int))) none none) W = .ok (.string (s.extract a s.size)) W := fun W => rn_cut s a ha W
        have hX := Ln.ext_l s a s.size
        rw [List.take_of_length_le (by rw [Num.rn_len]; omega)] at hX
        generalize s.extract a s.size = X at F hX
        have hne : ¬ s.data.toList.drop a = [] := by
          intro h
          have := congrArg List.length h
          rw [List.length_drop, Num.rn_len] at this
          simp at this; omega
        rw [if_neg hne] at hinv'
        have HI := Lib.hid (show (l ++ [X]).map (·.data.toList) = tot from by rw [List.map_append, ← hinv', ← hX]; rfl)
        clear hinv hinv' hX hne CT
        go_wp2_with (at_builtin; refine wpList_append_own _ rfl _ _ 49 rfl w.heap.size 9 i0 (.string ⟨#[]⟩) 1 16 Tryd.underlying49 hi hz0 hz1 hz2 rfl (by decide) _ _ _ rfl (hown.out.alloc _) ⟨wr.heap.size, 0, none⟩ 1 1 [.string X] rfl rfl (by intro j u hj; match j, hj with | 0, hj => (simp at hj; subst hj; simp [go_sem])) (by intro u hu; simp at hu; subst hu; rfl) (by unfold maxLen; omega) (by omega) (by have := hbw.out.size; simp; omega) ?_)
        intro v6 w6 own6 grow6 _
        have B6 := Lib.hid (show Below w.heap.size w w6 from ((hbw.out.alloc hbw.out.size _).trans (below_grown grow6 (by have := hbw.out.size; simp; omega) (own_row hown.out))))
        have O6 := Lib.hid (show w6.ownsRow w.heap.size 9 1 v6 (l ++ [X]).length ((l ++ [X]).map Value.string) from by rw [List.length_append, List.map_append]; exact own6)
        clear own6 grow6 hown hbw
        go_wp2_with fail
        go_ret
        exact ⟨_, l ++ [X], Lst.own O6.out, HI.out, rfl, B6.out⟩
      · have he : s.data.toList.drop a = [] := List.drop_of_length_le (by rw [Num.rn_len]; omega)
        rw [if_pos he, List.append_nil] at hinv'
        have HI := Lib.hid hinv'
        clear hinv hinv' he CT
        go_wp2_with fail
        go_ret
        exact ⟨_, l, Lst.own hown.out, HI.out, rfl, hbw.out⟩
namespace Ln
/-- The first line that is not right, and why. -/
def fst : List (List UInt8) → Nat → Int × Int
  | [], _ => (0, 0)
  | x :: r, k => if chk x = 0 then fst r (k + 1) else ((k : Int) + 1, chk x)
def fsrc (s : List UInt8) : Int × Int := if 1048576 < s.length then (0, 9) else fst (cut [] s) 0
end Ln
set_option maxHeartbeats 4000000 in
set_option maxRecDepth 100000 in
theorem first_anyx (s : ByteArray) (w : World) (hs : s.size ≤ 2000000) (CO : Hid (∀ W, Below w.heap.size w W → Calls Tryd.prog 39 #[.string s] W (AnsL (Ln.cut [] s.data.toList) W))) :
    Calls Tryd.prog 43 #[.string s] w fun e w' => e = .returned (.agg #[.int .i64 (Ln.fsrc s.data.toList).1, .int .i64 (Ln.fsrc s.data.toList).2]) ∧ Below w.heap.size w w' := by
  obtain ⟨R, hR⟩ : ∃ R, R = Ln.fsrc s.data.toList := ⟨_, rfl⟩
  rw [← hR]
  unfold Ln.fsrc at hR
  rw [ab_len] at hR
  by_cases h : 1048576 < s.size
  · rw [if_pos h] at hR
    subst hR
    have h1 : 1048576 < (s.size : Int) := by omega
    clear h CO
    go_enter Tryd.func43, Tryd.ntmps43
    go_wp2_with fail
    refine bodyPost_ret (v := .agg #[.int .i64 0, .int .i64 9]) (by simp [results, Tryd.results43, go_sem]) rfl ⟨rfl, (Below.refl _ _).alloc (Nat.le_refl _) _⟩
  · rw [if_neg h] at hR
    have h1 : ¬ 1048576 < (s.size : Int) := by omega
    have HR := Lib.hid hR; clear hR h
    go_enter Tryd.func43, Tryd.ntmps43
    go_wp2_with fail
    refine (CO.out _ ((Below.refl _ _).alloc (Nat.le_refl _) _)).mono ?_; rintro e w1 ⟨v, L, S, hL, rfl, b1⟩
    have B1 := Lib.hid (below_step ((Below.refl _ _).alloc (Nat.le_refl _) _) b1)
    have Z1 := Lib.hid (show Bk2 w1 w.heap.size (.int .i64 0) (.int .i64 0) from Bk2.of b1 (by simp) (by intro j; simp [go_sem]) (by simp [go_sem]) (by simp [go_sem]))
    have HS := Lib.hid S
    obtain ⟨A, c, rfl, -⟩ := S
    have hlen := Ln.cut_len [] s.data.toList
    rw [← hL, List.length_map, ab_len] at hlen
    have hsz := Lib.hid (show ∀ x ∈ L, x.size ≤ s.size from fun x hx => by
      have := Ln.cut_size [] s.data.toList x.data.toList (by rw [← hL]; exact List.mem_map_of_mem hx)
      rw [ab_len, ab_len] at this; simpa using this)
    have HR2 := Lib.hid (show Ln.fst (L.map (·.data.toList)) 0 = R by rw [hL]; exact HR.out.symm)
    obtain ⟨N, hN⟩ : ∃ N, N = L.length := ⟨_, rfl⟩
    have HN := Lib.hid hN
    have HS : Hid (StS w1 (.slice A N c) L) := by rw [hN]; exact HS
    rw [← hN] at hlen ⊢
    clear b1 hL CO HR hN
    go_wp2_with fail
    go_loopw [13] (fun i wr => ∃ k : Nat, k ≤ N ∧ i = .int .i64 k ∧ Hid (Ln.fst ((L.map (·.data.toList)).drop k) k = R) ∧ Hid (Below w1.heap.size w1 wr)) (fun i _ => N - (intOf i).toNat)
    case atStart => exact ⟨0, Nat.zero_le _, rfl, HR2, Below.refl _ _⟩
    case round =>
      obtain ⟨k, hk, rfl, hr, hbw⟩ := hrel
      have Z := Z1.out.keep hbw.out
      have z_b := Z.hb; have z_f := Z.fz; have z_0 := Z.k0; have z_1 := Z.k1
      by_cases hlt : k < N
      · have hkL : k < L.length := by have := HN.out; omega
        obtain ⟨a, rfl, g⟩ := (HS.out.on hbw.out).get k hkL
        have hx := hsz.out L[k] (List.getElem_mem hkL)
        have hn := hr.out
        rw [List.drop_eq_getElem_cons (by rw [List.length_map]; exact hkL), List.getElem_map] at hn
        unfold Ln.fst at hn
        have C := Lib.hid (fun W => lcheck_any L[k] W (by unfold maxLen; omega))
        generalize L[k] = x at g hn C hx
        clear hr z_0 z_1 z_f
        cases hc : Ln.chk x.data.toList == 0
        · have hne : ¬ Ln.chk x.data.toList = 0 := by rw [← beq_iff_eq, hc]; simp
          rw [if_neg hne] at hn
          have HQ := Lib.hid hn; clear hn hne
          have nc : (Ln.chk x.data.toList != 0) = true := by unfold bne; rw [hc]; rfl
          generalize Ln.chk x.data.toList = q at C HQ hc nc
          go_wp2_with fail
          refine (C.out _).mono ?_; rintro e w2 ⟨rfl, b2⟩
          have Z2 := Z.keep b2
          have q_b := Z2.hb; have q_f := Z2.fz; have q_0 := Z2.k0; have q_1 := Z2.k1
          have B2 := Lib.hid (below_step B1.out (below_step hbw.out b2))
          clear b2
          go_wp2_with fail
          refine bodyPost_ret (v := .agg #[.int .i64 ((k : Int) + 1), .int .i64 q]) (by simp [results, Tryd.results43, go_sem, q_b, q_f, q_0, q_1]) rfl ⟨by rw [← HQ.out], ?_⟩
          have hz := B2.out.size
          repeat (first | exact B2.out | refine Below.setCell ?_ (by first | (simp; done) | (simp; omega) | omega) _ | refine below_drewN ?_ _ | refine Below.drew ?_)
        · have hne : Ln.chk x.data.toList = 0 := by rw [← beq_iff_eq]; exact hc
          rw [if_pos hne] at hn
          have HQ := Lib.hid hn; clear hn
          rw [hne] at C
          clear hc hne
          go_wp2_with fail
          refine (C.out _).mono ?_; rintro e w2 ⟨rfl, b2⟩
          have B2 := Lib.hid (below_step hbw.out b2)
          clear b2
          go_wp2_with fail
          go_roundw
          case rel => exact ⟨k + 1, by omega, by go_num, HQ, B2⟩
          case measure => simp [intOf]; omega
      · have HQ := Lib.hid (show R = (0, 0) by
          rw [← hr.out, List.drop_of_length_le (by rw [List.length_map]; have := HN.out; omega)]; rfl)
        have B2 := Lib.hid (below_step B1.out hbw.out)
        go_wp2_with fail
        refine bodyPost_ret (v := .agg #[.int .i64 0, .int .i64 0]) (by simp [results, Tryd.results43, go_sem, z_b, z_f, z_0, z_1]) rfl ⟨by rw [HQ.out], ?_⟩
        have hz := B2.out.size
        repeat (first | exact B2.out | refine Below.setCell ?_ (by first | (simp; done) | (simp; omega) | omega) _ | refine below_drewN ?_ _ | refine Below.drew ?_)
set_option maxHeartbeats 4000000 in
set_option maxRecDepth 100000 in
theorem rfirst13_anyx (s : ByteArray) (w : World) (hs : s.size ≤ 2000000) (CO : Hid (∀ W, Below w.heap.size w W → Calls Tryd.prog 40 #[.string s] W (AnsL (Ln.cut [] s.data.toList) W))) :
    Calls Tryd.prog 44 #[.string s] w fun e w' => e = .returned (.agg #[.int .i64 (Ln.fsrc s.data.toList).1, .int .i64 (Ln.fsrc s.data.toList).2]) ∧ Below w.heap.size w w' := by
  obtain ⟨R, hR⟩ : ∃ R, R = Ln.fsrc s.data.toList := ⟨_, rfl⟩
  rw [← hR]
  unfold Ln.fsrc at hR
  rw [ab_len] at hR
  by_cases h : 1048576 < s.size
  · rw [if_pos h] at hR
    subst hR
    have h1 : 1048576 < (s.size : Int) := by omega
    clear h CO
    go_enter Tryd.func44, Tryd.ntmps44
    go_wp2_with fail
    refine bodyPost_ret (v := .agg #[.int .i64 0, .int .i64 9]) (by simp [results, Tryd.results44, go_sem]) rfl ⟨rfl, (Below.refl _ _).alloc (Nat.le_refl _) _⟩
  · rw [if_neg h] at hR
    have h1 : ¬ 1048576 < (s.size : Int) := by omega
    have HR := Lib.hid hR; clear hR h
    go_enter Tryd.func44, Tryd.ntmps44
    go_wp2_with fail
    refine (CO.out _ ((Below.refl _ _).alloc (Nat.le_refl _) _)).mono ?_; rintro e w1 ⟨v, L, S, hL, rfl, b1⟩
    have B1 := Lib.hid (below_step ((Below.refl _ _).alloc (Nat.le_refl _) _) b1)
    have Z1 := Lib.hid (show Bk2 w1 w.heap.size (.int .i64 0) (.int .i64 0) from Bk2.of b1 (by simp) (by intro j; simp [go_sem]) (by simp [go_sem]) (by simp [go_sem]))
    have HS := Lib.hid S
    obtain ⟨A, c, rfl, -⟩ := S
    have hlen := Ln.cut_len [] s.data.toList
    rw [← hL, List.length_map, ab_len] at hlen
    have hsz := Lib.hid (show ∀ x ∈ L, x.size ≤ s.size from fun x hx => by
      have := Ln.cut_size [] s.data.toList x.data.toList (by rw [← hL]; exact List.mem_map_of_mem hx)
      rw [ab_len, ab_len] at this; simpa using this)
    have HR2 := Lib.hid (show Ln.fst (L.map (·.data.toList)) 0 = R by rw [hL]; exact HR.out.symm)
    obtain ⟨N, hN⟩ : ∃ N, N = L.length := ⟨_, rfl⟩
    have HN := Lib.hid hN
    have HS : Hid (StS w1 (.slice A N c) L) := by rw [hN]; exact HS
    rw [← hN] at hlen ⊢
    clear b1 hL CO HR hN
    go_wp2_with fail
    go_loopw [13] (fun i wr => ∃ k : Nat, k ≤ N ∧ i = .int .i64 k ∧ Hid (Ln.fst ((L.map (·.data.toList)).drop k) k = R) ∧ Hid (Below w1.heap.size w1 wr)) (fun i _ => N - (intOf i).toNat)
    case atStart => exact ⟨0, Nat.zero_le _, rfl, HR2, Below.refl _ _⟩
    case round =>
      obtain ⟨k, hk, rfl, hr, hbw⟩ := hrel
      have Z := Z1.out.keep hbw.out
      have z_b := Z.hb; have z_f := Z.fz; have z_0 := Z.k0; have z_1 := Z.k1
      by_cases hlt : k < N
      · have hkL : k < L.length := by have := HN.out; omega
        obtain ⟨a, rfl, g⟩ := (HS.out.on hbw.out).get k hkL
        have hx := hsz.out L[k] (List.getElem_mem hkL)
        have hn := hr.out
        rw [List.drop_eq_getElem_cons (by rw [List.length_map]; exact hkL), List.getElem_map] at hn
        unfold Ln.fst at hn
        have C := Lib.hid (fun W => rlcheck_any L[k] W (by unfold maxLen; omega))
        generalize L[k] = x at g hn C hx
        clear hr z_0 z_1 z_f
        cases hc : Ln.chk x.data.toList == 0
        · have hne : ¬ Ln.chk x.data.toList = 0 := by rw [← beq_iff_eq, hc]; simp
          rw [if_neg hne] at hn
          have HQ := Lib.hid hn; clear hn hne
          have nc : (Ln.chk x.data.toList != 0) = true := by unfold bne; rw [hc]; rfl
          generalize Ln.chk x.data.toList = q at C HQ hc nc
          go_wp2_with fail
          refine (C.out _).mono ?_; rintro e w2 ⟨rfl, b2⟩
          have Z2 := Z.keep b2
          have q_b := Z2.hb; have q_f := Z2.fz; have q_0 := Z2.k0; have q_1 := Z2.k1
          have B2 := Lib.hid (below_step B1.out (below_step hbw.out b2))
          clear b2
          go_wp2_with fail
          refine bodyPost_ret (v := .agg #[.int .i64 ((k : Int) + 1), .int .i64 q]) (by simp [results, Tryd.results44, go_sem, q_b, q_f, q_0, q_1]) rfl ⟨by rw [← HQ.out], ?_⟩
          have hz := B2.out.size
          repeat (first | exact B2.out | refine Below.setCell ?_ (by first | (simp; done) | (simp; omega) | omega) _ | refine below_drewN ?_ _ | refine Below.drew ?_)
        · have hne : Ln.chk x.data.toList = 0 := by rw [← beq_iff_eq]; exact hc
          rw [if_pos hne] at hn
          have HQ := Lib.hid hn; clear hn
          rw [hne] at C
          clear hc hne
          go_wp2_with fail
          refine (C.out _).mono ?_; rintro e w2 ⟨rfl, b2⟩
          have B2 := Lib.hid (below_step hbw.out b2)
          clear b2
          go_wp2_with fail
          go_roundw
          case rel => exact ⟨k + 1, by omega, by go_num, HQ, B2⟩
          case measure => simp [intOf]; omega
      · have HQ := Lib.hid (show R = (0, 0) by
          rw [← hr.out, List.drop_of_length_le (by rw [List.length_map]; have := HN.out; omega)]; rfl)
        have B2 := Lib.hid (below_step B1.out hbw.out)
        go_wp2_with fail
        refine bodyPost_ret (v := .agg #[.int .i64 0, .int .i64 0]) (by simp [results, Tryd.results44, go_sem, z_b, z_f, z_0, z_1]) rfl ⟨by rw [HQ.out], ?_⟩
        have hz := B2.out.size
        repeat (first | exact B2.out | refine Below.setCell ?_ (by first | (simp; done) | (simp; omega) | omega) _ | refine below_drewN ?_ _ | refine Below.drew ?_)
end Go.Proofs.YtfcabofhlgmkjaaDoor

