/- Amounts: the reference's part, cut. -/
import Derived.Test.YtafnnnbefabofaaDoorRmA
import Derived.Test.YtafnnnbefabofaaDoorWdB
set_option linter.unusedVariables false
set_option linter.unusedSimpArgs false
namespace Go.Proofs.YtafnnnbefabofaaDoor
open Go.RowKit Go.Sort

namespace Am
def ptB (l : List UInt8) (lo hi : Int) : Bool := decide (lo ≤ (l.length : Int)) && (decide ((l.length : Int) ≤ hi) && Num.dgs l)
def ptV (l : List UInt8) (lo hi : Int) : Int := if ptB l lo hi then (Num.val 0 l : Int) else 0
end Am
set_option maxHeartbeats 2000000 in
set_option maxRecDepth 100000 in
theorem rpart_yes (s : ByteArray) (lo hi : Int) (w : World) (h1 : lo ≤ (s.size : Int)) (h2 : (s.size : Int) ≤ hi) (h3 : hi ≤ 3) (hd : s.data.toList.all Num.dig = true) (CD : Hid (∀ W, Calls Tryd.prog 98 #[.string s] W fun e w' => e = .returned (.bool true) ∧ W = w')) :
    Calls Tryd.prog 123 #[.string s, .int .i64 lo, .int .i64 hi] w fun e w' => e = .returned (.tuple #[.int .i64 (Num.val 0 s.data.toList : Int), .bool true]) ∧ w = w' := by
  obtain ⟨ans, hans⟩ : ∃ ans, ans = Num.val 0 s.data.toList := ⟨_, rfl⟩
  rw [← hans]
  have HA := Lib.hid hans; clear hans
  have HD := Lib.hid hd; clear hd
  have h4 : s.size ≤ 3 := by omega
  have g1 : ¬ (s.size : Int) < lo := by omega
  have g2 : ¬ hi < (s.size : Int) := by omega
  clear h1 h2 h3
  go_enter Tryd.func123, Tryd.ntmps123
  go_wp2_with fail
  refine (CD.out _).mono ?_; rintro e w1 ⟨rfl, rfl⟩
  go_wp2_with fail
  go_loopw [8, 9] (fun n i wr => ∃ k a : Nat, k ≤ s.size ∧ i = .int .i64 k ∧ n = .int .i64 a ∧ Hid (a + 1 ≤ 10 ^ k) ∧ Hid (Num.val a (s.data.toList.drop k) = ans) ∧ wr = w) (fun _ i _ => s.size - (intOf i).toNat)
  case atStart => exact ⟨0, 0, Nat.zero_le _, rfl, rfl, Nat.le_refl 1, HA.out.symm, rfl⟩
  case round =>
    obtain ⟨k, a, hk, rfl, rfl, hp, hr, hw⟩ := hrel
    obtain rfl : w = wr := hw.symm
    by_cases hlt : k < s.size
    · have hb := s[k].toNat_lt
      have hdk : Num.dig s[k] = true := by
        have h := HD.out
        have := List.all_eq_true.1 h s[k] (by
          have e : s[k] = s.data.toList[k]'(by rw [Num.rn_len]; exact hlt) := rfl
          rw [e]; exact List.getElem_mem _)
        exact this
      have h48 : 48 ≤ s[k].toNat ∧ s[k].toNat ≤ 57 := by unfold Num.dig at hdk; exact of_decide_eq_true hdk
      obtain ⟨l48, l57⟩ := h48
      have ha : a ≤ 99999 := by
        have h := hp.out
        have := Nat.pow_le_pow_right (n := 10) (by omega) (show k ≤ 5 by omega)
        omega
      have hp' := Lib.hid (show Num.stp a s[k] + 1 ≤ 10 ^ (k + 1) by rw [Num.stp_eq, Nat.pow_succ]; have := hp.out; omega)
      have hr' := Lib.hid (show Num.val (Num.stp a s[k]) (s.data.toList.drop (k + 1)) = ans by rw [← hr.out, Num.rn_drop s k hlt, Num.val_cons])
      have hs' := Lib.hid (show 10 * (a : Int) + ((s[k].toNat : Int) - 48) = (Num.stp a s[k] : Int) by rw [Num.stp_eq]; omega)
      clear hdk hp hr
      go_wp2_with fail
      go_roundw
      case rel => exact ⟨k + 1, Num.stp a s[k], by omega, by go_num, by first | (rw [← hs'.out]; done) | (rw [← hs'.out]; rfl) | (congr 1; rw [← hs'.out]), hp', hr', by first | rfl | trivial⟩
      case measure => first | (simp [intOf]; done) | (simp [intOf]; omega)
    · have hyes := Lib.hid (show a = ans by rw [← hr.out, List.drop_of_length_le (by rw [Num.rn_len]; omega)]; rfl)
      go_wp2_with fail
      go_ret2
      exact ⟨by rw [hyes.out]; rfl, rfl⟩
theorem rpart_no (s : ByteArray) (lo hi : Int) (w : World) (h : (s.size : Int) < lo ∨ (¬ (s.size : Int) < lo ∧ hi < (s.size : Int))) :
    Calls Tryd.prog 123 #[.string s, .int .i64 lo, .int .i64 hi] w fun e w' => e = .returned (.tuple #[.int .i64 0, .bool false]) ∧ w = w' := by
  rcases h with h | ⟨h, h2⟩
  · go_enter Tryd.func123, Tryd.ntmps123
    go_wp2_with fail
    go_ret2
    exact ⟨rfl, rfl⟩
  · go_enter Tryd.func123, Tryd.ntmps123
    go_wp2_with fail
    go_ret2
    exact ⟨rfl, rfl⟩
theorem rpart_dig (s : ByteArray) (lo hi : Int) (w : World) (h1 : ¬ (s.size : Int) < lo) (h2 : ¬ hi < (s.size : Int)) (CD : Hid (∀ W, Calls Tryd.prog 98 #[.string s] W fun e w' => e = .returned (.bool false) ∧ W = w')) :
    Calls Tryd.prog 123 #[.string s, .int .i64 lo, .int .i64 hi] w fun e w' => e = .returned (.tuple #[.int .i64 0, .bool false]) ∧ w = w' := by
  go_enter Tryd.func123, Tryd.ntmps123
  go_wp2_with fail
  refine (CD.out _).mono ?_; rintro e w1 ⟨rfl, rfl⟩
  go_wp2_with fail
  go_ret2
  exact ⟨rfl, rfl⟩
theorem rpart_any (s : ByteArray) (lo hi : Int) (w : World) (hs : s.size ≤ maxLen) (h3 : hi ≤ 3) :
    Calls Tryd.prog 123 #[.string s, .int .i64 lo, .int .i64 hi] w fun e w' => e = .returned (.tuple #[.int .i64 (Am.ptV s.data.toList lo hi), .bool (Am.ptB s.data.toList lo hi)]) ∧ w = w' := by
  have hl := Num.rn_len s
  unfold Am.ptV
  by_cases h1 : lo ≤ (s.size : Int)
  · by_cases h2 : (s.size : Int) ≤ hi
    · have CD := Lib.hid (fun W => rdigs_any s W hs)
      cases hd : Num.dgs s.data.toList
      · have e : Am.ptB s.data.toList lo hi = false := by unfold Am.ptB; rw [hd]; simp
        rw [hd] at CD
        rw [e]
        exact rpart_dig s lo hi w (by omega) (by omega) CD
      · have e : Am.ptB s.data.toList lo hi = true := by unfold Am.ptB; rw [hd, hl, decide_eq_true h1, decide_eq_true h2]; rfl
        rw [hd] at CD
        rw [e]
        have ha : s.data.toList.all Num.dig = true := by unfold Num.dgs at hd; rw [Bool.and_eq_true] at hd; exact hd.1
        exact rpart_yes s lo hi w h1 h2 h3 ha CD
    · have e : Am.ptB s.data.toList lo hi = false := by unfold Am.ptB; rw [hl, decide_eq_false h2]; simp
      rw [e]
      exact rpart_no s lo hi w (.inr ⟨by omega, by omega⟩)
  · have e : Am.ptB s.data.toList lo hi = false := by unfold Am.ptB; rw [hl, decide_eq_false h1]; simp
    rw [e]
    exact rpart_no s lo hi w (.inl (by omega))
namespace Am
/-- The pieces of a text, cut at its colons: behind what is at hand. -/
def rest (cur : List UInt8) : List UInt8 → List (List UInt8)
  | [] => [cur]
  | c :: r => if c = 58 then cur :: rest [] r else rest (cur ++ [c]) r
theorem ext_l (s : ByteArray) (a b : Nat) : (s.extract a b).data.toList = (s.data.toList.take b).drop a := by
  rw [ByteArray.data_extract, Array.toList_extract]
  rw [List.drop_take]
theorem cur_next (l : List UInt8) (a k : Nat) (ha : a ≤ k) (hk : k < l.length) : (l.take (k + 1)).drop a = (l.take k).drop a ++ [l[k]] := by
  rw [List.take_succ_eq_append_getElem hk, List.drop_append_of_le_length (by rw [List.length_take]; omega)]
end Am
theorem info_str : (Tryd.prog.info? 9).map (fun i => (i.zero, i.size, i.bytes)) = some (some (.string ⟨#[]⟩), 1, 16) := by kernel_rfl
theorem rcut_parts {i0 : Option TypeInfo} {z : Value} {n b : Nat} (h : i0.map (fun i => (i.zero, i.size, i.bytes)) = some (some z, n, b)) : ∃ i, i0 = some i ∧ i.zero = some z ∧ i.size = n ∧ i.bytes = b := by
  cases i0 with
  | none => cases h
  | some i => simp at h; exact ⟨i, rfl, h.1, h.2.1, h.2.2⟩
/-- A call that answers a list of strings. -/
def AnsT (P : List (List UInt8)) (w : World) (e : Ending) (w' : World) : Prop := ∃ (v : Value) (l : List ByteArray), StS w' v l ∧ l.map (·.data.toList) = P ∧ e = .returned v ∧ Below w.heap.size w w'
set_option maxHeartbeats 4000000 in
set_option maxRecDepth 100000 in
theorem rcut_any (s : ByteArray) (w : World) (hs : s.size ≤ 600) :
    Calls Tryd.prog 122 #[.string s] w (AnsT (Am.rest [] s.data.toList) w) := by
  obtain ⟨i0, hi, hz0, hz1, hz2⟩ := rcut_parts info_str
  have CT : Hid (∀ (a b : Nat), a ≤ b → b ≤ s.size → ∀ W, Sem.run Tryd.prog (Instr.slice 9 (.string s) (some (.int .i64 (a : Int))) (some (.int .i64 (b : Int))) none) W = .ok (.string (s.extract a b)) W) := fun a b h1 h2 W => by
    rw [run_slice_string W 9 s .i64 .i64 (a : Int) (b : Int) Tryd.underlying9 (by omega) (by omega) (by omega)]
    simp
  obtain ⟨tot, htot⟩ : ∃ tot, tot = Am.rest [] s.data.toList := ⟨_, rfl⟩
  rw [← htot]
  have HT := Lib.hid htot; clear htot
  go_enter Tryd.func122, Tryd.ntmps122
  go_wp2_with fail
  go_loopw [3, 4, 5] (fun v at_ i wr => ∃ (k a : Nat) (l : List ByteArray), k ≤ s.size + 1 ∧ a ≤ k ∧ l.length ≤ k ∧ i = .int .i64 k ∧ at_ = .int .i64 a ∧ Hid (wr.ownsRow w.heap.size 9 1 v l.length (l.map Value.string)) ∧ Hid (if k ≤ s.size then l.map (·.data.toList) ++ Am.rest ((s.data.toList.take k).drop a) (s.data.toList.drop k) = tot else l.map (·.data.toList) = tot) ∧ Hid (Below w.heap.size w wr)) (fun _ _ i _ => s.size + 1 - (intOf i).toNat)
  case atStart =>
    refine ⟨0, 0, [], by omega, Nat.le_refl _, Nat.le_refl _, rfl, rfl, World.ownsRow_nil _ _ _ _, ?_, Below.refl _ _⟩
    show (if 0 ≤ s.size then _ else _)
    rw [if_pos (Nat.zero_le _)]
    exact HT.out.symm
  case round =>
    obtain ⟨k, a, l, hk, ha, hlk, rfl, rfl, hown, hinv, hbw⟩ := hrel
    by_cases hks : k ≤ s.size
    · have hinv' := hinv.out
      rw [if_pos hks] at hinv'
      by_cases hke : k = s.size
      · subst hke
        have F := CT.out a s.size ha hks
        have hX := Am.ext_l s a s.size
        generalize s.extract a s.size = X at F hX
        have HI := Lib.hid (show (if s.size + 1 ≤ s.size then (l ++ [X]).map (·.data.toList) ++ Am.rest ((s.data.toList.take (s.size + 1)).drop (s.size + 1)) (s.data.toList.drop (s.size + 1)) = tot else (l ++ [X]).map (·.data.toList) = tot) from by
          rw [if_neg (by omega), List.map_append, ← hinv', List.drop_of_length_le (l := s.data.toList) (by rw [Num.rn_len]; omega)]
          show _ ++ [X.data.toList] = _ ++ [_]
          rw [hX])
        clear hinv hinv' hX CT
        go_wp2_with (at_builtin; refine wpList_append_own _ rfl _ _ 132 rfl w.heap.size 9 i0 (.string ⟨#[]⟩) 1 16 Tryd.underlying132 hi hz0 hz1 hz2 rfl (by decide) _ _ _ rfl (hown.out.alloc _) ⟨wr.heap.size, 0, none⟩ 1 1 [.string X] rfl rfl (by intro j u hj; match j, hj with | 0, hj => (simp at hj; subst hj; simp [go_sem])) (by intro u hu; simp at hu; subst hu; rfl) (by unfold maxLen; omega) (by omega) (by have := hbw.out.size; simp; omega) ?_)
        intro v6 w6 own6 grow6 _
        have B6 := Lib.hid (show Below w.heap.size w w6 from ((hbw.out.alloc hbw.out.size _).trans (below_grown grow6 (by have := hbw.out.size; simp; omega) (own_row hown.out))))
        have O6 := Lib.hid (show w6.ownsRow w.heap.size 9 1 v6 (l ++ [X]).length ((l ++ [X]).map Value.string) from by rw [List.length_append, List.map_append]; exact own6)
        clear own6 grow6 hown hbw
        go_wp2_with fail
        go_roundw
        case rel => exact ⟨s.size + 1, s.size + 1, l ++ [X], by omega, Nat.le_refl _, by rw [List.length_append]; show l.length + 1 ≤ _; omega, by go_num, by go_num, O6, HI, B6⟩
        case measure => first | (simp [intOf]; done) | (simp [intOf]; omega)
      · have hlt : k < s.size := by omega
        have F := CT.out a k ha hks
        have hX := Am.ext_l s a k
        generalize s.extract a k = X at F hX
        have g1 : ((k : Int) == (s.size : Int)) = false := by rw [beq_eq_false_iff_ne]; omega
        have IX := fun W => rn_ix s k hlt W
        have hget : s.data.toList[k]'(by rw [Num.rn_len]; exact hlt) = s[k] := rfl
        by_cases h58 : s[k] = 58
        · have HI := Lib.hid (show (if k + 1 ≤ s.size then (l ++ [X]).map (·.data.toList) ++ Am.rest ((s.data.toList.take (k + 1)).drop (k + 1)) (s.data.toList.drop (k + 1)) = tot else (l ++ [X]).map (·.data.toList) = tot) from by
            rw [if_pos (by omega), List.map_append, ← hinv', Num.rn_drop s k hlt, Am.rest, if_pos h58, List.append_assoc]
            have : (s.data.toList.take (k + 1)).drop (k + 1) = [] := List.drop_of_length_le (by rw [List.length_take]; omega)
            rw [this]
            show _ ++ ([X.data.toList] ++ _) = _
            rw [hX]; rfl)
          rw [h58] at IX
          have IX : ∀ W, Sem.run Tryd.prog (Instr.index 9 (.string s) (.int .i64 (k : Int))) W = .ok (.int .u8 58) W := IX
          clear hinv hinv' hX CT h58
          go_wp2_with (at_builtin; refine wpList_append_own _ rfl _ _ 132 rfl w.heap.size 9 i0 (.string ⟨#[]⟩) 1 16 Tryd.underlying132 hi hz0 hz1 hz2 rfl (by decide) _ _ _ rfl (hown.out.alloc _) ⟨wr.heap.size, 0, none⟩ 1 1 [.string X] rfl rfl (by intro j u hj; match j, hj with | 0, hj => (simp at hj; subst hj; simp [go_sem])) (by intro u hu; simp at hu; subst hu; rfl) (by unfold maxLen; omega) (by omega) (by have := hbw.out.size; simp; omega) ?_)
          intro v6 w6 own6 grow6 _
          have B6 := Lib.hid (show Below w.heap.size w w6 from ((hbw.out.alloc hbw.out.size _).trans (below_grown grow6 (by have := hbw.out.size; simp; omega) (own_row hown.out))))
          have O6 := Lib.hid (show w6.ownsRow w.heap.size 9 1 v6 (l ++ [X]).length ((l ++ [X]).map Value.string) from by rw [List.length_append, List.map_append]; exact own6)
          clear own6 grow6 hown hbw
          go_wp2_with fail
          go_roundw
          case rel => exact ⟨k + 1, k + 1, l ++ [X], by omega, Nat.le_refl _, by rw [List.length_append]; show l.length + 1 ≤ _; omega, by go_num, by go_num, O6, HI, B6⟩
          case measure => first | (simp [intOf]; done) | (simp [intOf]; omega)
        · have HI := Lib.hid (show (if k + 1 ≤ s.size then l.map (·.data.toList) ++ Am.rest ((s.data.toList.take (k + 1)).drop a) (s.data.toList.drop (k + 1)) = tot else l.map (·.data.toList) = tot) from by
            rw [if_pos (by omega), ← hinv', Num.rn_drop s k hlt, Am.rest, if_neg h58, Am.cur_next _ a k ha (by rw [Num.rn_len]; exact hlt), hget])
          have g2 : ((s[k].toNat : Int) == 58) = false := by
            rw [beq_eq_false_iff_ne]
            intro h; exact h58 (UInt8.toNat_inj.1 (by rw [show (58 : UInt8).toNat = 58 from rfl]; omega))
          generalize (s[k].toNat : Int) = c at IX g2
          clear hinv hinv' hX CT h58 F
          go_wp2_with fail
          go_roundw
          case rel => exact ⟨k + 1, a, l, by omega, by omega, by omega, by go_num, rfl, hown, HI, hbw⟩
          case measure => first | (simp [intOf]; done) | (simp [intOf]; omega)
    · have hinv' := Lib.hid (show l.map (·.data.toList) = tot from by have := hinv.out; rwa [if_neg hks] at this)
      clear hinv CT
      go_wp2_with fail
      go_ret
      exact ⟨_, l, Lst.own hown.out, hinv'.out, rfl, hbw.out⟩
end Go.Proofs.YtafnnnbefabofaaDoor

