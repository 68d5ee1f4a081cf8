/- Years: the reference's functions answer as the program's. -/
import Derived.Test.YtafnnnbefabofaaDoorYrE
import Derived.Test.YtafnnnbefabofaaDoorWdG
import Derived.Test.YtafnnnbefabofaaDoorWdE
import Derived.Test.YtafnnnbefabofaaDoorRnA
set_option linter.unusedVariables false
set_option linter.unusedSimpArgs false
namespace Go.Proofs.YtafnnnbefabofaaDoor
open Go.RowKit Go.Sort

theorem rnumeral_any (s : ByteArray) (w : World) :
    Calls Tryd.prog 127 #[.string s] w fun e w' => e = .returned (.bool (Yr.isN s.data.toList)) ∧ w = w' := by
  rcases Nat.eq_zero_or_pos s.size with hz | hz
  · have hl : s.data.toList = [] := by rw [← List.length_eq_zero_iff, Num.rn_len]; exact hz
    have e : s = ⟨#[]⟩ := by apply ByteArray.ext; apply Array.toList_inj.1; rw [hl]
    subst e
    clear hz hl
    go_enter Tryd.func127, Tryd.ntmps127
    go_wp2_with fail
    go_ret
    exact ⟨rfl, rfl⟩
  · obtain ⟨r, hr, -⟩ := dhead hz
    obtain ⟨n1, n2⟩ := dne hz
    have e : Yr.isN s.data.toList = (Num.dig s[0] || decide (s[0].toNat = 45)) := by
      rw [hr]; exact Yr.starts_dig s[0]
    rw [e]
    have IX := fun W => rn_ix s 0 hz W
    have hd := Num.rn_dig s[0]
    have hb := s[0].toNat_lt
    rw [hd]
    obtain ⟨c, hc⟩ : ∃ c : Int, (s[0].toNat : Int) = c := ⟨_, rfl⟩
    have h45 : decide (s[0].toNat = 45) = decide (c = 45) := by rw [← hc]; exact decide_eq_decide.2 (by omega)
    rw [h45, hc]
    have IX : ∀ W, Sem.run Tryd.prog (Instr.index 9 (.string s) (.int .i64 0)) W = .ok (.int .u8 c) W := fun W => by rw [← hc]; exact IX W
    clear e hd h45 hr
    by_cases h1 : c = 45
    · have g1 : (c == 45) = true := by simpa using h1
      have e : (decide (48 ≤ c) && decide (c ≤ 57) || decide (c = 45)) = true := by rw [decide_eq_true h1]; simp
      rw [e]
      clear h1 hc hb e
      go_enter Tryd.func127, Tryd.ntmps127
      go_wp2_with fail
      go_ret
      exact ⟨rfl, rfl⟩
    · have g1 : (c == 45) = false := beq_eq_false_iff_ne.2 h1
      rw [decide_eq_false h1, Bool.or_false]
      clear h1 hc hb
      by_cases h2 : 48 ≤ c
      · by_cases h3 : c ≤ 57
        · rw [decide_eq_true h2, decide_eq_true h3]
          go_enter Tryd.func127, Tryd.ntmps127
          go_wp2_with fail
          go_ret
          exact ⟨rfl, rfl⟩
        · have g3 : decide (c ≤ 57) = false := decide_eq_false h3
          rw [decide_eq_true h2, g3]
          go_enter Tryd.func127, Tryd.ntmps127
          go_wp2_with fail
          go_ret
          exact ⟨rfl, rfl⟩
      · have g2 : decide (48 ≤ c) = false := decide_eq_false h2
        rw [g2]
        go_enter Tryd.func127, Tryd.ntmps127
        go_wp2_with fail
        go_ret
        exact ⟨rfl, rfl⟩
theorem ryear_any (n : Int) (w : World) : Calls Tryd.prog 130 #[.int .i64 n] w fun e w' => e = .returned (.bool (Yr.inY n)) ∧ w = w' := by
  unfold Yr.inY
  by_cases h1 : -32767 ≤ n
  · go_enter Tryd.func130, Tryd.ntmps130
    go_wp2_with fail
    go_ret
    exact ⟨by simp [h1], rfl⟩
  · rw [decide_eq_false h1]
    go_enter Tryd.func130, Tryd.ntmps130
    go_wp2_with fail
    go_ret
    exact ⟨rfl, rfl⟩
theorem rynum_any (s : ByteArray) (w : World) (hs : s.size ≤ 1000) :
    Calls Tryd.prog 128 #[.string s] w fun e w' => e = .returned (.tuple #[.int .i64 (Yr.num s.data.toList).1, .int .i64 (Yr.num s.data.toList).2]) ∧ w = w' := by
  have C := Lib.hid (rread_any s w hs)
  unfold Yr.num
  generalize (Num.rd s.data.toList).1 = x at C ⊢
  generalize (Num.rd s.data.toList).2 = q at C ⊢
  by_cases hq : q = 0
  · subst hq
    rw [if_pos rfl]
    have CI := Lib.hid (fun W => ryear_any x W)
    cases hi : Yr.inY x
    · rw [hi] at CI
      simp only [Bool.false_eq_true, if_false]
      clear hi
      go_enter Tryd.func128, Tryd.ntmps128
      go_wp2_with fail
      refine C.out.mono ?_; rintro e w1 ⟨rfl, rfl⟩
      go_wp2_with fail
      refine (CI.out _).mono ?_; rintro e w1 ⟨rfl, rfl⟩
      go_wp2_with fail
      go_ret2
      exact ⟨rfl, rfl⟩
    · rw [hi] at CI
      simp only [if_true]
      clear hi
      go_enter Tryd.func128, Tryd.ntmps128
      go_wp2_with fail
      refine C.out.mono ?_; rintro e w1 ⟨rfl, rfl⟩
      go_wp2_with fail
      refine (CI.out _).mono ?_; rintro e w1 ⟨rfl, rfl⟩
      go_wp2_with fail
      go_ret2
      exact ⟨rfl, rfl⟩
  · rw [if_neg hq]
    have g1 : (q == 0) = false := beq_eq_false_iff_ne.2 hq
    have g2 : (q != 0) = true := by unfold bne; rw [g1]; rfl
    go_enter Tryd.func128, Tryd.ntmps128
    go_wp2_with fail
    refine C.out.mono ?_; rintro e w1 ⟨rfl, rfl⟩
    go_wp2_with fail
    go_ret2
    exact ⟨rfl, rfl⟩
set_option maxHeartbeats 1000000 in
theorem ryword_any (s : ByteArray) (w : World) (hs : s.size ≤ 1000) :
    Calls Tryd.prog 129 #[.string s] w fun e w' => e = .returned (.tuple #[.int .i64 (Yr.word s.data.toList).1, .int .i64 (Yr.word s.data.toList).2]) ∧ Below w.heap.size w w' := by
  have C : Hid (∀ (W : World) (t : TypeId), Calls Tryd.prog 173 #[.string s, .slice (some ⟨W.heap.size, 0, none⟩) 3 3] (W.alloc (.cells #[.string ⟨#[109, 105, 110, 105, 109, 117, 109]⟩, .string ⟨#[109, 97, 120, 105, 109, 117, 109]⟩, .string ⟨#[111, 110, 108, 121]⟩] t)) fun e w' => e = .returned (.tuple #[.int .i64 (Yr.word s.data.toList).1, .int .i64 (Yr.word s.data.toList).2]) ∧ ∃ n, w' = (W.alloc (.cells #[.string ⟨#[109, 105, 110, 105, 109, 117, 109]⟩, .string ⟨#[109, 97, 120, 105, 109, 117, 109]⟩, .string ⟨#[111, 110, 108, 121]⟩] t)).drewN n) := fun W t => matchr_any s _ Yr.names _ (names_st W t) (by unfold maxLen; omega) (by decide) (by decide)
  generalize (Yr.word s.data.toList).1 = k at C ⊢
  generalize (Yr.word s.data.toList).2 = q at C ⊢
  go_enter Tryd.func129, Tryd.ntmps129
  go_wp2_with fail
  refine (C.out w _).mono ?_; rintro e w1 ⟨rfl, n, rfl⟩
  go_wp2_with fail
  go_ret2
  exact ⟨rfl, below_new _ _ _⟩
theorem word_cases (l : List UInt8) : (Yr.word l = (0, 3)) ∨ ∃ k, Yr.word l = (k, 0) ∧ (k = 0 ∨ k = 1 ∨ k = 2) := by
  by_cases h : (Yr.word l).2 = 0
  · obtain ⟨k, hk, e, -⟩ := Wd.mat_ok (s := l) (all := Yr.names) h
    have hk3 : k < 3 := hk
    exact .inr ⟨_, e, by omega⟩
  · obtain ⟨-, -, b2⟩ := Wd.mat_bd l Yr.names
    rcases b2 with h2 | ⟨h2, h3⟩
    · exact absurd h2 h
    · exact .inl (Prod.ext h3 h2)
set_option maxHeartbeats 1000000 in
theorem ryfrom_any (s : ByteArray) (w : World) (hs : s.size ≤ 1000) :
    Calls Tryd.prog 70 #[.string s] w fun e w' => e = .returned (.tuple #[.int .i64 (Yr.fr s.data.toList).1, .int .i64 (Yr.fr s.data.toList).2]) ∧ Below w.heap.size w w' := by
  have CN := Lib.hid (fun W => rnumeral_any s W)
  unfold Yr.fr
  cases hn : Yr.isN s.data.toList
  · rw [hn] at CN
    simp only [Bool.false_eq_true, if_false]
    have CW := Lib.hid (fun W => ryword_any s W hs)
    rcases word_cases s.data.toList with e | ⟨k, e, hk⟩
    · rw [e] at CW ⊢
      clear e hn
      go_enter Tryd.func70, Tryd.ntmps70
      go_wp2_with fail
      refine (CN.out _).mono ?_; rintro e v1 ⟨rfl, rfl⟩
      go_wp2_with fail
      refine (CW.out _).mono ?_; rintro e w1 ⟨rfl, b1⟩
      have d1 : Below w.heap.size w w1 := below_step (by repeat (first | exact Below.refl _ _ | refine below_drewN ?_ _ | refine Below.drew ?_ | refine Below.setCell ?_ (by first | (simp; done) | (simp; omega) | omega) _ | refine Below.alloc ?_ (by first | (simp; done) | (simp; omega) | omega) _)) b1
      have B1 := Lib.hid d1
      clear b1 d1
      go_wp2_with fail
      go_ret2
      exact ⟨rfl, (by have hz := B1.out.size; repeat (first | exact B1.out | refine below_drewN ?_ _ | refine Below.drew ?_ | refine Below.setCell ?_ (by first | omega | (simp; done) | (simp; omega)) _ | refine Below.alloc ?_ (by first | omega | (simp; done) | (simp; omega)) _))⟩
    · rw [e] at CW ⊢
      clear e hn
      rcases hk with rfl | rfl | rfl
      · go_enter Tryd.func70, Tryd.ntmps70
        go_wp2_with fail
        refine (CN.out _).mono ?_; rintro e v1 ⟨rfl, rfl⟩
        go_wp2_with fail
        refine (CW.out _).mono ?_; rintro e w1 ⟨rfl, b1⟩
        have d1 : Below w.heap.size w w1 := below_step (by repeat (first | exact Below.refl _ _ | refine below_drewN ?_ _ | refine Below.drew ?_ | refine Below.setCell ?_ (by first | (simp; done) | (simp; omega) | omega) _ | refine Below.alloc ?_ (by first | (simp; done) | (simp; omega) | omega) _)) b1
        have B1 := Lib.hid d1
        clear b1 d1
        go_wp2_with fail
        go_ret2
        exact ⟨rfl, (by have hz := B1.out.size; repeat (first | exact B1.out | refine below_drewN ?_ _ | refine Below.drew ?_ | refine Below.setCell ?_ (by first | omega | (simp; done) | (simp; omega)) _ | refine Below.alloc ?_ (by first | omega | (simp; done) | (simp; omega)) _))⟩
      · go_enter Tryd.func70, Tryd.ntmps70
        go_wp2_with fail
        refine (CN.out _).mono ?_; rintro e v1 ⟨rfl, rfl⟩
        go_wp2_with fail
        refine (CW.out _).mono ?_; rintro e w1 ⟨rfl, b1⟩
        have d1 : Below w.heap.size w w1 := below_step (by repeat (first | exact Below.refl _ _ | refine below_drewN ?_ _ | refine Below.drew ?_ | refine Below.setCell ?_ (by first | (simp; done) | (simp; omega) | omega) _ | refine Below.alloc ?_ (by first | (simp; done) | (simp; omega) | omega) _)) b1
        have B1 := Lib.hid d1
        clear b1 d1
        go_wp2_with fail
        go_ret2
        exact ⟨rfl, (by have hz := B1.out.size; repeat (first | exact B1.out | refine below_drewN ?_ _ | refine Below.drew ?_ | refine Below.setCell ?_ (by first | omega | (simp; done) | (simp; omega)) _ | refine Below.alloc ?_ (by first | omega | (simp; done) | (simp; omega)) _))⟩
      · go_enter Tryd.func70, Tryd.ntmps70
        go_wp2_with fail
        refine (CN.out _).mono ?_; rintro e v1 ⟨rfl, rfl⟩
        go_wp2_with fail
        refine (CW.out _).mono ?_; rintro e w1 ⟨rfl, b1⟩
        have d1 : Below w.heap.size w w1 := below_step (by repeat (first | exact Below.refl _ _ | refine below_drewN ?_ _ | refine Below.drew ?_ | refine Below.setCell ?_ (by first | (simp; done) | (simp; omega) | omega) _ | refine Below.alloc ?_ (by first | (simp; done) | (simp; omega) | omega) _)) b1
        have B1 := Lib.hid d1
        clear b1 d1
        go_wp2_with fail
        go_ret2
        exact ⟨rfl, (by have hz := B1.out.size; repeat (first | exact B1.out | refine below_drewN ?_ _ | refine Below.drew ?_ | refine Below.setCell ?_ (by first | omega | (simp; done) | (simp; omega)) _ | refine Below.alloc ?_ (by first | omega | (simp; done) | (simp; omega)) _))⟩
  · rw [hn] at CN
    simp only [if_true]
    have CR := Lib.hid (fun W => rynum_any s W hs)
    generalize (Yr.num s.data.toList).1 = x at CR ⊢
    generalize (Yr.num s.data.toList).2 = q at CR ⊢
    clear hn
    go_enter Tryd.func70, Tryd.ntmps70
    go_wp2_with fail
    refine (CN.out _).mono ?_; rintro e v1 ⟨rfl, rfl⟩
    go_wp2_with fail
    refine (CR.out _).mono ?_; rintro e v2 ⟨rfl, rfl⟩
    go_wp2_with fail
    go_ret2
    exact ⟨rfl, (by repeat (first | exact Below.refl _ _ | refine below_drewN ?_ _ | refine Below.drew ?_ | refine Below.setCell ?_ (by first | (simp; done) | (simp; omega) | omega) _ | refine Below.alloc ?_ (by first | (simp; done) | (simp; omega) | omega) _))⟩
namespace Yr
theorem la_w {l : List UInt8} {f : Int} (hn : isN l = false) : (word l = (0, 3) → la l f = (0, 3)) ∧ (word l = (0, 0) → la l f = (0, 3)) ∧ (word l = (1, 0) → la l f = (32767, 0)) ∧ (word l = (2, 0) → la l f = (f, 0)) := by
  unfold la
  rw [hn]
  simp only [Bool.false_eq_true, if_false]
  refine ⟨fun e => by rw [e]; rfl, fun e => by rw [e]; rfl, fun e => by rw [e]; rfl, fun e => by rw [e]; rfl⟩
theorem to_of {l : List UInt8} {f a b : Int} (h : la l f = (a, b)) : to l f = if b = 0 then (if f ≤ a then (a, 0) else (0, 14)) else (0, b) := by
  unfold to; rw [h]
end Yr
set_option maxHeartbeats 1000000 in
theorem ryto_any (s : ByteArray) (f : Int) (w : World) (hs : s.size ≤ 1000) :
    Calls Tryd.prog 71 #[.string s, .int .i64 f] w fun e w' => e = .returned (.tuple #[.int .i64 (Yr.to s.data.toList f).1, .int .i64 (Yr.to s.data.toList f).2]) ∧ Below w.heap.size w w' := by
  have CN := Lib.hid (fun W => rnumeral_any s W)
  cases hn : Yr.isN s.data.toList
  · rw [hn] at CN
    have CW := Lib.hid (fun W => ryword_any s W hs)
    obtain ⟨l1, l2, l3, l4⟩ := Yr.la_w (f := f) hn
    rcases word_cases s.data.toList with e | ⟨k, e, hk⟩
    · rw [Yr.to_of (l1 e), if_neg (by decide)]
      rw [e] at CW
      clear e hn l1 l2 l3 l4
      go_enter Tryd.func71, Tryd.ntmps71
      go_wp2_with fail
      refine (CN.out _).mono ?_; rintro e v1 ⟨rfl, rfl⟩
      go_wp2_with fail
      refine (CW.out _).mono ?_; rintro e w1 ⟨rfl, b1⟩
      have d1 : Below w.heap.size w w1 := below_step (by repeat (first | exact Below.refl _ _ | refine below_drewN ?_ _ | refine Below.drew ?_ | refine Below.setCell ?_ (by first | (simp; done) | (simp; omega) | omega) _ | refine Below.alloc ?_ (by first | (simp; done) | (simp; omega) | omega) _)) b1
      have B1 := Lib.hid d1
      clear b1 d1
      go_wp2_with fail
      go_ret2
      exact ⟨rfl, (by have hz := B1.out.size; repeat (first | exact B1.out | refine below_drewN ?_ _ | refine Below.drew ?_ | refine Below.setCell ?_ (by first | omega | (simp; done) | (simp; omega)) _ | refine Below.alloc ?_ (by first | omega | (simp; done) | (simp; omega)) _))⟩
    · rw [e] at CW
      rcases hk with rfl | rfl | rfl
      · rw [Yr.to_of (l2 e), if_neg (by decide)]
        clear e hn l1 l2 l3 l4
        go_enter Tryd.func71, Tryd.ntmps71
        go_wp2_with fail
        refine (CN.out _).mono ?_; rintro e v1 ⟨rfl, rfl⟩
        go_wp2_with fail
        refine (CW.out _).mono ?_; rintro e w1 ⟨rfl, b1⟩
        have d1 : Below w.heap.size w w1 := below_step (by repeat (first | exact Below.refl _ _ | refine below_drewN ?_ _ | refine Below.drew ?_ | refine Below.setCell ?_ (by first | (simp; done) | (simp; omega) | omega) _ | refine Below.alloc ?_ (by first | (simp; done) | (simp; omega) | omega) _)) b1
        have B1 := Lib.hid d1
        clear b1 d1
        go_wp2_with fail
        go_ret2
        exact ⟨rfl, (by have hz := B1.out.size; repeat (first | exact B1.out | refine below_drewN ?_ _ | refine Below.drew ?_ | refine Below.setCell ?_ (by first | omega | (simp; done) | (simp; omega)) _ | refine Below.alloc ?_ (by first | omega | (simp; done) | (simp; omega)) _))⟩
      · rw [Yr.to_of (l3 e), if_pos rfl]
        clear e hn l1 l2 l3 l4
        by_cases hf : f ≤ 32767
        · rw [if_pos hf]
          have gf : ¬ 32767 < f := by omega
          go_enter Tryd.func71, Tryd.ntmps71
          go_wp2_with fail
          refine (CN.out _).mono ?_; rintro e v1 ⟨rfl, rfl⟩
          go_wp2_with fail
          refine (CW.out _).mono ?_; rintro e w1 ⟨rfl, b1⟩
          have d1 : Below w.heap.size w w1 := below_step (by repeat (first | exact Below.refl _ _ | refine below_drewN ?_ _ | refine Below.drew ?_ | refine Below.setCell ?_ (by first | (simp; done) | (simp; omega) | omega) _ | refine Below.alloc ?_ (by first | (simp; done) | (simp; omega) | omega) _)) b1
          have B1 := Lib.hid d1
          clear b1 d1
          go_wp2_with fail
          go_ret2
          exact ⟨rfl, (by have hz := B1.out.size; repeat (first | exact B1.out | refine below_drewN ?_ _ | refine Below.drew ?_ | refine Below.setCell ?_ (by first | omega | (simp; done) | (simp; omega)) _ | refine Below.alloc ?_ (by first | omega | (simp; done) | (simp; omega)) _))⟩
        · rw [if_neg hf]
          have gf : 32767 < f := by omega
          go_enter Tryd.func71, Tryd.ntmps71
          go_wp2_with fail
          refine (CN.out _).mono ?_; rintro e v1 ⟨rfl, rfl⟩
          go_wp2_with fail
          refine (CW.out _).mono ?_; rintro e w1 ⟨rfl, b1⟩
          have d1 : Below w.heap.size w w1 := below_step (by repeat (first | exact Below.refl _ _ | refine below_drewN ?_ _ | refine Below.drew ?_ | refine Below.setCell ?_ (by first | (simp; done) | (simp; omega) | omega) _ | refine Below.alloc ?_ (by first | (simp; done) | (simp; omega) | omega) _)) b1
          have B1 := Lib.hid d1
          clear b1 d1
          go_wp2_with fail
          go_ret2
          exact ⟨rfl, (by have hz := B1.out.size; repeat (first | exact B1.out | refine below_drewN ?_ _ | refine Below.drew ?_ | refine Below.setCell ?_ (by first | omega | (simp; done) | (simp; omega)) _ | refine Below.alloc ?_ (by first | omega | (simp; done) | (simp; omega)) _))⟩
      · rw [Yr.to_of (l4 e), if_pos rfl, if_pos (Int.le_refl _)]
        clear e hn l1 l2 l3 l4
        go_enter Tryd.func71, Tryd.ntmps71
        go_wp2_with fail
        refine (CN.out _).mono ?_; rintro e v1 ⟨rfl, rfl⟩
        go_wp2_with fail
        refine (CW.out _).mono ?_; rintro e w1 ⟨rfl, b1⟩
        have d1 : Below w.heap.size w w1 := below_step (by repeat (first | exact Below.refl _ _ | refine below_drewN ?_ _ | refine Below.drew ?_ | refine Below.setCell ?_ (by first | (simp; done) | (simp; omega) | omega) _ | refine Below.alloc ?_ (by first | (simp; done) | (simp; omega) | omega) _)) b1
        have B1 := Lib.hid d1
        clear b1 d1
        go_wp2_with fail
        go_ret2
        exact ⟨rfl, (by have hz := B1.out.size; repeat (first | exact B1.out | refine below_drewN ?_ _ | refine Below.drew ?_ | refine Below.setCell ?_ (by first | omega | (simp; done) | (simp; omega)) _ | refine Below.alloc ?_ (by first | omega | (simp; done) | (simp; omega)) _))⟩
  · rw [hn] at CN
    have el : Yr.la s.data.toList f = ((Yr.num s.data.toList).1, (Yr.num s.data.toList).2) := by unfold Yr.la; rw [hn]; rfl
    rw [Yr.to_of el]
    have CR := Lib.hid (fun W => rynum_any s W hs)
    clear el
    generalize (Yr.num s.data.toList).1 = x at CR ⊢
    generalize (Yr.num s.data.toList).2 = q at CR ⊢
    clear hn
    by_cases hq : q = 0
    · subst hq
      rw [if_pos rfl]
      by_cases hf : f ≤ x
      · rw [if_pos hf]
        have gf : ¬ x < f := by omega
        go_enter Tryd.func71, Tryd.ntmps71
        go_wp2_with fail
        refine (CN.out _).mono ?_; rintro e v1 ⟨rfl, rfl⟩
        go_wp2_with fail
        refine (CR.out _).mono ?_; rintro e v2 ⟨rfl, rfl⟩
        go_wp2_with fail
        go_ret2
        exact ⟨rfl, (by repeat (first | exact Below.refl _ _ | refine below_drewN ?_ _ | refine Below.drew ?_ | refine Below.setCell ?_ (by first | (simp; done) | (simp; omega) | omega) _ | refine Below.alloc ?_ (by first | (simp; done) | (simp; omega) | omega) _))⟩
      · rw [if_neg hf]
        have gf : x < f := by omega
        go_enter Tryd.func71, Tryd.ntmps71
        go_wp2_with fail
        refine (CN.out _).mono ?_; rintro e v1 ⟨rfl, rfl⟩
        go_wp2_with fail
        refine (CR.out _).mono ?_; rintro e v2 ⟨rfl, rfl⟩
        go_wp2_with fail
        go_ret2
        exact ⟨rfl, (by repeat (first | exact Below.refl _ _ | refine below_drewN ?_ _ | refine Below.drew ?_ | refine Below.setCell ?_ (by first | (simp; done) | (simp; omega) | omega) _ | refine Below.alloc ?_ (by first | (simp; done) | (simp; omega) | omega) _))⟩
    · rw [if_neg hq]
      have g1 : (q == 0) = false := beq_eq_false_iff_ne.2 hq
      have g2 : (q != 0) = true := by unfold bne; rw [g1]; rfl
      go_enter Tryd.func71, Tryd.ntmps71
      go_wp2_with fail
      refine (CN.out _).mono ?_; rintro e v1 ⟨rfl, rfl⟩
      go_wp2_with fail
      refine (CR.out _).mono ?_; rintro e v2 ⟨rfl, rfl⟩
      go_wp2_with fail
      go_ret2
      exact ⟨rfl, (by repeat (first | exact Below.refl _ _ | refine below_drewN ?_ _ | refine Below.drew ?_ | refine Below.setCell ?_ (by first | (simp; done) | (simp; omega) | omega) _ | refine Below.alloc ?_ (by first | (simp; done) | (simp; omega) | omega) _))⟩
set_option maxHeartbeats 1000000 in
theorem ryft_any (y : Int) (w : World) (y0 : -9223372036854775808 ≤ y) (y1 : y ≤ 9223372036854775807) :
    Calls Tryd.prog 72 #[.int .i64 y] w fun e w' => e = .returned (.tuple #[.string (Yr.ft y).1, .int .i64 (Yr.ft y).2]) ∧ Below w.heap.size w w' := by
  have CT : Hid (Calls Tryd.prog 34 #[.int .i64 y] w fun e w' => e = .returned (.string (Yr.tI y)) ∧ Below w.heap.size w w') := rtext_any y w y0 y1
  have CI := Lib.hid (fun W => ryear_any y W)
  unfold Yr.ft
  cases hi : Yr.inY y
  · rw [hi] at CI
    simp only [Bool.false_eq_true, if_false]
    go_enter Tryd.func72, Tryd.ntmps72
    go_wp2_with fail
    refine (CI.out _).mono ?_; rintro e v1 ⟨rfl, rfl⟩
    go_wp2_with fail
    go_ret2
    exact ⟨rfl, (by repeat (first | exact Below.refl _ _ | refine below_drewN ?_ _ | refine Below.drew ?_ | refine Below.setCell ?_ (by first | (simp; done) | (simp; omega) | omega) _ | refine Below.alloc ?_ (by first | (simp; done) | (simp; omega) | omega) _))⟩
  · rw [hi] at CI
    simp only [if_true]
    by_cases h1 : y = -32767
    · subst h1
      rw [if_pos rfl]
      go_enter Tryd.func72, Tryd.ntmps72
      go_wp2_with fail
      refine (CI.out _).mono ?_; rintro e v1 ⟨rfl, rfl⟩
      go_wp2_with fail
      go_ret2
      exact ⟨rfl, (by repeat (first | exact Below.refl _ _ | refine below_drewN ?_ _ | refine Below.drew ?_ | refine Below.setCell ?_ (by first | (simp; done) | (simp; omega) | omega) _ | refine Below.alloc ?_ (by first | (simp; done) | (simp; omega) | omega) _))⟩
    · rw [if_neg h1]
      have g1 : (y == -32767) = false := beq_eq_false_iff_ne.2 h1
      clear h1
      generalize Yr.tI y = T at CT ⊢
      go_enter Tryd.func72, Tryd.ntmps72
      go_wp2_with fail
      refine (CI.out _).mono ?_; rintro e v1 ⟨rfl, rfl⟩
      go_wp2_with fail
      refine (CT.out).mono ?_; rintro e w1 ⟨rfl, b1⟩
      have d1 : Below w.heap.size w w1 := below_step (by repeat (first | exact Below.refl _ _ | refine below_drewN ?_ _ | refine Below.drew ?_ | refine Below.setCell ?_ (by first | (simp; done) | (simp; omega) | omega) _ | refine Below.alloc ?_ (by first | (simp; done) | (simp; omega) | omega) _)) b1
      have B1 := Lib.hid d1
      clear b1 d1
      go_wp2_with fail
      go_ret2
      exact ⟨rfl, (by have hz := B1.out.size; repeat (first | exact B1.out | refine below_drewN ?_ _ | refine Below.drew ?_ | refine Below.setCell ?_ (by first | omega | (simp; done) | (simp; omega)) _ | refine Below.alloc ?_ (by first | omega | (simp; done) | (simp; omega)) _))⟩
set_option maxHeartbeats 1000000 in
theorem rytt_any (f y : Int) (w : World) (y0 : -9223372036854775808 ≤ y) (y1 : y ≤ 9223372036854775807) :
    Calls Tryd.prog 73 #[.int .i64 f, .int .i64 y] w fun e w' => e = .returned (.tuple #[.string (Yr.tt f y).1, .int .i64 (Yr.tt f y).2]) ∧ Below w.heap.size w w' := by
  have CT : Hid (Calls Tryd.prog 34 #[.int .i64 y] w fun e w' => e = .returned (.string (Yr.tI y)) ∧ Below w.heap.size w w') := rtext_any y w y0 y1
  have CI := Lib.hid (fun W => ryear_any y W)
  unfold Yr.tt
  cases hi : Yr.inY y
  · rw [hi] at CI
    simp only [Bool.false_eq_true, if_false]
    go_enter Tryd.func73, Tryd.ntmps73
    go_wp2_with fail
    refine (CI.out _).mono ?_; rintro e v1 ⟨rfl, rfl⟩
    go_wp2_with fail
    go_ret2
    exact ⟨rfl, (by repeat (first | exact Below.refl _ _ | refine below_drewN ?_ _ | refine Below.drew ?_ | refine Below.setCell ?_ (by first | (simp; done) | (simp; omega) | omega) _ | refine Below.alloc ?_ (by first | (simp; done) | (simp; omega) | omega) _))⟩
  · rw [hi] at CI
    simp only [if_true]
    by_cases h0 : y < f
    · rw [if_pos h0]
      go_enter Tryd.func73, Tryd.ntmps73
      go_wp2_with fail
      refine (CI.out _).mono ?_; rintro e v1 ⟨rfl, rfl⟩
      go_wp2_with fail
      go_ret2
      exact ⟨rfl, (by repeat (first | exact Below.refl _ _ | refine below_drewN ?_ _ | refine Below.drew ?_ | refine Below.setCell ?_ (by first | (simp; done) | (simp; omega) | omega) _ | refine Below.alloc ?_ (by first | (simp; done) | (simp; omega) | omega) _))⟩
    rw [if_neg h0]
    by_cases h1 : y = f
    · subst h1
      rw [if_pos rfl]
      go_enter Tryd.func73, Tryd.ntmps73
      go_wp2_with fail
      refine (CI.out _).mono ?_; rintro e v1 ⟨rfl, rfl⟩
      go_wp2_with fail
      go_ret2
      exact ⟨rfl, (by repeat (first | exact Below.refl _ _ | refine below_drewN ?_ _ | refine Below.drew ?_ | refine Below.setCell ?_ (by first | (simp; done) | (simp; omega) | omega) _ | refine Below.alloc ?_ (by first | (simp; done) | (simp; omega) | omega) _))⟩
    rw [if_neg h1]
    have g1 : (y == f) = false := beq_eq_false_iff_ne.2 h1
    by_cases h2 : y = 32767
    · subst h2
      rw [if_pos rfl]
      clear h1
      go_enter Tryd.func73, Tryd.ntmps73
      go_wp2_with fail
      refine (CI.out _).mono ?_; rintro e v1 ⟨rfl, rfl⟩
      go_wp2_with fail
      go_ret2
      exact ⟨rfl, (by repeat (first | exact Below.refl _ _ | refine below_drewN ?_ _ | refine Below.drew ?_ | refine Below.setCell ?_ (by first | (simp; done) | (simp; omega) | omega) _ | refine Below.alloc ?_ (by first | (simp; done) | (simp; omega) | omega) _))⟩
    · rw [if_neg h2]
      have g2 : (y == 32767) = false := beq_eq_false_iff_ne.2 h2
      clear h1 h2
      generalize Yr.tI y = T at CT ⊢
      go_enter Tryd.func73, Tryd.ntmps73
      go_wp2_with fail
      refine (CI.out _).mono ?_; rintro e v1 ⟨rfl, rfl⟩
      go_wp2_with fail
      refine (CT.out).mono ?_; rintro e w1 ⟨rfl, b1⟩
      have d1 : Below w.heap.size w w1 := below_step (by repeat (first | exact Below.refl _ _ | refine below_drewN ?_ _ | refine Below.drew ?_ | refine Below.setCell ?_ (by first | (simp; done) | (simp; omega) | omega) _ | refine Below.alloc ?_ (by first | (simp; done) | (simp; omega) | omega) _)) b1
      have B1 := Lib.hid d1
      clear b1 d1
      go_wp2_with fail
      go_ret2
      exact ⟨rfl, (by have hz := B1.out.size; repeat (first | exact B1.out | refine below_drewN ?_ _ | refine Below.drew ?_ | refine Below.setCell ?_ (by first | omega | (simp; done) | (simp; omega)) _ | refine Below.alloc ?_ (by first | omega | (simp; done) | (simp; omega)) _))⟩
end Go.Proofs.YtafnnnbefabofaaDoor

