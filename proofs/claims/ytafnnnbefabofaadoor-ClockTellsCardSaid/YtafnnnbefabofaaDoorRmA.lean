/- Amounts: the reference's two, Text, part. -/
import Derived.Test.YtafnnnbefabofaaDoorAmM
import Derived.Test.YtafnnnbefabofaaDoorRnA
import Derived.Test.YtafnnnbefabofaaDoorRnD
set_option linter.unusedVariables false
set_option linter.unusedSimpArgs false
namespace Go.Proofs.YtafnnnbefabofaaDoor
open Go.RowKit Go.Sort

namespace Am
theorem two_tab : ∀ n : Fin 100, (if (n.val : Int) < 10 then 48 :: Lib.itoa (n.val : Int) else Lib.itoa (n.val : Int)) = Lib.itoa ((n.val : Int) / 10) ++ Lib.itoa ((n.val : Int) % 10) := by decide +kernel
theorem two_dd {n : Int} (h0 : 0 ≤ n) (h1 : n < 100) : (if n < 10 then ⟨#[48]⟩ ++ tI n else tI n) = dd n := by
  have h := two_tab ⟨n.toNat, by omega⟩
  have e : ((⟨n.toNat, by omega⟩ : Fin 100).val : Int) = n := by show ((n.toNat : Nat) : Int) = n; omega
  rw [e] at h
  unfold dd tI
  apply ByteArray.ext
  apply Array.toList_inj.1
  rw [ByteArray.data_append, Array.toList_append]
  by_cases c : n < 10
  · rw [if_pos c] at h ⊢
    rw [ByteArray.data_append, Array.toList_append]
    exact h
  · rw [if_neg c] at h ⊢
    exact h
end Am
theorem rtwo_any (n : Int) (w : World) (n0 : 0 ≤ n) (n1 : n < 100) :
    Calls Tryd.prog 126 #[.int .i64 n] w fun e w' => e = .returned (.string (Am.dd n)) ∧ Below w.heap.size w w' := by
  rw [← Am.two_dd n0 n1]
  have CT : Hid (∀ W, Calls Tryd.prog 34 #[.int .i64 n] W fun e w' => e = .returned (.string (Am.tI n)) ∧ Below W.heap.size W w') := fun W => rtext_any n W (by omega) (by omega)
  have z := Am.tI_size n (by omega) (by omega)
  generalize Am.tI n = T at CT z ⊢
  by_cases c : n < 10
  · rw [if_pos c]
    go_enter Tryd.func126, Tryd.ntmps126
    go_wp2_with fail
    refine (CT.out _).mono ?_; rintro e w1 ⟨rfl, b1⟩
    have d1 : Below w.heap.size w w1 := below_step (by repeat (first | exact Below.refl _ _ | refine below_drewN ?_ _ | refine Below.drew ?_ | refine Below.setCell ?_ (by first | (simp; done) | (simp; omega) | omega) _ | refine Below.alloc ?_ (by first | (simp; done) | (simp; omega) | omega) _)) b1
    have B1 := Lib.hid d1
    clear b1 d1
    go_wp2_with fail
    go_ret
    exact ⟨rfl, (by have hz := B1.out.size; repeat (first | exact B1.out | refine below_drewN ?_ _ | refine Below.drew ?_ | refine Below.setCell ?_ (by first | omega | (simp; done) | (simp; omega)) _ | refine Below.alloc ?_ (by first | omega | (simp; done) | (simp; omega)) _))⟩
  · rw [if_neg c]
    go_enter Tryd.func126, Tryd.ntmps126
    go_wp2_with fail
    refine (CT.out _).mono ?_; rintro e w1 ⟨rfl, b1⟩
    have d1 : Below w.heap.size w w1 := below_step (by repeat (first | exact Below.refl _ _ | refine below_drewN ?_ _ | refine Below.drew ?_ | refine Below.setCell ?_ (by first | (simp; done) | (simp; omega) | omega) _ | refine Below.alloc ?_ (by first | (simp; done) | (simp; omega) | omega) _)) b1
    have B1 := Lib.hid d1
    clear b1 d1
    go_wp2_with fail
    go_ret
    exact ⟨rfl, (by have hz := B1.out.size; repeat (first | exact B1.out | refine below_drewN ?_ _ | refine Below.drew ?_ | refine Below.setCell ?_ (by first | omega | (simp; done) | (simp; omega)) _ | refine Below.alloc ?_ (by first | omega | (simp; done) | (simp; omega)) _))⟩
theorem rtI (n : Int) (h0 : -9223372036854775808 ≤ n) (h1 : n ≤ 9223372036854775807) : ∃ A, A = Am.tI n ∧ A.size ≤ 21 ∧ Hid (∀ W, Calls Tryd.prog 34 #[.int .i64 n] W fun e w' => e = .returned (.string A) ∧ Below W.heap.size W w') :=
  ⟨_, rfl, Am.tI_size n h0 h1, fun W => rtext_any n W h0 h1⟩
theorem rdd (n : Int) (n0 : 0 ≤ n) (n1 : n < 100) : ∃ A, A = Am.dd n ∧ A.size ≤ 42 ∧ Hid (∀ W, Calls Tryd.prog 126 #[.int .i64 n] W fun e w' => e = .returned (.string A) ∧ Below W.heap.size W w') :=
  ⟨_, rfl, Am.dd_size n n0 n1, fun W => rtwo_any n W n0 n1⟩
set_option maxHeartbeats 2000000 in
theorem ratext_pos (n : Int) (w : World) (n0 : 0 < n) (n1 : n ≤ 604799) :
    Calls Tryd.prog 66 #[.int .i64 n] w fun e w' => e = .returned (.tuple #[.string (Am.w1 n), .int .i64 0]) ∧ Below w.heap.size w w' := by
  obtain ⟨A, hA, zA, CA⟩ := rtI (n / 3600) (by omega) (by omega)
  obtain ⟨D, hD, zD, CD⟩ := rdd (n / 60 % 60) (by omega) (by omega)
  obtain ⟨E, hE, zE, CE⟩ := rdd (n % 60) (by omega) (by omega)
  have g1 : (n == 0) = false := beq_eq_false_iff_ne.2 (by omega)
  have g2 : ¬ n < 0 := by omega
  have g3 : ¬ n ≤ -604800 := by omega
  have g4 : ¬ 604800 ≤ n := by omega
  have e0 : (⟨#[]⟩ : ByteArray) ++ A = A := by apply ByteArray.ext; apply Array.toList_inj.1; simp
  have e1 : (A ++ ⟨#[58]⟩ : ByteArray).size = A.size + 1 := by rw [ByteArray.size_append]; rfl
  have e2 : (A ++ ⟨#[58]⟩ ++ D : ByteArray).size = A.size + 1 + D.size := by rw [ByteArray.size_append, e1]
  have e3 : (⟨#[58]⟩ ++ E : ByteArray).size = 1 + E.size := by rw [ByteArray.size_append]; rfl
  by_cases hs : n % 60 = 0
  · have HR := Lib.hid (show Am.w1 n = A ++ ⟨#[58]⟩ ++ D by unfold Am.w1 Am.wr; rw [hA, hD, if_pos hs])
    have g5 : ¬ 0 < n % 60 := by omega
    generalize Am.w1 n = R at *
    clear hA hD hE CE zE e3
    go_enter Tryd.func66, Tryd.ntmps66
    go_wp2_with fail
    refine (CA.out _).mono ?_; rintro e w1 ⟨rfl, b1⟩
    have d1 : Below w.heap.size w w1 := below_step (by repeat (first | exact Below.refl _ _ | refine below_drewN ?_ _ | refine Below.drew ?_ | refine Below.setCell ?_ (by first | (simp; done) | (simp; omega) | omega) _ | refine Below.alloc ?_ (by first | (simp; done) | (simp; omega) | omega) _)) b1
    have B1 := Lib.hid d1
    clear b1 d1
    go_wp2_with fail
    refine (CD.out _).mono ?_; rintro e w2 ⟨rfl, b2⟩
    have d2 : Below w1.heap.size w1 w2 := below_step (by repeat (first | exact Below.refl _ _ | refine below_drewN ?_ _ | refine Below.drew ?_ | refine Below.setCell ?_ (by first | (simp; done) | (simp; omega) | omega) _ | refine Below.alloc ?_ (by first | (simp; done) | (simp; omega) | omega) _)) b2
    have B2 := Lib.hid (below_step B1.out d2)
    clear b2 d2 B1
    go_wp2_with fail
    go_ret2
    exact ⟨by rw [HR.out]; first | rfl | (rw [e0]; rfl), B2.out⟩
  · have HR := Lib.hid (show Am.w1 n = A ++ ⟨#[58]⟩ ++ D ++ (⟨#[58]⟩ ++ E) by unfold Am.w1 Am.wr; rw [hA, hD, hE, if_neg hs])
    have g5 : 0 < n % 60 := by omega
    generalize Am.w1 n = R at *
    clear hA hD hE
    go_enter Tryd.func66, Tryd.ntmps66
    go_wp2_with fail
    refine (CA.out _).mono ?_; rintro e w1 ⟨rfl, b1⟩
    have d1 : Below w.heap.size w w1 := below_step (by repeat (first | exact Below.refl _ _ | refine below_drewN ?_ _ | refine Below.drew ?_ | refine Below.setCell ?_ (by first | (simp; done) | (simp; omega) | omega) _ | refine Below.alloc ?_ (by first | (simp; done) | (simp; omega) | omega) _)) b1
    have B1 := Lib.hid d1
    clear b1 d1
    go_wp2_with fail
    refine (CD.out _).mono ?_; rintro e w2 ⟨rfl, b2⟩
    have d2 : Below w1.heap.size w1 w2 := below_step (by repeat (first | exact Below.refl _ _ | refine below_drewN ?_ _ | refine Below.drew ?_ | refine Below.setCell ?_ (by first | (simp; done) | (simp; omega) | omega) _ | refine Below.alloc ?_ (by first | (simp; done) | (simp; omega) | omega) _)) b2
    have B2 := Lib.hid (below_step B1.out d2)
    clear b2 d2 B1
    go_wp2_with fail
    refine (CE.out _).mono ?_; rintro e w3 ⟨rfl, b3⟩
    have d3 : Below w2.heap.size w2 w3 := below_step (by repeat (first | exact Below.refl _ _ | refine below_drewN ?_ _ | refine Below.drew ?_ | refine Below.setCell ?_ (by first | (simp; done) | (simp; omega) | omega) _ | refine Below.alloc ?_ (by first | (simp; done) | (simp; omega) | omega) _)) b3
    have B3 := Lib.hid (below_step B2.out d3)
    clear b3 d3 B2
    go_wp2_with fail
    go_ret2
    exact ⟨by rw [HR.out]; first | rfl | (rw [e0]; rfl), B3.out⟩
set_option maxHeartbeats 2000000 in
theorem ratext_neg (n : Int) (w : World) (n0 : n < 0) (n1 : -604799 ≤ n) :
    Calls Tryd.prog 66 #[.int .i64 n] w fun e w' => e = .returned (.tuple #[.string (⟨#[45]⟩ ++ Am.w1 (-n)), .int .i64 0]) ∧ Below w.heap.size w w' := by
  obtain ⟨A, hA, zA, CA⟩ := rtI (-n / 3600) (by omega) (by omega)
  obtain ⟨D, hD, zD, CD⟩ := rdd (-n / 60 % 60) (by omega) (by omega)
  obtain ⟨E, hE, zE, CE⟩ := rdd (-n % 60) (by omega) (by omega)
  have g1 : (n == 0) = false := beq_eq_false_iff_ne.2 (by omega)
  have g3 : ¬ n ≤ -604800 := by omega
  have g4 : ¬ 604800 ≤ n := by omega
  have e0 : (⟨#[45]⟩ ++ A : ByteArray).size = 1 + A.size := by rw [ByteArray.size_append]; rfl
  have e1 : (⟨#[45]⟩ ++ A ++ ⟨#[58]⟩ : ByteArray).size = 1 + A.size + 1 := by rw [ByteArray.size_append, e0]; rfl
  have e2 : (⟨#[45]⟩ ++ A ++ ⟨#[58]⟩ ++ D : ByteArray).size = 1 + A.size + 1 + D.size := by rw [ByteArray.size_append, e1]
  have e3 : (⟨#[58]⟩ ++ E : ByteArray).size = 1 + E.size := by rw [ByteArray.size_append]; rfl
  by_cases hs : -n % 60 = 0
  · have HR := Lib.hid (show ⟨#[45]⟩ ++ Am.w1 (-n) = ⟨#[45]⟩ ++ A ++ ⟨#[58]⟩ ++ D by unfold Am.w1 Am.wr; rw [hA, hD, if_pos hs]; simp only [ByteArray.append_assoc])
    have g5 : ¬ 0 < -n % 60 := by omega
    generalize ⟨#[45]⟩ ++ Am.w1 (-n) = R at *
    clear hA hD hE CE zE e3
    generalize hm : -n = m at *
    have m0 : 0 < m := by omega
    have m1 : m ≤ 604799 := by omega
    go_enter Tryd.func66, Tryd.ntmps66
    go_wp2_with fail
    refine (CA.out _).mono ?_; rintro e w1 ⟨rfl, b1⟩
    have d1 : Below w.heap.size w w1 := below_step (by repeat (first | exact Below.refl _ _ | refine below_drewN ?_ _ | refine Below.drew ?_ | refine Below.setCell ?_ (by first | (simp; done) | (simp; omega) | omega) _ | refine Below.alloc ?_ (by first | (simp; done) | (simp; omega) | omega) _)) b1
    have B1 := Lib.hid d1
    clear b1 d1
    go_wp2_with fail
    refine (CD.out _).mono ?_; rintro e w2 ⟨rfl, b2⟩
    have d2 : Below w1.heap.size w1 w2 := below_step (by repeat (first | exact Below.refl _ _ | refine below_drewN ?_ _ | refine Below.drew ?_ | refine Below.setCell ?_ (by first | (simp; done) | (simp; omega) | omega) _ | refine Below.alloc ?_ (by first | (simp; done) | (simp; omega) | omega) _)) b2
    have B2 := Lib.hid (below_step B1.out d2)
    clear b2 d2 B1
    go_wp2_with fail
    go_ret2
    exact ⟨by rw [HR.out]; rfl, B2.out⟩
  · have HR := Lib.hid (show ⟨#[45]⟩ ++ Am.w1 (-n) = ⟨#[45]⟩ ++ A ++ ⟨#[58]⟩ ++ D ++ (⟨#[58]⟩ ++ E) by unfold Am.w1 Am.wr; rw [hA, hD, hE, if_neg hs]; simp only [ByteArray.append_assoc])
    have g5 : 0 < -n % 60 := by omega
    generalize ⟨#[45]⟩ ++ Am.w1 (-n) = R at *
    clear hA hD hE
    generalize hm : -n = m at *
    have m0 : 0 < m := by omega
    have m1 : m ≤ 604799 := by omega
    go_enter Tryd.func66, Tryd.ntmps66
    go_wp2_with fail
    refine (CA.out _).mono ?_; rintro e w1 ⟨rfl, b1⟩
    have d1 : Below w.heap.size w w1 := below_step (by repeat (first | exact Below.refl _ _ | refine below_drewN ?_ _ | refine Below.drew ?_ | refine Below.setCell ?_ (by first | (simp; done) | (simp; omega) | omega) _ | refine Below.alloc ?_ (by first | (simp; done) | (simp; omega) | omega) _)) b1
    have B1 := Lib.hid d1
    clear b1 d1
    go_wp2_with fail
    refine (CD.out _).mono ?_; rintro e w2 ⟨rfl, b2⟩
    have d2 : Below w1.heap.size w1 w2 := below_step (by repeat (first | exact Below.refl _ _ | refine below_drewN ?_ _ | refine Below.drew ?_ | refine Below.setCell ?_ (by first | (simp; done) | (simp; omega) | omega) _ | refine Below.alloc ?_ (by first | (simp; done) | (simp; omega) | omega) _)) b2
    have B2 := Lib.hid (below_step B1.out d2)
    clear b2 d2 B1
    go_wp2_with fail
    refine (CE.out _).mono ?_; rintro e w3 ⟨rfl, b3⟩
    have d3 : Below w2.heap.size w2 w3 := below_step (by repeat (first | exact Below.refl _ _ | refine below_drewN ?_ _ | refine Below.drew ?_ | refine Below.setCell ?_ (by first | (simp; done) | (simp; omega) | omega) _ | refine Below.alloc ?_ (by first | (simp; done) | (simp; omega) | omega) _)) b3
    have B3 := Lib.hid (below_step B2.out d3)
    clear b3 d3 B2
    go_wp2_with fail
    go_ret2
    exact ⟨by rw [HR.out]; rfl, B3.out⟩
set_option maxHeartbeats 1000000 in
theorem ratext_any (n : Int) (w : World) :
    Calls Tryd.prog 66 #[.int .i64 n] w fun e w' => e = .returned (.tuple #[.string (Am.tx n).1, .int .i64 (Am.tx n).2]) ∧ Below w.heap.size w w' := by
  obtain ⟨ans, hans⟩ : ∃ ans, ans = Am.tx n := ⟨_, rfl⟩
  unfold Am.tx at hans ⊢
  by_cases c1 : n < -604799 ∨ 604799 < n
  · rw [if_pos c1]
    clear hans
    rcases c1 with c | c
    · have g3 : n ≤ -604800 := by omega
      clear c
      go_enter Tryd.func66, Tryd.ntmps66
      go_wp2_with fail
      go_ret2
      exact ⟨rfl, Below.refl _ _⟩
    · have g3 : ¬ n ≤ -604800 := by omega
      have g4 : 604800 ≤ n := by omega
      clear c
      go_enter Tryd.func66, Tryd.ntmps66
      go_wp2_with fail
      go_ret2
      exact ⟨rfl, Below.refl _ _⟩
  · rw [if_neg c1]
    by_cases c2 : n = 0
    · subst c2
      rw [if_pos rfl]
      clear hans
      have e : Am.tI 0 = ⟨#[48]⟩ := by decide +kernel
      show Calls _ _ _ _ (fun e w' => e = .returned (.tuple #[.string (Am.tI 0), .int .i64 0]) ∧ Below w.heap.size w w')
      rw [e]
      go_enter Tryd.func66, Tryd.ntmps66
      go_wp2_with fail
      go_ret2
      exact ⟨rfl, Below.refl _ _⟩
    · rw [if_neg c2]
      by_cases c3 : n < 0
      · rw [if_pos c3]; exact ratext_neg n w c3 (by omega)
      · rw [if_neg c3]; exact ratext_pos n w (by omega) (by omega)
end Go.Proofs.YtafnnnbefabofaaDoor

