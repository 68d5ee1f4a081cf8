/- The reference's formats: how a difference is written. -/
import Derived.Test.YtfcabofhlgmkjaaDoorFpA
set_option linter.unusedVariables false
set_option linter.unusedSimpArgs false
namespace Go.Proofs.YtfcabofhlgmkjaaDoor
open Go.RowKit

namespace Fp
theorem t_tab : ∀ n : Fin 100, (if n.val < 10 then (48 :: Lib.itoa (n.val : Int)) else Lib.itoa (n.val : Int)) = Fo.td (n.val : Int) := by decide +kernel
theorem td_of {n : Int} (h0 : 0 ≤ n) (h1 : n < 100) : (if n < 10 then (48 :: Lib.itoa n) else Lib.itoa n) = Fo.td n := by
  have := t_tab ⟨n.toNat, by omega⟩
  simp only [show ((n.toNat : Nat) : Int) = n by omega] at this
  rw [← this]
  by_cases h : n < 10
  · rw [if_pos h, if_pos (by omega)]
  · rw [if_neg h, if_neg (by omega)]
end Fp
set_option maxHeartbeats 2000000 in
theorem rtd_any (n : Int) (w : World) (n0 : 0 ≤ n) (n1 : n < 100) :
    Calls Tryd.prog 147 #[.int .i64 n] w fun e w' => e = .returned (.string ⟨(Fo.td n).toArray⟩) ∧ Below w.heap.size w w' := by
  have z1 := Lib.itoa_length_le n (by omega) (by omega)
  have C1 : Hid (∀ W, Calls Tryd.prog 69 #[.int .i64 n] W fun e w' => e = .returned (.string ⟨(Lib.itoa n).toArray⟩) ∧ Below W.heap.size W w') := fun W => rtext_any n W (by omega) (by omega)
  have HR := Lib.hid (show (⟨(Fo.td n).toArray⟩ : ByteArray) = if n < 10 then ⟨#[48]⟩ ++ ⟨(Lib.itoa n).toArray⟩ else ⟨(Lib.itoa n).toArray⟩ from by
    rw [← Fp.td_of n0 n1, show (⟨#[48]⟩ : ByteArray) = ⟨([48] : List UInt8).toArray⟩ from rfl, ar_cat]
    by_cases h : n < 10
    · rw [if_pos h, if_pos h]; rfl
    · rw [if_neg h, if_neg h])
  generalize (⟨(Fo.td n).toArray⟩ : ByteArray) = R at HR ⊢
  have y1 := arr_size (Lib.itoa n)
  generalize (⟨(Lib.itoa n).toArray⟩ : ByteArray) = A at C1 y1 HR
  have zA : A.size ≤ 30 := by omega
  clear z1 y1
  by_cases h : n < 10
  · have HV := Lib.hid (HR.out.trans (if_pos h))
    go_enter Tryd.func147, Tryd.ntmps147
    go_wp2_with fail
    refine (C1.out _).mono ?_; rintro e w1 ⟨rfl, b1⟩
    have B1 := Lib.hid b1; clear b1
    go_wp2_with fail
    go_ret
    exact ⟨by rw [HV.out]; rfl, B1.out⟩
  · have HV := Lib.hid (HR.out.trans (if_neg h))
    go_enter Tryd.func147, Tryd.ntmps147
    go_wp2_with fail
    refine (C1.out _).mono ?_; rintro e w1 ⟨rfl, b1⟩
    have B1 := Lib.hid b1; clear b1
    go_wp2_with fail
    go_ret
    exact ⟨by rw [HV.out]; rfl, B1.out⟩
set_option maxHeartbeats 4000000 in
theorem wr_neg (a : Int) (w : World) (h0 : 0 < a) (a1 : a ≤ 359999) :
    Calls Tryd.prog 101 #[.int .i64 (-a)] w fun e w' => e = .returned (.string ⟨((45 : UInt8) :: Fo.dfa a).toArray⟩) ∧ Below w.heap.size w w' := by
  have a0 : 0 ≤ a := by omega
  have q0 : 0 ≤ a / 3600 := by omega
  have q1 : a / 3600 < 100 := by omega
  have q2 : 0 ≤ a / 60 % 60 := by omega
  have q3 : a / 60 % 60 < 60 := by omega
  have q4 : 0 ≤ a % 60 := by omega
  have q5 : a % 60 < 60 := by omega
  have C1 : Hid (∀ W, Calls Tryd.prog 147 #[.int .i64 (a / 3600)] W fun e w' => e = .returned (.string ⟨(Fo.td (a / 3600)).toArray⟩) ∧ Below W.heap.size W w') := fun W => rtd_any _ W (by omega) (by omega)
  have C2 : Hid (∀ W, Calls Tryd.prog 147 #[.int .i64 (a / 60 % 60)] W fun e w' => e = .returned (.string ⟨(Fo.td (a / 60 % 60)).toArray⟩) ∧ Below W.heap.size W w') := fun W => rtd_any _ W (by omega) (by omega)
  have C3 : Hid (∀ W, Calls Tryd.prog 147 #[.int .i64 (a % 60)] W fun e w' => e = .returned (.string ⟨(Fo.td (a % 60)).toArray⟩) ∧ Below W.heap.size W w') := fun W => rtd_any _ W (by omega) (by omega)
  have y1 := arr_size (Fo.td (a / 3600)); have y2 := arr_size (Fo.td (a / 60 % 60)); have y3 := arr_size (Fo.td (a % 60))
  have z1 := td_len (a / 3600) (by omega) (by omega); have z2 := td_len (a / 60 % 60) (by omega) (by omega); have z3 := td_len (a % 60) (by omega) (by omega)
  have HR := Lib.hid (show (⟨((45 : UInt8) :: Fo.dfa a).toArray⟩ : ByteArray) = if a % 3600 = 0 then (if a % 60 = 0 then ⟨#[45]⟩ ++ ⟨(Fo.td (a / 3600)).toArray⟩ else ⟨#[45]⟩ ++ ⟨(Fo.td (a / 3600)).toArray⟩ ++ ⟨(Fo.td (a % 60)).toArray⟩) else (if a % 60 = 0 then ⟨#[45]⟩ ++ ⟨(Fo.td (a / 3600)).toArray⟩ ++ ⟨(Fo.td (a / 60 % 60)).toArray⟩ else ⟨#[45]⟩ ++ ⟨(Fo.td (a / 3600)).toArray⟩ ++ ⟨(Fo.td (a / 60 % 60)).toArray⟩ ++ ⟨(Fo.td (a % 60)).toArray⟩) by
    have e : (⟨#[45]⟩ : ByteArray) = ⟨([45] : List UInt8).toArray⟩ := rfl
    rw [e]
    unfold Fo.dfa
    simp only [ar_cat]
    by_cases h1 : a % 3600 = 0 <;> by_cases h2 : a % 60 = 0 <;> simp [h1, h2])
  generalize (⟨((45 : UInt8) :: Fo.dfa a).toArray⟩ : ByteArray) = R at HR ⊢
  generalize (⟨(Fo.td (a / 3600)).toArray⟩ : ByteArray) = A at C1 y1 HR
  generalize (⟨(Fo.td (a / 60 % 60)).toArray⟩ : ByteArray) = B at C2 y2 HR
  generalize (⟨(Fo.td (a % 60)).toArray⟩ : ByteArray) = D at C3 y3 HR
  have zA : A.size ≤ 60 := by omega
  have zB : B.size ≤ 60 := by omega
  have zD : D.size ≤ 60 := by omega
  have e1 : (⟨#[45]⟩ ++ A : ByteArray).size = 1 + A.size := by rw [ByteArray.size_append]; rfl
  have e2 : (⟨#[45]⟩ ++ A ++ B : ByteArray).size = 1 + A.size + B.size := by rw [ByteArray.size_append, e1]
  clear y1 y2 y3 z1 z2 z3
  cases g1 : a % 3600 == 0
  · have n1' : ¬ a % 3600 = 0 := fun h => by rw [h] at g1; cases g1
    have r1 : 0 < a % 3600 := by clear g1; omega
    cases g2 : a % 60 == 0
    · have n2' : ¬ a % 60 = 0 := fun h => by rw [h] at g2; cases g2
      have r2 : 0 < a % 60 := by clear g1 g2; omega
      have HV := Lib.hid (HR.out.trans (by rw [if_neg n1', if_neg n2']))
      clear HR n1' n2' g1 g2
      go_enter Tryd.func101, Tryd.ntmps101
      go_wp2_with fail
      refine (C1.out _).mono ?_; rintro e w1 ⟨rfl, b1⟩
      have B1 := Lib.hid b1; clear b1
      go_wp2_with fail
      refine (C2.out _).mono ?_; rintro e w2 ⟨rfl, b2⟩
      have B2 := Lib.hid (below_step B1.out b2); clear b2
      go_wp2_with fail
      refine (C3.out _).mono ?_; rintro e w3 ⟨rfl, b3⟩
      have B3 := Lib.hid (below_step B2.out b3); clear b3
      go_wp2_with fail
      go_ret
      exact ⟨by rw [HV.out]; rfl, B3.out⟩
    · have n2' : a % 60 = 0 := by rw [← beq_iff_eq]; exact g2
      have r2 : ¬ 0 < a % 60 := by omega
      have HV := Lib.hid (HR.out.trans (by rw [if_neg n1', if_pos n2']))
      clear HR n1' n2' g1 g2
      go_enter Tryd.func101, Tryd.ntmps101
      go_wp2_with fail
      refine (C1.out _).mono ?_; rintro e w1 ⟨rfl, b1⟩
      have B1 := Lib.hid b1; clear b1
      go_wp2_with fail
      refine (C2.out _).mono ?_; rintro e w2 ⟨rfl, b2⟩
      have B2 := Lib.hid (below_step B1.out b2); clear b2
      go_wp2_with fail
      go_ret
      exact ⟨by rw [HV.out]; rfl, B2.out⟩
  · have n1' : a % 3600 = 0 := by rw [← beq_iff_eq]; exact g1
    have r1 : ¬ 0 < a % 3600 := by omega
    have n2' : a % 60 = 0 := by omega
    have g2 : (a % 60 == 0) = true := by rw [beq_iff_eq]; exact n2'
    have r2 : ¬ 0 < a % 60 := by omega
    have HV := Lib.hid (HR.out.trans (by rw [if_pos n1', if_pos n2']))
    clear HR n1' n2' g1 g2
    go_enter Tryd.func101, Tryd.ntmps101
    go_wp2_with fail
    refine (C1.out _).mono ?_; rintro e w1 ⟨rfl, b1⟩
    have B1 := Lib.hid b1; clear b1
    go_wp2_with fail
    go_ret
    exact ⟨by rw [HV.out]; rfl, B1.out⟩
set_option maxHeartbeats 4000000 in
theorem wr_pos (a : Int) (w : World) (h0 : 0 ≤ a) (a1 : a ≤ 359999) :
    Calls Tryd.prog 101 #[.int .i64 a] w fun e w' => e = .returned (.string ⟨((43 : UInt8) :: Fo.dfa a).toArray⟩) ∧ Below w.heap.size w w' := by
  have a0 : 0 ≤ a := by omega
  have q0 : 0 ≤ a / 3600 := by omega
  have q1 : a / 3600 < 100 := by omega
  have q2 : 0 ≤ a / 60 % 60 := by omega
  have q3 : a / 60 % 60 < 60 := by omega
  have q4 : 0 ≤ a % 60 := by omega
  have q5 : a % 60 < 60 := by omega
  have C1 : Hid (∀ W, Calls Tryd.prog 147 #[.int .i64 (a / 3600)] W fun e w' => e = .returned (.string ⟨(Fo.td (a / 3600)).toArray⟩) ∧ Below W.heap.size W w') := fun W => rtd_any _ W (by omega) (by omega)
  have C2 : Hid (∀ W, Calls Tryd.prog 147 #[.int .i64 (a / 60 % 60)] W fun e w' => e = .returned (.string ⟨(Fo.td (a / 60 % 60)).toArray⟩) ∧ Below W.heap.size W w') := fun W => rtd_any _ W (by omega) (by omega)
  have C3 : Hid (∀ W, Calls Tryd.prog 147 #[.int .i64 (a % 60)] W fun e w' => e = .returned (.string ⟨(Fo.td (a % 60)).toArray⟩) ∧ Below W.heap.size W w') := fun W => rtd_any _ W (by omega) (by omega)
  have y1 := arr_size (Fo.td (a / 3600)); have y2 := arr_size (Fo.td (a / 60 % 60)); have y3 := arr_size (Fo.td (a % 60))
  have z1 := td_len (a / 3600) (by omega) (by omega); have z2 := td_len (a / 60 % 60) (by omega) (by omega); have z3 := td_len (a % 60) (by omega) (by omega)
  have HR := Lib.hid (show (⟨((43 : UInt8) :: Fo.dfa a).toArray⟩ : ByteArray) = if a % 3600 = 0 then (if a % 60 = 0 then ⟨#[43]⟩ ++ ⟨(Fo.td (a / 3600)).toArray⟩ else ⟨#[43]⟩ ++ ⟨(Fo.td (a / 3600)).toArray⟩ ++ ⟨(Fo.td (a % 60)).toArray⟩) else (if a % 60 = 0 then ⟨#[43]⟩ ++ ⟨(Fo.td (a / 3600)).toArray⟩ ++ ⟨(Fo.td (a / 60 % 60)).toArray⟩ else ⟨#[43]⟩ ++ ⟨(Fo.td (a / 3600)).toArray⟩ ++ ⟨(Fo.td (a / 60 % 60)).toArray⟩ ++ ⟨(Fo.td (a % 60)).toArray⟩) by
    have e : (⟨#[43]⟩ : ByteArray) = ⟨([43] : List UInt8).toArray⟩ := rfl
    rw [e]
    unfold Fo.dfa
    simp only [ar_cat]
    by_cases h1 : a % 3600 = 0 <;> by_cases h2 : a % 60 = 0 <;> simp [h1, h2])
  generalize (⟨((43 : UInt8) :: Fo.dfa a).toArray⟩ : ByteArray) = R at HR ⊢
  generalize (⟨(Fo.td (a / 3600)).toArray⟩ : ByteArray) = A at C1 y1 HR
  generalize (⟨(Fo.td (a / 60 % 60)).toArray⟩ : ByteArray) = B at C2 y2 HR
  generalize (⟨(Fo.td (a % 60)).toArray⟩ : ByteArray) = D at C3 y3 HR
  have zA : A.size ≤ 60 := by omega
  have zB : B.size ≤ 60 := by omega
  have zD : D.size ≤ 60 := by omega
  have e1 : (⟨#[43]⟩ ++ A : ByteArray).size = 1 + A.size := by rw [ByteArray.size_append]; rfl
  have e2 : (⟨#[43]⟩ ++ A ++ B : ByteArray).size = 1 + A.size + B.size := by rw [ByteArray.size_append, e1]
  clear y1 y2 y3 z1 z2 z3
  cases g1 : a % 3600 == 0
  · have n1' : ¬ a % 3600 = 0 := fun h => by rw [h] at g1; cases g1
    have r1 : 0 < a % 3600 := by clear g1; omega
    cases g2 : a % 60 == 0
    · have n2' : ¬ a % 60 = 0 := fun h => by rw [h] at g2; cases g2
      have r2 : 0 < a % 60 := by clear g1 g2; omega
      have HV := Lib.hid (HR.out.trans (by rw [if_neg n1', if_neg n2']))
      clear HR n1' n2' g1 g2
      go_enter Tryd.func101, Tryd.ntmps101
      go_wp2_with fail
      refine (C1.out _).mono ?_; rintro e w1 ⟨rfl, b1⟩
      have B1 := Lib.hid b1; clear b1
      go_wp2_with fail
      refine (C2.out _).mono ?_; rintro e w2 ⟨rfl, b2⟩
      have B2 := Lib.hid (below_step B1.out b2); clear b2
      go_wp2_with fail
      refine (C3.out _).mono ?_; rintro e w3 ⟨rfl, b3⟩
      have B3 := Lib.hid (below_step B2.out b3); clear b3
      go_wp2_with fail
      go_ret
      exact ⟨by rw [HV.out]; rfl, B3.out⟩
    · have n2' : a % 60 = 0 := by rw [← beq_iff_eq]; exact g2
      have r2 : ¬ 0 < a % 60 := by omega
      have HV := Lib.hid (HR.out.trans (by rw [if_neg n1', if_pos n2']))
      clear HR n1' n2' g1 g2
      go_enter Tryd.func101, Tryd.ntmps101
      go_wp2_with fail
      refine (C1.out _).mono ?_; rintro e w1 ⟨rfl, b1⟩
      have B1 := Lib.hid b1; clear b1
      go_wp2_with fail
      refine (C2.out _).mono ?_; rintro e w2 ⟨rfl, b2⟩
      have B2 := Lib.hid (below_step B1.out b2); clear b2
      go_wp2_with fail
      go_ret
      exact ⟨by rw [HV.out]; rfl, B2.out⟩
  · have n1' : a % 3600 = 0 := by rw [← beq_iff_eq]; exact g1
    have r1 : ¬ 0 < a % 3600 := by omega
    have n2' : a % 60 = 0 := by omega
    have g2 : (a % 60 == 0) = true := by rw [beq_iff_eq]; exact n2'
    have r2 : ¬ 0 < a % 60 := by omega
    have HV := Lib.hid (HR.out.trans (by rw [if_pos n1', if_pos n2']))
    clear HR n1' n2' g1 g2
    go_enter Tryd.func101, Tryd.ntmps101
    go_wp2_with fail
    refine (C1.out _).mono ?_; rintro e w1 ⟨rfl, b1⟩
    have B1 := Lib.hid b1; clear b1
    go_wp2_with fail
    go_ret
    exact ⟨by rw [HV.out]; rfl, B1.out⟩
theorem written_any (off : Int) (w : World) (n0 : -359999 ≤ off) (n1 : off ≤ 359999) :
    Calls Tryd.prog 101 #[.int .i64 off] w fun e w' => e = .returned (.string ⟨(Fo.df off).toArray⟩) ∧ Below w.heap.size w w' := by
  unfold Fo.df
  by_cases h : off < 0
  · rw [if_pos h]
    have := wr_neg (-off) w (by omega) (by omega)
    rwa [Int.neg_neg] at this
  · rw [if_neg h]; exact wr_pos off w (by omega) n1
end Go.Proofs.YtfcabofhlgmkjaaDoor

