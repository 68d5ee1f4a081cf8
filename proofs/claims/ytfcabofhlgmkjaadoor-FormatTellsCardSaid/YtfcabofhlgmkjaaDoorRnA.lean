/- The contracts of the reference's digits and Text. -/
import Derived.Test.YtfcabofhlgmkjaaDoorBase
import Derived.Test.YtfcabofhlgmkjaaDoorRnM
set_option linter.unusedVariables false
set_option linter.unusedSimpArgs false
namespace Go.Proofs.YtfcabofhlgmkjaaDoor
open Go.RowKit

namespace Num
def dB (n : Int) : ByteArray := ⟨(Lib.decDigits n.toNat).toArray⟩
theorem one_tab : ∀ n : Fin 10, (⟨#[48, 49, 50, 51, 52, 53, 54, 55, 56, 57]⟩ : ByteArray).extract n.val (n.val + 1) = ⟨#[UInt8.ofNat (48 + n.val)]⟩ := by decide +kernel
theorem dB_one {n : Int} (h0 : 0 ≤ n) (h1 : n < 10) : (⟨#[48, 49, 50, 51, 52, 53, 54, 55, 56, 57]⟩ : ByteArray).extract n.toNat (n + 1).toNat = dB n := by
  have h := one_tab ⟨n.toNat, by omega⟩
  have e : (n + 1).toNat = n.toNat + 1 := by omega
  unfold dB
  rw [e, dec_small (by omega)]
  exact h
theorem dB_step {n : Int} (h : 10 ≤ n) : dB n = dB (n / 10) ++ dB (n % 10) := by
  unfold dB
  have e1 : (n / 10).toNat = n.toNat / 10 := by omega
  have e2 : (n % 10).toNat = n.toNat % 10 := by omega
  rw [e1, e2, dec_step (u := n.toNat) (by omega), dec_small (u := n.toNat % 10) (by omega)]
  apply ByteArray.ext
  apply Array.toList_inj.1
  rw [ByteArray.data_append, Array.toList_append]
theorem dB_size {n : Int} (h0 : 0 ≤ n) (h1 : n < 18446744073709551616) : (dB n).size ≤ 20 := by
  have := dec_short n.toNat (by omega)
  show (Lib.decDigits n.toNat).toArray.size ≤ 20
  rw [List.size_toArray]; exact this
theorem itoa_neg {n : Int} (h : n < 0) : (⟨(Lib.itoa n).toArray⟩ : ByteArray) = ⟨#[45]⟩ ++ dB (-n) := by
  unfold Lib.itoa dB
  rw [if_pos h]
  apply ByteArray.ext
  apply Array.toList_inj.1
  rw [ByteArray.data_append, Array.toList_append, show (-n).toNat = n.natAbs by omega]
  rfl
theorem itoa_pos {n : Int} (h : ¬ n < 0) : (⟨(Lib.itoa n).toArray⟩ : ByteArray) = dB n := by
  unfold Lib.itoa dB
  rw [if_neg h]
end Num
set_option maxHeartbeats 1000000 in
theorem rdg_one (n : Int) (w : World) (h0 : 0 ≤ n) (h1 : n < 10) :
    Calls Tryd.prog 122 #[.int .u64 n] w fun e w' => e = .returned (.string (Num.dB n)) ∧ Below w.heap.size w w' := by
  have E := Lib.hid (Num.dB_one h0 h1)
  go_enter Tryd.func122, Tryd.ntmps122
  go_wp2_with fail
  go_ret
  exact ⟨by rw [← E.out]; rfl, Below.refl _ _⟩
set_option maxHeartbeats 1000000 in
theorem rdg_all : ∀ (k : Nat) (n : Int) (w : World), n.toNat ≤ k → 0 ≤ n → n < 18446744073709551616 →
    Calls Tryd.prog 122 #[.int .u64 n] w fun e w' => e = .returned (.string (Num.dB n)) ∧ Below w.heap.size w w' := by
  intro k
  induction k with
  | zero => intro n w hk h0 h1; exact rdg_one n w h0 (by omega)
  | succ k ih =>
    intro n w hk h0 h1
    by_cases c : n < 10
    · exact rdg_one n w h0 c
    · have CA : Hid (∀ W, Calls Tryd.prog 122 #[.int .u64 (n / 10)] W fun e w' => e = .returned (.string (Num.dB (n / 10))) ∧ Below W.heap.size W w') := fun W => ih (n / 10) W (by omega) (by omega) (by omega)
      have CB : Hid (∀ W, Calls Tryd.prog 122 #[.int .u64 (n % 10)] W fun e w' => e = .returned (.string (Num.dB (n % 10))) ∧ Below W.heap.size W w') := fun W => rdg_one (n % 10) W (by omega) (by omega)
      have zA := Num.dB_size (n := n / 10) (by omega) (by omega)
      have zB := Num.dB_size (n := n % 10) (by omega) (by omega)
      have E := Lib.hid (Num.dB_step (n := n) (by omega))
      generalize Num.dB (n / 10) = A at *
      generalize Num.dB (n % 10) = B' at *
      generalize Num.dB n = R at *
      clear ih hk
      go_enter Tryd.func122, Tryd.ntmps122
      go_wp2_with fail
      refine (CA.out _).mono ?_; rintro e w1 ⟨rfl, b1⟩
      have d1 : Below w.heap.size w w1 := below_step (by repeat (first | exact Below.refl _ _ | refine below_drewN ?_ _ | refine Below.drew ?_ | refine Below.setCell ?_ (by first | (simp; done) | (simp; omega) | omega) _ | refine Below.alloc ?_ (by first | (simp; done) | (simp; omega) | omega) _)) b1
      have B1 := Lib.hid d1
      clear b1 d1
      go_wp2_with fail
      refine (CB.out _).mono ?_; rintro e w2 ⟨rfl, b2⟩
      have d2 : Below w1.heap.size w1 w2 := below_step (by repeat (first | exact Below.refl _ _ | refine below_drewN ?_ _ | refine Below.drew ?_ | refine Below.setCell ?_ (by first | (simp; done) | (simp; omega) | omega) _ | refine Below.alloc ?_ (by first | (simp; done) | (simp; omega) | omega) _)) b2
      have B2 := Lib.hid (below_step B1.out d2)
      clear b2 d2 B1
      go_wp2_with fail
      go_ret
      exact ⟨by rw [E.out]; rfl, B2.out⟩
theorem rdg_any (n : Int) (w : World) (h0 : 0 ≤ n) (h1 : n < 18446744073709551616) :
    Calls Tryd.prog 122 #[.int .u64 n] w fun e w' => e = .returned (.string (Num.dB n)) ∧ Below w.heap.size w w' := rdg_all _ n w (Nat.le_refl _) h0 h1
set_option maxHeartbeats 1000000 in
/-- The reference's text of a number. -/
theorem rtext_any (n : Int) (w : World) (h0 : -9223372036854775808 ≤ n) (h1 : n ≤ 9223372036854775807) :
    Calls Tryd.prog 69 #[.int .i64 n] w fun e w' => e = .returned (.string ⟨(Lib.itoa n).toArray⟩) ∧ Below w.heap.size w w' := by
  by_cases h : n < 0
  · have E := Lib.hid (Num.itoa_neg h)
    have CA : Hid (∀ W, Calls Tryd.prog 122 #[.int .u64 (-(n + 1) + 1)] W fun e w' => e = .returned (.string (Num.dB (-n))) ∧ Below W.heap.size W w') := fun W => by
      rw [show -(n + 1) + 1 = -n by omega]; exact rdg_any (-n) W (by omega) (by omega)
    have zA := Num.dB_size (n := -n) (by omega) (by omega)
    generalize Num.dB (-n) = A at *
    generalize (⟨(Lib.itoa n).toArray⟩ : ByteArray) = R at *
    go_enter Tryd.func69, Tryd.ntmps69
    go_wp2_with fail
    refine (CA.out _).mono ?_; rintro e w1 ⟨rfl, b1⟩
    have d1 : Below w.heap.size w w1 := below_step (by repeat (first | exact Below.refl _ _ | refine below_drewN ?_ _ | refine Below.drew ?_ | refine Below.setCell ?_ (by first | (simp; done) | (simp; omega) | omega) _ | refine Below.alloc ?_ (by first | (simp; done) | (simp; omega) | omega) _)) b1
    have B1 := Lib.hid d1
    clear b1 d1
    go_wp2_with fail
    go_ret
    exact ⟨by rw [E.out]; rfl, B1.out⟩
  · have E := Lib.hid (Num.itoa_pos h)
    have CA : Hid (∀ W, Calls Tryd.prog 122 #[.int .u64 n] W fun e w' => e = .returned (.string (Num.dB n)) ∧ Below W.heap.size W w') := fun W => rdg_any n W (by omega) (by omega)
    generalize Num.dB n = A at *
    generalize (⟨(Lib.itoa n).toArray⟩ : ByteArray) = R at *
    go_enter Tryd.func69, Tryd.ntmps69
    go_wp2_with fail
    refine (CA.out _).mono ?_; rintro e w1 ⟨rfl, b1⟩
    have d1 : Below w.heap.size w w1 := below_step (by repeat (first | exact Below.refl _ _ | refine below_drewN ?_ _ | refine Below.drew ?_ | refine Below.setCell ?_ (by first | (simp; done) | (simp; omega) | omega) _ | refine Below.alloc ?_ (by first | (simp; done) | (simp; omega) | omega) _)) b1
    have B1 := Lib.hid d1
    clear b1 d1
    go_wp2_with fail
    go_ret
    exact ⟨by rw [E.out]; rfl, B1.out⟩
end Go.Proofs.YtfcabofhlgmkjaaDoor

