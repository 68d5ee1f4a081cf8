/- The contract of the reference's stamp.Text. -/
import Derived.Test.YtfcabofhlgmkjaaDoorRsB
set_option linter.unusedVariables false
set_option linter.unusedSimpArgs false
namespace Go.Proofs.YtfcabofhlgmkjaaDoor
open Go.RowKit

theorem arr_app (a b : List UInt8) : (⟨a.toArray⟩ ++ ⟨b.toArray⟩ : ByteArray) = ⟨(a ++ b).toArray⟩ := by
  apply ByteArray.ext
  rw [ByteArray.data_append]
  apply Array.toList_inj.1
  simp
theorem arr_size (l : List UInt8) : (⟨l.toArray⟩ : ByteArray).size = l.length := by show l.toArray.size = _; rw [List.size_toArray]
theorem rstext_any (y m d h i s : Int) (w : World) :
    Calls Tryd.prog 36 #[.agg #[.int .i64 y, .int .i64 m, .int .i64 d, .int .i64 h, .int .i64 i, .int .i64 s]] w fun e w' => e = .returned (.string ⟨(St.tx y m d h i s).toArray⟩) ∧ Below w.heap.size w w' := by
  cases hr : St.rB y m d h i s
  · rw [show St.tx y m d h i s = [] by unfold St.tx; rw [hr]; rfl]
    exact rstext_no y m d h i s w hr
  · obtain ⟨r0, h0, h1, i0, i1, s0, s1⟩ := St.rB_true.1 hr
    obtain ⟨y0, y1, d0, d1⟩ := right_true.1 r0
    obtain ⟨m0, m1⟩ := Cal.month_of (right_true.1 r0)
    have lb := Cal.len_bd y m
    have z : ∀ n : Int, 0 ≤ n → n ≤ 100 → ((fun n : Int => (⟨(Tx.dg 2 n).toArray⟩ : ByteArray)) n).size ≤ 30 := fun n a b => by
      show (⟨(Tx.dg 2 n).toArray⟩ : ByteArray).size ≤ 30
      rw [arr_size]; have := Tx.dg_len 2 n (by omega) (by omega); omega
    have R : Hid (∀ w, Calls Tryd.prog 34 #[.agg #[.int .i64 y, .int .i64 m, .int .i64 d, .int .i64 h, .int .i64 i, .int .i64 s]] w fun e w' => e = .returned (.bool true) ∧ Below w.heap.size w w') := fun w => by rw [← hr]; exact rsright_any y m d h i s w
    have CW : Hid (∀ n W, 0 ≤ n → n ≤ 100 → Calls Tryd.prog 83 #[.int .i64 n, .int .i64 2] W fun e w' => e = .returned (.string ((fun n : Int => (⟨(Tx.dg 2 n).toArray⟩ : ByteArray)) n)) ∧ Below W.heap.size W w') := fun n W a b => wide_any n 2 W (by omega) (by omega) (by omega)
    have l45 : (⟨#[45]⟩ : ByteArray) = ⟨([45] : List UInt8).toArray⟩ := rfl
    have l84 : (⟨#[84]⟩ : ByteArray) = ⟨([84] : List UInt8).toArray⟩ := rfl
    have l58 : (⟨#[58]⟩ : ByteArray) = ⟨([58] : List UInt8).toArray⟩ := rfl
    by_cases hy : y < 0
    · have q : (⟨(Tx.dg 4 (-y)).toArray⟩ : ByteArray).size ≤ 30 := by rw [arr_size]; have := Tx.dg_len 4 (-y) (by omega) (by omega); omega
      refine (rstext_neg y m d h i s _ _ w hy y0 y1 q (z m (by omega) (by omega)) (z d (by omega) (by omega)) (z h (by omega) (by omega)) (z i (by omega) (by omega)) (z s (by omega) (by omega)) (by omega) (by omega) (by omega) (by omega) (by omega) (by omega) (by omega) (by omega) (by omega) (by omega) R (fun W => wide_any (-y) 4 W (by omega) (by omega) (by omega)) (fun W => (wide_any y 4 W (by omega) (by omega) (by omega)).mono fun e w' ⟨a, b⟩ => ⟨⟨_, a⟩, b⟩) CW).mono ?_
      rintro e w' ⟨rfl, b⟩
      refine ⟨?_, b⟩
      simp only [l45, l84, l58, arr_app]
      rw [show St.tx y m d h i s = Tx.txt y m d h i s by unfold St.tx; rw [hr]; rfl]
      simp [Tx.txt, Tx.yr, Tx.beh, hy]
    · have q : (⟨(Tx.dg 4 y).toArray⟩ : ByteArray).size ≤ 30 := by rw [arr_size]; have := Tx.dg_len 4 y (by omega) (by omega); omega
      refine (rstext_pos y m d h i s _ _ w hy y0 y1 q (z m (by omega) (by omega)) (z d (by omega) (by omega)) (z h (by omega) (by omega)) (z i (by omega) (by omega)) (z s (by omega) (by omega)) (by omega) (by omega) (by omega) (by omega) (by omega) (by omega) (by omega) (by omega) (by omega) (by omega) R (fun W => wide_any y 4 W (by omega) (by omega) (by omega)) CW).mono ?_
      rintro e w' ⟨rfl, b⟩
      refine ⟨?_, b⟩
      simp only [l45, l84, l58, arr_app]
      rw [show St.tx y m d h i s = Tx.txt y m d h i s by unfold St.tx; rw [hr]; rfl]
      simp [Tx.txt, Tx.yr, Tx.beh, hy]
end Go.Proofs.YtfcabofhlgmkjaaDoor
