/- The walk of LinesTell: both sides answer alike. -/
import Derived.Test.YtfcabofhlgmkjaaDoorLnG
set_option linter.unusedVariables false
set_option linter.unusedSimpArgs false
namespace Go.Proofs.YtfcabofhlgmkjaaDoor
open Go.RowKit Go.Sort

namespace Ln
theorem jn_bd (l : List ByteArray) (h : ∀ x ∈ l, x.size ≤ 1000) : (jn l).length ≤ 1001 * l.length := by
  induction l with
  | nil => simp [jn]
  | cons x r ih =>
    have h1 := h x (List.mem_cons_self ..)
    have h2 := ih (fun y hy => h y (List.mem_cons_of_mem _ hy))
    unfold jn at h2 ⊢
    rw [List.flatMap_cons, List.length_append, List.length_append, List.length_cons]
    have : x.data.toList.length = x.size := Array.length_toList
    simp only [List.length_cons, List.length_nil]
    omega
end Ln
set_option maxHeartbeats 4000000 in
set_option maxRecDepth 100000 in
theorem lntells_out (s x : ByteArray) (v : Value) (l : List ByteArray) (w : World) (m : Int) (hm : w.cell? ⟨1, 0, none⟩ = some (.int .i64 m)) (hs : s.size ≤ maxLen) (hx : x.size ≤ maxLen) (S : StS w v l) (hb : 20000 < s.size ∨ 2000 < x.size ∨ 100 < l.length) :
    Calls Tryd.prog 5 #[.string s, .string x, v] w fun e w' => e = .returned (.bool true) ∧ Below w.heap.size w w' := by
  obtain ⟨A, c, rfl, -⟩ := S
  have LV := Lib.hid (lives13 w m hm)
  clear hm
  unfold maxLen at hs hx
  obtain ⟨N, hN⟩ : ∃ N, N = l.length := ⟨_, rfl⟩
  rw [← hN] at hb ⊢
  clear hN
  by_cases h1 : 20000 < (s.size : Int)
  · go_enter Tryd.func5, Tryd.ntmps5
    go_wp2_with fail
    refine LV.out.mono ?_; rintro e w1 ⟨rfl, b1⟩
    go_wp2_with fail
    go_ret
    exact ⟨rfl, b1⟩
  · by_cases h2 : 2000 < (x.size : Int)
    · go_enter Tryd.func5, Tryd.ntmps5
      go_wp2_with fail
      refine LV.out.mono ?_; rintro e w1 ⟨rfl, b1⟩
      go_wp2_with fail
      go_ret
      exact ⟨rfl, b1⟩
    · have h3 : 100 < (N : Int) := by omega
      clear hb
      go_enter Tryd.func5, Tryd.ntmps5
      go_wp2_with fail
      refine LV.out.mono ?_; rintro e w1 ⟨rfl, b1⟩
      go_wp2_with fail
      go_ret
      exact ⟨rfl, b1⟩
set_option maxHeartbeats 8000000 in
set_option maxRecDepth 100000 in
theorem lntells_in (s x : ByteArray) (v : Value) (l : List ByteArray) (w : World) (m : Int) (hm : w.cell? ⟨1, 0, none⟩ = some (.int .i64 m)) (h1 : s.size ≤ 20000) (h2 : x.size ≤ 2000) (S : StS w v l) (hz : ∀ y ∈ l, y.size ≤ maxLen) (h3 : l.length ≤ 100) :
    Calls Tryd.prog 5 #[.string s, .string x, v] w fun e w' => e = .returned (.bool true) ∧ Below w.heap.size w w' := by
  have T := S
  obtain ⟨A, c, rfl, -⟩ := T
  have M0 := Lib.hid hm; clear hm
  obtain ⟨N, hN⟩ : ∃ N, N = l.length := ⟨_, rfl⟩
  have HN := Lib.hid hN
  have HS : Hid (StS w (.slice A N c) l) := by rw [hN]; exact S
  rw [← hN] at h3 ⊢
  have HZ := Lib.hid hz
  clear hN S hz
  have g1 : ¬ 20000 < (s.size : Int) := by omega
  have g2 : ¬ 2000 < (x.size : Int) := by omega
  have g3 : ¬ 100 < (N : Int) := by omega
  have LV := Lib.hid (fun W (h : W.cell? ⟨1, 0, none⟩ = some (.int .i64 m)) => lives13 W m h)
  obtain ⟨q, QP, QR⟩ : ∃ q : Int, (Hid (∀ W, Calls Tryd.prog 41 #[.string x] W fun e w' => e = .returned (.int .i64 q) ∧ Below W.heap.size W w')) ∧ (Hid (∀ W, Calls Tryd.prog 42 #[.string x] W fun e w' => e = .returned (.int .i64 q) ∧ Below W.heap.size W w')) := ⟨_, fun W => lcheck_any x W (by unfold maxLen; omega), fun W => rlcheck_any x W (by unfold maxLen; omega)⟩
  obtain ⟨f1, f2, FP, FR⟩ : ∃ a b : Int, (Hid (∀ W, W.cell? ⟨1, 0, none⟩ = some (.int .i64 m) → Calls Tryd.prog 43 #[.string s] W fun e w' => e = .returned (.agg #[.int .i64 a, .int .i64 b]) ∧ Below W.heap.size W w')) ∧ (Hid (∀ W, Calls Tryd.prog 44 #[.string s] W fun e w' => e = .returned (.agg #[.int .i64 a, .int .i64 b]) ∧ Below W.heap.size W w')) :=
    ⟨_, _, fun W hW => first_anyx s W (by omega) (fun W' hb => lof_any s W' m (by omega) (cell_keep hW hb)), fun W => rfirst13_anyx s W (by omega) (fun W' _ => rlof_any s W' (by omega))⟩
  have OP := Lib.hid (fun W (h : W.cell? ⟨1, 0, none⟩ = some (.int .i64 m)) => lof_any s W m (by omega) h)
  have OR := Lib.hid (fun W => rlof_any s W (by omega))
  have CL := Lib.hid (Ln.cut_len [] s.data.toList)
  have hsl := Lib.hid (ab_len s)
  go_enter Tryd.func5, Tryd.ntmps5
  go_wp2_with fail
  go_loopw [25] (fun i wr => ∃ k : Nat, k ≤ N ∧ i = .int .i64 k ∧ Hid (∀ y ∈ l.take k, y.size ≤ 1000) ∧ wr = w) (fun i _ => N - (intOf i).toNat)
  case atStart => exact ⟨0, Nat.zero_le _, rfl, (by intro y hy; simp at hy), rfl⟩
  case round =>
    obtain ⟨k, hk, rfl, hall, hw⟩ := hrel
    obtain rfl : w = wr := hw.symm
    by_cases hlt : k < N
    · have hkl : k < l.length := by have := HN.out; omega
      obtain ⟨a, rfl, g⟩ := HS.out.get k hkl
      have hyz := HZ.out l[k] (List.getElem_mem hkl)
      have hnx := Lib.hid (show l[k].size ≤ 1000 → ∀ y ∈ l.take (k + 1), y.size ≤ 1000 from fun h y hy => by
        rw [List.take_succ_eq_append_getElem hkl] at hy
        rcases List.mem_append.1 hy with hy | hy
        · exact hall.out y hy
        · rw [List.mem_singleton.1 hy]; exact h)
      generalize l[k] = y at g hyz hnx
      unfold maxLen at hyz
      by_cases hy : 1000 < (y.size : Int)
      · clear hnx
        go_wp2_with fail
        refine (LV.out _ M0.out).mono ?_; rintro e w1 ⟨rfl, b1⟩
        go_wp2_with fail
        go_ret
        exact ⟨rfl, b1⟩
      · have hn2 := Lib.hid (hnx.out (by omega))
        clear hnx
        go_wp2_with fail
        go_roundw
        case rel => exact ⟨k + 1, by omega, by go_num, hn2, by first | rfl | trivial⟩
        case measure => simp [intOf]; omega
    · have hjb : Hid ((Ln.jn l).length ≤ 900000) := by
        have := Ln.jn_bd l (fun y hy => hall.out y (by rw [List.take_of_length_le (by have := HN.out; omega)]; exact hy))
        have h4 := HN.out
        exact Lib.hid (by omega)
      have JP := Lib.hid (fun W (T : StS W (.slice A N c) l) => ljoin_any _ l W T (by have := HN.out; omega) hjb.out)
      have JR := Lib.hid (fun W (T : StS W (.slice A N c) l) => rljoin_any _ l W T (by have := HN.out; omega) hjb.out)
      obtain ⟨jj, hjj⟩ : ∃ jj : ByteArray, jj = ⟨(Ln.jn l).toArray⟩ := ⟨_, rfl⟩
      rw [← hjj] at JP JR
      clear hjj hall
      go_wp2_with fail
      refine (OP.out _ M0.out).mono ?_; rintro e w1 ⟨v1, L1, S1, hl1, rfl, b1⟩
      have B1 := Lib.hid b1
      go_wp2_with fail
      refine (OR.out _).mono ?_; rintro e w2 ⟨v2, L2, S2, hl2, rfl, b2⟩
      have B2 := Lib.hid (below_step B1.out b2)
      obtain rfl : L2 = L1 := Ln.bytes_inj (hl2.trans hl1.symm)
      have hL : L2.length ≤ 10000000 := by
        have h5 := CL.out
        rw [← hl1, List.length_map, hsl.out] at h5
        omega
      have S1' := Lib.hid (S1.on b2)
      have S2' := Lib.hid S2
      clear hl1 hl2 S1 S2 b1 b2 B1 CL hsl
      go_wp2_with fail
      refine (same13_yes v1 v2 L2 _ hL S1'.out S2'.out).mono ?_; rintro e w3 ⟨rfl, b3⟩
      have B3 := Lib.hid (below_step B2.out b3)
      clear b3 B2 S1' S2' hL OP OR
      go_wp2_with fail
      refine (QP.out _).mono ?_; rintro e w4 ⟨rfl, b4⟩
      have B4 := Lib.hid (below_step B3.out b4)
      clear b4 B3
      go_wp2_with fail
      refine (QR.out _).mono ?_; rintro e w5 ⟨rfl, b5⟩
      have B5 := Lib.hid (below_step B4.out b5)
      clear b5 B4
      go_wp2_with fail
      refine (FP.out _ (cell_keep M0.out B5.out)).mono ?_; rintro e w6 ⟨rfl, b6⟩
      have B6 := Lib.hid (below_step B5.out b6)
      clear b6 B5
      go_wp2_with fail
      refine (FR.out _).mono ?_; rintro e w7 ⟨rfl, b7⟩
      have B7 := Lib.hid (below_step B6.out b7)
      clear b7 B6
      go_wp2_with fail
      refine (JP.out _ (HS.out.on B7.out)).mono ?_; rintro e w8 ⟨rfl, b8⟩
      have B8 := Lib.hid (below_step B7.out b8)
      clear b8 B7
      go_wp2_with fail
      refine (JR.out _ (HS.out.on B8.out)).mono ?_; rintro e w9 ⟨rfl, b9⟩
      have B9 := Lib.hid (below_step B8.out b9)
      clear b9 B8
      go_wp2_with fail
      refine (LV.out _ (cell_keep M0.out B9.out)).mono ?_; rintro e w10 ⟨rfl, b10⟩
      have B10 := Lib.hid (below_step B9.out b10)
      clear b10 B9
      go_wp2_with fail
      go_ret
      exact ⟨rfl, B10.out⟩
theorem lntells_walk (s x : ByteArray) (v : Value) (l : List ByteArray) (w : World) (hs : s.size ≤ maxLen) (hx : x.size ≤ maxLen) (S : StS w v l) (hz : ∀ y ∈ l, y.size ≤ maxLen) (m : Int) (hm : w.cell? ⟨1, 0, none⟩ = some (.int .i64 m)) :
    Calls Tryd.prog 5 #[.string s, .string x, v] w fun e w' => e = .returned (.bool true) ∧ Below w.heap.size w w' := by
  by_cases h : 20000 < s.size ∨ 2000 < x.size ∨ 100 < l.length
  · exact lntells_out s x v l w m hm hs hx S h
  · exact lntells_in s x v l w m hm (by omega) (by omega) S hz (by omega)
end Go.Proofs.YtfcabofhlgmkjaaDoor

