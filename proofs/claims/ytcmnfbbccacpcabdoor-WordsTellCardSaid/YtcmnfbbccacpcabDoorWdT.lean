/- The walk of WordsTell: whatever words and number, the law answers true; nothing old turns. -/
import Derived.Test.YtcmnfbbccacpcabDoorWdF
set_option linter.unusedVariables false
set_option linter.unusedSimpArgs false
namespace Go.Proofs.YtcmnfbbccacpcabDoor
open Go.RowKit Go.Sort

theorem b_of {P : Program} {f : FuncId} {args : Array Value} {w : World} {v : Value} (h : Calls P f args w fun e w' => e = .returned v ∧ ∃ k, w' = w.drewN k) : Calls P f args w fun e w' => e = .returned v ∧ Below w.heap.size w w' :=
  h.mono fun _ _ ⟨a, k, b⟩ => ⟨a, by rw [b]; exact below_draw _ _⟩
set_option maxHeartbeats 1000000 in
set_option maxRecDepth 100000 in
theorem wtell_out1 (s t : ByteArray) (v : Value) (l : List ByteArray) (n : Int) (w : World) (T : Wd.Tabs w) (hv : StS w v l) (h : (500 : Int) < (s.size : Int)) :
    Calls Tryd.prog 6 #[.string s, .string t, v, .int .i64 n] w fun e w' => e = .returned (.bool true) ∧ Below w.heap.size w w' := by
  have L := Lib.hid (fun w h => lives15 w h)
  have T0 := Lib.hid T
  obtain ⟨A, c, rfl, -⟩ := hv
  clear T
  go_enter Tryd.func6, Tryd.ntmps6
  go_wp2_with fail
  refine (L.out _ T0.out).mono ?_; rintro e w1 ⟨rfl, b1⟩
  have d1 : Below w.heap.size w w1 := below_step (by repeat (first | exact Below.refl _ _ | refine below_drewN ?_ _ | refine Below.drew ?_ | refine Below.setCell ?_ (by first | (simp; done) | (simp; omega) | omega) _ | refine Below.alloc ?_ (by first | (simp; done) | (simp; omega) | omega) _)) b1
  have B1 := Lib.hid d1
  clear b1 d1
  go_wp2_with fail
  go_ret
  exact ⟨rfl, (by have hz := B1.out.size; repeat (first | exact B1.out | refine below_drewN ?_ _ | refine Below.drew ?_ | refine Below.setCell ?_ (by first | omega | (simp; done) | (simp; omega)) _ | refine Below.alloc ?_ (by first | omega | (simp; done) | (simp; omega)) _))⟩
set_option maxHeartbeats 1000000 in
set_option maxRecDepth 100000 in
theorem wtell_out2 (s t : ByteArray) (v : Value) (l : List ByteArray) (n : Int) (w : World) (T : Wd.Tabs w) (hv : StS w v l) (h0 : ¬ (500 : Int) < (s.size : Int)) (h : (500 : Int) < (t.size : Int)) :
    Calls Tryd.prog 6 #[.string s, .string t, v, .int .i64 n] w fun e w' => e = .returned (.bool true) ∧ Below w.heap.size w w' := by
  have L := Lib.hid (fun w h => lives15 w h)
  have T0 := Lib.hid T
  obtain ⟨A, c, rfl, -⟩ := hv
  clear T
  go_enter Tryd.func6, Tryd.ntmps6
  go_wp2_with fail
  refine (L.out _ T0.out).mono ?_; rintro e w1 ⟨rfl, b1⟩
  have d1 : Below w.heap.size w w1 := below_step (by repeat (first | exact Below.refl _ _ | refine below_drewN ?_ _ | refine Below.drew ?_ | refine Below.setCell ?_ (by first | (simp; done) | (simp; omega) | omega) _ | refine Below.alloc ?_ (by first | (simp; done) | (simp; omega) | omega) _)) b1
  have B1 := Lib.hid d1
  clear b1 d1
  go_wp2_with fail
  go_ret
  exact ⟨rfl, (by have hz := B1.out.size; repeat (first | exact B1.out | refine below_drewN ?_ _ | refine Below.drew ?_ | refine Below.setCell ?_ (by first | omega | (simp; done) | (simp; omega)) _ | refine Below.alloc ?_ (by first | omega | (simp; done) | (simp; omega)) _))⟩
set_option maxHeartbeats 1000000 in
set_option maxRecDepth 100000 in
theorem wtell_out3 (s t : ByteArray) (v : Value) (l : List ByteArray) (n : Int) (w : World) (T : Wd.Tabs w) (hv : StS w v l) (h0 : ¬ (500 : Int) < (s.size : Int)) (h1 : ¬ (500 : Int) < (t.size : Int)) (h : (60 : Int) < (l.length : Int)) :
    Calls Tryd.prog 6 #[.string s, .string t, v, .int .i64 n] w fun e w' => e = .returned (.bool true) ∧ Below w.heap.size w w' := by
  have L := Lib.hid (fun w h => lives15 w h)
  have T0 := Lib.hid T
  obtain ⟨A, c, rfl, -⟩ := hv
  clear T
  go_enter Tryd.func6, Tryd.ntmps6
  go_wp2_with fail
  refine (L.out _ T0.out).mono ?_; rintro e w1 ⟨rfl, b1⟩
  have d1 : Below w.heap.size w w1 := below_step (by repeat (first | exact Below.refl _ _ | refine below_drewN ?_ _ | refine Below.drew ?_ | refine Below.setCell ?_ (by first | (simp; done) | (simp; omega) | omega) _ | refine Below.alloc ?_ (by first | (simp; done) | (simp; omega) | omega) _)) b1
  have B1 := Lib.hid d1
  clear b1 d1
  go_wp2_with fail
  go_ret
  exact ⟨rfl, (by have hz := B1.out.size; repeat (first | exact B1.out | refine below_drewN ?_ _ | refine Below.drew ?_ | refine Below.setCell ?_ (by first | omega | (simp; done) | (simp; omega)) _ | refine Below.alloc ?_ (by first | omega | (simp; done) | (simp; omega)) _))⟩
set_option maxHeartbeats 4000000 in
set_option maxRecDepth 100000 in
theorem wtell_in (s t : ByteArray) (v : Value) (l : List ByteArray) (n : Int) (w : World) (T : Wd.Tabs w) (hv : StS w v l) (hz : ∀ x ∈ l, x.size ≤ maxLen) (h0 : ¬ (500 : Int) < (s.size : Int)) (h1 : ¬ (500 : Int) < (t.size : Int)) (h2 : ¬ (60 : Int) < (l.length : Int)) :
    Calls Tryd.prog 6 #[.string s, .string t, v, .int .i64 n] w fun e w' => e = .returned (.bool true) ∧ Below w.heap.size w w' := by
  have L := Lib.hid (fun w h => lives15 w h)
  have T0 := Lib.hid T
  have ms : s.size ≤ maxLen := by unfold maxLen; omega
  have mt : t.size ≤ maxLen := by unfold maxLen; omega
  have ml : l.length ≤ maxLen := by unfold maxLen; omega
  obtain ⟨p, q, C1, C2⟩ : ∃ p q, Hid (∀ W, StS W v l → Calls Tryd.prog 20 #[.string s, v] W fun e w' => e = .returned (.tuple #[.int .i64 p, .int .i64 q]) ∧ Below W.heap.size W w') ∧ Hid (∀ W, StS W v l → Calls Tryd.prog 21 #[.string s, v] W fun e w' => e = .returned (.tuple #[.int .i64 p, .int .i64 q]) ∧ Below W.heap.size W w') :=
    ⟨_, _, fun W h => b_of (match_any s v l W h ms hz ml), fun W h => b_of (matchr_any s v l W h ms hz ml)⟩
  obtain ⟨p2, q2, C3, C4⟩ : ∃ p q, Hid (∀ W, Wd.Tabs W → Calls Tryd.prog 22 #[.string s] W fun e w' => e = .returned (.tuple #[.int .i64 p, .int .i64 q]) ∧ Below W.heap.size W w') ∧ Hid (∀ W, Calls Tryd.prog 23 #[.string s] W fun e w' => e = .returned (.tuple #[.int .i64 p, .int .i64 q]) ∧ Below W.heap.size W w') :=
    ⟨_, _, fun W h => month_any s W ms h, fun W => monthr_any s W ms⟩
  obtain ⟨p3, q3, C5, C6⟩ : ∃ p q, Hid (∀ W, Wd.Tabs W → Calls Tryd.prog 24 #[.string s] W fun e w' => e = .returned (.tuple #[.int .i64 p, .int .i64 q]) ∧ Below W.heap.size W w') ∧ Hid (∀ W, Calls Tryd.prog 25 #[.string s] W fun e w' => e = .returned (.tuple #[.int .i64 p, .int .i64 q]) ∧ Below W.heap.size W w') :=
    ⟨_, _, fun W h => weekday_any s W ms h, fun W => weekdayr_any s W ms⟩
  obtain ⟨b4, C7, C8⟩ : ∃ b, Hid (∀ W, Calls Tryd.prog 26 #[.string s, .string t] W fun e w' => e = .returned (.bool b) ∧ Below W.heap.size W w') ∧ Hid (∀ W, Calls Tryd.prog 27 #[.string s, .string t] W fun e w' => e = .returned (.bool b) ∧ Below W.heap.size W w') :=
    ⟨_, fun W => b_of (wsame_any s t W ms mt), fun W => b_of (wsamer_any s t W ms mt)⟩
  obtain ⟨s5, C9, C10⟩ : ∃ b, Hid (∀ W, Wd.Tabs W → Calls Tryd.prog 28 #[.int .i64 n] W fun e w' => e = .returned (.string b) ∧ Below W.heap.size W w') ∧ Hid (∀ W, Calls Tryd.prog 29 #[.int .i64 n] W fun e w' => e = .returned (.string b) ∧ Below W.heap.size W w') :=
    ⟨_, fun W h => mtext_any n W h, fun W => mtextr_any n W⟩
  obtain ⟨s6, C11, C12⟩ : ∃ b, Hid (∀ W, Wd.Tabs W → Calls Tryd.prog 30 #[.int .i64 n] W fun e w' => e = .returned (.string b) ∧ Below W.heap.size W w') ∧ Hid (∀ W, Calls Tryd.prog 31 #[.int .i64 n] W fun e w' => e = .returned (.string b) ∧ Below W.heap.size W w') :=
    ⟨_, fun W h => dtext_any n W h, fun W => dtextr_any n W⟩
  have HV := Lib.hid hv
  obtain ⟨A, c, rfl, -⟩ := hv
  generalize hn : l.length = N at *
  have HN := Lib.hid hn
  clear hn hz T ms mt ml
  go_enter Tryd.func6, Tryd.ntmps6
  go_wp2_with fail
  go_loopw [39] (fun i wr => ∃ (k : Nat), k ≤ N ∧ i = .int .i64 k ∧ wr = w) (fun i _ => N - (intOf i).toNat)
  case atStart => exact ⟨0, Nat.zero_le _, rfl, rfl⟩
  case round =>
    obtain ⟨k, hk, rfl, hw⟩ := hrel
    obtain rfl : w = wr := hw.symm
    by_cases hlt : k < N
    · obtain ⟨a, rfl, g1⟩ := HV.out.get k (by rw [HN.out]; exact hlt)
      generalize (l[k]'(by rw [HN.out]; exact hlt)) = x at *
      by_cases hx : (200 : Int) < (x.size : Int)
      · skip
        go_wp2_with fail
        refine (L.out _ T0.out).mono ?_; rintro e w1 ⟨rfl, b1⟩
        have d1 : Below w.heap.size w w1 := below_step (by repeat (first | exact Below.refl _ _ | refine below_drewN ?_ _ | refine Below.drew ?_ | refine Below.setCell ?_ (by first | (simp; done) | (simp; omega) | omega) _ | refine Below.alloc ?_ (by first | (simp; done) | (simp; omega) | omega) _)) b1
        have B1 := Lib.hid d1
        clear b1 d1
        go_wp2_with fail
        go_ret
        exact ⟨rfl, (by have hz := B1.out.size; repeat (first | exact B1.out | refine below_drewN ?_ _ | refine Below.drew ?_ | refine Below.setCell ?_ (by first | omega | (simp; done) | (simp; omega)) _ | refine Below.alloc ?_ (by first | omega | (simp; done) | (simp; omega)) _))⟩
      · go_wp2_with fail
        go_roundw
        case rel => exact ⟨k + 1, by omega, by go_num, by first | rfl | trivial⟩
        case measure => simp [intOf]; omega
    · skip
      go_wp2_with fail
      refine (C1.out _ HV.out).mono ?_; rintro e w1 ⟨rfl, b1⟩
      have d1 : Below w.heap.size w w1 := below_step (by repeat (first | exact Below.refl _ _ | refine below_drewN ?_ _ | refine Below.drew ?_ | refine Below.setCell ?_ (by first | (simp; done) | (simp; omega) | omega) _ | refine Below.alloc ?_ (by first | (simp; done) | (simp; omega) | omega) _)) b1
      have B1 := Lib.hid d1
      clear b1 d1
      go_wp2_with fail
      refine (C2.out _ (StS.on HV.out B1.out)).mono ?_; rintro e w2 ⟨rfl, b2⟩
      have d2 : Below w1.heap.size w1 w2 := below_step (by repeat (first | exact Below.refl _ _ | refine below_drewN ?_ _ | refine Below.drew ?_ | refine Below.setCell ?_ (by first | (simp; done) | (simp; omega) | omega) _ | refine Below.alloc ?_ (by first | (simp; done) | (simp; omega) | omega) _)) b2
      have B2 := Lib.hid (below_step B1.out d2)
      clear b2 d2 B1
      go_wp2_with fail
      refine (C3.out _ (Wd.Tabs.on T0.out B2.out)).mono ?_; rintro e w3 ⟨rfl, b3⟩
      have d3 : Below w2.heap.size w2 w3 := below_step (by repeat (first | exact Below.refl _ _ | refine below_drewN ?_ _ | refine Below.drew ?_ | refine Below.setCell ?_ (by first | (simp; done) | (simp; omega) | omega) _ | refine Below.alloc ?_ (by first | (simp; done) | (simp; omega) | omega) _)) b3
      have B3 := Lib.hid (below_step B2.out d3)
      clear b3 d3 B2
      go_wp2_with fail
      refine (C4.out _).mono ?_; rintro e w4 ⟨rfl, b4⟩
      have d4 : Below w3.heap.size w3 w4 := below_step (by repeat (first | exact Below.refl _ _ | refine below_drewN ?_ _ | refine Below.drew ?_ | refine Below.setCell ?_ (by first | (simp; done) | (simp; omega) | omega) _ | refine Below.alloc ?_ (by first | (simp; done) | (simp; omega) | omega) _)) b4
      have B4 := Lib.hid (below_step B3.out d4)
      clear b4 d4 B3
      go_wp2_with fail
      refine (C5.out _ (Wd.Tabs.on T0.out B4.out)).mono ?_; rintro e w5 ⟨rfl, b5⟩
      have d5 : Below w4.heap.size w4 w5 := below_step (by repeat (first | exact Below.refl _ _ | refine below_drewN ?_ _ | refine Below.drew ?_ | refine Below.setCell ?_ (by first | (simp; done) | (simp; omega) | omega) _ | refine Below.alloc ?_ (by first | (simp; done) | (simp; omega) | omega) _)) b5
      have B5 := Lib.hid (below_step B4.out d5)
      clear b5 d5 B4
      go_wp2_with fail
      refine (C6.out _).mono ?_; rintro e w6 ⟨rfl, b6⟩
      have d6 : Below w5.heap.size w5 w6 := below_step (by repeat (first | exact Below.refl _ _ | refine below_drewN ?_ _ | refine Below.drew ?_ | refine Below.setCell ?_ (by first | (simp; done) | (simp; omega) | omega) _ | refine Below.alloc ?_ (by first | (simp; done) | (simp; omega) | omega) _)) b6
      have B6 := Lib.hid (below_step B5.out d6)
      clear b6 d6 B5
      go_wp2_with fail
      refine (C7.out _).mono ?_; rintro e w7 ⟨rfl, b7⟩
      have d7 : Below w6.heap.size w6 w7 := below_step (by repeat (first | exact Below.refl _ _ | refine below_drewN ?_ _ | refine Below.drew ?_ | refine Below.setCell ?_ (by first | (simp; done) | (simp; omega) | omega) _ | refine Below.alloc ?_ (by first | (simp; done) | (simp; omega) | omega) _)) b7
      have B7 := Lib.hid (below_step B6.out d7)
      clear b7 d7 B6
      go_wp2_with fail
      refine (C8.out _).mono ?_; rintro e w8 ⟨rfl, b8⟩
      have d8 : Below w7.heap.size w7 w8 := below_step (by repeat (first | exact Below.refl _ _ | refine below_drewN ?_ _ | refine Below.drew ?_ | refine Below.setCell ?_ (by first | (simp; done) | (simp; omega) | omega) _ | refine Below.alloc ?_ (by first | (simp; done) | (simp; omega) | omega) _)) b8
      have B8 := Lib.hid (below_step B7.out d8)
      clear b8 d8 B7
      go_wp2_with fail
      refine (C9.out _ (Wd.Tabs.on T0.out B8.out)).mono ?_; rintro e w9 ⟨rfl, b9⟩
      have d9 : Below w8.heap.size w8 w9 := below_step (by repeat (first | exact Below.refl _ _ | refine below_drewN ?_ _ | refine Below.drew ?_ | refine Below.setCell ?_ (by first | (simp; done) | (simp; omega) | omega) _ | refine Below.alloc ?_ (by first | (simp; done) | (simp; omega) | omega) _)) b9
      have B9 := Lib.hid (below_step B8.out d9)
      clear b9 d9 B8
      go_wp2_with fail
      refine (C10.out _).mono ?_; rintro e w10 ⟨rfl, b10⟩
      have d10 : Below w9.heap.size w9 w10 := below_step (by repeat (first | exact Below.refl _ _ | refine below_drewN ?_ _ | refine Below.drew ?_ | refine Below.setCell ?_ (by first | (simp; done) | (simp; omega) | omega) _ | refine Below.alloc ?_ (by first | (simp; done) | (simp; omega) | omega) _)) b10
      have B10 := Lib.hid (below_step B9.out d10)
      clear b10 d10 B9
      go_wp2_with fail
      refine (C11.out _ (Wd.Tabs.on T0.out B10.out)).mono ?_; rintro e w11 ⟨rfl, b11⟩
      have d11 : Below w10.heap.size w10 w11 := below_step (by repeat (first | exact Below.refl _ _ | refine below_drewN ?_ _ | refine Below.drew ?_ | refine Below.setCell ?_ (by first | (simp; done) | (simp; omega) | omega) _ | refine Below.alloc ?_ (by first | (simp; done) | (simp; omega) | omega) _)) b11
      have B11 := Lib.hid (below_step B10.out d11)
      clear b11 d11 B10
      go_wp2_with fail
      refine (C12.out _).mono ?_; rintro e w12 ⟨rfl, b12⟩
      have d12 : Below w11.heap.size w11 w12 := below_step (by repeat (first | exact Below.refl _ _ | refine below_drewN ?_ _ | refine Below.drew ?_ | refine Below.setCell ?_ (by first | (simp; done) | (simp; omega) | omega) _ | refine Below.alloc ?_ (by first | (simp; done) | (simp; omega) | omega) _)) b12
      have B12 := Lib.hid (below_step B11.out d12)
      clear b12 d12 B11
      go_wp2_with fail
      refine (L.out _ (Wd.Tabs.on T0.out B12.out)).mono ?_; rintro e w13 ⟨rfl, b13⟩
      have d13 : Below w12.heap.size w12 w13 := below_step (by repeat (first | exact Below.refl _ _ | refine below_drewN ?_ _ | refine Below.drew ?_ | refine Below.setCell ?_ (by first | (simp; done) | (simp; omega) | omega) _ | refine Below.alloc ?_ (by first | (simp; done) | (simp; omega) | omega) _)) b13
      have B13 := Lib.hid (below_step B12.out d13)
      clear b13 d13 B12
      go_wp2_with fail
      go_ret
      exact ⟨rfl, (by have hz := B13.out.size; repeat (first | exact B13.out | refine below_drewN ?_ _ | refine Below.drew ?_ | refine Below.setCell ?_ (by first | omega | (simp; done) | (simp; omega)) _ | refine Below.alloc ?_ (by first | omega | (simp; done) | (simp; omega)) _))⟩
theorem wtell_walk (s t : ByteArray) (v : Value) (l : List ByteArray) (n : Int) (w : World) (T : Wd.Tabs w) (hv : StS w v l) (hz : ∀ x ∈ l, x.size ≤ maxLen) :
    Calls Tryd.prog 6 #[.string s, .string t, v, .int .i64 n] w fun e w' => e = .returned (.bool true) ∧ Below w.heap.size w w' := by
  by_cases h0 : (500 : Int) < (s.size : Int)
  · exact wtell_out1 s t v l n w T hv h0
  by_cases h1 : (500 : Int) < (t.size : Int)
  · exact wtell_out2 s t v l n w T hv h0 h1
  by_cases h2 : (60 : Int) < (l.length : Int)
  · exact wtell_out3 s t v l n w T hv h0 h1 h2
  exact wtell_in s t v l n w T hv hz h0 h1 h2
end Go.Proofs.YtcmnfbbccacpcabDoor

