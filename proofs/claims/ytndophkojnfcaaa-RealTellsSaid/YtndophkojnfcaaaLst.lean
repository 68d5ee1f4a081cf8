/- Slices of numbers with a floating point; the contracts of real.Least and what it calls. -/
import Derived.Test.YtndophkojnfcaaaFe
import Derived.Test.YtndophkojnfcaaaSl
set_option linter.unusedVariables false
set_option linter.unusedSimpArgs false
namespace Go.Proofs.Ytndophkojnfcaaa
open Go.RowKit Go.Sort

/-- The cells of words. -/
def flc (l : List Nat) : List Value := l.map (Value.float .f64)
/-- A slice value that reads as words. -/
def FlS (w : World) (v : Value) (l : List Nat) : Prop := Lst w w.heap.size v l.length (flc l)
theorem FlS.on {w w' : World} {v : Value} {l : List Nat} (h : FlS w v l) (k : Below w.heap.size w w') : FlS w' v l := Lst.on h k
theorem FlS.get {w : World} {A : Option Addr} {n c : Nat} {l : List Nat} (h : FlS w (.slice A n c) l) (k : Nat) (hk : k < l.length) : ∃ a, A = some a ∧ w.cell? (a.add k) = some (.float .f64 l[k]) := by
  obtain ⟨A', c', hv, ha⟩ := h
  cases hv
  obtain ⟨a, e, hb, hc⟩ := ha (by omega)
  refine ⟨a, e, hc k _ ?_⟩
  unfold flc
  rw [List.getElem?_map, List.getElem?_eq_getElem hk]; rfl
theorem FlS.len {w : World} {A : Option Addr} {n c : Nat} {l : List Nat} (h : FlS w (.slice A n c) l) : n = l.length := by
  obtain ⟨A', c', hv, _⟩ := h
  cases hv; rfl

namespace Fl
def cmpR (a b : Nat) : Int := if a < b then -1 else if b < a then 1 else 0
/-- The least one, by ranks; the first one of those that are alike. -/
def mn : List Nat → Nat
  | [] => 0
  | x :: l => l.foldl (fun m y => if rk y < rk m then y else m) x
theorem mn_snoc (l : List Nat) (h : l ≠ []) (y : Nat) : mn (l ++ [y]) = if rk y < rk (mn l) then y else mn l := by
  cases l with
  | nil => exact absurd rfl h
  | cons x l =>
    show (l ++ [y]).foldl _ x = _
    rw [List.foldl_append]; rfl
theorem take_ne {l : List Nat} {k : Nat} (h0 : 1 ≤ k) (h : k ≤ l.length) : l.take k ≠ [] := by
  intro e
  have h2 : (l.take k).length = 0 := by rw [e]; rfl
  rw [List.length_take] at h2
  omega
theorem mn_take (l : List Nat) (k : Nat) (h0 : 1 ≤ k) (h : k < l.length) : mn (l.take (k + 1)) = if rk l[k] < rk (mn (l.take k)) then l[k] else mn (l.take k) := by
  rw [List.take_succ_eq_append_getElem h]
  exact mn_snoc _ (take_ne h0 (by omega)) _
theorem mn_mem (l : List Nat) (h : l ≠ []) : mn l ∈ l ∧ ∀ y ∈ l, rk (mn l) ≤ rk y := by
  cases l with
  | nil => exact absurd rfl h
  | cons x l =>
    have key : ∀ (l : List Nat) (m : Nat), (l.foldl (fun m y => if rk y < rk m then y else m) m = m ∨ l.foldl (fun m y => if rk y < rk m then y else m) m ∈ l) ∧ rk (l.foldl (fun m y => if rk y < rk m then y else m) m) ≤ rk m ∧ ∀ y ∈ l, rk (l.foldl (fun m y => if rk y < rk m then y else m) m) ≤ rk y := by
      intro l
      induction l with
      | nil => intro m; exact ⟨.inl rfl, Nat.le_refl _, fun y hy => by simp at hy⟩
      | cons z l ih =>
        intro m
        simp only [List.foldl_cons]
        by_cases hz : rk z < rk m
        · rw [if_pos hz]
          obtain ⟨a, b, c⟩ := ih z
          refine ⟨.inr ?_, by omega, ?_⟩
          · rcases a with a | a
            · rw [a]; simp
            · exact List.mem_cons_of_mem _ a
          · intro y hy
            rcases List.mem_cons.1 hy with rfl | hy
            · exact b
            · exact c y hy
        · rw [if_neg hz]
          obtain ⟨a, b, c⟩ := ih m
          refine ⟨?_, b, ?_⟩
          · rcases a with a | a
            · exact .inl a
            · exact .inr (List.mem_cons_of_mem _ a)
          · intro y hy
            rcases List.mem_cons.1 hy with rfl | hy
            · omega
            · exact c y hy
    obtain ⟨a, b, c⟩ := key l x
    refine ⟨?_, ?_⟩
    · show l.foldl _ x ∈ _
      rcases a with a | a
      · rw [a]; simp
      · exact List.mem_cons_of_mem _ a
    · intro y hy
      show rk (l.foldl _ x) ≤ _
      rcases List.mem_cons.1 hy with rfl | hy
      · exact b
      · exact c y hy
end Fl
set_option maxHeartbeats 1000000 in
theorem isnan_any (a : Int) (w : World) : Calls Try.prog 78 #[.int .u64 a] w fun e w' => e = .returned (.bool false) ∧ w = w' := by
  go_enter Try.func78, Try.ntmps78
  go_wp2
  go_ret
  exact ⟨rfl, rfl⟩
set_option maxHeartbeats 1000000 in
theorem compare64 (a b : Nat) (w : World) : Calls Try.prog 52 #[.int .u64 a, .int .u64 b] w fun e w' => e = .returned (.int .i64 (Fl.cmpR a b)) ∧ w = w' := by
  unfold Fl.cmpR
  by_cases h : a < b
  · rw [if_pos h]
    have t1 : decide ((a : Int) < (b : Int)) = true := decide_eq_true (by omega)
    have t2 : decide (a < b) = true := decide_eq_true h
    clear h
    go_enter Try.func52, Try.ntmps52
    go_wp2_with (refine (isnan_any _ _).mono ?_; rintro e w' ⟨rfl, rfl⟩)
    go_ret
    exact ⟨rfl, rfl⟩
  · rw [if_neg h]
    have t1 : decide ((a : Int) < (b : Int)) = false := decide_eq_false (by omega)
    have t2 : decide (a < b) = false := decide_eq_false h
    by_cases h' : b < a
    · rw [if_pos h']
      have t3 : decide ((b : Int) < (a : Int)) = true := decide_eq_true (by omega)
      have t4 : decide (b < a) = true := decide_eq_true h'
      clear h h'
      go_enter Try.func52, Try.ntmps52
      go_wp2_with (refine (isnan_any _ _).mono ?_; rintro e w' ⟨rfl, rfl⟩)
      go_ret
      exact ⟨rfl, rfl⟩
    · rw [if_neg h']
      have t3 : decide ((b : Int) < (a : Int)) = false := decide_eq_false (by omega)
      have t4 : decide (b < a) = false := decide_eq_false h'
      clear h h'
      go_enter Try.func52, Try.ntmps52
      go_wp2_with (refine (isnan_any _ _).mono ?_; rintro e w' ⟨rfl, rfl⟩)
      go_ret
      exact ⟨rfl, rfl⟩
set_option maxHeartbeats 1000000 in
theorem least1 (a b : Nat) (ha : a < 18446744073709551616) (hb : b < 18446744073709551616) (w : World) : Calls Try.prog 51 #[.float .f64 a, .float .f64 b] w fun e w' => e = .returned (.int .i64 (Fl.cmpR (Fl.rk a) (Fl.rk b))) ∧ w = w' := by
  have HA := Lib.hid ha; have HB := Lib.hid hb; clear ha hb
  go_enter Try.func51, Try.ntmps51
  go_wp2_with fail
  refine (rank_any a HA.out _).mono ?_; rintro e w1 ⟨rfl, rfl⟩
  go_wp2_with fail
  refine (rank_any b HB.out _).mono ?_; rintro e w1 ⟨rfl, rfl⟩
  go_wp2_with fail
  refine (compare64 _ _ _).mono ?_; rintro e w1 ⟨rfl, rfl⟩
  go_wp2
  go_ret
  exact ⟨rfl, rfl⟩
set_option maxHeartbeats 4000000 in
theorem minf_any (A : Option Addr) (n c : Nat) (l : List Nat) (w : World) (h : FlS w (.slice A n c) l) (hl : 1 ≤ n) (hm : n ≤ maxLen) (hw : ∀ x ∈ l, x < 18446744073709551616) :
    Calls Try.prog 50 #[.slice A n c, .func (.func 51) #[] #[]] w fun e w' => e = .returned (.float .f64 (Fl.mn l)) ∧ w = w' := by
  have H := Lib.hid h
  have hn := h.len
  have HW := Lib.hid hw
  obtain ⟨a, rfl, g0⟩ := h.get 0 (by omega)
  have HN := Lib.hid hn
  unfold maxLen at hm
  have E1 := Lib.hid (show Fl.mn (l.take 1) = l[0]'(by omega) from by
    match l, hn, hl with
    | x :: l, _, _ => rfl)
  generalize hx : l[0]'(by omega) = x0 at g0 E1
  have g00 : w.cell? a = some (.float .f64 x0) := by rw [← g0]; congr 1
  have c0 : (1 : Int) ≤ (n : Int) := by omega
  have c1 : decide ((n : Int) < 1) = false := decide_eq_false (by omega)
  have c2 : decide (n < 1) = false := decide_eq_false (by omega)
  clear hx hn h hw
  go_enter Try.func50, Try.ntmps50
  go_wp2
  go_loop [5, 6] (fun m i => ∃ k : Nat, 1 ≤ k ∧ k ≤ n ∧ i = .int .i64 k ∧ m = .float .f64 (Fl.mn (l.take k))) (fun _ i => n - (intOf i).toNat)
  case atStart => exact ⟨1, Nat.le_refl _, hl, rfl, by rw [E1.out]⟩
  case round =>
    obtain ⟨k, hk0, hk, rfl, rfl⟩ := hrel
    by_cases hlt : k < n
    · obtain ⟨a', ha', g1⟩ := H.out.get k (by rw [← HN.out]; exact hlt)
      cases ha'
      have SN := Lib.hid (Fl.mn_take l k hk0 (by rw [← HN.out]; exact hlt))
      have W1 := Lib.hid (HW.out (l[k]'(by rw [← HN.out]; exact hlt)) (List.getElem_mem _))
      have W2 : Hid (Fl.mn (l.take k) < 18446744073709551616) := Lib.hid (HW.out _ (List.mem_of_mem_take (Fl.mn_mem (l.take k) (Fl.take_ne hk0 (by have := HN.out; omega))).1))
      generalize l[k]'(by rw [← HN.out]; exact hlt) = y at *
      generalize hmm : Fl.mn (l.take k) = m at *
      clear hmm
      have i0 : (0 : Int) ≤ k := by omega
      have i1 : (k : Int) < n := by omega
      by_cases hr : Fl.rk y < Fl.rk m
      · have HC := Lib.hid (show Fl.cmpR (Fl.rk y) (Fl.rk m) = -1 by unfold Fl.cmpR; rw [if_pos hr])
        have S2 := Lib.hid (SN.out.trans (if_pos hr))
        clear hr
        go_wp2_with fail
        refine (least1 y m W1.out W2.out _).mono ?_; rintro e w1 ⟨rfl, rfl⟩
        rw [HC.out]
        go_wp2
        go_round
        case rel => exact ⟨k + 1, by omega, by omega, by go_num, by rw [S2.out]⟩
        case measure => simp [intOf]; omega
      · have HC := Lib.hid (show 0 ≤ Fl.cmpR (Fl.rk y) (Fl.rk m) by unfold Fl.cmpR; rw [if_neg hr]; split <;> omega)
        have S2 := Lib.hid (SN.out.trans (if_neg hr))
        clear hr
        go_wp2_with fail
        refine (least1 y m W1.out W2.out _).mono ?_; rintro e w1 ⟨rfl, rfl⟩
        have hc := HC.out
        generalize Fl.cmpR (Fl.rk y) (Fl.rk m) = q at *
        have hq : decide (q < 0) = false := decide_eq_false (by omega)
        go_wp2
        go_round
        case rel => exact ⟨k + 1, by omega, by omega, by go_num, by rw [S2.out]⟩
        case measure => simp [intOf]; omega
    · have hkk : k = l.length := by rw [← HN.out]; omega
      rw [hkk, List.take_length]
      have hge : decide ((l.length : Int) < (n : Int)) = false := decide_eq_false (by rw [← HN.out]; omega)
      have hge2 : decide (l.length < n) = false := decide_eq_false (by rw [← HN.out]; omega)
      clear hkk
      go_wp2
      go_ret
      exact ⟨rfl, rfl⟩
set_option maxHeartbeats 1000000 in
theorem least_any (A : Option Addr) (n c : Nat) (l : List Nat) (w : World) (h : FlS w (.slice A n c) l) (hl : 1 ≤ n) (hm : n ≤ maxLen) (hw : ∀ x ∈ l, x < 18446744073709551616) :
    Calls Try.prog 14 #[.slice A n c] w fun e w' => e = .returned (.tuple #[.float .f64 (Fl.mn l), .bool true]) ∧ w = w' := by
  have H := Lib.hid h; have HM := Lib.hid hm; have HW := Lib.hid hw
  have t0 : ((n : Int) == 0) = false := by rw [beq_eq_false_iff_ne]; omega
  have t1 : (n == 0) = false := by rw [beq_eq_false_iff_ne]; omega
  have HL := Lib.hid hl
  clear h hm hw hl
  go_enter Try.func14, Try.ntmps14
  go_wp2_with fail
  refine (minf_any A n c l _ H.out HL.out HM.out HW.out).mono ?_; rintro e w1 ⟨rfl, rfl⟩
  go_wp2
  go_ret2
  exact ⟨rfl, rfl⟩
set_option maxHeartbeats 1000000 in
theorem least_none (w : World) : Calls Try.prog 14 #[.slice none 0 0] w fun e w' => e = .returned (.tuple #[.float .f64 0, .bool false]) ∧ w = w' := by
  go_enter Try.func14, Try.ntmps14
  go_wp2
  go_ret2
  exact ⟨rfl, rfl⟩
end Go.Proofs.Ytndophkojnfcaaa
