/- The contract of amount.Read. -/
import Derived.Test.YtfcabofhlgmkjaaDoorAmB
set_option linter.unusedVariables false
set_option linter.unusedSimpArgs false
namespace Go.Proofs.YtfcabofhlgmkjaaDoor
open Go.RowKit Go.Sort

namespace Am
def un (s : ByteArray) : ByteArray := ⟨(Lib.trimPrefix s.data.toList [45]).toArray⟩
def neg (s : ByteArray) : Bool := Lib.hasPrefix s.data.toList [45]
def sum (s : ByteArray) : Int := vK (un s) 0 * 3600 + vK (un s) 1 * 60 + vK (un s) 2
def inR (s : ByteArray) : Bool := decide (vK (un s) 1 < 60) && (decide (vK (un s) 2 < 60) && decide (sum s ≤ 604799))
/-- What a text means: the amount, the error's number. -/
def rd (s : ByteArray) : Int × Int :=
  if s.toList == [45] then (0, 0) else if okK (un s) = false then (0, 2) else if inR s = false then (0, 1) else ((if neg s then - sum s else sum s), 0)
theorem un_size (s : ByteArray) : (un s).size ≤ s.size := by
  unfold un
  show (Lib.trimPrefix s.data.toList [45]).toArray.size ≤ s.size
  rw [List.size_toArray, ← ab_len s]
  exact ab_trim _ _
theorem vK_bd {s : ByteArray} (h : okK s = true) (k : Nat) (hk : k < 3) : 0 ≤ vK s k ∧ vK s k ≤ 99999 := by
  have hi : isK s k = true := by
    unfold okK at h
    simp only [Bool.and_eq_true] at h
    obtain rfl | rfl | rfl : k = 0 ∨ k = 1 ∨ k = 2 := by omega
    · exact h.1
    · exact h.2.1
    · exact h.2.2
  by_cases hl : k < (pcs s).length
  · rw [vK_at hl]
    rw [isK_at hl] at hi
    obtain ⟨hd, h5⟩ := isP_size hi
    have := ab_val_bd hd h5
    omega
  · rw [vK_no hl]; omega
end Am
set_option maxHeartbeats 4000000 in
set_option maxRecDepth 100000 in
theorem aread_any (s : ByteArray) (w : World) (m : Int) (hs : s.size < 4294967281) (hm : w.cell? ⟨1, 0, none⟩ = some (.int .i64 m)) :
    Calls Tryd.prog 59 #[.string s] w fun e w' => e = .returned (.tuple #[.int .i64 (Am.rd s).1, .int .i64 (Am.rd s).2]) ∧ Below w.heap.size w w' := by
  have C : Hid (∀ W, Calls Tryd.prog 110 #[.string s, .string ⟨#[45]⟩] W fun e w' => e = .returned (.tuple #[.string (Am.un s), .bool (Am.neg s)]) ∧ W = w') := fun W => cutPrefix s ⟨#[45]⟩ W
  have R := Lib.hid (fun W h => rparts_any (Am.un s) W m (Nat.lt_of_le_of_lt (Am.un_size s) hs) h)
  have HM := Lib.hid hm
  clear hm hs
  obtain ⟨ans, hans⟩ : ∃ ans, ans = Am.rd s := ⟨_, rfl⟩
  rw [← hans]
  unfold Am.rd Am.inR at hans
  unfold Am.sum at hans
  by_cases h0 : (s.toList == [45]) = true
  · have e := Lib.hid (show ans = (0, 0) by rw [hans, if_pos h0])
    clear hans
    go_enter Tryd.func59, Tryd.ntmps59
    go_wp2_with fail
    go_ret2
    exact ⟨by rw [e.out]; rfl, Below.refl _ _⟩
  · rw [if_neg h0] at hans
    have g0 : (s.toList == [45]) = false := by simpa using h0
    clear h0
    generalize Am.un s = U at *
    cases hk : Am.okK U
    · have e := Lib.hid (show ans = (0, 2) by rw [hans, hk, if_pos rfl])
      unfold Am.va at R
      rw [hk] at R
      clear hans
      go_enter Tryd.func59, Tryd.ntmps59
      go_wp2_with fail
      refine (C.out _).mono ?_; rintro e w1 ⟨rfl, rfl⟩
      go_wp2_with fail
      refine (R.out _ HM.out).mono ?_; rintro e w1 ⟨rfl, b1⟩
      have B1 := Lib.hid b1; clear b1
      go_wp2_with fail
      go_ret2
      exact ⟨by rw [e.out]; rfl, by have hz := B1.out.size; repeat (first | exact B1.out | refine Below.setCell ?_ (by first | omega | (simp; omega)) _ | refine Below.alloc ?_ (by first | omega | (simp; omega)) _)⟩
    · rw [hk, if_neg (by decide)] at hans
      obtain ⟨a0, a1⟩ := Am.vK_bd hk 0 (by omega)
      obtain ⟨b0, b1⟩ := Am.vK_bd hk 1 (by omega)
      obtain ⟨c0, c1⟩ := Am.vK_bd hk 2 (by omega)
      unfold Am.va at R
      rw [hk] at R
      simp only [if_true] at R
      clear hk
      generalize Am.vK U 0 = x at *
      generalize Am.vK U 1 = y at *
      generalize Am.vK U 2 = z at *
      generalize Am.neg s = ng at *
      by_cases h1 : 60 ≤ y
      · have e := Lib.hid (show ans = (0, 1) by rw [hans, if_pos (by rw [decide_eq_false (show ¬ y < 60 by omega)]; rfl)])
        clear hans
        go_enter Tryd.func59, Tryd.ntmps59
        go_wp2_with fail
        refine (C.out _).mono ?_; rintro e w1 ⟨rfl, rfl⟩
        go_wp2_with fail
        refine (R.out _ HM.out).mono ?_; rintro e w1 ⟨rfl, d1⟩
        have B1 := Lib.hid d1; clear d1
        go_wp2_with fail
        go_ret2
        exact ⟨by rw [e.out]; rfl, by have hz := B1.out.size; repeat (first | exact B1.out | refine Below.setCell ?_ (by first | omega | (simp; omega)) _ | refine Below.alloc ?_ (by first | omega | (simp; omega)) _)⟩
      · by_cases h2 : 60 ≤ z
        · have e := Lib.hid (show ans = (0, 1) by rw [hans, if_pos (by rw [decide_eq_false (show ¬ z < 60 by omega)]; simp)])
          clear hans
          go_enter Tryd.func59, Tryd.ntmps59
          go_wp2_with fail
          refine (C.out _).mono ?_; rintro e w1 ⟨rfl, rfl⟩
          go_wp2_with fail
          refine (R.out _ HM.out).mono ?_; rintro e w1 ⟨rfl, d1⟩
          have B1 := Lib.hid d1; clear d1
          go_wp2_with fail
          go_ret2
          exact ⟨by rw [e.out]; rfl, by have hz := B1.out.size; repeat (first | exact B1.out | refine Below.setCell ?_ (by first | omega | (simp; omega)) _ | refine Below.alloc ?_ (by first | omega | (simp; omega)) _)⟩
        · by_cases h3 : 604799 < x * 3600 + y * 60 + z
          · have e := Lib.hid (show ans = (0, 1) by rw [hans, if_pos (by rw [decide_eq_false (show ¬ x * 3600 + y * 60 + z ≤ 604799 by omega)]; simp)])
            clear hans
            go_enter Tryd.func59, Tryd.ntmps59
            go_wp2_with fail
            refine (C.out _).mono ?_; rintro e w1 ⟨rfl, rfl⟩
            go_wp2_with fail
            refine (R.out _ HM.out).mono ?_; rintro e w1 ⟨rfl, d1⟩
            have B1 := Lib.hid d1; clear d1
            go_wp2_with fail
            go_ret2
            exact ⟨by rw [e.out]; rfl, by have hz := B1.out.size; repeat (first | exact B1.out | refine Below.setCell ?_ (by first | omega | (simp; omega)) _ | refine Below.alloc ?_ (by first | omega | (simp; omega)) _)⟩
          · rw [if_neg (by rw [decide_eq_true (show y < 60 by omega), decide_eq_true (show z < 60 by omega), decide_eq_true (show x * 3600 + y * 60 + z ≤ 604799 by omega)]; simp)] at hans
            cases ng
            · have e := Lib.hid (show ans = (x * 3600 + y * 60 + z, 0) by rw [hans]; rfl)
              clear hans
              go_enter Tryd.func59, Tryd.ntmps59
              go_wp2_with fail
              refine (C.out _).mono ?_; rintro e w1 ⟨rfl, rfl⟩
              go_wp2_with fail
              refine (R.out _ HM.out).mono ?_; rintro e w1 ⟨rfl, d1⟩
              have B1 := Lib.hid d1; clear d1
              go_wp2_with fail
              go_ret2
              exact ⟨by rw [e.out]; rfl, by have hz := B1.out.size; repeat (first | exact B1.out | refine Below.setCell ?_ (by first | omega | (simp; omega)) _ | refine Below.alloc ?_ (by first | omega | (simp; omega)) _)⟩
            · have e := Lib.hid (show ans = (-(x * 3600 + y * 60 + z), 0) by rw [hans]; rfl)
              clear hans
              go_enter Tryd.func59, Tryd.ntmps59
              go_wp2_with fail
              refine (C.out _).mono ?_; rintro e w1 ⟨rfl, rfl⟩
              go_wp2_with fail
              refine (R.out _ HM.out).mono ?_; rintro e w1 ⟨rfl, d1⟩
              have B1 := Lib.hid d1; clear d1
              go_wp2_with fail
              go_ret2
              exact ⟨by rw [e.out]; rfl, by have hz := B1.out.size; repeat (first | exact B1.out | refine Below.setCell ?_ (by first | omega | (simp; omega)) _ | refine Below.alloc ?_ (by first | omega | (simp; omega)) _)⟩
end Go.Proofs.YtfcabofhlgmkjaaDoor
