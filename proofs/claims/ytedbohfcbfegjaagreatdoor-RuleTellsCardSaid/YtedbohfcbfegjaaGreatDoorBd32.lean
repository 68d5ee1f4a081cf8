/- Joined: WdG, YrF. -/
import Derived.Test.YtedbohfcbfegjaaGreatDoorBd27
import Derived.Test.YtedbohfcbfegjaaGreatDoorBd31
import Derived.Test.YtedbohfcbfegjaaGreatDoorBd23
/- Words: what Match means, in plain lists: who is found begins so, alone but for its equals; one letter more; one word more. -/
set_option linter.unusedVariables false
set_option linter.unusedSimpArgs false
namespace Go.Proofs.YtedbohfcbfegjaaGreatDoor
open Go.RowKit Go.Sort

theorem ifc {c d : Prop} [Decidable c] [Decidable d] {α : Type} {a b : α} (h : c ↔ d) : (if c then a else b) = if d then a else b := by
  by_cases hc : c
  · rw [if_pos hc, if_pos (h.1 hc)]
  · rw [if_neg hc, if_neg (fun x => hc (h.2 x))]
namespace Wd
theorem ref2_set {s : List UInt8} {all : List ByteArray} : ∀ (r : List ByteArray) (i j : Nat), ref2 s all r i (j : Int) = if (∀ x ∈ r, beg x.data.toList s = true → same (all.getD j ByteArray.empty).data.toList x.data.toList = true) then ((j : Int), 0) else (0, 3) := by
  intro r
  induction r with
  | nil => intro i j; unfold ref2; rw [if_neg (by omega), if_pos (by intro x hx; cases hx)]
  | cons y r ih =>
    intro i j
    unfold ref2
    by_cases h : beg y.data.toList s = false
    · rw [if_pos h, ih]
      refine ifc ?_
      constructor
      · intro H x hx hb
        rcases List.mem_cons.1 hx with rfl | hx
        · rw [h] at hb; cases hb
        · exact H x hx hb
      · intro H x hx hb
        exact H x (List.mem_cons_of_mem _ hx) hb
    · rw [if_neg h, if_neg (by omega)]
      have hb : beg y.data.toList s = true := by simpa using h
      simp only [Int.toNat_natCast]
      by_cases h2 : same (all.getD j ByteArray.empty).data.toList y.data.toList = true
      · rw [if_pos h2, ih]
        refine ifc ?_
        constructor
        · intro H x hx hb
          rcases List.mem_cons.1 hx with rfl | hx
          · exact h2
          · exact H x hx hb
        · intro H x hx hb
          exact H x (List.mem_cons_of_mem _ hx) hb
      · rw [if_neg h2, if_neg (fun H => h2 (H y (List.mem_cons_self ..) hb))]
theorem ref2_open {s : List UInt8} {all : List ByteArray} : ∀ (r pre : List ByteArray), all = pre ++ r →
    (ref2 s all r pre.length (-1) = (0, 3) ∧ ∀ x ∈ r, beg x.data.toList s = false) ∨
    ∃ (k : Nat) (hk : k < all.length), beg all[k].data.toList s = true ∧ ref2 s all r pre.length (-1) = if (∀ x ∈ r, beg x.data.toList s = true → same all[k].data.toList x.data.toList = true) then ((k : Int), 0) else (0, 3) := by
  intro r
  induction r with
  | nil => intro pre _; left; exact ⟨by unfold ref2; rfl, by intro x hx; cases hx⟩
  | cons y r ih =>
    intro pre hall
    by_cases h : beg y.data.toList s = false
    · have e : ref2 s all (y :: r) pre.length (-1) = ref2 s all r (pre ++ [y]).length (-1) := by
        conv => lhs; unfold ref2
        rw [if_pos h]; simp
      rw [e]
      rcases ih (pre ++ [y]) (by rw [hall]; simp) with ⟨a, b⟩ | ⟨k, hk, a, b⟩
      · left
        refine ⟨a, ?_⟩
        intro x hx
        rcases List.mem_cons.1 hx with rfl | hx
        · exact h
        · exact b x hx
      · right
        refine ⟨k, hk, a, ?_⟩
        rw [b]
        refine ifc ?_
        constructor
        · intro H x hx hb
          rcases List.mem_cons.1 hx with rfl | hx
          · rw [h] at hb; cases hb
          · exact H x hx hb
        · intro H x hx hb
          exact H x (List.mem_cons_of_mem _ hx) hb
    · have hb : beg y.data.toList s = true := by simpa using h
      right
      have hk : pre.length < all.length := by rw [hall]; simp
      have hy : all[pre.length] = y := by subst hall; simp
      refine ⟨pre.length, hk, by rw [hy]; exact hb, ?_⟩
      have e : ref2 s all (y :: r) pre.length (-1) = ref2 s all r (pre.length + 1) (pre.length : Int) := by
        conv => lhs; unfold ref2
        rw [if_neg h, if_pos (by omega)]
      rw [e, ref2_set]
      have g : all.getD pre.length ByteArray.empty = y := by rw [List.getD_eq_getElem?_getD, List.getElem?_eq_getElem hk, hy]; rfl
      rw [g, hy]
      refine ifc ?_
      constructor
      · intro H x hx hb
        rcases List.mem_cons.1 hx with rfl | hx
        · exact same_refl _
        · exact H x hx hb
      · intro H x hx hb
        exact H x (List.mem_cons_of_mem _ hx) hb
theorem mat_no_exact {s : List UInt8} {all : List ByteArray} (hs : s ≠ []) (hno : ∀ x ∈ all, ¬ same x.data.toList s = true) :
    (mat s all = (0, 3) ∧ ∀ x ∈ all, beg x.data.toList s = false) ∨
    ∃ (k : Nat) (hk : k < all.length), beg all[k].data.toList s = true ∧ mat s all = if (∀ x ∈ all, beg x.data.toList s = true → same all[k].data.toList x.data.toList = true) then ((k : Int), 0) else (0, 3) := by
  have e : mat s all = ref2 s all all ([] : List ByteArray).length (-1) := by
    unfold mat
    rw [if_neg hs, run_ref2 _ _ _ hno]; rfl
  rw [e]
  exact ref2_open all [] rfl
theorem ref1_exact {s : List UInt8} {all : List ByteArray} : ∀ (r pre : List ByteArray), all = pre ++ r → (∃ x ∈ r, same x.data.toList s = true) →
    ∃ (k : Nat) (hk : k < all.length), ref1 s all r pre.length = ((k : Int), 0) ∧ same all[k].data.toList s = true := by
  intro r
  induction r with
  | nil => intro pre _ ⟨x, hx, _⟩; cases hx
  | cons y r ih =>
    intro pre hall hex
    by_cases h : same y.data.toList s = true
    · have hk : pre.length < all.length := by rw [hall]; simp
      have hy : all[pre.length] = y := by subst hall; simp
      exact ⟨pre.length, hk, by unfold ref1; rw [if_pos h], by rw [hy]; exact h⟩
    · have e : ref1 s all (y :: r) pre.length = ref1 s all r (pre ++ [y]).length := by
        conv => lhs; unfold ref1
        rw [if_neg h]; simp
      rw [e]
      refine ih (pre ++ [y]) (by rw [hall]; simp) ?_
      obtain ⟨x, hx, he⟩ := hex
      rcases List.mem_cons.1 hx with rfl | hx
      · exact absurd he h
      · exact ⟨x, hx, he⟩
theorem mat_exact {s : List UInt8} {all : List ByteArray} (hs : s ≠ []) (hex : ∃ x ∈ all, same x.data.toList s = true) :
    ∃ (k : Nat) (hk : k < all.length), mat s all = ((k : Int), 0) ∧ same all[k].data.toList s = true := by
  rw [mat_ref hs]
  exact ref1_exact all [] rfl hex
theorem same_beg {a b : List UInt8} (h : same a b = true) : beg a b = true := by
  unfold same at h
  rw [Bool.and_eq_true] at h
  exact h.2
theorem beg_left {w s t : List UInt8} (h : beg w (s ++ t) = true) : beg w s = true := by
  obtain ⟨hl, hi⟩ := beg_iff.1 h
  rw [List.length_append] at hl
  refine beg_iff.2 ⟨by omega, fun i h1 h2 => ?_⟩
  have := hi i h1 (by rw [List.length_append]; omega)
  rw [List.getElem_append_left h2] at this
  exact this
theorem beg_next {w s : List UInt8} (h : beg w s = true) (hl : s.length < w.length) : beg w (s ++ [w[s.length]]) = true := by
  obtain ⟨h1, hi⟩ := beg_iff.1 h
  refine beg_iff.2 ⟨by simp; omega, fun i k1 k2 => ?_⟩
  by_cases hlt : i < s.length
  · rw [List.getElem_append_left hlt]; exact hi i k1 hlt
  · have hil : i = s.length := by simp at k2; omega
    subst hil
    simp
/-- What is told when a word is found. -/
theorem mat_ok {s : List UInt8} {all : List ByteArray} (h : (mat s all).2 = 0) :
    ∃ (k : Nat) (hk : k < all.length), mat s all = ((k : Int), 0) ∧ s ≠ [] ∧ (same all[k].data.toList s = true ∨ (∀ x ∈ all, ¬ same x.data.toList s = true) ∧ beg all[k].data.toList s = true ∧ ∀ x ∈ all, beg x.data.toList s = true → same all[k].data.toList x.data.toList = true) := by
  have hs : s ≠ [] := by
    rintro rfl
    unfold mat at h
    rw [if_pos rfl] at h
    cases h
  by_cases hex : ∃ x ∈ all, same x.data.toList s = true
  · obtain ⟨k, hk, e, hm⟩ := mat_exact hs hex
    exact ⟨k, hk, e, hs, .inl hm⟩
  · have hno : ∀ x ∈ all, ¬ same x.data.toList s = true := fun x hx he => hex ⟨x, hx, he⟩
    rcases mat_no_exact hs hno with ⟨e, -⟩ | ⟨k, hk, hb, e⟩
    · rw [e] at h; cases h
    · by_cases hc : ∀ x ∈ all, beg x.data.toList s = true → same all[k].data.toList x.data.toList = true
      · rw [if_pos hc] at e
        exact ⟨k, hk, e, hs, .inr ⟨hno, hb, hc⟩⟩
      · rw [if_neg hc] at e
        rw [e] at h; cases h
/-- One letter more of who is found. -/
theorem mat_more {s t : List UInt8} {all : List ByteArray} {k : Nat} (hk : k < all.length) (hs : s ≠ []) (ht : beg all[k].data.toList (s ++ t) = true)
    (hc : ∀ x ∈ all, beg x.data.toList s = true → same all[k].data.toList x.data.toList = true) :
    ∃ (j : Nat) (hj : j < all.length), mat (s ++ t) all = ((j : Int), 0) ∧ same all[j].data.toList all[k].data.toList = true := by
  have hs' : s ++ t ≠ [] := by simp [hs]
  by_cases hex : ∃ x ∈ all, same x.data.toList (s ++ t) = true
  · obtain ⟨j, hj, e, hm⟩ := mat_exact hs' hex
    exact ⟨j, hj, e, by rw [same_comm]; exact hc _ (List.getElem_mem hj) (beg_left (same_beg hm))⟩
  · have hno : ∀ x ∈ all, ¬ same x.data.toList (s ++ t) = true := fun x hx he => hex ⟨x, hx, he⟩
    rcases mat_no_exact hs' hno with ⟨-, hn⟩ | ⟨j, hj, hb, e⟩
    · have := hn _ (List.getElem_mem hk)
      rw [ht] at this; cases this
    · have hjk := hc _ (List.getElem_mem hj) (beg_left hb)
      have hjk2 : same all[j].data.toList all[k].data.toList = true := by rw [same_comm]; exact hjk
      rw [if_pos (fun x hx hxb => same_trans hjk2 (hc x hx (beg_left hxb)))] at e
      exact ⟨j, hj, e, hjk2⟩
/-- One word more, that goes on behind who is found. -/
theorem mat_also {s : List UInt8} {all : List ByteArray} {k : Nat} (hk : k < all.length) (hs : s ≠ []) (y : ByteArray) (hl : all[k].data.toList.length < y.data.toList.length) (hb : beg all[k].data.toList s = true) (hy : beg y.data.toList s = true)
    (hno : ∀ x ∈ all, ¬ same x.data.toList s = true) : mat s (all ++ [y]) = (0, 3) := by
  have hn : ∀ x ∈ all ++ [y], ¬ same x.data.toList s = true := by
    intro x hx
    rcases List.mem_append.1 hx with hx | hx
    · exact hno x hx
    · simp only [List.mem_singleton] at hx
      subst hx
      intro h
      have h1 := (same_iff.1 h).1
      have h2 := (beg_iff.1 hb).1
      omega
  have m1 : all[k] ∈ all ++ [y] := List.mem_append_left _ (List.getElem_mem hk)
  have m2 : y ∈ all ++ [y] := by simp
  rcases mat_no_exact hs hn with ⟨-, h⟩ | ⟨j, hj, -, e⟩
  · have := h _ m1
    rw [hb] at this; cases this
  · rw [e, if_neg]
    intro H
    have a := H _ m1 hb
    have b := H _ m2 hy
    have c := (same_iff.1 a).1
    have d := (same_iff.1 b).1
    omega
/-- A word with something behind it begins as it does. -/
theorem beg_longer {w t s : List UInt8} (h : beg w s = true) : beg (w ++ t) s = true := by
  obtain ⟨hl, hi⟩ := beg_iff.1 h
  refine beg_iff.2 ⟨by rw [List.length_append]; omega, fun i h1 h2 => ?_⟩
  rw [List.getElem_append_left (by omega)]
  exact hi i (by omega) h2
end Wd
theorem bytes_app (a b : ByteArray) : (a ++ b).data.toList = a.data.toList ++ b.data.toList := by
  rw [ByteArray.data_append, Array.toList_append]
theorem bytes_cut1 (x : ByteArray) (n : Nat) (h : n < x.data.toList.length) : (x.extract n (n + 1)).data.toList = [x.data.toList[n]] := by
  rw [ByteArray.data_extract, Array.toList_extract]
  simp [List.extract_eq_take_drop, List.take_one, h]
end Go.Proofs.YtedbohfcbfegjaaGreatDoor

/- Years: the reference's functions answer as the program's. -/
set_option linter.unusedVariables false
set_option linter.unusedSimpArgs false
namespace Go.Proofs.YtedbohfcbfegjaaGreatDoor
open Go.RowKit Go.Sort

theorem rnumeral_any (s : ByteArray) (w : World) :
    Calls Tryz.prog 90 #[.string s] w fun e w' => e = .returned (.bool (Yr.isN s.data.toList)) ∧ w = w' := by
  rcases Nat.eq_zero_or_pos s.size with hz | hz
  · have hl : s.data.toList = [] := by rw [← List.length_eq_zero_iff, Num.rn_len]; exact hz
    have e : s = ⟨#[]⟩ := by apply ByteArray.ext; apply Array.toList_inj.1; rw [hl]
    subst e
    clear hz hl
    go_enter Tryz.func90, Tryz.ntmps90
    go_wp2_with fail
    go_ret
    exact ⟨rfl, rfl⟩
  · obtain ⟨r, hr, -⟩ := dhead hz
    obtain ⟨n1, n2⟩ := dne hz
    have e : Yr.isN s.data.toList = (Num.dig s[0] || decide (s[0].toNat = 45)) := by
      rw [hr]; exact Yr.starts_dig s[0]
    rw [e]
    have IX := fun W => rn_ix s 0 hz W
    have hd := Num.rn_dig s[0]
    have hb := s[0].toNat_lt
    rw [hd]
    obtain ⟨c, hc⟩ : ∃ c : Int, (s[0].toNat : Int) = c := ⟨_, rfl⟩
    have h45 : decide (s[0].toNat = 45) = decide (c = 45) := by rw [← hc]; exact decide_eq_decide.2 (by omega)
    rw [h45, hc]
    have IX : ∀ W, Sem.run Tryz.prog (Instr.index 9 (.string s) (.int .i64 0)) W = .ok (.int .u8 c) W := fun W => by rw [← hc]; exact IX W
    clear e hd h45 hr
    by_cases h1 : c = 45
    · have g1 : (c == 45) = true := by simpa using h1
      have e : (decide (48 ≤ c) && decide (c ≤ 57) || decide (c = 45)) = true := by rw [decide_eq_true h1]; simp
      rw [e]
      clear h1 hc hb e
      go_enter Tryz.func90, Tryz.ntmps90
      go_wp2_with fail
      go_ret
      exact ⟨rfl, rfl⟩
    · have g1 : (c == 45) = false := beq_eq_false_iff_ne.2 h1
      rw [decide_eq_false h1, Bool.or_false]
      clear h1 hc hb
      by_cases h2 : 48 ≤ c
      · by_cases h3 : c ≤ 57
        · rw [decide_eq_true h2, decide_eq_true h3]
          go_enter Tryz.func90, Tryz.ntmps90
          go_wp2_with fail
          go_ret
          exact ⟨rfl, rfl⟩
        · have g3 : decide (c ≤ 57) = false := decide_eq_false h3
          rw [decide_eq_true h2, g3]
          go_enter Tryz.func90, Tryz.ntmps90
          go_wp2_with fail
          go_ret
          exact ⟨rfl, rfl⟩
      · have g2 : decide (48 ≤ c) = false := decide_eq_false h2
        rw [g2]
        go_enter Tryz.func90, Tryz.ntmps90
        go_wp2_with fail
        go_ret
        exact ⟨rfl, rfl⟩
theorem ryear_any (n : Int) (w : World) : Calls Tryz.prog 104 #[.int .i64 n] w fun e w' => e = .returned (.bool (Yr.inY n)) ∧ w = w' := by
  unfold Yr.inY
  by_cases h1 : -32767 ≤ n
  · go_enter Tryz.func104, Tryz.ntmps104
    go_wp2_with fail
    go_ret
    exact ⟨by simp [h1], rfl⟩
  · rw [decide_eq_false h1]
    go_enter Tryz.func104, Tryz.ntmps104
    go_wp2_with fail
    go_ret
    exact ⟨rfl, rfl⟩
theorem rynum_any (s : ByteArray) (w : World) (hs : s.size ≤ 1000) :
    Calls Tryz.prog 91 #[.string s] w fun e w' => e = .returned (.tuple #[.int .i64 (Yr.num s.data.toList).1, .int .i64 (Yr.num s.data.toList).2]) ∧ w = w' := by
  have C := Lib.hid (rread_any s w hs)
  unfold Yr.num
  generalize (Num.rd s.data.toList).1 = x at C ⊢
  generalize (Num.rd s.data.toList).2 = q at C ⊢
  by_cases hq : q = 0
  · subst hq
    rw [if_pos rfl]
    have CI := Lib.hid (fun W => ryear_any x W)
    cases hi : Yr.inY x
    · rw [hi] at CI
      simp only [Bool.false_eq_true, if_false]
      clear hi
      go_enter Tryz.func91, Tryz.ntmps91
      go_wp2_with fail
      refine C.out.mono ?_; rintro e w1 ⟨rfl, rfl⟩
      go_wp2_with fail
      refine (CI.out _).mono ?_; rintro e w1 ⟨rfl, rfl⟩
      go_wp2_with fail
      go_ret2
      exact ⟨rfl, rfl⟩
    · rw [hi] at CI
      simp only [if_true]
      clear hi
      go_enter Tryz.func91, Tryz.ntmps91
      go_wp2_with fail
      refine C.out.mono ?_; rintro e w1 ⟨rfl, rfl⟩
      go_wp2_with fail
      refine (CI.out _).mono ?_; rintro e w1 ⟨rfl, rfl⟩
      go_wp2_with fail
      go_ret2
      exact ⟨rfl, rfl⟩
  · rw [if_neg hq]
    have g1 : (q == 0) = false := beq_eq_false_iff_ne.2 hq
    have g2 : (q != 0) = true := by unfold bne; rw [g1]; rfl
    go_enter Tryz.func91, Tryz.ntmps91
    go_wp2_with fail
    refine C.out.mono ?_; rintro e w1 ⟨rfl, rfl⟩
    go_wp2_with fail
    go_ret2
    exact ⟨rfl, rfl⟩
set_option maxHeartbeats 1000000 in
theorem ryword_any (s : ByteArray) (w : World) (hs : s.size ≤ 1000) :
    Calls Tryz.prog 92 #[.string s] w fun e w' => e = .returned (.tuple #[.int .i64 (Yr.word s.data.toList).1, .int .i64 (Yr.word s.data.toList).2]) ∧ Below w.heap.size w w' := by
  have C : Hid (∀ (W : World) (t : TypeId), Calls Tryz.prog 93 #[.string s, .slice (some ⟨W.heap.size, 0, none⟩) 3 3] (W.alloc (.cells #[.string ⟨#[109, 105, 110, 105, 109, 117, 109]⟩, .string ⟨#[109, 97, 120, 105, 109, 117, 109]⟩, .string ⟨#[111, 110, 108, 121]⟩] t)) fun e w' => e = .returned (.tuple #[.int .i64 (Yr.word s.data.toList).1, .int .i64 (Yr.word s.data.toList).2]) ∧ ∃ n, w' = (W.alloc (.cells #[.string ⟨#[109, 105, 110, 105, 109, 117, 109]⟩, .string ⟨#[109, 97, 120, 105, 109, 117, 109]⟩, .string ⟨#[111, 110, 108, 121]⟩] t)).drewN n) := fun W t => matchr_any s _ Yr.names _ (names_st W t) (by unfold maxLen; omega) (by decide) (by decide)
  generalize (Yr.word s.data.toList).1 = k at C ⊢
  generalize (Yr.word s.data.toList).2 = q at C ⊢
  go_enter Tryz.func92, Tryz.ntmps92
  go_wp2_with fail
  refine (C.out w _).mono ?_; rintro e w1 ⟨rfl, n, rfl⟩
  go_wp2_with fail
  go_ret2
  exact ⟨rfl, below_new _ _ _⟩
theorem word_cases (l : List UInt8) : (Yr.word l = (0, 3)) ∨ ∃ k, Yr.word l = (k, 0) ∧ (k = 0 ∨ k = 1 ∨ k = 2) := by
  by_cases h : (Yr.word l).2 = 0
  · obtain ⟨k, hk, e, -⟩ := Wd.mat_ok (s := l) (all := Yr.names) h
    have hk3 : k < 3 := hk
    exact .inr ⟨_, e, by omega⟩
  · obtain ⟨-, -, b2⟩ := Wd.mat_bd l Yr.names
    rcases b2 with h2 | ⟨h2, h3⟩
    · exact absurd h2 h
    · exact .inl (Prod.ext h3 h2)
set_option maxHeartbeats 1000000 in
theorem ryfrom_any (s : ByteArray) (w : World) (hs : s.size ≤ 1000) :
    Calls Tryz.prog 29 #[.string s] w fun e w' => e = .returned (.tuple #[.int .i64 (Yr.fr s.data.toList).1, .int .i64 (Yr.fr s.data.toList).2]) ∧ Below w.heap.size w w' := by
  have CN := Lib.hid (fun W => rnumeral_any s W)
  unfold Yr.fr
  cases hn : Yr.isN s.data.toList
  · rw [hn] at CN
    simp only [Bool.false_eq_true, if_false]
    have CW := Lib.hid (fun W => ryword_any s W hs)
    rcases word_cases s.data.toList with e | ⟨k, e, hk⟩
    · rw [e] at CW ⊢
      clear e hn
      go_enter Tryz.func29, Tryz.ntmps29
      go_wp2_with fail
      refine (CN.out _).mono ?_; rintro e v1 ⟨rfl, rfl⟩
      go_wp2_with fail
      refine (CW.out _).mono ?_; rintro e w1 ⟨rfl, b1⟩
      have d1 : Below w.heap.size w w1 := below_step (by repeat (first | exact Below.refl _ _ | refine below_drewN ?_ _ | refine Below.drew ?_ | refine Below.setCell ?_ (by first | (simp; done) | (simp; omega) | omega) _ | refine Below.alloc ?_ (by first | (simp; done) | (simp; omega) | omega) _)) b1
      have B1 := Lib.hid d1
      clear b1 d1
      go_wp2_with fail
      go_ret2
      exact ⟨rfl, (by have hz := B1.out.size; repeat (first | exact B1.out | refine below_drewN ?_ _ | refine Below.drew ?_ | refine Below.setCell ?_ (by first | omega | (simp; done) | (simp; omega)) _ | refine Below.alloc ?_ (by first | omega | (simp; done) | (simp; omega)) _))⟩
    · rw [e] at CW ⊢
      clear e hn
      rcases hk with rfl | rfl | rfl
      · go_enter Tryz.func29, Tryz.ntmps29
        go_wp2_with fail
        refine (CN.out _).mono ?_; rintro e v1 ⟨rfl, rfl⟩
        go_wp2_with fail
        refine (CW.out _).mono ?_; rintro e w1 ⟨rfl, b1⟩
        have d1 : Below w.heap.size w w1 := below_step (by repeat (first | exact Below.refl _ _ | refine below_drewN ?_ _ | refine Below.drew ?_ | refine Below.setCell ?_ (by first | (simp; done) | (simp; omega) | omega) _ | refine Below.alloc ?_ (by first | (simp; done) | (simp; omega) | omega) _)) b1
        have B1 := Lib.hid d1
        clear b1 d1
        go_wp2_with fail
        go_ret2
        exact ⟨rfl, (by have hz := B1.out.size; repeat (first | exact B1.out | refine below_drewN ?_ _ | refine Below.drew ?_ | refine Below.setCell ?_ (by first | omega | (simp; done) | (simp; omega)) _ | refine Below.alloc ?_ (by first | omega | (simp; done) | (simp; omega)) _))⟩
      · go_enter Tryz.func29, Tryz.ntmps29
        go_wp2_with fail
        refine (CN.out _).mono ?_; rintro e v1 ⟨rfl, rfl⟩
        go_wp2_with fail
        refine (CW.out _).mono ?_; rintro e w1 ⟨rfl, b1⟩
        have d1 : Below w.heap.size w w1 := below_step (by repeat (first | exact Below.refl _ _ | refine below_drewN ?_ _ | refine Below.drew ?_ | refine Below.setCell ?_ (by first | (simp; done) | (simp; omega) | omega) _ | refine Below.alloc ?_ (by first | (simp; done) | (simp; omega) | omega) _)) b1
        have B1 := Lib.hid d1
        clear b1 d1
        go_wp2_with fail
        go_ret2
        exact ⟨rfl, (by have hz := B1.out.size; repeat (first | exact B1.out | refine below_drewN ?_ _ | refine Below.drew ?_ | refine Below.setCell ?_ (by first | omega | (simp; done) | (simp; omega)) _ | refine Below.alloc ?_ (by first | omega | (simp; done) | (simp; omega)) _))⟩
      · go_enter Tryz.func29, Tryz.ntmps29
        go_wp2_with fail
        refine (CN.out _).mono ?_; rintro e v1 ⟨rfl, rfl⟩
        go_wp2_with fail
        refine (CW.out _).mono ?_; rintro e w1 ⟨rfl, b1⟩
        have d1 : Below w.heap.size w w1 := below_step (by repeat (first | exact Below.refl _ _ | refine below_drewN ?_ _ | refine Below.drew ?_ | refine Below.setCell ?_ (by first | (simp; done) | (simp; omega) | omega) _ | refine Below.alloc ?_ (by first | (simp; done) | (simp; omega) | omega) _)) b1
        have B1 := Lib.hid d1
        clear b1 d1
        go_wp2_with fail
        go_ret2
        exact ⟨rfl, (by have hz := B1.out.size; repeat (first | exact B1.out | refine below_drewN ?_ _ | refine Below.drew ?_ | refine Below.setCell ?_ (by first | omega | (simp; done) | (simp; omega)) _ | refine Below.alloc ?_ (by first | omega | (simp; done) | (simp; omega)) _))⟩
  · rw [hn] at CN
    simp only [if_true]
    have CR := Lib.hid (fun W => rynum_any s W hs)
    generalize (Yr.num s.data.toList).1 = x at CR ⊢
    generalize (Yr.num s.data.toList).2 = q at CR ⊢
    clear hn
    go_enter Tryz.func29, Tryz.ntmps29
    go_wp2_with fail
    refine (CN.out _).mono ?_; rintro e v1 ⟨rfl, rfl⟩
    go_wp2_with fail
    refine (CR.out _).mono ?_; rintro e v2 ⟨rfl, rfl⟩
    go_wp2_with fail
    go_ret2
    exact ⟨rfl, (by repeat (first | exact Below.refl _ _ | refine below_drewN ?_ _ | refine Below.drew ?_ | refine Below.setCell ?_ (by first | (simp; done) | (simp; omega) | omega) _ | refine Below.alloc ?_ (by first | (simp; done) | (simp; omega) | omega) _))⟩
namespace Yr
theorem la_w {l : List UInt8} {f : Int} (hn : isN l = false) : (word l = (0, 3) → la l f = (0, 3)) ∧ (word l = (0, 0) → la l f = (0, 3)) ∧ (word l = (1, 0) → la l f = (32767, 0)) ∧ (word l = (2, 0) → la l f = (f, 0)) := by
  unfold la
  rw [hn]
  simp only [Bool.false_eq_true, if_false]
  refine ⟨fun e => by rw [e]; rfl, fun e => by rw [e]; rfl, fun e => by rw [e]; rfl, fun e => by rw [e]; rfl⟩
theorem to_of {l : List UInt8} {f a b : Int} (h : la l f = (a, b)) : to l f = if b = 0 then (if f ≤ a then (a, 0) else (0, 14)) else (0, b) := by
  unfold to; rw [h]
end Yr
set_option maxHeartbeats 1000000 in
theorem ryto_any (s : ByteArray) (f : Int) (w : World) (hs : s.size ≤ 1000) :
    Calls Tryz.prog 30 #[.string s, .int .i64 f] w fun e w' => e = .returned (.tuple #[.int .i64 (Yr.to s.data.toList f).1, .int .i64 (Yr.to s.data.toList f).2]) ∧ Below w.heap.size w w' := by
  have CN := Lib.hid (fun W => rnumeral_any s W)
  cases hn : Yr.isN s.data.toList
  · rw [hn] at CN
    have CW := Lib.hid (fun W => ryword_any s W hs)
    obtain ⟨l1, l2, l3, l4⟩ := Yr.la_w (f := f) hn
    rcases word_cases s.data.toList with e | ⟨k, e, hk⟩
    · rw [Yr.to_of (l1 e), if_neg (by decide)]
      rw [e] at CW
      clear e hn l1 l2 l3 l4
      go_enter Tryz.func30, Tryz.ntmps30
      go_wp2_with fail
      refine (CN.out _).mono ?_; rintro e v1 ⟨rfl, rfl⟩
      go_wp2_with fail
      refine (CW.out _).mono ?_; rintro e w1 ⟨rfl, b1⟩
      have d1 : Below w.heap.size w w1 := below_step (by repeat (first | exact Below.refl _ _ | refine below_drewN ?_ _ | refine Below.drew ?_ | refine Below.setCell ?_ (by first | (simp; done) | (simp; omega) | omega) _ | refine Below.alloc ?_ (by first | (simp; done) | (simp; omega) | omega) _)) b1
      have B1 := Lib.hid d1
      clear b1 d1
      go_wp2_with fail
      go_ret2
      exact ⟨rfl, (by have hz := B1.out.size; repeat (first | exact B1.out | refine below_drewN ?_ _ | refine Below.drew ?_ | refine Below.setCell ?_ (by first | omega | (simp; done) | (simp; omega)) _ | refine Below.alloc ?_ (by first | omega | (simp; done) | (simp; omega)) _))⟩
    · rw [e] at CW
      rcases hk with rfl | rfl | rfl
      · rw [Yr.to_of (l2 e), if_neg (by decide)]
        clear e hn l1 l2 l3 l4
        go_enter Tryz.func30, Tryz.ntmps30
        go_wp2_with fail
        refine (CN.out _).mono ?_; rintro e v1 ⟨rfl, rfl⟩
        go_wp2_with fail
        refine (CW.out _).mono ?_; rintro e w1 ⟨rfl, b1⟩
        have d1 : Below w.heap.size w w1 := below_step (by repeat (first | exact Below.refl _ _ | refine below_drewN ?_ _ | refine Below.drew ?_ | refine Below.setCell ?_ (by first | (simp; done) | (simp; omega) | omega) _ | refine Below.alloc ?_ (by first | (simp; done) | (simp; omega) | omega) _)) b1
        have B1 := Lib.hid d1
        clear b1 d1
        go_wp2_with fail
        go_ret2
        exact ⟨rfl, (by have hz := B1.out.size; repeat (first | exact B1.out | refine below_drewN ?_ _ | refine Below.drew ?_ | refine Below.setCell ?_ (by first | omega | (simp; done) | (simp; omega)) _ | refine Below.alloc ?_ (by first | omega | (simp; done) | (simp; omega)) _))⟩
      · rw [Yr.to_of (l3 e), if_pos rfl]
        clear e hn l1 l2 l3 l4
        by_cases hf : f ≤ 32767
        · rw [if_pos hf]
          have gf : ¬ 32767 < f := by omega
          go_enter Tryz.func30, Tryz.ntmps30
          go_wp2_with fail
          refine (CN.out _).mono ?_; rintro e v1 ⟨rfl, rfl⟩
          go_wp2_with fail
          refine (CW.out _).mono ?_; rintro e w1 ⟨rfl, b1⟩
          have d1 : Below w.heap.size w w1 := below_step (by repeat (first | exact Below.refl _ _ | refine below_drewN ?_ _ | refine Below.drew ?_ | refine Below.setCell ?_ (by first | (simp; done) | (simp; omega) | omega) _ | refine Below.alloc ?_ (by first | (simp; done) | (simp; omega) | omega) _)) b1
          have B1 := Lib.hid d1
          clear b1 d1
          go_wp2_with fail
          go_ret2
          exact ⟨rfl, (by have hz := B1.out.size; repeat (first | exact B1.out | refine below_drewN ?_ _ | refine Below.drew ?_ | refine Below.setCell ?_ (by first | omega | (simp; done) | (simp; omega)) _ | refine Below.alloc ?_ (by first | omega | (simp; done) | (simp; omega)) _))⟩
        · rw [if_neg hf]
          have gf : 32767 < f := by omega
          go_enter Tryz.func30, Tryz.ntmps30
          go_wp2_with fail
          refine (CN.out _).mono ?_; rintro e v1 ⟨rfl, rfl⟩
          go_wp2_with fail
          refine (CW.out _).mono ?_; rintro e w1 ⟨rfl, b1⟩
          have d1 : Below w.heap.size w w1 := below_step (by repeat (first | exact Below.refl _ _ | refine below_drewN ?_ _ | refine Below.drew ?_ | refine Below.setCell ?_ (by first | (simp; done) | (simp; omega) | omega) _ | refine Below.alloc ?_ (by first | (simp; done) | (simp; omega) | omega) _)) b1
          have B1 := Lib.hid d1
          clear b1 d1
          go_wp2_with fail
          go_ret2
          exact ⟨rfl, (by have hz := B1.out.size; repeat (first | exact B1.out | refine below_drewN ?_ _ | refine Below.drew ?_ | refine Below.setCell ?_ (by first | omega | (simp; done) | (simp; omega)) _ | refine Below.alloc ?_ (by first | omega | (simp; done) | (simp; omega)) _))⟩
      · rw [Yr.to_of (l4 e), if_pos rfl, if_pos (Int.le_refl _)]
        clear e hn l1 l2 l3 l4
        go_enter Tryz.func30, Tryz.ntmps30
        go_wp2_with fail
        refine (CN.out _).mono ?_; rintro e v1 ⟨rfl, rfl⟩
        go_wp2_with fail
        refine (CW.out _).mono ?_; rintro e w1 ⟨rfl, b1⟩
        have d1 : Below w.heap.size w w1 := below_step (by repeat (first | exact Below.refl _ _ | refine below_drewN ?_ _ | refine Below.drew ?_ | refine Below.setCell ?_ (by first | (simp; done) | (simp; omega) | omega) _ | refine Below.alloc ?_ (by first | (simp; done) | (simp; omega) | omega) _)) b1
        have B1 := Lib.hid d1
        clear b1 d1
        go_wp2_with fail
        go_ret2
        exact ⟨rfl, (by have hz := B1.out.size; repeat (first | exact B1.out | refine below_drewN ?_ _ | refine Below.drew ?_ | refine Below.setCell ?_ (by first | omega | (simp; done) | (simp; omega)) _ | refine Below.alloc ?_ (by first | omega | (simp; done) | (simp; omega)) _))⟩
  · rw [hn] at CN
    have el : Yr.la s.data.toList f = ((Yr.num s.data.toList).1, (Yr.num s.data.toList).2) := by unfold Yr.la; rw [hn]; rfl
    rw [Yr.to_of el]
    have CR := Lib.hid (fun W => rynum_any s W hs)
    clear el
    generalize (Yr.num s.data.toList).1 = x at CR ⊢
    generalize (Yr.num s.data.toList).2 = q at CR ⊢
    clear hn
    by_cases hq : q = 0
    · subst hq
      rw [if_pos rfl]
      by_cases hf : f ≤ x
      · rw [if_pos hf]
        have gf : ¬ x < f := by omega
        go_enter Tryz.func30, Tryz.ntmps30
        go_wp2_with fail
        refine (CN.out _).mono ?_; rintro e v1 ⟨rfl, rfl⟩
        go_wp2_with fail
        refine (CR.out _).mono ?_; rintro e v2 ⟨rfl, rfl⟩
        go_wp2_with fail
        go_ret2
        exact ⟨rfl, (by repeat (first | exact Below.refl _ _ | refine below_drewN ?_ _ | refine Below.drew ?_ | refine Below.setCell ?_ (by first | (simp; done) | (simp; omega) | omega) _ | refine Below.alloc ?_ (by first | (simp; done) | (simp; omega) | omega) _))⟩
      · rw [if_neg hf]
        have gf : x < f := by omega
        go_enter Tryz.func30, Tryz.ntmps30
        go_wp2_with fail
        refine (CN.out _).mono ?_; rintro e v1 ⟨rfl, rfl⟩
        go_wp2_with fail
        refine (CR.out _).mono ?_; rintro e v2 ⟨rfl, rfl⟩
        go_wp2_with fail
        go_ret2
        exact ⟨rfl, (by repeat (first | exact Below.refl _ _ | refine below_drewN ?_ _ | refine Below.drew ?_ | refine Below.setCell ?_ (by first | (simp; done) | (simp; omega) | omega) _ | refine Below.alloc ?_ (by first | (simp; done) | (simp; omega) | omega) _))⟩
    · rw [if_neg hq]
      have g1 : (q == 0) = false := beq_eq_false_iff_ne.2 hq
      have g2 : (q != 0) = true := by unfold bne; rw [g1]; rfl
      go_enter Tryz.func30, Tryz.ntmps30
      go_wp2_with fail
      refine (CN.out _).mono ?_; rintro e v1 ⟨rfl, rfl⟩
      go_wp2_with fail
      refine (CR.out _).mono ?_; rintro e v2 ⟨rfl, rfl⟩
      go_wp2_with fail
      go_ret2
      exact ⟨rfl, (by repeat (first | exact Below.refl _ _ | refine below_drewN ?_ _ | refine Below.drew ?_ | refine Below.setCell ?_ (by first | (simp; done) | (simp; omega) | omega) _ | refine Below.alloc ?_ (by first | (simp; done) | (simp; omega) | omega) _))⟩
set_option maxHeartbeats 1000000 in
theorem ryft_any (y : Int) (w : World) (y0 : -9223372036854775808 ≤ y) (y1 : y ≤ 9223372036854775807) :
    Calls Tryz.prog 46 #[.int .i64 y] w fun e w' => e = .returned (.tuple #[.string (Yr.ft y).1, .int .i64 (Yr.ft y).2]) ∧ Below w.heap.size w w' := by
  have CT : Hid (Calls Tryz.prog 70 #[.int .i64 y] w fun e w' => e = .returned (.string (Yr.tI y)) ∧ Below w.heap.size w w') := rtext_any y w y0 y1
  have CI := Lib.hid (fun W => ryear_any y W)
  unfold Yr.ft
  cases hi : Yr.inY y
  · rw [hi] at CI
    simp only [Bool.false_eq_true, if_false]
    go_enter Tryz.func46, Tryz.ntmps46
    go_wp2_with fail
    refine (CI.out _).mono ?_; rintro e v1 ⟨rfl, rfl⟩
    go_wp2_with fail
    go_ret2
    exact ⟨rfl, (by repeat (first | exact Below.refl _ _ | refine below_drewN ?_ _ | refine Below.drew ?_ | refine Below.setCell ?_ (by first | (simp; done) | (simp; omega) | omega) _ | refine Below.alloc ?_ (by first | (simp; done) | (simp; omega) | omega) _))⟩
  · rw [hi] at CI
    simp only [if_true]
    by_cases h1 : y = -32767
    · subst h1
      rw [if_pos rfl]
      go_enter Tryz.func46, Tryz.ntmps46
      go_wp2_with fail
      refine (CI.out _).mono ?_; rintro e v1 ⟨rfl, rfl⟩
      go_wp2_with fail
      go_ret2
      exact ⟨rfl, (by repeat (first | exact Below.refl _ _ | refine below_drewN ?_ _ | refine Below.drew ?_ | refine Below.setCell ?_ (by first | (simp; done) | (simp; omega) | omega) _ | refine Below.alloc ?_ (by first | (simp; done) | (simp; omega) | omega) _))⟩
    · rw [if_neg h1]
      have g1 : (y == -32767) = false := beq_eq_false_iff_ne.2 h1
      clear h1
      generalize Yr.tI y = T at CT ⊢
      go_enter Tryz.func46, Tryz.ntmps46
      go_wp2_with fail
      refine (CI.out _).mono ?_; rintro e v1 ⟨rfl, rfl⟩
      go_wp2_with fail
      refine (CT.out).mono ?_; rintro e w1 ⟨rfl, b1⟩
      have d1 : Below w.heap.size w w1 := below_step (by repeat (first | exact Below.refl _ _ | refine below_drewN ?_ _ | refine Below.drew ?_ | refine Below.setCell ?_ (by first | (simp; done) | (simp; omega) | omega) _ | refine Below.alloc ?_ (by first | (simp; done) | (simp; omega) | omega) _)) b1
      have B1 := Lib.hid d1
      clear b1 d1
      go_wp2_with fail
      go_ret2
      exact ⟨rfl, (by have hz := B1.out.size; repeat (first | exact B1.out | refine below_drewN ?_ _ | refine Below.drew ?_ | refine Below.setCell ?_ (by first | omega | (simp; done) | (simp; omega)) _ | refine Below.alloc ?_ (by first | omega | (simp; done) | (simp; omega)) _))⟩
set_option maxHeartbeats 1000000 in
theorem rytt_any (f y : Int) (w : World) (y0 : -9223372036854775808 ≤ y) (y1 : y ≤ 9223372036854775807) :
    Calls Tryz.prog 47 #[.int .i64 f, .int .i64 y] w fun e w' => e = .returned (.tuple #[.string (Yr.tt f y).1, .int .i64 (Yr.tt f y).2]) ∧ Below w.heap.size w w' := by
  have CT : Hid (Calls Tryz.prog 70 #[.int .i64 y] w fun e w' => e = .returned (.string (Yr.tI y)) ∧ Below w.heap.size w w') := rtext_any y w y0 y1
  have CI := Lib.hid (fun W => ryear_any y W)
  unfold Yr.tt
  cases hi : Yr.inY y
  · rw [hi] at CI
    simp only [Bool.false_eq_true, if_false]
    go_enter Tryz.func47, Tryz.ntmps47
    go_wp2_with fail
    refine (CI.out _).mono ?_; rintro e v1 ⟨rfl, rfl⟩
    go_wp2_with fail
    go_ret2
    exact ⟨rfl, (by repeat (first | exact Below.refl _ _ | refine below_drewN ?_ _ | refine Below.drew ?_ | refine Below.setCell ?_ (by first | (simp; done) | (simp; omega) | omega) _ | refine Below.alloc ?_ (by first | (simp; done) | (simp; omega) | omega) _))⟩
  · rw [hi] at CI
    simp only [if_true]
    by_cases h0 : y < f
    · rw [if_pos h0]
      go_enter Tryz.func47, Tryz.ntmps47
      go_wp2_with fail
      refine (CI.out _).mono ?_; rintro e v1 ⟨rfl, rfl⟩
      go_wp2_with fail
      go_ret2
      exact ⟨rfl, (by repeat (first | exact Below.refl _ _ | refine below_drewN ?_ _ | refine Below.drew ?_ | refine Below.setCell ?_ (by first | (simp; done) | (simp; omega) | omega) _ | refine Below.alloc ?_ (by first | (simp; done) | (simp; omega) | omega) _))⟩
    rw [if_neg h0]
    by_cases h1 : y = f
    · subst h1
      rw [if_pos rfl]
      go_enter Tryz.func47, Tryz.ntmps47
      go_wp2_with fail
      refine (CI.out _).mono ?_; rintro e v1 ⟨rfl, rfl⟩
      go_wp2_with fail
      go_ret2
      exact ⟨rfl, (by repeat (first | exact Below.refl _ _ | refine below_drewN ?_ _ | refine Below.drew ?_ | refine Below.setCell ?_ (by first | (simp; done) | (simp; omega) | omega) _ | refine Below.alloc ?_ (by first | (simp; done) | (simp; omega) | omega) _))⟩
    rw [if_neg h1]
    have g1 : (y == f) = false := beq_eq_false_iff_ne.2 h1
    by_cases h2 : y = 32767
    · subst h2
      rw [if_pos rfl]
      clear h1
      go_enter Tryz.func47, Tryz.ntmps47
      go_wp2_with fail
      refine (CI.out _).mono ?_; rintro e v1 ⟨rfl, rfl⟩
      go_wp2_with fail
      go_ret2
      exact ⟨rfl, (by repeat (first | exact Below.refl _ _ | refine below_drewN ?_ _ | refine Below.drew ?_ | refine Below.setCell ?_ (by first | (simp; done) | (simp; omega) | omega) _ | refine Below.alloc ?_ (by first | (simp; done) | (simp; omega) | omega) _))⟩
    · rw [if_neg h2]
      have g2 : (y == 32767) = false := beq_eq_false_iff_ne.2 h2
      clear h1 h2
      generalize Yr.tI y = T at CT ⊢
      go_enter Tryz.func47, Tryz.ntmps47
      go_wp2_with fail
      refine (CI.out _).mono ?_; rintro e v1 ⟨rfl, rfl⟩
      go_wp2_with fail
      refine (CT.out).mono ?_; rintro e w1 ⟨rfl, b1⟩
      have d1 : Below w.heap.size w w1 := below_step (by repeat (first | exact Below.refl _ _ | refine below_drewN ?_ _ | refine Below.drew ?_ | refine Below.setCell ?_ (by first | (simp; done) | (simp; omega) | omega) _ | refine Below.alloc ?_ (by first | (simp; done) | (simp; omega) | omega) _)) b1
      have B1 := Lib.hid d1
      clear b1 d1
      go_wp2_with fail
      go_ret2
      exact ⟨rfl, (by have hz := B1.out.size; repeat (first | exact B1.out | refine below_drewN ?_ _ | refine Below.drew ?_ | refine Below.setCell ?_ (by first | omega | (simp; done) | (simp; omega)) _ | refine Below.alloc ?_ (by first | omega | (simp; done) | (simp; omega)) _))⟩
end Go.Proofs.YtedbohfcbfegjaaGreatDoor
