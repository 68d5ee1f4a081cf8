/- Links: Right and Fields, of both sides. -/
import Derived.Test.YtndophkojnfcaaaLkB
set_option linter.unusedVariables false
set_option linter.unusedSimpArgs false
namespace Go.Proofs.Ytndophkojnfcaaa
open Go.RowKit Go.Sort

namespace Lk
def rt (a b : ByteArray) : Bool := decide (nm a.data.toList = 0) && decide (nm b.data.toList = 0) && !decide (a = b)
def fs (a b : ByteArray) : List (List UInt8) × Int := if rt a b = true then ([a.data.toList, b.data.toList], 0) else ([], 4)
end Lk
theorem str_ne {a b : ByteArray} (h : ¬ a = b) : (¬ a.toList = b.toList) ∧ (a.toList == b.toList) = false := by
  have h1 : ¬ a.toList = b.toList := fun e => h (by rw [ByteArray.toList_eq, ByteArray.toList_eq] at e; exact ByteArray.ext (Array.toList_inj.1 e))
  exact ⟨h1, by rw [beq_eq_false_iff_ne]; exact h1⟩
theorem StS.two (W : World) (a b : ByteArray) (t : TypeId) (c : Nat) : StS (W.alloc (.cells #[.string a, .string b] t)) (.slice (some ⟨W.heap.size, 0, none⟩) 2 c) [a, b] :=
  ⟨_, _, rfl, fun _ => ⟨_, rfl, by simp, by
    intro j u hj
    rw [show (⟨W.heap.size, 0, none⟩ : Addr).add j = ⟨W.heap.size, j, none⟩ by simp [Addr.add]; exact fun h => h.symm]
    rw [Lib.cell_of_heap (heap_alloc_new W _)]
    match j, hj with
    | 0, hj => simp at hj; subst hj; rfl
    | 1, hj => simp at hj; subst hj; rfl⟩⟩
set_option maxHeartbeats 1000000 in
set_option maxRecDepth 100000 in
theorem pright_any (a b : ByteArray) (w : World) (ha : a.size ≤ maxLen) (hb : b.size ≤ maxLen) :
    Calls Try.prog 40 #[.agg #[.string a, .string b]] w fun e w' => e = .returned (.bool (Lk.rt a b)) ∧ Below w.heap.size w w' := by
  have NA := Lib.hid (fun W => rname_any a W ha)
  have NB := Lib.hid (fun W => rname_any b W hb)
  unfold Lk.rt
  clear ha hb
  by_cases hab : a = b
  · subst hab
    clear NB
    generalize Lk.nm a.data.toList = x at NA ⊢
    by_cases hx : x = 0
    · subst hx
      go_enter Try.func40, Try.ntmps40
      go_wp2_with fail
      refine (NA.out _).mono ?_; rintro e w1 ⟨rfl, rfl⟩
      go_wp2_with fail
      refine (NA.out _).mono ?_; rintro e w2 ⟨rfl, rfl⟩
      go_wp2_with fail
      go_ret
      exact ⟨by simp, (Below.refl _ _).alloc (Nat.le_refl _) _⟩
    · have gx : (x == 0) = false := by rw [beq_eq_false_iff_ne]; exact hx
      rw [decide_eq_false hx, Bool.false_and, Bool.false_and]
      clear hx
      go_enter Try.func40, Try.ntmps40
      go_wp2_with fail
      refine (NA.out _).mono ?_; rintro e w1 ⟨rfl, rfl⟩
      go_wp2_with fail
      go_ret
      exact ⟨rfl, (Below.refl _ _).alloc (Nat.le_refl _) _⟩
  · obtain ⟨n1, n2⟩ := str_ne hab
    rw [decide_eq_false hab]
    generalize Lk.nm a.data.toList = x at NA ⊢
    generalize Lk.nm b.data.toList = y at NB ⊢
    clear hab
    by_cases hx : x = 0
    · subst hx
      by_cases hy : y = 0
      · subst hy
        go_enter Try.func40, Try.ntmps40
        go_wp2_with fail
        refine (NA.out _).mono ?_; rintro e w1 ⟨rfl, rfl⟩
        go_wp2_with fail
        refine (NB.out _).mono ?_; rintro e w2 ⟨rfl, rfl⟩
        go_wp2_with fail
        go_ret
        exact ⟨rfl, (Below.refl _ _).alloc (Nat.le_refl _) _⟩
      · have gy : (y == 0) = false := by rw [beq_eq_false_iff_ne]; exact hy
        rw [decide_eq_false hy, Bool.and_false, Bool.false_and]
        clear hy
        go_enter Try.func40, Try.ntmps40
        go_wp2_with fail
        refine (NA.out _).mono ?_; rintro e w1 ⟨rfl, rfl⟩
        go_wp2_with fail
        refine (NB.out _).mono ?_; rintro e w2 ⟨rfl, rfl⟩
        go_wp2_with fail
        go_ret
        exact ⟨rfl, (Below.refl _ _).alloc (Nat.le_refl _) _⟩
    · have gx : (x == 0) = false := by rw [beq_eq_false_iff_ne]; exact hx
      rw [decide_eq_false hx, Bool.false_and, Bool.false_and]
      clear hx
      go_enter Try.func40, Try.ntmps40
      go_wp2_with fail
      refine (NA.out _).mono ?_; rintro e w1 ⟨rfl, rfl⟩
      go_wp2_with fail
      go_ret
      exact ⟨rfl, (Below.refl _ _).alloc (Nat.le_refl _) _⟩
set_option maxHeartbeats 1000000 in
set_option maxRecDepth 100000 in
theorem pfields_any (a b : ByteArray) (w : World) (ha : a.size ≤ maxLen) (hb : b.size ≤ maxLen) :
    Calls Try.prog 36 #[.agg #[.string a, .string b]] w (AnsF (Lk.fs a b) w) := by
  have R := Lib.hid (fun W => pright_any a b W ha hb)
  unfold Lk.fs
  clear ha hb
  generalize Lk.rt a b = q at R ⊢
  cases q
  · rw [if_neg (by decide)]
    go_enter Try.func36, Try.ntmps36
    go_wp2_with fail
    refine (R.out _).mono ?_; rintro e w1 ⟨rfl, b1⟩
    have B1 := Lib.hid (below_step ((Below.refl _ _).alloc (Nat.le_refl _) _) b1)
    clear b1
    go_wp2_with fail
    go_ret2
    exact ⟨_, [], StS.nil _, rfl, rfl, B1.out⟩
  · rw [if_pos rfl]
    go_enter Try.func36, Try.ntmps36
    go_wp2_with fail
    refine (R.out _).mono ?_; rintro e w1 ⟨rfl, b1⟩
    have B1 := Lib.hid (below_step ((Below.refl _ _).alloc (Nat.le_refl _) _) b1)
    have Q1 : Bk2 w1 w.heap.size (.string a) (.string b) := Bk2.of b1 (by simp) (by intro j; simp [go_sem]) (by simp [go_sem]) (by simp [go_sem])
    have c_b := Q1.hb; have c_f := Q1.fz; have c_0 := Q1.k0; have c_1 := Q1.k1
    clear b1 Q1
    go_wp2_with fail
    go_ret2
    exact ⟨_, [a, b], StS.two _ _ _ _ _, rfl, rfl, B1.out.alloc B1.out.size _⟩
set_option maxHeartbeats 1000000 in
set_option maxRecDepth 100000 in
theorem rright_any (a b : ByteArray) (w : World) (ha : a.size ≤ maxLen) (hb : b.size ≤ maxLen) :
    Calls Try.prog 41 #[.agg #[.string a, .string b]] w fun e w' => e = .returned (.bool (Lk.rt a b)) ∧ Below w.heap.size w w' := by
  have NA := Lib.hid (fun W => rrname_any a W ha)
  have NB := Lib.hid (fun W => rrname_any b W hb)
  unfold Lk.rt
  clear ha hb
  by_cases hab : a = b
  · subst hab
    clear NB
    generalize Lk.nm a.data.toList = x at NA ⊢
    by_cases hx : x = 0
    · subst hx
      go_enter Try.func41, Try.ntmps41
      go_wp2_with fail
      refine (NA.out _).mono ?_; rintro e w1 ⟨rfl, rfl⟩
      go_wp2_with fail
      refine (NA.out _).mono ?_; rintro e w2 ⟨rfl, rfl⟩
      go_wp2_with fail
      go_ret
      exact ⟨by simp, (Below.refl _ _).alloc (Nat.le_refl _) _⟩
    · have gx : (x == 0) = false := by rw [beq_eq_false_iff_ne]; exact hx
      rw [decide_eq_false hx, Bool.false_and, Bool.false_and]
      clear hx
      go_enter Try.func41, Try.ntmps41
      go_wp2_with fail
      refine (NA.out _).mono ?_; rintro e w1 ⟨rfl, rfl⟩
      go_wp2_with fail
      go_ret
      exact ⟨rfl, (Below.refl _ _).alloc (Nat.le_refl _) _⟩
  · obtain ⟨n1, n2⟩ := str_ne hab
    rw [decide_eq_false hab]
    generalize Lk.nm a.data.toList = x at NA ⊢
    generalize Lk.nm b.data.toList = y at NB ⊢
    clear hab
    by_cases hx : x = 0
    · subst hx
      by_cases hy : y = 0
      · subst hy
        go_enter Try.func41, Try.ntmps41
        go_wp2_with fail
        refine (NA.out _).mono ?_; rintro e w1 ⟨rfl, rfl⟩
        go_wp2_with fail
        refine (NB.out _).mono ?_; rintro e w2 ⟨rfl, rfl⟩
        go_wp2_with fail
        go_ret
        exact ⟨rfl, (Below.refl _ _).alloc (Nat.le_refl _) _⟩
      · have gy : (y == 0) = false := by rw [beq_eq_false_iff_ne]; exact hy
        rw [decide_eq_false hy, Bool.and_false, Bool.false_and]
        clear hy
        go_enter Try.func41, Try.ntmps41
        go_wp2_with fail
        refine (NA.out _).mono ?_; rintro e w1 ⟨rfl, rfl⟩
        go_wp2_with fail
        refine (NB.out _).mono ?_; rintro e w2 ⟨rfl, rfl⟩
        go_wp2_with fail
        go_ret
        exact ⟨rfl, (Below.refl _ _).alloc (Nat.le_refl _) _⟩
    · have gx : (x == 0) = false := by rw [beq_eq_false_iff_ne]; exact hx
      rw [decide_eq_false hx, Bool.false_and, Bool.false_and]
      clear hx
      go_enter Try.func41, Try.ntmps41
      go_wp2_with fail
      refine (NA.out _).mono ?_; rintro e w1 ⟨rfl, rfl⟩
      go_wp2_with fail
      go_ret
      exact ⟨rfl, (Below.refl _ _).alloc (Nat.le_refl _) _⟩
set_option maxHeartbeats 1000000 in
set_option maxRecDepth 100000 in
theorem rfields_any (a b : ByteArray) (w : World) (ha : a.size ≤ maxLen) (hb : b.size ≤ maxLen) :
    Calls Try.prog 37 #[.agg #[.string a, .string b]] w (AnsF (Lk.fs a b) w) := by
  have R := Lib.hid (fun W => rright_any a b W ha hb)
  unfold Lk.fs
  clear ha hb
  generalize Lk.rt a b = q at R ⊢
  cases q
  · rw [if_neg (by decide)]
    go_enter Try.func37, Try.ntmps37
    go_wp2_with fail
    refine (R.out _).mono ?_; rintro e w1 ⟨rfl, b1⟩
    have B1 := Lib.hid (below_step ((Below.refl _ _).alloc (Nat.le_refl _) _) b1)
    clear b1
    go_wp2_with fail
    go_ret2
    exact ⟨_, [], StS.nil _, rfl, rfl, B1.out⟩
  · rw [if_pos rfl]
    go_enter Try.func37, Try.ntmps37
    go_wp2_with fail
    refine (R.out _).mono ?_; rintro e w1 ⟨rfl, b1⟩
    have B1 := Lib.hid (below_step ((Below.refl _ _).alloc (Nat.le_refl _) _) b1)
    have Q1 : Bk2 w1 w.heap.size (.string a) (.string b) := Bk2.of b1 (by simp) (by intro j; simp [go_sem]) (by simp [go_sem]) (by simp [go_sem])
    have c_b := Q1.hb; have c_f := Q1.fz; have c_0 := Q1.k0; have c_1 := Q1.k1
    clear b1 Q1
    go_wp2_with fail
    go_ret2
    exact ⟨_, [a, b], StS.two _ _ _ _ _, rfl, rfl, B1.out.alloc B1.out.size _⟩
end Go.Proofs.Ytndophkojnfcaaa

