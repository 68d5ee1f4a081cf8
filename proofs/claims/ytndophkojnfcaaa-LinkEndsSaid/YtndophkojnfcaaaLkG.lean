/- Links, in plain lists: where a name leads, where one comes out; lists of links in memory. -/
import Derived.Test.YtndophkojnfcaaaLkC
set_option linter.unusedVariables false
set_option linter.unusedSimpArgs false
namespace Go.Proofs.Ytndophkojnfcaaa
open Go.RowKit Go.Sort

namespace Lk
/-- Where a name leads: of several links the first one. -/
def fst : List (ByteArray × ByteArray) → List UInt8 → Option ByteArray
  | [], _ => none
  | p :: r, s => if p.2.data.toList = s then some p.1 else fst r s
theorem fst_app (l : List (ByteArray × ByteArray)) (p : ByteArray × ByteArray) (s : List UInt8) : fst (l ++ [p]) s = match fst l s with | some y => some y | none => if p.2.data.toList = s then some p.1 else none := by
  induction l with
  | nil => rfl
  | cons q r ih =>
    rw [List.cons_append]
    unfold fst
    by_cases h : q.2.data.toList = s
    · rw [if_pos h, if_pos h]
    · rw [if_neg h, if_neg h, ih]
/-- Where one comes out, in so many steps. -/
def flw (st : List UInt8 → Option ByteArray) : Nat → ByteArray → Option ByteArray
  | 0, _ => none
  | f + 1, x => match st x.data.toList with
    | none => some x
    | some y => flw st f y
def dp (st : List UInt8 → Option ByteArray) : Nat → List UInt8 → Bool
  | 0, _ => false
  | f + 1, s => match st s with
    | none => true
    | some y => dp st f y.data.toList
theorem flw_dp (st : List UInt8 → Option ByteArray) : ∀ (f : Nat) (x : ByteArray), (flw st f x).isSome = dp st f x.data.toList
  | 0, _ => rfl
  | f + 1, x => by
    unfold flw dp
    cases h : st x.data.toList with
    | none => rfl
    | some y => exact flw_dp st f y
theorem flw_next (st : List UInt8 → Option ByteArray) : ∀ (f : Nat) (x y : ByteArray), flw st f x = some y → flw st (f + 1) x = some y
  | 0, _, _, h => by cases h
  | f + 1, x, y, h => by
    unfold flw at h ⊢
    cases hs : st x.data.toList with
    | none => rw [hs] at h; exact h
    | some z =>
      rw [hs] at h
      exact flw_next st f z y h
theorem flw_more (st : List UInt8 → Option ByteArray) (f : Nat) (x y : ByteArray) (h : flw st f x = some y) : ∀ k, flw st (f + k) x = some y
  | 0 => h
  | k + 1 => flw_next st (f + k) x y (flw_more st f x y h k)
theorem dp_next (st : List UInt8 → Option ByteArray) : ∀ (f : Nat) (s : List UInt8), dp st f s = true → dp st (f + 1) s = true
  | 0, _, h => by cases h
  | f + 1, s, h => by
    unfold dp at h ⊢
    cases hs : st s with
    | none => rfl
    | some z =>
      rw [hs] at h
      exact dp_next st f _ h
theorem dp_more (st : List UInt8 → Option ByteArray) (f : Nat) (s : List UInt8) (h : dp st f s = true) : ∀ k, dp st (f + k) s = true
  | 0 => h
  | k + 1 => dp_next st (f + k) s (dp_more st f s h k)
theorem dp_path (st : List UInt8 → Option ByteArray) : ∀ (m : Nat) (s : List UInt8), dp st (m + 1) s = true → dp st m s = false → ∃ L : List (List UInt8), L.length = m ∧ L.Nodup ∧ ∀ v ∈ L, (st v).isSome = true ∧ ∃ j, j ≤ m ∧ dp st (j + 1) v = true
  | 0, s, _, _ => ⟨[], rfl, List.nodup_nil, fun v hv => by cases hv⟩
  | m + 1, s, h1, h2 => by
    cases hs : st s with
    | none => unfold dp at h2; rw [hs] at h2; cases h2
    | some y =>
      have g1 : dp st (m + 1) y.data.toList = true := by unfold dp at h1; rw [hs] at h1; exact h1
      have g2 : dp st m y.data.toList = false := by unfold dp at h2; rw [hs] at h2; exact h2
      obtain ⟨L, hl, hn, hv⟩ := dp_path st m y.data.toList g1 g2
      refine ⟨s :: L, by rw [List.length_cons, hl], List.nodup_cons.2 ⟨fun hm => ?_, hn⟩, fun v hm => ?_⟩
      · obtain ⟨_, j, hj, hd⟩ := hv s hm
        have := dp_more st (j + 1) s hd (m - j)
        rw [show j + 1 + (m - j) = m + 1 by omega] at this
        rw [this] at h2; cases h2
      · rcases List.mem_cons.1 hm with rfl | hm
        · exact ⟨by rw [hs]; rfl, m + 1, Nat.le_refl _, h1⟩
        · obtain ⟨a, j, hj, hd⟩ := hv v hm
          exact ⟨a, j, by omega, hd⟩
theorem nodup_le : ∀ (L K : List (List UInt8)), L.Nodup → (∀ x ∈ L, x ∈ K) → L.length ≤ K.length
  | [], K, _, _ => Nat.zero_le _
  | x :: L, K, hn, h => by
    have hx := h x (List.mem_cons_self ..)
    obtain ⟨h1, h2⟩ := List.nodup_cons.1 hn
    have := nodup_le L (K.erase x) h2 (fun y hy => (List.mem_erase_of_ne (fun e => h1 (by rw [← e]; exact hy))).2 (h y (List.mem_cons_of_mem _ hy)))
    rw [List.length_erase_of_mem hx] at this
    have : 0 < K.length := List.length_pos_of_mem hx
    rw [List.length_cons]; omega
theorem step_between (p : Nat → Bool) : ∀ (n a : Nat), p a = false → p (a + n) = true → ∃ m, a ≤ m ∧ m < a + n ∧ p m = false ∧ p (m + 1) = true
  | 0, a, h1, h2 => by rw [Nat.add_zero, h1] at h2; cases h2
  | n + 1, a, h1, h2 => by
    cases h : p (a + n)
    · exact ⟨a + n, by omega, by omega, h, h2⟩
    · obtain ⟨m, x, y, z⟩ := step_between p n a h1 h
      exact ⟨m, x, by omega, z⟩
/-- Who goes a step from more names than there are to go from does not come out. -/
theorem flw_enough (st : List UInt8 → Option ByteArray) (K : List (List UInt8)) (hK : ∀ s, (st s).isSome = true → s ∈ K) (N : Nat) (hN : K.length ≤ N) (x : ByteArray) : flw st (K.length + 1) x = flw st (N + 1) x := by
  cases h : flw st (K.length + 1) x with
  | some y =>
    have := flw_more st _ x y h (N - K.length)
    rw [show K.length + 1 + (N - K.length) = N + 1 by omega] at this
    exact this.symm
  | none =>
    cases h2 : flw st (N + 1) x with
    | none => rfl
    | some y =>
      exfalso
      have d1 : dp st (K.length + 1) x.data.toList = false := by rw [← flw_dp, h]; rfl
      have d2 : dp st (K.length + 1 + (N - K.length)) x.data.toList = true := by rw [show K.length + 1 + (N - K.length) = N + 1 by omega, ← flw_dp, h2]; rfl
      obtain ⟨m, hm1, hm2, hm3, hm4⟩ := step_between (fun f => dp st f x.data.toList) _ _ d1 d2
      obtain ⟨L, hl, hn, hv⟩ := dp_path st m x.data.toList hm4 hm3
      have := nodup_le L K hn (fun v hm => hK v (hv v hm).1)
      omega
/-- Links as cells. -/
def cs (l : List (ByteArray × ByteArray)) : List Value := l.flatMap fun p => [.string p.1, .string p.2]
theorem cs_at (l : List (ByteArray × ByteArray)) (k : Nat) (h : k < l.length) : (cs l)[k * 2]? = some (.string l[k].1) ∧ (cs l)[k * 2 + 1]? = some (.string l[k].2) := by
  induction l generalizing k with
  | nil => exact absurd h (by simp)
  | cons p l ih =>
    cases k with
    | zero => exact ⟨rfl, rfl⟩
    | succ k =>
      have := ih k (by simpa using h)
      have e : cs (p :: l) = .string p.1 :: .string p.2 :: cs l := rfl
      rw [e]
      rw [show (k + 1) * 2 = k * 2 + 1 + 1 by omega]
      simpa using this
theorem cs_app (l k : List (ByteArray × ByteArray)) : cs (l ++ k) = cs l ++ cs k := by unfold cs; rw [List.flatMap_append]
/-- What is told of where one comes out. -/
def ans : Option ByteArray → ByteArray × Int
  | none => (⟨#[]⟩, 13)
  | some y => (y, 0)
end Lk
/-- A value that reads as a list of links. -/
def LkS (w : World) (v : Value) (l : List (ByteArray × ByteArray)) : Prop := Lst w w.heap.size v l.length (Lk.cs l)
theorem LkS.on {w w' : World} {v : Value} {l : List (ByteArray × ByteArray)} (h : LkS w v l) (k : Below w.heap.size w w') : LkS w' v l := Lst.on h k
theorem LkS.get {w : World} {A : Option Addr} {n c : Nat} {l : List (ByteArray × ByteArray)} (h : LkS w (.slice A n c) l) (k : Nat) (hk : k < l.length) : ∃ a, A = some a ∧ a.block < w.heap.size ∧ w.cell? (a.add (k * 2)) = some (.string l[k].1) ∧ w.cell? ⟨(a.add (k * 2)).block, (a.add (k * 2)).off + 1, none⟩ = some (.string l[k].2) := by
  obtain ⟨A', c', hv, ha⟩ := h
  cases hv
  obtain ⟨a, e, hb, hc⟩ := ha (by omega)
  obtain ⟨h1, h2⟩ := Lk.cs_at l k hk
  refine ⟨a, e, hb, hc _ _ h1, ?_⟩
  have e : (⟨(a.add (k * 2)).block, (a.add (k * 2)).off + 1, none⟩ : Addr) = a.add (k * 2 + 1) := by rw [← add_two]; rfl
  rw [e]
  exact hc _ _ h2
theorem LkS.len {w : World} {A : Option Addr} {n c : Nat} {l : List (ByteArray × ByteArray)} (h : LkS w (.slice A n c) l) : n = l.length := by
  obtain ⟨A', c', hv, _⟩ := h
  cases hv; rfl
end Go.Proofs.Ytndophkojnfcaaa
