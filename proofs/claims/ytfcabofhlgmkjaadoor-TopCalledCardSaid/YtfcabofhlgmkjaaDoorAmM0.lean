/- Amounts, there and back: what the written texts mean, in plain lists. -/
import Derived.Test.YtfcabofhlgmkjaaDoorAmC
set_option linter.unusedVariables false
set_option linter.unusedSimpArgs false
namespace Go.Proofs.YtfcabofhlgmkjaaDoor
open Go Go.Lib

namespace Am
def nc (l : List UInt8) : Prop := ∀ c ∈ l, c ≠ 58
theorem nc_dig {l : List UInt8} (h : l.all Num.dig = true) : nc l := by
  intro c hc e
  subst e
  have := List.all_eq_true.1 h 58 hc
  revert this; decide
theorem pre58 (c : UInt8) (l : List UInt8) : ([58] : List UInt8).isPrefixOf (c :: l) = (58 == c) := by
  rw [List.isPrefixOf, List.isPrefixOf, Bool.and_true]
theorem ix_none : ∀ l : List UInt8, nc l → index l [58] = -1 := by
  intro l
  induction l with
  | nil => intro _; rfl
  | cons c l ih =>
    intro h
    have h1 : (58 == c) = false := by rw [beq_eq_false_iff_ne]; exact fun e => h c (List.mem_cons_self ..) e.symm
    unfold index
    rw [pre58, h1, ih (fun x hx => h x (List.mem_cons_of_mem _ hx))]
    rfl
theorem ix_at : ∀ (a r : List UInt8), nc a → index (a ++ 58 :: r) [58] = (a.length : Int) := by
  intro a
  induction a with
  | nil => intro r _; rw [List.nil_append]; unfold index; rw [pre58]; rfl
  | cons c a ih =>
    intro r h
    have h1 : (58 == c) = false := by rw [beq_eq_false_iff_ne]; exact fun e => h c (List.mem_cons_self ..) e.symm
    have h2 := ih r (fun x hx => h x (List.mem_cons_of_mem _ hx))
    have h3 : ((a.length : Int) == -1) = false := by rw [beq_eq_false_iff_ne]; omega
    rw [List.cons_append]
    unfold index
    rw [pre58, h1, h2, h3]
    simp
theorem splitK_at (a r : List UInt8) (k : Nat) (h : nc a) : splitK [58] 0 (k + 1) (a ++ 58 :: r) = a :: splitK [58] 0 k r := by
  have h3 : ((a.length : Int) == -1) = false := by rw [beq_eq_false_iff_ne]; omega
  conv => lhs; unfold splitK
  rw [ix_at a r h, h3]
  simp
theorem splitK_no (k : Nat) (l : List UInt8) (h : nc l) : splitK [58] 0 k l = [l] := by
  cases k with
  | zero => rfl
  | succ k => unfold splitK; rw [ix_none l h]; rfl
theorem pcs_data (s : ByteArray) : (pcs s).map (·.data.toList) = splitK [58] 0 (min 3 (s.size + 1) - 1) s.data.toList := splitB_data _ _ _ _
theorem isK_l (s : ByteArray) (k : Nat) : isK s k = match ((pcs s).map (·.data.toList))[k]? with | some x => isP k x | none => true := by
  unfold isK
  rw [List.getElem?_map]
  cases (pcs s)[k]? <;> rfl
theorem vK_l (s : ByteArray) (k : Nat) : vK s k = match ((pcs s).map (·.data.toList))[k]? with | some x => (Num.val 0 x : Int) | none => 0 := by
  unfold vK
  rw [List.getElem?_map]
  cases (pcs s)[k]? <;> rfl
theorem pcs3 {s : ByteArray} {a b c : List UInt8} (e : s.data.toList = a ++ 58 :: (b ++ 58 :: c)) (ha : nc a) (hb : nc b) : (pcs s).map (·.data.toList) = [a, b, c] := by
  have hl : 2 ≤ s.size := by rw [← ab_len s, e]; simp; omega
  rw [pcs_data, e, show min 3 (s.size + 1) - 1 = 2 by omega, splitK_at a _ 1 ha, splitK_at b _ 0 hb]
  rfl
theorem pcs2 {s : ByteArray} {a b : List UInt8} (e : s.data.toList = a ++ 58 :: b) (hl : 2 ≤ s.size) (ha : nc a) (hb : nc b) : (pcs s).map (·.data.toList) = [a, b] := by
  rw [pcs_data, e, show min 3 (s.size + 1) - 1 = 2 by omega, splitK_at a _ 1 ha, splitK_no 1 b hb]
theorem ok3 {s : ByteArray} {a b c : List UInt8} (e : s.data.toList = a ++ 58 :: (b ++ 58 :: c)) (ha : isP 0 a = true) (hb : isP 1 b = true) (hc : isP 2 c = true) :
    okK s = true ∧ vK s 0 = (Num.val 0 a : Int) ∧ vK s 1 = (Num.val 0 b : Int) ∧ vK s 2 = (Num.val 0 c : Int) := by
  have p := pcs3 e (nc_dig (isP_size ha).1) (nc_dig (isP_size hb).1)
  refine ⟨?_, by rw [vK_l, p]; rfl, by rw [vK_l, p]; rfl, by rw [vK_l, p]; rfl⟩
  unfold okK
  rw [isK_l, isK_l, isK_l, p]
  show (isP 0 a && (isP 1 b && isP 2 c)) = true
  rw [ha, hb, hc]; rfl
theorem ok2 {s : ByteArray} {a b : List UInt8} (e : s.data.toList = a ++ 58 :: b) (ha : isP 0 a = true) (hb : isP 1 b = true) :
    okK s = true ∧ vK s 0 = (Num.val 0 a : Int) ∧ vK s 1 = (Num.val 0 b : Int) ∧ vK s 2 = 0 := by
  have hl : 2 ≤ s.size := by
    rw [← ab_len s, e]
    unfold isP at hb
    rw [Bool.and_eq_true] at hb
    have := of_decide_eq_true hb.2
    simp; omega
  have p := pcs2 e hl (nc_dig (isP_size ha).1) (nc_dig (isP_size hb).1)
  refine ⟨?_, by rw [vK_l, p]; rfl, by rw [vK_l, p]; rfl, by rw [vK_l, p]; rfl⟩
  unfold okK
  rw [isK_l, isK_l, isK_l, p]
  show (isP 0 a && (isP 1 b && true)) = true
  rw [ha, hb]; rfl
/-- The first part is none. -/
theorem no1 {s : ByteArray} {a r : List UInt8} (e : s.data.toList = a ++ 58 :: r) (ha : nc a) (hp : isP 0 a = false) : okK s = false := by
  have hl : 1 ≤ s.size := by rw [← ab_len s, e]; simp; omega
  obtain ⟨k, hk⟩ : ∃ k, min 3 (s.size + 1) - 1 = k + 1 := ⟨min 3 (s.size + 1) - 2, by omega⟩
  have p : ((pcs s).map (·.data.toList))[0]? = some a := by rw [pcs_data, e, hk, splitK_at a r k ha]; rfl
  refine okK_no (k := 0) (by omega) ?_
  rw [isK_l, p]; exact hp
theorem un_dig {t : ByteArray} {c : UInt8} {r : List UInt8} (h : t.data.toList = c :: r) (hc : c ≠ 45) : un t = t ∧ neg t = false := by
  have e : trimPrefix t.data.toList [45] = t.data.toList := by rw [h]; exact Num.tp_other c r hc
  refine ⟨?_, ?_⟩
  · unfold un; rw [e]
  · unfold neg; rw [h, Num.hp_cons]; simpa using hc
theorem un_neg {t : ByteArray} {l : List UInt8} (h : t.data.toList = 45 :: l) : un t = ⟨l.toArray⟩ ∧ neg t = true := by
  refine ⟨?_, ?_⟩
  · unfold un; rw [h, Num.tp_minus]
  · unfold neg; rw [h, Num.hp_cons]; rfl
theorem alone {t : ByteArray} (h : 2 ≤ t.size) : (t.toList == [45]) = false := by
  rw [beq_eq_false_iff_ne, ByteArray.toList_eq]
  intro e
  have := ab_len t
  rw [e] at this
  simp at this; omega
/-- What is told of three numbers read. -/
theorem rd_of {t : ByteArray} {x y z : Int} {ng : Bool} (h2 : 2 ≤ t.size) (hn : neg t = ng) (h : okK (un t) = true ∧ vK (un t) 0 = x ∧ vK (un t) 1 = y ∧ vK (un t) 2 = z) :
    rd t = if y < 60 ∧ z < 60 ∧ x * 3600 + y * 60 + z ≤ 604799 then ((if ng then -(x * 3600 + y * 60 + z) else x * 3600 + y * 60 + z), 0) else (0, 1) := by
  obtain ⟨hk, v0, v1, v2⟩ := h
  unfold rd inR sum
  rw [alone h2, hk, v0, v1, v2, hn]
  simp only [Bool.false_eq_true, if_false]
  by_cases h1 : y < 60
  · by_cases h3 : z < 60
    · by_cases h4 : x * 3600 + y * 60 + z ≤ 604799
      · simp [h1, h3, h4]
      · simp [h1, h3, h4]
    · simp [h1, h3]
  · simp [h1]
theorem rd_no {t : ByteArray} (h2 : 2 ≤ t.size) (h : okK (un t) = false) : rd t = (0, 2) := by
  unfold rd
  rw [alone h2, h]; rfl
/-- Hours' texts; two digits. -/
theorem h_tab : ∀ n : Fin 1000, (isP 0 (itoa (n.val : Int)) && (decide (Num.val 0 (itoa (n.val : Int)) = n.val) && (isP 0 (48 :: itoa (n.val : Int)) == decide (n.val < 100)))) = true := by decide +kernel
theorem d_tab : ∀ n : Fin 100, (isP 1 (itoa ((n.val : Int) / 10) ++ itoa ((n.val : Int) % 10)) && decide (Num.val 0 (itoa ((n.val : Int) / 10) ++ itoa ((n.val : Int) % 10)) = n.val)) = true := by decide +kernel
theorem e_tab : ∀ n : Fin 100, 10 ≤ n.val → (isP 1 (itoa (n.val : Int)) && decide (Num.val 0 (itoa (n.val : Int)) = n.val)) = true := by decide +kernel
theorem hours {n : Int} (h0 : 0 ≤ n) (h1 : n < 1000) : isP 0 (itoa n) = true ∧ (Num.val 0 (itoa n) : Int) = n ∧ isP 0 (48 :: itoa n) = decide (n < 100) := by
  have := h_tab ⟨n.toNat, by omega⟩
  rw [Bool.and_eq_true, Bool.and_eq_true, decide_eq_true_eq, beq_iff_eq] at this
  obtain ⟨a, b, c⟩ := this
  simp only [show ((n.toNat : Nat) : Int) = n by omega] at a b c
  refine ⟨a, by omega, ?_⟩
  rw [c, Bool.eq_iff_iff, decide_eq_true_eq, decide_eq_true_eq]; omega
theorem isP_12 {l : List UInt8} : isP 2 l = isP 1 l := rfl
theorem digits3 {n : Int} (h0 : 10 ≤ n) (h1 : n < 100) : isP 1 (itoa n) = true ∧ (Num.val 0 (itoa n) : Int) = n := by
  have := e_tab ⟨n.toNat, by omega⟩ (show 10 ≤ n.toNat by omega)
  rw [Bool.and_eq_true, decide_eq_true_eq] at this
  simp only [show ((n.toNat : Nat) : Int) = n by omega] at this
  exact ⟨this.1, by omega⟩
theorem isP_head {i : Int} {l : List UInt8} (h : isP i l = true) (hn : l ≠ []) : ∃ c r, l = c :: r ∧ c ≠ 45 := by
  cases l with
  | nil => exact absurd rfl hn
  | cons c r =>
    have := (isP_size (i := i.toNat) (l := c :: r))
    unfold isP at h
    rw [Bool.and_eq_true, List.all_cons, Bool.and_eq_true] at h
    exact ⟨c, r, rfl, (Num.dig_ne h.1.1).1⟩
end Am
end Go.Proofs.YtfcabofhlgmkjaaDoor
