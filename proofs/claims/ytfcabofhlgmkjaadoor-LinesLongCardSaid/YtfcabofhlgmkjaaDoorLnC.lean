/- Lines, in plain lists of bytes: a source cut at its line feeds. -/
import Derived.Test.YtfcabofhlgmkjaaDoorLnA
import Derived.Test.YtfcabofhlgmkjaaDoorStL
import Derived.Shelf.Strings.Split
import Derived.Lib.SplitLaws
set_option linter.unusedVariables false
set_option linter.unusedSimpArgs false
namespace Go.Proofs.YtfcabofhlgmkjaaDoor
open Go.RowKit Go.Sort

namespace Ln
open Go.Lib
def nl (l : List UInt8) : Prop := ∀ c ∈ l, c ≠ 10
theorem pre10 (c : UInt8) (l : List UInt8) : ([10] : List UInt8).isPrefixOf (c :: l) = (10 == c) := by
  rw [List.isPrefixOf, List.isPrefixOf, Bool.and_true]
theorem ix_none : ∀ l : List UInt8, nl l → index l [10] = -1 := by
  intro l
  induction l with
  | nil => intro _; rfl
  | cons c l ih =>
    intro h
    have h1 : (10 == c) = false := by rw [beq_eq_false_iff_ne]; exact fun e => h c (List.mem_cons_self ..) e.symm
    unfold index
    rw [pre10, h1, ih (fun x hx => h x (List.mem_cons_of_mem _ hx))]
    rfl
theorem ix_at : ∀ (a r : List UInt8), nl a → index (a ++ 10 :: r) [10] = (a.length : Int) := by
  intro a
  induction a with
  | nil => intro r _; rw [List.nil_append]; unfold index; rw [pre10]; rfl
  | cons c a ih =>
    intro r h
    have h1 : (10 == c) = false := by rw [beq_eq_false_iff_ne]; exact fun e => h c (List.mem_cons_self ..) e.symm
    have h2 := ih r (fun x hx => h x (List.mem_cons_of_mem _ hx))
    have h3 : ((a.length : Int) == -1) = false := by rw [beq_eq_false_iff_ne]; omega
    rw [List.cons_append]
    unfold index
    rw [pre10, h1, h2, h3]
    simp
theorem splitK_at (a r : List UInt8) (k : Nat) (h : nl a) : splitK [10] 0 (k + 1) (a ++ 10 :: r) = a :: splitK [10] 0 k r := by
  have h3 : ((a.length : Int) == -1) = false := by rw [beq_eq_false_iff_ne]; omega
  conv => lhs; unfold splitK
  rw [ix_at a r h, h3]
  simp
theorem splitK_no (k : Nat) (l : List UInt8) (h : nl l) : splitK [10] 0 k l = [l] := by
  cases k with
  | zero => rfl
  | succ k => unfold splitK; rw [ix_none l h]; rfl
/-- All pieces between line feeds. -/
def rest (cur : List UInt8) : List UInt8 → List (List UInt8)
  | [] => [cur]
  | c :: r => if c = 10 then cur :: rest [] r else rest (cur ++ [c]) r
/-- The lines: what stands behind the last line feed is none, if it is empty. -/
def cut (cur : List UInt8) : List UInt8 → List (List UInt8)
  | [] => if cur = [] then [] else [cur]
  | c :: r => if c = 10 then cur :: cut [] r else cut (cur ++ [c]) r
def dropE (P : List (List UInt8)) : List (List UInt8) := if P.getLast? = some [] then P.dropLast else P
theorem rest_ne (cur l : List UInt8) : rest cur l ≠ [] := by
  induction l generalizing cur with
  | nil => simp [rest]
  | cons c r ih =>
    unfold rest
    split
    · simp
    · exact ih _
theorem cut_rest (cur l : List UInt8) : cut cur l = dropE (rest cur l) := by
  induction l generalizing cur with
  | nil =>
    unfold cut rest dropE
    by_cases h : cur = [] <;> simp [h]
  | cons c r ih =>
    unfold cut rest
    by_cases h : c = 10
    · rw [if_pos h, if_pos h, ih []]
      have hn := rest_ne [] r
      generalize rest [] r = X at hn
      unfold dropE
      cases X with
      | nil => exact absurd rfl hn
      | cons x y =>
        rw [List.getLast?_cons_cons]
        by_cases hl : (x :: y).getLast? = some []
        · rw [if_pos hl, if_pos hl]; rfl
        · rw [if_neg hl, if_neg hl]
    · rw [if_neg h, if_neg h]
      exact ih _
theorem splitK_rest (l cur : List UInt8) (h : nl cur) : splitK [10] 0 (count l [10]) (cur ++ l) = rest cur l := by
  induction l generalizing cur with
  | nil =>
    rw [show count [] [10] = 0 by rw [count_one]; rfl, List.append_nil]
    rfl
  | cons c r ih =>
    unfold rest
    by_cases hc : c = 10
    · subst hc
      rw [if_pos rfl, count_cons_eq, Nat.add_comm, splitK_at cur r _ h]
      have := ih [] (fun c hc => by cases hc)
      rw [List.nil_append] at this
      rw [this]
    · rw [if_neg hc, count_cons_ne c 10 r hc]
      have := ih (cur ++ [c]) (fun x hx => by
        rcases List.mem_append.1 hx with hx | hx
        · exact h x hx
        · rw [List.mem_singleton.1 hx]; exact hc)
      rw [List.append_assoc] at this
      exact this
/-- The pieces of a text, as bytes. -/
def pcs (s : ByteArray) : List ByteArray := splitB ⟨#[10]⟩ 0 (countB s ⟨#[10]⟩) s
theorem pcs_data (s : ByteArray) : (pcs s).map (·.data.toList) = rest [] s.data.toList := by
  unfold pcs
  rw [splitB_data]
  have := splitK_rest s.data.toList [] (fun c hc => by cases hc)
  rw [List.nil_append] at this
  exact this
theorem pcs_len (s : ByteArray) : (pcs s).length = countB s ⟨#[10]⟩ + 1 := splitB_all ⟨#[10]⟩ (Nat.le_refl 1) 0 _ s rfl
theorem cut_size (cur l : List UInt8) : ∀ p ∈ cut cur l, p.length ≤ cur.length + l.length := by
  induction l generalizing cur with
  | nil =>
    intro p hp
    unfold cut at hp
    split at hp
    · cases hp
    · rw [List.mem_singleton.1 hp]; omega
  | cons c r ih =>
    intro p hp
    unfold cut at hp
    split at hp
    · rcases List.mem_cons.1 hp with rfl | hp
      · omega
      · have := ih [] p hp
        simp at this ⊢; omega
    · have := ih _ p hp
      simp at this ⊢; omega
theorem cut_len (cur l : List UInt8) : (cut cur l).length ≤ l.length + 1 := by
  induction l generalizing cur with
  | nil => unfold cut; split <;> simp
  | cons c r ih =>
    unfold cut
    split
    · have := ih []; simp; omega
    · have := ih (cur ++ [c]); simp; omega
theorem bytes_inj {l l' : List ByteArray} (h : l.map (·.data.toList) = l'.map (·.data.toList)) : l = l' := by
  induction l generalizing l' with
  | nil => cases l' with
    | nil => rfl
    | cons _ _ => cases h
  | cons x r ih =>
    cases l' with
    | nil => cases h
    | cons y r' =>
      simp only [List.map_cons, List.cons.injEq] at h
      rw [ih h.2, show x = y from ByteArray.ext (Array.toList_inj.1 h.1)]
end Ln
/-- A call that answers lines. -/
def AnsL (P : List (List UInt8)) (w : World) (e : Ending) (w' : World) : Prop := ∃ (v : Value) (l : List ByteArray), StS w' v l ∧ l.map (·.data.toList) = P ∧ e = .returned v ∧ Below w.heap.size w w'
end Go.Proofs.YtfcabofhlgmkjaaDoor
