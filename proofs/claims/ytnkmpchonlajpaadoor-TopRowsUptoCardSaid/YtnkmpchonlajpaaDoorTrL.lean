/- Lines, for rows: a source cut at its line feeds, lines joined (where no text of num is at hand). -/
import Derived.Test.YtnkmpchonlajpaaDoorFdS
import Derived.Test.YtnkmpchonlajpaaDoorBldP
import Derived.Test.YtnkmpchonlajpaaDoorLaid5
import Derived.Test.YtnkmpchonlajpaaDoorBk
import Derived.Shelf.Strings.Split
import Derived.Lib.SplitLaws
set_option linter.unusedVariables false
set_option linter.unusedSimpArgs false
namespace Go.Proofs.YtnkmpchonlajpaaDoor
open Go.RowKit Go.Sort

namespace Ln
open Go.Lib
def nl (l : List UInt8) : Prop := ∀ c ∈ l, c ≠ 10
theorem pre10 (c : UInt8) (l : List UInt8) : ([10] : List UInt8).isPrefixOf (c :: l) = (10 == c) := by
  rw [List.isPrefixOf, List.isPrefixOf, Bool.and_true]
theorem ix_none : ∀ l : List UInt8, nl l → index l [10] = -1 := by
  intro l
  induction l with
  | nil => intro _; rfl
  | cons c l ih =>
    intro h
    have h1 : (10 == c) = false := by rw [beq_eq_false_iff_ne]; exact fun e => h c (List.mem_cons_self ..) e.symm
    unfold index
    rw [pre10, h1, ih (fun x hx => h x (List.mem_cons_of_mem _ hx))]
    rfl
theorem ix_at : ∀ (a r : List UInt8), nl a → index (a ++ 10 :: r) [10] = (a.length : Int) := by
  intro a
  induction a with
  | nil => intro r _; rw [List.nil_append]; unfold index; rw [pre10]; rfl
  | cons c a ih =>
    intro r h
    have h1 : (10 == c) = false := by rw [beq_eq_false_iff_ne]; exact fun e => h c (List.mem_cons_self ..) e.symm
    have h2 := ih r (fun x hx => h x (List.mem_cons_of_mem _ hx))
    have h3 : ((a.length : Int) == -1) = false := by rw [beq_eq_false_iff_ne]; omega
    rw [List.cons_append]
    unfold index
    rw [pre10, h1, h2, h3]
    simp
theorem splitK_at (a r : List UInt8) (k : Nat) (h : nl a) : splitK [10] 0 (k + 1) (a ++ 10 :: r) = a :: splitK [10] 0 k r := by
  have h3 : ((a.length : Int) == -1) = false := by rw [beq_eq_false_iff_ne]; omega
  conv => lhs; unfold splitK
  rw [ix_at a r h, h3]
  simp
theorem splitK_no (k : Nat) (l : List UInt8) (h : nl l) : splitK [10] 0 k l = [l] := by
  cases k with
  | zero => rfl
  | succ k => unfold splitK; rw [ix_none l h]; rfl
/-- All pieces between line feeds. -/
def rest (cur : List UInt8) : List UInt8 → List (List UInt8)
  | [] => [cur]
  | c :: r => if c = 10 then cur :: rest [] r else rest (cur ++ [c]) r
/-- The lines: what stands behind the last line feed is none, if it is empty. -/
def cut (cur : List UInt8) : List UInt8 → List (List UInt8)
  | [] => if cur = [] then [] else [cur]
  | c :: r => if c = 10 then cur :: cut [] r else cut (cur ++ [c]) r
def dropE (P : List (List UInt8)) : List (List UInt8) := if P.getLast? = some [] then P.dropLast else P
theorem rest_ne (cur l : List UInt8) : rest cur l ≠ [] := by
  induction l generalizing cur with
  | nil => simp [rest]
  | cons c r ih =>
    unfold rest
    split
    · simp
    · exact ih _
theorem cut_rest (cur l : List UInt8) : cut cur l = dropE (rest cur l) := by
  induction l generalizing cur with
  | nil =>
    unfold cut rest dropE
    by_cases h : cur = [] <;> simp [h]
  | cons c r ih =>
    unfold cut rest
    by_cases h : c = 10
    · rw [if_pos h, if_pos h, ih []]
      have hn := rest_ne [] r
      generalize rest [] r = X at hn
      unfold dropE
      cases X with
      | nil => exact absurd rfl hn
      | cons x y =>
        rw [List.getLast?_cons_cons]
        by_cases hl : (x :: y).getLast? = some []
        · rw [if_pos hl, if_pos hl]; rfl
        · rw [if_neg hl, if_neg hl]
    · rw [if_neg h, if_neg h]
      exact ih _
theorem splitK_rest (l cur : List UInt8) (h : nl cur) : splitK [10] 0 (count l [10]) (cur ++ l) = rest cur l := by
  induction l generalizing cur with
  | nil =>
    rw [show count [] [10] = 0 by rw [count_one]; rfl, List.append_nil]
    rfl
  | cons c r ih =>
    unfold rest
    by_cases hc : c = 10
    · subst hc
      rw [if_pos rfl, count_cons_eq, Nat.add_comm, splitK_at cur r _ h]
      have := ih [] (fun c hc => by cases hc)
      rw [List.nil_append] at this
      rw [this]
    · rw [if_neg hc, count_cons_ne c 10 r hc]
      have := ih (cur ++ [c]) (fun x hx => by
        rcases List.mem_append.1 hx with hx | hx
        · exact h x hx
        · rw [List.mem_singleton.1 hx]; exact hc)
      rw [List.append_assoc] at this
      exact this
/-- The pieces of a text, as bytes. -/
def pcs (s : ByteArray) : List ByteArray := splitB ⟨#[10]⟩ 0 (countB s ⟨#[10]⟩) s
theorem pcs_data (s : ByteArray) : (pcs s).map (·.data.toList) = rest [] s.data.toList := by
  unfold pcs
  rw [splitB_data]
  have := splitK_rest s.data.toList [] (fun c hc => by cases hc)
  rw [List.nil_append] at this
  exact this
theorem pcs_len (s : ByteArray) : (pcs s).length = countB s ⟨#[10]⟩ + 1 := splitB_all ⟨#[10]⟩ (Nat.le_refl 1) 0 _ s rfl
theorem cut_size (cur l : List UInt8) : ∀ p ∈ cut cur l, p.length ≤ cur.length + l.length := by
  induction l generalizing cur with
  | nil =>
    intro p hp
    unfold cut at hp
    split at hp
    · cases hp
    · rw [List.mem_singleton.1 hp]; omega
  | cons c r ih =>
    intro p hp
    unfold cut at hp
    split at hp
    · rcases List.mem_cons.1 hp with rfl | hp
      · omega
      · have := ih [] p hp
        simp at this ⊢; omega
    · have := ih _ p hp
      simp at this ⊢; omega
theorem cut_len (cur l : List UInt8) : (cut cur l).length ≤ l.length + 1 := by
  induction l generalizing cur with
  | nil => unfold cut; split <;> simp
  | cons c r ih =>
    unfold cut
    split
    · have := ih []; simp; omega
    · have := ih (cur ++ [c]); simp; omega
theorem bytes_inj {l l' : List ByteArray} (h : l.map (·.data.toList) = l'.map (·.data.toList)) : l = l' := by
  induction l generalizing l' with
  | nil => cases l' with
    | nil => rfl
    | cons _ _ => cases h
  | cons x r ih =>
    cases l' with
    | nil => cases h
    | cons y r' =>
      simp only [List.map_cons, List.cons.injEq] at h
      rw [ih h.2, show x = y from ByteArray.ext (Array.toList_inj.1 h.1)]
end Ln
/-- A call that answers lines. -/
def AnsL (P : List (List UInt8)) (w : World) (e : Ending) (w' : World) : Prop := ∃ (v : Value) (l : List ByteArray), StS w' v l ∧ l.map (·.data.toList) = P ∧ e = .returned v ∧ Below w.heap.size w w'
theorem split10 (s : ByteArray) (w : World) (m : Int) (hs : s.size < 4294967281) (hm : w.cell? ⟨0, 0, none⟩ = some (.int .i64 m)) :
    Calls Tryd.prog 17 #[.string s, .string ⟨#[10]⟩] w fun e w' => ∃ c : Nat, e = .returned (.slice (some ⟨w.heap.size, 0, none⟩) (Ln.pcs s).length c) ∧ (Ln.pcs s).length ≤ c ∧ c ≤ 4294967299 ∧ Below w.heap.size w w' ∧ (∀ j x, (Ln.pcs s)[j]? = some x → w'.cell? ⟨w.heap.size, j, none⟩ = some (.string x)) ∧ w'.heap.size = w.heap.size + 1 := by
  refine (Any.strings_Split Tryd.lays146 Tryd.laysM146.i9 s ⟨#[10]⟩ m w hs hm (Nat.le_refl 1)).mono ?_
  rintro e w' ⟨rfl, rfl⟩
  have hc := Lib.countB_le ⟨#[10]⟩ (Nat.le_refl 1) s.size s (Nat.le_refl _)
  refine ⟨_, by rw [Ln.pcs_len], by rw [Ln.pcs_len]; exact Nat.le_refl _, by omega, (Below.refl _ _).alloc (Nat.le_refl _) _, ?_, by simp⟩
  intro j x hx
  rw [Lib.cell_of_heap (heap_alloc_new w _)]
  have e : Lib.splitB ⟨#[10]⟩ 0 (Lib.countB s ⟨#[10]⟩) s = Ln.pcs s := rfl
  rw [e]
  simp [hx]
set_option maxHeartbeats 4000000 in
theorem lof_any (s : ByteArray) (w : World) (m : Int) (hs : s.size ≤ 2000000) (hm : w.cell? ⟨0, 0, none⟩ = some (.int .i64 m)) :
    Calls Tryd.prog 7 #[.string s] w (AnsL (Ln.cut [] s.data.toList) w) := by
  have S := Lib.hid (split10 s w m (by omega) hm)
  have hP := Ln.pcs_data s
  have hl := Ln.pcs_len s
  have hcut := Lib.hid (show Ln.cut [] s.data.toList = Ln.dropE ((Ln.pcs s).map (·.data.toList)) by rw [hP, Ln.cut_rest])
  have hlen : (Ln.pcs s).length ≤ 2000001 := by
    have := Lib.countB_le ⟨#[10]⟩ (Nat.le_refl 1) s.size s (Nat.le_refl _); omega
  generalize Ln.pcs s = L at *
  obtain ⟨K, hK⟩ : ∃ K, L.length = K + 1 := ⟨_, hl⟩
  clear hP hl hm hs
  have hx := List.getElem?_eq_getElem (show K < L.length by omega)
  obtain ⟨x, hxe⟩ : ∃ x, x = L[K]'(by omega) := ⟨_, rfl⟩
  rw [← hxe] at hx
  have hlast : L.getLast? = some x := by rw [List.getLast?_eq_getElem?, hK, Nat.add_sub_cancel]; exact hx
  have hgl : (L.map (·.data.toList)).getLast? = some x.data.toList := by rw [List.getLast?_map, hlast]; rfl
  clear hxe
  have HX := Lib.hid hx
  have HGL := Lib.hid hgl
  have HK := Lib.hid hK
  have hKb : K ≤ 2000000 := by omega
  clear hx hlast hgl hlen
  rw [hK] at S
  clear hK
  generalize Ln.cut [] s.data.toList = tot at hcut ⊢
  go_enter Tryd.func7, Tryd.ntmps7
  go_wp2_with fail
  refine S.out.mono ?_; rintro e w1 ⟨c, rfl, hc1, hc2, b1, hcells, hz⟩
  have g := hcells K x HX.out
  have HC := Lib.hid hcells
  have B1 := Lib.hid b1
  have hcI : (K : Int) + 1 ≤ (c : Int) := by omega
  have hzb : w.heap.size < w1.heap.size := by omega
  clear hcells b1 S hz
  have lst : ∀ j : Nat, j ≤ K + 1 → ∀ M : List ByteArray, M.length = j → (∀ i y, M[i]? = some y → L[i]? = some y) → StS w1 (.slice (some ⟨w.heap.size, 0, none⟩) j c) M := fun j hj M hM hsub => ⟨some ⟨w.heap.size, 0, none⟩, c, by rw [hM], fun _ => ⟨_, rfl, hzb, fun i u hu => by
    rw [List.getElem?_map] at hu
    cases hy : M[i]? with
    | none => rw [hy] at hu; cases hu
    | some y =>
      rw [hy] at hu; cases hu
      rw [show (⟨w.heap.size, 0, none⟩ : Addr).add i = ⟨w.heap.size, i, none⟩ by simp [Addr.add]; exact fun h => h.symm]
      exact HC.out i y (hsub i y hy)⟩⟩
  have LST := Lib.hid lst
  clear lst
  rcases Nat.eq_zero_or_pos x.size with hz0 | hz0
  · have ex : x = ⟨#[]⟩ := by
      apply ByteArray.ext; apply Array.toList_inj.1
      rw [show x.data.toList = [] by rw [← List.length_eq_zero_iff, fd_len]; exact hz0]
    subst ex
    have HD := Lib.hid (show (L.dropLast).map (·.data.toList) = tot by
      rw [hcut.out]; unfold Ln.dropE; rw [HGL.out, if_pos rfl, List.map_dropLast])
    have hdl := Lib.hid (show L.dropLast.length = K by rw [List.length_dropLast, HK.out]; rfl)
    have hsub := Lib.hid (show ∀ i y, L.dropLast[i]? = some y → L[i]? = some y from fun i y h => by
      rw [List.getElem?_dropLast] at h
      split at h
      · exact h
      · cases h)
    go_wp2_with fail
    go_ret
    exact ⟨_, L.dropLast, LST.out K (by omega) _ hdl.out hsub.out, HD.out, rfl, B1.out⟩
  · obtain ⟨hn1, hn2⟩ := fd_ne hz0
    have HD := Lib.hid (show L.map (·.data.toList) = tot by
      rw [hcut.out]; unfold Ln.dropE; rw [HGL.out, if_neg (by
        intro h
        injection h with h
        have := fd_len x
        rw [h] at this; simp at this; omega)])
    go_wp2_with fail
    go_ret
    exact ⟨_, L, LST.out (K + 1) (Nat.le_refl _) _ HK.out (fun _ _ h => h), HD.out, rfl, B1.out⟩
namespace Ln
/-- Lines as a source. -/
def jn (l : List ByteArray) : List UInt8 := l.flatMap fun x => x.data.toList ++ [10]
theorem jn_next (l : List ByteArray) (k : Nat) (h : k < l.length) : jn (l.take (k + 1)) = jn (l.take k) ++ (l[k].data.toList ++ [10]) := by
  unfold jn
  rw [List.take_succ_eq_append_getElem h, List.flatMap_append]
  simp
theorem jn_le (l : List ByteArray) (k : Nat) : (jn (l.take k)).length ≤ (jn l).length := by
  have e : jn l = jn (l.take k) ++ jn (l.drop k) := by
    unfold jn
    rw [← List.flatMap_append, List.take_append_drop]
  rw [e, List.length_append]; omega
end Ln
set_option maxHeartbeats 4000000 in
theorem ljoin_any (v : Value) (l : List ByteArray) (w : World) (S : StS w v l) (hl : l.length ≤ 1000000) (hj : (Ln.jn l).length ≤ 900000) :
    Calls Tryd.prog 13 #[v] w fun e w' => e = .returned (.string ⟨(Ln.jn l).toArray⟩) ∧ Below w.heap.size w w' := by
  have T := S
  obtain ⟨A, c, rfl, -⟩ := T
  obtain ⟨N, hN⟩ : ∃ N, N = l.length := ⟨_, rfl⟩
  have HN := Lib.hid hN
  have HS : Hid (StS w (.slice A N c) l) := by rw [hN]; exact S
  rw [← hN]
  have hNb : N ≤ 1000000 := by omega
  have HJ := Lib.hid hj
  clear hN hl S hj
  have N1 := Lib.hid (show Below w.heap.size w (w.alloc (.cells #[.pointer none, .slice none 0 0] 45)) from (Below.refl _ _).alloc (Nat.le_refl _) _)
  have I1 := Lib.hid (IsB.fresh w)
  go_enter Tryd.func13, Tryd.ntmps13
  go_wp2_with fail
  go_loopw [8] (fun i wr => ∃ k : Nat, k ≤ N ∧ i = .int .i64 k ∧ Hid (IsB w.heap.size (Ln.jn (l.take k)) wr) ∧ Hid (Below w.heap.size w wr)) (fun i _ => N - (intOf i).toNat)
  case atStart => exact ⟨0, Nat.zero_le _, rfl, by simpa [Ln.jn] using I1, N1⟩
  case round =>
    obtain ⟨k, hk, rfl, hI, hB⟩ := hrel
    by_cases hlt : k < N
    · have hkl : k < l.length := by have := HN.out; omega
      obtain ⟨a, rfl, g⟩ := (HS.out.on hB.out).get k hkl
      have hnx := Lib.hid (Ln.jn_next l k hkl)
      have hle := Lib.hid (show (Ln.jn (l.take k)).length + l[k].size + 1 ≤ 900000 by
        have h1 := Ln.jn_le l (k + 1)
        have h2 := HJ.out
        rw [hnx.out] at h1
        simp only [List.length_append, List.length_cons, List.length_nil] at h1
        have : l[k].data.toList.length = l[k].size := Array.length_toList
        omega)
      generalize l[k] = x at g hnx hle
      go_wp2_with fail
      refine (bw_str w.heap.size _ x _ hI.out (by have := hle.out; omega) (by have := hle.out; omega)).mono ?_; rintro e w2 ⟨rfl, i2, b2⟩
      have I2 := Lib.hid i2; have B2 := Lib.hid (hB.out.trans b2)
      clear i2 b2
      go_wp2_with fail
      refine (bw_str w.heap.size _ ⟨#[10]⟩ _ I2.out (by have := hle.out; have : x.data.toList.length = x.size := Array.length_toList; rw [List.length_append]; omega) (by decide)).mono ?_; rintro e w3 ⟨rfl, i3, b3⟩
      have I3 := Lib.hid i3; have B3 := Lib.hid (B2.out.trans b3)
      clear i3 b3 I2 B2
      go_wp2_with fail
      go_roundw
      case rel => exact ⟨k + 1, by omega, by go_num, by have := I3.out; rw [List.append_assoc] at this; rw [hnx.out]; exact this, B3⟩
      case measure => simp [intOf]; omega
    · have hjk := Lib.hid (show Ln.jn (l.take k) = Ln.jn l by rw [List.take_of_length_le (by have := HN.out; omega)])
      go_wp2_with fail
      refine (b_string w.heap.size _ _ hI.out).mono ?_; rintro e w2 ⟨rfl, -, b2⟩
      go_wp2_with fail
      go_ret
      exact ⟨by rw [hjk.out]; rfl, hB.out.trans b2⟩
end Go.Proofs.YtnkmpchonlajpaaDoor

