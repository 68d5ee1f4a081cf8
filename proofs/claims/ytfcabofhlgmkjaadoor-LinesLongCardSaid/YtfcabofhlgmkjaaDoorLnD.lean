/- Lines: the contracts of Of, the program's and the reference's, and of Same. -/
import Derived.Test.YtfcabofhlgmkjaaDoorLnC
import Derived.Test.YtfcabofhlgmkjaaDoorLaid5
import Derived.Test.YtfcabofhlgmkjaaDoorRnD
import Derived.Test.YtfcabofhlgmkjaaDoorBk
set_option linter.unusedVariables false
set_option linter.unusedSimpArgs false
namespace Go.Proofs.YtfcabofhlgmkjaaDoor
open Go.RowKit Go.Sort

theorem split10 (s : ByteArray) (w : World) (m : Int) (hs : s.size < 4294967281) (hm : w.cell? ⟨1, 0, none⟩ = some (.int .i64 m)) :
    Calls Tryd.prog 84 #[.string s, .string ⟨#[10]⟩] w fun e w' => ∃ c : Nat, e = .returned (.slice (some ⟨w.heap.size, 0, none⟩) (Ln.pcs s).length c) ∧ (Ln.pcs s).length ≤ c ∧ c ≤ 4294967299 ∧ Below w.heap.size w w' ∧ (∀ j x, (Ln.pcs s)[j]? = some x → w'.cell? ⟨w.heap.size, j, none⟩ = some (.string x)) ∧ w'.heap.size = w.heap.size + 1 := by
  refine (Any.strings_Split Tryd.lays146 Tryd.laysM146.i9 s ⟨#[10]⟩ m w hs hm (Nat.le_refl 1)).mono ?_
  rintro e w' ⟨rfl, rfl⟩
  have hc := Lib.countB_le ⟨#[10]⟩ (Nat.le_refl 1) s.size s (Nat.le_refl _)
  refine ⟨_, by rw [Ln.pcs_len], by rw [Ln.pcs_len]; exact Nat.le_refl _, by omega, (Below.refl _ _).alloc (Nat.le_refl _) _, ?_, by simp⟩
  intro j x hx
  rw [Lib.cell_of_heap (heap_alloc_new w _)]
  have e : Lib.splitB ⟨#[10]⟩ 0 (Lib.countB s ⟨#[10]⟩) s = Ln.pcs s := rfl
  rw [e]
  simp [hx]
set_option maxHeartbeats 4000000 in
theorem lof_any (s : ByteArray) (w : World) (m : Int) (hs : s.size ≤ 2000000) (hm : w.cell? ⟨1, 0, none⟩ = some (.int .i64 m)) :
    Calls Tryd.prog 39 #[.string s] w (AnsL (Ln.cut [] s.data.toList) w) := by
  have S := Lib.hid (split10 s w m (by omega) hm)
  have hP := Ln.pcs_data s
  have hl := Ln.pcs_len s
  have hcut := Lib.hid (show Ln.cut [] s.data.toList = Ln.dropE ((Ln.pcs s).map (·.data.toList)) by rw [hP, Ln.cut_rest])
  have hlen : (Ln.pcs s).length ≤ 2000001 := by
    have := Lib.countB_le ⟨#[10]⟩ (Nat.le_refl 1) s.size s (Nat.le_refl _); omega
  generalize Ln.pcs s = L at *
  obtain ⟨K, hK⟩ : ∃ K, L.length = K + 1 := ⟨_, hl⟩
  clear hP hl hm hs
  have hx := List.getElem?_eq_getElem (show K < L.length by omega)
  obtain ⟨x, hxe⟩ : ∃ x, x = L[K]'(by omega) := ⟨_, rfl⟩
  rw [← hxe] at hx
  have hlast : L.getLast? = some x := by rw [List.getLast?_eq_getElem?, hK, Nat.add_sub_cancel]; exact hx
  have hgl : (L.map (·.data.toList)).getLast? = some x.data.toList := by rw [List.getLast?_map, hlast]; rfl
  clear hxe
  have HX := Lib.hid hx
  have HGL := Lib.hid hgl
  have HK := Lib.hid hK
  have hKb : K ≤ 2000000 := by omega
  clear hx hlast hgl hlen
  rw [hK] at S
  clear hK
  generalize Ln.cut [] s.data.toList = tot at hcut ⊢
  go_enter Tryd.func39, Tryd.ntmps39
  go_wp2_with fail
  refine S.out.mono ?_; rintro e w1 ⟨c, rfl, hc1, hc2, b1, hcells, hz⟩
  have g := hcells K x HX.out
  have HC := Lib.hid hcells
  have B1 := Lib.hid b1
  have hcI : (K : Int) + 1 ≤ (c : Int) := by omega
  have hzb : w.heap.size < w1.heap.size := by omega
  clear hcells b1 S hz
  have lst : ∀ j : Nat, j ≤ K + 1 → ∀ M : List ByteArray, M.length = j → (∀ i y, M[i]? = some y → L[i]? = some y) → StS w1 (.slice (some ⟨w.heap.size, 0, none⟩) j c) M := fun j hj M hM hsub => ⟨some ⟨w.heap.size, 0, none⟩, c, by rw [hM], fun _ => ⟨_, rfl, hzb, fun i u hu => by
    rw [List.getElem?_map] at hu
    cases hy : M[i]? with
    | none => rw [hy] at hu; cases hu
    | some y =>
      rw [hy] at hu; cases hu
      rw [show (⟨w.heap.size, 0, none⟩ : Addr).add i = ⟨w.heap.size, i, none⟩ by simp [Addr.add]; exact fun h => h.symm]
      exact HC.out i y (hsub i y hy)⟩⟩
  have LST := Lib.hid lst
  clear lst
  rcases Nat.eq_zero_or_pos x.size with hz0 | hz0
  · have ex : x = ⟨#[]⟩ := by
      apply ByteArray.ext; apply Array.toList_inj.1
      rw [show x.data.toList = [] by rw [← List.length_eq_zero_iff, ab_len]; exact hz0]
    subst ex
    have HD := Lib.hid (show (L.dropLast).map (·.data.toList) = tot by
      rw [hcut.out]; unfold Ln.dropE; rw [HGL.out, if_pos rfl, List.map_dropLast])
    have hdl := Lib.hid (show L.dropLast.length = K by rw [List.length_dropLast, HK.out]; rfl)
    have hsub := Lib.hid (show ∀ i y, L.dropLast[i]? = some y → L[i]? = some y from fun i y h => by
      rw [List.getElem?_dropLast] at h
      split at h
      · exact h
      · cases h)
    go_wp2_with fail
    go_ret
    exact ⟨_, L.dropLast, LST.out K (by omega) _ hdl.out hsub.out, HD.out, rfl, B1.out⟩
  · obtain ⟨hn1, hn2⟩ := dne hz0
    have HD := Lib.hid (show L.map (·.data.toList) = tot by
      rw [hcut.out]; unfold Ln.dropE; rw [HGL.out, if_neg (by
        intro h
        injection h with h
        have := ab_len x
        rw [h] at this; simp at this; omega)])
    go_wp2_with fail
    go_ret
    exact ⟨_, L, LST.out (K + 1) (Nat.le_refl _) _ HK.out (fun _ _ h => h), HD.out, rfl, B1.out⟩
set_option maxHeartbeats 2000000 in
theorem same13_yes (v v' : Value) (l : List ByteArray) (w : World) (hl : l.length ≤ 10000000) (S : StS w v l) (S' : StS w v' l) :
    Calls Tryd.prog 38 #[v, v'] w fun e w' => e = .returned (.bool true) ∧ Below w.heap.size w w' := by
  have T := S; have T' := S'
  obtain ⟨A, c, rfl, -⟩ := T; obtain ⟨A', c', rfl, -⟩ := T'
  have H := Lib.hid S; have H' := Lib.hid S'
  clear S S'
  obtain ⟨N, hN⟩ : ∃ N, N = l.length := ⟨_, rfl⟩
  have HN := Lib.hid hN
  rw [← hN]
  have hNb : N ≤ 10000000 := by omega
  have H : Hid (StS w (.slice A N c) l) := by rw [hN]; exact H
  have H' : Hid (StS w (.slice A' N c') l) := by rw [hN]; exact H'
  clear hN hl
  go_enter Tryd.func38, Tryd.ntmps38
  go_wp2_with fail
  go_loopw [13] (fun i wr => ∃ k : Nat, k ≤ N ∧ i = .int .i64 k ∧ Hid (Below w.heap.size w wr)) (fun i _ => N - (intOf i).toNat)
  case atStart => exact ⟨0, Nat.zero_le _, rfl, Below.refl _ _⟩
  case round =>
    obtain ⟨k, hk, rfl, hbw⟩ := hrel
    by_cases hlt : k < N
    · obtain ⟨a, rfl, g⟩ := (H.out.on hbw.out).get k (by have := HN.out; omega)
      obtain ⟨a', rfl, g'⟩ := (H'.out.on hbw.out).get k (by have := HN.out; omega)
      generalize l[k]'(by have := HN.out; omega) = x at g g'
      go_wp2_with fail
      go_quiet (fail)
      go_wp2_with fail
      go_roundw
      case rel => exact ⟨k + 1, by omega, by go_num, Lib.hid (hbw.out.trans (below_draw _ _))⟩
      case measure => simp [intOf]; omega
    · go_wp2_with fail
      go_ret
      exact ⟨rfl, hbw.out⟩
end Go.Proofs.YtfcabofhlgmkjaaDoor

