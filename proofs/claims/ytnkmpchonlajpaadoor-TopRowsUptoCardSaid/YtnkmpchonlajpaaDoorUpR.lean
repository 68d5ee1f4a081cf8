/- A list of lists of strings that came in, where the bulk is bounded. -/
import Derived.Test.YtnkmpchonlajpaaDoorUpL
import Derived.Test.YtnkmpchonlajpaaDoorTrW
set_option linter.unusedVariables false
set_option linter.unusedSimpArgs false
namespace Go.Proofs.YtnkmpchonlajpaaDoor
open Go.RowKit Go.Sort Go.ChangeShapes

theorem cellsRow : Tryd.prog.cellsOf 22 = 1 := by kernel_rfl
theorem bulk_one {H : Type} (d : DataW H) : 1 ≤ Rows.uptoBulk d := by
  cases d with
  | lit l => cases l <;> simp [Rows.uptoBulk]
  | nil => simp [Rows.uptoBulk]
  | ptr d => simp [Rows.uptoBulk]
  | slice elems spare => simp [Rows.uptoBulk]
  | agg parts => simp [Rows.uptoBulk]
  | iface t d => simp [Rows.uptoBulk]
  | map entries => simp [Rows.uptoBulk]
  | held h => simp [Rows.uptoBulk]
theorem bulk_part {H : Type} {d : DataW H} {l : List (DataW H)} (h : d ∈ l) : Rows.uptoBulk d ≤ Rows.uptoBulkAll l := by
  induction l with
  | nil => cases h
  | cons x r ih =>
    simp only [Rows.uptoBulkAll]
    cases List.mem_cons.1 h with
    | inl e => subst e; omega
    | inr e => have := ih e; omega
theorem bulk_len {H : Type} (l : List (DataW H)) : l.length ≤ Rows.uptoBulkAll l := by
  induction l with
  | nil => simp [Rows.uptoBulkAll]
  | cons x r ih => have := bulk_one x; simp only [Rows.uptoBulkAll, List.length_cons]; omega
theorem cells1 {w : World} {base : Nat} {p : Addr} {cs : List Value} (h : w.cells? base p 1 = some cs) : ∃ c0, cs = [c0] ∧ w.cell? (p.add 0) = some c0 := by
  unfold World.cells? at h
  split at h
  · simp only [show List.range 1 = [0] from rfl, List.mapM_cons, List.mapM_nil, Option.bind_eq_bind] at h
    cases h0 : w.cell? (p.add 0) with
    | none => rw [h0] at h; simp at h
    | some c0 =>
      rw [h0] at h
      simp at h
      exact ⟨c0, h.symm, rfl⟩
  · cases h
theorem rows_bulk {H : Type} {enc : TypeId × Value → H} {w : World} {base : Nat} {sp : Nat → Bool} {held : Bool} {A : Option Addr} {n c : Nat} {fuel : Nat} {d : DataW H} {p : List MemPlace}
    (h : DataW.trod enc Tryd.prog w base sp held fuel 33 [.slice A n c] = some (d, p)) (hb : Rows.uptoBulk d ≤ 1048576) :
    ∃ (vs : List Value) (L : List (List ByteArray)), RwS w (.slice A n c) vs L ∧ (∀ r ∈ L, Fd.tot r + r.length ≤ 1048576) ∧ L.length ≤ 1048576 := by
  rcases DataW.trod_slice Tryd.underlying33 h with ⟨hcs, _⟩ | ⟨a, len, cap, elems, rest, m, _, hcs, hx, _, _, _, hlen, hel, _, _⟩
  · injection hcs with h1 _
    rw [h1]
    exact ⟨[], [], ⟨Lst.nil _ _, rfl, fun k h1 _ => absurd h1 (by simp)⟩, (fun r hr => by cases hr), by decide⟩
  · injection hcs with h1 _
    rw [h1]
    simp only [Prod.mk.injEq] at hx
    rw [hx.1] at hb
    simp only [Rows.uptoBulk] at hb
    have hll := bulk_len (elems.map (·.1))
    rw [List.length_map] at hll
    have item : ∀ i, i < len → ∃ (v : Value) (r : List ByteArray), w.cell? (a.add i) = some v ∧ StS w v r ∧ Fd.tot r + r.length ≤ 1048576 := fun i hi => by
      have := hel i hi
      rw [cellsRow, Nat.mul_one, List.getElem?_eq_getElem (by omega), Option.bind_eq_some_iff] at this
      obtain ⟨cs, hcs, hy⟩ := this
      obtain ⟨c0, rfl, g0⟩ := cells1 hcs
      rw [show (a.add i).add 0 = a.add i by rw [add_two, Nat.add_zero]] at g0
      have hbi : Rows.uptoBulk elems[i].1 ≤ 1048576 := by
        have := bulk_part (List.mem_map_of_mem (f := (·.1)) (List.getElem_mem (show i < elems.length by omega)))
        omega
      have hfm : ∃ A n c, c0 = .slice A n c := by
        rcases DataW.trod_slice Tryd.underlying22 hy with ⟨hh, _⟩ | ⟨_, _, _, _, _, _, _, hh, _⟩
        · injection hh with h1 _; exact ⟨_, _, _, h1⟩
        · injection hh with h1 _; exact ⟨_, _, _, h1⟩
      obtain ⟨B, q, e, rfl⟩ := hfm
      obtain ⟨r, S, hz⟩ := strs_bulk (show DataW.trod enc Tryd.prog w base sp held m 22 [.slice B q e] = some (elems[i].1, elems[i].2) from hy) hbi
      exact ⟨_, r, g0, S, hz⟩
    have all : ∀ k, k ≤ len → ∃ (vs : List Value) (L : List (List ByteArray)), vs.length = k ∧ L.length = k ∧ (∀ r ∈ L, Fd.tot r + r.length ≤ 1048576) ∧ (∀ j u, vs[j]? = some u → w.cell? (a.add j) = some u) ∧ ∀ j (h1 : j < vs.length) (h2 : j < L.length), StS w vs[j] L[j] := by
      intro k
      induction k with
      | zero => intro _; exact ⟨[], [], rfl, rfl, (fun r hr => by cases hr), (fun j u hu => by simp at hu), fun j h1 _ => absurd h1 (by simp)⟩
      | succ k ih =>
        intro hk
        obtain ⟨vs, L, hv, hL, hz, hc, hs⟩ := ih (by omega)
        obtain ⟨v, r, g0, S, z⟩ := item k (by omega)
        refine ⟨vs ++ [v], L ++ [r], by rw [List.length_append, hv]; rfl, by rw [List.length_append, hL]; rfl, fun x hx => ?_, fun j u hu => ?_, fun j h1 h2 => ?_⟩
        · rcases List.mem_append.1 hx with hx | hx
          · exact hz x hx
          · rw [List.mem_singleton.1 hx]; exact z
        · by_cases hj : j < k
          · rw [List.getElem?_append_left (by omega)] at hu; exact hc j u hu
          · have : j = k := by
              have := (List.getElem?_eq_some_iff.1 hu).1
              rw [List.length_append] at this; simp at this; omega
            subst this
            rw [List.getElem?_append_right (by omega), hv] at hu
            simp at hu
            subst hu
            exact g0
        · by_cases hj : j < k
          · rw [List.getElem_append_left (by omega), List.getElem_append_left (by omega)]
            exact hs j (by omega) (by omega)
          · have : j = k := by rw [List.length_append] at h1; simp at h1; omega
            subst this
            have e1 : (vs ++ [v])[j] = v := by subst hv; simp
            have e2 : (L ++ [r])[j] = r := by subst hL; simp
            rw [e1, e2]; exact S
    obtain ⟨vs, L, hv, hL, hz, hc, hs⟩ := all len (Nat.le_refl _)
    refine ⟨vs, L, ⟨⟨some a, cap, by rw [hv], fun hpos => ⟨a, rfl, ?_, hc⟩⟩, by omega, hs⟩, hz, by omega⟩
    rw [hv] at hpos
    obtain ⟨v, r, g0, -, -⟩ := item 0 hpos
    have := World.block_lt_of_cell? _ _ g0
    rwa [blk_add] at this
end Go.Proofs.YtnkmpchonlajpaaDoor
