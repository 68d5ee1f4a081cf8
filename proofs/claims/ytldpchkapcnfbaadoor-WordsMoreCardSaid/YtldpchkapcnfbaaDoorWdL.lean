/- Lists of strings that came in, and tables of strings that a row lists, as the walks ask for them. -/
import Derived.Test.YtldpchkapcnfbaaDoorLiv15
import Derived.SliceStrings
import Derived.OpenShut
import Derived.LaidMore
import Derived.ChangeArms
import Derived.WalkSmall
import Derived.Stop.LaidErr
import Derived.Stop.Joined
import Derived.SizedLaws
set_option linter.unusedVariables false
set_option linter.unusedSimpArgs false
namespace Go.Proofs.YtldpchkapcnfbaaDoor
open Go.RowKit Go.Sort Go.ChangeShapes

theorem str_cells {H : Type} {enc : TypeId × Value → H} {P : Program} {w : World} {base : Nat} {sp : Nat → Bool} {held : Bool} {fuel : Nat} {t e : TypeId} {n : Nat} {cs : List Value} {ss : List ByteArray} {p : List MemPlace}
    (ht : P.underlying t = some (.array n e)) (he : P.underlying e = some .string) (hce : P.cellsOf e = 1)
    (h : DataW.trod enc P w base sp held fuel t cs = some (.agg (ss.map fun s => .lit (.string s.data.toList)), p)) : ∀ i (hi : i < ss.length), cs[i]? = some (.string ss[i]) := by
  obtain ⟨xs, m, rfl, hx, hl, hn, hall⟩ := DataW.trod_array ht h
  have hxs : xs.map (·.1) = ss.map fun s => (DataW.lit (.string s.data.toList) : DataW H) := by
    have := congrArg Prod.fst hx
    simpa using this.symm
  have hln : xs.length = ss.length := by
    have := congrArg List.length hxs
    simpa using this
  intro i hi
  have hf := hall i (by omega)
  rw [hce, Nat.mul_one, List.getElem?_eq_getElem (by omega)] at hf
  obtain ⟨s, hc, hd, _⟩ := DataW.trod_string he hf
  have h1 : cs[i]? = some (.string s) := by
    have := congrArg (·[0]?) hc
    simpa [List.getElem?_take, List.getElem?_drop] using this
  have h2 : (xs.map (·.1))[i]? = some (DataW.lit (.string s.data.toList) : DataW H) := by simp [List.getElem?_eq_getElem (show i < xs.length by omega), hd]
  rw [hxs, List.getElem?_map, List.getElem?_eq_getElem hi] at h2
  simp only [Option.map_some, Option.some.injEq, DataW.lit.injEq, Lit.string.injEq] at h2
  have : ss[i] = s := by
    apply ByteArray.ext
    exact Array.toList_inj.1 h2
  rw [h1, this]
/-- What a row's listed table of strings gives: its cells. -/
theorem tab_cells {P : Program} {W : World} {name : String} {ss : List ByteArray} {rest : List (String × DataW Unit)} {g : Nat} {t e : TypeId} {n : Nat}
    (hg : P.globalNamed name = some g) (hty : (P.globals[g]?).map (·.type) = some t) (ht : P.underlying t = some (.array n e)) (he : P.underlying e = some .string) (hce : P.cellsOf e = 1)
    (h : laidMet P ((name, .agg (ss.map fun s => .lit (.string s.data.toList))) :: rest) W) : ∀ i (hi : i < ss.length), W.cell? ⟨g, i, none⟩ = some (.string ss[i]) := by
  obtain ⟨ps, ⟨g', t', cs, fuel, p, q, hg', ht', hvar, hd, _, _⟩, _⟩ := h
  obtain rfl := Option.some.inj (hg.symm.trans hg')
  obtain rfl := Option.some.inj (hty.symm.trans ht')
  intro i hi
  have h1 := str_cells ht he hce hd i hi
  have := World.var?_cell hg hvar i
  rw [this]
  simpa using h1
theorem gMon : Tryd.prog.globalNamed "noontide/words.months" = some 0 := by kernel_rfl
theorem gMonType : (Tryd.prog.globals[0]?).map (·.type) = some 82 := by kernel_rfl
theorem gDay : Tryd.prog.globalNamed "noontide/words.weekdays" = some 1 := by kernel_rfl
theorem gDayType : (Tryd.prog.globals[1]?).map (·.type) = some 83 := by kernel_rfl
theorem cellsString : Tryd.prog.cellsOf 9 = 1 := by kernel_rfl
theorem tabs_of {W : World} (h : laidMet Tryd.prog [("noontide/words.months", .agg (Wd.months.map fun s => .lit (.string s.data.toList))), ("noontide/words.weekdays", .agg (Wd.days.map fun s => .lit (.string s.data.toList)))] W) : Wd.Tabs W := by
  have a := tab_cells gMon gMonType Tryd.underlying82 Tryd.underlying9 cellsString h
  have b := tab_cells gDay gDayType Tryd.underlying83 Tryd.underlying9 cellsString h.tail
  exact ⟨a 0 (by decide), a 1 (by decide), a 2 (by decide), a 3 (by decide), a 4 (by decide), a 5 (by decide), a 6 (by decide), a 7 (by decide), a 8 (by decide), a 9 (by decide), a 10 (by decide), a 11 (by decide), b 0 (by decide), b 1 (by decide), b 2 (by decide), b 3 (by decide), b 4 (by decide), b 5 (by decide), b 6 (by decide)⟩
/-- A list of strings that came in. -/
theorem strs_open {H : Type} {enc : TypeId × Value → H} {w : World} {base : Nat} {sp : Nat → Bool} {held : Bool} {A : Option Addr} {n c : Nat} {fuel : Nat} {x : DataW H × List MemPlace}
    (h : DataW.trod enc Tryd.prog w base sp held fuel 22 [.slice A n c] = some x) : ∃ l : List ByteArray, StS w (.slice A n c) l ∧ ∀ y ∈ l, y.size ≤ maxLen := by
  rcases open_strings Tryd.underlying22 Tryd.underlying9 cellsString h with ⟨hcs, _⟩ | ⟨a, len, cap, ss, hcs, _, hl, hm, hz, _, hcell, hsz⟩
  · injection hcs with h1 _
    rw [h1]
    exact ⟨[], StS.none _, by intro y hy; cases hy⟩
  · injection hcs with h1 _
    rw [h1]
    have hle : len ≤ ss.length := by rw [hz]; split <;> omega
    have ht : (ss.take len).length = len := by rw [List.length_take]; omega
    refine ⟨ss.take len, ?_, fun y hy => hsz y (List.mem_of_mem_take hy)⟩
    refine ⟨some a, cap, by rw [ht], fun hpos => ⟨a, rfl, ?_, ?_⟩⟩
    · rw [ht] at hpos
      have := World.block_lt_of_cell? _ _ (hcell 0 (by omega))
      rwa [blk_add] at this
    · intro j u hj
      rw [List.getElem?_map] at hj
      have hjl : j < len := by
        cases hg : (ss.take len)[j]? with
        | none => rw [hg] at hj; cases hj
        | some z => have := (List.getElem?_eq_some_iff.1 hg).1; omega
      rw [List.getElem?_take_of_lt hjl, List.getElem?_eq_getElem (by omega)] at hj
      simp only [Option.map_some, Option.some.injEq] at hj
      rw [hcell j (by omega), ← hj]
      simp [List.getD, List.getElem?_eq_getElem (show j < ss.length by omega)]
/-- The weights of strings. -/
theorem strs_weights {H : Type} {P : Program} {e : TypeId} : ∀ (l : List ByteArray) (y : ByteArray), y ∈ l → y.size ∈ DataW.weightsAll P e (strs l : List (DataW H)) := by
  intro l
  induction l with
  | nil => intro y hy; cases hy
  | cons x l ih =>
    intro y hy
    show y.size ∈ DataW.weights P e (.lit (.string x.data.toList)) ++ DataW.weightsAll P e (strs l : List (DataW H))
    rcases List.mem_cons.1 hy with rfl | hy
    · exact List.mem_append_left _ (by simp [DataW.weights])
    · exact List.mem_append_right _ (ih y hy)
/-- A list of strings that came in, none longer than memory is. -/
theorem strs_reach {H : Type} {enc : TypeId × Value → H} {w : World} {base : Nat} {sp : Nat → Bool} {held : Bool} {A : Option Addr} {n c : Nat} {fuel : Nat} {x : DataW H × List MemPlace}
    (h : DataW.trod enc Tryd.prog w base sp held fuel 22 [.slice A n c] = some x) (hw : ∀ m ∈ x.1.weights Tryd.prog 22, m ≤ reachBytes) : ∃ l : List ByteArray, StS w (.slice A n c) l ∧ ∀ y ∈ l, y.size ≤ reachBytes := by
  rcases open_strings Tryd.underlying22 Tryd.underlying9 cellsString h with ⟨hcs, _⟩ | ⟨a, len, cap, ss, hcs, _, hl, hm, hz, hx, hcell, hsz⟩
  · injection hcs with h1 _
    rw [h1]
    exact ⟨[], StS.none _, by intro y hy; cases hy⟩
  · injection hcs with h1 _
    rw [h1]
    have hle : len ≤ ss.length := by rw [hz]; split <;> omega
    have ht : (ss.take len).length = len := by rw [List.length_take]; omega
    refine ⟨ss.take len, ?_, fun y hy => hw _ ?_⟩
    · refine ⟨some a, cap, by rw [ht], fun hpos => ⟨a, rfl, ?_, ?_⟩⟩
      · rw [ht] at hpos
        have := World.block_lt_of_cell? _ _ (hcell 0 (by omega))
        rwa [blk_add] at this
      · intro j u hj
        rw [List.getElem?_map] at hj
        have hjl : j < len := by
          cases hg : (ss.take len)[j]? with
          | none => rw [hg] at hj; cases hj
          | some z => have := (List.getElem?_eq_some_iff.1 hg).1; omega
        rw [List.getElem?_take_of_lt hjl, List.getElem?_eq_getElem (by omega)] at hj
        simp only [Option.map_some, Option.some.injEq] at hj
        rw [hcell j (by omega), ← hj]
        simp [List.getD, List.getElem?_eq_getElem (show j < ss.length by omega)]
    · rw [hx]
      show y.size ∈ DataW.weights Tryd.prog 22 (.slice (strs (ss.take len)) (strs (ss.drop len)))
      simp only [DataW.weights, Tryd.underlying22]
      exact List.mem_cons_of_mem _ (List.mem_append_left _ (strs_weights _ y hy))
end Go.Proofs.YtldpchkapcnfbaaDoor
