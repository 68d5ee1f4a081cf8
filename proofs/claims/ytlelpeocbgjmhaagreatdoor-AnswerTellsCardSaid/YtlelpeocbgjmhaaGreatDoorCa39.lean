/- Joined: MnOg, AnO, StrO. -/
import Derived.Test.YtlelpeocbgjmhaaGreatDoorCa05
import Derived.SliceStrings
import Derived.OpenShut
import Derived.LaidMore
import Derived.ChangeArms
import Derived.ChangeSame
import Derived.WalkSmall
import Derived.Lib.SmallJoins
import Derived.Test.YtlelpeocbgjmhaaGreatDoorCa03
import Derived.WalkKit
import Derived.ProofKit
/- Rows of cells that came in. -/
set_option linter.unusedVariables false
set_option linter.unusedSimpArgs false
namespace Go.Proofs.YtlelpeocbgjmhaaGreatDoor
open Go.RowKit Go.Sort Go.ChangeShapes Go.WideShapes Go.Joins

theorem cellsI64 : Tryz.prog.cellsOf 2 = 1 := by kernel_rfl
theorem i64_wf {x : Int} (h : (Lit.int .i64 x).wf = true) : -9223372036854775808 ≤ x ∧ x ≤ 9223372036854775807 := by
  simp [Lit.wf, IntKind.min, IntKind.max, IntKind.signed, IntKind.bits] at h
  exact ⟨by omega, by omega⟩
section
variable {H : Type} {enc : TypeId × Value → H} {w : World} {base : Nat} {sp : Nat → Bool} {held : Bool}
theorem cells_some : ∀ {n : Nat} {p : Addr} {cs : List Value}, w.cells? base p n = some cs → cs.length = n ∧ ∀ j, j < n → w.cell? (p.add j) = cs[j]? := by
  intro n p cs h
  unfold World.cells? at h
  split at h
  · have key : ∀ (l : List Nat) (cs : List Value), l.mapM (fun i => w.cell? (p.add i)) = some cs → cs.length = l.length ∧ ∀ j (hj : j < l.length), w.cell? (p.add l[j]) = cs[j]? := by
      intro l
      induction l with
      | nil => intro cs h; simp at h; subst h; exact ⟨rfl, fun j hj => absurd hj (by simp)⟩
      | cons i l ih =>
        intro cs h
        rw [List.mapM_cons] at h
        cases h0 : w.cell? (p.add i) with
        | none => rw [h0] at h; simp at h
        | some c0 =>
          rw [h0] at h
          cases h1 : l.mapM (fun i => w.cell? (p.add i)) with
          | none => rw [h1] at h; simp at h
          | some r =>
            rw [h1] at h
            simp at h
            subst h
            obtain ⟨e, f⟩ := ih r h1
            refine ⟨by simp [e], fun j hj => ?_⟩
            cases j with
            | zero => simpa using h0
            | succ j => simpa using f j (by simpa using hj)
    obtain ⟨e, f⟩ := key _ _ h
    simp only [List.length_range] at e f
    exact ⟨e, fun j hj => by have := f j hj; simpa using this⟩
  · cases h
/-- Rows of k cells, one behind the other. -/
theorem rows_at {α : Type} {a : Addr} {k len : Nat} {enc' : α → List Value} (hk : ∀ x, (enc' x).length = k) {Q : α → Prop} (item : ∀ i, i < len → ∃ x : α, Q x ∧ ∀ j, j < k → w.cell? ((a.add (i * k)).add j) = (enc' x)[j]?) :
    ∃ l : List α, l.length = len ∧ (∀ x ∈ l, Q x) ∧ ∀ j u, (l.flatMap enc')[j]? = some u → w.cell? (a.add j) = some u := by
  have all : ∀ m, m ≤ len → ∃ l : List α, l.length = m ∧ (∀ x ∈ l, Q x) ∧ ∀ j u, (l.flatMap enc')[j]? = some u → w.cell? (a.add j) = some u := by
    intro m
    induction m with
    | zero => intro _; exact ⟨[], rfl, (fun p hp => by cases hp), (fun j u hu => by simp at hu)⟩
    | succ m ih =>
      intro hm
      obtain ⟨l, hl, hq, hc⟩ := ih (by omega)
      obtain ⟨x, qx, gx⟩ := item m (by omega)
      refine ⟨l ++ [x], by rw [List.length_append, hl]; rfl, fun y hy => ?_, fun j u hu => ?_⟩
      · rcases List.mem_append.1 hy with hy | hy
        · exact hq y hy
        · rw [List.mem_singleton.1 hy]; exact qx
      · have hcl : (l.flatMap enc').length = m * k := by
          rw [← hl]; clear hq hc hl hu
          induction l with
          | nil => simp
          | cons q r ih2 => rw [List.flatMap_cons, List.length_append, ih2, hk, List.length_cons, Nat.add_mul]; omega
        rw [List.flatMap_append] at hu
        by_cases hj : j < m * k
        · rw [List.getElem?_append_left (by omega)] at hu
          exact hc j u hu
        · rw [List.getElem?_append_right (by omega), hcl] at hu
          have e : [x].flatMap enc' = enc' x := by simp
          rw [e] at hu
          have hj2 : j - m * k < k := by
            have := (List.getElem?_eq_some_iff.1 hu).1
            rwa [hk] at this
          have g := gx (j - m * k) hj2
          rw [add_two, show m * k + (j - m * k) = j by omega, hu] at g
          exact g
  exact all len (Nat.le_refl _)
end
end Go.Proofs.YtlelpeocbgjmhaaGreatDoor

/- A local time that came in: its numbers and names, and what of it is weighed. -/
set_option linter.unusedVariables false
set_option linter.unusedSimpArgs false
namespace Go.Proofs.YtlelpeocbgjmhaaGreatDoor
open Go.RowKit Go.Sort Go.ChangeShapes Go.WideShapes Go.Joins
theorem cellsLoc : Tryz.prog.cellsOf 29 = 11 := by kernel_rfl
theorem cellsInf : Tryz.prog.cellsOf 27 = 5 := by kernel_rfl
theorem cellsVal : Tryz.prog.cellsOf 25 = 3 := by kernel_rfl
theorem cellsSpn : Tryz.prog.cellsOf 23 = 2 := by kernel_rfl
theorem cellsStN : Tryz.prog.cellsOf 9 = 1 := by kernel_rfl
theorem cellsInN : Tryz.prog.cellsOf 3 = 1 := by kernel_rfl
namespace An
def dI {H : Type} (a b c d : Int) (x : ByteArray) : DataW H := .agg [.agg [.lit (.int .i64 a), .lit (.int .i64 b)], .agg [.lit (.int .i64 c), .lit (.int .i64 d), .lit (.string x.data.toList)]]
end An
section
variable {H : Type} {enc : TypeId × Value → H} {w : World} {base : Nat} {sp : Nat → Bool} {held : Bool}
set_option maxRecDepth 100000 in
theorem an_span {n : Nat} {cs : List Value} {y : DataW H × List MemPlace} (h : DataW.trod enc Tryz.prog w base sp held n 23 cs = some y) : ∃ a b : Int, cs = [.int .i64 a, .int .i64 b] ∧ y.1 = .agg [.lit (.int .i64 a), .lit (.int .i64 b)] ∧ An.bd a ∧ An.bd b := by
  obtain ⟨y0, y1, m, hy, hl, h0, h1⟩ := trod_struct2 Tryz.underlying23 h
  rw [cellsSpn] at hl
  match cs, hl with
  | [c0, c1], _ =>
    simp only [cellsI64] at h0 h1
    obtain ⟨a, e0, f0, z0⟩ := DataW.trod_int Tryz.underlying2 h0
    obtain ⟨b, e1, f1, z1⟩ := DataW.trod_int Tryz.underlying2 h1
    simp at e0 e1
    subst e0; subst e1
    exact ⟨a, b, rfl, by rw [hy, f0, f1], i64_wf z0, i64_wf z1⟩
set_option maxRecDepth 100000 in
theorem an_value {n : Nat} {cs : List Value} {y : DataW H × List MemPlace} (h : DataW.trod enc Tryz.prog w base sp held n 25 cs = some y) : ∃ (a b : Int) (c : ByteArray), cs = [.int .i64 a, .int .i64 b, .string c] ∧ y.1 = .agg [.lit (.int .i64 a), .lit (.int .i64 b), .lit (.string c.data.toList)] ∧ An.bd a ∧ An.bd b ∧ c.size ≤ maxLen := by
  obtain ⟨xs, m, _, hy, hl, hlen, hf⟩ := DataW.trod_struct Tryz.underlying25 h
  rw [cellsVal] at hl
  match xs, hlen with
  | [y0, y1, y2], _ =>
    have h0 : DataW.trod enc Tryz.prog w base sp held m 2 ((cs.drop 0).take (Tryz.prog.cellsOf 2)) = some y0 := hf 0 _ rfl
    have h1 : DataW.trod enc Tryz.prog w base sp held m 2 ((cs.drop 1).take (Tryz.prog.cellsOf 2)) = some y1 := hf 1 _ rfl
    have h2 : DataW.trod enc Tryz.prog w base sp held m 9 ((cs.drop 2).take (Tryz.prog.cellsOf 9)) = some y2 := hf 2 _ rfl
    match cs, hl with
    | [c0, c1, c2], _ =>
      simp only [cellsI64, cellsStN] at h0 h1 h2
      obtain ⟨a, e0, f0, z0⟩ := DataW.trod_int Tryz.underlying2 h0
      obtain ⟨b, e1, f1, z1⟩ := DataW.trod_int Tryz.underlying2 h1
      obtain ⟨c, e2, f2, z2⟩ := DataW.trod_string Tryz.underlying9 h2
      simp at e0 e1 e2
      subst e0; subst e1; subst e2
      exact ⟨a, b, c, rfl, by rw [hy, f0, f1, f2]; rfl, i64_wf z0, i64_wf z1, z2⟩
set_option maxRecDepth 100000 in
theorem an_info {n : Nat} {cs : List Value} {y : DataW H × List MemPlace} (h : DataW.trod enc Tryz.prog w base sp held n 27 cs = some y) : ∃ (a b c d : Int) (x : ByteArray), cs = [.int .i64 a, .int .i64 b, .int .i64 c, .int .i64 d, .string x] ∧ y.1 = An.dI a b c d x ∧ An.bd a ∧ An.bd b ∧ An.bd c ∧ An.bd d ∧ x.size ≤ maxLen := by
  obtain ⟨y0, y1, m, hy, hl, h0, h1⟩ := trod_struct2 Tryz.underlying27 h
  rw [cellsInf] at hl
  match cs, hl with
  | [c0, c1, c2, c3, c4], _ =>
    simp only [cellsSpn, cellsVal] at h0 h1
    obtain ⟨a, b, e0, f0, za, zb⟩ := an_span h0
    obtain ⟨c, d, s, e1, f1, zc, zd, zs⟩ := an_value h1
    simp at e0 e1
    obtain ⟨rfl, rfl⟩ := e0
    obtain ⟨rfl, rfl, rfl⟩ := e1
    exact ⟨a, b, c, d, s, rfl, by rw [hy, f0, f1]; rfl, za, zb, zc, zd, zs⟩
set_option maxRecDepth 100000 in
theorem open_localk {r : Reach} {b0 : Nat} {v : Value} {dd : DataW H} {p : List MemPlace} (hv : Value.okWide Tryz.prog w r b0 29 v) (h : DataW.Trod enc Tryz.prog w base sp held 29 v dd p) :
    ∃ (k a b c d : Int) (x : ByteArray) (a' b' c' d' : Int) (x' : ByteArray), v = .agg #[.int .i64 k, .int .i64 a, .int .i64 b, .int .i64 c, .int .i64 d, .string x, .int .i64 a', .int .i64 b', .int .i64 c', .int .i64 d', .string x'] ∧
      dd = .agg [.lit (.int .i64 k), An.dI a b c d x, An.dI a' b' c' d' x'] ∧ (An.bd a ∧ An.bd b ∧ An.bd c ∧ An.bd d) ∧ (An.bd a' ∧ An.bd b' ∧ An.bd c' ∧ An.bd d') ∧ An.bd k := by
  obtain ⟨cs, rfl, hsz⟩ := okWide_struct Tryz.underlying29 hv
  obtain ⟨fuel, hf⟩ := h
  obtain ⟨xs, m, _, hy, hl, hlen, hf⟩ := DataW.trod_struct Tryz.underlying29 hf
  rw [cellsLoc] at hl
  obtain ⟨ct, rfl⟩ : ∃ l : List Value, cs = l.toArray := ⟨cs.toList, by simp⟩
  have hl : ct.length = 11 := hl
  match xs, hlen with
  | [y0, y1, y2], _ =>
    have h0 : DataW.trod enc Tryz.prog w base sp held m 3 ((ct.drop 0).take (Tryz.prog.cellsOf 3)) = some y0 := hf 0 _ rfl
    have h1 : DataW.trod enc Tryz.prog w base sp held m 27 ((ct.drop 1).take (Tryz.prog.cellsOf 27)) = some y1 := hf 1 _ rfl
    have h2 : DataW.trod enc Tryz.prog w base sp held m 27 ((ct.drop 6).take (Tryz.prog.cellsOf 27)) = some y2 := hf 2 _ rfl
    match ct, hl with
    | [c0, c1, c2, c3, c4, c5, c6, c7, c8, c9, c10], _ =>
      simp only [cellsInN, cellsInf] at h0 h1 h2
      obtain ⟨k, e0, f0, z0⟩ := DataW.trod_int Tryz.underlying3 h0
      obtain ⟨a, b, c, d, x, e1, f1, q1, q2, q3, q4, -⟩ := an_info h1
      obtain ⟨a', b', c', d', x', e2, f2, q1', q2', q3', q4', -⟩ := an_info h2
      simp at e0 e1 e2
      subst e0
      obtain ⟨rfl, rfl, rfl, rfl, rfl⟩ := e1
      obtain ⟨rfl, rfl, rfl, rfl, rfl⟩ := e2
      refine ⟨k, a, b, c, d, x, a', b', c', d', x', rfl, ?_, ⟨q1, q2, q3, q4⟩, ⟨q1', q2', q3', q4'⟩, i64_wf z0⟩
      have := congrArg Prod.fst hy
      simp only [] at this
      rw [this, List.map_cons, List.map_cons, List.map_cons, List.map_nil, f0, f1, f2]
set_option maxRecDepth 100000 in
theorem open_local {r : Reach} {b0 : Nat} {v : Value} {dd : DataW H} {p : List MemPlace} (hv : Value.okWide Tryz.prog w r b0 29 v) (h : DataW.Trod enc Tryz.prog w base sp held 29 v dd p) :
    ∃ (k a b c d : Int) (x : ByteArray) (a' b' c' d' : Int) (x' : ByteArray), v = .agg #[.int .i64 k, .int .i64 a, .int .i64 b, .int .i64 c, .int .i64 d, .string x, .int .i64 a', .int .i64 b', .int .i64 c', .int .i64 d', .string x'] ∧
      dd = .agg [.lit (.int .i64 k), An.dI a b c d x, An.dI a' b' c' d' x'] ∧ (An.bd a ∧ An.bd b ∧ An.bd c ∧ An.bd d) ∧ (An.bd a' ∧ An.bd b' ∧ An.bd c' ∧ An.bd d') := by
  obtain ⟨k, a, b, c, d, x, a', b', c', d', x', h1, h2, h3, h4, -⟩ := open_localk hv h
  exact ⟨k, a, b, c, d, x, a', b', c', d', x', h1, h2, h3, h4⟩
theorem cellsFlt : Tryz.prog.cellsOf 32 = 2 := by kernel_rfl
set_option maxRecDepth 100000 in
theorem open_fault {r : Reach} {b0 : Nat} {v : Value} {d : DataW H} {p : List MemPlace} (hv : Value.okWide Tryz.prog w r b0 32 v) (h : DataW.Trod enc Tryz.prog w base sp held 32 v d p) :
    ∃ a b : Int, v = .agg #[.int .i64 a, .int .i64 b] ∧ An.bd a ∧ An.bd b := by
  obtain ⟨v0, v1, y0, y1, n, rfl, -, -, h0, h1⟩ := open_agg2 Tryz.underlying32 (by kernel_rfl) cellsFlt hv h
  obtain ⟨a, e0, -, z0⟩ := DataW.trod_int Tryz.underlying3 h0
  obtain ⟨b, e1, -, z1⟩ := DataW.trod_int Tryz.underlying30 h1
  simp at e0 e1
  subst e0; subst e1
  exact ⟨a, b, rfl, i64_wf z0, i64_wf z1⟩
end
theorem local_weighs {H : Type} (k a b c d : Int) (x : ByteArray) (a' b' c' d' : Int) (x' : ByteArray) :
    x.data.toList.length ∈ DataW.weights (H := H) Tryz.prog 29 (.agg [.lit (.int .i64 k), An.dI a b c d x, An.dI a' b' c' d' x']) ∧ x'.data.toList.length ∈ DataW.weights (H := H) Tryz.prog 29 (.agg [.lit (.int .i64 k), An.dI a b c d x, An.dI a' b' c' d' x']) := by
  unfold An.dI
  simp [DataW.weights, DataW.weightsEach, Tryz.underlying29, Tryz.underlying27, Tryz.underlying25, Tryz.underlying23]
end Go.Proofs.YtlelpeocbgjmhaaGreatDoor

/- A list of strings that came in, as the walks ask for it. -/
set_option linter.unusedVariables false
set_option linter.unusedSimpArgs false
namespace Go.Proofs.YtlelpeocbgjmhaaGreatDoor
open Go.RowKit Go.Sort Go.ChangeShapes

theorem cellsStrO : Tryz.prog.cellsOf 9 = 1 := by kernel_rfl
/-- A list of strings that came in. -/
theorem strs_in {H : Type} {enc : TypeId × Value → H} {w : World} {base : Nat} {sp : Nat → Bool} {held : Bool} {A : Option Addr} {n c : Nat} {fuel : Nat} {x : DataW H × List MemPlace}
    (h : DataW.trod enc Tryz.prog w base sp held fuel 33 [.slice A n c] = some x) : ∃ l : List ByteArray, StS w (.slice A n c) l ∧ ∀ y ∈ l, y.size ≤ maxLen := by
  rcases open_strings Tryz.underlying33 Tryz.underlying9 cellsStrO h with ⟨hcs, _⟩ | ⟨a, len, cap, ss, hcs, _, hl, hm, hz, _, hcell, hsz⟩
  · injection hcs with h1 _
    rw [h1]
    exact ⟨[], Lst.nil _ _, by intro y hy; cases hy⟩
  · injection hcs with h1 _
    rw [h1]
    have hle : len ≤ ss.length := by rw [hz]; split <;> omega
    have ht : (ss.take len).length = len := by rw [List.length_take]; omega
    refine ⟨ss.take len, ?_, fun y hy => hsz y (List.mem_of_mem_take hy)⟩
    refine ⟨some a, cap, by rw [ht], fun hpos => ⟨a, rfl, ?_, ?_⟩⟩
    · rw [ht] at hpos
      have := World.block_lt_of_cell? _ _ (hcell 0 (by omega))
      rwa [blk_add] at this
    · intro j u hj
      rw [List.getElem?_map] at hj
      have hjl : j < len := by
        cases hg : (ss.take len)[j]? with
        | none => rw [hg] at hj; cases hj
        | some z => have := (List.getElem?_eq_some_iff.1 hg).1; omega
      rw [List.getElem?_take_of_lt hjl, List.getElem?_eq_getElem (by omega)] at hj
      simp only [Option.map_some, Option.some.injEq] at hj
      rw [hcell j (by omega), ← hj]
      simp [List.getD, List.getElem?_eq_getElem (show j < ss.length by omega)]
/-- .. and its room. -/
theorem strs_room {H : Type} {enc : TypeId × Value → H} {w : World} {base : Nat} {sp : Nat → Bool} {held : Bool} {A : Option Addr} {n c : Nat} {fuel : Nat} {x : DataW H × List MemPlace}
    (h : DataW.trod enc Tryz.prog w base sp held fuel 33 [.slice A n c] = some x) : ∃ l : List ByteArray, StS w (.slice A n c) l ∧ n ≤ c ∧ ∀ y ∈ l, y.size ≤ maxLen := by
  have hnc : n ≤ c := by
    rcases open_strings Tryz.underlying33 Tryz.underlying9 cellsStrO h with ⟨hcs, _⟩ | ⟨a, len, cap, ss, hcs, _, hl, hm, hz, _, hcell, hsz⟩
    · injection hcs with h1 _
      injection h1 with _ h2 h3
      omega
    · injection hcs with h1 _
      injection h1 with _ h2 h3
      omega
  obtain ⟨l, h1, h2⟩ := strs_in h
  exact ⟨l, h1, hnc, h2⟩
end Go.Proofs.YtlelpeocbgjmhaaGreatDoor
