/- Joined: MnOg, AwO. -/
import Derived.Test.YtjnhaabbnbcaeaaBx02
import Derived.SliceStrings
import Derived.OpenShut
import Derived.LaidMore
import Derived.ChangeArms
import Derived.ChangeSame
import Derived.WalkSmall
import Derived.Lib.SmallJoins
import Derived.Test.YtjnhaabbnbcaeaaBx10
/- Rows of cells that came in. -/
set_option linter.unusedVariables false
set_option linter.unusedSimpArgs false
namespace Go.Proofs.Ytjnhaabbnbcaeaa
open Go.RowKit Go.Sort Go.ChangeShapes Go.WideShapes Go.Joins

theorem cellsI64 : Try.prog.cellsOf 2 = 1 := by kernel_rfl
theorem i64_wf {x : Int} (h : (Lit.int .i64 x).wf = true) : -9223372036854775808 ≤ x ∧ x ≤ 9223372036854775807 := by
  simp [Lit.wf, IntKind.min, IntKind.max, IntKind.signed, IntKind.bits] at h
  exact ⟨by omega, by omega⟩
section
variable {H : Type} {enc : TypeId × Value → H} {w : World} {base : Nat} {sp : Nat → Bool} {held : Bool}
theorem cells_some : ∀ {n : Nat} {p : Addr} {cs : List Value}, w.cells? base p n = some cs → cs.length = n ∧ ∀ j, j < n → w.cell? (p.add j) = cs[j]? := by
  intro n p cs h
  unfold World.cells? at h
  split at h
  · have key : ∀ (l : List Nat) (cs : List Value), l.mapM (fun i => w.cell? (p.add i)) = some cs → cs.length = l.length ∧ ∀ j (hj : j < l.length), w.cell? (p.add l[j]) = cs[j]? := by
      intro l
      induction l with
      | nil => intro cs h; simp at h; subst h; exact ⟨rfl, fun j hj => absurd hj (by simp)⟩
      | cons i l ih =>
        intro cs h
        rw [List.mapM_cons] at h
        cases h0 : w.cell? (p.add i) with
        | none => rw [h0] at h; simp at h
        | some c0 =>
          rw [h0] at h
          cases h1 : l.mapM (fun i => w.cell? (p.add i)) with
          | none => rw [h1] at h; simp at h
          | some r =>
            rw [h1] at h
            simp at h
            subst h
            obtain ⟨e, f⟩ := ih r h1
            refine ⟨by simp [e], fun j hj => ?_⟩
            cases j with
            | zero => simpa using h0
            | succ j => simpa using f j (by simpa using hj)
    obtain ⟨e, f⟩ := key _ _ h
    simp only [List.length_range] at e f
    exact ⟨e, fun j hj => by have := f j hj; simpa using this⟩
  · cases h
/-- Rows of k cells, one behind the other. -/
theorem rows_at {α : Type} {a : Addr} {k len : Nat} {enc' : α → List Value} (hk : ∀ x, (enc' x).length = k) {Q : α → Prop} (item : ∀ i, i < len → ∃ x : α, Q x ∧ ∀ j, j < k → w.cell? ((a.add (i * k)).add j) = (enc' x)[j]?) :
    ∃ l : List α, l.length = len ∧ (∀ x ∈ l, Q x) ∧ ∀ j u, (l.flatMap enc')[j]? = some u → w.cell? (a.add j) = some u := by
  have all : ∀ m, m ≤ len → ∃ l : List α, l.length = m ∧ (∀ x ∈ l, Q x) ∧ ∀ j u, (l.flatMap enc')[j]? = some u → w.cell? (a.add j) = some u := by
    intro m
    induction m with
    | zero => intro _; exact ⟨[], rfl, (fun p hp => by cases hp), (fun j u hu => by simp at hu)⟩
    | succ m ih =>
      intro hm
      obtain ⟨l, hl, hq, hc⟩ := ih (by omega)
      obtain ⟨x, qx, gx⟩ := item m (by omega)
      refine ⟨l ++ [x], by rw [List.length_append, hl]; rfl, fun y hy => ?_, fun j u hu => ?_⟩
      · rcases List.mem_append.1 hy with hy | hy
        · exact hq y hy
        · rw [List.mem_singleton.1 hy]; exact qx
      · have hcl : (l.flatMap enc').length = m * k := by
          rw [← hl]; clear hq hc hl hu
          induction l with
          | nil => simp
          | cons q r ih2 => rw [List.flatMap_cons, List.length_append, ih2, hk, List.length_cons, Nat.add_mul]; omega
        rw [List.flatMap_append] at hu
        by_cases hj : j < m * k
        · rw [List.getElem?_append_left (by omega)] at hu
          exact hc j u hu
        · rw [List.getElem?_append_right (by omega), hcl] at hu
          have e : [x].flatMap enc' = enc' x := by simp
          rw [e] at hu
          have hj2 : j - m * k < k := by
            have := (List.getElem?_eq_some_iff.1 hu).1
            rwa [hk] at this
          have g := gx (j - m * k) hj2
          rw [add_two, show m * k + (j - m * k) = j by omega, hu] at g
          exact g
  exact all len (Nat.le_refl _)
end
end Go.Proofs.Ytjnhaabbnbcaeaa

/- Rules in memory, and rules that came in: one by value, a list of them. -/
set_option linter.unusedVariables false
set_option linter.unusedSimpArgs false
namespace Go.Proofs.Ytjnhaabbnbcaeaa
open Go.RowKit Go.Sort Go.ChangeShapes Go.WideShapes Go.Joins

theorem cellsRule : Try.prog.cellsOf 27 = 11 := by kernel_rfl
theorem cellsOn : Try.prog.cellsOf 23 = 3 := by kernel_rfl
theorem cellsAt : Try.prog.cellsOf 25 = 2 := by kernel_rfl
theorem cellsIntR : Try.prog.cellsOf 3 = 1 := by kernel_rfl
theorem cellsStrR : Try.prog.cellsOf 9 = 1 := by kernel_rfl
section
variable {H : Type} {enc : TypeId × Value → H} {w : World} {base : Nat} {sp : Nat → Bool} {held : Bool}
set_option maxRecDepth 100000 in
theorem on_cells {n : Nat} {cs : List Value} {y : DataW H × List MemPlace} (h : DataW.trod enc Try.prog w base sp held n 23 cs = some y) : ∃ a b c : Int, cs = [.int .i64 a, .int .i64 b, .int .i64 c] := by
  obtain ⟨xs, m, _, -, hl, hlen, hf⟩ := DataW.trod_struct Try.underlying23 h
  rw [cellsOn] at hl
  match xs, hlen with
  | [y0, y1, y2], _ =>
    have h0 : DataW.trod enc Try.prog w base sp held m 3 ((cs.drop 0).take (Try.prog.cellsOf 3)) = some y0 := hf 0 _ rfl
    have h1 : DataW.trod enc Try.prog w base sp held m 3 ((cs.drop 1).take (Try.prog.cellsOf 3)) = some y1 := hf 1 _ rfl
    have h2 : DataW.trod enc Try.prog w base sp held m 3 ((cs.drop 2).take (Try.prog.cellsOf 3)) = some y2 := hf 2 _ rfl
    match cs, hl with
    | [c0, c1, c2], _ =>
      simp only [cellsIntR] at h0 h1 h2
      obtain ⟨a, e0, -, -⟩ := DataW.trod_int Try.underlying3 h0
      obtain ⟨b, e1, -, -⟩ := DataW.trod_int Try.underlying3 h1
      obtain ⟨c, e2, -, -⟩ := DataW.trod_int Try.underlying3 h2
      simp at e0 e1 e2
      subst e0; subst e1; subst e2
      exact ⟨a, b, c, rfl⟩
set_option maxRecDepth 100000 in
theorem at_cells {n : Nat} {cs : List Value} {y : DataW H × List MemPlace} (h : DataW.trod enc Try.prog w base sp held n 25 cs = some y) : ∃ a b : Int, cs = [.int .i64 a, .int .i64 b] := by
  obtain ⟨y0, y1, m, -, hl, h0, h1⟩ := trod_struct2 Try.underlying25 h
  rw [cellsAt] at hl
  match cs, hl with
  | [c0, c1], _ =>
    simp only [cellsI64, cellsIntR] at h0 h1
    obtain ⟨a, e0, -, -⟩ := DataW.trod_int Try.underlying2 h0
    obtain ⟨b, e1, -, -⟩ := DataW.trod_int Try.underlying3 h1
    simp at e0 e1
    subst e0; subst e1
    exact ⟨a, b, rfl⟩
set_option maxRecDepth 100000 in
theorem rule_cells {n : Nat} {cs : List Value} {y : DataW H × List MemPlace} (h : DataW.trod enc Try.prog w base sp held n 27 cs = some y) : ∃ r : Aw.R, cs = Aw.enc r ∧ r.1.size ≤ maxLen ∧ r.2.2.2.2.2.2.2.2.2.2.size ≤ maxLen := by
  obtain ⟨xs, m, _, -, hl, hlen, hf⟩ := DataW.trod_struct Try.underlying27 h
  rw [cellsRule] at hl
  match xs, hlen with
  | [y0, y1, y2, y3, y4, y5, y6, y7], _ =>
    have h0 : DataW.trod enc Try.prog w base sp held m 9 ((cs.drop 0).take (Try.prog.cellsOf 9)) = some y0 := hf 0 _ rfl
    have h1 : DataW.trod enc Try.prog w base sp held m 3 ((cs.drop 1).take (Try.prog.cellsOf 3)) = some y1 := hf 1 _ rfl
    have h2 : DataW.trod enc Try.prog w base sp held m 3 ((cs.drop 2).take (Try.prog.cellsOf 3)) = some y2 := hf 2 _ rfl
    have h3 : DataW.trod enc Try.prog w base sp held m 3 ((cs.drop 3).take (Try.prog.cellsOf 3)) = some y3 := hf 3 _ rfl
    have h4 : DataW.trod enc Try.prog w base sp held m 23 ((cs.drop 4).take (Try.prog.cellsOf 23)) = some y4 := hf 4 _ rfl
    have h5 : DataW.trod enc Try.prog w base sp held m 25 ((cs.drop 7).take (Try.prog.cellsOf 25)) = some y5 := hf 5 _ rfl
    have h6 : DataW.trod enc Try.prog w base sp held m 2 ((cs.drop 9).take (Try.prog.cellsOf 2)) = some y6 := hf 6 _ rfl
    have h7 : DataW.trod enc Try.prog w base sp held m 9 ((cs.drop 10).take (Try.prog.cellsOf 9)) = some y7 := hf 7 _ rfl
    match cs, hl with
    | [c0, c1, c2, c3, c4, c5, c6, c7, c8, c9, c10], _ =>
      simp only [cellsI64, cellsIntR, cellsStrR, cellsOn, cellsAt] at h0 h1 h2 h3 h4 h5 h6 h7
      obtain ⟨s, e0, -, z0⟩ := DataW.trod_string Try.underlying9 h0
      obtain ⟨fy, e1, -, -⟩ := DataW.trod_int Try.underlying3 h1
      obtain ⟨ty, e2, -, -⟩ := DataW.trod_int Try.underlying3 h2
      obtain ⟨mo, e3, -, -⟩ := DataW.trod_int Try.underlying3 h3
      obtain ⟨k, wk, d, e4⟩ := on_cells h4
      obtain ⟨sec, ba, e5⟩ := at_cells h5
      obtain ⟨sa, e6, -, -⟩ := DataW.trod_int Try.underlying2 h6
      obtain ⟨t, e7, -, z7⟩ := DataW.trod_string Try.underlying9 h7
      simp at e0 e1 e2 e3 e4 e5 e6 e7
      obtain ⟨rfl, rfl, rfl⟩ := e4
      obtain ⟨rfl, rfl⟩ := e5
      subst e0; subst e1; subst e2; subst e3; subst e6; subst e7
      exact ⟨(s, fy, ty, mo, k, wk, d, sec, ba, sa, t), rfl, z0, z7⟩
set_option maxRecDepth 100000 in
theorem open_rule {r : Reach} {b0 : Nat} {v : Value} {d : DataW H} {p : List MemPlace} (hv : Value.okWide Try.prog w r b0 27 v) (h : DataW.Trod enc Try.prog w base sp held 27 v d p) :
    ∃ x : Aw.R, v = Aw.RV x ∧ x.1.size ≤ maxLen ∧ x.2.2.2.2.2.2.2.2.2.2.size ≤ maxLen := by
  obtain ⟨cs, rfl, hsz⟩ := okWide_struct Try.underlying27 hv
  obtain ⟨fuel, hf⟩ := h
  obtain ⟨x, e, z0, z1⟩ := rule_cells hf
  refine ⟨x, ?_, z0, z1⟩
  have e' : cs.toList = Aw.enc x := e
  rw [Aw.RV, ← e']
theorem rules_in {A : Option Addr} {n c : Nat} {fuel : Nat} {x : DataW H × List MemPlace} (h : DataW.trod enc Try.prog w base sp held fuel 30 [.slice A n c] = some x) :
    ∃ l : List Aw.R, RuV w (.slice A n c) l ∧ (∀ r ∈ l, r.1.size ≤ maxLen ∧ r.2.2.2.2.2.2.2.2.2.2.size ≤ maxLen) ∧ l.length ≤ maxLen := by
  rcases DataW.trod_slice Try.underlying30 h with ⟨hcs, _⟩ | ⟨a, len, cap, elems, rest, m, _, hcs, _, _, hlc, hcm, hlen, hel, _, _⟩
  · injection hcs with h1 _
    rw [h1]
    exact ⟨[], Lst.nil _ _, (fun p hp => by cases hp), by simp [maxLen]⟩
  · injection hcs with h1 _
    rw [h1]
    obtain ⟨l, hl, hz, hc⟩ := rows_at (w := w) (a := a) (k := 11) (len := len) (enc' := Aw.enc) Aw.enc_len (Q := fun r => r.1.size ≤ maxLen ∧ r.2.2.2.2.2.2.2.2.2.2.size ≤ maxLen) (fun i hi => by
      have := hel i hi
      rw [cellsRule, List.getElem?_eq_getElem (by omega), Option.bind_eq_some_iff] at this
      obtain ⟨cs, hcs, hy⟩ := this
      obtain ⟨p, rfl, z⟩ := rule_cells hy
      exact ⟨p, z, (cells_some hcs).2⟩)
    refine ⟨l, ⟨some a, cap, by rw [hl], fun hpos => ⟨a, rfl, ?_, hc⟩⟩, hz, by omega⟩
    match l, hpos with
    | p :: r, _ =>
      obtain ⟨s, fy, ty, m, k, wk, d, sec, ba, sa, t⟩ := p
      have := World.block_lt_of_cell? _ _ (hc 0 (.string s) rfl)
      rwa [blk_add] at this
end
end Go.Proofs.Ytjnhaabbnbcaeaa
