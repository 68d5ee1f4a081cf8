/- Infos sorted by where they begin. -/
import Derived.Test.YtmnmmbeageddkaaIfG
import Derived.Test.YtmnmmbeageddkaaSsA
import Derived.Test.YtmnmmbeageddkaaIfA
import Derived.Test.YtmnmmbeageddkaaLaidI
set_option linter.unusedVariables false
set_option linter.unusedSimpArgs false
namespace Go.Proofs.Ytmnmmbeageddkaa
open Go.RowKit Go.Sort Go.Shelf

namespace If
instance : Inhabited I := ⟨(0, 0, 0, 0, ⟨#[]⟩)⟩
def cf (x y : I) : Int := Lib.compareInt x.1 y.1
theorem ltE (x y : I) : ltOf cf x y = decide (x.1 < y.1) := by
  unfold ltOf cf Lib.compareInt
  by_cases h1 : x.1 < y.1
  · simp [h1]
  · by_cases h2 : y.1 < x.1 <;> simp [h1, h2]
theorem swo : SWO (ltOf cf) where
  irrefl x := by rw [ltE]; simp
  trans x y z h1 h2 := by rw [ltE] at *; simp at *; omega
  ntrans x y z h1 h2 := by rw [ltE] at *; simp at *; omega
end If
set_option maxHeartbeats 1000000 in
theorem inf_cmp (x y : If.I) (W : World) : Calls Try.prog 49 #[.agg #[.int .i64 x.1, .int .i64 x.2.1, .int .i64 x.2.2.1, .int .i64 x.2.2.2.1, .string x.2.2.2.2], .agg #[.int .i64 y.1, .int .i64 y.2.1, .int .i64 y.2.2.1, .int .i64 y.2.2.2.1, .string y.2.2.2.2]] W fun e w' => e = .returned (.int .i64 (If.cf x y)) ∧ ∃ q os', w' = grow (W.drewN q) os' := by
  unfold If.cf
  have hcon := fun W' => cmp_i64 x.1 y.1 W'
  generalize Lib.compareInt x.1 y.1 = r at hcon ⊢
  go_enter Try.func49, Try.ntmps49
  go_wp2_with (go_at_call 50; refine (hcon _).mono ?_; rintro e w' ⟨rfl, rfl⟩)
  go_ret
  exact ⟨rfl, 0, _, by rw [alloc_eq_grow, alloc_eq_grow, grow_grow]; rfl⟩
theorem inf_lays (blk off size : Nat) (w : World) : CmpLays Try.prog 49 #[] If.enc 5 If.cf blk off size w :=
  fun _ _ _ _ x y => inf_cmp x y _
theorem inf_sort (blk off cap : Nat) (d : Array If.I) (w : World) (hH : HoldsK If.enc 5 w blk off d) (hblk : blk < w.heap.size) (hsz : d.size < 4611686018427387904) :
    Calls Try.prog 48 #[.slice (some ⟨blk, off, none⟩) d.size cap, .func (.func 49) #[] #[]] w fun e w' => e = .returned (.tuple #[]) ∧ ∃ d' n os, PermIn 0 d.size d d' ∧ SortedIn (ltOf If.cf) 0 d.size d' ∧ w' = sortWorldK If.enc 5 w blk off n d' os := by
  have eg : ∀ args w, (callFunc 49 args).run Try.prog w = .ok (.enter 49 args) w := enters_of Try.func49 (by kernel_rfl) rfl
  have hcon := AnyQ.slices_SortFunc Try.sortInfo 5 Try.isAgg36 Try.sizeOf36 If.enc (fun _ => rfl) (fun x v hv => by simp [If.enc] at hv; rcases hv with rfl | rfl | rfl | rfl | rfl <;> rfl) If.cf If.swo 49 #[] blk off cap d w eg (inf_lays blk off d.size w) hH hblk hsz
  exact hcon
/-- A row of cells in a block, from its beginning. -/
def RowC (W : World) (g : Nat) (xs : List Value) : Prop := g < W.heap.size ∧ (∀ j u, xs[j]? = some u → W.cell? ⟨g, j, none⟩ = some u) ∧ ∀ j, j < xs.length → W.frozen? ⟨g, j, none⟩ = false
theorem ifc_at' (d : List If.I) (j : Nat) (hj : j < d.length * 5) : (If.ifc d)[j]? = (If.enc (d[j / 5]'(by omega)))[j % 5]? := by
  have := If.ifc_at d (j / 5) (j % 5) (by omega) (Nat.mod_lt _ (by omega))
  rwa [show j / 5 * 5 + j % 5 = j by omega] at this
/-- An own row, for the sort; and as a row of cells behind it. -/
theorem inf_holds {w : World} {base g cap : Nat} {d : List If.I} {n : Nat} (hn : n = d.length) (h : w.ownsRow base 36 5 (.slice (some ⟨g, 0, none⟩) n cap) n (If.ifc d)) : HoldsK If.enc 5 w g 0 d.toArray ∧ g < w.heap.size ∧ base ≤ g := by
  obtain ⟨A, c, hv, ha⟩ := Lst.own h
  cases hv
  rcases h.2 with ⟨e, _⟩ | ⟨g', cap', cur, e, hb, hg, h1, h2, h3, h4⟩
  · cases e
  cases e
  refine ⟨?_, (Array.getElem?_eq_some_iff.1 hg).1, hb⟩
  intro j hj
  rw [size_flatK] at hj
  have hj' : j < d.length * 5 := by simpa using hj
  rw [get_flatK _ _ _ _ hj]
  have hk : j / 5 < d.length := by omega
  refine ⟨?_, by simp [World.frozen?, hg]⟩
  obtain ⟨a, e, _, hc⟩ := ha (by omega)
  cases e
  have hl : j % 5 < (If.enc d[j / 5]).length := Nat.mod_lt _ (by omega)
  have := ifc_at' d j hj'
  rw [List.getElem?_eq_getElem hl] at this
  have e1 : d.toArray[j / 5]! = d[j / 5] := by simp [hk]
  rw [e1, show (If.enc d[j / 5])[j % 5]! = (If.enc d[j / 5])[j % 5] by simp [hl]]
  have h9 := hc j _ this
  rw [add_off] at h9
  rw [Nat.zero_add]; exact h9
theorem holds_row {w : World} {g : Nat} {d : List If.I} (hb : g < w.heap.size) (h : HoldsK If.enc 5 w g 0 d.toArray) : RowC w g (If.ifc d) := by
  have key : ∀ j, j < d.length * 5 → ∃ u, (If.ifc d)[j]? = some u ∧ w.cell? ⟨g, j, none⟩ = some u ∧ w.frozen? ⟨g, j, none⟩ = false := by
    intro j hj
    have hk : j / 5 < d.length := by omega
    have hl : j % 5 < (If.enc d[j / 5]).length := Nat.mod_lt _ (by omega)
    have := ifc_at' d j hj
    rw [List.getElem?_eq_getElem hl] at this
    have hc := h.cell (i := j / 5) (c := j % 5) (by simpa using hk) (Nat.mod_lt _ (by omega))
    have e1 : d.toArray[j / 5]! = d[j / 5] := by simp [hk]
    rw [e1, show 0 + j / 5 * 5 + j % 5 = j by omega, show (If.enc d[j / 5])[j % 5]! = (If.enc d[j / 5])[j % 5] by simp [hl]] at hc
    exact ⟨_, this, hc.1, hc.2⟩
  refine ⟨hb, fun j u hu => ?_, fun j hj => ?_⟩
  · have hj := (List.getElem?_eq_some_iff.1 hu).1
    rw [If.ifc_len] at hj
    obtain ⟨u', h1, h2, _⟩ := key j hj
    rw [hu] at h1
    cases h1
    exact h2
  · rw [If.ifc_len] at hj
    obtain ⟨_, _, _, h3⟩ := key j hj
    exact h3
theorem RowC.inv {w : World} {g cap n : Nat} {d : List If.I} (hn : n = d.length) (h : RowC w g (If.ifc d)) : InV w (.slice (some ⟨g, 0, none⟩) n cap) d :=
  ⟨some ⟨g, 0, none⟩, cap, by rw [hn], fun _ => ⟨_, rfl, h.1, fun j u hu => by rw [add_off]; exact h.2.1 j u hu⟩⟩
theorem RowC.drewN {w : World} {g : Nat} {xs : List Value} (h : RowC w g xs) (n : Nat) : RowC (w.drewN n) g xs := h
/-- One cell stored. -/
theorem RowC.set {w : World} {g : Nat} {xs : List Value} (h : RowC w g xs) (j : Nat) (u : Value) : RowC (w.setCell ⟨g, j, none⟩ u) g (xs.set j u) := by
  refine ⟨?_, fun i v hv => ?_, fun i hi => ?_⟩
  · unfold World.setCell; simp; exact h.1
  · by_cases e : j = i
    · subst e
      have hj : j < xs.length := by
        have := (List.getElem?_eq_some_iff.1 hv).1
        simpa using this
      rw [List.getElem?_set_self hj] at hv
      cases hv
      exact World.cell?_setCell_same _ _ _ (h.2.1 j xs[j] (by simp [hj]))
    · rw [List.getElem?_set_ne e] at hv
      rw [World.cell?_setCell_other _ _ _ _ (by intro h; cases h; exact e rfl)]
      exact h.2.1 i v hv
  · rw [World.frozen?_setCell]
    exact h.2.2 i (by simpa using hi)
theorem set_grown (w : World) (g j : Nat) (u : Value) : w.grownBy (w.setCell ⟨g, j, none⟩ u) (some g) := ⟨rfl, rfl, rfl, by unfold World.setCell; simp, fun k hk hne => by
  unfold World.setCell
  have : g ≠ k := fun e => hne (congrArg some e.symm)
  simp [Array.getElem?_modify, this]⟩
theorem ifc_set (d : List If.I) (k : Nat) (hk : k < d.length) (p : If.I) : (((((If.ifc d).set (k * 5) (.int .i64 p.1)).set (k * 5 + 1) (.int .i64 p.2.1)).set (k * 5 + 2) (.int .i64 p.2.2.1)).set (k * 5 + 3) (.int .i64 p.2.2.2.1)).set (k * 5 + 4) (.string p.2.2.2.2) = If.ifc (d.set k p) := by
  induction d generalizing k with
  | nil => exact absurd hk (by simp)
  | cons x d ih =>
    cases k with
    | zero => rfl
    | succ k =>
      have := ih k (by simpa using hk)
      rw [If.ifc_cons, List.set_cons_succ, If.ifc_cons, ← this, show (k + 1) * 5 = k * 5 + 1 + 1 + 1 + 1 + 1 by omega]
      rfl
/-- One info stored. -/
theorem RowC.set5 {w : World} {g : Nat} {d : List If.I} (h : RowC w g (If.ifc d)) (k : Nat) (hk : k < d.length) (p : If.I) :
    RowC (((((w.setCell ⟨g, k * 5, none⟩ (.int .i64 p.1)).setCell ⟨g, k * 5 + 1, none⟩ (.int .i64 p.2.1)).setCell ⟨g, k * 5 + 2, none⟩ (.int .i64 p.2.2.1)).setCell ⟨g, k * 5 + 3, none⟩ (.int .i64 p.2.2.2.1)).setCell ⟨g, k * 5 + 4, none⟩ (.string p.2.2.2.2)) g (If.ifc (d.set k p)) := by
  rw [← ifc_set d k hk p]
  exact ((((h.set _ _).set _ _).set _ _).set _ _).set _ _
namespace If
/-- What is left when those that are as the one ahead are taken out. -/
def dd2 : I → List I → List I
  | _, [] => []
  | p, y :: l => if y = p then dd2 y l else y :: dd2 y l
def dd : List I → List I
  | [] => []
  | x :: l => x :: dd2 x l
theorem dd_at (d : List I) (k : Nat) (h0 : 1 ≤ k) (h : k ≤ d.length) (hn : ∀ j, 1 ≤ j → (hj : j < k) → d[j]'(by omega) ≠ d[j - 1]'(by omega)) : dd d = d.take k ++ dd2 (d[k - 1]'(by omega)) (d.drop k) := by
  induction k with
  | zero => omega
  | succ k ih =>
    rcases Nat.eq_zero_or_pos k with e | e
    · subst e
      match d, h with
      | x :: l, _ => simp [dd]
    · have a := ih e (by omega) (fun j h1 h2 => hn j h1 (by omega))
      have hk : k < d.length := by omega
      rw [a, List.take_succ_eq_append_getElem hk, List.drop_eq_getElem_cons hk, dd2, if_neg (hn k e (by omega)), List.append_assoc]
      rfl
theorem dd_all (d : List I) (h : d.length < 2) : dd d = d := by
  match d, h with
  | [], _ => rfl
  | [x], _ => rfl
end If
theorem if_cmp (x y : If.I) : x = y ∨ (¬ x = y ∧ ((x.1 == y.1) = false ∨ (x.1 = y.1 ∧ (x.2.1 == y.2.1) = false) ∨ (x.1 = y.1 ∧ x.2.1 = y.2.1 ∧ (x.2.2.1 == y.2.2.1) = false) ∨ (x.1 = y.1 ∧ x.2.1 = y.2.1 ∧ x.2.2.1 = y.2.2.1 ∧ (x.2.2.2.1 == y.2.2.2.1) = false) ∨
    (x.1 = y.1 ∧ x.2.1 = y.2.1 ∧ x.2.2.1 = y.2.2.1 ∧ x.2.2.2.1 = y.2.2.2.1 ∧ ¬ x.2.2.2.2.toList = y.2.2.2.2.toList ∧ (x.2.2.2.2.toList == y.2.2.2.2.toList) = false))) := by
  by_cases h : x = y
  · exact .inl h
  · refine .inr ⟨h, ?_⟩
    obtain ⟨x0, x1, x2, x3, x4⟩ := x
    obtain ⟨y0, y1, y2, y3, y4⟩ := y
    dsimp only
    by_cases h0 : x0 = y0
    · by_cases h1 : x1 = y1
      · by_cases h2 : x2 = y2
        · by_cases h3 : x3 = y3
          · have h4 : ¬ x4 = y4 := fun e => h (by rw [h0, h1, h2, h3, e])
            have n1 := str_ne h4
            exact .inr (.inr (.inr (.inr ⟨h0, h1, h2, h3, n1, by rw [beq_eq_false_iff_ne]; exact n1⟩)))
          · exact .inr (.inr (.inr (.inl ⟨h0, h1, h2, by rw [beq_eq_false_iff_ne]; exact h3⟩)))
        · exact .inr (.inr (.inl ⟨h0, h1, by rw [beq_eq_false_iff_ne]; exact h2⟩))
      · exact .inr (.inl ⟨h0, by rw [beq_eq_false_iff_ne]; exact h1⟩)
    · exact .inl (by rw [beq_eq_false_iff_ne]; exact h0)
end Go.Proofs.Ytmnmmbeageddkaa
