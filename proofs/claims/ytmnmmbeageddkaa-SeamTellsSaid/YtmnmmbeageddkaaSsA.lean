/- Sets of spans: edges sorted by where they are. -/
import Derived.Test.YtmnmmbeageddkaaLaidS
import Derived.Test.YtmnmmbeageddkaaSsP
import Derived.Test.YtmnmmbeageddkaaSl
import Derived.Shelf.SlSortCmp.WholeK
set_option linter.unusedVariables false
set_option linter.unusedSimpArgs false
namespace Go.Proofs.Ytmnmmbeageddkaa
open Go.RowKit Go.Sort Go.Shelf Go.Lib

namespace Ss
def enc (x : E) : List Value := [.int .i64 x.1, .int .i64 x.2.1, .int .i64 x.2.2]
def cf (x y : E) : Int := Lib.compareInt x.1 y.1
theorem ltE (x y : E) : ltOf cf x y = decide (x.1 < y.1) := by
  unfold ltOf cf Lib.compareInt
  by_cases h1 : x.1 < y.1
  · simp [h1]
  · by_cases h2 : y.1 < x.1 <;> simp [h1, h2]
theorem swo : SWO (ltOf cf) where
  irrefl x := by rw [ltE]; simp
  trans x y z h1 h2 := by rw [ltE] at *; simp at *; omega
  ntrans x y z h1 h2 := by rw [ltE] at *; simp at *; omega
end Ss
set_option maxHeartbeats 1000000 in
theorem nan_i64 (x : Int) (w : World) : Calls Try.prog 68 #[.int .i64 x] w fun e w' => e = .returned (.bool false) ∧ w' = w := by
  go_enter Try.func68, Try.ntmps68
  go_wp2
  go_ret
  exact ⟨by simp, rfl⟩
set_option maxHeartbeats 1000000 in
theorem cmp_i64 (x y : Int) (w : World) : Calls Try.prog 50 #[.int .i64 x, .int .i64 y] w fun e w' => e = .returned (.int .i64 (Lib.compareInt x y)) ∧ w' = w := by
  obtain ⟨r, hr⟩ : ∃ r, Lib.compareInt x y = r := ⟨_, rfl⟩
  rw [hr]
  have HR := Lib.hid hr
  clear hr
  go_enter Try.func50, Try.ntmps50
  go_wp2_with fail
  refine (nan_i64 _ _).mono ?_
  rintro e w1 ⟨rfl, rfl⟩
  go_wp2_with fail
  refine (nan_i64 _ _).mono ?_
  rintro e w1 ⟨rfl, rfl⟩
  rcases Int.lt_trichotomy x y with h | h | h
  · obtain rfl : r = -1 := by rw [← HR.out]; unfold Lib.compareInt; simp [h]
    go_wp2
    go_ret
    exact ⟨rfl, rfl⟩
  · obtain rfl : r = 0 := by rw [← HR.out]; unfold Lib.compareInt; simp [h]
    have h1 : ¬ x < y := by omega
    have h2 : ¬ y < x := by omega
    go_wp2
    go_ret
    exact ⟨rfl, rfl⟩
  · obtain rfl : r = 1 := by rw [← HR.out]; unfold Lib.compareInt; rw [if_neg (by omega), if_pos h]
    have h1 : ¬ x < y := by omega
    go_wp2
    go_ret
    exact ⟨rfl, rfl⟩
set_option maxHeartbeats 1000000 in
/-- What the edges are sorted by: two boxes are laid. -/
theorem edge_cmp (x y : Ss.E) (W : World) : Calls Try.prog 99 #[.agg #[.int .i64 x.1, .int .i64 x.2.1, .int .i64 x.2.2], .agg #[.int .i64 y.1, .int .i64 y.2.1, .int .i64 y.2.2]] W fun e w' => e = .returned (.int .i64 (Ss.cf x y)) ∧ ∃ q os', w' = grow (W.drewN q) os' := by
  unfold Ss.cf
  have hcon := fun W' => cmp_i64 x.1 y.1 W'
  generalize Lib.compareInt x.1 y.1 = r at hcon ⊢
  go_enter Try.func99, Try.ntmps99
  go_wp2_with (go_at_call 50; refine (hcon _).mono ?_; rintro e w' ⟨rfl, rfl⟩)
  go_ret
  exact ⟨rfl, 0, _, by rw [alloc_eq_grow, alloc_eq_grow, grow_grow]; rfl⟩
theorem edge_lays (blk off size : Nat) (w : World) : CmpLays Try.prog 99 #[] Ss.enc 3 Ss.cf blk off size w :=
  fun _ _ _ _ x y => edge_cmp x y _
/-- The edges sorted. -/
theorem edge_sort (blk off cap : Nat) (d : Array Ss.E) (w : World) (hH : HoldsK Ss.enc 3 w blk off d) (hblk : blk < w.heap.size) (hsz : d.size < 4611686018427387904) :
    Calls Try.prog 98 #[.slice (some ⟨blk, off, none⟩) d.size cap, .func (.func 99) #[] #[]] w fun e w' => e = .returned (.tuple #[]) ∧ ∃ d' n os, PermIn 0 d.size d d' ∧ SortedIn (ltOf Ss.cf) 0 d.size d' ∧ w' = sortWorldK Ss.enc 3 w blk off n d' os := by
  have eg : ∀ args w, (callFunc 99 args).run Try.prog w = .ok (.enter 99 args) w := enters_of Try.func99 (by kernel_rfl) rfl
  have hcon := AnyQ.slices_SortFunc Try.sortEdge 3 Try.isAgg128 Try.sizeOf128 Ss.enc (fun _ => rfl) (fun x v hv => by simp [Ss.enc] at hv; rcases hv with rfl | rfl | rfl <;> rfl) Ss.cf Ss.swo 99 #[] blk off cap d w eg (edge_lays blk off d.size w) hH hblk hsz
  exact hcon
namespace Ss
def ec (d : List E) : List Value := d.flatMap enc
theorem ec_app (d k : List E) : ec (d ++ k) = ec d ++ ec k := by unfold ec; rw [List.flatMap_append]
theorem ec_cons (x : E) (d : List E) : ec (x :: d) = .int .i64 x.1 :: .int .i64 x.2.1 :: .int .i64 x.2.2 :: ec d := rfl
theorem ec_len (d : List E) : (ec d).length = d.length * 3 := by
  induction d with
  | nil => rfl
  | cons x d ih => rw [ec_cons]; simp only [List.length_cons, ih]; omega
theorem ec_at (d : List E) (k c : Nat) (h : k < d.length) (hc : c < 3) : (ec d)[k * 3 + c]? = (enc d[k])[c]? := by
  induction d generalizing k with
  | nil => exact absurd h (by simp)
  | cons x d ih =>
    cases k with
    | zero =>
      rw [ec_cons]
      match c, hc with
      | 0, _ => rfl
      | 1, _ => rfl
      | 2, _ => rfl
    | succ k =>
      rw [ec_cons, show (k + 1) * 3 + c = k * 3 + c + 1 + 1 + 1 by omega]
      simpa using ih k (by simpa using h)
end Ss
theorem add_off (g j : Nat) : (⟨g, 0, none⟩ : Addr).add j = ⟨g, j, none⟩ := by
  by_cases h : j = 0 <;> simp [Addr.add, h]
/-- An own row of edges, for the sort. -/
theorem own_holds {w : World} {base g cap : Nat} {d : List Ss.E} {n : Nat} (hn : n = d.length) (h : w.ownsRow base 128 3 (.slice (some ⟨g, 0, none⟩) n cap) n (Ss.ec d)) : HoldsK Ss.enc 3 w g 0 d.toArray ∧ g < w.heap.size ∧ base ≤ g := by
  obtain ⟨A, c, hv, ha⟩ := Lst.own h
  cases hv
  rcases h.2 with ⟨e, _⟩ | ⟨g', cap', cur, e, hb, hg, h1, h2, h3, h4⟩
  · cases e
  cases e
  refine ⟨?_, (Array.getElem?_eq_some_iff.1 hg).1, hb⟩
  intro j hj
  rw [size_flatK] at hj
  have hj' : j < d.length * 3 := by simpa using hj
  rw [get_flatK _ _ _ _ hj]
  have hk : j / 3 < d.length := by omega
  refine ⟨?_, by simp [World.frozen?, hg]⟩
  obtain ⟨a, e, _, hc⟩ := ha (by omega)
  cases e
  have hl : j % 3 < (Ss.enc d[j / 3]).length := Nat.mod_lt _ (by omega)
  have := Ss.ec_at d (j / 3) (j % 3) hk (Nat.mod_lt _ (by omega))
  rw [show j / 3 * 3 + j % 3 = j by omega, List.getElem?_eq_getElem hl] at this
  have e1 : d.toArray[j / 3]! = d[j / 3] := by simp [hk]
  rw [e1, show (Ss.enc d[j / 3])[j % 3]! = (Ss.enc d[j / 3])[j % 3] by simp [hl]]
  have h9 := hc j _ this
  rw [add_off] at h9
  rw [Nat.zero_add]; exact h9
/-- A row that holds edges, as a list reads. -/
theorem holds_lst {w : World} {g cap n : Nat} {d : List Ss.E} (hn : n = d.length) (hb : g < w.heap.size) (h : HoldsK Ss.enc 3 w g 0 d.toArray) : Lst w w.heap.size (.slice (some ⟨g, 0, none⟩) n cap) n (Ss.ec d) := by
  refine ⟨some ⟨g, 0, none⟩, cap, rfl, fun _ => ⟨_, rfl, hb, fun j u hu => ?_⟩⟩
  have hj : j < d.length * 3 := by
    have := (List.getElem?_eq_some_iff.1 hu).1
    rwa [Ss.ec_len] at this
  have hk : j / 3 < d.length := by omega
  have hl : j % 3 < (Ss.enc d[j / 3]).length := Nat.mod_lt _ (by omega)
  have := Ss.ec_at d (j / 3) (j % 3) hk (Nat.mod_lt _ (by omega))
  rw [show j / 3 * 3 + j % 3 = j by omega, hu, List.getElem?_eq_getElem hl] at this
  have hc := (h.cell (i := j / 3) (c := j % 3) (by simpa using hk) (Nat.mod_lt _ (by omega))).1
  have e1 : d.toArray[j / 3]! = d[j / 3] := by simp [hk]
  rw [e1, show 0 + j / 3 * 3 + j % 3 = 0 + j by omega] at hc
  rw [Option.some.inj this]
  rw [show (Ss.enc d[j / 3])[j % 3]! = (Ss.enc d[j / 3])[j % 3] by simp [hl]] at hc
  rw [add_off]; rw [Nat.zero_add] at hc; exact hc
theorem sort_below {α : Type} [Inhabited α] {enc : α → List Value} {k B g off n : Nat} {w : World} {d : Array α} {os : Array Obj} (h : B ≤ g) (hg : g < w.heap.size) : Below B w (sortWorldK enc k w g off n d os) := by
  refine ⟨rfl, rfl, rfl, ?_, fun i hi => ?_⟩
  · simp [sortWorldK, grow, putRowK, putRow, mapBlock, ahead]
  · have h1 : i < w.heap.size := by omega
    simp [sortWorldK, grow, putRowK, putRow, mapBlock, ahead, Array.getElem?_append, h1, Array.getElem?_modify]
    rw [Array.getElem_modify, if_neg (by omega)]
end Go.Proofs.Ytmnmmbeageddkaa
