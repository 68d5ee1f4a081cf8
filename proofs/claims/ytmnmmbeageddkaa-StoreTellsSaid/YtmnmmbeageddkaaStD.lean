/- Stores: slices.Insert of one pointer. -/
import Derived.Test.YtmnmmbeageddkaaStA
import Derived.Test.YtmnmmbeageddkaaApL
import Derived.Shelf.Spec.SlicesInsert
import Derived.Lib.AppendZerosOnto
set_option linter.unusedVariables false
set_option linter.unusedSimpArgs false
namespace Go.Proofs.Ytmnmmbeageddkaa
open Go.RowKit Go.Sort Go.Shelf Go.Lib

theorem own_ext {w : World} {base g n cap : Nat} {e : TypeId} {xs : List Value} (h : w.ownsRow base e 1 (.slice (some ⟨g, 0, none⟩) n cap) n xs) (hn : n < cap) : ∃ z, w.ownsRow base e 1 (.slice (some ⟨g, 0, none⟩) (n + 1) cap) (n + 1) (xs ++ [z]) := by
  rcases h.2 with ⟨h', _⟩ | ⟨g', cap', cur, h', hb, hg, hnc, hcm, hcs, htake⟩
  · cases h'
  · cases h'
    have hlt : n < cur.toList.length := by rw [Array.length_toList, hcs]; omega
    refine ⟨cur.toList[n], by rw [List.length_append, h.1]; simp, .inr ⟨g, cap, cur, rfl, hb, hg, hn, hcm, hcs, ?_⟩⟩
    rw [Nat.mul_one] at htake ⊢
    rw [List.take_succ_eq_append_getElem hlt, htake]
def sets : List Value → Nat → List Value → List Value
  | xs, _, [] => xs
  | xs, o, v :: r => sets (xs.set o v) (o + 1) r
theorem sets_eq (vs : List Value) : ∀ (xs : List Value) (o : Nat), o + vs.length ≤ xs.length → sets xs o vs = xs.take o ++ vs ++ xs.drop (o + vs.length) := by
  induction vs with
  | nil => intro xs o _; simp [sets]
  | cons v r ih =>
    intro xs o h
    simp only [List.length_cons] at h ⊢
    rw [sets, ih _ _ (by rw [List.length_set]; omega)]
    have e1 : (xs.set o v).take (o + 1) = xs.take o ++ [v] := by
      rw [List.take_succ_eq_append_getElem (by rw [List.length_set]; omega), List.take_set, List.set_eq_of_length_le (by rw [List.length_take]; omega)]
      simp
    have e2 : (xs.set o v).drop (o + 1 + r.length) = xs.drop (o + (r.length + 1)) := by
      rw [List.drop_set, if_pos (by omega)]
      congr 1; omega
    rw [e1, e2]
    simp
theorem own_sets {base g n cap : Nat} {e : TypeId} (vs : List Value) : ∀ (o : Nat) (w : World) (xs : List Value), w.ownsRow base e 1 (.slice (some ⟨g, 0, none⟩) n cap) n xs →
    (w.setCells g o vs).ownsRow base e 1 (.slice (some ⟨g, 0, none⟩) n cap) n (sets xs o vs) ∧ w.grownBy (w.setCells g o vs) (some g) := by
  induction vs with
  | nil => intro o w xs h; exact ⟨h, ⟨rfl, rfl, rfl, Nat.le_refl _, fun _ _ _ => rfl⟩⟩
  | cons v r ih =>
    intro o w xs h
    obtain ⟨h1, h2⟩ := h.stored o v
    obtain ⟨h3, h4⟩ := ih (o + 1) _ _ h1
    exact ⟨h3, ⟨h4.os.trans h2.os, h4.tape.trans h2.tape, h4.output.trans h2.output, Nat.le_trans h2.size h4.size, fun k hk hne => (h4.block k (Nat.lt_of_lt_of_le hk h2.size) hne).trans (h2.block k hk hne)⟩⟩
theorem gr_trans {w w1 w2 : World} {row : Option Nat} (h2 : w.grownBy w1 row) (h4 : w1.grownBy w2 row) : w.grownBy w2 row :=
  ⟨h4.os.trans h2.os, h4.tape.trans h2.tape, h4.output.trans h2.output, Nat.le_trans h2.size h4.size, fun k hk hne => (h4.block k (Nat.lt_of_lt_of_le hk h2.size) hne).trans (h2.block k hk hne)⟩
theorem gr_drew (w : World) (row : Option Nat) : w.grownBy w.drew row := ⟨rfl, rfl, rfl, Nat.le_refl _, fun _ _ _ => rfl⟩
theorem info_ptr : (Try.prog.info? 74).map (fun i => (i.zero, i.size, i.bytes)) = some (some (.pointer none), 1, 8) := by kernel_rfl
/-- What Insert answers. -/
def AnsIn (N : Nat) (V : Value) (n i : Nat) (xs : List Value) (x : Value) (w : World) (e : Ending) (w' : World) : Prop :=
  ∃ V', e = .returned V' ∧ w'.ownsRow N 74 1 V' (n + 1) (xs.take i ++ x :: xs.drop i) ∧ w.grownBy w' V.ownBlock
set_option maxHeartbeats 4000000 in
set_option maxRecDepth 100000 in
theorem insert_end (V : Value) (n : Nat) (xs : List Value) (x : Value) (vb N : Nat) (w : World) (h : w.ownsRow N 74 1 V n xs) (hv : Blk w vb 74 #[x]) (hx : x.oneCell' = true) (hn : n ≤ 100000) (hN : N ≤ w.heap.size) :
    Calls Try.prog 40 #[V, .int .i64 n, .slice (some ⟨vb, 0, none⟩) 1 1] w (AnsIn N V n n xs x w) := by
  obtain ⟨i0, hi, hz0, hz1, hz2⟩ := info_parts info_ptr
  obtain ⟨A, c, rfl⟩ := po_form h
  have hl : xs.length = n := by have := h.1; omega
  have HL := Lib.hid hl
  have H := Lib.hid h; have HV := Lib.hid hv
  have C := Lib.hid (show n ≤ c from by
    rcases h.2 with ⟨e, h0⟩ | ⟨g, cap, cur, e, _, _, h1, _⟩
    · cases e; exact Nat.le_refl _
    · cases e; exact h1)
  have hnn : (0 : Int) ≤ n := by omega
  have hcc : (n : Int) ≤ c := by have := C.out; omega
  clear h hv hl
  go_enter Try.func40, Try.ntmps40
  cases A with
  | none =>
    go_wp2_with (at_builtin; refine wpList_append_own _ rfl _ _ 69 rfl N 74 i0 (.pointer none) 1 8 Try.underlying69 hi hz0 hz1 hz2 rfl (by decide) _ n xs rfl H.out ⟨vb, 0, none⟩ 1 1 [x] rfl rfl (fun j u hj => by match j, hj with | 0, hj => simp at hj; subst hj; exact HV.out.c0) (by intro u hu; simp at hu; subst hu; exact hx) (by unfold maxLen; omega) (by omega) hN ?_)
    intro v6 w6 own6 grow6 _
    go_wp2
    go_ret
    exact ⟨_, rfl, by rw [List.take_of_length_le (by rw [HL.out]; omega), List.drop_of_length_le (by rw [HL.out]; omega)]; exact own6, grow6⟩
  | some a =>
    by_cases hcn : c = n
    · have hcn3 := hcn
      go_wp2_with (at_builtin; refine wpList_append_own _ rfl _ _ 69 rfl N 74 i0 (.pointer none) 1 8 Try.underlying69 hi hz0 hz1 hz2 rfl (by decide) _ n xs rfl H.out ⟨vb, 0, none⟩ 1 1 [x] rfl rfl (fun j u hj => by match j, hj with | 0, hj => simp at hj; subst hj; exact HV.out.c0) (by intro u hu; simp at hu; subst hu; exact hx) (by unfold maxLen; omega) (by omega) hN ?_)
      intro v6 w6 own6 grow6 _
      go_wp2
      go_ret
      exact ⟨_, rfl, by rw [List.take_of_length_le (by rw [HL.out]; omega), List.drop_of_length_le (by rw [HL.out]; omega)]; exact own6, grow6⟩
    · have hcn2 : ¬ (n = c) := fun e => hcn e.symm
      go_wp2_with (at_builtin; refine wpList_append_own _ rfl _ _ 69 rfl N 74 i0 (.pointer none) 1 8 Try.underlying69 hi hz0 hz1 hz2 rfl (by decide) _ n xs rfl H.out ⟨vb, 0, none⟩ 1 1 [x] rfl rfl (fun j u hj => by match j, hj with | 0, hj => simp at hj; subst hj; exact HV.out.c0) (by intro u hu; simp at hu; subst hu; exact hx) (by unfold maxLen; omega) (by omega) hN ?_)
      intro v6 w6 own6 grow6 _
      go_wp2
      go_ret
      exact ⟨_, rfl, by rw [List.take_of_length_le (by rw [HL.out]; omega), List.drop_of_length_le (by rw [HL.out]; omega)]; exact own6, grow6⟩
theorem own_cap1 {w : World} {base L c : Nat} {e : TypeId} {A : Option Addr} {xs : List Value} {size : Nat} (h : w.ownsRow base e size (.slice A L c) L xs) : L ≤ c := by
  rcases h.2 with ⟨e, h0⟩ | ⟨g, cap, cur, e, _, _, h1, _⟩
  · cases e; exact Nat.le_refl _
  · cases e; exact h1
theorem blk_shape {W : World} {B : Nat} {t : TypeId} {vs : Array Value} (h : Blk W B t vs) : W.shape? B = some (t, vs.size) := by
  unfold World.shape?
  rw [show W.heap[B]? = _ from h]
theorem row_shape {w : World} {base g n cap : Nat} {e : TypeId} {xs : List Value} (h : w.ownsRow base e 1 (.slice (some ⟨g, 0, none⟩) n cap) n xs) : w.shape? g = some (e, cap) := by
  rcases h.2 with ⟨h', _⟩ | ⟨g', cap', cur, h', _, hg, _, _, hcs, _⟩
  · cases h'
  · cases h'
    unfold World.shape?
    rw [hg]
    simp [hcs]
theorem row_some {w : World} {base g n cap : Nat} {e : TypeId} {xs : List Value} (h : w.ownsRow base e 1 (.slice (some ⟨g, 0, none⟩) n cap) n xs) (j : Nat) (hj : j < cap) : (w.cell? ⟨g, j, none⟩).isSome = true := by
  rcases h.2 with ⟨h', _⟩ | ⟨g', cap', cur, h', _, hg, _, _, hcs, _⟩
  · cases h'
  · cases h'
    simp [World.cell?, hg, hcs, hj]
theorem blk_apart {w : World} {vb base g n cap : Nat} {e : TypeId} {xs : List Value} {x : Value} (h : w.ownsRow base e 1 (.slice (some ⟨g, 0, none⟩) n cap) n xs) (hv : Blk w vb e #[x]) (hc : 1 < cap) : vb ≠ g := by
  rintro rfl
  have h1 := blk_shape hv
  have h2 := row_shape h
  rw [h1] at h2
  simp at h2
  omega
set_option maxHeartbeats 8000000 in
set_option maxRecDepth 100000 in
theorem insert_room (g n c i : Nat) (xs : List Value) (x : Value) (vb N : Nat) (w : World) (h : w.ownsRow N 74 1 (.slice (some ⟨g, 0, none⟩) n c) n xs) (hv : Blk w vb 74 #[x]) (hx : x.oneCell' = true) (hxs : ∀ u ∈ xs, u.oneCell' = true) (hi : i < n) (hroom : n < c) :
    Calls Try.prog 40 #[.slice (some ⟨g, 0, none⟩) n c, .int .i64 i, .slice (some ⟨vb, 0, none⟩) 1 1] w (AnsIn N (.slice (some ⟨g, 0, none⟩) n c) n i xs x w) := by
  obtain ⟨i0, hi0, hz0, hz1, hz2⟩ := info_parts info_ptr
  have hl : xs.length = n := by have := h.1; omega
  have hap := blk_apart h hv (by omega)
  have hcap : c ≤ maxLen := by
    rcases h.2 with ⟨e, h0⟩ | ⟨g', cap, cur, e, _, _, h1, h2, _⟩
    · cases e
    · cases e; exact h2
  have h63 : c ≤ 9223372036854775807 := by unfold maxLen at hcap; omega
  have hsz : (Try.prog.info? 74).map (·.size) = some 1 := by rw [hi0]; simp [hz1]
  have hov : ∀ lb cb, (callFunc 63 #[.slice (some ⟨vb, 0, none⟩) 1 1, .slice (some ⟨g, i + 1, none⟩) lb cb]).run Try.prog w = .ok (.value (.bool false)) w := fun lb cb => by
    rw [run_callFunc_extern Try.func63 (by kernel_rfl) (by kernel_rfl) (by kernel_rfl) (e := Extern.SlicesOverlaps.overlaps #[69, 69] #[4]) (by kernel_rfl),
      Lib.run_overlaps_apart w 69 4 74 Try.underlying69 1 Try.sizeOf74 ⟨vb, 0, none⟩ ⟨g, i + 1, none⟩ 1 1 lb cb hap _ _ _ _ (blk_shape hv) (row_shape h) (by omega) (hv.frozen 0) (hv.frozen _)]
    rfl
  obtain ⟨z, hext⟩ := own_ext h hroom
  have hdl : (xs.drop i).length = n - i := by rw [List.length_drop, hl]
  have hcp1 : ∀ ty dc sc, (Builtin.copy_ #[69, 69] ty #[.slice (some ⟨g, i + 1, none⟩) (n - i) dc, .slice (some ⟨g, i, none⟩) (n + 1 - i) sc]).run Try.prog w.drew = .ok (goInt (xs.drop i).length) (w.drew.setCells g (i + 1) (xs.drop i)) := fun ty dc sc =>
    run_copy_cells w.drew _ _ ty 74 g (i + 1) (n - i) dc ⟨g, i, none⟩ (n + 1 - i) sc (xs.drop i) Try.underlying69 hsz (by rw [hdl]; simp only [Nat.min_def]; split <;> omega)
      (fun j v hj => by rw [Addr.add_lit]; rw [List.getElem?_drop] at hj; have := (List.getElem?_eq_some_iff.1 hj).1; rw [← hj]; exact h.cellAt (i + j) (by omega))
      (fun j hj => row_some h _ (by omega)) (fun j hj => h.frozenAt _) (fun v hv => hxs v (List.mem_of_mem_drop hv))
  obtain ⟨q1, q2⟩ := own_sets (xs.drop i) (i + 1) w.drew (xs ++ [z]) hext.drew
  obtain ⟨W1, hW1⟩ : ∃ W1, W1 = w.drew.setCells g (i + 1) (xs.drop i) := ⟨_, rfl⟩
  rw [← hW1] at hcp1 q1 q2
  have hvb : W1.cell? ⟨vb, 0, none⟩ = some x := q2.cell (a := ⟨vb, 0, none⟩) hv.c0 (by intro e; exact hap (Option.some.inj e))
  have hcp2 : ∀ (W : World), W = W1 → ∀ ty dc, (Builtin.copy_ #[69, 69] ty #[.slice (some ⟨g, i, none⟩) (n + 1 - i) dc, .slice (some ⟨vb, 0, none⟩) 1 1]).run Try.prog W = .ok (goInt [x].length) (W.setCells g i [x]) := fun W hW ty dc =>
    run_copy_cells W _ _ ty 74 g i (n + 1 - i) dc ⟨vb, 0, none⟩ 1 1 [x] Try.underlying69 hsz (by simp only [Nat.min_def, List.length_singleton]; split <;> omega)
      (fun j v hj => by match j, hj with | 0, hj => simp at hj; subst hj; rw [hW]; exact hvb)
      (fun j hj => by rw [hW]; exact row_some q1 _ (by simp at hj; omega)) (fun j hj => by rw [hW]; exact q1.frozenAt _) (by intro u hu; simp at hu; subst hu; exact hx)
  obtain ⟨q3, q4⟩ := own_sets [x] i W1 _ q1
  have Q := Lib.hid (show (W1.setCells g i [x]).ownsRow N 74 1 (.slice (some ⟨g, 0, none⟩) (n + 1) c) (n + 1) (xs.take i ++ x :: xs.drop i) ∧ w.grownBy (W1.setCells g i [x]) (some g) from ⟨by
    have e1 : sets (xs ++ [z]) (i + 1) (xs.drop i) = (xs ++ [z]).take (i + 1) ++ xs.drop i := by
      rw [sets_eq _ _ _ (by rw [hdl, List.length_append, hl]; simp; omega)]
      have e0 : (xs ++ [z]).drop (i + 1 + (xs.drop i).length) = [] := List.drop_of_length_le (by rw [hdl, List.length_append, hl]; simp; omega)
      rw [e0, List.append_nil]
    have hlen : ((xs ++ [z]).take (i + 1) ++ xs.drop i).length = n + 1 := by rw [List.length_append, List.length_take, hdl, List.length_append, hl]; simp; omega
    rw [e1, sets_eq _ _ _ (by rw [hlen]; simp; omega)] at q3
    have e2 : ((xs ++ [z]).take (i + 1) ++ xs.drop i).take i = xs.take i := by
      rw [List.take_append_of_le_length (by rw [List.length_take, List.length_append, hl]; simp; omega), List.take_take, Nat.min_eq_left (by omega), List.take_append_of_le_length (by rw [hl]; omega)]
    have e3 : ((xs ++ [z]).take (i + 1) ++ xs.drop i).drop (i + [x].length) = xs.drop i := by
      rw [List.drop_append_of_le_length (by rw [List.length_take, List.length_append, hl]; simp; omega), List.drop_of_length_le (by rw [List.length_take]; simp; omega), List.nil_append]
    rw [e2, e3, List.append_assoc] at q3
    exact q3, gr_trans (gr_trans (gr_drew w _) q2) q4⟩)
  have mixed : Try.prog.follows Departure.mixedOrders = true := by kernel_rfl
  have hb1 : (0 : Int) ≤ (i : Int) + 1 := by omega
  have hz1' : ¬ ((i : Int) = (n : Int)) := by omega
  have hw1 : IntKind.i64.wrap ((i : Int) + 1) = (i : Int) + 1 := by rw [IntKind.wrap_i64]; omega
  have hw2 : IntKind.i64.wrap ((n : Int) + 1) = (n : Int) + 1 := by rw [IntKind.wrap_i64]; omega
  have hb2 : ¬ (c = i + 1) := by omega
  have hb4 : ¬ (c = i) := by omega
  have hb5 : (i : Int) ≤ n := by omega
  have hb6 : (i : Int) ≤ (n : Int) + 1 := by omega
  have hb7 : (n : Int) + 1 ≤ c := by omega
  have hb8 : ¬ ((c : Int) < (n : Int) + 1) := by omega
  have htn : ((i : Int) + 1).toNat = i + 1 := by omega
  have htm : ((n : Int) + 1).toNat = n + 1 := by omega
  have hin : i ≤ n := by omega
  have hWW := hW1
  clear h hext q1 q2 q3 q4 hv hvb hl hdl hi0 hz0 hz1 hz2
  go_enter Try.func40, Try.ntmps40
  go_wp2_with (simp only [hov])
  go_region_law_o (refine step_copy_runI rfl _ _ 69 69 rfl _ _ (by simp [Act.eval, Act.put]) (by simp [Act.eval, Act.put]) (hcp1 _ _ _) ?_)
  go_wp2_with (at_builtin; refine wpList_copy_runI _ rfl _ _ 69 69 rfl _ _ rfl rfl (hcp2 _ rfl _ _) ?_)
  go_ret
  exact ⟨_, rfl, by rw [← hWW]; exact Q.out.1, by rw [← hWW]; exact Q.out.2⟩
set_option maxHeartbeats 8000000 in
set_option maxRecDepth 100000 in
theorem insert_grow (g n c i : Nat) (xs : List Value) (x : Value) (vb N : Nat) (w : World) (h : w.ownsRow N 74 1 (.slice (some ⟨g, 0, none⟩) n c) n xs) (hv : Blk w vb 74 #[x]) (hx : x.oneCell' = true) (hxs : ∀ u ∈ xs, u.oneCell' = true) (hi : i < n) (hroom : ¬ n < c) (hn : n ≤ 100000) (hN : N ≤ w.heap.size) :
    Calls Try.prog 40 #[.slice (some ⟨g, 0, none⟩) n c, .int .i64 i, .slice (some ⟨vb, 0, none⟩) 1 1] w (AnsIn N (.slice (some ⟨g, 0, none⟩) n c) n i xs x w) := by
  obtain ⟨i0, hi0, hz0, hz1, hz2⟩ := info_parts info_ptr
  have hl : xs.length = n := by have := h.1; omega
  have hc0 : c = n := by have := own_cap1 h; omega
  subst hc0
  have hg : g < w.heap.size := (h.lt g rfl).2
  have hsz : (Try.prog.info? 74).map (·.size) = some 1 := by rw [hi0]; simp [hz1]
  have hold : (Builtin.firstCells i0.size i (.slice (some ⟨g, 0, none⟩) i c)).run Try.prog w.drew = .ok (xs.take i).toArray w.drew := by
    rw [hz1]
    exact run_firstCells_some w.drew 1 i ⟨g, 0, none⟩ i c (xs.take i) (by rw [List.length_take]; omega) (fun j v hj => by
      rw [List.getElem?_take] at hj
      split at hj
      · rw [show (⟨g, 0, none⟩ : Addr).add j = ⟨g, j, none⟩ by unfold Addr.add; split <;> simp_all]
        have := (List.getElem?_eq_some_iff.1 hj).1
        rw [← hj]; exact h.cellAt j (by omega)
      · cases hj)
  obtain ⟨G, hG⟩ : ∃ G, grownCap w (c + 1) c 74 = G := ⟨_, rfl⟩
  have hGn : c + 1 ≤ G := by rw [← hG]; exact grownCap_ge w _ _ _
  have hGm : G ≤ maxLen := by rw [← hG]; exact grownCap_le_maxLen w (c + 1) c 74 (by unfold maxLen; omega)
  have hG63 : G ≤ 9223372036854775807 := by unfold maxLen at hGm; omega
  obtain ⟨R, hR⟩ : ∃ R : Array Value, (xs.take i).toArray ++ Builtin.zeroCells (Value.pointer none).cells (c + 1 - i) ++ Builtin.zeroCells (Value.pointer none).cells (G - (c + 1)) = R := ⟨_, rfl⟩
  have hRs : R.size = G * 1 := by
    rw [← hR]
    simp [Builtin.zeroCells, Value.cells]
    omega
  have hik : i + (c + 1 - i) = c + 1 := by omega
  have hrz : ∀ ty, (Builtin.append_ #[69, 3] ty #[.slice (some ⟨g, 0, none⟩) i c, .int .i64 ((c : Int) + 1 - (i : Int))]).run Try.prog w = .ok (.slice (some ⟨w.heap.size, 0, none⟩) (c + 1) G) (w.drew.alloc (.cells R 74)) := fun ty => by
    have h := Lib.run_append_grow_zeros w 69 3 ty 74 i0 (.pointer none) .i64 .i64 Try.underlying69 Try.underlying3 hi0 hz0 (some ⟨g, 0, none⟩) i c (xs.take i) hold (c + 1 - i) (by omega) (by omega) (by omega) (by omega) (by rw [hz2]; omega) (by rw [hz2, hik]; exact growslice_fits (by omega) (by omega))
    rw [hik, hG, hR] at h
    rw [show (c : Int) + 1 - (i : Int) = ((c + 1 - i : Nat) : Int) by omega]
    exact h
  obtain ⟨W1, hW1⟩ : ∃ W1, W1 = w.drew.alloc (.cells R 74) := ⟨_, rfl⟩
  rw [← hW1] at hrz
  have own1 : W1.ownsRow N 74 1 (.slice (some ⟨w.heap.size, 0, none⟩) (c + 1) G) (c + 1) (R.toList.take (c + 1)) := by
    rw [hW1]
    exact ⟨by rw [List.length_take, Array.length_toList, hRs]; omega, .inr ⟨w.heap.size, G, R, rfl, hN, heap_alloc_new w.drew _, hGn, hGm, hRs, by rw [Nat.mul_one]⟩⟩
  have hT : R.toList.take i = xs.take i := by
    have hi2 : (xs.take i).length = i := by rw [List.length_take]; omega
    rw [← hR, Array.toList_append, Array.toList_append, List.append_assoc, List.take_append_of_le_length (by rw [List.toList_toArray, hi2]; exact Nat.le_refl _), List.toList_toArray, List.take_take, Nat.min_self]
  have gr1 : w.grownBy W1 (some g) := by rw [hW1]; exact gr_trans (gr_drew w _) (World.grownBy_alloc _ _ _)
  have below1 : Below w.heap.size w W1 := by rw [hW1]; exact ((Below.refl _ _).drew).alloc (by simp) _
  have hvl : vb < w.heap.size := hv.lt
  obtain ⟨q1, q2⟩ := own_sets [x] i W1 _ own1
  obtain ⟨q3, q4⟩ := own_sets (xs.drop i) (i + 1) _ _ q1
  have hdl : (xs.drop i).length = c - i := by rw [List.length_drop, hl]
  have hcpA : ∀ (W : World), (∀ x, W.cell? x = W1.cell? x) → (∀ x, W.frozen? x = W1.frozen? x) → ∀ ty dc, (Builtin.copy_ #[69, 69] ty #[.slice (some ⟨w.heap.size, i, none⟩) (c + 1 - i) dc, .slice (some ⟨vb, 0, none⟩) 1 1]).run Try.prog W = .ok (goInt [x].length) (W.setCells w.heap.size i [x]) := fun W hWc hWf ty dc =>
    run_copy_cells W _ _ ty 74 w.heap.size i (c + 1 - i) dc ⟨vb, 0, none⟩ 1 1 [x] Try.underlying69 hsz (by simp only [Nat.min_def, List.length_singleton]; split <;> omega)
      (fun j v hj => by match j, hj with | 0, hj => simp at hj; subst hj; rw [hWc]; exact (below1.cell (p := ⟨vb, 0, none⟩) hvl).trans hv.c0)
      (fun j hj => by rw [hWc]; exact row_some own1 _ (by simp at hj; omega)) (fun j hj => by rw [hWf]; exact own1.frozenAt _) (by intro u hu; simp at hu; subst hu; exact hx)
  have hcpB : ∀ (W : World), (∀ y, W.cell? y = (W1.setCells w.heap.size i [x]).cell? y) → (∀ y, W.frozen? y = (W1.setCells w.heap.size i [x]).frozen? y) → ∀ ty dc sc, (Builtin.copy_ #[69, 69] ty #[.slice (some ⟨w.heap.size, i + 1, none⟩) (c - i) dc, .slice (some ⟨g, i, none⟩) (c - i) sc]).run Try.prog W = .ok (goInt (xs.drop i).length) (W.setCells w.heap.size (i + 1) (xs.drop i)) := fun W hWc hWf ty dc sc =>
    run_copy_cells W _ _ ty 74 w.heap.size (i + 1) (c - i) dc ⟨g, i, none⟩ (c - i) sc (xs.drop i) Try.underlying69 hsz (by rw [hdl]; simp only [Nat.min_def]; split <;> omega)
      (fun j v hj => by
        rw [Addr.add_lit, hWc]
        have := (List.getElem?_eq_some_iff.1 hj).1
        rw [List.getElem?_drop] at hj
        have e : w.cell? ⟨g, i + j, none⟩ = some v := by rw [← hj]; exact h.cellAt (i + j) (by omega)
        exact q2.cell (a := ⟨g, i + j, none⟩) ((below1.cell (p := ⟨g, i + j, none⟩) hg).trans e) (by intro e; have e' : g = w.heap.size := Option.some.inj e; omega))
      (fun j hj => by rw [hWc]; exact row_some q1 _ (by omega)) (fun j hj => by rw [hWf]; exact q1.frozenAt _) (fun v hv => hxs v (List.mem_of_mem_drop hv))
  have Q := Lib.hid (show ((W1.setCells w.heap.size i [x]).setCells w.heap.size (i + 1) (xs.drop i)).ownsRow N 74 1 (.slice (some ⟨w.heap.size, 0, none⟩) (c + 1) G) (c + 1) (xs.take i ++ x :: xs.drop i) ∧ w.grownBy ((W1.setCells w.heap.size i [x]).setCells w.heap.size (i + 1) (xs.drop i)) (some g) from ⟨by
    have hlen : (R.toList.take (c + 1)).length = c + 1 := by rw [List.length_take, Array.length_toList, hRs]; omega
    rw [sets_eq [x] _ _ (by rw [hlen]; simp; omega)] at q3
    have hlen2 : ((R.toList.take (c + 1)).take i ++ [x] ++ (R.toList.take (c + 1)).drop (i + [x].length)).length = c + 1 := by rw [List.length_append, List.length_append, List.length_take, hlen, List.length_drop, hlen]; simp; omega
    rw [sets_eq _ _ _ (by rw [hlen2, hdl]; omega)] at q3
    have e1 : ((R.toList.take (c + 1)).take i ++ [x] ++ (R.toList.take (c + 1)).drop (i + [x].length)).take (i + 1) = xs.take i ++ [x] := by
      rw [List.take_append_of_le_length (by rw [List.length_append, List.length_take, hlen]; simp; omega), List.take_of_length_le (by rw [List.length_append, List.length_take, hlen]; simp; omega), List.take_take, Nat.min_eq_left (by omega), hT]
    have e2 : ((R.toList.take (c + 1)).take i ++ [x] ++ (R.toList.take (c + 1)).drop (i + [x].length)).drop (i + 1 + (xs.drop i).length) = [] := List.drop_of_length_le (by rw [hlen2, hdl]; omega)
    rw [e1, e2, List.append_nil, List.append_assoc] at q3
    exact q3, by
      have hb : Below w.heap.size w ((W1.setCells w.heap.size i [x]).setCells w.heap.size (i + 1) (xs.drop i)) := by
        have g2 := gr_trans q2 q4
        exact below1.trans (below_grown g2 below1.size (by intro g' e; cases e; exact Nat.le_refl _))
      exact grown_below hb _⟩)
  have mixed : Try.prog.follows Departure.mixedOrders = true := by kernel_rfl
  have hb1 : (0 : Int) ≤ (i : Int) + 1 := by omega
  have hz1' : ¬ ((i : Int) = (c : Int)) := by omega
  have hw1 : IntKind.i64.wrap ((i : Int) + 1) = (i : Int) + 1 := by rw [IntKind.wrap_i64]; omega
  have hw2 : IntKind.i64.wrap ((c : Int) + 1) = (c : Int) + 1 := by rw [IntKind.wrap_i64]; omega
  have hGi : ¬ (G = i) := by omega
  have hGim : ¬ (G = i + 1) := by omega
  have hci : ¬ (c = i) := by omega
  have hin : i ≤ c := by omega
  have htn : ((i : Int) + 1).toNat = i + 1 := by omega
  have hb3 : (i : Int) ≤ c := by omega
  have hb4 : (i : Int) ≤ (c : Int) + 1 := by omega
  have hW1' := Lib.hid hW1
  subst hW1
  have hE1 : ∀ x, ((w.alloc (.cells R 74)).drew).cell? x = (w.drew.alloc (.cells R 74)).cell? x := fun x => rfl
  have hE2 : ∀ x, ((w.alloc (.cells R 74)).drew).frozen? x = (w.drew.alloc (.cells R 74)).frozen? x := fun x => rfl
  have hF1 : ∀ y, (((w.alloc (.cells R 74)).drew.setCells w.heap.size i [x]).drew).cell? y = ((w.drew.alloc (.cells R 74)).setCells w.heap.size i [x]).cell? y := fun y => rfl
  have hF2 : ∀ y, (((w.alloc (.cells R 74)).drew.setCells w.heap.size i [x]).drew).frozen? y = ((w.drew.alloc (.cells R 74)).setCells w.heap.size i [x]).frozen? y := fun y => rfl
  clear h hold hl hdl hi0 hz0 hz1 hz2 own1 q1 q2 q3 q4 gr1 below1 hv hRs hT hik hR hG hGm
  go_enter Try.func40, Try.ntmps40
  go_wp2_with (first
    | (at_builtin; refine Lib.wpList_append_run _ rfl _ _ _ _ rfl _ _ rfl rfl _ _ (hrz _) ?_)
    | (at_builtin; refine wpList_copy_runI _ rfl _ _ 69 69 rfl _ _ rfl rfl (hcpA _ hE1 hE2 _ _) ?_))
  go_region_law_o (refine step_copy_runI rfl _ _ 69 69 rfl (.slice (some ⟨w.heap.size, i + 1, none⟩) (c - i) (G - (i + 1))) (.slice (some ⟨g, i, none⟩) (c - i) (c - i)) (by simp [Act.eval, Act.put]) (by simp [Act.eval, Act.put]) (hcpB _ hF1 hF2 3 (G - (i + 1)) (c - i)) ?_)
  go_wp2
  go_ret
  exact ⟨_, rfl, by rw [← drew_setCells]; exact Q.out.1.drew, by rw [← drew_setCells]; exact gr_trans Q.out.2 (gr_drew _ _)⟩
/-- Insert, wherever. -/
theorem insert_any (V : Value) (n i : Nat) (xs : List Value) (x : Value) (vb N : Nat) (w : World) (h : w.ownsRow N 74 1 V n xs) (hv : Blk w vb 74 #[x]) (hx : x.oneCell' = true) (hxs : ∀ u ∈ xs, u.oneCell' = true) (hi : i ≤ n) (hn : n ≤ 100000) (hN : N ≤ w.heap.size) :
    Calls Try.prog 40 #[V, .int .i64 i, .slice (some ⟨vb, 0, none⟩) 1 1] w (AnsIn N V n i xs x w) := by
  by_cases e : i = n
  · subst e
    exact insert_end V i xs x vb N w h hv hx hn hN
  · have hlt : i < n := by omega
    rcases h.2 with ⟨h', h0⟩ | ⟨g, cap, cur, rfl, _⟩
    · omega
    · by_cases hr : n < cap
      · exact insert_room g n cap i xs x vb N w h hv hx hxs hlt hr
      · exact insert_grow g n cap i xs x vb N w h hv hx hxs hlt hr hn hN
end Go.Proofs.Ytmnmmbeageddkaa
