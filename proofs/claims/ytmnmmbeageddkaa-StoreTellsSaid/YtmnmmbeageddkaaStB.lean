/- Stores: the place of a second, and whether an info has it. -/
import Derived.Test.YtmnmmbeageddkaaStA
import Derived.Test.YtmnmmbeageddkaaSpA0
import Derived.Test.YtmnmmbeageddkaaLaidO
import Derived.Shelf.SlSorted.Search
set_option linter.unusedVariables false
set_option linter.unusedSimpArgs false
namespace Go.Proofs.Ytmnmmbeageddkaa
open Go.RowKit Go.Sort Go.Shelf

set_option maxHeartbeats 2000000 in
theorem st_fit {W : World} {N p : Nat} {room : Int} {V : Value} {qs : List Nat} {l : List If.I} (h : StM W N p room V qs l) (bl bt : Nat) (t : Int) (hl : W.cell? ⟨bl, 0, none⟩ = some V) (ht : W.cell? ⟨bt, 0, none⟩ = some (.int .i64 t)) (i : Nat) (hi : i < l.length) :
    Calls Try.prog 62 #[.int .i64 i, .pointer (some ⟨bl, 0, none⟩), .pointer (some ⟨bt, 0, none⟩)] W fun e w' => e = .returned (.bool (decide (t < l[i].2.1))) ∧ ∃ k, w' = W.drewN k := by
  obtain ⟨A, c, rfl⟩ := h.form
  obtain ⟨a, q, rfl, g1, g2⟩ := h.get i hi
  have p1 := g2.c1
  generalize l[i].2.1 = to at *
  have i1 : (i : Int) < l.length := by omega
  clear g2
  go_enter Try.func62, Try.ntmps62
  go_wp2
  go_quiet (fail)
  go_wp2
  go_ret
  exact ⟨by first | rfl | (congr 2), _, rfl⟩
theorem grow_below {B : Nat} (w : World) (q : Nat) (os : Array Obj) (hB : B ≤ w.heap.size) : Below B w (grow (w.drewN q) os) := below_grown_sl B w q os hB
theorem grow0 (X : World) : grow X #[] = X := by cases X; simp [grow]
theorem countP_ahead (n k : Nat) (hk : k ≤ n) : (List.range n).countP (fun i => decide (i < k)) = k := by
  induction n with
  | zero => have : k = 0 := by omega
            subst this; rfl
  | succ n ih =>
    rw [List.range_succ, List.countP_append]
    by_cases h : k ≤ n
    · rw [ih h]
      simp
      omega
    · have : k = n + 1 := by omega
      subst this
      have e : (List.range n).countP (fun i => decide (i < n + 1)) = n := by
        rw [List.countP_eq_length.2 (fun a ha => by have := List.mem_range.1 ha; simp; omega), List.length_range]
      rw [e]
      simp
theorem count_pl {t : Int} {l : List If.I} (hk : Sk.Kept l) : (List.range l.length).countP (fun i => !(if h : i < l.length then decide (t < l[i].2.1) else true)) = Sk.pl t l := by
  rw [← countP_ahead l.length (Sk.pl t l) (Sk.pl_len t l)]
  refine List.countP_congr fun i hi => ?_
  have hi' := List.mem_range.1 hi
  rw [dif_pos hi', Bool.not_eq_true', decide_eq_false_iff_not, decide_eq_true_iff, Sk.pl_lt hk i hi']
  omega
set_option maxRecDepth 100000 in
set_option maxHeartbeats 4000000 in
theorem st_place {W : World} {N p : Nat} {room : Int} {V : Value} {qs : List Nat} {l : List If.I} (h : StM W N p room V qs l) (hk : Sk.Kept l) (hn : l.length ≤ 100000) (t : Int) :
    Calls Try.prog 38 #[.pointer (some ⟨p, 0, none⟩), .int .i64 t] W fun e w' => e = .returned (.int .i64 (Sk.pl t l)) ∧ Below W.heap.size W w' := by
  obtain ⟨A, c, rfl⟩ := h.form
  have b0 : Below W.heap.size W (W.alloc (.cells #[.int .i64 t] 2)) := (Below.refl _ _).alloc (Nat.le_refl _) _
  have H0 := Lib.hid (h.on b0)
  have T0 := Lib.hid (Blk.new W 2 #[.int .i64 t])
  have B0 := Lib.hid b0
  have HK := Lib.hid hk
  have HN := Lib.hid hn
  clear b0 h hk hn
  go_enter Try.func38, Try.ntmps38
  go_upto_region 1 with (fail)
  generalize W.alloc (.cells #[.int .i64 t] 2) = w1 at *
  generalize hbt : W.heap.size = bt at T0 ⊢
  go_wp2_with fail
  refine (st_all H0.out).mono ?_
  rintro e w2 ⟨rfl, b2⟩
  have H2 := Lib.hid (H0.out.on b2); have T2 := Lib.hid (T0.out.on b2); have B2 := Lib.hid (below_step B0.out b2)
  clear b2 H0 T0 B0
  go_upto_region 2 with (fail)
  have b3 : Below w2.heap.size w2 (w2.alloc (.cells #[.slice A l.length c] 69)) := (Below.refl _ _).alloc (Nat.le_refl _) _
  have H3 := Lib.hid (H2.out.on b3); have T3 := Lib.hid (T2.out.on b3); have B3 := Lib.hid (below_step B2.out b3)
  have L3 := Lib.hid (Blk.new w2 69 #[.slice A l.length c])
  clear b3 H2 T2 B2
  generalize w2.alloc (.cells #[.slice A l.length c] 69) = w3 at *
  generalize w2.heap.size = bl at *
  have hc := Any.sort_Search Try.search39 62 #[.pointer (some ⟨bl, 0, none⟩), .pointer (some ⟨bt, 0, none⟩)] l.length (fun i => if h : i < l.length then decide (t < l[i].2.1) else true) w3
    (enters_of Try.func62 (by kernel_rfl) rfl) (by have := HN.out; omega)
    (fun m os i hi => by
      have bg : Below w3.heap.size w3 (grow (w3.drewN m) os) := grow_below w3 m os (Nat.le_refl _)
      refine (st_fit (H3.out.on bg) bl bt t (L3.out.on bg).c0 (T3.out.on bg).c0 i hi).mono ?_
      rintro e w' ⟨rfl, k, rfl⟩
      exact ⟨by rw [dif_pos hi], k, #[], (grow0 _).symm⟩)
    (fun a b hab hb ha => by
      rw [dif_pos hb]
      rw [dif_pos (by omega)] at ha
      have h1 := Sk.pl_lt (t := t) HK.out a (by omega)
      have h2 := Sk.pl_lt (t := t) HK.out b hb
      simp at ha ⊢
      omega)
  rw [count_pl HK.out] at hc
  have HC := Lib.hid hc
  clear hc
  have c0 := L3.out.c0
  go_wp2_with fail
  refine HC.out.mono ?_
  rintro e w4 ⟨rfl, q, os, rfl⟩
  have B4 := Lib.hid (below_step B3.out (grow_below w3 q os (Nat.le_refl _)))
  go_wp2
  go_ret
  exact ⟨rfl, B4.out⟩
namespace Sk
/-- Whether the one at a second's place has it. -/
def has (t : Int) (l : List If.I) : Bool := match l[pl t l]? with | some x => Sp.hs x.1 x.2.1 t | none => false
theorem has_at (t : Int) (l : List If.I) (h : pl t l < l.length) : has t l = Sp.hs l[pl t l].1 l[pl t l].2.1 t := by unfold has; rw [List.getElem?_eq_getElem h]
theorem has_end (t : Int) (l : List If.I) (h : ¬ pl t l < l.length) : has t l = false := by unfold has; rw [List.getElem?_eq_none (by omega)]
theorem has_lt {t : Int} {l : List If.I} (h : has t l = true) : pl t l < l.length := by
  by_cases g : pl t l < l.length
  · exact g
  · rw [has_end t l g] at h; cases h
end Sk
set_option maxRecDepth 100000 in
set_option maxHeartbeats 4000000 in
theorem st_at {W : World} {N p : Nat} {room : Int} {V : Value} {qs : List Nat} {l : List If.I} (h : StM W N p room V qs l) (hk : Sk.Kept l) (hn : l.length ≤ 100000) (t : Int) :
    Calls Try.prog 43 #[.pointer (some ⟨p, 0, none⟩), .int .i64 t] W fun e w' => e = .returned (.tuple #[.int .i64 (Sk.pl t l), .bool (Sk.has t l)]) ∧ Below W.heap.size W w' := by
  obtain ⟨A, c, rfl⟩ := h.form
  have H0 := Lib.hid h
  have HK := Lib.hid hk
  have HN := Lib.hid hn
  clear h hk hn
  obtain ⟨k, hk⟩ : ∃ k, Sk.pl t l = k := ⟨_, rfl⟩
  have PK := Lib.hid hk
  have PL := Lib.hid (show k ≤ l.length by rw [← hk]; exact Sk.pl_len t l)
  obtain ⟨b, hb⟩ : ∃ b, Sk.has t l = b := ⟨_, rfl⟩
  have PB := Lib.hid hb
  rw [hk, hb]
  clear hk hb
  go_enter Try.func43, Try.ntmps43
  go_wp2_with fail
  refine (st_place H0.out HK.out HN.out t).mono ?_
  rw [PK.out]
  rintro e w1 ⟨rfl, b1⟩
  have H1 := Lib.hid (H0.out.on b1); have B1 := Lib.hid b1
  clear b1 H0
  go_wp2_with fail
  refine (st_len H1.out).mono ?_
  rintro e w2 ⟨rfl, b2⟩
  have H2 := Lib.hid (H1.out.on b2); have B2 := Lib.hid (below_step B1.out b2)
  clear b2 H1 B1
  have c1 := H2.out.blk.c1
  by_cases hlt : k < l.length
  · have i1 : (k : Int) < l.length := by omega
    obtain ⟨a, q, rfl, g1, g2⟩ := H2.out.get k hlt
    have e : Sp.hs l[k].1 l[k].2.1 t = b := by
      have := PB.out
      rw [Sk.has_at t l (by rw [PK.out]; exact hlt)] at this
      simpa [PK.out] using this
    have EB := Lib.hid e
    clear e
    have p0 := g2.c0; have p1 := g2.c1
    clear g2
    generalize l[k].1 = x0 at *
    generalize l[k].2.1 = x1 at *
    go_wp2_with fail
    refine (span_has x0 x1 t _).mono ?_
    rintro e w3 ⟨rfl, b3⟩
    rw [EB.out]
    have B3 := Lib.hid (below_step B2.out b3)
    go_wp2
    go_ret2
    exact ⟨rfl, B3.out⟩
  · have i1 : ¬ (k : Int) < l.length := by omega
    obtain rfl : b = false := by rw [← PB.out]; exact Sk.has_end t l (by rw [PK.out]; exact hlt)
    go_wp2
    go_ret2
    exact ⟨rfl, B2.out⟩
set_option maxHeartbeats 1000000 in
theorem st_place_nil (t : Int) (W : World) :
    Calls Try.prog 38 #[.pointer none, .int .i64 t] W fun e w' => e = .returned (.int .i64 0) ∧ Below W.heap.size W w' := by
  have b0 : Below W.heap.size W (W.alloc (.cells #[.int .i64 t] 2)) := (Below.refl _ _).alloc (Nat.le_refl _) _
  have B0 := Lib.hid b0
  clear b0
  go_enter Try.func38, Try.ntmps38
  go_wp2_with fail
  generalize W.alloc (.cells #[.int .i64 t] 2) = w1 at *
  generalize hbt : W.heap.size = bt at *
  refine (st_all_nil _).mono ?_
  rintro e w2 ⟨rfl, b2⟩
  have B2 := Lib.hid (show Below bt W w2 from hbt ▸ below_step (hbt ▸ B0.out) b2)
  clear b2 B0
  go_upto_region 2 with (fail)
  have B3 := Lib.hid (show Below bt W (w2.alloc (.cells #[.slice none 0 0] 69)) from B2.out.alloc (hbt ▸ B2.out.size) _)
  have L3 := Lib.hid (Blk.new w2 69 #[.slice none 0 0])
  clear B2
  generalize w2.alloc (.cells #[.slice none 0 0] 69) = w3 at *
  generalize w2.heap.size = bl at *
  have hc := Any.sort_Search Try.search39 62 #[.pointer (some ⟨bl, 0, none⟩), .pointer (some ⟨bt, 0, none⟩)] 0 (fun i => true) w3
    (enters_of Try.func62 (by kernel_rfl) rfl) (by omega) (fun m os i hi => absurd hi (by omega)) (fun a b hab hb ha => absurd hb (by omega))
  have HC := Lib.hid hc
  clear hc
  have c0 := L3.out.c0
  go_wp2_with fail
  refine HC.out.mono ?_
  rintro e w4 ⟨rfl, q, os, rfl⟩
  have B4 := Lib.hid (show Below bt W _ from B3.out.trans (grow_below w3 q os (hbt ▸ B3.out.size)))
  go_wp2
  go_ret
  exact ⟨rfl, by rw [hbt]; exact B4.out⟩
set_option maxHeartbeats 1000000 in
theorem st_at_nil (t : Int) (W : World) :
    Calls Try.prog 43 #[.pointer none, .int .i64 t] W fun e w' => e = .returned (.tuple #[.int .i64 0, .bool false]) ∧ Below W.heap.size W w' := by
  go_enter Try.func43, Try.ntmps43
  go_wp2_with fail
  refine (st_place_nil t _).mono ?_
  rintro e w1 ⟨rfl, b1⟩
  go_wp2_with fail
  refine (st_len_nil _).mono ?_
  rintro e w2 ⟨rfl, b2⟩
  go_wp2
  go_ret2
  exact ⟨rfl, below_step b1 b2⟩
end Go.Proofs.Ytmnmmbeageddkaa
