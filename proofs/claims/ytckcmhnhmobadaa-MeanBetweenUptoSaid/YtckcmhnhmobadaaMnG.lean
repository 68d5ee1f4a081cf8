/- Parts: the contracts of Merge, the program's and the reference's. -/
import Derived.Test.YtckcmhnhmobadaaMnD
set_option linter.unusedVariables false
set_option linter.unusedSimpArgs false
namespace Go.Proofs.Ytckcmhnhmobadaa
open Go.RowKit Go.Sort Go.Shelf

namespace Mn
theorem ptc_len (l : List P) : (ptc l).length = l.length * 3 := by
  induction l with
  | nil => rfl
  | cons p l ih => rw [ptc_cons]; simp only [List.length_cons]; omega
theorem nil_or (o : List P) : o = [] ∨ ∃ o' q, o = o' ++ [q] := by
  rcases List.eq_nil_or_concat o with h | ⟨o', q, h⟩
  · exact .inl h
  · exact .inr ⟨o', q, by rw [h, List.concat_eq_append]⟩
def merged (l : List P) : List P := if rt none l then merge l else []
theorem mg_nil (p : P) : mg [] p = [p] := rfl
theorem mg_yes (l : List P) (q p : P) (h : q.2.2 = p.2.2) (k : q.2.1 = p.1) : mg (l ++ [q]) p = l ++ [(q.1, p.2.1, q.2.2)] := by
  unfold mg
  rw [List.getLast?_concat]
  simp only
  rw [if_pos ⟨h, k⟩, List.dropLast_concat]
theorem mg_no (l : List P) (q p : P) (h : ¬ (q.2.2 = p.2.2 ∧ q.2.1 = p.1)) : mg (l ++ [q]) p = (l ++ [q]) ++ [p] := by
  unfold mg
  rw [List.getLast?_concat]
  simp only
  rw [if_neg h]
end Mn
theorem info_part : (Try.prog.info? 52).map (fun i => (i.zero, i.size, i.bytes)) = some (some (.agg #[.int .i64 0, .int .i64 0, .int .i64 0]), 3, 24) := by kernel_rfl
/-- A call that answers a list of parts, and turns nothing old. -/
def AnsP (l : List Mn.P) (w : World) (e : Ending) (w' : World) : Prop := ∃ v, PtV w' v l ∧ e = .returned v ∧ Below w.heap.size w w'
/-- The last part of an own row. -/
theorem po_last {w : World} {base : Nat} {e : TypeId} {v : Value} {l : List Mn.P} {q : Mn.P} {N : Nat} (hN : N = l.length + 1) (h : w.ownsRow base e 3 v N (Mn.ptc (l ++ [q]))) :
    ∃ a c, v = .slice (some a) N c ∧ base ≤ a.block ∧ a.block < w.heap.size ∧ w.cell? (a.add (l.length * 3)) = some (.int .i64 q.1) ∧ w.cell? ⟨(a.add (l.length * 3)).block, (a.add (l.length * 3)).off + 1, none⟩ = some (.int .i64 q.2.1) ∧ w.cell? ⟨(a.add (l.length * 3)).block, (a.add (l.length * 3)).off + 2, none⟩ = some (.int .i64 q.2.2)
      ∧ w.frozen? ⟨(a.add (l.length * 3)).block, (a.add (l.length * 3)).off + 1, none⟩ = false ∧ ∀ y, (w.setCell ⟨(a.add (l.length * 3)).block, (a.add (l.length * 3)).off + 1, none⟩ (.int .i64 y)).ownsRow base e 3 v N (Mn.ptc (l ++ [(q.1, y, q.2.2)])) := by
  subst hN
  obtain ⟨g, cap, rfl, hb, hlt⟩ := h.form (by omega)
  have hk : l.length < (l ++ [q]).length := by rw [List.length_append, List.length_singleton]; omega
  have e0 : (⟨g, 0, none⟩ : Addr).add (l.length * 3) = ⟨g, l.length * 3, none⟩ := by unfold Addr.add; split <;> simp_all
  obtain ⟨x1, x2, x3⟩ := Mn.ptc_at (l ++ [q]) l.length hk
  rw [List.getElem_concat_length rfl] at x1 x2 x3
  refine ⟨⟨g, 0, none⟩, cap, rfl, hb, hlt, ?_, ?_, ?_, ?_, ?_⟩
  · rw [e0, h.cellAt _ (by omega)]; exact x1
  · rw [e0]; show w.cell? ⟨g, l.length * 3 + 1, none⟩ = _; rw [h.cellAt _ (by omega)]; exact x2
  · rw [e0]; show w.cell? ⟨g, l.length * 3 + 2, none⟩ = _; rw [h.cellAt _ (by omega)]; exact x3
  · rw [e0]; exact h.frozenAt _
  · intro y
    rw [e0]
    have := (h.stored (l.length * 3 + 1) (.int .i64 y)).1
    have hp : (Mn.ptc (l ++ [q])).set (l.length * 3 + 1) (.int .i64 y) = Mn.ptc (l ++ [(q.1, y, q.2.2)]) := by
      rw [Mn.ptc_app, Mn.ptc_app]
      have hlen := Mn.ptc_len l
      rw [List.set_append_right _ _ (by omega), hlen, show l.length * 3 + 1 - l.length * 3 = 1 by omega]
      rfl
    rw [hp] at this
    exact this
theorem po_form {w : World} {base : Nat} {e : TypeId} {v : Value} {N : Nat} {xs : List Value} {size : Nat} (h : w.ownsRow base e size v N xs) : ∃ A c, v = .slice A N c := by
  rcases h.2 with ⟨rfl, h0⟩ | ⟨g, cap, cur, rfl, _⟩
  · exact ⟨none, 0, by rw [h0]⟩
  · exact ⟨_, _, rfl⟩
theorem three_cells {w : World} {b : Nat} {x y z : Value} (h0 : w.cell? ⟨b, 0, none⟩ = some x) (h1 : w.cell? ⟨b, 1, none⟩ = some y) (h2 : w.cell? ⟨b, 2, none⟩ = some z) : ∀ (j : Nat) (u : Value), [x, y, z][j]? = some u → w.cell? ((⟨b, 0, none⟩ : Addr).add j) = some u := by
  intro j u hj
  match j, hj with
  | 0, hj => simp at hj; subst hj; simpa [Addr.add] using h0
  | 1, hj => simp at hj; subst hj; simpa [Addr.add] using h1
  | 2, hj => simp at hj; subst hj; simpa [Addr.add] using h2
set_option maxRecDepth 100000 in
set_option maxHeartbeats 4000000 in
theorem merge_mean (v : Value) (l : List Mn.P) (w : World) (h : PtV w v l) (hm : l.length ≤ 1000000) :
    Calls Try.prog 41 #[v] w (AnsP (Mn.merged l) w) := by
  have H := Lib.hid h
  obtain ⟨A, c, rfl, -⟩ := h
  obtain ⟨n, hn⟩ : ∃ n, l.length = n := ⟨_, rfl⟩
  rw [hn] at hm H ⊢
  have HN := Lib.hid hn
  clear hn
  obtain ⟨i0, hi, hz0, hz1, hz2⟩ := info_parts info_part
  have C := Lib.hid (mean_right (.slice A n c) l w H.out (by rw [HN.out]; exact hm))
  unfold Mn.merged
  cases hr : Mn.rt none l
  · rw [hr] at C
    clear hr
    simp only [Bool.false_eq_true, if_false]
    go_enter Try.func41, Try.ntmps41
    go_wp2_with fail
    refine C.out.mono ?_
    rintro e w1 ⟨rfl, b1⟩
    go_wp2
    go_ret
    exact ⟨_, PtV.nil _, rfl, b1⟩
  · rw [hr] at C
    clear hr
    simp only [if_true]
    go_enter Try.func41, Try.ntmps41
    go_wp2_with fail
    refine C.out.mono ?_
    rintro e w1 ⟨rfl, b1⟩
    have B1 := Lib.hid b1
    have O1 := Lib.hid (World.ownsRow_nil w1 w.heap.size 52 3)
    clear b1 C
    go_wp2
    go_loopw [3, 12] (fun u i wr => ∃ (k : Nat), k ≤ n ∧ i = .int .i64 k ∧ Hid (wr.ownsRow w.heap.size 52 3 u (Mn.merge (l.take k)).length (Mn.ptc (Mn.merge (l.take k)))) ∧ Hid (Below w.heap.size w wr)) (fun _ i _ => n - (intOf i).toNat)
    case atStart => exact ⟨0, Nat.zero_le _, rfl, O1, B1⟩
    case round =>
      rename World => w2
      obtain ⟨k, hk, rfl, O, B⟩ := hrel
      by_cases hlt : k < n
      · have hkl : k < l.length := by rw [HN.out]; exact hlt
        obtain ⟨a, rfl, hab, g1, g2, g3⟩ := (H.out.on B.out).get k hkl
        have MT := Lib.hid (Mn.merge_take l k hkl)
        have hml := Lib.hid (show (Mn.merge (l.take k)).length ≤ k by have := Mn.merge_len (l.take k); rw [List.length_take] at this; omega)
        generalize hp : l[k] = p at *
        obtain ⟨x, y, z⟩ := p
        simp only at g1 g2 g3
        have i1 : (k : Int) < n := by omega
        generalize Mn.merge (l.take k) = o at *
        clear hp
        have O2 := Lib.hid (O.out.alloc (.cells #[.int .i64 x, .int .i64 y, .int .i64 z] 52))
        have B2 := Lib.hid (B.out.alloc B.out.size (.cells #[.int .i64 x, .int .i64 y, .int .i64 z] 52))
        have P2 := Blk.new w2 52 #[.int .i64 x, .int .i64 y, .int .i64 z]
        rcases Mn.nil_or o with rfl | ⟨o', q, rfl⟩
        · obtain ⟨A2, c2, rfl⟩ := po_form O.out
          simp only [List.length_nil] at O2 ⊢
          go_wp2
          go_quiet (fail)
          generalize hW : World.drewN _ _ = w3
          have b3 : Below (w2.alloc (.cells #[.int .i64 x, .int .i64 y, .int .i64 z] 52)).heap.size (w2.alloc (.cells #[.int .i64 x, .int .i64 y, .int .i64 z] 52)) w3 := by rw [← hW]; exact below_draw _ _
          clear hW
          have O3 := Lib.hid (own_on O2.out b3)
          have B3 := Lib.hid (below_step B2.out b3)
          have P3 := P2.on b3
          clear b3 O2 B2 P2 O B g1 g2 g3 hab
          have d0 := P3.c0; have d1 := P3.c1; have d2 := P3.c2
          go_wp2_with (at_builtin; refine wpList_append_own _ rfl _ _ 39 rfl w.heap.size 52 i0 (.agg #[.int .i64 0, .int .i64 0, .int .i64 0]) 3 24 Try.underlying39 hi hz0 hz1 hz2 rfl (by decide) _ _ _ rfl (O3.out.alloc _) ⟨w3.heap.size, 0, none⟩ 1 1 [.int .i64 x, .int .i64 y, .int .i64 z] rfl rfl (three_cells (by simp [go_sem]) (by simp [go_sem]) (by simp [go_sem])) (by intro u hu; simp at hu; rcases hu with rfl | rfl | rfl <;> rfl) (by unfold maxLen; omega) (by omega) (by have := B3.out.size; simp; omega) ?_)
          intro v4 w4 own4 grow4 _
          have B4 := Lib.hid (show Below w.heap.size w w4 from ((B3.out.alloc B3.out.size _).trans (below_grown grow4 (by have := B3.out.size; simp; omega) (own_row O3.out))))
          have O4 := Lib.hid own4
          clear own4 grow4 O3 B3 P3
          go_wp2
          go_roundw
          case rel => exact ⟨k + 1, by omega, by go_num, Lib.hid (by rw [MT.out, Mn.mg_nil]; exact O4.out), B4⟩
          case measure => simp [intOf]; omega
        · obtain ⟨N, hN⟩ : ∃ N, N = (o' ++ [q]).length := ⟨_, rfl⟩
          have HNN := Lib.hid hN
          have hNj : N = o'.length + 1 := by rw [hN, List.length_append, List.length_singleton]
          have hNk := hml.out
          rw [← hN] at O O2 hNk
          obtain ⟨ao, co, rfl, hba, -, -⟩ := po_last hNj O.out
          have ek : (N : Int) - 1 = (o'.length : Int) := by omega
          have gk : decide (0 ≤ o'.length) = true := decide_eq_true (by omega)
          have gk2 : decide (0 < N) = true := decide_eq_true (by omega)
          have hjN : (o'.length : Int) < N := by omega
          have hjb : (o'.length : Int) ≤ 1000000 := by omega
          have L2 := Lib.hid (po_last hNj O2.out)
          have PL := Lib.hid (fun (W : World) (hO : W.ownsRow w.heap.size 52 3 (.slice (some ao) N co) N (Mn.ptc (o' ++ [q]))) => po_last hNj hO)
          generalize o'.length = j at *
          obtain ⟨a2, c2, e2, -, -, k0, k1, k2, kf, kst⟩ := L2.out
          cases e2
          obtain ⟨q0, q1, q2⟩ := q
          simp only at k0 k1 k2 kst
          clear L2 kst kf hNj hN
          by_cases hq : q2 = z
          · by_cases hx : q1 = x
            · have HQ := Lib.hid (show q2 = z ∧ q1 = x from ⟨hq, hx⟩)
              have t0 : (q2 == z) = true := by rw [hq]; simp
              have t1 : (q1 == x) = true := by rw [hx]; simp
              clear hq hx
              go_wp2
              go_quiet (fail)
              generalize hW : World.drewN _ _ = w3
              have b3 : Below (w2.alloc (.cells #[.int .i64 x, .int .i64 y, .int .i64 z] 52)).heap.size (w2.alloc (.cells #[.int .i64 x, .int .i64 y, .int .i64 z] 52)) w3 := by rw [← hW]; exact below_draw _ _
              clear hW
              have O3 := Lib.hid (own_on O2.out b3)
              have B3 := Lib.hid (below_step B2.out b3)
              have P3 := P2.on b3
              clear b3 O2 B2 P2 O B g1 g2 g3 hab
              have d0 := P3.c0; have d1 := P3.c1; have d2 := P3.c2
              obtain ⟨a3, c3, e3, -, -, m0, m1, m2, mf, mst⟩ := PL.out w3 O3.out
              cases e3
              have MST := Lib.hid (mst y)
              clear mst PL
              go_wp2
              go_roundw
              case rel =>
                refine ⟨k + 1, by omega, by go_num, Lib.hid ?_, Lib.hid (B3.out.setCell (p := ⟨(ao.add (j * 3)).block, (ao.add (j * 3)).off + 1, none⟩) (by rw [blk_add]; exact hba) _)⟩
                rw [MT.out, Mn.mg_yes _ _ _ HQ.out.1 HQ.out.2]
                have e := HNN.out
                rw [List.length_append, List.length_singleton] at e ⊢
                rw [← e]
                exact MST.out
              case measure => simp [intOf]; omega
            · have HNQ := Lib.hid (show ¬ (q2 = z ∧ q1 = x) from fun h => hx h.2)
              have t0 : (q2 == z) = true := by rw [hq]; simp
              clear hq
              have t1 : (q1 == x) = false := by rw [beq_eq_false_iff_ne]; exact hx
              clear hx
              clear PL
              go_wp2
              go_quiet (fail)
              generalize hW : World.drewN _ _ = w3
              have b3 : Below (w2.alloc (.cells #[.int .i64 x, .int .i64 y, .int .i64 z] 52)).heap.size (w2.alloc (.cells #[.int .i64 x, .int .i64 y, .int .i64 z] 52)) w3 := by rw [← hW]; exact below_draw _ _
              clear hW
              have O3 := Lib.hid (own_on O2.out b3)
              have B3 := Lib.hid (below_step B2.out b3)
              have P3 := P2.on b3
              clear b3 O2 B2 P2 O B g1 g2 g3 hab
              have d0 := P3.c0; have d1 := P3.c1; have d2 := P3.c2
              go_wp2_with (at_builtin; refine wpList_append_own _ rfl _ _ 39 rfl w.heap.size 52 i0 (.agg #[.int .i64 0, .int .i64 0, .int .i64 0]) 3 24 Try.underlying39 hi hz0 hz1 hz2 rfl (by decide) _ _ _ rfl (O3.out.alloc _) ⟨w3.heap.size, 0, none⟩ 1 1 [.int .i64 x, .int .i64 y, .int .i64 z] rfl rfl (three_cells (by simp [go_sem]) (by simp [go_sem]) (by simp [go_sem])) (by intro u hu; simp at hu; rcases hu with rfl | rfl | rfl <;> rfl) (by unfold maxLen; omega) (by omega) (by have := B3.out.size; simp; omega) ?_)
              intro v4 w4 own4 grow4 _
              have B4 := Lib.hid (show Below w.heap.size w w4 from ((B3.out.alloc B3.out.size _).trans (below_grown grow4 (by have := B3.out.size; simp; omega) (own_row O3.out))))
              have O4 := Lib.hid own4
              clear own4 grow4 O3 B3 P3
              go_wp2
              go_roundw
              case rel =>
                refine ⟨k + 1, by omega, by go_num, Lib.hid ?_, B4⟩
                rw [MT.out, Mn.mg_no _ _ _ HNQ.out, Mn.ptc_app, List.length_append, ← HNN.out]
                exact O4.out
              case measure => simp [intOf]; omega
          · have HNQ := Lib.hid (show ¬ (q2 = z ∧ q1 = x) from fun h => hq h.1)
            have t1 : (q2 == z) = false := by rw [beq_eq_false_iff_ne]; exact hq
            clear hq
            clear PL
            go_wp2
            go_quiet (fail)
            generalize hW : World.drewN _ _ = w3
            have b3 : Below (w2.alloc (.cells #[.int .i64 x, .int .i64 y, .int .i64 z] 52)).heap.size (w2.alloc (.cells #[.int .i64 x, .int .i64 y, .int .i64 z] 52)) w3 := by rw [← hW]; exact below_draw _ _
            clear hW
            have O3 := Lib.hid (own_on O2.out b3)
            have B3 := Lib.hid (below_step B2.out b3)
            have P3 := P2.on b3
            clear b3 O2 B2 P2 O B g1 g2 g3 hab
            have d0 := P3.c0; have d1 := P3.c1; have d2 := P3.c2
            go_wp2_with (at_builtin; refine wpList_append_own _ rfl _ _ 39 rfl w.heap.size 52 i0 (.agg #[.int .i64 0, .int .i64 0, .int .i64 0]) 3 24 Try.underlying39 hi hz0 hz1 hz2 rfl (by decide) _ _ _ rfl (O3.out.alloc _) ⟨w3.heap.size, 0, none⟩ 1 1 [.int .i64 x, .int .i64 y, .int .i64 z] rfl rfl (three_cells (by simp [go_sem]) (by simp [go_sem]) (by simp [go_sem])) (by intro u hu; simp at hu; rcases hu with rfl | rfl | rfl <;> rfl) (by unfold maxLen; omega) (by omega) (by have := B3.out.size; simp; omega) ?_)
            intro v4 w4 own4 grow4 _
            have B4 := Lib.hid (show Below w.heap.size w w4 from ((B3.out.alloc B3.out.size _).trans (below_grown grow4 (by have := B3.out.size; simp; omega) (own_row O3.out))))
            have O4 := Lib.hid own4
            clear own4 grow4 O3 B3 P3
            go_wp2
            go_roundw
            case rel =>
              refine ⟨k + 1, by omega, by go_num, Lib.hid ?_, B4⟩
              rw [MT.out, Mn.mg_no _ _ _ HNQ.out, Mn.ptc_app, List.length_append, ← HNN.out]
              exact O4.out
            case measure => simp [intOf]; omega
      · have E := Lib.hid (show l.take k = l from List.take_of_length_le (by rw [HN.out]; omega))
        rw [E.out] at O
        go_wp2
        go_ret
        exact ⟨_, PtV.own O.out, rfl, B.out⟩
set_option maxRecDepth 100000 in
set_option maxHeartbeats 4000000 in
theorem merge_noontideref12 (v : Value) (l : List Mn.P) (w : World) (h : PtV w v l) (hm : l.length ≤ 1000000) :
    Calls Try.prog 42 #[v] w (AnsP (Mn.merged l) w) := by
  have H := Lib.hid h
  obtain ⟨A, c, rfl, -⟩ := h
  obtain ⟨n, hn⟩ : ∃ n, l.length = n := ⟨_, rfl⟩
  rw [hn] at hm H ⊢
  have HN := Lib.hid hn
  clear hn
  obtain ⟨i0, hi, hz0, hz1, hz2⟩ := info_parts info_part
  have C := Lib.hid (noontideref12_right (.slice A n c) l w H.out (by rw [HN.out]; exact hm))
  unfold Mn.merged
  cases hr : Mn.rt none l
  · rw [hr] at C
    clear hr
    simp only [Bool.false_eq_true, if_false]
    go_enter Try.func42, Try.ntmps42
    go_wp2_with fail
    refine C.out.mono ?_
    rintro e w1 ⟨rfl, b1⟩
    go_wp2
    go_ret
    exact ⟨_, PtV.nil _, rfl, b1⟩
  · rw [hr] at C
    clear hr
    simp only [if_true]
    go_enter Try.func42, Try.ntmps42
    go_wp2_with fail
    refine C.out.mono ?_
    rintro e w1 ⟨rfl, b1⟩
    have B1 := Lib.hid b1
    have O1 := Lib.hid (World.ownsRow_nil w1 w.heap.size 52 3)
    clear b1 C
    go_wp2
    go_loopw [3, 12] (fun u i wr => ∃ (k : Nat), k ≤ n ∧ i = .int .i64 k ∧ Hid (wr.ownsRow w.heap.size 52 3 u (Mn.merge (l.take k)).length (Mn.ptc (Mn.merge (l.take k)))) ∧ Hid (Below w.heap.size w wr)) (fun _ i _ => n - (intOf i).toNat)
    case atStart => exact ⟨0, Nat.zero_le _, rfl, O1, B1⟩
    case round =>
      rename World => w2
      obtain ⟨k, hk, rfl, O, B⟩ := hrel
      by_cases hlt : k < n
      · have hkl : k < l.length := by rw [HN.out]; exact hlt
        obtain ⟨a, rfl, hab, g1, g2, g3⟩ := (H.out.on B.out).get k hkl
        have MT := Lib.hid (Mn.merge_take l k hkl)
        have hml := Lib.hid (show (Mn.merge (l.take k)).length ≤ k by have := Mn.merge_len (l.take k); rw [List.length_take] at this; omega)
        generalize hp : l[k] = p at *
        obtain ⟨x, y, z⟩ := p
        simp only at g1 g2 g3
        have i1 : (k : Int) < n := by omega
        generalize Mn.merge (l.take k) = o at *
        clear hp
        have O2 := Lib.hid (O.out.alloc (.cells #[.int .i64 x, .int .i64 y, .int .i64 z] 52))
        have B2 := Lib.hid (B.out.alloc B.out.size (.cells #[.int .i64 x, .int .i64 y, .int .i64 z] 52))
        have P2 := Blk.new w2 52 #[.int .i64 x, .int .i64 y, .int .i64 z]
        rcases Mn.nil_or o with rfl | ⟨o', q, rfl⟩
        · obtain ⟨A2, c2, rfl⟩ := po_form O.out
          simp only [List.length_nil] at O2 ⊢
          go_wp2
          go_quiet (fail)
          generalize hW : World.drewN _ _ = w3
          have b3 : Below (w2.alloc (.cells #[.int .i64 x, .int .i64 y, .int .i64 z] 52)).heap.size (w2.alloc (.cells #[.int .i64 x, .int .i64 y, .int .i64 z] 52)) w3 := by rw [← hW]; exact below_draw _ _
          clear hW
          have O3 := Lib.hid (own_on O2.out b3)
          have B3 := Lib.hid (below_step B2.out b3)
          have P3 := P2.on b3
          clear b3 O2 B2 P2 O B g1 g2 g3 hab
          have d0 := P3.c0; have d1 := P3.c1; have d2 := P3.c2
          go_wp2_with (at_builtin; refine wpList_append_own _ rfl _ _ 39 rfl w.heap.size 52 i0 (.agg #[.int .i64 0, .int .i64 0, .int .i64 0]) 3 24 Try.underlying39 hi hz0 hz1 hz2 rfl (by decide) _ _ _ rfl (O3.out.alloc _) ⟨w3.heap.size, 0, none⟩ 1 1 [.int .i64 x, .int .i64 y, .int .i64 z] rfl rfl (three_cells (by simp [go_sem]) (by simp [go_sem]) (by simp [go_sem])) (by intro u hu; simp at hu; rcases hu with rfl | rfl | rfl <;> rfl) (by unfold maxLen; omega) (by omega) (by have := B3.out.size; simp; omega) ?_)
          intro v4 w4 own4 grow4 _
          have B4 := Lib.hid (show Below w.heap.size w w4 from ((B3.out.alloc B3.out.size _).trans (below_grown grow4 (by have := B3.out.size; simp; omega) (own_row O3.out))))
          have O4 := Lib.hid own4
          clear own4 grow4 O3 B3 P3
          go_wp2
          go_roundw
          case rel => exact ⟨k + 1, by omega, by go_num, Lib.hid (by rw [MT.out, Mn.mg_nil]; exact O4.out), B4⟩
          case measure => simp [intOf]; omega
        · obtain ⟨N, hN⟩ : ∃ N, N = (o' ++ [q]).length := ⟨_, rfl⟩
          have HNN := Lib.hid hN
          have hNj : N = o'.length + 1 := by rw [hN, List.length_append, List.length_singleton]
          have hNk := hml.out
          rw [← hN] at O O2 hNk
          obtain ⟨ao, co, rfl, hba, -, -⟩ := po_last hNj O.out
          have ek : (N : Int) - 1 = (o'.length : Int) := by omega
          have gk : decide (0 ≤ o'.length) = true := decide_eq_true (by omega)
          have gk2 : decide (0 < N) = true := decide_eq_true (by omega)
          have hjN : (o'.length : Int) < N := by omega
          have hjb : (o'.length : Int) ≤ 1000000 := by omega
          have L2 := Lib.hid (po_last hNj O2.out)
          have PL := Lib.hid (fun (W : World) (hO : W.ownsRow w.heap.size 52 3 (.slice (some ao) N co) N (Mn.ptc (o' ++ [q]))) => po_last hNj hO)
          generalize o'.length = j at *
          obtain ⟨a2, c2, e2, -, -, k0, k1, k2, kf, kst⟩ := L2.out
          cases e2
          obtain ⟨q0, q1, q2⟩ := q
          simp only at k0 k1 k2 kst
          clear L2 kst kf hNj hN
          by_cases hq : q2 = z
          · by_cases hx : q1 = x
            · have HQ := Lib.hid (show q2 = z ∧ q1 = x from ⟨hq, hx⟩)
              have t0 : (q2 == z) = true := by rw [hq]; simp
              have t1 : (q1 == x) = true := by rw [hx]; simp
              clear hq hx
              go_wp2
              go_quiet (fail)
              generalize hW : World.drewN _ _ = w3
              have b3 : Below (w2.alloc (.cells #[.int .i64 x, .int .i64 y, .int .i64 z] 52)).heap.size (w2.alloc (.cells #[.int .i64 x, .int .i64 y, .int .i64 z] 52)) w3 := by rw [← hW]; exact below_draw _ _
              clear hW
              have O3 := Lib.hid (own_on O2.out b3)
              have B3 := Lib.hid (below_step B2.out b3)
              have P3 := P2.on b3
              clear b3 O2 B2 P2 O B g1 g2 g3 hab
              have d0 := P3.c0; have d1 := P3.c1; have d2 := P3.c2
              obtain ⟨a3, c3, e3, -, -, m0, m1, m2, mf, mst⟩ := PL.out w3 O3.out
              cases e3
              have MST := Lib.hid (mst y)
              clear mst PL
              go_wp2
              go_roundw
              case rel =>
                refine ⟨k + 1, by omega, by go_num, Lib.hid ?_, Lib.hid (B3.out.setCell (p := ⟨(ao.add (j * 3)).block, (ao.add (j * 3)).off + 1, none⟩) (by rw [blk_add]; exact hba) _)⟩
                rw [MT.out, Mn.mg_yes _ _ _ HQ.out.1 HQ.out.2]
                have e := HNN.out
                rw [List.length_append, List.length_singleton] at e ⊢
                rw [← e]
                exact MST.out
              case measure => simp [intOf]; omega
            · have HNQ := Lib.hid (show ¬ (q2 = z ∧ q1 = x) from fun h => hx h.2)
              have t0 : (q2 == z) = true := by rw [hq]; simp
              clear hq
              have t1 : (q1 == x) = false := by rw [beq_eq_false_iff_ne]; exact hx
              clear hx
              clear PL
              go_wp2
              go_quiet (fail)
              generalize hW : World.drewN _ _ = w3
              have b3 : Below (w2.alloc (.cells #[.int .i64 x, .int .i64 y, .int .i64 z] 52)).heap.size (w2.alloc (.cells #[.int .i64 x, .int .i64 y, .int .i64 z] 52)) w3 := by rw [← hW]; exact below_draw _ _
              clear hW
              have O3 := Lib.hid (own_on O2.out b3)
              have B3 := Lib.hid (below_step B2.out b3)
              have P3 := P2.on b3
              clear b3 O2 B2 P2 O B g1 g2 g3 hab
              have d0 := P3.c0; have d1 := P3.c1; have d2 := P3.c2
              go_wp2_with (at_builtin; refine wpList_append_own _ rfl _ _ 39 rfl w.heap.size 52 i0 (.agg #[.int .i64 0, .int .i64 0, .int .i64 0]) 3 24 Try.underlying39 hi hz0 hz1 hz2 rfl (by decide) _ _ _ rfl (O3.out.alloc _) ⟨w3.heap.size, 0, none⟩ 1 1 [.int .i64 x, .int .i64 y, .int .i64 z] rfl rfl (three_cells (by simp [go_sem]) (by simp [go_sem]) (by simp [go_sem])) (by intro u hu; simp at hu; rcases hu with rfl | rfl | rfl <;> rfl) (by unfold maxLen; omega) (by omega) (by have := B3.out.size; simp; omega) ?_)
              intro v4 w4 own4 grow4 _
              have B4 := Lib.hid (show Below w.heap.size w w4 from ((B3.out.alloc B3.out.size _).trans (below_grown grow4 (by have := B3.out.size; simp; omega) (own_row O3.out))))
              have O4 := Lib.hid own4
              clear own4 grow4 O3 B3 P3
              go_wp2
              go_roundw
              case rel =>
                refine ⟨k + 1, by omega, by go_num, Lib.hid ?_, B4⟩
                rw [MT.out, Mn.mg_no _ _ _ HNQ.out, Mn.ptc_app, List.length_append, ← HNN.out]
                exact O4.out
              case measure => simp [intOf]; omega
          · have HNQ := Lib.hid (show ¬ (q2 = z ∧ q1 = x) from fun h => hq h.1)
            have t1 : (q2 == z) = false := by rw [beq_eq_false_iff_ne]; exact hq
            clear hq
            clear PL
            go_wp2
            go_quiet (fail)
            generalize hW : World.drewN _ _ = w3
            have b3 : Below (w2.alloc (.cells #[.int .i64 x, .int .i64 y, .int .i64 z] 52)).heap.size (w2.alloc (.cells #[.int .i64 x, .int .i64 y, .int .i64 z] 52)) w3 := by rw [← hW]; exact below_draw _ _
            clear hW
            have O3 := Lib.hid (own_on O2.out b3)
            have B3 := Lib.hid (below_step B2.out b3)
            have P3 := P2.on b3
            clear b3 O2 B2 P2 O B g1 g2 g3 hab
            have d0 := P3.c0; have d1 := P3.c1; have d2 := P3.c2
            go_wp2_with (at_builtin; refine wpList_append_own _ rfl _ _ 39 rfl w.heap.size 52 i0 (.agg #[.int .i64 0, .int .i64 0, .int .i64 0]) 3 24 Try.underlying39 hi hz0 hz1 hz2 rfl (by decide) _ _ _ rfl (O3.out.alloc _) ⟨w3.heap.size, 0, none⟩ 1 1 [.int .i64 x, .int .i64 y, .int .i64 z] rfl rfl (three_cells (by simp [go_sem]) (by simp [go_sem]) (by simp [go_sem])) (by intro u hu; simp at hu; rcases hu with rfl | rfl | rfl <;> rfl) (by unfold maxLen; omega) (by omega) (by have := B3.out.size; simp; omega) ?_)
            intro v4 w4 own4 grow4 _
            have B4 := Lib.hid (show Below w.heap.size w w4 from ((B3.out.alloc B3.out.size _).trans (below_grown grow4 (by have := B3.out.size; simp; omega) (own_row O3.out))))
            have O4 := Lib.hid own4
            clear own4 grow4 O3 B3 P3
            go_wp2
            go_roundw
            case rel =>
              refine ⟨k + 1, by omega, by go_num, Lib.hid ?_, B4⟩
              rw [MT.out, Mn.mg_no _ _ _ HNQ.out, Mn.ptc_app, List.length_append, ← HNN.out]
              exact O4.out
            case measure => simp [intOf]; omega
      · have E := Lib.hid (show l.take k = l from List.take_of_length_le (by rw [HN.out]; omega))
        rw [E.out] at O
        go_wp2
        go_ret
        exact ⟨_, PtV.own O.out, rfl, B.out⟩
end Go.Proofs.Ytckcmhnhmobadaa

