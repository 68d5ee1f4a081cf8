/- The reference's sets: the contract of put. -/
import Derived.Test.YtmnmmbeageddkaaSrP
import Derived.Test.YtmnmmbeageddkaaSpM
import Derived.Test.YtmnmmbeageddkaaMnG0
set_option linter.unusedVariables false
set_option linter.unusedSimpArgs false
namespace Go.Proofs.Ytmnmmbeageddkaa
open Go.RowKit Go.Sort Go.Shelf

namespace Ss
theorem p1_drop (l : List S) (s : S) (out : List S) (k : Nat) (h : k < l.length) : p1 (l.drop k) s out = if jn l[k] s then p1 (l.drop (k + 1)) (min l[k].1 s.1, max l[k].2 s.2) out else if l[k].2 < s.1 then p1 (l.drop (k + 1)) s (out ++ [l[k]]) else p1 (l.drop (k + 1)) s out := by
  rw [List.drop_eq_getElem_cons h]; rfl
theorem p2_drop (m : Int) (l : List S) (out : List S) (k : Nat) (h : k < l.length) : p2 m (l.drop k) out = if m < l[k].1 then p2 m (l.drop (k + 1)) (out ++ [l[k]]) else p2 m (l.drop (k + 1)) out := by
  rw [List.drop_eq_getElem_cons h]; rfl
theorem p2_len (m : Int) (l : List S) : ∀ out, (p2 m l out).length ≤ out.length + l.length := by
  intro out; rw [p2_filter, List.length_append]; have := List.length_filter_le (fun x : S => decide (m < x.1)) l; omega
end Ss
theorem set_two {W : World} {B : Nat} {t : TypeId} {x y u v : Value} (h : Blk W B t #[x, y]) : Blk ((W.setCell ⟨B, 0, none⟩ u).setCell ⟨B, 1, none⟩ v) B t #[u, v] ∧ W.grownBy ((W.setCell ⟨B, 0, none⟩ u).setCell ⟨B, 1, none⟩ v) (some B) := by
  refine ⟨?_, ?_⟩
  · show ((W.setCell ⟨B, 0, none⟩ u).setCell ⟨B, 1, none⟩ v).heap[B]? = _
    unfold World.setCell
    simp [Array.getElem?_modify, show W.heap[B]? = _ from h]
  · exact ⟨rfl, rfl, rfl, by unfold World.setCell; simp, fun k hk hne => by
      show ((W.setCell ⟨B, 0, none⟩ u).setCell ⟨B, 1, none⟩ v).heap[k]? = _
      unfold World.setCell
      have : B ≠ k := fun e => hne (congrArg some e.symm)
      simp [Array.getElem?_modify, this]⟩
set_option maxRecDepth 100000 in
set_option maxHeartbeats 4000000 in
theorem put_any (va : Value) (l : List Ss.S) (s0 s1 : Int) (w : World) (h : SpV w va l) (hm : l.length ≤ 100000) :
    Calls Try.prog 70 #[va, .agg #[.int .i64 s0, .int .i64 s1]] w (AnsS (Ss.pt l (s0, s1)) w) := by
  have HV := Lib.hid h
  obtain ⟨A, c, rfl, -⟩ := id h
  obtain ⟨n, hn⟩ : ∃ n, l.length = n := ⟨_, rfl⟩
  rw [hn] at hm HV ⊢
  have HN := Lib.hid hn
  obtain ⟨P, hP⟩ : ∃ P, Ss.pt l (s0, s1) = P := ⟨_, rfl⟩
  rw [hP]
  have HP := Lib.hid hP
  clear hP
  obtain ⟨i0, hi, hz0, hz1, hz2⟩ := info_parts info_span
  have b0 : Below w.heap.size w (w.alloc (.cells #[.int .i64 s0, .int .i64 s1] 32)) := (Below.refl _ _).alloc (Nat.le_refl _) _
  have K0 := Lib.hid (Blk.new w 32 #[.int .i64 s0, .int .i64 s1])
  have B0 := Lib.hid b0
  clear h hn b0
  go_enter Try.func70, Try.ntmps70
  go_wp2_with fail
  refine (noontideref10_right s0 s1 _).mono ?_
  rintro e w1 ⟨rfl, b1⟩
  have K1 := Lib.hid (K0.out.on b1); have B1 := Lib.hid (below_step B0.out b1)
  clear K0 B0 b1
  cases hr : Sp.rb s0 s1
  · have EP := Lib.hid (show P = l by rw [← HP.out]; unfold Ss.pt; rw [hr]; rfl)
    clear hr HP
    go_wp2
    go_ret
    exact ⟨.slice A n c, EP.out ▸ HV.out.on B1.out, rfl, B1.out⟩
  · obtain ⟨g, hg⟩ : ∃ g, w.heap.size = g := ⟨_, rfl⟩
    rw [hg] at K1 ⊢
    have HG := Lib.hid hg
    obtain ⟨q, hq⟩ : ∃ q, Ss.p1 l (s0, s1) [] = q := ⟨_, rfl⟩
    have Q := Lib.hid hq
    have EP := Lib.hid (show P = Ss.p2 q.1.2 l (q.2 ++ [q.1]) by rw [← HP.out]; unfold Ss.pt; rw [hr, if_pos rfl, hq])
    have O1 := Lib.hid (World.ownsRow_nil w1 w1.heap.size 32 2)
    have D1 := Lib.hid (Below.refl w1.heap.size w1)
    have G1 := Lib.hid (show g < w1.heap.size from K1.out.lt)
    clear hr hq HP hg
    go_wp2_with fail
    go_loopw [5, 18] (fun u i wr => ∃ (k : Nat) (a b : Int) (out : List Ss.S), k ≤ n ∧ i = .int .i64 k ∧ out.length ≤ k ∧ Hid (Ss.p1 (l.drop k) (a, b) out = q) ∧ Hid (wr.ownsRow w1.heap.size 32 2 u out.length (spc out)) ∧ Hid (Blk wr g 32 #[.int .i64 a, .int .i64 b]) ∧ Hid (Below w.heap.size w wr) ∧ Hid (w1.heap.size ≤ wr.heap.size)) (fun _ i _ => n - (intOf i).toNat)
    case atStart => exact ⟨0, s0, s1, [], Nat.zero_le _, rfl, Nat.le_refl _, Q, O1, K1, B1, Lib.hid (Nat.le_refl _)⟩
    case round =>
      rename World => w2
      obtain ⟨k, a, b, out, hk, rfl, hlen, E, O, K, B, Z⟩ := hrel
      by_cases hlt : k < n
      · have hkl : k < l.length := by rw [HN.out]; exact hlt
        obtain ⟨ad, rfl, hab, g1, g2⟩ := (HV.out.on B.out).get k hkl
        have EQ := Lib.hid ((Ss.p1_drop l (a, b) out k hkl).symm.trans E.out)
        generalize hp : l[k] = p at *
        obtain ⟨x, y⟩ := p
        simp only at g1 g2
        clear hp E
        have i1 : (k : Int) < n := by omega
        have P2 := Lib.hid (Blk.new w2 32 #[.int .i64 x, .int .i64 y])
        have bb : Below w2.heap.size w2 (w2.alloc (.cells #[.int .i64 x, .int .i64 y] 32)) := (Below.refl _ _).alloc (Nat.le_refl _) _
        have O2 := Lib.hid (own_on O.out bb); have K2 := Lib.hid (K.out.on bb); have B2 := Lib.hid (below_step B.out bb)
        have Z2 := Lib.hid (Nat.le_trans Z.out bb.size)
        have c0 := K2.out.c0; have c1 := K2.out.c1
        clear O B Z bb
        go_wp2_with fail
        refine (noontideref10_join x y a b _).mono ?_
        rintro e w3 ⟨rfl, b3⟩
        have O3 := Lib.hid (own_on O2.out b3); have K3 := Lib.hid (K2.out.on b3); have B3 := Lib.hid (below_step B2.out b3); have P3 := Lib.hid (P2.out.on b3)
        have Z3 := Lib.hid (Nat.le_trans Z2.out b3.size)
        clear O2 K2 B2 P2 Z2 b3 c0 c1
        obtain ⟨j, hj⟩ : ∃ j, Sp.jn x y a b = j := ⟨_, rfl⟩
        have hj2 : Ss.jn (x, y) (a, b) = j := hj
        have EQ3 := EQ.out
        rw [hj2] at EQ3
        rw [hj]
        clear hj hj2 EQ
        cases j
        · simp only [Bool.false_eq_true, if_false] at EQ3
          simp only [Sp.bz, Bool.false_eq_true, if_false]
          have P4 := Lib.hid (P3.out.alloc (.cells #[.int .i64 0, .int .i64 0] 32))
          have K4 := Lib.hid (K3.out.alloc (.cells #[.int .i64 0, .int .i64 0] 32))
          have O4 := Lib.hid (O3.out.alloc (.cells #[.int .i64 0, .int .i64 0] 32))
          have B4 := Lib.hid (B3.out.alloc B3.out.size (.cells #[.int .i64 0, .int .i64 0] 32))
          have Z4 := Lib.hid (show w1.heap.size ≤ (w3.alloc (.cells #[.int .i64 0, .int .i64 0] 32)).heap.size by have := Z3.out; simp; omega)
          have d0 := P4.out.c0; have d1 := P4.out.c1; have c0 := K4.out.c0; have c1 := K4.out.c1
          clear P3 K3 O3 B3 Z3
          by_cases hy : y < a
          · have EQ4 := Lib.hid (show Ss.p1 (l.drop (k + 1)) (a, b) (out ++ [(x, y)]) = q by rw [if_pos (show (x, y).2 < (a, b).1 from hy)] at EQ3; exact EQ3)
            clear EQ3
            go_wp2_with (at_builtin; refine wpList_append_own _ rfl _ _ 57 rfl w1.heap.size 32 i0 (.agg #[.int .i64 0, .int .i64 0]) 2 16 Try.underlying57 hi hz0 hz1 hz2 rfl (by decide) _ _ _ rfl (O4.out.alloc _) ⟨w3.heap.size + 1, 0, none⟩ 1 1 [.int .i64 x, .int .i64 y] rfl rfl (two_cells (by simp [go_sem]) (by simp [go_sem])) (by intro u hu; simp at hu; rcases hu with rfl | rfl <;> rfl) (by unfold maxLen; omega) (by omega) (by have := Z4.out; simp at this; simp; omega) ?_)
            intro v6 w6 own6 grow6 _
            have B6 := Lib.hid (show Below w.heap.size w w6 from ((B4.out.alloc B4.out.size _).trans (below_grown grow6 (by have := B4.out.size; simp at this; simp; omega) (fun x hx => by have := (O4.out.lt _ hx).1; have := G1.out; have := HG.out; omega))))
            have K6 := Lib.hid ((K4.out.alloc _).kept grow6 (by intro e; have := (O4.out.lt _ e.symm).1; have := G1.out; omega))
            have Z6 := Lib.hid (show w1.heap.size ≤ w6.heap.size by have := Z4.out; have := grow6.size; simp at *; omega)
            have O6 := Lib.hid own6
            clear own6 grow6 O4 B4 P4 K4 Z4 c0 c1 d0 d1
            go_wp2
            go_roundw
            case rel => exact ⟨k + 1, a, b, out ++ [(x, y)], by omega, by go_num, by simp; omega, EQ4, Lib.hid (by rw [spc_app, List.length_append]; exact O6.out), K6, B6, Z6⟩
            case measure => simp [intOf]; omega
          · have EQ4 := Lib.hid (show Ss.p1 (l.drop (k + 1)) (a, b) out = q by rw [if_neg (show ¬ (x, y).2 < (a, b).1 from hy)] at EQ3; exact EQ3)
            clear EQ3
            go_wp2
            go_roundw
            case rel => exact ⟨k + 1, a, b, out, by omega, by go_num, by omega, EQ4, O4, K4, B4, Z4⟩
            case measure => simp [intOf]; omega
        · simp only [if_true] at EQ3
          simp only [Sp.bz, if_true]
          have EQ4 := Lib.hid EQ3
          clear EQ3
          have c0 := K3.out.c0; have c1 := K3.out.c1; have f0 := K3.out.frozen 0; have f1 := K3.out.frozen 1; have hb := K3.out.lt
          go_wp2
          go_roundw
          case rel =>
            obtain ⟨kb, gr⟩ := set_two (u := .int .i64 (min x a)) (v := .int .i64 (max y b)) K3.out
            have hgl := G1.out
            exact ⟨k + 1, min x a, max y b, out, by omega, by go_num, by omega, EQ4, Lib.hid ((O3.out.kept gr (by right; intro e; have := (O3.out.lt _ e).1; omega)).alloc _), Lib.hid (kb.alloc _), Lib.hid ((B3.out.trans (below_grown gr (Nat.le_of_lt (by have := K3.out.lt; have := HG.out; omega)) (fun x hx => by cases hx; have := HG.out; omega))).alloc (by have := B3.out.size; have := gr.size; omega) _), Lib.hid (by have := Z3.out; have := gr.size; simp; omega)⟩
          case measure => simp [intOf]; omega
      · have E2 := Lib.hid (show ((a, b), out) = q by have := E.out; rw [List.drop_of_length_le (by rw [HN.out]; omega)] at this; exact this)
        have EP2 := Lib.hid (show Ss.p2 b (l.drop 0) (out ++ [(a, b)]) = P by rw [EP.out, ← E2.out]; rfl)
        clear E E2 EP Q
        have hob : out.length ≤ 100000 := by omega
        have c0 := K.out.c0; have c1 := K.out.c1
        go_wp2_with (at_builtin; refine wpList_append_own _ rfl _ _ 57 rfl w1.heap.size 32 i0 (.agg #[.int .i64 0, .int .i64 0]) 2 16 Try.underlying57 hi hz0 hz1 hz2 rfl (by decide) _ _ _ rfl (O.out.alloc _) ⟨w2.heap.size, 0, none⟩ 1 1 [.int .i64 a, .int .i64 b] rfl rfl (two_cells (by simp [go_sem]) (by simp [go_sem])) (by intro u hu; simp at hu; rcases hu with rfl | rfl <;> rfl) (by unfold maxLen; omega) (by omega) (by have := Z.out; simp; omega) ?_)
        intro v6 w6 own6 grow6 _
        have B6 := Lib.hid (show Below w.heap.size w w6 from ((B.out.alloc B.out.size _).trans (below_grown grow6 (by have := B.out.size; simp; omega) (fun x hx => by have := (O.out.lt _ hx).1; have := G1.out; have := HG.out; omega))))
        have K6 := Lib.hid ((K.out.alloc _).kept grow6 (by intro e; have := (O.out.lt _ e.symm).1; have := G1.out; omega))
        have Z6 := Lib.hid (show w1.heap.size ≤ w6.heap.size by have := Z.out; have := grow6.size; simp at *; omega)
        have O6 := Lib.hid (show w6.ownsRow w1.heap.size 32 2 v6 (out ++ [(a, b)]).length (spc (out ++ [(a, b)])) by rw [spc_app, List.length_append]; exact own6)
        have hol : (out ++ [(a, b)]).length ≤ 100001 := by simp; omega
        clear own6 grow6 O B K Z c0 c1 hlen hob
        generalize out ++ [(a, b)] = o2 at *
        go_wp2
        go_loopw [5, 46] (fun u i wr => ∃ (k : Nat) (ou : List Ss.S), k ≤ n ∧ i = .int .i64 k ∧ ou.length ≤ 100001 + k ∧ Hid (Ss.p2 b (l.drop k) ou = P) ∧ Hid (wr.ownsRow w1.heap.size 32 2 u ou.length (spc ou)) ∧ Hid (Blk wr g 32 #[.int .i64 a, .int .i64 b]) ∧ Hid (Below w.heap.size w wr) ∧ Hid (w1.heap.size ≤ wr.heap.size)) (fun _ i _ => n - (intOf i).toNat)
        case atStart => exact ⟨0, o2, Nat.zero_le _, rfl, hol, EP2, O6, K6, B6, Z6⟩
        case round =>
          rename World => w7
          obtain ⟨k7, ou, hk7, rfl, hlen, E, O, K, B, Z⟩ := hrel
          by_cases hlt7 : k7 < n
          · have hkl : k7 < l.length := by rw [HN.out]; exact hlt7
            obtain ⟨ad, rfl, hab, g1, g2⟩ := (HV.out.on B.out).get k7 hkl
            have EQ := Lib.hid ((Ss.p2_drop b l ou k7 hkl).symm.trans E.out)
            generalize hp : l[k7] = p at *
            obtain ⟨x, y⟩ := p
            simp only at g1 g2
            clear hp E
            have i1 : (k7 : Int) < n := by omega
            have P2 := Lib.hid (Blk.new w7 32 #[.int .i64 x, .int .i64 y])
            have bb : Below w7.heap.size w7 (w7.alloc (.cells #[.int .i64 x, .int .i64 y] 32)) := (Below.refl _ _).alloc (Nat.le_refl _) _
            have O2 := Lib.hid (own_on O.out bb); have K2 := Lib.hid (K.out.on bb); have B2 := Lib.hid (below_step B.out bb)
            have Z2 := Lib.hid (Nat.le_trans Z.out bb.size)
            have c0 := K2.out.c0; have c1 := K2.out.c1; have d0 := P2.out.c0; have d1 := P2.out.c1
            clear O B Z bb
            by_cases hb : b < x
            · have EQ2 := Lib.hid (show Ss.p2 b (l.drop (k7 + 1)) (ou ++ [(x, y)]) = P by have := EQ.out; rw [if_pos (show b < (x, y).1 from hb)] at this; exact this)
              clear EQ
              go_wp2_with (at_builtin; refine wpList_append_own _ rfl _ _ 57 rfl w1.heap.size 32 i0 (.agg #[.int .i64 0, .int .i64 0]) 2 16 Try.underlying57 hi hz0 hz1 hz2 rfl (by decide) _ _ _ rfl (O2.out.alloc _) ⟨w7.heap.size + 1, 0, none⟩ 1 1 [.int .i64 x, .int .i64 y] rfl rfl (two_cells (by simp [go_sem]) (by simp [go_sem])) (by intro u hu; simp at hu; rcases hu with rfl | rfl <;> rfl) (by unfold maxLen; omega) (by omega) (by have := Z2.out; simp at this; simp; omega) ?_)
              intro v8 w8 own8 grow8 _
              have B8 := Lib.hid (show Below w.heap.size w w8 from ((B2.out.alloc B2.out.size _).trans (below_grown grow8 (by have := B2.out.size; simp at this; simp; omega) (fun x hx => by have := (O2.out.lt _ hx).1; have := G1.out; have := HG.out; omega))))
              have K8 := Lib.hid ((K2.out.alloc _).kept grow8 (by intro e; have := (O2.out.lt _ e.symm).1; have := G1.out; omega))
              have Z8 := Lib.hid (show w1.heap.size ≤ w8.heap.size by have := Z2.out; have := grow8.size; simp at *; omega)
              have O8 := Lib.hid own8
              clear own8 grow8 O2 B2 P2 K2 Z2 c0 c1 d0 d1
              go_wp2
              go_roundw
              case rel => exact ⟨k7 + 1, ou ++ [(x, y)], by omega, by go_num, by simp; omega, EQ2, Lib.hid (by rw [spc_app, List.length_append]; exact O8.out), K8, B8, Z8⟩
              case measure => simp [intOf]; omega
            · have EQ2 := Lib.hid (show Ss.p2 b (l.drop (k7 + 1)) ou = P by have := EQ.out; rw [if_neg (show ¬ b < (x, y).1 from hb)] at this; exact this)
              clear EQ
              go_wp2
              go_roundw
              case rel => exact ⟨k7 + 1, ou, by omega, by go_num, by omega, EQ2, O2, K2, B2, Z2⟩
              case measure => simp [intOf]; omega
          · have E2 := Lib.hid (show ou = P by have := E.out; rw [List.drop_of_length_le (by rw [HN.out]; omega)] at this; exact this)
            obtain ⟨A2, c2, rfl⟩ := po_form O.out
            go_wp2
            go_ret
            refine ⟨.slice A2 ou.length c2, ?_, rfl, B.out⟩
            rw [← E2.out]
            exact SpV.own O.out
end Go.Proofs.Ytmnmmbeageddkaa
