/- Sets of spans: the contract of the program's edges. -/
import Derived.Test.YtmnmmbeageddkaaSsA
import Derived.Test.YtmnmmbeageddkaaMnG0
set_option linter.unusedVariables false
set_option linter.unusedSimpArgs false
namespace Go.Proofs.Ytmnmmbeageddkaa
open Go.RowKit Go.Sort Go.Shelf

theorem info_edge : (Try.prog.info? 128).map (fun i => (i.zero, i.size, i.bytes)) = some (some (.agg #[.int .i64 0, .int .i64 0, .int .i64 0]), 3, 24) := by kernel_rfl
namespace Ss
/-- The edges of the lists so far. -/
def pre (a b : List S) : Nat → List E
  | 0 => []
  | 1 => egs 0 a
  | _ => all a b
theorem egs_take (i : Int) (l : List S) (k : Nat) (h : k < l.length) : egs i (l.take (k + 1)) = egs i (l.take k) ++ (if Sp.rb l[k].1 l[k].2 then [(l[k].1, i, 1), (l[k].2, i, -1)] else []) := by
  unfold egs
  rw [List.take_succ_eq_append_getElem h, List.flatMap_append]
  simp
theorem egs_len (i : Int) (l : List S) : (egs i l).length ≤ 2 * l.length := by
  induction l with
  | nil => exact Nat.le_refl _
  | cons s l ih => rw [egs_cons, List.length_append, List.length_cons]; split <;> simp <;> omega
end Ss
theorem arr2_0 (x y : Value) (w : World) : (Instr.index 126 (.agg #[x, y]) (.int .i64 0)).run Try.prog w = .ok x w := by kernel_rfl
theorem arr2_1 (x y : Value) (w : World) : (Instr.index 126 (.agg #[x, y]) (.int .i64 1)).run Try.prog w = .ok y w := by kernel_rfl
/-- A row of edges that are sorted. -/
def AnsE (a b : List Ss.S) (w : World) (e : Ending) (w' : World) : Prop := ∃ (ad : Addr) (c : Nat) (d : List Ss.E), e = .returned (.slice (some ad) d.length c) ∧ w.heap.size ≤ ad.block ∧ Lst w' w'.heap.size (.slice (some ad) d.length c) d.length (Ss.ec d) ∧ d.Perm (Ss.all a b) ∧ (d.Pairwise fun x y => x.1 ≤ y.1) ∧ Below w.heap.size w w'
theorem six_cells {w : World} {b : Nat} {x0 x1 x2 x3 x4 x5 : Value} (h0 : w.cell? ⟨b, 0, none⟩ = some x0) (h1 : w.cell? ⟨b, 1, none⟩ = some x1) (h2 : w.cell? ⟨b, 2, none⟩ = some x2) (h3 : w.cell? ⟨b, 3, none⟩ = some x3) (h4 : w.cell? ⟨b, 4, none⟩ = some x4) (h5 : w.cell? ⟨b, 5, none⟩ = some x5) : ∀ (j : Nat) (u : Value), [x0, x1, x2, x3, x4, x5][j]? = some u → w.cell? ((⟨b, 0, none⟩ : Addr).add j) = some u := by
  intro j u hu
  match j, hu with
  | 0, hu => cases hu; exact h0
  | 1, hu => cases hu; exact h1
  | 2, hu => cases hu; exact h2
  | 3, hu => cases hu; exact h3
  | 4, hu => cases hu; exact h4
  | 5, hu => cases hu; exact h5
set_option maxHeartbeats 4000000 in
set_option maxRecDepth 100000 in
theorem edges_any (va vb : Value) (a b : List Ss.S) (w : World) (h : SpV w va a) (k : SpV w vb b) (ha : a.length ≤ 1000) (hb : b.length ≤ 1000) :
    Calls Try.prog 95 #[.agg #[va, vb]] w (AnsE a b w) := by
  have H := Lib.hid h
  have K := Lib.hid k
  obtain ⟨A, c, rfl, -⟩ := h
  obtain ⟨B, c', rfl, -⟩ := k
  obtain ⟨n, hn⟩ : ∃ n, a.length = n := ⟨_, rfl⟩
  obtain ⟨m, hm⟩ : ∃ m, b.length = m := ⟨_, rfl⟩
  rw [hn] at H ha ⊢
  rw [hm] at K hb ⊢
  have HN := Lib.hid hn
  have HM := Lib.hid hm
  clear hn hm
  have b0 : Below w.heap.size w (w.alloc (.cells #[.slice A n c, .slice B m c'] 126)) := (Below.refl _ _).alloc (Nat.le_refl _) _
  have K0 := Lib.hid (Blk.new w 126 #[.slice A n c, .slice B m c'])
  obtain ⟨i0, hi, hz0, hz1, hz2⟩ := info_parts info_edge
  obtain ⟨w1, hmk, O1, G1⟩ := run_makeSlice_owned (P := Try.prog) (w := w.alloc (.cells #[.slice A n c, .slice B m c'] 126)) w.heap.size 124 128 i0 (.agg #[.int .i64 0, .int .i64 0, .int .i64 0]) 3 Try.underlying124 hi hz0 hz1 .i64 .i64 (2 * (n + m)) (by omega) (by rw [hz2]; omega) (by unfold maxLen; omega) (by simp)
  have hcast : ((2 * (n + m) : Nat) : Int) = 2 * ((n : Int) + (m : Int)) := by push_cast; rfl
  rw [hcast] at hmk
  have B1 := Lib.hid (b0.trans (below_grown G1 (by simp) (fun g hg => by cases hg)))
  have O1' := Lib.hid (show w1.ownsRow w.heap.size 128 3 (.slice (some ⟨w.heap.size + 1, 0, none⟩) 0 (2 * (n + m))) 0 [] by simpa using O1)
  have K1 := Lib.hid (K0.out.kept G1 (by simp))
  generalize hcp : 2 * (n + m) = cp at *
  clear O1 G1 K0 b0
  have a0 : (0 : Int) ≤ n := by omega
  have a1 : (0 : Int) ≤ m := by omega
  have q0 := K1.out.c0; have q1 := K1.out.c1
  go_enter Try.func95, Try.ntmps95
  --BEGIN
  go_wp2_with fail
  go_loopw [3, 18] (fun u i wr => ∃ j : Nat, j ≤ 2 ∧ i = .int .i64 j ∧ Hid (wr.ownsRow w.heap.size 128 3 u (Ss.pre a b j).length (Ss.ec (Ss.pre a b j)) ∧ u ≠ .slice none 0 0) ∧ Hid (Below w.heap.size w wr)) (fun _ i _ => 2 - (intOf i).toNat)
  case atStart => exact ⟨0, by omega, rfl, Lib.hid ⟨O1'.out, by simp⟩, B1⟩
  case round =>
    rename World => w2
    obtain ⟨j, hj, rfl, O, B⟩ := hrel
    clear K1 q0 q1 O1' B1 hmk
    rcases (show j = 0 ∨ j = 1 ∨ j = 2 by omega) with rfl | rfl | rfl
    · -- the list of number 0
      have P0 := Lib.hid (show (Ss.pre a b 0).length ≤ 2 * 0 by simp [Ss.pre])
      obtain ⟨pre, hpre⟩ : ∃ pre, Ss.pre a b 0 = pre := ⟨_, rfl⟩
      rw [hpre] at O P0
      have HP := Lib.hid hpre
      clear hpre
      have O2 := Lib.hid O.out.1
      have N2 := Lib.hid O.out.2
      have B2 := Lib.hid B.out
      clear O B
      have hix := arr2_0 (.slice A n c) (.slice B m c') w2
      go_wp2_with fail
      go_loopw [3, 24] (fun u i wr => ∃ k : Nat, k ≤ n ∧ i = .int .i64 k ∧ Hid (wr.ownsRow w.heap.size 128 3 u (pre ++ Ss.egs 0 (a.take k)).length (Ss.ec (pre ++ Ss.egs 0 (a.take k))) ∧ u ≠ .slice none 0 0) ∧ Hid (Below w.heap.size w wr)) (fun _ i _ => n - (intOf i).toNat)
      case atStart => exact ⟨0, Nat.zero_le _, rfl, Lib.hid ⟨by simpa [Ss.egs] using O2.out, N2.out⟩, B2⟩
      case round =>
        rename World => w4
        obtain ⟨k, hk, rfl, O3, B3⟩ := hrel
        by_cases hlt : k < n
        · have hkl : k < a.length := by rw [HN.out]; exact hlt
          obtain ⟨ad, rfl, hab, g1, g2⟩ := (H.out.on B3.out).get k hkl
          have MT := Lib.hid (Ss.egs_take 0 a k hkl)
          have ML := Lib.hid (show (pre ++ Ss.egs 0 (a.take k)).length ≤ 4000 by have := P0.out; have := Ss.egs_len 0 (a.take k); rw [List.length_append]; rw [List.length_take] at this; omega)
          generalize hp : a[k] = p at *
          obtain ⟨x, y⟩ := p
          simp only at g1 g2
          clear hp
          have i1 : (k : Int) < n := by omega
          generalize hq : pre ++ Ss.egs 0 (a.take k) = q at *
          have HQ := Lib.hid hq
          clear hq
          have P4 := Lib.hid (Blk.new w4 32 #[.int .i64 x, .int .i64 y])
          have O4 := Lib.hid (O3.out.1.alloc (.cells #[.int .i64 x, .int .i64 y] 32))
          have B4 := Lib.hid (B3.out.alloc B3.out.size (.cells #[.int .i64 x, .int .i64 y] 32))
          go_wp2_with fail
          refine (span_right x y _).mono ?_
          rintro e w5 ⟨rfl, b5⟩
          have P5 := Lib.hid (P4.out.on b5); have O5 := Lib.hid (own_on O4.out b5); have B5 := Lib.hid (below_step B4.out b5)
          have N5 := Lib.hid O3.out.2
          clear P4 O4 B4 O3 B3 b5 g1 g2 hab
          cases hr : Sp.rb x y
          · have HR := Lib.hid hr
            clear hr
            go_wp2
            go_roundw
            refine ⟨_, _, _, _, _, _, _, _, _, _, _, _, _, _, _, _, _, _, _, _, ?_, rfl⟩
            exact ⟨k + 1, by omega, by go_num, Lib.hid ⟨by rw [MT.out]; simp only [HR.out, Bool.false_eq_true, if_false, List.append_nil]; rw [HQ.out]; exact O5.out, N5.out⟩, B5⟩
            case measure => simp [intOf]; omega
          · have HR := Lib.hid hr
            clear hr
            have d0 := P5.out.c0; have d1 := P5.out.c1
            have hml := ML.out
            go_wp2_with (at_builtin; refine wpList_append_own _ rfl _ _ 124 rfl w.heap.size 128 i0 (.agg #[.int .i64 0, .int .i64 0, .int .i64 0]) 3 24 Try.underlying124 hi hz0 hz1 hz2 rfl (by decide) _ _ _ rfl (O5.out.alloc _) ⟨w5.heap.size, 0, none⟩ 2 2 [.int .i64 x, .int .i64 0, .int .i64 1, .int .i64 y, .int .i64 0, .int .i64 (-1)] rfl rfl (six_cells (by simp [go_sem]) (by simp [go_sem]) (by simp [go_sem]) (by simp [go_sem]) (by simp [go_sem]) (by simp [go_sem])) (by intro u hu; simp at hu; rcases hu with rfl | rfl | rfl | rfl | rfl | rfl <;> rfl) (by unfold maxLen; omega) (by omega) (by have := B5.out.size; simp; omega) ?_)
            intro v6 w6 own6 grow6 nil6
            have N6 := Lib.hid (show v6 ≠ .slice none 0 0 from nil6)
            clear nil6
            have B6 := Lib.hid (show Below w.heap.size w w6 from ((B5.out.alloc B5.out.size _).trans (below_grown grow6 (by have := B5.out.size; simp; omega) (own_row O5.out))))
            have O6 := Lib.hid own6
            clear own6 grow6 O5 B5 P5 d0 d1
            go_wp2
            go_roundw
            case rel =>
              refine ⟨_, _, _, _, _, _, _, _, _, _, _, _, _, _, _, _, _, _, _, _, ?_, rfl⟩
              refine ⟨k + 1, by omega, by go_num, Lib.hid ⟨?_, N6.out⟩, B6⟩
              rw [MT.out]
              simp only [HR.out, if_true]
              rw [← List.append_assoc, HQ.out, Ss.ec_app, List.length_append]
              exact O6.out
            case measure => simp [intOf]; omega
        · have E := Lib.hid (show a.take k = a from List.take_of_length_le (by rw [HN.out]; omega))
          rw [E.out] at O3
          go_wp2
          refine ⟨⟨0 + 1, by omega, by go_num, Lib.hid ⟨?_, O3.out.2⟩, B3⟩, by simp [intOf]⟩
          have e : Ss.pre a b (0 + 1) = pre ++ Ss.egs 0 a := by rw [← HP.out]; rfl
          rw [e]
          exact O3.out.1
    · -- the list of number 1
      have P0 := Lib.hid (show (Ss.pre a b 1).length ≤ 2 * 1000 by have := Ss.egs_len 0 a; have := HN.out; simp [Ss.pre]; omega)
      obtain ⟨pre, hpre⟩ : ∃ pre, Ss.pre a b 1 = pre := ⟨_, rfl⟩
      rw [hpre] at O P0
      have HP := Lib.hid hpre
      clear hpre
      have O2 := Lib.hid O.out.1
      have N2 := Lib.hid O.out.2
      have B2 := Lib.hid B.out
      clear O B
      have hix := arr2_1 (.slice A n c) (.slice B m c') w2
      go_wp2_with fail
      go_loopw [3, 24] (fun u i wr => ∃ k : Nat, k ≤ m ∧ i = .int .i64 k ∧ Hid (wr.ownsRow w.heap.size 128 3 u (pre ++ Ss.egs 1 (b.take k)).length (Ss.ec (pre ++ Ss.egs 1 (b.take k))) ∧ u ≠ .slice none 0 0) ∧ Hid (Below w.heap.size w wr)) (fun _ i _ => m - (intOf i).toNat)
      case atStart => exact ⟨0, Nat.zero_le _, rfl, Lib.hid ⟨by simpa [Ss.egs] using O2.out, N2.out⟩, B2⟩
      case round =>
        rename World => w4
        obtain ⟨k, hk, rfl, O3, B3⟩ := hrel
        by_cases hlt : k < m
        · have hkl : k < b.length := by rw [HM.out]; exact hlt
          obtain ⟨ad, rfl, hab, g1, g2⟩ := (K.out.on B3.out).get k hkl
          have MT := Lib.hid (Ss.egs_take 1 b k hkl)
          have ML := Lib.hid (show (pre ++ Ss.egs 1 (b.take k)).length ≤ 4000 by have := P0.out; have := Ss.egs_len 1 (b.take k); rw [List.length_append]; rw [List.length_take] at this; omega)
          generalize hp : b[k] = p at *
          obtain ⟨x, y⟩ := p
          simp only at g1 g2
          clear hp
          have i1 : (k : Int) < m := by omega
          generalize hq : pre ++ Ss.egs 1 (b.take k) = q at *
          have HQ := Lib.hid hq
          clear hq
          have P4 := Lib.hid (Blk.new w4 32 #[.int .i64 x, .int .i64 y])
          have O4 := Lib.hid (O3.out.1.alloc (.cells #[.int .i64 x, .int .i64 y] 32))
          have B4 := Lib.hid (B3.out.alloc B3.out.size (.cells #[.int .i64 x, .int .i64 y] 32))
          go_wp2_with fail
          refine (span_right x y _).mono ?_
          rintro e w5 ⟨rfl, b5⟩
          have P5 := Lib.hid (P4.out.on b5); have O5 := Lib.hid (own_on O4.out b5); have B5 := Lib.hid (below_step B4.out b5)
          have N5 := Lib.hid O3.out.2
          clear P4 O4 B4 O3 B3 b5 g1 g2 hab
          cases hr : Sp.rb x y
          · have HR := Lib.hid hr
            clear hr
            go_wp2
            go_roundw
            refine ⟨_, _, _, _, _, _, _, _, _, _, _, _, _, _, _, _, _, _, _, _, ?_, rfl⟩
            exact ⟨k + 1, by omega, by go_num, Lib.hid ⟨by rw [MT.out]; simp only [HR.out, Bool.false_eq_true, if_false, List.append_nil]; rw [HQ.out]; exact O5.out, N5.out⟩, B5⟩
            case measure => simp [intOf]; omega
          · have HR := Lib.hid hr
            clear hr
            have d0 := P5.out.c0; have d1 := P5.out.c1
            have hml := ML.out
            go_wp2_with (at_builtin; refine wpList_append_own _ rfl _ _ 124 rfl w.heap.size 128 i0 (.agg #[.int .i64 0, .int .i64 0, .int .i64 0]) 3 24 Try.underlying124 hi hz0 hz1 hz2 rfl (by decide) _ _ _ rfl (O5.out.alloc _) ⟨w5.heap.size, 0, none⟩ 2 2 [.int .i64 x, .int .i64 1, .int .i64 1, .int .i64 y, .int .i64 1, .int .i64 (-1)] rfl rfl (six_cells (by simp [go_sem]) (by simp [go_sem]) (by simp [go_sem]) (by simp [go_sem]) (by simp [go_sem]) (by simp [go_sem])) (by intro u hu; simp at hu; rcases hu with rfl | rfl | rfl | rfl | rfl | rfl <;> rfl) (by unfold maxLen; omega) (by omega) (by have := B5.out.size; simp; omega) ?_)
            intro v6 w6 own6 grow6 nil6
            have N6 := Lib.hid (show v6 ≠ .slice none 0 0 from nil6)
            clear nil6
            have B6 := Lib.hid (show Below w.heap.size w w6 from ((B5.out.alloc B5.out.size _).trans (below_grown grow6 (by have := B5.out.size; simp; omega) (own_row O5.out))))
            have O6 := Lib.hid own6
            clear own6 grow6 O5 B5 P5 d0 d1
            go_wp2
            go_roundw
            case rel =>
              refine ⟨_, _, _, _, _, _, _, _, _, _, _, _, _, _, _, _, _, _, _, _, ?_, rfl⟩
              refine ⟨k + 1, by omega, by go_num, Lib.hid ⟨?_, N6.out⟩, B6⟩
              rw [MT.out]
              simp only [HR.out, if_true]
              rw [← List.append_assoc, HQ.out, Ss.ec_app, List.length_append]
              exact O6.out
            case measure => simp [intOf]; omega
        · have E := Lib.hid (show b.take k = b from List.take_of_length_le (by rw [HM.out]; omega))
          rw [E.out] at O3
          go_wp2
          refine ⟨⟨1 + 1, by omega, by go_num, Lib.hid ⟨?_, O3.out.2⟩, B3⟩, by simp [intOf]⟩
          have e : Ss.pre a b (1 + 1) = pre ++ Ss.egs 1 b := by rw [← HP.out]; rfl
          rw [e]
          exact O3.out.1
    · obtain ⟨A2, c2, rfl⟩ := po_form O.out.1
      have O2 := Lib.hid O.out.1
      have hnn := O.out.2
      have B2 := Lib.hid B.out
      clear O B
      have hpre : Ss.pre a b 2 = Ss.all a b := rfl
      obtain ⟨g, rfl⟩ : ∃ g, A2 = some ⟨g, 0, none⟩ := by
        rcases O2.out.2 with ⟨e, h0⟩ | ⟨g, cap', cur, e, _⟩
        · exact absurd (by rw [e]) hnn
        · cases e; exact ⟨g, rfl⟩
      clear hnn
      rw [hpre] at O2 ⊢
      obtain ⟨hH, hgs, hbg⟩ := own_holds rfl O2.out
      have hz : (Ss.all a b).length ≤ 4000 := by unfold Ss.all; rw [List.length_append]; have := Ss.egs_len 0 a; have := Ss.egs_len 1 b; have := HN.out; have := HM.out; omega
      have hcon := edge_sort g 0 c2 (Ss.all a b).toArray w2 hH hgs (by simp; omega)
      rw [List.size_toArray] at hcon
      have Z := Lib.hid hz
      have G := Lib.hid (And.intro hH (And.intro hgs hbg))
      clear hz hH hgs hbg hpre
      have C := Lib.hid hcon
      clear hcon
      go_wp2_with fail
      refine C.out.mono ?_
      rintro e w' ⟨rfl, d', n', os, hp, hs, rfl⟩
      have R := Lib.hid (And.intro hp hs)
      clear hp hs
      go_wp2
      go_ret
      obtain ⟨hp, hs⟩ := R.out
      obtain ⟨hH, hgs, hbg⟩ := G.out
      have hsz : d'.size = (Ss.all a b).length := by have := hp.1; simpa using this
      refine ⟨⟨g, 0, none⟩, c2, d'.toList, by have e : d'.toList.length = (Ss.all a b).length := (Array.length_toList (xs := d')).trans hsz; rw [e]; rfl, hbg, ?_, ?_, ?_, B2.out.trans (sort_below hbg hgs)⟩
      · have h1 := holdsK_sortWorldK_c (enc := Ss.enc) (k := 3) (w := w2) (blk := g) (off := 0) (Ss.all a b).toArray d' n' os hH hgs (by simpa using hsz)
        refine holds_lst rfl (Nat.lt_of_lt_of_le hgs (size_sortWorldK_c (enc := Ss.enc) (k := 3) (w := w2) (blk := g) (off := 0) n' d' os)) ?_
        simpa using h1
      · have := hp.2.2
        have e1 : d'.extract 0 (Ss.all a b).length = d' := by rw [← hsz]; exact Array.extract_size
        have e2 : (Ss.all a b).toArray.extract 0 (Ss.all a b).length = (Ss.all a b).toArray := by
          have := Array.extract_size (xs := (Ss.all a b).toArray); rwa [List.size_toArray] at this
        rw [e1, e2] at this
        simpa using this
      · rw [List.pairwise_iff_getElem]
        intro i j hi hj hij
        have := hs i j (Nat.zero_le _) hij (by rw [← hsz]; simpa using hj)
        rw [Ss.ltE] at this
        rw [Array.length_toList] at hi hj
        simp [hi, hj] at this
        simpa using this
end Go.Proofs.Ytmnmmbeageddkaa
