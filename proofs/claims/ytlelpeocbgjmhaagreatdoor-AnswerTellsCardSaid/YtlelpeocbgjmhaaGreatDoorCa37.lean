/- Joined: AnX. -/
import Derived.Test.YtlelpeocbgjmhaaGreatDoorCa18
import Derived.Test.YtlelpeocbgjmhaaGreatDoorCa36
import Derived.Test.YtlelpeocbgjmhaaGreatDoorCa17
/- Answers: an info of a text, by the reference. -/
set_option linter.unusedVariables false
set_option linter.unusedSimpArgs false
namespace Go.Proofs.YtlelpeocbgjmhaaGreatDoor
open Go.RowKit Go.Sort
/-- The first that is wrong. -/
def An.er : List ByteArray → Int
  | [] => 0
  | x :: r => if (Num.rd x.data.toList).2 ≠ 0 then (Num.rd x.data.toList).2 else An.er r
theorem An.er_w4 (a b c d : ByteArray) : An.er [a, b, c, d] = An.w4 a.data.toList b.data.toList c.data.toList d.data.toList := by
  unfold An.w4
  show (if _ then _ else if _ then _ else if _ then _ else if _ then _ else (0 : Int)) = _
  by_cases h : (Num.rd d.data.toList).2 = 0
  · rw [if_neg (c := (Num.rd d.data.toList).2 ≠ 0) (by simp [h]), h]
  · rw [if_pos (c := (Num.rd d.data.toList).2 ≠ 0) h]
theorem an_i64 : (Tryz.prog.info? 2).map (fun i => (i.zero, i.size, i.bytes)) = some (some (.int .i64 0), 1, 8) := by kernel_rfl
def An.vv (x : ByteArray) : Value := .int .i64 (Num.rd x.data.toList).1
/-- What is known of a row of four numbers. -/
theorem An.row4 {W : World} {base : Nat} {e : TypeId} {a b c d u : Value} (h : W.ownsRow base e 1 u 4 [a, b, c, d]) : ∃ g k, u = .slice (some ⟨g, 0, none⟩) 4 k ∧ base ≤ g ∧ W.cell? ⟨g, 0, none⟩ = some a ∧ W.cell? ⟨g, 1, none⟩ = some b ∧ W.cell? ⟨g, 2, none⟩ = some c ∧ W.cell? ⟨g, 3, none⟩ = some d := by
  have h2 := h
  obtain ⟨A, k, rfl, hc⟩ := Lst.own h2
  rcases h.2 with ⟨-, h0⟩ | ⟨g, cap, cur, hv, hb, -⟩
  · cases h0
  · cases hv
    obtain ⟨q, hq, hl, hx⟩ := hc (by omega)
    cases hq
    refine ⟨g, k, rfl, hb, ?_, ?_, ?_, ?_⟩
    · exact hx 0 _ rfl
    · have := hx 1 _ rfl; simpa [Addr.add] using this
    · have := hx 2 _ rfl; simpa [Addr.add] using this
    · have := hx 3 _ rfl; simpa [Addr.add] using this
set_option maxHeartbeats 8000000 in
set_option maxRecDepth 100000 in
theorem raread_any (s : ByteArray) (w : World) (hs : s.size ≤ 1000) :
    Calls Tryz.prog 11 #[.string s] w fun e w' => e = .returned (.tuple #[.agg #[.int .i64 (An.rdi s.data.toList).1.1, .int .i64 (An.rdi s.data.toList).1.2.1, .int .i64 (An.rdi s.data.toList).1.2.2.1, .int .i64 (An.rdi s.data.toList).1.2.2.2.1, .string (An.rdi s.data.toList).1.2.2.2.2], .int .i64 (An.rdi s.data.toList).2]) ∧ Below w.heap.size w w' := by
  obtain ⟨i0, hi, hz0, hz1, hz2⟩ := fd_parts an_i64
  have FO := Lib.hid (fun W => rfofr_any s W (by omega))
  have FL := Lib.hid (An.field_len s)
  have hr : An.rdi s.data.toList = if (Fd.of s.data.toList).2 ≠ 0 then (An.I0, (Fd.of s.data.toList).2) else An.rdL (Fd.of s.data.toList).1 := rfl
  rw [hr]
  generalize Fd.of s.data.toList = R at FO FL ⊢
  obtain ⟨P, y⟩ := R
  clear hr
  by_cases hy : y = 0
  case neg =>
    rw [if_pos hy]
    clear FL
    dsimp only [An.I0]
    have gy : (y == 0) = false := by rw [beq_eq_false_iff_ne]; exact hy
    go_enter Tryz.func11, Tryz.ntmps11
    go_wp2_with fail
    refine (FO.out _).mono ?_; rintro e w1 ⟨v, l, hst, hl, rfl, b1, -⟩
    have Z1 : Bk5 w1 w.heap.size (.int .i64 0) (.int .i64 0) (.int .i64 0) (.int .i64 0) (.string ⟨#[]⟩) := (Bk5.of b1 (by simp <;> omega) (by intro j; simp [go_sem]) (by simp [go_sem]) (by simp [go_sem]) (by simp [go_sem]) (by simp [go_sem]) (by simp [go_sem]))
    have B1 := Lib.hid (below_step ((Below.refl w.heap.size w).alloc (Nat.le_refl _) _) b1)
    clear b1 hst hl
    have Zh := Z1.hb; have Zf := Z1.fz; have Z10 := Z1.k0; have Z11 := Z1.k1; have Z12 := Z1.k2; have Z13 := Z1.k3; have Z14 := Z1.k4
    go_wp2_with fail
    refine bodyPost_ret (v := .tuple #[.agg #[.int .i64 0, .int .i64 0, .int .i64 0, .int .i64 0, .string ⟨#[]⟩], .int .i64 y]) (by simp [results, Tryz.results11, go_sem, Zh, Zf, Z10, Z11, Z12, Z13, Z14]) rfl ⟨rfl, ?_⟩
    iterate 5 (refine Below.setCell ?_ (by first | omega | (simp; done) | (simp; omega)) _)
    exact B1.out
  subst hy
  rw [if_neg (by simp)]
  obtain ⟨tot, htot⟩ : ∃ t, t = An.rdL P := ⟨_, rfl⟩
  rw [← htot]
  have HT := Lib.hid htot
  clear htot
  obtain ⟨ans, hans⟩ : ∃ ans : Value, ans = .tuple #[.agg #[.int .i64 tot.1.1, .int .i64 tot.1.2.1, .int .i64 tot.1.2.2.1, .int .i64 tot.1.2.2.2.1, .string tot.1.2.2.2.2], .int .i64 tot.2] := ⟨_, rfl⟩
  rw [← hans]
  have HA := Lib.hid hans
  clear hans
  go_enter Tryz.func11, Tryz.ntmps11
  go_wp2_with fail
  refine (FO.out _).mono ?_; rintro e w1 ⟨v, l, hst, hl, rfl, b1, A, c, hv, hcap⟩
  have B1 := Lib.hid (below_step ((Below.refl w.heap.size w).alloc (Nat.le_refl _) _) b1)
  have Z1 : Hid (Bk5 w1 w.heap.size (.int .i64 0) (.int .i64 0) (.int .i64 0) (.int .i64 0) (.string ⟨#[]⟩)) := Lib.hid (Bk5.of b1 (by simp <;> omega) (by intro j; simp [go_sem]) (by simp [go_sem]) (by simp [go_sem]) (by simp [go_sem]) (by simp [go_sem]) (by simp [go_sem]))
  have hl : l.map (·.data.toList) = P := hl
  subst hl
  have hz := FL.out l rfl
  clear FL
  obtain ⟨N, hN⟩ : ∃ N, N = l.length := ⟨_, rfl⟩
  rw [← hN] at hv hcap
  subst hv
  have S1 := Lib.hid hst
  clear hst b1
  have HN := Lib.hid hN
  clear hN
  by_cases h5 : N < 5
  case pos =>
    have er : An.rdL (l.map (·.data.toList)) = (An.I0, 5) := An.rdL_few _ (by rw [List.length_map, ← HN.out]; exact h5)
    have HE := HT.out.trans er
    have HE := Lib.hid HE
    have Zh := Z1.out.hb; have Zf := Z1.out.fz; have Z10 := Z1.out.k0; have Z11 := Z1.out.k1; have Z12 := Z1.out.k2; have Z13 := Z1.out.k3; have Z14 := Z1.out.k4
    clear er hz
    go_wp2_with fail
    refine bodyPost_ret (v := .tuple #[.agg #[.int .i64 0, .int .i64 0, .int .i64 0, .int .i64 0, .string ⟨#[]⟩], .int .i64 5]) (by simp [results, Tryz.results11, go_sem, Zh, Zf, Z10, Z11, Z12, Z13, Z14]) rfl ⟨by rw [HA.out, HE.out]; rfl, ?_⟩
    iterate 5 (refine Below.setCell ?_ (by first | omega | (simp; done) | (simp; omega)) _)
    exact B1.out
  by_cases h6 : 5 < N
  case pos =>
    have er : An.rdL (l.map (·.data.toList)) = (An.I0, 6) := An.rdL_many _ (by rw [List.length_map, ← HN.out]; exact h6)
    have HE := HT.out.trans er
    have HE := Lib.hid HE
    have Zh := Z1.out.hb; have Zf := Z1.out.fz; have Z10 := Z1.out.k0; have Z11 := Z1.out.k1; have Z12 := Z1.out.k2; have Z13 := Z1.out.k3; have Z14 := Z1.out.k4
    clear er hz
    go_wp2_with fail
    refine bodyPost_ret (v := .tuple #[.agg #[.int .i64 0, .int .i64 0, .int .i64 0, .int .i64 0, .string ⟨#[]⟩], .int .i64 6]) (by simp [results, Tryz.results11, go_sem, Zh, Zf, Z10, Z11, Z12, Z13, Z14]) rfl ⟨by rw [HA.out, HE.out]; rfl, ?_⟩
    iterate 5 (refine Below.setCell ?_ (by first | omega | (simp; done) | (simp; omega)) _)
    exact B1.out
  obtain rfl : N = 5 := by omega
  clear h5 h6
  match l, HN.out, hz, S1, HT, HN with
  | [x0, x1, x2, x3, x4], _, hz, S1, HT, HN =>
    have e5 : An.rdL ([x0, x1, x2, x3, x4].map (·.data.toList)) = _ := An.rdL_five x0.data.toList x1.data.toList x2.data.toList x3.data.toList x4.data.toList
    have e5 := HT.out.trans e5
    rw [show (⟨x4.data.toList.toArray⟩ : ByteArray) = x4 from fd_id x4, ← An.er_w4 x0 x1 x2 x3] at e5
    have HE := Lib.hid e5
    obtain ⟨q, hA⟩ : ∃ q, A = some q := by
      obtain ⟨q, hq, -⟩ := StS.get S1.out 0 (by simp)
      exact ⟨q, hq⟩
    subst hA
    obtain ⟨l4, hl4⟩ : ∃ l4, l4 = [x0, x1, x2, x3] := ⟨_, rfl⟩
    have H4 := Lib.hid hl4
    rw [← hl4] at HE
    have n4 : l4.length = 4 := by rw [hl4]; rfl
    have g4 : Hid (∀ k (h : k < 4), ∀ W, Below w1.heap.size w1 W → W.cell? (q.add k) = some (.string (l4[k]'(by omega)))) := Lib.hid (by
      intro k h W b
      obtain ⟨q', hq', hc'⟩ := StS.get (S1.out.on b) k (by simp; omega)
      cases hq'
      rw [hc']
      subst hl4
      match k, h with
      | 0, _ => rfl
      | 1, _ => rfl
      | 2, _ => rfl
      | 3, _ => rfl)
    have gx4 : Hid (∀ W, Below w1.heap.size w1 W → W.cell? (q.add 4) = some (.string x4)) := Lib.hid (by
      intro W b
      obtain ⟨q', hq', hc'⟩ := StS.get (S1.out.on b) 4 (by simp)
      cases hq'
      exact hc')
    have z4 : Hid (∀ x ∈ l4, x.size ≤ 1000) := Lib.hid (by
      intro x hx
      have := hz x (by rw [hl4] at hx; simp at hx ⊢; rcases hx with rfl | rfl | rfl | rfl <;> simp)
      omega)
    have qb : q.block < w1.heap.size := by
      have := g4.out 0 (by omega) w1 (Below.refl _ _)
      exact World.block_lt_of_cell? _ _ this
    clear hz e5 S1 HT HN hl4 FO hs
    have hs4 : ∀ W, Sem.run Tryz.prog (Instr.slice 33 (.slice (some q) 5 c) none (some (.int .i64 4)) none) W = .ok (.slice (some q) 4 c) W := by
      intro W
      simp [go_sem]
      omega
    go_wp2_with fail
    go_loopw [6, 31] (fun u i wr => ∃ k : Nat, k ≤ 4 ∧ i = .int .i64 k ∧ Hid (wr.ownsRow w1.heap.size 2 1 u k ((l4.take k).map An.vv)) ∧ Hid (An.er (l4.drop k) = An.er l4) ∧ Hid (Below w1.heap.size w1 wr)) (fun _ i _ => 4 - (intOf i).toNat)
    case atStart => exact ⟨0, by omega, rfl, Lib.hid (World.ownsRow_nil _ _ _ _), Lib.hid rfl, Lib.hid (Below.refl _ _)⟩
    case round =>
      obtain ⟨k, hk, rfl, hown, hinv, hB⟩ := hrel
      by_cases hlt : k < 4
      · have hg := g4.out k hlt wr hB.out
        have hx := z4.out (l4[k]'(by omega)) (List.getElem_mem _)
        have hd := hinv.out
        rw [List.drop_eq_getElem_cons (by omega : k < l4.length)] at hd
        have ht : l4.take (k + 1) = l4.take k ++ [l4[k]'(by omega)] := by rw [List.take_succ_eq_append_getElem]
        have HTk := Lib.hid ht
        clear ht hinv
        generalize l4[k]'(by omega) = x at hg hx hd HTk
        have RC := Lib.hid (fun W => rread_any x W hx)
        have hvv : An.vv x = .int .i64 (Num.rd x.data.toList).1 := rfl
        by_cases hy : (Num.rd x.data.toList).2 = 0
        · have hd : An.er (l4.drop (k + 1)) = An.er l4 := by rw [← hd]; show _ = if _ then _ else _; rw [if_neg (by simp [hy])]
          have HD := Lib.hid hd
          rw [hy] at RC
          generalize (Num.rd x.data.toList).1 = n at RC hvv
          clear hd hy hx
          go_wp2_with fail
          refine (RC.out _).mono ?_; rintro e u1 ⟨rfl, rfl⟩
          go_wp2_with (at_builtin; refine wpList_append_own _ rfl _ _ 60 rfl w1.heap.size 2 i0 (.int .i64 0) 1 8 Tryz.underlying60 hi hz0 hz1 hz2 rfl (by decide) _ _ _ rfl (hown.out.alloc _) ⟨wr.heap.size, 0, none⟩ 1 1 [.int .i64 n] rfl rfl (by intro j u hj; match j, hj with | 0, hj => (simp at hj; subst hj; simp [go_sem])) (by intro u hu; simp at hu; subst hu; rfl) (by unfold maxLen; omega) (by omega) (by have := hB.out.size; simp; omega) ?_)
          intro v6 w6 own6 grow6 _
          have B6 := Lib.hid (show Below w1.heap.size w1 w6 from ((hB.out.alloc hB.out.size _).trans (below_grown grow6 (by have := hB.out.size; simp; omega) (own_row hown.out))))
          have O6 : Hid (w6.ownsRow w1.heap.size 2 1 v6 (k + 1) ((l4.take (k + 1)).map An.vv)) := Lib.hid (by rw [HTk.out, List.map_append]; show w6.ownsRow _ _ _ _ _ (_ ++ [An.vv x]); rw [hvv]; simpa only [List.map_take] using own6)
          clear own6 grow6 hown hB
          go_wp2_with fail
          go_roundw
          case rel => exact ⟨k + 1, by omega, by go_num, O6, HD, B6⟩
          case measure => simp [intOf]; omega
        · have hd : (Num.rd x.data.toList).2 = An.er l4 := by rw [← hd]; show _ = if _ then _ else _; rw [if_pos hy]
          have hE := HE.out
          rw [if_pos (by rw [← hd]; exact hy), ← hd] at hE
          have HE2 := Lib.hid hE
          clear hE
          have gy : ((Num.rd x.data.toList).2 == 0) = false := by rw [beq_eq_false_iff_ne]; exact hy
          generalize (Num.rd x.data.toList).1 = n at *
          generalize (Num.rd x.data.toList).2 = y at *
          have BZ := Lib.hid (B1.out.trans (hB.out.mono B1.out.size))
          have Z2 := Z1.out.keep (hB.out)
          have Zh := Z2.hb; have Zf := Z2.fz; have Z10 := Z2.k0; have Z11 := Z2.k1; have Z12 := Z2.k2; have Z13 := Z2.k3; have Z14 := Z2.k4
          clear hd hx Z2 HE
          go_wp2_with fail
          refine (RC.out _).mono ?_; rintro e u1 ⟨rfl, rfl⟩
          go_wp2_with fail
          refine bodyPost_ret (v := .tuple #[.agg #[.int .i64 0, .int .i64 0, .int .i64 0, .int .i64 0, .string ⟨#[]⟩], .int .i64 y]) (by simp [results, Tryz.results11, go_sem, Zh, Zf, Z10, Z11, Z12, Z13, Z14]) rfl ⟨by rw [HA.out, HE2.out]; rfl, ?_⟩
          iterate 5 (refine Below.setCell ?_ (by first | omega | (simp; done) | (simp; omega)) _)
          exact BZ.out
      · obtain rfl : k = 4 := by omega
        have hd := hinv.out
        rw [List.drop_of_length_le (by omega)] at hd
        have hd : (0 : Int) = An.er l4 := hd
        have hE := HE.out
        rw [← hd, if_neg (by simp)] at hE
        have HE2 := Lib.hid hE
        clear hE
        have ho := hown.out
        rw [List.take_of_length_le (by omega), H4.out] at ho
        obtain ⟨g, cg, rfl, hgb, c0, c1, c2, c3⟩ := An.row4 ho
        unfold An.vv at c0 c1 c2 c3
        have c4 := gx4.out wr hB.out
        rw [show q.add 4 = ⟨q.block, q.off + 4, none⟩ by rw [show (4 : Nat) = 3 + 1 from rfl, Addr.add_succ']] at c4
        have BZ := Lib.hid (B1.out.trans (hB.out.mono B1.out.size))
        have Z2 := Z1.out.keep (hB.out)
        have hgz : w.heap.size < g := by have := Z1.out.hb; omega
        generalize (Num.rd x0.data.toList).1 = n0 at *
        generalize (Num.rd x1.data.toList).1 = n1 at *
        generalize (Num.rd x2.data.toList).1 = n2 at *
        generalize (Num.rd x3.data.toList).1 = n3 at *
        clear ho hown hinv hd g4 gx4 z4 HE H4
        have q0 := cell_regrown c0; have q1 := cell_regrown c1; have q2 := cell_regrown c2; have q3 := cell_regrown c3; have q4 := cell_regrown c4
        go_wp2_with fail
        clear c0 c1 c2 c3 c4
        refine wp_region_qbt (w := wr) 18 (by kernel_rfl) (by kernel_rfl) (by repeat (first | exact Below.refl _ _ | refine _root_.Go.below_drewN ?_ _ | refine Below.drew ?_)) ?_
        simp only [List.take_succ_cons, List.take_zero, List.drop_succ_cons, List.drop_zero]
        repeat (any_goals (first | go_big_quiet_step (fail) | quiet_step (fail)))
        refine wpQuiet_nil ?_
        intro w2 b2
        clear q0 q1 q2 q3 q4
        have d2 : Below wr.heap.size wr w2 := below_step (by repeat (first | exact Below.refl _ _ | refine _root_.Go.below_drewN ?_ _ | refine Below.drew ?_)) b2
        have BY := Lib.hid (BZ.out.trans (d2.mono BZ.out.size))
        have Z3 := Z2.keep d2
        clear Z2 b2 d2
        have Zh := Z3.hb; have Zf := Z3.fz; have Z10 := Z3.k0; have Z11 := Z3.k1; have Z12 := Z3.k2; have Z13 := Z3.k3; have Z14 := Z3.k4
        go_wp2_with fail
        refine bodyPost_ret (v := .tuple #[.agg #[.int .i64 n0, .int .i64 n1, .int .i64 n2, .int .i64 n3, .string x4], .int .i64 0]) (by simp [results, Tryz.results11, go_sem, Zh, Zf, Z10, Z11, Z12, Z13, Z14]) rfl ⟨by rw [HA.out, HE2.out], ?_⟩
        iterate 5 (refine Below.setCell ?_ (by first | omega | (simp; done) | (simp; omega)) _)
        exact BY.out
end Go.Proofs.YtlelpeocbgjmhaaGreatDoor
