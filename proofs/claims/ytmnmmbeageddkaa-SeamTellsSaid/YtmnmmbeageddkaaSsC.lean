/- Sets of spans: the contract of the program's sweep. -/
import Derived.Test.YtmnmmbeageddkaaSsB
import Derived.BigRegion
set_option linter.unusedVariables false
set_option linter.unusedSimpArgs false
namespace Go.Proofs.Ytmnmmbeageddkaa
open Go.RowKit Go.Sort Go.Shelf

namespace Ss
theorem egs_step (i : Int) (l : List S) : ∀ e ∈ egs i l, e.2.1 = i ∧ (e.2.2 = 1 ∨ e.2.2 = -1) := by
  intro e he
  unfold egs at he
  obtain ⟨s, _, h⟩ := List.mem_flatMap.1 he
  split at h
  · rcases List.mem_cons.1 h with rfl | h
    · exact ⟨rfl, .inl rfl⟩
    · rcases List.mem_cons.1 h with rfl | h
      · exact ⟨rfl, .inr rfl⟩
      · cases h
  · cases h
theorem all_step (a b : List S) : ∀ e ∈ all a b, (e.2.1 = 0 ∨ e.2.1 = 1) ∧ (e.2.2 = 1 ∨ e.2.2 = -1) := by
  intro e he
  rcases List.mem_append.1 he with he | he
  · have := egs_step 0 a e he; exact ⟨.inl this.1, this.2⟩
  · have := egs_step 1 b e he; exact ⟨.inr this.1, this.2⟩
theorem all_len (a b : List S) : (all a b).length ≤ 2 * (a.length + b.length) := by
  unfold all; rw [List.length_append]; have := egs_len 0 a; have := egs_len 1 b; omega
end Ss
theorem info_sp : (Try.prog.info? 32).map (fun i => (i.zero, i.size, i.bytes)) = some (some (.agg #[.int .i64 0, .int .i64 0]), 2, 16) := by kernel_rfl
theorem edge_get {w : World} {A : Option Addr} {n c : Nat} {d : List Ss.E} (h : Lst w w.heap.size (.slice A n c) n (Ss.ec d)) (hn : n = d.length) (k : Nat) (hk : k < d.length) : ∃ a, A = some a ∧ a.block < w.heap.size ∧ w.cell? (a.add (k * 3)) = some (.int .i64 d[k].1) ∧ w.cell? ⟨(a.add (k * 3)).block, (a.add (k * 3)).off + 1, none⟩ = some (.int .i64 d[k].2.1) ∧ w.cell? ⟨(a.add (k * 3)).block, (a.add (k * 3)).off + 2, none⟩ = some (.int .i64 d[k].2.2) := by
  obtain ⟨A', c', hv, ha⟩ := h
  cases hv
  obtain ⟨a, e, hb, hc⟩ := ha (by omega)
  have h0 := Ss.ec_at d k 0 hk (by omega)
  have h1 := Ss.ec_at d k 1 hk (by omega)
  have h2 := Ss.ec_at d k 2 hk (by omega)
  rw [Nat.add_zero] at h0
  refine ⟨a, e, hb, hc _ _ h0, ?_, ?_⟩
  · have e : (⟨(a.add (k * 3)).block, (a.add (k * 3)).off + 1, none⟩ : Addr) = a.add (k * 3 + 1) := by rw [← add_two]; rfl
    rw [e]; exact hc _ _ h1
  · have e : (⟨(a.add (k * 3)).block, (a.add (k * 3)).off + 2, none⟩ : Addr) = a.add (k * 3 + 2) := by rw [← add_two]; rfl
    rw [e]; exact hc _ _ h2
namespace Ss
theorem sw_same {kf : Bool → Bool → Bool} {x li st : Int} {r : List E} {o0 o1 fr : Int} {ks : Bool} {set : List S} (h : same x r = true) :
    sw kf ((x, li, st) :: r) o0 o1 ks fr set = sw kf r (o0 + (if li = 0 then st else 0)) (o1 + (if li = 1 then st else 0)) ks fr set := by
  rw [sw]; simp only [h, if_true]
theorem sw_diff {kf : Bool → Bool → Bool} {x li st : Int} {r : List E} {o0 o1 fr : Int} {ks k : Bool} {set : List S} (h : same x r = false) (hk : kf (decide (0 < o0 + (if li = 0 then st else 0))) (decide (0 < o1 + (if li = 1 then st else 0))) = k) :
    sw kf ((x, li, st) :: r) o0 o1 ks fr set = sw kf r (o0 + (if li = 0 then st else 0)) (o1 + (if li = 1 then st else 0)) k (if k && !ks then x else fr) (if ks && !k then set ++ [(fr, x)] else set) := by
  rw [sw]; simp only [h, hk, Bool.false_eq_true, if_false]
end Ss
theorem two_cells9 {w : World} {b : Nat} {x y : Value} (h0 : w.cell? ⟨b, 0, none⟩ = some x) (h1 : w.cell? ⟨b, 1, none⟩ = some y) : ∀ (j : Nat) (u : Value), [x, y][j]? = some u → w.cell? ((⟨b, 0, none⟩ : Addr).add j) = some u := by
  intro j u hj
  match j, hj with
  | 0, hj => simp at hj; subst hj; simpa [Addr.add] using h0
  | 1, hj => simp at hj; subst hj; simpa [Addr.add] using h1
/-- A set that is told by its seconds. -/
def AnsK (kf : Bool → Bool → Bool) (a b : List Ss.S) (w : World) (e : Ending) (w' : World) : Prop := ∃ v l, e = .returned v ∧ SpV w' v l ∧ Ss.Rs l ∧ (∀ t, Ss.inl l t = kf (Ss.inl a t) (Ss.inl b t)) ∧ l.length ≤ 2 * (a.length + b.length) ∧ Below w.heap.size w w'
/-- As AnsK, and the list is no longer than its room. -/
def Cap (v : Value) : Prop := ∀ A n c, v = .slice A n c → n ≤ c
def AnsKc (kf : Bool → Bool → Bool) (a b : List Ss.S) (w : World) (e : Ending) (w' : World) : Prop := ∃ v l, e = .returned v ∧ SpV w' v l ∧ Ss.Rs l ∧ (∀ t, Ss.inl l t = kf (Ss.inl a t) (Ss.inl b t)) ∧ l.length ≤ 2 * (a.length + b.length) ∧ Below w.heap.size w w' ∧ Cap v
theorem AnsKc.weak {kf : Bool → Bool → Bool} {a b : List Ss.S} {w : World} {e : Ending} {w' : World} (h : AnsKc kf a b w e w') : AnsK kf a b w e w' := by
  obtain ⟨v, l, h1, h2, h3, h4, h5, h6, -⟩ := h
  exact ⟨v, l, h1, h2, h3, h4, h5, h6⟩
theorem cap_own {w : World} {base : Nat} {e : TypeId} {size : Nat} {v : Value} {N : Nat} {xs : List Value} (h : w.ownsRow base e size v N xs) : Cap v := by
  intro A n c hv
  rcases h.2 with ⟨h1, h0⟩ | ⟨g, cap, cur, h1, _, _, hc, _⟩
  · rw [h1] at hv; cases hv; exact Nat.le_refl _
  · rw [h1] at hv; cases hv; exact hc
theorem cell_blk {W W' : World} {p : Addr} (h : W'.heap[p.block]? = W.heap[p.block]?) : W'.cell? p = W.cell? p := by unfold World.cell?; rw [h]
/-- A cell of a block of two is set, with a draw. -/
theorem set_two0 {W : World} {B : Nat} {t : TypeId} {x y u : Value} (h : Blk W B t #[x, y]) : Blk (W.setCell ⟨B, 0, none⟩ u).drew B t #[u, y] ∧ W.grownBy (W.setCell ⟨B, 0, none⟩ u).drew (some B) := by
  refine ⟨?_, ?_⟩
  · show (W.setCell ⟨B, 0, none⟩ u).heap[B]? = _
    unfold World.setCell
    simp [Array.getElem?_modify, show W.heap[B]? = _ from h]
  · exact ⟨rfl, rfl, rfl, by unfold World.setCell; simp, fun k hk hne => by
      show (W.setCell ⟨B, 0, none⟩ u).heap[k]? = _
      unfold World.setCell
      have : B ≠ k := fun e => hne (congrArg some e.symm)
      simp [Array.getElem?_modify, this]⟩
theorem set_two1 {W : World} {B : Nat} {t : TypeId} {x y u : Value} (h : Blk W B t #[x, y]) : Blk (W.setCell ⟨B, 1, none⟩ u).drew B t #[x, u] ∧ W.grownBy (W.setCell ⟨B, 1, none⟩ u).drew (some B) := by
  refine ⟨?_, ?_⟩
  · show (W.setCell ⟨B, 1, none⟩ u).heap[B]? = _
    unfold World.setCell
    simp [Array.getElem?_modify, show W.heap[B]? = _ from h]
  · exact ⟨rfl, rfl, rfl, by unfold World.setCell; simp, fun k hk hne => by
      show (W.setCell ⟨B, 1, none⟩ u).heap[k]? = _
      unfold World.setCell
      have : B ≠ k := fun e => hne (congrArg some e.symm)
      simp [Array.getElem?_modify, this]⟩
theorem keep_Or (p q : Bool) (w : World) : Calls Try.prog 85 #[.bool p, .bool q] w fun e w' => e = .returned (.bool ((fun x y => x || y : Bool → Bool → Bool) p q)) ∧ w = w' := by
  cases p <;> cases q
  all_goals
    go_enter Try.func85, Try.ntmps85
    go_wp2
    go_ret
    exact ⟨rfl, rfl⟩
set_option maxHeartbeats 4000000 in
set_option maxRecDepth 100000 in
theorem sweepc_Or (va vb : Value) (a b : List Ss.S) (w : World) (h : SpV w va a) (k : SpV w vb b) (ha : a.length ≤ 1000) (hb : b.length ≤ 1000) :
    Calls Try.prog 84 #[va, vb, .func (.func 85) #[] #[]] w (AnsKc (fun x y => x || y) a b w) := by
  have H := Lib.hid h
  have K := Lib.hid k
  obtain ⟨kf, hkf⟩ : ∃ kf : Bool → Bool → Bool, kf = fun x y => x || y := ⟨_, rfl⟩
  have HK := Lib.hid (show ∀ p q W, Calls Try.prog 85 #[.bool p, .bool q] W fun e W' => e = .returned (.bool (kf p q)) ∧ W = W' by rw [hkf]; exact keep_Or)
  have HF := Lib.hid hkf
  clear hkf
  obtain ⟨A, c, rfl, -⟩ := h
  obtain ⟨B, c', rfl, -⟩ := k
  obtain ⟨n, hn⟩ : ∃ n, a.length = n := ⟨_, rfl⟩
  obtain ⟨m, hm⟩ : ∃ m, b.length = m := ⟨_, rfl⟩
  have HA := Lib.hid ha
  have HB := Lib.hid hb
  rw [hn] at H ⊢
  rw [hm] at K ⊢
  clear hn hm ha hb
  obtain ⟨i0, hi, hz0, hz1, hz2⟩ := info_parts info_sp
  have b0 : Below w.heap.size w (w.alloc (.cells #[.int .i64 0, .int .i64 0] 123)) := (Below.refl _ _).alloc (Nat.le_refl _) _
  have S0 := Lib.hid (H.out.on b0)
  have T0 := Lib.hid (K.out.on b0)
  have K0 := Lib.hid (Blk.new w 123 #[.int .i64 0, .int .i64 0])
  have B0 := Lib.hid b0
  clear b0 H K
  go_enter Try.func84, Try.ntmps84
  go_wp2_with fail
  refine (edges_any _ _ a b _ S0.out T0.out HA.out HB.out).mono ?_
  rintro e w1 ⟨ad, c1, d, rfl, hgb, hL, hp, hs, b1⟩
  have D := Lib.hid (And.intro hp hs)
  have hlen : d.length ≤ 4000 := by rw [hp.length_eq]; have := Ss.all_len a b; have := HA.out; have := HB.out; omega
  have hst := Lib.hid (show ∀ e ∈ d, (e.2.1 = 0 ∨ e.2.1 = 1) ∧ (e.2.2 = 1 ∨ e.2.2 = -1) from fun e he => Ss.all_step a b e (hp.subset he))
  obtain ⟨nd, hnd⟩ : ∃ nd, d.length = nd := ⟨_, rfl⟩
  rw [hnd] at hL hlen ⊢
  have HD := Lib.hid hnd
  have G1 := Lib.hid (show w.heap.size + 1 ≤ ad.block by simpa using hgb)
  -- what an edge's cells are, wherever their block is as it was
  have CE := Lib.hid (show ∀ (W : World), W.heap[ad.block]? = w1.heap[ad.block]? → ∀ k (hk : k < d.length), W.cell? (ad.add (k * 3)) = some (.int .i64 d[k].1) ∧ W.cell? ⟨(ad.add (k * 3)).block, (ad.add (k * 3)).off + 1, none⟩ = some (.int .i64 d[k].2.1) ∧ W.cell? ⟨(ad.add (k * 3)).block, (ad.add (k * 3)).off + 2, none⟩ = some (.int .i64 d[k].2.2) from fun W hW k hk => by
    obtain ⟨a', e, _, h0, h1, h2⟩ := edge_get hL hnd.symm k hk
    cases e
    exact ⟨(cell_blk (by rw [blk_add]; exact hW)).trans h0, (cell_blk (by show W.heap[(ad.add (k * 3)).block]? = _; rw [blk_add]; exact hW)).trans h1, (cell_blk (by show W.heap[(ad.add (k * 3)).block]? = _; rw [blk_add]; exact hW)).trans h2⟩)
  have GL := Lib.hid (show 0 < nd → ad.block < w1.heap.size from fun h => by
    obtain ⟨a', e, hb, _⟩ := edge_get hL hnd.symm 0 (by omega)
    cases e; exact hb)
  have K1 := Lib.hid (K0.out.on b1)
  have B1 := Lib.hid (below_step B0.out b1)
  have W1 := Lib.hid (show w.heap.size + 1 ≤ w1.heap.size by have := b1.size; simpa using this)
  clear hp hs hL hnd b1 S0 T0 K0 B0 hgb
  obtain ⟨ans, hans⟩ : ∃ ans, Ss.sw kf d 0 0 false 0 [] = ans := ⟨_, rfl⟩
  have AN := Lib.hid hans
  clear hans
  have O1 := Lib.hid (World.ownsRow_nil w1 w1.heap.size 32 2)
  go_wp2_with fail
  go_loopw [7, 9, 10, 21] (fun u7 u9 u10 u21 wr => ∃ (i : Nat) (o0 o1 fr : Int) (ks : Bool) (set : List Ss.S), i ≤ nd ∧ u9 = .int .i64 fr ∧ u10 = .bool ks ∧ u21 = .int .i64 i ∧ (-(i : Int) ≤ o0 ∧ o0 ≤ i ∧ -(i : Int) ≤ o1 ∧ o1 ≤ i) ∧ Hid (Blk wr w.heap.size 123 #[.int .i64 o0, .int .i64 o1]) ∧ Hid (wr.ownsRow w1.heap.size 32 2 u7 set.length (spc set)) ∧ Hid (set.length ≤ i) ∧ Hid (Ss.sw kf (d.drop i) o0 o1 ks fr set = ans) ∧ Hid (wr.heap[ad.block]? = w1.heap[ad.block]?) ∧ Hid (Below w.heap.size w wr ∧ w1.heap.size ≤ wr.heap.size)) (fun _ _ _ u21 _ => nd - (intOf u21).toNat)
  case atStart => exact ⟨0, 0, 0, 0, false, [], Nat.zero_le _, rfl, rfl, rfl, by omega, K1, O1, Lib.hid (Nat.le_refl _), AN, Lib.hid rfl, Lib.hid ⟨B1.out, Nat.le_refl _⟩⟩
  case round =>
    rename World => w2
    obtain ⟨i, o0, o1, fr, ks, set, hi2, rfl, rfl, rfl, hob, K2, O2, Z2, N2, L2, B2⟩ := hrel
    by_cases hlt : i < nd
    · have hil : i < d.length := by rw [HD.out]; exact hlt
      obtain ⟨g1, g2, g3⟩ := CE.out w2 L2.out i hil
      have hst' := hst.out d[i] (List.getElem_mem hil)
      have hsw := N2.out
      rw [List.drop_eq_getElem_cons hil] at hsw
      have hnx := Lib.hid (show ∀ (h : i + 1 < d.length), Ss.same d[i].1 (d.drop (i + 1)) = (d[i + 1].1 == d[i].1) from fun h => by rw [List.drop_eq_getElem_cons h]; rfl)
      have hnx0 := Lib.hid (show ¬ i + 1 < d.length → Ss.same d[i].1 (d.drop (i + 1)) = false from fun h => by rw [List.drop_of_length_le (by omega)]; rfl)
      have CX := Lib.hid (fun (W : World) (hW : W.heap[ad.block]? = w1.heap[ad.block]?) (h : i + 1 < d.length) => (CE.out W hW (i + 1) h).1)
      generalize hpp : d[i] = pp at *
      obtain ⟨x, li, st⟩ := pp
      simp only at g1 g2 g3 hst' hnx hnx0
      clear hpp
      obtain ⟨hli, hstp⟩ := hst'
      have SW := Lib.hid hsw
      have i1 : (i : Int) < nd := by omega
      have s0 : -1 ≤ st := by omega
      have s1 : st ≤ 1 := by omega
      obtain ⟨j0, j1, j2, j3⟩ := hob
      clear hsw N2 hstp
      have P3 := Lib.hid (Blk.new w2 128 #[.int .i64 x, .int .i64 li, .int .i64 st])
      have K3 := Lib.hid (K2.out.alloc (.cells #[.int .i64 x, .int .i64 li, .int .i64 st] 128))
      have O3 := Lib.hid (O2.out.alloc (.cells #[.int .i64 x, .int .i64 li, .int .i64 st] 128))
      have B3 := Lib.hid (show Below w.heap.size w (w2.alloc (.cells #[.int .i64 x, .int .i64 li, .int .i64 st] 128)) ∧ w1.heap.size + 1 ≤ (w2.alloc (.cells #[.int .i64 x, .int .i64 li, .int .i64 st] 128)).heap.size from ⟨B2.out.1.alloc B2.out.1.size _, by simp; exact B2.out.2⟩)
      have hgl := GL.out (by omega)
      have L3 := Lib.hid (show (w2.alloc (.cells #[.int .i64 x, .int .i64 li, .int .i64 st] 128)).heap[ad.block]? = w1.heap[ad.block]? from ((World.grownBy_alloc w2 _ none).block ad.block (Nat.lt_of_lt_of_le hgl B2.out.2) (by simp)).trans L2.out)
      have E3 := Lib.hid (show w1.heap.size ≤ w2.heap.size from B2.out.2)
      clear hgl
      go_wp2_with fail
      have hw2 : w.heap.size < w2.heap.size := K2.out.lt
      generalize hW : w2.alloc (.cells #[.int .i64 x, .int .i64 li, .int .i64 st] 128) = w3 at *
      have hne : ¬ w2.heap.size = w.heap.size := by omega
      have hne2 : ¬ w.heap.size = w2.heap.size := by omega
      clear hW K2 O2 L2 B2 g1 g2 g3
      have p0 := P3.out.c0; have p1 := P3.out.c1; have p2 := P3.out.c2
      have c0 := K3.out.c0; have c1 := K3.out.c1
      have f0 := K3.out.frozen 0; have f1 := K3.out.frozen 1
      generalize heb : w2.heap.size = eb at *
      clear heb hw2
      rcases hli with rfl | rfl
      · obtain ⟨n0, hn0⟩ : ∃ n0, o0 + st = n0 := ⟨_, rfl⟩
        have q0 : -4001 ≤ n0 := by omega
        have q1 : n0 ≤ 4001 := by omega
        have hq0 : -((i + 1 : Nat) : Int) ≤ n0 := by omega
        have hq1 : n0 ≤ ((i + 1 : Nat) : Int) := by omega
        go_big_region
        have NN := Lib.hid hn0
        clear hn0
        obtain ⟨k4, gr⟩ := set_two0 (u := .int .i64 n0) K3.out
        have K4 := Lib.hid k4
        have P4 := Lib.hid (P3.out.kept gr (by simpa using hne))
        have O4 := Lib.hid (O3.out.kept gr (by right; intro e; have := (O3.out.lt _ e).1; have := W1.out; omega))
        have B4 := Lib.hid (And.intro (B3.out.1.trans (below_grown gr (by have := B3.out.1.size; omega) (fun g hg => by cases hg; exact Nat.le_refl _))) (Nat.le_trans B3.out.2 gr.size))
        have L4 := Lib.hid ((gr.block ad.block (by have := GL.out (by omega); have := B3.out.2; omega) (by intro e; have := Option.some.inj e; have := G1.out; omega)).trans L3.out)
        clear k4 gr p0 p1 p2 c0 c1 f0 f1
        generalize (w3.setCell ⟨w.heap.size, 0, none⟩ (.int .i64 n0)).drew = w4 at *
        clear P3 K3 O3 B3 L3
        have p0 := P4.out.c0
        have c0 := K4.out.c0; have c1 := K4.out.c1
        by_cases hn1 : i + 1 < nd
        · have hn1' : i + 1 < d.length := by rw [HD.out]; exact hn1
          have gx := CX.out w4 L4.out hn1'
          have hsm := hnx.out hn1'
          generalize d[i + 1].1 = x2 at *
          have e1 : ((i : Int) + 1) < nd := by omega
          have e2 : (0 : Int) ≤ (i : Int) + 1 := by omega
          have ei : i ≤ 4000 := by omega
          by_cases hx : x2 = x
          · have t1 : (x2 == x) = true := by rw [hx]; simp
            have SM := Lib.hid (show Ss.same x (d.drop (i + 1)) = true by rw [hsm]; exact t1)
            clear hsm hx
            go_wp2
            go_quiet (fail)
            go_wp2
            go_roundw
            case rel =>
              refine ⟨i + 1, n0, o1, fr, ks, set, by omega, rfl, rfl, by go_num, by omega, Lib.hid K4.out, Lib.hid O4.out, Lib.hid (by have := Z2.out; omega), Lib.hid ?_, Lib.hid L4.out, Lib.hid ⟨B4.out.1.trans (below_draw w4 _), Nat.le_trans (by have := B4.out.2; omega) (below_draw w4 _ : Below w4.heap.size w4 _).size⟩⟩
              have := SW.out
              rw [Ss.sw_same SM.out] at this
              simpa [NN.out] using this
            case measure => simp [intOf]; omega
          · have t1 : (x2 == x) = false := by rw [beq_eq_false_iff_ne]; exact hx
            clear hx
            have hsf : Ss.same x (d.drop (i + 1)) = false := by rw [hsm]; exact t1
            have SF := Lib.hid hsf
            clear hsf
            go_wp2
            go_quiet (fail)
            go_wp2_with fail
            refine (HK.out _ _ _).mono ?_
            rintro e w5 ⟨rfl, rfl⟩
            generalize hW : World.drewN w4 _ = w5
            have b5 : Below w4.heap.size w4 w5 := by rw [← hW]; exact below_draw _ _
            have K5 := Lib.hid (K4.out.on b5)
            have P5 := Lib.hid (P4.out.on b5)
            have O5 := Lib.hid (own_on O4.out b5)
            have L5 := Lib.hid ((b5.block ad.block (by have := GL.out (by omega); have := B4.out.2; omega)).trans L4.out)
            have B5 := Lib.hid (And.intro (below_step B4.out.1 b5) (Nat.le_trans B4.out.2 b5.size))
            clear hW b5 K4 P4 O4 L4 B4 p0 c0 c1
            have p0 := P5.out.c0
            obtain ⟨kp, hkp⟩ : ∃ kp, kf (decide (0 < n0)) (decide (0 < o1)) = kp := ⟨_, rfl⟩
            have SD := Lib.hid (show Ss.sw kf (d.drop (i + 1)) n0 o1 kp (if kp && !ks then x else fr) (if ks && !kp then set ++ [(fr, x)] else set) = ans by
              have := SW.out
              rw [Ss.sw_diff SF.out (k := kp) (by simpa [NN.out] using hkp)] at this
              simpa [NN.out] using this)
            rw [hkp]
            clear hkp SW SF
            have hsz : set.length ≤ 4000 := Nat.le_trans Z2.out ei
            have ho : -((i + 1 : Nat) : Int) ≤ n0 ∧ n0 ≤ ((i + 1 : Nat) : Int) ∧ -((i + 1 : Nat) : Int) ≤ o1 ∧ o1 ≤ ((i + 1 : Nat) : Int) := by omega
            have HO := Lib.hid ho
            clear ho j0 j1 j2 j3 q0 q1 hq0 hq1
            cases kp <;> cases ks
            · simp only [Bool.not_false, Bool.not_true, Bool.and_true, Bool.and_false, Bool.false_eq_true, if_false, if_true, Bool.true_and, Bool.false_and] at SD
              go_wp2
              go_roundw
              case rel => exact ⟨i + 1, n0, o1, fr, false, set, by omega, rfl, rfl, by go_num, HO.out, K5, O5, Lib.hid (by have := Z2.out; omega), SD, L5, Lib.hid ⟨B5.out.1, by have := B5.out.2; omega⟩⟩
              case measure => simp [intOf]; omega
            · simp only [Bool.not_false, Bool.not_true, Bool.and_true, Bool.and_false, Bool.false_eq_true, if_false, if_true, Bool.true_and, Bool.false_and] at SD
              go_wp2_with (at_builtin; refine wpList_append_own _ rfl _ _ 57 rfl w1.heap.size 32 i0 (.agg #[.int .i64 0, .int .i64 0]) 2 16 Try.underlying57 hi hz0 hz1 hz2 rfl (by decide) _ _ _ rfl (O5.out.alloc _) ⟨w5.heap.size, 0, none⟩ 1 1 [.int .i64 fr, .int .i64 x] rfl rfl (two_cells9 (by simp [go_sem]) (by simp [go_sem])) (by intro u hu; simp at hu; rcases hu with rfl | rfl <;> rfl) (by unfold maxLen; omega) (by omega) (by have := B5.out.2; simp; omega) ?_)
              intro v6 w6 own6 grow6 nil6
              clear nil6
              have B6 := Lib.hid (show Below w.heap.size w w6 ∧ w1.heap.size + 1 ≤ w6.heap.size from ⟨(B5.out.1.alloc B5.out.1.size _).trans (below_grown grow6 (by have := B5.out.1.size; simp; omega) (fun g hg => by have := (O5.out.lt g hg).1; have := W1.out; omega)), by have g := grow6.size; simp at g; have := B5.out.2; omega⟩)
              have K6 := Lib.hid ((K5.out.alloc _).kept grow6 (by intro e; have := (O5.out.lt _ e.symm).1; have := W1.out; omega))
              have L6 := Lib.hid ((grow6.block ad.block (by have := GL.out (by omega); have := B5.out.2; simp; omega) (by intro e; have := (O5.out.lt _ e.symm).1; have := GL.out (by omega); omega)).trans (((World.grownBy_alloc w5 _ none).block ad.block (by have := GL.out (by omega); have := B5.out.2; omega) (by simp)).trans L5.out))
              have O6 := Lib.hid own6
              clear own6 grow6 O5 B5 K5 P5 L5 p0
              go_wp2
              go_roundw
              case rel => exact ⟨i + 1, n0, o1, fr, false, set ++ [(fr, x)], by omega, rfl, rfl, by go_num, HO.out, K6, Lib.hid (by simpa [spc] using O6.out), Lib.hid (by have := Z2.out; simp; omega), SD, L6, Lib.hid ⟨B6.out.1, by have := B6.out.2; omega⟩⟩
              case measure => simp [intOf]; omega
            · simp only [Bool.not_false, Bool.not_true, Bool.and_true, Bool.and_false, Bool.false_eq_true, if_false, if_true, Bool.true_and, Bool.false_and] at SD
              go_wp2
              go_roundw
              case rel => exact ⟨i + 1, n0, o1, x, true, set, by omega, rfl, rfl, by go_num, HO.out, K5, O5, Lib.hid (by have := Z2.out; omega), SD, L5, Lib.hid ⟨B5.out.1, by have := B5.out.2; omega⟩⟩
              case measure => simp [intOf]; omega
            · simp only [Bool.not_false, Bool.not_true, Bool.and_true, Bool.and_false, Bool.false_eq_true, if_false, if_true, Bool.true_and, Bool.false_and] at SD
              go_wp2
              go_roundw
              case rel => exact ⟨i + 1, n0, o1, fr, true, set, by omega, rfl, rfl, by go_num, HO.out, K5, O5, Lib.hid (by have := Z2.out; omega), SD, L5, Lib.hid ⟨B5.out.1, by have := B5.out.2; omega⟩⟩
              case measure => simp [intOf]; omega
        · have e1 : decide (((i : Int) + 1) < (nd : Int)) = false := decide_eq_false (by omega)
          have ei : i ≤ 4000 := by omega
          have hsf : Ss.same x (d.drop (i + 1)) = false := hnx0.out (by rw [HD.out]; exact hn1)
          have SF := Lib.hid hsf
          clear hsf
          go_wp2
          go_quiet (fail)
          go_wp2_with fail
          refine (HK.out _ _ _).mono ?_
          rintro e w5 ⟨rfl, rfl⟩
          generalize hW : World.drewN w4 _ = w5
          have b5 : Below w4.heap.size w4 w5 := by rw [← hW]; exact below_draw _ _
          have K5 := Lib.hid (K4.out.on b5)
          have P5 := Lib.hid (P4.out.on b5)
          have O5 := Lib.hid (own_on O4.out b5)
          have L5 := Lib.hid ((b5.block ad.block (by have := GL.out (by omega); have := B4.out.2; omega)).trans L4.out)
          have B5 := Lib.hid (And.intro (below_step B4.out.1 b5) (Nat.le_trans B4.out.2 b5.size))
          clear hW b5 K4 P4 O4 L4 B4 p0 c0 c1
          have p0 := P5.out.c0
          obtain ⟨kp, hkp⟩ : ∃ kp, kf (decide (0 < n0)) (decide (0 < o1)) = kp := ⟨_, rfl⟩
          have SD := Lib.hid (show Ss.sw kf (d.drop (i + 1)) n0 o1 kp (if kp && !ks then x else fr) (if ks && !kp then set ++ [(fr, x)] else set) = ans by
            have := SW.out
            rw [Ss.sw_diff SF.out (k := kp) (by simpa [NN.out] using hkp)] at this
            simpa [NN.out] using this)
          rw [hkp]
          clear hkp SW SF
          have hsz : set.length ≤ 4000 := Nat.le_trans Z2.out ei
          have ho : -((i + 1 : Nat) : Int) ≤ n0 ∧ n0 ≤ ((i + 1 : Nat) : Int) ∧ -((i + 1 : Nat) : Int) ≤ o1 ∧ o1 ≤ ((i + 1 : Nat) : Int) := by omega
          have HO := Lib.hid ho
          clear ho j0 j1 j2 j3 q0 q1 hq0 hq1
          cases kp <;> cases ks
          · simp only [Bool.not_false, Bool.not_true, Bool.and_true, Bool.and_false, Bool.false_eq_true, if_false, if_true, Bool.true_and, Bool.false_and] at SD
            go_wp2
            go_roundw
            case rel => exact ⟨i + 1, n0, o1, fr, false, set, by omega, rfl, rfl, by go_num, HO.out, K5, O5, Lib.hid (by have := Z2.out; omega), SD, L5, Lib.hid ⟨B5.out.1, by have := B5.out.2; omega⟩⟩
            case measure => simp [intOf]; omega
          · simp only [Bool.not_false, Bool.not_true, Bool.and_true, Bool.and_false, Bool.false_eq_true, if_false, if_true, Bool.true_and, Bool.false_and] at SD
            go_wp2_with (at_builtin; refine wpList_append_own _ rfl _ _ 57 rfl w1.heap.size 32 i0 (.agg #[.int .i64 0, .int .i64 0]) 2 16 Try.underlying57 hi hz0 hz1 hz2 rfl (by decide) _ _ _ rfl (O5.out.alloc _) ⟨w5.heap.size, 0, none⟩ 1 1 [.int .i64 fr, .int .i64 x] rfl rfl (two_cells9 (by simp [go_sem]) (by simp [go_sem])) (by intro u hu; simp at hu; rcases hu with rfl | rfl <;> rfl) (by unfold maxLen; omega) (by omega) (by have := B5.out.2; simp; omega) ?_)
            intro v6 w6 own6 grow6 nil6
            clear nil6
            have B6 := Lib.hid (show Below w.heap.size w w6 ∧ w1.heap.size + 1 ≤ w6.heap.size from ⟨(B5.out.1.alloc B5.out.1.size _).trans (below_grown grow6 (by have := B5.out.1.size; simp; omega) (fun g hg => by have := (O5.out.lt g hg).1; have := W1.out; omega)), by have g := grow6.size; simp at g; have := B5.out.2; omega⟩)
            have K6 := Lib.hid ((K5.out.alloc _).kept grow6 (by intro e; have := (O5.out.lt _ e.symm).1; have := W1.out; omega))
            have L6 := Lib.hid ((grow6.block ad.block (by have := GL.out (by omega); have := B5.out.2; simp; omega) (by intro e; have := (O5.out.lt _ e.symm).1; have := GL.out (by omega); omega)).trans (((World.grownBy_alloc w5 _ none).block ad.block (by have := GL.out (by omega); have := B5.out.2; omega) (by simp)).trans L5.out))
            have O6 := Lib.hid own6
            clear own6 grow6 O5 B5 K5 P5 L5 p0
            go_wp2
            go_roundw
            case rel => exact ⟨i + 1, n0, o1, fr, false, set ++ [(fr, x)], by omega, rfl, rfl, by go_num, HO.out, K6, Lib.hid (by simpa [spc] using O6.out), Lib.hid (by have := Z2.out; simp; omega), SD, L6, Lib.hid ⟨B6.out.1, by have := B6.out.2; omega⟩⟩
            case measure => simp [intOf]; omega
          · simp only [Bool.not_false, Bool.not_true, Bool.and_true, Bool.and_false, Bool.false_eq_true, if_false, if_true, Bool.true_and, Bool.false_and] at SD
            go_wp2
            go_roundw
            case rel => exact ⟨i + 1, n0, o1, x, true, set, by omega, rfl, rfl, by go_num, HO.out, K5, O5, Lib.hid (by have := Z2.out; omega), SD, L5, Lib.hid ⟨B5.out.1, by have := B5.out.2; omega⟩⟩
            case measure => simp [intOf]; omega
          · simp only [Bool.not_false, Bool.not_true, Bool.and_true, Bool.and_false, Bool.false_eq_true, if_false, if_true, Bool.true_and, Bool.false_and] at SD
            go_wp2
            go_roundw
            case rel => exact ⟨i + 1, n0, o1, fr, true, set, by omega, rfl, rfl, by go_num, HO.out, K5, O5, Lib.hid (by have := Z2.out; omega), SD, L5, Lib.hid ⟨B5.out.1, by have := B5.out.2; omega⟩⟩
            case measure => simp [intOf]; omega
      · obtain ⟨n0, hn0⟩ : ∃ n0, o1 + st = n0 := ⟨_, rfl⟩
        have q0 : -4001 ≤ n0 := by omega
        have q1 : n0 ≤ 4001 := by omega
        have hq0 : -((i + 1 : Nat) : Int) ≤ n0 := by omega
        have hq1 : n0 ≤ ((i + 1 : Nat) : Int) := by omega
        go_big_region
        have NN := Lib.hid hn0
        clear hn0
        obtain ⟨k4, gr⟩ := set_two1 (u := .int .i64 n0) K3.out
        have K4 := Lib.hid k4
        have P4 := Lib.hid (P3.out.kept gr (by simpa using hne))
        have O4 := Lib.hid (O3.out.kept gr (by right; intro e; have := (O3.out.lt _ e).1; have := W1.out; omega))
        have B4 := Lib.hid (And.intro (B3.out.1.trans (below_grown gr (by have := B3.out.1.size; omega) (fun g hg => by cases hg; exact Nat.le_refl _))) (Nat.le_trans B3.out.2 gr.size))
        have L4 := Lib.hid ((gr.block ad.block (by have := GL.out (by omega); have := B3.out.2; omega) (by intro e; have := Option.some.inj e; have := G1.out; omega)).trans L3.out)
        clear k4 gr p0 p1 p2 c0 c1 f0 f1
        generalize (w3.setCell ⟨w.heap.size, 1, none⟩ (.int .i64 n0)).drew = w4 at *
        clear P3 K3 O3 B3 L3
        have p0 := P4.out.c0
        have c0 := K4.out.c0; have c1 := K4.out.c1
        by_cases hn1 : i + 1 < nd
        · have hn1' : i + 1 < d.length := by rw [HD.out]; exact hn1
          have gx := CX.out w4 L4.out hn1'
          have hsm := hnx.out hn1'
          generalize d[i + 1].1 = x2 at *
          have e1 : ((i : Int) + 1) < nd := by omega
          have e2 : (0 : Int) ≤ (i : Int) + 1 := by omega
          have ei : i ≤ 4000 := by omega
          by_cases hx : x2 = x
          · have t1 : (x2 == x) = true := by rw [hx]; simp
            have SM := Lib.hid (show Ss.same x (d.drop (i + 1)) = true by rw [hsm]; exact t1)
            clear hsm hx
            go_wp2
            go_quiet (fail)
            go_wp2
            go_roundw
            case rel =>
              refine ⟨i + 1, o0, n0, fr, ks, set, by omega, rfl, rfl, by go_num, by omega, Lib.hid K4.out, Lib.hid O4.out, Lib.hid (by have := Z2.out; omega), Lib.hid ?_, Lib.hid L4.out, Lib.hid ⟨B4.out.1.trans (below_draw w4 _), Nat.le_trans (by have := B4.out.2; omega) (below_draw w4 _ : Below w4.heap.size w4 _).size⟩⟩
              have := SW.out
              rw [Ss.sw_same SM.out] at this
              simpa [NN.out] using this
            case measure => simp [intOf]; omega
          · have t1 : (x2 == x) = false := by rw [beq_eq_false_iff_ne]; exact hx
            clear hx
            have hsf : Ss.same x (d.drop (i + 1)) = false := by rw [hsm]; exact t1
            have SF := Lib.hid hsf
            clear hsf
            go_wp2
            go_quiet (fail)
            go_wp2_with fail
            refine (HK.out _ _ _).mono ?_
            rintro e w5 ⟨rfl, rfl⟩
            generalize hW : World.drewN w4 _ = w5
            have b5 : Below w4.heap.size w4 w5 := by rw [← hW]; exact below_draw _ _
            have K5 := Lib.hid (K4.out.on b5)
            have P5 := Lib.hid (P4.out.on b5)
            have O5 := Lib.hid (own_on O4.out b5)
            have L5 := Lib.hid ((b5.block ad.block (by have := GL.out (by omega); have := B4.out.2; omega)).trans L4.out)
            have B5 := Lib.hid (And.intro (below_step B4.out.1 b5) (Nat.le_trans B4.out.2 b5.size))
            clear hW b5 K4 P4 O4 L4 B4 p0 c0 c1
            have p0 := P5.out.c0
            obtain ⟨kp, hkp⟩ : ∃ kp, kf (decide (0 < o0)) (decide (0 < n0)) = kp := ⟨_, rfl⟩
            have SD := Lib.hid (show Ss.sw kf (d.drop (i + 1)) o0 n0 kp (if kp && !ks then x else fr) (if ks && !kp then set ++ [(fr, x)] else set) = ans by
              have := SW.out
              rw [Ss.sw_diff SF.out (k := kp) (by simpa [NN.out] using hkp)] at this
              simpa [NN.out] using this)
            rw [hkp]
            clear hkp SW SF
            have hsz : set.length ≤ 4000 := Nat.le_trans Z2.out ei
            have ho : -((i + 1 : Nat) : Int) ≤ o0 ∧ o0 ≤ ((i + 1 : Nat) : Int) ∧ -((i + 1 : Nat) : Int) ≤ n0 ∧ n0 ≤ ((i + 1 : Nat) : Int) := by omega
            have HO := Lib.hid ho
            clear ho j0 j1 j2 j3 q0 q1 hq0 hq1
            cases kp <;> cases ks
            · simp only [Bool.not_false, Bool.not_true, Bool.and_true, Bool.and_false, Bool.false_eq_true, if_false, if_true, Bool.true_and, Bool.false_and] at SD
              go_wp2
              go_roundw
              case rel => exact ⟨i + 1, o0, n0, fr, false, set, by omega, rfl, rfl, by go_num, HO.out, K5, O5, Lib.hid (by have := Z2.out; omega), SD, L5, Lib.hid ⟨B5.out.1, by have := B5.out.2; omega⟩⟩
              case measure => simp [intOf]; omega
            · simp only [Bool.not_false, Bool.not_true, Bool.and_true, Bool.and_false, Bool.false_eq_true, if_false, if_true, Bool.true_and, Bool.false_and] at SD
              go_wp2_with (at_builtin; refine wpList_append_own _ rfl _ _ 57 rfl w1.heap.size 32 i0 (.agg #[.int .i64 0, .int .i64 0]) 2 16 Try.underlying57 hi hz0 hz1 hz2 rfl (by decide) _ _ _ rfl (O5.out.alloc _) ⟨w5.heap.size, 0, none⟩ 1 1 [.int .i64 fr, .int .i64 x] rfl rfl (two_cells9 (by simp [go_sem]) (by simp [go_sem])) (by intro u hu; simp at hu; rcases hu with rfl | rfl <;> rfl) (by unfold maxLen; omega) (by omega) (by have := B5.out.2; simp; omega) ?_)
              intro v6 w6 own6 grow6 nil6
              clear nil6
              have B6 := Lib.hid (show Below w.heap.size w w6 ∧ w1.heap.size + 1 ≤ w6.heap.size from ⟨(B5.out.1.alloc B5.out.1.size _).trans (below_grown grow6 (by have := B5.out.1.size; simp; omega) (fun g hg => by have := (O5.out.lt g hg).1; have := W1.out; omega)), by have g := grow6.size; simp at g; have := B5.out.2; omega⟩)
              have K6 := Lib.hid ((K5.out.alloc _).kept grow6 (by intro e; have := (O5.out.lt _ e.symm).1; have := W1.out; omega))
              have L6 := Lib.hid ((grow6.block ad.block (by have := GL.out (by omega); have := B5.out.2; simp; omega) (by intro e; have := (O5.out.lt _ e.symm).1; have := GL.out (by omega); omega)).trans (((World.grownBy_alloc w5 _ none).block ad.block (by have := GL.out (by omega); have := B5.out.2; omega) (by simp)).trans L5.out))
              have O6 := Lib.hid own6
              clear own6 grow6 O5 B5 K5 P5 L5 p0
              go_wp2
              go_roundw
              case rel => exact ⟨i + 1, o0, n0, fr, false, set ++ [(fr, x)], by omega, rfl, rfl, by go_num, HO.out, K6, Lib.hid (by simpa [spc] using O6.out), Lib.hid (by have := Z2.out; simp; omega), SD, L6, Lib.hid ⟨B6.out.1, by have := B6.out.2; omega⟩⟩
              case measure => simp [intOf]; omega
            · simp only [Bool.not_false, Bool.not_true, Bool.and_true, Bool.and_false, Bool.false_eq_true, if_false, if_true, Bool.true_and, Bool.false_and] at SD
              go_wp2
              go_roundw
              case rel => exact ⟨i + 1, o0, n0, x, true, set, by omega, rfl, rfl, by go_num, HO.out, K5, O5, Lib.hid (by have := Z2.out; omega), SD, L5, Lib.hid ⟨B5.out.1, by have := B5.out.2; omega⟩⟩
              case measure => simp [intOf]; omega
            · simp only [Bool.not_false, Bool.not_true, Bool.and_true, Bool.and_false, Bool.false_eq_true, if_false, if_true, Bool.true_and, Bool.false_and] at SD
              go_wp2
              go_roundw
              case rel => exact ⟨i + 1, o0, n0, fr, true, set, by omega, rfl, rfl, by go_num, HO.out, K5, O5, Lib.hid (by have := Z2.out; omega), SD, L5, Lib.hid ⟨B5.out.1, by have := B5.out.2; omega⟩⟩
              case measure => simp [intOf]; omega
        · have e1 : decide (((i : Int) + 1) < (nd : Int)) = false := decide_eq_false (by omega)
          have ei : i ≤ 4000 := by omega
          have hsf : Ss.same x (d.drop (i + 1)) = false := hnx0.out (by rw [HD.out]; exact hn1)
          have SF := Lib.hid hsf
          clear hsf
          go_wp2
          go_quiet (fail)
          go_wp2_with fail
          refine (HK.out _ _ _).mono ?_
          rintro e w5 ⟨rfl, rfl⟩
          generalize hW : World.drewN w4 _ = w5
          have b5 : Below w4.heap.size w4 w5 := by rw [← hW]; exact below_draw _ _
          have K5 := Lib.hid (K4.out.on b5)
          have P5 := Lib.hid (P4.out.on b5)
          have O5 := Lib.hid (own_on O4.out b5)
          have L5 := Lib.hid ((b5.block ad.block (by have := GL.out (by omega); have := B4.out.2; omega)).trans L4.out)
          have B5 := Lib.hid (And.intro (below_step B4.out.1 b5) (Nat.le_trans B4.out.2 b5.size))
          clear hW b5 K4 P4 O4 L4 B4 p0 c0 c1
          have p0 := P5.out.c0
          obtain ⟨kp, hkp⟩ : ∃ kp, kf (decide (0 < o0)) (decide (0 < n0)) = kp := ⟨_, rfl⟩
          have SD := Lib.hid (show Ss.sw kf (d.drop (i + 1)) o0 n0 kp (if kp && !ks then x else fr) (if ks && !kp then set ++ [(fr, x)] else set) = ans by
            have := SW.out
            rw [Ss.sw_diff SF.out (k := kp) (by simpa [NN.out] using hkp)] at this
            simpa [NN.out] using this)
          rw [hkp]
          clear hkp SW SF
          have hsz : set.length ≤ 4000 := Nat.le_trans Z2.out ei
          have ho : -((i + 1 : Nat) : Int) ≤ o0 ∧ o0 ≤ ((i + 1 : Nat) : Int) ∧ -((i + 1 : Nat) : Int) ≤ n0 ∧ n0 ≤ ((i + 1 : Nat) : Int) := by omega
          have HO := Lib.hid ho
          clear ho j0 j1 j2 j3 q0 q1 hq0 hq1
          cases kp <;> cases ks
          · simp only [Bool.not_false, Bool.not_true, Bool.and_true, Bool.and_false, Bool.false_eq_true, if_false, if_true, Bool.true_and, Bool.false_and] at SD
            go_wp2
            go_roundw
            case rel => exact ⟨i + 1, o0, n0, fr, false, set, by omega, rfl, rfl, by go_num, HO.out, K5, O5, Lib.hid (by have := Z2.out; omega), SD, L5, Lib.hid ⟨B5.out.1, by have := B5.out.2; omega⟩⟩
            case measure => simp [intOf]; omega
          · simp only [Bool.not_false, Bool.not_true, Bool.and_true, Bool.and_false, Bool.false_eq_true, if_false, if_true, Bool.true_and, Bool.false_and] at SD
            go_wp2_with (at_builtin; refine wpList_append_own _ rfl _ _ 57 rfl w1.heap.size 32 i0 (.agg #[.int .i64 0, .int .i64 0]) 2 16 Try.underlying57 hi hz0 hz1 hz2 rfl (by decide) _ _ _ rfl (O5.out.alloc _) ⟨w5.heap.size, 0, none⟩ 1 1 [.int .i64 fr, .int .i64 x] rfl rfl (two_cells9 (by simp [go_sem]) (by simp [go_sem])) (by intro u hu; simp at hu; rcases hu with rfl | rfl <;> rfl) (by unfold maxLen; omega) (by omega) (by have := B5.out.2; simp; omega) ?_)
            intro v6 w6 own6 grow6 nil6
            clear nil6
            have B6 := Lib.hid (show Below w.heap.size w w6 ∧ w1.heap.size + 1 ≤ w6.heap.size from ⟨(B5.out.1.alloc B5.out.1.size _).trans (below_grown grow6 (by have := B5.out.1.size; simp; omega) (fun g hg => by have := (O5.out.lt g hg).1; have := W1.out; omega)), by have g := grow6.size; simp at g; have := B5.out.2; omega⟩)
            have K6 := Lib.hid ((K5.out.alloc _).kept grow6 (by intro e; have := (O5.out.lt _ e.symm).1; have := W1.out; omega))
            have L6 := Lib.hid ((grow6.block ad.block (by have := GL.out (by omega); have := B5.out.2; simp; omega) (by intro e; have := (O5.out.lt _ e.symm).1; have := GL.out (by omega); omega)).trans (((World.grownBy_alloc w5 _ none).block ad.block (by have := GL.out (by omega); have := B5.out.2; omega) (by simp)).trans L5.out))
            have O6 := Lib.hid own6
            clear own6 grow6 O5 B5 K5 P5 L5 p0
            go_wp2
            go_roundw
            case rel => exact ⟨i + 1, o0, n0, fr, false, set ++ [(fr, x)], by omega, rfl, rfl, by go_num, HO.out, K6, Lib.hid (by simpa [spc] using O6.out), Lib.hid (by have := Z2.out; simp; omega), SD, L6, Lib.hid ⟨B6.out.1, by have := B6.out.2; omega⟩⟩
            case measure => simp [intOf]; omega
          · simp only [Bool.not_false, Bool.not_true, Bool.and_true, Bool.and_false, Bool.false_eq_true, if_false, if_true, Bool.true_and, Bool.false_and] at SD
            go_wp2
            go_roundw
            case rel => exact ⟨i + 1, o0, n0, x, true, set, by omega, rfl, rfl, by go_num, HO.out, K5, O5, Lib.hid (by have := Z2.out; omega), SD, L5, Lib.hid ⟨B5.out.1, by have := B5.out.2; omega⟩⟩
            case measure => simp [intOf]; omega
          · simp only [Bool.not_false, Bool.not_true, Bool.and_true, Bool.and_false, Bool.false_eq_true, if_false, if_true, Bool.true_and, Bool.false_and] at SD
            go_wp2
            go_roundw
            case rel => exact ⟨i + 1, o0, n0, fr, true, set, by omega, rfl, rfl, by go_num, HO.out, K5, O5, Lib.hid (by have := Z2.out; omega), SD, L5, Lib.hid ⟨B5.out.1, by have := B5.out.2; omega⟩⟩
            case measure => simp [intOf]; omega
    · have hin : i = nd := by omega
      have EA := Lib.hid (show set = ans by have := N2.out; rw [List.drop_of_length_le (by rw [HD.out]; omega)] at this; exact this)
      have hz : set.length ≤ nd := by have := Z2.out; omega
      have ZZ := Lib.hid hz
      clear hz hin
      go_wp2
      go_ret
      refine ⟨_, set, rfl, SpV.own O2.out, ?_⟩
      have hr := Ss.sw_set kf (by rw [HF.out]; rfl) a b d D.out.1 D.out.2
      rw [AN.out, ← EA.out] at hr
      refine ⟨hr.1, fun t => by rw [hr.2 t, HF.out], ?_, B2.out.1, cap_own O2.out⟩
      have h1 := D.out.1.length_eq
      have h2 := Ss.all_len a b
      have := ZZ.out; have := HD.out; omega
theorem sweep_Or (va vb : Value) (a b : List Ss.S) (w : World) (h : SpV w va a) (k : SpV w vb b) (ha : a.length ≤ 1000) (hb : b.length ≤ 1000) :
    Calls Try.prog 84 #[va, vb, .func (.func 85) #[] #[]] w (AnsK (fun x y => x || y) a b w) := (sweepc_Or va vb a b w h k ha hb).mono fun _ _ h => h.weak
theorem keep_Less (p q : Bool) (w : World) : Calls Try.prog 87 #[.bool p, .bool q] w fun e w' => e = .returned (.bool ((fun x y => x && !y : Bool → Bool → Bool) p q)) ∧ w = w' := by
  cases p <;> cases q
  all_goals
    go_enter Try.func87, Try.ntmps87
    go_wp2
    go_ret
    exact ⟨rfl, rfl⟩
set_option maxHeartbeats 4000000 in
set_option maxRecDepth 100000 in
theorem sweepc_Less (va vb : Value) (a b : List Ss.S) (w : World) (h : SpV w va a) (k : SpV w vb b) (ha : a.length ≤ 1000) (hb : b.length ≤ 1000) :
    Calls Try.prog 84 #[va, vb, .func (.func 87) #[] #[]] w (AnsKc (fun x y => x && !y) a b w) := by
  have H := Lib.hid h
  have K := Lib.hid k
  obtain ⟨kf, hkf⟩ : ∃ kf : Bool → Bool → Bool, kf = fun x y => x && !y := ⟨_, rfl⟩
  have HK := Lib.hid (show ∀ p q W, Calls Try.prog 87 #[.bool p, .bool q] W fun e W' => e = .returned (.bool (kf p q)) ∧ W = W' by rw [hkf]; exact keep_Less)
  have HF := Lib.hid hkf
  clear hkf
  obtain ⟨A, c, rfl, -⟩ := h
  obtain ⟨B, c', rfl, -⟩ := k
  obtain ⟨n, hn⟩ : ∃ n, a.length = n := ⟨_, rfl⟩
  obtain ⟨m, hm⟩ : ∃ m, b.length = m := ⟨_, rfl⟩
  have HA := Lib.hid ha
  have HB := Lib.hid hb
  rw [hn] at H ⊢
  rw [hm] at K ⊢
  clear hn hm ha hb
  obtain ⟨i0, hi, hz0, hz1, hz2⟩ := info_parts info_sp
  have b0 : Below w.heap.size w (w.alloc (.cells #[.int .i64 0, .int .i64 0] 123)) := (Below.refl _ _).alloc (Nat.le_refl _) _
  have S0 := Lib.hid (H.out.on b0)
  have T0 := Lib.hid (K.out.on b0)
  have K0 := Lib.hid (Blk.new w 123 #[.int .i64 0, .int .i64 0])
  have B0 := Lib.hid b0
  clear b0 H K
  go_enter Try.func84, Try.ntmps84
  go_wp2_with fail
  refine (edges_any _ _ a b _ S0.out T0.out HA.out HB.out).mono ?_
  rintro e w1 ⟨ad, c1, d, rfl, hgb, hL, hp, hs, b1⟩
  have D := Lib.hid (And.intro hp hs)
  have hlen : d.length ≤ 4000 := by rw [hp.length_eq]; have := Ss.all_len a b; have := HA.out; have := HB.out; omega
  have hst := Lib.hid (show ∀ e ∈ d, (e.2.1 = 0 ∨ e.2.1 = 1) ∧ (e.2.2 = 1 ∨ e.2.2 = -1) from fun e he => Ss.all_step a b e (hp.subset he))
  obtain ⟨nd, hnd⟩ : ∃ nd, d.length = nd := ⟨_, rfl⟩
  rw [hnd] at hL hlen ⊢
  have HD := Lib.hid hnd
  have G1 := Lib.hid (show w.heap.size + 1 ≤ ad.block by simpa using hgb)
  -- what an edge's cells are, wherever their block is as it was
  have CE := Lib.hid (show ∀ (W : World), W.heap[ad.block]? = w1.heap[ad.block]? → ∀ k (hk : k < d.length), W.cell? (ad.add (k * 3)) = some (.int .i64 d[k].1) ∧ W.cell? ⟨(ad.add (k * 3)).block, (ad.add (k * 3)).off + 1, none⟩ = some (.int .i64 d[k].2.1) ∧ W.cell? ⟨(ad.add (k * 3)).block, (ad.add (k * 3)).off + 2, none⟩ = some (.int .i64 d[k].2.2) from fun W hW k hk => by
    obtain ⟨a', e, _, h0, h1, h2⟩ := edge_get hL hnd.symm k hk
    cases e
    exact ⟨(cell_blk (by rw [blk_add]; exact hW)).trans h0, (cell_blk (by show W.heap[(ad.add (k * 3)).block]? = _; rw [blk_add]; exact hW)).trans h1, (cell_blk (by show W.heap[(ad.add (k * 3)).block]? = _; rw [blk_add]; exact hW)).trans h2⟩)
  have GL := Lib.hid (show 0 < nd → ad.block < w1.heap.size from fun h => by
    obtain ⟨a', e, hb, _⟩ := edge_get hL hnd.symm 0 (by omega)
    cases e; exact hb)
  have K1 := Lib.hid (K0.out.on b1)
  have B1 := Lib.hid (below_step B0.out b1)
  have W1 := Lib.hid (show w.heap.size + 1 ≤ w1.heap.size by have := b1.size; simpa using this)
  clear hp hs hL hnd b1 S0 T0 K0 B0 hgb
  obtain ⟨ans, hans⟩ : ∃ ans, Ss.sw kf d 0 0 false 0 [] = ans := ⟨_, rfl⟩
  have AN := Lib.hid hans
  clear hans
  have O1 := Lib.hid (World.ownsRow_nil w1 w1.heap.size 32 2)
  go_wp2_with fail
  go_loopw [7, 9, 10, 21] (fun u7 u9 u10 u21 wr => ∃ (i : Nat) (o0 o1 fr : Int) (ks : Bool) (set : List Ss.S), i ≤ nd ∧ u9 = .int .i64 fr ∧ u10 = .bool ks ∧ u21 = .int .i64 i ∧ (-(i : Int) ≤ o0 ∧ o0 ≤ i ∧ -(i : Int) ≤ o1 ∧ o1 ≤ i) ∧ Hid (Blk wr w.heap.size 123 #[.int .i64 o0, .int .i64 o1]) ∧ Hid (wr.ownsRow w1.heap.size 32 2 u7 set.length (spc set)) ∧ Hid (set.length ≤ i) ∧ Hid (Ss.sw kf (d.drop i) o0 o1 ks fr set = ans) ∧ Hid (wr.heap[ad.block]? = w1.heap[ad.block]?) ∧ Hid (Below w.heap.size w wr ∧ w1.heap.size ≤ wr.heap.size)) (fun _ _ _ u21 _ => nd - (intOf u21).toNat)
  case atStart => exact ⟨0, 0, 0, 0, false, [], Nat.zero_le _, rfl, rfl, rfl, by omega, K1, O1, Lib.hid (Nat.le_refl _), AN, Lib.hid rfl, Lib.hid ⟨B1.out, Nat.le_refl _⟩⟩
  case round =>
    rename World => w2
    obtain ⟨i, o0, o1, fr, ks, set, hi2, rfl, rfl, rfl, hob, K2, O2, Z2, N2, L2, B2⟩ := hrel
    by_cases hlt : i < nd
    · have hil : i < d.length := by rw [HD.out]; exact hlt
      obtain ⟨g1, g2, g3⟩ := CE.out w2 L2.out i hil
      have hst' := hst.out d[i] (List.getElem_mem hil)
      have hsw := N2.out
      rw [List.drop_eq_getElem_cons hil] at hsw
      have hnx := Lib.hid (show ∀ (h : i + 1 < d.length), Ss.same d[i].1 (d.drop (i + 1)) = (d[i + 1].1 == d[i].1) from fun h => by rw [List.drop_eq_getElem_cons h]; rfl)
      have hnx0 := Lib.hid (show ¬ i + 1 < d.length → Ss.same d[i].1 (d.drop (i + 1)) = false from fun h => by rw [List.drop_of_length_le (by omega)]; rfl)
      have CX := Lib.hid (fun (W : World) (hW : W.heap[ad.block]? = w1.heap[ad.block]?) (h : i + 1 < d.length) => (CE.out W hW (i + 1) h).1)
      generalize hpp : d[i] = pp at *
      obtain ⟨x, li, st⟩ := pp
      simp only at g1 g2 g3 hst' hnx hnx0
      clear hpp
      obtain ⟨hli, hstp⟩ := hst'
      have SW := Lib.hid hsw
      have i1 : (i : Int) < nd := by omega
      have s0 : -1 ≤ st := by omega
      have s1 : st ≤ 1 := by omega
      obtain ⟨j0, j1, j2, j3⟩ := hob
      clear hsw N2 hstp
      have P3 := Lib.hid (Blk.new w2 128 #[.int .i64 x, .int .i64 li, .int .i64 st])
      have K3 := Lib.hid (K2.out.alloc (.cells #[.int .i64 x, .int .i64 li, .int .i64 st] 128))
      have O3 := Lib.hid (O2.out.alloc (.cells #[.int .i64 x, .int .i64 li, .int .i64 st] 128))
      have B3 := Lib.hid (show Below w.heap.size w (w2.alloc (.cells #[.int .i64 x, .int .i64 li, .int .i64 st] 128)) ∧ w1.heap.size + 1 ≤ (w2.alloc (.cells #[.int .i64 x, .int .i64 li, .int .i64 st] 128)).heap.size from ⟨B2.out.1.alloc B2.out.1.size _, by simp; exact B2.out.2⟩)
      have hgl := GL.out (by omega)
      have L3 := Lib.hid (show (w2.alloc (.cells #[.int .i64 x, .int .i64 li, .int .i64 st] 128)).heap[ad.block]? = w1.heap[ad.block]? from ((World.grownBy_alloc w2 _ none).block ad.block (Nat.lt_of_lt_of_le hgl B2.out.2) (by simp)).trans L2.out)
      have E3 := Lib.hid (show w1.heap.size ≤ w2.heap.size from B2.out.2)
      clear hgl
      go_wp2_with fail
      have hw2 : w.heap.size < w2.heap.size := K2.out.lt
      generalize hW : w2.alloc (.cells #[.int .i64 x, .int .i64 li, .int .i64 st] 128) = w3 at *
      have hne : ¬ w2.heap.size = w.heap.size := by omega
      have hne2 : ¬ w.heap.size = w2.heap.size := by omega
      clear hW K2 O2 L2 B2 g1 g2 g3
      have p0 := P3.out.c0; have p1 := P3.out.c1; have p2 := P3.out.c2
      have c0 := K3.out.c0; have c1 := K3.out.c1
      have f0 := K3.out.frozen 0; have f1 := K3.out.frozen 1
      generalize heb : w2.heap.size = eb at *
      clear heb hw2
      rcases hli with rfl | rfl
      · obtain ⟨n0, hn0⟩ : ∃ n0, o0 + st = n0 := ⟨_, rfl⟩
        have q0 : -4001 ≤ n0 := by omega
        have q1 : n0 ≤ 4001 := by omega
        have hq0 : -((i + 1 : Nat) : Int) ≤ n0 := by omega
        have hq1 : n0 ≤ ((i + 1 : Nat) : Int) := by omega
        go_big_region
        have NN := Lib.hid hn0
        clear hn0
        obtain ⟨k4, gr⟩ := set_two0 (u := .int .i64 n0) K3.out
        have K4 := Lib.hid k4
        have P4 := Lib.hid (P3.out.kept gr (by simpa using hne))
        have O4 := Lib.hid (O3.out.kept gr (by right; intro e; have := (O3.out.lt _ e).1; have := W1.out; omega))
        have B4 := Lib.hid (And.intro (B3.out.1.trans (below_grown gr (by have := B3.out.1.size; omega) (fun g hg => by cases hg; exact Nat.le_refl _))) (Nat.le_trans B3.out.2 gr.size))
        have L4 := Lib.hid ((gr.block ad.block (by have := GL.out (by omega); have := B3.out.2; omega) (by intro e; have := Option.some.inj e; have := G1.out; omega)).trans L3.out)
        clear k4 gr p0 p1 p2 c0 c1 f0 f1
        generalize (w3.setCell ⟨w.heap.size, 0, none⟩ (.int .i64 n0)).drew = w4 at *
        clear P3 K3 O3 B3 L3
        have p0 := P4.out.c0
        have c0 := K4.out.c0; have c1 := K4.out.c1
        by_cases hn1 : i + 1 < nd
        · have hn1' : i + 1 < d.length := by rw [HD.out]; exact hn1
          have gx := CX.out w4 L4.out hn1'
          have hsm := hnx.out hn1'
          generalize d[i + 1].1 = x2 at *
          have e1 : ((i : Int) + 1) < nd := by omega
          have e2 : (0 : Int) ≤ (i : Int) + 1 := by omega
          have ei : i ≤ 4000 := by omega
          by_cases hx : x2 = x
          · have t1 : (x2 == x) = true := by rw [hx]; simp
            have SM := Lib.hid (show Ss.same x (d.drop (i + 1)) = true by rw [hsm]; exact t1)
            clear hsm hx
            go_wp2
            go_quiet (fail)
            go_wp2
            go_roundw
            case rel =>
              refine ⟨i + 1, n0, o1, fr, ks, set, by omega, rfl, rfl, by go_num, by omega, Lib.hid K4.out, Lib.hid O4.out, Lib.hid (by have := Z2.out; omega), Lib.hid ?_, Lib.hid L4.out, Lib.hid ⟨B4.out.1.trans (below_draw w4 _), Nat.le_trans (by have := B4.out.2; omega) (below_draw w4 _ : Below w4.heap.size w4 _).size⟩⟩
              have := SW.out
              rw [Ss.sw_same SM.out] at this
              simpa [NN.out] using this
            case measure => simp [intOf]; omega
          · have t1 : (x2 == x) = false := by rw [beq_eq_false_iff_ne]; exact hx
            clear hx
            have hsf : Ss.same x (d.drop (i + 1)) = false := by rw [hsm]; exact t1
            have SF := Lib.hid hsf
            clear hsf
            go_wp2
            go_quiet (fail)
            go_wp2_with fail
            refine (HK.out _ _ _).mono ?_
            rintro e w5 ⟨rfl, rfl⟩
            generalize hW : World.drewN w4 _ = w5
            have b5 : Below w4.heap.size w4 w5 := by rw [← hW]; exact below_draw _ _
            have K5 := Lib.hid (K4.out.on b5)
            have P5 := Lib.hid (P4.out.on b5)
            have O5 := Lib.hid (own_on O4.out b5)
            have L5 := Lib.hid ((b5.block ad.block (by have := GL.out (by omega); have := B4.out.2; omega)).trans L4.out)
            have B5 := Lib.hid (And.intro (below_step B4.out.1 b5) (Nat.le_trans B4.out.2 b5.size))
            clear hW b5 K4 P4 O4 L4 B4 p0 c0 c1
            have p0 := P5.out.c0
            obtain ⟨kp, hkp⟩ : ∃ kp, kf (decide (0 < n0)) (decide (0 < o1)) = kp := ⟨_, rfl⟩
            have SD := Lib.hid (show Ss.sw kf (d.drop (i + 1)) n0 o1 kp (if kp && !ks then x else fr) (if ks && !kp then set ++ [(fr, x)] else set) = ans by
              have := SW.out
              rw [Ss.sw_diff SF.out (k := kp) (by simpa [NN.out] using hkp)] at this
              simpa [NN.out] using this)
            rw [hkp]
            clear hkp SW SF
            have hsz : set.length ≤ 4000 := Nat.le_trans Z2.out ei
            have ho : -((i + 1 : Nat) : Int) ≤ n0 ∧ n0 ≤ ((i + 1 : Nat) : Int) ∧ -((i + 1 : Nat) : Int) ≤ o1 ∧ o1 ≤ ((i + 1 : Nat) : Int) := by omega
            have HO := Lib.hid ho
            clear ho j0 j1 j2 j3 q0 q1 hq0 hq1
            cases kp <;> cases ks
            · simp only [Bool.not_false, Bool.not_true, Bool.and_true, Bool.and_false, Bool.false_eq_true, if_false, if_true, Bool.true_and, Bool.false_and] at SD
              go_wp2
              go_roundw
              case rel => exact ⟨i + 1, n0, o1, fr, false, set, by omega, rfl, rfl, by go_num, HO.out, K5, O5, Lib.hid (by have := Z2.out; omega), SD, L5, Lib.hid ⟨B5.out.1, by have := B5.out.2; omega⟩⟩
              case measure => simp [intOf]; omega
            · simp only [Bool.not_false, Bool.not_true, Bool.and_true, Bool.and_false, Bool.false_eq_true, if_false, if_true, Bool.true_and, Bool.false_and] at SD
              go_wp2_with (at_builtin; refine wpList_append_own _ rfl _ _ 57 rfl w1.heap.size 32 i0 (.agg #[.int .i64 0, .int .i64 0]) 2 16 Try.underlying57 hi hz0 hz1 hz2 rfl (by decide) _ _ _ rfl (O5.out.alloc _) ⟨w5.heap.size, 0, none⟩ 1 1 [.int .i64 fr, .int .i64 x] rfl rfl (two_cells9 (by simp [go_sem]) (by simp [go_sem])) (by intro u hu; simp at hu; rcases hu with rfl | rfl <;> rfl) (by unfold maxLen; omega) (by omega) (by have := B5.out.2; simp; omega) ?_)
              intro v6 w6 own6 grow6 nil6
              clear nil6
              have B6 := Lib.hid (show Below w.heap.size w w6 ∧ w1.heap.size + 1 ≤ w6.heap.size from ⟨(B5.out.1.alloc B5.out.1.size _).trans (below_grown grow6 (by have := B5.out.1.size; simp; omega) (fun g hg => by have := (O5.out.lt g hg).1; have := W1.out; omega)), by have g := grow6.size; simp at g; have := B5.out.2; omega⟩)
              have K6 := Lib.hid ((K5.out.alloc _).kept grow6 (by intro e; have := (O5.out.lt _ e.symm).1; have := W1.out; omega))
              have L6 := Lib.hid ((grow6.block ad.block (by have := GL.out (by omega); have := B5.out.2; simp; omega) (by intro e; have := (O5.out.lt _ e.symm).1; have := GL.out (by omega); omega)).trans (((World.grownBy_alloc w5 _ none).block ad.block (by have := GL.out (by omega); have := B5.out.2; omega) (by simp)).trans L5.out))
              have O6 := Lib.hid own6
              clear own6 grow6 O5 B5 K5 P5 L5 p0
              go_wp2
              go_roundw
              case rel => exact ⟨i + 1, n0, o1, fr, false, set ++ [(fr, x)], by omega, rfl, rfl, by go_num, HO.out, K6, Lib.hid (by simpa [spc] using O6.out), Lib.hid (by have := Z2.out; simp; omega), SD, L6, Lib.hid ⟨B6.out.1, by have := B6.out.2; omega⟩⟩
              case measure => simp [intOf]; omega
            · simp only [Bool.not_false, Bool.not_true, Bool.and_true, Bool.and_false, Bool.false_eq_true, if_false, if_true, Bool.true_and, Bool.false_and] at SD
              go_wp2
              go_roundw
              case rel => exact ⟨i + 1, n0, o1, x, true, set, by omega, rfl, rfl, by go_num, HO.out, K5, O5, Lib.hid (by have := Z2.out; omega), SD, L5, Lib.hid ⟨B5.out.1, by have := B5.out.2; omega⟩⟩
              case measure => simp [intOf]; omega
            · simp only [Bool.not_false, Bool.not_true, Bool.and_true, Bool.and_false, Bool.false_eq_true, if_false, if_true, Bool.true_and, Bool.false_and] at SD
              go_wp2
              go_roundw
              case rel => exact ⟨i + 1, n0, o1, fr, true, set, by omega, rfl, rfl, by go_num, HO.out, K5, O5, Lib.hid (by have := Z2.out; omega), SD, L5, Lib.hid ⟨B5.out.1, by have := B5.out.2; omega⟩⟩
              case measure => simp [intOf]; omega
        · have e1 : decide (((i : Int) + 1) < (nd : Int)) = false := decide_eq_false (by omega)
          have ei : i ≤ 4000 := by omega
          have hsf : Ss.same x (d.drop (i + 1)) = false := hnx0.out (by rw [HD.out]; exact hn1)
          have SF := Lib.hid hsf
          clear hsf
          go_wp2
          go_quiet (fail)
          go_wp2_with fail
          refine (HK.out _ _ _).mono ?_
          rintro e w5 ⟨rfl, rfl⟩
          generalize hW : World.drewN w4 _ = w5
          have b5 : Below w4.heap.size w4 w5 := by rw [← hW]; exact below_draw _ _
          have K5 := Lib.hid (K4.out.on b5)
          have P5 := Lib.hid (P4.out.on b5)
          have O5 := Lib.hid (own_on O4.out b5)
          have L5 := Lib.hid ((b5.block ad.block (by have := GL.out (by omega); have := B4.out.2; omega)).trans L4.out)
          have B5 := Lib.hid (And.intro (below_step B4.out.1 b5) (Nat.le_trans B4.out.2 b5.size))
          clear hW b5 K4 P4 O4 L4 B4 p0 c0 c1
          have p0 := P5.out.c0
          obtain ⟨kp, hkp⟩ : ∃ kp, kf (decide (0 < n0)) (decide (0 < o1)) = kp := ⟨_, rfl⟩
          have SD := Lib.hid (show Ss.sw kf (d.drop (i + 1)) n0 o1 kp (if kp && !ks then x else fr) (if ks && !kp then set ++ [(fr, x)] else set) = ans by
            have := SW.out
            rw [Ss.sw_diff SF.out (k := kp) (by simpa [NN.out] using hkp)] at this
            simpa [NN.out] using this)
          rw [hkp]
          clear hkp SW SF
          have hsz : set.length ≤ 4000 := Nat.le_trans Z2.out ei
          have ho : -((i + 1 : Nat) : Int) ≤ n0 ∧ n0 ≤ ((i + 1 : Nat) : Int) ∧ -((i + 1 : Nat) : Int) ≤ o1 ∧ o1 ≤ ((i + 1 : Nat) : Int) := by omega
          have HO := Lib.hid ho
          clear ho j0 j1 j2 j3 q0 q1 hq0 hq1
          cases kp <;> cases ks
          · simp only [Bool.not_false, Bool.not_true, Bool.and_true, Bool.and_false, Bool.false_eq_true, if_false, if_true, Bool.true_and, Bool.false_and] at SD
            go_wp2
            go_roundw
            case rel => exact ⟨i + 1, n0, o1, fr, false, set, by omega, rfl, rfl, by go_num, HO.out, K5, O5, Lib.hid (by have := Z2.out; omega), SD, L5, Lib.hid ⟨B5.out.1, by have := B5.out.2; omega⟩⟩
            case measure => simp [intOf]; omega
          · simp only [Bool.not_false, Bool.not_true, Bool.and_true, Bool.and_false, Bool.false_eq_true, if_false, if_true, Bool.true_and, Bool.false_and] at SD
            go_wp2_with (at_builtin; refine wpList_append_own _ rfl _ _ 57 rfl w1.heap.size 32 i0 (.agg #[.int .i64 0, .int .i64 0]) 2 16 Try.underlying57 hi hz0 hz1 hz2 rfl (by decide) _ _ _ rfl (O5.out.alloc _) ⟨w5.heap.size, 0, none⟩ 1 1 [.int .i64 fr, .int .i64 x] rfl rfl (two_cells9 (by simp [go_sem]) (by simp [go_sem])) (by intro u hu; simp at hu; rcases hu with rfl | rfl <;> rfl) (by unfold maxLen; omega) (by omega) (by have := B5.out.2; simp; omega) ?_)
            intro v6 w6 own6 grow6 nil6
            clear nil6
            have B6 := Lib.hid (show Below w.heap.size w w6 ∧ w1.heap.size + 1 ≤ w6.heap.size from ⟨(B5.out.1.alloc B5.out.1.size _).trans (below_grown grow6 (by have := B5.out.1.size; simp; omega) (fun g hg => by have := (O5.out.lt g hg).1; have := W1.out; omega)), by have g := grow6.size; simp at g; have := B5.out.2; omega⟩)
            have K6 := Lib.hid ((K5.out.alloc _).kept grow6 (by intro e; have := (O5.out.lt _ e.symm).1; have := W1.out; omega))
            have L6 := Lib.hid ((grow6.block ad.block (by have := GL.out (by omega); have := B5.out.2; simp; omega) (by intro e; have := (O5.out.lt _ e.symm).1; have := GL.out (by omega); omega)).trans (((World.grownBy_alloc w5 _ none).block ad.block (by have := GL.out (by omega); have := B5.out.2; omega) (by simp)).trans L5.out))
            have O6 := Lib.hid own6
            clear own6 grow6 O5 B5 K5 P5 L5 p0
            go_wp2
            go_roundw
            case rel => exact ⟨i + 1, n0, o1, fr, false, set ++ [(fr, x)], by omega, rfl, rfl, by go_num, HO.out, K6, Lib.hid (by simpa [spc] using O6.out), Lib.hid (by have := Z2.out; simp; omega), SD, L6, Lib.hid ⟨B6.out.1, by have := B6.out.2; omega⟩⟩
            case measure => simp [intOf]; omega
          · simp only [Bool.not_false, Bool.not_true, Bool.and_true, Bool.and_false, Bool.false_eq_true, if_false, if_true, Bool.true_and, Bool.false_and] at SD
            go_wp2
            go_roundw
            case rel => exact ⟨i + 1, n0, o1, x, true, set, by omega, rfl, rfl, by go_num, HO.out, K5, O5, Lib.hid (by have := Z2.out; omega), SD, L5, Lib.hid ⟨B5.out.1, by have := B5.out.2; omega⟩⟩
            case measure => simp [intOf]; omega
          · simp only [Bool.not_false, Bool.not_true, Bool.and_true, Bool.and_false, Bool.false_eq_true, if_false, if_true, Bool.true_and, Bool.false_and] at SD
            go_wp2
            go_roundw
            case rel => exact ⟨i + 1, n0, o1, fr, true, set, by omega, rfl, rfl, by go_num, HO.out, K5, O5, Lib.hid (by have := Z2.out; omega), SD, L5, Lib.hid ⟨B5.out.1, by have := B5.out.2; omega⟩⟩
            case measure => simp [intOf]; omega
      · obtain ⟨n0, hn0⟩ : ∃ n0, o1 + st = n0 := ⟨_, rfl⟩
        have q0 : -4001 ≤ n0 := by omega
        have q1 : n0 ≤ 4001 := by omega
        have hq0 : -((i + 1 : Nat) : Int) ≤ n0 := by omega
        have hq1 : n0 ≤ ((i + 1 : Nat) : Int) := by omega
        go_big_region
        have NN := Lib.hid hn0
        clear hn0
        obtain ⟨k4, gr⟩ := set_two1 (u := .int .i64 n0) K3.out
        have K4 := Lib.hid k4
        have P4 := Lib.hid (P3.out.kept gr (by simpa using hne))
        have O4 := Lib.hid (O3.out.kept gr (by right; intro e; have := (O3.out.lt _ e).1; have := W1.out; omega))
        have B4 := Lib.hid (And.intro (B3.out.1.trans (below_grown gr (by have := B3.out.1.size; omega) (fun g hg => by cases hg; exact Nat.le_refl _))) (Nat.le_trans B3.out.2 gr.size))
        have L4 := Lib.hid ((gr.block ad.block (by have := GL.out (by omega); have := B3.out.2; omega) (by intro e; have := Option.some.inj e; have := G1.out; omega)).trans L3.out)
        clear k4 gr p0 p1 p2 c0 c1 f0 f1
        generalize (w3.setCell ⟨w.heap.size, 1, none⟩ (.int .i64 n0)).drew = w4 at *
        clear P3 K3 O3 B3 L3
        have p0 := P4.out.c0
        have c0 := K4.out.c0; have c1 := K4.out.c1
        by_cases hn1 : i + 1 < nd
        · have hn1' : i + 1 < d.length := by rw [HD.out]; exact hn1
          have gx := CX.out w4 L4.out hn1'
          have hsm := hnx.out hn1'
          generalize d[i + 1].1 = x2 at *
          have e1 : ((i : Int) + 1) < nd := by omega
          have e2 : (0 : Int) ≤ (i : Int) + 1 := by omega
          have ei : i ≤ 4000 := by omega
          by_cases hx : x2 = x
          · have t1 : (x2 == x) = true := by rw [hx]; simp
            have SM := Lib.hid (show Ss.same x (d.drop (i + 1)) = true by rw [hsm]; exact t1)
            clear hsm hx
            go_wp2
            go_quiet (fail)
            go_wp2
            go_roundw
            case rel =>
              refine ⟨i + 1, o0, n0, fr, ks, set, by omega, rfl, rfl, by go_num, by omega, Lib.hid K4.out, Lib.hid O4.out, Lib.hid (by have := Z2.out; omega), Lib.hid ?_, Lib.hid L4.out, Lib.hid ⟨B4.out.1.trans (below_draw w4 _), Nat.le_trans (by have := B4.out.2; omega) (below_draw w4 _ : Below w4.heap.size w4 _).size⟩⟩
              have := SW.out
              rw [Ss.sw_same SM.out] at this
              simpa [NN.out] using this
            case measure => simp [intOf]; omega
          · have t1 : (x2 == x) = false := by rw [beq_eq_false_iff_ne]; exact hx
            clear hx
            have hsf : Ss.same x (d.drop (i + 1)) = false := by rw [hsm]; exact t1
            have SF := Lib.hid hsf
            clear hsf
            go_wp2
            go_quiet (fail)
            go_wp2_with fail
            refine (HK.out _ _ _).mono ?_
            rintro e w5 ⟨rfl, rfl⟩
            generalize hW : World.drewN w4 _ = w5
            have b5 : Below w4.heap.size w4 w5 := by rw [← hW]; exact below_draw _ _
            have K5 := Lib.hid (K4.out.on b5)
            have P5 := Lib.hid (P4.out.on b5)
            have O5 := Lib.hid (own_on O4.out b5)
            have L5 := Lib.hid ((b5.block ad.block (by have := GL.out (by omega); have := B4.out.2; omega)).trans L4.out)
            have B5 := Lib.hid (And.intro (below_step B4.out.1 b5) (Nat.le_trans B4.out.2 b5.size))
            clear hW b5 K4 P4 O4 L4 B4 p0 c0 c1
            have p0 := P5.out.c0
            obtain ⟨kp, hkp⟩ : ∃ kp, kf (decide (0 < o0)) (decide (0 < n0)) = kp := ⟨_, rfl⟩
            have SD := Lib.hid (show Ss.sw kf (d.drop (i + 1)) o0 n0 kp (if kp && !ks then x else fr) (if ks && !kp then set ++ [(fr, x)] else set) = ans by
              have := SW.out
              rw [Ss.sw_diff SF.out (k := kp) (by simpa [NN.out] using hkp)] at this
              simpa [NN.out] using this)
            rw [hkp]
            clear hkp SW SF
            have hsz : set.length ≤ 4000 := Nat.le_trans Z2.out ei
            have ho : -((i + 1 : Nat) : Int) ≤ o0 ∧ o0 ≤ ((i + 1 : Nat) : Int) ∧ -((i + 1 : Nat) : Int) ≤ n0 ∧ n0 ≤ ((i + 1 : Nat) : Int) := by omega
            have HO := Lib.hid ho
            clear ho j0 j1 j2 j3 q0 q1 hq0 hq1
            cases kp <;> cases ks
            · simp only [Bool.not_false, Bool.not_true, Bool.and_true, Bool.and_false, Bool.false_eq_true, if_false, if_true, Bool.true_and, Bool.false_and] at SD
              go_wp2
              go_roundw
              case rel => exact ⟨i + 1, o0, n0, fr, false, set, by omega, rfl, rfl, by go_num, HO.out, K5, O5, Lib.hid (by have := Z2.out; omega), SD, L5, Lib.hid ⟨B5.out.1, by have := B5.out.2; omega⟩⟩
              case measure => simp [intOf]; omega
            · simp only [Bool.not_false, Bool.not_true, Bool.and_true, Bool.and_false, Bool.false_eq_true, if_false, if_true, Bool.true_and, Bool.false_and] at SD
              go_wp2_with (at_builtin; refine wpList_append_own _ rfl _ _ 57 rfl w1.heap.size 32 i0 (.agg #[.int .i64 0, .int .i64 0]) 2 16 Try.underlying57 hi hz0 hz1 hz2 rfl (by decide) _ _ _ rfl (O5.out.alloc _) ⟨w5.heap.size, 0, none⟩ 1 1 [.int .i64 fr, .int .i64 x] rfl rfl (two_cells9 (by simp [go_sem]) (by simp [go_sem])) (by intro u hu; simp at hu; rcases hu with rfl | rfl <;> rfl) (by unfold maxLen; omega) (by omega) (by have := B5.out.2; simp; omega) ?_)
              intro v6 w6 own6 grow6 nil6
              clear nil6
              have B6 := Lib.hid (show Below w.heap.size w w6 ∧ w1.heap.size + 1 ≤ w6.heap.size from ⟨(B5.out.1.alloc B5.out.1.size _).trans (below_grown grow6 (by have := B5.out.1.size; simp; omega) (fun g hg => by have := (O5.out.lt g hg).1; have := W1.out; omega)), by have g := grow6.size; simp at g; have := B5.out.2; omega⟩)
              have K6 := Lib.hid ((K5.out.alloc _).kept grow6 (by intro e; have := (O5.out.lt _ e.symm).1; have := W1.out; omega))
              have L6 := Lib.hid ((grow6.block ad.block (by have := GL.out (by omega); have := B5.out.2; simp; omega) (by intro e; have := (O5.out.lt _ e.symm).1; have := GL.out (by omega); omega)).trans (((World.grownBy_alloc w5 _ none).block ad.block (by have := GL.out (by omega); have := B5.out.2; omega) (by simp)).trans L5.out))
              have O6 := Lib.hid own6
              clear own6 grow6 O5 B5 K5 P5 L5 p0
              go_wp2
              go_roundw
              case rel => exact ⟨i + 1, o0, n0, fr, false, set ++ [(fr, x)], by omega, rfl, rfl, by go_num, HO.out, K6, Lib.hid (by simpa [spc] using O6.out), Lib.hid (by have := Z2.out; simp; omega), SD, L6, Lib.hid ⟨B6.out.1, by have := B6.out.2; omega⟩⟩
              case measure => simp [intOf]; omega
            · simp only [Bool.not_false, Bool.not_true, Bool.and_true, Bool.and_false, Bool.false_eq_true, if_false, if_true, Bool.true_and, Bool.false_and] at SD
              go_wp2
              go_roundw
              case rel => exact ⟨i + 1, o0, n0, x, true, set, by omega, rfl, rfl, by go_num, HO.out, K5, O5, Lib.hid (by have := Z2.out; omega), SD, L5, Lib.hid ⟨B5.out.1, by have := B5.out.2; omega⟩⟩
              case measure => simp [intOf]; omega
            · simp only [Bool.not_false, Bool.not_true, Bool.and_true, Bool.and_false, Bool.false_eq_true, if_false, if_true, Bool.true_and, Bool.false_and] at SD
              go_wp2
              go_roundw
              case rel => exact ⟨i + 1, o0, n0, fr, true, set, by omega, rfl, rfl, by go_num, HO.out, K5, O5, Lib.hid (by have := Z2.out; omega), SD, L5, Lib.hid ⟨B5.out.1, by have := B5.out.2; omega⟩⟩
              case measure => simp [intOf]; omega
        · have e1 : decide (((i : Int) + 1) < (nd : Int)) = false := decide_eq_false (by omega)
          have ei : i ≤ 4000 := by omega
          have hsf : Ss.same x (d.drop (i + 1)) = false := hnx0.out (by rw [HD.out]; exact hn1)
          have SF := Lib.hid hsf
          clear hsf
          go_wp2
          go_quiet (fail)
          go_wp2_with fail
          refine (HK.out _ _ _).mono ?_
          rintro e w5 ⟨rfl, rfl⟩
          generalize hW : World.drewN w4 _ = w5
          have b5 : Below w4.heap.size w4 w5 := by rw [← hW]; exact below_draw _ _
          have K5 := Lib.hid (K4.out.on b5)
          have P5 := Lib.hid (P4.out.on b5)
          have O5 := Lib.hid (own_on O4.out b5)
          have L5 := Lib.hid ((b5.block ad.block (by have := GL.out (by omega); have := B4.out.2; omega)).trans L4.out)
          have B5 := Lib.hid (And.intro (below_step B4.out.1 b5) (Nat.le_trans B4.out.2 b5.size))
          clear hW b5 K4 P4 O4 L4 B4 p0 c0 c1
          have p0 := P5.out.c0
          obtain ⟨kp, hkp⟩ : ∃ kp, kf (decide (0 < o0)) (decide (0 < n0)) = kp := ⟨_, rfl⟩
          have SD := Lib.hid (show Ss.sw kf (d.drop (i + 1)) o0 n0 kp (if kp && !ks then x else fr) (if ks && !kp then set ++ [(fr, x)] else set) = ans by
            have := SW.out
            rw [Ss.sw_diff SF.out (k := kp) (by simpa [NN.out] using hkp)] at this
            simpa [NN.out] using this)
          rw [hkp]
          clear hkp SW SF
          have hsz : set.length ≤ 4000 := Nat.le_trans Z2.out ei
          have ho : -((i + 1 : Nat) : Int) ≤ o0 ∧ o0 ≤ ((i + 1 : Nat) : Int) ∧ -((i + 1 : Nat) : Int) ≤ n0 ∧ n0 ≤ ((i + 1 : Nat) : Int) := by omega
          have HO := Lib.hid ho
          clear ho j0 j1 j2 j3 q0 q1 hq0 hq1
          cases kp <;> cases ks
          · simp only [Bool.not_false, Bool.not_true, Bool.and_true, Bool.and_false, Bool.false_eq_true, if_false, if_true, Bool.true_and, Bool.false_and] at SD
            go_wp2
            go_roundw
            case rel => exact ⟨i + 1, o0, n0, fr, false, set, by omega, rfl, rfl, by go_num, HO.out, K5, O5, Lib.hid (by have := Z2.out; omega), SD, L5, Lib.hid ⟨B5.out.1, by have := B5.out.2; omega⟩⟩
            case measure => simp [intOf]; omega
          · simp only [Bool.not_false, Bool.not_true, Bool.and_true, Bool.and_false, Bool.false_eq_true, if_false, if_true, Bool.true_and, Bool.false_and] at SD
            go_wp2_with (at_builtin; refine wpList_append_own _ rfl _ _ 57 rfl w1.heap.size 32 i0 (.agg #[.int .i64 0, .int .i64 0]) 2 16 Try.underlying57 hi hz0 hz1 hz2 rfl (by decide) _ _ _ rfl (O5.out.alloc _) ⟨w5.heap.size, 0, none⟩ 1 1 [.int .i64 fr, .int .i64 x] rfl rfl (two_cells9 (by simp [go_sem]) (by simp [go_sem])) (by intro u hu; simp at hu; rcases hu with rfl | rfl <;> rfl) (by unfold maxLen; omega) (by omega) (by have := B5.out.2; simp; omega) ?_)
            intro v6 w6 own6 grow6 nil6
            clear nil6
            have B6 := Lib.hid (show Below w.heap.size w w6 ∧ w1.heap.size + 1 ≤ w6.heap.size from ⟨(B5.out.1.alloc B5.out.1.size _).trans (below_grown grow6 (by have := B5.out.1.size; simp; omega) (fun g hg => by have := (O5.out.lt g hg).1; have := W1.out; omega)), by have g := grow6.size; simp at g; have := B5.out.2; omega⟩)
            have K6 := Lib.hid ((K5.out.alloc _).kept grow6 (by intro e; have := (O5.out.lt _ e.symm).1; have := W1.out; omega))
            have L6 := Lib.hid ((grow6.block ad.block (by have := GL.out (by omega); have := B5.out.2; simp; omega) (by intro e; have := (O5.out.lt _ e.symm).1; have := GL.out (by omega); omega)).trans (((World.grownBy_alloc w5 _ none).block ad.block (by have := GL.out (by omega); have := B5.out.2; omega) (by simp)).trans L5.out))
            have O6 := Lib.hid own6
            clear own6 grow6 O5 B5 K5 P5 L5 p0
            go_wp2
            go_roundw
            case rel => exact ⟨i + 1, o0, n0, fr, false, set ++ [(fr, x)], by omega, rfl, rfl, by go_num, HO.out, K6, Lib.hid (by simpa [spc] using O6.out), Lib.hid (by have := Z2.out; simp; omega), SD, L6, Lib.hid ⟨B6.out.1, by have := B6.out.2; omega⟩⟩
            case measure => simp [intOf]; omega
          · simp only [Bool.not_false, Bool.not_true, Bool.and_true, Bool.and_false, Bool.false_eq_true, if_false, if_true, Bool.true_and, Bool.false_and] at SD
            go_wp2
            go_roundw
            case rel => exact ⟨i + 1, o0, n0, x, true, set, by omega, rfl, rfl, by go_num, HO.out, K5, O5, Lib.hid (by have := Z2.out; omega), SD, L5, Lib.hid ⟨B5.out.1, by have := B5.out.2; omega⟩⟩
            case measure => simp [intOf]; omega
          · simp only [Bool.not_false, Bool.not_true, Bool.and_true, Bool.and_false, Bool.false_eq_true, if_false, if_true, Bool.true_and, Bool.false_and] at SD
            go_wp2
            go_roundw
            case rel => exact ⟨i + 1, o0, n0, fr, true, set, by omega, rfl, rfl, by go_num, HO.out, K5, O5, Lib.hid (by have := Z2.out; omega), SD, L5, Lib.hid ⟨B5.out.1, by have := B5.out.2; omega⟩⟩
            case measure => simp [intOf]; omega
    · have hin : i = nd := by omega
      have EA := Lib.hid (show set = ans by have := N2.out; rw [List.drop_of_length_le (by rw [HD.out]; omega)] at this; exact this)
      have hz : set.length ≤ nd := by have := Z2.out; omega
      have ZZ := Lib.hid hz
      clear hz hin
      go_wp2
      go_ret
      refine ⟨_, set, rfl, SpV.own O2.out, ?_⟩
      have hr := Ss.sw_set kf (by rw [HF.out]; rfl) a b d D.out.1 D.out.2
      rw [AN.out, ← EA.out] at hr
      refine ⟨hr.1, fun t => by rw [hr.2 t, HF.out], ?_, B2.out.1, cap_own O2.out⟩
      have h1 := D.out.1.length_eq
      have h2 := Ss.all_len a b
      have := ZZ.out; have := HD.out; omega
theorem sweep_Less (va vb : Value) (a b : List Ss.S) (w : World) (h : SpV w va a) (k : SpV w vb b) (ha : a.length ≤ 1000) (hb : b.length ≤ 1000) :
    Calls Try.prog 84 #[va, vb, .func (.func 87) #[] #[]] w (AnsK (fun x y => x && !y) a b w) := (sweepc_Less va vb a b w h k ha hb).mono fun _ _ h => h.weak
end Go.Proofs.Ytmnmmbeageddkaa
