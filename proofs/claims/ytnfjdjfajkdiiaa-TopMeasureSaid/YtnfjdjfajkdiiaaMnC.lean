/- Parts: the program's iterator over the parts that count in a span. -/
import Derived.RangeFuncNested
import Derived.RangeFuncBound
import Derived.RangeFuncCalls
import Derived.RangeFuncLeaves
import Derived.Shelf.Abstract
import Derived.Shelf.RegionOpen
import Derived.WalkKit
import Derived.OwnWalkIn
import Derived.TacticsInMore
import Derived.LoopNIn
import Derived.LoopIn
import Derived.Test.YtnfjdjfajkdiiaaMnB
set_option linter.unusedVariables false
set_option linter.unusedSimpArgs false
namespace Go.Proofs.Ytnfjdjfajkdiiaa
open Go.RowKit Go.Sort Go.Shelf

attribute [local go_sem] Oper.semAt_some

/-- What a round keeps: all below n₀, and the span's box. -/
def KpC (n₀ Bs : Nat) (W W' : World) : Prop := Below n₀ W W' ∧ W'.heap[Bs]? = W.heap[Bs]?
theorem KpC.refl (n₀ Bs : Nat) (W : World) : KpC n₀ Bs W W := ⟨Below.refl _ _, rfl⟩
theorem KpC.trans {n₀ Bs : Nat} {A B C : World} (h : KpC n₀ Bs A B) (k : KpC n₀ Bs B C) : KpC n₀ Bs A C := ⟨h.1.trans k.1, k.2.trans h.2⟩
theorem KpC.of {n₀ Bs : Nat} {W W' : World} (hn : n₀ ≤ W.heap.size) (hB : Bs < W.heap.size) (k : Below W.heap.size W W') : KpC n₀ Bs W W' := ⟨k.mono hn, k.block Bs hB⟩
theorem KpC.cell {n₀ Bs : Nat} {W W' : World} (h : KpC n₀ Bs W W') (j : Nat) : W'.cell? ⟨Bs, j, none⟩ = W.cell? ⟨Bs, j, none⟩ := by
  unfold World.cell?
  simp only [h.2]
theorem KpC.putObj {n₀ Bs : Nat} {w : World} (hn : n₀ ≤ w.heap.size) (hB : Bs < w.heap.size) (W : World) (l : Nat) (o o' : Obj) (hl : w.heap.size ≤ l) (h : W.heap[l]? = some o) (h1 : o.isCells = false) (h2 : o.isWalk = false) : KpC n₀ Bs W (W.putObj l o') :=
  ⟨belowK_b hn W l o o' hl h h1 h2, by
    have := (Below.refl (Bs + 1) W).grown (grownBy_putObj' W l o') (by have := (Array.getElem?_eq_some_iff.1 h).1; omega) (fun k e => by cases e; omega)
    exact this.block Bs (by omega)⟩

set_option maxRecDepth 100000 in
set_option maxHeartbeats 4000000 in
theorem counting1_in (n : Nat) (hn : 1 ≤ n) (l' Bl Bs n₀ : Nat) (A : Option Addr) (N c : Nat) (l : List Mn.P) (s0 s1 : Int) (hNl : N = l.length) (hN : N ≤ 1000000) (J Jx : List Mn.P → World → Prop)
    (W : World) (hJ : AbidesFrom W.heap.size J)
    (hY : ∀ pre (x : Mn.P) W1, J pre W1 → pre.length < N → YieldAt Fence.wide (n - 1) Try.prog l' #[.agg #[.int .i64 x.1, .int .i64 x.2.1, .int .i64 x.2.2]] W1 fun e W' =>
      (e = .returned (.bool true) ∧ J (pre ++ [x]) W' ∧ KpC n₀ Bs W1 W') ∨ (e = .returned (.bool false) ∧ Jx (pre ++ [x]) W'))
    (hn₀ : n₀ ≤ W.heap.size) (hBs : Bs < W.heap.size)
    (hl : W.cell? ⟨Bl, 0, none⟩ = some (.slice A N c)) (hs0 : W.cell? ⟨Bs, 0, none⟩ = some (.int .i64 s0)) (hs1 : W.cell? ⟨Bs, 1, none⟩ = some (.int .i64 s1)) (hL : Lst W n₀ (.slice A N c) N (Mn.ptc l)) (h0 : J [] W) :
    CallsIn Fence.wide n Try.prog 53 #[.func (.yield l') #[] #[], .pointer (some ⟨Bl, 0, none⟩), .pointer (some ⟨Bs, 0, none⟩)] W fun e W' => (∃ v, e = .returned v) ∧
      ((∃ ys, ys = Mn.cnt s0 s1 l ∧ J ys W') ∨ (∃ pre, True ∧ Jx pre W')) := by
  have HN := Lib.hid hNl
  clear hNl
  refine callsIn_of_wp Try.func53 rfl trivial ?_ rfl
  simp only [Try.ntmps53, List.size_toArray, List.length_cons, List.length_nil, Nat.reduceAdd, Nat.reduceSub, Array.replicate_succ, Array.replicate_zero, List.push_toArray, List.append_toArray, List.nil_append, List.cons_append]
  gi_wp2
  gi_loopw [10] (fun i wr => ∃ k : Nat, k ≤ N ∧ i = .int .i64 k ∧ Hid (J (Mn.cnt s0 s1 (l.take k)) wr) ∧ Hid (KpC n₀ Bs W wr) ∧ Hid (W.heap.size ≤ wr.heap.size)) (fun i _ => N - (intOf i).toNat)
  case atStart => exact ⟨0, Nat.zero_le _, rfl, Lib.hid h0, Lib.hid (KpC.refl _ _ _), Lib.hid (Nat.le_refl _)⟩
  case round =>
    obtain ⟨k, hk, rfl, hJs, hK, hz⟩ := hrel
    by_cases hlt : k < N
    · have hkl : k < l.length := by rw [← HN.out]; exact hlt
      have hLk : PtV wr (.slice A N c) l := by
        show Lst wr wr.heap.size _ l.length _
        rw [← HN.out]
        exact (hL.below hK.out.1).more (by have := hz.out; omega)
      obtain ⟨a, rfl, hab, g1, g2, g3⟩ := hLk.get k hkl
      have q0 := (hK.out.cell 0).trans hs0
      have q1 := (hK.out.cell 1).trans hs1
      have TK := Lib.hid (Mn.cnt_take s0 s1 l k hkl)
      have hBs' : Bs < wr.heap.size := by have := hz.out; omega
      have hn₀' : n₀ ≤ wr.heap.size := by have := hz.out; omega
      generalize l[k] = p at *
      obtain ⟨x, y, z⟩ := p
      have HY := Lib.hid hY
      have HJ := Lib.hid hJ
      clear hLk hL hY hJ h0 hl hs0 hs1
      have i1 : (k : Int) < N := by omega
      simp only at g1 g2 g3 TK
      gi_wp2_with fail
      refine ⟨trivial, (callsIn_wide.2 (span_both x y s0 s1 _)).mono ?_⟩; rintro e w2 ⟨rfl, b2⟩
      have D2 : Below wr.heap.size wr w2 := below_step ((Below.refl _ _).alloc (Nat.le_refl _) _) b2
      have P2 : Bk3 w2 wr.heap.size (.int .i64 x) (.int .i64 y) (.int .i64 z) := Bk3.of b2 (by simp) (by intro j; simp [go_sem]) (by simp [go_sem]) (by simp [go_sem]) (by simp [go_sem])
      have hJ2 := HJ.out _ wr w2 none hJs.out (grown_below D2 none) (fun r h => by cases h)
      have hK2 := hK.out.trans (KpC.of hn₀' hBs' D2)
      have hz2 := Nat.le_trans hz.out D2.size
      have c2 := P2.k2
      clear b2
      cases hm : Sp.mt x y s0 s1
      · have T := Lib.hid (show Mn.cnt s0 s1 (l.take (k + 1)) = Mn.cnt s0 s1 (l.take k) by rw [TK.out]; unfold Mn.bt; simp only [hm]; simp)
        have hJ3 := Lib.hid (HJ.out _ w2 (w2.alloc (.cells #[.int .i64 0, .int .i64 0] 24)) none hJ2 (grown_below ((Below.refl _ _).alloc (Nat.le_refl _) _) none) (fun r h => by cases h))
        have hK3 := Lib.hid (hK2.trans (KpC.of (Nat.le_trans hn₀' D2.size) (Nat.lt_of_lt_of_le hBs' D2.size) ((Below.refl _ _).alloc (Nat.le_refl _) (.cells #[.int .i64 0, .int .i64 0] 24))))
        have hz3 := Lib.hid hz2
        clear hJ2 hK2 hz2 hm TK P2 D2 g1 g2 g3 q0 q1
        simp only [Sp.bz, if_true, Bool.false_eq_true, if_false]
        gi_wp2
        refine ⟨fun _ h => (by cases h), ?_⟩
        gi_wp2
        go_roundw
        case rel => exact ⟨k + 1, by omega, by simp, by rw [T.out]; exact hJ3, hK3, Lib.hid (by have := hz3.out; simp; omega)⟩
        case measure => simp [intOf]; omega
      · have T := Lib.hid (show Mn.cnt s0 s1 (l.take (k + 1)) = Mn.cnt s0 s1 (l.take k) ++ [(max x s0, min y s1, z)] by rw [TK.out]; unfold Mn.bt; simp only [hm]; simp)
        have hJ3 := (HJ.out _ w2 (w2.alloc (.cells #[.int .i64 (max x s0), .int .i64 (min y s1)] 24)) none hJ2 (grown_below ((Below.refl _ _).alloc (Nat.le_refl _) _) none) (fun r h => by cases h))
        have hK3 := Lib.hid (hK2.trans (KpC.of (Nat.le_trans hn₀' D2.size) (Nat.lt_of_lt_of_le hBs' D2.size) ((Below.refl _ _).alloc (Nat.le_refl _) (.cells #[.int .i64 (max x s0), .int .i64 (min y s1)] 24))))
        have hz3 := Lib.hid hz2
        obtain ⟨fn, tmps, assign, body, hy, hR⟩ := HY.out _ (max x s0, min y s1, z) _ hJ3 (by have := Mn.cnt_len s0 s1 (l.take k); rw [List.length_take] at this; omega)
        have c3 := (((Below.refl w2.heap.size w2).alloc (Nat.le_refl _) (.cells #[.int .i64 (max x s0), .int .i64 (min y s1)] 24)).cell (p := ⟨wr.heap.size, 2, none⟩) P2.hb).trans P2.k2
        clear hJ2 hK2 hz2 hm TK P2 D2 g1 g2 g3 q0 q1 hJ3
        dsimp only at hy
        simp only [Sp.bz, if_true, Bool.false_eq_true, if_false]
        gi_wp2
        refine hR.mono ?_
        rintro e W3 (⟨rfl, hJ4, hk4⟩ | ⟨rfl, hJx4⟩)
        · have hk4 := Lib.hid hk4
          gi_wp2
          go_roundw
          case rel => exact ⟨k + 1, by omega, by simp, by rw [T.out]; exact Lib.hid hJ4, Lib.hid (hK3.out.trans hk4.out), Lib.hid (by have := hz3.out; have := hk4.out.1.size; simp at this; omega)⟩
          case measure => simp [intOf]; omega
        · gi_wp2
          refine bodyPost_ret (results_none rfl _ _ _) rfl ?_
          exact ⟨⟨_, rfl⟩, .inr ⟨_, trivial, hJx4⟩⟩
    · have E := Lib.hid (show l.take k = l from List.take_of_length_le (by rw [← HN.out]; omega))
      gi_wp2
      go_end0
      exact ⟨⟨_, rfl⟩, .inl ⟨_, rfl, by have := hJs.out; rw [E.out] at this; exact this⟩⟩
set_option maxHeartbeats 1000000 in
/-- The iterator's value: the parts and the span are boxed. -/
theorem counting_any (n : Nat) (A : Option Addr) (N c : Nat) (s0 s1 : Int) (w : World) :
    CallsIn Fence.wide n Try.prog 44 #[.slice A N c, .agg #[.int .i64 s0, .int .i64 s1]] w fun e w' => e = .returned (.func (.func 53) #[] #[.pointer (some ⟨w.heap.size, 0, none⟩), .pointer (some ⟨w.heap.size + 1, 0, none⟩)]) ∧ w' = (w.alloc (.cells #[.slice A N c] 40)).alloc (.cells #[.int .i64 s0, .int .i64 s1] 24) := by
  refine callsIn_of_wp Try.func44 rfl trivial ?_ rfl
  simp only [Try.ntmps44, List.size_toArray, List.length_cons, List.length_nil, Nat.reduceAdd, Nat.reduceSub, Array.replicate_succ, Array.replicate_zero, List.push_toArray, List.append_toArray, List.nil_append, List.cons_append]
  gi_wp2
  go_ret
  exact ⟨rfl, rfl⟩
/-- It gives the parts that count, in their order. -/
theorem counting_stops (n : Nat) (hn : 1 ≤ n) (Bl Bs n₀ : Nat) (A : Option Addr) (N c : Nat) (l : List Mn.P) (s0 s1 : Int) (hNl : N = l.length) (hN : N ≤ 1000000) (w : World)
    (hBl : Bl < w.heap.size) (hBs : Bs < w.heap.size) (hn₀ : n₀ ≤ w.heap.size)
    (hl : w.cell? ⟨Bl, 0, none⟩ = some (.slice A N c)) (hs0 : w.cell? ⟨Bs, 0, none⟩ = some (.int .i64 s0)) (hs1 : w.cell? ⟨Bs, 1, none⟩ = some (.int .i64 s1)) (hL : Lst w n₀ (.slice A N c) N (Mn.ptc l)) :
    SeqStopsK Fence.wide n Try.prog 53 #[.pointer (some ⟨Bl, 0, none⟩), .pointer (some ⟨Bs, 0, none⟩)] (fun x : Mn.P => #[Value.agg #[.int .i64 x.1, .int .i64 x.2.1, .int .i64 x.2.2]]) (KpC n₀ Bs) (fun ys => ys = Mn.cnt s0 s1 l) (fun _ => True) N w := fun l' J Jx W hW hJ _ hY h0 =>
  counting1_in n hn l' Bl Bs n₀ A N c l s0 s1 hNl hN J Jx W hJ hY (Nat.le_trans hn₀ hW.size) (Nat.lt_of_lt_of_le hBs hW.size)
    ((hW.cell (p := ⟨Bl, 0, none⟩) hBl).trans hl) ((hW.cell (p := ⟨Bs, 0, none⟩) hBs).trans hs0) ((hW.cell (p := ⟨Bs, 1, none⟩) hBs).trans hs1) (hL.below (hW.mono hn₀)) h0
end Go.Proofs.Ytnfjdjfajkdiiaa
