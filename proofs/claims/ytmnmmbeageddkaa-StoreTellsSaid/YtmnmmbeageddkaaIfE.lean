/- Infos: cut to a span: the contracts of both. -/
import Derived.Test.YtmnmmbeageddkaaIfL
import Derived.Test.YtmnmmbeageddkaaSpL0
import Derived.Test.YtmnmmbeageddkaaMnG0
set_option linter.unusedVariables false
set_option linter.unusedSimpArgs false
namespace Go.Proofs.Ytmnmmbeageddkaa
open Go.RowKit Go.Sort Go.Shelf

namespace If
def ct1 (s0 s1 : Int) (p : I) : List I := if Sp.mt p.1 p.2.1 s0 s1 then [(max p.1 s0, min p.2.1 s1, p.2.2)] else []
def ct (s0 s1 : Int) (l : List I) : List I := l.flatMap (ct1 s0 s1)
theorem ct_take (s0 s1 : Int) (l : List I) (k : Nat) (h : k < l.length) : ct s0 s1 (l.take (k + 1)) = ct s0 s1 (l.take k) ++ ct1 s0 s1 l[k] := by
  unfold ct
  rw [List.take_succ_eq_append_getElem h, List.flatMap_append]; simp
theorem ct_len (s0 s1 : Int) (l : List I) : (ct s0 s1 l).length ≤ l.length := by
  induction l with
  | nil => simp [ct]
  | cons p l ih =>
    unfold ct at *
    rw [List.flatMap_cons, List.length_append, List.length_cons]
    have : (ct1 s0 s1 p).length ≤ 1 := by unfold ct1; split <;> simp
    omega
end If
/-- A call that answers a list of infos, and turns nothing old. -/
def AnsI (l : List If.I) (w : World) (e : Ending) (w' : World) : Prop := ∃ v, InV w' v l ∧ e = .returned v ∧ Below w.heap.size w w'
set_option maxRecDepth 100000 in
set_option maxHeartbeats 8000000 in
theorem seam_cut (v : Value) (l : List If.I) (s0 s1 : Int) (w : World) (h : InV w v l) (hm : l.length ≤ 100000) :
    Calls Try.prog 32 #[v, .agg #[.int .i64 s0, .int .i64 s1]] w (AnsI (If.ct s0 s1 l) w) := by
  obtain ⟨i0, hi, hz0, hz1, hz2⟩ := info_parts info_inf
  have H := Lib.hid h
  obtain ⟨A, c, rfl, -⟩ := h
  obtain ⟨n, hn⟩ : ∃ n, l.length = n := ⟨_, rfl⟩
  rw [hn] at hm H ⊢
  have HN := Lib.hid hn
  have b0 : Below w.heap.size w (w.alloc (.cells #[.int .i64 s0, .int .i64 s1] 32)) := (Below.refl _ _).alloc (Nat.le_refl _) _
  have K0 := Lib.hid (Blk.new w 32 #[.int .i64 s0, .int .i64 s1])
  have B0 := Lib.hid b0
  clear hn b0
  go_enter Try.func32, Try.ntmps32
  go_wp2_with fail
  generalize hw1 : w.alloc (.cells #[.int .i64 s0, .int .i64 s1] 32) = w1 at *
  have G1 := Lib.hid (show w.heap.size < w1.heap.size by rw [← hw1]; simp)
  clear hw1
  have O1 := Lib.hid (World.ownsRow_nil w1 w1.heap.size 36 5)
  go_loopw [5, 12] (fun u i wr => ∃ (k : Nat), k ≤ n ∧ i = .int .i64 k ∧ Hid (wr.ownsRow w1.heap.size 36 5 u (If.ct s0 s1 (l.take k)).length (If.ifc (If.ct s0 s1 (l.take k)))) ∧ Hid (Below w1.heap.size w1 wr)) (fun _ i _ => n - (intOf i).toNat)
  case atStart => exact ⟨0, Nat.zero_le _, rfl, O1, Lib.hid (Below.refl _ _)⟩
  case round =>
    rename World => w2
    obtain ⟨k, hk, rfl, O, D⟩ := hrel
    have B := Lib.hid (below_step B0.out D.out)
    have K2 := Lib.hid (K0.out.on D.out)
    by_cases hlt : k < n
    · have hkl : k < l.length := by rw [HN.out]; exact hlt
      obtain ⟨a, rfl, hab, g1, g2, g3, g4, g5⟩ := (H.out.on B.out).get k hkl
      have T := Lib.hid (If.ct_take s0 s1 l k hkl)
      have hlen : (If.ct s0 s1 (l.take k)).length ≤ 100000 := by have := If.ct_len s0 s1 (l.take k); rw [List.length_take] at this; omega
      generalize hp : l[k] = p at *
      obtain ⟨x0, x1, x2, x3, x4⟩ := p
      dsimp only at g1 g2 g3 g4 g5
      clear hp
      have i1 : (k : Int) < n := by omega
      generalize If.ct s0 s1 (l.take k) = r at *
      have P2 := Lib.hid (Blk.new w2 36 #[.int .i64 x0, .int .i64 x1, .int .i64 x2, .int .i64 x3, .string x4])
      have bb : Below w2.heap.size w2 (w2.alloc (.cells #[.int .i64 x0, .int .i64 x1, .int .i64 x2, .int .i64 x3, .string x4] 36)) := (Below.refl _ _).alloc (Nat.le_refl _) _
      have O3 := Lib.hid (own_on O.out bb); have D3 := Lib.hid (below_step D.out bb); have K3 := Lib.hid (K2.out.on bb)
      have c0 := K3.out.c0; have c1 := K3.out.c1
      clear O D B K2 bb
      go_wp2_with fail
      refine (span_both x0 x1 s0 s1 _).mono ?_
      rintro e w4 ⟨rfl, b4⟩
      have O4 := Lib.hid (own_on O3.out b4); have D4 := Lib.hid (below_step D3.out b4); have P4 := Lib.hid (P2.out.on b4)
      clear O3 D3 K3 P2 b4 c0 c1 g1 g2 g3 g4 g5 hab
      have e6 : If.ct1 s0 s1 (x0, x1, x2, x3, x4) = if Sp.mt x0 x1 s0 s1 then [(max x0 s0, min x1 s1, x2, x3, x4)] else [] := rfl
      have T2 := T.out
      rw [e6] at T2
      clear T e6
      cases hmt : Sp.mt x0 x1 s0 s1
      · rw [hmt] at T2
        simp only [Bool.false_eq_true, if_false, List.append_nil] at T2
        simp only [Sp.bz, Bool.false_eq_true, if_false]
        have T3 := Lib.hid T2
        clear T2 hmt
        have bb : Below w4.heap.size w4 (w4.alloc (.cells #[.int .i64 0, .int .i64 0] 32)) := (Below.refl _ _).alloc (Nat.le_refl _) _
        go_wp2
        go_roundw
        case rel => exact ⟨k + 1, by omega, by go_num, Lib.hid (by rw [T3.out]; exact own_on O4.out bb), Lib.hid (below_step D4.out bb)⟩
        case measure => simp [intOf]; omega
      · rw [hmt] at T2
        simp only [if_true] at T2
        simp only [Sp.bz, if_true]
        generalize max x0 s0 = z0 at *
        generalize min x1 s1 = z1 at *
        have T3 := Lib.hid T2
        clear T2 hmt
        have O5 := Lib.hid (O4.out.alloc (.cells #[.int .i64 z0, .int .i64 z1] 32))
        have P5 := Lib.hid (P4.out.alloc (.cells #[.int .i64 z0, .int .i64 z1] 32))
        have D5 := Lib.hid (D4.out.alloc D4.out.size (.cells #[.int .i64 z0, .int .i64 z1] 32))
        have p2 := P5.out.c2; have p3 := P5.out.c3; have p4 := P5.out.c4
        clear O4 P4 D4
        go_wp2_with (at_builtin; refine wpList_append_own _ rfl _ _ 46 rfl w1.heap.size 36 i0 (.agg #[.int .i64 0, .int .i64 0, .int .i64 0, .int .i64 0, .string ⟨#[]⟩]) 5 48 Try.underlying46 hi hz0 hz1 hz2 rfl (by decide) _ _ _ rfl (O5.out.alloc _) ⟨w4.heap.size + 1, 0, none⟩ 1 1 [.int .i64 z0, .int .i64 z1, .int .i64 x2, .int .i64 x3, .string x4] rfl rfl (five_cells (by simp [go_sem]) (by simp [go_sem]) (by simp [go_sem]) (by simp [go_sem]) (by simp [go_sem])) (by intro u hu; simp at hu; rcases hu with rfl | rfl | rfl | rfl | rfl <;> rfl) (by unfold maxLen; omega) (by omega) (by have := D5.out.size; simp at this; simp; omega) ?_)
        intro v6 w6 own6 grow6 _
        have D6 := Lib.hid (show Below w1.heap.size w1 w6 from ((D5.out.alloc D5.out.size _).trans (below_grown grow6 (by have := D5.out.size; simp at this; simp; omega) (own_row O5.out))))
        have O6 := Lib.hid own6
        clear own6 grow6 O5 P5 D5 p2 p3 p4
        go_wp2
        go_roundw
        case rel => exact ⟨k + 1, by omega, by go_num, Lib.hid (by rw [T3.out, If.ifc_app, List.length_append]; exact O6.out), D6⟩
        case measure => simp [intOf]; omega
    · have E2 : l.take k = l := List.take_of_length_le (by rw [HN.out]; omega)
      rw [E2] at O
      obtain ⟨A2, c2, rfl⟩ := po_form O.out
      have O2 := Lib.hid (InV.own O.out)
      clear E2 O
      go_wp2
      go_ret
      exact ⟨_, O2.out, rfl, B.out⟩
set_option maxRecDepth 100000 in
set_option maxHeartbeats 8000000 in
theorem noontideref39_cut (v : Value) (l : List If.I) (s0 s1 : Int) (w : World) (h : InV w v l) (hm : l.length ≤ 100000) :
    Calls Try.prog 33 #[v, .agg #[.int .i64 s0, .int .i64 s1]] w (AnsI (If.ct s0 s1 l) w) := by
  obtain ⟨i0, hi, hz0, hz1, hz2⟩ := info_parts info_inf
  have H := Lib.hid h
  obtain ⟨A, c, rfl, -⟩ := h
  obtain ⟨n, hn⟩ : ∃ n, l.length = n := ⟨_, rfl⟩
  rw [hn] at hm H ⊢
  have HN := Lib.hid hn
  have b0 : Below w.heap.size w (w.alloc (.cells #[.int .i64 s0, .int .i64 s1] 32)) := (Below.refl _ _).alloc (Nat.le_refl _) _
  have K0 := Lib.hid (Blk.new w 32 #[.int .i64 s0, .int .i64 s1])
  have B0 := Lib.hid b0
  clear hn b0
  go_enter Try.func33, Try.ntmps33
  go_wp2_with fail
  generalize hw1 : w.alloc (.cells #[.int .i64 s0, .int .i64 s1] 32) = w1 at *
  have G1 := Lib.hid (show w.heap.size < w1.heap.size by rw [← hw1]; simp)
  clear hw1
  have O1 := Lib.hid (World.ownsRow_nil w1 w1.heap.size 36 5)
  go_loopw [5, 12] (fun u i wr => ∃ (k : Nat), k ≤ n ∧ i = .int .i64 k ∧ Hid (wr.ownsRow w1.heap.size 36 5 u (If.ct s0 s1 (l.take k)).length (If.ifc (If.ct s0 s1 (l.take k)))) ∧ Hid (Below w1.heap.size w1 wr)) (fun _ i _ => n - (intOf i).toNat)
  case atStart => exact ⟨0, Nat.zero_le _, rfl, O1, Lib.hid (Below.refl _ _)⟩
  case round =>
    rename World => w2
    obtain ⟨k, hk, rfl, O, D⟩ := hrel
    have B := Lib.hid (below_step B0.out D.out)
    have K2 := Lib.hid (K0.out.on D.out)
    by_cases hlt : k < n
    · have hkl : k < l.length := by rw [HN.out]; exact hlt
      obtain ⟨a, rfl, hab, g1, g2, g3, g4, g5⟩ := (H.out.on B.out).get k hkl
      have T := Lib.hid (If.ct_take s0 s1 l k hkl)
      have hlen : (If.ct s0 s1 (l.take k)).length ≤ 100000 := by have := If.ct_len s0 s1 (l.take k); rw [List.length_take] at this; omega
      generalize hp : l[k] = p at *
      obtain ⟨x0, x1, x2, x3, x4⟩ := p
      dsimp only at g1 g2 g3 g4 g5
      clear hp
      have i1 : (k : Int) < n := by omega
      generalize If.ct s0 s1 (l.take k) = r at *
      have P2 := Lib.hid (Blk.new w2 36 #[.int .i64 x0, .int .i64 x1, .int .i64 x2, .int .i64 x3, .string x4])
      have bb : Below w2.heap.size w2 (w2.alloc (.cells #[.int .i64 x0, .int .i64 x1, .int .i64 x2, .int .i64 x3, .string x4] 36)) := (Below.refl _ _).alloc (Nat.le_refl _) _
      have O3 := Lib.hid (own_on O.out bb); have D3 := Lib.hid (below_step D.out bb); have K3 := Lib.hid (K2.out.on bb)
      have c0 := K3.out.c0; have c1 := K3.out.c1
      clear O D B K2 bb
      go_wp2_with fail
      refine (noontideref10_both x0 x1 s0 s1 _).mono ?_
      rintro e w4 ⟨rfl, b4⟩
      have O4 := Lib.hid (own_on O3.out b4); have D4 := Lib.hid (below_step D3.out b4); have P4 := Lib.hid (P2.out.on b4)
      clear O3 D3 K3 P2 b4 c0 c1 g1 g2 g3 g4 g5 hab
      have e6 : If.ct1 s0 s1 (x0, x1, x2, x3, x4) = if Sp.mt x0 x1 s0 s1 then [(max x0 s0, min x1 s1, x2, x3, x4)] else [] := rfl
      have T2 := T.out
      rw [e6] at T2
      clear T e6
      cases hmt : Sp.mt x0 x1 s0 s1
      · rw [hmt] at T2
        simp only [Bool.false_eq_true, if_false, List.append_nil] at T2
        simp only [Sp.bz, Bool.false_eq_true, if_false]
        have T3 := Lib.hid T2
        clear T2 hmt
        have bb : Below w4.heap.size w4 (w4.alloc (.cells #[.int .i64 0, .int .i64 0] 32)) := (Below.refl _ _).alloc (Nat.le_refl _) _
        go_wp2
        go_roundw
        case rel => exact ⟨k + 1, by omega, by go_num, Lib.hid (by rw [T3.out]; exact own_on O4.out bb), Lib.hid (below_step D4.out bb)⟩
        case measure => simp [intOf]; omega
      · rw [hmt] at T2
        simp only [if_true] at T2
        simp only [Sp.bz, if_true]
        generalize max x0 s0 = z0 at *
        generalize min x1 s1 = z1 at *
        have T3 := Lib.hid T2
        clear T2 hmt
        have O5 := Lib.hid (O4.out.alloc (.cells #[.int .i64 z0, .int .i64 z1] 32))
        have P5 := Lib.hid (P4.out.alloc (.cells #[.int .i64 z0, .int .i64 z1] 32))
        have D5 := Lib.hid (D4.out.alloc D4.out.size (.cells #[.int .i64 z0, .int .i64 z1] 32))
        have p2 := P5.out.c2; have p3 := P5.out.c3; have p4 := P5.out.c4
        clear O4 P4 D4
        go_wp2_with (at_builtin; refine wpList_append_own _ rfl _ _ 46 rfl w1.heap.size 36 i0 (.agg #[.int .i64 0, .int .i64 0, .int .i64 0, .int .i64 0, .string ⟨#[]⟩]) 5 48 Try.underlying46 hi hz0 hz1 hz2 rfl (by decide) _ _ _ rfl (O5.out.alloc _) ⟨w4.heap.size + 1, 0, none⟩ 1 1 [.int .i64 z0, .int .i64 z1, .int .i64 x2, .int .i64 x3, .string x4] rfl rfl (five_cells (by simp [go_sem]) (by simp [go_sem]) (by simp [go_sem]) (by simp [go_sem]) (by simp [go_sem])) (by intro u hu; simp at hu; rcases hu with rfl | rfl | rfl | rfl | rfl <;> rfl) (by unfold maxLen; omega) (by omega) (by have := D5.out.size; simp at this; simp; omega) ?_)
        intro v6 w6 own6 grow6 _
        have D6 := Lib.hid (show Below w1.heap.size w1 w6 from ((D5.out.alloc D5.out.size _).trans (below_grown grow6 (by have := D5.out.size; simp at this; simp; omega) (own_row O5.out))))
        have O6 := Lib.hid own6
        clear own6 grow6 O5 P5 D5 p2 p3 p4
        go_wp2
        go_roundw
        case rel => exact ⟨k + 1, by omega, by go_num, Lib.hid (by rw [T3.out, If.ifc_app, List.length_append]; exact O6.out), D6⟩
        case measure => simp [intOf]; omega
    · have E2 : l.take k = l := List.take_of_length_le (by rw [HN.out]; omega)
      rw [E2] at O
      obtain ⟨A2, c2, rfl⟩ := po_form O.out
      have O2 := Lib.hid (InV.own O.out)
      clear E2 O
      go_wp2
      go_ret
      exact ⟨_, O2.out, rfl, B.out⟩
end Go.Proofs.Ytmnmmbeageddkaa

