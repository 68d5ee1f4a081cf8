/- Stores: Near; what a nil store tells. -/
import Derived.Test.YtmnmmbeageddkaaStF
import Derived.Deep.CutRange
set_option linter.unusedVariables false
set_option linter.unusedSimpArgs false
namespace Go.Proofs.Ytmnmmbeageddkaa
open Go.RowKit Go.Sort Go.Shelf

namespace Sk
abbrev zI : If.I := (0, 0, 0, 0, ⟨#[]⟩)
/-- The one at a place. -/
def gt (i : Nat) (l : List If.I) : If.I := (l[i]?).getD zI
theorem gt_at (i : Nat) (l : List If.I) (h : i < l.length) : gt i l = l[i] := by unfold gt; rw [List.getElem?_eq_getElem h]; rfl
/-- The one ahead of a second, and the one behind it. -/
def nearA (t : Int) (l : List If.I) : If.I × Bool := if 0 < pl t l then (gt (pl t l - 1) l, true) else (zI, false)
def nb (t : Int) (l : List If.I) : Nat := if has t l then pl t l + 1 else pl t l
def nearB (t : Int) (l : List If.I) : If.I × Bool := if nb t l < l.length then (gt (nb t l) l, true) else (zI, false)
end Sk
theorem gr_set2 (W : World) (a : Addr) (u : Value) : W.grownBy (W.setCell a u) (some a.block) :=
  ⟨rfl, rfl, rfl, by simp, fun k _ hk => heap_setCell_other W a k u (fun e => hk (by simp [e]))⟩
theorem set_five {W : World} {B : Nat} {t : TypeId} {a0 a1 a2 a3 a4 : Value} (h : Blk W B t #[a0, a1, a2, a3, a4]) (u0 u1 u2 u3 u4 : Value) :
    Blk (((((W.setCell ⟨B, 0, none⟩ u0).setCell ⟨B, 1, none⟩ u1).setCell ⟨B, 2, none⟩ u2).setCell ⟨B, 3, none⟩ u3).setCell ⟨B, 4, none⟩ u4) B t #[u0, u1, u2, u3, u4] ∧
      W.grownBy (((((W.setCell ⟨B, 0, none⟩ u0).setCell ⟨B, 1, none⟩ u1).setCell ⟨B, 2, none⟩ u2).setCell ⟨B, 3, none⟩ u3).setCell ⟨B, 4, none⟩ u4) (some B) := by
  have h0 : Blk (W.setCell ⟨B, 0, none⟩ u0) B t #[u0, a1, a2, a3, a4] := heap_setCell_same W B 0 _ t u0 h
  have h1 : Blk ((W.setCell ⟨B, 0, none⟩ u0).setCell ⟨B, 1, none⟩ u1) B t #[u0, u1, a2, a3, a4] := heap_setCell_same _ B 1 _ t u1 h0
  have h2 : Blk (((W.setCell ⟨B, 0, none⟩ u0).setCell ⟨B, 1, none⟩ u1).setCell ⟨B, 2, none⟩ u2) B t #[u0, u1, u2, a3, a4] := heap_setCell_same _ B 2 _ t u2 h1
  have h3 : Blk ((((W.setCell ⟨B, 0, none⟩ u0).setCell ⟨B, 1, none⟩ u1).setCell ⟨B, 2, none⟩ u2).setCell ⟨B, 3, none⟩ u3) B t #[u0, u1, u2, u3, a4] := heap_setCell_same _ B 3 _ t u3 h2
  exact ⟨heap_setCell_same _ B 4 _ t u4 h3, gr_trans (gr_trans (gr_trans (gr_trans (gr_set2 W _ _) (gr_set2 _ _ _)) (gr_set2 _ _ _)) (gr_set2 _ _ _)) (gr_set2 _ _ _)⟩
theorem blk2_drew {W X : World} {B C : Nat} {t : TypeId} {vs us : Array Value} (h : Blk X B t vs ∧ Blk X C t us ∧ Below W.heap.size W X) : Blk X.drew B t vs ∧ Blk X.drew C t us ∧ Below W.heap.size W X.drew := ⟨h.1, h.2.1, h.2.2.drew⟩
set_option maxRecDepth 100000 in
set_option maxHeartbeats 8000000 in
theorem st_near {W : World} {N p : Nat} {room : Int} {V : Value} {qs : List Nat} {l : List If.I} (h : StM W N p room V qs l) (hk : Sk.Kept l) (hn : l.length ≤ 90000) (t : Int) :
    Calls Try.prog 17 #[.pointer (some ⟨p, 0, none⟩), .int .i64 t] W fun e w' => e = .returned (.tuple #[IV (Sk.nearA t l).1, IV (Sk.nearB t l).1, .bool (Sk.nearA t l).2, .bool (Sk.nearB t l).2]) ∧ Below W.heap.size W w' := by
  obtain ⟨A, c, rfl⟩ := h.form
  have b0 : Below W.heap.size W (W.alloc (.cells #[.int .i64 0, .int .i64 0, .int .i64 0, .int .i64 0, .string ⟨#[]⟩] 36)) := (Below.refl _ _).alloc (Nat.le_refl _) _
  have K0 := Blk.new W 36 #[.int .i64 0, .int .i64 0, .int .i64 0, .int .i64 0, .string ⟨#[]⟩]
  have b1 : Below (W.alloc (.cells #[.int .i64 0, .int .i64 0, .int .i64 0, .int .i64 0, .string ⟨#[]⟩] 36)).heap.size (W.alloc (.cells #[.int .i64 0, .int .i64 0, .int .i64 0, .int .i64 0, .string ⟨#[]⟩] 36)) ((W.alloc (.cells #[.int .i64 0, .int .i64 0, .int .i64 0, .int .i64 0, .string ⟨#[]⟩] 36)).alloc (.cells #[.int .i64 0, .int .i64 0, .int .i64 0, .int .i64 0, .string ⟨#[]⟩] 36)) := (Below.refl _ _).alloc (Nat.le_refl _) _
  have K4 := Lib.hid (K0.on b1)
  have K5 := Lib.hid (show Blk ((W.alloc (.cells #[.int .i64 0, .int .i64 0, .int .i64 0, .int .i64 0, .string ⟨#[]⟩] 36)).alloc (.cells #[.int .i64 0, .int .i64 0, .int .i64 0, .int .i64 0, .string ⟨#[]⟩] 36)) (W.heap.size + 1) 36 #[.int .i64 0, .int .i64 0, .int .i64 0, .int .i64 0, .string ⟨#[]⟩] from Blk.newAt _ _ (by simp))
  have B1 := Lib.hid (below_step b0 b1)
  have H := Lib.hid h
  have HK := Lib.hid hk
  have HN := Lib.hid hn
  clear h hk hn b0 b1 K0
  obtain ⟨b, hb⟩ : ∃ b, Sk.has t l = b := ⟨_, rfl⟩
  have PB := Lib.hid hb
  obtain ⟨k, hk⟩ : ∃ k, Sk.pl t l = k := ⟨_, rfl⟩
  have PK := Lib.hid hk
  have PL := Lib.hid (show k ≤ l.length by rw [← hk]; exact Sk.pl_len t l)
  clear hk hb
  obtain ⟨⟨⟨r0, r1, r2, r3, r4⟩, ra⟩, hr⟩ : ∃ r, Sk.nearA t l = r := ⟨_, rfl⟩
  obtain ⟨⟨⟨s0, s1, s2, s3, s4⟩, rb⟩, hs⟩ : ∃ r, Sk.nearB t l = r := ⟨_, rfl⟩
  have RA := Lib.hid hr; have RB := Lib.hid hs
  rw [hr, hs]
  clear hr hs
  go_enter Try.func17, Try.ntmps17
  go_upto_region 1 with (fail)
  generalize (W.alloc (.cells #[.int .i64 0, .int .i64 0, .int .i64 0, .int .i64 0, .string ⟨#[]⟩] 36)).alloc (.cells #[.int .i64 0, .int .i64 0, .int .i64 0, .int .i64 0, .string ⟨#[]⟩] 36) = w1 at *
  go_wp2_with fail
  refine (st_at (H.out.on B1.out) HK.out (by have := HN.out; omega) t).mono ?_
  rw [PK.out, PB.out]
  rintro e w2 ⟨rfl, b2⟩
  have B2 := Lib.hid (below_step B1.out b2); have L4 := Lib.hid (K4.out.on b2); have L5 := Lib.hid (K5.out.on b2)
  clear b2 K4 K5 B1
  go_upto_if 17 with fail
  go_cut [6] from 17 to 27 (fun a wx => a = .bool ra ∧ Blk wx W.heap.size 36 #[.int .i64 r0, .int .i64 r1, .int .i64 r2, .int .i64 r3, .string r4] ∧ Blk wx (W.heap.size + 1) 36 #[.int .i64 0, .int .i64 0, .int .i64 0, .int .i64 0, .string ⟨#[]⟩] ∧ Below W.heap.size W wx)
  case first =>
    have e := RA.out
    unfold Sk.nearA at e
    rw [PK.out] at e
    by_cases h0 : 0 < k
    · rw [if_pos h0, Sk.gt_at _ _ (by have := PL.out; omega)] at e
      have h1 : (0 : Int) < k := by omega
      have hlt : k - 1 < l.length := by have := PL.out; omega
      obtain ⟨a, q, rfl, g1, g2⟩ := (H.out.on B2.out).get (k - 1) hlt
      simp only [Prod.mk.injEq] at e
      rw [e.1] at g2
      obtain ⟨-, rfl⟩ := e
      have p0 := g2.c0; have p1 := g2.c1; have p2 := g2.c2; have p3 := g2.c3; have p4 := g2.c4
      have d1 := (H.out.on B2.out).blk.c1
      have kn : k ≤ 90000 := by have := PL.out; have := HN.out; omega
      have j1 : ((k : Int) - 1).toNat = k - 1 := by omega
      have j2 : (0 : Int) ≤ (k : Int) - 1 := by omega
      have j3 : (k : Int) - 1 < l.length := by have := PL.out; omega
      have j4 : ¬ ((k : Int) - 1 < 0) := by omega
      have f0 := L4.out.frozen 0; have f1 := L4.out.frozen 1; have f2 := L4.out.frozen 2; have f3 := L4.out.frozen 3; have f4 := L4.out.frozen 4; have hb4 := L4.out.lt
      have c0 := L4.out.c0; have c1 := L4.out.c1; have c2 := L4.out.c2; have c3 := L4.out.c3; have c4 := L4.out.c4
      have SF := Lib.hid (set_five L4.out (.int .i64 r0) (.int .i64 r1) (.int .i64 r2) (.int .i64 r3) (.string r4))
      clear g2
      go_wp2
      go_meet
      case rel => exact ⟨rfl, SF.out.1, L5.out.kept SF.out.2 (by intro e; have := Option.some.inj e; omega), B2.out.trans (below_grown SF.out.2 B2.out.size (by intro g e; cases e; exact Nat.le_refl _))⟩
    · rw [if_neg h0] at e
      have h1 : ¬ (0 : Int) < k := by omega
      simp only [Prod.mk.injEq] at e
      obtain ⟨⟨rfl, rfl, rfl, rfl, rfl⟩, rfl⟩ := e
      go_wp2
      go_meet
      case rel => exact ⟨rfl, L4.out, L5.out, B2.out⟩
  case rest =>
    obtain ⟨rfl, K4, K5, B3⟩ := hcut
    have K4 := Lib.hid K4; have K5 := Lib.hid K5; have B3 := Lib.hid B3
    clear L4 L5 B2
    obtain ⟨m, hm⟩ : ∃ m, (if b = true then k + 1 else k) = m := ⟨_, rfl⟩
    have NB := Lib.hid (show Sk.nb t l = m by unfold Sk.nb; rw [PB.out, PK.out]; exact hm)
    have HM := Lib.hid hm
    clear hm
    go_upto_if 28 with fail
    go_cut [8] from 28 to 30 (fun x wx => x = .int .i64 m ∧ wx = wc)
    case first =>
      have kn : k ≤ 90000 := by have := PL.out; have := HN.out; omega
      cases b
      · obtain rfl : k = m := HM.out
        go_wp2
        go_meet
        case rel => exact ⟨rfl, rfl⟩
      · have e : k + 1 = m := HM.out
        go_wp2
        go_meet
        case rel => exact ⟨by rw [← e]; rfl, rfl⟩
    case rest =>
      obtain ⟨rfl, rfl⟩ := hcut
      go_wp2_with fail
      refine (st_len (H.out.on B3.out)).mono ?_
      rintro e w4 ⟨rfl, b4⟩
      have L4 := Lib.hid (K4.out.on b4); have L5 := Lib.hid (K5.out.on b4); have B4 := Lib.hid (below_step B3.out b4)
      clear b4 K4 K5 B3
      go_upto_if 34 with fail
      go_cut [7] from 34 to 43 (fun a wx => a = .bool rb ∧ Blk wx W.heap.size 36 #[.int .i64 r0, .int .i64 r1, .int .i64 r2, .int .i64 r3, .string r4] ∧ Blk wx (W.heap.size + 1) 36 #[.int .i64 s0, .int .i64 s1, .int .i64 s2, .int .i64 s3, .string s4] ∧ Below W.heap.size W wx)
      case first =>
        have e := RB.out
        unfold Sk.nearB at e
        rw [NB.out] at e
        by_cases h0 : m < l.length
        · rw [if_pos h0, Sk.gt_at _ _ h0] at e
          have h1 : (m : Int) < l.length := by omega
          obtain ⟨a, q, rfl, g1, g2⟩ := (H.out.on B4.out).get m h0
          simp only [Prod.mk.injEq] at e
          rw [e.1] at g2
          obtain ⟨-, rfl⟩ := e
          have p0 := g2.c0; have p1 := g2.c1; have p2 := g2.c2; have p3 := g2.c3; have p4 := g2.c4
          have d1 := (H.out.on B4.out).blk.c1
          have f0 := L5.out.frozen 0; have f1 := L5.out.frozen 1; have f2 := L5.out.frozen 2; have f3 := L5.out.frozen 3; have f4 := L5.out.frozen 4; have hb4 := L5.out.lt
          have c0 := L5.out.c0; have c1 := L5.out.c1; have c2 := L5.out.c2; have c3 := L5.out.c3; have c4 := L5.out.c4
          have SF := Lib.hid (set_five L5.out (.int .i64 s0) (.int .i64 s1) (.int .i64 s2) (.int .i64 s3) (.string s4))
          clear g2
          go_wp2
          go_meet
          case rel => exact ⟨rfl, L4.out.kept SF.out.2 (by intro e; have := Option.some.inj e; omega), SF.out.1, B4.out.trans (below_grown SF.out.2 B4.out.size (by intro g e; cases e; exact Nat.le_succ _))⟩
        · rw [if_neg h0] at e
          have h1 : ¬ (m : Int) < l.length := by omega
          simp only [Prod.mk.injEq] at e
          obtain ⟨⟨rfl, rfl, rfl, rfl, rfl⟩, rfl⟩ := e
          go_wp2
          go_meet
          case rel => exact ⟨rfl, L4.out, L5.out, B4.out⟩
      case rest =>
        obtain ⟨rfl, K4, K5, B5⟩ := hcut
        have K4 := Lib.hid K4; have K5 := Lib.hid K5; have B5 := Lib.hid B5
        clear L4 L5 B4
        have f0 := K4.out.frozen 0; have f1 := K4.out.frozen 1; have f2 := K4.out.frozen 2; have f3 := K4.out.frozen 3; have f4 := K4.out.frozen 4; have hb4 := K4.out.lt
        have c0 := K4.out.c0; have c1 := K4.out.c1; have c2 := K4.out.c2; have c3 := K4.out.c3; have c4 := K4.out.c4
        have g0 := K5.out.frozen 0; have g1 := K5.out.frozen 1; have g2 := K5.out.frozen 2; have g3 := K5.out.frozen 3; have g4 := K5.out.frozen 4; have hb5 := K5.out.lt
        have d0 := K5.out.c0; have d1 := K5.out.c1; have d2 := K5.out.c2; have d3 := K5.out.c3; have d4 := K5.out.c4
        go_upto_region 8 with (fail)
        have O1 := Lib.hid (show ∀ w9, w9 = ((((((((((wc.setCell ⟨W.heap.size, 0, none⟩ (.int .i64 r0)).setCell ⟨W.heap.size, 1, none⟩ (.int .i64 r1)).setCell ⟨W.heap.size, 2, none⟩ (.int .i64 r2)).setCell ⟨W.heap.size, 3, none⟩ (.int .i64 r3)).setCell ⟨W.heap.size, 4, none⟩ (.string r4)).setCell ⟨W.heap.size + 1, 0, none⟩ (.int .i64 s0)).setCell ⟨W.heap.size + 1, 1, none⟩ (.int .i64 s1)).setCell ⟨W.heap.size + 1, 2, none⟩ (.int .i64 s2)).setCell ⟨W.heap.size + 1, 3, none⟩ (.int .i64 s3)).setCell ⟨W.heap.size + 1, 4, none⟩ (.string s4)) →
            Blk w9 W.heap.size 36 #[.int .i64 r0, .int .i64 r1, .int .i64 r2, .int .i64 r3, .string r4] ∧ Blk w9 (W.heap.size + 1) 36 #[.int .i64 s0, .int .i64 s1, .int .i64 s2, .int .i64 s3, .string s4] ∧ Below W.heap.size W w9 from by
          rintro w9 rfl
          have P := set_five K4.out (.int .i64 r0) (.int .i64 r1) (.int .i64 r2) (.int .i64 r3) (.string r4)
          have P2 := set_five (K5.out.kept P.2 (by intro e; have := Option.some.inj e; omega)) (.int .i64 s0) (.int .i64 s1) (.int .i64 s2) (.int .i64 s3) (.string s4)
          refine ⟨P.1.kept P2.2 (by intro e; have := Option.some.inj e; omega), P2.1, ?_⟩
          exact (B5.out.trans (below_grown P.2 B5.out.size (by intro g e; cases e; exact Nat.le_refl _))).trans (below_grown P2.2 (Nat.le_trans B5.out.size P.2.size) (by intro g e; cases e; exact Nat.le_succ _)))
        go_cut [6, 7] from 44 to 47 (fun a b wx => a = .bool ra ∧ b = .bool rb ∧ Blk wx W.heap.size 36 #[.int .i64 r0, .int .i64 r1, .int .i64 r2, .int .i64 r3, .string r4] ∧ Blk wx (W.heap.size + 1) 36 #[.int .i64 s0, .int .i64 s1, .int .i64 s2, .int .i64 s3, .string s4] ∧ Below W.heap.size W wx)
        case first =>
          go_region_with (fail)
          all_goals
            go_wp2_with fail
            go_meet
            (case rel =>
              refine ⟨rfl, rfl, ?_⟩
              refine blk2_drew ?_
              exact O1.out _ rfl)
        case rest =>
          obtain ⟨rfl, rfl, K4, K5, B6⟩ := hcut
          clear f0 f1 f2 f3 f4 hb4 c0 c1 c2 c3 c4 g0 g1 g2 g3 g4 hb5 d0 d1 d2 d3 d4
          have c0 := K4.c0; have c1 := K4.c1; have c2 := K4.c2; have c3 := K4.c3; have c4 := K4.c4
          have d0 := K5.c0; have d1 := K5.c1; have d2 := K5.c2; have d3 := K5.c3; have d4 := K5.c4
          have B7 := Lib.hid B6
          clear K4 K5 B6
          go_wp2_with fail
          refine bodyPost_ret (v := .tuple #[IV (r0, r1, r2, r3, r4), IV (s0, s1, s2, s3, s4), .bool ra, .bool rb]) (by simp [results, Try.results17, go_sem, c0, c1, c2, c3, c4, d0, d1, d2, d3, d4]) rfl ⟨rfl, ?_⟩
          exact B7.out
end Go.Proofs.Ytmnmmbeageddkaa
