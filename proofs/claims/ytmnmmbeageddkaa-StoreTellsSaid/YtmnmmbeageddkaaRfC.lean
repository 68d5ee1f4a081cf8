/- The reference's stores: Near. -/
import Derived.Test.YtmnmmbeageddkaaRfB
import Derived.Test.YtmnmmbeageddkaaStL
import Derived.Deep.CutRange
set_option linter.unusedVariables false
set_option linter.unusedSimpArgs false
namespace Go.Proofs.Ytmnmmbeageddkaa
open Go.RowKit Go.Sort Go.Shelf

namespace Rf
/-- The last one that ends at a second, or ahead of it; the first one that begins behind it. -/
def nr (t : Int) : List If.I → If.I × Bool → If.I × Bool → (If.I × Bool) × (If.I × Bool)
  | [], A, B => (A, B)
  | x :: r, A, B => nr t r (if x.2.1 ≤ t then (x, true) else A) (if t < x.1 ∧ B.2 = false then (x, true) else B)
theorem nr_drop (t : Int) (l : List If.I) (A B : If.I × Bool) (k : Nat) (h : k < l.length) : nr t (l.drop k) A B = nr t (l.drop (k + 1)) (if l[k].2.1 ≤ t then (l[k], true) else A) (if t < l[k].1 ∧ B.2 = false then (l[k], true) else B) := by
  rw [List.drop_eq_getElem_cons h]; rfl
end Rf
/-- The four variables. -/
def E4R (w W : World) (g4 g5 g8 g9 : Nat) (a b : If.I) : Prop :=
  Below w.heap.size w W ∧ Blk W g4 36 #[.int .i64 0, .int .i64 0, .int .i64 0, .int .i64 0, .string ⟨#[]⟩] ∧ Blk W g5 36 #[.int .i64 0, .int .i64 0, .int .i64 0, .int .i64 0, .string ⟨#[]⟩] ∧ Blk W g8 36 (If.enc a).toArray ∧ Blk W g9 36 (If.enc b).toArray ∧ (w.heap.size ≤ g8 ∧ w.heap.size ≤ g9 ∧ w.heap.size ≤ g4 ∧ w.heap.size ≤ g5 ∧ g4 ≠ g8 ∧ g4 ≠ g9 ∧ g5 ≠ g8 ∧ g5 ≠ g9 ∧ g8 ≠ g9 ∧ g4 ≠ g5)
theorem E4R.on {w W W' : World} {g4 g5 g8 g9 : Nat} {a b : If.I} (h : E4R w W g4 g5 g8 g9 a b) (k : Below W.heap.size W W') : E4R w W' g4 g5 g8 g9 a b :=
  ⟨below_step h.1 k, h.2.1.on k, h.2.2.1.on k, h.2.2.2.1.on k, h.2.2.2.2.1.on k, h.2.2.2.2.2⟩
theorem E4R.set8 {w W : World} {g4 g5 g8 g9 : Nat} {a b : If.I} (h : E4R w W g4 g5 g8 g9 a b) (x0 x1 x2 x3 : Int) (x4 : ByteArray) : E4R w (((((W.setCell ⟨g8, 0, none⟩ (.int .i64 x0)).setCell ⟨g8, 1, none⟩ (.int .i64 x1)).setCell ⟨g8, 2, none⟩ (.int .i64 x2)).setCell ⟨g8, 3, none⟩ (.int .i64 x3)).setCell ⟨g8, 4, none⟩ (.string x4)) g4 g5 g8 g9 (x0, x1, x2, x3, x4) b := by
  obtain ⟨h1, h2, h3, h4, h5, h6⟩ := h
  have P := set_five h4 (.int .i64 x0) (.int .i64 x1) (.int .i64 x2) (.int .i64 x3) (.string x4)
  exact ⟨h1.trans (below_grown P.2 h1.size (by intro g e; cases e; exact h6.1)), h2.kept P.2 (by intro e; exact h6.2.2.2.2.1 (Option.some.inj e)), h3.kept P.2 (by intro e; exact h6.2.2.2.2.2.2.1 (Option.some.inj e)), P.1, h5.kept P.2 (by intro e; exact h6.2.2.2.2.2.2.2.2.1 (Option.some.inj e).symm), h6⟩
theorem E4R.set9 {w W : World} {g4 g5 g8 g9 : Nat} {a b : If.I} (h : E4R w W g4 g5 g8 g9 a b) (x0 x1 x2 x3 : Int) (x4 : ByteArray) : E4R w (((((W.setCell ⟨g9, 0, none⟩ (.int .i64 x0)).setCell ⟨g9, 1, none⟩ (.int .i64 x1)).setCell ⟨g9, 2, none⟩ (.int .i64 x2)).setCell ⟨g9, 3, none⟩ (.int .i64 x3)).setCell ⟨g9, 4, none⟩ (.string x4)) g4 g5 g8 g9 a (x0, x1, x2, x3, x4) := by
  obtain ⟨h1, h2, h3, h4, h5, h6⟩ := h
  have P := set_five h5 (.int .i64 x0) (.int .i64 x1) (.int .i64 x2) (.int .i64 x3) (.string x4)
  exact ⟨h1.trans (below_grown P.2 h1.size (by intro g e; cases e; exact h6.2.1)), h2.kept P.2 (by intro e; exact h6.2.2.2.2.2.1 (Option.some.inj e)), h3.kept P.2 (by intro e; exact h6.2.2.2.2.2.2.2.1 (Option.some.inj e)), h4.kept P.2 (by intro e; exact h6.2.2.2.2.2.2.2.2.1 (Option.some.inj e)), P.1, h6⟩
set_option maxRecDepth 100000 in
set_option maxHeartbeats 8000000 in
theorem rf_near {W : World} {N m : Nat} {room : Int} {V : Value} {l : List If.I} (h : RfM W N m room V l) (hn : l.length ≤ 90000) (t : Int) :
    Calls Try.prog 18 #[.pointer (some ⟨m, 0, none⟩), .int .i64 t] W fun e w' => e = .returned (.tuple #[IV (Rf.nr t l (Sk.zI, false) (Sk.zI, false)).1.1, IV (Rf.nr t l (Sk.zI, false) (Sk.zI, false)).2.1, .bool (Rf.nr t l (Sk.zI, false) (Sk.zI, false)).1.2, .bool (Rf.nr t l (Sk.zI, false) (Sk.zI, false)).2.2]) ∧ Below W.heap.size W w' := by
  obtain ⟨A, c, rfl⟩ := h.form
  obtain ⟨n4, n5, n8, n9, nn⟩ := four_new W 36 #[.int .i64 0, .int .i64 0, .int .i64 0, .int .i64 0, .string ⟨#[]⟩] #[.int .i64 0, .int .i64 0, .int .i64 0, .int .i64 0, .string ⟨#[]⟩] #[.int .i64 0, .int .i64 0, .int .i64 0, .int .i64 0, .string ⟨#[]⟩] #[.int .i64 0, .int .i64 0, .int .i64 0, .int .i64 0, .string ⟨#[]⟩]
  have H0 := Lib.hid (h.on nn)
  have HI := Lib.hid h.inv
  have E0 := Lib.hid (show E4R W _ W.heap.size (W.heap.size + 1) (W.heap.size + 1 + 1) (W.heap.size + 1 + 1 + 1) Sk.zI Sk.zI from ⟨nn, n4, n5, n8, n9, by omega⟩)
  clear h n4 n5 n8 n9 nn
  obtain ⟨n, hnn⟩ : ∃ n, l.length = n := ⟨_, rfl⟩
  rw [hnn] at H0 HI hn
  have HE := Lib.hid hnn
  obtain ⟨⟨⟨⟨r0, r1, r2, r3, r4⟩, ra⟩, ⟨⟨s0, s1, s2, s3, s4⟩, rb⟩⟩, hr⟩ : ∃ r, Rf.nr t l (Sk.zI, false) (Sk.zI, false) = r := ⟨_, rfl⟩
  rw [hr]
  have HR := Lib.hid (show Rf.nr t (l.drop 0) (Sk.zI, false) (Sk.zI, false) = (((r0, r1, r2, r3, r4), ra), ((s0, s1, s2, s3, s4), rb)) by rw [List.drop_zero]; exact hr)
  clear hnn hr
  go_enter Try.func18, Try.ntmps18
  go_upto_region 3 with (fail)
  generalize (((W.alloc (.cells #[.int .i64 0, .int .i64 0, .int .i64 0, .int .i64 0, .string ⟨#[]⟩] 36)).alloc (.cells #[.int .i64 0, .int .i64 0, .int .i64 0, .int .i64 0, .string ⟨#[]⟩] 36)).alloc (.cells #[.int .i64 0, .int .i64 0, .int .i64 0, .int .i64 0, .string ⟨#[]⟩] 36)).alloc (.cells #[.int .i64 0, .int .i64 0, .int .i64 0, .int .i64 0, .string ⟨#[]⟩] 36) = w1 at *
  obtain ⟨g9, h9⟩ : ∃ g, W.heap.size + 1 + 1 + 1 = g := ⟨_, rfl⟩
  rw [h9] at E0 ⊢
  clear h9
  obtain ⟨g8, h8⟩ : ∃ g, W.heap.size + 1 + 1 = g := ⟨_, rfl⟩
  rw [h8] at E0 ⊢
  clear h8
  obtain ⟨g5, h5⟩ : ∃ g, W.heap.size + 1 = g := ⟨_, rfl⟩
  rw [h5] at E0 ⊢
  clear h5
  obtain ⟨g4, h4⟩ : ∃ g, W.heap.size = g ∧ E4R W w1 g g5 g8 g9 Sk.zI Sk.zI := ⟨_, rfl, E0.out⟩
  have E1 := Lib.hid h4.2
  have HG4 := Lib.hid h4.1
  rw [show (Value.pointer (some ⟨W.heap.size, 0, none⟩) : Value) = .pointer (some ⟨g4, 0, none⟩) by rw [h4.1]]
  clear h4 E0
  have d1 := H0.out.blk.c1
  go_wp2_with fail
  clear d1
  go_loopw [10, 11, 19] (fun ua ub i wr => ∃ (k : Nat) (a b : If.I) (ka kb : Bool), k ≤ n ∧ i = .int .i64 k ∧ ua = .bool ka ∧ ub = .bool kb ∧ Hid (Rf.nr t (l.drop k) (a, ka) (b, kb) = (((r0, r1, r2, r3, r4), ra), ((s0, s1, s2, s3, s4), rb))) ∧ Hid (E4R W wr g4 g5 g8 g9 a b)) (fun _ _ i _ => n - (intOf i).toNat)
  case atStart => exact ⟨0, _, _, _, _, Nat.zero_le _, rfl, rfl, rfl, HR, E1⟩
  case round =>
    rename World => w2
    obtain ⟨k, a, b, ka, kb, hk, rfl, rfl, rfl, F, E2⟩ := hrel
    by_cases hlt : k < n
    · have hkl : k < l.length := by rw [HE.out]; exact hlt
      have hd := F.out
      rw [Rf.nr_drop t l _ _ k hkl] at hd
      obtain ⟨ad, rfl, hab, q1, q2, q3, q4, q5⟩ := (HI.out.on E2.out.1).get k hkl
      generalize l[k] = x at *
      obtain ⟨x0, x1, x2, x3, x4⟩ := x
      dsimp only at q1 q2 q3 q4 q5 hd
      have DD := Lib.hid hd
      clear hd F
      have i1 : (k : Int) < n := by omega
      go_upto_region 6 with (fail)
      have X3 := Lib.hid (Blk.new w2 36 #[.int .i64 x0, .int .i64 x1, .int .i64 x2, .int .i64 x3, .string x4])
      have bq : Below w2.heap.size w2 (w2.alloc (.cells #[.int .i64 x0, .int .i64 x1, .int .i64 x2, .int .i64 x3, .string x4] 36)) := (Below.refl _ _).alloc (Nat.le_refl _) _
      have E3 := Lib.hid (E2.out.on bq)
      have GX := Lib.hid (show W.heap.size ≤ w2.heap.size ∧ w2.heap.size ≠ g8 ∧ w2.heap.size ≠ g9 from ⟨E2.out.1.size, by have := E2.out.2.2.2.1.lt; omega, by have := E2.out.2.2.2.2.1.lt; omega⟩)
      clear bq E2 q1 q2 q3 q4 q5 hab
      generalize w2.alloc (.cells #[.int .i64 x0, .int .i64 x1, .int .i64 x2, .int .i64 x3, .string x4] 36) = w3 at *
      generalize w2.heap.size = gx at *
      have c0 := X3.out.c0; have c1 := X3.out.c1; have c2 := X3.out.c2; have c3 := X3.out.c3; have c4 := X3.out.c4
      go_upto_if 27 with fail
      go_cut [10] from 27 to 28 (fun u wx => ∃ (a' : If.I) (k' : Bool), u = .bool k' ∧ (if x1 ≤ t then ((x0, x1, x2, x3, x4), true) else (a, ka)) = (a', k') ∧ E4R W wx g4 g5 g8 g9 a' b ∧ Blk wx gx 36 #[.int .i64 x0, .int .i64 x1, .int .i64 x2, .int .i64 x3, .string x4])
      case first =>
        by_cases h1 : x1 ≤ t
        · have H1 := Lib.hid h1
          have S := Lib.hid (E3.out.set8 x0 x1 x2 x3 x4)
          have SX := Lib.hid (X3.out.kept (set_five E3.out.2.2.2.1 (.int .i64 x0) (.int .i64 x1) (.int .i64 x2) (.int .i64 x3) (.string x4)).2 (by intro e; exact GX.out.2.1 (Option.some.inj e)))
          have e0 := E3.out.2.2.2.1.c0; have e1 := E3.out.2.2.2.1.c1; have e2 := E3.out.2.2.2.1.c2; have e3 := E3.out.2.2.2.1.c3; have e4 := E3.out.2.2.2.1.c4
          have f0 := E3.out.2.2.2.1.frozen 0; have f1 := E3.out.2.2.2.1.frozen 1; have f2 := E3.out.2.2.2.1.frozen 2; have f3 := E3.out.2.2.2.1.frozen 3; have f4 := E3.out.2.2.2.1.frozen 4; have fl := E3.out.2.2.2.1.lt
          go_wp2
          go_meet
          case rel => exact ⟨(x0, x1, x2, x3, x4), true, rfl, by rw [if_pos H1.out], S.out, SX.out⟩
        · have H1 := Lib.hid h1
          go_wp2
          go_meet
          case rel => exact ⟨a, ka, rfl, by rw [if_neg (by have := H1.out; omega)], E3.out, X3.out⟩
      case rest =>
        obtain ⟨a', k', rfl, ha, e4, x4'⟩ := hcut
        have HA := Lib.hid ha; have E4 := Lib.hid e4; have X4 := Lib.hid x4'
        clear ha e4 x4' E3 X3 c0 c1 c2 c3 c4
        have c0 := X4.out.c0; have c1 := X4.out.c1; have c2 := X4.out.c2; have c3 := X4.out.c3; have c4 := X4.out.c4
        have D2 := Lib.hid (show Rf.nr t (l.drop (k + 1)) (a', k') (if t < x0 ∧ kb = false then ((x0, x1, x2, x3, x4), true) else (b, kb)) = (((r0, r1, r2, r3, r4), ra), ((s0, s1, s2, s3, s4), rb)) by rw [← HA.out]; exact DD.out)
        clear DD HA
        by_cases h2 : t < x0
        · cases kb
          · have S := Lib.hid (E4.out.set9 x0 x1 x2 x3 x4)
            have D3 := Lib.hid (show Rf.nr t (l.drop (k + 1)) (a', k') ((x0, x1, x2, x3, x4), true) = (((r0, r1, r2, r3, r4), ra), ((s0, s1, s2, s3, s4), rb)) by have := D2.out; rw [if_pos ⟨h2, rfl⟩] at this; exact this)
            have e0 := E4.out.2.2.2.2.1.c0; have e1 := E4.out.2.2.2.2.1.c1; have e2 := E4.out.2.2.2.2.1.c2; have e3 := E4.out.2.2.2.2.1.c3; have e4 := E4.out.2.2.2.2.1.c4
            have f0 := E4.out.2.2.2.2.1.frozen 0; have f1 := E4.out.2.2.2.2.1.frozen 1; have f2 := E4.out.2.2.2.2.1.frozen 2; have f3 := E4.out.2.2.2.2.1.frozen 3; have f4 := E4.out.2.2.2.2.1.frozen 4; have fl := E4.out.2.2.2.2.1.lt
            clear D2
            go_wp2
            go_roundw
            case rel => exact ⟨k + 1, a', (x0, x1, x2, x3, x4), k', true, by omega, by go_num, rfl, rfl, D3, S⟩
            case measure => simp [intOf]; omega
          · have D3 := Lib.hid (show Rf.nr t (l.drop (k + 1)) (a', k') (b, true) = (((r0, r1, r2, r3, r4), ra), ((s0, s1, s2, s3, s4), rb)) by have := D2.out; rw [if_neg (fun h => by cases h.2)] at this; exact this)
            clear D2
            go_wp2
            go_roundw
            case rel => exact ⟨k + 1, a', b, k', true, by omega, by go_num, rfl, rfl, D3, E4⟩
            case measure => simp [intOf]; omega
        · have D3 := Lib.hid (show Rf.nr t (l.drop (k + 1)) (a', k') (b, kb) = (((r0, r1, r2, r3, r4), ra), ((s0, s1, s2, s3, s4), rb)) by have := D2.out; rw [if_neg (fun h => h2 h.1)] at this; exact this)
          clear D2
          go_wp2
          go_roundw
          case rel => exact ⟨k + 1, a', b, k', kb, by omega, by go_num, rfl, rfl, D3, E4⟩
          case measure => simp [intOf]; omega
    · have E := F.out
      rw [List.drop_of_length_le (by rw [HE.out]; omega)] at E
      simp only [Rf.nr, Prod.mk.injEq] at E
      obtain ⟨⟨rfl, rfl⟩, ⟨rfl, rfl⟩⟩ := E
      clear F
      have i1 : ¬ (k : Int) < n := by omega
      have K4 := Lib.hid E2.out.2.1; have K5 := Lib.hid E2.out.2.2.1
      have P8 := Lib.hid (show Blk w2 g8 36 #[.int .i64 r0, .int .i64 r1, .int .i64 r2, .int .i64 r3, .string r4] from E2.out.2.2.2.1); have P9 := Lib.hid (show Blk w2 g9 36 #[.int .i64 s0, .int .i64 s1, .int .i64 s2, .int .i64 s3, .string s4] from E2.out.2.2.2.2.1)
      have B2 := Lib.hid E2.out.1
      have G := Lib.hid E2.out.2.2.2.2.2
      have O1 := Lib.hid (show ∀ w9, w9 = ((((((((((w2.setCell ⟨g4, 0, none⟩ (.int .i64 r0)).setCell ⟨g4, 1, none⟩ (.int .i64 r1)).setCell ⟨g4, 2, none⟩ (.int .i64 r2)).setCell ⟨g4, 3, none⟩ (.int .i64 r3)).setCell ⟨g4, 4, none⟩ (.string r4)).setCell ⟨g5, 0, none⟩ (.int .i64 s0)).setCell ⟨g5, 1, none⟩ (.int .i64 s1)).setCell ⟨g5, 2, none⟩ (.int .i64 s2)).setCell ⟨g5, 3, none⟩ (.int .i64 s3)).setCell ⟨g5, 4, none⟩ (.string s4)) → Blk w9 g4 36 #[.int .i64 r0, .int .i64 r1, .int .i64 r2, .int .i64 r3, .string r4] ∧ Blk w9 g5 36 #[.int .i64 s0, .int .i64 s1, .int .i64 s2, .int .i64 s3, .string s4] ∧ Below W.heap.size W w9 from by
        rintro w9 rfl
        have P := set_five K4.out (.int .i64 r0) (.int .i64 r1) (.int .i64 r2) (.int .i64 r3) (.string r4)
        have P2 := set_five (K5.out.kept P.2 (by intro e; exact G.out.2.2.2.2.2.2.2.2.2 (Option.some.inj e).symm)) (.int .i64 s0) (.int .i64 s1) (.int .i64 s2) (.int .i64 s3) (.string s4)
        refine ⟨P.1.kept P2.2 (by intro e; exact G.out.2.2.2.2.2.2.2.2.2 (Option.some.inj e)), P2.1, ?_⟩
        exact (B2.out.trans (below_grown P.2 B2.out.size (by intro g e; cases e; exact G.out.2.2.1))).trans (below_grown P2.2 (Nat.le_trans B2.out.size P.2.size) (by intro g e; cases e; exact G.out.2.2.2.1)))
      have c0 := K4.out.c0; have c1 := K4.out.c1; have c2 := K4.out.c2; have c3 := K4.out.c3; have c4 := K4.out.c4
      have d0 := K5.out.c0; have d1 := K5.out.c1; have d2 := K5.out.c2; have d3 := K5.out.c3; have d4 := K5.out.c4
      have p0 := P8.out.c0; have p1 := P8.out.c1; have p2 := P8.out.c2; have p3 := P8.out.c3; have p4 := P8.out.c4
      have v0 := P9.out.c0; have v1 := P9.out.c1; have v2 := P9.out.c2; have v3 := P9.out.c3; have v4 := P9.out.c4
      have f0 := K4.out.frozen 0; have f1 := K4.out.frozen 1; have f2 := K4.out.frozen 2; have f3 := K4.out.frozen 3; have f4 := K4.out.frozen 4; have fl := K4.out.lt
      have h0 := K5.out.frozen 0; have h1 := K5.out.frozen 1; have h2 := K5.out.frozen 2; have h3 := K5.out.frozen 3; have h4 := K5.out.frozen 4; have hl := K5.out.lt
      have n1 : ¬ g8 = g4 := fun e => G.out.2.2.2.2.1 e.symm
      have n2 : ¬ g9 = g4 := fun e => G.out.2.2.2.2.2.1 e.symm
      have n3 : ¬ g8 = g5 := fun e => G.out.2.2.2.2.2.2.1 e.symm
      have n4 : ¬ g9 = g5 := fun e => G.out.2.2.2.2.2.2.2.1 e.symm
      have n5 : ¬ g5 = g4 := fun e => G.out.2.2.2.2.2.2.2.2.2 e.symm
      have n6 : ¬ g4 = g5 := G.out.2.2.2.2.2.2.2.2.2
      clear E2
      go_upto_region 11 with (fail)
      go_cut [6, 7] from 40 to 43 (fun a b wx => a = .bool ka ∧ b = .bool kb ∧ Blk wx g4 36 #[.int .i64 r0, .int .i64 r1, .int .i64 r2, .int .i64 r3, .string r4] ∧ Blk wx g5 36 #[.int .i64 s0, .int .i64 s1, .int .i64 s2, .int .i64 s3, .string s4] ∧ Below W.heap.size W wx)
      case first =>
        go_region_with (fail)
        all_goals
          go_wp2_with fail
          go_meet
          (case rel =>
            refine ⟨rfl, rfl, ?_⟩
            refine blk2_drew ?_
            exact O1.out _ rfl)
      case rest =>
        obtain ⟨rfl, rfl, J4, J5, B6⟩ := hcut
        clear c0 c1 c2 c3 c4 d0 d1 d2 d3 d4 p0 p1 p2 p3 p4 v0 v1 v2 v3 v4 f0 f1 f2 f3 f4 fl h0 h1 h2 h3 h4 hl
        have c0 := J4.c0; have c1 := J4.c1; have c2 := J4.c2; have c3 := J4.c3; have c4 := J4.c4
        have d0 := J5.c0; have d1 := J5.c1; have d2 := J5.c2; have d3 := J5.c3; have d4 := J5.c4
        have B7 := Lib.hid B6
        clear J4 J5 B6
        go_wp2_with fail
        refine bodyPost_ret (v := .tuple #[IV (r0, r1, r2, r3, r4), IV (s0, s1, s2, s3, s4), .bool ka, .bool kb]) (by simp [results, Try.results18, go_sem, c0, c1, c2, c3, c4, d0, d1, d2, d3, d4]) rfl ⟨rfl, ?_⟩
        exact B7.out
end Go.Proofs.Ytmnmmbeageddkaa
