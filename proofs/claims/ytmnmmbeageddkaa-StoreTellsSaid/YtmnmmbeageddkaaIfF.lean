/- Infos: what they have at a second; two lists that are one. -/
import Derived.Test.YtmnmmbeageddkaaIfL
import Derived.Test.YtmnmmbeageddkaaSpA0
set_option linter.unusedVariables false
set_option linter.unusedSimpArgs false
namespace Go.Proofs.Ytmnmmbeageddkaa
open Go.RowKit Go.Sort Go.Shelf

namespace If
/-- What holds at a second: offset, saved, name, whether anything does. -/
def at_ (t : Int) : List I → (Int × Int × ByteArray) × Bool
  | [] => ((0, 0, ⟨#[]⟩), false)
  | p :: r => if Sp.hs p.1 p.2.1 t then (p.2.2, true) else at_ t r
theorem at_drop (t : Int) (l : List I) (k : Nat) (h : k < l.length) : at_ t (l.drop k) = if Sp.hs l[k].1 l[k].2.1 t then (l[k].2.2, true) else at_ t (l.drop (k + 1)) := by
  rw [List.drop_eq_getElem_cons h]; rfl
end If
set_option maxRecDepth 100000 in
set_option maxHeartbeats 8000000 in
theorem if_at (v : Value) (l : List If.I) (t : Int) (w : World) (h : InV w v l) (hm : l.length ≤ 100000) :
    Calls Try.prog 34 #[v, .int .i64 t] w fun e w' => e = .returned (.tuple #[.agg #[.int .i64 (If.at_ t l).1.1, .int .i64 (If.at_ t l).1.2.1, .string (If.at_ t l).1.2.2], .bool (If.at_ t l).2]) ∧ Below w.heap.size w w' := by
  obtain ⟨A, c, rfl, -⟩ := id h
  have b0 : Below w.heap.size w (w.alloc (.cells #[.int .i64 0, .int .i64 0, .string ⟨#[]⟩] 34)) := (Below.refl _ _).alloc (Nat.le_refl _) _
  have K0 := Lib.hid (Blk.new w 34 #[.int .i64 0, .int .i64 0, .string ⟨#[]⟩])
  have B0 := Lib.hid b0
  have H := Lib.hid h
  obtain ⟨n, hn⟩ : ∃ n, l.length = n := ⟨_, rfl⟩
  rw [hn] at H hm ⊢
  have HN := Lib.hid hn
  obtain ⟨⟨⟨r0, r1, r2⟩, r3⟩, hr⟩ : ∃ r, If.at_ t l = r := ⟨_, rfl⟩
  rw [hr]
  have HR := Lib.hid hr
  dsimp only
  clear h b0 hn hr
  go_enter Try.func34, Try.ntmps34
  go_wp2_with fail
  generalize hw1 : w.alloc (.cells #[.int .i64 0, .int .i64 0, .string ⟨#[]⟩] 34) = w1 at *
  have G1 := Lib.hid (show w.heap.size < w1.heap.size by rw [← hw1]; simp)
  clear hw1
  go_loopw [10] (fun i wr => ∃ (k : Nat), k ≤ n ∧ i = .int .i64 k ∧ Hid (If.at_ t (l.drop k) = ((r0, r1, r2), r3)) ∧ Hid (Below w1.heap.size w1 wr)) (fun i _ => n - (intOf i).toNat)
  case atStart => exact ⟨0, Nat.zero_le _, rfl, HR, Lib.hid (Below.refl _ _)⟩
  case round =>
    rename World => w2
    obtain ⟨k, hk, rfl, hinv, D⟩ := hrel
    have B := Lib.hid (below_step B0.out D.out)
    by_cases hlt : k < n
    · have hkl : k < l.length := by rw [HN.out]; exact hlt
      have hd := hinv.out
      rw [If.at_drop t l k hkl] at hd
      obtain ⟨a, rfl, hab, g1, g2, g3, g4, g5⟩ := (H.out.on B.out).get k hkl
      generalize hp : l[k] = p at *
      obtain ⟨x0, x1, x2, x3, x4⟩ := p
      dsimp only at g1 g2 g3 g4 g5 hd
      clear hp hinv
      have DD := Lib.hid hd
      clear hd
      have i1 : (k : Int) < n := by omega
      have P2 := Lib.hid (Blk.new w2 36 #[.int .i64 x0, .int .i64 x1, .int .i64 x2, .int .i64 x3, .string x4])
      have bb : Below w2.heap.size w2 (w2.alloc (.cells #[.int .i64 x0, .int .i64 x1, .int .i64 x2, .int .i64 x3, .string x4] 36)) := (Below.refl _ _).alloc (Nat.le_refl _) _
      have D3 := Lib.hid (below_step D.out bb)
      clear D B bb
      go_wp2_with fail
      refine (span_has x0 x1 t _).mono ?_
      rintro e w4 ⟨rfl, b4⟩
      have D4 := Lib.hid (below_step D3.out b4); have P4 := Lib.hid (P2.out.on b4)
      clear D3 P2 b4 g1 g2 g3 g4 g5 hab
      have K4 := Lib.hid (K0.out.on D4.out)
      have B4 := Lib.hid (below_step B0.out D4.out)
      have p2 := P4.out.c2; have p3 := P4.out.c3; have p4 := P4.out.c4
      cases hh : Sp.hs x0 x1 t
      · have E := Lib.hid (show If.at_ t (l.drop (k + 1)) = ((r0, r1, r2), r3) by have := DD.out; rw [hh] at this; simpa using this)
        clear hh DD
        go_wp2
        go_roundw
        case rel => exact ⟨k + 1, by omega, by go_num, E, D4⟩
        case measure => simp [intOf]; omega
      · have E := Lib.hid (show ((x2, x3, x4), true) = ((r0, r1, r2), r3) by have := DD.out; rw [hh] at this; simpa using this)
        clear hh DD
        have c0 := K4.out.c0; have c1 := K4.out.c1; have c2 := K4.out.c2
        have f0 := K4.out.frozen 0; have f1 := K4.out.frozen 1; have f2 := K4.out.frozen 2; have hb := K4.out.lt
        have E4 := Lib.hid (show r0 = x2 ∧ r1 = x3 ∧ r2 = x4 ∧ r3 = true by have := E.out; simp only [Prod.mk.injEq] at this; exact ⟨this.1.1.symm, this.1.2.1.symm, this.1.2.2.symm, this.2.symm⟩)
        obtain ⟨rfl, rfl, rfl, rfl⟩ := E4.out
        clear E E4
        go_wp2_with fail
        refine bodyPost_ret (v := .tuple #[.agg #[.int .i64 r0, .int .i64 r1, .string r2], .bool true]) (by simp [results, Try.results34, go_sem, f0, f1, f2, c0, c1, c2, hb]) rfl ⟨rfl, ?_⟩
        repeat (first | refine Below.setCell ?_ (by first | (simp; done) | (simp; omega) | omega) _ | refine below_drewN ?_ _ | refine Below.drew ?_)
        exact B4.out
    · have E := Lib.hid (show ((0, 0, ⟨#[]⟩), false) = ((r0, r1, r2), r3) by rw [← hinv.out, List.drop_of_length_le (by rw [HN.out]; omega)]; rfl)
      clear hinv
      have K2 := Lib.hid (K0.out.on D.out)
      have c0 := K2.out.c0; have c1 := K2.out.c1; have c2 := K2.out.c2
      have f0 := K2.out.frozen 0; have f1 := K2.out.frozen 1; have f2 := K2.out.frozen 2; have hb := K2.out.lt
      have E4 := Lib.hid (show 0 = r0 ∧ 0 = r1 ∧ ⟨#[]⟩ = r2 ∧ false = r3 by have := E.out; simp only [Prod.mk.injEq] at this; exact ⟨this.1.1, this.1.2.1, this.1.2.2, this.2⟩)
      obtain ⟨rfl, rfl, rfl, rfl⟩ := E4.out
      clear E E4
      go_wp2_with fail
      refine bodyPost_ret (v := .tuple #[.agg #[.int .i64 0, .int .i64 0, .string ⟨#[]⟩], .bool false]) (by simp [results, Try.results34, go_sem, f0, f1, f2, c0, c1, c2, hb]) rfl ⟨rfl, ?_⟩
      repeat (first | refine Below.setCell ?_ (by first | (simp; done) | (simp; omega) | omega) _ | refine below_drewN ?_ _ | refine Below.drew ?_)
      exact B.out
set_option maxRecDepth 100000 in
set_option maxHeartbeats 8000000 in
theorem if_same (v1 v2 : Value) (l : List If.I) (w : World) (h1 : InV w v1 l) (h2 : InV w v2 l) (hm : l.length ≤ 100000) :
    Calls Try.prog 20 #[v1, v2] w fun e w' => e = .returned (.bool true) ∧ ∃ n, w' = w.drewN n := by
  obtain ⟨A, c, rfl, -⟩ := id h1
  obtain ⟨B, d, rfl, -⟩ := id h2
  have H1 := Lib.hid h1; have H2 := Lib.hid h2
  obtain ⟨n, hn⟩ : ∃ n, l.length = n := ⟨_, rfl⟩
  rw [hn] at H1 H2 hm ⊢
  have HN := Lib.hid hn
  clear h1 h2 hn
  go_enter Try.func20, Try.ntmps20
  go_wp2
  go_loopw [13] (fun i wr => ∃ (k m : Nat), k ≤ n ∧ i = .int .i64 k ∧ Hid (wr = w.drewN m)) (fun i _ => n - (intOf i).toNat)
  case atStart => exact ⟨0, 0, Nat.zero_le _, rfl, Lib.hid rfl⟩
  case round =>
    rename World => w2
    obtain ⟨k, m, hk, rfl, E⟩ := hrel
    by_cases hlt : k < n
    · have hkl : k < l.length := by rw [HN.out]; exact hlt
      have bd : Below w.heap.size w w2 := by rw [E.out]; exact below_draw _ _
      obtain ⟨a, rfl, hab, g1, g2, g3, g4, g5⟩ := (H1.out.on bd).get k hkl
      obtain ⟨b, rfl, hbb, k1, k2, k3, k4, k5⟩ := (H2.out.on bd).get k hkl
      clear bd
      generalize hp : l[k] = p at *
      obtain ⟨x0, x1, x2, x3, x4⟩ := p
      dsimp only at g1 g2 g3 g4 g5 k1 k2 k3 k4 k5
      clear hp
      have i1 : (k : Int) < n := by omega
      have i2 : decide (k < n) = true := decide_eq_true (by omega)
      go_wp2
      go_quiet (fail)
      go_wp2
      go_roundw
      case rel =>
        exact ⟨k + 1, m + nq, by omega, by go_num, Lib.hid (by rw [E.out, World.drewN_drewN])⟩
      case measure => simp [intOf]; omega
    · go_wp2
      go_ret
      exact ⟨rfl, m, E.out⟩
end Go.Proofs.Ytmnmmbeageddkaa
