/- The reference's stores: their memory; New, Find, Drop. -/
import Derived.Test.YtmnmmbeageddkaaStG
import Derived.Test.YtmnmmbeageddkaaStE
set_option linter.unusedVariables false
set_option linter.unusedSimpArgs false
namespace Go.Proofs.Ytmnmmbeageddkaa
open Go.RowKit Go.Sort Go.Shelf

namespace Rf
/-- The first one that has a second. -/
def fd (t : Int) : List If.I → If.I × Bool
  | [] => (Sk.zI, false)
  | p :: r => if Sp.hs p.1 p.2.1 t then (p, true) else fd t r
theorem fd_drop (t : Int) (l : List If.I) (k : Nat) (h : k < l.length) : fd t (l.drop k) = if Sp.hs l[k].1 l[k].2.1 t then (l[k], true) else fd t (l.drop (k + 1)) := by
  rw [List.drop_eq_getElem_cons h]; rfl
/-- All that have it not. -/
def left (t : Int) (l : List If.I) : List If.I := l.filter fun p => !Sp.hs p.1 p.2.1 t
theorem left_take (t : Int) (l : List If.I) (k : Nat) (h : k < l.length) : left t (l.take (k + 1)) = left t (l.take k) ++ (if Sp.hs l[k].1 l[k].2.1 t then [] else [l[k]]) := by
  unfold left
  rw [List.take_succ_eq_append_getElem h, List.filter_append]
  cases hh : Sp.hs l[k].1 l[k].2.1 t <;> simp [hh]
theorem left_len (t : Int) (l : List If.I) : (left t l).length ≤ l.length := List.length_filter_le _ _
/-- What Drop tells, and keeps. -/
def drop (t : Int) (l : List If.I) : Int × List If.I := if (left t l).length = l.length then (12, l) else (0, left t l)
end Rf
structure RfM (W : World) (N m : Nat) (room : Int) (V : Value) (l : List If.I) : Prop where
  base : N ≤ m
  blk : Blk W m 48 #[.int .i64 room, V]
  row : W.ownsRow N 36 5 V l.length (If.ifc l)
theorem RfM.on {W W' : World} {N m : Nat} {room : Int} {V : Value} {l : List If.I} (h : RfM W N m room V l) (k : Below W.heap.size W W') : RfM W' N m room V l := ⟨h.base, h.blk.on k, own_on h.row k⟩
theorem RfM.form {W : World} {N m : Nat} {room : Int} {V : Value} {l : List If.I} (h : RfM W N m room V l) : ∃ A c, V = .slice A l.length c := po_form h.row
theorem RfM.inv {W : World} {N m : Nat} {room : Int} {V : Value} {l : List If.I} (h : RfM W N m room V l) : InV W V l := InV.own h.row
def AnsRN (room : Int) (N : Nat) (W : World) (e : Ending) (w' : World) : Prop := Below W.heap.size W w' ∧
      (((room < 1 ∨ 65536 < room) ∧ e = .returned (.tuple #[.pointer none, .int .i64 1])) ∨ ((1 ≤ room ∧ room ≤ 65536) ∧ ∃ p, e = .returned (.tuple #[.pointer (some ⟨p, 0, none⟩), .int .i64 0]) ∧ RfM w' N p room (.slice none 0 0) []))
set_option maxHeartbeats 1000000 in
theorem rf_new (room : Int) (W : World) (N : Nat) (hN : N ≤ W.heap.size) : Calls Try.prog 10 #[.int .i64 room] W (AnsRN room N W) := by
  by_cases h1 : room < 1
  · have H1 := Lib.hid h1
    go_enter Try.func10, Try.ntmps10
    go_wp2
    go_ret2
    exact ⟨by go_grown, .inl ⟨.inl H1.out, rfl⟩⟩
  by_cases h2 : 65536 < room
  · have H2 := Lib.hid h2
    go_enter Try.func10, Try.ntmps10
    go_wp2
    go_ret2
    exact ⟨by go_grown, .inl ⟨.inr H2.out, rfl⟩⟩
  have H3 := Lib.hid (show 1 ≤ room ∧ room ≤ 65536 by omega)
  have HN := Lib.hid hN
  go_enter Try.func10, Try.ntmps10
  go_wp2
  go_ret2
  exact ⟨by go_grown, .inr ⟨H3.out, _, rfl, ⟨HN.out, Blk.new _ _ _, World.ownsRow_nil _ _ _ _⟩⟩⟩
set_option maxRecDepth 100000 in
set_option maxHeartbeats 8000000 in
theorem rf_find {W : World} {N m : Nat} {room : Int} {V : Value} {l : List If.I} (h : RfM W N m room V l) (hn : l.length ≤ 90000) (t : Int) :
    Calls Try.prog 16 #[.pointer (some ⟨m, 0, none⟩), .int .i64 t] W fun e w' => e = .returned (.tuple #[IV (Rf.fd t l).1, .bool (Rf.fd t l).2]) ∧ Below W.heap.size W w' := by
  obtain ⟨A, c, rfl⟩ := h.form
  have b0 : Below W.heap.size W (W.alloc (.cells #[.int .i64 0, .int .i64 0, .int .i64 0, .int .i64 0, .string ⟨#[]⟩] 36)) := (Below.refl _ _).alloc (Nat.le_refl _) _
  have K0 := Lib.hid (Blk.new W 36 #[.int .i64 0, .int .i64 0, .int .i64 0, .int .i64 0, .string ⟨#[]⟩])
  have H0 := Lib.hid (h.on b0)
  have B0 := Lib.hid b0
  have HI := Lib.hid h.inv
  clear h b0
  obtain ⟨n, hnn⟩ : ∃ n, l.length = n := ⟨_, rfl⟩
  rw [hnn] at H0 HI hn
  have HE := Lib.hid hnn
  obtain ⟨⟨⟨r0, r1, r2, r3, r4⟩, rb⟩, hr⟩ : ∃ r, Rf.fd t l = r := ⟨_, rfl⟩
  rw [hr]
  have HR := Lib.hid (show Rf.fd t (l.drop 0) = ((r0, r1, r2, r3, r4), rb) by rw [List.drop_zero]; exact hr)
  clear hnn hr
  go_enter Try.func16, Try.ntmps16
  go_upto_region 1 with (fail)
  generalize W.alloc (.cells #[.int .i64 0, .int .i64 0, .int .i64 0, .int .i64 0, .string ⟨#[]⟩] 36) = w1 at *
  have d1 := H0.out.blk.c1
  go_wp2_with fail
  clear d1
  go_loopw [13] (fun i wr => ∃ (k : Nat), k ≤ n ∧ i = .int .i64 k ∧ Hid (Rf.fd t (l.drop k) = ((r0, r1, r2, r3, r4), rb)) ∧ Hid (Below w1.heap.size w1 wr)) (fun i _ => n - (intOf i).toNat)
  case atStart => exact ⟨0, Nat.zero_le _, rfl, HR, Lib.hid (Below.refl _ _)⟩
  case round =>
    rename World => w2
    obtain ⟨k, hk, rfl, F, D⟩ := hrel
    have B := Lib.hid (below_step B0.out D.out)
    have K2 := Lib.hid (K0.out.on D.out)
    by_cases hlt : k < n
    · have hkl : k < l.length := by rw [HE.out]; exact hlt
      have hd := F.out
      rw [Rf.fd_drop t l k hkl] at hd
      obtain ⟨a, rfl, hab, g1, g2, g3, g4, g5⟩ := (HI.out.on B.out).get k hkl
      generalize l[k] = x at *
      obtain ⟨x0, x1, x2, x3, x4⟩ := x
      dsimp only at g1 g2 g3 g4 g5 hd
      have DD := Lib.hid hd
      clear hd F
      have i1 : (k : Int) < n := by omega
      go_upto_region 4 with (fail)
      have X3 := Lib.hid (Blk.new w2 36 #[.int .i64 x0, .int .i64 x1, .int .i64 x2, .int .i64 x3, .string x4])
      have bq : Below w2.heap.size w2 (w2.alloc (.cells #[.int .i64 x0, .int .i64 x1, .int .i64 x2, .int .i64 x3, .string x4] 36)) := (Below.refl _ _).alloc (Nat.le_refl _) _
      have D3 := Lib.hid (below_step D.out bq); have K3 := Lib.hid (K2.out.on bq)
      clear bq D B K2 g1 g2 g3 g4 g5 hab
      generalize w2.alloc (.cells #[.int .i64 x0, .int .i64 x1, .int .i64 x2, .int .i64 x3, .string x4] 36) = w3 at *
      generalize w2.heap.size = gx at *
      have c0 := X3.out.c0; have c1 := X3.out.c1
      go_wp2_with fail
      refine (noontideref10_has x0 x1 t _).mono ?_
      rintro e w4 ⟨rfl, b4⟩
      have D4 := Lib.hid (below_step D3.out b4); have K4 := Lib.hid (K3.out.on b4); have X4 := Lib.hid (X3.out.on b4)
      clear b4 D3 K3 X3 c0 c1
      cases hh : Sp.hs x0 x1 t
      · have E := Lib.hid (show Rf.fd t (l.drop (k + 1)) = ((r0, r1, r2, r3, r4), rb) by have := DD.out; rw [hh] at this; simpa using this)
        clear hh DD
        go_wp2
        go_roundw
        case rel => exact ⟨k + 1, by omega, by go_num, E, D4⟩
        case measure => simp [intOf]; omega
      · have E := DD.out
        rw [hh] at E
        simp only [if_true, Prod.mk.injEq] at E
        obtain ⟨⟨rfl, rfl, rfl, rfl, rfl⟩, rfl⟩ := E
        clear hh DD
        have c0 := K4.out.c0; have c1 := K4.out.c1; have c2 := K4.out.c2; have c3 := K4.out.c3; have c4 := K4.out.c4
        have f0 := K4.out.frozen 0; have f1 := K4.out.frozen 1; have f2 := K4.out.frozen 2; have f3 := K4.out.frozen 3; have f4 := K4.out.frozen 4; have hb := K4.out.lt
        have p0 := X4.out.c0; have p1 := X4.out.c1; have p2 := X4.out.c2; have p3 := X4.out.c3; have p4 := X4.out.c4
        have BB := Lib.hid (below_step B0.out D4.out)
        go_wp2_with fail
        refine bodyPost_ret (v := .tuple #[IV (x0, x1, x2, x3, x4), .bool true]) (by simp [results, Try.results16, go_sem, f0, f1, f2, f3, f4, c0, c1, c2, c3, c4, hb]) rfl ⟨rfl, ?_⟩
        repeat (first | refine Below.setCell ?_ (by first | (simp; done) | (simp; omega) | omega) _ | refine below_drewN ?_ _ | refine Below.drew ?_)
        exact BB.out
    · have E := F.out
      rw [List.drop_of_length_le (by rw [HE.out]; omega)] at E
      simp only [Rf.fd, Prod.mk.injEq] at E
      obtain ⟨⟨rfl, rfl, rfl, rfl, rfl⟩, rfl⟩ := E
      clear F
      have c0 := K2.out.c0; have c1 := K2.out.c1; have c2 := K2.out.c2; have c3 := K2.out.c3; have c4 := K2.out.c4
      have f0 := K2.out.frozen 0; have f1 := K2.out.frozen 1; have f2 := K2.out.frozen 2; have f3 := K2.out.frozen 3; have f4 := K2.out.frozen 4; have hb := K2.out.lt
      have i1 : ¬ (k : Int) < n := by omega
      go_wp2_with fail
      refine bodyPost_ret (v := .tuple #[IV Sk.zI, .bool false]) (by simp [results, Try.results16, go_sem, f0, f1, f2, f3, f4, c0, c1, c2, c3, c4, hb]) rfl ⟨rfl, ?_⟩
      repeat (first | refine Below.setCell ?_ (by first | (simp; done) | (simp; omega) | omega) _ | refine below_drewN ?_ _ | refine Below.drew ?_)
      exact B.out
end Go.Proofs.Ytmnmmbeageddkaa
