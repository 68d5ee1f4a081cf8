/- Sets of spans: the contracts of Find, and of what asks whether a second lies in one of some spans. -/
import Derived.Test.YtmnmmbeageddkaaSsD
set_option linter.unusedVariables false
set_option linter.unusedSimpArgs false
namespace Go.Proofs.Ytmnmmbeageddkaa
open Go.RowKit Go.Sort Go.Shelf

namespace Ss
/-- The span in which a second lies. -/
def fd (t : Int) : List S → Int × Int × Bool
  | [] => (0, 0, false)
  | p :: r => if Sp.hs p.1 p.2 t then (p.1, p.2, true) else fd t r
theorem fd_drop (t : Int) (l : List S) (k : Nat) (h : k < l.length) : fd t (l.drop k) = if Sp.hs l[k].1 l[k].2 t then (l[k].1, l[k].2, true) else fd t (l.drop (k + 1)) := by
  rw [List.drop_eq_getElem_cons h]; rfl
theorem inl_drop (t : Int) (l : List S) (k : Nat) (h : k < l.length) : inl (l.drop k) t = (Sp.hs l[k].1 l[k].2 t || inl (l.drop (k + 1)) t) := by
  rw [List.drop_eq_getElem_cons h]; rfl
end Ss
set_option maxHeartbeats 4000000 in
theorem find_any (va : Value) (a : List Ss.S) (t : Int) (w : World) (h : SpV w va a) (ha : a.length ≤ 1000) :
    Calls Try.prog 36 #[va, .int .i64 t] w fun e w' => ∃ l, Ss.Rs l ∧ (∀ u, Ss.inl l u = Ss.inl a u) ∧ e = .returned (.tuple #[.agg #[.int .i64 (Ss.fd t l).1, .int .i64 (Ss.fd t l).2.1], .bool (Ss.fd t l).2.2]) ∧ Below w.heap.size w w' := by
  obtain ⟨A, c, rfl, -⟩ := id h
  have b0 : Below w.heap.size w (w.alloc (.cells #[.int .i64 0, .int .i64 0] 32)) := (Below.refl _ _).alloc (Nat.le_refl _) _
  have K0 := Lib.hid (Blk.new w 32 #[.int .i64 0, .int .i64 0])
  have C := Lib.hid (spans_of _ a _ (h.on b0) ha)
  have B0 := Lib.hid b0
  have ha2 : 2 * (a.length + 0) ≤ 2000 := by omega
  have HA2 := Lib.hid ha2
  clear h b0 ha ha2
  go_enter Try.func36, Try.ntmps36
  go_wp2_with fail
  refine C.out.mono ?_
  rintro e w1 ⟨v, l, rfl, h1, h2, h3, h4, h5⟩
  have H := Lib.hid h1
  obtain ⟨A1, c1, rfl, -⟩ := h1
  have hsz : l.length ≤ 2000 := Nat.le_trans h4 HA2.out
  obtain ⟨n, hn⟩ : ∃ n, l.length = n := ⟨_, rfl⟩
  rw [hn] at H hsz ⊢
  have HN := Lib.hid hn
  have R := Lib.hid (show Ss.Rs l ∧ ∀ u, Ss.inl l u = Ss.inl a u from ⟨h2, fun u => by rw [h3 u]; simp [Ss.inl]⟩)
  have B1 := Lib.hid (below_step B0.out h5)
  have K1 := Lib.hid (K0.out.on h5)
  clear hn h2 h3 h4 h5 C B0 K0
  obtain ⟨f0', f1', f2', hf⟩ : ∃ f0 f1 f2, Ss.fd t l = (f0, f1, f2) := ⟨_, _, _, rfl⟩
  have HF := Lib.hid hf
  have HF0 := Lib.hid hf
  clear hf
  go_wp2_with fail
  go_loopw [11] (fun i wr => ∃ (k : Nat), k ≤ n ∧ i = .int .i64 k ∧ Hid (Ss.fd t (l.drop k) = (f0', f1', f2')) ∧ Hid (Below w.heap.size w wr) ∧ Hid (Below w1.heap.size w1 wr)) (fun i _ => n - (intOf i).toNat)
  case atStart => exact ⟨0, Nat.zero_le _, rfl, HF, B1, Lib.hid (Below.refl _ _)⟩
  case round =>
    rename World => w2
    obtain ⟨k, hk, rfl, hinv, B, D⟩ := hrel
    have K2 := Lib.hid (K1.out.on D.out)
    by_cases hlt : k < n
    · have hkl : k < l.length := by rw [HN.out]; exact hlt
      have hd := hinv.out
      rw [Ss.fd_drop t l k hkl] at hd
      obtain ⟨ad, rfl, hab, g1, g2⟩ := (H.out.on D.out).get k hkl
      generalize l[k].1 = x at *
      generalize l[k].2 = y at *
      have i1 : (k : Int) < n := by omega
      have DD := Lib.hid hd
      have B3 := Lib.hid (B.out.alloc B.out.size (.cells #[.int .i64 x, .int .i64 y] 32))
      have D3 := Lib.hid (D.out.alloc D.out.size (.cells #[.int .i64 x, .int .i64 y] 32))
      have P3 := Lib.hid (Blk.new w2 32 #[.int .i64 x, .int .i64 y])
      clear hd hinv
      go_wp2_with fail
      refine (span_has x y t _).mono ?_
      rintro e w3 ⟨rfl, b3⟩
      have B4 := Lib.hid (below_step B3.out b3)
      have D4 := Lib.hid (below_step D3.out b3)
      have P4 := Lib.hid (P3.out.on b3)
      clear b3 B3 D3 P3 B D g1 g2 hab
      have p0 := P4.out.c0; have p1 := P4.out.c1
      have K4 := Lib.hid (K1.out.on D4.out)
      have c0 := K4.out.c0; have c1 := K4.out.c1
      cases hh : Sp.hs x y t
      · have E := Lib.hid (show Ss.fd t (l.drop (k + 1)) = (f0', f1', f2') by have := DD.out; rw [hh] at this; simpa using this)
        clear hh DD
        go_wp2
        go_roundw
        case rel => exact ⟨k + 1, by omega, by go_num, E, B4, D4⟩
        case measure => simp [intOf]; omega
      · have E := Lib.hid (show (x, y, true) = (f0', f1', f2') by have := DD.out; rw [hh] at this; simpa using this)
        clear hh DD
        have f0 := K4.out.frozen 0; have f1 := K4.out.frozen 1; have hb := K4.out.lt
        have E4 := Lib.hid (show f0' = x ∧ f1' = y ∧ f2' = true by have := E.out; simp only [Prod.mk.injEq] at this; exact ⟨this.1.symm, this.2.1.symm, this.2.2.symm⟩)
        go_wp2_with fail
        refine bodyPost_ret (v := .tuple #[.agg #[.int .i64 x, .int .i64 y], .bool true]) (by simp [results, Try.results36, go_sem, f0, f1, c0, c1, hb]) rfl ⟨l, R.out.1, R.out.2, by rw [HF0.out, E4.out.1, E4.out.2.1, E4.out.2.2], ?_⟩
        repeat (first | refine Below.setCell ?_ (by first | (simp; done) | (simp; omega) | omega) _ | refine below_drewN ?_ _ | refine Below.drew ?_)
        exact B4.out
    · have E := Lib.hid (show (0, 0, false) = (f0', f1', f2') by rw [← hinv.out, List.drop_of_length_le (by rw [HN.out]; omega)]; rfl)
      clear hinv
      have c0 := K2.out.c0; have c1 := K2.out.c1
      have f0 := K2.out.frozen 0; have f1 := K2.out.frozen 1; have hb := K2.out.lt
      have E4 := Lib.hid (show f0' = 0 ∧ f1' = 0 ∧ f2' = false by have := E.out; simp only [Prod.mk.injEq] at this; exact ⟨this.1.symm, this.2.1.symm, this.2.2.symm⟩)
      go_wp2_with fail
      refine bodyPost_ret (v := .tuple #[.agg #[.int .i64 0, .int .i64 0], .bool false]) (by simp [results, Try.results36, go_sem, f0, f1, c0, c1, hb]) rfl ⟨l, R.out.1, R.out.2, by rw [HF0.out, E4.out.1, E4.out.2.1, E4.out.2.2], ?_⟩
      repeat (first | refine Below.setCell ?_ (by first | (simp; done) | (simp; omega) | omega) _ | refine below_drewN ?_ _ | refine Below.drew ?_)
      exact B.out
end Go.Proofs.Ytmnmmbeageddkaa
