/- The reference's sets: the contracts of Find and Total. -/
import Derived.Test.YtnfjdjfajkdiiaaSrB
import Derived.Test.YtnfjdjfajkdiiaaSsE
import Derived.Test.YtnfjdjfajkdiiaaSsF
set_option linter.unusedVariables false
set_option linter.unusedSimpArgs false
namespace Go.Proofs.Ytnfjdjfajkdiiaa
open Go.RowKit Go.Sort Go.Shelf

set_option maxHeartbeats 4000000 in
theorem rfind_any (va : Value) (a : List Ss.S) (t : Int) (w : World) (h : SpV w va a) (ha : a.length ≤ 1000) :
    Calls Try.prog 9 #[va, .int .i64 t] w fun e w' => ∃ l, Ss.Rs l ∧ (∀ u, Ss.inl l u = Ss.inl a u) ∧ e = .returned (.tuple #[.agg #[.int .i64 (Ss.fd t l).1, .int .i64 (Ss.fd t l).2.1], .bool (Ss.fd t l).2.2]) ∧ Below w.heap.size w w' := by
  obtain ⟨A, c, rfl, -⟩ := id h
  have b0 : Below w.heap.size w (w.alloc (.cells #[.int .i64 0, .int .i64 0] 24)) := (Below.refl _ _).alloc (Nat.le_refl _) _
  have K0 := Lib.hid (Blk.new w 24 #[.int .i64 0, .int .i64 0])
  have C := Lib.hid (rof_any _ a _ (h.on b0) (by omega))
  have B0 := Lib.hid b0
  have ha2 : 2 * (a.length + 0) ≤ 2000 := by omega
  have HA2 := Lib.hid ha2
  clear h b0 ha ha2
  go_enter Try.func9, Try.ntmps9
  go_wp2_with fail
  refine C.out.mono ?_
  rintro e w1 ⟨v, h1, rfl, h5⟩
  obtain ⟨h2, h3'⟩ := Ss.rof_nil a
  have h4 : (Ss.rof [] a).length ≤ 2 * (a.length + 0) := by have := Ss.rof_len a; omega
  have h3 : ∀ t, Ss.inl (Ss.rof [] a) t = (Ss.inl a t || Ss.inl [] t) := fun t => by rw [h3' t]; simp [Ss.inl]
  generalize Ss.rof [] a = l at *
  clear h3'
  have H := Lib.hid h1
  obtain ⟨A1, c1, rfl, -⟩ := h1
  have hsz : l.length ≤ 2000 := Nat.le_trans h4 HA2.out
  obtain ⟨n, hn⟩ : ∃ n, l.length = n := ⟨_, rfl⟩
  rw [hn] at H hsz ⊢
  have HN := Lib.hid hn
  have R := Lib.hid (show Ss.Rs l ∧ ∀ u, Ss.inl l u = Ss.inl a u from ⟨h2, fun u => by rw [h3 u]; simp [Ss.inl]⟩)
  have B1 := Lib.hid (below_step B0.out h5)
  have K1 := Lib.hid (K0.out.on h5)
  clear hn h2 h3 h4 h5 C B0 K0
  obtain ⟨f0', f1', f2', hf⟩ : ∃ f0 f1 f2, Ss.fd t l = (f0, f1, f2) := ⟨_, _, _, rfl⟩
  have HF := Lib.hid hf
  have HF0 := Lib.hid hf
  clear hf
  go_wp2_with fail
  go_loopw [11] (fun i wr => ∃ (k : Nat), k ≤ n ∧ i = .int .i64 k ∧ Hid (Ss.fd t (l.drop k) = (f0', f1', f2')) ∧ Hid (Below w.heap.size w wr) ∧ Hid (Below w1.heap.size w1 wr)) (fun i _ => n - (intOf i).toNat)
  case atStart => exact ⟨0, Nat.zero_le _, rfl, HF, B1, Lib.hid (Below.refl _ _)⟩
  case round =>
    rename World => w2
    obtain ⟨k, hk, rfl, hinv, B, D⟩ := hrel
    have K2 := Lib.hid (K1.out.on D.out)
    by_cases hlt : k < n
    · have hkl : k < l.length := by rw [HN.out]; exact hlt
      have hd := hinv.out
      rw [Ss.fd_drop t l k hkl] at hd
      obtain ⟨ad, rfl, hab, g1, g2⟩ := (H.out.on D.out).get k hkl
      generalize l[k].1 = x at *
      generalize l[k].2 = y at *
      have i1 : (k : Int) < n := by omega
      have DD := Lib.hid hd
      have B3 := Lib.hid (B.out.alloc B.out.size (.cells #[.int .i64 x, .int .i64 y] 24))
      have D3 := Lib.hid (D.out.alloc D.out.size (.cells #[.int .i64 x, .int .i64 y] 24))
      have P3 := Lib.hid (Blk.new w2 24 #[.int .i64 x, .int .i64 y])
      clear hd hinv
      go_wp2_with fail
      refine (noontideref10_has x y t _).mono ?_
      rintro e w3 ⟨rfl, b3⟩
      have B4 := Lib.hid (below_step B3.out b3)
      have D4 := Lib.hid (below_step D3.out b3)
      have P4 := Lib.hid (P3.out.on b3)
      clear b3 B3 D3 P3 B D g1 g2 hab
      have p0 := P4.out.c0; have p1 := P4.out.c1
      have K4 := Lib.hid (K1.out.on D4.out)
      have c0 := K4.out.c0; have c1 := K4.out.c1
      cases hh : Sp.hs x y t
      · have E := Lib.hid (show Ss.fd t (l.drop (k + 1)) = (f0', f1', f2') by have := DD.out; rw [hh] at this; simpa using this)
        clear hh DD
        go_wp2
        go_roundw
        case rel => exact ⟨k + 1, by omega, by go_num, E, B4, D4⟩
        case measure => simp [intOf]; omega
      · have E := Lib.hid (show (x, y, true) = (f0', f1', f2') by have := DD.out; rw [hh] at this; simpa using this)
        clear hh DD
        have f0 := K4.out.frozen 0; have f1 := K4.out.frozen 1; have hb := K4.out.lt
        have E4 := Lib.hid (show f0' = x ∧ f1' = y ∧ f2' = true by have := E.out; simp only [Prod.mk.injEq] at this; exact ⟨this.1.symm, this.2.1.symm, this.2.2.symm⟩)
        go_wp2_with fail
        refine bodyPost_ret (v := .tuple #[.agg #[.int .i64 x, .int .i64 y], .bool true]) (by simp [results, Try.results9, go_sem, f0, f1, c0, c1, hb]) rfl ⟨l, R.out.1, R.out.2, by rw [HF0.out, E4.out.1, E4.out.2.1, E4.out.2.2], ?_⟩
        repeat (first | refine Below.setCell ?_ (by first | (simp; done) | (simp; omega) | omega) _ | refine below_drewN ?_ _ | refine Below.drew ?_)
        exact B4.out
    · have E := Lib.hid (show (0, 0, false) = (f0', f1', f2') by rw [← hinv.out, List.drop_of_length_le (by rw [HN.out]; omega)]; rfl)
      clear hinv
      have c0 := K2.out.c0; have c1 := K2.out.c1
      have f0 := K2.out.frozen 0; have f1 := K2.out.frozen 1; have hb := K2.out.lt
      have E4 := Lib.hid (show f0' = 0 ∧ f1' = 0 ∧ f2' = false by have := E.out; simp only [Prod.mk.injEq] at this; exact ⟨this.1.symm, this.2.1.symm, this.2.2.symm⟩)
      go_wp2_with fail
      refine bodyPost_ret (v := .tuple #[.agg #[.int .i64 0, .int .i64 0], .bool false]) (by simp [results, Try.results9, go_sem, f0, f1, c0, c1, hb]) rfl ⟨l, R.out.1, R.out.2, by rw [HF0.out, E4.out.1, E4.out.2.1, E4.out.2.2], ?_⟩
      repeat (first | refine Below.setCell ?_ (by first | (simp; done) | (simp; omega) | omega) _ | refine below_drewN ?_ _ | refine Below.drew ?_)
      exact B.out
set_option maxHeartbeats 4000000 in
theorem rtotal_any (va : Value) (a : List Ss.S) (w : World) (h : SpV w va a) (ha : a.length ≤ 1000) (hB : Ss.B64 a) :
    Calls Try.prog 11 #[va] w fun e w' => ∃ l, Ss.Rs l ∧ (∀ u, Ss.inl l u = Ss.inl a u) ∧ e = .returned (.tuple #[.int .i64 (Ss.tot 0 l).1, .int .i64 (Ss.tot 0 l).2]) ∧ Below w.heap.size w w' := by
  obtain ⟨A, c, rfl, -⟩ := id h
  have C := Lib.hid (rof_any _ a _ h (by omega))
  have HA2 := Lib.hid (show 2 * (a.length + 0) ≤ 2000 by omega)
  have HB := Lib.hid hB
  clear h ha hB
  go_enter Try.func11, Try.ntmps11
  go_wp2_with fail
  refine C.out.mono ?_
  rintro e w1 ⟨v, h1, rfl, h5⟩
  obtain ⟨h2, h3'⟩ := Ss.rof_nil a
  have h4 : (Ss.rof [] a).length ≤ 2 * (a.length + 0) := by have := Ss.rof_len a; omega
  have h3 : ∀ t, Ss.inl (Ss.rof [] a) t = (Ss.inl a t || Ss.inl [] t) := fun t => by rw [h3' t]; simp [Ss.inl]
  generalize Ss.rof [] a = l at *
  clear h3'
  have H := Lib.hid h1
  obtain ⟨A1, c1, rfl, -⟩ := h1
  have hsz : l.length ≤ 2000 := Nat.le_trans h4 HA2.out
  have hi : ∀ u, Ss.inl l u = Ss.inl a u := fun u => by rw [h3 u]; simp [Ss.inl]
  have LB := Lib.hid (Ss.b64_of h2 (fun t ht => by rw [← hi t]; exact ht) HB.out)
  obtain ⟨n, hn⟩ : ∃ n, l.length = n := ⟨_, rfl⟩
  rw [hn] at H hsz ⊢
  have HN := Lib.hid hn
  have R := Lib.hid (And.intro h2 hi)
  have B1 := Lib.hid h5
  have RB := Lib.hid (show ∀ s ∈ l, Sp.rb s.1 s.2 = true from fun s hs => decide_eq_true (h2.2 s hs))
  clear hn h2 h3 h4 h5 C hi
  obtain ⟨f0', f1', hf⟩ : ∃ f0 f1, Ss.tot 0 l = (f0, f1) := ⟨_, _, rfl⟩
  have HF := Lib.hid hf
  have HF0 := Lib.hid hf
  clear hf
  go_wp2_with fail
  go_loopw [4, 14] (fun u i wr => ∃ (k : Nat) (acc : Int), k ≤ n ∧ u = .int .i64 acc ∧ i = .int .i64 k ∧ (-9223372036854775808 ≤ acc ∧ acc ≤ 9223372036854775807) ∧ Hid (Ss.tot acc (l.drop k) = (f0', f1')) ∧ Hid (Below w.heap.size w wr) ∧ Hid (Below w1.heap.size w1 wr)) (fun _ i _ => n - (intOf i).toNat)
  case atStart => exact ⟨0, 0, Nat.zero_le _, rfl, rfl, by omega, HF, B1, Lib.hid (Below.refl _ _)⟩
  case round =>
    rename World => w2
    obtain ⟨k, acc, hk, rfl, rfl, hacc, hinv, B, D⟩ := hrel
    by_cases hlt : k < n
    · have hkl : k < l.length := by rw [HN.out]; exact hlt
      have hd := hinv.out
      rw [Ss.tot_drop acc l k hkl] at hd
      have hbx := LB.out l[k] (List.getElem_mem hkl)
      have hrb := RB.out l[k] (List.getElem_mem hkl)
      obtain ⟨ad, rfl, hab, g1, g2⟩ := (H.out.on D.out).get k hkl
      generalize l[k].1 = x at *
      generalize l[k].2 = y at *
      have i1 : (k : Int) < n := by omega
      have DD := Lib.hid hd
      have BX := Lib.hid hbx
      have AC := Lib.hid hacc
      have B3 := Lib.hid (B.out.alloc B.out.size (.cells #[.int .i64 x, .int .i64 y] 24))
      have D3 := Lib.hid (D.out.alloc D.out.size (.cells #[.int .i64 x, .int .i64 y] 24))
      have eln : Sp.ln x y = Nm.okv (y - x) := by unfold Sp.ln; rw [hrb]; rfl
      have elw : Sp.lw x y = Nm.okw (y - x) := by unfold Sp.lw; rw [hrb]; rfl
      have EL := Lib.hid (And.intro eln elw)
      clear hd hinv hbx hacc hrb eln elw
      go_wp2_with fail
      refine (noontideref10_len x y _ BX.out.1.1 BX.out.1.2 BX.out.2.1 BX.out.2.2).mono ?_
      rintro e w3 ⟨rfl, b3⟩
      rw [EL.out.1, EL.out.2]
      have B4 := Lib.hid (below_step B3.out b3)
      have D4 := Lib.hid (below_step D3.out b3)
      clear b3 B3 D3 B D g1 g2 hab EL
      cases hf : Nm.fits (y - x)
      · have e1 : Nm.okv (y - x) = 0 := by unfold Nm.okv; rw [hf]; rfl
        have e2 : Nm.okw (y - x) = 1 := by unfold Nm.okw; rw [hf]; rfl
        have E := Lib.hid (show (0, 1) = (f0', f1') by have := DD.out; rw [hf] at this; simpa using this)
        rw [e1, e2]
        clear e1 e2 hf DD
        go_wp2_with fail
        refine (ref_add acc 0 _ AC.out.1 AC.out.2 (by decide) (by decide)).mono ?_
        rintro e w4 ⟨rfl, b4⟩
        have B5 := Lib.hid (below_step B4.out b4)
        generalize Nm.okv (acc + 0) = q1 at *
        generalize Nm.okw (acc + 0) = q2 at *
        go_wp2
        go_ret2
        exact ⟨l, R.out.1, R.out.2, by rw [HF0.out, ← E.out]; rfl, B5.out⟩
      · have e1 : Nm.okv (y - x) = y - x := by unfold Nm.okv; rw [hf]; rfl
        have e2 : Nm.okw (y - x) = 0 := by unfold Nm.okw; rw [hf]; rfl
        have hff := Nm.fits_true.1 hf
        obtain ⟨dl, hdl⟩ : ∃ dl, y - x = dl := ⟨_, rfl⟩
        rw [e1, e2, hdl]
        rw [hdl] at hf hff
        have DX := Lib.hid hdl
        have FF := Lib.hid hff
        have HFF := Lib.hid hf
        clear e1 e2 hf hdl hff
        go_wp2_with fail
        refine (ref_add acc dl _ AC.out.1 AC.out.2 FF.out.1 FF.out.2).mono ?_
        rintro e w4 ⟨rfl, b4⟩
        have B5 := Lib.hid (below_step B4.out b4)
        have D5 := Lib.hid (below_step D4.out b4)
        clear b4 B4 D4
        cases hg : Nm.fits (acc + dl)
        · have e1 : Nm.okv (acc + dl) = 0 := by unfold Nm.okv; rw [hg]; rfl
          have e2 : Nm.okw (acc + dl) = 1 := by unfold Nm.okw; rw [hg]; rfl
          have E := Lib.hid (show (0, 1) = (f0', f1') by have := DD.out; rw [DX.out, HFF.out, hg] at this; simpa using this)
          rw [e1, e2]
          clear e1 e2 hg DD
          go_wp2
          go_ret2
          exact ⟨l, R.out.1, R.out.2, by rw [HF0.out, ← E.out]; rfl, B5.out⟩
        · have e1 : Nm.okv (acc + dl) = acc + dl := by unfold Nm.okv; rw [hg]; rfl
          have e2 : Nm.okw (acc + dl) = 0 := by unfold Nm.okw; rw [hg]; rfl
          have E := Lib.hid (show Ss.tot (acc + dl) (l.drop (k + 1)) = (f0', f1') by have := DD.out; rw [DX.out, HFF.out, hg] at this; simpa using this)
          have G := Lib.hid (Nm.fits_true.1 hg)
          obtain ⟨na, hna⟩ : ∃ na, acc + dl = na := ⟨_, rfl⟩
          rw [e1, e2, hna]
          rw [hna] at E G
          clear e1 e2 hg hna DD
          go_wp2
          go_roundw
          case rel => exact ⟨k + 1, na, by omega, rfl, by go_num, G.out, E, B5, D5⟩
          case measure => simp [intOf]; omega
    · have E := Lib.hid (show (acc, 0) = (f0', f1') by rw [← hinv.out, List.drop_of_length_le (by rw [HN.out]; omega)]; rfl)
      clear hinv
      go_wp2
      go_ret2
      exact ⟨l, R.out.1, R.out.2, by rw [HF0.out, ← E.out]; rfl, B.out⟩
end Go.Proofs.Ytnfjdjfajkdiiaa
