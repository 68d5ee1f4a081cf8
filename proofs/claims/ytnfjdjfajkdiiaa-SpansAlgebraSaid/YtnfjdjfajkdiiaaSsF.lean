/- Sets of spans: the contract of the program's Total. -/
import Derived.Test.YtnfjdjfajkdiiaaSsD
import Derived.Test.YtnfjdjfajkdiiaaSpB1
import Derived.Test.YtnfjdjfajkdiiaaNumG
set_option linter.unusedVariables false
set_option linter.unusedSimpArgs false
namespace Go.Proofs.Ytnfjdjfajkdiiaa
open Go.RowKit Go.Sort Go.Shelf

namespace Ss
/-- How many seconds there are, and why that is not told. -/
def tot : Int → List S → Int × Int
  | acc, [] => (acc, 0)
  | acc, p :: r => if Nm.fits (p.2 - p.1) && Nm.fits (acc + (p.2 - p.1)) then tot (acc + (p.2 - p.1)) r else (0, 1)
theorem tot_drop (acc : Int) (l : List S) (k : Nat) (h : k < l.length) : tot acc (l.drop k) = if Nm.fits (l[k].2 - l[k].1) && Nm.fits (acc + (l[k].2 - l[k].1)) then tot (acc + (l[k].2 - l[k].1)) (l.drop (k + 1)) else (0, 1) := by
  rw [List.drop_eq_getElem_cons h]; rfl
/-- Is every end one of 64 bits? -/
def B64 (l : List S) : Prop := ∀ s ∈ l, (-9223372036854775808 ≤ s.1 ∧ s.1 ≤ 9223372036854775807) ∧ (-9223372036854775808 ≤ s.2 ∧ s.2 ≤ 9223372036854775807)
theorem b64_of {l a : List S} (h : Rs l) (hi : ∀ t, inl l t = true → inl a t = true) (ha : B64 a) : B64 l := by
  intro s hs
  have h0 := h.2 s hs
  have hin : ∀ t, s.1 ≤ t → t < s.2 → inl a t = true := fun t h1 h2 => hi t (by unfold inl; exact List.any_eq_true.2 ⟨s, hs, by simp [Sp.hs, h1, h2]⟩)
  obtain ⟨u, hu, a0, a1⟩ := inl_lt (hin s.1 (Int.le_refl _) h0)
  obtain ⟨v, hv, b0, b1⟩ := inl_lt (hin (s.2 - 1) (by omega) (by omega))
  have := ha u hu
  have := ha v hv
  omega
end Ss
set_option maxHeartbeats 4000000 in
theorem total_any (va : Value) (a : List Ss.S) (w : World) (h : SpV w va a) (ha : a.length ≤ 1000) (hB : Ss.B64 a) :
    Calls Try.prog 10 #[va] w fun e w' => ∃ l, Ss.Rs l ∧ (∀ u, Ss.inl l u = Ss.inl a u) ∧ e = .returned (.tuple #[.int .i64 (Ss.tot 0 l).1, .int .i64 (Ss.tot 0 l).2]) ∧ Below w.heap.size w w' := by
  obtain ⟨A, c, rfl, -⟩ := id h
  have C := Lib.hid (spans_of _ a _ h ha)
  have HA2 := Lib.hid (show 2 * (a.length + 0) ≤ 2000 by omega)
  have HB := Lib.hid hB
  clear h ha hB
  go_enter Try.func10, Try.ntmps10
  go_wp2_with fail
  refine C.out.mono ?_
  rintro e w1 ⟨v, l, rfl, h1, h2, h3, h4, h5⟩
  have H := Lib.hid h1
  obtain ⟨A1, c1, rfl, -⟩ := h1
  have hsz : l.length ≤ 2000 := Nat.le_trans h4 HA2.out
  have hi : ∀ u, Ss.inl l u = Ss.inl a u := fun u => by rw [h3 u]; simp [Ss.inl]
  have LB := Lib.hid (Ss.b64_of h2 (fun t ht => by rw [← hi t]; exact ht) HB.out)
  obtain ⟨n, hn⟩ : ∃ n, l.length = n := ⟨_, rfl⟩
  rw [hn] at H hsz ⊢
  have HN := Lib.hid hn
  have R := Lib.hid (And.intro h2 hi)
  have B1 := Lib.hid h5
  have RB := Lib.hid (show ∀ s ∈ l, Sp.rb s.1 s.2 = true from fun s hs => decide_eq_true (h2.2 s hs))
  clear hn h2 h3 h4 h5 C hi
  obtain ⟨f0', f1', hf⟩ : ∃ f0 f1, Ss.tot 0 l = (f0, f1) := ⟨_, _, rfl⟩
  have HF := Lib.hid hf
  have HF0 := Lib.hid hf
  clear hf
  go_wp2_with fail
  go_loopw [4, 12] (fun u i wr => ∃ (k : Nat) (acc : Int), k ≤ n ∧ u = .int .i64 acc ∧ i = .int .i64 k ∧ (-9223372036854775808 ≤ acc ∧ acc ≤ 9223372036854775807) ∧ Hid (Ss.tot acc (l.drop k) = (f0', f1')) ∧ Hid (Below w.heap.size w wr) ∧ Hid (Below w1.heap.size w1 wr)) (fun _ i _ => n - (intOf i).toNat)
  case atStart => exact ⟨0, 0, Nat.zero_le _, rfl, rfl, by omega, HF, B1, Lib.hid (Below.refl _ _)⟩
  case round =>
    rename World => w2
    obtain ⟨k, acc, hk, rfl, rfl, hacc, hinv, B, D⟩ := hrel
    by_cases hlt : k < n
    · have hkl : k < l.length := by rw [HN.out]; exact hlt
      have hd := hinv.out
      rw [Ss.tot_drop acc l k hkl] at hd
      have hbx := LB.out l[k] (List.getElem_mem hkl)
      have hrb := RB.out l[k] (List.getElem_mem hkl)
      obtain ⟨ad, rfl, hab, g1, g2⟩ := (H.out.on D.out).get k hkl
      generalize l[k].1 = x at *
      generalize l[k].2 = y at *
      have i1 : (k : Int) < n := by omega
      have DD := Lib.hid hd
      have BX := Lib.hid hbx
      have AC := Lib.hid hacc
      have B3 := Lib.hid (B.out.alloc B.out.size (.cells #[.int .i64 x, .int .i64 y] 24))
      have D3 := Lib.hid (D.out.alloc D.out.size (.cells #[.int .i64 x, .int .i64 y] 24))
      have eln : Sp.ln x y = Nm.okv (y - x) := by unfold Sp.ln; rw [hrb]; rfl
      have elw : Sp.lw x y = Nm.okw (y - x) := by unfold Sp.lw; rw [hrb]; rfl
      have EL := Lib.hid (And.intro eln elw)
      clear hd hinv hbx hacc hrb eln elw
      go_wp2_with fail
      refine (span_len x y _ BX.out.1.1 BX.out.1.2 BX.out.2.1 BX.out.2.2).mono ?_
      rintro e w3 ⟨rfl, b3⟩
      rw [EL.out.1, EL.out.2]
      have B4 := Lib.hid (below_step B3.out b3)
      have D4 := Lib.hid (below_step D3.out b3)
      clear b3 B3 D3 B D g1 g2 hab EL
      cases hf : Nm.fits (y - x)
      · have e1 : Nm.okv (y - x) = 0 := by unfold Nm.okv; rw [hf]; rfl
        have e2 : Nm.okw (y - x) = 1 := by unfold Nm.okw; rw [hf]; rfl
        have E := Lib.hid (show (0, 1) = (f0', f1') by have := DD.out; rw [hf] at this; simpa using this)
        rw [e1, e2]
        clear e1 e2 hf DD
        go_wp2
        go_ret2
        exact ⟨l, R.out.1, R.out.2, by rw [HF0.out, ← E.out]; rfl, B4.out⟩
      · have e1 : Nm.okv (y - x) = y - x := by unfold Nm.okv; rw [hf]; rfl
        have e2 : Nm.okw (y - x) = 0 := by unfold Nm.okw; rw [hf]; rfl
        have hff := Nm.fits_true.1 hf
        obtain ⟨dl, hdl⟩ : ∃ dl, y - x = dl := ⟨_, rfl⟩
        rw [e1, e2, hdl]
        rw [hdl] at hf hff
        have DX := Lib.hid hdl
        have FF := Lib.hid hff
        have HFF := Lib.hid hf
        clear e1 e2 hf hdl hff
        go_wp2_with fail
        refine (nadd_b acc dl _ AC.out.1 AC.out.2 FF.out.1 FF.out.2).mono ?_
        rintro e w4 ⟨rfl, b4⟩
        have B5 := Lib.hid (below_step B4.out b4)
        have D5 := Lib.hid (below_step D4.out b4)
        clear b4 B4 D4
        cases hg : Nm.fits (acc + dl)
        · have e1 : Nm.okv (acc + dl) = 0 := by unfold Nm.okv; rw [hg]; rfl
          have e2 : Nm.okw (acc + dl) = 1 := by unfold Nm.okw; rw [hg]; rfl
          have E := Lib.hid (show (0, 1) = (f0', f1') by have := DD.out; rw [DX.out, HFF.out, hg] at this; simpa using this)
          rw [e1, e2]
          clear e1 e2 hg DD
          go_wp2
          go_ret2
          exact ⟨l, R.out.1, R.out.2, by rw [HF0.out, ← E.out]; rfl, B5.out⟩
        · have e1 : Nm.okv (acc + dl) = acc + dl := by unfold Nm.okv; rw [hg]; rfl
          have e2 : Nm.okw (acc + dl) = 0 := by unfold Nm.okw; rw [hg]; rfl
          have E := Lib.hid (show Ss.tot (acc + dl) (l.drop (k + 1)) = (f0', f1') by have := DD.out; rw [DX.out, HFF.out, hg] at this; simpa using this)
          have G := Lib.hid (Nm.fits_true.1 hg)
          obtain ⟨na, hna⟩ : ∃ na, acc + dl = na := ⟨_, rfl⟩
          rw [e1, e2, hna]
          rw [hna] at E G
          clear e1 e2 hg hna DD
          go_wp2
          go_roundw
          case rel => exact ⟨k + 1, na, by omega, rfl, by go_num, G.out, E, B5, D5⟩
          case measure => simp [intOf]; omega
    · have E := Lib.hid (show (acc, 0) = (f0', f1') by rw [← hinv.out, List.drop_of_length_le (by rw [HN.out]; omega)]; rfl)
      clear hinv
      go_wp2
      go_ret2
      exact ⟨l, R.out.1, R.out.2, by rw [HF0.out, ← E.out]; rfl, B.out⟩
end Go.Proofs.Ytnfjdjfajkdiiaa
