/- Joined: SsF, SsH. -/
import Derived.Test.YtnfjdjfajkdiiaaSsD
import Derived.Test.YtnfjdjfajkdiiaaSpB1
import Derived.Test.YtnfjdjfajkdiiaaNumG
set_option linter.unusedVariables false
set_option linter.unusedSimpArgs false
namespace Go.Proofs.Ytnfjdjfajkdiiaa
section
open Go.RowKit Go.Sort Go.Shelf

namespace Ss
/-- How many seconds there are, and why that is not told. -/
def tot : Int → List S → Int × Int
  | acc, [] => (acc, 0)
  | acc, p :: r => if Nm.fits (p.2 - p.1) && Nm.fits (acc + (p.2 - p.1)) then tot (acc + (p.2 - p.1)) r else (0, 1)
theorem tot_drop (acc : Int) (l : List S) (k : Nat) (h : k < l.length) : tot acc (l.drop k) = if Nm.fits (l[k].2 - l[k].1) && Nm.fits (acc + (l[k].2 - l[k].1)) then tot (acc + (l[k].2 - l[k].1)) (l.drop (k + 1)) else (0, 1) := by
  rw [List.drop_eq_getElem_cons h]; rfl
/-- Is every end one of 64 bits? -/
def B64 (l : List S) : Prop := ∀ s ∈ l, (-9223372036854775808 ≤ s.1 ∧ s.1 ≤ 9223372036854775807) ∧ (-9223372036854775808 ≤ s.2 ∧ s.2 ≤ 9223372036854775807)
theorem b64_of {l a : List S} (h : Rs l) (hi : ∀ t, inl l t = true → inl a t = true) (ha : B64 a) : B64 l := by
  intro s hs
  have h0 := h.2 s hs
  have hin : ∀ t, s.1 ≤ t → t < s.2 → inl a t = true := fun t h1 h2 => hi t (by unfold inl; exact List.any_eq_true.2 ⟨s, hs, by simp [Sp.hs, h1, h2]⟩)
  obtain ⟨u, hu, a0, a1⟩ := inl_lt (hin s.1 (Int.le_refl _) h0)
  obtain ⟨v, hv, b0, b1⟩ := inl_lt (hin (s.2 - 1) (by omega) (by omega))
  have := ha u hu
  have := ha v hv
  omega
end Ss
set_option maxHeartbeats 4000000 in
theorem total_any (va : Value) (a : List Ss.S) (w : World) (h : SpV w va a) (ha : a.length ≤ 1000) (hB : Ss.B64 a) :
    Calls Try.prog 10 #[va] w fun e w' => ∃ l, Ss.Rs l ∧ (∀ u, Ss.inl l u = Ss.inl a u) ∧ e = .returned (.tuple #[.int .i64 (Ss.tot 0 l).1, .int .i64 (Ss.tot 0 l).2]) ∧ Below w.heap.size w w' := by
  obtain ⟨A, c, rfl, -⟩ := id h
  have C := Lib.hid (spans_of _ a _ h ha)
  have HA2 := Lib.hid (show 2 * (a.length + 0) ≤ 2000 by omega)
  have HB := Lib.hid hB
  clear h ha hB
  go_enter Try.func10, Try.ntmps10
  go_wp2_with fail
  refine C.out.mono ?_
  rintro e w1 ⟨v, l, rfl, h1, h2, h3, h4, h5⟩
  have H := Lib.hid h1
  obtain ⟨A1, c1, rfl, -⟩ := h1
  have hsz : l.length ≤ 2000 := Nat.le_trans h4 HA2.out
  have hi : ∀ u, Ss.inl l u = Ss.inl a u := fun u => by rw [h3 u]; simp [Ss.inl]
  have LB := Lib.hid (Ss.b64_of h2 (fun t ht => by rw [← hi t]; exact ht) HB.out)
  obtain ⟨n, hn⟩ : ∃ n, l.length = n := ⟨_, rfl⟩
  rw [hn] at H hsz ⊢
  have HN := Lib.hid hn
  have R := Lib.hid (And.intro h2 hi)
  have B1 := Lib.hid h5
  have RB := Lib.hid (show ∀ s ∈ l, Sp.rb s.1 s.2 = true from fun s hs => decide_eq_true (h2.2 s hs))
  clear hn h2 h3 h4 h5 C hi
  obtain ⟨f0', f1', hf⟩ : ∃ f0 f1, Ss.tot 0 l = (f0, f1) := ⟨_, _, rfl⟩
  have HF := Lib.hid hf
  have HF0 := Lib.hid hf
  clear hf
  go_wp2_with fail
  go_loopw [4, 12] (fun u i wr => ∃ (k : Nat) (acc : Int), k ≤ n ∧ u = .int .i64 acc ∧ i = .int .i64 k ∧ (-9223372036854775808 ≤ acc ∧ acc ≤ 9223372036854775807) ∧ Hid (Ss.tot acc (l.drop k) = (f0', f1')) ∧ Hid (Below w.heap.size w wr) ∧ Hid (Below w1.heap.size w1 wr)) (fun _ i _ => n - (intOf i).toNat)
  case atStart => exact ⟨0, 0, Nat.zero_le _, rfl, rfl, by omega, HF, B1, Lib.hid (Below.refl _ _)⟩
  case round =>
    rename World => w2
    obtain ⟨k, acc, hk, rfl, rfl, hacc, hinv, B, D⟩ := hrel
    by_cases hlt : k < n
    · have hkl : k < l.length := by rw [HN.out]; exact hlt
      have hd := hinv.out
      rw [Ss.tot_drop acc l k hkl] at hd
      have hbx := LB.out l[k] (List.getElem_mem hkl)
      have hrb := RB.out l[k] (List.getElem_mem hkl)
      obtain ⟨ad, rfl, hab, g1, g2⟩ := (H.out.on D.out).get k hkl
      generalize l[k].1 = x at *
      generalize l[k].2 = y at *
      have i1 : (k : Int) < n := by omega
      have DD := Lib.hid hd
      have BX := Lib.hid hbx
      have AC := Lib.hid hacc
      have B3 := Lib.hid (B.out.alloc B.out.size (.cells #[.int .i64 x, .int .i64 y] 24))
      have D3 := Lib.hid (D.out.alloc D.out.size (.cells #[.int .i64 x, .int .i64 y] 24))
      have eln : Sp.ln x y = Nm.okv (y - x) := by unfold Sp.ln; rw [hrb]; rfl
      have elw : Sp.lw x y = Nm.okw (y - x) := by unfold Sp.lw; rw [hrb]; rfl
      have EL := Lib.hid (And.intro eln elw)
      clear hd hinv hbx hacc hrb eln elw
      go_wp2_with fail
      refine (span_len x y _ BX.out.1.1 BX.out.1.2 BX.out.2.1 BX.out.2.2).mono ?_
      rintro e w3 ⟨rfl, b3⟩
      rw [EL.out.1, EL.out.2]
      have B4 := Lib.hid (below_step B3.out b3)
      have D4 := Lib.hid (below_step D3.out b3)
      clear b3 B3 D3 B D g1 g2 hab EL
      cases hf : Nm.fits (y - x)
      · have e1 : Nm.okv (y - x) = 0 := by unfold Nm.okv; rw [hf]; rfl
        have e2 : Nm.okw (y - x) = 1 := by unfold Nm.okw; rw [hf]; rfl
        have E := Lib.hid (show (0, 1) = (f0', f1') by have := DD.out; rw [hf] at this; simpa using this)
        rw [e1, e2]
        clear e1 e2 hf DD
        go_wp2
        go_ret2
        exact ⟨l, R.out.1, R.out.2, by rw [HF0.out, ← E.out]; rfl, B4.out⟩
      · have e1 : Nm.okv (y - x) = y - x := by unfold Nm.okv; rw [hf]; rfl
        have e2 : Nm.okw (y - x) = 0 := by unfold Nm.okw; rw [hf]; rfl
        have hff := Nm.fits_true.1 hf
        obtain ⟨dl, hdl⟩ : ∃ dl, y - x = dl := ⟨_, rfl⟩
        rw [e1, e2, hdl]
        rw [hdl] at hf hff
        have DX := Lib.hid hdl
        have FF := Lib.hid hff
        have HFF := Lib.hid hf
        clear e1 e2 hf hdl hff
        go_wp2_with fail
        refine (nadd_b acc dl _ AC.out.1 AC.out.2 FF.out.1 FF.out.2).mono ?_
        rintro e w4 ⟨rfl, b4⟩
        have B5 := Lib.hid (below_step B4.out b4)
        have D5 := Lib.hid (below_step D4.out b4)
        clear b4 B4 D4
        cases hg : Nm.fits (acc + dl)
        · have e1 : Nm.okv (acc + dl) = 0 := by unfold Nm.okv; rw [hg]; rfl
          have e2 : Nm.okw (acc + dl) = 1 := by unfold Nm.okw; rw [hg]; rfl
          have E := Lib.hid (show (0, 1) = (f0', f1') by have := DD.out; rw [DX.out, HFF.out, hg] at this; simpa using this)
          rw [e1, e2]
          clear e1 e2 hg DD
          go_wp2
          go_ret2
          exact ⟨l, R.out.1, R.out.2, by rw [HF0.out, ← E.out]; rfl, B5.out⟩
        · have e1 : Nm.okv (acc + dl) = acc + dl := by unfold Nm.okv; rw [hg]; rfl
          have e2 : Nm.okw (acc + dl) = 0 := by unfold Nm.okw; rw [hg]; rfl
          have E := Lib.hid (show Ss.tot (acc + dl) (l.drop (k + 1)) = (f0', f1') by have := DD.out; rw [DX.out, HFF.out, hg] at this; simpa using this)
          have G := Lib.hid (Nm.fits_true.1 hg)
          obtain ⟨na, hna⟩ : ∃ na, acc + dl = na := ⟨_, rfl⟩
          rw [e1, e2, hna]
          rw [hna] at E G
          clear e1 e2 hg hna DD
          go_wp2
          go_roundw
          case rel => exact ⟨k + 1, na, by omega, rfl, by go_num, G.out, E, B5, D5⟩
          case measure => simp [intOf]; omega
    · have E := Lib.hid (show (acc, 0) = (f0', f1') by rw [← hinv.out, List.drop_of_length_le (by rw [HN.out]; omega)]; rfl)
      clear hinv
      go_wp2
      go_ret2
      exact ⟨l, R.out.1, R.out.2, by rw [HF0.out, ← E.out]; rfl, B.out⟩
end
section
open Go.RowKit Go.Sort Go.Shelf

namespace Ss
/-- All seconds, span by span. -/
def ln : List S → Int
  | [] => 0
  | s :: l => (s.2 - s.1) + ln l
/-- How many of n seconds from lo on have a mark. -/
def cn (f : Int → Bool) (lo : Int) : Nat → Int
  | 0 => 0
  | n + 1 => cn f lo n + cond (f (lo + n)) 1 0
theorem cn_nn (f : Int → Bool) (lo : Int) (n : Nat) : 0 ≤ cn f lo n := by
  induction n with
  | zero => exact Int.le_refl _
  | succ n ih => rw [cn]; cases f (lo + n) <;> simp <;> omega
theorem cn_or (f g : Int → Bool) (lo : Int) (n : Nat) : cn (fun t => f t || g t) lo n + cn (fun t => f t && g t) lo n = cn f lo n + cn g lo n := by
  induction n with
  | zero => rfl
  | succ n ih => simp only [cn]; cases f (lo + n) <;> cases g (lo + n) <;> simp <;> omega
theorem cn_le {f g : Int → Bool} (h : ∀ t, f t = true → g t = true) (lo : Int) (n : Nat) : cn f lo n ≤ cn g lo n := by
  induction n with
  | zero => exact Int.le_refl _
  | succ n ih =>
    simp only [cn]
    have := h (lo + n)
    cases hf : f (lo + n) <;> cases hg : g (lo + n) <;> simp_all <;> omega
theorem cn_congr {f g : Int → Bool} (h : ∀ t, f t = g t) (lo : Int) (n : Nat) : cn f lo n = cn g lo n := by
  rw [show f = g from funext h]
theorem cn_no {f : Int → Bool} (h : ∀ t, f t = false) (lo : Int) (n : Nat) : cn f lo n = 0 := by
  induction n with
  | zero => rfl
  | succ n ih => simp only [cn, ih, h]; rfl
theorem cn_hs (a b lo : Int) (h1 : lo ≤ a) (h2 : a ≤ b) (n : Nat) : cn (fun t => Sp.hs a b t) lo n = max 0 (min b (lo + n) - a) := by
  induction n with
  | zero => simp only [cn]; omega
  | succ n ih =>
    simp only [cn, ih]
    cases hh : Sp.hs a b (lo + n)
    · simp [Sp.hs] at hh; simp; omega
    · simp [Sp.hs] at hh; simp; omega
theorem cn_ln (lo : Int) (n : Nat) : ∀ l : List S, Rs l → (∀ s ∈ l, lo ≤ s.1 ∧ s.2 ≤ lo + n) → cn (inl l) lo n = ln l := by
  intro l
  induction l with
  | nil => intro _ _; exact cn_no (fun _ => rfl) lo n
  | cons s l ih =>
    intro h hb
    obtain ⟨p1, p2⟩ := List.pairwise_cons.1 h.1
    have h0 := h.2 s (List.mem_cons_self ..)
    have h3 := hb s (List.mem_cons_self ..)
    have hl := ih ⟨p2, fun x hx => h.2 x (List.mem_cons_of_mem _ hx)⟩ (fun x hx => hb x (List.mem_cons_of_mem _ hx))
    have e := cn_or (fun t => Sp.hs s.1 s.2 t) (inl l) lo n
    have z : cn (fun t => Sp.hs s.1 s.2 t && inl l t) lo n = 0 := by
      refine cn_no (fun t => ?_) lo n
      cases hi : inl l t
      · exact Bool.and_false _
      · obtain ⟨v, hv, c, d⟩ := inl_lt hi
        have := p1 v hv
        simp [Sp.hs]; omega
    have i : cn (inl (s :: l)) lo n = cn (fun t => Sp.hs s.1 s.2 t || inl l t) lo n := rfl
    rw [i, ln, ← hl]
    have q := cn_hs s.1 s.2 lo h3.1 (by omega) n
    omega
theorem bounds (l : List S) : ∃ lo hi, lo ≤ hi ∧ ∀ s ∈ l, lo ≤ s.1 ∧ s.2 ≤ hi := by
  induction l with
  | nil => exact ⟨0, 0, Int.le_refl _, fun s hs => absurd hs (by simp)⟩
  | cons s l ih =>
    obtain ⟨lo, hi, h, ih⟩ := ih
    refine ⟨min lo s.1, max hi s.2, by omega, fun x hx => ?_⟩
    rcases List.mem_cons.1 hx with rfl | hx
    · omega
    · have := ih x hx; omega
/-- What is in one at least, and what is in both: together as much as both. -/
theorem ln_or {l k o n : List S} (hl : Rs l) (hk : Rs k) (ho : Rs o) (hn : Rs n) (eo : ∀ t, inl o t = (inl l t || inl k t)) (en : ∀ t, inl n t = (inl l t && inl k t)) : ln o + ln n = ln l + ln k := by
  obtain ⟨lo, hi, h, hb⟩ := bounds (l ++ k ++ o ++ n)
  obtain ⟨m, hm⟩ : ∃ m : Nat, hi = lo + m := ⟨(hi - lo).toNat, by omega⟩
  subst hm
  have c := fun (x : List S) (hx : Rs x) (hs : ∀ s ∈ x, s ∈ l ++ k ++ o ++ n) => cn_ln lo m x hx fun s q => hb s (hs s q)
  rw [← c l hl fun s q => by simp [q], ← c k hk fun s q => by simp [q], ← c o ho fun s q => by simp [q], ← c n hn fun s q => by simp [q], cn_congr eo, cn_congr en]
  exact cn_or _ _ _ _
theorem ln_nn {l : List S} (h : Rs l) : 0 ≤ ln l := by
  induction l with
  | nil => exact Int.le_refl _
  | cons s l ih =>
    have := h.2 s (List.mem_cons_self ..)
    have := ih ⟨(List.pairwise_cons.1 h.1).2, fun x hx => h.2 x (List.mem_cons_of_mem _ hx)⟩
    rw [ln]; omega
/-- A total is told just if it is one of 64 bits. -/
theorem tot_eq (l : List S) : ∀ acc : Int, 0 ≤ acc → Rs l → tot acc l = if l = [] ∨ acc + ln l ≤ 9223372036854775807 then (acc + ln l, 0) else (0, 1) := by
  induction l with
  | nil => intro acc _ _; simp [tot, ln]
  | cons s l ih =>
    intro acc ha h
    have h0 := h.2 s (List.mem_cons_self ..)
    have hr : Rs l := ⟨(List.pairwise_cons.1 h.1).2, fun x hx => h.2 x (List.mem_cons_of_mem _ hx)⟩
    have hn := ln_nn hr
    rw [tot, ih _ (by omega) hr]
    simp only [ln, reduceCtorEq, false_or]
    by_cases hf : Nm.fits (s.2 - s.1) && Nm.fits (acc + (s.2 - s.1))
    · rw [if_pos hf]
      by_cases hl : l = []
      · subst hl
        rw [if_pos (.inl rfl), if_pos]
        · simp [ln]
        · simp [Nm.fits] at hf; simp [ln]; omega
      · simp only [hl, false_or]
        rw [show acc + (s.2 - s.1) + ln l = acc + (s.2 - s.1 + ln l) by omega]
    · rw [if_neg hf, if_neg]
      simp [Nm.fits] at hf
      omega
end Ss
end
end Go.Proofs.Ytnfjdjfajkdiiaa
