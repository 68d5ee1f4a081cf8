/- Parts: the reference's sums, Total and Mean. -/
import Derived.Test.YtckcmhnhmobadaaMnE0
import Derived.Test.YtckcmhnhmobadaaSpB0
import Derived.Test.YtckcmhnhmobadaaRlS
import Derived.Maps.AppendAt
set_option linter.unusedVariables false
set_option linter.unusedSimpArgs false
namespace Go.Proofs.Ytckcmhnhmobadaa
open Go.RowKit Go.Sort Go.Shelf

namespace Mn
theorem cnt_snoc_yes {s0 s1 : Int} {l : List P} {k : Nat} (h : k < l.length) (hm : Sp.mt l[k].1 l[k].2.1 s0 s1 = true) : cnt s0 s1 (l.take (k + 1)) = cnt s0 s1 (l.take k) ++ [(max l[k].1 s0, min l[k].2.1 s1, l[k].2.2)] := by
  rw [cnt_take _ _ _ _ h]; unfold bt; rw [if_pos hm]; rfl
theorem cnt_snoc_no {s0 s1 : Int} {l : List P} {k : Nat} (h : k < l.length) (hm : Sp.mt l[k].1 l[k].2.1 s0 s1 = false) : cnt s0 s1 (l.take (k + 1)) = cnt s0 s1 (l.take k) := by
  rw [cnt_take _ _ _ _ h]; unfold bt; rw [if_neg (by rw [hm]; decide)]; simp
end Mn
/-- Two rows of the call's own, apart from each other. -/
structure Two (w : World) (base : Nat) (e : TypeId) (v u : Value) (l k : List Nat) : Prop where
  a : w.ownsRow base e 1 v l.length (flc l)
  b : w.ownsRow base e 1 u k.length (flc k)
  ne : v.ownBlock = none ∨ u.ownBlock = none ∨ v.ownBlock ≠ u.ownBlock
theorem own_lt {w : World} {base : Nat} {e : TypeId} {size : Nat} {v : Value} {n : Nat} {xs : List Value} (h : w.ownsRow base e size v n xs) {g : Nat} (hg : v.ownBlock = some g) : g < w.heap.size := (h.lt g hg).2
theorem Two.on {w w' : World} {base : Nat} {e : TypeId} {v u : Value} {l k : List Nat} (h : Two w base e v u l k) (hb : Below w.heap.size w w') : Two w' base e v u l k := ⟨own_on h.a hb, own_on h.b hb, h.ne⟩
theorem Two.push {w w' : World} {base : Nat} {e : TypeId} {v u v' : Value} {l k : List Nat} {x N : Nat} (h : Two w base e v u l k) (ho : w'.ownsRow base e 1 v' (l.length + 1) (flc l ++ [.float .f64 x])) (hg : w.grownBy w' v.ownBlock) (hN : N = w.heap.size) (hat : v'.ownBlock = v.ownBlock ∨ v'.ownBlock = some N) : Two w' base e v' u (l ++ [x]) k := by
  have hu : u.ownBlock = none ∨ u.ownBlock ≠ v.ownBlock := by
    rcases h.ne with h0 | h0 | h0
    · cases hu : u.ownBlock
      · exact .inl rfl
      · right; rw [h0]; simp
    · exact .inl h0
    · exact .inr h0.symm
  refine ⟨by simpa [flc] using ho, h.b.kept hg hu, ?_⟩
  rcases hat with e' | e'
  · rw [e']; exact h.ne
  · cases hb : u.ownBlock with
    | none => exact .inr (.inl rfl)
    | some g =>
      right; right
      rw [e']
      intro e2
      have := own_lt h.b hb
      injection e2 with e2
      omega
theorem Two.swap {w : World} {base : Nat} {e : TypeId} {v u : Value} {l k : List Nat} (h : Two w base e v u l k) : Two w base e u v k l := ⟨h.b, h.a, by
  rcases h.ne with h0 | h0 | h0
  · exact .inr (.inl h0)
  · exact .inl h0
  · exact .inr (.inr h0.symm)⟩
set_option maxRecDepth 100000 in
set_option maxHeartbeats 4000000 in
theorem rsums_any (v : Value) (l : List Mn.P) (s0 s1 : Int) (w : World) (h : PtV w v l) (hm : l.length ≤ 1000000) :
    Calls Try.prog 61 #[v, .agg #[.int .i64 s0, .int .i64 s1]] w fun e w' => ∃ r q, Fl.Eqv r (Fl.csum (Mn.lens (Mn.cnt s0 s1 l))) ∧ Fl.Eqv q (Fl.csum (Mn.prods (Mn.cnt s0 s1 l))) ∧ e = .returned (.tuple #[.float .f64 r, .float .f64 q]) ∧ Below w.heap.size w w' := by
  have H := Lib.hid h
  obtain ⟨A, c, rfl, -⟩ := h
  obtain ⟨n, hn⟩ : ∃ n, l.length = n := ⟨_, rfl⟩
  rw [hn] at hm H ⊢
  have HN := Lib.hid hn
  clear hn
  obtain ⟨i0, hi, hz0, hz1, hz2⟩ := info_parts info_f64
  have b0 : Below w.heap.size w (w.alloc (.cells #[.int .i64 s0, .int .i64 s1] 24)) := (Below.refl _ _).alloc (Nat.le_refl _) _
  have T0 : Two (w.alloc (.cells #[.int .i64 s0, .int .i64 s1] 24)) w.heap.size 40 (.slice none 0 0) (.slice none 0 0) [] [] := ⟨World.ownsRow_nil _ _ _ _, World.ownsRow_nil _ _ _ _, .inl rfl⟩
  have S0 := Blk.new w 24 #[.int .i64 s0, .int .i64 s1]
  have T0 := Lib.hid T0
  have S0 := Lib.hid S0
  have b0 := Lib.hid b0
  go_enter Try.func61, Try.ntmps61
  go_wp2
  go_loopw [6, 7, 15] (fun ts vs i wr => ∃ (k : Nat) (rs : List Nat), k ≤ n ∧ i = .int .i64 k ∧ Hid (Two wr w.heap.size 40 ts vs (Mn.lens (Mn.cnt s0 s1 (l.take k))) rs) ∧ Hid (Fl.EqvL rs (Mn.prods (Mn.cnt s0 s1 (l.take k)))) ∧ Hid (Blk wr w.heap.size 24 #[.int .i64 s0, .int .i64 s1]) ∧ Hid (Below w.heap.size w wr)) (fun _ _ i _ => n - (intOf i).toNat)
  case atStart => exact ⟨0, [], Nat.zero_le _, rfl, T0, Lib.hid trivial, S0, b0⟩
  case round =>
    rename World => w1
    obtain ⟨k, rs, hk, rfl, T, HE, S, B⟩ := hrel
    by_cases hlt : k < n
    · have hkl : k < l.length := by rw [HN.out]; exact hlt
      obtain ⟨a, rfl, hab, g1, g2, g3⟩ := (H.out.on B.out).get k hkl
      have c0 := S.out.c0
      have c1 := S.out.c1
      have CY := Lib.hid (fun hm => Mn.cnt_snoc_yes (s0 := s0) (s1 := s1) hkl hm)
      have CN := Lib.hid (fun hm => Mn.cnt_snoc_no (s0 := s0) (s1 := s1) hkl hm)
      generalize l[k].1 = x at *
      generalize l[k].2.1 = y at *
      generalize l[k].2.2 = z at *
      have i1 : (k : Int) < n := by omega
      have hcl := Lib.hid (show (Mn.cnt s0 s1 (l.take k)).length ≤ k by have := Mn.cnt_len s0 s1 (l.take k); rw [List.length_take] at this; omega)
      generalize Mn.cnt s0 s1 (l.take k) = q at *
      have c0' := ((S.out.alloc (.cells #[.int .i64 x, .int .i64 y, .int .i64 z] 52))).c0
      have c1' := ((S.out.alloc (.cells #[.int .i64 x, .int .i64 y, .int .i64 z] 52))).c1
      go_wp2_with fail
      refine (noontideref10_both x y s0 s1 _).mono ?_
      rintro e w2 ⟨rfl, b2⟩
      have D2 : Below w1.heap.size w1 w2 := below_step ((Below.refl _ _).alloc (Nat.le_refl _) _) b2
      have P2 : Blk w2 w1.heap.size 52 #[.int .i64 x, .int .i64 y, .int .i64 z] := (Blk.new w1 _ _).on b2
      have T2 := Lib.hid (T.out.on D2)
      have S2 := Lib.hid (S.out.on D2)
      have B2 := Lib.hid (below_step B.out D2)
      clear g1 g2 g3 c0 c1 c0' c1' b2 D2 T S B hab
      cases hm : Sp.mt x y s0 s1
      · have C := Lib.hid (CN.out hm)
        clear CY CN hm
        simp only [Sp.bz, if_true, Bool.false_eq_true, if_false]
        go_wp2
        go_roundw
        case rel => exact ⟨k + 1, rs, by omega, by go_num, Lib.hid (by rw [C.out]; exact T2.out.on ((Below.refl _ _).alloc (Nat.le_refl _) _)), by rw [C.out]; exact HE, Lib.hid (S2.out.alloc _), Lib.hid (B2.out.alloc B2.out.size _)⟩
        case measure => simp [intOf]; omega
      · have C := Lib.hid (CY.out hm)
        clear CY CN hm
        simp only [Sp.bz, if_true, Bool.false_eq_true, if_false]
        go_wp2_with fail
        refine (long_noontideref12.long (max x s0) (min y s1) _).mono ?_
        rintro e w3 ⟨rfl, b3⟩
        have D3 : Below w2.heap.size w2 w3 := below_step ((Below.refl _ _).alloc (Nat.le_refl _) _) b3
        have P3 := Lib.hid (P2.on D3)
        have T3 := Lib.hid (T2.out.on D3)
        have S3 := Lib.hid (S2.out.on D3)
        have B3 := Lib.hid (below_step B2.out D3)
        clear b3 D3 T2 S2 B2 P2
        have hq := hcl.out
        generalize hln : FloatKind.f64.nearest (Mn.wl (max x s0) (min y s1)) = ln at *
        have hlen : (Mn.lens q).length = q.length := by unfold Mn.lens; rw [List.length_map]
        have hrl : rs.length = q.length := by rw [HE.out.len]; unfold Mn.prods; rw [List.length_map]
        go_wp2_with (at_builtin; refine wpList_append_own_at _ rfl _ _ 61 rfl w.heap.size 40 i0 (.float .f64 0) 1 8 Try.underlying61 hi hz0 hz1 hz2 rfl (by decide) _ _ _ rfl (T3.out.a.alloc _) ⟨w3.heap.size, 0, none⟩ 1 1 [.float .f64 ln] rfl rfl (cell_one_new _ _ _) (by simp [Value.oneCell']) (by rw [hlen]; unfold maxLen; omega) (by rw [hlen]; omega) (by have := B3.out.size; simp; omega) ?_)
        intro v4 w4 own4 grow4 _ at4
        have T4 := Lib.hid ((T3.out.on ((Below.refl _ _).alloc (Nat.le_refl _) _)).push (by rw [hlen]; exact own4) grow4 (by simp) at4)
        have P4 := (P3.out.alloc _).kept grow4 (P3.out.not_row (by decide) T3.out.a)
        have S4 := Lib.hid ((S3.out.alloc _).kept grow4 (S3.out.not_row (by decide) T3.out.a))
        have B4 := Lib.hid (show Below w.heap.size w w4 from ((B3.out.alloc B3.out.size _).trans (below_grown grow4 (by have := B3.out.size; simp; omega) (own_row T3.out.a))))
        clear own4 grow4 at4 T3 P3 S3 B3
        obtain ⟨r', n1, hr', r1⟩ := Fl.fop_run Try.prog .mul (.inr (.inr (.inl rfl))) 40 (floatOfInt FloatKind.f64 z) ln w4
        have c42 := P4.c2
        have HR' := Lib.hid hr'
        clear hr'
        have T5 := Lib.hid (T4.out.on (below_draw w4 n1))
        have S5 := Lib.hid (S4.out.on (below_draw w4 n1))
        have B5 := Lib.hid (B4.out.trans (below_draw w4 n1))
        go_wp2_with (at_builtin; refine wpList_append_own_at _ rfl _ _ 61 rfl w.heap.size 40 i0 (.float .f64 0) 1 8 Try.underlying61 hi hz0 hz1 hz2 rfl (by decide) _ _ _ rfl (T5.out.b.alloc _) ⟨(w4.drewN n1).heap.size, 0, none⟩ 1 1 [.float .f64 r'] rfl rfl (cell_one_new _ _ _) (by simp [Value.oneCell']) (by rw [hrl]; unfold maxLen; omega) (by rw [hrl]; omega) (by have := B5.out.size; simp; simp at this; omega) ?_)
        intro v6 w6 own6 grow6 _ at6
        have T6 := Lib.hid (((T5.out.swap.on ((Below.refl _ _).alloc (Nat.le_refl _) _)).push (by rw [hrl]; exact own6) grow6 (by simp) at6).swap)
        have S6 := Lib.hid ((S5.out.alloc _).kept grow6 (S5.out.not_row (by decide) T5.out.b))
        have B6 := Lib.hid (show Below w.heap.size w w6 from ((B5.out.alloc B5.out.size _).trans (below_grown grow6 (by have := B5.out.size; simp; simp at this; omega) (own_row T5.out.b))))
        clear own6 grow6 at6 T5 S5 B5 T4 S4 B4 P4
        go_wp2
        go_roundw
        case rel =>
          refine ⟨k + 1, rs ++ [r'], by omega, by go_num, ?_, ?_, S6, B6⟩
          · rw [C.out]
            unfold Mn.lens at T6 ⊢
            rw [List.map_append, show List.map Mn.lw [(max x s0, min y s1, z)] = [ln] from by rw [← hln]; rfl]
            exact T6
          · rw [C.out]
            unfold Mn.prods at HE ⊢
            rw [List.map_append, show List.map Mn.pw [(max x s0, min y s1, z)] = [Fl.cop .mul (FloatKind.f64.nearest z) ln] from by rw [← hln]; rfl]
            exact Lib.hid (HE.out.snoc HR'.out.cop)
        case measure => simp [intOf]; omega
    · have E := Lib.hid (show l.take k = l from List.take_of_length_le (by rw [HN.out]; omega))
      rw [E.out] at T HE
      obtain ⟨A1, c1, rfl, F1, h1, h2⟩ := own_fl T.out.a rfl
      obtain ⟨A2, c2, rfl, F2, h3, h4⟩ := own_fl T.out.b rfl
      clear T
      go_wp2_with fail
      refine (rsum_all A1 _ c1 _ w1 F1 h1 h2 (Mn.lens_lt _)).mono ?_
      rintro e w2 ⟨r, hr, rfl, k1, rfl⟩
      have HR1 := Lib.hid hr
      clear hr F1
      go_wp2_with fail
      refine (rsum_all A2 _ c2 _ _ (F2.on (below_draw w1 k1)) h3 h4 HE.out.lt).mono ?_
      rintro e w3 ⟨q, hq, rfl, k2, rfl⟩
      have HR2 := Lib.hid hq
      clear hq F2
      go_wp2
      go_ret2
      exact ⟨r, q, HR1.out, HR2.out.trans (Fl.csum_eqv HE.out), rfl, B.out.trans (below_draw w1 _)⟩
end Go.Proofs.Ytckcmhnhmobadaa
