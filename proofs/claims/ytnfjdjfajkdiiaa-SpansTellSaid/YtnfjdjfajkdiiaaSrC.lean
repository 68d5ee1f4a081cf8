/- The reference's sets: the contracts of Or and And. -/
import Derived.Test.YtnfjdjfajkdiiaaSrB
import Derived.Test.YtnfjdjfajkdiiaaApL
import Derived.Maps.AppendAt
set_option linter.unusedVariables false
set_option linter.unusedSimpArgs false
namespace Go.Proofs.Ytnfjdjfajkdiiaa
open Go.RowKit Go.Sort Go.Shelf

set_option maxRecDepth 100000 in
set_option maxHeartbeats 4000000 in
theorem ror_any (va vb : Value) (a b : List Ss.S) (w : World) (h : SpV w va a) (k : SpV w vb b) (ha : a.length ≤ 1000) (hb : b.length ≤ 1000) :
    Calls Try.prog 18 #[va, vb] w (AnsS (Ss.rof [] (a ++ b)) w) := by
  obtain ⟨i0, hi, hz0, hz1, hz2⟩ := info_parts info_span
  obtain ⟨A, c, rfl, -⟩ := id h
  obtain ⟨B, d, rfl, -⟩ := id k
  have bb : Below w.heap.size w (w.alloc (.cells #[] 24)) := (Below.refl _ _).alloc (Nat.le_refl _) _
  have H0 := Lib.hid (h.on bb); have K0 := Lib.hid k; have B0 := Lib.hid bb
  have O0 := Lib.hid (show (w.alloc (.cells #[] 24)).ownsRow w.heap.size 24 2 (.slice (some ⟨w.heap.size, 0, none⟩) 0 0) 0 [] from World.ownsRow_lit w #[] 0 (Nat.le_refl _) (by unfold maxLen; omega) rfl)
  clear h k bb
  go_enter Try.func18, Try.ntmps18
  go_wp2_with (at_builtin; refine wpList_append_lst rfl _ _ 22 rfl w.heap.size 24 i0 (.agg #[.int .i64 0, .int .i64 0]) 2 16 Try.underlying22 hi hz0 hz1 hz2 rfl (by decide) _ 0 [] rfl O0.out _ a.length _ (spc a) rfl H0.out (spc_len a) (spc_one a) (by unfold maxLen; omega) (by omega) (by simp) ?_)
  intro v1 w1 own1 grow1
  obtain ⟨A1, c1, rfl⟩ := po_form own1
  have b1 : Below w.heap.size w w1 := B0.out.trans (below_grown grow1 (by simp) (fun x hx => by simp [Value.ownBlock] at hx; omega))
  have B1 := Lib.hid b1; have O1 := Lib.hid own1
  clear own1 grow1 O0 H0 B0 b1
  go_wp2_with (at_builtin; refine wpList_append_lst rfl _ _ 22 rfl w.heap.size 24 i0 (.agg #[.int .i64 0, .int .i64 0]) 2 16 Try.underlying22 hi hz0 hz1 hz2 rfl (by decide) _ a.length _ rfl O1.out _ b.length _ (spc b) rfl (K0.out.on B1.out) (spc_len b) (spc_one b) (by unfold maxLen; omega) (by omega) (by have := B1.out.size; omega) ?_)
  intro v2 w2 own2 grow2
  obtain ⟨A2, c2, rfl⟩ := po_form own2
  have B2 := Lib.hid (B1.out.trans (below_grown grow2 B1.out.size (own_row O1.out)))
  have O2 := Lib.hid (show w2.ownsRow w.heap.size 24 2 (.slice A2 (a.length + b.length) c2) (a ++ b).length (spc (a ++ b)) by rw [spc_app, List.length_append]; simpa using own2)
  have HL := Lib.hid (show (a ++ b).length ≤ 100000 by rw [List.length_append]; omega)
  clear own2 grow2 O1 K0 B1
  go_wp2_with fail
  refine (rof_any _ (a ++ b) _ (SpV.own O2.out) HL.out).mono ?_
  rintro e w3 ⟨v3, h3, rfl, b3⟩
  obtain ⟨A3, c3, hv3, -⟩ := id h3
  subst hv3
  go_wp2
  go_ret
  exact ⟨_, h3, rfl, below_step B2.out b3⟩
namespace Ss
/-- What two have both, pair by pair. -/
def an2 (x : S) : List S → List S → List S
  | [], out => out
  | y :: b, out => an2 x b (out ++ bth x y)
def an1 (b : List S) : List S → List S → List S
  | [], out => out
  | x :: a, out => an1 b a (an2 x b out)
theorem an2_eq (x : S) (b : List S) : ∀ out, an2 x b out = out ++ b.flatMap fun y => bth x y := by
  induction b with
  | nil => intro out; simp [an2]
  | cons y b ih => intro out; rw [an2, ih, List.flatMap_cons, List.append_assoc]
theorem an1_eq (b a : List S) : ∀ out, an1 b a out = out ++ anl a b := by
  induction a with
  | nil => intro out; simp [an1, anl]
  | cons x a ih => intro out; rw [an1, ih, an2_eq]; unfold anl; rw [List.flatMap_cons, List.append_assoc]
theorem an2_drop (x : S) (b out : List S) (k : Nat) (h : k < b.length) : an2 x (b.drop k) out = an2 x (b.drop (k + 1)) (out ++ bth x b[k]) := by
  rw [List.drop_eq_getElem_cons h]; rfl
theorem an1_drop (b a out : List S) (k : Nat) (h : k < a.length) : an1 b (a.drop k) out = an1 b (a.drop (k + 1)) (an2 a[k] b out) := by
  rw [List.drop_eq_getElem_cons h]; rfl
theorem bth_len (x y : S) : (bth x y).length ≤ 1 := by unfold bth; split <;> simp
end Ss
set_option maxRecDepth 100000 in
set_option maxHeartbeats 8000000 in
theorem rand_any (va vb : Value) (a b : List Ss.S) (w : World) (h : SpV w va a) (k : SpV w vb b) (ha : a.length ≤ 100) (hb : b.length ≤ 100) :
    Calls Try.prog 20 #[va, vb] w (AnsS (Ss.rof [] (Ss.anl a b)) w) := by
  obtain ⟨i0, hi, hz0, hz1, hz2⟩ := info_parts info_span
  obtain ⟨A, c, rfl, -⟩ := id h
  obtain ⟨B, d, rfl, -⟩ := id k
  obtain ⟨n, hn⟩ : ∃ n, a.length = n := ⟨_, rfl⟩
  obtain ⟨m, hm⟩ : ∃ m, b.length = m := ⟨_, rfl⟩
  rw [hn] at ha h ⊢
  rw [hm] at hb k ⊢
  have HN := Lib.hid hn; have HM := Lib.hid hm
  have HA := Lib.hid h; have HB := Lib.hid k
  obtain ⟨P, hP⟩ : ∃ P, Ss.anl a b = P := ⟨_, rfl⟩
  rw [hP]
  have HP := Lib.hid (show Ss.an1 b (a.drop 0) [] = P by rw [List.drop_zero, Ss.an1_eq]; exact hP)
  have O0 := Lib.hid (World.ownsRow_nil w w.heap.size 24 2)
  clear h k hn hm hP
  go_enter Try.func20, Try.ntmps20
  go_wp2
  go_loopw [5, 14] (fun u i wr => ∃ (k : Nat) (out : List Ss.S), k ≤ n ∧ i = .int .i64 k ∧ out.length ≤ 100 * k ∧ Hid (Ss.an1 b (a.drop k) out = P) ∧ Hid (wr.ownsRow w.heap.size 24 2 u out.length (spc out)) ∧ Hid (Below w.heap.size w wr)) (fun _ i _ => n - (intOf i).toNat)
  case atStart => exact ⟨0, [], Nat.zero_le _, rfl, Nat.le_refl _, HP, O0, Lib.hid (Below.refl _ _)⟩
  case round =>
    rename World => w2
    obtain ⟨k, out, hk, rfl, hlen, E, O, BB⟩ := hrel
    by_cases hlt : k < n
    · have hkl : k < a.length := by rw [HN.out]; exact hlt
      obtain ⟨ad, rfl, hab, g1, g2⟩ := (HA.out.on BB.out).get k hkl
      have EQ := Lib.hid ((Ss.an1_drop b a out k hkl).symm.trans E.out)
      generalize hp : a[k] = p at *
      obtain ⟨x, y⟩ := p
      simp only at g1 g2
      clear hp E
      have i1 : (k : Int) < n := by omega
      obtain ⟨Q, hQ⟩ : ∃ Q, Ss.an2 (x, y) b out = Q := ⟨_, rfl⟩
      rw [hQ] at EQ
      have HQ := Lib.hid (show Ss.an2 (x, y) (b.drop 0) out = Q from hQ)
      have P2 := Lib.hid (Blk.new w2 24 #[.int .i64 x, .int .i64 y])
      have O2 := Lib.hid (O.out.alloc (.cells #[.int .i64 x, .int .i64 y] 24)); have B2 := Lib.hid (BB.out.alloc BB.out.size (.cells #[.int .i64 x, .int .i64 y] 24))
      have e2 : (w2.alloc (.cells #[.int .i64 x, .int .i64 y] 24)).heap.size = w2.heap.size + 1 := by simp
      have ON := Lib.hid (show u5.ownBlock ≠ some w2.heap.size from fun e => by have := (O.out.lt _ e).2; omega)
      clear O BB hQ
      go_wp2_with fail
      generalize w2.alloc (.cells #[.int .i64 x, .int .i64 y] 24) = w3 at *
      go_loopw [5, 20] (fun u i wr => ∃ (j : Nat) (ou : List Ss.S), j ≤ m ∧ i = .int .i64 j ∧ ou.length ≤ 100 * k + j ∧ Hid (Ss.an2 (x, y) (b.drop j) ou = Q) ∧ Hid (wr.ownsRow w.heap.size 24 2 u ou.length (spc ou) ∧ u.ownBlock ≠ some w2.heap.size) ∧ Hid (Blk wr w2.heap.size 24 #[.int .i64 x, .int .i64 y]) ∧ Hid (Below w.heap.size w wr)) (fun _ i _ => m - (intOf i).toNat)
      case atStart => exact ⟨0, out, Nat.zero_le _, rfl, by omega, HQ, Lib.hid ⟨O2.out, ON.out⟩, P2, B2⟩
      case round =>
        rename World => w4
        obtain ⟨j, ou, hj, rfl, hlen2, E, O, K, BB⟩ := hrel
        by_cases hlt2 : j < m
        · have hkl2 : j < b.length := by rw [HM.out]; exact hlt2
          obtain ⟨ad2, rfl, hab2, g3, g4⟩ := (HB.out.on BB.out).get j hkl2
          have E2 := Lib.hid ((Ss.an2_drop (x, y) b ou j hkl2).symm.trans E.out)
          generalize hp : b[j] = p at *
          obtain ⟨x', y'⟩ := p
          simp only at g3 g4
          clear hp E
          have i2 : (j : Int) < m := by omega
          have bb : Below w4.heap.size w4 (w4.alloc (.cells #[.int .i64 x', .int .i64 y'] 24)) := (Below.refl _ _).alloc (Nat.le_refl _) _
          have ON5 := Lib.hid O.out.2
          have O5 := Lib.hid (own_on O.out.1 bb); have K5 := Lib.hid (K.out.on bb); have B5 := Lib.hid (below_step BB.out bb)
          have c0 := K5.out.c0; have c1 := K5.out.c1
          clear O K BB bb
          go_wp2_with fail
          refine (noontideref10_both x y x' y' _).mono ?_
          rintro e w6 ⟨rfl, bw⟩
          have O6 := Lib.hid (own_on O5.out bw); have K6 := Lib.hid (K5.out.on bw); have B6 := Lib.hid (below_step B5.out bw)
          clear O5 K5 B5 c0 c1 bw
          have e6 : Ss.bth (x, y) (x', y') = if Sp.mt x y x' y' then [(max x x', min y y')] else [] := rfl
          have E3 := E2.out
          rw [e6] at E3
          clear E2 e6
          cases hm : Sp.mt x y x' y'
          · rw [hm] at E3
            simp only [Bool.false_eq_true, if_false, List.append_nil] at E3
            simp only [Sp.bz, Bool.false_eq_true, if_false]
            have E4 := Lib.hid E3
            clear E3 hm
            have bb : Below w6.heap.size w6 (w6.alloc (.cells #[.int .i64 0, .int .i64 0] 24)) := (Below.refl _ _).alloc (Nat.le_refl _) _
            go_wp2
            go_roundw
            case rel => exact ⟨j + 1, ou, by omega, by go_num, by omega, E4, Lib.hid ⟨own_on O6.out bb, ON5.out⟩, Lib.hid (K6.out.on bb), Lib.hid (below_step B6.out bb)⟩
            case measure => simp [intOf]; omega
          · rw [hm] at E3
            simp only [if_true] at E3
            simp only [Sp.bz, if_true]
            have E4 := Lib.hid E3
            clear E3 hm
            generalize max x x' = z0 at *
            generalize min y y' = z1 at *
            have O7 := Lib.hid (O6.out.alloc (.cells #[.int .i64 z0, .int .i64 z1] 24))
            have K7 := Lib.hid (K6.out.alloc (.cells #[.int .i64 z0, .int .i64 z1] 24))
            have B7 := Lib.hid (B6.out.alloc B6.out.size (.cells #[.int .i64 z0, .int .i64 z1] 24))
            go_wp2_with (at_builtin; refine wpList_append_own_at _ rfl _ _ 22 rfl w.heap.size 24 i0 (.agg #[.int .i64 0, .int .i64 0]) 2 16 Try.underlying22 hi hz0 hz1 hz2 rfl (by decide) _ _ _ rfl (O7.out.alloc _) ⟨w6.heap.size + 1, 0, none⟩ 1 1 [.int .i64 z0, .int .i64 z1] rfl rfl (two_cells (by simp [go_sem]) (by simp [go_sem])) (by intro u hu; simp at hu; rcases hu with rfl | rfl <;> rfl) (by unfold maxLen; omega) (by omega) (by have := B7.out.size; simp at this; simp; omega) ?_)
            intro v8 w8 own8 grow8 _ at8
            have hlt6 := K6.out.lt
            have N8 := Lib.hid (show v8.ownBlock ≠ some w2.heap.size from at8.elim (fun e => by rw [e]; exact ON5.out) (fun e => by rw [e]; intro h; simp at h; omega))
            have B8 := Lib.hid (show Below w.heap.size w w8 from ((B7.out.alloc B7.out.size _).trans (below_grown grow8 (by have := B7.out.size; simp at this; simp; omega) (own_row O7.out))))
            have K8 := Lib.hid ((K7.out.alloc _).kept grow8 (fun e => ON5.out e.symm))
            have O8 := Lib.hid own8
            clear own8 grow8 O7 B7 K7 at8 hlt6
            go_wp2
            go_roundw
            case rel => exact ⟨j + 1, ou ++ [(z0, z1)], by omega, by go_num, by simp; omega, E4, Lib.hid ⟨by rw [spc_app, List.length_append]; exact O8.out, N8.out⟩, K8, B8⟩
            case measure => simp [intOf]; omega
        · have E2 := Lib.hid (show ou = Q by have := E.out; rw [List.drop_of_length_le (by rw [HM.out]; omega)] at this; exact this)
          have EQ2 := EQ.out
          rw [← E2.out] at EQ2
          have EQ3 := Lib.hid EQ2
          clear EQ2 E2 E
          go_wp2
          refine ⟨?_, by simp [intOf]; omega⟩
          exact ⟨k + 1, ou, by omega, by go_num, by omega, EQ3, Lib.hid O.out.1, BB⟩
    · have E2 := Lib.hid (show out = P by have := E.out; rw [List.drop_of_length_le (by rw [HN.out]; omega)] at this; exact this)
      obtain ⟨A5, c5, rfl⟩ := po_form O.out
      have HL := Lib.hid (show out.length ≤ 100000 by omega)
      go_wp2_with fail
      refine (rof_any _ out _ (SpV.own O.out) HL.out).mono ?_
      rintro e w3 ⟨v3, h3, rfl, b3⟩
      obtain ⟨A3, c3, hv3, -⟩ := id h3
      subst hv3
      go_wp2
      go_ret
      exact ⟨_, E2.out ▸ h3, rfl, below_step BB.out b3⟩
end Go.Proofs.Ytnfjdjfajkdiiaa

