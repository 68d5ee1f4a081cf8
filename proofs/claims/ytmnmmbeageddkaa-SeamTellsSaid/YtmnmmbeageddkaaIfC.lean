/- Infos: whether they are sound: the contract of the reference's Sound. -/
import Derived.Test.YtmnmmbeageddkaaIfB
set_option linter.unusedVariables false
set_option linter.unusedSimpArgs false
namespace Go.Proofs.Ytmnmmbeageddkaa
open Go.RowKit Go.Sort

set_option maxRecDepth 100000 in
set_option maxHeartbeats 8000000 in
theorem rseam_sound (v : Value) (l : List If.I) (w : World) (h : InV w v l) (hm : l.length ≤ 1000000) :
    Calls Try.prog 26 #[v] w fun e w' => e = .returned (.bool (If.so none l)) ∧ Below w.heap.size w w' := by
  have H := Lib.hid h
  obtain ⟨A, c, rfl, -⟩ := h
  obtain ⟨n, hn⟩ : ∃ n, l.length = n := ⟨_, rfl⟩
  rw [hn] at hm H ⊢
  have HN := Lib.hid hn
  clear hn
  obtain ⟨ans, hans⟩ : ∃ ans, ans = If.so none l := ⟨_, rfl⟩
  rw [← hans]
  have HA := Lib.hid hans.symm
  clear hans
  go_enter Try.func26, Try.ntmps26
  go_wp2
  go_loopw [8] (fun i wr => ∃ (k : Nat) (o : Option If.I), k ≤ n ∧ i = .int .i64 k ∧ Below w.heap.size w wr ∧ Hid (If.so o (l.drop k) = ans) ∧ Hid ((k = 0 ∧ o = none) ∨ ∃ h : k - 1 < l.length, 0 < k ∧ o = some l[k - 1])) (fun i _ => n - (intOf i).toNat)
  case atStart => exact ⟨0, none, Nat.zero_le _, rfl, Below.refl _ _, HA, Lib.hid (.inl ⟨rfl, rfl⟩)⟩
  case round =>
    rename World => w1
    obtain ⟨k, o, hk, rfl, B, hinv, hprev⟩ := hrel
    have B1 := Lib.hid B
    have H1 := Lib.hid (H.out.on B)
    clear B
    by_cases hlt : k < n
    · have hkl : k < l.length := by rw [HN.out]; exact hlt
      have hd := hinv.out
      rw [If.so_drop o l k hkl] at hd
      obtain ⟨a, rfl, hab, g1, g2, g3, g4, g5⟩ := H1.out.get k hkl
      have NX := Lib.hid (show ∀ o, o = some l[k] → (k + 1 = 0 ∧ o = none) ∨ ∃ h : k + 1 - 1 < l.length, 0 < k + 1 ∧ o = some l[k + 1 - 1] from fun o ho => .inr ⟨hkl, by omega, ho⟩)
      have HP : Hid (o = none ∧ k = 0 ∨ ∃ (t : If.I) (j : Nat), o = some t ∧ k = j + 1 ∧ Hid (∀ W, Below w.heap.size w W → W.cell? (a.add (j * 5)) = some (.int .i64 t.1) ∧ W.cell? ⟨(a.add (j * 5)).block, (a.add (j * 5)).off + 1, none⟩ = some (.int .i64 t.2.1) ∧ W.cell? ⟨(a.add (j * 5)).block, (a.add (j * 5)).off + 2, none⟩ = some (.int .i64 t.2.2.1) ∧ W.cell? ⟨(a.add (j * 5)).block, (a.add (j * 5)).off + 3, none⟩ = some (.int .i64 t.2.2.2.1) ∧ W.cell? ⟨(a.add (j * 5)).block, (a.add (j * 5)).off + 4, none⟩ = some (.string t.2.2.2.2))) := Lib.hid (by
        rcases hprev.out with ⟨h0, h1⟩ | ⟨hp, h0, h1⟩
        · exact .inl ⟨h1, h0⟩
        · refine .inr ⟨_, k - 1, h1, by omega, Lib.hid fun W hW => ?_⟩
          obtain ⟨a', ha, -, r⟩ := (H.out.on hW).get (k - 1) hp
          cases ha
          exact r)
      clear hinv hprev
      generalize l[k] = p at *
      obtain ⟨x0, x1, x2, x3, x4⟩ := p
      dsimp only at g1 g2 g3 g4 g5 hd
      have i1 : (k : Int) < n := by omega
      have P2 := Lib.hid (Blk.new w1 36 #[.int .i64 x0, .int .i64 x1, .int .i64 x2, .int .i64 x3, .string x4])
      have bb : Below w1.heap.size w1 (w1.alloc (.cells #[.int .i64 x0, .int .i64 x1, .int .i64 x2, .int .i64 x3, .string x4] 36)) := (Below.refl _ _).alloc (Nat.le_refl _) _
      have B2 := Lib.hid (below_step B1.out bb)
      clear bb
      go_wp2_with fail
      refine (noontideref10_right x0 x1 _).mono ?_
      rintro e w3 ⟨rfl, b3⟩
      have P3 := Lib.hid (P2.out.on b3); have B3 := Lib.hid (below_step B2.out b3)
      clear P2 B2 b3 g1 g2 g3 g4 g5 hab
      cases hr : Sp.rb x0 x1
      · have E := Lib.hid (show ans = false by rw [← hd, hr]; rfl)
        clear hr hd
        go_wp2
        go_ret; exact ⟨by rw [E.out]; rfl, B3.out⟩
      · rcases HP.out with ⟨rfl, hk0⟩ | ⟨t, j, rfl, hkj, q⟩
        · have E := Lib.hid (show If.so (some (x0, x1, x2, x3, x4)) (l.drop (k + 1)) = ans by rw [← hd, hr]; rfl)
          have gk : ((k : Int) == 0) = true := by rw [beq_iff_eq]; omega
          subst hk0
          clear HP hr hd
          go_wp2
          go_roundw
          case rel => exact ⟨0 + 1, some (x0, x1, x2, x3, x4), by omega, by go_num, B3.out, E, Lib.hid (NX.out _ rfl)⟩
          case measure => simp [intOf]; omega
        · have gk : ((k : Int) == 0) = false := by rw [beq_eq_false_iff_ne]; omega
          have ek : (k : Int) - 1 = (j : Int) := by omega
          have hj : (j : Int) < n := by omega
          obtain ⟨t0, t1, t2, t3, t4⟩ := t
          obtain ⟨m0, m1, m2, m3, m4⟩ := q.out _ B3.out
          dsimp only at m0 m1 m2 m3 m4 hd
          have HK := Lib.hid hkj
          clear HP hkj
          have p0 := P3.out.c0; have p1 := P3.out.c1; have p2 := P3.out.c2; have p3 := P3.out.c3; have p4 := P3.out.c4
          have P4 := Lib.hid (P3.out.alloc (.cells #[.int .i64 t0, .int .i64 t1, .int .i64 t2, .int .i64 t3, .string t4] 36))
          have K4 := Lib.hid (Blk.new w3 36 #[.int .i64 t0, .int .i64 t1, .int .i64 t2, .int .i64 t3, .string t4])
          have B4 := Lib.hid (B3.out.alloc B3.out.size (.cells #[.int .i64 t0, .int .i64 t1, .int .i64 t2, .int .i64 t3, .string t4] 36))
          go_upto_region 8 with (fail)
          clear p0 p1 p2 p3 p4 m0 m1 m2 m3 m4
          have p0 := P4.out.c0; have p1 := P4.out.c1; have p2 := P4.out.c2; have p3 := P4.out.c3; have p4 := P4.out.c4
          have m0 := K4.out.c0; have m1 := K4.out.c1; have m2 := K4.out.c2; have m3 := K4.out.c3; have m4 := K4.out.c4
          generalize w3.alloc (.cells #[.int .i64 t0, .int .i64 t1, .int .i64 t2, .int .i64 t3, .string t4] 36) = w4 at *
          cases ht : If.sm (t0, t1, t2, t3, t4) (x0, x1, x2, x3, x4)
          · have E := Lib.hid (show ans = false by rw [← hd, hr]; simp only [ht]; rfl)
            have HT := Lib.hid ht
            clear hr hd ht
            by_cases h1 : x0 < t1
            · go_wp2
              go_ret; exact ⟨by rw [E.out]; rfl, B4.out⟩
            · have h2 : t1 = x0 ∧ t2 = x2 ∧ t3 = x3 ∧ t4 = x4 := by
                have := HT.out
                unfold If.sm at this
                simp at this
                exact ⟨by omega, this.2 (by omega)⟩
              obtain ⟨rfl, rfl, rfl, rfl⟩ := h2
              go_wp2
              go_ret; exact ⟨by rw [E.out]; rfl, B4.out⟩
          · have E := Lib.hid (show If.so (some (x0, x1, x2, x3, x4)) (l.drop (k + 1)) = ans by rw [← hd, hr]; simp only [ht]; rfl)
            have HT := Lib.hid ht
            clear hr hd ht
            have h1 : ¬ x0 < t1 := by
              have := HT.out
              unfold If.sm at this
              simp at this
              omega
            by_cases h0 : t1 = x0
            · have h3 : ¬ (t2 = x2 ∧ t3 = x3 ∧ t4 = x4) := by
                have := HT.out
                unfold If.sm at this
                simp [h0] at this
                rintro ⟨rfl, rfl, rfl⟩
                exact absurd this (by simp)
              subst h0
              by_cases z2 : t2 = x2
              · subst z2
                by_cases z3 : t3 = x3
                · subst z3
                  have z4 : ¬ t4 = x4 := fun e => h3 ⟨rfl, rfl, e⟩
                  have n1 := str_ne z4
                  have n2 : (t4.toList == x4.toList) = false := by rw [beq_eq_false_iff_ne]; exact n1
                  clear h3
                  go_wp2
                  go_roundw
                  case rel => exact ⟨k + 1, some _, by omega, by go_num, B4.out, E, Lib.hid (NX.out _ rfl)⟩
                  case measure => simp [intOf]; omega
                · have n2 : (t3 == x3) = false := by rw [beq_eq_false_iff_ne]; exact z3
                  clear h3
                  go_wp2
                  go_roundw
                  case rel => exact ⟨k + 1, some _, by omega, by go_num, B4.out, E, Lib.hid (NX.out _ rfl)⟩
                  case measure => simp [intOf]; omega
              · have n2 : (t2 == x2) = false := by rw [beq_eq_false_iff_ne]; exact z2
                clear h3
                go_wp2
                go_roundw
                case rel => exact ⟨k + 1, some _, by omega, by go_num, B4.out, E, Lib.hid (NX.out _ rfl)⟩
                case measure => simp [intOf]; omega
            · have n2 : (t1 == x0) = false := by rw [beq_eq_false_iff_ne]; exact h0
              go_wp2
              go_roundw
              case rel => exact ⟨k + 1, some _, by omega, by go_num, B4.out, E, Lib.hid (NX.out _ rfl)⟩
              case measure => simp [intOf]; omega
    · have E := Lib.hid (show ans = true by rw [← hinv.out, List.drop_of_length_le (by rw [HN.out]; omega)]; rfl)
      clear hinv hprev
      go_wp2
      go_ret
      exact ⟨by rw [E.out]; rfl, B1.out⟩
end Go.Proofs.Ytmnmmbeageddkaa

