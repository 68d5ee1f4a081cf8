/- Joined: AwK. -/
import Derived.Test.YtjnhaabbnbcaeaaBx22
import Derived.Test.YtjnhaabbnbcaeaaBx10
/- Rules far enough from each other: the first that is too close, by the reference. -/
set_option linter.unusedVariables false
set_option linter.unusedSimpArgs false
namespace Go.Proofs.Ytjnhaabbnbcaeaa
open Go.RowKit Go.Sort
theorem RuC.on {w w' : World} {a : Addr} {s : ByteArray} {fy ty m k wk d sec base save : Int} {t : ByteArray} (h : RuC w a s fy ty m k wk d sec base save t) (hb : a.block < w.heap.size) (k' : Below w.heap.size w w') : RuC w' a s fy ty m k wk d sec base save t := by
  have g : ∀ p : Addr, p.block < w.heap.size → w'.cell? p = w.cell? p := fun p hp => k'.cell hp
  exact ⟨(g a hb).trans h.k0, (g ⟨a.block, a.off + 1, none⟩ hb).trans h.k1, (g ⟨a.block, a.off + 2, none⟩ hb).trans h.k2, (g ⟨a.block, a.off + 3, none⟩ hb).trans h.k3, (g ⟨a.block, a.off + 4, none⟩ hb).trans h.k4, (g ⟨a.block, a.off + 5, none⟩ hb).trans h.k5, (g ⟨a.block, a.off + 6, none⟩ hb).trans h.k6, (g ⟨a.block, a.off + 7, none⟩ hb).trans h.k7, (g ⟨a.block, a.off + 8, none⟩ hb).trans h.k8, (g ⟨a.block, a.off + 9, none⟩ hb).trans h.k9, (g ⟨a.block, a.off + 10, none⟩ hb).trans h.k10⟩
theorem Aw.fstN_at (r : Aw.R) (l : List Aw.R) (q : Nat) (h : q < l.length) : Aw.fstN r (l.drop q) = if l[q].1 = r.1 then (if Aw.pr (Aw.rc l[q]) (Aw.rc r) = 0 then Aw.fstN r (l.drop (q + 1)) else Aw.pr (Aw.rc l[q]) (Aw.rc r)) else Aw.fstN r (l.drop (q + 1)) := by
  rw [List.drop_eq_getElem_cons h]; rfl
set_option maxHeartbeats 4000000 in
set_option maxRecDepth 100000 in
theorem rcheck27_any (v : Value) (l : List Aw.R) (w : World) (S : RuV w v l) (hl : l.length ≤ 1000000) (hz : ∀ r ∈ l, r.1.size ≤ maxLen ∧ r.2.2.2.2.2.2.2.2.2.2.size ≤ 100000) :
    Calls Try.prog 12 #[v] w fun e w' => e = .returned (.tuple #[.int .i64 (Aw.ck [] l).1, .int .i64 (Aw.ck [] l).2]) ∧ Below w.heap.size w w' := by
  have T := S
  obtain ⟨A, c, rfl, -⟩ := T
  obtain ⟨N, hN⟩ : ∃ N, N = l.length := ⟨_, rfl⟩
  have HN := Lib.hid hN
  have HS : Hid (RuV w (.slice A N c) l) := by rw [hN]; exact S
  rw [← hN]
  have hNb : N ≤ 1000000 := by omega
  have HZ := Lib.hid hz
  obtain ⟨tot, htot⟩ : ∃ tot, tot = Aw.ck [] l := ⟨_, rfl⟩
  rw [← htot]
  have HT : Hid (Aw.ck (l.take 0) (l.drop 0) = tot) := Lib.hid htot.symm
  clear hN S hl hz htot
  obtain ⟨ans, hans⟩ : ∃ ans : Value, ans = .tuple #[.int .i64 tot.1, .int .i64 tot.2] := ⟨_, rfl⟩
  rw [← hans]
  have HA := Lib.hid hans; clear hans
  have N0 := Lib.hid (Below.refl w.heap.size w)
  go_enter Try.func12, Try.ntmps12
  go_wp2_with fail
  go_loopw [9] (fun i wr => ∃ k : Nat, k ≤ N ∧ i = .int .i64 k ∧ Hid (Below w.heap.size w wr) ∧ Hid (Aw.ck (l.take k) (l.drop k) = tot)) (fun i _ => N - (intOf i).toNat)
  case atStart => exact ⟨0, Nat.zero_le _, rfl, N0, HT⟩
  case round =>
    obtain ⟨k, hk, rfl, hbw, hck⟩ := hrel
    by_cases hlt : k < N
    · have hkl : k < l.length := by have := HN.out; omega
      have hzk := HZ.out l[k] (List.getElem_mem hkl)
      have hck := hck.out
      rw [Aw.ck_at l k hkl, ← Aw.fstN_eq] at hck
      have hGet := @RuV.get wr A N c l (HS.out.on hbw.out) k hkl
      obtain ⟨rk, hrk⟩ : ∃ r, r = l[k] := ⟨_, rfl⟩
      rw [← hrk] at hGet hzk hck
      have hlt2 : (l.take k).length = k := by rw [List.length_take]; omega
      obtain ⟨tt, htt⟩ : ∃ x, x = Aw.fstN rk (l.take k) := ⟨_, rfl⟩
      rw [← htt] at hck
      have HF0 : Hid (Aw.fstN rk ((l.take k).drop 0) = tt) := Lib.hid htt.symm
      obtain ⟨s, fy, ty, m, d0, wk, d, sec, base, save, t⟩ := rk
      obtain ⟨a, rfl, hab, X⟩ := hGet rfl
      have hs : s.size ≤ maxLen := hzk.1
      have ht : t.size ≤ 100000 := hzk.2
      have hck := Lib.hid hck
      have XK := Lib.hid X
      have HRK := Lib.hid hrk
      have HZK : Hid (s.size ≤ maxLen ∧ t.size ≤ 100000) := Lib.hid ⟨hs, ht⟩
      clear hzk X hGet htt hrk hs ht
      go_wp2_with fail
      go_loopw [5] (fun i wq => ∃ q : Nat, q ≤ k ∧ i = .int .i64 q ∧ Hid (Below wr.heap.size wr wq) ∧ Hid (Aw.fstN (s, fy, ty, m, d0, wk, d, sec, base, save, t) ((l.take k).drop q) = tt)) (fun i _ => k - (intOf i).toNat)
      case atStart => exact ⟨0, Nat.zero_le _, rfl, Lib.hid (Below.refl _ _), HF0⟩
      case round =>
        obtain ⟨q, hq, rfl, hbq, hf⟩ := hrel
        by_cases hlq : q < k
        · have hql : q < l.length := by omega
          have hf := hf.out
          rw [Aw.fstN_at _ _ q (by rw [hlt2]; exact hlq), show (l.take k)[q]'(by rw [hlt2]; exact hlq) = l[q] from List.getElem_take ..] at hf
          have hzq := HZ.out l[q] (List.getElem_mem hql)
          have hGq := @RuV.get _ (some a) N c l ((HS.out.on hbw.out).on hbq.out) q hql
          generalize l[q] = rq at hGq hzq hf
          obtain ⟨s', fy', ty', m', d0', wk', d', sec', base', save', t'⟩ := rq
          obtain ⟨a', ea, hab', Y⟩ := hGq rfl
          injection ea with ea
          subst ea
          have hs' : s'.size ≤ maxLen := hzq.1
          have ht' : t'.size ≤ 100000 := hzq.2
          have XQ : Hid (RuC wr (a.add (k * 11)) s fy ty m d0 wk d sec base save t) := Lib.hid (XK.out.on (by rw [blk_add]; exact hab) hbq.out)
          have YQ := Lib.hid Y
          have hqN : q < N := by omega
          have hab2 : a.block < wr.heap.size := hab'
          have PR := Lib.hid (fun W => rpair27_any s' fy' ty' m' d0' wk' d' sec' base' save' t' s fy ty m d0 wk d sec base save t W hs' ht' HZK.out.1 HZK.out.2)
          obtain ⟨pp, hpp⟩ : ∃ p, p = Aw.pr (Aw.rc (s', fy', ty', m', d0', wk', d', sec', base', save', t')) (Aw.rc (s, fy, ty, m, d0, wk, d, sec, base, save, t)) := ⟨_, rfl⟩
          rw [← hpp] at PR hf
          clear hzq hGq Y hpp hs' ht'
          have k0 := XQ.out.k0
          have y0 := YQ.out.k0
          by_cases hss : s' = s
          · rw [if_pos hss] at hf
            have HF := Lib.hid hf; clear hf
            subst hss
            go_upto_region 7 with (fail)
            go_quiet (fail)
            go_upto_region 8 with (fail)
            clear k0 y0
            refine wp_named ?_; intro w2 hw2
            have d2 : Below wr.heap.size wr w2 := by rw [hw2]; exact (by repeat (first | exact Below.refl _ _ | refine below_drewN ?_ _ | refine Below.drew ?_ | refine Below.setCell ?_ (by first | (simp; done) | (simp; omega) | omega) _ | refine Below.alloc ?_ (by first | (simp; done) | (simp; omega) | omega) _))
            clear hw2
            have X2 := Lib.hid (XQ.out.on (by rw [blk_add]; exact hab2) d2)
            have Y2 := Lib.hid (YQ.out.on (by rw [blk_add]; exact hab2) d2)
            have D2 := Lib.hid (below_step hbq.out d2)
            clear XQ YQ d2
            have qx0 := cell_regrown X2.out.k0
            have qy0 := cell_regrown Y2.out.k0
            have qx1 := cell_regrown X2.out.k1
            have qy1 := cell_regrown Y2.out.k1
            have qx2 := cell_regrown X2.out.k2
            have qy2 := cell_regrown Y2.out.k2
            have qx3 := cell_regrown X2.out.k3
            have qy3 := cell_regrown Y2.out.k3
            have qx4 := cell_regrown X2.out.k4
            have qy4 := cell_regrown Y2.out.k4
            have qx5 := cell_regrown X2.out.k5
            have qy5 := cell_regrown Y2.out.k5
            have qx6 := cell_regrown X2.out.k6
            have qy6 := cell_regrown Y2.out.k6
            have qx7 := cell_regrown X2.out.k7
            have qy7 := cell_regrown Y2.out.k7
            have qx8 := cell_regrown X2.out.k8
            have qy8 := cell_regrown Y2.out.k8
            have qx9 := cell_regrown X2.out.k9
            have qy9 := cell_regrown Y2.out.k9
            have qx10 := cell_regrown X2.out.k10
            have qy10 := cell_regrown Y2.out.k10
            refine wp_region_qb (w := w2) (by kernel_rfl) (by kernel_rfl) (by repeat (first | exact Below.refl _ _ | refine below_drewN ?_ _ | refine Below.drew ?_ | refine Below.setCell ?_ (by first | (simp; done) | (simp; omega) | omega) _ | refine Below.alloc ?_ (by first | (simp; done) | (simp; omega) | omega) _)) ?_
            repeat (any_goals (first | go_big_quiet_step (first | (go_at_call 13; exact Calls.regrown_of (PR.out _))) | quiet_step (first | (go_at_call 13; exact Calls.regrown_of (PR.out _)))))
            refine wpQuiet_nil ?_
            intro w3 hq
            have b3 : Below w2.heap.size w2 w3 := by obtain ⟨p, hq⟩ := hq; rw [hq]; exact below_regrown _ _ _
            have D3 := Lib.hid (below_step D2.out b3)
            clear hq b3 PR qx0 qy0 qx1 qy1 qx2 qy2 qx3 qy3 qx4 qy4 qx5 qy5 qx6 qy6 qx7 qy7 qx8 qy8 qx9 qy9 qx10 qy10
            by_cases hp0 : pp = 0
            · have HI := Lib.hid (show Aw.fstN (s', fy, ty, m, d0, wk, d, sec, base, save, t) ((l.take k).drop (q + 1)) = tt by have := HF.out; rwa [if_pos hp0] at this)
              subst hp0
              go_wp2_with fail
              go_roundw
              case rel => exact ⟨q + 1, by omega, by go_num, D3, HI⟩
              case measure => simp [intOf]; omega
            · have HI := Lib.hid (show pp = tt by have := HF.out; rwa [if_neg hp0] at this)
              have g : (pp == 0) = false := by rw [beq_eq_false_iff_ne]; exact hp0
              have HJ := Lib.hid (show ((k : Int), pp) = tot by have h1 := hck.out; rw [← HI.out, if_neg hp0] at h1; exact h1)
              go_wp2_with fail
              go_ret2
              exact ⟨by rw [HA.out, ← HJ.out]; rfl, below_step hbw.out D3.out⟩
          · rw [if_neg hss] at hf
            have HF := Lib.hid hf; clear hf
            have g : (s'.toList == s.toList) = false := by rw [beq_eq_false_iff_ne, ByteArray.toList_eq, ByteArray.toList_eq]; exact fun e => hss (ByteArray.ext (Array.toList_inj.1 e))
            go_upto_region 7 with (fail)
            go_quiet (fail)
            go_wp2_with fail
            go_roundw
            case rel => exact ⟨q + 1, by omega, by go_num, Lib.hid (below_drewN hbq.out _), HF⟩
            case measure => simp [intOf]; omega
        · have hqk : q = k := by omega
          subst hqk
          have hf2 : (0 : Int) = tt := by rw [← hf.out, List.drop_of_length_le (by rw [hlt2]; omega)]; rfl
          have HI := Lib.hid (show Aw.ck (l.take (q + 1)) (l.drop (q + 1)) = tot by have := hck.out; rw [if_pos hf2.symm] at this; exact this)
          go_wp2_with fail
          go_roundw
          case rel => exact ⟨q + 1, by omega, by go_num, Lib.hid (below_step hbw.out hbq.out), HI⟩
          case measure => simp [intOf]; omega
    · have HI := Lib.hid (show ((-1 : Int), (0 : Int)) = tot by rw [← hck.out]; exact (Aw.ck_end _ _ _ (by have := HN.out; omega)).symm)
      go_wp2_with fail
      go_ret2
      exact ⟨by rw [HA.out, ← HI.out]; rfl, hbw.out⟩
end Go.Proofs.Ytjnhaabbnbcaeaa
