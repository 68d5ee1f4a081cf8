/- StoreTells: the walk. -/
import Derived.Test.YtmnmmbeageddkaaStQ
import Derived.Test.YtmnmmbeageddkaaIfF
import Derived.Deep.CutRange
import Derived.Deep.CutBlock
import Derived.Deep.RegionHeld3
set_option linter.unusedVariables false
set_option linter.unusedSimpArgs false
namespace Go.Proofs.Ytmnmmbeageddkaa
open Go.RowKit Go.Sort Go.Shelf

theorem below_eq38 {W w' : World} {n : Nat} (h : w' = W.drewN n) : Below W.heap.size W w' := by subst h; exact below_draw _ _
set_option maxRecDepth 100000 in
set_option maxHeartbeats 32000000 in
theorem storeTells_any (room : Int) (va : Value) (a : List Sg.T) (w : World) (h : SgV w va a) :
    Calls Try.prog 3 #[.int .i64 room, va] w fun e w' => e = .returned (.bool true) ∧ Below w.heap.size w w' := by
  obtain ⟨A, c, rfl, -⟩ := id h
  have H := Lib.hid h
  clear h
  go_enter Try.func3, Try.ntmps3
  by_cases ha : (60 : Int) < a.length
  · go_wp2_with fail
    refine (lives38 _).mono ?_
    rintro e w1 ⟨rfl, b1⟩
    go_wp2
    go_ret
    exact ⟨rfl, b1⟩
  obtain ⟨n, hn⟩ : ∃ n, a.length = n := ⟨_, rfl⟩
  rw [hn] at H ha ⊢
  have HN := Lib.hid hn
  have n60 := Lib.hid (show n ≤ 60 by omega)
  clear hn
  go_wp2_with fail
  refine (st_new room _ w.heap.size (Nat.le_refl _)).mono ?_
  rintro e w1 ⟨b1, ⟨hr, rfl⟩ | ⟨hr, p, rfl, m1⟩⟩
  · have HR := Lib.hid hr
    go_wp2_with fail
    refine (rf_new room _ w.heap.size b1.size).mono ?_
    rintro e w2 ⟨b2, ⟨-, rfl⟩ | ⟨h2, -⟩⟩
    · have B2 := Lib.hid (below_step b1 b2)
      clear b1 b2 hr
      go_wp2_with fail
      refine (lives38 _).mono ?_
      rintro e w3 ⟨rfl, b3⟩
      go_wp2
      go_ret
      exact ⟨rfl, below_step B2.out b3⟩
    · exfalso; omega
  have HR := Lib.hid hr
  go_wp2_with fail
  refine (rf_new room _ w.heap.size b1.size).mono ?_
  rintro e w2 ⟨b2, ⟨h2, -⟩ | ⟨-, m, rfl, m2⟩⟩
  · exfalso; omega
  have E2 := Lib.hid (show EP w w2 p m room [] [] from ⟨below_step b1 b2, ⟨_, _, m1.on b2⟩, ⟨_, m2⟩⟩)
  clear b1 b2 m1 m2 hr
  go_wp2_with fail
  go_loopw [52] (fun i wr => ∃ (k : Nat) (L : List If.I), k ≤ n ∧ i = .int .i64 k ∧ Hid (EP w wr p m room L L) ∧ Hid (Sk.Kept L) ∧ Hid (L.length ≤ k ∧ (L.length : Int) ≤ room)) (fun i _ => n - (intOf i).toNat)
  case atStart => exact ⟨0, [], Nat.zero_le _, rfl, E2, Lib.hid kept0, Lib.hid ⟨Nat.le_refl _, by have := HR.out; simp; omega⟩⟩
  case round =>
    rename World => w3
    obtain ⟨k, L, hk, rfl, E3, K3, LL⟩ := hrel
    by_cases hlt : k < n
    · have hkl : k < a.length := by rw [HN.out]; exact hlt
      obtain ⟨ad, rfl, hab, g0, g1, g2, g3, g4, g5, g6⟩ := (H.out.on E3.out.1).get k hkl
      generalize a[k] = st at *
      obtain ⟨kd, ⟨x0, x1, x2, x3, x4⟩, t⟩ := st
      dsimp only at g0 g1 g2 g3 g4 g5 g6
      have i1 : (k : Int) < n := by omega
      have k60 : k ≤ 60 := by have := n60.out; omega
      have l60 : L.length ≤ 60 := by have := LL.out.1; omega
      go_upto_region 12 with (fail)
      have X4 := Lib.hid (show SgB (w3.alloc (.cells #[.int .i64 kd, .int .i64 x0, .int .i64 x1, .int .i64 x2, .int .i64 x3, .string x4, .int .i64 t] 38)) w3.heap.size #[.int .i64 kd, .int .i64 x0, .int .i64 x1, .int .i64 x2, .int .i64 x3, .string x4, .int .i64 t] from Blk.new w3 38 #[.int .i64 kd, .int .i64 x0, .int .i64 x1, .int .i64 x2, .int .i64 x3, .string x4, .int .i64 t])
      have bq : Below w3.heap.size w3 (w3.alloc (.cells #[.int .i64 kd, .int .i64 x0, .int .i64 x1, .int .i64 x2, .int .i64 x3, .string x4, .int .i64 t] 38)) := (Below.refl _ _).alloc (Nat.le_refl _) _
      have E4 := Lib.hid (E3.out.on bq)
      clear bq E3 g0 g1 g2 g3 g4 g5 g6 hab E2
      generalize w3.alloc (.cells #[.int .i64 kd, .int .i64 x0, .int .i64 x1, .int .i64 x2, .int .i64 x3, .string x4, .int .i64 t] 38) = w4 at *
      generalize w3.heap.size = g at *
      have c0 := X4.out.c0
      go_upto_block 2 with fail
      clear c0
      go_cut [58] from 58 to 79 (fun _ wx => ∃ M : List If.I, Hid (EP w wx p m room M M) ∧ Hid (SgB wx g #[.int .i64 kd, .int .i64 x0, .int .i64 x1, .int .i64 x2, .int .i64 x3, .string x4, .int .i64 t]) ∧ Hid (Sk.Kept M) ∧ Hid (M.length ≤ k + 1 ∧ (M.length : Int) ≤ room))
      case first =>
        have SKX : ∀ w', SgB w' g #[.int .i64 kd, .int .i64 x0, .int .i64 x1, .int .i64 x2, .int .i64 x3, .string x4, .int .i64 t] → (fun w' => w'.cell? ⟨g, 1, none⟩ = some (.int .i64 x0) ∧ w'.cell? ⟨g, 2, none⟩ = some (.int .i64 x1) ∧ w'.cell? ⟨g, 3, none⟩ = some (.int .i64 x2) ∧ w'.cell? ⟨g, 4, none⟩ = some (.int .i64 x3) ∧ w'.cell? ⟨g, 5, none⟩ = some (.string x4) ∧ w'.cell? ⟨g, 6, none⟩ = some (.int .i64 t)) w' := fun w' b => ⟨b.c1, b.c2, b.c3, b.c4, b.c5, b.c6⟩
        by_cases hk0 : kd = 0
        · subst hk0
          obtain ⟨⟨q, M⟩, hq⟩ : ∃ r, Sk.put room (x0, x1, x2, x3, x4) L = r := ⟨_, rfl⟩
          obtain ⟨pk, -, -, pq⟩ := Sk.put_all room (x0, x1, x2, x3, x4) L K3.out
          have HM := Lib.hid (show Sk.Kept M ∧ M.length ≤ k + 1 ∧ (M.length : Int) ≤ room by
            have h1 := LL.out.1; have h2 := LL.out.2
            have hne : (q = 0 ∧ M.length = L.length + 1 → (L.length : Int) ≠ room) := by
              rintro ⟨e1, e2⟩ e3
              have h3 : (Sk.put room (x0, x1, x2, x3, x4) L).1 ≠ 0 ∨ (Sk.put room (x0, x1, x2, x3, x4) L).2.length = L.length := by
                unfold Sk.put
                repeat' split
                all_goals first | (right; rfl) | (left; decide) | (exfalso; simp_all; done) | contradiction
              rw [hq] at h3
              rcases h3 with h3 | h3
              · exact h3 e1
              · dsimp only at h3; omega
            rw [hq] at pk pq
            refine ⟨pk, ?_, ?_⟩
            · rcases pq with ⟨_, hm⟩ | ⟨_, hm⟩ <;> dsimp only at hm <;> omega
            · rcases pq with ⟨h0, hm⟩ | ⟨_, hm⟩
              · dsimp only at h0 hm
                have := hne ⟨h0, hm⟩; omega
              · dsimp only at hm; omega)
          clear pk pq
          have HQ := Lib.hid hq
          clear hq
          go_upto_region 14 with (fail)
          have bq : Below w4.heap.size w4 w4.drew := (Below.refl _ _).drew
          have EA := Lib.hid (E4.out.on bq); have XA := Lib.hid (X4.out.on bq)
          clear bq
          go_region_held3 (fun w' => w'.cell? ⟨g, 1, none⟩ = some (.int .i64 x0) ∧ w'.cell? ⟨g, 2, none⟩ = some (.int .i64 x1) ∧ w'.cell? ⟨g, 3, none⟩ = some (.int .i64 x2) ∧ w'.cell? ⟨g, 4, none⟩ = some (.int .i64 x3) ∧ w'.cell? ⟨g, 5, none⟩ = some (.string x4) ∧ w'.cell? ⟨g, 6, none⟩ = some (.int .i64 t)) ((first | exact SKX _ (hbC _ _ (hbB _ _ XA.out)) | exact SKX _ (hbB _ _ XA.out) | exact SKX _ XA.out)) (first
            | (go_at_call 11; refine (put_s (l' := M) (q := q) (x := (x0, x1, x2, x3, x4)) EA.out K3.out (by omega) HQ.out).mono ?_; rintro e w' ⟨rfl, EB, hbB⟩)
            | (go_at_call 12; refine (put_m (l' := M) (q := q) (x := (x0, x1, x2, x3, x4)) EA.out K3.out (by omega) LL.out.2 HQ.out).mono ?_; rintro e w' ⟨rfl, EB, hbB⟩)
            | (go_at_call 11; refine (put_s (l' := M) (q := q) (x := (x0, x1, x2, x3, x4)) EB K3.out (by omega) HQ.out).mono ?_; rintro e w' ⟨rfl, EC, hbC⟩)
            | (go_at_call 12; refine (put_m (l' := M) (q := q) (x := (x0, x1, x2, x3, x4)) EB K3.out (by omega) LL.out.2 HQ.out).mono ?_; rintro e w' ⟨rfl, EC, hbC⟩))
          all_goals (
            have EC2 := Lib.hid EC; have XC := Lib.hid (hbC _ _ (hbB _ _ XA.out))
            clear EC EB hbB hbC EA XA SKX
            go_wp2
            go_meet
            case rel => exact ⟨M, EC2, XC, Lib.hid HM.out.1, Lib.hid HM.out.2⟩)
        · by_cases hk1 : kd = 1
          · subst hk1
            obtain ⟨⟨q, M⟩, hq⟩ : ∃ r, Sk.drop t L = r := ⟨_, rfl⟩
            obtain ⟨pk, pl⟩ := Rf.kept_drop (t := t) K3.out
            have HM := Lib.hid (show Sk.Kept M ∧ M.length ≤ k + 1 ∧ (M.length : Int) ≤ room by
              have h1 := LL.out.1; have h2 := LL.out.2
              rw [hq] at pk pl
              dsimp only at pk pl
              exact ⟨pk, by omega, by omega⟩)
            clear pk pl
            have HQ := Lib.hid hq
            clear hq
            go_upto_region 17 with (fail)
            have bq : Below w4.heap.size w4 w4.drew := (Below.refl _ _).drew
            have EA := Lib.hid (E4.out.on bq); have XA := Lib.hid (X4.out.on bq)
            clear bq
            go_region_held3 (fun w' => w'.cell? ⟨g, 1, none⟩ = some (.int .i64 x0) ∧ w'.cell? ⟨g, 2, none⟩ = some (.int .i64 x1) ∧ w'.cell? ⟨g, 3, none⟩ = some (.int .i64 x2) ∧ w'.cell? ⟨g, 4, none⟩ = some (.int .i64 x3) ∧ w'.cell? ⟨g, 5, none⟩ = some (.string x4) ∧ w'.cell? ⟨g, 6, none⟩ = some (.int .i64 t)) ((first | exact SKX _ (hbC _ _ (hbB _ _ XA.out)) | exact SKX _ (hbB _ _ XA.out) | exact SKX _ XA.out)) (first
              | (go_at_call 13; refine (drop_s (l' := M) (q := q) EA.out K3.out (by omega) HQ.out).mono ?_; rintro e w' ⟨rfl, EB, hbB⟩)
              | (go_at_call 14; refine (drop_m (l' := M) (q := q) EA.out K3.out (by omega) HQ.out).mono ?_; rintro e w' ⟨rfl, EB, hbB⟩)
              | (go_at_call 13; refine (drop_s (l' := M) (q := q) EB K3.out (by omega) HQ.out).mono ?_; rintro e w' ⟨rfl, EC, hbC⟩)
              | (go_at_call 14; refine (drop_m (l' := M) (q := q) EB K3.out (by omega) HQ.out).mono ?_; rintro e w' ⟨rfl, EC, hbC⟩))
            all_goals (
              have EC2 := Lib.hid EC; have XC := Lib.hid (hbC _ _ (hbB _ _ XA.out))
              clear EC EB hbB hbC EA XA SKX
              go_wp2
              go_meet
              case rel => exact ⟨M, EC2, XC, Lib.hid HM.out.1, Lib.hid HM.out.2⟩)
          · have n1 : (kd == 0) = false := by rw [beq_eq_false_iff_ne]; exact hk0
            have n2 : (kd == 1) = false := by rw [beq_eq_false_iff_ne]; exact hk1
            clear SKX
            go_wp2
            go_meet
            case rel => exact ⟨L, E4, X4, K3, Lib.hid ⟨by have := LL.out.1; omega, LL.out.2⟩⟩
      case rest =>
        obtain ⟨M, E5, X5, KM, LM⟩ := hcut
        clear E4 X4 K3 LL l60
        have m61 : M.length ≤ 61 := by have := LM.out.1; omega
        obtain ⟨is, his⟩ : ∃ b, Sk.has t M = b := ⟨_, rfl⟩
        obtain ⟨⟨y0, y1, y2, y3, y4⟩, hy⟩ : ∃ y, Sk.fnd t M = y := ⟨_, rfl⟩
        obtain ⟨⟨⟨p0, p1, p2, p3, p4⟩, ra⟩, hA⟩ : ∃ r, Sk.nearA t M = r := ⟨_, rfl⟩
        obtain ⟨⟨⟨r0, r1, r2, r3, r4⟩, rb⟩, hB⟩ : ∃ r, Sk.nearB t M = r := ⟨_, rfl⟩
        have HIS := Lib.hid his; have HY := Lib.hid hy; have HA := Lib.hid hA; have HB := Lib.hid hB
        clear his hy hA hB
        rename_i wx _
        have c6 := X5.out.c6
        go_wp2_with fail
        refine (find_s E5.out KM.out (by omega) HY.out HIS.out).mono ?_
        rintro e v1 ⟨rfl, b⟩
        have E6 := Lib.hid (E5.out.on b); have X6 := Lib.hid (X5.out.on b)
        clear b E5 X5 c6
        go_upto_region 20 with (fail)
        have Ya := Lib.hid (Blk.new v1 36 #[.int .i64 y0, .int .i64 y1, .int .i64 y2, .int .i64 y3, .string y4])
        have bq := (show Below v1.heap.size v1 (v1.alloc (.cells #[.int .i64 y0, .int .i64 y1, .int .i64 y2, .int .i64 y3, .string y4] 36)) from (Below.refl _ _).alloc (Nat.le_refl _) _)
        have E7 := Lib.hid (E6.out.on bq); have X7 := Lib.hid (X6.out.on bq)
        clear bq E6 X6
        generalize v1.alloc (.cells #[.int .i64 y0, .int .i64 y1, .int .i64 y2, .int .i64 y3, .string y4] 36) = v2 at *
        generalize v1.heap.size = ga at *
        have c6 := X7.out.c6
        go_wp2_with fail
        refine (find_m E7.out KM.out (by omega) HY.out HIS.out).mono ?_
        rintro e v3 ⟨rfl, b⟩
        have E8 := Lib.hid (E7.out.on b); have X8 := Lib.hid (X7.out.on b); have Yb := Lib.hid (Ya.out.on b)
        clear b E7 X7 Ya c6
        go_upto_region 21 with (fail)
        have Zb := Lib.hid (Blk.new v3 36 #[.int .i64 y0, .int .i64 y1, .int .i64 y2, .int .i64 y3, .string y4])
        have bq := (show Below v3.heap.size v3 (v3.alloc (.cells #[.int .i64 y0, .int .i64 y1, .int .i64 y2, .int .i64 y3, .string y4] 36)) from (Below.refl _ _).alloc (Nat.le_refl _) _)
        have E9 := Lib.hid (E8.out.on bq); have X9 := Lib.hid (X8.out.on bq); have Yc := Lib.hid (Yb.out.on bq)
        clear bq E8 X8 Yb
        generalize v3.alloc (.cells #[.int .i64 y0, .int .i64 y1, .int .i64 y2, .int .i64 y3, .string y4] 36) = v4 at *
        generalize v3.heap.size = gb at *
        have c6 := X9.out.c6
        go_wp2_with fail
        refine (near_s E9.out KM.out (by omega) HA.out HB.out).mono ?_
        rintro e v5 ⟨rfl, b⟩
        have E10 := Lib.hid (E9.out.on b); have X10 := Lib.hid (X9.out.on b); have Yd := Lib.hid (Yc.out.on b); have Zd := Lib.hid (Zb.out.on b)
        clear b E9 X9 Yc Zb c6
        go_upto_region 22 with (fail)
        obtain ⟨np, nr, nn⟩ := two_new v5 36 #[.int .i64 p0, .int .i64 p1, .int .i64 p2, .int .i64 p3, .string p4] #[.int .i64 r0, .int .i64 r1, .int .i64 r2, .int .i64 r3, .string r4]
        have Pa := Lib.hid np; have Ra := Lib.hid nr
        have E11 := Lib.hid (E10.out.on nn); have X11 := Lib.hid (X10.out.on nn); have Ye := Lib.hid (Yd.out.on nn); have Ze := Lib.hid (Zd.out.on nn)
        clear np nr nn E10 X10 Yd Zd
        generalize (v5.alloc (.cells #[.int .i64 p0, .int .i64 p1, .int .i64 p2, .int .i64 p3, .string p4] 36)).alloc (.cells #[.int .i64 r0, .int .i64 r1, .int .i64 r2, .int .i64 r3, .string r4] 36) = v6 at *
        obtain ⟨gd, hgd⟩ : ∃ x, v5.heap.size + 1 = x := ⟨_, rfl⟩
        rw [hgd] at Ra ⊢
        clear hgd
        generalize v5.heap.size = gc at *
        have c6 := X11.out.c6
        go_wp2_with fail
        refine (near_m E11.out KM.out (by omega) HA.out HB.out).mono ?_
        rintro e v7 ⟨rfl, b⟩
        have E12 := Lib.hid (E11.out.on b); have Yf := Lib.hid (Ye.out.on b); have Zf := Lib.hid (Ze.out.on b); have Pb := Lib.hid (Pa.out.on b); have Rb := Lib.hid (Ra.out.on b)
        clear b E11 X11 Ye Ze Pa Ra c6
        go_upto_region 23 with (fail)
        obtain ⟨np, nr, nn⟩ := two_new v7 36 #[.int .i64 p0, .int .i64 p1, .int .i64 p2, .int .i64 p3, .string p4] #[.int .i64 r0, .int .i64 r1, .int .i64 r2, .int .i64 r3, .string r4]
        have Pc := Lib.hid np; have Rc := Lib.hid nr
        have E13 := Lib.hid (E12.out.on nn); have Yg := Lib.hid (Yf.out.on nn); have Zg := Lib.hid (Zf.out.on nn); have Pd := Lib.hid (Pb.out.on nn); have Rd := Lib.hid (Rb.out.on nn)
        clear np nr nn E12 Yf Zf Pb Rb
        generalize (v7.alloc (.cells #[.int .i64 p0, .int .i64 p1, .int .i64 p2, .int .i64 p3, .string p4] 36)).alloc (.cells #[.int .i64 r0, .int .i64 r1, .int .i64 r2, .int .i64 r3, .string r4] 36) = w9 at *
        obtain ⟨gf, hgf⟩ : ∃ x, v7.heap.size + 1 = x := ⟨_, rfl⟩
        rw [hgf] at Rc ⊢
        clear hgf
        generalize v7.heap.size = ge at *
        have HMM := E13.out.2.2
        obtain ⟨V, hm⟩ := HMM
        obtain ⟨AV, cV, rfl⟩ := hm.form
        have RM := Lib.hid hm
        clear hm
        have SK : ∀ w', Below w9.heap.size w9 w' → (fun w' => Below w9.heap.size w9 w' ∧ w'.cell? ⟨m, 1, none⟩ = some (.slice AV M.length cV) ∧ w'.cell? ⟨ga, 0, none⟩ = some (.int .i64 y0) ∧ w'.cell? ⟨ga, 1, none⟩ = some (.int .i64 y1) ∧ w'.cell? ⟨ga, 2, none⟩ = some (.int .i64 y2) ∧ w'.cell? ⟨ga, 3, none⟩ = some (.int .i64 y3) ∧ w'.cell? ⟨ga, 4, none⟩ = some (.string y4) ∧ w'.cell? ⟨gb, 0, none⟩ = some (.int .i64 y0) ∧ w'.cell? ⟨gb, 1, none⟩ = some (.int .i64 y1) ∧ w'.cell? ⟨gb, 2, none⟩ = some (.int .i64 y2) ∧ w'.cell? ⟨gb, 3, none⟩ = some (.int .i64 y3) ∧ w'.cell? ⟨gb, 4, none⟩ = some (.string y4) ∧ w'.cell? ⟨gc, 0, none⟩ = some (.int .i64 p0) ∧ w'.cell? ⟨gc, 1, none⟩ = some (.int .i64 p1) ∧ w'.cell? ⟨gc, 2, none⟩ = some (.int .i64 p2) ∧ w'.cell? ⟨gc, 3, none⟩ = some (.int .i64 p3) ∧ w'.cell? ⟨gc, 4, none⟩ = some (.string p4) ∧ w'.cell? ⟨gd, 0, none⟩ = some (.int .i64 r0) ∧ w'.cell? ⟨gd, 1, none⟩ = some (.int .i64 r1) ∧ w'.cell? ⟨gd, 2, none⟩ = some (.int .i64 r2) ∧ w'.cell? ⟨gd, 3, none⟩ = some (.int .i64 r3) ∧ w'.cell? ⟨gd, 4, none⟩ = some (.string r4) ∧ w'.cell? ⟨ge, 0, none⟩ = some (.int .i64 p0) ∧ w'.cell? ⟨ge, 1, none⟩ = some (.int .i64 p1) ∧ w'.cell? ⟨ge, 2, none⟩ = some (.int .i64 p2) ∧ w'.cell? ⟨ge, 3, none⟩ = some (.int .i64 p3) ∧ w'.cell? ⟨ge, 4, none⟩ = some (.string p4) ∧ w'.cell? ⟨gf, 0, none⟩ = some (.int .i64 r0) ∧ w'.cell? ⟨gf, 1, none⟩ = some (.int .i64 r1) ∧ w'.cell? ⟨gf, 2, none⟩ = some (.int .i64 r2) ∧ w'.cell? ⟨gf, 3, none⟩ = some (.int .i64 r3) ∧ w'.cell? ⟨gf, 4, none⟩ = some (.string r4)) w' := fun w' b => ⟨b, (RM.out.on b).blk.c1, (Yg.out.on b).c0, (Yg.out.on b).c1, (Yg.out.on b).c2, (Yg.out.on b).c3, (Yg.out.on b).c4, (Zg.out.on b).c0, (Zg.out.on b).c1, (Zg.out.on b).c2, (Zg.out.on b).c3, (Zg.out.on b).c4, (Pd.out.on b).c0, (Pd.out.on b).c1, (Pd.out.on b).c2, (Pd.out.on b).c3, (Pd.out.on b).c4, (Rd.out.on b).c0, (Rd.out.on b).c1, (Rd.out.on b).c2, (Rd.out.on b).c3, (Rd.out.on b).c4, (Pc.out.on b).c0, (Pc.out.on b).c1, (Pc.out.on b).c2, (Pc.out.on b).c3, (Pc.out.on b).c4, (Rc.out.on b).c0, (Rc.out.on b).c1, (Rc.out.on b).c2, (Rc.out.on b).c3, (Rc.out.on b).c4⟩
        clear HIS HY HA HB
        go_region_held3 (fun w' => Below w9.heap.size w9 w' ∧ w'.cell? ⟨m, 1, none⟩ = some (.slice AV M.length cV) ∧ w'.cell? ⟨ga, 0, none⟩ = some (.int .i64 y0) ∧ w'.cell? ⟨ga, 1, none⟩ = some (.int .i64 y1) ∧ w'.cell? ⟨ga, 2, none⟩ = some (.int .i64 y2) ∧ w'.cell? ⟨ga, 3, none⟩ = some (.int .i64 y3) ∧ w'.cell? ⟨ga, 4, none⟩ = some (.string y4) ∧ w'.cell? ⟨gb, 0, none⟩ = some (.int .i64 y0) ∧ w'.cell? ⟨gb, 1, none⟩ = some (.int .i64 y1) ∧ w'.cell? ⟨gb, 2, none⟩ = some (.int .i64 y2) ∧ w'.cell? ⟨gb, 3, none⟩ = some (.int .i64 y3) ∧ w'.cell? ⟨gb, 4, none⟩ = some (.string y4) ∧ w'.cell? ⟨gc, 0, none⟩ = some (.int .i64 p0) ∧ w'.cell? ⟨gc, 1, none⟩ = some (.int .i64 p1) ∧ w'.cell? ⟨gc, 2, none⟩ = some (.int .i64 p2) ∧ w'.cell? ⟨gc, 3, none⟩ = some (.int .i64 p3) ∧ w'.cell? ⟨gc, 4, none⟩ = some (.string p4) ∧ w'.cell? ⟨gd, 0, none⟩ = some (.int .i64 r0) ∧ w'.cell? ⟨gd, 1, none⟩ = some (.int .i64 r1) ∧ w'.cell? ⟨gd, 2, none⟩ = some (.int .i64 r2) ∧ w'.cell? ⟨gd, 3, none⟩ = some (.int .i64 r3) ∧ w'.cell? ⟨gd, 4, none⟩ = some (.string r4) ∧ w'.cell? ⟨ge, 0, none⟩ = some (.int .i64 p0) ∧ w'.cell? ⟨ge, 1, none⟩ = some (.int .i64 p1) ∧ w'.cell? ⟨ge, 2, none⟩ = some (.int .i64 p2) ∧ w'.cell? ⟨ge, 3, none⟩ = some (.int .i64 p3) ∧ w'.cell? ⟨ge, 4, none⟩ = some (.string p4) ∧ w'.cell? ⟨gf, 0, none⟩ = some (.int .i64 r0) ∧ w'.cell? ⟨gf, 1, none⟩ = some (.int .i64 r1) ∧ w'.cell? ⟨gf, 2, none⟩ = some (.int .i64 r2) ∧ w'.cell? ⟨gf, 3, none⟩ = some (.int .i64 r3) ∧ w'.cell? ⟨gf, 4, none⟩ = some (.string r4)) ((first | exact SK _ (below_step (And.left (by assumption)) bL) | exact SK _ (below_step (And.left (by assumption)) (below_draw _ _)) | exact SK _ (Below.drew (Below.refl _ _)))) (first
          | (go_at_call 19; refine (len_s (E13.out.on (And.left (by assumption)))).mono ?_; rintro e w' ⟨rfl, bL⟩)
          | (go_at_call 21; refine (list_s (E13.out.on (And.left (by assumption))) (by omega)).mono ?_; rintro e w' ⟨⟨AL, cL, rfl, hI⟩, bL⟩)
          | (go_at_call 20; have hJ := (RM.out.on (show Below w9.heap.size w9 _ from And.left (by assumption))).inv; refine (if_same _ _ M _ hI hJ (by omega)).mono ?_; rintro e w' ⟨rfl, nn, hw⟩; have bL := below_eq38 hw))
        all_goals (
          have hb : Below w9.heap.size w9 _ := And.left (by assumption)
          have BB := Lib.hid (E13.out.on hb)
          clear hb SK E13 Yg Zg Pc Rc Pd Rd RM
          go_wp2
          go_roundw
          case rel => exact ⟨k + 1, M, by omega, by go_num, BB, KM, LM⟩
          case measure => simp [intOf]; omega)
    · have i1 : ¬ (k : Int) < n := by omega
      go_wp2_with fail
      refine (lives38 _).mono ?_
      rintro e w4 ⟨rfl, b4⟩
      go_wp2
      go_ret
      exact ⟨rfl, below_step E3.out.1 b4⟩
end Go.Proofs.Ytmnmmbeageddkaa
