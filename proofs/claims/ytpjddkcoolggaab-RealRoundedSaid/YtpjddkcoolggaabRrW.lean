/- The walk of RealRounded: whatever is handed in, the law answers true; nothing old turns. -/
import Derived.Test.YtpjddkcoolggaabLiv2
import Derived.Test.YtpjddkcoolggaabRrM
set_option linter.unusedVariables false
set_option linter.unusedSimpArgs false
namespace Go.Proofs.Ytpjddkcoolggaab
open Go.RowKit Go.Sort

theorem tmod_bd (n : Int) : -1000000 < n.tmod 1000000 ∧ n.tmod 1000000 < 1000000 := by
  have h := Int.tmod_lt_of_pos n (b := 1000000) (by decide)
  have h2 := Int.lt_tmod_of_pos n (b := 1000000) (by decide)
  omega
set_option maxHeartbeats 16000000 in
set_option maxRecDepth 100000 in
theorem rrnd_walk (a : Nat) (n : Int) (w : World) (ha : a < 18446744073709551616) (hn : -9223372036854775808 ≤ n ∧ n ≤ 9223372036854775807) :
    Calls Try.prog 5 #[.float .f64 a, .int .i64 n] w fun e w' => e = .returned (.bool true) ∧ Below w.heap.size w w' := by
  have HA := Lib.hid ha
  obtain ⟨b0, b1⟩ := tmod_bd n
  have KN := Lib.hid (Fl.near_int_fin (n := n.tmod 1000000) (by omega) (by omega))
  obtain ⟨fk, vk⟩ := Fl.V_int (n := n.tmod 1000000) (by omega) (by omega)
  have K1 := Lib.hid (Fl.ww_0 fk vk (Fl.wayOf 1) (by omega) (by omega))
  have K2 := Lib.hid (Fl.ww_0 fk vk (Fl.wayOf 2) (by omega) (by omega))
  have K3 := Lib.hid (Fl.ww_0 fk vk (Fl.wayOf 3) (by omega) (by omega))
  have K4 := Lib.hid (Fl.ww_0 fk vk (Fl.wayOf 4) (by omega) (by omega))
  clear fk vk b0 b1 ha
  obtain ⟨m, hm⟩ : ∃ m, n.tmod 1000000 = m := ⟨_, rfl⟩
  rw [hm] at KN K1 K2 K3 K4
  have HMM := Lib.hid hm
  clear hm hn
  go_enter Try.func5, Try.ntmps5
  go_wp2_with fail
  refine (lives2 _).mono ?_; rintro e w1 ⟨rfl, b1⟩
  have B1 := Lib.hid b1
  clear b1
  go_wp2_with fail
  refine (round_down a HA.out _).mono ?_; rintro e w' ⟨d, k0, hd, rfl, rfl⟩
  have HD := Lib.hid hd; clear hd
  go_wp2_with fail
  refine (round_up a HA.out _).mono ?_; rintro e w' ⟨u, k1, hu, rfl, rfl⟩
  have HU := Lib.hid hu; clear hu
  go_wp2_with fail
  refine (round_zero a HA.out _).mono ?_; rintro e w' ⟨z, k2, hz, rfl, rfl⟩
  have HZ := Lib.hid hz; clear hz
  go_wp2_with fail
  refine (round_even a HA.out _).mono ?_; rintro e w' ⟨v, k3, hv, rfl, rfl⟩
  have HV := Lib.hid hv; clear hv
  generalize hW : World.drewN _ _ = w2
  have B2 := Lib.hid (show Below w.heap.size w w2 from by rw [← hW]; repeat (first | exact B1.out | refine below_drewN ?_ _))
  clear hW B1
  go_wp2_with fail
  refine wp_loop_rounds 5 ?_
  rw [rounds_succ]
  go_wp2_with fail
  refine wp_loop_rounds 5 ?_
  rw [rounds_succ]
  go_wp2_with fail
  refine (round_ok d 1 HD.out.1 (by decide) (by decide) _).mono ?_; rintro e w' ⟨y, kk, hy, rfl, rfl⟩
  have HS := Lib.hid (Fl.Rd_twice HA.out HD.out hy)
  have HL := Lib.hid hy.1
  clear hy
  go_wp2_with fail
  refine (same_any d y HD.out.1 HL.out _).mono ?_; rintro e w' ⟨rfl, rfl⟩
  rw [HS.out]
  clear HS HL
  go_wp2_with fail
  rw [rounds_succ]
  go_wp2_with fail
  refine (round_ok u 1 HU.out.1 (by decide) (by decide) _).mono ?_; rintro e w' ⟨y, kk, hy, rfl, rfl⟩
  have HS := Lib.hid (Fl.Rd_twice HA.out HU.out hy)
  have HL := Lib.hid hy.1
  clear hy
  go_wp2_with fail
  refine (same_any u y HU.out.1 HL.out _).mono ?_; rintro e w' ⟨rfl, rfl⟩
  rw [HS.out]
  clear HS HL
  go_wp2_with fail
  rw [rounds_succ]
  go_wp2_with fail
  refine (round_ok z 1 HZ.out.1 (by decide) (by decide) _).mono ?_; rintro e w' ⟨y, kk, hy, rfl, rfl⟩
  have HS := Lib.hid (Fl.Rd_twice HA.out HZ.out hy)
  have HL := Lib.hid hy.1
  clear hy
  go_wp2_with fail
  refine (same_any z y HZ.out.1 HL.out _).mono ?_; rintro e w' ⟨rfl, rfl⟩
  rw [HS.out]
  clear HS HL
  go_wp2_with fail
  rw [rounds_succ]
  go_wp2_with fail
  refine (round_ok v 1 HV.out.1 (by decide) (by decide) _).mono ?_; rintro e w' ⟨y, kk, hy, rfl, rfl⟩
  have HS := Lib.hid (Fl.Rd_twice HA.out HV.out hy)
  have HL := Lib.hid hy.1
  clear hy
  go_wp2_with fail
  refine (same_any v y HV.out.1 HL.out _).mono ?_; rintro e w' ⟨rfl, rfl⟩
  rw [HS.out]
  clear HS HL
  go_wp2_with fail
  rw [rounds_succ]
  go_wp2_with fail
  generalize hW : World.drewN _ _ = w3
  have B3 := Lib.hid (show Below w.heap.size w w3 from by rw [← hW]; have hz := B2.out.size; repeat (first | exact B2.out | refine below_drewN ?_ _ | refine Below.alloc ?_ (by first | omega | (simp; omega)) _))
  clear hW B2
  rw [HMM.out, show floatOfInt .f64 m = FloatKind.f64.nearest m from rfl]
  refine (whole_any (FloatKind.f64.nearest m) 1 KN.out.2 (by decide) (by decide) _).mono ?_; rintro e w' ⟨rfl, kk, rfl⟩
  rw [K1.out.1, K1.out.2]
  generalize hW : World.drewN w3 _ = x3
  have X3 := Lib.hid (show Below w.heap.size w x3 from by rw [← hW]; exact below_drewN B3.out _)
  clear hW B3
  have hm := HMM.out
  go_wp2_with fail
  clear hm
  rw [rounds_succ]
  go_wp2_with fail
  refine wp_loop_rounds 5 ?_
  rw [rounds_succ]
  go_wp2_with fail
  refine (round_ok d 2 HD.out.1 (by decide) (by decide) _).mono ?_; rintro e w' ⟨y, kk, hy, rfl, rfl⟩
  have HS := Lib.hid (Fl.Rd_twice HA.out HD.out hy)
  have HL := Lib.hid hy.1
  clear hy
  go_wp2_with fail
  refine (same_any d y HD.out.1 HL.out _).mono ?_; rintro e w' ⟨rfl, rfl⟩
  rw [HS.out]
  clear HS HL
  go_wp2_with fail
  rw [rounds_succ]
  go_wp2_with fail
  refine (round_ok u 2 HU.out.1 (by decide) (by decide) _).mono ?_; rintro e w' ⟨y, kk, hy, rfl, rfl⟩
  have HS := Lib.hid (Fl.Rd_twice HA.out HU.out hy)
  have HL := Lib.hid hy.1
  clear hy
  go_wp2_with fail
  refine (same_any u y HU.out.1 HL.out _).mono ?_; rintro e w' ⟨rfl, rfl⟩
  rw [HS.out]
  clear HS HL
  go_wp2_with fail
  rw [rounds_succ]
  go_wp2_with fail
  refine (round_ok z 2 HZ.out.1 (by decide) (by decide) _).mono ?_; rintro e w' ⟨y, kk, hy, rfl, rfl⟩
  have HS := Lib.hid (Fl.Rd_twice HA.out HZ.out hy)
  have HL := Lib.hid hy.1
  clear hy
  go_wp2_with fail
  refine (same_any z y HZ.out.1 HL.out _).mono ?_; rintro e w' ⟨rfl, rfl⟩
  rw [HS.out]
  clear HS HL
  go_wp2_with fail
  rw [rounds_succ]
  go_wp2_with fail
  refine (round_ok v 2 HV.out.1 (by decide) (by decide) _).mono ?_; rintro e w' ⟨y, kk, hy, rfl, rfl⟩
  have HS := Lib.hid (Fl.Rd_twice HA.out HV.out hy)
  have HL := Lib.hid hy.1
  clear hy
  go_wp2_with fail
  refine (same_any v y HV.out.1 HL.out _).mono ?_; rintro e w' ⟨rfl, rfl⟩
  rw [HS.out]
  clear HS HL
  go_wp2_with fail
  rw [rounds_succ]
  go_wp2_with fail
  generalize hW : World.drewN _ _ = w4
  have B4 := Lib.hid (show Below w.heap.size w w4 from by rw [← hW]; have hz := X3.out.size; repeat (first | exact X3.out | refine below_drewN ?_ _ | refine Below.alloc ?_ (by first | omega | (simp; omega)) _))
  clear hW X3
  rw [HMM.out, show floatOfInt .f64 m = FloatKind.f64.nearest m from rfl]
  refine (whole_any (FloatKind.f64.nearest m) 2 KN.out.2 (by decide) (by decide) _).mono ?_; rintro e w' ⟨rfl, kk, rfl⟩
  rw [K2.out.1, K2.out.2]
  generalize hW : World.drewN w4 _ = x4
  have X4 := Lib.hid (show Below w.heap.size w x4 from by rw [← hW]; exact below_drewN B4.out _)
  clear hW B4
  have hm := HMM.out
  go_wp2_with fail
  clear hm
  rw [rounds_succ]
  go_wp2_with fail
  refine wp_loop_rounds 5 ?_
  rw [rounds_succ]
  go_wp2_with fail
  refine (round_ok d 3 HD.out.1 (by decide) (by decide) _).mono ?_; rintro e w' ⟨y, kk, hy, rfl, rfl⟩
  have HS := Lib.hid (Fl.Rd_twice HA.out HD.out hy)
  have HL := Lib.hid hy.1
  clear hy
  go_wp2_with fail
  refine (same_any d y HD.out.1 HL.out _).mono ?_; rintro e w' ⟨rfl, rfl⟩
  rw [HS.out]
  clear HS HL
  go_wp2_with fail
  rw [rounds_succ]
  go_wp2_with fail
  refine (round_ok u 3 HU.out.1 (by decide) (by decide) _).mono ?_; rintro e w' ⟨y, kk, hy, rfl, rfl⟩
  have HS := Lib.hid (Fl.Rd_twice HA.out HU.out hy)
  have HL := Lib.hid hy.1
  clear hy
  go_wp2_with fail
  refine (same_any u y HU.out.1 HL.out _).mono ?_; rintro e w' ⟨rfl, rfl⟩
  rw [HS.out]
  clear HS HL
  go_wp2_with fail
  rw [rounds_succ]
  go_wp2_with fail
  refine (round_ok z 3 HZ.out.1 (by decide) (by decide) _).mono ?_; rintro e w' ⟨y, kk, hy, rfl, rfl⟩
  have HS := Lib.hid (Fl.Rd_twice HA.out HZ.out hy)
  have HL := Lib.hid hy.1
  clear hy
  go_wp2_with fail
  refine (same_any z y HZ.out.1 HL.out _).mono ?_; rintro e w' ⟨rfl, rfl⟩
  rw [HS.out]
  clear HS HL
  go_wp2_with fail
  rw [rounds_succ]
  go_wp2_with fail
  refine (round_ok v 3 HV.out.1 (by decide) (by decide) _).mono ?_; rintro e w' ⟨y, kk, hy, rfl, rfl⟩
  have HS := Lib.hid (Fl.Rd_twice HA.out HV.out hy)
  have HL := Lib.hid hy.1
  clear hy
  go_wp2_with fail
  refine (same_any v y HV.out.1 HL.out _).mono ?_; rintro e w' ⟨rfl, rfl⟩
  rw [HS.out]
  clear HS HL
  go_wp2_with fail
  rw [rounds_succ]
  go_wp2_with fail
  generalize hW : World.drewN _ _ = w5
  have B5 := Lib.hid (show Below w.heap.size w w5 from by rw [← hW]; have hz := X4.out.size; repeat (first | exact X4.out | refine below_drewN ?_ _ | refine Below.alloc ?_ (by first | omega | (simp; omega)) _))
  clear hW X4
  rw [HMM.out, show floatOfInt .f64 m = FloatKind.f64.nearest m from rfl]
  refine (whole_any (FloatKind.f64.nearest m) 3 KN.out.2 (by decide) (by decide) _).mono ?_; rintro e w' ⟨rfl, kk, rfl⟩
  rw [K3.out.1, K3.out.2]
  generalize hW : World.drewN w5 _ = x5
  have X5 := Lib.hid (show Below w.heap.size w x5 from by rw [← hW]; exact below_drewN B5.out _)
  clear hW B5
  have hm := HMM.out
  go_wp2_with fail
  clear hm
  rw [rounds_succ]
  go_wp2_with fail
  refine wp_loop_rounds 5 ?_
  rw [rounds_succ]
  go_wp2_with fail
  refine (round_ok d 4 HD.out.1 (by decide) (by decide) _).mono ?_; rintro e w' ⟨y, kk, hy, rfl, rfl⟩
  have HS := Lib.hid (Fl.Rd_twice HA.out HD.out hy)
  have HL := Lib.hid hy.1
  clear hy
  go_wp2_with fail
  refine (same_any d y HD.out.1 HL.out _).mono ?_; rintro e w' ⟨rfl, rfl⟩
  rw [HS.out]
  clear HS HL
  go_wp2_with fail
  rw [rounds_succ]
  go_wp2_with fail
  refine (round_ok u 4 HU.out.1 (by decide) (by decide) _).mono ?_; rintro e w' ⟨y, kk, hy, rfl, rfl⟩
  have HS := Lib.hid (Fl.Rd_twice HA.out HU.out hy)
  have HL := Lib.hid hy.1
  clear hy
  go_wp2_with fail
  refine (same_any u y HU.out.1 HL.out _).mono ?_; rintro e w' ⟨rfl, rfl⟩
  rw [HS.out]
  clear HS HL
  go_wp2_with fail
  rw [rounds_succ]
  go_wp2_with fail
  refine (round_ok z 4 HZ.out.1 (by decide) (by decide) _).mono ?_; rintro e w' ⟨y, kk, hy, rfl, rfl⟩
  have HS := Lib.hid (Fl.Rd_twice HA.out HZ.out hy)
  have HL := Lib.hid hy.1
  clear hy
  go_wp2_with fail
  refine (same_any z y HZ.out.1 HL.out _).mono ?_; rintro e w' ⟨rfl, rfl⟩
  rw [HS.out]
  clear HS HL
  go_wp2_with fail
  rw [rounds_succ]
  go_wp2_with fail
  refine (round_ok v 4 HV.out.1 (by decide) (by decide) _).mono ?_; rintro e w' ⟨y, kk, hy, rfl, rfl⟩
  have HS := Lib.hid (Fl.Rd_twice HA.out HV.out hy)
  have HL := Lib.hid hy.1
  clear hy
  go_wp2_with fail
  refine (same_any v y HV.out.1 HL.out _).mono ?_; rintro e w' ⟨rfl, rfl⟩
  rw [HS.out]
  clear HS HL
  go_wp2_with fail
  rw [rounds_succ]
  go_wp2_with fail
  generalize hW : World.drewN _ _ = w6
  have B6 := Lib.hid (show Below w.heap.size w w6 from by rw [← hW]; have hz := X5.out.size; repeat (first | exact X5.out | refine below_drewN ?_ _ | refine Below.alloc ?_ (by first | omega | (simp; omega)) _))
  clear hW X5
  rw [HMM.out, show floatOfInt .f64 m = FloatKind.f64.nearest m from rfl]
  refine (whole_any (FloatKind.f64.nearest m) 4 KN.out.2 (by decide) (by decide) _).mono ?_; rintro e w' ⟨rfl, kk, rfl⟩
  rw [K4.out.1, K4.out.2]
  generalize hW : World.drewN w6 _ = x6
  have X6 := Lib.hid (show Below w.heap.size w x6 from by rw [← hW]; exact below_drewN B6.out _)
  clear hW B6
  have hm := HMM.out
  go_wp2_with fail
  clear hm
  rw [rounds_succ]
  rcases Nat.lt_trichotomy (Fl.rg a) Fl.inf with h | h | h
  · have fa : Fl.fin a := h
    obtain ⟨fd, -, vd, -, -⟩ := HD.out.fin h
    obtain ⟨fu, -, vu, -, -⟩ := HU.out.fin h
    obtain ⟨fz, -, vz, -, -⟩ := HZ.out.fin h
    obtain ⟨fv, -, vv, -, -⟩ := HV.out.fin h
    obtain ⟨r1, r2, r3, r4, r5, r6, r7, r8, r9⟩ := Fl.rnd fa
    rw [← vd] at r1
    rw [← vu] at r2
    have hU := Fl.U_pos
    have ud : Fl.V u - Fl.V d = 0 ∨ Fl.V u - Fl.V d = (Fl.U : Int) := by
      rw [vu, vd, ← Int.sub_mul]
      rcases (by omega : Fl.wn .up a - Fl.wn .down a = 0 ∨ Fl.wn .up a - Fl.wn .down a = 1) with e | e
      · left; rw [e]; exact Int.zero_mul _
      · right; rw [e]; exact Int.one_mul _
    obtain ⟨s, hs, fs, vs, -⟩ := Fl.sub_one fu fd (by omega) (by omega)
    obtain ⟨p, hp, fp, vp, Rp, ip, ep, np⟩ := Fl.sub_one fu fa (by omega) (by omega)
    obtain ⟨q, hq, fq, vq, Rq, iq, eq, nq⟩ := Fl.sub_one fa fd (by omega) (by omega)
    have rs : ∀ w, (binOp .sub 22 (.float .f64 u) (.float .f64 d)).run Try.prog w = .ok (.float .f64 s) w := fun w => run_float_arith w .sub _ .f64 _ _ _ hs
    have rp : ∀ w, (binOp .sub 22 (.float .f64 u) (.float .f64 a)).run Try.prog w = .ok (.float .f64 p) w := fun w => run_float_arith w .sub _ .f64 _ _ _ hp
    have rq : ∀ w, (binOp .sub 22 (.float .f64 a) (.float .f64 d)).run Try.prog w = .ok (.float .f64 q) w := fun w => run_float_arith w .sub _ .f64 _ _ _ hq
    have t0 := (Fl.ord_self a).trans (Fl.fin_nan fa)
    have g1 := (Fl.ord_gt fd fa).trans (decide_eq_false (by omega))
    have g2 := (Fl.ord_lt fu fa).trans (decide_eq_false (by omega))
    have g3 := (Fl.ord_gt fs Fl.one_fin.1).trans (decide_eq_false (by rw [Fl.one_fin.2]; omega))
    have pq : Fl.V u - Fl.V a ≤ Fl.V a - Fl.V d → Fl.V p ≤ Fl.V q := fun hle => by rw [ep, eq]; exact Fl.sum_mono np nq Fl.sub_sg Fl.sub_sg ip iq hle
    have qp : Fl.V a - Fl.V d ≤ Fl.V u - Fl.V a → Fl.V q ≤ Fl.V p := fun hle => by rw [ep, eq]; exact Fl.sum_mono nq np Fl.sub_sg Fl.sub_sg iq ip hle
    have zd : 0 ≤ Fl.V a → (FloatKind.f64.format.order z d != some Ordering.eq) = false := fun hle => by
      have e : (FloatKind.f64.format.order z d == some Ordering.eq) = true := (Fl.ord_eq fz fd).trans (decide_eq_true (by rw [vz, vd, r5 hle]))
      show (!(FloatKind.f64.format.order z d == some Ordering.eq)) = false
      rw [e]; rfl
    have zu : Fl.V a ≤ 0 → (FloatKind.f64.format.order z u != some Ordering.eq) = false := fun hle => by
      have e : (FloatKind.f64.format.order z u == some Ordering.eq) = true := (Fl.ord_eq fz fu).trans (decide_eq_true (by rw [vz, vu, r6 hle]))
      show (!(FloatKind.f64.format.order z u == some Ordering.eq)) = false
      rw [e]; rfl
    have ca := Fl.ord_gt fa Fl.fin_00
    have cb := Fl.ord_eq fa Fl.fin_00
    have cc := Fl.ord_lt fa Fl.fin_00
    rw [Fl.V_00] at ca cb cc
    have v1 := Fl.ord_eq fv fd
    have v2 := Fl.ord_eq fv fu
    have k1 : Fl.V v ≠ Fl.V d → Fl.V u - Fl.V a ≤ Fl.V a - Fl.V d := fun hne => by
      rw [vu, vd]; exact r8 (fun e => hne (by rw [vv, vd, e]))
    have k2 : Fl.V v ≠ Fl.V u → Fl.V a - Fl.V d ≤ Fl.V u - Fl.V a := fun hne => by
      rw [vu, vd]; exact r9 (fun e => hne (by rw [vv, vu, e]))
    have k3 : Fl.V v = Fl.V d ∨ Fl.V v = Fl.V u := by
      rw [vv, vd, vu]; rcases r7 with e | e <;> rw [e] <;> simp
    clear r5 r6 r7 r8 r9 vz vv hs hp hq np nq ep eq
    have sg : ((FloatKind.f64.format.order a 0 == some Ordering.gt || FloatKind.f64.format.order a 0 == some Ordering.eq) = true ∧ (FloatKind.f64.format.order a 0 == some Ordering.lt || FloatKind.f64.format.order a 0 == some Ordering.eq) = false ∧ 0 ≤ Fl.V a) ∨
        ((FloatKind.f64.format.order a 0 == some Ordering.gt || FloatKind.f64.format.order a 0 == some Ordering.eq) = false ∧ (FloatKind.f64.format.order a 0 == some Ordering.lt || FloatKind.f64.format.order a 0 == some Ordering.eq) = true ∧ Fl.V a ≤ 0) ∨
        ((FloatKind.f64.format.order a 0 == some Ordering.gt || FloatKind.f64.format.order a 0 == some Ordering.eq) = true ∧ (FloatKind.f64.format.order a 0 == some Ordering.lt || FloatKind.f64.format.order a 0 == some Ordering.eq) = true ∧ Fl.V a = 0) := by
      rw [ca, cb, cc]
      rcases Int.lt_trichotomy (Fl.V a) 0 with hh | hh | hh
      · right; left; simp; omega
      · right; right; simp; omega
      · left; simp; omega
    have ev : ((FloatKind.f64.format.order v d == some Ordering.eq) = true ∧ (FloatKind.f64.format.order v u == some Ordering.eq) = true) ∨
        ((FloatKind.f64.format.order v d == some Ordering.eq) = true ∧ (FloatKind.f64.format.order v u == some Ordering.eq) = false ∧ (FloatKind.f64.format.order q p == some Ordering.lt || FloatKind.f64.format.order q p == some Ordering.eq) = true) ∨
        ((FloatKind.f64.format.order v d == some Ordering.eq) = false ∧ (FloatKind.f64.format.order v u == some Ordering.eq) = true ∧ (FloatKind.f64.format.order p q == some Ordering.lt || FloatKind.f64.format.order p q == some Ordering.eq) = true) := by
      rw [v1, v2]
      by_cases h1 : Fl.V v = Fl.V d
      · by_cases h2 : Fl.V v = Fl.V u
        · left; exact ⟨decide_eq_true h1, decide_eq_true h2⟩
        · right; left; exact ⟨decide_eq_true h1, decide_eq_false h2, Fl.le_t fq fp (qp (k2 h2))⟩
      · have h2 : Fl.V v = Fl.V u := by rcases k3 with e | e; exact absurd e h1; exact e
        right; right; exact ⟨decide_eq_false h1, decide_eq_true h2, Fl.le_t fp fq (pq (k1 h1))⟩
    have ZD := Lib.hid zd
    have ZU := Lib.hid zu
    clear zd zu ca cb cc v1 v2 k1 k2 k3 pq qp r1 r2 r3 r4 ud vs vp vq vd vu fs fp fq fz fv fd fu fa h hU ip iq
    rcases sg with ⟨s1, s2, s3⟩ | ⟨s1, s2, s3⟩ | ⟨s1, s2, s3⟩
    · have zd := ZD.out s3
      clear s3
      rcases ev with ⟨e1, e2⟩ | ⟨e1, e2, e3⟩ | ⟨e1, e2, e3⟩
      all_goals
        go_wp2
        go_ret
        exact ⟨rfl, X6.out⟩
    · have zu := ZU.out s3
      clear s3
      rcases ev with ⟨e1, e2⟩ | ⟨e1, e2, e3⟩ | ⟨e1, e2, e3⟩
      all_goals
        go_wp2
        go_ret
        exact ⟨rfl, X6.out⟩
    · have zd := ZD.out (by omega)
      have zu := ZU.out (by omega)
      clear s3
      rcases ev with ⟨e1, e2⟩ | ⟨e1, e2, e3⟩ | ⟨e1, e2, e3⟩
      all_goals
        go_wp2
        go_ret
        exact ⟨rfl, X6.out⟩
  · have ed := HD.out.inf HA.out h
    have eu := HU.out.inf HA.out h
    have ez := HZ.out.inf HA.out h
    have ev := HV.out.inf HA.out h
    have hn : Fl.nan a = false := Fl.nan_false.2 (by omega)
    have t0 := (Fl.ord_self a).trans hn
    have o0 : FloatKind.f64.format.order a a = some .eq := by
      show Ieee.double.order a a = _
      rw [Fl.order_infs h h]; cases Fl.ng a <;> rfl
    have g1 : (FloatKind.f64.format.order a a == some Ordering.gt) = false := by rw [o0]; rfl
    have g2 : (FloatKind.f64.format.order a a == some Ordering.lt) = false := by rw [o0]; rfl
    have g4 : (FloatKind.f64.format.order a a == some Ordering.eq) = true := by rw [o0]; rfl
    obtain ⟨qn, hq1, hq2, rs⟩ := Fl.nan_run Try.prog .sub (.inr (.inl rfl)) 22 a a (by
      show Ieee.double.sub a a = none
      unfold Ieee.Format.sub
      rw [Fl.read_inf h]
      cases Fl.ng a <;> rfl) x6
    have g3 : (FloatKind.f64.format.order qn 4607182418800017408 == some Ordering.gt) = false := by
      show (Ieee.double.order qn 4607182418800017408 == some Ordering.gt) = false
      rw [Fl.order_nan1 (Fl.nan_true.1 hq1)]; rfl
    have c1 : (FloatKind.f64.format.order a 0 == some Ordering.gt) = !Fl.ng a := by
      show (Ieee.double.order a 0 == some Ordering.gt) = _
      rw [Fl.order_inf1 h Fl.fin_00]; cases Fl.ng a <;> rfl
    have c2 : (FloatKind.f64.format.order a 0 == some Ordering.lt) = Fl.ng a := by
      show (Ieee.double.order a 0 == some Ordering.lt) = _
      rw [Fl.order_inf1 h Fl.fin_00]; cases Fl.ng a <;> rfl
    have c3 : (FloatKind.f64.format.order a 0 == some Ordering.eq) = false := by
      show (Ieee.double.order a 0 == some Ordering.eq) = _
      rw [Fl.order_inf1 h Fl.fin_00]; cases Fl.ng a <;> rfl
    rw [ed, eu, ez, ev]
    clear ed eu ez ev hn o0 hq1 hq2 h HD HU HZ HV
    cases hg : Fl.ng a
    all_goals
      rw [hg] at c1 c2
      clear hg
      go_wp2
      go_ret
      exact ⟨rfl, by repeat (first | exact X6.out | refine below_drewN ?_ _ | refine Below.drew ?_)⟩
  · have hn : Fl.nan a = true := Fl.nan_true.2 h
    have t0 := (Fl.ord_self a).trans hn
    have t1 := (Fl.ord_self d).trans (HD.out.2.1 hn)
    have t2 := (Fl.ord_self u).trans (HU.out.2.1 hn)
    have t3 := (Fl.ord_self z).trans (HZ.out.2.1 hn)
    have t4 := (Fl.ord_self v).trans (HV.out.2.1 hn)
    clear hn h
    go_wp2
    go_ret
    exact ⟨rfl, X6.out⟩
end Go.Proofs.Ytpjddkcoolggaab
