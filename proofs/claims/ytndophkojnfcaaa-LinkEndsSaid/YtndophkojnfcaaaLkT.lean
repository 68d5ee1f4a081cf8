/- The walk of LinkTells, at any input. -/
import Derived.Test.YtndophkojnfcaaaLkN
import Derived.Test.YtndophkojnfcaaaLkF
set_option linter.unusedVariables false
set_option linter.unusedSimpArgs false
namespace Go.Proofs.Ytndophkojnfcaaa
open Go.RowKit Go.Sort

namespace Lk
def fsL (a b : ByteArray) : List ByteArray := if rt a b = true then [a, b] else []
theorem fs_L (a b : ByteArray) : (fsL a b).map (·.data.toList) = (fs a b).1 := by
  unfold fsL fs
  split <;> rfl
theorem fsL_len (a b : ByteArray) : (fsL a b).length ≤ 2 := by
  unfold fsL
  split <;> simp
end Lk
theorem pfields_on (a b : ByteArray) (W : World) (ha : a.size ≤ maxLen) (hb : b.size ≤ maxLen) :
    Calls Try.prog 36 #[.agg #[.string a, .string b]] W fun e w' => ∃ v, StS w' v (Lk.fsL a b) ∧ e = .returned (.tuple #[v, .int .i64 (Lk.fs a b).2]) ∧ Below W.heap.size W w' :=
  (pfields_any a b W ha hb).mono fun e w' ⟨v, l, S, hl, he, h⟩ => ⟨v, by rw [← fd_bytes (hl.trans (Lk.fs_L a b).symm)]; exact S, he, h⟩
theorem rfields_on (a b : ByteArray) (W : World) (ha : a.size ≤ maxLen) (hb : b.size ≤ maxLen) :
    Calls Try.prog 37 #[.agg #[.string a, .string b]] W fun e w' => ∃ v, StS w' v (Lk.fsL a b) ∧ e = .returned (.tuple #[v, .int .i64 (Lk.fs a b).2]) ∧ Below W.heap.size W w' :=
  (rfields_any a b W ha hb).mono fun e w' ⟨v, l, S, hl, he, h⟩ => ⟨v, by rw [← fd_bytes (hl.trans (Lk.fs_L a b).symm)]; exact S, he, h⟩
set_option maxHeartbeats 4000000 in
set_option maxRecDepth 100000 in
theorem lktell_walk (vf : Value) (f : List ByteArray) (tx tn : ByteArray) (vl : Value) (l : List (ByteArray × ByteArray)) (s : ByteArray) (w : World) (SF : StS w vf f) (hzf : ∀ y ∈ f, y.size ≤ maxLen) (htx : tx.size ≤ maxLen) (htn : tn.size ≤ maxLen) (SL : LkS w vl l) (hzl : ∀ p ∈ l, p.1.size ≤ maxLen ∧ p.2.size ≤ maxLen) (hs : s.size ≤ maxLen) :
    Calls Try.prog 7 #[vf, .agg #[.string tx, .string tn], vl, .string s] w fun e w' => e = .returned (.bool true) ∧ Below w.heap.size w w' := by
  obtain ⟨A, c, rfl, -⟩ := id SF
  obtain ⟨A2, c2, rfl, -⟩ := id SL
  have LV := Lib.hid (fun W => lives23 W)
  obtain ⟨N, hN⟩ : ∃ N, N = f.length := ⟨_, rfl⟩
  have HN := Lib.hid hN
  obtain ⟨M, hM⟩ : ∃ N, N = l.length := ⟨_, rfl⟩
  have HM := Lib.hid hM
  have HSF : Hid (StS w (.slice A N c) f) := by rw [hN]; exact SF
  have HSL : Hid (LkS w (.slice A2 M c2) l) := by rw [hM]; exact SL
  rw [← hN, ← hM]
  have HZF := Lib.hid hzf
  have HZL := Lib.hid hzl
  have HSs := Lib.hid hs
  clear hN hM SF SL hzf hzl hs
  have xb : tx.size ≤ 9223372036854775807 := by unfold maxLen at htx; omega
  have nb : tn.size ≤ 9223372036854775807 := by unfold maxLen at htn; omega
  have HTX := Lib.hid htx
  have HTN := Lib.hid htn
  clear htx htn
  have b0 : Below w.heap.size w (w.alloc (.cells #[.string tx, .string tn] 47)) := (Below.refl _ _).alloc (Nat.le_refl _) _
  by_cases h1 : 40 < (N : Int)
  · go_enter Try.func7, Try.ntmps7
    go_wp2_with fail
    refine (LV.out _).mono ?_; rintro e w1 ⟨rfl, b1⟩
    have B1 := Lib.hid (below_step b0 b1)
    clear b0 b1
    go_wp2_with fail
    go_ret
    exact ⟨rfl, B1.out⟩
  · by_cases h2 : 60 < (M : Int)
    · go_enter Try.func7, Try.ntmps7
      go_wp2_with fail
      refine (LV.out _).mono ?_; rintro e w1 ⟨rfl, b1⟩
      have B1 := Lib.hid (below_step b0 b1)
      clear b0 b1
      go_wp2_with fail
      go_ret
      exact ⟨rfl, B1.out⟩
    · by_cases h3 : 500 < (tx.size : Int)
      · go_enter Try.func7, Try.ntmps7
        go_wp2_with fail
        refine (LV.out _).mono ?_; rintro e w1 ⟨rfl, b1⟩
        have B1 := Lib.hid (below_step b0 b1)
        clear b0 b1
        go_wp2_with fail
        go_ret
        exact ⟨rfl, B1.out⟩
      · by_cases h4 : 500 < (tn.size : Int)
        · go_enter Try.func7, Try.ntmps7
          go_wp2_with fail
          refine (LV.out _).mono ?_; rintro e w1 ⟨rfl, b1⟩
          have B1 := Lib.hid (below_step b0 b1)
          clear b0 b1
          go_wp2_with fail
          go_ret
          exact ⟨rfl, B1.out⟩
        · have hNb : N ≤ 40 := by omega
          have hMb : M ≤ 60 := by omega
          go_enter Try.func7, Try.ntmps7
          go_wp2_with fail
          have X0 : Bk2 (w.alloc (.cells #[.string tx, .string tn] 47)) w.heap.size (.string tx) (.string tn) := ⟨by simp, fun j => by simp [go_sem], by simp [go_sem], by simp [go_sem]⟩
          have b0 := Lib.hid b0
          have X0 := Lib.hid X0
          go_loopw [46] (fun i wr => ∃ k : Nat, k ≤ N ∧ i = .int .i64 k ∧ Hid (Bk2 wr w.heap.size (.string tx) (.string tn)) ∧ Hid (Below w.heap.size w wr)) (fun i _ => N - (intOf i).toNat)
          case atStart => exact ⟨0, Nat.zero_le _, rfl, X0, b0⟩
          case round =>
            obtain ⟨k, hk, rfl, hX, hbw⟩ := hrel
            by_cases hlt : k < N
            · have hkl : k < f.length := by have := HN.out; omega
              obtain ⟨a, rfl, g⟩ := (HSF.out.on hbw.out).get k hkl
              have hxz : f[k].size ≤ 9223372036854775807 := by have := HZF.out f[k] (List.getElem_mem hkl); unfold maxLen at this; omega
              generalize f[k] = x at g hxz
              by_cases hx : 300 < (x.size : Int)
              · go_wp2_with fail
                refine (LV.out _).mono ?_; rintro e w1 ⟨rfl, b1⟩
                have B1 := Lib.hid (below_step hbw.out b1)
                clear b1
                go_wp2_with fail
                go_ret
                exact ⟨rfl, B1.out⟩
              · go_wp2_with fail
                go_roundw
                case rel => exact ⟨k + 1, by omega, by go_num, hX, hbw⟩
                case measure => simp [intOf]; omega
            · have R1 := Lib.hid (fun W S => lread_any (.slice A N c) f W S (by have := HN.out; omega) HZF.out)
              have R2 := Lib.hid (fun W S => rlread_any (.slice A N c) f W S (by have := HN.out; omega) HZF.out)
              have F1 := Lib.hid (fun W => pfields_on tx tn W HTX.out HTN.out)
              have F2 := Lib.hid (fun W => rfields_on tx tn W HTX.out HTN.out)
              have G1 := Lib.hid (fun W S => lfollow_any (.slice A2 M c2) l s W S (by have := HM.out; omega) HZL.out HSs.out)
              have G2 := Lib.hid (fun W S => rfollow_any (.slice A2 M c2) l s W S (by have := HM.out; omega))
              have T1 := Lib.hid (fun W => pright_any tx tn W HTX.out HTN.out)
              have T2 := Lib.hid (fun W => rright_any tx tn W HTX.out HTN.out)
              have HFL := Lib.hid (Lk.fsL_len tx tn)
              generalize (Lk.rd f).1.1 = p1 at R1 R2
              generalize (Lk.rd f).1.2 = p2 at R1 R2
              generalize (Lk.rd f).2 = py at R1 R2
              generalize (Lk.fs tx tn).2 = fy at F1 F2
              generalize Lk.fsL tx tn = FL at F1 F2 HFL
              generalize (Lk.ans (Lk.flw (Lk.fst l) (l.length + 1) s)).1 = gs at G1 G2
              generalize (Lk.ans (Lk.flw (Lk.fst l) (l.length + 1) s)).2 = gy at G1 G2
              generalize Lk.rt tx tn = rr at T1 T2
              obtain ⟨FN, hFN⟩ : ∃ n, n = FL.length := ⟨_, rfl⟩
              generalize hW : wr = w1 at hX hbw ⊢
              clear hW
              have B1 := hbw
              have X1 := hX.out
              clear hbw hX X0 b0
              have cX_b := X1.hb
              have cX_f := X1.fz
              have cX_0 := X1.k0
              have cX_1 := X1.k1
              go_wp2_with fail
              clear cX_b cX_f cX_0 cX_1
              refine (R1.out _ (HSF.out.on B1.out)).mono ?_; rintro e w2 ⟨rfl, b2⟩
              have d2 : Below w1.heap.size w1 w2 := below_step (by repeat (first | exact Below.refl _ _ | refine below_drewN ?_ _ | refine Below.drew ?_ | refine Below.setCell ?_ (by first | (simp; done) | (simp; omega) | omega) _ | refine Below.alloc ?_ (by first | (simp; done) | (simp; omega) | omega) _)) b2
              have B2 := Lib.hid (below_step B1.out d2)
              have X2 := X1.keep d2
              clear X1 b2 d2 B1
              have cX_b := X2.hb
              have cX_f := X2.fz
              have cX_0 := X2.k0
              have cX_1 := X2.k1
              go_wp2_with fail
              clear cX_b cX_f cX_0 cX_1
              refine (R2.out _ (HSF.out.on (below_step B2.out (by repeat (first | exact Below.refl _ _ | refine below_drewN ?_ _ | refine Below.drew ?_ | refine Below.setCell ?_ (by first | (simp; done) | (simp; omega) | omega) _ | refine Below.alloc ?_ (by first | (simp; done) | (simp; omega) | omega) _))))).mono ?_; rintro e w3 ⟨rfl, b3⟩
              have d3 : Below w2.heap.size w2 w3 := below_step (by repeat (first | exact Below.refl _ _ | refine below_drewN ?_ _ | refine Below.drew ?_ | refine Below.setCell ?_ (by first | (simp; done) | (simp; omega) | omega) _ | refine Below.alloc ?_ (by first | (simp; done) | (simp; omega) | omega) _)) b3
              have B3 := Lib.hid (below_step B2.out d3)
              have X3 := X2.keep d3
              have aP := B2.out.size
              have P3 : Bk2 w3 (w2.heap.size) (.string p1) (.string p2) := Bk2.of b3 (by simp <;> omega) (by intro j; simp [go_sem]) (by simp [go_sem]) (by simp [go_sem])
              clear X2 b3 d3 B2
              have cX_b := X3.hb
              have cX_f := X3.fz
              have cX_0 := X3.k0
              have cX_1 := X3.k1
              have cP_b := P3.hb
              have cP_f := P3.fz
              have cP_0 := P3.k0
              have cP_1 := P3.k1
              go_wp2_with fail
              clear cX_b cX_f cX_0 cX_1 cP_b cP_f cP_0 cP_1
              refine (F1.out _).mono ?_; rintro e w4 ⟨_, sF, rfl, b4⟩
              have SF_4 := Lib.hid sF; obtain ⟨AF, cF, rfl, -⟩ := sF
              have d4 : Below w3.heap.size w3 w4 := below_step (by repeat (first | exact Below.refl _ _ | refine below_drewN ?_ _ | refine Below.drew ?_ | refine Below.setCell ?_ (by first | (simp; done) | (simp; omega) | omega) _ | refine Below.alloc ?_ (by first | (simp; done) | (simp; omega) | omega) _)) b4
              have B4 := Lib.hid (below_step B3.out d4)
              have X4 := X3.keep d4
              have P4 := P3.keep d4
              have aQ := B3.out.size
              have nQP := Nat.ne_of_lt P3.hb
              have oQP := Nat.ne_of_gt P3.hb
              have Q4 : Bk2 w4 (w3.heap.size) (.string p1) (.string p2) := Bk2.of b4 (by simp <;> omega) (by intro j; simp [go_sem]) (by simp [go_sem]) (by simp [go_sem])
              clear X3 P3 b4 d4 B3
              have cX_b := X4.hb
              have cX_f := X4.fz
              have cX_0 := X4.k0
              have cX_1 := X4.k1
              have cP_b := P4.hb
              have cP_f := P4.fz
              have cP_0 := P4.k0
              have cP_1 := P4.k1
              have cQ_b := Q4.hb
              have cQ_f := Q4.fz
              have cQ_0 := Q4.k0
              have cQ_1 := Q4.k1
              go_wp2_with fail
              clear cX_b cX_f cX_0 cX_1 cP_b cP_f cP_0 cP_1 cQ_b cQ_f cQ_0 cQ_1
              refine (F2.out _).mono ?_; rintro e w5 ⟨_, sG, rfl, b5⟩
              have SG_5 := Lib.hid sG; obtain ⟨AG, cG, rfl, -⟩ := sG
              have d5 : Below w4.heap.size w4 w5 := below_step (by repeat (first | exact Below.refl _ _ | refine below_drewN ?_ _ | refine Below.drew ?_ | refine Below.setCell ?_ (by first | (simp; done) | (simp; omega) | omega) _ | refine Below.alloc ?_ (by first | (simp; done) | (simp; omega) | omega) _)) b5
              have B5 := Lib.hid (below_step B4.out d5)
              have SF_5 := Lib.hid (SF_4.out.on d5)
              have X5 := X4.keep d5
              have P5 := P4.keep d5
              have Q5 := Q4.keep d5
              clear SF_4 X4 P4 Q4 b5 d5 B4
              have cX_b := X5.hb
              have cX_f := X5.fz
              have cX_0 := X5.k0
              have cX_1 := X5.k1
              have cP_b := P5.hb
              have cP_f := P5.fz
              have cP_0 := P5.k0
              have cP_1 := P5.k1
              have cQ_b := Q5.hb
              have cQ_f := Q5.fz
              have cQ_0 := Q5.k0
              have cQ_1 := Q5.k1
              go_wp2_with fail
              clear cX_b cX_f cX_0 cX_1 cP_b cP_f cP_0 cP_1 cQ_b cQ_f cQ_0 cQ_1
              refine (G1.out _ (HSL.out.on B5.out)).mono ?_; rintro e w6 ⟨rfl, b6⟩
              have d6 : Below w5.heap.size w5 w6 := below_step (by repeat (first | exact Below.refl _ _ | refine below_drewN ?_ _ | refine Below.drew ?_ | refine Below.setCell ?_ (by first | (simp; done) | (simp; omega) | omega) _ | refine Below.alloc ?_ (by first | (simp; done) | (simp; omega) | omega) _)) b6
              have B6 := Lib.hid (below_step B5.out d6)
              have SF_6 := Lib.hid (SF_5.out.on d6)
              have SG_6 := Lib.hid (SG_5.out.on d6)
              have X6 := X5.keep d6
              have P6 := P5.keep d6
              have Q6 := Q5.keep d6
              clear SF_5 SG_5 X5 P5 Q5 b6 d6 B5
              have cX_b := X6.hb
              have cX_f := X6.fz
              have cX_0 := X6.k0
              have cX_1 := X6.k1
              have cP_b := P6.hb
              have cP_f := P6.fz
              have cP_0 := P6.k0
              have cP_1 := P6.k1
              have cQ_b := Q6.hb
              have cQ_f := Q6.fz
              have cQ_0 := Q6.k0
              have cQ_1 := Q6.k1
              go_wp2_with fail
              clear cX_b cX_f cX_0 cX_1 cP_b cP_f cP_0 cP_1 cQ_b cQ_f cQ_0 cQ_1
              refine (G2.out _ (HSL.out.on B6.out)).mono ?_; rintro e w7 ⟨rfl, b7⟩
              have d7 : Below w6.heap.size w6 w7 := below_step (by repeat (first | exact Below.refl _ _ | refine below_drewN ?_ _ | refine Below.drew ?_ | refine Below.setCell ?_ (by first | (simp; done) | (simp; omega) | omega) _ | refine Below.alloc ?_ (by first | (simp; done) | (simp; omega) | omega) _)) b7
              have B7 := Lib.hid (below_step B6.out d7)
              have SF_7 := Lib.hid (SF_6.out.on d7)
              have SG_7 := Lib.hid (SG_6.out.on d7)
              have X7 := X6.keep d7
              have P7 := P6.keep d7
              have Q7 := Q6.keep d7
              clear SF_6 SG_6 X6 P6 Q6 b7 d7 B6
              have cX_b := X7.hb
              have cX_f := X7.fz
              have cX_0 := X7.k0
              have cX_1 := X7.k1
              have cP_b := P7.hb
              have cP_f := P7.fz
              have cP_0 := P7.k0
              have cP_1 := P7.k1
              have cQ_b := Q7.hb
              have cQ_f := Q7.fz
              have cQ_0 := Q7.k0
              have cQ_1 := Q7.k1
              go_wp2_with fail
              clear cX_b cX_f cX_0 cX_1 cP_b cP_f cP_0 cP_1 cQ_b cQ_f cQ_0 cQ_1
              have qX_0 := cell_regrown X7.k0
              have qX_1 := cell_regrown X7.k1
              have qP_0 := cell_regrown P7.k0
              have qP_1 := cell_regrown P7.k1
              have qQ_0 := cell_regrown Q7.k0
              have qQ_1 := cell_regrown Q7.k1
              refine wp_region_qb (w := w7) (by kernel_rfl) (by kernel_rfl) (by repeat (first | exact Below.refl _ _ | refine below_drewN ?_ _ | refine Below.drew ?_ | refine Below.setCell ?_ (by first | (simp; done) | (simp; omega) | omega) _ | refine Below.alloc ?_ (by first | (simp; done) | (simp; omega) | omega) _)) ?_
              repeat (any_goals (first | go_big_quiet_step (first | (go_at_call 32; exact Calls.regrown_of (same13_yes _ _ FL _ (by have := HFL.out; omega) (SF_7.out.on (below_regrown _ _ _)) (SG_7.out.on (below_regrown _ _ _)))) | (go_at_call 40; exact Calls.regrown_of (T1.out _)) | (go_at_call 41; exact Calls.regrown_of (T2.out _)) | (go_at_call 33; exact Calls.regrown_of (LV.out _))) | quiet_step (first | (go_at_call 32; exact Calls.regrown_of (same13_yes _ _ FL _ (by have := HFL.out; omega) (SF_7.out.on (below_regrown _ _ _)) (SG_7.out.on (below_regrown _ _ _)))) | (go_at_call 40; exact Calls.regrown_of (T1.out _)) | (go_at_call 41; exact Calls.regrown_of (T2.out _)) | (go_at_call 33; exact Calls.regrown_of (LV.out _)))))
              refine wpQuiet_nil ?_
              intro w8 hq
              have b8 : Below w7.heap.size w7 w8 := by obtain ⟨p, hq⟩ := hq; rw [hq]; exact below_regrown _ _ _
              clear hq qX_0 qX_1 qP_0 qP_1 qQ_0 qQ_1
              have d8 : Below w7.heap.size w7 w8 := below_step (by repeat (first | exact Below.refl _ _ | refine below_drewN ?_ _ | refine Below.drew ?_ | refine Below.setCell ?_ (by first | (simp; done) | (simp; omega) | omega) _ | refine Below.alloc ?_ (by first | (simp; done) | (simp; omega) | omega) _)) b8
              have B8 := Lib.hid (below_step B7.out d8)
              have SF_8 := Lib.hid (SF_7.out.on d8)
              have SG_8 := Lib.hid (SG_7.out.on d8)
              have X8 := X7.keep d8
              have P8 := P7.keep d8
              have Q8 := Q7.keep d8
              clear SF_7 SG_7 X7 P7 Q7 b8 d8 B7
              have cX_b := X8.hb
              have cX_f := X8.fz
              have cX_0 := X8.k0
              have cX_1 := X8.k1
              have cP_b := P8.hb
              have cP_f := P8.fz
              have cP_0 := P8.k0
              have cP_1 := P8.k1
              have cQ_b := Q8.hb
              have cQ_f := Q8.fz
              have cQ_0 := Q8.k0
              have cQ_1 := Q8.k1
              go_wp2_with fail
              clear cX_b cX_f cX_0 cX_1 cP_b cP_f cP_0 cP_1 cQ_b cQ_f cQ_0 cQ_1
              go_ret
              exact ⟨rfl, B8.out⟩
end Go.Proofs.Ytndophkojnfcaaa

